/- Package special, its rows as plain functions: tests, answers, lines, and what the first line that holds answers. -/
import Derived.Test.YtkkccnpmcbpdnaaGreatDoorBits
namespace Go.Proofs.YtkkccnpmcbpdnaaGreatDoor

abbrev Ro := Int × Int × Int
abbrev Te := Int → Int → Bool
abbrev An := Int → Int → Ro
abbrev Li := Te × An

def tZero : Te := fun x _ => classV x == 1
def tInf : Te := fun x _ => classV x == 4
def tQuiet : Te := fun x _ => classV x == 5
def tSignal : Te := fun x _ => classV x == 6
def tMinus : Te := fun x _ => sgnB x
def tPlus : Te := fun x _ => !sgnB x
def tWhole : Te := fun x _ => wholeB x
def tBroken : Te := fun x _ => !wholeB x
def tOdd : Te := fun x _ => oddB x
def tBeyond : Te := fun x _ => lessB 4607182418800017408 (absV x)
def tIs (c : Int) : Te := fun x _ => x == c
def tBelow (c : Int) : Te := fun x _ => lessB x c
def tHalf : Te := fun x _ => (joinE (expV x + 1) (fracV x) == 0) && oddB (joinV (sgnB x) (expV x + 1) (fracV x))
def cutX (x : Int) : Int := x / 2 ^ (-lastV x).toNat * 2 ^ (-lastV x).toNat
def tOddPart : Te := fun x _ => if (!(lastE x == 0) || decide (lastV x < -52)) = true then false else if lastV x < 0 then oddB (cutX x) else oddB x
def tOfY (t : Te) : Te := fun x y => t y x
def tEither (t : Te) : Te := fun x y => t x y || t y x
def tBoth (s t : Te) : Te := fun x y => s x y && t x y
def tGrow : Te := fun x y => lessB 4607182418800017408 (absV x) == !sgnB y

def aAlways (b f k : Int) : An := fun _ _ => (b, f, k)
def aTold (b : Int) : An := aAlways b 0 4
def aLimit (b : Int) : An := aAlways b 16 5
def aPole (b : Int) : An := aAlways b 2 3
def aInvalid : An := aAlways 9221120237041090560 1 1
def aNoNumber : An := aAlways 9221120237041090560 0 1
def aOutside : An := aAlways 9221120237041090560 1 2
def aItself : An := fun x _ => (x, 0, 4)
def orA (x y : Int) : Int := bits .or .u64 (absV x) (absV y)
def aAmounts : An := fun x y => (orA x y, 0, 4)
def turnR (b : Bool) (r : Ro) : Ro := if b then (negV r.1, r.2) else r
def aTurned (t : Te) (a : An) : An := fun x y => turnR (t x y) (a x y)
def aSigned (a : An) : An := aTurned tMinus a
def aSignedOdd (a : An) : An := aTurned (tBoth tMinus (tOfY tOdd)) a

def rowsAt : List Li → Int → Int → Ro
  | [], _, _ => (0, 0, 0)
  | l :: ls, x, y => if l.1 x y then l.2 x y else rowsAt ls x y

def lExp : List Li := [(tZero, aTold 4607182418800017408), (tIs 18442240474082181120, aTold 0), (tIs 9218868437227405312, aItself)]
def lExpm1 : List Li := [(tZero, aItself), (tIs 18442240474082181120, aTold 13830554455654793216), (tIs 9218868437227405312, aItself)]
def lLog : List Li := [(tZero, aPole 18442240474082181120), (tBelow 0, aOutside), (tIs 4607182418800017408, aTold 0), (tIs 9218868437227405312, aItself)]
def lLog1p : List Li := [(tZero, aItself), (tIs 13830554455654793216, aPole 18442240474082181120), (tBelow 13830554455654793216, aOutside), (tIs 9218868437227405312, aItself)]
def lSin : List Li := [(tZero, aItself), (tInf, aOutside)]
def lCos : List Li := [(tZero, aTold 4607182418800017408), (tInf, aOutside)]
def lSinpi : List Li := [(tInf, aOutside), (tWhole, aSigned (aTold 0))]
def lCospi : List Li := [(tInf, aOutside), (tHalf, aTold 0)]
def lTanpi : List Li := [(tInf, aOutside), (tWhole, aSigned (aTurned tOddPart (aTold 0))), (tHalf, aSigned (aTurned tOddPart (aPole 9218868437227405312)))]
def lAsin : List Li := [(tZero, aItself), (tBeyond, aOutside)]
def lAcos : List Li := [(tIs 4607182418800017408, aTold 0), (tBeyond, aOutside)]
def lAtan : List Li := [(tZero, aItself), (tInf, aSigned (aLimit 4609753056924675352))]
def lAtanpi : List Li := [(tZero, aItself), (tInf, aSigned (aTold 4602678819172646912))]
def lThem : List Li := [(tZero, aItself), (tInf, aItself)]
def lCosh : List Li := [(tZero, aTold 4607182418800017408), (tInf, aTold 9218868437227405312)]
def lTanh : List Li := [(tZero, aItself), (tInf, aSigned (aTold 4607182418800017408))]
def lAcosh : List Li := [(tBelow 4607182418800017408, aOutside), (tIs 4607182418800017408, aTold 0), (tIs 9218868437227405312, aItself)]
def lAtanh : List Li := [(tZero, aItself), (tIs 4607182418800017408, aPole 9218868437227405312), (tIs 13830554455654793216, aPole 18442240474082181120), (tBeyond, aOutside)]
def lRsqrt : List Li := [(tZero, aSigned (aPole 9218868437227405312)), (tBelow 0, aOutside), (tIs 9218868437227405312, aTold 0)]
def lAngle (q h t p : Int) (tell : Int → An) : List Li :=
  [(tBoth tZero (tOfY tPlus), aItself), (tZero, aSigned (tell p)), (tOfY tZero, aSigned (tell h)),
   (tBoth tInf (tOfY (tIs 9218868437227405312)), aSigned (tell q)), (tBoth tInf (tOfY (tIs 18442240474082181120)), aSigned (tell t)),
   (tInf, aSigned (tell h)), (tOfY (tIs 9218868437227405312), aSigned (aTold 0)), (tOfY (tIs 18442240474082181120), aSigned (tell p))]
def lRad : List Li := lAngle 4605249457297304856 4609753056924675352 4612488097114038738 4614256656552045848 aLimit
def lTurn : List Li := lAngle 4598175219545276416 4602678819172646912 4604930618986332160 4607182418800017408 aTold
def lAny : List Li := [(tIs 4607182418800017408, aTold 4607182418800017408), (tOfY tZero, aTold 4607182418800017408)]
def lPow : List Li :=
  [(tBoth tZero (tOfY (tIs 18442240474082181120)), aTold 9218868437227405312), (tBoth tZero (tOfY (tBelow 0)), aSignedOdd (aPole 9218868437227405312)),
   (tZero, aSignedOdd (aTold 0)), (tBoth (tOfY tInf) (tIs 13830554455654793216), aTold 4607182418800017408),
   (tBoth (tOfY tInf) tGrow, aTold 9218868437227405312), (tOfY tInf, aTold 0), (tBoth tInf (tOfY (tBelow 0)), aSignedOdd (aTold 0)),
   (tInf, aSignedOdd (aTold 9218868437227405312)), (tBoth (tBelow 0) (tOfY tBroken), aOutside)]
def lFar : List Li := [(tEither tInf, aTold 9218868437227405312)]
def lDist : List Li := [(tEither tZero, aAmounts)]

def withN (a b : List Li) : List Li := (tEither tSignal, aInvalid) :: (a ++ (tEither tQuiet, aNoNumber) :: b)

/-- the rows of a function of one argument, by its number -/
def oneL (f : Int) : List Li :=
  if f ≤ 3 then lExp else if f ≤ 6 then lExpm1 else if f ≤ 9 then lLog else if f ≤ 12 then lLog1p
  else if f = 14 then lCos else if f ≤ 15 then lSin
  else if f = 16 then lSinpi else if f = 17 then lCospi else if f = 18 then lTanpi
  else if f = 19 ∨ f = 22 then lAsin else if f = 20 ∨ f = 23 then lAcos else if f = 21 then lAtan else if f = 24 then lAtanpi
  else if f = 26 then lCosh else if f = 27 then lTanh else if f = 29 then lAcosh else if f = 30 then lAtanh else if f = 32 then lRsqrt else lThem
def aheadL (f : Int) : List Li := if f = 35 then lAny else if f = 36 then lFar else []
def twoL (f : Int) : List Li := if f = 33 then lRad else if f = 34 then lTurn else if f = 35 then lPow else lDist
def isF (f : Int) : Bool := decide (1 ≤ f ∧ f ≤ 36)
def isTwo (f : Int) : Bool := decide (33 ≤ f ∧ f ≤ 36)
def linesOf (f : Int) : List Li := if 33 ≤ f then withN (aheadL f) (twoL f) else withN [] (oneL f)
def yOf (f x y : Int) : Int := if 33 ≤ f then y else x
def spR (f x y : Int) : Ro := rowsAt (linesOf f) x (yOf f x y)
def spE (f : Int) : Int := if isF f then 0 else 2
def spV (f x y : Int) : Ro := if isF f then spR f x y else (0, 0, 0)
def spIn (f x y : Int) : Bool := isF f && finB x && finB (yOf f x y) && !(spV f x y).2.2 == 2 && !(spV f x y).2.2 == 3
def argsV (f : Int) : Int := if isF f then (if isTwo f then 2 else 1) else 0
end Go.Proofs.YtkkccnpmcbpdnaaGreatDoor

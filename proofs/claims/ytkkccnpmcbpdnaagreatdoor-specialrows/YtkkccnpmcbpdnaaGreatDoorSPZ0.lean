/- The document's rows of special as plain functions, and that they are the program's. -/
import Derived.Test.YtkkccnpmcbpdnaaGreatDoorSPK
namespace Go.Proofs.YtkkccnpmcbpdnaaGreatDoor

def rE (b : Int) : Ro := (b, 0, 4)
def rD : Ro := (9221120237041090560, 1, 2)
def rP (b : Int) : Ro := (b, 2, 3)
def rL (b : Int) : Ro := (b, 16, 5)
def sgd (b s : Int) : Int := if sgnB s then negV b else b
def sgz (x : Int) : Int := if sgnB x then 9223372036854775808 else 0
def halfB (x : Int) : Bool := finB x && !wholeB x && (lowV x == -1)
/-- of a number and a half: is the part ahead of the point odd? -/
def oddH (x : Int) : Bool := decide (countV x / 2 ^ (tzV (countV x)).toNat % 4 = 3)
def dBelow (x : Int) : Bool := if sgnB x then oddH x else !oddH x

def dExps (x : Int) (less : Bool) : Ro :=
  if ((classV x == 1) && less) = true then rE x else if (classV x == 1) = true then rE 4607182418800017408 else if (x == 9218868437227405312) = true then rE 9218868437227405312
  else if ((x == 18442240474082181120) && less) = true then rE 13830554455654793216 else if (x == 18442240474082181120) = true then rE 0 else (0, 0, 0)
def dLogs (x : Int) (more : Bool) : Ro :=
  if (more && (classV x == 1)) = true then rE x
  else if (more && (x == 13830554455654793216) || !more && (classV x == 1)) = true then rP 18442240474082181120
  else if (lessB x (if more then 13830554455654793216 else 0)) = true then rD
  else if (!more && (x == 4607182418800017408)) = true then rE 0
  else if (x == 9218868437227405312) = true then rE 9218868437227405312 else (0, 0, 0)
def dTurns (f x : Int) : Ro :=
  if (classV x == 4) = true then rD else if ((classV x == 1) && (f == 14)) = true then rE 4607182418800017408 else if (classV x == 1) = true then rE x else (0, 0, 0)
def dHalves (f x : Int) : Ro :=
  if (classV x == 4) = true then rD
  else if ((f == 16) && wholeB x) = true then rE (sgz x)
  else if ((f == 17) && halfB x) = true then rE 0
  else if ((f == 18) && wholeB x) = true then (if oddB x = true then rE (negV (sgz x)) else rE (sgz x))
  else if ((f == 18) && halfB x) = true then (if dBelow x = true then rP 9218868437227405312 else rP 18442240474082181120)
  else (0, 0, 0)
def dInverse (f x : Int) : Ro :=
  let cosine := (f == 20) || (f == 23)
  let tangent := (f == 21) || (f == 24)
  if (!cosine && (classV x == 1)) = true then rE x
  else if (cosine && (x == 4607182418800017408)) = true then rE 0
  else if (!tangent && lessB 4607182418800017408 (absV x)) = true then rD
  else if ((f == 21) && (classV x == 4)) = true then rL (sgd 4609753056924675352 x)
  else if ((f == 24) && (classV x == 4)) = true then rE (sgd 4602678819172646912 x)
  else (0, 0, 0)
def dHypers (f x : Int) : Ro :=
  if ((f == 25) || (f == 28) || (f == 31)) = true then (if ((classV x == 1) || (classV x == 4)) = true then rE x else (0, 0, 0))
  else if (f == 26) = true then (if (classV x == 1) = true then rE 4607182418800017408 else if (classV x == 4) = true then rE 9218868437227405312 else (0, 0, 0))
  else if (f == 27) = true then (if (classV x == 1) = true then rE x else if (classV x == 4) = true then rE (sgd 4607182418800017408 x) else (0, 0, 0))
  else if (f == 29) = true then (if (lessB x 4607182418800017408) = true then rD else if (x == 4607182418800017408) = true then rE 0 else if (x == 9218868437227405312) = true then rE 9218868437227405312 else (0, 0, 0))
  else (0, 0, 0)
def dOthers (f x : Int) : Ro :=
  if (f == 30) = true then (if (classV x == 1) = true then rE x else if (absV x == 4607182418800017408) = true then rP (sgd 9218868437227405312 x) else if (lessB 4607182418800017408 (absV x)) = true then rD else (0, 0, 0))
  else if (classV x == 1) = true then rP (sgd 9218868437227405312 x) else if sgnB x = true then rD else if (x == 9218868437227405312) = true then rE 0 else (0, 0, 0)
def dOne (f x : Int) : Ro :=
  if (classV x == 6) = true then (9221120237041090560, 1, 1) else if (classV x == 5) = true then (9221120237041090560, 0, 1)
  else if f ≤ 3 then dExps x false else if f ≤ 6 then dExps x true else if f ≤ 9 then dLogs x false else if f ≤ 12 then dLogs x true
  else if f ≤ 15 then dTurns f x else if f ≤ 18 then dHalves f x else if f ≤ 24 then dInverse f x else if ((f == 30) || (f == 32)) = true then dOthers f x else dHypers f x
def dAngle (f b y over : Int) : Ro := if (f == 33) = true then rL (sgd b y) else rE (sgd over y)
def dAngles (f y x : Int) : Ro :=
  if ((classV y == 1) && !sgnB x) = true then rE y
  else if (classV y == 1) = true then dAngle f 4614256656552045848 y 4607182418800017408
  else if (classV x == 1) = true then dAngle f 4609753056924675352 y 4602678819172646912
  else if ((classV y == 4) && (x == 9218868437227405312)) = true then dAngle f 4605249457297304856 y 4598175219545276416
  else if ((classV y == 4) && (classV x == 4)) = true then dAngle f 4612488097114038738 y 4604930618986332160
  else if (classV y == 4) = true then dAngle f 4609753056924675352 y 4602678819172646912
  else if (x == 9218868437227405312) = true then rE (sgz y)
  else if (classV x == 4) = true then dAngle f 4614256656552045848 y 4607182418800017408
  else (0, 0, 0)
def dOfZero (x y : Int) : Ro :=
  if (y == 18442240474082181120) = true then rE 9218868437227405312 else if (sgnB y && oddB y) = true then rP (sgd 9218868437227405312 x) else if sgnB y = true then rP 9218868437227405312 else if oddB y = true then rE x else rE 0
def dPowers (x y : Int) : Ro :=
  if (classV x == 1) = true then dOfZero x y
  else if ((classV y == 4) && (x == 13830554455654793216)) = true then rE 4607182418800017408
  else if ((classV y == 4) && (lessB 4607182418800017408 (absV x) == !sgnB y)) = true then rE 9218868437227405312
  else if (classV y == 4) = true then rE 0
  else if ((classV x == 4) && sgnB y && sgnB x && oddB y) = true then rE 9223372036854775808
  else if ((classV x == 4) && sgnB y) = true then rE 0
  else if ((classV x == 4) && sgnB x && oddB y) = true then rE 18442240474082181120
  else if (classV x == 4) = true then rE 9218868437227405312
  else if (sgnB x && !wholeB y) = true then rD
  else (0, 0, 0)
def dTwo (f x y : Int) : Ro :=
  if ((classV x == 6) || (classV y == 6)) = true then (9221120237041090560, 1, 1)
  else if ((f == 35) && ((x == 4607182418800017408) || (classV y == 1))) = true then rE 4607182418800017408
  else if ((f == 36) && ((classV x == 4) || (classV y == 4))) = true then rE 9218868437227405312
  else if ((classV x == 5) || (classV y == 5)) = true then (9221120237041090560, 0, 1)
  else if (f == 35) = true then dPowers x y
  else if (!(f == 36)) = true then dAngles f x y
  else if (classV x == 1) = true then rE (absV y)
  else if (classV y == 1) = true then rE (absV x)
  else (0, 0, 0)
def dSpV (f x y : Int) : Ro := if (argsV f == 0) = true then (0, 0, 0) else if (argsV f == 1) = true then dOne f x else dTwo f x y

/-! the same -/
theorem sgd_turn (b x f k : Int) : turnR (sgnB x) (b, f, k) = (sgd b x, f, k) := by unfold turnR sgd; split <;> rfl
theorem sgz_turn (x : Int) : turnR (sgnB x) (0, 0, 4) = rE (sgz x) := by unfold turnR sgz rE; split <;> rfl
theorem fin_facts (x : Int) (h : U x) (c : classV x = 2 ∨ classV x = 3) : (classV x == 1) = false ∧ (classV x == 4) = false ∧ (classV x == 5) = false ∧ (classV x == 6) = false ∧ (x == 9218868437227405312) = false ∧ (x == 18442240474082181120) = false := by
  refine ⟨by simp; omega, by simp; omega, by simp; omega, by simp; omega, ?_, ?_⟩
  · simp only [beq_eq_false_iff_ne, ne_eq]; rintro rfl; revert c; decide
  · simp only [beq_eq_false_iff_ne, ne_eq]; rintro rfl; revert c; decide
theorem less_zero (x : Int) (h : U x) (c : classV x = 2 ∨ classV x = 3) : lessB x 0 = sgnB x := by
  have hn : numB x = true := by
    have := fin_cls x h
    rw [decide_eq_true (show classV x < 4 by omega)] at this
    unfold finB at this
    unfold numB
    simp only [decide_eq_true_eq] at this ⊢
    omega
  have h0 : x % 9223372036854775808 ≠ 0 := by
    intro e
    have : classV x = 1 := by
      unfold U at h
      rcases (show x = 0 ∨ x = 9223372036854775808 by omega) with rfl | rfl <;> decide
    omega
  unfold lessB
  rw [hn, show numB 0 = true by decide]
  unfold rungV sgnB U at *
  rw [Bool.eq_iff_iff]
  simp only [Bool.true_and, decide_eq_true_eq]
  split <;> omega
end Go.Proofs.YtkkccnpmcbpdnaaGreatDoor

/- Package exact, in plain words: which numbers lie in a domain, which values are told. Package exact: numbers of the other sign (pure). Package exact: what is told has few bits; angles of points (pure). The document's exact cases in plain words, and that they are the program's. The document's exact cases, second part: powers, logarithms, the whole (pure). -/
import Derived.Test.YtiijfnaaekmpbaaGreatDoorAP1b
import Derived.Test.YtiijfnaaekmpbaaGreatDoorTMF
import Derived.Test.YtiijfnaaekmpbaaGreatDoorDCmp2
import Derived.Test.YtiijfnaaekmpbaaGreatDoorDVal

namespace Go.Proofs.YtiijfnaaekmpbaaGreatDoor
open Go.RowKit

abbrev E3 := Bool × Nat × Int
abbrev C3 := E3 → E3 × Bool
def z3 : E3 := (false, 0, 0)
def no3 : E3 × Bool := (z3, false)
/-- a number in its one form, not too great to be reckoned with -/
def OkE (p : E3) : Prop := CanD p ∧ rightB p.2.1 p.2.2 = true
def agI (p : E3) (n : Int) : Int := cmpD p (intD n)
def dAny (_p : E3) : Bool := true
def dAbove (n : Int) (p : E3) : Bool := decide (0 < agI p n)
def dFrom1 (p : E3) : Bool := decide (0 ≤ agI p 1)
def dTo1 (p : E3) : Bool := decide (0 ≤ agI p (-1)) && decide (agI p 1 ≤ 0)
def dIn1 (p : E3) : Bool := decide (0 < agI p (-1)) && decide (agI p 1 < 0)
def inQ (q : Int) : E3 := formD (decide (q < 0)) q.natAbs (-2)
def cAt : List (Int × Int) → C3
  | [], _ => no3
  | (x, q) :: l, p => if agI p x = 0 then (inQ q, true) else cAt l p
def toP (odd : Nat) (n : Int) : E3 := (false, odd ^ n.toNat, n)
def whI (p : E3) : Int := sI p.1 * ((p.2.1 * 2 ^ p.2.2.toNat : Nat) : Int)
def cPow (odd : Nat) (l m : Int) (p : E3) : E3 × Bool := if p.2.2 < 0 ∨ agI p l < 0 ∨ 0 < agI p m then no3 else (toP odd (whI p), true)
def cExp (odd : Nat) (l m : Int) (p : E3) : E3 × Bool := if p.2.2 < l ∨ m < p.2.2 then no3 else if cmpD p (toP odd p.2.2) = 0 then (intD p.2.2, true) else no3
def cLess (c : C3) (p : E3) : E3 × Bool := if (c p).2 = true then (roomP (sumD (c p).1 (negD (intD 1))), decide (roomE (sumD (c p).1 (negD (intD 1))) = 0)) else no3
def cMore (c : C3) (p : E3) : E3 × Bool := if roomE (sumD p (intD 1)) = 0 then c (roomP (sumD p (intD 1))) else no3
/-- half turns: the right angles next to them by 4, and what is left -/
def tnU (p : E3) : Bool := up2 p.2.1 (-(p.2.2 + 1))
def tnW (p : E3) : Nat := rd2 p.2.1 (-(p.2.2 + 1))
def tnN (p : E3) : Int := if p.1 = true then (4 - (tnW p % 4 : Nat) : Int) % 4 else (tnW p % 4 : Nat)
def tnM (p : E3) : Nat := if 0 ≤ p.2.2 + 1 then 0 else if tnU p = true then 2 ^ (-(p.2.2 + 1)).toNat - p.2.1 % 2 ^ (-(p.2.2 + 1)).toNat else p.2.1 % 2 ^ (-(p.2.2 + 1)).toNat
def tnR (p : E3) : E3 := formD (!(p.1 == tnU p)) (tnM p) p.2.2
def hgt (n : Int) : Int := if n = 1 then 1 else if n = 3 then -1 else 0
def cSin (p : E3) : E3 × Bool := if (tnR p).2.1 = 0 then (intD (hgt (tnN p)), true) else no3
def cCos (p : E3) : E3 × Bool := if (tnR p).2.1 = 0 then (intD (hgt ((tnN p + 1) % 4)), true) else no3
def cTan (p : E3) : E3 × Bool := if (tnR p).2.1 = 0 then (intD 0, true) else if cmpD (tnR p) (inQ 1) = 0 then (intD 1, true) else if cmpD (tnR p) (inQ (-1)) = 0 then (intD (-1), true) else no3
def dTan (p : E3) : Bool := !decide ((tnR p).2.1 = 0) || decide (tnN p % 2 = 0)
/-- the functions by their numbers -/
def fDom (f : Int) : E3 → Bool :=
  if f = 7 ∨ f = 8 ∨ f = 9 then dAbove 0 else if f = 10 ∨ f = 11 ∨ f = 12 then dAbove (-1) else if f = 18 then dTan else
  if f = 19 ∨ f = 20 ∨ f = 22 ∨ f = 23 then dTo1 else if f = 29 then dFrom1 else if f = 30 then dIn1 else dAny
def fCas (f : Int) : C3 :=
  if f = 1 then cAt [(0, 4)] else if f = 2 then cPow 1 (-16384) 16384 else if f = 3 then cPow 5 0 23 else if f = 4 then cAt [(0, 0)] else
  if f = 5 then cLess (cPow 1 (-54) 54) else if f = 6 then cLess (cPow 5 0 16) else if f = 7 then cAt [(1, 0)] else if f = 8 then cExp 1 (-1074) 1023 else
  if f = 9 then cExp 5 0 22 else if f = 10 then cAt [(0, 0)] else if f = 11 then cMore (cExp 1 (-1074) 1023) else if f = 12 then cMore (cExp 5 0 16) else
  if f = 13 then cAt [(0, 0)] else if f = 14 then cAt [(0, 4)] else if f = 15 then cAt [(0, 0)] else if f = 16 then cSin else if f = 17 then cCos else if f = 18 then cTan else
  if f = 19 then cAt [(0, 0)] else if f = 20 then cAt [(1, 0)] else if f = 21 then cAt [(0, 0)] else if f = 22 then cAt [(-1, -2), (0, 0), (1, 2)] else
  if f = 23 then cAt [(-1, 4), (0, 2), (1, 0)] else if f = 24 then cAt [(-1, -1), (0, 0), (1, 1)] else if f = 25 then cAt [(0, 0)] else if f = 26 then cAt [(0, 4)] else
  if f = 27 then cAt [(0, 0)] else if f = 28 then cAt [(0, 0)] else if f = 29 then cAt [(1, 0)] else if f = 30 then cAt [(0, 0)] else fun _ => no3
def isF (f : Int) : Bool := decide (1 ≤ f ∧ f ≤ 30)
def exD (f x : Int) : Bool := isF f && finB x && fDom f (fromP x)
def exE (f x : Int) : Int := if isF f = true then (if exD f x = true then 0 else 5) else 2
def exV (f x : Int) : E3 × Bool := if exE f x = 0 then fCas f (fromP x) else no3

theorem sum_pow (s : Bool) : sI s = 1 ∨ sI s = -1 := by cases s <;> simp [sI]
theorem int_low (n : Int) : 0 ≤ (intD n).2.2 := by
  unfold intD formD
  split <;> simp
theorem int_vI (n : Int) (K : Nat) : vI (intD n) (-(K : Int)) = n * 2 ^ K := by
  unfold intD
  rw [vI_form _ _ _ _ (by omega), show (0 - -(K : Int)).toNat = K by omega]
  push_cast
  rw [← Int.mul_assoc]
  congr 1
  unfold sI
  by_cases h : n < 0
  · rw [decide_eq_true h, if_pos rfl]; omega
  · rw [decide_eq_false h, if_neg (by decide)]; omega
theorem cmpI_zero (a b : Int) : Lib.compareInt a b = 0 ↔ a = b := by
  unfold Lib.compareInt
  split
  · constructor <;> intro h <;> omega
  · split
    · constructor <;> intro h <;> omega
    · constructor <;> intro h <;> omega
theorem ag_vI (p : E3) (n : Int) (K : Nat) (h : -(K : Int) ≤ p.2.2) : agI p n = Lib.compareInt (vI p (-(K : Int))) (n * 2 ^ K) := by
  unfold agI
  rw [vI_cmp p (intD n) K h (by have := int_low n; omega), int_vI]

theorem can_zero {p : E3} (h : CanD p) (h0 : p.2.1 = 0) : p = z3 := by
  rcases h with h | h
  · exact h
  · omega
theorem tnN_bd (p : E3) : 0 ≤ tnN p ∧ tnN p < 4 := by unfold tnN; split <;> omega

def drQ (u a : E3) : Int × Bool :=
  if u.2.1 = 0 then (2 - 2 * agI a 0, true) else
  (if u.1 = true then -(if agI a 0 = -1 then 3 else if agI a 0 = 0 then 2 else 1) else (if agI a 0 = -1 then 3 else if agI a 0 = 0 then 2 else 1),
   decide (agI a 0 = 0) || decide (cmpD (absD u) (absD a) = 0))
def is2 (f : Int) : Bool := decide (f = 33 ∨ f = 34)
def e2E (f y x : Int) : Int := if is2 f = true then (if (finB y && finB x && !(decide ((fromP y).2.1 = 0) && decide ((fromP x).2.1 = 0))) = true then 0 else 5) else 2
def msQ (f q : Int) : E3 × Bool := if f = 33 then (z3, decide (q = 0)) else (inQ q, true)
def e2V (f y x : Int) : E3 × Bool := if e2E f y x = 0 then (if (drQ (fromP y) (fromP x)).2 = true then msQ f (drQ (fromP y) (fromP x)).1 else no3) else no3

def fewB (v : E3 × Bool) : Prop := blen v.1.2.1 ≤ 54 ∧ CanD v.1
theorem fm_few (s : Bool) (m : Nat) (e : Int) (h : m < 2 ^ 54) : fewB (formD s m e, true) := ⟨Nat.le_trans (blen_mono (form_amount_le s m e)) ((blen_le _ _).2 h), form_can _ _ _⟩
theorem no_few : fewB no3 := ⟨by decide, .inl rfl⟩
theorem in_few (q : Int) (b : Bool) (h : q.natAbs ≤ 100) : fewB (inQ q, b) := fm_few _ _ _ (by omega)
theorem wh_vI (p : E3) : vI p (-((0 : Nat) : Int)) = whI p := by
  unfold vI whI
  rw [show (p.2.2 - -((0 : Nat) : Int)).toNat = p.2.2.toNat by omega]
theorem ag_wh (p : E3) (n : Int) (h : 0 ≤ p.2.2) : agI p n = Lib.compareInt (whI p) n := by
  rw [ag_vI p n 0 (by omega), wh_vI]
  congr 1
  omega
theorem pow_in {odd : Nat} {l m : Int} {p : E3} (h : (cPow odd l m p).2 = true) : cPow odd l m p = (toP odd (whI p), true) ∧ 0 ≤ p.2.2 ∧ l ≤ whI p ∧ whI p ≤ m := by
  unfold cPow at h ⊢
  split at h
  · cases h
  · rename_i k
    rw [if_neg k]
    have h0 : 0 ≤ p.2.2 := by omega
    rw [ag_wh p l h0, ag_wh p m h0] at k
    unfold Lib.compareInt at k
    refine ⟨rfl, h0, ?_, ?_⟩
    · have := fun q => k (.inr (.inl q)); split at this <;> first | omega | exact absurd (by decide) this
    · have := fun q => k (.inr (.inr q)); split at this <;> first | omega | (split at this <;> first | omega | exact absurd (by decide) this)
theorem pow_not {odd : Nat} {l m : Int} {p : E3} (h : ¬ (cPow odd l m p).2 = true) : cPow odd l m p = no3 := by
  unfold cPow at h ⊢
  split
  · rfl
  · rename_i k; rw [if_neg k] at h; exact absurd rfl h
theorem odd_pow (k : Nat) : 5 ^ k % 2 = 1 := by
  induction k with
  | zero => rfl
  | succ k ih => rw [Nat.pow_succ]; omega
theorem pow_few5 (m : Int) (hm : m ≤ 23) (p : E3) : fewB (cPow 5 0 m p) := by
  by_cases h : (cPow 5 0 m p).2 = true
  · obtain ⟨e, _, h1, h2⟩ := pow_in h
    rw [e]
    refine ⟨?_, .inr (odd_pow _)⟩
    show blen (5 ^ (whI p).toNat) ≤ 54
    rw [blen_le]
    exact Nat.lt_of_le_of_lt (Nat.pow_le_pow_right (by decide) (show (whI p).toNat ≤ 23 by omega)) (by decide)
  · rw [pow_not h]; exact no_few
theorem pow_few1 (l m : Int) (p : E3) : fewB (cPow 1 l m p) := by
  by_cases h : (cPow 1 l m p).2 = true
  · obtain ⟨e, _, h1, h2⟩ := pow_in h
    rw [e]
    refine ⟨?_, .inr ?_⟩
    · show blen (1 ^ (whI p).toNat) ≤ 54
      rw [Nat.one_pow]; decide
    · show 1 ^ (whI p).toNat % 2 = 1
      rw [Nat.one_pow]
  · rw [pow_not h]; exact no_few
theorem room_eq {p : E3} (h : roomE p = 0) : roomP p = p := by
  unfold roomE at h
  unfold roomP
  split at h
  · rename_i k; rw [if_pos k]
  · omega
theorem to_can (odd : Nat) (h : odd % 2 = 1) (n : Int) : CanD (toP odd n) := by
  refine .inr ?_
  show odd ^ n.toNat % 2 = 1
  rw [Nat.pow_mod, h, Nat.one_pow]
theorem cmp_bd (p q : E3) : cmpD p q = -1 ∨ cmpD p q = 0 ∨ cmpD p q = 1 := by
  obtain ⟨K, hK⟩ : ∃ K : Nat, K = p.2.2.natAbs + q.2.2.natAbs := ⟨_, rfl⟩
  rw [vI_cmp p q K (by omega) (by omega)]
  unfold Lib.compareInt
  split
  · exact .inl rfl
  · split
    · exact .inr (.inr rfl)
    · exact .inr (.inl rfl)
theorem dr_bd (u a : E3) : -3 ≤ (drQ u a).1 ∧ (drQ u a).1 ≤ 4 := by
  have h := cmp_bd a (intD 0)
  unfold drQ
  have e : agI a 0 = cmpD a (intD 0) := rfl
  rw [e]
  split
  · simp only; omega
  · simp only
    split <;> split <;> (try split) <;> omega
theorem e2_few (f y x : Int) : fewB (e2V f y x) := by
  have h := dr_bd (fromP y) (fromP x)
  unfold e2V
  split
  · split
    · unfold msQ
      split
      · exact ⟨show blen 0 ≤ 54 by decide, .inl rfl⟩
      · exact in_few _ _ (by omega)
    · exact no_few
  · exact no_few

theorem cmp_eq {p q : E3} (hp : CanD p) (hq : CanD q) : cmpD p q = 0 ↔ p = q := by
  obtain ⟨K, hK⟩ : ∃ K : Nat, K = p.2.2.natAbs + q.2.2.natAbs := ⟨_, rfl⟩
  rw [vI_cmp p q K (by omega) (by omega), cmpI_zero]
  exact ⟨fun h => vI_inj p q hp hq (-(K : Int)) (by omega) (by omega) h, fun h => by rw [h]⟩
theorem ag_eq {p : E3} (hp : CanD p) (n : Int) : agI p n = 0 ↔ p = intD n := cmp_eq hp (form_can _ _ _)

/-! quarters and turns -/

/-! logarithms -/

/-! the whole -/
end Go.Proofs.YtiijfnaaekmpbaaGreatDoor

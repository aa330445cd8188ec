/- Package exact, in plain words: which numbers lie in a domain, which values are told. Package exact: numbers of the other sign (pure). Package exact: what is told has few bits; angles of points (pure). -/
import Derived.Test.YtoefhlapfnjbjaaGreatDoorAP1b
import Derived.Test.YtoefhlapfnjbjaaGreatDoorTMF
import Derived.Test.YtoefhlapfnjbjaaGreatDoorDCmp2
import Derived.Test.YtoefhlapfnjbjaaGreatDoorDVal

namespace Go.Proofs.YtoefhlapfnjbjaaGreatDoor
open Go.RowKit

abbrev E3 := Bool × Nat × Int
abbrev C3 := E3 → E3 × Bool
def z3 : E3 := (false, 0, 0)
def no3 : E3 × Bool := (z3, false)
/-- a number in its one form, not too great to be reckoned with -/
def OkE (p : E3) : Prop := CanD p ∧ rightB p.2.1 p.2.2 = true
def agI (p : E3) (n : Int) : Int := cmpD p (intD n)
def dAny (_p : E3) : Bool := true
def dAbove (n : Int) (p : E3) : Bool := decide (0 < agI p n)
def dFrom1 (p : E3) : Bool := decide (0 ≤ agI p 1)
def dTo1 (p : E3) : Bool := decide (0 ≤ agI p (-1)) && decide (agI p 1 ≤ 0)
def dIn1 (p : E3) : Bool := decide (0 < agI p (-1)) && decide (agI p 1 < 0)
def inQ (q : Int) : E3 := formD (decide (q < 0)) q.natAbs (-2)
def cAt : List (Int × Int) → C3
  | [], _ => no3
  | (x, q) :: l, p => if agI p x = 0 then (inQ q, true) else cAt l p
def toP (odd : Nat) (n : Int) : E3 := (false, odd ^ n.toNat, n)
def whI (p : E3) : Int := sI p.1 * ((p.2.1 * 2 ^ p.2.2.toNat : Nat) : Int)
def cPow (odd : Nat) (l m : Int) (p : E3) : E3 × Bool := if p.2.2 < 0 ∨ agI p l < 0 ∨ 0 < agI p m then no3 else (toP odd (whI p), true)
def cExp (odd : Nat) (l m : Int) (p : E3) : E3 × Bool := if p.2.2 < l ∨ m < p.2.2 then no3 else if cmpD p (toP odd p.2.2) = 0 then (intD p.2.2, true) else no3
def cLess (c : C3) (p : E3) : E3 × Bool := if (c p).2 = true then (roomP (sumD (c p).1 (negD (intD 1))), decide (roomE (sumD (c p).1 (negD (intD 1))) = 0)) else no3
def cMore (c : C3) (p : E3) : E3 × Bool := if roomE (sumD p (intD 1)) = 0 then c (roomP (sumD p (intD 1))) else no3
/-- half turns: the right angles next to them by 4, and what is left -/
def tnU (p : E3) : Bool := up2 p.2.1 (-(p.2.2 + 1))
def tnW (p : E3) : Nat := rd2 p.2.1 (-(p.2.2 + 1))
def tnN (p : E3) : Int := if p.1 = true then (4 - (tnW p % 4 : Nat) : Int) % 4 else (tnW p % 4 : Nat)
def tnM (p : E3) : Nat := if 0 ≤ p.2.2 + 1 then 0 else if tnU p = true then 2 ^ (-(p.2.2 + 1)).toNat - p.2.1 % 2 ^ (-(p.2.2 + 1)).toNat else p.2.1 % 2 ^ (-(p.2.2 + 1)).toNat
def tnR (p : E3) : E3 := formD (!(p.1 == tnU p)) (tnM p) p.2.2
def hgt (n : Int) : Int := if n = 1 then 1 else if n = 3 then -1 else 0
def cSin (p : E3) : E3 × Bool := if (tnR p).2.1 = 0 then (intD (hgt (tnN p)), true) else no3
def cCos (p : E3) : E3 × Bool := if (tnR p).2.1 = 0 then (intD (hgt ((tnN p + 1) % 4)), true) else no3
def cTan (p : E3) : E3 × Bool := if (tnR p).2.1 = 0 then (intD 0, true) else if cmpD (tnR p) (inQ 1) = 0 then (intD 1, true) else if cmpD (tnR p) (inQ (-1)) = 0 then (intD (-1), true) else no3
def dTan (p : E3) : Bool := !decide ((tnR p).2.1 = 0) || decide (tnN p % 2 = 0)
/-- the functions by their numbers -/
def fDom (f : Int) : E3 → Bool :=
  if f = 7 ∨ f = 8 ∨ f = 9 then dAbove 0 else if f = 10 ∨ f = 11 ∨ f = 12 then dAbove (-1) else if f = 18 then dTan else
  if f = 19 ∨ f = 20 ∨ f = 22 ∨ f = 23 then dTo1 else if f = 29 then dFrom1 else if f = 30 then dIn1 else dAny
def fCas (f : Int) : C3 :=
  if f = 1 then cAt [(0, 4)] else if f = 2 then cPow 1 (-16384) 16384 else if f = 3 then cPow 5 0 23 else if f = 4 then cAt [(0, 0)] else
  if f = 5 then cLess (cPow 1 (-54) 54) else if f = 6 then cLess (cPow 5 0 16) else if f = 7 then cAt [(1, 0)] else if f = 8 then cExp 1 (-1074) 1023 else
  if f = 9 then cExp 5 0 22 else if f = 10 then cAt [(0, 0)] else if f = 11 then cMore (cExp 1 (-1074) 1023) else if f = 12 then cMore (cExp 5 0 16) else
  if f = 13 then cAt [(0, 0)] else if f = 14 then cAt [(0, 4)] else if f = 15 then cAt [(0, 0)] else if f = 16 then cSin else if f = 17 then cCos else if f = 18 then cTan else
  if f = 19 then cAt [(0, 0)] else if f = 20 then cAt [(1, 0)] else if f = 21 then cAt [(0, 0)] else if f = 22 then cAt [(-1, -2), (0, 0), (1, 2)] else
  if f = 23 then cAt [(-1, 4), (0, 2), (1, 0)] else if f = 24 then cAt [(-1, -1), (0, 0), (1, 1)] else if f = 25 then cAt [(0, 0)] else if f = 26 then cAt [(0, 4)] else
  if f = 27 then cAt [(0, 0)] else if f = 28 then cAt [(0, 0)] else if f = 29 then cAt [(1, 0)] else if f = 30 then cAt [(0, 0)] else fun _ => no3
def isF (f : Int) : Bool := decide (1 ≤ f ∧ f ≤ 30)
def exD (f x : Int) : Bool := isF f && finB x && fDom f (fromP x)
def exE (f x : Int) : Int := if isF f = true then (if exD f x = true then 0 else 5) else 2
def exV (f x : Int) : E3 × Bool := if exE f x = 0 then fCas f (fromP x) else no3

theorem ec_parts (x : Int) (h : U x) : expV (negV x) = expV x ∧ fracV (negV x) = fracV x ∧ sgnB (negV x) = !sgnB x ∧ finB (negV x) = finB x ∧ U (negV x) := by
  unfold U at h
  refine ⟨?_, ?_, ?_, ?_, ?_⟩
  · unfold expV negV; omega
  · unfold fracV negV; omega
  · unfold sgnB negV
    by_cases q : 9223372036854775808 ≤ x
    · rw [decide_eq_true q, decide_eq_false (by omega)]; rfl
    · rw [decide_eq_false q, decide_eq_true (by omega)]; rfl
  · unfold finB negV
    rw [decide_eq_decide]
    omega
  · unfold U negV; omega
theorem neg_form (s : Bool) (m : Nat) (e : Int) : negD (formD s m e) = formD (!s) m e := by
  by_cases h : m = 0
  · subst h; rw [form_zero, form_zero]; rfl
  · have h2 := (odd_part h).1
    rw [form_pos s h, form_pos (!s) h]
    unfold negD
    simp only
    rw [decide_eq_false (show ¬ m / 2 ^ tz m = 0 from fun q => by rw [q] at h2; omega)]
    simp
theorem from_neg (x : Int) (h : U x) : fromP (negV x) = negD (fromP x) := by
  obtain ⟨h1, h2, h3, h4, _⟩ := ec_parts x h
  have hc : countV (negV x) = countV x := by unfold countV; rw [h1, h2]
  have hu : unitV (negV x) = unitV x := by unfold unitV; rw [h1]
  unfold fromP fromD
  rw [h4, hc, hu, h3]
  by_cases hf : finB x = true
  · rw [if_pos hf, if_pos hf, neg_form]
  · rw [if_neg hf, if_neg hf]; rfl
theorem int_neg (n : Int) : intD (-n) = negD (intD n) := by
  unfold intD
  rw [neg_form, Int.natAbs_neg]
  by_cases h : n = 0
  · subst h; rfl
  · congr 1
    by_cases q : n < 0
    · rw [decide_eq_true q, decide_eq_false (by omega)]; rfl
    · rw [decide_eq_false q, decide_eq_true (by omega)]; rfl
theorem inQ_neg (n : Int) : inQ (-n) = negD (inQ n) := by
  unfold inQ
  rw [neg_form, Int.natAbs_neg]
  by_cases h : n = 0
  · subst h; rfl
  · congr 1
    by_cases q : n < 0
    · rw [decide_eq_true q, decide_eq_false (by omega)]; rfl
    · rw [decide_eq_false q, decide_eq_true (by omega)]; rfl
theorem cmpI_neg (a b : Int) : Lib.compareInt (-a) (-b) = - Lib.compareInt a b := by
  unfold Lib.compareInt
  by_cases h : a < b
  · rw [if_neg (by omega), if_pos (by omega), if_pos h]; rfl
  · by_cases k : a > b
    · rw [if_pos (by omega), if_neg h, if_pos k]
    · rw [if_neg (by omega), if_neg (by omega), if_neg h, if_neg k]; rfl
theorem cmpD_neg (p q : E3) : cmpD (negD p) (negD q) = - cmpD p q := by
  obtain ⟨K, hK⟩ : ∃ K : Nat, K = p.2.2.natAbs + q.2.2.natAbs := ⟨_, rfl⟩
  rw [vI_cmp (negD p) (negD q) K (by show -(K : Int) ≤ p.2.2; omega) (by show -(K : Int) ≤ q.2.2; omega), vI_cmp p q K (by omega) (by omega), vI_neg, vI_neg, cmpI_neg]
theorem ag_neg (p : E3) (n : Int) : agI (negD p) n = - agI p (-n) := by
  unfold agI
  rw [show intD n = negD (intD (-n)) from by rw [← int_neg, Int.neg_neg], cmpD_neg]
theorem sum_pow (s : Bool) : sI s = 1 ∨ sI s = -1 := by cases s <;> simp [sI]
theorem int_low (n : Int) : 0 ≤ (intD n).2.2 := by
  unfold intD formD
  split <;> simp
theorem int_vI (n : Int) (K : Nat) : vI (intD n) (-(K : Int)) = n * 2 ^ K := by
  unfold intD
  rw [vI_form _ _ _ _ (by omega), show (0 - -(K : Int)).toNat = K by omega]
  push_cast
  rw [← Int.mul_assoc]
  congr 1
  unfold sI
  by_cases h : n < 0
  · rw [decide_eq_true h, if_pos rfl]; omega
  · rw [decide_eq_false h, if_neg (by decide)]; omega
theorem inQ_low (n : Int) : -2 ≤ (inQ n).2.2 := by
  unfold inQ formD
  split <;> simp
  omega
theorem inQ_vI (n : Int) (K : Nat) (hK : 2 ≤ K) : vI (inQ n) (-(K : Int)) = n * 2 ^ (K - 2) := by
  unfold inQ
  rw [vI_form _ _ _ _ (by omega), show (-2 - -(K : Int)).toNat = K - 2 by omega]
  push_cast
  rw [← Int.mul_assoc]
  congr 1
  unfold sI
  by_cases h : n < 0
  · rw [decide_eq_true h, if_pos rfl]; omega
  · rw [decide_eq_false h, if_neg (by decide)]; omega
theorem cmpI_zero (a b : Int) : Lib.compareInt a b = 0 ↔ a = b := by
  unfold Lib.compareInt
  split
  · constructor <;> intro h <;> omega
  · split
    · constructor <;> intro h <;> omega
    · constructor <;> intro h <;> omega
theorem ag_vI (p : E3) (n : Int) (K : Nat) (h : -(K : Int) ≤ p.2.2) : agI p n = Lib.compareInt (vI p (-(K : Int))) (n * 2 ^ K) := by
  unfold agI
  rw [vI_cmp p (intD n) K h (by have := int_low n; omega), int_vI]
theorem pow_pos2 (K : Nat) : (0 : Int) < 2 ^ K := by
  have : 0 < 2 ^ K := Nat.two_pow_pos K
  exact_mod_cast this
/-- a number is one whole number at most -/
theorem ag_one (p : E3) (n m : Int) (h : agI p n = 0) (k : agI p m = 0) : n = m := by
  obtain ⟨K, hK⟩ : ∃ K : Nat, K = p.2.2.natAbs := ⟨_, rfl⟩
  rw [ag_vI p n K (by omega), cmpI_zero] at h
  rw [ag_vI p m K (by omega), cmpI_zero] at k
  exact Int.eq_of_mul_eq_mul_right (Int.ne_of_gt (pow_pos2 K)) (h.symm.trans k)
theorem q_one (p : E3) (n m : Int) (h : cmpD p (inQ n) = 0) (k : cmpD p (inQ m) = 0) : n = m := by
  obtain ⟨K, hK⟩ : ∃ K : Nat, K = p.2.2.natAbs + 2 := ⟨_, rfl⟩
  rw [vI_cmp p (inQ n) K (by omega) (by have := inQ_low n; omega), cmpI_zero, inQ_vI n K (by omega)] at h
  rw [vI_cmp p (inQ m) K (by omega) (by have := inQ_low m; omega), cmpI_zero, inQ_vI m K (by omega)] at k
  exact Int.eq_of_mul_eq_mul_right (Int.ne_of_gt (pow_pos2 _)) (h.symm.trans k)

theorem ng_z3 : negD z3 = z3 := rfl
theorem can_zero {p : E3} (h : CanD p) (h0 : p.2.1 = 0) : p = z3 := by
  rcases h with h | h
  · exact h
  · omega
theorem tnW_neg (p : E3) : tnW (negD p) = tnW p := rfl
theorem tnU_neg (p : E3) : tnU (negD p) = tnU p := rfl
theorem tnM_neg (p : E3) : tnM (negD p) = tnM p := rfl
theorem tn_z3 : tnM z3 = 0 := rfl
theorem ng_sign {p : E3} (h0 : p.2.1 ≠ 0) : (negD p).1 = !p.1 := by
  unfold negD
  simp only
  rw [decide_eq_false h0]
  simp
theorem tnR_neg (p : E3) (hc : CanD p) : tnR (negD p) = negD (tnR p) := by
  by_cases h0 : p.2.1 = 0
  · rw [can_zero hc h0, ng_z3]
    unfold tnR
    rw [tn_z3, form_zero]
    rfl
  · unfold tnR
    rw [tnU_neg, tnM_neg, ng_sign h0, neg_form]
    show formD _ _ p.2.2 = _
    congr 1
    cases p.1 <;> cases tnU p <;> rfl
theorem tnN_bd (p : E3) : 0 ≤ tnN p ∧ tnN p < 4 := by unfold tnN; split <;> omega
theorem tnN_neg (p : E3) (hc : CanD p) : tnN (negD p) = (4 - tnN p) % 4 := by
  by_cases h0 : p.2.1 = 0
  · rw [can_zero hc h0, ng_z3]; decide +kernel
  · unfold tnN
    rw [tnW_neg, ng_sign h0]
    cases p.1 <;> simp <;> omega
theorem hgt_neg (n : Int) (h : 0 ≤ n ∧ n < 4) : hgt ((4 - n) % 4) = - hgt n ∧ hgt (((4 - n) % 4 + 1) % 4) = hgt ((n + 1) % 4) ∧ (4 - n) % 4 % 2 = n % 2 := by
  have : n = 0 ∨ n = 1 ∨ n = 2 ∨ n = 3 := by omega
  rcases this with rfl | rfl | rfl | rfl <;> decide
theorem dTan_neg (p : E3) (hc : CanD p) : dTan (negD p) = dTan p := by
  unfold dTan
  rw [tnR_neg p hc, tnN_neg p hc, (hgt_neg _ (tnN_bd p)).2.2]
  rfl
theorem dTo1_neg (p : E3) : dTo1 (negD p) = dTo1 p := by
  unfold dTo1
  rw [ag_neg, ag_neg, Int.neg_neg, Bool.and_comm]
  congr 1 <;> rw [decide_eq_decide] <;> omega
theorem dIn1_neg (p : E3) : dIn1 (negD p) = dIn1 p := by
  unfold dIn1
  rw [ag_neg, ag_neg, Int.neg_neg, Bool.and_comm]
  congr 1 <;> rw [decide_eq_decide] <;> omega
def ng2 (v : E3 × Bool) : E3 × Bool := (negD v.1, v.2)
theorem at0_neg (q : Int) (p : E3) : cAt [(0, q)] (negD p) = cAt [(0, q)] p := by
  unfold cAt
  rw [ag_neg, Int.neg_zero]
  by_cases h : agI p 0 = 0
  · rw [if_pos (by omega), if_pos h]
  · rw [if_neg (by omega), if_neg h]; rfl
theorem at00_neg (p : E3) : cAt [(0, 0)] (negD p) = ng2 (cAt [(0, 0)] p) := by
  rw [at0_neg]
  unfold cAt
  by_cases h : agI p 0 = 0
  · rw [if_pos h]; rfl
  · rw [if_neg h]; rfl
theorem at3_neg (q : Int) (p : E3) : cAt [(-1, -q), (0, 0), (1, q)] (negD p) = ng2 (cAt [(-1, -q), (0, 0), (1, q)] p) := by
  simp only [cAt]
  rw [ag_neg, ag_neg, ag_neg, Int.neg_neg, Int.neg_zero]
  by_cases h1 : agI p 1 = 0
  · have a : ¬ agI p (-1) = 0 := fun k => by have := ag_one p _ _ h1 k; omega
    have b : ¬ agI p 0 = 0 := fun k => by have := ag_one p _ _ h1 k; omega
    rw [if_pos (by omega), if_neg a, if_neg b, if_pos h1, inQ_neg]; rfl
  · by_cases h0 : agI p 0 = 0
    · have a : ¬ agI p (-1) = 0 := fun k => by have := ag_one p _ _ h0 k; omega
      rw [if_neg (by omega), if_pos (by omega), if_neg a, if_pos h0]; rfl
    · by_cases h2 : agI p (-1) = 0
      · rw [if_neg (by omega), if_neg (by omega), if_pos (by omega), if_pos h2]
        unfold ng2
        simp only
        rw [← inQ_neg, Int.neg_neg]
      · rw [if_neg (by omega), if_neg (by omega), if_neg (by omega), if_neg h2, if_neg h0, if_neg h1]; rfl
theorem cSin_neg (p : E3) (hc : CanD p) : cSin (negD p) = ng2 (cSin p) := by
  unfold cSin
  rw [tnR_neg p hc, tnN_neg p hc, (hgt_neg _ (tnN_bd p)).1, int_neg]
  show (if (tnR p).2.1 = 0 then _ else _) = _
  split <;> rfl
theorem cCos_neg (p : E3) (hc : CanD p) : cCos (negD p) = cCos p := by
  unfold cCos
  rw [tnR_neg p hc, tnN_neg p hc, (hgt_neg _ (tnN_bd p)).2.1]
  rfl
theorem cTan_neg (p : E3) (hc : CanD p) : cTan (negD p) = ng2 (cTan p) := by
  unfold cTan
  rw [tnR_neg p hc]
  have e1 : cmpD (negD (tnR p)) (inQ 1) = - cmpD (tnR p) (inQ (-1)) := by rw [show inQ 1 = negD (inQ (-1)) from by rw [← inQ_neg]; rfl, cmpD_neg]
  have e2 : cmpD (negD (tnR p)) (inQ (-1)) = - cmpD (tnR p) (inQ 1) := by rw [show inQ (-1) = negD (inQ 1) from inQ_neg 1, cmpD_neg]
  rw [e1, e2]
  show (if (tnR p).2.1 = 0 then _ else _) = _
  by_cases h0 : (tnR p).2.1 = 0
  · rw [if_pos h0, if_pos h0]; rfl
  · rw [if_neg h0, if_neg h0]
    by_cases h1 : cmpD (tnR p) (inQ 1) = 0
    · have a : ¬ cmpD (tnR p) (inQ (-1)) = 0 := fun k => by have := q_one _ _ _ h1 k; omega
      rw [if_neg (by omega), if_pos (by omega), if_pos h1, int_neg]; rfl
    · by_cases h2 : cmpD (tnR p) (inQ (-1)) = 0
      · rw [if_pos (by omega), if_neg h1, if_pos h2, int_neg]
        exact congrArg (·, true) (show intD 1 = negD (negD (intD 1)) from by rw [← int_neg, ← int_neg]; rfl)
      · rw [if_neg (by omega), if_neg (by omega), if_neg h1, if_neg h2]; rfl
def oddF (f : Int) : Bool := decide (f = 13 ∨ f = 15 ∨ f = 16 ∨ f = 18 ∨ f = 19 ∨ f = 21 ∨ f = 22 ∨ f = 24 ∨ f = 25 ∨ f = 27 ∨ f = 28 ∨ f = 30)
def evenF (f : Int) : Bool := decide (f = 14 ∨ f = 17 ∨ f = 26)
theorem cas_neg (f : Int) (p : E3) (hc : CanD p) (h : oddF f = true) : fDom f (negD p) = fDom f p ∧ fCas f (negD p) = ng2 (fCas f p) := by
  have h := of_decide_eq_true h
  rcases h with rfl | rfl | rfl | rfl | rfl | rfl | rfl | rfl | rfl | rfl | rfl | rfl <;> simp only [fDom, fCas] <;> simp [dAny, at00_neg, at3_neg, cSin_neg p hc, cTan_neg p hc, dTan_neg p hc, dTo1_neg, dIn1_neg]
theorem cas_even (f : Int) (p : E3) (hc : CanD p) (h : evenF f = true) : fDom f (negD p) = fDom f p ∧ fCas f (negD p) = fCas f p := by
  have h := of_decide_eq_true h
  rcases h with rfl | rfl | rfl <;> simp only [fDom, fCas] <;> simp [dAny, at0_neg, cCos_neg p hc]
theorem ex_neg (f x : Int) (hx : U x) (h : oddF f = true ∨ evenF f = true) : exE f (negV x) = exE f x ∧ exD f (negV x) = exD f x := by
  have hd : fDom f (fromP (negV x)) = fDom f (fromP x) := by
    rw [from_neg x hx]
    rcases h with h | h
    · exact (cas_neg f _ (fa_can x) h).1
    · exact (cas_even f _ (fa_can x) h).1
  have e : exD f (negV x) = exD f x := by unfold exD; rw [hd, (ec_parts x hx).2.2.2.1]
  exact ⟨by unfold exE; rw [e], e⟩
theorem ex_odd (f x : Int) (hx : U x) (h : oddF f = true) : exV f (negV x) = ng2 (exV f x) := by
  unfold exV
  rw [(ex_neg f x hx (.inl h)).1, from_neg x hx, (cas_neg f _ (fa_can x) h).2]
  split <;> rfl
theorem ex_even (f x : Int) (hx : U x) (h : evenF f = true) : exV f (negV x) = exV f x := by
  unfold exV
  rw [(ex_neg f x hx (.inr h)).1, from_neg x hx, (cas_even f _ (fa_can x) h).2]

def drQ (u a : E3) : Int × Bool :=
  if u.2.1 = 0 then (2 - 2 * agI a 0, true) else
  (if u.1 = true then -(if agI a 0 = -1 then 3 else if agI a 0 = 0 then 2 else 1) else (if agI a 0 = -1 then 3 else if agI a 0 = 0 then 2 else 1),
   decide (agI a 0 = 0) || decide (cmpD (absD u) (absD a) = 0))
def is2 (f : Int) : Bool := decide (f = 33 ∨ f = 34)
def e2E (f y x : Int) : Int := if is2 f = true then (if (finB y && finB x && !(decide ((fromP y).2.1 = 0) && decide ((fromP x).2.1 = 0))) = true then 0 else 5) else 2
def msQ (f q : Int) : E3 × Bool := if f = 33 then (z3, decide (q = 0)) else (inQ q, true)
def e2V (f y x : Int) : E3 × Bool := if e2E f y x = 0 then (if (drQ (fromP y) (fromP x)).2 = true then msQ f (drQ (fromP y) (fromP x)).1 else no3) else no3

def fewB (v : E3 × Bool) : Prop := blen v.1.2.1 ≤ 54 ∧ CanD v.1
theorem fm_few (s : Bool) (m : Nat) (e : Int) (h : m < 2 ^ 54) : fewB (formD s m e, true) := ⟨Nat.le_trans (blen_mono (form_amount_le s m e)) ((blen_le _ _).2 h), form_can _ _ _⟩
theorem no_few : fewB no3 := ⟨by decide, .inl rfl⟩
theorem in_few (q : Int) (b : Bool) (h : q.natAbs ≤ 100) : fewB (inQ q, b) := fm_few _ _ _ (by omega)
theorem int_few (n : Int) (b : Bool) (h : n.natAbs ≤ 100000) : fewB (intD n, b) := fm_few _ _ _ (by omega)
theorem at_few (p : E3) : ∀ l : List (Int × Int), (∀ t ∈ l, t.2.natAbs ≤ 100) → fewB (cAt l p)
  | [], _ => no_few
  | (x, q) :: l, h => by
    unfold cAt
    split
    · exact in_few q true (h (x, q) (List.mem_cons_self ..))
    · exact at_few p l fun t ht => h t (List.mem_cons_of_mem _ ht)
theorem wh_vI (p : E3) : vI p (-((0 : Nat) : Int)) = whI p := by
  unfold vI whI
  rw [show (p.2.2 - -((0 : Nat) : Int)).toNat = p.2.2.toNat by omega]
theorem ag_wh (p : E3) (n : Int) (h : 0 ≤ p.2.2) : agI p n = Lib.compareInt (whI p) n := by
  rw [ag_vI p n 0 (by omega), wh_vI]
  congr 1
  omega
theorem pow_in {odd : Nat} {l m : Int} {p : E3} (h : (cPow odd l m p).2 = true) : cPow odd l m p = (toP odd (whI p), true) ∧ 0 ≤ p.2.2 ∧ l ≤ whI p ∧ whI p ≤ m := by
  unfold cPow at h ⊢
  split at h
  · cases h
  · rename_i k
    rw [if_neg k]
    have h0 : 0 ≤ p.2.2 := by omega
    rw [ag_wh p l h0, ag_wh p m h0] at k
    unfold Lib.compareInt at k
    refine ⟨rfl, h0, ?_, ?_⟩
    · have := fun q => k (.inr (.inl q)); split at this <;> first | omega | exact absurd (by decide) this
    · have := fun q => k (.inr (.inr q)); split at this <;> first | omega | (split at this <;> first | omega | exact absurd (by decide) this)
theorem pow_not {odd : Nat} {l m : Int} {p : E3} (h : ¬ (cPow odd l m p).2 = true) : cPow odd l m p = no3 := by
  unfold cPow at h ⊢
  split
  · rfl
  · rename_i k; rw [if_neg k] at h; exact absurd rfl h
theorem odd_pow (k : Nat) : 5 ^ k % 2 = 1 := by
  induction k with
  | zero => rfl
  | succ k ih => rw [Nat.pow_succ]; omega
theorem pow_few5 (m : Int) (hm : m ≤ 23) (p : E3) : fewB (cPow 5 0 m p) := by
  by_cases h : (cPow 5 0 m p).2 = true
  · obtain ⟨e, _, h1, h2⟩ := pow_in h
    rw [e]
    refine ⟨?_, .inr (odd_pow _)⟩
    show blen (5 ^ (whI p).toNat) ≤ 54
    rw [blen_le]
    exact Nat.lt_of_le_of_lt (Nat.pow_le_pow_right (by decide) (show (whI p).toNat ≤ 23 by omega)) (by decide)
  · rw [pow_not h]; exact no_few
theorem pow_few1 (l m : Int) (p : E3) : fewB (cPow 1 l m p) := by
  by_cases h : (cPow 1 l m p).2 = true
  · obtain ⟨e, _, h1, h2⟩ := pow_in h
    rw [e]
    refine ⟨?_, .inr ?_⟩
    · show blen (1 ^ (whI p).toNat) ≤ 54
      rw [Nat.one_pow]; decide
    · show 1 ^ (whI p).toNat % 2 = 1
      rw [Nat.one_pow]
  · rw [pow_not h]; exact no_few
theorem exp_few (odd : Nat) (l m : Int) (hl : -2000 ≤ l) (hm : m ≤ 2000) (p : E3) : fewB (cExp odd l m p) := by
  unfold cExp
  split
  · exact no_few
  · rename_i k
    split
    · exact int_few _ true (by omega)
    · exact no_few
theorem more_few (odd : Nat) (l m : Int) (hl : -2000 ≤ l) (hm : m ≤ 2000) (p : E3) : fewB (cMore (cExp odd l m) p) := by
  unfold cMore
  split
  · exact exp_few odd l m hl hm _
  · exact no_few
def ls1 (odd : Nat) (n : Int) : E3 := sumD (toP odd n) (negD (intD 1))
theorem ls_1 : (List.range 109).all (fun i => decide (roomE (ls1 1 ((i : Int) - 54)) = 0) && decide (blen (ls1 1 ((i : Int) - 54)).2.1 ≤ 54)) = true := by decide +kernel
theorem ls_5 : (List.range 17).all (fun i => decide (roomE (ls1 5 (i : Int)) = 0) && decide (blen (ls1 5 (i : Int)).2.1 ≤ 54)) = true := by decide +kernel
theorem room_eq {p : E3} (h : roomE p = 0) : roomP p = p := by
  unfold roomE at h
  unfold roomP
  split at h
  · rename_i k; rw [if_pos k]
  · omega
theorem to_can (odd : Nat) (h : odd % 2 = 1) (n : Int) : CanD (toP odd n) := by
  refine .inr ?_
  show odd ^ n.toNat % 2 = 1
  rw [Nat.pow_mod, h, Nat.one_pow]
theorem one_can : CanD (negD (intD 1)) := negD_canon (form_can _ _ _)
theorem ls_can (odd : Nat) (h : odd % 2 = 1) (n : Int) : CanD (ls1 odd n) := sum_canA (to_can odd h n) one_can
theorem ls_1all (n : Int) (h1 : -54 ≤ n) (h2 : n ≤ 54) : roomE (ls1 1 n) = 0 ∧ blen (ls1 1 n).2.1 ≤ 54 := by
  have := List.all_eq_true.1 ls_1 (n + 54).toNat (List.mem_range.2 (by omega))
  rw [Bool.and_eq_true, decide_eq_true_eq, decide_eq_true_eq, show (((n + 54).toNat : Int) - 54) = n by omega] at this
  exact this
theorem ls_5all (n : Int) (h1 : 0 ≤ n) (h2 : n ≤ 16) : roomE (ls1 5 n) = 0 ∧ blen (ls1 5 n).2.1 ≤ 54 := by
  have := List.all_eq_true.1 ls_5 n.toNat (List.mem_range.2 (by omega))
  rw [Bool.and_eq_true, decide_eq_true_eq, decide_eq_true_eq, show ((n.toNat : Int)) = n by omega] at this
  exact this
theorem less_eq {odd : Nat} {l m : Int} {p : E3} (h : (cPow odd l m p).2 = true) : cLess (cPow odd l m) p = (roomP (ls1 odd (whI p)), decide (roomE (ls1 odd (whI p)) = 0)) := by
  unfold cLess
  rw [if_pos h, (pow_in h).1]
  rfl
theorem less_not {odd : Nat} {l m : Int} {p : E3} (h : ¬ (cPow odd l m p).2 = true) : cLess (cPow odd l m) p = no3 := by
  unfold cLess
  rw [if_neg h]
theorem less_few1 (p : E3) : fewB (cLess (cPow 1 (-54) 54) p) := by
  by_cases h : (cPow 1 (-54) 54 p).2 = true
  · obtain ⟨h1, h2⟩ := ls_1all (whI p) (pow_in h).2.2.1 (pow_in h).2.2.2
    rw [less_eq h, room_eq h1]
    exact ⟨h2, ls_can 1 rfl _⟩
  · rw [less_not h]; exact no_few
theorem less_few5 (p : E3) : fewB (cLess (cPow 5 0 16) p) := by
  by_cases h : (cPow 5 0 16 p).2 = true
  · obtain ⟨h1, h2⟩ := ls_5all (whI p) (pow_in h).2.2.1 (pow_in h).2.2.2
    rw [less_eq h, room_eq h1]
    exact ⟨h2, ls_can 5 rfl _⟩
  · rw [less_not h]; exact no_few
theorem hgt_bd (n : Int) : (hgt n).natAbs ≤ 100000 := by unfold hgt; split <;> (try split) <;> decide
theorem sin_few (p : E3) : fewB (cSin p) := by
  unfold cSin
  split
  · exact int_few _ true (hgt_bd _)
  · exact no_few
theorem cos_few (p : E3) : fewB (cCos p) := by
  unfold cCos
  split
  · exact int_few _ true (hgt_bd _)
  · exact no_few
theorem tan_few (p : E3) : fewB (cTan p) := by
  unfold cTan
  split
  · exact int_few _ true (by decide)
  · split
    · exact int_few _ true (by decide)
    · split
      · exact int_few _ true (by decide)
      · exact no_few
theorem few_ite {c : Prop} [Decidable c] {A B : C3} {p : E3} (ha : fewB (A p)) (hb : fewB (B p)) : fewB ((if c then A else B) p) := by split <;> assumption
theorem cas_few (f : Int) (p : E3) : fewB (fCas f p) := by
  unfold fCas
  repeat' refine few_ite ?_ ?_
  all_goals first | (with_reducible exact at_few _ _ (by decide)) | (with_reducible exact pow_few1 _ _ _) | (with_reducible exact pow_few5 _ (by decide) _) | (with_reducible exact less_few1 _) | (with_reducible exact less_few5 _) | (with_reducible exact exp_few _ _ _ (by decide) (by decide) _) | (with_reducible exact more_few _ _ _ (by decide) (by decide) _) | (with_reducible exact sin_few _) | (with_reducible exact cos_few _) | (with_reducible exact tan_few _) | exact no_few
theorem ex_few (f x : Int) : fewB (exV f x) := by
  unfold exV
  split
  · exact cas_few _ _
  · exact no_few
theorem cmp_bd (p q : E3) : cmpD p q = -1 ∨ cmpD p q = 0 ∨ cmpD p q = 1 := by
  obtain ⟨K, hK⟩ : ∃ K : Nat, K = p.2.2.natAbs + q.2.2.natAbs := ⟨_, rfl⟩
  rw [vI_cmp p q K (by omega) (by omega)]
  unfold Lib.compareInt
  split
  · exact .inl rfl
  · split
    · exact .inr (.inr rfl)
    · exact .inr (.inl rfl)
theorem dr_bd (u a : E3) : -3 ≤ (drQ u a).1 ∧ (drQ u a).1 ≤ 4 := by
  have h := cmp_bd a (intD 0)
  unfold drQ
  have e : agI a 0 = cmpD a (intD 0) := rfl
  rw [e]
  split
  · simp only; omega
  · simp only
    split <;> split <;> (try split) <;> omega
theorem e2_few (f y x : Int) : fewB (e2V f y x) := by
  have h := dr_bd (fromP y) (fromP x)
  unfold e2V
  split
  · split
    · unfold msQ
      split
      · exact ⟨show blen 0 ≤ 54 by decide, .inl rfl⟩
      · exact in_few _ _ (by omega)
    · exact no_few
  · exact no_few
end Go.Proofs.YtoefhlapfnjbjaaGreatDoor

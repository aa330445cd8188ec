/- Package exact, in plain words: which numbers lie in a domain, which values are told. Package exact: numbers of the other sign (pure). Package exact: what is told has few bits; angles of points (pure). The document's exact cases in plain words, and that they are the program's. The document's exact cases, second part: powers, logarithms, the whole (pure). -/
import Derived.Test.YtiijfnaaekmpbaaGreatDoorAP1b
import Derived.Test.YtiijfnaaekmpbaaGreatDoorTMF
import Derived.Test.YtiijfnaaekmpbaaGreatDoorDCmp2
import Derived.Test.YtiijfnaaekmpbaaGreatDoorDVal

namespace Go.Proofs.YtiijfnaaekmpbaaGreatDoor
open Go.RowKit
abbrev E3 := Bool × Nat × Int
abbrev C3 := E3 → E3 × Bool
def z3 : E3 := (false, 0, 0)
def no3 : E3 × Bool := (z3, false)
def OkE (p : E3) : Prop := CanD p ∧ rightB p.2.1 p.2.2 = true
def agI (p : E3) (n : Int) : Int := cmpD p (intD n)
def dAny (_p : E3) : Bool := true
def dAbove (n : Int) (p : E3) : Bool := decide (0 < agI p n)
def dFrom1 (p : E3) : Bool := decide (0 ≤ agI p 1)
def dTo1 (p : E3) : Bool := decide (0 ≤ agI p (-1)) && decide (agI p 1 ≤ 0)
def dIn1 (p : E3) : Bool := decide (0 < agI p (-1)) && decide (agI p 1 < 0)
def inQ (q : Int) : E3 := formD (decide (q < 0)) q.natAbs (-2)
def cAt : List (Int × Int) → C3
 | [], _ => no3
 | (x, q) :: l, p => if agI p x = 0 then (inQ q, true) else cAt l p
def toP (odd : Nat) (n : Int) : E3 := (false, odd ^ n.toNat, n)
def whI (p : E3) : Int := sI p.1 * ((p.2.1 * 2 ^ p.2.2.toNat : Nat) : Int)
def cPow (odd : Nat) (l m : Int) (p : E3) : E3 × Bool := if p.2.2 < 0 ∨ agI p l < 0 ∨ 0 < agI p m then no3 else (toP odd (whI p), true)
def cExp (odd : Nat) (l m : Int) (p : E3) : E3 × Bool := if p.2.2 < l ∨ m < p.2.2 then no3 else if cmpD p (toP odd p.2.2) = 0 then (intD p.2.2, true) else no3
def cLess (c : C3) (p : E3) : E3 × Bool := if (c p).2 = true then (roomP (sumD (c p).1 (negD (intD 1))), decide (roomE (sumD (c p).1 (negD (intD 1))) = 0)) else no3
def cMore (c : C3) (p : E3) : E3 × Bool := if roomE (sumD p (intD 1)) = 0 then c (roomP (sumD p (intD 1))) else no3
def tnU (p : E3) : Bool := up2 p.2.1 (-(p.2.2 + 1))
def tnW (p : E3) : Nat := rdW2 p.2.1 (-(p.2.2 + 1))
def tnN (p : E3) : Int := if p.1 = true then (4 - (tnW p % 4 : Nat) : Int) % 4 else (tnW p % 4 : Nat)
def tnM (p : E3) : Nat := if 0 ≤ p.2.2 + 1 then 0 else if tnU p = true then 2 ^ (-(p.2.2 + 1)).toNat - p.2.1 % 2 ^ (-(p.2.2 + 1)).toNat else p.2.1 % 2 ^ (-(p.2.2 + 1)).toNat
def tnR (p : E3) : E3 := formD (!(p.1 == tnU p)) (tnM p) p.2.2
def hgt (n : Int) : Int := if n = 1 then 1 else if n = 3 then -1 else 0
def cSin (p : E3) : E3 × Bool := if (tnR p).2.1 = 0 then (intD (hgt (tnN p)), true) else no3
def cCos (p : E3) : E3 × Bool := if (tnR p).2.1 = 0 then (intD (hgt ((tnN p + 1) % 4)), true) else no3
def cTan (p : E3) : E3 × Bool := if (tnR p).2.1 = 0 then (intD 0, true) else if cmpD (tnR p) (inQ 1) = 0 then (intD 1, true) else if cmpD (tnR p) (inQ (-1)) = 0 then (intD (-1), true) else no3
def dTan (p : E3) : Bool := !decide ((tnR p).2.1 = 0) || decide (tnN p % 2 = 0)
def fDom (f : Int) : E3 → Bool :=
 if f = 7 ∨ f = 8 ∨ f = 9 then dAbove 0 else if f = 10 ∨ f = 11 ∨ f = 12 then dAbove (-1) else if f = 18 then dTan else
 if f = 19 ∨ f = 20 ∨ f = 22 ∨ f = 23 then dTo1 else if f = 29 then dFrom1 else if f = 30 then dIn1 else dAny
def fCas (f : Int) : C3 :=
 if f = 1 then cAt [(0, 4)] else if f = 2 then cPow 1 (-16384) 16384 else if f = 3 then cPow 5 0 23 else if f = 4 then cAt [(0, 0)] else
 if f = 5 then cLess (cPow 1 (-54) 54) else if f = 6 then cLess (cPow 5 0 16) else if f = 7 then cAt [(1, 0)] else if f = 8 then cExp 1 (-1074) 1023 else
 if f = 9 then cExp 5 0 22 else if f = 10 then cAt [(0, 0)] else if f = 11 then cMore (cExp 1 (-1074) 1023) else if f = 12 then cMore (cExp 5 0 16) else
 if f = 13 then cAt [(0, 0)] else if f = 14 then cAt [(0, 4)] else if f = 15 then cAt [(0, 0)] else if f = 16 then cSin else if f = 17 then cCos else if f = 18 then cTan else
 if f = 19 then cAt [(0, 0)] else if f = 20 then cAt [(1, 0)] else if f = 21 then cAt [(0, 0)] else if f = 22 then cAt [(-1, -2), (0, 0), (1, 2)] else
 if f = 23 then cAt [(-1, 4), (0, 2), (1, 0)] else if f = 24 then cAt [(-1, -1), (0, 0), (1, 1)] else if f = 25 then cAt [(0, 0)] else if f = 26 then cAt [(0, 4)] else
 if f = 27 then cAt [(0, 0)] else if f = 28 then cAt [(0, 0)] else if f = 29 then cAt [(1, 0)] else if f = 30 then cAt [(0, 0)] else fun _ => no3
def isF (f : Int) : Bool := decide (1 ≤ f ∧ f ≤ 30)
def exD (f x : Int) : Bool := isF f && finB x && fDom f (fromP x)
def exE (f x : Int) : Int := if isF f = true then (if exD f x = true then 0 else 5) else 2
def exV (f x : Int) : E3 × Bool := if exE f x = 0 then fCas f (fromP x) else no3
theorem sum_pow (s : Bool) : sI s = 1 ∨ sI s = -1 := by cases s <;> simp [sI]
theorem int_low (n : Int) : 0 ≤ (intD n).2.2 := by
 unfold intD formD
 split <;> simp
theorem int_vI (n : Int) (K : Nat) : vI (intD n) (-(K : Int)) = n * 2 ^ K := by
 unfold intD
 rw [vI_form _ _ _ _ (by omega), show (0 - -(K : Int)).toNat = K by omega]
 push_cast
 rw [← Int.mul_assoc]
 congr 1
 unfold sI
 by_cases h : n < 0
 ·rw [decide_eq_true h, if_pos rfl]; omega
 ·rw [decide_eq_false h, if_neg (by decide)]; omega
theorem cmpI_zero (a b : Int) : Lib.compareInt a b = 0 ↔ a = b := by
 unfold Lib.compareInt
 split
 ·constructor <;> intro h <;> omega
 ·split
  ·constructor <;> intro h <;> omega
  ·constructor <;> intro h <;> omega
theorem ag_vI (p : E3) (n : Int) (K : Nat) (h : -(K : Int) ≤ p.2.2) : agI p n = Lib.compareInt (vI p (-(K : Int))) (n * 2 ^ K) := by
 unfold agI
 rw [vI_cmp p (intD n) K h (by have := int_low n; omega), int_vI]
theorem can_zero {p : E3} (h : CanD p) (h0 : p.2.1 = 0) : p = z3 := by
 rcases h with h | h
 ·exact h
 ·omega
theorem tnN_bd (p : E3) : 0 ≤ tnN p ∧ tnN p < 4 := by unfold tnN; split <;> omega
def drQ (u a : E3) : Int × Bool :=
 if u.2.1 = 0 then (2 - 2 * agI a 0, true) else
 (if u.1 = true then -(if agI a 0 = -1 then 3 else if agI a 0 = 0 then 2 else 1) else (if agI a 0 = -1 then 3 else if agI a 0 = 0 then 2 else 1),
  decide (agI a 0 = 0) || decide (cmpD (absD u) (absD a) = 0))
def is2 (f : Int) : Bool := decide (f = 33 ∨ f = 34)
def e2E (f y x : Int) : Int := if is2 f = true then (if (finB y && finB x && !(decide ((fromP y).2.1 = 0) && decide ((fromP x).2.1 = 0))) = true then 0 else 5) else 2
def msQ (f q : Int) : E3 × Bool := if f = 33 then (z3, decide (q = 0)) else (inQ q, true)
def e2V (f y x : Int) : E3 × Bool := if e2E f y x = 0 then (if (drQ (fromP y) (fromP x)).2 = true then msQ f (drQ (fromP y) (fromP x)).1 else no3) else no3
def fewB (v : E3 × Bool) : Prop := blen v.1.2.1 ≤ 54 ∧ CanD v.1
theorem fm_few (s : Bool) (m : Nat) (e : Int) (h : m < 2 ^ 54) : fewB (formD s m e, true) := ⟨Nat.le_trans (blen_mono (form_amount_le s m e)) ((blen_le _ _).2 h), form_can _ _ _⟩
theorem no_few : fewB no3 := ⟨by decide, .inl rfl⟩
theorem in_few (q : Int) (b : Bool) (h : q.natAbs ≤ 100) : fewB (inQ q, b) := fm_few _ _ _ (by omega)
theorem int_few (n : Int) (b : Bool) (h : n.natAbs ≤ 100000) : fewB (intD n, b) := fm_few _ _ _ (by omega)
theorem at_few (p : E3) : ∀ l : List (Int × Int), (∀ t ∈ l, t.2.natAbs ≤ 100) → fewB (cAt l p)
 | [], _ => no_few
 | (x, q) :: l, h => by
  unfold cAt
  split
  ·exact in_few q true (h (x, q) (List.mem_cons_self ..))
  ·exact at_few p l fun t ht => h t (List.mem_cons_of_mem _ ht)
theorem wh_vI (p : E3) : vI p (-((0 : Nat) : Int)) = whI p := by
 unfold vI whI
 rw [show (p.2.2 - -((0 : Nat) : Int)).toNat = p.2.2.toNat by omega]
theorem ag_wh (p : E3) (n : Int) (h : 0 ≤ p.2.2) : agI p n = Lib.compareInt (whI p) n := by
 rw [ag_vI p n 0 (by omega), wh_vI]
 congr 1
 omega
theorem pow_in {odd : Nat} {l m : Int} {p : E3} (h : (cPow odd l m p).2 = true) : cPow odd l m p = (toP odd (whI p), true) ∧ 0 ≤ p.2.2 ∧ l ≤ whI p ∧ whI p ≤ m := by
 unfold cPow at h ⊢
 split at h
 ·cases h
 ·rename_i k
  rw [if_neg k]
  have h0 : 0 ≤ p.2.2 := by omega
  rw [ag_wh p l h0, ag_wh p m h0] at k
  unfold Lib.compareInt at k
  refine ⟨rfl, h0, ?_, ?_⟩
  ·have := fun q => k (.inr (.inl q)); split at this <;> first | omega | exact absurd (by decide) this
  ·have := fun q => k (.inr (.inr q)); split at this <;> first | omega | (split at this <;> first | omega | exact absurd (by decide) this)
theorem pow_not {odd : Nat} {l m : Int} {p : E3} (h : ¬ (cPow odd l m p).2 = true) : cPow odd l m p = no3 := by
 unfold cPow at h ⊢
 split
 ·rfl
 ·rename_i k; rw [if_neg k] at h; exact absurd rfl h
theorem odd_pow (k : Nat) : 5 ^ k % 2 = 1 := by
 induction k with
 | zero => rfl
 | succ k ih => rw [Nat.pow_succ]; omega
theorem pow_few5 (m : Int) (hm : m ≤ 23) (p : E3) : fewB (cPow 5 0 m p) := by
 by_cases h : (cPow 5 0 m p).2 = true
 ·obtain ⟨e, _, h1, h2⟩ := pow_in h
  rw [e]
  refine ⟨?_, .inr (odd_pow _)⟩
  show blen (5 ^ (whI p).toNat) ≤ 54
  rw [blen_le]
  exact Nat.lt_of_le_of_lt (Nat.pow_le_pow_right (by decide) (show (whI p).toNat ≤ 23 by omega)) (by decide)
 ·rw [pow_not h]; exact no_few
theorem pow_few1 (l m : Int) (p : E3) : fewB (cPow 1 l m p) := by
 by_cases h : (cPow 1 l m p).2 = true
 ·obtain ⟨e, _, h1, h2⟩ := pow_in h
  rw [e]
  refine ⟨?_, .inr ?_⟩
  ·show blen (1 ^ (whI p).toNat) ≤ 54
   rw [Nat.one_pow]; decide
  ·show 1 ^ (whI p).toNat % 2 = 1
   rw [Nat.one_pow]
 ·rw [pow_not h]; exact no_few
theorem exp_few (odd : Nat) (l m : Int) (hl : -2000 ≤ l) (hm : m ≤ 2000) (p : E3) : fewB (cExp odd l m p) := by
 unfold cExp
 split
 ·exact no_few
 ·rename_i k
  split
  ·exact int_few _ true (by omega)
  ·exact no_few
theorem more_few (odd : Nat) (l m : Int) (hl : -2000 ≤ l) (hm : m ≤ 2000) (p : E3) : fewB (cMore (cExp odd l m) p) := by
 unfold cMore
 split
 ·exact exp_few odd l m hl hm _
 ·exact no_few
def ls1 (odd : Nat) (n : Int) : E3 := sumD (toP odd n) (negD (intD 1))
theorem ls_1 : (List.range 109).all (fun i => decide (roomE (ls1 1 ((i : Int) - 54)) = 0) && decide (blen (ls1 1 ((i : Int) - 54)).2.1 ≤ 54)) = true := by decide +kernel
theorem ls_5 : (List.range 17).all (fun i => decide (roomE (ls1 5 (i : Int)) = 0) && decide (blen (ls1 5 (i : Int)).2.1 ≤ 54)) = true := by decide +kernel
theorem room_eq {p : E3} (h : roomE p = 0) : roomP p = p := by
 unfold roomE at h
 unfold roomP
 split at h
 ·rename_i k; rw [if_pos k]
 ·omega
theorem to_can (odd : Nat) (h : odd % 2 = 1) (n : Int) : CanD (toP odd n) := by
 refine .inr ?_
 show odd ^ n.toNat % 2 = 1
 rw [Nat.pow_mod, h, Nat.one_pow]
theorem one_can : CanD (negD (intD 1)) := negD_canon (form_can _ _ _)
theorem ls_can (odd : Nat) (h : odd % 2 = 1) (n : Int) : CanD (ls1 odd n) := sum_canA (to_can odd h n) one_can
theorem ls_1all (n : Int) (h1 : -54 ≤ n) (h2 : n ≤ 54) : roomE (ls1 1 n) = 0 ∧ blen (ls1 1 n).2.1 ≤ 54 := by
 have := List.all_eq_true.1 ls_1 (n + 54).toNat (List.mem_range.2 (by omega))
 rw [Bool.and_eq_true, decide_eq_true_eq, decide_eq_true_eq, show (((n + 54).toNat : Int) - 54) = n by omega] at this
 exact this
theorem ls_5all (n : Int) (h1 : 0 ≤ n) (h2 : n ≤ 16) : roomE (ls1 5 n) = 0 ∧ blen (ls1 5 n).2.1 ≤ 54 := by
 have := List.all_eq_true.1 ls_5 n.toNat (List.mem_range.2 (by omega))
 rw [Bool.and_eq_true, decide_eq_true_eq, decide_eq_true_eq, show ((n.toNat : Int)) = n by omega] at this
 exact this
theorem less_eq {odd : Nat} {l m : Int} {p : E3} (h : (cPow odd l m p).2 = true) : cLess (cPow odd l m) p = (roomP (ls1 odd (whI p)), decide (roomE (ls1 odd (whI p)) = 0)) := by
 unfold cLess
 rw [if_pos h, (pow_in h).1]
 rfl
theorem less_not {odd : Nat} {l m : Int} {p : E3} (h : ¬ (cPow odd l m p).2 = true) : cLess (cPow odd l m) p = no3 := by
 unfold cLess
 rw [if_neg h]
theorem less_few1 (p : E3) : fewB (cLess (cPow 1 (-54) 54) p) := by
 by_cases h : (cPow 1 (-54) 54 p).2 = true
 ·obtain ⟨h1, h2⟩ := ls_1all (whI p) (pow_in h).2.2.1 (pow_in h).2.2.2
  rw [less_eq h, room_eq h1]
  exact ⟨h2, ls_can 1 rfl _⟩
 ·rw [less_not h]; exact no_few
theorem less_few5 (p : E3) : fewB (cLess (cPow 5 0 16) p) := by
 by_cases h : (cPow 5 0 16 p).2 = true
 ·obtain ⟨h1, h2⟩ := ls_5all (whI p) (pow_in h).2.2.1 (pow_in h).2.2.2
  rw [less_eq h, room_eq h1]
  exact ⟨h2, ls_can 5 rfl _⟩
 ·rw [less_not h]; exact no_few
theorem hgt_bd (n : Int) : (hgt n).natAbs ≤ 100000 := by unfold hgt; split <;> (try split) <;> decide
theorem sin_few (p : E3) : fewB (cSin p) := by
 unfold cSin
 split
 ·exact int_few _ true (hgt_bd _)
 ·exact no_few
theorem cos_few (p : E3) : fewB (cCos p) := by
 unfold cCos
 split
 ·exact int_few _ true (hgt_bd _)
 ·exact no_few
theorem tan_few (p : E3) : fewB (cTan p) := by
 unfold cTan
 split
 ·exact int_few _ true (by decide)
 ·split
  ·exact int_few _ true (by decide)
  ·split
   ·exact int_few _ true (by decide)
   ·exact no_few
theorem few_ite {c : Prop} [Decidable c] {A B : C3} {p : E3} (ha : fewB (A p)) (hb : fewB (B p)) : fewB ((if c then A else B) p) := by split <;> assumption
theorem cas_few (f : Int) (p : E3) : fewB (fCas f p) := by
 unfold fCas
 repeat' refine few_ite ?_ ?_
 all_goals first | (with_reducible exact at_few _ _ (by decide)) | (with_reducible exact pow_few1 _ _ _) | (with_reducible exact pow_few5 _ (by decide) _) | (with_reducible exact less_few1 _) | (with_reducible exact less_few5 _) | (with_reducible exact exp_few _ _ _ (by decide) (by decide) _) | (with_reducible exact more_few _ _ _ (by decide) (by decide) _) | (with_reducible exact sin_few _) | (with_reducible exact cos_few _) | (with_reducible exact tan_few _) | exact no_few
theorem ex_few (f x : Int) : fewB (exV f x) := by
 unfold exV
 split
 ·exact cas_few _ _
 ·exact no_few
theorem cmp_bd (p q : E3) : cmpD p q = -1 ∨ cmpD p q = 0 ∨ cmpD p q = 1 := by
 obtain ⟨K, hK⟩ : ∃ K : Nat, K = p.2.2.natAbs + q.2.2.natAbs := ⟨_, rfl⟩
 rw [vI_cmp p q K (by omega) (by omega)]
 unfold Lib.compareInt
 split
 ·exact .inl rfl
 ·split
  ·exact .inr (.inr rfl)
  ·exact .inr (.inl rfl)
theorem dr_bd (u a : E3) : -3 ≤ (drQ u a).1 ∧ (drQ u a).1 ≤ 4 := by
 have h := cmp_bd a (intD 0)
 unfold drQ
 have e : agI a 0 = cmpD a (intD 0) := rfl
 rw [e]
 split
 ·simp only; omega
 ·simp only
  split <;> split <;> (try split) <;> omega
theorem e2_few (f y x : Int) : fewB (e2V f y x) := by
 have h := dr_bd (fromP y) (fromP x)
 unfold e2V
 split
 ·split
  ·unfold msQ
   split
   ·exact ⟨show blen 0 ≤ 54 by decide, .inl rfl⟩
   ·exact in_few _ _ (by omega)
  ·exact no_few
 ·exact no_few
theorem cmp_eq {p q : E3} (hp : CanD p) (hq : CanD q) : cmpD p q = 0 ↔ p = q := by
 obtain ⟨K, hK⟩ : ∃ K : Nat, K = p.2.2.natAbs + q.2.2.natAbs := ⟨_, rfl⟩
 rw [vI_cmp p q K (by omega) (by omega), cmpI_zero]
 exact ⟨fun h => vI_inj p q hp hq (-(K : Int)) (by omega) (by omega) h, fun h => by rw [h]⟩
theorem ag_eq {p : E3} (hp : CanD p) (n : Int) : agI p n = 0 ↔ p = intD n := cmp_eq hp (form_can _ _ _)
def qpD (p : E3) : E3 := formD p.1 p.2.1 (p.2.2 + 2)
def quD (p : E3) : Int × Bool := if (qpD p).2.2 < 0 then (0, false) else (vI (qpD p) 0 % 8, true)
def whD (p : E3) : Int × Bool := if p.2.2 < 0 ∨ 0 < agI p 16384 ∨ agI p (-16384) < 0 then (0, false) else (whI p, true)
def tenD (n : Nat) : E3 := formD false (10 ^ n) 0
def ls1D (q : E3) : E3 := sumD q (negD (intD 1))
def zeD (f : Int) : E3 × Bool := if f = 1 ∨ f = 2 ∨ f = 3 ∨ f = 14 ∨ f = 17 ∨ f = 26 then (intD 1, true) else if f = 23 then ((false, 1, -1), true) else if f = 20 then no3 else (z3, true)
def pwD (f : Int) (p : E3) : E3 × Bool :=
 if (whD p).2 = false then no3
 else if f = 2 then ((false, 1, (whD p).1), true)
 else if f = 5 ∧ -54 ≤ (whD p).1 ∧ (whD p).1 ≤ 54 then (ls1D (false, 1, (whD p).1), true)
 else if f = 3 ∧ 0 ≤ (whD p).1 ∧ (whD p).1 ≤ 23 then (tenD (whD p).1.toNat, true)
 else if f = 6 ∧ 0 ≤ (whD p).1 ∧ (whD p).1 ≤ 16 then (ls1D (tenD (whD p).1.toNat), true)
 else no3
def lgA (f : Int) : Bool := decide (f = 9 ∨ f = 12)
def lgM (f : Int) : Nat := if 10 ≤ f then 16 else 22
def lgX (f : Int) (p : E3) : E3 := if 10 ≤ f then sumD p (intD 1) else p
def hitB (a : Bool) (d : E3) (n : Nat) : Bool := (decide (n = 0) || a) && decide (cmpD d (tenD n) = 0)
def lgT (a : Bool) (m : Nat) (d : E3) : E3 × Bool := match (List.range (m + 1)).find? (hitB a d) with | some n => (intD n, true) | none => no3
def lgD (f : Int) (p : E3) : E3 × Bool :=
 if f = 8 ∨ f = 11 then (if (lgX f p).1 = false ∧ (lgX f p).2.1 = 1 then (intD (lgX f p).2.2, true) else no3) else lgT (lgA f) (lgM f) (lgX f p)
def tbT (n : Int) : Int := if n = 1 ∨ n = 5 then 1 else if n = 3 ∨ n = 7 then -1 else 0
def tbS (n : Int) : Int := if n = 2 then 1 else if n = 6 then -1 else 0
def trD (f : Int) (p : E3) : E3 × Bool :=
 if (quD p).2 = false then no3
 else if f = 18 then (intD (tbT (quD p).1), true)
 else if (quD p).1 % 2 ≠ 0 then no3
 else if f = 17 then (intD (tbS (((quD p).1 + 2) % 8)), true)
 else (intD (tbS (quD p).1), true)
def anD (f : Int) (neg : Bool) : E3 × Bool :=
 if f = 22 then ((neg, 1, -1), true) else if f = 24 then ((neg, 1, -2), true) else if f = 23 then (if neg = true then (intD 1, true) else (z3, true))
 else if f = 20 ∨ f = 29 then (z3, !neg) else no3
def vaD (f : Int) (p : E3) : E3 × Bool :=
 if p.2.1 = 0 then zeD f
 else if 1 ≤ f ∧ f ≤ 6 then pwD f p
 else if 7 ≤ f ∧ f ≤ 12 then lgD f p
 else if 16 ≤ f ∧ f ≤ 18 then trD f p
 else if agI p 1 = 0 ∨ agI p (-1) = 0 then anD f (decide (agI p 0 < 0))
 else no3
def dmD (f : Int) (p : E3) : Bool :=
 if f = 7 ∨ f = 8 ∨ f = 9 then decide (0 < agI p 0)
 else if f = 10 ∨ f = 11 ∨ f = 12 then decide (0 < agI p (-1))
 else if f = 18 then (!(quD p).2 || decide ((quD p).1 % 4 ≠ 2))
 else if f = 19 ∨ f = 20 ∨ f = 22 ∨ f = 23 then (decide (agI p 1 ≤ 0) && decide (0 ≤ agI p (-1)))
 else if f = 29 then decide (0 ≤ agI p 1)
 else if f = 30 then (decide (agI p 1 < 0) && decide (0 < agI p (-1)))
 else true
/-! quarters and turns -/
theorem can_odd {p : E3} (hp : CanD p) (h : p.2.1 ≠ 0) : p.2.1 % 2 = 1 := by
 rcases hp with q | q
 ·rw [q] at h; exact absurd rfl h
 ·exact q
theorem qp_odd {p : E3} (hp : CanD p) (h : p.2.1 ≠ 0) : qpD p = (p.1, p.2.1, p.2.2 + 2) := form_odd _ (can_odd hp h) _
theorem tnW_whole {p : E3} (h : 0 ≤ p.2.2 + 1) : tnW p = p.2.1 * 2 ^ (p.2.2 + 1).toNat := by
 unfold tnW rdW2 fl2 up2 half2
 rw [if_pos (by omega), if_pos (by omega), show (- -(p.2.2 + 1)).toNat = (p.2.2 + 1).toNat by omega]
 simp
theorem tnR_whole (p : E3) (h : 0 ≤ p.2.2 + 1) : tnR p = z3 := by
 unfold tnR tnM
 rw [if_pos h, form_zero]; rfl
theorem q_whole {p : E3} (hp : CanD p) (h0 : p.2.1 ≠ 0) (h : 0 ≤ p.2.2 + 1) : quD p = (2 * tnN p, true) := by
 unfold quD
 rw [qp_odd hp h0, if_neg (show ¬ p.2.2 + 2 < 0 by omega)]
 have hn := tnN_bd p
 have hd : tnN p = if p.1 = true then (4 - (tnW p % 4 : Nat) : Int) % 4 else (tnW p % 4 : Nat) := rfl
 rw [tnW_whole h] at hd
 have e : vI (p.1, p.2.1, p.2.2 + 2) 0 = sI p.1 * (2 * (p.2.1 * 2 ^ (p.2.2 + 1).toNat : Nat) : Int) := by
  unfold vI
  simp only
  rw [show (p.2.2 + 2 - 0).toNat = (p.2.2 + 1).toNat + 1 by omega, Nat.pow_succ]
  congr 1
  rw [← Nat.mul_assoc, Nat.mul_comm _ 2]
  push_cast
  rfl
 rw [e]
 generalize p.2.1 * 2 ^ (p.2.2 + 1).toNat = W at *
 cases hs : p.1 <;> rw [hs] at hd <;> unfold sI <;> simp at hd ⊢ <;> omega
theorem quart_up (m : Nat) (hm : m % 2 = 1) : up2 m 1 = decide (m % 4 = 3) := by
 unfold up2 half2 over2 fl2 lostB
 rw [if_neg (by decide), if_neg (by decide), if_neg (by decide)]
 rw [Bool.eq_iff_iff]
 simp [Nat.testBit_zero]
 omega
theorem q_quart {p : E3} (hp : CanD p) (h0 : p.2.1 ≠ 0) (h : p.2.2 = -2) : quD p = ((sI p.1 * (p.2.1 : Int)) % 8, true) ∧ tnR p = (!(p.1 == decide (p.2.1 % 4 = 3)), 1, -2) := by
 have ho := can_odd hp h0
 constructor
 ·unfold quD
  rw [qp_odd hp h0, h, if_neg (show ¬ (-2 + 2 : Int) < 0 by decide)]
  unfold vI
  simp
 ·unfold tnR tnM tnU
  rw [h, if_neg (by decide), show (-((-2 : Int) + 1)) = 1 from rfl, quart_up _ ho]
  have : (if decide (p.2.1 % 4 = 3) = true then 2 ^ (1 : Int).toNat - p.2.1 % 2 ^ (1 : Int).toNat else p.2.1 % 2 ^ (1 : Int).toNat) = 1 := by
   show (if decide (p.2.1 % 4 = 3) = true then 2 - p.2.1 % 2 else p.2.1 % 2) = 1
   rw [ho]; split <;> rfl
  rw [this]
  exact form_odd _ rfl _
theorem q_less {p : E3} (hp : CanD p) (h0 : p.2.1 ≠ 0) (h : p.2.2 < -2) : quD p = (0, false) ∧ (tnR p).2.1 ≠ 0 ∧ (tnR p).2.2 = p.2.2 := by
 have ho := can_odd hp h0
 constructor
 ·unfold quD
  rw [qp_odd hp h0, if_pos (show p.2.2 + 2 < 0 by omega)]
 ·obtain ⟨k, hk⟩ : ∃ k : Nat, (-(p.2.2 + 1)) = ((k + 1 : Nat) : Int) := ⟨(-(p.2.2 + 1)).toNat - 1, by omega⟩
  have hM : tnM p % 2 = 1 := by
   unfold tnM
   rw [if_neg (by omega), hk, Int.toNat_natCast, Nat.pow_succ, Nat.mul_comm]
   have : p.2.1 % (2 * 2 ^ k) % 2 = 1 := by rw [Nat.mod_mul_right_mod]; exact ho
   have hlt : p.2.1 % (2 * 2 ^ k) < 2 * 2 ^ k := Nat.mod_lt _ (Nat.mul_pos (by decide) (Nat.two_pow_pos k))
   split <;> omega
  unfold tnR
  rw [form_odd _ hM]
  exact ⟨by show tnM p ≠ 0; omega, rfl⟩
theorem inQ_1 : inQ 1 = (false, 1, -2) := by decide +kernel
theorem inQ_m1 : inQ (-1) = (true, 1, -2) := by decide +kernel
theorem tnR_can (p : E3) : CanD (tnR p) := form_can _ _ _
theorem q_zero {p : E3} (hp : CanD p) (h0 : p.2.1 = 0) : quD p = (0, true) ∧ tnN p = 0 ∧ tnR p = z3 := by
 rw [can_zero hp h0]; decide +kernel
theorem three_ways (p : E3) : 0 ≤ p.2.2 + 1 ∨ p.2.2 = -2 ∨ p.2.2 < -2 := by omega
theorem dTan_eq {p : E3} (hp : CanD p) : (!(quD p).2 || decide ((quD p).1 % 4 ≠ 2)) = dTan p := by
 unfold dTan
 by_cases h0 : p.2.1 = 0
 ·obtain ⟨a, b, c⟩ := q_zero hp h0
  rw [a, b, c]; rfl
 rcases three_ways p with h | h | h
 ·have hn := tnN_bd p
  rw [q_whole hp h0 h, tnR_whole p h, Bool.eq_iff_iff]
  simp [z3]
  omega
 ·obtain ⟨a, b⟩ := q_quart hp h0 h
  have ho := can_odd hp h0
  rw [a, b, Bool.eq_iff_iff]
  simp
  cases p.1 <;> simp [sI] <;> omega
 ·obtain ⟨a, b, _⟩ := q_less hp h0 h
  rw [a, decide_eq_false b]; rfl
theorem tr_eq (f : Int) {p : E3} (hf : f = 16 ∨ f = 17 ∨ f = 18) (hp : CanD p) (h0 : p.2.1 ≠ 0) (hd : f = 18 → dTan p = true) : trD f p = if f = 16 then cSin p else if f = 17 then cCos p else cTan p := by
 unfold trD cSin cCos cTan
 rcases three_ways p with h | h | h
 ·have hn := tnN_bd p
  have hd' : f = 18 → (2 * tnN p) % 4 ≠ 2 := fun q => by
   have := hd q
   rw [← dTan_eq hp, q_whole hp h0 h] at this
   simpa using this
  rw [q_whole hp h0 h, tnR_whole p h]
  have e : tnN p = 0 ∨ tnN p = 1 ∨ tnN p = 2 ∨ tnN p = 3 := by omega
  rcases hf with rfl | rfl | rfl
  ·rcases e with e | e | e | e <;> rw [e] <;> rfl
  ·rcases e with e | e | e | e <;> rw [e] <;> rfl
  ·have := hd' rfl
   rcases e with e | e | e | e <;> rw [e] at this ⊢ <;> first | rfl | exact absurd rfl this
 ·obtain ⟨a, b⟩ := q_quart hp h0 h
  have ho := can_odd hp h0
  rw [a, b]
  have hc : ∀ (s : Bool), (cmpD (s, 1, -2) (inQ 1) = 0 ↔ s = false) ∧ (cmpD (s, 1, -2) (inQ (-1)) = 0 ↔ s = true) := fun s => by cases s <;> decide +kernel
  have hodd : (sI p.1 * (p.2.1 : Int)) % 8 % 2 ≠ 0 := by cases p.1 <;> simp [sI] <;> omega
  rcases hf with rfl | rfl | rfl
  ·rw [if_neg (by simp), if_neg (by decide), if_pos hodd, if_pos rfl, if_neg (by simp)]
  ·rw [if_neg (by simp), if_neg (by decide), if_pos hodd]
   simp only [if_neg (show ¬ (17 : Int) = 16 by decide), if_pos]
   rw [if_neg (by simp)]
  ·simp only [(hc _).1, (hc _).2, if_neg (show ¬ (18 : Int) = 16 by decide), if_neg (show ¬ (18 : Int) = 17 by decide)]
   cases p.1
   ·rcases (show p.2.1 % 8 = 1 ∨ p.2.1 % 8 = 3 ∨ p.2.1 % 8 = 5 ∨ p.2.1 % 8 = 7 by omega) with q | q | q | q
    all_goals
     have q4 : p.2.1 % 4 = p.2.1 % 8 % 4 := by omega
     have q8 : (sI false * (p.2.1 : Int)) % 8 = ((p.2.1 % 8 : Nat) : Int) := by simp [sI]
     rw [q4, q8, q]
     decide +kernel
   ·rcases (show p.2.1 % 8 = 1 ∨ p.2.1 % 8 = 3 ∨ p.2.1 % 8 = 5 ∨ p.2.1 % 8 = 7 by omega) with q | q | q | q
    all_goals
     have q4 : p.2.1 % 4 = p.2.1 % 8 % 4 := by omega
     have q8 : (sI true * (p.2.1 : Int)) % 8 = ((8 - p.2.1 % 8 : Nat) : Int) := by simp [sI]; omega
     rw [q4, q8, q]
     decide +kernel
 ·obtain ⟨a, b, c⟩ := q_less hp h0 h
  have n1 : cmpD (tnR p) (inQ 1) ≠ 0 := fun q => by
   replace q := (cmp_eq (tnR_can p) (show CanD (inQ 1) from form_can _ _ _)).1 q
   rw [inQ_1] at q
   rw [q] at c; simp at c; omega
  have n2 : cmpD (tnR p) (inQ (-1)) ≠ 0 := fun q => by
   replace q := (cmp_eq (tnR_can p) (show CanD (inQ (-1)) from form_can _ _ _)).1 q
   rw [inQ_m1] at q
   rw [q] at c; simp at c; omega
  rw [a, if_neg b, if_neg b, if_neg b, if_neg n1, if_neg n2]
  simp
theorem ten_form (n : Nat) : tenD n = (false, 5 ^ n, (n : Int)) := by
 unfold tenD
 rw [show (10 : Nat) ^ n = 5 ^ n * 2 ^ n by rw [← Nat.mul_pow], form_shift, form_odd _ (odd_pow n)]
 simp
theorem ten_can (n : Nat) : CanD (tenD n) := form_can _ _ _
theorem toP5 (n : Nat) : toP 5 (n : Int) = tenD n := by rw [ten_form]; unfold toP; rw [Int.toNat_natCast]
theorem toP1 (n : Int) : toP 1 n = (false, 1, n) := by unfold toP; rw [Nat.one_pow]
theorem one_form (n : Int) : CanD (false, 1, n) := .inr rfl
theorem wh_yes {p : E3} (h : (whD p).2 = true) : 0 ≤ p.2.2 ∧ (whD p).1 = whI p ∧ -16384 ≤ whI p ∧ whI p ≤ 16384 := by
 unfold whD at h ⊢
 split at h
 ·cases h
 ·rename_i k
  rw [if_neg k]
  have h0 : 0 ≤ p.2.2 := by omega
  rw [ag_wh p _ h0, ag_wh p _ h0] at k
  have bd : ∀ a b : Int, (Lib.compareInt a b < 0 ↔ a < b) ∧ (0 < Lib.compareInt a b ↔ b < a) := fun a b => by
   unfold Lib.compareInt; split <;> (try split) <;> constructor <;> constructor <;> intro h <;> first | omega | (exact absurd h (by decide))
  rw [(bd _ _).1, (bd _ _).2] at k
  exact ⟨h0, rfl, by omega, by omega⟩
theorem cmpI_bd (a b : Int) : (Lib.compareInt a b < 0 ↔ a < b) ∧ (0 < Lib.compareInt a b ↔ b < a) := by
 unfold Lib.compareInt; split <;> (try split) <;> constructor <;> constructor <;> intro h <;> first | omega | (exact absurd h (by decide))
theorem wh_not {p : E3} (h : (whD p).2 = false) : p.2.2 < 0 ∨ (0 ≤ p.2.2 ∧ (whI p < -16384 ∨ 16384 < whI p)) := by
 unfold whD at h
 split at h
 ·rename_i k
  by_cases h0 : p.2.2 < 0
  ·exact .inl h0
  ·rw [ag_wh p _ (by omega), ag_wh p _ (by omega), (cmpI_bd _ _).1, (cmpI_bd _ _).2] at k
   exact .inr ⟨by omega, by omega⟩
 ·cases h
theorem cpow_yes (odd : Nat) (l m : Int) {p : E3} (h0 : 0 ≤ p.2.2) (h1 : l ≤ whI p) (h2 : whI p ≤ m) : cPow odd l m p = (toP odd (whI p), true) := by
 unfold cPow
 rw [if_neg]
 rw [ag_wh p _ h0, ag_wh p _ h0, (cmpI_bd _ _).1, (cmpI_bd _ _).2]
 omega
theorem cpow_not (odd : Nat) (l m : Int) {p : E3} (h : p.2.2 < 0 ∨ (0 ≤ p.2.2 ∧ (whI p < l ∨ m < whI p))) : cPow odd l m p = no3 := by
 unfold cPow
 rw [if_pos]
 rcases h with h | ⟨h0, h⟩
 ·exact .inl h
 ·rw [ag_wh p _ h0, ag_wh p _ h0, (cmpI_bd _ _).1, (cmpI_bd _ _).2]
  omega
theorem less_yes {odd : Nat} {l m : Int} {p : E3} (h : cPow odd l m p = (toP odd (whI p), true)) (hr : roomE (ls1 odd (whI p)) = 0) : cLess (cPow odd l m) p = (ls1 odd (whI p), true) := by
 rw [less_eq (show (cPow odd l m p).2 = true by rw [h]), room_eq hr, decide_eq_true hr]
theorem at_none (l : List (Int × Int)) (p : E3) (h : ∀ t ∈ l, agI p t.1 ≠ 0) : cAt l p = no3 := by
 induction l with
 | nil => rfl
 | cons t l ih =>
  obtain ⟨x, q⟩ := t
  unfold cAt
  rw [if_neg (h (x, q) (List.mem_cons_self ..))]
  exact ih fun t ht => h t (List.mem_cons_of_mem _ ht)
theorem pw_eq (f : Int) {p : E3} (hf : 1 ≤ f ∧ f ≤ 6) (hp : CanD p) (h0 : p.2.1 ≠ 0) : pwD f p = fCas f p := by
 have z : agI p 0 ≠ 0 := fun q => by rw [ag_eq hp] at q; rw [q] at h0; exact h0 rfl
 have e : f = 1 ∨ f = 2 ∨ f = 3 ∨ f = 4 ∨ f = 5 ∨ f = 6 := by omega
 unfold pwD
 cases hw : (whD p).2 with
 | false =>
  rw [if_pos rfl]
  have k := wh_not hw
  have n1 : ∀ odd l m, -16384 ≤ l → m ≤ 16384 → cPow odd l m p = no3 := fun odd l m h1 h2 => cpow_not odd l m (by omega)
  have n2 : ∀ odd l m, -16384 ≤ l → m ≤ 16384 → cLess (cPow odd l m) p = no3 := fun odd l m h1 h2 => less_not (by rw [n1 odd l m h1 h2]; simp [no3])
  rcases e with rfl | rfl | rfl | rfl | rfl | rfl
  ·exact (at_none _ _ (by simpa using z)).symm
  ·exact (n1 _ _ _ (by decide) (by decide)).symm
  ·exact (n1 _ _ _ (by decide) (by decide)).symm
  ·exact (at_none _ _ (by simpa using z)).symm
  ·exact (n2 _ _ _ (by decide) (by decide)).symm
  ·exact (n2 _ _ _ (by decide) (by decide)).symm
 | true =>
  obtain ⟨k0, k1, k2, k3⟩ := wh_yes hw
  rw [if_neg (by decide), k1]
  rcases e with rfl | rfl | rfl | rfl | rfl | rfl
  ·rw [if_neg (by decide), if_neg (by omega), if_neg (by omega), if_neg (by omega)]
   exact (at_none _ _ (by simpa using z)).symm
  ·rw [if_pos rfl]
   show _ = cPow 1 (-16384) 16384 p
   rw [cpow_yes 1 _ _ k0 k2 k3, toP1]
  ·rw [if_neg (by decide), if_neg (by omega)]
   show _ = cPow 5 0 23 p
   by_cases q : 0 ≤ whI p ∧ whI p ≤ 23
   ·rw [if_pos ⟨rfl, q⟩, cpow_yes 5 _ _ k0 q.1 q.2, ← toP5, Int.toNat_of_nonneg q.1]
   ·rw [if_neg (by omega), if_neg (by omega), cpow_not 5 _ _ (by omega)]
  ·rw [if_neg (by decide), if_neg (by omega), if_neg (by omega), if_neg (by omega)]
   exact (at_none _ _ (by simpa using z)).symm
  ·rw [if_neg (by decide)]
   show _ = cLess (cPow 1 (-54) 54) p
   by_cases q : -54 ≤ whI p ∧ whI p ≤ 54
   ·rw [if_pos ⟨rfl, q⟩, less_yes (cpow_yes 1 _ _ k0 q.1 q.2) (ls_1all _ q.1 q.2).1]
    unfold ls1D ls1
    rw [toP1]
   ·rw [if_neg (by omega), if_neg (by omega), if_neg (by omega), less_not (by rw [cpow_not 1 _ _ (by omega)]; simp [no3])]
  ·rw [if_neg (by decide), if_neg (by omega), if_neg (by omega)]
   show _ = cLess (cPow 5 0 16) p
   by_cases q : 0 ≤ whI p ∧ whI p ≤ 16
   ·rw [if_pos ⟨rfl, q⟩, less_yes (cpow_yes 5 _ _ k0 q.1 q.2) (ls_5all _ q.1 q.2).1]
    unfold ls1D ls1
    rw [← toP5, Int.toNat_of_nonneg q.1]
   ·rw [if_neg (by omega), less_not (by rw [cpow_not 5 _ _ (by omega)]; simp [no3])]
/-! logarithms -/
theorem hit_eq {d : E3} (hd : CanD d) (a : Bool) (n : Nat) : hitB a d n = true ↔ (n = 0 ∨ a = true) ∧ d = tenD n := by
 unfold hitB
 rw [Bool.and_eq_true, decide_eq_true_eq, cmp_eq hd (ten_can n), Bool.or_eq_true, decide_eq_true_eq]
theorem lgT_hit {a : Bool} {m : Nat} {d : E3} (hd : CanD d) {n : Nat} (hn : n ≤ m) (h : hitB a d n = true) : lgT a m d = (intD n, true) := by
 unfold lgT
 have : (List.range (m + 1)).find? (hitB a d) = some n := by
  rw [List.find?_range_eq_some]
  refine ⟨h, List.mem_range.2 (by omega), fun j hj => ?_⟩
  have h1 := ((hit_eq hd a n).1 h).2
  have : ¬ hitB a d j = true := fun q => by
   have h2 := ((hit_eq hd a j).1 q).2
   rw [h1, ten_form, ten_form] at h2
   have := congrArg (fun t : E3 => t.2.2) h2
   simp at this
   omega
  simpa using this
 rw [this]
theorem lgT_none {a : Bool} {m : Nat} {d : E3} (h : ∀ n, n ≤ m → ¬ hitB a d n = true) : lgT a m d = no3 := by
 unfold lgT
 have : (List.range (m + 1)).find? (hitB a d) = none := by
  rw [List.find?_eq_none]
  intro n hn
  exact h n (by have := List.mem_range.1 hn; omega)
 rw [this]
theorem lg_all {m : Nat} {d : E3} (hd : CanD d) : lgT true m d = cExp 5 0 (m : Int) d := by
 unfold cExp
 by_cases q : d.2.2 < 0 ∨ (m : Int) < d.2.2
 ·rw [if_pos q]
  refine lgT_none fun n hn k => ?_
  have := ((hit_eq hd _ n).1 k).2
  rw [this, ten_form] at q
  simp at q
  omega
 ·rw [if_neg q]
  obtain ⟨n, hn⟩ : ∃ n : Nat, d.2.2 = (n : Int) := ⟨d.2.2.toNat, by omega⟩
  rw [hn, toP5]
  by_cases k : cmpD d (tenD n) = 0
  ·rw [if_pos k, lgT_hit hd (by omega) ((hit_eq hd true n).2 ⟨.inr rfl, (cmp_eq hd (ten_can n)).1 k⟩)]
  ·rw [if_neg k]
   refine lgT_none fun j hj c => ?_
   have c2 := ((hit_eq hd _ j).1 c).2
   have : (j : Int) = n := by rw [← hn, c2, ten_form]
   have : j = n := by omega
   rw [this] at c2
   exact k ((cmp_eq hd (ten_can n)).2 c2)
theorem lg_one {m : Nat} {d : E3} (hd : CanD d) : lgT false m d = if d = intD 1 then (z3, true) else no3 := by
 have h1 : tenD 0 = intD 1 := rfl
 by_cases q : d = intD 1
 ·rw [if_pos q, lgT_hit hd (Nat.zero_le _) ((hit_eq hd false 0).2 ⟨.inl rfl, by rw [h1]; exact q⟩)]
  rfl
 ·rw [if_neg q]
  refine lgT_none fun n _ c => ?_
  have := (hit_eq hd _ n).1 c
  rcases this with ⟨rfl | e, k⟩
  ·exact q (by rw [← h1]; exact k)
  ·cases e
theorem lg_two {d : E3} (hd : CanD d) (hl : -1074 ≤ d.2.2) (hm : d.1 = false ∧ d.2.1 = 1 → d.2.2 ≤ 1023) : (if d.1 = false ∧ d.2.1 = 1 then (intD d.2.2, true) else no3) = cExp 1 (-1074) 1023 d := by
 unfold cExp
 by_cases q : d.1 = false ∧ d.2.1 = 1
 ·have e : d = (false, 1, d.2.2) := by rw [← q.1, ← q.2]
  rw [if_pos q, if_neg (by have := hm q; omega), toP1, if_pos]
  rw [cmp_eq hd (one_form _)]
  exact e
 ·rw [if_neg q]
  split
  ·rfl
  ·rw [toP1, if_neg]
   rw [cmp_eq hd (one_form _)]
   intro e
   exact q ⟨by rw [e], by rw [e]⟩
theorem fin_unit (x : Int) (h : finB x = true) : unitV x ≤ 971 := by
 unfold finB at h
 have := of_decide_eq_true h
 unfold unitV expV
 split <;> omega
theorem from_top (x : Int) : (fromP x).2.2 ≤ 1023 := by
 unfold fromP
 split
 ·rename_i h
  have hu := fin_unit x h
  have hc := fa_cnt x
  unfold fromD
  by_cases h0 : (countV x).toNat = 0
  ·rw [h0, form_zero]; decide
  ·rw [form_pos _ h0]
   have h2 := (odd_part h0)
   have : tz (countV x).toNat < 53 := by
    refine Nat.lt_of_not_le fun q => ?_
    have : 2 ^ 53 ≤ 2 ^ tz (countV x).toNat := Nat.pow_le_pow_right (by decide) q
    have h3 : 1 * 2 ^ tz (countV x).toNat ≤ (countV x).toNat / 2 ^ tz (countV x).toNat * 2 ^ tz (countV x).toNat := Nat.mul_le_mul_right _ (Nat.pos_of_ne_zero fun q => by have := h2.1; rw [q] at this; cases this)
    rw [h2.2] at h3
    omega
   show unitV x + (tz (countV x).toNat : Int) ≤ 1023
   omega
 ·decide
theorem from_less (x : Int) (K : Nat) (hK : K = 2045) : (vI (fromP x) (-1074)).natAbs ≤ (2 ^ 53 - 1) * 2 ^ K := by
 unfold fromP
 split
 ·rename_i h
  have hu := fin_unit x h
  have hv := fa_unit x
  have hc := fa_cnt x
  unfold fromD
  rw [vI_form _ _ _ _ hv.1, Int.natAbs_mul, Int.natAbs_natCast]
  have h1 : (sI (sgnB x)).natAbs = 1 := by unfold sI; split <;> rfl
  rw [h1, Nat.one_mul]
  exact Nat.mul_le_mul (by omega) (Nat.pow_le_pow_right (by decide) (by omega))
 ·rw [vI_zero rfl]; exact Nat.zero_le _
theorem more_bd (x : Int) : -1074 ≤ (sumD (fromP x) (intD 1)).2.2 ∧ roomE (sumD (fromP x) (intD 1)) = 0 ∧ CanD (sumD (fromP x) (intD 1)) ∧ ((sumD (fromP x) (intD 1)).1 = false ∧ (sumD (fromP x) (intD 1)).2.1 = 1 → (sumD (fromP x) (intD 1)).2.2 ≤ 1023) := by
 have hl : -1074 ≤ (sumD (fromP x) (intD 1)).2.2 := sum_low _ _ _ (by decide) (fa_bd x).2.1 (by decide)
 have hc : CanD (sumD (fromP x) (intD 1)) := sum_canA (fa_can x) (form_can _ _ _)
 obtain ⟨K, hK⟩ : ∃ K : Nat, K = 2045 := ⟨_, rfl⟩
 obtain ⟨J, hJ⟩ : ∃ J : Nat, J = 1074 := ⟨_, rfl⟩
 have hb := from_less x K hK
 have hs := vI_sum (fromP x) (intD 1) (-1074) (fa_bd x).2.1 (by decide)
 have h1 : vI (intD 1) (-1074) = 2 ^ J := by
  have := int_vI 1 J
  rw [hJ] at this ⊢
  rw [show (-((1074 : Nat) : Int)) = -1074 from rfl, Int.one_mul] at this
  exact this
 rw [h1] at hs
 have h2 : (2 : Nat) ^ J < 2 ^ K := Nat.pow_lt_pow_right (by decide) (by omega)
 have h3 : (vI (sumD (fromP x) (intD 1)) (-1074)).natAbs < 2 ^ (53 + K) := by
  rw [hs, Nat.pow_add]
  have e : ((2 : Int) ^ J).natAbs = 2 ^ J := by rw [Int.natAbs_pow]; rfl
  have := Int.natAbs_add_le (vI (fromP x) (-1074)) (2 ^ J)
  rw [e] at this
  have e2 : (2 ^ 53 - 1) * 2 ^ K + 2 ^ K = 2 ^ 53 * 2 ^ K := by rw [Nat.sub_mul]; have : 2 ^ K ≤ 2 ^ 53 * 2 ^ K := Nat.le_mul_of_pos_left _ (by decide); omega
  omega
 obtain ⟨r1, r2, _, r4⟩ := units_bd hc (-1074) (53 + K) hl (by decide) (by omega) h3
 refine ⟨hl, r1, hc, fun q => ?_⟩
 have := r4 (by rw [q.2]; decide)
 rw [q.2] at this
 have hb1 : blen 1 = 1 := by decide
 rw [hb1] at this
 omega
theorem lgD_eq (f : Int) (x : Int) (hf : 7 ≤ f ∧ f ≤ 12) (h0 : (fromP x).2.1 ≠ 0) : lgD f (fromP x) = fCas f (fromP x) := by
 have hc := fa_can x
 obtain ⟨m1, m2, m3, m4⟩ := more_bd x
 have e : f = 7 ∨ f = 8 ∨ f = 9 ∨ f = 10 ∨ f = 11 ∨ f = 12 := by omega
 unfold lgD lgX lgA lgM
 rcases e with rfl | rfl | rfl | rfl | rfl | rfl
 ·show lgT false 22 (fromP x) = cAt [(1, 0)] (fromP x)
  rw [lg_one hc]
  unfold cAt
  simp only [ag_eq hc]
  rfl
 ·show (if (fromP x).1 = false ∧ (fromP x).2.1 = 1 then (intD (fromP x).2.2, true) else no3) = cExp 1 (-1074) 1023 (fromP x)
  exact lg_two hc (fa_bd x).2.1 fun _ => from_top x
 ·show lgT true 22 (fromP x) = cExp 5 0 22 (fromP x)
  exact lg_all hc
 ·show lgT false 16 (sumD (fromP x) (intD 1)) = cAt [(0, 0)] (fromP x)
  have z : agI (fromP x) 0 ≠ 0 := fun q => by rw [ag_eq hc] at q; rw [q] at h0; exact h0 rfl
  rw [at_none _ _ (by simpa using z), lg_one m3, if_neg]
  intro q
  have hs := vI_sum (fromP x) (intD 1) (-1074) (fa_bd x).2.1 (by decide)
  rw [q] at hs
  have : vI (fromP x) (-1074) = vI (intD 0) (-1074) := by rw [show vI (intD 0) (-1074) = 0 from vI_zero rfl _]; omega
  exact h0 (by rw [vI_inj _ _ hc (form_can _ _ _) (-1074) (fa_bd x).2.1 (by decide) this]; rfl)
 ·show (if (sumD (fromP x) (intD 1)).1 = false ∧ (sumD (fromP x) (intD 1)).2.1 = 1 then (intD (sumD (fromP x) (intD 1)).2.2, true) else no3) = cMore (cExp 1 (-1074) 1023) (fromP x)
  unfold cMore
  rw [if_pos m2, room_eq m2]
  exact lg_two m3 m1 m4
 ·show lgT true 16 (sumD (fromP x) (intD 1)) = cMore (cExp 5 0 16) (fromP x)
  unfold cMore
  rw [if_pos m2, room_eq m2]
  exact lg_all m3
/-! the whole -/
theorem dm_eq (f : Int) {p : E3} (hp : CanD p) : dmD f p = fDom f p := by
 unfold dmD fDom dAbove dFrom1 dTo1 dIn1 dAny
 rw [dTan_eq hp]
 repeat' split
 all_goals first | rfl | exact Bool.and_comm _ _ | (exfalso; omega)
theorem z_all : (List.range 31).all (fun f => !(decide (1 ≤ f) && fDom (f : Int) z3) || decide (zeD (f : Int) = fCas (f : Int) z3)) = true := by decide +kernel
theorem z_cases (f : Nat) (h : f < 31) (h1 : 1 ≤ f) (h2 : fDom (f : Int) z3 = true) : zeD (f : Int) = fCas (f : Int) z3 := by
 have := List.all_eq_true.1 z_all f (List.mem_range.2 h)
 rw [decide_eq_true h1, h2] at this
 simpa using this
def k1B (d : E3) (n : Nat) : Bool := !fDom (n : Int) d || decide (anD (n : Int) (decide (agI d 0 < 0)) = fCas (n : Int) d)
theorem k_all : (List.range 31).all (fun n => decide (n ≤ 12) || decide (16 ≤ n ∧ n ≤ 18) || (k1B (intD 1) n && k1B (intD (-1)) n)) = true := by decide +kernel
theorem k_one {d : E3} {n : Nat} (h : k1B d n = true) (k : fDom (n : Int) d = true) : anD (n : Int) (decide (agI d 0 < 0)) = fCas (n : Int) d := by
 unfold k1B at h
 rw [k] at h
 simpa using h
theorem va_eq (f x : Int) (hf : 1 ≤ f ∧ f ≤ 30) (hd : fDom f (fromP x) = true) : vaD f (fromP x) = fCas f (fromP x) := by
 have hp := fa_can x
 unfold vaD
 by_cases h0 : (fromP x).2.1 = 0
 ·rw [if_pos h0]
  have e := can_zero hp h0
  rw [e] at hd ⊢
  obtain ⟨n, rfl⟩ : ∃ n : Nat, f = (n : Int) := ⟨f.toNat, by omega⟩
  exact z_cases n (by omega) (by omega) hd
 ·rw [if_neg h0]
  by_cases q1 : 1 ≤ f ∧ f ≤ 6
  ·rw [if_pos q1]; exact pw_eq f q1 hp h0
  rw [if_neg q1]
  by_cases q2 : 7 ≤ f ∧ f ≤ 12
  ·rw [if_pos q2]; exact lgD_eq f x q2 h0
  rw [if_neg q2]
  by_cases q3 : 16 ≤ f ∧ f ≤ 18
  ·rw [if_pos q3, tr_eq f (by omega) hp h0 fun q => by rw [q] at hd; exact hd]
   rcases (show f = 16 ∨ f = 17 ∨ f = 18 by omega) with rfl | rfl | rfl <;> rfl
  rw [if_neg q3]
  have z : agI (fromP x) 0 ≠ 0 := fun q => by rw [ag_eq hp] at q; rw [q] at h0; exact h0 rfl
  by_cases q4 : agI (fromP x) 1 = 0 ∨ agI (fromP x) (-1) = 0
  ·rw [if_pos q4]
   rw [ag_eq hp, ag_eq hp] at q4
   obtain ⟨n, rfl⟩ : ∃ n : Nat, f = (n : Int) := ⟨f.toNat, by omega⟩
   have this := List.all_eq_true.1 k_all n (List.mem_range.2 (by omega))
   rw [decide_eq_false (show ¬ n ≤ 12 by omega), decide_eq_false (show ¬ (16 ≤ n ∧ n ≤ 18) by omega), Bool.false_or, Bool.false_or, Bool.and_eq_true] at this
   rcases q4 with q | q
   ·rw [q] at hd ⊢; exact k_one this.1 hd
   ·rw [q] at hd ⊢; exact k_one this.2 hd
  ·rw [if_neg q4]
   have a1 : agI (fromP x) 1 ≠ 0 := fun q => q4 (.inl q)
   have a2 : agI (fromP x) (-1) ≠ 0 := fun q => q4 (.inr q)
   have e : f = 13 ∨ f = 14 ∨ f = 15 ∨ f = 19 ∨ f = 20 ∨ f = 21 ∨ f = 22 ∨ f = 23 ∨ f = 24 ∨ f = 25 ∨ f = 26 ∨ f = 27 ∨ f = 28 ∨ f = 29 ∨ f = 30 := by omega
   rcases e with rfl | rfl | rfl | rfl | rfl | rfl | rfl | rfl | rfl | rfl | rfl | rfl | rfl | rfl | rfl <;> exact (at_none _ _ (by simp [z, a1, a2])).symm
def exDV (f x : Int) : E3 × Bool := if exE f x = 0 then vaD f (fromP x) else no3
theorem exDV_eq (f x : Int) : exDV f x = exV f x := by
 unfold exDV exV
 by_cases h : exE f x = 0
 ·rw [if_pos h, if_pos h]
  have hk : isF f = true ∧ exD f x = true := by
   unfold exE at h
   split at h
   ·split at h
    ·exact ⟨by assumption, by assumption⟩
    ·omega
   ·omega
  have h2 := hk.2
  unfold exD at h2
  rw [Bool.and_eq_true, Bool.and_eq_true] at h2
  exact va_eq f x (of_decide_eq_true hk.1) h2.2
 ·rw [if_neg h, if_neg h]
end Go.Proofs.YtiijfnaaekmpbaaGreatDoor

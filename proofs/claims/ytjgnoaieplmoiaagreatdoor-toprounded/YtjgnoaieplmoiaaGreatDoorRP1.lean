/- The point of change above a binary64, and what lies just beside it (pure). -/
import Derived.Test.YtjgnoaieplmoiaaGreatDoorRP0
import Derived.Test.YtjgnoaieplmoiaaGreatDoorRDE
import Derived.Test.YtjgnoaieplmoiaaGreatDoorPFA
namespace Go.Proofs.YtjgnoaieplmoiaaGreatDoor
open Go.RowKit

def cK (V : Int) : Nat := (unitV V + 1074).toNat
def cC (V : Int) : Nat := (countV V).toNat
theorem cell_facts (V : Int) (h0 : 0 ≤ V) (h1 : V < 9218868437227405312) : cC V < 9007199254740992 ∧ (cK V = 0 ∨ 4503599627370496 ≤ cC V) ∧ cK V ≤ 2045 ∧ V = (cK V : Int) * 4503599627370496 + (cC V : Int) := by
  unfold cK cC unitV countV expV fracV
  split <;> omega
theorem cell_mod (x : Int) : cC (x % 9223372036854775808) = cC x ∧ cK (x % 9223372036854775808) = cK x := by
  have e1 : expV (x % 9223372036854775808) = expV x := by unfold expV; omega
  have e2 : fracV (x % 9223372036854775808) = fracV x := by unfold fracV; omega
  unfold cC cK countV unitV
  rw [e1, e2]
  exact ⟨rfl, rfl⟩
theorem cnt_of (V : Int) (E F : Nat) (hE : expV V = (E : Int)) (hF : fracV V = (F : Int)) : cC V = (if E = 0 then F else F + 4503599627370496) ∧ cK V = E - 1 := by
  unfold cC cK countV unitV
  rw [hE, hF]
  by_cases q : E = 0
  · subst q
    exact ⟨by simp, by simp⟩
  · have q' : ¬ (E : Int) = 0 := by omega
    rw [if_neg q', if_neg q', if_neg q]
    have e1 : (F : Int) + 4503599627370496 = ((F + 4503599627370496 : Nat) : Int) := by omega
    have e2 : (E : Int) - 1075 + 1074 = ((E - 1 : Nat) : Int) := by omega
    rw [e1, e2, Int.toNat_natCast, Int.toNat_natCast]
    exact ⟨rfl, rfl⟩
theorem next_parts (V : Int) (h0 : 0 ≤ V) (h1 : V < 9218868437227405312) : (fracV V + 1 < 4503599627370496 → expV (V + 1) = expV V ∧ fracV (V + 1) = fracV V + 1) ∧ (¬ fracV V + 1 < 4503599627370496 → expV (V + 1) = expV V + 1 ∧ fracV (V + 1) = 0 ∧ fracV V = 4503599627370495) ∧ 0 ≤ expV V ∧ 0 ≤ fracV V := by
  unfold expV fracV
  omega
theorem cell_step (E F z L : Nat) : (if E = 0 then F + 1 else F + 1 + L) * 2 ^ (E - 1 + z) = ((if E = 0 then F else F + L) + 1) * 2 ^ (E - 1 + z) := by
  by_cases q : E = 0
  · rw [if_pos q, if_pos q]
  · rw [if_neg q, if_neg q, Nat.add_right_comm F 1]
theorem cell_jump (E z L M : Nat) (h : L = M + 1) : (0 + L) * 2 ^ (E + 1 - 1 + z) = ((if E = 0 then M else M + L) + 1) * 2 ^ (E - 1 + z) := by
  subst h
  by_cases q : E = 0
  · subst q
    rw [if_pos rfl, Nat.zero_add]
  · rw [if_neg q, show E + 1 - 1 + z = (E - 1 + z) + 1 by omega, Nat.pow_succ, Nat.zero_add, Nat.mul_comm (2 ^ (E - 1 + z)) 2, ← Nat.mul_assoc]
    congr 1
    omega
theorem next_cell (V : Int) (h0 : 0 ≤ V) (h1 : V < 9218868437227405312) (z : Nat) : cC (V + 1) * 2 ^ (cK (V + 1) + z) = (cC V + 1) * 2 ^ (cK V + z) := by
  obtain ⟨n1, n2, n3, n4⟩ := next_parts V h0 h1
  obtain ⟨E, hE⟩ : ∃ E : Nat, expV V = (E : Int) := ⟨(expV V).toNat, by omega⟩
  obtain ⟨F, hF⟩ : ∃ F : Nat, fracV V = (F : Int) := ⟨(fracV V).toNat, by omega⟩
  have k0 := cnt_of V E F hE hF
  by_cases c : fracV V + 1 < 4503599627370496
  · obtain ⟨a1, a2⟩ := n1 c
    have k1 := cnt_of (V + 1) E (F + 1) (by rw [a1, hE]) (by rw [a2, hF]; omega)
    rw [k0.1, k0.2, k1.1, k1.2]
    exact cell_step E F z 4503599627370496
  · obtain ⟨a1, a2, a3⟩ := n2 c
    have k1 := cnt_of (V + 1) (E + 1) 0 (by rw [a1, hE]; omega) (by rw [a2]; rfl)
    have hF0 : F = 4503599627370495 := by omega
    subst hF0
    rw [k0.1, k0.2, k1.1, k1.2, if_neg (Nat.succ_ne_zero E)]
    exact cell_jump E z 4503599627370496 4503599627370495 rfl
/-- what a finite binary64 is worth -/
theorem from_val (x : Int) (_ux : U x) (hx : finB x = true) (K : Nat) (hK : K = 32768) : vI (fromP x) (-(K : Int)) = sI (sgnB x) * ((cC x * 2 ^ (cK x + (K - 1074)) : Nat) : Int) := by
  unfold fromP
  rw [if_pos hx]
  unfold fromD
  have hu : -1074 ≤ unitV x := by unfold unitV expV; split <;> omega
  rw [vI_form _ _ _ _ (by omega)]
  unfold cC cK
  rw [show (unitV x - -(K : Int)).toNat = (unitV x + 1074).toNat + (K - 1074) by omega]
def upT (x : Int) : Bool × Nat × Int := if finB (upV x) = true then fromP (upV x) else (false, 1, 1024)
theorem sum_canP {x y : Bool × Nat × Int} (hx : CanD x) (hy : CanD y) : CanD (sumD x y) := by
  have ha : ∀ s A t b e, CanD (addHi s A t b e) := fun s A t b e => by
    unfold addHi
    split
    · exact form_can _ _ _
    · split <;> exact form_can _ _ _
  unfold sumD
  split
  · exact hy
  · split
    · exact hx
    · split <;> exact ha _ _ _ _ _
theorem from_can (x : Int) : CanD (fromP x) ∧ -1074 ≤ (fromP x).2.2 := by
  unfold fromP
  split
  · refine ⟨form_can _ _ _, form_lo _ _ _ _ ?_ (by decide)⟩
    unfold unitV expV; split <;> omega
  · exact ⟨.inl rfl, by decide⟩
theorem up_can (x : Int) : CanD (upT x) ∧ -1074 ≤ (upT x).2.2 := by
  unfold upT
  split
  · exact from_can _
  · exact ⟨.inr rfl, by decide⟩
/-- a number that is not too small and not too great has room -/
theorem right_val (P : Bool × Nat × Int) (cP : CanD P) (K : Nat) (hK : K = 32768) (h1 : -4000 ≤ P.2.2) (h2 : (vI P (-(K : Int))).natAbs < 2 ^ (K + 2000)) : rightB P.2.1 P.2.2 = true := by
  have key : blen P.2.1 ≤ 65536 ∧ P.2.2 ≤ 32768 := by
    rcases cP with q | q
    · rw [q]; exact ⟨by rw [blen_zero]; decide, by decide⟩
    · have hm : P.2.1 ≠ 0 := by omega
      have hv : (vI P (-(K : Int))).natAbs = P.2.1 * 2 ^ (P.2.2 + K).toNat := by
        unfold vI sI
        rw [Int.natAbs_mul, show (P.2.2 - -(K : Int)).toNat = (P.2.2 + K).toNat by omega]
        rw [Int.natAbs_natCast]
        split <;> simp
      rw [hv] at h2
      have hb := (blen_le _ _).2 h2
      rw [blen_mul _ _ hm] at hb
      omega
  unfold rightB inB
  rw [(great_not _).2 key.1, decide_eq_true ⟨by omega, key.2⟩]
  rfl
def midQ (x : Int) : Bool × Nat × Int := formD (sumD (fromP x) (upT x)).1 (sumD (fromP x) (upT x)).2.1 ((sumD (fromP x) (upT x)).2.2 - 1)
theorem pow_half (k K : Nat) (hK : K = 32768) : 2 ^ (k + (K - 1074)) = 2 * 2 ^ (k + (K - 1075)) := by
  rw [show k + (K - 1074) = (k + (K - 1075)) + 1 by omega, Nat.pow_succ]; omega
theorem up_val (x : Int) (ux : U x) (hx : finB x = true) (K : Nat) (hK : K = 32768) :
    (¬ 9223372036854775808 < x → upV x = x % 9223372036854775808 + 1 ∧ vI (upT x) (-(K : Int)) = (((cC x + 1) * 2 ^ (cK x + (K - 1074)) : Nat) : Int)) ∧
    (9223372036854775808 < x → upV x = x - 1 ∧ vI (upT x) (-(K : Int)) = -((cC (x % 9223372036854775808 - 1) * 2 ^ (cK (x % 9223372036854775808 - 1) + (K - 1074)) : Nat) : Int)) := by
  obtain ⟨u0, u1⟩ := ux
  have hf : x % 9223372036854775808 < 9218868437227405312 := by unfold finB at hx; simpa using hx
  constructor
  · intro h
    have hup : upV x = x % 9223372036854775808 + 1 := by
      unfold upV
      rw [if_neg (by omega)]
      split
      · omega
      · rw [if_neg (by omega)]; omega
    refine ⟨hup, ?_⟩
    have nc := next_cell (x % 9223372036854775808) (by omega) hf (K - 1074)
    rw [(cell_mod x).1, (cell_mod x).2, ← hup] at nc
    unfold upT
    by_cases q : finB (upV x) = true
    · rw [if_pos q, from_val _ ⟨by omega, by omega⟩ q K hK, nc]
      unfold sgnB sI
      rw [decide_eq_false (by omega), if_neg (by decide)]
      omega
    · rw [if_neg q]
      have hin : upV x = 9218868437227405312 := by
        unfold finB at q
        simp at q
        omega
      rw [← nc, hin]
      unfold vI sI
      have e1 : cC 9218868437227405312 = 4503599627370496 := by decide
      have e2 : cK 9218868437227405312 = 2046 := by decide
      rw [e1, e2]
      have e3 : (4503599627370496 : Nat) = 2 ^ 52 := by decide
      rw [e3, ← Nat.pow_add]
      show (if false = true then (-1 : Int) else 1) * ((1 * 2 ^ ((1024 : Int) - -(K : Int)).toNat : Nat) : Int) = _
      rw [show ((1024 : Int) - -(K : Int)).toNat = 52 + (2046 + (K - 1074)) by omega, if_neg (by decide), Nat.one_mul, Int.one_mul]
  · intro h
    have hup : upV x = x - 1 := by
      unfold upV
      rw [if_neg (by omega), if_neg (by omega), if_pos (by omega)]
    refine ⟨hup, ?_⟩
    have q : finB (upV x) = true := by unfold finB; rw [hup]; exact decide_eq_true (by omega)
    unfold upT
    rw [if_pos q, from_val _ ⟨by omega, by omega⟩ q K hK, hup]
    have em : (x - 1) % 9223372036854775808 = x % 9223372036854775808 - 1 := by omega
    rw [← (cell_mod (x - 1)).1, ← (cell_mod (x - 1)).2, em]
    unfold sgnB sI
    rw [decide_eq_true (by omega), if_pos rfl]
    omega
end Go.Proofs.YtjgnoaieplmoiaaGreatDoor

/- Round the points of change: what lies in a binary64's cell is rounded to its lower or its upper end (pure). -/
import Derived.Test.YtjgnoaieplmoiaaGreatDoorRM0
import Derived.Test.YtjgnoaieplmoiaaGreatDoorRNV
namespace Go.Proofs.YtjgnoaieplmoiaaGreatDoor
open Go.RowKit

theorem hv_cell (c r d : Nat) (hr : r < 2 ^ d) : hv (c * 2 ^ d + r) d = c + (decide (2 ^ d < 2 * r) || ((2 ^ d == 2 * r) && (c % 2 == 1))).toNat := by
  have hp := Nat.two_pow_pos d
  have e1 : (c * 2 ^ d + r) / 2 ^ d = c := by
    rw [Nat.add_comm, Nat.add_mul_div_right _ _ hp, Nat.div_eq_of_lt hr, Nat.zero_add]
  have e2 : (c * 2 ^ d + r) % 2 ^ d = r := by
    rw [Nat.add_comm, Nat.add_mul_mod_self_right, Nat.mod_eq_of_lt hr]
  unfold hv
  rw [e1, e2]
/-- a number whose amount lies from c 2^k to below (c + 1) 2^k, in units of 2^-1074 -/
theorem near_cell (m : Nat) (e : Int) (K : Nat) (hK : K = 32768) (he : -32768 ≤ e) (c k r : Nat) (hc : c < 9007199254740992) (hk : k = 0 ∨ 4503599627370496 ≤ c) (hk2 : k ≤ 2045) (hr : r < 2 ^ (k + (K - 1074))) (hT : m * 2 ^ (e + K).toNat = c * 2 ^ (k + (K - 1074)) + r) (hr0 : 0 < r) :
    nearW m e = (k : Int) * 4503599627370496 + ((c + (decide (2 ^ (k + (K - 1074)) < 2 * r) || ((2 ^ (k + (K - 1074)) == 2 * r) && (c % 2 == 1))).toNat : Nat) : Int) ∧ exactB m e = false ∧ m ≠ 0 := by
  have hm0 : m ≠ 0 := fun q => by rw [q, Nat.zero_mul] at hT; omega
  have tp := tp_T m e K (by omega) hm0
  have hp := Nat.two_pow_pos (k + (K - 1074))
  have up : m * 2 ^ (e + K).toNat < 2 ^ (53 + (k + (K - 1074))) := by
    rw [hT, Nat.pow_add 2 53]
    have h1 : (c + 1) * 2 ^ (k + (K - 1074)) ≤ 2 ^ 53 * 2 ^ (k + (K - 1074)) := Nat.mul_le_mul_right _ (show c + 1 ≤ 2 ^ 53 from by rw [show (2 : Nat) ^ 53 = 9007199254740992 by decide]; omega)
    rw [Nat.add_mul, Nat.one_mul] at h1
    omega
  have hb := (blen_le _ _).2 up
  have hl : lsI m e = (k : Int) - 1074 ∧ tpI m e < 1024 := by
    unfold lsI
    rcases hk with q | q
    · subst q
      rw [tp]
      split <;> omega
    · have lo : ¬ blen (m * 2 ^ (e + K).toNat) ≤ 52 + (k + (K - 1074)) := fun w => by
        have h2 := (blen_le _ _).1 w
        rw [hT, Nat.pow_add 2 52] at h2
        have h3 : 2 ^ 52 * 2 ^ (k + (K - 1074)) ≤ c * 2 ^ (k + (K - 1074)) := Nat.mul_le_mul_right _ (show 2 ^ 52 ≤ c from by rw [show (2 : Nat) ^ 52 = 4503599627370496 by decide]; omega)
        omega
      rw [tp]
      split <;> omega
  obtain ⟨hl, ht⟩ := hl
  refine ⟨?_, ?_, hm0⟩
  · unfold nearW
    rw [if_neg hm0, if_neg (by omega), hl, rd_T m e _ K (by omega) (by omega), hT, show ((k : Int) - 1074 + K).toNat = k + (K - 1074) by omega, hv_cell c r _ hr]
    omega
  · unfold exactB
    rw [if_neg hm0, if_neg (by omega), hl, ls_T m e _ K (by omega) (by omega), hT, show ((k : Int) - 1074 + K).toNat = k + (K - 1074) by omega]
    unfold lostB
    rw [Nat.add_comm, Nat.add_mul_mod_self_right, Nat.mod_eq_of_lt hr, decide_eq_true (by omega)]
    rfl
/-- what a triple is worth tells its sign and its amount -/
theorem val_pos (P : Bool × Nat × Int) (E : Int) (T : Nat) (h0 : 0 < T) (h : vI P E = (T : Int)) : P.1 = false ∧ P.2.1 * 2 ^ (P.2.2 - E).toNat = T := by
  unfold vI sI at h
  cases hs : P.1 with
  | true => rw [hs, if_pos rfl] at h; omega
  | false => rw [hs, if_neg (by decide)] at h; exact ⟨rfl, by omega⟩
theorem val_neg (P : Bool × Nat × Int) (E : Int) (T : Nat) (h0 : 0 < T) (h : vI P E = -(T : Int)) : P.1 = true ∧ P.2.1 * 2 ^ (P.2.2 - E).toNat = T := by
  unfold vI sI at h
  cases hs : P.1 with
  | true => rw [hs, if_pos rfl] at h; exact ⟨rfl, by omega⟩
  | false => rw [hs, if_neg (by decide)] at h; omega
/-- a number beside the middle of a cell, of either sign -/
theorem cell_pos (P : Bool × Nat × Int) (hr : rightB P.2.1 P.2.2 = true) (K : Nat) (hK : K = 32768) (c k r : Nat) (hc : c < 9007199254740992) (hk : k = 0 ∨ 4503599627370496 ≤ c) (hk2 : k ≤ 2045) (hr1 : r < 2 ^ (k + (K - 1074))) (hr0 : 0 < r) (h : vI P (-(K : Int)) = ((c * 2 ^ (k + (K - 1074)) + r : Nat) : Int)) :
    erR P.2.1 P.2.2 = 0 ∧ nbR P.1 P.2.1 P.2.2 = (k : Int) * 4503599627370496 + ((c + (decide (2 ^ (k + (K - 1074)) < 2 * r) || ((2 ^ (k + (K - 1074)) == 2 * r) && (c % 2 == 1))).toNat : Nat) : Int) ∧ exactB P.2.1 P.2.2 = false := by
  obtain ⟨v1, v2⟩ := val_pos P _ _ (by omega) h
  have he := (rightB_yes hr).2
  rw [show (P.2.2 - -(K : Int)).toNat = (P.2.2 + K).toNat by omega] at v2
  obtain ⟨n1, n2, n3⟩ := near_cell P.2.1 P.2.2 K hK he.1 c k r hc hk hk2 hr1 v2 hr0
  refine ⟨by unfold erR; rw [if_pos hr], ?_, n2⟩
  unfold nbR nearB
  rw [if_pos hr, v1, Bool.false_and, if_neg (by decide), n1]
theorem cell_neg (P : Bool × Nat × Int) (hr : rightB P.2.1 P.2.2 = true) (K : Nat) (hK : K = 32768) (c k r : Nat) (hc : c < 9007199254740992) (hk : k = 0 ∨ 4503599627370496 ≤ c) (hk2 : k ≤ 2045) (hr1 : r < 2 ^ (k + (K - 1074))) (hr0 : 0 < r) (h : vI P (-(K : Int)) = -((c * 2 ^ (k + (K - 1074)) + r : Nat) : Int)) :
    erR P.2.1 P.2.2 = 0 ∧ nbR P.1 P.2.1 P.2.2 = negV ((k : Int) * 4503599627370496 + ((c + (decide (2 ^ (k + (K - 1074)) < 2 * r) || ((2 ^ (k + (K - 1074)) == 2 * r) && (c % 2 == 1))).toNat : Nat) : Int)) ∧ exactB P.2.1 P.2.2 = false := by
  obtain ⟨v1, v2⟩ := val_neg P _ _ (by omega) h
  have he := (rightB_yes hr).2
  rw [show (P.2.2 - -(K : Int)).toNat = (P.2.2 + K).toNat by omega] at v2
  obtain ⟨n1, n2, n3⟩ := near_cell P.2.1 P.2.2 K hK he.1 c k r hc hk hk2 hr1 v2 hr0
  refine ⟨by unfold erR; rw [if_pos hr], ?_, n2⟩
  unfold nbR nearB
  rw [if_pos hr, v1, Bool.true_and, if_pos (decide_eq_true n3), n1]
end Go.Proofs.YtjgnoaieplmoiaaGreatDoor

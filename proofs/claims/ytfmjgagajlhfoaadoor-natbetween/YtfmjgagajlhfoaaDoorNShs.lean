/- The walks of Shl and Shr as they are called. -/
import Derived.Test.YtfmjgagajlhfoaaDoorNShr
namespace Go.Proofs.YtfmjgagajlhfoaaDoor
open Go.RowKit

theorem low_mod (xs : List Int) (h : AllU xs) : ∀ k, low xs k = val xs % 18446744073709551616 ^ k
  | 0 => by rw [Nat.pow_zero, Nat.mod_one]; rfl
  | k + 1 => by
    show low xs k + 18446744073709551616 ^ k * (xs.getD k 0).toNat = _
    rw [low_mod xs h k, ← val_word xs h k, Nat.pow_succ, Nat.mod_mul]
theorem low_zero (xs : List Int) : ∀ k, (∀ j, j < k → xs.getD j 0 = 0) → low xs k = 0
  | 0, _ => rfl
  | k + 1, h => by
    show low xs k + 18446744073709551616 ^ k * (xs.getD k 0).toNat = 0
    rw [low_zero xs k (fun j hj => h j (by omega)), h k (by omega)]; simp
theorem low_pos (xs : List Int) (k j : Nat) (hj : j < k) (h : 0 < xs.getD j 0) : low xs k ≠ 0 := by
  induction k with
  | zero => omega
  | succ k ih =>
    show low xs k + 18446744073709551616 ^ k * (xs.getD k 0).toNat ≠ 0
    by_cases e : j = k
    · subst e
      have : 0 < 18446744073709551616 ^ j * (xs.getD j 0).toNat := Nat.mul_pos (Nat.pow_pos (by decide)) (by omega)
      omega
    · have := ih (by omega); omega

/-- A shift to the left, or why there is none. -/
def shlR (u : Nat) (m : Int) : Nat × Int := if greatB u = true then (0, 3) else if m < 0 then (0, 2) else if u = 0 then (0, 0) else if 65536 - (blen u : Int) < m then (0, 3) else (u * 2 ^ m.toNat, 0)
theorem shlR_great {u : Nat} {m : Int} (h : greatB u = true) : shlR u m = (0, 3) := by unfold shlR; rw [if_pos h]
theorem shlR_neg {u : Nat} {m : Int} (h : greatB u = false) (h2 : m < 0) : shlR u m = (0, 2) := by unfold shlR; rw [if_neg (by rw [h]; decide), if_pos h2]
theorem shlR_zero {u : Nat} {m : Int} (h : greatB u = false) (h2 : 0 ≤ m) (h3 : u = 0) : shlR u m = (0, 0) := by unfold shlR; rw [if_neg (by rw [h]; decide), if_neg (by omega), if_pos h3]
theorem shlR_many {u : Nat} {m : Int} (h : greatB u = false) (h2 : 0 ≤ m) (h3 : u ≠ 0) (h4 : 65536 - (blen u : Int) < m) : shlR u m = (0, 3) := by unfold shlR; rw [if_neg (by rw [h]; decide), if_neg (by omega), if_neg h3, if_pos h4]
theorem shlR_fit {u : Nat} {m : Int} (h : greatB u = false) (h2 : 0 ≤ m) (h3 : u ≠ 0) (h4 : m ≤ 65536 - (blen u : Int)) : shlR u m = (u * 2 ^ m.toNat, 0) := by unfold shlR; rw [if_neg (by rw [h]; decide), if_neg (by omega), if_neg h3, if_neg (by omega)]
theorem blen_mul (u m : Nat) (h : u ≠ 0) : blen (u * 2 ^ m) = m + blen u := by
  have := blen_shift m 0 u (Nat.pow_pos (by decide)) h
  rw [Nat.zero_add, Nat.mul_comm] at this; exact this

/-- A shift to the right, or why there is none. -/
def shrE (u : Nat) (m : Int) : Int := if greatB u = true then 3 else if m < 0 then 2 else 0
def shrQ (u : Nat) (m : Int) : Nat := if greatB u = true then 0 else if m < 0 then 0 else u / 2 ^ m.toNat
def shrL (u : Nat) (m : Int) : Bool := if greatB u = true then false else if m < 0 then false else lostB u m.toNat
theorem shr_great {u : Nat} {m : Int} (h : greatB u = true) : shrE u m = 3 ∧ shrQ u m = 0 ∧ shrL u m = false := by simp [shrE, shrQ, shrL, h]
theorem shr_neg {u : Nat} {m : Int} (h : greatB u = false) (h2 : m < 0) : shrE u m = 2 ∧ shrQ u m = 0 ∧ shrL u m = false := by simp [shrE, shrQ, shrL, h, h2]
theorem shr_fit {u j : Nat} (h : greatB u = false) : shrE u (j : Int) = 0 ∧ shrQ u (j : Int) = u / 2 ^ j ∧ shrL u (j : Int) = lostB u j := by
  have : ¬ (j : Int) < 0 := by omega
  simp [shrE, shrQ, shrL, h, this]
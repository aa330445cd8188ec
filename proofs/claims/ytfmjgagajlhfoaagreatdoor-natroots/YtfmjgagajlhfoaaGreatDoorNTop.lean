/- The walks of quotientOfTop and above; what guess reckons, in numbers alone. -/
import Derived.Test.YtfmjgagajlhfoaaGreatDoorNTake
import Derived.Test.YtfmjgagajlhfoaaGreatDoorNDiv1
namespace Go.Proofs.YtfmjgagajlhfoaaGreatDoor
open Go.RowKit

set_option maxHeartbeats 1000000 in
theorem above_calls (a b c d : Nat) (w : World) :
    Calls Tryz.prog 96 #[.agg #[.int .u64 (a : Int), .int .u64 (b : Int)], .agg #[.int .u64 (c : Int), .int .u64 (d : Int)]] w fun e w' => e = .returned (.bool (decide (d < b ∨ d = b ∧ c < a))) ∧ w' = (w.alloc (.cells #[.int .u64 (a : Int), .int .u64 (b : Int)] 108)).alloc (.cells #[.int .u64 (c : Int), .int .u64 (d : Int)] 108) := by
  rcases Nat.lt_trichotomy d b with q | q | q
  · have e0 : decide (d < b ∨ d = b ∧ c < a) = true := by simp [q]
    rw [e0]
    clear e0
    go_enter Tryz.func96, Tryz.ntmps96
    go_wp2
    go_ret
    exact ⟨rfl, rfl⟩
  · subst q
    have e0 : decide (d < d ∨ d = d ∧ c < a) = decide (c < a) := by simp
    rw [e0]
    clear e0
    by_cases q : c < a
    · rw [decide_eq_true q]
      go_enter Tryz.func96, Tryz.ntmps96
      go_wp2
      go_ret
      exact ⟨rfl, rfl⟩
    · rw [decide_eq_false q]
      go_enter Tryz.func96, Tryz.ntmps96
      go_wp2
      go_ret
      exact ⟨rfl, rfl⟩
  · have e0 : decide (d < b ∨ d = b ∧ c < a) = false := by simp; omega
    rw [e0]
    clear e0
    go_enter Tryz.func96, Tryz.ntmps96
    go_wp2
    go_ret
    refine ⟨?_, rfl⟩
    show Ending.returned (.bool (decide (d < b))) = _
    rw [decide_eq_false (by omega)]

set_option maxHeartbeats 1000000 in
theorem top_calls (hi lo top : Nat) (w : World) (h1 : hi ≤ top) (h2 : lo < 18446744073709551616) (h3 : top < 18446744073709551616) (h4 : 0 < top) :
    Calls Tryz.prog 99 #[.int .u64 (hi : Int), .int .u64 (lo : Int), .int .u64 (top : Int)] w fun e w' => ∃ q r b : Nat, e = .returned (.tuple #[.int .u64 (q : Int), .int .u64 (r : Int), .int .u64 (b : Int)]) ∧ Hid (q * top + (r + 18446744073709551616 * b) = hi * 18446744073709551616 + lo) ∧ q < 18446744073709551616 ∧ r < 18446744073709551616 ∧ b ≤ 1 ∧ Hid (q = 18446744073709551615 ∨ b = 0 ∧ r < top) ∧ Below w.heap.size w w' := by
  by_cases he : hi = top
  · subst he
    have hr : ∀ w, (callFunc 81 #[.int .u64 (lo : Int), .int .u64 (hi : Int), .int .u64 0]).run Tryz.prog w = .ok (.value (.tuple #[.int .u64 (((lo + hi) % 18446744073709551616 : Nat) : Int), .int .u64 (((lo + hi) / 18446744073709551616 : Nat) : Int)])) w := fun w => add64_run lo hi 0 (by decide) w
    obtain ⟨r, hr1⟩ : ∃ r, r = (lo + hi) % 18446744073709551616 := ⟨_, rfl⟩
    obtain ⟨b, hb1⟩ : ∃ b, b = (lo + hi) / 18446744073709551616 := ⟨_, rfl⟩
    rw [← hr1, ← hb1] at hr
    have HF : Hid (18446744073709551615 * hi + (r + 18446744073709551616 * b) = hi * 18446744073709551616 + lo ∧ r < 18446744073709551616 ∧ b ≤ 1) := by rw [Hid]; omega
    clear hr1 hb1
    go_enter Tryz.func99, Tryz.ntmps99
    go_wp2
    go_ret3
    exact ⟨18446744073709551615, r, b, rfl, HF.out.1, by decide, HF.out.2.1, HF.out.2.2, Or.inl rfl, Below.refl _ _⟩
  · have hne : ((hi : Int) == (top : Int)) = false := by simp; omega
    have DC : Hid _ := div64_calls hi lo top w h2 h3 (by omega)
    obtain ⟨q, hq1⟩ : ∃ q, q = (hi * 18446744073709551616 + lo) / top := ⟨_, rfl⟩
    obtain ⟨r, hr1⟩ : ∃ r, r = (hi * 18446744073709551616 + lo) % top := ⟨_, rfl⟩
    rw [← hr1, ← hq1] at DC
    have HF : Hid (q * top + (r + 18446744073709551616 * 0) = hi * 18446744073709551616 + lo ∧ q < 18446744073709551616 ∧ r < top) := by
      refine ⟨?_, ?_, ?_⟩
      · have := Nat.div_add_mod (hi * 18446744073709551616 + lo) top
        rw [← hq1, ← hr1, Nat.mul_comm top q] at this
        omega
      · rw [hq1, Nat.div_lt_iff_lt_mul h4]
        omega
      · rw [hr1]; exact Nat.mod_lt _ h4
    clear hr1 hq1
    go_enter Tryz.func99, Tryz.ntmps99
    go_wp2_with fail
    refine Calls.mono DC.out ?_
    rintro e w1 ⟨rfl, hb⟩
    go_wp2_with fail
    go_ret3
    exact ⟨q, r, 0, rfl, HF.out.1, HF.out.2.1, by have := HF.out.2.2; omega, by decide, Or.inr ⟨rfl, HF.out.2.2⟩, hb⟩

theorem guess_above (k next r an2 : Nat) (h : an2 < 18446744073709551616) : (r < mH k next ∨ r = mH k next ∧ an2 < mL k next) ↔ r * 18446744073709551616 + an2 < k * next := by
  unfold mH mL
  generalize k * next = p
  omega
/-- The top words of what is divided, and of the divisor. -/
def Top3 (an an1 an2 : Nat) : Nat := (an * 18446744073709551616 + an1) * 18446744073709551616 + an2
def Top2 (top next : Nat) : Nat := top * 18446744073709551616 + next
theorem gs_start {an an1 an2 top next q r b : Nat} (h2 : an2 < 18446744073709551616) (h : q * top + (r + 18446744073709551616 * b) = an * 18446744073709551616 + an1) (hq : q = 18446744073709551615 ∨ b = 0 ∧ r < top) :
    ∀ t, t < 18446744073709551616 → t * Top2 top next ≤ Top3 an an1 an2 → t ≤ q := by
  intro t ht hle
  rcases hq with hq | ⟨rfl, hr⟩
  · omega
  · unfold Top2 Top3 at hle
    rw [Nat.mul_add, ← Nat.mul_assoc, ← h] at hle
    rcases Nat.lt_or_ge q t with q1 | q1
    · have e1 : (q + 1) * top ≤ t * top := Nat.mul_le_mul_right _ q1
      rw [Nat.add_mul, Nat.one_mul] at e1
      generalize t * top = x at *
      generalize q * top = y at *
      generalize t * next = z at *
      omega
    · exact q1
theorem gs_down {an an1 an2 top next k r : Nat} (h : k * top + (r + 18446744073709551616 * 0) = an * 18446744073709551616 + an1)
    (hk : ∀ t, t < 18446744073709551616 → t * Top2 top next ≤ Top3 an an1 an2 → t ≤ k) (hgt : r * 18446744073709551616 + an2 < k * next) :
    0 < k ∧ ∀ t, t < 18446744073709551616 → t * Top2 top next ≤ Top3 an an1 an2 → t ≤ k - 1 := by
  have h0 : 0 < k := by
    rcases Nat.eq_zero_or_pos k with q | q
    · subst q; rw [Nat.zero_mul] at hgt; omega
    · exact q
  refine ⟨h0, fun t ht hle => ?_⟩
  have h1 := hk t ht hle
  rcases Nat.lt_or_ge t k with q | q
  · omega
  · obtain rfl : t = k := by omega
    unfold Top2 Top3 at hle
    rw [Nat.mul_add, ← Nat.mul_assoc, ← h] at hle
    generalize t * top = x at *
    generalize t * next = z at *
    omega
theorem gs_end {an an1 an2 top next k r b : Nat} (h : k * top + (r + 18446744073709551616 * b) = an * 18446744073709551616 + an1) (hle : ¬ (r + 18446744073709551616 * b) * 18446744073709551616 + an2 < k * next) :
    k * Top2 top next ≤ Top3 an an1 an2 := by
  unfold Top2 Top3
  rw [Nat.mul_add, ← Nat.mul_assoc, ← h]
  generalize k * top = x at *
  generalize k * next = z at *
  omega
end Go.Proofs.YtfmjgagajlhfoaaGreatDoor

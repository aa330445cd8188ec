/- Plain facts on roots of naturals: the root, bit by bit and by Newton's steps. -/
import Derived.Test.YtfmjgagajlhfoaaGreatDoorNBits
namespace Go.Proofs.YtfmjgagajlhfoaaGreatDoor
open Go.RowKit

def rtF (k v : Nat) : Nat → Nat
  | 0 => 0
  | n + 1 => if (n + 1) ^ k ≤ v then n + 1 else rtF k v n
/-- The k-th root, rounded down. -/
def rt (k v : Nat) : Nat := rtF k v v
theorem rtF_spec (k v : Nat) (hk : 0 < k) : ∀ n, v < (n + 1) ^ k → rtF k v n ^ k ≤ v ∧ v < (rtF k v n + 1) ^ k
  | 0, h => by unfold rtF; exact ⟨by rw [Nat.zero_pow hk]; exact Nat.zero_le _, h⟩
  | n + 1, h => by
    unfold rtF
    by_cases q : (n + 1) ^ k ≤ v
    · rw [if_pos q]; exact ⟨q, h⟩
    · rw [if_neg q]; exact rtF_spec k v hk n (by omega)
theorem lt_pow_self' (v k : Nat) (hk : 0 < k) : v < (v + 1) ^ k := by
  have h : (v + 1) ^ 1 ≤ (v + 1) ^ k := Nat.pow_le_pow_right (by omega) hk
  rw [Nat.pow_one] at h; omega
theorem rt_spec (k v : Nat) (hk : 0 < k) : rt k v ^ k ≤ v ∧ v < (rt k v + 1) ^ k := rtF_spec k v hk v (lt_pow_self' v k hk)
theorem pow_le_imp {a b k : Nat} (hk : 0 < k) (h : a ^ k ≤ b ^ k) : a ≤ b := by
  rcases Nat.lt_or_ge b a with q | q
  · have h2 : b ^ k < a ^ k := Nat.pow_lt_pow_left q (by omega)
    omega
  · exact q
theorem rt_unique {k v r : Nat} (hk : 0 < k) (h1 : r ^ k ≤ v) (h2 : v < (r + 1) ^ k) : r = rt k v := by
  obtain ⟨g1, g2⟩ := rt_spec k v hk
  have a1 : r < rt k v + 1 := by
    rcases Nat.lt_or_ge r (rt k v + 1) with q | q
    · exact q
    · exact absurd (Nat.pow_le_pow_left q k) (by omega)
  have a2 : rt k v < r + 1 := by
    rcases Nat.lt_or_ge (rt k v) (r + 1) with q | q
    · exact q
    · exact absurd (Nat.pow_le_pow_left q k) (by omega)
  omega
theorem rt_le {k v x : Nat} (hk : 0 < k) (h : v < (x + 1) ^ k) : rt k v ≤ x := by
  obtain ⟨g1, _⟩ := rt_spec k v hk
  rcases Nat.lt_or_ge x (rt k v) with q | q
  · exact absurd (Nat.pow_le_pow_left (show x + 1 ≤ rt k v from q) k) (by omega)
  · exact q
theorem rt_self {k v : Nat} (hk : 0 < k) : rt k v ≤ v := rt_le hk (lt_pow_self' v k hk)
theorem rt_pos {k v : Nat} (hk : 0 < k) (hv : 0 < v) : 0 < rt k v := by
  rcases Nat.eq_zero_or_pos (rt k v) with q | q
  · have := (rt_spec k v hk).2
    rw [q, Nat.zero_add, Nat.one_pow] at this; omega
  · exact q

/-- One step of the root bit by bit, from the top. -/
def RtInv (k v r j : Nat) : Prop := 2 ^ j ∣ r ∧ r ^ k ≤ v ∧ v < (r + 2 ^ j) ^ k
theorem rt_start {k v j : Nat} (hk : 0 < k) (h : v < 2 ^ (j * k)) : RtInv k v 0 j := ⟨⟨0, rfl⟩, by rw [Nat.zero_pow hk]; exact Nat.zero_le _, by rw [Nat.zero_add, ← Nat.pow_mul]; exact h⟩
theorem rt_yes {k v r j : Nat} (h : RtInv k v r (j + 1)) (q : (r + 2 ^ j) ^ k ≤ v) : RtInv k v (r + 2 ^ j) j := by
  obtain ⟨⟨d, h1⟩, _, h3⟩ := h
  refine ⟨⟨2 * d + 1, ?_⟩, q, ?_⟩
  · rw [h1, Nat.pow_succ, Nat.mul_add, Nat.mul_one, Nat.mul_assoc]
  · rw [Nat.add_assoc, ← Nat.two_mul, Nat.mul_comm 2, ← Nat.pow_succ]; exact h3
theorem rt_no {k v r j : Nat} (h : RtInv k v r (j + 1)) (q : ¬ (r + 2 ^ j) ^ k ≤ v) : RtInv k v r j := by
  obtain ⟨⟨d, h1⟩, h2, _⟩ := h
  exact ⟨⟨2 * d, by rw [h1, Nat.pow_succ, Nat.mul_assoc]⟩, h2, by omega⟩
theorem rt_end {k v r : Nat} (hk : 0 < k) (h : RtInv k v r 0) : r = rt k v := rt_unique hk h.2.1 (by simpa using h.2.2)
theorem RtInv.le {k v r j : Nat} (hk : 0 < k) (h : RtInv k v r j) : r ≤ rt k v := by
  rcases Nat.lt_or_ge (rt k v) r with q | q
  · have h1 := Nat.pow_le_pow_left (show rt k v + 1 ≤ r from q) k
    have h2 := (rt_spec k v hk).2
    have h3 := h.2.1
    omega
  · exact q
theorem or_high (r j : Nat) (h : 2 ^ (j + 1) ∣ r) : r ||| 2 ^ j = r + 2 ^ j := by
  obtain ⟨d, rfl⟩ := h
  exact (Nat.two_pow_add_eq_or_of_lt (Nat.pow_lt_pow_right (by decide) (Nat.lt_succ_self j)) d).symm

/-- Newton's step. -/
def newt (k v x : Nat) : Nat := ((k - 1) * x + v / x ^ (k - 1)) / k
theorem newt_down {k v x : Nat} (hk : 2 ≤ k) (h : v < x ^ k) (hx : 0 < x) : newt k v x < x := by
  obtain ⟨m, rfl⟩ : ∃ m, k = m + 1 := ⟨k - 1, by omega⟩
  unfold newt
  rw [Nat.add_sub_cancel, Nat.div_lt_iff_lt_mul (by omega)]
  have h1 : v / x ^ m < x := by
    rw [Nat.div_lt_iff_lt_mul (Nat.pow_pos hx)]
    rw [Nat.pow_succ, Nat.mul_comm] at h; exact h
  have h2 : x * (m + 1) = m * x + x := by rw [Nat.mul_add, Nat.mul_comm x m, Nat.mul_one]
  omega
theorem sq_le (r d : Nat) : (r + d) * (r - d) ≤ r * r := by
  rcases Nat.lt_or_ge r d with q | q
  · rw [Nat.sub_eq_zero_of_le (by omega), Nat.mul_zero]; exact Nat.zero_le _
  · obtain ⟨e, rfl⟩ : ∃ e, r = d + e := ⟨r - d, by omega⟩
    rw [Nat.add_sub_cancel_left]
    have h1 : (d + e + d) * e = d * e + e * e + d * e := by rw [Nat.add_mul, Nat.add_mul]
    have h2 : (d + e) * (d + e) = d * d + d * e + (d * e + e * e) := by rw [Nat.add_mul, Nat.mul_add, Nat.mul_add, Nat.mul_comm e d]
    rw [h1, h2]
    omega
theorem cb_le (r d : Nat) : (r + d) * (r + d) * (r - 2 * d) ≤ r * r * r := by
  rcases Nat.lt_or_ge r (2 * d) with q | q
  · rw [Nat.sub_eq_zero_of_le (by omega), Nat.mul_zero]; exact Nat.zero_le _
  · obtain ⟨e, rfl⟩ : ∃ e, r = 2 * d + e := ⟨r - 2 * d, by omega⟩
    rw [Nat.add_sub_cancel_left]
    have e1 : 2 * d + e + d = 3 * d + e := by omega
    rw [e1]
    have h1 : (3 * d + e) * (3 * d + e) * e = 9 * (d * d * e) + 6 * (d * e * e) + e * e * e := by
      have a : (3 * d + e) * (3 * d + e) = 9 * (d * d) + 6 * (d * e) + e * e := by
        simp only [Nat.add_mul, Nat.mul_add, Nat.mul_assoc, Nat.mul_comm e d, Nat.mul_left_comm d 3 d, Nat.mul_left_comm e 3 d]
        omega
      rw [a, Nat.add_mul, Nat.add_mul, Nat.mul_assoc 9, Nat.mul_assoc 6]
    have h2 : (2 * d + e) * (2 * d + e) * (2 * d + e) = 8 * (d * d * d) + 12 * (d * d * e) + 6 * (d * e * e) + e * e * e := by
      have a : (2 * d + e) * (2 * d + e) = 4 * (d * d) + 4 * (d * e) + e * e := by
        simp only [Nat.add_mul, Nat.mul_add, Nat.mul_assoc, Nat.mul_comm e d, Nat.mul_left_comm d 2 d, Nat.mul_left_comm e 2 d]
        omega
      rw [a, Nat.mul_add, Nat.add_mul, Nat.add_mul, Nat.add_mul, Nat.add_mul]
      have b1 : 4 * (d * d) * (2 * d) = 8 * (d * d * d) := by rw [Nat.mul_assoc, Nat.mul_left_comm (d * d), ← Nat.mul_assoc]
      have b2 : 4 * (d * e) * (2 * d) = 8 * (d * d * e) := by rw [Nat.mul_assoc, Nat.mul_left_comm (d * e), ← Nat.mul_assoc, Nat.mul_comm (d * e) d, ← Nat.mul_assoc d]
      have b3 : e * e * (2 * d) = 2 * (d * e * e) := by rw [Nat.mul_left_comm, Nat.mul_comm (e * e) d, ← Nat.mul_assoc d]
      have b4 : 4 * (d * d) * e = 4 * (d * d * e) := Nat.mul_assoc _ _ _
      have b5 : 4 * (d * e) * e = 4 * (d * e * e) := Nat.mul_assoc _ _ _
      rw [b1, b2, b3, b4, b5]
      omega
    rw [h1, h2]
    omega
theorem newt_up2 {v x r : Nat} (hx : 0 < x) (hr : r ^ 2 ≤ v) (hle : r ≤ x) : r ≤ newt 2 v x := by
  unfold newt
  rw [Nat.le_div_iff_mul_le (by decide)]
  show r * 2 ≤ (2 - 1) * x + v / x ^ (2 - 1)
  rw [show 2 - 1 = 1 from rfl, Nat.one_mul, Nat.pow_one]
  obtain ⟨d, rfl⟩ : ∃ d, x = r + d := ⟨x - r, by omega⟩
  have h1 := sq_le r d
  have h2 : r - d ≤ v / (r + d) := by
    rw [Nat.le_div_iff_mul_le hx, Nat.mul_comm]
    rw [Nat.pow_two] at hr; omega
  omega
theorem newt_up3 {v x r : Nat} (hx : 0 < x) (hr : r ^ 3 ≤ v) (hle : r ≤ x) : r ≤ newt 3 v x := by
  unfold newt
  rw [Nat.le_div_iff_mul_le (by decide)]
  show r * 3 ≤ (3 - 1) * x + v / x ^ (3 - 1)
  rw [show 3 - 1 = 2 from rfl, Nat.pow_two]
  obtain ⟨d, rfl⟩ : ∃ d, x = r + d := ⟨x - r, by omega⟩
  have h1 := cb_le r d
  have h2 : r - 2 * d ≤ v / ((r + d) * (r + d)) := by
    rw [Nat.le_div_iff_mul_le (Nat.mul_pos hx hx), Nat.mul_comm]
    rw [Nat.pow_succ, Nat.pow_two] at hr; omega
  omega
theorem newt_up {k v x : Nat} (hk : k = 2 ∨ k = 3) (hx : 0 < x) (hle : rt k v ≤ x) : rt k v ≤ newt k v x := by
  rcases hk with rfl | rfl
  · exact newt_up2 hx (rt_spec 2 v (by decide)).1 hle
  · exact newt_up3 hx (rt_spec 3 v (by decide)).1 hle
theorem newt_end {k v x : Nat} (hk : 2 ≤ k) (hx : 0 < x) (hle : rt k v ≤ x) (h : x ≤ newt k v x) : x = rt k v := by
  rcases Nat.lt_or_ge (rt k v) x with q | q
  · have h1 := (rt_spec k v (by omega)).2
    have h2 := Nat.pow_le_pow_left (show rt k v + 1 ≤ x from q) k
    have := newt_down hk (show v < x ^ k by omega) hx
    omega
  · omega
/-- The root of the upper part, one more, shifted back, is above the root. -/
theorem rt_above {k v s p : Nat} (hk : 0 < k) (hp : p = rt k (v / 2 ^ (s * k))) : rt k v ≤ (p + 1) * 2 ^ s := by
  have h1 := (rt_spec k (v / 2 ^ (s * k)) hk).2
  rw [← hp] at h1
  have h2 : v < ((p + 1) * 2 ^ s) ^ k := by
    rw [Nat.mul_pow, ← Nat.pow_mul]
    exact (Nat.div_lt_iff_lt_mul (Nat.pow_pos (by decide))).1 h1
  refine rt_le hk ?_
  exact Nat.lt_trans h2 (Nat.pow_lt_pow_left (Nat.lt_succ_self _) (by omega))
end Go.Proofs.YtfmjgagajlhfoaaGreatDoor

/- Plain facts on roots of naturals: the root, bit by bit and by Newton's steps. Roots that are told by so many bits and a mark: however many bits are told, they are rounded alike (pure). -/
import Derived.Test.YtionhpedghmecaaGreatDoorTMA

namespace Go.Proofs.YtionhpedghmecaaGreatDoor
open Go.RowKit
def rtF (k v : Nat) : Nat → Nat
 | 0 => 0
 | n + 1 => if (n + 1) ^ k ≤ v then n + 1 else rtF k v n
def rt (k v : Nat) : Nat := rtF k v v
theorem rtF_spec (k v : Nat) (hk : 0 < k) : ∀ n, v < (n + 1) ^ k → rtF k v n ^ k ≤ v ∧ v < (rtF k v n + 1) ^ k
 | 0, h => by unfold rtF; exact ⟨by rw [Nat.zero_pow hk]; exact Nat.zero_le _, h⟩
 | n + 1, h => by
  unfold rtF
  by_cases q : (n + 1) ^ k ≤ v
  ·rw [if_pos q]; exact ⟨q, h⟩
  ·rw [if_neg q]; exact rtF_spec k v hk n (by omega)
theorem lt_pow_self' (v k : Nat) (hk : 0 < k) : v < (v + 1) ^ k := by
 have h : (v + 1) ^ 1 ≤ (v + 1) ^ k := Nat.pow_le_pow_right (by omega) hk
 rw [Nat.pow_one] at h; omega
theorem rt_spec (k v : Nat) (hk : 0 < k) : rt k v ^ k ≤ v ∧ v < (rt k v + 1) ^ k := rtF_spec k v hk v (lt_pow_self' v k hk)
theorem pow_le_imp {a b k : Nat} (hk : 0 < k) (h : a ^ k ≤ b ^ k) : a ≤ b := by
 rcases Nat.lt_or_ge b a with q | q
 ·have h2 : b ^ k < a ^ k := Nat.pow_lt_pow_left q (by omega)
  omega
 ·exact q
theorem rt_unique {k v r : Nat} (hk : 0 < k) (h1 : r ^ k ≤ v) (h2 : v < (r + 1) ^ k) : r = rt k v := by
 obtain ⟨g1, g2⟩ := rt_spec k v hk
 have a1 : r < rt k v + 1 := by
  rcases Nat.lt_or_ge r (rt k v + 1) with q | q
  ·exact q
  ·exact absurd (Nat.pow_le_pow_left q k) (by omega)
 have a2 : rt k v < r + 1 := by
  rcases Nat.lt_or_ge (rt k v) (r + 1) with q | q
  ·exact q
  ·exact absurd (Nat.pow_le_pow_left q k) (by omega)
 omega
theorem rt_le {k v x : Nat} (hk : 0 < k) (h : v < (x + 1) ^ k) : rt k v ≤ x := by
 obtain ⟨g1, _⟩ := rt_spec k v hk
 rcases Nat.lt_or_ge x (rt k v) with q | q
 ·exact absurd (Nat.pow_le_pow_left (show x + 1 ≤ rt k v from q) k) (by omega)
 ·exact q
theorem rt_self {k v : Nat} (hk : 0 < k) : rt k v ≤ v := rt_le hk (lt_pow_self' v k hk)
theorem rt_pos {k v : Nat} (hk : 0 < k) (hv : 0 < v) : 0 < rt k v := by
 rcases Nat.eq_zero_or_pos (rt k v) with q | q
 ·have := (rt_spec k v hk).2
  rw [q, Nat.zero_add, Nat.one_pow] at this; omega
 ·exact q
def RtInv (k v r j : Nat) : Prop := 2 ^ j ∣ r ∧ r ^ k ≤ v ∧ v < (r + 2 ^ j) ^ k
theorem rt_start {k v j : Nat} (hk : 0 < k) (h : v < 2 ^ (j * k)) : RtInv k v 0 j := ⟨⟨0, rfl⟩, by rw [Nat.zero_pow hk]; exact Nat.zero_le _, by rw [Nat.zero_add, ← Nat.pow_mul]; exact h⟩
theorem rt_yes {k v r j : Nat} (h : RtInv k v r (j + 1)) (q : (r + 2 ^ j) ^ k ≤ v) : RtInv k v (r + 2 ^ j) j := by
 obtain ⟨⟨d, h1⟩, _, h3⟩ := h
 refine ⟨⟨2 * d + 1, ?_⟩, q, ?_⟩
 ·rw [h1, Nat.pow_succ, Nat.mul_add, Nat.mul_one, Nat.mul_assoc]
 ·rw [Nat.add_assoc, ← Nat.two_mul, Nat.mul_comm 2, ← Nat.pow_succ]; exact h3
theorem rt_no {k v r j : Nat} (h : RtInv k v r (j + 1)) (q : ¬ (r + 2 ^ j) ^ k ≤ v) : RtInv k v r j := by
 obtain ⟨⟨d, h1⟩, h2, _⟩ := h
 exact ⟨⟨2 * d, by rw [h1, Nat.pow_succ, Nat.mul_assoc]⟩, h2, by omega⟩
theorem rt_end {k v r : Nat} (hk : 0 < k) (h : RtInv k v r 0) : r = rt k v := rt_unique hk h.2.1 (by simpa using h.2.2)
theorem RtInv.le {k v r j : Nat} (hk : 0 < k) (h : RtInv k v r j) : r ≤ rt k v := by
 rcases Nat.lt_or_ge (rt k v) r with q | q
 ·have h1 := Nat.pow_le_pow_left (show rt k v + 1 ≤ r from q) k
  have h2 := (rt_spec k v hk).2
  have h3 := h.2.1
  omega
 ·exact q
theorem or_high (r j : Nat) (h : 2 ^ (j + 1) ∣ r) : r ||| 2 ^ j = r + 2 ^ j := by
 obtain ⟨d, rfl⟩ := h
 exact (Nat.two_pow_add_eq_or_of_lt (Nat.pow_lt_pow_right (by decide) (Nat.lt_succ_self j)) d).symm
def newt (k v x : Nat) : Nat := ((k - 1) * x + v / x ^ (k - 1)) / k
theorem newt_down {k v x : Nat} (hk : 2 ≤ k) (h : v < x ^ k) (hx : 0 < x) : newt k v x < x := by
 obtain ⟨m, rfl⟩ : ∃ m, k = m + 1 := ⟨k - 1, by omega⟩
 unfold newt
 rw [Nat.add_sub_cancel, Nat.div_lt_iff_lt_mul (by omega)]
 have h1 : v / x ^ m < x := by
  rw [Nat.div_lt_iff_lt_mul (Nat.pow_pos hx)]
  rw [Nat.pow_succ, Nat.mul_comm] at h; exact h
 have h2 : x * (m + 1) = m * x + x := by rw [Nat.mul_add, Nat.mul_comm x m, Nat.mul_one]
 omega
theorem sq_le (r d : Nat) : (r + d) * (r - d) ≤ r * r := by
 rcases Nat.lt_or_ge r d with q | q
 ·rw [Nat.sub_eq_zero_of_le (by omega), Nat.mul_zero]; exact Nat.zero_le _
 ·obtain ⟨e, rfl⟩ : ∃ e, r = d + e := ⟨r - d, by omega⟩
  rw [Nat.add_sub_cancel_left]
  have h1 : (d + e + d) * e = d * e + e * e + d * e := by rw [Nat.add_mul, Nat.add_mul]
  have h2 : (d + e) * (d + e) = d * d + d * e + (d * e + e * e) := by rw [Nat.add_mul, Nat.mul_add, Nat.mul_add, Nat.mul_comm e d]
  rw [h1, h2]
  omega
theorem cb_le (r d : Nat) : (r + d) * (r + d) * (r - 2 * d) ≤ r * r * r := by
 rcases Nat.lt_or_ge r (2 * d) with q | q
 ·rw [Nat.sub_eq_zero_of_le (by omega), Nat.mul_zero]; exact Nat.zero_le _
 ·obtain ⟨e, rfl⟩ : ∃ e, r = 2 * d + e := ⟨r - 2 * d, by omega⟩
  rw [Nat.add_sub_cancel_left]
  have e1 : 2 * d + e + d = 3 * d + e := by omega
  rw [e1]
  have h1 : (3 * d + e) * (3 * d + e) * e = 9 * (d * d * e) + 6 * (d * e * e) + e * e * e := by
   have a : (3 * d + e) * (3 * d + e) = 9 * (d * d) + 6 * (d * e) + e * e := by
    simp only [Nat.add_mul, Nat.mul_add, Nat.mul_assoc, Nat.mul_comm e d, Nat.mul_left_comm d 3 d, Nat.mul_left_comm e 3 d]
    omega
   rw [a, Nat.add_mul, Nat.add_mul, Nat.mul_assoc 9, Nat.mul_assoc 6]
  have h2 : (2 * d + e) * (2 * d + e) * (2 * d + e) = 8 * (d * d * d) + 12 * (d * d * e) + 6 * (d * e * e) + e * e * e := by
   have a : (2 * d + e) * (2 * d + e) = 4 * (d * d) + 4 * (d * e) + e * e := by
    simp only [Nat.add_mul, Nat.mul_add, Nat.mul_assoc, Nat.mul_comm e d, Nat.mul_left_comm d 2 d, Nat.mul_left_comm e 2 d]
    omega
   rw [a, Nat.mul_add, Nat.add_mul, Nat.add_mul, Nat.add_mul, Nat.add_mul]
   have b1 : 4 * (d * d) * (2 * d) = 8 * (d * d * d) := by rw [Nat.mul_assoc, Nat.mul_left_comm (d * d), ← Nat.mul_assoc]
   have b2 : 4 * (d * e) * (2 * d) = 8 * (d * d * e) := by rw [Nat.mul_assoc, Nat.mul_left_comm (d * e), ← Nat.mul_assoc, Nat.mul_comm (d * e) d, ← Nat.mul_assoc d]
   have b3 : e * e * (2 * d) = 2 * (d * e * e) := by rw [Nat.mul_left_comm, Nat.mul_comm (e * e) d, ← Nat.mul_assoc d]
   have b4 : 4 * (d * d) * e = 4 * (d * d * e) := Nat.mul_assoc _ _ _
   have b5 : 4 * (d * e) * e = 4 * (d * e * e) := Nat.mul_assoc _ _ _
   rw [b1, b2, b3, b4, b5]
   omega
  rw [h1, h2]
  omega
theorem newt_up2 {v x r : Nat} (hx : 0 < x) (hr : r ^ 2 ≤ v) (hle : r ≤ x) : r ≤ newt 2 v x := by
 unfold newt
 rw [Nat.le_div_iff_mul_le (by decide)]
 show r * 2 ≤ (2 - 1) * x + v / x ^ (2 - 1)
 rw [show 2 - 1 = 1 from rfl, Nat.one_mul, Nat.pow_one]
 obtain ⟨d, rfl⟩ : ∃ d, x = r + d := ⟨x - r, by omega⟩
 have h1 := sq_le r d
 have h2 : r - d ≤ v / (r + d) := by
  rw [Nat.le_div_iff_mul_le hx, Nat.mul_comm]
  rw [Nat.pow_two] at hr; omega
 omega
theorem newt_up3 {v x r : Nat} (hx : 0 < x) (hr : r ^ 3 ≤ v) (hle : r ≤ x) : r ≤ newt 3 v x := by
 unfold newt
 rw [Nat.le_div_iff_mul_le (by decide)]
 show r * 3 ≤ (3 - 1) * x + v / x ^ (3 - 1)
 rw [show 3 - 1 = 2 from rfl, Nat.pow_two]
 obtain ⟨d, rfl⟩ : ∃ d, x = r + d := ⟨x - r, by omega⟩
 have h1 := cb_le r d
 have h2 : r - 2 * d ≤ v / ((r + d) * (r + d)) := by
  rw [Nat.le_div_iff_mul_le (Nat.mul_pos hx hx), Nat.mul_comm]
  rw [Nat.pow_succ, Nat.pow_two] at hr; omega
 omega
theorem newt_up {k v x : Nat} (hk : k = 2 ∨ k = 3) (hx : 0 < x) (hle : rt k v ≤ x) : rt k v ≤ newt k v x := by
 rcases hk with rfl | rfl
 ·exact newt_up2 hx (rt_spec 2 v (by decide)).1 hle
 ·exact newt_up3 hx (rt_spec 3 v (by decide)).1 hle
theorem newt_end {k v x : Nat} (hk : 2 ≤ k) (hx : 0 < x) (hle : rt k v ≤ x) (h : x ≤ newt k v x) : x = rt k v := by
 rcases Nat.lt_or_ge (rt k v) x with q | q
 ·have h1 := (rt_spec k v (by omega)).2
  have h2 := Nat.pow_le_pow_left (show rt k v + 1 ≤ x from q) k
  have := newt_down hk (show v < x ^ k by omega) hx
  omega
 ·omega
theorem rt_above {k v s p : Nat} (hk : 0 < k) (hp : p = rt k (v / 2 ^ (s * k))) : rt k v ≤ (p + 1) * 2 ^ s := by
 have h1 := (rt_spec k (v / 2 ^ (s * k)) hk).2
 rw [← hp] at h1
 have h2 : v < ((p + 1) * 2 ^ s) ^ k := by
  rw [Nat.mul_pow, ← Nat.pow_mul]
  exact (Nat.div_lt_iff_lt_mul (Nat.pow_pos (by decide))).1 h1
 refine rt_le hk ?_
 exact Nat.lt_trans h2 (Nat.pow_lt_pow_left (Nat.lt_succ_self _) (by omega))
def CellZ (z T T' : Nat) : Prop := T / 2 ^ z = T' / 2 ^ z ∧ (T % 2 ^ z = 0 ↔ T' % 2 ^ z = 0)
theorem cz_split (T z j : Nat) : T / 2 ^ (z + j) = T / 2 ^ z / 2 ^ j ∧ T % 2 ^ (z + j) = (T / 2 ^ z % 2 ^ j) * 2 ^ z + T % 2 ^ z := by
 rw [Nat.pow_add]
 refine ⟨by rw [Nat.div_div_eq_div_mul], ?_⟩
 rw [Nat.mod_mul, Nat.mul_comm (2 ^ z), Nat.add_comm]
theorem blen_cell (T z : Nat) (h : T / 2 ^ z ≠ 0) : blen T = z + blen (T / 2 ^ z) := by
 have e := Nat.div_add_mod T (2 ^ z)
 have := blen_shift z (T % 2 ^ z) (T / 2 ^ z) (Nat.mod_lt _ (Nat.two_pow_pos z)) h
 rw [Nat.add_comm, e] at this
 exact this
def RtA (k P Q s : Nat) (mk : Bool) : Prop := Q * s ^ k ≤ P ∧ P < Q * (s + 1) ^ k ∧ (mk = true ↔ Q * s ^ k ≠ P)
theorem rtA_of (k P Q : Nat) (hk : 0 < k) (hQ : 0 < Q) : RtA k P Q (rt k (P / Q)) (decide (P % Q ≠ 0) || decide (P / Q - rt k (P / Q) ^ k ≠ 0)) := by
 obtain ⟨g1, g2⟩ := rt_spec k (P / Q) hk
 have e := Nat.div_add_mod P Q
 have hl := Nat.mod_lt P hQ
 generalize rt k (P / Q) = s at *
 have a1 : Q * s ^ k ≤ Q * (P / Q) := Nat.mul_le_mul_left _ g1
 have a2 : Q * (P / Q + 1) ≤ Q * (s + 1) ^ k := Nat.mul_le_mul_left _ g2
 rw [Nat.mul_add, Nat.mul_one] at a2
 refine ⟨by omega, by omega, ?_⟩
 rw [Bool.or_eq_true, decide_eq_true_eq, decide_eq_true_eq]
 constructor
 ·intro q c
  have a3 : Q * s ^ k = Q * (P / Q) := by omega
  have a4 := Nat.eq_of_mul_eq_mul_left hQ a3
  rw [← a4] at q
  rcases q with q | q
  ·rw [a4] at c; omega
  ·omega
 ·intro q
  by_cases z : P % Q = 0
  ·right
   intro c
   have : s ^ k = P / Q := by omega
   rw [this] at q
   omega
  ·exact Or.inl z
theorem rtA_le {k P Q s t : Nat} {mk : Bool} (_hk : 0 < k) (h : RtA k P Q s mk) (_hQ : 0 < Q) (g : Q * t ^ k ≤ P) : t ≤ s := by
 have h1 : Q * t ^ k < Q * (s + 1) ^ k := Nat.lt_of_le_of_lt g h.2.1
 have h2 : t ^ k < (s + 1) ^ k := Nat.lt_of_mul_lt_mul_left h1
 rcases Nat.lt_or_ge t (s + 1) with q | q
 ·omega
 ·exact absurd (Nat.pow_le_pow_left q k) (by omega)
theorem rtA_lt {k P Q s t : Nat} {mk : Bool} (h : RtA k P Q s mk) (g : P < Q * t ^ k) : s < t := by
 rcases Nat.lt_or_ge s t with q | q
 ·exact q
 ·have := Nat.mul_le_mul_left Q (Nat.pow_le_pow_left q k)
  have := h.1
  omega
theorem rtA_scale {k P1 Q1 s1 P2 Q2 s2 : Nat} {m1 m2 : Bool} (hk : 0 < k) (hQ1 : 0 < Q1) (hQ2 : 0 < Q2) (h1 : RtA k P1 Q1 s1 m1) (h2 : RtA k P2 Q2 s2 m2) (j : Nat) (h : P2 * Q1 = P1 * Q2 * (2 ^ j) ^ k) :
  s1 = s2 / 2 ^ j ∧ (m1 = true ↔ (m2 = true ∨ s2 % 2 ^ j ≠ 0)) := by
 have hp := Nat.two_pow_pos j
 have hx : ∀ t, Q2 * (t * 2 ^ j) ^ k * Q1 = Q1 * t ^ k * (Q2 * (2 ^ j) ^ k) := fun t => by
  rw [Nat.mul_pow]
  simp only [Nat.mul_comm, Nat.mul_left_comm, Nat.mul_assoc]
 have hpk : 0 < Q2 * (2 ^ j) ^ k := Nat.mul_pos hQ2 (Nat.pow_pos hp)
 have h' : P2 * Q1 = P1 * (Q2 * (2 ^ j) ^ k) := by rw [h, Nat.mul_assoc]
 have a1 : s1 * 2 ^ j ≤ s2 := by
  refine rtA_le hk h2 hQ2 (Nat.le_of_mul_le_mul_right (c := Q1) ?_ hQ1)
  rw [hx, h']
  exact Nat.mul_le_mul_right _ h1.1
 have a2 : s2 < (s1 + 1) * 2 ^ j := by
  refine rtA_lt h2 (Nat.lt_of_mul_lt_mul_right (a := Q1) ?_)
  rw [hx, h']
  exact Nat.mul_lt_mul_of_pos_right h1.2.1 hpk
 have e1 : s1 = s2 / 2 ^ j := by
  refine (Nat.le_antisymm ?_ ?_).symm
  ·exact Nat.le_of_lt_succ ((Nat.div_lt_iff_lt_mul hp).2 a2)
  ·exact (Nat.le_div_iff_mul_le hp).2 a1
 refine ⟨e1, ?_⟩
 have e2 := Nat.div_add_mod s2 (2 ^ j)
 rw [← e1, Nat.mul_comm] at e2
 have key : Q1 * s1 ^ k = P1 ↔ (Q2 * s2 ^ k = P2 ∧ s2 % 2 ^ j = 0) := by
  constructor
  ·intro q
   have q2 : Q2 * (s1 * 2 ^ j) ^ k = P2 := by
    refine Nat.eq_of_mul_eq_mul_right hQ1 ?_
    rw [hx, h', q]
   have q3 : s2 = s1 * 2 ^ j := by
    refine Nat.le_antisymm ?_ a1
    have := h2.1
    rw [← q2] at this
    exact pow_le_imp hk (Nat.le_of_mul_le_mul_left this hQ2)
   rw [← q3] at q2
   exact ⟨q2, by omega⟩
  ·rintro ⟨q, z⟩
   have q3 : s2 = s1 * 2 ^ j := by omega
   rw [q3] at q
   refine Nat.eq_of_mul_eq_mul_right hpk ?_
   rw [← hx, ← h', q]
 have k1 := h1.2.2
 have k2 := h2.2.2
 rw [k1, k2]
 by_cases c : Q1 * s1 ^ k = P1
 ·have := key.1 c
  constructor
  ·intro q; exact absurd c q
  ·rintro (q | q)
   ·exact absurd this.1 q
   ·exact absurd this.2 q
 ·constructor
  ·intro _
   by_cases d : Q2 * s2 ^ k = P2
   ·exact Or.inr fun z => c (key.2 ⟨d, z⟩)
   ·exact Or.inl d
  ·intro _; exact c
def skA (s : Nat) (mk : Bool) : Nat := 2 * s + mk.toNat
theorem skA_cell (s1 s2 j x : Nat) (m1 m2 : Bool) (h : s1 = s2 / 2 ^ j) (hm : m1 = true ↔ (m2 = true ∨ s2 % 2 ^ j ≠ 0)) : CellZ (j + 1 + x) (skA s1 m1 * 2 ^ (j + x)) (skA s2 m2 * 2 ^ x) := by
 have d2 : ∀ (s : Nat) (b : Bool), skA s b / 2 = s ∧ skA s b % 2 = b.toNat := fun s b => by unfold skA; have := Bool.toNat_le b; omega
 have px := Nat.two_pow_pos x
 have pj := Nat.two_pow_pos j
 unfold CellZ
 have e1 : 2 ^ (j + 1 + x) = 2 * 2 ^ (j + x) := by rw [show j + 1 + x = (j + x) + 1 by omega, Nat.pow_succ, Nat.mul_comm]
 have e2 : 2 ^ (j + 1 + x) = (2 * 2 ^ j) * 2 ^ x := by rw [Nat.mul_comm 2, ← Nat.pow_succ, ← Nat.pow_add]
 refine ⟨?_, ?_⟩
 ·rw [e1, Nat.mul_div_mul_right _ _ (Nat.two_pow_pos _), (d2 _ _).1, ← e1, e2, Nat.mul_div_mul_right _ _ px, ← Nat.div_div_eq_div_mul, (d2 _ _).1, h]
 ·rw [e1, Nat.mul_mod_mul_right, (d2 _ _).2, ← e1, e2, Nat.mul_mod_mul_right, Nat.mod_mul, (d2 _ _).1, (d2 _ _).2]
  have q1 : m1.toNat * 2 ^ (j + x) = 0 ↔ m1.toNat = 0 := by
   have := Nat.two_pow_pos (j + x)
   constructor
   ·intro q; rcases Nat.mul_eq_zero.1 q with k | k <;> omega
   ·intro q; rw [q, Nat.zero_mul]
  have q2 : (m2.toNat + 2 * (s2 % 2 ^ j)) * 2 ^ x = 0 ↔ m2.toNat = 0 ∧ s2 % 2 ^ j = 0 := by
   constructor
   ·intro q; rcases Nat.mul_eq_zero.1 q with k | k <;> omega
   ·intro q; rw [q.1, q.2]; simp
  rw [q1, q2]
  cases m1 <;> cases m2 <;> simp_all
end Go.Proofs.YtionhpedghmecaaGreatDoor

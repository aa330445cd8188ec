/- Pairs that are right: how great their floats are; quotients of floats, how great they are. -/
import Derived.Test.YtckpfohfbfmmnaaDD4
import Derived.Test.YtckpfohfbfmmnaaETot
namespace Go.Proofs.Ytckpfohfbfmmnaa
open EP

theorem div_lin (r y M xT E n D2 : Nat) (hM : 0 < M) (h1 : 9007199254740992 * (r * D2) ≤ 9007199254740992 * E + E + 4503599627370496 * D2) (hE : E * n ≤ 3 * (M * xT)) (hD : D2 * n = 2 * (M * y)) : r * y ≤ 3 * xT + y := by
  have a1 : r * D2 ≤ 2 * E + D2 := by omega
  have a2 : r * D2 * n ≤ (2 * E + D2) * n := Nat.mul_le_mul_right _ a1
  rw [Nat.add_mul, Nat.mul_assoc 2 E n, hD, Nat.mul_assoc r D2 n, hD] at a2
  have a3 : r * (2 * (M * y)) = M * (2 * (r * y)) := by
    rw [Nat.mul_left_comm r 2, Nat.mul_left_comm r M, Nat.mul_left_comm 2 M]
  rw [a3] at a2
  have a4 : 2 * (E * n) + 2 * (M * y) ≤ M * (6 * xT + 2 * y) := by
    rw [Nat.mul_add, Nat.mul_left_comm M 6, Nat.mul_left_comm M 2 y]; omega
  have a5 := Nat.le_of_mul_le_mul_left (Nat.le_trans a2 a4) hM
  omega

theorem quot_mag (m n M : Nat) (hm : n ≤ m * M) : (2 * (m * M / n) + (m * M % n != 0).toNat) * n ≤ 3 * (m * M) := by
  have h := Nat.div_add_mod (m * M) n
  have hb : (m * M % n != 0).toNat ≤ 1 := by cases (m * M % n != 0) <;> decide
  have h2 : (2 * (m * M / n) + (m * M % n != 0).toNat) * n ≤ (2 * (m * M / n) + 1) * n := Nat.mul_le_mul_right _ (by omega)
  have h3 : (2 * (m * M / n) + 1) * n = 2 * (n * (m * M / n)) + n := by
    rw [Nat.add_mul, Nat.one_mul, Nat.mul_assoc, Nat.mul_comm (m * M / n) n]
  omega
theorem nat_more (m n : Nat) (hm : m ≠ 0) : n ≤ m * 2 ^ (54 + n.log2 - m.log2) := by
  have h1 : n < 2 ^ (n.log2 + 1) := Nat.lt_log2_self
  have h2 : 2 ^ m.log2 ≤ m := Nat.log2_self_le hm
  have h3 : 2 ^ (n.log2 + 1) ≤ 2 ^ m.log2 * 2 ^ (54 + n.log2 - m.log2) := by
    rw [← Nat.pow_add]
    exact Nat.pow_le_pow_right (by decide) (by omega)
  exact Nat.le_trans (Nat.le_of_lt h1) (Nat.le_trans h3 (Nat.mul_le_mul_right _ h2))

/-- A quotient: no overflow; quotient times divisor is hardly more than three times what was divided. -/
theorem div_spec (x y N T : Nat) (hN : N = 2097) (hT : T = 1074) (hx : finB x = true) (hy : finB y = true) (h0 : 0 < amt y) (hov : 3 * (amt x * 2 ^ T) < 2 ^ N * amt y) :
    ∃ r, Ieee.double.div x y = some r ∧ finB r = true ∧ r < 18446744073709551616 ∧ amt r * amt y ≤ 3 * (amt x * 2 ^ T) + amt y := by
  obtain ⟨m, p, e1, e2, -⟩ := read_fin x hx
  obtain ⟨n, q, e3, e4, -⟩ := read_fin y hy
  have vx := V_mk x m p e2
  have vy := V_mk y n q e4
  have hX : amt x = m * 2 ^ p := by unfold amt; rw [vx]; split <;> simp only [Int.natAbs_neg, Int.natAbs_natCast]
  have hY : amt y = n * 2 ^ q := by unfold amt; rw [vy]; split <;> simp only [Int.natAbs_neg, Int.natAbs_natCast]
  have hn : n ≠ 0 := fun e => by rw [hY, e, Nat.zero_mul] at h0; exact absurd h0 (by omega)
  have hfb : Ieee.double.fractionBits + 2 = 54 := by decide
  unfold Ieee.Format.div
  rw [e1, e3, hfb]
  have hq : ((Ieee.Datum.number (negB x) m (-1074 + (p : Int))).quotient 54 (.number (negB y) n (-1074 + (q : Int)))).map Ieee.double.write = some (Ieee.double.nearest (negB x ^^ negB y) (2 * (m <<< (54 + n.log2 - m.log2) / n) + (m <<< (54 + n.log2 - m.log2) % n != 0).toNat) (-1074 + (p : Int) - (-1074 + (q : Int)) - ((54 + n.log2 - m.log2 : Nat) : Int) - 1)) := by
    unfold Ieee.Datum.quotient
    dsimp only
    rw [if_neg hn]; rfl
  refine ⟨_, hq, ?_⟩
  rw [Nat.shiftLeft_eq]
  generalize hM : 54 + n.log2 - m.log2 = k
  obtain ⟨Dd, hD⟩ : ∃ d, d = q + k + 1 := ⟨_, rfl⟩
  obtain ⟨P, hP⟩ : ∃ d, d = p + T := ⟨_, rfl⟩
  generalize hmag : 2 * (m * 2 ^ k / n) + (m * 2 ^ k % n != 0).toNat = mag
  have hmn : mag * n ≤ 3 * (m * 2 ^ k) := by
    by_cases hm : m = 0
    · subst hm
      rw [Nat.zero_mul, Nat.zero_div, Nat.zero_mod] at hmag
      have : mag = 0 := by rw [← hmag]; rfl
      rw [this, Nat.zero_mul]; exact Nat.zero_le _
    · rw [← hmag]
      exact quot_mag m n _ (by rw [← hM]; exact nat_more m n hm)
  have hE : mag * 2 ^ P * n ≤ 3 * (2 ^ k * (amt x * 2 ^ T)) := by
    rw [hX, hP, Nat.pow_add]
    have := Nat.mul_le_mul_right (2 ^ p * 2 ^ T) hmn
    have e5 : mag * (2 ^ p * 2 ^ T) * n = mag * n * (2 ^ p * 2 ^ T) := Nat.mul_right_comm _ _ _
    have e6 : 3 * (m * 2 ^ k) * (2 ^ p * 2 ^ T) = 3 * (2 ^ k * (m * 2 ^ p * 2 ^ T)) := by
      rw [Nat.mul_assoc 3, Nat.mul_comm m (2 ^ k), Nat.mul_assoc (2 ^ k), Nat.mul_assoc m]
    rw [e5, ← e6]; exact this
  have hDn : 2 ^ Dd * n = 2 * (2 ^ k * amt y) := by
    rw [hY, hD, Nat.pow_succ, Nat.pow_add, Nat.mul_comm (2 ^ q * 2 ^ k * 2) n, Nat.mul_comm (2 ^ q * 2 ^ k) 2, Nat.mul_left_comm n 2, Nat.mul_comm (2 ^ q) (2 ^ k), Nat.mul_left_comm n (2 ^ k)]
  have hlt : mag * 2 ^ P < 2 ^ (N + Dd) := by
    refine Nat.lt_of_mul_lt_mul_right (a := n) (Nat.lt_of_le_of_lt hE ?_)
    rw [Nat.pow_add, Nat.mul_assoc, hDn]
    have h5 := Nat.mul_lt_mul_of_pos_left hov (pow2_pos k)
    have e7 : 2 ^ N * (2 * (2 ^ k * amt y)) = 2 * (2 ^ k * (2 ^ N * amt y)) := by
      rw [Nat.mul_left_comm (2 ^ N) 2, Nat.mul_left_comm (2 ^ N) (2 ^ k)]
    have e8 : 3 * (2 ^ k * (amt x * 2 ^ T)) = 2 ^ k * (3 * (amt x * 2 ^ T)) := Nat.mul_left_comm _ _ _
    rw [e7, e8]
    omega
  obtain ⟨f1, f2, r, f3, f4, -, -⟩ := near_V (negB x ^^ negB y) mag (-1074 + (p : Int) - (-1074 + (q : Int)) - (k : Int) - 1) Dd P N hN (by rw [hD, hP, hT]; omega) hlt
  refine ⟨f1, f2, ?_⟩
  have hr : amt (Ieee.double.nearest (negB x ^^ negB y) mag (-1074 + (p : Int) - (-1074 + (q : Int)) - (k : Int) - 1)) = r := by
    unfold amt; rw [f3]; split <;> simp only [Int.natAbs_neg, Int.natAbs_natCast]
  rw [hr]
  exact div_lin r (amt y) (2 ^ k) (amt x * 2 ^ T) (mag * 2 ^ P) n (2 ^ Dd) (pow2_pos k) f4 hE hDn
end Go.Proofs.Ytckpfohfbfmmnaa

/- The steps without an error, float by float: what TwoSum and FastTwoSum leave is the exact error. -/
import Derived.Test.YtiibjhemljkgbaaESq
namespace Go.Proofs.Ytiibjhemljkgbaa.Fp
open EP Ieee

theorem bd_lt {a n N : Nat} (h : bd a n) (hn : n + 1 ≤ N) : (V a).natAbs < 2 ^ N := by
  have h1 := h.2
  have h2 := Nat.pow_le_pow_right (n := 2) (by decide) hn
  rw [Nat.pow_succ] at h2
  have := pow2_pos n
  omega
theorem fo_G_add {a b n : Nat} (ha : bd a n) (hb : bd b n) (hn : n ≤ 2090) : ∃ r, fo .add a b = some r ∧ r < 18446744073709551616 ∧ bd r (n + 2) ∧ V r = G (V a + V b) := by
  obtain ⟨r, e, h1, h2⟩ := add_bd ha hb hn
  obtain ⟨M, hM⟩ : ∃ M : Nat, M = 2096 := ⟨_, rfl⟩
  have k1 := bd_lt ha (N := M) (by omega)
  have k2 := bd_lt hb (N := M) (by omega)
  obtain ⟨r', e4, -, -, e6⟩ := add_G a b (M + 1) (by omega) ha.1 hb.1 (by
    rw [Nat.pow_succ]
    generalize 2 ^ M = P at *
    omega)
  obtain rfl := Option.some.inj (e.symm.trans e4)
  refine ⟨r, ?_, h1, h2, e6⟩
  show (double.add a b).bind _ = _
  rw [e]; show (if finB r then some r else none) = _; rw [if_pos h2.1]
theorem fo_G_sub {a b n : Nat} (ha : bd a n) (hb : bd b n) (hn : n ≤ 2090) : ∃ r, fo .sub a b = some r ∧ r < 18446744073709551616 ∧ bd r (n + 2) ∧ V r = G (V a - V b) := by
  obtain ⟨r, e, h1, h2⟩ := sub_bd ha hb hn
  obtain ⟨M, hM⟩ : ∃ M : Nat, M = 2096 := ⟨_, rfl⟩
  have k1 := bd_lt ha (N := M) (by omega)
  have k2 := bd_lt hb (N := M) (by omega)
  obtain ⟨r', e4, -, -, e6⟩ := sub_G a b (M + 1) (by omega) ha.1 hb.1 (by
    rw [Nat.pow_succ]
    generalize 2 ^ M = P at *
    omega)
  obtain rfl := Option.some.inj (e.symm.trans e4)
  refine ⟨r, ?_, h1, h2, e6⟩
  show (double.sub a b).bind _ = _
  rw [e]; show (if finB r then some r else none) = _; rw [if_pos h2.1]
/-- TwoSum's two floats: the sum rounded, and what is left of it, exactly. -/
theorem twoSum_V {a b n : Nat} (ha : bd a n) (hb : bd b n) (hn : n ≤ 2080) : ∃ s t, twoSumO a b = some (s, t) ∧ bd s (n + 2) ∧ bd t (n + 10) ∧ V s = G (V a + V b) ∧ V t = V a + V b - V s := by
  obtain ⟨s, e1, -, b1, g1⟩ := fo_G_add ha hb (by omega)
  obtain ⟨x, e2, -, b2, g2⟩ := fo_G_sub b1 (ha.mono (by omega)) (by omega)
  obtain ⟨y, e3, -, b3, g3⟩ := fo_G_sub (b1.mono (by omega)) b2 (by omega)
  obtain ⟨u, e4, -, b4, g4⟩ := fo_G_sub (ha.mono (by omega)) b3 (by omega)
  obtain ⟨v, e5, -, b5, g5⟩ := fo_G_sub (hb.mono (by omega)) b2 (by omega)
  obtain ⟨t, e6, -, b6, g6⟩ := fo_G_add b4 (b5.mono (by omega)) (by omega)
  refine ⟨s, t, by simp only [twoSumO, e1, e2, e3, e4, e5, e6, Option.bind_some], b1, b6, g1, ?_⟩
  rw [g6, g4, g5, g3, g2, g1]
  exact twoSum_G (V a) (V b) (V_fl a ha.1) (V_fl b hb.1)
theorem fast_V {a b n : Nat} (ha : bd a n) (hb : bd b n) (hn : n ≤ 2080) (h : (V b).natAbs ≤ (V a).natAbs ∨ V a = 0) : ∃ s t, fastO a b = some (s, t) ∧ bd s (n + 2) ∧ bd t (n + 6) ∧ V s = G (V a + V b) ∧ V t = V a + V b - V s := by
  obtain ⟨s, e1, -, b1, g1⟩ := fo_G_add ha hb (by omega)
  obtain ⟨x, e2, -, b2, g2⟩ := fo_G_sub b1 (ha.mono (by omega)) (by omega)
  obtain ⟨t, e3, -, b3, g3⟩ := fo_G_sub (hb.mono (by omega)) b2 (by omega)
  refine ⟨s, t, by simp only [fastO, e1, e2, e3, Option.bind_some], b1, b3, g1, ?_⟩
  rw [g3, g2, g1]
  exact fast_G (V a) (V b) (V_fl a ha.1) (V_fl b hb.1) h
end Go.Proofs.Ytiibjhemljkgbaa.Fp

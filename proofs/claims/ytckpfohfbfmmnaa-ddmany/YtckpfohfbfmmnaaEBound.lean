/- Of floats of some size the steps without an error have finite answers of some size. -/
import Derived.Test.YtckpfohfbfmmnaaESteps
namespace Go.Proofs.Ytckpfohfbfmmnaa
open EP

theorem twoSum_bd {a b n : Nat} (ha : bd a n) (hb : bd b n) (hn : n ≤ 2080) : ∃ s t, twoSumO a b = some (s, t) ∧ bd s (n + 2) ∧ bd t (n + 10) := by
  obtain ⟨s, e1, -, b1⟩ := fo_add ha hb (by omega)
  obtain ⟨x, e2, -, b2⟩ := fo_sub b1 (ha.mono (by omega)) (by omega)
  obtain ⟨y, e3, -, b3⟩ := fo_sub (b1.mono (by omega)) b2 (by omega)
  obtain ⟨u, e4, -, b4⟩ := fo_sub (ha.mono (by omega)) b3 (by omega)
  obtain ⟨v, e5, -, b5⟩ := fo_sub (hb.mono (by omega)) b2 (by omega)
  obtain ⟨t, e6, -, b6⟩ := fo_add b4 (b5.mono (by omega)) (by omega)
  exact ⟨s, t, by simp only [twoSumO, e1, e2, e3, e4, e5, e6, Option.bind_some], b1, b6⟩
theorem fast_bd {a b n : Nat} (ha : bd a n) (hb : bd b n) (hn : n ≤ 2080) : ∃ s t, fastO a b = some (s, t) ∧ bd s (n + 2) ∧ bd t (n + 6) := by
  obtain ⟨s, e1, -, b1⟩ := fo_add ha hb (by omega)
  obtain ⟨x, e2, -, b2⟩ := fo_sub b1 (ha.mono (by omega)) (by omega)
  obtain ⟨t, e3, -, b3⟩ := fo_sub (hb.mono (by omega)) b2 (by omega)
  exact ⟨s, t, by simp only [fastO, e1, e2, e3, Option.bind_some], b1, b3⟩
theorem splitter_bd : bd 4728779608772575232 1102 := ⟨by decide, by decide +kernel⟩
theorem split_bd {a n : Nat} (ha : bd a n) (hn : n ≤ 2040) : ∃ h l, splitO a = some (h, l) ∧ bd h (n + 33) ∧ bd l (n + 35) := by
  obtain ⟨c, e1, -, b1⟩ := fo_mul (k := n + 28) splitter_bd ha (by omega) (by omega)
  obtain ⟨x, e2, -, b2⟩ := fo_sub b1 (ha.mono (by omega)) (by omega)
  obtain ⟨h, e3, -, b3⟩ := fo_sub (b1.mono (by omega)) b2 (by omega)
  obtain ⟨l, e4, -, b4⟩ := fo_sub (ha.mono (by omega)) b3 (by omega)
  exact ⟨h, l, by simp only [splitO, e1, e2, e3, e4, Option.bind_some], b3, b4⟩
theorem twoProd_bd {a b n k : Nat} (ha : bd a n) (hb : bd b n) (hk : n + n = k + 1074) (hn : k ≤ 2000) : ∃ p e, twoProdO a b = some (p, e) ∧ bd p (k + 1) ∧ bd e (k + 80) := by
  obtain ⟨p, e1, -, b1⟩ := fo_mul ha hb hk (by omega)
  obtain ⟨h, l, e2, b2, b3⟩ := split_bd ha (by omega)
  obtain ⟨m, n', e3, b4, b5⟩ := split_bd hb (by omega)
  replace b2 := b2.mono (n := n + 35) (by omega)
  replace b4 := b4.mono (n := n + 35) (by omega)
  obtain ⟨hm, e4, -, c1⟩ := fo_mul (k := k + 70) b2 b4 (by omega) (by omega)
  obtain ⟨x, e5, -, c2⟩ := fo_sub (b1.mono (by omega)) c1 (by omega)
  obtain ⟨lm, e6, -, c3⟩ := fo_mul (k := k + 70) b3 b4 (by omega) (by omega)
  obtain ⟨y, e7, -, c4⟩ := fo_sub c2 (c3.mono (by omega)) (by omega)
  obtain ⟨hn', e8, -, c5⟩ := fo_mul (k := k + 70) b2 b5 (by omega) (by omega)
  obtain ⟨z, e9, -, c6⟩ := fo_sub c4 (c5.mono (by omega)) (by omega)
  obtain ⟨ln, e10, -, c7⟩ := fo_mul (k := k + 70) b3 b5 (by omega) (by omega)
  obtain ⟨e, e11, -, c8⟩ := fo_sub (c7.mono (by omega)) c6 (by omega)
  exact ⟨p, e, by simp only [twoProdO, e1, e2, e3, e4, e5, e6, e7, e8, e9, e10, e11, Option.bind_some], b1, c8.mono (by omega)⟩
end Go.Proofs.Ytckpfohfbfmmnaa

/- Less a number: what alg answers of it (pure). Roots at any scale; they rise; of powers they are what was raised (pure). -/
import Derived.Test.YtionhpedghmecaaGreatDoorALX

namespace Go.Proofs.YtionhpedghmecaaGreatDoor
open Go.RowKit
theorem ans_right (k m : Nat) (e : Int) (hk : k = 2 ∨ k = 3) (h0 : m ≠ 0) (ht : -5000 ≤ tpI m e ∧ tpI m e ≤ 5000) : rightB (ansM k m e) (ansE k m e) = true ∧ ansM k m e ≠ 0 ∧ 2 ^ 53 ≤ rt k (agA m (ansI k m e)) := by
 have hab := ansA_bd k m e hk h0
 have hb := rt_bd k _ (by omega) hab.1 hab.2
 have hx := agX_bd k _ hk ht
 refine ⟨sk_right _ _ hb.2.1 (by unfold ansE; omega) (by unfold ansE; omega), ?_, hb.1⟩
 unfold ansM skA
 have := hb.2.2
 omega
theorem inv_right (m : Nat) (e : Int) (h0 : m ≠ 0) (ht : -5000 ≤ tpI m e ∧ tpI m e ≤ 5000) : rightB (invM m e) (invE m e) = true ∧ invM m e ≠ 0 ∧ 2 ^ 53 ≤ rt 2 (invA m e) := by
 have hab := invA_bd m e h0
 have hb := rt_bd 2 _ (by omega) hab.1 hab.2
 have hx := agX_bd 2 (-(tpI m e)) (Or.inl rfl) (by omega)
 refine ⟨sk_right _ _ hb.2.1 (by unfold invE; omega) (by unfold invE; omega), ?_, hb.1⟩
 unfold invM skA
 have := hb.2.2
 omega
theorem fa_tp (x : Int) : -5000 ≤ tpI (fromP x).2.1 (fromP x).2.2 ∧ tpI (fromP x).2.1 (fromP x).2.2 ≤ 5000 := by
 have := fa_bd x
 unfold tpI
 omega
theorem ag_ratio (m : Nat) (i d : Int) (hd : 0 ≤ d) : agP m (i + d) * agQ i = agP m i * agQ (i + d) * 2 ^ d.toNat := by
 unfold agP agQ
 rw [Nat.mul_assoc, ← Nat.pow_add, Nat.mul_assoc, Nat.mul_assoc, ← Nat.pow_add, ← Nat.pow_add]
 congr 2
 omega
theorem agQ_pos (i : Int) : 0 < agQ i := Nat.two_pow_pos _
theorem ag_rtA (k m : Nat) (i : Int) (hk : 0 < k) : RtA k (agP m i) (agQ i) (rt k (agA m i)) (ansK k (agA m i) (agL m i)) := rtA_of k _ _ hk (agQ_pos i)
def atM (k m : Nat) (e E : Int) : Nat := skA (rt k (agA m (e - k * E))) (ansK k (agA m (e - k * E)) (agL m (e - k * E)))
def atI (m : Nat) (e E : Int) : Nat := skA (rt 2 (2 ^ (-(2 * E) - e).toNat / m)) (ansK 2 (2 ^ (-(2 * E) - e).toNat / m) (decide (2 ^ (-(2 * E) - e).toNat % m ≠ 0)))
theorem ans_at (k m : Nat) (e E : Int) (hk : k = 2 ∨ k = 3) (h0 : m ≠ 0) (hE : E ≤ agX k (tpI m e)) (hl : -30000 ≤ E) :
  nearW (ansM k m e) (ansE k m e) = nearW (atM k m e E) (E - 1) ∧ exactB (ansM k m e) (ansE k m e) = exactB (atM k m e E) (E - 1) ∧ tinyP (ansM k m e) (ansE k m e) = tinyP (atM k m e E) (E - 1) ∧ atM k m e E ≠ 0 := by
 obtain ⟨j, hj⟩ : ∃ j : Nat, agX k (tpI m e) = E + j := ⟨(agX k (tpI m e) - E).toNat, by omega⟩
 have hab := ansA_bd k m e hk h0
 have hb := (rt_bd k _ (by omega) hab.1 hab.2).1
 have hm := agX_mul k (tpI m e)
 have r1 := ag_rtA k m (ansI k m e) (by omega)
 have r2 := ag_rtA k m (e - k * E) (by omega)
 have hi : e - k * E = ansI k m e + ((j * k : Nat) : Int) := by
  unfold ansI
  rw [hj] at hm
  rcases hk with q | q <;> subst q <;> omega
 have hr := ag_ratio m (ansI k m e) ((j * k : Nat) : Int) (by omega)
 rw [← hi, Int.toNat_natCast, Nat.pow_mul] at hr
 obtain ⟨s1, s2⟩ := rtA_scale (by omega) (agQ_pos _) (agQ_pos _) r1 r2 j hr
 have := skA_near _ _ j _ _ (E - 1) (by omega) s1 s2 hb
 unfold ansM atM ansE
 rw [hj, show E + (j : Int) - 1 = E - 1 + j by omega]
 exact ⟨this.1, this.2.1, this.2.2.1, this.2.2.2.2⟩
theorem inv_at (m : Nat) (e E : Int) (h0 : m ≠ 0) (hE : E ≤ agX 2 (-(tpI m e))) (hl : -30000 ≤ E) :
  nearW (invM m e) (invE m e) = nearW (atI m e E) (E - 1) ∧ exactB (invM m e) (invE m e) = exactB (atI m e E) (E - 1) ∧ tinyP (invM m e) (invE m e) = tinyP (atI m e E) (E - 1) ∧ atI m e E ≠ 0 := by
 obtain ⟨j, hj⟩ : ∃ j : Nat, agX 2 (-(tpI m e)) = E + j := ⟨(agX 2 (-(tpI m e)) - E).toNat, by omega⟩
 have hab := invA_bd m e h0
 have hb := (rt_bd 2 _ (by omega) hab.1 hab.2).1
 have hm := agX_mul 2 (-(tpI m e))
 have hib := invI_bd m e
 have r1 : RtA 2 (2 ^ (invI m e).toNat) m (rt 2 (invA m e)) (ansK 2 (invA m e) (invL m e)) := rtA_of 2 _ _ (by decide) (by omega)
 have r2 : RtA 2 (2 ^ (-(2 * E) - e).toNat) m (rt 2 (2 ^ (-(2 * E) - e).toNat / m)) (ansK 2 (2 ^ (-(2 * E) - e).toNat / m) (decide (2 ^ (-(2 * E) - e).toNat % m ≠ 0))) := rtA_of 2 _ _ (by decide) (by omega)
 have hi : (-(2 * E) - e).toNat = (invI m e).toNat + j * 2 := by
  unfold invI at *
  rw [hj] at hm
  omega
 have hr : 2 ^ (-(2 * E) - e).toNat * m = 2 ^ (invI m e).toNat * m * (2 ^ j) ^ 2 := by
  rw [hi, Nat.pow_add, Nat.pow_mul, Nat.mul_right_comm]
 obtain ⟨s1, s2⟩ := rtA_scale (by omega) (by omega) (by omega) r1 r2 j hr
 have := skA_near _ _ j _ _ (E - 1) (by omega) s1 s2 hb
 unfold invM atI invE
 rw [hj, show E + (j : Int) - 1 = E - 1 + j by omega]
 exact ⟨this.1, this.2.1, this.2.2.1, this.2.2.2.2⟩
end Go.Proofs.YtionhpedghmecaaGreatDoor

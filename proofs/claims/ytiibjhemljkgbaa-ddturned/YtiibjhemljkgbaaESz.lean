/- TwoSum and FastTwoSum lose nothing. -/
import Derived.Test.YtiibjhemljkgbaaESy
namespace Go.Proofs.Ytiibjhemljkgbaa.Fp
open EP Ieee

theorem fl_twice {x : Int} (h : Fl x) : Fl (2 * x) := by
  obtain ⟨c, k, h1, h2⟩ := h
  exact ⟨c, k + 1, by rw [Int.natAbs_mul, h1, Nat.pow_succ]; show 2 * (c * 2 ^ k) = c * (2 ^ k * 2); rw [Nat.mul_comm 2, Nat.mul_assoc], h2⟩
/-- a float is small, or twice a float -/
theorem fl_half {s : Int} (h : Fl s) : s.natAbs ≤ 9007199254740992 ∨ ∃ d : Int, s = 2 * d ∧ Fl d := by
  obtain ⟨c, k, h1, h2⟩ := h
  cases k with
  | zero => left; rw [h1, Nat.pow_zero, Nat.mul_one]; exact h2
  | succ k =>
    right
    rw [Nat.pow_succ, ← Nat.mul_assoc] at h1
    by_cases hs : s < 0
    · exact ⟨-((c * 2 ^ k : Nat) : Int), by generalize c * 2 ^ k = m at *; omega, c, k, by rw [Int.natAbs_neg, Int.natAbs_natCast], h2⟩
    · exact ⟨((c * 2 ^ k : Nat) : Int), by generalize c * 2 ^ k = m at *; omega, c, k, by rw [Int.natAbs_natCast], h2⟩
theorem fl_small {x : Int} (h : x.natAbs ≤ 9007199254740992) : Fl x := ⟨x.natAbs, 0, by rw [Nat.pow_zero, Nat.mul_one], h⟩
theorem kk_twice (b : Int) : kk (2 * b) ≤ kk b + 1 := by
  refine Nat.le_of_not_lt fun q => ?_
  have h1 := kk_ge (2 * b) (by omega)
  have h2 := kk_lt b
  have h3 := Nat.pow_le_pow_right (n := 2) (by decide) (show 53 + kk b + 1 ≤ 52 + kk (2 * b) by omega)
  rw [Nat.pow_succ] at h3
  omega
/-- where the second is the greater and above 0: the first difference lies near it -/
theorem caseB (a b : Int) (ha : Fl a) (hb : Fl b) (h0 : 0 < b) (hab : a.natAbs < b.natAbs) : Fl (G (a + b) - G (G (a + b) - a)) ∧ Fl (b - G (G (a + b) - a)) := by
  have hes := err_fl a b ha hb
  have hhalf := G_half (a + b)
  have hs0 : 0 ≤ G (a + b) := G_nonneg (by omega)
  have hfs : Fl (G (a + b)) := G_fl _
  have hk1 : kk (a + b) ≤ kk b + 1 := Nat.le_trans (kk_mono (by omega)) (kk_twice b)
  have hup : a ≤ 0 → G (a + b) ≤ b := fun q => by have := G_mono (a + b) b (by omega); rwa [G_fix hb] at this
  have hlo : 0 ≤ a → b ≤ G (a + b) := fun q => by have := G_mono b (a + b) (by omega); rwa [G_fix hb] at this
  have hbig : ∀ f, Fl f → f ≤ a + b → f ≤ G (a + b) := fun f hf q => by have := G_mono f (a + b) q; rwa [G_fix hf] at this
  have hex : Fl (a + b) → G (a + b) = a + b := G_fix
  generalize G (a + b) = s at *
  by_cases hF : Fl (s - a)
  · rw [G_fix hF]
    exact ⟨by rw [show s - (s - a) = a by omega]; exact ha, by rw [show b - (s - a) = a + b - s by omega]; exact hes⟩
  · have hnear := near_fl (s - a) b hb
    have hdx := G_dv (s - a)
    have hfx : Fl (G (s - a)) := G_fl _
    have hxs : 0 ≤ a → G (s - a) ≤ s := fun q => by have := G_mono (s - a) s (by omega); rwa [G_fix hfs] at this
    have hsx : a ≤ 0 → s ≤ G (s - a) := fun q => by have := G_mono s (s - a) (by omega); rwa [G_fix hfs] at this
    have hup2 : ∀ f, Fl f → s - a ≤ f → G (s - a) ≤ f := fun f hf q => by have := G_mono (s - a) f q; rwa [G_fix hf] at this
    have hlo2 : ∀ f, Fl f → f ≤ s - a → f ≤ G (s - a) := fun f hf q => by have := G_mono f (s - a) q; rwa [G_fix hf] at this
    have hkx : kk b - 1 ≤ kk (s - a) := by
      by_cases hkb : kk b ≤ 1
      · omega
      · have hb2 := kk_ge b (by omega)
        refine Nat.le_of_not_lt fun q => ?_
        have h1 := kk_lt (s - a)
        have h2 := Nat.pow_le_pow_right (n := 2) (by decide) (show 53 + kk (s - a) ≤ 51 + kk b by omega)
        have h3 : 2 ^ (52 + kk b) = 2 * 2 ^ (51 + kk b) := by rw [show 52 + kk b = 51 + kk b + 1 by omega, Nat.pow_succ, Nat.mul_comm]
        have h4 : 2 ^ kk (a + b) ≤ 2 ^ (kk b + 1) := Nat.pow_le_pow_right (by decide) hk1
        have h5 : 2 ^ (kk b + 1) ≤ 2 ^ (51 + kk b) := Nat.pow_le_pow_right (by decide) (by omega)
        generalize 2 ^ (52 + kk b) = P at *
        generalize 2 ^ (51 + kk b) = Q at *
        generalize 2 ^ kk (a + b) = g at *
        generalize 2 ^ (kk b + 1) = g2 at *
        generalize 2 ^ (53 + kk (s - a)) = g3 at *
        omega
    generalize G (s - a) = x at *
    constructor
    · by_cases hn : a ≤ 0
      · have h1 := hsx hn
        have h2 : x ≤ 2 * s := by
          refine hup2 _ (fl_twice hfs) ?_
          by_cases q : 2 * (-a) ≤ b
          · have := hbig (-a) (fl_neg ha) (by omega)
            omega
          · exfalso
            have hst := sterbenz b (-a) hb (fl_neg ha) (by omega) (by omega) (by omega)
            rw [show b - -a = a + b by omega] at hst
            have := hex hst
            apply hF
            rw [this, show a + b - a = b by omega]
            exact hb
        have := fl_neg (sterbenz x s hfx hfs hs0 h1 h2)
        rwa [show -(x - s) = s - x by omega] at this
      · have h1 := hxs (by omega)
        have h2 := hlo (by omega)
        have h3 : s ≤ 2 * x := by
          rcases fl_half hfs with q | ⟨d, rfl, hd⟩
          · exact absurd (fl_small (by omega)) hF
          · by_cases q : a ≤ d
            · have := hlo2 d hd (by omega)
              omega
            · exfalso
              have hda : kk d ≤ kk a := kk_mono (by omega)
              have hdb : kk d ≤ kk b := kk_mono (by omega)
              have g1 := gap (fl_dv hd) ((fl_dv ha).low hda) (by omega)
              have g2 := gap ((fl_dv ha).low hda) ((fl_dv hb).low hdb) (by omega)
              have tg := top_gap (fl_dv hd) (kk_lt d)
              have hp : (0 : Nat) < 2 ^ kk d := pow2_pos _
              have hfd : Fl (d + ((2 ^ kk d : Nat) : Int)) := by
                refine fl_dv_of (kk d) ((fl_dv hd).add (Int.dvd_refl _)) ?_
                rw [← p53]
                generalize 2 ^ (53 + kk d) = P at *
                generalize 2 ^ kk d = g at *
                omega
              have := hbig _ (fl_twice hfd) (by generalize 2 ^ kk d = g at *; omega)
              generalize 2 ^ kk d = g at *
              omega
        exact sterbenz s x hfs hfx (by omega) h1 h3
    · refine fl_dv_of (kk b - 1) (((fl_dv hb).low (by omega)).sub (hdx.low hkx)) ?_
      have h4 : 2 ^ kk (a + b) ≤ 2 ^ (kk b + 1) := Nat.pow_le_pow_right (by decide) hk1
      have h5 : 2 ^ (kk b + 1) ≤ 4 * 2 ^ (kk b - 1) := by
        rw [show (4 : Nat) = 2 ^ 2 by decide, ← Nat.pow_add]
        exact Nat.pow_le_pow_right (by decide) (by omega)
      generalize 2 ^ kk (a + b) = g at *
      generalize 2 ^ (kk b + 1) = g2 at *
      generalize 2 ^ (kk b - 1) = g3 at *
      omega
/-- TwoSum's error is the exact one. -/
theorem twoSum_G (a b : Int) (ha : Fl a) (hb : Fl b) : G (G (a - G (G (a + b) - G (G (a + b) - a))) + G (b - G (G (a + b) - a))) = a + b - G (a + b) := by
  have hes := err_fl a b ha hb
  have hfs : Fl (G (a + b)) := G_fl _
  by_cases hF : Fl (G (a + b) - a)
  · rw [G_fix hF, show G (a + b) - (G (a + b) - a) = a by omega, G_fix ha, Int.sub_self, G_fix fl_zero, Int.zero_add, show b - (G (a + b) - a) = a + b - G (a + b) by omega, G_fix hes, G_fix hes]
  · have hab : a.natAbs < b.natAbs := by
      refine Nat.lt_of_not_le fun q => hF (fast_exact a b ha hb q)
    have hk : Fl (G (a + b) - G (G (a + b) - a)) ∧ Fl (b - G (G (a + b) - a)) := by
      by_cases hp : 0 < b
      · exact caseB a b ha hb hp hab
      · have := caseB (-a) (-b) (fl_neg ha) (fl_neg hb) (by omega) (by omega)
        rw [show -a + -b = -(a + b) by omega, G_neg, show -G (a + b) - -a = -(G (a + b) - a) by omega, G_neg] at this
        obtain ⟨q1, q2⟩ := this
        have q3 := fl_neg q1
        have q4 := fl_neg q2
        rw [show -(-G (a + b) - -G (G (a + b) - a)) = G (a + b) - G (G (a + b) - a) by omega] at q3
        rw [show -(-b - -G (G (a + b) - a)) = b - G (G (a + b) - a) by omega] at q4
        exact ⟨q3, q4⟩
    have hd := err_fl (G (a + b)) (-a) hfs (fl_neg ha)
    rw [show G (a + b) + -a = G (a + b) - a by omega] at hd
    have hda : Fl (a - (G (a + b) - G (G (a + b) - a))) := by
      have := fl_neg hd
      rwa [show -(G (a + b) - a - G (G (a + b) - a)) = a - (G (a + b) - G (G (a + b) - a)) by omega] at this
    rw [G_fix hk.1, G_fix hda, G_fix hk.2, show a - (G (a + b) - G (G (a + b) - a)) + (b - G (G (a + b) - a)) = a + b - G (a + b) by omega, G_fix hes]
/-- FastTwoSum's error is the exact one, where the second is no greater. -/
theorem fast_G (a b : Int) (ha : Fl a) (hb : Fl b) (h : b.natAbs ≤ a.natAbs ∨ a = 0) : G (b - G (G (a + b) - a)) = a + b - G (a + b) := by
  have hes := err_fl a b ha hb
  have hF : Fl (G (a + b) - a) := by
    rcases h with h | h
    · exact fast_exact a b ha hb h
    · subst h
      rw [Int.zero_add, G_fix hb, Int.sub_zero]
      exact hb
  rw [G_fix hF, show b - (G (a + b) - a) = a + b - G (a + b) by omega, G_fix hes]
end Go.Proofs.Ytiibjhemljkgbaa.Fp

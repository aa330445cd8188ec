/- How far the sum of many floats as a pair lies off. -/
import Derived.Test.YtlbaphijmonjoaaEUa
namespace Go.Proofs.Ytlbaphijmonjoaa.Fp
open EP Ieee

theorem G_rel (E : Int) : 9007199254740992 * (G E - E).natAbs ≤ E.natAbs := by
  have h1 := G_half E
  by_cases hk : kk E = 0
  · have h2 := kk_lt E
    rw [hk] at h2
    have : G E = E := G_fix (fl_small (by have e : (2 : Nat) ^ (53 + 0) = 9007199254740992 := by decide
                                          omega))
    rw [this, Int.sub_self]; simp
  · have h2 := kk_ge E (by omega)
    rw [show 52 + kk E = kk E + 52 by omega, Nat.pow_add, show (2 : Nat) ^ 52 = 4503599627370496 by decide] at h2
    generalize 2 ^ kk E = g at *
    omega
theorem G_zero : G 0 = 0 := G_fix fl_zero
theorem G_le (E : Int) : (G E).natAbs ≤ 2 * E.natAbs ∧ (E - G E).natAbs ≤ E.natAbs := by
  have := G_rel E
  omega
/-- What is left of a rounding is no more than what came out. -/
theorem rest_le (E : Int) : (E - G E).natAbs ≤ (G E).natAbs ∨ G E = 0 := by
  have := G_rel E
  omega
/-- The second float of a pair whose first is both rounded: at most half of the first one's last bit. -/
theorem lo_half (h l : Int) (fl : Fl l) (hr : G (h + l) = h) : 2 * l.natAbs ≤ 2 ^ kk h := by
  by_cases hz : h = 0
  · rw [hz, Int.zero_add, G_fix fl] at hr
    rw [hr]; simp
  have hk : kk (h + l) ≤ kk h := by
    refine Nat.le_of_not_lt fun q => ?_
    have h1 := kk_ge (h + l) (by omega)
    have h2 := kk_lt h
    have h3 : 2 ^ (53 + kk h) ≤ 2 ^ (52 + kk (h + l)) := Nat.pow_le_pow_right (by decide) (by omega)
    have ff : Fl ((2 ^ (53 + kk h) : Nat) : Int) := ⟨1, 53 + kk h, by rw [Int.natAbs_natCast, Nat.one_mul], by decide⟩
    have n1 := near_fl (h + l) _ ff
    have n2 := near_fl (h + l) _ (fl_neg ff)
    have n3 := G_rel (h + l)
    rw [hr] at n1 n2 n3
    generalize 2 ^ (53 + kk h) = P at *
    generalize 2 ^ (52 + kk (h + l)) = Q at *
    omega
  have hl := G_half (h + l)
  rw [hr, show h - (h + l) = -l by omega, Int.natAbs_neg] at hl
  exact Nat.le_trans hl (Nat.pow_le_pow_right (by decide) hk)
theorem pow_pred (k : Nat) (h : 0 < k) : 2 ^ k = 2 * 2 ^ (k - 1) := by rw [← Nat.pow_succ']; congr 1; omega
/-- A float that is added to a pair: what is put behind the sum is no greater than it. -/
theorem dw_order (h l x : Int) (fh : Fl h) (fl : Fl l) (fx : Fl x) (hr : G (h + l) = h) :
    (G (h + x - G (h + x) + l)).natAbs ≤ (G (h + x)).natAbs ∨ G (h + x) = 0 := by
  by_cases h0 : G (h + x) = 0
  · exact .inr h0
  refine .inl ?_
  have hl := lo_half h l fl hr
  have ht := G_half (h + x)
  have hrel := G_rel (h + x)
  obtain ⟨t, htE⟩ : ∃ t, t = h + x - G (h + x) := ⟨_, rfl⟩
  rw [show (G (h + x) - (h + x)).natAbs = t.natAbs by omega] at ht hrel
  rw [← htE]
  have hle := (G_le (t + l)).1
  by_cases hx : kk h ≤ kk x + 1
  · have dE : Dv (min (kk h) (kk x)) (h + x) := ((fl_dv fh).low (Nat.min_le_left _ _)).add ((fl_dv fx).low (Nat.min_le_right _ _))
    by_cases hk : kk (h + x) ≤ min (kk h) (kk x)
    · have hs := G_fix (fl_of_dv dE hk)
      have ht0 : t = 0 := by rw [htE, hs]; omega
      rw [ht0, Int.zero_add, G_fix fl, hs]
      rw [hs] at h0
      have hge : 2 ^ min (kk h) (kk x) ≤ (h + x).natAbs := by
        rcases Nat.lt_or_ge (h + x).natAbs (2 ^ min (kk h) (kk x)) with q | q
        · exact absurd (small_zero dE q) h0
        · exact q
      rcases Nat.eq_zero_or_pos (kk h) with q | q
      · rw [q] at hl; simp at hl; omega
      · rw [pow_pred _ q] at hl
        have : 2 ^ (kk h - 1) ≤ 2 ^ min (kk h) (kk x) := Nat.pow_le_pow_right (by decide) (by omega)
        omega
    · have hge := kk_ge (h + x) (by omega)
      rw [show 52 + kk (h + x) = kk (h + x) + 52 by omega, Nat.pow_add, show (2 : Nat) ^ 52 = 4503599627370496 by decide] at hge
      have hle2 : 2 ^ kk h ≤ 2 ^ kk (h + x) := Nat.pow_le_pow_right (by decide) (by omega)
      generalize 2 ^ kk (h + x) = g at *
      generalize 2 ^ kk h = g' at *
      omega
  · have h1 := kk_lt x
    have h2 := kk_ge h (by omega)
    have h3 : 2 ^ (53 + kk x) ≤ 2 ^ (kk h + 51) := Nat.pow_le_pow_right (by decide) (by omega)
    rw [show 52 + kk h = kk h + 52 by omega, Nat.pow_add, show (2 : Nat) ^ 52 = 4503599627370496 by decide] at h2
    rw [Nat.pow_add 2 (kk h) 51, show (2 : Nat) ^ 51 = 2251799813685248 by decide] at h3
    generalize 2 ^ (53 + kk x) = p at *
    generalize 2 ^ kk h = g at *
    omega
/-- One step: the error. -/
theorem dw_err (h l x : Int) (hr : G (h + l) = h) : 81129638414606681695789005144064 * (G (h + x - G (h + x) + l) - (h + x - G (h + x) + l)).natAbs ≤ (h + x).natAbs + (h + l).natAbs := by
  have e1 := G_rel (h + x)
  have e2 := G_rel (h + l)
  rw [hr] at e2
  have e3 := G_rel (h + x - G (h + x) + l)
  generalize G (h + x - G (h + x) + l) = c at *
  generalize G (h + x) = s at *
  omega
theorem fo_word {a b n : Nat} (ha : bd a n) (hb : bd b n) (hn : n ≤ 2090) {r : Nat} (h : fo .add a b = some r) : r < 18446744073709551616 ∧ bd r (n + 2) ∧ V r = G (V a + V b) := by
  obtain ⟨r', e, h1, h2, h3⟩ := fo_G_add ha hb hn
  rw [h] at e
  obtain rfl := Option.some.inj e
  exact ⟨h1, h2, h3⟩
/-- A pair and a float, added. -/
theorem sumP_near {h l x n : Nat} (hn : n ≤ 2030) (bh : bd h n) (bl : bd l n) (bx : bd x n) (hr : G (V h + V l) = V h) :
    ∃ p q, sumP h l x 0 = some (p, q) ∧ EP.finB p = true ∧ EP.finB q = true ∧ p < 18446744073709551616 ∧ q < 18446744073709551616 ∧ G (V p + V q) = V p ∧
      81129638414606681695789005144064 * (V p + V q - (V h + V l + V x)).natAbs ≤ (V h + V x).natAbs + (V h + V l).natAbs := by
  have b0 : bd 0 n := ⟨by decide, by rw [V_zero]; exact Nat.zero_le _⟩
  obtain ⟨s, t, e1, bs, bt, v1, v2, -, -⟩ := twoSum_W bh bx (by omega)
  obtain ⟨u, v, e2, bu, bv, v3, v4, -, -⟩ := twoSum_W bl b0 (by omega)
  have fl := V_fl l bl.1
  rw [V_zero, Int.add_zero, G_fix fl] at v3
  rw [V_zero, v3] at v4
  obtain ⟨c, e3, -, bc, v5⟩ := fo_G_add (bt.mono (show n + 10 ≤ n + 10 from Nat.le_refl _)) (bu.mono (show n + 2 ≤ n + 10 by omega)) (by omega)
  rw [v3, v2, v1] at v5
  have hord := dw_order (V h) (V l) (V x) (V_fl h bh.1) fl (V_fl x bx.1) hr
  have herr := dw_err (V h) (V l) (V x) hr
  rw [← v5, ← v1] at hord
  rw [← v1] at v5 herr
  rw [← v5] at herr
  obtain ⟨a, b, e4, ba, bb, v6, v7, -, -⟩ := fast_W (bs.mono (show n + 2 ≤ n + 12 by omega)) (bc.mono (show n + 10 + 2 ≤ n + 12 by omega)) (by omega)
  have v7 := v7 hord
  obtain ⟨d, e5, -, bd', v8⟩ := fo_G_add (bv.mono (show n + 10 ≤ n + 18 by omega)) (bb.mono (show n + 12 + 6 ≤ n + 18 by omega)) (by omega)
  have fb := V_fl b bb.1
  have hv0 : V v = 0 := by omega
  rw [hv0, Int.zero_add, G_fix fb] at v8
  have hsum : V a + V b = V s + V c := by omega
  have hab : (V b).natAbs ≤ (V a).natAbs ∨ V a = 0 := by
    have := rest_le (V s + V c)
    rw [← v6, show V s + V c - V a = V b by omega] at this
    exact this
  obtain ⟨p, q, e6, bp, bq, v9, v10, w1, w2⟩ := fast_W (ba.mono (show n + 12 + 2 ≤ n + 20 by omega)) (bd'.mono (show n + 18 + 2 ≤ n + 20 by omega)) (by omega)
  rw [v8] at v9 v10
  have v10 := v10 hab
  have hpq : V p + V q = V s + V c := by omega
  refine ⟨p, q, by simp only [sumP, e1, e2, e3, e4, e5, e6, Option.bind_some], bp.1, bq.1, w1, w2, ?_, ?_⟩
  · rw [hpq, ← hsum]; exact v9.symm
  · have e : V p + V q - (V h + V l + V x) = V c - (V h + V x - V s + V l) := by omega
    rw [e]; exact herr
/-- What a pair is off, behind k floats whose amounts are A together. -/
def offB (P S : Int) (k A : Nat) : Prop := 5070602400912917605986812821504 * (P - S).natAbs ≤ k * A
theorem off_size {P S : Int} {k A : Nat} (h : offB P S k A) (hS : S.natAbs ≤ A) (hk : k ≤ 1024) : P.natAbs ≤ 2 * A := by
  unfold offB at h
  have : k * A ≤ 1024 * A := Nat.mul_le_mul_right _ hk
  omega
theorem off_step {P S x P' : Int} {h : Int} {k A : Nat} (ho : offB P S k A) (hS : S.natAbs ≤ A) (hk : k + 1 ≤ 1024) (hh : h.natAbs ≤ 4 * A) (he : 81129638414606681695789005144064 * (P' - (P + x)).natAbs ≤ (h + x).natAbs + P.natAbs) : offB P' (S + x) (k + 1) (A + x.natAbs) := by
  have hP := off_size ho hS (by omega)
  unfold offB at *
  have h1 : (k + 1) * (A + x.natAbs) = k * A + (k * x.natAbs + (A + x.natAbs)) := by rw [Nat.add_mul, Nat.one_mul, Nat.mul_add]; omega
  rw [h1]
  generalize k * A = Z at *
  generalize k * x.natAbs = Y at *
  omega
theorem foldS_near (M m : Nat) (hm : m ≤ 2020) (hM : 4 * M ≤ 2 ^ m) : ∀ (l : List Nat) (s t : Nat) (S : Int) (k A : Nat), (∀ x ∈ l, EP.finB x = true) → EP.finB s = true → EP.finB t = true → s < 18446744073709551616 → t < 18446744073709551616 → k + l.length ≤ 1024 → A + tot l ≤ M → G (V s + V t) = V s → S.natAbs ≤ A → offB (V s + V t) S k A →
    ∃ p q, foldS l s t = some (p, q) ∧ EP.finB p = true ∧ EP.finB q = true ∧ p < 18446744073709551616 ∧ q < 18446744073709551616 ∧ G (V p + V q) = V p ∧ offB (V p + V q) (S + sv l) (k + l.length) (A + tot l) := by
  intro l
  induction l with
  | nil => intro s t S k A _ fs ft ws wt _ _ hr _ ho; exact ⟨s, t, rfl, fs, ft, ws, wt, hr, by simpa [sv, tot] using ho⟩
  | cons x l ih =>
    intro s t S k A hl fs ft _ _ hk hA hr hS ho
    rw [List.length_cons] at hk
    simp only [tot] at hA
    have fx := hl x (List.mem_cons_self ..)
    have hP := off_size ho hS (by omega)
    have hG := G_le (V s + V t)
    rw [hr] at hG
    have bs : bd s m := ⟨fs, by omega⟩
    have bt : bd t m := ⟨ft, by omega⟩
    have bx : bd x m := ⟨fx, by have : (V x).natAbs = amt x := rfl; omega⟩
    obtain ⟨p, q, e, fp, fq, wp, wq, hr', he⟩ := sumP_near (by omega) bs bt bx hr
    have ho' := off_step ho hS (by omega) (show (V s).natAbs ≤ 4 * A by omega) he
    have hS' : (S + V x).natAbs ≤ A + amt x := by have : (V x).natAbs = amt x := rfl; omega
    obtain ⟨p', q', e', r1, r2, r3, r4, r5, r6⟩ := ih p q (S + V x) (k + 1) (A + amt x) (fun y hy => hl y (List.mem_cons_of_mem _ hy)) fp fq wp wq (by omega) (by omega) hr' hS' ho'
    refine ⟨p', q', ?_, r1, r2, r3, r4, r5, ?_⟩
    · show (sumP s t x 0).bind _ = _
      rw [e]; exact e'
    · simp only [sv, tot, List.length_cons]
      rw [show S + (V x + sv l) = S + V x + sv l by omega, show k + (l.length + 1) = k + 1 + l.length by omega, show A + (amt x + tot l) = A + amt x + tot l by omega]
      exact r6
end Go.Proofs.Ytlbaphijmonjoaa.Fp

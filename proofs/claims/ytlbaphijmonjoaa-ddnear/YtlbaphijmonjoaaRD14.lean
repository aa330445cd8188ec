/- The document's dyadic numbers: the difference. -/
import Derived.Test.YtlbaphijmonjoaaRD13
import Derived.Test.YtlbaphijmonjoaaRD4
namespace Go.Proofs.Ytlbaphijmonjoaa
open Go.RowKit

theorem form_expc (s : Bool) (m : Nat) (e : Int) (hb : blen m ≤ 5000000) (he : -5000000 ≤ e ∧ e ≤ 5000000) : -10000000 ≤ (formD s m e).2.2 ∧ (formD s m e).2.2 ≤ 10000000 := by
  by_cases h0 : m = 0
  · rw [h0, form_zero]; exact ⟨by decide, by decide⟩
  · rw [form_pos s h0]
    have := tz_le_blen m
    show _ ≤ e + (tz m : Int) ∧ e + (tz m : Int) ≤ _
    omega
attribute [local go_sem ↓] Go.wp_at_zero Go.wp_at_succ

set_option maxRecDepth 100000 in
set_option maxHeartbeats 4000000 in
theorem qLess_calls (s : Bool) (a : Option Addr) (len cap : Nat) (xs : List Int) (e : Int) (t : Bool) (b : Option Addr) (len' cap' : Nat) (ys : List Int) (f : Int) (w : World) (h : IsW w a len cap xs) (hm : len ≤ 17592186044000) (h' : IsW w b len' cap' ys) (hm' : len' ≤ 17592186044000) (he : -5000000 ≤ e ∧ e ≤ 5000000) (hf : -5000000 ≤ f ∧ f ≤ 5000000) (hbx : blen (val xs) ≤ 5000000) (hby : blen (val ys) ≤ 5000000) :
    Calls Try.prog 13 #[dyV s a len cap e, dyV t b len' cap' f] w fun r w' => ∃ v', r = .returned v' ∧ DyQ w.heap.size w' v' (sumD (formD s (val xs) e) (formD (!t) (val ys) f)) ∧ Below w.heap.size w w' := by
  have HN : Hid _ := fun w' g => qNeg_calls t b len' cap' ys f w' g hm' (by omega)
  have hyb : blen (formD (!t) (val ys) f).2.1 ≤ 5000000 := Nat.le_trans (blen_mono (form_amount_le _ _ _)) hby
  have hye := form_expc (!t) (val ys) f hby hf
  have hcy := form_of_can (form_can (!t) (val ys) f)
  generalize formD (!t) (val ys) f = y at *
  have hyl : (wordsOf y.2.1).length ≤ 100000 := (words_len2 _ _).2 (by omega)
  have HP : Hid _ := fun a' n' c' w' g (q : n' ≤ 100000) g' => qPlus_calls s a len cap xs e y.1 a' n' c' (wordsOf y.2.1) y.2.2 w' g hm g' (by omega) (by omega) (by omega) (by omega) (by rw [val_words]; omega)
  rw [val_words, hcy] at HP
  have HYL : Hid _ := hyl
  generalize sumD (formD s (val xs) e) y = p at *
  have H1 : Hid (IsW w a len cap xs) := h
  have H2 : Hid (IsW w b len' cap' ys) := h'
  clear hm hm' he hf h h' hbx hby hyb hye hcy hyl
  have bw0 : Below w.heap.size w (((w.alloc (.cells #[.bool s, .slice a len cap, .int .i64 e] 30)).alloc (.cells #[.bool t, .slice b len' cap', .int .i64 f] 30)).alloc (.cells #[.bool false, .slice none 0 0, .int .i64 0] 30)) := by repeat (first | exact Below.refl _ _ | refine bl_alloc ?_ _)
  have k0 : (((w.alloc (.cells #[.bool s, .slice a len cap, .int .i64 e] 30)).alloc (.cells #[.bool t, .slice b len' cap', .int .i64 f] 30)).alloc (.cells #[.bool false, .slice none 0 0, .int .i64 0] 30)).cell? ⟨w.heap.size, 0, none⟩ = some (.bool s) := by go_simp
  have k1 : (((w.alloc (.cells #[.bool s, .slice a len cap, .int .i64 e] 30)).alloc (.cells #[.bool t, .slice b len' cap', .int .i64 f] 30)).alloc (.cells #[.bool false, .slice none 0 0, .int .i64 0] 30)).cell? ⟨w.heap.size, 1, none⟩ = some (.slice a len cap) := by go_simp
  have k2 : (((w.alloc (.cells #[.bool s, .slice a len cap, .int .i64 e] 30)).alloc (.cells #[.bool t, .slice b len' cap', .int .i64 f] 30)).alloc (.cells #[.bool false, .slice none 0 0, .int .i64 0] 30)).cell? ⟨w.heap.size, 2, none⟩ = some (.int .i64 e) := by go_simp
  have k3 : (((w.alloc (.cells #[.bool s, .slice a len cap, .int .i64 e] 30)).alloc (.cells #[.bool t, .slice b len' cap', .int .i64 f] 30)).alloc (.cells #[.bool false, .slice none 0 0, .int .i64 0] 30)).cell? ⟨w.heap.size + 1, 0, none⟩ = some (.bool t) := by go_simp
  have k4 : (((w.alloc (.cells #[.bool s, .slice a len cap, .int .i64 e] 30)).alloc (.cells #[.bool t, .slice b len' cap', .int .i64 f] 30)).alloc (.cells #[.bool false, .slice none 0 0, .int .i64 0] 30)).cell? ⟨w.heap.size + 1, 1, none⟩ = some (.slice b len' cap') := by go_simp
  have k5 : (((w.alloc (.cells #[.bool s, .slice a len cap, .int .i64 e] 30)).alloc (.cells #[.bool t, .slice b len' cap', .int .i64 f] 30)).alloc (.cells #[.bool false, .slice none 0 0, .int .i64 0] 30)).cell? ⟨w.heap.size + 1, 2, none⟩ = some (.int .i64 f) := by go_simp
  obtain ⟨m0, m1, m2, f0, f1, f2⟩ := zero_dy (w := ((w.alloc (.cells #[.bool s, .slice a len cap, .int .i64 e] 30)).alloc (.cells #[.bool t, .slice b len' cap', .int .i64 f] 30))) (r := w.heap.size + 1 + 1) (W' := (((w.alloc (.cells #[.bool s, .slice a len cap, .int .i64 e] 30)).alloc (.cells #[.bool t, .slice b len' cap', .int .i64 f] 30)).alloc (.cells #[.bool false, .slice none 0 0, .int .i64 0] 30))) (Below.refl _ _) (by simp)
  have HS0 : Hid ((((w.alloc (.cells #[.bool s, .slice a len cap, .int .i64 e] 30)).alloc (.cells #[.bool t, .slice b len' cap', .int .i64 f] 30)).alloc (.cells #[.bool false, .slice none 0 0, .int .i64 0] 30)).heap.size = w.heap.size + 1 + 1 + 1) := by simp [Hid]
  go_enter Try.func13, Try.ntmps13
  go_upto_region 1 with fail
  generalize (((w.alloc (.cells #[.bool s, .slice a len cap, .int .i64 e] 30)).alloc (.cells #[.bool t, .slice b len' cap', .int .i64 f] 30)).alloc (.cells #[.bool false, .slice none 0 0, .int .i64 0] 30)) = w0 at *
  have bw : Below w0.heap.size w0 w0.drew := (Below.refl _ _).drew
  refine wp_region_held (S := fun w' => w'.cell? ⟨w.heap.size, 0, none⟩ = some (.bool s) ∧ w'.cell? ⟨w.heap.size, 1, none⟩ = some (.slice a len cap) ∧ w'.cell? ⟨w.heap.size, 2, none⟩ = some (.int .i64 e) ∧ w'.cell? ⟨w.heap.size + 1, 0, none⟩ = some (.bool t) ∧ w'.cell? ⟨w.heap.size + 1, 1, none⟩ = some (.slice b len' cap') ∧ w'.cell? ⟨w.heap.size + 1, 2, none⟩ = some (.int .i64 f)) (by kernel_rfl) ?_
  change wpAnyH _ _ _ _ _ _ _ _ (World.drew w0)
  replace k0 := dcarry_cell bw k0
  replace k1 := dcarry_cell bw k1
  replace k2 := dcarry_cell bw k2
  replace k3 := dcarry_cell bw k3
  replace k4 := dcarry_cell bw k4
  replace k5 := dcarry_cell bw k5
  replace f0 := dcarry_frozen bw m0 f0
  replace f1 := dcarry_frozen bw m1 f1
  replace f2 := dcarry_frozen bw m2 f2
  replace m0 := dcarry_cell bw m0
  replace m1 := dcarry_cell bw m1
  replace m2 := dcarry_cell bw m2
  generalize World.drew w0 = wd at *
  refine wpAnyH_take (i := 0) (v := .agg #[.bool s, .slice a len cap, .int .i64 e]) rfl (by kernel_rfl) (by kernel_rfl) (by kernel_rfl) (fun _ _ _ h => h) (Or.inl ⟨by rfl, ?y0⟩) ⟨k0, k1, k2, k3, k4, k5⟩ ?r0
  case y0 => (rintro ww ⟨q0, q1, q2, q3, q4, q5⟩; go_simp)
  try simp only [Act.put]
  refine wpAnyH_take (i := 1) (v := .agg #[.bool t, .slice b len' cap', .int .i64 f]) rfl (by kernel_rfl) (by kernel_rfl) (by kernel_rfl) (fun _ _ _ h => h) (Or.inl ⟨by rfl, ?y1⟩) ⟨k0, k1, k2, k3, k4, k5⟩ ?r1
  case y1 => (rintro ww ⟨q0, q1, q2, q3, q4, q5⟩; go_simp)
  try simp only [Act.put]
  refine wpAnyH_ready (rs := [2]) (by kernel_rfl) (by simp) ?_
  refine AllReadyH.cons rfl (fun K hK => ?_) AllReadyH.nil
  go_simp
  refine Calls.mono (HN.out _ (H2.out.keep (nbelow_trans bw0 bw))) ?_
  rintro r w1 ⟨_, rfl, ⟨a1, n1, c1, rfl, HN1, hO1⟩, b1⟩
  replace k0 := dcarry_cell b1 k0
  replace k1 := dcarry_cell b1 k1
  replace k2 := dcarry_cell b1 k2
  replace k3 := dcarry_cell b1 k3
  replace k4 := dcarry_cell b1 k4
  replace k5 := dcarry_cell b1 k5
  refine hK.out _ _ ⟨k0, k1, k2, k3, k4, k5⟩ (fun _ => ?_)
  clear hK K
  replace f0 := dcarry_frozen b1 m0 f0
  replace f1 := dcarry_frozen b1 m1 f1
  replace f2 := dcarry_frozen b1 m2 f2
  replace m0 := dcarry_cell b1 m0
  replace m1 := dcarry_cell b1 m1
  replace m2 := dcarry_cell b1 m2
  replace bw := nbelow_trans bw b1
  have hn1 : n1 ≤ 100000 := by rw [HN1.out]; exact HYL.out
  have HI1 := hO1.1
  clear b1 hO1 HN1
  try simp only [Act.put, List.setIfInBounds_toArray, List.set_cons_zero, List.set_cons_succ]
  refine wpAnyH_ready (rs := [3]) (by kernel_rfl) (by simp) ?_
  refine AllReadyH.cons rfl (fun K hK => ?_) AllReadyH.nil
  go_simp
  refine Calls.mono (HP.out _ _ _ _ (H1.out.keep (nbelow_trans bw0 bw)) hn1 HI1) ?_
  rintro r w2 ⟨_, rfl, ⟨a2, n2, c2, rfl, HN2, hO2⟩, b2⟩
  replace k0 := dcarry_cell b2 k0
  replace k1 := dcarry_cell b2 k1
  replace k2 := dcarry_cell b2 k2
  replace k3 := dcarry_cell b2 k3
  replace k4 := dcarry_cell b2 k4
  replace k5 := dcarry_cell b2 k5
  refine hK.out _ _ ⟨k0, k1, k2, k3, k4, k5⟩ (fun _ => ?_)
  clear hK K
  replace f0 := dcarry_frozen b2 m0 f0
  replace f1 := dcarry_frozen b2 m1 f1
  replace f2 := dcarry_frozen b2 m2 f2
  replace m0 := dcarry_cell b2 m0
  replace m1 := dcarry_cell b2 m1
  replace m2 := dcarry_cell b2 m2
  have hO2' := hO2.low bw.size
  replace bw := nbelow_trans bw b2
  have bwx := nbelow_trans bw0 bw
  clear b2 hO2 HI1 hn1
  try simp only [Act.put, List.setIfInBounds_toArray, List.set_cons_zero, List.set_cons_succ]
  refine wpAnyH_ready (rs := [4]) (by kernel_rfl) (by simp) ?_
  refine AllReadyH.cons rfl (fun K hK => ?_) AllReadyH.nil
  go_simp
  refine hK.out _ _ ⟨set3_cell k0 (by omega), set3_cell k1 (by omega), set3_cell k2 (by omega), set3_cell k3 (by omega), set3_cell k4 (by omega), set3_cell k5 (by omega)⟩ (fun _ => ?_)
  clear hK K
  try simp only [Act.put, List.setIfInBounds_toArray, List.set_cons_zero, List.set_cons_succ]
  refine wpAnyH_done (by kernel_rfl) ?_ _
  go_wp2_with fail
  refine bodyPost_ret (v := dyV p.1 a2 n2 c2 p.2.2) (by simp [results, Try.results13, go_sem, m0, m1, m2]) rfl ⟨_, rfl, ⟨a2, n2, c2, rfl, HN2, (((hO2'.far _ _ (by show w.heap.size + 1 + 1 < _; rw [HS0.out]; omega)).far _ _ (by show w.heap.size + 1 + 1 < _; rw [HS0.out]; omega)).far _ _ (by show w.heap.size + 1 + 1 < _; rw [HS0.out]; omega)).low (by rw [HS0.out]; omega)⟩, ((bwx.setCell (by show w.heap.size ≤ w.heap.size + 1 + 1; omega) _).setCell (by show w.heap.size ≤ w.heap.size + 1 + 1; omega) _).setCell (by show w.heap.size ≤ w.heap.size + 1 + 1; omega) _⟩
end Go.Proofs.Ytlbaphijmonjoaa

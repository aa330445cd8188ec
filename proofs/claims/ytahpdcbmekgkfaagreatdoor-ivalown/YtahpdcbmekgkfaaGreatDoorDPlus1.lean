/- The walks of sums of numbers: twice and one; level ones together. -/
import Derived.Test.YtahpdcbmekgkfaaGreatDoorAL
import Derived.Test.YtahpdcbmekgkfaaGreatDoorTMD
import Derived.Test.YtahpdcbmekgkfaaGreatDoorFX
namespace Go.Proofs.YtahpdcbmekgkfaaGreatDoor
open Go.RowKit
set_option maxHeartbeats 2000000
set_option maxRecDepth 100000
theorem great_one : greatB 1 = false := (great_not 1).2 (by have := (blen_le 1 1).2 (by decide); omega)
theorem shr1 {m : Nat} (h : greatB m = false) : shrQ m 1 = m / 2 ∧ shrL m 1 = lostB m 1 ∧ shrE m 1 = 0 := by
 obtain ⟨e1, e2, e3⟩ := shr_fit (u := m) (j := 1) h
 exact ⟨by simpa using e2, by simpa using e3, by simpa using e1⟩
theorem blen_twice (h : Nat) (h0 : h ≠ 0) : blen (2 * h) = 1 + blen h ∧ blen (2 * h + 1) = 1 + blen h := by
 have e1 := blen_shift 1 0 h (by decide) h0
 have e2 := blen_shift 1 1 h (by decide) h0
 rw [Nat.pow_one] at e1 e2
 rw [Nat.zero_add] at e1
 rw [Nat.add_comm 1] at e2
 exact ⟨e1, e2⟩
theorem shl1_cases (h : Nat) (hg : greatB h = false) : (shlR h 1 = (2 * h, 0) ∧ greatB (2 * h) = false) ∨ (shlR h 1 = (0, 3) ∧ greatB (2 * h + 1) = true) := by
 by_cases h0 : h = 0
 ·subst h0
  exact Or.inl ⟨shlR_zero hg (by decide) rfl, hg⟩
 ·obtain ⟨b1, b2⟩ := blen_twice h h0
  by_cases hc : 65536 - (blen h : Int) < 1
  ·exact Or.inr ⟨shlR_many hg (by decide) h0 hc, by rw [great_iff]; omega⟩
  ·refine Or.inl ⟨?_, by rw [great_not]; omega⟩
   rw [shlR_fit hg (by decide) h0 (by omega)]
   simp [Nat.mul_comm]
theorem halves_fit {mx my : Nat} (hx : greatB mx = false) (hy : greatB my = false) (hox : mx % 2 = 1) (hoy : my % 2 = 1) : greatB (mx / 2 + my / 2) = false ∧ greatB (mx / 2 + my / 2 + 1) = false := by
 have h2 : greatB (mx / 2 + my / 2 + 1) = false := by
  rcases Nat.le_total mx my with q | q
  ·exact great_mono (show mx / 2 + my / 2 + 1 ≤ my by omega) hy
  ·exact great_mono (show mx / 2 + my / 2 + 1 ≤ mx by omega) hx
 exact ⟨great_mono (Nat.le_succ _) h2, h2⟩
theorem halves_form (s : Bool) (mx my : Nat) (e : Int) (hox : mx % 2 = 1) (hoy : my % 2 = 1) : formD s (mx / 2 + my / 2 + 1) (e + 1) = formD s (mx + my) e := by
 have h := form_shift s (mx / 2 + my / 2 + 1) 1 e
 rw [Nat.pow_one, show (mx / 2 + my / 2 + 1) * 2 = mx + my by omega] at h
 rw [h]; rfl
theorem twice_fit (s : Bool) (a : Option Addr) (n c : Nat) (h : Nat) (e : Int) (w : World) (hI : IsW w a n c (wO h)) (hn : n ≤ 1024) (hg : greatB h = false) (he : -100000000 ≤ e ∧ e ≤ 100000000) (hT : Tab w) (h1 : shlR h 1 = (2 * h, 0)) (h2 : greatB (2 * h) = false) :
  Calls Tryz.prog 209 #[.bool s, .slice a n c, .int .i64 e] w fun r w' => ∃ v, r = .returned v ∧ NumR w.heap.size w' v (formD s (2 * h + 1) e) ∧ Below w.heap.size w w' := by
 obtain ⟨he1, he2⟩ := he
 have HG : Hid (greatB h = false) := hg
 have H1 : Hid (shlR h 1 = (2 * h, 0)) := h1
 have H2 : Hid (greatB (2 * h) = false) := h2
 clear hg h1 h2
 go_enter Tryz.func209, Tryz.ntmps209
 go_wp2_with fail
 have hz_0 : Below (w.alloc (.cells #[.bool false, .slice none 0 0, .int .i64 0, .bool false] 109)).heap.size (w.alloc (.cells #[.bool false, .slice none 0 0, .int .i64 0, .bool false] 109)) (w.alloc (.cells #[.bool false, .slice none 0 0, .int .i64 0, .bool false] 109)) := Below.refl _ _
 have hw_0 : Below w.heap.size w (w.alloc (.cells #[.bool false, .slice none 0 0, .int .i64 0, .bool false] 109)) := by repeat (first | exact Below.refl _ _ | refine Below.alloc ?_ (by simp; try omega) _)
 have hI_0 := hI.keep hw_0
 have hT_0 := hT.kept hw_0
 refine cM (shl_eq (i := 1) (r := 2 * h) (k := 0) hI_0 (by omega) (by rw [val_words]; exact H1.out)) ?_
 rintro r w_1 ⟨a1, n1, c1, rfl, HN1, hn1, hO1_1, hb_1⟩
 have hz_1 := nT hz_0 hb_1
 have hw_1 := nT hw_0 hb_1
 have hI_1 := hI_0.keep hb_1
 have hT_1 := hT_0.kept hb_1
 clear hz_0 hw_0 hI_0 hT_0 hb_1
 go_wp2_with fail
 refine cM (of_eq 1 _ (by decide)) ?_
 rintro r w_2 ⟨a2, n2, c2, rfl, HN2, hn2, hO2_2, hb_2⟩
 have hz_2 := nT hz_1 hb_2
 have hw_2 := nT hw_1 hb_2
 have hI_2 := hI_1.keep hb_2
 have hT_2 := hT_1.kept hb_2
 have hO1_2 := hO1_1.keep hb_2
 clear hz_1 hw_1 hI_1 hT_1 hO1_1 hb_2
 go_wp2_with fail
 refine cM (add_eq (r := (fitR (2 * h + 1)).1) (k := (fitR (2 * h + 1)).2) hO1_2.1 hO2_2.1 (by omega) (by omega) (by rw [val_words, val_words, addR_no (by rw [H2.out, great_one]; rfl)])) ?_
 rintro r w_3 ⟨a3, n3, c3, rfl, HN3, hn3, hO3_3, hb_3⟩
 have hz_3 := nT hz_2 hb_3
 have hw_3 := nT hw_2 hb_3
 have hI_3 := hI_2.keep hb_3
 have hT_3 := hT_2.kept hb_3
 have hO1_3 := hO1_2.keep hb_3
 have hO2_3 := hO2_2.keep hb_3
 clear hz_2 hw_2 hI_2 hT_2 hO1_2 hO2_2 hb_3
 have hsz : w.heap.size < w_3.heap.size := by have := hz_3.size; simp at this; omega
 go_wp2_with fail
 refine cM (reckoned_calls s a3 n3 c3 (2 * h + 1) e w_3 hO3_3.1 (by omega) hT_3 ⟨by omega, by omega⟩ (fun _ => by omega)) ?_
 rintro r w_4 ⟨v, rfl, hN, hb_4⟩
 have hz_4 := nT hz_3 hb_4
 have hw_4 := nT hw_3 hb_4
 have hI_4 := hI_3.keep hb_4
 have hT_4 := hT_3.kept hb_4
 have hO1_4 := hO1_3.keep hb_4
 have hO2_4 := hO2_3.keep hb_4
 have hO3_4 := hO3_3.keep hb_4
 clear hz_3 hw_3 hI_3 hT_3 hO1_3 hO2_3 hO3_3 hb_4
 rcases hN with ⟨hg, ao, nn, cc, rfl, HN, HZ, hnn, hO⟩ | ⟨hg, rfl⟩
 ·obtain ⟨m0, m1, m2, m3, f0, f1, f2, f3⟩ := zero_num (w := w) (r := w.heap.size) hz_4 rfl
  go_wp2_with fail
  refine bodyPost_ret (v := numV (formD s (2 * h + 1) e).1 ao nn cc (formD s (2 * h + 1) e).2.2 false) (by simp [results, Tryz.results209, go_sem, m0, m1, m2, m3]) rfl ?_
  exact ⟨_, rfl, Or.inl ⟨hg, ao, nn, cc, rfl, HN, HZ, hnn, ((((hO.far _ _ (by show w.heap.size < _; omega)).far _ _ (by show w.heap.size < _; omega)).far _ _ (by show w.heap.size < _; omega)).far _ _ (by show w.heap.size < _; omega)).low (by omega)⟩, (((hw_4.setCell (Nat.le_refl _) _).setCell (Nat.le_refl _) _).setCell (Nat.le_refl _) _).setCell (Nat.le_refl _) _⟩
 ·obtain ⟨m0, m1, m2, m3, f0, f1, f2, f3⟩ := zero_num (w := w) (r := w.heap.size) hz_4 rfl
  go_wp2_with fail
  refine bodyPost_ret (v := numV false none 0 0 0 true) (by simp [results, Tryz.results209, go_sem, m0, m1, m2, m3]) rfl ?_
  exact ⟨_, rfl, Or.inr ⟨hg, rfl⟩, (((hw_4.setCell (Nat.le_refl _) _).setCell (Nat.le_refl _) _).setCell (Nat.le_refl _) _).setCell (Nat.le_refl _) _⟩
theorem twice_many (s : Bool) (a : Option Addr) (n c : Nat) (h : Nat) (e : Int) (w : World) (hI : IsW w a n c (wO h)) (hn : n ≤ 1024) (h1 : shlR h 1 = (0, 3)) (h2 : greatB (2 * h + 1) = true) :
  Calls Tryz.prog 209 #[.bool s, .slice a n c, .int .i64 e] w fun r w' => ∃ v, r = .returned v ∧ NumR w.heap.size w' v (formD s (2 * h + 1) e) ∧ Below w.heap.size w w' := by
 have H1 : Hid (shlR h 1 = (0, 3)) := h1
 have H2 : Hid (greatB (formD s (2 * h + 1) e).2.1 = true) := by rw [Hid, form_odd s (by omega)]; exact h2
 clear h1 h2
 go_enter Tryz.func209, Tryz.ntmps209
 go_wp2_with fail
 have hz_0 : Below (w.alloc (.cells #[.bool false, .slice none 0 0, .int .i64 0, .bool false] 109)).heap.size (w.alloc (.cells #[.bool false, .slice none 0 0, .int .i64 0, .bool false] 109)) (w.alloc (.cells #[.bool false, .slice none 0 0, .int .i64 0, .bool false] 109)) := Below.refl _ _
 have hw_0 : Below w.heap.size w (w.alloc (.cells #[.bool false, .slice none 0 0, .int .i64 0, .bool false] 109)) := by repeat (first | exact Below.refl _ _ | refine Below.alloc ?_ (by simp; try omega) _)
 have hI_0 := hI.keep hw_0
 refine cM (shl_eq (i := 1) (r := 0) (k := 3) hI_0 (by omega) (by rw [val_words]; exact H1.out)) ?_
 rintro r w_1 ⟨a1, n1, c1, rfl, HN1, hn1, hO1_1, hb_1⟩
 have hz_1 := nT hz_0 hb_1
 have hw_1 := nT hw_0 hb_1
 have hI_1 := hI_0.keep hb_1
 clear hz_0 hw_0 hI_0 hb_1
 obtain ⟨m0, m1, m2, m3, f0, f1, f2, f3⟩ := zero_num (w := w) (r := w.heap.size) hz_1 rfl
 go_wp2_with fail
 refine bodyPost_ret (v := numV false none 0 0 0 true) (by simp [results, Tryz.results209, go_sem, m0, m1, m2, m3]) rfl ?_
 exact ⟨_, rfl, Or.inr ⟨H2.out, rfl⟩, (((hw_1.setCell (Nat.le_refl _) _).setCell (Nat.le_refl _) _).setCell (Nat.le_refl _) _).setCell (Nat.le_refl _) _⟩
theorem twice_calls (s : Bool) (a : Option Addr) (n c : Nat) (h : Nat) (e : Int) (w : World) (hI : IsW w a n c (wO h)) (hn : n ≤ 1024) (hg : greatB h = false) (he : -100000000 ≤ e ∧ e ≤ 100000000) (hT : Tab w) :
  Calls Tryz.prog 209 #[.bool s, .slice a n c, .int .i64 e] w fun r w' => ∃ v, r = .returned v ∧ NumR w.heap.size w' v (formD s (2 * h + 1) e) ∧ Below w.heap.size w w' := by
 rcases shl1_cases h hg with ⟨h1, h2⟩ | ⟨h1, h2⟩
 ·exact twice_fit s a n c h e w hI hn hg he hT h1 h2
 ·exact twice_many s a n c h e w hI hn h1 h2
theorem levelTogether_calls (sx : Bool) (ax : Option Addr) (nx cx : Nat) (mx : Nat) (ex : Int) (sy : Bool) (ay : Option Addr) (ny cy : Nat) (my : Nat) (ey : Int) (w : World) (hIx : IsW w ax nx cx (wO mx)) (hnx : nx ≤ 1024) (hgx : greatB mx = false) (hex : -100000000 ≤ ex ∧ ex ≤ 100000000) (hIy : IsW w ay ny cy (wO my)) (hny : ny ≤ 1024) (hgy : greatB my = false) (hey : -100000000 ≤ ey ∧ ey ≤ 100000000) (hT : Tab w) (hox : mx % 2 = 1) (hoy : my % 2 = 1) :
  Calls Tryz.prog 207 #[numV sx ax nx cx ex false, numV sy ay ny cy ey false] w fun r w' => ∃ v, r = .returned v ∧ NumR w.heap.size w' v (formD sx (mx + my) ex) ∧ Below w.heap.size w w' := by
 obtain ⟨hex1, hex2⟩ := hex
 obtain ⟨hey1, hey2⟩ := hey
 have HGX : Hid (greatB mx = false) := hgx
 have HGY : Hid (greatB my = false) := hgy
 have HS : Hid (greatB (mx / 2 + my / 2) = false ∧ greatB (mx / 2 + my / 2 + 1) = false) := halves_fit hgx hgy hox hoy
 have HF : Hid (formD sx (mx / 2 + my / 2 + 1) (ex + 1) = formD sx (mx + my) ex) := halves_form sx mx my ex hox hoy
 clear hgx hgy hox hoy
 go_enter Tryz.func207, Tryz.ntmps207
 go_wp2_with fail
 obtain ⟨hz_0, hw_0⟩ := dpZ w sx ax nx cx ex sy ay ny cy ey _ rfl
 obtain ⟨kx0_0, kx1_0, kx2_0, kx3_0, ky0_0, ky1_0, ky2_0, ky3_0⟩ := fX1 w sx ax nx cx ex sy ay ny cy ey _ rfl
 have hIx_0 := hIx.keep hw_0
 have hIy_0 := hIy.keep hw_0
 have hT_0 := hT.kept hw_0
 refine cM (shr_eq (i := 1) (r := mx / 2) (l := lostB mx 1) (k := 0) hIx_0 (by omega) (by omega) (by rw [val_words]; exact (shr1 HGX.out).1) (by rw [val_words]; exact (shr1 HGX.out).2.1) (by rw [val_words]; exact (shr1 HGX.out).2.2)) ?_
 rintro r w_1 ⟨a1, n1, c1, rfl, HN1, hn1, hO1_1, hb_1⟩
 have hz_1 := nT hz_0 hb_1
 have hw_1 := nT hw_0 hb_1
 have kx0_1 := kC hb_1 kx0_0
 have kx1_1 := kC hb_1 kx1_0
 have kx2_1 := kC hb_1 kx2_0
 have kx3_1 := kC hb_1 kx3_0
 have ky0_1 := kC hb_1 ky0_0
 have ky1_1 := kC hb_1 ky1_0
 have ky2_1 := kC hb_1 ky2_0
 have ky3_1 := kC hb_1 ky3_0
 have hIx_1 := hIx_0.keep hb_1
 have hIy_1 := hIy_0.keep hb_1
 have hT_1 := hT_0.kept hb_1
 clear hz_0 hw_0 kx0_0 kx1_0 kx2_0 kx3_0 ky0_0 ky1_0 ky2_0 ky3_0 hIx_0 hIy_0 hT_0 hb_1
 go_wp2_with fail
 refine cM (shr_eq (i := 1) (r := my / 2) (l := lostB my 1) (k := 0) hIy_1 (by omega) (by omega) (by rw [val_words]; exact (shr1 HGY.out).1) (by rw [val_words]; exact (shr1 HGY.out).2.1) (by rw [val_words]; exact (shr1 HGY.out).2.2)) ?_
 rintro r w_2 ⟨a2, n2, c2, rfl, HN2, hn2, hO2_2, hb_2⟩
 have hz_2 := nT hz_1 hb_2
 have hw_2 := nT hw_1 hb_2
 have kx0_2 := kC hb_2 kx0_1
 have kx1_2 := kC hb_2 kx1_1
 have kx2_2 := kC hb_2 kx2_1
 have kx3_2 := kC hb_2 kx3_1
 have ky0_2 := kC hb_2 ky0_1
 have ky1_2 := kC hb_2 ky1_1
 have ky2_2 := kC hb_2 ky2_1
 have ky3_2 := kC hb_2 ky3_1
 have hIx_2 := hIx_1.keep hb_2
 have hIy_2 := hIy_1.keep hb_2
 have hT_2 := hT_1.kept hb_2
 have hO1_2 := hO1_1.keep hb_2
 clear hz_1 hw_1 kx0_1 kx1_1 kx2_1 kx3_1 ky0_1 ky1_1 ky2_1 ky3_1 hIx_1 hIy_1 hT_1 hO1_1 hb_2
 go_wp2_with fail
 refine cM (add_eq (r := mx / 2 + my / 2) (k := 0) hO1_2.1 hO2_2.1 (by omega) (by omega) (by rw [val_words, val_words, addR_no (by rw [great_mono (Nat.div_le_self mx 2) HGX.out, great_mono (Nat.div_le_self my 2) HGY.out]; rfl), fitR_no HS.out.1])) ?_
 rintro r w_3 ⟨a3, n3, c3, rfl, HN3, hn3, hO3_3, hb_3⟩
 have hz_3 := nT hz_2 hb_3
 have hw_3 := nT hw_2 hb_3
 have kx0_3 := kC hb_3 kx0_2
 have kx1_3 := kC hb_3 kx1_2
 have kx2_3 := kC hb_3 kx2_2
 have kx3_3 := kC hb_3 kx3_2
 have ky0_3 := kC hb_3 ky0_2
 have ky1_3 := kC hb_3 ky1_2
 have ky2_3 := kC hb_3 ky2_2
 have ky3_3 := kC hb_3 ky3_2
 have hIx_3 := hIx_2.keep hb_3
 have hIy_3 := hIy_2.keep hb_3
 have hT_3 := hT_2.kept hb_3
 have hO1_3 := hO1_2.keep hb_3
 have hO2_3 := hO2_2.keep hb_3
 clear hz_2 hw_2 kx0_2 kx1_2 kx2_2 kx3_2 ky0_2 ky1_2 ky2_2 ky3_2 hIx_2 hIy_2 hT_2 hO1_2 hO2_2 hb_3
 go_wp2_with fail
 refine cM (of_eq 1 _ (by decide)) ?_
 rintro r w_4 ⟨a4, n4, c4, rfl, HN4, hn4, hO4_4, hb_4⟩
 have hz_4 := nT hz_3 hb_4
 have hw_4 := nT hw_3 hb_4
 have kx0_4 := kC hb_4 kx0_3
 have kx1_4 := kC hb_4 kx1_3
 have kx2_4 := kC hb_4 kx2_3
 have kx3_4 := kC hb_4 kx3_3
 have ky0_4 := kC hb_4 ky0_3
 have ky1_4 := kC hb_4 ky1_3
 have ky2_4 := kC hb_4 ky2_3
 have ky3_4 := kC hb_4 ky3_3
 have hIx_4 := hIx_3.keep hb_4
 have hIy_4 := hIy_3.keep hb_4
 have hT_4 := hT_3.kept hb_4
 have hO1_4 := hO1_3.keep hb_4
 have hO2_4 := hO2_3.keep hb_4
 have hO3_4 := hO3_3.keep hb_4
 clear hz_3 hw_3 kx0_3 kx1_3 kx2_3 kx3_3 ky0_3 ky1_3 ky2_3 ky3_3 hIx_3 hIy_3 hT_3 hO1_3 hO2_3 hO3_3 hb_4
 go_wp2_with fail
 refine cM (add_eq (r := (fitR (mx / 2 + my / 2 + 1)).1) (k := (fitR (mx / 2 + my / 2 + 1)).2) hO3_4.1 hO4_4.1 (by omega) (by omega) (by rw [val_words, val_words, addR_no (by rw [HS.out.1, great_one]; rfl)])) ?_
 rintro r w_5 ⟨a5, n5, c5, rfl, HN5, hn5, hO5_5, hb_5⟩
 have hz_5 := nT hz_4 hb_5
 have hw_5 := nT hw_4 hb_5
 have kx0_5 := kC hb_5 kx0_4
 have kx1_5 := kC hb_5 kx1_4
 have kx2_5 := kC hb_5 kx2_4
 have kx3_5 := kC hb_5 kx3_4
 have ky0_5 := kC hb_5 ky0_4
 have ky1_5 := kC hb_5 ky1_4
 have ky2_5 := kC hb_5 ky2_4
 have ky3_5 := kC hb_5 ky3_4
 have hIx_5 := hIx_4.keep hb_5
 have hIy_5 := hIy_4.keep hb_5
 have hT_5 := hT_4.kept hb_5
 have hO1_5 := hO1_4.keep hb_5
 have hO2_5 := hO2_4.keep hb_5
 have hO3_5 := hO3_4.keep hb_5
 have hO4_5 := hO4_4.keep hb_5
 clear hz_4 hw_4 kx0_4 kx1_4 kx2_4 kx3_4 ky0_4 ky1_4 ky2_4 ky3_4 hIx_4 hIy_4 hT_4 hO1_4 hO2_4 hO3_4 hO4_4 hb_5
 have hsz : w.heap.size + 1 + 1 < w_5.heap.size := by have := hz_5.size; simp at this; omega
 go_wp2_with fail
 refine cM (reckoned_calls sx a5 n5 c5 (mx / 2 + my / 2 + 1) (ex + 1) w_5 hO5_5.1 (by omega) hT_5 ⟨by omega, by omega⟩ (fun q => by rw [HS.out.2] at q; cases q)) ?_
 rintro r w_6 ⟨v, rfl, hN, hb_6⟩
 have hz_6 := nT hz_5 hb_6
 have hw_6 := nT hw_5 hb_6
 have kx0_6 := kC hb_6 kx0_5
 have kx1_6 := kC hb_6 kx1_5
 have kx2_6 := kC hb_6 kx2_5
 have kx3_6 := kC hb_6 kx3_5
 have ky0_6 := kC hb_6 ky0_5
 have ky1_6 := kC hb_6 ky1_5
 have ky2_6 := kC hb_6 ky2_5
 have ky3_6 := kC hb_6 ky3_5
 have hIx_6 := hIx_5.keep hb_6
 have hIy_6 := hIy_5.keep hb_6
 have hT_6 := hT_5.kept hb_6
 have hO1_6 := hO1_5.keep hb_6
 have hO2_6 := hO2_5.keep hb_6
 have hO3_6 := hO3_5.keep hb_6
 have hO4_6 := hO4_5.keep hb_6
 have hO5_6 := hO5_5.keep hb_6
 clear hz_5 hw_5 kx0_5 kx1_5 kx2_5 kx3_5 ky0_5 ky1_5 ky2_5 ky3_5 hIx_5 hIy_5 hT_5 hO1_5 hO2_5 hO3_5 hO4_5 hO5_5 hb_6
 rw [HF.out] at hN
 rcases hN with ⟨hg, ao, nn, cc, rfl, HN, HZ, hnn, hO⟩ | ⟨hg, rfl⟩
 ·obtain ⟨m0, m1, m2, m3, f0, f1, f2, f3⟩ := zero_num (w := ((w.alloc (.cells #[.bool sx, .slice ax nx cx, .int .i64 ex, .bool false] 109)).alloc (.cells #[.bool sy, .slice ay ny cy, .int .i64 ey, .bool false] 109))) (r := w.heap.size + 1 + 1) hz_6 (by simp)
  go_wp2_with fail
  refine bodyPost_ret (v := numV (formD sx (mx + my) ex).1 ao nn cc (formD sx (mx + my) ex).2.2 false) (by simp [results, Tryz.results207, go_sem, m0, m1, m2, m3]) rfl ?_
  exact ⟨_, rfl, Or.inl ⟨hg, ao, nn, cc, rfl, HN, HZ, hnn, ((((hO.far _ _ (by show w.heap.size + 1 + 1 < _; omega)).far _ _ (by show w.heap.size + 1 + 1 < _; omega)).far _ _ (by show w.heap.size + 1 + 1 < _; omega)).far _ _ (by show w.heap.size + 1 + 1 < _; omega)).low (by omega)⟩, (((hw_6.setCell (le2 _) _).setCell (le2 _) _).setCell (le2 _) _).setCell (le2 _) _⟩
 ·obtain ⟨m0, m1, m2, m3, f0, f1, f2, f3⟩ := zero_num (w := ((w.alloc (.cells #[.bool sx, .slice ax nx cx, .int .i64 ex, .bool false] 109)).alloc (.cells #[.bool sy, .slice ay ny cy, .int .i64 ey, .bool false] 109))) (r := w.heap.size + 1 + 1) hz_6 (by simp)
  go_wp2_with fail
  refine bodyPost_ret (v := numV false none 0 0 0 true) (by simp [results, Tryz.results207, go_sem, m0, m1, m2, m3]) rfl ?_
  exact ⟨_, rfl, Or.inr ⟨hg, rfl⟩, (((hw_6.setCell (le2 _) _).setCell (le2 _) _).setCell (le2 _) _).setCell (le2 _) _⟩
end Go.Proofs.YtahpdcbmekgkfaaGreatDoor

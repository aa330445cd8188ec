/- The walks of sums of numbers: twice and one; level ones together. The walks of sums of numbers: together, apart. The walk of plus. The walks of Add. The walk of Add. The walks of cuts. The walks of Cut. The walks of Int, Check, Zero. The walks of the order of numbers: amounts. The walks of the order of numbers: amounts. The walks of the order of numbers: amounts. The order of numbers. The walks of the order of numbers. The walks of the order of numbers. The walks of the order of numbers. The walks of the order of numbers. The walk of Cmp. -/
import Derived.Test.YtjapgogiaklodaaGreatDoorTMB

namespace Go.Proofs.YtjapgogiaklodaaGreatDoor
open Go.RowKit

theorem great_one : greatB 1 = false := (great_not 1).2 (by have := (blen_le 1 1).2 (by decide); omega)
theorem shr1 {m : Nat} (h : greatB m = false) : shrQ m 1 = m / 2 ∧ shrL m 1 = lostB m 1 ∧ shrE m 1 = 0 := by
  obtain ⟨e1, e2, e3⟩ := shr_fit (u := m) (j := 1) h
  exact ⟨by simpa using e2, by simpa using e3, by simpa using e1⟩
theorem blen_twice (h : Nat) (h0 : h ≠ 0) : blen (2 * h) = 1 + blen h ∧ blen (2 * h + 1) = 1 + blen h := by
  have e1 := blen_shift 1 0 h (by decide) h0
  have e2 := blen_shift 1 1 h (by decide) h0
  rw [Nat.pow_one] at e1 e2
  rw [Nat.zero_add] at e1
  rw [Nat.add_comm 1] at e2
  exact ⟨e1, e2⟩
theorem shl1_cases (h : Nat) (hg : greatB h = false) : (shlR h 1 = (2 * h, 0) ∧ greatB (2 * h) = false) ∨ (shlR h 1 = (0, 3) ∧ greatB (2 * h + 1) = true) := by
  by_cases h0 : h = 0
  · subst h0
    exact Or.inl ⟨shlR_zero hg (by decide) rfl, hg⟩
  · obtain ⟨b1, b2⟩ := blen_twice h h0
    by_cases hc : 65536 - (blen h : Int) < 1
    · exact Or.inr ⟨shlR_many hg (by decide) h0 hc, by rw [great_iff]; omega⟩
    · refine Or.inl ⟨?_, by rw [great_not]; omega⟩
      rw [shlR_fit hg (by decide) h0 (by omega)]
      simp [Nat.mul_comm]
theorem halves_fit {mx my : Nat} (hx : greatB mx = false) (hy : greatB my = false) (hox : mx % 2 = 1) (hoy : my % 2 = 1) : greatB (mx / 2 + my / 2) = false ∧ greatB (mx / 2 + my / 2 + 1) = false := by
  have h2 : greatB (mx / 2 + my / 2 + 1) = false := by
    rcases Nat.le_total mx my with q | q
    · exact great_mono (show mx / 2 + my / 2 + 1 ≤ my by omega) hy
    · exact great_mono (show mx / 2 + my / 2 + 1 ≤ mx by omega) hx
  exact ⟨great_mono (Nat.le_succ _) h2, h2⟩
theorem halves_form (s : Bool) (mx my : Nat) (e : Int) (hox : mx % 2 = 1) (hoy : my % 2 = 1) : formD s (mx / 2 + my / 2 + 1) (e + 1) = formD s (mx + my) e := by
  have h := form_shift s (mx / 2 + my / 2 + 1) 1 e
  rw [Nat.pow_one, show (mx / 2 + my / 2 + 1) * 2 = mx + my by omega] at h
  rw [h]; rfl

set_option maxRecDepth 100000 in
set_option maxHeartbeats 2000000 in
theorem twice_fit (s : Bool) (a : Option Addr) (n c : Nat) (h : Nat) (e : Int) (w : World) (hI : IsW w a n c (wordsOf h)) (hn : n ≤ 1024) (hg : greatB h = false) (he : -100000000 ≤ e ∧ e ≤ 100000000) (hT : Tab w) (h1 : shlR h 1 = (2 * h, 0)) (h2 : greatB (2 * h) = false) :
    Calls Tryz.prog 106 #[.bool s, .slice a n c, .int .i64 e] w fun r w' => ∃ v, r = .returned v ∧ NumR w.heap.size w' v (formD s (2 * h + 1) e) ∧ Below w.heap.size w w' := by
  obtain ⟨he1, he2⟩ := he
  have HG : Hid (greatB h = false) := hg
  have H1 : Hid (shlR h 1 = (2 * h, 0)) := h1
  have H2 : Hid (greatB (2 * h) = false) := h2
  clear hg h1 h2
  go_enter Tryz.func106, Tryz.ntmps106
  go_wp2_with fail
  have hz_0 : Below (w.alloc (.cells #[.bool false, .slice none 0 0, .int .i64 0, .bool false] 69)).heap.size (w.alloc (.cells #[.bool false, .slice none 0 0, .int .i64 0, .bool false] 69)) (w.alloc (.cells #[.bool false, .slice none 0 0, .int .i64 0, .bool false] 69)) := Below.refl _ _
  have hw_0 : Below w.heap.size w (w.alloc (.cells #[.bool false, .slice none 0 0, .int .i64 0, .bool false] 69)) := by repeat (first | exact Below.refl _ _ | refine Below.alloc ?_ (by simp; try omega) _)
  have hI_0 := hI.keep hw_0
  have hT_0 := hT.kept hw_0
  refine Calls.mono (shl_eq (i := 1) (r := 2 * h) (k := 0) hI_0 (by omega) (by rw [val_words]; exact H1.out)) ?_
  rintro r w_1 ⟨a1, n1, c1, rfl, HN1, hn1, hO1_1, hb_1⟩
  have hz_1 := nbelow_trans hz_0 hb_1
  have hw_1 := nbelow_trans hw_0 hb_1
  have hI_1 := hI_0.keep hb_1
  have hT_1 := hT_0.kept hb_1
  clear hz_0 hw_0 hI_0 hT_0 hb_1
  go_wp2_with fail
  refine Calls.mono (of_eq 1 _ (by decide)) ?_
  rintro r w_2 ⟨a2, n2, c2, rfl, HN2, hn2, hO2_2, hb_2⟩
  have hz_2 := nbelow_trans hz_1 hb_2
  have hw_2 := nbelow_trans hw_1 hb_2
  have hI_2 := hI_1.keep hb_2
  have hT_2 := hT_1.kept hb_2
  have hO1_2 := hO1_1.keep hb_2
  clear hz_1 hw_1 hI_1 hT_1 hO1_1 hb_2
  go_wp2_with fail
  refine Calls.mono (add_eq (r := (fitR (2 * h + 1)).1) (k := (fitR (2 * h + 1)).2) hO1_2.1 hO2_2.1 (by omega) (by omega) (by rw [val_words, val_words, addR_no (by rw [H2.out, great_one]; rfl)])) ?_
  rintro r w_3 ⟨a3, n3, c3, rfl, HN3, hn3, hO3_3, hb_3⟩
  have hz_3 := nbelow_trans hz_2 hb_3
  have hw_3 := nbelow_trans hw_2 hb_3
  have hI_3 := hI_2.keep hb_3
  have hT_3 := hT_2.kept hb_3
  have hO1_3 := hO1_2.keep hb_3
  have hO2_3 := hO2_2.keep hb_3
  clear hz_2 hw_2 hI_2 hT_2 hO1_2 hO2_2 hb_3
  have hsz : w.heap.size < w_3.heap.size := by have := hz_3.size; simp at this; omega
  go_wp2_with fail
  refine Calls.mono (reckoned_calls s a3 n3 c3 (2 * h + 1) e w_3 hO3_3.1 (by omega) hT_3 ⟨by omega, by omega⟩ (fun _ => by omega)) ?_
  rintro r w_4 ⟨v, rfl, hN, hb_4⟩
  have hz_4 := nbelow_trans hz_3 hb_4
  have hw_4 := nbelow_trans hw_3 hb_4
  have hI_4 := hI_3.keep hb_4
  have hT_4 := hT_3.kept hb_4
  have hO1_4 := hO1_3.keep hb_4
  have hO2_4 := hO2_3.keep hb_4
  have hO3_4 := hO3_3.keep hb_4
  clear hz_3 hw_3 hI_3 hT_3 hO1_3 hO2_3 hO3_3 hb_4
  rcases hN with ⟨hg, ao, nn, cc, rfl, HN, HZ, hnn, hO⟩ | ⟨hg, rfl⟩
  · obtain ⟨m0, m1, m2, m3, f0, f1, f2, f3⟩ := zero_num (w := w) (r := w.heap.size) hz_4 rfl
    go_wp2_with fail
    refine bodyPost_ret (v := numV (formD s (2 * h + 1) e).1 ao nn cc (formD s (2 * h + 1) e).2.2 false) (by simp [results, Tryz.results106, go_sem, m0, m1, m2, m3]) rfl ?_
    exact ⟨_, rfl, Or.inl ⟨hg, ao, nn, cc, rfl, HN, HZ, hnn, ((((hO.far _ _ (by show w.heap.size < _; omega)).far _ _ (by show w.heap.size < _; omega)).far _ _ (by show w.heap.size < _; omega)).far _ _ (by show w.heap.size < _; omega)).low (by omega)⟩, (((hw_4.setCell (Nat.le_refl _) _).setCell (Nat.le_refl _) _).setCell (Nat.le_refl _) _).setCell (Nat.le_refl _) _⟩
  · obtain ⟨m0, m1, m2, m3, f0, f1, f2, f3⟩ := zero_num (w := w) (r := w.heap.size) hz_4 rfl
    go_wp2_with fail
    refine bodyPost_ret (v := numV false none 0 0 0 true) (by simp [results, Tryz.results106, go_sem, m0, m1, m2, m3]) rfl ?_
    exact ⟨_, rfl, Or.inr ⟨hg, rfl⟩, (((hw_4.setCell (Nat.le_refl _) _).setCell (Nat.le_refl _) _).setCell (Nat.le_refl _) _).setCell (Nat.le_refl _) _⟩

set_option maxRecDepth 100000 in
set_option maxHeartbeats 2000000 in
theorem twice_many (s : Bool) (a : Option Addr) (n c : Nat) (h : Nat) (e : Int) (w : World) (hI : IsW w a n c (wordsOf h)) (hn : n ≤ 1024) (h1 : shlR h 1 = (0, 3)) (h2 : greatB (2 * h + 1) = true) :
    Calls Tryz.prog 106 #[.bool s, .slice a n c, .int .i64 e] w fun r w' => ∃ v, r = .returned v ∧ NumR w.heap.size w' v (formD s (2 * h + 1) e) ∧ Below w.heap.size w w' := by
  have H1 : Hid (shlR h 1 = (0, 3)) := h1
  have H2 : Hid (greatB (formD s (2 * h + 1) e).2.1 = true) := by rw [Hid, form_odd s (by omega)]; exact h2
  clear h1 h2
  go_enter Tryz.func106, Tryz.ntmps106
  go_wp2_with fail
  have hz_0 : Below (w.alloc (.cells #[.bool false, .slice none 0 0, .int .i64 0, .bool false] 69)).heap.size (w.alloc (.cells #[.bool false, .slice none 0 0, .int .i64 0, .bool false] 69)) (w.alloc (.cells #[.bool false, .slice none 0 0, .int .i64 0, .bool false] 69)) := Below.refl _ _
  have hw_0 : Below w.heap.size w (w.alloc (.cells #[.bool false, .slice none 0 0, .int .i64 0, .bool false] 69)) := by repeat (first | exact Below.refl _ _ | refine Below.alloc ?_ (by simp; try omega) _)
  have hI_0 := hI.keep hw_0
  refine Calls.mono (shl_eq (i := 1) (r := 0) (k := 3) hI_0 (by omega) (by rw [val_words]; exact H1.out)) ?_
  rintro r w_1 ⟨a1, n1, c1, rfl, HN1, hn1, hO1_1, hb_1⟩
  have hz_1 := nbelow_trans hz_0 hb_1
  have hw_1 := nbelow_trans hw_0 hb_1
  have hI_1 := hI_0.keep hb_1
  clear hz_0 hw_0 hI_0 hb_1
  obtain ⟨m0, m1, m2, m3, f0, f1, f2, f3⟩ := zero_num (w := w) (r := w.heap.size) hz_1 rfl
  go_wp2_with fail
  refine bodyPost_ret (v := numV false none 0 0 0 true) (by simp [results, Tryz.results106, go_sem, m0, m1, m2, m3]) rfl ?_
  exact ⟨_, rfl, Or.inr ⟨H2.out, rfl⟩, (((hw_1.setCell (Nat.le_refl _) _).setCell (Nat.le_refl _) _).setCell (Nat.le_refl _) _).setCell (Nat.le_refl _) _⟩

theorem twice_calls (s : Bool) (a : Option Addr) (n c : Nat) (h : Nat) (e : Int) (w : World) (hI : IsW w a n c (wordsOf h)) (hn : n ≤ 1024) (hg : greatB h = false) (he : -100000000 ≤ e ∧ e ≤ 100000000) (hT : Tab w) :
    Calls Tryz.prog 106 #[.bool s, .slice a n c, .int .i64 e] w fun r w' => ∃ v, r = .returned v ∧ NumR w.heap.size w' v (formD s (2 * h + 1) e) ∧ Below w.heap.size w w' := by
  rcases shl1_cases h hg with ⟨h1, h2⟩ | ⟨h1, h2⟩
  · exact twice_fit s a n c h e w hI hn hg he hT h1 h2
  · exact twice_many s a n c h e w hI hn h1 h2

set_option maxRecDepth 100000 in
set_option maxHeartbeats 2000000 in
theorem levelTogether_calls (sx : Bool) (ax : Option Addr) (nx cx : Nat) (mx : Nat) (ex : Int) (sy : Bool) (ay : Option Addr) (ny cy : Nat) (my : Nat) (ey : Int) (w : World) (hIx : IsW w ax nx cx (wordsOf mx)) (hnx : nx ≤ 1024) (hgx : greatB mx = false) (hex : -100000000 ≤ ex ∧ ex ≤ 100000000) (hIy : IsW w ay ny cy (wordsOf my)) (hny : ny ≤ 1024) (hgy : greatB my = false) (hey : -100000000 ≤ ey ∧ ey ≤ 100000000) (hT : Tab w) (hox : mx % 2 = 1) (hoy : my % 2 = 1) :
    Calls Tryz.prog 100 #[numV sx ax nx cx ex false, numV sy ay ny cy ey false] w fun r w' => ∃ v, r = .returned v ∧ NumR w.heap.size w' v (formD sx (mx + my) ex) ∧ Below w.heap.size w w' := by
  obtain ⟨hex1, hex2⟩ := hex
  obtain ⟨hey1, hey2⟩ := hey
  have HGX : Hid (greatB mx = false) := hgx
  have HGY : Hid (greatB my = false) := hgy
  have HS : Hid (greatB (mx / 2 + my / 2) = false ∧ greatB (mx / 2 + my / 2 + 1) = false) := halves_fit hgx hgy hox hoy
  have HF : Hid (formD sx (mx / 2 + my / 2 + 1) (ex + 1) = formD sx (mx + my) ex) := halves_form sx mx my ex hox hoy
  clear hgx hgy hox hoy
  go_enter Tryz.func100, Tryz.ntmps100
  go_wp2_with fail
  have hz_0 : Below (((w.alloc (.cells #[.bool sx, .slice ax nx cx, .int .i64 ex, .bool false] 69)).alloc (.cells #[.bool sy, .slice ay ny cy, .int .i64 ey, .bool false] 69)).alloc (.cells #[.bool false, .slice none 0 0, .int .i64 0, .bool false] 69)).heap.size (((w.alloc (.cells #[.bool sx, .slice ax nx cx, .int .i64 ex, .bool false] 69)).alloc (.cells #[.bool sy, .slice ay ny cy, .int .i64 ey, .bool false] 69)).alloc (.cells #[.bool false, .slice none 0 0, .int .i64 0, .bool false] 69)) (((w.alloc (.cells #[.bool sx, .slice ax nx cx, .int .i64 ex, .bool false] 69)).alloc (.cells #[.bool sy, .slice ay ny cy, .int .i64 ey, .bool false] 69)).alloc (.cells #[.bool false, .slice none 0 0, .int .i64 0, .bool false] 69)) := Below.refl _ _
  have hw_0 : Below w.heap.size w (((w.alloc (.cells #[.bool sx, .slice ax nx cx, .int .i64 ex, .bool false] 69)).alloc (.cells #[.bool sy, .slice ay ny cy, .int .i64 ey, .bool false] 69)).alloc (.cells #[.bool false, .slice none 0 0, .int .i64 0, .bool false] 69)) := by repeat (first | exact Below.refl _ _ | refine Below.alloc ?_ (by simp; try omega) _)
  have kx0_0 : (((w.alloc (.cells #[.bool sx, .slice ax nx cx, .int .i64 ex, .bool false] 69)).alloc (.cells #[.bool sy, .slice ay ny cy, .int .i64 ey, .bool false] 69)).alloc (.cells #[.bool false, .slice none 0 0, .int .i64 0, .bool false] 69)).cell? ⟨w.heap.size, 0, none⟩ = some (.bool sx) := by go_simp
  have kx1_0 : (((w.alloc (.cells #[.bool sx, .slice ax nx cx, .int .i64 ex, .bool false] 69)).alloc (.cells #[.bool sy, .slice ay ny cy, .int .i64 ey, .bool false] 69)).alloc (.cells #[.bool false, .slice none 0 0, .int .i64 0, .bool false] 69)).cell? ⟨w.heap.size, 1, none⟩ = some (.slice ax nx cx) := by go_simp
  have kx2_0 : (((w.alloc (.cells #[.bool sx, .slice ax nx cx, .int .i64 ex, .bool false] 69)).alloc (.cells #[.bool sy, .slice ay ny cy, .int .i64 ey, .bool false] 69)).alloc (.cells #[.bool false, .slice none 0 0, .int .i64 0, .bool false] 69)).cell? ⟨w.heap.size, 2, none⟩ = some (.int .i64 ex) := by go_simp
  have kx3_0 : (((w.alloc (.cells #[.bool sx, .slice ax nx cx, .int .i64 ex, .bool false] 69)).alloc (.cells #[.bool sy, .slice ay ny cy, .int .i64 ey, .bool false] 69)).alloc (.cells #[.bool false, .slice none 0 0, .int .i64 0, .bool false] 69)).cell? ⟨w.heap.size, 3, none⟩ = some (.bool false) := by go_simp
  have ky0_0 : (((w.alloc (.cells #[.bool sx, .slice ax nx cx, .int .i64 ex, .bool false] 69)).alloc (.cells #[.bool sy, .slice ay ny cy, .int .i64 ey, .bool false] 69)).alloc (.cells #[.bool false, .slice none 0 0, .int .i64 0, .bool false] 69)).cell? ⟨w.heap.size + 1, 0, none⟩ = some (.bool sy) := by go_simp
  have ky1_0 : (((w.alloc (.cells #[.bool sx, .slice ax nx cx, .int .i64 ex, .bool false] 69)).alloc (.cells #[.bool sy, .slice ay ny cy, .int .i64 ey, .bool false] 69)).alloc (.cells #[.bool false, .slice none 0 0, .int .i64 0, .bool false] 69)).cell? ⟨w.heap.size + 1, 1, none⟩ = some (.slice ay ny cy) := by go_simp
  have ky2_0 : (((w.alloc (.cells #[.bool sx, .slice ax nx cx, .int .i64 ex, .bool false] 69)).alloc (.cells #[.bool sy, .slice ay ny cy, .int .i64 ey, .bool false] 69)).alloc (.cells #[.bool false, .slice none 0 0, .int .i64 0, .bool false] 69)).cell? ⟨w.heap.size + 1, 2, none⟩ = some (.int .i64 ey) := by go_simp
  have ky3_0 : (((w.alloc (.cells #[.bool sx, .slice ax nx cx, .int .i64 ex, .bool false] 69)).alloc (.cells #[.bool sy, .slice ay ny cy, .int .i64 ey, .bool false] 69)).alloc (.cells #[.bool false, .slice none 0 0, .int .i64 0, .bool false] 69)).cell? ⟨w.heap.size + 1, 3, none⟩ = some (.bool false) := by go_simp
  have hIx_0 := hIx.keep hw_0
  have hIy_0 := hIy.keep hw_0
  have hT_0 := hT.kept hw_0
  refine Calls.mono (shr_eq (i := 1) (r := mx / 2) (l := lostB mx 1) (k := 0) hIx_0 (by omega) (by omega) (by rw [val_words]; exact (shr1 HGX.out).1) (by rw [val_words]; exact (shr1 HGX.out).2.1) (by rw [val_words]; exact (shr1 HGX.out).2.2)) ?_
  rintro r w_1 ⟨a1, n1, c1, rfl, HN1, hn1, hO1_1, hb_1⟩
  have hz_1 := nbelow_trans hz_0 hb_1
  have hw_1 := nbelow_trans hw_0 hb_1
  have kx0_1 := dcarry_cell hb_1 kx0_0
  have kx1_1 := dcarry_cell hb_1 kx1_0
  have kx2_1 := dcarry_cell hb_1 kx2_0
  have kx3_1 := dcarry_cell hb_1 kx3_0
  have ky0_1 := dcarry_cell hb_1 ky0_0
  have ky1_1 := dcarry_cell hb_1 ky1_0
  have ky2_1 := dcarry_cell hb_1 ky2_0
  have ky3_1 := dcarry_cell hb_1 ky3_0
  have hIx_1 := hIx_0.keep hb_1
  have hIy_1 := hIy_0.keep hb_1
  have hT_1 := hT_0.kept hb_1
  clear hz_0 hw_0 kx0_0 kx1_0 kx2_0 kx3_0 ky0_0 ky1_0 ky2_0 ky3_0 hIx_0 hIy_0 hT_0 hb_1
  go_wp2_with fail
  refine Calls.mono (shr_eq (i := 1) (r := my / 2) (l := lostB my 1) (k := 0) hIy_1 (by omega) (by omega) (by rw [val_words]; exact (shr1 HGY.out).1) (by rw [val_words]; exact (shr1 HGY.out).2.1) (by rw [val_words]; exact (shr1 HGY.out).2.2)) ?_
  rintro r w_2 ⟨a2, n2, c2, rfl, HN2, hn2, hO2_2, hb_2⟩
  have hz_2 := nbelow_trans hz_1 hb_2
  have hw_2 := nbelow_trans hw_1 hb_2
  have kx0_2 := dcarry_cell hb_2 kx0_1
  have kx1_2 := dcarry_cell hb_2 kx1_1
  have kx2_2 := dcarry_cell hb_2 kx2_1
  have kx3_2 := dcarry_cell hb_2 kx3_1
  have ky0_2 := dcarry_cell hb_2 ky0_1
  have ky1_2 := dcarry_cell hb_2 ky1_1
  have ky2_2 := dcarry_cell hb_2 ky2_1
  have ky3_2 := dcarry_cell hb_2 ky3_1
  have hIx_2 := hIx_1.keep hb_2
  have hIy_2 := hIy_1.keep hb_2
  have hT_2 := hT_1.kept hb_2
  have hO1_2 := hO1_1.keep hb_2
  clear hz_1 hw_1 kx0_1 kx1_1 kx2_1 kx3_1 ky0_1 ky1_1 ky2_1 ky3_1 hIx_1 hIy_1 hT_1 hO1_1 hb_2
  go_wp2_with fail
  refine Calls.mono (add_eq (r := mx / 2 + my / 2) (k := 0) hO1_2.1 hO2_2.1 (by omega) (by omega) (by rw [val_words, val_words, addR_no (by rw [great_mono (Nat.div_le_self mx 2) HGX.out, great_mono (Nat.div_le_self my 2) HGY.out]; rfl), fitR_no HS.out.1])) ?_
  rintro r w_3 ⟨a3, n3, c3, rfl, HN3, hn3, hO3_3, hb_3⟩
  have hz_3 := nbelow_trans hz_2 hb_3
  have hw_3 := nbelow_trans hw_2 hb_3
  have kx0_3 := dcarry_cell hb_3 kx0_2
  have kx1_3 := dcarry_cell hb_3 kx1_2
  have kx2_3 := dcarry_cell hb_3 kx2_2
  have kx3_3 := dcarry_cell hb_3 kx3_2
  have ky0_3 := dcarry_cell hb_3 ky0_2
  have ky1_3 := dcarry_cell hb_3 ky1_2
  have ky2_3 := dcarry_cell hb_3 ky2_2
  have ky3_3 := dcarry_cell hb_3 ky3_2
  have hIx_3 := hIx_2.keep hb_3
  have hIy_3 := hIy_2.keep hb_3
  have hT_3 := hT_2.kept hb_3
  have hO1_3 := hO1_2.keep hb_3
  have hO2_3 := hO2_2.keep hb_3
  clear hz_2 hw_2 kx0_2 kx1_2 kx2_2 kx3_2 ky0_2 ky1_2 ky2_2 ky3_2 hIx_2 hIy_2 hT_2 hO1_2 hO2_2 hb_3
  go_wp2_with fail
  refine Calls.mono (of_eq 1 _ (by decide)) ?_
  rintro r w_4 ⟨a4, n4, c4, rfl, HN4, hn4, hO4_4, hb_4⟩
  have hz_4 := nbelow_trans hz_3 hb_4
  have hw_4 := nbelow_trans hw_3 hb_4
  have kx0_4 := dcarry_cell hb_4 kx0_3
  have kx1_4 := dcarry_cell hb_4 kx1_3
  have kx2_4 := dcarry_cell hb_4 kx2_3
  have kx3_4 := dcarry_cell hb_4 kx3_3
  have ky0_4 := dcarry_cell hb_4 ky0_3
  have ky1_4 := dcarry_cell hb_4 ky1_3
  have ky2_4 := dcarry_cell hb_4 ky2_3
  have ky3_4 := dcarry_cell hb_4 ky3_3
  have hIx_4 := hIx_3.keep hb_4
  have hIy_4 := hIy_3.keep hb_4
  have hT_4 := hT_3.kept hb_4
  have hO1_4 := hO1_3.keep hb_4
  have hO2_4 := hO2_3.keep hb_4
  have hO3_4 := hO3_3.keep hb_4
  clear hz_3 hw_3 kx0_3 kx1_3 kx2_3 kx3_3 ky0_3 ky1_3 ky2_3 ky3_3 hIx_3 hIy_3 hT_3 hO1_3 hO2_3 hO3_3 hb_4
  go_wp2_with fail
  refine Calls.mono (add_eq (r := (fitR (mx / 2 + my / 2 + 1)).1) (k := (fitR (mx / 2 + my / 2 + 1)).2) hO3_4.1 hO4_4.1 (by omega) (by omega) (by rw [val_words, val_words, addR_no (by rw [HS.out.1, great_one]; rfl)])) ?_
  rintro r w_5 ⟨a5, n5, c5, rfl, HN5, hn5, hO5_5, hb_5⟩
  have hz_5 := nbelow_trans hz_4 hb_5
  have hw_5 := nbelow_trans hw_4 hb_5
  have kx0_5 := dcarry_cell hb_5 kx0_4
  have kx1_5 := dcarry_cell hb_5 kx1_4
  have kx2_5 := dcarry_cell hb_5 kx2_4
  have kx3_5 := dcarry_cell hb_5 kx3_4
  have ky0_5 := dcarry_cell hb_5 ky0_4
  have ky1_5 := dcarry_cell hb_5 ky1_4
  have ky2_5 := dcarry_cell hb_5 ky2_4
  have ky3_5 := dcarry_cell hb_5 ky3_4
  have hIx_5 := hIx_4.keep hb_5
  have hIy_5 := hIy_4.keep hb_5
  have hT_5 := hT_4.kept hb_5
  have hO1_5 := hO1_4.keep hb_5
  have hO2_5 := hO2_4.keep hb_5
  have hO3_5 := hO3_4.keep hb_5
  have hO4_5 := hO4_4.keep hb_5
  clear hz_4 hw_4 kx0_4 kx1_4 kx2_4 kx3_4 ky0_4 ky1_4 ky2_4 ky3_4 hIx_4 hIy_4 hT_4 hO1_4 hO2_4 hO3_4 hO4_4 hb_5
  have hsz : w.heap.size + 1 + 1 < w_5.heap.size := by have := hz_5.size; simp at this; omega
  go_wp2_with fail
  refine Calls.mono (reckoned_calls sx a5 n5 c5 (mx / 2 + my / 2 + 1) (ex + 1) w_5 hO5_5.1 (by omega) hT_5 ⟨by omega, by omega⟩ (fun q => by rw [HS.out.2] at q; cases q)) ?_
  rintro r w_6 ⟨v, rfl, hN, hb_6⟩
  have hz_6 := nbelow_trans hz_5 hb_6
  have hw_6 := nbelow_trans hw_5 hb_6
  have kx0_6 := dcarry_cell hb_6 kx0_5
  have kx1_6 := dcarry_cell hb_6 kx1_5
  have kx2_6 := dcarry_cell hb_6 kx2_5
  have kx3_6 := dcarry_cell hb_6 kx3_5
  have ky0_6 := dcarry_cell hb_6 ky0_5
  have ky1_6 := dcarry_cell hb_6 ky1_5
  have ky2_6 := dcarry_cell hb_6 ky2_5
  have ky3_6 := dcarry_cell hb_6 ky3_5
  have hIx_6 := hIx_5.keep hb_6
  have hIy_6 := hIy_5.keep hb_6
  have hT_6 := hT_5.kept hb_6
  have hO1_6 := hO1_5.keep hb_6
  have hO2_6 := hO2_5.keep hb_6
  have hO3_6 := hO3_5.keep hb_6
  have hO4_6 := hO4_5.keep hb_6
  have hO5_6 := hO5_5.keep hb_6
  clear hz_5 hw_5 kx0_5 kx1_5 kx2_5 kx3_5 ky0_5 ky1_5 ky2_5 ky3_5 hIx_5 hIy_5 hT_5 hO1_5 hO2_5 hO3_5 hO4_5 hO5_5 hb_6
  rw [HF.out] at hN
  rcases hN with ⟨hg, ao, nn, cc, rfl, HN, HZ, hnn, hO⟩ | ⟨hg, rfl⟩
  · obtain ⟨m0, m1, m2, m3, f0, f1, f2, f3⟩ := zero_num (w := ((w.alloc (.cells #[.bool sx, .slice ax nx cx, .int .i64 ex, .bool false] 69)).alloc (.cells #[.bool sy, .slice ay ny cy, .int .i64 ey, .bool false] 69))) (r := w.heap.size + 1 + 1) hz_6 (by simp)
    go_wp2_with fail
    refine bodyPost_ret (v := numV (formD sx (mx + my) ex).1 ao nn cc (formD sx (mx + my) ex).2.2 false) (by simp [results, Tryz.results100, go_sem, m0, m1, m2, m3]) rfl ?_
    exact ⟨_, rfl, Or.inl ⟨hg, ao, nn, cc, rfl, HN, HZ, hnn, ((((hO.far _ _ (by show w.heap.size + 1 + 1 < _; omega)).far _ _ (by show w.heap.size + 1 + 1 < _; omega)).far _ _ (by show w.heap.size + 1 + 1 < _; omega)).far _ _ (by show w.heap.size + 1 + 1 < _; omega)).low (by omega)⟩, (((hw_6.setCell (by show w.heap.size ≤ w.heap.size + 1 + 1; omega) _).setCell (by show w.heap.size ≤ w.heap.size + 1 + 1; omega) _).setCell (by show w.heap.size ≤ w.heap.size + 1 + 1; omega) _).setCell (by show w.heap.size ≤ w.heap.size + 1 + 1; omega) _⟩
  · obtain ⟨m0, m1, m2, m3, f0, f1, f2, f3⟩ := zero_num (w := ((w.alloc (.cells #[.bool sx, .slice ax nx cx, .int .i64 ex, .bool false] 69)).alloc (.cells #[.bool sy, .slice ay ny cy, .int .i64 ey, .bool false] 69))) (r := w.heap.size + 1 + 1) hz_6 (by simp)
    go_wp2_with fail
    refine bodyPost_ret (v := numV false none 0 0 0 true) (by simp [results, Tryz.results100, go_sem, m0, m1, m2, m3]) rfl ?_
    exact ⟨_, rfl, Or.inr ⟨hg, rfl⟩, (((hw_6.setCell (by show w.heap.size ≤ w.heap.size + 1 + 1; omega) _).setCell (by show w.heap.size ≤ w.heap.size + 1 + 1; omega) _).setCell (by show w.heap.size ≤ w.heap.size + 1 + 1; omega) _).setCell (by show w.heap.size ≤ w.heap.size + 1 + 1; omega) _⟩

end Go.Proofs.YtjapgogiaklodaaGreatDoor

namespace Go.Proofs.YtjapgogiaklodaaGreatDoor
open Go.RowKit

theorem shl_odd (mx my dd : Nat) (hd : 0 < dd) (ho : my % 2 = 1) : (mx * 2 ^ dd + my) % 2 = 1 := by
  obtain ⟨k, rfl⟩ : ∃ k, dd = k + 1 := ⟨dd - 1, by omega⟩
  rw [Nat.pow_succ, ← Nat.mul_assoc]; omega
theorem shl_cases (m dd b : Nat) (hg : greatB m = false) : (shlR m (dd : Int) = (m * 2 ^ dd, 0) ∧ greatB (m * 2 ^ dd) = false) ∨ (shlR m (dd : Int) = (0, 3) ∧ greatB (m * 2 ^ dd + b) = true ∧ 65536 < blen (m * 2 ^ dd)) := by
  by_cases h0 : m = 0
  · subst h0
    rw [Nat.zero_mul]
    exact Or.inl ⟨shlR_zero hg (by omega) rfl, great_zero⟩
  · have hb := blen_mul m dd h0
    by_cases hc : 65536 - (blen m : Int) < (dd : Int)
    · refine Or.inr ⟨shlR_many hg (by omega) h0 hc, ?_, by omega⟩
      rw [great_iff]
      have := blen_mono (Nat.le_add_right (m * 2 ^ dd) b)
      omega
    · refine Or.inl ⟨?_, by rw [great_not]; omega⟩
      rw [shlR_fit hg (by omega) h0 (by omega), Int.toNat_natCast]

set_option maxRecDepth 100000 in
set_option maxHeartbeats 2000000 in
theorem together_level (sx : Bool) (ax : Option Addr) (nx cx : Nat) (mx : Nat) (ex : Int) (sy : Bool) (ay : Option Addr) (ny cy : Nat) (my : Nat) (ey : Int) (w : World) (hIx : IsW w ax nx cx (wordsOf mx)) (hnx : nx ≤ 1024) (hgx : greatB mx = false) (hex : -100000000 ≤ ex ∧ ex ≤ 100000000) (hIy : IsW w ay ny cy (wordsOf my)) (hny : ny ≤ 1024) (hgy : greatB my = false) (hey : -100000000 ≤ ey ∧ ey ≤ 100000000) (hT : Tab w) (hox : mx % 2 = 1) (hoy : my % 2 = 1) (hee : ex = ey) :
    Calls Tryz.prog 74 #[numV sx ax nx cx ex false, numV sy ay ny cy ey false] w fun r w' => ∃ v, r = .returned v ∧ NumR w.heap.size w' v (formD sx (mx + my) ex) ∧ Below w.heap.size w w' := by
  have LT : Hid _ := levelTogether_calls sx ax nx cx mx ex sy ay ny cy my ey _ (hIx.keep (show Below w.heap.size w (((w.alloc (.cells #[.bool sx, .slice ax nx cx, .int .i64 ex, .bool false] 69)).alloc (.cells #[.bool sy, .slice ay ny cy, .int .i64 ey, .bool false] 69)).alloc (.cells #[.bool false, .slice none 0 0, .int .i64 0, .bool false] 69)) from by repeat (first | exact Below.refl _ _ | refine Below.alloc ?_ (by simp; try omega) _))) hnx hgx hex (hIy.keep (by repeat (first | exact Below.refl _ _ | refine Below.alloc ?_ (by simp; try omega) _))) hny hgy hey (hT.kept (by repeat (first | exact Below.refl _ _ | refine Below.alloc ?_ (by simp; try omega) _))) hox hoy
  subst hee
  clear hgx hgy hox hoy hex hey hnx hny hT hIx hIy
  go_enter Tryz.func74, Tryz.ntmps74
  go_wp2_with fail
  have hz_0 : Below (((w.alloc (.cells #[.bool sx, .slice ax nx cx, .int .i64 ex, .bool false] 69)).alloc (.cells #[.bool sy, .slice ay ny cy, .int .i64 ex, .bool false] 69)).alloc (.cells #[.bool false, .slice none 0 0, .int .i64 0, .bool false] 69)).heap.size (((w.alloc (.cells #[.bool sx, .slice ax nx cx, .int .i64 ex, .bool false] 69)).alloc (.cells #[.bool sy, .slice ay ny cy, .int .i64 ex, .bool false] 69)).alloc (.cells #[.bool false, .slice none 0 0, .int .i64 0, .bool false] 69)) (((w.alloc (.cells #[.bool sx, .slice ax nx cx, .int .i64 ex, .bool false] 69)).alloc (.cells #[.bool sy, .slice ay ny cy, .int .i64 ex, .bool false] 69)).alloc (.cells #[.bool false, .slice none 0 0, .int .i64 0, .bool false] 69)) := Below.refl _ _
  have hw_0 : Below w.heap.size w (((w.alloc (.cells #[.bool sx, .slice ax nx cx, .int .i64 ex, .bool false] 69)).alloc (.cells #[.bool sy, .slice ay ny cy, .int .i64 ex, .bool false] 69)).alloc (.cells #[.bool false, .slice none 0 0, .int .i64 0, .bool false] 69)) := by repeat (first | exact Below.refl _ _ | refine Below.alloc ?_ (by simp; try omega) _)
  have kx0_0 : (((w.alloc (.cells #[.bool sx, .slice ax nx cx, .int .i64 ex, .bool false] 69)).alloc (.cells #[.bool sy, .slice ay ny cy, .int .i64 ex, .bool false] 69)).alloc (.cells #[.bool false, .slice none 0 0, .int .i64 0, .bool false] 69)).cell? ⟨w.heap.size, 0, none⟩ = some (.bool sx) := by go_simp
  have kx1_0 : (((w.alloc (.cells #[.bool sx, .slice ax nx cx, .int .i64 ex, .bool false] 69)).alloc (.cells #[.bool sy, .slice ay ny cy, .int .i64 ex, .bool false] 69)).alloc (.cells #[.bool false, .slice none 0 0, .int .i64 0, .bool false] 69)).cell? ⟨w.heap.size, 1, none⟩ = some (.slice ax nx cx) := by go_simp
  have kx2_0 : (((w.alloc (.cells #[.bool sx, .slice ax nx cx, .int .i64 ex, .bool false] 69)).alloc (.cells #[.bool sy, .slice ay ny cy, .int .i64 ex, .bool false] 69)).alloc (.cells #[.bool false, .slice none 0 0, .int .i64 0, .bool false] 69)).cell? ⟨w.heap.size, 2, none⟩ = some (.int .i64 ex) := by go_simp
  have kx3_0 : (((w.alloc (.cells #[.bool sx, .slice ax nx cx, .int .i64 ex, .bool false] 69)).alloc (.cells #[.bool sy, .slice ay ny cy, .int .i64 ex, .bool false] 69)).alloc (.cells #[.bool false, .slice none 0 0, .int .i64 0, .bool false] 69)).cell? ⟨w.heap.size, 3, none⟩ = some (.bool false) := by go_simp
  have ky0_0 : (((w.alloc (.cells #[.bool sx, .slice ax nx cx, .int .i64 ex, .bool false] 69)).alloc (.cells #[.bool sy, .slice ay ny cy, .int .i64 ex, .bool false] 69)).alloc (.cells #[.bool false, .slice none 0 0, .int .i64 0, .bool false] 69)).cell? ⟨w.heap.size + 1, 0, none⟩ = some (.bool sy) := by go_simp
  have ky1_0 : (((w.alloc (.cells #[.bool sx, .slice ax nx cx, .int .i64 ex, .bool false] 69)).alloc (.cells #[.bool sy, .slice ay ny cy, .int .i64 ex, .bool false] 69)).alloc (.cells #[.bool false, .slice none 0 0, .int .i64 0, .bool false] 69)).cell? ⟨w.heap.size + 1, 1, none⟩ = some (.slice ay ny cy) := by go_simp
  have ky2_0 : (((w.alloc (.cells #[.bool sx, .slice ax nx cx, .int .i64 ex, .bool false] 69)).alloc (.cells #[.bool sy, .slice ay ny cy, .int .i64 ex, .bool false] 69)).alloc (.cells #[.bool false, .slice none 0 0, .int .i64 0, .bool false] 69)).cell? ⟨w.heap.size + 1, 2, none⟩ = some (.int .i64 ex) := by go_simp
  have ky3_0 : (((w.alloc (.cells #[.bool sx, .slice ax nx cx, .int .i64 ex, .bool false] 69)).alloc (.cells #[.bool sy, .slice ay ny cy, .int .i64 ex, .bool false] 69)).alloc (.cells #[.bool false, .slice none 0 0, .int .i64 0, .bool false] 69)).cell? ⟨w.heap.size + 1, 3, none⟩ = some (.bool false) := by go_simp
  refine Calls.mono (LT.out) ?_
  rintro r w_1 ⟨v, rfl, hN, hb_1⟩
  have hz_1 := nbelow_trans hz_0 hb_1
  have hw_1 := nbelow_trans hw_0 hb_1
  have kx0_1 := dcarry_cell hb_1 kx0_0
  have kx1_1 := dcarry_cell hb_1 kx1_0
  have kx2_1 := dcarry_cell hb_1 kx2_0
  have kx3_1 := dcarry_cell hb_1 kx3_0
  have ky0_1 := dcarry_cell hb_1 ky0_0
  have ky1_1 := dcarry_cell hb_1 ky1_0
  have ky2_1 := dcarry_cell hb_1 ky2_0
  have ky3_1 := dcarry_cell hb_1 ky3_0
  clear hz_0 hw_0 kx0_0 kx1_0 kx2_0 kx3_0 ky0_0 ky1_0 ky2_0 ky3_0 hb_1
  clear LT
  rcases hN with ⟨hg, ao, nn, cc, rfl, HN, HZ, hnn, hO⟩ | ⟨hg, rfl⟩
  · obtain ⟨m0, m1, m2, m3, f0, f1, f2, f3⟩ := zero_num (w := ((w.alloc (.cells #[.bool sx, .slice ax nx cx, .int .i64 ex, .bool false] 69)).alloc (.cells #[.bool sy, .slice ay ny cy, .int .i64 ex, .bool false] 69))) (r := w.heap.size + 1 + 1) hz_1 (by simp)
    go_wp2_with fail
    refine bodyPost_ret (v := numV (formD sx (mx + my) ex).1 ao nn cc (formD sx (mx + my) ex).2.2 false) (by simp [results, Tryz.results74, go_sem, m0, m1, m2, m3]) rfl ?_
    exact ⟨_, rfl, Or.inl ⟨hg, ao, nn, cc, rfl, HN, HZ, hnn, ((((hO.far _ _ (by show w.heap.size + 1 + 1 < _; simp)).far _ _ (by show w.heap.size + 1 + 1 < _; simp)).far _ _ (by show w.heap.size + 1 + 1 < _; simp)).far _ _ (by show w.heap.size + 1 + 1 < _; simp)).low (by simp; omega)⟩, (((hw_1.setCell (by show w.heap.size ≤ w.heap.size + 1 + 1; omega) _).setCell (by show w.heap.size ≤ w.heap.size + 1 + 1; omega) _).setCell (by show w.heap.size ≤ w.heap.size + 1 + 1; omega) _).setCell (by show w.heap.size ≤ w.heap.size + 1 + 1; omega) _⟩
  · obtain ⟨m0, m1, m2, m3, f0, f1, f2, f3⟩ := zero_num (w := ((w.alloc (.cells #[.bool sx, .slice ax nx cx, .int .i64 ex, .bool false] 69)).alloc (.cells #[.bool sy, .slice ay ny cy, .int .i64 ex, .bool false] 69))) (r := w.heap.size + 1 + 1) hz_1 (by simp)
    go_wp2_with fail
    refine bodyPost_ret (v := numV false none 0 0 0 true) (by simp [results, Tryz.results74, go_sem, m0, m1, m2, m3]) rfl ?_
    exact ⟨_, rfl, Or.inr ⟨hg, rfl⟩, (((hw_1.setCell (by show w.heap.size ≤ w.heap.size + 1 + 1; omega) _).setCell (by show w.heap.size ≤ w.heap.size + 1 + 1; omega) _).setCell (by show w.heap.size ≤ w.heap.size + 1 + 1; omega) _).setCell (by show w.heap.size ≤ w.heap.size + 1 + 1; omega) _⟩

set_option maxRecDepth 100000 in
set_option maxHeartbeats 2000000 in
theorem together_fit (sx : Bool) (ax : Option Addr) (nx cx : Nat) (mx : Nat) (ex : Int) (sy : Bool) (ay : Option Addr) (ny cy : Nat) (my : Nat) (ey : Int) (w : World) (hIx : IsW w ax nx cx (wordsOf mx)) (hnx : nx ≤ 1024) (hgx : greatB mx = false) (hex : -100000000 ≤ ex ∧ ex ≤ 100000000) (hIy : IsW w ay ny cy (wordsOf my)) (hny : ny ≤ 1024) (hgy : greatB my = false) (hey : -100000000 ≤ ey ∧ ey ≤ 100000000) (hT : Tab w) (hoy : my % 2 = 1) (dd : Nat) (hd : 0 < dd) (hdd0 : ex = ey + (dd : Int)) (h1 : shlR mx (dd : Int) = (mx * 2 ^ dd, 0)) (h2 : greatB (mx * 2 ^ dd) = false) :
    Calls Tryz.prog 74 #[numV sx ax nx cx ex false, numV sy ay ny cy ey false] w fun r w' => ∃ v, r = .returned v ∧ NumR w.heap.size w' v (formD sx (mx * 2 ^ dd + my) ey) ∧ Below w.heap.size w w' := by
  obtain ⟨hex1, hex2⟩ := hex
  obtain ⟨hey1, hey2⟩ := hey
  have HGX : Hid (greatB mx = false) := hgx
  have HGY : Hid (greatB my = false) := hgy
  have hdd : ex - ey = (dd : Int) := by omega
  have hne : (ex == ey) = false := by simp; omega
  have H1 : Hid (shlR mx (dd : Int) = (mx * 2 ^ dd, 0)) := h1
  have H2 : Hid (greatB (mx * 2 ^ dd) = false) := h2
  have HODD : Hid ((mx * 2 ^ dd + my) % 2 = 1) := shl_odd mx my dd hd hoy
  clear h1 h2 hgx hgy hoy hdd0
  go_enter Tryz.func74, Tryz.ntmps74
  go_wp2_with fail
  have hz_0 : Below (((w.alloc (.cells #[.bool sx, .slice ax nx cx, .int .i64 ex, .bool false] 69)).alloc (.cells #[.bool sy, .slice ay ny cy, .int .i64 ey, .bool false] 69)).alloc (.cells #[.bool false, .slice none 0 0, .int .i64 0, .bool false] 69)).heap.size (((w.alloc (.cells #[.bool sx, .slice ax nx cx, .int .i64 ex, .bool false] 69)).alloc (.cells #[.bool sy, .slice ay ny cy, .int .i64 ey, .bool false] 69)).alloc (.cells #[.bool false, .slice none 0 0, .int .i64 0, .bool false] 69)) (((w.alloc (.cells #[.bool sx, .slice ax nx cx, .int .i64 ex, .bool false] 69)).alloc (.cells #[.bool sy, .slice ay ny cy, .int .i64 ey, .bool false] 69)).alloc (.cells #[.bool false, .slice none 0 0, .int .i64 0, .bool false] 69)) := Below.refl _ _
  have hw_0 : Below w.heap.size w (((w.alloc (.cells #[.bool sx, .slice ax nx cx, .int .i64 ex, .bool false] 69)).alloc (.cells #[.bool sy, .slice ay ny cy, .int .i64 ey, .bool false] 69)).alloc (.cells #[.bool false, .slice none 0 0, .int .i64 0, .bool false] 69)) := by repeat (first | exact Below.refl _ _ | refine Below.alloc ?_ (by simp; try omega) _)
  have kx0_0 : (((w.alloc (.cells #[.bool sx, .slice ax nx cx, .int .i64 ex, .bool false] 69)).alloc (.cells #[.bool sy, .slice ay ny cy, .int .i64 ey, .bool false] 69)).alloc (.cells #[.bool false, .slice none 0 0, .int .i64 0, .bool false] 69)).cell? ⟨w.heap.size, 0, none⟩ = some (.bool sx) := by go_simp
  have kx1_0 : (((w.alloc (.cells #[.bool sx, .slice ax nx cx, .int .i64 ex, .bool false] 69)).alloc (.cells #[.bool sy, .slice ay ny cy, .int .i64 ey, .bool false] 69)).alloc (.cells #[.bool false, .slice none 0 0, .int .i64 0, .bool false] 69)).cell? ⟨w.heap.size, 1, none⟩ = some (.slice ax nx cx) := by go_simp
  have kx2_0 : (((w.alloc (.cells #[.bool sx, .slice ax nx cx, .int .i64 ex, .bool false] 69)).alloc (.cells #[.bool sy, .slice ay ny cy, .int .i64 ey, .bool false] 69)).alloc (.cells #[.bool false, .slice none 0 0, .int .i64 0, .bool false] 69)).cell? ⟨w.heap.size, 2, none⟩ = some (.int .i64 ex) := by go_simp
  have kx3_0 : (((w.alloc (.cells #[.bool sx, .slice ax nx cx, .int .i64 ex, .bool false] 69)).alloc (.cells #[.bool sy, .slice ay ny cy, .int .i64 ey, .bool false] 69)).alloc (.cells #[.bool false, .slice none 0 0, .int .i64 0, .bool false] 69)).cell? ⟨w.heap.size, 3, none⟩ = some (.bool false) := by go_simp
  have ky0_0 : (((w.alloc (.cells #[.bool sx, .slice ax nx cx, .int .i64 ex, .bool false] 69)).alloc (.cells #[.bool sy, .slice ay ny cy, .int .i64 ey, .bool false] 69)).alloc (.cells #[.bool false, .slice none 0 0, .int .i64 0, .bool false] 69)).cell? ⟨w.heap.size + 1, 0, none⟩ = some (.bool sy) := by go_simp
  have ky1_0 : (((w.alloc (.cells #[.bool sx, .slice ax nx cx, .int .i64 ex, .bool false] 69)).alloc (.cells #[.bool sy, .slice ay ny cy, .int .i64 ey, .bool false] 69)).alloc (.cells #[.bool false, .slice none 0 0, .int .i64 0, .bool false] 69)).cell? ⟨w.heap.size + 1, 1, none⟩ = some (.slice ay ny cy) := by go_simp
  have ky2_0 : (((w.alloc (.cells #[.bool sx, .slice ax nx cx, .int .i64 ex, .bool false] 69)).alloc (.cells #[.bool sy, .slice ay ny cy, .int .i64 ey, .bool false] 69)).alloc (.cells #[.bool false, .slice none 0 0, .int .i64 0, .bool false] 69)).cell? ⟨w.heap.size + 1, 2, none⟩ = some (.int .i64 ey) := by go_simp
  have ky3_0 : (((w.alloc (.cells #[.bool sx, .slice ax nx cx, .int .i64 ex, .bool false] 69)).alloc (.cells #[.bool sy, .slice ay ny cy, .int .i64 ey, .bool false] 69)).alloc (.cells #[.bool false, .slice none 0 0, .int .i64 0, .bool false] 69)).cell? ⟨w.heap.size + 1, 3, none⟩ = some (.bool false) := by go_simp
  have hIx_0 := hIx.keep hw_0
  have hIy_0 := hIy.keep hw_0
  have hT_0 := hT.kept hw_0
  refine Calls.mono (shl_eq (i := (dd : Int)) (r := mx * 2 ^ dd) (k := 0) hIx_0 (by omega) (by rw [val_words]; exact H1.out)) ?_
  rintro r w_1 ⟨a1, n1, c1, rfl, HN1, hn1, hO1_1, hb_1⟩
  have hz_1 := nbelow_trans hz_0 hb_1
  have hw_1 := nbelow_trans hw_0 hb_1
  have kx0_1 := dcarry_cell hb_1 kx0_0
  have kx1_1 := dcarry_cell hb_1 kx1_0
  have kx2_1 := dcarry_cell hb_1 kx2_0
  have kx3_1 := dcarry_cell hb_1 kx3_0
  have ky0_1 := dcarry_cell hb_1 ky0_0
  have ky1_1 := dcarry_cell hb_1 ky1_0
  have ky2_1 := dcarry_cell hb_1 ky2_0
  have ky3_1 := dcarry_cell hb_1 ky3_0
  have hIx_1 := hIx_0.keep hb_1
  have hIy_1 := hIy_0.keep hb_1
  have hT_1 := hT_0.kept hb_1
  clear hz_0 hw_0 kx0_0 kx1_0 kx2_0 kx3_0 ky0_0 ky1_0 ky2_0 ky3_0 hIx_0 hIy_0 hT_0 hb_1
  go_wp2_with fail
  refine Calls.mono (add_eq (r := (fitR (mx * 2 ^ dd + my)).1) (k := (fitR (mx * 2 ^ dd + my)).2) hO1_1.1 hIy_1 (by omega) (by omega) (by rw [val_words, val_words, addR_no (by rw [H2.out, HGY.out]; rfl)])) ?_
  rintro r w_2 ⟨a2, n2, c2, rfl, HN2, hn2, hO2_2, hb_2⟩
  have hz_2 := nbelow_trans hz_1 hb_2
  have hw_2 := nbelow_trans hw_1 hb_2
  have kx0_2 := dcarry_cell hb_2 kx0_1
  have kx1_2 := dcarry_cell hb_2 kx1_1
  have kx2_2 := dcarry_cell hb_2 kx2_1
  have kx3_2 := dcarry_cell hb_2 kx3_1
  have ky0_2 := dcarry_cell hb_2 ky0_1
  have ky1_2 := dcarry_cell hb_2 ky1_1
  have ky2_2 := dcarry_cell hb_2 ky2_1
  have ky3_2 := dcarry_cell hb_2 ky3_1
  have hIx_2 := hIx_1.keep hb_2
  have hIy_2 := hIy_1.keep hb_2
  have hT_2 := hT_1.kept hb_2
  have hO1_2 := hO1_1.keep hb_2
  clear hz_1 hw_1 kx0_1 kx1_1 kx2_1 kx3_1 ky0_1 ky1_1 ky2_1 ky3_1 hIx_1 hIy_1 hT_1 hO1_1 hb_2
  have hsz : w.heap.size + 1 + 1 < w_2.heap.size := by have := hz_2.size; simp at this; omega
  go_wp2_with fail
  refine Calls.mono (reckoned_calls sx a2 n2 c2 (mx * 2 ^ dd + my) ey w_2 hO2_2.1 (by omega) hT_2 ⟨by omega, by omega⟩ (fun _ => HODD.out)) ?_
  rintro r w_3 ⟨v, rfl, hN, hb_3⟩
  have hz_3 := nbelow_trans hz_2 hb_3
  have hw_3 := nbelow_trans hw_2 hb_3
  have kx0_3 := dcarry_cell hb_3 kx0_2
  have kx1_3 := dcarry_cell hb_3 kx1_2
  have kx2_3 := dcarry_cell hb_3 kx2_2
  have kx3_3 := dcarry_cell hb_3 kx3_2
  have ky0_3 := dcarry_cell hb_3 ky0_2
  have ky1_3 := dcarry_cell hb_3 ky1_2
  have ky2_3 := dcarry_cell hb_3 ky2_2
  have ky3_3 := dcarry_cell hb_3 ky3_2
  have hIx_3 := hIx_2.keep hb_3
  have hIy_3 := hIy_2.keep hb_3
  have hT_3 := hT_2.kept hb_3
  have hO1_3 := hO1_2.keep hb_3
  have hO2_3 := hO2_2.keep hb_3
  clear hz_2 hw_2 kx0_2 kx1_2 kx2_2 kx3_2 ky0_2 ky1_2 ky2_2 ky3_2 hIx_2 hIy_2 hT_2 hO1_2 hO2_2 hb_3
  rcases hN with ⟨hg, ao, nn, cc, rfl, HN, HZ, hnn, hO⟩ | ⟨hg, rfl⟩
  · obtain ⟨m0, m1, m2, m3, f0, f1, f2, f3⟩ := zero_num (w := ((w.alloc (.cells #[.bool sx, .slice ax nx cx, .int .i64 ex, .bool false] 69)).alloc (.cells #[.bool sy, .slice ay ny cy, .int .i64 ey, .bool false] 69))) (r := w.heap.size + 1 + 1) hz_3 (by simp)
    go_wp2_with fail
    refine bodyPost_ret (v := numV (formD sx (mx * 2 ^ dd + my) ey).1 ao nn cc (formD sx (mx * 2 ^ dd + my) ey).2.2 false) (by simp [results, Tryz.results74, go_sem, m0, m1, m2, m3]) rfl ?_
    exact ⟨_, rfl, Or.inl ⟨hg, ao, nn, cc, rfl, HN, HZ, hnn, ((((hO.far _ _ (by show w.heap.size + 1 + 1 < _; omega)).far _ _ (by show w.heap.size + 1 + 1 < _; omega)).far _ _ (by show w.heap.size + 1 + 1 < _; omega)).far _ _ (by show w.heap.size + 1 + 1 < _; omega)).low (by omega)⟩, (((hw_3.setCell (by show w.heap.size ≤ w.heap.size + 1 + 1; omega) _).setCell (by show w.heap.size ≤ w.heap.size + 1 + 1; omega) _).setCell (by show w.heap.size ≤ w.heap.size + 1 + 1; omega) _).setCell (by show w.heap.size ≤ w.heap.size + 1 + 1; omega) _⟩
  · obtain ⟨m0, m1, m2, m3, f0, f1, f2, f3⟩ := zero_num (w := ((w.alloc (.cells #[.bool sx, .slice ax nx cx, .int .i64 ex, .bool false] 69)).alloc (.cells #[.bool sy, .slice ay ny cy, .int .i64 ey, .bool false] 69))) (r := w.heap.size + 1 + 1) hz_3 (by simp)
    go_wp2_with fail
    refine bodyPost_ret (v := numV false none 0 0 0 true) (by simp [results, Tryz.results74, go_sem, m0, m1, m2, m3]) rfl ?_
    exact ⟨_, rfl, Or.inr ⟨hg, rfl⟩, (((hw_3.setCell (by show w.heap.size ≤ w.heap.size + 1 + 1; omega) _).setCell (by show w.heap.size ≤ w.heap.size + 1 + 1; omega) _).setCell (by show w.heap.size ≤ w.heap.size + 1 + 1; omega) _).setCell (by show w.heap.size ≤ w.heap.size + 1 + 1; omega) _⟩

set_option maxRecDepth 100000 in
set_option maxHeartbeats 2000000 in
theorem together_many (sx : Bool) (ax : Option Addr) (nx cx : Nat) (mx : Nat) (ex : Int) (sy : Bool) (ay : Option Addr) (ny cy : Nat) (my : Nat) (ey : Int) (w : World) (hIx : IsW w ax nx cx (wordsOf mx)) (hnx : nx ≤ 1024) (hgx : greatB mx = false) (hex : -100000000 ≤ ex ∧ ex ≤ 100000000) (hIy : IsW w ay ny cy (wordsOf my)) (_hny : ny ≤ 1024) (hgy : greatB my = false) (hey : -100000000 ≤ ey ∧ ey ≤ 100000000) (hT : Tab w) (hoy : my % 2 = 1) (dd : Nat) (hd : 0 < dd) (hdd0 : ex = ey + (dd : Int)) (h1 : shlR mx (dd : Int) = (0, 3)) (h2 : greatB (mx * 2 ^ dd + my) = true) :
    Calls Tryz.prog 74 #[numV sx ax nx cx ex false, numV sy ay ny cy ey false] w fun r w' => ∃ v, r = .returned v ∧ NumR w.heap.size w' v (formD sx (mx * 2 ^ dd + my) ey) ∧ Below w.heap.size w w' := by
  obtain ⟨hex1, hex2⟩ := hex
  obtain ⟨hey1, hey2⟩ := hey
  have HGX : Hid (greatB mx = false) := hgx
  have HGY : Hid (greatB my = false) := hgy
  have hdd : ex - ey = (dd : Int) := by omega
  have hne : (ex == ey) = false := by simp; omega
  have H1 : Hid (shlR mx (dd : Int) = (0, 3)) := h1
  have H2 : Hid (greatB (formD sx (mx * 2 ^ dd + my) ey).2.1 = true) := by rw [Hid, form_odd sx (shl_odd mx my dd hd hoy)]; exact h2
  clear h1 h2 hgx hgy hoy hdd0
  go_enter Tryz.func74, Tryz.ntmps74
  go_wp2_with fail
  have hz_0 : Below (((w.alloc (.cells #[.bool sx, .slice ax nx cx, .int .i64 ex, .bool false] 69)).alloc (.cells #[.bool sy, .slice ay ny cy, .int .i64 ey, .bool false] 69)).alloc (.cells #[.bool false, .slice none 0 0, .int .i64 0, .bool false] 69)).heap.size (((w.alloc (.cells #[.bool sx, .slice ax nx cx, .int .i64 ex, .bool false] 69)).alloc (.cells #[.bool sy, .slice ay ny cy, .int .i64 ey, .bool false] 69)).alloc (.cells #[.bool false, .slice none 0 0, .int .i64 0, .bool false] 69)) (((w.alloc (.cells #[.bool sx, .slice ax nx cx, .int .i64 ex, .bool false] 69)).alloc (.cells #[.bool sy, .slice ay ny cy, .int .i64 ey, .bool false] 69)).alloc (.cells #[.bool false, .slice none 0 0, .int .i64 0, .bool false] 69)) := Below.refl _ _
  have hw_0 : Below w.heap.size w (((w.alloc (.cells #[.bool sx, .slice ax nx cx, .int .i64 ex, .bool false] 69)).alloc (.cells #[.bool sy, .slice ay ny cy, .int .i64 ey, .bool false] 69)).alloc (.cells #[.bool false, .slice none 0 0, .int .i64 0, .bool false] 69)) := by repeat (first | exact Below.refl _ _ | refine Below.alloc ?_ (by simp; try omega) _)
  have kx0_0 : (((w.alloc (.cells #[.bool sx, .slice ax nx cx, .int .i64 ex, .bool false] 69)).alloc (.cells #[.bool sy, .slice ay ny cy, .int .i64 ey, .bool false] 69)).alloc (.cells #[.bool false, .slice none 0 0, .int .i64 0, .bool false] 69)).cell? ⟨w.heap.size, 0, none⟩ = some (.bool sx) := by go_simp
  have kx1_0 : (((w.alloc (.cells #[.bool sx, .slice ax nx cx, .int .i64 ex, .bool false] 69)).alloc (.cells #[.bool sy, .slice ay ny cy, .int .i64 ey, .bool false] 69)).alloc (.cells #[.bool false, .slice none 0 0, .int .i64 0, .bool false] 69)).cell? ⟨w.heap.size, 1, none⟩ = some (.slice ax nx cx) := by go_simp
  have kx2_0 : (((w.alloc (.cells #[.bool sx, .slice ax nx cx, .int .i64 ex, .bool false] 69)).alloc (.cells #[.bool sy, .slice ay ny cy, .int .i64 ey, .bool false] 69)).alloc (.cells #[.bool false, .slice none 0 0, .int .i64 0, .bool false] 69)).cell? ⟨w.heap.size, 2, none⟩ = some (.int .i64 ex) := by go_simp
  have kx3_0 : (((w.alloc (.cells #[.bool sx, .slice ax nx cx, .int .i64 ex, .bool false] 69)).alloc (.cells #[.bool sy, .slice ay ny cy, .int .i64 ey, .bool false] 69)).alloc (.cells #[.bool false, .slice none 0 0, .int .i64 0, .bool false] 69)).cell? ⟨w.heap.size, 3, none⟩ = some (.bool false) := by go_simp
  have ky0_0 : (((w.alloc (.cells #[.bool sx, .slice ax nx cx, .int .i64 ex, .bool false] 69)).alloc (.cells #[.bool sy, .slice ay ny cy, .int .i64 ey, .bool false] 69)).alloc (.cells #[.bool false, .slice none 0 0, .int .i64 0, .bool false] 69)).cell? ⟨w.heap.size + 1, 0, none⟩ = some (.bool sy) := by go_simp
  have ky1_0 : (((w.alloc (.cells #[.bool sx, .slice ax nx cx, .int .i64 ex, .bool false] 69)).alloc (.cells #[.bool sy, .slice ay ny cy, .int .i64 ey, .bool false] 69)).alloc (.cells #[.bool false, .slice none 0 0, .int .i64 0, .bool false] 69)).cell? ⟨w.heap.size + 1, 1, none⟩ = some (.slice ay ny cy) := by go_simp
  have ky2_0 : (((w.alloc (.cells #[.bool sx, .slice ax nx cx, .int .i64 ex, .bool false] 69)).alloc (.cells #[.bool sy, .slice ay ny cy, .int .i64 ey, .bool false] 69)).alloc (.cells #[.bool false, .slice none 0 0, .int .i64 0, .bool false] 69)).cell? ⟨w.heap.size + 1, 2, none⟩ = some (.int .i64 ey) := by go_simp
  have ky3_0 : (((w.alloc (.cells #[.bool sx, .slice ax nx cx, .int .i64 ex, .bool false] 69)).alloc (.cells #[.bool sy, .slice ay ny cy, .int .i64 ey, .bool false] 69)).alloc (.cells #[.bool false, .slice none 0 0, .int .i64 0, .bool false] 69)).cell? ⟨w.heap.size + 1, 3, none⟩ = some (.bool false) := by go_simp
  have hIx_0 := hIx.keep hw_0
  have hIy_0 := hIy.keep hw_0
  have hT_0 := hT.kept hw_0
  refine Calls.mono (shl_eq (i := (dd : Int)) (r := 0) (k := 3) hIx_0 (by omega) (by rw [val_words]; exact H1.out)) ?_
  rintro r w_1 ⟨a1, n1, c1, rfl, HN1, hn1, hO1_1, hb_1⟩
  have hz_1 := nbelow_trans hz_0 hb_1
  have hw_1 := nbelow_trans hw_0 hb_1
  have kx0_1 := dcarry_cell hb_1 kx0_0
  have kx1_1 := dcarry_cell hb_1 kx1_0
  have kx2_1 := dcarry_cell hb_1 kx2_0
  have kx3_1 := dcarry_cell hb_1 kx3_0
  have ky0_1 := dcarry_cell hb_1 ky0_0
  have ky1_1 := dcarry_cell hb_1 ky1_0
  have ky2_1 := dcarry_cell hb_1 ky2_0
  have ky3_1 := dcarry_cell hb_1 ky3_0
  have hIx_1 := hIx_0.keep hb_1
  have hIy_1 := hIy_0.keep hb_1
  have hT_1 := hT_0.kept hb_1
  clear hz_0 hw_0 kx0_0 kx1_0 kx2_0 kx3_0 ky0_0 ky1_0 ky2_0 ky3_0 hIx_0 hIy_0 hT_0 hb_1
  obtain ⟨m0, m1, m2, m3, f0, f1, f2, f3⟩ := zero_num (w := ((w.alloc (.cells #[.bool sx, .slice ax nx cx, .int .i64 ex, .bool false] 69)).alloc (.cells #[.bool sy, .slice ay ny cy, .int .i64 ey, .bool false] 69))) (r := w.heap.size + 1 + 1) hz_1 (by simp)
  go_wp2_with fail
  refine bodyPost_ret (v := numV false none 0 0 0 true) (by simp [results, Tryz.results74, go_sem, m0, m1, m2, m3]) rfl ?_
  exact ⟨_, rfl, Or.inr ⟨H2.out, rfl⟩, (((hw_1.setCell (by show w.heap.size ≤ w.heap.size + 1 + 1; omega) _).setCell (by show w.heap.size ≤ w.heap.size + 1 + 1; omega) _).setCell (by show w.heap.size ≤ w.heap.size + 1 + 1; omega) _).setCell (by show w.heap.size ≤ w.heap.size + 1 + 1; omega) _⟩

theorem together_calls (sx : Bool) (ax : Option Addr) (nx cx : Nat) (mx : Nat) (ex : Int) (sy : Bool) (ay : Option Addr) (ny cy : Nat) (my : Nat) (ey : Int) (w : World) (hIx : IsW w ax nx cx (wordsOf mx)) (hnx : nx ≤ 1024) (hgx : greatB mx = false) (hex : -100000000 ≤ ex ∧ ex ≤ 100000000) (hIy : IsW w ay ny cy (wordsOf my)) (hny : ny ≤ 1024) (hgy : greatB my = false) (hey : -100000000 ≤ ey ∧ ey ≤ 100000000) (hT : Tab w) (hox : mx % 2 = 1) (hoy : my % 2 = 1) (dd : Nat) (hdd : ex = ey + (dd : Int)) :
    Calls Tryz.prog 74 #[numV sx ax nx cx ex false, numV sy ay ny cy ey false] w fun r w' => ∃ v, r = .returned v ∧ NumR w.heap.size w' v (formD sx (mx * 2 ^ dd + my) ey) ∧ Below w.heap.size w w' := by
  by_cases h0 : dd = 0
  · subst h0
    have hee : ex = ey := by omega
    rw [Nat.pow_zero, Nat.mul_one]
    have h1 := together_level sx ax nx cx mx ex sy ay ny cy my ey w hIx hnx hgx hex hIy hny hgy hey hT hox hoy hee
    clear hdd
    subst hee
    exact h1
  · rcases shl_cases mx dd my hgx with ⟨h1, h2⟩ | ⟨h1, h2⟩
    · exact together_fit sx ax nx cx mx ex sy ay ny cy my ey w hIx hnx hgx hex hIy hny hgy hey hT hoy dd (by omega) hdd h1 h2
    · exact together_many sx ax nx cx mx ex sy ay ny cy my ey w hIx hnx hgx hex hIy hny hgy hey hT hoy dd (by omega) hdd h1 h2.1

set_option maxRecDepth 100000 in
set_option maxHeartbeats 2000000 in
theorem levelApart_ge (sx : Bool) (ax : Option Addr) (nx cx : Nat) (mx : Nat) (ex : Int) (sy : Bool) (ay : Option Addr) (ny cy : Nat) (my : Nat) (ey : Int) (w : World) (hIx : IsW w ax nx cx (wordsOf mx)) (hnx : nx ≤ 1024) (hgx : greatB mx = false) (hex : -100000000 ≤ ex ∧ ex ≤ 100000000) (hIy : IsW w ay ny cy (wordsOf my)) (hny : ny ≤ 1024) (hgy : greatB my = false) (hey : -100000000 ≤ ey ∧ ey ≤ 100000000) (hT : Tab w) (hle : my ≤ mx) :
    Calls Tryz.prog 75 #[numV sx ax nx cx ex false, numV sy ay ny cy ey false] w fun r w' => ∃ v, r = .returned v ∧ NumR w.heap.size w' v (formD sx (mx - my) ex) ∧ Below w.heap.size w w' := by
  obtain ⟨hex1, hex2⟩ := hex
  obtain ⟨hey1, hey2⟩ := hey
  have HGX : Hid (greatB mx = false) := hgx
  have HGY : Hid (greatB my = false) := hgy
  have HLE : Hid (my ≤ mx) := hle
  have hcm : 0 ≤ cmpN mx my := by unfold cmpN; rw [if_neg (by omega)]; split <;> omega
  have HGS : Hid (greatB (mx - my) = false) := great_mono (Nat.sub_le _ _) hgx
  clear hgx hgy hle
  go_enter Tryz.func75, Tryz.ntmps75
  go_wp2_with fail
  have hz_0 : Below (((w.alloc (.cells #[.bool sx, .slice ax nx cx, .int .i64 ex, .bool false] 69)).alloc (.cells #[.bool sy, .slice ay ny cy, .int .i64 ey, .bool false] 69)).alloc (.cells #[.bool false, .slice none 0 0, .int .i64 0, .bool false] 69)).heap.size (((w.alloc (.cells #[.bool sx, .slice ax nx cx, .int .i64 ex, .bool false] 69)).alloc (.cells #[.bool sy, .slice ay ny cy, .int .i64 ey, .bool false] 69)).alloc (.cells #[.bool false, .slice none 0 0, .int .i64 0, .bool false] 69)) (((w.alloc (.cells #[.bool sx, .slice ax nx cx, .int .i64 ex, .bool false] 69)).alloc (.cells #[.bool sy, .slice ay ny cy, .int .i64 ey, .bool false] 69)).alloc (.cells #[.bool false, .slice none 0 0, .int .i64 0, .bool false] 69)) := Below.refl _ _
  have hw_0 : Below w.heap.size w (((w.alloc (.cells #[.bool sx, .slice ax nx cx, .int .i64 ex, .bool false] 69)).alloc (.cells #[.bool sy, .slice ay ny cy, .int .i64 ey, .bool false] 69)).alloc (.cells #[.bool false, .slice none 0 0, .int .i64 0, .bool false] 69)) := by repeat (first | exact Below.refl _ _ | refine Below.alloc ?_ (by simp; try omega) _)
  have kx0_0 : (((w.alloc (.cells #[.bool sx, .slice ax nx cx, .int .i64 ex, .bool false] 69)).alloc (.cells #[.bool sy, .slice ay ny cy, .int .i64 ey, .bool false] 69)).alloc (.cells #[.bool false, .slice none 0 0, .int .i64 0, .bool false] 69)).cell? ⟨w.heap.size, 0, none⟩ = some (.bool sx) := by go_simp
  have kx1_0 : (((w.alloc (.cells #[.bool sx, .slice ax nx cx, .int .i64 ex, .bool false] 69)).alloc (.cells #[.bool sy, .slice ay ny cy, .int .i64 ey, .bool false] 69)).alloc (.cells #[.bool false, .slice none 0 0, .int .i64 0, .bool false] 69)).cell? ⟨w.heap.size, 1, none⟩ = some (.slice ax nx cx) := by go_simp
  have kx2_0 : (((w.alloc (.cells #[.bool sx, .slice ax nx cx, .int .i64 ex, .bool false] 69)).alloc (.cells #[.bool sy, .slice ay ny cy, .int .i64 ey, .bool false] 69)).alloc (.cells #[.bool false, .slice none 0 0, .int .i64 0, .bool false] 69)).cell? ⟨w.heap.size, 2, none⟩ = some (.int .i64 ex) := by go_simp
  have kx3_0 : (((w.alloc (.cells #[.bool sx, .slice ax nx cx, .int .i64 ex, .bool false] 69)).alloc (.cells #[.bool sy, .slice ay ny cy, .int .i64 ey, .bool false] 69)).alloc (.cells #[.bool false, .slice none 0 0, .int .i64 0, .bool false] 69)).cell? ⟨w.heap.size, 3, none⟩ = some (.bool false) := by go_simp
  have ky0_0 : (((w.alloc (.cells #[.bool sx, .slice ax nx cx, .int .i64 ex, .bool false] 69)).alloc (.cells #[.bool sy, .slice ay ny cy, .int .i64 ey, .bool false] 69)).alloc (.cells #[.bool false, .slice none 0 0, .int .i64 0, .bool false] 69)).cell? ⟨w.heap.size + 1, 0, none⟩ = some (.bool sy) := by go_simp
  have ky1_0 : (((w.alloc (.cells #[.bool sx, .slice ax nx cx, .int .i64 ex, .bool false] 69)).alloc (.cells #[.bool sy, .slice ay ny cy, .int .i64 ey, .bool false] 69)).alloc (.cells #[.bool false, .slice none 0 0, .int .i64 0, .bool false] 69)).cell? ⟨w.heap.size + 1, 1, none⟩ = some (.slice ay ny cy) := by go_simp
  have ky2_0 : (((w.alloc (.cells #[.bool sx, .slice ax nx cx, .int .i64 ex, .bool false] 69)).alloc (.cells #[.bool sy, .slice ay ny cy, .int .i64 ey, .bool false] 69)).alloc (.cells #[.bool false, .slice none 0 0, .int .i64 0, .bool false] 69)).cell? ⟨w.heap.size + 1, 2, none⟩ = some (.int .i64 ey) := by go_simp
  have ky3_0 : (((w.alloc (.cells #[.bool sx, .slice ax nx cx, .int .i64 ex, .bool false] 69)).alloc (.cells #[.bool sy, .slice ay ny cy, .int .i64 ey, .bool false] 69)).alloc (.cells #[.bool false, .slice none 0 0, .int .i64 0, .bool false] 69)).cell? ⟨w.heap.size + 1, 3, none⟩ = some (.bool false) := by go_simp
  have hIx_0 := hIx.keep hw_0
  have hIy_0 := hIy.keep hw_0
  have hT_0 := hT.kept hw_0
  refine Calls.mono (cmp_calls _ _ _ _ _ _ _ _ _ hIx_0 hIy_0 (by omega) (by omega)) ?_
  rintro r w_1 ⟨_, hr, hb_1⟩
  have hz_1 := nbelow_trans hz_0 hb_1
  have hw_1 := nbelow_trans hw_0 hb_1
  have kx0_1 := dcarry_cell hb_1 kx0_0
  have kx1_1 := dcarry_cell hb_1 kx1_0
  have kx2_1 := dcarry_cell hb_1 kx2_0
  have kx3_1 := dcarry_cell hb_1 kx3_0
  have ky0_1 := dcarry_cell hb_1 ky0_0
  have ky1_1 := dcarry_cell hb_1 ky1_0
  have ky2_1 := dcarry_cell hb_1 ky2_0
  have ky3_1 := dcarry_cell hb_1 ky3_0
  have hIx_1 := hIx_0.keep hb_1
  have hIy_1 := hIy_0.keep hb_1
  have hT_1 := hT_0.kept hb_1
  clear hz_0 hw_0 kx0_0 kx1_0 kx2_0 kx3_0 ky0_0 ky1_0 ky2_0 ky3_0 hIx_0 hIy_0 hT_0 hb_1
  obtain rfl := hr (by rw [val_words, val_words, HGX.out, HGY.out]; rfl)
  rw [val_words, val_words]
  clear hr
  generalize cmpN mx my = cm at hcm ⊢
  go_wp2_with fail
  refine Calls.mono (sub_eq (r := mx - my) (k := 0) hIx_1 hIy_1 (by omega) (by omega) (by rw [val_words, val_words, subR_no (by rw [HGX.out, HGY.out]; rfl) HLE.out])) ?_
  rintro r w_2 ⟨a2, n2, c2, rfl, HN2, hn2, hO2_2, hb_2⟩
  have hz_2 := nbelow_trans hz_1 hb_2
  have hw_2 := nbelow_trans hw_1 hb_2
  have kx0_2 := dcarry_cell hb_2 kx0_1
  have kx1_2 := dcarry_cell hb_2 kx1_1
  have kx2_2 := dcarry_cell hb_2 kx2_1
  have kx3_2 := dcarry_cell hb_2 kx3_1
  have ky0_2 := dcarry_cell hb_2 ky0_1
  have ky1_2 := dcarry_cell hb_2 ky1_1
  have ky2_2 := dcarry_cell hb_2 ky2_1
  have ky3_2 := dcarry_cell hb_2 ky3_1
  have hIx_2 := hIx_1.keep hb_2
  have hIy_2 := hIy_1.keep hb_2
  have hT_2 := hT_1.kept hb_2
  clear hz_1 hw_1 kx0_1 kx1_1 kx2_1 kx3_1 ky0_1 ky1_1 ky2_1 ky3_1 hIx_1 hIy_1 hT_1 hb_2
  have hsz : w.heap.size + 1 + 1 < w_2.heap.size := by have := hz_2.size; simp at this; omega
  go_wp2_with fail
  refine Calls.mono (reckoned_ok sx a2 n2 c2 (wordsOf (mx - my)) ex w_2 hO2_2.1 (by omega) hT_2 (by rw [val_words]; exact HGS.out) ⟨by omega, by omega⟩) ?_
  rintro r w_3 ⟨v, rfl, hN1, hb_3⟩
  have hz_3 := nbelow_trans hz_2 hb_3
  have hw_3 := nbelow_trans hw_2 hb_3
  have kx0_3 := dcarry_cell hb_3 kx0_2
  have kx1_3 := dcarry_cell hb_3 kx1_2
  have kx2_3 := dcarry_cell hb_3 kx2_2
  have kx3_3 := dcarry_cell hb_3 kx3_2
  have ky0_3 := dcarry_cell hb_3 ky0_2
  have ky1_3 := dcarry_cell hb_3 ky1_2
  have ky2_3 := dcarry_cell hb_3 ky2_2
  have ky3_3 := dcarry_cell hb_3 ky3_2
  have hIx_3 := hIx_2.keep hb_3
  have hIy_3 := hIy_2.keep hb_3
  have hT_3 := hT_2.kept hb_3
  have hO2_3 := hO2_2.keep hb_3
  clear hz_2 hw_2 kx0_2 kx1_2 kx2_2 kx3_2 ky0_2 ky1_2 ky2_2 ky3_2 hIx_2 hIy_2 hT_2 hO2_2 hb_3
  rw [val_words] at hN1
  have hN : NumR _ _ _ (formD sx (mx - my) ex) := Or.inl ⟨great_mono (form_amount_le _ _ _) HGS.out, hN1⟩
  clear hN1
  rcases hN with ⟨hg, ao, nn, cc, rfl, HN, HZ, hnn, hO⟩ | ⟨hg, rfl⟩
  · obtain ⟨m0, m1, m2, m3, f0, f1, f2, f3⟩ := zero_num (w := ((w.alloc (.cells #[.bool sx, .slice ax nx cx, .int .i64 ex, .bool false] 69)).alloc (.cells #[.bool sy, .slice ay ny cy, .int .i64 ey, .bool false] 69))) (r := w.heap.size + 1 + 1) hz_3 (by simp)
    go_wp2_with fail
    refine bodyPost_ret (v := numV (formD sx (mx - my) ex).1 ao nn cc (formD sx (mx - my) ex).2.2 false) (by simp [results, Tryz.results75, go_sem, m0, m1, m2, m3]) rfl ?_
    exact ⟨_, rfl, Or.inl ⟨hg, ao, nn, cc, rfl, HN, HZ, hnn, ((((hO.far _ _ (by show w.heap.size + 1 + 1 < _; omega)).far _ _ (by show w.heap.size + 1 + 1 < _; omega)).far _ _ (by show w.heap.size + 1 + 1 < _; omega)).far _ _ (by show w.heap.size + 1 + 1 < _; omega)).low (by omega)⟩, (((hw_3.setCell (by show w.heap.size ≤ w.heap.size + 1 + 1; omega) _).setCell (by show w.heap.size ≤ w.heap.size + 1 + 1; omega) _).setCell (by show w.heap.size ≤ w.heap.size + 1 + 1; omega) _).setCell (by show w.heap.size ≤ w.heap.size + 1 + 1; omega) _⟩
  · obtain ⟨m0, m1, m2, m3, f0, f1, f2, f3⟩ := zero_num (w := ((w.alloc (.cells #[.bool sx, .slice ax nx cx, .int .i64 ex, .bool false] 69)).alloc (.cells #[.bool sy, .slice ay ny cy, .int .i64 ey, .bool false] 69))) (r := w.heap.size + 1 + 1) hz_3 (by simp)
    go_wp2_with fail
    refine bodyPost_ret (v := numV false none 0 0 0 true) (by simp [results, Tryz.results75, go_sem, m0, m1, m2, m3]) rfl ?_
    exact ⟨_, rfl, Or.inr ⟨hg, rfl⟩, (((hw_3.setCell (by show w.heap.size ≤ w.heap.size + 1 + 1; omega) _).setCell (by show w.heap.size ≤ w.heap.size + 1 + 1; omega) _).setCell (by show w.heap.size ≤ w.heap.size + 1 + 1; omega) _).setCell (by show w.heap.size ≤ w.heap.size + 1 + 1; omega) _⟩

set_option maxRecDepth 100000 in
set_option maxHeartbeats 2000000 in
theorem levelApart_lt (sx : Bool) (ax : Option Addr) (nx cx : Nat) (mx : Nat) (ex : Int) (sy : Bool) (ay : Option Addr) (ny cy : Nat) (my : Nat) (ey : Int) (w : World) (hIx : IsW w ax nx cx (wordsOf mx)) (hnx : nx ≤ 1024) (hgx : greatB mx = false) (hex : -100000000 ≤ ex ∧ ex ≤ 100000000) (hIy : IsW w ay ny cy (wordsOf my)) (hny : ny ≤ 1024) (hgy : greatB my = false) (hey : -100000000 ≤ ey ∧ ey ≤ 100000000) (hT : Tab w) (hlt : mx < my) :
    Calls Tryz.prog 75 #[numV sx ax nx cx ex false, numV sy ay ny cy ey false] w fun r w' => ∃ v, r = .returned v ∧ NumR w.heap.size w' v (formD sy (my - mx) ey) ∧ Below w.heap.size w w' := by
  have hcm : cmpN mx my = -1 := by unfold cmpN; rw [if_pos hlt]
  have HCM : Hid (cmpN mx my = -1) := hcm
  have LA : Hid (∀ W, Below w.heap.size w W → Calls Tryz.prog 75 #[numV sy ay ny cy ey false, numV sx ax nx cx ex false] W fun r w' => ∃ v, r = .returned v ∧ NumR W.heap.size w' v (formD sy (my - mx) ey) ∧ Below W.heap.size W w') := fun W hW => levelApart_ge sy ay ny cy my ey sx ax nx cx mx ex W (hIy.keep hW) hny hgy hey (hIx.keep hW) hnx hgx hex (hT.kept hW) (by omega)
  have HGX : Hid (greatB mx = false) := hgx
  have HGY : Hid (greatB my = false) := hgy
  clear hgx hgy hlt hcm
  go_enter Tryz.func75, Tryz.ntmps75
  go_wp2_with fail
  have hz_0 : Below (((w.alloc (.cells #[.bool sx, .slice ax nx cx, .int .i64 ex, .bool false] 69)).alloc (.cells #[.bool sy, .slice ay ny cy, .int .i64 ey, .bool false] 69)).alloc (.cells #[.bool false, .slice none 0 0, .int .i64 0, .bool false] 69)).heap.size (((w.alloc (.cells #[.bool sx, .slice ax nx cx, .int .i64 ex, .bool false] 69)).alloc (.cells #[.bool sy, .slice ay ny cy, .int .i64 ey, .bool false] 69)).alloc (.cells #[.bool false, .slice none 0 0, .int .i64 0, .bool false] 69)) (((w.alloc (.cells #[.bool sx, .slice ax nx cx, .int .i64 ex, .bool false] 69)).alloc (.cells #[.bool sy, .slice ay ny cy, .int .i64 ey, .bool false] 69)).alloc (.cells #[.bool false, .slice none 0 0, .int .i64 0, .bool false] 69)) := Below.refl _ _
  have hw_0 : Below w.heap.size w (((w.alloc (.cells #[.bool sx, .slice ax nx cx, .int .i64 ex, .bool false] 69)).alloc (.cells #[.bool sy, .slice ay ny cy, .int .i64 ey, .bool false] 69)).alloc (.cells #[.bool false, .slice none 0 0, .int .i64 0, .bool false] 69)) := by repeat (first | exact Below.refl _ _ | refine Below.alloc ?_ (by simp; try omega) _)
  have kx0_0 : (((w.alloc (.cells #[.bool sx, .slice ax nx cx, .int .i64 ex, .bool false] 69)).alloc (.cells #[.bool sy, .slice ay ny cy, .int .i64 ey, .bool false] 69)).alloc (.cells #[.bool false, .slice none 0 0, .int .i64 0, .bool false] 69)).cell? ⟨w.heap.size, 0, none⟩ = some (.bool sx) := by go_simp
  have kx1_0 : (((w.alloc (.cells #[.bool sx, .slice ax nx cx, .int .i64 ex, .bool false] 69)).alloc (.cells #[.bool sy, .slice ay ny cy, .int .i64 ey, .bool false] 69)).alloc (.cells #[.bool false, .slice none 0 0, .int .i64 0, .bool false] 69)).cell? ⟨w.heap.size, 1, none⟩ = some (.slice ax nx cx) := by go_simp
  have kx2_0 : (((w.alloc (.cells #[.bool sx, .slice ax nx cx, .int .i64 ex, .bool false] 69)).alloc (.cells #[.bool sy, .slice ay ny cy, .int .i64 ey, .bool false] 69)).alloc (.cells #[.bool false, .slice none 0 0, .int .i64 0, .bool false] 69)).cell? ⟨w.heap.size, 2, none⟩ = some (.int .i64 ex) := by go_simp
  have kx3_0 : (((w.alloc (.cells #[.bool sx, .slice ax nx cx, .int .i64 ex, .bool false] 69)).alloc (.cells #[.bool sy, .slice ay ny cy, .int .i64 ey, .bool false] 69)).alloc (.cells #[.bool false, .slice none 0 0, .int .i64 0, .bool false] 69)).cell? ⟨w.heap.size, 3, none⟩ = some (.bool false) := by go_simp
  have ky0_0 : (((w.alloc (.cells #[.bool sx, .slice ax nx cx, .int .i64 ex, .bool false] 69)).alloc (.cells #[.bool sy, .slice ay ny cy, .int .i64 ey, .bool false] 69)).alloc (.cells #[.bool false, .slice none 0 0, .int .i64 0, .bool false] 69)).cell? ⟨w.heap.size + 1, 0, none⟩ = some (.bool sy) := by go_simp
  have ky1_0 : (((w.alloc (.cells #[.bool sx, .slice ax nx cx, .int .i64 ex, .bool false] 69)).alloc (.cells #[.bool sy, .slice ay ny cy, .int .i64 ey, .bool false] 69)).alloc (.cells #[.bool false, .slice none 0 0, .int .i64 0, .bool false] 69)).cell? ⟨w.heap.size + 1, 1, none⟩ = some (.slice ay ny cy) := by go_simp
  have ky2_0 : (((w.alloc (.cells #[.bool sx, .slice ax nx cx, .int .i64 ex, .bool false] 69)).alloc (.cells #[.bool sy, .slice ay ny cy, .int .i64 ey, .bool false] 69)).alloc (.cells #[.bool false, .slice none 0 0, .int .i64 0, .bool false] 69)).cell? ⟨w.heap.size + 1, 2, none⟩ = some (.int .i64 ey) := by go_simp
  have ky3_0 : (((w.alloc (.cells #[.bool sx, .slice ax nx cx, .int .i64 ex, .bool false] 69)).alloc (.cells #[.bool sy, .slice ay ny cy, .int .i64 ey, .bool false] 69)).alloc (.cells #[.bool false, .slice none 0 0, .int .i64 0, .bool false] 69)).cell? ⟨w.heap.size + 1, 3, none⟩ = some (.bool false) := by go_simp
  have hIx_0 := hIx.keep hw_0
  have hIy_0 := hIy.keep hw_0
  refine Calls.mono (cmp_calls _ _ _ _ _ _ _ _ _ hIx_0 hIy_0 (by omega) (by omega)) ?_
  rintro r w_1 ⟨_, hr, hb_1⟩
  have hz_1 := nbelow_trans hz_0 hb_1
  have hw_1 := nbelow_trans hw_0 hb_1
  have kx0_1 := dcarry_cell hb_1 kx0_0
  have kx1_1 := dcarry_cell hb_1 kx1_0
  have kx2_1 := dcarry_cell hb_1 kx2_0
  have kx3_1 := dcarry_cell hb_1 kx3_0
  have ky0_1 := dcarry_cell hb_1 ky0_0
  have ky1_1 := dcarry_cell hb_1 ky1_0
  have ky2_1 := dcarry_cell hb_1 ky2_0
  have ky3_1 := dcarry_cell hb_1 ky3_0
  have hIx_1 := hIx_0.keep hb_1
  have hIy_1 := hIy_0.keep hb_1
  clear hz_0 hw_0 kx0_0 kx1_0 kx2_0 kx3_0 ky0_0 ky1_0 ky2_0 ky3_0 hIx_0 hIy_0 hb_1
  obtain rfl := hr (by rw [val_words, val_words, HGX.out, HGY.out]; rfl)
  rw [val_words, val_words, HCM.out]
  clear hr
  have hsz : w.heap.size + 1 + 1 < w_1.heap.size := by have := hz_1.size; simp at this; omega
  go_wp2_with fail
  refine Calls.mono (LA.out _ hw_1) ?_
  rintro r w_2 ⟨v, rfl, hN, hb_2⟩
  have hz_2 := nbelow_trans hz_1 hb_2
  have hw_2 := nbelow_trans hw_1 hb_2
  have kx0_2 := dcarry_cell hb_2 kx0_1
  have kx1_2 := dcarry_cell hb_2 kx1_1
  have kx2_2 := dcarry_cell hb_2 kx2_1
  have kx3_2 := dcarry_cell hb_2 kx3_1
  have ky0_2 := dcarry_cell hb_2 ky0_1
  have ky1_2 := dcarry_cell hb_2 ky1_1
  have ky2_2 := dcarry_cell hb_2 ky2_1
  have ky3_2 := dcarry_cell hb_2 ky3_1
  have hIx_2 := hIx_1.keep hb_2
  have hIy_2 := hIy_1.keep hb_2
  clear hz_1 hw_1 kx0_1 kx1_1 kx2_1 kx3_1 ky0_1 ky1_1 ky2_1 ky3_1 hIx_1 hIy_1 hb_2
  clear LA
  rcases hN with ⟨hg, ao, nn, cc, rfl, HN, HZ, hnn, hO⟩ | ⟨hg, rfl⟩
  · obtain ⟨m0, m1, m2, m3, f0, f1, f2, f3⟩ := zero_num (w := ((w.alloc (.cells #[.bool sx, .slice ax nx cx, .int .i64 ex, .bool false] 69)).alloc (.cells #[.bool sy, .slice ay ny cy, .int .i64 ey, .bool false] 69))) (r := w.heap.size + 1 + 1) hz_2 (by simp)
    go_wp2_with fail
    refine bodyPost_ret (v := numV (formD sy (my - mx) ey).1 ao nn cc (formD sy (my - mx) ey).2.2 false) (by simp [results, Tryz.results75, go_sem, m0, m1, m2, m3]) rfl ?_
    exact ⟨_, rfl, Or.inl ⟨hg, ao, nn, cc, rfl, HN, HZ, hnn, ((((hO.far _ _ (by show w.heap.size + 1 + 1 < _; omega)).far _ _ (by show w.heap.size + 1 + 1 < _; omega)).far _ _ (by show w.heap.size + 1 + 1 < _; omega)).far _ _ (by show w.heap.size + 1 + 1 < _; omega)).low (by omega)⟩, (((hw_2.setCell (by show w.heap.size ≤ w.heap.size + 1 + 1; omega) _).setCell (by show w.heap.size ≤ w.heap.size + 1 + 1; omega) _).setCell (by show w.heap.size ≤ w.heap.size + 1 + 1; omega) _).setCell (by show w.heap.size ≤ w.heap.size + 1 + 1; omega) _⟩
  · obtain ⟨m0, m1, m2, m3, f0, f1, f2, f3⟩ := zero_num (w := ((w.alloc (.cells #[.bool sx, .slice ax nx cx, .int .i64 ex, .bool false] 69)).alloc (.cells #[.bool sy, .slice ay ny cy, .int .i64 ey, .bool false] 69))) (r := w.heap.size + 1 + 1) hz_2 (by simp)
    go_wp2_with fail
    refine bodyPost_ret (v := numV false none 0 0 0 true) (by simp [results, Tryz.results75, go_sem, m0, m1, m2, m3]) rfl ?_
    exact ⟨_, rfl, Or.inr ⟨hg, rfl⟩, (((hw_2.setCell (by show w.heap.size ≤ w.heap.size + 1 + 1; omega) _).setCell (by show w.heap.size ≤ w.heap.size + 1 + 1; omega) _).setCell (by show w.heap.size ≤ w.heap.size + 1 + 1; omega) _).setCell (by show w.heap.size ≤ w.heap.size + 1 + 1; omega) _⟩

set_option maxRecDepth 100000 in
set_option maxHeartbeats 2000000 in
theorem apart_many (sx : Bool) (ax : Option Addr) (nx cx : Nat) (mx : Nat) (ex : Int) (sy : Bool) (ay : Option Addr) (ny cy : Nat) (my : Nat) (ey : Int) (w : World) (hIx : IsW w ax nx cx (wordsOf mx)) (hnx : nx ≤ 1024) (hgx : greatB mx = false) (hex : -100000000 ≤ ex ∧ ex ≤ 100000000) (hIy : IsW w ay ny cy (wordsOf my)) (_hny : ny ≤ 1024) (hgy : greatB my = false) (hey : -100000000 ≤ ey ∧ ey ≤ 100000000) (hT : Tab w) (dd : Nat) (hd : 0 < dd) (hdd0 : ex = ey + (dd : Int)) (h1 : shlR mx ((dd - 1 : Nat) : Int) = (0, 3)) (h2 : greatB (formD sx (mx * 2 ^ dd - my) ey).2.1 = true) :
    Calls Tryz.prog 76 #[numV sx ax nx cx ex false, numV sy ay ny cy ey false] w fun r w' => ∃ v, r = .returned v ∧ NumR w.heap.size w' v (formD sx (mx * 2 ^ dd - my) ey) ∧ Below w.heap.size w w' := by
  obtain ⟨hex1, hex2⟩ := hex
  obtain ⟨hey1, hey2⟩ := hey
  have HGX : Hid (greatB mx = false) := hgx
  have HGY : Hid (greatB my = false) := hgy
  have hdd : ex - ey - 1 = ((dd - 1 : Nat) : Int) := by omega
  have H1 : Hid (shlR mx ((dd - 1 : Nat) : Int) = (0, 3)) := h1
  have H2 : Hid (greatB (formD sx (mx * 2 ^ dd - my) ey).2.1 = true) := h2
  clear h1 h2 hgx hgy hdd0
  go_enter Tryz.func76, Tryz.ntmps76
  go_wp2_with fail
  have hz_0 : Below (((w.alloc (.cells #[.bool sx, .slice ax nx cx, .int .i64 ex, .bool false] 69)).alloc (.cells #[.bool sy, .slice ay ny cy, .int .i64 ey, .bool false] 69)).alloc (.cells #[.bool false, .slice none 0 0, .int .i64 0, .bool false] 69)).heap.size (((w.alloc (.cells #[.bool sx, .slice ax nx cx, .int .i64 ex, .bool false] 69)).alloc (.cells #[.bool sy, .slice ay ny cy, .int .i64 ey, .bool false] 69)).alloc (.cells #[.bool false, .slice none 0 0, .int .i64 0, .bool false] 69)) (((w.alloc (.cells #[.bool sx, .slice ax nx cx, .int .i64 ex, .bool false] 69)).alloc (.cells #[.bool sy, .slice ay ny cy, .int .i64 ey, .bool false] 69)).alloc (.cells #[.bool false, .slice none 0 0, .int .i64 0, .bool false] 69)) := Below.refl _ _
  have hw_0 : Below w.heap.size w (((w.alloc (.cells #[.bool sx, .slice ax nx cx, .int .i64 ex, .bool false] 69)).alloc (.cells #[.bool sy, .slice ay ny cy, .int .i64 ey, .bool false] 69)).alloc (.cells #[.bool false, .slice none 0 0, .int .i64 0, .bool false] 69)) := by repeat (first | exact Below.refl _ _ | refine Below.alloc ?_ (by simp; try omega) _)
  have kx0_0 : (((w.alloc (.cells #[.bool sx, .slice ax nx cx, .int .i64 ex, .bool false] 69)).alloc (.cells #[.bool sy, .slice ay ny cy, .int .i64 ey, .bool false] 69)).alloc (.cells #[.bool false, .slice none 0 0, .int .i64 0, .bool false] 69)).cell? ⟨w.heap.size, 0, none⟩ = some (.bool sx) := by go_simp
  have kx1_0 : (((w.alloc (.cells #[.bool sx, .slice ax nx cx, .int .i64 ex, .bool false] 69)).alloc (.cells #[.bool sy, .slice ay ny cy, .int .i64 ey, .bool false] 69)).alloc (.cells #[.bool false, .slice none 0 0, .int .i64 0, .bool false] 69)).cell? ⟨w.heap.size, 1, none⟩ = some (.slice ax nx cx) := by go_simp
  have kx2_0 : (((w.alloc (.cells #[.bool sx, .slice ax nx cx, .int .i64 ex, .bool false] 69)).alloc (.cells #[.bool sy, .slice ay ny cy, .int .i64 ey, .bool false] 69)).alloc (.cells #[.bool false, .slice none 0 0, .int .i64 0, .bool false] 69)).cell? ⟨w.heap.size, 2, none⟩ = some (.int .i64 ex) := by go_simp
  have kx3_0 : (((w.alloc (.cells #[.bool sx, .slice ax nx cx, .int .i64 ex, .bool false] 69)).alloc (.cells #[.bool sy, .slice ay ny cy, .int .i64 ey, .bool false] 69)).alloc (.cells #[.bool false, .slice none 0 0, .int .i64 0, .bool false] 69)).cell? ⟨w.heap.size, 3, none⟩ = some (.bool false) := by go_simp
  have ky0_0 : (((w.alloc (.cells #[.bool sx, .slice ax nx cx, .int .i64 ex, .bool false] 69)).alloc (.cells #[.bool sy, .slice ay ny cy, .int .i64 ey, .bool false] 69)).alloc (.cells #[.bool false, .slice none 0 0, .int .i64 0, .bool false] 69)).cell? ⟨w.heap.size + 1, 0, none⟩ = some (.bool sy) := by go_simp
  have ky1_0 : (((w.alloc (.cells #[.bool sx, .slice ax nx cx, .int .i64 ex, .bool false] 69)).alloc (.cells #[.bool sy, .slice ay ny cy, .int .i64 ey, .bool false] 69)).alloc (.cells #[.bool false, .slice none 0 0, .int .i64 0, .bool false] 69)).cell? ⟨w.heap.size + 1, 1, none⟩ = some (.slice ay ny cy) := by go_simp
  have ky2_0 : (((w.alloc (.cells #[.bool sx, .slice ax nx cx, .int .i64 ex, .bool false] 69)).alloc (.cells #[.bool sy, .slice ay ny cy, .int .i64 ey, .bool false] 69)).alloc (.cells #[.bool false, .slice none 0 0, .int .i64 0, .bool false] 69)).cell? ⟨w.heap.size + 1, 2, none⟩ = some (.int .i64 ey) := by go_simp
  have ky3_0 : (((w.alloc (.cells #[.bool sx, .slice ax nx cx, .int .i64 ex, .bool false] 69)).alloc (.cells #[.bool sy, .slice ay ny cy, .int .i64 ey, .bool false] 69)).alloc (.cells #[.bool false, .slice none 0 0, .int .i64 0, .bool false] 69)).cell? ⟨w.heap.size + 1, 3, none⟩ = some (.bool false) := by go_simp
  have hIx_0 := hIx.keep hw_0
  have hIy_0 := hIy.keep hw_0
  have hT_0 := hT.kept hw_0
  refine Calls.mono (shl_eq (i := ((dd - 1 : Nat) : Int)) (r := 0) (k := 3) hIx_0 (by omega) (by rw [val_words]; exact H1.out)) ?_
  rintro r w_1 ⟨a1, n1, c1, rfl, HN1, hn1, hO1_1, hb_1⟩
  have hz_1 := nbelow_trans hz_0 hb_1
  have hw_1 := nbelow_trans hw_0 hb_1
  have kx0_1 := dcarry_cell hb_1 kx0_0
  have kx1_1 := dcarry_cell hb_1 kx1_0
  have kx2_1 := dcarry_cell hb_1 kx2_0
  have kx3_1 := dcarry_cell hb_1 kx3_0
  have ky0_1 := dcarry_cell hb_1 ky0_0
  have ky1_1 := dcarry_cell hb_1 ky1_0
  have ky2_1 := dcarry_cell hb_1 ky2_0
  have ky3_1 := dcarry_cell hb_1 ky3_0
  have hIx_1 := hIx_0.keep hb_1
  have hIy_1 := hIy_0.keep hb_1
  have hT_1 := hT_0.kept hb_1
  clear hz_0 hw_0 kx0_0 kx1_0 kx2_0 kx3_0 ky0_0 ky1_0 ky2_0 ky3_0 hIx_0 hIy_0 hT_0 hb_1
  obtain ⟨m0, m1, m2, m3, f0, f1, f2, f3⟩ := zero_num (w := ((w.alloc (.cells #[.bool sx, .slice ax nx cx, .int .i64 ex, .bool false] 69)).alloc (.cells #[.bool sy, .slice ay ny cy, .int .i64 ey, .bool false] 69))) (r := w.heap.size + 1 + 1) hz_1 (by simp)
  go_wp2_with fail
  refine bodyPost_ret (v := numV false none 0 0 0 true) (by simp [results, Tryz.results76, go_sem, m0, m1, m2, m3]) rfl ?_
  exact ⟨_, rfl, Or.inr ⟨H2.out, rfl⟩, (((hw_1.setCell (by show w.heap.size ≤ w.heap.size + 1 + 1; omega) _).setCell (by show w.heap.size ≤ w.heap.size + 1 + 1; omega) _).setCell (by show w.heap.size ≤ w.heap.size + 1 + 1; omega) _).setCell (by show w.heap.size ≤ w.heap.size + 1 + 1; omega) _⟩

set_option maxRecDepth 100000 in
set_option maxHeartbeats 2000000 in
theorem apart_lo (sx : Bool) (ax : Option Addr) (nx cx : Nat) (mx : Nat) (ex : Int) (sy : Bool) (ay : Option Addr) (ny cy : Nat) (my : Nat) (ey : Int) (w : World) (hIx : IsW w ax nx cx (wordsOf mx)) (hnx : nx ≤ 1024) (hgx : greatB mx = false) (hex : -100000000 ≤ ex ∧ ex ≤ 100000000) (hIy : IsW w ay ny cy (wordsOf my)) (hny : ny ≤ 1024) (hgy : greatB my = false) (hey : -100000000 ≤ ey ∧ ey ≤ 100000000) (hT : Tab w) (dd : Nat) (hd : 0 < dd) (hdd0 : ex = ey + (dd : Int)) (hf : Nat) (h1 : shlR mx ((dd - 1 : Nat) : Int) = (hf, 0)) (h2 : greatB hf = false) (h3 : hf ≤ my / 2) (h4 : formD sy (2 * (my / 2 - hf) + 1) ey = (formD sy (my - mx * 2 ^ dd) ey)) :
    Calls Tryz.prog 76 #[numV sx ax nx cx ex false, numV sy ay ny cy ey false] w fun r w' => ∃ v, r = .returned v ∧ NumR w.heap.size w' v (formD sy (my - mx * 2 ^ dd) ey) ∧ Below w.heap.size w w' := by
  obtain ⟨hex1, hex2⟩ := hex
  obtain ⟨hey1, hey2⟩ := hey
  have HGX : Hid (greatB mx = false) := hgx
  have HGY : Hid (greatB my = false) := hgy
  have hdd : ex - ey - 1 = ((dd - 1 : Nat) : Int) := by omega
  have H1 : Hid (shlR mx ((dd - 1 : Nat) : Int) = (hf, 0)) := h1
  have H2 : Hid (greatB hf = false) := h2
  have H3 : Hid (hf ≤ my / 2) := h3
  have H4 : Hid (formD sy (2 * (my / 2 - hf) + 1) ey = (formD sy (my - mx * 2 ^ dd) ey)) := h4
  clear h1 h2 h3 h4 hgx hgy hdd0
  have HGH : Hid (greatB (my / 2) = false) := great_mono (Nat.div_le_self my 2) HGY.out
  go_enter Tryz.func76, Tryz.ntmps76
  go_wp2_with fail
  have hz_0 : Below (((w.alloc (.cells #[.bool sx, .slice ax nx cx, .int .i64 ex, .bool false] 69)).alloc (.cells #[.bool sy, .slice ay ny cy, .int .i64 ey, .bool false] 69)).alloc (.cells #[.bool false, .slice none 0 0, .int .i64 0, .bool false] 69)).heap.size (((w.alloc (.cells #[.bool sx, .slice ax nx cx, .int .i64 ex, .bool false] 69)).alloc (.cells #[.bool sy, .slice ay ny cy, .int .i64 ey, .bool false] 69)).alloc (.cells #[.bool false, .slice none 0 0, .int .i64 0, .bool false] 69)) (((w.alloc (.cells #[.bool sx, .slice ax nx cx, .int .i64 ex, .bool false] 69)).alloc (.cells #[.bool sy, .slice ay ny cy, .int .i64 ey, .bool false] 69)).alloc (.cells #[.bool false, .slice none 0 0, .int .i64 0, .bool false] 69)) := Below.refl _ _
  have hw_0 : Below w.heap.size w (((w.alloc (.cells #[.bool sx, .slice ax nx cx, .int .i64 ex, .bool false] 69)).alloc (.cells #[.bool sy, .slice ay ny cy, .int .i64 ey, .bool false] 69)).alloc (.cells #[.bool false, .slice none 0 0, .int .i64 0, .bool false] 69)) := by repeat (first | exact Below.refl _ _ | refine Below.alloc ?_ (by simp; try omega) _)
  have kx0_0 : (((w.alloc (.cells #[.bool sx, .slice ax nx cx, .int .i64 ex, .bool false] 69)).alloc (.cells #[.bool sy, .slice ay ny cy, .int .i64 ey, .bool false] 69)).alloc (.cells #[.bool false, .slice none 0 0, .int .i64 0, .bool false] 69)).cell? ⟨w.heap.size, 0, none⟩ = some (.bool sx) := by go_simp
  have kx1_0 : (((w.alloc (.cells #[.bool sx, .slice ax nx cx, .int .i64 ex, .bool false] 69)).alloc (.cells #[.bool sy, .slice ay ny cy, .int .i64 ey, .bool false] 69)).alloc (.cells #[.bool false, .slice none 0 0, .int .i64 0, .bool false] 69)).cell? ⟨w.heap.size, 1, none⟩ = some (.slice ax nx cx) := by go_simp
  have kx2_0 : (((w.alloc (.cells #[.bool sx, .slice ax nx cx, .int .i64 ex, .bool false] 69)).alloc (.cells #[.bool sy, .slice ay ny cy, .int .i64 ey, .bool false] 69)).alloc (.cells #[.bool false, .slice none 0 0, .int .i64 0, .bool false] 69)).cell? ⟨w.heap.size, 2, none⟩ = some (.int .i64 ex) := by go_simp
  have kx3_0 : (((w.alloc (.cells #[.bool sx, .slice ax nx cx, .int .i64 ex, .bool false] 69)).alloc (.cells #[.bool sy, .slice ay ny cy, .int .i64 ey, .bool false] 69)).alloc (.cells #[.bool false, .slice none 0 0, .int .i64 0, .bool false] 69)).cell? ⟨w.heap.size, 3, none⟩ = some (.bool false) := by go_simp
  have ky0_0 : (((w.alloc (.cells #[.bool sx, .slice ax nx cx, .int .i64 ex, .bool false] 69)).alloc (.cells #[.bool sy, .slice ay ny cy, .int .i64 ey, .bool false] 69)).alloc (.cells #[.bool false, .slice none 0 0, .int .i64 0, .bool false] 69)).cell? ⟨w.heap.size + 1, 0, none⟩ = some (.bool sy) := by go_simp
  have ky1_0 : (((w.alloc (.cells #[.bool sx, .slice ax nx cx, .int .i64 ex, .bool false] 69)).alloc (.cells #[.bool sy, .slice ay ny cy, .int .i64 ey, .bool false] 69)).alloc (.cells #[.bool false, .slice none 0 0, .int .i64 0, .bool false] 69)).cell? ⟨w.heap.size + 1, 1, none⟩ = some (.slice ay ny cy) := by go_simp
  have ky2_0 : (((w.alloc (.cells #[.bool sx, .slice ax nx cx, .int .i64 ex, .bool false] 69)).alloc (.cells #[.bool sy, .slice ay ny cy, .int .i64 ey, .bool false] 69)).alloc (.cells #[.bool false, .slice none 0 0, .int .i64 0, .bool false] 69)).cell? ⟨w.heap.size + 1, 2, none⟩ = some (.int .i64 ey) := by go_simp
  have ky3_0 : (((w.alloc (.cells #[.bool sx, .slice ax nx cx, .int .i64 ex, .bool false] 69)).alloc (.cells #[.bool sy, .slice ay ny cy, .int .i64 ey, .bool false] 69)).alloc (.cells #[.bool false, .slice none 0 0, .int .i64 0, .bool false] 69)).cell? ⟨w.heap.size + 1, 3, none⟩ = some (.bool false) := by go_simp
  have hIx_0 := hIx.keep hw_0
  have hIy_0 := hIy.keep hw_0
  have hT_0 := hT.kept hw_0
  refine Calls.mono (shl_eq (i := ((dd - 1 : Nat) : Int)) (r := hf) (k := 0) hIx_0 (by omega) (by rw [val_words]; exact H1.out)) ?_
  rintro r w_1 ⟨a1, n1, c1, rfl, HN1, hn1, hO1_1, hb_1⟩
  have hz_1 := nbelow_trans hz_0 hb_1
  have hw_1 := nbelow_trans hw_0 hb_1
  have kx0_1 := dcarry_cell hb_1 kx0_0
  have kx1_1 := dcarry_cell hb_1 kx1_0
  have kx2_1 := dcarry_cell hb_1 kx2_0
  have kx3_1 := dcarry_cell hb_1 kx3_0
  have ky0_1 := dcarry_cell hb_1 ky0_0
  have ky1_1 := dcarry_cell hb_1 ky1_0
  have ky2_1 := dcarry_cell hb_1 ky2_0
  have ky3_1 := dcarry_cell hb_1 ky3_0
  have hIx_1 := hIx_0.keep hb_1
  have hIy_1 := hIy_0.keep hb_1
  have hT_1 := hT_0.kept hb_1
  clear hz_0 hw_0 kx0_0 kx1_0 kx2_0 kx3_0 ky0_0 ky1_0 ky2_0 ky3_0 hIx_0 hIy_0 hT_0 hb_1
  go_wp2_with fail
  refine Calls.mono (shr_eq (i := 1) (r := my / 2) (l := lostB my 1) (k := 0) hIy_1 (by omega) (by omega) (by rw [val_words]; exact (shr1 HGY.out).1) (by rw [val_words]; exact (shr1 HGY.out).2.1) (by rw [val_words]; exact (shr1 HGY.out).2.2)) ?_
  rintro r w_2 ⟨a2, n2, c2, rfl, HN2, hn2, hO2_2, hb_2⟩
  have hz_2 := nbelow_trans hz_1 hb_2
  have hw_2 := nbelow_trans hw_1 hb_2
  have kx0_2 := dcarry_cell hb_2 kx0_1
  have kx1_2 := dcarry_cell hb_2 kx1_1
  have kx2_2 := dcarry_cell hb_2 kx2_1
  have kx3_2 := dcarry_cell hb_2 kx3_1
  have ky0_2 := dcarry_cell hb_2 ky0_1
  have ky1_2 := dcarry_cell hb_2 ky1_1
  have ky2_2 := dcarry_cell hb_2 ky2_1
  have ky3_2 := dcarry_cell hb_2 ky3_1
  have hIx_2 := hIx_1.keep hb_2
  have hIy_2 := hIy_1.keep hb_2
  have hT_2 := hT_1.kept hb_2
  have hO1_2 := hO1_1.keep hb_2
  clear hz_1 hw_1 kx0_1 kx1_1 kx2_1 kx3_1 ky0_1 ky1_1 ky2_1 ky3_1 hIx_1 hIy_1 hT_1 hO1_1 hb_2
  go_wp2_with fail
  refine Calls.mono (sub_eq (r := my / 2 - hf) (k := 0) hO2_2.1 hO1_2.1 (by omega) (by omega) (by rw [val_words, val_words, subR_no (by rw [HGH.out, H2.out]; rfl) H3.out])) ?_
  rintro r w_3 ⟨a3, n3, c3, rfl, HN3, hn3, hO3_3, hb_3⟩
  have hz_3 := nbelow_trans hz_2 hb_3
  have hw_3 := nbelow_trans hw_2 hb_3
  have kx0_3 := dcarry_cell hb_3 kx0_2
  have kx1_3 := dcarry_cell hb_3 kx1_2
  have kx2_3 := dcarry_cell hb_3 kx2_2
  have kx3_3 := dcarry_cell hb_3 kx3_2
  have ky0_3 := dcarry_cell hb_3 ky0_2
  have ky1_3 := dcarry_cell hb_3 ky1_2
  have ky2_3 := dcarry_cell hb_3 ky2_2
  have ky3_3 := dcarry_cell hb_3 ky3_2
  have hIx_3 := hIx_2.keep hb_3
  have hIy_3 := hIy_2.keep hb_3
  have hT_3 := hT_2.kept hb_3
  have hO1_3 := hO1_2.keep hb_3
  have hO2_3 := hO2_2.keep hb_3
  clear hz_2 hw_2 kx0_2 kx1_2 kx2_2 kx3_2 ky0_2 ky1_2 ky2_2 ky3_2 hIx_2 hIy_2 hT_2 hO1_2 hO2_2 hb_3
  have hsz : w.heap.size + 1 + 1 < w_3.heap.size := by have := hz_3.size; simp at this; omega
  go_wp2_with fail
  refine Calls.mono (twice_calls sy a3 n3 c3 (my / 2 - hf) ey w_3 hO3_3.1 (by omega) (great_mono (Nat.sub_le _ _) HGH.out) ⟨by omega, by omega⟩ hT_3) ?_
  rintro r w_4 ⟨v, rfl, hN, hb_4⟩
  have hz_4 := nbelow_trans hz_3 hb_4
  have hw_4 := nbelow_trans hw_3 hb_4
  have kx0_4 := dcarry_cell hb_4 kx0_3
  have kx1_4 := dcarry_cell hb_4 kx1_3
  have kx2_4 := dcarry_cell hb_4 kx2_3
  have kx3_4 := dcarry_cell hb_4 kx3_3
  have ky0_4 := dcarry_cell hb_4 ky0_3
  have ky1_4 := dcarry_cell hb_4 ky1_3
  have ky2_4 := dcarry_cell hb_4 ky2_3
  have ky3_4 := dcarry_cell hb_4 ky3_3
  have hIx_4 := hIx_3.keep hb_4
  have hIy_4 := hIy_3.keep hb_4
  have hT_4 := hT_3.kept hb_4
  have hO1_4 := hO1_3.keep hb_4
  have hO2_4 := hO2_3.keep hb_4
  have hO3_4 := hO3_3.keep hb_4
  clear hz_3 hw_3 kx0_3 kx1_3 kx2_3 kx3_3 ky0_3 ky1_3 ky2_3 ky3_3 hIx_3 hIy_3 hT_3 hO1_3 hO2_3 hO3_3 hb_4
  rw [H4.out] at hN
  rcases hN with ⟨hg, ao, nn, cc, rfl, HN, HZ, hnn, hO⟩ | ⟨hg, rfl⟩
  · obtain ⟨m0, m1, m2, m3, f0, f1, f2, f3⟩ := zero_num (w := ((w.alloc (.cells #[.bool sx, .slice ax nx cx, .int .i64 ex, .bool false] 69)).alloc (.cells #[.bool sy, .slice ay ny cy, .int .i64 ey, .bool false] 69))) (r := w.heap.size + 1 + 1) hz_4 (by simp)
    go_wp2_with fail
    refine bodyPost_ret (v := numV (formD sy (my - mx * 2 ^ dd) ey).1 ao nn cc (formD sy (my - mx * 2 ^ dd) ey).2.2 false) (by simp [results, Tryz.results76, go_sem, m0, m1, m2, m3]) rfl ?_
    exact ⟨_, rfl, Or.inl ⟨hg, ao, nn, cc, rfl, HN, HZ, hnn, ((((hO.far _ _ (by show w.heap.size + 1 + 1 < _; omega)).far _ _ (by show w.heap.size + 1 + 1 < _; omega)).far _ _ (by show w.heap.size + 1 + 1 < _; omega)).far _ _ (by show w.heap.size + 1 + 1 < _; omega)).low (by omega)⟩, (((hw_4.setCell (by show w.heap.size ≤ w.heap.size + 1 + 1; omega) _).setCell (by show w.heap.size ≤ w.heap.size + 1 + 1; omega) _).setCell (by show w.heap.size ≤ w.heap.size + 1 + 1; omega) _).setCell (by show w.heap.size ≤ w.heap.size + 1 + 1; omega) _⟩
  · obtain ⟨m0, m1, m2, m3, f0, f1, f2, f3⟩ := zero_num (w := ((w.alloc (.cells #[.bool sx, .slice ax nx cx, .int .i64 ex, .bool false] 69)).alloc (.cells #[.bool sy, .slice ay ny cy, .int .i64 ey, .bool false] 69))) (r := w.heap.size + 1 + 1) hz_4 (by simp)
    go_wp2_with fail
    refine bodyPost_ret (v := numV false none 0 0 0 true) (by simp [results, Tryz.results76, go_sem, m0, m1, m2, m3]) rfl ?_
    exact ⟨_, rfl, Or.inr ⟨hg, rfl⟩, (((hw_4.setCell (by show w.heap.size ≤ w.heap.size + 1 + 1; omega) _).setCell (by show w.heap.size ≤ w.heap.size + 1 + 1; omega) _).setCell (by show w.heap.size ≤ w.heap.size + 1 + 1; omega) _).setCell (by show w.heap.size ≤ w.heap.size + 1 + 1; omega) _⟩

set_option maxRecDepth 100000 in
set_option maxHeartbeats 2000000 in
theorem apart_hi (sx : Bool) (ax : Option Addr) (nx cx : Nat) (mx : Nat) (ex : Int) (sy : Bool) (ay : Option Addr) (ny cy : Nat) (my : Nat) (ey : Int) (w : World) (hIx : IsW w ax nx cx (wordsOf mx)) (hnx : nx ≤ 1024) (hgx : greatB mx = false) (hex : -100000000 ≤ ex ∧ ex ≤ 100000000) (hIy : IsW w ay ny cy (wordsOf my)) (hny : ny ≤ 1024) (hgy : greatB my = false) (hey : -100000000 ≤ ey ∧ ey ≤ 100000000) (hT : Tab w) (dd : Nat) (hd : 0 < dd) (hdd0 : ex = ey + (dd : Int)) (hf : Nat) (h1 : shlR mx ((dd - 1 : Nat) : Int) = (hf, 0)) (h2 : greatB hf = false) (h3 : my / 2 < hf) (h4 : formD sx (2 * (hf - my / 2 - 1) + 1) ey = (formD sx (mx * 2 ^ dd - my) ey)) :
    Calls Tryz.prog 76 #[numV sx ax nx cx ex false, numV sy ay ny cy ey false] w fun r w' => ∃ v, r = .returned v ∧ NumR w.heap.size w' v (formD sx (mx * 2 ^ dd - my) ey) ∧ Below w.heap.size w w' := by
  obtain ⟨hex1, hex2⟩ := hex
  obtain ⟨hey1, hey2⟩ := hey
  have HGX : Hid (greatB mx = false) := hgx
  have HGY : Hid (greatB my = false) := hgy
  have hdd : ex - ey - 1 = ((dd - 1 : Nat) : Int) := by omega
  have H1 : Hid (shlR mx ((dd - 1 : Nat) : Int) = (hf, 0)) := h1
  have H2 : Hid (greatB hf = false) := h2
  have H3 : Hid (my / 2 < hf) := h3
  have H4 : Hid (formD sx (2 * (hf - my / 2 - 1) + 1) ey = (formD sx (mx * 2 ^ dd - my) ey)) := h4
  clear h1 h2 h3 h4 hgx hgy hdd0
  have HGH : Hid (greatB (my / 2) = false) := great_mono (Nat.div_le_self my 2) HGY.out
  go_enter Tryz.func76, Tryz.ntmps76
  go_wp2_with fail
  have hz_0 : Below (((w.alloc (.cells #[.bool sx, .slice ax nx cx, .int .i64 ex, .bool false] 69)).alloc (.cells #[.bool sy, .slice ay ny cy, .int .i64 ey, .bool false] 69)).alloc (.cells #[.bool false, .slice none 0 0, .int .i64 0, .bool false] 69)).heap.size (((w.alloc (.cells #[.bool sx, .slice ax nx cx, .int .i64 ex, .bool false] 69)).alloc (.cells #[.bool sy, .slice ay ny cy, .int .i64 ey, .bool false] 69)).alloc (.cells #[.bool false, .slice none 0 0, .int .i64 0, .bool false] 69)) (((w.alloc (.cells #[.bool sx, .slice ax nx cx, .int .i64 ex, .bool false] 69)).alloc (.cells #[.bool sy, .slice ay ny cy, .int .i64 ey, .bool false] 69)).alloc (.cells #[.bool false, .slice none 0 0, .int .i64 0, .bool false] 69)) := Below.refl _ _
  have hw_0 : Below w.heap.size w (((w.alloc (.cells #[.bool sx, .slice ax nx cx, .int .i64 ex, .bool false] 69)).alloc (.cells #[.bool sy, .slice ay ny cy, .int .i64 ey, .bool false] 69)).alloc (.cells #[.bool false, .slice none 0 0, .int .i64 0, .bool false] 69)) := by repeat (first | exact Below.refl _ _ | refine Below.alloc ?_ (by simp; try omega) _)
  have kx0_0 : (((w.alloc (.cells #[.bool sx, .slice ax nx cx, .int .i64 ex, .bool false] 69)).alloc (.cells #[.bool sy, .slice ay ny cy, .int .i64 ey, .bool false] 69)).alloc (.cells #[.bool false, .slice none 0 0, .int .i64 0, .bool false] 69)).cell? ⟨w.heap.size, 0, none⟩ = some (.bool sx) := by go_simp
  have kx1_0 : (((w.alloc (.cells #[.bool sx, .slice ax nx cx, .int .i64 ex, .bool false] 69)).alloc (.cells #[.bool sy, .slice ay ny cy, .int .i64 ey, .bool false] 69)).alloc (.cells #[.bool false, .slice none 0 0, .int .i64 0, .bool false] 69)).cell? ⟨w.heap.size, 1, none⟩ = some (.slice ax nx cx) := by go_simp
  have kx2_0 : (((w.alloc (.cells #[.bool sx, .slice ax nx cx, .int .i64 ex, .bool false] 69)).alloc (.cells #[.bool sy, .slice ay ny cy, .int .i64 ey, .bool false] 69)).alloc (.cells #[.bool false, .slice none 0 0, .int .i64 0, .bool false] 69)).cell? ⟨w.heap.size, 2, none⟩ = some (.int .i64 ex) := by go_simp
  have kx3_0 : (((w.alloc (.cells #[.bool sx, .slice ax nx cx, .int .i64 ex, .bool false] 69)).alloc (.cells #[.bool sy, .slice ay ny cy, .int .i64 ey, .bool false] 69)).alloc (.cells #[.bool false, .slice none 0 0, .int .i64 0, .bool false] 69)).cell? ⟨w.heap.size, 3, none⟩ = some (.bool false) := by go_simp
  have ky0_0 : (((w.alloc (.cells #[.bool sx, .slice ax nx cx, .int .i64 ex, .bool false] 69)).alloc (.cells #[.bool sy, .slice ay ny cy, .int .i64 ey, .bool false] 69)).alloc (.cells #[.bool false, .slice none 0 0, .int .i64 0, .bool false] 69)).cell? ⟨w.heap.size + 1, 0, none⟩ = some (.bool sy) := by go_simp
  have ky1_0 : (((w.alloc (.cells #[.bool sx, .slice ax nx cx, .int .i64 ex, .bool false] 69)).alloc (.cells #[.bool sy, .slice ay ny cy, .int .i64 ey, .bool false] 69)).alloc (.cells #[.bool false, .slice none 0 0, .int .i64 0, .bool false] 69)).cell? ⟨w.heap.size + 1, 1, none⟩ = some (.slice ay ny cy) := by go_simp
  have ky2_0 : (((w.alloc (.cells #[.bool sx, .slice ax nx cx, .int .i64 ex, .bool false] 69)).alloc (.cells #[.bool sy, .slice ay ny cy, .int .i64 ey, .bool false] 69)).alloc (.cells #[.bool false, .slice none 0 0, .int .i64 0, .bool false] 69)).cell? ⟨w.heap.size + 1, 2, none⟩ = some (.int .i64 ey) := by go_simp
  have ky3_0 : (((w.alloc (.cells #[.bool sx, .slice ax nx cx, .int .i64 ex, .bool false] 69)).alloc (.cells #[.bool sy, .slice ay ny cy, .int .i64 ey, .bool false] 69)).alloc (.cells #[.bool false, .slice none 0 0, .int .i64 0, .bool false] 69)).cell? ⟨w.heap.size + 1, 3, none⟩ = some (.bool false) := by go_simp
  have hIx_0 := hIx.keep hw_0
  have hIy_0 := hIy.keep hw_0
  have hT_0 := hT.kept hw_0
  refine Calls.mono (shl_eq (i := ((dd - 1 : Nat) : Int)) (r := hf) (k := 0) hIx_0 (by omega) (by rw [val_words]; exact H1.out)) ?_
  rintro r w_1 ⟨a1, n1, c1, rfl, HN1, hn1, hO1_1, hb_1⟩
  have hz_1 := nbelow_trans hz_0 hb_1
  have hw_1 := nbelow_trans hw_0 hb_1
  have kx0_1 := dcarry_cell hb_1 kx0_0
  have kx1_1 := dcarry_cell hb_1 kx1_0
  have kx2_1 := dcarry_cell hb_1 kx2_0
  have kx3_1 := dcarry_cell hb_1 kx3_0
  have ky0_1 := dcarry_cell hb_1 ky0_0
  have ky1_1 := dcarry_cell hb_1 ky1_0
  have ky2_1 := dcarry_cell hb_1 ky2_0
  have ky3_1 := dcarry_cell hb_1 ky3_0
  have hIx_1 := hIx_0.keep hb_1
  have hIy_1 := hIy_0.keep hb_1
  have hT_1 := hT_0.kept hb_1
  clear hz_0 hw_0 kx0_0 kx1_0 kx2_0 kx3_0 ky0_0 ky1_0 ky2_0 ky3_0 hIx_0 hIy_0 hT_0 hb_1
  go_wp2_with fail
  refine Calls.mono (shr_eq (i := 1) (r := my / 2) (l := lostB my 1) (k := 0) hIy_1 (by omega) (by omega) (by rw [val_words]; exact (shr1 HGY.out).1) (by rw [val_words]; exact (shr1 HGY.out).2.1) (by rw [val_words]; exact (shr1 HGY.out).2.2)) ?_
  rintro r w_2 ⟨a2, n2, c2, rfl, HN2, hn2, hO2_2, hb_2⟩
  have hz_2 := nbelow_trans hz_1 hb_2
  have hw_2 := nbelow_trans hw_1 hb_2
  have kx0_2 := dcarry_cell hb_2 kx0_1
  have kx1_2 := dcarry_cell hb_2 kx1_1
  have kx2_2 := dcarry_cell hb_2 kx2_1
  have kx3_2 := dcarry_cell hb_2 kx3_1
  have ky0_2 := dcarry_cell hb_2 ky0_1
  have ky1_2 := dcarry_cell hb_2 ky1_1
  have ky2_2 := dcarry_cell hb_2 ky2_1
  have ky3_2 := dcarry_cell hb_2 ky3_1
  have hIx_2 := hIx_1.keep hb_2
  have hIy_2 := hIy_1.keep hb_2
  have hT_2 := hT_1.kept hb_2
  have hO1_2 := hO1_1.keep hb_2
  clear hz_1 hw_1 kx0_1 kx1_1 kx2_1 kx3_1 ky0_1 ky1_1 ky2_1 ky3_1 hIx_1 hIy_1 hT_1 hO1_1 hb_2
  go_wp2_with fail
  refine Calls.mono (sub_eq (r := 0) (k := 31) hO2_2.1 hO1_2.1 (by omega) (by omega) (by rw [val_words, val_words, subR_less (by rw [HGH.out, H2.out]; rfl) H3.out])) ?_
  rintro r w_3 ⟨a3, n3, c3, rfl, HN3, hn3, hO3_3, hb_3⟩
  have hz_3 := nbelow_trans hz_2 hb_3
  have hw_3 := nbelow_trans hw_2 hb_3
  have kx0_3 := dcarry_cell hb_3 kx0_2
  have kx1_3 := dcarry_cell hb_3 kx1_2
  have kx2_3 := dcarry_cell hb_3 kx2_2
  have kx3_3 := dcarry_cell hb_3 kx3_2
  have ky0_3 := dcarry_cell hb_3 ky0_2
  have ky1_3 := dcarry_cell hb_3 ky1_2
  have ky2_3 := dcarry_cell hb_3 ky2_2
  have ky3_3 := dcarry_cell hb_3 ky3_2
  have hIx_3 := hIx_2.keep hb_3
  have hIy_3 := hIy_2.keep hb_3
  have hT_3 := hT_2.kept hb_3
  have hO1_3 := hO1_2.keep hb_3
  have hO2_3 := hO2_2.keep hb_3
  clear hz_2 hw_2 kx0_2 kx1_2 kx2_2 kx3_2 ky0_2 ky1_2 ky2_2 ky3_2 hIx_2 hIy_2 hT_2 hO1_2 hO2_2 hb_3
  go_wp2_with fail
  refine Calls.mono (sub_eq (r := hf - my / 2) (k := 0) hO1_3.1 hO2_3.1 (by omega) (by omega) (by rw [val_words, val_words, subR_no (by rw [HGH.out, H2.out]; rfl) (Nat.le_of_lt H3.out)])) ?_
  rintro r w_4 ⟨a4, n4, c4, rfl, HN4, hn4, hO4_4, hb_4⟩
  have hz_4 := nbelow_trans hz_3 hb_4
  have hw_4 := nbelow_trans hw_3 hb_4
  have kx0_4 := dcarry_cell hb_4 kx0_3
  have kx1_4 := dcarry_cell hb_4 kx1_3
  have kx2_4 := dcarry_cell hb_4 kx2_3
  have kx3_4 := dcarry_cell hb_4 kx3_3
  have ky0_4 := dcarry_cell hb_4 ky0_3
  have ky1_4 := dcarry_cell hb_4 ky1_3
  have ky2_4 := dcarry_cell hb_4 ky2_3
  have ky3_4 := dcarry_cell hb_4 ky3_3
  have hIx_4 := hIx_3.keep hb_4
  have hIy_4 := hIy_3.keep hb_4
  have hT_4 := hT_3.kept hb_4
  have hO1_4 := hO1_3.keep hb_4
  have hO2_4 := hO2_3.keep hb_4
  clear hz_3 hw_3 kx0_3 kx1_3 kx2_3 kx3_3 ky0_3 ky1_3 ky2_3 ky3_3 hIx_3 hIy_3 hT_3 hO1_3 hO2_3 hb_4
  go_wp2_with fail
  refine Calls.mono (of_eq 1 _ (by decide)) ?_
  rintro r w_5 ⟨a5, n5, c5, rfl, HN5, hn5, hO5_5, hb_5⟩
  have hz_5 := nbelow_trans hz_4 hb_5
  have hw_5 := nbelow_trans hw_4 hb_5
  have kx0_5 := dcarry_cell hb_5 kx0_4
  have kx1_5 := dcarry_cell hb_5 kx1_4
  have kx2_5 := dcarry_cell hb_5 kx2_4
  have kx3_5 := dcarry_cell hb_5 kx3_4
  have ky0_5 := dcarry_cell hb_5 ky0_4
  have ky1_5 := dcarry_cell hb_5 ky1_4
  have ky2_5 := dcarry_cell hb_5 ky2_4
  have ky3_5 := dcarry_cell hb_5 ky3_4
  have hIx_5 := hIx_4.keep hb_5
  have hIy_5 := hIy_4.keep hb_5
  have hT_5 := hT_4.kept hb_5
  have hO1_5 := hO1_4.keep hb_5
  have hO2_5 := hO2_4.keep hb_5
  have hO4_5 := hO4_4.keep hb_5
  clear hz_4 hw_4 kx0_4 kx1_4 kx2_4 kx3_4 ky0_4 ky1_4 ky2_4 ky3_4 hIx_4 hIy_4 hT_4 hO1_4 hO2_4 hO4_4 hb_5
  go_wp2_with fail
  refine Calls.mono (sub_eq (r := hf - my / 2 - 1) (k := 0) hO4_5.1 hO5_5.1 (by omega) (by omega) (by rw [val_words, val_words, subR_no (by rw [great_mono (Nat.sub_le _ _) H2.out, great_one]; rfl) (by have := H3.out; omega)])) ?_
  rintro r w_6 ⟨a6, n6, c6, rfl, HN6, hn6, hO6_6, hb_6⟩
  have hz_6 := nbelow_trans hz_5 hb_6
  have hw_6 := nbelow_trans hw_5 hb_6
  have kx0_6 := dcarry_cell hb_6 kx0_5
  have kx1_6 := dcarry_cell hb_6 kx1_5
  have kx2_6 := dcarry_cell hb_6 kx2_5
  have kx3_6 := dcarry_cell hb_6 kx3_5
  have ky0_6 := dcarry_cell hb_6 ky0_5
  have ky1_6 := dcarry_cell hb_6 ky1_5
  have ky2_6 := dcarry_cell hb_6 ky2_5
  have ky3_6 := dcarry_cell hb_6 ky3_5
  have hIx_6 := hIx_5.keep hb_6
  have hIy_6 := hIy_5.keep hb_6
  have hT_6 := hT_5.kept hb_6
  have hO1_6 := hO1_5.keep hb_6
  have hO2_6 := hO2_5.keep hb_6
  have hO4_6 := hO4_5.keep hb_6
  have hO5_6 := hO5_5.keep hb_6
  clear hz_5 hw_5 kx0_5 kx1_5 kx2_5 kx3_5 ky0_5 ky1_5 ky2_5 ky3_5 hIx_5 hIy_5 hT_5 hO1_5 hO2_5 hO4_5 hO5_5 hb_6
  have hsz : w.heap.size + 1 + 1 < w_6.heap.size := by have := hz_6.size; simp at this; omega
  go_wp2_with fail
  refine Calls.mono (twice_calls sx a6 n6 c6 (hf - my / 2 - 1) ey w_6 hO6_6.1 (by omega) (great_mono (Nat.le_trans (Nat.sub_le _ _) (Nat.sub_le _ _)) H2.out) ⟨by omega, by omega⟩ hT_6) ?_
  rintro r w_7 ⟨v, rfl, hN, hb_7⟩
  have hz_7 := nbelow_trans hz_6 hb_7
  have hw_7 := nbelow_trans hw_6 hb_7
  have kx0_7 := dcarry_cell hb_7 kx0_6
  have kx1_7 := dcarry_cell hb_7 kx1_6
  have kx2_7 := dcarry_cell hb_7 kx2_6
  have kx3_7 := dcarry_cell hb_7 kx3_6
  have ky0_7 := dcarry_cell hb_7 ky0_6
  have ky1_7 := dcarry_cell hb_7 ky1_6
  have ky2_7 := dcarry_cell hb_7 ky2_6
  have ky3_7 := dcarry_cell hb_7 ky3_6
  have hIx_7 := hIx_6.keep hb_7
  have hIy_7 := hIy_6.keep hb_7
  have hT_7 := hT_6.kept hb_7
  have hO1_7 := hO1_6.keep hb_7
  have hO2_7 := hO2_6.keep hb_7
  have hO4_7 := hO4_6.keep hb_7
  have hO5_7 := hO5_6.keep hb_7
  have hO6_7 := hO6_6.keep hb_7
  clear hz_6 hw_6 kx0_6 kx1_6 kx2_6 kx3_6 ky0_6 ky1_6 ky2_6 ky3_6 hIx_6 hIy_6 hT_6 hO1_6 hO2_6 hO4_6 hO5_6 hO6_6 hb_7
  rw [H4.out] at hN
  rcases hN with ⟨hg, ao, nn, cc, rfl, HN, HZ, hnn, hO⟩ | ⟨hg, rfl⟩
  · obtain ⟨m0, m1, m2, m3, f0, f1, f2, f3⟩ := zero_num (w := ((w.alloc (.cells #[.bool sx, .slice ax nx cx, .int .i64 ex, .bool false] 69)).alloc (.cells #[.bool sy, .slice ay ny cy, .int .i64 ey, .bool false] 69))) (r := w.heap.size + 1 + 1) hz_7 (by simp)
    go_wp2_with fail
    refine bodyPost_ret (v := numV (formD sx (mx * 2 ^ dd - my) ey).1 ao nn cc (formD sx (mx * 2 ^ dd - my) ey).2.2 false) (by simp [results, Tryz.results76, go_sem, m0, m1, m2, m3]) rfl ?_
    exact ⟨_, rfl, Or.inl ⟨hg, ao, nn, cc, rfl, HN, HZ, hnn, ((((hO.far _ _ (by show w.heap.size + 1 + 1 < _; omega)).far _ _ (by show w.heap.size + 1 + 1 < _; omega)).far _ _ (by show w.heap.size + 1 + 1 < _; omega)).far _ _ (by show w.heap.size + 1 + 1 < _; omega)).low (by omega)⟩, (((hw_7.setCell (by show w.heap.size ≤ w.heap.size + 1 + 1; omega) _).setCell (by show w.heap.size ≤ w.heap.size + 1 + 1; omega) _).setCell (by show w.heap.size ≤ w.heap.size + 1 + 1; omega) _).setCell (by show w.heap.size ≤ w.heap.size + 1 + 1; omega) _⟩
  · obtain ⟨m0, m1, m2, m3, f0, f1, f2, f3⟩ := zero_num (w := ((w.alloc (.cells #[.bool sx, .slice ax nx cx, .int .i64 ex, .bool false] 69)).alloc (.cells #[.bool sy, .slice ay ny cy, .int .i64 ey, .bool false] 69))) (r := w.heap.size + 1 + 1) hz_7 (by simp)
    go_wp2_with fail
    refine bodyPost_ret (v := numV false none 0 0 0 true) (by simp [results, Tryz.results76, go_sem, m0, m1, m2, m3]) rfl ?_
    exact ⟨_, rfl, Or.inr ⟨hg, rfl⟩, (((hw_7.setCell (by show w.heap.size ≤ w.heap.size + 1 + 1; omega) _).setCell (by show w.heap.size ≤ w.heap.size + 1 + 1; omega) _).setCell (by show w.heap.size ≤ w.heap.size + 1 + 1; omega) _).setCell (by show w.heap.size ≤ w.heap.size + 1 + 1; omega) _⟩

end Go.Proofs.YtjapgogiaklodaaGreatDoor

namespace Go.Proofs.YtjapgogiaklodaaGreatDoor
open Go.RowKit

set_option maxRecDepth 100000 in
set_option maxHeartbeats 2000000 in
theorem plus_zx (B : Nat) (sx : Bool) (ax : Option Addr) (nx cx : Nat) (ex : Int) (sy : Bool) (ay : Option Addr) (ny cy : Nat) (my : Nat) (ey : Int) (w : World) (hIy : OwnW B w ay ny cy (wordsOf my)) (HNy : Hid (ny = (wordsOf my).length)) (HZy : Hid (ny = 0 → ay = none ∧ cy = 0)) (hny : ny ≤ 1024) (hgy : greatB my = false) (hz : nx = 0) :
    Calls Tryz.prog 38 #[numV sx ax nx cx ex false, numV sy ay ny cy ey false] w fun r w' => ∃ v, r = .returned v ∧ NumR B w' v (sy, my, ey) ∧ Below w.heap.size w w' := by
  subst hz
  go_enter Tryz.func38, Tryz.ntmps38
  go_wp2_with fail
  refine Calls.mono (zero_calls sx ax 0 cx ex false _) ?_
  rintro r w1 ⟨rfl, rfl⟩
  go_wp2_with fail
  refine bodyPost_ret (v := numV sy ay ny cy ey false) (by simp [results, Tryz.results38, go_sem]) rfl ⟨_, rfl, Or.inl ⟨hgy, ay, ny, cy, rfl, HNy, HZy, hny, hIy.keep (by repeat (first | exact Below.refl _ _ | refine Below.alloc ?_ (by simp; try omega) _))⟩, by repeat (first | exact Below.refl _ _ | refine Below.alloc ?_ (by simp; try omega) _)⟩

set_option maxRecDepth 100000 in
set_option maxHeartbeats 2000000 in
theorem plus_zy (B : Nat) (sx : Bool) (ax : Option Addr) (nx cx : Nat) (mx : Nat) (ex : Int) (sy : Bool) (ay : Option Addr) (ny cy : Nat) (ey : Int) (w : World) (hIx : OwnW B w ax nx cx (wordsOf mx)) (HNx : Hid (nx = (wordsOf mx).length)) (HZx : Hid (nx = 0 → ax = none ∧ cx = 0)) (hnx : nx ≤ 1024) (hgx : greatB mx = false) (hn0 : nx ≠ 0) (hz : ny = 0) :
    Calls Tryz.prog 38 #[numV sx ax nx cx ex false, numV sy ay ny cy ey false] w fun r w' => ∃ v, r = .returned v ∧ NumR B w' v (sx, mx, ex) ∧ Below w.heap.size w w' := by
  have hnx0 : ((nx : Int) == 0) = false := by simp; omega
  clear hn0
  subst hz
  go_enter Tryz.func38, Tryz.ntmps38
  go_wp2_with fail
  refine Calls.mono (zero_calls sx ax nx cx ex false _) ?_
  rintro r w1 ⟨rfl, rfl⟩
  go_wp2_with fail
  refine Calls.mono (zero_calls sy ay 0 cy ey false _) ?_
  rintro r w1 ⟨rfl, rfl⟩
  go_wp2_with fail
  refine bodyPost_ret (v := numV sx ax nx cx ex false) (by simp [results, Tryz.results38, go_sem]) rfl ⟨_, rfl, Or.inl ⟨hgx, ax, nx, cx, rfl, HNx, HZx, hnx, hIx.keep (by repeat (first | exact Below.refl _ _ | refine Below.alloc ?_ (by simp; try omega) _))⟩, by repeat (first | exact Below.refl _ _ | refine Below.alloc ?_ (by simp; try omega) _)⟩

set_option maxRecDepth 100000 in
set_option maxHeartbeats 2000000 in
theorem plus_tog (B : Nat) (sx : Bool) (ax : Option Addr) (nx cx : Nat) (ex : Int) (sy : Bool) (ay : Option Addr) (ny cy : Nat) (ey : Int) (p : Bool × Nat × Int) (w : World) (hB : B ≤ w.heap.size) (hx0 : nx ≠ 0) (hy0 : ny ≠ 0) (hle : ey ≤ ex) (hs : sx = sy)
    (hK : ∀ W, Below w.heap.size w W → Calls Tryz.prog 74 #[numV sx ax nx cx ex false, numV sy ay ny cy ey false] W fun r w' => ∃ v, r = .returned v ∧ NumR W.heap.size w' v p ∧ Below W.heap.size W w') :
    Calls Tryz.prog 38 #[numV sx ax nx cx ex false, numV sy ay ny cy ey false] w fun r w' => ∃ v, r = .returned v ∧ NumR B w' v p ∧ Below w.heap.size w w' := by
  have hnx0 : ((nx : Int) == 0) = false := by simp; omega
  have hny0 : ((ny : Int) == 0) = false := by simp; omega
  have hle2 : ¬ ex < ey := by omega
  have hss : (sx == sy) = true := by simp [hs]
  clear hs
  have HK : Hid _ := hK
  clear hK hx0 hy0
  go_enter Tryz.func38, Tryz.ntmps38
  go_wp2_with fail
  refine Calls.mono (zero_calls sx ax nx cx ex false _) ?_
  rintro r w1 ⟨rfl, rfl⟩
  go_wp2_with fail
  refine Calls.mono (zero_calls sy ay ny cy ey false _) ?_
  rintro r w1 ⟨rfl, rfl⟩
  go_wp2_with fail
  have hw_0 : Below w.heap.size w (((((w.alloc (.cells #[.bool sx, .slice ax nx cx, .int .i64 ex, .bool false] 69)).alloc (.cells #[.bool sy, .slice ay ny cy, .int .i64 ey, .bool false] 69)).alloc (.cells #[.bool false, .slice none 0 0, .int .i64 0, .bool false] 69)).alloc (.cells #[.bool sx, .slice ax nx cx, .int .i64 ex, .bool false] 69)).alloc (.cells #[.bool sy, .slice ay ny cy, .int .i64 ey, .bool false] 69)) := by repeat (first | exact Below.refl _ _ | refine Below.alloc ?_ (by simp; try omega) _)
  have hz_0 : Below (((w.alloc (.cells #[.bool sx, .slice ax nx cx, .int .i64 ex, .bool false] 69)).alloc (.cells #[.bool sy, .slice ay ny cy, .int .i64 ey, .bool false] 69)).alloc (.cells #[.bool false, .slice none 0 0, .int .i64 0, .bool false] 69)).heap.size (((w.alloc (.cells #[.bool sx, .slice ax nx cx, .int .i64 ex, .bool false] 69)).alloc (.cells #[.bool sy, .slice ay ny cy, .int .i64 ey, .bool false] 69)).alloc (.cells #[.bool false, .slice none 0 0, .int .i64 0, .bool false] 69)) (((((w.alloc (.cells #[.bool sx, .slice ax nx cx, .int .i64 ex, .bool false] 69)).alloc (.cells #[.bool sy, .slice ay ny cy, .int .i64 ey, .bool false] 69)).alloc (.cells #[.bool false, .slice none 0 0, .int .i64 0, .bool false] 69)).alloc (.cells #[.bool sx, .slice ax nx cx, .int .i64 ex, .bool false] 69)).alloc (.cells #[.bool sy, .slice ay ny cy, .int .i64 ey, .bool false] 69)) := by repeat (first | exact Below.refl _ _ | refine Below.alloc ?_ (by simp; try omega) _)
  refine Calls.mono (HK.out _ hw_0) ?_
  rintro r w_1 ⟨v, rfl, hN, hb_1⟩
  have hw_1 := nbelow_trans hw_0 hb_1
  have hz_1 := nbelow_trans hz_0 hb_1
  clear hw_0 hz_0 hb_1
  clear HK
  rcases hN with ⟨hg, ao, nn, cc, rfl, HN, HZ, hnn, hO⟩ | ⟨hg, rfl⟩
  · obtain ⟨m0, m1, m2, m3, f0, f1, f2, f3⟩ := zero_num (w := ((w.alloc (.cells #[.bool sx, .slice ax nx cx, .int .i64 ex, .bool false] 69)).alloc (.cells #[.bool sy, .slice ay ny cy, .int .i64 ey, .bool false] 69))) (r := w.heap.size + 1 + 1) hz_1 (by simp)
    go_wp2_with fail
    refine bodyPost_ret (v := numV p.1 ao nn cc p.2.2 false) (by simp [results, Tryz.results38, go_sem, m0, m1, m2, m3]) rfl ?_
    exact ⟨_, rfl, Or.inl ⟨hg, ao, nn, cc, rfl, HN, HZ, hnn, ((((hO.far _ _ (by show w.heap.size + 1 + 1 < _; simp; try omega)).far _ _ (by show w.heap.size + 1 + 1 < _; simp; try omega)).far _ _ (by show w.heap.size + 1 + 1 < _; simp; try omega)).far _ _ (by show w.heap.size + 1 + 1 < _; simp; try omega)).low (by simp; omega)⟩, (((hw_1.setCell (by show w.heap.size ≤ w.heap.size + 1 + 1; omega) _).setCell (by show w.heap.size ≤ w.heap.size + 1 + 1; omega) _).setCell (by show w.heap.size ≤ w.heap.size + 1 + 1; omega) _).setCell (by show w.heap.size ≤ w.heap.size + 1 + 1; omega) _⟩
  · obtain ⟨m0, m1, m2, m3, f0, f1, f2, f3⟩ := zero_num (w := ((w.alloc (.cells #[.bool sx, .slice ax nx cx, .int .i64 ex, .bool false] 69)).alloc (.cells #[.bool sy, .slice ay ny cy, .int .i64 ey, .bool false] 69))) (r := w.heap.size + 1 + 1) hz_1 (by simp)
    go_wp2_with fail
    refine bodyPost_ret (v := numV false none 0 0 0 true) (by simp [results, Tryz.results38, go_sem, m0, m1, m2, m3]) rfl ?_
    exact ⟨_, rfl, Or.inr ⟨hg, rfl⟩, (((hw_1.setCell (by show w.heap.size ≤ w.heap.size + 1 + 1; omega) _).setCell (by show w.heap.size ≤ w.heap.size + 1 + 1; omega) _).setCell (by show w.heap.size ≤ w.heap.size + 1 + 1; omega) _).setCell (by show w.heap.size ≤ w.heap.size + 1 + 1; omega) _⟩

set_option maxRecDepth 100000 in
set_option maxHeartbeats 2000000 in
theorem plus_lap (B : Nat) (sx : Bool) (ax : Option Addr) (nx cx : Nat) (ex : Int) (sy : Bool) (ay : Option Addr) (ny cy : Nat) (ey : Int) (p : Bool × Nat × Int) (w : World) (hB : B ≤ w.heap.size) (hx0 : nx ≠ 0) (hy0 : ny ≠ 0) (he : ex = ey) (hs : sx ≠ sy)
    (hK : ∀ W, Below w.heap.size w W → Calls Tryz.prog 75 #[numV sx ax nx cx ex false, numV sy ay ny cy ey false] W fun r w' => ∃ v, r = .returned v ∧ NumR W.heap.size w' v p ∧ Below W.heap.size W w') :
    Calls Tryz.prog 38 #[numV sx ax nx cx ex false, numV sy ay ny cy ey false] w fun r w' => ∃ v, r = .returned v ∧ NumR B w' v p ∧ Below w.heap.size w w' := by
  have hnx0 : ((nx : Int) == 0) = false := by simp; omega
  have hny0 : ((ny : Int) == 0) = false := by simp; omega
  have hle2 : ¬ ex < ey := by omega
  have hss : (sx == sy) = false := by simp [hs]
  have hee : (ex == ey) = true := by simp [he]
  clear hs he
  have HK : Hid _ := hK
  clear hK hx0 hy0
  go_enter Tryz.func38, Tryz.ntmps38
  go_wp2_with fail
  refine Calls.mono (zero_calls sx ax nx cx ex false _) ?_
  rintro r w1 ⟨rfl, rfl⟩
  go_wp2_with fail
  refine Calls.mono (zero_calls sy ay ny cy ey false _) ?_
  rintro r w1 ⟨rfl, rfl⟩
  go_wp2_with fail
  have hw_0 : Below w.heap.size w (((((w.alloc (.cells #[.bool sx, .slice ax nx cx, .int .i64 ex, .bool false] 69)).alloc (.cells #[.bool sy, .slice ay ny cy, .int .i64 ey, .bool false] 69)).alloc (.cells #[.bool false, .slice none 0 0, .int .i64 0, .bool false] 69)).alloc (.cells #[.bool sx, .slice ax nx cx, .int .i64 ex, .bool false] 69)).alloc (.cells #[.bool sy, .slice ay ny cy, .int .i64 ey, .bool false] 69)) := by repeat (first | exact Below.refl _ _ | refine Below.alloc ?_ (by simp; try omega) _)
  have hz_0 : Below (((w.alloc (.cells #[.bool sx, .slice ax nx cx, .int .i64 ex, .bool false] 69)).alloc (.cells #[.bool sy, .slice ay ny cy, .int .i64 ey, .bool false] 69)).alloc (.cells #[.bool false, .slice none 0 0, .int .i64 0, .bool false] 69)).heap.size (((w.alloc (.cells #[.bool sx, .slice ax nx cx, .int .i64 ex, .bool false] 69)).alloc (.cells #[.bool sy, .slice ay ny cy, .int .i64 ey, .bool false] 69)).alloc (.cells #[.bool false, .slice none 0 0, .int .i64 0, .bool false] 69)) (((((w.alloc (.cells #[.bool sx, .slice ax nx cx, .int .i64 ex, .bool false] 69)).alloc (.cells #[.bool sy, .slice ay ny cy, .int .i64 ey, .bool false] 69)).alloc (.cells #[.bool false, .slice none 0 0, .int .i64 0, .bool false] 69)).alloc (.cells #[.bool sx, .slice ax nx cx, .int .i64 ex, .bool false] 69)).alloc (.cells #[.bool sy, .slice ay ny cy, .int .i64 ey, .bool false] 69)) := by repeat (first | exact Below.refl _ _ | refine Below.alloc ?_ (by simp; try omega) _)
  refine Calls.mono (HK.out _ hw_0) ?_
  rintro r w_1 ⟨v, rfl, hN, hb_1⟩
  have hw_1 := nbelow_trans hw_0 hb_1
  have hz_1 := nbelow_trans hz_0 hb_1
  clear hw_0 hz_0 hb_1
  clear HK
  rcases hN with ⟨hg, ao, nn, cc, rfl, HN, HZ, hnn, hO⟩ | ⟨hg, rfl⟩
  · obtain ⟨m0, m1, m2, m3, f0, f1, f2, f3⟩ := zero_num (w := ((w.alloc (.cells #[.bool sx, .slice ax nx cx, .int .i64 ex, .bool false] 69)).alloc (.cells #[.bool sy, .slice ay ny cy, .int .i64 ey, .bool false] 69))) (r := w.heap.size + 1 + 1) hz_1 (by simp)
    go_wp2_with fail
    refine bodyPost_ret (v := numV p.1 ao nn cc p.2.2 false) (by simp [results, Tryz.results38, go_sem, m0, m1, m2, m3]) rfl ?_
    exact ⟨_, rfl, Or.inl ⟨hg, ao, nn, cc, rfl, HN, HZ, hnn, ((((hO.far _ _ (by show w.heap.size + 1 + 1 < _; simp; try omega)).far _ _ (by show w.heap.size + 1 + 1 < _; simp; try omega)).far _ _ (by show w.heap.size + 1 + 1 < _; simp; try omega)).far _ _ (by show w.heap.size + 1 + 1 < _; simp; try omega)).low (by simp; omega)⟩, (((hw_1.setCell (by show w.heap.size ≤ w.heap.size + 1 + 1; omega) _).setCell (by show w.heap.size ≤ w.heap.size + 1 + 1; omega) _).setCell (by show w.heap.size ≤ w.heap.size + 1 + 1; omega) _).setCell (by show w.heap.size ≤ w.heap.size + 1 + 1; omega) _⟩
  · obtain ⟨m0, m1, m2, m3, f0, f1, f2, f3⟩ := zero_num (w := ((w.alloc (.cells #[.bool sx, .slice ax nx cx, .int .i64 ex, .bool false] 69)).alloc (.cells #[.bool sy, .slice ay ny cy, .int .i64 ey, .bool false] 69))) (r := w.heap.size + 1 + 1) hz_1 (by simp)
    go_wp2_with fail
    refine bodyPost_ret (v := numV false none 0 0 0 true) (by simp [results, Tryz.results38, go_sem, m0, m1, m2, m3]) rfl ?_
    exact ⟨_, rfl, Or.inr ⟨hg, rfl⟩, (((hw_1.setCell (by show w.heap.size ≤ w.heap.size + 1 + 1; omega) _).setCell (by show w.heap.size ≤ w.heap.size + 1 + 1; omega) _).setCell (by show w.heap.size ≤ w.heap.size + 1 + 1; omega) _).setCell (by show w.heap.size ≤ w.heap.size + 1 + 1; omega) _⟩

set_option maxRecDepth 100000 in
set_option maxHeartbeats 2000000 in
theorem plus_apart (B : Nat) (sx : Bool) (ax : Option Addr) (nx cx : Nat) (ex : Int) (sy : Bool) (ay : Option Addr) (ny cy : Nat) (ey : Int) (p : Bool × Nat × Int) (w : World) (hB : B ≤ w.heap.size) (hx0 : nx ≠ 0) (hy0 : ny ≠ 0) (hlt : ey < ex) (hs : sx ≠ sy)
    (hK : ∀ W, Below w.heap.size w W → Calls Tryz.prog 76 #[numV sx ax nx cx ex false, numV sy ay ny cy ey false] W fun r w' => ∃ v, r = .returned v ∧ NumR W.heap.size w' v p ∧ Below W.heap.size W w') :
    Calls Tryz.prog 38 #[numV sx ax nx cx ex false, numV sy ay ny cy ey false] w fun r w' => ∃ v, r = .returned v ∧ NumR B w' v p ∧ Below w.heap.size w w' := by
  have hnx0 : ((nx : Int) == 0) = false := by simp; omega
  have hny0 : ((ny : Int) == 0) = false := by simp; omega
  have hle2 : ¬ ex < ey := by omega
  have hss : (sx == sy) = false := by simp [hs]
  have hee : (ex == ey) = false := by simp; omega
  clear hs
  have HK : Hid _ := hK
  clear hK hx0 hy0
  go_enter Tryz.func38, Tryz.ntmps38
  go_wp2_with fail
  refine Calls.mono (zero_calls sx ax nx cx ex false _) ?_
  rintro r w1 ⟨rfl, rfl⟩
  go_wp2_with fail
  refine Calls.mono (zero_calls sy ay ny cy ey false _) ?_
  rintro r w1 ⟨rfl, rfl⟩
  go_wp2_with fail
  have hw_0 : Below w.heap.size w (((((w.alloc (.cells #[.bool sx, .slice ax nx cx, .int .i64 ex, .bool false] 69)).alloc (.cells #[.bool sy, .slice ay ny cy, .int .i64 ey, .bool false] 69)).alloc (.cells #[.bool false, .slice none 0 0, .int .i64 0, .bool false] 69)).alloc (.cells #[.bool sx, .slice ax nx cx, .int .i64 ex, .bool false] 69)).alloc (.cells #[.bool sy, .slice ay ny cy, .int .i64 ey, .bool false] 69)) := by repeat (first | exact Below.refl _ _ | refine Below.alloc ?_ (by simp; try omega) _)
  have hz_0 : Below (((w.alloc (.cells #[.bool sx, .slice ax nx cx, .int .i64 ex, .bool false] 69)).alloc (.cells #[.bool sy, .slice ay ny cy, .int .i64 ey, .bool false] 69)).alloc (.cells #[.bool false, .slice none 0 0, .int .i64 0, .bool false] 69)).heap.size (((w.alloc (.cells #[.bool sx, .slice ax nx cx, .int .i64 ex, .bool false] 69)).alloc (.cells #[.bool sy, .slice ay ny cy, .int .i64 ey, .bool false] 69)).alloc (.cells #[.bool false, .slice none 0 0, .int .i64 0, .bool false] 69)) (((((w.alloc (.cells #[.bool sx, .slice ax nx cx, .int .i64 ex, .bool false] 69)).alloc (.cells #[.bool sy, .slice ay ny cy, .int .i64 ey, .bool false] 69)).alloc (.cells #[.bool false, .slice none 0 0, .int .i64 0, .bool false] 69)).alloc (.cells #[.bool sx, .slice ax nx cx, .int .i64 ex, .bool false] 69)).alloc (.cells #[.bool sy, .slice ay ny cy, .int .i64 ey, .bool false] 69)) := by repeat (first | exact Below.refl _ _ | refine Below.alloc ?_ (by simp; try omega) _)
  refine Calls.mono (HK.out _ hw_0) ?_
  rintro r w_1 ⟨v, rfl, hN, hb_1⟩
  have hw_1 := nbelow_trans hw_0 hb_1
  have hz_1 := nbelow_trans hz_0 hb_1
  clear hw_0 hz_0 hb_1
  clear HK
  rcases hN with ⟨hg, ao, nn, cc, rfl, HN, HZ, hnn, hO⟩ | ⟨hg, rfl⟩
  · obtain ⟨m0, m1, m2, m3, f0, f1, f2, f3⟩ := zero_num (w := ((w.alloc (.cells #[.bool sx, .slice ax nx cx, .int .i64 ex, .bool false] 69)).alloc (.cells #[.bool sy, .slice ay ny cy, .int .i64 ey, .bool false] 69))) (r := w.heap.size + 1 + 1) hz_1 (by simp)
    go_wp2_with fail
    refine bodyPost_ret (v := numV p.1 ao nn cc p.2.2 false) (by simp [results, Tryz.results38, go_sem, m0, m1, m2, m3]) rfl ?_
    exact ⟨_, rfl, Or.inl ⟨hg, ao, nn, cc, rfl, HN, HZ, hnn, ((((hO.far _ _ (by show w.heap.size + 1 + 1 < _; simp; try omega)).far _ _ (by show w.heap.size + 1 + 1 < _; simp; try omega)).far _ _ (by show w.heap.size + 1 + 1 < _; simp; try omega)).far _ _ (by show w.heap.size + 1 + 1 < _; simp; try omega)).low (by simp; omega)⟩, (((hw_1.setCell (by show w.heap.size ≤ w.heap.size + 1 + 1; omega) _).setCell (by show w.heap.size ≤ w.heap.size + 1 + 1; omega) _).setCell (by show w.heap.size ≤ w.heap.size + 1 + 1; omega) _).setCell (by show w.heap.size ≤ w.heap.size + 1 + 1; omega) _⟩
  · obtain ⟨m0, m1, m2, m3, f0, f1, f2, f3⟩ := zero_num (w := ((w.alloc (.cells #[.bool sx, .slice ax nx cx, .int .i64 ex, .bool false] 69)).alloc (.cells #[.bool sy, .slice ay ny cy, .int .i64 ey, .bool false] 69))) (r := w.heap.size + 1 + 1) hz_1 (by simp)
    go_wp2_with fail
    refine bodyPost_ret (v := numV false none 0 0 0 true) (by simp [results, Tryz.results38, go_sem, m0, m1, m2, m3]) rfl ?_
    exact ⟨_, rfl, Or.inr ⟨hg, rfl⟩, (((hw_1.setCell (by show w.heap.size ≤ w.heap.size + 1 + 1; omega) _).setCell (by show w.heap.size ≤ w.heap.size + 1 + 1; omega) _).setCell (by show w.heap.size ≤ w.heap.size + 1 + 1; omega) _).setCell (by show w.heap.size ≤ w.heap.size + 1 + 1; omega) _⟩

set_option maxRecDepth 100000 in
set_option maxHeartbeats 2000000 in
theorem plus_swap (B : Nat) (sx : Bool) (ax : Option Addr) (nx cx : Nat) (ex : Int) (sy : Bool) (ay : Option Addr) (ny cy : Nat) (ey : Int) (p : Bool × Nat × Int) (w : World) (hB : B ≤ w.heap.size) (hx0 : nx ≠ 0) (hy0 : ny ≠ 0) (hlt : ex < ey)
    (hK : ∀ W, Below w.heap.size w W → Calls Tryz.prog 38 #[numV sy ay ny cy ey false, numV sx ax nx cx ex false] W fun r w' => ∃ v, r = .returned v ∧ NumR W.heap.size w' v p ∧ Below W.heap.size W w') :
    Calls Tryz.prog 38 #[numV sx ax nx cx ex false, numV sy ay ny cy ey false] w fun r w' => ∃ v, r = .returned v ∧ NumR B w' v p ∧ Below w.heap.size w w' := by
  have hnx0 : ((nx : Int) == 0) = false := by simp; omega
  have hny0 : ((ny : Int) == 0) = false := by simp; omega
  have HK : Hid _ := hK
  clear hK hx0 hy0
  go_enter Tryz.func38, Tryz.ntmps38
  go_wp2_with fail
  refine Calls.mono (zero_calls sx ax nx cx ex false _) ?_
  rintro r w1 ⟨rfl, rfl⟩
  go_wp2_with fail
  refine Calls.mono (zero_calls sy ay ny cy ey false _) ?_
  rintro r w1 ⟨rfl, rfl⟩
  go_wp2_with fail
  have hw_0 : Below w.heap.size w (((((w.alloc (.cells #[.bool sx, .slice ax nx cx, .int .i64 ex, .bool false] 69)).alloc (.cells #[.bool sy, .slice ay ny cy, .int .i64 ey, .bool false] 69)).alloc (.cells #[.bool false, .slice none 0 0, .int .i64 0, .bool false] 69)).alloc (.cells #[.bool sx, .slice ax nx cx, .int .i64 ex, .bool false] 69)).alloc (.cells #[.bool sy, .slice ay ny cy, .int .i64 ey, .bool false] 69)) := by repeat (first | exact Below.refl _ _ | refine Below.alloc ?_ (by simp; try omega) _)
  have hz_0 : Below (((w.alloc (.cells #[.bool sx, .slice ax nx cx, .int .i64 ex, .bool false] 69)).alloc (.cells #[.bool sy, .slice ay ny cy, .int .i64 ey, .bool false] 69)).alloc (.cells #[.bool false, .slice none 0 0, .int .i64 0, .bool false] 69)).heap.size (((w.alloc (.cells #[.bool sx, .slice ax nx cx, .int .i64 ex, .bool false] 69)).alloc (.cells #[.bool sy, .slice ay ny cy, .int .i64 ey, .bool false] 69)).alloc (.cells #[.bool false, .slice none 0 0, .int .i64 0, .bool false] 69)) (((((w.alloc (.cells #[.bool sx, .slice ax nx cx, .int .i64 ex, .bool false] 69)).alloc (.cells #[.bool sy, .slice ay ny cy, .int .i64 ey, .bool false] 69)).alloc (.cells #[.bool false, .slice none 0 0, .int .i64 0, .bool false] 69)).alloc (.cells #[.bool sx, .slice ax nx cx, .int .i64 ex, .bool false] 69)).alloc (.cells #[.bool sy, .slice ay ny cy, .int .i64 ey, .bool false] 69)) := by repeat (first | exact Below.refl _ _ | refine Below.alloc ?_ (by simp; try omega) _)
  refine Calls.mono (HK.out _ hw_0) ?_
  rintro r w_1 ⟨v, rfl, hN, hb_1⟩
  have hw_1 := nbelow_trans hw_0 hb_1
  have hz_1 := nbelow_trans hz_0 hb_1
  clear hw_0 hz_0 hb_1
  clear HK
  rcases hN with ⟨hg, ao, nn, cc, rfl, HN, HZ, hnn, hO⟩ | ⟨hg, rfl⟩
  · obtain ⟨m0, m1, m2, m3, f0, f1, f2, f3⟩ := zero_num (w := ((w.alloc (.cells #[.bool sx, .slice ax nx cx, .int .i64 ex, .bool false] 69)).alloc (.cells #[.bool sy, .slice ay ny cy, .int .i64 ey, .bool false] 69))) (r := w.heap.size + 1 + 1) hz_1 (by simp)
    go_wp2_with fail
    refine bodyPost_ret (v := numV p.1 ao nn cc p.2.2 false) (by simp [results, Tryz.results38, go_sem, m0, m1, m2, m3]) rfl ?_
    exact ⟨_, rfl, Or.inl ⟨hg, ao, nn, cc, rfl, HN, HZ, hnn, ((((hO.far _ _ (by show w.heap.size + 1 + 1 < _; simp; try omega)).far _ _ (by show w.heap.size + 1 + 1 < _; simp; try omega)).far _ _ (by show w.heap.size + 1 + 1 < _; simp; try omega)).far _ _ (by show w.heap.size + 1 + 1 < _; simp; try omega)).low (by simp; omega)⟩, (((hw_1.setCell (by show w.heap.size ≤ w.heap.size + 1 + 1; omega) _).setCell (by show w.heap.size ≤ w.heap.size + 1 + 1; omega) _).setCell (by show w.heap.size ≤ w.heap.size + 1 + 1; omega) _).setCell (by show w.heap.size ≤ w.heap.size + 1 + 1; omega) _⟩
  · obtain ⟨m0, m1, m2, m3, f0, f1, f2, f3⟩ := zero_num (w := ((w.alloc (.cells #[.bool sx, .slice ax nx cx, .int .i64 ex, .bool false] 69)).alloc (.cells #[.bool sy, .slice ay ny cy, .int .i64 ey, .bool false] 69))) (r := w.heap.size + 1 + 1) hz_1 (by simp)
    go_wp2_with fail
    refine bodyPost_ret (v := numV false none 0 0 0 true) (by simp [results, Tryz.results38, go_sem, m0, m1, m2, m3]) rfl ?_
    exact ⟨_, rfl, Or.inr ⟨hg, rfl⟩, (((hw_1.setCell (by show w.heap.size ≤ w.heap.size + 1 + 1; omega) _).setCell (by show w.heap.size ≤ w.heap.size + 1 + 1; omega) _).setCell (by show w.heap.size ≤ w.heap.size + 1 + 1; omega) _).setCell (by show w.heap.size ≤ w.heap.size + 1 + 1; omega) _⟩

/-- The sum of two numbers in their one form: the amounts brought to the lower exponent. -/
def addHi (s : Bool) (A : Nat) (t : Bool) (b : Nat) (e : Int) : Bool × Nat × Int := if s = t then formD s (A + b) e else if b ≤ A then formD s (A - b) e else formD t (b - A) e
def sumD (x y : Bool × Nat × Int) : Bool × Nat × Int :=
  if x.2.1 = 0 then y else if y.2.1 = 0 then x else
  if x.2.2 < y.2.2 then addHi y.1 (y.2.1 * 2 ^ (y.2.2 - x.2.2).toNat) x.1 x.2.1 x.2.2 else addHi x.1 (x.2.1 * 2 ^ (x.2.2 - y.2.2).toNat) y.1 y.2.1 y.2.2

theorem apart_calls (sx : Bool) (ax : Option Addr) (nx cx : Nat) (mx : Nat) (ex : Int) (sy : Bool) (ay : Option Addr) (ny cy : Nat) (my : Nat) (ey : Int) (w : World) (hIx : IsW w ax nx cx (wordsOf mx)) (hnx : nx ≤ 1024) (hgx : greatB mx = false) (hex : -100000000 ≤ ex ∧ ex ≤ 100000000) (hIy : IsW w ay ny cy (wordsOf my)) (hny : ny ≤ 1024) (hgy : greatB my = false) (hey : -100000000 ≤ ey ∧ ey ≤ 100000000) (hT : Tab w) (hoy : my % 2 = 1) (dd : Nat) (hd : 0 < dd) (hdd : ex = ey + (dd : Int)) (hs : sx ≠ sy) :
    Calls Tryz.prog 76 #[numV sx ax nx cx ex false, numV sy ay ny cy ey false] w fun r w' => ∃ v, r = .returned v ∧ NumR w.heap.size w' v (addHi sx (mx * 2 ^ dd) sy my ey) ∧ Below w.heap.size w w' := by
  obtain ⟨k, rfl⟩ : ∃ k, dd = k + 1 := ⟨dd - 1, by omega⟩
  have hA : mx * 2 ^ (k + 1) = 2 * (mx * 2 ^ k) := by rw [Nat.pow_succ, ← Nat.mul_assoc, Nat.mul_comm]
  unfold addHi
  rw [if_neg hs]
  rcases shl_cases mx k 0 hgx with ⟨h1, h2⟩ | ⟨h1, _, h2⟩
  · by_cases h3 : mx * 2 ^ k ≤ my / 2
    · rw [if_neg (by rw [hA]; omega)]
      exact apart_lo sx ax nx cx mx ex sy ay ny cy my ey w hIx hnx hgx hex hIy hny hgy hey hT (k + 1) hd hdd (mx * 2 ^ k) h1 h2 h3 (by rw [hA]; congr 1; omega)
    · rw [if_pos (by rw [hA]; omega)]
      exact apart_hi sx ax nx cx mx ex sy ay ny cy my ey w hIx hnx hgx hex hIy hny hgy hey hT (k + 1) hd hdd (mx * 2 ^ k) h1 h2 (by omega) (by rw [hA]; congr 1; omega)
  · have h4 : 2 ^ 65536 ≤ mx * 2 ^ k := by
      rcases Nat.lt_or_ge (mx * 2 ^ k) (2 ^ 65536) with q | q
      · have := (blen_le _ _).2 q
        omega
      · exact q
    have h5 := (blen_le my 65536).1 ((great_not my).1 hgy)
    rw [if_pos (by rw [hA]; exact Nat.le_trans (Nat.le_of_lt h5) (Nat.le_trans h4 (by omega)))]
    refine apart_many sx ax nx cx mx ex sy ay ny cy my ey w hIx hnx hgx hex hIy hny hgy hey hT (k + 1) hd hdd h1 ?_
    rw [form_odd sx (by rw [hA]; omega)]
    show greatB (mx * 2 ^ (k + 1) - my) = true
    rw [great_iff, hA]
    rcases Nat.lt_or_ge 65536 (blen (2 * (mx * 2 ^ k) - my)) with q | q
    · exact q
    · have h6 := (blen_le _ _).1 q
      exfalso
      generalize 2 ^ 65536 = P at h4 h5 h6
      omega

theorem plus_nz (vx vy : Value) (B : Nat) (x y : Bool × Nat × Int) (w : World) (hX : NumAt B w vx x) (hY : NumAt B w vy y) (gx : greatB x.2.1 = false) (gy : greatB y.2.1 = false) (cx : CanD x) (cy : CanD y) (ex : -100000000 ≤ x.2.2 ∧ x.2.2 ≤ 100000000) (ey : -100000000 ≤ y.2.2 ∧ y.2.2 ≤ 100000000) (hT : Tab w) (h1 : x.2.1 ≠ 0) (h2 : y.2.1 ≠ 0) (hle2 : y.2.2 ≤ x.2.2) :
    Calls Tryz.prog 38 #[vx, vy] w fun r w' => ∃ v, r = .returned v ∧ NumR w.heap.size w' v (sumD x y) ∧ Below w.heap.size w w' := by
  obtain ⟨ax, nx, kx, rfl, HNx, HZx, hnx, hOx⟩ := hX
  obtain ⟨ay, ny, ky, rfl, HNy, HZy, hny, hOy⟩ := hY
  obtain ⟨sx, mx, zx⟩ := x
  obtain ⟨sy, my, zy⟩ := y
  simp only at HNx HNy hOx hOy gx gy ex ey hle2 h1 h2 ⊢
  have zx0 : nx = 0 ↔ mx = 0 := by rw [HNx.out, List.length_eq_zero_iff, words_nil]
  have zy0 : ny = 0 ↔ my = 0 := by rw [HNy.out, List.length_eq_zero_iff, words_nil]
  have ox : mx % 2 = 1 := by
    rcases cx with q | q
    · exact absurd (congrArg (fun p => p.2.1) q) h1
    · exact q
  have oy : my % 2 = 1 := by
    rcases cy with q | q
    · exact absurd (congrArg (fun p => p.2.1) q) h2
    · exact q
  unfold sumD
  simp only
  rw [if_neg h1, if_neg h2, if_neg (by omega)]
  obtain ⟨dd, hdd⟩ : ∃ dd : Nat, zx = zy + (dd : Int) := ⟨(zx - zy).toNat, by omega⟩
  have hdd2 : (zx - zy).toNat = dd := by omega
  rw [hdd2]
  by_cases hs : sx = sy
  · refine plus_tog w.heap.size sx ax nx kx zx sy ay ny ky zy _ w (Nat.le_refl _) (fun q => h1 (zx0.1 q)) (fun q => h2 (zy0.1 q)) hle2 hs (fun W hW => ?_)
    have h3 := together_calls sx ax nx kx mx zx sy ay ny ky my zy W (hOx.1.keep hW) hnx gx ex (hOy.1.keep hW) hny gy ey (hT.kept hW) ox oy dd hdd
    unfold addHi
    rw [if_pos hs]
    exact h3
  · by_cases he : zx = zy
    · have hd0 : dd = 0 := by omega
      refine plus_lap w.heap.size sx ax nx kx zx sy ay ny ky zy _ w (Nat.le_refl _) (fun q => h1 (zx0.1 q)) (fun q => h2 (zy0.1 q)) he hs (fun W hW => ?_)
      unfold addHi
      rw [if_neg hs, hd0, Nat.pow_zero, Nat.mul_one]
      by_cases hc : my ≤ mx
      · rw [if_pos hc, ← he]
        have h3 := levelApart_ge sx ax nx kx mx zx sy ay ny ky my zy W (hOx.1.keep hW) hnx gx ex (hOy.1.keep hW) hny gy ey (hT.kept hW) hc
        rw [← he] at h3
        exact h3
      · rw [if_neg hc]
        exact levelApart_lt sx ax nx kx mx zx sy ay ny ky my zy W (hOx.1.keep hW) hnx gx ex (hOy.1.keep hW) hny gy ey (hT.kept hW) (by omega)
    · refine plus_apart w.heap.size sx ax nx kx zx sy ay ny ky zy _ w (Nat.le_refl _) (fun q => h1 (zx0.1 q)) (fun q => h2 (zy0.1 q)) (by omega) hs (fun W hW => ?_)
      exact apart_calls sx ax nx kx mx zx sy ay ny ky my zy W (hOx.1.keep hW) hnx gx ex (hOy.1.keep hW) hny gy ey (hT.kept hW) oy dd (by omega) hdd hs

theorem NumR.low {B B' : Nat} {w : World} {v : Value} {p : Bool × Nat × Int} (h : NumR B w v p) (hB : B' ≤ B) : NumR B' w v p := by
  rcases h with ⟨q, h⟩ | h
  · exact Or.inl ⟨q, h.low hB⟩
  · exact Or.inr h
theorem dplus_calls (B : Nat) (vx vy : Value) (x y : Bool × Nat × Int) (w : World) (hB : B ≤ w.heap.size) (hX : NumAt B w vx x) (hY : NumAt B w vy y) (gx : greatB x.2.1 = false) (gy : greatB y.2.1 = false) (cx : CanD x) (cy : CanD y) (ex : -100000000 ≤ x.2.2 ∧ x.2.2 ≤ 100000000) (ey : -100000000 ≤ y.2.2 ∧ y.2.2 ≤ 100000000) (hT : Tab w) :
    Calls Tryz.prog 38 #[vx, vy] w fun r w' => ∃ v, r = .returned v ∧ NumR B w' v (sumD x y) ∧ Below w.heap.size w w' := by
  by_cases h1 : x.2.1 = 0
  · obtain ⟨ax, nx, kx, rfl, HNx, HZx, hnx, hOx⟩ := hX
    obtain ⟨ay, ny, ky, rfl, HNy, HZy, hny, hOy⟩ := hY
    unfold sumD
    rw [if_pos h1]
    exact plus_zx B x.1 ax nx kx x.2.2 y.1 ay ny ky y.2.1 y.2.2 w hOy HNy HZy hny gy (by rw [HNx.out, h1, words_zero]; rfl)
  · by_cases h2 : y.2.1 = 0
    · obtain ⟨ax, nx, kx, rfl, HNx, HZx, hnx, hOx⟩ := hX
      obtain ⟨ay, ny, ky, rfl, HNy, HZy, hny, hOy⟩ := hY
      unfold sumD
      rw [if_neg h1, if_pos h2]
      exact plus_zy B x.1 ax nx kx x.2.1 x.2.2 y.1 ay ny ky y.2.2 w hOx HNx HZx hnx gx (fun q => h1 ((words_nil _).1 (List.length_eq_zero_iff.1 (by rw [← HNx.out]; exact q)))) (by rw [HNy.out, h2, words_zero]; rfl)
    · rcases Int.lt_or_le x.2.2 y.2.2 with h3 | h3
      · have hsum : sumD x y = sumD y x := by
          unfold sumD
          rw [if_neg h1, if_neg h2, if_neg h2, if_neg h1, if_pos h3, if_neg (by omega)]
        rw [hsum]
        have HP : ∀ W, Below w.heap.size w W → _ := fun W hW => plus_nz vy vx B y x W (hY.keep hW) (hX.keep hW) gy gx cy cx ey ex (hT.kept hW) h2 h1 (Int.le_of_lt h3)
        obtain ⟨ax, nx, kx, rfl, HNx, HZx, hnx, hOx⟩ := hX
        obtain ⟨ay, ny, ky, rfl, HNy, HZy, hny, hOy⟩ := hY
        exact plus_swap B x.1 ax nx kx x.2.2 y.1 ay ny ky y.2.2 _ w hB (fun q => h1 ((words_nil _).1 (List.length_eq_zero_iff.1 (by rw [← HNx.out]; exact q)))) (fun q => h2 ((words_nil _).1 (List.length_eq_zero_iff.1 (by rw [← HNy.out]; exact q)))) h3 HP
      · refine Calls.mono (plus_nz vx vy B x y w hX hY gx gy cx cy ex ey hT h1 h2 h3) ?_
        rintro r w' ⟨v, rfl, hN, hb⟩
        exact ⟨v, rfl, hN.low hB, hb⟩

end Go.Proofs.YtjapgogiaklodaaGreatDoor

namespace Go.Proofs.YtjapgogiaklodaaGreatDoor
open Go.RowKit

theorem calls_guard {P : Program} {f : FuncId} {A : Array Value} {w : World} {Q : Ending → World → Prop} (A' : Array Value) (hA : A = A') (h : Calls P f A' w Q) : Calls P f A w Q := by rw [hA]; exact h
theorem cell_set4 {W : World} {b o r : Nat} {v0 v1 v2 v3 x : Value} (h : W.cell? ⟨b, o, none⟩ = some x) (hne : b ≠ r) : ((((W.setCell ⟨r, 0, none⟩ v0).setCell ⟨r, 1, none⟩ v1).setCell ⟨r, 2, none⟩ v2).setCell ⟨r, 3, none⟩ v3).cell? ⟨b, o, none⟩ = some x := by
  have key : ∀ (V : World) (k : Nat) (v : Value), V.cell? ⟨b, o, none⟩ = some x → (V.setCell ⟨r, k, none⟩ v).cell? ⟨b, o, none⟩ = some x := fun V k v q =>
    (World.cell?_setCell_other V _ _ _ (fun e => by have := congrArg Addr.block e; simp at this; omega)).trans q
  exact key _ _ _ (key _ _ _ (key _ _ _ (key _ _ _ h)))
theorem numR_form {B : Nat} {w : World} {v : Value} {p : Bool × Nat × Int} (h : NumR B w v p) : ∃ (s : Bool) (a : Option Addr) (n c : Nat) (e : Int) (g : Bool), v = numV s a n c e g ∧ Hid (NumR B w (numV s a n c e g) p) := by
  rcases h with ⟨q, ao, n, c, rfl, h⟩ | ⟨q, rfl⟩
  · exact ⟨p.1, ao, n, c, p.2.2, false, rfl, Or.inl ⟨q, ao, n, c, rfl, h⟩⟩
  · exact ⟨false, none, 0, 0, 0, true, rfl, Or.inr ⟨q, rfl⟩⟩
theorem NumR.far {B : Nat} {w : World} {v : Value} {p : Bool × Nat × Int} (h : NumR B w v p) (q : Addr) (u : Value) (hq : q.block < B) : NumR B (w.setCell q u) v p := by
  rcases h with ⟨g, ao, n, c, e, h1, h2, h3, h4⟩ | h
  · exact Or.inl ⟨g, ao, n, c, e, h1, h2, h3, h4.far q u hq⟩
  · exact Or.inr h
theorem NumR.keep {B : Nat} {w w' : World} {v : Value} {p : Bool × Nat × Int} (h : NumR B w v p) (hb : Below w.heap.size w w') : NumR B w' v p := by
  rcases h with ⟨q, h⟩ | h
  · exact Or.inl ⟨q, h.keep hb⟩
  · exact Or.inr h
theorem form_bounds (s : Bool) (m : Nat) (e : Int) (h : rightB m e = true) : -100000000 ≤ (formD s m e).2.2 ∧ (formD s m e).2.2 ≤ 100000000 := by
  obtain ⟨h1, h2, h3⟩ := rightB_yes h
  by_cases h0 : m = 0
  · rw [h0, form_zero]; exact ⟨by decide, by decide⟩
  · rw [form_pos s h0]
    have := tz_le_blen m
    have := (great_not m).1 h1
    show _ ≤ e + (tz m : Int) ∧ e + (tz m : Int) ≤ _
    omega
theorem form_fit (s : Bool) (m : Nat) (e : Int) (h : rightB m e = true) : greatB (formD s m e).2.1 = false := great_mono (form_amount_le _ _ _) (rightB_yes h).1
theorem right_exp {m : Nat} {e : Int} (h : rightB m e = true) : -4611686018427387904 ≤ e ∧ e ≤ 4611686018427387904 := by
  have := (rightB_yes h).2; omega
theorem hidN {B : Nat} {w : World} {s : Bool} {a : Option Addr} {n c : Nat} {e : Int} {p : Bool × Nat × Int} (h1 : s = p.1) (h2 : e = p.2.2) (h3 : Hid (n = (wordsOf p.2.1).length)) (h4 : Hid (n = 0 → a = none ∧ c = 0)) (h5 : n ≤ 1024) (h6 : OwnW B w a n c (wordsOf p.2.1)) : NumAt B w (numV s a n c e false) p := by
  subst h1; subst h2
  exact ⟨a, n, c, rfl, h3, h4, h5, h6⟩

attribute [local go_sem ↓] Go.wp_at_zero Go.wp_at_succ

set_option maxRecDepth 100000 in
set_option maxHeartbeats 4000000 in
theorem add1_calls (b1 b2 : Nat) (s : Bool) (a : Option Addr) (len cap : Nat) (xs : List Int) (e : Int) (s' : Bool) (a' : Option Addr) (len' cap' : Nat) (ys : List Int) (e' : Int) (w : World) (h : IsW w a len cap xs) (hm : len ≤ 17592186044416) (h' : IsW w a' len' cap' ys) (hm' : len' ≤ 17592186044416) (hT : Tab w) (hr : rightB (val xs) e = true) (hr' : rightB (val ys) e' = true)
    (k0 : w.cell? ⟨b1, 0, none⟩ = some (.bool s)) (k1 : w.cell? ⟨b1, 1, none⟩ = some (.slice a len cap)) (k2 : w.cell? ⟨b1, 2, none⟩ = some (.int .i64 e))
    (l0 : w.cell? ⟨b2, 0, none⟩ = some (.bool s')) (l1 : w.cell? ⟨b2, 1, none⟩ = some (.slice a' len' cap')) (l2 : w.cell? ⟨b2, 2, none⟩ = some (.int .i64 e')) :
    Calls Tryz.prog 59 #[.pointer (some ⟨b1, 0, none⟩), .pointer (some ⟨b2, 0, none⟩)] w fun r w' => ∃ v, r = .returned v ∧ NumR w.heap.size w' v (sumD (formD s (val xs) e) (formD s' (val ys) e')) ∧ Below w.heap.size w w' := by
  have HCGX : Hid (canG s (val xs) e = (formD s (val xs) e)) := canG_no (rightB_yes hr).1
  have HCGY : Hid (canG s' (val ys) e' = (formD s' (val ys) e')) := canG_no (rightB_yes hr').1
  have HEBX : Hid _ := right_exp hr
  have HEBY : Hid _ := right_exp hr'
  have HGX : Hid _ := form_fit s (val xs) e hr
  have HGY : Hid _ := form_fit s' (val ys) e' hr'
  have HBX : Hid _ := form_bounds s (val xs) e hr
  have HBY : Hid _ := form_bounds s' (val ys) e' hr'
  have hl1 : b1 < w.heap.size := World.block_lt_of_cell? _ _ k0
  have hl2 : b2 < w.heap.size := World.block_lt_of_cell? _ _ l0
  have hn1 : b1 ≠ w.heap.size := Nat.ne_of_lt hl1
  have hn2 : b2 ≠ w.heap.size := Nat.ne_of_lt hl2
  have hbw0 : Below w.heap.size w (w.alloc (.cells #[.bool false, .slice none 0 0, .int .i64 0, .bool false] 69)).drew := (below_one _ _).drew
  clear hr hr'
  go_enter Tryz.func59, Tryz.ntmps59
  go_wp2_with fail
  go_region_with (first
      | (go_at_call 37; refine calls_guard #[dyV s a len cap e] ?_ ?_; (focus rfl); refine (canonical_calls s a len cap xs e _ (h.keep (by repeat (first | exact hbwY | exact Below.refl _ _ | apply Below.drew | refine Below.alloc ?_ (by simp; try omega) _))) hm (hT.kept (by repeat (first | exact hbwY | exact Below.refl _ _ | apply Below.drew | refine Below.alloc ?_ (by simp; try omega) _)))).mono ?_; rintro r wX ⟨aX, nX, cX, eX, rfl, HEX, HNX, HZX, hnX, hOX, hbX⟩; have hbwX : Below w.heap.size w wX := nbelow_trans (by repeat (first | exact hbwY | exact Below.refl _ _ | apply Below.drew | refine Below.alloc ?_ (by simp; try omega) _)) hbX; have hbzX : Below (w.alloc (.cells #[.bool false, .slice none 0 0, .int .i64 0, .bool false] 69)).heap.size (w.alloc (.cells #[.bool false, .slice none 0 0, .int .i64 0, .bool false] 69)) wX := nbelow_trans (by repeat (first | exact hbzY | exact Below.refl _ _ | apply Below.drew | refine Below.alloc ?_ (by simp; try omega) _)) hbX; obtain rfl := HEX.out HEBX.out.1 HEBX.out.2; rw [HCGX.out] at hOX HNX ⊢; clear HEX; have hPX := hOX.low (B' := w.heap.size + 1) (by first | (have := hbzY.size; simp at this ⊢; omega) | simp); have qX0 := dcarry_cell hbwX k0; have qX1 := dcarry_cell hbwX k1; have qX2 := dcarry_cell hbwX k2; have qX3 := dcarry_cell hbwX l0; have qX4 := dcarry_cell hbwX l1; have qX5 := dcarry_cell hbwX l2)
      | (go_at_call 37; refine calls_guard #[dyV s' a' len' cap' e'] ?_ ?_; (focus rfl); refine (canonical_calls s' a' len' cap' ys e' _ (h'.keep (by repeat (first | exact hbwX | exact Below.refl _ _ | apply Below.drew | refine Below.alloc ?_ (by simp; try omega) _))) hm' (hT.kept (by repeat (first | exact hbwX | exact Below.refl _ _ | apply Below.drew | refine Below.alloc ?_ (by simp; try omega) _)))).mono ?_; rintro r wY ⟨aY, nY, cY, eY, rfl, HEY, HNY, HZY, hnY, hOY, hbY⟩; have hbwY : Below w.heap.size w wY := nbelow_trans (by repeat (first | exact hbwX | exact Below.refl _ _ | apply Below.drew | refine Below.alloc ?_ (by simp; try omega) _)) hbY; have hbzY : Below (w.alloc (.cells #[.bool false, .slice none 0 0, .int .i64 0, .bool false] 69)).heap.size (w.alloc (.cells #[.bool false, .slice none 0 0, .int .i64 0, .bool false] 69)) wY := nbelow_trans (by repeat (first | exact hbzX | exact Below.refl _ _ | apply Below.drew | refine Below.alloc ?_ (by simp; try omega) _)) hbY; obtain rfl := HEY.out HEBY.out.1 HEBY.out.2; rw [HCGY.out] at hOY HNY ⊢; clear HEY; have hPY := hOY.low (B' := w.heap.size + 1) (by first | (have := hbzX.size; simp at this ⊢; omega) | simp); have qY0 := dcarry_cell hbwY k0; have qY1 := dcarry_cell hbwY k1; have qY2 := dcarry_cell hbwY k2; have qY3 := dcarry_cell hbwY l0; have qY4 := dcarry_cell hbwY l1; have qY5 := dcarry_cell hbwY l2)
      | (go_at_call 38; (first | (have hQX := hPX.keep hbY) | (have hQX := hPX)); (first | (have hQY := hPY.keep hbX) | (have hQY := hPY)); (first | (have hTc := hT.kept (nbelow_trans hbwX hbY)) | (have hTc := hT.kept (nbelow_trans hbwY hbX))); refine (dplus_calls (w.heap.size + 1) _ _ (formD s (val xs) e) (formD s' (val ys) e') _ (by first | (have := hbzY.size; simp at this; omega) | (have := hbzX.size; simp at this; omega)) (hidN rfl rfl HNX HZX hnX hQX) (hidN rfl rfl HNY HZY hnY hQY) HGX.out HGY.out (form_can _ _ _) (form_can _ _ _) HBX.out HBY.out hTc).mono ?_; rintro r wP ⟨vP, rfl, hNP, hbP⟩; obtain ⟨s5, a5, n5, c5, e5, g5, rfl, HNR⟩ := numR_form hNP; (first | (have hbwP := nbelow_trans hbwY hbP) | (have hbwP := nbelow_trans hbwX hbP)); (first | (have hbzP := nbelow_trans hbzY hbP) | (have hbzP := nbelow_trans hbzX hbP)); obtain ⟨m0, m1, m2, m3, f0, f1, f2, f3⟩ := zero_num (r := w.heap.size) hbzP rfl; clear hNP))
  all_goals
    go_wp2_with fail
    refine bodyPost_ret (v := numV s5 a5 n5 c5 e5 g5) (by simp [results, Tryz.results59, go_sem, m0, m1, m2, m3]) rfl ⟨_, rfl, ((((HNR.out.far _ _ (by show w.heap.size < _; omega)).far _ _ (by show w.heap.size < _; omega)).far _ _ (by show w.heap.size < _; omega)).far _ _ (by show w.heap.size < _; omega)).low (by omega), ?_⟩
    exact (((hbwP.setCell (Nat.le_refl _) _).setCell (Nat.le_refl _) _).setCell (Nat.le_refl _) _).setCell (Nat.le_refl _) _

end Go.Proofs.YtjapgogiaklodaaGreatDoor

namespace Go.Proofs.YtjapgogiaklodaaGreatDoor
open Go.RowKit

set_option maxRecDepth 100000 in
set_option maxHeartbeats 4000000 in
theorem dadd_not (s : Bool) (a : Option Addr) (len cap : Nat) (xs : List Int) (e : Int) (s' : Bool) (a' : Option Addr) (len' cap' : Nat) (ys : List Int) (e' : Int) (w : World) (h : IsW w a len cap xs) (hm : len ≤ 17592186044416) (h' : IsW w a' len' cap' ys) (hm' : len' ≤ 17592186044416) (hr : (rightB (val xs) e && rightB (val ys) e') = false) :
    Calls Tryz.prog 26 #[dyV s a len cap e, dyV s' a' len' cap' e'] w fun r w' => r = .returned (.tuple #[dyV false none 0 0 0, .int .i64 2]) ∧ Below w.heap.size w w' := by
  have hmf : ∀ (fn : Fn) (first cap : Array Value) (w : World), (Instr.makeFunc fn first cap).run Tryz.prog w = .ok (.func fn first cap) w := fun _ _ _ _ => rfl
  have HRB : Hid ((rightB (val xs) e && rightB (val ys) e') = false) := hr
  clear hr
  go_enter Tryz.func26, Tryz.ntmps26
  go_wp2_with fail
  have hb0 : Below w.heap.size w ((((w.alloc (.cells #[.bool s, .slice a len cap, .int .i64 e] 34)).alloc (.cells #[.bool s', .slice a' len' cap', .int .i64 e'] 34)).alloc (.cells #[.bool false, .slice none 0 0, .int .i64 0] 34)).alloc (.cells #[.bool s, .slice a len cap, .int .i64 e, .bool s', .slice a' len' cap', .int .i64 e'] 34)) := by repeat (first | exact Below.refl _ _ | refine Below.alloc ?_ (by simp; try omega) _)
  refine Calls.mono (made_not _ _ _ (fun W hW => HRB.out ▸ right2_calls (w.heap.size + 1 + 1 + 1) s a len cap xs e s' a' len' cap' ys e' W (h.keep (nbelow_trans hb0 hW)) hm (h'.keep (nbelow_trans hb0 hW)) hm' (dcarry_cell hW (by go_simp)) (dcarry_cell hW (by go_simp)) (dcarry_cell hW (by go_simp)) (dcarry_cell hW (by go_simp)) (dcarry_cell hW (by go_simp)) (dcarry_cell hW (by go_simp)))) ?_
  rintro r w2 ⟨rfl, hbM⟩
  have hb2 := nbelow_trans hb0 hbM
  obtain ⟨m0, m1, m2, f0, f1, f2⟩ := zero_dy (r := w.heap.size + 1 + 1) (w := (w.alloc (.cells #[.bool s, .slice a len cap, .int .i64 e] 34)).alloc (.cells #[.bool s', .slice a' len' cap', .int .i64 e'] 34)) (W' := w2) (nbelow_trans (below_one _ _) hbM) (by simp)
  go_wp2_with fail
  refine bodyPost_ret (v := .tuple #[dyV false none 0 0 0, .int .i64 2]) (by simp [results, Tryz.results26, go_sem, m0, m1, m2]) rfl ⟨rfl, ?_⟩
  exact ((hb2.setCell (by show w.heap.size ≤ w.heap.size + 1 + 1; omega) _).setCell (by show w.heap.size ≤ w.heap.size + 1 + 1; omega) _).setCell (by show w.heap.size ≤ w.heap.size + 1 + 1; omega) _

set_option maxRecDepth 100000 in
set_option maxHeartbeats 4000000 in
theorem dadd_yes (s : Bool) (a : Option Addr) (len cap : Nat) (xs : List Int) (e : Int) (s' : Bool) (a' : Option Addr) (len' cap' : Nat) (ys : List Int) (e' : Int) (w : World) (h : IsW w a len cap xs) (hm : len ≤ 17592186044416) (h' : IsW w a' len' cap' ys) (hm' : len' ≤ 17592186044416) (hT : Tab w) (hr : rightB (val xs) e = true) (hr' : rightB (val ys) e' = true) :
    Calls Tryz.prog 26 #[dyV s a len cap e, dyV s' a' len' cap' e'] w fun r w' => ∃ v', r = .returned (.tuple #[v', .int .i64 (roomE (sumD (formD s (val xs) e) (formD s' (val ys) e')))]) ∧ DyAt w.heap.size w' v' (roomP (sumD (formD s (val xs) e) (formD s' (val ys) e'))) ∧ Below w.heap.size w w' := by
  have hmf : ∀ (fn : Fn) (first cap : Array Value) (w : World), (Instr.makeFunc fn first cap).run Tryz.prog w = .ok (.func fn first cap) w := fun _ _ _ _ => rfl
  have HRB : Hid ((rightB (val xs) e && rightB (val ys) e') = true) := by rw [Hid, hr, hr']; rfl
  have HR1 : Hid (rightB (val xs) e = true) := hr
  have HR2 : Hid (rightB (val ys) e' = true) := hr'
  clear hr hr'
  go_enter Tryz.func26, Tryz.ntmps26
  go_wp2_with fail
  have hb0 : Below w.heap.size w ((((w.alloc (.cells #[.bool s, .slice a len cap, .int .i64 e] 34)).alloc (.cells #[.bool s', .slice a' len' cap', .int .i64 e'] 34)).alloc (.cells #[.bool false, .slice none 0 0, .int .i64 0] 34)).alloc (.cells #[.bool s, .slice a len cap, .int .i64 e, .bool s', .slice a' len' cap', .int .i64 e'] 34)) := by repeat (first | exact Below.refl _ _ | refine Below.alloc ?_ (by simp; try omega) _)
  refine Calls.mono (made_Add w.heap.size (w.heap.size + 1) 0 (sumD (formD s (val xs) e) (formD s' (val ys) e')) _ _ (fun W hW => HRB.out ▸ right2_calls (w.heap.size + 1 + 1 + 1) s a len cap xs e s' a' len' cap' ys e' W (h.keep (nbelow_trans hb0 hW)) hm (h'.keep (nbelow_trans hb0 hW)) hm' (dcarry_cell hW (by go_simp)) (dcarry_cell hW (by go_simp)) (dcarry_cell hW (by go_simp)) (dcarry_cell hW (by go_simp)) (dcarry_cell hW (by go_simp)) (dcarry_cell hW (by go_simp)))
    (fun W hW => Calls.mono (add1_calls w.heap.size (w.heap.size + 1) s a len cap xs e s' a' len' cap' ys e' W (h.keep (nbelow_trans hb0 hW)) hm (h'.keep (nbelow_trans hb0 hW)) hm' (hT.kept (nbelow_trans hb0 hW)) HR1.out HR2.out (dcarry_cell hW (by go_simp)) (dcarry_cell hW (by go_simp)) (dcarry_cell hW (by go_simp)) (dcarry_cell hW (by go_simp)) (dcarry_cell hW (by go_simp)) (dcarry_cell hW (by go_simp))) (by
      rintro r w5 ⟨v, rfl, hN, hb5⟩
      exact ⟨v, rfl, hN.low (Nat.zero_le _), hb5⟩))) ?_
  rintro r w2 ⟨v', rfl, ⟨a2, n2, c2, rfl, HN2, hn2, hO2⟩, hbM⟩
  have hb2 := nbelow_trans hb0 hbM
  obtain ⟨m0, m1, m2, f0, f1, f2⟩ := zero_dy (r := w.heap.size + 1 + 1) (w := (w.alloc (.cells #[.bool s, .slice a len cap, .int .i64 e] 34)).alloc (.cells #[.bool s', .slice a' len' cap', .int .i64 e'] 34)) (W' := w2) (nbelow_trans (below_one _ _) hbM) (by simp)
  go_wp2_with fail
  refine bodyPost_ret (v := .tuple #[dyV (roomP (sumD (formD s (val xs) e) (formD s' (val ys) e'))).1 a2 n2 c2 (roomP (sumD (formD s (val xs) e) (formD s' (val ys) e'))).2.2, .int .i64 (roomE (sumD (formD s (val xs) e) (formD s' (val ys) e')))]) (by simp [results, Tryz.results26, go_sem, m0, m1, m2]) rfl ⟨_, rfl, ⟨a2, n2, c2, rfl, HN2, hn2, (((hO2.far _ _ (by show w.heap.size + 1 + 1 < _; simp)).far _ _ (by show w.heap.size + 1 + 1 < _; simp)).far _ _ (by show w.heap.size + 1 + 1 < _; simp)).low (by simp; omega)⟩, ?_⟩
  exact ((hb2.setCell (by show w.heap.size ≤ w.heap.size + 1 + 1; omega) _).setCell (by show w.heap.size ≤ w.heap.size + 1 + 1; omega) _).setCell (by show w.heap.size ≤ w.heap.size + 1 + 1; omega) _
end Go.Proofs.YtjapgogiaklodaaGreatDoor

namespace Go.Proofs.YtjapgogiaklodaaGreatDoor
open Go.RowKit

theorem shr_room2 {m j : Nat} (h : greatB m = false) (hj : 0 < j) : greatB (m / 2 ^ j) = false ∧ greatB (m / 2 ^ j + 1) = false := by
  have h1 := great_mono (Nat.div_le_self m (2 ^ j)) h
  refine ⟨h1, ?_⟩
  by_cases h0 : m = 0
  · subst h0; rw [Nat.zero_div]; exact great_one
  · refine great_mono ?_ h
    have h2 : m / 2 ^ j < m := Nat.div_lt_self (by omega) (Nat.one_lt_two_pow (by omega))
    exact h2






/-- The next number of at most so many bits, down or up. -/
def cutD (x : Bool × Nat × Int) (pp : Int) (up : Bool) : Bool × Nat × Int := if (blen x.2.1 : Int) ≤ pp then x else formD x.1 (x.2.1 / 2 ^ (blen x.2.1 - pp).toNat + (if (!(up == x.1)) = true then 1 else 0)) (x.2.2 + ((blen x.2.1 - pp).toNat : Int))

end Go.Proofs.YtjapgogiaklodaaGreatDoor

namespace Go.Proofs.YtjapgogiaklodaaGreatDoor
open Go.RowKit

attribute [local go_sem ↓] Go.wp_at_zero Go.wp_at_succ




end Go.Proofs.YtjapgogiaklodaaGreatDoor

namespace Go.Proofs.YtjapgogiaklodaaGreatDoor
open Go.RowKit

def intD (i : Int) : Bool × Nat × Int := formD (decide (i < 0)) i.natAbs 0



end Go.Proofs.YtjapgogiaklodaaGreatDoor

namespace Go.Proofs.YtjapgogiaklodaaGreatDoor
open Go.RowKit


end Go.Proofs.YtjapgogiaklodaaGreatDoor

namespace Go.Proofs.YtjapgogiaklodaaGreatDoor
open Go.RowKit


end Go.Proofs.YtjapgogiaklodaaGreatDoor

namespace Go.Proofs.YtjapgogiaklodaaGreatDoor
open Go.RowKit


end Go.Proofs.YtjapgogiaklodaaGreatDoor

namespace Go.Proofs.YtjapgogiaklodaaGreatDoor
open Go.RowKit

/-- The order of two amounts other than 0, as it is reckoned. -/
def amtD (mx : Nat) (ex : Int) (my : Nat) (ey : Int) : Int :=
  if ex + (blen mx : Int) - 1 ≠ ey + (blen my : Int) - 1 then Lib.compareInt (ex + (blen mx : Int) - 1) (ey + (blen my : Int) - 1)
  else if ex < ey then -(cmpN (my * 2 ^ (ey - ex).toNat) mx) else cmpN (mx * 2 ^ (ex - ey).toNat) my
theorem level_fit {m n d : Nat} {e f : Int} (hm : greatB m = false) (hn : greatB n = false) (h0 : m ≠ 0) (ht : e + (blen m : Int) - 1 = f + (blen n : Int) - 1) (hd : e = f + (d : Int)) : shlR m (d : Int) = (m * 2 ^ d, 0) ∧ greatB (m * 2 ^ d) = false := by
  have h1 := (great_not n).1 hn
  have hb := blen_mul m d h0
  constructor
  · rw [shlR_fit hm (by omega) h0 (by omega), Int.toNat_natCast]
  · rw [great_not]; omega
end Go.Proofs.YtjapgogiaklodaaGreatDoor

namespace Go.Proofs.YtjapgogiaklodaaGreatDoor
open Go.RowKit

def sgnI (n : Nat) (s : Bool) : Int := if n = 0 then 0 else if s = true then -1 else 1
theorem sgnI_zero (s : Bool) : sgnI 0 s = 0 := rfl
theorem sgnI_neg {n : Nat} (h : n ≠ 0) : sgnI n true = -1 := by unfold sgnI; rw [if_neg h]; rfl
theorem sgnI_pos {n : Nat} (h : n ≠ 0) : sgnI n false = 1 := by unfold sgnI; rw [if_neg h]; rfl



end Go.Proofs.YtjapgogiaklodaaGreatDoor

namespace Go.Proofs.YtjapgogiaklodaaGreatDoor
open Go.RowKit



end Go.Proofs.YtjapgogiaklodaaGreatDoor

namespace Go.Proofs.YtjapgogiaklodaaGreatDoor
open Go.RowKit



end Go.Proofs.YtjapgogiaklodaaGreatDoor

namespace Go.Proofs.YtjapgogiaklodaaGreatDoor
open Go.RowKit

theorem cmpN_le (a b : Nat) : -1 ≤ cmpN a b ∧ cmpN a b ≤ 1 := by unfold cmpN; split <;> (try split) <;> omega
theorem compare_le (a b : Int) : -1 ≤ Lib.compareInt a b ∧ Lib.compareInt a b ≤ 1 := by unfold Lib.compareInt; split <;> (try split) <;> omega
theorem amtD_le (mx : Nat) (ex : Int) (my : Nat) (ey : Int) : -1 ≤ amtD mx ex my ey ∧ amtD mx ex my ey ≤ 1 := by
  unfold amtD
  split
  · exact compare_le _ _
  · split
    · have := cmpN_le (my * 2 ^ (ey - ex).toNat) mx
      omega
    · exact cmpN_le _ _


end Go.Proofs.YtjapgogiaklodaaGreatDoor

namespace Go.Proofs.YtjapgogiaklodaaGreatDoor
open Go.RowKit

def sgnD (p : Bool × Nat × Int) : Int := if p.2.1 = 0 then 0 else if p.1 = true then -1 else 1
/-- The order of two numbers in their one form, as it is reckoned. -/
def cmpD (x y : Bool × Nat × Int) : Int := if sgnD x ≠ sgnD y then Lib.compareInt (sgnD x) (sgnD y) else if x.2.1 = 0 then 0 else sgnD x * amtD x.2.1 x.2.2 y.2.1 y.2.2
theorem sgnD_of {p : Bool × Nat × Int} {n : Nat} (h : n = (wordsOf p.2.1).length) : sgnI n p.1 = sgnD p := by
  have h0 : n = 0 ↔ p.2.1 = 0 := by rw [h, List.length_eq_zero_iff, words_nil]
  unfold sgnI sgnD
  by_cases q : p.2.1 = 0
  · rw [if_pos (h0.2 q), if_pos q]
  · rw [if_neg (fun r => q (h0.1 r)), if_neg q]

attribute [local go_sem ↓] Go.wp_at_zero Go.wp_at_succ


end Go.Proofs.YtjapgogiaklodaaGreatDoor

/- The walks of sums of numbers: together, apart. -/
import Derived.Test.YtahpdcbmekgkfaaGreatDoorAL
import Derived.Test.YtahpdcbmekgkfaaGreatDoorDPlus1
import Derived.Test.YtahpdcbmekgkfaaGreatDoorFX
namespace Go.Proofs.YtahpdcbmekgkfaaGreatDoor
open Go.RowKit
set_option maxHeartbeats 2000000
set_option maxRecDepth 100000
theorem shl_odd (mx my dd : Nat) (hd : 0 < dd) (ho : my % 2 = 1) : (mx * 2 ^ dd + my) % 2 = 1 := by
 obtain ⟨k, rfl⟩ : ∃ k, dd = k + 1 := ⟨dd - 1, by omega⟩
 rw [Nat.pow_succ, ← Nat.mul_assoc]; omega
theorem shl_cases (m dd b : Nat) (hg : greatB m = false) : (shlR m (dd : Int) = (m * 2 ^ dd, 0) ∧ greatB (m * 2 ^ dd) = false) ∨ (shlR m (dd : Int) = (0, 3) ∧ greatB (m * 2 ^ dd + b) = true ∧ 65536 < blen (m * 2 ^ dd)) := by
 by_cases h0 : m = 0
 ·subst h0
  rw [Nat.zero_mul]
  exact Or.inl ⟨shlR_zero hg (by omega) rfl, great_zero⟩
 ·have hb := blen_mul m dd h0
  by_cases hc : 65536 - (blen m : Int) < (dd : Int)
  ·refine Or.inr ⟨shlR_many hg (by omega) h0 hc, ?_, by omega⟩
   rw [great_iff]
   have := blen_mono (Nat.le_add_right (m * 2 ^ dd) b)
   omega
  ·refine Or.inl ⟨?_, by rw [great_not]; omega⟩
   rw [shlR_fit hg (by omega) h0 (by omega), Int.toNat_natCast]
theorem together_level (sx : Bool) (ax : Option Addr) (nx cx : Nat) (mx : Nat) (ex : Int) (sy : Bool) (ay : Option Addr) (ny cy : Nat) (my : Nat) (ey : Int) (w : World) (hIx : IsW w ax nx cx (wO mx)) (hnx : nx ≤ 1024) (hgx : greatB mx = false) (hex : -100000000 ≤ ex ∧ ex ≤ 100000000) (hIy : IsW w ay ny cy (wO my)) (hny : ny ≤ 1024) (hgy : greatB my = false) (hey : -100000000 ≤ ey ∧ ey ≤ 100000000) (hT : Tab w) (hox : mx % 2 = 1) (hoy : my % 2 = 1) (hee : ex = ey) :
  Calls Tryz.prog 181 #[numV sx ax nx cx ex false, numV sy ay ny cy ey false] w fun r w' => ∃ v, r = .returned v ∧ NumR w.heap.size w' v (formD sx (mx + my) ex) ∧ Below w.heap.size w w' := by
 have LT : Hid _ := levelTogether_calls sx ax nx cx mx ex sy ay ny cy my ey _ (hIx.keep (show Below w.heap.size w (((w.alloc (.cells #[.bool sx, .slice ax nx cx, .int .i64 ex, .bool false] 109)).alloc (.cells #[.bool sy, .slice ay ny cy, .int .i64 ey, .bool false] 109)).alloc (.cells #[.bool false, .slice none 0 0, .int .i64 0, .bool false] 109)) from by repeat (first | exact Below.refl _ _ | refine Below.alloc ?_ (by simp; try omega) _))) hnx hgx hex (hIy.keep (by repeat (first | exact Below.refl _ _ | refine Below.alloc ?_ (by simp; try omega) _))) hny hgy hey (hT.kept (by repeat (first | exact Below.refl _ _ | refine Below.alloc ?_ (by simp; try omega) _))) hox hoy
 subst hee
 clear hgx hgy hox hoy hex hey hnx hny hT hIx hIy
 go_enter Tryz.func181, Tryz.ntmps181
 go_wp2_with fail
 obtain ⟨hz_0, hw_0⟩ := dpZ w sx ax nx cx ex sy ay ny cy ex _ rfl
 obtain ⟨kx0_0, kx1_0, kx2_0, kx3_0, ky0_0, ky1_0, ky2_0, ky3_0⟩ := fX1 w sx ax nx cx ex sy ay ny cy ex _ rfl
 refine cM (LT.out) ?_
 rintro r w_1 ⟨v, rfl, hN, hb_1⟩
 have hz_1 := nT hz_0 hb_1
 have hw_1 := nT hw_0 hb_1
 have kx0_1 := kC hb_1 kx0_0
 have kx1_1 := kC hb_1 kx1_0
 have kx2_1 := kC hb_1 kx2_0
 have kx3_1 := kC hb_1 kx3_0
 have ky0_1 := kC hb_1 ky0_0
 have ky1_1 := kC hb_1 ky1_0
 have ky2_1 := kC hb_1 ky2_0
 have ky3_1 := kC hb_1 ky3_0
 clear hz_0 hw_0 kx0_0 kx1_0 kx2_0 kx3_0 ky0_0 ky1_0 ky2_0 ky3_0 hb_1
 clear LT
 rcases hN with ⟨hg, ao, nn, cc, rfl, HN, HZ, hnn, hO⟩ | ⟨hg, rfl⟩
 ·obtain ⟨m0, m1, m2, m3, f0, f1, f2, f3⟩ := zero_num (w := ((w.alloc (.cells #[.bool sx, .slice ax nx cx, .int .i64 ex, .bool false] 109)).alloc (.cells #[.bool sy, .slice ay ny cy, .int .i64 ex, .bool false] 109))) (r := w.heap.size + 1 + 1) hz_1 (by simp)
  go_wp2_with fail
  refine bodyPost_ret (v := numV (formD sx (mx + my) ex).1 ao nn cc (formD sx (mx + my) ex).2.2 false) (by simp [results, Tryz.results181, go_sem, m0, m1, m2, m3]) rfl ?_
  exact ⟨_, rfl, Or.inl ⟨hg, ao, nn, cc, rfl, HN, HZ, hnn, ((((hO.far _ _ (by show w.heap.size + 1 + 1 < _; simp)).far _ _ (by show w.heap.size + 1 + 1 < _; simp)).far _ _ (by show w.heap.size + 1 + 1 < _; simp)).far _ _ (by show w.heap.size + 1 + 1 < _; simp)).low (by simp; omega)⟩, (((hw_1.setCell (le2 _) _).setCell (le2 _) _).setCell (le2 _) _).setCell (le2 _) _⟩
 ·obtain ⟨m0, m1, m2, m3, f0, f1, f2, f3⟩ := zero_num (w := ((w.alloc (.cells #[.bool sx, .slice ax nx cx, .int .i64 ex, .bool false] 109)).alloc (.cells #[.bool sy, .slice ay ny cy, .int .i64 ex, .bool false] 109))) (r := w.heap.size + 1 + 1) hz_1 (by simp)
  go_wp2_with fail
  refine bodyPost_ret (v := numV false none 0 0 0 true) (by simp [results, Tryz.results181, go_sem, m0, m1, m2, m3]) rfl ?_
  exact ⟨_, rfl, Or.inr ⟨hg, rfl⟩, (((hw_1.setCell (le2 _) _).setCell (le2 _) _).setCell (le2 _) _).setCell (le2 _) _⟩
theorem together_fit (sx : Bool) (ax : Option Addr) (nx cx : Nat) (mx : Nat) (ex : Int) (sy : Bool) (ay : Option Addr) (ny cy : Nat) (my : Nat) (ey : Int) (w : World) (hIx : IsW w ax nx cx (wO mx)) (hnx : nx ≤ 1024) (hgx : greatB mx = false) (hex : -100000000 ≤ ex ∧ ex ≤ 100000000) (hIy : IsW w ay ny cy (wO my)) (hny : ny ≤ 1024) (hgy : greatB my = false) (hey : -100000000 ≤ ey ∧ ey ≤ 100000000) (hT : Tab w) (hoy : my % 2 = 1) (dd : Nat) (hd : 0 < dd) (hdd0 : ex = ey + (dd : Int)) (h1 : shlR mx (dd : Int) = (mx * 2 ^ dd, 0)) (h2 : greatB (mx * 2 ^ dd) = false) :
  Calls Tryz.prog 181 #[numV sx ax nx cx ex false, numV sy ay ny cy ey false] w fun r w' => ∃ v, r = .returned v ∧ NumR w.heap.size w' v (formD sx (mx * 2 ^ dd + my) ey) ∧ Below w.heap.size w w' := by
 obtain ⟨hex1, hex2⟩ := hex
 obtain ⟨hey1, hey2⟩ := hey
 have HGX : Hid (greatB mx = false) := hgx
 have HGY : Hid (greatB my = false) := hgy
 have hdd : ex - ey = (dd : Int) := by omega
 have hne : (ex == ey) = false := by simp; omega
 have H1 : Hid (shlR mx (dd : Int) = (mx * 2 ^ dd, 0)) := h1
 have H2 : Hid (greatB (mx * 2 ^ dd) = false) := h2
 have HODD : Hid ((mx * 2 ^ dd + my) % 2 = 1) := shl_odd mx my dd hd hoy
 clear h1 h2 hgx hgy hoy hdd0
 go_enter Tryz.func181, Tryz.ntmps181
 go_wp2_with fail
 obtain ⟨hz_0, hw_0⟩ := dpZ w sx ax nx cx ex sy ay ny cy ey _ rfl
 obtain ⟨kx0_0, kx1_0, kx2_0, kx3_0, ky0_0, ky1_0, ky2_0, ky3_0⟩ := fX1 w sx ax nx cx ex sy ay ny cy ey _ rfl
 have hIx_0 := hIx.keep hw_0
 have hIy_0 := hIy.keep hw_0
 have hT_0 := hT.kept hw_0
 refine cM (shl_eq (i := (dd : Int)) (r := mx * 2 ^ dd) (k := 0) hIx_0 (by omega) (by rw [val_words]; exact H1.out)) ?_
 rintro r w_1 ⟨a1, n1, c1, rfl, HN1, hn1, hO1_1, hb_1⟩
 have hz_1 := nT hz_0 hb_1
 have hw_1 := nT hw_0 hb_1
 have kx0_1 := kC hb_1 kx0_0
 have kx1_1 := kC hb_1 kx1_0
 have kx2_1 := kC hb_1 kx2_0
 have kx3_1 := kC hb_1 kx3_0
 have ky0_1 := kC hb_1 ky0_0
 have ky1_1 := kC hb_1 ky1_0
 have ky2_1 := kC hb_1 ky2_0
 have ky3_1 := kC hb_1 ky3_0
 have hIx_1 := hIx_0.keep hb_1
 have hIy_1 := hIy_0.keep hb_1
 have hT_1 := hT_0.kept hb_1
 clear hz_0 hw_0 kx0_0 kx1_0 kx2_0 kx3_0 ky0_0 ky1_0 ky2_0 ky3_0 hIx_0 hIy_0 hT_0 hb_1
 go_wp2_with fail
 refine cM (add_eq (r := (fitR (mx * 2 ^ dd + my)).1) (k := (fitR (mx * 2 ^ dd + my)).2) hO1_1.1 hIy_1 (by omega) (by omega) (by rw [val_words, val_words, addR_no (by rw [H2.out, HGY.out]; rfl)])) ?_
 rintro r w_2 ⟨a2, n2, c2, rfl, HN2, hn2, hO2_2, hb_2⟩
 have hz_2 := nT hz_1 hb_2
 have hw_2 := nT hw_1 hb_2
 have kx0_2 := kC hb_2 kx0_1
 have kx1_2 := kC hb_2 kx1_1
 have kx2_2 := kC hb_2 kx2_1
 have kx3_2 := kC hb_2 kx3_1
 have ky0_2 := kC hb_2 ky0_1
 have ky1_2 := kC hb_2 ky1_1
 have ky2_2 := kC hb_2 ky2_1
 have ky3_2 := kC hb_2 ky3_1
 have hIx_2 := hIx_1.keep hb_2
 have hIy_2 := hIy_1.keep hb_2
 have hT_2 := hT_1.kept hb_2
 have hO1_2 := hO1_1.keep hb_2
 clear hz_1 hw_1 kx0_1 kx1_1 kx2_1 kx3_1 ky0_1 ky1_1 ky2_1 ky3_1 hIx_1 hIy_1 hT_1 hO1_1 hb_2
 have hsz : w.heap.size + 1 + 1 < w_2.heap.size := by have := hz_2.size; simp at this; omega
 go_wp2_with fail
 refine cM (reckoned_calls sx a2 n2 c2 (mx * 2 ^ dd + my) ey w_2 hO2_2.1 (by omega) hT_2 ⟨by omega, by omega⟩ (fun _ => HODD.out)) ?_
 rintro r w_3 ⟨v, rfl, hN, hb_3⟩
 have hz_3 := nT hz_2 hb_3
 have hw_3 := nT hw_2 hb_3
 have kx0_3 := kC hb_3 kx0_2
 have kx1_3 := kC hb_3 kx1_2
 have kx2_3 := kC hb_3 kx2_2
 have kx3_3 := kC hb_3 kx3_2
 have ky0_3 := kC hb_3 ky0_2
 have ky1_3 := kC hb_3 ky1_2
 have ky2_3 := kC hb_3 ky2_2
 have ky3_3 := kC hb_3 ky3_2
 have hIx_3 := hIx_2.keep hb_3
 have hIy_3 := hIy_2.keep hb_3
 have hT_3 := hT_2.kept hb_3
 have hO1_3 := hO1_2.keep hb_3
 have hO2_3 := hO2_2.keep hb_3
 clear hz_2 hw_2 kx0_2 kx1_2 kx2_2 kx3_2 ky0_2 ky1_2 ky2_2 ky3_2 hIx_2 hIy_2 hT_2 hO1_2 hO2_2 hb_3
 rcases hN with ⟨hg, ao, nn, cc, rfl, HN, HZ, hnn, hO⟩ | ⟨hg, rfl⟩
 ·obtain ⟨m0, m1, m2, m3, f0, f1, f2, f3⟩ := zero_num (w := ((w.alloc (.cells #[.bool sx, .slice ax nx cx, .int .i64 ex, .bool false] 109)).alloc (.cells #[.bool sy, .slice ay ny cy, .int .i64 ey, .bool false] 109))) (r := w.heap.size + 1 + 1) hz_3 (by simp)
  go_wp2_with fail
  refine bodyPost_ret (v := numV (formD sx (mx * 2 ^ dd + my) ey).1 ao nn cc (formD sx (mx * 2 ^ dd + my) ey).2.2 false) (by simp [results, Tryz.results181, go_sem, m0, m1, m2, m3]) rfl ?_
  exact ⟨_, rfl, Or.inl ⟨hg, ao, nn, cc, rfl, HN, HZ, hnn, ((((hO.far _ _ (by show w.heap.size + 1 + 1 < _; omega)).far _ _ (by show w.heap.size + 1 + 1 < _; omega)).far _ _ (by show w.heap.size + 1 + 1 < _; omega)).far _ _ (by show w.heap.size + 1 + 1 < _; omega)).low (by omega)⟩, (((hw_3.setCell (le2 _) _).setCell (le2 _) _).setCell (le2 _) _).setCell (le2 _) _⟩
 ·obtain ⟨m0, m1, m2, m3, f0, f1, f2, f3⟩ := zero_num (w := ((w.alloc (.cells #[.bool sx, .slice ax nx cx, .int .i64 ex, .bool false] 109)).alloc (.cells #[.bool sy, .slice ay ny cy, .int .i64 ey, .bool false] 109))) (r := w.heap.size + 1 + 1) hz_3 (by simp)
  go_wp2_with fail
  refine bodyPost_ret (v := numV false none 0 0 0 true) (by simp [results, Tryz.results181, go_sem, m0, m1, m2, m3]) rfl ?_
  exact ⟨_, rfl, Or.inr ⟨hg, rfl⟩, (((hw_3.setCell (le2 _) _).setCell (le2 _) _).setCell (le2 _) _).setCell (le2 _) _⟩
theorem together_many (sx : Bool) (ax : Option Addr) (nx cx : Nat) (mx : Nat) (ex : Int) (sy : Bool) (ay : Option Addr) (ny cy : Nat) (my : Nat) (ey : Int) (w : World) (hIx : IsW w ax nx cx (wO mx)) (hnx : nx ≤ 1024) (hgx : greatB mx = false) (hex : -100000000 ≤ ex ∧ ex ≤ 100000000) (hIy : IsW w ay ny cy (wO my)) (_hny : ny ≤ 1024) (hgy : greatB my = false) (hey : -100000000 ≤ ey ∧ ey ≤ 100000000) (hT : Tab w) (hoy : my % 2 = 1) (dd : Nat) (hd : 0 < dd) (hdd0 : ex = ey + (dd : Int)) (h1 : shlR mx (dd : Int) = (0, 3)) (h2 : greatB (mx * 2 ^ dd + my) = true) :
  Calls Tryz.prog 181 #[numV sx ax nx cx ex false, numV sy ay ny cy ey false] w fun r w' => ∃ v, r = .returned v ∧ NumR w.heap.size w' v (formD sx (mx * 2 ^ dd + my) ey) ∧ Below w.heap.size w w' := by
 obtain ⟨hex1, hex2⟩ := hex
 obtain ⟨hey1, hey2⟩ := hey
 have HGX : Hid (greatB mx = false) := hgx
 have HGY : Hid (greatB my = false) := hgy
 have hdd : ex - ey = (dd : Int) := by omega
 have hne : (ex == ey) = false := by simp; omega
 have H1 : Hid (shlR mx (dd : Int) = (0, 3)) := h1
 have H2 : Hid (greatB (formD sx (mx * 2 ^ dd + my) ey).2.1 = true) := by rw [Hid, form_odd sx (shl_odd mx my dd hd hoy)]; exact h2
 clear h1 h2 hgx hgy hoy hdd0
 go_enter Tryz.func181, Tryz.ntmps181
 go_wp2_with fail
 obtain ⟨hz_0, hw_0⟩ := dpZ w sx ax nx cx ex sy ay ny cy ey _ rfl
 obtain ⟨kx0_0, kx1_0, kx2_0, kx3_0, ky0_0, ky1_0, ky2_0, ky3_0⟩ := fX1 w sx ax nx cx ex sy ay ny cy ey _ rfl
 have hIx_0 := hIx.keep hw_0
 have hIy_0 := hIy.keep hw_0
 have hT_0 := hT.kept hw_0
 refine cM (shl_eq (i := (dd : Int)) (r := 0) (k := 3) hIx_0 (by omega) (by rw [val_words]; exact H1.out)) ?_
 rintro r w_1 ⟨a1, n1, c1, rfl, HN1, hn1, hO1_1, hb_1⟩
 have hz_1 := nT hz_0 hb_1
 have hw_1 := nT hw_0 hb_1
 have kx0_1 := kC hb_1 kx0_0
 have kx1_1 := kC hb_1 kx1_0
 have kx2_1 := kC hb_1 kx2_0
 have kx3_1 := kC hb_1 kx3_0
 have ky0_1 := kC hb_1 ky0_0
 have ky1_1 := kC hb_1 ky1_0
 have ky2_1 := kC hb_1 ky2_0
 have ky3_1 := kC hb_1 ky3_0
 have hIx_1 := hIx_0.keep hb_1
 have hIy_1 := hIy_0.keep hb_1
 have hT_1 := hT_0.kept hb_1
 clear hz_0 hw_0 kx0_0 kx1_0 kx2_0 kx3_0 ky0_0 ky1_0 ky2_0 ky3_0 hIx_0 hIy_0 hT_0 hb_1
 obtain ⟨m0, m1, m2, m3, f0, f1, f2, f3⟩ := zero_num (w := ((w.alloc (.cells #[.bool sx, .slice ax nx cx, .int .i64 ex, .bool false] 109)).alloc (.cells #[.bool sy, .slice ay ny cy, .int .i64 ey, .bool false] 109))) (r := w.heap.size + 1 + 1) hz_1 (by simp)
 go_wp2_with fail
 refine bodyPost_ret (v := numV false none 0 0 0 true) (by simp [results, Tryz.results181, go_sem, m0, m1, m2, m3]) rfl ?_
 exact ⟨_, rfl, Or.inr ⟨H2.out, rfl⟩, (((hw_1.setCell (le2 _) _).setCell (le2 _) _).setCell (le2 _) _).setCell (le2 _) _⟩
theorem together_calls (sx : Bool) (ax : Option Addr) (nx cx : Nat) (mx : Nat) (ex : Int) (sy : Bool) (ay : Option Addr) (ny cy : Nat) (my : Nat) (ey : Int) (w : World) (hIx : IsW w ax nx cx (wO mx)) (hnx : nx ≤ 1024) (hgx : greatB mx = false) (hex : -100000000 ≤ ex ∧ ex ≤ 100000000) (hIy : IsW w ay ny cy (wO my)) (hny : ny ≤ 1024) (hgy : greatB my = false) (hey : -100000000 ≤ ey ∧ ey ≤ 100000000) (hT : Tab w) (hox : mx % 2 = 1) (hoy : my % 2 = 1) (dd : Nat) (hdd : ex = ey + (dd : Int)) :
  Calls Tryz.prog 181 #[numV sx ax nx cx ex false, numV sy ay ny cy ey false] w fun r w' => ∃ v, r = .returned v ∧ NumR w.heap.size w' v (formD sx (mx * 2 ^ dd + my) ey) ∧ Below w.heap.size w w' := by
 by_cases h0 : dd = 0
 ·subst h0
  have hee : ex = ey := by omega
  rw [Nat.pow_zero, Nat.mul_one]
  have h1 := together_level sx ax nx cx mx ex sy ay ny cy my ey w hIx hnx hgx hex hIy hny hgy hey hT hox hoy hee
  clear hdd
  subst hee
  exact h1
 ·rcases shl_cases mx dd my hgx with ⟨h1, h2⟩ | ⟨h1, h2⟩
  ·exact together_fit sx ax nx cx mx ex sy ay ny cy my ey w hIx hnx hgx hex hIy hny hgy hey hT hoy dd (by omega) hdd h1 h2
  ·exact together_many sx ax nx cx mx ex sy ay ny cy my ey w hIx hnx hgx hex hIy hny hgy hey hT hoy dd (by omega) hdd h1 h2.1
theorem levelApart_ge (sx : Bool) (ax : Option Addr) (nx cx : Nat) (mx : Nat) (ex : Int) (sy : Bool) (ay : Option Addr) (ny cy : Nat) (my : Nat) (ey : Int) (w : World) (hIx : IsW w ax nx cx (wO mx)) (hnx : nx ≤ 1024) (hgx : greatB mx = false) (hex : -100000000 ≤ ex ∧ ex ≤ 100000000) (hIy : IsW w ay ny cy (wO my)) (hny : ny ≤ 1024) (hgy : greatB my = false) (hey : -100000000 ≤ ey ∧ ey ≤ 100000000) (hT : Tab w) (hle : my ≤ mx) :
  Calls Tryz.prog 182 #[numV sx ax nx cx ex false, numV sy ay ny cy ey false] w fun r w' => ∃ v, r = .returned v ∧ NumR w.heap.size w' v (formD sx (mx - my) ex) ∧ Below w.heap.size w w' := by
 obtain ⟨hex1, hex2⟩ := hex
 obtain ⟨hey1, hey2⟩ := hey
 have HGX : Hid (greatB mx = false) := hgx
 have HGY : Hid (greatB my = false) := hgy
 have HLE : Hid (my ≤ mx) := hle
 have hcm : 0 ≤ cmpN mx my := by unfold cmpN; rw [if_neg (by omega)]; split <;> omega
 have HGS : Hid (greatB (mx - my) = false) := great_mono (Nat.sub_le _ _) hgx
 clear hgx hgy hle
 go_enter Tryz.func182, Tryz.ntmps182
 go_wp2_with fail
 obtain ⟨hz_0, hw_0⟩ := dpZ w sx ax nx cx ex sy ay ny cy ey _ rfl
 obtain ⟨kx0_0, kx1_0, kx2_0, kx3_0, ky0_0, ky1_0, ky2_0, ky3_0⟩ := fX1 w sx ax nx cx ex sy ay ny cy ey _ rfl
 have hIx_0 := hIx.keep hw_0
 have hIy_0 := hIy.keep hw_0
 have hT_0 := hT.kept hw_0
 refine cM (cmp_calls _ _ _ _ _ _ _ _ _ hIx_0 hIy_0 (by omega) (by omega)) ?_
 rintro r w_1 ⟨_, hr, hb_1⟩
 have hz_1 := nT hz_0 hb_1
 have hw_1 := nT hw_0 hb_1
 have kx0_1 := kC hb_1 kx0_0
 have kx1_1 := kC hb_1 kx1_0
 have kx2_1 := kC hb_1 kx2_0
 have kx3_1 := kC hb_1 kx3_0
 have ky0_1 := kC hb_1 ky0_0
 have ky1_1 := kC hb_1 ky1_0
 have ky2_1 := kC hb_1 ky2_0
 have ky3_1 := kC hb_1 ky3_0
 have hIx_1 := hIx_0.keep hb_1
 have hIy_1 := hIy_0.keep hb_1
 have hT_1 := hT_0.kept hb_1
 clear hz_0 hw_0 kx0_0 kx1_0 kx2_0 kx3_0 ky0_0 ky1_0 ky2_0 ky3_0 hIx_0 hIy_0 hT_0 hb_1
 obtain rfl := hr (by rw [val_words, val_words, HGX.out, HGY.out]; rfl)
 rw [val_words, val_words]
 clear hr
 generalize cmpN mx my = cm at hcm ⊢
 go_wp2_with fail
 refine cM (sub_eq (r := mx - my) (k := 0) hIx_1 hIy_1 (by omega) (by omega) (by rw [val_words, val_words, subR_no (by rw [HGX.out, HGY.out]; rfl) HLE.out])) ?_
 rintro r w_2 ⟨a2, n2, c2, rfl, HN2, hn2, hO2_2, hb_2⟩
 have hz_2 := nT hz_1 hb_2
 have hw_2 := nT hw_1 hb_2
 have kx0_2 := kC hb_2 kx0_1
 have kx1_2 := kC hb_2 kx1_1
 have kx2_2 := kC hb_2 kx2_1
 have kx3_2 := kC hb_2 kx3_1
 have ky0_2 := kC hb_2 ky0_1
 have ky1_2 := kC hb_2 ky1_1
 have ky2_2 := kC hb_2 ky2_1
 have ky3_2 := kC hb_2 ky3_1
 have hIx_2 := hIx_1.keep hb_2
 have hIy_2 := hIy_1.keep hb_2
 have hT_2 := hT_1.kept hb_2
 clear hz_1 hw_1 kx0_1 kx1_1 kx2_1 kx3_1 ky0_1 ky1_1 ky2_1 ky3_1 hIx_1 hIy_1 hT_1 hb_2
 have hsz : w.heap.size + 1 + 1 < w_2.heap.size := by have := hz_2.size; simp at this; omega
 go_wp2_with fail
 refine cM (reckoned_ok sx a2 n2 c2 (wO (mx - my)) ex w_2 hO2_2.1 (by omega) hT_2 (by rw [val_words]; exact HGS.out) ⟨by omega, by omega⟩) ?_
 rintro r w_3 ⟨v, rfl, hN1, hb_3⟩
 have hz_3 := nT hz_2 hb_3
 have hw_3 := nT hw_2 hb_3
 have kx0_3 := kC hb_3 kx0_2
 have kx1_3 := kC hb_3 kx1_2
 have kx2_3 := kC hb_3 kx2_2
 have kx3_3 := kC hb_3 kx3_2
 have ky0_3 := kC hb_3 ky0_2
 have ky1_3 := kC hb_3 ky1_2
 have ky2_3 := kC hb_3 ky2_2
 have ky3_3 := kC hb_3 ky3_2
 have hIx_3 := hIx_2.keep hb_3
 have hIy_3 := hIy_2.keep hb_3
 have hT_3 := hT_2.kept hb_3
 have hO2_3 := hO2_2.keep hb_3
 clear hz_2 hw_2 kx0_2 kx1_2 kx2_2 kx3_2 ky0_2 ky1_2 ky2_2 ky3_2 hIx_2 hIy_2 hT_2 hO2_2 hb_3
 rw [val_words] at hN1
 have hN : NumR _ _ _ (formD sx (mx - my) ex) := Or.inl ⟨great_mono (form_amount_le _ _ _) HGS.out, hN1⟩
 clear hN1
 rcases hN with ⟨hg, ao, nn, cc, rfl, HN, HZ, hnn, hO⟩ | ⟨hg, rfl⟩
 ·obtain ⟨m0, m1, m2, m3, f0, f1, f2, f3⟩ := zero_num (w := ((w.alloc (.cells #[.bool sx, .slice ax nx cx, .int .i64 ex, .bool false] 109)).alloc (.cells #[.bool sy, .slice ay ny cy, .int .i64 ey, .bool false] 109))) (r := w.heap.size + 1 + 1) hz_3 (by simp)
  go_wp2_with fail
  refine bodyPost_ret (v := numV (formD sx (mx - my) ex).1 ao nn cc (formD sx (mx - my) ex).2.2 false) (by simp [results, Tryz.results182, go_sem, m0, m1, m2, m3]) rfl ?_
  exact ⟨_, rfl, Or.inl ⟨hg, ao, nn, cc, rfl, HN, HZ, hnn, ((((hO.far _ _ (by show w.heap.size + 1 + 1 < _; omega)).far _ _ (by show w.heap.size + 1 + 1 < _; omega)).far _ _ (by show w.heap.size + 1 + 1 < _; omega)).far _ _ (by show w.heap.size + 1 + 1 < _; omega)).low (by omega)⟩, (((hw_3.setCell (le2 _) _).setCell (le2 _) _).setCell (le2 _) _).setCell (le2 _) _⟩
 ·obtain ⟨m0, m1, m2, m3, f0, f1, f2, f3⟩ := zero_num (w := ((w.alloc (.cells #[.bool sx, .slice ax nx cx, .int .i64 ex, .bool false] 109)).alloc (.cells #[.bool sy, .slice ay ny cy, .int .i64 ey, .bool false] 109))) (r := w.heap.size + 1 + 1) hz_3 (by simp)
  go_wp2_with fail
  refine bodyPost_ret (v := numV false none 0 0 0 true) (by simp [results, Tryz.results182, go_sem, m0, m1, m2, m3]) rfl ?_
  exact ⟨_, rfl, Or.inr ⟨hg, rfl⟩, (((hw_3.setCell (le2 _) _).setCell (le2 _) _).setCell (le2 _) _).setCell (le2 _) _⟩
theorem levelApart_lt (sx : Bool) (ax : Option Addr) (nx cx : Nat) (mx : Nat) (ex : Int) (sy : Bool) (ay : Option Addr) (ny cy : Nat) (my : Nat) (ey : Int) (w : World) (hIx : IsW w ax nx cx (wO mx)) (hnx : nx ≤ 1024) (hgx : greatB mx = false) (hex : -100000000 ≤ ex ∧ ex ≤ 100000000) (hIy : IsW w ay ny cy (wO my)) (hny : ny ≤ 1024) (hgy : greatB my = false) (hey : -100000000 ≤ ey ∧ ey ≤ 100000000) (hT : Tab w) (hlt : mx < my) :
  Calls Tryz.prog 182 #[numV sx ax nx cx ex false, numV sy ay ny cy ey false] w fun r w' => ∃ v, r = .returned v ∧ NumR w.heap.size w' v (formD sy (my - mx) ey) ∧ Below w.heap.size w w' := by
 have hcm : cmpN mx my = -1 := by unfold cmpN; rw [if_pos hlt]
 have HCM : Hid (cmpN mx my = -1) := hcm
 have LA : Hid (∀ W, Below w.heap.size w W → Calls Tryz.prog 182 #[numV sy ay ny cy ey false, numV sx ax nx cx ex false] W fun r w' => ∃ v, r = .returned v ∧ NumR W.heap.size w' v (formD sy (my - mx) ey) ∧ Below W.heap.size W w') := fun W hW => levelApart_ge sy ay ny cy my ey sx ax nx cx mx ex W (hIy.keep hW) hny hgy hey (hIx.keep hW) hnx hgx hex (hT.kept hW) (by omega)
 have HGX : Hid (greatB mx = false) := hgx
 have HGY : Hid (greatB my = false) := hgy
 clear hgx hgy hlt hcm
 go_enter Tryz.func182, Tryz.ntmps182
 go_wp2_with fail
 obtain ⟨hz_0, hw_0⟩ := dpZ w sx ax nx cx ex sy ay ny cy ey _ rfl
 obtain ⟨kx0_0, kx1_0, kx2_0, kx3_0, ky0_0, ky1_0, ky2_0, ky3_0⟩ := fX1 w sx ax nx cx ex sy ay ny cy ey _ rfl
 have hIx_0 := hIx.keep hw_0
 have hIy_0 := hIy.keep hw_0
 refine cM (cmp_calls _ _ _ _ _ _ _ _ _ hIx_0 hIy_0 (by omega) (by omega)) ?_
 rintro r w_1 ⟨_, hr, hb_1⟩
 have hz_1 := nT hz_0 hb_1
 have hw_1 := nT hw_0 hb_1
 have kx0_1 := kC hb_1 kx0_0
 have kx1_1 := kC hb_1 kx1_0
 have kx2_1 := kC hb_1 kx2_0
 have kx3_1 := kC hb_1 kx3_0
 have ky0_1 := kC hb_1 ky0_0
 have ky1_1 := kC hb_1 ky1_0
 have ky2_1 := kC hb_1 ky2_0
 have ky3_1 := kC hb_1 ky3_0
 have hIx_1 := hIx_0.keep hb_1
 have hIy_1 := hIy_0.keep hb_1
 clear hz_0 hw_0 kx0_0 kx1_0 kx2_0 kx3_0 ky0_0 ky1_0 ky2_0 ky3_0 hIx_0 hIy_0 hb_1
 obtain rfl := hr (by rw [val_words, val_words, HGX.out, HGY.out]; rfl)
 rw [val_words, val_words, HCM.out]
 clear hr
 have hsz : w.heap.size + 1 + 1 < w_1.heap.size := by have := hz_1.size; simp at this; omega
 go_wp2_with fail
 refine cM (LA.out _ hw_1) ?_
 rintro r w_2 ⟨v, rfl, hN, hb_2⟩
 have hz_2 := nT hz_1 hb_2
 have hw_2 := nT hw_1 hb_2
 have kx0_2 := kC hb_2 kx0_1
 have kx1_2 := kC hb_2 kx1_1
 have kx2_2 := kC hb_2 kx2_1
 have kx3_2 := kC hb_2 kx3_1
 have ky0_2 := kC hb_2 ky0_1
 have ky1_2 := kC hb_2 ky1_1
 have ky2_2 := kC hb_2 ky2_1
 have ky3_2 := kC hb_2 ky3_1
 have hIx_2 := hIx_1.keep hb_2
 have hIy_2 := hIy_1.keep hb_2
 clear hz_1 hw_1 kx0_1 kx1_1 kx2_1 kx3_1 ky0_1 ky1_1 ky2_1 ky3_1 hIx_1 hIy_1 hb_2
 clear LA
 rcases hN with ⟨hg, ao, nn, cc, rfl, HN, HZ, hnn, hO⟩ | ⟨hg, rfl⟩
 ·obtain ⟨m0, m1, m2, m3, f0, f1, f2, f3⟩ := zero_num (w := ((w.alloc (.cells #[.bool sx, .slice ax nx cx, .int .i64 ex, .bool false] 109)).alloc (.cells #[.bool sy, .slice ay ny cy, .int .i64 ey, .bool false] 109))) (r := w.heap.size + 1 + 1) hz_2 (by simp)
  go_wp2_with fail
  refine bodyPost_ret (v := numV (formD sy (my - mx) ey).1 ao nn cc (formD sy (my - mx) ey).2.2 false) (by simp [results, Tryz.results182, go_sem, m0, m1, m2, m3]) rfl ?_
  exact ⟨_, rfl, Or.inl ⟨hg, ao, nn, cc, rfl, HN, HZ, hnn, ((((hO.far _ _ (by show w.heap.size + 1 + 1 < _; omega)).far _ _ (by show w.heap.size + 1 + 1 < _; omega)).far _ _ (by show w.heap.size + 1 + 1 < _; omega)).far _ _ (by show w.heap.size + 1 + 1 < _; omega)).low (by omega)⟩, (((hw_2.setCell (le2 _) _).setCell (le2 _) _).setCell (le2 _) _).setCell (le2 _) _⟩
 ·obtain ⟨m0, m1, m2, m3, f0, f1, f2, f3⟩ := zero_num (w := ((w.alloc (.cells #[.bool sx, .slice ax nx cx, .int .i64 ex, .bool false] 109)).alloc (.cells #[.bool sy, .slice ay ny cy, .int .i64 ey, .bool false] 109))) (r := w.heap.size + 1 + 1) hz_2 (by simp)
  go_wp2_with fail
  refine bodyPost_ret (v := numV false none 0 0 0 true) (by simp [results, Tryz.results182, go_sem, m0, m1, m2, m3]) rfl ?_
  exact ⟨_, rfl, Or.inr ⟨hg, rfl⟩, (((hw_2.setCell (le2 _) _).setCell (le2 _) _).setCell (le2 _) _).setCell (le2 _) _⟩
theorem apart_many (sx : Bool) (ax : Option Addr) (nx cx : Nat) (mx : Nat) (ex : Int) (sy : Bool) (ay : Option Addr) (ny cy : Nat) (my : Nat) (ey : Int) (w : World) (hIx : IsW w ax nx cx (wO mx)) (hnx : nx ≤ 1024) (hgx : greatB mx = false) (hex : -100000000 ≤ ex ∧ ex ≤ 100000000) (hIy : IsW w ay ny cy (wO my)) (_hny : ny ≤ 1024) (hgy : greatB my = false) (hey : -100000000 ≤ ey ∧ ey ≤ 100000000) (hT : Tab w) (dd : Nat) (hd : 0 < dd) (hdd0 : ex = ey + (dd : Int)) (h1 : shlR mx ((dd - 1 : Nat) : Int) = (0, 3)) (h2 : greatB (formD sx (mx * 2 ^ dd - my) ey).2.1 = true) :
  Calls Tryz.prog 183 #[numV sx ax nx cx ex false, numV sy ay ny cy ey false] w fun r w' => ∃ v, r = .returned v ∧ NumR w.heap.size w' v (formD sx (mx * 2 ^ dd - my) ey) ∧ Below w.heap.size w w' := by
 obtain ⟨hex1, hex2⟩ := hex
 obtain ⟨hey1, hey2⟩ := hey
 have HGX : Hid (greatB mx = false) := hgx
 have HGY : Hid (greatB my = false) := hgy
 have hdd : ex - ey - 1 = ((dd - 1 : Nat) : Int) := by omega
 have H1 : Hid (shlR mx ((dd - 1 : Nat) : Int) = (0, 3)) := h1
 have H2 : Hid (greatB (formD sx (mx * 2 ^ dd - my) ey).2.1 = true) := h2
 clear h1 h2 hgx hgy hdd0
 go_enter Tryz.func183, Tryz.ntmps183
 go_wp2_with fail
 obtain ⟨hz_0, hw_0⟩ := dpZ w sx ax nx cx ex sy ay ny cy ey _ rfl
 obtain ⟨kx0_0, kx1_0, kx2_0, kx3_0, ky0_0, ky1_0, ky2_0, ky3_0⟩ := fX1 w sx ax nx cx ex sy ay ny cy ey _ rfl
 have hIx_0 := hIx.keep hw_0
 have hIy_0 := hIy.keep hw_0
 have hT_0 := hT.kept hw_0
 refine cM (shl_eq (i := ((dd - 1 : Nat) : Int)) (r := 0) (k := 3) hIx_0 (by omega) (by rw [val_words]; exact H1.out)) ?_
 rintro r w_1 ⟨a1, n1, c1, rfl, HN1, hn1, hO1_1, hb_1⟩
 have hz_1 := nT hz_0 hb_1
 have hw_1 := nT hw_0 hb_1
 have kx0_1 := kC hb_1 kx0_0
 have kx1_1 := kC hb_1 kx1_0
 have kx2_1 := kC hb_1 kx2_0
 have kx3_1 := kC hb_1 kx3_0
 have ky0_1 := kC hb_1 ky0_0
 have ky1_1 := kC hb_1 ky1_0
 have ky2_1 := kC hb_1 ky2_0
 have ky3_1 := kC hb_1 ky3_0
 have hIx_1 := hIx_0.keep hb_1
 have hIy_1 := hIy_0.keep hb_1
 have hT_1 := hT_0.kept hb_1
 clear hz_0 hw_0 kx0_0 kx1_0 kx2_0 kx3_0 ky0_0 ky1_0 ky2_0 ky3_0 hIx_0 hIy_0 hT_0 hb_1
 obtain ⟨m0, m1, m2, m3, f0, f1, f2, f3⟩ := zero_num (w := ((w.alloc (.cells #[.bool sx, .slice ax nx cx, .int .i64 ex, .bool false] 109)).alloc (.cells #[.bool sy, .slice ay ny cy, .int .i64 ey, .bool false] 109))) (r := w.heap.size + 1 + 1) hz_1 (by simp)
 go_wp2_with fail
 refine bodyPost_ret (v := numV false none 0 0 0 true) (by simp [results, Tryz.results183, go_sem, m0, m1, m2, m3]) rfl ?_
 exact ⟨_, rfl, Or.inr ⟨H2.out, rfl⟩, (((hw_1.setCell (le2 _) _).setCell (le2 _) _).setCell (le2 _) _).setCell (le2 _) _⟩
theorem apart_lo (sx : Bool) (ax : Option Addr) (nx cx : Nat) (mx : Nat) (ex : Int) (sy : Bool) (ay : Option Addr) (ny cy : Nat) (my : Nat) (ey : Int) (w : World) (hIx : IsW w ax nx cx (wO mx)) (hnx : nx ≤ 1024) (hgx : greatB mx = false) (hex : -100000000 ≤ ex ∧ ex ≤ 100000000) (hIy : IsW w ay ny cy (wO my)) (hny : ny ≤ 1024) (hgy : greatB my = false) (hey : -100000000 ≤ ey ∧ ey ≤ 100000000) (hT : Tab w) (dd : Nat) (hd : 0 < dd) (hdd0 : ex = ey + (dd : Int)) (hf : Nat) (h1 : shlR mx ((dd - 1 : Nat) : Int) = (hf, 0)) (h2 : greatB hf = false) (h3 : hf ≤ my / 2) (h4 : formD sy (2 * (my / 2 - hf) + 1) ey = (formD sy (my - mx * 2 ^ dd) ey)) :
  Calls Tryz.prog 183 #[numV sx ax nx cx ex false, numV sy ay ny cy ey false] w fun r w' => ∃ v, r = .returned v ∧ NumR w.heap.size w' v (formD sy (my - mx * 2 ^ dd) ey) ∧ Below w.heap.size w w' := by
 obtain ⟨hex1, hex2⟩ := hex
 obtain ⟨hey1, hey2⟩ := hey
 have HGX : Hid (greatB mx = false) := hgx
 have HGY : Hid (greatB my = false) := hgy
 have hdd : ex - ey - 1 = ((dd - 1 : Nat) : Int) := by omega
 have H1 : Hid (shlR mx ((dd - 1 : Nat) : Int) = (hf, 0)) := h1
 have H2 : Hid (greatB hf = false) := h2
 have H3 : Hid (hf ≤ my / 2) := h3
 have H4 : Hid (formD sy (2 * (my / 2 - hf) + 1) ey = (formD sy (my - mx * 2 ^ dd) ey)) := h4
 clear h1 h2 h3 h4 hgx hgy hdd0
 have HGH : Hid (greatB (my / 2) = false) := great_mono (Nat.div_le_self my 2) HGY.out
 go_enter Tryz.func183, Tryz.ntmps183
 go_wp2_with fail
 obtain ⟨hz_0, hw_0⟩ := dpZ w sx ax nx cx ex sy ay ny cy ey _ rfl
 obtain ⟨kx0_0, kx1_0, kx2_0, kx3_0, ky0_0, ky1_0, ky2_0, ky3_0⟩ := fX1 w sx ax nx cx ex sy ay ny cy ey _ rfl
 have hIx_0 := hIx.keep hw_0
 have hIy_0 := hIy.keep hw_0
 have hT_0 := hT.kept hw_0
 refine cM (shl_eq (i := ((dd - 1 : Nat) : Int)) (r := hf) (k := 0) hIx_0 (by omega) (by rw [val_words]; exact H1.out)) ?_
 rintro r w_1 ⟨a1, n1, c1, rfl, HN1, hn1, hO1_1, hb_1⟩
 have hz_1 := nT hz_0 hb_1
 have hw_1 := nT hw_0 hb_1
 have kx0_1 := kC hb_1 kx0_0
 have kx1_1 := kC hb_1 kx1_0
 have kx2_1 := kC hb_1 kx2_0
 have kx3_1 := kC hb_1 kx3_0
 have ky0_1 := kC hb_1 ky0_0
 have ky1_1 := kC hb_1 ky1_0
 have ky2_1 := kC hb_1 ky2_0
 have ky3_1 := kC hb_1 ky3_0
 have hIx_1 := hIx_0.keep hb_1
 have hIy_1 := hIy_0.keep hb_1
 have hT_1 := hT_0.kept hb_1
 clear hz_0 hw_0 kx0_0 kx1_0 kx2_0 kx3_0 ky0_0 ky1_0 ky2_0 ky3_0 hIx_0 hIy_0 hT_0 hb_1
 go_wp2_with fail
 refine cM (shr_eq (i := 1) (r := my / 2) (l := lostB my 1) (k := 0) hIy_1 (by omega) (by omega) (by rw [val_words]; exact (shr1 HGY.out).1) (by rw [val_words]; exact (shr1 HGY.out).2.1) (by rw [val_words]; exact (shr1 HGY.out).2.2)) ?_
 rintro r w_2 ⟨a2, n2, c2, rfl, HN2, hn2, hO2_2, hb_2⟩
 have hz_2 := nT hz_1 hb_2
 have hw_2 := nT hw_1 hb_2
 have kx0_2 := kC hb_2 kx0_1
 have kx1_2 := kC hb_2 kx1_1
 have kx2_2 := kC hb_2 kx2_1
 have kx3_2 := kC hb_2 kx3_1
 have ky0_2 := kC hb_2 ky0_1
 have ky1_2 := kC hb_2 ky1_1
 have ky2_2 := kC hb_2 ky2_1
 have ky3_2 := kC hb_2 ky3_1
 have hIx_2 := hIx_1.keep hb_2
 have hIy_2 := hIy_1.keep hb_2
 have hT_2 := hT_1.kept hb_2
 have hO1_2 := hO1_1.keep hb_2
 clear hz_1 hw_1 kx0_1 kx1_1 kx2_1 kx3_1 ky0_1 ky1_1 ky2_1 ky3_1 hIx_1 hIy_1 hT_1 hO1_1 hb_2
 go_wp2_with fail
 refine cM (sub_eq (r := my / 2 - hf) (k := 0) hO2_2.1 hO1_2.1 (by omega) (by omega) (by rw [val_words, val_words, subR_no (by rw [HGH.out, H2.out]; rfl) H3.out])) ?_
 rintro r w_3 ⟨a3, n3, c3, rfl, HN3, hn3, hO3_3, hb_3⟩
 have hz_3 := nT hz_2 hb_3
 have hw_3 := nT hw_2 hb_3
 have kx0_3 := kC hb_3 kx0_2
 have kx1_3 := kC hb_3 kx1_2
 have kx2_3 := kC hb_3 kx2_2
 have kx3_3 := kC hb_3 kx3_2
 have ky0_3 := kC hb_3 ky0_2
 have ky1_3 := kC hb_3 ky1_2
 have ky2_3 := kC hb_3 ky2_2
 have ky3_3 := kC hb_3 ky3_2
 have hIx_3 := hIx_2.keep hb_3
 have hIy_3 := hIy_2.keep hb_3
 have hT_3 := hT_2.kept hb_3
 have hO1_3 := hO1_2.keep hb_3
 have hO2_3 := hO2_2.keep hb_3
 clear hz_2 hw_2 kx0_2 kx1_2 kx2_2 kx3_2 ky0_2 ky1_2 ky2_2 ky3_2 hIx_2 hIy_2 hT_2 hO1_2 hO2_2 hb_3
 have hsz : w.heap.size + 1 + 1 < w_3.heap.size := by have := hz_3.size; simp at this; omega
 go_wp2_with fail
 refine cM (twice_calls sy a3 n3 c3 (my / 2 - hf) ey w_3 hO3_3.1 (by omega) (great_mono (Nat.sub_le _ _) HGH.out) ⟨by omega, by omega⟩ hT_3) ?_
 rintro r w_4 ⟨v, rfl, hN, hb_4⟩
 have hz_4 := nT hz_3 hb_4
 have hw_4 := nT hw_3 hb_4
 have kx0_4 := kC hb_4 kx0_3
 have kx1_4 := kC hb_4 kx1_3
 have kx2_4 := kC hb_4 kx2_3
 have kx3_4 := kC hb_4 kx3_3
 have ky0_4 := kC hb_4 ky0_3
 have ky1_4 := kC hb_4 ky1_3
 have ky2_4 := kC hb_4 ky2_3
 have ky3_4 := kC hb_4 ky3_3
 have hIx_4 := hIx_3.keep hb_4
 have hIy_4 := hIy_3.keep hb_4
 have hT_4 := hT_3.kept hb_4
 have hO1_4 := hO1_3.keep hb_4
 have hO2_4 := hO2_3.keep hb_4
 have hO3_4 := hO3_3.keep hb_4
 clear hz_3 hw_3 kx0_3 kx1_3 kx2_3 kx3_3 ky0_3 ky1_3 ky2_3 ky3_3 hIx_3 hIy_3 hT_3 hO1_3 hO2_3 hO3_3 hb_4
 rw [H4.out] at hN
 rcases hN with ⟨hg, ao, nn, cc, rfl, HN, HZ, hnn, hO⟩ | ⟨hg, rfl⟩
 ·obtain ⟨m0, m1, m2, m3, f0, f1, f2, f3⟩ := zero_num (w := ((w.alloc (.cells #[.bool sx, .slice ax nx cx, .int .i64 ex, .bool false] 109)).alloc (.cells #[.bool sy, .slice ay ny cy, .int .i64 ey, .bool false] 109))) (r := w.heap.size + 1 + 1) hz_4 (by simp)
  go_wp2_with fail
  refine bodyPost_ret (v := numV (formD sy (my - mx * 2 ^ dd) ey).1 ao nn cc (formD sy (my - mx * 2 ^ dd) ey).2.2 false) (by simp [results, Tryz.results183, go_sem, m0, m1, m2, m3]) rfl ?_
  exact ⟨_, rfl, Or.inl ⟨hg, ao, nn, cc, rfl, HN, HZ, hnn, ((((hO.far _ _ (by show w.heap.size + 1 + 1 < _; omega)).far _ _ (by show w.heap.size + 1 + 1 < _; omega)).far _ _ (by show w.heap.size + 1 + 1 < _; omega)).far _ _ (by show w.heap.size + 1 + 1 < _; omega)).low (by omega)⟩, (((hw_4.setCell (le2 _) _).setCell (le2 _) _).setCell (le2 _) _).setCell (le2 _) _⟩
 ·obtain ⟨m0, m1, m2, m3, f0, f1, f2, f3⟩ := zero_num (w := ((w.alloc (.cells #[.bool sx, .slice ax nx cx, .int .i64 ex, .bool false] 109)).alloc (.cells #[.bool sy, .slice ay ny cy, .int .i64 ey, .bool false] 109))) (r := w.heap.size + 1 + 1) hz_4 (by simp)
  go_wp2_with fail
  refine bodyPost_ret (v := numV false none 0 0 0 true) (by simp [results, Tryz.results183, go_sem, m0, m1, m2, m3]) rfl ?_
  exact ⟨_, rfl, Or.inr ⟨hg, rfl⟩, (((hw_4.setCell (le2 _) _).setCell (le2 _) _).setCell (le2 _) _).setCell (le2 _) _⟩
theorem apart_hi (sx : Bool) (ax : Option Addr) (nx cx : Nat) (mx : Nat) (ex : Int) (sy : Bool) (ay : Option Addr) (ny cy : Nat) (my : Nat) (ey : Int) (w : World) (hIx : IsW w ax nx cx (wO mx)) (hnx : nx ≤ 1024) (hgx : greatB mx = false) (hex : -100000000 ≤ ex ∧ ex ≤ 100000000) (hIy : IsW w ay ny cy (wO my)) (hny : ny ≤ 1024) (hgy : greatB my = false) (hey : -100000000 ≤ ey ∧ ey ≤ 100000000) (hT : Tab w) (dd : Nat) (hd : 0 < dd) (hdd0 : ex = ey + (dd : Int)) (hf : Nat) (h1 : shlR mx ((dd - 1 : Nat) : Int) = (hf, 0)) (h2 : greatB hf = false) (h3 : my / 2 < hf) (h4 : formD sx (2 * (hf - my / 2 - 1) + 1) ey = (formD sx (mx * 2 ^ dd - my) ey)) :
  Calls Tryz.prog 183 #[numV sx ax nx cx ex false, numV sy ay ny cy ey false] w fun r w' => ∃ v, r = .returned v ∧ NumR w.heap.size w' v (formD sx (mx * 2 ^ dd - my) ey) ∧ Below w.heap.size w w' := by
 obtain ⟨hex1, hex2⟩ := hex
 obtain ⟨hey1, hey2⟩ := hey
 have HGX : Hid (greatB mx = false) := hgx
 have HGY : Hid (greatB my = false) := hgy
 have hdd : ex - ey - 1 = ((dd - 1 : Nat) : Int) := by omega
 have H1 : Hid (shlR mx ((dd - 1 : Nat) : Int) = (hf, 0)) := h1
 have H2 : Hid (greatB hf = false) := h2
 have H3 : Hid (my / 2 < hf) := h3
 have H4 : Hid (formD sx (2 * (hf - my / 2 - 1) + 1) ey = (formD sx (mx * 2 ^ dd - my) ey)) := h4
 clear h1 h2 h3 h4 hgx hgy hdd0
 have HGH : Hid (greatB (my / 2) = false) := great_mono (Nat.div_le_self my 2) HGY.out
 go_enter Tryz.func183, Tryz.ntmps183
 go_wp2_with fail
 obtain ⟨hz_0, hw_0⟩ := dpZ w sx ax nx cx ex sy ay ny cy ey _ rfl
 obtain ⟨kx0_0, kx1_0, kx2_0, kx3_0, ky0_0, ky1_0, ky2_0, ky3_0⟩ := fX1 w sx ax nx cx ex sy ay ny cy ey _ rfl
 have hIx_0 := hIx.keep hw_0
 have hIy_0 := hIy.keep hw_0
 have hT_0 := hT.kept hw_0
 refine cM (shl_eq (i := ((dd - 1 : Nat) : Int)) (r := hf) (k := 0) hIx_0 (by omega) (by rw [val_words]; exact H1.out)) ?_
 rintro r w_1 ⟨a1, n1, c1, rfl, HN1, hn1, hO1_1, hb_1⟩
 have hz_1 := nT hz_0 hb_1
 have hw_1 := nT hw_0 hb_1
 have kx0_1 := kC hb_1 kx0_0
 have kx1_1 := kC hb_1 kx1_0
 have kx2_1 := kC hb_1 kx2_0
 have kx3_1 := kC hb_1 kx3_0
 have ky0_1 := kC hb_1 ky0_0
 have ky1_1 := kC hb_1 ky1_0
 have ky2_1 := kC hb_1 ky2_0
 have ky3_1 := kC hb_1 ky3_0
 have hIx_1 := hIx_0.keep hb_1
 have hIy_1 := hIy_0.keep hb_1
 have hT_1 := hT_0.kept hb_1
 clear hz_0 hw_0 kx0_0 kx1_0 kx2_0 kx3_0 ky0_0 ky1_0 ky2_0 ky3_0 hIx_0 hIy_0 hT_0 hb_1
 go_wp2_with fail
 refine cM (shr_eq (i := 1) (r := my / 2) (l := lostB my 1) (k := 0) hIy_1 (by omega) (by omega) (by rw [val_words]; exact (shr1 HGY.out).1) (by rw [val_words]; exact (shr1 HGY.out).2.1) (by rw [val_words]; exact (shr1 HGY.out).2.2)) ?_
 rintro r w_2 ⟨a2, n2, c2, rfl, HN2, hn2, hO2_2, hb_2⟩
 have hz_2 := nT hz_1 hb_2
 have hw_2 := nT hw_1 hb_2
 have kx0_2 := kC hb_2 kx0_1
 have kx1_2 := kC hb_2 kx1_1
 have kx2_2 := kC hb_2 kx2_1
 have kx3_2 := kC hb_2 kx3_1
 have ky0_2 := kC hb_2 ky0_1
 have ky1_2 := kC hb_2 ky1_1
 have ky2_2 := kC hb_2 ky2_1
 have ky3_2 := kC hb_2 ky3_1
 have hIx_2 := hIx_1.keep hb_2
 have hIy_2 := hIy_1.keep hb_2
 have hT_2 := hT_1.kept hb_2
 have hO1_2 := hO1_1.keep hb_2
 clear hz_1 hw_1 kx0_1 kx1_1 kx2_1 kx3_1 ky0_1 ky1_1 ky2_1 ky3_1 hIx_1 hIy_1 hT_1 hO1_1 hb_2
 go_wp2_with fail
 refine cM (sub_eq (r := 0) (k := 31) hO2_2.1 hO1_2.1 (by omega) (by omega) (by rw [val_words, val_words, subR_less (by rw [HGH.out, H2.out]; rfl) H3.out])) ?_
 rintro r w_3 ⟨a3, n3, c3, rfl, HN3, hn3, hO3_3, hb_3⟩
 have hz_3 := nT hz_2 hb_3
 have hw_3 := nT hw_2 hb_3
 have kx0_3 := kC hb_3 kx0_2
 have kx1_3 := kC hb_3 kx1_2
 have kx2_3 := kC hb_3 kx2_2
 have kx3_3 := kC hb_3 kx3_2
 have ky0_3 := kC hb_3 ky0_2
 have ky1_3 := kC hb_3 ky1_2
 have ky2_3 := kC hb_3 ky2_2
 have ky3_3 := kC hb_3 ky3_2
 have hIx_3 := hIx_2.keep hb_3
 have hIy_3 := hIy_2.keep hb_3
 have hT_3 := hT_2.kept hb_3
 have hO1_3 := hO1_2.keep hb_3
 have hO2_3 := hO2_2.keep hb_3
 clear hz_2 hw_2 kx0_2 kx1_2 kx2_2 kx3_2 ky0_2 ky1_2 ky2_2 ky3_2 hIx_2 hIy_2 hT_2 hO1_2 hO2_2 hb_3
 go_wp2_with fail
 refine cM (sub_eq (r := hf - my / 2) (k := 0) hO1_3.1 hO2_3.1 (by omega) (by omega) (by rw [val_words, val_words, subR_no (by rw [HGH.out, H2.out]; rfl) (Nat.le_of_lt H3.out)])) ?_
 rintro r w_4 ⟨a4, n4, c4, rfl, HN4, hn4, hO4_4, hb_4⟩
 have hz_4 := nT hz_3 hb_4
 have hw_4 := nT hw_3 hb_4
 have kx0_4 := kC hb_4 kx0_3
 have kx1_4 := kC hb_4 kx1_3
 have kx2_4 := kC hb_4 kx2_3
 have kx3_4 := kC hb_4 kx3_3
 have ky0_4 := kC hb_4 ky0_3
 have ky1_4 := kC hb_4 ky1_3
 have ky2_4 := kC hb_4 ky2_3
 have ky3_4 := kC hb_4 ky3_3
 have hIx_4 := hIx_3.keep hb_4
 have hIy_4 := hIy_3.keep hb_4
 have hT_4 := hT_3.kept hb_4
 have hO1_4 := hO1_3.keep hb_4
 have hO2_4 := hO2_3.keep hb_4
 clear hz_3 hw_3 kx0_3 kx1_3 kx2_3 kx3_3 ky0_3 ky1_3 ky2_3 ky3_3 hIx_3 hIy_3 hT_3 hO1_3 hO2_3 hb_4
 go_wp2_with fail
 refine cM (of_eq 1 _ (by decide)) ?_
 rintro r w_5 ⟨a5, n5, c5, rfl, HN5, hn5, hO5_5, hb_5⟩
 have hz_5 := nT hz_4 hb_5
 have hw_5 := nT hw_4 hb_5
 have kx0_5 := kC hb_5 kx0_4
 have kx1_5 := kC hb_5 kx1_4
 have kx2_5 := kC hb_5 kx2_4
 have kx3_5 := kC hb_5 kx3_4
 have ky0_5 := kC hb_5 ky0_4
 have ky1_5 := kC hb_5 ky1_4
 have ky2_5 := kC hb_5 ky2_4
 have ky3_5 := kC hb_5 ky3_4
 have hIx_5 := hIx_4.keep hb_5
 have hIy_5 := hIy_4.keep hb_5
 have hT_5 := hT_4.kept hb_5
 have hO1_5 := hO1_4.keep hb_5
 have hO2_5 := hO2_4.keep hb_5
 have hO4_5 := hO4_4.keep hb_5
 clear hz_4 hw_4 kx0_4 kx1_4 kx2_4 kx3_4 ky0_4 ky1_4 ky2_4 ky3_4 hIx_4 hIy_4 hT_4 hO1_4 hO2_4 hO4_4 hb_5
 go_wp2_with fail
 refine cM (sub_eq (r := hf - my / 2 - 1) (k := 0) hO4_5.1 hO5_5.1 (by omega) (by omega) (by rw [val_words, val_words, subR_no (by rw [great_mono (Nat.sub_le _ _) H2.out, great_one]; rfl) (by have := H3.out; omega)])) ?_
 rintro r w_6 ⟨a6, n6, c6, rfl, HN6, hn6, hO6_6, hb_6⟩
 have hz_6 := nT hz_5 hb_6
 have hw_6 := nT hw_5 hb_6
 have kx0_6 := kC hb_6 kx0_5
 have kx1_6 := kC hb_6 kx1_5
 have kx2_6 := kC hb_6 kx2_5
 have kx3_6 := kC hb_6 kx3_5
 have ky0_6 := kC hb_6 ky0_5
 have ky1_6 := kC hb_6 ky1_5
 have ky2_6 := kC hb_6 ky2_5
 have ky3_6 := kC hb_6 ky3_5
 have hIx_6 := hIx_5.keep hb_6
 have hIy_6 := hIy_5.keep hb_6
 have hT_6 := hT_5.kept hb_6
 have hO1_6 := hO1_5.keep hb_6
 have hO2_6 := hO2_5.keep hb_6
 have hO4_6 := hO4_5.keep hb_6
 have hO5_6 := hO5_5.keep hb_6
 clear hz_5 hw_5 kx0_5 kx1_5 kx2_5 kx3_5 ky0_5 ky1_5 ky2_5 ky3_5 hIx_5 hIy_5 hT_5 hO1_5 hO2_5 hO4_5 hO5_5 hb_6
 have hsz : w.heap.size + 1 + 1 < w_6.heap.size := by have := hz_6.size; simp at this; omega
 go_wp2_with fail
 refine cM (twice_calls sx a6 n6 c6 (hf - my / 2 - 1) ey w_6 hO6_6.1 (by omega) (great_mono (Nat.le_trans (Nat.sub_le _ _) (Nat.sub_le _ _)) H2.out) ⟨by omega, by omega⟩ hT_6) ?_
 rintro r w_7 ⟨v, rfl, hN, hb_7⟩
 have hz_7 := nT hz_6 hb_7
 have hw_7 := nT hw_6 hb_7
 have kx0_7 := kC hb_7 kx0_6
 have kx1_7 := kC hb_7 kx1_6
 have kx2_7 := kC hb_7 kx2_6
 have kx3_7 := kC hb_7 kx3_6
 have ky0_7 := kC hb_7 ky0_6
 have ky1_7 := kC hb_7 ky1_6
 have ky2_7 := kC hb_7 ky2_6
 have ky3_7 := kC hb_7 ky3_6
 have hIx_7 := hIx_6.keep hb_7
 have hIy_7 := hIy_6.keep hb_7
 have hT_7 := hT_6.kept hb_7
 have hO1_7 := hO1_6.keep hb_7
 have hO2_7 := hO2_6.keep hb_7
 have hO4_7 := hO4_6.keep hb_7
 have hO5_7 := hO5_6.keep hb_7
 have hO6_7 := hO6_6.keep hb_7
 clear hz_6 hw_6 kx0_6 kx1_6 kx2_6 kx3_6 ky0_6 ky1_6 ky2_6 ky3_6 hIx_6 hIy_6 hT_6 hO1_6 hO2_6 hO4_6 hO5_6 hO6_6 hb_7
 rw [H4.out] at hN
 rcases hN with ⟨hg, ao, nn, cc, rfl, HN, HZ, hnn, hO⟩ | ⟨hg, rfl⟩
 ·obtain ⟨m0, m1, m2, m3, f0, f1, f2, f3⟩ := zero_num (w := ((w.alloc (.cells #[.bool sx, .slice ax nx cx, .int .i64 ex, .bool false] 109)).alloc (.cells #[.bool sy, .slice ay ny cy, .int .i64 ey, .bool false] 109))) (r := w.heap.size + 1 + 1) hz_7 (by simp)
  go_wp2_with fail
  refine bodyPost_ret (v := numV (formD sx (mx * 2 ^ dd - my) ey).1 ao nn cc (formD sx (mx * 2 ^ dd - my) ey).2.2 false) (by simp [results, Tryz.results183, go_sem, m0, m1, m2, m3]) rfl ?_
  exact ⟨_, rfl, Or.inl ⟨hg, ao, nn, cc, rfl, HN, HZ, hnn, ((((hO.far _ _ (by show w.heap.size + 1 + 1 < _; omega)).far _ _ (by show w.heap.size + 1 + 1 < _; omega)).far _ _ (by show w.heap.size + 1 + 1 < _; omega)).far _ _ (by show w.heap.size + 1 + 1 < _; omega)).low (by omega)⟩, (((hw_7.setCell (le2 _) _).setCell (le2 _) _).setCell (le2 _) _).setCell (le2 _) _⟩
 ·obtain ⟨m0, m1, m2, m3, f0, f1, f2, f3⟩ := zero_num (w := ((w.alloc (.cells #[.bool sx, .slice ax nx cx, .int .i64 ex, .bool false] 109)).alloc (.cells #[.bool sy, .slice ay ny cy, .int .i64 ey, .bool false] 109))) (r := w.heap.size + 1 + 1) hz_7 (by simp)
  go_wp2_with fail
  refine bodyPost_ret (v := numV false none 0 0 0 true) (by simp [results, Tryz.results183, go_sem, m0, m1, m2, m3]) rfl ?_
  exact ⟨_, rfl, Or.inr ⟨hg, rfl⟩, (((hw_7.setCell (le2 _) _).setCell (le2 _) _).setCell (le2 _) _).setCell (le2 _) _⟩
end Go.Proofs.YtahpdcbmekgkfaaGreatDoor

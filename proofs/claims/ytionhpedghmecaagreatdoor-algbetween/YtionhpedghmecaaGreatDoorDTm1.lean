/- The program's dyadic numbers: times, Sub, Mul. -/
import Derived.Test.YtionhpedghmecaaGreatDoorTMF
import Derived.Test.YtionhpedghmecaaGreatDoorNMX
import Derived.Test.YtionhpedghmecaaGreatDoorTMH
import Derived.Deep.CutRange
import Derived.Deep.RegionHeld3
namespace Go.Proofs.YtionhpedghmecaaGreatDoor
open Go.RowKit
def mulD (x y : Bool × Nat × Int) : Bool × Nat × Int := formD (!(x.1 == y.1)) (x.2.1 * y.2.1) (x.2.2 + y.2.2)
theorem NumAt.kept {B : Nat} {w w' : World} {v : Value} {p : Bool × Nat × Int} (h : NumAt B w v p) (hb : Below w.heap.size w w') : NumAt B w' v p := by
 obtain ⟨ao, n, c, h0, h1, h2, h3, h4⟩ := h
 exact ⟨ao, n, c, h0, h1, h2, h3, h4.keep hb⟩
theorem NumAt.lows {B B' : Nat} {w : World} {v : Value} {p : Bool × Nat × Int} (h : NumAt B w v p) (hB : B' ≤ B) : NumAt B' w v p := by
 obtain ⟨ao, n, c, h0, h1, h2, h3, h4⟩ := h
 exact ⟨ao, n, c, h0, h1, h2, h3, h4.low hB⟩
theorem numAt_shape {B : Nat} {w : World} {v : Value} {p : Bool × Nat × Int} (h : NumAt B w v p) : ∃ (s : Bool) (a : Option Addr) (n c : Nat) (e : Int), v = numV s a n c e false ∧ Hid (NumAt B w (numV s a n c e false) p) := by
 obtain ⟨ao, n, c, rfl, h⟩ := h
 exact ⟨p.1, ao, n, c, p.2.2, rfl, ⟨ao, n, c, rfl, h⟩⟩
theorem canon_num (s : Bool) (a : Option Addr) (len cap : Nat) (xs : List Int) (e : Int) (w : World) (h : IsW w a len cap xs) (hm : len ≤ 17592186044416) (hT : Tab w) (hr : rightB (val xs) e = true) :
  Calls Tryz.prog 42 #[dyV s a len cap e] w fun r w' => ∃ v, r = .returned v ∧ NumAt w.heap.size w' v (formD s (val xs) e) ∧ Below w.heap.size w w' := by
 have hE := right_exp hr
 refine (canonical_calls s a len cap xs e w h hm hT).mono ?_
 rintro r w' ⟨ao, n, c, e', rfl, HE, HN, HZ, hn, hO, hb⟩
 have h1 := HE.out hE.1 hE.2
 rw [canG_no (rightB_yes hr).1] at h1 HN hO ⊢
 subst h1
 exact ⟨_, rfl, ⟨ao, n, c, rfl, HN, HZ, hn, hO⟩, hb⟩
theorem mul_odd {x y : Bool × Nat × Int} (cx : CanD x) (cy : CanD y) : greatB (x.2.1 * y.2.1) = true → (x.2.1 * y.2.1) % 2 = 1 := by
 intro hg
 rcases cx with q | q
 ·rw [q] at hg; simp [great_zero] at hg
 ·rcases cy with q' | q'
  ·rw [q'] at hg; simp [great_zero] at hg
  ·rw [Nat.mul_mod, q, q']
set_option maxRecDepth 100000 in
set_option maxHeartbeats 2000000 in
theorem dtimes_calls (B : Nat) (vx vy : Value) (x y : Bool × Nat × Int) (w : World) (hX : NumAt B w vx x) (hY : NumAt B w vy y) (gx : greatB x.2.1 = false) (gy : greatB y.2.1 = false) (cx : CanD x) (cy : CanD y) (ex : -100000000 ≤ x.2.2 ∧ x.2.2 ≤ 100000000) (ey : -100000000 ≤ y.2.2 ∧ y.2.2 ≤ 100000000) (hT : Tab w) :
  Calls Tryz.prog 102 #[vx, vy] w fun r w' => ∃ v, r = .returned v ∧ NumR w.heap.size w' v (mulD x y) ∧ Below w.heap.size w w' := by
 obtain ⟨ax, nx, kx, rfl, HNx, HZx, hnx, hOx⟩ := hX
 obtain ⟨ay, ny, ky, rfl, HNy, HZy, hny, hOy⟩ := hY
 have MC : Hid _ := fun w' g g' => mul_calls ax ay nx kx ny ky (wordsOf x.2.1) (wordsOf y.2.1) w' g g' (by omega) (by omega)
 rw [val_words, val_words, mulR_no (by rw [gx, gy]; rfl)] at MC
 have hew : IntKind.i64.wrap (x.2.2 + y.2.2) = x.2.2 + y.2.2 := by rw [IntKind.wrap_i64]; omega
 have RC : Hid _ := fun a' n' c' w' g (q : n' ≤ 1024) t => reckoned_calls (!(x.1 == y.1)) a' n' c' (x.2.1 * y.2.1) (x.2.2 + y.2.2) w' g (by omega) t (by omega) (mul_odd cx cy)
 have HFL : Hid _ := fitR_len (x.2.1 * y.2.1)
 have hu : mulD x y = formD (!(x.1 == y.1)) (x.2.1 * y.2.1) (x.2.2 + y.2.2) := rfl
 rw [← hu] at RC
 generalize mulD x y = p at *
 generalize x.2.1 * y.2.1 = u at *
 have bw0 : Below w.heap.size w (((w.alloc (.cells #[.bool x.1, .slice ax nx kx, .int .i64 x.2.2, .bool false] 72)).alloc (.cells #[.bool y.1, .slice ay ny ky, .int .i64 y.2.2, .bool false] 72)).alloc (.cells #[.bool false, .slice none 0 0, .int .i64 0, .bool false] 72)) := by repeat (first | exact Below.refl _ _ | refine Below.alloc ?_ (by simp; try omega) _)
 have hIx := hOx.1.keep bw0
 have hIy := hOy.1.keep bw0
 have HT0 : Hid (∀ W, Below w.heap.size w W → Tab W) := fun W hW => hT.kept hW
 have k0 : (((w.alloc (.cells #[.bool x.1, .slice ax nx kx, .int .i64 x.2.2, .bool false] 72)).alloc (.cells #[.bool y.1, .slice ay ny ky, .int .i64 y.2.2, .bool false] 72)).alloc (.cells #[.bool false, .slice none 0 0, .int .i64 0, .bool false] 72)).cell? ⟨w.heap.size, 0, none⟩ = some (.bool x.1) := by go_simp
 have k2 : (((w.alloc (.cells #[.bool x.1, .slice ax nx kx, .int .i64 x.2.2, .bool false] 72)).alloc (.cells #[.bool y.1, .slice ay ny ky, .int .i64 y.2.2, .bool false] 72)).alloc (.cells #[.bool false, .slice none 0 0, .int .i64 0, .bool false] 72)).cell? ⟨w.heap.size, 2, none⟩ = some (.int .i64 x.2.2) := by go_simp
 have l0 : (((w.alloc (.cells #[.bool x.1, .slice ax nx kx, .int .i64 x.2.2, .bool false] 72)).alloc (.cells #[.bool y.1, .slice ay ny ky, .int .i64 y.2.2, .bool false] 72)).alloc (.cells #[.bool false, .slice none 0 0, .int .i64 0, .bool false] 72)).cell? ⟨w.heap.size + 1, 0, none⟩ = some (.bool y.1) := by go_simp
 have l2 : (((w.alloc (.cells #[.bool x.1, .slice ax nx kx, .int .i64 x.2.2, .bool false] 72)).alloc (.cells #[.bool y.1, .slice ay ny ky, .int .i64 y.2.2, .bool false] 72)).alloc (.cells #[.bool false, .slice none 0 0, .int .i64 0, .bool false] 72)).cell? ⟨w.heap.size + 1, 2, none⟩ = some (.int .i64 y.2.2) := by go_simp
 clear gx gy cx cy hT hOx hOy HNx HNy HZx HZy hu
 go_enter Tryz.func102, Tryz.ntmps102
 go_wp2_with fail
 refine Calls.mono (MC.out _ hIx hIy) ?_
 rintro r w1 ⟨v1, rfl, hA1, b1⟩
 obtain ⟨a1, n1, c1, rfl, HN1, hn1, hO1⟩ := hA1.open HFL.out
 have bw1 := nT bw0 b1
 replace k0 := kC b1 k0
 replace k2 := kC b1 k2
 replace l0 := kC b1 l0
 replace l2 := kC b1 l2
 clear hA1 MC hIx hIy
 go_wp2_with fail
 refine Calls.mono (RC.out _ _ _ _ hO1.1 hn1 (HT0.out _ bw1)) ?_
 rintro r w2 ⟨v2, rfl, hN2, b2⟩
 obtain ⟨s5, a5, n5, c5, e5, g5, rfl, HNR⟩ := numR_form hN2
 have bw2 := nT bw1 b2
 obtain ⟨m0, m1, m2, m3, f0, f1, f2, f3⟩ := zero_num (w := ((w.alloc (.cells #[.bool x.1, .slice ax nx kx, .int .i64 x.2.2, .bool false] 72)).alloc (.cells #[.bool y.1, .slice ay ny ky, .int .i64 y.2.2, .bool false] 72))) (r := w.heap.size + 1 + 1) (W' := w2) (nT b1 b2) (by simp)
 have hsz : w.heap.size + 1 + 1 < w1.heap.size := by have := b1.size; simp at this; omega
 clear hN2 b1 b2 bw0 bw1 RC k0 k2 l0 l2
 go_wp2_with fail
 refine bodyPost_ret (v := numV s5 a5 n5 c5 e5 g5) (by simp [results, Tryz.results102, go_sem, m0, m1, m2, m3]) rfl ⟨_, rfl, ((((HNR.out.far _ _ (by show w.heap.size + 1 + 1 < _; omega)).far _ _ (by show w.heap.size + 1 + 1 < _; omega)).far _ _ (by show w.heap.size + 1 + 1 < _; omega)).far _ _ (by show w.heap.size + 1 + 1 < _; omega)).low (by omega), ?_⟩
 exact (((bw2.setCell (by show w.heap.size ≤ w.heap.size + 1 + 1; omega) _).setCell (by show w.heap.size ≤ w.heap.size + 1 + 1; omega) _).setCell (by show w.heap.size ≤ w.heap.size + 1 + 1; omega) _).setCell (by show w.heap.size ≤ w.heap.size + 1 + 1; omega) _
theorem set4_cell {W : World} {b o r : Nat} {v0 v1 v2 v3 x : Value} (h : W.cell? ⟨b, o, none⟩ = some x) (hne : b ≠ r) : ((((W.setCell ⟨r, 0, none⟩ v0).setCell ⟨r, 1, none⟩ v1).setCell ⟨r, 2, none⟩ v2).setCell ⟨r, 3, none⟩ v3).cell? ⟨b, o, none⟩ = some x := cell_set4 h hne
attribute [local go_sem ↓] Go.wp_at_zero Go.wp_at_succ
set_option maxRecDepth 100000 in
set_option maxHeartbeats 4000000 in
theorem mul1_calls (b1 b2 : Nat) (s : Bool) (a : Option Addr) (len cap : Nat) (xs : List Int) (e : Int) (s' : Bool) (a' : Option Addr) (len' cap' : Nat) (ys : List Int) (e' : Int) (w : World) (h : IsW w a len cap xs) (hm : len ≤ 17592186044416) (h' : IsW w a' len' cap' ys) (hm' : len' ≤ 17592186044416) (hT : Tab w) (hr : rightB (val xs) e = true) (hr' : rightB (val ys) e' = true)
  (k0 : w.cell? ⟨b1, 0, none⟩ = some (.bool s)) (k1 : w.cell? ⟨b1, 1, none⟩ = some (.slice a len cap)) (k2 : w.cell? ⟨b1, 2, none⟩ = some (.int .i64 e))
  (l0 : w.cell? ⟨b2, 0, none⟩ = some (.bool s')) (l1 : w.cell? ⟨b2, 1, none⟩ = some (.slice a' len' cap')) (l2 : w.cell? ⟨b2, 2, none⟩ = some (.int .i64 e')) :
  Calls Tryz.prog 101 #[.pointer (some ⟨b1, 0, none⟩), .pointer (some ⟨b2, 0, none⟩)] w fun r w' => ∃ v, r = .returned v ∧ NumR w.heap.size w' v (mulD (formD s (val xs) e) (formD s' (val ys) e')) ∧ Below w.heap.size w w' := by
 have HX : Hid _ := fun W g t => canon_num s a len cap xs e W g hm t hr
 have HY : Hid _ := fun W g t => canon_num s' a' len' cap' ys e' W g hm' t hr'
 have HGX : Hid _ := form_fit s (val xs) e hr
 have HGY : Hid _ := form_fit s' (val ys) e' hr'
 have HBX : Hid _ := form_bounds s (val xs) e hr
 have HBY : Hid _ := form_bounds s' (val ys) e' hr'
 have HCX : Hid _ := form_can s (val xs) e
 have HCY : Hid _ := form_can s' (val ys) e'
 have H1 : Hid (IsW w a len cap xs) := h
 have H2 : Hid (IsW w a' len' cap' ys) := h'
 have HT0 : Hid (∀ W, Below w.heap.size w W → Tab W) := fun W hW => hT.kept hW
 have nb1 : b1 ≠ w.heap.size := Nat.ne_of_lt (World.block_lt_of_cell? _ _ k0)
 have nb2 : b2 ≠ w.heap.size := Nat.ne_of_lt (World.block_lt_of_cell? _ _ l0)
 generalize formD s (val xs) e = x at *
 generalize formD s' (val ys) e' = y at *
 clear hr hr' hm hm' h h' hT
 have bw := below_one w (.cells #[.bool false, .slice none 0 0, .int .i64 0, .bool false] 72)
 obtain ⟨m0, m1, m2, m3, f0, f1, f2, f3⟩ := zero_num (w := w) (r := w.heap.size) (W' := (w.alloc (.cells #[.bool false, .slice none 0 0, .int .i64 0, .bool false] 72))) (Below.refl _ _) rfl
 replace k0 := kC bw k0
 replace k1 := kC bw k1
 replace k2 := kC bw k2
 replace l0 := kC bw l0
 replace l1 := kC bw l1
 replace l2 := kC bw l2
 have hs0 : w.heap.size + 1 ≤ (w.alloc (.cells #[.bool false, .slice none 0 0, .int .i64 0, .bool false] 72)).heap.size := by simp
 go_enter Tryz.func101, Tryz.ntmps101
 go_upto_region 1 with fail
 generalize (w.alloc (.cells #[.bool false, .slice none 0 0, .int .i64 0, .bool false] 72)) = w0 at *
 have bd : Below w0.heap.size w0 w0.drew := (Below.refl _ _).drew
 refine wp_region_held (S := fun w' => w'.cell? ⟨b1, 0, none⟩ = some (.bool s) ∧ w'.cell? ⟨b1, 1, none⟩ = some (.slice a len cap) ∧ w'.cell? ⟨b1, 2, none⟩ = some (.int .i64 e) ∧ w'.cell? ⟨b2, 0, none⟩ = some (.bool s') ∧ w'.cell? ⟨b2, 1, none⟩ = some (.slice a' len' cap') ∧ w'.cell? ⟨b2, 2, none⟩ = some (.int .i64 e')) (by kernel_rfl) ?_
 change wpAnyH _ _ _ _ _ _ _ _ (World.drew w0)
 replace k0 := kC bd k0
 replace k1 := kC bd k1
 replace k2 := kC bd k2
 replace l0 := kC bd l0
 replace l1 := kC bd l1
 replace l2 := kC bd l2
 replace f0 := kF bd m0 f0
 replace f1 := kF bd m1 f1
 replace f2 := kF bd m2 f2
 replace f3 := kF bd m3 f3
 replace m0 := kC bd m0
 replace m1 := kC bd m1
 replace m2 := kC bd m2
 replace m3 := kC bd m3
 replace bw := nT bw bd
 replace hs0 := Nat.le_trans hs0 bd.size
 clear bd
 generalize World.drew w0 = wd at *
 refine wpAnyH_take (i := 0) (v := .agg #[.bool s, .slice a len cap, .int .i64 e]) rfl (by kernel_rfl) (by kernel_rfl) (by kernel_rfl) (fun _ _ _ h => h) (Or.inl ⟨by rfl, ?y0⟩) ⟨k0, k1, k2, l0, l1, l2⟩ ?r0
 case y0 => (rintro ww ⟨q0, q1, q2, q3, q4, q5⟩; go_simp)
 try simp only [Act.put]
 refine wpAnyH_take (i := 2) (v := .agg #[.bool s', .slice a' len' cap', .int .i64 e']) rfl (by kernel_rfl) (by kernel_rfl) (by kernel_rfl) (fun _ _ _ h => h) (Or.inl ⟨by rfl, ?y1⟩) ⟨k0, k1, k2, l0, l1, l2⟩ ?r1
 case y1 => (rintro ww ⟨q0, q1, q2, q3, q4, q5⟩; go_simp)
 try simp only [Act.put]
 refine wpAnyH_ready (rs := [1]) (by kernel_rfl) (by simp) ?_
 refine AllReadyH.cons rfl (fun K hK => ?_) AllReadyH.nil
 go_simp
 refine Calls.mono (HX.out _ (H1.out.keep bw) (HT0.out _ bw)) ?_
 rintro r wa ⟨va, rfl, hA, bN⟩
 replace k0 := kC bN k0
 replace k1 := kC bN k1
 replace k2 := kC bN k2
 replace l0 := kC bN l0
 replace l1 := kC bN l1
 replace l2 := kC bN l2
 replace f0 := kF bN m0 f0
 replace f1 := kF bN m1 f1
 replace f2 := kF bN m2 f2
 replace f3 := kF bN m3 f3
 replace m0 := kC bN m0
 replace m1 := kC bN m1
 replace m2 := kC bN m2
 replace m3 := kC bN m3
 obtain ⟨sA, aA, nA, cA, eA, rfl, HA⟩ := numAt_shape (hA.lows hs0)
 clear hA
 refine hK.out _ _ ⟨k0, k1, k2, l0, l1, l2⟩ (fun _ => ?_)
 clear hK K
 replace hs0 := Nat.le_trans hs0 bN.size
 replace bw := nT bw bN
 clear bN
 try simp only [Act.put, List.setIfInBounds_toArray, List.set_cons_zero, List.set_cons_succ]
 refine wpAnyH_ready (rs := [3]) (by kernel_rfl) (by simp) ?_
 refine AllReadyH.cons rfl (fun K hK => ?_) AllReadyH.nil
 go_simp
 refine Calls.mono (HY.out _ (H2.out.keep bw) (HT0.out _ bw)) ?_
 rintro r wb ⟨vb, rfl, hB, bN⟩
 replace k0 := kC bN k0
 replace k1 := kC bN k1
 replace k2 := kC bN k2
 replace l0 := kC bN l0
 replace l1 := kC bN l1
 replace l2 := kC bN l2
 replace f0 := kF bN m0 f0
 replace f1 := kF bN m1 f1
 replace f2 := kF bN m2 f2
 replace f3 := kF bN m3 f3
 replace m0 := kC bN m0
 replace m1 := kC bN m1
 replace m2 := kC bN m2
 replace m3 := kC bN m3
 obtain ⟨sB, aB, nB, cB, eB, rfl, HB⟩ := numAt_shape (hB.lows hs0)
 have HA' : Hid (NumAt (w.heap.size + 1) wb (numV sA aA nA cA eA false) x) := HA.out.kept bN
 clear hB HA
 refine hK.out _ _ ⟨k0, k1, k2, l0, l1, l2⟩ (fun _ => ?_)
 clear hK K
 replace hs0 := Nat.le_trans hs0 bN.size
 replace bw := nT bw bN
 clear bN
 try simp only [Act.put, List.setIfInBounds_toArray, List.set_cons_zero, List.set_cons_succ]
 refine wpAnyH_ready (rs := [4]) (by kernel_rfl) (by simp) ?_
 refine AllReadyH.cons rfl (fun K hK => ?_) AllReadyH.nil
 go_simp
 refine Calls.mono (dtimes_calls (w.heap.size + 1) _ _ x y _ HA'.out HB.out HGX.out HGY.out HCX.out HCY.out HBX.out HBY.out (HT0.out _ bw)) ?_
 rintro r wp ⟨vp, rfl, hN, bN⟩
 replace k0 := kC bN k0
 replace k1 := kC bN k1
 replace k2 := kC bN k2
 replace l0 := kC bN l0
 replace l1 := kC bN l1
 replace l2 := kC bN l2
 replace f0 := kF bN m0 f0
 replace f1 := kF bN m1 f1
 replace f2 := kF bN m2 f2
 replace f3 := kF bN m3 f3
 replace m0 := kC bN m0
 replace m1 := kC bN m1
 replace m2 := kC bN m2
 replace m3 := kC bN m3
 obtain ⟨s5, a5, n5, c5, e5, g5, rfl, HNR⟩ := numR_form (hN.low hs0)
 clear hN
 refine hK.out _ _ ⟨k0, k1, k2, l0, l1, l2⟩ (fun _ => ?_)
 clear hK K
 replace hs0 := Nat.le_trans hs0 bN.size
 replace bw := nT bw bN
 clear bN
 try simp only [Act.put, List.setIfInBounds_toArray, List.set_cons_zero, List.set_cons_succ]
 refine wpAnyH_ready (rs := [5]) (by kernel_rfl) (by simp) ?_
 refine AllReadyH.cons rfl (fun K hK => ?_) AllReadyH.nil
 go_simp
 refine hK.out _ _ ⟨set4_cell k0 nb1, set4_cell k1 nb1, set4_cell k2 nb1, set4_cell l0 nb2, set4_cell l1 nb2, set4_cell l2 nb2⟩ (fun _ => ?_)
 clear hK K
 try simp only [Act.put, List.setIfInBounds_toArray, List.set_cons_zero, List.set_cons_succ]
 refine wpAnyH_done (by kernel_rfl) ?_ _
 go_wp2_with fail
 refine bodyPost_ret (v := numV s5 a5 n5 c5 e5 g5) (by simp [results, Tryz.results101, go_sem, m0, m1, m2, m3]) rfl ⟨_, rfl, ((((HNR.out.far _ _ (by show w.heap.size < _; omega)).far _ _ (by show w.heap.size < _; omega)).far _ _ (by show w.heap.size < _; omega)).far _ _ (by show w.heap.size < _; omega)).low (by omega), ?_⟩
 exact (((bw.setCell (Nat.le_refl _) _).setCell (Nat.le_refl _) _).setCell (Nat.le_refl _) _).setCell (Nat.le_refl _) _
set_option maxRecDepth 100000 in
set_option maxHeartbeats 4000000 in
theorem dmul_not (s : Bool) (a : Option Addr) (len cap : Nat) (xs : List Int) (e : Int) (s' : Bool) (a' : Option Addr) (len' cap' : Nat) (ys : List Int) (e' : Int) (w : World) (h : IsW w a len cap xs) (hm : len ≤ 17592186044416) (h' : IsW w a' len' cap' ys) (hm' : len' ≤ 17592186044416) (hr : (rightB (val xs) e && rightB (val ys) e') = false) :
  Calls Tryz.prog 64 #[dyV s a len cap e, dyV s' a' len' cap' e'] w fun r w' => r = .returned (.tuple #[dyV false none 0 0 0, .int .i64 2]) ∧ Below w.heap.size w w' := by
 have hmf : ∀ (fn : Fn) (first cap : Array Value) (w : World), (Instr.makeFunc fn first cap).run Tryz.prog w = .ok (.func fn first cap) w := fun _ _ _ _ => rfl
 have HRB : Hid ((rightB (val xs) e && rightB (val ys) e') = false) := hr
 clear hr
 go_enter Tryz.func64, Tryz.ntmps64
 go_wp2_with fail
 have hb0 : Below w.heap.size w ((((w.alloc (.cells #[.bool s, .slice a len cap, .int .i64 e] 27)).alloc (.cells #[.bool s', .slice a' len' cap', .int .i64 e'] 27)).alloc (.cells #[.bool false, .slice none 0 0, .int .i64 0] 27)).alloc (.cells #[.bool s, .slice a len cap, .int .i64 e, .bool s', .slice a' len' cap', .int .i64 e'] 27)) := by repeat (first | exact Below.refl _ _ | refine Below.alloc ?_ (by simp; try omega) _)
 refine Calls.mono (made_not _ _ _ (fun W hW => HRB.out ▸ right2_calls (w.heap.size + 1 + 1 + 1) s a len cap xs e s' a' len' cap' ys e' W (h.keep (nT hb0 hW)) hm (h'.keep (nT hb0 hW)) hm' (kC hW (by go_simp)) (kC hW (by go_simp)) (kC hW (by go_simp)) (kC hW (by go_simp)) (kC hW (by go_simp)) (kC hW (by go_simp)))) ?_
 rintro r w2 ⟨rfl, hbM⟩
 have hb2 := nT hb0 hbM
 obtain ⟨m0, m1, m2, f0, f1, f2⟩ := zero_dy (r := w.heap.size + 1 + 1) (w := (w.alloc (.cells #[.bool s, .slice a len cap, .int .i64 e] 27)).alloc (.cells #[.bool s', .slice a' len' cap', .int .i64 e'] 27)) (W' := w2) (nT (below_one _ _) hbM) (by simp)
 go_wp2_with fail
 refine bodyPost_ret (v := .tuple #[dyV false none 0 0 0, .int .i64 2]) (by simp [results, Tryz.results64, go_sem, m0, m1, m2]) rfl ⟨rfl, ?_⟩
 exact ((hb2.setCell (by show w.heap.size ≤ w.heap.size + 1 + 1; omega) _).setCell (by show w.heap.size ≤ w.heap.size + 1 + 1; omega) _).setCell (by show w.heap.size ≤ w.heap.size + 1 + 1; omega) _
set_option maxRecDepth 100000 in
set_option maxHeartbeats 4000000 in
theorem dmul_yes (s : Bool) (a : Option Addr) (len cap : Nat) (xs : List Int) (e : Int) (s' : Bool) (a' : Option Addr) (len' cap' : Nat) (ys : List Int) (e' : Int) (w : World) (h : IsW w a len cap xs) (hm : len ≤ 17592186044416) (h' : IsW w a' len' cap' ys) (hm' : len' ≤ 17592186044416) (hT : Tab w) (hr : rightB (val xs) e = true) (hr' : rightB (val ys) e' = true) :
  Calls Tryz.prog 64 #[dyV s a len cap e, dyV s' a' len' cap' e'] w fun r w' => ∃ v', r = .returned (.tuple #[v', .int .i64 (roomE (mulD (formD s (val xs) e) (formD s' (val ys) e')))]) ∧ DyAt w.heap.size w' v' (roomP (mulD (formD s (val xs) e) (formD s' (val ys) e'))) ∧ Below w.heap.size w w' := by
 have hmf : ∀ (fn : Fn) (first cap : Array Value) (w : World), (Instr.makeFunc fn first cap).run Tryz.prog w = .ok (.func fn first cap) w := fun _ _ _ _ => rfl
 have HRB : Hid ((rightB (val xs) e && rightB (val ys) e') = true) := by rw [Hid, hr, hr']; rfl
 have HR1 : Hid (rightB (val xs) e = true) := hr
 have HR2 : Hid (rightB (val ys) e' = true) := hr'
 clear hr hr'
 go_enter Tryz.func64, Tryz.ntmps64
 go_wp2_with fail
 have hb0 : Below w.heap.size w ((((w.alloc (.cells #[.bool s, .slice a len cap, .int .i64 e] 27)).alloc (.cells #[.bool s', .slice a' len' cap', .int .i64 e'] 27)).alloc (.cells #[.bool false, .slice none 0 0, .int .i64 0] 27)).alloc (.cells #[.bool s, .slice a len cap, .int .i64 e, .bool s', .slice a' len' cap', .int .i64 e'] 27)) := by repeat (first | exact Below.refl _ _ | refine Below.alloc ?_ (by simp; try omega) _)
 refine Calls.mono (made_Mul w.heap.size (w.heap.size + 1) 0 (mulD (formD s (val xs) e) (formD s' (val ys) e')) _ _ (fun W hW => HRB.out ▸ right2_calls (w.heap.size + 1 + 1 + 1) s a len cap xs e s' a' len' cap' ys e' W (h.keep (nT hb0 hW)) hm (h'.keep (nT hb0 hW)) hm' (kC hW (by go_simp)) (kC hW (by go_simp)) (kC hW (by go_simp)) (kC hW (by go_simp)) (kC hW (by go_simp)) (kC hW (by go_simp)))
  (fun W hW => Calls.mono (mul1_calls w.heap.size (w.heap.size + 1) s a len cap xs e s' a' len' cap' ys e' W (h.keep (nT hb0 hW)) hm (h'.keep (nT hb0 hW)) hm' (hT.kept (nT hb0 hW)) HR1.out HR2.out (kC hW (by go_simp)) (kC hW (by go_simp)) (kC hW (by go_simp)) (kC hW (by go_simp)) (kC hW (by go_simp)) (kC hW (by go_simp))) (by
   rintro r w5 ⟨v, rfl, hN, hb5⟩
   exact ⟨v, rfl, hN.low (Nat.zero_le _), hb5⟩))) ?_
 rintro r w2 ⟨v', rfl, ⟨a2, n2, c2, rfl, HN2, hn2, hO2⟩, hbM⟩
 have hb2 := nT hb0 hbM
 obtain ⟨m0, m1, m2, f0, f1, f2⟩ := zero_dy (r := w.heap.size + 1 + 1) (w := (w.alloc (.cells #[.bool s, .slice a len cap, .int .i64 e] 27)).alloc (.cells #[.bool s', .slice a' len' cap', .int .i64 e'] 27)) (W' := w2) (nT (below_one _ _) hbM) (by simp)
 go_wp2_with fail
 refine bodyPost_ret (v := .tuple #[dyV (roomP (mulD (formD s (val xs) e) (formD s' (val ys) e'))).1 a2 n2 c2 (roomP (mulD (formD s (val xs) e) (formD s' (val ys) e'))).2.2, .int .i64 (roomE (mulD (formD s (val xs) e) (formD s' (val ys) e')))]) (by simp [results, Tryz.results64, go_sem, m0, m1, m2]) rfl ⟨_, rfl, ⟨a2, n2, c2, rfl, HN2, hn2, (((hO2.far _ _ (by show w.heap.size + 1 + 1 < _; simp)).far _ _ (by show w.heap.size + 1 + 1 < _; simp)).far _ _ (by show w.heap.size + 1 + 1 < _; simp)).low (by simp; omega)⟩, ?_⟩
 exact ((hb2.setCell (by show w.heap.size ≤ w.heap.size + 1 + 1; omega) _).setCell (by show w.heap.size ≤ w.heap.size + 1 + 1; omega) _).setCell (by show w.heap.size ≤ w.heap.size + 1 + 1; omega) _
end Go.Proofs.YtionhpedghmecaaGreatDoor

/- The program's dyadic numbers: times, Sub, Mul. -/
import Derived.Test.YtiijfnaaekmpbaaGreatDoorALX
import Derived.Test.YtiijfnaaekmpbaaGreatDoorCR
import Derived.Test.YtiijfnaaekmpbaaGreatDoorTMF
import Derived.Test.YtiijfnaaekmpbaaGreatDoorNMX
import Derived.Test.YtiijfnaaekmpbaaGreatDoorTMH
import Derived.Deep.CutRange
import Derived.Deep.RegionHeld3
namespace Go.Proofs.YtiijfnaaekmpbaaGreatDoor
open Go.RowKit
set_option maxHeartbeats 4000000
set_option maxRecDepth 100000
theorem NumAt.kept {B : Nat} {w w' : World} {v : Value} {p : Bool × Nat × Int} (h : NumAt B w v p) (hb : Below w.heap.size w w') : NumAt B w' v p := by
 obtain ⟨ao, n, c, h0, h1, h2, h3, h4⟩ := h
 exact ⟨ao, n, c, h0, h1, h2, h3, h4.keep hb⟩
theorem NumAt.lows {B B' : Nat} {w : World} {v : Value} {p : Bool × Nat × Int} (h : NumAt B w v p) (hB : B' ≤ B) : NumAt B' w v p := by
 obtain ⟨ao, n, c, h0, h1, h2, h3, h4⟩ := h
 exact ⟨ao, n, c, h0, h1, h2, h3, h4.low hB⟩
theorem numAt_shape {B : Nat} {w : World} {v : Value} {p : Bool × Nat × Int} (h : NumAt B w v p) : ∃ (s : Bool) (a : Option Addr) (n c : Nat) (e : Int), v = numV s a n c e false ∧ Hid (NumAt B w (numV s a n c e false) p) := by
 obtain ⟨ao, n, c, rfl, h⟩ := h
 exact ⟨p.1, ao, n, c, p.2.2, rfl, ⟨ao, n, c, rfl, h⟩⟩
theorem negated_num (B : Nat) (v : Value) (x : Bool × Nat × Int) (w : World) (hX : NumAt B w v x) :
  Calls Tryz.prog 107 #[v] w fun r w' => ∃ v, r = .returned v ∧ NumAt B w' v (negD x) ∧ Below w.heap.size w w' := by
 obtain ⟨ax, nx, kx, rfl, HNx, HZx, hnx, hOx⟩ := hX
 refine (negated_calls x.1 ax nx kx x.2.2 false w).mono ?_
 rintro r w' ⟨rfl, hb⟩
 rw [neg_sign HNx.out]
 exact ⟨_, rfl, ⟨ax, nx, kx, rfl, HNx, HZx, hnx, hOx.keep hb⟩, hb⟩
theorem negD_canon {x : Bool × Nat × Int} (h : CanD x) : CanD (negD x) := by
 rcases h with h | h
 ·left; rw [h]; rfl
 ·right; exact h
theorem canon_num (s : Bool) (a : Option Addr) (len cap : Nat) (xs : List Int) (e : Int) (w : World) (h : IsW w a len cap xs) (hm : len ≤ 17592186044416) (hT : Tab w) (hr : rightB (val xs) e = true) :
  Calls Tryz.prog 61 #[dyV s a len cap e] w fun r w' => ∃ v, r = .returned v ∧ NumAt w.heap.size w' v (formD s (val xs) e) ∧ Below w.heap.size w w' := by
 have hE := right_exp hr
 refine (canonical_calls s a len cap xs e w h hm hT).mono ?_
 rintro r w' ⟨ao, n, c, e', rfl, HE, HN, HZ, hn, hO, hb⟩
 have h1 := HE.out hE.1 hE.2
 rw [canG_no (rightB_yes hr).1] at h1 HN hO ⊢
 subst h1
 exact ⟨_, rfl, ⟨ao, n, c, rfl, HN, HZ, hn, hO⟩, hb⟩
theorem set4_cell {W : World} {b o r : Nat} {v0 v1 v2 v3 x : Value} (h : W.cell? ⟨b, o, none⟩ = some x) (hne : b ≠ r) : ((((W.setCell ⟨r, 0, none⟩ v0).setCell ⟨r, 1, none⟩ v1).setCell ⟨r, 2, none⟩ v2).setCell ⟨r, 3, none⟩ v3).cell? ⟨b, o, none⟩ = some x := cell_set4 h hne
attribute [local go_sem ↓] Go.wp_at_zero Go.wp_at_succ
theorem sub1_calls (b1 b2 : Nat) (s : Bool) (a : Option Addr) (len cap : Nat) (xs : List Int) (e : Int) (s' : Bool) (a' : Option Addr) (len' cap' : Nat) (ys : List Int) (e' : Int) (w : World) (h : IsW w a len cap xs) (hm : len ≤ 17592186044416) (h' : IsW w a' len' cap' ys) (hm' : len' ≤ 17592186044416) (hT : Tab w) (hr : rightB (val xs) e = true) (hr' : rightB (val ys) e' = true)
  (k0 : w.cell? ⟨b1, 0, none⟩ = some (.bool s)) (k1 : w.cell? ⟨b1, 1, none⟩ = some (.slice a len cap)) (k2 : w.cell? ⟨b1, 2, none⟩ = some (.int .i64 e))
  (l0 : w.cell? ⟨b2, 0, none⟩ = some (.bool s')) (l1 : w.cell? ⟨b2, 1, none⟩ = some (.slice a' len' cap')) (l2 : w.cell? ⟨b2, 2, none⟩ = some (.int .i64 e')) :
  Calls Tryz.prog 105 #[.pointer (some ⟨b1, 0, none⟩), .pointer (some ⟨b2, 0, none⟩)] w fun r w' => ∃ v, r = .returned v ∧ NumR w.heap.size w' v (sumD (formD s (val xs) e) (negD (formD s' (val ys) e'))) ∧ Below w.heap.size w w' := by
 have HX : Hid _ := fun W g t => canon_num s a len cap xs e W g hm t hr
 have HY : Hid _ := fun W g t => canon_num s' a' len' cap' ys e' W g hm' t hr'
 have HGX : Hid _ := form_fit s (val xs) e hr
 have HGY : Hid _ := form_fit s' (val ys) e' hr'
 have HBX : Hid _ := form_bounds s (val xs) e hr
 have HBY : Hid _ := form_bounds s' (val ys) e' hr'
 have HCX : Hid _ := form_can s (val xs) e
 have HCY : Hid _ := form_can s' (val ys) e'
 have H1 : Hid (IsW w a len cap xs) := h
 have H2 : Hid (IsW w a' len' cap' ys) := h'
 have HT0 : Hid (∀ W, Below w.heap.size w W → Tab W) := fun W hW => hT.kept hW
 have nb1 : b1 ≠ w.heap.size := Nat.ne_of_lt (World.block_lt_of_cell? _ _ k0)
 have nb2 : b2 ≠ w.heap.size := Nat.ne_of_lt (World.block_lt_of_cell? _ _ l0)
 generalize formD s (val xs) e = x at *
 generalize formD s' (val ys) e' = y at *
 clear hr hr' hm hm' h h' hT
 have bw := below_one w (.cells #[.bool false, .slice none 0 0, .int .i64 0, .bool false] 90)
 obtain ⟨m0, m1, m2, m3, f0, f1, f2, f3⟩ := zero_num (w := w) (r := w.heap.size) (W' := (w.alloc (.cells #[.bool false, .slice none 0 0, .int .i64 0, .bool false] 90))) (Below.refl _ _) rfl
 replace k0 := kC bw k0
 replace k1 := kC bw k1
 replace k2 := kC bw k2
 replace l0 := kC bw l0
 replace l1 := kC bw l1
 replace l2 := kC bw l2
 have hs0 : w.heap.size + 1 ≤ (w.alloc (.cells #[.bool false, .slice none 0 0, .int .i64 0, .bool false] 90)).heap.size := by simp
 go_enter Tryz.func105, Tryz.ntmps105
 go_upto_region 1 with fail
 generalize (w.alloc (.cells #[.bool false, .slice none 0 0, .int .i64 0, .bool false] 90)) = w0 at *
 have bd : Below w0.heap.size w0 w0.drew := (Below.refl _ _).drew
 refine wp_region_held (S := fun w' => w'.cell? ⟨b1, 0, none⟩ = some (.bool s) ∧ w'.cell? ⟨b1, 1, none⟩ = some (.slice a len cap) ∧ w'.cell? ⟨b1, 2, none⟩ = some (.int .i64 e) ∧ w'.cell? ⟨b2, 0, none⟩ = some (.bool s') ∧ w'.cell? ⟨b2, 1, none⟩ = some (.slice a' len' cap') ∧ w'.cell? ⟨b2, 2, none⟩ = some (.int .i64 e')) (by kernel_rfl) ?_
 change wpAnyH _ _ _ _ _ _ _ _ (World.drew w0)
 revert m0 m1 m2 f0 f1 f2; refine zg3 bd ?_; intro m0 m1 m2 f0 f1 f2
 replace f3 := kF bd m3 f3
 replace m3 := kC bd m3
 revert k0 k1 k2 l0 l1 l2; refine cc6 bd ?_; intro k0 k1 k2 l0 l1 l2
 replace bw := nT bw bd
 replace hs0 := Nat.le_trans hs0 bd.size
 clear bd
 generalize World.drew w0 = wd at *
 refine tk 0 (.agg #[.bool s, .slice a len cap, .int .i64 e]) rfl (by kernel_rfl) (fun _ _ _ h => h) (by rfl) ?y0 ⟨k0, k1, k2, l0, l1, l2⟩ ?r0
 case y0 => (rintro ww ⟨q0, q1, q2, q3, q4, q5⟩; go_simp)
 try simp only [Act.put]
 refine tk 2 (.agg #[.bool s', .slice a' len' cap', .int .i64 e']) rfl (by kernel_rfl) (fun _ _ _ h => h) (by rfl) ?y1 ⟨k0, k1, k2, l0, l1, l2⟩ ?r1
 case y1 => (rintro ww ⟨q0, q1, q2, q3, q4, q5⟩; go_simp)
 try simp only [Act.put]
 refine rd1 1 (by kernel_rfl) rfl fun K hK => ?_
 go_simp
 refine cM (HX.out _ (H1.out.keep bw) (HT0.out _ bw)) ?_
 rintro r wa ⟨va, rfl, hA, bN⟩
 revert m0 m1 m2 f0 f1 f2; refine zg3 bN ?_; intro m0 m1 m2 f0 f1 f2
 replace f3 := kF bN m3 f3
 replace m3 := kC bN m3
 revert k0 k1 k2 l0 l1 l2; refine cc6 bN ?_; intro k0 k1 k2 l0 l1 l2
 obtain ⟨sA, aA, nA, cA, eA, rfl, HA⟩ := numAt_shape (hA.lows hs0)
 clear hA
 refine hK.out _ _ ⟨k0, k1, k2, l0, l1, l2⟩ (fun _ => ?_)
 clear hK K
 replace hs0 := Nat.le_trans hs0 bN.size
 replace bw := nT bw bN
 clear bN
 try simp only [Act.put, sA, sZ, sS]
 refine rd1 3 (by kernel_rfl) rfl fun K hK => ?_
 go_simp
 refine cM (HY.out _ (H2.out.keep bw) (HT0.out _ bw)) ?_
 rintro r wb ⟨vb, rfl, hB, bN⟩
 revert m0 m1 m2 f0 f1 f2; refine zg3 bN ?_; intro m0 m1 m2 f0 f1 f2
 replace f3 := kF bN m3 f3
 replace m3 := kC bN m3
 revert k0 k1 k2 l0 l1 l2; refine cc6 bN ?_; intro k0 k1 k2 l0 l1 l2
 obtain ⟨sB, aB, nB, cB, eB, rfl, HB⟩ := numAt_shape (hB.lows hs0)
 have HA' : Hid (NumAt (w.heap.size + 1) wb (numV sA aA nA cA eA false) x) := HA.out.kept bN
 clear hB HA
 refine hK.out _ _ ⟨k0, k1, k2, l0, l1, l2⟩ (fun _ => ?_)
 clear hK K
 replace hs0 := Nat.le_trans hs0 bN.size
 replace bw := nT bw bN
 clear bN
 try simp only [Act.put, sA, sZ, sS]
 refine rd1 4 (by kernel_rfl) rfl fun K hK => ?_
 go_simp
 refine cM (negated_num (w.heap.size + 1) _ y _ HB.out) ?_
 rintro r wc ⟨vc, rfl, hC, bN⟩
 revert m0 m1 m2 f0 f1 f2; refine zg3 bN ?_; intro m0 m1 m2 f0 f1 f2
 replace f3 := kF bN m3 f3
 replace m3 := kC bN m3
 revert k0 k1 k2 l0 l1 l2; refine cc6 bN ?_; intro k0 k1 k2 l0 l1 l2
 obtain ⟨sC, aC, nC, cC, eC, rfl, HC⟩ := numAt_shape hC
 have HA := HA'.out.kept bN
 have HA2 : Hid (NumAt (w.heap.size + 1) wc (numV sA aA nA cA eA false) x) := HA
 clear hC HA HA'
 refine hK.out _ _ ⟨k0, k1, k2, l0, l1, l2⟩ (fun _ => ?_)
 clear hK K
 replace hs0 := Nat.le_trans hs0 bN.size
 replace bw := nT bw bN
 clear bN
 try simp only [Act.put, sA, sZ, sS]
 refine rd1 5 (by kernel_rfl) rfl fun K hK => ?_
 go_simp
 refine cM (dplus_calls (w.heap.size + 1) _ _ x (negD y) _ hs0 HA2.out HC.out HGX.out HGY.out HCX.out (negD_canon HCY.out) HBX.out HBY.out (HT0.out _ bw)) ?_
 rintro r wp ⟨vp, rfl, hN, bN⟩
 revert m0 m1 m2 f0 f1 f2; refine zg3 bN ?_; intro m0 m1 m2 f0 f1 f2
 replace f3 := kF bN m3 f3
 replace m3 := kC bN m3
 revert k0 k1 k2 l0 l1 l2; refine cc6 bN ?_; intro k0 k1 k2 l0 l1 l2
 obtain ⟨s5, a5, n5, c5, e5, g5, rfl, HNR⟩ := numR_form hN
 clear hN HC HA2
 refine hK.out _ _ ⟨k0, k1, k2, l0, l1, l2⟩ (fun _ => ?_)
 clear hK K
 replace hs0 := Nat.le_trans hs0 bN.size
 replace bw := nT bw bN
 clear bN
 try simp only [Act.put, sA, sZ, sS]
 refine rd1 6 (by kernel_rfl) rfl fun K hK => ?_
 go_simp
 refine hK.out _ _ ⟨set4_cell k0 nb1, set4_cell k1 nb1, set4_cell k2 nb1, set4_cell l0 nb2, set4_cell l1 nb2, set4_cell l2 nb2⟩ (fun _ => ?_)
 clear hK K
 try simp only [Act.put, sA, sZ, sS]
 refine wpAnyH_done (by kernel_rfl) ?_ _
 go_wp2_with fail
 refine bodyPost_ret (v := numV s5 a5 n5 c5 e5 g5) (by simp [results, Tryz.results105, go_sem, m0, m1, m2, m3]) rfl ⟨_, rfl, ((((HNR.out.far _ _ (by show w.heap.size < _; omega)).far _ _ (by show w.heap.size < _; omega)).far _ _ (by show w.heap.size < _; omega)).far _ _ (by show w.heap.size < _; omega)).low (by omega), ?_⟩
 exact (((bw.setCell (Nat.le_refl _) _).setCell (Nat.le_refl _) _).setCell (Nat.le_refl _) _).setCell (Nat.le_refl _) _
theorem dsub_yes (s : Bool) (a : Option Addr) (len cap : Nat) (xs : List Int) (e : Int) (s' : Bool) (a' : Option Addr) (len' cap' : Nat) (ys : List Int) (e' : Int) (w : World) (h : IsW w a len cap xs) (hm : len ≤ 17592186044416) (h' : IsW w a' len' cap' ys) (hm' : len' ≤ 17592186044416) (hT : Tab w) (hr : rightB (val xs) e = true) (hr' : rightB (val ys) e' = true) :
  Calls Tryz.prog 76 #[dyV s a len cap e, dyV s' a' len' cap' e'] w fun r w' => ∃ v', r = .returned (.tuple #[v', .int .i64 (roomE (sumD (formD s (val xs) e) (negD (formD s' (val ys) e'))))]) ∧ DyAt w.heap.size w' v' (roomP (sumD (formD s (val xs) e) (negD (formD s' (val ys) e')))) ∧ Below w.heap.size w w' := by
 have hmf : ∀ (fn : Fn) (first cap : Array Value) (w : World), (Instr.makeFunc fn first cap).run Tryz.prog w = .ok (.func fn first cap) w := fun _ _ _ _ => rfl
 have HRB : Hid ((rightB (val xs) e && rightB (val ys) e') = true) := by rw [Hid, hr, hr']; rfl
 have HR1 : Hid (rightB (val xs) e = true) := hr
 have HR2 : Hid (rightB (val ys) e' = true) := hr'
 clear hr hr'
 go_enter Tryz.func76, Tryz.ntmps76
 go_wp2_with fail
 have hb0 : Below w.heap.size w ((((w.alloc (.cells #[.bool s, .slice a len cap, .int .i64 e] 27)).alloc (.cells #[.bool s', .slice a' len' cap', .int .i64 e'] 27)).alloc (.cells #[.bool false, .slice none 0 0, .int .i64 0] 27)).alloc (.cells #[.bool s, .slice a len cap, .int .i64 e, .bool s', .slice a' len' cap', .int .i64 e'] 27)) := by repeat (first | exact Below.refl _ _ | refine Below.alloc ?_ (by simp; try omega) _)
 refine cM (made_Sub w.heap.size (w.heap.size + 1) 0 (sumD (formD s (val xs) e) (negD (formD s' (val ys) e'))) _ _ (fun W hW => HRB.out ▸ right2_calls (w.heap.size + 1 + 1 + 1) s a len cap xs e s' a' len' cap' ys e' W (h.keep (nT hb0 hW)) hm (h'.keep (nT hb0 hW)) hm' (kC hW (by go_simp)) (kC hW (by go_simp)) (kC hW (by go_simp)) (kC hW (by go_simp)) (kC hW (by go_simp)) (kC hW (by go_simp)))
  (fun W hW => cM (sub1_calls w.heap.size (w.heap.size + 1) s a len cap xs e s' a' len' cap' ys e' W (h.keep (nT hb0 hW)) hm (h'.keep (nT hb0 hW)) hm' (hT.kept (nT hb0 hW)) HR1.out HR2.out (kC hW (by go_simp)) (kC hW (by go_simp)) (kC hW (by go_simp)) (kC hW (by go_simp)) (kC hW (by go_simp)) (kC hW (by go_simp))) (by
   rintro r w5 ⟨v, rfl, hN, hb5⟩
   exact ⟨v, rfl, hN.low (Nat.zero_le _), hb5⟩))) ?_
 rintro r w2 ⟨v', rfl, ⟨a2, n2, c2, rfl, HN2, hn2, hO2⟩, hbM⟩
 have hb2 := nT hb0 hbM
 obtain ⟨m0, m1, m2, f0, f1, f2⟩ := zero_dy (r := w.heap.size + 1 + 1) (w := (w.alloc (.cells #[.bool s, .slice a len cap, .int .i64 e] 27)).alloc (.cells #[.bool s', .slice a' len' cap', .int .i64 e'] 27)) (W' := w2) (nT (below_one _ _) hbM) (by simp)
 go_wp2_with fail
 refine bodyPost_ret (v := .tuple #[dyV (roomP (sumD (formD s (val xs) e) (negD (formD s' (val ys) e')))).1 a2 n2 c2 (roomP (sumD (formD s (val xs) e) (negD (formD s' (val ys) e')))).2.2, .int .i64 (roomE (sumD (formD s (val xs) e) (negD (formD s' (val ys) e'))))]) (by simp [results, Tryz.results76, go_sem, m0, m1, m2]) rfl ⟨_, rfl, ⟨a2, n2, c2, rfl, HN2, hn2, (((hO2.far _ _ (by show w.heap.size + 1 + 1 < _; simp)).far _ _ (by show w.heap.size + 1 + 1 < _; simp)).far _ _ (by show w.heap.size + 1 + 1 < _; simp)).low (by simp; omega)⟩, ?_⟩
 exact ((hb2.setCell (le2 _) _).setCell (le2 _) _).setCell (le2 _) _
end Go.Proofs.YtiijfnaaekmpbaaGreatDoor

/- The program's dyadic numbers: times, Sub, Mul. What a dyadic number is worth, in units of a power of 2: sums, products, order; the one form is one. Cutting a number to so many bits, whatever its amount is told by: cells between neighbours of so many bits. What ival divides: the quotient of two naturals with words ahead, by what is left of both without some words. -/
import Derived.Deep.CutRange
import Derived.Deep.RegionHeld3
import Derived.Test.YtahpdcbmekgkfaaGreatDoorCR2
import Derived.Test.YtahpdcbmekgkfaaGreatDoorCR
import Derived.Test.YtahpdcbmekgkfaaGreatDoorAL
import Derived.Test.YtahpdcbmekgkfaaGreatDoorTMF
import Derived.Test.YtahpdcbmekgkfaaGreatDoorNMX
import Derived.Test.YtahpdcbmekgkfaaGreatDoorTMH
import Derived.Test.YtahpdcbmekgkfaaGreatDoorDCmp2
import Derived.Test.YtahpdcbmekgkfaaGreatDoorRD13

namespace Go.Proofs.YtahpdcbmekgkfaaGreatDoor
open Go.RowKit
set_option maxHeartbeats 4000000
set_option maxRecDepth 100000
theorem NumAt.kept {B : Nat} {w w' : World} {v : Value} {p : Bool × Nat × Int} (h : NumAt B w v p) (hb : Below w.heap.size w w') : NumAt B w' v p := by
 obtain ⟨ao, n, c, h0, h1, h2, h3, h4⟩ := h
 exact ⟨ao, n, c, h0, h1, h2, h3, h4.keep hb⟩
theorem NumAt.lows {B B' : Nat} {w : World} {v : Value} {p : Bool × Nat × Int} (h : NumAt B w v p) (hB : B' ≤ B) : NumAt B' w v p := by
 obtain ⟨ao, n, c, h0, h1, h2, h3, h4⟩ := h
 exact ⟨ao, n, c, h0, h1, h2, h3, h4.low hB⟩
theorem numAt_shape {B : Nat} {w : World} {v : Value} {p : Bool × Nat × Int} (h : NumAt B w v p) : ∃ (s : Bool) (a : Option Addr) (n c : Nat) (e : Int), v = numV s a n c e false ∧ Hid (NumAt B w (numV s a n c e false) p) := by
 obtain ⟨ao, n, c, rfl, h⟩ := h
 exact ⟨p.1, ao, n, c, p.2.2, rfl, ⟨ao, n, c, rfl, h⟩⟩
theorem negated_num (B : Nat) (v : Value) (x : Bool × Nat × Int) (w : World) (hX : NumAt B w v x) :
  Calls Tryz.prog 144 #[v] w fun r w' => ∃ v, r = .returned v ∧ NumAt B w' v (negD x) ∧ Below w.heap.size w w' := by
 obtain ⟨ax, nx, kx, rfl, HNx, HZx, hnx, hOx⟩ := hX
 refine (negated_calls x.1 ax nx kx x.2.2 false w).mono ?_
 rintro r w' ⟨rfl, hb⟩
 rw [neg_sign HNx.out]
 exact ⟨_, rfl, ⟨ax, nx, kx, rfl, HNx, HZx, hnx, hOx.keep hb⟩, hb⟩
theorem negD_canon {x : Bool × Nat × Int} (h : CanD x) : CanD (negD x) := by
 rcases h with h | h
 ·left; rw [h]; rfl
 ·right; exact h
theorem canon_num (s : Bool) (a : Option Addr) (len cap : Nat) (xs : List Int) (e : Int) (w : World) (h : IsW w a len cap xs) (hm : len ≤ 17592186044416) (hT : Tab w) (hr : rightB (val xs) e = true) :
  Calls Tryz.prog 123 #[dyV s a len cap e] w fun r w' => ∃ v, r = .returned v ∧ NumAt w.heap.size w' v (formD s (val xs) e) ∧ Below w.heap.size w w' := by
 have hE := right_exp hr
 refine (canonical_calls s a len cap xs e w h hm hT).mono ?_
 rintro r w' ⟨ao, n, c, e', rfl, HE, HN, HZ, hn, hO, hb⟩
 have h1 := HE.out hE.1 hE.2
 rw [canG_no (rightB_yes hr).1] at h1 HN hO ⊢
 subst h1
 exact ⟨_, rfl, ⟨ao, n, c, rfl, HN, HZ, hn, hO⟩, hb⟩
theorem set4_cell {W : World} {b o r : Nat} {v0 v1 v2 v3 x : Value} (h : W.cell? ⟨b, o, none⟩ = some x) (hne : b ≠ r) : ((((W.setCell ⟨r, 0, none⟩ v0).setCell ⟨r, 1, none⟩ v1).setCell ⟨r, 2, none⟩ v2).setCell ⟨r, 3, none⟩ v3).cell? ⟨b, o, none⟩ = some x := cell_set4 h hne
attribute [local go_sem ↓] Go.wp_at_zero Go.wp_at_succ
theorem sub1_calls (b1 b2 : Nat) (s : Bool) (a : Option Addr) (len cap : Nat) (xs : List Int) (e : Int) (s' : Bool) (a' : Option Addr) (len' cap' : Nat) (ys : List Int) (e' : Int) (w : World) (h : IsW w a len cap xs) (hm : len ≤ 17592186044416) (h' : IsW w a' len' cap' ys) (hm' : len' ≤ 17592186044416) (hT : Tab w) (hr : rightB (val xs) e = true) (hr' : rightB (val ys) e' = true)
  (k0 : w.cell? ⟨b1, 0, none⟩ = some (.bool s)) (k1 : w.cell? ⟨b1, 1, none⟩ = some (.slice a len cap)) (k2 : w.cell? ⟨b1, 2, none⟩ = some (.int .i64 e))
  (l0 : w.cell? ⟨b2, 0, none⟩ = some (.bool s')) (l1 : w.cell? ⟨b2, 1, none⟩ = some (.slice a' len' cap')) (l2 : w.cell? ⟨b2, 2, none⟩ = some (.int .i64 e')) :
  Calls Tryz.prog 142 #[.pointer (some ⟨b1, 0, none⟩), .pointer (some ⟨b2, 0, none⟩)] w fun r w' => ∃ v, r = .returned v ∧ NumR w.heap.size w' v (sumD (formD s (val xs) e) (negD (formD s' (val ys) e'))) ∧ Below w.heap.size w w' := by
 have HX : Hid _ := fun W g t => canon_num s a len cap xs e W g hm t hr
 have HY : Hid _ := fun W g t => canon_num s' a' len' cap' ys e' W g hm' t hr'
 have HGX : Hid _ := form_fit s (val xs) e hr
 have HGY : Hid _ := form_fit s' (val ys) e' hr'
 have HBX : Hid _ := form_bounds s (val xs) e hr
 have HBY : Hid _ := form_bounds s' (val ys) e' hr'
 have HCX : Hid _ := form_can s (val xs) e
 have HCY : Hid _ := form_can s' (val ys) e'
 have H1 : Hid (IsW w a len cap xs) := h
 have H2 : Hid (IsW w a' len' cap' ys) := h'
 have HT0 : Hid (∀ W, Below w.heap.size w W → Tab W) := fun W hW => hT.kept hW
 have nb1 : b1 ≠ w.heap.size := Nat.ne_of_lt (World.block_lt_of_cell? _ _ k0)
 have nb2 : b2 ≠ w.heap.size := Nat.ne_of_lt (World.block_lt_of_cell? _ _ l0)
 generalize formD s (val xs) e = x at *
 generalize formD s' (val ys) e' = y at *
 clear hr hr' hm hm' h h' hT
 have bw := below_one w (.cells #[.bool false, .slice none 0 0, .int .i64 0, .bool false] 109)
 obtain ⟨m0, m1, m2, m3, f0, f1, f2, f3⟩ := zero_num (w := w) (r := w.heap.size) (W' := (w.alloc (.cells #[.bool false, .slice none 0 0, .int .i64 0, .bool false] 109))) (Below.refl _ _) rfl
 replace k0 := kC bw k0
 replace k1 := kC bw k1
 replace k2 := kC bw k2
 replace l0 := kC bw l0
 replace l1 := kC bw l1
 replace l2 := kC bw l2
 have hs0 : w.heap.size + 1 ≤ (w.alloc (.cells #[.bool false, .slice none 0 0, .int .i64 0, .bool false] 109)).heap.size := by simp
 go_enter Tryz.func142, Tryz.ntmps142
 go_upto_region 1 with fail
 generalize (w.alloc (.cells #[.bool false, .slice none 0 0, .int .i64 0, .bool false] 109)) = w0 at *
 have bd : Below w0.heap.size w0 w0.drew := (Below.refl _ _).drew
 refine wp_region_held (S := fun w' => w'.cell? ⟨b1, 0, none⟩ = some (.bool s) ∧ w'.cell? ⟨b1, 1, none⟩ = some (.slice a len cap) ∧ w'.cell? ⟨b1, 2, none⟩ = some (.int .i64 e) ∧ w'.cell? ⟨b2, 0, none⟩ = some (.bool s') ∧ w'.cell? ⟨b2, 1, none⟩ = some (.slice a' len' cap') ∧ w'.cell? ⟨b2, 2, none⟩ = some (.int .i64 e')) (by kernel_rfl) ?_
 change wpAnyH _ _ _ _ _ _ _ _ (World.drew w0)
 revert m0 m1 m2 f0 f1 f2; refine zg3 bd ?_; intro m0 m1 m2 f0 f1 f2
 replace f3 := kF bd m3 f3
 replace m3 := kC bd m3
 revert k0 k1 k2 l0 l1 l2; refine cc6 bd ?_; intro k0 k1 k2 l0 l1 l2
 replace bw := nT bw bd
 replace hs0 := Nat.le_trans hs0 bd.size
 clear bd
 generalize World.drew w0 = wd at *
 refine tk 0 (.agg #[.bool s, .slice a len cap, .int .i64 e]) rfl (by kernel_rfl) (fun _ _ _ h => h) (by rfl) ?y0 ⟨k0, k1, k2, l0, l1, l2⟩ ?r0
 case y0 => (rintro ww ⟨q0, q1, q2, q3, q4, q5⟩; go_simp)
 try simp only [Act.put]
 refine tk 2 (.agg #[.bool s', .slice a' len' cap', .int .i64 e']) rfl (by kernel_rfl) (fun _ _ _ h => h) (by rfl) ?y1 ⟨k0, k1, k2, l0, l1, l2⟩ ?r1
 case y1 => (rintro ww ⟨q0, q1, q2, q3, q4, q5⟩; go_simp)
 try simp only [Act.put]
 refine rd1 1 (by kernel_rfl) rfl fun K hK => ?_
 go_simp
 refine cM (HX.out _ (H1.out.keep bw) (HT0.out _ bw)) ?_
 rintro r wa ⟨va, rfl, hA, bN⟩
 revert m0 m1 m2 f0 f1 f2; refine zg3 bN ?_; intro m0 m1 m2 f0 f1 f2
 replace f3 := kF bN m3 f3
 replace m3 := kC bN m3
 revert k0 k1 k2 l0 l1 l2; refine cc6 bN ?_; intro k0 k1 k2 l0 l1 l2
 obtain ⟨sA, aA, nA, cA, eA, rfl, HA⟩ := numAt_shape (hA.lows hs0)
 clear hA
 refine hK.out _ _ ⟨k0, k1, k2, l0, l1, l2⟩ (fun _ => ?_)
 clear hK K
 replace hs0 := Nat.le_trans hs0 bN.size
 replace bw := nT bw bN
 clear bN
 try simp only [Act.put, sA, sZ, sS]
 refine rd1 3 (by kernel_rfl) rfl fun K hK => ?_
 go_simp
 refine cM (HY.out _ (H2.out.keep bw) (HT0.out _ bw)) ?_
 rintro r wb ⟨vb, rfl, hB, bN⟩
 revert m0 m1 m2 f0 f1 f2; refine zg3 bN ?_; intro m0 m1 m2 f0 f1 f2
 replace f3 := kF bN m3 f3
 replace m3 := kC bN m3
 revert k0 k1 k2 l0 l1 l2; refine cc6 bN ?_; intro k0 k1 k2 l0 l1 l2
 obtain ⟨sB, aB, nB, cB, eB, rfl, HB⟩ := numAt_shape (hB.lows hs0)
 have HA' : Hid (NumAt (w.heap.size + 1) wb (numV sA aA nA cA eA false) x) := HA.out.kept bN
 clear hB HA
 refine hK.out _ _ ⟨k0, k1, k2, l0, l1, l2⟩ (fun _ => ?_)
 clear hK K
 replace hs0 := Nat.le_trans hs0 bN.size
 replace bw := nT bw bN
 clear bN
 try simp only [Act.put, sA, sZ, sS]
 refine rd1 4 (by kernel_rfl) rfl fun K hK => ?_
 go_simp
 refine cM (negated_num (w.heap.size + 1) _ y _ HB.out) ?_
 rintro r wc ⟨vc, rfl, hC, bN⟩
 revert m0 m1 m2 f0 f1 f2; refine zg3 bN ?_; intro m0 m1 m2 f0 f1 f2
 replace f3 := kF bN m3 f3
 replace m3 := kC bN m3
 revert k0 k1 k2 l0 l1 l2; refine cc6 bN ?_; intro k0 k1 k2 l0 l1 l2
 obtain ⟨sC, aC, nC, cC, eC, rfl, HC⟩ := numAt_shape hC
 have HA := HA'.out.kept bN
 have HA2 : Hid (NumAt (w.heap.size + 1) wc (numV sA aA nA cA eA false) x) := HA
 clear hC HA HA'
 refine hK.out _ _ ⟨k0, k1, k2, l0, l1, l2⟩ (fun _ => ?_)
 clear hK K
 replace hs0 := Nat.le_trans hs0 bN.size
 replace bw := nT bw bN
 clear bN
 try simp only [Act.put, sA, sZ, sS]
 refine rd1 5 (by kernel_rfl) rfl fun K hK => ?_
 go_simp
 refine cM (dplus_calls (w.heap.size + 1) _ _ x (negD y) _ hs0 HA2.out HC.out HGX.out HGY.out HCX.out (negD_canon HCY.out) HBX.out HBY.out (HT0.out _ bw)) ?_
 rintro r wp ⟨vp, rfl, hN, bN⟩
 revert m0 m1 m2 f0 f1 f2; refine zg3 bN ?_; intro m0 m1 m2 f0 f1 f2
 replace f3 := kF bN m3 f3
 replace m3 := kC bN m3
 revert k0 k1 k2 l0 l1 l2; refine cc6 bN ?_; intro k0 k1 k2 l0 l1 l2
 obtain ⟨s5, a5, n5, c5, e5, g5, rfl, HNR⟩ := numR_form hN
 clear hN HC HA2
 refine hK.out _ _ ⟨k0, k1, k2, l0, l1, l2⟩ (fun _ => ?_)
 clear hK K
 replace hs0 := Nat.le_trans hs0 bN.size
 replace bw := nT bw bN
 clear bN
 try simp only [Act.put, sA, sZ, sS]
 refine rd1 6 (by kernel_rfl) rfl fun K hK => ?_
 go_simp
 refine hK.out _ _ ⟨set4_cell k0 nb1, set4_cell k1 nb1, set4_cell k2 nb1, set4_cell l0 nb2, set4_cell l1 nb2, set4_cell l2 nb2⟩ (fun _ => ?_)
 clear hK K
 try simp only [Act.put, sA, sZ, sS]
 refine wpAnyH_done (by kernel_rfl) ?_ _
 go_wp2_with fail
 refine bodyPost_ret (v := numV s5 a5 n5 c5 e5 g5) (by simp [results, Tryz.results142, go_sem, m0, m1, m2, m3]) rfl ⟨_, rfl, ((((HNR.out.far _ _ (by show w.heap.size < _; omega)).far _ _ (by show w.heap.size < _; omega)).far _ _ (by show w.heap.size < _; omega)).far _ _ (by show w.heap.size < _; omega)).low (by omega), ?_⟩
 exact (((bw.setCell (Nat.le_refl _) _).setCell (Nat.le_refl _) _).setCell (Nat.le_refl _) _).setCell (Nat.le_refl _) _
theorem dsub_yes (s : Bool) (a : Option Addr) (len cap : Nat) (xs : List Int) (e : Int) (s' : Bool) (a' : Option Addr) (len' cap' : Nat) (ys : List Int) (e' : Int) (w : World) (h : IsW w a len cap xs) (hm : len ≤ 17592186044416) (h' : IsW w a' len' cap' ys) (hm' : len' ≤ 17592186044416) (hT : Tab w) (hr : rightB (val xs) e = true) (hr' : rightB (val ys) e' = true) :
  Calls Tryz.prog 115 #[dyV s a len cap e, dyV s' a' len' cap' e'] w fun r w' => ∃ v', r = .returned (.tuple #[v', .int .i64 (roomE (sumD (formD s (val xs) e) (negD (formD s' (val ys) e'))))]) ∧ DyAt w.heap.size w' v' (roomP (sumD (formD s (val xs) e) (negD (formD s' (val ys) e')))) ∧ Below w.heap.size w w' := by
 have hmf : ∀ (fn : Fn) (first cap : Array Value) (w : World), (Instr.makeFunc fn first cap).run Tryz.prog w = .ok (.func fn first cap) w := fun _ _ _ _ => rfl
 have HRB : Hid ((rightB (val xs) e && rightB (val ys) e') = true) := by rw [Hid, hr, hr']; rfl
 have HR1 : Hid (rightB (val xs) e = true) := hr
 have HR2 : Hid (rightB (val ys) e' = true) := hr'
 clear hr hr'
 go_enter Tryz.func115, Tryz.ntmps115
 go_wp2_with fail
 have hb0 : Below w.heap.size w ((((w.alloc (.cells #[.bool s, .slice a len cap, .int .i64 e] 25)).alloc (.cells #[.bool s', .slice a' len' cap', .int .i64 e'] 25)).alloc (.cells #[.bool false, .slice none 0 0, .int .i64 0] 25)).alloc (.cells #[.bool s, .slice a len cap, .int .i64 e, .bool s', .slice a' len' cap', .int .i64 e'] 25)) := by repeat (first | exact Below.refl _ _ | refine Below.alloc ?_ (by simp; try omega) _)
 refine cM (made_Sub w.heap.size (w.heap.size + 1) 0 (sumD (formD s (val xs) e) (negD (formD s' (val ys) e'))) _ _ (fun W hW => HRB.out ▸ right2_calls (w.heap.size + 1 + 1 + 1) s a len cap xs e s' a' len' cap' ys e' W (h.keep (nT hb0 hW)) hm (h'.keep (nT hb0 hW)) hm' (kC hW (by go_simp)) (kC hW (by go_simp)) (kC hW (by go_simp)) (kC hW (by go_simp)) (kC hW (by go_simp)) (kC hW (by go_simp)))
  (fun W hW => cM (sub1_calls w.heap.size (w.heap.size + 1) s a len cap xs e s' a' len' cap' ys e' W (h.keep (nT hb0 hW)) hm (h'.keep (nT hb0 hW)) hm' (hT.kept (nT hb0 hW)) HR1.out HR2.out (kC hW (by go_simp)) (kC hW (by go_simp)) (kC hW (by go_simp)) (kC hW (by go_simp)) (kC hW (by go_simp)) (kC hW (by go_simp))) (by
   rintro r w5 ⟨v, rfl, hN, hb5⟩
   exact ⟨v, rfl, hN.low (Nat.zero_le _), hb5⟩))) ?_
 rintro r w2 ⟨v', rfl, ⟨a2, n2, c2, rfl, HN2, hn2, hO2⟩, hbM⟩
 have hb2 := nT hb0 hbM
 obtain ⟨m0, m1, m2, f0, f1, f2⟩ := zero_dy (r := w.heap.size + 1 + 1) (w := (w.alloc (.cells #[.bool s, .slice a len cap, .int .i64 e] 25)).alloc (.cells #[.bool s', .slice a' len' cap', .int .i64 e'] 25)) (W' := w2) (nT (below_one _ _) hbM) (by simp)
 go_wp2_with fail
 refine bodyPost_ret (v := .tuple #[dyV (roomP (sumD (formD s (val xs) e) (negD (formD s' (val ys) e')))).1 a2 n2 c2 (roomP (sumD (formD s (val xs) e) (negD (formD s' (val ys) e')))).2.2, .int .i64 (roomE (sumD (formD s (val xs) e) (negD (formD s' (val ys) e'))))]) (by simp [results, Tryz.results115, go_sem, m0, m1, m2]) rfl ⟨_, rfl, ⟨a2, n2, c2, rfl, HN2, hn2, (((hO2.far _ _ (by show w.heap.size + 1 + 1 < _; simp)).far _ _ (by show w.heap.size + 1 + 1 < _; simp)).far _ _ (by show w.heap.size + 1 + 1 < _; simp)).low (by simp; omega)⟩, ?_⟩
 exact ((hb2.setCell (le2 _) _).setCell (le2 _) _).setCell (le2 _) _
end Go.Proofs.YtahpdcbmekgkfaaGreatDoor

namespace Go.Proofs.YtahpdcbmekgkfaaGreatDoor
open Go.RowKit
theorem amt_scaled (mx : Nat) (ex : Int) (my : Nat) (ey : Int) (hx : mx ≠ 0) (hy : my ≠ 0) (K : Nat) (hex : -(K : Int) ≤ ex) (hey : -(K : Int) ≤ ey) : amtD mx ex my ey = cmpN (mx * 2 ^ (ex + (K : Int)).toNat) (my * 2 ^ (ey + (K : Int)).toNat) := by
 obtain ⟨i, hi⟩ : ∃ i : Nat, ex + (K : Int) = (i : Int) := ⟨(ex + (K : Int)).toNat, by omega⟩
 obtain ⟨j, hj⟩ : ∃ j : Nat, ey + (K : Int) = (j : Int) := ⟨(ey + (K : Int)).toNat, by omega⟩
 rw [hi, hj, Int.toNat_natCast, Int.toNat_natCast]
 have b1 := blen_mul mx i hx
 have b2 := blen_mul my j hy
 have nx : mx * 2 ^ i ≠ 0 := Nat.mul_ne_zero hx (Nat.pos_iff_ne_zero.1 (Nat.two_pow_pos i))
 have ny : my * 2 ^ j ≠ 0 := Nat.mul_ne_zero hy (Nat.pos_iff_ne_zero.1 (Nat.two_pow_pos j))
 unfold amtD
 by_cases ht : ex + (blen mx : Int) - 1 = ey + (blen my : Int) - 1
 ·rw [if_neg (by omega)]
  by_cases hl : ex < ey
  ·rw [if_pos hl]
   obtain ⟨d, hd⟩ : ∃ d : Nat, ey - ex = (d : Int) := ⟨(ey - ex).toNat, by omega⟩
   rw [hd, Int.toNat_natCast, show j = d + i by omega, Nat.pow_add, ← Nat.mul_assoc]
   unfold cmpN
   have hp := Nat.two_pow_pos i
   rcases Nat.lt_trichotomy (my * 2 ^ d) mx with q | q | q
   ·have q2 := (Nat.mul_lt_mul_right hp).2 q
    rw [if_pos q, if_neg (by omega), if_pos q2]; rfl
   ·rw [q]; simp
   ·have q2 := (Nat.mul_lt_mul_right hp).2 q
    rw [if_neg (by omega), if_pos q, if_pos q2]
  ·rw [if_neg hl]
   obtain ⟨d, hd⟩ : ∃ d : Nat, ex - ey = (d : Int) := ⟨(ex - ey).toNat, by omega⟩
   rw [hd, Int.toNat_natCast, show i = d + j by omega, Nat.pow_add, ← Nat.mul_assoc]
   unfold cmpN
   have hp := Nat.two_pow_pos j
   rcases Nat.lt_trichotomy (mx * 2 ^ d) my with q | q | q
   ·have q2 := (Nat.mul_lt_mul_right hp).2 q
    rw [if_pos q, if_pos q2]
   ·rw [q]; simp
   ·have q2 := (Nat.mul_lt_mul_right hp).2 q
    rw [if_neg (by omega), if_pos q, if_neg (by omega), if_pos q2]
 ·rw [if_pos ht]
  unfold Lib.compareInt cmpN
  have key : ∀ u v : Nat, u ≠ 0 → v ≠ 0 → blen u < blen v → u < v := fun u v hu hv hb => by
   have h1 := lt_blen u
   have h2 := blen_ge v hv
   have h3 : 2 ^ blen u ≤ 2 ^ (blen v - 1) := Nat.pow_le_pow_right (by decide) (by omega)
   omega
  rcases Int.lt_or_gt_of_ne ht with q | q
  ·have := key _ _ nx ny (by omega)
   rw [if_pos q, if_pos this]
  ·have := key _ _ ny nx (by omega)
   rw [if_neg (by omega), if_pos q, if_neg (by omega), if_pos this]
def sI (s : Bool) : Int := if s = true then -1 else 1
def vI (p : Bool × Nat × Int) (E : Int) : Int := sI p.1 * ((p.2.1 * 2 ^ (p.2.2 - E).toNat : Nat) : Int)
theorem vI_zero {p : Bool × Nat × Int} (h : p.2.1 = 0) (E : Int) : vI p E = 0 := by unfold vI; rw [h, Nat.zero_mul]; simp
theorem vI_form (s : Bool) (m : Nat) (e E : Int) (h : E ≤ e) : vI (formD s m e) E = sI s * ((m * 2 ^ (e - E).toNat : Nat) : Int) := by
 by_cases h0 : m = 0
 ·rw [h0, form_zero, vI_zero rfl, Nat.zero_mul]; simp
 ·have h2 := (odd_part h0).2
  rw [form_pos s h0]
  unfold vI
  show sI s * ((m / 2 ^ tz m * 2 ^ (e + (tz m : Int) - E).toNat : Nat) : Int) = _
  rw [show (e + (tz m : Int) - E).toNat = tz m + (e - E).toNat by omega, Nat.pow_add, ← Nat.mul_assoc, h2]
theorem vI_neg (p : Bool × Nat × Int) (E : Int) : vI (negD p) E = - vI p E := by
 by_cases h0 : p.2.1 = 0
 ·rw [vI_zero (p := negD p) h0, vI_zero h0]; rfl
 ·have hn1 : (negD p).1 = !p.1 := by unfold negD; rw [decide_eq_false h0]; simp
  unfold vI
  rw [hn1]
  show sI (!p.1) * ((p.2.1 * 2 ^ (p.2.2 - E).toNat : Nat) : Int) = _
  have : sI (!p.1) = - sI p.1 := by unfold sI; cases p.1 <;> rfl
  rw [this, Int.neg_mul]
theorem vI_sum (x y : Bool × Nat × Int) (E : Int) (hx : E ≤ x.2.2) (hy : E ≤ y.2.2) : vI (sumD x y) E = vI x E + vI y E := by
 by_cases h1 : x.2.1 = 0
 ·have : sumD x y = y := by unfold sumD; rw [if_pos h1]
  rw [this, vI_zero h1, Int.zero_add]
 ·by_cases h2 : y.2.1 = 0
  ·have : sumD x y = x := by unfold sumD; rw [if_neg h1, if_pos h2]
   rw [this, vI_zero h2, Int.add_zero]
  ·obtain ⟨ee, hee⟩ : ∃ ee : Int, min x.2.2 y.2.2 = ee := ⟨_, rfl⟩
   obtain ⟨i, hi⟩ : ∃ i : Nat, x.2.2 - ee = (i : Int) := ⟨(x.2.2 - ee).toNat, by omega⟩
   obtain ⟨j, hj⟩ : ∃ j : Nat, y.2.2 - ee = (j : Int) := ⟨(y.2.2 - ee).toNat, by omega⟩
   obtain ⟨k, hk⟩ : ∃ k : Nat, ee - E = (k : Int) := ⟨(ee - E).toNat, by omega⟩
   have v1 : vI x E = sI x.1 * ((x.2.1 * 2 ^ i * 2 ^ k : Nat) : Int) := by
    unfold vI
    rw [show (x.2.2 - E).toNat = i + k by omega, Nat.pow_add, ← Nat.mul_assoc]
   have v2 : vI y E = sI y.1 * ((y.2.1 * 2 ^ j * 2 ^ k : Nat) : Int) := by
    unfold vI
    rw [show (y.2.2 - E).toNat = j + k by omega, Nat.pow_add, ← Nat.mul_assoc]
   rw [plus_q x y h1 h2 ee hee i hi j hj, v1, v2]
   generalize x.2.1 * 2 ^ i = M
   generalize y.2.1 * 2 ^ j = N
   have hkk : (ee - E).toNat = k := by omega
   by_cases hs : x.1 = y.1
   ·rw [if_pos hs, vI_form _ _ _ _ (by omega), hkk, hs, ← Int.mul_add, Nat.add_mul]
    rfl
   ·have hsn : sI y.1 = - sI x.1 := by unfold sI; cases hx1 : x.1 <;> cases hy1 : y.1 <;> rw [hx1, hy1] at hs <;> first | exact absurd rfl hs | rfl
    rw [if_neg hs]
    by_cases hc : N ≤ M
    ·rw [if_pos hc, vI_form _ _ _ _ (by omega), hkk, hsn, Int.neg_mul, ← Int.sub_eq_add_neg, ← Int.mul_sub, Nat.sub_mul, Int.ofNat_sub (Nat.mul_le_mul_right _ hc)]
    ·rw [if_neg hc, vI_form _ _ _ _ (by omega), hkk, hsn, Int.neg_mul, Int.neg_mul, Nat.sub_mul, Int.ofNat_sub (Nat.mul_le_mul_right _ (by omega)), Int.mul_sub, Int.neg_sub, Int.sub_eq_add_neg]
theorem vI_cmp (x y : Bool × Nat × Int) (K : Nat) (hx : -(K : Int) ≤ x.2.2) (hy : -(K : Int) ≤ y.2.2) : cmpD x y = Lib.compareInt (vI x (-(K : Int))) (vI y (-(K : Int))) := by
 have key : ∀ p : Bool × Nat × Int, p.2.1 ≠ 0 → ((p.2.1 * 2 ^ (p.2.2 - -(K : Int)).toNat : Nat) : Int) > 0 := fun p h => by
  have := Nat.mul_pos (Nat.pos_of_ne_zero h) (Nat.two_pow_pos (p.2.2 - -(K : Int)).toNat)
  omega
 by_cases h1 : x.2.1 = 0
 ·rw [vI_zero h1]
  by_cases h2 : y.2.1 = 0
  ·rw [vI_zero h2]
   unfold cmpD sgnD
   rw [if_pos h1, if_pos h2]
   simp [h1, Lib.compareInt]
  ·have hp := key y h2
   unfold cmpD sgnD vI sI Lib.compareInt
   rw [if_pos h1, if_neg h2]
   generalize y.2.1 * 2 ^ (y.2.2 - -(K : Int)).toNat = B at *
   cases y.1 <;> simp <;> omega
 ·have hp1 := key x h1
  by_cases h2 : y.2.1 = 0
  ·rw [vI_zero h2]
   unfold cmpD sgnD vI sI Lib.compareInt
   rw [if_neg h1, if_pos h2]
   generalize x.2.1 * 2 ^ (x.2.2 - -(K : Int)).toNat = B at *
   cases x.1 <;> simp <;> omega
  ·have hp2 := key y h2
   have ha := amt_scaled x.2.1 x.2.2 y.2.1 y.2.2 h1 h2 K hx hy
   unfold cmpD
   rw [ha]
   unfold sgnD vI sI
   rw [if_neg h1, if_neg h2, show x.2.2 - -(K : Int) = x.2.2 + (K : Int) by omega, show y.2.2 - -(K : Int) = y.2.2 + (K : Int) by omega]
   rw [show x.2.2 - -(K : Int) = x.2.2 + (K : Int) by omega] at hp1
   rw [show y.2.2 - -(K : Int) = y.2.2 + (K : Int) by omega] at hp2
   generalize x.2.1 * 2 ^ (x.2.2 + (K : Int)).toNat = A at *
   generalize y.2.1 * 2 ^ (y.2.2 + (K : Int)).toNat = B at *
   unfold Lib.compareInt cmpN
   cases x.1 <;> cases y.1 <;> simp <;> (repeat' split) <;> omega
theorem vI_inj (x y : Bool × Nat × Int) (cx : CanD x) (cy : CanD y) (E : Int) (hx : E ≤ x.2.2) (hy : E ≤ y.2.2) (h : vI x E = vI y E) : x = y := by
 have pos : ∀ p : Bool × Nat × Int, p.2.1 ≠ 0 → 0 < p.2.1 * 2 ^ (p.2.2 - E).toNat := fun p q => Nat.mul_pos (Nat.pos_of_ne_zero q) (Nat.two_pow_pos _)
 by_cases h1 : x.2.1 = 0
 ·have hz : x = (false, 0, 0) := by
   rcases cx with q | q
   ·exact q
   ·rw [h1] at q; exact absurd q (by decide)
  by_cases h2 : y.2.1 = 0
  ·rcases cy with q | q
   ·rw [hz, q]
   ·rw [h2] at q; exact absurd q (by decide)
  ·rw [vI_zero h1] at h
   have := pos y h2
   unfold vI sI at h
   exfalso
   generalize y.2.1 * 2 ^ (y.2.2 - E).toNat = B at *
   cases hy1 : y.1 <;> rw [hy1] at h <;> simp at h <;> omega
 ·by_cases h2 : y.2.1 = 0
  ·rw [vI_zero h2] at h
   have := pos x h1
   unfold vI sI at h
   exfalso
   generalize x.2.1 * 2 ^ (x.2.2 - E).toNat = B at *
   cases hx1 : x.1 <;> rw [hx1] at h <;> simp at h <;> omega
  ·have o1 : x.2.1 % 2 = 1 := by
    rcases cx with q | q
    ·rw [q] at h1; exact absurd rfl h1
    ·exact q
   have o2 : y.2.1 % 2 = 1 := by
    rcases cy with q | q
    ·rw [q] at h2; exact absurd rfl h2
    ·exact q
   have p1 := pos x h1
   have p2 := pos y h2
   have hs : x.1 = y.1 ∧ x.2.1 * 2 ^ (x.2.2 - E).toNat = y.2.1 * 2 ^ (y.2.2 - E).toNat := by
    unfold vI sI at h
    generalize x.2.1 * 2 ^ (x.2.2 - E).toNat = A at *
    generalize y.2.1 * 2 ^ (y.2.2 - E).toNat = B at *
    cases hx1 : x.1 <;> cases hy1 : y.1 <;> rw [hx1, hy1] at h <;> simp at h <;> refine ⟨?_, ?_⟩ <;> first | rfl | omega
   obtain ⟨i, hi⟩ : ∃ i : Nat, x.2.2 - E = (i : Int) := ⟨(x.2.2 - E).toNat, by omega⟩
   obtain ⟨j, hj⟩ : ∃ j : Nat, y.2.2 - E = (j : Int) := ⟨(y.2.2 - E).toNat, by omega⟩
   have hm := hs.2
   rw [hi, hj, Int.toNat_natCast, Int.toNat_natCast] at hm
   have odd_eq : ∀ (u v a b : Nat), u % 2 = 1 → v % 2 = 1 → u * 2 ^ a = v * 2 ^ b → a ≤ b := fun u v a b ou ov e => by
    rcases Nat.lt_or_ge b a with q | q
    ·exfalso
     obtain ⟨d, rfl⟩ : ∃ d, a = b + 1 + d := ⟨a - b - 1, by omega⟩
     have e2 : u * 2 ^ (b + 1 + d) = 2 * (u * 2 ^ d) * 2 ^ b := by
      rw [Nat.pow_add, Nat.pow_succ, show u * (2 ^ b * 2 * 2 ^ d) = 2 * (u * 2 ^ d) * 2 ^ b by
       rw [Nat.mul_assoc (2 ^ b), ← Nat.mul_assoc u, Nat.mul_comm u (2 ^ b), Nat.mul_assoc (2 ^ b), Nat.mul_comm (2 ^ b), Nat.mul_left_comm u 2]]
     rw [e2] at e
     have := Nat.eq_of_mul_eq_mul_right (Nat.two_pow_pos b) e
     omega
    ·exact q
   have hij : i = j := Nat.le_antisymm (odd_eq _ _ _ _ o1 o2 hm) (odd_eq _ _ _ _ o2 o1 hm.symm)
   subst hij
   have := Nat.eq_of_mul_eq_mul_right (Nat.two_pow_pos i) hm
   obtain ⟨xs, xm, xe⟩ := x
   obtain ⟨ys, ym, ye⟩ := y
   have e1 : xs = ys := hs.1
   have e2 : xm = ym := this
   have e3 : xe = ye := by have a1 : xe - E = (i : Int) := hi; have a2 : ye - E = (i : Int) := hj; omega
   rw [e1, e2, e3]
theorem sum_low (x y : Bool × Nat × Int) (E : Int) (hE : E ≤ 0) (hx : E ≤ x.2.2) (hy : E ≤ y.2.2) : E ≤ (sumD x y).2.2 := by
 have hf : ∀ s m e, E ≤ e → E ≤ (formD s m e).2.2 := fun s m e h => by
  by_cases h0 : m = 0
  ·rw [h0, form_zero]; exact hE
  ·rw [form_pos s h0]; show E ≤ e + (tz m : Int); omega
 have ha : ∀ s A t b e, E ≤ e → E ≤ (addHi s A t b e).2.2 := fun s A t b e h => by
  unfold addHi
  split
  ·exact hf _ _ _ h
  ·split <;> exact hf _ _ _ h
 unfold sumD
 split
 ·exact hy
 ·split
  ·exact hx
  ·split
   ·exact ha _ _ _ _ _ hx
   ·exact ha _ _ _ _ _ hy
end Go.Proofs.YtahpdcbmekgkfaaGreatDoor

namespace Go.Proofs.YtahpdcbmekgkfaaGreatDoor
open Go.RowKit
theorem cut_form (s : Bool) (m : Nat) (e : Int) (p j : Nat) (up : Bool) (hm : m ≠ 0) (hb : blen m = p + j) :
  cutD (formD s m e) (p : Int) up = formD s (m / 2 ^ j + (if (!(up == s)) = true ∧ m % 2 ^ j ≠ 0 then 1 else 0)) (e + (j : Int)) := by
 have od := odd_part hm
 have hM0 : m / 2 ^ tz m ≠ 0 := fun q => by have := od.1; rw [q] at this; omega
 have hbm := blen_mul (m / 2 ^ tz m) (tz m) hM0
 rw [od.2] at hbm
 rw [form_pos s hm]
 generalize hM : m / 2 ^ tz m = M at *
 generalize tz m = z at *
 unfold cutD
 simp only
 by_cases h : (blen M : Int) ≤ (p : Int)
 ·rw [if_pos h]
  obtain ⟨d, rfl⟩ : ∃ d, z = j + d := ⟨z - j, by omega⟩
  have e1 : m = M * 2 ^ d * 2 ^ j := by rw [← od.2, Nat.pow_add, Nat.mul_comm (2 ^ j), Nat.mul_assoc]
  have e2 : m % 2 ^ j = 0 := by rw [e1]; exact Nat.mul_mod_left _ _
  have e3 : m / 2 ^ j = M * 2 ^ d := by rw [e1]; exact Nat.mul_div_cancel _ (Nat.two_pow_pos j)
  rw [if_neg (fun q => q.2 e2), Nat.add_zero, e3, form_shift, form_odd s od.1, show e + (j : Int) + (d : Int) = e + ((j + d : Nat) : Int) by omega]
 ·rw [if_neg h]
  obtain ⟨d, hd⟩ : ∃ d : Nat, (blen M : Int) - (p : Int) = (d : Int) := ⟨((blen M : Int) - (p : Int)).toNat, by omega⟩
  rw [hd, Int.toNat_natCast]
  have hj : j = z + d := by omega
  subst hj
  have e3 : m / 2 ^ (z + d) = M / 2 ^ d := by rw [Nat.pow_add, ← Nat.div_div_eq_div_mul, hM]
  have hr : m % 2 ^ (z + d) ≠ 0 := fun q => by
   have q2 : 2 ^ (z + d) ∣ m := Nat.dvd_of_mod_eq_zero q
   rw [← od.2, Nat.pow_add, Nat.mul_comm (2 ^ z)] at q2
   have q3 : 2 ^ d ∣ M := Nat.dvd_of_mul_dvd_mul_right (Nat.two_pow_pos z) q2
   obtain ⟨d', rfl⟩ : ∃ d', d = d' + 1 := ⟨d - 1, by omega⟩
   have q4 : 2 ∣ M := Nat.dvd_trans ⟨2 ^ d', by rw [Nat.pow_succ, Nat.mul_comm]⟩ q3
   have := od.1
   omega
  rw [e3, show e + (z : Int) + (d : Int) = e + ((z + d : Nat) : Int) by omega]
  congr 2
  by_cases q : (!(up == s)) = true
  ·rw [if_pos q, if_pos ⟨q, hr⟩]
  ·rw [if_neg q, if_neg (fun x => q x.1)]
theorem cut_cell (s : Bool) (n n' M t : Nat) (e : Int) (p : Nat) (up : Bool) (hp : 0 < p) (hM : p ≤ blen M) (a1 : M * 2 ^ t < n) (a2 : n < (M + 1) * 2 ^ t) (b1 : M * 2 ^ t < n') (b2 : n' < (M + 1) * 2 ^ t) :
  cutD (formD s n e) (p : Int) up = cutD (formD s n' e) (p : Int) up := by
 have hM0 : M ≠ 0 := fun q => by rw [q, blen_zero] at hM; omega
 have hT := Nat.two_pow_pos t
 have key : ∀ k : Nat, M * 2 ^ t < k → k < (M + 1) * 2 ^ t → ∃ r, k = r + 2 ^ t * M ∧ r < 2 ^ t ∧ 0 < r := fun k h1 h2 => by
  refine ⟨k - M * 2 ^ t, ?_, ?_, by omega⟩
  ·rw [Nat.mul_comm (2 ^ t)]; omega
  ·rw [Nat.add_mul, Nat.one_mul] at h2; omega
 obtain ⟨r, hr, r1, r0⟩ := key n a1 a2
 obtain ⟨r', hr', r1', r0'⟩ := key n' b1 b2
 have hb : blen n = t + blen M := by rw [hr]; exact blen_shift t r M r1 hM0
 have hb' : blen n' = t + blen M := by rw [hr']; exact blen_shift t r' M r1' hM0
 obtain ⟨d, hd⟩ : ∃ d, blen M = p + d := ⟨blen M - p, by omega⟩
 have q : ∀ k u : Nat, k = u + 2 ^ t * M → u < 2 ^ t → 0 < u → k / 2 ^ (t + d) = M / 2 ^ d ∧ k % 2 ^ (t + d) ≠ 0 := fun k u e1 e2 e3 => by
  have d1 : k / 2 ^ t = M := by rw [e1, Nat.add_mul_div_left _ _ hT, Nat.div_eq_of_lt e2, Nat.zero_add]
  refine ⟨by rw [Nat.pow_add, ← Nat.div_div_eq_div_mul, d1], fun z => ?_⟩
  have z1 : 2 ^ t ∣ k := Nat.dvd_trans ⟨2 ^ d, Nat.pow_add _ _ _⟩ (Nat.dvd_of_mod_eq_zero z)
  have z2 : k % 2 ^ t = 0 := Nat.mod_eq_zero_of_dvd z1
  rw [e1, Nat.add_mul_mod_self_left, Nat.mod_eq_of_lt e2] at z2
  omega
 obtain ⟨x1, x2⟩ := q n r hr r1 r0
 obtain ⟨y1, y2⟩ := q n' r' hr' r1' r0'
 rw [cut_form s n e p (t + d) up (by omega) (by omega), cut_form s n' e p (t + d) up (by omega) (by omega), x1, y1]
 congr 2
 by_cases z : (!(up == s)) = true
 ·rw [if_pos ⟨z, x2⟩, if_pos ⟨z, y2⟩]
 ·rw [if_neg (fun k => z k.1), if_neg (fun k => z k.1)]
def mkA (m : Nat) (more : Bool) : Nat := if more = true then 2 * (m / 2) + 1 else m
end Go.Proofs.YtahpdcbmekgkfaaGreatDoor

namespace Go.Proofs.YtahpdcbmekgkfaaGreatDoor
open Go.RowKit
theorem div_spare (X B W : Nat) (hW : 0 < W) (hD : B / W ≠ 0) (h : X % (B / W) * W < X / (B / W) * (B % W) → X / (B / W) * W ≤ B) :
  (X % (B / W) * W < X / (B / W) * (B % W) → X * W / B = X / (B / W) - 1 ∧ X * W % B ≠ 0) ∧
  (¬ X % (B / W) * W < X / (B / W) * (B % W) → X * W / B = X / (B / W) ∧ (X * W % B = 0 ↔ X % (B / W) * W = X / (B / W) * (B % W))) := by
 have e1 := Nat.div_add_mod X (B / W)
 have e2 := Nat.div_add_mod B W
 have l1 : X % (B / W) < B / W := Nat.mod_lt _ (Nat.pos_of_ne_zero hD)
 have l2 : B % W < W := Nat.mod_lt _ hW
 generalize hq : X / (B / W) = q at *
 generalize hr : X % (B / W) = r at *
 generalize hDD : B / W = D at *
 generalize hL : B % W = L at *
 have hN : X * W + q * L = q * B + r * W := by
  rw [← e1, ← e2, Nat.add_mul, Nat.mul_add]
  have : D * q * W = q * (W * D) := by rw [Nat.mul_comm D q, Nat.mul_assoc, Nat.mul_comm D W]
  omega
 have hB : D * W ≤ B := by rw [← e2, Nat.mul_comm W]; omega
 have hrW : r * W + W ≤ D * W := by
  have := Nat.mul_le_mul_right W (show r + 1 ≤ D by omega)
  rw [Nat.add_mul, Nat.one_mul] at this
  exact this
 have hB0 : 0 < B := by omega
 refine ⟨fun c => ?_, fun c => ?_⟩
 ·have h2 := h c
  have q0 : 0 < q := Nat.pos_of_ne_zero (fun z => by rw [z, Nat.zero_mul] at c; omega)
  have qL : q * L < q * W := Nat.mul_lt_mul_of_pos_left l2 q0
  obtain ⟨k, rfl⟩ : ∃ k, q = k + 1 := ⟨q - 1, by omega⟩
  have e3 : X * W = (B + r * W - (k + 1) * L) + B * k := by
   rw [Nat.add_mul k 1 B, Nat.one_mul, Nat.mul_comm k B] at hN
   omega
  have lt : B + r * W - (k + 1) * L < B := by omega
  have ne : B + r * W - (k + 1) * L ≠ 0 := by omega
  rw [e3, Nat.add_mul_div_left _ _ hB0, Nat.div_eq_of_lt lt, Nat.add_mul_mod_self_left, Nat.mod_eq_of_lt lt]
  exact ⟨by omega, ne⟩
 ·have e3 : X * W = (r * W - q * L) + B * q := by
   rw [Nat.mul_comm q B] at hN
   omega
  have lt : r * W - q * L < B := by omega
  rw [e3, Nat.add_mul_div_left _ _ hB0, Nat.div_eq_of_lt lt, Nat.add_mul_mod_self_left, Nat.mod_eq_of_lt lt]
  exact ⟨by omega, by omega⟩
theorem blen_div (N B : Nat) (_hN : N ≠ 0) (hB : B ≠ 0) : blen N ≤ blen (N / B) + blen B ∧ (blen (N / B) = 0 ∨ blen (N / B) + blen B ≤ blen N + 1) := by
 have hb0 : blen B ≠ 0 := fun q => hB ((blen_nil B).1 q)
 have l1 := lt_blen N
 have g2 := blen_ge B hB
 have l2 := lt_blen B
 constructor
 ·have h : N < 2 ^ (blen (N / B) + blen B) := by
   have e := Nat.lt_mul_of_div_lt (lt_blen (N / B)) (Nat.pos_of_ne_zero hB)
   rw [Nat.pow_add]
   refine Nat.lt_of_lt_of_le e ?_
   exact Nat.mul_le_mul_left _ (by omega)
  exact (blen_le _ _).2 h
 ·by_cases q : N / B = 0
  ·left; rw [q, blen_zero]
  ·right
   have g := blen_ge (N / B) q
   have h : 2 ^ (blen (N / B) - 1) * 2 ^ (blen B - 1) ≤ N := Nat.le_trans (Nat.mul_le_mul g g2) (Nat.div_mul_le_self N B)
   rw [← Nat.pow_add] at h
   have q0 : blen (N / B) ≠ 0 := fun z => q ((blen_nil _).1 z)
   have : ¬ blen N ≤ blen (N / B) - 1 + (blen B - 1) := fun z => by
    have := (blen_le _ _).1 z
    omega
   omega
def quW (A B : Nat) (p : Int) : Nat := (((blen B : Int) + p + 1 - (blen A : Int) + 63) / 64).toNat
def quQ (A B : Nat) (p : Int) : Nat := A * 2 ^ (64 * quW A B p) / B
def quR (A B : Nat) (p : Int) : Nat := A * 2 ^ (64 * quW A B p) % B
def quA (A B : Nat) (p : Int) : Nat := mkA (quQ A B p) (decide (quR A B p ≠ 0))
theorem quo_bits (A B p : Nat) (hA : A ≠ 0) (hB : B ≠ 0) : p + 1 ≤ blen (quQ A B p) ∧ (blen (quQ A B p) ≤ blen A ∨ blen (quQ A B p) ≤ p + 65) := by
 have hb := blen_mul A (64 * quW A B p) hA
 have hd := blen_div (A * 2 ^ (64 * quW A B p)) B (Nat.mul_ne_zero hA (Nat.pos_iff_ne_zero.1 (Nat.two_pow_pos _))) hB
 have b0 : blen B ≠ 0 := fun q => hB ((blen_nil B).1 q)
 unfold quQ
 rw [hb] at hd
 unfold quW at *
 omega
def spW (A w : Nat) : Nat := (wO A).length + w - 1024
theorem len_blen (A : Nat) : 64 * (wO A).length ≤ blen A + 63 ∧ blen A ≤ 64 * (wO A).length := by
 have h1 := (words_len2 ((wO A).length) A).1 (Nat.le_refl _)
 refine ⟨?_, h1⟩
 rcases Nat.lt_or_ge (blen A + 63) (64 * (wO A).length) with q | q
 ·exfalso
  have := (words_len2 ((wO A).length - 1) A).2 (by omega)
  omega
 ·exact q
theorem spare_few (A B p : Nat) (hA : A ≠ 0) (hB : B ≠ 0) (gA : greatB A = false) (gB : greatB B = false) (hp : p ≤ 8192) :
  (wO A).length ≤ 1024 ∧ B / 2 ^ (64 * spW A (quW A B p)) ≠ 0 ∧ spW A (quW A B p) ≤ quW A B p ∧ spW A (quW A B p) ≤ 130 ∧ quW A B p ≤ 1200 ∧
  (spW A (quW A B p) ≠ 0 → A * 2 ^ (64 * (quW A B p - spW A (quW A B p))) / (B / 2 ^ (64 * spW A (quW A B p))) * 2 ^ (64 * spW A (quW A B p)) ≤ B) := by
 have lA := len_blen A
 have gA2 := (great_not A).1 gA
 have gB2 := (great_not B).1 gB
 have la := (great_len A).1 gA
 have a0 : blen A ≠ 0 := fun q => hA ((blen_nil A).1 q)
 have b0 : blen B ≠ 0 := fun q => hB ((blen_nil B).1 q)
 have hw : quW A B p ≤ 1200 := by unfold quW; omega
 have hs : spW A (quW A B p) ≤ quW A B p := by unfold spW; omega
 have hs2 : spW A (quW A B p) ≠ 0 → 64 * spW A (quW A B p) + 65536 ≤ blen B + p + 127 := fun q => by unfold spW at *; unfold quW at *; omega
 have hs3 : spW A (quW A B p) ≤ 130 := by
  by_cases q : spW A (quW A B p) = 0
  ·omega
  ·have := hs2 q; omega
 have hwq : quW A B p ≠ 0 → 64 * quW A B p + blen A ≤ blen B + p + 64 := fun q => by unfold quW at *; omega
 generalize spW A (quW A B p) = sp at *
 generalize quW A B p = ww at *
 have hD : B / 2 ^ (64 * sp) ≠ 0 := by
  have hge := blen_ge B hB
  have h2 : 2 ^ (64 * sp) ≤ B := by
   by_cases q : sp = 0
   ·rw [q]; simp; omega
   ·have := hs2 q
    exact Nat.le_trans (Nat.pow_le_pow_right (by decide) (by omega)) hge
  exact Nat.pos_iff_ne_zero.1 (Nat.div_pos h2 (Nat.two_pow_pos _))
 refine ⟨la, hD, hs, hs3, hw, fun q => ?_⟩
 have h2 := hs2 q
 have hX0 : A * 2 ^ (64 * (ww - sp)) ≠ 0 := Nat.mul_ne_zero hA (Nat.pos_iff_ne_zero.1 (Nat.two_pow_pos _))
 have hdv := (blen_div (A * 2 ^ (64 * (ww - sp))) (B / 2 ^ (64 * sp)) hX0 hD).2
 rw [blen_mul A _ hA] at hdv
 have hDb := (blen_div B (2 ^ (64 * sp)) hB (Nat.pos_iff_ne_zero.1 (Nat.two_pow_pos _))).1
 have hpw : blen (2 ^ (64 * sp)) = 64 * sp + 1 := by
  have := blen_mul 1 (64 * sp) (by decide)
  rw [Nat.one_mul] at this
  rw [this]
  rfl
 rw [hpw] at hDb
 have hww := hwq (by omega)
 generalize A * 2 ^ (64 * (ww - sp)) / (B / 2 ^ (64 * sp)) = Q at *
 have hQ : Q * 2 ^ (64 * sp) < 2 ^ (blen Q + 64 * sp) := by
  rw [Nat.pow_add]
  exact Nat.mul_lt_mul_of_pos_right (lt_blen Q) (Nat.two_pow_pos _)
 have hge := blen_ge B hB
 have : 2 ^ (blen Q + 64 * sp) ≤ 2 ^ (blen B - 1) := Nat.pow_le_pow_right (by decide) (by omega)
 omega
end Go.Proofs.YtahpdcbmekgkfaaGreatDoor

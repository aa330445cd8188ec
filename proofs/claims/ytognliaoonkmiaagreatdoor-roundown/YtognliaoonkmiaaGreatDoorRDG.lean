/- The program's dyadic numbers: times, Sub, Mul. The document's dyadic numbers: Sign, Top, Order, Cmp, Bits, Size, TopOf. The document's dyadic numbers: the product. The document's dyadic numbers: Add, Sub, Mul; the program's in the same words. The document's dyadic numbers: Order, Cmp, Size, TopOf; the program's Cmp, Size, Top in the same words. The program's dyadic numbers: Size, Top. -/
import Derived.Test.YtognliaoonkmiaaGreatDoorDGA
import Derived.Test.YtognliaoonkmiaaGreatDoorNMM
import Derived.Test.YtognliaoonkmiaaGreatDoorDCan2
import Derived.Deep.CutRange
import Derived.Deep.RegionHeld3
import Derived.Test.YtognliaoonkmiaaGreatDoorRDE
import Derived.Test.YtognliaoonkmiaaGreatDoorDCmp2
import Derived.Test.YtognliaoonkmiaaGreatDoorRDA
import Derived.Test.YtognliaoonkmiaaGreatDoorFX
import Derived.Test.YtognliaoonkmiaaGreatDoorNRM

namespace Go.Proofs.YtognliaoonkmiaaGreatDoor
open Go.RowKit

theorem NumAt.kept {B : Nat} {w w' : World} {v : Value} {p : Bool × Nat × Int} (h : NumAt B w v p) (hb : Below w.heap.size w w') : NumAt B w' v p := by
  obtain ⟨ao, n, c, h0, h1, h2, h3, h4⟩ := h
  exact ⟨ao, n, c, h0, h1, h2, h3, h4.keep hb⟩
theorem NumAt.lows {B B' : Nat} {w : World} {v : Value} {p : Bool × Nat × Int} (h : NumAt B w v p) (hB : B' ≤ B) : NumAt B' w v p := by
  obtain ⟨ao, n, c, h0, h1, h2, h3, h4⟩ := h
  exact ⟨ao, n, c, h0, h1, h2, h3, h4.low hB⟩
theorem numAt_shape {B : Nat} {w : World} {v : Value} {p : Bool × Nat × Int} (h : NumAt B w v p) : ∃ (s : Bool) (a : Option Addr) (n c : Nat) (e : Int), v = numV s a n c e false ∧ Hid (NumAt B w (numV s a n c e false) p) := by
  obtain ⟨ao, n, c, rfl, h⟩ := h
  exact ⟨p.1, ao, n, c, p.2.2, rfl, ⟨ao, n, c, rfl, h⟩⟩
theorem negated_num (B : Nat) (v : Value) (x : Bool × Nat × Int) (w : World) (hX : NumAt B w v x) :
    Calls Tryz.prog 62 #[v] w fun r w' => ∃ v, r = .returned v ∧ NumAt B w' v (negD x) ∧ Below w.heap.size w w' := by
  obtain ⟨ax, nx, kx, rfl, HNx, HZx, hnx, hOx⟩ := hX
  refine (negated_calls x.1 ax nx kx x.2.2 false w).mono ?_
  rintro r w' ⟨rfl, hb⟩
  rw [neg_sign HNx.out]
  exact ⟨_, rfl, ⟨ax, nx, kx, rfl, HNx, HZx, hnx, hOx.keep hb⟩, hb⟩
theorem negD_canon {x : Bool × Nat × Int} (h : CanD x) : CanD (negD x) := by
  rcases h with h | h
  · left; rw [h]; rfl
  · right; exact h
theorem canon_num (s : Bool) (a : Option Addr) (len cap : Nat) (xs : List Int) (e : Int) (w : World) (h : IsW w a len cap xs) (hm : len ≤ 17592186044416) (hT : Tab w) (hr : rightB (val xs) e = true) :
    Calls Tryz.prog 58 #[dyV s a len cap e] w fun r w' => ∃ v, r = .returned v ∧ NumAt w.heap.size w' v (formD s (val xs) e) ∧ Below w.heap.size w w' := by
  have hE := right_exp hr
  refine (canonical_calls s a len cap xs e w h hm hT).mono ?_
  rintro r w' ⟨ao, n, c, e', rfl, HE, HN, HZ, hn, hO, hb⟩
  have h1 := HE.out hE.1 hE.2
  rw [canG_no (rightB_yes hr).1] at h1 HN hO ⊢
  subst h1
  exact ⟨_, rfl, ⟨ao, n, c, rfl, HN, HZ, hn, hO⟩, hb⟩

theorem set4_cell {W : World} {b o r : Nat} {v0 v1 v2 v3 x : Value} (h : W.cell? ⟨b, o, none⟩ = some x) (hne : b ≠ r) : ((((W.setCell ⟨r, 0, none⟩ v0).setCell ⟨r, 1, none⟩ v1).setCell ⟨r, 2, none⟩ v2).setCell ⟨r, 3, none⟩ v3).cell? ⟨b, o, none⟩ = some x := cell_set4 h hne
attribute [local go_sem ↓] Go.wp_at_zero Go.wp_at_succ

set_option maxRecDepth 100000 in
set_option maxHeartbeats 4000000 in
theorem sub1_calls (b1 b2 : Nat) (s : Bool) (a : Option Addr) (len cap : Nat) (xs : List Int) (e : Int) (s' : Bool) (a' : Option Addr) (len' cap' : Nat) (ys : List Int) (e' : Int) (w : World) (h : IsW w a len cap xs) (hm : len ≤ 17592186044416) (h' : IsW w a' len' cap' ys) (hm' : len' ≤ 17592186044416) (hT : Tab w) (hr : rightB (val xs) e = true) (hr' : rightB (val ys) e' = true)
    (k0 : w.cell? ⟨b1, 0, none⟩ = some (.bool s)) (k1 : w.cell? ⟨b1, 1, none⟩ = some (.slice a len cap)) (k2 : w.cell? ⟨b1, 2, none⟩ = some (.int .i64 e))
    (l0 : w.cell? ⟨b2, 0, none⟩ = some (.bool s')) (l1 : w.cell? ⟨b2, 1, none⟩ = some (.slice a' len' cap')) (l2 : w.cell? ⟨b2, 2, none⟩ = some (.int .i64 e')) :
    Calls Tryz.prog 60 #[.pointer (some ⟨b1, 0, none⟩), .pointer (some ⟨b2, 0, none⟩)] w fun r w' => ∃ v, r = .returned v ∧ NumR w.heap.size w' v (sumD (formD s (val xs) e) (negD (formD s' (val ys) e'))) ∧ Below w.heap.size w w' := by
  have HX : Hid _ := fun W g t => canon_num s a len cap xs e W g hm t hr
  have HY : Hid _ := fun W g t => canon_num s' a' len' cap' ys e' W g hm' t hr'
  have HGX : Hid _ := form_fit s (val xs) e hr
  have HGY : Hid _ := form_fit s' (val ys) e' hr'
  have HBX : Hid _ := form_bounds s (val xs) e hr
  have HBY : Hid _ := form_bounds s' (val ys) e' hr'
  have HCX : Hid _ := form_can s (val xs) e
  have HCY : Hid _ := form_can s' (val ys) e'
  have H1 : Hid (IsW w a len cap xs) := h
  have H2 : Hid (IsW w a' len' cap' ys) := h'
  have HT0 : Hid (∀ W, Below w.heap.size w W → Tab W) := fun W hW => hT.kept hW
  have nb1 : b1 ≠ w.heap.size := Nat.ne_of_lt (World.block_lt_of_cell? _ _ k0)
  have nb2 : b2 ≠ w.heap.size := Nat.ne_of_lt (World.block_lt_of_cell? _ _ l0)
  generalize formD s (val xs) e = x at *
  generalize formD s' (val ys) e' = y at *
  clear hr hr' hm hm' h h' hT
  have bw := below_one w (.cells #[.bool false, .slice none 0 0, .int .i64 0, .bool false] 82)
  obtain ⟨m0, m1, m2, m3, f0, f1, f2, f3⟩ := zero_num (w := w) (r := w.heap.size) (W' := (w.alloc (.cells #[.bool false, .slice none 0 0, .int .i64 0, .bool false] 82))) (Below.refl _ _) rfl
  replace k0 := kC bw k0
  replace k1 := kC bw k1
  replace k2 := kC bw k2
  replace l0 := kC bw l0
  replace l1 := kC bw l1
  replace l2 := kC bw l2
  have hs0 : w.heap.size + 1 ≤ (w.alloc (.cells #[.bool false, .slice none 0 0, .int .i64 0, .bool false] 82)).heap.size := by simp
  go_enter Tryz.func60, Tryz.ntmps60
  go_upto_region 1 with fail
  generalize (w.alloc (.cells #[.bool false, .slice none 0 0, .int .i64 0, .bool false] 82)) = w0 at *
  have bd : Below w0.heap.size w0 w0.drew := (Below.refl _ _).drew
  refine wp_region_held (S := fun w' => w'.cell? ⟨b1, 0, none⟩ = some (.bool s) ∧ w'.cell? ⟨b1, 1, none⟩ = some (.slice a len cap) ∧ w'.cell? ⟨b1, 2, none⟩ = some (.int .i64 e) ∧ w'.cell? ⟨b2, 0, none⟩ = some (.bool s') ∧ w'.cell? ⟨b2, 1, none⟩ = some (.slice a' len' cap') ∧ w'.cell? ⟨b2, 2, none⟩ = some (.int .i64 e')) (by kernel_rfl) ?_
  change wpAnyH _ _ _ _ _ _ _ _ (World.drew w0)
  replace k0 := kC bd k0
  replace k1 := kC bd k1
  replace k2 := kC bd k2
  replace l0 := kC bd l0
  replace l1 := kC bd l1
  replace l2 := kC bd l2
  replace f0 := kF bd m0 f0
  replace f1 := kF bd m1 f1
  replace f2 := kF bd m2 f2
  replace f3 := kF bd m3 f3
  replace m0 := kC bd m0
  replace m1 := kC bd m1
  replace m2 := kC bd m2
  replace m3 := kC bd m3
  replace bw := nT bw bd
  replace hs0 := Nat.le_trans hs0 bd.size
  clear bd
  generalize World.drew w0 = wd at *
  refine wpAnyH_take (i := 0) (v := .agg #[.bool s, .slice a len cap, .int .i64 e]) rfl (by kernel_rfl) (by kernel_rfl) (by kernel_rfl) (fun _ _ _ h => h) (Or.inl ⟨by rfl, ?y0⟩) ⟨k0, k1, k2, l0, l1, l2⟩ ?r0
  case y0 => (rintro ww ⟨q0, q1, q2, q3, q4, q5⟩; go_simp)
  try simp only [Act.put]
  refine wpAnyH_take (i := 2) (v := .agg #[.bool s', .slice a' len' cap', .int .i64 e']) rfl (by kernel_rfl) (by kernel_rfl) (by kernel_rfl) (fun _ _ _ h => h) (Or.inl ⟨by rfl, ?y1⟩) ⟨k0, k1, k2, l0, l1, l2⟩ ?r1
  case y1 => (rintro ww ⟨q0, q1, q2, q3, q4, q5⟩; go_simp)
  try simp only [Act.put]
  refine wpAnyH_ready (rs := [1]) (by kernel_rfl) (by simp) ?_
  refine AllReadyH.cons rfl (fun K hK => ?_) AllReadyH.nil
  go_simp
  refine Calls.mono (HX.out _ (H1.out.keep bw) (HT0.out _ bw)) ?_
  rintro r wa ⟨va, rfl, hA, bN⟩
  replace k0 := kC bN k0
  replace k1 := kC bN k1
  replace k2 := kC bN k2
  replace l0 := kC bN l0
  replace l1 := kC bN l1
  replace l2 := kC bN l2
  replace f0 := kF bN m0 f0
  replace f1 := kF bN m1 f1
  replace f2 := kF bN m2 f2
  replace f3 := kF bN m3 f3
  replace m0 := kC bN m0
  replace m1 := kC bN m1
  replace m2 := kC bN m2
  replace m3 := kC bN m3
  obtain ⟨sA, aA, nA, cA, eA, rfl, HA⟩ := numAt_shape (hA.lows hs0)
  clear hA
  refine hK.out _ _ ⟨k0, k1, k2, l0, l1, l2⟩ (fun _ => ?_)
  clear hK K
  replace hs0 := Nat.le_trans hs0 bN.size
  replace bw := nT bw bN
  clear bN
  try simp only [Act.put, List.setIfInBounds_toArray, List.set_cons_zero, List.set_cons_succ]
  refine wpAnyH_ready (rs := [3]) (by kernel_rfl) (by simp) ?_
  refine AllReadyH.cons rfl (fun K hK => ?_) AllReadyH.nil
  go_simp
  refine Calls.mono (HY.out _ (H2.out.keep bw) (HT0.out _ bw)) ?_
  rintro r wb ⟨vb, rfl, hB, bN⟩
  replace k0 := kC bN k0
  replace k1 := kC bN k1
  replace k2 := kC bN k2
  replace l0 := kC bN l0
  replace l1 := kC bN l1
  replace l2 := kC bN l2
  replace f0 := kF bN m0 f0
  replace f1 := kF bN m1 f1
  replace f2 := kF bN m2 f2
  replace f3 := kF bN m3 f3
  replace m0 := kC bN m0
  replace m1 := kC bN m1
  replace m2 := kC bN m2
  replace m3 := kC bN m3
  obtain ⟨sB, aB, nB, cB, eB, rfl, HB⟩ := numAt_shape (hB.lows hs0)
  have HA' : Hid (NumAt (w.heap.size + 1) wb (numV sA aA nA cA eA false) x) := HA.out.kept bN
  clear hB HA
  refine hK.out _ _ ⟨k0, k1, k2, l0, l1, l2⟩ (fun _ => ?_)
  clear hK K
  replace hs0 := Nat.le_trans hs0 bN.size
  replace bw := nT bw bN
  clear bN
  try simp only [Act.put, List.setIfInBounds_toArray, List.set_cons_zero, List.set_cons_succ]
  refine wpAnyH_ready (rs := [4]) (by kernel_rfl) (by simp) ?_
  refine AllReadyH.cons rfl (fun K hK => ?_) AllReadyH.nil
  go_simp
  refine Calls.mono (negated_num (w.heap.size + 1) _ y _ HB.out) ?_
  rintro r wc ⟨vc, rfl, hC, bN⟩
  replace k0 := kC bN k0
  replace k1 := kC bN k1
  replace k2 := kC bN k2
  replace l0 := kC bN l0
  replace l1 := kC bN l1
  replace l2 := kC bN l2
  replace f0 := kF bN m0 f0
  replace f1 := kF bN m1 f1
  replace f2 := kF bN m2 f2
  replace f3 := kF bN m3 f3
  replace m0 := kC bN m0
  replace m1 := kC bN m1
  replace m2 := kC bN m2
  replace m3 := kC bN m3
  obtain ⟨sC, aC, nC, cC, eC, rfl, HC⟩ := numAt_shape hC
  have HA := HA'.out.kept bN
  have HA2 : Hid (NumAt (w.heap.size + 1) wc (numV sA aA nA cA eA false) x) := HA
  clear hC HA HA'
  refine hK.out _ _ ⟨k0, k1, k2, l0, l1, l2⟩ (fun _ => ?_)
  clear hK K
  replace hs0 := Nat.le_trans hs0 bN.size
  replace bw := nT bw bN
  clear bN
  try simp only [Act.put, List.setIfInBounds_toArray, List.set_cons_zero, List.set_cons_succ]
  refine wpAnyH_ready (rs := [5]) (by kernel_rfl) (by simp) ?_
  refine AllReadyH.cons rfl (fun K hK => ?_) AllReadyH.nil
  go_simp
  refine Calls.mono (dplus_calls (w.heap.size + 1) _ _ x (negD y) _ hs0 HA2.out HC.out HGX.out HGY.out HCX.out (negD_canon HCY.out) HBX.out HBY.out (HT0.out _ bw)) ?_
  rintro r wp ⟨vp, rfl, hN, bN⟩
  replace k0 := kC bN k0
  replace k1 := kC bN k1
  replace k2 := kC bN k2
  replace l0 := kC bN l0
  replace l1 := kC bN l1
  replace l2 := kC bN l2
  replace f0 := kF bN m0 f0
  replace f1 := kF bN m1 f1
  replace f2 := kF bN m2 f2
  replace f3 := kF bN m3 f3
  replace m0 := kC bN m0
  replace m1 := kC bN m1
  replace m2 := kC bN m2
  replace m3 := kC bN m3
  obtain ⟨s5, a5, n5, c5, e5, g5, rfl, HNR⟩ := numR_form hN
  clear hN HC HA2
  refine hK.out _ _ ⟨k0, k1, k2, l0, l1, l2⟩ (fun _ => ?_)
  clear hK K
  replace hs0 := Nat.le_trans hs0 bN.size
  replace bw := nT bw bN
  clear bN
  try simp only [Act.put, List.setIfInBounds_toArray, List.set_cons_zero, List.set_cons_succ]
  refine wpAnyH_ready (rs := [6]) (by kernel_rfl) (by simp) ?_
  refine AllReadyH.cons rfl (fun K hK => ?_) AllReadyH.nil
  go_simp
  refine hK.out _ _ ⟨set4_cell k0 nb1, set4_cell k1 nb1, set4_cell k2 nb1, set4_cell l0 nb2, set4_cell l1 nb2, set4_cell l2 nb2⟩ (fun _ => ?_)
  clear hK K
  try simp only [Act.put, List.setIfInBounds_toArray, List.set_cons_zero, List.set_cons_succ]
  refine wpAnyH_done (by kernel_rfl) ?_ _
  go_wp2_with fail
  refine bodyPost_ret (v := numV s5 a5 n5 c5 e5 g5) (by simp [results, Tryz.results60, go_sem, m0, m1, m2, m3]) rfl ⟨_, rfl, ((((HNR.out.far _ _ (by show w.heap.size < _; omega)).far _ _ (by show w.heap.size < _; omega)).far _ _ (by show w.heap.size < _; omega)).far _ _ (by show w.heap.size < _; omega)).low (by omega), ?_⟩
  exact (((bw.setCell (Nat.le_refl _) _).setCell (Nat.le_refl _) _).setCell (Nat.le_refl _) _).setCell (Nat.le_refl _) _

set_option maxRecDepth 100000 in
set_option maxHeartbeats 4000000 in
theorem dsub_not (s : Bool) (a : Option Addr) (len cap : Nat) (xs : List Int) (e : Int) (s' : Bool) (a' : Option Addr) (len' cap' : Nat) (ys : List Int) (e' : Int) (w : World) (h : IsW w a len cap xs) (hm : len ≤ 17592186044416) (h' : IsW w a' len' cap' ys) (hm' : len' ≤ 17592186044416) (hr : (rightB (val xs) e && rightB (val ys) e') = false) :
    Calls Tryz.prog 27 #[dyV s a len cap e, dyV s' a' len' cap' e'] w fun r w' => r = .returned (.tuple #[dyV false none 0 0 0, .int .i64 2]) ∧ Below w.heap.size w w' := by
  have hmf : ∀ (fn : Fn) (first cap : Array Value) (w : World), (Instr.makeFunc fn first cap).run Tryz.prog w = .ok (.func fn first cap) w := fun _ _ _ _ => rfl
  have HRB : Hid ((rightB (val xs) e && rightB (val ys) e') = false) := hr
  clear hr
  go_enter Tryz.func27, Tryz.ntmps27
  go_wp2_with fail
  have hb0 : Below w.heap.size w ((((w.alloc (.cells #[.bool s, .slice a len cap, .int .i64 e] 25)).alloc (.cells #[.bool s', .slice a' len' cap', .int .i64 e'] 25)).alloc (.cells #[.bool false, .slice none 0 0, .int .i64 0] 25)).alloc (.cells #[.bool s, .slice a len cap, .int .i64 e, .bool s', .slice a' len' cap', .int .i64 e'] 25)) := by repeat (first | exact Below.refl _ _ | refine Below.alloc ?_ (by simp; try omega) _)
  refine Calls.mono (made_not _ _ _ (fun W hW => HRB.out ▸ right2_calls (w.heap.size + 1 + 1 + 1) s a len cap xs e s' a' len' cap' ys e' W (h.keep (nT hb0 hW)) hm (h'.keep (nT hb0 hW)) hm' (kC hW (by go_simp)) (kC hW (by go_simp)) (kC hW (by go_simp)) (kC hW (by go_simp)) (kC hW (by go_simp)) (kC hW (by go_simp)))) ?_
  rintro r w2 ⟨rfl, hbM⟩
  have hb2 := nT hb0 hbM
  obtain ⟨m0, m1, m2, f0, f1, f2⟩ := zero_dy (r := w.heap.size + 1 + 1) (w := (w.alloc (.cells #[.bool s, .slice a len cap, .int .i64 e] 25)).alloc (.cells #[.bool s', .slice a' len' cap', .int .i64 e'] 25)) (W' := w2) (nT (below_one _ _) hbM) (by simp)
  go_wp2_with fail
  refine bodyPost_ret (v := .tuple #[dyV false none 0 0 0, .int .i64 2]) (by simp [results, Tryz.results27, go_sem, m0, m1, m2]) rfl ⟨rfl, ?_⟩
  exact ((hb2.setCell (by show w.heap.size ≤ w.heap.size + 1 + 1; omega) _).setCell (by show w.heap.size ≤ w.heap.size + 1 + 1; omega) _).setCell (by show w.heap.size ≤ w.heap.size + 1 + 1; omega) _

set_option maxRecDepth 100000 in
set_option maxHeartbeats 4000000 in
theorem dsub_yes (s : Bool) (a : Option Addr) (len cap : Nat) (xs : List Int) (e : Int) (s' : Bool) (a' : Option Addr) (len' cap' : Nat) (ys : List Int) (e' : Int) (w : World) (h : IsW w a len cap xs) (hm : len ≤ 17592186044416) (h' : IsW w a' len' cap' ys) (hm' : len' ≤ 17592186044416) (hT : Tab w) (hr : rightB (val xs) e = true) (hr' : rightB (val ys) e' = true) :
    Calls Tryz.prog 27 #[dyV s a len cap e, dyV s' a' len' cap' e'] w fun r w' => ∃ v', r = .returned (.tuple #[v', .int .i64 (roomE (sumD (formD s (val xs) e) (negD (formD s' (val ys) e'))))]) ∧ DyAt w.heap.size w' v' (roomP (sumD (formD s (val xs) e) (negD (formD s' (val ys) e')))) ∧ Below w.heap.size w w' := by
  have hmf : ∀ (fn : Fn) (first cap : Array Value) (w : World), (Instr.makeFunc fn first cap).run Tryz.prog w = .ok (.func fn first cap) w := fun _ _ _ _ => rfl
  have HRB : Hid ((rightB (val xs) e && rightB (val ys) e') = true) := by rw [Hid, hr, hr']; rfl
  have HR1 : Hid (rightB (val xs) e = true) := hr
  have HR2 : Hid (rightB (val ys) e' = true) := hr'
  clear hr hr'
  go_enter Tryz.func27, Tryz.ntmps27
  go_wp2_with fail
  have hb0 : Below w.heap.size w ((((w.alloc (.cells #[.bool s, .slice a len cap, .int .i64 e] 25)).alloc (.cells #[.bool s', .slice a' len' cap', .int .i64 e'] 25)).alloc (.cells #[.bool false, .slice none 0 0, .int .i64 0] 25)).alloc (.cells #[.bool s, .slice a len cap, .int .i64 e, .bool s', .slice a' len' cap', .int .i64 e'] 25)) := by repeat (first | exact Below.refl _ _ | refine Below.alloc ?_ (by simp; try omega) _)
  refine Calls.mono (made_Sub w.heap.size (w.heap.size + 1) 0 (sumD (formD s (val xs) e) (negD (formD s' (val ys) e'))) _ _ (fun W hW => HRB.out ▸ right2_calls (w.heap.size + 1 + 1 + 1) s a len cap xs e s' a' len' cap' ys e' W (h.keep (nT hb0 hW)) hm (h'.keep (nT hb0 hW)) hm' (kC hW (by go_simp)) (kC hW (by go_simp)) (kC hW (by go_simp)) (kC hW (by go_simp)) (kC hW (by go_simp)) (kC hW (by go_simp)))
    (fun W hW => Calls.mono (sub1_calls w.heap.size (w.heap.size + 1) s a len cap xs e s' a' len' cap' ys e' W (h.keep (nT hb0 hW)) hm (h'.keep (nT hb0 hW)) hm' (hT.kept (nT hb0 hW)) HR1.out HR2.out (kC hW (by go_simp)) (kC hW (by go_simp)) (kC hW (by go_simp)) (kC hW (by go_simp)) (kC hW (by go_simp)) (kC hW (by go_simp))) (by
      rintro r w5 ⟨v, rfl, hN, hb5⟩
      exact ⟨v, rfl, hN.low (Nat.zero_le _), hb5⟩))) ?_
  rintro r w2 ⟨v', rfl, ⟨a2, n2, c2, rfl, HN2, hn2, hO2⟩, hbM⟩
  have hb2 := nT hb0 hbM
  obtain ⟨m0, m1, m2, f0, f1, f2⟩ := zero_dy (r := w.heap.size + 1 + 1) (w := (w.alloc (.cells #[.bool s, .slice a len cap, .int .i64 e] 25)).alloc (.cells #[.bool s', .slice a' len' cap', .int .i64 e'] 25)) (W' := w2) (nT (below_one _ _) hbM) (by simp)
  go_wp2_with fail
  refine bodyPost_ret (v := .tuple #[dyV (roomP (sumD (formD s (val xs) e) (negD (formD s' (val ys) e')))).1 a2 n2 c2 (roomP (sumD (formD s (val xs) e) (negD (formD s' (val ys) e')))).2.2, .int .i64 (roomE (sumD (formD s (val xs) e) (negD (formD s' (val ys) e'))))]) (by simp [results, Tryz.results27, go_sem, m0, m1, m2]) rfl ⟨_, rfl, ⟨a2, n2, c2, rfl, HN2, hn2, (((hO2.far _ _ (by show w.heap.size + 1 + 1 < _; simp)).far _ _ (by show w.heap.size + 1 + 1 < _; simp)).far _ _ (by show w.heap.size + 1 + 1 < _; simp)).low (by simp; omega)⟩, ?_⟩
  exact ((hb2.setCell (by show w.heap.size ≤ w.heap.size + 1 + 1; omega) _).setCell (by show w.heap.size ≤ w.heap.size + 1 + 1; omega) _).setCell (by show w.heap.size ≤ w.heap.size + 1 + 1; omega) _

end Go.Proofs.YtognliaoonkmiaaGreatDoor

namespace Go.Proofs.YtognliaoonkmiaaGreatDoor
open Go.RowKit

attribute [local go_sem ↓] Go.wp_at_zero Go.wp_at_succ
def sgnQ (s : Bool) (m : Nat) : Int := if m = 0 then 0 else if s = true then -1 else 1
theorem sgnQ_form (s : Bool) (m : Nat) (e : Int) : sgnD (formD s m e) = sgnQ s m := by
  unfold sgnD sgnQ
  by_cases h0 : m = 0
  · rw [h0, form_zero]; rfl
  · have h1 := (odd_part h0).1
    rw [form_pos s h0, if_neg h0, if_neg (fun q => by have q' : m / 2 ^ tz m = 0 := q; rw [q'] at h1; exact absurd h1 (by decide))]
theorem blen_odd {m : Nat} (h0 : m ≠ 0) : blen m = tz m + blen (m / 2 ^ tz m) := by
  have h1 := (odd_part h0).1
  have h2 := (odd_part h0).2
  have h3 := blen_mul (m / 2 ^ tz m) (tz m) (fun q => by rw [q] at h1; exact absurd h1 (by decide))
  rw [h2] at h3
  exact h3

set_option maxRecDepth 100000 in
set_option maxHeartbeats 2000000 in
theorem qSign_calls (s : Bool) (a : Option Addr) (len cap : Nat) (xs : List Int) (e : Int) (w : World) (h : IsW w a len cap xs) (hm : len ≤ 17592186044000) :
    Calls Tryz.prog 64 #[dyV s a len cap e] w fun r w' => r = .returned (.int .i64 (sgnQ s (val xs))) ∧ Below w.heap.size w w' := by
  have bw : Below w.heap.size w (w.alloc (.cells #[.bool s, .slice a len cap, .int .i64 e] 25)) := below_one _ _
  have HZ : Hid _ := qZero_calls s a len cap xs e _ (h.keep bw) (by omega)
  unfold sgnQ
  obtain ⟨k0, k1, k2⟩ := fX3 w s a len cap e
  by_cases h0 : val xs = 0
  · rw [decide_eq_true h0] at HZ
    rw [if_pos h0]
    clear h0 hm h
    go_enter Tryz.func64, Tryz.ntmps64
    go_wp2_with fail
    refine Calls.mono HZ.out ?_
    rintro r w1 ⟨rfl, b1⟩
    replace bw := nT bw b1
    clear b1
    go_wp2_with fail
    go_ret
    exact ⟨rfl, bw⟩
  · rw [decide_eq_false h0] at HZ
    rw [if_neg h0]
    clear h0 hm h
    cases s
    all_goals
      go_enter Tryz.func64, Tryz.ntmps64
      go_wp2_with fail
      refine Calls.mono HZ.out ?_
      rintro r w1 ⟨rfl, b1⟩
      replace bw := nT bw b1
      replace k0 := kC b1 k0
      clear b1
      go_wp2_with fail
      go_ret
      exact ⟨rfl, bw⟩

set_option maxRecDepth 100000 in
set_option maxHeartbeats 2000000 in
theorem qTop_calls (s : Bool) (a : Option Addr) (len cap : Nat) (xs : List Int) (e : Int) (w : World) (h : IsW w a len cap xs) (hm : len ≤ 17592186044000) (he : -4611686018427387904 ≤ e ∧ e ≤ 4611686018427387904) (hb : blen (val xs) ≤ 1000000000) :
    Calls Tryz.prog 65 #[dyV s a len cap e] w fun r w' => r = .returned (.int .i64 (e + (blen (val xs) : Int) - 1)) ∧ Below w.heap.size w w' := by
  have bw : Below w.heap.size w (w.alloc (.cells #[.bool s, .slice a len cap, .int .i64 e] 25)) := below_one _ _
  have HL : Hid _ := fun W g => nLen_calls a len cap xs W g (by omega)
  have H1 : Hid (IsW w a len cap xs) := h
  have hw1 : IntKind.i64.wrap (e + (blen (val xs) : Int)) = e + (blen (val xs) : Int) := by rw [IntKind.wrap_i64]; omega
  have hw2 : IntKind.i64.wrap (e + (blen (val xs) : Int) - 1) = e + (blen (val xs) : Int) - 1 := by rw [IntKind.wrap_i64]; omega
  generalize (blen (val xs) : Int) = bl at *
  obtain ⟨k0, k1, k2⟩ := fX3 w s a len cap e
  clear h hm he hb
  go_enter Tryz.func65, Tryz.ntmps65
  go_upto_region 1 with fail
  generalize (w.alloc (.cells #[.bool s, .slice a len cap, .int .i64 e] 25)) = w0 at *
  have bd : Below w0.heap.size w0 w0.drew := (Below.refl _ _).drew
  refine wp_region_held (S := fun w' => w'.cell? ⟨w.heap.size, 0, none⟩ = some (.bool s) ∧ w'.cell? ⟨w.heap.size, 1, none⟩ = some (.slice a len cap) ∧ w'.cell? ⟨w.heap.size, 2, none⟩ = some (.int .i64 e)) (by kernel_rfl) ?_
  change wpAnyH _ _ _ _ _ _ _ _ (World.drew w0)
  replace k0 := kC bd k0
  replace k1 := kC bd k1
  replace k2 := kC bd k2
  replace bw := nT bw bd
  clear bd
  generalize World.drew w0 = wd1 at *
  refine wpAnyH_take (i := 0) (v := ?vt1_0) rfl (by kernel_rfl) (by kernel_rfl) (by kernel_rfl) (fun _ _ _ h => h) (Or.inl ⟨by rfl, ?yt1_0⟩) ⟨k0, k1, k2⟩ ?rt1_0
  case yt1_0 => (rintro ww ⟨q0, q1, q2⟩; go_simp; try with_reducible rfl)
  try simp only [Act.put]
  refine wpAnyH_take (i := 1) (v := ?vt1_1) rfl (by kernel_rfl) (by kernel_rfl) (by kernel_rfl) (fun _ _ _ h => h) (Or.inl ⟨by rfl, ?yt1_1⟩) ⟨k0, k1, k2⟩ ?rt1_1
  case yt1_1 => (rintro ww ⟨q0, q1, q2⟩; go_simp; try with_reducible rfl)
  try simp only [Act.put]
  refine wpAnyH_take (i := 2) (v := ?vt1_2) rfl (by kernel_rfl) (by kernel_rfl) (by kernel_rfl) (fun _ _ _ h => h) (Or.inl ⟨by rfl, ?yt1_2⟩) ⟨k0, k1, k2⟩ ?rt1_2
  case yt1_2 => (rintro ww ⟨q0, q1, q2⟩; go_simp; try with_reducible rfl)
  try simp only [Act.put]
  refine wpAnyH_take (i := 3) (v := ?vt1_3) rfl (by kernel_rfl) (by kernel_rfl) (by kernel_rfl) (fun _ _ _ h => h) (Or.inl ⟨by rfl, ?yt1_3⟩) ⟨k0, k1, k2⟩ ?rt1_3
  case yt1_3 => (rintro ww ⟨q0, q1, q2⟩; go_simp; try with_reducible rfl)
  try simp only [Act.put]
  refine wpAnyH_ready (rs := [4]) (by kernel_rfl) (by simp) ?_
  refine AllReadyH.cons rfl (fun K hK => ?_) AllReadyH.nil
  go_simp
  refine Calls.mono (HL.out _ (H1.out.keep bw)) ?_
  rintro r w1 ⟨rfl, bN⟩
  replace k0 := kC bN k0
  replace k1 := kC bN k1
  replace k2 := kC bN k2
  refine hK.out _ _ ⟨k0, k1, k2⟩ (fun _ => ?_)
  clear hK K
  replace bw := nT bw bN
  clear bN
  try simp only [Act.put, List.setIfInBounds_toArray, List.set_cons_zero, List.set_cons_succ]
  refine wpAnyH_ready (rs := [5]) (by kernel_rfl) (by simp) ?_
  refine AllReadyH.cons rfl (fun K hK => ?_) AllReadyH.nil
  go_simp
  refine hK.out _ _ ⟨k0, k1, k2⟩ (fun _ => ?_)
  clear hK K
  try simp only [Act.put, List.setIfInBounds_toArray, List.set_cons_zero, List.set_cons_succ]
  refine wpAnyH_ready (rs := [6]) (by kernel_rfl) (by simp) ?_
  refine AllReadyH.cons rfl (fun K hK => ?_) AllReadyH.nil
  go_simp
  refine hK.out _ _ ⟨k0, k1, k2⟩ (fun _ => ?_)
  clear hK K
  try simp only [Act.put, List.setIfInBounds_toArray, List.set_cons_zero, List.set_cons_succ]
  refine wpAnyH_ready (rs := [7]) (by kernel_rfl) (by simp) ?_
  refine AllReadyH.cons rfl (fun K hK => ?_) AllReadyH.nil
  go_simp
  refine hK.out _ _ ⟨k0, k1, k2⟩ (fun _ => ?_)
  clear hK K
  try simp only [Act.put, List.setIfInBounds_toArray, List.set_cons_zero, List.set_cons_succ]
  refine wpAnyH_done (by kernel_rfl) ?_ _
  go_wp2_with fail
  go_ret
  exact ⟨rfl, bw⟩

end Go.Proofs.YtognliaoonkmiaaGreatDoor

namespace Go.Proofs.YtognliaoonkmiaaGreatDoor
open Go.RowKit

attribute [local go_sem ↓] Go.wp_at_zero Go.wp_at_succ

end Go.Proofs.YtognliaoonkmiaaGreatDoor

namespace Go.Proofs.YtognliaoonkmiaaGreatDoor
open Go.RowKit

def twE (b : Bool) (p : Bool × Nat × Int) : Int := if b = true then roomE p else 2
def twP (b : Bool) (p : Bool × Nat × Int) : Bool × Nat × Int := if b = true then roomP p else (false, 0, 0)
theorem form_turn (t : Bool) (m : Nat) (f : Int) : formD (!t) m f = negD (formD t m f) := by
  by_cases h0 : m = 0
  · rw [h0, form_zero, form_zero]; rfl
  · rw [form_pos _ h0, form_pos _ h0]
    have h1 := (odd_part h0).1
    have h2 : ¬ m / 2 ^ tz m = 0 := fun q => by rw [q] at h1; exact absurd h1 (by decide)
    unfold negD
    simp [h2]
theorem sumlen (x y : Bool × Nat × Int) (hx : blen x.2.1 ≤ 10000000) (hy : blen y.2.1 ≤ 10000000) (ex : -20000000 ≤ x.2.2 ∧ x.2.2 ≤ 20000000) (ey : -20000000 ≤ y.2.2 ∧ y.2.2 ≤ 20000000) : (wordsOf (sumD x y).2.1).length ≤ 2000001 := by
  have kx : (wordsOf x.2.1).length ≤ 200000 := (words_len2 _ _).2 (by omega)
  have ky : (wordsOf y.2.1).length ≤ 200000 := (words_len2 _ _).2 (by omega)
  by_cases h1 : x.2.1 = 0
  · have : sumD x y = y := by unfold sumD; rw [if_pos h1]
    rw [this]; omega
  · by_cases h2 : y.2.1 = 0
    · have : sumD x y = x := by unfold sumD; rw [if_neg h1, if_pos h2]
      rw [this]; omega
    · obtain ⟨ee, hee⟩ : ∃ ee : Int, min x.2.2 y.2.2 = ee := ⟨_, rfl⟩
      obtain ⟨i, hi⟩ : ∃ i : Nat, x.2.2 - ee = (i : Int) := ⟨(x.2.2 - ee).toNat, by omega⟩
      obtain ⟨j, hj⟩ : ∃ j : Nat, y.2.2 - ee = (j : Int) := ⟨(y.2.2 - ee).toNat, by omega⟩
      have hib : i ≤ 50000000 := by omega
      have hjb : j ≤ 50000000 := by omega
      have hMb : blen (x.2.1 * 2 ^ i) ≤ 60000000 := by rw [blen_mul _ _ h1]; omega
      have hNb : blen (y.2.1 * 2 ^ j) ≤ 60000000 := by rw [blen_mul _ _ h2]; omega
      have hMl : (wordsOf (x.2.1 * 2 ^ i)).length ≤ 1000000 := (words_len2 _ _).2 (by omega)
      have hNl : (wordsOf (y.2.1 * 2 ^ j)).length ≤ 1000000 := (words_len2 _ _).2 (by omega)
      have key : (sumD x y).2.1 ≤ x.2.1 * 2 ^ i + y.2.1 * 2 ^ j := by
        rw [plus_q x y h1 h2 ee hee i hi j hj]
        split
        · exact form_amount_le _ _ _
        · split
          · exact Nat.le_trans (form_amount_le _ _ _) (by omega)
          · exact Nat.le_trans (form_amount_le _ _ _) (by omega)
      have h3 := words_len_mono key
      have h4 := sum_wordsQ (x.2.1 * 2 ^ i) (y.2.1 * 2 ^ j)
      omega
theorem right_blen {m : Nat} {e : Int} (h : rightB m e = true) : blen m ≤ 65536 := (great_not _).1 (rightB_yes h).1
theorem form_blen (s : Bool) {m : Nat} {e : Int} (h : rightB m e = true) : blen (formD s m e).2.1 ≤ 65536 := Nat.le_trans (blen_mono (form_amount_le _ _ _)) (right_blen h)
theorem form_rng (s : Bool) {m : Nat} {e : Int} (h : rightB m e = true) : -20000000 ≤ (formD s m e).2.2 ∧ (formD s m e).2.2 ≤ 20000000 := by
  have h1 := (rightB_yes h).2
  have h2 := right_blen h
  by_cases h0 : m = 0
  · rw [h0, form_zero]; exact ⟨by decide, by decide⟩
  · rw [form_pos s h0]
    have := tz_le_blen m
    show _ ≤ e + (tz m : Int) ∧ e + (tz m : Int) ≤ _
    omega

theorem pAdd_calls (s : Bool) (a : Option Addr) (len cap : Nat) (xs : List Int) (e : Int) (t : Bool) (b : Option Addr) (len' cap' : Nat) (ys : List Int) (f : Int) (w : World) (h : IsW w a len cap xs) (hm : len ≤ 17592186044000) (h' : IsW w b len' cap' ys) (hm' : len' ≤ 17592186044000) (hT : Tab w) :
    Calls Tryz.prog 28 #[dyV s a len cap e, dyV t b len' cap' f] w fun r w' => ∃ v', r = .returned (.tuple #[v', .int .i64 (twE (rightB (val xs) e && rightB (val ys) f) (sumD (formD s (val xs) e) (formD t (val ys) f)))]) ∧ DyAt w.heap.size w' v' (twP (rightB (val xs) e && rightB (val ys) f) (sumD (formD s (val xs) e) (formD t (val ys) f))) ∧ Below w.heap.size w w' := by
  cases hr : (rightB (val xs) e && rightB (val ys) f) with
  | false =>
    refine (dadd_not s a len cap xs e t b len' cap' ys f w h (by omega) h' (by omega) hr).mono ?_
    rintro r w' ⟨rfl, hb⟩
    exact ⟨_, rfl, dyAt_zero _ _, hb⟩
  | true =>
    obtain ⟨r1, r2⟩ := Bool.and_eq_true_iff.1 hr
    exact dadd_yes s a len cap xs e t b len' cap' ys f w h (by omega) h' (by omega) hT r1 r2

theorem pSub_calls (s : Bool) (a : Option Addr) (len cap : Nat) (xs : List Int) (e : Int) (t : Bool) (b : Option Addr) (len' cap' : Nat) (ys : List Int) (f : Int) (w : World) (h : IsW w a len cap xs) (hm : len ≤ 17592186044000) (h' : IsW w b len' cap' ys) (hm' : len' ≤ 17592186044000) (hT : Tab w) :
    Calls Tryz.prog 27 #[dyV s a len cap e, dyV t b len' cap' f] w fun r w' => ∃ v', r = .returned (.tuple #[v', .int .i64 (twE (rightB (val xs) e && rightB (val ys) f) (sumD (formD s (val xs) e) (negD (formD t (val ys) f))))]) ∧ DyAt w.heap.size w' v' (twP (rightB (val xs) e && rightB (val ys) f) (sumD (formD s (val xs) e) (negD (formD t (val ys) f)))) ∧ Below w.heap.size w w' := by
  cases hr : (rightB (val xs) e && rightB (val ys) f) with
  | false =>
    refine (dsub_not s a len cap xs e t b len' cap' ys f w h (by omega) h' (by omega) hr).mono ?_
    rintro r w' ⟨rfl, hb⟩
    exact ⟨_, rfl, dyAt_zero _ _, hb⟩
  | true =>
    obtain ⟨r1, r2⟩ := Bool.and_eq_true_iff.1 hr
    exact dsub_yes s a len cap xs e t b len' cap' ys f w h (by omega) h' (by omega) hT r1 r2

end Go.Proofs.YtognliaoonkmiaaGreatDoor

namespace Go.Proofs.YtognliaoonkmiaaGreatDoor
open Go.RowKit

attribute [local go_sem ↓] Go.wp_at_zero Go.wp_at_succ

set_option maxRecDepth 100000 in
set_option maxHeartbeats 2000000 in
theorem qorder_lt (s : Bool) (a : Option Addr) (len cap : Nat) (xs : List Int) (e : Int) (t : Bool) (b : Option Addr) (len' cap' : Nat) (ys : List Int) (f : Int) (w : World) (h : IsW w a len cap xs) (hm : len ≤ 17592186044000) (h' : IsW w b len' cap' ys) (hm' : len' ≤ 17592186044000) (hs : sgnQ s (val xs) < sgnQ t (val ys)) :
    Calls Tryz.prog 29 #[dyV s a len cap e, dyV t b len' cap' f] w fun r w' => r = .returned (.int .i64 (-1)) ∧ Below w.heap.size w w' := by
  have bw : Below w.heap.size w ((w.alloc (.cells #[.bool s, .slice a len cap, .int .i64 e] 25)).alloc (.cells #[.bool t, .slice b len' cap', .int .i64 f] 25)) := by repeat (first | exact Below.refl _ _ | refine bl_alloc ?_ _)
  have HS1 : Hid _ := fun W g => qSign_calls s a len cap xs e W g hm
  have HS2 : Hid _ := fun W g => qSign_calls t b len' cap' ys f W g hm'
  have H1 : Hid (IsW w a len cap xs) := h
  have H2 : Hid (IsW w b len' cap' ys) := h'
  generalize sgnQ s (val xs) = sg at *
  generalize sgnQ t (val ys) = tg at *
  obtain ⟨k0, k1, k2, k3, k4, k5⟩ := fX4 w s a len cap e t b len' cap' f
  clear h h' hm hm'
  go_enter Tryz.func29, Tryz.ntmps29
  go_upto_region 1 with fail
  generalize ((w.alloc (.cells #[.bool s, .slice a len cap, .int .i64 e] 25)).alloc (.cells #[.bool t, .slice b len' cap', .int .i64 f] 25)) = w0 at *
  have bd : Below w0.heap.size w0 w0.drew := (Below.refl _ _).drew
  refine wp_region_held (S := fun w' => w'.cell? ⟨w.heap.size, 0, none⟩ = some (.bool s) ∧ w'.cell? ⟨w.heap.size, 1, none⟩ = some (.slice a len cap) ∧ w'.cell? ⟨w.heap.size, 2, none⟩ = some (.int .i64 e) ∧ w'.cell? ⟨w.heap.size + 1, 0, none⟩ = some (.bool t) ∧ w'.cell? ⟨w.heap.size + 1, 1, none⟩ = some (.slice b len' cap') ∧ w'.cell? ⟨w.heap.size + 1, 2, none⟩ = some (.int .i64 f)) (by kernel_rfl) ?_
  change wpAnyH _ _ _ _ _ _ _ _ (World.drew w0)
  replace k0 := kC bd k0
  replace k1 := kC bd k1
  replace k2 := kC bd k2
  replace k3 := kC bd k3
  replace k4 := kC bd k4
  replace k5 := kC bd k5
  replace bw := nT bw bd
  clear bd
  generalize World.drew w0 = wd3 at *
  refine wpAnyH_take (i := 0) (v := ?vt3_0) rfl (by kernel_rfl) (by kernel_rfl) (by kernel_rfl) (fun _ _ _ h => h) (Or.inl ⟨by rfl, ?yt3_0⟩) ⟨k0, k1, k2, k3, k4, k5⟩ ?rt3_0
  case yt3_0 => (rintro ww ⟨q0, q1, q2, q3, q4, q5⟩; go_simp; try with_reducible rfl)
  try simp only [Act.put]
  refine wpAnyH_take (i := 2) (v := ?vt3_2) rfl (by kernel_rfl) (by kernel_rfl) (by kernel_rfl) (fun _ _ _ h => h) (Or.inl ⟨by rfl, ?yt3_2⟩) ⟨k0, k1, k2, k3, k4, k5⟩ ?rt3_2
  case yt3_2 => (rintro ww ⟨q0, q1, q2, q3, q4, q5⟩; go_simp; try with_reducible rfl)
  try simp only [Act.put]
  refine wpAnyH_ready (rs := [1]) (by kernel_rfl) (by simp) ?_
  refine AllReadyH.cons rfl (fun K hK => ?_) AllReadyH.nil
  go_simp
  refine Calls.mono (HS1.out _ (H1.out.keep bw)) ?_
  rintro r w1 ⟨rfl, bN⟩
  replace k0 := kC bN k0
  replace k1 := kC bN k1
  replace k2 := kC bN k2
  replace k3 := kC bN k3
  replace k4 := kC bN k4
  replace k5 := kC bN k5
  refine hK.out _ _ ⟨k0, k1, k2, k3, k4, k5⟩ (fun _ => ?_)
  clear hK K
  replace bw := nT bw bN
  clear bN
  try simp only [Act.put, List.setIfInBounds_toArray, List.set_cons_zero, List.set_cons_succ]
  refine wpAnyH_ready (rs := [3]) (by kernel_rfl) (by simp) ?_
  refine AllReadyH.cons rfl (fun K hK => ?_) AllReadyH.nil
  go_simp
  refine Calls.mono (HS2.out _ (H2.out.keep bw)) ?_
  rintro r w2 ⟨rfl, bN⟩
  replace k0 := kC bN k0
  replace k1 := kC bN k1
  replace k2 := kC bN k2
  replace k3 := kC bN k3
  replace k4 := kC bN k4
  replace k5 := kC bN k5
  refine hK.out _ _ ⟨k0, k1, k2, k3, k4, k5⟩ (fun _ => ?_)
  clear hK K
  replace bw := nT bw bN
  clear bN
  try simp only [Act.put, List.setIfInBounds_toArray, List.set_cons_zero, List.set_cons_succ]
  refine wpAnyH_ready (rs := [4]) (by kernel_rfl) (by simp) ?_
  refine AllReadyH.cons rfl (fun K hK => ?_) AllReadyH.nil
  go_simp
  refine hK.out _ _ ⟨k0, k1, k2, k3, k4, k5⟩ (fun _ => ?_)
  clear hK K
  try simp only [Act.put, List.setIfInBounds_toArray, List.set_cons_zero, List.set_cons_succ]
  refine wpAnyH_ready (rs := [5]) (by kernel_rfl) (by simp) ?_
  refine AllReadyH.cons rfl (fun K hK => ?_) AllReadyH.nil
  go_simp
  refine hK.out _ _ ⟨k0, k1, k2, k3, k4, k5⟩ (fun _ => ?_)
  clear hK K
  try simp only [Act.put, List.setIfInBounds_toArray, List.set_cons_zero, List.set_cons_succ]
  refine wpAnyH_done (by kernel_rfl) ?_ _
  go_wp2_with fail
  go_ret
  exact ⟨rfl, bw⟩

set_option maxRecDepth 100000 in
set_option maxHeartbeats 2000000 in
theorem qorder_gt (s : Bool) (a : Option Addr) (len cap : Nat) (xs : List Int) (e : Int) (t : Bool) (b : Option Addr) (len' cap' : Nat) (ys : List Int) (f : Int) (w : World) (h : IsW w a len cap xs) (hm : len ≤ 17592186044000) (h' : IsW w b len' cap' ys) (hm' : len' ≤ 17592186044000) (hs : sgnQ t (val ys) < sgnQ s (val xs)) :
    Calls Tryz.prog 29 #[dyV s a len cap e, dyV t b len' cap' f] w fun r w' => r = .returned (.int .i64 (1)) ∧ Below w.heap.size w w' := by
  have bw : Below w.heap.size w ((w.alloc (.cells #[.bool s, .slice a len cap, .int .i64 e] 25)).alloc (.cells #[.bool t, .slice b len' cap', .int .i64 f] 25)) := by repeat (first | exact Below.refl _ _ | refine bl_alloc ?_ _)
  have HS1 : Hid _ := fun W g => qSign_calls s a len cap xs e W g hm
  have HS2 : Hid _ := fun W g => qSign_calls t b len' cap' ys f W g hm'
  have H1 : Hid (IsW w a len cap xs) := h
  have H2 : Hid (IsW w b len' cap' ys) := h'
  generalize sgnQ s (val xs) = sg at *
  generalize sgnQ t (val ys) = tg at *
  have hns : ¬ sg < tg := by omega
  obtain ⟨k0, k1, k2, k3, k4, k5⟩ := fX4 w s a len cap e t b len' cap' f
  clear h h' hm hm'
  go_enter Tryz.func29, Tryz.ntmps29
  go_upto_region 1 with fail
  generalize ((w.alloc (.cells #[.bool s, .slice a len cap, .int .i64 e] 25)).alloc (.cells #[.bool t, .slice b len' cap', .int .i64 f] 25)) = w0 at *
  have bd : Below w0.heap.size w0 w0.drew := (Below.refl _ _).drew
  refine wp_region_held (S := fun w' => w'.cell? ⟨w.heap.size, 0, none⟩ = some (.bool s) ∧ w'.cell? ⟨w.heap.size, 1, none⟩ = some (.slice a len cap) ∧ w'.cell? ⟨w.heap.size, 2, none⟩ = some (.int .i64 e) ∧ w'.cell? ⟨w.heap.size + 1, 0, none⟩ = some (.bool t) ∧ w'.cell? ⟨w.heap.size + 1, 1, none⟩ = some (.slice b len' cap') ∧ w'.cell? ⟨w.heap.size + 1, 2, none⟩ = some (.int .i64 f)) (by kernel_rfl) ?_
  change wpAnyH _ _ _ _ _ _ _ _ (World.drew w0)
  replace k0 := kC bd k0
  replace k1 := kC bd k1
  replace k2 := kC bd k2
  replace k3 := kC bd k3
  replace k4 := kC bd k4
  replace k5 := kC bd k5
  replace bw := nT bw bd
  clear bd
  generalize World.drew w0 = wd4 at *
  refine wpAnyH_take (i := 0) (v := ?vt4_0) rfl (by kernel_rfl) (by kernel_rfl) (by kernel_rfl) (fun _ _ _ h => h) (Or.inl ⟨by rfl, ?yt4_0⟩) ⟨k0, k1, k2, k3, k4, k5⟩ ?rt4_0
  case yt4_0 => (rintro ww ⟨q0, q1, q2, q3, q4, q5⟩; go_simp; try with_reducible rfl)
  try simp only [Act.put]
  refine wpAnyH_take (i := 2) (v := ?vt4_2) rfl (by kernel_rfl) (by kernel_rfl) (by kernel_rfl) (fun _ _ _ h => h) (Or.inl ⟨by rfl, ?yt4_2⟩) ⟨k0, k1, k2, k3, k4, k5⟩ ?rt4_2
  case yt4_2 => (rintro ww ⟨q0, q1, q2, q3, q4, q5⟩; go_simp; try with_reducible rfl)
  try simp only [Act.put]
  refine wpAnyH_ready (rs := [1]) (by kernel_rfl) (by simp) ?_
  refine AllReadyH.cons rfl (fun K hK => ?_) AllReadyH.nil
  go_simp
  refine Calls.mono (HS1.out _ (H1.out.keep bw)) ?_
  rintro r w1 ⟨rfl, bN⟩
  replace k0 := kC bN k0
  replace k1 := kC bN k1
  replace k2 := kC bN k2
  replace k3 := kC bN k3
  replace k4 := kC bN k4
  replace k5 := kC bN k5
  refine hK.out _ _ ⟨k0, k1, k2, k3, k4, k5⟩ (fun _ => ?_)
  clear hK K
  replace bw := nT bw bN
  clear bN
  try simp only [Act.put, List.setIfInBounds_toArray, List.set_cons_zero, List.set_cons_succ]
  refine wpAnyH_ready (rs := [3]) (by kernel_rfl) (by simp) ?_
  refine AllReadyH.cons rfl (fun K hK => ?_) AllReadyH.nil
  go_simp
  refine Calls.mono (HS2.out _ (H2.out.keep bw)) ?_
  rintro r w2 ⟨rfl, bN⟩
  replace k0 := kC bN k0
  replace k1 := kC bN k1
  replace k2 := kC bN k2
  replace k3 := kC bN k3
  replace k4 := kC bN k4
  replace k5 := kC bN k5
  refine hK.out _ _ ⟨k0, k1, k2, k3, k4, k5⟩ (fun _ => ?_)
  clear hK K
  replace bw := nT bw bN
  clear bN
  try simp only [Act.put, List.setIfInBounds_toArray, List.set_cons_zero, List.set_cons_succ]
  refine wpAnyH_ready (rs := [4]) (by kernel_rfl) (by simp) ?_
  refine AllReadyH.cons rfl (fun K hK => ?_) AllReadyH.nil
  go_simp
  refine hK.out _ _ ⟨k0, k1, k2, k3, k4, k5⟩ (fun _ => ?_)
  clear hK K
  try simp only [Act.put, List.setIfInBounds_toArray, List.set_cons_zero, List.set_cons_succ]
  refine wpAnyH_ready (rs := [5]) (by kernel_rfl) (by simp) ?_
  refine AllReadyH.cons rfl (fun K hK => ?_) AllReadyH.nil
  go_simp
  refine hK.out _ _ ⟨k0, k1, k2, k3, k4, k5⟩ (fun _ => ?_)
  clear hK K
  try simp only [Act.put, List.setIfInBounds_toArray, List.set_cons_zero, List.set_cons_succ]
  refine wpAnyH_done (by kernel_rfl) ?_ _
  go_wp2_with fail
  go_ret
  exact ⟨rfl, bw⟩

set_option maxRecDepth 100000 in
set_option maxHeartbeats 2000000 in
theorem qorder_zero (s : Bool) (a : Option Addr) (len cap : Nat) (xs : List Int) (e : Int) (t : Bool) (b : Option Addr) (len' cap' : Nat) (ys : List Int) (f : Int) (w : World) (h : IsW w a len cap xs) (hm : len ≤ 17592186044000) (h' : IsW w b len' cap' ys) (hm' : len' ≤ 17592186044000) (hs : sgnQ s (val xs) = 0) (ht : sgnQ t (val ys) = 0) :
    Calls Tryz.prog 29 #[dyV s a len cap e, dyV t b len' cap' f] w fun r w' => r = .returned (.int .i64 (0)) ∧ Below w.heap.size w w' := by
  have bw : Below w.heap.size w ((w.alloc (.cells #[.bool s, .slice a len cap, .int .i64 e] 25)).alloc (.cells #[.bool t, .slice b len' cap', .int .i64 f] 25)) := by repeat (first | exact Below.refl _ _ | refine bl_alloc ?_ _)
  have HS1 : Hid _ := fun W g => qSign_calls s a len cap xs e W g hm
  have HS2 : Hid _ := fun W g => qSign_calls t b len' cap' ys f W g hm'
  have H1 : Hid (IsW w a len cap xs) := h
  have H2 : Hid (IsW w b len' cap' ys) := h'
  rw [hs] at HS1
  rw [ht] at HS2
  clear hs ht
  obtain ⟨k0, k1, k2, k3, k4, k5⟩ := fX4 w s a len cap e t b len' cap' f
  clear h h' hm hm'
  go_enter Tryz.func29, Tryz.ntmps29
  go_upto_region 1 with fail
  generalize ((w.alloc (.cells #[.bool s, .slice a len cap, .int .i64 e] 25)).alloc (.cells #[.bool t, .slice b len' cap', .int .i64 f] 25)) = w0 at *
  have bd : Below w0.heap.size w0 w0.drew := (Below.refl _ _).drew
  refine wp_region_held (S := fun w' => w'.cell? ⟨w.heap.size, 0, none⟩ = some (.bool s) ∧ w'.cell? ⟨w.heap.size, 1, none⟩ = some (.slice a len cap) ∧ w'.cell? ⟨w.heap.size, 2, none⟩ = some (.int .i64 e) ∧ w'.cell? ⟨w.heap.size + 1, 0, none⟩ = some (.bool t) ∧ w'.cell? ⟨w.heap.size + 1, 1, none⟩ = some (.slice b len' cap') ∧ w'.cell? ⟨w.heap.size + 1, 2, none⟩ = some (.int .i64 f)) (by kernel_rfl) ?_
  change wpAnyH _ _ _ _ _ _ _ _ (World.drew w0)
  replace k0 := kC bd k0
  replace k1 := kC bd k1
  replace k2 := kC bd k2
  replace k3 := kC bd k3
  replace k4 := kC bd k4
  replace k5 := kC bd k5
  replace bw := nT bw bd
  clear bd
  generalize World.drew w0 = wd5 at *
  refine wpAnyH_take (i := 0) (v := ?vt5_0) rfl (by kernel_rfl) (by kernel_rfl) (by kernel_rfl) (fun _ _ _ h => h) (Or.inl ⟨by rfl, ?yt5_0⟩) ⟨k0, k1, k2, k3, k4, k5⟩ ?rt5_0
  case yt5_0 => (rintro ww ⟨q0, q1, q2, q3, q4, q5⟩; go_simp; try with_reducible rfl)
  try simp only [Act.put]
  refine wpAnyH_take (i := 2) (v := ?vt5_2) rfl (by kernel_rfl) (by kernel_rfl) (by kernel_rfl) (fun _ _ _ h => h) (Or.inl ⟨by rfl, ?yt5_2⟩) ⟨k0, k1, k2, k3, k4, k5⟩ ?rt5_2
  case yt5_2 => (rintro ww ⟨q0, q1, q2, q3, q4, q5⟩; go_simp; try with_reducible rfl)
  try simp only [Act.put]
  refine wpAnyH_ready (rs := [1]) (by kernel_rfl) (by simp) ?_
  refine AllReadyH.cons rfl (fun K hK => ?_) AllReadyH.nil
  go_simp
  refine Calls.mono (HS1.out _ (H1.out.keep bw)) ?_
  rintro r w1 ⟨rfl, bN⟩
  replace k0 := kC bN k0
  replace k1 := kC bN k1
  replace k2 := kC bN k2
  replace k3 := kC bN k3
  replace k4 := kC bN k4
  replace k5 := kC bN k5
  refine hK.out _ _ ⟨k0, k1, k2, k3, k4, k5⟩ (fun _ => ?_)
  clear hK K
  replace bw := nT bw bN
  clear bN
  try simp only [Act.put, List.setIfInBounds_toArray, List.set_cons_zero, List.set_cons_succ]
  refine wpAnyH_ready (rs := [3]) (by kernel_rfl) (by simp) ?_
  refine AllReadyH.cons rfl (fun K hK => ?_) AllReadyH.nil
  go_simp
  refine Calls.mono (HS2.out _ (H2.out.keep bw)) ?_
  rintro r w2 ⟨rfl, bN⟩
  replace k0 := kC bN k0
  replace k1 := kC bN k1
  replace k2 := kC bN k2
  replace k3 := kC bN k3
  replace k4 := kC bN k4
  replace k5 := kC bN k5
  refine hK.out _ _ ⟨k0, k1, k2, k3, k4, k5⟩ (fun _ => ?_)
  clear hK K
  replace bw := nT bw bN
  clear bN
  try simp only [Act.put, List.setIfInBounds_toArray, List.set_cons_zero, List.set_cons_succ]
  refine wpAnyH_ready (rs := [4]) (by kernel_rfl) (by simp) ?_
  refine AllReadyH.cons rfl (fun K hK => ?_) AllReadyH.nil
  go_simp
  refine hK.out _ _ ⟨k0, k1, k2, k3, k4, k5⟩ (fun _ => ?_)
  clear hK K
  try simp only [Act.put, List.setIfInBounds_toArray, List.set_cons_zero, List.set_cons_succ]
  refine wpAnyH_ready (rs := [5]) (by kernel_rfl) (by simp) ?_
  refine AllReadyH.cons rfl (fun K hK => ?_) AllReadyH.nil
  go_simp
  refine hK.out _ _ ⟨k0, k1, k2, k3, k4, k5⟩ (fun _ => ?_)
  clear hK K
  try simp only [Act.put, List.setIfInBounds_toArray, List.set_cons_zero, List.set_cons_succ]
  refine wpAnyH_done (by kernel_rfl) ?_ _
  go_wp2_with fail
  go_ret
  exact ⟨rfl, bw⟩

set_option maxRecDepth 100000 in
set_option maxHeartbeats 2000000 in
theorem qorder_top (s : Bool) (a : Option Addr) (len cap : Nat) (xs : List Int) (e : Int) (t : Bool) (b : Option Addr) (len' cap' : Nat) (ys : List Int) (f : Int) (w : World) (h : IsW w a len cap xs) (hm : len ≤ 17592186044000) (h' : IsW w b len' cap' ys) (hm' : len' ≤ 17592186044000) (he : -5000000 ≤ e ∧ e ≤ 5000000) (hf : -5000000 ≤ f ∧ f ≤ 5000000) (hbx : blen (val xs) ≤ 5000000) (hby : blen (val ys) ≤ 5000000) (sg : Int) (hs : sgnQ s (val xs) = sg) (ht : sgnQ t (val ys) = sg) (h0 : sg ≠ 0) (_hr : -1 ≤ sg ∧ sg ≤ 1) (hg : f + (blen (val ys) : Int) - 1 < e + (blen (val xs) : Int) - 1) :
    Calls Tryz.prog 29 #[dyV s a len cap e, dyV t b len' cap' f] w fun r w' => r = .returned (.int .i64 (sg)) ∧ Below w.heap.size w w' := by
  have bw : Below w.heap.size w ((w.alloc (.cells #[.bool s, .slice a len cap, .int .i64 e] 25)).alloc (.cells #[.bool t, .slice b len' cap', .int .i64 f] 25)) := by repeat (first | exact Below.refl _ _ | refine bl_alloc ?_ _)
  have HS1 : Hid _ := fun W g => qSign_calls s a len cap xs e W g hm
  have HS2 : Hid _ := fun W g => qSign_calls t b len' cap' ys f W g hm'
  have H1 : Hid (IsW w a len cap xs) := h
  have H2 : Hid (IsW w b len' cap' ys) := h'
  rw [hs] at HS1
  rw [ht] at HS2
  have hz : (sg == 0) = false := by simp [h0]
  have HT1 : Hid _ := fun W g => qTop_calls s a len cap xs e W g hm (by omega) (by omega)
  have HT2 : Hid _ := fun W g => qTop_calls t b len' cap' ys f W g hm' (by omega) (by omega)
  clear hs ht h0 hbx hby he hf
  generalize e + (blen (val xs) : Int) - 1 = t1 at *
  generalize f + (blen (val ys) : Int) - 1 = t2 at *
  have hne : (t1 == t2) = false := by simp; omega
  obtain ⟨k0, k1, k2, k3, k4, k5⟩ := fX4 w s a len cap e t b len' cap' f
  clear h h' hm hm'
  go_enter Tryz.func29, Tryz.ntmps29
  go_upto_region 1 with fail
  generalize ((w.alloc (.cells #[.bool s, .slice a len cap, .int .i64 e] 25)).alloc (.cells #[.bool t, .slice b len' cap', .int .i64 f] 25)) = w0 at *
  have bd : Below w0.heap.size w0 w0.drew := (Below.refl _ _).drew
  refine wp_region_held (S := fun w' => w'.cell? ⟨w.heap.size, 0, none⟩ = some (.bool s) ∧ w'.cell? ⟨w.heap.size, 1, none⟩ = some (.slice a len cap) ∧ w'.cell? ⟨w.heap.size, 2, none⟩ = some (.int .i64 e) ∧ w'.cell? ⟨w.heap.size + 1, 0, none⟩ = some (.bool t) ∧ w'.cell? ⟨w.heap.size + 1, 1, none⟩ = some (.slice b len' cap') ∧ w'.cell? ⟨w.heap.size + 1, 2, none⟩ = some (.int .i64 f)) (by kernel_rfl) ?_
  change wpAnyH _ _ _ _ _ _ _ _ (World.drew w0)
  replace k0 := kC bd k0
  replace k1 := kC bd k1
  replace k2 := kC bd k2
  replace k3 := kC bd k3
  replace k4 := kC bd k4
  replace k5 := kC bd k5
  replace bw := nT bw bd
  clear bd
  generalize World.drew w0 = wd7 at *
  refine wpAnyH_take (i := 0) (v := ?vt7_0) rfl (by kernel_rfl) (by kernel_rfl) (by kernel_rfl) (fun _ _ _ h => h) (Or.inl ⟨by rfl, ?yt7_0⟩) ⟨k0, k1, k2, k3, k4, k5⟩ ?rt7_0
  case yt7_0 => (rintro ww ⟨q0, q1, q2, q3, q4, q5⟩; go_simp; try with_reducible rfl)
  try simp only [Act.put]
  refine wpAnyH_take (i := 2) (v := ?vt7_2) rfl (by kernel_rfl) (by kernel_rfl) (by kernel_rfl) (fun _ _ _ h => h) (Or.inl ⟨by rfl, ?yt7_2⟩) ⟨k0, k1, k2, k3, k4, k5⟩ ?rt7_2
  case yt7_2 => (rintro ww ⟨q0, q1, q2, q3, q4, q5⟩; go_simp; try with_reducible rfl)
  try simp only [Act.put]
  refine wpAnyH_ready (rs := [1]) (by kernel_rfl) (by simp) ?_
  refine AllReadyH.cons rfl (fun K hK => ?_) AllReadyH.nil
  go_simp
  refine Calls.mono (HS1.out _ (H1.out.keep bw)) ?_
  rintro r w1 ⟨rfl, bN⟩
  replace k0 := kC bN k0
  replace k1 := kC bN k1
  replace k2 := kC bN k2
  replace k3 := kC bN k3
  replace k4 := kC bN k4
  replace k5 := kC bN k5
  refine hK.out _ _ ⟨k0, k1, k2, k3, k4, k5⟩ (fun _ => ?_)
  clear hK K
  replace bw := nT bw bN
  clear bN
  try simp only [Act.put, List.setIfInBounds_toArray, List.set_cons_zero, List.set_cons_succ]
  refine wpAnyH_ready (rs := [3]) (by kernel_rfl) (by simp) ?_
  refine AllReadyH.cons rfl (fun K hK => ?_) AllReadyH.nil
  go_simp
  refine Calls.mono (HS2.out _ (H2.out.keep bw)) ?_
  rintro r w2 ⟨rfl, bN⟩
  replace k0 := kC bN k0
  replace k1 := kC bN k1
  replace k2 := kC bN k2
  replace k3 := kC bN k3
  replace k4 := kC bN k4
  replace k5 := kC bN k5
  refine hK.out _ _ ⟨k0, k1, k2, k3, k4, k5⟩ (fun _ => ?_)
  clear hK K
  replace bw := nT bw bN
  clear bN
  try simp only [Act.put, List.setIfInBounds_toArray, List.set_cons_zero, List.set_cons_succ]
  refine wpAnyH_ready (rs := [4]) (by kernel_rfl) (by simp) ?_
  refine AllReadyH.cons rfl (fun K hK => ?_) AllReadyH.nil
  go_simp
  refine hK.out _ _ ⟨k0, k1, k2, k3, k4, k5⟩ (fun _ => ?_)
  clear hK K
  try simp only [Act.put, List.setIfInBounds_toArray, List.set_cons_zero, List.set_cons_succ]
  refine wpAnyH_ready (rs := [5]) (by kernel_rfl) (by simp) ?_
  refine AllReadyH.cons rfl (fun K hK => ?_) AllReadyH.nil
  go_simp
  refine hK.out _ _ ⟨k0, k1, k2, k3, k4, k5⟩ (fun _ => ?_)
  clear hK K
  try simp only [Act.put, List.setIfInBounds_toArray, List.set_cons_zero, List.set_cons_succ]
  refine wpAnyH_done (by kernel_rfl) ?_ _
  go_wp2_with fail
  have bd : Below w2.heap.size w2 w2.drew := (Below.refl _ _).drew
  refine wp_region_held (S := fun w' => w'.cell? ⟨w.heap.size, 0, none⟩ = some (.bool s) ∧ w'.cell? ⟨w.heap.size, 1, none⟩ = some (.slice a len cap) ∧ w'.cell? ⟨w.heap.size, 2, none⟩ = some (.int .i64 e) ∧ w'.cell? ⟨w.heap.size + 1, 0, none⟩ = some (.bool t) ∧ w'.cell? ⟨w.heap.size + 1, 1, none⟩ = some (.slice b len' cap') ∧ w'.cell? ⟨w.heap.size + 1, 2, none⟩ = some (.int .i64 f)) (by kernel_rfl) ?_
  change wpAnyH _ _ _ _ _ _ _ _ (World.drew w2)
  replace k0 := kC bd k0
  replace k1 := kC bd k1
  replace k2 := kC bd k2
  replace k3 := kC bd k3
  replace k4 := kC bd k4
  replace k5 := kC bd k5
  replace bw := nT bw bd
  clear bd
  generalize World.drew w2 = wd6 at *
  refine wpAnyH_take (i := 0) (v := ?vt6_0) rfl (by kernel_rfl) (by kernel_rfl) (by kernel_rfl) (fun _ _ _ h => h) (Or.inl ⟨by rfl, ?yt6_0⟩) ⟨k0, k1, k2, k3, k4, k5⟩ ?rt6_0
  case yt6_0 => (rintro ww ⟨q0, q1, q2, q3, q4, q5⟩; go_simp; try with_reducible rfl)
  try simp only [Act.put]
  refine wpAnyH_take (i := 2) (v := ?vt6_2) rfl (by kernel_rfl) (by kernel_rfl) (by kernel_rfl) (fun _ _ _ h => h) (Or.inl ⟨by rfl, ?yt6_2⟩) ⟨k0, k1, k2, k3, k4, k5⟩ ?rt6_2
  case yt6_2 => (rintro ww ⟨q0, q1, q2, q3, q4, q5⟩; go_simp; try with_reducible rfl)
  try simp only [Act.put]
  refine wpAnyH_ready (rs := [1]) (by kernel_rfl) (by simp) ?_
  refine AllReadyH.cons rfl (fun K hK => ?_) AllReadyH.nil
  go_simp
  refine Calls.mono (HT1.out _ (H1.out.keep bw)) ?_
  rintro r w3 ⟨rfl, bN⟩
  replace k0 := kC bN k0
  replace k1 := kC bN k1
  replace k2 := kC bN k2
  replace k3 := kC bN k3
  replace k4 := kC bN k4
  replace k5 := kC bN k5
  refine hK.out _ _ ⟨k0, k1, k2, k3, k4, k5⟩ (fun _ => ?_)
  clear hK K
  replace bw := nT bw bN
  clear bN
  try simp only [Act.put, List.setIfInBounds_toArray, List.set_cons_zero, List.set_cons_succ]
  refine wpAnyH_ready (rs := [3]) (by kernel_rfl) (by simp) ?_
  refine AllReadyH.cons rfl (fun K hK => ?_) AllReadyH.nil
  go_simp
  refine Calls.mono (HT2.out _ (H2.out.keep bw)) ?_
  rintro r w4 ⟨rfl, bN⟩
  replace k0 := kC bN k0
  replace k1 := kC bN k1
  replace k2 := kC bN k2
  replace k3 := kC bN k3
  replace k4 := kC bN k4
  replace k5 := kC bN k5
  refine hK.out _ _ ⟨k0, k1, k2, k3, k4, k5⟩ (fun _ => ?_)
  clear hK K
  replace bw := nT bw bN
  clear bN
  try simp only [Act.put, List.setIfInBounds_toArray, List.set_cons_zero, List.set_cons_succ]
  refine wpAnyH_ready (rs := [4]) (by kernel_rfl) (by simp) ?_
  refine AllReadyH.cons rfl (fun K hK => ?_) AllReadyH.nil
  go_simp
  refine hK.out _ _ ⟨k0, k1, k2, k3, k4, k5⟩ (fun _ => ?_)
  clear hK K
  try simp only [Act.put, List.setIfInBounds_toArray, List.set_cons_zero, List.set_cons_succ]
  refine wpAnyH_ready (rs := [5]) (by kernel_rfl) (by simp) ?_
  refine AllReadyH.cons rfl (fun K hK => ?_) AllReadyH.nil
  go_simp
  refine hK.out _ _ ⟨k0, k1, k2, k3, k4, k5⟩ (fun _ => ?_)
  clear hK K
  try simp only [Act.put, List.setIfInBounds_toArray, List.set_cons_zero, List.set_cons_succ]
  refine wpAnyH_done (by kernel_rfl) ?_ _
  go_wp2_with fail
  go_ret
  exact ⟨rfl, bw⟩

set_option maxRecDepth 100000 in
set_option maxHeartbeats 2000000 in
theorem qorder_low (s : Bool) (a : Option Addr) (len cap : Nat) (xs : List Int) (e : Int) (t : Bool) (b : Option Addr) (len' cap' : Nat) (ys : List Int) (f : Int) (w : World) (h : IsW w a len cap xs) (hm : len ≤ 17592186044000) (h' : IsW w b len' cap' ys) (hm' : len' ≤ 17592186044000) (he : -5000000 ≤ e ∧ e ≤ 5000000) (hf : -5000000 ≤ f ∧ f ≤ 5000000) (hbx : blen (val xs) ≤ 5000000) (hby : blen (val ys) ≤ 5000000) (sg : Int) (hs : sgnQ s (val xs) = sg) (ht : sgnQ t (val ys) = sg) (h0 : sg ≠ 0) (hr : -1 ≤ sg ∧ sg ≤ 1) (hg : e + (blen (val xs) : Int) - 1 < f + (blen (val ys) : Int) - 1) :
    Calls Tryz.prog 29 #[dyV s a len cap e, dyV t b len' cap' f] w fun r w' => r = .returned (.int .i64 (-sg)) ∧ Below w.heap.size w w' := by
  have bw : Below w.heap.size w ((w.alloc (.cells #[.bool s, .slice a len cap, .int .i64 e] 25)).alloc (.cells #[.bool t, .slice b len' cap', .int .i64 f] 25)) := by repeat (first | exact Below.refl _ _ | refine bl_alloc ?_ _)
  have HS1 : Hid _ := fun W g => qSign_calls s a len cap xs e W g hm
  have HS2 : Hid _ := fun W g => qSign_calls t b len' cap' ys f W g hm'
  have H1 : Hid (IsW w a len cap xs) := h
  have H2 : Hid (IsW w b len' cap' ys) := h'
  rw [hs] at HS1
  rw [ht] at HS2
  have hz : (sg == 0) = false := by simp [h0]
  have HT1 : Hid _ := fun W g => qTop_calls s a len cap xs e W g hm (by omega) (by omega)
  have HT2 : Hid _ := fun W g => qTop_calls t b len' cap' ys f W g hm' (by omega) (by omega)
  clear hs ht h0 hbx hby he hf
  generalize e + (blen (val xs) : Int) - 1 = t1 at *
  generalize f + (blen (val ys) : Int) - 1 = t2 at *
  have hne : (t1 == t2) = false := by simp; omega
  have hng : ¬ t2 < t1 := by omega
  have hwn : IntKind.i64.wrap (-sg) = -sg := by rw [IntKind.wrap_i64]; omega
  obtain ⟨k0, k1, k2, k3, k4, k5⟩ := fX4 w s a len cap e t b len' cap' f
  clear h h' hm hm'
  go_enter Tryz.func29, Tryz.ntmps29
  go_upto_region 1 with fail
  generalize ((w.alloc (.cells #[.bool s, .slice a len cap, .int .i64 e] 25)).alloc (.cells #[.bool t, .slice b len' cap', .int .i64 f] 25)) = w0 at *
  have bd : Below w0.heap.size w0 w0.drew := (Below.refl _ _).drew
  refine wp_region_held (S := fun w' => w'.cell? ⟨w.heap.size, 0, none⟩ = some (.bool s) ∧ w'.cell? ⟨w.heap.size, 1, none⟩ = some (.slice a len cap) ∧ w'.cell? ⟨w.heap.size, 2, none⟩ = some (.int .i64 e) ∧ w'.cell? ⟨w.heap.size + 1, 0, none⟩ = some (.bool t) ∧ w'.cell? ⟨w.heap.size + 1, 1, none⟩ = some (.slice b len' cap') ∧ w'.cell? ⟨w.heap.size + 1, 2, none⟩ = some (.int .i64 f)) (by kernel_rfl) ?_
  change wpAnyH _ _ _ _ _ _ _ _ (World.drew w0)
  replace k0 := kC bd k0
  replace k1 := kC bd k1
  replace k2 := kC bd k2
  replace k3 := kC bd k3
  replace k4 := kC bd k4
  replace k5 := kC bd k5
  replace bw := nT bw bd
  clear bd
  generalize World.drew w0 = wd8 at *
  refine wpAnyH_take (i := 0) (v := ?vt8_0) rfl (by kernel_rfl) (by kernel_rfl) (by kernel_rfl) (fun _ _ _ h => h) (Or.inl ⟨by rfl, ?yt8_0⟩) ⟨k0, k1, k2, k3, k4, k5⟩ ?rt8_0
  case yt8_0 => (rintro ww ⟨q0, q1, q2, q3, q4, q5⟩; go_simp; try with_reducible rfl)
  try simp only [Act.put]
  refine wpAnyH_take (i := 2) (v := ?vt8_2) rfl (by kernel_rfl) (by kernel_rfl) (by kernel_rfl) (fun _ _ _ h => h) (Or.inl ⟨by rfl, ?yt8_2⟩) ⟨k0, k1, k2, k3, k4, k5⟩ ?rt8_2
  case yt8_2 => (rintro ww ⟨q0, q1, q2, q3, q4, q5⟩; go_simp; try with_reducible rfl)
  try simp only [Act.put]
  refine wpAnyH_ready (rs := [1]) (by kernel_rfl) (by simp) ?_
  refine AllReadyH.cons rfl (fun K hK => ?_) AllReadyH.nil
  go_simp
  refine Calls.mono (HS1.out _ (H1.out.keep bw)) ?_
  rintro r w1 ⟨rfl, bN⟩
  replace k0 := kC bN k0
  replace k1 := kC bN k1
  replace k2 := kC bN k2
  replace k3 := kC bN k3
  replace k4 := kC bN k4
  replace k5 := kC bN k5
  refine hK.out _ _ ⟨k0, k1, k2, k3, k4, k5⟩ (fun _ => ?_)
  clear hK K
  replace bw := nT bw bN
  clear bN
  try simp only [Act.put, List.setIfInBounds_toArray, List.set_cons_zero, List.set_cons_succ]
  refine wpAnyH_ready (rs := [3]) (by kernel_rfl) (by simp) ?_
  refine AllReadyH.cons rfl (fun K hK => ?_) AllReadyH.nil
  go_simp
  refine Calls.mono (HS2.out _ (H2.out.keep bw)) ?_
  rintro r w2 ⟨rfl, bN⟩
  replace k0 := kC bN k0
  replace k1 := kC bN k1
  replace k2 := kC bN k2
  replace k3 := kC bN k3
  replace k4 := kC bN k4
  replace k5 := kC bN k5
  refine hK.out _ _ ⟨k0, k1, k2, k3, k4, k5⟩ (fun _ => ?_)
  clear hK K
  replace bw := nT bw bN
  clear bN
  try simp only [Act.put, List.setIfInBounds_toArray, List.set_cons_zero, List.set_cons_succ]
  refine wpAnyH_ready (rs := [4]) (by kernel_rfl) (by simp) ?_
  refine AllReadyH.cons rfl (fun K hK => ?_) AllReadyH.nil
  go_simp
  refine hK.out _ _ ⟨k0, k1, k2, k3, k4, k5⟩ (fun _ => ?_)
  clear hK K
  try simp only [Act.put, List.setIfInBounds_toArray, List.set_cons_zero, List.set_cons_succ]
  refine wpAnyH_ready (rs := [5]) (by kernel_rfl) (by simp) ?_
  refine AllReadyH.cons rfl (fun K hK => ?_) AllReadyH.nil
  go_simp
  refine hK.out _ _ ⟨k0, k1, k2, k3, k4, k5⟩ (fun _ => ?_)
  clear hK K
  try simp only [Act.put, List.setIfInBounds_toArray, List.set_cons_zero, List.set_cons_succ]
  refine wpAnyH_done (by kernel_rfl) ?_ _
  go_wp2_with fail
  have bd : Below w2.heap.size w2 w2.drew := (Below.refl _ _).drew
  refine wp_region_held (S := fun w' => w'.cell? ⟨w.heap.size, 0, none⟩ = some (.bool s) ∧ w'.cell? ⟨w.heap.size, 1, none⟩ = some (.slice a len cap) ∧ w'.cell? ⟨w.heap.size, 2, none⟩ = some (.int .i64 e) ∧ w'.cell? ⟨w.heap.size + 1, 0, none⟩ = some (.bool t) ∧ w'.cell? ⟨w.heap.size + 1, 1, none⟩ = some (.slice b len' cap') ∧ w'.cell? ⟨w.heap.size + 1, 2, none⟩ = some (.int .i64 f)) (by kernel_rfl) ?_
  change wpAnyH _ _ _ _ _ _ _ _ (World.drew w2)
  replace k0 := kC bd k0
  replace k1 := kC bd k1
  replace k2 := kC bd k2
  replace k3 := kC bd k3
  replace k4 := kC bd k4
  replace k5 := kC bd k5
  replace bw := nT bw bd
  clear bd
  generalize World.drew w2 = wd6 at *
  refine wpAnyH_take (i := 0) (v := ?vt6_0) rfl (by kernel_rfl) (by kernel_rfl) (by kernel_rfl) (fun _ _ _ h => h) (Or.inl ⟨by rfl, ?yt6_0⟩) ⟨k0, k1, k2, k3, k4, k5⟩ ?rt6_0
  case yt6_0 => (rintro ww ⟨q0, q1, q2, q3, q4, q5⟩; go_simp; try with_reducible rfl)
  try simp only [Act.put]
  refine wpAnyH_take (i := 2) (v := ?vt6_2) rfl (by kernel_rfl) (by kernel_rfl) (by kernel_rfl) (fun _ _ _ h => h) (Or.inl ⟨by rfl, ?yt6_2⟩) ⟨k0, k1, k2, k3, k4, k5⟩ ?rt6_2
  case yt6_2 => (rintro ww ⟨q0, q1, q2, q3, q4, q5⟩; go_simp; try with_reducible rfl)
  try simp only [Act.put]
  refine wpAnyH_ready (rs := [1]) (by kernel_rfl) (by simp) ?_
  refine AllReadyH.cons rfl (fun K hK => ?_) AllReadyH.nil
  go_simp
  refine Calls.mono (HT1.out _ (H1.out.keep bw)) ?_
  rintro r w3 ⟨rfl, bN⟩
  replace k0 := kC bN k0
  replace k1 := kC bN k1
  replace k2 := kC bN k2
  replace k3 := kC bN k3
  replace k4 := kC bN k4
  replace k5 := kC bN k5
  refine hK.out _ _ ⟨k0, k1, k2, k3, k4, k5⟩ (fun _ => ?_)
  clear hK K
  replace bw := nT bw bN
  clear bN
  try simp only [Act.put, List.setIfInBounds_toArray, List.set_cons_zero, List.set_cons_succ]
  refine wpAnyH_ready (rs := [3]) (by kernel_rfl) (by simp) ?_
  refine AllReadyH.cons rfl (fun K hK => ?_) AllReadyH.nil
  go_simp
  refine Calls.mono (HT2.out _ (H2.out.keep bw)) ?_
  rintro r w4 ⟨rfl, bN⟩
  replace k0 := kC bN k0
  replace k1 := kC bN k1
  replace k2 := kC bN k2
  replace k3 := kC bN k3
  replace k4 := kC bN k4
  replace k5 := kC bN k5
  refine hK.out _ _ ⟨k0, k1, k2, k3, k4, k5⟩ (fun _ => ?_)
  clear hK K
  replace bw := nT bw bN
  clear bN
  try simp only [Act.put, List.setIfInBounds_toArray, List.set_cons_zero, List.set_cons_succ]
  refine wpAnyH_ready (rs := [4]) (by kernel_rfl) (by simp) ?_
  refine AllReadyH.cons rfl (fun K hK => ?_) AllReadyH.nil
  go_simp
  refine hK.out _ _ ⟨k0, k1, k2, k3, k4, k5⟩ (fun _ => ?_)
  clear hK K
  try simp only [Act.put, List.setIfInBounds_toArray, List.set_cons_zero, List.set_cons_succ]
  refine wpAnyH_ready (rs := [5]) (by kernel_rfl) (by simp) ?_
  refine AllReadyH.cons rfl (fun K hK => ?_) AllReadyH.nil
  go_simp
  refine hK.out _ _ ⟨k0, k1, k2, k3, k4, k5⟩ (fun _ => ?_)
  clear hK K
  try simp only [Act.put, List.setIfInBounds_toArray, List.set_cons_zero, List.set_cons_succ]
  refine wpAnyH_done (by kernel_rfl) ?_ _
  go_wp2_with fail
  go_ret
  exact ⟨rfl, bw⟩

set_option maxRecDepth 100000 in
set_option maxHeartbeats 2000000 in
theorem qorder_less (s : Bool) (a : Option Addr) (len cap : Nat) (xs : List Int) (e : Int) (t : Bool) (b : Option Addr) (len' cap' : Nat) (ys : List Int) (f : Int) (w : World) (h : IsW w a len cap xs) (hm : len ≤ 17592186044000) (h' : IsW w b len' cap' ys) (hm' : len' ≤ 17592186044000) (he : -5000000 ≤ e ∧ e ≤ 5000000) (hf : -5000000 ≤ f ∧ f ≤ 5000000) (hbx : blen (val xs) ≤ 5000000) (hby : blen (val ys) ≤ 5000000) (sg : Int) (hs : sgnQ s (val xs) = sg) (ht : sgnQ t (val ys) = sg) (h0 : sg ≠ 0) (_hr : -1 ≤ sg ∧ sg ≤ 1) (hg : e + (blen (val xs) : Int) - 1 = f + (blen (val ys) : Int) - 1) :
    Calls Tryz.prog 29 #[dyV s a len cap e, dyV t b len' cap' f] w fun r w' => r = .returned (.int .i64 (sgnD (sumD (formD s (val xs) e) (negD (formD t (val ys) f))))) ∧ Below w.heap.size w w' := by
  have bw : Below w.heap.size w ((w.alloc (.cells #[.bool s, .slice a len cap, .int .i64 e] 25)).alloc (.cells #[.bool t, .slice b len' cap', .int .i64 f] 25)) := by repeat (first | exact Below.refl _ _ | refine bl_alloc ?_ _)
  have HS1 : Hid _ := fun W g => qSign_calls s a len cap xs e W g hm
  have HS2 : Hid _ := fun W g => qSign_calls t b len' cap' ys f W g hm'
  have H1 : Hid (IsW w a len cap xs) := h
  have H2 : Hid (IsW w b len' cap' ys) := h'
  rw [hs] at HS1
  rw [ht] at HS2
  have hz : (sg == 0) = false := by simp [h0]
  have HT1 : Hid _ := fun W g => qTop_calls s a len cap xs e W g hm (by omega) (by omega)
  have HT2 : Hid _ := fun W g => qTop_calls t b len' cap' ys f W g hm' (by omega) (by omega)
  have HLE : Hid _ := fun W g g' => qLess_calls s a len cap xs e t b len' cap' ys f W g hm g' hm' he hf hbx hby
  rw [form_turn] at HLE
  have HLN : Hid ((wordsOf (sumD (formD s (val xs) e) (negD (formD t (val ys) f))).2.1).length ≤ 2000001) := by
    have h1 : blen (formD s (val xs) e).2.1 ≤ 5000000 := Nat.le_trans (blen_mono (form_amount_le _ _ _)) hbx
    have h2 : blen (formD t (val ys) f).2.1 ≤ 5000000 := Nat.le_trans (blen_mono (form_amount_le _ _ _)) hby
    have h3 := form_expc s (val xs) e hbx he
    have h4 := form_expc t (val ys) f hby hf
    exact sumlen _ _ (by omega) (by show blen (formD t (val ys) f).2.1 ≤ _; omega) (by omega) (by show _ ≤ (formD t (val ys) f).2.2 ∧ (formD t (val ys) f).2.2 ≤ _; omega)
  generalize sumD (formD s (val xs) e) (negD (formD t (val ys) f)) = p at *
  have HSP : Hid _ := fun a' n' c' W g (q : n' ≤ 2000001) => qSign_calls p.1 a' n' c' (wordsOf p.2.1) p.2.2 W g (by omega)
  rw [val_words] at HSP
  rw [hg] at HT1
  clear hs ht h0 hg hbx hby he hf
  generalize f + (blen (val ys) : Int) - 1 = t2 at *
  obtain ⟨k0, k1, k2, k3, k4, k5⟩ := fX4 w s a len cap e t b len' cap' f
  clear h h' hm hm'
  go_enter Tryz.func29, Tryz.ntmps29
  go_upto_region 1 with fail
  generalize ((w.alloc (.cells #[.bool s, .slice a len cap, .int .i64 e] 25)).alloc (.cells #[.bool t, .slice b len' cap', .int .i64 f] 25)) = w0 at *
  have bd : Below w0.heap.size w0 w0.drew := (Below.refl _ _).drew
  refine wp_region_held (S := fun w' => w'.cell? ⟨w.heap.size, 0, none⟩ = some (.bool s) ∧ w'.cell? ⟨w.heap.size, 1, none⟩ = some (.slice a len cap) ∧ w'.cell? ⟨w.heap.size, 2, none⟩ = some (.int .i64 e) ∧ w'.cell? ⟨w.heap.size + 1, 0, none⟩ = some (.bool t) ∧ w'.cell? ⟨w.heap.size + 1, 1, none⟩ = some (.slice b len' cap') ∧ w'.cell? ⟨w.heap.size + 1, 2, none⟩ = some (.int .i64 f)) (by kernel_rfl) ?_
  change wpAnyH _ _ _ _ _ _ _ _ (World.drew w0)
  replace k0 := kC bd k0
  replace k1 := kC bd k1
  replace k2 := kC bd k2
  replace k3 := kC bd k3
  replace k4 := kC bd k4
  replace k5 := kC bd k5
  replace bw := nT bw bd
  clear bd
  generalize World.drew w0 = wd9 at *
  refine wpAnyH_take (i := 0) (v := ?vt9_0) rfl (by kernel_rfl) (by kernel_rfl) (by kernel_rfl) (fun _ _ _ h => h) (Or.inl ⟨by rfl, ?yt9_0⟩) ⟨k0, k1, k2, k3, k4, k5⟩ ?rt9_0
  case yt9_0 => (rintro ww ⟨q0, q1, q2, q3, q4, q5⟩; go_simp; try with_reducible rfl)
  try simp only [Act.put]
  refine wpAnyH_take (i := 2) (v := ?vt9_2) rfl (by kernel_rfl) (by kernel_rfl) (by kernel_rfl) (fun _ _ _ h => h) (Or.inl ⟨by rfl, ?yt9_2⟩) ⟨k0, k1, k2, k3, k4, k5⟩ ?rt9_2
  case yt9_2 => (rintro ww ⟨q0, q1, q2, q3, q4, q5⟩; go_simp; try with_reducible rfl)
  try simp only [Act.put]
  refine wpAnyH_ready (rs := [1]) (by kernel_rfl) (by simp) ?_
  refine AllReadyH.cons rfl (fun K hK => ?_) AllReadyH.nil
  go_simp
  refine Calls.mono (HS1.out _ (H1.out.keep bw)) ?_
  rintro r w1 ⟨rfl, bN⟩
  replace k0 := kC bN k0
  replace k1 := kC bN k1
  replace k2 := kC bN k2
  replace k3 := kC bN k3
  replace k4 := kC bN k4
  replace k5 := kC bN k5
  refine hK.out _ _ ⟨k0, k1, k2, k3, k4, k5⟩ (fun _ => ?_)
  clear hK K
  replace bw := nT bw bN
  clear bN
  try simp only [Act.put, List.setIfInBounds_toArray, List.set_cons_zero, List.set_cons_succ]
  refine wpAnyH_ready (rs := [3]) (by kernel_rfl) (by simp) ?_
  refine AllReadyH.cons rfl (fun K hK => ?_) AllReadyH.nil
  go_simp
  refine Calls.mono (HS2.out _ (H2.out.keep bw)) ?_
  rintro r w2 ⟨rfl, bN⟩
  replace k0 := kC bN k0
  replace k1 := kC bN k1
  replace k2 := kC bN k2
  replace k3 := kC bN k3
  replace k4 := kC bN k4
  replace k5 := kC bN k5
  refine hK.out _ _ ⟨k0, k1, k2, k3, k4, k5⟩ (fun _ => ?_)
  clear hK K
  replace bw := nT bw bN
  clear bN
  try simp only [Act.put, List.setIfInBounds_toArray, List.set_cons_zero, List.set_cons_succ]
  refine wpAnyH_ready (rs := [4]) (by kernel_rfl) (by simp) ?_
  refine AllReadyH.cons rfl (fun K hK => ?_) AllReadyH.nil
  go_simp
  refine hK.out _ _ ⟨k0, k1, k2, k3, k4, k5⟩ (fun _ => ?_)
  clear hK K
  try simp only [Act.put, List.setIfInBounds_toArray, List.set_cons_zero, List.set_cons_succ]
  refine wpAnyH_ready (rs := [5]) (by kernel_rfl) (by simp) ?_
  refine AllReadyH.cons rfl (fun K hK => ?_) AllReadyH.nil
  go_simp
  refine hK.out _ _ ⟨k0, k1, k2, k3, k4, k5⟩ (fun _ => ?_)
  clear hK K
  try simp only [Act.put, List.setIfInBounds_toArray, List.set_cons_zero, List.set_cons_succ]
  refine wpAnyH_done (by kernel_rfl) ?_ _
  go_wp2_with fail
  have bd : Below w2.heap.size w2 w2.drew := (Below.refl _ _).drew
  refine wp_region_held (S := fun w' => w'.cell? ⟨w.heap.size, 0, none⟩ = some (.bool s) ∧ w'.cell? ⟨w.heap.size, 1, none⟩ = some (.slice a len cap) ∧ w'.cell? ⟨w.heap.size, 2, none⟩ = some (.int .i64 e) ∧ w'.cell? ⟨w.heap.size + 1, 0, none⟩ = some (.bool t) ∧ w'.cell? ⟨w.heap.size + 1, 1, none⟩ = some (.slice b len' cap') ∧ w'.cell? ⟨w.heap.size + 1, 2, none⟩ = some (.int .i64 f)) (by kernel_rfl) ?_
  change wpAnyH _ _ _ _ _ _ _ _ (World.drew w2)
  replace k0 := kC bd k0
  replace k1 := kC bd k1
  replace k2 := kC bd k2
  replace k3 := kC bd k3
  replace k4 := kC bd k4
  replace k5 := kC bd k5
  replace bw := nT bw bd
  clear bd
  generalize World.drew w2 = wd6 at *
  refine wpAnyH_take (i := 0) (v := ?vt6_0) rfl (by kernel_rfl) (by kernel_rfl) (by kernel_rfl) (fun _ _ _ h => h) (Or.inl ⟨by rfl, ?yt6_0⟩) ⟨k0, k1, k2, k3, k4, k5⟩ ?rt6_0
  case yt6_0 => (rintro ww ⟨q0, q1, q2, q3, q4, q5⟩; go_simp; try with_reducible rfl)
  try simp only [Act.put]
  refine wpAnyH_take (i := 2) (v := ?vt6_2) rfl (by kernel_rfl) (by kernel_rfl) (by kernel_rfl) (fun _ _ _ h => h) (Or.inl ⟨by rfl, ?yt6_2⟩) ⟨k0, k1, k2, k3, k4, k5⟩ ?rt6_2
  case yt6_2 => (rintro ww ⟨q0, q1, q2, q3, q4, q5⟩; go_simp; try with_reducible rfl)
  try simp only [Act.put]
  refine wpAnyH_ready (rs := [1]) (by kernel_rfl) (by simp) ?_
  refine AllReadyH.cons rfl (fun K hK => ?_) AllReadyH.nil
  go_simp
  refine Calls.mono (HT1.out _ (H1.out.keep bw)) ?_
  rintro r w3 ⟨rfl, bN⟩
  replace k0 := kC bN k0
  replace k1 := kC bN k1
  replace k2 := kC bN k2
  replace k3 := kC bN k3
  replace k4 := kC bN k4
  replace k5 := kC bN k5
  refine hK.out _ _ ⟨k0, k1, k2, k3, k4, k5⟩ (fun _ => ?_)
  clear hK K
  replace bw := nT bw bN
  clear bN
  try simp only [Act.put, List.setIfInBounds_toArray, List.set_cons_zero, List.set_cons_succ]
  refine wpAnyH_ready (rs := [3]) (by kernel_rfl) (by simp) ?_
  refine AllReadyH.cons rfl (fun K hK => ?_) AllReadyH.nil
  go_simp
  refine Calls.mono (HT2.out _ (H2.out.keep bw)) ?_
  rintro r w4 ⟨rfl, bN⟩
  replace k0 := kC bN k0
  replace k1 := kC bN k1
  replace k2 := kC bN k2
  replace k3 := kC bN k3
  replace k4 := kC bN k4
  replace k5 := kC bN k5
  refine hK.out _ _ ⟨k0, k1, k2, k3, k4, k5⟩ (fun _ => ?_)
  clear hK K
  replace bw := nT bw bN
  clear bN
  try simp only [Act.put, List.setIfInBounds_toArray, List.set_cons_zero, List.set_cons_succ]
  refine wpAnyH_ready (rs := [4]) (by kernel_rfl) (by simp) ?_
  refine AllReadyH.cons rfl (fun K hK => ?_) AllReadyH.nil
  go_simp
  refine hK.out _ _ ⟨k0, k1, k2, k3, k4, k5⟩ (fun _ => ?_)
  clear hK K
  try simp only [Act.put, List.setIfInBounds_toArray, List.set_cons_zero, List.set_cons_succ]
  refine wpAnyH_ready (rs := [5]) (by kernel_rfl) (by simp) ?_
  refine AllReadyH.cons rfl (fun K hK => ?_) AllReadyH.nil
  go_simp
  refine hK.out _ _ ⟨k0, k1, k2, k3, k4, k5⟩ (fun _ => ?_)
  clear hK K
  try simp only [Act.put, List.setIfInBounds_toArray, List.set_cons_zero, List.set_cons_succ]
  refine wpAnyH_done (by kernel_rfl) ?_ _
  go_wp2_with fail
  refine Calls.mono (HLE.out _ (H1.out.keep bw) (H2.out.keep bw)) ?_
  rintro r w5 ⟨_, rfl, ⟨a5, n5, c5, rfl, HN5, hO5⟩, bN⟩
  replace bw := nT bw bN
  have hn5 : n5 ≤ 2000001 := by rw [HN5.out]; exact HLN.out
  clear bN k0 k1 k2 k3 k4 k5
  go_wp2_with fail
  refine Calls.mono (HSP.out _ _ _ _ hO5.1 hn5) ?_
  rintro r w6 ⟨rfl, bN⟩
  replace bw := nT bw bN
  clear bN
  go_wp2_with fail
  go_ret
  exact ⟨rfl, bw⟩

theorem sgnQ_range (s : Bool) (m : Nat) : -1 ≤ sgnQ s m ∧ sgnQ s m ≤ 1 := by
  unfold sgnQ; split
  · omega
  · split <;> omega
theorem top_form (s : Bool) {m : Nat} (e : Int) (h0 : m ≠ 0) : (formD s m e).2.2 + (blen (formD s m e).2.1 : Int) - 1 = e + (blen m : Int) - 1 := by
  have := blen_odd h0
  rw [form_pos s h0]
  show e + (tz m : Int) + (blen (m / 2 ^ tz m) : Int) - 1 = _
  omega
theorem sgnD_nz {p : Bool × Nat × Int} (h : p.2.1 ≠ 0) : sgnD p = if p.1 = true then -1 else 1 := by unfold sgnD; rw [if_neg h]
theorem cmpN_turn (a b : Nat) : -(cmpN a b) = cmpN b a := by
  unfold cmpN
  rcases Nat.lt_trichotomy a b with h | h | h
  · rw [if_pos h, if_neg (show ¬ b < a by omega), if_pos h]; rfl
  · subst h; rw [if_neg (Nat.lt_irrefl _), if_neg (Nat.lt_irrefl _)]; rfl
  · rw [if_neg (show ¬ a < b by omega), if_pos h, if_pos h]
/-- The order of two numbers of one sign and one top is the sign of their difference. -/
theorem cmp_less (x y : Bool × Nat × Int) (hx : x.2.1 ≠ 0) (hy : y.2.1 ≠ 0) (hs : sgnD x = sgnD y) (ht : x.2.2 + (blen x.2.1 : Int) - 1 = y.2.2 + (blen y.2.1 : Int) - 1) : sgnD (sumD x (negD y)) = cmpD x y := by
  have hss : x.1 = y.1 := by
    rw [sgnD_nz hx, sgnD_nz hy] at hs
    cases h1 : x.1 <;> cases h2 : y.1 <;> rw [h1, h2] at hs <;> first | rfl | exact absurd hs (by decide)
  have hn1 : (negD y).1 = !y.1 := by unfold negD; rw [decide_eq_false hy]; simp
  obtain ⟨ee, hee⟩ : ∃ ee : Int, min x.2.2 (negD y).2.2 = ee := ⟨_, rfl⟩
  have hee' : min x.2.2 y.2.2 = ee := hee
  obtain ⟨i, hi⟩ : ∃ i : Nat, x.2.2 - ee = (i : Int) := ⟨(x.2.2 - ee).toNat, by omega⟩
  obtain ⟨j, hj⟩ : ∃ j : Nat, (negD y).2.2 - ee = (j : Int) := ⟨((negD y).2.2 - ee).toNat, by show y.2.2 - ee = _; have : (negD y).2.2 = y.2.2 := rfl; rw [this]; omega⟩
  have hj' : y.2.2 - ee = (j : Int) := hj
  have key : amtD x.2.1 x.2.2 y.2.1 y.2.2 = cmpN (x.2.1 * 2 ^ i) (y.2.1 * 2 ^ j) := by
    unfold amtD
    rw [if_neg (by omega)]
    by_cases hl : x.2.2 < y.2.2
    · rw [if_pos hl, show (y.2.2 - x.2.2).toNat = j by omega, show i = 0 by omega, Nat.pow_zero, Nat.mul_one]
      exact cmpN_turn _ _
    · rw [if_neg hl, show (x.2.2 - y.2.2).toNat = i by omega, show j = 0 by omega, Nat.pow_zero, Nat.mul_one]
  unfold cmpD
  rw [if_neg (by simpa using hs), if_neg hx, key, plus_q x (negD y) hx hy ee hee i hi j hj, hn1]
  rw [if_neg (by rw [hss]; cases y.1 <;> decide)]
  show sgnD (if y.2.1 * 2 ^ j ≤ x.2.1 * 2 ^ i then formD x.1 (x.2.1 * 2 ^ i - y.2.1 * 2 ^ j) ee else formD (!y.1) (y.2.1 * 2 ^ j - x.2.1 * 2 ^ i) ee) = _
  rw [sgnD_nz hx]
  generalize x.2.1 * 2 ^ i = M
  generalize y.2.1 * 2 ^ j = N
  by_cases hc : N ≤ M
  · rw [if_pos hc, sgnQ_form]
    unfold sgnQ cmpN
    rw [if_neg (show ¬ M < N by omega)]
    by_cases h0 : M - N = 0
    · rw [if_pos h0, if_neg (show ¬ N < M by omega)]; simp
    · rw [if_neg h0, if_pos (show N < M by omega)]; simp
  · rw [if_neg hc, sgnQ_form]
    unfold sgnQ cmpN
    rw [if_pos (show M < N by omega), if_neg (show ¬ N - M = 0 by omega), ← hss]
    cases x.1 <;> decide
theorem qOrder_calls (s : Bool) (a : Option Addr) (len cap : Nat) (xs : List Int) (e : Int) (t : Bool) (b : Option Addr) (len' cap' : Nat) (ys : List Int) (f : Int) (w : World) (h : IsW w a len cap xs) (hm : len ≤ 17592186044000) (h' : IsW w b len' cap' ys) (hm' : len' ≤ 17592186044000) (he : -5000000 ≤ e ∧ e ≤ 5000000) (hf : -5000000 ≤ f ∧ f ≤ 5000000) (hbx : blen (val xs) ≤ 5000000) (hby : blen (val ys) ≤ 5000000) :
    Calls Tryz.prog 29 #[dyV s a len cap e, dyV t b len' cap' f] w fun r w' => r = .returned (.int .i64 (cmpD (formD s (val xs) e) (formD t (val ys) f))) ∧ Below w.heap.size w w' := by
  have e1 := sgnQ_form s (val xs) e
  have e2 := sgnQ_form t (val ys) f
  by_cases hs : sgnQ s (val xs) = sgnQ t (val ys)
  · by_cases h0 : val xs = 0
    · have z1 : sgnQ s (val xs) = 0 := by unfold sgnQ; rw [if_pos h0]
      have hc : cmpD (formD s (val xs) e) (formD t (val ys) f) = 0 := by
        unfold cmpD
        rw [e1, e2, if_neg (by simpa using hs), if_pos (by rw [h0, form_zero])]
      rw [hc]
      exact qorder_zero s a len cap xs e t b len' cap' ys f w h hm h' hm' z1 (hs ▸ z1)
    · have hz : sgnQ s (val xs) ≠ 0 := by unfold sgnQ; rw [if_neg h0]; split <;> decide
      have h0' : val ys ≠ 0 := fun q => hz (by rw [hs]; unfold sgnQ; rw [if_pos q])
      have m1 : (formD s (val xs) e).2.1 ≠ 0 := by rw [form_pos s h0]; intro q; have := (odd_part h0).1; have q' : val xs / 2 ^ tz (val xs) = 0 := q; rw [q'] at this; exact absurd this (by decide)
      have m2 : (formD t (val ys) f).2.1 ≠ 0 := by rw [form_pos t h0']; intro q; have := (odd_part h0').1; have q' : val ys / 2 ^ tz (val ys) = 0 := q; rw [q'] at this; exact absurd this (by decide)
      have t1 := top_form s e h0
      have t2 := top_form t f h0'
      rcases Int.lt_trichotomy (e + (blen (val xs) : Int) - 1) (f + (blen (val ys) : Int) - 1) with q | q | q
      · have hc : cmpD (formD s (val xs) e) (formD t (val ys) f) = -sgnQ s (val xs) := by
          unfold cmpD amtD Lib.compareInt
          rw [e1, e2, if_neg (by simpa using hs), if_neg m1, t1, t2, if_pos (by omega), if_pos (by omega)]
          omega
        rw [hc]
        exact qorder_low s a len cap xs e t b len' cap' ys f w h hm h' hm' he hf hbx hby _ rfl hs.symm hz (sgnQ_range _ _) q
      · rw [← cmp_less (formD s (val xs) e) (formD t (val ys) f) m1 m2 (by rw [e1, e2]; exact hs) (by rw [t1, t2]; exact q)]
        exact qorder_less s a len cap xs e t b len' cap' ys f w h hm h' hm' he hf hbx hby _ rfl hs.symm hz (sgnQ_range _ _) q
      · have hc : cmpD (formD s (val xs) e) (formD t (val ys) f) = sgnQ s (val xs) := by
          unfold cmpD amtD Lib.compareInt
          rw [e1, e2, if_neg (by simpa using hs), if_neg m1, t1, t2, if_pos (by omega), if_neg (by omega), if_pos (by omega)]
          omega
        rw [hc]
        exact qorder_top s a len cap xs e t b len' cap' ys f w h hm h' hm' he hf hbx hby _ rfl hs.symm hz (sgnQ_range _ _) q
  · have hc : cmpD (formD s (val xs) e) (formD t (val ys) f) = Lib.compareInt (sgnQ s (val xs)) (sgnQ t (val ys)) := by
      unfold cmpD
      rw [e1, e2, if_pos hs]
    rw [hc]
    unfold Lib.compareInt
    by_cases q : sgnQ s (val xs) < sgnQ t (val ys)
    · rw [if_pos q]
      exact qorder_lt s a len cap xs e t b len' cap' ys f w h hm h' hm' q
    · rw [if_neg q, if_pos (by omega)]
      exact qorder_gt s a len cap xs e t b len' cap' ys f w h hm h' hm' (by omega)

def ftE (m : Nat) (e : Int) : Int := if rightB m e = true then (if m = 0 then 5 else 0) else 2
def tpV (m : Nat) (e : Int) : Int := if ftE m e = 0 then e + (blen m : Int) - 1 else 0

end Go.Proofs.YtognliaoonkmiaaGreatDoor

namespace Go.Proofs.YtognliaoonkmiaaGreatDoor
open Go.RowKit

theorem form_nz (s : Bool) {m : Nat} (e : Int) (h0 : m ≠ 0) : (formD s m e).2.1 ≠ 0 := by
  have h1 := (odd_part h0).1
  rw [form_pos s h0]
  exact fun q => by have q' : m / 2 ^ tz m = 0 := q; rw [q'] at h1; exact absurd h1 (by decide)

set_option maxRecDepth 100000 in
set_option maxHeartbeats 2000000 in
theorem mtop_not (s : Bool) (a : Option Addr) (len cap : Nat) (xs : List Int) (e : Int) (w : World) (h : IsW w a len cap xs) (hm : len ≤ 17592186044000) (hr : rightB (val xs) e = false) :
    Calls Tryz.prog 105 #[.func (.func 106) #[] #[], dyV s a len cap e] w fun r w' => r = .returned (.tuple #[.int .i64 (0), .int .i64 (2)]) ∧ Below w.heap.size w w' := by
  have bw : Below w.heap.size w ((w.alloc (.cells #[.bool s, .slice a len cap, .int .i64 e] 25)).alloc (.cells #[.bool s, .slice a len cap, .int .i64 e] 25)) := by repeat (first | exact Below.refl _ _ | refine bl_alloc ?_ _)
  have HR : Hid _ := right1_calls (w.heap.size + 1) s a len cap xs e ((w.alloc (.cells #[.bool s, .slice a len cap, .int .i64 e] 25)).alloc (.cells #[.bool s, .slice a len cap, .int .i64 e] 25)) (h.keep bw) (by omega) (by go_simp) (by go_simp) (by go_simp)
  obtain ⟨k0, k1, k2⟩ := fX5 w s a len cap e
  have H1 : Hid (IsW w a len cap xs) := h
  rw [hr] at HR
  clear hr h hm k0 k1 k2
  go_enter Tryz.func105, Tryz.ntmps105
  go_wp2_with fail
  refine Calls.mono HR.out ?_
  rintro r w1 ⟨rfl, b1⟩
  replace bw := nT bw b1
  clear b1
  go_wp2_with fail
  go_ret2
  exact ⟨rfl, bw⟩

set_option maxRecDepth 100000 in
set_option maxHeartbeats 2000000 in
theorem mtop_zero (s : Bool) (a : Option Addr) (len cap : Nat) (xs : List Int) (e : Int) (w : World) (h : IsW w a len cap xs) (hm : len ≤ 17592186044000) (hT : Tab w) (hr : rightB (val xs) e = true) (h0 : val xs = 0) :
    Calls Tryz.prog 105 #[.func (.func 106) #[] #[], dyV s a len cap e] w fun r w' => r = .returned (.tuple #[.int .i64 (0), .int .i64 (5)]) ∧ Below w.heap.size w w' := by
  have bw : Below w.heap.size w ((w.alloc (.cells #[.bool s, .slice a len cap, .int .i64 e] 25)).alloc (.cells #[.bool s, .slice a len cap, .int .i64 e] 25)) := by repeat (first | exact Below.refl _ _ | refine bl_alloc ?_ _)
  have HR : Hid _ := right1_calls (w.heap.size + 1) s a len cap xs e ((w.alloc (.cells #[.bool s, .slice a len cap, .int .i64 e] 25)).alloc (.cells #[.bool s, .slice a len cap, .int .i64 e] 25)) (h.keep bw) (by omega) (by go_simp) (by go_simp) (by go_simp)
  obtain ⟨k0, k1, k2⟩ := fX5 w s a len cap e
  have H1 : Hid (IsW w a len cap xs) := h
  rw [hr] at HR
  have HC : Hid _ := fun W g t => canon_num s a len cap xs e W g (by omega) t hr
  have HT0 : Hid (∀ W, Below w.heap.size w W → Tab W) := fun W hW => hT.kept hW
  have hx : (formD s (val xs) e).2.1 = 0 := by rw [h0, form_zero]
  generalize (formD s (val xs) e) = x at *
  have HX : Hid _ := hx
  clear hx h0
  clear hr h hm hT
  go_enter Tryz.func105, Tryz.ntmps105
  go_wp2_with fail
  refine Calls.mono HR.out ?_
  rintro r w1 ⟨rfl, b1⟩
  replace bw := nT bw b1
  replace k0 := kC b1 k0
  replace k1 := kC b1 k1
  replace k2 := kC b1 k2
  clear b1
  go_wp2_with fail
  refine Calls.mono (HC.out _ (H1.out.keep bw) (HT0.out _ bw)) ?_
  rintro r w2 ⟨_, rfl, ⟨a2, n2, c2, rfl, HN2, HZ2, hn2, hO2⟩, b2⟩
  have bA := below_one w2 (.cells #[.bool x.1, .slice a2 n2 c2, .int .i64 x.2.2, .bool false] 82)
  replace bw := nT (nT bw b2) bA
  obtain ⟨o0, o1, o2, o3⟩ := fX6 w2 x a2 n2 c2
  replace hO2 := hO2.keep bA
  clear b2 bA k0 k1 k2 HC HR
  go_wp2_with fail
  generalize w2.alloc (.cells #[.bool x.1, .slice a2 n2 c2, .int .i64 x.2.2, .bool false] 82) = w3 at *
  refine Calls.mono (zero_calls x.1 a2 n2 c2 x.2.2 false w3) ?_
  rintro r w4 ⟨rfl, rfl⟩
  have bB := below_one w3 (.cells #[.bool x.1, .slice a2 n2 c2, .int .i64 x.2.2, .bool false] 82)
  replace bw := nT bw bB
  replace o0 := kC bB o0
  replace o1 := kC bB o1
  replace o2 := kC bB o2
  replace o3 := kC bB o3
  replace hO2 := hO2.keep bB
  clear bB
  have hn0 : ((n2 : Int) == 0) = true := by rw [HN2.out, HX.out, words_zero]; rfl
  go_wp2_with fail
  go_ret2
  exact ⟨rfl, bw⟩

set_option maxRecDepth 100000 in
set_option maxHeartbeats 2000000 in
theorem mtop_yes (s : Bool) (a : Option Addr) (len cap : Nat) (xs : List Int) (e : Int) (w : World) (h : IsW w a len cap xs) (hm : len ≤ 17592186044000) (hT : Tab w) (hr : rightB (val xs) e = true) (h0 : val xs ≠ 0) :
    Calls Tryz.prog 105 #[.func (.func 106) #[] #[], dyV s a len cap e] w fun r w' => r = .returned (.tuple #[.int .i64 (e + (blen (val xs) : Int) - 1), .int .i64 (0)]) ∧ Below w.heap.size w w' := by
  have bw : Below w.heap.size w ((w.alloc (.cells #[.bool s, .slice a len cap, .int .i64 e] 25)).alloc (.cells #[.bool s, .slice a len cap, .int .i64 e] 25)) := by repeat (first | exact Below.refl _ _ | refine bl_alloc ?_ _)
  have HR : Hid _ := right1_calls (w.heap.size + 1) s a len cap xs e ((w.alloc (.cells #[.bool s, .slice a len cap, .int .i64 e] 25)).alloc (.cells #[.bool s, .slice a len cap, .int .i64 e] 25)) (h.keep bw) (by omega) (by go_simp) (by go_simp) (by go_simp)
  obtain ⟨k0, k1, k2⟩ := fX5 w s a len cap e
  have H1 : Hid (IsW w a len cap xs) := h
  rw [hr] at HR
  have HC : Hid _ := fun W g t => canon_num s a len cap xs e W g (by omega) t hr
  have HT0 : Hid (∀ W, Below w.heap.size w W → Tab W) := fun W hW => hT.kept hW
  have hx := form_nz s e h0
  have hv := top_form s e h0
  have HG : Hid _ := form_fit s (val xs) e hr
  have HB : Hid _ := form_bounds s (val xs) e hr
  generalize (formD s (val xs) e) = x at *
  rw [← hv]
  have HX : Hid _ := hx
  clear hx h0 hv
  clear hr h hm hT
  go_enter Tryz.func105, Tryz.ntmps105
  go_wp2_with fail
  refine Calls.mono HR.out ?_
  rintro r w1 ⟨rfl, b1⟩
  replace bw := nT bw b1
  replace k0 := kC b1 k0
  replace k1 := kC b1 k1
  replace k2 := kC b1 k2
  clear b1
  go_wp2_with fail
  refine Calls.mono (HC.out _ (H1.out.keep bw) (HT0.out _ bw)) ?_
  rintro r w2 ⟨_, rfl, ⟨a2, n2, c2, rfl, HN2, HZ2, hn2, hO2⟩, b2⟩
  have bA := below_one w2 (.cells #[.bool x.1, .slice a2 n2 c2, .int .i64 x.2.2, .bool false] 82)
  replace bw := nT (nT bw b2) bA
  obtain ⟨o0, o1, o2, o3⟩ := fX6 w2 x a2 n2 c2
  replace hO2 := hO2.keep bA
  clear b2 bA k0 k1 k2 HC HR
  go_wp2_with fail
  generalize w2.alloc (.cells #[.bool x.1, .slice a2 n2 c2, .int .i64 x.2.2, .bool false] 82) = w3 at *
  refine Calls.mono (zero_calls x.1 a2 n2 c2 x.2.2 false w3) ?_
  rintro r w4 ⟨rfl, rfl⟩
  have bB := below_one w3 (.cells #[.bool x.1, .slice a2 n2 c2, .int .i64 x.2.2, .bool false] 82)
  replace bw := nT bw bB
  replace o0 := kC bB o0
  replace o1 := kC bB o1
  replace o2 := kC bB o2
  replace o3 := kC bB o3
  replace hO2 := hO2.keep bB
  clear bB
  have hn0 : ((n2 : Int) == 0) = false := nz_len HN2.out HX.out
  go_wp2_with fail
  refine Calls.mono (top_calls x.1 a2 n2 c2 x.2.1 x.2.2 false _ hO2.1 hn2 HG.out (by have := HB.out; omega)) ?_
  rintro r w5 ⟨rfl, b5⟩
  replace bw := nT bw b5
  clear b5 o0 o1 o2 o3
  go_wp2_with fail
  go_ret2
  exact ⟨rfl, bw⟩

set_option maxRecDepth 100000 in
set_option maxHeartbeats 2000000 in
theorem pTop_calls (s : Bool) (a : Option Addr) (len cap : Nat) (xs : List Int) (e : Int) (w : World) (h : IsW w a len cap xs) (hm : len ≤ 17592186044000) (hT : Tab w) :
    Calls Tryz.prog 83 #[dyV s a len cap e] w fun r w' => r = .returned (.tuple #[.int .i64 (tpV (val xs) e), .int .i64 (ftE (val xs) e)]) ∧ Below w.heap.size w w' := by
  have bw := below_one w (.cells #[.bool s, .slice a len cap, .int .i64 e] 25)
  have HM : Hid (Calls Tryz.prog 105 #[.func (.func 106) #[] #[], dyV s a len cap e] (w.alloc (.cells #[.bool s, .slice a len cap, .int .i64 e] 25)) fun r w' => r = .returned (.tuple #[.int .i64 (tpV (val xs) e), .int .i64 (ftE (val xs) e)]) ∧ Below (w.alloc (.cells #[.bool s, .slice a len cap, .int .i64 e] 25)).heap.size (w.alloc (.cells #[.bool s, .slice a len cap, .int .i64 e] 25)) w') := by
    cases hr : rightB (val xs) e with
    | false =>
      have e1 : ftE (val xs) e = 2 := by unfold ftE; rw [hr]; rfl
      have e2 : tpV (val xs) e = 0 := by unfold tpV; rw [e1]; rfl
      rw [e1, e2]
      exact mtop_not s a len cap xs e _ (h.keep bw) hm hr
    | true =>
      by_cases h0 : val xs = 0
      · have e1 : ftE (val xs) e = 5 := by unfold ftE; rw [hr, if_pos rfl, if_pos h0]
        have e2 : tpV (val xs) e = 0 := by unfold tpV; rw [e1]; rfl
        rw [e1, e2]
        exact mtop_zero s a len cap xs e _ (h.keep bw) hm (hT.kept bw) hr h0
      · have e1 : ftE (val xs) e = 0 := by unfold ftE; rw [hr, if_pos rfl, if_neg h0]
        have e2 : tpV (val xs) e = e + (blen (val xs) : Int) - 1 := by unfold tpV; rw [e1]; rfl
        rw [e1, e2]
        exact mtop_yes s a len cap xs e _ (h.keep bw) hm (hT.kept bw) hr h0
  generalize tpV (val xs) e = rv at *
  generalize ftE (val xs) e = re at *
  clear h hm hT
  go_enter Tryz.func83, Tryz.ntmps83
  go_wp2_with fail
  refine Calls.mono HM.out ?_
  rintro r w1 ⟨rfl, b1⟩
  replace bw := nT bw b1
  clear b1
  go_wp2_with fail
  go_ret2
  exact ⟨rfl, bw⟩
end Go.Proofs.YtognliaoonkmiaaGreatDoor

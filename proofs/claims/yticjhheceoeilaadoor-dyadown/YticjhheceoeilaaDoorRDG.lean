/- The program's dyadic numbers: times, Sub, Mul. The document's dyadic numbers: the product. The document's dyadic numbers: Add, Sub, Mul; the program's in the same words. The document's dyadic numbers: Sign, Top, Order, Cmp, Bits, Size, TopOf. The document's dyadic numbers: Order, Cmp, Size, TopOf; the program's Cmp, Size, Top in the same words. The program's dyadic numbers: Size, Top. -/
import Derived.Test.YticjhheceoeilaaDoorDGA
import Derived.Test.YticjhheceoeilaaDoorNMM
import Derived.Test.YticjhheceoeilaaDoorDCan2
import Derived.Deep.CutRange
import Derived.Deep.RegionHeld3
import Derived.Test.YticjhheceoeilaaDoorRDE
import Derived.Test.YticjhheceoeilaaDoorNRM
import Derived.Test.YticjhheceoeilaaDoorDCmp2
import Derived.Test.YticjhheceoeilaaDoorRDA
namespace Go.Proofs.YticjhheceoeilaaDoor

section
open Go.RowKit

/-- The product of two numbers. -/
def mulD (x y : Bool × Nat × Int) : Bool × Nat × Int := formD (!(x.1 == y.1)) (x.2.1 * y.2.1) (x.2.2 + y.2.2)
theorem NumAt.kept {B : Nat} {w w' : World} {v : Value} {p : Bool × Nat × Int} (h : NumAt B w v p) (hb : Below w.heap.size w w') : NumAt B w' v p := by
  obtain ⟨ao, n, c, h0, h1, h2, h3, h4⟩ := h
  exact ⟨ao, n, c, h0, h1, h2, h3, h4.keep hb⟩
theorem NumAt.lows {B B' : Nat} {w : World} {v : Value} {p : Bool × Nat × Int} (h : NumAt B w v p) (hB : B' ≤ B) : NumAt B' w v p := by
  obtain ⟨ao, n, c, h0, h1, h2, h3, h4⟩ := h
  exact ⟨ao, n, c, h0, h1, h2, h3, h4.low hB⟩
theorem numAt_shape {B : Nat} {w : World} {v : Value} {p : Bool × Nat × Int} (h : NumAt B w v p) : ∃ (s : Bool) (a : Option Addr) (n c : Nat) (e : Int), v = numV s a n c e false ∧ Hid (NumAt B w (numV s a n c e false) p) := by
  obtain ⟨ao, n, c, rfl, h⟩ := h
  exact ⟨p.1, ao, n, c, p.2.2, rfl, ⟨ao, n, c, rfl, h⟩⟩
theorem negated_num (B : Nat) (v : Value) (x : Bool × Nat × Int) (w : World) (hX : NumAt B w v x) :
    Calls Tryd.prog 50 #[v] w fun r w' => ∃ v, r = .returned v ∧ NumAt B w' v (negD x) ∧ Below w.heap.size w w' := by
  obtain ⟨ax, nx, kx, rfl, HNx, HZx, hnx, hOx⟩ := hX
  refine (negated_calls x.1 ax nx kx x.2.2 false w).mono ?_
  rintro r w' ⟨rfl, hb⟩
  rw [neg_sign HNx.out]
  exact ⟨_, rfl, ⟨ax, nx, kx, rfl, HNx, HZx, hnx, hOx.keep hb⟩, hb⟩
theorem negD_canon {x : Bool × Nat × Int} (h : CanD x) : CanD (negD x) := by
  rcases h with h | h
  · left; rw [h]; rfl
  · right; exact h
theorem canon_num (s : Bool) (a : Option Addr) (len cap : Nat) (xs : List Int) (e : Int) (w : World) (h : IsW w a len cap xs) (hm : len ≤ 17592186044416) (hT : Tab w) (hr : rightB (val xs) e = true) :
    Calls Tryd.prog 25 #[dyV s a len cap e] w fun r w' => ∃ v, r = .returned v ∧ NumAt w.heap.size w' v (formD s (val xs) e) ∧ Below w.heap.size w w' := by
  have hE := right_exp hr
  refine (canonical_calls s a len cap xs e w h hm hT).mono ?_
  rintro r w' ⟨ao, n, c, e', rfl, HE, HN, HZ, hn, hO, hb⟩
  have h1 := HE.out hE.1 hE.2
  rw [canG_no (rightB_yes hr).1] at h1 HN hO ⊢
  subst h1
  exact ⟨_, rfl, ⟨ao, n, c, rfl, HN, HZ, hn, hO⟩, hb⟩
theorem mul_odd {x y : Bool × Nat × Int} (cx : CanD x) (cy : CanD y) : greatB (x.2.1 * y.2.1) = true → (x.2.1 * y.2.1) % 2 = 1 := by
  intro hg
  rcases cx with q | q
  · rw [q] at hg; simp [great_zero] at hg
  · rcases cy with q' | q'
    · rw [q'] at hg; simp [great_zero] at hg
    · rw [Nat.mul_mod, q, q']

set_option maxRecDepth 100000 in
set_option maxHeartbeats 2000000 in
theorem dtimes_calls (B : Nat) (vx vy : Value) (x y : Bool × Nat × Int) (w : World) (hX : NumAt B w vx x) (hY : NumAt B w vy y) (gx : greatB x.2.1 = false) (gy : greatB y.2.1 = false) (cx : CanD x) (cy : CanD y) (ex : -100000000 ≤ x.2.2 ∧ x.2.2 ≤ 100000000) (ey : -100000000 ≤ y.2.2 ∧ y.2.2 ≤ 100000000) (hT : Tab w) :
    Calls Tryd.prog 45 #[vx, vy] w fun r w' => ∃ v, r = .returned v ∧ NumR w.heap.size w' v (mulD x y) ∧ Below w.heap.size w w' := by
  obtain ⟨ax, nx, kx, rfl, HNx, HZx, hnx, hOx⟩ := hX
  obtain ⟨ay, ny, ky, rfl, HNy, HZy, hny, hOy⟩ := hY
  have MC : Hid _ := fun w' g g' => mul_calls ax ay nx kx ny ky (wordsOf x.2.1) (wordsOf y.2.1) w' g g' (by omega) (by omega)
  rw [val_words, val_words, mulR_no (by rw [gx, gy]; rfl)] at MC
  have hew : IntKind.i64.wrap (x.2.2 + y.2.2) = x.2.2 + y.2.2 := by rw [IntKind.wrap_i64]; omega
  have RC : Hid _ := fun a' n' c' w' g (q : n' ≤ 1024) t => reckoned_calls (!(x.1 == y.1)) a' n' c' (x.2.1 * y.2.1) (x.2.2 + y.2.2) w' g (by omega) t (by omega) (mul_odd cx cy)
  have HFL : Hid _ := fitR_len (x.2.1 * y.2.1)
  have hu : mulD x y = formD (!(x.1 == y.1)) (x.2.1 * y.2.1) (x.2.2 + y.2.2) := rfl
  rw [← hu] at RC
  generalize mulD x y = p at *
  generalize x.2.1 * y.2.1 = u at *
  have bw0 : Below w.heap.size w (((w.alloc (.cells #[.bool x.1, .slice ax nx kx, .int .i64 x.2.2, .bool false] 52)).alloc (.cells #[.bool y.1, .slice ay ny ky, .int .i64 y.2.2, .bool false] 52)).alloc (.cells #[.bool false, .slice none 0 0, .int .i64 0, .bool false] 52)) := by repeat (first | exact Below.refl _ _ | refine Below.alloc ?_ (by simp; try omega) _)
  have hIx := hOx.1.keep bw0
  have hIy := hOy.1.keep bw0
  have HT0 : Hid (∀ W, Below w.heap.size w W → Tab W) := fun W hW => hT.kept hW
  have k0 : (((w.alloc (.cells #[.bool x.1, .slice ax nx kx, .int .i64 x.2.2, .bool false] 52)).alloc (.cells #[.bool y.1, .slice ay ny ky, .int .i64 y.2.2, .bool false] 52)).alloc (.cells #[.bool false, .slice none 0 0, .int .i64 0, .bool false] 52)).cell? ⟨w.heap.size, 0, none⟩ = some (.bool x.1) := by go_simp
  have k2 : (((w.alloc (.cells #[.bool x.1, .slice ax nx kx, .int .i64 x.2.2, .bool false] 52)).alloc (.cells #[.bool y.1, .slice ay ny ky, .int .i64 y.2.2, .bool false] 52)).alloc (.cells #[.bool false, .slice none 0 0, .int .i64 0, .bool false] 52)).cell? ⟨w.heap.size, 2, none⟩ = some (.int .i64 x.2.2) := by go_simp
  have l0 : (((w.alloc (.cells #[.bool x.1, .slice ax nx kx, .int .i64 x.2.2, .bool false] 52)).alloc (.cells #[.bool y.1, .slice ay ny ky, .int .i64 y.2.2, .bool false] 52)).alloc (.cells #[.bool false, .slice none 0 0, .int .i64 0, .bool false] 52)).cell? ⟨w.heap.size + 1, 0, none⟩ = some (.bool y.1) := by go_simp
  have l2 : (((w.alloc (.cells #[.bool x.1, .slice ax nx kx, .int .i64 x.2.2, .bool false] 52)).alloc (.cells #[.bool y.1, .slice ay ny ky, .int .i64 y.2.2, .bool false] 52)).alloc (.cells #[.bool false, .slice none 0 0, .int .i64 0, .bool false] 52)).cell? ⟨w.heap.size + 1, 2, none⟩ = some (.int .i64 y.2.2) := by go_simp
  clear gx gy cx cy hT hOx hOy HNx HNy HZx HZy hu
  go_enter Tryd.func45, Tryd.ntmps45
  go_wp2_with fail
  refine Calls.mono (MC.out _ hIx hIy) ?_
  rintro r w1 ⟨v1, rfl, hA1, b1⟩
  obtain ⟨a1, n1, c1, rfl, HN1, hn1, hO1⟩ := hA1.open HFL.out
  have bw1 := nbelow_trans bw0 b1
  replace k0 := dcarry_cell b1 k0
  replace k2 := dcarry_cell b1 k2
  replace l0 := dcarry_cell b1 l0
  replace l2 := dcarry_cell b1 l2
  clear hA1 MC hIx hIy
  go_wp2_with fail
  refine Calls.mono (RC.out _ _ _ _ hO1.1 hn1 (HT0.out _ bw1)) ?_
  rintro r w2 ⟨v2, rfl, hN2, b2⟩
  obtain ⟨s5, a5, n5, c5, e5, g5, rfl, HNR⟩ := numR_form hN2
  have bw2 := nbelow_trans bw1 b2
  obtain ⟨m0, m1, m2, m3, f0, f1, f2, f3⟩ := zero_num (w := ((w.alloc (.cells #[.bool x.1, .slice ax nx kx, .int .i64 x.2.2, .bool false] 52)).alloc (.cells #[.bool y.1, .slice ay ny ky, .int .i64 y.2.2, .bool false] 52))) (r := w.heap.size + 1 + 1) (W' := w2) (nbelow_trans b1 b2) (by simp)
  have hsz : w.heap.size + 1 + 1 < w1.heap.size := by have := b1.size; simp at this; omega
  clear hN2 b1 b2 bw0 bw1 RC k0 k2 l0 l2
  go_wp2_with fail
  refine bodyPost_ret (v := numV s5 a5 n5 c5 e5 g5) (by simp [results, Tryd.results45, go_sem, m0, m1, m2, m3]) rfl ⟨_, rfl, ((((HNR.out.far _ _ (by show w.heap.size + 1 + 1 < _; omega)).far _ _ (by show w.heap.size + 1 + 1 < _; omega)).far _ _ (by show w.heap.size + 1 + 1 < _; omega)).far _ _ (by show w.heap.size + 1 + 1 < _; omega)).low (by omega), ?_⟩
  exact (((bw2.setCell (by show w.heap.size ≤ w.heap.size + 1 + 1; omega) _).setCell (by show w.heap.size ≤ w.heap.size + 1 + 1; omega) _).setCell (by show w.heap.size ≤ w.heap.size + 1 + 1; omega) _).setCell (by show w.heap.size ≤ w.heap.size + 1 + 1; omega) _

theorem set4_cell {W : World} {b o r : Nat} {v0 v1 v2 v3 x : Value} (h : W.cell? ⟨b, o, none⟩ = some x) (hne : b ≠ r) : ((((W.setCell ⟨r, 0, none⟩ v0).setCell ⟨r, 1, none⟩ v1).setCell ⟨r, 2, none⟩ v2).setCell ⟨r, 3, none⟩ v3).cell? ⟨b, o, none⟩ = some x := cell_set4 h hne
attribute [local go_sem ↓] Go.wp_at_zero Go.wp_at_succ

set_option maxRecDepth 100000 in
set_option maxHeartbeats 4000000 in
theorem sub1_calls (b1 b2 : Nat) (s : Bool) (a : Option Addr) (len cap : Nat) (xs : List Int) (e : Int) (s' : Bool) (a' : Option Addr) (len' cap' : Nat) (ys : List Int) (e' : Int) (w : World) (h : IsW w a len cap xs) (hm : len ≤ 17592186044416) (h' : IsW w a' len' cap' ys) (hm' : len' ≤ 17592186044416) (hT : Tab w) (hr : rightB (val xs) e = true) (hr' : rightB (val ys) e' = true)
    (k0 : w.cell? ⟨b1, 0, none⟩ = some (.bool s)) (k1 : w.cell? ⟨b1, 1, none⟩ = some (.slice a len cap)) (k2 : w.cell? ⟨b1, 2, none⟩ = some (.int .i64 e))
    (l0 : w.cell? ⟨b2, 0, none⟩ = some (.bool s')) (l1 : w.cell? ⟨b2, 1, none⟩ = some (.slice a' len' cap')) (l2 : w.cell? ⟨b2, 2, none⟩ = some (.int .i64 e')) :
    Calls Tryd.prog 49 #[.pointer (some ⟨b1, 0, none⟩), .pointer (some ⟨b2, 0, none⟩)] w fun r w' => ∃ v, r = .returned v ∧ NumR w.heap.size w' v (sumD (formD s (val xs) e) (negD (formD s' (val ys) e'))) ∧ Below w.heap.size w w' := by
  have HX : Hid _ := fun W g t => canon_num s a len cap xs e W g hm t hr
  have HY : Hid _ := fun W g t => canon_num s' a' len' cap' ys e' W g hm' t hr'
  have HGX : Hid _ := form_fit s (val xs) e hr
  have HGY : Hid _ := form_fit s' (val ys) e' hr'
  have HBX : Hid _ := form_bounds s (val xs) e hr
  have HBY : Hid _ := form_bounds s' (val ys) e' hr'
  have HCX : Hid _ := form_can s (val xs) e
  have HCY : Hid _ := form_can s' (val ys) e'
  have H1 : Hid (IsW w a len cap xs) := h
  have H2 : Hid (IsW w a' len' cap' ys) := h'
  have HT0 : Hid (∀ W, Below w.heap.size w W → Tab W) := fun W hW => hT.kept hW
  have nb1 : b1 ≠ w.heap.size := Nat.ne_of_lt (World.block_lt_of_cell? _ _ k0)
  have nb2 : b2 ≠ w.heap.size := Nat.ne_of_lt (World.block_lt_of_cell? _ _ l0)
  generalize formD s (val xs) e = x at *
  generalize formD s' (val ys) e' = y at *
  clear hr hr' hm hm' h h' hT
  have bw := below_one w (.cells #[.bool false, .slice none 0 0, .int .i64 0, .bool false] 52)
  obtain ⟨m0, m1, m2, m3, f0, f1, f2, f3⟩ := zero_num (w := w) (r := w.heap.size) (W' := (w.alloc (.cells #[.bool false, .slice none 0 0, .int .i64 0, .bool false] 52))) (Below.refl _ _) rfl
  replace k0 := dcarry_cell bw k0
  replace k1 := dcarry_cell bw k1
  replace k2 := dcarry_cell bw k2
  replace l0 := dcarry_cell bw l0
  replace l1 := dcarry_cell bw l1
  replace l2 := dcarry_cell bw l2
  have hs0 : w.heap.size + 1 ≤ (w.alloc (.cells #[.bool false, .slice none 0 0, .int .i64 0, .bool false] 52)).heap.size := by simp
  go_enter Tryd.func49, Tryd.ntmps49
  go_upto_region 1 with fail
  generalize (w.alloc (.cells #[.bool false, .slice none 0 0, .int .i64 0, .bool false] 52)) = w0 at *
  have bd : Below w0.heap.size w0 w0.drew := (Below.refl _ _).drew
  refine wp_region_held (S := fun w' => w'.cell? ⟨b1, 0, none⟩ = some (.bool s) ∧ w'.cell? ⟨b1, 1, none⟩ = some (.slice a len cap) ∧ w'.cell? ⟨b1, 2, none⟩ = some (.int .i64 e) ∧ w'.cell? ⟨b2, 0, none⟩ = some (.bool s') ∧ w'.cell? ⟨b2, 1, none⟩ = some (.slice a' len' cap') ∧ w'.cell? ⟨b2, 2, none⟩ = some (.int .i64 e')) (by kernel_rfl) ?_
  change wpAnyH _ _ _ _ _ _ _ _ (World.drew w0)
  replace k0 := dcarry_cell bd k0
  replace k1 := dcarry_cell bd k1
  replace k2 := dcarry_cell bd k2
  replace l0 := dcarry_cell bd l0
  replace l1 := dcarry_cell bd l1
  replace l2 := dcarry_cell bd l2
  replace f0 := dcarry_frozen bd m0 f0
  replace f1 := dcarry_frozen bd m1 f1
  replace f2 := dcarry_frozen bd m2 f2
  replace f3 := dcarry_frozen bd m3 f3
  replace m0 := dcarry_cell bd m0
  replace m1 := dcarry_cell bd m1
  replace m2 := dcarry_cell bd m2
  replace m3 := dcarry_cell bd m3
  replace bw := nbelow_trans bw bd
  replace hs0 := Nat.le_trans hs0 bd.size
  clear bd
  generalize World.drew w0 = wd at *
  refine wpAnyH_take (i := 0) (v := .agg #[.bool s, .slice a len cap, .int .i64 e]) rfl (by kernel_rfl) (by kernel_rfl) (by kernel_rfl) (fun _ _ _ h => h) (Or.inl ⟨by rfl, ?y0⟩) ⟨k0, k1, k2, l0, l1, l2⟩ ?r0
  case y0 => (rintro ww ⟨q0, q1, q2, q3, q4, q5⟩; go_simp)
  try simp only [Act.put]
  refine wpAnyH_take (i := 2) (v := .agg #[.bool s', .slice a' len' cap', .int .i64 e']) rfl (by kernel_rfl) (by kernel_rfl) (by kernel_rfl) (fun _ _ _ h => h) (Or.inl ⟨by rfl, ?y1⟩) ⟨k0, k1, k2, l0, l1, l2⟩ ?r1
  case y1 => (rintro ww ⟨q0, q1, q2, q3, q4, q5⟩; go_simp)
  try simp only [Act.put]
  refine wpAnyH_ready (rs := [1]) (by kernel_rfl) (by simp) ?_
  refine AllReadyH.cons rfl (fun K hK => ?_) AllReadyH.nil
  go_simp
  refine Calls.mono (HX.out _ (H1.out.keep bw) (HT0.out _ bw)) ?_
  rintro r wa ⟨va, rfl, hA, bN⟩
  replace k0 := dcarry_cell bN k0
  replace k1 := dcarry_cell bN k1
  replace k2 := dcarry_cell bN k2
  replace l0 := dcarry_cell bN l0
  replace l1 := dcarry_cell bN l1
  replace l2 := dcarry_cell bN l2
  replace f0 := dcarry_frozen bN m0 f0
  replace f1 := dcarry_frozen bN m1 f1
  replace f2 := dcarry_frozen bN m2 f2
  replace f3 := dcarry_frozen bN m3 f3
  replace m0 := dcarry_cell bN m0
  replace m1 := dcarry_cell bN m1
  replace m2 := dcarry_cell bN m2
  replace m3 := dcarry_cell bN m3
  obtain ⟨sA, aA, nA, cA, eA, rfl, HA⟩ := numAt_shape (hA.lows hs0)
  clear hA
  refine hK.out _ _ ⟨k0, k1, k2, l0, l1, l2⟩ (fun _ => ?_)
  clear hK K
  replace hs0 := Nat.le_trans hs0 bN.size
  replace bw := nbelow_trans bw bN
  clear bN
  try simp only [Act.put, List.setIfInBounds_toArray, List.set_cons_zero, List.set_cons_succ]
  refine wpAnyH_ready (rs := [3]) (by kernel_rfl) (by simp) ?_
  refine AllReadyH.cons rfl (fun K hK => ?_) AllReadyH.nil
  go_simp
  refine Calls.mono (HY.out _ (H2.out.keep bw) (HT0.out _ bw)) ?_
  rintro r wb ⟨vb, rfl, hB, bN⟩
  replace k0 := dcarry_cell bN k0
  replace k1 := dcarry_cell bN k1
  replace k2 := dcarry_cell bN k2
  replace l0 := dcarry_cell bN l0
  replace l1 := dcarry_cell bN l1
  replace l2 := dcarry_cell bN l2
  replace f0 := dcarry_frozen bN m0 f0
  replace f1 := dcarry_frozen bN m1 f1
  replace f2 := dcarry_frozen bN m2 f2
  replace f3 := dcarry_frozen bN m3 f3
  replace m0 := dcarry_cell bN m0
  replace m1 := dcarry_cell bN m1
  replace m2 := dcarry_cell bN m2
  replace m3 := dcarry_cell bN m3
  obtain ⟨sB, aB, nB, cB, eB, rfl, HB⟩ := numAt_shape (hB.lows hs0)
  have HA' : Hid (NumAt (w.heap.size + 1) wb (numV sA aA nA cA eA false) x) := HA.out.kept bN
  clear hB HA
  refine hK.out _ _ ⟨k0, k1, k2, l0, l1, l2⟩ (fun _ => ?_)
  clear hK K
  replace hs0 := Nat.le_trans hs0 bN.size
  replace bw := nbelow_trans bw bN
  clear bN
  try simp only [Act.put, List.setIfInBounds_toArray, List.set_cons_zero, List.set_cons_succ]
  refine wpAnyH_ready (rs := [4]) (by kernel_rfl) (by simp) ?_
  refine AllReadyH.cons rfl (fun K hK => ?_) AllReadyH.nil
  go_simp
  refine Calls.mono (negated_num (w.heap.size + 1) _ y _ HB.out) ?_
  rintro r wc ⟨vc, rfl, hC, bN⟩
  replace k0 := dcarry_cell bN k0
  replace k1 := dcarry_cell bN k1
  replace k2 := dcarry_cell bN k2
  replace l0 := dcarry_cell bN l0
  replace l1 := dcarry_cell bN l1
  replace l2 := dcarry_cell bN l2
  replace f0 := dcarry_frozen bN m0 f0
  replace f1 := dcarry_frozen bN m1 f1
  replace f2 := dcarry_frozen bN m2 f2
  replace f3 := dcarry_frozen bN m3 f3
  replace m0 := dcarry_cell bN m0
  replace m1 := dcarry_cell bN m1
  replace m2 := dcarry_cell bN m2
  replace m3 := dcarry_cell bN m3
  obtain ⟨sC, aC, nC, cC, eC, rfl, HC⟩ := numAt_shape hC
  have HA := HA'.out.kept bN
  have HA2 : Hid (NumAt (w.heap.size + 1) wc (numV sA aA nA cA eA false) x) := HA
  clear hC HA HA'
  refine hK.out _ _ ⟨k0, k1, k2, l0, l1, l2⟩ (fun _ => ?_)
  clear hK K
  replace hs0 := Nat.le_trans hs0 bN.size
  replace bw := nbelow_trans bw bN
  clear bN
  try simp only [Act.put, List.setIfInBounds_toArray, List.set_cons_zero, List.set_cons_succ]
  refine wpAnyH_ready (rs := [5]) (by kernel_rfl) (by simp) ?_
  refine AllReadyH.cons rfl (fun K hK => ?_) AllReadyH.nil
  go_simp
  refine Calls.mono (dplus_calls (w.heap.size + 1) _ _ x (negD y) _ hs0 HA2.out HC.out HGX.out HGY.out HCX.out (negD_canon HCY.out) HBX.out HBY.out (HT0.out _ bw)) ?_
  rintro r wp ⟨vp, rfl, hN, bN⟩
  replace k0 := dcarry_cell bN k0
  replace k1 := dcarry_cell bN k1
  replace k2 := dcarry_cell bN k2
  replace l0 := dcarry_cell bN l0
  replace l1 := dcarry_cell bN l1
  replace l2 := dcarry_cell bN l2
  replace f0 := dcarry_frozen bN m0 f0
  replace f1 := dcarry_frozen bN m1 f1
  replace f2 := dcarry_frozen bN m2 f2
  replace f3 := dcarry_frozen bN m3 f3
  replace m0 := dcarry_cell bN m0
  replace m1 := dcarry_cell bN m1
  replace m2 := dcarry_cell bN m2
  replace m3 := dcarry_cell bN m3
  obtain ⟨s5, a5, n5, c5, e5, g5, rfl, HNR⟩ := numR_form hN
  clear hN HC HA2
  refine hK.out _ _ ⟨k0, k1, k2, l0, l1, l2⟩ (fun _ => ?_)
  clear hK K
  replace hs0 := Nat.le_trans hs0 bN.size
  replace bw := nbelow_trans bw bN
  clear bN
  try simp only [Act.put, List.setIfInBounds_toArray, List.set_cons_zero, List.set_cons_succ]
  refine wpAnyH_ready (rs := [6]) (by kernel_rfl) (by simp) ?_
  refine AllReadyH.cons rfl (fun K hK => ?_) AllReadyH.nil
  go_simp
  refine hK.out _ _ ⟨set4_cell k0 nb1, set4_cell k1 nb1, set4_cell k2 nb1, set4_cell l0 nb2, set4_cell l1 nb2, set4_cell l2 nb2⟩ (fun _ => ?_)
  clear hK K
  try simp only [Act.put, List.setIfInBounds_toArray, List.set_cons_zero, List.set_cons_succ]
  refine wpAnyH_done (by kernel_rfl) ?_ _
  go_wp2_with fail
  refine bodyPost_ret (v := numV s5 a5 n5 c5 e5 g5) (by simp [results, Tryd.results49, go_sem, m0, m1, m2, m3]) rfl ⟨_, rfl, ((((HNR.out.far _ _ (by show w.heap.size < _; omega)).far _ _ (by show w.heap.size < _; omega)).far _ _ (by show w.heap.size < _; omega)).far _ _ (by show w.heap.size < _; omega)).low (by omega), ?_⟩
  exact (((bw.setCell (Nat.le_refl _) _).setCell (Nat.le_refl _) _).setCell (Nat.le_refl _) _).setCell (Nat.le_refl _) _

set_option maxRecDepth 100000 in
set_option maxHeartbeats 4000000 in
theorem mul1_calls (b1 b2 : Nat) (s : Bool) (a : Option Addr) (len cap : Nat) (xs : List Int) (e : Int) (s' : Bool) (a' : Option Addr) (len' cap' : Nat) (ys : List Int) (e' : Int) (w : World) (h : IsW w a len cap xs) (hm : len ≤ 17592186044416) (h' : IsW w a' len' cap' ys) (hm' : len' ≤ 17592186044416) (hT : Tab w) (hr : rightB (val xs) e = true) (hr' : rightB (val ys) e' = true)
    (k0 : w.cell? ⟨b1, 0, none⟩ = some (.bool s)) (k1 : w.cell? ⟨b1, 1, none⟩ = some (.slice a len cap)) (k2 : w.cell? ⟨b1, 2, none⟩ = some (.int .i64 e))
    (l0 : w.cell? ⟨b2, 0, none⟩ = some (.bool s')) (l1 : w.cell? ⟨b2, 1, none⟩ = some (.slice a' len' cap')) (l2 : w.cell? ⟨b2, 2, none⟩ = some (.int .i64 e')) :
    Calls Tryd.prog 44 #[.pointer (some ⟨b1, 0, none⟩), .pointer (some ⟨b2, 0, none⟩)] w fun r w' => ∃ v, r = .returned v ∧ NumR w.heap.size w' v (mulD (formD s (val xs) e) (formD s' (val ys) e')) ∧ Below w.heap.size w w' := by
  have HX : Hid _ := fun W g t => canon_num s a len cap xs e W g hm t hr
  have HY : Hid _ := fun W g t => canon_num s' a' len' cap' ys e' W g hm' t hr'
  have HGX : Hid _ := form_fit s (val xs) e hr
  have HGY : Hid _ := form_fit s' (val ys) e' hr'
  have HBX : Hid _ := form_bounds s (val xs) e hr
  have HBY : Hid _ := form_bounds s' (val ys) e' hr'
  have HCX : Hid _ := form_can s (val xs) e
  have HCY : Hid _ := form_can s' (val ys) e'
  have H1 : Hid (IsW w a len cap xs) := h
  have H2 : Hid (IsW w a' len' cap' ys) := h'
  have HT0 : Hid (∀ W, Below w.heap.size w W → Tab W) := fun W hW => hT.kept hW
  have nb1 : b1 ≠ w.heap.size := Nat.ne_of_lt (World.block_lt_of_cell? _ _ k0)
  have nb2 : b2 ≠ w.heap.size := Nat.ne_of_lt (World.block_lt_of_cell? _ _ l0)
  generalize formD s (val xs) e = x at *
  generalize formD s' (val ys) e' = y at *
  clear hr hr' hm hm' h h' hT
  have bw := below_one w (.cells #[.bool false, .slice none 0 0, .int .i64 0, .bool false] 52)
  obtain ⟨m0, m1, m2, m3, f0, f1, f2, f3⟩ := zero_num (w := w) (r := w.heap.size) (W' := (w.alloc (.cells #[.bool false, .slice none 0 0, .int .i64 0, .bool false] 52))) (Below.refl _ _) rfl
  replace k0 := dcarry_cell bw k0
  replace k1 := dcarry_cell bw k1
  replace k2 := dcarry_cell bw k2
  replace l0 := dcarry_cell bw l0
  replace l1 := dcarry_cell bw l1
  replace l2 := dcarry_cell bw l2
  have hs0 : w.heap.size + 1 ≤ (w.alloc (.cells #[.bool false, .slice none 0 0, .int .i64 0, .bool false] 52)).heap.size := by simp
  go_enter Tryd.func44, Tryd.ntmps44
  go_upto_region 1 with fail
  generalize (w.alloc (.cells #[.bool false, .slice none 0 0, .int .i64 0, .bool false] 52)) = w0 at *
  have bd : Below w0.heap.size w0 w0.drew := (Below.refl _ _).drew
  refine wp_region_held (S := fun w' => w'.cell? ⟨b1, 0, none⟩ = some (.bool s) ∧ w'.cell? ⟨b1, 1, none⟩ = some (.slice a len cap) ∧ w'.cell? ⟨b1, 2, none⟩ = some (.int .i64 e) ∧ w'.cell? ⟨b2, 0, none⟩ = some (.bool s') ∧ w'.cell? ⟨b2, 1, none⟩ = some (.slice a' len' cap') ∧ w'.cell? ⟨b2, 2, none⟩ = some (.int .i64 e')) (by kernel_rfl) ?_
  change wpAnyH _ _ _ _ _ _ _ _ (World.drew w0)
  replace k0 := dcarry_cell bd k0
  replace k1 := dcarry_cell bd k1
  replace k2 := dcarry_cell bd k2
  replace l0 := dcarry_cell bd l0
  replace l1 := dcarry_cell bd l1
  replace l2 := dcarry_cell bd l2
  replace f0 := dcarry_frozen bd m0 f0
  replace f1 := dcarry_frozen bd m1 f1
  replace f2 := dcarry_frozen bd m2 f2
  replace f3 := dcarry_frozen bd m3 f3
  replace m0 := dcarry_cell bd m0
  replace m1 := dcarry_cell bd m1
  replace m2 := dcarry_cell bd m2
  replace m3 := dcarry_cell bd m3
  replace bw := nbelow_trans bw bd
  replace hs0 := Nat.le_trans hs0 bd.size
  clear bd
  generalize World.drew w0 = wd at *
  refine wpAnyH_take (i := 0) (v := .agg #[.bool s, .slice a len cap, .int .i64 e]) rfl (by kernel_rfl) (by kernel_rfl) (by kernel_rfl) (fun _ _ _ h => h) (Or.inl ⟨by rfl, ?y0⟩) ⟨k0, k1, k2, l0, l1, l2⟩ ?r0
  case y0 => (rintro ww ⟨q0, q1, q2, q3, q4, q5⟩; go_simp)
  try simp only [Act.put]
  refine wpAnyH_take (i := 2) (v := .agg #[.bool s', .slice a' len' cap', .int .i64 e']) rfl (by kernel_rfl) (by kernel_rfl) (by kernel_rfl) (fun _ _ _ h => h) (Or.inl ⟨by rfl, ?y1⟩) ⟨k0, k1, k2, l0, l1, l2⟩ ?r1
  case y1 => (rintro ww ⟨q0, q1, q2, q3, q4, q5⟩; go_simp)
  try simp only [Act.put]
  refine wpAnyH_ready (rs := [1]) (by kernel_rfl) (by simp) ?_
  refine AllReadyH.cons rfl (fun K hK => ?_) AllReadyH.nil
  go_simp
  refine Calls.mono (HX.out _ (H1.out.keep bw) (HT0.out _ bw)) ?_
  rintro r wa ⟨va, rfl, hA, bN⟩
  replace k0 := dcarry_cell bN k0
  replace k1 := dcarry_cell bN k1
  replace k2 := dcarry_cell bN k2
  replace l0 := dcarry_cell bN l0
  replace l1 := dcarry_cell bN l1
  replace l2 := dcarry_cell bN l2
  replace f0 := dcarry_frozen bN m0 f0
  replace f1 := dcarry_frozen bN m1 f1
  replace f2 := dcarry_frozen bN m2 f2
  replace f3 := dcarry_frozen bN m3 f3
  replace m0 := dcarry_cell bN m0
  replace m1 := dcarry_cell bN m1
  replace m2 := dcarry_cell bN m2
  replace m3 := dcarry_cell bN m3
  obtain ⟨sA, aA, nA, cA, eA, rfl, HA⟩ := numAt_shape (hA.lows hs0)
  clear hA
  refine hK.out _ _ ⟨k0, k1, k2, l0, l1, l2⟩ (fun _ => ?_)
  clear hK K
  replace hs0 := Nat.le_trans hs0 bN.size
  replace bw := nbelow_trans bw bN
  clear bN
  try simp only [Act.put, List.setIfInBounds_toArray, List.set_cons_zero, List.set_cons_succ]
  refine wpAnyH_ready (rs := [3]) (by kernel_rfl) (by simp) ?_
  refine AllReadyH.cons rfl (fun K hK => ?_) AllReadyH.nil
  go_simp
  refine Calls.mono (HY.out _ (H2.out.keep bw) (HT0.out _ bw)) ?_
  rintro r wb ⟨vb, rfl, hB, bN⟩
  replace k0 := dcarry_cell bN k0
  replace k1 := dcarry_cell bN k1
  replace k2 := dcarry_cell bN k2
  replace l0 := dcarry_cell bN l0
  replace l1 := dcarry_cell bN l1
  replace l2 := dcarry_cell bN l2
  replace f0 := dcarry_frozen bN m0 f0
  replace f1 := dcarry_frozen bN m1 f1
  replace f2 := dcarry_frozen bN m2 f2
  replace f3 := dcarry_frozen bN m3 f3
  replace m0 := dcarry_cell bN m0
  replace m1 := dcarry_cell bN m1
  replace m2 := dcarry_cell bN m2
  replace m3 := dcarry_cell bN m3
  obtain ⟨sB, aB, nB, cB, eB, rfl, HB⟩ := numAt_shape (hB.lows hs0)
  have HA' : Hid (NumAt (w.heap.size + 1) wb (numV sA aA nA cA eA false) x) := HA.out.kept bN
  clear hB HA
  refine hK.out _ _ ⟨k0, k1, k2, l0, l1, l2⟩ (fun _ => ?_)
  clear hK K
  replace hs0 := Nat.le_trans hs0 bN.size
  replace bw := nbelow_trans bw bN
  clear bN
  try simp only [Act.put, List.setIfInBounds_toArray, List.set_cons_zero, List.set_cons_succ]
  refine wpAnyH_ready (rs := [4]) (by kernel_rfl) (by simp) ?_
  refine AllReadyH.cons rfl (fun K hK => ?_) AllReadyH.nil
  go_simp
  refine Calls.mono (dtimes_calls (w.heap.size + 1) _ _ x y _ HA'.out HB.out HGX.out HGY.out HCX.out HCY.out HBX.out HBY.out (HT0.out _ bw)) ?_
  rintro r wp ⟨vp, rfl, hN, bN⟩
  replace k0 := dcarry_cell bN k0
  replace k1 := dcarry_cell bN k1
  replace k2 := dcarry_cell bN k2
  replace l0 := dcarry_cell bN l0
  replace l1 := dcarry_cell bN l1
  replace l2 := dcarry_cell bN l2
  replace f0 := dcarry_frozen bN m0 f0
  replace f1 := dcarry_frozen bN m1 f1
  replace f2 := dcarry_frozen bN m2 f2
  replace f3 := dcarry_frozen bN m3 f3
  replace m0 := dcarry_cell bN m0
  replace m1 := dcarry_cell bN m1
  replace m2 := dcarry_cell bN m2
  replace m3 := dcarry_cell bN m3
  obtain ⟨s5, a5, n5, c5, e5, g5, rfl, HNR⟩ := numR_form (hN.low hs0)
  clear hN
  refine hK.out _ _ ⟨k0, k1, k2, l0, l1, l2⟩ (fun _ => ?_)
  clear hK K
  replace hs0 := Nat.le_trans hs0 bN.size
  replace bw := nbelow_trans bw bN
  clear bN
  try simp only [Act.put, List.setIfInBounds_toArray, List.set_cons_zero, List.set_cons_succ]
  refine wpAnyH_ready (rs := [5]) (by kernel_rfl) (by simp) ?_
  refine AllReadyH.cons rfl (fun K hK => ?_) AllReadyH.nil
  go_simp
  refine hK.out _ _ ⟨set4_cell k0 nb1, set4_cell k1 nb1, set4_cell k2 nb1, set4_cell l0 nb2, set4_cell l1 nb2, set4_cell l2 nb2⟩ (fun _ => ?_)
  clear hK K
  try simp only [Act.put, List.setIfInBounds_toArray, List.set_cons_zero, List.set_cons_succ]
  refine wpAnyH_done (by kernel_rfl) ?_ _
  go_wp2_with fail
  refine bodyPost_ret (v := numV s5 a5 n5 c5 e5 g5) (by simp [results, Tryd.results44, go_sem, m0, m1, m2, m3]) rfl ⟨_, rfl, ((((HNR.out.far _ _ (by show w.heap.size < _; omega)).far _ _ (by show w.heap.size < _; omega)).far _ _ (by show w.heap.size < _; omega)).far _ _ (by show w.heap.size < _; omega)).low (by omega), ?_⟩
  exact (((bw.setCell (Nat.le_refl _) _).setCell (Nat.le_refl _) _).setCell (Nat.le_refl _) _).setCell (Nat.le_refl _) _

set_option maxRecDepth 100000 in
set_option maxHeartbeats 4000000 in
theorem dsub_not (s : Bool) (a : Option Addr) (len cap : Nat) (xs : List Int) (e : Int) (s' : Bool) (a' : Option Addr) (len' cap' : Nat) (ys : List Int) (e' : Int) (w : World) (h : IsW w a len cap xs) (hm : len ≤ 17592186044416) (h' : IsW w a' len' cap' ys) (hm' : len' ≤ 17592186044416) (hr : (rightB (val xs) e && rightB (val ys) e') = false) :
    Calls Tryd.prog 27 #[dyV s a len cap e, dyV s' a' len' cap' e'] w fun r w' => r = .returned (.tuple #[dyV false none 0 0 0, .int .i64 2]) ∧ Below w.heap.size w w' := by
  have hmf : ∀ (fn : Fn) (first cap : Array Value) (w : World), (Instr.makeFunc fn first cap).run Tryd.prog w = .ok (.func fn first cap) w := fun _ _ _ _ => rfl
  have HRB : Hid ((rightB (val xs) e && rightB (val ys) e') = false) := hr
  clear hr
  go_enter Tryd.func27, Tryd.ntmps27
  go_wp2_with fail
  have hb0 : Below w.heap.size w ((((w.alloc (.cells #[.bool s, .slice a len cap, .int .i64 e] 25)).alloc (.cells #[.bool s', .slice a' len' cap', .int .i64 e'] 25)).alloc (.cells #[.bool false, .slice none 0 0, .int .i64 0] 25)).alloc (.cells #[.bool s, .slice a len cap, .int .i64 e, .bool s', .slice a' len' cap', .int .i64 e'] 25)) := by repeat (first | exact Below.refl _ _ | refine Below.alloc ?_ (by simp; try omega) _)
  refine Calls.mono (made_not _ _ _ (fun W hW => HRB.out ▸ right2_calls (w.heap.size + 1 + 1 + 1) s a len cap xs e s' a' len' cap' ys e' W (h.keep (nbelow_trans hb0 hW)) hm (h'.keep (nbelow_trans hb0 hW)) hm' (dcarry_cell hW (by go_simp)) (dcarry_cell hW (by go_simp)) (dcarry_cell hW (by go_simp)) (dcarry_cell hW (by go_simp)) (dcarry_cell hW (by go_simp)) (dcarry_cell hW (by go_simp)))) ?_
  rintro r w2 ⟨rfl, hbM⟩
  have hb2 := nbelow_trans hb0 hbM
  obtain ⟨m0, m1, m2, f0, f1, f2⟩ := zero_dy (r := w.heap.size + 1 + 1) (w := (w.alloc (.cells #[.bool s, .slice a len cap, .int .i64 e] 25)).alloc (.cells #[.bool s', .slice a' len' cap', .int .i64 e'] 25)) (W' := w2) (nbelow_trans (below_one _ _) hbM) (by simp)
  go_wp2_with fail
  refine bodyPost_ret (v := .tuple #[dyV false none 0 0 0, .int .i64 2]) (by simp [results, Tryd.results27, go_sem, m0, m1, m2]) rfl ⟨rfl, ?_⟩
  exact ((hb2.setCell (by show w.heap.size ≤ w.heap.size + 1 + 1; omega) _).setCell (by show w.heap.size ≤ w.heap.size + 1 + 1; omega) _).setCell (by show w.heap.size ≤ w.heap.size + 1 + 1; omega) _

set_option maxRecDepth 100000 in
set_option maxHeartbeats 4000000 in
theorem dsub_yes (s : Bool) (a : Option Addr) (len cap : Nat) (xs : List Int) (e : Int) (s' : Bool) (a' : Option Addr) (len' cap' : Nat) (ys : List Int) (e' : Int) (w : World) (h : IsW w a len cap xs) (hm : len ≤ 17592186044416) (h' : IsW w a' len' cap' ys) (hm' : len' ≤ 17592186044416) (hT : Tab w) (hr : rightB (val xs) e = true) (hr' : rightB (val ys) e' = true) :
    Calls Tryd.prog 27 #[dyV s a len cap e, dyV s' a' len' cap' e'] w fun r w' => ∃ v', r = .returned (.tuple #[v', .int .i64 (roomE (sumD (formD s (val xs) e) (negD (formD s' (val ys) e'))))]) ∧ DyAt w.heap.size w' v' (roomP (sumD (formD s (val xs) e) (negD (formD s' (val ys) e')))) ∧ Below w.heap.size w w' := by
  have hmf : ∀ (fn : Fn) (first cap : Array Value) (w : World), (Instr.makeFunc fn first cap).run Tryd.prog w = .ok (.func fn first cap) w := fun _ _ _ _ => rfl
  have HRB : Hid ((rightB (val xs) e && rightB (val ys) e') = true) := by rw [Hid, hr, hr']; rfl
  have HR1 : Hid (rightB (val xs) e = true) := hr
  have HR2 : Hid (rightB (val ys) e' = true) := hr'
  clear hr hr'
  go_enter Tryd.func27, Tryd.ntmps27
  go_wp2_with fail
  have hb0 : Below w.heap.size w ((((w.alloc (.cells #[.bool s, .slice a len cap, .int .i64 e] 25)).alloc (.cells #[.bool s', .slice a' len' cap', .int .i64 e'] 25)).alloc (.cells #[.bool false, .slice none 0 0, .int .i64 0] 25)).alloc (.cells #[.bool s, .slice a len cap, .int .i64 e, .bool s', .slice a' len' cap', .int .i64 e'] 25)) := by repeat (first | exact Below.refl _ _ | refine Below.alloc ?_ (by simp; try omega) _)
  refine Calls.mono (made_Sub w.heap.size (w.heap.size + 1) 0 (sumD (formD s (val xs) e) (negD (formD s' (val ys) e'))) _ _ (fun W hW => HRB.out ▸ right2_calls (w.heap.size + 1 + 1 + 1) s a len cap xs e s' a' len' cap' ys e' W (h.keep (nbelow_trans hb0 hW)) hm (h'.keep (nbelow_trans hb0 hW)) hm' (dcarry_cell hW (by go_simp)) (dcarry_cell hW (by go_simp)) (dcarry_cell hW (by go_simp)) (dcarry_cell hW (by go_simp)) (dcarry_cell hW (by go_simp)) (dcarry_cell hW (by go_simp)))
    (fun W hW => Calls.mono (sub1_calls w.heap.size (w.heap.size + 1) s a len cap xs e s' a' len' cap' ys e' W (h.keep (nbelow_trans hb0 hW)) hm (h'.keep (nbelow_trans hb0 hW)) hm' (hT.kept (nbelow_trans hb0 hW)) HR1.out HR2.out (dcarry_cell hW (by go_simp)) (dcarry_cell hW (by go_simp)) (dcarry_cell hW (by go_simp)) (dcarry_cell hW (by go_simp)) (dcarry_cell hW (by go_simp)) (dcarry_cell hW (by go_simp))) (by
      rintro r w5 ⟨v, rfl, hN, hb5⟩
      exact ⟨v, rfl, hN.low (Nat.zero_le _), hb5⟩))) ?_
  rintro r w2 ⟨v', rfl, ⟨a2, n2, c2, rfl, HN2, hn2, hO2⟩, hbM⟩
  have hb2 := nbelow_trans hb0 hbM
  obtain ⟨m0, m1, m2, f0, f1, f2⟩ := zero_dy (r := w.heap.size + 1 + 1) (w := (w.alloc (.cells #[.bool s, .slice a len cap, .int .i64 e] 25)).alloc (.cells #[.bool s', .slice a' len' cap', .int .i64 e'] 25)) (W' := w2) (nbelow_trans (below_one _ _) hbM) (by simp)
  go_wp2_with fail
  refine bodyPost_ret (v := .tuple #[dyV (roomP (sumD (formD s (val xs) e) (negD (formD s' (val ys) e')))).1 a2 n2 c2 (roomP (sumD (formD s (val xs) e) (negD (formD s' (val ys) e')))).2.2, .int .i64 (roomE (sumD (formD s (val xs) e) (negD (formD s' (val ys) e'))))]) (by simp [results, Tryd.results27, go_sem, m0, m1, m2]) rfl ⟨_, rfl, ⟨a2, n2, c2, rfl, HN2, hn2, (((hO2.far _ _ (by show w.heap.size + 1 + 1 < _; simp)).far _ _ (by show w.heap.size + 1 + 1 < _; simp)).far _ _ (by show w.heap.size + 1 + 1 < _; simp)).low (by simp; omega)⟩, ?_⟩
  exact ((hb2.setCell (by show w.heap.size ≤ w.heap.size + 1 + 1; omega) _).setCell (by show w.heap.size ≤ w.heap.size + 1 + 1; omega) _).setCell (by show w.heap.size ≤ w.heap.size + 1 + 1; omega) _

set_option maxRecDepth 100000 in
set_option maxHeartbeats 4000000 in
theorem dmul_not (s : Bool) (a : Option Addr) (len cap : Nat) (xs : List Int) (e : Int) (s' : Bool) (a' : Option Addr) (len' cap' : Nat) (ys : List Int) (e' : Int) (w : World) (h : IsW w a len cap xs) (hm : len ≤ 17592186044416) (h' : IsW w a' len' cap' ys) (hm' : len' ≤ 17592186044416) (hr : (rightB (val xs) e && rightB (val ys) e') = false) :
    Calls Tryd.prog 23 #[dyV s a len cap e, dyV s' a' len' cap' e'] w fun r w' => r = .returned (.tuple #[dyV false none 0 0 0, .int .i64 2]) ∧ Below w.heap.size w w' := by
  have hmf : ∀ (fn : Fn) (first cap : Array Value) (w : World), (Instr.makeFunc fn first cap).run Tryd.prog w = .ok (.func fn first cap) w := fun _ _ _ _ => rfl
  have HRB : Hid ((rightB (val xs) e && rightB (val ys) e') = false) := hr
  clear hr
  go_enter Tryd.func23, Tryd.ntmps23
  go_wp2_with fail
  have hb0 : Below w.heap.size w ((((w.alloc (.cells #[.bool s, .slice a len cap, .int .i64 e] 25)).alloc (.cells #[.bool s', .slice a' len' cap', .int .i64 e'] 25)).alloc (.cells #[.bool false, .slice none 0 0, .int .i64 0] 25)).alloc (.cells #[.bool s, .slice a len cap, .int .i64 e, .bool s', .slice a' len' cap', .int .i64 e'] 25)) := by repeat (first | exact Below.refl _ _ | refine Below.alloc ?_ (by simp; try omega) _)
  refine Calls.mono (made_not _ _ _ (fun W hW => HRB.out ▸ right2_calls (w.heap.size + 1 + 1 + 1) s a len cap xs e s' a' len' cap' ys e' W (h.keep (nbelow_trans hb0 hW)) hm (h'.keep (nbelow_trans hb0 hW)) hm' (dcarry_cell hW (by go_simp)) (dcarry_cell hW (by go_simp)) (dcarry_cell hW (by go_simp)) (dcarry_cell hW (by go_simp)) (dcarry_cell hW (by go_simp)) (dcarry_cell hW (by go_simp)))) ?_
  rintro r w2 ⟨rfl, hbM⟩
  have hb2 := nbelow_trans hb0 hbM
  obtain ⟨m0, m1, m2, f0, f1, f2⟩ := zero_dy (r := w.heap.size + 1 + 1) (w := (w.alloc (.cells #[.bool s, .slice a len cap, .int .i64 e] 25)).alloc (.cells #[.bool s', .slice a' len' cap', .int .i64 e'] 25)) (W' := w2) (nbelow_trans (below_one _ _) hbM) (by simp)
  go_wp2_with fail
  refine bodyPost_ret (v := .tuple #[dyV false none 0 0 0, .int .i64 2]) (by simp [results, Tryd.results23, go_sem, m0, m1, m2]) rfl ⟨rfl, ?_⟩
  exact ((hb2.setCell (by show w.heap.size ≤ w.heap.size + 1 + 1; omega) _).setCell (by show w.heap.size ≤ w.heap.size + 1 + 1; omega) _).setCell (by show w.heap.size ≤ w.heap.size + 1 + 1; omega) _

set_option maxRecDepth 100000 in
set_option maxHeartbeats 4000000 in
theorem dmul_yes (s : Bool) (a : Option Addr) (len cap : Nat) (xs : List Int) (e : Int) (s' : Bool) (a' : Option Addr) (len' cap' : Nat) (ys : List Int) (e' : Int) (w : World) (h : IsW w a len cap xs) (hm : len ≤ 17592186044416) (h' : IsW w a' len' cap' ys) (hm' : len' ≤ 17592186044416) (hT : Tab w) (hr : rightB (val xs) e = true) (hr' : rightB (val ys) e' = true) :
    Calls Tryd.prog 23 #[dyV s a len cap e, dyV s' a' len' cap' e'] w fun r w' => ∃ v', r = .returned (.tuple #[v', .int .i64 (roomE (mulD (formD s (val xs) e) (formD s' (val ys) e')))]) ∧ DyAt w.heap.size w' v' (roomP (mulD (formD s (val xs) e) (formD s' (val ys) e'))) ∧ Below w.heap.size w w' := by
  have hmf : ∀ (fn : Fn) (first cap : Array Value) (w : World), (Instr.makeFunc fn first cap).run Tryd.prog w = .ok (.func fn first cap) w := fun _ _ _ _ => rfl
  have HRB : Hid ((rightB (val xs) e && rightB (val ys) e') = true) := by rw [Hid, hr, hr']; rfl
  have HR1 : Hid (rightB (val xs) e = true) := hr
  have HR2 : Hid (rightB (val ys) e' = true) := hr'
  clear hr hr'
  go_enter Tryd.func23, Tryd.ntmps23
  go_wp2_with fail
  have hb0 : Below w.heap.size w ((((w.alloc (.cells #[.bool s, .slice a len cap, .int .i64 e] 25)).alloc (.cells #[.bool s', .slice a' len' cap', .int .i64 e'] 25)).alloc (.cells #[.bool false, .slice none 0 0, .int .i64 0] 25)).alloc (.cells #[.bool s, .slice a len cap, .int .i64 e, .bool s', .slice a' len' cap', .int .i64 e'] 25)) := by repeat (first | exact Below.refl _ _ | refine Below.alloc ?_ (by simp; try omega) _)
  refine Calls.mono (made_Mul w.heap.size (w.heap.size + 1) 0 (mulD (formD s (val xs) e) (formD s' (val ys) e')) _ _ (fun W hW => HRB.out ▸ right2_calls (w.heap.size + 1 + 1 + 1) s a len cap xs e s' a' len' cap' ys e' W (h.keep (nbelow_trans hb0 hW)) hm (h'.keep (nbelow_trans hb0 hW)) hm' (dcarry_cell hW (by go_simp)) (dcarry_cell hW (by go_simp)) (dcarry_cell hW (by go_simp)) (dcarry_cell hW (by go_simp)) (dcarry_cell hW (by go_simp)) (dcarry_cell hW (by go_simp)))
    (fun W hW => Calls.mono (mul1_calls w.heap.size (w.heap.size + 1) s a len cap xs e s' a' len' cap' ys e' W (h.keep (nbelow_trans hb0 hW)) hm (h'.keep (nbelow_trans hb0 hW)) hm' (hT.kept (nbelow_trans hb0 hW)) HR1.out HR2.out (dcarry_cell hW (by go_simp)) (dcarry_cell hW (by go_simp)) (dcarry_cell hW (by go_simp)) (dcarry_cell hW (by go_simp)) (dcarry_cell hW (by go_simp)) (dcarry_cell hW (by go_simp))) (by
      rintro r w5 ⟨v, rfl, hN, hb5⟩
      exact ⟨v, rfl, hN.low (Nat.zero_le _), hb5⟩))) ?_
  rintro r w2 ⟨v', rfl, ⟨a2, n2, c2, rfl, HN2, hn2, hO2⟩, hbM⟩
  have hb2 := nbelow_trans hb0 hbM
  obtain ⟨m0, m1, m2, f0, f1, f2⟩ := zero_dy (r := w.heap.size + 1 + 1) (w := (w.alloc (.cells #[.bool s, .slice a len cap, .int .i64 e] 25)).alloc (.cells #[.bool s', .slice a' len' cap', .int .i64 e'] 25)) (W' := w2) (nbelow_trans (below_one _ _) hbM) (by simp)
  go_wp2_with fail
  refine bodyPost_ret (v := .tuple #[dyV (roomP (mulD (formD s (val xs) e) (formD s' (val ys) e'))).1 a2 n2 c2 (roomP (mulD (formD s (val xs) e) (formD s' (val ys) e'))).2.2, .int .i64 (roomE (mulD (formD s (val xs) e) (formD s' (val ys) e')))]) (by simp [results, Tryd.results23, go_sem, m0, m1, m2]) rfl ⟨_, rfl, ⟨a2, n2, c2, rfl, HN2, hn2, (((hO2.far _ _ (by show w.heap.size + 1 + 1 < _; simp)).far _ _ (by show w.heap.size + 1 + 1 < _; simp)).far _ _ (by show w.heap.size + 1 + 1 < _; simp)).low (by simp; omega)⟩, ?_⟩
  exact ((hb2.setCell (by show w.heap.size ≤ w.heap.size + 1 + 1; omega) _).setCell (by show w.heap.size ≤ w.heap.size + 1 + 1; omega) _).setCell (by show w.heap.size ≤ w.heap.size + 1 + 1; omega) _

end

section
open Go.RowKit

theorem prod_words (u v : Nat) : (wordsOf (u * v)).length ≤ (wordsOf u).length + (wordsOf v).length := by
  refine (words_len2 _ _).2 ((blen_le _ _).2 ?_)
  have h1 := (blen_le _ _).1 ((words_len2 _ u).1 (Nat.le_refl _))
  have h2 := (blen_le _ _).1 ((words_len2 _ v).1 (Nat.le_refl _))
  have h3 := Nat.mul_lt_mul'' h1 h2
  rw [← Nat.pow_add] at h3
  rw [Nat.mul_add]
  exact h3
attribute [local go_sem ↓] Go.wp_at_zero Go.wp_at_succ

end

section
open Go.RowKit

def twE (b : Bool) (p : Bool × Nat × Int) : Int := if b = true then roomE p else 2
def twP (b : Bool) (p : Bool × Nat × Int) : Bool × Nat × Int := if b = true then roomP p else (false, 0, 0)
theorem form_turn (t : Bool) (m : Nat) (f : Int) : formD (!t) m f = negD (formD t m f) := by
  by_cases h0 : m = 0
  · rw [h0, form_zero, form_zero]; rfl
  · rw [form_pos _ h0, form_pos _ h0]
    have h1 := (odd_part h0).1
    have h2 : ¬ m / 2 ^ tz m = 0 := fun q => by rw [q] at h1; exact absurd h1 (by decide)
    unfold negD
    simp [h2]
theorem sumlen (x y : Bool × Nat × Int) (hx : blen x.2.1 ≤ 10000000) (hy : blen y.2.1 ≤ 10000000) (ex : -20000000 ≤ x.2.2 ∧ x.2.2 ≤ 20000000) (ey : -20000000 ≤ y.2.2 ∧ y.2.2 ≤ 20000000) : (wordsOf (sumD x y).2.1).length ≤ 2000001 := by
  have kx : (wordsOf x.2.1).length ≤ 200000 := (words_len2 _ _).2 (by omega)
  have ky : (wordsOf y.2.1).length ≤ 200000 := (words_len2 _ _).2 (by omega)
  by_cases h1 : x.2.1 = 0
  · have : sumD x y = y := by unfold sumD; rw [if_pos h1]
    rw [this]; omega
  · by_cases h2 : y.2.1 = 0
    · have : sumD x y = x := by unfold sumD; rw [if_neg h1, if_pos h2]
      rw [this]; omega
    · obtain ⟨ee, hee⟩ : ∃ ee : Int, min x.2.2 y.2.2 = ee := ⟨_, rfl⟩
      obtain ⟨i, hi⟩ : ∃ i : Nat, x.2.2 - ee = (i : Int) := ⟨(x.2.2 - ee).toNat, by omega⟩
      obtain ⟨j, hj⟩ : ∃ j : Nat, y.2.2 - ee = (j : Int) := ⟨(y.2.2 - ee).toNat, by omega⟩
      have hib : i ≤ 50000000 := by omega
      have hjb : j ≤ 50000000 := by omega
      have hMb : blen (x.2.1 * 2 ^ i) ≤ 60000000 := by rw [blen_mul _ _ h1]; omega
      have hNb : blen (y.2.1 * 2 ^ j) ≤ 60000000 := by rw [blen_mul _ _ h2]; omega
      have hMl : (wordsOf (x.2.1 * 2 ^ i)).length ≤ 1000000 := (words_len2 _ _).2 (by omega)
      have hNl : (wordsOf (y.2.1 * 2 ^ j)).length ≤ 1000000 := (words_len2 _ _).2 (by omega)
      have key : (sumD x y).2.1 ≤ x.2.1 * 2 ^ i + y.2.1 * 2 ^ j := by
        rw [plus_q x y h1 h2 ee hee i hi j hj]
        split
        · exact form_amount_le _ _ _
        · split
          · exact Nat.le_trans (form_amount_le _ _ _) (by omega)
          · exact Nat.le_trans (form_amount_le _ _ _) (by omega)
      have h3 := words_len_mono key
      have h4 := sum_words (x.2.1 * 2 ^ i) (y.2.1 * 2 ^ j)
      omega
theorem right_blen {m : Nat} {e : Int} (h : rightB m e = true) : blen m ≤ 65536 := (great_not _).1 (rightB_yes h).1
theorem form_blen (s : Bool) {m : Nat} {e : Int} (h : rightB m e = true) : blen (formD s m e).2.1 ≤ 65536 := Nat.le_trans (blen_mono (form_amount_le _ _ _)) (right_blen h)
theorem form_rng (s : Bool) {m : Nat} {e : Int} (h : rightB m e = true) : -20000000 ≤ (formD s m e).2.2 ∧ (formD s m e).2.2 ≤ 20000000 := by
  have h1 := (rightB_yes h).2
  have h2 := right_blen h
  by_cases h0 : m = 0
  · rw [h0, form_zero]; exact ⟨by decide, by decide⟩
  · rw [form_pos s h0]
    have := tz_le_blen m
    show _ ≤ e + (tz m : Int) ∧ e + (tz m : Int) ≤ _
    omega

set_option maxRecDepth 100000 in
set_option maxHeartbeats 2000000 in
theorem qboth_calls (s : Bool) (a : Option Addr) (len cap : Nat) (xs : List Int) (e : Int) (t : Bool) (b : Option Addr) (len' cap' : Nat) (ys : List Int) (f : Int) (w : World) (h : IsW w a len cap xs) (hm : len ≤ 17592186044000) (h' : IsW w b len' cap' ys) (hm' : len' ≤ 17592186044000) :
    Calls Tryd.prog 35 #[dyV s a len cap e, dyV t b len' cap' f] w fun r w' => r = .returned (.bool (rightB (val xs) e && rightB (val ys) f)) ∧ Below w.heap.size w w' := by
  have bw0 : Below w.heap.size w ((w.alloc (.cells #[.bool s, .slice a len cap, .int .i64 e] 25)).alloc (.cells #[.bool t, .slice b len' cap', .int .i64 f] 25)) := by repeat (first | exact Below.refl _ _ | refine bl_alloc ?_ _)
  have H1 : Hid _ := qRight_calls s a len cap xs e _ (h.keep bw0) (by omega)
  have H2 : Hid _ := fun W g => qRight_calls t b len' cap' ys f W g (by omega)
  have HI : Hid (IsW w b len' cap' ys) := h'
  generalize rightB (val xs) e = r1 at *
  generalize rightB (val ys) f = r2 at *
  have k0 : ((w.alloc (.cells #[.bool s, .slice a len cap, .int .i64 e] 25)).alloc (.cells #[.bool t, .slice b len' cap', .int .i64 f] 25)).cell? ⟨w.heap.size, 0, none⟩ = some (.bool s) := by go_simp
  have k1 : ((w.alloc (.cells #[.bool s, .slice a len cap, .int .i64 e] 25)).alloc (.cells #[.bool t, .slice b len' cap', .int .i64 f] 25)).cell? ⟨w.heap.size, 1, none⟩ = some (.slice a len cap) := by go_simp
  have k2 : ((w.alloc (.cells #[.bool s, .slice a len cap, .int .i64 e] 25)).alloc (.cells #[.bool t, .slice b len' cap', .int .i64 f] 25)).cell? ⟨w.heap.size, 2, none⟩ = some (.int .i64 e) := by go_simp
  have k3 : ((w.alloc (.cells #[.bool s, .slice a len cap, .int .i64 e] 25)).alloc (.cells #[.bool t, .slice b len' cap', .int .i64 f] 25)).cell? ⟨w.heap.size + 1, 0, none⟩ = some (.bool t) := by go_simp
  have k4 : ((w.alloc (.cells #[.bool s, .slice a len cap, .int .i64 e] 25)).alloc (.cells #[.bool t, .slice b len' cap', .int .i64 f] 25)).cell? ⟨w.heap.size + 1, 1, none⟩ = some (.slice b len' cap') := by go_simp
  have k5 : ((w.alloc (.cells #[.bool s, .slice a len cap, .int .i64 e] 25)).alloc (.cells #[.bool t, .slice b len' cap', .int .i64 f] 25)).cell? ⟨w.heap.size + 1, 2, none⟩ = some (.int .i64 f) := by go_simp
  clear h h' hm hm'
  cases r1
  · go_enter Tryd.func35, Tryd.ntmps35
    go_wp2_with fail
    refine Calls.mono H1.out ?_
    rintro r w1 ⟨rfl, b1⟩
    have bw := nbelow_trans bw0 b1
    clear b1
    go_wp2_with fail
    go_ret
    exact ⟨rfl, bw⟩
  · go_enter Tryd.func35, Tryd.ntmps35
    go_wp2_with fail
    refine Calls.mono H1.out ?_
    rintro r w1 ⟨rfl, b1⟩
    have bw := nbelow_trans bw0 b1
    replace k3 := dcarry_cell b1 k3
    replace k4 := dcarry_cell b1 k4
    replace k5 := dcarry_cell b1 k5
    clear b1 k0 k1 k2
    go_wp2_with fail
    refine Calls.mono (H2.out _ (HI.out.keep bw)) ?_
    rintro r w2 ⟨rfl, b2⟩
    replace bw := nbelow_trans bw b2
    clear b2 k3 k4 k5
    go_wp2_with fail
    go_ret
    exact ⟨rfl, bw⟩

set_option maxRecDepth 100000 in
set_option maxHeartbeats 2000000 in
theorem qadd_not (s : Bool) (a : Option Addr) (len cap : Nat) (xs : List Int) (e : Int) (t : Bool) (b : Option Addr) (len' cap' : Nat) (ys : List Int) (f : Int) (w : World) (h : IsW w a len cap xs) (hm : len ≤ 17592186044000) (h' : IsW w b len' cap' ys) (hm' : len' ≤ 17592186044000) (hr : (rightB (val xs) e && rightB (val ys) f) = false) :
    Calls Tryd.prog 18 #[dyV s a len cap e, dyV t b len' cap' f] w fun r w' => r = .returned (.tuple #[dyV false none 0 0 0, .int .i64 2]) ∧ Below w.heap.size w w' := by
  have bw0 : Below w.heap.size w (((w.alloc (.cells #[.bool s, .slice a len cap, .int .i64 e] 25)).alloc (.cells #[.bool t, .slice b len' cap', .int .i64 f] 25)).alloc (.cells #[.bool false, .slice none 0 0, .int .i64 0] 25)) := by repeat (first | exact Below.refl _ _ | refine bl_alloc ?_ _)
  have HB : Hid _ := qboth_calls s a len cap xs e t b len' cap' ys f _ (h.keep bw0) hm (h'.keep bw0) hm'
  rw [hr] at HB
  clear hr
  go_enter Tryd.func18, Tryd.ntmps18
  go_wp2_with fail
  refine Calls.mono HB.out ?_
  rintro r w1 ⟨rfl, b1⟩
  obtain ⟨m0, m1, m2, f0, f1, f2⟩ := zero_dy (w := ((w.alloc (.cells #[.bool s, .slice a len cap, .int .i64 e] 25)).alloc (.cells #[.bool t, .slice b len' cap', .int .i64 f] 25))) (r := w.heap.size + 1 + 1) (W' := w1) b1 (by simp)
  have bw := nbelow_trans bw0 b1
  clear b1
  go_wp2_with fail
  refine bodyPost_ret (v := .tuple #[dyV false none 0 0 0, .int .i64 2]) (by simp [results, Tryd.results18, go_sem, m0, m1, m2]) rfl ⟨rfl, ?_⟩
  exact ((bw.setCell (by show w.heap.size ≤ w.heap.size + 1 + 1; omega) _).setCell (by show w.heap.size ≤ w.heap.size + 1 + 1; omega) _).setCell (by show w.heap.size ≤ w.heap.size + 1 + 1; omega) _

set_option maxRecDepth 100000 in
set_option maxHeartbeats 2000000 in
theorem qadd_yes (s : Bool) (a : Option Addr) (len cap : Nat) (xs : List Int) (e : Int) (t : Bool) (b : Option Addr) (len' cap' : Nat) (ys : List Int) (f : Int) (w : World) (h : IsW w a len cap xs) (hm : len ≤ 17592186044000) (h' : IsW w b len' cap' ys) (hm' : len' ≤ 17592186044000) (hr : rightB (val xs) e = true) (hr' : rightB (val ys) f = true) :
    Calls Tryd.prog 18 #[dyV s a len cap e, dyV t b len' cap' f] w fun r w' => ∃ v', r = .returned (.tuple #[v', .int .i64 (roomE (sumD (formD s (val xs) e) (formD t (val ys) f)))]) ∧ DyQ w.heap.size w' v' (roomP (sumD (formD s (val xs) e) (formD t (val ys) f))) ∧ Below w.heap.size w w' := by
  have bw0 : Below w.heap.size w (((w.alloc (.cells #[.bool s, .slice a len cap, .int .i64 e] 25)).alloc (.cells #[.bool t, .slice b len' cap', .int .i64 f] 25)).alloc (.cells #[.bool false, .slice none 0 0, .int .i64 0] 25)) := by repeat (first | exact Below.refl _ _ | refine bl_alloc ?_ _)
  have HB : Hid _ := qboth_calls s a len cap xs e t b len' cap' ys f _ (h.keep bw0) hm (h'.keep bw0) hm'
  rw [hr, hr'] at HB
  have HP : Hid _ := fun W g g' => qPlus_calls s a len cap xs e t b len' cap' ys f W g hm g' hm' (by have := (rightB_yes hr).2; omega) (by have := (rightB_yes hr').2; omega) (by have := right_blen hr; omega) (by have := right_blen hr'; omega)
  have HL : Hid _ := sumlen (formD s (val xs) e) (formD t (val ys) f) (by have := form_blen s hr; omega) (by have := form_blen t hr'; omega) (form_rng s hr) (form_rng t hr')
  generalize sumD (formD s (val xs) e) (formD t (val ys) f) = p at *
  have H1 : Hid (IsW w a len cap xs) := h
  have H2 : Hid (IsW w b len' cap' ys) := h'
  have k0 : (((w.alloc (.cells #[.bool s, .slice a len cap, .int .i64 e] 25)).alloc (.cells #[.bool t, .slice b len' cap', .int .i64 f] 25)).alloc (.cells #[.bool false, .slice none 0 0, .int .i64 0] 25)).cell? ⟨w.heap.size, 0, none⟩ = some (.bool s) := by go_simp
  have k1 : (((w.alloc (.cells #[.bool s, .slice a len cap, .int .i64 e] 25)).alloc (.cells #[.bool t, .slice b len' cap', .int .i64 f] 25)).alloc (.cells #[.bool false, .slice none 0 0, .int .i64 0] 25)).cell? ⟨w.heap.size, 1, none⟩ = some (.slice a len cap) := by go_simp
  have k2 : (((w.alloc (.cells #[.bool s, .slice a len cap, .int .i64 e] 25)).alloc (.cells #[.bool t, .slice b len' cap', .int .i64 f] 25)).alloc (.cells #[.bool false, .slice none 0 0, .int .i64 0] 25)).cell? ⟨w.heap.size, 2, none⟩ = some (.int .i64 e) := by go_simp
  have k3 : (((w.alloc (.cells #[.bool s, .slice a len cap, .int .i64 e] 25)).alloc (.cells #[.bool t, .slice b len' cap', .int .i64 f] 25)).alloc (.cells #[.bool false, .slice none 0 0, .int .i64 0] 25)).cell? ⟨w.heap.size + 1, 0, none⟩ = some (.bool t) := by go_simp
  have k4 : (((w.alloc (.cells #[.bool s, .slice a len cap, .int .i64 e] 25)).alloc (.cells #[.bool t, .slice b len' cap', .int .i64 f] 25)).alloc (.cells #[.bool false, .slice none 0 0, .int .i64 0] 25)).cell? ⟨w.heap.size + 1, 1, none⟩ = some (.slice b len' cap') := by go_simp
  have k5 : (((w.alloc (.cells #[.bool s, .slice a len cap, .int .i64 e] 25)).alloc (.cells #[.bool t, .slice b len' cap', .int .i64 f] 25)).alloc (.cells #[.bool false, .slice none 0 0, .int .i64 0] 25)).cell? ⟨w.heap.size + 1, 2, none⟩ = some (.int .i64 f) := by go_simp
  clear hr hr' h h' hm hm'
  go_enter Tryd.func18, Tryd.ntmps18
  go_wp2_with fail
  refine Calls.mono HB.out ?_
  rintro r w1 ⟨rfl, b1⟩
  replace k0 := dcarry_cell b1 k0
  replace k1 := dcarry_cell b1 k1
  replace k2 := dcarry_cell b1 k2
  replace k3 := dcarry_cell b1 k3
  replace k4 := dcarry_cell b1 k4
  replace k5 := dcarry_cell b1 k5
  have bw := nbelow_trans bw0 b1
  clear HB
  go_wp2_with fail
  refine Calls.mono (HP.out _ (H1.out.keep bw) (H2.out.keep bw)) ?_
  rintro r w2 ⟨v2, rfl, hQ2, b2⟩
  have bz := nbelow_trans b1 b2
  replace bw := nbelow_trans bw b2
  have hQ3 := hQ2.low b1.size
  clear b1 b2 HP k0 k1 k2 k3 k4 k5 hQ2
  go_wp2_with fail
  refine Calls.mono (qRoom_calls v2 p _ w2 hQ3 (by have := HL.out; omega)) ?_
  rintro r w3 ⟨_, rfl, ⟨a3, n3, c3, rfl, HN3, hO3⟩, b3⟩
  replace bz := nbelow_trans bz b3
  replace bw := nbelow_trans bw b3
  obtain ⟨m0, m1, m2, f0, f1, f2⟩ := zero_dy (w := ((w.alloc (.cells #[.bool s, .slice a len cap, .int .i64 e] 25)).alloc (.cells #[.bool t, .slice b len' cap', .int .i64 f] 25))) (r := w.heap.size + 1 + 1) (W' := w3) bz (by simp)
  clear b3 bz bw0 hQ3
  go_wp2_with fail
  refine bodyPost_ret (v := .tuple #[dyV (roomP p).1 a3 n3 c3 (roomP p).2.2, .int .i64 (roomE p)]) (by simp [results, Tryd.results18, go_sem, m0, m1, m2]) rfl ⟨_, rfl, ⟨a3, n3, c3, rfl, HN3, (((hO3.far _ _ (by show w.heap.size + 1 + 1 < _; simp)).far _ _ (by show w.heap.size + 1 + 1 < _; simp)).far _ _ (by show w.heap.size + 1 + 1 < _; simp)).low (by simp; omega)⟩, ?_⟩
  exact ((bw.setCell (by show w.heap.size ≤ w.heap.size + 1 + 1; omega) _).setCell (by show w.heap.size ≤ w.heap.size + 1 + 1; omega) _).setCell (by show w.heap.size ≤ w.heap.size + 1 + 1; omega) _
theorem qAdd_calls (s : Bool) (a : Option Addr) (len cap : Nat) (xs : List Int) (e : Int) (t : Bool) (b : Option Addr) (len' cap' : Nat) (ys : List Int) (f : Int) (w : World) (h : IsW w a len cap xs) (hm : len ≤ 17592186044000) (h' : IsW w b len' cap' ys) (hm' : len' ≤ 17592186044000) :
    Calls Tryd.prog 18 #[dyV s a len cap e, dyV t b len' cap' f] w fun r w' => ∃ v', r = .returned (.tuple #[v', .int .i64 (twE (rightB (val xs) e && rightB (val ys) f) (sumD (formD s (val xs) e) (formD t (val ys) f)))]) ∧ DyQ w.heap.size w' v' (twP (rightB (val xs) e && rightB (val ys) f) (sumD (formD s (val xs) e) (formD t (val ys) f))) ∧ Below w.heap.size w w' := by
  cases hr : (rightB (val xs) e && rightB (val ys) f) with
  | false =>
    refine (qadd_not s a len cap xs e t b len' cap' ys f w h hm h' hm' hr).mono ?_
    rintro r w' ⟨rfl, hb⟩
    exact ⟨_, rfl, dyQ_zero _ _, hb⟩
  | true =>
    obtain ⟨r1, r2⟩ := Bool.and_eq_true_iff.1 hr
    exact qadd_yes s a len cap xs e t b len' cap' ys f w h hm h' hm' r1 r2

theorem pAdd_calls (s : Bool) (a : Option Addr) (len cap : Nat) (xs : List Int) (e : Int) (t : Bool) (b : Option Addr) (len' cap' : Nat) (ys : List Int) (f : Int) (w : World) (h : IsW w a len cap xs) (hm : len ≤ 17592186044000) (h' : IsW w b len' cap' ys) (hm' : len' ≤ 17592186044000) (hT : Tab w) :
    Calls Tryd.prog 15 #[dyV s a len cap e, dyV t b len' cap' f] w fun r w' => ∃ v', r = .returned (.tuple #[v', .int .i64 (twE (rightB (val xs) e && rightB (val ys) f) (sumD (formD s (val xs) e) (formD t (val ys) f)))]) ∧ DyAt w.heap.size w' v' (twP (rightB (val xs) e && rightB (val ys) f) (sumD (formD s (val xs) e) (formD t (val ys) f))) ∧ Below w.heap.size w w' := by
  cases hr : (rightB (val xs) e && rightB (val ys) f) with
  | false =>
    refine (dadd_not s a len cap xs e t b len' cap' ys f w h (by omega) h' (by omega) hr).mono ?_
    rintro r w' ⟨rfl, hb⟩
    exact ⟨_, rfl, dyAt_zero _ _, hb⟩
  | true =>
    obtain ⟨r1, r2⟩ := Bool.and_eq_true_iff.1 hr
    exact dadd_yes s a len cap xs e t b len' cap' ys f w h (by omega) h' (by omega) hT r1 r2

theorem pSub_calls (s : Bool) (a : Option Addr) (len cap : Nat) (xs : List Int) (e : Int) (t : Bool) (b : Option Addr) (len' cap' : Nat) (ys : List Int) (f : Int) (w : World) (h : IsW w a len cap xs) (hm : len ≤ 17592186044000) (h' : IsW w b len' cap' ys) (hm' : len' ≤ 17592186044000) (hT : Tab w) :
    Calls Tryd.prog 27 #[dyV s a len cap e, dyV t b len' cap' f] w fun r w' => ∃ v', r = .returned (.tuple #[v', .int .i64 (twE (rightB (val xs) e && rightB (val ys) f) (sumD (formD s (val xs) e) (negD (formD t (val ys) f))))]) ∧ DyAt w.heap.size w' v' (twP (rightB (val xs) e && rightB (val ys) f) (sumD (formD s (val xs) e) (negD (formD t (val ys) f)))) ∧ Below w.heap.size w w' := by
  cases hr : (rightB (val xs) e && rightB (val ys) f) with
  | false =>
    refine (dsub_not s a len cap xs e t b len' cap' ys f w h (by omega) h' (by omega) hr).mono ?_
    rintro r w' ⟨rfl, hb⟩
    exact ⟨_, rfl, dyAt_zero _ _, hb⟩
  | true =>
    obtain ⟨r1, r2⟩ := Bool.and_eq_true_iff.1 hr
    exact dsub_yes s a len cap xs e t b len' cap' ys f w h (by omega) h' (by omega) hT r1 r2

theorem mul_len (x y : Bool × Nat × Int) (hx : blen x.2.1 ≤ 65536) (hy : blen y.2.1 ≤ 65536) : (wordsOf (mulD x y).2.1).length ≤ 2000001 := by
  have h1 : (wordsOf x.2.1).length ≤ 1024 := (words_len2 _ _).2 (by omega)
  have h2 : (wordsOf y.2.1).length ≤ 1024 := (words_len2 _ _).2 (by omega)
  have h3 := prod_words x.2.1 y.2.1
  have h4 : (wordsOf (mulD x y).2.1).length ≤ (wordsOf (x.2.1 * y.2.1)).length := words_len_mono (form_amount_le _ _ _)
  omega

theorem pMul_calls (s : Bool) (a : Option Addr) (len cap : Nat) (xs : List Int) (e : Int) (t : Bool) (b : Option Addr) (len' cap' : Nat) (ys : List Int) (f : Int) (w : World) (h : IsW w a len cap xs) (hm : len ≤ 17592186044000) (h' : IsW w b len' cap' ys) (hm' : len' ≤ 17592186044000) (hT : Tab w) :
    Calls Tryd.prog 23 #[dyV s a len cap e, dyV t b len' cap' f] w fun r w' => ∃ v', r = .returned (.tuple #[v', .int .i64 (twE (rightB (val xs) e && rightB (val ys) f) (mulD (formD s (val xs) e) (formD t (val ys) f)))]) ∧ DyAt w.heap.size w' v' (twP (rightB (val xs) e && rightB (val ys) f) (mulD (formD s (val xs) e) (formD t (val ys) f))) ∧ Below w.heap.size w w' := by
  cases hr : (rightB (val xs) e && rightB (val ys) f) with
  | false =>
    refine (dmul_not s a len cap xs e t b len' cap' ys f w h (by omega) h' (by omega) hr).mono ?_
    rintro r w' ⟨rfl, hb⟩
    exact ⟨_, rfl, dyAt_zero _ _, hb⟩
  | true =>
    obtain ⟨r1, r2⟩ := Bool.and_eq_true_iff.1 hr
    exact dmul_yes s a len cap xs e t b len' cap' ys f w h (by omega) h' (by omega) hT r1 r2

end

section
open Go.RowKit

attribute [local go_sem ↓] Go.wp_at_zero Go.wp_at_succ
def sgnQ (s : Bool) (m : Nat) : Int := if m = 0 then 0 else if s = true then -1 else 1
theorem sgnQ_form (s : Bool) (m : Nat) (e : Int) : sgnD (formD s m e) = sgnQ s m := by
  unfold sgnD sgnQ
  by_cases h0 : m = 0
  · rw [h0, form_zero]; rfl
  · have h1 := (odd_part h0).1
    rw [form_pos s h0, if_neg h0, if_neg (fun q => by have q' : m / 2 ^ tz m = 0 := q; rw [q'] at h1; exact absurd h1 (by decide))]
theorem blen_odd {m : Nat} (h0 : m ≠ 0) : blen m = tz m + blen (m / 2 ^ tz m) := by
  have h1 := (odd_part h0).1
  have h2 := (odd_part h0).2
  have h3 := blen_mul (m / 2 ^ tz m) (tz m) (fun q => by rw [q] at h1; exact absurd h1 (by decide))
  rw [h2] at h3
  exact h3

set_option maxRecDepth 100000 in
set_option maxHeartbeats 2000000 in
theorem qSign_calls (s : Bool) (a : Option Addr) (len cap : Nat) (xs : List Int) (e : Int) (w : World) (h : IsW w a len cap xs) (hm : len ≤ 17592186044000) :
    Calls Tryd.prog 13 #[dyV s a len cap e] w fun r w' => r = .returned (.int .i64 (sgnQ s (val xs))) ∧ Below w.heap.size w w' := by
  have bw : Below w.heap.size w (w.alloc (.cells #[.bool s, .slice a len cap, .int .i64 e] 25)) := below_one _ _
  have HZ : Hid _ := qZero_calls s a len cap xs e _ (h.keep bw) (by omega)
  unfold sgnQ
  have k0 : (w.alloc (.cells #[.bool s, .slice a len cap, .int .i64 e] 25)).cell? ⟨w.heap.size, 0, none⟩ = some (.bool s) := by go_simp
  have k1 : (w.alloc (.cells #[.bool s, .slice a len cap, .int .i64 e] 25)).cell? ⟨w.heap.size, 1, none⟩ = some (.slice a len cap) := by go_simp
  have k2 : (w.alloc (.cells #[.bool s, .slice a len cap, .int .i64 e] 25)).cell? ⟨w.heap.size, 2, none⟩ = some (.int .i64 e) := by go_simp
  by_cases h0 : val xs = 0
  · rw [decide_eq_true h0] at HZ
    rw [if_pos h0]
    clear h0 hm h
    go_enter Tryd.func13, Tryd.ntmps13
    go_wp2_with fail
    refine Calls.mono HZ.out ?_
    rintro r w1 ⟨rfl, b1⟩
    replace bw := nbelow_trans bw b1
    clear b1
    go_wp2_with fail
    go_ret
    exact ⟨rfl, bw⟩
  · rw [decide_eq_false h0] at HZ
    rw [if_neg h0]
    clear h0 hm h
    cases s
    all_goals
      go_enter Tryd.func13, Tryd.ntmps13
      go_wp2_with fail
      refine Calls.mono HZ.out ?_
      rintro r w1 ⟨rfl, b1⟩
      replace bw := nbelow_trans bw b1
      replace k0 := dcarry_cell b1 k0
      clear b1
      go_wp2_with fail
      go_ret
      exact ⟨rfl, bw⟩

end

section
open Go.RowKit

attribute [local go_sem ↓] Go.wp_at_zero Go.wp_at_succ

def cmE (b : Bool) : Int := if b = true then 0 else 2
def cmV (b : Bool) (x y : Bool × Nat × Int) : Int := if b = true then cmpD x y else 0

theorem pCmp_calls (s : Bool) (a : Option Addr) (len cap : Nat) (xs : List Int) (e : Int) (t : Bool) (b : Option Addr) (len' cap' : Nat) (ys : List Int) (f : Int) (w : World) (h : IsW w a len cap xs) (hm : len ≤ 17592186044000) (h' : IsW w b len' cap' ys) (hm' : len' ≤ 17592186044000) (hT : Tab w) :
    Calls Tryd.prog 12 #[dyV s a len cap e, dyV t b len' cap' f] w fun r w' => r = .returned (.tuple #[.int .i64 (cmV (rightB (val xs) e && rightB (val ys) f) (formD s (val xs) e) (formD t (val ys) f)), .int .i64 (cmE (rightB (val xs) e && rightB (val ys) f))]) ∧ Below w.heap.size w w' := by
  cases hr : (rightB (val xs) e && rightB (val ys) f) with
  | false => exact dcmp_not s a len cap xs e t b len' cap' ys f w h (by omega) h' (by omega) hr
  | true =>
    obtain ⟨r1, r2⟩ := Bool.and_eq_true_iff.1 hr
    exact dcmp_yes s a len cap xs e t b len' cap' ys f w h (by omega) h' (by omega) hT r1 r2

def ftE (m : Nat) (e : Int) : Int := if rightB m e = true then (if m = 0 then 5 else 0) else 2
def szV (m : Nat) (e : Int) : Int := if ftE m e = 0 then (blen m : Int) - (tz m : Int) else 0
def tpV (m : Nat) (e : Int) : Int := if ftE m e = 0 then e + (blen m : Int) - 1 else 0

theorem ft_right {m : Nat} {e : Int} (h : ftE m e = 0) : rightB m e = true ∧ m ≠ 0 := by
  unfold ftE at h
  cases hr : rightB m e with
  | false => rw [hr, if_neg (by decide)] at h; exact absurd h (by decide)
  | true =>
    rw [hr, if_pos rfl] at h
    refine ⟨rfl, fun q => ?_⟩
    rw [if_pos q] at h; exact absurd h (by decide)

end

section
open Go.RowKit

theorem size_form (s : Bool) {m : Nat} (e : Int) (h0 : m ≠ 0) : (blen (formD s m e).2.1 : Int) = (blen m : Int) - (tz m : Int) := by
  have := blen_odd h0
  rw [form_pos s h0]
  show (blen (m / 2 ^ tz m) : Int) = _
  omega
theorem form_nz (s : Bool) {m : Nat} (e : Int) (h0 : m ≠ 0) : (formD s m e).2.1 ≠ 0 := by
  have h1 := (odd_part h0).1
  rw [form_pos s h0]
  exact fun q => by have q' : m / 2 ^ tz m = 0 := q; rw [q'] at h1; exact absurd h1 (by decide)

end

end Go.Proofs.YticjhheceoeilaaDoor

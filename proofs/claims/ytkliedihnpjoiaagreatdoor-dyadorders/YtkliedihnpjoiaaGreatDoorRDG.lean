/- The program's dyadic numbers: times, Sub, Mul. The document's dyadic numbers: the product. The document's dyadic numbers: Add, Sub, Mul; the program's in the same words. The statement DyadSums. -/
import Derived.Test.YtkliedihnpjoiaaGreatDoorDGA
import Derived.Test.YtkliedihnpjoiaaGreatDoorNMM
import Derived.Test.YtkliedihnpjoiaaGreatDoorDCan2
import Derived.Deep.CutRange
import Derived.Deep.RegionHeld3
import Derived.Test.YtkliedihnpjoiaaGreatDoorRDE
import Derived.Test.YtkliedihnpjoiaaGreatDoorNRM
import Derived.Test.YtkliedihnpjoiaaGreatDoorDBeg
namespace Go.Proofs.YtkliedihnpjoiaaGreatDoor

section
open Go.RowKit

/-- The product of two numbers. -/
def mulD (x y : Bool × Nat × Int) : Bool × Nat × Int := formD (!(x.1 == y.1)) (x.2.1 * y.2.1) (x.2.2 + y.2.2)
theorem NumAt.kept {B : Nat} {w w' : World} {v : Value} {p : Bool × Nat × Int} (h : NumAt B w v p) (hb : Below w.heap.size w w') : NumAt B w' v p := by
  obtain ⟨ao, n, c, h0, h1, h2, h3, h4⟩ := h
  exact ⟨ao, n, c, h0, h1, h2, h3, h4.keep hb⟩
theorem NumAt.lows {B B' : Nat} {w : World} {v : Value} {p : Bool × Nat × Int} (h : NumAt B w v p) (hB : B' ≤ B) : NumAt B' w v p := by
  obtain ⟨ao, n, c, h0, h1, h2, h3, h4⟩ := h
  exact ⟨ao, n, c, h0, h1, h2, h3, h4.low hB⟩
theorem numAt_shape {B : Nat} {w : World} {v : Value} {p : Bool × Nat × Int} (h : NumAt B w v p) : ∃ (s : Bool) (a : Option Addr) (n c : Nat) (e : Int), v = numV s a n c e false ∧ Hid (NumAt B w (numV s a n c e false) p) := by
  obtain ⟨ao, n, c, rfl, h⟩ := h
  exact ⟨p.1, ao, n, c, p.2.2, rfl, ⟨ao, n, c, rfl, h⟩⟩
theorem negated_num (B : Nat) (v : Value) (x : Bool × Nat × Int) (w : World) (hX : NumAt B w v x) :
    Calls Tryz.prog 28 #[v] w fun r w' => ∃ v, r = .returned v ∧ NumAt B w' v (negD x) ∧ Below w.heap.size w w' := by
  obtain ⟨ax, nx, kx, rfl, HNx, HZx, hnx, hOx⟩ := hX
  refine (negated_calls x.1 ax nx kx x.2.2 false w).mono ?_
  rintro r w' ⟨rfl, hb⟩
  rw [neg_sign HNx.out]
  exact ⟨_, rfl, ⟨ax, nx, kx, rfl, HNx, HZx, hnx, hOx.keep hb⟩, hb⟩
theorem negD_canon {x : Bool × Nat × Int} (h : CanD x) : CanD (negD x) := by
  rcases h with h | h
  · left; rw [h]; rfl
  · right; exact h
theorem canon_num (s : Bool) (a : Option Addr) (len cap : Nat) (xs : List Int) (e : Int) (w : World) (h : IsW w a len cap xs) (hm : len ≤ 17592186044416) (hT : Tab w) (hr : rightB (val xs) e = true) :
    Calls Tryz.prog 21 #[dyV s a len cap e] w fun r w' => ∃ v, r = .returned v ∧ NumAt w.heap.size w' v (formD s (val xs) e) ∧ Below w.heap.size w w' := by
  have hE := right_exp hr
  refine (canonical_calls s a len cap xs e w h hm hT).mono ?_
  rintro r w' ⟨ao, n, c, e', rfl, HE, HN, HZ, hn, hO, hb⟩
  have h1 := HE.out hE.1 hE.2
  rw [canG_no (rightB_yes hr).1] at h1 HN hO ⊢
  subst h1
  exact ⟨_, rfl, ⟨ao, n, c, rfl, HN, HZ, hn, hO⟩, hb⟩
theorem mul_odd {x y : Bool × Nat × Int} (cx : CanD x) (cy : CanD y) : greatB (x.2.1 * y.2.1) = true → (x.2.1 * y.2.1) % 2 = 1 := by
  intro hg
  rcases cx with q | q
  · rw [q] at hg; simp [great_zero] at hg
  · rcases cy with q' | q'
    · rw [q'] at hg; simp [great_zero] at hg
    · rw [Nat.mul_mod, q, q']

set_option maxRecDepth 100000 in
set_option maxHeartbeats 2000000 in
theorem dtimes_calls (B : Nat) (vx vy : Value) (x y : Bool × Nat × Int) (w : World) (hX : NumAt B w vx x) (hY : NumAt B w vy y) (gx : greatB x.2.1 = false) (gy : greatB y.2.1 = false) (cx : CanD x) (cy : CanD y) (ex : -100000000 ≤ x.2.2 ∧ x.2.2 ≤ 100000000) (ey : -100000000 ≤ y.2.2 ∧ y.2.2 ≤ 100000000) (hT : Tab w) :
    Calls Tryz.prog 31 #[vx, vy] w fun r w' => ∃ v, r = .returned v ∧ NumR w.heap.size w' v (mulD x y) ∧ Below w.heap.size w w' := by
  obtain ⟨ax, nx, kx, rfl, HNx, HZx, hnx, hOx⟩ := hX
  obtain ⟨ay, ny, ky, rfl, HNy, HZy, hny, hOy⟩ := hY
  have MC : Hid _ := fun w' g g' => mul_calls ax ay nx kx ny ky (wordsOf x.2.1) (wordsOf y.2.1) w' g g' (by omega) (by omega)
  rw [val_words, val_words, mulR_no (by rw [gx, gy]; rfl)] at MC
  have hew : IntKind.i64.wrap (x.2.2 + y.2.2) = x.2.2 + y.2.2 := by rw [IntKind.wrap_i64]; omega
  have RC : Hid _ := fun a' n' c' w' g (q : n' ≤ 1024) t => reckoned_calls (!(x.1 == y.1)) a' n' c' (x.2.1 * y.2.1) (x.2.2 + y.2.2) w' g (by omega) t (by omega) (mul_odd cx cy)
  have HFL : Hid _ := fitR_len (x.2.1 * y.2.1)
  have hu : mulD x y = formD (!(x.1 == y.1)) (x.2.1 * y.2.1) (x.2.2 + y.2.2) := rfl
  rw [← hu] at RC
  generalize mulD x y = p at *
  generalize x.2.1 * y.2.1 = u at *
  have bw0 : Below w.heap.size w (((w.alloc (.cells #[.bool x.1, .slice ax nx kx, .int .i64 x.2.2, .bool false] 36)).alloc (.cells #[.bool y.1, .slice ay ny ky, .int .i64 y.2.2, .bool false] 36)).alloc (.cells #[.bool false, .slice none 0 0, .int .i64 0, .bool false] 36)) := by repeat (first | exact Below.refl _ _ | refine Below.alloc ?_ (by simp; try omega) _)
  have hIx := hOx.1.keep bw0
  have hIy := hOy.1.keep bw0
  have HT0 : Hid (∀ W, Below w.heap.size w W → Tab W) := fun W hW => hT.kept hW
  have k0 : (((w.alloc (.cells #[.bool x.1, .slice ax nx kx, .int .i64 x.2.2, .bool false] 36)).alloc (.cells #[.bool y.1, .slice ay ny ky, .int .i64 y.2.2, .bool false] 36)).alloc (.cells #[.bool false, .slice none 0 0, .int .i64 0, .bool false] 36)).cell? ⟨w.heap.size, 0, none⟩ = some (.bool x.1) := by go_simp
  have k2 : (((w.alloc (.cells #[.bool x.1, .slice ax nx kx, .int .i64 x.2.2, .bool false] 36)).alloc (.cells #[.bool y.1, .slice ay ny ky, .int .i64 y.2.2, .bool false] 36)).alloc (.cells #[.bool false, .slice none 0 0, .int .i64 0, .bool false] 36)).cell? ⟨w.heap.size, 2, none⟩ = some (.int .i64 x.2.2) := by go_simp
  have l0 : (((w.alloc (.cells #[.bool x.1, .slice ax nx kx, .int .i64 x.2.2, .bool false] 36)).alloc (.cells #[.bool y.1, .slice ay ny ky, .int .i64 y.2.2, .bool false] 36)).alloc (.cells #[.bool false, .slice none 0 0, .int .i64 0, .bool false] 36)).cell? ⟨w.heap.size + 1, 0, none⟩ = some (.bool y.1) := by go_simp
  have l2 : (((w.alloc (.cells #[.bool x.1, .slice ax nx kx, .int .i64 x.2.2, .bool false] 36)).alloc (.cells #[.bool y.1, .slice ay ny ky, .int .i64 y.2.2, .bool false] 36)).alloc (.cells #[.bool false, .slice none 0 0, .int .i64 0, .bool false] 36)).cell? ⟨w.heap.size + 1, 2, none⟩ = some (.int .i64 y.2.2) := by go_simp
  clear gx gy cx cy hT hOx hOy HNx HNy HZx HZy hu
  go_enter Tryz.func31, Tryz.ntmps31
  go_wp2_with fail
  refine Calls.mono (MC.out _ hIx hIy) ?_
  rintro r w1 ⟨v1, rfl, hA1, b1⟩
  obtain ⟨a1, n1, c1, rfl, HN1, hn1, hO1⟩ := hA1.open HFL.out
  have bw1 := nbelow_trans bw0 b1
  replace k0 := dcarry_cell b1 k0
  replace k2 := dcarry_cell b1 k2
  replace l0 := dcarry_cell b1 l0
  replace l2 := dcarry_cell b1 l2
  clear hA1 MC hIx hIy
  go_wp2_with fail
  refine Calls.mono (RC.out _ _ _ _ hO1.1 hn1 (HT0.out _ bw1)) ?_
  rintro r w2 ⟨v2, rfl, hN2, b2⟩
  obtain ⟨s5, a5, n5, c5, e5, g5, rfl, HNR⟩ := numR_form hN2
  have bw2 := nbelow_trans bw1 b2
  obtain ⟨m0, m1, m2, m3, f0, f1, f2, f3⟩ := zero_num (w := ((w.alloc (.cells #[.bool x.1, .slice ax nx kx, .int .i64 x.2.2, .bool false] 36)).alloc (.cells #[.bool y.1, .slice ay ny ky, .int .i64 y.2.2, .bool false] 36))) (r := w.heap.size + 1 + 1) (W' := w2) (nbelow_trans b1 b2) (by simp)
  have hsz : w.heap.size + 1 + 1 < w1.heap.size := by have := b1.size; simp at this; omega
  clear hN2 b1 b2 bw0 bw1 RC k0 k2 l0 l2
  go_wp2_with fail
  refine bodyPost_ret (v := numV s5 a5 n5 c5 e5 g5) (by simp [results, Tryz.results31, go_sem, m0, m1, m2, m3]) rfl ⟨_, rfl, ((((HNR.out.far _ _ (by show w.heap.size + 1 + 1 < _; omega)).far _ _ (by show w.heap.size + 1 + 1 < _; omega)).far _ _ (by show w.heap.size + 1 + 1 < _; omega)).far _ _ (by show w.heap.size + 1 + 1 < _; omega)).low (by omega), ?_⟩
  exact (((bw2.setCell (by show w.heap.size ≤ w.heap.size + 1 + 1; omega) _).setCell (by show w.heap.size ≤ w.heap.size + 1 + 1; omega) _).setCell (by show w.heap.size ≤ w.heap.size + 1 + 1; omega) _).setCell (by show w.heap.size ≤ w.heap.size + 1 + 1; omega) _

theorem set4_cell {W : World} {b o r : Nat} {v0 v1 v2 v3 x : Value} (h : W.cell? ⟨b, o, none⟩ = some x) (hne : b ≠ r) : ((((W.setCell ⟨r, 0, none⟩ v0).setCell ⟨r, 1, none⟩ v1).setCell ⟨r, 2, none⟩ v2).setCell ⟨r, 3, none⟩ v3).cell? ⟨b, o, none⟩ = some x := cell_set4 h hne
attribute [local go_sem ↓] Go.wp_at_zero Go.wp_at_succ

set_option maxRecDepth 100000 in
set_option maxHeartbeats 4000000 in
theorem sub1_calls (b1 b2 : Nat) (s : Bool) (a : Option Addr) (len cap : Nat) (xs : List Int) (e : Int) (s' : Bool) (a' : Option Addr) (len' cap' : Nat) (ys : List Int) (e' : Int) (w : World) (h : IsW w a len cap xs) (hm : len ≤ 17592186044416) (h' : IsW w a' len' cap' ys) (hm' : len' ≤ 17592186044416) (hT : Tab w) (hr : rightB (val xs) e = true) (hr' : rightB (val ys) e' = true)
    (k0 : w.cell? ⟨b1, 0, none⟩ = some (.bool s)) (k1 : w.cell? ⟨b1, 1, none⟩ = some (.slice a len cap)) (k2 : w.cell? ⟨b1, 2, none⟩ = some (.int .i64 e))
    (l0 : w.cell? ⟨b2, 0, none⟩ = some (.bool s')) (l1 : w.cell? ⟨b2, 1, none⟩ = some (.slice a' len' cap')) (l2 : w.cell? ⟨b2, 2, none⟩ = some (.int .i64 e')) :
    Calls Tryz.prog 27 #[.pointer (some ⟨b1, 0, none⟩), .pointer (some ⟨b2, 0, none⟩)] w fun r w' => ∃ v, r = .returned v ∧ NumR w.heap.size w' v (sumD (formD s (val xs) e) (negD (formD s' (val ys) e'))) ∧ Below w.heap.size w w' := by
  have HX : Hid _ := fun W g t => canon_num s a len cap xs e W g hm t hr
  have HY : Hid _ := fun W g t => canon_num s' a' len' cap' ys e' W g hm' t hr'
  have HGX : Hid _ := form_fit s (val xs) e hr
  have HGY : Hid _ := form_fit s' (val ys) e' hr'
  have HBX : Hid _ := form_bounds s (val xs) e hr
  have HBY : Hid _ := form_bounds s' (val ys) e' hr'
  have HCX : Hid _ := form_can s (val xs) e
  have HCY : Hid _ := form_can s' (val ys) e'
  have H1 : Hid (IsW w a len cap xs) := h
  have H2 : Hid (IsW w a' len' cap' ys) := h'
  have HT0 : Hid (∀ W, Below w.heap.size w W → Tab W) := fun W hW => hT.kept hW
  have nb1 : b1 ≠ w.heap.size := Nat.ne_of_lt (World.block_lt_of_cell? _ _ k0)
  have nb2 : b2 ≠ w.heap.size := Nat.ne_of_lt (World.block_lt_of_cell? _ _ l0)
  generalize formD s (val xs) e = x at *
  generalize formD s' (val ys) e' = y at *
  clear hr hr' hm hm' h h' hT
  have bw := below_one w (.cells #[.bool false, .slice none 0 0, .int .i64 0, .bool false] 36)
  obtain ⟨m0, m1, m2, m3, f0, f1, f2, f3⟩ := zero_num (w := w) (r := w.heap.size) (W' := (w.alloc (.cells #[.bool false, .slice none 0 0, .int .i64 0, .bool false] 36))) (Below.refl _ _) rfl
  replace k0 := dcarry_cell bw k0
  replace k1 := dcarry_cell bw k1
  replace k2 := dcarry_cell bw k2
  replace l0 := dcarry_cell bw l0
  replace l1 := dcarry_cell bw l1
  replace l2 := dcarry_cell bw l2
  have hs0 : w.heap.size + 1 ≤ (w.alloc (.cells #[.bool false, .slice none 0 0, .int .i64 0, .bool false] 36)).heap.size := by simp
  go_enter Tryz.func27, Tryz.ntmps27
  go_upto_region 1 with fail
  generalize (w.alloc (.cells #[.bool false, .slice none 0 0, .int .i64 0, .bool false] 36)) = w0 at *
  have bd : Below w0.heap.size w0 w0.drew := (Below.refl _ _).drew
  refine wp_region_held (S := fun w' => w'.cell? ⟨b1, 0, none⟩ = some (.bool s) ∧ w'.cell? ⟨b1, 1, none⟩ = some (.slice a len cap) ∧ w'.cell? ⟨b1, 2, none⟩ = some (.int .i64 e) ∧ w'.cell? ⟨b2, 0, none⟩ = some (.bool s') ∧ w'.cell? ⟨b2, 1, none⟩ = some (.slice a' len' cap') ∧ w'.cell? ⟨b2, 2, none⟩ = some (.int .i64 e')) (by kernel_rfl) ?_
  change wpAnyH _ _ _ _ _ _ _ _ (World.drew w0)
  replace k0 := dcarry_cell bd k0
  replace k1 := dcarry_cell bd k1
  replace k2 := dcarry_cell bd k2
  replace l0 := dcarry_cell bd l0
  replace l1 := dcarry_cell bd l1
  replace l2 := dcarry_cell bd l2
  replace f0 := dcarry_frozen bd m0 f0
  replace f1 := dcarry_frozen bd m1 f1
  replace f2 := dcarry_frozen bd m2 f2
  replace f3 := dcarry_frozen bd m3 f3
  replace m0 := dcarry_cell bd m0
  replace m1 := dcarry_cell bd m1
  replace m2 := dcarry_cell bd m2
  replace m3 := dcarry_cell bd m3
  replace bw := nbelow_trans bw bd
  replace hs0 := Nat.le_trans hs0 bd.size
  clear bd
  generalize World.drew w0 = wd at *
  refine wpAnyH_take (i := 0) (v := .agg #[.bool s, .slice a len cap, .int .i64 e]) rfl (by kernel_rfl) (by kernel_rfl) (by kernel_rfl) (fun _ _ _ h => h) (Or.inl ⟨by rfl, ?y0⟩) ⟨k0, k1, k2, l0, l1, l2⟩ ?r0
  case y0 => (rintro ww ⟨q0, q1, q2, q3, q4, q5⟩; go_simp)
  try simp only [Act.put]
  refine wpAnyH_take (i := 2) (v := .agg #[.bool s', .slice a' len' cap', .int .i64 e']) rfl (by kernel_rfl) (by kernel_rfl) (by kernel_rfl) (fun _ _ _ h => h) (Or.inl ⟨by rfl, ?y1⟩) ⟨k0, k1, k2, l0, l1, l2⟩ ?r1
  case y1 => (rintro ww ⟨q0, q1, q2, q3, q4, q5⟩; go_simp)
  try simp only [Act.put]
  refine wpAnyH_ready (rs := [1]) (by kernel_rfl) (by simp) ?_
  refine AllReadyH.cons rfl (fun K hK => ?_) AllReadyH.nil
  go_simp
  refine Calls.mono (HX.out _ (H1.out.keep bw) (HT0.out _ bw)) ?_
  rintro r wa ⟨va, rfl, hA, bN⟩
  replace k0 := dcarry_cell bN k0
  replace k1 := dcarry_cell bN k1
  replace k2 := dcarry_cell bN k2
  replace l0 := dcarry_cell bN l0
  replace l1 := dcarry_cell bN l1
  replace l2 := dcarry_cell bN l2
  replace f0 := dcarry_frozen bN m0 f0
  replace f1 := dcarry_frozen bN m1 f1
  replace f2 := dcarry_frozen bN m2 f2
  replace f3 := dcarry_frozen bN m3 f3
  replace m0 := dcarry_cell bN m0
  replace m1 := dcarry_cell bN m1
  replace m2 := dcarry_cell bN m2
  replace m3 := dcarry_cell bN m3
  obtain ⟨sA, aA, nA, cA, eA, rfl, HA⟩ := numAt_shape (hA.lows hs0)
  clear hA
  refine hK.out _ _ ⟨k0, k1, k2, l0, l1, l2⟩ (fun _ => ?_)
  clear hK K
  replace hs0 := Nat.le_trans hs0 bN.size
  replace bw := nbelow_trans bw bN
  clear bN
  try simp only [Act.put, List.setIfInBounds_toArray, List.set_cons_zero, List.set_cons_succ]
  refine wpAnyH_ready (rs := [3]) (by kernel_rfl) (by simp) ?_
  refine AllReadyH.cons rfl (fun K hK => ?_) AllReadyH.nil
  go_simp
  refine Calls.mono (HY.out _ (H2.out.keep bw) (HT0.out _ bw)) ?_
  rintro r wb ⟨vb, rfl, hB, bN⟩
  replace k0 := dcarry_cell bN k0
  replace k1 := dcarry_cell bN k1
  replace k2 := dcarry_cell bN k2
  replace l0 := dcarry_cell bN l0
  replace l1 := dcarry_cell bN l1
  replace l2 := dcarry_cell bN l2
  replace f0 := dcarry_frozen bN m0 f0
  replace f1 := dcarry_frozen bN m1 f1
  replace f2 := dcarry_frozen bN m2 f2
  replace f3 := dcarry_frozen bN m3 f3
  replace m0 := dcarry_cell bN m0
  replace m1 := dcarry_cell bN m1
  replace m2 := dcarry_cell bN m2
  replace m3 := dcarry_cell bN m3
  obtain ⟨sB, aB, nB, cB, eB, rfl, HB⟩ := numAt_shape (hB.lows hs0)
  have HA' : Hid (NumAt (w.heap.size + 1) wb (numV sA aA nA cA eA false) x) := HA.out.kept bN
  clear hB HA
  refine hK.out _ _ ⟨k0, k1, k2, l0, l1, l2⟩ (fun _ => ?_)
  clear hK K
  replace hs0 := Nat.le_trans hs0 bN.size
  replace bw := nbelow_trans bw bN
  clear bN
  try simp only [Act.put, List.setIfInBounds_toArray, List.set_cons_zero, List.set_cons_succ]
  refine wpAnyH_ready (rs := [4]) (by kernel_rfl) (by simp) ?_
  refine AllReadyH.cons rfl (fun K hK => ?_) AllReadyH.nil
  go_simp
  refine Calls.mono (negated_num (w.heap.size + 1) _ y _ HB.out) ?_
  rintro r wc ⟨vc, rfl, hC, bN⟩
  replace k0 := dcarry_cell bN k0
  replace k1 := dcarry_cell bN k1
  replace k2 := dcarry_cell bN k2
  replace l0 := dcarry_cell bN l0
  replace l1 := dcarry_cell bN l1
  replace l2 := dcarry_cell bN l2
  replace f0 := dcarry_frozen bN m0 f0
  replace f1 := dcarry_frozen bN m1 f1
  replace f2 := dcarry_frozen bN m2 f2
  replace f3 := dcarry_frozen bN m3 f3
  replace m0 := dcarry_cell bN m0
  replace m1 := dcarry_cell bN m1
  replace m2 := dcarry_cell bN m2
  replace m3 := dcarry_cell bN m3
  obtain ⟨sC, aC, nC, cC, eC, rfl, HC⟩ := numAt_shape hC
  have HA := HA'.out.kept bN
  have HA2 : Hid (NumAt (w.heap.size + 1) wc (numV sA aA nA cA eA false) x) := HA
  clear hC HA HA'
  refine hK.out _ _ ⟨k0, k1, k2, l0, l1, l2⟩ (fun _ => ?_)
  clear hK K
  replace hs0 := Nat.le_trans hs0 bN.size
  replace bw := nbelow_trans bw bN
  clear bN
  try simp only [Act.put, List.setIfInBounds_toArray, List.set_cons_zero, List.set_cons_succ]
  refine wpAnyH_ready (rs := [5]) (by kernel_rfl) (by simp) ?_
  refine AllReadyH.cons rfl (fun K hK => ?_) AllReadyH.nil
  go_simp
  refine Calls.mono (dplus_calls (w.heap.size + 1) _ _ x (negD y) _ hs0 HA2.out HC.out HGX.out HGY.out HCX.out (negD_canon HCY.out) HBX.out HBY.out (HT0.out _ bw)) ?_
  rintro r wp ⟨vp, rfl, hN, bN⟩
  replace k0 := dcarry_cell bN k0
  replace k1 := dcarry_cell bN k1
  replace k2 := dcarry_cell bN k2
  replace l0 := dcarry_cell bN l0
  replace l1 := dcarry_cell bN l1
  replace l2 := dcarry_cell bN l2
  replace f0 := dcarry_frozen bN m0 f0
  replace f1 := dcarry_frozen bN m1 f1
  replace f2 := dcarry_frozen bN m2 f2
  replace f3 := dcarry_frozen bN m3 f3
  replace m0 := dcarry_cell bN m0
  replace m1 := dcarry_cell bN m1
  replace m2 := dcarry_cell bN m2
  replace m3 := dcarry_cell bN m3
  obtain ⟨s5, a5, n5, c5, e5, g5, rfl, HNR⟩ := numR_form hN
  clear hN HC HA2
  refine hK.out _ _ ⟨k0, k1, k2, l0, l1, l2⟩ (fun _ => ?_)
  clear hK K
  replace hs0 := Nat.le_trans hs0 bN.size
  replace bw := nbelow_trans bw bN
  clear bN
  try simp only [Act.put, List.setIfInBounds_toArray, List.set_cons_zero, List.set_cons_succ]
  refine wpAnyH_ready (rs := [6]) (by kernel_rfl) (by simp) ?_
  refine AllReadyH.cons rfl (fun K hK => ?_) AllReadyH.nil
  go_simp
  refine hK.out _ _ ⟨set4_cell k0 nb1, set4_cell k1 nb1, set4_cell k2 nb1, set4_cell l0 nb2, set4_cell l1 nb2, set4_cell l2 nb2⟩ (fun _ => ?_)
  clear hK K
  try simp only [Act.put, List.setIfInBounds_toArray, List.set_cons_zero, List.set_cons_succ]
  refine wpAnyH_done (by kernel_rfl) ?_ _
  go_wp2_with fail
  refine bodyPost_ret (v := numV s5 a5 n5 c5 e5 g5) (by simp [results, Tryz.results27, go_sem, m0, m1, m2, m3]) rfl ⟨_, rfl, ((((HNR.out.far _ _ (by show w.heap.size < _; omega)).far _ _ (by show w.heap.size < _; omega)).far _ _ (by show w.heap.size < _; omega)).far _ _ (by show w.heap.size < _; omega)).low (by omega), ?_⟩
  exact (((bw.setCell (Nat.le_refl _) _).setCell (Nat.le_refl _) _).setCell (Nat.le_refl _) _).setCell (Nat.le_refl _) _

set_option maxRecDepth 100000 in
set_option maxHeartbeats 4000000 in
theorem mul1_calls (b1 b2 : Nat) (s : Bool) (a : Option Addr) (len cap : Nat) (xs : List Int) (e : Int) (s' : Bool) (a' : Option Addr) (len' cap' : Nat) (ys : List Int) (e' : Int) (w : World) (h : IsW w a len cap xs) (hm : len ≤ 17592186044416) (h' : IsW w a' len' cap' ys) (hm' : len' ≤ 17592186044416) (hT : Tab w) (hr : rightB (val xs) e = true) (hr' : rightB (val ys) e' = true)
    (k0 : w.cell? ⟨b1, 0, none⟩ = some (.bool s)) (k1 : w.cell? ⟨b1, 1, none⟩ = some (.slice a len cap)) (k2 : w.cell? ⟨b1, 2, none⟩ = some (.int .i64 e))
    (l0 : w.cell? ⟨b2, 0, none⟩ = some (.bool s')) (l1 : w.cell? ⟨b2, 1, none⟩ = some (.slice a' len' cap')) (l2 : w.cell? ⟨b2, 2, none⟩ = some (.int .i64 e')) :
    Calls Tryz.prog 30 #[.pointer (some ⟨b1, 0, none⟩), .pointer (some ⟨b2, 0, none⟩)] w fun r w' => ∃ v, r = .returned v ∧ NumR w.heap.size w' v (mulD (formD s (val xs) e) (formD s' (val ys) e')) ∧ Below w.heap.size w w' := by
  have HX : Hid _ := fun W g t => canon_num s a len cap xs e W g hm t hr
  have HY : Hid _ := fun W g t => canon_num s' a' len' cap' ys e' W g hm' t hr'
  have HGX : Hid _ := form_fit s (val xs) e hr
  have HGY : Hid _ := form_fit s' (val ys) e' hr'
  have HBX : Hid _ := form_bounds s (val xs) e hr
  have HBY : Hid _ := form_bounds s' (val ys) e' hr'
  have HCX : Hid _ := form_can s (val xs) e
  have HCY : Hid _ := form_can s' (val ys) e'
  have H1 : Hid (IsW w a len cap xs) := h
  have H2 : Hid (IsW w a' len' cap' ys) := h'
  have HT0 : Hid (∀ W, Below w.heap.size w W → Tab W) := fun W hW => hT.kept hW
  have nb1 : b1 ≠ w.heap.size := Nat.ne_of_lt (World.block_lt_of_cell? _ _ k0)
  have nb2 : b2 ≠ w.heap.size := Nat.ne_of_lt (World.block_lt_of_cell? _ _ l0)
  generalize formD s (val xs) e = x at *
  generalize formD s' (val ys) e' = y at *
  clear hr hr' hm hm' h h' hT
  have bw := below_one w (.cells #[.bool false, .slice none 0 0, .int .i64 0, .bool false] 36)
  obtain ⟨m0, m1, m2, m3, f0, f1, f2, f3⟩ := zero_num (w := w) (r := w.heap.size) (W' := (w.alloc (.cells #[.bool false, .slice none 0 0, .int .i64 0, .bool false] 36))) (Below.refl _ _) rfl
  replace k0 := dcarry_cell bw k0
  replace k1 := dcarry_cell bw k1
  replace k2 := dcarry_cell bw k2
  replace l0 := dcarry_cell bw l0
  replace l1 := dcarry_cell bw l1
  replace l2 := dcarry_cell bw l2
  have hs0 : w.heap.size + 1 ≤ (w.alloc (.cells #[.bool false, .slice none 0 0, .int .i64 0, .bool false] 36)).heap.size := by simp
  go_enter Tryz.func30, Tryz.ntmps30
  go_upto_region 1 with fail
  generalize (w.alloc (.cells #[.bool false, .slice none 0 0, .int .i64 0, .bool false] 36)) = w0 at *
  have bd : Below w0.heap.size w0 w0.drew := (Below.refl _ _).drew
  refine wp_region_held (S := fun w' => w'.cell? ⟨b1, 0, none⟩ = some (.bool s) ∧ w'.cell? ⟨b1, 1, none⟩ = some (.slice a len cap) ∧ w'.cell? ⟨b1, 2, none⟩ = some (.int .i64 e) ∧ w'.cell? ⟨b2, 0, none⟩ = some (.bool s') ∧ w'.cell? ⟨b2, 1, none⟩ = some (.slice a' len' cap') ∧ w'.cell? ⟨b2, 2, none⟩ = some (.int .i64 e')) (by kernel_rfl) ?_
  change wpAnyH _ _ _ _ _ _ _ _ (World.drew w0)
  replace k0 := dcarry_cell bd k0
  replace k1 := dcarry_cell bd k1
  replace k2 := dcarry_cell bd k2
  replace l0 := dcarry_cell bd l0
  replace l1 := dcarry_cell bd l1
  replace l2 := dcarry_cell bd l2
  replace f0 := dcarry_frozen bd m0 f0
  replace f1 := dcarry_frozen bd m1 f1
  replace f2 := dcarry_frozen bd m2 f2
  replace f3 := dcarry_frozen bd m3 f3
  replace m0 := dcarry_cell bd m0
  replace m1 := dcarry_cell bd m1
  replace m2 := dcarry_cell bd m2
  replace m3 := dcarry_cell bd m3
  replace bw := nbelow_trans bw bd
  replace hs0 := Nat.le_trans hs0 bd.size
  clear bd
  generalize World.drew w0 = wd at *
  refine wpAnyH_take (i := 0) (v := .agg #[.bool s, .slice a len cap, .int .i64 e]) rfl (by kernel_rfl) (by kernel_rfl) (by kernel_rfl) (fun _ _ _ h => h) (Or.inl ⟨by rfl, ?y0⟩) ⟨k0, k1, k2, l0, l1, l2⟩ ?r0
  case y0 => (rintro ww ⟨q0, q1, q2, q3, q4, q5⟩; go_simp)
  try simp only [Act.put]
  refine wpAnyH_take (i := 2) (v := .agg #[.bool s', .slice a' len' cap', .int .i64 e']) rfl (by kernel_rfl) (by kernel_rfl) (by kernel_rfl) (fun _ _ _ h => h) (Or.inl ⟨by rfl, ?y1⟩) ⟨k0, k1, k2, l0, l1, l2⟩ ?r1
  case y1 => (rintro ww ⟨q0, q1, q2, q3, q4, q5⟩; go_simp)
  try simp only [Act.put]
  refine wpAnyH_ready (rs := [1]) (by kernel_rfl) (by simp) ?_
  refine AllReadyH.cons rfl (fun K hK => ?_) AllReadyH.nil
  go_simp
  refine Calls.mono (HX.out _ (H1.out.keep bw) (HT0.out _ bw)) ?_
  rintro r wa ⟨va, rfl, hA, bN⟩
  replace k0 := dcarry_cell bN k0
  replace k1 := dcarry_cell bN k1
  replace k2 := dcarry_cell bN k2
  replace l0 := dcarry_cell bN l0
  replace l1 := dcarry_cell bN l1
  replace l2 := dcarry_cell bN l2
  replace f0 := dcarry_frozen bN m0 f0
  replace f1 := dcarry_frozen bN m1 f1
  replace f2 := dcarry_frozen bN m2 f2
  replace f3 := dcarry_frozen bN m3 f3
  replace m0 := dcarry_cell bN m0
  replace m1 := dcarry_cell bN m1
  replace m2 := dcarry_cell bN m2
  replace m3 := dcarry_cell bN m3
  obtain ⟨sA, aA, nA, cA, eA, rfl, HA⟩ := numAt_shape (hA.lows hs0)
  clear hA
  refine hK.out _ _ ⟨k0, k1, k2, l0, l1, l2⟩ (fun _ => ?_)
  clear hK K
  replace hs0 := Nat.le_trans hs0 bN.size
  replace bw := nbelow_trans bw bN
  clear bN
  try simp only [Act.put, List.setIfInBounds_toArray, List.set_cons_zero, List.set_cons_succ]
  refine wpAnyH_ready (rs := [3]) (by kernel_rfl) (by simp) ?_
  refine AllReadyH.cons rfl (fun K hK => ?_) AllReadyH.nil
  go_simp
  refine Calls.mono (HY.out _ (H2.out.keep bw) (HT0.out _ bw)) ?_
  rintro r wb ⟨vb, rfl, hB, bN⟩
  replace k0 := dcarry_cell bN k0
  replace k1 := dcarry_cell bN k1
  replace k2 := dcarry_cell bN k2
  replace l0 := dcarry_cell bN l0
  replace l1 := dcarry_cell bN l1
  replace l2 := dcarry_cell bN l2
  replace f0 := dcarry_frozen bN m0 f0
  replace f1 := dcarry_frozen bN m1 f1
  replace f2 := dcarry_frozen bN m2 f2
  replace f3 := dcarry_frozen bN m3 f3
  replace m0 := dcarry_cell bN m0
  replace m1 := dcarry_cell bN m1
  replace m2 := dcarry_cell bN m2
  replace m3 := dcarry_cell bN m3
  obtain ⟨sB, aB, nB, cB, eB, rfl, HB⟩ := numAt_shape (hB.lows hs0)
  have HA' : Hid (NumAt (w.heap.size + 1) wb (numV sA aA nA cA eA false) x) := HA.out.kept bN
  clear hB HA
  refine hK.out _ _ ⟨k0, k1, k2, l0, l1, l2⟩ (fun _ => ?_)
  clear hK K
  replace hs0 := Nat.le_trans hs0 bN.size
  replace bw := nbelow_trans bw bN
  clear bN
  try simp only [Act.put, List.setIfInBounds_toArray, List.set_cons_zero, List.set_cons_succ]
  refine wpAnyH_ready (rs := [4]) (by kernel_rfl) (by simp) ?_
  refine AllReadyH.cons rfl (fun K hK => ?_) AllReadyH.nil
  go_simp
  refine Calls.mono (dtimes_calls (w.heap.size + 1) _ _ x y _ HA'.out HB.out HGX.out HGY.out HCX.out HCY.out HBX.out HBY.out (HT0.out _ bw)) ?_
  rintro r wp ⟨vp, rfl, hN, bN⟩
  replace k0 := dcarry_cell bN k0
  replace k1 := dcarry_cell bN k1
  replace k2 := dcarry_cell bN k2
  replace l0 := dcarry_cell bN l0
  replace l1 := dcarry_cell bN l1
  replace l2 := dcarry_cell bN l2
  replace f0 := dcarry_frozen bN m0 f0
  replace f1 := dcarry_frozen bN m1 f1
  replace f2 := dcarry_frozen bN m2 f2
  replace f3 := dcarry_frozen bN m3 f3
  replace m0 := dcarry_cell bN m0
  replace m1 := dcarry_cell bN m1
  replace m2 := dcarry_cell bN m2
  replace m3 := dcarry_cell bN m3
  obtain ⟨s5, a5, n5, c5, e5, g5, rfl, HNR⟩ := numR_form (hN.low hs0)
  clear hN
  refine hK.out _ _ ⟨k0, k1, k2, l0, l1, l2⟩ (fun _ => ?_)
  clear hK K
  replace hs0 := Nat.le_trans hs0 bN.size
  replace bw := nbelow_trans bw bN
  clear bN
  try simp only [Act.put, List.setIfInBounds_toArray, List.set_cons_zero, List.set_cons_succ]
  refine wpAnyH_ready (rs := [5]) (by kernel_rfl) (by simp) ?_
  refine AllReadyH.cons rfl (fun K hK => ?_) AllReadyH.nil
  go_simp
  refine hK.out _ _ ⟨set4_cell k0 nb1, set4_cell k1 nb1, set4_cell k2 nb1, set4_cell l0 nb2, set4_cell l1 nb2, set4_cell l2 nb2⟩ (fun _ => ?_)
  clear hK K
  try simp only [Act.put, List.setIfInBounds_toArray, List.set_cons_zero, List.set_cons_succ]
  refine wpAnyH_done (by kernel_rfl) ?_ _
  go_wp2_with fail
  refine bodyPost_ret (v := numV s5 a5 n5 c5 e5 g5) (by simp [results, Tryz.results30, go_sem, m0, m1, m2, m3]) rfl ⟨_, rfl, ((((HNR.out.far _ _ (by show w.heap.size < _; omega)).far _ _ (by show w.heap.size < _; omega)).far _ _ (by show w.heap.size < _; omega)).far _ _ (by show w.heap.size < _; omega)).low (by omega), ?_⟩
  exact (((bw.setCell (Nat.le_refl _) _).setCell (Nat.le_refl _) _).setCell (Nat.le_refl _) _).setCell (Nat.le_refl _) _

set_option maxRecDepth 100000 in
set_option maxHeartbeats 4000000 in
theorem dsub_not (s : Bool) (a : Option Addr) (len cap : Nat) (xs : List Int) (e : Int) (s' : Bool) (a' : Option Addr) (len' cap' : Nat) (ys : List Int) (e' : Int) (w : World) (h : IsW w a len cap xs) (hm : len ≤ 17592186044416) (h' : IsW w a' len' cap' ys) (hm' : len' ≤ 17592186044416) (hr : (rightB (val xs) e && rightB (val ys) e') = false) :
    Calls Tryz.prog 8 #[dyV s a len cap e, dyV s' a' len' cap' e'] w fun r w' => r = .returned (.tuple #[dyV false none 0 0 0, .int .i64 2]) ∧ Below w.heap.size w w' := by
  have hmf : ∀ (fn : Fn) (first cap : Array Value) (w : World), (Instr.makeFunc fn first cap).run Tryz.prog w = .ok (.func fn first cap) w := fun _ _ _ _ => rfl
  have HRB : Hid ((rightB (val xs) e && rightB (val ys) e') = false) := hr
  clear hr
  go_enter Tryz.func8, Tryz.ntmps8
  go_wp2_with fail
  have hb0 : Below w.heap.size w ((((w.alloc (.cells #[.bool s, .slice a len cap, .int .i64 e] 25)).alloc (.cells #[.bool s', .slice a' len' cap', .int .i64 e'] 25)).alloc (.cells #[.bool false, .slice none 0 0, .int .i64 0] 25)).alloc (.cells #[.bool s, .slice a len cap, .int .i64 e, .bool s', .slice a' len' cap', .int .i64 e'] 25)) := by repeat (first | exact Below.refl _ _ | refine Below.alloc ?_ (by simp; try omega) _)
  refine Calls.mono (made_not _ _ _ (fun W hW => HRB.out ▸ right2_calls (w.heap.size + 1 + 1 + 1) s a len cap xs e s' a' len' cap' ys e' W (h.keep (nbelow_trans hb0 hW)) hm (h'.keep (nbelow_trans hb0 hW)) hm' (dcarry_cell hW (by go_simp)) (dcarry_cell hW (by go_simp)) (dcarry_cell hW (by go_simp)) (dcarry_cell hW (by go_simp)) (dcarry_cell hW (by go_simp)) (dcarry_cell hW (by go_simp)))) ?_
  rintro r w2 ⟨rfl, hbM⟩
  have hb2 := nbelow_trans hb0 hbM
  obtain ⟨m0, m1, m2, f0, f1, f2⟩ := zero_dy (r := w.heap.size + 1 + 1) (w := (w.alloc (.cells #[.bool s, .slice a len cap, .int .i64 e] 25)).alloc (.cells #[.bool s', .slice a' len' cap', .int .i64 e'] 25)) (W' := w2) (nbelow_trans (below_one _ _) hbM) (by simp)
  go_wp2_with fail
  refine bodyPost_ret (v := .tuple #[dyV false none 0 0 0, .int .i64 2]) (by simp [results, Tryz.results8, go_sem, m0, m1, m2]) rfl ⟨rfl, ?_⟩
  exact ((hb2.setCell (by show w.heap.size ≤ w.heap.size + 1 + 1; omega) _).setCell (by show w.heap.size ≤ w.heap.size + 1 + 1; omega) _).setCell (by show w.heap.size ≤ w.heap.size + 1 + 1; omega) _

set_option maxRecDepth 100000 in
set_option maxHeartbeats 4000000 in
theorem dsub_yes (s : Bool) (a : Option Addr) (len cap : Nat) (xs : List Int) (e : Int) (s' : Bool) (a' : Option Addr) (len' cap' : Nat) (ys : List Int) (e' : Int) (w : World) (h : IsW w a len cap xs) (hm : len ≤ 17592186044416) (h' : IsW w a' len' cap' ys) (hm' : len' ≤ 17592186044416) (hT : Tab w) (hr : rightB (val xs) e = true) (hr' : rightB (val ys) e' = true) :
    Calls Tryz.prog 8 #[dyV s a len cap e, dyV s' a' len' cap' e'] w fun r w' => ∃ v', r = .returned (.tuple #[v', .int .i64 (roomE (sumD (formD s (val xs) e) (negD (formD s' (val ys) e'))))]) ∧ DyAt w.heap.size w' v' (roomP (sumD (formD s (val xs) e) (negD (formD s' (val ys) e')))) ∧ Below w.heap.size w w' := by
  have hmf : ∀ (fn : Fn) (first cap : Array Value) (w : World), (Instr.makeFunc fn first cap).run Tryz.prog w = .ok (.func fn first cap) w := fun _ _ _ _ => rfl
  have HRB : Hid ((rightB (val xs) e && rightB (val ys) e') = true) := by rw [Hid, hr, hr']; rfl
  have HR1 : Hid (rightB (val xs) e = true) := hr
  have HR2 : Hid (rightB (val ys) e' = true) := hr'
  clear hr hr'
  go_enter Tryz.func8, Tryz.ntmps8
  go_wp2_with fail
  have hb0 : Below w.heap.size w ((((w.alloc (.cells #[.bool s, .slice a len cap, .int .i64 e] 25)).alloc (.cells #[.bool s', .slice a' len' cap', .int .i64 e'] 25)).alloc (.cells #[.bool false, .slice none 0 0, .int .i64 0] 25)).alloc (.cells #[.bool s, .slice a len cap, .int .i64 e, .bool s', .slice a' len' cap', .int .i64 e'] 25)) := by repeat (first | exact Below.refl _ _ | refine Below.alloc ?_ (by simp; try omega) _)
  refine Calls.mono (made_Sub w.heap.size (w.heap.size + 1) 0 (sumD (formD s (val xs) e) (negD (formD s' (val ys) e'))) _ _ (fun W hW => HRB.out ▸ right2_calls (w.heap.size + 1 + 1 + 1) s a len cap xs e s' a' len' cap' ys e' W (h.keep (nbelow_trans hb0 hW)) hm (h'.keep (nbelow_trans hb0 hW)) hm' (dcarry_cell hW (by go_simp)) (dcarry_cell hW (by go_simp)) (dcarry_cell hW (by go_simp)) (dcarry_cell hW (by go_simp)) (dcarry_cell hW (by go_simp)) (dcarry_cell hW (by go_simp)))
    (fun W hW => Calls.mono (sub1_calls w.heap.size (w.heap.size + 1) s a len cap xs e s' a' len' cap' ys e' W (h.keep (nbelow_trans hb0 hW)) hm (h'.keep (nbelow_trans hb0 hW)) hm' (hT.kept (nbelow_trans hb0 hW)) HR1.out HR2.out (dcarry_cell hW (by go_simp)) (dcarry_cell hW (by go_simp)) (dcarry_cell hW (by go_simp)) (dcarry_cell hW (by go_simp)) (dcarry_cell hW (by go_simp)) (dcarry_cell hW (by go_simp))) (by
      rintro r w5 ⟨v, rfl, hN, hb5⟩
      exact ⟨v, rfl, hN.low (Nat.zero_le _), hb5⟩))) ?_
  rintro r w2 ⟨v', rfl, ⟨a2, n2, c2, rfl, HN2, hn2, hO2⟩, hbM⟩
  have hb2 := nbelow_trans hb0 hbM
  obtain ⟨m0, m1, m2, f0, f1, f2⟩ := zero_dy (r := w.heap.size + 1 + 1) (w := (w.alloc (.cells #[.bool s, .slice a len cap, .int .i64 e] 25)).alloc (.cells #[.bool s', .slice a' len' cap', .int .i64 e'] 25)) (W' := w2) (nbelow_trans (below_one _ _) hbM) (by simp)
  go_wp2_with fail
  refine bodyPost_ret (v := .tuple #[dyV (roomP (sumD (formD s (val xs) e) (negD (formD s' (val ys) e')))).1 a2 n2 c2 (roomP (sumD (formD s (val xs) e) (negD (formD s' (val ys) e')))).2.2, .int .i64 (roomE (sumD (formD s (val xs) e) (negD (formD s' (val ys) e'))))]) (by simp [results, Tryz.results8, go_sem, m0, m1, m2]) rfl ⟨_, rfl, ⟨a2, n2, c2, rfl, HN2, hn2, (((hO2.far _ _ (by show w.heap.size + 1 + 1 < _; simp)).far _ _ (by show w.heap.size + 1 + 1 < _; simp)).far _ _ (by show w.heap.size + 1 + 1 < _; simp)).low (by simp; omega)⟩, ?_⟩
  exact ((hb2.setCell (by show w.heap.size ≤ w.heap.size + 1 + 1; omega) _).setCell (by show w.heap.size ≤ w.heap.size + 1 + 1; omega) _).setCell (by show w.heap.size ≤ w.heap.size + 1 + 1; omega) _

set_option maxRecDepth 100000 in
set_option maxHeartbeats 4000000 in
theorem dmul_not (s : Bool) (a : Option Addr) (len cap : Nat) (xs : List Int) (e : Int) (s' : Bool) (a' : Option Addr) (len' cap' : Nat) (ys : List Int) (e' : Int) (w : World) (h : IsW w a len cap xs) (hm : len ≤ 17592186044416) (h' : IsW w a' len' cap' ys) (hm' : len' ≤ 17592186044416) (hr : (rightB (val xs) e && rightB (val ys) e') = false) :
    Calls Tryz.prog 10 #[dyV s a len cap e, dyV s' a' len' cap' e'] w fun r w' => r = .returned (.tuple #[dyV false none 0 0 0, .int .i64 2]) ∧ Below w.heap.size w w' := by
  have hmf : ∀ (fn : Fn) (first cap : Array Value) (w : World), (Instr.makeFunc fn first cap).run Tryz.prog w = .ok (.func fn first cap) w := fun _ _ _ _ => rfl
  have HRB : Hid ((rightB (val xs) e && rightB (val ys) e') = false) := hr
  clear hr
  go_enter Tryz.func10, Tryz.ntmps10
  go_wp2_with fail
  have hb0 : Below w.heap.size w ((((w.alloc (.cells #[.bool s, .slice a len cap, .int .i64 e] 25)).alloc (.cells #[.bool s', .slice a' len' cap', .int .i64 e'] 25)).alloc (.cells #[.bool false, .slice none 0 0, .int .i64 0] 25)).alloc (.cells #[.bool s, .slice a len cap, .int .i64 e, .bool s', .slice a' len' cap', .int .i64 e'] 25)) := by repeat (first | exact Below.refl _ _ | refine Below.alloc ?_ (by simp; try omega) _)
  refine Calls.mono (made_not _ _ _ (fun W hW => HRB.out ▸ right2_calls (w.heap.size + 1 + 1 + 1) s a len cap xs e s' a' len' cap' ys e' W (h.keep (nbelow_trans hb0 hW)) hm (h'.keep (nbelow_trans hb0 hW)) hm' (dcarry_cell hW (by go_simp)) (dcarry_cell hW (by go_simp)) (dcarry_cell hW (by go_simp)) (dcarry_cell hW (by go_simp)) (dcarry_cell hW (by go_simp)) (dcarry_cell hW (by go_simp)))) ?_
  rintro r w2 ⟨rfl, hbM⟩
  have hb2 := nbelow_trans hb0 hbM
  obtain ⟨m0, m1, m2, f0, f1, f2⟩ := zero_dy (r := w.heap.size + 1 + 1) (w := (w.alloc (.cells #[.bool s, .slice a len cap, .int .i64 e] 25)).alloc (.cells #[.bool s', .slice a' len' cap', .int .i64 e'] 25)) (W' := w2) (nbelow_trans (below_one _ _) hbM) (by simp)
  go_wp2_with fail
  refine bodyPost_ret (v := .tuple #[dyV false none 0 0 0, .int .i64 2]) (by simp [results, Tryz.results10, go_sem, m0, m1, m2]) rfl ⟨rfl, ?_⟩
  exact ((hb2.setCell (by show w.heap.size ≤ w.heap.size + 1 + 1; omega) _).setCell (by show w.heap.size ≤ w.heap.size + 1 + 1; omega) _).setCell (by show w.heap.size ≤ w.heap.size + 1 + 1; omega) _

set_option maxRecDepth 100000 in
set_option maxHeartbeats 4000000 in
theorem dmul_yes (s : Bool) (a : Option Addr) (len cap : Nat) (xs : List Int) (e : Int) (s' : Bool) (a' : Option Addr) (len' cap' : Nat) (ys : List Int) (e' : Int) (w : World) (h : IsW w a len cap xs) (hm : len ≤ 17592186044416) (h' : IsW w a' len' cap' ys) (hm' : len' ≤ 17592186044416) (hT : Tab w) (hr : rightB (val xs) e = true) (hr' : rightB (val ys) e' = true) :
    Calls Tryz.prog 10 #[dyV s a len cap e, dyV s' a' len' cap' e'] w fun r w' => ∃ v', r = .returned (.tuple #[v', .int .i64 (roomE (mulD (formD s (val xs) e) (formD s' (val ys) e')))]) ∧ DyAt w.heap.size w' v' (roomP (mulD (formD s (val xs) e) (formD s' (val ys) e'))) ∧ Below w.heap.size w w' := by
  have hmf : ∀ (fn : Fn) (first cap : Array Value) (w : World), (Instr.makeFunc fn first cap).run Tryz.prog w = .ok (.func fn first cap) w := fun _ _ _ _ => rfl
  have HRB : Hid ((rightB (val xs) e && rightB (val ys) e') = true) := by rw [Hid, hr, hr']; rfl
  have HR1 : Hid (rightB (val xs) e = true) := hr
  have HR2 : Hid (rightB (val ys) e' = true) := hr'
  clear hr hr'
  go_enter Tryz.func10, Tryz.ntmps10
  go_wp2_with fail
  have hb0 : Below w.heap.size w ((((w.alloc (.cells #[.bool s, .slice a len cap, .int .i64 e] 25)).alloc (.cells #[.bool s', .slice a' len' cap', .int .i64 e'] 25)).alloc (.cells #[.bool false, .slice none 0 0, .int .i64 0] 25)).alloc (.cells #[.bool s, .slice a len cap, .int .i64 e, .bool s', .slice a' len' cap', .int .i64 e'] 25)) := by repeat (first | exact Below.refl _ _ | refine Below.alloc ?_ (by simp; try omega) _)
  refine Calls.mono (made_Mul w.heap.size (w.heap.size + 1) 0 (mulD (formD s (val xs) e) (formD s' (val ys) e')) _ _ (fun W hW => HRB.out ▸ right2_calls (w.heap.size + 1 + 1 + 1) s a len cap xs e s' a' len' cap' ys e' W (h.keep (nbelow_trans hb0 hW)) hm (h'.keep (nbelow_trans hb0 hW)) hm' (dcarry_cell hW (by go_simp)) (dcarry_cell hW (by go_simp)) (dcarry_cell hW (by go_simp)) (dcarry_cell hW (by go_simp)) (dcarry_cell hW (by go_simp)) (dcarry_cell hW (by go_simp)))
    (fun W hW => Calls.mono (mul1_calls w.heap.size (w.heap.size + 1) s a len cap xs e s' a' len' cap' ys e' W (h.keep (nbelow_trans hb0 hW)) hm (h'.keep (nbelow_trans hb0 hW)) hm' (hT.kept (nbelow_trans hb0 hW)) HR1.out HR2.out (dcarry_cell hW (by go_simp)) (dcarry_cell hW (by go_simp)) (dcarry_cell hW (by go_simp)) (dcarry_cell hW (by go_simp)) (dcarry_cell hW (by go_simp)) (dcarry_cell hW (by go_simp))) (by
      rintro r w5 ⟨v, rfl, hN, hb5⟩
      exact ⟨v, rfl, hN.low (Nat.zero_le _), hb5⟩))) ?_
  rintro r w2 ⟨v', rfl, ⟨a2, n2, c2, rfl, HN2, hn2, hO2⟩, hbM⟩
  have hb2 := nbelow_trans hb0 hbM
  obtain ⟨m0, m1, m2, f0, f1, f2⟩ := zero_dy (r := w.heap.size + 1 + 1) (w := (w.alloc (.cells #[.bool s, .slice a len cap, .int .i64 e] 25)).alloc (.cells #[.bool s', .slice a' len' cap', .int .i64 e'] 25)) (W' := w2) (nbelow_trans (below_one _ _) hbM) (by simp)
  go_wp2_with fail
  refine bodyPost_ret (v := .tuple #[dyV (roomP (mulD (formD s (val xs) e) (formD s' (val ys) e'))).1 a2 n2 c2 (roomP (mulD (formD s (val xs) e) (formD s' (val ys) e'))).2.2, .int .i64 (roomE (mulD (formD s (val xs) e) (formD s' (val ys) e')))]) (by simp [results, Tryz.results10, go_sem, m0, m1, m2]) rfl ⟨_, rfl, ⟨a2, n2, c2, rfl, HN2, hn2, (((hO2.far _ _ (by show w.heap.size + 1 + 1 < _; simp)).far _ _ (by show w.heap.size + 1 + 1 < _; simp)).far _ _ (by show w.heap.size + 1 + 1 < _; simp)).low (by simp; omega)⟩, ?_⟩
  exact ((hb2.setCell (by show w.heap.size ≤ w.heap.size + 1 + 1; omega) _).setCell (by show w.heap.size ≤ w.heap.size + 1 + 1; omega) _).setCell (by show w.heap.size ≤ w.heap.size + 1 + 1; omega) _

end

section
open Go.RowKit

theorem prod_words (u v : Nat) : (wordsOf (u * v)).length ≤ (wordsOf u).length + (wordsOf v).length := by
  refine (words_len2 _ _).2 ((blen_le _ _).2 ?_)
  have h1 := (blen_le _ _).1 ((words_len2 _ u).1 (Nat.le_refl _))
  have h2 := (blen_le _ _).1 ((words_len2 _ v).1 (Nat.le_refl _))
  have h3 := Nat.mul_lt_mul'' h1 h2
  rw [← Nat.pow_add] at h3
  rw [Nat.mul_add]
  exact h3
attribute [local go_sem ↓] Go.wp_at_zero Go.wp_at_succ

set_option maxRecDepth 100000 in
set_option maxHeartbeats 8000000 in
theorem qTimes_calls (s : Bool) (a : Option Addr) (len cap : Nat) (xs : List Int) (e : Int) (t : Bool) (b : Option Addr) (len' cap' : Nat) (ys : List Int) (f : Int) (w : World) (h : IsW w a len cap xs) (hm : len ≤ 17592186044000) (h' : IsW w b len' cap' ys) (hm' : len' ≤ 17592186044000) (he : -10000000 ≤ e ∧ e ≤ 10000000) (hf : -10000000 ≤ f ∧ f ≤ 10000000) (hbx : blen (val xs) ≤ 10000000) (hby : blen (val ys) ≤ 10000000) :
    Calls Tryz.prog 32 #[dyV s a len cap e, dyV t b len' cap' f] w fun r w' => ∃ v', r = .returned v' ∧ DyQ w.heap.size w' v' (mulD (formD s (val xs) e) (formD t (val ys) f)) ∧ Below w.heap.size w w' := by
  have HX : Hid _ := fun w' g => qOne_calls s a len cap xs e w' g hm (by omega)
  have HY : Hid _ := fun w' g => qOne_calls t b len' cap' ys f w' g hm' (by omega)
  have hxb : blen (formD s (val xs) e).2.1 ≤ 10000000 := Nat.le_trans (blen_mono (form_amount_le _ _ _)) hbx
  have hyb : blen (formD t (val ys) f).2.1 ≤ 10000000 := Nat.le_trans (blen_mono (form_amount_le _ _ _)) hby
  have hxe := form_expb s (val xs) e hbx he
  have hye := form_expb t (val ys) f hby hf
  clear hbx hby
  generalize formD s (val xs) e = x at *
  generalize formD t (val ys) f = y at *
  generalize hpp : mulD x y = p
  have HP : Hid _ := hpp
  clear hpp
  have H1 : Hid (IsW w a len cap xs) := h
  have H2 : Hid (IsW w b len' cap' ys) := h'
  clear hm hm' he hf h h'
  have bw0 : Below w.heap.size w (((w.alloc (.cells #[.bool s, .slice a len cap, .int .i64 e] 25)).alloc (.cells #[.bool t, .slice b len' cap', .int .i64 f] 25)).alloc (.cells #[.bool false, .slice none 0 0, .int .i64 0] 25)) := by repeat (first | exact Below.refl _ _ | refine bl_alloc ?_ _)
  have k0 : (((w.alloc (.cells #[.bool s, .slice a len cap, .int .i64 e] 25)).alloc (.cells #[.bool t, .slice b len' cap', .int .i64 f] 25)).alloc (.cells #[.bool false, .slice none 0 0, .int .i64 0] 25)).cell? ⟨w.heap.size, 0, none⟩ = some (.bool s) := by go_simp
  have k1 : (((w.alloc (.cells #[.bool s, .slice a len cap, .int .i64 e] 25)).alloc (.cells #[.bool t, .slice b len' cap', .int .i64 f] 25)).alloc (.cells #[.bool false, .slice none 0 0, .int .i64 0] 25)).cell? ⟨w.heap.size, 1, none⟩ = some (.slice a len cap) := by go_simp
  have k2 : (((w.alloc (.cells #[.bool s, .slice a len cap, .int .i64 e] 25)).alloc (.cells #[.bool t, .slice b len' cap', .int .i64 f] 25)).alloc (.cells #[.bool false, .slice none 0 0, .int .i64 0] 25)).cell? ⟨w.heap.size, 2, none⟩ = some (.int .i64 e) := by go_simp
  have k3 : (((w.alloc (.cells #[.bool s, .slice a len cap, .int .i64 e] 25)).alloc (.cells #[.bool t, .slice b len' cap', .int .i64 f] 25)).alloc (.cells #[.bool false, .slice none 0 0, .int .i64 0] 25)).cell? ⟨w.heap.size + 1, 0, none⟩ = some (.bool t) := by go_simp
  have k4 : (((w.alloc (.cells #[.bool s, .slice a len cap, .int .i64 e] 25)).alloc (.cells #[.bool t, .slice b len' cap', .int .i64 f] 25)).alloc (.cells #[.bool false, .slice none 0 0, .int .i64 0] 25)).cell? ⟨w.heap.size + 1, 1, none⟩ = some (.slice b len' cap') := by go_simp
  have k5 : (((w.alloc (.cells #[.bool s, .slice a len cap, .int .i64 e] 25)).alloc (.cells #[.bool t, .slice b len' cap', .int .i64 f] 25)).alloc (.cells #[.bool false, .slice none 0 0, .int .i64 0] 25)).cell? ⟨w.heap.size + 1, 2, none⟩ = some (.int .i64 f) := by go_simp
  obtain ⟨m0, m1, m2, f0, f1, f2⟩ := zero_dy (w := ((w.alloc (.cells #[.bool s, .slice a len cap, .int .i64 e] 25)).alloc (.cells #[.bool t, .slice b len' cap', .int .i64 f] 25))) (r := w.heap.size + 1 + 1) (W' := (((w.alloc (.cells #[.bool s, .slice a len cap, .int .i64 e] 25)).alloc (.cells #[.bool t, .slice b len' cap', .int .i64 f] 25)).alloc (.cells #[.bool false, .slice none 0 0, .int .i64 0] 25))) (Below.refl _ _) (by simp)
  have hs0 : (((w.alloc (.cells #[.bool s, .slice a len cap, .int .i64 e] 25)).alloc (.cells #[.bool t, .slice b len' cap', .int .i64 f] 25)).alloc (.cells #[.bool false, .slice none 0 0, .int .i64 0] 25)).heap.size = w.heap.size + 1 + 1 + 1 := by simp
  go_enter Tryz.func32, Tryz.ntmps32
  go_upto_region 1 with fail
  generalize (((w.alloc (.cells #[.bool s, .slice a len cap, .int .i64 e] 25)).alloc (.cells #[.bool t, .slice b len' cap', .int .i64 f] 25)).alloc (.cells #[.bool false, .slice none 0 0, .int .i64 0] 25)) = w0 at *
  go_cut [5, 6] from 7 to 10 (fun v5 v6 wx => ∃ X Y : Nat, v5 = .pointer (some ⟨X, 0, none⟩) ∧ v6 = .pointer (some ⟨Y, 0, none⟩) ∧ PlusR w0 wx X Y x y)
  case first =>
    have bw : Below w0.heap.size w0 w0.drew := (Below.refl _ _).drew
    refine wp_region_held (S := fun w' => Below w0.heap.size w0 w') (by kernel_rfl) ?_
    change wpAnyH _ _ _ _ _ _ _ _ (World.drew w0)
    generalize World.drew w0 = wd at *
    refine wpAnyH_take (i := 0) (v := .agg #[.bool s, .slice a len cap, .int .i64 e]) rfl (by kernel_rfl) (by kernel_rfl) (by kernel_rfl) (fun _ _ _ h => h) (Or.inl ⟨by rfl, ?y0⟩) bw ?r0
    case y0 =>
      intro ww hS
      have q0 := dcarry_cell hS k0
      have q1 := dcarry_cell hS k1
      have q2 := dcarry_cell hS k2
      clear hS
      go_simp
    try simp only [Act.put, List.setIfInBounds_toArray]
    refine wpAnyH_take (i := 2) (v := .agg #[.bool t, .slice b len' cap', .int .i64 f]) rfl (by kernel_rfl) (by kernel_rfl) (by kernel_rfl) (fun _ _ _ h => h) (Or.inl ⟨by rfl, ?y1⟩) bw ?r1
    case y1 =>
      intro ww hS
      have q3 := dcarry_cell hS k3
      have q4 := dcarry_cell hS k4
      have q5 := dcarry_cell hS k5
      clear hS
      go_simp
    try simp only [Act.put]
    refine wpAnyH_ready (rs := [1, 4, 5]) (by kernel_rfl) (by simp) ?_
    refine AllReadyH.cons rfl (fun K hK => ?_) (AllReadyH.cons rfl (fun K hK => ?_) (AllReadyH.cons rfl (fun K hK => ?_) (AllReadyH.nil)))
    · go_simp
      refine Calls.mono (HX.out _ (H1.out.keep (nbelow_trans bw0 bw))) ?_
      rintro r v1 ⟨_, rfl, ⟨a1, n1, c1, rfl, HN1, hO1⟩, bN⟩
      refine hK.out _ _ (nbelow_trans bw bN) (fun _ => ?_)
      clear hK K
      have hP1 := hO1.low (B' := w0.heap.size) bw.size
      replace bw := nbelow_trans bw bN
      clear bN hO1
      try simp only [Act.put, List.setIfInBounds_toArray, List.set_cons_zero, List.set_cons_succ]
      refine wpAnyH_ready (rs := [3, 4, 5]) (by kernel_rfl) (by simp) ?_
      refine AllReadyH.cons rfl (fun K hK => ?_) (AllReadyH.cons rfl (fun K hK => ?_) (AllReadyH.cons rfl (fun K hK => ?_) (AllReadyH.nil)))
      · go_simp
        refine Calls.mono (HY.out _ (H2.out.keep (nbelow_trans bw0 bw))) ?_
        rintro r v2 ⟨_, rfl, ⟨a2, n2, c2, rfl, HN2, hO2⟩, bN⟩
        refine hK.out _ _ (nbelow_trans bw bN) (fun _ => ?_)
        clear hK K
        replace hP1 := hP1.keep bN
        have hP2 := hO2.low (B' := w0.heap.size) bw.size
        replace bw := nbelow_trans bw bN
        clear bN hO2
        try simp only [Act.put, List.setIfInBounds_toArray, List.set_cons_zero, List.set_cons_succ]
        refine wpAnyH_ready (rs := [4, 5]) (by kernel_rfl) (by simp) ?_
        refine AllReadyH.cons rfl (fun K hK => ?_) (AllReadyH.cons rfl (fun K hK => ?_) (AllReadyH.nil))
        · go_simp
          refine hK.out _ _ (bl_alloc bw _) (fun _ => ?_)
          clear hK K
          have bN := below_one v2 (.cells #[.bool false, .slice none 0 0, .int .i64 0] 25)
          replace hP1 := hP1.keep bN
          replace hP2 := hP2.keep bN
          obtain ⟨X0, X1, X2, X3, X4, X5⟩ := zero_dy (w := v2) (r := v2.heap.size) (W' := v2.alloc (.cells #[.bool false, .slice none 0 0, .int .i64 0] 25)) (Below.refl _ _) rfl
          have XL : w0.heap.size ≤ v2.heap.size := bw.size
          replace bw := bl_alloc bw (.cells #[.bool false, .slice none 0 0, .int .i64 0] 25)
          clear bN
          try simp only [Act.put, List.setIfInBounds_toArray, List.set_cons_zero, List.set_cons_succ]
          generalize v2.alloc (.cells #[.bool false, .slice none 0 0, .int .i64 0] 25) = v3 at *
          refine wpAnyH_ready (rs := [5]) (by kernel_rfl) (by simp) ?_
          refine AllReadyH.cons rfl (fun K hK => ?_) (AllReadyH.nil)
          · go_simp
            refine hK.out _ _ (bl_alloc bw _) (fun _ => ?_)
            clear hK K
            have bN := below_one v3 (.cells #[.bool false, .slice none 0 0, .int .i64 0] 25)
            have ne1 : v2.heap.size ≠ v3.heap.size := Nat.ne_of_lt (World.block_lt_of_cell? _ _ X0)
            have ne2 := Ne.symm ne1
            replace X3 := dcarry_frozen bN X0 X3
            replace X4 := dcarry_frozen bN X1 X4
            replace X5 := dcarry_frozen bN X2 X5
            replace X0 := dcarry_cell bN X0
            replace X1 := dcarry_cell bN X1
            replace X2 := dcarry_cell bN X2
            replace hP1 := hP1.keep bN
            replace hP2 := hP2.keep bN
            obtain ⟨Y0, Y1, Y2, Y3, Y4, Y5⟩ := zero_dy (w := v3) (r := v3.heap.size) (W' := v3.alloc (.cells #[.bool false, .slice none 0 0, .int .i64 0] 25)) (Below.refl _ _) rfl
            have YL : w0.heap.size ≤ v3.heap.size := bw.size
            replace bw := bl_alloc bw (.cells #[.bool false, .slice none 0 0, .int .i64 0] 25)
            clear bN
            try simp only [Act.put, List.setIfInBounds_toArray, List.set_cons_zero, List.set_cons_succ]
            generalize v3.alloc (.cells #[.bool false, .slice none 0 0, .int .i64 0] 25) = v4 at *
            refine wpAnyH_ready (rs := [6]) (by kernel_rfl) (by simp) ?_
            refine AllReadyH.cons rfl (fun K hK => ?_) (AllReadyH.nil)
            · go_simp
              have bS : Below w0.heap.size w0 (((v4.setCell ⟨v2.heap.size, 0, none⟩ (.bool x.1)).setCell ⟨v2.heap.size, 1, none⟩ (.slice a1 n1 c1)).setCell ⟨v2.heap.size, 2, none⟩ (.int .i64 x.2.2)) := ((bw.setCell XL _).setCell XL _).setCell XL _
              refine hK.out _ _ bS (fun _ => ?_)
              clear hK K
              replace hP1 := hP1.set_dy _ _ _ _ _ _ (.bool x.1) (.slice a1 n1 c1) (.int .i64 x.2.2) X0 X1 X2
              replace hP2 := hP2.set_dy _ _ _ _ _ _ (.bool x.1) (.slice a1 n1 c1) (.int .i64 x.2.2) X0 X1 X2
              replace Y0 := set3_cell (v0 := .bool x.1) (v1 := .slice a1 n1 c1) (v2 := .int .i64 x.2.2) Y0 (r := v2.heap.size) (by first | exact ne1 | exact ne2)
              replace Y1 := set3_cell (v0 := .bool x.1) (v1 := .slice a1 n1 c1) (v2 := .int .i64 x.2.2) Y1 (r := v2.heap.size) (by first | exact ne1 | exact ne2)
              replace Y2 := set3_cell (v0 := .bool x.1) (v1 := .slice a1 n1 c1) (v2 := .int .i64 x.2.2) Y2 (r := v2.heap.size) (by first | exact ne1 | exact ne2)
              replace Y3 := set3_frozen (r := v2.heap.size) (v0 := .bool x.1) (v1 := .slice a1 n1 c1) (v2 := .int .i64 x.2.2) Y3
              replace Y4 := set3_frozen (r := v2.heap.size) (v0 := .bool x.1) (v1 := .slice a1 n1 c1) (v2 := .int .i64 x.2.2) Y4
              replace Y5 := set3_frozen (r := v2.heap.size) (v0 := .bool x.1) (v1 := .slice a1 n1 c1) (v2 := .int .i64 x.2.2) Y5
              obtain ⟨Z0, Z1, Z2⟩ := set3_same (r := v2.heap.size) (v0 := .bool x.1) (v1 := .slice a1 n1 c1) (v2 := .int .i64 x.2.2) X0 X1 X2
              clear X0 X1 X2 X3 X4 X5 bw
              try simp only [Act.put, List.setIfInBounds_toArray, List.set_cons_zero, List.set_cons_succ]
              generalize (((v4.setCell ⟨v2.heap.size, 0, none⟩ (.bool x.1)).setCell ⟨v2.heap.size, 1, none⟩ (.slice a1 n1 c1)).setCell ⟨v2.heap.size, 2, none⟩ (.int .i64 x.2.2)) = v5 at *
              have X0 := Z0
              have X1 := Z1
              have X2 := Z2
              have bw := bS
              clear Z0 Z1 Z2 bS
              refine wpAnyH_ready (rs := [7]) (by kernel_rfl) (by simp) ?_
              refine AllReadyH.cons rfl (fun K hK => ?_) (AllReadyH.nil)
              · go_simp
                have bS : Below w0.heap.size w0 (((v5.setCell ⟨v3.heap.size, 0, none⟩ (.bool y.1)).setCell ⟨v3.heap.size, 1, none⟩ (.slice a2 n2 c2)).setCell ⟨v3.heap.size, 2, none⟩ (.int .i64 y.2.2)) := ((bw.setCell YL _).setCell YL _).setCell YL _
                refine hK.out _ _ bS (fun _ => ?_)
                clear hK K
                replace hP1 := hP1.set_dy _ _ _ _ _ _ (.bool y.1) (.slice a2 n2 c2) (.int .i64 y.2.2) Y0 Y1 Y2
                replace hP2 := hP2.set_dy _ _ _ _ _ _ (.bool y.1) (.slice a2 n2 c2) (.int .i64 y.2.2) Y0 Y1 Y2
                replace X0 := set3_cell (v0 := .bool y.1) (v1 := .slice a2 n2 c2) (v2 := .int .i64 y.2.2) X0 (r := v3.heap.size) (by first | exact ne1 | exact ne2)
                replace X1 := set3_cell (v0 := .bool y.1) (v1 := .slice a2 n2 c2) (v2 := .int .i64 y.2.2) X1 (r := v3.heap.size) (by first | exact ne1 | exact ne2)
                replace X2 := set3_cell (v0 := .bool y.1) (v1 := .slice a2 n2 c2) (v2 := .int .i64 y.2.2) X2 (r := v3.heap.size) (by first | exact ne1 | exact ne2)
                obtain ⟨Z0, Z1, Z2⟩ := set3_same (r := v3.heap.size) (v0 := .bool y.1) (v1 := .slice a2 n2 c2) (v2 := .int .i64 y.2.2) Y0 Y1 Y2
                clear Y0 Y1 Y2 Y3 Y4 Y5 bw
                try simp only [Act.put, List.setIfInBounds_toArray, List.set_cons_zero, List.set_cons_succ]
                generalize (((v5.setCell ⟨v3.heap.size, 0, none⟩ (.bool y.1)).setCell ⟨v3.heap.size, 1, none⟩ (.slice a2 n2 c2)).setCell ⟨v3.heap.size, 2, none⟩ (.int .i64 y.2.2)) = v6 at *
                have Y0 := Z0
                have Y1 := Z1
                have Y2 := Z2
                have bw := bS
                clear Z0 Z1 Z2 bS
                refine wpAnyH_done (by kernel_rfl) ?_ _
                go_wp2_with fail
                go_meet
                case rel => exact ⟨_, _, rfl, rfl, a1, n1, c1, a2, n2, c2, X0, X1, X2, Y0, Y1, Y2, HN1, HN2, hP1, hP2, bw, XL, YL⟩
        · go_simp
          refine hK.out _ _ (bl_alloc bw _) (fun _ => ?_)
          clear hK K
          have bN := below_one v2 (.cells #[.bool false, .slice none 0 0, .int .i64 0] 25)
          replace hP1 := hP1.keep bN
          replace hP2 := hP2.keep bN
          obtain ⟨Y0, Y1, Y2, Y3, Y4, Y5⟩ := zero_dy (w := v2) (r := v2.heap.size) (W' := v2.alloc (.cells #[.bool false, .slice none 0 0, .int .i64 0] 25)) (Below.refl _ _) rfl
          have YL : w0.heap.size ≤ v2.heap.size := bw.size
          replace bw := bl_alloc bw (.cells #[.bool false, .slice none 0 0, .int .i64 0] 25)
          clear bN
          try simp only [Act.put, List.setIfInBounds_toArray, List.set_cons_zero, List.set_cons_succ]
          generalize v2.alloc (.cells #[.bool false, .slice none 0 0, .int .i64 0] 25) = v7 at *
          refine wpAnyH_ready (rs := [4]) (by kernel_rfl) (by simp) ?_
          refine AllReadyH.cons rfl (fun K hK => ?_) (AllReadyH.nil)
          · go_simp
            refine hK.out _ _ (bl_alloc bw _) (fun _ => ?_)
            clear hK K
            have bN := below_one v7 (.cells #[.bool false, .slice none 0 0, .int .i64 0] 25)
            have ne1 : v2.heap.size ≠ v7.heap.size := Nat.ne_of_lt (World.block_lt_of_cell? _ _ Y0)
            have ne2 := Ne.symm ne1
            replace Y3 := dcarry_frozen bN Y0 Y3
            replace Y4 := dcarry_frozen bN Y1 Y4
            replace Y5 := dcarry_frozen bN Y2 Y5
            replace Y0 := dcarry_cell bN Y0
            replace Y1 := dcarry_cell bN Y1
            replace Y2 := dcarry_cell bN Y2
            replace hP1 := hP1.keep bN
            replace hP2 := hP2.keep bN
            obtain ⟨X0, X1, X2, X3, X4, X5⟩ := zero_dy (w := v7) (r := v7.heap.size) (W' := v7.alloc (.cells #[.bool false, .slice none 0 0, .int .i64 0] 25)) (Below.refl _ _) rfl
            have XL : w0.heap.size ≤ v7.heap.size := bw.size
            replace bw := bl_alloc bw (.cells #[.bool false, .slice none 0 0, .int .i64 0] 25)
            clear bN
            try simp only [Act.put, List.setIfInBounds_toArray, List.set_cons_zero, List.set_cons_succ]
            generalize v7.alloc (.cells #[.bool false, .slice none 0 0, .int .i64 0] 25) = v8 at *
            refine wpAnyH_ready (rs := [6]) (by kernel_rfl) (by simp) ?_
            refine AllReadyH.cons rfl (fun K hK => ?_) (AllReadyH.nil)
            · go_simp
              have bS : Below w0.heap.size w0 (((v8.setCell ⟨v7.heap.size, 0, none⟩ (.bool x.1)).setCell ⟨v7.heap.size, 1, none⟩ (.slice a1 n1 c1)).setCell ⟨v7.heap.size, 2, none⟩ (.int .i64 x.2.2)) := ((bw.setCell XL _).setCell XL _).setCell XL _
              refine hK.out _ _ bS (fun _ => ?_)
              clear hK K
              replace hP1 := hP1.set_dy _ _ _ _ _ _ (.bool x.1) (.slice a1 n1 c1) (.int .i64 x.2.2) X0 X1 X2
              replace hP2 := hP2.set_dy _ _ _ _ _ _ (.bool x.1) (.slice a1 n1 c1) (.int .i64 x.2.2) X0 X1 X2
              replace Y0 := set3_cell (v0 := .bool x.1) (v1 := .slice a1 n1 c1) (v2 := .int .i64 x.2.2) Y0 (r := v7.heap.size) (by first | exact ne1 | exact ne2)
              replace Y1 := set3_cell (v0 := .bool x.1) (v1 := .slice a1 n1 c1) (v2 := .int .i64 x.2.2) Y1 (r := v7.heap.size) (by first | exact ne1 | exact ne2)
              replace Y2 := set3_cell (v0 := .bool x.1) (v1 := .slice a1 n1 c1) (v2 := .int .i64 x.2.2) Y2 (r := v7.heap.size) (by first | exact ne1 | exact ne2)
              replace Y3 := set3_frozen (r := v7.heap.size) (v0 := .bool x.1) (v1 := .slice a1 n1 c1) (v2 := .int .i64 x.2.2) Y3
              replace Y4 := set3_frozen (r := v7.heap.size) (v0 := .bool x.1) (v1 := .slice a1 n1 c1) (v2 := .int .i64 x.2.2) Y4
              replace Y5 := set3_frozen (r := v7.heap.size) (v0 := .bool x.1) (v1 := .slice a1 n1 c1) (v2 := .int .i64 x.2.2) Y5
              obtain ⟨Z0, Z1, Z2⟩ := set3_same (r := v7.heap.size) (v0 := .bool x.1) (v1 := .slice a1 n1 c1) (v2 := .int .i64 x.2.2) X0 X1 X2
              clear X0 X1 X2 X3 X4 X5 bw
              try simp only [Act.put, List.setIfInBounds_toArray, List.set_cons_zero, List.set_cons_succ]
              generalize (((v8.setCell ⟨v7.heap.size, 0, none⟩ (.bool x.1)).setCell ⟨v7.heap.size, 1, none⟩ (.slice a1 n1 c1)).setCell ⟨v7.heap.size, 2, none⟩ (.int .i64 x.2.2)) = v9 at *
              have X0 := Z0
              have X1 := Z1
              have X2 := Z2
              have bw := bS
              clear Z0 Z1 Z2 bS
              refine wpAnyH_ready (rs := [7]) (by kernel_rfl) (by simp) ?_
              refine AllReadyH.cons rfl (fun K hK => ?_) (AllReadyH.nil)
              · go_simp
                have bS : Below w0.heap.size w0 (((v9.setCell ⟨v2.heap.size, 0, none⟩ (.bool y.1)).setCell ⟨v2.heap.size, 1, none⟩ (.slice a2 n2 c2)).setCell ⟨v2.heap.size, 2, none⟩ (.int .i64 y.2.2)) := ((bw.setCell YL _).setCell YL _).setCell YL _
                refine hK.out _ _ bS (fun _ => ?_)
                clear hK K
                replace hP1 := hP1.set_dy _ _ _ _ _ _ (.bool y.1) (.slice a2 n2 c2) (.int .i64 y.2.2) Y0 Y1 Y2
                replace hP2 := hP2.set_dy _ _ _ _ _ _ (.bool y.1) (.slice a2 n2 c2) (.int .i64 y.2.2) Y0 Y1 Y2
                replace X0 := set3_cell (v0 := .bool y.1) (v1 := .slice a2 n2 c2) (v2 := .int .i64 y.2.2) X0 (r := v2.heap.size) (by first | exact ne1 | exact ne2)
                replace X1 := set3_cell (v0 := .bool y.1) (v1 := .slice a2 n2 c2) (v2 := .int .i64 y.2.2) X1 (r := v2.heap.size) (by first | exact ne1 | exact ne2)
                replace X2 := set3_cell (v0 := .bool y.1) (v1 := .slice a2 n2 c2) (v2 := .int .i64 y.2.2) X2 (r := v2.heap.size) (by first | exact ne1 | exact ne2)
                obtain ⟨Z0, Z1, Z2⟩ := set3_same (r := v2.heap.size) (v0 := .bool y.1) (v1 := .slice a2 n2 c2) (v2 := .int .i64 y.2.2) Y0 Y1 Y2
                clear Y0 Y1 Y2 Y3 Y4 Y5 bw
                try simp only [Act.put, List.setIfInBounds_toArray, List.set_cons_zero, List.set_cons_succ]
                generalize (((v9.setCell ⟨v2.heap.size, 0, none⟩ (.bool y.1)).setCell ⟨v2.heap.size, 1, none⟩ (.slice a2 n2 c2)).setCell ⟨v2.heap.size, 2, none⟩ (.int .i64 y.2.2)) = v10 at *
                have Y0 := Z0
                have Y1 := Z1
                have Y2 := Z2
                have bw := bS
                clear Z0 Z1 Z2 bS
                refine wpAnyH_done (by kernel_rfl) ?_ _
                go_wp2_with fail
                go_meet
                case rel => exact ⟨_, _, rfl, rfl, a1, n1, c1, a2, n2, c2, X0, X1, X2, Y0, Y1, Y2, HN1, HN2, hP1, hP2, bw, XL, YL⟩
      · go_simp
        refine hK.out _ _ (bl_alloc bw _) (fun _ => ?_)
        clear hK K
        have bN := below_one v1 (.cells #[.bool false, .slice none 0 0, .int .i64 0] 25)
        replace hP1 := hP1.keep bN
        obtain ⟨X0, X1, X2, X3, X4, X5⟩ := zero_dy (w := v1) (r := v1.heap.size) (W' := v1.alloc (.cells #[.bool false, .slice none 0 0, .int .i64 0] 25)) (Below.refl _ _) rfl
        have XL : w0.heap.size ≤ v1.heap.size := bw.size
        replace bw := bl_alloc bw (.cells #[.bool false, .slice none 0 0, .int .i64 0] 25)
        clear bN
        try simp only [Act.put, List.setIfInBounds_toArray, List.set_cons_zero, List.set_cons_succ]
        generalize v1.alloc (.cells #[.bool false, .slice none 0 0, .int .i64 0] 25) = v11 at *
        refine wpAnyH_ready (rs := [3, 5]) (by kernel_rfl) (by simp) ?_
        refine AllReadyH.cons rfl (fun K hK => ?_) (AllReadyH.cons rfl (fun K hK => ?_) (AllReadyH.nil))
        · go_simp
          refine Calls.mono (HY.out _ (H2.out.keep (nbelow_trans bw0 bw))) ?_
          rintro r v12 ⟨_, rfl, ⟨a2, n2, c2, rfl, HN2, hO2⟩, bN⟩
          refine hK.out _ _ (nbelow_trans bw bN) (fun _ => ?_)
          clear hK K
          replace X3 := dcarry_frozen bN X0 X3
          replace X4 := dcarry_frozen bN X1 X4
          replace X5 := dcarry_frozen bN X2 X5
          replace X0 := dcarry_cell bN X0
          replace X1 := dcarry_cell bN X1
          replace X2 := dcarry_cell bN X2
          replace hP1 := hP1.keep bN
          have hP2 := hO2.low (B' := w0.heap.size) bw.size
          replace bw := nbelow_trans bw bN
          clear bN hO2
          try simp only [Act.put, List.setIfInBounds_toArray, List.set_cons_zero, List.set_cons_succ]
          refine wpAnyH_ready (rs := [5]) (by kernel_rfl) (by simp) ?_
          refine AllReadyH.cons rfl (fun K hK => ?_) (AllReadyH.nil)
          · go_simp
            refine hK.out _ _ (bl_alloc bw _) (fun _ => ?_)
            clear hK K
            have bN := below_one v12 (.cells #[.bool false, .slice none 0 0, .int .i64 0] 25)
            have ne1 : v1.heap.size ≠ v12.heap.size := Nat.ne_of_lt (World.block_lt_of_cell? _ _ X0)
            have ne2 := Ne.symm ne1
            replace X3 := dcarry_frozen bN X0 X3
            replace X4 := dcarry_frozen bN X1 X4
            replace X5 := dcarry_frozen bN X2 X5
            replace X0 := dcarry_cell bN X0
            replace X1 := dcarry_cell bN X1
            replace X2 := dcarry_cell bN X2
            replace hP1 := hP1.keep bN
            replace hP2 := hP2.keep bN
            obtain ⟨Y0, Y1, Y2, Y3, Y4, Y5⟩ := zero_dy (w := v12) (r := v12.heap.size) (W' := v12.alloc (.cells #[.bool false, .slice none 0 0, .int .i64 0] 25)) (Below.refl _ _) rfl
            have YL : w0.heap.size ≤ v12.heap.size := bw.size
            replace bw := bl_alloc bw (.cells #[.bool false, .slice none 0 0, .int .i64 0] 25)
            clear bN
            try simp only [Act.put, List.setIfInBounds_toArray, List.set_cons_zero, List.set_cons_succ]
            generalize v12.alloc (.cells #[.bool false, .slice none 0 0, .int .i64 0] 25) = v13 at *
            refine wpAnyH_ready (rs := [6]) (by kernel_rfl) (by simp) ?_
            refine AllReadyH.cons rfl (fun K hK => ?_) (AllReadyH.nil)
            · go_simp
              have bS : Below w0.heap.size w0 (((v13.setCell ⟨v1.heap.size, 0, none⟩ (.bool x.1)).setCell ⟨v1.heap.size, 1, none⟩ (.slice a1 n1 c1)).setCell ⟨v1.heap.size, 2, none⟩ (.int .i64 x.2.2)) := ((bw.setCell XL _).setCell XL _).setCell XL _
              refine hK.out _ _ bS (fun _ => ?_)
              clear hK K
              replace hP1 := hP1.set_dy _ _ _ _ _ _ (.bool x.1) (.slice a1 n1 c1) (.int .i64 x.2.2) X0 X1 X2
              replace hP2 := hP2.set_dy _ _ _ _ _ _ (.bool x.1) (.slice a1 n1 c1) (.int .i64 x.2.2) X0 X1 X2
              replace Y0 := set3_cell (v0 := .bool x.1) (v1 := .slice a1 n1 c1) (v2 := .int .i64 x.2.2) Y0 (r := v1.heap.size) (by first | exact ne1 | exact ne2)
              replace Y1 := set3_cell (v0 := .bool x.1) (v1 := .slice a1 n1 c1) (v2 := .int .i64 x.2.2) Y1 (r := v1.heap.size) (by first | exact ne1 | exact ne2)
              replace Y2 := set3_cell (v0 := .bool x.1) (v1 := .slice a1 n1 c1) (v2 := .int .i64 x.2.2) Y2 (r := v1.heap.size) (by first | exact ne1 | exact ne2)
              replace Y3 := set3_frozen (r := v1.heap.size) (v0 := .bool x.1) (v1 := .slice a1 n1 c1) (v2 := .int .i64 x.2.2) Y3
              replace Y4 := set3_frozen (r := v1.heap.size) (v0 := .bool x.1) (v1 := .slice a1 n1 c1) (v2 := .int .i64 x.2.2) Y4
              replace Y5 := set3_frozen (r := v1.heap.size) (v0 := .bool x.1) (v1 := .slice a1 n1 c1) (v2 := .int .i64 x.2.2) Y5
              obtain ⟨Z0, Z1, Z2⟩ := set3_same (r := v1.heap.size) (v0 := .bool x.1) (v1 := .slice a1 n1 c1) (v2 := .int .i64 x.2.2) X0 X1 X2
              clear X0 X1 X2 X3 X4 X5 bw
              try simp only [Act.put, List.setIfInBounds_toArray, List.set_cons_zero, List.set_cons_succ]
              generalize (((v13.setCell ⟨v1.heap.size, 0, none⟩ (.bool x.1)).setCell ⟨v1.heap.size, 1, none⟩ (.slice a1 n1 c1)).setCell ⟨v1.heap.size, 2, none⟩ (.int .i64 x.2.2)) = v14 at *
              have X0 := Z0
              have X1 := Z1
              have X2 := Z2
              have bw := bS
              clear Z0 Z1 Z2 bS
              refine wpAnyH_ready (rs := [7]) (by kernel_rfl) (by simp) ?_
              refine AllReadyH.cons rfl (fun K hK => ?_) (AllReadyH.nil)
              · go_simp
                have bS : Below w0.heap.size w0 (((v14.setCell ⟨v12.heap.size, 0, none⟩ (.bool y.1)).setCell ⟨v12.heap.size, 1, none⟩ (.slice a2 n2 c2)).setCell ⟨v12.heap.size, 2, none⟩ (.int .i64 y.2.2)) := ((bw.setCell YL _).setCell YL _).setCell YL _
                refine hK.out _ _ bS (fun _ => ?_)
                clear hK K
                replace hP1 := hP1.set_dy _ _ _ _ _ _ (.bool y.1) (.slice a2 n2 c2) (.int .i64 y.2.2) Y0 Y1 Y2
                replace hP2 := hP2.set_dy _ _ _ _ _ _ (.bool y.1) (.slice a2 n2 c2) (.int .i64 y.2.2) Y0 Y1 Y2
                replace X0 := set3_cell (v0 := .bool y.1) (v1 := .slice a2 n2 c2) (v2 := .int .i64 y.2.2) X0 (r := v12.heap.size) (by first | exact ne1 | exact ne2)
                replace X1 := set3_cell (v0 := .bool y.1) (v1 := .slice a2 n2 c2) (v2 := .int .i64 y.2.2) X1 (r := v12.heap.size) (by first | exact ne1 | exact ne2)
                replace X2 := set3_cell (v0 := .bool y.1) (v1 := .slice a2 n2 c2) (v2 := .int .i64 y.2.2) X2 (r := v12.heap.size) (by first | exact ne1 | exact ne2)
                obtain ⟨Z0, Z1, Z2⟩ := set3_same (r := v12.heap.size) (v0 := .bool y.1) (v1 := .slice a2 n2 c2) (v2 := .int .i64 y.2.2) Y0 Y1 Y2
                clear Y0 Y1 Y2 Y3 Y4 Y5 bw
                try simp only [Act.put, List.setIfInBounds_toArray, List.set_cons_zero, List.set_cons_succ]
                generalize (((v14.setCell ⟨v12.heap.size, 0, none⟩ (.bool y.1)).setCell ⟨v12.heap.size, 1, none⟩ (.slice a2 n2 c2)).setCell ⟨v12.heap.size, 2, none⟩ (.int .i64 y.2.2)) = v15 at *
                have Y0 := Z0
                have Y1 := Z1
                have Y2 := Z2
                have bw := bS
                clear Z0 Z1 Z2 bS
                refine wpAnyH_done (by kernel_rfl) ?_ _
                go_wp2_with fail
                go_meet
                case rel => exact ⟨_, _, rfl, rfl, a1, n1, c1, a2, n2, c2, X0, X1, X2, Y0, Y1, Y2, HN1, HN2, hP1, hP2, bw, XL, YL⟩
        · go_simp
          refine hK.out _ _ (bl_alloc bw _) (fun _ => ?_)
          clear hK K
          have bN := below_one v11 (.cells #[.bool false, .slice none 0 0, .int .i64 0] 25)
          have ne1 : v1.heap.size ≠ v11.heap.size := Nat.ne_of_lt (World.block_lt_of_cell? _ _ X0)
          have ne2 := Ne.symm ne1
          replace X3 := dcarry_frozen bN X0 X3
          replace X4 := dcarry_frozen bN X1 X4
          replace X5 := dcarry_frozen bN X2 X5
          replace X0 := dcarry_cell bN X0
          replace X1 := dcarry_cell bN X1
          replace X2 := dcarry_cell bN X2
          replace hP1 := hP1.keep bN
          obtain ⟨Y0, Y1, Y2, Y3, Y4, Y5⟩ := zero_dy (w := v11) (r := v11.heap.size) (W' := v11.alloc (.cells #[.bool false, .slice none 0 0, .int .i64 0] 25)) (Below.refl _ _) rfl
          have YL : w0.heap.size ≤ v11.heap.size := bw.size
          replace bw := bl_alloc bw (.cells #[.bool false, .slice none 0 0, .int .i64 0] 25)
          clear bN
          try simp only [Act.put, List.setIfInBounds_toArray, List.set_cons_zero, List.set_cons_succ]
          generalize v11.alloc (.cells #[.bool false, .slice none 0 0, .int .i64 0] 25) = v16 at *
          refine wpAnyH_ready (rs := [3]) (by kernel_rfl) (by simp) ?_
          refine AllReadyH.cons rfl (fun K hK => ?_) (AllReadyH.nil)
          · go_simp
            refine Calls.mono (HY.out _ (H2.out.keep (nbelow_trans bw0 bw))) ?_
            rintro r v17 ⟨_, rfl, ⟨a2, n2, c2, rfl, HN2, hO2⟩, bN⟩
            refine hK.out _ _ (nbelow_trans bw bN) (fun _ => ?_)
            clear hK K
            replace X3 := dcarry_frozen bN X0 X3
            replace X4 := dcarry_frozen bN X1 X4
            replace X5 := dcarry_frozen bN X2 X5
            replace X0 := dcarry_cell bN X0
            replace X1 := dcarry_cell bN X1
            replace X2 := dcarry_cell bN X2
            replace Y3 := dcarry_frozen bN Y0 Y3
            replace Y4 := dcarry_frozen bN Y1 Y4
            replace Y5 := dcarry_frozen bN Y2 Y5
            replace Y0 := dcarry_cell bN Y0
            replace Y1 := dcarry_cell bN Y1
            replace Y2 := dcarry_cell bN Y2
            replace hP1 := hP1.keep bN
            have hP2 := hO2.low (B' := w0.heap.size) bw.size
            replace bw := nbelow_trans bw bN
            clear bN hO2
            try simp only [Act.put, List.setIfInBounds_toArray, List.set_cons_zero, List.set_cons_succ]
            refine wpAnyH_ready (rs := [6]) (by kernel_rfl) (by simp) ?_
            refine AllReadyH.cons rfl (fun K hK => ?_) (AllReadyH.nil)
            · go_simp
              have bS : Below w0.heap.size w0 (((v17.setCell ⟨v1.heap.size, 0, none⟩ (.bool x.1)).setCell ⟨v1.heap.size, 1, none⟩ (.slice a1 n1 c1)).setCell ⟨v1.heap.size, 2, none⟩ (.int .i64 x.2.2)) := ((bw.setCell XL _).setCell XL _).setCell XL _
              refine hK.out _ _ bS (fun _ => ?_)
              clear hK K
              replace hP1 := hP1.set_dy _ _ _ _ _ _ (.bool x.1) (.slice a1 n1 c1) (.int .i64 x.2.2) X0 X1 X2
              replace hP2 := hP2.set_dy _ _ _ _ _ _ (.bool x.1) (.slice a1 n1 c1) (.int .i64 x.2.2) X0 X1 X2
              replace Y0 := set3_cell (v0 := .bool x.1) (v1 := .slice a1 n1 c1) (v2 := .int .i64 x.2.2) Y0 (r := v1.heap.size) (by first | exact ne1 | exact ne2)
              replace Y1 := set3_cell (v0 := .bool x.1) (v1 := .slice a1 n1 c1) (v2 := .int .i64 x.2.2) Y1 (r := v1.heap.size) (by first | exact ne1 | exact ne2)
              replace Y2 := set3_cell (v0 := .bool x.1) (v1 := .slice a1 n1 c1) (v2 := .int .i64 x.2.2) Y2 (r := v1.heap.size) (by first | exact ne1 | exact ne2)
              replace Y3 := set3_frozen (r := v1.heap.size) (v0 := .bool x.1) (v1 := .slice a1 n1 c1) (v2 := .int .i64 x.2.2) Y3
              replace Y4 := set3_frozen (r := v1.heap.size) (v0 := .bool x.1) (v1 := .slice a1 n1 c1) (v2 := .int .i64 x.2.2) Y4
              replace Y5 := set3_frozen (r := v1.heap.size) (v0 := .bool x.1) (v1 := .slice a1 n1 c1) (v2 := .int .i64 x.2.2) Y5
              obtain ⟨Z0, Z1, Z2⟩ := set3_same (r := v1.heap.size) (v0 := .bool x.1) (v1 := .slice a1 n1 c1) (v2 := .int .i64 x.2.2) X0 X1 X2
              clear X0 X1 X2 X3 X4 X5 bw
              try simp only [Act.put, List.setIfInBounds_toArray, List.set_cons_zero, List.set_cons_succ]
              generalize (((v17.setCell ⟨v1.heap.size, 0, none⟩ (.bool x.1)).setCell ⟨v1.heap.size, 1, none⟩ (.slice a1 n1 c1)).setCell ⟨v1.heap.size, 2, none⟩ (.int .i64 x.2.2)) = v18 at *
              have X0 := Z0
              have X1 := Z1
              have X2 := Z2
              have bw := bS
              clear Z0 Z1 Z2 bS
              refine wpAnyH_ready (rs := [7]) (by kernel_rfl) (by simp) ?_
              refine AllReadyH.cons rfl (fun K hK => ?_) (AllReadyH.nil)
              · go_simp
                have bS : Below w0.heap.size w0 (((v18.setCell ⟨v11.heap.size, 0, none⟩ (.bool y.1)).setCell ⟨v11.heap.size, 1, none⟩ (.slice a2 n2 c2)).setCell ⟨v11.heap.size, 2, none⟩ (.int .i64 y.2.2)) := ((bw.setCell YL _).setCell YL _).setCell YL _
                refine hK.out _ _ bS (fun _ => ?_)
                clear hK K
                replace hP1 := hP1.set_dy _ _ _ _ _ _ (.bool y.1) (.slice a2 n2 c2) (.int .i64 y.2.2) Y0 Y1 Y2
                replace hP2 := hP2.set_dy _ _ _ _ _ _ (.bool y.1) (.slice a2 n2 c2) (.int .i64 y.2.2) Y0 Y1 Y2
                replace X0 := set3_cell (v0 := .bool y.1) (v1 := .slice a2 n2 c2) (v2 := .int .i64 y.2.2) X0 (r := v11.heap.size) (by first | exact ne1 | exact ne2)
                replace X1 := set3_cell (v0 := .bool y.1) (v1 := .slice a2 n2 c2) (v2 := .int .i64 y.2.2) X1 (r := v11.heap.size) (by first | exact ne1 | exact ne2)
                replace X2 := set3_cell (v0 := .bool y.1) (v1 := .slice a2 n2 c2) (v2 := .int .i64 y.2.2) X2 (r := v11.heap.size) (by first | exact ne1 | exact ne2)
                obtain ⟨Z0, Z1, Z2⟩ := set3_same (r := v11.heap.size) (v0 := .bool y.1) (v1 := .slice a2 n2 c2) (v2 := .int .i64 y.2.2) Y0 Y1 Y2
                clear Y0 Y1 Y2 Y3 Y4 Y5 bw
                try simp only [Act.put, List.setIfInBounds_toArray, List.set_cons_zero, List.set_cons_succ]
                generalize (((v18.setCell ⟨v11.heap.size, 0, none⟩ (.bool y.1)).setCell ⟨v11.heap.size, 1, none⟩ (.slice a2 n2 c2)).setCell ⟨v11.heap.size, 2, none⟩ (.int .i64 y.2.2)) = v19 at *
                have Y0 := Z0
                have Y1 := Z1
                have Y2 := Z2
                have bw := bS
                clear Z0 Z1 Z2 bS
                refine wpAnyH_done (by kernel_rfl) ?_ _
                go_wp2_with fail
                go_meet
                case rel => exact ⟨_, _, rfl, rfl, a1, n1, c1, a2, n2, c2, X0, X1, X2, Y0, Y1, Y2, HN1, HN2, hP1, hP2, bw, XL, YL⟩
      · go_simp
        refine hK.out _ _ (bl_alloc bw _) (fun _ => ?_)
        clear hK K
        have bN := below_one v1 (.cells #[.bool false, .slice none 0 0, .int .i64 0] 25)
        replace hP1 := hP1.keep bN
        obtain ⟨Y0, Y1, Y2, Y3, Y4, Y5⟩ := zero_dy (w := v1) (r := v1.heap.size) (W' := v1.alloc (.cells #[.bool false, .slice none 0 0, .int .i64 0] 25)) (Below.refl _ _) rfl
        have YL : w0.heap.size ≤ v1.heap.size := bw.size
        replace bw := bl_alloc bw (.cells #[.bool false, .slice none 0 0, .int .i64 0] 25)
        clear bN
        try simp only [Act.put, List.setIfInBounds_toArray, List.set_cons_zero, List.set_cons_succ]
        generalize v1.alloc (.cells #[.bool false, .slice none 0 0, .int .i64 0] 25) = v20 at *
        refine wpAnyH_ready (rs := [3, 4]) (by kernel_rfl) (by simp) ?_
        refine AllReadyH.cons rfl (fun K hK => ?_) (AllReadyH.cons rfl (fun K hK => ?_) (AllReadyH.nil))
        · go_simp
          refine Calls.mono (HY.out _ (H2.out.keep (nbelow_trans bw0 bw))) ?_
          rintro r v21 ⟨_, rfl, ⟨a2, n2, c2, rfl, HN2, hO2⟩, bN⟩
          refine hK.out _ _ (nbelow_trans bw bN) (fun _ => ?_)
          clear hK K
          replace Y3 := dcarry_frozen bN Y0 Y3
          replace Y4 := dcarry_frozen bN Y1 Y4
          replace Y5 := dcarry_frozen bN Y2 Y5
          replace Y0 := dcarry_cell bN Y0
          replace Y1 := dcarry_cell bN Y1
          replace Y2 := dcarry_cell bN Y2
          replace hP1 := hP1.keep bN
          have hP2 := hO2.low (B' := w0.heap.size) bw.size
          replace bw := nbelow_trans bw bN
          clear bN hO2
          try simp only [Act.put, List.setIfInBounds_toArray, List.set_cons_zero, List.set_cons_succ]
          refine wpAnyH_ready (rs := [4]) (by kernel_rfl) (by simp) ?_
          refine AllReadyH.cons rfl (fun K hK => ?_) (AllReadyH.nil)
          · go_simp
            refine hK.out _ _ (bl_alloc bw _) (fun _ => ?_)
            clear hK K
            have bN := below_one v21 (.cells #[.bool false, .slice none 0 0, .int .i64 0] 25)
            have ne1 : v1.heap.size ≠ v21.heap.size := Nat.ne_of_lt (World.block_lt_of_cell? _ _ Y0)
            have ne2 := Ne.symm ne1
            replace Y3 := dcarry_frozen bN Y0 Y3
            replace Y4 := dcarry_frozen bN Y1 Y4
            replace Y5 := dcarry_frozen bN Y2 Y5
            replace Y0 := dcarry_cell bN Y0
            replace Y1 := dcarry_cell bN Y1
            replace Y2 := dcarry_cell bN Y2
            replace hP1 := hP1.keep bN
            replace hP2 := hP2.keep bN
            obtain ⟨X0, X1, X2, X3, X4, X5⟩ := zero_dy (w := v21) (r := v21.heap.size) (W' := v21.alloc (.cells #[.bool false, .slice none 0 0, .int .i64 0] 25)) (Below.refl _ _) rfl
            have XL : w0.heap.size ≤ v21.heap.size := bw.size
            replace bw := bl_alloc bw (.cells #[.bool false, .slice none 0 0, .int .i64 0] 25)
            clear bN
            try simp only [Act.put, List.setIfInBounds_toArray, List.set_cons_zero, List.set_cons_succ]
            generalize v21.alloc (.cells #[.bool false, .slice none 0 0, .int .i64 0] 25) = v22 at *
            refine wpAnyH_ready (rs := [6]) (by kernel_rfl) (by simp) ?_
            refine AllReadyH.cons rfl (fun K hK => ?_) (AllReadyH.nil)
            · go_simp
              have bS : Below w0.heap.size w0 (((v22.setCell ⟨v21.heap.size, 0, none⟩ (.bool x.1)).setCell ⟨v21.heap.size, 1, none⟩ (.slice a1 n1 c1)).setCell ⟨v21.heap.size, 2, none⟩ (.int .i64 x.2.2)) := ((bw.setCell XL _).setCell XL _).setCell XL _
              refine hK.out _ _ bS (fun _ => ?_)
              clear hK K
              replace hP1 := hP1.set_dy _ _ _ _ _ _ (.bool x.1) (.slice a1 n1 c1) (.int .i64 x.2.2) X0 X1 X2
              replace hP2 := hP2.set_dy _ _ _ _ _ _ (.bool x.1) (.slice a1 n1 c1) (.int .i64 x.2.2) X0 X1 X2
              replace Y0 := set3_cell (v0 := .bool x.1) (v1 := .slice a1 n1 c1) (v2 := .int .i64 x.2.2) Y0 (r := v21.heap.size) (by first | exact ne1 | exact ne2)
              replace Y1 := set3_cell (v0 := .bool x.1) (v1 := .slice a1 n1 c1) (v2 := .int .i64 x.2.2) Y1 (r := v21.heap.size) (by first | exact ne1 | exact ne2)
              replace Y2 := set3_cell (v0 := .bool x.1) (v1 := .slice a1 n1 c1) (v2 := .int .i64 x.2.2) Y2 (r := v21.heap.size) (by first | exact ne1 | exact ne2)
              replace Y3 := set3_frozen (r := v21.heap.size) (v0 := .bool x.1) (v1 := .slice a1 n1 c1) (v2 := .int .i64 x.2.2) Y3
              replace Y4 := set3_frozen (r := v21.heap.size) (v0 := .bool x.1) (v1 := .slice a1 n1 c1) (v2 := .int .i64 x.2.2) Y4
              replace Y5 := set3_frozen (r := v21.heap.size) (v0 := .bool x.1) (v1 := .slice a1 n1 c1) (v2 := .int .i64 x.2.2) Y5
              obtain ⟨Z0, Z1, Z2⟩ := set3_same (r := v21.heap.size) (v0 := .bool x.1) (v1 := .slice a1 n1 c1) (v2 := .int .i64 x.2.2) X0 X1 X2
              clear X0 X1 X2 X3 X4 X5 bw
              try simp only [Act.put, List.setIfInBounds_toArray, List.set_cons_zero, List.set_cons_succ]
              generalize (((v22.setCell ⟨v21.heap.size, 0, none⟩ (.bool x.1)).setCell ⟨v21.heap.size, 1, none⟩ (.slice a1 n1 c1)).setCell ⟨v21.heap.size, 2, none⟩ (.int .i64 x.2.2)) = v23 at *
              have X0 := Z0
              have X1 := Z1
              have X2 := Z2
              have bw := bS
              clear Z0 Z1 Z2 bS
              refine wpAnyH_ready (rs := [7]) (by kernel_rfl) (by simp) ?_
              refine AllReadyH.cons rfl (fun K hK => ?_) (AllReadyH.nil)
              · go_simp
                have bS : Below w0.heap.size w0 (((v23.setCell ⟨v1.heap.size, 0, none⟩ (.bool y.1)).setCell ⟨v1.heap.size, 1, none⟩ (.slice a2 n2 c2)).setCell ⟨v1.heap.size, 2, none⟩ (.int .i64 y.2.2)) := ((bw.setCell YL _).setCell YL _).setCell YL _
                refine hK.out _ _ bS (fun _ => ?_)
                clear hK K
                replace hP1 := hP1.set_dy _ _ _ _ _ _ (.bool y.1) (.slice a2 n2 c2) (.int .i64 y.2.2) Y0 Y1 Y2
                replace hP2 := hP2.set_dy _ _ _ _ _ _ (.bool y.1) (.slice a2 n2 c2) (.int .i64 y.2.2) Y0 Y1 Y2
                replace X0 := set3_cell (v0 := .bool y.1) (v1 := .slice a2 n2 c2) (v2 := .int .i64 y.2.2) X0 (r := v1.heap.size) (by first | exact ne1 | exact ne2)
                replace X1 := set3_cell (v0 := .bool y.1) (v1 := .slice a2 n2 c2) (v2 := .int .i64 y.2.2) X1 (r := v1.heap.size) (by first | exact ne1 | exact ne2)
                replace X2 := set3_cell (v0 := .bool y.1) (v1 := .slice a2 n2 c2) (v2 := .int .i64 y.2.2) X2 (r := v1.heap.size) (by first | exact ne1 | exact ne2)
                obtain ⟨Z0, Z1, Z2⟩ := set3_same (r := v1.heap.size) (v0 := .bool y.1) (v1 := .slice a2 n2 c2) (v2 := .int .i64 y.2.2) Y0 Y1 Y2
                clear Y0 Y1 Y2 Y3 Y4 Y5 bw
                try simp only [Act.put, List.setIfInBounds_toArray, List.set_cons_zero, List.set_cons_succ]
                generalize (((v23.setCell ⟨v1.heap.size, 0, none⟩ (.bool y.1)).setCell ⟨v1.heap.size, 1, none⟩ (.slice a2 n2 c2)).setCell ⟨v1.heap.size, 2, none⟩ (.int .i64 y.2.2)) = v24 at *
                have Y0 := Z0
                have Y1 := Z1
                have Y2 := Z2
                have bw := bS
                clear Z0 Z1 Z2 bS
                refine wpAnyH_done (by kernel_rfl) ?_ _
                go_wp2_with fail
                go_meet
                case rel => exact ⟨_, _, rfl, rfl, a1, n1, c1, a2, n2, c2, X0, X1, X2, Y0, Y1, Y2, HN1, HN2, hP1, hP2, bw, XL, YL⟩
        · go_simp
          refine hK.out _ _ (bl_alloc bw _) (fun _ => ?_)
          clear hK K
          have bN := below_one v20 (.cells #[.bool false, .slice none 0 0, .int .i64 0] 25)
          have ne1 : v1.heap.size ≠ v20.heap.size := Nat.ne_of_lt (World.block_lt_of_cell? _ _ Y0)
          have ne2 := Ne.symm ne1
          replace Y3 := dcarry_frozen bN Y0 Y3
          replace Y4 := dcarry_frozen bN Y1 Y4
          replace Y5 := dcarry_frozen bN Y2 Y5
          replace Y0 := dcarry_cell bN Y0
          replace Y1 := dcarry_cell bN Y1
          replace Y2 := dcarry_cell bN Y2
          replace hP1 := hP1.keep bN
          obtain ⟨X0, X1, X2, X3, X4, X5⟩ := zero_dy (w := v20) (r := v20.heap.size) (W' := v20.alloc (.cells #[.bool false, .slice none 0 0, .int .i64 0] 25)) (Below.refl _ _) rfl
          have XL : w0.heap.size ≤ v20.heap.size := bw.size
          replace bw := bl_alloc bw (.cells #[.bool false, .slice none 0 0, .int .i64 0] 25)
          clear bN
          try simp only [Act.put, List.setIfInBounds_toArray, List.set_cons_zero, List.set_cons_succ]
          generalize v20.alloc (.cells #[.bool false, .slice none 0 0, .int .i64 0] 25) = v25 at *
          refine wpAnyH_ready (rs := [3]) (by kernel_rfl) (by simp) ?_
          refine AllReadyH.cons rfl (fun K hK => ?_) (AllReadyH.nil)
          · go_simp
            refine Calls.mono (HY.out _ (H2.out.keep (nbelow_trans bw0 bw))) ?_
            rintro r v26 ⟨_, rfl, ⟨a2, n2, c2, rfl, HN2, hO2⟩, bN⟩
            refine hK.out _ _ (nbelow_trans bw bN) (fun _ => ?_)
            clear hK K
            replace X3 := dcarry_frozen bN X0 X3
            replace X4 := dcarry_frozen bN X1 X4
            replace X5 := dcarry_frozen bN X2 X5
            replace X0 := dcarry_cell bN X0
            replace X1 := dcarry_cell bN X1
            replace X2 := dcarry_cell bN X2
            replace Y3 := dcarry_frozen bN Y0 Y3
            replace Y4 := dcarry_frozen bN Y1 Y4
            replace Y5 := dcarry_frozen bN Y2 Y5
            replace Y0 := dcarry_cell bN Y0
            replace Y1 := dcarry_cell bN Y1
            replace Y2 := dcarry_cell bN Y2
            replace hP1 := hP1.keep bN
            have hP2 := hO2.low (B' := w0.heap.size) bw.size
            replace bw := nbelow_trans bw bN
            clear bN hO2
            try simp only [Act.put, List.setIfInBounds_toArray, List.set_cons_zero, List.set_cons_succ]
            refine wpAnyH_ready (rs := [6]) (by kernel_rfl) (by simp) ?_
            refine AllReadyH.cons rfl (fun K hK => ?_) (AllReadyH.nil)
            · go_simp
              have bS : Below w0.heap.size w0 (((v26.setCell ⟨v20.heap.size, 0, none⟩ (.bool x.1)).setCell ⟨v20.heap.size, 1, none⟩ (.slice a1 n1 c1)).setCell ⟨v20.heap.size, 2, none⟩ (.int .i64 x.2.2)) := ((bw.setCell XL _).setCell XL _).setCell XL _
              refine hK.out _ _ bS (fun _ => ?_)
              clear hK K
              replace hP1 := hP1.set_dy _ _ _ _ _ _ (.bool x.1) (.slice a1 n1 c1) (.int .i64 x.2.2) X0 X1 X2
              replace hP2 := hP2.set_dy _ _ _ _ _ _ (.bool x.1) (.slice a1 n1 c1) (.int .i64 x.2.2) X0 X1 X2
              replace Y0 := set3_cell (v0 := .bool x.1) (v1 := .slice a1 n1 c1) (v2 := .int .i64 x.2.2) Y0 (r := v20.heap.size) (by first | exact ne1 | exact ne2)
              replace Y1 := set3_cell (v0 := .bool x.1) (v1 := .slice a1 n1 c1) (v2 := .int .i64 x.2.2) Y1 (r := v20.heap.size) (by first | exact ne1 | exact ne2)
              replace Y2 := set3_cell (v0 := .bool x.1) (v1 := .slice a1 n1 c1) (v2 := .int .i64 x.2.2) Y2 (r := v20.heap.size) (by first | exact ne1 | exact ne2)
              replace Y3 := set3_frozen (r := v20.heap.size) (v0 := .bool x.1) (v1 := .slice a1 n1 c1) (v2 := .int .i64 x.2.2) Y3
              replace Y4 := set3_frozen (r := v20.heap.size) (v0 := .bool x.1) (v1 := .slice a1 n1 c1) (v2 := .int .i64 x.2.2) Y4
              replace Y5 := set3_frozen (r := v20.heap.size) (v0 := .bool x.1) (v1 := .slice a1 n1 c1) (v2 := .int .i64 x.2.2) Y5
              obtain ⟨Z0, Z1, Z2⟩ := set3_same (r := v20.heap.size) (v0 := .bool x.1) (v1 := .slice a1 n1 c1) (v2 := .int .i64 x.2.2) X0 X1 X2
              clear X0 X1 X2 X3 X4 X5 bw
              try simp only [Act.put, List.setIfInBounds_toArray, List.set_cons_zero, List.set_cons_succ]
              generalize (((v26.setCell ⟨v20.heap.size, 0, none⟩ (.bool x.1)).setCell ⟨v20.heap.size, 1, none⟩ (.slice a1 n1 c1)).setCell ⟨v20.heap.size, 2, none⟩ (.int .i64 x.2.2)) = v27 at *
              have X0 := Z0
              have X1 := Z1
              have X2 := Z2
              have bw := bS
              clear Z0 Z1 Z2 bS
              refine wpAnyH_ready (rs := [7]) (by kernel_rfl) (by simp) ?_
              refine AllReadyH.cons rfl (fun K hK => ?_) (AllReadyH.nil)
              · go_simp
                have bS : Below w0.heap.size w0 (((v27.setCell ⟨v1.heap.size, 0, none⟩ (.bool y.1)).setCell ⟨v1.heap.size, 1, none⟩ (.slice a2 n2 c2)).setCell ⟨v1.heap.size, 2, none⟩ (.int .i64 y.2.2)) := ((bw.setCell YL _).setCell YL _).setCell YL _
                refine hK.out _ _ bS (fun _ => ?_)
                clear hK K
                replace hP1 := hP1.set_dy _ _ _ _ _ _ (.bool y.1) (.slice a2 n2 c2) (.int .i64 y.2.2) Y0 Y1 Y2
                replace hP2 := hP2.set_dy _ _ _ _ _ _ (.bool y.1) (.slice a2 n2 c2) (.int .i64 y.2.2) Y0 Y1 Y2
                replace X0 := set3_cell (v0 := .bool y.1) (v1 := .slice a2 n2 c2) (v2 := .int .i64 y.2.2) X0 (r := v1.heap.size) (by first | exact ne1 | exact ne2)
                replace X1 := set3_cell (v0 := .bool y.1) (v1 := .slice a2 n2 c2) (v2 := .int .i64 y.2.2) X1 (r := v1.heap.size) (by first | exact ne1 | exact ne2)
                replace X2 := set3_cell (v0 := .bool y.1) (v1 := .slice a2 n2 c2) (v2 := .int .i64 y.2.2) X2 (r := v1.heap.size) (by first | exact ne1 | exact ne2)
                obtain ⟨Z0, Z1, Z2⟩ := set3_same (r := v1.heap.size) (v0 := .bool y.1) (v1 := .slice a2 n2 c2) (v2 := .int .i64 y.2.2) Y0 Y1 Y2
                clear Y0 Y1 Y2 Y3 Y4 Y5 bw
                try simp only [Act.put, List.setIfInBounds_toArray, List.set_cons_zero, List.set_cons_succ]
                generalize (((v27.setCell ⟨v1.heap.size, 0, none⟩ (.bool y.1)).setCell ⟨v1.heap.size, 1, none⟩ (.slice a2 n2 c2)).setCell ⟨v1.heap.size, 2, none⟩ (.int .i64 y.2.2)) = v28 at *
                have Y0 := Z0
                have Y1 := Z1
                have Y2 := Z2
                have bw := bS
                clear Z0 Z1 Z2 bS
                refine wpAnyH_done (by kernel_rfl) ?_ _
                go_wp2_with fail
                go_meet
                case rel => exact ⟨_, _, rfl, rfl, a1, n1, c1, a2, n2, c2, X0, X1, X2, Y0, Y1, Y2, HN1, HN2, hP1, hP2, bw, XL, YL⟩
    · go_simp
      refine hK.out _ _ (bl_alloc bw _) (fun _ => ?_)
      clear hK K
      have bN := below_one wd (.cells #[.bool false, .slice none 0 0, .int .i64 0] 25)
      obtain ⟨X0, X1, X2, X3, X4, X5⟩ := zero_dy (w := wd) (r := wd.heap.size) (W' := wd.alloc (.cells #[.bool false, .slice none 0 0, .int .i64 0] 25)) (Below.refl _ _) rfl
      have XL : w0.heap.size ≤ wd.heap.size := bw.size
      replace bw := bl_alloc bw (.cells #[.bool false, .slice none 0 0, .int .i64 0] 25)
      clear bN
      try simp only [Act.put, List.setIfInBounds_toArray, List.set_cons_zero, List.set_cons_succ]
      generalize wd.alloc (.cells #[.bool false, .slice none 0 0, .int .i64 0] 25) = v29 at *
      refine wpAnyH_ready (rs := [1, 5]) (by kernel_rfl) (by simp) ?_
      refine AllReadyH.cons rfl (fun K hK => ?_) (AllReadyH.cons rfl (fun K hK => ?_) (AllReadyH.nil))
      · go_simp
        refine Calls.mono (HX.out _ (H1.out.keep (nbelow_trans bw0 bw))) ?_
        rintro r v30 ⟨_, rfl, ⟨a1, n1, c1, rfl, HN1, hO1⟩, bN⟩
        refine hK.out _ _ (nbelow_trans bw bN) (fun _ => ?_)
        clear hK K
        replace X3 := dcarry_frozen bN X0 X3
        replace X4 := dcarry_frozen bN X1 X4
        replace X5 := dcarry_frozen bN X2 X5
        replace X0 := dcarry_cell bN X0
        replace X1 := dcarry_cell bN X1
        replace X2 := dcarry_cell bN X2
        have hP1 := hO1.low (B' := w0.heap.size) bw.size
        replace bw := nbelow_trans bw bN
        clear bN hO1
        try simp only [Act.put, List.setIfInBounds_toArray, List.set_cons_zero, List.set_cons_succ]
        refine wpAnyH_ready (rs := [3, 5]) (by kernel_rfl) (by simp) ?_
        refine AllReadyH.cons rfl (fun K hK => ?_) (AllReadyH.cons rfl (fun K hK => ?_) (AllReadyH.nil))
        · go_simp
          refine Calls.mono (HY.out _ (H2.out.keep (nbelow_trans bw0 bw))) ?_
          rintro r v31 ⟨_, rfl, ⟨a2, n2, c2, rfl, HN2, hO2⟩, bN⟩
          refine hK.out _ _ (nbelow_trans bw bN) (fun _ => ?_)
          clear hK K
          replace X3 := dcarry_frozen bN X0 X3
          replace X4 := dcarry_frozen bN X1 X4
          replace X5 := dcarry_frozen bN X2 X5
          replace X0 := dcarry_cell bN X0
          replace X1 := dcarry_cell bN X1
          replace X2 := dcarry_cell bN X2
          replace hP1 := hP1.keep bN
          have hP2 := hO2.low (B' := w0.heap.size) bw.size
          replace bw := nbelow_trans bw bN
          clear bN hO2
          try simp only [Act.put, List.setIfInBounds_toArray, List.set_cons_zero, List.set_cons_succ]
          refine wpAnyH_ready (rs := [5]) (by kernel_rfl) (by simp) ?_
          refine AllReadyH.cons rfl (fun K hK => ?_) (AllReadyH.nil)
          · go_simp
            refine hK.out _ _ (bl_alloc bw _) (fun _ => ?_)
            clear hK K
            have bN := below_one v31 (.cells #[.bool false, .slice none 0 0, .int .i64 0] 25)
            have ne1 : wd.heap.size ≠ v31.heap.size := Nat.ne_of_lt (World.block_lt_of_cell? _ _ X0)
            have ne2 := Ne.symm ne1
            replace X3 := dcarry_frozen bN X0 X3
            replace X4 := dcarry_frozen bN X1 X4
            replace X5 := dcarry_frozen bN X2 X5
            replace X0 := dcarry_cell bN X0
            replace X1 := dcarry_cell bN X1
            replace X2 := dcarry_cell bN X2
            replace hP1 := hP1.keep bN
            replace hP2 := hP2.keep bN
            obtain ⟨Y0, Y1, Y2, Y3, Y4, Y5⟩ := zero_dy (w := v31) (r := v31.heap.size) (W' := v31.alloc (.cells #[.bool false, .slice none 0 0, .int .i64 0] 25)) (Below.refl _ _) rfl
            have YL : w0.heap.size ≤ v31.heap.size := bw.size
            replace bw := bl_alloc bw (.cells #[.bool false, .slice none 0 0, .int .i64 0] 25)
            clear bN
            try simp only [Act.put, List.setIfInBounds_toArray, List.set_cons_zero, List.set_cons_succ]
            generalize v31.alloc (.cells #[.bool false, .slice none 0 0, .int .i64 0] 25) = v32 at *
            refine wpAnyH_ready (rs := [6]) (by kernel_rfl) (by simp) ?_
            refine AllReadyH.cons rfl (fun K hK => ?_) (AllReadyH.nil)
            · go_simp
              have bS : Below w0.heap.size w0 (((v32.setCell ⟨wd.heap.size, 0, none⟩ (.bool x.1)).setCell ⟨wd.heap.size, 1, none⟩ (.slice a1 n1 c1)).setCell ⟨wd.heap.size, 2, none⟩ (.int .i64 x.2.2)) := ((bw.setCell XL _).setCell XL _).setCell XL _
              refine hK.out _ _ bS (fun _ => ?_)
              clear hK K
              replace hP1 := hP1.set_dy _ _ _ _ _ _ (.bool x.1) (.slice a1 n1 c1) (.int .i64 x.2.2) X0 X1 X2
              replace hP2 := hP2.set_dy _ _ _ _ _ _ (.bool x.1) (.slice a1 n1 c1) (.int .i64 x.2.2) X0 X1 X2
              replace Y0 := set3_cell (v0 := .bool x.1) (v1 := .slice a1 n1 c1) (v2 := .int .i64 x.2.2) Y0 (r := wd.heap.size) (by first | exact ne1 | exact ne2)
              replace Y1 := set3_cell (v0 := .bool x.1) (v1 := .slice a1 n1 c1) (v2 := .int .i64 x.2.2) Y1 (r := wd.heap.size) (by first | exact ne1 | exact ne2)
              replace Y2 := set3_cell (v0 := .bool x.1) (v1 := .slice a1 n1 c1) (v2 := .int .i64 x.2.2) Y2 (r := wd.heap.size) (by first | exact ne1 | exact ne2)
              replace Y3 := set3_frozen (r := wd.heap.size) (v0 := .bool x.1) (v1 := .slice a1 n1 c1) (v2 := .int .i64 x.2.2) Y3
              replace Y4 := set3_frozen (r := wd.heap.size) (v0 := .bool x.1) (v1 := .slice a1 n1 c1) (v2 := .int .i64 x.2.2) Y4
              replace Y5 := set3_frozen (r := wd.heap.size) (v0 := .bool x.1) (v1 := .slice a1 n1 c1) (v2 := .int .i64 x.2.2) Y5
              obtain ⟨Z0, Z1, Z2⟩ := set3_same (r := wd.heap.size) (v0 := .bool x.1) (v1 := .slice a1 n1 c1) (v2 := .int .i64 x.2.2) X0 X1 X2
              clear X0 X1 X2 X3 X4 X5 bw
              try simp only [Act.put, List.setIfInBounds_toArray, List.set_cons_zero, List.set_cons_succ]
              generalize (((v32.setCell ⟨wd.heap.size, 0, none⟩ (.bool x.1)).setCell ⟨wd.heap.size, 1, none⟩ (.slice a1 n1 c1)).setCell ⟨wd.heap.size, 2, none⟩ (.int .i64 x.2.2)) = v33 at *
              have X0 := Z0
              have X1 := Z1
              have X2 := Z2
              have bw := bS
              clear Z0 Z1 Z2 bS
              refine wpAnyH_ready (rs := [7]) (by kernel_rfl) (by simp) ?_
              refine AllReadyH.cons rfl (fun K hK => ?_) (AllReadyH.nil)
              · go_simp
                have bS : Below w0.heap.size w0 (((v33.setCell ⟨v31.heap.size, 0, none⟩ (.bool y.1)).setCell ⟨v31.heap.size, 1, none⟩ (.slice a2 n2 c2)).setCell ⟨v31.heap.size, 2, none⟩ (.int .i64 y.2.2)) := ((bw.setCell YL _).setCell YL _).setCell YL _
                refine hK.out _ _ bS (fun _ => ?_)
                clear hK K
                replace hP1 := hP1.set_dy _ _ _ _ _ _ (.bool y.1) (.slice a2 n2 c2) (.int .i64 y.2.2) Y0 Y1 Y2
                replace hP2 := hP2.set_dy _ _ _ _ _ _ (.bool y.1) (.slice a2 n2 c2) (.int .i64 y.2.2) Y0 Y1 Y2
                replace X0 := set3_cell (v0 := .bool y.1) (v1 := .slice a2 n2 c2) (v2 := .int .i64 y.2.2) X0 (r := v31.heap.size) (by first | exact ne1 | exact ne2)
                replace X1 := set3_cell (v0 := .bool y.1) (v1 := .slice a2 n2 c2) (v2 := .int .i64 y.2.2) X1 (r := v31.heap.size) (by first | exact ne1 | exact ne2)
                replace X2 := set3_cell (v0 := .bool y.1) (v1 := .slice a2 n2 c2) (v2 := .int .i64 y.2.2) X2 (r := v31.heap.size) (by first | exact ne1 | exact ne2)
                obtain ⟨Z0, Z1, Z2⟩ := set3_same (r := v31.heap.size) (v0 := .bool y.1) (v1 := .slice a2 n2 c2) (v2 := .int .i64 y.2.2) Y0 Y1 Y2
                clear Y0 Y1 Y2 Y3 Y4 Y5 bw
                try simp only [Act.put, List.setIfInBounds_toArray, List.set_cons_zero, List.set_cons_succ]
                generalize (((v33.setCell ⟨v31.heap.size, 0, none⟩ (.bool y.1)).setCell ⟨v31.heap.size, 1, none⟩ (.slice a2 n2 c2)).setCell ⟨v31.heap.size, 2, none⟩ (.int .i64 y.2.2)) = v34 at *
                have Y0 := Z0
                have Y1 := Z1
                have Y2 := Z2
                have bw := bS
                clear Z0 Z1 Z2 bS
                refine wpAnyH_done (by kernel_rfl) ?_ _
                go_wp2_with fail
                go_meet
                case rel => exact ⟨_, _, rfl, rfl, a1, n1, c1, a2, n2, c2, X0, X1, X2, Y0, Y1, Y2, HN1, HN2, hP1, hP2, bw, XL, YL⟩
        · go_simp
          refine hK.out _ _ (bl_alloc bw _) (fun _ => ?_)
          clear hK K
          have bN := below_one v30 (.cells #[.bool false, .slice none 0 0, .int .i64 0] 25)
          have ne1 : wd.heap.size ≠ v30.heap.size := Nat.ne_of_lt (World.block_lt_of_cell? _ _ X0)
          have ne2 := Ne.symm ne1
          replace X3 := dcarry_frozen bN X0 X3
          replace X4 := dcarry_frozen bN X1 X4
          replace X5 := dcarry_frozen bN X2 X5
          replace X0 := dcarry_cell bN X0
          replace X1 := dcarry_cell bN X1
          replace X2 := dcarry_cell bN X2
          replace hP1 := hP1.keep bN
          obtain ⟨Y0, Y1, Y2, Y3, Y4, Y5⟩ := zero_dy (w := v30) (r := v30.heap.size) (W' := v30.alloc (.cells #[.bool false, .slice none 0 0, .int .i64 0] 25)) (Below.refl _ _) rfl
          have YL : w0.heap.size ≤ v30.heap.size := bw.size
          replace bw := bl_alloc bw (.cells #[.bool false, .slice none 0 0, .int .i64 0] 25)
          clear bN
          try simp only [Act.put, List.setIfInBounds_toArray, List.set_cons_zero, List.set_cons_succ]
          generalize v30.alloc (.cells #[.bool false, .slice none 0 0, .int .i64 0] 25) = v35 at *
          refine wpAnyH_ready (rs := [3]) (by kernel_rfl) (by simp) ?_
          refine AllReadyH.cons rfl (fun K hK => ?_) (AllReadyH.nil)
          · go_simp
            refine Calls.mono (HY.out _ (H2.out.keep (nbelow_trans bw0 bw))) ?_
            rintro r v36 ⟨_, rfl, ⟨a2, n2, c2, rfl, HN2, hO2⟩, bN⟩
            refine hK.out _ _ (nbelow_trans bw bN) (fun _ => ?_)
            clear hK K
            replace X3 := dcarry_frozen bN X0 X3
            replace X4 := dcarry_frozen bN X1 X4
            replace X5 := dcarry_frozen bN X2 X5
            replace X0 := dcarry_cell bN X0
            replace X1 := dcarry_cell bN X1
            replace X2 := dcarry_cell bN X2
            replace Y3 := dcarry_frozen bN Y0 Y3
            replace Y4 := dcarry_frozen bN Y1 Y4
            replace Y5 := dcarry_frozen bN Y2 Y5
            replace Y0 := dcarry_cell bN Y0
            replace Y1 := dcarry_cell bN Y1
            replace Y2 := dcarry_cell bN Y2
            replace hP1 := hP1.keep bN
            have hP2 := hO2.low (B' := w0.heap.size) bw.size
            replace bw := nbelow_trans bw bN
            clear bN hO2
            try simp only [Act.put, List.setIfInBounds_toArray, List.set_cons_zero, List.set_cons_succ]
            refine wpAnyH_ready (rs := [6]) (by kernel_rfl) (by simp) ?_
            refine AllReadyH.cons rfl (fun K hK => ?_) (AllReadyH.nil)
            · go_simp
              have bS : Below w0.heap.size w0 (((v36.setCell ⟨wd.heap.size, 0, none⟩ (.bool x.1)).setCell ⟨wd.heap.size, 1, none⟩ (.slice a1 n1 c1)).setCell ⟨wd.heap.size, 2, none⟩ (.int .i64 x.2.2)) := ((bw.setCell XL _).setCell XL _).setCell XL _
              refine hK.out _ _ bS (fun _ => ?_)
              clear hK K
              replace hP1 := hP1.set_dy _ _ _ _ _ _ (.bool x.1) (.slice a1 n1 c1) (.int .i64 x.2.2) X0 X1 X2
              replace hP2 := hP2.set_dy _ _ _ _ _ _ (.bool x.1) (.slice a1 n1 c1) (.int .i64 x.2.2) X0 X1 X2
              replace Y0 := set3_cell (v0 := .bool x.1) (v1 := .slice a1 n1 c1) (v2 := .int .i64 x.2.2) Y0 (r := wd.heap.size) (by first | exact ne1 | exact ne2)
              replace Y1 := set3_cell (v0 := .bool x.1) (v1 := .slice a1 n1 c1) (v2 := .int .i64 x.2.2) Y1 (r := wd.heap.size) (by first | exact ne1 | exact ne2)
              replace Y2 := set3_cell (v0 := .bool x.1) (v1 := .slice a1 n1 c1) (v2 := .int .i64 x.2.2) Y2 (r := wd.heap.size) (by first | exact ne1 | exact ne2)
              replace Y3 := set3_frozen (r := wd.heap.size) (v0 := .bool x.1) (v1 := .slice a1 n1 c1) (v2 := .int .i64 x.2.2) Y3
              replace Y4 := set3_frozen (r := wd.heap.size) (v0 := .bool x.1) (v1 := .slice a1 n1 c1) (v2 := .int .i64 x.2.2) Y4
              replace Y5 := set3_frozen (r := wd.heap.size) (v0 := .bool x.1) (v1 := .slice a1 n1 c1) (v2 := .int .i64 x.2.2) Y5
              obtain ⟨Z0, Z1, Z2⟩ := set3_same (r := wd.heap.size) (v0 := .bool x.1) (v1 := .slice a1 n1 c1) (v2 := .int .i64 x.2.2) X0 X1 X2
              clear X0 X1 X2 X3 X4 X5 bw
              try simp only [Act.put, List.setIfInBounds_toArray, List.set_cons_zero, List.set_cons_succ]
              generalize (((v36.setCell ⟨wd.heap.size, 0, none⟩ (.bool x.1)).setCell ⟨wd.heap.size, 1, none⟩ (.slice a1 n1 c1)).setCell ⟨wd.heap.size, 2, none⟩ (.int .i64 x.2.2)) = v37 at *
              have X0 := Z0
              have X1 := Z1
              have X2 := Z2
              have bw := bS
              clear Z0 Z1 Z2 bS
              refine wpAnyH_ready (rs := [7]) (by kernel_rfl) (by simp) ?_
              refine AllReadyH.cons rfl (fun K hK => ?_) (AllReadyH.nil)
              · go_simp
                have bS : Below w0.heap.size w0 (((v37.setCell ⟨v30.heap.size, 0, none⟩ (.bool y.1)).setCell ⟨v30.heap.size, 1, none⟩ (.slice a2 n2 c2)).setCell ⟨v30.heap.size, 2, none⟩ (.int .i64 y.2.2)) := ((bw.setCell YL _).setCell YL _).setCell YL _
                refine hK.out _ _ bS (fun _ => ?_)
                clear hK K
                replace hP1 := hP1.set_dy _ _ _ _ _ _ (.bool y.1) (.slice a2 n2 c2) (.int .i64 y.2.2) Y0 Y1 Y2
                replace hP2 := hP2.set_dy _ _ _ _ _ _ (.bool y.1) (.slice a2 n2 c2) (.int .i64 y.2.2) Y0 Y1 Y2
                replace X0 := set3_cell (v0 := .bool y.1) (v1 := .slice a2 n2 c2) (v2 := .int .i64 y.2.2) X0 (r := v30.heap.size) (by first | exact ne1 | exact ne2)
                replace X1 := set3_cell (v0 := .bool y.1) (v1 := .slice a2 n2 c2) (v2 := .int .i64 y.2.2) X1 (r := v30.heap.size) (by first | exact ne1 | exact ne2)
                replace X2 := set3_cell (v0 := .bool y.1) (v1 := .slice a2 n2 c2) (v2 := .int .i64 y.2.2) X2 (r := v30.heap.size) (by first | exact ne1 | exact ne2)
                obtain ⟨Z0, Z1, Z2⟩ := set3_same (r := v30.heap.size) (v0 := .bool y.1) (v1 := .slice a2 n2 c2) (v2 := .int .i64 y.2.2) Y0 Y1 Y2
                clear Y0 Y1 Y2 Y3 Y4 Y5 bw
                try simp only [Act.put, List.setIfInBounds_toArray, List.set_cons_zero, List.set_cons_succ]
                generalize (((v37.setCell ⟨v30.heap.size, 0, none⟩ (.bool y.1)).setCell ⟨v30.heap.size, 1, none⟩ (.slice a2 n2 c2)).setCell ⟨v30.heap.size, 2, none⟩ (.int .i64 y.2.2)) = v38 at *
                have Y0 := Z0
                have Y1 := Z1
                have Y2 := Z2
                have bw := bS
                clear Z0 Z1 Z2 bS
                refine wpAnyH_done (by kernel_rfl) ?_ _
                go_wp2_with fail
                go_meet
                case rel => exact ⟨_, _, rfl, rfl, a1, n1, c1, a2, n2, c2, X0, X1, X2, Y0, Y1, Y2, HN1, HN2, hP1, hP2, bw, XL, YL⟩
      · go_simp
        refine hK.out _ _ (bl_alloc bw _) (fun _ => ?_)
        clear hK K
        have bN := below_one v29 (.cells #[.bool false, .slice none 0 0, .int .i64 0] 25)
        have ne1 : wd.heap.size ≠ v29.heap.size := Nat.ne_of_lt (World.block_lt_of_cell? _ _ X0)
        have ne2 := Ne.symm ne1
        replace X3 := dcarry_frozen bN X0 X3
        replace X4 := dcarry_frozen bN X1 X4
        replace X5 := dcarry_frozen bN X2 X5
        replace X0 := dcarry_cell bN X0
        replace X1 := dcarry_cell bN X1
        replace X2 := dcarry_cell bN X2
        obtain ⟨Y0, Y1, Y2, Y3, Y4, Y5⟩ := zero_dy (w := v29) (r := v29.heap.size) (W' := v29.alloc (.cells #[.bool false, .slice none 0 0, .int .i64 0] 25)) (Below.refl _ _) rfl
        have YL : w0.heap.size ≤ v29.heap.size := bw.size
        replace bw := bl_alloc bw (.cells #[.bool false, .slice none 0 0, .int .i64 0] 25)
        clear bN
        try simp only [Act.put, List.setIfInBounds_toArray, List.set_cons_zero, List.set_cons_succ]
        generalize v29.alloc (.cells #[.bool false, .slice none 0 0, .int .i64 0] 25) = v39 at *
        refine wpAnyH_ready (rs := [1]) (by kernel_rfl) (by simp) ?_
        refine AllReadyH.cons rfl (fun K hK => ?_) (AllReadyH.nil)
        · go_simp
          refine Calls.mono (HX.out _ (H1.out.keep (nbelow_trans bw0 bw))) ?_
          rintro r v40 ⟨_, rfl, ⟨a1, n1, c1, rfl, HN1, hO1⟩, bN⟩
          refine hK.out _ _ (nbelow_trans bw bN) (fun _ => ?_)
          clear hK K
          replace X3 := dcarry_frozen bN X0 X3
          replace X4 := dcarry_frozen bN X1 X4
          replace X5 := dcarry_frozen bN X2 X5
          replace X0 := dcarry_cell bN X0
          replace X1 := dcarry_cell bN X1
          replace X2 := dcarry_cell bN X2
          replace Y3 := dcarry_frozen bN Y0 Y3
          replace Y4 := dcarry_frozen bN Y1 Y4
          replace Y5 := dcarry_frozen bN Y2 Y5
          replace Y0 := dcarry_cell bN Y0
          replace Y1 := dcarry_cell bN Y1
          replace Y2 := dcarry_cell bN Y2
          have hP1 := hO1.low (B' := w0.heap.size) bw.size
          replace bw := nbelow_trans bw bN
          clear bN hO1
          try simp only [Act.put, List.setIfInBounds_toArray, List.set_cons_zero, List.set_cons_succ]
          refine wpAnyH_ready (rs := [3]) (by kernel_rfl) (by simp) ?_
          refine AllReadyH.cons rfl (fun K hK => ?_) (AllReadyH.nil)
          · go_simp
            refine Calls.mono (HY.out _ (H2.out.keep (nbelow_trans bw0 bw))) ?_
            rintro r v41 ⟨_, rfl, ⟨a2, n2, c2, rfl, HN2, hO2⟩, bN⟩
            refine hK.out _ _ (nbelow_trans bw bN) (fun _ => ?_)
            clear hK K
            replace X3 := dcarry_frozen bN X0 X3
            replace X4 := dcarry_frozen bN X1 X4
            replace X5 := dcarry_frozen bN X2 X5
            replace X0 := dcarry_cell bN X0
            replace X1 := dcarry_cell bN X1
            replace X2 := dcarry_cell bN X2
            replace Y3 := dcarry_frozen bN Y0 Y3
            replace Y4 := dcarry_frozen bN Y1 Y4
            replace Y5 := dcarry_frozen bN Y2 Y5
            replace Y0 := dcarry_cell bN Y0
            replace Y1 := dcarry_cell bN Y1
            replace Y2 := dcarry_cell bN Y2
            replace hP1 := hP1.keep bN
            have hP2 := hO2.low (B' := w0.heap.size) bw.size
            replace bw := nbelow_trans bw bN
            clear bN hO2
            try simp only [Act.put, List.setIfInBounds_toArray, List.set_cons_zero, List.set_cons_succ]
            refine wpAnyH_ready (rs := [6]) (by kernel_rfl) (by simp) ?_
            refine AllReadyH.cons rfl (fun K hK => ?_) (AllReadyH.nil)
            · go_simp
              have bS : Below w0.heap.size w0 (((v41.setCell ⟨wd.heap.size, 0, none⟩ (.bool x.1)).setCell ⟨wd.heap.size, 1, none⟩ (.slice a1 n1 c1)).setCell ⟨wd.heap.size, 2, none⟩ (.int .i64 x.2.2)) := ((bw.setCell XL _).setCell XL _).setCell XL _
              refine hK.out _ _ bS (fun _ => ?_)
              clear hK K
              replace hP1 := hP1.set_dy _ _ _ _ _ _ (.bool x.1) (.slice a1 n1 c1) (.int .i64 x.2.2) X0 X1 X2
              replace hP2 := hP2.set_dy _ _ _ _ _ _ (.bool x.1) (.slice a1 n1 c1) (.int .i64 x.2.2) X0 X1 X2
              replace Y0 := set3_cell (v0 := .bool x.1) (v1 := .slice a1 n1 c1) (v2 := .int .i64 x.2.2) Y0 (r := wd.heap.size) (by first | exact ne1 | exact ne2)
              replace Y1 := set3_cell (v0 := .bool x.1) (v1 := .slice a1 n1 c1) (v2 := .int .i64 x.2.2) Y1 (r := wd.heap.size) (by first | exact ne1 | exact ne2)
              replace Y2 := set3_cell (v0 := .bool x.1) (v1 := .slice a1 n1 c1) (v2 := .int .i64 x.2.2) Y2 (r := wd.heap.size) (by first | exact ne1 | exact ne2)
              replace Y3 := set3_frozen (r := wd.heap.size) (v0 := .bool x.1) (v1 := .slice a1 n1 c1) (v2 := .int .i64 x.2.2) Y3
              replace Y4 := set3_frozen (r := wd.heap.size) (v0 := .bool x.1) (v1 := .slice a1 n1 c1) (v2 := .int .i64 x.2.2) Y4
              replace Y5 := set3_frozen (r := wd.heap.size) (v0 := .bool x.1) (v1 := .slice a1 n1 c1) (v2 := .int .i64 x.2.2) Y5
              obtain ⟨Z0, Z1, Z2⟩ := set3_same (r := wd.heap.size) (v0 := .bool x.1) (v1 := .slice a1 n1 c1) (v2 := .int .i64 x.2.2) X0 X1 X2
              clear X0 X1 X2 X3 X4 X5 bw
              try simp only [Act.put, List.setIfInBounds_toArray, List.set_cons_zero, List.set_cons_succ]
              generalize (((v41.setCell ⟨wd.heap.size, 0, none⟩ (.bool x.1)).setCell ⟨wd.heap.size, 1, none⟩ (.slice a1 n1 c1)).setCell ⟨wd.heap.size, 2, none⟩ (.int .i64 x.2.2)) = v42 at *
              have X0 := Z0
              have X1 := Z1
              have X2 := Z2
              have bw := bS
              clear Z0 Z1 Z2 bS
              refine wpAnyH_ready (rs := [7]) (by kernel_rfl) (by simp) ?_
              refine AllReadyH.cons rfl (fun K hK => ?_) (AllReadyH.nil)
              · go_simp
                have bS : Below w0.heap.size w0 (((v42.setCell ⟨v29.heap.size, 0, none⟩ (.bool y.1)).setCell ⟨v29.heap.size, 1, none⟩ (.slice a2 n2 c2)).setCell ⟨v29.heap.size, 2, none⟩ (.int .i64 y.2.2)) := ((bw.setCell YL _).setCell YL _).setCell YL _
                refine hK.out _ _ bS (fun _ => ?_)
                clear hK K
                replace hP1 := hP1.set_dy _ _ _ _ _ _ (.bool y.1) (.slice a2 n2 c2) (.int .i64 y.2.2) Y0 Y1 Y2
                replace hP2 := hP2.set_dy _ _ _ _ _ _ (.bool y.1) (.slice a2 n2 c2) (.int .i64 y.2.2) Y0 Y1 Y2
                replace X0 := set3_cell (v0 := .bool y.1) (v1 := .slice a2 n2 c2) (v2 := .int .i64 y.2.2) X0 (r := v29.heap.size) (by first | exact ne1 | exact ne2)
                replace X1 := set3_cell (v0 := .bool y.1) (v1 := .slice a2 n2 c2) (v2 := .int .i64 y.2.2) X1 (r := v29.heap.size) (by first | exact ne1 | exact ne2)
                replace X2 := set3_cell (v0 := .bool y.1) (v1 := .slice a2 n2 c2) (v2 := .int .i64 y.2.2) X2 (r := v29.heap.size) (by first | exact ne1 | exact ne2)
                obtain ⟨Z0, Z1, Z2⟩ := set3_same (r := v29.heap.size) (v0 := .bool y.1) (v1 := .slice a2 n2 c2) (v2 := .int .i64 y.2.2) Y0 Y1 Y2
                clear Y0 Y1 Y2 Y3 Y4 Y5 bw
                try simp only [Act.put, List.setIfInBounds_toArray, List.set_cons_zero, List.set_cons_succ]
                generalize (((v42.setCell ⟨v29.heap.size, 0, none⟩ (.bool y.1)).setCell ⟨v29.heap.size, 1, none⟩ (.slice a2 n2 c2)).setCell ⟨v29.heap.size, 2, none⟩ (.int .i64 y.2.2)) = v43 at *
                have Y0 := Z0
                have Y1 := Z1
                have Y2 := Z2
                have bw := bS
                clear Z0 Z1 Z2 bS
                refine wpAnyH_done (by kernel_rfl) ?_ _
                go_wp2_with fail
                go_meet
                case rel => exact ⟨_, _, rfl, rfl, a1, n1, c1, a2, n2, c2, X0, X1, X2, Y0, Y1, Y2, HN1, HN2, hP1, hP2, bw, XL, YL⟩
    · go_simp
      refine hK.out _ _ (bl_alloc bw _) (fun _ => ?_)
      clear hK K
      have bN := below_one wd (.cells #[.bool false, .slice none 0 0, .int .i64 0] 25)
      obtain ⟨Y0, Y1, Y2, Y3, Y4, Y5⟩ := zero_dy (w := wd) (r := wd.heap.size) (W' := wd.alloc (.cells #[.bool false, .slice none 0 0, .int .i64 0] 25)) (Below.refl _ _) rfl
      have YL : w0.heap.size ≤ wd.heap.size := bw.size
      replace bw := bl_alloc bw (.cells #[.bool false, .slice none 0 0, .int .i64 0] 25)
      clear bN
      try simp only [Act.put, List.setIfInBounds_toArray, List.set_cons_zero, List.set_cons_succ]
      generalize wd.alloc (.cells #[.bool false, .slice none 0 0, .int .i64 0] 25) = v44 at *
      refine wpAnyH_ready (rs := [1, 4]) (by kernel_rfl) (by simp) ?_
      refine AllReadyH.cons rfl (fun K hK => ?_) (AllReadyH.cons rfl (fun K hK => ?_) (AllReadyH.nil))
      · go_simp
        refine Calls.mono (HX.out _ (H1.out.keep (nbelow_trans bw0 bw))) ?_
        rintro r v45 ⟨_, rfl, ⟨a1, n1, c1, rfl, HN1, hO1⟩, bN⟩
        refine hK.out _ _ (nbelow_trans bw bN) (fun _ => ?_)
        clear hK K
        replace Y3 := dcarry_frozen bN Y0 Y3
        replace Y4 := dcarry_frozen bN Y1 Y4
        replace Y5 := dcarry_frozen bN Y2 Y5
        replace Y0 := dcarry_cell bN Y0
        replace Y1 := dcarry_cell bN Y1
        replace Y2 := dcarry_cell bN Y2
        have hP1 := hO1.low (B' := w0.heap.size) bw.size
        replace bw := nbelow_trans bw bN
        clear bN hO1
        try simp only [Act.put, List.setIfInBounds_toArray, List.set_cons_zero, List.set_cons_succ]
        refine wpAnyH_ready (rs := [3, 4]) (by kernel_rfl) (by simp) ?_
        refine AllReadyH.cons rfl (fun K hK => ?_) (AllReadyH.cons rfl (fun K hK => ?_) (AllReadyH.nil))
        · go_simp
          refine Calls.mono (HY.out _ (H2.out.keep (nbelow_trans bw0 bw))) ?_
          rintro r v46 ⟨_, rfl, ⟨a2, n2, c2, rfl, HN2, hO2⟩, bN⟩
          refine hK.out _ _ (nbelow_trans bw bN) (fun _ => ?_)
          clear hK K
          replace Y3 := dcarry_frozen bN Y0 Y3
          replace Y4 := dcarry_frozen bN Y1 Y4
          replace Y5 := dcarry_frozen bN Y2 Y5
          replace Y0 := dcarry_cell bN Y0
          replace Y1 := dcarry_cell bN Y1
          replace Y2 := dcarry_cell bN Y2
          replace hP1 := hP1.keep bN
          have hP2 := hO2.low (B' := w0.heap.size) bw.size
          replace bw := nbelow_trans bw bN
          clear bN hO2
          try simp only [Act.put, List.setIfInBounds_toArray, List.set_cons_zero, List.set_cons_succ]
          refine wpAnyH_ready (rs := [4]) (by kernel_rfl) (by simp) ?_
          refine AllReadyH.cons rfl (fun K hK => ?_) (AllReadyH.nil)
          · go_simp
            refine hK.out _ _ (bl_alloc bw _) (fun _ => ?_)
            clear hK K
            have bN := below_one v46 (.cells #[.bool false, .slice none 0 0, .int .i64 0] 25)
            have ne1 : wd.heap.size ≠ v46.heap.size := Nat.ne_of_lt (World.block_lt_of_cell? _ _ Y0)
            have ne2 := Ne.symm ne1
            replace Y3 := dcarry_frozen bN Y0 Y3
            replace Y4 := dcarry_frozen bN Y1 Y4
            replace Y5 := dcarry_frozen bN Y2 Y5
            replace Y0 := dcarry_cell bN Y0
            replace Y1 := dcarry_cell bN Y1
            replace Y2 := dcarry_cell bN Y2
            replace hP1 := hP1.keep bN
            replace hP2 := hP2.keep bN
            obtain ⟨X0, X1, X2, X3, X4, X5⟩ := zero_dy (w := v46) (r := v46.heap.size) (W' := v46.alloc (.cells #[.bool false, .slice none 0 0, .int .i64 0] 25)) (Below.refl _ _) rfl
            have XL : w0.heap.size ≤ v46.heap.size := bw.size
            replace bw := bl_alloc bw (.cells #[.bool false, .slice none 0 0, .int .i64 0] 25)
            clear bN
            try simp only [Act.put, List.setIfInBounds_toArray, List.set_cons_zero, List.set_cons_succ]
            generalize v46.alloc (.cells #[.bool false, .slice none 0 0, .int .i64 0] 25) = v47 at *
            refine wpAnyH_ready (rs := [6]) (by kernel_rfl) (by simp) ?_
            refine AllReadyH.cons rfl (fun K hK => ?_) (AllReadyH.nil)
            · go_simp
              have bS : Below w0.heap.size w0 (((v47.setCell ⟨v46.heap.size, 0, none⟩ (.bool x.1)).setCell ⟨v46.heap.size, 1, none⟩ (.slice a1 n1 c1)).setCell ⟨v46.heap.size, 2, none⟩ (.int .i64 x.2.2)) := ((bw.setCell XL _).setCell XL _).setCell XL _
              refine hK.out _ _ bS (fun _ => ?_)
              clear hK K
              replace hP1 := hP1.set_dy _ _ _ _ _ _ (.bool x.1) (.slice a1 n1 c1) (.int .i64 x.2.2) X0 X1 X2
              replace hP2 := hP2.set_dy _ _ _ _ _ _ (.bool x.1) (.slice a1 n1 c1) (.int .i64 x.2.2) X0 X1 X2
              replace Y0 := set3_cell (v0 := .bool x.1) (v1 := .slice a1 n1 c1) (v2 := .int .i64 x.2.2) Y0 (r := v46.heap.size) (by first | exact ne1 | exact ne2)
              replace Y1 := set3_cell (v0 := .bool x.1) (v1 := .slice a1 n1 c1) (v2 := .int .i64 x.2.2) Y1 (r := v46.heap.size) (by first | exact ne1 | exact ne2)
              replace Y2 := set3_cell (v0 := .bool x.1) (v1 := .slice a1 n1 c1) (v2 := .int .i64 x.2.2) Y2 (r := v46.heap.size) (by first | exact ne1 | exact ne2)
              replace Y3 := set3_frozen (r := v46.heap.size) (v0 := .bool x.1) (v1 := .slice a1 n1 c1) (v2 := .int .i64 x.2.2) Y3
              replace Y4 := set3_frozen (r := v46.heap.size) (v0 := .bool x.1) (v1 := .slice a1 n1 c1) (v2 := .int .i64 x.2.2) Y4
              replace Y5 := set3_frozen (r := v46.heap.size) (v0 := .bool x.1) (v1 := .slice a1 n1 c1) (v2 := .int .i64 x.2.2) Y5
              obtain ⟨Z0, Z1, Z2⟩ := set3_same (r := v46.heap.size) (v0 := .bool x.1) (v1 := .slice a1 n1 c1) (v2 := .int .i64 x.2.2) X0 X1 X2
              clear X0 X1 X2 X3 X4 X5 bw
              try simp only [Act.put, List.setIfInBounds_toArray, List.set_cons_zero, List.set_cons_succ]
              generalize (((v47.setCell ⟨v46.heap.size, 0, none⟩ (.bool x.1)).setCell ⟨v46.heap.size, 1, none⟩ (.slice a1 n1 c1)).setCell ⟨v46.heap.size, 2, none⟩ (.int .i64 x.2.2)) = v48 at *
              have X0 := Z0
              have X1 := Z1
              have X2 := Z2
              have bw := bS
              clear Z0 Z1 Z2 bS
              refine wpAnyH_ready (rs := [7]) (by kernel_rfl) (by simp) ?_
              refine AllReadyH.cons rfl (fun K hK => ?_) (AllReadyH.nil)
              · go_simp
                have bS : Below w0.heap.size w0 (((v48.setCell ⟨wd.heap.size, 0, none⟩ (.bool y.1)).setCell ⟨wd.heap.size, 1, none⟩ (.slice a2 n2 c2)).setCell ⟨wd.heap.size, 2, none⟩ (.int .i64 y.2.2)) := ((bw.setCell YL _).setCell YL _).setCell YL _
                refine hK.out _ _ bS (fun _ => ?_)
                clear hK K
                replace hP1 := hP1.set_dy _ _ _ _ _ _ (.bool y.1) (.slice a2 n2 c2) (.int .i64 y.2.2) Y0 Y1 Y2
                replace hP2 := hP2.set_dy _ _ _ _ _ _ (.bool y.1) (.slice a2 n2 c2) (.int .i64 y.2.2) Y0 Y1 Y2
                replace X0 := set3_cell (v0 := .bool y.1) (v1 := .slice a2 n2 c2) (v2 := .int .i64 y.2.2) X0 (r := wd.heap.size) (by first | exact ne1 | exact ne2)
                replace X1 := set3_cell (v0 := .bool y.1) (v1 := .slice a2 n2 c2) (v2 := .int .i64 y.2.2) X1 (r := wd.heap.size) (by first | exact ne1 | exact ne2)
                replace X2 := set3_cell (v0 := .bool y.1) (v1 := .slice a2 n2 c2) (v2 := .int .i64 y.2.2) X2 (r := wd.heap.size) (by first | exact ne1 | exact ne2)
                obtain ⟨Z0, Z1, Z2⟩ := set3_same (r := wd.heap.size) (v0 := .bool y.1) (v1 := .slice a2 n2 c2) (v2 := .int .i64 y.2.2) Y0 Y1 Y2
                clear Y0 Y1 Y2 Y3 Y4 Y5 bw
                try simp only [Act.put, List.setIfInBounds_toArray, List.set_cons_zero, List.set_cons_succ]
                generalize (((v48.setCell ⟨wd.heap.size, 0, none⟩ (.bool y.1)).setCell ⟨wd.heap.size, 1, none⟩ (.slice a2 n2 c2)).setCell ⟨wd.heap.size, 2, none⟩ (.int .i64 y.2.2)) = v49 at *
                have Y0 := Z0
                have Y1 := Z1
                have Y2 := Z2
                have bw := bS
                clear Z0 Z1 Z2 bS
                refine wpAnyH_done (by kernel_rfl) ?_ _
                go_wp2_with fail
                go_meet
                case rel => exact ⟨_, _, rfl, rfl, a1, n1, c1, a2, n2, c2, X0, X1, X2, Y0, Y1, Y2, HN1, HN2, hP1, hP2, bw, XL, YL⟩
        · go_simp
          refine hK.out _ _ (bl_alloc bw _) (fun _ => ?_)
          clear hK K
          have bN := below_one v45 (.cells #[.bool false, .slice none 0 0, .int .i64 0] 25)
          have ne1 : wd.heap.size ≠ v45.heap.size := Nat.ne_of_lt (World.block_lt_of_cell? _ _ Y0)
          have ne2 := Ne.symm ne1
          replace Y3 := dcarry_frozen bN Y0 Y3
          replace Y4 := dcarry_frozen bN Y1 Y4
          replace Y5 := dcarry_frozen bN Y2 Y5
          replace Y0 := dcarry_cell bN Y0
          replace Y1 := dcarry_cell bN Y1
          replace Y2 := dcarry_cell bN Y2
          replace hP1 := hP1.keep bN
          obtain ⟨X0, X1, X2, X3, X4, X5⟩ := zero_dy (w := v45) (r := v45.heap.size) (W' := v45.alloc (.cells #[.bool false, .slice none 0 0, .int .i64 0] 25)) (Below.refl _ _) rfl
          have XL : w0.heap.size ≤ v45.heap.size := bw.size
          replace bw := bl_alloc bw (.cells #[.bool false, .slice none 0 0, .int .i64 0] 25)
          clear bN
          try simp only [Act.put, List.setIfInBounds_toArray, List.set_cons_zero, List.set_cons_succ]
          generalize v45.alloc (.cells #[.bool false, .slice none 0 0, .int .i64 0] 25) = v50 at *
          refine wpAnyH_ready (rs := [3]) (by kernel_rfl) (by simp) ?_
          refine AllReadyH.cons rfl (fun K hK => ?_) (AllReadyH.nil)
          · go_simp
            refine Calls.mono (HY.out _ (H2.out.keep (nbelow_trans bw0 bw))) ?_
            rintro r v51 ⟨_, rfl, ⟨a2, n2, c2, rfl, HN2, hO2⟩, bN⟩
            refine hK.out _ _ (nbelow_trans bw bN) (fun _ => ?_)
            clear hK K
            replace X3 := dcarry_frozen bN X0 X3
            replace X4 := dcarry_frozen bN X1 X4
            replace X5 := dcarry_frozen bN X2 X5
            replace X0 := dcarry_cell bN X0
            replace X1 := dcarry_cell bN X1
            replace X2 := dcarry_cell bN X2
            replace Y3 := dcarry_frozen bN Y0 Y3
            replace Y4 := dcarry_frozen bN Y1 Y4
            replace Y5 := dcarry_frozen bN Y2 Y5
            replace Y0 := dcarry_cell bN Y0
            replace Y1 := dcarry_cell bN Y1
            replace Y2 := dcarry_cell bN Y2
            replace hP1 := hP1.keep bN
            have hP2 := hO2.low (B' := w0.heap.size) bw.size
            replace bw := nbelow_trans bw bN
            clear bN hO2
            try simp only [Act.put, List.setIfInBounds_toArray, List.set_cons_zero, List.set_cons_succ]
            refine wpAnyH_ready (rs := [6]) (by kernel_rfl) (by simp) ?_
            refine AllReadyH.cons rfl (fun K hK => ?_) (AllReadyH.nil)
            · go_simp
              have bS : Below w0.heap.size w0 (((v51.setCell ⟨v45.heap.size, 0, none⟩ (.bool x.1)).setCell ⟨v45.heap.size, 1, none⟩ (.slice a1 n1 c1)).setCell ⟨v45.heap.size, 2, none⟩ (.int .i64 x.2.2)) := ((bw.setCell XL _).setCell XL _).setCell XL _
              refine hK.out _ _ bS (fun _ => ?_)
              clear hK K
              replace hP1 := hP1.set_dy _ _ _ _ _ _ (.bool x.1) (.slice a1 n1 c1) (.int .i64 x.2.2) X0 X1 X2
              replace hP2 := hP2.set_dy _ _ _ _ _ _ (.bool x.1) (.slice a1 n1 c1) (.int .i64 x.2.2) X0 X1 X2
              replace Y0 := set3_cell (v0 := .bool x.1) (v1 := .slice a1 n1 c1) (v2 := .int .i64 x.2.2) Y0 (r := v45.heap.size) (by first | exact ne1 | exact ne2)
              replace Y1 := set3_cell (v0 := .bool x.1) (v1 := .slice a1 n1 c1) (v2 := .int .i64 x.2.2) Y1 (r := v45.heap.size) (by first | exact ne1 | exact ne2)
              replace Y2 := set3_cell (v0 := .bool x.1) (v1 := .slice a1 n1 c1) (v2 := .int .i64 x.2.2) Y2 (r := v45.heap.size) (by first | exact ne1 | exact ne2)
              replace Y3 := set3_frozen (r := v45.heap.size) (v0 := .bool x.1) (v1 := .slice a1 n1 c1) (v2 := .int .i64 x.2.2) Y3
              replace Y4 := set3_frozen (r := v45.heap.size) (v0 := .bool x.1) (v1 := .slice a1 n1 c1) (v2 := .int .i64 x.2.2) Y4
              replace Y5 := set3_frozen (r := v45.heap.size) (v0 := .bool x.1) (v1 := .slice a1 n1 c1) (v2 := .int .i64 x.2.2) Y5
              obtain ⟨Z0, Z1, Z2⟩ := set3_same (r := v45.heap.size) (v0 := .bool x.1) (v1 := .slice a1 n1 c1) (v2 := .int .i64 x.2.2) X0 X1 X2
              clear X0 X1 X2 X3 X4 X5 bw
              try simp only [Act.put, List.setIfInBounds_toArray, List.set_cons_zero, List.set_cons_succ]
              generalize (((v51.setCell ⟨v45.heap.size, 0, none⟩ (.bool x.1)).setCell ⟨v45.heap.size, 1, none⟩ (.slice a1 n1 c1)).setCell ⟨v45.heap.size, 2, none⟩ (.int .i64 x.2.2)) = v52 at *
              have X0 := Z0
              have X1 := Z1
              have X2 := Z2
              have bw := bS
              clear Z0 Z1 Z2 bS
              refine wpAnyH_ready (rs := [7]) (by kernel_rfl) (by simp) ?_
              refine AllReadyH.cons rfl (fun K hK => ?_) (AllReadyH.nil)
              · go_simp
                have bS : Below w0.heap.size w0 (((v52.setCell ⟨wd.heap.size, 0, none⟩ (.bool y.1)).setCell ⟨wd.heap.size, 1, none⟩ (.slice a2 n2 c2)).setCell ⟨wd.heap.size, 2, none⟩ (.int .i64 y.2.2)) := ((bw.setCell YL _).setCell YL _).setCell YL _
                refine hK.out _ _ bS (fun _ => ?_)
                clear hK K
                replace hP1 := hP1.set_dy _ _ _ _ _ _ (.bool y.1) (.slice a2 n2 c2) (.int .i64 y.2.2) Y0 Y1 Y2
                replace hP2 := hP2.set_dy _ _ _ _ _ _ (.bool y.1) (.slice a2 n2 c2) (.int .i64 y.2.2) Y0 Y1 Y2
                replace X0 := set3_cell (v0 := .bool y.1) (v1 := .slice a2 n2 c2) (v2 := .int .i64 y.2.2) X0 (r := wd.heap.size) (by first | exact ne1 | exact ne2)
                replace X1 := set3_cell (v0 := .bool y.1) (v1 := .slice a2 n2 c2) (v2 := .int .i64 y.2.2) X1 (r := wd.heap.size) (by first | exact ne1 | exact ne2)
                replace X2 := set3_cell (v0 := .bool y.1) (v1 := .slice a2 n2 c2) (v2 := .int .i64 y.2.2) X2 (r := wd.heap.size) (by first | exact ne1 | exact ne2)
                obtain ⟨Z0, Z1, Z2⟩ := set3_same (r := wd.heap.size) (v0 := .bool y.1) (v1 := .slice a2 n2 c2) (v2 := .int .i64 y.2.2) Y0 Y1 Y2
                clear Y0 Y1 Y2 Y3 Y4 Y5 bw
                try simp only [Act.put, List.setIfInBounds_toArray, List.set_cons_zero, List.set_cons_succ]
                generalize (((v52.setCell ⟨wd.heap.size, 0, none⟩ (.bool y.1)).setCell ⟨wd.heap.size, 1, none⟩ (.slice a2 n2 c2)).setCell ⟨wd.heap.size, 2, none⟩ (.int .i64 y.2.2)) = v53 at *
                have Y0 := Z0
                have Y1 := Z1
                have Y2 := Z2
                have bw := bS
                clear Z0 Z1 Z2 bS
                refine wpAnyH_done (by kernel_rfl) ?_ _
                go_wp2_with fail
                go_meet
                case rel => exact ⟨_, _, rfl, rfl, a1, n1, c1, a2, n2, c2, X0, X1, X2, Y0, Y1, Y2, HN1, HN2, hP1, hP2, bw, XL, YL⟩
      · go_simp
        refine hK.out _ _ (bl_alloc bw _) (fun _ => ?_)
        clear hK K
        have bN := below_one v44 (.cells #[.bool false, .slice none 0 0, .int .i64 0] 25)
        have ne1 : wd.heap.size ≠ v44.heap.size := Nat.ne_of_lt (World.block_lt_of_cell? _ _ Y0)
        have ne2 := Ne.symm ne1
        replace Y3 := dcarry_frozen bN Y0 Y3
        replace Y4 := dcarry_frozen bN Y1 Y4
        replace Y5 := dcarry_frozen bN Y2 Y5
        replace Y0 := dcarry_cell bN Y0
        replace Y1 := dcarry_cell bN Y1
        replace Y2 := dcarry_cell bN Y2
        obtain ⟨X0, X1, X2, X3, X4, X5⟩ := zero_dy (w := v44) (r := v44.heap.size) (W' := v44.alloc (.cells #[.bool false, .slice none 0 0, .int .i64 0] 25)) (Below.refl _ _) rfl
        have XL : w0.heap.size ≤ v44.heap.size := bw.size
        replace bw := bl_alloc bw (.cells #[.bool false, .slice none 0 0, .int .i64 0] 25)
        clear bN
        try simp only [Act.put, List.setIfInBounds_toArray, List.set_cons_zero, List.set_cons_succ]
        generalize v44.alloc (.cells #[.bool false, .slice none 0 0, .int .i64 0] 25) = v54 at *
        refine wpAnyH_ready (rs := [1]) (by kernel_rfl) (by simp) ?_
        refine AllReadyH.cons rfl (fun K hK => ?_) (AllReadyH.nil)
        · go_simp
          refine Calls.mono (HX.out _ (H1.out.keep (nbelow_trans bw0 bw))) ?_
          rintro r v55 ⟨_, rfl, ⟨a1, n1, c1, rfl, HN1, hO1⟩, bN⟩
          refine hK.out _ _ (nbelow_trans bw bN) (fun _ => ?_)
          clear hK K
          replace X3 := dcarry_frozen bN X0 X3
          replace X4 := dcarry_frozen bN X1 X4
          replace X5 := dcarry_frozen bN X2 X5
          replace X0 := dcarry_cell bN X0
          replace X1 := dcarry_cell bN X1
          replace X2 := dcarry_cell bN X2
          replace Y3 := dcarry_frozen bN Y0 Y3
          replace Y4 := dcarry_frozen bN Y1 Y4
          replace Y5 := dcarry_frozen bN Y2 Y5
          replace Y0 := dcarry_cell bN Y0
          replace Y1 := dcarry_cell bN Y1
          replace Y2 := dcarry_cell bN Y2
          have hP1 := hO1.low (B' := w0.heap.size) bw.size
          replace bw := nbelow_trans bw bN
          clear bN hO1
          try simp only [Act.put, List.setIfInBounds_toArray, List.set_cons_zero, List.set_cons_succ]
          refine wpAnyH_ready (rs := [3]) (by kernel_rfl) (by simp) ?_
          refine AllReadyH.cons rfl (fun K hK => ?_) (AllReadyH.nil)
          · go_simp
            refine Calls.mono (HY.out _ (H2.out.keep (nbelow_trans bw0 bw))) ?_
            rintro r v56 ⟨_, rfl, ⟨a2, n2, c2, rfl, HN2, hO2⟩, bN⟩
            refine hK.out _ _ (nbelow_trans bw bN) (fun _ => ?_)
            clear hK K
            replace X3 := dcarry_frozen bN X0 X3
            replace X4 := dcarry_frozen bN X1 X4
            replace X5 := dcarry_frozen bN X2 X5
            replace X0 := dcarry_cell bN X0
            replace X1 := dcarry_cell bN X1
            replace X2 := dcarry_cell bN X2
            replace Y3 := dcarry_frozen bN Y0 Y3
            replace Y4 := dcarry_frozen bN Y1 Y4
            replace Y5 := dcarry_frozen bN Y2 Y5
            replace Y0 := dcarry_cell bN Y0
            replace Y1 := dcarry_cell bN Y1
            replace Y2 := dcarry_cell bN Y2
            replace hP1 := hP1.keep bN
            have hP2 := hO2.low (B' := w0.heap.size) bw.size
            replace bw := nbelow_trans bw bN
            clear bN hO2
            try simp only [Act.put, List.setIfInBounds_toArray, List.set_cons_zero, List.set_cons_succ]
            refine wpAnyH_ready (rs := [6]) (by kernel_rfl) (by simp) ?_
            refine AllReadyH.cons rfl (fun K hK => ?_) (AllReadyH.nil)
            · go_simp
              have bS : Below w0.heap.size w0 (((v56.setCell ⟨v44.heap.size, 0, none⟩ (.bool x.1)).setCell ⟨v44.heap.size, 1, none⟩ (.slice a1 n1 c1)).setCell ⟨v44.heap.size, 2, none⟩ (.int .i64 x.2.2)) := ((bw.setCell XL _).setCell XL _).setCell XL _
              refine hK.out _ _ bS (fun _ => ?_)
              clear hK K
              replace hP1 := hP1.set_dy _ _ _ _ _ _ (.bool x.1) (.slice a1 n1 c1) (.int .i64 x.2.2) X0 X1 X2
              replace hP2 := hP2.set_dy _ _ _ _ _ _ (.bool x.1) (.slice a1 n1 c1) (.int .i64 x.2.2) X0 X1 X2
              replace Y0 := set3_cell (v0 := .bool x.1) (v1 := .slice a1 n1 c1) (v2 := .int .i64 x.2.2) Y0 (r := v44.heap.size) (by first | exact ne1 | exact ne2)
              replace Y1 := set3_cell (v0 := .bool x.1) (v1 := .slice a1 n1 c1) (v2 := .int .i64 x.2.2) Y1 (r := v44.heap.size) (by first | exact ne1 | exact ne2)
              replace Y2 := set3_cell (v0 := .bool x.1) (v1 := .slice a1 n1 c1) (v2 := .int .i64 x.2.2) Y2 (r := v44.heap.size) (by first | exact ne1 | exact ne2)
              replace Y3 := set3_frozen (r := v44.heap.size) (v0 := .bool x.1) (v1 := .slice a1 n1 c1) (v2 := .int .i64 x.2.2) Y3
              replace Y4 := set3_frozen (r := v44.heap.size) (v0 := .bool x.1) (v1 := .slice a1 n1 c1) (v2 := .int .i64 x.2.2) Y4
              replace Y5 := set3_frozen (r := v44.heap.size) (v0 := .bool x.1) (v1 := .slice a1 n1 c1) (v2 := .int .i64 x.2.2) Y5
              obtain ⟨Z0, Z1, Z2⟩ := set3_same (r := v44.heap.size) (v0 := .bool x.1) (v1 := .slice a1 n1 c1) (v2 := .int .i64 x.2.2) X0 X1 X2
              clear X0 X1 X2 X3 X4 X5 bw
              try simp only [Act.put, List.setIfInBounds_toArray, List.set_cons_zero, List.set_cons_succ]
              generalize (((v56.setCell ⟨v44.heap.size, 0, none⟩ (.bool x.1)).setCell ⟨v44.heap.size, 1, none⟩ (.slice a1 n1 c1)).setCell ⟨v44.heap.size, 2, none⟩ (.int .i64 x.2.2)) = v57 at *
              have X0 := Z0
              have X1 := Z1
              have X2 := Z2
              have bw := bS
              clear Z0 Z1 Z2 bS
              refine wpAnyH_ready (rs := [7]) (by kernel_rfl) (by simp) ?_
              refine AllReadyH.cons rfl (fun K hK => ?_) (AllReadyH.nil)
              · go_simp
                have bS : Below w0.heap.size w0 (((v57.setCell ⟨wd.heap.size, 0, none⟩ (.bool y.1)).setCell ⟨wd.heap.size, 1, none⟩ (.slice a2 n2 c2)).setCell ⟨wd.heap.size, 2, none⟩ (.int .i64 y.2.2)) := ((bw.setCell YL _).setCell YL _).setCell YL _
                refine hK.out _ _ bS (fun _ => ?_)
                clear hK K
                replace hP1 := hP1.set_dy _ _ _ _ _ _ (.bool y.1) (.slice a2 n2 c2) (.int .i64 y.2.2) Y0 Y1 Y2
                replace hP2 := hP2.set_dy _ _ _ _ _ _ (.bool y.1) (.slice a2 n2 c2) (.int .i64 y.2.2) Y0 Y1 Y2
                replace X0 := set3_cell (v0 := .bool y.1) (v1 := .slice a2 n2 c2) (v2 := .int .i64 y.2.2) X0 (r := wd.heap.size) (by first | exact ne1 | exact ne2)
                replace X1 := set3_cell (v0 := .bool y.1) (v1 := .slice a2 n2 c2) (v2 := .int .i64 y.2.2) X1 (r := wd.heap.size) (by first | exact ne1 | exact ne2)
                replace X2 := set3_cell (v0 := .bool y.1) (v1 := .slice a2 n2 c2) (v2 := .int .i64 y.2.2) X2 (r := wd.heap.size) (by first | exact ne1 | exact ne2)
                obtain ⟨Z0, Z1, Z2⟩ := set3_same (r := wd.heap.size) (v0 := .bool y.1) (v1 := .slice a2 n2 c2) (v2 := .int .i64 y.2.2) Y0 Y1 Y2
                clear Y0 Y1 Y2 Y3 Y4 Y5 bw
                try simp only [Act.put, List.setIfInBounds_toArray, List.set_cons_zero, List.set_cons_succ]
                generalize (((v57.setCell ⟨wd.heap.size, 0, none⟩ (.bool y.1)).setCell ⟨wd.heap.size, 1, none⟩ (.slice a2 n2 c2)).setCell ⟨wd.heap.size, 2, none⟩ (.int .i64 y.2.2)) = v58 at *
                have Y0 := Z0
                have Y1 := Z1
                have Y2 := Z2
                have bw := bS
                clear Z0 Z1 Z2 bS
                refine wpAnyH_done (by kernel_rfl) ?_ _
                go_wp2_with fail
                go_meet
                case rel => exact ⟨_, _, rfl, rfl, a1, n1, c1, a2, n2, c2, X0, X1, X2, Y0, Y1, Y2, HN1, HN2, hP1, hP2, bw, XL, YL⟩
  case rest =>
    obtain ⟨X, Y, rfl, rfl, a1, n1, c1, a2, n2, c2, X0, X1, X2, Y0, Y1, Y2, HN1, HN2, hP1, hP2, bx, XL, YL⟩ := hcut
    replace f0 := dcarry_frozen bx m0 f0
    replace f1 := dcarry_frozen bx m1 f1
    replace f2 := dcarry_frozen bx m2 f2
    replace m0 := dcarry_cell bx m0
    replace m1 := dcarry_cell bx m1
    replace m2 := dcarry_cell bx m2
    have bwx := nbelow_trans bw0 bx
    have bxs : w0.heap.size ≤ wc.heap.size := bx.size
    have HS0 : Hid (w0.heap.size = w.heap.size + 1 + 1 + 1) := hs0
    have XN : X ≠ w.heap.size + 1 + 1 := by omega
    have YN : Y ≠ w.heap.size + 1 + 1 := by omega
    clear k0 k1 k2 k3 k4 k5 HX HY H1 H2 bw0 bx hs0 XL YL
    have hl1 : n1 ≤ 200000 := by rw [HN1.out]; exact (words_len2 _ _).2 (by omega)
    have hl2 : n2 ≤ 200000 := by rw [HN2.out]; exact (words_len2 _ _).2 (by omega)
    have hew : IntKind.i64.wrap (x.2.2 + y.2.2) = x.2.2 + y.2.2 := by rw [IntKind.wrap_i64]; omega
    have ML : Hid _ := fun w' g g' => nMul_calls a1 a2 n1 c1 n2 c2 (wordsOf x.2.1) (wordsOf y.2.1) w' g g' (by omega) (by omega) (by rw [val_words, val_words]; have := HN1.out; have := HN2.out; omega)
    rw [val_words, val_words] at ML
    have hpw := prod_words x.2.1 y.2.1
    have HF : Hid _ := fun a' c' w' g => qForm_calls (!(x.1 == y.1)) a' (wordsOf (x.2.1 * y.2.1)).length c' (wordsOf (x.2.1 * y.2.1)) (x.2.2 + y.2.2) w' g (by have := HN1.out; have := HN2.out; omega) (by omega)
    have hu : mulD x y = formD (!(x.1 == y.1)) (x.2.1 * y.2.1) (x.2.2 + y.2.2) := rfl
    rw [val_words, ← hu, HP.out] at HF
    have HW : Hid (AllU (wordsOf (x.2.1 * y.2.1))) := words_U _
    generalize x.2.1 * y.2.1 = R at *
    have HHP1 := hP1.1
    have HHP2 := hP2.1
    have bxs' : Hid (w0.heap.size ≤ wc.heap.size) := bxs
    clear HP hxb hyb hxe hye hl1 hl2 hpw hu hP1 hP2 HN1 HN2 bxs
    go_wp2_with fail
    have bw : Below wc.heap.size wc wc.drew := (Below.refl _ _).drew
    refine wp_region_held (S := fun w' => w'.cell? ⟨X, 0, none⟩ = some (.bool x.1) ∧ w'.cell? ⟨X, 1, none⟩ = some (.slice a1 n1 c1) ∧ w'.cell? ⟨X, 2, none⟩ = some (.int .i64 x.2.2) ∧ w'.cell? ⟨Y, 0, none⟩ = some (.bool y.1) ∧ w'.cell? ⟨Y, 1, none⟩ = some (.slice a2 n2 c2) ∧ w'.cell? ⟨Y, 2, none⟩ = some (.int .i64 y.2.2)) (by kernel_rfl) ?_
    change wpAnyH _ _ _ _ _ _ _ _ (World.drew wc)
    replace X0 := dcarry_cell bw X0
    replace X1 := dcarry_cell bw X1
    replace X2 := dcarry_cell bw X2
    replace Y0 := dcarry_cell bw Y0
    replace Y1 := dcarry_cell bw Y1
    replace Y2 := dcarry_cell bw Y2
    replace f0 := dcarry_frozen bw m0 f0
    replace f1 := dcarry_frozen bw m1 f1
    replace f2 := dcarry_frozen bw m2 f2
    replace m0 := dcarry_cell bw m0
    replace m1 := dcarry_cell bw m1
    replace m2 := dcarry_cell bw m2
    replace HHP1 := HHP1.keep bw
    replace HHP2 := HHP2.keep bw
    generalize World.drew wc = wd at *
    refine wpAnyH_take (i := 0) (v := ?vt0) rfl (by kernel_rfl) (by kernel_rfl) (by kernel_rfl) (fun _ _ _ h => h) (Or.inl ⟨by rfl, ?yt0⟩) ⟨X0, X1, X2, Y0, Y1, Y2⟩ ?rt0
    case yt0 => (rintro ww ⟨q0, q1, q2, q3, q4, q5⟩; go_simp; try with_reducible rfl)
    try simp only [Act.put]
    refine wpAnyH_take (i := 1) (v := ?vt1) rfl (by kernel_rfl) (by kernel_rfl) (by kernel_rfl) (fun _ _ _ h => h) (Or.inl ⟨by rfl, ?yt1⟩) ⟨X0, X1, X2, Y0, Y1, Y2⟩ ?rt1
    case yt1 => (rintro ww ⟨q0, q1, q2, q3, q4, q5⟩; go_simp; try with_reducible rfl)
    try simp only [Act.put]
    refine wpAnyH_take (i := 2) (v := ?vt2) rfl (by kernel_rfl) (by kernel_rfl) (by kernel_rfl) (fun _ _ _ h => h) (Or.inl ⟨by rfl, ?yt2⟩) ⟨X0, X1, X2, Y0, Y1, Y2⟩ ?rt2
    case yt2 => (rintro ww ⟨q0, q1, q2, q3, q4, q5⟩; go_simp; try with_reducible rfl)
    try simp only [Act.put]
    refine wpAnyH_take (i := 3) (v := ?vt3) rfl (by kernel_rfl) (by kernel_rfl) (by kernel_rfl) (fun _ _ _ h => h) (Or.inl ⟨by rfl, ?yt3⟩) ⟨X0, X1, X2, Y0, Y1, Y2⟩ ?rt3
    case yt3 => (rintro ww ⟨q0, q1, q2, q3, q4, q5⟩; go_simp; try with_reducible rfl)
    try simp only [Act.put]
    refine wpAnyH_take (i := 4) (v := ?vt4) rfl (by kernel_rfl) (by kernel_rfl) (by kernel_rfl) (fun _ _ _ h => h) (Or.inl ⟨by rfl, ?yt4⟩) ⟨X0, X1, X2, Y0, Y1, Y2⟩ ?rt4
    case yt4 => (rintro ww ⟨q0, q1, q2, q3, q4, q5⟩; go_simp; try with_reducible rfl)
    try simp only [Act.put]
    refine wpAnyH_take (i := 5) (v := ?vt5) rfl (by kernel_rfl) (by kernel_rfl) (by kernel_rfl) (fun _ _ _ h => h) (Or.inl ⟨by rfl, ?yt5⟩) ⟨X0, X1, X2, Y0, Y1, Y2⟩ ?rt5
    case yt5 => (rintro ww ⟨q0, q1, q2, q3, q4, q5⟩; go_simp; try with_reducible rfl)
    try simp only [Act.put]
    refine wpAnyH_take (i := 6) (v := ?vt6) rfl (by kernel_rfl) (by kernel_rfl) (by kernel_rfl) (fun _ _ _ h => h) (Or.inl ⟨by rfl, ?yt6⟩) ⟨X0, X1, X2, Y0, Y1, Y2⟩ ?rt6
    case yt6 => (rintro ww ⟨q0, q1, q2, q3, q4, q5⟩; go_simp; try with_reducible rfl)
    try simp only [Act.put]
    refine wpAnyH_take (i := 7) (v := ?vt7) rfl (by kernel_rfl) (by kernel_rfl) (by kernel_rfl) (fun _ _ _ h => h) (Or.inl ⟨by rfl, ?yt7⟩) ⟨X0, X1, X2, Y0, Y1, Y2⟩ ?rt7
    case yt7 => (rintro ww ⟨q0, q1, q2, q3, q4, q5⟩; go_simp; try with_reducible rfl)
    try simp only [Act.put]
    refine wpAnyH_take (i := 8) (v := ?vt8) rfl (by kernel_rfl) (by kernel_rfl) (by kernel_rfl) (fun _ _ _ h => h) (Or.inl ⟨by rfl, ?yt8⟩) ⟨X0, X1, X2, Y0, Y1, Y2⟩ ?rt8
    case yt8 => (rintro ww ⟨q0, q1, q2, q3, q4, q5⟩; go_simp; try with_reducible rfl)
    try simp only [Act.put]
    refine wpAnyH_take (i := 10) (v := ?vt10) rfl (by kernel_rfl) (by kernel_rfl) (by kernel_rfl) (fun _ _ _ h => h) (Or.inl ⟨by rfl, ?yt10⟩) ⟨X0, X1, X2, Y0, Y1, Y2⟩ ?rt10
    case yt10 => (rintro ww ⟨q0, q1, q2, q3, q4, q5⟩; go_simp; try with_reducible rfl)
    try simp only [Act.put]
    refine wpAnyH_take (i := 11) (v := ?vt11) rfl (by kernel_rfl) (by kernel_rfl) (by kernel_rfl) (fun _ _ _ h => h) (Or.inl ⟨by rfl, ?yt11⟩) ⟨X0, X1, X2, Y0, Y1, Y2⟩ ?rt11
    case yt11 => (rintro ww ⟨q0, q1, q2, q3, q4, q5⟩; go_simp; try with_reducible rfl)
    try simp only [Act.put]
    refine wpAnyH_take (i := 12) (v := ?vt12) rfl (by kernel_rfl) (by kernel_rfl) (by kernel_rfl) (fun _ _ _ h => h) (Or.inl ⟨by rfl, ?yt12⟩) ⟨X0, X1, X2, Y0, Y1, Y2⟩ ?rt12
    case yt12 => (rintro ww ⟨q0, q1, q2, q3, q4, q5⟩; go_simp; try with_reducible rfl)
    try simp only [Act.put]
    refine wpAnyH_take (i := 13) (v := ?vt13) rfl (by kernel_rfl) (by kernel_rfl) (by kernel_rfl) (fun _ _ _ h => h) (Or.inl ⟨by rfl, ?yt13⟩) ⟨X0, X1, X2, Y0, Y1, Y2⟩ ?rt13
    case yt13 => (rintro ww ⟨q0, q1, q2, q3, q4, q5⟩; go_simp; try with_reducible rfl)
    try simp only [Act.put]
    refine wpAnyH_take (i := 14) (v := ?vt14) rfl (by kernel_rfl) (by kernel_rfl) (by kernel_rfl) (fun _ _ _ h => h) (Or.inl ⟨by rfl, ?yt14⟩) ⟨X0, X1, X2, Y0, Y1, Y2⟩ ?rt14
    case yt14 => (rintro ww ⟨q0, q1, q2, q3, q4, q5⟩; go_simp; try with_reducible rfl)
    try simp only [Act.put]
    refine wpAnyH_ready (rs := [9]) (by kernel_rfl) (by simp) ?_
    refine AllReadyH.cons rfl (fun K hK => ?_) AllReadyH.nil
    go_simp
    refine Calls.mono (ML.out _ HHP1 HHP2) ?_
    rintro r w6 ⟨a6, c6, rfl, hO6, b6⟩
    replace X0 := dcarry_cell b6 X0
    replace X1 := dcarry_cell b6 X1
    replace X2 := dcarry_cell b6 X2
    replace Y0 := dcarry_cell b6 Y0
    replace Y1 := dcarry_cell b6 Y1
    replace Y2 := dcarry_cell b6 Y2
    replace f0 := dcarry_frozen b6 m0 f0
    replace f1 := dcarry_frozen b6 m1 f1
    replace f2 := dcarry_frozen b6 m2 f2
    replace m0 := dcarry_cell b6 m0
    replace m1 := dcarry_cell b6 m1
    replace m2 := dcarry_cell b6 m2
    refine hK.out _ _ ⟨X0, X1, X2, Y0, Y1, Y2⟩ (fun _ => ?_)
    clear hK K
    replace bw := nbelow_trans bw b6
    have hI6 := hO6.isW HW.out
    clear b6 hO6
    try simp only [Act.put, List.setIfInBounds_toArray, List.set_cons_zero, List.set_cons_succ]
    refine wpAnyH_ready (rs := [15]) (by kernel_rfl) (by simp) ?_
    refine AllReadyH.cons rfl (fun K hK => ?_) AllReadyH.nil
    go_simp
    refine Calls.mono (HF.out _ _ _ hI6) ?_
    rintro r w9 ⟨_, rfl, ⟨a9, n9, c9, rfl, HN9, hO9⟩, b9⟩
    replace X0 := dcarry_cell b9 X0
    replace X1 := dcarry_cell b9 X1
    replace X2 := dcarry_cell b9 X2
    replace Y0 := dcarry_cell b9 Y0
    replace Y1 := dcarry_cell b9 Y1
    replace Y2 := dcarry_cell b9 Y2
    replace f0 := dcarry_frozen b9 m0 f0
    replace f1 := dcarry_frozen b9 m1 f1
    replace f2 := dcarry_frozen b9 m2 f2
    replace m0 := dcarry_cell b9 m0
    replace m1 := dcarry_cell b9 m1
    replace m2 := dcarry_cell b9 m2
    refine hK.out _ _ ⟨X0, X1, X2, Y0, Y1, Y2⟩ (fun _ => ?_)
    clear hK K
    have hO9' := hO9.low (Nat.le_trans bxs'.out bw.size)
    replace bw := nbelow_trans bw b9
    replace bwx := nbelow_trans bwx bw
    clear b9 hO9 hI6
    try simp only [Act.put, List.setIfInBounds_toArray, List.set_cons_zero, List.set_cons_succ]
    refine wpAnyH_ready (rs := [16]) (by kernel_rfl) (by simp) ?_
    refine AllReadyH.cons rfl (fun K hK => ?_) AllReadyH.nil
    go_simp
    refine hK.out _ _ ⟨set3_cell X0 XN, set3_cell X1 XN, set3_cell X2 XN, set3_cell Y0 YN, set3_cell Y1 YN, set3_cell Y2 YN⟩ (fun _ => ?_)
    clear hK K
    try simp only [Act.put, List.setIfInBounds_toArray, List.set_cons_zero, List.set_cons_succ]
    refine wpAnyH_done (by kernel_rfl) ?_ _
    go_wp2_with fail
    refine bodyPost_ret (v := dyV p.1 a9 n9 c9 p.2.2) (by simp [results, Tryz.results32, go_sem, m0, m1, m2]) rfl ⟨_, rfl, ⟨a9, n9, c9, rfl, HN9, ((((hO9').far _ _ (by show w.heap.size + 1 + 1 < _; rw [HS0.out]; omega)).far _ _ (by show w.heap.size + 1 + 1 < _; rw [HS0.out]; omega)).far _ _ (by show w.heap.size + 1 + 1 < _; rw [HS0.out]; omega)).low (by rw [HS0.out]; omega)⟩, ((bwx.setCell (by show w.heap.size ≤ w.heap.size + 1 + 1; omega) _).setCell (by show w.heap.size ≤ w.heap.size + 1 + 1; omega) _).setCell (by show w.heap.size ≤ w.heap.size + 1 + 1; omega) _⟩

end

section
open Go.RowKit

def twE (b : Bool) (p : Bool × Nat × Int) : Int := if b = true then roomE p else 2
def twP (b : Bool) (p : Bool × Nat × Int) : Bool × Nat × Int := if b = true then roomP p else (false, 0, 0)
theorem form_turn (t : Bool) (m : Nat) (f : Int) : formD (!t) m f = negD (formD t m f) := by
  by_cases h0 : m = 0
  · rw [h0, form_zero, form_zero]; rfl
  · rw [form_pos _ h0, form_pos _ h0]
    have h1 := (odd_part h0).1
    have h2 : ¬ m / 2 ^ tz m = 0 := fun q => by rw [q] at h1; exact absurd h1 (by decide)
    unfold negD
    simp [h2]
theorem sumlen (x y : Bool × Nat × Int) (hx : blen x.2.1 ≤ 10000000) (hy : blen y.2.1 ≤ 10000000) (ex : -20000000 ≤ x.2.2 ∧ x.2.2 ≤ 20000000) (ey : -20000000 ≤ y.2.2 ∧ y.2.2 ≤ 20000000) : (wordsOf (sumD x y).2.1).length ≤ 2000001 := by
  have kx : (wordsOf x.2.1).length ≤ 200000 := (words_len2 _ _).2 (by omega)
  have ky : (wordsOf y.2.1).length ≤ 200000 := (words_len2 _ _).2 (by omega)
  by_cases h1 : x.2.1 = 0
  · have : sumD x y = y := by unfold sumD; rw [if_pos h1]
    rw [this]; omega
  · by_cases h2 : y.2.1 = 0
    · have : sumD x y = x := by unfold sumD; rw [if_neg h1, if_pos h2]
      rw [this]; omega
    · obtain ⟨ee, hee⟩ : ∃ ee : Int, min x.2.2 y.2.2 = ee := ⟨_, rfl⟩
      obtain ⟨i, hi⟩ : ∃ i : Nat, x.2.2 - ee = (i : Int) := ⟨(x.2.2 - ee).toNat, by omega⟩
      obtain ⟨j, hj⟩ : ∃ j : Nat, y.2.2 - ee = (j : Int) := ⟨(y.2.2 - ee).toNat, by omega⟩
      have hib : i ≤ 50000000 := by omega
      have hjb : j ≤ 50000000 := by omega
      have hMb : blen (x.2.1 * 2 ^ i) ≤ 60000000 := by rw [blen_mul _ _ h1]; omega
      have hNb : blen (y.2.1 * 2 ^ j) ≤ 60000000 := by rw [blen_mul _ _ h2]; omega
      have hMl : (wordsOf (x.2.1 * 2 ^ i)).length ≤ 1000000 := (words_len2 _ _).2 (by omega)
      have hNl : (wordsOf (y.2.1 * 2 ^ j)).length ≤ 1000000 := (words_len2 _ _).2 (by omega)
      have key : (sumD x y).2.1 ≤ x.2.1 * 2 ^ i + y.2.1 * 2 ^ j := by
        rw [plus_q x y h1 h2 ee hee i hi j hj]
        split
        · exact form_amount_le _ _ _
        · split
          · exact Nat.le_trans (form_amount_le _ _ _) (by omega)
          · exact Nat.le_trans (form_amount_le _ _ _) (by omega)
      have h3 := words_len_mono key
      have h4 := sum_words (x.2.1 * 2 ^ i) (y.2.1 * 2 ^ j)
      omega
theorem right_blen {m : Nat} {e : Int} (h : rightB m e = true) : blen m ≤ 65536 := (great_not _).1 (rightB_yes h).1
theorem form_blen (s : Bool) {m : Nat} {e : Int} (h : rightB m e = true) : blen (formD s m e).2.1 ≤ 65536 := Nat.le_trans (blen_mono (form_amount_le _ _ _)) (right_blen h)
theorem form_rng (s : Bool) {m : Nat} {e : Int} (h : rightB m e = true) : -20000000 ≤ (formD s m e).2.2 ∧ (formD s m e).2.2 ≤ 20000000 := by
  have h1 := (rightB_yes h).2
  have h2 := right_blen h
  by_cases h0 : m = 0
  · rw [h0, form_zero]; exact ⟨by decide, by decide⟩
  · rw [form_pos s h0]
    have := tz_le_blen m
    show _ ≤ e + (tz m : Int) ∧ e + (tz m : Int) ≤ _
    omega

set_option maxRecDepth 100000 in
set_option maxHeartbeats 2000000 in
theorem qboth_calls (s : Bool) (a : Option Addr) (len cap : Nat) (xs : List Int) (e : Int) (t : Bool) (b : Option Addr) (len' cap' : Nat) (ys : List Int) (f : Int) (w : World) (h : IsW w a len cap xs) (hm : len ≤ 17592186044000) (h' : IsW w b len' cap' ys) (hm' : len' ≤ 17592186044000) :
    Calls Tryz.prog 23 #[dyV s a len cap e, dyV t b len' cap' f] w fun r w' => r = .returned (.bool (rightB (val xs) e && rightB (val ys) f)) ∧ Below w.heap.size w w' := by
  have bw0 : Below w.heap.size w ((w.alloc (.cells #[.bool s, .slice a len cap, .int .i64 e] 25)).alloc (.cells #[.bool t, .slice b len' cap', .int .i64 f] 25)) := by repeat (first | exact Below.refl _ _ | refine bl_alloc ?_ _)
  have H1 : Hid _ := qRight_calls s a len cap xs e _ (h.keep bw0) (by omega)
  have H2 : Hid _ := fun W g => qRight_calls t b len' cap' ys f W g (by omega)
  have HI : Hid (IsW w b len' cap' ys) := h'
  generalize rightB (val xs) e = r1 at *
  generalize rightB (val ys) f = r2 at *
  have k0 : ((w.alloc (.cells #[.bool s, .slice a len cap, .int .i64 e] 25)).alloc (.cells #[.bool t, .slice b len' cap', .int .i64 f] 25)).cell? ⟨w.heap.size, 0, none⟩ = some (.bool s) := by go_simp
  have k1 : ((w.alloc (.cells #[.bool s, .slice a len cap, .int .i64 e] 25)).alloc (.cells #[.bool t, .slice b len' cap', .int .i64 f] 25)).cell? ⟨w.heap.size, 1, none⟩ = some (.slice a len cap) := by go_simp
  have k2 : ((w.alloc (.cells #[.bool s, .slice a len cap, .int .i64 e] 25)).alloc (.cells #[.bool t, .slice b len' cap', .int .i64 f] 25)).cell? ⟨w.heap.size, 2, none⟩ = some (.int .i64 e) := by go_simp
  have k3 : ((w.alloc (.cells #[.bool s, .slice a len cap, .int .i64 e] 25)).alloc (.cells #[.bool t, .slice b len' cap', .int .i64 f] 25)).cell? ⟨w.heap.size + 1, 0, none⟩ = some (.bool t) := by go_simp
  have k4 : ((w.alloc (.cells #[.bool s, .slice a len cap, .int .i64 e] 25)).alloc (.cells #[.bool t, .slice b len' cap', .int .i64 f] 25)).cell? ⟨w.heap.size + 1, 1, none⟩ = some (.slice b len' cap') := by go_simp
  have k5 : ((w.alloc (.cells #[.bool s, .slice a len cap, .int .i64 e] 25)).alloc (.cells #[.bool t, .slice b len' cap', .int .i64 f] 25)).cell? ⟨w.heap.size + 1, 2, none⟩ = some (.int .i64 f) := by go_simp
  clear h h' hm hm'
  cases r1
  · go_enter Tryz.func23, Tryz.ntmps23
    go_wp2_with fail
    refine Calls.mono H1.out ?_
    rintro r w1 ⟨rfl, b1⟩
    have bw := nbelow_trans bw0 b1
    clear b1
    go_wp2_with fail
    go_ret
    exact ⟨rfl, bw⟩
  · go_enter Tryz.func23, Tryz.ntmps23
    go_wp2_with fail
    refine Calls.mono H1.out ?_
    rintro r w1 ⟨rfl, b1⟩
    have bw := nbelow_trans bw0 b1
    replace k3 := dcarry_cell b1 k3
    replace k4 := dcarry_cell b1 k4
    replace k5 := dcarry_cell b1 k5
    clear b1 k0 k1 k2
    go_wp2_with fail
    refine Calls.mono (H2.out _ (HI.out.keep bw)) ?_
    rintro r w2 ⟨rfl, b2⟩
    replace bw := nbelow_trans bw b2
    clear b2 k3 k4 k5
    go_wp2_with fail
    go_ret
    exact ⟨rfl, bw⟩

set_option maxRecDepth 100000 in
set_option maxHeartbeats 2000000 in
theorem qadd_not (s : Bool) (a : Option Addr) (len cap : Nat) (xs : List Int) (e : Int) (t : Bool) (b : Option Addr) (len' cap' : Nat) (ys : List Int) (f : Int) (w : World) (h : IsW w a len cap xs) (hm : len ≤ 17592186044000) (h' : IsW w b len' cap' ys) (hm' : len' ≤ 17592186044000) (hr : (rightB (val xs) e && rightB (val ys) f) = false) :
    Calls Tryz.prog 6 #[dyV s a len cap e, dyV t b len' cap' f] w fun r w' => r = .returned (.tuple #[dyV false none 0 0 0, .int .i64 2]) ∧ Below w.heap.size w w' := by
  have bw0 : Below w.heap.size w (((w.alloc (.cells #[.bool s, .slice a len cap, .int .i64 e] 25)).alloc (.cells #[.bool t, .slice b len' cap', .int .i64 f] 25)).alloc (.cells #[.bool false, .slice none 0 0, .int .i64 0] 25)) := by repeat (first | exact Below.refl _ _ | refine bl_alloc ?_ _)
  have HB : Hid _ := qboth_calls s a len cap xs e t b len' cap' ys f _ (h.keep bw0) hm (h'.keep bw0) hm'
  rw [hr] at HB
  clear hr
  go_enter Tryz.func6, Tryz.ntmps6
  go_wp2_with fail
  refine Calls.mono HB.out ?_
  rintro r w1 ⟨rfl, b1⟩
  obtain ⟨m0, m1, m2, f0, f1, f2⟩ := zero_dy (w := ((w.alloc (.cells #[.bool s, .slice a len cap, .int .i64 e] 25)).alloc (.cells #[.bool t, .slice b len' cap', .int .i64 f] 25))) (r := w.heap.size + 1 + 1) (W' := w1) b1 (by simp)
  have bw := nbelow_trans bw0 b1
  clear b1
  go_wp2_with fail
  refine bodyPost_ret (v := .tuple #[dyV false none 0 0 0, .int .i64 2]) (by simp [results, Tryz.results6, go_sem, m0, m1, m2]) rfl ⟨rfl, ?_⟩
  exact ((bw.setCell (by show w.heap.size ≤ w.heap.size + 1 + 1; omega) _).setCell (by show w.heap.size ≤ w.heap.size + 1 + 1; omega) _).setCell (by show w.heap.size ≤ w.heap.size + 1 + 1; omega) _

set_option maxRecDepth 100000 in
set_option maxHeartbeats 2000000 in
theorem qadd_yes (s : Bool) (a : Option Addr) (len cap : Nat) (xs : List Int) (e : Int) (t : Bool) (b : Option Addr) (len' cap' : Nat) (ys : List Int) (f : Int) (w : World) (h : IsW w a len cap xs) (hm : len ≤ 17592186044000) (h' : IsW w b len' cap' ys) (hm' : len' ≤ 17592186044000) (hr : rightB (val xs) e = true) (hr' : rightB (val ys) f = true) :
    Calls Tryz.prog 6 #[dyV s a len cap e, dyV t b len' cap' f] w fun r w' => ∃ v', r = .returned (.tuple #[v', .int .i64 (roomE (sumD (formD s (val xs) e) (formD t (val ys) f)))]) ∧ DyQ w.heap.size w' v' (roomP (sumD (formD s (val xs) e) (formD t (val ys) f))) ∧ Below w.heap.size w w' := by
  have bw0 : Below w.heap.size w (((w.alloc (.cells #[.bool s, .slice a len cap, .int .i64 e] 25)).alloc (.cells #[.bool t, .slice b len' cap', .int .i64 f] 25)).alloc (.cells #[.bool false, .slice none 0 0, .int .i64 0] 25)) := by repeat (first | exact Below.refl _ _ | refine bl_alloc ?_ _)
  have HB : Hid _ := qboth_calls s a len cap xs e t b len' cap' ys f _ (h.keep bw0) hm (h'.keep bw0) hm'
  rw [hr, hr'] at HB
  have HP : Hid _ := fun W g g' => qPlus_calls s a len cap xs e t b len' cap' ys f W g hm g' hm' (by have := (rightB_yes hr).2; omega) (by have := (rightB_yes hr').2; omega) (by have := right_blen hr; omega) (by have := right_blen hr'; omega)
  have HL : Hid _ := sumlen (formD s (val xs) e) (formD t (val ys) f) (by have := form_blen s hr; omega) (by have := form_blen t hr'; omega) (form_rng s hr) (form_rng t hr')
  generalize sumD (formD s (val xs) e) (formD t (val ys) f) = p at *
  have H1 : Hid (IsW w a len cap xs) := h
  have H2 : Hid (IsW w b len' cap' ys) := h'
  have k0 : (((w.alloc (.cells #[.bool s, .slice a len cap, .int .i64 e] 25)).alloc (.cells #[.bool t, .slice b len' cap', .int .i64 f] 25)).alloc (.cells #[.bool false, .slice none 0 0, .int .i64 0] 25)).cell? ⟨w.heap.size, 0, none⟩ = some (.bool s) := by go_simp
  have k1 : (((w.alloc (.cells #[.bool s, .slice a len cap, .int .i64 e] 25)).alloc (.cells #[.bool t, .slice b len' cap', .int .i64 f] 25)).alloc (.cells #[.bool false, .slice none 0 0, .int .i64 0] 25)).cell? ⟨w.heap.size, 1, none⟩ = some (.slice a len cap) := by go_simp
  have k2 : (((w.alloc (.cells #[.bool s, .slice a len cap, .int .i64 e] 25)).alloc (.cells #[.bool t, .slice b len' cap', .int .i64 f] 25)).alloc (.cells #[.bool false, .slice none 0 0, .int .i64 0] 25)).cell? ⟨w.heap.size, 2, none⟩ = some (.int .i64 e) := by go_simp
  have k3 : (((w.alloc (.cells #[.bool s, .slice a len cap, .int .i64 e] 25)).alloc (.cells #[.bool t, .slice b len' cap', .int .i64 f] 25)).alloc (.cells #[.bool false, .slice none 0 0, .int .i64 0] 25)).cell? ⟨w.heap.size + 1, 0, none⟩ = some (.bool t) := by go_simp
  have k4 : (((w.alloc (.cells #[.bool s, .slice a len cap, .int .i64 e] 25)).alloc (.cells #[.bool t, .slice b len' cap', .int .i64 f] 25)).alloc (.cells #[.bool false, .slice none 0 0, .int .i64 0] 25)).cell? ⟨w.heap.size + 1, 1, none⟩ = some (.slice b len' cap') := by go_simp
  have k5 : (((w.alloc (.cells #[.bool s, .slice a len cap, .int .i64 e] 25)).alloc (.cells #[.bool t, .slice b len' cap', .int .i64 f] 25)).alloc (.cells #[.bool false, .slice none 0 0, .int .i64 0] 25)).cell? ⟨w.heap.size + 1, 2, none⟩ = some (.int .i64 f) := by go_simp
  clear hr hr' h h' hm hm'
  go_enter Tryz.func6, Tryz.ntmps6
  go_wp2_with fail
  refine Calls.mono HB.out ?_
  rintro r w1 ⟨rfl, b1⟩
  replace k0 := dcarry_cell b1 k0
  replace k1 := dcarry_cell b1 k1
  replace k2 := dcarry_cell b1 k2
  replace k3 := dcarry_cell b1 k3
  replace k4 := dcarry_cell b1 k4
  replace k5 := dcarry_cell b1 k5
  have bw := nbelow_trans bw0 b1
  clear HB
  go_wp2_with fail
  refine Calls.mono (HP.out _ (H1.out.keep bw) (H2.out.keep bw)) ?_
  rintro r w2 ⟨v2, rfl, hQ2, b2⟩
  have bz := nbelow_trans b1 b2
  replace bw := nbelow_trans bw b2
  have hQ3 := hQ2.low b1.size
  clear b1 b2 HP k0 k1 k2 k3 k4 k5 hQ2
  go_wp2_with fail
  refine Calls.mono (qRoom_calls v2 p _ w2 hQ3 (by have := HL.out; omega)) ?_
  rintro r w3 ⟨_, rfl, ⟨a3, n3, c3, rfl, HN3, hO3⟩, b3⟩
  replace bz := nbelow_trans bz b3
  replace bw := nbelow_trans bw b3
  obtain ⟨m0, m1, m2, f0, f1, f2⟩ := zero_dy (w := ((w.alloc (.cells #[.bool s, .slice a len cap, .int .i64 e] 25)).alloc (.cells #[.bool t, .slice b len' cap', .int .i64 f] 25))) (r := w.heap.size + 1 + 1) (W' := w3) bz (by simp)
  clear b3 bz bw0 hQ3
  go_wp2_with fail
  refine bodyPost_ret (v := .tuple #[dyV (roomP p).1 a3 n3 c3 (roomP p).2.2, .int .i64 (roomE p)]) (by simp [results, Tryz.results6, go_sem, m0, m1, m2]) rfl ⟨_, rfl, ⟨a3, n3, c3, rfl, HN3, (((hO3.far _ _ (by show w.heap.size + 1 + 1 < _; simp)).far _ _ (by show w.heap.size + 1 + 1 < _; simp)).far _ _ (by show w.heap.size + 1 + 1 < _; simp)).low (by simp; omega)⟩, ?_⟩
  exact ((bw.setCell (by show w.heap.size ≤ w.heap.size + 1 + 1; omega) _).setCell (by show w.heap.size ≤ w.heap.size + 1 + 1; omega) _).setCell (by show w.heap.size ≤ w.heap.size + 1 + 1; omega) _
theorem qAdd_calls (s : Bool) (a : Option Addr) (len cap : Nat) (xs : List Int) (e : Int) (t : Bool) (b : Option Addr) (len' cap' : Nat) (ys : List Int) (f : Int) (w : World) (h : IsW w a len cap xs) (hm : len ≤ 17592186044000) (h' : IsW w b len' cap' ys) (hm' : len' ≤ 17592186044000) :
    Calls Tryz.prog 6 #[dyV s a len cap e, dyV t b len' cap' f] w fun r w' => ∃ v', r = .returned (.tuple #[v', .int .i64 (twE (rightB (val xs) e && rightB (val ys) f) (sumD (formD s (val xs) e) (formD t (val ys) f)))]) ∧ DyQ w.heap.size w' v' (twP (rightB (val xs) e && rightB (val ys) f) (sumD (formD s (val xs) e) (formD t (val ys) f))) ∧ Below w.heap.size w w' := by
  cases hr : (rightB (val xs) e && rightB (val ys) f) with
  | false =>
    refine (qadd_not s a len cap xs e t b len' cap' ys f w h hm h' hm' hr).mono ?_
    rintro r w' ⟨rfl, hb⟩
    exact ⟨_, rfl, dyQ_zero _ _, hb⟩
  | true =>
    obtain ⟨r1, r2⟩ := Bool.and_eq_true_iff.1 hr
    exact qadd_yes s a len cap xs e t b len' cap' ys f w h hm h' hm' r1 r2
theorem pAdd_calls (s : Bool) (a : Option Addr) (len cap : Nat) (xs : List Int) (e : Int) (t : Bool) (b : Option Addr) (len' cap' : Nat) (ys : List Int) (f : Int) (w : World) (h : IsW w a len cap xs) (hm : len ≤ 17592186044000) (h' : IsW w b len' cap' ys) (hm' : len' ≤ 17592186044000) (hT : Tab w) :
    Calls Tryz.prog 5 #[dyV s a len cap e, dyV t b len' cap' f] w fun r w' => ∃ v', r = .returned (.tuple #[v', .int .i64 (twE (rightB (val xs) e && rightB (val ys) f) (sumD (formD s (val xs) e) (formD t (val ys) f)))]) ∧ DyAt w.heap.size w' v' (twP (rightB (val xs) e && rightB (val ys) f) (sumD (formD s (val xs) e) (formD t (val ys) f))) ∧ Below w.heap.size w w' := by
  cases hr : (rightB (val xs) e && rightB (val ys) f) with
  | false =>
    refine (dadd_not s a len cap xs e t b len' cap' ys f w h (by omega) h' (by omega) hr).mono ?_
    rintro r w' ⟨rfl, hb⟩
    exact ⟨_, rfl, dyAt_zero _ _, hb⟩
  | true =>
    obtain ⟨r1, r2⟩ := Bool.and_eq_true_iff.1 hr
    exact dadd_yes s a len cap xs e t b len' cap' ys f w h (by omega) h' (by omega) hT r1 r2

set_option maxRecDepth 100000 in
set_option maxHeartbeats 2000000 in
theorem qsub_not (s : Bool) (a : Option Addr) (len cap : Nat) (xs : List Int) (e : Int) (t : Bool) (b : Option Addr) (len' cap' : Nat) (ys : List Int) (f : Int) (w : World) (h : IsW w a len cap xs) (hm : len ≤ 17592186044000) (h' : IsW w b len' cap' ys) (hm' : len' ≤ 17592186044000) (hr : (rightB (val xs) e && rightB (val ys) f) = false) :
    Calls Tryz.prog 9 #[dyV s a len cap e, dyV t b len' cap' f] w fun r w' => r = .returned (.tuple #[dyV false none 0 0 0, .int .i64 2]) ∧ Below w.heap.size w w' := by
  have bw0 : Below w.heap.size w (((w.alloc (.cells #[.bool s, .slice a len cap, .int .i64 e] 25)).alloc (.cells #[.bool t, .slice b len' cap', .int .i64 f] 25)).alloc (.cells #[.bool false, .slice none 0 0, .int .i64 0] 25)) := by repeat (first | exact Below.refl _ _ | refine bl_alloc ?_ _)
  have HB : Hid _ := qboth_calls s a len cap xs e t b len' cap' ys f _ (h.keep bw0) hm (h'.keep bw0) hm'
  rw [hr] at HB
  clear hr
  go_enter Tryz.func9, Tryz.ntmps9
  go_wp2_with fail
  refine Calls.mono HB.out ?_
  rintro r w1 ⟨rfl, b1⟩
  obtain ⟨m0, m1, m2, f0, f1, f2⟩ := zero_dy (w := ((w.alloc (.cells #[.bool s, .slice a len cap, .int .i64 e] 25)).alloc (.cells #[.bool t, .slice b len' cap', .int .i64 f] 25))) (r := w.heap.size + 1 + 1) (W' := w1) b1 (by simp)
  have bw := nbelow_trans bw0 b1
  clear b1
  go_wp2_with fail
  refine bodyPost_ret (v := .tuple #[dyV false none 0 0 0, .int .i64 2]) (by simp [results, Tryz.results9, go_sem, m0, m1, m2]) rfl ⟨rfl, ?_⟩
  exact ((bw.setCell (by show w.heap.size ≤ w.heap.size + 1 + 1; omega) _).setCell (by show w.heap.size ≤ w.heap.size + 1 + 1; omega) _).setCell (by show w.heap.size ≤ w.heap.size + 1 + 1; omega) _

set_option maxRecDepth 100000 in
set_option maxHeartbeats 2000000 in
theorem qsub_yes (s : Bool) (a : Option Addr) (len cap : Nat) (xs : List Int) (e : Int) (t : Bool) (b : Option Addr) (len' cap' : Nat) (ys : List Int) (f : Int) (w : World) (h : IsW w a len cap xs) (hm : len ≤ 17592186044000) (h' : IsW w b len' cap' ys) (hm' : len' ≤ 17592186044000) (hr : rightB (val xs) e = true) (hr' : rightB (val ys) f = true) :
    Calls Tryz.prog 9 #[dyV s a len cap e, dyV t b len' cap' f] w fun r w' => ∃ v', r = .returned (.tuple #[v', .int .i64 (roomE (sumD (formD s (val xs) e) (negD (formD t (val ys) f))))]) ∧ DyQ w.heap.size w' v' (roomP (sumD (formD s (val xs) e) (negD (formD t (val ys) f)))) ∧ Below w.heap.size w w' := by
  have bw0 : Below w.heap.size w (((w.alloc (.cells #[.bool s, .slice a len cap, .int .i64 e] 25)).alloc (.cells #[.bool t, .slice b len' cap', .int .i64 f] 25)).alloc (.cells #[.bool false, .slice none 0 0, .int .i64 0] 25)) := by repeat (first | exact Below.refl _ _ | refine bl_alloc ?_ _)
  have HB : Hid _ := qboth_calls s a len cap xs e t b len' cap' ys f _ (h.keep bw0) hm (h'.keep bw0) hm'
  rw [hr, hr'] at HB
  have HP : Hid _ := fun W g g' => qLess_calls s a len cap xs e t b len' cap' ys f W g hm g' hm' (by have := (rightB_yes hr).2; omega) (by have := (rightB_yes hr').2; omega) (by have := right_blen hr; omega) (by have := right_blen hr'; omega)
  rw [form_turn] at HP
  have HL : Hid _ := sumlen (formD s (val xs) e) (negD (formD t (val ys) f)) (by have := form_blen s hr; omega) (by have := form_blen t hr'; show blen (formD t (val ys) f).2.1 ≤ _; omega) (form_rng s hr) (form_rng t hr')
  generalize sumD (formD s (val xs) e) (negD (formD t (val ys) f)) = p at *
  have H1 : Hid (IsW w a len cap xs) := h
  have H2 : Hid (IsW w b len' cap' ys) := h'
  have k0 : (((w.alloc (.cells #[.bool s, .slice a len cap, .int .i64 e] 25)).alloc (.cells #[.bool t, .slice b len' cap', .int .i64 f] 25)).alloc (.cells #[.bool false, .slice none 0 0, .int .i64 0] 25)).cell? ⟨w.heap.size, 0, none⟩ = some (.bool s) := by go_simp
  have k1 : (((w.alloc (.cells #[.bool s, .slice a len cap, .int .i64 e] 25)).alloc (.cells #[.bool t, .slice b len' cap', .int .i64 f] 25)).alloc (.cells #[.bool false, .slice none 0 0, .int .i64 0] 25)).cell? ⟨w.heap.size, 1, none⟩ = some (.slice a len cap) := by go_simp
  have k2 : (((w.alloc (.cells #[.bool s, .slice a len cap, .int .i64 e] 25)).alloc (.cells #[.bool t, .slice b len' cap', .int .i64 f] 25)).alloc (.cells #[.bool false, .slice none 0 0, .int .i64 0] 25)).cell? ⟨w.heap.size, 2, none⟩ = some (.int .i64 e) := by go_simp
  have k3 : (((w.alloc (.cells #[.bool s, .slice a len cap, .int .i64 e] 25)).alloc (.cells #[.bool t, .slice b len' cap', .int .i64 f] 25)).alloc (.cells #[.bool false, .slice none 0 0, .int .i64 0] 25)).cell? ⟨w.heap.size + 1, 0, none⟩ = some (.bool t) := by go_simp
  have k4 : (((w.alloc (.cells #[.bool s, .slice a len cap, .int .i64 e] 25)).alloc (.cells #[.bool t, .slice b len' cap', .int .i64 f] 25)).alloc (.cells #[.bool false, .slice none 0 0, .int .i64 0] 25)).cell? ⟨w.heap.size + 1, 1, none⟩ = some (.slice b len' cap') := by go_simp
  have k5 : (((w.alloc (.cells #[.bool s, .slice a len cap, .int .i64 e] 25)).alloc (.cells #[.bool t, .slice b len' cap', .int .i64 f] 25)).alloc (.cells #[.bool false, .slice none 0 0, .int .i64 0] 25)).cell? ⟨w.heap.size + 1, 2, none⟩ = some (.int .i64 f) := by go_simp
  clear hr hr' h h' hm hm'
  go_enter Tryz.func9, Tryz.ntmps9
  go_wp2_with fail
  refine Calls.mono HB.out ?_
  rintro r w1 ⟨rfl, b1⟩
  replace k0 := dcarry_cell b1 k0
  replace k1 := dcarry_cell b1 k1
  replace k2 := dcarry_cell b1 k2
  replace k3 := dcarry_cell b1 k3
  replace k4 := dcarry_cell b1 k4
  replace k5 := dcarry_cell b1 k5
  have bw := nbelow_trans bw0 b1
  clear HB
  go_wp2_with fail
  refine Calls.mono (HP.out _ (H1.out.keep bw) (H2.out.keep bw)) ?_
  rintro r w2 ⟨v2, rfl, hQ2, b2⟩
  have bz := nbelow_trans b1 b2
  replace bw := nbelow_trans bw b2
  have hQ3 := hQ2.low b1.size
  clear b1 b2 HP k0 k1 k2 k3 k4 k5 hQ2
  go_wp2_with fail
  refine Calls.mono (qRoom_calls v2 p _ w2 hQ3 (by have := HL.out; omega)) ?_
  rintro r w3 ⟨_, rfl, ⟨a3, n3, c3, rfl, HN3, hO3⟩, b3⟩
  replace bz := nbelow_trans bz b3
  replace bw := nbelow_trans bw b3
  obtain ⟨m0, m1, m2, f0, f1, f2⟩ := zero_dy (w := ((w.alloc (.cells #[.bool s, .slice a len cap, .int .i64 e] 25)).alloc (.cells #[.bool t, .slice b len' cap', .int .i64 f] 25))) (r := w.heap.size + 1 + 1) (W' := w3) bz (by simp)
  clear b3 bz bw0 hQ3
  go_wp2_with fail
  refine bodyPost_ret (v := .tuple #[dyV (roomP p).1 a3 n3 c3 (roomP p).2.2, .int .i64 (roomE p)]) (by simp [results, Tryz.results9, go_sem, m0, m1, m2]) rfl ⟨_, rfl, ⟨a3, n3, c3, rfl, HN3, (((hO3.far _ _ (by show w.heap.size + 1 + 1 < _; simp)).far _ _ (by show w.heap.size + 1 + 1 < _; simp)).far _ _ (by show w.heap.size + 1 + 1 < _; simp)).low (by simp; omega)⟩, ?_⟩
  exact ((bw.setCell (by show w.heap.size ≤ w.heap.size + 1 + 1; omega) _).setCell (by show w.heap.size ≤ w.heap.size + 1 + 1; omega) _).setCell (by show w.heap.size ≤ w.heap.size + 1 + 1; omega) _
theorem qSub_calls (s : Bool) (a : Option Addr) (len cap : Nat) (xs : List Int) (e : Int) (t : Bool) (b : Option Addr) (len' cap' : Nat) (ys : List Int) (f : Int) (w : World) (h : IsW w a len cap xs) (hm : len ≤ 17592186044000) (h' : IsW w b len' cap' ys) (hm' : len' ≤ 17592186044000) :
    Calls Tryz.prog 9 #[dyV s a len cap e, dyV t b len' cap' f] w fun r w' => ∃ v', r = .returned (.tuple #[v', .int .i64 (twE (rightB (val xs) e && rightB (val ys) f) (sumD (formD s (val xs) e) (negD (formD t (val ys) f))))]) ∧ DyQ w.heap.size w' v' (twP (rightB (val xs) e && rightB (val ys) f) (sumD (formD s (val xs) e) (negD (formD t (val ys) f)))) ∧ Below w.heap.size w w' := by
  cases hr : (rightB (val xs) e && rightB (val ys) f) with
  | false =>
    refine (qsub_not s a len cap xs e t b len' cap' ys f w h hm h' hm' hr).mono ?_
    rintro r w' ⟨rfl, hb⟩
    exact ⟨_, rfl, dyQ_zero _ _, hb⟩
  | true =>
    obtain ⟨r1, r2⟩ := Bool.and_eq_true_iff.1 hr
    exact qsub_yes s a len cap xs e t b len' cap' ys f w h hm h' hm' r1 r2
theorem pSub_calls (s : Bool) (a : Option Addr) (len cap : Nat) (xs : List Int) (e : Int) (t : Bool) (b : Option Addr) (len' cap' : Nat) (ys : List Int) (f : Int) (w : World) (h : IsW w a len cap xs) (hm : len ≤ 17592186044000) (h' : IsW w b len' cap' ys) (hm' : len' ≤ 17592186044000) (hT : Tab w) :
    Calls Tryz.prog 8 #[dyV s a len cap e, dyV t b len' cap' f] w fun r w' => ∃ v', r = .returned (.tuple #[v', .int .i64 (twE (rightB (val xs) e && rightB (val ys) f) (sumD (formD s (val xs) e) (negD (formD t (val ys) f))))]) ∧ DyAt w.heap.size w' v' (twP (rightB (val xs) e && rightB (val ys) f) (sumD (formD s (val xs) e) (negD (formD t (val ys) f)))) ∧ Below w.heap.size w w' := by
  cases hr : (rightB (val xs) e && rightB (val ys) f) with
  | false =>
    refine (dsub_not s a len cap xs e t b len' cap' ys f w h (by omega) h' (by omega) hr).mono ?_
    rintro r w' ⟨rfl, hb⟩
    exact ⟨_, rfl, dyAt_zero _ _, hb⟩
  | true =>
    obtain ⟨r1, r2⟩ := Bool.and_eq_true_iff.1 hr
    exact dsub_yes s a len cap xs e t b len' cap' ys f w h (by omega) h' (by omega) hT r1 r2

theorem mul_len (x y : Bool × Nat × Int) (hx : blen x.2.1 ≤ 65536) (hy : blen y.2.1 ≤ 65536) : (wordsOf (mulD x y).2.1).length ≤ 2000001 := by
  have h1 : (wordsOf x.2.1).length ≤ 1024 := (words_len2 _ _).2 (by omega)
  have h2 : (wordsOf y.2.1).length ≤ 1024 := (words_len2 _ _).2 (by omega)
  have h3 := prod_words x.2.1 y.2.1
  have h4 : (wordsOf (mulD x y).2.1).length ≤ (wordsOf (x.2.1 * y.2.1)).length := words_len_mono (form_amount_le _ _ _)
  omega

set_option maxRecDepth 100000 in
set_option maxHeartbeats 2000000 in
theorem qmul_not (s : Bool) (a : Option Addr) (len cap : Nat) (xs : List Int) (e : Int) (t : Bool) (b : Option Addr) (len' cap' : Nat) (ys : List Int) (f : Int) (w : World) (h : IsW w a len cap xs) (hm : len ≤ 17592186044000) (h' : IsW w b len' cap' ys) (hm' : len' ≤ 17592186044000) (hr : (rightB (val xs) e && rightB (val ys) f) = false) :
    Calls Tryz.prog 11 #[dyV s a len cap e, dyV t b len' cap' f] w fun r w' => r = .returned (.tuple #[dyV false none 0 0 0, .int .i64 2]) ∧ Below w.heap.size w w' := by
  have bw0 : Below w.heap.size w (((w.alloc (.cells #[.bool s, .slice a len cap, .int .i64 e] 25)).alloc (.cells #[.bool t, .slice b len' cap', .int .i64 f] 25)).alloc (.cells #[.bool false, .slice none 0 0, .int .i64 0] 25)) := by repeat (first | exact Below.refl _ _ | refine bl_alloc ?_ _)
  have HB : Hid _ := qboth_calls s a len cap xs e t b len' cap' ys f _ (h.keep bw0) hm (h'.keep bw0) hm'
  rw [hr] at HB
  clear hr
  go_enter Tryz.func11, Tryz.ntmps11
  go_wp2_with fail
  refine Calls.mono HB.out ?_
  rintro r w1 ⟨rfl, b1⟩
  obtain ⟨m0, m1, m2, f0, f1, f2⟩ := zero_dy (w := ((w.alloc (.cells #[.bool s, .slice a len cap, .int .i64 e] 25)).alloc (.cells #[.bool t, .slice b len' cap', .int .i64 f] 25))) (r := w.heap.size + 1 + 1) (W' := w1) b1 (by simp)
  have bw := nbelow_trans bw0 b1
  clear b1
  go_wp2_with fail
  refine bodyPost_ret (v := .tuple #[dyV false none 0 0 0, .int .i64 2]) (by simp [results, Tryz.results11, go_sem, m0, m1, m2]) rfl ⟨rfl, ?_⟩
  exact ((bw.setCell (by show w.heap.size ≤ w.heap.size + 1 + 1; omega) _).setCell (by show w.heap.size ≤ w.heap.size + 1 + 1; omega) _).setCell (by show w.heap.size ≤ w.heap.size + 1 + 1; omega) _

set_option maxRecDepth 100000 in
set_option maxHeartbeats 2000000 in
theorem qmul_yes (s : Bool) (a : Option Addr) (len cap : Nat) (xs : List Int) (e : Int) (t : Bool) (b : Option Addr) (len' cap' : Nat) (ys : List Int) (f : Int) (w : World) (h : IsW w a len cap xs) (hm : len ≤ 17592186044000) (h' : IsW w b len' cap' ys) (hm' : len' ≤ 17592186044000) (hr : rightB (val xs) e = true) (hr' : rightB (val ys) f = true) :
    Calls Tryz.prog 11 #[dyV s a len cap e, dyV t b len' cap' f] w fun r w' => ∃ v', r = .returned (.tuple #[v', .int .i64 (roomE (mulD (formD s (val xs) e) (formD t (val ys) f)))]) ∧ DyQ w.heap.size w' v' (roomP (mulD (formD s (val xs) e) (formD t (val ys) f))) ∧ Below w.heap.size w w' := by
  have bw0 : Below w.heap.size w (((w.alloc (.cells #[.bool s, .slice a len cap, .int .i64 e] 25)).alloc (.cells #[.bool t, .slice b len' cap', .int .i64 f] 25)).alloc (.cells #[.bool false, .slice none 0 0, .int .i64 0] 25)) := by repeat (first | exact Below.refl _ _ | refine bl_alloc ?_ _)
  have HB : Hid _ := qboth_calls s a len cap xs e t b len' cap' ys f _ (h.keep bw0) hm (h'.keep bw0) hm'
  rw [hr, hr'] at HB
  have HP : Hid _ := fun W g g' => qTimes_calls s a len cap xs e t b len' cap' ys f W g hm g' hm' (by have := (rightB_yes hr).2; omega) (by have := (rightB_yes hr').2; omega) (by have := right_blen hr; omega) (by have := right_blen hr'; omega)
  have HL : Hid _ := mul_len (formD s (val xs) e) (formD t (val ys) f) (form_blen s hr) (form_blen t hr')
  generalize mulD (formD s (val xs) e) (formD t (val ys) f) = p at *
  have H1 : Hid (IsW w a len cap xs) := h
  have H2 : Hid (IsW w b len' cap' ys) := h'
  have k0 : (((w.alloc (.cells #[.bool s, .slice a len cap, .int .i64 e] 25)).alloc (.cells #[.bool t, .slice b len' cap', .int .i64 f] 25)).alloc (.cells #[.bool false, .slice none 0 0, .int .i64 0] 25)).cell? ⟨w.heap.size, 0, none⟩ = some (.bool s) := by go_simp
  have k1 : (((w.alloc (.cells #[.bool s, .slice a len cap, .int .i64 e] 25)).alloc (.cells #[.bool t, .slice b len' cap', .int .i64 f] 25)).alloc (.cells #[.bool false, .slice none 0 0, .int .i64 0] 25)).cell? ⟨w.heap.size, 1, none⟩ = some (.slice a len cap) := by go_simp
  have k2 : (((w.alloc (.cells #[.bool s, .slice a len cap, .int .i64 e] 25)).alloc (.cells #[.bool t, .slice b len' cap', .int .i64 f] 25)).alloc (.cells #[.bool false, .slice none 0 0, .int .i64 0] 25)).cell? ⟨w.heap.size, 2, none⟩ = some (.int .i64 e) := by go_simp
  have k3 : (((w.alloc (.cells #[.bool s, .slice a len cap, .int .i64 e] 25)).alloc (.cells #[.bool t, .slice b len' cap', .int .i64 f] 25)).alloc (.cells #[.bool false, .slice none 0 0, .int .i64 0] 25)).cell? ⟨w.heap.size + 1, 0, none⟩ = some (.bool t) := by go_simp
  have k4 : (((w.alloc (.cells #[.bool s, .slice a len cap, .int .i64 e] 25)).alloc (.cells #[.bool t, .slice b len' cap', .int .i64 f] 25)).alloc (.cells #[.bool false, .slice none 0 0, .int .i64 0] 25)).cell? ⟨w.heap.size + 1, 1, none⟩ = some (.slice b len' cap') := by go_simp
  have k5 : (((w.alloc (.cells #[.bool s, .slice a len cap, .int .i64 e] 25)).alloc (.cells #[.bool t, .slice b len' cap', .int .i64 f] 25)).alloc (.cells #[.bool false, .slice none 0 0, .int .i64 0] 25)).cell? ⟨w.heap.size + 1, 2, none⟩ = some (.int .i64 f) := by go_simp
  clear hr hr' h h' hm hm'
  go_enter Tryz.func11, Tryz.ntmps11
  go_wp2_with fail
  refine Calls.mono HB.out ?_
  rintro r w1 ⟨rfl, b1⟩
  replace k0 := dcarry_cell b1 k0
  replace k1 := dcarry_cell b1 k1
  replace k2 := dcarry_cell b1 k2
  replace k3 := dcarry_cell b1 k3
  replace k4 := dcarry_cell b1 k4
  replace k5 := dcarry_cell b1 k5
  have bw := nbelow_trans bw0 b1
  clear HB
  go_wp2_with fail
  refine Calls.mono (HP.out _ (H1.out.keep bw) (H2.out.keep bw)) ?_
  rintro r w2 ⟨v2, rfl, hQ2, b2⟩
  have bz := nbelow_trans b1 b2
  replace bw := nbelow_trans bw b2
  have hQ3 := hQ2.low b1.size
  clear b1 b2 HP k0 k1 k2 k3 k4 k5 hQ2
  go_wp2_with fail
  refine Calls.mono (qRoom_calls v2 p _ w2 hQ3 (by have := HL.out; omega)) ?_
  rintro r w3 ⟨_, rfl, ⟨a3, n3, c3, rfl, HN3, hO3⟩, b3⟩
  replace bz := nbelow_trans bz b3
  replace bw := nbelow_trans bw b3
  obtain ⟨m0, m1, m2, f0, f1, f2⟩ := zero_dy (w := ((w.alloc (.cells #[.bool s, .slice a len cap, .int .i64 e] 25)).alloc (.cells #[.bool t, .slice b len' cap', .int .i64 f] 25))) (r := w.heap.size + 1 + 1) (W' := w3) bz (by simp)
  clear b3 bz bw0 hQ3
  go_wp2_with fail
  refine bodyPost_ret (v := .tuple #[dyV (roomP p).1 a3 n3 c3 (roomP p).2.2, .int .i64 (roomE p)]) (by simp [results, Tryz.results11, go_sem, m0, m1, m2]) rfl ⟨_, rfl, ⟨a3, n3, c3, rfl, HN3, (((hO3.far _ _ (by show w.heap.size + 1 + 1 < _; simp)).far _ _ (by show w.heap.size + 1 + 1 < _; simp)).far _ _ (by show w.heap.size + 1 + 1 < _; simp)).low (by simp; omega)⟩, ?_⟩
  exact ((bw.setCell (by show w.heap.size ≤ w.heap.size + 1 + 1; omega) _).setCell (by show w.heap.size ≤ w.heap.size + 1 + 1; omega) _).setCell (by show w.heap.size ≤ w.heap.size + 1 + 1; omega) _
theorem qMul_calls (s : Bool) (a : Option Addr) (len cap : Nat) (xs : List Int) (e : Int) (t : Bool) (b : Option Addr) (len' cap' : Nat) (ys : List Int) (f : Int) (w : World) (h : IsW w a len cap xs) (hm : len ≤ 17592186044000) (h' : IsW w b len' cap' ys) (hm' : len' ≤ 17592186044000) :
    Calls Tryz.prog 11 #[dyV s a len cap e, dyV t b len' cap' f] w fun r w' => ∃ v', r = .returned (.tuple #[v', .int .i64 (twE (rightB (val xs) e && rightB (val ys) f) (mulD (formD s (val xs) e) (formD t (val ys) f)))]) ∧ DyQ w.heap.size w' v' (twP (rightB (val xs) e && rightB (val ys) f) (mulD (formD s (val xs) e) (formD t (val ys) f))) ∧ Below w.heap.size w w' := by
  cases hr : (rightB (val xs) e && rightB (val ys) f) with
  | false =>
    refine (qmul_not s a len cap xs e t b len' cap' ys f w h hm h' hm' hr).mono ?_
    rintro r w' ⟨rfl, hb⟩
    exact ⟨_, rfl, dyQ_zero _ _, hb⟩
  | true =>
    obtain ⟨r1, r2⟩ := Bool.and_eq_true_iff.1 hr
    exact qmul_yes s a len cap xs e t b len' cap' ys f w h hm h' hm' r1 r2
theorem pMul_calls (s : Bool) (a : Option Addr) (len cap : Nat) (xs : List Int) (e : Int) (t : Bool) (b : Option Addr) (len' cap' : Nat) (ys : List Int) (f : Int) (w : World) (h : IsW w a len cap xs) (hm : len ≤ 17592186044000) (h' : IsW w b len' cap' ys) (hm' : len' ≤ 17592186044000) (hT : Tab w) :
    Calls Tryz.prog 10 #[dyV s a len cap e, dyV t b len' cap' f] w fun r w' => ∃ v', r = .returned (.tuple #[v', .int .i64 (twE (rightB (val xs) e && rightB (val ys) f) (mulD (formD s (val xs) e) (formD t (val ys) f)))]) ∧ DyAt w.heap.size w' v' (twP (rightB (val xs) e && rightB (val ys) f) (mulD (formD s (val xs) e) (formD t (val ys) f))) ∧ Below w.heap.size w w' := by
  cases hr : (rightB (val xs) e && rightB (val ys) f) with
  | false =>
    refine (dmul_not s a len cap xs e t b len' cap' ys f w h (by omega) h' (by omega) hr).mono ?_
    rintro r w' ⟨rfl, hb⟩
    exact ⟨_, rfl, dyAt_zero _ _, hb⟩
  | true =>
    obtain ⟨r1, r2⟩ := Bool.and_eq_true_iff.1 hr
    exact dmul_yes s a len cap xs e t b len' cap' ys f w h (by omega) h' (by omega) hT r1 r2

end

section
open Go.RowKit

set_option maxRecDepth 100000 in
set_option maxHeartbeats 4000000 in
theorem dyadSums_walk (s : Bool) (a : Option Addr) (len cap : Nat) (xs : List Int) (e : Int) (t : Bool) (b : Option Addr) (len' cap' : Nat) (ys : List Int) (f : Int) (w : World) (h : IsW w a len cap xs) (hm : len ≤ 17592186044000) (_he : -9223372036854775808 ≤ e ∧ e ≤ 9223372036854775807) (h' : IsW w b len' cap' ys) (hm' : len' ≤ 17592186044000) (_hf : -9223372036854775808 ≤ f ∧ f ≤ 9223372036854775807) (hT : Tab w) :
    Calls Tryz.prog 3 #[dyV s a len cap e, dyV t b len' cap' f] w fun r w' => r = .returned (.bool true) ∧ Below w.heap.size w w' := by
  have hT0 : Hid (∀ w', Below w.heap.size w w' → Tab w') := fun w' hb => hT.kept hb
  have HPAdd : Hid _ := fun W g g' q => pAdd_calls s a len cap xs e t b len' cap' ys f W g hm g' hm' q
  have HQAdd : Hid _ := fun W g g' => qAdd_calls s a len cap xs e t b len' cap' ys f W g hm g' hm'
  have HPSub : Hid _ := fun W g g' q => pSub_calls s a len cap xs e t b len' cap' ys f W g hm g' hm' q
  have HQSub : Hid _ := fun W g g' => qSub_calls s a len cap xs e t b len' cap' ys f W g hm g' hm'
  have HPMul : Hid _ := fun W g g' q => pMul_calls s a len cap xs e t b len' cap' ys f W g hm g' hm' q
  have HQMul : Hid _ := fun W g g' => qMul_calls s a len cap xs e t b len' cap' ys f W g hm g' hm'
  generalize twE (rightB (val xs) e && rightB (val ys) f) (sumD (formD s (val xs) e) (formD t (val ys) f)) = eAdd at *
  generalize twP (rightB (val xs) e && rightB (val ys) f) (sumD (formD s (val xs) e) (formD t (val ys) f)) = pAdd at *
  have HSAdd : Hid _ := fun a1 n1 c1 a2 n2 c2 w' g q1 g2 q2 => qSame_calls pAdd.1 a1 n1 c1 (wordsOf pAdd.2.1) pAdd.2.2 pAdd.1 a2 n2 c2 (wordsOf pAdd.2.1) pAdd.2.2 w' g q1 g2 q2
  rw [sameB_self] at HSAdd
  generalize twE (rightB (val xs) e && rightB (val ys) f) (sumD (formD s (val xs) e) (negD (formD t (val ys) f))) = eSub at *
  generalize twP (rightB (val xs) e && rightB (val ys) f) (sumD (formD s (val xs) e) (negD (formD t (val ys) f))) = pSub at *
  have HSSub : Hid _ := fun a1 n1 c1 a2 n2 c2 w' g q1 g2 q2 => qSame_calls pSub.1 a1 n1 c1 (wordsOf pSub.2.1) pSub.2.2 pSub.1 a2 n2 c2 (wordsOf pSub.2.1) pSub.2.2 w' g q1 g2 q2
  rw [sameB_self] at HSSub
  generalize twE (rightB (val xs) e && rightB (val ys) f) (mulD (formD s (val xs) e) (formD t (val ys) f)) = eMul at *
  generalize twP (rightB (val xs) e && rightB (val ys) f) (mulD (formD s (val xs) e) (formD t (val ys) f)) = pMul at *
  have HSMul : Hid _ := fun a1 n1 c1 a2 n2 c2 w' g q1 g2 q2 => qSame_calls pMul.1 a1 n1 c1 (wordsOf pMul.2.1) pMul.2.2 pMul.1 a2 n2 c2 (wordsOf pMul.2.1) pMul.2.2 w' g q1 g2 q2
  rw [sameB_self] at HSMul
  have H1 : Hid (IsW w a len cap xs) := h
  have H2 : Hid (IsW w b len' cap' ys) := h'
  clear h h' hm hm' hT
  have bw : Below w.heap.size w ((w.alloc (.cells #[.bool s, .slice a len cap, .int .i64 e] 25)).alloc (.cells #[.bool t, .slice b len' cap', .int .i64 f] 25)) := by repeat (first | exact Below.refl _ _ | refine bl_alloc ?_ _)
  have k0 : ((w.alloc (.cells #[.bool s, .slice a len cap, .int .i64 e] 25)).alloc (.cells #[.bool t, .slice b len' cap', .int .i64 f] 25)).cell? ⟨w.heap.size, 0, none⟩ = some (.bool s) := by go_simp
  have k1 : ((w.alloc (.cells #[.bool s, .slice a len cap, .int .i64 e] 25)).alloc (.cells #[.bool t, .slice b len' cap', .int .i64 f] 25)).cell? ⟨w.heap.size, 1, none⟩ = some (.slice a len cap) := by go_simp
  have k2 : ((w.alloc (.cells #[.bool s, .slice a len cap, .int .i64 e] 25)).alloc (.cells #[.bool t, .slice b len' cap', .int .i64 f] 25)).cell? ⟨w.heap.size, 2, none⟩ = some (.int .i64 e) := by go_simp
  have k3 : ((w.alloc (.cells #[.bool s, .slice a len cap, .int .i64 e] 25)).alloc (.cells #[.bool t, .slice b len' cap', .int .i64 f] 25)).cell? ⟨w.heap.size + 1, 0, none⟩ = some (.bool t) := by go_simp
  have k4 : ((w.alloc (.cells #[.bool s, .slice a len cap, .int .i64 e] 25)).alloc (.cells #[.bool t, .slice b len' cap', .int .i64 f] 25)).cell? ⟨w.heap.size + 1, 1, none⟩ = some (.slice b len' cap') := by go_simp
  have k5 : ((w.alloc (.cells #[.bool s, .slice a len cap, .int .i64 e] 25)).alloc (.cells #[.bool t, .slice b len' cap', .int .i64 f] 25)).cell? ⟨w.heap.size + 1, 2, none⟩ = some (.int .i64 f) := by go_simp
  go_enter Tryz.func3, Tryz.ntmps3
  go_wp2_with fail
  generalize ((w.alloc (.cells #[.bool s, .slice a len cap, .int .i64 e] 25)).alloc (.cells #[.bool t, .slice b len' cap', .int .i64 f] 25)) = w0 at *
  refine Calls.mono (HPAdd.out _ (H1.out.keep bw) (H2.out.keep bw) (hT0.out _ bw)) ?_
  rintro r wv1 ⟨_, rfl, ⟨a1, n1, c1, rfl, HN1, hn1, hO1⟩, bN⟩
  replace k0 := dcarry_cell bN k0
  replace k1 := dcarry_cell bN k1
  replace k2 := dcarry_cell bN k2
  replace k3 := dcarry_cell bN k3
  replace k4 := dcarry_cell bN k4
  replace k5 := dcarry_cell bN k5
  replace hO1 := hO1.low (Nat.zero_le _)
  replace bw := nbelow_trans bw bN
  clear bN
  have bA := below_one wv1 (.cells #[.bool pAdd.1, .slice a1 n1 c1, .int .i64 pAdd.2.2] 25)
  have XL : w.heap.size ≤ wv1.heap.size := bw.size
  have Xk0 : w.heap.size ≠ wv1.heap.size := Nat.ne_of_lt (World.block_lt_of_cell? _ _ k0)
  have Xk1 : w.heap.size + 1 ≠ wv1.heap.size := Nat.ne_of_lt (World.block_lt_of_cell? _ _ k3)
  replace k0 := dcarry_cell bA k0
  replace k1 := dcarry_cell bA k1
  replace k2 := dcarry_cell bA k2
  replace k3 := dcarry_cell bA k3
  replace k4 := dcarry_cell bA k4
  replace k5 := dcarry_cell bA k5
  replace hO1 := hO1.keep bA
  have X0 : (wv1.alloc (.cells #[.bool pAdd.1, .slice a1 n1 c1, .int .i64 pAdd.2.2] 25)).cell? ⟨wv1.heap.size, 0, none⟩ = some (.bool pAdd.1) := by go_simp
  have X1 : (wv1.alloc (.cells #[.bool pAdd.1, .slice a1 n1 c1, .int .i64 pAdd.2.2] 25)).cell? ⟨wv1.heap.size, 1, none⟩ = some (.slice a1 n1 c1) := by go_simp
  have X2 : (wv1.alloc (.cells #[.bool pAdd.1, .slice a1 n1 c1, .int .i64 pAdd.2.2] 25)).cell? ⟨wv1.heap.size, 2, none⟩ = some (.int .i64 pAdd.2.2) := by go_simp
  have XF0 : (wv1.alloc (.cells #[.bool pAdd.1, .slice a1 n1 c1, .int .i64 pAdd.2.2] 25)).frozen? ⟨wv1.heap.size, 0, none⟩ = false := by go_simp
  have XF1 : (wv1.alloc (.cells #[.bool pAdd.1, .slice a1 n1 c1, .int .i64 pAdd.2.2] 25)).frozen? ⟨wv1.heap.size, 1, none⟩ = false := by go_simp
  have XF2 : (wv1.alloc (.cells #[.bool pAdd.1, .slice a1 n1 c1, .int .i64 pAdd.2.2] 25)).frozen? ⟨wv1.heap.size, 2, none⟩ = false := by go_simp
  replace bw := nbelow_trans bw bA
  clear bA
  go_wp2_with fail
  generalize wv1.alloc (.cells #[.bool pAdd.1, .slice a1 n1 c1, .int .i64 pAdd.2.2] 25) = wn1 at *
  refine Calls.mono (HQAdd.out _ (H1.out.keep bw) (H2.out.keep bw)) ?_
  rintro r wv2 ⟨_, rfl, ⟨a2, n2, c2, rfl, HN2, hO2⟩, bN⟩
  replace k0 := dcarry_cell bN k0
  replace k1 := dcarry_cell bN k1
  replace k2 := dcarry_cell bN k2
  replace k3 := dcarry_cell bN k3
  replace k4 := dcarry_cell bN k4
  replace k5 := dcarry_cell bN k5
  replace XF0 := dcarry_frozen bN X0 XF0
  replace XF1 := dcarry_frozen bN X1 XF1
  replace XF2 := dcarry_frozen bN X2 XF2
  replace X0 := dcarry_cell bN X0
  replace X1 := dcarry_cell bN X1
  replace X2 := dcarry_cell bN X2
  replace hO1 := hO1.keep bN
  replace hO2 := hO2.low (Nat.zero_le _)
  replace bw := nbelow_trans bw bN
  clear bN
  have bA := below_one wv2 (.cells #[.bool pAdd.1, .slice a2 n2 c2, .int .i64 pAdd.2.2] 25)
  have YL : w.heap.size ≤ wv2.heap.size := bw.size
  have Yk0 : w.heap.size ≠ wv2.heap.size := Nat.ne_of_lt (World.block_lt_of_cell? _ _ k0)
  have Yk1 : w.heap.size + 1 ≠ wv2.heap.size := Nat.ne_of_lt (World.block_lt_of_cell? _ _ k3)
  have XYn : wv1.heap.size ≠ wv2.heap.size := Nat.ne_of_lt (World.block_lt_of_cell? _ _ X0)
  have YXn := Ne.symm XYn
  replace k0 := dcarry_cell bA k0
  replace k1 := dcarry_cell bA k1
  replace k2 := dcarry_cell bA k2
  replace k3 := dcarry_cell bA k3
  replace k4 := dcarry_cell bA k4
  replace k5 := dcarry_cell bA k5
  replace XF0 := dcarry_frozen bA X0 XF0
  replace XF1 := dcarry_frozen bA X1 XF1
  replace XF2 := dcarry_frozen bA X2 XF2
  replace X0 := dcarry_cell bA X0
  replace X1 := dcarry_cell bA X1
  replace X2 := dcarry_cell bA X2
  replace hO1 := hO1.keep bA
  replace hO2 := hO2.keep bA
  have Y0 : (wv2.alloc (.cells #[.bool pAdd.1, .slice a2 n2 c2, .int .i64 pAdd.2.2] 25)).cell? ⟨wv2.heap.size, 0, none⟩ = some (.bool pAdd.1) := by go_simp
  have Y1 : (wv2.alloc (.cells #[.bool pAdd.1, .slice a2 n2 c2, .int .i64 pAdd.2.2] 25)).cell? ⟨wv2.heap.size, 1, none⟩ = some (.slice a2 n2 c2) := by go_simp
  have Y2 : (wv2.alloc (.cells #[.bool pAdd.1, .slice a2 n2 c2, .int .i64 pAdd.2.2] 25)).cell? ⟨wv2.heap.size, 2, none⟩ = some (.int .i64 pAdd.2.2) := by go_simp
  have YF0 : (wv2.alloc (.cells #[.bool pAdd.1, .slice a2 n2 c2, .int .i64 pAdd.2.2] 25)).frozen? ⟨wv2.heap.size, 0, none⟩ = false := by go_simp
  have YF1 : (wv2.alloc (.cells #[.bool pAdd.1, .slice a2 n2 c2, .int .i64 pAdd.2.2] 25)).frozen? ⟨wv2.heap.size, 1, none⟩ = false := by go_simp
  have YF2 : (wv2.alloc (.cells #[.bool pAdd.1, .slice a2 n2 c2, .int .i64 pAdd.2.2] 25)).frozen? ⟨wv2.heap.size, 2, none⟩ = false := by go_simp
  replace bw := nbelow_trans bw bA
  clear bA
  go_wp2_with fail
  generalize wv2.alloc (.cells #[.bool pAdd.1, .slice a2 n2 c2, .int .i64 pAdd.2.2] 25) = wn2 at *
  have hm3 : n2 ≤ 1024 := by have := HN1.out; have := HN2.out; omega
  refine Calls.mono (HSAdd.out _ _ _ _ _ _ _ hO1.1 (by omega) hO2.1 (by omega)) ?_
  rintro r ws3 ⟨rfl, bN⟩
  clear hO1 hO2 HN1 HN2 hm3 hn1
  replace k0 := dcarry_cell bN k0
  replace k1 := dcarry_cell bN k1
  replace k2 := dcarry_cell bN k2
  replace k3 := dcarry_cell bN k3
  replace k4 := dcarry_cell bN k4
  replace k5 := dcarry_cell bN k5
  replace XF0 := dcarry_frozen bN X0 XF0
  replace XF1 := dcarry_frozen bN X1 XF1
  replace XF2 := dcarry_frozen bN X2 XF2
  replace X0 := dcarry_cell bN X0
  replace X1 := dcarry_cell bN X1
  replace X2 := dcarry_cell bN X2
  replace YF0 := dcarry_frozen bN Y0 YF0
  replace YF1 := dcarry_frozen bN Y1 YF1
  replace YF2 := dcarry_frozen bN Y2 YF2
  replace Y0 := dcarry_cell bN Y0
  replace Y1 := dcarry_cell bN Y1
  replace Y2 := dcarry_cell bN Y2
  replace bw := nbelow_trans bw bN
  clear bN
  go_wp2_with fail
  refine Calls.mono (HPSub.out _ (H1.out.keep bw) (H2.out.keep bw) (hT0.out _ bw)) ?_
  rintro r wv4 ⟨_, rfl, ⟨a4, n4, c4, rfl, HN4, hn4, hO4⟩, bN⟩
  replace k0 := dcarry_cell bN k0
  replace k1 := dcarry_cell bN k1
  replace k2 := dcarry_cell bN k2
  replace k3 := dcarry_cell bN k3
  replace k4 := dcarry_cell bN k4
  replace k5 := dcarry_cell bN k5
  replace XF0 := dcarry_frozen bN X0 XF0
  replace XF1 := dcarry_frozen bN X1 XF1
  replace XF2 := dcarry_frozen bN X2 XF2
  replace X0 := dcarry_cell bN X0
  replace X1 := dcarry_cell bN X1
  replace X2 := dcarry_cell bN X2
  replace YF0 := dcarry_frozen bN Y0 YF0
  replace YF1 := dcarry_frozen bN Y1 YF1
  replace YF2 := dcarry_frozen bN Y2 YF2
  replace Y0 := dcarry_cell bN Y0
  replace Y1 := dcarry_cell bN Y1
  replace Y2 := dcarry_cell bN Y2
  replace hO4 := hO4.low (Nat.zero_le _)
  replace bw := nbelow_trans bw bN
  clear bN
  go_wp2_with fail
  replace bw : Below w.heap.size w (((wv4.setCell ⟨wv1.heap.size, 0, none⟩ (.bool pSub.1)).setCell ⟨wv1.heap.size, 1, none⟩ (.slice a4 n4 c4)).setCell ⟨wv1.heap.size, 2, none⟩ (.int .i64 pSub.2.2)) := ((bw.setCell XL _).setCell XL _).setCell XL _
  replace k0 := set3_cell (r := wv1.heap.size) (v0 := .bool pSub.1) (v1 := .slice a4 n4 c4) (v2 := .int .i64 pSub.2.2) k0 Xk0
  replace k1 := set3_cell (r := wv1.heap.size) (v0 := .bool pSub.1) (v1 := .slice a4 n4 c4) (v2 := .int .i64 pSub.2.2) k1 Xk0
  replace k2 := set3_cell (r := wv1.heap.size) (v0 := .bool pSub.1) (v1 := .slice a4 n4 c4) (v2 := .int .i64 pSub.2.2) k2 Xk0
  replace k3 := set3_cell (r := wv1.heap.size) (v0 := .bool pSub.1) (v1 := .slice a4 n4 c4) (v2 := .int .i64 pSub.2.2) k3 Xk1
  replace k4 := set3_cell (r := wv1.heap.size) (v0 := .bool pSub.1) (v1 := .slice a4 n4 c4) (v2 := .int .i64 pSub.2.2) k4 Xk1
  replace k5 := set3_cell (r := wv1.heap.size) (v0 := .bool pSub.1) (v1 := .slice a4 n4 c4) (v2 := .int .i64 pSub.2.2) k5 Xk1
  replace Y0 := set3_cell (r := wv1.heap.size) (v0 := .bool pSub.1) (v1 := .slice a4 n4 c4) (v2 := .int .i64 pSub.2.2) Y0 YXn
  replace Y1 := set3_cell (r := wv1.heap.size) (v0 := .bool pSub.1) (v1 := .slice a4 n4 c4) (v2 := .int .i64 pSub.2.2) Y1 YXn
  replace Y2 := set3_cell (r := wv1.heap.size) (v0 := .bool pSub.1) (v1 := .slice a4 n4 c4) (v2 := .int .i64 pSub.2.2) Y2 YXn
  replace YF0 := set3_frozen (r := wv1.heap.size) (v0 := .bool pSub.1) (v1 := .slice a4 n4 c4) (v2 := .int .i64 pSub.2.2) YF0
  replace YF1 := set3_frozen (r := wv1.heap.size) (v0 := .bool pSub.1) (v1 := .slice a4 n4 c4) (v2 := .int .i64 pSub.2.2) YF1
  replace YF2 := set3_frozen (r := wv1.heap.size) (v0 := .bool pSub.1) (v1 := .slice a4 n4 c4) (v2 := .int .i64 pSub.2.2) YF2
  replace hO4 := hO4.set_dy _ _ _ _ _ _ (.bool pSub.1) (.slice a4 n4 c4) (.int .i64 pSub.2.2) X0 X1 X2
  replace XF0 := set3_frozen (r := wv1.heap.size) (v0 := .bool pSub.1) (v1 := .slice a4 n4 c4) (v2 := .int .i64 pSub.2.2) XF0
  replace XF1 := set3_frozen (r := wv1.heap.size) (v0 := .bool pSub.1) (v1 := .slice a4 n4 c4) (v2 := .int .i64 pSub.2.2) XF1
  replace XF2 := set3_frozen (r := wv1.heap.size) (v0 := .bool pSub.1) (v1 := .slice a4 n4 c4) (v2 := .int .i64 pSub.2.2) XF2
  obtain ⟨Z0, Z1, Z2⟩ := set3_same (r := wv1.heap.size) (v0 := .bool pSub.1) (v1 := .slice a4 n4 c4) (v2 := .int .i64 pSub.2.2) X0 X1 X2
  clear X0 X1 X2
  generalize (((wv4.setCell ⟨wv1.heap.size, 0, none⟩ (.bool pSub.1)).setCell ⟨wv1.heap.size, 1, none⟩ (.slice a4 n4 c4)).setCell ⟨wv1.heap.size, 2, none⟩ (.int .i64 pSub.2.2)) = wn4 at *
  have X0 := Z0
  have X1 := Z1
  have X2 := Z2
  clear Z0 Z1 Z2
  refine Calls.mono (HQSub.out _ (H1.out.keep bw) (H2.out.keep bw)) ?_
  rintro r wv5 ⟨_, rfl, ⟨a5, n5, c5, rfl, HN5, hO5⟩, bN⟩
  replace k0 := dcarry_cell bN k0
  replace k1 := dcarry_cell bN k1
  replace k2 := dcarry_cell bN k2
  replace k3 := dcarry_cell bN k3
  replace k4 := dcarry_cell bN k4
  replace k5 := dcarry_cell bN k5
  replace XF0 := dcarry_frozen bN X0 XF0
  replace XF1 := dcarry_frozen bN X1 XF1
  replace XF2 := dcarry_frozen bN X2 XF2
  replace X0 := dcarry_cell bN X0
  replace X1 := dcarry_cell bN X1
  replace X2 := dcarry_cell bN X2
  replace YF0 := dcarry_frozen bN Y0 YF0
  replace YF1 := dcarry_frozen bN Y1 YF1
  replace YF2 := dcarry_frozen bN Y2 YF2
  replace Y0 := dcarry_cell bN Y0
  replace Y1 := dcarry_cell bN Y1
  replace Y2 := dcarry_cell bN Y2
  replace hO4 := hO4.keep bN
  replace hO5 := hO5.low (Nat.zero_le _)
  replace bw := nbelow_trans bw bN
  clear bN
  go_wp2_with fail
  replace bw : Below w.heap.size w (((wv5.setCell ⟨wv2.heap.size, 0, none⟩ (.bool pSub.1)).setCell ⟨wv2.heap.size, 1, none⟩ (.slice a5 n5 c5)).setCell ⟨wv2.heap.size, 2, none⟩ (.int .i64 pSub.2.2)) := ((bw.setCell YL _).setCell YL _).setCell YL _
  replace k0 := set3_cell (r := wv2.heap.size) (v0 := .bool pSub.1) (v1 := .slice a5 n5 c5) (v2 := .int .i64 pSub.2.2) k0 Yk0
  replace k1 := set3_cell (r := wv2.heap.size) (v0 := .bool pSub.1) (v1 := .slice a5 n5 c5) (v2 := .int .i64 pSub.2.2) k1 Yk0
  replace k2 := set3_cell (r := wv2.heap.size) (v0 := .bool pSub.1) (v1 := .slice a5 n5 c5) (v2 := .int .i64 pSub.2.2) k2 Yk0
  replace k3 := set3_cell (r := wv2.heap.size) (v0 := .bool pSub.1) (v1 := .slice a5 n5 c5) (v2 := .int .i64 pSub.2.2) k3 Yk1
  replace k4 := set3_cell (r := wv2.heap.size) (v0 := .bool pSub.1) (v1 := .slice a5 n5 c5) (v2 := .int .i64 pSub.2.2) k4 Yk1
  replace k5 := set3_cell (r := wv2.heap.size) (v0 := .bool pSub.1) (v1 := .slice a5 n5 c5) (v2 := .int .i64 pSub.2.2) k5 Yk1
  replace X0 := set3_cell (r := wv2.heap.size) (v0 := .bool pSub.1) (v1 := .slice a5 n5 c5) (v2 := .int .i64 pSub.2.2) X0 XYn
  replace X1 := set3_cell (r := wv2.heap.size) (v0 := .bool pSub.1) (v1 := .slice a5 n5 c5) (v2 := .int .i64 pSub.2.2) X1 XYn
  replace X2 := set3_cell (r := wv2.heap.size) (v0 := .bool pSub.1) (v1 := .slice a5 n5 c5) (v2 := .int .i64 pSub.2.2) X2 XYn
  replace XF0 := set3_frozen (r := wv2.heap.size) (v0 := .bool pSub.1) (v1 := .slice a5 n5 c5) (v2 := .int .i64 pSub.2.2) XF0
  replace XF1 := set3_frozen (r := wv2.heap.size) (v0 := .bool pSub.1) (v1 := .slice a5 n5 c5) (v2 := .int .i64 pSub.2.2) XF1
  replace XF2 := set3_frozen (r := wv2.heap.size) (v0 := .bool pSub.1) (v1 := .slice a5 n5 c5) (v2 := .int .i64 pSub.2.2) XF2
  replace hO4 := hO4.set_dy _ _ _ _ _ _ (.bool pSub.1) (.slice a5 n5 c5) (.int .i64 pSub.2.2) Y0 Y1 Y2
  replace hO5 := hO5.set_dy _ _ _ _ _ _ (.bool pSub.1) (.slice a5 n5 c5) (.int .i64 pSub.2.2) Y0 Y1 Y2
  replace YF0 := set3_frozen (r := wv2.heap.size) (v0 := .bool pSub.1) (v1 := .slice a5 n5 c5) (v2 := .int .i64 pSub.2.2) YF0
  replace YF1 := set3_frozen (r := wv2.heap.size) (v0 := .bool pSub.1) (v1 := .slice a5 n5 c5) (v2 := .int .i64 pSub.2.2) YF1
  replace YF2 := set3_frozen (r := wv2.heap.size) (v0 := .bool pSub.1) (v1 := .slice a5 n5 c5) (v2 := .int .i64 pSub.2.2) YF2
  obtain ⟨Z0, Z1, Z2⟩ := set3_same (r := wv2.heap.size) (v0 := .bool pSub.1) (v1 := .slice a5 n5 c5) (v2 := .int .i64 pSub.2.2) Y0 Y1 Y2
  clear Y0 Y1 Y2
  generalize (((wv5.setCell ⟨wv2.heap.size, 0, none⟩ (.bool pSub.1)).setCell ⟨wv2.heap.size, 1, none⟩ (.slice a5 n5 c5)).setCell ⟨wv2.heap.size, 2, none⟩ (.int .i64 pSub.2.2)) = wn5 at *
  have Y0 := Z0
  have Y1 := Z1
  have Y2 := Z2
  clear Z0 Z1 Z2
  have hm6 : n5 ≤ 1024 := by have := HN4.out; have := HN5.out; omega
  refine Calls.mono (HSSub.out _ _ _ _ _ _ _ hO4.1 (by omega) hO5.1 (by omega)) ?_
  rintro r ws6 ⟨rfl, bN⟩
  clear hO4 hO5 HN4 HN5 hm6 hn4
  replace k0 := dcarry_cell bN k0
  replace k1 := dcarry_cell bN k1
  replace k2 := dcarry_cell bN k2
  replace k3 := dcarry_cell bN k3
  replace k4 := dcarry_cell bN k4
  replace k5 := dcarry_cell bN k5
  replace XF0 := dcarry_frozen bN X0 XF0
  replace XF1 := dcarry_frozen bN X1 XF1
  replace XF2 := dcarry_frozen bN X2 XF2
  replace X0 := dcarry_cell bN X0
  replace X1 := dcarry_cell bN X1
  replace X2 := dcarry_cell bN X2
  replace YF0 := dcarry_frozen bN Y0 YF0
  replace YF1 := dcarry_frozen bN Y1 YF1
  replace YF2 := dcarry_frozen bN Y2 YF2
  replace Y0 := dcarry_cell bN Y0
  replace Y1 := dcarry_cell bN Y1
  replace Y2 := dcarry_cell bN Y2
  replace bw := nbelow_trans bw bN
  clear bN
  go_wp2_with fail
  refine Calls.mono (HPMul.out _ (H1.out.keep bw) (H2.out.keep bw) (hT0.out _ bw)) ?_
  rintro r wv7 ⟨_, rfl, ⟨a7, n7, c7, rfl, HN7, hn7, hO7⟩, bN⟩
  replace k0 := dcarry_cell bN k0
  replace k1 := dcarry_cell bN k1
  replace k2 := dcarry_cell bN k2
  replace k3 := dcarry_cell bN k3
  replace k4 := dcarry_cell bN k4
  replace k5 := dcarry_cell bN k5
  replace XF0 := dcarry_frozen bN X0 XF0
  replace XF1 := dcarry_frozen bN X1 XF1
  replace XF2 := dcarry_frozen bN X2 XF2
  replace X0 := dcarry_cell bN X0
  replace X1 := dcarry_cell bN X1
  replace X2 := dcarry_cell bN X2
  replace YF0 := dcarry_frozen bN Y0 YF0
  replace YF1 := dcarry_frozen bN Y1 YF1
  replace YF2 := dcarry_frozen bN Y2 YF2
  replace Y0 := dcarry_cell bN Y0
  replace Y1 := dcarry_cell bN Y1
  replace Y2 := dcarry_cell bN Y2
  replace hO7 := hO7.low (Nat.zero_le _)
  replace bw := nbelow_trans bw bN
  clear bN
  go_wp2_with fail
  replace bw : Below w.heap.size w (((wv7.setCell ⟨wv1.heap.size, 0, none⟩ (.bool pMul.1)).setCell ⟨wv1.heap.size, 1, none⟩ (.slice a7 n7 c7)).setCell ⟨wv1.heap.size, 2, none⟩ (.int .i64 pMul.2.2)) := ((bw.setCell XL _).setCell XL _).setCell XL _
  replace k0 := set3_cell (r := wv1.heap.size) (v0 := .bool pMul.1) (v1 := .slice a7 n7 c7) (v2 := .int .i64 pMul.2.2) k0 Xk0
  replace k1 := set3_cell (r := wv1.heap.size) (v0 := .bool pMul.1) (v1 := .slice a7 n7 c7) (v2 := .int .i64 pMul.2.2) k1 Xk0
  replace k2 := set3_cell (r := wv1.heap.size) (v0 := .bool pMul.1) (v1 := .slice a7 n7 c7) (v2 := .int .i64 pMul.2.2) k2 Xk0
  replace k3 := set3_cell (r := wv1.heap.size) (v0 := .bool pMul.1) (v1 := .slice a7 n7 c7) (v2 := .int .i64 pMul.2.2) k3 Xk1
  replace k4 := set3_cell (r := wv1.heap.size) (v0 := .bool pMul.1) (v1 := .slice a7 n7 c7) (v2 := .int .i64 pMul.2.2) k4 Xk1
  replace k5 := set3_cell (r := wv1.heap.size) (v0 := .bool pMul.1) (v1 := .slice a7 n7 c7) (v2 := .int .i64 pMul.2.2) k5 Xk1
  replace Y0 := set3_cell (r := wv1.heap.size) (v0 := .bool pMul.1) (v1 := .slice a7 n7 c7) (v2 := .int .i64 pMul.2.2) Y0 YXn
  replace Y1 := set3_cell (r := wv1.heap.size) (v0 := .bool pMul.1) (v1 := .slice a7 n7 c7) (v2 := .int .i64 pMul.2.2) Y1 YXn
  replace Y2 := set3_cell (r := wv1.heap.size) (v0 := .bool pMul.1) (v1 := .slice a7 n7 c7) (v2 := .int .i64 pMul.2.2) Y2 YXn
  replace YF0 := set3_frozen (r := wv1.heap.size) (v0 := .bool pMul.1) (v1 := .slice a7 n7 c7) (v2 := .int .i64 pMul.2.2) YF0
  replace YF1 := set3_frozen (r := wv1.heap.size) (v0 := .bool pMul.1) (v1 := .slice a7 n7 c7) (v2 := .int .i64 pMul.2.2) YF1
  replace YF2 := set3_frozen (r := wv1.heap.size) (v0 := .bool pMul.1) (v1 := .slice a7 n7 c7) (v2 := .int .i64 pMul.2.2) YF2
  replace hO7 := hO7.set_dy _ _ _ _ _ _ (.bool pMul.1) (.slice a7 n7 c7) (.int .i64 pMul.2.2) X0 X1 X2
  replace XF0 := set3_frozen (r := wv1.heap.size) (v0 := .bool pMul.1) (v1 := .slice a7 n7 c7) (v2 := .int .i64 pMul.2.2) XF0
  replace XF1 := set3_frozen (r := wv1.heap.size) (v0 := .bool pMul.1) (v1 := .slice a7 n7 c7) (v2 := .int .i64 pMul.2.2) XF1
  replace XF2 := set3_frozen (r := wv1.heap.size) (v0 := .bool pMul.1) (v1 := .slice a7 n7 c7) (v2 := .int .i64 pMul.2.2) XF2
  obtain ⟨Z0, Z1, Z2⟩ := set3_same (r := wv1.heap.size) (v0 := .bool pMul.1) (v1 := .slice a7 n7 c7) (v2 := .int .i64 pMul.2.2) X0 X1 X2
  clear X0 X1 X2
  generalize (((wv7.setCell ⟨wv1.heap.size, 0, none⟩ (.bool pMul.1)).setCell ⟨wv1.heap.size, 1, none⟩ (.slice a7 n7 c7)).setCell ⟨wv1.heap.size, 2, none⟩ (.int .i64 pMul.2.2)) = wn7 at *
  have X0 := Z0
  have X1 := Z1
  have X2 := Z2
  clear Z0 Z1 Z2
  refine Calls.mono (HQMul.out _ (H1.out.keep bw) (H2.out.keep bw)) ?_
  rintro r wv8 ⟨_, rfl, ⟨a8, n8, c8, rfl, HN8, hO8⟩, bN⟩
  replace k0 := dcarry_cell bN k0
  replace k1 := dcarry_cell bN k1
  replace k2 := dcarry_cell bN k2
  replace k3 := dcarry_cell bN k3
  replace k4 := dcarry_cell bN k4
  replace k5 := dcarry_cell bN k5
  replace XF0 := dcarry_frozen bN X0 XF0
  replace XF1 := dcarry_frozen bN X1 XF1
  replace XF2 := dcarry_frozen bN X2 XF2
  replace X0 := dcarry_cell bN X0
  replace X1 := dcarry_cell bN X1
  replace X2 := dcarry_cell bN X2
  replace YF0 := dcarry_frozen bN Y0 YF0
  replace YF1 := dcarry_frozen bN Y1 YF1
  replace YF2 := dcarry_frozen bN Y2 YF2
  replace Y0 := dcarry_cell bN Y0
  replace Y1 := dcarry_cell bN Y1
  replace Y2 := dcarry_cell bN Y2
  replace hO7 := hO7.keep bN
  replace hO8 := hO8.low (Nat.zero_le _)
  replace bw := nbelow_trans bw bN
  clear bN
  go_wp2_with fail
  replace bw : Below w.heap.size w (((wv8.setCell ⟨wv2.heap.size, 0, none⟩ (.bool pMul.1)).setCell ⟨wv2.heap.size, 1, none⟩ (.slice a8 n8 c8)).setCell ⟨wv2.heap.size, 2, none⟩ (.int .i64 pMul.2.2)) := ((bw.setCell YL _).setCell YL _).setCell YL _
  replace k0 := set3_cell (r := wv2.heap.size) (v0 := .bool pMul.1) (v1 := .slice a8 n8 c8) (v2 := .int .i64 pMul.2.2) k0 Yk0
  replace k1 := set3_cell (r := wv2.heap.size) (v0 := .bool pMul.1) (v1 := .slice a8 n8 c8) (v2 := .int .i64 pMul.2.2) k1 Yk0
  replace k2 := set3_cell (r := wv2.heap.size) (v0 := .bool pMul.1) (v1 := .slice a8 n8 c8) (v2 := .int .i64 pMul.2.2) k2 Yk0
  replace k3 := set3_cell (r := wv2.heap.size) (v0 := .bool pMul.1) (v1 := .slice a8 n8 c8) (v2 := .int .i64 pMul.2.2) k3 Yk1
  replace k4 := set3_cell (r := wv2.heap.size) (v0 := .bool pMul.1) (v1 := .slice a8 n8 c8) (v2 := .int .i64 pMul.2.2) k4 Yk1
  replace k5 := set3_cell (r := wv2.heap.size) (v0 := .bool pMul.1) (v1 := .slice a8 n8 c8) (v2 := .int .i64 pMul.2.2) k5 Yk1
  replace X0 := set3_cell (r := wv2.heap.size) (v0 := .bool pMul.1) (v1 := .slice a8 n8 c8) (v2 := .int .i64 pMul.2.2) X0 XYn
  replace X1 := set3_cell (r := wv2.heap.size) (v0 := .bool pMul.1) (v1 := .slice a8 n8 c8) (v2 := .int .i64 pMul.2.2) X1 XYn
  replace X2 := set3_cell (r := wv2.heap.size) (v0 := .bool pMul.1) (v1 := .slice a8 n8 c8) (v2 := .int .i64 pMul.2.2) X2 XYn
  replace XF0 := set3_frozen (r := wv2.heap.size) (v0 := .bool pMul.1) (v1 := .slice a8 n8 c8) (v2 := .int .i64 pMul.2.2) XF0
  replace XF1 := set3_frozen (r := wv2.heap.size) (v0 := .bool pMul.1) (v1 := .slice a8 n8 c8) (v2 := .int .i64 pMul.2.2) XF1
  replace XF2 := set3_frozen (r := wv2.heap.size) (v0 := .bool pMul.1) (v1 := .slice a8 n8 c8) (v2 := .int .i64 pMul.2.2) XF2
  replace hO7 := hO7.set_dy _ _ _ _ _ _ (.bool pMul.1) (.slice a8 n8 c8) (.int .i64 pMul.2.2) Y0 Y1 Y2
  replace hO8 := hO8.set_dy _ _ _ _ _ _ (.bool pMul.1) (.slice a8 n8 c8) (.int .i64 pMul.2.2) Y0 Y1 Y2
  replace YF0 := set3_frozen (r := wv2.heap.size) (v0 := .bool pMul.1) (v1 := .slice a8 n8 c8) (v2 := .int .i64 pMul.2.2) YF0
  replace YF1 := set3_frozen (r := wv2.heap.size) (v0 := .bool pMul.1) (v1 := .slice a8 n8 c8) (v2 := .int .i64 pMul.2.2) YF1
  replace YF2 := set3_frozen (r := wv2.heap.size) (v0 := .bool pMul.1) (v1 := .slice a8 n8 c8) (v2 := .int .i64 pMul.2.2) YF2
  obtain ⟨Z0, Z1, Z2⟩ := set3_same (r := wv2.heap.size) (v0 := .bool pMul.1) (v1 := .slice a8 n8 c8) (v2 := .int .i64 pMul.2.2) Y0 Y1 Y2
  clear Y0 Y1 Y2
  generalize (((wv8.setCell ⟨wv2.heap.size, 0, none⟩ (.bool pMul.1)).setCell ⟨wv2.heap.size, 1, none⟩ (.slice a8 n8 c8)).setCell ⟨wv2.heap.size, 2, none⟩ (.int .i64 pMul.2.2)) = wn8 at *
  have Y0 := Z0
  have Y1 := Z1
  have Y2 := Z2
  clear Z0 Z1 Z2
  have hm9 : n8 ≤ 1024 := by have := HN7.out; have := HN8.out; omega
  refine Calls.mono (HSMul.out _ _ _ _ _ _ _ hO7.1 (by omega) hO8.1 (by omega)) ?_
  rintro r ws9 ⟨rfl, bN⟩
  clear hO7 hO8 HN7 HN8 hm9 hn7
  replace k0 := dcarry_cell bN k0
  replace k1 := dcarry_cell bN k1
  replace k2 := dcarry_cell bN k2
  replace k3 := dcarry_cell bN k3
  replace k4 := dcarry_cell bN k4
  replace k5 := dcarry_cell bN k5
  replace XF0 := dcarry_frozen bN X0 XF0
  replace XF1 := dcarry_frozen bN X1 XF1
  replace XF2 := dcarry_frozen bN X2 XF2
  replace X0 := dcarry_cell bN X0
  replace X1 := dcarry_cell bN X1
  replace X2 := dcarry_cell bN X2
  replace YF0 := dcarry_frozen bN Y0 YF0
  replace YF1 := dcarry_frozen bN Y1 YF1
  replace YF2 := dcarry_frozen bN Y2 YF2
  replace Y0 := dcarry_cell bN Y0
  replace Y1 := dcarry_cell bN Y1
  replace Y2 := dcarry_cell bN Y2
  replace bw := nbelow_trans bw bN
  clear bN
  clear X0 X1 X2 Y0 Y1 Y2 XF0 XF1 XF2 YF0 YF1 YF2 k0 k1 k2 k3 k4 k5
  go_wp2_with fail
  refine Calls.mono (dyBegins_calls _ (hT0.out _ bw)) ?_
  rintro r wz ⟨rfl, bN⟩
  replace bw := nbelow_trans bw bN
  clear bN
  go_wp2_with fail
  go_ret
  exact ⟨rfl, bw⟩

end

end Go.Proofs.YtkliedihnpjoiaaGreatDoor

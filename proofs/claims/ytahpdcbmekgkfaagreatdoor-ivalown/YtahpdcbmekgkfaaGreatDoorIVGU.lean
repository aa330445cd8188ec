/- Package ival: the number that lies farthest up. -/
import Derived.Test.YtahpdcbmekgkfaaGreatDoorCR2
import Derived.Test.YtahpdcbmekgkfaaGreatDoorCR
import Derived.Test.YtahpdcbmekgkfaaGreatDoorAL
import Derived.Test.YtahpdcbmekgkfaaGreatDoorIVG
import Derived.Test.YtahpdcbmekgkfaaGreatDoorFX
namespace Go.Proofs.YtahpdcbmekgkfaaGreatDoor
open Go.RowKit
set_option maxHeartbeats 8000000
set_option maxRecDepth 100000
attribute [local go_sem ↓] Go.wp_at_zero Go.wp_at_succ
theorem uppOut1_calls (x d0 : DT) (B : Nat) (w : World) (hx : okT w x) (hd0 : okT w d0) (e00 : w.cell? ⟨B, 0, none⟩ = some (.bool d0.1)) (e01 : w.cell? ⟨B, 1, none⟩ = some (.slice d0.2.1 d0.2.2.1 d0.2.2.2.1)) (e02 : w.cell? ⟨B, 2, none⟩ = some (.int .i64 d0.2.2.2.2.2)) (hT : Tab w) :
  Calls Tryz.prog 85 #[.agg #[.func (.func 120) #[] #[], .func (.func 121) #[] #[]], dT x, .slice (some ⟨B, 0, none⟩) 1 1] w fun r w' => r = .returned (dT (pkT false x d0)) ∧ Below w.heap.size w w' := by
 have bA : Below w.heap.size w ((((w.alloc (.cells #[.func (.func 120) #[] #[], .func (.func 121) #[] #[]] 78)).alloc (.cells #[.bool x.1, .slice x.2.1 x.2.2.1 x.2.2.2.1, .int .i64 x.2.2.2.2.2] 25)).alloc (.cells #[.bool false, .slice none 0 0, .int .i64 0] 25)).alloc (.cells #[.bool x.1, .slice x.2.1 x.2.2.1 x.2.2.2.1, .int .i64 x.2.2.2.2.2] 25)) := nT (nT (nT (below_one _ _) (below_one _ _)) (below_one _ _)) (below_one _ _)
 have HA : Hid _ := fun w' (m d : DT) (q : okT w' d) (q' : okT w' m) tt => iagainst_calls d.1 d.2.1 d.2.2.1 d.2.2.2.1 d.2.2.2.2.1 d.2.2.2.2.2 m.1 m.2.1 m.2.2.1 m.2.2.2.1 m.2.2.2.2.1 m.2.2.2.2.2 w' q.1 q.2.1 q.2.2.1 q'.1 q'.2.1 q'.2.2.1 q.2.2.2 q'.2.2.2 tt
 have HF : Hid _ := fun k w' => uppFar_calls k w'
 obtain ⟨c0, z0, f0, m0, g0, z1, f1, m1, g1, z2, f2, m2, g2⟩ := fX15 w x _ rfl
 have hs0 : w.heap.size + 1 + 1 + 1 < ((((w.alloc (.cells #[.func (.func 120) #[] #[], .func (.func 121) #[] #[]] 78)).alloc (.cells #[.bool x.1, .slice x.2.1 x.2.2.1 x.2.2.2.1, .int .i64 x.2.2.2.2.2] 25)).alloc (.cells #[.bool false, .slice none 0 0, .int .i64 0] 25)).alloc (.cells #[.bool x.1, .slice x.2.1 x.2.2.1 x.2.2.2.1, .int .i64 x.2.2.2.2.2] 25)).heap.size := by simp
 go_enter Tryz.func85, Tryz.ntmps85
 go_wp2_with fail
 generalize ((((w.alloc (.cells #[.func (.func 120) #[] #[], .func (.func 121) #[] #[]] 78)).alloc (.cells #[.bool x.1, .slice x.2.1 x.2.2.1 x.2.2.2.1, .int .i64 x.2.2.2.2.2] 25)).alloc (.cells #[.bool false, .slice none 0 0, .int .i64 0] 25)).alloc (.cells #[.bool x.1, .slice x.2.1 x.2.2.1 x.2.2.2.1, .int .i64 x.2.2.2.2.2] 25)) = w0 at *
 go_loopw [13] (fun vi wr => ∃ (k : Nat) (m : DT), k ≤ 1 ∧ vi = .int .i64 (k : Int) ∧ Below w.heap.size w wr ∧ Hid (w.heap.size + 1 + 1 + 1 < wr.heap.size) ∧ Hid (okT w m) ∧ Hid (k = 0 → m = x) ∧ Hid (k = 1 → m = (pkT false x d0)) ∧ wr.cell? ⟨w.heap.size, 0, none⟩ = some (.func (.func 120) #[] #[]) ∧ wr.cell? ⟨w.heap.size + 1 + 1, 0, none⟩ = some (.bool false) ∧ wr.frozen? ⟨w.heap.size + 1 + 1, 0, none⟩ = false ∧ wr.cell? ⟨w.heap.size + 1 + 1 + 1, 0, none⟩ = some (.bool m.1) ∧ wr.frozen? ⟨w.heap.size + 1 + 1 + 1, 0, none⟩ = false ∧ wr.cell? ⟨w.heap.size + 1 + 1, 1, none⟩ = some (.slice none 0 0) ∧ wr.frozen? ⟨w.heap.size + 1 + 1, 1, none⟩ = false ∧ wr.cell? ⟨w.heap.size + 1 + 1 + 1, 1, none⟩ = some (.slice m.2.1 m.2.2.1 m.2.2.2.1) ∧ wr.frozen? ⟨w.heap.size + 1 + 1 + 1, 1, none⟩ = false ∧ wr.cell? ⟨w.heap.size + 1 + 1, 2, none⟩ = some (.int .i64 0) ∧ wr.frozen? ⟨w.heap.size + 1 + 1, 2, none⟩ = false ∧ wr.cell? ⟨w.heap.size + 1 + 1 + 1, 2, none⟩ = some (.int .i64 m.2.2.2.2.2) ∧ wr.frozen? ⟨w.heap.size + 1 + 1 + 1, 2, none⟩ = false) (fun vi _ => 1 - (intOf vi).toNat)
 case atStart => exact ⟨0, x, by omega, rfl, bA, hs0, hx, fun _ => rfl, fun q => absurd q (by omega), c0, z0, f0, m0, g0, z1, f1, m1, g1, z2, f2, m2, g2⟩
 case round =>
  clear c0 hs0 z0 f0 m0 g0 z1 f1 m1 g1 z2 f2 m2 g2 bA
  obtain ⟨k, m, hk, rfl, bw, hs, hm, K0, K1, c0, z0, f0, m0, g0, z1, f1, m1, g1, z2, f2, m2, g2⟩ := hrel
  rcases (show k = 0 ∨ k = 1 by omega) with q | q
  ·subst q
   have k0 := kC bw e00
   have k1 := kC bw e01
   have k2 := kC bw e02
   clear K1
   have tt := hT.kept bw
   have jd := okT.keep hd0 bw
   have jm := okT.keep hm.out bw
   have bB := below_one wr (.cells #[.bool d0.1, .slice d0.2.1 d0.2.2.1 d0.2.2.2.1, .int .i64 d0.2.2.2.2.2] 25)
   obtain ⟨y0, y1, y2⟩ := fX7 wr d0 _ rfl
   revert z0 f0 m0 g0 z1 f1 m1 g1 z2 f2 m2 g2; refine zf6 bB ?_; intro z0 f0 m0 g0 z1 f1 m1 g1 z2 f2 m2 g2
   replace c0 := kC bB c0
   replace tt := tt.kept bB
   replace jd := okT.keep jd bB
   replace jm := okT.keep jm bB
   replace bw := nT bw bB
   replace hs := Nat.lt_of_lt_of_le hs bB.size
   clear bB
   go_upto_region 5 with fail
   clear k0 k1 k2
   generalize (wr.alloc (.cells #[.bool d0.1, .slice d0.2.1 d0.2.2.1 d0.2.2.2.1, .int .i64 d0.2.2.2.2.2] 25)) = w2 at *
   have R : Below w2.heap.size w2 (World.drew w2) := (Below.refl _ _).drew
   refine wp_region_held (S := fun w' => Below w2.heap.size w2 w') (by kernel_rfl) ?_
   change wpAnyH _ _ _ _ _ _ _ _ (World.drew w2)
   generalize World.drew w2 = wd at R ⊢
   refine tk 0 (.pointer (some ⟨w.heap.size, 0, none⟩)) rfl (by kernel_rfl) (fun _ _ _ h => h) (by rfl) ?y01 R ?r01
   case y01 => (intro ww hS; clear hS; go_simp; try with_reducible rfl)
   try simp only [Act.put, sA]
   refine tk 1 (.func (.func 120) #[] #[]) rfl (by kernel_rfl) (fun _ _ _ h => h) (by rfl) ?y02 R ?r02
   case y02 => (intro ww hS; have qc0 := kC hS c0; clear hS; go_simp; try with_reducible rfl)
   try simp only [Act.put]
   refine tk 2 (dT d0) rfl (by kernel_rfl) (fun _ _ _ h => h) (by rfl) ?y03 R ?r03
   case y03 => (intro ww hS; have qy0 := kC hS y0; have qy1 := kC hS y1; have qy2 := kC hS y2; clear hS; go_simp; try with_reducible rfl)
   try simp only [Act.put]
   refine tk 3 (dT m) rfl (by kernel_rfl) (fun _ _ _ h => h) (by rfl) ?y04 R ?r04
   case y04 => (intro ww hS; have qm0 := kC hS m0; have qm1 := kC hS m1; have qm2 := kC hS m2; clear hS; go_simp; try with_reducible rfl)
   try simp only [Act.put]
   refine rd1 4 (by kernel_rfl) rfl fun K hK => ?_
   go_simp
   refine cM (HA.out _ m d0 (okT.keep jd R) (okT.keep jm R) (tt.kept R)) ?_
   rintro r wa ⟨rfl, bN⟩
   replace R := nT R bN
   clear bN
   refine hK.out _ _ R (fun _ => ?_)
   clear hK K
   try simp only [Act.put, sA, sZ, sS]
   refine rd1 5 (by kernel_rfl) rfl fun K hK => ?_
   go_simp
   refine cM (HF.out _ _) ?_
   rintro r _ ⟨rfl, rfl⟩
   refine hK.out _ _ R (fun _ => ?_)
   clear hK K
   try simp only [Act.put, sA, sZ, sS]
   refine wpAnyH_done (by kernel_rfl) ?_ _
   revert z0 f0 m0 g0 z1 f1 m1 g1 z2 f2 m2 g2; refine zf6 R ?_; intro z0 f0 m0 g0 z1 f1 m1 g1 z2 f2 m2 g2
   revert y0 y1 y2; refine cc3 R ?_; intro y0 y1 y2
   replace c0 := kC R c0
   replace tt := tt.kept R
   replace jd := okT.keep jd R
   replace jm := okT.keep jm R
   replace bw := nT bw R
   replace hs := Nat.lt_of_lt_of_le hs R.size
   clear R
   have e1 : Hid (m = x) := K0.out rfl
   clear K0
   by_cases q : 0 < cmpD (tT d0) (tT m)
   ·have q1 : 0 < cmpD (formD d0.1 (val d0.2.2.2.2.1) d0.2.2.2.2.2) (formD m.1 (val m.2.2.2.2.1) m.2.2.2.2.2) := q
    have e2 : Hid ((pkT false x d0) = d0) := by rw [Hid, ← e1.out]; unfold pkT; rw [if_pos (by first | exact Or.inl ⟨rfl, q⟩ | exact Or.inr ⟨rfl, q⟩)]
    clear q
    go_wp2_with fail
    have hl := hs
    obtain ⟨x0, x1, x2⟩ := set3_sameI (v0 := .bool d0.1) (v1 := .slice d0.2.1 d0.2.2.1 d0.2.2.2.1) (v2 := .int .i64 d0.2.2.2.2.2) m0 m1 m2
    refine ⟨⟨1, d0, by omega, by first | rfl | go_num, ((bw.setCell (le3 _) _).setCell (le3 _) _).setCell (le3 _) _, by simpa [Hid] using hl, hd0, fun q => absurd q (by omega), fun _ => e2.out.symm, set3_otherI c0 (by omega) _ _ _, set3_otherI z0 (by omega) _ _ _, set3_frozenI f0 _ _ _, x0, set3_frozenI g0 _ _ _, set3_otherI z1 (by omega) _ _ _, set3_frozenI f1 _ _ _, x1, set3_frozenI g1 _ _ _, set3_otherI z2 (by omega) _ _ _, set3_frozenI f2 _ _ _, x2, set3_frozenI g2 _ _ _⟩, by simp [intOf]⟩
   ·have q1 : ¬ (0 < cmpD (formD d0.1 (val d0.2.2.2.2.1) d0.2.2.2.2.2) (formD m.1 (val m.2.2.2.2.1) m.2.2.2.2.2)) := q
    have q2 : cmpD (formD d0.1 (val d0.2.2.2.2.1) d0.2.2.2.2.2) (formD m.1 (val m.2.2.2.2.1) m.2.2.2.2.2) ≤ 0 := by have := q1; omega
    have e2 : Hid ((pkT false x d0) = m) := by rw [Hid, ← e1.out]; unfold pkT; rw [if_neg (fun z => z.elim (fun y => by first | exact q y.2 | exact absurd y.1 (by decide)) (fun y => by first | exact q y.2 | exact absurd y.1 (by decide)))]
    clear q
    go_wp2_with fail
    exact ⟨⟨1, m, by omega, by first | rfl | go_num, bw, hs, hm, fun q => absurd q (by omega), fun _ => e2.out.symm, c0, z0, f0, m0, g0, z1, f1, m1, g1, z2, f2, m2, g2⟩, by simp [intOf]⟩
  ·subst q
   have e1 : Hid (m = (pkT false x d0)) := K1.out rfl
   have jm := hm
   have hl := hs
   clear K0 K1
   go_wp2_with fail
   refine bodyPost_ret (v := dT m) (by simp [results, Tryz.results85, go_sem, z0, z1, z2]) rfl ⟨by rw [e1.out], ?_⟩
   exact ((bw.setCell (le2 _) _).setCell (le2 _) _).setCell (le2 _) _
theorem uppOut3_calls (x d0 d1 d2 : DT) (B : Nat) (w : World) (hx : okT w x) (hd0 : okT w d0) (hd1 : okT w d1) (hd2 : okT w d2) (e00 : w.cell? ⟨B, 0, none⟩ = some (.bool d0.1)) (e01 : w.cell? ⟨B, 1, none⟩ = some (.slice d0.2.1 d0.2.2.1 d0.2.2.2.1)) (e02 : w.cell? ⟨B, 2, none⟩ = some (.int .i64 d0.2.2.2.2.2)) (e10 : w.cell? ⟨B, 3, none⟩ = some (.bool d1.1)) (e11 : w.cell? ⟨B, 4, none⟩ = some (.slice d1.2.1 d1.2.2.1 d1.2.2.2.1)) (e12 : w.cell? ⟨B, 5, none⟩ = some (.int .i64 d1.2.2.2.2.2)) (e20 : w.cell? ⟨B, 6, none⟩ = some (.bool d2.1)) (e21 : w.cell? ⟨B, 7, none⟩ = some (.slice d2.2.1 d2.2.2.1 d2.2.2.2.1)) (e22 : w.cell? ⟨B, 8, none⟩ = some (.int .i64 d2.2.2.2.2.2)) (hT : Tab w) :
  Calls Tryz.prog 85 #[.agg #[.func (.func 120) #[] #[], .func (.func 121) #[] #[]], dT x, .slice (some ⟨B, 0, none⟩) 3 3] w fun r w' => r = .returned (dT (pkT false (pkT false (pkT false x d0) d1) d2)) ∧ Below w.heap.size w w' := by
 have bA : Below w.heap.size w ((((w.alloc (.cells #[.func (.func 120) #[] #[], .func (.func 121) #[] #[]] 78)).alloc (.cells #[.bool x.1, .slice x.2.1 x.2.2.1 x.2.2.2.1, .int .i64 x.2.2.2.2.2] 25)).alloc (.cells #[.bool false, .slice none 0 0, .int .i64 0] 25)).alloc (.cells #[.bool x.1, .slice x.2.1 x.2.2.1 x.2.2.2.1, .int .i64 x.2.2.2.2.2] 25)) := nT (nT (nT (below_one _ _) (below_one _ _)) (below_one _ _)) (below_one _ _)
 have HA : Hid _ := fun w' (m d : DT) (q : okT w' d) (q' : okT w' m) tt => iagainst_calls d.1 d.2.1 d.2.2.1 d.2.2.2.1 d.2.2.2.2.1 d.2.2.2.2.2 m.1 m.2.1 m.2.2.1 m.2.2.2.1 m.2.2.2.2.1 m.2.2.2.2.2 w' q.1 q.2.1 q.2.2.1 q'.1 q'.2.1 q'.2.2.1 q.2.2.2 q'.2.2.2 tt
 have HF : Hid _ := fun k w' => uppFar_calls k w'
 obtain ⟨c0, z0, f0, m0, g0, z1, f1, m1, g1, z2, f2, m2, g2⟩ := fX15 w x _ rfl
 have hs0 : w.heap.size + 1 + 1 + 1 < ((((w.alloc (.cells #[.func (.func 120) #[] #[], .func (.func 121) #[] #[]] 78)).alloc (.cells #[.bool x.1, .slice x.2.1 x.2.2.1 x.2.2.2.1, .int .i64 x.2.2.2.2.2] 25)).alloc (.cells #[.bool false, .slice none 0 0, .int .i64 0] 25)).alloc (.cells #[.bool x.1, .slice x.2.1 x.2.2.1 x.2.2.2.1, .int .i64 x.2.2.2.2.2] 25)).heap.size := by simp
 go_enter Tryz.func85, Tryz.ntmps85
 go_wp2_with fail
 generalize ((((w.alloc (.cells #[.func (.func 120) #[] #[], .func (.func 121) #[] #[]] 78)).alloc (.cells #[.bool x.1, .slice x.2.1 x.2.2.1 x.2.2.2.1, .int .i64 x.2.2.2.2.2] 25)).alloc (.cells #[.bool false, .slice none 0 0, .int .i64 0] 25)).alloc (.cells #[.bool x.1, .slice x.2.1 x.2.2.1 x.2.2.2.1, .int .i64 x.2.2.2.2.2] 25)) = w0 at *
 go_loopw [13] (fun vi wr => ∃ (k : Nat) (m : DT), k ≤ 3 ∧ vi = .int .i64 (k : Int) ∧ Below w.heap.size w wr ∧ Hid (w.heap.size + 1 + 1 + 1 < wr.heap.size) ∧ Hid (okT w m) ∧ Hid (k = 0 → m = x) ∧ Hid (k = 1 → m = (pkT false x d0)) ∧ Hid (k = 2 → m = (pkT false (pkT false x d0) d1)) ∧ Hid (k = 3 → m = (pkT false (pkT false (pkT false x d0) d1) d2)) ∧ wr.cell? ⟨w.heap.size, 0, none⟩ = some (.func (.func 120) #[] #[]) ∧ wr.cell? ⟨w.heap.size + 1 + 1, 0, none⟩ = some (.bool false) ∧ wr.frozen? ⟨w.heap.size + 1 + 1, 0, none⟩ = false ∧ wr.cell? ⟨w.heap.size + 1 + 1 + 1, 0, none⟩ = some (.bool m.1) ∧ wr.frozen? ⟨w.heap.size + 1 + 1 + 1, 0, none⟩ = false ∧ wr.cell? ⟨w.heap.size + 1 + 1, 1, none⟩ = some (.slice none 0 0) ∧ wr.frozen? ⟨w.heap.size + 1 + 1, 1, none⟩ = false ∧ wr.cell? ⟨w.heap.size + 1 + 1 + 1, 1, none⟩ = some (.slice m.2.1 m.2.2.1 m.2.2.2.1) ∧ wr.frozen? ⟨w.heap.size + 1 + 1 + 1, 1, none⟩ = false ∧ wr.cell? ⟨w.heap.size + 1 + 1, 2, none⟩ = some (.int .i64 0) ∧ wr.frozen? ⟨w.heap.size + 1 + 1, 2, none⟩ = false ∧ wr.cell? ⟨w.heap.size + 1 + 1 + 1, 2, none⟩ = some (.int .i64 m.2.2.2.2.2) ∧ wr.frozen? ⟨w.heap.size + 1 + 1 + 1, 2, none⟩ = false) (fun vi _ => 3 - (intOf vi).toNat)
 case atStart => exact ⟨0, x, by omega, rfl, bA, hs0, hx, fun _ => rfl, fun q => absurd q (by omega), fun q => absurd q (by omega), fun q => absurd q (by omega), c0, z0, f0, m0, g0, z1, f1, m1, g1, z2, f2, m2, g2⟩
 case round =>
  clear c0 hs0 z0 f0 m0 g0 z1 f1 m1 g1 z2 f2 m2 g2 bA
  obtain ⟨k, m, hk, rfl, bw, hs, hm, K0, K1, K2, K3, c0, z0, f0, m0, g0, z1, f1, m1, g1, z2, f2, m2, g2⟩ := hrel
  rcases (show k = 0 ∨ k = 1 ∨ k = 2 ∨ k = 3 by omega) with q | q | q | q
  ·subst q
   have k0 := kC bw e00
   have k1 := kC bw e01
   have k2 := kC bw e02
   clear K1
   clear K2
   clear K3
   have tt := hT.kept bw
   have jd := okT.keep hd0 bw
   have jm := okT.keep hm.out bw
   have bB := below_one wr (.cells #[.bool d0.1, .slice d0.2.1 d0.2.2.1 d0.2.2.2.1, .int .i64 d0.2.2.2.2.2] 25)
   obtain ⟨y0, y1, y2⟩ := fX7 wr d0 _ rfl
   revert z0 f0 m0 g0 z1 f1 m1 g1 z2 f2 m2 g2; refine zf6 bB ?_; intro z0 f0 m0 g0 z1 f1 m1 g1 z2 f2 m2 g2
   replace c0 := kC bB c0
   replace tt := tt.kept bB
   replace jd := okT.keep jd bB
   replace jm := okT.keep jm bB
   replace bw := nT bw bB
   replace hs := Nat.lt_of_lt_of_le hs bB.size
   clear bB
   go_upto_region 5 with fail
   clear k0 k1 k2
   generalize (wr.alloc (.cells #[.bool d0.1, .slice d0.2.1 d0.2.2.1 d0.2.2.2.1, .int .i64 d0.2.2.2.2.2] 25)) = w2 at *
   have R : Below w2.heap.size w2 (World.drew w2) := (Below.refl _ _).drew
   refine wp_region_held (S := fun w' => Below w2.heap.size w2 w') (by kernel_rfl) ?_
   change wpAnyH _ _ _ _ _ _ _ _ (World.drew w2)
   generalize World.drew w2 = wd at R ⊢
   refine tk 0 (.pointer (some ⟨w.heap.size, 0, none⟩)) rfl (by kernel_rfl) (fun _ _ _ h => h) (by rfl) ?y01 R ?r01
   case y01 => (intro ww hS; clear hS; go_simp; try with_reducible rfl)
   try simp only [Act.put, sA]
   refine tk 1 (.func (.func 120) #[] #[]) rfl (by kernel_rfl) (fun _ _ _ h => h) (by rfl) ?y02 R ?r02
   case y02 => (intro ww hS; have qc0 := kC hS c0; clear hS; go_simp; try with_reducible rfl)
   try simp only [Act.put]
   refine tk 2 (dT d0) rfl (by kernel_rfl) (fun _ _ _ h => h) (by rfl) ?y03 R ?r03
   case y03 => (intro ww hS; have qy0 := kC hS y0; have qy1 := kC hS y1; have qy2 := kC hS y2; clear hS; go_simp; try with_reducible rfl)
   try simp only [Act.put]
   refine tk 3 (dT m) rfl (by kernel_rfl) (fun _ _ _ h => h) (by rfl) ?y04 R ?r04
   case y04 => (intro ww hS; have qm0 := kC hS m0; have qm1 := kC hS m1; have qm2 := kC hS m2; clear hS; go_simp; try with_reducible rfl)
   try simp only [Act.put]
   refine rd1 4 (by kernel_rfl) rfl fun K hK => ?_
   go_simp
   refine cM (HA.out _ m d0 (okT.keep jd R) (okT.keep jm R) (tt.kept R)) ?_
   rintro r wa ⟨rfl, bN⟩
   replace R := nT R bN
   clear bN
   refine hK.out _ _ R (fun _ => ?_)
   clear hK K
   try simp only [Act.put, sA, sZ, sS]
   refine rd1 5 (by kernel_rfl) rfl fun K hK => ?_
   go_simp
   refine cM (HF.out _ _) ?_
   rintro r _ ⟨rfl, rfl⟩
   refine hK.out _ _ R (fun _ => ?_)
   clear hK K
   try simp only [Act.put, sA, sZ, sS]
   refine wpAnyH_done (by kernel_rfl) ?_ _
   revert z0 f0 m0 g0 z1 f1 m1 g1 z2 f2 m2 g2; refine zf6 R ?_; intro z0 f0 m0 g0 z1 f1 m1 g1 z2 f2 m2 g2
   revert y0 y1 y2; refine cc3 R ?_; intro y0 y1 y2
   replace c0 := kC R c0
   replace tt := tt.kept R
   replace jd := okT.keep jd R
   replace jm := okT.keep jm R
   replace bw := nT bw R
   replace hs := Nat.lt_of_lt_of_le hs R.size
   clear R
   have e1 : Hid (m = x) := K0.out rfl
   clear K0
   by_cases q : 0 < cmpD (tT d0) (tT m)
   ·have q1 : 0 < cmpD (formD d0.1 (val d0.2.2.2.2.1) d0.2.2.2.2.2) (formD m.1 (val m.2.2.2.2.1) m.2.2.2.2.2) := q
    have e2 : Hid ((pkT false x d0) = d0) := by rw [Hid, ← e1.out]; unfold pkT; rw [if_pos (by first | exact Or.inl ⟨rfl, q⟩ | exact Or.inr ⟨rfl, q⟩)]
    clear q
    go_wp2_with fail
    have hl := hs
    obtain ⟨x0, x1, x2⟩ := set3_sameI (v0 := .bool d0.1) (v1 := .slice d0.2.1 d0.2.2.1 d0.2.2.2.1) (v2 := .int .i64 d0.2.2.2.2.2) m0 m1 m2
    refine ⟨⟨1, d0, by omega, by first | rfl | go_num, ((bw.setCell (le3 _) _).setCell (le3 _) _).setCell (le3 _) _, by simpa [Hid] using hl, hd0, fun q => absurd q (by omega), fun _ => e2.out.symm, fun q => absurd q (by omega), fun q => absurd q (by omega), set3_otherI c0 (by omega) _ _ _, set3_otherI z0 (by omega) _ _ _, set3_frozenI f0 _ _ _, x0, set3_frozenI g0 _ _ _, set3_otherI z1 (by omega) _ _ _, set3_frozenI f1 _ _ _, x1, set3_frozenI g1 _ _ _, set3_otherI z2 (by omega) _ _ _, set3_frozenI f2 _ _ _, x2, set3_frozenI g2 _ _ _⟩, by simp [intOf]⟩
   ·have q1 : ¬ (0 < cmpD (formD d0.1 (val d0.2.2.2.2.1) d0.2.2.2.2.2) (formD m.1 (val m.2.2.2.2.1) m.2.2.2.2.2)) := q
    have q2 : cmpD (formD d0.1 (val d0.2.2.2.2.1) d0.2.2.2.2.2) (formD m.1 (val m.2.2.2.2.1) m.2.2.2.2.2) ≤ 0 := by have := q1; omega
    have e2 : Hid ((pkT false x d0) = m) := by rw [Hid, ← e1.out]; unfold pkT; rw [if_neg (fun z => z.elim (fun y => by first | exact q y.2 | exact absurd y.1 (by decide)) (fun y => by first | exact q y.2 | exact absurd y.1 (by decide)))]
    clear q
    go_wp2_with fail
    exact ⟨⟨1, m, by omega, by first | rfl | go_num, bw, hs, hm, fun q => absurd q (by omega), fun _ => e2.out.symm, fun q => absurd q (by omega), fun q => absurd q (by omega), c0, z0, f0, m0, g0, z1, f1, m1, g1, z2, f2, m2, g2⟩, by simp [intOf]⟩
  ·subst q
   have k0 := kC bw e10
   have k1 := kC bw e11
   have k2 := kC bw e12
   clear K0
   clear K2
   clear K3
   have tt := hT.kept bw
   have jd := okT.keep hd1 bw
   have jm := okT.keep hm.out bw
   have bB := below_one wr (.cells #[.bool d1.1, .slice d1.2.1 d1.2.2.1 d1.2.2.2.1, .int .i64 d1.2.2.2.2.2] 25)
   obtain ⟨y0, y1, y2⟩ := fX7 wr d1 _ rfl
   revert z0 f0 m0 g0 z1 f1 m1 g1 z2 f2 m2 g2; refine zf6 bB ?_; intro z0 f0 m0 g0 z1 f1 m1 g1 z2 f2 m2 g2
   replace c0 := kC bB c0
   replace tt := tt.kept bB
   replace jd := okT.keep jd bB
   replace jm := okT.keep jm bB
   replace bw := nT bw bB
   replace hs := Nat.lt_of_lt_of_le hs bB.size
   clear bB
   go_upto_region 5 with fail
   clear k0 k1 k2
   generalize (wr.alloc (.cells #[.bool d1.1, .slice d1.2.1 d1.2.2.1 d1.2.2.2.1, .int .i64 d1.2.2.2.2.2] 25)) = w2 at *
   have R : Below w2.heap.size w2 (World.drew w2) := (Below.refl _ _).drew
   refine wp_region_held (S := fun w' => Below w2.heap.size w2 w') (by kernel_rfl) ?_
   change wpAnyH _ _ _ _ _ _ _ _ (World.drew w2)
   generalize World.drew w2 = wd at R ⊢
   refine tk 0 (.pointer (some ⟨w.heap.size, 0, none⟩)) rfl (by kernel_rfl) (fun _ _ _ h => h) (by rfl) ?y11 R ?r11
   case y11 => (intro ww hS; clear hS; go_simp; try with_reducible rfl)
   try simp only [Act.put, sA]
   refine tk 1 (.func (.func 120) #[] #[]) rfl (by kernel_rfl) (fun _ _ _ h => h) (by rfl) ?y12 R ?r12
   case y12 => (intro ww hS; have qc0 := kC hS c0; clear hS; go_simp; try with_reducible rfl)
   try simp only [Act.put]
   refine tk 2 (dT d1) rfl (by kernel_rfl) (fun _ _ _ h => h) (by rfl) ?y13 R ?r13
   case y13 => (intro ww hS; have qy0 := kC hS y0; have qy1 := kC hS y1; have qy2 := kC hS y2; clear hS; go_simp; try with_reducible rfl)
   try simp only [Act.put]
   refine tk 3 (dT m) rfl (by kernel_rfl) (fun _ _ _ h => h) (by rfl) ?y14 R ?r14
   case y14 => (intro ww hS; have qm0 := kC hS m0; have qm1 := kC hS m1; have qm2 := kC hS m2; clear hS; go_simp; try with_reducible rfl)
   try simp only [Act.put]
   refine rd1 4 (by kernel_rfl) rfl fun K hK => ?_
   go_simp
   refine cM (HA.out _ m d1 (okT.keep jd R) (okT.keep jm R) (tt.kept R)) ?_
   rintro r wa ⟨rfl, bN⟩
   replace R := nT R bN
   clear bN
   refine hK.out _ _ R (fun _ => ?_)
   clear hK K
   try simp only [Act.put, sA, sZ, sS]
   refine rd1 5 (by kernel_rfl) rfl fun K hK => ?_
   go_simp
   refine cM (HF.out _ _) ?_
   rintro r _ ⟨rfl, rfl⟩
   refine hK.out _ _ R (fun _ => ?_)
   clear hK K
   try simp only [Act.put, sA, sZ, sS]
   refine wpAnyH_done (by kernel_rfl) ?_ _
   revert z0 f0 m0 g0 z1 f1 m1 g1 z2 f2 m2 g2; refine zf6 R ?_; intro z0 f0 m0 g0 z1 f1 m1 g1 z2 f2 m2 g2
   revert y0 y1 y2; refine cc3 R ?_; intro y0 y1 y2
   replace c0 := kC R c0
   replace tt := tt.kept R
   replace jd := okT.keep jd R
   replace jm := okT.keep jm R
   replace bw := nT bw R
   replace hs := Nat.lt_of_lt_of_le hs R.size
   clear R
   have e1 : Hid (m = (pkT false x d0)) := K1.out rfl
   clear K1
   by_cases q : 0 < cmpD (tT d1) (tT m)
   ·have q1 : 0 < cmpD (formD d1.1 (val d1.2.2.2.2.1) d1.2.2.2.2.2) (formD m.1 (val m.2.2.2.2.1) m.2.2.2.2.2) := q
    have e2 : Hid ((pkT false (pkT false x d0) d1) = d1) := by rw [Hid, ← e1.out]; unfold pkT; rw [if_pos (by first | exact Or.inl ⟨rfl, q⟩ | exact Or.inr ⟨rfl, q⟩)]
    clear q
    go_wp2_with fail
    have hl := hs
    obtain ⟨x0, x1, x2⟩ := set3_sameI (v0 := .bool d1.1) (v1 := .slice d1.2.1 d1.2.2.1 d1.2.2.2.1) (v2 := .int .i64 d1.2.2.2.2.2) m0 m1 m2
    refine ⟨⟨2, d1, by omega, by first | rfl | go_num, ((bw.setCell (le3 _) _).setCell (le3 _) _).setCell (le3 _) _, by simpa [Hid] using hl, hd1, fun q => absurd q (by omega), fun q => absurd q (by omega), fun _ => e2.out.symm, fun q => absurd q (by omega), set3_otherI c0 (by omega) _ _ _, set3_otherI z0 (by omega) _ _ _, set3_frozenI f0 _ _ _, x0, set3_frozenI g0 _ _ _, set3_otherI z1 (by omega) _ _ _, set3_frozenI f1 _ _ _, x1, set3_frozenI g1 _ _ _, set3_otherI z2 (by omega) _ _ _, set3_frozenI f2 _ _ _, x2, set3_frozenI g2 _ _ _⟩, by simp [intOf]⟩
   ·have q1 : ¬ (0 < cmpD (formD d1.1 (val d1.2.2.2.2.1) d1.2.2.2.2.2) (formD m.1 (val m.2.2.2.2.1) m.2.2.2.2.2)) := q
    have q2 : cmpD (formD d1.1 (val d1.2.2.2.2.1) d1.2.2.2.2.2) (formD m.1 (val m.2.2.2.2.1) m.2.2.2.2.2) ≤ 0 := by have := q1; omega
    have e2 : Hid ((pkT false (pkT false x d0) d1) = m) := by rw [Hid, ← e1.out]; unfold pkT; rw [if_neg (fun z => z.elim (fun y => by first | exact q y.2 | exact absurd y.1 (by decide)) (fun y => by first | exact q y.2 | exact absurd y.1 (by decide)))]
    clear q
    go_wp2_with fail
    exact ⟨⟨2, m, by omega, by first | rfl | go_num, bw, hs, hm, fun q => absurd q (by omega), fun q => absurd q (by omega), fun _ => e2.out.symm, fun q => absurd q (by omega), c0, z0, f0, m0, g0, z1, f1, m1, g1, z2, f2, m2, g2⟩, by simp [intOf]⟩
  ·subst q
   have k0 := kC bw e20
   have k1 := kC bw e21
   have k2 := kC bw e22
   clear K0
   clear K1
   clear K3
   have tt := hT.kept bw
   have jd := okT.keep hd2 bw
   have jm := okT.keep hm.out bw
   have bB := below_one wr (.cells #[.bool d2.1, .slice d2.2.1 d2.2.2.1 d2.2.2.2.1, .int .i64 d2.2.2.2.2.2] 25)
   obtain ⟨y0, y1, y2⟩ := fX7 wr d2 _ rfl
   revert z0 f0 m0 g0 z1 f1 m1 g1 z2 f2 m2 g2; refine zf6 bB ?_; intro z0 f0 m0 g0 z1 f1 m1 g1 z2 f2 m2 g2
   replace c0 := kC bB c0
   replace tt := tt.kept bB
   replace jd := okT.keep jd bB
   replace jm := okT.keep jm bB
   replace bw := nT bw bB
   replace hs := Nat.lt_of_lt_of_le hs bB.size
   clear bB
   go_upto_region 5 with fail
   clear k0 k1 k2
   generalize (wr.alloc (.cells #[.bool d2.1, .slice d2.2.1 d2.2.2.1 d2.2.2.2.1, .int .i64 d2.2.2.2.2.2] 25)) = w2 at *
   have R : Below w2.heap.size w2 (World.drew w2) := (Below.refl _ _).drew
   refine wp_region_held (S := fun w' => Below w2.heap.size w2 w') (by kernel_rfl) ?_
   change wpAnyH _ _ _ _ _ _ _ _ (World.drew w2)
   generalize World.drew w2 = wd at R ⊢
   refine tk 0 (.pointer (some ⟨w.heap.size, 0, none⟩)) rfl (by kernel_rfl) (fun _ _ _ h => h) (by rfl) ?y21 R ?r21
   case y21 => (intro ww hS; clear hS; go_simp; try with_reducible rfl)
   try simp only [Act.put, sA]
   refine tk 1 (.func (.func 120) #[] #[]) rfl (by kernel_rfl) (fun _ _ _ h => h) (by rfl) ?y22 R ?r22
   case y22 => (intro ww hS; have qc0 := kC hS c0; clear hS; go_simp; try with_reducible rfl)
   try simp only [Act.put]
   refine tk 2 (dT d2) rfl (by kernel_rfl) (fun _ _ _ h => h) (by rfl) ?y23 R ?r23
   case y23 => (intro ww hS; have qy0 := kC hS y0; have qy1 := kC hS y1; have qy2 := kC hS y2; clear hS; go_simp; try with_reducible rfl)
   try simp only [Act.put]
   refine tk 3 (dT m) rfl (by kernel_rfl) (fun _ _ _ h => h) (by rfl) ?y24 R ?r24
   case y24 => (intro ww hS; have qm0 := kC hS m0; have qm1 := kC hS m1; have qm2 := kC hS m2; clear hS; go_simp; try with_reducible rfl)
   try simp only [Act.put]
   refine rd1 4 (by kernel_rfl) rfl fun K hK => ?_
   go_simp
   refine cM (HA.out _ m d2 (okT.keep jd R) (okT.keep jm R) (tt.kept R)) ?_
   rintro r wa ⟨rfl, bN⟩
   replace R := nT R bN
   clear bN
   refine hK.out _ _ R (fun _ => ?_)
   clear hK K
   try simp only [Act.put, sA, sZ, sS]
   refine rd1 5 (by kernel_rfl) rfl fun K hK => ?_
   go_simp
   refine cM (HF.out _ _) ?_
   rintro r _ ⟨rfl, rfl⟩
   refine hK.out _ _ R (fun _ => ?_)
   clear hK K
   try simp only [Act.put, sA, sZ, sS]
   refine wpAnyH_done (by kernel_rfl) ?_ _
   revert z0 f0 m0 g0 z1 f1 m1 g1 z2 f2 m2 g2; refine zf6 R ?_; intro z0 f0 m0 g0 z1 f1 m1 g1 z2 f2 m2 g2
   revert y0 y1 y2; refine cc3 R ?_; intro y0 y1 y2
   replace c0 := kC R c0
   replace tt := tt.kept R
   replace jd := okT.keep jd R
   replace jm := okT.keep jm R
   replace bw := nT bw R
   replace hs := Nat.lt_of_lt_of_le hs R.size
   clear R
   have e1 : Hid (m = (pkT false (pkT false x d0) d1)) := K2.out rfl
   clear K2
   by_cases q : 0 < cmpD (tT d2) (tT m)
   ·have q1 : 0 < cmpD (formD d2.1 (val d2.2.2.2.2.1) d2.2.2.2.2.2) (formD m.1 (val m.2.2.2.2.1) m.2.2.2.2.2) := q
    have e2 : Hid ((pkT false (pkT false (pkT false x d0) d1) d2) = d2) := by rw [Hid, ← e1.out]; unfold pkT; rw [if_pos (by first | exact Or.inl ⟨rfl, q⟩ | exact Or.inr ⟨rfl, q⟩)]
    clear q
    go_wp2_with fail
    have hl := hs
    obtain ⟨x0, x1, x2⟩ := set3_sameI (v0 := .bool d2.1) (v1 := .slice d2.2.1 d2.2.2.1 d2.2.2.2.1) (v2 := .int .i64 d2.2.2.2.2.2) m0 m1 m2
    refine ⟨⟨3, d2, by omega, by first | rfl | go_num, ((bw.setCell (le3 _) _).setCell (le3 _) _).setCell (le3 _) _, by simpa [Hid] using hl, hd2, fun q => absurd q (by omega), fun q => absurd q (by omega), fun q => absurd q (by omega), fun _ => e2.out.symm, set3_otherI c0 (by omega) _ _ _, set3_otherI z0 (by omega) _ _ _, set3_frozenI f0 _ _ _, x0, set3_frozenI g0 _ _ _, set3_otherI z1 (by omega) _ _ _, set3_frozenI f1 _ _ _, x1, set3_frozenI g1 _ _ _, set3_otherI z2 (by omega) _ _ _, set3_frozenI f2 _ _ _, x2, set3_frozenI g2 _ _ _⟩, by simp [intOf]⟩
   ·have q1 : ¬ (0 < cmpD (formD d2.1 (val d2.2.2.2.2.1) d2.2.2.2.2.2) (formD m.1 (val m.2.2.2.2.1) m.2.2.2.2.2)) := q
    have q2 : cmpD (formD d2.1 (val d2.2.2.2.2.1) d2.2.2.2.2.2) (formD m.1 (val m.2.2.2.2.1) m.2.2.2.2.2) ≤ 0 := by have := q1; omega
    have e2 : Hid ((pkT false (pkT false (pkT false x d0) d1) d2) = m) := by rw [Hid, ← e1.out]; unfold pkT; rw [if_neg (fun z => z.elim (fun y => by first | exact q y.2 | exact absurd y.1 (by decide)) (fun y => by first | exact q y.2 | exact absurd y.1 (by decide)))]
    clear q
    go_wp2_with fail
    exact ⟨⟨3, m, by omega, by first | rfl | go_num, bw, hs, hm, fun q => absurd q (by omega), fun q => absurd q (by omega), fun q => absurd q (by omega), fun _ => e2.out.symm, c0, z0, f0, m0, g0, z1, f1, m1, g1, z2, f2, m2, g2⟩, by simp [intOf]⟩
  ·subst q
   have e1 : Hid (m = (pkT false (pkT false (pkT false x d0) d1) d2)) := K3.out rfl
   have jm := hm
   have hl := hs
   clear K0 K1 K2 K3
   go_wp2_with fail
   refine bodyPost_ret (v := dT m) (by simp [results, Tryz.results85, go_sem, z0, z1, z2]) rfl ⟨by rw [e1.out], ?_⟩
   exact ((bw.setCell (le2 _) _).setCell (le2 _) _).setCell (le2 _) _
end Go.Proofs.YtahpdcbmekgkfaaGreatDoor

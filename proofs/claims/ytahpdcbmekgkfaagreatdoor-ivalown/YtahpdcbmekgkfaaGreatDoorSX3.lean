/- Package ival: Add, Sub. -/
import Derived.Test.YtahpdcbmekgkfaaGreatDoorAL
import Derived.Test.YtahpdcbmekgkfaaGreatDoorSXX
import Derived.Test.YtahpdcbmekgkfaaGreatDoorTMO
namespace Go.Proofs.YtahpdcbmekgkfaaGreatDoor
open Go.RowKit
set_option maxHeartbeats 8000000
set_option maxRecDepth 100000
theorem att6 {b : Nat} {w : World} (h : ZI b w) (X Y : DT) : AtT b X Y ((((((w.setCell ⟨b, 0, none⟩ (.bool X.1)).setCell ⟨b, 1, none⟩ (.slice X.2.1 X.2.2.1 X.2.2.2.1)).setCell ⟨b, 2, none⟩ (.int .i64 X.2.2.2.2.2)).setCell ⟨b, 3, none⟩ (.bool Y.1)).setCell ⟨b, 4, none⟩ (.slice Y.2.1 Y.2.2.1 Y.2.2.2.1)).setCell ⟨b, 5, none⟩ (.int .i64 Y.2.2.2.2.2)) := by
 obtain ⟨⟨h0, h1, h2, h3, h4, h5⟩, f0, f1, f2, f3, f4, f5⟩ := h
 refine ⟨?_, ?_, ?_, ?_, ?_, ?_⟩ <;> simp [World.cell?_setCell_other, go_sem, h0, h1, h2, h3, h4, h5]
def adR (x y u v : DT) (p : Int) : TR := dnR x y u v p 0 (smR x y u v)
theorem body_sums : Body 100 := fun _ _ => by kernel_rfl
theorem body_never : Body 99 := fun _ _ => by kernel_rfl
theorem never_T (x y u v : DT) (w : World) : Calls Tryz.prog 99 #[ivT x y, ivT u v] w fun r w' => r = .returned (.int .i64 0) ∧ Below w.heap.size w w' := never_calls x.1 x.2.1 x.2.2.1 x.2.2.2.1 x.2.2.2.2.2 y.1 y.2.1 y.2.2.1 y.2.2.2.1 y.2.2.2.2.2 u.1 u.2.1 u.2.2.1 u.2.2.2.1 u.2.2.2.2.2 v.1 v.2.1 v.2.2.1 v.2.2.2.1 v.2.2.2.2.2 w
theorem suP_bd {x y : Bool × Nat × Int} (rx : Rg x) (ry : Rg y) : bdT (suP x y) := by
 have k := su_ok rx ry
 by_cases h : suE x y = 0
 ·have q := (k.1 h).1
  unfold roomB at q
  rw [Bool.and_eq_true] at q
  have g : greatB (suP x y).2.1 = false := by simpa using q.1
  have e := inB_yes q.2
  exact ⟨g, by omega, by omega⟩
 ·rw [(k.2 h).2.1]
  exact ⟨(great_not 0).2 (by rw [blen_zero]; omega), by decide, by decide⟩
theorem smR_bd {x y u v : DT} (rx : rgT x = true) (ry : rgT y = true) (ru : rgT u = true) (rv : rgT v = true) (h : (smR x y u v).1 = 0) : bdT (smR x y u v).2.1 ∧ bdT (smR x y u v).2.2 := by
 unfold smR at *
 by_cases h1 : suE (tT x) (tT u) ≠ 0
 ·rw [if_pos h1] at h; exact absurd h h1
 ·rw [if_neg h1] at h ⊢
  by_cases h2 : suE (tT y) (tT v) ≠ 0
  ·rw [if_pos h2] at h; exact absurd h h2
  ·rw [if_neg h2]
   exact ⟨suP_bd (rg_of rx) (rg_of ru), suP_bd (rg_of ry) (rg_of rv)⟩
theorem addingT (w : World) : Calls Tryz.prog 58 #[] w fun r w' => r = .returned (wyV 99 100 #[]) ∧ Below w.heap.size w w' := by
 go_enter Tryz.func58, Tryz.ntmps58
 go_wp2_with fail
 refine bodyPost_ret (v := wyV 99 100 #[]) (by simp [results, Tryz.results58, go_sem]) rfl ⟨rfl, ?_⟩
 first | exact below_one _ _ | (repeat (first | exact below_one _ _ | refine Below.setCell ?_ (by simp) _))
theorem iAddT (x y u v : DT) (p : Int) (w : World) (hx : inT w x) (hy : inT w y) (hu : inT w u) (hv : inT w v) (hT : Tab w) :
  Calls Tryz.prog 18 #[ivT x y, ivT u v, .int .i64 p] w fun r w' => ∃ a, r = .returned a ∧ IvA w.heap.size w' a (adR x y u v p) ∧ Below w.heap.size w w' := by
 have A1 := att_new x y w
 have b1 := below_one w (obT x y)
 have A2 := att_new u v (w.alloc (obT x y))
 have b2 := below_one (w.alloc (obT x y)) (obT u v)
 have Z := zi_new ((w.alloc (obT x y)).alloc (obT u v))
 have b3 := below_one ((w.alloc (obT x y)).alloc (obT u v)) obZ
 replace A1 := (A1.keep b2).keep b3
 replace A2 := A2.keep b3
 have bA := nT (nT b1 b2) b3
 rw [show (w.alloc (obT x y)).heap.size = w.heap.size + 1 by simp] at A2
 rw [show ((w.alloc (obT x y)).alloc (obT u v)).heap.size = w.heap.size + 1 + 1 by simp] at Z
 have DC : Hid (∀ W, Below w.heap.size w W → Calls Tryz.prog 59 #[wyV 99 100 #[], ivT x y, ivT u v, .int .i64 p] W fun r w' => ∃ a, r = .returned a ∧ IvA W.heap.size w' a (adR x y u v p) ∧ Below W.heap.size W w') := fun W b => done_core 99 100 #[] body_never body_sums x y u v p 0 (smR x y u v) W (hx.keep b) (hy.keep b) (hu.keep b) (hv.keep b) (hT.kept b) (fun _ _ V _ => never_T x y u v V) (fun r1 r2 _ _ => ⟨fun V c => isums_calls x y u v p V ((hx.keep b).keep c) ((hy.keep b).keep c) ((hu.keep b).keep c) ((hv.keep b).keep c) ((hT.kept b).kept c) (rt_rg2 r1).1 (rt_rg2 r1).2 (rt_rg2 r2).1 (rt_rg2 r2).2, smR_bd (rt_rg2 r1).1 (rt_rg2 r1).2 (rt_rg2 r2).1 (rt_rg2 r2).2⟩)
 generalize adR x y u v p = R at *
 clear b1 b2 b3 hx hy hu hv hT
 go_enter Tryz.func18, Tryz.ntmps18
 go_upto_region 1 with fail
 generalize ((w.alloc (obT x y)).alloc (obT u v)).alloc obZ = wA at *
 have CC : Hid (∀ W, Below wA.heap.size wA W → AtT w.heap.size x y W ∧ AtT (w.heap.size + 1) u v W) := fun W b => ⟨A1.keep b, A2.keep b⟩
 have lA : w.heap.size + 1 + 1 < wA.heap.size := World.block_lt_of_cell? _ _ Z.1.1
 clear A1 A2
 have A : Below wA.heap.size wA (World.drew wA) := (Below.refl _ _).drew
 replace Z := Z.keep A
 refine wp_region_held (S := fun w' => AtT w.heap.size x y w' ∧ AtT (w.heap.size + 1) u v w') (by kernel_rfl) ?_
 change wpAnyH _ _ _ _ _ 9 #[false, false, false, false, false, false, false, false, false] _ (World.drew wA)
 generalize World.drew wA = wv at A Z ⊢
 refine wpAnyH_tk (i := 1) (d := some 9) (v := ivT x y) rfl rfl (by kernel_rfl) (by kernel_rfl) (by kernel_rfl) (fun _ _ _ h => h) (Or.inl ⟨by rfl, ?_⟩) (CC.out _ A) ?_
 ·intro ww hS
  obtain ⟨⟨q0, q1, q2, q3, q4, q5⟩, -⟩ := id hS
  clear hS
  go_simp
  try with_reducible rfl
 try simp only [Act.put, sA, sZ, sS]
 refine wpAnyH_tk (i := 2) (d := some 10) (v := ivT u v) rfl rfl (by kernel_rfl) (by kernel_rfl) (by kernel_rfl) (fun _ _ _ h => h) (Or.inl ⟨by rfl, ?_⟩) (CC.out _ A) ?_
 ·intro ww hS
  obtain ⟨-, q0, q1, q2, q3, q4, q5⟩ := id hS
  clear hS
  go_simp
  try with_reducible rfl
 try simp only [Act.put, sA, sZ, sS]
 refine wpAnyH_tk (i := 3) (d := some 11) (v := .int .i64 p) rfl rfl (by kernel_rfl) (by kernel_rfl) (by kernel_rfl) (fun _ _ _ h => h) (Or.inl ⟨by rfl, ?_⟩) (CC.out _ A) ?_
 ·intro ww hS
  clear hS
  go_simp
  try with_reducible rfl
 try simp only [Act.put, sA, sZ, sS]
 iterate 4
  all_goals
   first
   | (have _q := g0; have _q := g4; have _q := g7; refine wpAnyH_ready (rs := [8]) (by kernel_rfl) (by simp) ?_; refine AllReadyH.cons rfl (fun K hK => have mk8 := True.intro; ?_) (AllReadyH.nil))
   | (have _q := g0; have _q := g4; refine wpAnyH_tk (i := 5) (d := some 13) (v := ivT X Y) rfl rfl (by kernel_rfl) (by kernel_rfl) (by kernel_rfl) (fun _ _ _ h => h) (Or.inl ⟨by rfl, by (intro ww hS;  clear hS; go_simp; try with_reducible rfl)⟩) (CC.out _ A) ?_; (try simp only [Act.put, sA, sZ, sS]); refine wpAnyH_tk (i := 6) (d := some 14) (v := .int .i64 R.1) rfl rfl (by kernel_rfl) (by kernel_rfl) (by kernel_rfl) (fun _ _ _ h => h) (Or.inl ⟨by rfl, by (intro ww hS;  clear hS; go_simp; try with_reducible rfl)⟩) (CC.out _ A) ?_; (try simp only [Act.put, sA, sZ, sS]); refine wpAnyH_ready (rs := [7]) (by kernel_rfl) (by simp) ?_; refine AllReadyH.cons rfl (fun K hK => have mk7 := True.intro; ?_) (AllReadyH.nil))
   | (have _q := g0; refine wpAnyH_ready (rs := [4]) (by kernel_rfl) (by simp) ?_; refine AllReadyH.cons rfl (fun K hK => have mk4 := True.intro; ?_) (AllReadyH.nil))
   | (refine wpAnyH_ready (rs := [0]) (by kernel_rfl) (by simp) ?_; refine AllReadyH.cons rfl (fun K hK => have mk0 := True.intro; ?_) (AllReadyH.nil))
  all_goals
   first
   | (have _q := mk0; clear _q mk0
      go_simp
      refine Calls.mono (addingT wv) ?_
      rintro r wn ⟨rfl, bN⟩
      replace A := nT A bN
      try replace Z := Z.keep bN
      try replace oX := oX.keep bN
      try replace oY := oY.keep bN
      try replace cX := kC bN cX
      refine hK.out _ _ (CC.out _ A) (fun _ => ?_)
      clear bN
      generalize wn = wv at *
      clear hK K; (try simp only [sA, sZ]); have g0 := True.intro)
   | (have _q := mk4; clear _q mk4
      go_simp
      refine Calls.mono (DC.out wv (nT bA A)) ?_
      rintro r wn ⟨a, rfl, ⟨X, Y, rfl, eX, eY, oX, oY⟩, bN⟩
      have sA := (nT bA A).size
      replace oX : ownT w.heap.size wn X := ⟨oX.1.low sA, oX.2⟩
      replace oY : ownT w.heap.size wn Y := ⟨oY.1.low sA, oY.2⟩
      clear sA
      replace A := nT A bN
      try replace Z := Z.keep bN
      try replace cX := kC bN cX
      refine hK.out _ _ (CC.out _ A) (fun _ => ?_)
      clear bN
      generalize wn = wv at *
      clear hK K; (try simp only [sA, sZ, sS]); have g4 := True.intro)
   | (have _q := mk7; clear _q mk7
      have ZZ : Hid (ZI (w.heap.size + 1 + 1) wv) := Z
      obtain ⟨⟨z0, z1, z2, z3, z4, z5⟩, f0, f1, f2, f3, f4, f5⟩ := Z
      go_simp
      clear z0 z1 z2 z3 z4 z5 f0 f1 f2 f3 f4 f5
      have S8 : AtT w.heap.size x y ((((((wv.setCell ⟨w.heap.size + 1 + 1, 0, none⟩ (.bool X.1)).setCell ⟨w.heap.size + 1 + 1, 1, none⟩ (.slice X.2.1 X.2.2.1 X.2.2.2.1)).setCell ⟨w.heap.size + 1 + 1, 2, none⟩ (.int .i64 X.2.2.2.2.2)).setCell ⟨w.heap.size + 1 + 1, 3, none⟩ (.bool Y.1)).setCell ⟨w.heap.size + 1 + 1, 4, none⟩ (.slice Y.2.1 Y.2.2.1 Y.2.2.2.1)).setCell ⟨w.heap.size + 1 + 1, 5, none⟩ (.int .i64 Y.2.2.2.2.2)) ∧ AtT (w.heap.size + 1) u v ((((((wv.setCell ⟨w.heap.size + 1 + 1, 0, none⟩ (.bool X.1)).setCell ⟨w.heap.size + 1 + 1, 1, none⟩ (.slice X.2.1 X.2.2.1 X.2.2.2.1)).setCell ⟨w.heap.size + 1 + 1, 2, none⟩ (.int .i64 X.2.2.2.2.2)).setCell ⟨w.heap.size + 1 + 1, 3, none⟩ (.bool Y.1)).setCell ⟨w.heap.size + 1 + 1, 4, none⟩ (.slice Y.2.1 Y.2.2.1 Y.2.2.2.1)).setCell ⟨w.heap.size + 1 + 1, 5, none⟩ (.int .i64 Y.2.2.2.2.2)) := ⟨AtI.set6 (CC.out _ A).1 (by omega) _ _ _ _ _ _, AtI.set6 (CC.out _ A).2 (by omega) _ _ _ _ _ _⟩
      have YY := att6 ZZ.out X Y
      have pX := oX.six ZZ.out (.bool X.1) (.slice X.2.1 X.2.2.1 X.2.2.2.1) (.int .i64 X.2.2.2.2.2) (.bool Y.1) (.slice Y.2.1 Y.2.2.1 Y.2.2.2.1) (.int .i64 Y.2.2.2.2.2)
      have pY := oY.six ZZ.out (.bool X.1) (.slice X.2.1 X.2.2.1 X.2.2.2.1) (.int .i64 X.2.2.2.2.2) (.bool Y.1) (.slice Y.2.1 Y.2.2.1 Y.2.2.2.1) (.int .i64 Y.2.2.2.2.2)
      have bB : Below w.heap.size w ((((((wv.setCell ⟨w.heap.size + 1 + 1, 0, none⟩ (.bool X.1)).setCell ⟨w.heap.size + 1 + 1, 1, none⟩ (.slice X.2.1 X.2.2.1 X.2.2.2.1)).setCell ⟨w.heap.size + 1 + 1, 2, none⟩ (.int .i64 X.2.2.2.2.2)).setCell ⟨w.heap.size + 1 + 1, 3, none⟩ (.bool Y.1)).setCell ⟨w.heap.size + 1 + 1, 4, none⟩ (.slice Y.2.1 Y.2.2.1 Y.2.2.2.1)).setCell ⟨w.heap.size + 1 + 1, 5, none⟩ (.int .i64 Y.2.2.2.2.2)) := bodies (nT bA A) (by omega) _ _ _ _ _ _
      clear A oX oY ZZ
      refine hK.out _ _ S8 (fun _ => ?_)
      generalize ((((((wv.setCell ⟨w.heap.size + 1 + 1, 0, none⟩ (.bool X.1)).setCell ⟨w.heap.size + 1 + 1, 1, none⟩ (.slice X.2.1 X.2.2.1 X.2.2.2.1)).setCell ⟨w.heap.size + 1 + 1, 2, none⟩ (.int .i64 X.2.2.2.2.2)).setCell ⟨w.heap.size + 1 + 1, 3, none⟩ (.bool Y.1)).setCell ⟨w.heap.size + 1 + 1, 4, none⟩ (.slice Y.2.1 Y.2.2.1 Y.2.2.2.1)).setCell ⟨w.heap.size + 1 + 1, 5, none⟩ (.int .i64 Y.2.2.2.2.2)) = wn at *
      generalize wn = wv at *
      clear hK K; (try simp only [sA, sZ, sS]); have g7 := True.intro)
   | (have _q := mk8; clear _q mk8
      go_simp
      refine hK.out _ _ S8 (fun _ => ?_)
      clear hK K; (try simp only [sA, sZ, sS]); have g8 := True.intro)
 refine wpAnyH_done (by kernel_rfl) ?_ _
 obtain ⟨y0, y1, y2, y3, y4, y5⟩ := YY
 go_wp2_with fail
 exact bodyPost_ret (v := .tuple #[ivT X Y, .int .i64 R.1]) (by simp [results, Tryz.results18, go_sem, y0, y1, y2, y3, y4, y5]) rfl ⟨_, rfl, ⟨X, Y, rfl, eX, eY, pX, pY⟩, bB⟩
end Go.Proofs.YtahpdcbmekgkfaaGreatDoor

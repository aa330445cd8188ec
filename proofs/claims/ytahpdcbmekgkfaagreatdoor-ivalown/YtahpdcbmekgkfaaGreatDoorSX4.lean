/- Package ival: Div. -/
import Derived.Test.YtahpdcbmekgkfaaGreatDoorAL
import Derived.Test.YtahpdcbmekgkfaaGreatDoorSX3
import Derived.Test.YtahpdcbmekgkfaaGreatDoorIVI
import Derived.Test.YtahpdcbmekgkfaaGreatDoorTMP
namespace Go.Proofs.YtahpdcbmekgkfaaGreatDoor
open Go.RowKit
theorem rt_okX {x y : DT} (h : rtT x y = true) : (greatB (val x.2.2.2.2.1) = false ∧ -32768 ≤ x.2.2.2.2.2 ∧ x.2.2.2.2.2 ≤ 32768) ∧ (greatB (val y.2.2.2.2.1) = false ∧ -32768 ≤ y.2.2.2.2.2 ∧ y.2.2.2.2.2 ≤ 32768) := by
 have := rt_both h
 exact ⟨rightB_yes this.1, rightB_yes this.2⟩
theorem pkP_oneX (lo : Bool) (P Q : Bool × Nat × Int) : pkP lo P Q = P ∨ pkP lo P Q = Q := by
 unfold pkP
 split
 ·exact Or.inr rfl
 ·exact Or.inl rfl
theorem pk4_bdX {lo : Bool} {P Q R S : Bool × Nat × Int} (h0 : bdT P) (h1 : bdT Q) (h2 : bdT R) (h3 : bdT S) : bdT (pk4 lo P Q R S) := by
 unfold pk4
 have k : ∀ A B : Bool × Nat × Int, bdT A → bdT B → bdT (pkP lo A B) := fun A B a b => by
  rcases pkP_oneX lo A B with q | q <;> rw [q]
  ·exact a
  ·exact b
 exact k _ _ (k _ _ (k _ _ h0 h1) h2) h3
theorem nz_bothX {u v : DT} (h : rtT u v = true) (z : dzE u.1 (val u.2.2.2.2.1) u.2.2.2.2.2 v.1 (val v.2.2.2.2.1) v.2.2.2.2.2 = 0) : val u.2.2.2.2.1 ≠ 0 ∧ val v.2.2.2.2.1 ≠ 0 := by
 have hc : cmpD (formD u.1 (val u.2.2.2.2.1) u.2.2.2.2.2) (formD v.1 (val v.2.2.2.2.1) v.2.2.2.2.2) ≤ 0 := by
  unfold rtT rtI at h
  simp only [Bool.and_eq_true, decide_eq_true_eq] at h
  exact h.2
 unfold dzE at z
 have zz : ¬ (sgnD (formD u.1 (val u.2.2.2.2.1) u.2.2.2.2.2) ≤ 0 ∧ 0 ≤ sgnD (formD v.1 (val v.2.2.2.2.1) v.2.2.2.2.2)) := fun q => by rw [if_pos q] at z; exact absurd z (by decide)
 have sg : sgnD (formD u.1 (val u.2.2.2.2.1) u.2.2.2.2.2) ≤ sgnD (formD v.1 (val v.2.2.2.2.1) v.2.2.2.2.2) := by
  unfold cmpD Lib.compareInt at hc
  by_cases q : sgnD (formD u.1 (val u.2.2.2.2.1) u.2.2.2.2.2) = sgnD (formD v.1 (val v.2.2.2.2.1) v.2.2.2.2.2)
  ·omega
  ·rw [if_pos q] at hc
   by_cases q2 : sgnD (formD u.1 (val u.2.2.2.2.1) u.2.2.2.2.2) < sgnD (formD v.1 (val v.2.2.2.2.1) v.2.2.2.2.2)
   ·omega
   ·rw [if_neg q2, if_pos (by omega)] at hc
    exact absurd hc (by decide)
 rw [sgn_val, sgn_val] at *
 constructor
 ·intro q
  rw [if_pos q] at *
  omega
 ·intro q
  rw [if_pos q] at *
  omega
def qL (x y u v : DT) (p : Int) : Bool × Nat × Int := pk4 true (quP x u p.toNat) (quP x v p.toNat) (quP y u p.toNat) (quP y v p.toNat)
def qH (x y u v : DT) (p : Int) : Bool × Nat × Int := pk4 false (quP x u p.toNat) (quP x v p.toNat) (quP y u p.toNat) (quP y v p.toNat)
def dzX (u v : DT) : Int := dzE u.1 (val u.2.2.2.2.1) u.2.2.2.2.2 v.1 (val v.2.2.2.2.1) v.2.2.2.2.2
def dvR (x y u v : DT) (p : Int) : TR := dnR x y u v p (dzX u v) (0, qL x y u v p, qH x y u v p)
theorem body_cross : Body 131 := fun _ _ => by kernel_rfl
theorem body_dz : Body 104 := fun _ _ => by kernel_rfl
theorem ok_rt {w : World} {x : DT} (i : inT w x) (h : greatB (val x.2.2.2.2.1) = false ∧ -32768 ≤ x.2.2.2.2.2 ∧ x.2.2.2.2.2 ≤ 32768) : okT w x := ⟨i.1, i.2, h.1, by omega, by omega⟩
theorem dz_T (x y u v : DT) (w : World) (hu : inT w u) (hv : inT w v) (r : rtT u v = true) : Calls Tryz.prog 104 #[ivT x y, ivT u v] w fun r w' => r = .returned (.int .i64 (dzX u v)) ∧ Below w.heap.size w w' :=
 divZero_calls x.1 x.2.1 x.2.2.1 x.2.2.2.1 x.2.2.2.2.2 y.1 y.2.1 y.2.2.1 y.2.2.2.1 y.2.2.2.2.2 u.1 u.2.1 u.2.2.1 u.2.2.2.1 u.2.2.2.2.1 u.2.2.2.2.2 v.1 v.2.1 v.2.2.1 v.2.2.2.1 v.2.2.2.2.1 v.2.2.2.2.2 w hu.1 hu.2 (rt_okX r).1.1 hv.1 hv.2 (rt_okX r).2.1
theorem crossI (x y u v : DT) (p : Int) (X : Nat) (w : World) (hx : inT w x) (hy : inT w y) (hu : inT w u) (hv : inT w v) (r1 : rtT x y = true) (r2 : rtT u v = true) (hz : dzX u v = 0) (hp : 1 ≤ p ∧ p ≤ 8192) (cq : w.cell? ⟨X, 0, none⟩ = some (.func (.func 105) #[] #[])) (hT : Tab w) :
  Calls Tryz.prog 131 #[ivT x y, ivT u v, .int .i64 p, .pointer (some ⟨X, 0, none⟩)] w fun r w' => ∃ a, r = .returned a ∧ IvA w.heap.size w' a (0, qL x y u v p, qH x y u v p) ∧ Below w.heap.size w w' := by
 have a := rt_okX r1
 have b := rt_okX r2
 have n := nz_bothX r2 hz
 have h := crossQ_calls x y u v p.toNat X w (ok_rt hx a.1) (ok_rt hy a.2) (ok_rt hu b.1) (ok_rt hv b.2) n.1 n.2 (by omega) (by omega) (by omega) (by omega) (by omega) cq hT
 rw [show ((p.toNat : Nat) : Int) = p by omega] at h
 refine h.mono ?_
 rintro r w' ⟨al, nl, cl, ah, nh, ch, rfl, O1, O2, hb⟩
 exact ⟨_, rfl, ⟨mT _ al nl cl, mT _ ah nh ch, rfl, ⟨rfl, rfl, rfl⟩, ⟨rfl, rfl, rfl⟩, ⟨O1.2, by have := O1.1; show nl ≤ _; omega⟩, ⟨O2.2, by have := O2.1; show nh ≤ _; omega⟩⟩, hb⟩
theorem cross_bd {w : World} {x y u v : DT} {p : Int} (hx : inT w x) (hy : inT w y) (hu : inT w u) (hv : inT w v) (r1 : rtT x y = true) (r2 : rtT u v = true) (hz : dzX u v = 0) (hp : 1 ≤ p ∧ p ≤ 8192) : bdT (qL x y u v p) ∧ bdT (qH x y u v p) := by
 have a := rt_okX r1
 have b := rt_okX r2
 have n := nz_bothX r2 hz
 have hp2 : 1 ≤ p.toNat ∧ p.toNat ≤ 8192 := by omega
 have ox := ok_rt hx a.1
 have oy := ok_rt hy a.2
 have ou := ok_rt hu b.1
 have ov := ok_rt hv b.2
 have k0 := quP_ok ox ou n.1 hp2 (by omega) (by omega)
 have k1 := quP_ok ox ov n.2 hp2 (by omega) (by omega)
 have k2 := quP_ok oy ou n.1 hp2 (by omega) (by omega)
 have k3 := quP_ok oy ov n.2 hp2 (by omega) (by omega)
 exact ⟨pk4_bdX k0 k1 k2 k3, pk4_bdX k0 k1 k2 k3⟩
set_option maxRecDepth 100000 in
set_option maxHeartbeats 8000000 in
theorem iDivT (x y u v : DT) (p : Int) (w : World) (hx : inT w x) (hy : inT w y) (hu : inT w u) (hv : inT w v) (hT : Tab w) :
  Calls Tryz.prog 21 #[ivT x y, ivT u v, .int .i64 p] w fun r w' => ∃ a, r = .returned a ∧ IvA w.heap.size w' a (dvR x y u v p) ∧ Below w.heap.size w w' := by
 have A1 := att_new x y w
 have b1 := below_one w (obT x y)
 have A2 := att_new u v (w.alloc (obT x y))
 have b2 := below_one (w.alloc (obT x y)) (obT u v)
 have Z := zi_new ((w.alloc (obT x y)).alloc (obT u v))
 have b3 := below_one ((w.alloc (obT x y)).alloc (obT u v)) obZ
 replace A1 := (A1.keep b2).keep b3
 replace A2 := A2.keep b3
 have bA := nT (nT b1 b2) b3
 rw [show (w.alloc (obT x y)).heap.size = w.heap.size + 1 by simp] at A2
 rw [show ((w.alloc (obT x y)).alloc (obT u v)).heap.size = w.heap.size + 1 + 1 by simp] at Z
 have DC : Hid (∀ W X, Below w.heap.size w W → W.cell? ⟨X, 0, none⟩ = some (.func (.func 105) #[] #[]) → Calls Tryz.prog 59 #[wyV 104 131 #[.pointer (some ⟨X, 0, none⟩)], ivT x y, ivT u v, .int .i64 p] W fun r w' => ∃ a, r = .returned a ∧ IvA W.heap.size w' a (dvR x y u v p) ∧ Below W.heap.size W w') := fun W X b cX => done_core 104 131 #[.pointer (some ⟨X, 0, none⟩)] body_dz body_cross x y u v p (dzX u v) (0, qL x y u v p, qH x y u v p) W (hx.keep b) (hy.keep b) (hu.keep b) (hv.keep b) (hT.kept b) (fun _ r2 V c => dz_T x y u v V ((hu.keep b).keep c) ((hv.keep b).keep c) r2) (fun r1 r2 hp hz => ⟨fun V c => crossI x y u v p X V ((hx.keep b).keep c) ((hy.keep b).keep c) ((hu.keep b).keep c) ((hv.keep b).keep c) r1 r2 hz hp (kC c cX) ((hT.kept b).kept c), fun _ => cross_bd (hx.keep b) (hy.keep b) (hu.keep b) (hv.keep b) r1 r2 hz hp⟩)
 generalize dvR x y u v p = R at *
 clear b1 b2 b3 hx hy hu hv hT
 go_enter Tryz.func21, Tryz.ntmps21
 go_upto_region 1 with fail
 generalize ((w.alloc (obT x y)).alloc (obT u v)).alloc obZ = wA at *
 have CC : Hid (∀ W, Below wA.heap.size wA W → AtT w.heap.size x y W ∧ AtT (w.heap.size + 1) u v W) := fun W b => ⟨A1.keep b, A2.keep b⟩
 have lA : w.heap.size + 1 + 1 < wA.heap.size := World.block_lt_of_cell? _ _ Z.1.1
 clear A1 A2
 have A : Below wA.heap.size wA (World.drew wA) := (Below.refl _ _).drew
 replace Z := Z.keep A
 refine wp_region_held (S := fun w' => AtT w.heap.size x y w' ∧ AtT (w.heap.size + 1) u v w') (by kernel_rfl) ?_
 change wpAnyH _ _ _ _ _ 9 #[false, false, false, false, false, false, false, false, false] _ (World.drew wA)
 generalize World.drew wA = wv at A Z ⊢
 refine wpAnyH_tk (i := 1) (d := some 9) (v := ivT x y) rfl rfl (by kernel_rfl) (by kernel_rfl) (by kernel_rfl) (fun _ _ _ h => h) (Or.inl ⟨by rfl, ?_⟩) (CC.out _ A) ?_
 ·intro ww hS
  obtain ⟨⟨q0, q1, q2, q3, q4, q5⟩, -⟩ := id hS
  clear hS
  go_simp
  try with_reducible rfl
 try simp only [Act.put, sA, sZ, sS]
 refine wpAnyH_tk (i := 2) (d := some 10) (v := ivT u v) rfl rfl (by kernel_rfl) (by kernel_rfl) (by kernel_rfl) (fun _ _ _ h => h) (Or.inl ⟨by rfl, ?_⟩) (CC.out _ A) ?_
 ·intro ww hS
  obtain ⟨-, q0, q1, q2, q3, q4, q5⟩ := id hS
  clear hS
  go_simp
  try with_reducible rfl
 try simp only [Act.put, sA, sZ, sS]
 refine wpAnyH_tk (i := 3) (d := some 11) (v := .int .i64 p) rfl rfl (by kernel_rfl) (by kernel_rfl) (by kernel_rfl) (fun _ _ _ h => h) (Or.inl ⟨by rfl, ?_⟩) (CC.out _ A) ?_
 ·intro ww hS
  clear hS
  go_simp
  try with_reducible rfl
 try simp only [Act.put, sA, sZ, sS]
 iterate 4
  all_goals
   first
   | (have _q := g0; have _q := g4; have _q := g7; refine wpAnyH_ready (rs := [8]) (by kernel_rfl) (by simp) ?_; refine AllReadyH.cons rfl (fun K hK => have mk8 := True.intro; ?_) (AllReadyH.nil))
   | (have _q := g0; have _q := g4; refine wpAnyH_tk (i := 5) (d := some 13) (v := ivT X Y) rfl rfl (by kernel_rfl) (by kernel_rfl) (by kernel_rfl) (fun _ _ _ h => h) (Or.inl ⟨by rfl, by (intro ww hS;  clear hS; go_simp; try with_reducible rfl)⟩) (CC.out _ A) ?_; (try simp only [Act.put, sA, sZ, sS]); refine wpAnyH_tk (i := 6) (d := some 14) (v := .int .i64 R.1) rfl rfl (by kernel_rfl) (by kernel_rfl) (by kernel_rfl) (fun _ _ _ h => h) (Or.inl ⟨by rfl, by (intro ww hS;  clear hS; go_simp; try with_reducible rfl)⟩) (CC.out _ A) ?_; (try simp only [Act.put, sA, sZ, sS]); refine wpAnyH_ready (rs := [7]) (by kernel_rfl) (by simp) ?_; refine AllReadyH.cons rfl (fun K hK => have mk7 := True.intro; ?_) (AllReadyH.nil))
   | (have _q := g0; refine wpAnyH_ready (rs := [4]) (by kernel_rfl) (by simp) ?_; refine AllReadyH.cons rfl (fun K hK => have mk4 := True.intro; ?_) (AllReadyH.nil))
   | (refine wpAnyH_ready (rs := [0]) (by kernel_rfl) (by simp) ?_; refine AllReadyH.cons rfl (fun K hK => have mk0 := True.intro; ?_) (AllReadyH.nil))
  all_goals
   first
   | (have _q := mk0; clear _q mk0
      go_simp
      refine Calls.mono (dividing_calls wv) ?_
      rintro r wn ⟨X0, rfl, cX, -, bN⟩
      replace A := nT A bN
      try replace Z := Z.keep bN
      try replace oX := oX.keep bN
      try replace oY := oY.keep bN
      refine hK.out _ _ (CC.out _ A) (fun _ => ?_)
      clear bN
      generalize wn = wv at *
      clear hK K; (try simp only [sA, sZ]); have g0 := True.intro)
   | (have _q := mk4; clear _q mk4
      go_simp
      refine Calls.mono (DC.out wv X0 (nT bA A) cX) ?_
      clear cX
      rintro r wn ⟨a, rfl, ⟨X, Y, rfl, eX, eY, oX, oY⟩, bN⟩
      have sA := (nT bA A).size
      replace oX : ownT w.heap.size wn X := ⟨oX.1.low sA, oX.2⟩
      replace oY : ownT w.heap.size wn Y := ⟨oY.1.low sA, oY.2⟩
      clear sA
      replace A := nT A bN
      try replace Z := Z.keep bN
      try replace cX := kC bN cX
      refine hK.out _ _ (CC.out _ A) (fun _ => ?_)
      clear bN
      generalize wn = wv at *
      clear hK K; (try simp only [sA, sZ, sS]); have g4 := True.intro)
   | (have _q := mk7; clear _q mk7
      have ZZ : Hid (ZI (w.heap.size + 1 + 1) wv) := Z
      obtain ⟨⟨z0, z1, z2, z3, z4, z5⟩, f0, f1, f2, f3, f4, f5⟩ := Z
      go_simp
      clear z0 z1 z2 z3 z4 z5 f0 f1 f2 f3 f4 f5
      have S8 : AtT w.heap.size x y ((((((wv.setCell ⟨w.heap.size + 1 + 1, 0, none⟩ (.bool X.1)).setCell ⟨w.heap.size + 1 + 1, 1, none⟩ (.slice X.2.1 X.2.2.1 X.2.2.2.1)).setCell ⟨w.heap.size + 1 + 1, 2, none⟩ (.int .i64 X.2.2.2.2.2)).setCell ⟨w.heap.size + 1 + 1, 3, none⟩ (.bool Y.1)).setCell ⟨w.heap.size + 1 + 1, 4, none⟩ (.slice Y.2.1 Y.2.2.1 Y.2.2.2.1)).setCell ⟨w.heap.size + 1 + 1, 5, none⟩ (.int .i64 Y.2.2.2.2.2)) ∧ AtT (w.heap.size + 1) u v ((((((wv.setCell ⟨w.heap.size + 1 + 1, 0, none⟩ (.bool X.1)).setCell ⟨w.heap.size + 1 + 1, 1, none⟩ (.slice X.2.1 X.2.2.1 X.2.2.2.1)).setCell ⟨w.heap.size + 1 + 1, 2, none⟩ (.int .i64 X.2.2.2.2.2)).setCell ⟨w.heap.size + 1 + 1, 3, none⟩ (.bool Y.1)).setCell ⟨w.heap.size + 1 + 1, 4, none⟩ (.slice Y.2.1 Y.2.2.1 Y.2.2.2.1)).setCell ⟨w.heap.size + 1 + 1, 5, none⟩ (.int .i64 Y.2.2.2.2.2)) := ⟨AtI.set6 (CC.out _ A).1 (by omega) _ _ _ _ _ _, AtI.set6 (CC.out _ A).2 (by omega) _ _ _ _ _ _⟩
      have YY := att6 ZZ.out X Y
      have pX := oX.six ZZ.out (.bool X.1) (.slice X.2.1 X.2.2.1 X.2.2.2.1) (.int .i64 X.2.2.2.2.2) (.bool Y.1) (.slice Y.2.1 Y.2.2.1 Y.2.2.2.1) (.int .i64 Y.2.2.2.2.2)
      have pY := oY.six ZZ.out (.bool X.1) (.slice X.2.1 X.2.2.1 X.2.2.2.1) (.int .i64 X.2.2.2.2.2) (.bool Y.1) (.slice Y.2.1 Y.2.2.1 Y.2.2.2.1) (.int .i64 Y.2.2.2.2.2)
      have bB : Below w.heap.size w ((((((wv.setCell ⟨w.heap.size + 1 + 1, 0, none⟩ (.bool X.1)).setCell ⟨w.heap.size + 1 + 1, 1, none⟩ (.slice X.2.1 X.2.2.1 X.2.2.2.1)).setCell ⟨w.heap.size + 1 + 1, 2, none⟩ (.int .i64 X.2.2.2.2.2)).setCell ⟨w.heap.size + 1 + 1, 3, none⟩ (.bool Y.1)).setCell ⟨w.heap.size + 1 + 1, 4, none⟩ (.slice Y.2.1 Y.2.2.1 Y.2.2.2.1)).setCell ⟨w.heap.size + 1 + 1, 5, none⟩ (.int .i64 Y.2.2.2.2.2)) := bodies (nT bA A) (by omega) _ _ _ _ _ _
      clear A oX oY ZZ
      refine hK.out _ _ S8 (fun _ => ?_)
      generalize ((((((wv.setCell ⟨w.heap.size + 1 + 1, 0, none⟩ (.bool X.1)).setCell ⟨w.heap.size + 1 + 1, 1, none⟩ (.slice X.2.1 X.2.2.1 X.2.2.2.1)).setCell ⟨w.heap.size + 1 + 1, 2, none⟩ (.int .i64 X.2.2.2.2.2)).setCell ⟨w.heap.size + 1 + 1, 3, none⟩ (.bool Y.1)).setCell ⟨w.heap.size + 1 + 1, 4, none⟩ (.slice Y.2.1 Y.2.2.1 Y.2.2.2.1)).setCell ⟨w.heap.size + 1 + 1, 5, none⟩ (.int .i64 Y.2.2.2.2.2)) = wn at *
      generalize wn = wv at *
      clear hK K; (try simp only [sA, sZ, sS]); have g7 := True.intro)
   | (have _q := mk8; clear _q mk8
      go_simp
      refine hK.out _ _ S8 (fun _ => ?_)
      clear hK K; (try simp only [sA, sZ, sS]); have g8 := True.intro)
 refine wpAnyH_done (by kernel_rfl) ?_ _
 obtain ⟨y0, y1, y2, y3, y4, y5⟩ := YY
 go_wp2_with fail
 exact bodyPost_ret (v := .tuple #[ivT X Y, .int .i64 R.1]) (by simp [results, Tryz.results21, go_sem, y0, y1, y2, y3, y4, y5]) rfl ⟨_, rfl, ⟨X, Y, rfl, eX, eY, pX, pY⟩, bB⟩
end Go.Proofs.YtahpdcbmekgkfaaGreatDoor

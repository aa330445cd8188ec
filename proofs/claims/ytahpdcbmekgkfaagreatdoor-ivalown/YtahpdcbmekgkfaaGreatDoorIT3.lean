/- Package ival: the least enclosure that has two in it. -/
import Derived.Test.YtahpdcbmekgkfaaGreatDoorAL
import Derived.Test.YtahpdcbmekgkfaaGreatDoorITX
import Derived.Test.YtahpdcbmekgkfaaGreatDoorIVGU
namespace Go.Proofs.YtahpdcbmekgkfaaGreatDoor
open Go.RowKit
theorem pk_inT {lo : Bool} {w : World} {x u : DT} (h : inT w x) (h' : inT w u) : inT w (pkT lo x u) := by
 unfold pkT
 split
 ·exact h'
 ·exact h
theorem ok_of {w : World} {x : DT} (h : inT w x) (r : rgT x = true) : okT w x := by
 obtain ⟨g, e1, e2⟩ := rightB_yes r
 exact ⟨h.1, h.2, g, by omega, by omega⟩
def joR (x y u v : DT) : Int × (Bool × Nat × Int) × (Bool × Nat × Int) := if (rtT x y && rtT u v) = true then cnR (pkT true x u) (pkT false y v) else nilR 2
abbrev obTT (x y u v : DT) : Obj := .cells #[.bool x.1, .slice x.2.1 x.2.2.1 x.2.2.2.1, .int .i64 x.2.2.2.2.2, .bool y.1, .slice y.2.1 y.2.2.1 y.2.2.2.1, .int .i64 y.2.2.2.2.2, .bool u.1, .slice u.2.1 u.2.2.1 u.2.2.2.1, .int .i64 u.2.2.2.2.2, .bool v.1, .slice v.2.1 v.2.2.1 v.2.2.2.1, .int .i64 v.2.2.2.2.2] 27
def right2 (x y u v : DT) : Prop := ∀ B W, inT W x → inT W y → inT W u → inT W v → At3 B 0 1 2 x W → At3 B 3 4 5 y W → At3 B 6 7 8 u W → At3 B 9 10 11 v W → Tab W → Calls Tryz.prog 63 #[.slice (some ⟨B, 0, none⟩) 2 2] W fun r w' => r = .returned (.bool (rtT x y && rtT u v)) ∧ Below W.heap.size W w'
theorem right2_ok (x y u v : DT) : right2 x y u v := fun B W i j k l a b c d t => iright2_calls x.1 x.2.1 x.2.2.1 x.2.2.2.1 x.2.2.2.2.1 x.2.2.2.2.2 y.1 y.2.1 y.2.2.1 y.2.2.2.1 y.2.2.2.2.1 y.2.2.2.2.2 u.1 u.2.1 u.2.2.1 u.2.2.2.1 u.2.2.2.2.1 u.2.2.2.2.2 v.1 v.2.1 v.2.2.1 v.2.2.2.1 v.2.2.2.2.1 v.2.2.2.2.2 B W i.1 i.2 j.1 j.2 k.1 k.2 l.1 l.2 a.1 a.2.1 a.2.2 b.1 b.2.1 b.2.2 c.1 c.2.1 c.2.2 d.1 d.2.1 d.2.2 t
set_option maxRecDepth 100000 in
set_option maxHeartbeats 8000000 in
theorem iJoin_calls (x y u v : DT) (w : World) (hx : inT w x) (hy : inT w y) (hu : inT w u) (hv : inT w v) (hT : Tab w) :
  Calls Tryz.prog 37 #[ivT x y, ivT u v] w fun r w' => ∃ a, r = .returned a ∧ IvA w.heap.size w' a (joR x y u v) ∧ Below w.heap.size w w' := by
 have A1 := att_new x y w
 have b1 := below_one w (obT x y)
 have A2 := att_new u v (w.alloc (obT x y))
 have b2 := below_one (w.alloc (obT x y)) (obT u v)
 have ZR := zi_new ((w.alloc (obT x y)).alloc (obT u v))
 have b3 := below_one ((w.alloc (obT x y)).alloc (obT u v)) obZ
 replace A1 := (A1.keep b2).keep b3
 replace A2 := A2.keep b3
 have bA := nT (nT b1 b2) b3
 rw [show (w.alloc (obT x y)).heap.size = w.heap.size + 1 by simp] at A2
 rw [show ((w.alloc (obT x y)).alloc (obT u v)).heap.size = w.heap.size + 1 + 1 by simp] at ZR
 have RC : Hid (right2 x y u v) := right2_ok x y u v
 have CC : Hid (∀ W, inT W (pkT true x u) → inT W (pkT false y v) → Tab W → _) := fun W i j t => canonR_calls (pkT true x u) (pkT false y v) W i j t
 have E1 : Hid ((rtT x y && rtT u v) = true → joR x y u v = cnR (pkT true x u) (pkT false y v)) := fun a => by unfold joR; rw [if_pos a]
 have E2 : Hid ((rtT x y && rtT u v) = false → joR x y u v = nilR 2) := fun a => by unfold joR; rw [a]; rfl
 generalize joR x y u v = RR at *
 generalize cnR (pkT true x u) (pkT false y v) = R at *
 clear b1 b2 b3
 replace hx := hx.keep bA
 replace hy := hy.keep bA
 replace hu := hu.keep bA
 replace hv := hv.keep bA
 replace hT := hT.kept bA
 go_enter Tryz.func37, Tryz.ntmps37
 go_upto_region 1 with fail
 generalize ((w.alloc (obT x y)).alloc (obT u v)).alloc obZ = wA at *
 have sR : w.heap.size + 1 + 1 < wA.heap.size := World.block_lt_of_cell? _ _ ZR.1.1
 have t0 : At3 wA.heap.size 0 1 2 x (wA.alloc (obTT x y u v)) := by refine ⟨?_, ?_, ?_⟩ <;> go_simp
 have t1 : At3 wA.heap.size 3 4 5 y (wA.alloc (obTT x y u v)) := by refine ⟨?_, ?_, ?_⟩ <;> go_simp
 have t2 : At3 wA.heap.size 6 7 8 u (wA.alloc (obTT x y u v)) := by refine ⟨?_, ?_, ?_⟩ <;> go_simp
 have t3 : At3 wA.heap.size 9 10 11 v (wA.alloc (obTT x y u v)) := by refine ⟨?_, ?_, ?_⟩ <;> go_simp
 have bM := below_one wA (obTT x y u v)
 have HA : Hid (AtT w.heap.size x y wA ∧ AtT (w.heap.size + 1) u v wA) := ⟨A1, A2⟩
 obtain ⟨k0, k1, k2, k3, k4, k5⟩ := A1
 obtain ⟨l0, l1, l2, l3, l4, l5⟩ := A2
 go_wp2_with fail
 refine cM (RC.out _ _ (hx.keep bM) (hy.keep bM) (hu.keep bM) (hv.keep bM) t0 t1 t2 t3 (hT.kept bM)) ?_
 rintro r w0 ⟨rfl, bN⟩
 replace bN := nT bM bN
 clear k0 k1 k2 k3 k4 k5 l0 l1 l2 l3 l4 l5 t0 t1 t2 t3 RC bM
 obtain ⟨A1, A2⟩ := HA.out
 replace A1 := A1.keep bN
 replace A2 := A2.keep bN
 replace ZR := ZR.keep bN
 have sA := bA.size
 replace sR : w.heap.size + 1 + 1 < w0.heap.size := Nat.lt_of_lt_of_le sR bN.size
 replace bA := nT bA bN
 have ix := hx.keep bN
 have iy := hy.keep bN
 have iu := hu.keep bN
 have iv := hv.keep bN
 have tt := hT.kept bN
 clear HA bN hx hy hu hv hT
 by_cases hr : (rtT x y && rtT u v) = true
 ·have HR : Hid (RR = R) := E1.out hr
  have hr2 := hr
  rw [Bool.and_eq_true] at hr2
  obtain ⟨r1, r2⟩ := rt_rg2 hr2.1
  obtain ⟨r3, r4⟩ := rt_rg2 hr2.2
  have kx := ok_of ix r1
  have ky := ok_of iy r2
  have ku := ok_of iu r3
  have kv := ok_of iv r4
  rw [hr]
  clear E1 E2 hr hr2 r1 r2 r3 r4
  go_upto_region 3 with fail
  have SS : Hid (∀ W, Below w0.heap.size w0 W → AtT w.heap.size x y W ∧ AtT (w.heap.size + 1) u v W) := fun W b => ⟨A1.keep b, A2.keep b⟩
  clear A1 A2
  have A : Below w0.heap.size w0 (World.drew w0) := (Below.refl _ _).drew
  refine wp_region_held (S := fun w' => AtT w.heap.size x y w' ∧ AtT (w.heap.size + 1) u v w') (by kernel_rfl) ?_
  change wpAnyH _ _ _ _ _ _ _ _ (World.drew w0)
  generalize World.drew w0 = wv at A ⊢
  refine tk 1 (.pointer (some ⟨w.heap.size, 0, none⟩)) rfl (by kernel_rfl) (fun _ _ _ h => h) (by rfl) ?_ (SS.out _ A) ?_
  ·intro ww hS
   clear hS
   go_simp
   try with_reducible rfl
  try simp only [Act.put]
  refine tk 2 (dT x) rfl (by kernel_rfl) (fun _ _ _ h => h) (by rfl) ?_ (SS.out _ A) ?_
  ·intro ww hS
   obtain ⟨⟨q0, q1, q2, q3, q4, q5⟩, ⟨p0, p1, p2, p3, p4, p5⟩⟩ := id hS
   clear hS
   go_simp
   try with_reducible rfl
  try simp only [Act.put]
  refine tk 3 (.pointer (some ⟨w.heap.size + 1, 0, none⟩)) rfl (by kernel_rfl) (fun _ _ _ h => h) (by rfl) ?_ (SS.out _ A) ?_
  ·intro ww hS
   clear hS
   go_simp
   try with_reducible rfl
  try simp only [Act.put]
  refine tk 4 (dT u) rfl (by kernel_rfl) (fun _ _ _ h => h) (by rfl) ?_ (SS.out _ A) ?_
  ·intro ww hS
   obtain ⟨⟨q0, q1, q2, q3, q4, q5⟩, ⟨p0, p1, p2, p3, p4, p5⟩⟩ := id hS
   clear hS
   go_simp
   try with_reducible rfl
  try simp only [Act.put]
  refine tk 8 (.pointer (some ⟨w.heap.size, 3, none⟩)) rfl (by kernel_rfl) (fun _ _ _ h => h) (by rfl) ?_ (SS.out _ A) ?_
  ·intro ww hS
   clear hS
   go_simp
   try with_reducible rfl
  try simp only [Act.put]
  refine tk 9 (dT y) rfl (by kernel_rfl) (fun _ _ _ h => h) (by rfl) ?_ (SS.out _ A) ?_
  ·intro ww hS
   obtain ⟨⟨q0, q1, q2, q3, q4, q5⟩, ⟨p0, p1, p2, p3, p4, p5⟩⟩ := id hS
   clear hS
   go_simp
   try with_reducible rfl
  try simp only [Act.put]
  refine tk 10 (.pointer (some ⟨w.heap.size + 1, 3, none⟩)) rfl (by kernel_rfl) (fun _ _ _ h => h) (by rfl) ?_ (SS.out _ A) ?_
  ·intro ww hS
   clear hS
   go_simp
   try with_reducible rfl
  try simp only [Act.put]
  refine tk 11 (dT v) rfl (by kernel_rfl) (fun _ _ _ h => h) (by rfl) ?_ (SS.out _ A) ?_
  ·intro ww hS
   obtain ⟨⟨q0, q1, q2, q3, q4, q5⟩, ⟨p0, p1, p2, p3, p4, p5⟩⟩ := id hS
   clear hS
   go_simp
   try with_reducible rfl
  try simp only [Act.put]
  iterate 9
   all_goals
    first
    | (have _q := g0; have _q := g5; have _q := g6; have _q := g7; have _q := g12; have _q := g13; have _q := g15; have _q := g18; refine wpAnyH_ready (rs := [19]) (by kernel_rfl) (by simp) ?_; refine AllReadyH.cons rfl (fun K hK => have mk19 := True.intro; ?_) (AllReadyH.nil))
    | (have _q := g0; have _q := g5; have _q := g6; have _q := g7; have _q := g12; have _q := g13; have _q := g15; refine wpAnyH_take (i := 16) (v := ivT X Y) rfl (by kernel_rfl) (by kernel_rfl) (by kernel_rfl) (fun _ _ _ h => h) (Or.inl ⟨by rfl, by (intro ww hS;  clear hS; go_simp; try with_reducible rfl)⟩) (SS.out _ A) ?_; (try simp only [Act.put]); refine wpAnyH_take (i := 17) (v := .int .i64 R.1) rfl (by kernel_rfl) (by kernel_rfl) (by kernel_rfl) (fun _ _ _ h => h) (Or.inl ⟨by rfl, by (intro ww hS;  clear hS; go_simp; try with_reducible rfl)⟩) (SS.out _ A) ?_; (try simp only [Act.put]); refine wpAnyH_ready (rs := [18]) (by kernel_rfl) (by simp) ?_; refine AllReadyH.cons rfl (fun K hK => have mk18 := True.intro; ?_) (AllReadyH.nil))
    | (have _q := g0; have _q := g5; have _q := g6; have _q := g7; have _q := g12; have _q := g13; refine wpAnyH_take (i := 14) (v := ivT (pkT true x u) (pkT false y v)) rfl (by kernel_rfl) (by kernel_rfl) (by kernel_rfl) (fun _ _ _ h => h) (Or.inl ⟨by rfl, by (intro ww hS;  clear hS; go_simp; try with_reducible rfl)⟩) (SS.out _ A) ?_; (try simp only [Act.put]); refine wpAnyH_ready (rs := [15]) (by kernel_rfl) (by simp) ?_; refine AllReadyH.cons rfl (fun K hK => have mk15 := True.intro; ?_) (AllReadyH.nil))
    | (have _q := g0; have _q := g5; have _q := g6; have _q := g7; have _q := g12; refine wpAnyH_ready (rs := [13]) (by kernel_rfl) (by simp) ?_; refine AllReadyH.cons rfl (fun K hK => have mk13 := True.intro; ?_) (AllReadyH.nil))
    | (have _q := g0; have _q := g5; have _q := g6; have _q := g7; refine wpAnyH_ready (rs := [12]) (by kernel_rfl) (by simp) ?_; refine AllReadyH.cons rfl (fun K hK => have mk12 := True.intro; ?_) (AllReadyH.nil))
    | (have _q := g0; have _q := g5; have _q := g6; have _q := g12; refine wpAnyH_ready (rs := [7]) (by kernel_rfl) (by simp) ?_; refine AllReadyH.cons rfl (fun K hK => have mk7 := True.intro; ?_) (AllReadyH.nil))
    | (have _q := g0; have _q := g5; have _q := g6; refine wpAnyH_ready (rs := [7, 12]) (by kernel_rfl) (by simp) ?_; refine AllReadyH.cons rfl (fun K hK => have mk7 := True.intro; ?_) (AllReadyH.cons rfl (fun K hK => have mk12 := True.intro; ?_) (AllReadyH.nil)))
    | (have _q := g0; have _q := g5; have _q := g12; refine wpAnyH_ready (rs := [6]) (by kernel_rfl) (by simp) ?_; refine AllReadyH.cons rfl (fun K hK => have mk6 := True.intro; ?_) (AllReadyH.nil))
    | (have _q := g0; have _q := g5; refine wpAnyH_ready (rs := [6, 12]) (by kernel_rfl) (by simp) ?_; refine AllReadyH.cons rfl (fun K hK => have mk6 := True.intro; ?_) (AllReadyH.cons rfl (fun K hK => have mk12 := True.intro; ?_) (AllReadyH.nil)))
    | (have _q := g0; have _q := g12; refine wpAnyH_ready (rs := [5]) (by kernel_rfl) (by simp) ?_; refine AllReadyH.cons rfl (fun K hK => have mk5 := True.intro; ?_) (AllReadyH.nil))
    | (have _q := g5; have _q := g12; refine wpAnyH_ready (rs := [0]) (by kernel_rfl) (by simp) ?_; refine AllReadyH.cons rfl (fun K hK => have mk0 := True.intro; ?_) (AllReadyH.nil))
    | (have _q := g0; refine wpAnyH_ready (rs := [5, 12]) (by kernel_rfl) (by simp) ?_; refine AllReadyH.cons rfl (fun K hK => have mk5 := True.intro; ?_) (AllReadyH.cons rfl (fun K hK => have mk12 := True.intro; ?_) (AllReadyH.nil)))
    | (have _q := g5; refine wpAnyH_ready (rs := [0, 12]) (by kernel_rfl) (by simp) ?_; refine AllReadyH.cons rfl (fun K hK => have mk0 := True.intro; ?_) (AllReadyH.cons rfl (fun K hK => have mk12 := True.intro; ?_) (AllReadyH.nil)))
    | (have _q := g12; refine wpAnyH_ready (rs := [0, 5]) (by kernel_rfl) (by simp) ?_; refine AllReadyH.cons rfl (fun K hK => have mk0 := True.intro; ?_) (AllReadyH.cons rfl (fun K hK => have mk5 := True.intro; ?_) (AllReadyH.nil)))
    | (refine wpAnyH_ready (rs := [0, 5, 12]) (by kernel_rfl) (by simp) ?_; refine AllReadyH.cons rfl (fun K hK => have mk0 := True.intro; ?_) (AllReadyH.cons rfl (fun K hK => have mk5 := True.intro; ?_) (AllReadyH.cons rfl (fun K hK => have mk12 := True.intro; ?_) (AllReadyH.nil))))
   all_goals
    first
    | (have _q := mk0; clear _q mk0
       go_simp
       refine cM (lowEnd_calls _) ?_
       rintro r wn ⟨rfl, bN⟩
       replace A := nT A bN
       try replace s1 := s1.keep bN
       try replace s2 := s2.keep bN
       refine hK.out _ _ (SS.out _ A) (fun _ => ?_)
       clear bN
       generalize wn = wv at *
       clear hK K; (try simp only [Act.put, sA, sZ, sS]); have g0 := True.intro)
    | (have _q := mk5; clear _q mk5
       go_simp
       have s1 := at3_new u wv
       have bN := below_one wv (obD u)
       replace A := nT A bN
       try replace s2 := s2.keep bN
       refine hK.out _ _ (SS.out _ A) (fun _ => ?_)
       clear bN
       generalize wv.heap.size = BL at *
       generalize wv.alloc (obD u) = wn at *
       generalize wn = wv at *
       clear hK K; (try simp only [Act.put, sA, sZ, sS]); have g5 := True.intro)
    | (have _q := mk12; clear _q mk12
       go_simp
       have s2 := at3_new v wv
       have bN := below_one wv (obD v)
       replace A := nT A bN
       try replace s1 := s1.keep bN
       refine hK.out _ _ (SS.out _ A) (fun _ => ?_)
       clear bN
       generalize wv.heap.size = BU at *
       generalize wv.alloc (obD v) = wn at *
       generalize wn = wv at *
       clear hK K; (try simp only [Act.put, sA, sZ, sS]); have g12 := True.intro)
    | (have _q := mk7; clear _q mk7
       go_simp
       refine cM (uppEnd_calls _) ?_
       rintro r wn ⟨rfl, bN⟩
       replace A := nT A bN
       try replace s1 := s1.keep bN
       try replace s2 := s2.keep bN
       refine hK.out _ _ (SS.out _ A) (fun _ => ?_)
       clear bN
       generalize wn = wv at *
       clear hK K; (try simp only [Act.put, sA, sZ, sS]); have g7 := True.intro)
    | (have _q := mk6; clear _q mk6
       go_simp
       refine cM (lowOut1_calls x u BL _ (kx.keep A) (ku.keep A) s1.1 s1.2.1 s1.2.2 (tt.kept A)) ?_
       rintro r wn ⟨rfl, bN⟩
       replace A := nT A bN
       try replace s1 := s1.keep bN
       try replace s2 := s2.keep bN
       refine hK.out _ _ (SS.out _ A) (fun _ => ?_)
       clear bN
       generalize wn = wv at *
       clear hK K; (try simp only [Act.put, sA, sZ, sS]); have g6 := True.intro)
    | (have _q := mk13; clear _q mk13
       go_simp
       refine cM (uppOut1_calls y v BU _ (ky.keep A) (kv.keep A) s2.1 s2.2.1 s2.2.2 (tt.kept A)) ?_
       rintro r wn ⟨rfl, bN⟩
       replace A := nT A bN
       try replace s1 := s1.keep bN
       try replace s2 := s2.keep bN
       refine hK.out _ _ (SS.out _ A) (fun _ => ?_)
       clear bN
       generalize wn = wv at *
       clear hK K; (try simp only [Act.put, sA, sZ, sS]); have g13 := True.intro)
    | (have _q := mk15; clear _q mk15
       go_simp
       refine cM (CC.out _ (pk_inT (ix.keep A) (iu.keep A)) (pk_inT (iy.keep A) (iv.keep A)) (tt.kept A)) ?_
       rintro r wn ⟨cv, rfl, ⟨X, Y, rfl, pX, pY, oX, oY⟩, bN⟩
       replace oX : ownT w0.heap.size wn X := ⟨oX.1.low A.size, oX.2⟩
       replace oY : ownT w0.heap.size wn Y := ⟨oY.1.low A.size, oY.2⟩
       replace A := nT A bN
       try replace s1 := s1.keep bN
       try replace s2 := s2.keep bN
       refine hK.out _ _ (SS.out _ A) (fun _ => ?_)
       clear bN
       generalize wn = wv at *
       clear hK K; (try simp only [Act.put, sA, sZ, sS]); have g15 := True.intro)
    | (have _q := mk18; clear _q mk18
       have Z2 := ZR.keep A
       have ZZ : Hid (ZI (w.heap.size + 1 + 1) wv) := Z2
       obtain ⟨⟨z0, z1, z2, z3, z4, z5⟩, f0, f1, f2, f3, f4, f5⟩ := Z2
       go_simp
       refine hK.out _ _ ⟨(SS.out _ A).1.set6 (by omega) _ _ _ _ _ _, (SS.out _ A).2.set6 (by omega) _ _ _ _ _ _⟩ (fun _ => ?_)
       clear hK K; (try simp only [Act.put, sA, sZ, sS]); have g18 := True.intro)
    | (have _q := mk19; clear _q mk19
       go_simp
       refine hK.out _ _ ⟨(SS.out _ A).1.set6 (by omega) _ _ _ _ _ _, (SS.out _ A).2.set6 (by omega) _ _ _ _ _ _⟩ (fun _ => ?_)
       clear hK K; (try simp only [Act.put, sA, sZ, sS]); have g19 := True.intro)
  all_goals
   refine wpAnyH_done (by kernel_rfl) ?_ _
   have bF := nT bA A
   go_wp2_with fail
   exact bodyPost_ret (v := .tuple #[ivT X Y, .int .i64 R.1]) (by simp [results, Tryz.results37, go_sem, z0, z1, z2, z3, z4, z5]) rfl ⟨_, rfl, by rw [HR.out]; exact ⟨X, Y, rfl, pX, pY, (show ownT w.heap.size wv X from ⟨oX.1.low (Nat.le_trans (by omega) (Nat.le_refl _)), oX.2⟩).six ZZ.out _ _ _ _ _ _, (show ownT w.heap.size wv Y from ⟨oY.1.low (Nat.le_trans (by omega) (Nat.le_refl _)), oY.2⟩).six ZZ.out _ _ _ _ _ _⟩, by repeat (first | (with_reducible exact bF) | (with_reducible refine Below.setCell ?_ (by simp; try omega) _))⟩
 ·rw [Bool.not_eq_true] at hr
  have HR : Hid (RR = nilR 2) := E2.out hr
  rw [hr]
  clear E1 E2 CC
  obtain ⟨⟨z0, z1, z2, z3, z4, z5⟩, f0, f1, f2, f3, f4, f5⟩ := ZR
  go_wp2_with fail
  exact bodyPost_ret (v := .tuple #[zIvI, .int .i64 2]) (by simp [results, Tryz.results37, go_sem, z0, z1, z2, z3, z4, z5]) rfl ⟨_, rfl, by rw [HR.out]; exact ivA_nil _ _ _, by repeat (first | (with_reducible exact bA) | (with_reducible refine Below.setCell ?_ (by simp; try omega) _))⟩
end Go.Proofs.YtahpdcbmekgkfaaGreatDoor

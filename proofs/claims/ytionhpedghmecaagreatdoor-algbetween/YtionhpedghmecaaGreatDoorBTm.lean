/- AlgBetween: the points halfway to the neighbours. -/
import Derived.Test.YtionhpedghmecaaGreatDoorBT1
import Derived.Test.YtionhpedghmecaaGreatDoorFX
namespace Go.Proofs.YtionhpedghmecaaGreatDoor
open Go.RowKit
set_option maxRecDepth 100000 in
set_option maxHeartbeats 4000000 in
theorem mids_calls (r f : Int) (w : World) (ur : U r) (hr : finB r = true) (ud : U (downV r)) (hd : finB (downV r) = true) (hTw : Tab w) :
  Calls Tryz.prog 8 #[.agg #[.int .u64 r, .int .u8 f]] w fun q w' => ∃ v1 v2, q = .returned (.tuple #[v1, v2, .bool true]) ∧ DyAt w.heap.size w' v1 (midQ (downV r)) ∧ DyAt w.heap.size w' v2 (midQ r) ∧ Below w.heap.size w w' := by
 have HD : Hid _ := fun W => down_calls r W ur
 have H1 : Hid _ := fun W (t : Tab W) => pMid_calls (downV r) W ud t
 have H2 : Hid _ := fun W (t : Tab W) => pMid_calls r W ur t
 have e1 : lastE r = 0 := by unfold lastE; rw [hr]; rfl
 have e2 : lastE (downV r) = 0 := by unfold lastE; rw [hd]; rfl
 have e3 : midP r = midQ r := by unfold midP; rw [hr]; rfl
 have e4 : midP (downV r) = midQ (downV r) := by unfold midP; rw [hd]; rfl
 rw [e2, e4] at H1
 rw [e1, e3] at H2
 generalize midQ (downV r) = p at *
 generalize midQ r = q at *
 generalize downV r = d at *
 clear e1 e2 e3 e4 ur hr ud hd
 have bA : Below w.heap.size w (((w.alloc (.cells #[.int .u64 (r), .int .u8 (f)] 34)).alloc (.cells #[.bool false, .slice none 0 0, .int .i64 0] 27)).alloc (.cells #[.bool false, .slice none 0 0, .int .i64 0] 27)) := nT (nT (below_one _ _) (below_one _ _)) (below_one _ _)
 have hT := hTw.kept bA
 have k0 : (((w.alloc (.cells #[.int .u64 (r), .int .u8 (f)] 34)).alloc (.cells #[.bool false, .slice none 0 0, .int .i64 0] 27)).alloc (.cells #[.bool false, .slice none 0 0, .int .i64 0] 27)).cell? ⟨w.heap.size, 0, none⟩ = some (.int .u64 r) := by go_simp
 have y0 : (((w.alloc (.cells #[.int .u64 (r), .int .u8 (f)] 34)).alloc (.cells #[.bool false, .slice none 0 0, .int .i64 0] 27)).alloc (.cells #[.bool false, .slice none 0 0, .int .i64 0] 27)).cell? ⟨w.heap.size + 1, 0, none⟩ = some (.bool false) := by go_simp
 have y1 : (((w.alloc (.cells #[.int .u64 (r), .int .u8 (f)] 34)).alloc (.cells #[.bool false, .slice none 0 0, .int .i64 0] 27)).alloc (.cells #[.bool false, .slice none 0 0, .int .i64 0] 27)).cell? ⟨w.heap.size + 1, 1, none⟩ = some (.slice none 0 0) := by go_simp
 have y2 : (((w.alloc (.cells #[.int .u64 (r), .int .u8 (f)] 34)).alloc (.cells #[.bool false, .slice none 0 0, .int .i64 0] 27)).alloc (.cells #[.bool false, .slice none 0 0, .int .i64 0] 27)).cell? ⟨w.heap.size + 1, 2, none⟩ = some (.int .i64 0) := by go_simp
 have z0 : (((w.alloc (.cells #[.int .u64 (r), .int .u8 (f)] 34)).alloc (.cells #[.bool false, .slice none 0 0, .int .i64 0] 27)).alloc (.cells #[.bool false, .slice none 0 0, .int .i64 0] 27)).cell? ⟨w.heap.size + 2, 0, none⟩ = some (.bool false) := by go_simp
 have z1 : (((w.alloc (.cells #[.int .u64 (r), .int .u8 (f)] 34)).alloc (.cells #[.bool false, .slice none 0 0, .int .i64 0] 27)).alloc (.cells #[.bool false, .slice none 0 0, .int .i64 0] 27)).cell? ⟨w.heap.size + 2, 1, none⟩ = some (.slice none 0 0) := by go_simp
 have z2 : (((w.alloc (.cells #[.int .u64 (r), .int .u8 (f)] 34)).alloc (.cells #[.bool false, .slice none 0 0, .int .i64 0] 27)).alloc (.cells #[.bool false, .slice none 0 0, .int .i64 0] 27)).cell? ⟨w.heap.size + 2, 2, none⟩ = some (.int .i64 0) := by go_simp
 have g0 : (((w.alloc (.cells #[.int .u64 (r), .int .u8 (f)] 34)).alloc (.cells #[.bool false, .slice none 0 0, .int .i64 0] 27)).alloc (.cells #[.bool false, .slice none 0 0, .int .i64 0] 27)).frozen? ⟨w.heap.size + 1, 0, none⟩ = false := by go_simp
 have g1 : (((w.alloc (.cells #[.int .u64 (r), .int .u8 (f)] 34)).alloc (.cells #[.bool false, .slice none 0 0, .int .i64 0] 27)).alloc (.cells #[.bool false, .slice none 0 0, .int .i64 0] 27)).frozen? ⟨w.heap.size + 1, 1, none⟩ = false := by go_simp
 have g2 : (((w.alloc (.cells #[.int .u64 (r), .int .u8 (f)] 34)).alloc (.cells #[.bool false, .slice none 0 0, .int .i64 0] 27)).alloc (.cells #[.bool false, .slice none 0 0, .int .i64 0] 27)).frozen? ⟨w.heap.size + 1, 2, none⟩ = false := by go_simp
 have f0 : (((w.alloc (.cells #[.int .u64 (r), .int .u8 (f)] 34)).alloc (.cells #[.bool false, .slice none 0 0, .int .i64 0] 27)).alloc (.cells #[.bool false, .slice none 0 0, .int .i64 0] 27)).frozen? ⟨w.heap.size + 2, 0, none⟩ = false := by go_simp
 have f1 : (((w.alloc (.cells #[.int .u64 (r), .int .u8 (f)] 34)).alloc (.cells #[.bool false, .slice none 0 0, .int .i64 0] 27)).alloc (.cells #[.bool false, .slice none 0 0, .int .i64 0] 27)).frozen? ⟨w.heap.size + 2, 1, none⟩ = false := by go_simp
 have f2 : (((w.alloc (.cells #[.int .u64 (r), .int .u8 (f)] 34)).alloc (.cells #[.bool false, .slice none 0 0, .int .i64 0] 27)).alloc (.cells #[.bool false, .slice none 0 0, .int .i64 0] 27)).frozen? ⟨w.heap.size + 2, 2, none⟩ = false := by go_simp
 have hs : Hid (w.heap.size + 3 ≤ (((w.alloc (.cells #[.int .u64 (r), .int .u8 (f)] 34)).alloc (.cells #[.bool false, .slice none 0 0, .int .i64 0] 27)).alloc (.cells #[.bool false, .slice none 0 0, .int .i64 0] 27)).heap.size) := by show w.heap.size + 3 ≤ _; simp
 clear hTw
 go_enter Tryz.func8, Tryz.ntmps8
 go_wp2_with fail
 generalize (((w.alloc (.cells #[.int .u64 (r), .int .u8 (f)] 34)).alloc (.cells #[.bool false, .slice none 0 0, .int .i64 0] 27)).alloc (.cells #[.bool false, .slice none 0 0, .int .i64 0] 27)) = w0 at *
 refine Calls.mono (HD.out _) ?_
 rintro _ _ ⟨rfl, rfl⟩
 go_wp2_with fail
 refine Calls.mono (H1.out _ hT) ?_
 rintro _ w1 ⟨_, rfl, ⟨a1, n1, c1, rfl, HN1, hn1, hO1⟩, b1⟩
 replace hO1 := hO1.low hs.out
 replace g0 := kF b1 y0 g0
 replace g1 := kF b1 y1 g1
 replace g2 := kF b1 y2 g2
 replace f0 := kF b1 z0 f0
 replace f1 := kF b1 z1 f1
 replace f2 := kF b1 z2 f2
 replace k0 := kC b1 k0
 replace y0 := kC b1 y0
 replace y1 := kC b1 y1
 replace y2 := kC b1 y2
 replace z0 := kC b1 z0
 replace z1 := kC b1 z1
 replace z2 := kC b1 z2
 replace hT := hT.kept b1
 replace bA := nT bA b1
 replace hs := le_hidP hs b1.size
 clear b1
 have na0 : w1.heap.size ≠ w.heap.size + 1 := by have := hs.out; omega
 have na1 : w1.heap.size ≠ w.heap.size + 2 := by have := hs.out; omega
 have na2 : w.heap.size + 1 ≠ w1.heap.size := by have := hs.out; omega
 have na3 : w.heap.size + 2 ≠ w1.heap.size := by have := hs.out; omega
 have b1 := below_one w1 (.cells #[.bool p.1, .slice a1 n1 c1, .int .i64 p.2.2] 27)
 obtain ⟨s0, s1, s2⟩ := fX10 w1 p a1 n1 c1
 replace g0 := kF b1 y0 g0
 replace g1 := kF b1 y1 g1
 replace g2 := kF b1 y2 g2
 replace f0 := kF b1 z0 f0
 replace f1 := kF b1 z1 f1
 replace f2 := kF b1 z2 f2
 replace k0 := kC b1 k0
 replace y0 := kC b1 y0
 replace y1 := kC b1 y1
 replace y2 := kC b1 y2
 replace z0 := kC b1 z0
 replace z1 := kC b1 z1
 replace z2 := kC b1 z2
 replace hO1 := hO1.keep b1
 replace hT := hT.kept b1
 replace bA := nT bA b1
 replace hs := le_hidP hs b1.size
 clear b1
 go_wp2_with fail
 generalize w1.alloc (.cells #[.bool p.1, .slice a1 n1 c1, .int .i64 p.2.2] 27) = w2 at *
 generalize w1.heap.size = A1 at *
 refine Calls.mono (H2.out _ hT) ?_
 rintro _ w3 ⟨_, rfl, ⟨a2, n2, c2, rfl, HN2, hn2, hO2⟩, b1⟩
 replace hO2 := hO2.low hs.out
 replace g0 := kF b1 y0 g0
 replace g1 := kF b1 y1 g1
 replace g2 := kF b1 y2 g2
 replace f0 := kF b1 z0 f0
 replace f1 := kF b1 z1 f1
 replace f2 := kF b1 z2 f2
 replace k0 := kC b1 k0
 replace y0 := kC b1 y0
 replace y1 := kC b1 y1
 replace y2 := kC b1 y2
 replace z0 := kC b1 z0
 replace z1 := kC b1 z1
 replace z2 := kC b1 z2
 replace s0 := kC b1 s0
 replace s1 := kC b1 s1
 replace s2 := kC b1 s2
 replace hO1 := hO1.keep b1
 replace hT := hT.kept b1
 replace bA := nT bA b1
 replace hs := le_hidP hs b1.size
 clear b1
 have nb0 : w3.heap.size ≠ w.heap.size + 1 := by have := hs.out; omega
 have nb1 : w3.heap.size ≠ w.heap.size + 2 := by have := hs.out; omega
 have nb2 : w.heap.size + 1 ≠ w3.heap.size := by have := hs.out; omega
 have nb3 : w.heap.size + 2 ≠ w3.heap.size := by have := hs.out; omega
 have b1 := below_one w3 (.cells #[.bool q.1, .slice a2 n2 c2, .int .i64 q.2.2] 27)
 obtain ⟨t0, t1, t2⟩ := fX10 w3 q a2 n2 c2
 replace g0 := kF b1 y0 g0
 replace g1 := kF b1 y1 g1
 replace g2 := kF b1 y2 g2
 replace f0 := kF b1 z0 f0
 replace f1 := kF b1 z1 f1
 replace f2 := kF b1 z2 f2
 replace k0 := kC b1 k0
 replace y0 := kC b1 y0
 replace y1 := kC b1 y1
 replace y2 := kC b1 y2
 replace z0 := kC b1 z0
 replace z1 := kC b1 z1
 replace z2 := kC b1 z2
 replace s0 := kC b1 s0
 replace s1 := kC b1 s1
 replace s2 := kC b1 s2
 replace hO1 := hO1.keep b1
 replace hO2 := hO2.keep b1
 replace hT := hT.kept b1
 replace bA := nT bA b1
 replace hs := le_hidP hs b1.size
 clear b1
 go_wp2_with fail
 generalize w3.alloc (.cells #[.bool q.1, .slice a2 n2 c2, .int .i64 q.2.2] 27) = w4 at *
 generalize w3.heap.size = A2 at *
 refine wp_region_held (S := fun W => W.cell? ⟨A1, 0, none⟩ = some (.bool p.1) ∧ W.cell? ⟨A1, 1, none⟩ = some (.slice a1 n1 c1) ∧ W.cell? ⟨A1, 2, none⟩ = some (.int .i64 p.2.2) ∧ W.cell? ⟨A2, 0, none⟩ = some (.bool q.1) ∧ W.cell? ⟨A2, 1, none⟩ = some (.slice a2 n2 c2) ∧ W.cell? ⟨A2, 2, none⟩ = some (.int .i64 q.2.2)) (by kernel_rfl) ?_
 change wpAnyH _ _ _ _ _ _ _ _ (World.drew w4)
 have bD : Below w4.heap.size w4 w4.drew := (Below.refl _ _).drew
 replace y0 := kC bD y0
 replace y1 := kC bD y1
 replace y2 := kC bD y2
 replace z0 := kC bD z0
 replace z1 := kC bD z1
 replace z2 := kC bD z2
 replace s0 := kC bD s0
 replace s1 := kC bD s1
 replace s2 := kC bD s2
 replace t0 := kC bD t0
 replace t1 := kC bD t1
 replace t2 := kC bD t2
 have g0d : w4.drew.frozen? ⟨w.heap.size + 1, 0, none⟩ = false := by go_simp
 clear g0
 have g1d : w4.drew.frozen? ⟨w.heap.size + 1, 1, none⟩ = false := by go_simp
 clear g1
 have g2d : w4.drew.frozen? ⟨w.heap.size + 1, 2, none⟩ = false := by go_simp
 clear g2
 have f0d : w4.drew.frozen? ⟨w.heap.size + 2, 0, none⟩ = false := by go_simp
 clear f0
 have f1d : w4.drew.frozen? ⟨w.heap.size + 2, 1, none⟩ = false := by go_simp
 clear f1
 have f2d : w4.drew.frozen? ⟨w.heap.size + 2, 2, none⟩ = false := by go_simp
 clear f2
 replace hO1 := hO1.keep bD
 replace hO2 := hO2.keep bD
 replace bA := nT bA bD
 generalize World.drew w4 = wd at *
 refine wpAnyH_take (i := 0) (oi := { dst := some 22, op := Op.load 27 (Operand.tmp 5), type := 27, pos := "law.go:45", after := #[], guard := none }) (v := .agg #[.bool p.1, .slice a1 n1 c1, .int .i64 p.2.2]) rfl (by kernel_rfl) (by kernel_rfl) (by kernel_rfl) (fun _ _ _ h => h) (Or.inl ⟨by rfl, ?y0⟩) ⟨s0, s1, s2, t0, t1, t2⟩ ?r0
 case y0 => (intro ww hS; obtain ⟨s0, s1, s2, t0, t1, t2⟩ := hS; go_simp; try with_reducible rfl)
 try simp only [Act.put, List.setIfInBounds_toArray, List.set_cons_zero, List.set_cons_succ]
 refine wpAnyH_take (i := 1) (oi := { dst := some 23, op := Op.load 27 (Operand.tmp 7), type := 27, pos := "law.go:45", after := #[{ on := 8, ground := Ground.gcOnly Departure.lateStores }], guard := none }) (v := .agg #[.bool q.1, .slice a2 n2 c2, .int .i64 q.2.2]) rfl (by kernel_rfl) (by kernel_rfl) (by kernel_rfl) (fun _ _ _ h => h) (Or.inl ⟨by rfl, ?y1⟩) ⟨s0, s1, s2, t0, t1, t2⟩ ?r1
 case y1 => (intro ww hS; obtain ⟨s0, s1, s2, t0, t1, t2⟩ := hS; go_simp; try with_reducible rfl)
 try simp only [Act.put, List.setIfInBounds_toArray, List.set_cons_zero, List.set_cons_succ]
 refine wpAnyH_take (i := 2) (oi := { dst := some 24, op := Op.move (Operand.tmp 6), type := 28, pos := "law.go:45", after := #[], guard := none }) (v := .int .i64 0) rfl (by kernel_rfl) (by kernel_rfl) (by kernel_rfl) (fun _ _ _ h => h) (Or.inl ⟨by rfl, ?y2⟩) ⟨s0, s1, s2, t0, t1, t2⟩ ?r2
 case y2 => (intro ww hS; obtain ⟨s0, s1, s2, t0, t1, t2⟩ := hS; go_simp; try with_reducible rfl)
 try simp only [Act.put, List.setIfInBounds_toArray, List.set_cons_zero, List.set_cons_succ]
 refine wpAnyH_take (i := 3) (oi := { dst := some 25, op := Op.binOp BinOp.eql 28 (Operand.tmp 24) (Operand.const (Value.int IntKind.i64 0)) 28, type := 4, pos := "law.go:45", after := #[{ on := 2, ground := Ground.data }], guard := none }) (v := .bool true) rfl (by kernel_rfl) (by kernel_rfl) (by kernel_rfl) (fun _ _ _ h => h) (Or.inl ⟨by rfl, ?y3⟩) ⟨s0, s1, s2, t0, t1, t2⟩ ?r3
 case y3 => (intro ww hS; obtain ⟨s0, s1, s2, t0, t1, t2⟩ := hS; go_simp; try with_reducible rfl)
 try simp only [Act.put, List.setIfInBounds_toArray, List.set_cons_zero, List.set_cons_succ]
 refine wpAnyH_take (i := 4) (oi := { dst := some 26, op := Op.move (Operand.tmp 25), type := 4, pos := "law.go:45", after := #[{ on := 3, ground := Ground.data }], guard := none }) (v := .bool true) rfl (by kernel_rfl) (by kernel_rfl) (by kernel_rfl) (fun _ _ _ h => h) (Or.inl ⟨by rfl, ?y4⟩) ⟨s0, s1, s2, t0, t1, t2⟩ ?r4
 case y4 => (intro ww hS; obtain ⟨s0, s1, s2, t0, t1, t2⟩ := hS; go_simp; try with_reducible rfl)
 try simp only [Act.put, List.setIfInBounds_toArray, List.set_cons_zero, List.set_cons_succ]
 refine wpAnyH_take (i := 5) (oi := { dst := some 27, op := Op.move (Operand.tmp 8), type := 28, pos := "law.go:45", after := #[{ on := 4, ground := Ground.guard }, { on := 9, ground := Ground.gcOnly Departure.lateStores }], guard := some (4, true) }) (v := .int .i64 0) rfl (by kernel_rfl) (by kernel_rfl) (by kernel_rfl) (fun _ _ _ h => h) (Or.inl ⟨by rfl, ?y5⟩) ⟨s0, s1, s2, t0, t1, t2⟩ ?r5
 case y5 => (intro ww hS; obtain ⟨s0, s1, s2, t0, t1, t2⟩ := hS; go_simp; try with_reducible rfl)
 try simp only [Act.put, List.setIfInBounds_toArray, List.set_cons_zero, List.set_cons_succ]
 refine wpAnyH_take (i := 6) (oi := { dst := some 28, op := Op.binOp BinOp.eql 28 (Operand.tmp 27) (Operand.const (Value.int IntKind.i64 0)) 28, type := 4, pos := "law.go:45", after := #[{ on := 5, ground := Ground.data }, { on := 4, ground := Ground.guard }, { on := 9, ground := Ground.gcOnly Departure.lateStores }], guard := some (4, true) }) (v := .bool true) rfl (by kernel_rfl) (by kernel_rfl) (by kernel_rfl) (fun _ _ _ h => h) (Or.inl ⟨by rfl, ?y6⟩) ⟨s0, s1, s2, t0, t1, t2⟩ ?r6
 case y6 => (intro ww hS; obtain ⟨s0, s1, s2, t0, t1, t2⟩ := hS; go_simp; try with_reducible rfl)
 try simp only [Act.put, List.setIfInBounds_toArray, List.set_cons_zero, List.set_cons_succ]
 refine wpAnyH_take (i := 7) (oi := { dst := some 29, op := Op.pick (Operand.tmp 26) (Operand.tmp 28) (Operand.const (Value.bool false)), type := 4, pos := "law.go:45", after := #[{ on := 4, ground := Ground.data }, { on := 6, ground := Ground.data }, { on := 9, ground := Ground.gcOnly Departure.lateStores }], guard := none }) (v := .bool true) rfl (by kernel_rfl) (by kernel_rfl) (by kernel_rfl) (fun _ _ _ h => h) (Or.inl ⟨by rfl, ?y7⟩) ⟨s0, s1, s2, t0, t1, t2⟩ ?r7
 case y7 => (intro ww hS; obtain ⟨s0, s1, s2, t0, t1, t2⟩ := hS; go_simp; try with_reducible rfl)
 try simp only [Act.put, List.setIfInBounds_toArray, List.set_cons_zero, List.set_cons_succ]
 refine wpAnyH_ready (rs := [8]) (by kernel_rfl) (by simp) ?_
 refine AllReadyH.cons rfl (fun K hK => ?_) AllReadyH.nil
 go_simp
 replace s0 := set3_cell (r := w.heap.size + 1) (v0 := .bool p.1) (v1 := .slice a1 n1 c1) (v2 := .int .i64 p.2.2) s0 na0
 replace s1 := set3_cell (r := w.heap.size + 1) (v0 := .bool p.1) (v1 := .slice a1 n1 c1) (v2 := .int .i64 p.2.2) s1 na0
 replace s2 := set3_cell (r := w.heap.size + 1) (v0 := .bool p.1) (v1 := .slice a1 n1 c1) (v2 := .int .i64 p.2.2) s2 na0
 replace t0 := set3_cell (r := w.heap.size + 1) (v0 := .bool p.1) (v1 := .slice a1 n1 c1) (v2 := .int .i64 p.2.2) t0 nb0
 replace t1 := set3_cell (r := w.heap.size + 1) (v0 := .bool p.1) (v1 := .slice a1 n1 c1) (v2 := .int .i64 p.2.2) t1 nb0
 replace t2 := set3_cell (r := w.heap.size + 1) (v0 := .bool p.1) (v1 := .slice a1 n1 c1) (v2 := .int .i64 p.2.2) t2 nb0
 replace z0 := set3_cell (r := w.heap.size + 1) (v0 := .bool p.1) (v1 := .slice a1 n1 c1) (v2 := .int .i64 p.2.2) z0 (by omega)
 replace z1 := set3_cell (r := w.heap.size + 1) (v0 := .bool p.1) (v1 := .slice a1 n1 c1) (v2 := .int .i64 p.2.2) z1 (by omega)
 replace z2 := set3_cell (r := w.heap.size + 1) (v0 := .bool p.1) (v1 := .slice a1 n1 c1) (v2 := .int .i64 p.2.2) z2 (by omega)
 replace f0d := set3_frozen (r := w.heap.size + 1) (v0 := .bool p.1) (v1 := .slice a1 n1 c1) (v2 := .int .i64 p.2.2) f0d
 replace f1d := set3_frozen (r := w.heap.size + 1) (v0 := .bool p.1) (v1 := .slice a1 n1 c1) (v2 := .int .i64 p.2.2) f1d
 replace f2d := set3_frozen (r := w.heap.size + 1) (v0 := .bool p.1) (v1 := .slice a1 n1 c1) (v2 := .int .i64 p.2.2) f2d
 obtain ⟨y0, y1, y2⟩ := set3_same (v0 := .bool p.1) (v1 := .slice a1 n1 c1) (v2 := .int .i64 p.2.2) y0 y1 y2
 replace hO1 := ((hO1.far ⟨w.heap.size + 1, 0, none⟩ (.bool p.1) (by simp)).far ⟨w.heap.size + 1, 1, none⟩ (.slice a1 n1 c1) (by simp)).far ⟨w.heap.size + 1, 2, none⟩ (.int .i64 p.2.2) (by simp)
 replace hO2 := ((hO2.far ⟨w.heap.size + 1, 0, none⟩ (.bool p.1) (by simp)).far ⟨w.heap.size + 1, 1, none⟩ (.slice a1 n1 c1) (by simp)).far ⟨w.heap.size + 1, 2, none⟩ (.int .i64 p.2.2) (by simp)
 replace bA := ((bA.setCell (p := ⟨w.heap.size + 1, 0, none⟩) (by simp) (.bool p.1)).setCell (p := ⟨w.heap.size + 1, 1, none⟩) (by simp) (.slice a1 n1 c1)).setCell (p := ⟨w.heap.size + 1, 2, none⟩) (by simp) (.int .i64 p.2.2)
 refine hK.out _ _ ⟨s0, s1, s2, t0, t1, t2⟩ (fun _ => ?_)
 clear hK K
 generalize (((wd.setCell ⟨w.heap.size + 1, 0, none⟩ (.bool p.1)).setCell ⟨w.heap.size + 1, 1, none⟩ (.slice a1 n1 c1)).setCell ⟨w.heap.size + 1, 2, none⟩ (.int .i64 p.2.2)) = we at *
 refine wpAnyH_ready (rs := [9]) (by kernel_rfl) (by simp) ?_
 refine AllReadyH.cons rfl (fun K hK => ?_) AllReadyH.nil
 go_simp
 replace s0 := set3_cell (r := w.heap.size + 2) (v0 := .bool q.1) (v1 := .slice a2 n2 c2) (v2 := .int .i64 q.2.2) s0 na1
 replace s1 := set3_cell (r := w.heap.size + 2) (v0 := .bool q.1) (v1 := .slice a2 n2 c2) (v2 := .int .i64 q.2.2) s1 na1
 replace s2 := set3_cell (r := w.heap.size + 2) (v0 := .bool q.1) (v1 := .slice a2 n2 c2) (v2 := .int .i64 q.2.2) s2 na1
 replace t0 := set3_cell (r := w.heap.size + 2) (v0 := .bool q.1) (v1 := .slice a2 n2 c2) (v2 := .int .i64 q.2.2) t0 nb1
 replace t1 := set3_cell (r := w.heap.size + 2) (v0 := .bool q.1) (v1 := .slice a2 n2 c2) (v2 := .int .i64 q.2.2) t1 nb1
 replace t2 := set3_cell (r := w.heap.size + 2) (v0 := .bool q.1) (v1 := .slice a2 n2 c2) (v2 := .int .i64 q.2.2) t2 nb1
 replace y0 := set3_cell (r := w.heap.size + 2) (v0 := .bool q.1) (v1 := .slice a2 n2 c2) (v2 := .int .i64 q.2.2) y0 (by omega)
 replace y1 := set3_cell (r := w.heap.size + 2) (v0 := .bool q.1) (v1 := .slice a2 n2 c2) (v2 := .int .i64 q.2.2) y1 (by omega)
 replace y2 := set3_cell (r := w.heap.size + 2) (v0 := .bool q.1) (v1 := .slice a2 n2 c2) (v2 := .int .i64 q.2.2) y2 (by omega)
 obtain ⟨z0, z1, z2⟩ := set3_same (v0 := .bool q.1) (v1 := .slice a2 n2 c2) (v2 := .int .i64 q.2.2) z0 z1 z2
 replace hO1 := ((hO1.far ⟨w.heap.size + 2, 0, none⟩ (.bool q.1) (by simp)).far ⟨w.heap.size + 2, 1, none⟩ (.slice a2 n2 c2) (by simp)).far ⟨w.heap.size + 2, 2, none⟩ (.int .i64 q.2.2) (by simp)
 replace hO2 := ((hO2.far ⟨w.heap.size + 2, 0, none⟩ (.bool q.1) (by simp)).far ⟨w.heap.size + 2, 1, none⟩ (.slice a2 n2 c2) (by simp)).far ⟨w.heap.size + 2, 2, none⟩ (.int .i64 q.2.2) (by simp)
 replace bA := ((bA.setCell (p := ⟨w.heap.size + 2, 0, none⟩) (by simp) (.bool q.1)).setCell (p := ⟨w.heap.size + 2, 1, none⟩) (by simp) (.slice a2 n2 c2)).setCell (p := ⟨w.heap.size + 2, 2, none⟩) (by simp) (.int .i64 q.2.2)
 refine hK.out _ _ ⟨s0, s1, s2, t0, t1, t2⟩ (fun _ => ?_)
 clear hK K
 generalize (((we.setCell ⟨w.heap.size + 2, 0, none⟩ (.bool q.1)).setCell ⟨w.heap.size + 2, 1, none⟩ (.slice a2 n2 c2)).setCell ⟨w.heap.size + 2, 2, none⟩ (.int .i64 q.2.2)) = wf at *
 refine wpAnyH_ready (rs := [10]) (by kernel_rfl) (by simp) ?_
 refine AllReadyH.cons rfl (fun K hK => ?_) AllReadyH.nil
 go_simp
 refine hK.out _ _ ⟨s0, s1, s2, t0, t1, t2⟩ (fun _ => ?_)
 clear hK K
 refine wpAnyH_done (by kernel_rfl) ?_ _
 try simp only [Act.put, List.setIfInBounds_toArray, List.set_cons_zero, List.set_cons_succ]
 go_wp2_with fail
 refine bodyPost_ret (v := .tuple #[dyV p.1 a1 n1 c1 p.2.2, dyV q.1 a2 n2 c2 q.2.2, .bool true]) (by simp [results, Tryz.results8, go_sem, y0, y1, y2, z0, z1, z2]) rfl ⟨_, _, rfl, ⟨a1, n1, c1, rfl, HN1, hn1, hO1.low (by omega)⟩, ⟨a2, n2, c2, rfl, HN2, hn2, hO2.low (by omega)⟩, bA⟩
end Go.Proofs.YtionhpedghmecaaGreatDoor

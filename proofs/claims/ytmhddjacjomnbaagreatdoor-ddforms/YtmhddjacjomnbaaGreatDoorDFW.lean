/- The statement DdForms. -/
import Derived.Test.YtmhddjacjomnbaaGreatDoorDFA
import Derived.Test.YtmhddjacjomnbaaGreatDoorHFC
import Derived.Test.YtmhddjacjomnbaaGreatDoorRDA
import Derived.Deep.RegionHeld3
import Derived.Deep.CutRange
namespace Go.Proofs.YtmhddjacjomnbaaGreatDoor
open Go.RowKit
attribute [local go_sem ↓] Go.wp_at_zero Go.wp_at_succ
attribute [local go_sem] Fp.ran_store

theorem right_self (x : Nat) (h : Fp.rightP x 0 = true) : Ieee.double.order x x = some .eq := EP.order_refl x (Fp.right_PB x 0 h).1
theorem zero_self : Ieee.double.order 0 0 = some .eq := by decide +kernel
theorem sameQQ (c : Bool × Nat × Int) (a : Option Addr) (n d : Nat) (a' : Option Addr) (n' d' : Nat) (w : World) (h : IsW w a n d (wordsOf c.2.1)) (hn : n ≤ 1024) (h' : IsW w a' n' d' (wordsOf c.2.1)) (hn' : n' ≤ 17592186044416) :
    Calls Tryz.prog 9 #[dyV c.1 a n d c.2.2, dyV c.1 a' n' d' c.2.2] w fun r w' => r = .returned (.bool true) ∧ Below w.heap.size w w' := by
  have := qSame_calls c.1 a n d (wordsOf c.2.1) c.2.2 c.1 a' n' d' (wordsOf c.2.1) c.2.2 w h (by omega) h' hn'
  rw [sameB_self] at this
  exact this
theorem sameZ (w : World) : Calls Tryz.prog 9 #[dyV false none 0 0 0, dyV false none 0 0 0] w fun r w' => r = .returned (.bool true) ∧ Below w.heap.size w w' := by
  have := qSame_calls false none 0 0 [] 0 false none 0 0 [] 0 w (isW_nil w) (by omega) (isW_nil w) (by omega)
  rw [sameB_self] at this
  exact this
theorem sum_len (x y : Int) : (wordsOf (sumD (fromP x) (fromP y)).2.1).length ≤ 1024 := by
  have h := (fr_sum_room x y).1
  unfold roomE at h
  split at h
  · rename_i q
    unfold roomB at q
    rw [Bool.and_eq_true] at q
    exact (words_len2 _ _).2 ((great_not _).1 (by simpa using q.1))
  · exact absurd h (by decide)

set_option maxRecDepth 100000 in
set_option maxHeartbeats 4000000 in
theorem ddf_gg (h l x : Nat) (w : World) (hh : h < 18446744073709551616) (hl : l < 18446744073709551616) (hx : x < 18446744073709551616) (ra : Fp.rightP h l = true) (rx : Fp.rightP x 0 = true) (hT : Tab w) :
    Calls Tryz.prog 3 #[.agg #[.float .f64 h, .float .f64 l], .float .f64 x] w fun r w' => r = .returned (.bool true) ∧ Below w.heap.size w w' := by
  have HR : Hid _ := fun w => Fp.rRight_calls h l w hh
  have HR2 : Hid _ := fun w => Fp.dRight_calls h l w hh
  have HRX : Hid _ := fun w => Fp.rRight_calls x 0 w hx
  rw [ra] at HR HR2
  rw [rx] at HRX
  have HV : Hid _ := fun w T => dvalue_good h l w hh hl ra T
  have HE : Hid _ := fun w => rexact_calls h l w hh hl
  have hcl : CanD (sumD (fromP (h : Int)) (fromP (l : Int))) := sum_canF (fr_can _) (fr_can _)
  have HL : Hid ((wordsOf (sumD (fromP (h : Int)) (fromP (l : Int))).2.1).length ≤ 1024) := sum_len _ _
  clear hcl
  generalize sumD (fromP (h : Int)) (fromP (l : Int)) = p at *
  have HO : Hid _ := fun w => dof_good x w hx rx
  have hself := right_self x rx
  have HT : Hid (∀ w', Below w.heap.size w w' → Tab w') := fun w' hb => hT.kept hb
  clear hh hl hx ra rx hT
  have bw := below_one w (.cells #[.float .f64 h, .float .f64 l] 24)
  have p0 : (w.alloc (.cells #[.float .f64 h, .float .f64 l] 24)).cell? ⟨w.heap.size, 0, none⟩ = some (.float .f64 h) := by go_simp
  have p1 : (w.alloc (.cells #[.float .f64 h, .float .f64 l] 24)).cell? ⟨w.heap.size, 1, none⟩ = some (.float .f64 l) := by go_simp
  go_enter Tryz.func3, Tryz.ntmps3
  go_wp2_with fail
  generalize (w.alloc (.cells #[.float .f64 h, .float .f64 l] 24)) = w0 at *
  refine Calls.mono (HR.out _) ?_
  rintro r w1 ⟨rfl, bN⟩
  replace p0 := dcarry_cell bN p0
  replace p1 := dcarry_cell bN p1
  replace bw := nbelow_trans bw bN
  clear bN
  go_wp2_with fail
  refine Calls.mono (HV.out _ (HT.out _ bw)) ?_
  rintro r w2 ⟨_, rfl, ⟨av, nv, cv, rfl, HN, hnv, hO⟩, bN⟩
  replace p0 := dcarry_cell bN p0
  replace p1 := dcarry_cell bN p1
  replace bw := nbelow_trans bw bN
  clear bN
  have Iv := hO.1
  clear hO HN
  have bA := below_one w2 (.cells #[.bool p.1, .slice av nv cv, .int .i64 p.2.2] 29)
  replace p0 := dcarry_cell bA p0
  replace p1 := dcarry_cell bA p1
  replace Iv := Iv.keep bA
  replace bw := nbelow_trans bw bA
  clear bA
  have v0 : (w2.alloc (.cells #[.bool p.1, .slice av nv cv, .int .i64 p.2.2] 29)).cell? ⟨w2.heap.size, 0, none⟩ = some (.bool p.1) := by go_simp
  have v1 : (w2.alloc (.cells #[.bool p.1, .slice av nv cv, .int .i64 p.2.2] 29)).cell? ⟨w2.heap.size, 1, none⟩ = some (.slice av nv cv) := by go_simp
  have v2 : (w2.alloc (.cells #[.bool p.1, .slice av nv cv, .int .i64 p.2.2] 29)).cell? ⟨w2.heap.size, 2, none⟩ = some (.int .i64 p.2.2) := by go_simp
  go_wp2_with fail
  generalize (w2.alloc (.cells #[.bool p.1, .slice av nv cv, .int .i64 p.2.2] 29)) = w3 at *
  refine Calls.mono (HO.out _) ?_
  rintro r w4 ⟨rfl, bN⟩
  replace p0 := dcarry_cell bN p0
  replace p1 := dcarry_cell bN p1
  replace v0 := dcarry_cell bN v0
  replace v1 := dcarry_cell bN v1
  replace v2 := dcarry_cell bN v2
  replace Iv := Iv.keep bN
  replace bw := nbelow_trans bw bN
  clear bN
  have bA := below_one w4 (.cells #[.float .f64 x, .float .f64 0] 24)
  replace p0 := dcarry_cell bA p0
  replace p1 := dcarry_cell bA p1
  replace v0 := dcarry_cell bA v0
  replace v1 := dcarry_cell bA v1
  replace v2 := dcarry_cell bA v2
  replace Iv := Iv.keep bA
  replace bw := nbelow_trans bw bA
  clear bA
  have o0 : (w4.alloc (.cells #[.float .f64 x, .float .f64 0] 24)).cell? ⟨w4.heap.size, 0, none⟩ = some (.float .f64 x) := by go_simp
  have o1 : (w4.alloc (.cells #[.float .f64 x, .float .f64 0] 24)).cell? ⟨w4.heap.size, 1, none⟩ = some (.float .f64 0) := by go_simp
  go_wp2_with fail
  generalize (w4.alloc (.cells #[.float .f64 x, .float .f64 0] 24)) = w5 at *
  refine Calls.mono (HRX.out _) ?_
  rintro r w6 ⟨rfl, bN⟩
  replace p0 := dcarry_cell bN p0
  replace p1 := dcarry_cell bN p1
  replace v0 := dcarry_cell bN v0
  replace v1 := dcarry_cell bN v1
  replace v2 := dcarry_cell bN v2
  replace o0 := dcarry_cell bN o0
  replace o1 := dcarry_cell bN o1
  replace Iv := Iv.keep bN
  replace bw := nbelow_trans bw bN
  clear bN
  go_wp2_with fail
  refine Calls.mono (HR2.out _) ?_
  rintro r w7 ⟨rfl, bN⟩
  replace p0 := dcarry_cell bN p0
  replace p1 := dcarry_cell bN p1
  replace v0 := dcarry_cell bN v0
  replace v1 := dcarry_cell bN v1
  replace v2 := dcarry_cell bN v2
  replace o0 := dcarry_cell bN o0
  replace o1 := dcarry_cell bN o1
  replace Iv := Iv.keep bN
  replace bw := nbelow_trans bw bN
  clear bN
  go_wp2_with fail
  refine Calls.mono (Fp.dBegins_calls _) ?_
  rintro r w8 ⟨rfl, bN⟩
  replace p0 := dcarry_cell bN p0
  replace p1 := dcarry_cell bN p1
  replace v0 := dcarry_cell bN v0
  replace v1 := dcarry_cell bN v1
  replace v2 := dcarry_cell bN v2
  replace o0 := dcarry_cell bN o0
  replace o1 := dcarry_cell bN o1
  replace Iv := Iv.keep bN
  replace bw := nbelow_trans bw bN
  clear bN
  go_upto_region 7 with fail
  have R : Below w8.heap.size w8 (World.drew w8) := (Below.refl _ _).drew
  refine wp_region_held (S := fun w' => Below w8.heap.size w8 w') (by kernel_rfl) ?_
  change wpAnyH _ _ _ _ _ _ _ _ (World.drew w8)
  generalize World.drew w8 = wd at R ⊢
  refine wpAnyH_take (i := 0) (oi := { dst := some 46, op := Op.move (Operand.tmp 5), type := 4, pos := "law.go:21", after := #[], guard := none }) (v := .bool true) rfl (by kernel_rfl) (by kernel_rfl) (by kernel_rfl) (fun _ _ _ h => h) (Or.inl ⟨by rfl, ?y1⟩) R ?r1
  case y1 => (intro ww hS; clear hS; go_simp; try with_reducible rfl)
  try simp only [Act.put, List.setIfInBounds_toArray, List.set_cons_zero, List.set_cons_succ]
  refine wpAnyH_take (i := 1) (oi := { dst := some 47, op := Op.unOp UnOp.not 4 (Operand.tmp 46), type := 4, pos := "law.go:21", after := #[{ on := 0, ground := Ground.data }], guard := none }) (v := .bool false) rfl (by kernel_rfl) (by kernel_rfl) (by kernel_rfl) (fun _ _ _ h => h) (Or.inl ⟨by rfl, ?y2⟩) R ?r2
  case y2 => (intro ww hS; clear hS; go_simp; try with_reducible rfl)
  try simp only [Act.put, List.setIfInBounds_toArray, List.set_cons_zero, List.set_cons_succ]
  refine wpAnyH_take (i := 2) (oi := { dst := some 48, op := Op.move (Operand.tmp 47), type := 4, pos := "law.go:21", after := #[{ on := 1, ground := Ground.data }], guard := none }) (v := .bool false) rfl (by kernel_rfl) (by kernel_rfl) (by kernel_rfl) (fun _ _ _ h => h) (Or.inl ⟨by rfl, ?y3⟩) R ?r3
  case y3 => (intro ww hS; clear hS; go_simp; try with_reducible rfl)
  try simp only [Act.put, List.setIfInBounds_toArray, List.set_cons_zero, List.set_cons_succ]
  refine wpAnyH_take (i := 3) (oi := { dst := some 49, op := Op.move (Operand.tmp 7), type := 30, pos := "law.go:21", after := #[{ on := 2, ground := Ground.guard }], guard := some (2, true) }) (v := undef) rfl (by kernel_rfl) (by kernel_rfl) (by kernel_rfl) (fun _ _ _ h => h) (Or.inr ⟨by rfl, rfl⟩) R ?r4
  try simp only [Act.put, List.setIfInBounds_toArray, List.set_cons_zero, List.set_cons_succ]
  refine wpAnyH_take (i := 4) (oi := { dst := some 50, op := Op.binOp BinOp.neq 30 (Operand.tmp 49) (Operand.const (Value.int IntKind.i64 2)) 30, type := 4, pos := "law.go:21", after := #[{ on := 3, ground := Ground.data }, { on := 2, ground := Ground.guard }], guard := some (2, true) }) (v := undef) rfl (by kernel_rfl) (by kernel_rfl) (by kernel_rfl) (fun _ _ _ h => h) (Or.inr ⟨by rfl, rfl⟩) R ?r5
  try simp only [Act.put, List.setIfInBounds_toArray, List.set_cons_zero, List.set_cons_succ]
  refine wpAnyH_take (i := 5) (oi := { dst := some 51, op := Op.move (Operand.tmp 50), type := 4, pos := "law.go:21", after := #[{ on := 4, ground := Ground.data }, { on := 2, ground := Ground.chain }, { on := 2, ground := Ground.guard }], guard := some (2, true) }) (v := undef) rfl (by kernel_rfl) (by kernel_rfl) (by kernel_rfl) (fun _ _ _ h => h) (Or.inr ⟨by rfl, rfl⟩) R ?r6
  try simp only [Act.put, List.setIfInBounds_toArray, List.set_cons_zero, List.set_cons_succ]
  refine wpAnyH_take (i := 6) (oi := { dst := some 52, op := Op.load 29 (Operand.tmp 6), type := 29, pos := "law.go:21", after := #[{ on := 5, ground := Ground.guard }], guard := some (5, false) }) (v := undef) rfl (by kernel_rfl) (by kernel_rfl) (by kernel_rfl) (fun _ _ _ h => h) (Or.inr ⟨by rfl, rfl⟩) R ?r7
  try simp only [Act.put, List.setIfInBounds_toArray, List.set_cons_zero, List.set_cons_succ]
  refine wpAnyH_take (i := 7) (oi := { dst := some 53, op := Op.build 29 #[], type := 29, pos := "law.go:21", after := #[{ on := 5, ground := Ground.guard }], guard := some (5, false) }) (v := undef) rfl (by kernel_rfl) (by kernel_rfl) (by kernel_rfl) (fun _ _ _ h => h) (Or.inr ⟨by rfl, rfl⟩) R ?r8
  try simp only [Act.put, List.setIfInBounds_toArray, List.set_cons_zero, List.set_cons_succ]
  refine wpAnyH_ready (rs := [8]) (by kernel_rfl) (by simp) ?_
  refine AllReadyH.cons rfl (fun K hK => ?_) AllReadyH.nil
  go_simp
  refine hK.out _ _ R (fun _ => ?_)
  clear hK K
  try simp only [Act.put, List.setIfInBounds_toArray, List.set_cons_zero, List.set_cons_succ]
  refine wpAnyH_take (i := 9) (oi := { dst := some 55, op := Op.unOp UnOp.not 4 (Operand.tmp 54), type := 4, pos := "law.go:21", after := #[{ on := 8, ground := Ground.data }, { on := 5, ground := Ground.guard }], guard := some (5, false) }) (v := undef) rfl (by kernel_rfl) (by kernel_rfl) (by kernel_rfl) (fun _ _ _ h => h) (Or.inr ⟨by rfl, rfl⟩) R ?r9
  try simp only [Act.put, List.setIfInBounds_toArray, List.set_cons_zero, List.set_cons_succ]
  refine wpAnyH_take (i := 10) (oi := { dst := some 56, op := Op.pick (Operand.tmp 51) (Operand.const (Value.bool true)) (Operand.tmp 55), type := 4, pos := "law.go:21", after := #[{ on := 5, ground := Ground.data }, { on := 9, ground := Ground.data }, { on := 2, ground := Ground.guard }], guard := some (2, true) }) (v := undef) rfl (by kernel_rfl) (by kernel_rfl) (by kernel_rfl) (fun _ _ _ h => h) (Or.inr ⟨by rfl, rfl⟩) R ?r10
  try simp only [Act.put, List.setIfInBounds_toArray, List.set_cons_zero, List.set_cons_succ]
  refine wpAnyH_take (i := 11) (oi := { dst := some 57, op := Op.pick (Operand.tmp 48) (Operand.tmp 56) (Operand.const (Value.bool false)), type := 4, pos := "law.go:21", after := #[{ on := 2, ground := Ground.data }, { on := 10, ground := Ground.data }], guard := none }) (v := .bool false) rfl (by kernel_rfl) (by kernel_rfl) (by kernel_rfl) (fun _ _ _ h => h) (Or.inl ⟨by rfl, ?y11⟩) R ?r11
  case y11 => (intro ww hS; clear hS; go_simp; try with_reducible rfl)
  try simp only [Act.put, List.setIfInBounds_toArray, List.set_cons_zero, List.set_cons_succ]
  refine wpAnyH_take (i := 12) (oi := { dst := some 58, op := Op.move (Operand.tmp 57), type := 4, pos := "law.go:21", after := #[{ on := 11, ground := Ground.data }, { on := 8, ground := Ground.chain }], guard := none }) (v := .bool false) rfl (by kernel_rfl) (by kernel_rfl) (by kernel_rfl) (fun _ _ _ h => h) (Or.inl ⟨by rfl, ?y12⟩) R ?r12
  case y12 => (intro ww hS; clear hS; go_simp; try with_reducible rfl)
  try simp only [Act.put, List.setIfInBounds_toArray, List.set_cons_zero, List.set_cons_succ]
  refine wpAnyH_take (i := 13) (oi := { dst := some 59, op := Op.move (Operand.tmp 5), type := 4, pos := "law.go:21", after := #[{ on := 12, ground := Ground.guard }], guard := some (12, false) }) (v := .bool true) rfl (by kernel_rfl) (by kernel_rfl) (by kernel_rfl) (fun _ _ _ h => h) (Or.inl ⟨by rfl, ?y13⟩) R ?r13
  case y13 => (intro ww hS; clear hS; go_simp; try with_reducible rfl)
  try simp only [Act.put, List.setIfInBounds_toArray, List.set_cons_zero, List.set_cons_succ]
  refine wpAnyH_take (i := 14) (oi := { dst := some 60, op := Op.move (Operand.tmp 59), type := 4, pos := "law.go:21", after := #[{ on := 13, ground := Ground.data }, { on := 12, ground := Ground.chain }, { on := 12, ground := Ground.guard }], guard := some (12, false) }) (v := .bool true) rfl (by kernel_rfl) (by kernel_rfl) (by kernel_rfl) (fun _ _ _ h => h) (Or.inl ⟨by rfl, ?y14⟩) R ?r14
  case y14 => (intro ww hS; clear hS; go_simp; try with_reducible rfl)
  try simp only [Act.put, List.setIfInBounds_toArray, List.set_cons_zero, List.set_cons_succ]
  refine wpAnyH_take (i := 15) (oi := { dst := some 61, op := Op.load 29 (Operand.tmp 6), type := 29, pos := "law.go:21", after := #[{ on := 14, ground := Ground.guard }], guard := some (14, true) }) (v := .agg #[.bool p.1, .slice av nv cv, .int .i64 p.2.2]) rfl (by kernel_rfl) (by kernel_rfl) (by kernel_rfl) (fun _ _ _ h => h) (Or.inl ⟨by rfl, ?y15⟩) R ?r15
  case y15 => (intro ww hS; have q0 := dcarry_cell hS v0; have q1 := dcarry_cell hS v1; have q2 := dcarry_cell hS v2; clear hS; go_simp; try with_reducible rfl)
  try simp only [Act.put, List.setIfInBounds_toArray, List.set_cons_zero, List.set_cons_succ]
  refine wpAnyH_take (i := 16) (oi := { dst := some 62, op := Op.load 24 (Operand.tmp 2), type := 24, pos := "law.go:21", after := #[{ on := 14, ground := Ground.guard }], guard := some (14, true) }) (v := .agg #[.float .f64 h, .float .f64 l]) rfl (by kernel_rfl) (by kernel_rfl) (by kernel_rfl) (fun _ _ _ h => h) (Or.inl ⟨by rfl, ?y16⟩) R ?r16
  case y16 => (intro ww hS; have q0 := dcarry_cell hS p0; have q1 := dcarry_cell hS p1; clear hS; go_simp; try with_reducible rfl)
  try simp only [Act.put, List.setIfInBounds_toArray, List.set_cons_zero, List.set_cons_succ]
  refine wpAnyH_ready (rs := [17]) (by kernel_rfl) (by simp) ?_
  refine AllReadyH.cons rfl (fun K hK => ?_) AllReadyH.nil
  go_simp
  refine Calls.mono (HE.out _) ?_
  rintro r w9 ⟨_, rfl, ⟨ae, ne, ce, rfl, HN, hO⟩, bN⟩
  replace R := nbelow_trans R bN
  clear bN
  refine hK.out _ _ R (fun _ => ?_)
  clear hK K
  try simp only [Act.put, List.setIfInBounds_toArray, List.set_cons_zero, List.set_cons_succ]
  have hne : ne ≤ 1024 := by rw [HN.out]; exact HL.out
  have Ie := hO.1
  clear hO HN
  refine wpAnyH_ready (rs := [18]) (by kernel_rfl) (by simp) ?_
  refine AllReadyH.cons rfl (fun K hK => ?_) AllReadyH.nil
  go_simp
  refine Calls.mono (sameQQ p _ _ _ _ _ _ _ (Iv.keep R) hnv Ie (by omega)) ?_
  rintro r w10 ⟨rfl, bN⟩
  replace R := nbelow_trans R bN
  clear bN
  refine hK.out _ _ R (fun _ => ?_)
  clear hK K
  try simp only [Act.put, List.setIfInBounds_toArray, List.set_cons_zero, List.set_cons_succ]
  refine wpAnyH_take (i := 19) (oi := { dst := some 65, op := Op.unOp UnOp.not 4 (Operand.tmp 64), type := 4, pos := "law.go:21", after := #[{ on := 18, ground := Ground.data }, { on := 14, ground := Ground.guard }], guard := some (14, true) }) (v := .bool false) rfl (by kernel_rfl) (by kernel_rfl) (by kernel_rfl) (fun _ _ _ h => h) (Or.inl ⟨by rfl, ?y17⟩) R ?r17
  case y17 => (intro ww hS; clear hS; go_simp; try with_reducible rfl)
  try simp only [Act.put, List.setIfInBounds_toArray, List.set_cons_zero, List.set_cons_succ]
  refine wpAnyH_take (i := 20) (oi := { dst := some 66, op := Op.pick (Operand.tmp 60) (Operand.tmp 65) (Operand.const (Value.bool false)), type := 4, pos := "law.go:21", after := #[{ on := 14, ground := Ground.data }, { on := 19, ground := Ground.data }, { on := 12, ground := Ground.guard }], guard := some (12, false) }) (v := .bool false) rfl (by kernel_rfl) (by kernel_rfl) (by kernel_rfl) (fun _ _ _ h => h) (Or.inl ⟨by rfl, ?y18⟩) R ?r18
  case y18 => (intro ww hS; clear hS; go_simp; try with_reducible rfl)
  try simp only [Act.put, List.setIfInBounds_toArray, List.set_cons_zero, List.set_cons_succ]
  refine wpAnyH_take (i := 21) (oi := { dst := some 67, op := Op.pick (Operand.tmp 58) (Operand.const (Value.bool true)) (Operand.tmp 66), type := 4, pos := "law.go:21", after := #[{ on := 12, ground := Ground.data }, { on := 20, ground := Ground.data }], guard := none }) (v := .bool false) rfl (by kernel_rfl) (by kernel_rfl) (by kernel_rfl) (fun _ _ _ h => h) (Or.inl ⟨by rfl, ?y19⟩) R ?r19
  case y19 => (intro ww hS; clear hS; go_simp; try with_reducible rfl)
  try simp only [Act.put, List.setIfInBounds_toArray, List.set_cons_zero, List.set_cons_succ]
  refine wpAnyH_done (by kernel_rfl) ?_ _
  replace o0 := dcarry_cell R o0
  replace o1 := dcarry_cell R o1
  replace bw := nbelow_trans bw R
  go_wp2_with fail
  refine Calls.mono (Fp.rSame_yes x 0 x 0 _ hself zero_self) ?_
  rintro r wz ⟨rfl, bN⟩
  replace bw := nbelow_trans bw bN
  go_wp2_with fail
  go_ret
  exact ⟨rfl, bw⟩

set_option maxRecDepth 100000 in
set_option maxHeartbeats 4000000 in
theorem ddf_gb (h l x : Nat) (w : World) (hh : h < 18446744073709551616) (hl : l < 18446744073709551616) (hx : x < 18446744073709551616) (ra : Fp.rightP h l = true) (rx : Fp.rightP x 0 = false) (hT : Tab w) :
    Calls Tryz.prog 3 #[.agg #[.float .f64 h, .float .f64 l], .float .f64 x] w fun r w' => r = .returned (.bool true) ∧ Below w.heap.size w w' := by
  have HR : Hid _ := fun w => Fp.rRight_calls h l w hh
  have HR2 : Hid _ := fun w => Fp.dRight_calls h l w hh
  have HRX : Hid _ := fun w => Fp.rRight_calls x 0 w hx
  rw [ra] at HR HR2
  rw [rx] at HRX
  have HV : Hid _ := fun w T => dvalue_good h l w hh hl ra T
  have HE : Hid _ := fun w => rexact_calls h l w hh hl
  have hcl : CanD (sumD (fromP (h : Int)) (fromP (l : Int))) := sum_canF (fr_can _) (fr_can _)
  have HL : Hid ((wordsOf (sumD (fromP (h : Int)) (fromP (l : Int))).2.1).length ≤ 1024) := sum_len _ _
  clear hcl
  generalize sumD (fromP (h : Int)) (fromP (l : Int)) = p at *
  have HO : Hid _ := fun w => Fp.dOf_bad x w hx rx
  have HT : Hid (∀ w', Below w.heap.size w w' → Tab w') := fun w' hb => hT.kept hb
  clear hh hl hx ra rx hT
  have bw := below_one w (.cells #[.float .f64 h, .float .f64 l] 24)
  have p0 : (w.alloc (.cells #[.float .f64 h, .float .f64 l] 24)).cell? ⟨w.heap.size, 0, none⟩ = some (.float .f64 h) := by go_simp
  have p1 : (w.alloc (.cells #[.float .f64 h, .float .f64 l] 24)).cell? ⟨w.heap.size, 1, none⟩ = some (.float .f64 l) := by go_simp
  go_enter Tryz.func3, Tryz.ntmps3
  go_wp2_with fail
  generalize (w.alloc (.cells #[.float .f64 h, .float .f64 l] 24)) = w0 at *
  refine Calls.mono (HR.out _) ?_
  rintro r w1 ⟨rfl, bN⟩
  replace p0 := dcarry_cell bN p0
  replace p1 := dcarry_cell bN p1
  replace bw := nbelow_trans bw bN
  clear bN
  go_wp2_with fail
  refine Calls.mono (HV.out _ (HT.out _ bw)) ?_
  rintro r w2 ⟨_, rfl, ⟨av, nv, cv, rfl, HN, hnv, hO⟩, bN⟩
  replace p0 := dcarry_cell bN p0
  replace p1 := dcarry_cell bN p1
  replace bw := nbelow_trans bw bN
  clear bN
  have Iv := hO.1
  clear hO HN
  have bA := below_one w2 (.cells #[.bool p.1, .slice av nv cv, .int .i64 p.2.2] 29)
  replace p0 := dcarry_cell bA p0
  replace p1 := dcarry_cell bA p1
  replace Iv := Iv.keep bA
  replace bw := nbelow_trans bw bA
  clear bA
  have v0 : (w2.alloc (.cells #[.bool p.1, .slice av nv cv, .int .i64 p.2.2] 29)).cell? ⟨w2.heap.size, 0, none⟩ = some (.bool p.1) := by go_simp
  have v1 : (w2.alloc (.cells #[.bool p.1, .slice av nv cv, .int .i64 p.2.2] 29)).cell? ⟨w2.heap.size, 1, none⟩ = some (.slice av nv cv) := by go_simp
  have v2 : (w2.alloc (.cells #[.bool p.1, .slice av nv cv, .int .i64 p.2.2] 29)).cell? ⟨w2.heap.size, 2, none⟩ = some (.int .i64 p.2.2) := by go_simp
  go_wp2_with fail
  generalize (w2.alloc (.cells #[.bool p.1, .slice av nv cv, .int .i64 p.2.2] 29)) = w3 at *
  refine Calls.mono (HO.out _) ?_
  rintro r w4 ⟨rfl, bN⟩
  replace p0 := dcarry_cell bN p0
  replace p1 := dcarry_cell bN p1
  replace v0 := dcarry_cell bN v0
  replace v1 := dcarry_cell bN v1
  replace v2 := dcarry_cell bN v2
  replace Iv := Iv.keep bN
  replace bw := nbelow_trans bw bN
  clear bN
  have bA := below_one w4 (.cells #[.float .f64 0, .float .f64 0] 24)
  replace p0 := dcarry_cell bA p0
  replace p1 := dcarry_cell bA p1
  replace v0 := dcarry_cell bA v0
  replace v1 := dcarry_cell bA v1
  replace v2 := dcarry_cell bA v2
  replace Iv := Iv.keep bA
  replace bw := nbelow_trans bw bA
  clear bA
  have o0 : (w4.alloc (.cells #[.float .f64 0, .float .f64 0] 24)).cell? ⟨w4.heap.size, 0, none⟩ = some (.float .f64 0) := by go_simp
  have o1 : (w4.alloc (.cells #[.float .f64 0, .float .f64 0] 24)).cell? ⟨w4.heap.size, 1, none⟩ = some (.float .f64 0) := by go_simp
  go_wp2_with fail
  generalize (w4.alloc (.cells #[.float .f64 0, .float .f64 0] 24)) = w5 at *
  refine Calls.mono (HRX.out _) ?_
  rintro r w6 ⟨rfl, bN⟩
  replace p0 := dcarry_cell bN p0
  replace p1 := dcarry_cell bN p1
  replace v0 := dcarry_cell bN v0
  replace v1 := dcarry_cell bN v1
  replace v2 := dcarry_cell bN v2
  replace o0 := dcarry_cell bN o0
  replace o1 := dcarry_cell bN o1
  replace Iv := Iv.keep bN
  replace bw := nbelow_trans bw bN
  clear bN
  go_wp2_with fail
  refine Calls.mono (HR2.out _) ?_
  rintro r w7 ⟨rfl, bN⟩
  replace p0 := dcarry_cell bN p0
  replace p1 := dcarry_cell bN p1
  replace v0 := dcarry_cell bN v0
  replace v1 := dcarry_cell bN v1
  replace v2 := dcarry_cell bN v2
  replace o0 := dcarry_cell bN o0
  replace o1 := dcarry_cell bN o1
  replace Iv := Iv.keep bN
  replace bw := nbelow_trans bw bN
  clear bN
  go_wp2_with fail
  refine Calls.mono (Fp.dBegins_calls _) ?_
  rintro r w8 ⟨rfl, bN⟩
  replace p0 := dcarry_cell bN p0
  replace p1 := dcarry_cell bN p1
  replace v0 := dcarry_cell bN v0
  replace v1 := dcarry_cell bN v1
  replace v2 := dcarry_cell bN v2
  replace o0 := dcarry_cell bN o0
  replace o1 := dcarry_cell bN o1
  replace Iv := Iv.keep bN
  replace bw := nbelow_trans bw bN
  clear bN
  go_upto_region 7 with fail
  have R : Below w8.heap.size w8 (World.drew w8) := (Below.refl _ _).drew
  refine wp_region_held (S := fun w' => Below w8.heap.size w8 w') (by kernel_rfl) ?_
  change wpAnyH _ _ _ _ _ _ _ _ (World.drew w8)
  generalize World.drew w8 = wd at R ⊢
  refine wpAnyH_take (i := 0) (oi := { dst := some 46, op := Op.move (Operand.tmp 5), type := 4, pos := "law.go:21", after := #[], guard := none }) (v := .bool true) rfl (by kernel_rfl) (by kernel_rfl) (by kernel_rfl) (fun _ _ _ h => h) (Or.inl ⟨by rfl, ?y20⟩) R ?r20
  case y20 => (intro ww hS; clear hS; go_simp; try with_reducible rfl)
  try simp only [Act.put, List.setIfInBounds_toArray, List.set_cons_zero, List.set_cons_succ]
  refine wpAnyH_take (i := 1) (oi := { dst := some 47, op := Op.unOp UnOp.not 4 (Operand.tmp 46), type := 4, pos := "law.go:21", after := #[{ on := 0, ground := Ground.data }], guard := none }) (v := .bool false) rfl (by kernel_rfl) (by kernel_rfl) (by kernel_rfl) (fun _ _ _ h => h) (Or.inl ⟨by rfl, ?y21⟩) R ?r21
  case y21 => (intro ww hS; clear hS; go_simp; try with_reducible rfl)
  try simp only [Act.put, List.setIfInBounds_toArray, List.set_cons_zero, List.set_cons_succ]
  refine wpAnyH_take (i := 2) (oi := { dst := some 48, op := Op.move (Operand.tmp 47), type := 4, pos := "law.go:21", after := #[{ on := 1, ground := Ground.data }], guard := none }) (v := .bool false) rfl (by kernel_rfl) (by kernel_rfl) (by kernel_rfl) (fun _ _ _ h => h) (Or.inl ⟨by rfl, ?y22⟩) R ?r22
  case y22 => (intro ww hS; clear hS; go_simp; try with_reducible rfl)
  try simp only [Act.put, List.setIfInBounds_toArray, List.set_cons_zero, List.set_cons_succ]
  refine wpAnyH_take (i := 3) (oi := { dst := some 49, op := Op.move (Operand.tmp 7), type := 30, pos := "law.go:21", after := #[{ on := 2, ground := Ground.guard }], guard := some (2, true) }) (v := undef) rfl (by kernel_rfl) (by kernel_rfl) (by kernel_rfl) (fun _ _ _ h => h) (Or.inr ⟨by rfl, rfl⟩) R ?r23
  try simp only [Act.put, List.setIfInBounds_toArray, List.set_cons_zero, List.set_cons_succ]
  refine wpAnyH_take (i := 4) (oi := { dst := some 50, op := Op.binOp BinOp.neq 30 (Operand.tmp 49) (Operand.const (Value.int IntKind.i64 2)) 30, type := 4, pos := "law.go:21", after := #[{ on := 3, ground := Ground.data }, { on := 2, ground := Ground.guard }], guard := some (2, true) }) (v := undef) rfl (by kernel_rfl) (by kernel_rfl) (by kernel_rfl) (fun _ _ _ h => h) (Or.inr ⟨by rfl, rfl⟩) R ?r24
  try simp only [Act.put, List.setIfInBounds_toArray, List.set_cons_zero, List.set_cons_succ]
  refine wpAnyH_take (i := 5) (oi := { dst := some 51, op := Op.move (Operand.tmp 50), type := 4, pos := "law.go:21", after := #[{ on := 4, ground := Ground.data }, { on := 2, ground := Ground.chain }, { on := 2, ground := Ground.guard }], guard := some (2, true) }) (v := undef) rfl (by kernel_rfl) (by kernel_rfl) (by kernel_rfl) (fun _ _ _ h => h) (Or.inr ⟨by rfl, rfl⟩) R ?r25
  try simp only [Act.put, List.setIfInBounds_toArray, List.set_cons_zero, List.set_cons_succ]
  refine wpAnyH_take (i := 6) (oi := { dst := some 52, op := Op.load 29 (Operand.tmp 6), type := 29, pos := "law.go:21", after := #[{ on := 5, ground := Ground.guard }], guard := some (5, false) }) (v := undef) rfl (by kernel_rfl) (by kernel_rfl) (by kernel_rfl) (fun _ _ _ h => h) (Or.inr ⟨by rfl, rfl⟩) R ?r26
  try simp only [Act.put, List.setIfInBounds_toArray, List.set_cons_zero, List.set_cons_succ]
  refine wpAnyH_take (i := 7) (oi := { dst := some 53, op := Op.build 29 #[], type := 29, pos := "law.go:21", after := #[{ on := 5, ground := Ground.guard }], guard := some (5, false) }) (v := undef) rfl (by kernel_rfl) (by kernel_rfl) (by kernel_rfl) (fun _ _ _ h => h) (Or.inr ⟨by rfl, rfl⟩) R ?r27
  try simp only [Act.put, List.setIfInBounds_toArray, List.set_cons_zero, List.set_cons_succ]
  refine wpAnyH_ready (rs := [8]) (by kernel_rfl) (by simp) ?_
  refine AllReadyH.cons rfl (fun K hK => ?_) AllReadyH.nil
  go_simp
  refine hK.out _ _ R (fun _ => ?_)
  clear hK K
  try simp only [Act.put, List.setIfInBounds_toArray, List.set_cons_zero, List.set_cons_succ]
  refine wpAnyH_take (i := 9) (oi := { dst := some 55, op := Op.unOp UnOp.not 4 (Operand.tmp 54), type := 4, pos := "law.go:21", after := #[{ on := 8, ground := Ground.data }, { on := 5, ground := Ground.guard }], guard := some (5, false) }) (v := undef) rfl (by kernel_rfl) (by kernel_rfl) (by kernel_rfl) (fun _ _ _ h => h) (Or.inr ⟨by rfl, rfl⟩) R ?r28
  try simp only [Act.put, List.setIfInBounds_toArray, List.set_cons_zero, List.set_cons_succ]
  refine wpAnyH_take (i := 10) (oi := { dst := some 56, op := Op.pick (Operand.tmp 51) (Operand.const (Value.bool true)) (Operand.tmp 55), type := 4, pos := "law.go:21", after := #[{ on := 5, ground := Ground.data }, { on := 9, ground := Ground.data }, { on := 2, ground := Ground.guard }], guard := some (2, true) }) (v := undef) rfl (by kernel_rfl) (by kernel_rfl) (by kernel_rfl) (fun _ _ _ h => h) (Or.inr ⟨by rfl, rfl⟩) R ?r29
  try simp only [Act.put, List.setIfInBounds_toArray, List.set_cons_zero, List.set_cons_succ]
  refine wpAnyH_take (i := 11) (oi := { dst := some 57, op := Op.pick (Operand.tmp 48) (Operand.tmp 56) (Operand.const (Value.bool false)), type := 4, pos := "law.go:21", after := #[{ on := 2, ground := Ground.data }, { on := 10, ground := Ground.data }], guard := none }) (v := .bool false) rfl (by kernel_rfl) (by kernel_rfl) (by kernel_rfl) (fun _ _ _ h => h) (Or.inl ⟨by rfl, ?y30⟩) R ?r30
  case y30 => (intro ww hS; clear hS; go_simp; try with_reducible rfl)
  try simp only [Act.put, List.setIfInBounds_toArray, List.set_cons_zero, List.set_cons_succ]
  refine wpAnyH_take (i := 12) (oi := { dst := some 58, op := Op.move (Operand.tmp 57), type := 4, pos := "law.go:21", after := #[{ on := 11, ground := Ground.data }, { on := 8, ground := Ground.chain }], guard := none }) (v := .bool false) rfl (by kernel_rfl) (by kernel_rfl) (by kernel_rfl) (fun _ _ _ h => h) (Or.inl ⟨by rfl, ?y31⟩) R ?r31
  case y31 => (intro ww hS; clear hS; go_simp; try with_reducible rfl)
  try simp only [Act.put, List.setIfInBounds_toArray, List.set_cons_zero, List.set_cons_succ]
  refine wpAnyH_take (i := 13) (oi := { dst := some 59, op := Op.move (Operand.tmp 5), type := 4, pos := "law.go:21", after := #[{ on := 12, ground := Ground.guard }], guard := some (12, false) }) (v := .bool true) rfl (by kernel_rfl) (by kernel_rfl) (by kernel_rfl) (fun _ _ _ h => h) (Or.inl ⟨by rfl, ?y32⟩) R ?r32
  case y32 => (intro ww hS; clear hS; go_simp; try with_reducible rfl)
  try simp only [Act.put, List.setIfInBounds_toArray, List.set_cons_zero, List.set_cons_succ]
  refine wpAnyH_take (i := 14) (oi := { dst := some 60, op := Op.move (Operand.tmp 59), type := 4, pos := "law.go:21", after := #[{ on := 13, ground := Ground.data }, { on := 12, ground := Ground.chain }, { on := 12, ground := Ground.guard }], guard := some (12, false) }) (v := .bool true) rfl (by kernel_rfl) (by kernel_rfl) (by kernel_rfl) (fun _ _ _ h => h) (Or.inl ⟨by rfl, ?y33⟩) R ?r33
  case y33 => (intro ww hS; clear hS; go_simp; try with_reducible rfl)
  try simp only [Act.put, List.setIfInBounds_toArray, List.set_cons_zero, List.set_cons_succ]
  refine wpAnyH_take (i := 15) (oi := { dst := some 61, op := Op.load 29 (Operand.tmp 6), type := 29, pos := "law.go:21", after := #[{ on := 14, ground := Ground.guard }], guard := some (14, true) }) (v := .agg #[.bool p.1, .slice av nv cv, .int .i64 p.2.2]) rfl (by kernel_rfl) (by kernel_rfl) (by kernel_rfl) (fun _ _ _ h => h) (Or.inl ⟨by rfl, ?y34⟩) R ?r34
  case y34 => (intro ww hS; have q0 := dcarry_cell hS v0; have q1 := dcarry_cell hS v1; have q2 := dcarry_cell hS v2; clear hS; go_simp; try with_reducible rfl)
  try simp only [Act.put, List.setIfInBounds_toArray, List.set_cons_zero, List.set_cons_succ]
  refine wpAnyH_take (i := 16) (oi := { dst := some 62, op := Op.load 24 (Operand.tmp 2), type := 24, pos := "law.go:21", after := #[{ on := 14, ground := Ground.guard }], guard := some (14, true) }) (v := .agg #[.float .f64 h, .float .f64 l]) rfl (by kernel_rfl) (by kernel_rfl) (by kernel_rfl) (fun _ _ _ h => h) (Or.inl ⟨by rfl, ?y35⟩) R ?r35
  case y35 => (intro ww hS; have q0 := dcarry_cell hS p0; have q1 := dcarry_cell hS p1; clear hS; go_simp; try with_reducible rfl)
  try simp only [Act.put, List.setIfInBounds_toArray, List.set_cons_zero, List.set_cons_succ]
  refine wpAnyH_ready (rs := [17]) (by kernel_rfl) (by simp) ?_
  refine AllReadyH.cons rfl (fun K hK => ?_) AllReadyH.nil
  go_simp
  refine Calls.mono (HE.out _) ?_
  rintro r w9 ⟨_, rfl, ⟨ae, ne, ce, rfl, HN, hO⟩, bN⟩
  replace R := nbelow_trans R bN
  clear bN
  refine hK.out _ _ R (fun _ => ?_)
  clear hK K
  try simp only [Act.put, List.setIfInBounds_toArray, List.set_cons_zero, List.set_cons_succ]
  have hne : ne ≤ 1024 := by rw [HN.out]; exact HL.out
  have Ie := hO.1
  clear hO HN
  refine wpAnyH_ready (rs := [18]) (by kernel_rfl) (by simp) ?_
  refine AllReadyH.cons rfl (fun K hK => ?_) AllReadyH.nil
  go_simp
  refine Calls.mono (sameQQ p _ _ _ _ _ _ _ (Iv.keep R) hnv Ie (by omega)) ?_
  rintro r w10 ⟨rfl, bN⟩
  replace R := nbelow_trans R bN
  clear bN
  refine hK.out _ _ R (fun _ => ?_)
  clear hK K
  try simp only [Act.put, List.setIfInBounds_toArray, List.set_cons_zero, List.set_cons_succ]
  refine wpAnyH_take (i := 19) (oi := { dst := some 65, op := Op.unOp UnOp.not 4 (Operand.tmp 64), type := 4, pos := "law.go:21", after := #[{ on := 18, ground := Ground.data }, { on := 14, ground := Ground.guard }], guard := some (14, true) }) (v := .bool false) rfl (by kernel_rfl) (by kernel_rfl) (by kernel_rfl) (fun _ _ _ h => h) (Or.inl ⟨by rfl, ?y36⟩) R ?r36
  case y36 => (intro ww hS; clear hS; go_simp; try with_reducible rfl)
  try simp only [Act.put, List.setIfInBounds_toArray, List.set_cons_zero, List.set_cons_succ]
  refine wpAnyH_take (i := 20) (oi := { dst := some 66, op := Op.pick (Operand.tmp 60) (Operand.tmp 65) (Operand.const (Value.bool false)), type := 4, pos := "law.go:21", after := #[{ on := 14, ground := Ground.data }, { on := 19, ground := Ground.data }, { on := 12, ground := Ground.guard }], guard := some (12, false) }) (v := .bool false) rfl (by kernel_rfl) (by kernel_rfl) (by kernel_rfl) (fun _ _ _ h => h) (Or.inl ⟨by rfl, ?y37⟩) R ?r37
  case y37 => (intro ww hS; clear hS; go_simp; try with_reducible rfl)
  try simp only [Act.put, List.setIfInBounds_toArray, List.set_cons_zero, List.set_cons_succ]
  refine wpAnyH_take (i := 21) (oi := { dst := some 67, op := Op.pick (Operand.tmp 58) (Operand.const (Value.bool true)) (Operand.tmp 66), type := 4, pos := "law.go:21", after := #[{ on := 12, ground := Ground.data }, { on := 20, ground := Ground.data }], guard := none }) (v := .bool false) rfl (by kernel_rfl) (by kernel_rfl) (by kernel_rfl) (fun _ _ _ h => h) (Or.inl ⟨by rfl, ?y38⟩) R ?r38
  case y38 => (intro ww hS; clear hS; go_simp; try with_reducible rfl)
  try simp only [Act.put, List.setIfInBounds_toArray, List.set_cons_zero, List.set_cons_succ]
  refine wpAnyH_done (by kernel_rfl) ?_ _
  replace o0 := dcarry_cell R o0
  replace o1 := dcarry_cell R o1
  replace bw := nbelow_trans bw R
  go_wp2_with fail
  refine Calls.mono (Fp.rSame_yes 0 0 0 0 _ zero_self zero_self) ?_
  rintro r wz ⟨rfl, bN⟩
  replace bw := nbelow_trans bw bN
  go_wp2_with fail
  go_ret
  exact ⟨rfl, bw⟩

set_option maxRecDepth 100000 in
set_option maxHeartbeats 4000000 in
theorem ddf_bg (h l x : Nat) (w : World) (hh : h < 18446744073709551616) (_hl : l < 18446744073709551616) (hx : x < 18446744073709551616) (ra : Fp.rightP h l = false) (rx : Fp.rightP x 0 = true) (hT : Tab w) :
    Calls Tryz.prog 3 #[.agg #[.float .f64 h, .float .f64 l], .float .f64 x] w fun r w' => r = .returned (.bool true) ∧ Below w.heap.size w w' := by
  have HR : Hid _ := fun w => Fp.rRight_calls h l w hh
  have HR2 : Hid _ := fun w => Fp.dRight_calls h l w hh
  have HRX : Hid _ := fun w => Fp.rRight_calls x 0 w hx
  rw [ra] at HR HR2
  rw [rx] at HRX
  have HV : Hid _ := fun w (_ : Tab w) => dvalue_bad h l w hh ra
  have HO : Hid _ := fun w => dof_good x w hx rx
  have hself := right_self x rx
  have HT : Hid (∀ w', Below w.heap.size w w' → Tab w') := fun w' hb => hT.kept hb
  clear hh _hl hx ra rx hT
  have bw := below_one w (.cells #[.float .f64 h, .float .f64 l] 24)
  have p0 : (w.alloc (.cells #[.float .f64 h, .float .f64 l] 24)).cell? ⟨w.heap.size, 0, none⟩ = some (.float .f64 h) := by go_simp
  have p1 : (w.alloc (.cells #[.float .f64 h, .float .f64 l] 24)).cell? ⟨w.heap.size, 1, none⟩ = some (.float .f64 l) := by go_simp
  go_enter Tryz.func3, Tryz.ntmps3
  go_wp2_with fail
  generalize (w.alloc (.cells #[.float .f64 h, .float .f64 l] 24)) = w0 at *
  refine Calls.mono (HR.out _) ?_
  rintro r w1 ⟨rfl, bN⟩
  replace p0 := dcarry_cell bN p0
  replace p1 := dcarry_cell bN p1
  replace bw := nbelow_trans bw bN
  clear bN
  go_wp2_with fail
  refine Calls.mono (HV.out _ (HT.out _ bw)) ?_
  rintro r w2 ⟨rfl, bN⟩
  replace p0 := dcarry_cell bN p0
  replace p1 := dcarry_cell bN p1
  replace bw := nbelow_trans bw bN
  clear bN
  have bA := below_one w2 (.cells #[.bool false, .slice none 0 0, .int .i64 0] 29)
  replace p0 := dcarry_cell bA p0
  replace p1 := dcarry_cell bA p1
  replace bw := nbelow_trans bw bA
  clear bA
  have v0 : (w2.alloc (.cells #[.bool false, .slice none 0 0, .int .i64 0] 29)).cell? ⟨w2.heap.size, 0, none⟩ = some (.bool false) := by go_simp
  have v1 : (w2.alloc (.cells #[.bool false, .slice none 0 0, .int .i64 0] 29)).cell? ⟨w2.heap.size, 1, none⟩ = some (.slice none 0 0) := by go_simp
  have v2 : (w2.alloc (.cells #[.bool false, .slice none 0 0, .int .i64 0] 29)).cell? ⟨w2.heap.size, 2, none⟩ = some (.int .i64 0) := by go_simp
  go_wp2_with fail
  generalize (w2.alloc (.cells #[.bool false, .slice none 0 0, .int .i64 0] 29)) = w3 at *
  refine Calls.mono (HO.out _) ?_
  rintro r w4 ⟨rfl, bN⟩
  replace p0 := dcarry_cell bN p0
  replace p1 := dcarry_cell bN p1
  replace v0 := dcarry_cell bN v0
  replace v1 := dcarry_cell bN v1
  replace v2 := dcarry_cell bN v2
  replace bw := nbelow_trans bw bN
  clear bN
  have bA := below_one w4 (.cells #[.float .f64 x, .float .f64 0] 24)
  replace p0 := dcarry_cell bA p0
  replace p1 := dcarry_cell bA p1
  replace v0 := dcarry_cell bA v0
  replace v1 := dcarry_cell bA v1
  replace v2 := dcarry_cell bA v2
  replace bw := nbelow_trans bw bA
  clear bA
  have o0 : (w4.alloc (.cells #[.float .f64 x, .float .f64 0] 24)).cell? ⟨w4.heap.size, 0, none⟩ = some (.float .f64 x) := by go_simp
  have o1 : (w4.alloc (.cells #[.float .f64 x, .float .f64 0] 24)).cell? ⟨w4.heap.size, 1, none⟩ = some (.float .f64 0) := by go_simp
  go_wp2_with fail
  generalize (w4.alloc (.cells #[.float .f64 x, .float .f64 0] 24)) = w5 at *
  refine Calls.mono (HRX.out _) ?_
  rintro r w6 ⟨rfl, bN⟩
  replace p0 := dcarry_cell bN p0
  replace p1 := dcarry_cell bN p1
  replace v0 := dcarry_cell bN v0
  replace v1 := dcarry_cell bN v1
  replace v2 := dcarry_cell bN v2
  replace o0 := dcarry_cell bN o0
  replace o1 := dcarry_cell bN o1
  replace bw := nbelow_trans bw bN
  clear bN
  go_wp2_with fail
  refine Calls.mono (HR2.out _) ?_
  rintro r w7 ⟨rfl, bN⟩
  replace p0 := dcarry_cell bN p0
  replace p1 := dcarry_cell bN p1
  replace v0 := dcarry_cell bN v0
  replace v1 := dcarry_cell bN v1
  replace v2 := dcarry_cell bN v2
  replace o0 := dcarry_cell bN o0
  replace o1 := dcarry_cell bN o1
  replace bw := nbelow_trans bw bN
  clear bN
  go_wp2_with fail
  refine Calls.mono (Fp.dBegins_calls _) ?_
  rintro r w8 ⟨rfl, bN⟩
  replace p0 := dcarry_cell bN p0
  replace p1 := dcarry_cell bN p1
  replace v0 := dcarry_cell bN v0
  replace v1 := dcarry_cell bN v1
  replace v2 := dcarry_cell bN v2
  replace o0 := dcarry_cell bN o0
  replace o1 := dcarry_cell bN o1
  replace bw := nbelow_trans bw bN
  clear bN
  go_upto_region 7 with fail
  have R : Below w8.heap.size w8 (World.drew w8) := (Below.refl _ _).drew
  refine wp_region_held (S := fun w' => Below w8.heap.size w8 w') (by kernel_rfl) ?_
  change wpAnyH _ _ _ _ _ _ _ _ (World.drew w8)
  generalize World.drew w8 = wd at R ⊢
  refine wpAnyH_take (i := 0) (oi := { dst := some 46, op := Op.move (Operand.tmp 5), type := 4, pos := "law.go:21", after := #[], guard := none }) (v := .bool false) rfl (by kernel_rfl) (by kernel_rfl) (by kernel_rfl) (fun _ _ _ h => h) (Or.inl ⟨by rfl, ?y39⟩) R ?r39
  case y39 => (intro ww hS; clear hS; go_simp; try with_reducible rfl)
  try simp only [Act.put, List.setIfInBounds_toArray, List.set_cons_zero, List.set_cons_succ]
  refine wpAnyH_take (i := 1) (oi := { dst := some 47, op := Op.unOp UnOp.not 4 (Operand.tmp 46), type := 4, pos := "law.go:21", after := #[{ on := 0, ground := Ground.data }], guard := none }) (v := .bool true) rfl (by kernel_rfl) (by kernel_rfl) (by kernel_rfl) (fun _ _ _ h => h) (Or.inl ⟨by rfl, ?y40⟩) R ?r40
  case y40 => (intro ww hS; clear hS; go_simp; try with_reducible rfl)
  try simp only [Act.put, List.setIfInBounds_toArray, List.set_cons_zero, List.set_cons_succ]
  refine wpAnyH_take (i := 2) (oi := { dst := some 48, op := Op.move (Operand.tmp 47), type := 4, pos := "law.go:21", after := #[{ on := 1, ground := Ground.data }], guard := none }) (v := .bool true) rfl (by kernel_rfl) (by kernel_rfl) (by kernel_rfl) (fun _ _ _ h => h) (Or.inl ⟨by rfl, ?y41⟩) R ?r41
  case y41 => (intro ww hS; clear hS; go_simp; try with_reducible rfl)
  try simp only [Act.put, List.setIfInBounds_toArray, List.set_cons_zero, List.set_cons_succ]
  refine wpAnyH_take (i := 3) (oi := { dst := some 49, op := Op.move (Operand.tmp 7), type := 30, pos := "law.go:21", after := #[{ on := 2, ground := Ground.guard }], guard := some (2, true) }) (v := .int .i64 2) rfl (by kernel_rfl) (by kernel_rfl) (by kernel_rfl) (fun _ _ _ h => h) (Or.inl ⟨by rfl, ?y42⟩) R ?r42
  case y42 => (intro ww hS; clear hS; go_simp; try with_reducible rfl)
  try simp only [Act.put, List.setIfInBounds_toArray, List.set_cons_zero, List.set_cons_succ]
  refine wpAnyH_take (i := 4) (oi := { dst := some 50, op := Op.binOp BinOp.neq 30 (Operand.tmp 49) (Operand.const (Value.int IntKind.i64 2)) 30, type := 4, pos := "law.go:21", after := #[{ on := 3, ground := Ground.data }, { on := 2, ground := Ground.guard }], guard := some (2, true) }) (v := .bool false) rfl (by kernel_rfl) (by kernel_rfl) (by kernel_rfl) (fun _ _ _ h => h) (Or.inl ⟨by rfl, ?y43⟩) R ?r43
  case y43 => (intro ww hS; clear hS; go_simp; try with_reducible rfl)
  try simp only [Act.put, List.setIfInBounds_toArray, List.set_cons_zero, List.set_cons_succ]
  refine wpAnyH_take (i := 5) (oi := { dst := some 51, op := Op.move (Operand.tmp 50), type := 4, pos := "law.go:21", after := #[{ on := 4, ground := Ground.data }, { on := 2, ground := Ground.chain }, { on := 2, ground := Ground.guard }], guard := some (2, true) }) (v := .bool false) rfl (by kernel_rfl) (by kernel_rfl) (by kernel_rfl) (fun _ _ _ h => h) (Or.inl ⟨by rfl, ?y44⟩) R ?r44
  case y44 => (intro ww hS; clear hS; go_simp; try with_reducible rfl)
  try simp only [Act.put, List.setIfInBounds_toArray, List.set_cons_zero, List.set_cons_succ]
  refine wpAnyH_take (i := 6) (oi := { dst := some 52, op := Op.load 29 (Operand.tmp 6), type := 29, pos := "law.go:21", after := #[{ on := 5, ground := Ground.guard }], guard := some (5, false) }) (v := .agg #[.bool false, .slice none 0 0, .int .i64 0]) rfl (by kernel_rfl) (by kernel_rfl) (by kernel_rfl) (fun _ _ _ h => h) (Or.inl ⟨by rfl, ?y45⟩) R ?r45
  case y45 => (intro ww hS; have q0 := dcarry_cell hS v0; have q1 := dcarry_cell hS v1; have q2 := dcarry_cell hS v2; clear hS; go_simp; try with_reducible rfl)
  try simp only [Act.put, List.setIfInBounds_toArray, List.set_cons_zero, List.set_cons_succ]
  refine wpAnyH_take (i := 7) (oi := { dst := some 53, op := Op.build 29 #[], type := 29, pos := "law.go:21", after := #[{ on := 5, ground := Ground.guard }], guard := some (5, false) }) (v := .agg #[.bool false, .slice none 0 0, .int .i64 0]) rfl (by kernel_rfl) (by kernel_rfl) (by kernel_rfl) (fun _ _ _ h => h) (Or.inl ⟨by rfl, ?y46⟩) R ?r46
  case y46 => (intro ww hS; clear hS; go_simp; try with_reducible rfl)
  try simp only [Act.put, List.setIfInBounds_toArray, List.set_cons_zero, List.set_cons_succ]
  refine wpAnyH_ready (rs := [8]) (by kernel_rfl) (by simp) ?_
  refine AllReadyH.cons rfl (fun K hK => ?_) AllReadyH.nil
  go_simp
  refine Calls.mono (sameZ _) ?_
  rintro r w9 ⟨rfl, bN⟩
  replace R := nbelow_trans R bN
  clear bN
  refine hK.out _ _ R (fun _ => ?_)
  clear hK K
  try simp only [Act.put, List.setIfInBounds_toArray, List.set_cons_zero, List.set_cons_succ]
  refine wpAnyH_take (i := 9) (oi := { dst := some 55, op := Op.unOp UnOp.not 4 (Operand.tmp 54), type := 4, pos := "law.go:21", after := #[{ on := 8, ground := Ground.data }, { on := 5, ground := Ground.guard }], guard := some (5, false) }) (v := .bool false) rfl (by kernel_rfl) (by kernel_rfl) (by kernel_rfl) (fun _ _ _ h => h) (Or.inl ⟨by rfl, ?y47⟩) R ?r47
  case y47 => (intro ww hS; clear hS; go_simp; try with_reducible rfl)
  try simp only [Act.put, List.setIfInBounds_toArray, List.set_cons_zero, List.set_cons_succ]
  refine wpAnyH_take (i := 10) (oi := { dst := some 56, op := Op.pick (Operand.tmp 51) (Operand.const (Value.bool true)) (Operand.tmp 55), type := 4, pos := "law.go:21", after := #[{ on := 5, ground := Ground.data }, { on := 9, ground := Ground.data }, { on := 2, ground := Ground.guard }], guard := some (2, true) }) (v := .bool false) rfl (by kernel_rfl) (by kernel_rfl) (by kernel_rfl) (fun _ _ _ h => h) (Or.inl ⟨by rfl, ?y48⟩) R ?r48
  case y48 => (intro ww hS; clear hS; go_simp; try with_reducible rfl)
  try simp only [Act.put, List.setIfInBounds_toArray, List.set_cons_zero, List.set_cons_succ]
  refine wpAnyH_take (i := 11) (oi := { dst := some 57, op := Op.pick (Operand.tmp 48) (Operand.tmp 56) (Operand.const (Value.bool false)), type := 4, pos := "law.go:21", after := #[{ on := 2, ground := Ground.data }, { on := 10, ground := Ground.data }], guard := none }) (v := .bool false) rfl (by kernel_rfl) (by kernel_rfl) (by kernel_rfl) (fun _ _ _ h => h) (Or.inl ⟨by rfl, ?y49⟩) R ?r49
  case y49 => (intro ww hS; clear hS; go_simp; try with_reducible rfl)
  try simp only [Act.put, List.setIfInBounds_toArray, List.set_cons_zero, List.set_cons_succ]
  refine wpAnyH_take (i := 12) (oi := { dst := some 58, op := Op.move (Operand.tmp 57), type := 4, pos := "law.go:21", after := #[{ on := 11, ground := Ground.data }, { on := 8, ground := Ground.chain }], guard := none }) (v := .bool false) rfl (by kernel_rfl) (by kernel_rfl) (by kernel_rfl) (fun _ _ _ h => h) (Or.inl ⟨by rfl, ?y50⟩) R ?r50
  case y50 => (intro ww hS; clear hS; go_simp; try with_reducible rfl)
  try simp only [Act.put, List.setIfInBounds_toArray, List.set_cons_zero, List.set_cons_succ]
  refine wpAnyH_take (i := 13) (oi := { dst := some 59, op := Op.move (Operand.tmp 5), type := 4, pos := "law.go:21", after := #[{ on := 12, ground := Ground.guard }], guard := some (12, false) }) (v := .bool false) rfl (by kernel_rfl) (by kernel_rfl) (by kernel_rfl) (fun _ _ _ h => h) (Or.inl ⟨by rfl, ?y51⟩) R ?r51
  case y51 => (intro ww hS; clear hS; go_simp; try with_reducible rfl)
  try simp only [Act.put, List.setIfInBounds_toArray, List.set_cons_zero, List.set_cons_succ]
  refine wpAnyH_take (i := 14) (oi := { dst := some 60, op := Op.move (Operand.tmp 59), type := 4, pos := "law.go:21", after := #[{ on := 13, ground := Ground.data }, { on := 12, ground := Ground.chain }, { on := 12, ground := Ground.guard }], guard := some (12, false) }) (v := .bool false) rfl (by kernel_rfl) (by kernel_rfl) (by kernel_rfl) (fun _ _ _ h => h) (Or.inl ⟨by rfl, ?y52⟩) R ?r52
  case y52 => (intro ww hS; clear hS; go_simp; try with_reducible rfl)
  try simp only [Act.put, List.setIfInBounds_toArray, List.set_cons_zero, List.set_cons_succ]
  refine wpAnyH_take (i := 15) (oi := { dst := some 61, op := Op.load 29 (Operand.tmp 6), type := 29, pos := "law.go:21", after := #[{ on := 14, ground := Ground.guard }], guard := some (14, true) }) (v := undef) rfl (by kernel_rfl) (by kernel_rfl) (by kernel_rfl) (fun _ _ _ h => h) (Or.inr ⟨by rfl, rfl⟩) R ?r53
  try simp only [Act.put, List.setIfInBounds_toArray, List.set_cons_zero, List.set_cons_succ]
  refine wpAnyH_take (i := 16) (oi := { dst := some 62, op := Op.load 24 (Operand.tmp 2), type := 24, pos := "law.go:21", after := #[{ on := 14, ground := Ground.guard }], guard := some (14, true) }) (v := undef) rfl (by kernel_rfl) (by kernel_rfl) (by kernel_rfl) (fun _ _ _ h => h) (Or.inr ⟨by rfl, rfl⟩) R ?r54
  try simp only [Act.put, List.setIfInBounds_toArray, List.set_cons_zero, List.set_cons_succ]
  refine wpAnyH_ready (rs := [17]) (by kernel_rfl) (by simp) ?_
  refine AllReadyH.cons rfl (fun K hK => ?_) AllReadyH.nil
  go_simp
  refine hK.out _ _ R (fun _ => ?_)
  clear hK K
  try simp only [Act.put, List.setIfInBounds_toArray, List.set_cons_zero, List.set_cons_succ]
  refine wpAnyH_ready (rs := [18]) (by kernel_rfl) (by simp) ?_
  refine AllReadyH.cons rfl (fun K hK => ?_) AllReadyH.nil
  go_simp
  refine hK.out _ _ R (fun _ => ?_)
  clear hK K
  try simp only [Act.put, List.setIfInBounds_toArray, List.set_cons_zero, List.set_cons_succ]
  refine wpAnyH_take (i := 19) (oi := { dst := some 65, op := Op.unOp UnOp.not 4 (Operand.tmp 64), type := 4, pos := "law.go:21", after := #[{ on := 18, ground := Ground.data }, { on := 14, ground := Ground.guard }], guard := some (14, true) }) (v := undef) rfl (by kernel_rfl) (by kernel_rfl) (by kernel_rfl) (fun _ _ _ h => h) (Or.inr ⟨by rfl, rfl⟩) R ?r55
  try simp only [Act.put, List.setIfInBounds_toArray, List.set_cons_zero, List.set_cons_succ]
  refine wpAnyH_take (i := 20) (oi := { dst := some 66, op := Op.pick (Operand.tmp 60) (Operand.tmp 65) (Operand.const (Value.bool false)), type := 4, pos := "law.go:21", after := #[{ on := 14, ground := Ground.data }, { on := 19, ground := Ground.data }, { on := 12, ground := Ground.guard }], guard := some (12, false) }) (v := .bool false) rfl (by kernel_rfl) (by kernel_rfl) (by kernel_rfl) (fun _ _ _ h => h) (Or.inl ⟨by rfl, ?y56⟩) R ?r56
  case y56 => (intro ww hS; clear hS; go_simp; try with_reducible rfl)
  try simp only [Act.put, List.setIfInBounds_toArray, List.set_cons_zero, List.set_cons_succ]
  refine wpAnyH_take (i := 21) (oi := { dst := some 67, op := Op.pick (Operand.tmp 58) (Operand.const (Value.bool true)) (Operand.tmp 66), type := 4, pos := "law.go:21", after := #[{ on := 12, ground := Ground.data }, { on := 20, ground := Ground.data }], guard := none }) (v := .bool false) rfl (by kernel_rfl) (by kernel_rfl) (by kernel_rfl) (fun _ _ _ h => h) (Or.inl ⟨by rfl, ?y57⟩) R ?r57
  case y57 => (intro ww hS; clear hS; go_simp; try with_reducible rfl)
  try simp only [Act.put, List.setIfInBounds_toArray, List.set_cons_zero, List.set_cons_succ]
  refine wpAnyH_done (by kernel_rfl) ?_ _
  replace o0 := dcarry_cell R o0
  replace o1 := dcarry_cell R o1
  replace bw := nbelow_trans bw R
  go_wp2_with fail
  refine Calls.mono (Fp.rSame_yes x 0 x 0 _ hself zero_self) ?_
  rintro r wz ⟨rfl, bN⟩
  replace bw := nbelow_trans bw bN
  go_wp2_with fail
  go_ret
  exact ⟨rfl, bw⟩

set_option maxRecDepth 100000 in
set_option maxHeartbeats 4000000 in
theorem ddf_bb (h l x : Nat) (w : World) (hh : h < 18446744073709551616) (_hl : l < 18446744073709551616) (hx : x < 18446744073709551616) (ra : Fp.rightP h l = false) (rx : Fp.rightP x 0 = false) (hT : Tab w) :
    Calls Tryz.prog 3 #[.agg #[.float .f64 h, .float .f64 l], .float .f64 x] w fun r w' => r = .returned (.bool true) ∧ Below w.heap.size w w' := by
  have HR : Hid _ := fun w => Fp.rRight_calls h l w hh
  have HR2 : Hid _ := fun w => Fp.dRight_calls h l w hh
  have HRX : Hid _ := fun w => Fp.rRight_calls x 0 w hx
  rw [ra] at HR HR2
  rw [rx] at HRX
  have HV : Hid _ := fun w (_ : Tab w) => dvalue_bad h l w hh ra
  have HO : Hid _ := fun w => Fp.dOf_bad x w hx rx
  have HT : Hid (∀ w', Below w.heap.size w w' → Tab w') := fun w' hb => hT.kept hb
  clear hh _hl hx ra rx hT
  have bw := below_one w (.cells #[.float .f64 h, .float .f64 l] 24)
  have p0 : (w.alloc (.cells #[.float .f64 h, .float .f64 l] 24)).cell? ⟨w.heap.size, 0, none⟩ = some (.float .f64 h) := by go_simp
  have p1 : (w.alloc (.cells #[.float .f64 h, .float .f64 l] 24)).cell? ⟨w.heap.size, 1, none⟩ = some (.float .f64 l) := by go_simp
  go_enter Tryz.func3, Tryz.ntmps3
  go_wp2_with fail
  generalize (w.alloc (.cells #[.float .f64 h, .float .f64 l] 24)) = w0 at *
  refine Calls.mono (HR.out _) ?_
  rintro r w1 ⟨rfl, bN⟩
  replace p0 := dcarry_cell bN p0
  replace p1 := dcarry_cell bN p1
  replace bw := nbelow_trans bw bN
  clear bN
  go_wp2_with fail
  refine Calls.mono (HV.out _ (HT.out _ bw)) ?_
  rintro r w2 ⟨rfl, bN⟩
  replace p0 := dcarry_cell bN p0
  replace p1 := dcarry_cell bN p1
  replace bw := nbelow_trans bw bN
  clear bN
  have bA := below_one w2 (.cells #[.bool false, .slice none 0 0, .int .i64 0] 29)
  replace p0 := dcarry_cell bA p0
  replace p1 := dcarry_cell bA p1
  replace bw := nbelow_trans bw bA
  clear bA
  have v0 : (w2.alloc (.cells #[.bool false, .slice none 0 0, .int .i64 0] 29)).cell? ⟨w2.heap.size, 0, none⟩ = some (.bool false) := by go_simp
  have v1 : (w2.alloc (.cells #[.bool false, .slice none 0 0, .int .i64 0] 29)).cell? ⟨w2.heap.size, 1, none⟩ = some (.slice none 0 0) := by go_simp
  have v2 : (w2.alloc (.cells #[.bool false, .slice none 0 0, .int .i64 0] 29)).cell? ⟨w2.heap.size, 2, none⟩ = some (.int .i64 0) := by go_simp
  go_wp2_with fail
  generalize (w2.alloc (.cells #[.bool false, .slice none 0 0, .int .i64 0] 29)) = w3 at *
  refine Calls.mono (HO.out _) ?_
  rintro r w4 ⟨rfl, bN⟩
  replace p0 := dcarry_cell bN p0
  replace p1 := dcarry_cell bN p1
  replace v0 := dcarry_cell bN v0
  replace v1 := dcarry_cell bN v1
  replace v2 := dcarry_cell bN v2
  replace bw := nbelow_trans bw bN
  clear bN
  have bA := below_one w4 (.cells #[.float .f64 0, .float .f64 0] 24)
  replace p0 := dcarry_cell bA p0
  replace p1 := dcarry_cell bA p1
  replace v0 := dcarry_cell bA v0
  replace v1 := dcarry_cell bA v1
  replace v2 := dcarry_cell bA v2
  replace bw := nbelow_trans bw bA
  clear bA
  have o0 : (w4.alloc (.cells #[.float .f64 0, .float .f64 0] 24)).cell? ⟨w4.heap.size, 0, none⟩ = some (.float .f64 0) := by go_simp
  have o1 : (w4.alloc (.cells #[.float .f64 0, .float .f64 0] 24)).cell? ⟨w4.heap.size, 1, none⟩ = some (.float .f64 0) := by go_simp
  go_wp2_with fail
  generalize (w4.alloc (.cells #[.float .f64 0, .float .f64 0] 24)) = w5 at *
  refine Calls.mono (HRX.out _) ?_
  rintro r w6 ⟨rfl, bN⟩
  replace p0 := dcarry_cell bN p0
  replace p1 := dcarry_cell bN p1
  replace v0 := dcarry_cell bN v0
  replace v1 := dcarry_cell bN v1
  replace v2 := dcarry_cell bN v2
  replace o0 := dcarry_cell bN o0
  replace o1 := dcarry_cell bN o1
  replace bw := nbelow_trans bw bN
  clear bN
  go_wp2_with fail
  refine Calls.mono (HR2.out _) ?_
  rintro r w7 ⟨rfl, bN⟩
  replace p0 := dcarry_cell bN p0
  replace p1 := dcarry_cell bN p1
  replace v0 := dcarry_cell bN v0
  replace v1 := dcarry_cell bN v1
  replace v2 := dcarry_cell bN v2
  replace o0 := dcarry_cell bN o0
  replace o1 := dcarry_cell bN o1
  replace bw := nbelow_trans bw bN
  clear bN
  go_wp2_with fail
  refine Calls.mono (Fp.dBegins_calls _) ?_
  rintro r w8 ⟨rfl, bN⟩
  replace p0 := dcarry_cell bN p0
  replace p1 := dcarry_cell bN p1
  replace v0 := dcarry_cell bN v0
  replace v1 := dcarry_cell bN v1
  replace v2 := dcarry_cell bN v2
  replace o0 := dcarry_cell bN o0
  replace o1 := dcarry_cell bN o1
  replace bw := nbelow_trans bw bN
  clear bN
  go_upto_region 7 with fail
  have R : Below w8.heap.size w8 (World.drew w8) := (Below.refl _ _).drew
  refine wp_region_held (S := fun w' => Below w8.heap.size w8 w') (by kernel_rfl) ?_
  change wpAnyH _ _ _ _ _ _ _ _ (World.drew w8)
  generalize World.drew w8 = wd at R ⊢
  refine wpAnyH_take (i := 0) (oi := { dst := some 46, op := Op.move (Operand.tmp 5), type := 4, pos := "law.go:21", after := #[], guard := none }) (v := .bool false) rfl (by kernel_rfl) (by kernel_rfl) (by kernel_rfl) (fun _ _ _ h => h) (Or.inl ⟨by rfl, ?y58⟩) R ?r58
  case y58 => (intro ww hS; clear hS; go_simp; try with_reducible rfl)
  try simp only [Act.put, List.setIfInBounds_toArray, List.set_cons_zero, List.set_cons_succ]
  refine wpAnyH_take (i := 1) (oi := { dst := some 47, op := Op.unOp UnOp.not 4 (Operand.tmp 46), type := 4, pos := "law.go:21", after := #[{ on := 0, ground := Ground.data }], guard := none }) (v := .bool true) rfl (by kernel_rfl) (by kernel_rfl) (by kernel_rfl) (fun _ _ _ h => h) (Or.inl ⟨by rfl, ?y59⟩) R ?r59
  case y59 => (intro ww hS; clear hS; go_simp; try with_reducible rfl)
  try simp only [Act.put, List.setIfInBounds_toArray, List.set_cons_zero, List.set_cons_succ]
  refine wpAnyH_take (i := 2) (oi := { dst := some 48, op := Op.move (Operand.tmp 47), type := 4, pos := "law.go:21", after := #[{ on := 1, ground := Ground.data }], guard := none }) (v := .bool true) rfl (by kernel_rfl) (by kernel_rfl) (by kernel_rfl) (fun _ _ _ h => h) (Or.inl ⟨by rfl, ?y60⟩) R ?r60
  case y60 => (intro ww hS; clear hS; go_simp; try with_reducible rfl)
  try simp only [Act.put, List.setIfInBounds_toArray, List.set_cons_zero, List.set_cons_succ]
  refine wpAnyH_take (i := 3) (oi := { dst := some 49, op := Op.move (Operand.tmp 7), type := 30, pos := "law.go:21", after := #[{ on := 2, ground := Ground.guard }], guard := some (2, true) }) (v := .int .i64 2) rfl (by kernel_rfl) (by kernel_rfl) (by kernel_rfl) (fun _ _ _ h => h) (Or.inl ⟨by rfl, ?y61⟩) R ?r61
  case y61 => (intro ww hS; clear hS; go_simp; try with_reducible rfl)
  try simp only [Act.put, List.setIfInBounds_toArray, List.set_cons_zero, List.set_cons_succ]
  refine wpAnyH_take (i := 4) (oi := { dst := some 50, op := Op.binOp BinOp.neq 30 (Operand.tmp 49) (Operand.const (Value.int IntKind.i64 2)) 30, type := 4, pos := "law.go:21", after := #[{ on := 3, ground := Ground.data }, { on := 2, ground := Ground.guard }], guard := some (2, true) }) (v := .bool false) rfl (by kernel_rfl) (by kernel_rfl) (by kernel_rfl) (fun _ _ _ h => h) (Or.inl ⟨by rfl, ?y62⟩) R ?r62
  case y62 => (intro ww hS; clear hS; go_simp; try with_reducible rfl)
  try simp only [Act.put, List.setIfInBounds_toArray, List.set_cons_zero, List.set_cons_succ]
  refine wpAnyH_take (i := 5) (oi := { dst := some 51, op := Op.move (Operand.tmp 50), type := 4, pos := "law.go:21", after := #[{ on := 4, ground := Ground.data }, { on := 2, ground := Ground.chain }, { on := 2, ground := Ground.guard }], guard := some (2, true) }) (v := .bool false) rfl (by kernel_rfl) (by kernel_rfl) (by kernel_rfl) (fun _ _ _ h => h) (Or.inl ⟨by rfl, ?y63⟩) R ?r63
  case y63 => (intro ww hS; clear hS; go_simp; try with_reducible rfl)
  try simp only [Act.put, List.setIfInBounds_toArray, List.set_cons_zero, List.set_cons_succ]
  refine wpAnyH_take (i := 6) (oi := { dst := some 52, op := Op.load 29 (Operand.tmp 6), type := 29, pos := "law.go:21", after := #[{ on := 5, ground := Ground.guard }], guard := some (5, false) }) (v := .agg #[.bool false, .slice none 0 0, .int .i64 0]) rfl (by kernel_rfl) (by kernel_rfl) (by kernel_rfl) (fun _ _ _ h => h) (Or.inl ⟨by rfl, ?y64⟩) R ?r64
  case y64 => (intro ww hS; have q0 := dcarry_cell hS v0; have q1 := dcarry_cell hS v1; have q2 := dcarry_cell hS v2; clear hS; go_simp; try with_reducible rfl)
  try simp only [Act.put, List.setIfInBounds_toArray, List.set_cons_zero, List.set_cons_succ]
  refine wpAnyH_take (i := 7) (oi := { dst := some 53, op := Op.build 29 #[], type := 29, pos := "law.go:21", after := #[{ on := 5, ground := Ground.guard }], guard := some (5, false) }) (v := .agg #[.bool false, .slice none 0 0, .int .i64 0]) rfl (by kernel_rfl) (by kernel_rfl) (by kernel_rfl) (fun _ _ _ h => h) (Or.inl ⟨by rfl, ?y65⟩) R ?r65
  case y65 => (intro ww hS; clear hS; go_simp; try with_reducible rfl)
  try simp only [Act.put, List.setIfInBounds_toArray, List.set_cons_zero, List.set_cons_succ]
  refine wpAnyH_ready (rs := [8]) (by kernel_rfl) (by simp) ?_
  refine AllReadyH.cons rfl (fun K hK => ?_) AllReadyH.nil
  go_simp
  refine Calls.mono (sameZ _) ?_
  rintro r w9 ⟨rfl, bN⟩
  replace R := nbelow_trans R bN
  clear bN
  refine hK.out _ _ R (fun _ => ?_)
  clear hK K
  try simp only [Act.put, List.setIfInBounds_toArray, List.set_cons_zero, List.set_cons_succ]
  refine wpAnyH_take (i := 9) (oi := { dst := some 55, op := Op.unOp UnOp.not 4 (Operand.tmp 54), type := 4, pos := "law.go:21", after := #[{ on := 8, ground := Ground.data }, { on := 5, ground := Ground.guard }], guard := some (5, false) }) (v := .bool false) rfl (by kernel_rfl) (by kernel_rfl) (by kernel_rfl) (fun _ _ _ h => h) (Or.inl ⟨by rfl, ?y66⟩) R ?r66
  case y66 => (intro ww hS; clear hS; go_simp; try with_reducible rfl)
  try simp only [Act.put, List.setIfInBounds_toArray, List.set_cons_zero, List.set_cons_succ]
  refine wpAnyH_take (i := 10) (oi := { dst := some 56, op := Op.pick (Operand.tmp 51) (Operand.const (Value.bool true)) (Operand.tmp 55), type := 4, pos := "law.go:21", after := #[{ on := 5, ground := Ground.data }, { on := 9, ground := Ground.data }, { on := 2, ground := Ground.guard }], guard := some (2, true) }) (v := .bool false) rfl (by kernel_rfl) (by kernel_rfl) (by kernel_rfl) (fun _ _ _ h => h) (Or.inl ⟨by rfl, ?y67⟩) R ?r67
  case y67 => (intro ww hS; clear hS; go_simp; try with_reducible rfl)
  try simp only [Act.put, List.setIfInBounds_toArray, List.set_cons_zero, List.set_cons_succ]
  refine wpAnyH_take (i := 11) (oi := { dst := some 57, op := Op.pick (Operand.tmp 48) (Operand.tmp 56) (Operand.const (Value.bool false)), type := 4, pos := "law.go:21", after := #[{ on := 2, ground := Ground.data }, { on := 10, ground := Ground.data }], guard := none }) (v := .bool false) rfl (by kernel_rfl) (by kernel_rfl) (by kernel_rfl) (fun _ _ _ h => h) (Or.inl ⟨by rfl, ?y68⟩) R ?r68
  case y68 => (intro ww hS; clear hS; go_simp; try with_reducible rfl)
  try simp only [Act.put, List.setIfInBounds_toArray, List.set_cons_zero, List.set_cons_succ]
  refine wpAnyH_take (i := 12) (oi := { dst := some 58, op := Op.move (Operand.tmp 57), type := 4, pos := "law.go:21", after := #[{ on := 11, ground := Ground.data }, { on := 8, ground := Ground.chain }], guard := none }) (v := .bool false) rfl (by kernel_rfl) (by kernel_rfl) (by kernel_rfl) (fun _ _ _ h => h) (Or.inl ⟨by rfl, ?y69⟩) R ?r69
  case y69 => (intro ww hS; clear hS; go_simp; try with_reducible rfl)
  try simp only [Act.put, List.setIfInBounds_toArray, List.set_cons_zero, List.set_cons_succ]
  refine wpAnyH_take (i := 13) (oi := { dst := some 59, op := Op.move (Operand.tmp 5), type := 4, pos := "law.go:21", after := #[{ on := 12, ground := Ground.guard }], guard := some (12, false) }) (v := .bool false) rfl (by kernel_rfl) (by kernel_rfl) (by kernel_rfl) (fun _ _ _ h => h) (Or.inl ⟨by rfl, ?y70⟩) R ?r70
  case y70 => (intro ww hS; clear hS; go_simp; try with_reducible rfl)
  try simp only [Act.put, List.setIfInBounds_toArray, List.set_cons_zero, List.set_cons_succ]
  refine wpAnyH_take (i := 14) (oi := { dst := some 60, op := Op.move (Operand.tmp 59), type := 4, pos := "law.go:21", after := #[{ on := 13, ground := Ground.data }, { on := 12, ground := Ground.chain }, { on := 12, ground := Ground.guard }], guard := some (12, false) }) (v := .bool false) rfl (by kernel_rfl) (by kernel_rfl) (by kernel_rfl) (fun _ _ _ h => h) (Or.inl ⟨by rfl, ?y71⟩) R ?r71
  case y71 => (intro ww hS; clear hS; go_simp; try with_reducible rfl)
  try simp only [Act.put, List.setIfInBounds_toArray, List.set_cons_zero, List.set_cons_succ]
  refine wpAnyH_take (i := 15) (oi := { dst := some 61, op := Op.load 29 (Operand.tmp 6), type := 29, pos := "law.go:21", after := #[{ on := 14, ground := Ground.guard }], guard := some (14, true) }) (v := undef) rfl (by kernel_rfl) (by kernel_rfl) (by kernel_rfl) (fun _ _ _ h => h) (Or.inr ⟨by rfl, rfl⟩) R ?r72
  try simp only [Act.put, List.setIfInBounds_toArray, List.set_cons_zero, List.set_cons_succ]
  refine wpAnyH_take (i := 16) (oi := { dst := some 62, op := Op.load 24 (Operand.tmp 2), type := 24, pos := "law.go:21", after := #[{ on := 14, ground := Ground.guard }], guard := some (14, true) }) (v := undef) rfl (by kernel_rfl) (by kernel_rfl) (by kernel_rfl) (fun _ _ _ h => h) (Or.inr ⟨by rfl, rfl⟩) R ?r73
  try simp only [Act.put, List.setIfInBounds_toArray, List.set_cons_zero, List.set_cons_succ]
  refine wpAnyH_ready (rs := [17]) (by kernel_rfl) (by simp) ?_
  refine AllReadyH.cons rfl (fun K hK => ?_) AllReadyH.nil
  go_simp
  refine hK.out _ _ R (fun _ => ?_)
  clear hK K
  try simp only [Act.put, List.setIfInBounds_toArray, List.set_cons_zero, List.set_cons_succ]
  refine wpAnyH_ready (rs := [18]) (by kernel_rfl) (by simp) ?_
  refine AllReadyH.cons rfl (fun K hK => ?_) AllReadyH.nil
  go_simp
  refine hK.out _ _ R (fun _ => ?_)
  clear hK K
  try simp only [Act.put, List.setIfInBounds_toArray, List.set_cons_zero, List.set_cons_succ]
  refine wpAnyH_take (i := 19) (oi := { dst := some 65, op := Op.unOp UnOp.not 4 (Operand.tmp 64), type := 4, pos := "law.go:21", after := #[{ on := 18, ground := Ground.data }, { on := 14, ground := Ground.guard }], guard := some (14, true) }) (v := undef) rfl (by kernel_rfl) (by kernel_rfl) (by kernel_rfl) (fun _ _ _ h => h) (Or.inr ⟨by rfl, rfl⟩) R ?r74
  try simp only [Act.put, List.setIfInBounds_toArray, List.set_cons_zero, List.set_cons_succ]
  refine wpAnyH_take (i := 20) (oi := { dst := some 66, op := Op.pick (Operand.tmp 60) (Operand.tmp 65) (Operand.const (Value.bool false)), type := 4, pos := "law.go:21", after := #[{ on := 14, ground := Ground.data }, { on := 19, ground := Ground.data }, { on := 12, ground := Ground.guard }], guard := some (12, false) }) (v := .bool false) rfl (by kernel_rfl) (by kernel_rfl) (by kernel_rfl) (fun _ _ _ h => h) (Or.inl ⟨by rfl, ?y75⟩) R ?r75
  case y75 => (intro ww hS; clear hS; go_simp; try with_reducible rfl)
  try simp only [Act.put, List.setIfInBounds_toArray, List.set_cons_zero, List.set_cons_succ]
  refine wpAnyH_take (i := 21) (oi := { dst := some 67, op := Op.pick (Operand.tmp 58) (Operand.const (Value.bool true)) (Operand.tmp 66), type := 4, pos := "law.go:21", after := #[{ on := 12, ground := Ground.data }, { on := 20, ground := Ground.data }], guard := none }) (v := .bool false) rfl (by kernel_rfl) (by kernel_rfl) (by kernel_rfl) (fun _ _ _ h => h) (Or.inl ⟨by rfl, ?y76⟩) R ?r76
  case y76 => (intro ww hS; clear hS; go_simp; try with_reducible rfl)
  try simp only [Act.put, List.setIfInBounds_toArray, List.set_cons_zero, List.set_cons_succ]
  refine wpAnyH_done (by kernel_rfl) ?_ _
  replace o0 := dcarry_cell R o0
  replace o1 := dcarry_cell R o1
  replace bw := nbelow_trans bw R
  go_wp2_with fail
  refine Calls.mono (Fp.rSame_yes 0 0 0 0 _ zero_self zero_self) ?_
  rintro r wz ⟨rfl, bN⟩
  replace bw := nbelow_trans bw bN
  go_wp2_with fail
  go_ret
  exact ⟨rfl, bw⟩

theorem ddForms_walk (h l x : Nat) (w : World) (hh : h < 18446744073709551616) (hl : l < 18446744073709551616) (hx : x < 18446744073709551616) (hT : Tab w) :
    Calls Tryz.prog 3 #[.agg #[.float .f64 h, .float .f64 l], .float .f64 x] w fun r w' => r = .returned (.bool true) ∧ Below w.heap.size w w' := by
  cases ra : Fp.rightP h l <;> cases rx : Fp.rightP x 0
  · exact ddf_bb h l x w hh hl hx ra rx hT
  · exact ddf_bg h l x w hh hl hx ra rx hT
  · exact ddf_gb h l x w hh hl hx ra rx hT
  · exact ddf_gg h l x w hh hl hx ra rx hT
end Go.Proofs.YtmhddjacjomnbaaGreatDoor

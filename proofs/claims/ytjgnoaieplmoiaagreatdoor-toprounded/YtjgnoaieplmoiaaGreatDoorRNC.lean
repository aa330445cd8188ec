/- Package round: Decide. -/
import Derived.Test.YtjgnoaieplmoiaaGreatDoorRNB
namespace Go.Proofs.YtjgnoaieplmoiaaGreatDoor
open Go.RowKit

/-- what Decide answers: is it decided, the bits, the flags, the error -/
def dcB (s : Bool) (m : Nat) (e : Int) (s' : Bool) (m' : Nat) (e' : Int) : Bool := rtB s m e s' m' e' && (decide (nearB s m e = nearB s' m' e') && (tinyP m e == tinyP m' e'))
def dcN (s : Bool) (m : Nat) (e : Int) (s' : Bool) (m' : Nat) (e' : Int) : Int := if dcB s m e s' m' e' = true then nearB s m e else 0
def dcF (s : Bool) (m : Nat) (e : Int) (s' : Bool) (m' : Nat) (e' : Int) : Int := if dcB s m e s' m' e' = true then inxF (nearB s m e) (tinyP m e) else 0
def dcE (s : Bool) (m : Nat) (e : Int) (s' : Bool) (m' : Nat) (e' : Int) : Int := if rtB s m e s' m' e' = true then 0 else 2

set_option maxRecDepth 100000 in
set_option maxHeartbeats 4000000 in
theorem dec_x (s : Bool) (a : Option Addr) (len cap : Nat) (xs : List Int) (e : Int) (s' : Bool) (a' : Option Addr) (len' cap' : Nat) (ys : List Int) (e' : Int) (w : World) (h : IsW w a len cap xs) (hm : len ≤ 17592186044000) (h' : IsW w a' len' cap' ys) (hm' : len' ≤ 17592186044000) (hT : Tab w) (hr : rtB s (val xs) e s' (val ys) e' = false) :
    Calls Tryz.prog 9 #[ivV s a len cap e s' a' len' cap' e'] w fun r w' => r = .returned (.tuple #[.agg #[.int .u64 0, .int .u8 0], .bool false, .int .i64 2]) ∧ Below w.heap.size w w' := by
  have bA : Below w.heap.size w ((w.alloc (.cells #[.bool s, .slice a len cap, .int .i64 e, .bool s', .slice a' len' cap', .int .i64 e'] 27)).alloc (.cells #[.int .u64 0, .int .u8 0] 35)) := nbelow_trans (below_one _ _) (below_one _ _)
  have hI := h.keep bA
  have hJ := h'.keep bA
  have hT0 := hT.kept bA
  have c1 : ((w.alloc (.cells #[.bool s, .slice a len cap, .int .i64 e, .bool s', .slice a' len' cap', .int .i64 e'] 27)).alloc (.cells #[.int .u64 0, .int .u8 0] 35)).cell? ⟨w.heap.size, 0, none⟩ = some (.bool s) := by go_simp
  have c2 : ((w.alloc (.cells #[.bool s, .slice a len cap, .int .i64 e, .bool s', .slice a' len' cap', .int .i64 e'] 27)).alloc (.cells #[.int .u64 0, .int .u8 0] 35)).cell? ⟨w.heap.size, 1, none⟩ = some (.slice a len cap) := by go_simp
  have c3 : ((w.alloc (.cells #[.bool s, .slice a len cap, .int .i64 e, .bool s', .slice a' len' cap', .int .i64 e'] 27)).alloc (.cells #[.int .u64 0, .int .u8 0] 35)).cell? ⟨w.heap.size, 2, none⟩ = some (.int .i64 e) := by go_simp
  have c4 : ((w.alloc (.cells #[.bool s, .slice a len cap, .int .i64 e, .bool s', .slice a' len' cap', .int .i64 e'] 27)).alloc (.cells #[.int .u64 0, .int .u8 0] 35)).cell? ⟨w.heap.size, 3, none⟩ = some (.bool s') := by go_simp
  have c5 : ((w.alloc (.cells #[.bool s, .slice a len cap, .int .i64 e, .bool s', .slice a' len' cap', .int .i64 e'] 27)).alloc (.cells #[.int .u64 0, .int .u8 0] 35)).cell? ⟨w.heap.size, 4, none⟩ = some (.slice a' len' cap') := by go_simp
  have c6 : ((w.alloc (.cells #[.bool s, .slice a len cap, .int .i64 e, .bool s', .slice a' len' cap', .int .i64 e'] 27)).alloc (.cells #[.int .u64 0, .int .u8 0] 35)).cell? ⟨w.heap.size, 5, none⟩ = some (.int .i64 e') := by go_simp
  have z0 : ((w.alloc (.cells #[.bool s, .slice a len cap, .int .i64 e, .bool s', .slice a' len' cap', .int .i64 e'] 27)).alloc (.cells #[.int .u64 0, .int .u8 0] 35)).cell? ⟨w.heap.size + 1, 0, none⟩ = some (.int .u64 0) := by go_simp
  have z1 : ((w.alloc (.cells #[.bool s, .slice a len cap, .int .i64 e, .bool s', .slice a' len' cap', .int .i64 e'] 27)).alloc (.cells #[.int .u64 0, .int .u8 0] 35)).cell? ⟨w.heap.size + 1, 1, none⟩ = some (.int .u8 0) := by go_simp
  have f0 : ((w.alloc (.cells #[.bool s, .slice a len cap, .int .i64 e, .bool s', .slice a' len' cap', .int .i64 e'] 27)).alloc (.cells #[.int .u64 0, .int .u8 0] 35)).frozen? ⟨w.heap.size + 1, 0, none⟩ = false := by go_simp
  have f1 : ((w.alloc (.cells #[.bool s, .slice a len cap, .int .i64 e, .bool s', .slice a' len' cap', .int .i64 e'] 27)).alloc (.cells #[.int .u64 0, .int .u8 0] 35)).frozen? ⟨w.heap.size + 1, 1, none⟩ = false := by go_simp
  have HR : Hid _ := rright_calls s a len cap xs e s' a' len' cap' ys e' _ hI hm hJ hm' hT0
  rw [hr] at HR
  clear hr h h' hT
  go_enter Tryz.func9, Tryz.ntmps9
  go_wp2_with fail
  generalize ((w.alloc (.cells #[.bool s, .slice a len cap, .int .i64 e, .bool s', .slice a' len' cap', .int .i64 e'] 27)).alloc (.cells #[.int .u64 0, .int .u8 0] 35)) = w0 at *
  refine Calls.mono HR.out ?_
  rintro r w1 ⟨rfl, bN⟩
  replace f0 := dcarry_frozen bN z0 f0
  replace f1 := dcarry_frozen bN z1 f1
  replace c1 := dcarry_cell bN c1
  replace c2 := dcarry_cell bN c2
  replace c3 := dcarry_cell bN c3
  replace c4 := dcarry_cell bN c4
  replace c5 := dcarry_cell bN c5
  replace c6 := dcarry_cell bN c6
  replace z0 := dcarry_cell bN z0
  replace z1 := dcarry_cell bN z1
  replace hI := IsW.keep hI bN
  replace hJ := IsW.keep hJ bN
  replace hT0 := hT0.kept bN
  replace bA := nbelow_trans bA bN
  clear bN
  clear HR
  go_wp2_with fail
  exact bodyPost_ret (v := .tuple #[.agg #[.int .u64 0, .int .u8 0], .bool false, .int .i64 2]) (by simp [results, Tryz.results9, go_sem, z0, z1]) rfl ⟨rfl, by repeat (first | exact bA | refine Below.setCell ?_ (by simp) _)⟩

set_option maxRecDepth 100000 in
set_option maxHeartbeats 4000000 in
theorem dec_n (s : Bool) (a : Option Addr) (len cap : Nat) (xs : List Int) (e : Int) (s' : Bool) (a' : Option Addr) (len' cap' : Nat) (ys : List Int) (e' : Int) (w : World) (h : IsW w a len cap xs) (hm : len ≤ 17592186044000) (h' : IsW w a' len' cap' ys) (hm' : len' ≤ 17592186044000) (hT : Tab w) (hr : rtB s (val xs) e s' (val ys) e' = true) (hn : nearB s (val xs) e ≠ nearB s' (val ys) e') :
    Calls Tryz.prog 9 #[ivV s a len cap e s' a' len' cap' e'] w fun r w' => r = .returned (.tuple #[.agg #[.int .u64 0, .int .u8 0], .bool false, .int .i64 0]) ∧ Below w.heap.size w w' := by
  have bA : Below w.heap.size w ((w.alloc (.cells #[.bool s, .slice a len cap, .int .i64 e, .bool s', .slice a' len' cap', .int .i64 e'] 27)).alloc (.cells #[.int .u64 0, .int .u8 0] 35)) := nbelow_trans (below_one _ _) (below_one _ _)
  have hI := h.keep bA
  have hJ := h'.keep bA
  have hT0 := hT.kept bA
  have c1 : ((w.alloc (.cells #[.bool s, .slice a len cap, .int .i64 e, .bool s', .slice a' len' cap', .int .i64 e'] 27)).alloc (.cells #[.int .u64 0, .int .u8 0] 35)).cell? ⟨w.heap.size, 0, none⟩ = some (.bool s) := by go_simp
  have c2 : ((w.alloc (.cells #[.bool s, .slice a len cap, .int .i64 e, .bool s', .slice a' len' cap', .int .i64 e'] 27)).alloc (.cells #[.int .u64 0, .int .u8 0] 35)).cell? ⟨w.heap.size, 1, none⟩ = some (.slice a len cap) := by go_simp
  have c3 : ((w.alloc (.cells #[.bool s, .slice a len cap, .int .i64 e, .bool s', .slice a' len' cap', .int .i64 e'] 27)).alloc (.cells #[.int .u64 0, .int .u8 0] 35)).cell? ⟨w.heap.size, 2, none⟩ = some (.int .i64 e) := by go_simp
  have c4 : ((w.alloc (.cells #[.bool s, .slice a len cap, .int .i64 e, .bool s', .slice a' len' cap', .int .i64 e'] 27)).alloc (.cells #[.int .u64 0, .int .u8 0] 35)).cell? ⟨w.heap.size, 3, none⟩ = some (.bool s') := by go_simp
  have c5 : ((w.alloc (.cells #[.bool s, .slice a len cap, .int .i64 e, .bool s', .slice a' len' cap', .int .i64 e'] 27)).alloc (.cells #[.int .u64 0, .int .u8 0] 35)).cell? ⟨w.heap.size, 4, none⟩ = some (.slice a' len' cap') := by go_simp
  have c6 : ((w.alloc (.cells #[.bool s, .slice a len cap, .int .i64 e, .bool s', .slice a' len' cap', .int .i64 e'] 27)).alloc (.cells #[.int .u64 0, .int .u8 0] 35)).cell? ⟨w.heap.size, 5, none⟩ = some (.int .i64 e') := by go_simp
  have z0 : ((w.alloc (.cells #[.bool s, .slice a len cap, .int .i64 e, .bool s', .slice a' len' cap', .int .i64 e'] 27)).alloc (.cells #[.int .u64 0, .int .u8 0] 35)).cell? ⟨w.heap.size + 1, 0, none⟩ = some (.int .u64 0) := by go_simp
  have z1 : ((w.alloc (.cells #[.bool s, .slice a len cap, .int .i64 e, .bool s', .slice a' len' cap', .int .i64 e'] 27)).alloc (.cells #[.int .u64 0, .int .u8 0] 35)).cell? ⟨w.heap.size + 1, 1, none⟩ = some (.int .u8 0) := by go_simp
  have f0 : ((w.alloc (.cells #[.bool s, .slice a len cap, .int .i64 e, .bool s', .slice a' len' cap', .int .i64 e'] 27)).alloc (.cells #[.int .u64 0, .int .u8 0] 35)).frozen? ⟨w.heap.size + 1, 0, none⟩ = false := by go_simp
  have f1 : ((w.alloc (.cells #[.bool s, .slice a len cap, .int .i64 e, .bool s', .slice a' len' cap', .int .i64 e'] 27)).alloc (.cells #[.int .u64 0, .int .u8 0] 35)).frozen? ⟨w.heap.size + 1, 1, none⟩ = false := by go_simp
  have HR : Hid _ := rright_calls s a len cap xs e s' a' len' cap' ys e' _ hI hm hJ hm' hT0
  rw [hr] at HR
  have q1 := hr
  unfold rtB at q1
  simp only [Bool.and_eq_true] at q1
  have HN1 : Hid _ := fun w' (h' : IsW w' a len cap xs) t' => nearest_calls s a len cap xs e w' h' hm t' q1.1.1
  have HN2 : Hid _ := fun w' (h'' : IsW w' a' len' cap' ys) t' => nearest_calls s' a' len' cap' ys e' w' h'' hm' t' q1.1.2
  have HT1 : Hid _ := fun w' (h' : IsW w' a len cap xs) t' => tiny_calls s a len cap xs e w' h' hm t' q1.1.1
  have HT2 : Hid _ := fun w' (h'' : IsW w' a' len' cap' ys) t' => tiny_calls s' a' len' cap' ys e' w' h'' hm' t' q1.1.2
  have hU := nearB_U s (val xs) e
  have HX : Hid _ := fun w' => inexact_calls (nearB s (val xs) e) (tinyP (val xs) e) w' hU
  clear HX
  generalize nearB s (val xs) e = n1 at *
  generalize nearB s' (val ys) e' = n2 at *
  generalize tinyP (val xs) e = t1 at *
  generalize tinyP (val ys) e' = t2 at *
  generalize exactB (val xs) e = x1 at *
  generalize exactB (val ys) e' = x2 at *
  clear q1 hU
  clear hr h h' hT
  go_enter Tryz.func9, Tryz.ntmps9
  go_wp2_with fail
  generalize ((w.alloc (.cells #[.bool s, .slice a len cap, .int .i64 e, .bool s', .slice a' len' cap', .int .i64 e'] 27)).alloc (.cells #[.int .u64 0, .int .u8 0] 35)) = w0 at *
  refine Calls.mono HR.out ?_
  rintro r w1 ⟨rfl, bN⟩
  replace f0 := dcarry_frozen bN z0 f0
  replace f1 := dcarry_frozen bN z1 f1
  replace c1 := dcarry_cell bN c1
  replace c2 := dcarry_cell bN c2
  replace c3 := dcarry_cell bN c3
  replace c4 := dcarry_cell bN c4
  replace c5 := dcarry_cell bN c5
  replace c6 := dcarry_cell bN c6
  replace z0 := dcarry_cell bN z0
  replace z1 := dcarry_cell bN z1
  replace hI := IsW.keep hI bN
  replace hJ := IsW.keep hJ bN
  replace hT0 := hT0.kept bN
  replace bA := nbelow_trans bA bN
  clear bN
  clear HR
  go_wp2_with fail
  refine Calls.mono (HN1.out _ hI hT0) ?_
  rintro r w2 ⟨rfl, bN⟩
  replace f0 := dcarry_frozen bN z0 f0
  replace f1 := dcarry_frozen bN z1 f1
  replace c1 := dcarry_cell bN c1
  replace c2 := dcarry_cell bN c2
  replace c3 := dcarry_cell bN c3
  replace c4 := dcarry_cell bN c4
  replace c5 := dcarry_cell bN c5
  replace c6 := dcarry_cell bN c6
  replace z0 := dcarry_cell bN z0
  replace z1 := dcarry_cell bN z1
  replace hI := IsW.keep hI bN
  replace hJ := IsW.keep hJ bN
  replace hT0 := hT0.kept bN
  replace bA := nbelow_trans bA bN
  clear bN
  go_wp2_with fail
  refine Calls.mono (HN2.out _ hJ hT0) ?_
  rintro r w3 ⟨rfl, bN⟩
  replace f0 := dcarry_frozen bN z0 f0
  replace f1 := dcarry_frozen bN z1 f1
  replace c1 := dcarry_cell bN c1
  replace c2 := dcarry_cell bN c2
  replace c3 := dcarry_cell bN c3
  replace c4 := dcarry_cell bN c4
  replace c5 := dcarry_cell bN c5
  replace c6 := dcarry_cell bN c6
  replace z0 := dcarry_cell bN z0
  replace z1 := dcarry_cell bN z1
  replace hI := IsW.keep hI bN
  replace hJ := IsW.keep hJ bN
  replace hT0 := hT0.kept bN
  replace bA := nbelow_trans bA bN
  clear bN
  go_upto_region 5 with fail
  have R : Below w3.heap.size w3 (World.drew w3) := (Below.refl _ _).drew
  refine wp_region_held (S := fun w' => Below w3.heap.size w3 w') (by kernel_rfl) ?_
  change wpAnyH _ _ _ _ _ _ _ _ (World.drew w3)
  generalize World.drew w3 = wd at R ⊢
  refine wpAnyH_take (i := 0) (oi := { dst := some 25, op := Op.move (Operand.tmp 5), type := 32, pos := "round.go:38", after := #[], guard := none }) (v := .int .u64 n1) rfl (by kernel_rfl) (by kernel_rfl) (by kernel_rfl) (fun _ _ _ h => h) (Or.inl ⟨by rfl, ?y1⟩) R ?r1
  case y1 => (intro ww hS; clear hS; go_simp; try with_reducible rfl)
  try simp only [Act.put, List.setIfInBounds_toArray, List.set_cons_zero, List.set_cons_succ]
  refine wpAnyH_take (i := 1) (oi := { dst := some 26, op := Op.move (Operand.tmp 7), type := 32, pos := "round.go:38", after := #[], guard := none }) (v := .int .u64 n2) rfl (by kernel_rfl) (by kernel_rfl) (by kernel_rfl) (fun _ _ _ h => h) (Or.inl ⟨by rfl, ?y2⟩) R ?r2
  case y2 => (intro ww hS; clear hS; go_simp; try with_reducible rfl)
  try simp only [Act.put, List.setIfInBounds_toArray, List.set_cons_zero, List.set_cons_succ]
  refine wpAnyH_take (i := 2) (oi := { dst := some 27, op := Op.binOp BinOp.neq 32 (Operand.tmp 25) (Operand.tmp 26) 32, type := 4, pos := "round.go:38", after := #[{ on := 0, ground := Ground.data }, { on := 1, ground := Ground.data }], guard := none }) (v := .bool true) rfl (by kernel_rfl) (by kernel_rfl) (by kernel_rfl) (fun _ _ _ h => h) (Or.inl ⟨by rfl, ?y3⟩) R ?r3
  case y3 => (intro ww hS; clear hS; go_simp; try with_reducible rfl)
  try simp only [Act.put, List.setIfInBounds_toArray, List.set_cons_zero, List.set_cons_succ]
  refine wpAnyH_take (i := 3) (oi := { dst := some 28, op := Op.move (Operand.tmp 27), type := 4, pos := "round.go:38", after := #[{ on := 2, ground := Ground.data }], guard := none }) (v := .bool true) rfl (by kernel_rfl) (by kernel_rfl) (by kernel_rfl) (fun _ _ _ h => h) (Or.inl ⟨by rfl, ?y4⟩) R ?r4
  case y4 => (intro ww hS; clear hS; go_simp; try with_reducible rfl)
  try simp only [Act.put, List.setIfInBounds_toArray, List.set_cons_zero, List.set_cons_succ]
  refine wpAnyH_take (i := 4) (oi := { dst := some 29, op := Op.fieldAddr 27 (Operand.tmp 1) 0, type := 0, pos := "round.go:38", after := #[{ on := 3, ground := Ground.guard }], guard := some (3, false) }) (v := undef) rfl (by kernel_rfl) (by kernel_rfl) (by kernel_rfl) (fun _ _ _ h => h) (Or.inr ⟨by rfl, rfl⟩) R ?r5
  try simp only [Act.put, List.setIfInBounds_toArray, List.set_cons_zero, List.set_cons_succ]
  refine wpAnyH_take (i := 5) (oi := { dst := some 30, op := Op.load 25 (Operand.tmp 29), type := 25, pos := "round.go:38", after := #[{ on := 4, ground := Ground.data }, { on := 3, ground := Ground.guard }], guard := some (3, false) }) (v := undef) rfl (by kernel_rfl) (by kernel_rfl) (by kernel_rfl) (fun _ _ _ h => h) (Or.inr ⟨by rfl, rfl⟩) R ?r6
  try simp only [Act.put, List.setIfInBounds_toArray, List.set_cons_zero, List.set_cons_succ]
  refine wpAnyH_take (i := 7) (oi := { dst := some 32, op := Op.fieldAddr 27 (Operand.tmp 1) 1, type := 0, pos := "round.go:38", after := #[{ on := 3, ground := Ground.guard }], guard := some (3, false) }) (v := undef) rfl (by kernel_rfl) (by kernel_rfl) (by kernel_rfl) (fun _ _ _ h => h) (Or.inr ⟨by rfl, rfl⟩) R ?r7
  try simp only [Act.put, List.setIfInBounds_toArray, List.set_cons_zero, List.set_cons_succ]
  refine wpAnyH_take (i := 8) (oi := { dst := some 33, op := Op.load 25 (Operand.tmp 32), type := 25, pos := "round.go:38", after := #[{ on := 7, ground := Ground.data }, { on := 3, ground := Ground.guard }], guard := some (3, false) }) (v := undef) rfl (by kernel_rfl) (by kernel_rfl) (by kernel_rfl) (fun _ _ _ h => h) (Or.inr ⟨by rfl, rfl⟩) R ?r8
  try simp only [Act.put, List.setIfInBounds_toArray, List.set_cons_zero, List.set_cons_succ]
  refine wpAnyH_ready (rs := [6]) (by kernel_rfl) (by simp) ?_
  refine AllReadyH.cons rfl (fun K hK => ?_) AllReadyH.nil
  go_simp
  refine hK.out _ _ R (fun _ => ?_)
  clear hK K
  try simp only [Act.put, List.setIfInBounds_toArray, List.set_cons_zero, List.set_cons_succ]
  refine wpAnyH_ready (rs := [9]) (by kernel_rfl) (by simp) ?_
  refine AllReadyH.cons rfl (fun K hK => ?_) AllReadyH.nil
  go_simp
  refine hK.out _ _ R (fun _ => ?_)
  clear hK K
  try simp only [Act.put, List.setIfInBounds_toArray, List.set_cons_zero, List.set_cons_succ]
  refine wpAnyH_take (i := 10) (oi := { dst := some 35, op := Op.binOp BinOp.neq 4 (Operand.tmp 31) (Operand.tmp 34) 4, type := 4, pos := "round.go:38", after := #[{ on := 6, ground := Ground.data }, { on := 9, ground := Ground.data }, { on := 3, ground := Ground.guard }], guard := some (3, false) }) (v := undef) rfl (by kernel_rfl) (by kernel_rfl) (by kernel_rfl) (fun _ _ _ h => h) (Or.inr ⟨by rfl, rfl⟩) R ?r9
  try simp only [Act.put, List.setIfInBounds_toArray, List.set_cons_zero, List.set_cons_succ]
  refine wpAnyH_take (i := 11) (oi := { dst := some 36, op := Op.pick (Operand.tmp 28) (Operand.const (Value.bool true)) (Operand.tmp 35), type := 4, pos := "round.go:38", after := #[{ on := 3, ground := Ground.data }, { on := 10, ground := Ground.data }], guard := none }) (v := .bool true) rfl (by kernel_rfl) (by kernel_rfl) (by kernel_rfl) (fun _ _ _ h => h) (Or.inl ⟨by rfl, ?y10⟩) R ?r10
  case y10 => (intro ww hS; clear hS; go_simp; try with_reducible rfl)
  try simp only [Act.put, List.setIfInBounds_toArray, List.set_cons_zero, List.set_cons_succ]
  refine wpAnyH_done (by kernel_rfl) ?_ _
  replace f0 := dcarry_frozen R z0 f0
  replace f1 := dcarry_frozen R z1 f1
  replace c1 := dcarry_cell R c1
  replace c2 := dcarry_cell R c2
  replace c3 := dcarry_cell R c3
  replace c4 := dcarry_cell R c4
  replace c5 := dcarry_cell R c5
  replace c6 := dcarry_cell R c6
  replace z0 := dcarry_cell R z0
  replace z1 := dcarry_cell R z1
  replace hI := IsW.keep hI R
  replace hJ := IsW.keep hJ R
  replace hT0 := hT0.kept R
  replace bA := nbelow_trans bA R
  clear R
  go_wp2_with fail
  exact bodyPost_ret (v := .tuple #[.agg #[.int .u64 0, .int .u8 0], .bool false, .int .i64 0]) (by simp [results, Tryz.results9, go_sem, z0, z1]) rfl ⟨rfl, by repeat (first | exact bA | refine Below.setCell ?_ (by simp) _)⟩

set_option maxRecDepth 100000 in
set_option maxHeartbeats 4000000 in
theorem dec_t (s : Bool) (a : Option Addr) (len cap : Nat) (xs : List Int) (e : Int) (s' : Bool) (a' : Option Addr) (len' cap' : Nat) (ys : List Int) (e' : Int) (w : World) (h : IsW w a len cap xs) (hm : len ≤ 17592186044000) (h' : IsW w a' len' cap' ys) (hm' : len' ≤ 17592186044000) (hT : Tab w) (hr : rtB s (val xs) e s' (val ys) e' = true) (hn : nearB s (val xs) e = nearB s' (val ys) e') (ht : tinyP (val xs) e ≠ tinyP (val ys) e') :
    Calls Tryz.prog 9 #[ivV s a len cap e s' a' len' cap' e'] w fun r w' => r = .returned (.tuple #[.agg #[.int .u64 0, .int .u8 0], .bool false, .int .i64 0]) ∧ Below w.heap.size w w' := by
  have bA : Below w.heap.size w ((w.alloc (.cells #[.bool s, .slice a len cap, .int .i64 e, .bool s', .slice a' len' cap', .int .i64 e'] 27)).alloc (.cells #[.int .u64 0, .int .u8 0] 35)) := nbelow_trans (below_one _ _) (below_one _ _)
  have hI := h.keep bA
  have hJ := h'.keep bA
  have hT0 := hT.kept bA
  have c1 : ((w.alloc (.cells #[.bool s, .slice a len cap, .int .i64 e, .bool s', .slice a' len' cap', .int .i64 e'] 27)).alloc (.cells #[.int .u64 0, .int .u8 0] 35)).cell? ⟨w.heap.size, 0, none⟩ = some (.bool s) := by go_simp
  have c2 : ((w.alloc (.cells #[.bool s, .slice a len cap, .int .i64 e, .bool s', .slice a' len' cap', .int .i64 e'] 27)).alloc (.cells #[.int .u64 0, .int .u8 0] 35)).cell? ⟨w.heap.size, 1, none⟩ = some (.slice a len cap) := by go_simp
  have c3 : ((w.alloc (.cells #[.bool s, .slice a len cap, .int .i64 e, .bool s', .slice a' len' cap', .int .i64 e'] 27)).alloc (.cells #[.int .u64 0, .int .u8 0] 35)).cell? ⟨w.heap.size, 2, none⟩ = some (.int .i64 e) := by go_simp
  have c4 : ((w.alloc (.cells #[.bool s, .slice a len cap, .int .i64 e, .bool s', .slice a' len' cap', .int .i64 e'] 27)).alloc (.cells #[.int .u64 0, .int .u8 0] 35)).cell? ⟨w.heap.size, 3, none⟩ = some (.bool s') := by go_simp
  have c5 : ((w.alloc (.cells #[.bool s, .slice a len cap, .int .i64 e, .bool s', .slice a' len' cap', .int .i64 e'] 27)).alloc (.cells #[.int .u64 0, .int .u8 0] 35)).cell? ⟨w.heap.size, 4, none⟩ = some (.slice a' len' cap') := by go_simp
  have c6 : ((w.alloc (.cells #[.bool s, .slice a len cap, .int .i64 e, .bool s', .slice a' len' cap', .int .i64 e'] 27)).alloc (.cells #[.int .u64 0, .int .u8 0] 35)).cell? ⟨w.heap.size, 5, none⟩ = some (.int .i64 e') := by go_simp
  have z0 : ((w.alloc (.cells #[.bool s, .slice a len cap, .int .i64 e, .bool s', .slice a' len' cap', .int .i64 e'] 27)).alloc (.cells #[.int .u64 0, .int .u8 0] 35)).cell? ⟨w.heap.size + 1, 0, none⟩ = some (.int .u64 0) := by go_simp
  have z1 : ((w.alloc (.cells #[.bool s, .slice a len cap, .int .i64 e, .bool s', .slice a' len' cap', .int .i64 e'] 27)).alloc (.cells #[.int .u64 0, .int .u8 0] 35)).cell? ⟨w.heap.size + 1, 1, none⟩ = some (.int .u8 0) := by go_simp
  have f0 : ((w.alloc (.cells #[.bool s, .slice a len cap, .int .i64 e, .bool s', .slice a' len' cap', .int .i64 e'] 27)).alloc (.cells #[.int .u64 0, .int .u8 0] 35)).frozen? ⟨w.heap.size + 1, 0, none⟩ = false := by go_simp
  have f1 : ((w.alloc (.cells #[.bool s, .slice a len cap, .int .i64 e, .bool s', .slice a' len' cap', .int .i64 e'] 27)).alloc (.cells #[.int .u64 0, .int .u8 0] 35)).frozen? ⟨w.heap.size + 1, 1, none⟩ = false := by go_simp
  have HR : Hid _ := rright_calls s a len cap xs e s' a' len' cap' ys e' _ hI hm hJ hm' hT0
  rw [hr] at HR
  have q1 := hr
  unfold rtB at q1
  simp only [Bool.and_eq_true] at q1
  have HN1 : Hid _ := fun w' (h' : IsW w' a len cap xs) t' => nearest_calls s a len cap xs e w' h' hm t' q1.1.1
  have HN2 : Hid _ := fun w' (h'' : IsW w' a' len' cap' ys) t' => nearest_calls s' a' len' cap' ys e' w' h'' hm' t' q1.1.2
  have HT1 : Hid _ := fun w' (h' : IsW w' a len cap xs) t' => tiny_calls s a len cap xs e w' h' hm t' q1.1.1
  have HT2 : Hid _ := fun w' (h'' : IsW w' a' len' cap' ys) t' => tiny_calls s' a' len' cap' ys e' w' h'' hm' t' q1.1.2
  have hU := nearB_U s (val xs) e
  have HX : Hid _ := fun w' => inexact_calls (nearB s (val xs) e) (tinyP (val xs) e) w' hU
  clear HX
  generalize nearB s (val xs) e = n1 at *
  generalize nearB s' (val ys) e' = n2 at *
  generalize tinyP (val xs) e = t1 at *
  generalize tinyP (val ys) e' = t2 at *
  generalize exactB (val xs) e = x1 at *
  generalize exactB (val ys) e' = x2 at *
  clear q1 hU
  subst hn
  clear hr h h' hT
  go_enter Tryz.func9, Tryz.ntmps9
  go_wp2_with fail
  generalize ((w.alloc (.cells #[.bool s, .slice a len cap, .int .i64 e, .bool s', .slice a' len' cap', .int .i64 e'] 27)).alloc (.cells #[.int .u64 0, .int .u8 0] 35)) = w0 at *
  refine Calls.mono HR.out ?_
  rintro r w1 ⟨rfl, bN⟩
  replace f0 := dcarry_frozen bN z0 f0
  replace f1 := dcarry_frozen bN z1 f1
  replace c1 := dcarry_cell bN c1
  replace c2 := dcarry_cell bN c2
  replace c3 := dcarry_cell bN c3
  replace c4 := dcarry_cell bN c4
  replace c5 := dcarry_cell bN c5
  replace c6 := dcarry_cell bN c6
  replace z0 := dcarry_cell bN z0
  replace z1 := dcarry_cell bN z1
  replace hI := IsW.keep hI bN
  replace hJ := IsW.keep hJ bN
  replace hT0 := hT0.kept bN
  replace bA := nbelow_trans bA bN
  clear bN
  clear HR
  go_wp2_with fail
  refine Calls.mono (HN1.out _ hI hT0) ?_
  rintro r w2 ⟨rfl, bN⟩
  replace f0 := dcarry_frozen bN z0 f0
  replace f1 := dcarry_frozen bN z1 f1
  replace c1 := dcarry_cell bN c1
  replace c2 := dcarry_cell bN c2
  replace c3 := dcarry_cell bN c3
  replace c4 := dcarry_cell bN c4
  replace c5 := dcarry_cell bN c5
  replace c6 := dcarry_cell bN c6
  replace z0 := dcarry_cell bN z0
  replace z1 := dcarry_cell bN z1
  replace hI := IsW.keep hI bN
  replace hJ := IsW.keep hJ bN
  replace hT0 := hT0.kept bN
  replace bA := nbelow_trans bA bN
  clear bN
  go_wp2_with fail
  refine Calls.mono (HN2.out _ hJ hT0) ?_
  rintro r w3 ⟨rfl, bN⟩
  replace f0 := dcarry_frozen bN z0 f0
  replace f1 := dcarry_frozen bN z1 f1
  replace c1 := dcarry_cell bN c1
  replace c2 := dcarry_cell bN c2
  replace c3 := dcarry_cell bN c3
  replace c4 := dcarry_cell bN c4
  replace c5 := dcarry_cell bN c5
  replace c6 := dcarry_cell bN c6
  replace z0 := dcarry_cell bN z0
  replace z1 := dcarry_cell bN z1
  replace hI := IsW.keep hI bN
  replace hJ := IsW.keep hJ bN
  replace hT0 := hT0.kept bN
  replace bA := nbelow_trans bA bN
  clear bN
  go_upto_region 5 with fail
  have R : Below w3.heap.size w3 (World.drew w3) := (Below.refl _ _).drew
  refine wp_region_held (S := fun w' => Below w3.heap.size w3 w') (by kernel_rfl) ?_
  change wpAnyH _ _ _ _ _ _ _ _ (World.drew w3)
  generalize World.drew w3 = wd at R ⊢
  refine wpAnyH_take (i := 0) (oi := { dst := some 25, op := Op.move (Operand.tmp 5), type := 32, pos := "round.go:38", after := #[], guard := none }) (v := .int .u64 n1) rfl (by kernel_rfl) (by kernel_rfl) (by kernel_rfl) (fun _ _ _ h => h) (Or.inl ⟨by rfl, ?y1⟩) R ?r1
  case y1 => (intro ww hS; clear hS; go_simp; try with_reducible rfl)
  try simp only [Act.put, List.setIfInBounds_toArray, List.set_cons_zero, List.set_cons_succ]
  refine wpAnyH_take (i := 1) (oi := { dst := some 26, op := Op.move (Operand.tmp 7), type := 32, pos := "round.go:38", after := #[], guard := none }) (v := .int .u64 n1) rfl (by kernel_rfl) (by kernel_rfl) (by kernel_rfl) (fun _ _ _ h => h) (Or.inl ⟨by rfl, ?y2⟩) R ?r2
  case y2 => (intro ww hS; clear hS; go_simp; try with_reducible rfl)
  try simp only [Act.put, List.setIfInBounds_toArray, List.set_cons_zero, List.set_cons_succ]
  refine wpAnyH_take (i := 2) (oi := { dst := some 27, op := Op.binOp BinOp.neq 32 (Operand.tmp 25) (Operand.tmp 26) 32, type := 4, pos := "round.go:38", after := #[{ on := 0, ground := Ground.data }, { on := 1, ground := Ground.data }], guard := none }) (v := .bool false) rfl (by kernel_rfl) (by kernel_rfl) (by kernel_rfl) (fun _ _ _ h => h) (Or.inl ⟨by rfl, ?y3⟩) R ?r3
  case y3 => (intro ww hS; clear hS; go_simp; try with_reducible rfl)
  try simp only [Act.put, List.setIfInBounds_toArray, List.set_cons_zero, List.set_cons_succ]
  refine wpAnyH_take (i := 3) (oi := { dst := some 28, op := Op.move (Operand.tmp 27), type := 4, pos := "round.go:38", after := #[{ on := 2, ground := Ground.data }], guard := none }) (v := .bool false) rfl (by kernel_rfl) (by kernel_rfl) (by kernel_rfl) (fun _ _ _ h => h) (Or.inl ⟨by rfl, ?y4⟩) R ?r4
  case y4 => (intro ww hS; clear hS; go_simp; try with_reducible rfl)
  try simp only [Act.put, List.setIfInBounds_toArray, List.set_cons_zero, List.set_cons_succ]
  refine wpAnyH_take (i := 4) (oi := { dst := some 29, op := Op.fieldAddr 27 (Operand.tmp 1) 0, type := 0, pos := "round.go:38", after := #[{ on := 3, ground := Ground.guard }], guard := some (3, false) }) (v := .pointer (some ⟨w.heap.size, 0, none⟩)) rfl (by kernel_rfl) (by kernel_rfl) (by kernel_rfl) (fun _ _ _ h => h) (Or.inl ⟨by rfl, ?y5⟩) R ?r5
  case y5 => (intro ww hS; clear hS; go_simp; try with_reducible rfl)
  try simp only [Act.put, List.setIfInBounds_toArray, List.set_cons_zero, List.set_cons_succ]
  refine wpAnyH_take (i := 5) (oi := { dst := some 30, op := Op.load 25 (Operand.tmp 29), type := 25, pos := "round.go:38", after := #[{ on := 4, ground := Ground.data }, { on := 3, ground := Ground.guard }], guard := some (3, false) }) (v := dyV s a len cap e) rfl (by kernel_rfl) (by kernel_rfl) (by kernel_rfl) (fun _ _ _ h => h) (Or.inl ⟨by rfl, ?y6⟩) R ?r6
  case y6 => (intro ww hS; have qc1 := dcarry_cell hS c1; have qc2 := dcarry_cell hS c2; have qc3 := dcarry_cell hS c3; clear hS; go_simp; try with_reducible rfl)
  try simp only [Act.put, List.setIfInBounds_toArray, List.set_cons_zero, List.set_cons_succ]
  refine wpAnyH_take (i := 7) (oi := { dst := some 32, op := Op.fieldAddr 27 (Operand.tmp 1) 1, type := 0, pos := "round.go:38", after := #[{ on := 3, ground := Ground.guard }], guard := some (3, false) }) (v := .pointer (some ⟨w.heap.size, 3, none⟩)) rfl (by kernel_rfl) (by kernel_rfl) (by kernel_rfl) (fun _ _ _ h => h) (Or.inl ⟨by rfl, ?y7⟩) R ?r7
  case y7 => (intro ww hS; clear hS; go_simp; try with_reducible rfl)
  try simp only [Act.put, List.setIfInBounds_toArray, List.set_cons_zero, List.set_cons_succ]
  refine wpAnyH_take (i := 8) (oi := { dst := some 33, op := Op.load 25 (Operand.tmp 32), type := 25, pos := "round.go:38", after := #[{ on := 7, ground := Ground.data }, { on := 3, ground := Ground.guard }], guard := some (3, false) }) (v := dyV s' a' len' cap' e') rfl (by kernel_rfl) (by kernel_rfl) (by kernel_rfl) (fun _ _ _ h => h) (Or.inl ⟨by rfl, ?y8⟩) R ?r8
  case y8 => (intro ww hS; have qc4 := dcarry_cell hS c4; have qc5 := dcarry_cell hS c5; have qc6 := dcarry_cell hS c6; clear hS; go_simp; try with_reducible rfl)
  try simp only [Act.put, List.setIfInBounds_toArray, List.set_cons_zero, List.set_cons_succ]
  refine wpAnyH_ready (rs := [6]) (by kernel_rfl) (by simp) ?_
  refine AllReadyH.cons rfl (fun K hK => ?_) AllReadyH.nil
  go_simp
  refine Calls.mono (HT1.out _ (IsW.keep hI R) (hT0.kept R)) ?_
  rintro r wa ⟨rfl, bN⟩
  replace R := nbelow_trans R bN
  clear bN
  refine hK.out _ _ R (fun _ => ?_)
  clear hK K
  try simp only [Act.put, List.setIfInBounds_toArray, List.set_cons_zero, List.set_cons_succ]
  refine wpAnyH_ready (rs := [9]) (by kernel_rfl) (by simp) ?_
  refine AllReadyH.cons rfl (fun K hK => ?_) AllReadyH.nil
  go_simp
  refine Calls.mono (HT2.out _ (IsW.keep hJ R) (hT0.kept R)) ?_
  rintro r wb ⟨rfl, bN⟩
  replace R := nbelow_trans R bN
  clear bN
  refine hK.out _ _ R (fun _ => ?_)
  clear hK K
  try simp only [Act.put, List.setIfInBounds_toArray, List.set_cons_zero, List.set_cons_succ]
  refine wpAnyH_take (i := 10) (oi := { dst := some 35, op := Op.binOp BinOp.neq 4 (Operand.tmp 31) (Operand.tmp 34) 4, type := 4, pos := "round.go:38", after := #[{ on := 6, ground := Ground.data }, { on := 9, ground := Ground.data }, { on := 3, ground := Ground.guard }], guard := some (3, false) }) (v := .bool true) rfl (by kernel_rfl) (by kernel_rfl) (by kernel_rfl) (fun _ _ _ h => h) (Or.inl ⟨by rfl, ?y9⟩) R ?r9
  case y9 => (intro ww hS; clear hS; go_simp; try with_reducible rfl)
  try simp only [Act.put, List.setIfInBounds_toArray, List.set_cons_zero, List.set_cons_succ]
  refine wpAnyH_take (i := 11) (oi := { dst := some 36, op := Op.pick (Operand.tmp 28) (Operand.const (Value.bool true)) (Operand.tmp 35), type := 4, pos := "round.go:38", after := #[{ on := 3, ground := Ground.data }, { on := 10, ground := Ground.data }], guard := none }) (v := .bool true) rfl (by kernel_rfl) (by kernel_rfl) (by kernel_rfl) (fun _ _ _ h => h) (Or.inl ⟨by rfl, ?y10⟩) R ?r10
  case y10 => (intro ww hS; clear hS; go_simp; try with_reducible rfl)
  try simp only [Act.put, List.setIfInBounds_toArray, List.set_cons_zero, List.set_cons_succ]
  refine wpAnyH_done (by kernel_rfl) ?_ _
  replace f0 := dcarry_frozen R z0 f0
  replace f1 := dcarry_frozen R z1 f1
  replace c1 := dcarry_cell R c1
  replace c2 := dcarry_cell R c2
  replace c3 := dcarry_cell R c3
  replace c4 := dcarry_cell R c4
  replace c5 := dcarry_cell R c5
  replace c6 := dcarry_cell R c6
  replace z0 := dcarry_cell R z0
  replace z1 := dcarry_cell R z1
  replace hI := IsW.keep hI R
  replace hJ := IsW.keep hJ R
  replace hT0 := hT0.kept R
  replace bA := nbelow_trans bA R
  clear R
  go_wp2_with fail
  exact bodyPost_ret (v := .tuple #[.agg #[.int .u64 0, .int .u8 0], .bool false, .int .i64 0]) (by simp [results, Tryz.results9, go_sem, z0, z1]) rfl ⟨rfl, by repeat (first | exact bA | refine Below.setCell ?_ (by simp) _)⟩

set_option maxRecDepth 100000 in
set_option maxHeartbeats 4000000 in
theorem dec_y (s : Bool) (a : Option Addr) (len cap : Nat) (xs : List Int) (e : Int) (s' : Bool) (a' : Option Addr) (len' cap' : Nat) (ys : List Int) (e' : Int) (w : World) (h : IsW w a len cap xs) (hm : len ≤ 17592186044000) (h' : IsW w a' len' cap' ys) (hm' : len' ≤ 17592186044000) (hT : Tab w) (hr : rtB s (val xs) e s' (val ys) e' = true) (hn : nearB s (val xs) e = nearB s' (val ys) e') (ht : tinyP (val xs) e = tinyP (val ys) e') :
    Calls Tryz.prog 9 #[ivV s a len cap e s' a' len' cap' e'] w fun r w' => r = .returned (.tuple #[.agg #[.int .u64 (nearB s (val xs) e), .int .u8 (inxF (nearB s (val xs) e) (tinyP (val xs) e))], .bool true, .int .i64 0]) ∧ Below w.heap.size w w' := by
  have bA : Below w.heap.size w ((w.alloc (.cells #[.bool s, .slice a len cap, .int .i64 e, .bool s', .slice a' len' cap', .int .i64 e'] 27)).alloc (.cells #[.int .u64 0, .int .u8 0] 35)) := nbelow_trans (below_one _ _) (below_one _ _)
  have hI := h.keep bA
  have hJ := h'.keep bA
  have hT0 := hT.kept bA
  have c1 : ((w.alloc (.cells #[.bool s, .slice a len cap, .int .i64 e, .bool s', .slice a' len' cap', .int .i64 e'] 27)).alloc (.cells #[.int .u64 0, .int .u8 0] 35)).cell? ⟨w.heap.size, 0, none⟩ = some (.bool s) := by go_simp
  have c2 : ((w.alloc (.cells #[.bool s, .slice a len cap, .int .i64 e, .bool s', .slice a' len' cap', .int .i64 e'] 27)).alloc (.cells #[.int .u64 0, .int .u8 0] 35)).cell? ⟨w.heap.size, 1, none⟩ = some (.slice a len cap) := by go_simp
  have c3 : ((w.alloc (.cells #[.bool s, .slice a len cap, .int .i64 e, .bool s', .slice a' len' cap', .int .i64 e'] 27)).alloc (.cells #[.int .u64 0, .int .u8 0] 35)).cell? ⟨w.heap.size, 2, none⟩ = some (.int .i64 e) := by go_simp
  have c4 : ((w.alloc (.cells #[.bool s, .slice a len cap, .int .i64 e, .bool s', .slice a' len' cap', .int .i64 e'] 27)).alloc (.cells #[.int .u64 0, .int .u8 0] 35)).cell? ⟨w.heap.size, 3, none⟩ = some (.bool s') := by go_simp
  have c5 : ((w.alloc (.cells #[.bool s, .slice a len cap, .int .i64 e, .bool s', .slice a' len' cap', .int .i64 e'] 27)).alloc (.cells #[.int .u64 0, .int .u8 0] 35)).cell? ⟨w.heap.size, 4, none⟩ = some (.slice a' len' cap') := by go_simp
  have c6 : ((w.alloc (.cells #[.bool s, .slice a len cap, .int .i64 e, .bool s', .slice a' len' cap', .int .i64 e'] 27)).alloc (.cells #[.int .u64 0, .int .u8 0] 35)).cell? ⟨w.heap.size, 5, none⟩ = some (.int .i64 e') := by go_simp
  have z0 : ((w.alloc (.cells #[.bool s, .slice a len cap, .int .i64 e, .bool s', .slice a' len' cap', .int .i64 e'] 27)).alloc (.cells #[.int .u64 0, .int .u8 0] 35)).cell? ⟨w.heap.size + 1, 0, none⟩ = some (.int .u64 0) := by go_simp
  have z1 : ((w.alloc (.cells #[.bool s, .slice a len cap, .int .i64 e, .bool s', .slice a' len' cap', .int .i64 e'] 27)).alloc (.cells #[.int .u64 0, .int .u8 0] 35)).cell? ⟨w.heap.size + 1, 1, none⟩ = some (.int .u8 0) := by go_simp
  have f0 : ((w.alloc (.cells #[.bool s, .slice a len cap, .int .i64 e, .bool s', .slice a' len' cap', .int .i64 e'] 27)).alloc (.cells #[.int .u64 0, .int .u8 0] 35)).frozen? ⟨w.heap.size + 1, 0, none⟩ = false := by go_simp
  have f1 : ((w.alloc (.cells #[.bool s, .slice a len cap, .int .i64 e, .bool s', .slice a' len' cap', .int .i64 e'] 27)).alloc (.cells #[.int .u64 0, .int .u8 0] 35)).frozen? ⟨w.heap.size + 1, 1, none⟩ = false := by go_simp
  have HR : Hid _ := rright_calls s a len cap xs e s' a' len' cap' ys e' _ hI hm hJ hm' hT0
  rw [hr] at HR
  have q1 := hr
  unfold rtB at q1
  simp only [Bool.and_eq_true] at q1
  have HN1 : Hid _ := fun w' (h' : IsW w' a len cap xs) t' => nearest_calls s a len cap xs e w' h' hm t' q1.1.1
  have HN2 : Hid _ := fun w' (h'' : IsW w' a' len' cap' ys) t' => nearest_calls s' a' len' cap' ys e' w' h'' hm' t' q1.1.2
  have HT1 : Hid _ := fun w' (h' : IsW w' a len cap xs) t' => tiny_calls s a len cap xs e w' h' hm t' q1.1.1
  have HT2 : Hid _ := fun w' (h'' : IsW w' a' len' cap' ys) t' => tiny_calls s' a' len' cap' ys e' w' h'' hm' t' q1.1.2
  have hU := nearB_U s (val xs) e
  have HX : Hid _ := fun w' => inexact_calls (nearB s (val xs) e) (tinyP (val xs) e) w' hU
  generalize inxF (nearB s (val xs) e) (tinyP (val xs) e) = fx at *
  generalize nearB s (val xs) e = n1 at *
  generalize nearB s' (val ys) e' = n2 at *
  generalize tinyP (val xs) e = t1 at *
  generalize tinyP (val ys) e' = t2 at *
  generalize exactB (val xs) e = x1 at *
  generalize exactB (val ys) e' = x2 at *
  clear q1 hU
  subst hn
  subst ht
  clear hr h h' hT
  go_enter Tryz.func9, Tryz.ntmps9
  go_wp2_with fail
  generalize ((w.alloc (.cells #[.bool s, .slice a len cap, .int .i64 e, .bool s', .slice a' len' cap', .int .i64 e'] 27)).alloc (.cells #[.int .u64 0, .int .u8 0] 35)) = w0 at *
  refine Calls.mono HR.out ?_
  rintro r w1 ⟨rfl, bN⟩
  replace f0 := dcarry_frozen bN z0 f0
  replace f1 := dcarry_frozen bN z1 f1
  replace c1 := dcarry_cell bN c1
  replace c2 := dcarry_cell bN c2
  replace c3 := dcarry_cell bN c3
  replace c4 := dcarry_cell bN c4
  replace c5 := dcarry_cell bN c5
  replace c6 := dcarry_cell bN c6
  replace z0 := dcarry_cell bN z0
  replace z1 := dcarry_cell bN z1
  replace hI := IsW.keep hI bN
  replace hJ := IsW.keep hJ bN
  replace hT0 := hT0.kept bN
  replace bA := nbelow_trans bA bN
  clear bN
  clear HR
  go_wp2_with fail
  refine Calls.mono (HN1.out _ hI hT0) ?_
  rintro r w2 ⟨rfl, bN⟩
  replace f0 := dcarry_frozen bN z0 f0
  replace f1 := dcarry_frozen bN z1 f1
  replace c1 := dcarry_cell bN c1
  replace c2 := dcarry_cell bN c2
  replace c3 := dcarry_cell bN c3
  replace c4 := dcarry_cell bN c4
  replace c5 := dcarry_cell bN c5
  replace c6 := dcarry_cell bN c6
  replace z0 := dcarry_cell bN z0
  replace z1 := dcarry_cell bN z1
  replace hI := IsW.keep hI bN
  replace hJ := IsW.keep hJ bN
  replace hT0 := hT0.kept bN
  replace bA := nbelow_trans bA bN
  clear bN
  go_wp2_with fail
  refine Calls.mono (HN2.out _ hJ hT0) ?_
  rintro r w3 ⟨rfl, bN⟩
  replace f0 := dcarry_frozen bN z0 f0
  replace f1 := dcarry_frozen bN z1 f1
  replace c1 := dcarry_cell bN c1
  replace c2 := dcarry_cell bN c2
  replace c3 := dcarry_cell bN c3
  replace c4 := dcarry_cell bN c4
  replace c5 := dcarry_cell bN c5
  replace c6 := dcarry_cell bN c6
  replace z0 := dcarry_cell bN z0
  replace z1 := dcarry_cell bN z1
  replace hI := IsW.keep hI bN
  replace hJ := IsW.keep hJ bN
  replace hT0 := hT0.kept bN
  replace bA := nbelow_trans bA bN
  clear bN
  go_upto_region 5 with fail
  have R : Below w3.heap.size w3 (World.drew w3) := (Below.refl _ _).drew
  refine wp_region_held (S := fun w' => Below w3.heap.size w3 w') (by kernel_rfl) ?_
  change wpAnyH _ _ _ _ _ _ _ _ (World.drew w3)
  generalize World.drew w3 = wd at R ⊢
  refine wpAnyH_take (i := 0) (oi := { dst := some 25, op := Op.move (Operand.tmp 5), type := 32, pos := "round.go:38", after := #[], guard := none }) (v := .int .u64 n1) rfl (by kernel_rfl) (by kernel_rfl) (by kernel_rfl) (fun _ _ _ h => h) (Or.inl ⟨by rfl, ?y1⟩) R ?r1
  case y1 => (intro ww hS; clear hS; go_simp; try with_reducible rfl)
  try simp only [Act.put, List.setIfInBounds_toArray, List.set_cons_zero, List.set_cons_succ]
  refine wpAnyH_take (i := 1) (oi := { dst := some 26, op := Op.move (Operand.tmp 7), type := 32, pos := "round.go:38", after := #[], guard := none }) (v := .int .u64 n1) rfl (by kernel_rfl) (by kernel_rfl) (by kernel_rfl) (fun _ _ _ h => h) (Or.inl ⟨by rfl, ?y2⟩) R ?r2
  case y2 => (intro ww hS; clear hS; go_simp; try with_reducible rfl)
  try simp only [Act.put, List.setIfInBounds_toArray, List.set_cons_zero, List.set_cons_succ]
  refine wpAnyH_take (i := 2) (oi := { dst := some 27, op := Op.binOp BinOp.neq 32 (Operand.tmp 25) (Operand.tmp 26) 32, type := 4, pos := "round.go:38", after := #[{ on := 0, ground := Ground.data }, { on := 1, ground := Ground.data }], guard := none }) (v := .bool false) rfl (by kernel_rfl) (by kernel_rfl) (by kernel_rfl) (fun _ _ _ h => h) (Or.inl ⟨by rfl, ?y3⟩) R ?r3
  case y3 => (intro ww hS; clear hS; go_simp; try with_reducible rfl)
  try simp only [Act.put, List.setIfInBounds_toArray, List.set_cons_zero, List.set_cons_succ]
  refine wpAnyH_take (i := 3) (oi := { dst := some 28, op := Op.move (Operand.tmp 27), type := 4, pos := "round.go:38", after := #[{ on := 2, ground := Ground.data }], guard := none }) (v := .bool false) rfl (by kernel_rfl) (by kernel_rfl) (by kernel_rfl) (fun _ _ _ h => h) (Or.inl ⟨by rfl, ?y4⟩) R ?r4
  case y4 => (intro ww hS; clear hS; go_simp; try with_reducible rfl)
  try simp only [Act.put, List.setIfInBounds_toArray, List.set_cons_zero, List.set_cons_succ]
  refine wpAnyH_take (i := 4) (oi := { dst := some 29, op := Op.fieldAddr 27 (Operand.tmp 1) 0, type := 0, pos := "round.go:38", after := #[{ on := 3, ground := Ground.guard }], guard := some (3, false) }) (v := .pointer (some ⟨w.heap.size, 0, none⟩)) rfl (by kernel_rfl) (by kernel_rfl) (by kernel_rfl) (fun _ _ _ h => h) (Or.inl ⟨by rfl, ?y5⟩) R ?r5
  case y5 => (intro ww hS; clear hS; go_simp; try with_reducible rfl)
  try simp only [Act.put, List.setIfInBounds_toArray, List.set_cons_zero, List.set_cons_succ]
  refine wpAnyH_take (i := 5) (oi := { dst := some 30, op := Op.load 25 (Operand.tmp 29), type := 25, pos := "round.go:38", after := #[{ on := 4, ground := Ground.data }, { on := 3, ground := Ground.guard }], guard := some (3, false) }) (v := dyV s a len cap e) rfl (by kernel_rfl) (by kernel_rfl) (by kernel_rfl) (fun _ _ _ h => h) (Or.inl ⟨by rfl, ?y6⟩) R ?r6
  case y6 => (intro ww hS; have qc1 := dcarry_cell hS c1; have qc2 := dcarry_cell hS c2; have qc3 := dcarry_cell hS c3; clear hS; go_simp; try with_reducible rfl)
  try simp only [Act.put, List.setIfInBounds_toArray, List.set_cons_zero, List.set_cons_succ]
  refine wpAnyH_take (i := 7) (oi := { dst := some 32, op := Op.fieldAddr 27 (Operand.tmp 1) 1, type := 0, pos := "round.go:38", after := #[{ on := 3, ground := Ground.guard }], guard := some (3, false) }) (v := .pointer (some ⟨w.heap.size, 3, none⟩)) rfl (by kernel_rfl) (by kernel_rfl) (by kernel_rfl) (fun _ _ _ h => h) (Or.inl ⟨by rfl, ?y7⟩) R ?r7
  case y7 => (intro ww hS; clear hS; go_simp; try with_reducible rfl)
  try simp only [Act.put, List.setIfInBounds_toArray, List.set_cons_zero, List.set_cons_succ]
  refine wpAnyH_take (i := 8) (oi := { dst := some 33, op := Op.load 25 (Operand.tmp 32), type := 25, pos := "round.go:38", after := #[{ on := 7, ground := Ground.data }, { on := 3, ground := Ground.guard }], guard := some (3, false) }) (v := dyV s' a' len' cap' e') rfl (by kernel_rfl) (by kernel_rfl) (by kernel_rfl) (fun _ _ _ h => h) (Or.inl ⟨by rfl, ?y8⟩) R ?r8
  case y8 => (intro ww hS; have qc4 := dcarry_cell hS c4; have qc5 := dcarry_cell hS c5; have qc6 := dcarry_cell hS c6; clear hS; go_simp; try with_reducible rfl)
  try simp only [Act.put, List.setIfInBounds_toArray, List.set_cons_zero, List.set_cons_succ]
  refine wpAnyH_ready (rs := [6]) (by kernel_rfl) (by simp) ?_
  refine AllReadyH.cons rfl (fun K hK => ?_) AllReadyH.nil
  go_simp
  refine Calls.mono (HT1.out _ (IsW.keep hI R) (hT0.kept R)) ?_
  rintro r wa ⟨rfl, bN⟩
  replace R := nbelow_trans R bN
  clear bN
  refine hK.out _ _ R (fun _ => ?_)
  clear hK K
  try simp only [Act.put, List.setIfInBounds_toArray, List.set_cons_zero, List.set_cons_succ]
  refine wpAnyH_ready (rs := [9]) (by kernel_rfl) (by simp) ?_
  refine AllReadyH.cons rfl (fun K hK => ?_) AllReadyH.nil
  go_simp
  refine Calls.mono (HT2.out _ (IsW.keep hJ R) (hT0.kept R)) ?_
  rintro r wb ⟨rfl, bN⟩
  replace R := nbelow_trans R bN
  clear bN
  refine hK.out _ _ R (fun _ => ?_)
  clear hK K
  try simp only [Act.put, List.setIfInBounds_toArray, List.set_cons_zero, List.set_cons_succ]
  refine wpAnyH_take (i := 10) (oi := { dst := some 35, op := Op.binOp BinOp.neq 4 (Operand.tmp 31) (Operand.tmp 34) 4, type := 4, pos := "round.go:38", after := #[{ on := 6, ground := Ground.data }, { on := 9, ground := Ground.data }, { on := 3, ground := Ground.guard }], guard := some (3, false) }) (v := .bool false) rfl (by kernel_rfl) (by kernel_rfl) (by kernel_rfl) (fun _ _ _ h => h) (Or.inl ⟨by rfl, ?y9⟩) R ?r9
  case y9 => (intro ww hS; clear hS; go_simp; try with_reducible rfl)
  try simp only [Act.put, List.setIfInBounds_toArray, List.set_cons_zero, List.set_cons_succ]
  refine wpAnyH_take (i := 11) (oi := { dst := some 36, op := Op.pick (Operand.tmp 28) (Operand.const (Value.bool true)) (Operand.tmp 35), type := 4, pos := "round.go:38", after := #[{ on := 3, ground := Ground.data }, { on := 10, ground := Ground.data }], guard := none }) (v := .bool false) rfl (by kernel_rfl) (by kernel_rfl) (by kernel_rfl) (fun _ _ _ h => h) (Or.inl ⟨by rfl, ?y10⟩) R ?r10
  case y10 => (intro ww hS; clear hS; go_simp; try with_reducible rfl)
  try simp only [Act.put, List.setIfInBounds_toArray, List.set_cons_zero, List.set_cons_succ]
  refine wpAnyH_done (by kernel_rfl) ?_ _
  replace f0 := dcarry_frozen R z0 f0
  replace f1 := dcarry_frozen R z1 f1
  replace c1 := dcarry_cell R c1
  replace c2 := dcarry_cell R c2
  replace c3 := dcarry_cell R c3
  replace c4 := dcarry_cell R c4
  replace c5 := dcarry_cell R c5
  replace c6 := dcarry_cell R c6
  replace z0 := dcarry_cell R z0
  replace z1 := dcarry_cell R z1
  replace hI := IsW.keep hI R
  replace hJ := IsW.keep hJ R
  replace hT0 := hT0.kept R
  replace bA := nbelow_trans bA R
  clear R
  go_wp2_with fail
  refine Calls.mono (HT1.out _ hI hT0) ?_
  rintro r w5 ⟨rfl, bN⟩
  replace f0 := dcarry_frozen bN z0 f0
  replace f1 := dcarry_frozen bN z1 f1
  replace c1 := dcarry_cell bN c1
  replace c2 := dcarry_cell bN c2
  replace c3 := dcarry_cell bN c3
  replace c4 := dcarry_cell bN c4
  replace c5 := dcarry_cell bN c5
  replace c6 := dcarry_cell bN c6
  replace z0 := dcarry_cell bN z0
  replace z1 := dcarry_cell bN z1
  replace hI := IsW.keep hI bN
  replace hJ := IsW.keep hJ bN
  replace hT0 := hT0.kept bN
  replace bA := nbelow_trans bA bN
  clear bN
  go_wp2_with fail
  refine Calls.mono (HX.out _) ?_
  rintro r w6 ⟨rfl, bN⟩
  replace f0 := dcarry_frozen bN z0 f0
  replace f1 := dcarry_frozen bN z1 f1
  replace c1 := dcarry_cell bN c1
  replace c2 := dcarry_cell bN c2
  replace c3 := dcarry_cell bN c3
  replace c4 := dcarry_cell bN c4
  replace c5 := dcarry_cell bN c5
  replace c6 := dcarry_cell bN c6
  replace z0 := dcarry_cell bN z0
  replace z1 := dcarry_cell bN z1
  replace hI := IsW.keep hI bN
  replace hJ := IsW.keep hJ bN
  replace hT0 := hT0.kept bN
  replace bA := nbelow_trans bA bN
  clear bN
  go_wp2_with fail
  exact bodyPost_ret (v := .tuple #[.agg #[.int .u64 n1, .int .u8 fx], .bool true, .int .i64 0]) (by simp [results, Tryz.results9, go_sem, z0, z1]) rfl ⟨rfl, by repeat (first | exact bA | refine Below.setCell ?_ (by simp) _)⟩

theorem pDecide_calls (s : Bool) (a : Option Addr) (len cap : Nat) (xs : List Int) (e : Int) (s' : Bool) (a' : Option Addr) (len' cap' : Nat) (ys : List Int) (e' : Int) (w : World) (h : IsW w a len cap xs) (hm : len ≤ 17592186044000) (h' : IsW w a' len' cap' ys) (hm' : len' ≤ 17592186044000) (hT : Tab w) :
    Calls Tryz.prog 9 #[ivV s a len cap e s' a' len' cap' e'] w fun r w' => r = .returned (.tuple #[.agg #[.int .u64 (dcN s (val xs) e s' (val ys) e'), .int .u8 (dcF s (val xs) e s' (val ys) e')], .bool (dcB s (val xs) e s' (val ys) e'), .int .i64 (dcE s (val xs) e s' (val ys) e')]) ∧ Below w.heap.size w w' := by
  cases hr : rtB s (val xs) e s' (val ys) e' with
  | false =>
    have e1 : dcB s (val xs) e s' (val ys) e' = false := by unfold dcB; rw [hr]; rfl
    have e2 : dcN s (val xs) e s' (val ys) e' = 0 := by unfold dcN; rw [e1]; rfl
    have e3 : dcF s (val xs) e s' (val ys) e' = 0 := by unfold dcF; rw [e1]; rfl
    have e4 : dcE s (val xs) e s' (val ys) e' = 2 := by unfold dcE; rw [hr]; rfl
    rw [e1, e2, e3, e4]
    exact dec_x s a len cap xs e s' a' len' cap' ys e' w h hm h' hm' hT hr
  | true =>
    have e4 : dcE s (val xs) e s' (val ys) e' = 0 := by unfold dcE; rw [hr]; rfl
    by_cases hn : nearB s (val xs) e = nearB s' (val ys) e'
    · cases ht : (tinyP (val xs) e == tinyP (val ys) e') with
      | true =>
        have e1 : dcB s (val xs) e s' (val ys) e' = true := by unfold dcB; rw [hr, decide_eq_true hn, ht]; rfl
        have e2 : dcN s (val xs) e s' (val ys) e' = nearB s (val xs) e := by unfold dcN; rw [e1]; rfl
        have e3 : dcF s (val xs) e s' (val ys) e' = inxF (nearB s (val xs) e) (tinyP (val xs) e) := by unfold dcF; rw [e1]; rfl
        rw [e1, e2, e3, e4]
        exact dec_y s a len cap xs e s' a' len' cap' ys e' w h hm h' hm' hT hr hn (beq_iff_eq.1 ht)
      | false =>
        have e1 : dcB s (val xs) e s' (val ys) e' = false := by unfold dcB; rw [hr, decide_eq_true hn, ht]; rfl
        have e2 : dcN s (val xs) e s' (val ys) e' = 0 := by unfold dcN; rw [e1]; rfl
        have e3 : dcF s (val xs) e s' (val ys) e' = 0 := by unfold dcF; rw [e1]; rfl
        rw [e1, e2, e3, e4]
        exact dec_t s a len cap xs e s' a' len' cap' ys e' w h hm h' hm' hT hr hn (beq_eq_false_iff_ne.1 ht)
    · have e1 : dcB s (val xs) e s' (val ys) e' = false := by unfold dcB; rw [hr, decide_eq_false hn]; rfl
      have e2 : dcN s (val xs) e s' (val ys) e' = 0 := by unfold dcN; rw [e1]; rfl
      have e3 : dcF s (val xs) e s' (val ys) e' = 0 := by unfold dcF; rw [e1]; rfl
      rw [e1, e2, e3, e4]
      exact dec_n s a len cap xs e s' a' len' cap' ys e' w h hm h' hm' hT hr hn
end Go.Proofs.YtjgnoaieplmoiaaGreatDoor

/- Package special: Args, Special, Inside by rows of one or of two arguments. -/
import Derived.Test.YtkkccnpmcbpdnaaGreatDoorSPA
import Derived.Test.YtkkccnpmcbpdnaaGreatDoorSPB
namespace Go.Proofs.YtkkccnpmcbpdnaaGreatDoor
open Go.RowKit

set_option maxRecDepth 100000 in
set_option maxHeartbeats 2000000 in
theorem areOfTwo_one (F : Nat) (w : World) : Calls Tryz.prog 20 #[r1 F] w fun r w' => r = .returned (.bool false) ∧ Below w.heap.size w w' := by
  have hta : ∀ w, Sem.run Tryz.prog (Instr.typeAssert (.iface 73 (.agg #[.func (.func F) #[] #[]])) 34 75 true) w = .ok (.tuple #[.agg #[.nilFunc, .nilFunc], .bool false]) w := fun _ => by kernel_rfl
  go_enter Tryz.func20, Tryz.ntmps20
  go_wp2_with fail
  go_ret
  exact ⟨rfl, below_alloc _ _⟩

set_option maxRecDepth 100000 in
set_option maxHeartbeats 2000000 in
theorem areOfTwo_two (F G : Nat) (w : World) : Calls Tryz.prog 20 #[r2 F G] w fun r w' => r = .returned (.bool true) ∧ Below w.heap.size w w' := by
  have hta : ∀ w, Sem.run Tryz.prog (Instr.typeAssert (.iface 75 (.agg #[.func (.func F) #[] #[], .func (.func G) #[] #[]])) 34 75 true) w = .ok (.tuple #[.agg #[.func (.func F) #[] #[], .func (.func G) #[] #[]], .bool true]) w := fun _ => by kernel_rfl
  go_enter Tryz.func20, Tryz.ntmps20
  go_wp2_with fail
  go_ret
  exact ⟨rfl, below_alloc _ _⟩

theorem argZ (w : World) : (w.alloc (.cells #[.int .u64 0, .int .u64 0] 40)).cell? ⟨w.heap.size, 0, none⟩ = some (.int .u64 0) ∧ (w.alloc (.cells #[.int .u64 0, .int .u64 0] 40)).cell? ⟨w.heap.size, 1, none⟩ = some (.int .u64 0) ∧ (w.alloc (.cells #[.int .u64 0, .int .u64 0] 40)).frozen? ⟨w.heap.size, 0, none⟩ = false ∧ (w.alloc (.cells #[.int .u64 0, .int .u64 0] 40)).frozen? ⟨w.heap.size, 1, none⟩ = false :=
  ⟨by go_simp, by go_simp, by go_simp, by go_simp⟩

set_option maxRecDepth 100000 in
set_option maxHeartbeats 2000000 in
theorem args_one (F : Nat) (x y : Int) (w : World) : Calls Tryz.prog 11 #[r1 F, .int .u64 x, .int .u64 y] w fun r w' => r = .returned (.agg #[.int .u64 x, .int .u64 x]) ∧ Below w.heap.size w w' := by
  obtain ⟨z0, z1, f0, f1⟩ := argZ w
  have bA := below_alloc w (.cells #[.int .u64 0, .int .u64 0] 40)
  go_enter Tryz.func11, Tryz.ntmps11
  go_wp2_with fail
  refine Calls.mono (areOfTwo_one F _) ?_
  rintro r w1 ⟨rfl, b1⟩
  replace f0 := pfroz b1 z0 f0
  replace f1 := pfroz b1 z1 f1
  replace z0 := pcell b1 z0
  replace z1 := pcell b1 z1
  replace bA := below_trans bA b1
  clear b1
  go_wp2_with fail
  refine bodyPost_ret (v := .agg #[.int .u64 x, .int .u64 x]) (by simp [results, Tryz.results11, go_sem, z0, z1]) rfl ⟨rfl, ?_⟩
  repeat (first | (with_reducible exact bA) | (with_reducible refine Below.setCell ?_ (by simp) _))

set_option maxRecDepth 100000 in
set_option maxHeartbeats 2000000 in
theorem args_two (F G : Nat) (x y : Int) (w : World) : Calls Tryz.prog 11 #[r2 F G, .int .u64 x, .int .u64 y] w fun r w' => r = .returned (.agg #[.int .u64 x, .int .u64 y]) ∧ Below w.heap.size w w' := by
  obtain ⟨z0, z1, f0, f1⟩ := argZ w
  have bA := below_alloc w (.cells #[.int .u64 0, .int .u64 0] 40)
  go_enter Tryz.func11, Tryz.ntmps11
  go_wp2_with fail
  refine Calls.mono (areOfTwo_two F G _) ?_
  rintro r w1 ⟨rfl, b1⟩
  replace f0 := pfroz b1 z0 f0
  replace f1 := pfroz b1 z1 f1
  replace z0 := pcell b1 z0
  replace z1 := pcell b1 z1
  replace bA := below_trans bA b1
  clear b1
  go_wp2_with fail
  refine bodyPost_ret (v := .agg #[.int .u64 x, .int .u64 y]) (by simp [results, Tryz.results11, go_sem, z0, z1]) rfl ⟨rfl, ?_⟩
  repeat (first | (with_reducible exact bA) | (with_reducible refine Below.setCell ?_ (by simp) _))

set_option maxRecDepth 100000 in
set_option maxHeartbeats 2000000 in
theorem isFinite_calls (x : Int) (w : World) (h : U x) : Calls Tryz.prog 16 #[.int .u64 x] w fun r w' => r = .returned (.bool (finB x)) ∧ Below w.heap.size w w' := by
  have HE : Hid ((lastE x == 0) = finB x) := by rw [Hid]; unfold lastE; split <;> simp_all
  go_enter Tryz.func16, Tryz.ntmps16
  go_wp2_with fail
  refine Calls.mono (last_calls x _ h) ?_
  rintro r w1 ⟨rfl, b1⟩
  go_wp2_with fail
  go_ret
  exact ⟨by rw [← HE.out]; rfl, b1⟩

def SR (r : Ro) (e : Int) : Value := .tuple #[.agg #[.int .u64 r.1, .int .u8 r.2.1], .int .u8 r.2.2, .int .i64 e]
theorem resZ (w : World) : (w.alloc (.cells #[.int .u64 0, .int .u8 0] 26)).cell? ⟨w.heap.size, 0, none⟩ = some (.int .u64 0) ∧ (w.alloc (.cells #[.int .u64 0, .int .u8 0] 26)).cell? ⟨w.heap.size, 1, none⟩ = some (.int .u8 0) ∧ (w.alloc (.cells #[.int .u64 0, .int .u8 0] 26)).frozen? ⟨w.heap.size, 0, none⟩ = false ∧ (w.alloc (.cells #[.int .u64 0, .int .u8 0] 26)).frozen? ⟨w.heap.size, 1, none⟩ = false :=
  ⟨by go_simp, by go_simp, by go_simp, by go_simp⟩

set_option maxRecDepth 100000 in
set_option maxHeartbeats 2000000 in
theorem special_nil (f x y : Int) (w : World) (HR : ∀ W, Calls Tryz.prog 9 #[.int .u8 f] W fun r w' => r = .returned .nilIface ∧ Below W.heap.size W w') :
    Calls Tryz.prog 4 #[.int .u8 f, .int .u64 x, .int .u64 y] w fun r w' => r = .returned (SR (0, 0, 0) 2) ∧ Below w.heap.size w w' := by
  obtain ⟨z0, z1, f0, f1⟩ := resZ w
  have bA := below_alloc w (.cells #[.int .u64 0, .int .u8 0] 26)
  have H : Hid _ := HR
  clear HR
  go_enter Tryz.func4, Tryz.ntmps4
  go_wp2_with fail
  refine Calls.mono (H.out _) ?_
  rintro r w1 ⟨rfl, b1⟩
  replace f0 := pfroz b1 z0 f0
  replace f1 := pfroz b1 z1 f1
  replace z0 := pcell b1 z0
  replace z1 := pcell b1 z1
  replace bA := below_trans bA b1
  clear b1
  go_wp2_with fail
  refine bodyPost_ret (v := SR (0, 0, 0) 2) (by simp [results, Tryz.results4, go_sem, z0, z1, SR]) rfl ⟨rfl, ?_⟩
  repeat (first | (with_reducible exact bA) | (with_reducible refine Below.setCell ?_ (by simp) _))

set_option maxRecDepth 100000 in
set_option maxHeartbeats 4000000 in
theorem special_one (f : Int) (F : Nat) (ls : List Li) (hF : CL F ls) (hl : ls.length ≤ 64) (x y : Int) (w : World) (h : U x) (k : U x) (hT : Tab w) (hM : Meas w) (HR : ∀ W, Calls Tryz.prog 9 #[.int .u8 f] W fun r w' => r = .returned (r1 F) ∧ Below W.heap.size W w') :
    Calls Tryz.prog 4 #[.int .u8 f, .int .u64 x, .int .u64 y] w fun r w' => r = .returned (SR (rowsAt (withN [] ls) x x) 0) ∧ Below w.heap.size w w' := by
  obtain ⟨z0, z1, f0, f1⟩ := resZ w
  have bA := below_alloc w (.cells #[.int .u64 0, .int .u8 0] 26)
  have H : Hid _ := HR
  have RC : Hid _ := fun W (b : Below w.heap.size w W) => rowAt_one F ls hF hl x x W h k (hT.kept b) (hM.kept b)
  clear HR
  generalize rowsAt (withN [] ls) x x = R at *
  obtain ⟨R1, R2, R3⟩ := R
  unfold RO at RC
  simp only at RC
  go_enter Tryz.func4, Tryz.ntmps4
  go_wp2_with fail
  refine Calls.mono (H.out _) ?_
  rintro r w1 ⟨rfl, b1⟩
  replace f0 := pfroz b1 z0 f0
  replace f1 := pfroz b1 z1 f1
  replace z0 := pcell b1 z0
  replace z1 := pcell b1 z1
  replace bA := below_trans bA b1
  clear b1
  go_wp2_with fail
  refine Calls.mono (args_one F x y _) ?_
  rintro r w2 ⟨rfl, b1⟩
  replace f0 := pfroz b1 z0 f0
  replace f1 := pfroz b1 z1 f1
  replace z0 := pcell b1 z0
  replace z1 := pcell b1 z1
  replace bA := below_trans bA b1
  clear b1
  go_wp2_with fail
  refine Calls.mono (RC.out _ bA) ?_
  rintro r w3 ⟨rfl, b1⟩
  have hs : w.heap.size < w3.heap.size := Nat.lt_of_lt_of_le (World.block_lt_of_cell? _ _ z0) b1.size
  have bX := below_alloc w3 (.cells #[.int .u64 R1, .int .u8 R2, .int .u8 R3] 37)
  replace b1 := below_trans b1 bX
  have c0 : (w3.alloc (.cells #[.int .u64 R1, .int .u8 R2, .int .u8 R3] 37)).cell? ⟨w3.heap.size, 0, none⟩ = some (.int .u64 R1) := by go_simp
  have c1 : (w3.alloc (.cells #[.int .u64 R1, .int .u8 R2, .int .u8 R3] 37)).cell? ⟨w3.heap.size, 1, none⟩ = some (.int .u8 R2) := by go_simp
  have c2 : (w3.alloc (.cells #[.int .u64 R1, .int .u8 R2, .int .u8 R3] 37)).cell? ⟨w3.heap.size, 2, none⟩ = some (.int .u8 R3) := by go_simp
  replace f0 := pfroz b1 z0 f0
  replace f1 := pfroz b1 z1 f1
  replace z0 := pcell b1 z0
  replace z1 := pcell b1 z1
  replace bA := below_trans bA b1
  have ne : w3.heap.size ≠ w.heap.size := by omega
  clear b1 bX
  go_wp2_with fail
  generalize hW : w3.alloc (.cells #[.int .u64 R1, .int .u8 R2, .int .u8 R3] 37) = w4 at *
  generalize w3.heap.size = B at *
  clear hW hs
  have e0 : w4.drew.cell? ⟨B, 0, none⟩ = some (.int .u64 R1) := c0
  have e1 : w4.drew.cell? ⟨B, 1, none⟩ = some (.int .u8 R2) := c1
  have e2 : w4.drew.cell? ⟨B, 2, none⟩ = some (.int .u8 R3) := c2
  have y0 : w4.drew.cell? ⟨w.heap.size, 0, none⟩ = some (.int .u64 0) := z0
  have y1 : w4.drew.cell? ⟨w.heap.size, 1, none⟩ = some (.int .u8 0) := z1
  have g0 : w4.drew.frozen? ⟨w.heap.size, 0, none⟩ = false := f0
  have g1 : w4.drew.frozen? ⟨w.heap.size, 1, none⟩ = false := f1
  have bD : Below w.heap.size w w4.drew := below_trans bA (Below.refl _ _).drew
  go_region
  all_goals
    go_wp2_with fail
    refine bodyPost_ret (v := SR (R1, R2, R3) 0) (by simp [results, Tryz.results4, go_sem, z0, z1, SR]) rfl ⟨rfl, ?_⟩
    repeat (first | (with_reducible exact bA) | (with_reducible refine Below.setCell ?_ (by simp) _) | (with_reducible refine Below.drew ?_))

set_option maxRecDepth 100000 in
set_option maxHeartbeats 4000000 in
theorem special_two (f : Int) (F G : Nat) (la ls : List Li) (hF : CL F la) (hG : CL G ls) (hl : la.length ≤ 64) (hk : ls.length ≤ 64) (x y : Int) (w : World) (h : U x) (k : U y) (hT : Tab w) (hM : Meas w) (HR : ∀ W, Calls Tryz.prog 9 #[.int .u8 f] W fun r w' => r = .returned (r2 F G) ∧ Below W.heap.size W w') :
    Calls Tryz.prog 4 #[.int .u8 f, .int .u64 x, .int .u64 y] w fun r w' => r = .returned (SR (rowsAt (withN la ls) x y) 0) ∧ Below w.heap.size w w' := by
  obtain ⟨z0, z1, f0, f1⟩ := resZ w
  have bA := below_alloc w (.cells #[.int .u64 0, .int .u8 0] 26)
  have H : Hid _ := HR
  have RC : Hid _ := fun W (b : Below w.heap.size w W) => rowAt_two F G la ls hF hG hl hk x y W h k (hT.kept b) (hM.kept b)
  clear HR
  generalize rowsAt (withN la ls) x y = R at *
  obtain ⟨R1, R2, R3⟩ := R
  unfold RO at RC
  simp only at RC
  go_enter Tryz.func4, Tryz.ntmps4
  go_wp2_with fail
  refine Calls.mono (H.out _) ?_
  rintro r w1 ⟨rfl, b1⟩
  replace f0 := pfroz b1 z0 f0
  replace f1 := pfroz b1 z1 f1
  replace z0 := pcell b1 z0
  replace z1 := pcell b1 z1
  replace bA := below_trans bA b1
  clear b1
  go_wp2_with fail
  refine Calls.mono (args_two F G x y _) ?_
  rintro r w2 ⟨rfl, b1⟩
  replace f0 := pfroz b1 z0 f0
  replace f1 := pfroz b1 z1 f1
  replace z0 := pcell b1 z0
  replace z1 := pcell b1 z1
  replace bA := below_trans bA b1
  clear b1
  go_wp2_with fail
  refine Calls.mono (RC.out _ bA) ?_
  rintro r w3 ⟨rfl, b1⟩
  have hs : w.heap.size < w3.heap.size := Nat.lt_of_lt_of_le (World.block_lt_of_cell? _ _ z0) b1.size
  have bX := below_alloc w3 (.cells #[.int .u64 R1, .int .u8 R2, .int .u8 R3] 37)
  replace b1 := below_trans b1 bX
  have c0 : (w3.alloc (.cells #[.int .u64 R1, .int .u8 R2, .int .u8 R3] 37)).cell? ⟨w3.heap.size, 0, none⟩ = some (.int .u64 R1) := by go_simp
  have c1 : (w3.alloc (.cells #[.int .u64 R1, .int .u8 R2, .int .u8 R3] 37)).cell? ⟨w3.heap.size, 1, none⟩ = some (.int .u8 R2) := by go_simp
  have c2 : (w3.alloc (.cells #[.int .u64 R1, .int .u8 R2, .int .u8 R3] 37)).cell? ⟨w3.heap.size, 2, none⟩ = some (.int .u8 R3) := by go_simp
  replace f0 := pfroz b1 z0 f0
  replace f1 := pfroz b1 z1 f1
  replace z0 := pcell b1 z0
  replace z1 := pcell b1 z1
  replace bA := below_trans bA b1
  have ne : w3.heap.size ≠ w.heap.size := by omega
  clear b1 bX
  go_wp2_with fail
  generalize hW : w3.alloc (.cells #[.int .u64 R1, .int .u8 R2, .int .u8 R3] 37) = w4 at *
  generalize w3.heap.size = B at *
  clear hW hs
  have e0 : w4.drew.cell? ⟨B, 0, none⟩ = some (.int .u64 R1) := c0
  have e1 : w4.drew.cell? ⟨B, 1, none⟩ = some (.int .u8 R2) := c1
  have e2 : w4.drew.cell? ⟨B, 2, none⟩ = some (.int .u8 R3) := c2
  have y0 : w4.drew.cell? ⟨w.heap.size, 0, none⟩ = some (.int .u64 0) := z0
  have y1 : w4.drew.cell? ⟨w.heap.size, 1, none⟩ = some (.int .u8 0) := z1
  have g0 : w4.drew.frozen? ⟨w.heap.size, 0, none⟩ = false := f0
  have g1 : w4.drew.frozen? ⟨w.heap.size, 1, none⟩ = false := f1
  have bD : Below w.heap.size w w4.drew := below_trans bA (Below.refl _ _).drew
  go_region
  all_goals
    go_wp2_with fail
    refine bodyPost_ret (v := SR (R1, R2, R3) 0) (by simp [results, Tryz.results4, go_sem, z0, z1, SR]) rfl ⟨rfl, ?_⟩
    repeat (first | (with_reducible exact bA) | (with_reducible refine Below.setCell ?_ (by simp) _) | (with_reducible refine Below.drew ?_))


end Go.Proofs.YtkkccnpmcbpdnaaGreatDoor

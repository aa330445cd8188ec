/- Package special: Inside and Args by rows of one or of two arguments; the angles' lines. -/
import Derived.Test.YtkkccnpmcbpdnaaGreatDoorSPS
import Derived.Test.YtkkccnpmcbpdnaaGreatDoorSPG
namespace Go.Proofs.YtkkccnpmcbpdnaaGreatDoor
open Go.RowKit

set_option maxRecDepth 100000 in
set_option maxHeartbeats 4000000 in
theorem inside_one (f : Int) (F : Nat) (ls : List Li) (hF : CL F ls) (hl : ls.length ≤ 64) (x y : Int) (w : World) (h : U x) (k : U x) (hT : Tab w) (hM : Meas w) (HR : ∀ W, Calls Tryz.prog 9 #[.int .u8 f] W fun r w' => r = .returned (r1 F) ∧ Below W.heap.size W w') :
    Calls Tryz.prog 6 #[.int .u8 f, .int .u64 x, .int .u64 y] w fun r w' => r = .returned (.bool (finB x && finB x && !((rowsAt (withN [] ls) x x).2.2 == 2) && !((rowsAt (withN [] ls) x x).2.2 == 3))) ∧ Below w.heap.size w w' := by
  have H : Hid _ := HR
  have RC : Hid _ := fun W (b : Below w.heap.size w W) => rowAt_one F ls hF hl x x W h k (hT.kept b) (hM.kept b)
  have F1 : Hid _ := fun W => isFinite_calls x W h
  have F2 : Hid _ := fun W => isFinite_calls x W k
  have hfl : ∀ (a b c : Value) (w : World), Sem.run Tryz.prog (Instr.field 37 (.agg #[a, b, c]) 1) w = .ok c w := fun _ _ _ _ => by kernel_rfl
  clear HR
  generalize rowsAt (withN [] ls) x x = R at *
  obtain ⟨R1, R2, R3⟩ := R
  unfold RO at RC
  simp only at RC ⊢
  generalize finB x = p at *
  obtain ⟨P3, hP⟩ : ∃ P3, P3 = (p && p && !(R3 == 2) && !(R3 == 3)) := ⟨_, rfl⟩
  rw [← hP]
  have HP : Hid _ := hP
  clear hP
  go_enter Tryz.func6, Tryz.ntmps6
  go_wp2_with fail
  refine Calls.mono (H.out _) ?_
  rintro r w1 ⟨rfl, bA⟩
  go_wp2_with fail
  refine Calls.mono (args_one F x y _) ?_
  rintro r w2 ⟨rfl, b1⟩
  have bX := below_alloc w2 (.cells #[.int .u64 x, .int .u64 x] 40)
  have c0 : (w2.alloc (.cells #[.int .u64 x, .int .u64 x] 40)).cell? ⟨w2.heap.size, 0, none⟩ = some (.int .u64 x) := by go_simp
  have c1 : (w2.alloc (.cells #[.int .u64 x, .int .u64 x] 40)).cell? ⟨w2.heap.size, 1, none⟩ = some (.int .u64 x) := by go_simp
  replace bA := below_trans bA (below_trans b1 bX)
  clear b1 bX
  go_wp2_with fail
  refine Calls.mono (RC.out _ bA) ?_
  rintro r w3 ⟨rfl, b1⟩
  replace c0 := pcell b1 c0
  replace c1 := pcell b1 c1
  replace bA := below_trans bA b1
  clear b1 RC
  go_wp2_with fail
  refine Calls.mono (F1.out _) ?_
  rintro r w4 ⟨rfl, b1⟩
  replace c1 := pcell b1 c1
  replace bA := below_trans bA b1
  clear b1
  cases p with
  | false =>
    go_wp2_with fail
    go_ret
    exact ⟨by rw [HP.out]; rfl, bA⟩
  | true =>
    go_wp2_with fail
    refine Calls.mono (F2.out _) ?_
    rintro r w5 ⟨rfl, b1⟩
    replace bA := below_trans bA b1
    clear b1
    go_wp2_with fail
    all_goals go_ret
    all_goals (refine ⟨ret_bool ?_, bA⟩; rw [HP.out]; first | (simp_all [bne]; done) | (rename_i hh; rw [hh]; rfl))

set_option maxRecDepth 100000 in
set_option maxHeartbeats 4000000 in
theorem inside_two (f : Int) (F G : Nat) (la ls : List Li) (hF : CL F la) (hG : CL G ls) (hl : la.length ≤ 64) (hk : ls.length ≤ 64) (x y : Int) (w : World) (h : U x) (k : U y) (hT : Tab w) (hM : Meas w) (HR : ∀ W, Calls Tryz.prog 9 #[.int .u8 f] W fun r w' => r = .returned (r2 F G) ∧ Below W.heap.size W w') :
    Calls Tryz.prog 6 #[.int .u8 f, .int .u64 x, .int .u64 y] w fun r w' => r = .returned (.bool (finB x && finB y && !((rowsAt (withN la ls) x y).2.2 == 2) && !((rowsAt (withN la ls) x y).2.2 == 3))) ∧ Below w.heap.size w w' := by
  have H : Hid _ := HR
  have RC : Hid _ := fun W (b : Below w.heap.size w W) => rowAt_two F G la ls hF hG hl hk x y W h k (hT.kept b) (hM.kept b)
  have F1 : Hid _ := fun W => isFinite_calls x W h
  have F2 : Hid _ := fun W => isFinite_calls y W k
  have hfl : ∀ (a b c : Value) (w : World), Sem.run Tryz.prog (Instr.field 37 (.agg #[a, b, c]) 1) w = .ok c w := fun _ _ _ _ => by kernel_rfl
  clear HR
  generalize rowsAt (withN la ls) x y = R at *
  obtain ⟨R1, R2, R3⟩ := R
  unfold RO at RC
  simp only at RC ⊢
  generalize finB x = p at *
  generalize finB y = q at *
  obtain ⟨P3, hP⟩ : ∃ P3, P3 = (p && q && !(R3 == 2) && !(R3 == 3)) := ⟨_, rfl⟩
  rw [← hP]
  have HP : Hid _ := hP
  clear hP
  go_enter Tryz.func6, Tryz.ntmps6
  go_wp2_with fail
  refine Calls.mono (H.out _) ?_
  rintro r w1 ⟨rfl, bA⟩
  go_wp2_with fail
  refine Calls.mono (args_two F G x y _) ?_
  rintro r w2 ⟨rfl, b1⟩
  have bX := below_alloc w2 (.cells #[.int .u64 x, .int .u64 y] 40)
  have c0 : (w2.alloc (.cells #[.int .u64 x, .int .u64 y] 40)).cell? ⟨w2.heap.size, 0, none⟩ = some (.int .u64 x) := by go_simp
  have c1 : (w2.alloc (.cells #[.int .u64 x, .int .u64 y] 40)).cell? ⟨w2.heap.size, 1, none⟩ = some (.int .u64 y) := by go_simp
  replace bA := below_trans bA (below_trans b1 bX)
  clear b1 bX
  go_wp2_with fail
  refine Calls.mono (RC.out _ bA) ?_
  rintro r w3 ⟨rfl, b1⟩
  replace c0 := pcell b1 c0
  replace c1 := pcell b1 c1
  replace bA := below_trans bA b1
  clear b1 RC
  go_wp2_with fail
  refine Calls.mono (F1.out _) ?_
  rintro r w4 ⟨rfl, b1⟩
  replace c1 := pcell b1 c1
  replace bA := below_trans bA b1
  clear b1
  cases p with
  | false =>
    go_wp2_with fail
    go_ret
    exact ⟨by rw [HP.out]; rfl, bA⟩
  | true =>
    go_wp2_with fail
    refine Calls.mono (F2.out _) ?_
    rintro r w5 ⟨rfl, b1⟩
    replace bA := below_trans bA b1
    clear b1
    cases q with
    | false =>
      go_wp2_with fail
      go_ret
      exact ⟨by rw [HP.out]; rfl, bA⟩
    | true =>
      go_wp2_with fail
      all_goals go_ret
      all_goals (refine ⟨ret_bool ?_, bA⟩; rw [HP.out]; first | (simp_all [bne]; done) | (rename_i hh; rw [hh]; rfl))

set_option maxRecDepth 100000 in
set_option maxHeartbeats 4000000 in
theorem inside_nil (f x y : Int) (w : World) (HR : ∀ W, Calls Tryz.prog 9 #[.int .u8 f] W fun r w' => r = .returned .nilIface ∧ Below W.heap.size W w') :
    Calls Tryz.prog 6 #[.int .u8 f, .int .u64 x, .int .u64 y] w fun r w' => r = .returned (.bool false) ∧ Below w.heap.size w w' := by
  have H : Hid _ := HR
  clear HR
  go_enter Tryz.func6, Tryz.ntmps6
  go_wp2_with fail
  refine Calls.mono (H.out _) ?_
  rintro r w1 ⟨rfl, bA⟩
  go_wp2_with fail
  go_ret
  exact ⟨rfl, bA⟩

set_option maxRecDepth 100000 in
set_option maxHeartbeats 4000000 in
theorem lRad_made (W : World) (hM : Meas W) : Calls Tryz.prog 59 #[] W (ML W lRad) := by
  obtain ⟨m0, m1, m2, m3⟩ := hM.1
  go_enter Tryz.func59, Tryz.ntmps59
  go_wp2_with fail
  refine Calls.mono (angle_made _ _ _ _ 93 _ _ ⟨by decide, by decide⟩ ⟨by decide, by decide⟩ ⟨by decide, by decide⟩ ⟨by decide, by decide⟩ Tryz.call93 (fun b W h => limit_made b W h)) ?_
  rintro r w1 ⟨a, n, c, vs, rfl, hn, hI, hf, b1⟩
  have HN : Hid _ := hn
  clear hn
  go_wp2_with fail
  go_ret
  exact ⟨a, n, c, vs, rfl, HN.out, hI, hf, b1⟩
theorem lRad_cl : CL 59 lRad := ⟨Tryz.call59, fun W h => lRad_made W h⟩

set_option maxRecDepth 100000 in
set_option maxHeartbeats 4000000 in
theorem lTurn_made (W : World) (hM : Meas W) : Calls Tryz.prog 60 #[] W (ML W lTurn) := by
  obtain ⟨m0, m1, m2, m3⟩ := hM.2
  go_enter Tryz.func60, Tryz.ntmps60
  go_wp2_with fail
  refine Calls.mono (angle_made _ _ _ _ 80 _ _ ⟨by decide, by decide⟩ ⟨by decide, by decide⟩ ⟨by decide, by decide⟩ ⟨by decide, by decide⟩ Tryz.call80 (fun b W h => told_made b W h)) ?_
  rintro r w1 ⟨a, n, c, vs, rfl, hn, hI, hf, b1⟩
  have HN : Hid _ := hn
  clear hn
  go_wp2_with fail
  go_ret
  exact ⟨a, n, c, vs, rfl, HN.out, hI, hf, b1⟩
theorem lTurn_cl : CL 60 lTurn := ⟨Tryz.call60, fun W h => lTurn_made W h⟩

end Go.Proofs.YtkkccnpmcbpdnaaGreatDoor

/- The document's Special and Inside; SpecialRows: the walk. -/
import Derived.Test.YtkkccnpmcbpdnaaGreatDoorSPZ2a
import Derived.Test.YtkkccnpmcbpdnaaGreatDoorSPZ2d
import Derived.Test.YtkkccnpmcbpdnaaGreatDoorSPE2
import Derived.Test.YtkkccnpmcbpdnaaGreatDoorSPQ
namespace Go.Proofs.YtkkccnpmcbpdnaaGreatDoor
open Go.RowKit

set_option maxRecDepth 100000 in
set_option maxHeartbeats 4000000 in
theorem rArgs_calls (f : Int) (w : World) (hf : 0 ≤ f) : Calls Tryz.prog 13 #[.int .u8 f] w fun r w' => r = .returned (.int .i64 (argsV f)) ∧ w' = w := by
  have h4 : f ≤ 0 ∨ 37 ≤ f ∨ (¬ f ≤ 0 ∧ ¬ 37 ≤ f ∧ 33 ≤ f) ∨ (¬ f ≤ 0 ∧ ¬ 37 ≤ f ∧ ¬ 33 ≤ f) := by omega
  have HE : Hid (argsV f = if (1 ≤ f ∧ f ≤ 36) then (if (33 ≤ f ∧ f ≤ 36) then 2 else 1) else 0) := by
    rw [Hid]; unfold argsV isF isTwo
    simp only [decide_eq_true_eq]
  rcases h4 with c | c | ⟨c1, c2, c3⟩ | ⟨c1, c2, c3⟩
  · have HV : Hid (argsV f = 0) := by rw [Hid, HE.out, if_neg (by omega)]
    rw [HV.out]
    go_enter Tryz.func13, Tryz.ntmps13
    go_wp2_with fail
    go_ret
    exact ⟨rfl, rfl⟩
  · have HV : Hid (argsV f = 0) := by rw [Hid, HE.out, if_neg (by omega)]
    rw [HV.out]
    go_enter Tryz.func13, Tryz.ntmps13
    go_wp2_with fail
    go_ret
    exact ⟨rfl, rfl⟩
  · have HV : Hid (argsV f = 2) := by rw [Hid, HE.out, if_pos (by omega), if_pos (by omega)]
    rw [HV.out]
    go_enter Tryz.func13, Tryz.ntmps13
    go_wp2_with fail
    go_ret
    exact ⟨rfl, rfl⟩
  · have HV : Hid (argsV f = 1) := by rw [Hid, HE.out, if_pos (by omega), if_neg (by omega)]
    rw [HV.out]
    go_enter Tryz.func13, Tryz.ntmps13
    go_wp2_with fail
    go_ret
    exact ⟨rfl, rfl⟩

theorem zres (w : World) : (w.alloc (.cells #[.int .u64 0, .int .u8 0] 26)).cell? ⟨w.heap.size, 0, none⟩ = some (.int .u64 0) ∧ (w.alloc (.cells #[.int .u64 0, .int .u8 0] 26)).cell? ⟨w.heap.size, 1, none⟩ = some (.int .u8 0) ∧ (w.alloc (.cells #[.int .u64 0, .int .u8 0] 26)).frozen? ⟨w.heap.size, 0, none⟩ = false ∧ (w.alloc (.cells #[.int .u64 0, .int .u8 0] 26)).frozen? ⟨w.heap.size, 1, none⟩ = false :=
  ⟨by go_simp, by go_simp, by go_simp, by go_simp⟩

set_option maxRecDepth 100000 in
set_option maxHeartbeats 4000000 in
theorem rSpecial_one (f x y : Int) (w : World) (hf : 0 ≤ f) (h : U x) (_k : U y) (ha : argsV f = 1) :
    Calls Tryz.prog 5 #[.int .u8 f, .int .u64 x, .int .u64 y] w fun r w' => r = .returned (.tuple #[.agg #[.int .u64 (dOne f x).1, .int .u8 (dOne f x).2.1], .int .u8 (dOne f x).2.2, .int .i64 0]) ∧ Below w.heap.size w w' := by
  obtain ⟨z0, z1, f0, f1⟩ := zres w
  have bA := below_alloc w (.cells #[.int .u64 0, .int .u8 0] 26)
  have AC : Hid _ := fun W => rArgs_calls f W hf
  rw [ha] at AC
  have DC : Hid _ := fun W => dOne_calls f x W h
  generalize dOne f x = R at *
  obtain ⟨R1, R2, R3⟩ := R
  simp only at DC ⊢
  go_enter Tryz.func5, Tryz.ntmps5
  go_wp2_with fail
  refine Calls.mono (zNone_calls _) ?_
  rintro r w1 ⟨rfl, b1⟩
  have hs : w.heap.size < w1.heap.size := Nat.lt_of_lt_of_le (World.block_lt_of_cell? _ _ z0) b1.size
  have bX := below_alloc w1 (.cells #[.int .u64 0, .int .u8 0, .int .u8 0] 43)
  have c0 : (w1.alloc (.cells #[.int .u64 0, .int .u8 0, .int .u8 0] 43)).cell? ⟨w1.heap.size, 0, none⟩ = some (.int .u64 0) := by go_simp
  have c1 : (w1.alloc (.cells #[.int .u64 0, .int .u8 0, .int .u8 0] 43)).cell? ⟨w1.heap.size, 1, none⟩ = some (.int .u8 0) := by go_simp
  have c2 : (w1.alloc (.cells #[.int .u64 0, .int .u8 0, .int .u8 0] 43)).cell? ⟨w1.heap.size, 2, none⟩ = some (.int .u8 0) := by go_simp
  have d0 : (w1.alloc (.cells #[.int .u64 0, .int .u8 0, .int .u8 0] 43)).frozen? ⟨w1.heap.size, 0, none⟩ = false := by go_simp
  have d1 : (w1.alloc (.cells #[.int .u64 0, .int .u8 0, .int .u8 0] 43)).frozen? ⟨w1.heap.size, 1, none⟩ = false := by go_simp
  have d2 : (w1.alloc (.cells #[.int .u64 0, .int .u8 0, .int .u8 0] 43)).frozen? ⟨w1.heap.size, 2, none⟩ = false := by go_simp
  replace b1 := below_trans b1 bX
  replace f0 := pfroz b1 z0 f0
  replace f1 := pfroz b1 z1 f1
  replace z0 := pcell b1 z0
  replace z1 := pcell b1 z1
  replace bA := below_trans bA b1
  have ne : w1.heap.size ≠ w.heap.size := by omega
  have HB : Hid (w.heap.size ≤ w1.heap.size) := by rw [Hid]; omega
  clear b1 bX
  go_wp2_with fail
  refine Calls.mono (AC.out _) ?_
  rintro r w2 ⟨rfl, rfl⟩
  generalize hW : w1.alloc (.cells #[.int .u64 0, .int .u8 0, .int .u8 0] 43) = w2 at *
  generalize w1.heap.size = B at *
  clear hW hs
  go_wp2_with fail
  refine Calls.mono (DC.out _) ?_
  rintro r w3 ⟨rfl, b1⟩
  replace f0 := pfroz b1 z0 f0
  replace f1 := pfroz b1 z1 f1
  replace z0 := pcell b1 z0
  replace z1 := pcell b1 z1
  replace d0 := pfroz b1 c0 d0
  replace d1 := pfroz b1 c1 d1
  replace d2 := pfroz b1 c2 d2
  replace c0 := pcell b1 c0
  replace c1 := pcell b1 c1
  replace c2 := pcell b1 c2
  replace bA := below_trans bA b1
  clear b1
  go_wp2_with fail
  have e0 : (((w3.setCell ⟨B, 0, none⟩ (.int .u64 R1)).setCell ⟨B, 1, none⟩ (.int .u8 R2)).setCell ⟨B, 2, none⟩ (.int .u8 R3)).cell? ⟨B, 0, none⟩ = some (.int .u64 R1) := by simp [go_sem, c0]
  have e1 : (((w3.setCell ⟨B, 0, none⟩ (.int .u64 R1)).setCell ⟨B, 1, none⟩ (.int .u8 R2)).setCell ⟨B, 2, none⟩ (.int .u8 R3)).cell? ⟨B, 1, none⟩ = some (.int .u8 R2) := by simp [go_sem, c1]
  have e2 : (((w3.setCell ⟨B, 0, none⟩ (.int .u64 R1)).setCell ⟨B, 1, none⟩ (.int .u8 R2)).setCell ⟨B, 2, none⟩ (.int .u8 R3)).cell? ⟨B, 2, none⟩ = some (.int .u8 R3) := by simp [go_sem, c2]
  have y0 : (((w3.setCell ⟨B, 0, none⟩ (.int .u64 R1)).setCell ⟨B, 1, none⟩ (.int .u8 R2)).setCell ⟨B, 2, none⟩ (.int .u8 R3)).cell? ⟨w.heap.size, 0, none⟩ = some (.int .u64 0) := by simp [go_sem, z0]
  have y1 : (((w3.setCell ⟨B, 0, none⟩ (.int .u64 R1)).setCell ⟨B, 1, none⟩ (.int .u8 R2)).setCell ⟨B, 2, none⟩ (.int .u8 R3)).cell? ⟨w.heap.size, 1, none⟩ = some (.int .u8 0) := by simp [go_sem, z1]
  have g0 : (((w3.setCell ⟨B, 0, none⟩ (.int .u64 R1)).setCell ⟨B, 1, none⟩ (.int .u8 R2)).setCell ⟨B, 2, none⟩ (.int .u8 R3)).frozen? ⟨w.heap.size, 0, none⟩ = false := by simp [go_sem, f0]
  have g1 : (((w3.setCell ⟨B, 0, none⟩ (.int .u64 R1)).setCell ⟨B, 1, none⟩ (.int .u8 R2)).setCell ⟨B, 2, none⟩ (.int .u8 R3)).frozen? ⟨w.heap.size, 1, none⟩ = false := by simp [go_sem, f1]
  have bC : Below w.heap.size w (((w3.setCell ⟨B, 0, none⟩ (.int .u64 R1)).setCell ⟨B, 1, none⟩ (.int .u8 R2)).setCell ⟨B, 2, none⟩ (.int .u8 R3)) := by
    repeat (first | (with_reducible exact bA) | (with_reducible refine Below.setCell ?_ HB.out _))
  generalize (((w3.setCell ⟨B, 0, none⟩ (.int .u64 R1)).setCell ⟨B, 1, none⟩ (.int .u8 R2)).setCell ⟨B, 2, none⟩ (.int .u8 R3)) = w4 at *
  clear c0 c1 c2 d0 d1 d2 z0 z1 f0 f1 bA DC AC
  have i0 : w4.drew.cell? ⟨B, 0, none⟩ = some (.int .u64 R1) := e0
  have i1 : w4.drew.cell? ⟨B, 1, none⟩ = some (.int .u8 R2) := e1
  have i2 : w4.drew.cell? ⟨B, 2, none⟩ = some (.int .u8 R3) := e2
  have j0 : w4.drew.cell? ⟨w.heap.size, 0, none⟩ = some (.int .u64 0) := y0
  have j1 : w4.drew.cell? ⟨w.heap.size, 1, none⟩ = some (.int .u8 0) := y1
  have k0 : w4.drew.frozen? ⟨w.heap.size, 0, none⟩ = false := g0
  have k1 : w4.drew.frozen? ⟨w.heap.size, 1, none⟩ = false := g1
  go_region
  all_goals
    go_wp2_with fail
    refine bodyPost_ret (v := .tuple #[.agg #[.int .u64 R1, .int .u8 R2], .int .u8 R3, .int .i64 0]) (by simp [results, Tryz.results5, go_sem, y0, y1]) rfl ⟨rfl, ?_⟩
    repeat (first | (with_reducible exact bC) | (with_reducible refine Below.setCell ?_ (by simp) _) | (with_reducible refine Below.drew ?_))

set_option maxRecDepth 100000 in
set_option maxHeartbeats 4000000 in
theorem rSpecial_two (f x y : Int) (w : World) (hf : 0 ≤ f) (h : U x) (k : U y) (ha : argsV f = 2) :
    Calls Tryz.prog 5 #[.int .u8 f, .int .u64 x, .int .u64 y] w fun r w' => r = .returned (.tuple #[.agg #[.int .u64 (dTwo f x y).1, .int .u8 (dTwo f x y).2.1], .int .u8 (dTwo f x y).2.2, .int .i64 0]) ∧ Below w.heap.size w w' := by
  obtain ⟨z0, z1, f0, f1⟩ := zres w
  have bA := below_alloc w (.cells #[.int .u64 0, .int .u8 0] 26)
  have AC : Hid _ := fun W => rArgs_calls f W hf
  rw [ha] at AC
  have DC : Hid _ := fun W => dTwo_calls f x y W h k
  generalize dTwo f x y = R at *
  obtain ⟨R1, R2, R3⟩ := R
  simp only at DC ⊢
  go_enter Tryz.func5, Tryz.ntmps5
  go_wp2_with fail
  refine Calls.mono (zNone_calls _) ?_
  rintro r w1 ⟨rfl, b1⟩
  have hs : w.heap.size < w1.heap.size := Nat.lt_of_lt_of_le (World.block_lt_of_cell? _ _ z0) b1.size
  have bX := below_alloc w1 (.cells #[.int .u64 0, .int .u8 0, .int .u8 0] 43)
  have c0 : (w1.alloc (.cells #[.int .u64 0, .int .u8 0, .int .u8 0] 43)).cell? ⟨w1.heap.size, 0, none⟩ = some (.int .u64 0) := by go_simp
  have c1 : (w1.alloc (.cells #[.int .u64 0, .int .u8 0, .int .u8 0] 43)).cell? ⟨w1.heap.size, 1, none⟩ = some (.int .u8 0) := by go_simp
  have c2 : (w1.alloc (.cells #[.int .u64 0, .int .u8 0, .int .u8 0] 43)).cell? ⟨w1.heap.size, 2, none⟩ = some (.int .u8 0) := by go_simp
  have d0 : (w1.alloc (.cells #[.int .u64 0, .int .u8 0, .int .u8 0] 43)).frozen? ⟨w1.heap.size, 0, none⟩ = false := by go_simp
  have d1 : (w1.alloc (.cells #[.int .u64 0, .int .u8 0, .int .u8 0] 43)).frozen? ⟨w1.heap.size, 1, none⟩ = false := by go_simp
  have d2 : (w1.alloc (.cells #[.int .u64 0, .int .u8 0, .int .u8 0] 43)).frozen? ⟨w1.heap.size, 2, none⟩ = false := by go_simp
  replace b1 := below_trans b1 bX
  replace f0 := pfroz b1 z0 f0
  replace f1 := pfroz b1 z1 f1
  replace z0 := pcell b1 z0
  replace z1 := pcell b1 z1
  replace bA := below_trans bA b1
  have ne : w1.heap.size ≠ w.heap.size := by omega
  have HB : Hid (w.heap.size ≤ w1.heap.size) := by rw [Hid]; omega
  clear b1 bX
  go_wp2_with fail
  refine Calls.mono (AC.out _) ?_
  rintro r w2 ⟨rfl, rfl⟩
  generalize hW : w1.alloc (.cells #[.int .u64 0, .int .u8 0, .int .u8 0] 43) = w2 at *
  generalize w1.heap.size = B at *
  clear hW hs
  go_wp2_with fail
  refine Calls.mono (DC.out _) ?_
  rintro r w3 ⟨rfl, b1⟩
  replace f0 := pfroz b1 z0 f0
  replace f1 := pfroz b1 z1 f1
  replace z0 := pcell b1 z0
  replace z1 := pcell b1 z1
  replace d0 := pfroz b1 c0 d0
  replace d1 := pfroz b1 c1 d1
  replace d2 := pfroz b1 c2 d2
  replace c0 := pcell b1 c0
  replace c1 := pcell b1 c1
  replace c2 := pcell b1 c2
  replace bA := below_trans bA b1
  clear b1
  go_wp2_with fail
  have e0 : (((w3.setCell ⟨B, 0, none⟩ (.int .u64 R1)).setCell ⟨B, 1, none⟩ (.int .u8 R2)).setCell ⟨B, 2, none⟩ (.int .u8 R3)).cell? ⟨B, 0, none⟩ = some (.int .u64 R1) := by simp [go_sem, c0]
  have e1 : (((w3.setCell ⟨B, 0, none⟩ (.int .u64 R1)).setCell ⟨B, 1, none⟩ (.int .u8 R2)).setCell ⟨B, 2, none⟩ (.int .u8 R3)).cell? ⟨B, 1, none⟩ = some (.int .u8 R2) := by simp [go_sem, c1]
  have e2 : (((w3.setCell ⟨B, 0, none⟩ (.int .u64 R1)).setCell ⟨B, 1, none⟩ (.int .u8 R2)).setCell ⟨B, 2, none⟩ (.int .u8 R3)).cell? ⟨B, 2, none⟩ = some (.int .u8 R3) := by simp [go_sem, c2]
  have y0 : (((w3.setCell ⟨B, 0, none⟩ (.int .u64 R1)).setCell ⟨B, 1, none⟩ (.int .u8 R2)).setCell ⟨B, 2, none⟩ (.int .u8 R3)).cell? ⟨w.heap.size, 0, none⟩ = some (.int .u64 0) := by simp [go_sem, z0]
  have y1 : (((w3.setCell ⟨B, 0, none⟩ (.int .u64 R1)).setCell ⟨B, 1, none⟩ (.int .u8 R2)).setCell ⟨B, 2, none⟩ (.int .u8 R3)).cell? ⟨w.heap.size, 1, none⟩ = some (.int .u8 0) := by simp [go_sem, z1]
  have g0 : (((w3.setCell ⟨B, 0, none⟩ (.int .u64 R1)).setCell ⟨B, 1, none⟩ (.int .u8 R2)).setCell ⟨B, 2, none⟩ (.int .u8 R3)).frozen? ⟨w.heap.size, 0, none⟩ = false := by simp [go_sem, f0]
  have g1 : (((w3.setCell ⟨B, 0, none⟩ (.int .u64 R1)).setCell ⟨B, 1, none⟩ (.int .u8 R2)).setCell ⟨B, 2, none⟩ (.int .u8 R3)).frozen? ⟨w.heap.size, 1, none⟩ = false := by simp [go_sem, f1]
  have bC : Below w.heap.size w (((w3.setCell ⟨B, 0, none⟩ (.int .u64 R1)).setCell ⟨B, 1, none⟩ (.int .u8 R2)).setCell ⟨B, 2, none⟩ (.int .u8 R3)) := by
    repeat (first | (with_reducible exact bA) | (with_reducible refine Below.setCell ?_ HB.out _))
  generalize (((w3.setCell ⟨B, 0, none⟩ (.int .u64 R1)).setCell ⟨B, 1, none⟩ (.int .u8 R2)).setCell ⟨B, 2, none⟩ (.int .u8 R3)) = w4 at *
  clear c0 c1 c2 d0 d1 d2 z0 z1 f0 f1 bA DC AC
  have i0 : w4.drew.cell? ⟨B, 0, none⟩ = some (.int .u64 R1) := e0
  have i1 : w4.drew.cell? ⟨B, 1, none⟩ = some (.int .u8 R2) := e1
  have i2 : w4.drew.cell? ⟨B, 2, none⟩ = some (.int .u8 R3) := e2
  have j0 : w4.drew.cell? ⟨w.heap.size, 0, none⟩ = some (.int .u64 0) := y0
  have j1 : w4.drew.cell? ⟨w.heap.size, 1, none⟩ = some (.int .u8 0) := y1
  have k0 : w4.drew.frozen? ⟨w.heap.size, 0, none⟩ = false := g0
  have k1 : w4.drew.frozen? ⟨w.heap.size, 1, none⟩ = false := g1
  go_region
  all_goals
    go_wp2_with fail
    refine bodyPost_ret (v := .tuple #[.agg #[.int .u64 R1, .int .u8 R2], .int .u8 R3, .int .i64 0]) (by simp [results, Tryz.results5, go_sem, y0, y1]) rfl ⟨rfl, ?_⟩
    repeat (first | (with_reducible exact bC) | (with_reducible refine Below.setCell ?_ (by simp) _) | (with_reducible refine Below.drew ?_))

set_option maxRecDepth 100000 in
set_option maxHeartbeats 4000000 in
theorem rSpecial_none (f x y : Int) (w : World) (hf : 0 ≤ f) (ha : argsV f = 0) :
    Calls Tryz.prog 5 #[.int .u8 f, .int .u64 x, .int .u64 y] w fun r w' => r = .returned (.tuple #[.agg #[.int .u64 0, .int .u8 0], .int .u8 0, .int .i64 2]) ∧ Below w.heap.size w w' := by
  obtain ⟨z0, z1, f0, f1⟩ := zres w
  have bA := below_alloc w (.cells #[.int .u64 0, .int .u8 0] 26)
  have AC : Hid _ := fun W => rArgs_calls f W hf
  rw [ha] at AC
  go_enter Tryz.func5, Tryz.ntmps5
  go_wp2_with fail
  refine Calls.mono (zNone_calls _) ?_
  rintro r w1 ⟨rfl, b1⟩
  replace b1 := below_trans b1 (below_alloc w1 (.cells #[.int .u64 0, .int .u8 0, .int .u8 0] 43))
  replace f0 := pfroz b1 z0 f0
  replace f1 := pfroz b1 z1 f1
  replace z0 := pcell b1 z0
  replace z1 := pcell b1 z1
  replace bA := below_trans bA b1
  clear b1
  go_wp2_with fail
  refine Calls.mono (AC.out _) ?_
  rintro r w2 ⟨rfl, rfl⟩
  generalize w1.alloc (.cells #[.int .u64 0, .int .u8 0, .int .u8 0] 43) = w2 at *
  go_wp2_with fail
  refine bodyPost_ret (v := .tuple #[.agg #[.int .u64 0, .int .u8 0], .int .u8 0, .int .i64 2]) (by simp [results, Tryz.results5, go_sem, z0, z1]) rfl ⟨rfl, ?_⟩
  repeat (first | (with_reducible exact bA) | (with_reducible refine Below.setCell ?_ (by simp) _))
theorem args3 (f : Int) : argsV f = 0 ∧ isF f = false ∨ argsV f = 1 ∧ isF f = true ∧ ¬ 33 ≤ f ∨ argsV f = 2 ∧ isF f = true ∧ 33 ≤ f := by
  unfold argsV
  cases hi : isF f with
  | false => exact Or.inl ⟨rfl, rfl⟩
  | true =>
    have hb : 1 ≤ f ∧ f ≤ 36 := by unfold isF at hi; simpa using hi
    by_cases h33 : 33 ≤ f
    · refine Or.inr (Or.inr ⟨?_, rfl, h33⟩)
      unfold isTwo; rw [decide_eq_true (show 33 ≤ f ∧ f ≤ 36 by omega)]; rfl
    · refine Or.inr (Or.inl ⟨?_, rfl, h33⟩)
      unfold isTwo; rw [decide_eq_false (show ¬ (33 ≤ f ∧ f ≤ 36) by omega)]; rfl
theorem rSpecial_calls (f x y : Int) (w : World) (hf : 0 ≤ f) (h : U x) (k : U y) :
    Calls Tryz.prog 5 #[.int .u8 f, .int .u64 x, .int .u64 y] w fun r w' => r = .returned (.tuple #[.agg #[.int .u64 (spV f x y).1, .int .u8 (spV f x y).2.1], .int .u8 (spV f x y).2.2, .int .i64 (spE f)]) ∧ Below w.heap.size w w' := by
  have hs := rows_same f x y hf h k
  unfold dSpV at hs
  rcases args3 f with ⟨ha, hi⟩ | ⟨ha, hi, h33⟩ | ⟨ha, hi, h33⟩
  · rw [ha] at hs
    have e : spV f x y = (0, 0, 0) := hs.symm
    have e2 : spE f = 2 := by unfold spE; rw [hi]; rfl
    rw [e, e2]
    exact rSpecial_none f x y w hf ha
  · rw [ha] at hs
    have e : spV f x y = dOne f x := hs.symm
    have e2 : spE f = 0 := by unfold spE; rw [hi]; rfl
    rw [e, e2]
    exact rSpecial_one f x y w hf h k ha
  · rw [ha] at hs
    have e : spV f x y = dTwo f x y := hs.symm
    have e2 : spE f = 0 := by unfold spE; rw [hi]; rfl
    rw [e, e2]
    exact rSpecial_two f x y w hf h k ha

set_option maxRecDepth 100000 in
set_option maxHeartbeats 4000000 in
theorem rInside_calls (f x y : Int) (w : World) (hf : 0 ≤ f) (h : U x) (k : U y) :
    Calls Tryz.prog 7 #[.int .u8 f, .int .u64 x, .int .u64 y] w fun r w' => r = .returned (.bool (spIn f x y)) ∧ Below w.heap.size w w' := by
  have AC : Hid _ := fun W => rArgs_calls f W hf
  have F1 : Hid _ := fun W => rFinite_calls x W h
  have F2 : Hid _ := fun W => rFinite_calls y W k
  have SC : Hid _ := fun W => rSpecial_calls f x y W hf h k
  have HI : Hid (spIn f x y = (isF f && finB x && finB (yOf f x y) && !((spV f x y).2.2 == 2) && !((spV f x y).2.2 == 3))) := rfl
  generalize spIn f x y = I at *
  generalize spV f x y = R at *
  obtain ⟨R1, R2, R3⟩ := R
  simp only at SC HI
  unfold yOf at HI
  rcases args3 f with ⟨ha, hi⟩ | ⟨ha, hi, h33⟩ | ⟨ha, hi, h33⟩
  · rw [ha] at AC
    have HJ : Hid (I = false) := by rw [Hid, HI.out, hi]; rfl
    cases hfx : finB x with
    | false =>
      rw [hfx] at F1
      go_enter Tryz.func7, Tryz.ntmps7
      go_wp2_with fail
      refine Calls.mono (F1.out _) ?_
      rintro r w1 ⟨rfl, rfl⟩
      go_wp2_with fail
      go_ret
      exact ⟨by rw [HJ.out]; rfl, Below.refl _ _⟩
    | true =>
      rw [hfx] at F1
      go_enter Tryz.func7, Tryz.ntmps7
      go_wp2_with fail
      refine Calls.mono (F1.out _) ?_
      rintro r w1 ⟨rfl, rfl⟩
      go_wp2_with fail
      refine Calls.mono (AC.out _) ?_
      rintro r w1 ⟨rfl, rfl⟩
      go_wp2_with fail
      go_ret
      exact ⟨by rw [HJ.out]; rfl, Below.refl _ _⟩
  · rw [ha] at AC
    cases hfx : finB x with
    | false =>
      have HJ : Hid (I = false) := by rw [Hid, HI.out, hfx]; simp
      rw [hfx] at F1
      go_enter Tryz.func7, Tryz.ntmps7
      go_wp2_with fail
      refine Calls.mono (F1.out _) ?_
      rintro r w1 ⟨rfl, rfl⟩
      go_wp2_with fail
      go_ret
      exact ⟨by rw [HJ.out]; rfl, Below.refl _ _⟩
    | true =>
      have HJ : Hid (I = (!(R3 == 2) && !(R3 == 3))) := by rw [Hid, HI.out, hi, hfx, if_neg h33, hfx]; rfl
      rw [hfx] at F1
      go_enter Tryz.func7, Tryz.ntmps7
      go_wp2_with fail
      refine Calls.mono (F1.out _) ?_
      rintro r w1 ⟨rfl, rfl⟩
      go_wp2_with fail
      refine Calls.mono (AC.out _) ?_
      rintro r w1 ⟨rfl, rfl⟩
      go_wp2_with fail
      refine Calls.mono (AC.out _) ?_
      rintro r w1 ⟨rfl, rfl⟩
      go_wp2_with fail
      refine Calls.mono (SC.out _) ?_
      rintro r w2 ⟨rfl, b1⟩
      go_wp2_with fail
      all_goals go_ret
      all_goals (refine ⟨ret_bool ?_, below_trans b1 (below_alloc _ _)⟩; rw [HJ.out]; first | (simp_all [bne]; done) | (rename_i hh; rw [hh]; rfl))
  · rw [ha] at AC
    cases hfx : finB x with
    | false =>
      have HJ : Hid (I = false) := by rw [Hid, HI.out, hfx]; simp
      rw [hfx] at F1
      go_enter Tryz.func7, Tryz.ntmps7
      go_wp2_with fail
      refine Calls.mono (F1.out _) ?_
      rintro r w1 ⟨rfl, rfl⟩
      go_wp2_with fail
      go_ret
      exact ⟨by rw [HJ.out]; rfl, Below.refl _ _⟩
    | true =>
      rw [hfx] at F1
      cases hfy : finB y with
      | false =>
        have HJ : Hid (I = false) := by rw [Hid, HI.out, if_pos h33, hfy]; simp
        rw [hfy] at F2
        go_enter Tryz.func7, Tryz.ntmps7
        go_wp2_with fail
        refine Calls.mono (F1.out _) ?_
        rintro r w1 ⟨rfl, rfl⟩
        go_wp2_with fail
        refine Calls.mono (AC.out _) ?_
        rintro r w1 ⟨rfl, rfl⟩
        go_wp2_with fail
        refine Calls.mono (AC.out _) ?_
        rintro r w1 ⟨rfl, rfl⟩
        go_wp2_with fail
        refine Calls.mono (F2.out _) ?_
        rintro r w1 ⟨rfl, rfl⟩
        go_wp2_with fail
        go_ret
        exact ⟨by rw [HJ.out]; rfl, Below.refl _ _⟩
      | true =>
        have HJ : Hid (I = (!(R3 == 2) && !(R3 == 3))) := by rw [Hid, HI.out, hi, hfx, if_pos h33, hfy]; rfl
        rw [hfy] at F2
        go_enter Tryz.func7, Tryz.ntmps7
        go_wp2_with fail
        refine Calls.mono (F1.out _) ?_
        rintro r w1 ⟨rfl, rfl⟩
        go_wp2_with fail
        refine Calls.mono (AC.out _) ?_
        rintro r w1 ⟨rfl, rfl⟩
        go_wp2_with fail
        refine Calls.mono (AC.out _) ?_
        rintro r w1 ⟨rfl, rfl⟩
        go_wp2_with fail
        refine Calls.mono (F2.out _) ?_
        rintro r w1 ⟨rfl, rfl⟩
        go_wp2_with fail
        refine Calls.mono (SC.out _) ?_
        rintro r w2 ⟨rfl, b1⟩
        go_wp2_with fail
        all_goals go_ret
        all_goals (refine ⟨ret_bool ?_, below_trans b1 (below_alloc _ _)⟩; rw [HJ.out]; first | (simp_all [bne]; done) | (rename_i hh; rw [hh]; rfl))

set_option maxRecDepth 100000 in
set_option maxHeartbeats 4000000 in
theorem specialRows_walk (f x y : Int) (w : World) (hf : 0 ≤ f ∧ f ≤ 255) (h : U x) (k : U y) (hT : TabS w) :
    Calls Tryz.prog 3 #[.int .u8 f, .int .u64 x, .int .u64 y] w fun r w' => r = .returned (.bool true) ∧ Below w.heap.size w w' := by
  have HB : Hid _ := fun W (b : Below w.heap.size w W) => spBegins_calls W (hT.kept b)
  have S1 : Hid _ := sp_any f x y w hf.1 h k hT
  have S2 : Hid _ := fun W => rSpecial_calls f x y W hf.1 h k
  have I1 : Hid _ := fun W (b : Below w.heap.size w W) => inside_calls f x y W hf.1 h k (hT.kept b).1 (hT.kept b).2.1
  have I2 : Hid _ := fun W => rInside_calls f x y W hf.1 h k
  generalize spV f x y = R at *
  generalize spE f = E at *
  generalize spIn f x y = I at *
  obtain ⟨R1, R2, R3⟩ := R
  simp only at S1 S2
  clear hT
  go_enter Tryz.func3, Tryz.ntmps3
  go_wp2_with fail
  refine Calls.mono S1.out ?_
  rintro r w1 ⟨rfl, bb⟩
  have c0 : (w1.alloc (.cells #[.int .u64 R1, .int .u8 R2] 26)).cell? ⟨w1.heap.size, 0, none⟩ = some (.int .u64 R1) := by go_simp
  have c1 : (w1.alloc (.cells #[.int .u64 R1, .int .u8 R2] 26)).cell? ⟨w1.heap.size, 1, none⟩ = some (.int .u8 R2) := by go_simp
  replace bb := below_trans bb (below_alloc w1 (.cells #[.int .u64 R1, .int .u8 R2] 26))
  go_wp2_with fail
  refine Calls.mono (S2.out _) ?_
  rintro r w2 ⟨rfl, b1⟩
  have b2 := below_trans b1 (below_alloc w2 (.cells #[.int .u64 R1, .int .u8 R2] 26))
  have d0 : (w2.alloc (.cells #[.int .u64 R1, .int .u8 R2] 26)).cell? ⟨w2.heap.size, 0, none⟩ = some (.int .u64 R1) := by go_simp
  have d1 : (w2.alloc (.cells #[.int .u64 R1, .int .u8 R2] 26)).cell? ⟨w2.heap.size, 1, none⟩ = some (.int .u8 R2) := by go_simp
  replace c0 := pcell b2 c0
  replace c1 := pcell b2 c1
  replace bb := below_trans bb b2
  clear b1 b2 S1 S2
  go_wp2_with fail
  refine Calls.mono (I1.out _ bb) ?_
  rintro r w3 ⟨rfl, b1⟩
  replace bb := below_trans bb b1
  clear b1
  go_wp2_with fail
  refine Calls.mono (I2.out _) ?_
  rintro r w4 ⟨rfl, b1⟩
  replace bb := below_trans bb b1
  clear b1
  go_wp2_with fail
  refine Calls.mono (HB.out _ bb) ?_
  rintro r w5 ⟨rfl, b1⟩
  replace bb := below_trans bb b1
  clear b1
  go_wp2_with fail
  go_ret
  exact ⟨rfl, bb⟩
end Go.Proofs.YtkkccnpmcbpdnaaGreatDoor

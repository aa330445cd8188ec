/- The document's rows of special: powers. -/
import Derived.Test.YtkkccnpmcbpdnaaGreatDoorSPZ1
import Derived.Deep.RegionWith
namespace Go.Proofs.YtkkccnpmcbpdnaaGreatDoor
open Go.RowKit


set_option maxRecDepth 100000 in
set_option maxHeartbeats 8000000 in
theorem dOfZero_calls (x y : Int) (w : World) (h : U x) (k : U y) : Calls Tryz.prog 75 #[.int .u64 x, .int .u64 y] w fun r w' => r = .returned (.agg #[.int .u64 (dOfZero x y).1, .int .u8 (dOfZero x y).2.1, .int .u8 (dOfZero x y).2.2]) ∧ Below w.heap.size w w' := by
  have bA := below_alloc w (.cells #[.int .u64 0, .int .u8 0, .int .u8 0] 43)
  have z0 : (w.alloc (.cells #[.int .u64 0, .int .u8 0, .int .u8 0] 43)).cell? ⟨w.heap.size, 0, none⟩ = some (.int .u64 0) := by go_simp
  have z1 : (w.alloc (.cells #[.int .u64 0, .int .u8 0, .int .u8 0] 43)).cell? ⟨w.heap.size, 1, none⟩ = some (.int .u8 0) := by go_simp
  have z2 : (w.alloc (.cells #[.int .u64 0, .int .u8 0, .int .u8 0] 43)).cell? ⟨w.heap.size, 2, none⟩ = some (.int .u8 0) := by go_simp
  have f0 : (w.alloc (.cells #[.int .u64 0, .int .u8 0, .int .u8 0] 43)).frozen? ⟨w.heap.size, 0, none⟩ = false := by go_simp
  have f1 : (w.alloc (.cells #[.int .u64 0, .int .u8 0, .int .u8 0] 43)).frozen? ⟨w.heap.size, 1, none⟩ = false := by go_simp
  have f2 : (w.alloc (.cells #[.int .u64 0, .int .u8 0, .int .u8 0] 43)).frozen? ⟨w.heap.size, 2, none⟩ = false := by go_simp
  obtain ⟨R, hR⟩ : ∃ R, R = dOfZero x y := ⟨_, rfl⟩
  rw [← hR]
  have HR : Hid (R = dOfZero x y) := hR
  clear hR
  go_enter Tryz.func75, Tryz.ntmps75
  go_wp2_with (first
    | (go_at_call 70; refine (rOdd_calls _ _ k).mono ?_; rintro r w9 ⟨rfl, b1⟩; replace f0 := pfroz b1 z0 f0; replace f1 := pfroz b1 z1 f1; replace f2 := pfroz b1 z2 f2; replace z0 := pcell b1 z0; replace z1 := pcell b1 z1; replace z2 := pcell b1 z2; replace bA := below_trans bA b1; clear b1)
    | (go_at_call 74; refine (zMinus_calls _ _ k).mono ?_; rintro r w9 ⟨rfl, rfl⟩)
    | (go_at_call 73; refine (zSigned_calls _ _ _ h (by decide) (by decide)).mono ?_; rintro r w9 ⟨rfl, rfl⟩)
    | (go_at_call 32; refine (zExact_calls _ _).mono ?_; rintro r w9 ⟨rfl, b1⟩; replace f0 := pfroz b1 z0 f0; replace f1 := pfroz b1 z1 f1; replace f2 := pfroz b1 z2 f2; replace z0 := pcell b1 z0; replace z1 := pcell b1 z1; replace z2 := pcell b1 z2; replace bA := below_trans bA b1; clear b1)
    | (go_at_call 65; refine (zPole_calls _ _).mono ?_; rintro r w9 ⟨rfl, b1⟩; replace f0 := pfroz b1 z0 f0; replace f1 := pfroz b1 z1 f1; replace f2 := pfroz b1 z2 f2; replace z0 := pcell b1 z0; replace z1 := pcell b1 z1; replace z2 := pcell b1 z2; replace bA := below_trans bA b1; clear b1))
  all_goals
    have hv := HR.out
    unfold dOfZero at hv
    simp_all [rE, rP]
    refine bodyPost_ret ?_ rfl ⟨rfl, ?_⟩
    · simp [results, Tryz.results75, go_sem, z0, z1, z2]
    · repeat (first | (with_reducible exact bA) | (with_reducible refine Below.setCell ?_ (by simp) _))


set_option maxRecDepth 100000 in
set_option maxHeartbeats 8000000 in
theorem dPowers_calls (x y : Int) (w : World) (h : U x) (k : U y) : Calls Tryz.prog 34 #[.int .u64 x, .int .u64 y] w fun r w' => r = .returned (.agg #[.int .u64 (dPowers x y).1, .int .u8 (dPowers x y).2.1, .int .u8 (dPowers x y).2.2]) ∧ Below w.heap.size w w' := by
  have bA := below_alloc w (.cells #[.int .u64 0, .int .u8 0, .int .u8 0] 43)
  have z0 : (w.alloc (.cells #[.int .u64 0, .int .u8 0, .int .u8 0] 43)).cell? ⟨w.heap.size, 0, none⟩ = some (.int .u64 0) := by go_simp
  have z1 : (w.alloc (.cells #[.int .u64 0, .int .u8 0, .int .u8 0] 43)).cell? ⟨w.heap.size, 1, none⟩ = some (.int .u8 0) := by go_simp
  have z2 : (w.alloc (.cells #[.int .u64 0, .int .u8 0, .int .u8 0] 43)).cell? ⟨w.heap.size, 2, none⟩ = some (.int .u8 0) := by go_simp
  have f0 : (w.alloc (.cells #[.int .u64 0, .int .u8 0, .int .u8 0] 43)).frozen? ⟨w.heap.size, 0, none⟩ = false := by go_simp
  have f1 : (w.alloc (.cells #[.int .u64 0, .int .u8 0, .int .u8 0] 43)).frozen? ⟨w.heap.size, 1, none⟩ = false := by go_simp
  have f2 : (w.alloc (.cells #[.int .u64 0, .int .u8 0, .int .u8 0] 43)).frozen? ⟨w.heap.size, 2, none⟩ = false := by go_simp
  obtain ⟨R, hR⟩ : ∃ R, R = dPowers x y := ⟨_, rfl⟩
  rw [← hR]
  have HR : Hid (R = dPowers x y) := hR
  clear hR
  go_enter Tryz.func34, Tryz.ntmps34
  go_wp2_with (first
    | (go_at_call 36; refine (rAbs_calls _ _ h).mono ?_; rintro r w9 ⟨rfl, rfl⟩)
    | (go_at_call 66; refine (rLess_calls _ _ _ ⟨by decide, by decide⟩ (U_abs _ h)).mono ?_; rintro r w9 ⟨rfl, rfl⟩)
    | (go_at_call 70; refine (rOdd_calls _ _ k).mono ?_; rintro r w9 ⟨rfl, b1⟩; replace f0 := pfroz b1 z0 f0; replace f1 := pfroz b1 z1 f1; replace f2 := pfroz b1 z2 f2; replace z0 := pcell b1 z0; replace z1 := pcell b1 z1; replace z2 := pcell b1 z2; replace bA := below_trans bA b1; clear b1)
    | (go_at_call 31; refine zguard #[.int .u64 x] ?_ ?_; (focus rfl); refine (zZero_calls _ _ h).mono ?_; rintro r w9 ⟨rfl, rfl⟩)
    | (go_at_call 31; refine zguard #[.int .u64 y] ?_ ?_; (focus rfl); refine (zZero_calls _ _ k).mono ?_; rintro r w9 ⟨rfl, rfl⟩)
    | (go_at_call 33; refine zguard #[.int .u64 x] ?_ ?_; (focus rfl); refine (zInf_calls _ _ h).mono ?_; rintro r w9 ⟨rfl, rfl⟩)
    | (go_at_call 33; refine zguard #[.int .u64 y] ?_ ?_; (focus rfl); refine (zInf_calls _ _ k).mono ?_; rintro r w9 ⟨rfl, rfl⟩)
    | (go_at_call 74; refine zguard #[.int .u64 x] ?_ ?_; (focus rfl); refine (zMinus_calls _ _ h).mono ?_; rintro r w9 ⟨rfl, rfl⟩)
    | (go_at_call 74; refine zguard #[.int .u64 y] ?_ ?_; (focus rfl); refine (zMinus_calls _ _ k).mono ?_; rintro r w9 ⟨rfl, rfl⟩)
    | (go_at_call 68; refine (rWhole_calls _ _ k).mono ?_; rintro r w9 ⟨rfl, b1⟩; replace f0 := pfroz b1 z0 f0; replace f1 := pfroz b1 z1 f1; replace f2 := pfroz b1 z2 f2; replace z0 := pcell b1 z0; replace z1 := pcell b1 z1; replace z2 := pcell b1 z2; replace bA := below_trans bA b1; clear b1)
    | (go_at_call 75; refine (dOfZero_calls _ _ _ h k).mono ?_; rintro r w9 ⟨rfl, b1⟩; replace f0 := pfroz b1 z0 f0; replace f1 := pfroz b1 z1 f1; replace f2 := pfroz b1 z2 f2; replace z0 := pcell b1 z0; replace z1 := pcell b1 z1; replace z2 := pcell b1 z2; replace bA := below_trans bA b1; clear b1)
    | (go_at_call 32; refine (zExact_calls _ _).mono ?_; rintro r w9 ⟨rfl, b1⟩; replace f0 := pfroz b1 z0 f0; replace f1 := pfroz b1 z1 f1; replace f2 := pfroz b1 z2 f2; replace z0 := pcell b1 z0; replace z1 := pcell b1 z1; replace z2 := pcell b1 z2; replace bA := below_trans bA b1; clear b1)
    | (go_at_call 67; refine (zDomain_calls _).mono ?_; rintro r w9 ⟨rfl, b1⟩; replace f0 := pfroz b1 z0 f0; replace f1 := pfroz b1 z1 f1; replace f2 := pfroz b1 z2 f2; replace z0 := pcell b1 z0; replace z1 := pcell b1 z1; replace z2 := pcell b1 z2; replace bA := below_trans bA b1; clear b1)
    | (go_at_call 12; refine (zNone_calls _).mono ?_; rintro r w9 ⟨rfl, b1⟩; replace f0 := pfroz b1 z0 f0; replace f1 := pfroz b1 z1 f1; replace f2 := pfroz b1 z2 f2; replace z0 := pcell b1 z0; replace z1 := pcell b1 z1; replace z2 := pcell b1 z2; replace bA := below_trans bA b1; clear b1))
  all_goals
    have hv := HR.out
    unfold dPowers at hv
    simp_all [rE, rD]
    refine bodyPost_ret ?_ rfl ⟨rfl, ?_⟩
    · simp [results, Tryz.results34, go_sem, z0, z1, z2]
    · repeat (first | (with_reducible exact bA) | (with_reducible refine Below.setCell ?_ (by simp) _))

end Go.Proofs.YtkkccnpmcbpdnaaGreatDoor

/- The document's rows of special: one argument. -/
import Derived.Test.YtkkccnpmcbpdnaaGreatDoorSPZ1
import Derived.Deep.RegionWith
namespace Go.Proofs.YtkkccnpmcbpdnaaGreatDoor
open Go.RowKit


set_option maxRecDepth 100000 in
set_option maxHeartbeats 8000000 in
theorem dOne_calls (f x : Int) (w : World) (h : U x) : Calls Tryz.prog 14 #[.int .u8 f, .int .u64 x] w fun r w' => r = .returned (.agg #[.int .u64 (dOne f x).1, .int .u8 (dOne f x).2.1, .int .u8 (dOne f x).2.2]) ∧ Below w.heap.size w w' := by
  have bA := below_alloc w (.cells #[.int .u64 0, .int .u8 0, .int .u8 0] 43)
  have z0 : (w.alloc (.cells #[.int .u64 0, .int .u8 0, .int .u8 0] 43)).cell? ⟨w.heap.size, 0, none⟩ = some (.int .u64 0) := by go_simp
  have z1 : (w.alloc (.cells #[.int .u64 0, .int .u8 0, .int .u8 0] 43)).cell? ⟨w.heap.size, 1, none⟩ = some (.int .u8 0) := by go_simp
  have z2 : (w.alloc (.cells #[.int .u64 0, .int .u8 0, .int .u8 0] 43)).cell? ⟨w.heap.size, 2, none⟩ = some (.int .u8 0) := by go_simp
  have f0 : (w.alloc (.cells #[.int .u64 0, .int .u8 0, .int .u8 0] 43)).frozen? ⟨w.heap.size, 0, none⟩ = false := by go_simp
  have f1 : (w.alloc (.cells #[.int .u64 0, .int .u8 0, .int .u8 0] 43)).frozen? ⟨w.heap.size, 1, none⟩ = false := by go_simp
  have f2 : (w.alloc (.cells #[.int .u64 0, .int .u8 0, .int .u8 0] 43)).frozen? ⟨w.heap.size, 2, none⟩ = false := by go_simp
  obtain ⟨R, hR⟩ : ∃ R, R = dOne f x := ⟨_, rfl⟩
  rw [← hR]
  have HR : Hid (R = dOne f x) := hR
  clear hR
  go_enter Tryz.func14, Tryz.ntmps14
  go_wp2_with (first
    | (go_at_call 21; refine (rClass_calls _ _ h).mono ?_; rintro r w9 ⟨rfl, rfl⟩)
    | (go_at_call 22; refine (zSignal_calls _).mono ?_; rintro r w9 ⟨rfl, b1⟩; replace f0 := pfroz b1 z0 f0; replace f1 := pfroz b1 z1 f1; replace f2 := pfroz b1 z2 f2; replace z0 := pcell b1 z0; replace z1 := pcell b1 z1; replace z2 := pcell b1 z2; replace bA := below_trans bA b1; clear b1)
    | (go_at_call 23; refine (zQuiet_calls _).mono ?_; rintro r w9 ⟨rfl, b1⟩; replace f0 := pfroz b1 z0 f0; replace f1 := pfroz b1 z1 f1; replace f2 := pfroz b1 z2 f2; replace z0 := pcell b1 z0; replace z1 := pcell b1 z1; replace z2 := pcell b1 z2; replace bA := below_trans bA b1; clear b1)
    | (go_at_call 24; refine (dExps_calls _ _ _ h).mono ?_; rintro r w9 ⟨rfl, b1⟩; replace f0 := pfroz b1 z0 f0; replace f1 := pfroz b1 z1 f1; replace f2 := pfroz b1 z2 f2; replace z0 := pcell b1 z0; replace z1 := pcell b1 z1; replace z2 := pcell b1 z2; replace bA := below_trans bA b1; clear b1)
    | (go_at_call 25; refine zguard #[.int .u64 x, .bool true] ?_ ?_; (focus rfl); refine (dLogs_true_calls _ _ h).mono ?_; rintro r w9 ⟨rfl, b1⟩; replace f0 := pfroz b1 z0 f0; replace f1 := pfroz b1 z1 f1; replace f2 := pfroz b1 z2 f2; replace z0 := pcell b1 z0; replace z1 := pcell b1 z1; replace z2 := pcell b1 z2; replace bA := below_trans bA b1; clear b1)
    | (go_at_call 25; refine zguard #[.int .u64 x, .bool false] ?_ ?_; (focus rfl); refine (dLogs_false_calls _ _ h).mono ?_; rintro r w9 ⟨rfl, b1⟩; replace f0 := pfroz b1 z0 f0; replace f1 := pfroz b1 z1 f1; replace f2 := pfroz b1 z2 f2; replace z0 := pcell b1 z0; replace z1 := pcell b1 z1; replace z2 := pcell b1 z2; replace bA := below_trans bA b1; clear b1)
    | (go_at_call 26; refine (dTurns_calls _ _ _ h).mono ?_; rintro r w9 ⟨rfl, b1⟩; replace f0 := pfroz b1 z0 f0; replace f1 := pfroz b1 z1 f1; replace f2 := pfroz b1 z2 f2; replace z0 := pcell b1 z0; replace z1 := pcell b1 z1; replace z2 := pcell b1 z2; replace bA := below_trans bA b1; clear b1)
    | (go_at_call 27; refine (dHalves_calls _ _ _ h).mono ?_; rintro r w9 ⟨rfl, b1⟩; replace f0 := pfroz b1 z0 f0; replace f1 := pfroz b1 z1 f1; replace f2 := pfroz b1 z2 f2; replace z0 := pcell b1 z0; replace z1 := pcell b1 z1; replace z2 := pcell b1 z2; replace bA := below_trans bA b1; clear b1)
    | (go_at_call 28; refine (dInverse_calls _ _ _ h).mono ?_; rintro r w9 ⟨rfl, b1⟩; replace f0 := pfroz b1 z0 f0; replace f1 := pfroz b1 z1 f1; replace f2 := pfroz b1 z2 f2; replace z0 := pcell b1 z0; replace z1 := pcell b1 z1; replace z2 := pcell b1 z2; replace bA := below_trans bA b1; clear b1)
    | (go_at_call 29; refine (dOthers_calls _ _ _ h).mono ?_; rintro r w9 ⟨rfl, b1⟩; replace f0 := pfroz b1 z0 f0; replace f1 := pfroz b1 z1 f1; replace f2 := pfroz b1 z2 f2; replace z0 := pcell b1 z0; replace z1 := pcell b1 z1; replace z2 := pcell b1 z2; replace bA := below_trans bA b1; clear b1)
    | (go_at_call 30; refine (dHypers_calls _ _ _ h).mono ?_; rintro r w9 ⟨rfl, b1⟩; replace f0 := pfroz b1 z0 f0; replace f1 := pfroz b1 z1 f1; replace f2 := pfroz b1 z2 f2; replace z0 := pcell b1 z0; replace z1 := pcell b1 z1; replace z2 := pcell b1 z2; replace bA := below_trans bA b1; clear b1))
  all_goals
    have hv := HR.out
    unfold dOne at hv
    simp_all
    refine bodyPost_ret ?_ rfl ⟨rfl, ?_⟩
    · simp [results, Tryz.results14, go_sem, z0, z1, z2]
      try (repeat rw [if_neg (by omega)])
      try exact ⟨rfl, rfl, rfl⟩
    · repeat (first | (with_reducible exact bA) | (with_reducible refine Below.setCell ?_ (by simp) _))

end Go.Proofs.YtkkccnpmcbpdnaaGreatDoor

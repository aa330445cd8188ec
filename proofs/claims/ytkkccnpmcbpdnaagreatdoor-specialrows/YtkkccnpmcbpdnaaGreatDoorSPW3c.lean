/- Package special: what lines answer: both amounts. -/
import Derived.Test.YtkkccnpmcbpdnaaGreatDoorSPW3
namespace Go.Proofs.YtkkccnpmcbpdnaaGreatDoor
open Go.RowKit

set_option maxRecDepth 100000 in
set_option maxHeartbeats 2000000 in
theorem aAmounts_calls (x y : Int) (w : World) (h : U x) (k : U y) :
    Calls Tryz.prog 101 #[.agg #[.int .u64 x, .int .u64 y]] w fun r w' => r = .returned (RO (orA x y, 0, 4)) ∧ Below w.heap.size w w' := by
  have bA : Below w.heap.size w ((w.alloc (.cells #[.int .u64 x, .int .u64 y] 40)).alloc (.cells #[.int .u64 0, .int .u8 0, .int .u8 0] 37)) := below_trans (below_alloc _ _) (below_alloc _ _)
  have k0 : ((w.alloc (.cells #[.int .u64 x, .int .u64 y] 40)).alloc (.cells #[.int .u64 0, .int .u8 0, .int .u8 0] 37)).cell? ⟨w.heap.size, 0, none⟩ = some (.int .u64 x) := by go_simp
  have k1 : ((w.alloc (.cells #[.int .u64 x, .int .u64 y] 40)).alloc (.cells #[.int .u64 0, .int .u8 0, .int .u8 0] 37)).cell? ⟨w.heap.size, 1, none⟩ = some (.int .u64 y) := by go_simp
  have z0 : ((w.alloc (.cells #[.int .u64 x, .int .u64 y] 40)).alloc (.cells #[.int .u64 0, .int .u8 0, .int .u8 0] 37)).cell? ⟨w.heap.size + 1, 0, none⟩ = some (.int .u64 0) := by go_simp
  have z1 : ((w.alloc (.cells #[.int .u64 x, .int .u64 y] 40)).alloc (.cells #[.int .u64 0, .int .u8 0, .int .u8 0] 37)).cell? ⟨w.heap.size + 1, 1, none⟩ = some (.int .u8 0) := by go_simp
  have z2 : ((w.alloc (.cells #[.int .u64 x, .int .u64 y] 40)).alloc (.cells #[.int .u64 0, .int .u8 0, .int .u8 0] 37)).cell? ⟨w.heap.size + 1, 2, none⟩ = some (.int .u8 0) := by go_simp
  have f0 : ((w.alloc (.cells #[.int .u64 x, .int .u64 y] 40)).alloc (.cells #[.int .u64 0, .int .u8 0, .int .u8 0] 37)).frozen? ⟨w.heap.size + 1, 0, none⟩ = false := by go_simp
  have f1 : ((w.alloc (.cells #[.int .u64 x, .int .u64 y] 40)).alloc (.cells #[.int .u64 0, .int .u8 0, .int .u8 0] 37)).frozen? ⟨w.heap.size + 1, 1, none⟩ = false := by go_simp
  have f2 : ((w.alloc (.cells #[.int .u64 x, .int .u64 y] 40)).alloc (.cells #[.int .u64 0, .int .u8 0, .int .u8 0] 37)).frozen? ⟨w.heap.size + 1, 2, none⟩ = false := by go_simp
  go_enter Tryz.func101, Tryz.ntmps101
  go_wp2_with fail
  generalize ((w.alloc (.cells #[.int .u64 x, .int .u64 y] 40)).alloc (.cells #[.int .u64 0, .int .u8 0, .int .u8 0] 37)) = w0 at *
  have bD : Below w0.heap.size w0 w0.drew := (Below.refl _ _).drew
  go_region_with (first
      | (go_at_call 77; refine (abs_calls _ _ h).mono ?_; rintro r w3 ⟨rfl, rfl⟩)
      | (go_at_call 77; refine (abs_calls _ _ k).mono ?_; rintro r w3 ⟨rfl, rfl⟩)
      | (go_at_call 80; refine (always_told _ _).mono ?_; rintro r w1 ⟨X, Y, Z, rfl, p0, p1, p2, b1⟩; have bI := below_trans bD b1; clear b1; have j0 := pcell bI k0; have j1 := pcell bI k1; have g0 := pfroz bI z0 f0; have g1 := pfroz bI z1 f1; have g2 := pfroz bI z2 f2; have y0 := pcell bI z0; have y1 := pcell bI z1; have y2 := pcell bI z2; have bB := below_trans bA bI; clear bI)
      | (go_at_call 123; refine (always_call _ _ _ _ _ _ _ _ _ p0 p1 p2).mono ?_; rintro r w2 ⟨rfl, b2⟩; replace g0 := pfroz b2 y0 g0; replace g1 := pfroz b2 y1 g1; replace g2 := pfroz b2 y2 g2; replace y0 := pcell b2 y0; replace y1 := pcell b2 y1; replace y2 := pcell b2 y2; replace bB := below_trans bB b2; clear b2))
  all_goals
    go_wp2_with fail
    refine bodyPost_ret (v := RO (orA x y, 0, 4)) (by simp [results, Tryz.results101, go_sem, y0, y1, y2, RO, orA]) rfl ⟨rfl, ?_⟩
    repeat (first | (with_reducible exact bB) | (with_reducible refine Below.setCell ?_ (by simp) _))

theorem orA_U (x y : Int) (_h : U x) (_k : U y) : U (orA x y) := by
  have h1 : 0 ≤ absV x ∧ absV x < 9223372036854775808 := by unfold absV; omega
  have h2 : 0 ≤ absV y ∧ absV y < 9223372036854775808 := by unfold absV; omega
  unfold orA
  rw [u64_or _ _ h1.1 (by omega) h2.1 (by omega)]
  have k1 : (absV x).toNat < 2 ^ 63 := by omega
  have k2 : (absV y).toNat < 2 ^ 63 := by omega
  have := Nat.or_lt_two_pow k1 k2
  unfold U
  omega
end Go.Proofs.YtkkccnpmcbpdnaaGreatDoor

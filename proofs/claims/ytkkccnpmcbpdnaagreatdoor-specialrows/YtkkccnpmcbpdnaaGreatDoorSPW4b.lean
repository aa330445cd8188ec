/- Package special: either of two arguments; growing. -/
import Derived.Test.YtkkccnpmcbpdnaaGreatDoorSPW4
namespace Go.Proofs.YtkkccnpmcbpdnaaGreatDoor
open Go.RowKit

set_option maxRecDepth 100000 in
set_option maxHeartbeats 4000000 in
theorem tEither_call (X F : Nat) (caps : Array Value) (t : Te) (x y : Int) (w : World) (h : U x) (k : U y) (hT : Tab w) (c0 : w.cell? ⟨X, 0, none⟩ = some (.func (.func F) #[] caps)) (hI : IsT w (.func (.func F) #[] caps) t) :
    Calls Tryz.prog 121 #[.agg #[.int .u64 x, .int .u64 y], .pointer (some ⟨X, 0, none⟩)] w fun r w' => r = .returned (.bool (tEither t x y)) ∧ Below w.heap.size w w' := by
  have bA := below_alloc w (.cells #[.int .u64 x, .int .u64 y] 40)
  have k0 : (w.alloc (.cells #[.int .u64 x, .int .u64 y] 40)).cell? ⟨w.heap.size, 0, none⟩ = some (.int .u64 x) := by go_simp
  have k1 : (w.alloc (.cells #[.int .u64 x, .int .u64 y] 40)).cell? ⟨w.heap.size, 1, none⟩ = some (.int .u64 y) := by go_simp
  have e0 := pcell bA c0
  have C : Hid _ := fun W b => (hI.body.2) W b
  have HI : Hid _ := fun W (b : Below w.heap.size w W) => hI.keep b
  have hB : ∀ (xs : Array Value) (w : World), Sem.run Tryz.prog (callFunc F xs) w = .ok (.enter F xs) w := hI.body.1
  have hX : X < w.heap.size := World.block_lt_of_cell? _ _ c0
  clear hI
  cases hs : t x y with
  | true =>
    have E : tEither t x y = true := by unfold tEither; rw [hs]; rfl
    rw [E]
    go_enter Tryz.func121, Tryz.ntmps121
    go_wp2_with fail
    generalize w.alloc (.cells #[.int .u64 x, .int .u64 y] 40) = w0 at *
    have bD : Below w0.heap.size w0 w0.drew := (Below.refl _ _).drew
    have bE := below_trans bA bD
    go_region_with (first
      | (refine Calls.mono (C.out _ bE (hT.kept bE) x y h k) ?_; rintro r w1 ⟨rfl, b1⟩; rw [hs]; have e1 := pcell (below_trans bD b1) e0; have j0 := pcell (below_trans bD b1) k0; have j1 := pcell (below_trans bD b1) k1; have bB := below_trans bE b1; clear b1))
    all_goals (trace "G"; trace_state)
    all_goals
      go_wp2_with fail
      go_ret
      exact ⟨rfl, bB⟩
  | false =>
    have E : tEither t x y = t y x := by unfold tEither; rw [hs]; rfl
    rw [E]
    go_enter Tryz.func121, Tryz.ntmps121
    go_wp2_with fail
    generalize w.alloc (.cells #[.int .u64 x, .int .u64 y] 40) = w0 at *
    have bD : Below w0.heap.size w0 w0.drew := (Below.refl _ _).drew
    have bE := below_trans bA bD
    go_region_with (first
      | (go_at_call 95; refine Calls.mono (ofY_made F caps t _ (HI.out _ bB)) ?_; rintro r w2 ⟨G2, q2, rfl, h2, b2⟩; have j2 := pcell b2 j0; have j3 := pcell b2 j1; have hG : ∀ (xs : Array Value) (w : World), Sem.run Tryz.prog (callFunc G2 xs) w = .ok (.enter G2 xs) w := h2.body.1; have D : Hid _ := h2.body.2 _ (Below.refl _ _) (hT.kept (below_trans bB b2)) x y h k; have bC := below_trans bB b2; clear b2)
      | (refine Calls.mono (C.out _ bE (hT.kept bE) x y h k) ?_; rintro r w1 ⟨rfl, b1⟩; rw [hs]; have e1 := pcell (below_trans bD b1) e0; have j0 := pcell (below_trans bD b1) k0; have j1 := pcell (below_trans bD b1) k1; have bB := below_trans bE b1; clear b1)
      | (refine Calls.mono D.out ?_; rintro r w3 ⟨rfl, b3⟩; have bF := below_trans bC b3; clear b3))
    all_goals (trace "G2"; trace_state)
    all_goals
      go_wp2_with fail
      go_ret
      exact ⟨rfl, bF⟩

set_option maxRecDepth 100000 in
set_option maxHeartbeats 2000000 in
theorem either_made (F : Nat) (caps : Array Value) (t : Te) (w : World) (ht : IsT w (.func (.func F) #[] caps) t) : Calls Tryz.prog 100 #[.func (.func F) #[] caps] w (MT w (tEither t)) := by
  have hmf : ∀ (fn : Fn) (first cap : Array Value) (w : World), (Instr.makeFunc fn first cap).run Tryz.prog w = .ok (.func fn first cap) w := fun _ _ _ _ => rfl
  go_enter Tryz.func100, Tryz.ntmps100
  go_wp2_with fail
  go_ret
  have c0 : (w.alloc (.cells #[.func (.func F) #[] caps] 56)).cell? ⟨w.heap.size, 0, none⟩ = some (.func (.func F) #[] caps) := by go_simp
  exact ⟨_, _, rfl, ⟨_, _, rfl, Tryz.call121, fun W b hT x y h k => tEither_call _ F caps t x y W h k hT (pcell b c0) ((ht.keep (below_alloc _ _)).keep b)⟩, below_alloc _ _⟩

set_option maxRecDepth 100000 in
set_option maxHeartbeats 4000000 in
theorem tGrow_calls (x y : Int) (w : World) (h : U x) (k : U y) (hT : Tab w) :
    Calls Tryz.prog 98 #[.agg #[.int .u64 x, .int .u64 y]] w fun r w' => r = .returned (.bool (tGrow x y)) ∧ Below w.heap.size w w' := by
  have bA := below_alloc w (.cells #[.int .u64 x, .int .u64 y] 40)
  have k0 : (w.alloc (.cells #[.int .u64 x, .int .u64 y] 40)).cell? ⟨w.heap.size, 0, none⟩ = some (.int .u64 x) := by go_simp
  have k1 : (w.alloc (.cells #[.int .u64 x, .int .u64 y] 40)).cell? ⟨w.heap.size, 1, none⟩ = some (.int .u64 y) := by go_simp
  go_enter Tryz.func98, Tryz.ntmps98
  go_wp2_with fail
  generalize w.alloc (.cells #[.int .u64 x, .int .u64 y] 40) = w0 at *
  have bD : Below w0.heap.size w0 w0.drew := (Below.refl _ _).drew
  have bE := below_trans bA bD
  go_region_with (first
      | (go_at_call 92; refine Calls.mono (tBeyond_calls x y _ h (hT.kept bE)) ?_; rintro r w1 ⟨rfl, b1⟩; have j0 := pcell (below_trans bD b1) k0; have j1 := pcell (below_trans bD b1) k1; have bB := below_trans bE b1; clear b1)
      | (go_at_call 95; refine Calls.mono (ofY_made _ _ tPlus _ (tPlus_is _)) ?_; rintro r w2 ⟨G2, q2, rfl, h2, b2⟩; have j2 := pcell b2 j0; have j3 := pcell b2 j1; have hG : ∀ (xs : Array Value) (w : World), Sem.run Tryz.prog (callFunc G2 xs) w = .ok (.enter G2 xs) w := h2.body.1; have D : Hid _ := h2.body.2 _ (Below.refl _ _) (hT.kept (below_trans bB b2)) x y h k; have bC := below_trans bB b2; clear b2)
      | (refine Calls.mono D.out ?_; rintro r w3 ⟨rfl, b3⟩; have bF := below_trans bC b3; clear b3))
  all_goals
    go_wp2_with fail
    go_ret
    exact ⟨rfl, bF⟩
theorem tGrow_is (w : World) : IsT w (.func (.func 98) #[] #[]) tGrow := ⟨_, _, rfl, Tryz.call98, fun W _ hT x y h k => tGrow_calls x y W h k hT⟩
end Go.Proofs.YtkkccnpmcbpdnaaGreatDoor

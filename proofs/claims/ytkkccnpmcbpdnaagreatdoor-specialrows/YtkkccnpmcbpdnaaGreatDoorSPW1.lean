/- Package special: tests of arguments, as functions that are handed on. -/
import Derived.Test.YtkkccnpmcbpdnaaGreatDoorBWalks2
import Derived.Test.YtkkccnpmcbpdnaaGreatDoorSP0
import Derived.Laws.EntriesVeiled
namespace Go.Proofs.YtkkccnpmcbpdnaaGreatDoor
open Go.RowKit

def Body (F : Nat) : Prop := ∀ (xs : Array Value) (w : World), Sem.run Tryz.prog (callFunc F xs) w = .ok (.enter F xs) w
def AG (x y : Int) : Value := .agg #[.int .u64 x, .int .u64 y]
/-- a test of arguments, as a value that can be called in w and in all worlds that keep w -/
def CT (F : Nat) (caps : Array Value) (w : World) (t : Te) : Prop :=
  ∀ W, Below w.heap.size w W → Tab W → ∀ x y, U x → U y → Calls Tryz.prog F (#[.agg #[.int .u64 x, .int .u64 y]] ++ caps) W fun r w' => r = .returned (.bool (t x y)) ∧ Below W.heap.size W w'
def IsT (w : World) (v : Value) (t : Te) : Prop := ∃ F caps, v = .func (.func F) #[] caps ∧ Body F ∧ CT F caps w t
theorem IsT.keep {w w' : World} {v : Value} {t : Te} (h : IsT w v t) (b : Below w.heap.size w w') : IsT w' v t := by
  obtain ⟨F, caps, e, hb, hc⟩ := h
  exact ⟨F, caps, e, hb, fun W k => hc W (below_trans b k)⟩

def RO (r : Ro) : Value := .agg #[.int .u64 r.1, .int .u8 r.2.1, .int .u8 r.2.2]
def CA (F : Nat) (caps : Array Value) (w : World) (a : An) : Prop :=
  ∀ W, Below w.heap.size w W → Tab W → ∀ x y, U x → U y → Calls Tryz.prog F (#[.agg #[.int .u64 x, .int .u64 y]] ++ caps) W fun r w' => r = .returned (RO (a x y)) ∧ Below W.heap.size W w'
def UA (a : An) : Prop := ∀ x y, U x → U y → U (a x y).1
def IsA (w : World) (v : Value) (a : An) : Prop := ∃ F caps, v = .func (.func F) #[] caps ∧ Body F ∧ CA F caps w a ∧ UA a
theorem IsA.keep {w w' : World} {v : Value} {a : An} (h : IsA w v a) (b : Below w.heap.size w w') : IsA w' v a := by
  obtain ⟨F, caps, e, hb, hc, hu⟩ := h
  exact ⟨F, caps, e, hb, fun W k => hc W (below_trans b k), hu⟩

theorem field_neg (w : World) (a b c : Value) : Sem.run Tryz.prog (Instr.field 94 (.agg #[a, b, c]) 0) w = .ok a w := by kernel_rfl
theorem U_one : U 4607182418800017408 := ⟨by decide, by decide⟩
theorem U_abs (x : Int) (_h : U x) : U (absV x) := by unfold U absV at *; omega
theorem U_neg (x : Int) (_h : U x) : U (negV x) := by unfold U negV at *; omega
theorem pcell {w w' : World} {b o : Nat} {v : Value} (hb : Below w.heap.size w w') (h : w.cell? ⟨b, o, none⟩ = some v) : w'.cell? ⟨b, o, none⟩ = some v := by
  rw [(bcell hb).1 b o (World.block_lt_of_cell? _ _ h)]; exact h
theorem pfroz {w w' : World} {b o : Nat} {v : Value} (hb : Below w.heap.size w w') (h : w.cell? ⟨b, o, none⟩ = some v) (k : w.frozen? ⟨b, o, none⟩ = false) : w'.frozen? ⟨b, o, none⟩ = false := by
  rw [(bcell hb).2 b o (World.block_lt_of_cell? _ _ h)]; exact k

set_option maxRecDepth 100000 in
set_option maxHeartbeats 2000000 in
theorem tZero_calls (x y : Int) (w : World) (h : U x) (_hT : Tab w) :
    Calls Tryz.prog 79 #[.agg #[.int .u64 x, .int .u64 y]] w fun r w' => r = .returned (.bool (tZero x y)) ∧ Below w.heap.size w w' := by
  have bb := below_alloc w (.cells #[.int .u64 x, .int .u64 y] 40)
  go_enter Tryz.func79, Tryz.ntmps79
  go_wp2_with fail
  refine Calls.mono (class_calls _ _ h) ?_
  rintro r w0 ⟨rfl, b0⟩
  replace bb := below_trans bb b0
  clear b0
  go_wp2_with fail
  go_ret
  exact ⟨rfl, bb⟩

set_option maxRecDepth 100000 in
set_option maxHeartbeats 2000000 in
theorem tInf_calls (x y : Int) (w : World) (h : U x) (_hT : Tab w) :
    Calls Tryz.prog 86 #[.agg #[.int .u64 x, .int .u64 y]] w fun r w' => r = .returned (.bool (tInf x y)) ∧ Below w.heap.size w w' := by
  have bb := below_alloc w (.cells #[.int .u64 x, .int .u64 y] 40)
  go_enter Tryz.func86, Tryz.ntmps86
  go_wp2_with fail
  refine Calls.mono (class_calls _ _ h) ?_
  rintro r w0 ⟨rfl, b0⟩
  replace bb := below_trans bb b0
  clear b0
  go_wp2_with fail
  go_ret
  exact ⟨rfl, bb⟩

set_option maxRecDepth 100000 in
set_option maxHeartbeats 2000000 in
theorem tQuiet_calls (x y : Int) (w : World) (h : U x) (_hT : Tab w) :
    Calls Tryz.prog 148 #[.agg #[.int .u64 x, .int .u64 y]] w fun r w' => r = .returned (.bool (tQuiet x y)) ∧ Below w.heap.size w w' := by
  have bb := below_alloc w (.cells #[.int .u64 x, .int .u64 y] 40)
  go_enter Tryz.func148, Tryz.ntmps148
  go_wp2_with fail
  refine Calls.mono (class_calls _ _ h) ?_
  rintro r w0 ⟨rfl, b0⟩
  replace bb := below_trans bb b0
  clear b0
  go_wp2_with fail
  go_ret
  exact ⟨rfl, bb⟩

set_option maxRecDepth 100000 in
set_option maxHeartbeats 2000000 in
theorem tSignal_calls (x y : Int) (w : World) (h : U x) (_hT : Tab w) :
    Calls Tryz.prog 146 #[.agg #[.int .u64 x, .int .u64 y]] w fun r w' => r = .returned (.bool (tSignal x y)) ∧ Below w.heap.size w w' := by
  have bb := below_alloc w (.cells #[.int .u64 x, .int .u64 y] 40)
  go_enter Tryz.func146, Tryz.ntmps146
  go_wp2_with fail
  refine Calls.mono (class_calls _ _ h) ?_
  rintro r w0 ⟨rfl, b0⟩
  replace bb := below_trans bb b0
  clear b0
  go_wp2_with fail
  go_ret
  exact ⟨rfl, bb⟩

set_option maxRecDepth 100000 in
set_option maxHeartbeats 2000000 in
theorem tMinus_calls (x y : Int) (w : World) (h : U x) (_hT : Tab w) :
    Calls Tryz.prog 112 #[.agg #[.int .u64 x, .int .u64 y]] w fun r w' => r = .returned (.bool (tMinus x y)) ∧ Below w.heap.size w w' := by
  have bb := below_alloc w (.cells #[.int .u64 x, .int .u64 y] 40)
  have hf := field_neg
  go_enter Tryz.func112, Tryz.ntmps112
  go_wp2_with fail
  refine Calls.mono (split_calls _ _ h) ?_
  rintro r w0 ⟨rfl, b0⟩
  replace bb := below_trans bb b0
  clear b0
  go_wp2_with fail
  go_ret
  exact ⟨rfl, bb⟩

set_option maxRecDepth 100000 in
set_option maxHeartbeats 2000000 in
theorem tPlus_calls (x y : Int) (w : World) (h : U x) (hT : Tab w) :
    Calls Tryz.prog 117 #[.agg #[.int .u64 x, .int .u64 y]] w fun r w' => r = .returned (.bool (tPlus x y)) ∧ Below w.heap.size w w' := by
  have bb := below_alloc w (.cells #[.int .u64 x, .int .u64 y] 40)
  go_enter Tryz.func117, Tryz.ntmps117
  go_wp2_with fail
  refine Calls.mono (tMinus_calls x y _ h (hT.kept bb)) ?_
  rintro r w0 ⟨rfl, b0⟩
  replace bb := below_trans bb b0
  clear b0
  go_wp2_with fail
  go_ret
  exact ⟨rfl, bb⟩

set_option maxRecDepth 100000 in
set_option maxHeartbeats 2000000 in
theorem tWhole_calls (x y : Int) (w : World) (h : U x) (hT : Tab w) :
    Calls Tryz.prog 87 #[.agg #[.int .u64 x, .int .u64 y]] w fun r w' => r = .returned (.bool (tWhole x y)) ∧ Below w.heap.size w w' := by
  have bb := below_alloc w (.cells #[.int .u64 x, .int .u64 y] 40)
  go_enter Tryz.func87, Tryz.ntmps87
  go_wp2_with fail
  refine Calls.mono (whole_calls _ _ h (hT.kept bb)) ?_
  rintro r w0 ⟨rfl, b0⟩
  replace bb := below_trans bb b0
  clear b0
  go_wp2_with fail
  go_ret
  exact ⟨rfl, bb⟩

set_option maxRecDepth 100000 in
set_option maxHeartbeats 2000000 in
theorem tBroken_calls (x y : Int) (w : World) (h : U x) (hT : Tab w) :
    Calls Tryz.prog 99 #[.agg #[.int .u64 x, .int .u64 y]] w fun r w' => r = .returned (.bool (tBroken x y)) ∧ Below w.heap.size w w' := by
  have bb := below_alloc w (.cells #[.int .u64 x, .int .u64 y] 40)
  go_enter Tryz.func99, Tryz.ntmps99
  go_wp2_with fail
  refine Calls.mono (tWhole_calls x y _ h (hT.kept bb)) ?_
  rintro r w0 ⟨rfl, b0⟩
  replace bb := below_trans bb b0
  clear b0
  go_wp2_with fail
  go_ret
  exact ⟨rfl, bb⟩

set_option maxRecDepth 100000 in
set_option maxHeartbeats 2000000 in
theorem tOdd_calls (x y : Int) (w : World) (h : U x) (hT : Tab w) :
    Calls Tryz.prog 120 #[.agg #[.int .u64 x, .int .u64 y]] w fun r w' => r = .returned (.bool (tOdd x y)) ∧ Below w.heap.size w w' := by
  have bb := below_alloc w (.cells #[.int .u64 x, .int .u64 y] 40)
  go_enter Tryz.func120, Tryz.ntmps120
  go_wp2_with fail
  refine Calls.mono (odd_calls _ _ h (hT.kept bb)) ?_
  rintro r w0 ⟨rfl, b0⟩
  replace bb := below_trans bb b0
  clear b0
  go_wp2_with fail
  go_ret
  exact ⟨rfl, bb⟩

set_option maxRecDepth 100000 in
set_option maxHeartbeats 2000000 in
theorem tBeyond_calls (x y : Int) (w : World) (h : U x) (_hT : Tab w) :
    Calls Tryz.prog 92 #[.agg #[.int .u64 x, .int .u64 y]] w fun r w' => r = .returned (.bool (tBeyond x y)) ∧ Below w.heap.size w w' := by
  have bb := below_alloc w (.cells #[.int .u64 x, .int .u64 y] 40)
  go_enter Tryz.func92, Tryz.ntmps92
  go_wp2_with fail
  refine Calls.mono (abs_calls _ _ h) ?_
  rintro r w0 ⟨rfl, rfl⟩
  go_wp2_with fail
  refine Calls.mono (less_calls _ _ _ U_one (U_abs x h)) ?_
  rintro r w1 ⟨rfl, rfl⟩
  go_wp2_with fail
  go_ret
  exact ⟨rfl, bb⟩

set_option maxRecDepth 100000 in
set_option maxHeartbeats 2000000 in
theorem tIs_call (X : Nat) (c : Int) (x y : Int) (w : World) (_h : U x) (_k : U y) (_hT : Tab w) (hX : X < w.heap.size) (c0 : w.cell? ⟨X, 0, none⟩ = some (.int .u64 c)) :
    Calls Tryz.prog 108 #[.agg #[.int .u64 x, .int .u64 y], .pointer (some ⟨X, 0, none⟩)] w fun r w' => r = .returned (.bool (tIs c x y)) ∧ Below w.heap.size w w' := by
  have bb := below_alloc w (.cells #[.int .u64 x, .int .u64 y] 40)
  go_enter Tryz.func108, Tryz.ntmps108
  go_wp2_with fail
  go_ret
  exact ⟨rfl, bb⟩

set_option maxRecDepth 100000 in
set_option maxHeartbeats 2000000 in
theorem tBelow_call (X : Nat) (c : Int) (x y : Int) (w : World) (h : U x) (_k : U y) (_hT : Tab w) (hc : U c) (hX : X < w.heap.size) (c0 : w.cell? ⟨X, 0, none⟩ = some (.int .u64 c)) :
    Calls Tryz.prog 109 #[.agg #[.int .u64 x, .int .u64 y], .pointer (some ⟨X, 0, none⟩)] w fun r w' => r = .returned (.bool (tBelow c x y)) ∧ Below w.heap.size w w' := by
  have bb := below_alloc w (.cells #[.int .u64 x, .int .u64 y] 40)
  go_enter Tryz.func109, Tryz.ntmps109
  go_wp2_with fail
  refine Calls.mono (less_calls _ _ _ h hc) ?_
  rintro r w0 ⟨rfl, rfl⟩
  go_wp2_with fail
  go_ret
  exact ⟨rfl, bb⟩

set_option maxRecDepth 100000 in
set_option maxHeartbeats 2000000 in
theorem tOfY_call (X F : Nat) (caps : Array Value) (t : Te) (x y : Int) (w : World) (h : U x) (k : U y) (hT : Tab w) (hX : X < w.heap.size) (c0 : w.cell? ⟨X, 0, none⟩ = some (.func (.func F) #[] caps)) (hB : Body F) (hC : CT F caps w t) :
    Calls Tryz.prog 118 #[.agg #[.int .u64 x, .int .u64 y], .pointer (some ⟨X, 0, none⟩)] w fun r w' => r = .returned (.bool (tOfY t x y)) ∧ Below w.heap.size w w' := by
  have bb := below_alloc w (.cells #[.int .u64 x, .int .u64 y] 40)
  have C : Hid _ := hC _ bb (hT.kept bb) y x k h
  have hB' : ∀ (xs : Array Value) (w : World), Sem.run Tryz.prog (callFunc F xs) w = .ok (.enter F xs) w := hB
  clear hC hB
  go_enter Tryz.func118, Tryz.ntmps118
  go_wp2_with fail
  refine Calls.mono (C.out) ?_
  rintro r w0 ⟨rfl, b0⟩
  replace bb := below_trans bb b0
  clear b0
  go_wp2_with fail
  go_ret
  exact ⟨rfl, bb⟩

set_option maxRecDepth 100000 in
set_option maxHeartbeats 2000000 in
theorem tBoth_call (X F Y G : Nat) (caps capt : Array Value) (s t : Te) (x y : Int) (w : World) (h : U x) (k : U y) (hT : Tab w) (hX : X < w.heap.size) (c0 : w.cell? ⟨X, 0, none⟩ = some (.func (.func F) #[] caps)) (hB : Body F) (hC : CT F caps w s) (_hY : Y < w.heap.size) (d0 : w.cell? ⟨Y, 0, none⟩ = some (.func (.func G) #[] capt)) (hG : Body G) (hD : CT G capt w t) :
    Calls Tryz.prog 119 #[.agg #[.int .u64 x, .int .u64 y], .pointer (some ⟨X, 0, none⟩), .pointer (some ⟨Y, 0, none⟩)] w fun r w' => r = .returned (.bool (tBoth s t x y)) ∧ Below w.heap.size w w' := by
  have bb := below_alloc w (.cells #[.int .u64 x, .int .u64 y] 40)
  have k0 : (w.alloc (.cells #[.int .u64 x, .int .u64 y] 40)).cell? ⟨w.heap.size, 0, none⟩ = some (.int .u64 x) := by go_simp
  have k1 : (w.alloc (.cells #[.int .u64 x, .int .u64 y] 40)).cell? ⟨w.heap.size, 1, none⟩ = some (.int .u64 y) := by go_simp
  have e0 := pcell bb d0
  have C : Hid _ := hC _ bb (hT.kept bb) x y h k
  have D : Hid _ := fun W b => hD W b
  have hB' : ∀ (xs : Array Value) (w : World), Sem.run Tryz.prog (callFunc F xs) w = .ok (.enter F xs) w := hB
  have hG' : ∀ (xs : Array Value) (w : World), Sem.run Tryz.prog (callFunc G xs) w = .ok (.enter G xs) w := hG
  clear hC hB hD hG
  cases hs : s x y with
  | false =>
    rw [hs] at C
    have E : tBoth s t x y = false := by unfold tBoth; rw [hs]; rfl
    rw [E]
    go_enter Tryz.func119, Tryz.ntmps119
    go_wp2_with fail
    refine Calls.mono C.out ?_
    rintro r w1 ⟨rfl, b1⟩
    replace bb := below_trans bb b1
    clear b1
    go_wp2_with fail
    go_ret
    exact ⟨rfl, bb⟩
  | true =>
    rw [hs] at C
    have E : tBoth s t x y = t x y := by unfold tBoth; rw [hs]; rfl
    rw [E]
    go_enter Tryz.func119, Tryz.ntmps119
    go_wp2_with fail
    refine Calls.mono C.out ?_
    rintro r w1 ⟨rfl, b1⟩
    replace e0 := pcell b1 e0
    replace k0 := pcell b1 k0
    replace k1 := pcell b1 k1
    replace bb := below_trans bb b1
    clear b1
    go_wp2_with fail
    refine Calls.mono (D.out _ bb (hT.kept bb) x y h k) ?_
    rintro r w2 ⟨rfl, b1⟩
    replace bb := below_trans bb b1
    clear b1
    go_wp2_with fail
    go_ret
    exact ⟨rfl, bb⟩

end Go.Proofs.YtkkccnpmcbpdnaaGreatDoor

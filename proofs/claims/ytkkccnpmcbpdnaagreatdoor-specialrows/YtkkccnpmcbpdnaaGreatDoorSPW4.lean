/- Package special: tests and answers that are made: by words, of y, of either, of both, turned. -/
import Derived.Test.YtkkccnpmcbpdnaaGreatDoorSPW2
import Derived.Test.YtkkccnpmcbpdnaaGreatDoorSPW3
namespace Go.Proofs.YtkkccnpmcbpdnaaGreatDoor
open Go.RowKit

/-- a test that a call has made, or answers -/
abbrev MT (w : World) (t : Te) (r : Ending) (w' : World) : Prop := ∃ F caps, r = .returned (.func (.func F) #[] caps) ∧ IsT w' (.func (.func F) #[] caps) t ∧ Below w.heap.size w w'
abbrev MA (w : World) (a : An) (r : Ending) (w' : World) : Prop := ∃ F caps, r = .returned (.func (.func F) #[] caps) ∧ IsA w' (.func (.func F) #[] caps) a ∧ Below w.heap.size w w'
theorem IsT.body {w : World} {F : Nat} {caps : Array Value} {t : Te} (h : IsT w (.func (.func F) #[] caps) t) : Body F ∧ CT F caps w t := by
  obtain ⟨G, capt, e, hb, hc⟩ := h
  injection e with e1 e2 e3
  injection e1 with e1
  subst e1 e3
  exact ⟨hb, hc⟩
theorem IsA.body {w : World} {F : Nat} {caps : Array Value} {a : An} (h : IsA w (.func (.func F) #[] caps) a) : Body F ∧ CA F caps w a ∧ UA a := by
  obtain ⟨G, capt, e, hb, hc⟩ := h
  injection e with e1 e2 e3
  injection e1 with e1
  subst e1 e3
  exact ⟨hb, hc⟩

theorem U_nan : U 9221120237041090560 := ⟨by decide, by decide⟩
theorem tZero_is (w : World) : IsT w (.func (.func 79) #[] #[]) tZero := ⟨_, _, rfl, Tryz.call79, fun W _ hT x y h _ => tZero_calls x y W h hT⟩
theorem tInf_is (w : World) : IsT w (.func (.func 86) #[] #[]) tInf := ⟨_, _, rfl, Tryz.call86, fun W _ hT x y h _ => tInf_calls x y W h hT⟩
theorem tQuiet_is (w : World) : IsT w (.func (.func 148) #[] #[]) tQuiet := ⟨_, _, rfl, Tryz.call148, fun W _ hT x y h _ => tQuiet_calls x y W h hT⟩
theorem tSignal_is (w : World) : IsT w (.func (.func 146) #[] #[]) tSignal := ⟨_, _, rfl, Tryz.call146, fun W _ hT x y h _ => tSignal_calls x y W h hT⟩
theorem tMinus_is (w : World) : IsT w (.func (.func 112) #[] #[]) tMinus := ⟨_, _, rfl, Tryz.call112, fun W _ hT x y h _ => tMinus_calls x y W h hT⟩
theorem tPlus_is (w : World) : IsT w (.func (.func 117) #[] #[]) tPlus := ⟨_, _, rfl, Tryz.call117, fun W _ hT x y h _ => tPlus_calls x y W h hT⟩
theorem tWhole_is (w : World) : IsT w (.func (.func 87) #[] #[]) tWhole := ⟨_, _, rfl, Tryz.call87, fun W _ hT x y h _ => tWhole_calls x y W h hT⟩
theorem tBroken_is (w : World) : IsT w (.func (.func 99) #[] #[]) tBroken := ⟨_, _, rfl, Tryz.call99, fun W _ hT x y h _ => tBroken_calls x y W h hT⟩
theorem tOdd_is (w : World) : IsT w (.func (.func 120) #[] #[]) tOdd := ⟨_, _, rfl, Tryz.call120, fun W _ hT x y h _ => tOdd_calls x y W h hT⟩
theorem tBeyond_is (w : World) : IsT w (.func (.func 92) #[] #[]) tBeyond := ⟨_, _, rfl, Tryz.call92, fun W _ hT x y h _ => tBeyond_calls x y W h hT⟩
theorem tHalf_is (w : World) : IsT w (.func (.func 89) #[] #[]) tHalf := ⟨_, _, rfl, Tryz.call89, fun W _ hT x y h _ => tHalf_calls x y W h hT⟩
theorem tOddPart_is (w : World) : IsT w (.func (.func 91) #[] #[]) tOddPart := ⟨_, _, rfl, Tryz.call91, fun W _ hT x y h _ => tOddPart_calls x y W h hT⟩
theorem aInvalid_is (w : World) : IsA w (.func (.func 147) #[] #[]) aInvalid := ⟨_, _, rfl, Tryz.call147, fun W _ _ x y _ _ => aInvalid_calls x y W, fun _ _ _ _ => U_nan⟩
theorem aNoNumber_is (w : World) : IsA w (.func (.func 149) #[] #[]) aNoNumber := ⟨_, _, rfl, Tryz.call149, fun W _ _ x y _ _ => aNoNumber_calls x y W, fun _ _ _ _ => U_nan⟩
theorem aOutside_is (w : World) : IsA w (.func (.func 85) #[] #[]) aOutside := ⟨_, _, rfl, Tryz.call85, fun W _ _ x y _ _ => aOutside_calls x y W, fun _ _ _ _ => U_nan⟩

set_option maxRecDepth 100000 in
set_option maxHeartbeats 2000000 in
theorem is_made (c : Int) (w : World) : Calls Tryz.prog 81 #[.int .u64 c] w (MT w (tIs c)) := by
  have hmf : ∀ (fn : Fn) (first cap : Array Value) (w : World), (Instr.makeFunc fn first cap).run Tryz.prog w = .ok (.func fn first cap) w := fun _ _ _ _ => rfl
  go_enter Tryz.func81, Tryz.ntmps81
  go_wp2_with fail
  go_ret
  have c0 : (w.alloc (.cells #[.int .u64 c] 23)).cell? ⟨w.heap.size, 0, none⟩ = some (.int .u64 c) := by go_simp
  exact ⟨_, _, rfl, ⟨_, _, rfl, Tryz.call108, fun W b hT x y h k => tIs_call _ c x y W h k hT (World.block_lt_of_cell? _ _ (pcell b c0)) (pcell b c0)⟩, below_alloc _ _⟩

set_option maxRecDepth 100000 in
set_option maxHeartbeats 2000000 in
theorem below_made (c : Int) (w : World) (hc : U c) : Calls Tryz.prog 84 #[.int .u64 c] w (MT w (tBelow c)) := by
  have hmf : ∀ (fn : Fn) (first cap : Array Value) (w : World), (Instr.makeFunc fn first cap).run Tryz.prog w = .ok (.func fn first cap) w := fun _ _ _ _ => rfl
  go_enter Tryz.func84, Tryz.ntmps84
  go_wp2_with fail
  go_ret
  have c0 : (w.alloc (.cells #[.int .u64 c] 23)).cell? ⟨w.heap.size, 0, none⟩ = some (.int .u64 c) := by go_simp
  exact ⟨_, _, rfl, ⟨_, _, rfl, Tryz.call109, fun W b hT x y h k => tBelow_call _ c x y W h k hT hc (World.block_lt_of_cell? _ _ (pcell b c0)) (pcell b c0)⟩, below_alloc _ _⟩

set_option maxRecDepth 100000 in
set_option maxHeartbeats 2000000 in
theorem ofY_made (F : Nat) (caps : Array Value) (t : Te) (w : World) (ht : IsT w (.func (.func F) #[] caps) t) : Calls Tryz.prog 95 #[.func (.func F) #[] caps] w (MT w (tOfY t)) := by
  have hmf : ∀ (fn : Fn) (first cap : Array Value) (w : World), (Instr.makeFunc fn first cap).run Tryz.prog w = .ok (.func fn first cap) w := fun _ _ _ _ => rfl
  go_enter Tryz.func95, Tryz.ntmps95
  go_wp2_with fail
  go_ret
  have c0 : (w.alloc (.cells #[.func (.func F) #[] caps] 56)).cell? ⟨w.heap.size, 0, none⟩ = some (.func (.func F) #[] caps) := by go_simp
  exact ⟨_, _, rfl, ⟨_, _, rfl, Tryz.call118, fun W b hT x y h k => tOfY_call _ F caps t x y W h k hT (World.block_lt_of_cell? _ _ (pcell b c0)) (pcell b c0) ht.body.1 ((ht.keep (below_alloc _ _)).keep b).body.2⟩, below_alloc _ _⟩

set_option maxRecDepth 100000 in
set_option maxHeartbeats 2000000 in
theorem both_made (F G : Nat) (caps capt : Array Value) (s t : Te) (w : World) (hs : IsT w (.func (.func F) #[] caps) s) (ht : IsT w (.func (.func G) #[] capt) t) : Calls Tryz.prog 96 #[.func (.func F) #[] caps, .func (.func G) #[] capt] w (MT w (tBoth s t)) := by
  have hmf : ∀ (fn : Fn) (first cap : Array Value) (w : World), (Instr.makeFunc fn first cap).run Tryz.prog w = .ok (.func fn first cap) w := fun _ _ _ _ => rfl
  go_enter Tryz.func96, Tryz.ntmps96
  go_wp2_with fail
  go_ret
  have bb : Below w.heap.size w ((w.alloc (.cells #[.func (.func F) #[] caps] 56)).alloc (.cells #[.func (.func G) #[] capt] 56)) := below_trans (below_alloc _ _) (below_alloc _ _)
  have c0 : ((w.alloc (.cells #[.func (.func F) #[] caps] 56)).alloc (.cells #[.func (.func G) #[] capt] 56)).cell? ⟨w.heap.size, 0, none⟩ = some (.func (.func F) #[] caps) := by go_simp
  have d0 : ((w.alloc (.cells #[.func (.func F) #[] caps] 56)).alloc (.cells #[.func (.func G) #[] capt] 56)).cell? ⟨w.heap.size + 1, 0, none⟩ = some (.func (.func G) #[] capt) := by go_simp
  exact ⟨_, _, rfl, ⟨_, _, rfl, Tryz.call119, fun W b hT x y h k => tBoth_call _ F _ G caps capt s t x y W h k hT (World.block_lt_of_cell? _ _ (pcell b c0)) (pcell b c0) hs.body.1 ((hs.keep bb).keep b).body.2 (World.block_lt_of_cell? _ _ (pcell b d0)) (pcell b d0) ht.body.1 ((ht.keep bb).keep b).body.2⟩, bb⟩

theorem always_isA (X Y Z : Nat) (b f k : Int) (w : World) (c0 : w.cell? ⟨X, 0, none⟩ = some (.int .u64 b)) (c1 : w.cell? ⟨Y, 0, none⟩ = some (.int .u8 f)) (c2 : w.cell? ⟨Z, 0, none⟩ = some (.int .u8 k)) (hb : U b) :
    IsA w (.func (.func 123) #[] #[.pointer (some ⟨X, 0, none⟩), .pointer (some ⟨Y, 0, none⟩), .pointer (some ⟨Z, 0, none⟩)]) (aAlways b f k) :=
  ⟨_, _, rfl, Tryz.call123, fun W bb _ x y _ _ => always_call X Y Z b f k x y W (pcell bb c0) (pcell bb c1) (pcell bb c2), fun _ _ _ _ => hb⟩
theorem told_made (b : Int) (w : World) (hb : U b) : Calls Tryz.prog 80 #[.int .u64 b] w (MA w (aTold b)) := by
  refine (always_told b w).mono ?_
  rintro r w1 ⟨X, Y, Z, rfl, p0, p1, p2, b1⟩
  exact ⟨_, _, rfl, always_isA X Y Z b 0 4 w1 p0 p1 p2 hb, b1⟩

set_option maxRecDepth 100000 in
set_option maxHeartbeats 2000000 in
theorem limit_made (b : Int) (w : World) (hb : U b) : Calls Tryz.prog 93 #[.int .u64 b] w (MA w (aLimit b)) := by
  go_enter Tryz.func93, Tryz.ntmps93
  go_wp2_with fail
  refine (always_made _ _ _ _).mono ?_
  rintro r w1 ⟨X, Y, Z, rfl, p0, p1, p2, b1⟩
  go_wp2_with fail
  go_ret
  exact ⟨_, _, rfl, always_isA X Y Z b 16 5 w1 p0 p1 p2 hb, b1⟩

set_option maxRecDepth 100000 in
set_option maxHeartbeats 2000000 in
theorem pole_made (b : Int) (w : World) (hb : U b) : Calls Tryz.prog 83 #[.int .u64 b] w (MA w (aPole b)) := by
  go_enter Tryz.func83, Tryz.ntmps83
  go_wp2_with fail
  refine (always_made _ _ _ _).mono ?_
  rintro r w1 ⟨X, Y, Z, rfl, p0, p1, p2, b1⟩
  go_wp2_with fail
  go_ret
  exact ⟨_, _, rfl, always_isA X Y Z b 2 3 w1 p0 p1 p2 hb, b1⟩

set_option maxRecDepth 100000 in
set_option maxHeartbeats 2000000 in
theorem turned_call (X F Y G : Nat) (caps capt : Array Value) (a : An) (t : Te) (x y : Int) (w : World) (h : U x) (k : U y) (hT : Tab w) (c0 : w.cell? ⟨X, 0, none⟩ = some (.func (.func F) #[] caps)) (hB : Body F) (hC : CA F caps w a) (d0 : w.cell? ⟨Y, 0, none⟩ = some (.func (.func G) #[] capt)) (hG : Body G) (hD : CT G capt w t) (hU : U (a x y).1) :
    Calls Tryz.prog 115 #[.agg #[.int .u64 x, .int .u64 y], .pointer (some ⟨X, 0, none⟩), .pointer (some ⟨Y, 0, none⟩)] w fun r w' => r = .returned (RO (aTurned t a x y)) ∧ Below w.heap.size w w' := by
  have bb : Below w.heap.size w ((w.alloc (.cells #[.int .u64 x, .int .u64 y] 40)).alloc (.cells #[.int .u64 0, .int .u8 0, .int .u8 0] 37)) := below_trans (below_alloc _ _) (below_alloc _ _)
  have k0 : ((w.alloc (.cells #[.int .u64 x, .int .u64 y] 40)).alloc (.cells #[.int .u64 0, .int .u8 0, .int .u8 0] 37)).cell? ⟨w.heap.size, 0, none⟩ = some (.int .u64 x) := by go_simp
  have k1 : ((w.alloc (.cells #[.int .u64 x, .int .u64 y] 40)).alloc (.cells #[.int .u64 0, .int .u8 0, .int .u8 0] 37)).cell? ⟨w.heap.size, 1, none⟩ = some (.int .u64 y) := by go_simp
  have z0 : ((w.alloc (.cells #[.int .u64 x, .int .u64 y] 40)).alloc (.cells #[.int .u64 0, .int .u8 0, .int .u8 0] 37)).cell? ⟨w.heap.size + 1, 0, none⟩ = some (.int .u64 0) := by go_simp
  have z1 : ((w.alloc (.cells #[.int .u64 x, .int .u64 y] 40)).alloc (.cells #[.int .u64 0, .int .u8 0, .int .u8 0] 37)).cell? ⟨w.heap.size + 1, 1, none⟩ = some (.int .u8 0) := by go_simp
  have z2 : ((w.alloc (.cells #[.int .u64 x, .int .u64 y] 40)).alloc (.cells #[.int .u64 0, .int .u8 0, .int .u8 0] 37)).cell? ⟨w.heap.size + 1, 2, none⟩ = some (.int .u8 0) := by go_simp
  have f0 : ((w.alloc (.cells #[.int .u64 x, .int .u64 y] 40)).alloc (.cells #[.int .u64 0, .int .u8 0, .int .u8 0] 37)).frozen? ⟨w.heap.size + 1, 0, none⟩ = false := by go_simp
  have f1 : ((w.alloc (.cells #[.int .u64 x, .int .u64 y] 40)).alloc (.cells #[.int .u64 0, .int .u8 0, .int .u8 0] 37)).frozen? ⟨w.heap.size + 1, 1, none⟩ = false := by go_simp
  have f2 : ((w.alloc (.cells #[.int .u64 x, .int .u64 y] 40)).alloc (.cells #[.int .u64 0, .int .u8 0, .int .u8 0] 37)).frozen? ⟨w.heap.size + 1, 2, none⟩ = false := by go_simp
  replace c0 := pcell bb c0
  replace d0 := pcell bb d0
  have C : Hid _ := hC _ bb (hT.kept bb) x y h k
  have D : Hid _ := fun W b => hD W b
  have hB' : ∀ (xs : Array Value) (w : World), Sem.run Tryz.prog (callFunc F xs) w = .ok (.enter F xs) w := hB
  have hG' : ∀ (xs : Array Value) (w : World), Sem.run Tryz.prog (callFunc G xs) w = .ok (.enter G xs) w := hG
  have E : Hid (aTurned t a x y = turnR (t x y) (a x y)) := rfl
  unfold RO at C
  clear hC hB hD hG
  generalize a x y = R at *
  obtain ⟨R1, R2, R3⟩ := R
  simp only at C hU
  go_enter Tryz.func115, Tryz.ntmps115
  go_wp2_with fail
  generalize ((w.alloc (.cells #[.int .u64 x, .int .u64 y] 40)).alloc (.cells #[.int .u64 0, .int .u8 0, .int .u8 0] 37)) = w0 at *
  refine Calls.mono C.out ?_
  rintro r w1 ⟨rfl, b1⟩
  have bo := below_trans b1 (below_alloc w1 (.cells #[.int .u64 R1, .int .u8 R2, .int .u8 R3] 37))
  have r0 : (w1.alloc (.cells #[.int .u64 R1, .int .u8 R2, .int .u8 R3] 37)).cell? ⟨w1.heap.size, 0, none⟩ = some (.int .u64 R1) := by go_simp
  have r1 : (w1.alloc (.cells #[.int .u64 R1, .int .u8 R2, .int .u8 R3] 37)).cell? ⟨w1.heap.size, 1, none⟩ = some (.int .u8 R2) := by go_simp
  have r2 : (w1.alloc (.cells #[.int .u64 R1, .int .u8 R2, .int .u8 R3] 37)).cell? ⟨w1.heap.size, 2, none⟩ = some (.int .u8 R3) := by go_simp
  have r3 : (w1.alloc (.cells #[.int .u64 R1, .int .u8 R2, .int .u8 R3] 37)).frozen? ⟨w1.heap.size, 0, none⟩ = false := by go_simp
  have HB : Hid (w.heap.size ≤ w1.heap.size) := by have := b1.size; have := World.block_lt_of_cell? _ _ z0; simp at *; rw [Hid]; omega
  have ne : w1.heap.size ≠ w.heap.size + 1 := by have := b1.size; have := World.block_lt_of_cell? _ _ z0; simp at *; omega
  have g0 := pfroz bo z0 f0
  have g1 := pfroz bo z1 f1
  have g2 := pfroz bo z2 f2
  have y0 := pcell bo z0
  have y1 := pcell bo z1
  have y2 := pcell bo z2
  have j0 := pcell b1 k0
  have j1 := pcell b1 k1
  have e0 := pcell b1 d0
  have q0 := pcell bo k0
  have q1 := pcell bo k1
  have p0 := pcell bo d0
  replace bb := below_trans bb bo
  clear bo b1 C z0 z1 z2 f0 f1 f2 k0 k1 c0 d0
  go_wp2_with fail
  generalize w1.alloc (.cells #[.int .u64 R1, .int .u8 R2, .int .u8 R3] 37) = w2 at *
  refine Calls.mono (D.out _ bb (hT.kept bb) x y h k) ?_
  rintro r w3 ⟨rfl, b3⟩
  replace bb := below_trans bb b3
  replace g0 := pfroz b3 y0 g0
  replace g1 := pfroz b3 y1 g1
  replace g2 := pfroz b3 y2 g2
  replace y0 := pcell b3 y0
  replace y1 := pcell b3 y1
  replace y2 := pcell b3 y2
  replace r3 := pfroz b3 r0 r3
  replace r0 := pcell b3 r0
  replace r1 := pcell b3 r1
  replace r2 := pcell b3 r2
  generalize w1.heap.size = B at *
  clear b3 D q0 q1 p0 j0 j1 e0
  cases ht : t x y with
  | false =>
    rw [ht] at E
    go_wp2_with fail
    refine bodyPost_ret (v := RO (R1, R2, R3)) (by simp [results, Tryz.results115, go_sem, y0, y1, y2, RO]) rfl ⟨by rw [E.out]; rfl, ?_⟩
    repeat (first | (with_reducible exact bb) | (with_reducible refine Below.setCell ?_ (by simp) _))
  | true =>
    rw [ht] at E
    go_wp2_with fail
    refine Calls.mono (neg_calls _ _ hU) ?_
    rintro r w4 ⟨rfl, rfl⟩
    go_wp2_with fail
    refine bodyPost_ret (v := RO (negV R1, R2, R3)) (by simp [results, Tryz.results115, go_sem, y0, y1, y2, RO]) rfl ⟨by rw [E.out]; rfl, ?_⟩
    repeat (first | (with_reducible exact bb) | (with_reducible refine Below.setCell ?_ (by first | (simp; done) | exact HB.out) _))

set_option maxRecDepth 100000 in
set_option maxHeartbeats 2000000 in
theorem turnedIf_made (F G : Nat) (caps capt : Array Value) (a : An) (t : Te) (w : World) (ht : IsT w (.func (.func G) #[] capt) t) (ha : IsA w (.func (.func F) #[] caps) a) : Calls Tryz.prog 90 #[.func (.func G) #[] capt, .func (.func F) #[] caps] w (MA w (aTurned t a)) := by
  have hmf : ∀ (fn : Fn) (first cap : Array Value) (w : World), (Instr.makeFunc fn first cap).run Tryz.prog w = .ok (.func fn first cap) w := fun _ _ _ _ => rfl
  go_enter Tryz.func90, Tryz.ntmps90
  go_wp2_with fail
  go_ret
  have bb : Below w.heap.size w ((w.alloc (.cells #[.func (.func G) #[] capt] 56)).alloc (.cells #[.func (.func F) #[] caps] 58)) := below_trans (below_alloc _ _) (below_alloc _ _)
  have c0 : ((w.alloc (.cells #[.func (.func G) #[] capt] 56)).alloc (.cells #[.func (.func F) #[] caps] 58)).cell? ⟨w.heap.size + 1, 0, none⟩ = some (.func (.func F) #[] caps) := by go_simp
  have d0 : ((w.alloc (.cells #[.func (.func G) #[] capt] 56)).alloc (.cells #[.func (.func F) #[] caps] 58)).cell? ⟨w.heap.size, 0, none⟩ = some (.func (.func G) #[] capt) := by go_simp
  exact ⟨_, _, rfl, ⟨_, _, rfl, Tryz.call115, fun W b hT x y h k => turned_call _ F _ G caps capt a t x y W h k hT (pcell b c0) ha.body.1 ((ha.keep bb).keep b).body.2.1 (pcell b d0) ht.body.1 ((ht.keep bb).keep b).body.2 (ha.body.2.2 x y h k), fun x y h k => by
    have hu := ha.body.2.2 x y h k
    unfold aTurned turnR
    split
    · exact U_neg _ hu
    · exact hu⟩, bb⟩

set_option maxRecDepth 100000 in
set_option maxHeartbeats 2000000 in
theorem signed_made (F : Nat) (caps : Array Value) (a : An) (w : World) (ha : IsA w (.func (.func F) #[] caps) a) : Calls Tryz.prog 88 #[.func (.func F) #[] caps] w (MA w (aSigned a)) := by
  go_enter Tryz.func88, Tryz.ntmps88
  go_wp2_with fail
  refine (turnedIf_made _ _ _ _ a tMinus _ (tMinus_is _) ha).mono ?_
  rintro r w1 ⟨G, capt, rfl, hA, b1⟩
  go_wp2_with fail
  go_ret
  exact ⟨G, capt, rfl, hA, b1⟩

set_option maxRecDepth 100000 in
set_option maxHeartbeats 2000000 in
theorem signedOdd_made (F : Nat) (caps : Array Value) (a : An) (w : World) (ha : IsA w (.func (.func F) #[] caps) a) : Calls Tryz.prog 97 #[.func (.func F) #[] caps] w (MA w (aSignedOdd a)) := by
  go_enter Tryz.func97, Tryz.ntmps97
  go_wp2_with fail
  refine (ofY_made _ _ tOdd _ (tOdd_is _)).mono ?_
  rintro r w1 ⟨G1, c1, rfl, h1, b1⟩
  go_wp2_with fail
  refine (both_made _ _ _ _ tMinus _ _ (tMinus_is _) h1).mono ?_
  rintro r w2 ⟨G2, c2, rfl, h2, b2⟩
  go_wp2_with fail
  refine (turnedIf_made _ _ _ _ a _ _ h2 ((ha.keep b1).keep b2)).mono ?_
  rintro r w3 ⟨G3, c3, rfl, h3, b3⟩
  go_wp2_with fail
  go_ret
  exact ⟨G3, c3, rfl, h3, below_trans (below_trans b1 b2) b3⟩

end Go.Proofs.YtkkccnpmcbpdnaaGreatDoor

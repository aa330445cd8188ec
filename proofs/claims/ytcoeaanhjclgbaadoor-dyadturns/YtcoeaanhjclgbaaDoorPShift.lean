/- The program's Shift. -/
import Derived.Test.YtcoeaanhjclgbaaDoorDGA
namespace Go.Proofs.YtcoeaanhjclgbaaDoor
open Go.RowKit

attribute [local go_sem ↓] Go.wp_at_zero Go.wp_at_succ

def shiftD (p : Bool × Nat × Int) (i : Int) : Bool × Nat × Int := (p.1, p.2.1, if p.2.1 = 0 then p.2.2 else p.2.2 + i)
theorem shift_form (s : Bool) (m : Nat) (e i : Int) : shiftD (formD s m e) i = formD s m (e + i) := by
  unfold shiftD
  by_cases h : m = 0
  · rw [h, form_zero, form_zero]; rfl
  · have h2 := (odd_part h).1
    rw [form_pos s h, form_pos s h, if_neg (show ¬ m / 2 ^ tz m = 0 from fun q => by rw [q] at h2; omega)]
    show (s, m / 2 ^ tz m, e + (tz m : Int) + i) = _
    rw [Int.add_right_comm]

def shfE (n : Nat) (e i : Int) : Int := if n = 0 then e else e + i
theorem shifted2_calls (s : Bool) (a : Option Addr) (n c : Nat) (e : Int) (g : Bool) (i : Int) (w : World) (he : -4611686018427387904 ≤ e ∧ e ≤ 4611686018427387904) (hi : -65536 ≤ i ∧ i ≤ 65536) :
    Calls Tryd.prog 60 #[numV s a n c e g, .int .i64 i] w fun r w' => r = .returned (numV s a n c (shfE n e i) g) ∧ Below w.heap.size w w' := shifted_calls s a n c e g i w he hi

set_option maxRecDepth 100000 in
set_option maxHeartbeats 4000000 in
theorem shift1_calls (b1 b2 : Nat) (s : Bool) (a : Option Addr) (len cap : Nat) (xs : List Int) (e : Int) (i : Int) (w : World) (h : IsW w a len cap xs) (hm : len ≤ 17592186044416) (hT : Tab w) (hr : rightB (val xs) e = true) (hi : -65536 ≤ i ∧ i ≤ 65536)
    (k0 : w.cell? ⟨b1, 0, none⟩ = some (.bool s)) (k1 : w.cell? ⟨b1, 1, none⟩ = some (.slice a len cap)) (k2 : w.cell? ⟨b1, 2, none⟩ = some (.int .i64 e))
    (l0 : w.cell? ⟨b2, 0, none⟩ = some (.int .i64 i)) :
    Calls Tryd.prog 59 #[.pointer (some ⟨b1, 0, none⟩), .pointer (some ⟨b2, 0, none⟩)] w fun r w' => ∃ v, r = .returned v ∧ NumR w.heap.size w' v (shiftD (formD s (val xs) e) i) ∧ Below w.heap.size w w' := by
  have HCGX : Hid (canG s (val xs) e = (formD s (val xs) e)) := canG_no (rightB_yes hr).1
  have HEBX : Hid _ := right_exp hr
  have HGX : Hid _ := form_fit s (val xs) e hr
  have HBX : Hid _ := form_bounds s (val xs) e hr
  have hl1 : b1 < w.heap.size := World.block_lt_of_cell? _ _ k0
  have hl2 : b2 < w.heap.size := World.block_lt_of_cell? _ _ l0
  have hn1 : b1 ≠ w.heap.size := Nat.ne_of_lt hl1
  have hn2 : b2 ≠ w.heap.size := Nat.ne_of_lt hl2
  clear hr
  go_enter Tryd.func59, Tryd.ntmps59
  go_wp2_with fail
  go_region_with (first
      | (go_at_call 32; refine calls_guard #[dyV s a len cap e] ?_ ?_; (focus rfl); refine (canonical_calls s a len cap xs e _ (h.keep (by repeat (first | exact hbwQ | exact Below.refl _ _ | apply Below.drew | refine Below.alloc ?_ (by simp; try omega) _))) hm (hT.kept (by repeat (first | exact hbwQ | exact Below.refl _ _ | apply Below.drew | refine Below.alloc ?_ (by simp; try omega) _)))).mono ?_; rintro r wX ⟨aX, nX, cX, eX, rfl, HEX, HNX, HZX, hnX, hOX, hbX⟩; have hbwX : Below w.heap.size w wX := nbelow_trans (by repeat (first | exact hbwQ | exact Below.refl _ _ | apply Below.drew | refine Below.alloc ?_ (by simp; try omega) _)) hbX; have hbzX : Below (w.alloc (.cells #[.bool false, .slice none 0 0, .int .i64 0, .bool false] 49)).heap.size (w.alloc (.cells #[.bool false, .slice none 0 0, .int .i64 0, .bool false] 49)) wX := nbelow_trans (by repeat (first | exact hbzQ | exact Below.refl _ _ | apply Below.drew | refine Below.alloc ?_ (by simp; try omega) _)) hbX; obtain rfl := HEX.out HEBX.out.1 HEBX.out.2; rw [HCGX.out] at hOX HNX ⊢; clear HEX; have hPX := hOX.low (B' := w.heap.size + 1) (by first | (have := hbzQ.size; simp at this ⊢; omega) | simp); have qX0 := dcarry_cell hbwX k0; have qX1 := dcarry_cell hbwX k1; have qX2 := dcarry_cell hbwX k2; have qX3 := dcarry_cell hbwX l0)
      | (go_at_call 60; refine (shifted2_calls (formD s (val xs) e).1 aX nX cX (formD s (val xs) e).2.2 false i _ ⟨by have := HBX.out; omega, by have := HBX.out; omega⟩ hi).mono ?_; rintro r wP ⟨rfl, hbP⟩; have hbwP := nbelow_trans hbwX (show Below wX.heap.size wX wP from by first | exact hbP | exact (Below.refl _ _).drew.trans hbP); have hbzP := nbelow_trans hbzX (show Below wX.heap.size wX wP from by first | exact hbP | exact (Below.refl _ _).drew.trans hbP); obtain ⟨m0, m1, m2, m3, f0, f1, f2, f3⟩ := zero_num (r := w.heap.size) hbzP rfl; have hOP := hPX.keep (show Below wX.heap.size wX wP from by first | exact hbP | exact (Below.refl _ _).drew.trans hbP)))
  all_goals
    have HX : Hid (shfE nX (formD s (val xs) e).2.2 i = (shiftD (formD s (val xs) e) i).2.2) := by
      rw [Hid, shfE, shiftD]
      have h0 : nX = 0 ↔ (formD s (val xs) e).2.1 = 0 := by rw [HNX.out, List.length_eq_zero_iff, words_nil]
      by_cases q : (formD s (val xs) e).2.1 = 0
      · rw [if_pos (h0.2 q), if_pos q]
      · rw [if_neg (fun z => q (h0.1 z)), if_neg q]
    rw [HX.out]
    go_wp2_with fail
    refine bodyPost_ret (v := numV (formD s (val xs) e).1 aX nX cX (shiftD (formD s (val xs) e) i).2.2 false) (by simp [results, Tryd.results59, go_sem, m0, m1, m2, m3]) rfl ⟨_, rfl, Or.inl ⟨HGX.out, aX, nX, cX, rfl, HNX, HZX, hnX, ((((hOP.far _ _ (by show w.heap.size < _; omega)).far _ _ (by show w.heap.size < _; omega)).far _ _ (by show w.heap.size < _; omega)).far _ _ (by show w.heap.size < _; omega)).low (by omega)⟩, ?_⟩
    exact (((hbwP.setCell (Nat.le_refl _) _).setCell (Nat.le_refl _) _).setCell (Nat.le_refl _) _).setCell (Nat.le_refl _) _

set_option maxRecDepth 100000 in
set_option maxHeartbeats 4000000 in
theorem dshift_far (s : Bool) (a : Option Addr) (len cap : Nat) (e : Int) (i : Int) (w : World) (hi : i < -65536 ∨ 65536 < i) :
    Calls Tryd.prog 25 #[dyV s a len cap e, .int .i64 i] w fun r w' => r = .returned (.tuple #[dyV false none 0 0 0, .int .i64 2]) ∧ Below w.heap.size w w' := by
  rcases hi with hi | hi
  · go_enter Tryd.func25, Tryd.ntmps25
    go_wp2_with fail
    refine bodyPost_ret (v := .tuple #[dyV false none 0 0 0, .int .i64 2]) (by simp [results, Tryd.results25, go_sem]) rfl ⟨rfl, ?_⟩
    repeat (first | exact Below.refl _ _ | refine Below.alloc ?_ (by simp; try omega) _ | refine Below.setCell ?_ (by simp; try omega) _)
  · have hn : ¬ i < -65536 := by omega
    go_enter Tryd.func25, Tryd.ntmps25
    go_wp2_with fail
    refine bodyPost_ret (v := .tuple #[dyV false none 0 0 0, .int .i64 2]) (by simp [results, Tryd.results25, go_sem]) rfl ⟨rfl, ?_⟩
    repeat (first | exact Below.refl _ _ | refine Below.alloc ?_ (by simp; try omega) _ | refine Below.setCell ?_ (by simp; try omega) _)

set_option maxRecDepth 100000 in
set_option maxHeartbeats 4000000 in
theorem dshift_not (s : Bool) (a : Option Addr) (len cap : Nat) (xs : List Int) (e : Int) (i : Int) (w : World) (h : IsW w a len cap xs) (hm : len ≤ 17592186044416) (hi : -65536 ≤ i ∧ i ≤ 65536) (hr : rightB (val xs) e = false) :
    Calls Tryd.prog 25 #[dyV s a len cap e, .int .i64 i] w fun r w' => r = .returned (.tuple #[dyV false none 0 0 0, .int .i64 2]) ∧ Below w.heap.size w w' := by
  have hmf : ∀ (fn : Fn) (first cap : Array Value) (w : World), (Instr.makeFunc fn first cap).run Tryd.prog w = .ok (.func fn first cap) w := fun _ _ _ _ => rfl
  have HRB : Hid (rightB (val xs) e = false) := hr
  obtain ⟨hi1, hi2⟩ := hi
  clear hr
  go_enter Tryd.func25, Tryd.ntmps25
  go_wp2_with fail
  have hb0 : Below w.heap.size w ((((w.alloc (.cells #[.bool s, .slice a len cap, .int .i64 e] 25)).alloc (.cells #[.int .i64 i] 3)).alloc (.cells #[.bool false, .slice none 0 0, .int .i64 0] 25)).alloc (.cells #[.bool s, .slice a len cap, .int .i64 e] 25)) := by repeat (first | exact Below.refl _ _ | refine Below.alloc ?_ (by simp; try omega) _)
  refine Calls.mono (made_not _ _ _ (fun W hW => HRB.out ▸ right1_calls (w.heap.size + 1 + 1 + 1) s a len cap xs e W (h.keep (nbelow_trans hb0 hW)) hm (dcarry_cell hW (by go_simp)) (dcarry_cell hW (by go_simp)) (dcarry_cell hW (by go_simp)))) ?_
  rintro r w2 ⟨rfl, hbM⟩
  have hb2 := nbelow_trans hb0 hbM
  obtain ⟨m0, m1, m2, f0, f1, f2⟩ := zero_dy (r := w.heap.size + 1 + 1) (w := (w.alloc (.cells #[.bool s, .slice a len cap, .int .i64 e] 25)).alloc (.cells #[.int .i64 i] 3)) (W' := w2) (nbelow_trans (below_one _ _) hbM) (by simp)
  go_wp2_with fail
  refine bodyPost_ret (v := .tuple #[dyV false none 0 0 0, .int .i64 2]) (by simp [results, Tryd.results25, go_sem, m0, m1, m2]) rfl ⟨rfl, ?_⟩
  exact ((hb2.setCell (by show w.heap.size ≤ w.heap.size + 1 + 1; omega) _).setCell (by show w.heap.size ≤ w.heap.size + 1 + 1; omega) _).setCell (by show w.heap.size ≤ w.heap.size + 1 + 1; omega) _

set_option maxRecDepth 100000 in
set_option maxHeartbeats 4000000 in
theorem dshift_yes (s : Bool) (a : Option Addr) (len cap : Nat) (xs : List Int) (e : Int) (i : Int) (w : World) (h : IsW w a len cap xs) (hm : len ≤ 17592186044416) (hT : Tab w) (hi : -65536 ≤ i ∧ i ≤ 65536) (hr : rightB (val xs) e = true) :
    Calls Tryd.prog 25 #[dyV s a len cap e, .int .i64 i] w fun r w' => ∃ v', r = .returned (.tuple #[v', .int .i64 (roomE (shiftD (formD s (val xs) e) i))]) ∧ DyAt w.heap.size w' v' (roomP (shiftD (formD s (val xs) e) i)) ∧ Below w.heap.size w w' := by
  have hmf : ∀ (fn : Fn) (first cap : Array Value) (w : World), (Instr.makeFunc fn first cap).run Tryd.prog w = .ok (.func fn first cap) w := fun _ _ _ _ => rfl
  have HRB : Hid (rightB (val xs) e = true) := hr
  have HP : Hid _ := hi
  obtain ⟨hi1, hi2⟩ := hi
  clear hr
  go_enter Tryd.func25, Tryd.ntmps25
  go_wp2_with fail
  have hb0 : Below w.heap.size w ((((w.alloc (.cells #[.bool s, .slice a len cap, .int .i64 e] 25)).alloc (.cells #[.int .i64 i] 3)).alloc (.cells #[.bool false, .slice none 0 0, .int .i64 0] 25)).alloc (.cells #[.bool s, .slice a len cap, .int .i64 e] 25)) := by repeat (first | exact Below.refl _ _ | refine Below.alloc ?_ (by simp; try omega) _)
  refine Calls.mono (made_Shift w.heap.size (w.heap.size + 1) 0 (shiftD (formD s (val xs) e) i) _ _ (fun W hW => HRB.out ▸ right1_calls (w.heap.size + 1 + 1 + 1) s a len cap xs e W (h.keep (nbelow_trans hb0 hW)) hm (dcarry_cell hW (by go_simp)) (dcarry_cell hW (by go_simp)) (dcarry_cell hW (by go_simp)))
    (fun W hW => Calls.mono (shift1_calls w.heap.size (w.heap.size + 1) s a len cap xs e i W (h.keep (nbelow_trans hb0 hW)) hm (hT.kept (nbelow_trans hb0 hW)) HRB.out HP.out (dcarry_cell hW (by go_simp)) (dcarry_cell hW (by go_simp)) (dcarry_cell hW (by go_simp)) (dcarry_cell hW (by go_simp))) (by
      rintro r w5 ⟨v, rfl, hN, hb5⟩
      exact ⟨v, rfl, hN.low (Nat.zero_le _), hb5⟩))) ?_
  rintro r w2 ⟨v', rfl, ⟨a2, n2, c2, rfl, HN2, hn2, hO2⟩, hbM⟩
  have hb2 := nbelow_trans hb0 hbM
  obtain ⟨m0, m1, m2, f0, f1, f2⟩ := zero_dy (r := w.heap.size + 1 + 1) (w := (w.alloc (.cells #[.bool s, .slice a len cap, .int .i64 e] 25)).alloc (.cells #[.int .i64 i] 3)) (W' := w2) (nbelow_trans (below_one _ _) hbM) (by simp)
  go_wp2_with fail
  refine bodyPost_ret (v := .tuple #[dyV (roomP (shiftD (formD s (val xs) e) i)).1 a2 n2 c2 (roomP (shiftD (formD s (val xs) e) i)).2.2, .int .i64 (roomE (shiftD (formD s (val xs) e) i))]) (by simp [results, Tryd.results25, go_sem, m0, m1, m2]) rfl ⟨_, rfl, ⟨a2, n2, c2, rfl, HN2, hn2, (((hO2.far _ _ (by show w.heap.size + 1 + 1 < _; simp)).far _ _ (by show w.heap.size + 1 + 1 < _; simp)).far _ _ (by show w.heap.size + 1 + 1 < _; simp)).low (by simp; omega)⟩, ?_⟩
  exact ((hb2.setCell (by show w.heap.size ≤ w.heap.size + 1 + 1; omega) _).setCell (by show w.heap.size ≤ w.heap.size + 1 + 1; omega) _).setCell (by show w.heap.size ≤ w.heap.size + 1 + 1; omega) _
end Go.Proofs.YtcoeaanhjclgbaaDoor

/- The walk of Cmp. The document's dyadic numbers: Sign, Top, Order, Cmp, Bits, Size, TopOf. -/
import Derived.Test.YtkkldnnndlpblaaGreatDoorDAgS
import Derived.Test.YtkkldnnndlpblaaGreatDoorDAgZ
import Derived.Test.YtkkldnnndlpblaaGreatDoorDAgA
import Derived.Test.YtkkldnnndlpblaaGreatDoorRDB
import Derived.Test.YtkkldnnndlpblaaGreatDoorRDA

namespace Go.Proofs.YtkkldnnndlpblaaGreatDoor
open Go.RowKit

def sgnD (p : Bool × Nat × Int) : Int := if p.2.1 = 0 then 0 else if p.1 = true then -1 else 1

/-- The order of two numbers in their one form, as it is reckoned. -/
def cmpD (x y : Bool × Nat × Int) : Int := if sgnD x ≠ sgnD y then Lib.compareInt (sgnD x) (sgnD y) else if x.2.1 = 0 then 0 else sgnD x * amtD x.2.1 x.2.2 y.2.1 y.2.2

theorem sgnD_of {p : Bool × Nat × Int} {n : Nat} (h : n = (wordsOf p.2.1).length) : sgnI n p.1 = sgnD p := by
  have h0 : n = 0 ↔ p.2.1 = 0 := by rw [h, List.length_eq_zero_iff, words_nil]
  unfold sgnI sgnD
  by_cases q : p.2.1 = 0
  · rw [if_pos (h0.2 q), if_pos q]
  · rw [if_neg (fun r => q (h0.1 r)), if_neg q]

theorem dagainst_calls (B : Nat) (vx vy : Value) (x y : Bool × Nat × Int) (w : World) (hX : NumAt B w vx x) (hY : NumAt B w vy y) (gx : greatB x.2.1 = false) (gy : greatB y.2.1 = false) (ex : -100000000 ≤ x.2.2 ∧ x.2.2 ≤ 100000000) (ey : -100000000 ≤ y.2.2 ∧ y.2.2 ≤ 100000000) :
    Calls Tryz.prog 192 #[vx, vy] w fun r w' => r = .returned (.int .i64 (cmpD x y)) ∧ Below w.heap.size w w' := by
  obtain ⟨ax, nx, kx, rfl, HNx, HZx, hnx, hOx⟩ := hX
  obtain ⟨ay, ny, ky, rfl, HNy, HZy, hny, hOy⟩ := hY
  have sx := sgnD_of HNx.out
  have sy := sgnD_of HNy.out
  have zx : nx = 0 ↔ x.2.1 = 0 := by rw [HNx.out, List.length_eq_zero_iff, words_nil]
  have zy : ny = 0 ↔ y.2.1 = 0 := by rw [HNy.out, List.length_eq_zero_iff, words_nil]
  unfold cmpD
  by_cases hs : sgnD x = sgnD y
  · rw [if_neg (by simpa using hs)]
    by_cases h0 : x.2.1 = 0
    · rw [if_pos h0]
      have hy0 : y.2.1 = 0 := by
        rcases Nat.eq_zero_or_pos y.2.1 with q | q
        · exact q
        · exfalso
          unfold sgnD at hs
          rw [if_pos h0, if_neg (by omega)] at hs
          split at hs <;> omega
      exact against_zero x.1 ax nx kx x.2.2 y.1 ay ny ky y.2.2 w (zx.2 h0) (zy.2 hy0)
    · rw [if_neg h0]
      have hy0 : y.2.1 ≠ 0 := fun q => by
        unfold sgnD at hs
        rw [if_neg h0, if_pos q] at hs
        split at hs <;> omega
      exact against_amounts x.1 ax nx kx x.2.1 x.2.2 y.1 ay ny ky y.2.1 y.2.2 w hOx.1 hnx gx ex hOy.1 hny gy ey h0 hy0 (fun q => h0 (zx.1 q)) (sgnD x) (by unfold sgnD; rw [if_neg h0]; split; exact Or.inr rfl; exact Or.inl rfl) sx (by rw [sy, hs])
  · rw [if_pos hs, ← sx, ← sy]
    exact against_signs x.1 ax nx kx x.2.2 y.1 ay ny ky y.2.2 w (by rw [sx, sy]; exact hs)

attribute [local go_sem ↓] Go.wp_at_zero Go.wp_at_succ

set_option maxRecDepth 100000 in
set_option maxHeartbeats 4000000 in
theorem dcmp_not (s : Bool) (a : Option Addr) (len cap : Nat) (xs : List Int) (e : Int) (s' : Bool) (a' : Option Addr) (len' cap' : Nat) (ys : List Int) (e' : Int) (w : World) (h : IsW w a len cap xs) (hm : len ≤ 17592186044416) (h' : IsW w a' len' cap' ys) (hm' : len' ≤ 17592186044416) (hr : (rightB (val xs) e && rightB (val ys) e') = false) :
    Calls Tryz.prog 186 #[dyV s a len cap e, dyV s' a' len' cap' e'] w fun r w' => r = .returned (.tuple #[.int .i64 0, .int .i64 2]) ∧ Below w.heap.size w w' := by
  have hb0 : Below w.heap.size w (((w.alloc (.cells #[.bool s, .slice a len cap, .int .i64 e] 26)).alloc (.cells #[.bool s', .slice a' len' cap', .int .i64 e'] 26)).alloc (.cells #[.bool s, .slice a len cap, .int .i64 e, .bool s', .slice a' len' cap', .int .i64 e'] 26)) := (by repeat (first | exact Below.refl _ _ | apply Below.drew | refine Below.alloc ?_ (by simp; try omega) _))
  have RC : Hid _ := right2_calls (w.heap.size + 1 + 1) s a len cap xs e s' a' len' cap' ys e' _ (h.keep hb0) hm (h'.keep hb0) hm' (by go_simp) (by go_simp) (by go_simp) (by go_simp) (by go_simp) (by go_simp)
  rw [hr] at RC
  clear hr
  go_enter Tryz.func186, Tryz.ntmps186
  go_wp2_with fail
  refine Calls.mono RC.out ?_
  rintro r w1 ⟨rfl, hb1⟩
  go_wp2_with fail
  go_ret2
  exact ⟨rfl, nbelow_trans hb0 hb1⟩

set_option maxRecDepth 100000 in
set_option maxHeartbeats 4000000 in
theorem dcmp_yes (s : Bool) (a : Option Addr) (len cap : Nat) (xs : List Int) (e : Int) (s' : Bool) (a' : Option Addr) (len' cap' : Nat) (ys : List Int) (e' : Int) (w : World) (h : IsW w a len cap xs) (hm : len ≤ 17592186044416) (h' : IsW w a' len' cap' ys) (hm' : len' ≤ 17592186044416) (hT : Tab w) (hr : rightB (val xs) e = true) (hr' : rightB (val ys) e' = true) :
    Calls Tryz.prog 186 #[dyV s a len cap e, dyV s' a' len' cap' e'] w fun r w' => r = .returned (.tuple #[.int .i64 (cmpD (formD s (val xs) e) (formD s' (val ys) e')), .int .i64 0]) ∧ Below w.heap.size w w' := by
  have hb0 : Below w.heap.size w (((w.alloc (.cells #[.bool s, .slice a len cap, .int .i64 e] 26)).alloc (.cells #[.bool s', .slice a' len' cap', .int .i64 e'] 26)).alloc (.cells #[.bool s, .slice a len cap, .int .i64 e, .bool s', .slice a' len' cap', .int .i64 e'] 26)) := (by repeat (first | exact Below.refl _ _ | apply Below.drew | refine Below.alloc ?_ (by simp; try omega) _))
  have RC : Hid _ := right2_calls (w.heap.size + 1 + 1) s a len cap xs e s' a' len' cap' ys e' _ (h.keep hb0) hm (h'.keep hb0) hm' (by go_simp) (by go_simp) (by go_simp) (by go_simp) (by go_simp) (by go_simp)
  rw [hr, hr'] at RC
  have HCGX : Hid (canG s (val xs) e = (formD s (val xs) e)) := canG_no (rightB_yes hr).1
  have HCGY : Hid (canG s' (val ys) e' = (formD s' (val ys) e')) := canG_no (rightB_yes hr').1
  have HEBX : Hid _ := right_exp hr
  have HEBY : Hid _ := right_exp hr'
  have HGX : Hid _ := form_fit s (val xs) e hr
  have HGY : Hid _ := form_fit s' (val ys) e' hr'
  have HBX : Hid _ := form_bounds s (val xs) e hr
  have HBY : Hid _ := form_bounds s' (val ys) e' hr'
  clear hr hr'
  go_enter Tryz.func186, Tryz.ntmps186
  go_wp2_with fail
  refine Calls.mono RC.out ?_
  rintro r w1 ⟨rfl, hb1⟩
  have hbw1 := nbelow_trans hb0 hb1
  have k0 : w1.cell? ⟨w.heap.size, 0, none⟩ = some (.bool s) := dcarry_cell hb1 (by go_simp)
  have k1 : w1.cell? ⟨w.heap.size, 1, none⟩ = some (.slice a len cap) := dcarry_cell hb1 (by go_simp)
  have k2 : w1.cell? ⟨w.heap.size, 2, none⟩ = some (.int .i64 e) := dcarry_cell hb1 (by go_simp)
  have l0 : w1.cell? ⟨w.heap.size + 1, 0, none⟩ = some (.bool s') := dcarry_cell hb1 (by go_simp)
  have l1 : w1.cell? ⟨w.heap.size + 1, 1, none⟩ = some (.slice a' len' cap') := dcarry_cell hb1 (by go_simp)
  have l2 : w1.cell? ⟨w.heap.size + 1, 2, none⟩ = some (.int .i64 e') := dcarry_cell hb1 (by go_simp)
  clear RC hb1
  go_wp2_with fail
  go_region_with (first
      | (go_at_call 144; refine calls_guard #[dyV s a len cap e] ?_ ?_; (focus rfl); refine (canonical_calls s a len cap xs e _ (h.keep (by repeat (first | exact hbwY | exact hbw1 | exact Below.refl _ _ | apply Below.drew | refine Below.alloc ?_ (by simp; try omega) _))) hm (hT.kept (by repeat (first | exact hbwY | exact hbw1 | exact Below.refl _ _ | apply Below.drew | refine Below.alloc ?_ (by simp; try omega) _)))).mono ?_; rintro r wX ⟨aX, nX, cX, eX, rfl, HEX, HNX, HZX, hnX, hOX, hbX⟩; have hbwX : Below w.heap.size w wX := nbelow_trans (by repeat (first | exact hbwY | exact hbw1 | exact Below.refl _ _ | apply Below.drew | refine Below.alloc ?_ (by simp; try omega) _)) hbX; have hbvX : Below w1.heap.size w1 wX := nbelow_trans (by repeat (first | exact hbvY | exact Below.refl _ _ | apply Below.drew | refine Below.alloc ?_ (by simp; try omega) _)) hbX; obtain rfl := HEX.out HEBX.out.1 HEBX.out.2; rw [HCGX.out] at hOX HNX ⊢; clear HEX; have qX0 := dcarry_cell hbvX k0; have qX1 := dcarry_cell hbvX k1; have qX2 := dcarry_cell hbvX k2; have qX3 := dcarry_cell hbvX l0; have qX4 := dcarry_cell hbvX l1; have qX5 := dcarry_cell hbvX l2)
      | (go_at_call 144; refine calls_guard #[dyV s' a' len' cap' e'] ?_ ?_; (focus rfl); refine (canonical_calls s' a' len' cap' ys e' _ (h'.keep (by repeat (first | exact hbwX | exact hbw1 | exact Below.refl _ _ | apply Below.drew | refine Below.alloc ?_ (by simp; try omega) _))) hm' (hT.kept (by repeat (first | exact hbwX | exact hbw1 | exact Below.refl _ _ | apply Below.drew | refine Below.alloc ?_ (by simp; try omega) _)))).mono ?_; rintro r wY ⟨aY, nY, cY, eY, rfl, HEY, HNY, HZY, hnY, hOY, hbY⟩; have hbwY : Below w.heap.size w wY := nbelow_trans (by repeat (first | exact hbwX | exact hbw1 | exact Below.refl _ _ | apply Below.drew | refine Below.alloc ?_ (by simp; try omega) _)) hbY; have hbvY : Below w1.heap.size w1 wY := nbelow_trans (by repeat (first | exact hbvX | exact Below.refl _ _ | apply Below.drew | refine Below.alloc ?_ (by simp; try omega) _)) hbY; obtain rfl := HEY.out HEBY.out.1 HEBY.out.2; rw [HCGY.out] at hOY HNY ⊢; clear HEY; have qY0 := dcarry_cell hbvY k0; have qY1 := dcarry_cell hbvY k1; have qY2 := dcarry_cell hbvY k2; have qY3 := dcarry_cell hbvY l0; have qY4 := dcarry_cell hbvY l1; have qY5 := dcarry_cell hbvY l2)
      | (go_at_call 192; (first | (have hQX := (hOX.keep hbY).low (B' := 0) (Nat.zero_le _)) | (have hQX := hOX.low (B' := 0) (Nat.zero_le _))); (first | (have hQY := (hOY.keep hbX).low (B' := 0) (Nat.zero_le _)) | (have hQY := hOY.low (B' := 0) (Nat.zero_le _))); refine (dagainst_calls 0 _ _ (formD s (val xs) e) (formD s' (val ys) e') _ (hidN rfl rfl HNX HZX hnX hQX) (hidN rfl rfl HNY HZY hnY hQY) HGX.out HGY.out HBX.out HBY.out).mono ?_; rintro r wP ⟨rfl, hbP⟩; (first | (have hbwP := nbelow_trans hbwY hbP) | (have hbwP := nbelow_trans hbwX hbP))))
  all_goals
    go_wp2_with fail
    go_ret2
    exact ⟨rfl, hbwP⟩

end Go.Proofs.YtkkldnnndlpblaaGreatDoor

namespace Go.Proofs.YtkkldnnndlpblaaGreatDoor
open Go.RowKit

attribute [local go_sem ↓] Go.wp_at_zero Go.wp_at_succ
def sgnQ (s : Bool) (m : Nat) : Int := if m = 0 then 0 else if s = true then -1 else 1

theorem sgnQ_form (s : Bool) (m : Nat) (e : Int) : sgnD (formD s m e) = sgnQ s m := by
  unfold sgnD sgnQ
  by_cases h0 : m = 0
  · rw [h0, form_zero]; rfl
  · have h1 := (odd_part h0).1
    rw [form_pos s h0, if_neg h0, if_neg (fun q => by have q' : m / 2 ^ tz m = 0 := q; rw [q'] at h1; exact absurd h1 (by decide))]

theorem blen_odd {m : Nat} (h0 : m ≠ 0) : blen m = tz m + blen (m / 2 ^ tz m) := by
  have h1 := (odd_part h0).1
  have h2 := (odd_part h0).2
  have h3 := blen_mul (m / 2 ^ tz m) (tz m) (fun q => by rw [q] at h1; exact absurd h1 (by decide))
  rw [h2] at h3
  exact h3

set_option maxRecDepth 100000 in
set_option maxHeartbeats 2000000 in
theorem qSign_calls (s : Bool) (a : Option Addr) (len cap : Nat) (xs : List Int) (e : Int) (w : World) (h : IsW w a len cap xs) (hm : len ≤ 17592186044000) :
    Calls Tryz.prog 13 #[dyV s a len cap e] w fun r w' => r = .returned (.int .i64 (sgnQ s (val xs))) ∧ Below w.heap.size w w' := by
  have bw : Below w.heap.size w (w.alloc (.cells #[.bool s, .slice a len cap, .int .i64 e] 26)) := below_one _ _
  have HZ : Hid _ := qZero_calls s a len cap xs e _ (h.keep bw) (by omega)
  unfold sgnQ
  have k0 : (w.alloc (.cells #[.bool s, .slice a len cap, .int .i64 e] 26)).cell? ⟨w.heap.size, 0, none⟩ = some (.bool s) := by go_simp
  have k1 : (w.alloc (.cells #[.bool s, .slice a len cap, .int .i64 e] 26)).cell? ⟨w.heap.size, 1, none⟩ = some (.slice a len cap) := by go_simp
  have k2 : (w.alloc (.cells #[.bool s, .slice a len cap, .int .i64 e] 26)).cell? ⟨w.heap.size, 2, none⟩ = some (.int .i64 e) := by go_simp
  by_cases h0 : val xs = 0
  · rw [decide_eq_true h0] at HZ
    rw [if_pos h0]
    clear h0 hm h
    go_enter Tryz.func13, Tryz.ntmps13
    go_wp2_with fail
    refine Calls.mono HZ.out ?_
    rintro r w1 ⟨rfl, b1⟩
    replace bw := nbelow_trans bw b1
    clear b1
    go_wp2_with fail
    go_ret
    exact ⟨rfl, bw⟩
  · rw [decide_eq_false h0] at HZ
    rw [if_neg h0]
    clear h0 hm h
    cases s
    all_goals
      go_enter Tryz.func13, Tryz.ntmps13
      go_wp2_with fail
      refine Calls.mono HZ.out ?_
      rintro r w1 ⟨rfl, b1⟩
      replace bw := nbelow_trans bw b1
      replace k0 := dcarry_cell b1 k0
      clear b1
      go_wp2_with fail
      go_ret
      exact ⟨rfl, bw⟩

set_option maxRecDepth 100000 in
set_option maxHeartbeats 2000000 in
theorem qTop_calls (s : Bool) (a : Option Addr) (len cap : Nat) (xs : List Int) (e : Int) (w : World) (h : IsW w a len cap xs) (hm : len ≤ 17592186044000) (he : -4611686018427387904 ≤ e ∧ e ≤ 4611686018427387904) (hb : blen (val xs) ≤ 1000000000) :
    Calls Tryz.prog 60 #[dyV s a len cap e] w fun r w' => r = .returned (.int .i64 (e + (blen (val xs) : Int) - 1)) ∧ Below w.heap.size w w' := by
  have bw : Below w.heap.size w (w.alloc (.cells #[.bool s, .slice a len cap, .int .i64 e] 26)) := below_one _ _
  have HL : Hid _ := fun W g => nLen_calls a len cap xs W g (by omega)
  have H1 : Hid (IsW w a len cap xs) := h
  have hw1 : IntKind.i64.wrap (e + (blen (val xs) : Int)) = e + (blen (val xs) : Int) := by rw [IntKind.wrap_i64]; omega
  have hw2 : IntKind.i64.wrap (e + (blen (val xs) : Int) - 1) = e + (blen (val xs) : Int) - 1 := by rw [IntKind.wrap_i64]; omega
  generalize (blen (val xs) : Int) = bl at *
  have k0 : (w.alloc (.cells #[.bool s, .slice a len cap, .int .i64 e] 26)).cell? ⟨w.heap.size, 0, none⟩ = some (.bool s) := by go_simp
  have k1 : (w.alloc (.cells #[.bool s, .slice a len cap, .int .i64 e] 26)).cell? ⟨w.heap.size, 1, none⟩ = some (.slice a len cap) := by go_simp
  have k2 : (w.alloc (.cells #[.bool s, .slice a len cap, .int .i64 e] 26)).cell? ⟨w.heap.size, 2, none⟩ = some (.int .i64 e) := by go_simp
  clear h hm he hb
  go_enter Tryz.func60, Tryz.ntmps60
  go_upto_region 1 with fail
  generalize (w.alloc (.cells #[.bool s, .slice a len cap, .int .i64 e] 26)) = w0 at *
  have bd : Below w0.heap.size w0 w0.drew := (Below.refl _ _).drew
  refine wp_region_held (S := fun w' => w'.cell? ⟨w.heap.size, 0, none⟩ = some (.bool s) ∧ w'.cell? ⟨w.heap.size, 1, none⟩ = some (.slice a len cap) ∧ w'.cell? ⟨w.heap.size, 2, none⟩ = some (.int .i64 e)) (by kernel_rfl) ?_
  change wpAnyH _ _ _ _ _ _ _ _ (World.drew w0)
  replace k0 := dcarry_cell bd k0
  replace k1 := dcarry_cell bd k1
  replace k2 := dcarry_cell bd k2
  replace bw := nbelow_trans bw bd
  clear bd
  generalize World.drew w0 = wd1 at *
  refine wpAnyH_take (i := 0) (v := ?vt1_0) rfl (by kernel_rfl) (by kernel_rfl) (by kernel_rfl) (fun _ _ _ h => h) (Or.inl ⟨by rfl, ?yt1_0⟩) ⟨k0, k1, k2⟩ ?rt1_0
  case yt1_0 => (rintro ww ⟨q0, q1, q2⟩; go_simp; try with_reducible rfl)
  try simp only [Act.put]
  refine wpAnyH_take (i := 1) (v := ?vt1_1) rfl (by kernel_rfl) (by kernel_rfl) (by kernel_rfl) (fun _ _ _ h => h) (Or.inl ⟨by rfl, ?yt1_1⟩) ⟨k0, k1, k2⟩ ?rt1_1
  case yt1_1 => (rintro ww ⟨q0, q1, q2⟩; go_simp; try with_reducible rfl)
  try simp only [Act.put]
  refine wpAnyH_take (i := 2) (v := ?vt1_2) rfl (by kernel_rfl) (by kernel_rfl) (by kernel_rfl) (fun _ _ _ h => h) (Or.inl ⟨by rfl, ?yt1_2⟩) ⟨k0, k1, k2⟩ ?rt1_2
  case yt1_2 => (rintro ww ⟨q0, q1, q2⟩; go_simp; try with_reducible rfl)
  try simp only [Act.put]
  refine wpAnyH_take (i := 3) (v := ?vt1_3) rfl (by kernel_rfl) (by kernel_rfl) (by kernel_rfl) (fun _ _ _ h => h) (Or.inl ⟨by rfl, ?yt1_3⟩) ⟨k0, k1, k2⟩ ?rt1_3
  case yt1_3 => (rintro ww ⟨q0, q1, q2⟩; go_simp; try with_reducible rfl)
  try simp only [Act.put]
  refine wpAnyH_ready (rs := [4]) (by kernel_rfl) (by simp) ?_
  refine AllReadyH.cons rfl (fun K hK => ?_) AllReadyH.nil
  go_simp
  refine Calls.mono (HL.out _ (H1.out.keep bw)) ?_
  rintro r w1 ⟨rfl, bN⟩
  replace k0 := dcarry_cell bN k0
  replace k1 := dcarry_cell bN k1
  replace k2 := dcarry_cell bN k2
  refine hK.out _ _ ⟨k0, k1, k2⟩ (fun _ => ?_)
  clear hK K
  replace bw := nbelow_trans bw bN
  clear bN
  try simp only [Act.put, List.setIfInBounds_toArray, List.set_cons_zero, List.set_cons_succ]
  refine wpAnyH_ready (rs := [5]) (by kernel_rfl) (by simp) ?_
  refine AllReadyH.cons rfl (fun K hK => ?_) AllReadyH.nil
  go_simp
  refine hK.out _ _ ⟨k0, k1, k2⟩ (fun _ => ?_)
  clear hK K
  try simp only [Act.put, List.setIfInBounds_toArray, List.set_cons_zero, List.set_cons_succ]
  refine wpAnyH_ready (rs := [6]) (by kernel_rfl) (by simp) ?_
  refine AllReadyH.cons rfl (fun K hK => ?_) AllReadyH.nil
  go_simp
  refine hK.out _ _ ⟨k0, k1, k2⟩ (fun _ => ?_)
  clear hK K
  try simp only [Act.put, List.setIfInBounds_toArray, List.set_cons_zero, List.set_cons_succ]
  refine wpAnyH_ready (rs := [7]) (by kernel_rfl) (by simp) ?_
  refine AllReadyH.cons rfl (fun K hK => ?_) AllReadyH.nil
  go_simp
  refine hK.out _ _ ⟨k0, k1, k2⟩ (fun _ => ?_)
  clear hK K
  try simp only [Act.put, List.setIfInBounds_toArray, List.set_cons_zero, List.set_cons_succ]
  refine wpAnyH_done (by kernel_rfl) ?_ _
  go_wp2_with fail
  go_ret
  exact ⟨rfl, bw⟩

end Go.Proofs.YtkkldnnndlpblaaGreatDoor

/- The walk of Cmp. -/
import Derived.Test.YtahpdcbmekgkfaaGreatDoorDAgS
import Derived.Test.YtahpdcbmekgkfaaGreatDoorDAgZ
import Derived.Test.YtahpdcbmekgkfaaGreatDoorDAgA
namespace Go.Proofs.YtahpdcbmekgkfaaGreatDoor
open Go.RowKit
set_option maxHeartbeats 4000000
set_option maxRecDepth 100000
def sgnD (p : Bool × Nat × Int) : Int := if p.2.1 = 0 then 0 else if p.1 = true then -1 else 1
def cmpD (x y : Bool × Nat × Int) : Int := if sgnD x ≠ sgnD y then Lib.compareInt (sgnD x) (sgnD y) else if x.2.1 = 0 then 0 else sgnD x * amtD x.2.1 x.2.2 y.2.1 y.2.2
theorem sgnD_of {p : Bool × Nat × Int} {n : Nat} (h : n = (wO p.2.1).length) : sgnI n p.1 = sgnD p := by
 have h0 : n = 0 ↔ p.2.1 = 0 := by rw [h, List.length_eq_zero_iff, words_nil]
 unfold sgnI sgnD
 by_cases q : p.2.1 = 0
 ·rw [if_pos (h0.2 q), if_pos q]
 ·rw [if_neg (fun r => q (h0.1 r)), if_neg q]
theorem dagainst_calls (B : Nat) (vx vy : Value) (x y : Bool × Nat × Int) (w : World) (hX : NumAt B w vx x) (hY : NumAt B w vy y) (gx : greatB x.2.1 = false) (gy : greatB y.2.1 = false) (ex : -100000000 ≤ x.2.2 ∧ x.2.2 ≤ 100000000) (ey : -100000000 ≤ y.2.2 ∧ y.2.2 ≤ 100000000) :
  Calls Tryz.prog 141 #[vx, vy] w fun r w' => r = .returned (.int .i64 (cmpD x y)) ∧ Below w.heap.size w w' := by
 obtain ⟨ax, nx, kx, rfl, HNx, HZx, hnx, hOx⟩ := hX
 obtain ⟨ay, ny, ky, rfl, HNy, HZy, hny, hOy⟩ := hY
 have sx := sgnD_of HNx.out
 have sy := sgnD_of HNy.out
 have zx : nx = 0 ↔ x.2.1 = 0 := by rw [HNx.out, List.length_eq_zero_iff, words_nil]
 have zy : ny = 0 ↔ y.2.1 = 0 := by rw [HNy.out, List.length_eq_zero_iff, words_nil]
 unfold cmpD
 by_cases hs : sgnD x = sgnD y
 ·rw [if_neg (by simpa using hs)]
  by_cases h0 : x.2.1 = 0
  ·rw [if_pos h0]
   have hy0 : y.2.1 = 0 := by
    rcases Nat.eq_zero_or_pos y.2.1 with q | q
    ·exact q
    ·exfalso
     unfold sgnD at hs
     rw [if_pos h0, if_neg (by omega)] at hs
     split at hs <;> omega
   exact against_zero x.1 ax nx kx x.2.2 y.1 ay ny ky y.2.2 w (zx.2 h0) (zy.2 hy0)
  ·rw [if_neg h0]
   have hy0 : y.2.1 ≠ 0 := fun q => by
    unfold sgnD at hs
    rw [if_neg h0, if_pos q] at hs
    split at hs <;> omega
   exact against_amounts x.1 ax nx kx x.2.1 x.2.2 y.1 ay ny ky y.2.1 y.2.2 w hOx.1 hnx gx ex hOy.1 hny gy ey h0 hy0 (fun q => h0 (zx.1 q)) (sgnD x) (by unfold sgnD; rw [if_neg h0]; split; exact Or.inr rfl; exact Or.inl rfl) sx (by rw [sy, hs])
 ·rw [if_pos hs, ← sx, ← sy]
  exact against_signs x.1 ax nx kx x.2.2 y.1 ay ny ky y.2.2 w (by rw [sx, sy]; exact hs)
attribute [local go_sem ↓] Go.wp_at_zero Go.wp_at_succ
theorem dcmp_not (s : Bool) (a : Option Addr) (len cap : Nat) (xs : List Int) (e : Int) (s' : Bool) (a' : Option Addr) (len' cap' : Nat) (ys : List Int) (e' : Int) (w : World) (h : IsW w a len cap xs) (hm : len ≤ 17592186044416) (h' : IsW w a' len' cap' ys) (hm' : len' ≤ 17592186044416) (hr : (rightB (val xs) e && rightB (val ys) e') = false) :
  Calls Tryz.prog 113 #[dyV s a len cap e, dyV s' a' len' cap' e'] w fun r w' => r = .returned (.tuple #[.int .i64 0, .int .i64 2]) ∧ Below w.heap.size w w' := by
 have hb0 : Below w.heap.size w (((w.alloc (.cells #[.bool s, .slice a len cap, .int .i64 e] 25)).alloc (.cells #[.bool s', .slice a' len' cap', .int .i64 e'] 25)).alloc (.cells #[.bool s, .slice a len cap, .int .i64 e, .bool s', .slice a' len' cap', .int .i64 e'] 25)) := (by repeat (first | exact Below.refl _ _ | apply Below.drew | refine Below.alloc ?_ (by simp; try omega) _))
 have RC : Hid _ := right2_calls (w.heap.size + 1 + 1) s a len cap xs e s' a' len' cap' ys e' _ (h.keep hb0) hm (h'.keep hb0) hm' (by go_simp) (by go_simp) (by go_simp) (by go_simp) (by go_simp) (by go_simp)
 rw [hr] at RC
 clear hr
 go_enter Tryz.func113, Tryz.ntmps113
 go_wp2_with fail
 refine Calls.mono RC.out ?_
 rintro r w1 ⟨rfl, hb1⟩
 go_wp2_with fail
 go_ret2
 exact ⟨rfl, nT hb0 hb1⟩
theorem dcmp_yes (s : Bool) (a : Option Addr) (len cap : Nat) (xs : List Int) (e : Int) (s' : Bool) (a' : Option Addr) (len' cap' : Nat) (ys : List Int) (e' : Int) (w : World) (h : IsW w a len cap xs) (hm : len ≤ 17592186044416) (h' : IsW w a' len' cap' ys) (hm' : len' ≤ 17592186044416) (hT : Tab w) (hr : rightB (val xs) e = true) (hr' : rightB (val ys) e' = true) :
  Calls Tryz.prog 113 #[dyV s a len cap e, dyV s' a' len' cap' e'] w fun r w' => r = .returned (.tuple #[.int .i64 (cmpD (formD s (val xs) e) (formD s' (val ys) e')), .int .i64 0]) ∧ Below w.heap.size w w' := by
 have hb0 : Below w.heap.size w (((w.alloc (.cells #[.bool s, .slice a len cap, .int .i64 e] 25)).alloc (.cells #[.bool s', .slice a' len' cap', .int .i64 e'] 25)).alloc (.cells #[.bool s, .slice a len cap, .int .i64 e, .bool s', .slice a' len' cap', .int .i64 e'] 25)) := (by repeat (first | exact Below.refl _ _ | apply Below.drew | refine Below.alloc ?_ (by simp; try omega) _))
 have RC : Hid _ := right2_calls (w.heap.size + 1 + 1) s a len cap xs e s' a' len' cap' ys e' _ (h.keep hb0) hm (h'.keep hb0) hm' (by go_simp) (by go_simp) (by go_simp) (by go_simp) (by go_simp) (by go_simp)
 rw [hr, hr'] at RC
 have HCGX : Hid (canG s (val xs) e = (formD s (val xs) e)) := canG_no (rightB_yes hr).1
 have HCGY : Hid (canG s' (val ys) e' = (formD s' (val ys) e')) := canG_no (rightB_yes hr').1
 have HEBX : Hid _ := right_exp hr
 have HEBY : Hid _ := right_exp hr'
 have HGX : Hid _ := form_fit s (val xs) e hr
 have HGY : Hid _ := form_fit s' (val ys) e' hr'
 have HBX : Hid _ := form_bounds s (val xs) e hr
 have HBY : Hid _ := form_bounds s' (val ys) e' hr'
 clear hr hr'
 go_enter Tryz.func113, Tryz.ntmps113
 go_wp2_with fail
 refine Calls.mono RC.out ?_
 rintro r w1 ⟨rfl, hb1⟩
 have hbw1 := nT hb0 hb1
 have k0 : w1.cell? ⟨w.heap.size, 0, none⟩ = some (.bool s) := kC hb1 (by go_simp)
 have k1 : w1.cell? ⟨w.heap.size, 1, none⟩ = some (.slice a len cap) := kC hb1 (by go_simp)
 have k2 : w1.cell? ⟨w.heap.size, 2, none⟩ = some (.int .i64 e) := kC hb1 (by go_simp)
 have l0 : w1.cell? ⟨w.heap.size + 1, 0, none⟩ = some (.bool s') := kC hb1 (by go_simp)
 have l1 : w1.cell? ⟨w.heap.size + 1, 1, none⟩ = some (.slice a' len' cap') := kC hb1 (by go_simp)
 have l2 : w1.cell? ⟨w.heap.size + 1, 2, none⟩ = some (.int .i64 e') := kC hb1 (by go_simp)
 clear RC hb1
 go_wp2_with fail
 go_region_with (first
   | (go_at_call 123; refine calls_guard #[dyV s a len cap e] ?_ ?_; (focus rfl); refine (canonical_calls s a len cap xs e _ (h.keep (by repeat (first | exact hbwY | exact hbw1 | exact Below.refl _ _ | apply Below.drew | refine Below.alloc ?_ (by simp; try omega) _))) hm (hT.kept (by repeat (first | exact hbwY | exact hbw1 | exact Below.refl _ _ | apply Below.drew | refine Below.alloc ?_ (by simp; try omega) _)))).mono ?_; rintro r wX ⟨aX, nX, cX, eX, rfl, HEX, HNX, HZX, hnX, hOX, hbX⟩; have hbwX : Below w.heap.size w wX := nT (by repeat (first | exact hbwY | exact hbw1 | exact Below.refl _ _ | apply Below.drew | refine Below.alloc ?_ (by simp; try omega) _)) hbX; have hbvX : Below w1.heap.size w1 wX := nT (by repeat (first | exact hbvY | exact Below.refl _ _ | apply Below.drew | refine Below.alloc ?_ (by simp; try omega) _)) hbX; obtain rfl := HEX.out HEBX.out.1 HEBX.out.2; rw [HCGX.out] at hOX HNX ⊢; clear HEX; have qX0 := kC hbvX k0; have qX1 := kC hbvX k1; have qX2 := kC hbvX k2; have qX3 := kC hbvX l0; have qX4 := kC hbvX l1; have qX5 := kC hbvX l2)
   | (go_at_call 123; refine calls_guard #[dyV s' a' len' cap' e'] ?_ ?_; (focus rfl); refine (canonical_calls s' a' len' cap' ys e' _ (h'.keep (by repeat (first | exact hbwX | exact hbw1 | exact Below.refl _ _ | apply Below.drew | refine Below.alloc ?_ (by simp; try omega) _))) hm' (hT.kept (by repeat (first | exact hbwX | exact hbw1 | exact Below.refl _ _ | apply Below.drew | refine Below.alloc ?_ (by simp; try omega) _)))).mono ?_; rintro r wY ⟨aY, nY, cY, eY, rfl, HEY, HNY, HZY, hnY, hOY, hbY⟩; have hbwY : Below w.heap.size w wY := nT (by repeat (first | exact hbwX | exact hbw1 | exact Below.refl _ _ | apply Below.drew | refine Below.alloc ?_ (by simp; try omega) _)) hbY; have hbvY : Below w1.heap.size w1 wY := nT (by repeat (first | exact hbvX | exact Below.refl _ _ | apply Below.drew | refine Below.alloc ?_ (by simp; try omega) _)) hbY; obtain rfl := HEY.out HEBY.out.1 HEBY.out.2; rw [HCGY.out] at hOY HNY ⊢; clear HEY; have qY0 := kC hbvY k0; have qY1 := kC hbvY k1; have qY2 := kC hbvY k2; have qY3 := kC hbvY l0; have qY4 := kC hbvY l1; have qY5 := kC hbvY l2)
   | (go_at_call 141; (first | (have hQX := (hOX.keep hbY).low (B' := 0) (Nat.zero_le _)) | (have hQX := hOX.low (B' := 0) (Nat.zero_le _))); (first | (have hQY := (hOY.keep hbX).low (B' := 0) (Nat.zero_le _)) | (have hQY := hOY.low (B' := 0) (Nat.zero_le _))); refine (dagainst_calls 0 _ _ (formD s (val xs) e) (formD s' (val ys) e') _ (hidN rfl rfl HNX HZX hnX hQX) (hidN rfl rfl HNY HZY hnY hQY) HGX.out HGY.out HBX.out HBY.out).mono ?_; rintro r wP ⟨rfl, hbP⟩; (first | (have hbwP := nT hbwY hbP) | (have hbwP := nT hbwX hbP))))
 all_goals
  go_wp2_with fail
  go_ret2
  exact ⟨rfl, hbwP⟩
end Go.Proofs.YtahpdcbmekgkfaaGreatDoor

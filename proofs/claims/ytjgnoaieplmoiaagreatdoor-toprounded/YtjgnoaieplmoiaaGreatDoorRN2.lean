/- Package round: which of two neighbours is chosen; a result with its exceptions. -/
import Derived.Test.YtjgnoaieplmoiaaGreatDoorRNX
namespace Go.Proofs.YtjgnoaieplmoiaaGreatDoor
open Go.RowKit

/-- which of two neighbours is nearest -/
def chV (down up : Int) (more : Int) : Int := if more < 2 then down else if 2 < more then up else if down % 2 = 0 then down else up
theorem and_one (x : Int) (h : U x) : bits .and .u64 x 1 = x % 2 := by
  obtain ⟨h0, h1⟩ := h
  obtain ⟨n, rfl⟩ := Int.eq_ofNat_of_zero_le h0
  rw [u64_and _ _ h0 (by omega) (by omega) (by omega)]
  simp only [Int.reduceToNat, Int.toNat_natCast, Nat.and_one_is_mod]
  omega
theorem and_three (x : Int) (h : U x) : bits .and .u64 x 3 = x % 4 := by
  obtain ⟨h0, h1⟩ := h
  obtain ⟨n, rfl⟩ := Int.eq_ofNat_of_zero_le h0
  rw [u64_and _ _ h0 (by omega) (by omega) (by omega)]
  have e : n &&& 3 = n % 4 := Nat.and_two_pow_sub_one_eq_mod n 2
  simp only [Int.reduceToNat, Int.toNat_natCast, e]
  omega

set_option maxRecDepth 100000 in
set_option maxHeartbeats 1000000 in
theorem closure_calls (b1 b2 b3 : Nat) (down up even more : Int) (w : World) (c1 : w.cell? ⟨b1, 0, none⟩ = some (.int .u64 down)) (c2 : w.cell? ⟨b2, 0, none⟩ = some (.int .u64 up)) (c3 : w.cell? ⟨b3, 0, none⟩ = some (.int .u64 even)) :
    Calls Tryz.prog 57 #[.int .u64 more, .pointer (some ⟨b1, 0, none⟩), .pointer (some ⟨b2, 0, none⟩), .pointer (some ⟨b3, 0, none⟩)] w fun r w' => r = .returned (.int .u64 (if more < 2 then down else if 2 < more then up else even)) ∧ w' = w := by
  by_cases h1 : more < 2
  · go_enter Tryz.func57, Tryz.ntmps57
    go_wp2_with fail
    go_ret
    exact ⟨rfl, rfl⟩
  · by_cases h2 : 2 < more
    · go_enter Tryz.func57, Tryz.ntmps57
      go_wp2_with fail
      go_ret
      exact ⟨rfl, rfl⟩
    · go_enter Tryz.func57, Tryz.ntmps57
      go_wp2_with fail
      go_ret
      exact ⟨rfl, rfl⟩

set_option maxRecDepth 100000 in
set_option maxHeartbeats 1000000 in
theorem chooser_calls (down up : Int) (w : World) (h : U down) :
    Calls Tryz.prog 42 #[.int .u64 down, .int .u64 up] w fun r w' => ∃ b1 b2 b3, r = .returned (.func (.func 57) #[] #[.pointer (some ⟨b1, 0, none⟩), .pointer (some ⟨b2, 0, none⟩), .pointer (some ⟨b3, 0, none⟩)]) ∧ w'.cell? ⟨b1, 0, none⟩ = some (.int .u64 down) ∧ w'.cell? ⟨b2, 0, none⟩ = some (.int .u64 up) ∧ w'.cell? ⟨b3, 0, none⟩ = some (.int .u64 (if down % 2 = 0 then down else up)) ∧ Below w.heap.size w w' := by
  have ha := and_one down h
  by_cases h1 : down % 2 = 0
  · rw [h1] at ha
    go_enter Tryz.func42, Tryz.ntmps42
    go_wp2_with fail
    go_ret
    refine ⟨_, _, _, rfl, by go_simp, by go_simp, by go_simp, nbelow_trans (nbelow_trans (below_one _ _) (below_one _ _)) (below_one _ _)⟩
  · have h2 : down % 2 = 1 := by omega
    rw [h2] at ha
    go_enter Tryz.func42, Tryz.ntmps42
    go_wp2_with fail
    go_ret
    refine ⟨_, _, _, rfl, by go_simp, by go_simp, by go_simp, nbelow_trans (nbelow_trans (below_one _ _) (below_one _ _)) (below_one _ _)⟩

def inxF (y : Int) (t : Bool) : Int := if absV y = 9218868437227405312 then (if t = true then 28 else 20) else (if t = true then 24 else 16)
set_option maxRecDepth 100000 in
set_option maxHeartbeats 1000000 in
theorem inexact_calls (y : Int) (t : Bool) (w : World) (h : U y) :
    Calls Tryz.prog 21 #[.int .u64 y, .bool t] w fun r w' => r = .returned (.agg #[.int .u64 y, .int .u8 (inxF y t)]) ∧ Below w.heap.size w w' := by
  have HA : Hid _ := fun w => abs_calls y w h
  have o1 : bits .or .u8 16 4 = 20 := by decide +kernel
  have o2 : bits .or .u8 16 8 = 24 := by decide +kernel
  have o3 : bits .or .u8 20 8 = 28 := by decide +kernel
  have hx : Hid (∀ v, absV y = v → inxF y t = if v = 9218868437227405312 then (if t = true then 28 else 20) else (if t = true then 24 else 16)) := fun v e => by unfold inxF; rw [e]
  generalize absV y = v at *
  replace hx := hx.out v rfl
  have Hx : Hid _ := hx
  clear hx h
  by_cases hv : v = 9218868437227405312
  · subst hv
    cases t with
    | false =>
      go_enter Tryz.func21, Tryz.ntmps21
      go_wp2_with fail
      refine Calls.mono (HA.out _) ?_
      rintro r w1 ⟨rfl, rfl⟩
      go_wp2_with fail
      exact bodyPost_ret (v := .agg #[.int .u64 y, .int .u8 20]) (by simp [results, Tryz.results21, go_sem]) rfl ⟨by rw [Hx.out]; simp, by repeat (first | exact Below.refl _ _ | refine Below.setCell ?_ (by simp) _ | refine Below.alloc ?_ (by simp) _)⟩
    | true =>
      go_enter Tryz.func21, Tryz.ntmps21
      go_wp2_with fail
      refine Calls.mono (HA.out _) ?_
      rintro r w1 ⟨rfl, rfl⟩
      go_wp2_with fail
      exact bodyPost_ret (v := .agg #[.int .u64 y, .int .u8 28]) (by simp [results, Tryz.results21, go_sem]) rfl ⟨by rw [Hx.out]; simp, by repeat (first | exact Below.refl _ _ | refine Below.setCell ?_ (by simp) _ | refine Below.alloc ?_ (by simp) _)⟩
  · cases t with
    | false =>
      go_enter Tryz.func21, Tryz.ntmps21
      go_wp2_with fail
      refine Calls.mono (HA.out _) ?_
      rintro r w1 ⟨rfl, rfl⟩
      go_wp2_with fail
      exact bodyPost_ret (v := .agg #[.int .u64 y, .int .u8 16]) (by simp [results, Tryz.results21, go_sem]) rfl ⟨by rw [Hx.out, if_neg hv]; simp, by repeat (first | exact Below.refl _ _ | refine Below.setCell ?_ (by simp) _ | refine Below.alloc ?_ (by simp) _)⟩
    | true =>
      go_enter Tryz.func21, Tryz.ntmps21
      go_wp2_with fail
      refine Calls.mono (HA.out _) ?_
      rintro r w1 ⟨rfl, rfl⟩
      go_wp2_with fail
      exact bodyPost_ret (v := .agg #[.int .u64 y, .int .u8 24]) (by simp [results, Tryz.results21, go_sem]) rfl ⟨by rw [Hx.out, if_neg hv]; simp, by repeat (first | exact Below.refl _ _ | refine Below.setCell ?_ (by simp) _ | refine Below.alloc ?_ (by simp) _)⟩
end Go.Proofs.YtjgnoaieplmoiaaGreatDoor

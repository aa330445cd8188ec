/- Package round: Decide. -/
import Derived.Test.YtjgnoaieplmoiaaGreatDoorRNV
import Derived.Deep.RegionHeld3
import Derived.Deep.CutRange
namespace Go.Proofs.YtjgnoaieplmoiaaGreatDoor
open Go.RowKit

/-- an interval as a value; in a box -/
abbrev ivV (s : Bool) (a : Option Addr) (n c : Nat) (e : Int) (s' : Bool) (a' : Option Addr) (n' c' : Nat) (e' : Int) : Value := .agg #[.bool s, .slice a n c, .int .i64 e, .bool s', .slice a' n' c', .int .i64 e']
def rtB (s : Bool) (m : Nat) (e : Int) (s' : Bool) (m' : Nat) (e' : Int) : Bool := (rightB m e && rightB m' e') && decide (cmpD (formD s m e) (formD s' m' e') ≤ 0)

set_option maxRecDepth 100000 in
set_option maxHeartbeats 2000000 in
theorem rright_calls (s : Bool) (a : Option Addr) (len cap : Nat) (xs : List Int) (e : Int) (s' : Bool) (a' : Option Addr) (len' cap' : Nat) (ys : List Int) (e' : Int) (w : World) (h : IsW w a len cap xs) (hm : len ≤ 17592186044000) (h' : IsW w a' len' cap' ys) (hm' : len' ≤ 17592186044000) (hT : Tab w) :
    Calls Tryz.prog 25 #[ivV s a len cap e s' a' len' cap' e'] w fun r w' => r = .returned (.bool (rtB s (val xs) e s' (val ys) e')) ∧ Below w.heap.size w w' := by
  have bA := below_one w (.cells #[.bool s, .slice a len cap, .int .i64 e, .bool s', .slice a' len' cap', .int .i64 e'] 27)
  cases hr : (rightB (val xs) e && rightB (val ys) e') with
  | false =>
    have HC : Hid _ := dcmp_not s a len cap xs e s' a' len' cap' ys e' _ (h.keep bA) (by omega) (h'.keep bA) (by omega) hr
    have e1 : Hid (rtB s (val xs) e s' (val ys) e' = false) := by rw [Hid]; unfold rtB; rw [hr]; rfl
    clear hr h h' hT
    go_enter Tryz.func25, Tryz.ntmps25
    go_wp2_with fail
    refine Calls.mono HC.out ?_
    rintro r w1 ⟨rfl, bN⟩
    go_wp2_with fail
    go_ret
    rw [e1.out]
    exact ⟨rfl, nbelow_trans bA bN⟩
  | true =>
    rw [Bool.and_eq_true] at hr
    have HC : Hid _ := dcmp_yes s a len cap xs e s' a' len' cap' ys e' _ (h.keep bA) (by omega) (h'.keep bA) (by omega) (hT.kept bA) hr.1 hr.2
    have e1 : Hid (rtB s (val xs) e s' (val ys) e' = decide (cmpD (formD s (val xs) e) (formD s' (val ys) e') ≤ 0)) := by rw [Hid]; unfold rtB; rw [hr.1, hr.2]; rfl
    generalize cmpD (formD s (val xs) e) (formD s' (val ys) e') = cc at *
    clear hr h h' hT
    go_enter Tryz.func25, Tryz.ntmps25
    go_wp2_with fail
    refine Calls.mono HC.out ?_
    rintro r w1 ⟨rfl, bN⟩
    go_wp2_with fail
    go_ret
    rw [e1.out]
    exact ⟨rfl, nbelow_trans bA bN⟩
end Go.Proofs.YtjgnoaieplmoiaaGreatDoor

/- The program's Shift. -/
import Derived.Test.YtlbaphijmonjoaaTMC
namespace Go.Proofs.Ytlbaphijmonjoaa
open Go.RowKit

attribute [local go_sem ↓] Go.wp_at_zero Go.wp_at_succ

def shiftD (p : Bool × Nat × Int) (i : Int) : Bool × Nat × Int := (p.1, p.2.1, if p.2.1 = 0 then p.2.2 else p.2.2 + i)
theorem shift_form (s : Bool) (m : Nat) (e i : Int) : shiftD (formD s m e) i = formD s m (e + i) := by
  unfold shiftD
  by_cases h : m = 0
  · rw [h, form_zero, form_zero]; rfl
  · have h2 := (odd_part h).1
    rw [form_pos s h, form_pos s h, if_neg (show ¬ m / 2 ^ tz m = 0 from fun q => by rw [q] at h2; omega)]
    show (s, m / 2 ^ tz m, e + (tz m : Int) + i) = _
    rw [Int.add_right_comm]

def shfE (n : Nat) (e i : Int) : Int := if n = 0 then e else e + i




end Go.Proofs.Ytlbaphijmonjoaa

/- The document's dyadic numbers: the difference. -/
import Derived.Test.YtccbpbgiiajdkaaRD13
import Derived.Test.YtccbpbgiiajdkaaRD4
namespace Go.Proofs.Ytccbpbgiiajdkaa
open Go.RowKit

theorem form_expc (s : Bool) (m : Nat) (e : Int) (hb : blen m ≤ 5000000) (he : -5000000 ≤ e ∧ e ≤ 5000000) : -10000000 ≤ (formD s m e).2.2 ∧ (formD s m e).2.2 ≤ 10000000 := by
  by_cases h0 : m = 0
  · rw [h0, form_zero]; exact ⟨by decide, by decide⟩
  · rw [form_pos s h0]
    have := tz_le_blen m
    show _ ≤ e + (tz m : Int) ∧ e + (tz m : Int) ≤ _
    omega
attribute [local go_sem ↓] Go.wp_at_zero Go.wp_at_succ

end Go.Proofs.Ytccbpbgiiajdkaa

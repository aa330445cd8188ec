/- Lists of floats as the document's dyadic numbers: all of them together. -/
import Derived.Test.YtjapgogiaklodaaGreatDoorEUd
import Derived.Test.YtjapgogiaklodaaGreatDoorEXb
import Derived.Deep.CutRange
import Derived.Deep.RegionHeld3
import Derived.Deep.DrawnRows
namespace Go.Proofs.YtjapgogiaklodaaGreatDoor
open Go.RowKit

attribute [local go_sem ↓] Go.wp_at_zero Go.wp_at_succ

namespace Fp
open EP
set_option maxRecDepth 100000 in
set_option maxHeartbeats 2000000 in
theorem moderates2_calls (a : Option Addr) (len cap most : Nat) (xs : List Nat) (w : World) (h : IsF w a len cap xs) (hm : len ≤ 17592186044000) :
    Calls Tryz.prog 6 #[.slice a len cap, .int .i64 (most : Int)] w fun e w' => ∃ b, e = .returned (.bool b) ∧ Dr w w' ∧ (b = true → len ≤ most ∧ ∀ i, i < len → (bd (xs.getD i 0) 1475 ∧ ∃ A i', Nm (xs.getD i 0) A i')) := by
  have HL : Hid (len = xs.length) := h.1
  have hcap := h.2.1.1
  go_enter Tryz.func6, Tryz.ntmps6
  go_wp2_with fail
  go_loopw [9] (fun i wr => ∃ k : Nat, k ≤ len ∧ i = .int .i64 k ∧ Dr w wr ∧ Hid (∀ j, j < k → (bd (xs.getD j 0) 1475 ∧ ∃ A i', Nm (xs.getD j 0) A i'))) (fun i _ => len - (intOf i).toNat)
  case atStart => exact ⟨0, by omega, rfl, Dr.refl _, fun j hj => by omega⟩
  case round =>
    obtain ⟨k, hk, rfl, hd, HR⟩ := hrel
    by_cases hlt : k < len
    · obtain ⟨bb, off, rfl, hbl, hc⟩ := (h.keep (hd.below _)).2.2 k hlt
      obtain ⟨x, hx⟩ : ∃ x, x = xs.getD k 0 := ⟨_, rfl⟩
      rw [← hx] at hc
      have HX : Hid (x = xs.getD k 0) := hx
      clear hx
      go_wp2_with fail
      refine Calls.mono (moderate2_calls x wr) ?_
      rintro e w2 ⟨t, rfl, d2, H2⟩
      have H2' : Hid (t = true → (bd x 1475 ∧ ∃ A i', Nm x A i')) := H2
      clear H2
      cases t with
      | false =>
        go_wp2_with fail
        go_ret
        exact ⟨_, rfl, hd.trans d2, fun e => by cases e⟩
      | true =>
        go_wp2_with fail
        go_round
        case rel =>
          refine ⟨k + 1, by omega, by go_num, hd.trans d2, fun j hj => ?_⟩
          by_cases e : j = k
          · subst e; rw [← HX.out]; exact H2'.out trivial
          · exact HR.out j (by omega)
        case measure => simp [intOf]; omega
    · have hkl : k = len := by omega
      subst hkl
      go_wp2_with fail
      go_ret
      exact ⟨_, rfl, hd, fun e => ⟨by simpa using e, HR.out⟩⟩
end Fp


end Go.Proofs.YtjapgogiaklodaaGreatDoor

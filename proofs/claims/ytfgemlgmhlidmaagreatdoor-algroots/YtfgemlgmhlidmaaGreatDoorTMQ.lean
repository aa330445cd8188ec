/- The program's Shift. The document's dyadic numbers, fourth part: Neg, Twice, Shift; the program's Neg, Abs, Shift in the same words. The document's dyadic numbers: the difference. The document's dyadic numbers: Sign, Top, Order, Cmp, Bits, Size, TopOf. -/
import Derived.Test.YtfgemlgmhlidmaaGreatDoorTMF
import Derived.Test.YtfgemlgmhlidmaaGreatDoorTMH
import Derived.Test.YtfgemlgmhlidmaaGreatDoorRD13
import Derived.Test.YtfgemlgmhlidmaaGreatDoorDCmp2

namespace Go.Proofs.YtfgemlgmhlidmaaGreatDoor
open Go.RowKit

attribute [local go_sem ↓] Go.wp_at_zero Go.wp_at_succ

end Go.Proofs.YtfgemlgmhlidmaaGreatDoor

namespace Go.Proofs.YtfgemlgmhlidmaaGreatDoor
open Go.RowKit

end Go.Proofs.YtfgemlgmhlidmaaGreatDoor

namespace Go.Proofs.YtfgemlgmhlidmaaGreatDoor
open Go.RowKit

attribute [local go_sem ↓] Go.wp_at_zero Go.wp_at_succ

end Go.Proofs.YtfgemlgmhlidmaaGreatDoor

namespace Go.Proofs.YtfgemlgmhlidmaaGreatDoor
open Go.RowKit

attribute [local go_sem ↓] Go.wp_at_zero Go.wp_at_succ
def sgnQ (s : Bool) (m : Nat) : Int := if m = 0 then 0 else if s = true then -1 else 1
theorem blen_odd {m : Nat} (h0 : m ≠ 0) : blen m = tz m + blen (m / 2 ^ tz m) := by
  have h1 := (odd_part h0).1
  have h2 := (odd_part h0).2
  have h3 := blen_mul (m / 2 ^ tz m) (tz m) (fun q => by rw [q] at h1; exact absurd h1 (by decide))
  rw [h2] at h3
  exact h3

set_option maxRecDepth 100000 in
set_option maxHeartbeats 2000000 in
theorem qSign_calls (s : Bool) (a : Option Addr) (len cap : Nat) (xs : List Int) (e : Int) (w : World) (h : IsW w a len cap xs) (hm : len ≤ 17592186044000) :
    Calls Tryz.prog 46 #[dyV s a len cap e] w fun r w' => r = .returned (.int .i64 (sgnQ s (val xs))) ∧ Below w.heap.size w w' := by
  have bw : Below w.heap.size w (w.alloc (.cells #[.bool s, .slice a len cap, .int .i64 e] 38)) := below_one _ _
  have HZ : Hid _ := qZero_calls s a len cap xs e _ (h.keep bw) (by omega)
  unfold sgnQ
  have k0 : (w.alloc (.cells #[.bool s, .slice a len cap, .int .i64 e] 38)).cell? ⟨w.heap.size, 0, none⟩ = some (.bool s) := by go_simp
  have k1 : (w.alloc (.cells #[.bool s, .slice a len cap, .int .i64 e] 38)).cell? ⟨w.heap.size, 1, none⟩ = some (.slice a len cap) := by go_simp
  have k2 : (w.alloc (.cells #[.bool s, .slice a len cap, .int .i64 e] 38)).cell? ⟨w.heap.size, 2, none⟩ = some (.int .i64 e) := by go_simp
  by_cases h0 : val xs = 0
  · rw [decide_eq_true h0] at HZ
    rw [if_pos h0]
    clear h0 hm h
    go_enter Tryz.func46, Tryz.ntmps46
    go_wp2_with fail
    refine Calls.mono HZ.out ?_
    rintro r w1 ⟨rfl, b1⟩
    replace bw := nT bw b1
    clear b1
    go_wp2_with fail
    go_ret
    exact ⟨rfl, bw⟩
  · rw [decide_eq_false h0] at HZ
    rw [if_neg h0]
    clear h0 hm h
    cases s
    all_goals
      go_enter Tryz.func46, Tryz.ntmps46
      go_wp2_with fail
      refine Calls.mono HZ.out ?_
      rintro r w1 ⟨rfl, b1⟩
      replace bw := nT bw b1
      replace k0 := kC b1 k0
      clear b1
      go_wp2_with fail
      go_ret
      exact ⟨rfl, bw⟩

end Go.Proofs.YtfgemlgmhlidmaaGreatDoor

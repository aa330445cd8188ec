/- The program's Shift. The document's dyadic numbers, fourth part: Neg, Twice, Shift; the program's Neg, Abs, Shift in the same words. The document's dyadic numbers: the difference. The document's dyadic numbers: Sign, Top, Order, Cmp, Bits, Size, TopOf. -/
import Derived.Test.YtfgemlgmhlidmaaGreatDoorTMF
import Derived.Test.YtfgemlgmhlidmaaGreatDoorTMH
import Derived.Test.YtfgemlgmhlidmaaGreatDoorRD13
import Derived.Test.YtfgemlgmhlidmaaGreatDoorDCmp2

namespace Go.Proofs.YtfgemlgmhlidmaaGreatDoor
open Go.RowKit

attribute [local go_sem ↓] Go.wp_at_zero Go.wp_at_succ

end Go.Proofs.YtfgemlgmhlidmaaGreatDoor

namespace Go.Proofs.YtfgemlgmhlidmaaGreatDoor
open Go.RowKit

set_option maxRecDepth 100000 in
set_option maxHeartbeats 2000000 in
theorem qTwice_calls (s : Bool) (a : Option Addr) (len cap : Nat) (xs : List Int) (e : Int) (i : Int) (w : World) (h : IsW w a len cap xs) (hm : len ≤ 17592186044000) (he : (-2305843009213693952 ≤ e ∧ e ≤ 2305843009213693952) ∧ -2305843009213693952 ≤ i ∧ i ≤ 2305843009213693952) :
    Calls Tryz.prog 70 #[dyV s a len cap e, .int .i64 i] w fun r w' => ∃ v, r = .returned v ∧ DyQ w.heap.size w' v (formD s (val xs) (e + i)) ∧ Below w.heap.size w w' := by
  have hb0 : Below w.heap.size w ((w.alloc (.cells #[.bool s, .slice a len cap, .int .i64 e] 38)).alloc (.cells #[.bool false, .slice none 0 0, .int .i64 0] 38)) := nT (below_one _ _) (below_one _ _)
  have HF : Hid _ := qForm_calls s a len cap xs (e + i) _ (h.keep hb0) hm (by omega)
  obtain ⟨⟨he1, he2⟩, hi1, hi2⟩ := he
  generalize formD s (val xs) (e + i) = p at *
  go_enter Tryz.func70, Tryz.ntmps70
  go_wp2_with fail
  refine Calls.mono HF.out ?_
  rintro r w1 ⟨_, rfl, ⟨a1, n1, c1, rfl, HN1, hO1⟩, hb1⟩
  obtain ⟨m0, m1, m2, f0, f1, f2⟩ := zero_dy (r := w.heap.size + 1) hb1 (by simp)
  have hb01 := nT hb0 hb1
  have hws : w.heap.size + 2 ≤ w1.heap.size := by have := hb1.size; simp at this; omega
  clear hb1 HF
  go_wp2_with fail
  refine bodyPost_ret (v := dyV p.1 a1 n1 c1 p.2.2) (by simp [results, Tryz.results70, go_sem, m0, m1, m2]) rfl ⟨_, rfl, ⟨a1, n1, c1, rfl, HN1, ?_⟩, ?_⟩
  · exact (((hO1.far _ _ (by simp)).far _ _ (by simp)).far _ _ (by simp)).low (by simp; omega)
  · exact ((hb01.setCell (by show w.heap.size ≤ w.heap.size + 1; omega) _).setCell (by show w.heap.size ≤ w.heap.size + 1; omega) _).setCell (by show w.heap.size ≤ w.heap.size + 1; omega) _

end Go.Proofs.YtfgemlgmhlidmaaGreatDoor

namespace Go.Proofs.YtfgemlgmhlidmaaGreatDoor
open Go.RowKit

attribute [local go_sem ↓] Go.wp_at_zero Go.wp_at_succ

end Go.Proofs.YtfgemlgmhlidmaaGreatDoor

namespace Go.Proofs.YtfgemlgmhlidmaaGreatDoor
open Go.RowKit

attribute [local go_sem ↓] Go.wp_at_zero Go.wp_at_succ
theorem blen_odd {m : Nat} (h0 : m ≠ 0) : blen m = tz m + blen (m / 2 ^ tz m) := by
  have h1 := (odd_part h0).1
  have h2 := (odd_part h0).2
  have h3 := blen_mul (m / 2 ^ tz m) (tz m) (fun q => by rw [q] at h1; exact absurd h1 (by decide))
  rw [h2] at h3
  exact h3

end Go.Proofs.YtfgemlgmhlidmaaGreatDoor

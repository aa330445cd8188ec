/- The document's dyadic numbers, sixth part: From whole, Int. -/
import Derived.Test.YtccbpbgiiajdkaaRD5
namespace Go.Proofs.Ytccbpbgiiajdkaa
open Go.RowKit

set_option maxRecDepth 100000 in
set_option maxHeartbeats 1000000 in
theorem qfrom_bad (x : Int) (w : World) (hU : U x) (hf : finB x = false) :
    Calls Try.prog 30 #[.int .u64 x] w fun r w' => r = .returned (.tuple #[dyV false none 0 0 0, .int .i64 5]) ∧ Below w.heap.size w w' := by
  have hb0 := below_one w (.cells #[.bool false, .slice none 0 0, .int .i64 0] 32)
  have FC : Hid _ := rFinite_calls x (w.alloc (.cells #[.bool false, .slice none 0 0, .int .i64 0] 32)) hU
  rw [hf] at FC
  obtain ⟨m0, m1, m2, f0, f1, f2⟩ := zero_dy (r := w.heap.size) (Below.refl _ (w.alloc (.cells #[.bool false, .slice none 0 0, .int .i64 0] 32))) rfl
  clear hU hf
  go_enter Try.func30, Try.ntmps30
  go_wp2_with fail
  refine Calls.mono FC.out ?_
  rintro r w1 ⟨rfl, rfl⟩
  go_wp2_with fail
  exact bodyPost_ret (v := .tuple #[dyV false none 0 0 0, .int .i64 5]) (by simp [results, Try.results30, go_sem, m0, m1, m2]) rfl ⟨rfl, hb0⟩
theorem qfrom_calls (x : Int) (w : World) (hU : U x) :
    Calls Try.prog 30 #[.int .u64 x] w fun r w' => ∃ v', r = .returned (.tuple #[v', .int .i64 (lastE x)]) ∧ DyQ w.heap.size w' v' (fromP x) ∧ Below w.heap.size w w' := by
  cases hf : finB x with
  | false =>
    have e1 : lastE x = 5 := by unfold lastE; rw [hf]; rfl
    have e2 : fromP x = (false, 0, 0) := by unfold fromP; rw [hf]; rfl
    rw [e1, e2]
    refine (qfrom_bad x w hU hf).mono ?_
    rintro r w' ⟨rfl, hb⟩
    exact ⟨_, rfl, dyQ_zero _ _, hb⟩
  | true =>
    have h1 := frac_bd x
    have h2 := exp_bd x
    by_cases he : expV x = 0
    · exact qfrom_end x w hU hf (fracV x).toNat (by omega) (by unfold countV; rw [if_pos he]) (fracV x).toNat (by omega) (Or.inl ⟨he, rfl⟩)
    · exact qfrom_end x w hU hf ((fracV x).toNat + 4503599627370496) (by omega) (by unfold countV; rw [if_neg he]; omega) (fracV x).toNat (by omega) (Or.inr ⟨by omega, by omega⟩)

end Go.Proofs.Ytccbpbgiiajdkaa

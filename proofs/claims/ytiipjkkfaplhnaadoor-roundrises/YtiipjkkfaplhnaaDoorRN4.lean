/- Package ulpref05: the document's rounding, cut, tiny. -/
import Derived.Test.YtiipjkkfaplhnaaDoorRN0
import Derived.Test.YtiipjkkfaplhnaaDoorTMA
import Derived.Test.YtiipjkkfaplhnaaDoorNRefS
import Derived.Test.YtiipjkkfaplhnaaDoorNRefH
import Derived.Test.YtiipjkkfaplhnaaDoorNRefR
import Derived.Test.YtiipjkkfaplhnaaDoorRWalks
import Derived.Test.YtiipjkkfaplhnaaDoorRDA
import Derived.Deep.RegionWith
import Derived.BigQuiet
namespace Go.Proofs.YtiipjkkfaplhnaaDoor
open Go.RowKit

set_option maxRecDepth 100000 in
set_option maxHeartbeats 1000000 in
theorem rtop_calls (s : Bool) (a : Option Addr) (len cap : Nat) (xs : List Int) (e : Int) (w : World) (h : IsW w a len cap xs) (hm : len ≤ 17592186044000) (hg : greatB (val xs) = false) (he : -32768 ≤ e ∧ e ≤ 32768) :
    Calls Tryd.prog 60 #[dyV s a len cap e] w fun r w' => r = .returned (.int .i64 (tpI (val xs) e + 1)) ∧ Below w.heap.size w w' := by
  have bA := below_one w (.cells #[.bool s, .slice a len cap, .int .i64 e] 25)
  have HL : Hid _ := fun w' (h' : IsW w' a len cap xs) => nLen_calls a len cap xs w' h' (by omega)
  have hbl := (great_not _).1 hg
  have W1 : IntKind.i64.wrap ((blen (val xs) : Int) + e) = tpI (val xs) e + 1 := by unfold tpI; rw [IntKind.wrap_i64]; omega
  generalize tpI (val xs) e + 1 = tp at *
  generalize (blen (val xs) : Int) = bl at *
  clear hg he hbl
  go_enter Tryd.func60, Tryd.ntmps60
  go_wp2_with fail
  have hI := h.keep bA
  have c1 : (w.alloc (.cells #[.bool s, .slice a len cap, .int .i64 e] 25)).cell? ⟨w.heap.size, 1, none⟩ = some (.slice a len cap) := by go_simp
  have c2 : (w.alloc (.cells #[.bool s, .slice a len cap, .int .i64 e] 25)).cell? ⟨w.heap.size, 2, none⟩ = some (.int .i64 e) := by go_simp
  generalize (w.alloc (.cells #[.bool s, .slice a len cap, .int .i64 e] 25)) = w0 at *
  go_region_with (go_at_call 59; refine (HL.out _ (IsW.keep hI (show Below w0.heap.size w0 _ from by repeat (first | exact Below.refl _ _ | refine Below.drew ?_ )))).mono ?_; rintro r w9 ⟨rfl, b9⟩; replace c1 := dcarry_cell b9 (p := ⟨w.heap.size, 1, none⟩) (v := .slice a len cap) (by go_simp); replace c2 := dcarry_cell b9 (p := ⟨w.heap.size, 2, none⟩) (v := .int .i64 e) (by go_simp); replace bA := nbelow_trans (show Below w.heap.size w _ from by repeat (first | exact bA | refine Below.drew ?_ )) b9; clear b9)
  all_goals go_wp2_with fail
  all_goals go_ret
  all_goals exact ⟨rfl, by repeat (first | exact bA | refine Below.drew ?_)⟩
end Go.Proofs.YtiipjkkfaplhnaaDoor

/- The walks of package nat, fifth part: sums and differences of words. -/
import Derived.Test.YtfmjgagajlhfoaaDoorNProg4
import Derived.Test.YtfmjgagajlhfoaaDoorNMem
import Derived.Laws.Externs
import Derived.Shelf.Spec.BitsCarry
namespace Go.Proofs.YtfmjgagajlhfoaaDoor
open Go.RowKit

theorem add64_run (x y c : Nat) (hc : c ≤ 1) (w : World) :
    (callFunc 84 #[.int .u64 x, .int .u64 y, .int .u64 c]).run Tryd.prog w = .ok (.value (.tuple #[.int .u64 (((x + y + c) % 18446744073709551616 : Nat) : Int), .int .u64 (((x + y + c) / 18446744073709551616 : Nat) : Int)])) w := by
  rw [run_callFunc_extern Tryd.func84 (by kernel_rfl) (by kernel_rfl) (by kernel_rfl) (e := add64Entry) (by kernel_rfl), run_add64 x y c (by omega) (by omega) (by omega) (by omega)]
  simp only [Result.andThen]
  congr 5 <;> omega
/-- What a difference of two words borrows. -/
def bor (x y b : Nat) : Nat := if x < y + b then 1 else 0
theorem bor_le (x y b : Nat) : bor x y b ≤ 1 := by unfold bor; split <;> omega
theorem sub64_run (x y b : Nat) (hb : b ≤ 1) (w : World) :
    (callFunc 100 #[.int .u64 x, .int .u64 y, .int .u64 b]).run Tryd.prog w = .ok (.value (.tuple #[.int .u64 (((x + 18446744073709551616 - y - b) % 18446744073709551616 : Nat) : Int), .int .u64 (bor x y b : Nat)])) w := by
  rw [run_callFunc_extern Tryd.func100 (by kernel_rfl) (by kernel_rfl) (by kernel_rfl) (e := sub64Entry) (by kernel_rfl), run_sub64 x y b hb]
  rfl
/-- The word that is left of two, and one borrowed. -/
def dif (x y b : Nat) : Nat := (x + 18446744073709551616 - y - b) % 18446744073709551616
theorem dif_lt (x y b : Nat) : dif x y b < 18446744073709551616 := Nat.mod_lt _ (by decide)
theorem dif_spec (x y b : Nat) (hx : x < 18446744073709551616) (hy : y < 18446744073709551616) (hb : b ≤ 1) : dif x y b + y + b = x + 18446744073709551616 * bor x y b := by
  unfold dif bor; split <;> omega

set_option maxHeartbeats 1000000 in
theorem sum_calls (g x y c : Nat) (w : World) (hc : w.cell? ⟨g, 0, none⟩ = some (.int .u64 (c : Int))) (hf : w.frozen? ⟨g, 0, none⟩ = false) (hc1 : c ≤ 1) :
    Calls Tryd.prog 62 #[.pointer (some ⟨g, 0, none⟩), .int .u64 (x : Int), .int .u64 (y : Int)] w fun e w' => e = .returned (.int .u64 (((x + y + c) % 18446744073709551616 : Nat) : Int)) ∧ w' = w.setCell ⟨g, 0, none⟩ (.int .u64 (((x + y + c) / 18446744073709551616 : Nat) : Int)) := by
  have hr := fun w => add64_run x y c hc1 w
  generalize ((x + y + c) % 18446744073709551616 : Nat) = z at *
  generalize ((x + y + c) / 18446744073709551616 : Nat) = k at *
  go_enter Tryd.func62, Tryd.ntmps62
  go_wp2
  go_ret
  exact ⟨rfl, rfl⟩

set_option maxHeartbeats 1000000 in
theorem difference_calls (g x y c : Nat) (w : World) (hc : w.cell? ⟨g, 0, none⟩ = some (.int .u64 (c : Int))) (hf : w.frozen? ⟨g, 0, none⟩ = false) (hc1 : c ≤ 1) :
    Calls Tryd.prog 83 #[.pointer (some ⟨g, 0, none⟩), .int .u64 (x : Int), .int .u64 (y : Int)] w fun e w' => e = .returned (.int .u64 (dif x y c : Nat)) ∧ w' = w.setCell ⟨g, 0, none⟩ (.int .u64 (bor x y c : Nat)) := by
  have hr := fun w => sub64_run x y c hc1 w
  show Calls _ _ _ _ fun e w' => e = .returned (.int .u64 (((x + 18446744073709551616 - y - c) % 18446744073709551616 : Nat) : Int)) ∧ w' = w.setCell ⟨g, 0, none⟩ (.int .u64 (bor x y c : Nat))
  generalize ((x + 18446744073709551616 - y - c) % 18446744073709551616 : Nat) = z at *
  generalize bor x y c = k at *
  go_enter Tryd.func83, Tryd.ntmps83
  go_wp2
  go_ret
  exact ⟨rfl, rfl⟩
end Go.Proofs.YtfmjgagajlhfoaaDoor

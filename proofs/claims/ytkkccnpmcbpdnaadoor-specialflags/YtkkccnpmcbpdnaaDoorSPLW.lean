/- SpecialFlags: the walk. -/
import Derived.Test.YtkkccnpmcbpdnaaDoorSPL1
import Derived.Test.YtkkccnpmcbpdnaaDoorSPL2
namespace Go.Proofs.YtkkccnpmcbpdnaaDoor
open Go.RowKit

set_option maxRecDepth 100000 in
set_option maxHeartbeats 8000000 in
theorem flags_none (f x y : Int) (w : World) (HB : Calls Tryd.prog 14 #[] w fun r w' => r = .returned (.bool true) ∧ Below w.heap.size w w')
    (S1 : ∀ W, Below w.heap.size w W → Calls Tryd.prog 15 #[.int .u8 f, .int .u64 x, .int .u64 y] W fun r w' => r = .returned (.tuple #[.agg #[.int .u64 0, .int .u8 0], .int .u8 0, .int .i64 2]) ∧ Below W.heap.size W w')
    (AC : ∀ W, Calls Tryd.prog 12 #[.int .u8 f] W fun r w' => r = .returned (.int .i64 0) ∧ Below W.heap.size W w') :
    Calls Tryd.prog 5 #[.int .u8 f, .int .u64 x, .int .u64 y] w fun r w' => r = .returned (.bool true) ∧ Below w.heap.size w w' := by
  replace S1 : Hid _ := S1
  replace AC : Hid _ := AC
  replace HB : Hid _ := HB
  go_enter Tryd.func5, Tryd.ntmps5
  go_wp2_with fail
  refine Calls.mono HB.out ?_
  rintro r w1 ⟨rfl, bb⟩
  go_wp2_with fail
  refine Calls.mono (S1.out _ bb) ?_
  rintro r w2 ⟨rfl, b1⟩
  have b2 := below_trans b1 (below_alloc w2 (.cells #[.int .u64 0, .int .u8 0] 33))
  have c0 : (w2.alloc (.cells #[.int .u64 0, .int .u8 0] 33)).cell? ⟨w2.heap.size, 0, none⟩ = some (.int .u64 0) := by go_simp
  have c1 : (w2.alloc (.cells #[.int .u64 0, .int .u8 0] 33)).cell? ⟨w2.heap.size, 1, none⟩ = some (.int .u8 0) := by go_simp
  replace bb := below_trans bb b2
  clear b1 b2
  go_wp2_with fail
  refine Calls.mono (AC.out _) ?_
  rintro r w3 ⟨rfl, b1⟩
  replace c0 := pcell b1 c0
  replace c1 := pcell b1 c1
  replace bb := below_trans bb b1
  clear b1
  go_wp2_with fail
  go_ret
  exact ⟨rfl, bb⟩

theorem specialFlags_walk (f x y : Int) (w : World) (hf : 0 ≤ f ∧ f ≤ 255) (h : U x) (k : U y) (hT : TabS w) :
    Calls Tryd.prog 5 #[.int .u8 f, .int .u64 x, .int .u64 y] w fun r w' => r = .returned (.bool true) ∧ Below w.heap.size w w' := by
  have HB := spBegins_calls w hT
  have S1 := fun W (b : Below w.heap.size w W) => sp_any f x y W hf.1 h k (hT.kept b)
  have IC := fun W (b : Below w.heap.size w W) => inside_calls f x y W hf.1 h k (hT.kept b).1 (hT.kept b).2.1
  have AC := fun W => argsN_calls f W hf.1
  have uR := spV_U f x y h k
  cases hi : isF f with
  | false =>
    have e1 : spV f x y = (0, 0, 0) := by unfold spV; rw [hi]; rfl
    have e2 : spE f = 2 := by unfold spE; rw [hi]; rfl
    have e3 : argsV f = 0 := by unfold argsV; rw [hi]; rfl
    rw [e1, e2] at S1
    rw [e3] at AC
    exact flags_none f x y w HB S1 AC
  | true =>
    have hb : 1 ≤ f ∧ f ≤ 36 := by unfold isF at hi; simpa using hi
    have e2 : spE f = 0 := by unfold spE; rw [hi]; rfl
    have hF : FlagR (siF f x y) (fiF f x y) (spV f x y) := by
      obtain ⟨n, rfl⟩ := Int.eq_ofNat_of_zero_le hf.1
      exact fl_all x y h k n (by omega) (by omega)
    have hI : (spV f x y).2.2 = 0 → fiF f x y = true → spIn f x y = true := by
      intro e0 e1
      unfold spIn
      rw [hi, e0]
      unfold fiF at e1
      unfold yOf
      by_cases h33 : 33 ≤ f
      · rw [if_pos h33] at e1 ⊢
        simp only [Bool.and_eq_true] at e1
        rw [fin_cls x h, fin_cls y k, e1.1, e1.2]
        rfl
      · rw [if_neg h33] at e1 ⊢
        rw [fin_cls x h, e1]
        rfl
    rw [e2] at S1
    by_cases h33 : 33 ≤ f
    · have e3 : argsV f = 2 := by
        unfold argsV isTwo
        rw [hi, decide_eq_true (show 33 ≤ f ∧ f ≤ 36 by omega)]
        rfl
      rw [e3] at AC
      exact flags_two f x y _ _ _ _ _ w h k HB S1 AC IC rfl rfl uR (siF f x y) (fiF f x y) (if_pos h33) (if_pos h33) hF hI
    · have e3 : argsV f = 1 := by
        unfold argsV isTwo
        rw [hi, decide_eq_false (show ¬ (33 ≤ f ∧ f ≤ 36) by omega)]
        rfl
      rw [e3] at AC
      exact flags_one f x y _ _ _ _ _ w h k HB S1 AC IC rfl rfl uR (siF f x y) (fiF f x y) (if_neg h33) (if_neg h33) hF hI
end Go.Proofs.YtkkccnpmcbpdnaaDoor

/- The statement RoundNears. -/
import Derived.Test.YtiipjkkfaplhnaaDoorRNA
import Derived.Test.YtiipjkkfaplhnaaDoorRND
namespace Go.Proofs.YtiipjkkfaplhnaaDoor
open Go.RowKit

set_option maxRecDepth 100000 in
set_option maxHeartbeats 4000000 in
theorem roundNears_walk (s : Bool) (a : Option Addr) (len cap : Nat) (xs : List Int) (e : Int) (w : World) (h : IsW w a len cap xs) (hm : len ≤ 17592186044000) (_he : -9223372036854775808 ≤ e ∧ e ≤ 9223372036854775807) (hT : Tab w) :
    Calls Tryd.prog 3 #[dyV s a len cap e] w fun r w' => r = .returned (.bool true) ∧ Below w.heap.size w w' := by
  have bA : Below w.heap.size w (w.alloc (.cells #[.bool s, .slice a len cap, .int .i64 e] 25)) := below_one _ _
  have H1 : Hid _ := fun w' (h' : IsW w' a len cap xs) t' => pNear_calls s a len cap xs e w' h' (by omega) t'
  have H2 : Hid _ := fun w' (h' : IsW w' a len cap xs) => qNear_calls s a len cap xs e w' h' hm
  have H3 : Hid _ := fun w' (h' : IsW w' a len cap xs) t' => pTiny_calls s a len cap xs e w' h' (by omega) t'
  have H4 : Hid _ := fun w' (h' : IsW w' a len cap xs) => qTiny_calls s a len cap xs e w' h' hm
  generalize nbR s (val xs) e = nb at *
  generalize flR s (val xs) e = fx at *
  generalize erR (val xs) e = er at *
  generalize tyR (val xs) e = ty at *
  have hI := h.keep bA
  have hT0 := hT.kept bA
  have c1 : (w.alloc (.cells #[.bool s, .slice a len cap, .int .i64 e] 25)).cell? ⟨w.heap.size, 0, none⟩ = some (.bool s) := by go_simp
  have c2 : (w.alloc (.cells #[.bool s, .slice a len cap, .int .i64 e] 25)).cell? ⟨w.heap.size, 1, none⟩ = some (.slice a len cap) := by go_simp
  have c3 : (w.alloc (.cells #[.bool s, .slice a len cap, .int .i64 e] 25)).cell? ⟨w.heap.size, 2, none⟩ = some (.int .i64 e) := by go_simp
  clear h hT _he
  go_enter Tryd.func3, Tryd.ntmps3
  go_wp2_with fail
  generalize (w.alloc (.cells #[.bool s, .slice a len cap, .int .i64 e] 25)) = w0 at *
  refine Calls.mono (H1.out _ hI hT0) ?_
  rintro r w1 ⟨rfl, bN⟩
  replace c1 := dcarry_cell bN c1
  replace c2 := dcarry_cell bN c2
  replace c3 := dcarry_cell bN c3
  replace hI := hI.keep bN
  replace hT0 := hT0.kept bN
  replace bA := nbelow_trans bA bN
  clear bN
  have bB := below_one w1 (.cells #[.int .u64 nb, .int .u8 fx] 29)
  have x0 : (w1.alloc (.cells #[.int .u64 nb, .int .u8 fx] 29)).cell? ⟨w1.heap.size, 0, none⟩ = some (.int .u64 nb) := by go_simp
  have x1 : (w1.alloc (.cells #[.int .u64 nb, .int .u8 fx] 29)).cell? ⟨w1.heap.size, 1, none⟩ = some (.int .u8 fx) := by go_simp
  replace c1 := dcarry_cell bB c1
  replace c2 := dcarry_cell bB c2
  replace c3 := dcarry_cell bB c3
  replace hI := hI.keep bB
  replace hT0 := hT0.kept bB
  replace bA := nbelow_trans bA bB
  clear bB
  go_wp2_with fail
  generalize (w1.alloc (.cells #[.int .u64 nb, .int .u8 fx] 29)) = w2 at *
  refine Calls.mono (H2.out _ hI) ?_
  rintro r w3 ⟨rfl, bN⟩
  replace x0 := dcarry_cell bN x0
  replace x1 := dcarry_cell bN x1
  replace c1 := dcarry_cell bN c1
  replace c2 := dcarry_cell bN c2
  replace c3 := dcarry_cell bN c3
  replace hI := hI.keep bN
  replace hT0 := hT0.kept bN
  replace bA := nbelow_trans bA bN
  clear bN
  have bB := below_one w3 (.cells #[.int .u64 nb, .int .u8 fx] 29)
  have y0 : (w3.alloc (.cells #[.int .u64 nb, .int .u8 fx] 29)).cell? ⟨w3.heap.size, 0, none⟩ = some (.int .u64 nb) := by go_simp
  have y1 : (w3.alloc (.cells #[.int .u64 nb, .int .u8 fx] 29)).cell? ⟨w3.heap.size, 1, none⟩ = some (.int .u8 fx) := by go_simp
  replace x0 := dcarry_cell bB x0
  replace x1 := dcarry_cell bB x1
  replace c1 := dcarry_cell bB c1
  replace c2 := dcarry_cell bB c2
  replace c3 := dcarry_cell bB c3
  replace hI := hI.keep bB
  replace hT0 := hT0.kept bB
  replace bA := nbelow_trans bA bB
  clear bB
  go_wp2_with fail
  generalize (w3.alloc (.cells #[.int .u64 nb, .int .u8 fx] 29)) = w4 at *
  refine Calls.mono (H3.out _ hI hT0) ?_
  rintro r w5 ⟨rfl, bN⟩
  replace x0 := dcarry_cell bN x0
  replace x1 := dcarry_cell bN x1
  replace y0 := dcarry_cell bN y0
  replace y1 := dcarry_cell bN y1
  replace c1 := dcarry_cell bN c1
  replace c2 := dcarry_cell bN c2
  replace c3 := dcarry_cell bN c3
  replace hI := hI.keep bN
  replace hT0 := hT0.kept bN
  replace bA := nbelow_trans bA bN
  clear bN
  go_wp2_with fail
  refine Calls.mono (H4.out _ hI) ?_
  rintro r w6 ⟨rfl, bN⟩
  replace x0 := dcarry_cell bN x0
  replace x1 := dcarry_cell bN x1
  replace y0 := dcarry_cell bN y0
  replace y1 := dcarry_cell bN y1
  replace c1 := dcarry_cell bN c1
  replace c2 := dcarry_cell bN c2
  replace c3 := dcarry_cell bN c3
  replace hI := hI.keep bN
  replace hT0 := hT0.kept bN
  replace bA := nbelow_trans bA bN
  clear bN
  go_wp2_with fail
  refine Calls.mono (rLives_calls _ hT0) ?_
  rintro r w7 ⟨rfl, bN⟩
  replace x0 := dcarry_cell bN x0
  replace x1 := dcarry_cell bN x1
  replace y0 := dcarry_cell bN y0
  replace y1 := dcarry_cell bN y1
  replace c1 := dcarry_cell bN c1
  replace c2 := dcarry_cell bN c2
  replace c3 := dcarry_cell bN c3
  replace hI := hI.keep bN
  replace hT0 := hT0.kept bN
  replace bA := nbelow_trans bA bN
  clear bN
  go_wp2_with fail
  go_ret
  exact ⟨rfl, bA⟩
end Go.Proofs.YtiipjkkfaplhnaaDoor

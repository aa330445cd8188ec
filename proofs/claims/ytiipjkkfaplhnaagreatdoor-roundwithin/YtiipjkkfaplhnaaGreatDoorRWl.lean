/- Package round: Wide, by the greater end. -/
import Derived.Test.YtiipjkkfaplhnaaGreatDoorRW1
namespace Go.Proofs.YtiipjkkfaplhnaaGreatDoor
open Go.RowKit

set_option maxRecDepth 100000 in
set_option maxHeartbeats 4000000 in
theorem wide_l0 (s : Bool) (a : Option Addr) (len cap : Nat) (xs : List Int) (e : Int) (s' : Bool) (a' : Option Addr) (len' cap' : Nat) (ys : List Int) (e' : Int) (p : Int) (w : World) (h : IsW w a len cap xs) (hm : len ≤ 17592186044000) (h' : IsW w a' len' cap' ys) (hm' : len' ≤ 17592186044000) (hT : Tab w) (hr : rtB s (val xs) e s' (val ys) e' = true) (hp : 0 ≤ p ∧ p ≤ 2048) (hc : 0 < cmpD (formD false (val xs) e) (formD false (val ys) e')) (h0 : mgE (val xs) e (val ys) e' p ≠ 0) :
    Calls Tryz.prog 7 #[ivV s a len cap e s' a' len' cap' e', .int .i64 p] w fun r w' => r = .returned (.tuple #[zIv, .int .i64 3]) ∧ Below w.heap.size w w' := by
  have HR : Hid _ := fun w' (g : IsW w' a len cap xs) (g' : IsW w' a' len' cap' ys) t' => rright_calls s a len cap xs e s' a' len' cap' ys e' w' g hm g' hm' t'
  have q1 := hr
  unfold rtB at q1
  simp only [Bool.and_eq_true] at q1
  have hp2 : ¬ p < 0 := by omega
  have hp3 : ¬ 2048 < p := by omega
  rw [hr] at HR
  have HG : Hid _ := fun w' (g : IsW w' a len cap xs) (g' : IsW w' a' len' cap' ys) t' => greater_lo s a len cap xs e s' a' len' cap' ys e' w' g hm g' hm' t' q1.1.1 q1.1.2 hc
  have HS : Hid _ := fun w' (g : IsW w' a len cap xs) t' => pShift_calls false a len cap xs e (-p) w' g (by omega) t'
  have m1 : shE false (val xs) e (-p) = mgE (val xs) e (val ys) e' p := by unfold mgE; rw [if_pos hc]
  have m2 : shP false (val xs) e (-p) = mgP (val xs) e (val ys) e' p := by unfold mgP; rw [if_pos hc]
  rw [m1, m2] at HS
  have W1 : IntKind.i64.wrap (-p) = -p := by rw [IntKind.wrap_i64]; omega
  clear hr q1 m1 m2 hc
  generalize mgE (val xs) e (val ys) e' p = eM at *
  generalize mgP (val xs) e (val ys) e' p = P at *
  have bA : Below w.heap.size w ((w.alloc (.cells #[.bool s, .slice a len cap, .int .i64 e, .bool s', .slice a' len' cap', .int .i64 e'] 27)).alloc (.cells #[.bool false, .slice none 0 0, .int .i64 0, .bool false, .slice none 0 0, .int .i64 0] 27)) := nbelow_trans (below_one _ _) (below_one _ _)
  have hI := h.keep bA
  have hJ := h'.keep bA
  have hT0 := hT.kept bA
  have c0 : ((w.alloc (.cells #[.bool s, .slice a len cap, .int .i64 e, .bool s', .slice a' len' cap', .int .i64 e'] 27)).alloc (.cells #[.bool false, .slice none 0 0, .int .i64 0, .bool false, .slice none 0 0, .int .i64 0] 27)).cell? ⟨w.heap.size, 0, none⟩ = some (.bool s) := by go_simp
  have c1 : ((w.alloc (.cells #[.bool s, .slice a len cap, .int .i64 e, .bool s', .slice a' len' cap', .int .i64 e'] 27)).alloc (.cells #[.bool false, .slice none 0 0, .int .i64 0, .bool false, .slice none 0 0, .int .i64 0] 27)).cell? ⟨w.heap.size, 1, none⟩ = some (.slice a len cap) := by go_simp
  have c2 : ((w.alloc (.cells #[.bool s, .slice a len cap, .int .i64 e, .bool s', .slice a' len' cap', .int .i64 e'] 27)).alloc (.cells #[.bool false, .slice none 0 0, .int .i64 0, .bool false, .slice none 0 0, .int .i64 0] 27)).cell? ⟨w.heap.size, 2, none⟩ = some (.int .i64 e) := by go_simp
  have c3 : ((w.alloc (.cells #[.bool s, .slice a len cap, .int .i64 e, .bool s', .slice a' len' cap', .int .i64 e'] 27)).alloc (.cells #[.bool false, .slice none 0 0, .int .i64 0, .bool false, .slice none 0 0, .int .i64 0] 27)).cell? ⟨w.heap.size, 3, none⟩ = some (.bool s') := by go_simp
  have c4 : ((w.alloc (.cells #[.bool s, .slice a len cap, .int .i64 e, .bool s', .slice a' len' cap', .int .i64 e'] 27)).alloc (.cells #[.bool false, .slice none 0 0, .int .i64 0, .bool false, .slice none 0 0, .int .i64 0] 27)).cell? ⟨w.heap.size, 4, none⟩ = some (.slice a' len' cap') := by go_simp
  have c5 : ((w.alloc (.cells #[.bool s, .slice a len cap, .int .i64 e, .bool s', .slice a' len' cap', .int .i64 e'] 27)).alloc (.cells #[.bool false, .slice none 0 0, .int .i64 0, .bool false, .slice none 0 0, .int .i64 0] 27)).cell? ⟨w.heap.size, 5, none⟩ = some (.int .i64 e') := by go_simp
  have z0 : ((w.alloc (.cells #[.bool s, .slice a len cap, .int .i64 e, .bool s', .slice a' len' cap', .int .i64 e'] 27)).alloc (.cells #[.bool false, .slice none 0 0, .int .i64 0, .bool false, .slice none 0 0, .int .i64 0] 27)).cell? ⟨w.heap.size + 1, 0, none⟩ = some (.bool false) := by go_simp
  have f0 : ((w.alloc (.cells #[.bool s, .slice a len cap, .int .i64 e, .bool s', .slice a' len' cap', .int .i64 e'] 27)).alloc (.cells #[.bool false, .slice none 0 0, .int .i64 0, .bool false, .slice none 0 0, .int .i64 0] 27)).frozen? ⟨w.heap.size + 1, 0, none⟩ = false := by go_simp
  have z1 : ((w.alloc (.cells #[.bool s, .slice a len cap, .int .i64 e, .bool s', .slice a' len' cap', .int .i64 e'] 27)).alloc (.cells #[.bool false, .slice none 0 0, .int .i64 0, .bool false, .slice none 0 0, .int .i64 0] 27)).cell? ⟨w.heap.size + 1, 1, none⟩ = some (.slice none 0 0) := by go_simp
  have f1 : ((w.alloc (.cells #[.bool s, .slice a len cap, .int .i64 e, .bool s', .slice a' len' cap', .int .i64 e'] 27)).alloc (.cells #[.bool false, .slice none 0 0, .int .i64 0, .bool false, .slice none 0 0, .int .i64 0] 27)).frozen? ⟨w.heap.size + 1, 1, none⟩ = false := by go_simp
  have z2 : ((w.alloc (.cells #[.bool s, .slice a len cap, .int .i64 e, .bool s', .slice a' len' cap', .int .i64 e'] 27)).alloc (.cells #[.bool false, .slice none 0 0, .int .i64 0, .bool false, .slice none 0 0, .int .i64 0] 27)).cell? ⟨w.heap.size + 1, 2, none⟩ = some (.int .i64 0) := by go_simp
  have f2 : ((w.alloc (.cells #[.bool s, .slice a len cap, .int .i64 e, .bool s', .slice a' len' cap', .int .i64 e'] 27)).alloc (.cells #[.bool false, .slice none 0 0, .int .i64 0, .bool false, .slice none 0 0, .int .i64 0] 27)).frozen? ⟨w.heap.size + 1, 2, none⟩ = false := by go_simp
  have z3 : ((w.alloc (.cells #[.bool s, .slice a len cap, .int .i64 e, .bool s', .slice a' len' cap', .int .i64 e'] 27)).alloc (.cells #[.bool false, .slice none 0 0, .int .i64 0, .bool false, .slice none 0 0, .int .i64 0] 27)).cell? ⟨w.heap.size + 1, 3, none⟩ = some (.bool false) := by go_simp
  have f3 : ((w.alloc (.cells #[.bool s, .slice a len cap, .int .i64 e, .bool s', .slice a' len' cap', .int .i64 e'] 27)).alloc (.cells #[.bool false, .slice none 0 0, .int .i64 0, .bool false, .slice none 0 0, .int .i64 0] 27)).frozen? ⟨w.heap.size + 1, 3, none⟩ = false := by go_simp
  have z4 : ((w.alloc (.cells #[.bool s, .slice a len cap, .int .i64 e, .bool s', .slice a' len' cap', .int .i64 e'] 27)).alloc (.cells #[.bool false, .slice none 0 0, .int .i64 0, .bool false, .slice none 0 0, .int .i64 0] 27)).cell? ⟨w.heap.size + 1, 4, none⟩ = some (.slice none 0 0) := by go_simp
  have f4 : ((w.alloc (.cells #[.bool s, .slice a len cap, .int .i64 e, .bool s', .slice a' len' cap', .int .i64 e'] 27)).alloc (.cells #[.bool false, .slice none 0 0, .int .i64 0, .bool false, .slice none 0 0, .int .i64 0] 27)).frozen? ⟨w.heap.size + 1, 4, none⟩ = false := by go_simp
  have z5 : ((w.alloc (.cells #[.bool s, .slice a len cap, .int .i64 e, .bool s', .slice a' len' cap', .int .i64 e'] 27)).alloc (.cells #[.bool false, .slice none 0 0, .int .i64 0, .bool false, .slice none 0 0, .int .i64 0] 27)).cell? ⟨w.heap.size + 1, 5, none⟩ = some (.int .i64 0) := by go_simp
  have f5 : ((w.alloc (.cells #[.bool s, .slice a len cap, .int .i64 e, .bool s', .slice a' len' cap', .int .i64 e'] 27)).alloc (.cells #[.bool false, .slice none 0 0, .int .i64 0, .bool false, .slice none 0 0, .int .i64 0] 27)).frozen? ⟨w.heap.size + 1, 5, none⟩ = false := by go_simp
  clear h h' hT
  go_enter Tryz.func7, Tryz.ntmps7
  go_wp2_with fail
  generalize ((w.alloc (.cells #[.bool s, .slice a len cap, .int .i64 e, .bool s', .slice a' len' cap', .int .i64 e'] 27)).alloc (.cells #[.bool false, .slice none 0 0, .int .i64 0, .bool false, .slice none 0 0, .int .i64 0] 27)) = w0 at *
  refine Calls.mono (HR.out _ hI hJ hT0) ?_
  rintro r w1 ⟨rfl, bN⟩
  replace f0 := dcarry_frozen bN z0 f0
  replace f1 := dcarry_frozen bN z1 f1
  replace f2 := dcarry_frozen bN z2 f2
  replace f3 := dcarry_frozen bN z3 f3
  replace f4 := dcarry_frozen bN z4 f4
  replace f5 := dcarry_frozen bN z5 f5
  replace c0 := dcarry_cell bN c0
  replace c1 := dcarry_cell bN c1
  replace c2 := dcarry_cell bN c2
  replace c3 := dcarry_cell bN c3
  replace c4 := dcarry_cell bN c4
  replace c5 := dcarry_cell bN c5
  replace z0 := dcarry_cell bN z0
  replace z1 := dcarry_cell bN z1
  replace z2 := dcarry_cell bN z2
  replace z3 := dcarry_cell bN z3
  replace z4 := dcarry_cell bN z4
  replace z5 := dcarry_cell bN z5
  replace hI := IsW.keep hI bN
  replace hJ := IsW.keep hJ bN
  replace hT0 := hT0.kept bN
  replace bA := nbelow_trans bA bN
  clear bN
  go_wp2_with fail
  refine Calls.mono (HG.out _ hI hJ hT0) ?_
  rintro r w2 ⟨rfl, bN⟩
  replace f0 := dcarry_frozen bN z0 f0
  replace f1 := dcarry_frozen bN z1 f1
  replace f2 := dcarry_frozen bN z2 f2
  replace f3 := dcarry_frozen bN z3 f3
  replace f4 := dcarry_frozen bN z4 f4
  replace f5 := dcarry_frozen bN z5 f5
  replace c0 := dcarry_cell bN c0
  replace c1 := dcarry_cell bN c1
  replace c2 := dcarry_cell bN c2
  replace c3 := dcarry_cell bN c3
  replace c4 := dcarry_cell bN c4
  replace c5 := dcarry_cell bN c5
  replace z0 := dcarry_cell bN z0
  replace z1 := dcarry_cell bN z1
  replace z2 := dcarry_cell bN z2
  replace z3 := dcarry_cell bN z3
  replace z4 := dcarry_cell bN z4
  replace z5 := dcarry_cell bN z5
  replace hI := IsW.keep hI bN
  replace hJ := IsW.keep hJ bN
  replace hT0 := hT0.kept bN
  replace bA := nbelow_trans bA bN
  clear bN
  go_wp2_with fail
  refine Calls.mono (HS.out _ hI hT0) ?_
  rintro r w3 ⟨v, rfl, ⟨ao, no, co, rfl, hno, hle, hOw⟩, bN⟩
  have HNo : Hid _ := hno
  have hO := hOw.1
  clear hno hOw
  replace f0 := dcarry_frozen bN z0 f0
  replace f1 := dcarry_frozen bN z1 f1
  replace f2 := dcarry_frozen bN z2 f2
  replace f3 := dcarry_frozen bN z3 f3
  replace f4 := dcarry_frozen bN z4 f4
  replace f5 := dcarry_frozen bN z5 f5
  replace c0 := dcarry_cell bN c0
  replace c1 := dcarry_cell bN c1
  replace c2 := dcarry_cell bN c2
  replace c3 := dcarry_cell bN c3
  replace c4 := dcarry_cell bN c4
  replace c5 := dcarry_cell bN c5
  replace z0 := dcarry_cell bN z0
  replace z1 := dcarry_cell bN z1
  replace z2 := dcarry_cell bN z2
  replace z3 := dcarry_cell bN z3
  replace z4 := dcarry_cell bN z4
  replace z5 := dcarry_cell bN z5
  replace hI := IsW.keep hI bN
  replace hJ := IsW.keep hJ bN
  replace hT0 := hT0.kept bN
  replace bA := nbelow_trans bA bN
  clear bN
  have bB := below_one w3 (.cells #[.bool P.1, .slice ao no co, .int .i64 P.2.2] 25)
  have m0 : (w3.alloc (.cells #[.bool P.1, .slice ao no co, .int .i64 P.2.2] 25)).cell? ⟨w3.heap.size, 0, none⟩ = some (.bool P.1) := by go_simp
  have m1 : (w3.alloc (.cells #[.bool P.1, .slice ao no co, .int .i64 P.2.2] 25)).cell? ⟨w3.heap.size, 1, none⟩ = some (.slice ao no co) := by go_simp
  have m2 : (w3.alloc (.cells #[.bool P.1, .slice ao no co, .int .i64 P.2.2] 25)).cell? ⟨w3.heap.size, 2, none⟩ = some (.int .i64 P.2.2) := by go_simp
  replace f0 := dcarry_frozen bB z0 f0
  replace f1 := dcarry_frozen bB z1 f1
  replace f2 := dcarry_frozen bB z2 f2
  replace f3 := dcarry_frozen bB z3 f3
  replace f4 := dcarry_frozen bB z4 f4
  replace f5 := dcarry_frozen bB z5 f5
  replace c0 := dcarry_cell bB c0
  replace c1 := dcarry_cell bB c1
  replace c2 := dcarry_cell bB c2
  replace c3 := dcarry_cell bB c3
  replace c4 := dcarry_cell bB c4
  replace c5 := dcarry_cell bB c5
  replace z0 := dcarry_cell bB z0
  replace z1 := dcarry_cell bB z1
  replace z2 := dcarry_cell bB z2
  replace z3 := dcarry_cell bB z3
  replace z4 := dcarry_cell bB z4
  replace z5 := dcarry_cell bB z5
  replace hI := IsW.keep hI bB
  replace hJ := IsW.keep hJ bB
  replace hT0 := hT0.kept bB
  replace bA := nbelow_trans bA bB
  clear bB
  go_wp2_with fail
  exact bodyPost_ret (v := .tuple #[zIv, .int .i64 3]) (by simp [results, Tryz.results7, go_sem, zIv, z0, z1, z2, z3, z4, z5]) rfl ⟨rfl, by repeat (first | (with_reducible exact bA) | (with_reducible refine Below.setCell ?_ (by simp) _))⟩

set_option maxRecDepth 100000 in
set_option maxHeartbeats 4000000 in
theorem wide_l1 (s : Bool) (a : Option Addr) (len cap : Nat) (xs : List Int) (e : Int) (s' : Bool) (a' : Option Addr) (len' cap' : Nat) (ys : List Int) (e' : Int) (p : Int) (w : World) (h : IsW w a len cap xs) (hm : len ≤ 17592186044000) (h' : IsW w a' len' cap' ys) (hm' : len' ≤ 17592186044000) (hT : Tab w) (hr : rtB s (val xs) e s' (val ys) e' = true) (hp : 0 ≤ p ∧ p ≤ 2048) (hc : 0 < cmpD (formD false (val xs) e) (formD false (val ys) e')) (h0 : mgE (val xs) e (val ys) e' p = 0) (h1 : wlE s (val xs) e (mgP (val xs) e (val ys) e' p) ≠ 0) :
    Calls Tryz.prog 7 #[ivV s a len cap e s' a' len' cap' e', .int .i64 p] w fun r w' => r = .returned (.tuple #[zIv, .int .i64 3]) ∧ Below w.heap.size w w' := by
  have HR : Hid _ := fun w' (g : IsW w' a len cap xs) (g' : IsW w' a' len' cap' ys) t' => rright_calls s a len cap xs e s' a' len' cap' ys e' w' g hm g' hm' t'
  have q1 := hr
  unfold rtB at q1
  simp only [Bool.and_eq_true] at q1
  have hp2 : ¬ p < 0 := by omega
  have hp3 : ¬ 2048 < p := by omega
  rw [hr] at HR
  have HG : Hid _ := fun w' (g : IsW w' a len cap xs) (g' : IsW w' a' len' cap' ys) t' => greater_lo s a len cap xs e s' a' len' cap' ys e' w' g hm g' hm' t' q1.1.1 q1.1.2 hc
  have HS : Hid _ := fun w' (g : IsW w' a len cap xs) t' => pShift_calls false a len cap xs e (-p) w' g (by omega) t'
  have m1 : shE false (val xs) e (-p) = mgE (val xs) e (val ys) e' p := by unfold mgE; rw [if_pos hc]
  have m2 : shP false (val xs) e (-p) = mgP (val xs) e (val ys) e' p := by unfold mgP; rw [if_pos hc]
  rw [m1, m2] at HS
  have W1 : IntKind.i64.wrap (-p) = -p := by rw [IntKind.wrap_i64]; omega
  rw [h0] at HS
  have HL : Hid _ := fun (ao : Option Addr) (n c : Nat) w' (g : IsW w' a len cap xs) (g' : IsW w' ao n c (wordsOf (mgP (val xs) e (val ys) e' p).2.1)) hn t' => pSub_calls s a len cap xs e (mgP (val xs) e (val ys) e' p).1 ao n c (wordsOf (mgP (val xs) e (val ys) e' p).2.1) (mgP (val xs) e (val ys) e' p).2.2 w' g hm g' hn t'
  rw [val_words] at HL
  have l1 : twE (rightB (val xs) e && rightB (mgP (val xs) e (val ys) e' p).2.1 (mgP (val xs) e (val ys) e' p).2.2) (sumD (formD s (val xs) e) (negD (formD (mgP (val xs) e (val ys) e' p).1 (mgP (val xs) e (val ys) e' p).2.1 (mgP (val xs) e (val ys) e' p).2.2))) = wlE s (val xs) e (mgP (val xs) e (val ys) e' p) := rfl
  have l2 : twP (rightB (val xs) e && rightB (mgP (val xs) e (val ys) e' p).2.1 (mgP (val xs) e (val ys) e' p).2.2) (sumD (formD s (val xs) e) (negD (formD (mgP (val xs) e (val ys) e' p).1 (mgP (val xs) e (val ys) e' p).2.1 (mgP (val xs) e (val ys) e' p).2.2))) = wlP s (val xs) e (mgP (val xs) e (val ys) e' p) := rfl
  rw [l1, l2] at HL
  clear l1 l2
  clear hr q1 m1 m2 hc h0
  generalize wlE s (val xs) e (mgP (val xs) e (val ys) e' p) = eL at *
  generalize wlP s (val xs) e (mgP (val xs) e (val ys) e' p) = PL at *
  generalize mgP (val xs) e (val ys) e' p = P at *
  have bA : Below w.heap.size w ((w.alloc (.cells #[.bool s, .slice a len cap, .int .i64 e, .bool s', .slice a' len' cap', .int .i64 e'] 27)).alloc (.cells #[.bool false, .slice none 0 0, .int .i64 0, .bool false, .slice none 0 0, .int .i64 0] 27)) := nbelow_trans (below_one _ _) (below_one _ _)
  have hI := h.keep bA
  have hJ := h'.keep bA
  have hT0 := hT.kept bA
  have c0 : ((w.alloc (.cells #[.bool s, .slice a len cap, .int .i64 e, .bool s', .slice a' len' cap', .int .i64 e'] 27)).alloc (.cells #[.bool false, .slice none 0 0, .int .i64 0, .bool false, .slice none 0 0, .int .i64 0] 27)).cell? ⟨w.heap.size, 0, none⟩ = some (.bool s) := by go_simp
  have c1 : ((w.alloc (.cells #[.bool s, .slice a len cap, .int .i64 e, .bool s', .slice a' len' cap', .int .i64 e'] 27)).alloc (.cells #[.bool false, .slice none 0 0, .int .i64 0, .bool false, .slice none 0 0, .int .i64 0] 27)).cell? ⟨w.heap.size, 1, none⟩ = some (.slice a len cap) := by go_simp
  have c2 : ((w.alloc (.cells #[.bool s, .slice a len cap, .int .i64 e, .bool s', .slice a' len' cap', .int .i64 e'] 27)).alloc (.cells #[.bool false, .slice none 0 0, .int .i64 0, .bool false, .slice none 0 0, .int .i64 0] 27)).cell? ⟨w.heap.size, 2, none⟩ = some (.int .i64 e) := by go_simp
  have c3 : ((w.alloc (.cells #[.bool s, .slice a len cap, .int .i64 e, .bool s', .slice a' len' cap', .int .i64 e'] 27)).alloc (.cells #[.bool false, .slice none 0 0, .int .i64 0, .bool false, .slice none 0 0, .int .i64 0] 27)).cell? ⟨w.heap.size, 3, none⟩ = some (.bool s') := by go_simp
  have c4 : ((w.alloc (.cells #[.bool s, .slice a len cap, .int .i64 e, .bool s', .slice a' len' cap', .int .i64 e'] 27)).alloc (.cells #[.bool false, .slice none 0 0, .int .i64 0, .bool false, .slice none 0 0, .int .i64 0] 27)).cell? ⟨w.heap.size, 4, none⟩ = some (.slice a' len' cap') := by go_simp
  have c5 : ((w.alloc (.cells #[.bool s, .slice a len cap, .int .i64 e, .bool s', .slice a' len' cap', .int .i64 e'] 27)).alloc (.cells #[.bool false, .slice none 0 0, .int .i64 0, .bool false, .slice none 0 0, .int .i64 0] 27)).cell? ⟨w.heap.size, 5, none⟩ = some (.int .i64 e') := by go_simp
  have z0 : ((w.alloc (.cells #[.bool s, .slice a len cap, .int .i64 e, .bool s', .slice a' len' cap', .int .i64 e'] 27)).alloc (.cells #[.bool false, .slice none 0 0, .int .i64 0, .bool false, .slice none 0 0, .int .i64 0] 27)).cell? ⟨w.heap.size + 1, 0, none⟩ = some (.bool false) := by go_simp
  have f0 : ((w.alloc (.cells #[.bool s, .slice a len cap, .int .i64 e, .bool s', .slice a' len' cap', .int .i64 e'] 27)).alloc (.cells #[.bool false, .slice none 0 0, .int .i64 0, .bool false, .slice none 0 0, .int .i64 0] 27)).frozen? ⟨w.heap.size + 1, 0, none⟩ = false := by go_simp
  have z1 : ((w.alloc (.cells #[.bool s, .slice a len cap, .int .i64 e, .bool s', .slice a' len' cap', .int .i64 e'] 27)).alloc (.cells #[.bool false, .slice none 0 0, .int .i64 0, .bool false, .slice none 0 0, .int .i64 0] 27)).cell? ⟨w.heap.size + 1, 1, none⟩ = some (.slice none 0 0) := by go_simp
  have f1 : ((w.alloc (.cells #[.bool s, .slice a len cap, .int .i64 e, .bool s', .slice a' len' cap', .int .i64 e'] 27)).alloc (.cells #[.bool false, .slice none 0 0, .int .i64 0, .bool false, .slice none 0 0, .int .i64 0] 27)).frozen? ⟨w.heap.size + 1, 1, none⟩ = false := by go_simp
  have z2 : ((w.alloc (.cells #[.bool s, .slice a len cap, .int .i64 e, .bool s', .slice a' len' cap', .int .i64 e'] 27)).alloc (.cells #[.bool false, .slice none 0 0, .int .i64 0, .bool false, .slice none 0 0, .int .i64 0] 27)).cell? ⟨w.heap.size + 1, 2, none⟩ = some (.int .i64 0) := by go_simp
  have f2 : ((w.alloc (.cells #[.bool s, .slice a len cap, .int .i64 e, .bool s', .slice a' len' cap', .int .i64 e'] 27)).alloc (.cells #[.bool false, .slice none 0 0, .int .i64 0, .bool false, .slice none 0 0, .int .i64 0] 27)).frozen? ⟨w.heap.size + 1, 2, none⟩ = false := by go_simp
  have z3 : ((w.alloc (.cells #[.bool s, .slice a len cap, .int .i64 e, .bool s', .slice a' len' cap', .int .i64 e'] 27)).alloc (.cells #[.bool false, .slice none 0 0, .int .i64 0, .bool false, .slice none 0 0, .int .i64 0] 27)).cell? ⟨w.heap.size + 1, 3, none⟩ = some (.bool false) := by go_simp
  have f3 : ((w.alloc (.cells #[.bool s, .slice a len cap, .int .i64 e, .bool s', .slice a' len' cap', .int .i64 e'] 27)).alloc (.cells #[.bool false, .slice none 0 0, .int .i64 0, .bool false, .slice none 0 0, .int .i64 0] 27)).frozen? ⟨w.heap.size + 1, 3, none⟩ = false := by go_simp
  have z4 : ((w.alloc (.cells #[.bool s, .slice a len cap, .int .i64 e, .bool s', .slice a' len' cap', .int .i64 e'] 27)).alloc (.cells #[.bool false, .slice none 0 0, .int .i64 0, .bool false, .slice none 0 0, .int .i64 0] 27)).cell? ⟨w.heap.size + 1, 4, none⟩ = some (.slice none 0 0) := by go_simp
  have f4 : ((w.alloc (.cells #[.bool s, .slice a len cap, .int .i64 e, .bool s', .slice a' len' cap', .int .i64 e'] 27)).alloc (.cells #[.bool false, .slice none 0 0, .int .i64 0, .bool false, .slice none 0 0, .int .i64 0] 27)).frozen? ⟨w.heap.size + 1, 4, none⟩ = false := by go_simp
  have z5 : ((w.alloc (.cells #[.bool s, .slice a len cap, .int .i64 e, .bool s', .slice a' len' cap', .int .i64 e'] 27)).alloc (.cells #[.bool false, .slice none 0 0, .int .i64 0, .bool false, .slice none 0 0, .int .i64 0] 27)).cell? ⟨w.heap.size + 1, 5, none⟩ = some (.int .i64 0) := by go_simp
  have f5 : ((w.alloc (.cells #[.bool s, .slice a len cap, .int .i64 e, .bool s', .slice a' len' cap', .int .i64 e'] 27)).alloc (.cells #[.bool false, .slice none 0 0, .int .i64 0, .bool false, .slice none 0 0, .int .i64 0] 27)).frozen? ⟨w.heap.size + 1, 5, none⟩ = false := by go_simp
  clear h h' hT
  go_enter Tryz.func7, Tryz.ntmps7
  go_wp2_with fail
  generalize ((w.alloc (.cells #[.bool s, .slice a len cap, .int .i64 e, .bool s', .slice a' len' cap', .int .i64 e'] 27)).alloc (.cells #[.bool false, .slice none 0 0, .int .i64 0, .bool false, .slice none 0 0, .int .i64 0] 27)) = w0 at *
  refine Calls.mono (HR.out _ hI hJ hT0) ?_
  rintro r w1 ⟨rfl, bN⟩
  replace f0 := dcarry_frozen bN z0 f0
  replace f1 := dcarry_frozen bN z1 f1
  replace f2 := dcarry_frozen bN z2 f2
  replace f3 := dcarry_frozen bN z3 f3
  replace f4 := dcarry_frozen bN z4 f4
  replace f5 := dcarry_frozen bN z5 f5
  replace c0 := dcarry_cell bN c0
  replace c1 := dcarry_cell bN c1
  replace c2 := dcarry_cell bN c2
  replace c3 := dcarry_cell bN c3
  replace c4 := dcarry_cell bN c4
  replace c5 := dcarry_cell bN c5
  replace z0 := dcarry_cell bN z0
  replace z1 := dcarry_cell bN z1
  replace z2 := dcarry_cell bN z2
  replace z3 := dcarry_cell bN z3
  replace z4 := dcarry_cell bN z4
  replace z5 := dcarry_cell bN z5
  replace hI := IsW.keep hI bN
  replace hJ := IsW.keep hJ bN
  replace hT0 := hT0.kept bN
  replace bA := nbelow_trans bA bN
  clear bN
  go_wp2_with fail
  refine Calls.mono (HG.out _ hI hJ hT0) ?_
  rintro r w2 ⟨rfl, bN⟩
  replace f0 := dcarry_frozen bN z0 f0
  replace f1 := dcarry_frozen bN z1 f1
  replace f2 := dcarry_frozen bN z2 f2
  replace f3 := dcarry_frozen bN z3 f3
  replace f4 := dcarry_frozen bN z4 f4
  replace f5 := dcarry_frozen bN z5 f5
  replace c0 := dcarry_cell bN c0
  replace c1 := dcarry_cell bN c1
  replace c2 := dcarry_cell bN c2
  replace c3 := dcarry_cell bN c3
  replace c4 := dcarry_cell bN c4
  replace c5 := dcarry_cell bN c5
  replace z0 := dcarry_cell bN z0
  replace z1 := dcarry_cell bN z1
  replace z2 := dcarry_cell bN z2
  replace z3 := dcarry_cell bN z3
  replace z4 := dcarry_cell bN z4
  replace z5 := dcarry_cell bN z5
  replace hI := IsW.keep hI bN
  replace hJ := IsW.keep hJ bN
  replace hT0 := hT0.kept bN
  replace bA := nbelow_trans bA bN
  clear bN
  go_wp2_with fail
  refine Calls.mono (HS.out _ hI hT0) ?_
  rintro r w3 ⟨v, rfl, ⟨ao, no, co, rfl, hno, hle, hOw⟩, bN⟩
  have HNo : Hid _ := hno
  have hO := hOw.1
  clear hno hOw
  replace f0 := dcarry_frozen bN z0 f0
  replace f1 := dcarry_frozen bN z1 f1
  replace f2 := dcarry_frozen bN z2 f2
  replace f3 := dcarry_frozen bN z3 f3
  replace f4 := dcarry_frozen bN z4 f4
  replace f5 := dcarry_frozen bN z5 f5
  replace c0 := dcarry_cell bN c0
  replace c1 := dcarry_cell bN c1
  replace c2 := dcarry_cell bN c2
  replace c3 := dcarry_cell bN c3
  replace c4 := dcarry_cell bN c4
  replace c5 := dcarry_cell bN c5
  replace z0 := dcarry_cell bN z0
  replace z1 := dcarry_cell bN z1
  replace z2 := dcarry_cell bN z2
  replace z3 := dcarry_cell bN z3
  replace z4 := dcarry_cell bN z4
  replace z5 := dcarry_cell bN z5
  replace hI := IsW.keep hI bN
  replace hJ := IsW.keep hJ bN
  replace hT0 := hT0.kept bN
  replace bA := nbelow_trans bA bN
  clear bN
  have bB := below_one w3 (.cells #[.bool P.1, .slice ao no co, .int .i64 P.2.2] 25)
  have m0 : (w3.alloc (.cells #[.bool P.1, .slice ao no co, .int .i64 P.2.2] 25)).cell? ⟨w3.heap.size, 0, none⟩ = some (.bool P.1) := by go_simp
  have m1 : (w3.alloc (.cells #[.bool P.1, .slice ao no co, .int .i64 P.2.2] 25)).cell? ⟨w3.heap.size, 1, none⟩ = some (.slice ao no co) := by go_simp
  have m2 : (w3.alloc (.cells #[.bool P.1, .slice ao no co, .int .i64 P.2.2] 25)).cell? ⟨w3.heap.size, 2, none⟩ = some (.int .i64 P.2.2) := by go_simp
  replace f0 := dcarry_frozen bB z0 f0
  replace f1 := dcarry_frozen bB z1 f1
  replace f2 := dcarry_frozen bB z2 f2
  replace f3 := dcarry_frozen bB z3 f3
  replace f4 := dcarry_frozen bB z4 f4
  replace f5 := dcarry_frozen bB z5 f5
  replace c0 := dcarry_cell bB c0
  replace c1 := dcarry_cell bB c1
  replace c2 := dcarry_cell bB c2
  replace c3 := dcarry_cell bB c3
  replace c4 := dcarry_cell bB c4
  replace c5 := dcarry_cell bB c5
  replace z0 := dcarry_cell bB z0
  replace z1 := dcarry_cell bB z1
  replace z2 := dcarry_cell bB z2
  replace z3 := dcarry_cell bB z3
  replace z4 := dcarry_cell bB z4
  replace z5 := dcarry_cell bB z5
  replace hI := IsW.keep hI bB
  replace hJ := IsW.keep hJ bB
  replace hO := IsW.keep hO bB
  replace hT0 := hT0.kept bB
  replace bA := nbelow_trans bA bB
  clear bB
  go_wp2_with fail
  generalize (w3.alloc (.cells #[.bool P.1, .slice ao no co, .int .i64 P.2.2] 25)) = w4 at *
  refine Calls.mono (HL.out _ _ _ _ hI hO (by omega) hT0) ?_
  rintro r w5 ⟨v, rfl, ⟨al, nl, cl, rfl, hnl, hll, hOl⟩, bN⟩
  have HNl : Hid _ := hnl
  clear hnl
  replace f0 := dcarry_frozen bN z0 f0
  replace f1 := dcarry_frozen bN z1 f1
  replace f2 := dcarry_frozen bN z2 f2
  replace f3 := dcarry_frozen bN z3 f3
  replace f4 := dcarry_frozen bN z4 f4
  replace f5 := dcarry_frozen bN z5 f5
  replace c0 := dcarry_cell bN c0
  replace c1 := dcarry_cell bN c1
  replace c2 := dcarry_cell bN c2
  replace c3 := dcarry_cell bN c3
  replace c4 := dcarry_cell bN c4
  replace c5 := dcarry_cell bN c5
  replace z0 := dcarry_cell bN z0
  replace z1 := dcarry_cell bN z1
  replace z2 := dcarry_cell bN z2
  replace z3 := dcarry_cell bN z3
  replace z4 := dcarry_cell bN z4
  replace z5 := dcarry_cell bN z5
  replace m0 := dcarry_cell bN m0
  replace m1 := dcarry_cell bN m1
  replace m2 := dcarry_cell bN m2
  replace hI := IsW.keep hI bN
  replace hJ := IsW.keep hJ bN
  replace hO := IsW.keep hO bN
  replace hT0 := hT0.kept bN
  replace bA := nbelow_trans bA bN
  clear bN
  have bB := below_one w5 (.cells #[.bool PL.1, .slice al nl cl, .int .i64 PL.2.2] 25)
  have l0 : (w5.alloc (.cells #[.bool PL.1, .slice al nl cl, .int .i64 PL.2.2] 25)).cell? ⟨w5.heap.size, 0, none⟩ = some (.bool PL.1) := by go_simp
  have l1 : (w5.alloc (.cells #[.bool PL.1, .slice al nl cl, .int .i64 PL.2.2] 25)).cell? ⟨w5.heap.size, 1, none⟩ = some (.slice al nl cl) := by go_simp
  have l2 : (w5.alloc (.cells #[.bool PL.1, .slice al nl cl, .int .i64 PL.2.2] 25)).cell? ⟨w5.heap.size, 2, none⟩ = some (.int .i64 PL.2.2) := by go_simp
  replace f0 := dcarry_frozen bB z0 f0
  replace f1 := dcarry_frozen bB z1 f1
  replace f2 := dcarry_frozen bB z2 f2
  replace f3 := dcarry_frozen bB z3 f3
  replace f4 := dcarry_frozen bB z4 f4
  replace f5 := dcarry_frozen bB z5 f5
  replace c0 := dcarry_cell bB c0
  replace c1 := dcarry_cell bB c1
  replace c2 := dcarry_cell bB c2
  replace c3 := dcarry_cell bB c3
  replace c4 := dcarry_cell bB c4
  replace c5 := dcarry_cell bB c5
  replace z0 := dcarry_cell bB z0
  replace z1 := dcarry_cell bB z1
  replace z2 := dcarry_cell bB z2
  replace z3 := dcarry_cell bB z3
  replace z4 := dcarry_cell bB z4
  replace z5 := dcarry_cell bB z5
  replace m0 := dcarry_cell bB m0
  replace m1 := dcarry_cell bB m1
  replace m2 := dcarry_cell bB m2
  replace hI := IsW.keep hI bB
  replace hJ := IsW.keep hJ bB
  replace hO := IsW.keep hO bB
  replace hT0 := hT0.kept bB
  replace bA := nbelow_trans bA bB
  clear bB
  go_wp2_with fail
  exact bodyPost_ret (v := .tuple #[zIv, .int .i64 3]) (by simp [results, Tryz.results7, go_sem, zIv, z0, z1, z2, z3, z4, z5]) rfl ⟨rfl, by repeat (first | (with_reducible exact bA) | (with_reducible refine Below.setCell ?_ (by simp) _))⟩

set_option maxRecDepth 100000 in
set_option maxHeartbeats 4000000 in
theorem wide_l2 (s : Bool) (a : Option Addr) (len cap : Nat) (xs : List Int) (e : Int) (s' : Bool) (a' : Option Addr) (len' cap' : Nat) (ys : List Int) (e' : Int) (p : Int) (w : World) (h : IsW w a len cap xs) (hm : len ≤ 17592186044000) (h' : IsW w a' len' cap' ys) (hm' : len' ≤ 17592186044000) (hT : Tab w) (hr : rtB s (val xs) e s' (val ys) e' = true) (hp : 0 ≤ p ∧ p ≤ 2048) (hc : 0 < cmpD (formD false (val xs) e) (formD false (val ys) e')) (h0 : mgE (val xs) e (val ys) e' p = 0) (h1 : wlE s (val xs) e (mgP (val xs) e (val ys) e' p) = 0) (h2 : whE s' (val ys) e' (mgP (val xs) e (val ys) e' p) ≠ 0) :
    Calls Tryz.prog 7 #[ivV s a len cap e s' a' len' cap' e', .int .i64 p] w fun r w' => r = .returned (.tuple #[zIv, .int .i64 3]) ∧ Below w.heap.size w w' := by
  have HR : Hid _ := fun w' (g : IsW w' a len cap xs) (g' : IsW w' a' len' cap' ys) t' => rright_calls s a len cap xs e s' a' len' cap' ys e' w' g hm g' hm' t'
  have q1 := hr
  unfold rtB at q1
  simp only [Bool.and_eq_true] at q1
  have hp2 : ¬ p < 0 := by omega
  have hp3 : ¬ 2048 < p := by omega
  rw [hr] at HR
  have HG : Hid _ := fun w' (g : IsW w' a len cap xs) (g' : IsW w' a' len' cap' ys) t' => greater_lo s a len cap xs e s' a' len' cap' ys e' w' g hm g' hm' t' q1.1.1 q1.1.2 hc
  have HS : Hid _ := fun w' (g : IsW w' a len cap xs) t' => pShift_calls false a len cap xs e (-p) w' g (by omega) t'
  have m1 : shE false (val xs) e (-p) = mgE (val xs) e (val ys) e' p := by unfold mgE; rw [if_pos hc]
  have m2 : shP false (val xs) e (-p) = mgP (val xs) e (val ys) e' p := by unfold mgP; rw [if_pos hc]
  rw [m1, m2] at HS
  have W1 : IntKind.i64.wrap (-p) = -p := by rw [IntKind.wrap_i64]; omega
  rw [h0] at HS
  have HL : Hid _ := fun (ao : Option Addr) (n c : Nat) w' (g : IsW w' a len cap xs) (g' : IsW w' ao n c (wordsOf (mgP (val xs) e (val ys) e' p).2.1)) hn t' => pSub_calls s a len cap xs e (mgP (val xs) e (val ys) e' p).1 ao n c (wordsOf (mgP (val xs) e (val ys) e' p).2.1) (mgP (val xs) e (val ys) e' p).2.2 w' g hm g' hn t'
  rw [val_words] at HL
  have l1 : twE (rightB (val xs) e && rightB (mgP (val xs) e (val ys) e' p).2.1 (mgP (val xs) e (val ys) e' p).2.2) (sumD (formD s (val xs) e) (negD (formD (mgP (val xs) e (val ys) e' p).1 (mgP (val xs) e (val ys) e' p).2.1 (mgP (val xs) e (val ys) e' p).2.2))) = wlE s (val xs) e (mgP (val xs) e (val ys) e' p) := rfl
  have l2 : twP (rightB (val xs) e && rightB (mgP (val xs) e (val ys) e' p).2.1 (mgP (val xs) e (val ys) e' p).2.2) (sumD (formD s (val xs) e) (negD (formD (mgP (val xs) e (val ys) e' p).1 (mgP (val xs) e (val ys) e' p).2.1 (mgP (val xs) e (val ys) e' p).2.2))) = wlP s (val xs) e (mgP (val xs) e (val ys) e' p) := rfl
  rw [l1, l2] at HL
  clear l1 l2
  rw [h1] at HL
  have HH : Hid _ := fun (ao : Option Addr) (n c : Nat) w' (g : IsW w' a' len' cap' ys) (g' : IsW w' ao n c (wordsOf (mgP (val xs) e (val ys) e' p).2.1)) hn t' => pAdd_calls s' a' len' cap' ys e' (mgP (val xs) e (val ys) e' p).1 ao n c (wordsOf (mgP (val xs) e (val ys) e' p).2.1) (mgP (val xs) e (val ys) e' p).2.2 w' g hm' g' hn t'
  rw [val_words] at HH
  have l1 : twE (rightB (val ys) e' && rightB (mgP (val xs) e (val ys) e' p).2.1 (mgP (val xs) e (val ys) e' p).2.2) (sumD (formD s' (val ys) e') (formD (mgP (val xs) e (val ys) e' p).1 (mgP (val xs) e (val ys) e' p).2.1 (mgP (val xs) e (val ys) e' p).2.2)) = whE s' (val ys) e' (mgP (val xs) e (val ys) e' p) := rfl
  have l2 : twP (rightB (val ys) e' && rightB (mgP (val xs) e (val ys) e' p).2.1 (mgP (val xs) e (val ys) e' p).2.2) (sumD (formD s' (val ys) e') (formD (mgP (val xs) e (val ys) e' p).1 (mgP (val xs) e (val ys) e' p).2.1 (mgP (val xs) e (val ys) e' p).2.2)) = whP s' (val ys) e' (mgP (val xs) e (val ys) e' p) := rfl
  rw [l1, l2] at HH
  clear l1 l2
  clear hr q1 m1 m2 hc h0 h1
  generalize whE s' (val ys) e' (mgP (val xs) e (val ys) e' p) = eH at *
  generalize wlP s (val xs) e (mgP (val xs) e (val ys) e' p) = PL at *
  generalize whP s' (val ys) e' (mgP (val xs) e (val ys) e' p) = PH at *
  generalize mgP (val xs) e (val ys) e' p = P at *
  have bA : Below w.heap.size w ((w.alloc (.cells #[.bool s, .slice a len cap, .int .i64 e, .bool s', .slice a' len' cap', .int .i64 e'] 27)).alloc (.cells #[.bool false, .slice none 0 0, .int .i64 0, .bool false, .slice none 0 0, .int .i64 0] 27)) := nbelow_trans (below_one _ _) (below_one _ _)
  have hI := h.keep bA
  have hJ := h'.keep bA
  have hT0 := hT.kept bA
  have c0 : ((w.alloc (.cells #[.bool s, .slice a len cap, .int .i64 e, .bool s', .slice a' len' cap', .int .i64 e'] 27)).alloc (.cells #[.bool false, .slice none 0 0, .int .i64 0, .bool false, .slice none 0 0, .int .i64 0] 27)).cell? ⟨w.heap.size, 0, none⟩ = some (.bool s) := by go_simp
  have c1 : ((w.alloc (.cells #[.bool s, .slice a len cap, .int .i64 e, .bool s', .slice a' len' cap', .int .i64 e'] 27)).alloc (.cells #[.bool false, .slice none 0 0, .int .i64 0, .bool false, .slice none 0 0, .int .i64 0] 27)).cell? ⟨w.heap.size, 1, none⟩ = some (.slice a len cap) := by go_simp
  have c2 : ((w.alloc (.cells #[.bool s, .slice a len cap, .int .i64 e, .bool s', .slice a' len' cap', .int .i64 e'] 27)).alloc (.cells #[.bool false, .slice none 0 0, .int .i64 0, .bool false, .slice none 0 0, .int .i64 0] 27)).cell? ⟨w.heap.size, 2, none⟩ = some (.int .i64 e) := by go_simp
  have c3 : ((w.alloc (.cells #[.bool s, .slice a len cap, .int .i64 e, .bool s', .slice a' len' cap', .int .i64 e'] 27)).alloc (.cells #[.bool false, .slice none 0 0, .int .i64 0, .bool false, .slice none 0 0, .int .i64 0] 27)).cell? ⟨w.heap.size, 3, none⟩ = some (.bool s') := by go_simp
  have c4 : ((w.alloc (.cells #[.bool s, .slice a len cap, .int .i64 e, .bool s', .slice a' len' cap', .int .i64 e'] 27)).alloc (.cells #[.bool false, .slice none 0 0, .int .i64 0, .bool false, .slice none 0 0, .int .i64 0] 27)).cell? ⟨w.heap.size, 4, none⟩ = some (.slice a' len' cap') := by go_simp
  have c5 : ((w.alloc (.cells #[.bool s, .slice a len cap, .int .i64 e, .bool s', .slice a' len' cap', .int .i64 e'] 27)).alloc (.cells #[.bool false, .slice none 0 0, .int .i64 0, .bool false, .slice none 0 0, .int .i64 0] 27)).cell? ⟨w.heap.size, 5, none⟩ = some (.int .i64 e') := by go_simp
  have z0 : ((w.alloc (.cells #[.bool s, .slice a len cap, .int .i64 e, .bool s', .slice a' len' cap', .int .i64 e'] 27)).alloc (.cells #[.bool false, .slice none 0 0, .int .i64 0, .bool false, .slice none 0 0, .int .i64 0] 27)).cell? ⟨w.heap.size + 1, 0, none⟩ = some (.bool false) := by go_simp
  have f0 : ((w.alloc (.cells #[.bool s, .slice a len cap, .int .i64 e, .bool s', .slice a' len' cap', .int .i64 e'] 27)).alloc (.cells #[.bool false, .slice none 0 0, .int .i64 0, .bool false, .slice none 0 0, .int .i64 0] 27)).frozen? ⟨w.heap.size + 1, 0, none⟩ = false := by go_simp
  have z1 : ((w.alloc (.cells #[.bool s, .slice a len cap, .int .i64 e, .bool s', .slice a' len' cap', .int .i64 e'] 27)).alloc (.cells #[.bool false, .slice none 0 0, .int .i64 0, .bool false, .slice none 0 0, .int .i64 0] 27)).cell? ⟨w.heap.size + 1, 1, none⟩ = some (.slice none 0 0) := by go_simp
  have f1 : ((w.alloc (.cells #[.bool s, .slice a len cap, .int .i64 e, .bool s', .slice a' len' cap', .int .i64 e'] 27)).alloc (.cells #[.bool false, .slice none 0 0, .int .i64 0, .bool false, .slice none 0 0, .int .i64 0] 27)).frozen? ⟨w.heap.size + 1, 1, none⟩ = false := by go_simp
  have z2 : ((w.alloc (.cells #[.bool s, .slice a len cap, .int .i64 e, .bool s', .slice a' len' cap', .int .i64 e'] 27)).alloc (.cells #[.bool false, .slice none 0 0, .int .i64 0, .bool false, .slice none 0 0, .int .i64 0] 27)).cell? ⟨w.heap.size + 1, 2, none⟩ = some (.int .i64 0) := by go_simp
  have f2 : ((w.alloc (.cells #[.bool s, .slice a len cap, .int .i64 e, .bool s', .slice a' len' cap', .int .i64 e'] 27)).alloc (.cells #[.bool false, .slice none 0 0, .int .i64 0, .bool false, .slice none 0 0, .int .i64 0] 27)).frozen? ⟨w.heap.size + 1, 2, none⟩ = false := by go_simp
  have z3 : ((w.alloc (.cells #[.bool s, .slice a len cap, .int .i64 e, .bool s', .slice a' len' cap', .int .i64 e'] 27)).alloc (.cells #[.bool false, .slice none 0 0, .int .i64 0, .bool false, .slice none 0 0, .int .i64 0] 27)).cell? ⟨w.heap.size + 1, 3, none⟩ = some (.bool false) := by go_simp
  have f3 : ((w.alloc (.cells #[.bool s, .slice a len cap, .int .i64 e, .bool s', .slice a' len' cap', .int .i64 e'] 27)).alloc (.cells #[.bool false, .slice none 0 0, .int .i64 0, .bool false, .slice none 0 0, .int .i64 0] 27)).frozen? ⟨w.heap.size + 1, 3, none⟩ = false := by go_simp
  have z4 : ((w.alloc (.cells #[.bool s, .slice a len cap, .int .i64 e, .bool s', .slice a' len' cap', .int .i64 e'] 27)).alloc (.cells #[.bool false, .slice none 0 0, .int .i64 0, .bool false, .slice none 0 0, .int .i64 0] 27)).cell? ⟨w.heap.size + 1, 4, none⟩ = some (.slice none 0 0) := by go_simp
  have f4 : ((w.alloc (.cells #[.bool s, .slice a len cap, .int .i64 e, .bool s', .slice a' len' cap', .int .i64 e'] 27)).alloc (.cells #[.bool false, .slice none 0 0, .int .i64 0, .bool false, .slice none 0 0, .int .i64 0] 27)).frozen? ⟨w.heap.size + 1, 4, none⟩ = false := by go_simp
  have z5 : ((w.alloc (.cells #[.bool s, .slice a len cap, .int .i64 e, .bool s', .slice a' len' cap', .int .i64 e'] 27)).alloc (.cells #[.bool false, .slice none 0 0, .int .i64 0, .bool false, .slice none 0 0, .int .i64 0] 27)).cell? ⟨w.heap.size + 1, 5, none⟩ = some (.int .i64 0) := by go_simp
  have f5 : ((w.alloc (.cells #[.bool s, .slice a len cap, .int .i64 e, .bool s', .slice a' len' cap', .int .i64 e'] 27)).alloc (.cells #[.bool false, .slice none 0 0, .int .i64 0, .bool false, .slice none 0 0, .int .i64 0] 27)).frozen? ⟨w.heap.size + 1, 5, none⟩ = false := by go_simp
  clear h h' hT
  go_enter Tryz.func7, Tryz.ntmps7
  go_wp2_with fail
  generalize ((w.alloc (.cells #[.bool s, .slice a len cap, .int .i64 e, .bool s', .slice a' len' cap', .int .i64 e'] 27)).alloc (.cells #[.bool false, .slice none 0 0, .int .i64 0, .bool false, .slice none 0 0, .int .i64 0] 27)) = w0 at *
  refine Calls.mono (HR.out _ hI hJ hT0) ?_
  rintro r w1 ⟨rfl, bN⟩
  replace f0 := dcarry_frozen bN z0 f0
  replace f1 := dcarry_frozen bN z1 f1
  replace f2 := dcarry_frozen bN z2 f2
  replace f3 := dcarry_frozen bN z3 f3
  replace f4 := dcarry_frozen bN z4 f4
  replace f5 := dcarry_frozen bN z5 f5
  replace c0 := dcarry_cell bN c0
  replace c1 := dcarry_cell bN c1
  replace c2 := dcarry_cell bN c2
  replace c3 := dcarry_cell bN c3
  replace c4 := dcarry_cell bN c4
  replace c5 := dcarry_cell bN c5
  replace z0 := dcarry_cell bN z0
  replace z1 := dcarry_cell bN z1
  replace z2 := dcarry_cell bN z2
  replace z3 := dcarry_cell bN z3
  replace z4 := dcarry_cell bN z4
  replace z5 := dcarry_cell bN z5
  replace hI := IsW.keep hI bN
  replace hJ := IsW.keep hJ bN
  replace hT0 := hT0.kept bN
  replace bA := nbelow_trans bA bN
  clear bN
  go_wp2_with fail
  refine Calls.mono (HG.out _ hI hJ hT0) ?_
  rintro r w2 ⟨rfl, bN⟩
  replace f0 := dcarry_frozen bN z0 f0
  replace f1 := dcarry_frozen bN z1 f1
  replace f2 := dcarry_frozen bN z2 f2
  replace f3 := dcarry_frozen bN z3 f3
  replace f4 := dcarry_frozen bN z4 f4
  replace f5 := dcarry_frozen bN z5 f5
  replace c0 := dcarry_cell bN c0
  replace c1 := dcarry_cell bN c1
  replace c2 := dcarry_cell bN c2
  replace c3 := dcarry_cell bN c3
  replace c4 := dcarry_cell bN c4
  replace c5 := dcarry_cell bN c5
  replace z0 := dcarry_cell bN z0
  replace z1 := dcarry_cell bN z1
  replace z2 := dcarry_cell bN z2
  replace z3 := dcarry_cell bN z3
  replace z4 := dcarry_cell bN z4
  replace z5 := dcarry_cell bN z5
  replace hI := IsW.keep hI bN
  replace hJ := IsW.keep hJ bN
  replace hT0 := hT0.kept bN
  replace bA := nbelow_trans bA bN
  clear bN
  go_wp2_with fail
  refine Calls.mono (HS.out _ hI hT0) ?_
  rintro r w3 ⟨v, rfl, ⟨ao, no, co, rfl, hno, hle, hOw⟩, bN⟩
  have HNo : Hid _ := hno
  have hO := hOw.1
  clear hno hOw
  replace f0 := dcarry_frozen bN z0 f0
  replace f1 := dcarry_frozen bN z1 f1
  replace f2 := dcarry_frozen bN z2 f2
  replace f3 := dcarry_frozen bN z3 f3
  replace f4 := dcarry_frozen bN z4 f4
  replace f5 := dcarry_frozen bN z5 f5
  replace c0 := dcarry_cell bN c0
  replace c1 := dcarry_cell bN c1
  replace c2 := dcarry_cell bN c2
  replace c3 := dcarry_cell bN c3
  replace c4 := dcarry_cell bN c4
  replace c5 := dcarry_cell bN c5
  replace z0 := dcarry_cell bN z0
  replace z1 := dcarry_cell bN z1
  replace z2 := dcarry_cell bN z2
  replace z3 := dcarry_cell bN z3
  replace z4 := dcarry_cell bN z4
  replace z5 := dcarry_cell bN z5
  replace hI := IsW.keep hI bN
  replace hJ := IsW.keep hJ bN
  replace hT0 := hT0.kept bN
  replace bA := nbelow_trans bA bN
  clear bN
  have bB := below_one w3 (.cells #[.bool P.1, .slice ao no co, .int .i64 P.2.2] 25)
  have m0 : (w3.alloc (.cells #[.bool P.1, .slice ao no co, .int .i64 P.2.2] 25)).cell? ⟨w3.heap.size, 0, none⟩ = some (.bool P.1) := by go_simp
  have m1 : (w3.alloc (.cells #[.bool P.1, .slice ao no co, .int .i64 P.2.2] 25)).cell? ⟨w3.heap.size, 1, none⟩ = some (.slice ao no co) := by go_simp
  have m2 : (w3.alloc (.cells #[.bool P.1, .slice ao no co, .int .i64 P.2.2] 25)).cell? ⟨w3.heap.size, 2, none⟩ = some (.int .i64 P.2.2) := by go_simp
  replace f0 := dcarry_frozen bB z0 f0
  replace f1 := dcarry_frozen bB z1 f1
  replace f2 := dcarry_frozen bB z2 f2
  replace f3 := dcarry_frozen bB z3 f3
  replace f4 := dcarry_frozen bB z4 f4
  replace f5 := dcarry_frozen bB z5 f5
  replace c0 := dcarry_cell bB c0
  replace c1 := dcarry_cell bB c1
  replace c2 := dcarry_cell bB c2
  replace c3 := dcarry_cell bB c3
  replace c4 := dcarry_cell bB c4
  replace c5 := dcarry_cell bB c5
  replace z0 := dcarry_cell bB z0
  replace z1 := dcarry_cell bB z1
  replace z2 := dcarry_cell bB z2
  replace z3 := dcarry_cell bB z3
  replace z4 := dcarry_cell bB z4
  replace z5 := dcarry_cell bB z5
  replace hI := IsW.keep hI bB
  replace hJ := IsW.keep hJ bB
  replace hO := IsW.keep hO bB
  replace hT0 := hT0.kept bB
  replace bA := nbelow_trans bA bB
  clear bB
  go_wp2_with fail
  generalize (w3.alloc (.cells #[.bool P.1, .slice ao no co, .int .i64 P.2.2] 25)) = w4 at *
  refine Calls.mono (HL.out _ _ _ _ hI hO (by omega) hT0) ?_
  rintro r w5 ⟨v, rfl, ⟨al, nl, cl, rfl, hnl, hll, hOl⟩, bN⟩
  have HNl : Hid _ := hnl
  clear hnl
  replace f0 := dcarry_frozen bN z0 f0
  replace f1 := dcarry_frozen bN z1 f1
  replace f2 := dcarry_frozen bN z2 f2
  replace f3 := dcarry_frozen bN z3 f3
  replace f4 := dcarry_frozen bN z4 f4
  replace f5 := dcarry_frozen bN z5 f5
  replace c0 := dcarry_cell bN c0
  replace c1 := dcarry_cell bN c1
  replace c2 := dcarry_cell bN c2
  replace c3 := dcarry_cell bN c3
  replace c4 := dcarry_cell bN c4
  replace c5 := dcarry_cell bN c5
  replace z0 := dcarry_cell bN z0
  replace z1 := dcarry_cell bN z1
  replace z2 := dcarry_cell bN z2
  replace z3 := dcarry_cell bN z3
  replace z4 := dcarry_cell bN z4
  replace z5 := dcarry_cell bN z5
  replace m0 := dcarry_cell bN m0
  replace m1 := dcarry_cell bN m1
  replace m2 := dcarry_cell bN m2
  replace hI := IsW.keep hI bN
  replace hJ := IsW.keep hJ bN
  replace hO := IsW.keep hO bN
  replace hT0 := hT0.kept bN
  replace bA := nbelow_trans bA bN
  clear bN
  have hSz : Hid (w.heap.size ≤ w5.heap.size) := bA.size
  have hl0 := hOl
  clear hOl
  have bB := below_one w5 (.cells #[.bool PL.1, .slice al nl cl, .int .i64 PL.2.2] 25)
  have l0 : (w5.alloc (.cells #[.bool PL.1, .slice al nl cl, .int .i64 PL.2.2] 25)).cell? ⟨w5.heap.size, 0, none⟩ = some (.bool PL.1) := by go_simp
  have l1 : (w5.alloc (.cells #[.bool PL.1, .slice al nl cl, .int .i64 PL.2.2] 25)).cell? ⟨w5.heap.size, 1, none⟩ = some (.slice al nl cl) := by go_simp
  have l2 : (w5.alloc (.cells #[.bool PL.1, .slice al nl cl, .int .i64 PL.2.2] 25)).cell? ⟨w5.heap.size, 2, none⟩ = some (.int .i64 PL.2.2) := by go_simp
  replace f0 := dcarry_frozen bB z0 f0
  replace f1 := dcarry_frozen bB z1 f1
  replace f2 := dcarry_frozen bB z2 f2
  replace f3 := dcarry_frozen bB z3 f3
  replace f4 := dcarry_frozen bB z4 f4
  replace f5 := dcarry_frozen bB z5 f5
  replace c0 := dcarry_cell bB c0
  replace c1 := dcarry_cell bB c1
  replace c2 := dcarry_cell bB c2
  replace c3 := dcarry_cell bB c3
  replace c4 := dcarry_cell bB c4
  replace c5 := dcarry_cell bB c5
  replace z0 := dcarry_cell bB z0
  replace z1 := dcarry_cell bB z1
  replace z2 := dcarry_cell bB z2
  replace z3 := dcarry_cell bB z3
  replace z4 := dcarry_cell bB z4
  replace z5 := dcarry_cell bB z5
  replace m0 := dcarry_cell bB m0
  replace m1 := dcarry_cell bB m1
  replace m2 := dcarry_cell bB m2
  replace hI := IsW.keep hI bB
  replace hJ := IsW.keep hJ bB
  replace hO := IsW.keep hO bB
  replace hT0 := hT0.kept bB
  replace bA := nbelow_trans bA bB
  clear bB
  replace hl0 := hl0.keep (below_one _ (.cells #[.bool PL.1, .slice al nl cl, .int .i64 PL.2.2] 25))
  go_wp2_with fail
  generalize (w5.alloc (.cells #[.bool PL.1, .slice al nl cl, .int .i64 PL.2.2] 25)) = w6 at *
  refine Calls.mono (HH.out _ _ _ _ hJ hO (by omega) hT0) ?_
  rintro r w7 ⟨v, rfl, ⟨ah, nh, ch, rfl, hnh, hlh, hOh⟩, bN⟩
  have HNh : Hid _ := hnh
  clear hnh
  replace hl0 := hl0.keep bN
  replace f0 := dcarry_frozen bN z0 f0
  replace f1 := dcarry_frozen bN z1 f1
  replace f2 := dcarry_frozen bN z2 f2
  replace f3 := dcarry_frozen bN z3 f3
  replace f4 := dcarry_frozen bN z4 f4
  replace f5 := dcarry_frozen bN z5 f5
  replace c0 := dcarry_cell bN c0
  replace c1 := dcarry_cell bN c1
  replace c2 := dcarry_cell bN c2
  replace c3 := dcarry_cell bN c3
  replace c4 := dcarry_cell bN c4
  replace c5 := dcarry_cell bN c5
  replace z0 := dcarry_cell bN z0
  replace z1 := dcarry_cell bN z1
  replace z2 := dcarry_cell bN z2
  replace z3 := dcarry_cell bN z3
  replace z4 := dcarry_cell bN z4
  replace z5 := dcarry_cell bN z5
  replace m0 := dcarry_cell bN m0
  replace m1 := dcarry_cell bN m1
  replace m2 := dcarry_cell bN m2
  replace l0 := dcarry_cell bN l0
  replace l1 := dcarry_cell bN l1
  replace l2 := dcarry_cell bN l2
  replace hI := IsW.keep hI bN
  replace hJ := IsW.keep hJ bN
  replace hO := IsW.keep hO bN
  replace hT0 := hT0.kept bN
  replace bA := nbelow_trans bA bN
  clear bN
  have bB := below_one w7 (.cells #[.bool PH.1, .slice ah nh ch, .int .i64 PH.2.2] 25)
  have k0 : (w7.alloc (.cells #[.bool PH.1, .slice ah nh ch, .int .i64 PH.2.2] 25)).cell? ⟨w7.heap.size, 0, none⟩ = some (.bool PH.1) := by go_simp
  have k1 : (w7.alloc (.cells #[.bool PH.1, .slice ah nh ch, .int .i64 PH.2.2] 25)).cell? ⟨w7.heap.size, 1, none⟩ = some (.slice ah nh ch) := by go_simp
  have k2 : (w7.alloc (.cells #[.bool PH.1, .slice ah nh ch, .int .i64 PH.2.2] 25)).cell? ⟨w7.heap.size, 2, none⟩ = some (.int .i64 PH.2.2) := by go_simp
  replace f0 := dcarry_frozen bB z0 f0
  replace f1 := dcarry_frozen bB z1 f1
  replace f2 := dcarry_frozen bB z2 f2
  replace f3 := dcarry_frozen bB z3 f3
  replace f4 := dcarry_frozen bB z4 f4
  replace f5 := dcarry_frozen bB z5 f5
  replace c0 := dcarry_cell bB c0
  replace c1 := dcarry_cell bB c1
  replace c2 := dcarry_cell bB c2
  replace c3 := dcarry_cell bB c3
  replace c4 := dcarry_cell bB c4
  replace c5 := dcarry_cell bB c5
  replace z0 := dcarry_cell bB z0
  replace z1 := dcarry_cell bB z1
  replace z2 := dcarry_cell bB z2
  replace z3 := dcarry_cell bB z3
  replace z4 := dcarry_cell bB z4
  replace z5 := dcarry_cell bB z5
  replace m0 := dcarry_cell bB m0
  replace m1 := dcarry_cell bB m1
  replace m2 := dcarry_cell bB m2
  replace l0 := dcarry_cell bB l0
  replace l1 := dcarry_cell bB l1
  replace l2 := dcarry_cell bB l2
  replace hI := IsW.keep hI bB
  replace hJ := IsW.keep hJ bB
  replace hO := IsW.keep hO bB
  replace hT0 := hT0.kept bB
  replace bA := nbelow_trans bA bB
  clear bB
  go_wp2_with fail
  exact bodyPost_ret (v := .tuple #[zIv, .int .i64 3]) (by simp [results, Tryz.results7, go_sem, zIv, z0, z1, z2, z3, z4, z5]) rfl ⟨rfl, by repeat (first | (with_reducible exact bA) | (with_reducible refine Below.setCell ?_ (by simp) _))⟩

set_option maxRecDepth 100000 in
set_option maxHeartbeats 4000000 in
theorem wide_l3 (s : Bool) (a : Option Addr) (len cap : Nat) (xs : List Int) (e : Int) (s' : Bool) (a' : Option Addr) (len' cap' : Nat) (ys : List Int) (e' : Int) (p : Int) (w : World) (h : IsW w a len cap xs) (hm : len ≤ 17592186044000) (h' : IsW w a' len' cap' ys) (hm' : len' ≤ 17592186044000) (hT : Tab w) (hr : rtB s (val xs) e s' (val ys) e' = true) (hp : 0 ≤ p ∧ p ≤ 2048) (hc : 0 < cmpD (formD false (val xs) e) (formD false (val ys) e')) (h0 : mgE (val xs) e (val ys) e' p = 0) (h1 : wlE s (val xs) e (mgP (val xs) e (val ys) e' p) = 0) (h2 : whE s' (val ys) e' (mgP (val xs) e (val ys) e' p) = 0) :
    Calls Tryz.prog 7 #[ivV s a len cap e s' a' len' cap' e', .int .i64 p] w fun r w' => ∃ al nl cl ah nh ch, r = .returned (.tuple #[ivV (wlP s (val xs) e (mgP (val xs) e (val ys) e' p)).1 al nl cl (wlP s (val xs) e (mgP (val xs) e (val ys) e' p)).2.2 (whP s' (val ys) e' (mgP (val xs) e (val ys) e' p)).1 ah nh ch (whP s' (val ys) e' (mgP (val xs) e (val ys) e' p)).2.2, .int .i64 0]) ∧ nl ≤ 1024 ∧ nh ≤ 1024 ∧ IsW w' al nl cl (wordsOf (wlP s (val xs) e (mgP (val xs) e (val ys) e' p)).2.1) ∧ IsW w' ah nh ch (wordsOf (whP s' (val ys) e' (mgP (val xs) e (val ys) e' p)).2.1) ∧ Below w.heap.size w w' := by
  have HR : Hid _ := fun w' (g : IsW w' a len cap xs) (g' : IsW w' a' len' cap' ys) t' => rright_calls s a len cap xs e s' a' len' cap' ys e' w' g hm g' hm' t'
  have q1 := hr
  unfold rtB at q1
  simp only [Bool.and_eq_true] at q1
  have hp2 : ¬ p < 0 := by omega
  have hp3 : ¬ 2048 < p := by omega
  rw [hr] at HR
  have HG : Hid _ := fun w' (g : IsW w' a len cap xs) (g' : IsW w' a' len' cap' ys) t' => greater_lo s a len cap xs e s' a' len' cap' ys e' w' g hm g' hm' t' q1.1.1 q1.1.2 hc
  have HS : Hid _ := fun w' (g : IsW w' a len cap xs) t' => pShift_calls false a len cap xs e (-p) w' g (by omega) t'
  have m1 : shE false (val xs) e (-p) = mgE (val xs) e (val ys) e' p := by unfold mgE; rw [if_pos hc]
  have m2 : shP false (val xs) e (-p) = mgP (val xs) e (val ys) e' p := by unfold mgP; rw [if_pos hc]
  rw [m1, m2] at HS
  have W1 : IntKind.i64.wrap (-p) = -p := by rw [IntKind.wrap_i64]; omega
  rw [h0] at HS
  have HL : Hid _ := fun (ao : Option Addr) (n c : Nat) w' (g : IsW w' a len cap xs) (g' : IsW w' ao n c (wordsOf (mgP (val xs) e (val ys) e' p).2.1)) hn t' => pSub_calls s a len cap xs e (mgP (val xs) e (val ys) e' p).1 ao n c (wordsOf (mgP (val xs) e (val ys) e' p).2.1) (mgP (val xs) e (val ys) e' p).2.2 w' g hm g' hn t'
  rw [val_words] at HL
  have l1 : twE (rightB (val xs) e && rightB (mgP (val xs) e (val ys) e' p).2.1 (mgP (val xs) e (val ys) e' p).2.2) (sumD (formD s (val xs) e) (negD (formD (mgP (val xs) e (val ys) e' p).1 (mgP (val xs) e (val ys) e' p).2.1 (mgP (val xs) e (val ys) e' p).2.2))) = wlE s (val xs) e (mgP (val xs) e (val ys) e' p) := rfl
  have l2 : twP (rightB (val xs) e && rightB (mgP (val xs) e (val ys) e' p).2.1 (mgP (val xs) e (val ys) e' p).2.2) (sumD (formD s (val xs) e) (negD (formD (mgP (val xs) e (val ys) e' p).1 (mgP (val xs) e (val ys) e' p).2.1 (mgP (val xs) e (val ys) e' p).2.2))) = wlP s (val xs) e (mgP (val xs) e (val ys) e' p) := rfl
  rw [l1, l2] at HL
  clear l1 l2
  rw [h1] at HL
  have HH : Hid _ := fun (ao : Option Addr) (n c : Nat) w' (g : IsW w' a' len' cap' ys) (g' : IsW w' ao n c (wordsOf (mgP (val xs) e (val ys) e' p).2.1)) hn t' => pAdd_calls s' a' len' cap' ys e' (mgP (val xs) e (val ys) e' p).1 ao n c (wordsOf (mgP (val xs) e (val ys) e' p).2.1) (mgP (val xs) e (val ys) e' p).2.2 w' g hm' g' hn t'
  rw [val_words] at HH
  have l1 : twE (rightB (val ys) e' && rightB (mgP (val xs) e (val ys) e' p).2.1 (mgP (val xs) e (val ys) e' p).2.2) (sumD (formD s' (val ys) e') (formD (mgP (val xs) e (val ys) e' p).1 (mgP (val xs) e (val ys) e' p).2.1 (mgP (val xs) e (val ys) e' p).2.2)) = whE s' (val ys) e' (mgP (val xs) e (val ys) e' p) := rfl
  have l2 : twP (rightB (val ys) e' && rightB (mgP (val xs) e (val ys) e' p).2.1 (mgP (val xs) e (val ys) e' p).2.2) (sumD (formD s' (val ys) e') (formD (mgP (val xs) e (val ys) e' p).1 (mgP (val xs) e (val ys) e' p).2.1 (mgP (val xs) e (val ys) e' p).2.2)) = whP s' (val ys) e' (mgP (val xs) e (val ys) e' p) := rfl
  rw [l1, l2] at HH
  clear l1 l2
  rw [h2] at HH
  clear hr q1 m1 m2 hc h0 h1 h2
  generalize wlP s (val xs) e (mgP (val xs) e (val ys) e' p) = PL at *
  generalize whP s' (val ys) e' (mgP (val xs) e (val ys) e' p) = PH at *
  generalize mgP (val xs) e (val ys) e' p = P at *
  have bA : Below w.heap.size w ((w.alloc (.cells #[.bool s, .slice a len cap, .int .i64 e, .bool s', .slice a' len' cap', .int .i64 e'] 27)).alloc (.cells #[.bool false, .slice none 0 0, .int .i64 0, .bool false, .slice none 0 0, .int .i64 0] 27)) := nbelow_trans (below_one _ _) (below_one _ _)
  have hI := h.keep bA
  have hJ := h'.keep bA
  have hT0 := hT.kept bA
  have c0 : ((w.alloc (.cells #[.bool s, .slice a len cap, .int .i64 e, .bool s', .slice a' len' cap', .int .i64 e'] 27)).alloc (.cells #[.bool false, .slice none 0 0, .int .i64 0, .bool false, .slice none 0 0, .int .i64 0] 27)).cell? ⟨w.heap.size, 0, none⟩ = some (.bool s) := by go_simp
  have c1 : ((w.alloc (.cells #[.bool s, .slice a len cap, .int .i64 e, .bool s', .slice a' len' cap', .int .i64 e'] 27)).alloc (.cells #[.bool false, .slice none 0 0, .int .i64 0, .bool false, .slice none 0 0, .int .i64 0] 27)).cell? ⟨w.heap.size, 1, none⟩ = some (.slice a len cap) := by go_simp
  have c2 : ((w.alloc (.cells #[.bool s, .slice a len cap, .int .i64 e, .bool s', .slice a' len' cap', .int .i64 e'] 27)).alloc (.cells #[.bool false, .slice none 0 0, .int .i64 0, .bool false, .slice none 0 0, .int .i64 0] 27)).cell? ⟨w.heap.size, 2, none⟩ = some (.int .i64 e) := by go_simp
  have c3 : ((w.alloc (.cells #[.bool s, .slice a len cap, .int .i64 e, .bool s', .slice a' len' cap', .int .i64 e'] 27)).alloc (.cells #[.bool false, .slice none 0 0, .int .i64 0, .bool false, .slice none 0 0, .int .i64 0] 27)).cell? ⟨w.heap.size, 3, none⟩ = some (.bool s') := by go_simp
  have c4 : ((w.alloc (.cells #[.bool s, .slice a len cap, .int .i64 e, .bool s', .slice a' len' cap', .int .i64 e'] 27)).alloc (.cells #[.bool false, .slice none 0 0, .int .i64 0, .bool false, .slice none 0 0, .int .i64 0] 27)).cell? ⟨w.heap.size, 4, none⟩ = some (.slice a' len' cap') := by go_simp
  have c5 : ((w.alloc (.cells #[.bool s, .slice a len cap, .int .i64 e, .bool s', .slice a' len' cap', .int .i64 e'] 27)).alloc (.cells #[.bool false, .slice none 0 0, .int .i64 0, .bool false, .slice none 0 0, .int .i64 0] 27)).cell? ⟨w.heap.size, 5, none⟩ = some (.int .i64 e') := by go_simp
  have z0 : ((w.alloc (.cells #[.bool s, .slice a len cap, .int .i64 e, .bool s', .slice a' len' cap', .int .i64 e'] 27)).alloc (.cells #[.bool false, .slice none 0 0, .int .i64 0, .bool false, .slice none 0 0, .int .i64 0] 27)).cell? ⟨w.heap.size + 1, 0, none⟩ = some (.bool false) := by go_simp
  have f0 : ((w.alloc (.cells #[.bool s, .slice a len cap, .int .i64 e, .bool s', .slice a' len' cap', .int .i64 e'] 27)).alloc (.cells #[.bool false, .slice none 0 0, .int .i64 0, .bool false, .slice none 0 0, .int .i64 0] 27)).frozen? ⟨w.heap.size + 1, 0, none⟩ = false := by go_simp
  have z1 : ((w.alloc (.cells #[.bool s, .slice a len cap, .int .i64 e, .bool s', .slice a' len' cap', .int .i64 e'] 27)).alloc (.cells #[.bool false, .slice none 0 0, .int .i64 0, .bool false, .slice none 0 0, .int .i64 0] 27)).cell? ⟨w.heap.size + 1, 1, none⟩ = some (.slice none 0 0) := by go_simp
  have f1 : ((w.alloc (.cells #[.bool s, .slice a len cap, .int .i64 e, .bool s', .slice a' len' cap', .int .i64 e'] 27)).alloc (.cells #[.bool false, .slice none 0 0, .int .i64 0, .bool false, .slice none 0 0, .int .i64 0] 27)).frozen? ⟨w.heap.size + 1, 1, none⟩ = false := by go_simp
  have z2 : ((w.alloc (.cells #[.bool s, .slice a len cap, .int .i64 e, .bool s', .slice a' len' cap', .int .i64 e'] 27)).alloc (.cells #[.bool false, .slice none 0 0, .int .i64 0, .bool false, .slice none 0 0, .int .i64 0] 27)).cell? ⟨w.heap.size + 1, 2, none⟩ = some (.int .i64 0) := by go_simp
  have f2 : ((w.alloc (.cells #[.bool s, .slice a len cap, .int .i64 e, .bool s', .slice a' len' cap', .int .i64 e'] 27)).alloc (.cells #[.bool false, .slice none 0 0, .int .i64 0, .bool false, .slice none 0 0, .int .i64 0] 27)).frozen? ⟨w.heap.size + 1, 2, none⟩ = false := by go_simp
  have z3 : ((w.alloc (.cells #[.bool s, .slice a len cap, .int .i64 e, .bool s', .slice a' len' cap', .int .i64 e'] 27)).alloc (.cells #[.bool false, .slice none 0 0, .int .i64 0, .bool false, .slice none 0 0, .int .i64 0] 27)).cell? ⟨w.heap.size + 1, 3, none⟩ = some (.bool false) := by go_simp
  have f3 : ((w.alloc (.cells #[.bool s, .slice a len cap, .int .i64 e, .bool s', .slice a' len' cap', .int .i64 e'] 27)).alloc (.cells #[.bool false, .slice none 0 0, .int .i64 0, .bool false, .slice none 0 0, .int .i64 0] 27)).frozen? ⟨w.heap.size + 1, 3, none⟩ = false := by go_simp
  have z4 : ((w.alloc (.cells #[.bool s, .slice a len cap, .int .i64 e, .bool s', .slice a' len' cap', .int .i64 e'] 27)).alloc (.cells #[.bool false, .slice none 0 0, .int .i64 0, .bool false, .slice none 0 0, .int .i64 0] 27)).cell? ⟨w.heap.size + 1, 4, none⟩ = some (.slice none 0 0) := by go_simp
  have f4 : ((w.alloc (.cells #[.bool s, .slice a len cap, .int .i64 e, .bool s', .slice a' len' cap', .int .i64 e'] 27)).alloc (.cells #[.bool false, .slice none 0 0, .int .i64 0, .bool false, .slice none 0 0, .int .i64 0] 27)).frozen? ⟨w.heap.size + 1, 4, none⟩ = false := by go_simp
  have z5 : ((w.alloc (.cells #[.bool s, .slice a len cap, .int .i64 e, .bool s', .slice a' len' cap', .int .i64 e'] 27)).alloc (.cells #[.bool false, .slice none 0 0, .int .i64 0, .bool false, .slice none 0 0, .int .i64 0] 27)).cell? ⟨w.heap.size + 1, 5, none⟩ = some (.int .i64 0) := by go_simp
  have f5 : ((w.alloc (.cells #[.bool s, .slice a len cap, .int .i64 e, .bool s', .slice a' len' cap', .int .i64 e'] 27)).alloc (.cells #[.bool false, .slice none 0 0, .int .i64 0, .bool false, .slice none 0 0, .int .i64 0] 27)).frozen? ⟨w.heap.size + 1, 5, none⟩ = false := by go_simp
  clear h h' hT
  go_enter Tryz.func7, Tryz.ntmps7
  go_wp2_with fail
  generalize ((w.alloc (.cells #[.bool s, .slice a len cap, .int .i64 e, .bool s', .slice a' len' cap', .int .i64 e'] 27)).alloc (.cells #[.bool false, .slice none 0 0, .int .i64 0, .bool false, .slice none 0 0, .int .i64 0] 27)) = w0 at *
  refine Calls.mono (HR.out _ hI hJ hT0) ?_
  rintro r w1 ⟨rfl, bN⟩
  replace f0 := dcarry_frozen bN z0 f0
  replace f1 := dcarry_frozen bN z1 f1
  replace f2 := dcarry_frozen bN z2 f2
  replace f3 := dcarry_frozen bN z3 f3
  replace f4 := dcarry_frozen bN z4 f4
  replace f5 := dcarry_frozen bN z5 f5
  replace c0 := dcarry_cell bN c0
  replace c1 := dcarry_cell bN c1
  replace c2 := dcarry_cell bN c2
  replace c3 := dcarry_cell bN c3
  replace c4 := dcarry_cell bN c4
  replace c5 := dcarry_cell bN c5
  replace z0 := dcarry_cell bN z0
  replace z1 := dcarry_cell bN z1
  replace z2 := dcarry_cell bN z2
  replace z3 := dcarry_cell bN z3
  replace z4 := dcarry_cell bN z4
  replace z5 := dcarry_cell bN z5
  replace hI := IsW.keep hI bN
  replace hJ := IsW.keep hJ bN
  replace hT0 := hT0.kept bN
  replace bA := nbelow_trans bA bN
  clear bN
  go_wp2_with fail
  refine Calls.mono (HG.out _ hI hJ hT0) ?_
  rintro r w2 ⟨rfl, bN⟩
  replace f0 := dcarry_frozen bN z0 f0
  replace f1 := dcarry_frozen bN z1 f1
  replace f2 := dcarry_frozen bN z2 f2
  replace f3 := dcarry_frozen bN z3 f3
  replace f4 := dcarry_frozen bN z4 f4
  replace f5 := dcarry_frozen bN z5 f5
  replace c0 := dcarry_cell bN c0
  replace c1 := dcarry_cell bN c1
  replace c2 := dcarry_cell bN c2
  replace c3 := dcarry_cell bN c3
  replace c4 := dcarry_cell bN c4
  replace c5 := dcarry_cell bN c5
  replace z0 := dcarry_cell bN z0
  replace z1 := dcarry_cell bN z1
  replace z2 := dcarry_cell bN z2
  replace z3 := dcarry_cell bN z3
  replace z4 := dcarry_cell bN z4
  replace z5 := dcarry_cell bN z5
  replace hI := IsW.keep hI bN
  replace hJ := IsW.keep hJ bN
  replace hT0 := hT0.kept bN
  replace bA := nbelow_trans bA bN
  clear bN
  go_wp2_with fail
  refine Calls.mono (HS.out _ hI hT0) ?_
  rintro r w3 ⟨v, rfl, ⟨ao, no, co, rfl, hno, hle, hOw⟩, bN⟩
  have HNo : Hid _ := hno
  have hO := hOw.1
  clear hno hOw
  replace f0 := dcarry_frozen bN z0 f0
  replace f1 := dcarry_frozen bN z1 f1
  replace f2 := dcarry_frozen bN z2 f2
  replace f3 := dcarry_frozen bN z3 f3
  replace f4 := dcarry_frozen bN z4 f4
  replace f5 := dcarry_frozen bN z5 f5
  replace c0 := dcarry_cell bN c0
  replace c1 := dcarry_cell bN c1
  replace c2 := dcarry_cell bN c2
  replace c3 := dcarry_cell bN c3
  replace c4 := dcarry_cell bN c4
  replace c5 := dcarry_cell bN c5
  replace z0 := dcarry_cell bN z0
  replace z1 := dcarry_cell bN z1
  replace z2 := dcarry_cell bN z2
  replace z3 := dcarry_cell bN z3
  replace z4 := dcarry_cell bN z4
  replace z5 := dcarry_cell bN z5
  replace hI := IsW.keep hI bN
  replace hJ := IsW.keep hJ bN
  replace hT0 := hT0.kept bN
  replace bA := nbelow_trans bA bN
  clear bN
  have bB := below_one w3 (.cells #[.bool P.1, .slice ao no co, .int .i64 P.2.2] 25)
  have m0 : (w3.alloc (.cells #[.bool P.1, .slice ao no co, .int .i64 P.2.2] 25)).cell? ⟨w3.heap.size, 0, none⟩ = some (.bool P.1) := by go_simp
  have m1 : (w3.alloc (.cells #[.bool P.1, .slice ao no co, .int .i64 P.2.2] 25)).cell? ⟨w3.heap.size, 1, none⟩ = some (.slice ao no co) := by go_simp
  have m2 : (w3.alloc (.cells #[.bool P.1, .slice ao no co, .int .i64 P.2.2] 25)).cell? ⟨w3.heap.size, 2, none⟩ = some (.int .i64 P.2.2) := by go_simp
  replace f0 := dcarry_frozen bB z0 f0
  replace f1 := dcarry_frozen bB z1 f1
  replace f2 := dcarry_frozen bB z2 f2
  replace f3 := dcarry_frozen bB z3 f3
  replace f4 := dcarry_frozen bB z4 f4
  replace f5 := dcarry_frozen bB z5 f5
  replace c0 := dcarry_cell bB c0
  replace c1 := dcarry_cell bB c1
  replace c2 := dcarry_cell bB c2
  replace c3 := dcarry_cell bB c3
  replace c4 := dcarry_cell bB c4
  replace c5 := dcarry_cell bB c5
  replace z0 := dcarry_cell bB z0
  replace z1 := dcarry_cell bB z1
  replace z2 := dcarry_cell bB z2
  replace z3 := dcarry_cell bB z3
  replace z4 := dcarry_cell bB z4
  replace z5 := dcarry_cell bB z5
  replace hI := IsW.keep hI bB
  replace hJ := IsW.keep hJ bB
  replace hO := IsW.keep hO bB
  replace hT0 := hT0.kept bB
  replace bA := nbelow_trans bA bB
  clear bB
  go_wp2_with fail
  generalize (w3.alloc (.cells #[.bool P.1, .slice ao no co, .int .i64 P.2.2] 25)) = w4 at *
  refine Calls.mono (HL.out _ _ _ _ hI hO (by omega) hT0) ?_
  rintro r w5 ⟨v, rfl, ⟨al, nl, cl, rfl, hnl, hll, hOl⟩, bN⟩
  have HNl : Hid _ := hnl
  clear hnl
  replace f0 := dcarry_frozen bN z0 f0
  replace f1 := dcarry_frozen bN z1 f1
  replace f2 := dcarry_frozen bN z2 f2
  replace f3 := dcarry_frozen bN z3 f3
  replace f4 := dcarry_frozen bN z4 f4
  replace f5 := dcarry_frozen bN z5 f5
  replace c0 := dcarry_cell bN c0
  replace c1 := dcarry_cell bN c1
  replace c2 := dcarry_cell bN c2
  replace c3 := dcarry_cell bN c3
  replace c4 := dcarry_cell bN c4
  replace c5 := dcarry_cell bN c5
  replace z0 := dcarry_cell bN z0
  replace z1 := dcarry_cell bN z1
  replace z2 := dcarry_cell bN z2
  replace z3 := dcarry_cell bN z3
  replace z4 := dcarry_cell bN z4
  replace z5 := dcarry_cell bN z5
  replace m0 := dcarry_cell bN m0
  replace m1 := dcarry_cell bN m1
  replace m2 := dcarry_cell bN m2
  replace hI := IsW.keep hI bN
  replace hJ := IsW.keep hJ bN
  replace hO := IsW.keep hO bN
  replace hT0 := hT0.kept bN
  replace bA := nbelow_trans bA bN
  clear bN
  have hSz : Hid (w.heap.size ≤ w5.heap.size) := bA.size
  have hl0 := hOl
  clear hOl
  have bB := below_one w5 (.cells #[.bool PL.1, .slice al nl cl, .int .i64 PL.2.2] 25)
  have l0 : (w5.alloc (.cells #[.bool PL.1, .slice al nl cl, .int .i64 PL.2.2] 25)).cell? ⟨w5.heap.size, 0, none⟩ = some (.bool PL.1) := by go_simp
  have l1 : (w5.alloc (.cells #[.bool PL.1, .slice al nl cl, .int .i64 PL.2.2] 25)).cell? ⟨w5.heap.size, 1, none⟩ = some (.slice al nl cl) := by go_simp
  have l2 : (w5.alloc (.cells #[.bool PL.1, .slice al nl cl, .int .i64 PL.2.2] 25)).cell? ⟨w5.heap.size, 2, none⟩ = some (.int .i64 PL.2.2) := by go_simp
  replace f0 := dcarry_frozen bB z0 f0
  replace f1 := dcarry_frozen bB z1 f1
  replace f2 := dcarry_frozen bB z2 f2
  replace f3 := dcarry_frozen bB z3 f3
  replace f4 := dcarry_frozen bB z4 f4
  replace f5 := dcarry_frozen bB z5 f5
  replace c0 := dcarry_cell bB c0
  replace c1 := dcarry_cell bB c1
  replace c2 := dcarry_cell bB c2
  replace c3 := dcarry_cell bB c3
  replace c4 := dcarry_cell bB c4
  replace c5 := dcarry_cell bB c5
  replace z0 := dcarry_cell bB z0
  replace z1 := dcarry_cell bB z1
  replace z2 := dcarry_cell bB z2
  replace z3 := dcarry_cell bB z3
  replace z4 := dcarry_cell bB z4
  replace z5 := dcarry_cell bB z5
  replace m0 := dcarry_cell bB m0
  replace m1 := dcarry_cell bB m1
  replace m2 := dcarry_cell bB m2
  replace hI := IsW.keep hI bB
  replace hJ := IsW.keep hJ bB
  replace hO := IsW.keep hO bB
  replace hT0 := hT0.kept bB
  replace bA := nbelow_trans bA bB
  clear bB
  replace hl0 := hl0.keep (below_one _ (.cells #[.bool PL.1, .slice al nl cl, .int .i64 PL.2.2] 25))
  go_wp2_with fail
  generalize (w5.alloc (.cells #[.bool PL.1, .slice al nl cl, .int .i64 PL.2.2] 25)) = w6 at *
  refine Calls.mono (HH.out _ _ _ _ hJ hO (by omega) hT0) ?_
  rintro r w7 ⟨v, rfl, ⟨ah, nh, ch, rfl, hnh, hlh, hOh⟩, bN⟩
  have HNh : Hid _ := hnh
  clear hnh
  replace hl0 := hl0.keep bN
  replace f0 := dcarry_frozen bN z0 f0
  replace f1 := dcarry_frozen bN z1 f1
  replace f2 := dcarry_frozen bN z2 f2
  replace f3 := dcarry_frozen bN z3 f3
  replace f4 := dcarry_frozen bN z4 f4
  replace f5 := dcarry_frozen bN z5 f5
  replace c0 := dcarry_cell bN c0
  replace c1 := dcarry_cell bN c1
  replace c2 := dcarry_cell bN c2
  replace c3 := dcarry_cell bN c3
  replace c4 := dcarry_cell bN c4
  replace c5 := dcarry_cell bN c5
  replace z0 := dcarry_cell bN z0
  replace z1 := dcarry_cell bN z1
  replace z2 := dcarry_cell bN z2
  replace z3 := dcarry_cell bN z3
  replace z4 := dcarry_cell bN z4
  replace z5 := dcarry_cell bN z5
  replace m0 := dcarry_cell bN m0
  replace m1 := dcarry_cell bN m1
  replace m2 := dcarry_cell bN m2
  replace l0 := dcarry_cell bN l0
  replace l1 := dcarry_cell bN l1
  replace l2 := dcarry_cell bN l2
  replace hI := IsW.keep hI bN
  replace hJ := IsW.keep hJ bN
  replace hO := IsW.keep hO bN
  replace hT0 := hT0.kept bN
  replace bA := nbelow_trans bA bN
  clear bN
  have bB := below_one w7 (.cells #[.bool PH.1, .slice ah nh ch, .int .i64 PH.2.2] 25)
  have k0 : (w7.alloc (.cells #[.bool PH.1, .slice ah nh ch, .int .i64 PH.2.2] 25)).cell? ⟨w7.heap.size, 0, none⟩ = some (.bool PH.1) := by go_simp
  have k1 : (w7.alloc (.cells #[.bool PH.1, .slice ah nh ch, .int .i64 PH.2.2] 25)).cell? ⟨w7.heap.size, 1, none⟩ = some (.slice ah nh ch) := by go_simp
  have k2 : (w7.alloc (.cells #[.bool PH.1, .slice ah nh ch, .int .i64 PH.2.2] 25)).cell? ⟨w7.heap.size, 2, none⟩ = some (.int .i64 PH.2.2) := by go_simp
  replace f0 := dcarry_frozen bB z0 f0
  replace f1 := dcarry_frozen bB z1 f1
  replace f2 := dcarry_frozen bB z2 f2
  replace f3 := dcarry_frozen bB z3 f3
  replace f4 := dcarry_frozen bB z4 f4
  replace f5 := dcarry_frozen bB z5 f5
  replace c0 := dcarry_cell bB c0
  replace c1 := dcarry_cell bB c1
  replace c2 := dcarry_cell bB c2
  replace c3 := dcarry_cell bB c3
  replace c4 := dcarry_cell bB c4
  replace c5 := dcarry_cell bB c5
  replace z0 := dcarry_cell bB z0
  replace z1 := dcarry_cell bB z1
  replace z2 := dcarry_cell bB z2
  replace z3 := dcarry_cell bB z3
  replace z4 := dcarry_cell bB z4
  replace z5 := dcarry_cell bB z5
  replace m0 := dcarry_cell bB m0
  replace m1 := dcarry_cell bB m1
  replace m2 := dcarry_cell bB m2
  replace l0 := dcarry_cell bB l0
  replace l1 := dcarry_cell bB l1
  replace l2 := dcarry_cell bB l2
  replace hI := IsW.keep hI bB
  replace hJ := IsW.keep hJ bB
  replace hO := IsW.keep hO bB
  replace hT0 := hT0.kept bB
  replace bA := nbelow_trans bA bB
  clear bB
  replace hl0 := hl0.keep (below_one _ (.cells #[.bool PH.1, .slice ah nh ch, .int .i64 PH.2.2] 25))
  have hh0 := hOh.keep (below_one _ (.cells #[.bool PH.1, .slice ah nh ch, .int .i64 PH.2.2] 25))
  clear hOh
  go_wp2_with fail
  generalize (w7.alloc (.cells #[.bool PH.1, .slice ah nh ch, .int .i64 PH.2.2] 25)) = w8 at *
  have s6 := six_of z0 z1 z2 z3 z4 z5 (fun _ q => by cases q) (fun _ q => by cases q) (fun _ q => by cases q) (fun _ q => by cases q) (fun _ q => by cases q) (fun _ q => by cases q)
  exact bodyPost_ret (v := .tuple #[ivV PL.1 al nl cl PL.2.2 PH.1 ah nh ch PH.2.2, .int .i64 0]) (by simp [results, Tryz.results7, go_sem, z0, z1, z2, z3, z4, z5]) rfl ⟨al, nl, cl, ah, nh, ch, rfl, hll, hlh, isW_six hl0.1 s6 _ _ _ _ _ _, isW_six hh0.1 s6 _ _ _ _ _ _, by repeat (first | (with_reducible exact bA) | (with_reducible refine Below.setCell ?_ (by simp) _))⟩

end Go.Proofs.YtiipjkkfaplhnaaGreatDoor

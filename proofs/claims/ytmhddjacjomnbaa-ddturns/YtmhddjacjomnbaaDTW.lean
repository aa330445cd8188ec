/- The statement DdTurns. -/
import Derived.Test.YtmhddjacjomnbaaDT3
import Derived.Deep.RegionHeld3
import Derived.Deep.CutRange
namespace Go.Proofs.Ytmhddjacjomnbaa
open Go.RowKit
attribute [local go_sem] Fp.ran_store

theorem self_of {x : Nat} (h : EP.finB x = true) : Ieee.double.order x x = some .eq := EP.order_refl x h
theorem zero_selfT : Ieee.double.order 0 0 = some .eq := by decide +kernel
theorem ng_fin (x : Nat) (hx : x < 18446744073709551616) (h : EP.finB x = true) : EP.finB (Fp.ngF x) = true := (Fp.neg_V x hx).2.1.trans h
theorem bwsz {w w' : World} (h : Below w.heap.size w w') : w.heap.size ≤ w'.heap.size := h.size
theorem blk_ne {w : World} {b i : Nat} {v : Value} (h : w.cell? ⟨b, i, none⟩ = some v) : b ≠ w.heap.size := Nat.ne_of_lt (World.block_lt_of_cell? _ _ h)
theorem cell_set2 {W : World} {b o r : Nat} {v0 v1 x : Value} (h : W.cell? ⟨b, o, none⟩ = some x) (hne : b ≠ r) : ((W.setCell ⟨r, 0, none⟩ v0).setCell ⟨r, 1, none⟩ v1).cell? ⟨b, o, none⟩ = some x := by
  rw [World.cell?_setCell_other _ _ _ _ (fun e => hne (congrArg Addr.block e).symm), World.cell?_setCell_other _ _ _ _ (fun e => hne (congrArg Addr.block e).symm)]
  exact h

set_option maxRecDepth 100000 in
set_option maxHeartbeats 4000000 in
theorem ddt_x (h l h' l' : Nat) (w : World) (hh : h < 18446744073709551616) (_hl : l < 18446744073709551616) (hh' : h' < 18446744073709551616) (_hl' : l' < 18446744073709551616) (ra : Fp.rightP h l = false) :
    Calls Try.prog 3 #[.agg #[.float .f64 h, .float .f64 l], .agg #[.float .f64 h', .float .f64 l']] w fun r w' => r = .returned (.bool true) ∧ Below w.heap.size w w' := by
  have HN : Hid _ := fun w => Fp.dneg_bad h l w hh ra
  have HA : Hid _ := fun w => Fp.dabs_bad h l w hh ra
  have HR : Hid _ := fun w => Fp.rRight_calls h l w hh
  rw [ra] at HR
  have HC : Hid _ := fun w => Fp.dcmp_bad h l h' l' w hh hh' (by rw [ra]; rfl)
  clear hh _hl hh' _hl' ra
  have bw : Below w.heap.size w ((w.alloc (.cells #[.float .f64 h, .float .f64 l] 24)).alloc (.cells #[.float .f64 h', .float .f64 l'] 24)) := nbelow_trans (below_one _ _) (below_one _ _)
  have a0 : ((w.alloc (.cells #[.float .f64 h, .float .f64 l] 24)).alloc (.cells #[.float .f64 h', .float .f64 l'] 24)).cell? ⟨w.heap.size, 0, none⟩ = some (.float .f64 h) := by go_simp
  have a1 : ((w.alloc (.cells #[.float .f64 h, .float .f64 l] 24)).alloc (.cells #[.float .f64 h', .float .f64 l'] 24)).cell? ⟨w.heap.size, 1, none⟩ = some (.float .f64 l) := by go_simp
  have b0 : ((w.alloc (.cells #[.float .f64 h, .float .f64 l] 24)).alloc (.cells #[.float .f64 h', .float .f64 l'] 24)).cell? ⟨w.heap.size + 1, 0, none⟩ = some (.float .f64 h') := by go_simp
  have b1 : ((w.alloc (.cells #[.float .f64 h, .float .f64 l] 24)).alloc (.cells #[.float .f64 h', .float .f64 l'] 24)).cell? ⟨w.heap.size + 1, 1, none⟩ = some (.float .f64 l') := by go_simp
  go_enter Try.func3, Try.ntmps3
  go_wp2_with fail
  generalize ((w.alloc (.cells #[.float .f64 h, .float .f64 l] 24)).alloc (.cells #[.float .f64 h', .float .f64 l'] 24)) = w0 at *
  refine Calls.mono (HN.out _) ?_
  rintro r w1 ⟨rfl, bN⟩
  replace a0 := dcarry_cell bN a0
  replace a1 := dcarry_cell bN a1
  replace b0 := dcarry_cell bN b0
  replace b1 := dcarry_cell bN b1
  replace bw := nbelow_trans bw bN
  clear bN
  have bA := below_one w1 (.cells #[.float .f64 0, .float .f64 0] 24)
  replace a0 := dcarry_cell bA a0
  replace a1 := dcarry_cell bA a1
  replace b0 := dcarry_cell bA b0
  replace b1 := dcarry_cell bA b1
  replace bw := nbelow_trans bw bA
  clear bA
  have x0 : (w1.alloc (.cells #[.float .f64 0, .float .f64 0] 24)).cell? ⟨w1.heap.size, 0, none⟩ = some (.float .f64 0) := by go_simp
  have x1 : (w1.alloc (.cells #[.float .f64 0, .float .f64 0] 24)).cell? ⟨w1.heap.size, 1, none⟩ = some (.float .f64 0) := by go_simp
  go_wp2_with fail
  generalize (w1.alloc (.cells #[.float .f64 0, .float .f64 0] 24)) = w2 at *
  refine Calls.mono (HA.out _) ?_
  rintro r w3 ⟨rfl, bN⟩
  replace a0 := dcarry_cell bN a0
  replace a1 := dcarry_cell bN a1
  replace b0 := dcarry_cell bN b0
  replace b1 := dcarry_cell bN b1
  replace x0 := dcarry_cell bN x0
  replace x1 := dcarry_cell bN x1
  replace bw := nbelow_trans bw bN
  clear bN
  have bA := below_one w3 (.cells #[.float .f64 0, .float .f64 0] 24)
  replace a0 := dcarry_cell bA a0
  replace a1 := dcarry_cell bA a1
  replace b0 := dcarry_cell bA b0
  replace b1 := dcarry_cell bA b1
  replace x0 := dcarry_cell bA x0
  replace x1 := dcarry_cell bA x1
  replace bw := nbelow_trans bw bA
  clear bA
  have y0 : (w3.alloc (.cells #[.float .f64 0, .float .f64 0] 24)).cell? ⟨w3.heap.size, 0, none⟩ = some (.float .f64 0) := by go_simp
  have y1 : (w3.alloc (.cells #[.float .f64 0, .float .f64 0] 24)).cell? ⟨w3.heap.size, 1, none⟩ = some (.float .f64 0) := by go_simp
  go_wp2_with fail
  generalize (w3.alloc (.cells #[.float .f64 0, .float .f64 0] 24)) = w4 at *
  refine Calls.mono (HC.out _) ?_
  rintro r w5 ⟨rfl, bN⟩
  replace a0 := dcarry_cell bN a0
  replace a1 := dcarry_cell bN a1
  replace b0 := dcarry_cell bN b0
  replace b1 := dcarry_cell bN b1
  replace x0 := dcarry_cell bN x0
  replace x1 := dcarry_cell bN x1
  replace y0 := dcarry_cell bN y0
  replace y1 := dcarry_cell bN y1
  replace bw := nbelow_trans bw bN
  clear bN
  go_wp2_with fail
  refine Calls.mono (HR.out _) ?_
  rintro r w6 ⟨rfl, bN⟩
  replace a0 := dcarry_cell bN a0
  replace a1 := dcarry_cell bN a1
  replace b0 := dcarry_cell bN b0
  replace b1 := dcarry_cell bN b1
  replace x0 := dcarry_cell bN x0
  replace x1 := dcarry_cell bN x1
  replace y0 := dcarry_cell bN y0
  replace y1 := dcarry_cell bN y1
  replace bw := nbelow_trans bw bN
  clear bN
  go_wp2_with fail
  refine Calls.mono (Fp.rSame_yes 0 0 0 0 _ zero_selfT zero_selfT) ?_
  rintro r w7 ⟨rfl, bN⟩
  replace a0 := dcarry_cell bN a0
  replace a1 := dcarry_cell bN a1
  replace b0 := dcarry_cell bN b0
  replace b1 := dcarry_cell bN b1
  replace x0 := dcarry_cell bN x0
  replace x1 := dcarry_cell bN x1
  replace y0 := dcarry_cell bN y0
  replace y1 := dcarry_cell bN y1
  replace bw := nbelow_trans bw bN
  clear bN
  go_wp2_with fail
  refine Calls.mono (Fp.rSame_yes 0 0 0 0 _ zero_selfT zero_selfT) ?_
  rintro r w8 ⟨rfl, bN⟩
  replace a0 := dcarry_cell bN a0
  replace a1 := dcarry_cell bN a1
  replace b0 := dcarry_cell bN b0
  replace b1 := dcarry_cell bN b1
  replace x0 := dcarry_cell bN x0
  replace x1 := dcarry_cell bN x1
  replace y0 := dcarry_cell bN y0
  replace y1 := dcarry_cell bN y1
  replace bw := nbelow_trans bw bN
  clear bN
  go_wp2_with fail
  refine Calls.mono (Fp.dBegins_calls _) ?_
  rintro r w9 ⟨rfl, bN⟩
  replace bw := nbelow_trans bw bN
  clear bN
  go_wp2_with fail
  go_ret
  exact ⟨rfl, bw⟩

set_option maxRecDepth 100000 in
set_option maxHeartbeats 4000000 in
theorem ddt_anb (h l h' l' : Nat) (w : World) (hh : h < 18446744073709551616) (hl : l < 18446744073709551616) (hh' : h' < 18446744073709551616) (hl' : l' < 18446744073709551616) (ra : Fp.rightP h l = true) (hlo : Fp.loF h = true) (rb : Fp.rightP h' l' = true) :
    Calls Try.prog 3 #[.agg #[.float .f64 h, .float .f64 l], .agg #[.float .f64 h', .float .f64 l']] w fun r w' => r = .returned (.bool true) ∧ Below w.heap.size w w' := by
  have HN : Hid _ := fun w => Fp.dneg_good h l w hh ra
  have HA : Hid _ := fun w => Fp.dabs_good h l w hh ra
  have HR : Hid _ := fun w => Fp.rRight_calls h l w hh
  rw [ra] at HR
  have HC : Hid _ := fun w => Fp.dcmp_good h l h' l' w hh hh' ra rb
  obtain ⟨fh, fl, -⟩ := Fp.right_PB h l ra
  have s1 : Hid _ := self_of (ng_fin h hh fh)
  have s2 : Hid _ := self_of (ng_fin l hl fl)
  have s3 : Hid _ := self_of fh
  have s4 : Hid _ := self_of fl
  have HL : Hid _ := fun w => Fp.rless_calls h l w
  have HRB : Hid _ := fun w => Fp.rRight_calls h' l' w hh'
  rw [rb] at HRB
  have e1 : Fp.abH h = Fp.ngF h := by unfold Fp.abH; rw [if_pos hlo]
  have e2 : Fp.abL h l = Fp.ngF l := by unfold Fp.abL; rw [if_pos hlo]
  have z1 : (FloatKind.f64.format.order h 0 == some .lt) = true := hlo
  rw [e1, e2] at HA
  clear e1 e2 hlo
  have HE : Hid _ := fun w => rexact_calls h l w hh hl
  have HE' : Hid _ := fun w => rexact_calls h' l' w hh' hl'
  change Hid (∀ w, Calls _ _ _ w fun r w' => ∃ v', r = .returned v' ∧ DyQ _ w' v' (exP h l) ∧ Below _ _ w') at HE
  change Hid (∀ w, Calls _ _ _ w fun r w' => ∃ v', r = .returned v' ∧ DyQ _ w' v' (exP h' l') ∧ Below _ _ w') at HE'
  have HO : Hid _ := fun a n c b m d w i hn j hm => rorder_calls h l h' l' hh hl hh' hl' ra rb a n c b m d w i hn j hm
  have HL1 : Hid _ := (exP_len h l).1
  have HL2 : Hid _ := (exP_len h' l').1
  generalize exP h l = p at *
  generalize exP h' l' = p' at *
  generalize Fp.lexI h l h' l' = kz at *
  clear fh fl
  clear hh hl hh' hl' ra rb
  have bw : Below w.heap.size w ((w.alloc (.cells #[.float .f64 h, .float .f64 l] 24)).alloc (.cells #[.float .f64 h', .float .f64 l'] 24)) := nbelow_trans (below_one _ _) (below_one _ _)
  have a0 : ((w.alloc (.cells #[.float .f64 h, .float .f64 l] 24)).alloc (.cells #[.float .f64 h', .float .f64 l'] 24)).cell? ⟨w.heap.size, 0, none⟩ = some (.float .f64 h) := by go_simp
  have a1 : ((w.alloc (.cells #[.float .f64 h, .float .f64 l] 24)).alloc (.cells #[.float .f64 h', .float .f64 l'] 24)).cell? ⟨w.heap.size, 1, none⟩ = some (.float .f64 l) := by go_simp
  have b0 : ((w.alloc (.cells #[.float .f64 h, .float .f64 l] 24)).alloc (.cells #[.float .f64 h', .float .f64 l'] 24)).cell? ⟨w.heap.size + 1, 0, none⟩ = some (.float .f64 h') := by go_simp
  have b1 : ((w.alloc (.cells #[.float .f64 h, .float .f64 l] 24)).alloc (.cells #[.float .f64 h', .float .f64 l'] 24)).cell? ⟨w.heap.size + 1, 1, none⟩ = some (.float .f64 l') := by go_simp
  go_enter Try.func3, Try.ntmps3
  go_wp2_with fail
  generalize ((w.alloc (.cells #[.float .f64 h, .float .f64 l] 24)).alloc (.cells #[.float .f64 h', .float .f64 l'] 24)) = w0 at *
  refine Calls.mono (HN.out _) ?_
  rintro r w1 ⟨rfl, bN⟩
  replace a0 := dcarry_cell bN a0
  replace a1 := dcarry_cell bN a1
  replace b0 := dcarry_cell bN b0
  replace b1 := dcarry_cell bN b1
  replace bw := nbelow_trans bw bN
  clear bN
  have bA := below_one w1 (.cells #[.float .f64 (Fp.ngF h), .float .f64 (Fp.ngF l)] 24)
  replace a0 := dcarry_cell bA a0
  replace a1 := dcarry_cell bA a1
  replace b0 := dcarry_cell bA b0
  replace b1 := dcarry_cell bA b1
  replace bw := nbelow_trans bw bA
  clear bA
  have x0 : (w1.alloc (.cells #[.float .f64 (Fp.ngF h), .float .f64 (Fp.ngF l)] 24)).cell? ⟨w1.heap.size, 0, none⟩ = some (.float .f64 (Fp.ngF h)) := by go_simp
  have x1 : (w1.alloc (.cells #[.float .f64 (Fp.ngF h), .float .f64 (Fp.ngF l)] 24)).cell? ⟨w1.heap.size, 1, none⟩ = some (.float .f64 (Fp.ngF l)) := by go_simp
  go_wp2_with fail
  generalize (w1.alloc (.cells #[.float .f64 (Fp.ngF h), .float .f64 (Fp.ngF l)] 24)) = w2 at *
  refine Calls.mono (HA.out _) ?_
  rintro r w3 ⟨rfl, bN⟩
  replace a0 := dcarry_cell bN a0
  replace a1 := dcarry_cell bN a1
  replace b0 := dcarry_cell bN b0
  replace b1 := dcarry_cell bN b1
  replace x0 := dcarry_cell bN x0
  replace x1 := dcarry_cell bN x1
  replace bw := nbelow_trans bw bN
  clear bN
  have bA := below_one w3 (.cells #[.float .f64 (Fp.ngF h), .float .f64 (Fp.ngF l)] 24)
  replace a0 := dcarry_cell bA a0
  replace a1 := dcarry_cell bA a1
  replace b0 := dcarry_cell bA b0
  replace b1 := dcarry_cell bA b1
  replace x0 := dcarry_cell bA x0
  replace x1 := dcarry_cell bA x1
  replace bw := nbelow_trans bw bA
  clear bA
  have y0 : (w3.alloc (.cells #[.float .f64 (Fp.ngF h), .float .f64 (Fp.ngF l)] 24)).cell? ⟨w3.heap.size, 0, none⟩ = some (.float .f64 (Fp.ngF h)) := by go_simp
  have y1 : (w3.alloc (.cells #[.float .f64 (Fp.ngF h), .float .f64 (Fp.ngF l)] 24)).cell? ⟨w3.heap.size, 1, none⟩ = some (.float .f64 (Fp.ngF l)) := by go_simp
  go_wp2_with fail
  generalize (w3.alloc (.cells #[.float .f64 (Fp.ngF h), .float .f64 (Fp.ngF l)] 24)) = w4 at *
  refine Calls.mono (HC.out _) ?_
  rintro r w5 ⟨rfl, bN⟩
  replace a0 := dcarry_cell bN a0
  replace a1 := dcarry_cell bN a1
  replace b0 := dcarry_cell bN b0
  replace b1 := dcarry_cell bN b1
  replace x0 := dcarry_cell bN x0
  replace x1 := dcarry_cell bN x1
  replace y0 := dcarry_cell bN y0
  replace y1 := dcarry_cell bN y1
  replace bw := nbelow_trans bw bN
  clear bN
  go_wp2_with fail
  refine Calls.mono (HR.out _) ?_
  rintro r w6 ⟨rfl, bN⟩
  replace a0 := dcarry_cell bN a0
  replace a1 := dcarry_cell bN a1
  replace b0 := dcarry_cell bN b0
  replace b1 := dcarry_cell bN b1
  replace x0 := dcarry_cell bN x0
  replace x1 := dcarry_cell bN x1
  replace y0 := dcarry_cell bN y0
  replace y1 := dcarry_cell bN y1
  replace bw := nbelow_trans bw bN
  clear bN
  have ne0 := blk_ne a0
  have ne1 := blk_ne b0
  have ne2 := blk_ne x0
  have ne3 := blk_ne y0
  have hwt : Hid (w.heap.size ≤ w6.heap.size) := bwsz bw
  have a0w := a0
  have a1w := a1
  have bA := below_one w6 (.cells #[.float .f64 h, .float .f64 l] 24)
  replace a0 := dcarry_cell bA a0
  replace a1 := dcarry_cell bA a1
  replace b0 := dcarry_cell bA b0
  replace b1 := dcarry_cell bA b1
  replace x0 := dcarry_cell bA x0
  replace x1 := dcarry_cell bA x1
  replace y0 := dcarry_cell bA y0
  replace y1 := dcarry_cell bA y1
  replace bw := nbelow_trans bw bA
  clear bA
  have t0 : (w6.alloc (.cells #[.float .f64 h, .float .f64 l] 24)).cell? ⟨w6.heap.size, 0, none⟩ = some (.float .f64 h) := by go_simp
  have ft0 : (w6.alloc (.cells #[.float .f64 h, .float .f64 l] 24)).frozen? ⟨w6.heap.size, 0, none⟩ = false := by go_simp
  have t1 : (w6.alloc (.cells #[.float .f64 h, .float .f64 l] 24)).cell? ⟨w6.heap.size, 1, none⟩ = some (.float .f64 l) := by go_simp
  have ft1 : (w6.alloc (.cells #[.float .f64 h, .float .f64 l] 24)).frozen? ⟨w6.heap.size, 1, none⟩ = false := by go_simp
  go_wp2_with fail
  clear a0w a1w
  generalize (w6.alloc (.cells #[.float .f64 h, .float .f64 l] 24)) = w7 at *
  generalize w6.heap.size = wb at *
  refine Calls.mono (HL.out _) ?_
  rintro r w8 ⟨rfl, bN⟩
  replace ft0 := dcarry_frozen bN t0 ft0
  replace ft1 := dcarry_frozen bN t1 ft1
  replace a0 := dcarry_cell bN a0
  replace a1 := dcarry_cell bN a1
  replace b0 := dcarry_cell bN b0
  replace b1 := dcarry_cell bN b1
  replace x0 := dcarry_cell bN x0
  replace x1 := dcarry_cell bN x1
  replace y0 := dcarry_cell bN y0
  replace y1 := dcarry_cell bN y1
  replace t0 := dcarry_cell bN t0
  replace t1 := dcarry_cell bN t1
  replace bw := nbelow_trans bw bN
  clear bN
  replace a0 := cell_set2 a0 (v0 := .float .f64 (Fp.ngF h)) (v1 := .float .f64 (Fp.ngF l)) ne0
  replace a1 := cell_set2 a1 (v0 := .float .f64 (Fp.ngF h)) (v1 := .float .f64 (Fp.ngF l)) ne0
  replace b0 := cell_set2 b0 (v0 := .float .f64 (Fp.ngF h)) (v1 := .float .f64 (Fp.ngF l)) ne1
  replace b1 := cell_set2 b1 (v0 := .float .f64 (Fp.ngF h)) (v1 := .float .f64 (Fp.ngF l)) ne1
  replace x0 := cell_set2 x0 (v0 := .float .f64 (Fp.ngF h)) (v1 := .float .f64 (Fp.ngF l)) ne2
  replace x1 := cell_set2 x1 (v0 := .float .f64 (Fp.ngF h)) (v1 := .float .f64 (Fp.ngF l)) ne2
  replace y0 := cell_set2 y0 (v0 := .float .f64 (Fp.ngF h)) (v1 := .float .f64 (Fp.ngF l)) ne3
  replace y1 := cell_set2 y1 (v0 := .float .f64 (Fp.ngF h)) (v1 := .float .f64 (Fp.ngF l)) ne3
  have t0n : ((w8.setCell ⟨wb, 0, none⟩ (.float .f64 (Fp.ngF h))).setCell ⟨wb, 1, none⟩ (.float .f64 (Fp.ngF l))).cell? ⟨wb, 0, none⟩ = some (.float .f64 (Fp.ngF h)) := by go_simp
  have t1n : ((w8.setCell ⟨wb, 0, none⟩ (.float .f64 (Fp.ngF h))).setCell ⟨wb, 1, none⟩ (.float .f64 (Fp.ngF l))).cell? ⟨wb, 1, none⟩ = some (.float .f64 (Fp.ngF l)) := by go_simp
  have bS : Below w.heap.size w ((w8.setCell ⟨wb, 0, none⟩ (.float .f64 (Fp.ngF h))).setCell ⟨wb, 1, none⟩ (.float .f64 (Fp.ngF l))) := (bw.setCell hwt.out _).setCell hwt.out _
  clear bw
  have bw := bS
  clear bS
  go_upto_region 9 with fail
  generalize ((w8.setCell ⟨wb, 0, none⟩ (.float .f64 (Fp.ngF h))).setCell ⟨wb, 1, none⟩ (.float .f64 (Fp.ngF l))) = w9 at *
  clear t0 t1 ft0 ft1 ne0 ne1 ne2 ne3
  have t0 := t0n
  have t1 := t1n
  clear t0n t1n
  have R : Below w9.heap.size w9 (World.drew w9) := (Below.refl _ _).drew
  refine wp_region_held (S := fun w' => Below w9.heap.size w9 w') (by kernel_rfl) ?_
  change wpAnyH _ _ _ _ _ _ _ _ (World.drew w9)
  generalize World.drew w9 = wd at R ⊢
  refine wpAnyH_take (i := 0) (oi := { dst := some 64, op := Op.move (Operand.tmp 6), type := 25, pos := "law.go:67", after := #[], guard := none }) (v := .int .i64 0) rfl (by kernel_rfl) (by kernel_rfl) (by kernel_rfl) (fun _ _ _ h => h) (Or.inl ⟨by rfl, ?y1⟩) R ?r1
  case y1 => (intro ww hS; clear hS; go_simp; try with_reducible rfl)
  try simp only [Act.put, List.setIfInBounds_toArray, List.set_cons_zero, List.set_cons_succ]
  refine wpAnyH_take (i := 1) (oi := { dst := some 65, op := Op.binOp BinOp.neq 25 (Operand.tmp 64) (Operand.const (Value.int IntKind.i64 0)) 25, type := 4, pos := "law.go:67", after := #[{ on := 0, ground := Ground.data }], guard := none }) (v := .bool false) rfl (by kernel_rfl) (by kernel_rfl) (by kernel_rfl) (fun _ _ _ h => h) (Or.inl ⟨by rfl, ?y2⟩) R ?r2
  case y2 => (intro ww hS; clear hS; go_simp; try with_reducible rfl)
  try simp only [Act.put, List.setIfInBounds_toArray, List.set_cons_zero, List.set_cons_succ]
  refine wpAnyH_take (i := 2) (oi := { dst := some 66, op := Op.move (Operand.tmp 65), type := 4, pos := "law.go:67", after := #[{ on := 1, ground := Ground.data }], guard := none }) (v := .bool false) rfl (by kernel_rfl) (by kernel_rfl) (by kernel_rfl) (fun _ _ _ h => h) (Or.inl ⟨by rfl, ?y3⟩) R ?r3
  case y3 => (intro ww hS; clear hS; go_simp; try with_reducible rfl)
  try simp only [Act.put, List.setIfInBounds_toArray, List.set_cons_zero, List.set_cons_succ]
  refine wpAnyH_take (i := 3) (oi := { dst := some 67, op := Op.move (Operand.tmp 8), type := 25, pos := "law.go:67", after := #[{ on := 2, ground := Ground.guard }], guard := some (2, false) }) (v := .int .i64 0) rfl (by kernel_rfl) (by kernel_rfl) (by kernel_rfl) (fun _ _ _ h => h) (Or.inl ⟨by rfl, ?y4⟩) R ?r4
  case y4 => (intro ww hS; clear hS; go_simp; try with_reducible rfl)
  try simp only [Act.put, List.setIfInBounds_toArray, List.set_cons_zero, List.set_cons_succ]
  refine wpAnyH_take (i := 4) (oi := { dst := some 68, op := Op.binOp BinOp.neq 25 (Operand.tmp 67) (Operand.const (Value.int IntKind.i64 0)) 25, type := 4, pos := "law.go:67", after := #[{ on := 3, ground := Ground.data }, { on := 2, ground := Ground.guard }], guard := some (2, false) }) (v := .bool false) rfl (by kernel_rfl) (by kernel_rfl) (by kernel_rfl) (fun _ _ _ h => h) (Or.inl ⟨by rfl, ?y5⟩) R ?r5
  case y5 => (intro ww hS; clear hS; go_simp; try with_reducible rfl)
  try simp only [Act.put, List.setIfInBounds_toArray, List.set_cons_zero, List.set_cons_succ]
  refine wpAnyH_take (i := 5) (oi := { dst := some 69, op := Op.pick (Operand.tmp 66) (Operand.const (Value.bool true)) (Operand.tmp 68), type := 4, pos := "law.go:67", after := #[{ on := 2, ground := Ground.data }, { on := 4, ground := Ground.data }], guard := none }) (v := .bool false) rfl (by kernel_rfl) (by kernel_rfl) (by kernel_rfl) (fun _ _ _ h => h) (Or.inl ⟨by rfl, ?y6⟩) R ?r6
  case y6 => (intro ww hS; clear hS; go_simp; try with_reducible rfl)
  try simp only [Act.put, List.setIfInBounds_toArray, List.set_cons_zero, List.set_cons_succ]
  refine wpAnyH_take (i := 6) (oi := { dst := some 70, op := Op.move (Operand.tmp 69), type := 4, pos := "law.go:67", after := #[{ on := 5, ground := Ground.data }, { on := 2, ground := Ground.chain }], guard := none }) (v := .bool false) rfl (by kernel_rfl) (by kernel_rfl) (by kernel_rfl) (fun _ _ _ h => h) (Or.inl ⟨by rfl, ?y7⟩) R ?r7
  case y7 => (intro ww hS; clear hS; go_simp; try with_reducible rfl)
  try simp only [Act.put, List.setIfInBounds_toArray, List.set_cons_zero, List.set_cons_succ]
  refine wpAnyH_take (i := 7) (oi := { dst := some 71, op := Op.load 24 (Operand.tmp 5), type := 24, pos := "law.go:67", after := #[{ on := 6, ground := Ground.guard }], guard := some (6, false) }) (v := .agg #[.float .f64 (Fp.ngF h), .float .f64 (Fp.ngF l)]) rfl (by kernel_rfl) (by kernel_rfl) (by kernel_rfl) (fun _ _ _ h => h) (Or.inl ⟨by rfl, ?y8⟩) R ?r8
  case y8 => (intro ww hS; have qx0 := dcarry_cell hS x0; have qx1 := dcarry_cell hS x1; clear hS; go_simp; try with_reducible rfl)
  try simp only [Act.put, List.setIfInBounds_toArray, List.set_cons_zero, List.set_cons_succ]
  refine wpAnyH_take (i := 8) (oi := { dst := some 72, op := Op.load 24 (Operand.tmp 2), type := 24, pos := "law.go:67", after := #[{ on := 6, ground := Ground.guard }], guard := some (6, false) }) (v := .agg #[.float .f64 h, .float .f64 l]) rfl (by kernel_rfl) (by kernel_rfl) (by kernel_rfl) (fun _ _ _ h => h) (Or.inl ⟨by rfl, ?y9⟩) R ?r9
  case y9 => (intro ww hS; have qa0 := dcarry_cell hS a0; have qa1 := dcarry_cell hS a1; clear hS; go_simp; try with_reducible rfl)
  try simp only [Act.put, List.setIfInBounds_toArray, List.set_cons_zero, List.set_cons_succ]
  refine wpAnyH_ready (rs := [9]) (by kernel_rfl) (by simp) ?_
  refine AllReadyH.cons rfl (fun K hK => ?_) AllReadyH.nil
  go_simp
  refine Calls.mono (HL.out _) ?_
  rintro r wa ⟨rfl, bN⟩
  replace R := nbelow_trans R bN
  clear bN
  refine hK.out _ _ R (fun _ => ?_)
  clear hK K
  try simp only [Act.put, List.setIfInBounds_toArray, List.set_cons_zero, List.set_cons_succ]
  refine wpAnyH_ready (rs := [10]) (by kernel_rfl) (by simp) ?_
  refine AllReadyH.cons rfl (fun K hK => ?_) AllReadyH.nil
  go_simp
  refine Calls.mono (Fp.rSame_yes _ _ _ _ _ s1.out s2.out) ?_
  rintro r wb1 ⟨rfl, bN⟩
  replace R := nbelow_trans R bN
  clear bN
  refine hK.out _ _ R (fun _ => ?_)
  clear hK K
  try simp only [Act.put, List.setIfInBounds_toArray, List.set_cons_zero, List.set_cons_succ]
  refine wpAnyH_take (i := 11) (oi := { dst := some 75, op := Op.unOp UnOp.not 4 (Operand.tmp 74), type := 4, pos := "law.go:67", after := #[{ on := 10, ground := Ground.data }, { on := 6, ground := Ground.guard }], guard := some (6, false) }) (v := .bool false) rfl (by kernel_rfl) (by kernel_rfl) (by kernel_rfl) (fun _ _ _ h => h) (Or.inl ⟨by rfl, ?y10⟩) R ?r10
  case y10 => (intro ww hS; clear hS; go_simp; try with_reducible rfl)
  try simp only [Act.put, List.setIfInBounds_toArray, List.set_cons_zero, List.set_cons_succ]
  refine wpAnyH_take (i := 12) (oi := { dst := some 76, op := Op.pick (Operand.tmp 70) (Operand.const (Value.bool true)) (Operand.tmp 75), type := 4, pos := "law.go:67", after := #[{ on := 6, ground := Ground.data }, { on := 11, ground := Ground.data }], guard := none }) (v := .bool false) rfl (by kernel_rfl) (by kernel_rfl) (by kernel_rfl) (fun _ _ _ h => h) (Or.inl ⟨by rfl, ?y11⟩) R ?r11
  case y11 => (intro ww hS; clear hS; go_simp; try with_reducible rfl)
  try simp only [Act.put, List.setIfInBounds_toArray, List.set_cons_zero, List.set_cons_succ]
  refine wpAnyH_take (i := 13) (oi := { dst := some 77, op := Op.move (Operand.tmp 76), type := 4, pos := "law.go:67", after := #[{ on := 12, ground := Ground.data }, { on := 10, ground := Ground.chain }], guard := none }) (v := .bool false) rfl (by kernel_rfl) (by kernel_rfl) (by kernel_rfl) (fun _ _ _ h => h) (Or.inl ⟨by rfl, ?y12⟩) R ?r12
  case y12 => (intro ww hS; clear hS; go_simp; try with_reducible rfl)
  try simp only [Act.put, List.setIfInBounds_toArray, List.set_cons_zero, List.set_cons_succ]
  refine wpAnyH_take (i := 14) (oi := { dst := some 78, op := Op.load 24 (Operand.tmp 7), type := 24, pos := "law.go:67", after := #[{ on := 13, ground := Ground.guard }], guard := some (13, false) }) (v := .agg #[.float .f64 (Fp.ngF h), .float .f64 (Fp.ngF l)]) rfl (by kernel_rfl) (by kernel_rfl) (by kernel_rfl) (fun _ _ _ h => h) (Or.inl ⟨by rfl, ?y13⟩) R ?r13
  case y13 => (intro ww hS; have qy0 := dcarry_cell hS y0; have qy1 := dcarry_cell hS y1; clear hS; go_simp; try with_reducible rfl)
  try simp only [Act.put, List.setIfInBounds_toArray, List.set_cons_zero, List.set_cons_succ]
  refine wpAnyH_take (i := 15) (oi := { dst := some 79, op := Op.load 24 (Operand.tmp 11), type := 24, pos := "law.go:67", after := #[{ on := 13, ground := Ground.guard }], guard := some (13, false) }) (v := .agg #[.float .f64 (Fp.ngF h), .float .f64 (Fp.ngF l)]) rfl (by kernel_rfl) (by kernel_rfl) (by kernel_rfl) (fun _ _ _ h => h) (Or.inl ⟨by rfl, ?y14⟩) R ?r14
  case y14 => (intro ww hS; have qt0 := dcarry_cell hS t0; have qt1 := dcarry_cell hS t1; clear hS; go_simp; try with_reducible rfl)
  try simp only [Act.put, List.setIfInBounds_toArray, List.set_cons_zero, List.set_cons_succ]
  refine wpAnyH_ready (rs := [16]) (by kernel_rfl) (by simp) ?_
  refine AllReadyH.cons rfl (fun K hK => ?_) AllReadyH.nil
  go_simp
  refine Calls.mono (Fp.rSame_yes _ _ _ _ _ s1.out s2.out) ?_
  rintro r wc1 ⟨rfl, bN⟩
  replace R := nbelow_trans R bN
  clear bN
  refine hK.out _ _ R (fun _ => ?_)
  clear hK K
  try simp only [Act.put, List.setIfInBounds_toArray, List.set_cons_zero, List.set_cons_succ]
  refine wpAnyH_take (i := 17) (oi := { dst := some 81, op := Op.unOp UnOp.not 4 (Operand.tmp 80), type := 4, pos := "law.go:67", after := #[{ on := 16, ground := Ground.data }, { on := 13, ground := Ground.guard }], guard := some (13, false) }) (v := .bool false) rfl (by kernel_rfl) (by kernel_rfl) (by kernel_rfl) (fun _ _ _ h => h) (Or.inl ⟨by rfl, ?y15⟩) R ?r15
  case y15 => (intro ww hS; clear hS; go_simp; try with_reducible rfl)
  try simp only [Act.put, List.setIfInBounds_toArray, List.set_cons_zero, List.set_cons_succ]
  refine wpAnyH_take (i := 18) (oi := { dst := some 82, op := Op.pick (Operand.tmp 77) (Operand.const (Value.bool true)) (Operand.tmp 81), type := 4, pos := "law.go:67", after := #[{ on := 13, ground := Ground.data }, { on := 17, ground := Ground.data }], guard := none }) (v := .bool false) rfl (by kernel_rfl) (by kernel_rfl) (by kernel_rfl) (fun _ _ _ h => h) (Or.inl ⟨by rfl, ?y16⟩) R ?r16
  case y16 => (intro ww hS; clear hS; go_simp; try with_reducible rfl)
  try simp only [Act.put, List.setIfInBounds_toArray, List.set_cons_zero, List.set_cons_succ]
  refine wpAnyH_done (by kernel_rfl) ?_ _
  replace a0 := dcarry_cell R a0
  replace a1 := dcarry_cell R a1
  replace b0 := dcarry_cell R b0
  replace b1 := dcarry_cell R b1
  replace x0 := dcarry_cell R x0
  replace x1 := dcarry_cell R x1
  replace y0 := dcarry_cell R y0
  replace y1 := dcarry_cell R y1
  replace t0 := dcarry_cell R t0
  replace t1 := dcarry_cell R t1
  replace bw := nbelow_trans bw R
  clear R
  go_wp2_with fail
  refine Calls.mono (HRB.out _) ?_
  rintro r w10 ⟨rfl, bN⟩
  replace a0 := dcarry_cell bN a0
  replace a1 := dcarry_cell bN a1
  replace b0 := dcarry_cell bN b0
  replace b1 := dcarry_cell bN b1
  replace x0 := dcarry_cell bN x0
  replace x1 := dcarry_cell bN x1
  replace y0 := dcarry_cell bN y0
  replace y1 := dcarry_cell bN y1
  replace t0 := dcarry_cell bN t0
  replace t1 := dcarry_cell bN t1
  replace bw := nbelow_trans bw bN
  clear bN
  go_upto_region 13 with fail
  have R : Below w10.heap.size w10 (World.drew w10) := (Below.refl _ _).drew
  refine wp_region_held (S := fun w' => Below w10.heap.size w10 w') (by kernel_rfl) ?_
  change wpAnyH _ _ _ _ _ _ _ _ (World.drew w10)
  generalize World.drew w10 = wd at R ⊢
  refine wpAnyH_take (i := 0) (oi := { dst := some 95, op := Op.move (Operand.tmp 10), type := 25, pos := "law.go:73", after := #[], guard := none }) (v := .int .i64 0) rfl (by kernel_rfl) (by kernel_rfl) (by kernel_rfl) (fun _ _ _ h => h) (Or.inl ⟨by rfl, ?y17⟩) R ?r17
  case y17 => (intro ww hS; clear hS; go_simp; try with_reducible rfl)
  try simp only [Act.put, List.setIfInBounds_toArray, List.set_cons_zero, List.set_cons_succ]
  refine wpAnyH_take (i := 1) (oi := { dst := some 96, op := Op.binOp BinOp.eql 25 (Operand.tmp 95) (Operand.const (Value.int IntKind.i64 0)) 25, type := 4, pos := "law.go:73", after := #[{ on := 0, ground := Ground.data }], guard := none }) (v := .bool true) rfl (by kernel_rfl) (by kernel_rfl) (by kernel_rfl) (fun _ _ _ h => h) (Or.inl ⟨by rfl, ?y18⟩) R ?r18
  case y18 => (intro ww hS; clear hS; go_simp; try with_reducible rfl)
  try simp only [Act.put, List.setIfInBounds_toArray, List.set_cons_zero, List.set_cons_succ]
  refine wpAnyH_take (i := 2) (oi := { dst := some 97, op := Op.move (Operand.tmp 96), type := 4, pos := "law.go:73", after := #[{ on := 1, ground := Ground.data }], guard := none }) (v := .bool true) rfl (by kernel_rfl) (by kernel_rfl) (by kernel_rfl) (fun _ _ _ h => h) (Or.inl ⟨by rfl, ?y19⟩) R ?r19
  case y19 => (intro ww hS; clear hS; go_simp; try with_reducible rfl)
  try simp only [Act.put, List.setIfInBounds_toArray, List.set_cons_zero, List.set_cons_succ]
  refine wpAnyH_take (i := 3) (oi := { dst := some 98, op := Op.move (Operand.tmp 9), type := 3, pos := "law.go:73", after := #[{ on := 2, ground := Ground.guard }], guard := some (2, true) }) (v := .int .i64 kz) rfl (by kernel_rfl) (by kernel_rfl) (by kernel_rfl) (fun _ _ _ h => h) (Or.inl ⟨by rfl, ?y20⟩) R ?r20
  case y20 => (intro ww hS; clear hS; go_simp; try with_reducible rfl)
  try simp only [Act.put, List.setIfInBounds_toArray, List.set_cons_zero, List.set_cons_succ]
  refine wpAnyH_take (i := 4) (oi := { dst := some 99, op := Op.load 24 (Operand.tmp 2), type := 24, pos := "law.go:73", after := #[{ on := 2, ground := Ground.guard }], guard := some (2, true) }) (v := .agg #[.float .f64 h, .float .f64 l]) rfl (by kernel_rfl) (by kernel_rfl) (by kernel_rfl) (fun _ _ _ h => h) (Or.inl ⟨by rfl, ?y21⟩) R ?r21
  case y21 => (intro ww hS; have qa0 := dcarry_cell hS a0; have qa1 := dcarry_cell hS a1; clear hS; go_simp; try with_reducible rfl)
  try simp only [Act.put, List.setIfInBounds_toArray, List.set_cons_zero, List.set_cons_succ]
  refine wpAnyH_take (i := 6) (oi := { dst := some 101, op := Op.load 24 (Operand.tmp 3), type := 24, pos := "law.go:73", after := #[{ on := 2, ground := Ground.guard }], guard := some (2, true) }) (v := .agg #[.float .f64 h', .float .f64 l']) rfl (by kernel_rfl) (by kernel_rfl) (by kernel_rfl) (fun _ _ _ h => h) (Or.inl ⟨by rfl, ?y22⟩) R ?r22
  case y22 => (intro ww hS; have qb0 := dcarry_cell hS b0; have qb1 := dcarry_cell hS b1; clear hS; go_simp; try with_reducible rfl)
  try simp only [Act.put, List.setIfInBounds_toArray, List.set_cons_zero, List.set_cons_succ]
  refine wpAnyH_ready (rs := [5]) (by kernel_rfl) (by simp) ?_
  refine AllReadyH.cons rfl (fun K hK => ?_) AllReadyH.nil
  go_simp
  refine Calls.mono (HE.out _) ?_
  rintro r we ⟨_, rfl, ⟨ae, ne, ce, rfl, HN1, hO1⟩, bN⟩
  replace R := nbelow_trans R bN
  have Ie := hO1.1
  have hne : ne ≤ 1024 := by rw [HN1.out]; exact HL1.out
  clear hO1 HN1
  clear bN
  refine hK.out _ _ R (fun _ => ?_)
  clear hK K
  try simp only [Act.put, List.setIfInBounds_toArray, List.set_cons_zero, List.set_cons_succ]
  refine wpAnyH_ready (rs := [7]) (by kernel_rfl) (by simp) ?_
  refine AllReadyH.cons rfl (fun K hK => ?_) AllReadyH.nil
  go_simp
  refine Calls.mono (HE'.out _) ?_
  rintro r wf ⟨_, rfl, ⟨af, nf, cf, rfl, HN2, hO2⟩, bN⟩
  replace R := nbelow_trans R bN
  replace Ie := Ie.keep bN
  have If := hO2.1
  have hnf : nf ≤ 1024 := by rw [HN2.out]; exact HL2.out
  clear hO2 HN2
  clear bN
  refine hK.out _ _ R (fun _ => ?_)
  clear hK K
  try simp only [Act.put, List.setIfInBounds_toArray, List.set_cons_zero, List.set_cons_succ]
  refine wpAnyH_ready (rs := [8]) (by kernel_rfl) (by simp) ?_
  refine AllReadyH.cons rfl (fun K hK => ?_) AllReadyH.nil
  go_simp
  refine Calls.mono (HO.out _ _ _ _ _ _ _ Ie hne If hnf) ?_
  rintro r wg ⟨rfl, bN⟩
  replace R := nbelow_trans R bN
  clear bN
  refine hK.out _ _ R (fun _ => ?_)
  clear hK K
  try simp only [Act.put, List.setIfInBounds_toArray, List.set_cons_zero, List.set_cons_succ]
  refine wpAnyH_take (i := 9) (oi := { dst := some 104, op := Op.binOp BinOp.eql 3 (Operand.tmp 98) (Operand.tmp 103) 3, type := 4, pos := "law.go:73", after := #[{ on := 3, ground := Ground.data }, { on := 8, ground := Ground.data }, { on := 2, ground := Ground.guard }], guard := some (2, true) }) (v := .bool true) rfl (by kernel_rfl) (by kernel_rfl) (by kernel_rfl) (fun _ _ _ h => h) (Or.inl ⟨by rfl, ?y23⟩) R ?r23
  case y23 => (intro ww hS; clear hS; go_simp; try with_reducible rfl)
  try simp only [Act.put, List.setIfInBounds_toArray, List.set_cons_zero, List.set_cons_succ]
  refine wpAnyH_take (i := 10) (oi := { dst := some 105, op := Op.pick (Operand.tmp 97) (Operand.tmp 104) (Operand.const (Value.bool false)), type := 4, pos := "law.go:73", after := #[{ on := 2, ground := Ground.data }, { on := 9, ground := Ground.data }], guard := none }) (v := .bool true) rfl (by kernel_rfl) (by kernel_rfl) (by kernel_rfl) (fun _ _ _ h => h) (Or.inl ⟨by rfl, ?y24⟩) R ?r24
  case y24 => (intro ww hS; clear hS; go_simp; try with_reducible rfl)
  try simp only [Act.put, List.setIfInBounds_toArray, List.set_cons_zero, List.set_cons_succ]
  refine wpAnyH_take (i := 11) (oi := { dst := some 106, op := Op.move (Operand.tmp 105), type := 4, pos := "law.go:73", after := #[{ on := 10, ground := Ground.data }, { on := 8, ground := Ground.chain }], guard := none }) (v := .bool true) rfl (by kernel_rfl) (by kernel_rfl) (by kernel_rfl) (fun _ _ _ h => h) (Or.inl ⟨by rfl, ?y25⟩) R ?r25
  case y25 => (intro ww hS; clear hS; go_simp; try with_reducible rfl)
  try simp only [Act.put, List.setIfInBounds_toArray, List.set_cons_zero, List.set_cons_succ]
  refine wpAnyH_ready (rs := [12]) (by kernel_rfl) (by simp) ?_
  refine AllReadyH.cons rfl (fun K hK => ?_) AllReadyH.nil
  go_simp
  refine Calls.mono (Fp.dBegins_calls _) ?_
  rintro r wh ⟨rfl, bN⟩
  replace R := nbelow_trans R bN
  clear bN
  refine hK.out _ _ R (fun _ => ?_)
  clear hK K
  try simp only [Act.put, List.setIfInBounds_toArray, List.set_cons_zero, List.set_cons_succ]
  refine wpAnyH_take (i := 13) (oi := { dst := some 108, op := Op.pick (Operand.tmp 106) (Operand.tmp 107) (Operand.const (Value.bool false)), type := 4, pos := "law.go:73", after := #[{ on := 11, ground := Ground.data }, { on := 12, ground := Ground.data }], guard := none }) (v := .bool true) rfl (by kernel_rfl) (by kernel_rfl) (by kernel_rfl) (fun _ _ _ h => h) (Or.inl ⟨by rfl, ?y26⟩) R ?r26
  case y26 => (intro ww hS; clear hS; go_simp; try with_reducible rfl)
  try simp only [Act.put, List.setIfInBounds_toArray, List.set_cons_zero, List.set_cons_succ]
  refine wpAnyH_ready (rs := [14]) (by kernel_rfl) (by simp) ?_
  refine AllReadyH.cons rfl (fun K hK => ?_) AllReadyH.nil
  go_simp
  refine hK.out _ _ R (fun _ => ?_)
  clear hK K
  try simp only [Act.put, List.setIfInBounds_toArray, List.set_cons_zero, List.set_cons_succ]
  refine wpAnyH_done (by kernel_rfl) ?_ _
  replace a0 := dcarry_cell R a0
  replace a1 := dcarry_cell R a1
  replace b0 := dcarry_cell R b0
  replace b1 := dcarry_cell R b1
  replace x0 := dcarry_cell R x0
  replace x1 := dcarry_cell R x1
  replace y0 := dcarry_cell R y0
  replace y1 := dcarry_cell R y1
  replace t0 := dcarry_cell R t0
  replace t1 := dcarry_cell R t1
  replace bw := nbelow_trans bw R
  clear R
  go_wp2_with fail
  go_ret
  exact ⟨rfl, bw⟩

set_option maxRecDepth 100000 in
set_option maxHeartbeats 4000000 in
theorem ddt_anx (h l h' l' : Nat) (w : World) (hh : h < 18446744073709551616) (hl : l < 18446744073709551616) (hh' : h' < 18446744073709551616) (_hl' : l' < 18446744073709551616) (ra : Fp.rightP h l = true) (hlo : Fp.loF h = true) (rb : Fp.rightP h' l' = false) :
    Calls Try.prog 3 #[.agg #[.float .f64 h, .float .f64 l], .agg #[.float .f64 h', .float .f64 l']] w fun r w' => r = .returned (.bool true) ∧ Below w.heap.size w w' := by
  have HN : Hid _ := fun w => Fp.dneg_good h l w hh ra
  have HA : Hid _ := fun w => Fp.dabs_good h l w hh ra
  have HR : Hid _ := fun w => Fp.rRight_calls h l w hh
  rw [ra] at HR
  have HC : Hid _ := fun w => Fp.dcmp_bad h l h' l' w hh hh' (by rw [ra, rb]; rfl)
  obtain ⟨fh, fl, -⟩ := Fp.right_PB h l ra
  have s1 : Hid _ := self_of (ng_fin h hh fh)
  have s2 : Hid _ := self_of (ng_fin l hl fl)
  have s3 : Hid _ := self_of fh
  have s4 : Hid _ := self_of fl
  have HL : Hid _ := fun w => Fp.rless_calls h l w
  have HRB : Hid _ := fun w => Fp.rRight_calls h' l' w hh'
  rw [rb] at HRB
  have e1 : Fp.abH h = Fp.ngF h := by unfold Fp.abH; rw [if_pos hlo]
  have e2 : Fp.abL h l = Fp.ngF l := by unfold Fp.abL; rw [if_pos hlo]
  have z1 : (FloatKind.f64.format.order h 0 == some .lt) = true := hlo
  rw [e1, e2] at HA
  clear e1 e2 hlo
  clear fh fl
  clear hh hl hh' _hl' ra rb
  have bw : Below w.heap.size w ((w.alloc (.cells #[.float .f64 h, .float .f64 l] 24)).alloc (.cells #[.float .f64 h', .float .f64 l'] 24)) := nbelow_trans (below_one _ _) (below_one _ _)
  have a0 : ((w.alloc (.cells #[.float .f64 h, .float .f64 l] 24)).alloc (.cells #[.float .f64 h', .float .f64 l'] 24)).cell? ⟨w.heap.size, 0, none⟩ = some (.float .f64 h) := by go_simp
  have a1 : ((w.alloc (.cells #[.float .f64 h, .float .f64 l] 24)).alloc (.cells #[.float .f64 h', .float .f64 l'] 24)).cell? ⟨w.heap.size, 1, none⟩ = some (.float .f64 l) := by go_simp
  have b0 : ((w.alloc (.cells #[.float .f64 h, .float .f64 l] 24)).alloc (.cells #[.float .f64 h', .float .f64 l'] 24)).cell? ⟨w.heap.size + 1, 0, none⟩ = some (.float .f64 h') := by go_simp
  have b1 : ((w.alloc (.cells #[.float .f64 h, .float .f64 l] 24)).alloc (.cells #[.float .f64 h', .float .f64 l'] 24)).cell? ⟨w.heap.size + 1, 1, none⟩ = some (.float .f64 l') := by go_simp
  go_enter Try.func3, Try.ntmps3
  go_wp2_with fail
  generalize ((w.alloc (.cells #[.float .f64 h, .float .f64 l] 24)).alloc (.cells #[.float .f64 h', .float .f64 l'] 24)) = w0 at *
  refine Calls.mono (HN.out _) ?_
  rintro r w1 ⟨rfl, bN⟩
  replace a0 := dcarry_cell bN a0
  replace a1 := dcarry_cell bN a1
  replace b0 := dcarry_cell bN b0
  replace b1 := dcarry_cell bN b1
  replace bw := nbelow_trans bw bN
  clear bN
  have bA := below_one w1 (.cells #[.float .f64 (Fp.ngF h), .float .f64 (Fp.ngF l)] 24)
  replace a0 := dcarry_cell bA a0
  replace a1 := dcarry_cell bA a1
  replace b0 := dcarry_cell bA b0
  replace b1 := dcarry_cell bA b1
  replace bw := nbelow_trans bw bA
  clear bA
  have x0 : (w1.alloc (.cells #[.float .f64 (Fp.ngF h), .float .f64 (Fp.ngF l)] 24)).cell? ⟨w1.heap.size, 0, none⟩ = some (.float .f64 (Fp.ngF h)) := by go_simp
  have x1 : (w1.alloc (.cells #[.float .f64 (Fp.ngF h), .float .f64 (Fp.ngF l)] 24)).cell? ⟨w1.heap.size, 1, none⟩ = some (.float .f64 (Fp.ngF l)) := by go_simp
  go_wp2_with fail
  generalize (w1.alloc (.cells #[.float .f64 (Fp.ngF h), .float .f64 (Fp.ngF l)] 24)) = w2 at *
  refine Calls.mono (HA.out _) ?_
  rintro r w3 ⟨rfl, bN⟩
  replace a0 := dcarry_cell bN a0
  replace a1 := dcarry_cell bN a1
  replace b0 := dcarry_cell bN b0
  replace b1 := dcarry_cell bN b1
  replace x0 := dcarry_cell bN x0
  replace x1 := dcarry_cell bN x1
  replace bw := nbelow_trans bw bN
  clear bN
  have bA := below_one w3 (.cells #[.float .f64 (Fp.ngF h), .float .f64 (Fp.ngF l)] 24)
  replace a0 := dcarry_cell bA a0
  replace a1 := dcarry_cell bA a1
  replace b0 := dcarry_cell bA b0
  replace b1 := dcarry_cell bA b1
  replace x0 := dcarry_cell bA x0
  replace x1 := dcarry_cell bA x1
  replace bw := nbelow_trans bw bA
  clear bA
  have y0 : (w3.alloc (.cells #[.float .f64 (Fp.ngF h), .float .f64 (Fp.ngF l)] 24)).cell? ⟨w3.heap.size, 0, none⟩ = some (.float .f64 (Fp.ngF h)) := by go_simp
  have y1 : (w3.alloc (.cells #[.float .f64 (Fp.ngF h), .float .f64 (Fp.ngF l)] 24)).cell? ⟨w3.heap.size, 1, none⟩ = some (.float .f64 (Fp.ngF l)) := by go_simp
  go_wp2_with fail
  generalize (w3.alloc (.cells #[.float .f64 (Fp.ngF h), .float .f64 (Fp.ngF l)] 24)) = w4 at *
  refine Calls.mono (HC.out _) ?_
  rintro r w5 ⟨rfl, bN⟩
  replace a0 := dcarry_cell bN a0
  replace a1 := dcarry_cell bN a1
  replace b0 := dcarry_cell bN b0
  replace b1 := dcarry_cell bN b1
  replace x0 := dcarry_cell bN x0
  replace x1 := dcarry_cell bN x1
  replace y0 := dcarry_cell bN y0
  replace y1 := dcarry_cell bN y1
  replace bw := nbelow_trans bw bN
  clear bN
  go_wp2_with fail
  refine Calls.mono (HR.out _) ?_
  rintro r w6 ⟨rfl, bN⟩
  replace a0 := dcarry_cell bN a0
  replace a1 := dcarry_cell bN a1
  replace b0 := dcarry_cell bN b0
  replace b1 := dcarry_cell bN b1
  replace x0 := dcarry_cell bN x0
  replace x1 := dcarry_cell bN x1
  replace y0 := dcarry_cell bN y0
  replace y1 := dcarry_cell bN y1
  replace bw := nbelow_trans bw bN
  clear bN
  have ne0 := blk_ne a0
  have ne1 := blk_ne b0
  have ne2 := blk_ne x0
  have ne3 := blk_ne y0
  have hwt : Hid (w.heap.size ≤ w6.heap.size) := bwsz bw
  have a0w := a0
  have a1w := a1
  have bA := below_one w6 (.cells #[.float .f64 h, .float .f64 l] 24)
  replace a0 := dcarry_cell bA a0
  replace a1 := dcarry_cell bA a1
  replace b0 := dcarry_cell bA b0
  replace b1 := dcarry_cell bA b1
  replace x0 := dcarry_cell bA x0
  replace x1 := dcarry_cell bA x1
  replace y0 := dcarry_cell bA y0
  replace y1 := dcarry_cell bA y1
  replace bw := nbelow_trans bw bA
  clear bA
  have t0 : (w6.alloc (.cells #[.float .f64 h, .float .f64 l] 24)).cell? ⟨w6.heap.size, 0, none⟩ = some (.float .f64 h) := by go_simp
  have ft0 : (w6.alloc (.cells #[.float .f64 h, .float .f64 l] 24)).frozen? ⟨w6.heap.size, 0, none⟩ = false := by go_simp
  have t1 : (w6.alloc (.cells #[.float .f64 h, .float .f64 l] 24)).cell? ⟨w6.heap.size, 1, none⟩ = some (.float .f64 l) := by go_simp
  have ft1 : (w6.alloc (.cells #[.float .f64 h, .float .f64 l] 24)).frozen? ⟨w6.heap.size, 1, none⟩ = false := by go_simp
  go_wp2_with fail
  clear a0w a1w
  generalize (w6.alloc (.cells #[.float .f64 h, .float .f64 l] 24)) = w7 at *
  generalize w6.heap.size = wb at *
  refine Calls.mono (HL.out _) ?_
  rintro r w8 ⟨rfl, bN⟩
  replace ft0 := dcarry_frozen bN t0 ft0
  replace ft1 := dcarry_frozen bN t1 ft1
  replace a0 := dcarry_cell bN a0
  replace a1 := dcarry_cell bN a1
  replace b0 := dcarry_cell bN b0
  replace b1 := dcarry_cell bN b1
  replace x0 := dcarry_cell bN x0
  replace x1 := dcarry_cell bN x1
  replace y0 := dcarry_cell bN y0
  replace y1 := dcarry_cell bN y1
  replace t0 := dcarry_cell bN t0
  replace t1 := dcarry_cell bN t1
  replace bw := nbelow_trans bw bN
  clear bN
  replace a0 := cell_set2 a0 (v0 := .float .f64 (Fp.ngF h)) (v1 := .float .f64 (Fp.ngF l)) ne0
  replace a1 := cell_set2 a1 (v0 := .float .f64 (Fp.ngF h)) (v1 := .float .f64 (Fp.ngF l)) ne0
  replace b0 := cell_set2 b0 (v0 := .float .f64 (Fp.ngF h)) (v1 := .float .f64 (Fp.ngF l)) ne1
  replace b1 := cell_set2 b1 (v0 := .float .f64 (Fp.ngF h)) (v1 := .float .f64 (Fp.ngF l)) ne1
  replace x0 := cell_set2 x0 (v0 := .float .f64 (Fp.ngF h)) (v1 := .float .f64 (Fp.ngF l)) ne2
  replace x1 := cell_set2 x1 (v0 := .float .f64 (Fp.ngF h)) (v1 := .float .f64 (Fp.ngF l)) ne2
  replace y0 := cell_set2 y0 (v0 := .float .f64 (Fp.ngF h)) (v1 := .float .f64 (Fp.ngF l)) ne3
  replace y1 := cell_set2 y1 (v0 := .float .f64 (Fp.ngF h)) (v1 := .float .f64 (Fp.ngF l)) ne3
  have t0n : ((w8.setCell ⟨wb, 0, none⟩ (.float .f64 (Fp.ngF h))).setCell ⟨wb, 1, none⟩ (.float .f64 (Fp.ngF l))).cell? ⟨wb, 0, none⟩ = some (.float .f64 (Fp.ngF h)) := by go_simp
  have t1n : ((w8.setCell ⟨wb, 0, none⟩ (.float .f64 (Fp.ngF h))).setCell ⟨wb, 1, none⟩ (.float .f64 (Fp.ngF l))).cell? ⟨wb, 1, none⟩ = some (.float .f64 (Fp.ngF l)) := by go_simp
  have bS : Below w.heap.size w ((w8.setCell ⟨wb, 0, none⟩ (.float .f64 (Fp.ngF h))).setCell ⟨wb, 1, none⟩ (.float .f64 (Fp.ngF l))) := (bw.setCell hwt.out _).setCell hwt.out _
  clear bw
  have bw := bS
  clear bS
  go_upto_region 9 with fail
  generalize ((w8.setCell ⟨wb, 0, none⟩ (.float .f64 (Fp.ngF h))).setCell ⟨wb, 1, none⟩ (.float .f64 (Fp.ngF l))) = w9 at *
  clear t0 t1 ft0 ft1 ne0 ne1 ne2 ne3
  have t0 := t0n
  have t1 := t1n
  clear t0n t1n
  have R : Below w9.heap.size w9 (World.drew w9) := (Below.refl _ _).drew
  refine wp_region_held (S := fun w' => Below w9.heap.size w9 w') (by kernel_rfl) ?_
  change wpAnyH _ _ _ _ _ _ _ _ (World.drew w9)
  generalize World.drew w9 = wd at R ⊢
  refine wpAnyH_take (i := 0) (oi := { dst := some 64, op := Op.move (Operand.tmp 6), type := 25, pos := "law.go:67", after := #[], guard := none }) (v := .int .i64 0) rfl (by kernel_rfl) (by kernel_rfl) (by kernel_rfl) (fun _ _ _ h => h) (Or.inl ⟨by rfl, ?y27⟩) R ?r27
  case y27 => (intro ww hS; clear hS; go_simp; try with_reducible rfl)
  try simp only [Act.put, List.setIfInBounds_toArray, List.set_cons_zero, List.set_cons_succ]
  refine wpAnyH_take (i := 1) (oi := { dst := some 65, op := Op.binOp BinOp.neq 25 (Operand.tmp 64) (Operand.const (Value.int IntKind.i64 0)) 25, type := 4, pos := "law.go:67", after := #[{ on := 0, ground := Ground.data }], guard := none }) (v := .bool false) rfl (by kernel_rfl) (by kernel_rfl) (by kernel_rfl) (fun _ _ _ h => h) (Or.inl ⟨by rfl, ?y28⟩) R ?r28
  case y28 => (intro ww hS; clear hS; go_simp; try with_reducible rfl)
  try simp only [Act.put, List.setIfInBounds_toArray, List.set_cons_zero, List.set_cons_succ]
  refine wpAnyH_take (i := 2) (oi := { dst := some 66, op := Op.move (Operand.tmp 65), type := 4, pos := "law.go:67", after := #[{ on := 1, ground := Ground.data }], guard := none }) (v := .bool false) rfl (by kernel_rfl) (by kernel_rfl) (by kernel_rfl) (fun _ _ _ h => h) (Or.inl ⟨by rfl, ?y29⟩) R ?r29
  case y29 => (intro ww hS; clear hS; go_simp; try with_reducible rfl)
  try simp only [Act.put, List.setIfInBounds_toArray, List.set_cons_zero, List.set_cons_succ]
  refine wpAnyH_take (i := 3) (oi := { dst := some 67, op := Op.move (Operand.tmp 8), type := 25, pos := "law.go:67", after := #[{ on := 2, ground := Ground.guard }], guard := some (2, false) }) (v := .int .i64 0) rfl (by kernel_rfl) (by kernel_rfl) (by kernel_rfl) (fun _ _ _ h => h) (Or.inl ⟨by rfl, ?y30⟩) R ?r30
  case y30 => (intro ww hS; clear hS; go_simp; try with_reducible rfl)
  try simp only [Act.put, List.setIfInBounds_toArray, List.set_cons_zero, List.set_cons_succ]
  refine wpAnyH_take (i := 4) (oi := { dst := some 68, op := Op.binOp BinOp.neq 25 (Operand.tmp 67) (Operand.const (Value.int IntKind.i64 0)) 25, type := 4, pos := "law.go:67", after := #[{ on := 3, ground := Ground.data }, { on := 2, ground := Ground.guard }], guard := some (2, false) }) (v := .bool false) rfl (by kernel_rfl) (by kernel_rfl) (by kernel_rfl) (fun _ _ _ h => h) (Or.inl ⟨by rfl, ?y31⟩) R ?r31
  case y31 => (intro ww hS; clear hS; go_simp; try with_reducible rfl)
  try simp only [Act.put, List.setIfInBounds_toArray, List.set_cons_zero, List.set_cons_succ]
  refine wpAnyH_take (i := 5) (oi := { dst := some 69, op := Op.pick (Operand.tmp 66) (Operand.const (Value.bool true)) (Operand.tmp 68), type := 4, pos := "law.go:67", after := #[{ on := 2, ground := Ground.data }, { on := 4, ground := Ground.data }], guard := none }) (v := .bool false) rfl (by kernel_rfl) (by kernel_rfl) (by kernel_rfl) (fun _ _ _ h => h) (Or.inl ⟨by rfl, ?y32⟩) R ?r32
  case y32 => (intro ww hS; clear hS; go_simp; try with_reducible rfl)
  try simp only [Act.put, List.setIfInBounds_toArray, List.set_cons_zero, List.set_cons_succ]
  refine wpAnyH_take (i := 6) (oi := { dst := some 70, op := Op.move (Operand.tmp 69), type := 4, pos := "law.go:67", after := #[{ on := 5, ground := Ground.data }, { on := 2, ground := Ground.chain }], guard := none }) (v := .bool false) rfl (by kernel_rfl) (by kernel_rfl) (by kernel_rfl) (fun _ _ _ h => h) (Or.inl ⟨by rfl, ?y33⟩) R ?r33
  case y33 => (intro ww hS; clear hS; go_simp; try with_reducible rfl)
  try simp only [Act.put, List.setIfInBounds_toArray, List.set_cons_zero, List.set_cons_succ]
  refine wpAnyH_take (i := 7) (oi := { dst := some 71, op := Op.load 24 (Operand.tmp 5), type := 24, pos := "law.go:67", after := #[{ on := 6, ground := Ground.guard }], guard := some (6, false) }) (v := .agg #[.float .f64 (Fp.ngF h), .float .f64 (Fp.ngF l)]) rfl (by kernel_rfl) (by kernel_rfl) (by kernel_rfl) (fun _ _ _ h => h) (Or.inl ⟨by rfl, ?y34⟩) R ?r34
  case y34 => (intro ww hS; have qx0 := dcarry_cell hS x0; have qx1 := dcarry_cell hS x1; clear hS; go_simp; try with_reducible rfl)
  try simp only [Act.put, List.setIfInBounds_toArray, List.set_cons_zero, List.set_cons_succ]
  refine wpAnyH_take (i := 8) (oi := { dst := some 72, op := Op.load 24 (Operand.tmp 2), type := 24, pos := "law.go:67", after := #[{ on := 6, ground := Ground.guard }], guard := some (6, false) }) (v := .agg #[.float .f64 h, .float .f64 l]) rfl (by kernel_rfl) (by kernel_rfl) (by kernel_rfl) (fun _ _ _ h => h) (Or.inl ⟨by rfl, ?y35⟩) R ?r35
  case y35 => (intro ww hS; have qa0 := dcarry_cell hS a0; have qa1 := dcarry_cell hS a1; clear hS; go_simp; try with_reducible rfl)
  try simp only [Act.put, List.setIfInBounds_toArray, List.set_cons_zero, List.set_cons_succ]
  refine wpAnyH_ready (rs := [9]) (by kernel_rfl) (by simp) ?_
  refine AllReadyH.cons rfl (fun K hK => ?_) AllReadyH.nil
  go_simp
  refine Calls.mono (HL.out _) ?_
  rintro r wa ⟨rfl, bN⟩
  replace R := nbelow_trans R bN
  clear bN
  refine hK.out _ _ R (fun _ => ?_)
  clear hK K
  try simp only [Act.put, List.setIfInBounds_toArray, List.set_cons_zero, List.set_cons_succ]
  refine wpAnyH_ready (rs := [10]) (by kernel_rfl) (by simp) ?_
  refine AllReadyH.cons rfl (fun K hK => ?_) AllReadyH.nil
  go_simp
  refine Calls.mono (Fp.rSame_yes _ _ _ _ _ s1.out s2.out) ?_
  rintro r wb1 ⟨rfl, bN⟩
  replace R := nbelow_trans R bN
  clear bN
  refine hK.out _ _ R (fun _ => ?_)
  clear hK K
  try simp only [Act.put, List.setIfInBounds_toArray, List.set_cons_zero, List.set_cons_succ]
  refine wpAnyH_take (i := 11) (oi := { dst := some 75, op := Op.unOp UnOp.not 4 (Operand.tmp 74), type := 4, pos := "law.go:67", after := #[{ on := 10, ground := Ground.data }, { on := 6, ground := Ground.guard }], guard := some (6, false) }) (v := .bool false) rfl (by kernel_rfl) (by kernel_rfl) (by kernel_rfl) (fun _ _ _ h => h) (Or.inl ⟨by rfl, ?y36⟩) R ?r36
  case y36 => (intro ww hS; clear hS; go_simp; try with_reducible rfl)
  try simp only [Act.put, List.setIfInBounds_toArray, List.set_cons_zero, List.set_cons_succ]
  refine wpAnyH_take (i := 12) (oi := { dst := some 76, op := Op.pick (Operand.tmp 70) (Operand.const (Value.bool true)) (Operand.tmp 75), type := 4, pos := "law.go:67", after := #[{ on := 6, ground := Ground.data }, { on := 11, ground := Ground.data }], guard := none }) (v := .bool false) rfl (by kernel_rfl) (by kernel_rfl) (by kernel_rfl) (fun _ _ _ h => h) (Or.inl ⟨by rfl, ?y37⟩) R ?r37
  case y37 => (intro ww hS; clear hS; go_simp; try with_reducible rfl)
  try simp only [Act.put, List.setIfInBounds_toArray, List.set_cons_zero, List.set_cons_succ]
  refine wpAnyH_take (i := 13) (oi := { dst := some 77, op := Op.move (Operand.tmp 76), type := 4, pos := "law.go:67", after := #[{ on := 12, ground := Ground.data }, { on := 10, ground := Ground.chain }], guard := none }) (v := .bool false) rfl (by kernel_rfl) (by kernel_rfl) (by kernel_rfl) (fun _ _ _ h => h) (Or.inl ⟨by rfl, ?y38⟩) R ?r38
  case y38 => (intro ww hS; clear hS; go_simp; try with_reducible rfl)
  try simp only [Act.put, List.setIfInBounds_toArray, List.set_cons_zero, List.set_cons_succ]
  refine wpAnyH_take (i := 14) (oi := { dst := some 78, op := Op.load 24 (Operand.tmp 7), type := 24, pos := "law.go:67", after := #[{ on := 13, ground := Ground.guard }], guard := some (13, false) }) (v := .agg #[.float .f64 (Fp.ngF h), .float .f64 (Fp.ngF l)]) rfl (by kernel_rfl) (by kernel_rfl) (by kernel_rfl) (fun _ _ _ h => h) (Or.inl ⟨by rfl, ?y39⟩) R ?r39
  case y39 => (intro ww hS; have qy0 := dcarry_cell hS y0; have qy1 := dcarry_cell hS y1; clear hS; go_simp; try with_reducible rfl)
  try simp only [Act.put, List.setIfInBounds_toArray, List.set_cons_zero, List.set_cons_succ]
  refine wpAnyH_take (i := 15) (oi := { dst := some 79, op := Op.load 24 (Operand.tmp 11), type := 24, pos := "law.go:67", after := #[{ on := 13, ground := Ground.guard }], guard := some (13, false) }) (v := .agg #[.float .f64 (Fp.ngF h), .float .f64 (Fp.ngF l)]) rfl (by kernel_rfl) (by kernel_rfl) (by kernel_rfl) (fun _ _ _ h => h) (Or.inl ⟨by rfl, ?y40⟩) R ?r40
  case y40 => (intro ww hS; have qt0 := dcarry_cell hS t0; have qt1 := dcarry_cell hS t1; clear hS; go_simp; try with_reducible rfl)
  try simp only [Act.put, List.setIfInBounds_toArray, List.set_cons_zero, List.set_cons_succ]
  refine wpAnyH_ready (rs := [16]) (by kernel_rfl) (by simp) ?_
  refine AllReadyH.cons rfl (fun K hK => ?_) AllReadyH.nil
  go_simp
  refine Calls.mono (Fp.rSame_yes _ _ _ _ _ s1.out s2.out) ?_
  rintro r wc1 ⟨rfl, bN⟩
  replace R := nbelow_trans R bN
  clear bN
  refine hK.out _ _ R (fun _ => ?_)
  clear hK K
  try simp only [Act.put, List.setIfInBounds_toArray, List.set_cons_zero, List.set_cons_succ]
  refine wpAnyH_take (i := 17) (oi := { dst := some 81, op := Op.unOp UnOp.not 4 (Operand.tmp 80), type := 4, pos := "law.go:67", after := #[{ on := 16, ground := Ground.data }, { on := 13, ground := Ground.guard }], guard := some (13, false) }) (v := .bool false) rfl (by kernel_rfl) (by kernel_rfl) (by kernel_rfl) (fun _ _ _ h => h) (Or.inl ⟨by rfl, ?y41⟩) R ?r41
  case y41 => (intro ww hS; clear hS; go_simp; try with_reducible rfl)
  try simp only [Act.put, List.setIfInBounds_toArray, List.set_cons_zero, List.set_cons_succ]
  refine wpAnyH_take (i := 18) (oi := { dst := some 82, op := Op.pick (Operand.tmp 77) (Operand.const (Value.bool true)) (Operand.tmp 81), type := 4, pos := "law.go:67", after := #[{ on := 13, ground := Ground.data }, { on := 17, ground := Ground.data }], guard := none }) (v := .bool false) rfl (by kernel_rfl) (by kernel_rfl) (by kernel_rfl) (fun _ _ _ h => h) (Or.inl ⟨by rfl, ?y42⟩) R ?r42
  case y42 => (intro ww hS; clear hS; go_simp; try with_reducible rfl)
  try simp only [Act.put, List.setIfInBounds_toArray, List.set_cons_zero, List.set_cons_succ]
  refine wpAnyH_done (by kernel_rfl) ?_ _
  replace a0 := dcarry_cell R a0
  replace a1 := dcarry_cell R a1
  replace b0 := dcarry_cell R b0
  replace b1 := dcarry_cell R b1
  replace x0 := dcarry_cell R x0
  replace x1 := dcarry_cell R x1
  replace y0 := dcarry_cell R y0
  replace y1 := dcarry_cell R y1
  replace t0 := dcarry_cell R t0
  replace t1 := dcarry_cell R t1
  replace bw := nbelow_trans bw R
  clear R
  go_wp2_with fail
  refine Calls.mono (HRB.out _) ?_
  rintro r w10 ⟨rfl, bN⟩
  replace a0 := dcarry_cell bN a0
  replace a1 := dcarry_cell bN a1
  replace b0 := dcarry_cell bN b0
  replace b1 := dcarry_cell bN b1
  replace x0 := dcarry_cell bN x0
  replace x1 := dcarry_cell bN x1
  replace y0 := dcarry_cell bN y0
  replace y1 := dcarry_cell bN y1
  replace t0 := dcarry_cell bN t0
  replace t1 := dcarry_cell bN t1
  replace bw := nbelow_trans bw bN
  clear bN
  go_wp2_with fail
  refine Calls.mono (Fp.dBegins_calls _) ?_
  rintro r w11 ⟨rfl, bN⟩
  replace bw := nbelow_trans bw bN
  clear bN
  go_wp2_with fail
  go_ret
  exact ⟨rfl, bw⟩

set_option maxRecDepth 100000 in
set_option maxHeartbeats 4000000 in
theorem ddt_apb (h l h' l' : Nat) (w : World) (hh : h < 18446744073709551616) (hl : l < 18446744073709551616) (hh' : h' < 18446744073709551616) (hl' : l' < 18446744073709551616) (ra : Fp.rightP h l = true) (hlo : Fp.loF h = false) (rb : Fp.rightP h' l' = true) :
    Calls Try.prog 3 #[.agg #[.float .f64 h, .float .f64 l], .agg #[.float .f64 h', .float .f64 l']] w fun r w' => r = .returned (.bool true) ∧ Below w.heap.size w w' := by
  have HN : Hid _ := fun w => Fp.dneg_good h l w hh ra
  have HA : Hid _ := fun w => Fp.dabs_good h l w hh ra
  have HR : Hid _ := fun w => Fp.rRight_calls h l w hh
  rw [ra] at HR
  have HC : Hid _ := fun w => Fp.dcmp_good h l h' l' w hh hh' ra rb
  obtain ⟨fh, fl, -⟩ := Fp.right_PB h l ra
  have s1 : Hid _ := self_of (ng_fin h hh fh)
  have s2 : Hid _ := self_of (ng_fin l hl fl)
  have s3 : Hid _ := self_of fh
  have s4 : Hid _ := self_of fl
  have HL : Hid _ := fun w => Fp.rless_calls h l w
  have HRB : Hid _ := fun w => Fp.rRight_calls h' l' w hh'
  rw [rb] at HRB
  have e1 : Fp.abH h = h := by unfold Fp.abH; rw [if_neg (by rw [hlo]; decide)]
  have e2 : Fp.abL h l = l := by unfold Fp.abL; rw [if_neg (by rw [hlo]; decide)]
  have z1 : (FloatKind.f64.format.order h 0 == some .lt) = false := hlo
  rw [e1, e2] at HA
  clear e1 e2 hlo
  have HE : Hid _ := fun w => rexact_calls h l w hh hl
  have HE' : Hid _ := fun w => rexact_calls h' l' w hh' hl'
  change Hid (∀ w, Calls _ _ _ w fun r w' => ∃ v', r = .returned v' ∧ DyQ _ w' v' (exP h l) ∧ Below _ _ w') at HE
  change Hid (∀ w, Calls _ _ _ w fun r w' => ∃ v', r = .returned v' ∧ DyQ _ w' v' (exP h' l') ∧ Below _ _ w') at HE'
  have HO : Hid _ := fun a n c b m d w i hn j hm => rorder_calls h l h' l' hh hl hh' hl' ra rb a n c b m d w i hn j hm
  have HL1 : Hid _ := (exP_len h l).1
  have HL2 : Hid _ := (exP_len h' l').1
  generalize exP h l = p at *
  generalize exP h' l' = p' at *
  generalize Fp.lexI h l h' l' = kz at *
  clear fh fl
  clear hh hl hh' hl' ra rb
  have bw : Below w.heap.size w ((w.alloc (.cells #[.float .f64 h, .float .f64 l] 24)).alloc (.cells #[.float .f64 h', .float .f64 l'] 24)) := nbelow_trans (below_one _ _) (below_one _ _)
  have a0 : ((w.alloc (.cells #[.float .f64 h, .float .f64 l] 24)).alloc (.cells #[.float .f64 h', .float .f64 l'] 24)).cell? ⟨w.heap.size, 0, none⟩ = some (.float .f64 h) := by go_simp
  have a1 : ((w.alloc (.cells #[.float .f64 h, .float .f64 l] 24)).alloc (.cells #[.float .f64 h', .float .f64 l'] 24)).cell? ⟨w.heap.size, 1, none⟩ = some (.float .f64 l) := by go_simp
  have b0 : ((w.alloc (.cells #[.float .f64 h, .float .f64 l] 24)).alloc (.cells #[.float .f64 h', .float .f64 l'] 24)).cell? ⟨w.heap.size + 1, 0, none⟩ = some (.float .f64 h') := by go_simp
  have b1 : ((w.alloc (.cells #[.float .f64 h, .float .f64 l] 24)).alloc (.cells #[.float .f64 h', .float .f64 l'] 24)).cell? ⟨w.heap.size + 1, 1, none⟩ = some (.float .f64 l') := by go_simp
  go_enter Try.func3, Try.ntmps3
  go_wp2_with fail
  generalize ((w.alloc (.cells #[.float .f64 h, .float .f64 l] 24)).alloc (.cells #[.float .f64 h', .float .f64 l'] 24)) = w0 at *
  refine Calls.mono (HN.out _) ?_
  rintro r w1 ⟨rfl, bN⟩
  replace a0 := dcarry_cell bN a0
  replace a1 := dcarry_cell bN a1
  replace b0 := dcarry_cell bN b0
  replace b1 := dcarry_cell bN b1
  replace bw := nbelow_trans bw bN
  clear bN
  have bA := below_one w1 (.cells #[.float .f64 (Fp.ngF h), .float .f64 (Fp.ngF l)] 24)
  replace a0 := dcarry_cell bA a0
  replace a1 := dcarry_cell bA a1
  replace b0 := dcarry_cell bA b0
  replace b1 := dcarry_cell bA b1
  replace bw := nbelow_trans bw bA
  clear bA
  have x0 : (w1.alloc (.cells #[.float .f64 (Fp.ngF h), .float .f64 (Fp.ngF l)] 24)).cell? ⟨w1.heap.size, 0, none⟩ = some (.float .f64 (Fp.ngF h)) := by go_simp
  have x1 : (w1.alloc (.cells #[.float .f64 (Fp.ngF h), .float .f64 (Fp.ngF l)] 24)).cell? ⟨w1.heap.size, 1, none⟩ = some (.float .f64 (Fp.ngF l)) := by go_simp
  go_wp2_with fail
  generalize (w1.alloc (.cells #[.float .f64 (Fp.ngF h), .float .f64 (Fp.ngF l)] 24)) = w2 at *
  refine Calls.mono (HA.out _) ?_
  rintro r w3 ⟨rfl, bN⟩
  replace a0 := dcarry_cell bN a0
  replace a1 := dcarry_cell bN a1
  replace b0 := dcarry_cell bN b0
  replace b1 := dcarry_cell bN b1
  replace x0 := dcarry_cell bN x0
  replace x1 := dcarry_cell bN x1
  replace bw := nbelow_trans bw bN
  clear bN
  have bA := below_one w3 (.cells #[.float .f64 h, .float .f64 l] 24)
  replace a0 := dcarry_cell bA a0
  replace a1 := dcarry_cell bA a1
  replace b0 := dcarry_cell bA b0
  replace b1 := dcarry_cell bA b1
  replace x0 := dcarry_cell bA x0
  replace x1 := dcarry_cell bA x1
  replace bw := nbelow_trans bw bA
  clear bA
  have y0 : (w3.alloc (.cells #[.float .f64 h, .float .f64 l] 24)).cell? ⟨w3.heap.size, 0, none⟩ = some (.float .f64 h) := by go_simp
  have y1 : (w3.alloc (.cells #[.float .f64 h, .float .f64 l] 24)).cell? ⟨w3.heap.size, 1, none⟩ = some (.float .f64 l) := by go_simp
  go_wp2_with fail
  generalize (w3.alloc (.cells #[.float .f64 h, .float .f64 l] 24)) = w4 at *
  refine Calls.mono (HC.out _) ?_
  rintro r w5 ⟨rfl, bN⟩
  replace a0 := dcarry_cell bN a0
  replace a1 := dcarry_cell bN a1
  replace b0 := dcarry_cell bN b0
  replace b1 := dcarry_cell bN b1
  replace x0 := dcarry_cell bN x0
  replace x1 := dcarry_cell bN x1
  replace y0 := dcarry_cell bN y0
  replace y1 := dcarry_cell bN y1
  replace bw := nbelow_trans bw bN
  clear bN
  go_wp2_with fail
  refine Calls.mono (HR.out _) ?_
  rintro r w6 ⟨rfl, bN⟩
  replace a0 := dcarry_cell bN a0
  replace a1 := dcarry_cell bN a1
  replace b0 := dcarry_cell bN b0
  replace b1 := dcarry_cell bN b1
  replace x0 := dcarry_cell bN x0
  replace x1 := dcarry_cell bN x1
  replace y0 := dcarry_cell bN y0
  replace y1 := dcarry_cell bN y1
  replace bw := nbelow_trans bw bN
  clear bN
  have a0w := a0
  have a1w := a1
  have bA := below_one w6 (.cells #[.float .f64 h, .float .f64 l] 24)
  replace a0 := dcarry_cell bA a0
  replace a1 := dcarry_cell bA a1
  replace b0 := dcarry_cell bA b0
  replace b1 := dcarry_cell bA b1
  replace x0 := dcarry_cell bA x0
  replace x1 := dcarry_cell bA x1
  replace y0 := dcarry_cell bA y0
  replace y1 := dcarry_cell bA y1
  replace bw := nbelow_trans bw bA
  clear bA
  have t0 : (w6.alloc (.cells #[.float .f64 h, .float .f64 l] 24)).cell? ⟨w6.heap.size, 0, none⟩ = some (.float .f64 h) := by go_simp
  have t1 : (w6.alloc (.cells #[.float .f64 h, .float .f64 l] 24)).cell? ⟨w6.heap.size, 1, none⟩ = some (.float .f64 l) := by go_simp
  go_upto_region 9 with fail
  clear a0w a1w
  generalize (w6.alloc (.cells #[.float .f64 h, .float .f64 l] 24)) = w9 at *
  have R : Below w9.heap.size w9 (World.drew w9) := (Below.refl _ _).drew
  refine wp_region_held (S := fun w' => Below w9.heap.size w9 w') (by kernel_rfl) ?_
  change wpAnyH _ _ _ _ _ _ _ _ (World.drew w9)
  generalize World.drew w9 = wd at R ⊢
  refine wpAnyH_take (i := 0) (oi := { dst := some 64, op := Op.move (Operand.tmp 6), type := 25, pos := "law.go:67", after := #[], guard := none }) (v := .int .i64 0) rfl (by kernel_rfl) (by kernel_rfl) (by kernel_rfl) (fun _ _ _ h => h) (Or.inl ⟨by rfl, ?y43⟩) R ?r43
  case y43 => (intro ww hS; clear hS; go_simp; try with_reducible rfl)
  try simp only [Act.put, List.setIfInBounds_toArray, List.set_cons_zero, List.set_cons_succ]
  refine wpAnyH_take (i := 1) (oi := { dst := some 65, op := Op.binOp BinOp.neq 25 (Operand.tmp 64) (Operand.const (Value.int IntKind.i64 0)) 25, type := 4, pos := "law.go:67", after := #[{ on := 0, ground := Ground.data }], guard := none }) (v := .bool false) rfl (by kernel_rfl) (by kernel_rfl) (by kernel_rfl) (fun _ _ _ h => h) (Or.inl ⟨by rfl, ?y44⟩) R ?r44
  case y44 => (intro ww hS; clear hS; go_simp; try with_reducible rfl)
  try simp only [Act.put, List.setIfInBounds_toArray, List.set_cons_zero, List.set_cons_succ]
  refine wpAnyH_take (i := 2) (oi := { dst := some 66, op := Op.move (Operand.tmp 65), type := 4, pos := "law.go:67", after := #[{ on := 1, ground := Ground.data }], guard := none }) (v := .bool false) rfl (by kernel_rfl) (by kernel_rfl) (by kernel_rfl) (fun _ _ _ h => h) (Or.inl ⟨by rfl, ?y45⟩) R ?r45
  case y45 => (intro ww hS; clear hS; go_simp; try with_reducible rfl)
  try simp only [Act.put, List.setIfInBounds_toArray, List.set_cons_zero, List.set_cons_succ]
  refine wpAnyH_take (i := 3) (oi := { dst := some 67, op := Op.move (Operand.tmp 8), type := 25, pos := "law.go:67", after := #[{ on := 2, ground := Ground.guard }], guard := some (2, false) }) (v := .int .i64 0) rfl (by kernel_rfl) (by kernel_rfl) (by kernel_rfl) (fun _ _ _ h => h) (Or.inl ⟨by rfl, ?y46⟩) R ?r46
  case y46 => (intro ww hS; clear hS; go_simp; try with_reducible rfl)
  try simp only [Act.put, List.setIfInBounds_toArray, List.set_cons_zero, List.set_cons_succ]
  refine wpAnyH_take (i := 4) (oi := { dst := some 68, op := Op.binOp BinOp.neq 25 (Operand.tmp 67) (Operand.const (Value.int IntKind.i64 0)) 25, type := 4, pos := "law.go:67", after := #[{ on := 3, ground := Ground.data }, { on := 2, ground := Ground.guard }], guard := some (2, false) }) (v := .bool false) rfl (by kernel_rfl) (by kernel_rfl) (by kernel_rfl) (fun _ _ _ h => h) (Or.inl ⟨by rfl, ?y47⟩) R ?r47
  case y47 => (intro ww hS; clear hS; go_simp; try with_reducible rfl)
  try simp only [Act.put, List.setIfInBounds_toArray, List.set_cons_zero, List.set_cons_succ]
  refine wpAnyH_take (i := 5) (oi := { dst := some 69, op := Op.pick (Operand.tmp 66) (Operand.const (Value.bool true)) (Operand.tmp 68), type := 4, pos := "law.go:67", after := #[{ on := 2, ground := Ground.data }, { on := 4, ground := Ground.data }], guard := none }) (v := .bool false) rfl (by kernel_rfl) (by kernel_rfl) (by kernel_rfl) (fun _ _ _ h => h) (Or.inl ⟨by rfl, ?y48⟩) R ?r48
  case y48 => (intro ww hS; clear hS; go_simp; try with_reducible rfl)
  try simp only [Act.put, List.setIfInBounds_toArray, List.set_cons_zero, List.set_cons_succ]
  refine wpAnyH_take (i := 6) (oi := { dst := some 70, op := Op.move (Operand.tmp 69), type := 4, pos := "law.go:67", after := #[{ on := 5, ground := Ground.data }, { on := 2, ground := Ground.chain }], guard := none }) (v := .bool false) rfl (by kernel_rfl) (by kernel_rfl) (by kernel_rfl) (fun _ _ _ h => h) (Or.inl ⟨by rfl, ?y49⟩) R ?r49
  case y49 => (intro ww hS; clear hS; go_simp; try with_reducible rfl)
  try simp only [Act.put, List.setIfInBounds_toArray, List.set_cons_zero, List.set_cons_succ]
  refine wpAnyH_take (i := 7) (oi := { dst := some 71, op := Op.load 24 (Operand.tmp 5), type := 24, pos := "law.go:67", after := #[{ on := 6, ground := Ground.guard }], guard := some (6, false) }) (v := .agg #[.float .f64 (Fp.ngF h), .float .f64 (Fp.ngF l)]) rfl (by kernel_rfl) (by kernel_rfl) (by kernel_rfl) (fun _ _ _ h => h) (Or.inl ⟨by rfl, ?y50⟩) R ?r50
  case y50 => (intro ww hS; have qx0 := dcarry_cell hS x0; have qx1 := dcarry_cell hS x1; clear hS; go_simp; try with_reducible rfl)
  try simp only [Act.put, List.setIfInBounds_toArray, List.set_cons_zero, List.set_cons_succ]
  refine wpAnyH_take (i := 8) (oi := { dst := some 72, op := Op.load 24 (Operand.tmp 2), type := 24, pos := "law.go:67", after := #[{ on := 6, ground := Ground.guard }], guard := some (6, false) }) (v := .agg #[.float .f64 h, .float .f64 l]) rfl (by kernel_rfl) (by kernel_rfl) (by kernel_rfl) (fun _ _ _ h => h) (Or.inl ⟨by rfl, ?y51⟩) R ?r51
  case y51 => (intro ww hS; have qa0 := dcarry_cell hS a0; have qa1 := dcarry_cell hS a1; clear hS; go_simp; try with_reducible rfl)
  try simp only [Act.put, List.setIfInBounds_toArray, List.set_cons_zero, List.set_cons_succ]
  refine wpAnyH_ready (rs := [9]) (by kernel_rfl) (by simp) ?_
  refine AllReadyH.cons rfl (fun K hK => ?_) AllReadyH.nil
  go_simp
  refine Calls.mono (HL.out _) ?_
  rintro r wa ⟨rfl, bN⟩
  replace R := nbelow_trans R bN
  clear bN
  refine hK.out _ _ R (fun _ => ?_)
  clear hK K
  try simp only [Act.put, List.setIfInBounds_toArray, List.set_cons_zero, List.set_cons_succ]
  refine wpAnyH_ready (rs := [10]) (by kernel_rfl) (by simp) ?_
  refine AllReadyH.cons rfl (fun K hK => ?_) AllReadyH.nil
  go_simp
  refine Calls.mono (Fp.rSame_yes _ _ _ _ _ s1.out s2.out) ?_
  rintro r wb1 ⟨rfl, bN⟩
  replace R := nbelow_trans R bN
  clear bN
  refine hK.out _ _ R (fun _ => ?_)
  clear hK K
  try simp only [Act.put, List.setIfInBounds_toArray, List.set_cons_zero, List.set_cons_succ]
  refine wpAnyH_take (i := 11) (oi := { dst := some 75, op := Op.unOp UnOp.not 4 (Operand.tmp 74), type := 4, pos := "law.go:67", after := #[{ on := 10, ground := Ground.data }, { on := 6, ground := Ground.guard }], guard := some (6, false) }) (v := .bool false) rfl (by kernel_rfl) (by kernel_rfl) (by kernel_rfl) (fun _ _ _ h => h) (Or.inl ⟨by rfl, ?y52⟩) R ?r52
  case y52 => (intro ww hS; clear hS; go_simp; try with_reducible rfl)
  try simp only [Act.put, List.setIfInBounds_toArray, List.set_cons_zero, List.set_cons_succ]
  refine wpAnyH_take (i := 12) (oi := { dst := some 76, op := Op.pick (Operand.tmp 70) (Operand.const (Value.bool true)) (Operand.tmp 75), type := 4, pos := "law.go:67", after := #[{ on := 6, ground := Ground.data }, { on := 11, ground := Ground.data }], guard := none }) (v := .bool false) rfl (by kernel_rfl) (by kernel_rfl) (by kernel_rfl) (fun _ _ _ h => h) (Or.inl ⟨by rfl, ?y53⟩) R ?r53
  case y53 => (intro ww hS; clear hS; go_simp; try with_reducible rfl)
  try simp only [Act.put, List.setIfInBounds_toArray, List.set_cons_zero, List.set_cons_succ]
  refine wpAnyH_take (i := 13) (oi := { dst := some 77, op := Op.move (Operand.tmp 76), type := 4, pos := "law.go:67", after := #[{ on := 12, ground := Ground.data }, { on := 10, ground := Ground.chain }], guard := none }) (v := .bool false) rfl (by kernel_rfl) (by kernel_rfl) (by kernel_rfl) (fun _ _ _ h => h) (Or.inl ⟨by rfl, ?y54⟩) R ?r54
  case y54 => (intro ww hS; clear hS; go_simp; try with_reducible rfl)
  try simp only [Act.put, List.setIfInBounds_toArray, List.set_cons_zero, List.set_cons_succ]
  refine wpAnyH_take (i := 14) (oi := { dst := some 78, op := Op.load 24 (Operand.tmp 7), type := 24, pos := "law.go:67", after := #[{ on := 13, ground := Ground.guard }], guard := some (13, false) }) (v := .agg #[.float .f64 h, .float .f64 l]) rfl (by kernel_rfl) (by kernel_rfl) (by kernel_rfl) (fun _ _ _ h => h) (Or.inl ⟨by rfl, ?y55⟩) R ?r55
  case y55 => (intro ww hS; have qy0 := dcarry_cell hS y0; have qy1 := dcarry_cell hS y1; clear hS; go_simp; try with_reducible rfl)
  try simp only [Act.put, List.setIfInBounds_toArray, List.set_cons_zero, List.set_cons_succ]
  refine wpAnyH_take (i := 15) (oi := { dst := some 79, op := Op.load 24 (Operand.tmp 11), type := 24, pos := "law.go:67", after := #[{ on := 13, ground := Ground.guard }], guard := some (13, false) }) (v := .agg #[.float .f64 h, .float .f64 l]) rfl (by kernel_rfl) (by kernel_rfl) (by kernel_rfl) (fun _ _ _ h => h) (Or.inl ⟨by rfl, ?y56⟩) R ?r56
  case y56 => (intro ww hS; have qt0 := dcarry_cell hS t0; have qt1 := dcarry_cell hS t1; clear hS; go_simp; try with_reducible rfl)
  try simp only [Act.put, List.setIfInBounds_toArray, List.set_cons_zero, List.set_cons_succ]
  refine wpAnyH_ready (rs := [16]) (by kernel_rfl) (by simp) ?_
  refine AllReadyH.cons rfl (fun K hK => ?_) AllReadyH.nil
  go_simp
  refine Calls.mono (Fp.rSame_yes _ _ _ _ _ s3.out s4.out) ?_
  rintro r wc1 ⟨rfl, bN⟩
  replace R := nbelow_trans R bN
  clear bN
  refine hK.out _ _ R (fun _ => ?_)
  clear hK K
  try simp only [Act.put, List.setIfInBounds_toArray, List.set_cons_zero, List.set_cons_succ]
  refine wpAnyH_take (i := 17) (oi := { dst := some 81, op := Op.unOp UnOp.not 4 (Operand.tmp 80), type := 4, pos := "law.go:67", after := #[{ on := 16, ground := Ground.data }, { on := 13, ground := Ground.guard }], guard := some (13, false) }) (v := .bool false) rfl (by kernel_rfl) (by kernel_rfl) (by kernel_rfl) (fun _ _ _ h => h) (Or.inl ⟨by rfl, ?y57⟩) R ?r57
  case y57 => (intro ww hS; clear hS; go_simp; try with_reducible rfl)
  try simp only [Act.put, List.setIfInBounds_toArray, List.set_cons_zero, List.set_cons_succ]
  refine wpAnyH_take (i := 18) (oi := { dst := some 82, op := Op.pick (Operand.tmp 77) (Operand.const (Value.bool true)) (Operand.tmp 81), type := 4, pos := "law.go:67", after := #[{ on := 13, ground := Ground.data }, { on := 17, ground := Ground.data }], guard := none }) (v := .bool false) rfl (by kernel_rfl) (by kernel_rfl) (by kernel_rfl) (fun _ _ _ h => h) (Or.inl ⟨by rfl, ?y58⟩) R ?r58
  case y58 => (intro ww hS; clear hS; go_simp; try with_reducible rfl)
  try simp only [Act.put, List.setIfInBounds_toArray, List.set_cons_zero, List.set_cons_succ]
  refine wpAnyH_done (by kernel_rfl) ?_ _
  replace a0 := dcarry_cell R a0
  replace a1 := dcarry_cell R a1
  replace b0 := dcarry_cell R b0
  replace b1 := dcarry_cell R b1
  replace x0 := dcarry_cell R x0
  replace x1 := dcarry_cell R x1
  replace y0 := dcarry_cell R y0
  replace y1 := dcarry_cell R y1
  replace t0 := dcarry_cell R t0
  replace t1 := dcarry_cell R t1
  replace bw := nbelow_trans bw R
  clear R
  go_wp2_with fail
  refine Calls.mono (HRB.out _) ?_
  rintro r w10 ⟨rfl, bN⟩
  replace a0 := dcarry_cell bN a0
  replace a1 := dcarry_cell bN a1
  replace b0 := dcarry_cell bN b0
  replace b1 := dcarry_cell bN b1
  replace x0 := dcarry_cell bN x0
  replace x1 := dcarry_cell bN x1
  replace y0 := dcarry_cell bN y0
  replace y1 := dcarry_cell bN y1
  replace t0 := dcarry_cell bN t0
  replace t1 := dcarry_cell bN t1
  replace bw := nbelow_trans bw bN
  clear bN
  go_upto_region 13 with fail
  have R : Below w10.heap.size w10 (World.drew w10) := (Below.refl _ _).drew
  refine wp_region_held (S := fun w' => Below w10.heap.size w10 w') (by kernel_rfl) ?_
  change wpAnyH _ _ _ _ _ _ _ _ (World.drew w10)
  generalize World.drew w10 = wd at R ⊢
  refine wpAnyH_take (i := 0) (oi := { dst := some 95, op := Op.move (Operand.tmp 10), type := 25, pos := "law.go:73", after := #[], guard := none }) (v := .int .i64 0) rfl (by kernel_rfl) (by kernel_rfl) (by kernel_rfl) (fun _ _ _ h => h) (Or.inl ⟨by rfl, ?y59⟩) R ?r59
  case y59 => (intro ww hS; clear hS; go_simp; try with_reducible rfl)
  try simp only [Act.put, List.setIfInBounds_toArray, List.set_cons_zero, List.set_cons_succ]
  refine wpAnyH_take (i := 1) (oi := { dst := some 96, op := Op.binOp BinOp.eql 25 (Operand.tmp 95) (Operand.const (Value.int IntKind.i64 0)) 25, type := 4, pos := "law.go:73", after := #[{ on := 0, ground := Ground.data }], guard := none }) (v := .bool true) rfl (by kernel_rfl) (by kernel_rfl) (by kernel_rfl) (fun _ _ _ h => h) (Or.inl ⟨by rfl, ?y60⟩) R ?r60
  case y60 => (intro ww hS; clear hS; go_simp; try with_reducible rfl)
  try simp only [Act.put, List.setIfInBounds_toArray, List.set_cons_zero, List.set_cons_succ]
  refine wpAnyH_take (i := 2) (oi := { dst := some 97, op := Op.move (Operand.tmp 96), type := 4, pos := "law.go:73", after := #[{ on := 1, ground := Ground.data }], guard := none }) (v := .bool true) rfl (by kernel_rfl) (by kernel_rfl) (by kernel_rfl) (fun _ _ _ h => h) (Or.inl ⟨by rfl, ?y61⟩) R ?r61
  case y61 => (intro ww hS; clear hS; go_simp; try with_reducible rfl)
  try simp only [Act.put, List.setIfInBounds_toArray, List.set_cons_zero, List.set_cons_succ]
  refine wpAnyH_take (i := 3) (oi := { dst := some 98, op := Op.move (Operand.tmp 9), type := 3, pos := "law.go:73", after := #[{ on := 2, ground := Ground.guard }], guard := some (2, true) }) (v := .int .i64 kz) rfl (by kernel_rfl) (by kernel_rfl) (by kernel_rfl) (fun _ _ _ h => h) (Or.inl ⟨by rfl, ?y62⟩) R ?r62
  case y62 => (intro ww hS; clear hS; go_simp; try with_reducible rfl)
  try simp only [Act.put, List.setIfInBounds_toArray, List.set_cons_zero, List.set_cons_succ]
  refine wpAnyH_take (i := 4) (oi := { dst := some 99, op := Op.load 24 (Operand.tmp 2), type := 24, pos := "law.go:73", after := #[{ on := 2, ground := Ground.guard }], guard := some (2, true) }) (v := .agg #[.float .f64 h, .float .f64 l]) rfl (by kernel_rfl) (by kernel_rfl) (by kernel_rfl) (fun _ _ _ h => h) (Or.inl ⟨by rfl, ?y63⟩) R ?r63
  case y63 => (intro ww hS; have qa0 := dcarry_cell hS a0; have qa1 := dcarry_cell hS a1; clear hS; go_simp; try with_reducible rfl)
  try simp only [Act.put, List.setIfInBounds_toArray, List.set_cons_zero, List.set_cons_succ]
  refine wpAnyH_take (i := 6) (oi := { dst := some 101, op := Op.load 24 (Operand.tmp 3), type := 24, pos := "law.go:73", after := #[{ on := 2, ground := Ground.guard }], guard := some (2, true) }) (v := .agg #[.float .f64 h', .float .f64 l']) rfl (by kernel_rfl) (by kernel_rfl) (by kernel_rfl) (fun _ _ _ h => h) (Or.inl ⟨by rfl, ?y64⟩) R ?r64
  case y64 => (intro ww hS; have qb0 := dcarry_cell hS b0; have qb1 := dcarry_cell hS b1; clear hS; go_simp; try with_reducible rfl)
  try simp only [Act.put, List.setIfInBounds_toArray, List.set_cons_zero, List.set_cons_succ]
  refine wpAnyH_ready (rs := [5]) (by kernel_rfl) (by simp) ?_
  refine AllReadyH.cons rfl (fun K hK => ?_) AllReadyH.nil
  go_simp
  refine Calls.mono (HE.out _) ?_
  rintro r we ⟨_, rfl, ⟨ae, ne, ce, rfl, HN1, hO1⟩, bN⟩
  replace R := nbelow_trans R bN
  have Ie := hO1.1
  have hne : ne ≤ 1024 := by rw [HN1.out]; exact HL1.out
  clear hO1 HN1
  clear bN
  refine hK.out _ _ R (fun _ => ?_)
  clear hK K
  try simp only [Act.put, List.setIfInBounds_toArray, List.set_cons_zero, List.set_cons_succ]
  refine wpAnyH_ready (rs := [7]) (by kernel_rfl) (by simp) ?_
  refine AllReadyH.cons rfl (fun K hK => ?_) AllReadyH.nil
  go_simp
  refine Calls.mono (HE'.out _) ?_
  rintro r wf ⟨_, rfl, ⟨af, nf, cf, rfl, HN2, hO2⟩, bN⟩
  replace R := nbelow_trans R bN
  replace Ie := Ie.keep bN
  have If := hO2.1
  have hnf : nf ≤ 1024 := by rw [HN2.out]; exact HL2.out
  clear hO2 HN2
  clear bN
  refine hK.out _ _ R (fun _ => ?_)
  clear hK K
  try simp only [Act.put, List.setIfInBounds_toArray, List.set_cons_zero, List.set_cons_succ]
  refine wpAnyH_ready (rs := [8]) (by kernel_rfl) (by simp) ?_
  refine AllReadyH.cons rfl (fun K hK => ?_) AllReadyH.nil
  go_simp
  refine Calls.mono (HO.out _ _ _ _ _ _ _ Ie hne If hnf) ?_
  rintro r wg ⟨rfl, bN⟩
  replace R := nbelow_trans R bN
  clear bN
  refine hK.out _ _ R (fun _ => ?_)
  clear hK K
  try simp only [Act.put, List.setIfInBounds_toArray, List.set_cons_zero, List.set_cons_succ]
  refine wpAnyH_take (i := 9) (oi := { dst := some 104, op := Op.binOp BinOp.eql 3 (Operand.tmp 98) (Operand.tmp 103) 3, type := 4, pos := "law.go:73", after := #[{ on := 3, ground := Ground.data }, { on := 8, ground := Ground.data }, { on := 2, ground := Ground.guard }], guard := some (2, true) }) (v := .bool true) rfl (by kernel_rfl) (by kernel_rfl) (by kernel_rfl) (fun _ _ _ h => h) (Or.inl ⟨by rfl, ?y65⟩) R ?r65
  case y65 => (intro ww hS; clear hS; go_simp; try with_reducible rfl)
  try simp only [Act.put, List.setIfInBounds_toArray, List.set_cons_zero, List.set_cons_succ]
  refine wpAnyH_take (i := 10) (oi := { dst := some 105, op := Op.pick (Operand.tmp 97) (Operand.tmp 104) (Operand.const (Value.bool false)), type := 4, pos := "law.go:73", after := #[{ on := 2, ground := Ground.data }, { on := 9, ground := Ground.data }], guard := none }) (v := .bool true) rfl (by kernel_rfl) (by kernel_rfl) (by kernel_rfl) (fun _ _ _ h => h) (Or.inl ⟨by rfl, ?y66⟩) R ?r66
  case y66 => (intro ww hS; clear hS; go_simp; try with_reducible rfl)
  try simp only [Act.put, List.setIfInBounds_toArray, List.set_cons_zero, List.set_cons_succ]
  refine wpAnyH_take (i := 11) (oi := { dst := some 106, op := Op.move (Operand.tmp 105), type := 4, pos := "law.go:73", after := #[{ on := 10, ground := Ground.data }, { on := 8, ground := Ground.chain }], guard := none }) (v := .bool true) rfl (by kernel_rfl) (by kernel_rfl) (by kernel_rfl) (fun _ _ _ h => h) (Or.inl ⟨by rfl, ?y67⟩) R ?r67
  case y67 => (intro ww hS; clear hS; go_simp; try with_reducible rfl)
  try simp only [Act.put, List.setIfInBounds_toArray, List.set_cons_zero, List.set_cons_succ]
  refine wpAnyH_ready (rs := [12]) (by kernel_rfl) (by simp) ?_
  refine AllReadyH.cons rfl (fun K hK => ?_) AllReadyH.nil
  go_simp
  refine Calls.mono (Fp.dBegins_calls _) ?_
  rintro r wh ⟨rfl, bN⟩
  replace R := nbelow_trans R bN
  clear bN
  refine hK.out _ _ R (fun _ => ?_)
  clear hK K
  try simp only [Act.put, List.setIfInBounds_toArray, List.set_cons_zero, List.set_cons_succ]
  refine wpAnyH_take (i := 13) (oi := { dst := some 108, op := Op.pick (Operand.tmp 106) (Operand.tmp 107) (Operand.const (Value.bool false)), type := 4, pos := "law.go:73", after := #[{ on := 11, ground := Ground.data }, { on := 12, ground := Ground.data }], guard := none }) (v := .bool true) rfl (by kernel_rfl) (by kernel_rfl) (by kernel_rfl) (fun _ _ _ h => h) (Or.inl ⟨by rfl, ?y68⟩) R ?r68
  case y68 => (intro ww hS; clear hS; go_simp; try with_reducible rfl)
  try simp only [Act.put, List.setIfInBounds_toArray, List.set_cons_zero, List.set_cons_succ]
  refine wpAnyH_ready (rs := [14]) (by kernel_rfl) (by simp) ?_
  refine AllReadyH.cons rfl (fun K hK => ?_) AllReadyH.nil
  go_simp
  refine hK.out _ _ R (fun _ => ?_)
  clear hK K
  try simp only [Act.put, List.setIfInBounds_toArray, List.set_cons_zero, List.set_cons_succ]
  refine wpAnyH_done (by kernel_rfl) ?_ _
  replace a0 := dcarry_cell R a0
  replace a1 := dcarry_cell R a1
  replace b0 := dcarry_cell R b0
  replace b1 := dcarry_cell R b1
  replace x0 := dcarry_cell R x0
  replace x1 := dcarry_cell R x1
  replace y0 := dcarry_cell R y0
  replace y1 := dcarry_cell R y1
  replace t0 := dcarry_cell R t0
  replace t1 := dcarry_cell R t1
  replace bw := nbelow_trans bw R
  clear R
  go_wp2_with fail
  go_ret
  exact ⟨rfl, bw⟩

set_option maxRecDepth 100000 in
set_option maxHeartbeats 4000000 in
theorem ddt_apx (h l h' l' : Nat) (w : World) (hh : h < 18446744073709551616) (hl : l < 18446744073709551616) (hh' : h' < 18446744073709551616) (_hl' : l' < 18446744073709551616) (ra : Fp.rightP h l = true) (hlo : Fp.loF h = false) (rb : Fp.rightP h' l' = false) :
    Calls Try.prog 3 #[.agg #[.float .f64 h, .float .f64 l], .agg #[.float .f64 h', .float .f64 l']] w fun r w' => r = .returned (.bool true) ∧ Below w.heap.size w w' := by
  have HN : Hid _ := fun w => Fp.dneg_good h l w hh ra
  have HA : Hid _ := fun w => Fp.dabs_good h l w hh ra
  have HR : Hid _ := fun w => Fp.rRight_calls h l w hh
  rw [ra] at HR
  have HC : Hid _ := fun w => Fp.dcmp_bad h l h' l' w hh hh' (by rw [ra, rb]; rfl)
  obtain ⟨fh, fl, -⟩ := Fp.right_PB h l ra
  have s1 : Hid _ := self_of (ng_fin h hh fh)
  have s2 : Hid _ := self_of (ng_fin l hl fl)
  have s3 : Hid _ := self_of fh
  have s4 : Hid _ := self_of fl
  have HL : Hid _ := fun w => Fp.rless_calls h l w
  have HRB : Hid _ := fun w => Fp.rRight_calls h' l' w hh'
  rw [rb] at HRB
  have e1 : Fp.abH h = h := by unfold Fp.abH; rw [if_neg (by rw [hlo]; decide)]
  have e2 : Fp.abL h l = l := by unfold Fp.abL; rw [if_neg (by rw [hlo]; decide)]
  have z1 : (FloatKind.f64.format.order h 0 == some .lt) = false := hlo
  rw [e1, e2] at HA
  clear e1 e2 hlo
  clear fh fl
  clear hh hl hh' _hl' ra rb
  have bw : Below w.heap.size w ((w.alloc (.cells #[.float .f64 h, .float .f64 l] 24)).alloc (.cells #[.float .f64 h', .float .f64 l'] 24)) := nbelow_trans (below_one _ _) (below_one _ _)
  have a0 : ((w.alloc (.cells #[.float .f64 h, .float .f64 l] 24)).alloc (.cells #[.float .f64 h', .float .f64 l'] 24)).cell? ⟨w.heap.size, 0, none⟩ = some (.float .f64 h) := by go_simp
  have a1 : ((w.alloc (.cells #[.float .f64 h, .float .f64 l] 24)).alloc (.cells #[.float .f64 h', .float .f64 l'] 24)).cell? ⟨w.heap.size, 1, none⟩ = some (.float .f64 l) := by go_simp
  have b0 : ((w.alloc (.cells #[.float .f64 h, .float .f64 l] 24)).alloc (.cells #[.float .f64 h', .float .f64 l'] 24)).cell? ⟨w.heap.size + 1, 0, none⟩ = some (.float .f64 h') := by go_simp
  have b1 : ((w.alloc (.cells #[.float .f64 h, .float .f64 l] 24)).alloc (.cells #[.float .f64 h', .float .f64 l'] 24)).cell? ⟨w.heap.size + 1, 1, none⟩ = some (.float .f64 l') := by go_simp
  go_enter Try.func3, Try.ntmps3
  go_wp2_with fail
  generalize ((w.alloc (.cells #[.float .f64 h, .float .f64 l] 24)).alloc (.cells #[.float .f64 h', .float .f64 l'] 24)) = w0 at *
  refine Calls.mono (HN.out _) ?_
  rintro r w1 ⟨rfl, bN⟩
  replace a0 := dcarry_cell bN a0
  replace a1 := dcarry_cell bN a1
  replace b0 := dcarry_cell bN b0
  replace b1 := dcarry_cell bN b1
  replace bw := nbelow_trans bw bN
  clear bN
  have bA := below_one w1 (.cells #[.float .f64 (Fp.ngF h), .float .f64 (Fp.ngF l)] 24)
  replace a0 := dcarry_cell bA a0
  replace a1 := dcarry_cell bA a1
  replace b0 := dcarry_cell bA b0
  replace b1 := dcarry_cell bA b1
  replace bw := nbelow_trans bw bA
  clear bA
  have x0 : (w1.alloc (.cells #[.float .f64 (Fp.ngF h), .float .f64 (Fp.ngF l)] 24)).cell? ⟨w1.heap.size, 0, none⟩ = some (.float .f64 (Fp.ngF h)) := by go_simp
  have x1 : (w1.alloc (.cells #[.float .f64 (Fp.ngF h), .float .f64 (Fp.ngF l)] 24)).cell? ⟨w1.heap.size, 1, none⟩ = some (.float .f64 (Fp.ngF l)) := by go_simp
  go_wp2_with fail
  generalize (w1.alloc (.cells #[.float .f64 (Fp.ngF h), .float .f64 (Fp.ngF l)] 24)) = w2 at *
  refine Calls.mono (HA.out _) ?_
  rintro r w3 ⟨rfl, bN⟩
  replace a0 := dcarry_cell bN a0
  replace a1 := dcarry_cell bN a1
  replace b0 := dcarry_cell bN b0
  replace b1 := dcarry_cell bN b1
  replace x0 := dcarry_cell bN x0
  replace x1 := dcarry_cell bN x1
  replace bw := nbelow_trans bw bN
  clear bN
  have bA := below_one w3 (.cells #[.float .f64 h, .float .f64 l] 24)
  replace a0 := dcarry_cell bA a0
  replace a1 := dcarry_cell bA a1
  replace b0 := dcarry_cell bA b0
  replace b1 := dcarry_cell bA b1
  replace x0 := dcarry_cell bA x0
  replace x1 := dcarry_cell bA x1
  replace bw := nbelow_trans bw bA
  clear bA
  have y0 : (w3.alloc (.cells #[.float .f64 h, .float .f64 l] 24)).cell? ⟨w3.heap.size, 0, none⟩ = some (.float .f64 h) := by go_simp
  have y1 : (w3.alloc (.cells #[.float .f64 h, .float .f64 l] 24)).cell? ⟨w3.heap.size, 1, none⟩ = some (.float .f64 l) := by go_simp
  go_wp2_with fail
  generalize (w3.alloc (.cells #[.float .f64 h, .float .f64 l] 24)) = w4 at *
  refine Calls.mono (HC.out _) ?_
  rintro r w5 ⟨rfl, bN⟩
  replace a0 := dcarry_cell bN a0
  replace a1 := dcarry_cell bN a1
  replace b0 := dcarry_cell bN b0
  replace b1 := dcarry_cell bN b1
  replace x0 := dcarry_cell bN x0
  replace x1 := dcarry_cell bN x1
  replace y0 := dcarry_cell bN y0
  replace y1 := dcarry_cell bN y1
  replace bw := nbelow_trans bw bN
  clear bN
  go_wp2_with fail
  refine Calls.mono (HR.out _) ?_
  rintro r w6 ⟨rfl, bN⟩
  replace a0 := dcarry_cell bN a0
  replace a1 := dcarry_cell bN a1
  replace b0 := dcarry_cell bN b0
  replace b1 := dcarry_cell bN b1
  replace x0 := dcarry_cell bN x0
  replace x1 := dcarry_cell bN x1
  replace y0 := dcarry_cell bN y0
  replace y1 := dcarry_cell bN y1
  replace bw := nbelow_trans bw bN
  clear bN
  have a0w := a0
  have a1w := a1
  have bA := below_one w6 (.cells #[.float .f64 h, .float .f64 l] 24)
  replace a0 := dcarry_cell bA a0
  replace a1 := dcarry_cell bA a1
  replace b0 := dcarry_cell bA b0
  replace b1 := dcarry_cell bA b1
  replace x0 := dcarry_cell bA x0
  replace x1 := dcarry_cell bA x1
  replace y0 := dcarry_cell bA y0
  replace y1 := dcarry_cell bA y1
  replace bw := nbelow_trans bw bA
  clear bA
  have t0 : (w6.alloc (.cells #[.float .f64 h, .float .f64 l] 24)).cell? ⟨w6.heap.size, 0, none⟩ = some (.float .f64 h) := by go_simp
  have t1 : (w6.alloc (.cells #[.float .f64 h, .float .f64 l] 24)).cell? ⟨w6.heap.size, 1, none⟩ = some (.float .f64 l) := by go_simp
  go_upto_region 9 with fail
  clear a0w a1w
  generalize (w6.alloc (.cells #[.float .f64 h, .float .f64 l] 24)) = w9 at *
  have R : Below w9.heap.size w9 (World.drew w9) := (Below.refl _ _).drew
  refine wp_region_held (S := fun w' => Below w9.heap.size w9 w') (by kernel_rfl) ?_
  change wpAnyH _ _ _ _ _ _ _ _ (World.drew w9)
  generalize World.drew w9 = wd at R ⊢
  refine wpAnyH_take (i := 0) (oi := { dst := some 64, op := Op.move (Operand.tmp 6), type := 25, pos := "law.go:67", after := #[], guard := none }) (v := .int .i64 0) rfl (by kernel_rfl) (by kernel_rfl) (by kernel_rfl) (fun _ _ _ h => h) (Or.inl ⟨by rfl, ?y69⟩) R ?r69
  case y69 => (intro ww hS; clear hS; go_simp; try with_reducible rfl)
  try simp only [Act.put, List.setIfInBounds_toArray, List.set_cons_zero, List.set_cons_succ]
  refine wpAnyH_take (i := 1) (oi := { dst := some 65, op := Op.binOp BinOp.neq 25 (Operand.tmp 64) (Operand.const (Value.int IntKind.i64 0)) 25, type := 4, pos := "law.go:67", after := #[{ on := 0, ground := Ground.data }], guard := none }) (v := .bool false) rfl (by kernel_rfl) (by kernel_rfl) (by kernel_rfl) (fun _ _ _ h => h) (Or.inl ⟨by rfl, ?y70⟩) R ?r70
  case y70 => (intro ww hS; clear hS; go_simp; try with_reducible rfl)
  try simp only [Act.put, List.setIfInBounds_toArray, List.set_cons_zero, List.set_cons_succ]
  refine wpAnyH_take (i := 2) (oi := { dst := some 66, op := Op.move (Operand.tmp 65), type := 4, pos := "law.go:67", after := #[{ on := 1, ground := Ground.data }], guard := none }) (v := .bool false) rfl (by kernel_rfl) (by kernel_rfl) (by kernel_rfl) (fun _ _ _ h => h) (Or.inl ⟨by rfl, ?y71⟩) R ?r71
  case y71 => (intro ww hS; clear hS; go_simp; try with_reducible rfl)
  try simp only [Act.put, List.setIfInBounds_toArray, List.set_cons_zero, List.set_cons_succ]
  refine wpAnyH_take (i := 3) (oi := { dst := some 67, op := Op.move (Operand.tmp 8), type := 25, pos := "law.go:67", after := #[{ on := 2, ground := Ground.guard }], guard := some (2, false) }) (v := .int .i64 0) rfl (by kernel_rfl) (by kernel_rfl) (by kernel_rfl) (fun _ _ _ h => h) (Or.inl ⟨by rfl, ?y72⟩) R ?r72
  case y72 => (intro ww hS; clear hS; go_simp; try with_reducible rfl)
  try simp only [Act.put, List.setIfInBounds_toArray, List.set_cons_zero, List.set_cons_succ]
  refine wpAnyH_take (i := 4) (oi := { dst := some 68, op := Op.binOp BinOp.neq 25 (Operand.tmp 67) (Operand.const (Value.int IntKind.i64 0)) 25, type := 4, pos := "law.go:67", after := #[{ on := 3, ground := Ground.data }, { on := 2, ground := Ground.guard }], guard := some (2, false) }) (v := .bool false) rfl (by kernel_rfl) (by kernel_rfl) (by kernel_rfl) (fun _ _ _ h => h) (Or.inl ⟨by rfl, ?y73⟩) R ?r73
  case y73 => (intro ww hS; clear hS; go_simp; try with_reducible rfl)
  try simp only [Act.put, List.setIfInBounds_toArray, List.set_cons_zero, List.set_cons_succ]
  refine wpAnyH_take (i := 5) (oi := { dst := some 69, op := Op.pick (Operand.tmp 66) (Operand.const (Value.bool true)) (Operand.tmp 68), type := 4, pos := "law.go:67", after := #[{ on := 2, ground := Ground.data }, { on := 4, ground := Ground.data }], guard := none }) (v := .bool false) rfl (by kernel_rfl) (by kernel_rfl) (by kernel_rfl) (fun _ _ _ h => h) (Or.inl ⟨by rfl, ?y74⟩) R ?r74
  case y74 => (intro ww hS; clear hS; go_simp; try with_reducible rfl)
  try simp only [Act.put, List.setIfInBounds_toArray, List.set_cons_zero, List.set_cons_succ]
  refine wpAnyH_take (i := 6) (oi := { dst := some 70, op := Op.move (Operand.tmp 69), type := 4, pos := "law.go:67", after := #[{ on := 5, ground := Ground.data }, { on := 2, ground := Ground.chain }], guard := none }) (v := .bool false) rfl (by kernel_rfl) (by kernel_rfl) (by kernel_rfl) (fun _ _ _ h => h) (Or.inl ⟨by rfl, ?y75⟩) R ?r75
  case y75 => (intro ww hS; clear hS; go_simp; try with_reducible rfl)
  try simp only [Act.put, List.setIfInBounds_toArray, List.set_cons_zero, List.set_cons_succ]
  refine wpAnyH_take (i := 7) (oi := { dst := some 71, op := Op.load 24 (Operand.tmp 5), type := 24, pos := "law.go:67", after := #[{ on := 6, ground := Ground.guard }], guard := some (6, false) }) (v := .agg #[.float .f64 (Fp.ngF h), .float .f64 (Fp.ngF l)]) rfl (by kernel_rfl) (by kernel_rfl) (by kernel_rfl) (fun _ _ _ h => h) (Or.inl ⟨by rfl, ?y76⟩) R ?r76
  case y76 => (intro ww hS; have qx0 := dcarry_cell hS x0; have qx1 := dcarry_cell hS x1; clear hS; go_simp; try with_reducible rfl)
  try simp only [Act.put, List.setIfInBounds_toArray, List.set_cons_zero, List.set_cons_succ]
  refine wpAnyH_take (i := 8) (oi := { dst := some 72, op := Op.load 24 (Operand.tmp 2), type := 24, pos := "law.go:67", after := #[{ on := 6, ground := Ground.guard }], guard := some (6, false) }) (v := .agg #[.float .f64 h, .float .f64 l]) rfl (by kernel_rfl) (by kernel_rfl) (by kernel_rfl) (fun _ _ _ h => h) (Or.inl ⟨by rfl, ?y77⟩) R ?r77
  case y77 => (intro ww hS; have qa0 := dcarry_cell hS a0; have qa1 := dcarry_cell hS a1; clear hS; go_simp; try with_reducible rfl)
  try simp only [Act.put, List.setIfInBounds_toArray, List.set_cons_zero, List.set_cons_succ]
  refine wpAnyH_ready (rs := [9]) (by kernel_rfl) (by simp) ?_
  refine AllReadyH.cons rfl (fun K hK => ?_) AllReadyH.nil
  go_simp
  refine Calls.mono (HL.out _) ?_
  rintro r wa ⟨rfl, bN⟩
  replace R := nbelow_trans R bN
  clear bN
  refine hK.out _ _ R (fun _ => ?_)
  clear hK K
  try simp only [Act.put, List.setIfInBounds_toArray, List.set_cons_zero, List.set_cons_succ]
  refine wpAnyH_ready (rs := [10]) (by kernel_rfl) (by simp) ?_
  refine AllReadyH.cons rfl (fun K hK => ?_) AllReadyH.nil
  go_simp
  refine Calls.mono (Fp.rSame_yes _ _ _ _ _ s1.out s2.out) ?_
  rintro r wb1 ⟨rfl, bN⟩
  replace R := nbelow_trans R bN
  clear bN
  refine hK.out _ _ R (fun _ => ?_)
  clear hK K
  try simp only [Act.put, List.setIfInBounds_toArray, List.set_cons_zero, List.set_cons_succ]
  refine wpAnyH_take (i := 11) (oi := { dst := some 75, op := Op.unOp UnOp.not 4 (Operand.tmp 74), type := 4, pos := "law.go:67", after := #[{ on := 10, ground := Ground.data }, { on := 6, ground := Ground.guard }], guard := some (6, false) }) (v := .bool false) rfl (by kernel_rfl) (by kernel_rfl) (by kernel_rfl) (fun _ _ _ h => h) (Or.inl ⟨by rfl, ?y78⟩) R ?r78
  case y78 => (intro ww hS; clear hS; go_simp; try with_reducible rfl)
  try simp only [Act.put, List.setIfInBounds_toArray, List.set_cons_zero, List.set_cons_succ]
  refine wpAnyH_take (i := 12) (oi := { dst := some 76, op := Op.pick (Operand.tmp 70) (Operand.const (Value.bool true)) (Operand.tmp 75), type := 4, pos := "law.go:67", after := #[{ on := 6, ground := Ground.data }, { on := 11, ground := Ground.data }], guard := none }) (v := .bool false) rfl (by kernel_rfl) (by kernel_rfl) (by kernel_rfl) (fun _ _ _ h => h) (Or.inl ⟨by rfl, ?y79⟩) R ?r79
  case y79 => (intro ww hS; clear hS; go_simp; try with_reducible rfl)
  try simp only [Act.put, List.setIfInBounds_toArray, List.set_cons_zero, List.set_cons_succ]
  refine wpAnyH_take (i := 13) (oi := { dst := some 77, op := Op.move (Operand.tmp 76), type := 4, pos := "law.go:67", after := #[{ on := 12, ground := Ground.data }, { on := 10, ground := Ground.chain }], guard := none }) (v := .bool false) rfl (by kernel_rfl) (by kernel_rfl) (by kernel_rfl) (fun _ _ _ h => h) (Or.inl ⟨by rfl, ?y80⟩) R ?r80
  case y80 => (intro ww hS; clear hS; go_simp; try with_reducible rfl)
  try simp only [Act.put, List.setIfInBounds_toArray, List.set_cons_zero, List.set_cons_succ]
  refine wpAnyH_take (i := 14) (oi := { dst := some 78, op := Op.load 24 (Operand.tmp 7), type := 24, pos := "law.go:67", after := #[{ on := 13, ground := Ground.guard }], guard := some (13, false) }) (v := .agg #[.float .f64 h, .float .f64 l]) rfl (by kernel_rfl) (by kernel_rfl) (by kernel_rfl) (fun _ _ _ h => h) (Or.inl ⟨by rfl, ?y81⟩) R ?r81
  case y81 => (intro ww hS; have qy0 := dcarry_cell hS y0; have qy1 := dcarry_cell hS y1; clear hS; go_simp; try with_reducible rfl)
  try simp only [Act.put, List.setIfInBounds_toArray, List.set_cons_zero, List.set_cons_succ]
  refine wpAnyH_take (i := 15) (oi := { dst := some 79, op := Op.load 24 (Operand.tmp 11), type := 24, pos := "law.go:67", after := #[{ on := 13, ground := Ground.guard }], guard := some (13, false) }) (v := .agg #[.float .f64 h, .float .f64 l]) rfl (by kernel_rfl) (by kernel_rfl) (by kernel_rfl) (fun _ _ _ h => h) (Or.inl ⟨by rfl, ?y82⟩) R ?r82
  case y82 => (intro ww hS; have qt0 := dcarry_cell hS t0; have qt1 := dcarry_cell hS t1; clear hS; go_simp; try with_reducible rfl)
  try simp only [Act.put, List.setIfInBounds_toArray, List.set_cons_zero, List.set_cons_succ]
  refine wpAnyH_ready (rs := [16]) (by kernel_rfl) (by simp) ?_
  refine AllReadyH.cons rfl (fun K hK => ?_) AllReadyH.nil
  go_simp
  refine Calls.mono (Fp.rSame_yes _ _ _ _ _ s3.out s4.out) ?_
  rintro r wc1 ⟨rfl, bN⟩
  replace R := nbelow_trans R bN
  clear bN
  refine hK.out _ _ R (fun _ => ?_)
  clear hK K
  try simp only [Act.put, List.setIfInBounds_toArray, List.set_cons_zero, List.set_cons_succ]
  refine wpAnyH_take (i := 17) (oi := { dst := some 81, op := Op.unOp UnOp.not 4 (Operand.tmp 80), type := 4, pos := "law.go:67", after := #[{ on := 16, ground := Ground.data }, { on := 13, ground := Ground.guard }], guard := some (13, false) }) (v := .bool false) rfl (by kernel_rfl) (by kernel_rfl) (by kernel_rfl) (fun _ _ _ h => h) (Or.inl ⟨by rfl, ?y83⟩) R ?r83
  case y83 => (intro ww hS; clear hS; go_simp; try with_reducible rfl)
  try simp only [Act.put, List.setIfInBounds_toArray, List.set_cons_zero, List.set_cons_succ]
  refine wpAnyH_take (i := 18) (oi := { dst := some 82, op := Op.pick (Operand.tmp 77) (Operand.const (Value.bool true)) (Operand.tmp 81), type := 4, pos := "law.go:67", after := #[{ on := 13, ground := Ground.data }, { on := 17, ground := Ground.data }], guard := none }) (v := .bool false) rfl (by kernel_rfl) (by kernel_rfl) (by kernel_rfl) (fun _ _ _ h => h) (Or.inl ⟨by rfl, ?y84⟩) R ?r84
  case y84 => (intro ww hS; clear hS; go_simp; try with_reducible rfl)
  try simp only [Act.put, List.setIfInBounds_toArray, List.set_cons_zero, List.set_cons_succ]
  refine wpAnyH_done (by kernel_rfl) ?_ _
  replace a0 := dcarry_cell R a0
  replace a1 := dcarry_cell R a1
  replace b0 := dcarry_cell R b0
  replace b1 := dcarry_cell R b1
  replace x0 := dcarry_cell R x0
  replace x1 := dcarry_cell R x1
  replace y0 := dcarry_cell R y0
  replace y1 := dcarry_cell R y1
  replace t0 := dcarry_cell R t0
  replace t1 := dcarry_cell R t1
  replace bw := nbelow_trans bw R
  clear R
  go_wp2_with fail
  refine Calls.mono (HRB.out _) ?_
  rintro r w10 ⟨rfl, bN⟩
  replace a0 := dcarry_cell bN a0
  replace a1 := dcarry_cell bN a1
  replace b0 := dcarry_cell bN b0
  replace b1 := dcarry_cell bN b1
  replace x0 := dcarry_cell bN x0
  replace x1 := dcarry_cell bN x1
  replace y0 := dcarry_cell bN y0
  replace y1 := dcarry_cell bN y1
  replace t0 := dcarry_cell bN t0
  replace t1 := dcarry_cell bN t1
  replace bw := nbelow_trans bw bN
  clear bN
  go_wp2_with fail
  refine Calls.mono (Fp.dBegins_calls _) ?_
  rintro r w11 ⟨rfl, bN⟩
  replace bw := nbelow_trans bw bN
  clear bN
  go_wp2_with fail
  go_ret
  exact ⟨rfl, bw⟩

theorem ddTurns_walk (h l h' l' : Nat) (w : World) (hh : h < 18446744073709551616) (hl : l < 18446744073709551616) (hh' : h' < 18446744073709551616) (hl' : l' < 18446744073709551616) :
    Calls Try.prog 3 #[.agg #[.float .f64 h, .float .f64 l], .agg #[.float .f64 h', .float .f64 l']] w fun r w' => r = .returned (.bool true) ∧ Below w.heap.size w w' := by
  cases ra : Fp.rightP h l
  · exact ddt_x h l h' l' w hh hl hh' hl' ra
  · cases hlo : Fp.loF h <;> cases rb : Fp.rightP h' l'
    · exact ddt_apx h l h' l' w hh hl hh' hl' ra hlo rb
    · exact ddt_apb h l h' l' w hh hl hh' hl' ra hlo rb
    · exact ddt_anx h l h' l' w hh hl hh' hl' ra hlo rb
    · exact ddt_anb h l h' l' w hh hl hh' hl' ra hlo rb
end Go.Proofs.Ytmhddjacjomnbaa

/- Pairs: Cmp. -/
import Derived.Test.YtiibjhemljkgbaaDT1
import Derived.Deep.RegionHeld3
import Derived.Deep.CutRange
namespace Go.Proofs.Ytiibjhemljkgbaa.Fp
open Go.RowKit EP
attribute [local go_sem] ran_store

def lexI (h l h' l' : Nat) : Int := if Lib.compareInt (V h) (V h') ≠ 0 then Lib.compareInt (V h) (V h') else Lib.compareInt (V l) (V l')

set_option maxRecDepth 100000 in
set_option maxHeartbeats 2000000 in
theorem dcmp_bad (h l h' l' : Nat) (w : World) (hh : h < 18446744073709551616) (hh' : h' < 18446744073709551616) (hr : (rightP h l && rightP h' l') = false) :
    Calls Try.prog 10 #[.agg #[.float .f64 h, .float .f64 l], .agg #[.float .f64 h', .float .f64 l']] w fun e w' => e = .returned (.tuple #[.int .i64 0, .int .i64 2]) ∧ Below w.heap.size w w' := by
  have bw : Below w.heap.size w (((w.alloc (.cells #[.float .f64 h, .float .f64 l] 24)).alloc (.cells #[.float .f64 h', .float .f64 l'] 24)).alloc (.cells #[.float .f64 h, .float .f64 l, .float .f64 h', .float .f64 l'] 24)) := ebelow_trans (ebelow_trans (below_alloc1' _ _) (below_alloc1' _ _)) (below_alloc1' _ _)
  have a0 : (((w.alloc (.cells #[.float .f64 h, .float .f64 l] 24)).alloc (.cells #[.float .f64 h', .float .f64 l'] 24)).alloc (.cells #[.float .f64 h, .float .f64 l, .float .f64 h', .float .f64 l'] 24)).cell? ⟨w.heap.size, 0, none⟩ = some (.float .f64 h) := by go_simp
  have a1 : (((w.alloc (.cells #[.float .f64 h, .float .f64 l] 24)).alloc (.cells #[.float .f64 h', .float .f64 l'] 24)).alloc (.cells #[.float .f64 h, .float .f64 l, .float .f64 h', .float .f64 l'] 24)).cell? ⟨w.heap.size, 1, none⟩ = some (.float .f64 l) := by go_simp
  have b0 : (((w.alloc (.cells #[.float .f64 h, .float .f64 l] 24)).alloc (.cells #[.float .f64 h', .float .f64 l'] 24)).alloc (.cells #[.float .f64 h, .float .f64 l, .float .f64 h', .float .f64 l'] 24)).cell? ⟨w.heap.size + 1, 0, none⟩ = some (.float .f64 h') := by go_simp
  have b1 : (((w.alloc (.cells #[.float .f64 h, .float .f64 l] 24)).alloc (.cells #[.float .f64 h', .float .f64 l'] 24)).alloc (.cells #[.float .f64 h, .float .f64 l, .float .f64 h', .float .f64 l'] 24)).cell? ⟨w.heap.size + 1, 1, none⟩ = some (.float .f64 l') := by go_simp
  have c0 : (((w.alloc (.cells #[.float .f64 h, .float .f64 l] 24)).alloc (.cells #[.float .f64 h', .float .f64 l'] 24)).alloc (.cells #[.float .f64 h, .float .f64 l, .float .f64 h', .float .f64 l'] 24)).cell? ⟨w.heap.size + 1 + 1, 0, none⟩ = some (.float .f64 h) := by go_simp
  have c1 : (((w.alloc (.cells #[.float .f64 h, .float .f64 l] 24)).alloc (.cells #[.float .f64 h', .float .f64 l'] 24)).alloc (.cells #[.float .f64 h, .float .f64 l, .float .f64 h', .float .f64 l'] 24)).cell? ⟨w.heap.size + 1 + 1, 1, none⟩ = some (.float .f64 l) := by go_simp
  have c2 : (((w.alloc (.cells #[.float .f64 h, .float .f64 l] 24)).alloc (.cells #[.float .f64 h', .float .f64 l'] 24)).alloc (.cells #[.float .f64 h, .float .f64 l, .float .f64 h', .float .f64 l'] 24)).cell? ⟨w.heap.size + 1 + 1, 2, none⟩ = some (.float .f64 h') := by go_simp
  have c3 : (((w.alloc (.cells #[.float .f64 h, .float .f64 l] 24)).alloc (.cells #[.float .f64 h', .float .f64 l'] 24)).alloc (.cells #[.float .f64 h, .float .f64 l, .float .f64 h', .float .f64 l'] 24)).cell? ⟨w.heap.size + 1 + 1, 3, none⟩ = some (.float .f64 l') := by go_simp
  have HR : Hid _ := right_two (w.heap.size + 1 + 1) h l h' l' _ hh hh' c0 c1 c2 c3
  rw [hr] at HR
  clear hh hh' hr
  go_enter Try.func10, Try.ntmps10
  go_wp2_with fail
  generalize (((w.alloc (.cells #[.float .f64 h, .float .f64 l] 24)).alloc (.cells #[.float .f64 h', .float .f64 l'] 24)).alloc (.cells #[.float .f64 h, .float .f64 l, .float .f64 h', .float .f64 l'] 24)) = w0 at *
  refine Calls.mono HR.out ?_
  rintro e w1 ⟨rfl, bN⟩
  replace bw := ebelow_trans bw bN
  clear bN
  go_wp2_with fail
  exact bodyPost_ret (v := .tuple #[.int .i64 0, .int .i64 2]) (by simp [results, Try.results10, go_sem]) rfl ⟨rfl, bw⟩

set_option maxRecDepth 100000 in
set_option maxHeartbeats 2000000 in
theorem dcmp_good (h l h' l' : Nat) (w : World) (hh : h < 18446744073709551616) (hh' : h' < 18446744073709551616) (r1 : rightP h l = true) (r2 : rightP h' l' = true) :
    Calls Try.prog 10 #[.agg #[.float .f64 h, .float .f64 l], .agg #[.float .f64 h', .float .f64 l']] w fun e w' => e = .returned (.tuple #[.int .i64 (lexI h l h' l'), .int .i64 0]) ∧ Below w.heap.size w w' := by
  obtain ⟨f1, f2, -⟩ := right_PB h l r1
  obtain ⟨g1, g2, -⟩ := right_PB h' l' r2
  have bw : Below w.heap.size w (((w.alloc (.cells #[.float .f64 h, .float .f64 l] 24)).alloc (.cells #[.float .f64 h', .float .f64 l'] 24)).alloc (.cells #[.float .f64 h, .float .f64 l, .float .f64 h', .float .f64 l'] 24)) := ebelow_trans (ebelow_trans (below_alloc1' _ _) (below_alloc1' _ _)) (below_alloc1' _ _)
  have a0 : (((w.alloc (.cells #[.float .f64 h, .float .f64 l] 24)).alloc (.cells #[.float .f64 h', .float .f64 l'] 24)).alloc (.cells #[.float .f64 h, .float .f64 l, .float .f64 h', .float .f64 l'] 24)).cell? ⟨w.heap.size, 0, none⟩ = some (.float .f64 h) := by go_simp
  have a1 : (((w.alloc (.cells #[.float .f64 h, .float .f64 l] 24)).alloc (.cells #[.float .f64 h', .float .f64 l'] 24)).alloc (.cells #[.float .f64 h, .float .f64 l, .float .f64 h', .float .f64 l'] 24)).cell? ⟨w.heap.size, 1, none⟩ = some (.float .f64 l) := by go_simp
  have b0 : (((w.alloc (.cells #[.float .f64 h, .float .f64 l] 24)).alloc (.cells #[.float .f64 h', .float .f64 l'] 24)).alloc (.cells #[.float .f64 h, .float .f64 l, .float .f64 h', .float .f64 l'] 24)).cell? ⟨w.heap.size + 1, 0, none⟩ = some (.float .f64 h') := by go_simp
  have b1 : (((w.alloc (.cells #[.float .f64 h, .float .f64 l] 24)).alloc (.cells #[.float .f64 h', .float .f64 l'] 24)).alloc (.cells #[.float .f64 h, .float .f64 l, .float .f64 h', .float .f64 l'] 24)).cell? ⟨w.heap.size + 1, 1, none⟩ = some (.float .f64 l') := by go_simp
  have c0 : (((w.alloc (.cells #[.float .f64 h, .float .f64 l] 24)).alloc (.cells #[.float .f64 h', .float .f64 l'] 24)).alloc (.cells #[.float .f64 h, .float .f64 l, .float .f64 h', .float .f64 l'] 24)).cell? ⟨w.heap.size + 1 + 1, 0, none⟩ = some (.float .f64 h) := by go_simp
  have c1 : (((w.alloc (.cells #[.float .f64 h, .float .f64 l] 24)).alloc (.cells #[.float .f64 h', .float .f64 l'] 24)).alloc (.cells #[.float .f64 h, .float .f64 l, .float .f64 h', .float .f64 l'] 24)).cell? ⟨w.heap.size + 1 + 1, 1, none⟩ = some (.float .f64 l) := by go_simp
  have c2 : (((w.alloc (.cells #[.float .f64 h, .float .f64 l] 24)).alloc (.cells #[.float .f64 h', .float .f64 l'] 24)).alloc (.cells #[.float .f64 h, .float .f64 l, .float .f64 h', .float .f64 l'] 24)).cell? ⟨w.heap.size + 1 + 1, 2, none⟩ = some (.float .f64 h') := by go_simp
  have c3 : (((w.alloc (.cells #[.float .f64 h, .float .f64 l] 24)).alloc (.cells #[.float .f64 h', .float .f64 l'] 24)).alloc (.cells #[.float .f64 h, .float .f64 l, .float .f64 h', .float .f64 l'] 24)).cell? ⟨w.heap.size + 1 + 1, 3, none⟩ = some (.float .f64 l') := by go_simp
  have HR : Hid _ := right_two (w.heap.size + 1 + 1) h l h' l' _ hh hh' c0 c1 c2 c3
  rw [r1, r2] at HR
  have H1 : Hid _ := fun w => cmpf_calls h h' w f1 g1
  have H2 : Hid _ := fun w => cmpf_calls l l' w f2 g2
  have HO : Hid (∀ b W, W.cell? ⟨b, 0, none⟩ = some (.int .i64 (Lib.compareInt (V h) (V h'))) → W.cell? ⟨b, 1, none⟩ = some (.int .i64 (Lib.compareInt (V l) (V l'))) → Calls Try.prog 23 #[.slice (some ⟨b, 0, none⟩) 2 2] W fun e w' => e = .returned (.int .i64 (lexI h l h' l')) ∧ w' = W) := fun b W p q => or_two b _ _ W p q
  generalize lexI h l h' l' = kk at *
  generalize Lib.compareInt (V h) (V h') = k1 at *
  generalize Lib.compareInt (V l) (V l') = k2 at *
  clear hh hh' r1 r2 f1 f2 g1 g2 c0 c1 c2 c3
  go_enter Try.func10, Try.ntmps10
  go_wp2_with fail
  generalize (((w.alloc (.cells #[.float .f64 h, .float .f64 l] 24)).alloc (.cells #[.float .f64 h', .float .f64 l'] 24)).alloc (.cells #[.float .f64 h, .float .f64 l, .float .f64 h', .float .f64 l'] 24)) = w0 at *
  refine Calls.mono HR.out ?_
  rintro e w1 ⟨rfl, bN⟩
  replace a0 := pcarry bN a0
  replace a1 := pcarry bN a1
  replace b0 := pcarry bN b0
  replace b1 := pcarry bN b1
  replace bw := ebelow_trans bw bN
  clear bN HR
  go_upto_region 3 with fail
  have R : Below w1.heap.size w1 (World.drew w1) := (Below.refl _ _).drew
  refine wp_region_held (S := fun w' => Below w1.heap.size w1 w') (by kernel_rfl) ?_
  change wpAnyH _ _ _ _ _ _ _ _ (World.drew w1)
  generalize World.drew w1 = wd at R ⊢
  refine wpAnyH_take (i := 0) (oi := { dst := some 11, op := Op.fieldAddr 24 (Operand.tmp 2) 0, type := 0, pos := "dd.go:68", after := #[], guard := none }) (v := .pointer (some ⟨w.heap.size, 0, none⟩)) rfl (by kernel_rfl) (by kernel_rfl) (by kernel_rfl) (fun _ _ _ h => h) (Or.inl ⟨by rfl, ?y1⟩) R ?r1
  case y1 => (intro ww hS; clear hS; go_simp; try with_reducible rfl)
  try simp only [Act.put, List.setIfInBounds_toArray, List.set_cons_zero, List.set_cons_succ]
  refine wpAnyH_take (i := 1) (oi := { dst := some 12, op := Op.load 22 (Operand.tmp 11), type := 22, pos := "dd.go:68", after := #[{ on := 0, ground := Ground.data }], guard := none }) (v := .float .f64 h) rfl (by kernel_rfl) (by kernel_rfl) (by kernel_rfl) (fun _ _ _ h => h) (Or.inl ⟨by rfl, ?y2⟩) R ?r2
  case y2 => (intro ww hS; have qa0 := pcarry hS a0; clear hS; go_simp; try with_reducible rfl)
  try simp only [Act.put, List.setIfInBounds_toArray, List.set_cons_zero, List.set_cons_succ]
  refine wpAnyH_take (i := 2) (oi := { dst := some 13, op := Op.fieldAddr 24 (Operand.tmp 3) 0, type := 0, pos := "dd.go:68", after := #[], guard := none }) (v := .pointer (some ⟨w.heap.size + 1, 0, none⟩)) rfl (by kernel_rfl) (by kernel_rfl) (by kernel_rfl) (fun _ _ _ h => h) (Or.inl ⟨by rfl, ?y3⟩) R ?r3
  case y3 => (intro ww hS; clear hS; go_simp; try with_reducible rfl)
  try simp only [Act.put, List.setIfInBounds_toArray, List.set_cons_zero, List.set_cons_succ]
  refine wpAnyH_take (i := 3) (oi := { dst := some 14, op := Op.load 22 (Operand.tmp 13), type := 22, pos := "dd.go:68", after := #[{ on := 2, ground := Ground.data }], guard := none }) (v := .float .f64 h') rfl (by kernel_rfl) (by kernel_rfl) (by kernel_rfl) (fun _ _ _ h => h) (Or.inl ⟨by rfl, ?y4⟩) R ?r4
  case y4 => (intro ww hS; have qb0 := pcarry hS b0; clear hS; go_simp; try with_reducible rfl)
  try simp only [Act.put, List.setIfInBounds_toArray, List.set_cons_zero, List.set_cons_succ]
  refine wpAnyH_take (i := 5) (oi := { dst := some 16, op := Op.fieldAddr 24 (Operand.tmp 2) 1, type := 0, pos := "dd.go:68", after := #[], guard := none }) (v := .pointer (some ⟨w.heap.size, 1, none⟩)) rfl (by kernel_rfl) (by kernel_rfl) (by kernel_rfl) (fun _ _ _ h => h) (Or.inl ⟨by rfl, ?y5⟩) R ?r5
  case y5 => (intro ww hS; clear hS; go_simp; try with_reducible rfl)
  try simp only [Act.put, List.setIfInBounds_toArray, List.set_cons_zero, List.set_cons_succ]
  refine wpAnyH_take (i := 6) (oi := { dst := some 17, op := Op.load 22 (Operand.tmp 16), type := 22, pos := "dd.go:68", after := #[{ on := 5, ground := Ground.data }], guard := none }) (v := .float .f64 l) rfl (by kernel_rfl) (by kernel_rfl) (by kernel_rfl) (fun _ _ _ h => h) (Or.inl ⟨by rfl, ?y6⟩) R ?r6
  case y6 => (intro ww hS; have qa1 := pcarry hS a1; clear hS; go_simp; try with_reducible rfl)
  try simp only [Act.put, List.setIfInBounds_toArray, List.set_cons_zero, List.set_cons_succ]
  refine wpAnyH_take (i := 7) (oi := { dst := some 18, op := Op.fieldAddr 24 (Operand.tmp 3) 1, type := 0, pos := "dd.go:68", after := #[], guard := none }) (v := .pointer (some ⟨w.heap.size + 1, 1, none⟩)) rfl (by kernel_rfl) (by kernel_rfl) (by kernel_rfl) (fun _ _ _ h => h) (Or.inl ⟨by rfl, ?y7⟩) R ?r7
  case y7 => (intro ww hS; clear hS; go_simp; try with_reducible rfl)
  try simp only [Act.put, List.setIfInBounds_toArray, List.set_cons_zero, List.set_cons_succ]
  refine wpAnyH_take (i := 8) (oi := { dst := some 19, op := Op.load 22 (Operand.tmp 18), type := 22, pos := "dd.go:68", after := #[{ on := 7, ground := Ground.data }], guard := none }) (v := .float .f64 l') rfl (by kernel_rfl) (by kernel_rfl) (by kernel_rfl) (fun _ _ _ h => h) (Or.inl ⟨by rfl, ?y8⟩) R ?r8
  case y8 => (intro ww hS; have qb1 := pcarry hS b1; clear hS; go_simp; try with_reducible rfl)
  try simp only [Act.put, List.setIfInBounds_toArray, List.set_cons_zero, List.set_cons_succ]
  refine wpAnyH_ready (rs := [4]) (by kernel_rfl) (by simp) ?_
  refine AllReadyH.cons rfl (fun K hK => ?_) AllReadyH.nil
  go_simp
  refine Calls.mono (H1.out _) ?_
  rintro e w2 ⟨rfl, rfl⟩
  refine hK.out _ _ R (fun _ => ?_)
  clear hK K
  try simp only [Act.put, List.setIfInBounds_toArray, List.set_cons_zero, List.set_cons_succ]
  refine wpAnyH_ready (rs := [9]) (by kernel_rfl) (by simp) ?_
  refine AllReadyH.cons rfl (fun K hK => ?_) AllReadyH.nil
  go_simp
  refine Calls.mono (H2.out _) ?_
  rintro e w3 ⟨rfl, rfl⟩
  refine hK.out _ _ R (fun _ => ?_)
  clear hK K
  try simp only [Act.put, List.setIfInBounds_toArray, List.set_cons_zero, List.set_cons_succ]
  refine wpAnyH_ready (rs := [10]) (by kernel_rfl) (by simp) ?_
  refine AllReadyH.cons rfl (fun K hK => ?_) AllReadyH.nil
  go_simp
  have R2 := ebelow_trans R (below_alloc1' w3 (.cells #[.int .i64 k1, .int .i64 k2] 3))
  have d0 : (w3.alloc (.cells #[.int .i64 k1, .int .i64 k2] 3)).cell? ⟨w3.heap.size, 0, none⟩ = some (.int .i64 k1) := by go_simp
  have d1 : (w3.alloc (.cells #[.int .i64 k1, .int .i64 k2] 3)).cell? ⟨w3.heap.size, 1, none⟩ = some (.int .i64 k2) := by go_simp
  clear R
  have R := R2
  clear R2
  refine hK.out _ _ R (fun _ => ?_)
  clear hK K
  try simp only [Act.put, List.setIfInBounds_toArray, List.set_cons_zero, List.set_cons_succ]
  refine wpAnyH_ready (rs := [11]) (by kernel_rfl) (by simp) ?_
  refine AllReadyH.cons rfl (fun K hK => ?_) AllReadyH.nil
  go_simp
  refine Calls.mono (HO.out _ _ d0 d1) ?_
  rintro e w4 ⟨rfl, rfl⟩
  refine hK.out _ _ R (fun _ => ?_)
  clear hK K
  try simp only [Act.put, List.setIfInBounds_toArray, List.set_cons_zero, List.set_cons_succ]
  refine wpAnyH_ready (rs := [12]) (by kernel_rfl) (by simp) ?_
  refine AllReadyH.cons rfl (fun K hK => ?_) AllReadyH.nil
  go_simp
  refine hK.out _ _ R (fun _ => ?_)
  clear hK K
  try simp only [Act.put, List.setIfInBounds_toArray, List.set_cons_zero, List.set_cons_succ]
  refine wpAnyH_ready (rs := [13]) (by kernel_rfl) (by simp) ?_
  refine AllReadyH.cons rfl (fun K hK => ?_) AllReadyH.nil
  go_simp
  refine hK.out _ _ R (fun _ => ?_)
  clear hK K
  try simp only [Act.put, List.setIfInBounds_toArray, List.set_cons_zero, List.set_cons_succ]
  refine wpAnyH_done (by kernel_rfl) ?_ _
  replace bw := ebelow_trans bw R
  go_wp2_with fail
  exact bodyPost_ret (v := .tuple #[.int .i64 kk, .int .i64 0]) (by simp [results, Try.results10, go_sem]) rfl ⟨rfl, bw⟩
end Go.Proofs.Ytiibjhemljkgbaa.Fp

/- The statement DyadRing. -/
import Derived.Test.YticjhheceoeilaaDoorDRg1
import Derived.Deep.RegionHeld3
import Derived.Deep.CutRange
namespace Go.Proofs.YticjhheceoeilaaDoor
open Go.RowKit
attribute [local go_sem ↓] Go.wp_at_zero Go.wp_at_succ

set_option maxRecDepth 100000 in
set_option maxHeartbeats 8000000 in
theorem dyadRing_walk (s : Bool) (a : Option Addr) (len cap : Nat) (xs : List Int) (e : Int) (t : Bool) (b : Option Addr) (len' cap' : Nat) (ys : List Int) (f : Int) (u : Bool) (d : Option Addr) (len'' cap'' : Nat) (zs : List Int) (g : Int) (w : World) (h : IsW w a len cap xs) (hm : len ≤ 17592186044000) (_he : -9223372036854775808 ≤ e ∧ e ≤ 9223372036854775807) (h' : IsW w b len' cap' ys) (hm' : len' ≤ 17592186044000) (_hf : -9223372036854775808 ≤ f ∧ f ≤ 9223372036854775807) (h'' : IsW w d len'' cap'' zs) (hm'' : len'' ≤ 17592186044000) (_hg : -9223372036854775808 ≤ g ∧ g ≤ 9223372036854775807) (hT : Tab w) :
    Calls Tryd.prog 3 #[dyV s a len cap e, dyV t b len' cap' f, dyV u d len'' cap'' g] w fun r w' => r = .returned (.bool true) ∧ Below w.heap.size w w' := by
  have bw : Below w.heap.size w (((w.alloc (.cells #[.bool s, .slice a len cap, .int .i64 e] 25)).alloc (.cells #[.bool t, .slice b len' cap', .int .i64 f] 25)).alloc (.cells #[.bool u, .slice d len'' cap'', .int .i64 g] 25)) := nbelow_trans (nbelow_trans (below_one _ _) (below_one _ _)) (below_one _ _)
  have k0 : (((w.alloc (.cells #[.bool s, .slice a len cap, .int .i64 e] 25)).alloc (.cells #[.bool t, .slice b len' cap', .int .i64 f] 25)).alloc (.cells #[.bool u, .slice d len'' cap'', .int .i64 g] 25)).cell? ⟨w.heap.size, 0, none⟩ = some (.bool s) := by go_simp
  have k1 : (((w.alloc (.cells #[.bool s, .slice a len cap, .int .i64 e] 25)).alloc (.cells #[.bool t, .slice b len' cap', .int .i64 f] 25)).alloc (.cells #[.bool u, .slice d len'' cap'', .int .i64 g] 25)).cell? ⟨w.heap.size, 1, none⟩ = some (.slice a len cap) := by go_simp
  have k2 : (((w.alloc (.cells #[.bool s, .slice a len cap, .int .i64 e] 25)).alloc (.cells #[.bool t, .slice b len' cap', .int .i64 f] 25)).alloc (.cells #[.bool u, .slice d len'' cap'', .int .i64 g] 25)).cell? ⟨w.heap.size, 2, none⟩ = some (.int .i64 e) := by go_simp
  have k3 : (((w.alloc (.cells #[.bool s, .slice a len cap, .int .i64 e] 25)).alloc (.cells #[.bool t, .slice b len' cap', .int .i64 f] 25)).alloc (.cells #[.bool u, .slice d len'' cap'', .int .i64 g] 25)).cell? ⟨w.heap.size + 1, 0, none⟩ = some (.bool t) := by go_simp
  have k4 : (((w.alloc (.cells #[.bool s, .slice a len cap, .int .i64 e] 25)).alloc (.cells #[.bool t, .slice b len' cap', .int .i64 f] 25)).alloc (.cells #[.bool u, .slice d len'' cap'', .int .i64 g] 25)).cell? ⟨w.heap.size + 1, 1, none⟩ = some (.slice b len' cap') := by go_simp
  have k5 : (((w.alloc (.cells #[.bool s, .slice a len cap, .int .i64 e] 25)).alloc (.cells #[.bool t, .slice b len' cap', .int .i64 f] 25)).alloc (.cells #[.bool u, .slice d len'' cap'', .int .i64 g] 25)).cell? ⟨w.heap.size + 1, 2, none⟩ = some (.int .i64 f) := by go_simp
  have k6 : (((w.alloc (.cells #[.bool s, .slice a len cap, .int .i64 e] 25)).alloc (.cells #[.bool t, .slice b len' cap', .int .i64 f] 25)).alloc (.cells #[.bool u, .slice d len'' cap'', .int .i64 g] 25)).cell? ⟨w.heap.size + 1 + 1, 0, none⟩ = some (.bool u) := by go_simp
  have k7 : (((w.alloc (.cells #[.bool s, .slice a len cap, .int .i64 e] 25)).alloc (.cells #[.bool t, .slice b len' cap', .int .i64 f] 25)).alloc (.cells #[.bool u, .slice d len'' cap'', .int .i64 g] 25)).cell? ⟨w.heap.size + 1 + 1, 1, none⟩ = some (.slice d len'' cap'') := by go_simp
  have k8 : (((w.alloc (.cells #[.bool s, .slice a len cap, .int .i64 e] 25)).alloc (.cells #[.bool t, .slice b len' cap', .int .i64 f] 25)).alloc (.cells #[.bool u, .slice d len'' cap'', .int .i64 g] 25)).cell? ⟨w.heap.size + 1 + 1, 2, none⟩ = some (.int .i64 g) := by go_simp
  have hs3 : (((w.alloc (.cells #[.bool s, .slice a len cap, .int .i64 e] 25)).alloc (.cells #[.bool t, .slice b len' cap', .int .i64 f] 25)).alloc (.cells #[.bool u, .slice d len'' cap'', .int .i64 g] 25)).heap.size = w.heap.size + 1 + 1 + 1 := by simp
  have HT : Hid (∀ w', Below w.heap.size w w' → Tab w') := fun w' hb => hT.kept hb
  have HA : Hid (∀ c w', w.heap.size ≤ c → Below w.heap.size w w' → NmC c w' (dyV s a len cap e) (s, val xs, e)) := fun c w' hc hb => ⟨a, len, cap, xs, rfl, hm, h.keep hb, rfl, h.noC hc⟩
  have HB : Hid (∀ c w', w.heap.size ≤ c → Below w.heap.size w w' → NmC c w' (dyV t b len' cap' f) (t, val ys, f)) := fun c w' hc hb => ⟨b, len', cap', ys, rfl, hm', h'.keep hb, rfl, h'.noC hc⟩
  have HD : Hid (∀ c w', w.heap.size ≤ c → Below w.heap.size w w' → NmC c w' (dyV u d len'' cap'' g) (u, val zs, g)) := fun c w' hc hb => ⟨d, len'', cap'', zs, rfl, hm'', h''.keep hb, rfl, h''.noC hc⟩
  have HCan : Hid _ := fun W q T => pCanon_calls s a len cap xs e W q (by omega) T
  have HCmp : Hid _ := fun W q q' T => pCmp_calls s a len cap xs e t b len' cap' ys f W q hm q' hm' T
  have H1 : Hid (IsW w a len cap xs) := h
  have H2 : Hid (IsW w b len' cap' ys) := h'
  change Hid (∀ W q T, Calls _ _ _ _ fun r w' => ∃ v', r = .returned (.tuple #[v', .int .i64 (cnE (s, val xs, e))]) ∧ DyAt W.heap.size w' v' (cnP (s, val xs, e)) ∧ Below W.heap.size W w') at HCan
  change Hid (∀ W q q' T, Calls _ _ _ _ fun r w' => r = .returned (.tuple #[.int .i64 (cmV (rt (s, val xs, e) && rt (t, val ys, f)) (fm (s, val xs, e)) (fm (t, val ys, f))), .int .i64 (cmE (rt (s, val xs, e) && rt (t, val ys, f)))]) ∧ Below W.heap.size W w') at HCmp
  generalize hx : (s, val xs, e) = x at *
  generalize hy : (t, val ys, f) = y at *
  generalize hz : (u, val zs, g) = z at *
  clear hx hy hz h h' h'' hm hm' hm'' hT _he _hf _hg
  go_enter Tryd.func3, Tryd.ntmps3
  go_wp2_with fail
  generalize (((w.alloc (.cells #[.bool s, .slice a len cap, .int .i64 e] 25)).alloc (.cells #[.bool t, .slice b len' cap', .int .i64 f] 25)).alloc (.cells #[.bool u, .slice d len'' cap'', .int .i64 g] 25)) = w0 at *
  refine Calls.mono (dyBegins_calls _ (HT.out _ bw)) ?_
  rintro r w1 ⟨rfl, bN⟩
  replace k0 := dcarry_cell bN k0
  replace k1 := dcarry_cell bN k1
  replace k2 := dcarry_cell bN k2
  replace k3 := dcarry_cell bN k3
  replace k4 := dcarry_cell bN k4
  replace k5 := dcarry_cell bN k5
  replace k6 := dcarry_cell bN k6
  replace k7 := dcarry_cell bN k7
  replace k8 := dcarry_cell bN k8
  have hs1 := bN.size
  replace bw := nbelow_trans bw bN
  clear bN
  have bA := below_one w1 (.cells #[.int .i64 0] 30)
  replace k0 := dcarry_cell bA k0
  replace k1 := dcarry_cell bA k1
  replace k2 := dcarry_cell bA k2
  replace k3 := dcarry_cell bA k3
  replace k4 := dcarry_cell bA k4
  replace k5 := dcarry_cell bA k5
  replace k6 := dcarry_cell bA k6
  replace k7 := dcarry_cell bA k7
  replace k8 := dcarry_cell bA k8
  replace bw := nbelow_trans bw bA
  clear bA
  have C : CAt w1.heap.size (w1.alloc (.cells #[.int .i64 0] 30)) 0 := ⟨by go_simp, by go_simp⟩
  have n0 : w.heap.size ≠ w1.heap.size := by omega
  have n1 : w.heap.size + 1 ≠ w1.heap.size := by omega
  have n2 : w.heap.size + 1 + 1 ≠ w1.heap.size := by omega
  have hXc : Hid (w.heap.size ≤ w1.heap.size) := by show w.heap.size ≤ w1.heap.size; omega
  clear hs1 hs3
  go_upto_region 4 with fail
  generalize hcc : w1.heap.size = c at *
  generalize (w1.alloc (.cells #[.int .i64 0] 30)) = W4 at *
  clear hcc w0 w1
  go_cut [8] from 20 to 45 (fun vv wx => ∃ (bb : Bool) (kk : Int), vv = .bool bb ∧ CAt c wx kk ∧ Rn c W4 wx ∧ Hid (kk = 0 → (0 : Int) = 0 ∧ bb = true))
  case first =>
    have HG : Hid (stk (stk (stk (stk ((0 : Int)) (opE sumD y z)) (opE sumD x (opP sumD y z))) (opE sumD x y)) (opE sumD (opP sumD x y) z) = 0 → smB (opP sumD x (opP sumD y z)) (opP sumD (opP sumD x y) z) = true) := fun hk => by
      obtain ⟨hk, e4⟩ := stk_zero hk
      obtain ⟨hk, e3⟩ := stk_zero hk
      obtain ⟨hk, e2⟩ := stk_zero hk
      obtain ⟨hk, e1⟩ := stk_zero hk
      exact ring_sum e1 e2 e3 e4
    have HK0 : Hid (stk (stk (stk (stk ((0 : Int)) (opE sumD y z)) (opE sumD x (opP sumD y z))) (opE sumD x y)) (opE sumD (opP sumD x y) z) = 0 → (0 : Int) = 0) := fun hk => (stk_zero (stk_zero (stk_zero (stk_zero hk).1).1).1).1
    have HK2 : Hid (stk (stk (stk (stk (stk (stk ((0 : Int)) (opE sumD y z)) (opE sumD x (opP sumD y z))) (opE sumD x y)) (opE sumD (opP sumD x y) z)) (opE sumD x y)) (opE sumD y x) = 0 → stk (stk (stk (stk ((0 : Int)) (opE sumD y z)) (opE sumD x (opP sumD y z))) (opE sumD x y)) (opE sumD (opP sumD x y) z) = 0 ∧ smB (opP sumD x y) (opP sumD y x) = true) := fun hk => ⟨(stk_zero (stk_zero hk).1).1, ring_sum2 (stk_zero (stk_zero hk).1).2 (stk_zero hk).2⟩
    have R : Rn c W4 (World.drew W4) := (Rn.refl _ _).drew
    have bD : Below W4.heap.size W4 (World.drew W4) := (Below.refl _ _).drew
    have HW : Hid (∀ w', Rn c W4 w' → Below w.heap.size w w') := fun w' r => bw.trans (r.below hXc.out bw.size)
    replace C := C.keep bD
    clear bD
    refine wp_region_held (S := fun w' => Rn c W4 w') (by kernel_rfl) ?_
    change wpAnyH _ _ _ _ _ _ _ _ (World.drew W4)
    generalize World.drew W4 = wd at R C ⊢
    refine wpAnyH_take (i := 0) (oi := { dst := some 20, op := Op.move (Operand.tmp 7), type := 27, pos := "own.go:43", after := #[], guard := none }) (v := (.pointer (some ⟨c, 0, none⟩))) rfl (by kernel_rfl) (by kernel_rfl) (by kernel_rfl) (fun _ _ _ h => h) (Or.inl ⟨by rfl, ?y1⟩) R ?r1
    case y1 => (intro ww hS; clear hS; go_simp; try with_reducible rfl)
    try simp only [Act.put, List.setIfInBounds_toArray, List.set_cons_zero, List.set_cons_succ]
    refine wpAnyH_take (i := 1) (oi := { dst := some 21, op := Op.load 25 (Operand.tmp 3), type := 25, pos := "own.go:43", after := #[], guard := none }) (v := .agg #[.bool s, .slice a len cap, .int .i64 e]) rfl (by kernel_rfl) (by kernel_rfl) (by kernel_rfl) (fun _ _ _ h => h) (Or.inl ⟨by rfl, ?y2⟩) R ?r2
    case y2 => (intro ww hS; have q0 := hS.cell k0 n0; have q1 := hS.cell k1 n0; have q2 := hS.cell k2 n0; clear hS; go_simp; try with_reducible rfl)
    try simp only [Act.put, List.setIfInBounds_toArray, List.set_cons_zero, List.set_cons_succ]
    refine wpAnyH_take (i := 2) (oi := { dst := some 22, op := Op.move (Operand.tmp 7), type := 27, pos := "own.go:43", after := #[], guard := none }) (v := (.pointer (some ⟨c, 0, none⟩))) rfl (by kernel_rfl) (by kernel_rfl) (by kernel_rfl) (fun _ _ _ h => h) (Or.inl ⟨by rfl, ?y3⟩) R ?r3
    case y3 => (intro ww hS; clear hS; go_simp; try with_reducible rfl)
    try simp only [Act.put, List.setIfInBounds_toArray, List.set_cons_zero, List.set_cons_succ]
    refine wpAnyH_take (i := 3) (oi := { dst := some 23, op := Op.load 25 (Operand.tmp 4), type := 25, pos := "own.go:43", after := #[], guard := none }) (v := .agg #[.bool t, .slice b len' cap', .int .i64 f]) rfl (by kernel_rfl) (by kernel_rfl) (by kernel_rfl) (fun _ _ _ h => h) (Or.inl ⟨by rfl, ?y4⟩) R ?r4
    case y4 => (intro ww hS; have q3 := hS.cell k3 n1; have q4 := hS.cell k4 n1; have q5 := hS.cell k5 n1; clear hS; go_simp; try with_reducible rfl)
    try simp only [Act.put, List.setIfInBounds_toArray, List.set_cons_zero, List.set_cons_succ]
    refine wpAnyH_take (i := 4) (oi := { dst := some 24, op := Op.load 25 (Operand.tmp 5), type := 25, pos := "own.go:43", after := #[], guard := none }) (v := .agg #[.bool u, .slice d len'' cap'', .int .i64 g]) rfl (by kernel_rfl) (by kernel_rfl) (by kernel_rfl) (fun _ _ _ h => h) (Or.inl ⟨by rfl, ?y5⟩) R ?r5
    case y5 => (intro ww hS; have q6 := hS.cell k6 n2; have q7 := hS.cell k7 n2; have q8 := hS.cell k8 n2; clear hS; go_simp; try with_reducible rfl)
    try simp only [Act.put, List.setIfInBounds_toArray, List.set_cons_zero, List.set_cons_succ]
    refine wpAnyH_take (i := 7) (oi := { dst := some 27, op := Op.move (Operand.tmp 7), type := 27, pos := "own.go:43", after := #[], guard := none }) (v := (.pointer (some ⟨c, 0, none⟩))) rfl (by kernel_rfl) (by kernel_rfl) (by kernel_rfl) (fun _ _ _ h => h) (Or.inl ⟨by rfl, ?y6⟩) R ?r6
    case y6 => (intro ww hS; clear hS; go_simp; try with_reducible rfl)
    try simp only [Act.put, List.setIfInBounds_toArray, List.set_cons_zero, List.set_cons_succ]
    refine wpAnyH_take (i := 8) (oi := { dst := some 28, op := Op.move (Operand.tmp 7), type := 27, pos := "own.go:43", after := #[], guard := none }) (v := (.pointer (some ⟨c, 0, none⟩))) rfl (by kernel_rfl) (by kernel_rfl) (by kernel_rfl) (fun _ _ _ h => h) (Or.inl ⟨by rfl, ?y7⟩) R ?r7
    case y7 => (intro ww hS; clear hS; go_simp; try with_reducible rfl)
    try simp only [Act.put, List.setIfInBounds_toArray, List.set_cons_zero, List.set_cons_succ]
    refine wpAnyH_take (i := 9) (oi := { dst := some 29, op := Op.load 25 (Operand.tmp 3), type := 25, pos := "own.go:43", after := #[], guard := none }) (v := .agg #[.bool s, .slice a len cap, .int .i64 e]) rfl (by kernel_rfl) (by kernel_rfl) (by kernel_rfl) (fun _ _ _ h => h) (Or.inl ⟨by rfl, ?y8⟩) R ?r8
    case y8 => (intro ww hS; have q0 := hS.cell k0 n0; have q1 := hS.cell k1 n0; have q2 := hS.cell k2 n0; clear hS; go_simp; try with_reducible rfl)
    try simp only [Act.put, List.setIfInBounds_toArray, List.set_cons_zero, List.set_cons_succ]
    refine wpAnyH_take (i := 10) (oi := { dst := some 30, op := Op.load 25 (Operand.tmp 4), type := 25, pos := "own.go:43", after := #[], guard := none }) (v := .agg #[.bool t, .slice b len' cap', .int .i64 f]) rfl (by kernel_rfl) (by kernel_rfl) (by kernel_rfl) (fun _ _ _ h => h) (Or.inl ⟨by rfl, ?y9⟩) R ?r9
    case y9 => (intro ww hS; have q3 := hS.cell k3 n1; have q4 := hS.cell k4 n1; have q5 := hS.cell k5 n1; clear hS; go_simp; try with_reducible rfl)
    try simp only [Act.put, List.setIfInBounds_toArray, List.set_cons_zero, List.set_cons_succ]
    refine wpAnyH_take (i := 12) (oi := { dst := some 32, op := Op.load 25 (Operand.tmp 5), type := 25, pos := "own.go:43", after := #[], guard := none }) (v := .agg #[.bool u, .slice d len'' cap'', .int .i64 g]) rfl (by kernel_rfl) (by kernel_rfl) (by kernel_rfl) (fun _ _ _ h => h) (Or.inl ⟨by rfl, ?y10⟩) R ?r10
    case y10 => (intro ww hS; have q6 := hS.cell k6 n2; have q7 := hS.cell k7 n2; have q8 := hS.cell k8 n2; clear hS; go_simp; try with_reducible rfl)
    try simp only [Act.put, List.setIfInBounds_toArray, List.set_cons_zero, List.set_cons_succ]
    refine wpAnyH_ready (rs := [5]) (by kernel_rfl) (by simp) ?_
    refine AllReadyH.cons rfl (fun K hK => ?_) AllReadyH.nil
    go_simp
    refine Calls.mono (cadd_nm c _ (HB.out c _ hXc.out (HW.out _ R)) (HD.out c _ hXc.out (HW.out _ R)) (HT.out _ (HW.out _ R)) C) ?_
    rintro r w1 ⟨v1, rfl, D1, Cn, rn⟩
    clear C
    have C := Cn
    clear Cn
    replace R := R.trans rn
    clear rn
    refine hK.out _ _ R (fun _ => ?_)
    clear hK K
    try simp only [Act.put, List.setIfInBounds_toArray, List.set_cons_zero, List.set_cons_succ]
    refine wpAnyH_ready (rs := [6]) (by kernel_rfl) (by simp) ?_
    refine AllReadyH.cons rfl (fun K hK => ?_) AllReadyH.nil
    go_simp
    refine Calls.mono (cadd_nm c _ (HA.out c _ hXc.out (HW.out _ R)) D1.nm (HT.out _ (HW.out _ R)) C) ?_
    rintro r w2 ⟨v2, rfl, D2, Cn, rn⟩
    clear C
    have C := Cn
    clear Cn
    replace D1 := D1.keepR rn
    replace R := R.trans rn
    clear rn
    refine hK.out _ _ R (fun _ => ?_)
    clear hK K
    try simp only [Act.put, List.setIfInBounds_toArray, List.set_cons_zero, List.set_cons_succ]
    clear D1
    refine wpAnyH_ready (rs := [11]) (by kernel_rfl) (by simp) ?_
    refine AllReadyH.cons rfl (fun K hK => ?_) AllReadyH.nil
    go_simp
    refine Calls.mono (cadd_nm c _ (HA.out c _ hXc.out (HW.out _ R)) (HB.out c _ hXc.out (HW.out _ R)) (HT.out _ (HW.out _ R)) C) ?_
    rintro r w3 ⟨v3, rfl, D3, Cn, rn⟩
    clear C
    have C := Cn
    clear Cn
    replace D2 := D2.keepR rn
    replace R := R.trans rn
    clear rn
    refine hK.out _ _ R (fun _ => ?_)
    clear hK K
    try simp only [Act.put, List.setIfInBounds_toArray, List.set_cons_zero, List.set_cons_succ]
    refine wpAnyH_ready (rs := [13]) (by kernel_rfl) (by simp) ?_
    refine AllReadyH.cons rfl (fun K hK => ?_) AllReadyH.nil
    go_simp
    refine Calls.mono (cadd_nm c _ D3.nm (HD.out c _ hXc.out (HW.out _ R)) (HT.out _ (HW.out _ R)) C) ?_
    rintro r w4 ⟨v4, rfl, D4, Cn, rn⟩
    clear C
    have C := Cn
    clear Cn
    replace D2 := D2.keepR rn
    replace D3 := D3.keepR rn
    replace R := R.trans rn
    clear rn
    refine hK.out _ _ R (fun _ => ?_)
    clear hK K
    try simp only [Act.put, List.setIfInBounds_toArray, List.set_cons_zero, List.set_cons_succ]
    clear D3
    cases hg : smB (opP sumD x (opP sumD y z)) (opP sumD (opP sumD x y) z) with
    | false =>
      have HS : Hid _ := csame_calls c D2 D4
      rw [hg] at HS
      clear D2 D4
      have hg' : Hid _ := hg
      clear hg
      refine wpAnyH_ready (rs := [14]) (by kernel_rfl) (by simp) ?_
      refine AllReadyH.cons rfl (fun K hK => ?_) AllReadyH.nil
      go_simp
      refine Calls.mono (HS.out) ?_
      rintro r w5 ⟨rfl, bS⟩
      replace C := C.keep bS
      have rn := Rn.of_below (c := c) bS
      clear bS
      replace R := R.trans rn
      clear rn
      refine hK.out _ _ R (fun _ => ?_)
      clear hK K
      try simp only [Act.put, List.setIfInBounds_toArray, List.set_cons_zero, List.set_cons_succ]
      clear HS
      refine wpAnyH_take (i := 15) (oi := { dst := some 35, op := Op.move (Operand.tmp 34), type := 4, pos := "own.go:43", after := #[{ on := 14, ground := Ground.data }, { on := 14, ground := Ground.chain }], guard := none }) (v := .bool false) rfl (by kernel_rfl) (by kernel_rfl) (by kernel_rfl) (fun _ _ _ h => h) (Or.inl ⟨by rfl, ?y11⟩) R ?r11
      case y11 => (intro ww hS; clear hS; go_simp; try with_reducible rfl)
      try simp only [Act.put, List.setIfInBounds_toArray, List.set_cons_zero, List.set_cons_succ]
      refine wpAnyH_take (i := 16) (oi := { dst := some 36, op := Op.move (Operand.tmp 7), type := 27, pos := "own.go:43", after := #[{ on := 15, ground := Ground.guard }], guard := some (15, true) }) (v := undef) rfl (by kernel_rfl) (by kernel_rfl) (by kernel_rfl) (fun _ _ _ h => h) (Or.inr ⟨by rfl, rfl⟩) R ?r12
      try simp only [Act.put, List.setIfInBounds_toArray, List.set_cons_zero, List.set_cons_succ]
      refine wpAnyH_take (i := 17) (oi := { dst := some 37, op := Op.load 25 (Operand.tmp 3), type := 25, pos := "own.go:43", after := #[{ on := 15, ground := Ground.guard }], guard := some (15, true) }) (v := undef) rfl (by kernel_rfl) (by kernel_rfl) (by kernel_rfl) (fun _ _ _ h => h) (Or.inr ⟨by rfl, rfl⟩) R ?r13
      try simp only [Act.put, List.setIfInBounds_toArray, List.set_cons_zero, List.set_cons_succ]
      refine wpAnyH_take (i := 18) (oi := { dst := some 38, op := Op.load 25 (Operand.tmp 4), type := 25, pos := "own.go:43", after := #[{ on := 15, ground := Ground.guard }], guard := some (15, true) }) (v := undef) rfl (by kernel_rfl) (by kernel_rfl) (by kernel_rfl) (fun _ _ _ h => h) (Or.inr ⟨by rfl, rfl⟩) R ?r14
      try simp only [Act.put, List.setIfInBounds_toArray, List.set_cons_zero, List.set_cons_succ]
      refine wpAnyH_take (i := 20) (oi := { dst := some 40, op := Op.move (Operand.tmp 7), type := 27, pos := "own.go:43", after := #[{ on := 15, ground := Ground.guard }], guard := some (15, true) }) (v := undef) rfl (by kernel_rfl) (by kernel_rfl) (by kernel_rfl) (fun _ _ _ h => h) (Or.inr ⟨by rfl, rfl⟩) R ?r15
      try simp only [Act.put, List.setIfInBounds_toArray, List.set_cons_zero, List.set_cons_succ]
      refine wpAnyH_take (i := 21) (oi := { dst := some 41, op := Op.load 25 (Operand.tmp 4), type := 25, pos := "own.go:43", after := #[{ on := 15, ground := Ground.guard }], guard := some (15, true) }) (v := undef) rfl (by kernel_rfl) (by kernel_rfl) (by kernel_rfl) (fun _ _ _ h => h) (Or.inr ⟨by rfl, rfl⟩) R ?r16
      try simp only [Act.put, List.setIfInBounds_toArray, List.set_cons_zero, List.set_cons_succ]
      refine wpAnyH_take (i := 22) (oi := { dst := some 42, op := Op.load 25 (Operand.tmp 3), type := 25, pos := "own.go:43", after := #[{ on := 15, ground := Ground.guard }], guard := some (15, true) }) (v := undef) rfl (by kernel_rfl) (by kernel_rfl) (by kernel_rfl) (fun _ _ _ h => h) (Or.inr ⟨by rfl, rfl⟩) R ?r17
      try simp only [Act.put, List.setIfInBounds_toArray, List.set_cons_zero, List.set_cons_succ]
      refine wpAnyH_ready (rs := [19]) (by kernel_rfl) (by simp) ?_
      refine AllReadyH.cons rfl (fun K hK => ?_) AllReadyH.nil
      go_simp
      refine hK.out _ _ R (fun _ => ?_)
      clear hK K
      try simp only [Act.put, List.setIfInBounds_toArray, List.set_cons_zero, List.set_cons_succ]
      refine wpAnyH_ready (rs := [23]) (by kernel_rfl) (by simp) ?_
      refine AllReadyH.cons rfl (fun K hK => ?_) AllReadyH.nil
      go_simp
      refine hK.out _ _ R (fun _ => ?_)
      clear hK K
      try simp only [Act.put, List.setIfInBounds_toArray, List.set_cons_zero, List.set_cons_succ]
      refine wpAnyH_ready (rs := [24]) (by kernel_rfl) (by simp) ?_
      refine AllReadyH.cons rfl (fun K hK => ?_) AllReadyH.nil
      go_simp
      refine hK.out _ _ R (fun _ => ?_)
      clear hK K
      try simp only [Act.put, List.setIfInBounds_toArray, List.set_cons_zero, List.set_cons_succ]
      refine wpAnyH_ready (rs := [25]) (by kernel_rfl) (by simp) ?_
      refine AllReadyH.cons rfl (fun K hK => ?_) AllReadyH.nil
      go_simp
      refine hK.out _ _ R (fun _ => ?_)
      clear hK K
      try simp only [Act.put, List.setIfInBounds_toArray, List.set_cons_zero, List.set_cons_succ]
      refine wpAnyH_ready (rs := [26]) (by kernel_rfl) (by simp) ?_
      refine AllReadyH.cons rfl (fun K hK => ?_) AllReadyH.nil
      go_simp
      refine hK.out _ _ R (fun _ => ?_)
      clear hK K
      try simp only [Act.put, List.setIfInBounds_toArray, List.set_cons_zero, List.set_cons_succ]
      refine wpAnyH_done (by kernel_rfl) ?_ _
      go_wp2_with fail
      go_meet
      exact ⟨false, _, rfl, C, R, fun hk => absurd ((HG.out hk).symm.trans hg'.out) (by decide)⟩
    | true =>
      have HS : Hid _ := csame_calls c D2 D4
      rw [hg] at HS
      clear D2 D4
      have hg' : Hid _ := hg
      clear hg
      refine wpAnyH_ready (rs := [14]) (by kernel_rfl) (by simp) ?_
      refine AllReadyH.cons rfl (fun K hK => ?_) AllReadyH.nil
      go_simp
      refine Calls.mono (HS.out) ?_
      rintro r w5 ⟨rfl, bS⟩
      replace C := C.keep bS
      have rn := Rn.of_below (c := c) bS
      clear bS
      replace R := R.trans rn
      clear rn
      refine hK.out _ _ R (fun _ => ?_)
      clear hK K
      try simp only [Act.put, List.setIfInBounds_toArray, List.set_cons_zero, List.set_cons_succ]
      clear HS
      refine wpAnyH_take (i := 15) (oi := { dst := some 35, op := Op.move (Operand.tmp 34), type := 4, pos := "own.go:43", after := #[{ on := 14, ground := Ground.data }, { on := 14, ground := Ground.chain }], guard := none }) (v := .bool true) rfl (by kernel_rfl) (by kernel_rfl) (by kernel_rfl) (fun _ _ _ h => h) (Or.inl ⟨by rfl, ?y18⟩) R ?r18
      case y18 => (intro ww hS; clear hS; go_simp; try with_reducible rfl)
      try simp only [Act.put, List.setIfInBounds_toArray, List.set_cons_zero, List.set_cons_succ]
      refine wpAnyH_take (i := 16) (oi := { dst := some 36, op := Op.move (Operand.tmp 7), type := 27, pos := "own.go:43", after := #[{ on := 15, ground := Ground.guard }], guard := some (15, true) }) (v := (.pointer (some ⟨c, 0, none⟩))) rfl (by kernel_rfl) (by kernel_rfl) (by kernel_rfl) (fun _ _ _ h => h) (Or.inl ⟨by rfl, ?y19⟩) R ?r19
      case y19 => (intro ww hS; clear hS; go_simp; try with_reducible rfl)
      try simp only [Act.put, List.setIfInBounds_toArray, List.set_cons_zero, List.set_cons_succ]
      refine wpAnyH_take (i := 17) (oi := { dst := some 37, op := Op.load 25 (Operand.tmp 3), type := 25, pos := "own.go:43", after := #[{ on := 15, ground := Ground.guard }], guard := some (15, true) }) (v := .agg #[.bool s, .slice a len cap, .int .i64 e]) rfl (by kernel_rfl) (by kernel_rfl) (by kernel_rfl) (fun _ _ _ h => h) (Or.inl ⟨by rfl, ?y20⟩) R ?r20
      case y20 => (intro ww hS; have q0 := hS.cell k0 n0; have q1 := hS.cell k1 n0; have q2 := hS.cell k2 n0; clear hS; go_simp; try with_reducible rfl)
      try simp only [Act.put, List.setIfInBounds_toArray, List.set_cons_zero, List.set_cons_succ]
      refine wpAnyH_take (i := 18) (oi := { dst := some 38, op := Op.load 25 (Operand.tmp 4), type := 25, pos := "own.go:43", after := #[{ on := 15, ground := Ground.guard }], guard := some (15, true) }) (v := .agg #[.bool t, .slice b len' cap', .int .i64 f]) rfl (by kernel_rfl) (by kernel_rfl) (by kernel_rfl) (fun _ _ _ h => h) (Or.inl ⟨by rfl, ?y21⟩) R ?r21
      case y21 => (intro ww hS; have q3 := hS.cell k3 n1; have q4 := hS.cell k4 n1; have q5 := hS.cell k5 n1; clear hS; go_simp; try with_reducible rfl)
      try simp only [Act.put, List.setIfInBounds_toArray, List.set_cons_zero, List.set_cons_succ]
      refine wpAnyH_take (i := 20) (oi := { dst := some 40, op := Op.move (Operand.tmp 7), type := 27, pos := "own.go:43", after := #[{ on := 15, ground := Ground.guard }], guard := some (15, true) }) (v := (.pointer (some ⟨c, 0, none⟩))) rfl (by kernel_rfl) (by kernel_rfl) (by kernel_rfl) (fun _ _ _ h => h) (Or.inl ⟨by rfl, ?y22⟩) R ?r22
      case y22 => (intro ww hS; clear hS; go_simp; try with_reducible rfl)
      try simp only [Act.put, List.setIfInBounds_toArray, List.set_cons_zero, List.set_cons_succ]
      refine wpAnyH_take (i := 21) (oi := { dst := some 41, op := Op.load 25 (Operand.tmp 4), type := 25, pos := "own.go:43", after := #[{ on := 15, ground := Ground.guard }], guard := some (15, true) }) (v := .agg #[.bool t, .slice b len' cap', .int .i64 f]) rfl (by kernel_rfl) (by kernel_rfl) (by kernel_rfl) (fun _ _ _ h => h) (Or.inl ⟨by rfl, ?y23⟩) R ?r23
      case y23 => (intro ww hS; have q3 := hS.cell k3 n1; have q4 := hS.cell k4 n1; have q5 := hS.cell k5 n1; clear hS; go_simp; try with_reducible rfl)
      try simp only [Act.put, List.setIfInBounds_toArray, List.set_cons_zero, List.set_cons_succ]
      refine wpAnyH_take (i := 22) (oi := { dst := some 42, op := Op.load 25 (Operand.tmp 3), type := 25, pos := "own.go:43", after := #[{ on := 15, ground := Ground.guard }], guard := some (15, true) }) (v := .agg #[.bool s, .slice a len cap, .int .i64 e]) rfl (by kernel_rfl) (by kernel_rfl) (by kernel_rfl) (fun _ _ _ h => h) (Or.inl ⟨by rfl, ?y24⟩) R ?r24
      case y24 => (intro ww hS; have q0 := hS.cell k0 n0; have q1 := hS.cell k1 n0; have q2 := hS.cell k2 n0; clear hS; go_simp; try with_reducible rfl)
      try simp only [Act.put, List.setIfInBounds_toArray, List.set_cons_zero, List.set_cons_succ]
      refine wpAnyH_ready (rs := [19]) (by kernel_rfl) (by simp) ?_
      refine AllReadyH.cons rfl (fun K hK => ?_) AllReadyH.nil
      go_simp
      refine Calls.mono (cadd_nm c _ (HA.out c _ hXc.out (HW.out _ R)) (HB.out c _ hXc.out (HW.out _ R)) (HT.out _ (HW.out _ R)) C) ?_
      rintro r w6 ⟨v6, rfl, D6, Cn, rn⟩
      clear C
      have C := Cn
      clear Cn
      replace R := R.trans rn
      clear rn
      refine hK.out _ _ R (fun _ => ?_)
      clear hK K
      try simp only [Act.put, List.setIfInBounds_toArray, List.set_cons_zero, List.set_cons_succ]
      refine wpAnyH_ready (rs := [23]) (by kernel_rfl) (by simp) ?_
      refine AllReadyH.cons rfl (fun K hK => ?_) AllReadyH.nil
      go_simp
      refine Calls.mono (cadd_nm c _ (HB.out c _ hXc.out (HW.out _ R)) (HA.out c _ hXc.out (HW.out _ R)) (HT.out _ (HW.out _ R)) C) ?_
      rintro r w7 ⟨v7, rfl, D7, Cn, rn⟩
      clear C
      have C := Cn
      clear Cn
      replace D6 := D6.keepR rn
      replace R := R.trans rn
      clear rn
      refine hK.out _ _ R (fun _ => ?_)
      clear hK K
      try simp only [Act.put, List.setIfInBounds_toArray, List.set_cons_zero, List.set_cons_succ]
      refine wpAnyH_ready (rs := [24]) (by kernel_rfl) (by simp) ?_
      refine AllReadyH.cons rfl (fun K hK => ?_) AllReadyH.nil
      go_simp
      refine Calls.mono (csame_calls c D6 D7) ?_
      rintro r w8 ⟨rfl, bS⟩
      replace C := C.keep bS
      have rn := Rn.of_below (c := c) bS
      clear bS
      replace R := R.trans rn
      clear rn
      refine hK.out _ _ R (fun _ => ?_)
      clear hK K
      try simp only [Act.put, List.setIfInBounds_toArray, List.set_cons_zero, List.set_cons_succ]
      clear D6 D7
      refine wpAnyH_ready (rs := [25]) (by kernel_rfl) (by simp) ?_
      refine AllReadyH.cons rfl (fun K hK => ?_) AllReadyH.nil
      go_simp
      refine hK.out _ _ R (fun _ => ?_)
      clear hK K
      try simp only [Act.put, List.setIfInBounds_toArray, List.set_cons_zero, List.set_cons_succ]
      refine wpAnyH_ready (rs := [26]) (by kernel_rfl) (by simp) ?_
      refine AllReadyH.cons rfl (fun K hK => ?_) AllReadyH.nil
      go_simp
      refine hK.out _ _ R (fun _ => ?_)
      clear hK K
      try simp only [Act.put, List.setIfInBounds_toArray, List.set_cons_zero, List.set_cons_succ]
      refine wpAnyH_done (by kernel_rfl) ?_ _
      go_wp2_with fail
      go_meet
      exact ⟨_, _, rfl, C, R, fun hk => ⟨HK0.out (HK2.out hk).1, (HK2.out hk).2⟩⟩
  case rest =>
    obtain ⟨bS, kS, rfl, Cn, rn, HS⟩ := hcut
    clear C
    have C := Cn
    clear Cn
    replace k0 := rn.cell k0 n0
    replace k1 := rn.cell k1 n0
    replace k2 := rn.cell k2 n0
    replace k3 := rn.cell k3 n1
    replace k4 := rn.cell k4 n1
    replace k5 := rn.cell k5 n1
    replace k6 := rn.cell k6 n2
    replace k7 := rn.cell k7 n2
    replace k8 := rn.cell k8 n2
    replace bw := bw.trans (rn.below hXc.out bw.size)
    clear rn
    generalize wc = W5 at *
    go_upto_region 5 with fail
    go_cut [9] from 46 to 71 (fun vv wx => ∃ (bb : Bool) (kk : Int), vv = .bool bb ∧ CAt c wx kk ∧ Rn c W5 wx ∧ Hid (kk = 0 → kS = 0 ∧ bb = true))
    case first =>
      have HG : Hid (stk (stk (stk (stk (kS) (opE mulD y z)) (opE mulD x (opP mulD y z))) (opE mulD x y)) (opE mulD (opP mulD x y) z) = 0 → smB (opP mulD x (opP mulD y z)) (opP mulD (opP mulD x y) z) = true) := fun hk => by
        obtain ⟨hk, e4⟩ := stk_zero hk
        obtain ⟨hk, e3⟩ := stk_zero hk
        obtain ⟨hk, e2⟩ := stk_zero hk
        obtain ⟨hk, e1⟩ := stk_zero hk
        exact ring_mul e1 e2 e3 e4
      have HK0 : Hid (stk (stk (stk (stk (kS) (opE mulD y z)) (opE mulD x (opP mulD y z))) (opE mulD x y)) (opE mulD (opP mulD x y) z) = 0 → kS = 0) := fun hk => (stk_zero (stk_zero (stk_zero (stk_zero hk).1).1).1).1
      have HK2 : Hid (stk (stk (stk (stk (stk (stk (kS) (opE mulD y z)) (opE mulD x (opP mulD y z))) (opE mulD x y)) (opE mulD (opP mulD x y) z)) (opE mulD x y)) (opE mulD y x) = 0 → stk (stk (stk (stk (kS) (opE mulD y z)) (opE mulD x (opP mulD y z))) (opE mulD x y)) (opE mulD (opP mulD x y) z) = 0 ∧ smB (opP mulD x y) (opP mulD y x) = true) := fun hk => ⟨(stk_zero (stk_zero hk).1).1, ring_mul2 (stk_zero (stk_zero hk).1).2 (stk_zero hk).2⟩
      have R : Rn c W5 (World.drew W5) := (Rn.refl _ _).drew
      have bD : Below W5.heap.size W5 (World.drew W5) := (Below.refl _ _).drew
      have HW : Hid (∀ w', Rn c W5 w' → Below w.heap.size w w') := fun w' r => bw.trans (r.below hXc.out bw.size)
      replace C := C.keep bD
      clear bD
      refine wp_region_held (S := fun w' => Rn c W5 w') (by kernel_rfl) ?_
      change wpAnyH _ _ _ _ _ _ _ _ (World.drew W5)
      generalize World.drew W5 = wd at R C ⊢
      refine wpAnyH_take (i := 0) (oi := { dst := some 46, op := Op.move (Operand.tmp 7), type := 27, pos := "own.go:44", after := #[], guard := none }) (v := (.pointer (some ⟨c, 0, none⟩))) rfl (by kernel_rfl) (by kernel_rfl) (by kernel_rfl) (fun _ _ _ h => h) (Or.inl ⟨by rfl, ?y25⟩) R ?r25
      case y25 => (intro ww hS; clear hS; go_simp; try with_reducible rfl)
      try simp only [Act.put, List.setIfInBounds_toArray, List.set_cons_zero, List.set_cons_succ]
      refine wpAnyH_take (i := 1) (oi := { dst := some 47, op := Op.load 25 (Operand.tmp 3), type := 25, pos := "own.go:44", after := #[], guard := none }) (v := .agg #[.bool s, .slice a len cap, .int .i64 e]) rfl (by kernel_rfl) (by kernel_rfl) (by kernel_rfl) (fun _ _ _ h => h) (Or.inl ⟨by rfl, ?y26⟩) R ?r26
      case y26 => (intro ww hS; have q0 := hS.cell k0 n0; have q1 := hS.cell k1 n0; have q2 := hS.cell k2 n0; clear hS; go_simp; try with_reducible rfl)
      try simp only [Act.put, List.setIfInBounds_toArray, List.set_cons_zero, List.set_cons_succ]
      refine wpAnyH_take (i := 2) (oi := { dst := some 48, op := Op.move (Operand.tmp 7), type := 27, pos := "own.go:44", after := #[], guard := none }) (v := (.pointer (some ⟨c, 0, none⟩))) rfl (by kernel_rfl) (by kernel_rfl) (by kernel_rfl) (fun _ _ _ h => h) (Or.inl ⟨by rfl, ?y27⟩) R ?r27
      case y27 => (intro ww hS; clear hS; go_simp; try with_reducible rfl)
      try simp only [Act.put, List.setIfInBounds_toArray, List.set_cons_zero, List.set_cons_succ]
      refine wpAnyH_take (i := 3) (oi := { dst := some 49, op := Op.load 25 (Operand.tmp 4), type := 25, pos := "own.go:44", after := #[], guard := none }) (v := .agg #[.bool t, .slice b len' cap', .int .i64 f]) rfl (by kernel_rfl) (by kernel_rfl) (by kernel_rfl) (fun _ _ _ h => h) (Or.inl ⟨by rfl, ?y28⟩) R ?r28
      case y28 => (intro ww hS; have q3 := hS.cell k3 n1; have q4 := hS.cell k4 n1; have q5 := hS.cell k5 n1; clear hS; go_simp; try with_reducible rfl)
      try simp only [Act.put, List.setIfInBounds_toArray, List.set_cons_zero, List.set_cons_succ]
      refine wpAnyH_take (i := 4) (oi := { dst := some 50, op := Op.load 25 (Operand.tmp 5), type := 25, pos := "own.go:44", after := #[], guard := none }) (v := .agg #[.bool u, .slice d len'' cap'', .int .i64 g]) rfl (by kernel_rfl) (by kernel_rfl) (by kernel_rfl) (fun _ _ _ h => h) (Or.inl ⟨by rfl, ?y29⟩) R ?r29
      case y29 => (intro ww hS; have q6 := hS.cell k6 n2; have q7 := hS.cell k7 n2; have q8 := hS.cell k8 n2; clear hS; go_simp; try with_reducible rfl)
      try simp only [Act.put, List.setIfInBounds_toArray, List.set_cons_zero, List.set_cons_succ]
      refine wpAnyH_take (i := 7) (oi := { dst := some 53, op := Op.move (Operand.tmp 7), type := 27, pos := "own.go:44", after := #[], guard := none }) (v := (.pointer (some ⟨c, 0, none⟩))) rfl (by kernel_rfl) (by kernel_rfl) (by kernel_rfl) (fun _ _ _ h => h) (Or.inl ⟨by rfl, ?y30⟩) R ?r30
      case y30 => (intro ww hS; clear hS; go_simp; try with_reducible rfl)
      try simp only [Act.put, List.setIfInBounds_toArray, List.set_cons_zero, List.set_cons_succ]
      refine wpAnyH_take (i := 8) (oi := { dst := some 54, op := Op.move (Operand.tmp 7), type := 27, pos := "own.go:44", after := #[], guard := none }) (v := (.pointer (some ⟨c, 0, none⟩))) rfl (by kernel_rfl) (by kernel_rfl) (by kernel_rfl) (fun _ _ _ h => h) (Or.inl ⟨by rfl, ?y31⟩) R ?r31
      case y31 => (intro ww hS; clear hS; go_simp; try with_reducible rfl)
      try simp only [Act.put, List.setIfInBounds_toArray, List.set_cons_zero, List.set_cons_succ]
      refine wpAnyH_take (i := 9) (oi := { dst := some 55, op := Op.load 25 (Operand.tmp 3), type := 25, pos := "own.go:44", after := #[], guard := none }) (v := .agg #[.bool s, .slice a len cap, .int .i64 e]) rfl (by kernel_rfl) (by kernel_rfl) (by kernel_rfl) (fun _ _ _ h => h) (Or.inl ⟨by rfl, ?y32⟩) R ?r32
      case y32 => (intro ww hS; have q0 := hS.cell k0 n0; have q1 := hS.cell k1 n0; have q2 := hS.cell k2 n0; clear hS; go_simp; try with_reducible rfl)
      try simp only [Act.put, List.setIfInBounds_toArray, List.set_cons_zero, List.set_cons_succ]
      refine wpAnyH_take (i := 10) (oi := { dst := some 56, op := Op.load 25 (Operand.tmp 4), type := 25, pos := "own.go:44", after := #[], guard := none }) (v := .agg #[.bool t, .slice b len' cap', .int .i64 f]) rfl (by kernel_rfl) (by kernel_rfl) (by kernel_rfl) (fun _ _ _ h => h) (Or.inl ⟨by rfl, ?y33⟩) R ?r33
      case y33 => (intro ww hS; have q3 := hS.cell k3 n1; have q4 := hS.cell k4 n1; have q5 := hS.cell k5 n1; clear hS; go_simp; try with_reducible rfl)
      try simp only [Act.put, List.setIfInBounds_toArray, List.set_cons_zero, List.set_cons_succ]
      refine wpAnyH_take (i := 12) (oi := { dst := some 58, op := Op.load 25 (Operand.tmp 5), type := 25, pos := "own.go:44", after := #[], guard := none }) (v := .agg #[.bool u, .slice d len'' cap'', .int .i64 g]) rfl (by kernel_rfl) (by kernel_rfl) (by kernel_rfl) (fun _ _ _ h => h) (Or.inl ⟨by rfl, ?y34⟩) R ?r34
      case y34 => (intro ww hS; have q6 := hS.cell k6 n2; have q7 := hS.cell k7 n2; have q8 := hS.cell k8 n2; clear hS; go_simp; try with_reducible rfl)
      try simp only [Act.put, List.setIfInBounds_toArray, List.set_cons_zero, List.set_cons_succ]
      refine wpAnyH_ready (rs := [5]) (by kernel_rfl) (by simp) ?_
      refine AllReadyH.cons rfl (fun K hK => ?_) AllReadyH.nil
      go_simp
      refine Calls.mono (cmul_nm c _ (HB.out c _ hXc.out (HW.out _ R)) (HD.out c _ hXc.out (HW.out _ R)) (HT.out _ (HW.out _ R)) C) ?_
      rintro r w1 ⟨v1, rfl, D1, Cn, rn⟩
      clear C
      have C := Cn
      clear Cn
      replace R := R.trans rn
      clear rn
      refine hK.out _ _ R (fun _ => ?_)
      clear hK K
      try simp only [Act.put, List.setIfInBounds_toArray, List.set_cons_zero, List.set_cons_succ]
      refine wpAnyH_ready (rs := [6]) (by kernel_rfl) (by simp) ?_
      refine AllReadyH.cons rfl (fun K hK => ?_) AllReadyH.nil
      go_simp
      refine Calls.mono (cmul_nm c _ (HA.out c _ hXc.out (HW.out _ R)) D1.nm (HT.out _ (HW.out _ R)) C) ?_
      rintro r w2 ⟨v2, rfl, D2, Cn, rn⟩
      clear C
      have C := Cn
      clear Cn
      replace D1 := D1.keepR rn
      replace R := R.trans rn
      clear rn
      refine hK.out _ _ R (fun _ => ?_)
      clear hK K
      try simp only [Act.put, List.setIfInBounds_toArray, List.set_cons_zero, List.set_cons_succ]
      clear D1
      refine wpAnyH_ready (rs := [11]) (by kernel_rfl) (by simp) ?_
      refine AllReadyH.cons rfl (fun K hK => ?_) AllReadyH.nil
      go_simp
      refine Calls.mono (cmul_nm c _ (HA.out c _ hXc.out (HW.out _ R)) (HB.out c _ hXc.out (HW.out _ R)) (HT.out _ (HW.out _ R)) C) ?_
      rintro r w3 ⟨v3, rfl, D3, Cn, rn⟩
      clear C
      have C := Cn
      clear Cn
      replace D2 := D2.keepR rn
      replace R := R.trans rn
      clear rn
      refine hK.out _ _ R (fun _ => ?_)
      clear hK K
      try simp only [Act.put, List.setIfInBounds_toArray, List.set_cons_zero, List.set_cons_succ]
      refine wpAnyH_ready (rs := [13]) (by kernel_rfl) (by simp) ?_
      refine AllReadyH.cons rfl (fun K hK => ?_) AllReadyH.nil
      go_simp
      refine Calls.mono (cmul_nm c _ D3.nm (HD.out c _ hXc.out (HW.out _ R)) (HT.out _ (HW.out _ R)) C) ?_
      rintro r w4 ⟨v4, rfl, D4, Cn, rn⟩
      clear C
      have C := Cn
      clear Cn
      replace D2 := D2.keepR rn
      replace D3 := D3.keepR rn
      replace R := R.trans rn
      clear rn
      refine hK.out _ _ R (fun _ => ?_)
      clear hK K
      try simp only [Act.put, List.setIfInBounds_toArray, List.set_cons_zero, List.set_cons_succ]
      clear D3
      cases hg : smB (opP mulD x (opP mulD y z)) (opP mulD (opP mulD x y) z) with
      | false =>
        have HS : Hid _ := csame_calls c D2 D4
        rw [hg] at HS
        clear D2 D4
        have hg' : Hid _ := hg
        clear hg
        refine wpAnyH_ready (rs := [14]) (by kernel_rfl) (by simp) ?_
        refine AllReadyH.cons rfl (fun K hK => ?_) AllReadyH.nil
        go_simp
        refine Calls.mono (HS.out) ?_
        rintro r w5 ⟨rfl, bS⟩
        replace C := C.keep bS
        have rn := Rn.of_below (c := c) bS
        clear bS
        replace R := R.trans rn
        clear rn
        refine hK.out _ _ R (fun _ => ?_)
        clear hK K
        try simp only [Act.put, List.setIfInBounds_toArray, List.set_cons_zero, List.set_cons_succ]
        clear HS
        refine wpAnyH_take (i := 15) (oi := { dst := some 61, op := Op.move (Operand.tmp 60), type := 4, pos := "own.go:44", after := #[{ on := 14, ground := Ground.data }, { on := 14, ground := Ground.chain }], guard := none }) (v := .bool false) rfl (by kernel_rfl) (by kernel_rfl) (by kernel_rfl) (fun _ _ _ h => h) (Or.inl ⟨by rfl, ?y35⟩) R ?r35
        case y35 => (intro ww hS; clear hS; go_simp; try with_reducible rfl)
        try simp only [Act.put, List.setIfInBounds_toArray, List.set_cons_zero, List.set_cons_succ]
        refine wpAnyH_take (i := 16) (oi := { dst := some 62, op := Op.move (Operand.tmp 7), type := 27, pos := "own.go:44", after := #[{ on := 15, ground := Ground.guard }], guard := some (15, true) }) (v := undef) rfl (by kernel_rfl) (by kernel_rfl) (by kernel_rfl) (fun _ _ _ h => h) (Or.inr ⟨by rfl, rfl⟩) R ?r36
        try simp only [Act.put, List.setIfInBounds_toArray, List.set_cons_zero, List.set_cons_succ]
        refine wpAnyH_take (i := 17) (oi := { dst := some 63, op := Op.load 25 (Operand.tmp 3), type := 25, pos := "own.go:44", after := #[{ on := 15, ground := Ground.guard }], guard := some (15, true) }) (v := undef) rfl (by kernel_rfl) (by kernel_rfl) (by kernel_rfl) (fun _ _ _ h => h) (Or.inr ⟨by rfl, rfl⟩) R ?r37
        try simp only [Act.put, List.setIfInBounds_toArray, List.set_cons_zero, List.set_cons_succ]
        refine wpAnyH_take (i := 18) (oi := { dst := some 64, op := Op.load 25 (Operand.tmp 4), type := 25, pos := "own.go:44", after := #[{ on := 15, ground := Ground.guard }], guard := some (15, true) }) (v := undef) rfl (by kernel_rfl) (by kernel_rfl) (by kernel_rfl) (fun _ _ _ h => h) (Or.inr ⟨by rfl, rfl⟩) R ?r38
        try simp only [Act.put, List.setIfInBounds_toArray, List.set_cons_zero, List.set_cons_succ]
        refine wpAnyH_take (i := 20) (oi := { dst := some 66, op := Op.move (Operand.tmp 7), type := 27, pos := "own.go:44", after := #[{ on := 15, ground := Ground.guard }], guard := some (15, true) }) (v := undef) rfl (by kernel_rfl) (by kernel_rfl) (by kernel_rfl) (fun _ _ _ h => h) (Or.inr ⟨by rfl, rfl⟩) R ?r39
        try simp only [Act.put, List.setIfInBounds_toArray, List.set_cons_zero, List.set_cons_succ]
        refine wpAnyH_take (i := 21) (oi := { dst := some 67, op := Op.load 25 (Operand.tmp 4), type := 25, pos := "own.go:44", after := #[{ on := 15, ground := Ground.guard }], guard := some (15, true) }) (v := undef) rfl (by kernel_rfl) (by kernel_rfl) (by kernel_rfl) (fun _ _ _ h => h) (Or.inr ⟨by rfl, rfl⟩) R ?r40
        try simp only [Act.put, List.setIfInBounds_toArray, List.set_cons_zero, List.set_cons_succ]
        refine wpAnyH_take (i := 22) (oi := { dst := some 68, op := Op.load 25 (Operand.tmp 3), type := 25, pos := "own.go:44", after := #[{ on := 15, ground := Ground.guard }], guard := some (15, true) }) (v := undef) rfl (by kernel_rfl) (by kernel_rfl) (by kernel_rfl) (fun _ _ _ h => h) (Or.inr ⟨by rfl, rfl⟩) R ?r41
        try simp only [Act.put, List.setIfInBounds_toArray, List.set_cons_zero, List.set_cons_succ]
        refine wpAnyH_ready (rs := [19]) (by kernel_rfl) (by simp) ?_
        refine AllReadyH.cons rfl (fun K hK => ?_) AllReadyH.nil
        go_simp
        refine hK.out _ _ R (fun _ => ?_)
        clear hK K
        try simp only [Act.put, List.setIfInBounds_toArray, List.set_cons_zero, List.set_cons_succ]
        refine wpAnyH_ready (rs := [23]) (by kernel_rfl) (by simp) ?_
        refine AllReadyH.cons rfl (fun K hK => ?_) AllReadyH.nil
        go_simp
        refine hK.out _ _ R (fun _ => ?_)
        clear hK K
        try simp only [Act.put, List.setIfInBounds_toArray, List.set_cons_zero, List.set_cons_succ]
        refine wpAnyH_ready (rs := [24]) (by kernel_rfl) (by simp) ?_
        refine AllReadyH.cons rfl (fun K hK => ?_) AllReadyH.nil
        go_simp
        refine hK.out _ _ R (fun _ => ?_)
        clear hK K
        try simp only [Act.put, List.setIfInBounds_toArray, List.set_cons_zero, List.set_cons_succ]
        refine wpAnyH_ready (rs := [25]) (by kernel_rfl) (by simp) ?_
        refine AllReadyH.cons rfl (fun K hK => ?_) AllReadyH.nil
        go_simp
        refine hK.out _ _ R (fun _ => ?_)
        clear hK K
        try simp only [Act.put, List.setIfInBounds_toArray, List.set_cons_zero, List.set_cons_succ]
        refine wpAnyH_ready (rs := [26]) (by kernel_rfl) (by simp) ?_
        refine AllReadyH.cons rfl (fun K hK => ?_) AllReadyH.nil
        go_simp
        refine hK.out _ _ R (fun _ => ?_)
        clear hK K
        try simp only [Act.put, List.setIfInBounds_toArray, List.set_cons_zero, List.set_cons_succ]
        refine wpAnyH_done (by kernel_rfl) ?_ _
        go_wp2_with fail
        go_meet
        exact ⟨false, _, rfl, C, R, fun hk => absurd ((HG.out hk).symm.trans hg'.out) (by decide)⟩
      | true =>
        have HS : Hid _ := csame_calls c D2 D4
        rw [hg] at HS
        clear D2 D4
        have hg' : Hid _ := hg
        clear hg
        refine wpAnyH_ready (rs := [14]) (by kernel_rfl) (by simp) ?_
        refine AllReadyH.cons rfl (fun K hK => ?_) AllReadyH.nil
        go_simp
        refine Calls.mono (HS.out) ?_
        rintro r w5 ⟨rfl, bS⟩
        replace C := C.keep bS
        have rn := Rn.of_below (c := c) bS
        clear bS
        replace R := R.trans rn
        clear rn
        refine hK.out _ _ R (fun _ => ?_)
        clear hK K
        try simp only [Act.put, List.setIfInBounds_toArray, List.set_cons_zero, List.set_cons_succ]
        clear HS
        refine wpAnyH_take (i := 15) (oi := { dst := some 61, op := Op.move (Operand.tmp 60), type := 4, pos := "own.go:44", after := #[{ on := 14, ground := Ground.data }, { on := 14, ground := Ground.chain }], guard := none }) (v := .bool true) rfl (by kernel_rfl) (by kernel_rfl) (by kernel_rfl) (fun _ _ _ h => h) (Or.inl ⟨by rfl, ?y42⟩) R ?r42
        case y42 => (intro ww hS; clear hS; go_simp; try with_reducible rfl)
        try simp only [Act.put, List.setIfInBounds_toArray, List.set_cons_zero, List.set_cons_succ]
        refine wpAnyH_take (i := 16) (oi := { dst := some 62, op := Op.move (Operand.tmp 7), type := 27, pos := "own.go:44", after := #[{ on := 15, ground := Ground.guard }], guard := some (15, true) }) (v := (.pointer (some ⟨c, 0, none⟩))) rfl (by kernel_rfl) (by kernel_rfl) (by kernel_rfl) (fun _ _ _ h => h) (Or.inl ⟨by rfl, ?y43⟩) R ?r43
        case y43 => (intro ww hS; clear hS; go_simp; try with_reducible rfl)
        try simp only [Act.put, List.setIfInBounds_toArray, List.set_cons_zero, List.set_cons_succ]
        refine wpAnyH_take (i := 17) (oi := { dst := some 63, op := Op.load 25 (Operand.tmp 3), type := 25, pos := "own.go:44", after := #[{ on := 15, ground := Ground.guard }], guard := some (15, true) }) (v := .agg #[.bool s, .slice a len cap, .int .i64 e]) rfl (by kernel_rfl) (by kernel_rfl) (by kernel_rfl) (fun _ _ _ h => h) (Or.inl ⟨by rfl, ?y44⟩) R ?r44
        case y44 => (intro ww hS; have q0 := hS.cell k0 n0; have q1 := hS.cell k1 n0; have q2 := hS.cell k2 n0; clear hS; go_simp; try with_reducible rfl)
        try simp only [Act.put, List.setIfInBounds_toArray, List.set_cons_zero, List.set_cons_succ]
        refine wpAnyH_take (i := 18) (oi := { dst := some 64, op := Op.load 25 (Operand.tmp 4), type := 25, pos := "own.go:44", after := #[{ on := 15, ground := Ground.guard }], guard := some (15, true) }) (v := .agg #[.bool t, .slice b len' cap', .int .i64 f]) rfl (by kernel_rfl) (by kernel_rfl) (by kernel_rfl) (fun _ _ _ h => h) (Or.inl ⟨by rfl, ?y45⟩) R ?r45
        case y45 => (intro ww hS; have q3 := hS.cell k3 n1; have q4 := hS.cell k4 n1; have q5 := hS.cell k5 n1; clear hS; go_simp; try with_reducible rfl)
        try simp only [Act.put, List.setIfInBounds_toArray, List.set_cons_zero, List.set_cons_succ]
        refine wpAnyH_take (i := 20) (oi := { dst := some 66, op := Op.move (Operand.tmp 7), type := 27, pos := "own.go:44", after := #[{ on := 15, ground := Ground.guard }], guard := some (15, true) }) (v := (.pointer (some ⟨c, 0, none⟩))) rfl (by kernel_rfl) (by kernel_rfl) (by kernel_rfl) (fun _ _ _ h => h) (Or.inl ⟨by rfl, ?y46⟩) R ?r46
        case y46 => (intro ww hS; clear hS; go_simp; try with_reducible rfl)
        try simp only [Act.put, List.setIfInBounds_toArray, List.set_cons_zero, List.set_cons_succ]
        refine wpAnyH_take (i := 21) (oi := { dst := some 67, op := Op.load 25 (Operand.tmp 4), type := 25, pos := "own.go:44", after := #[{ on := 15, ground := Ground.guard }], guard := some (15, true) }) (v := .agg #[.bool t, .slice b len' cap', .int .i64 f]) rfl (by kernel_rfl) (by kernel_rfl) (by kernel_rfl) (fun _ _ _ h => h) (Or.inl ⟨by rfl, ?y47⟩) R ?r47
        case y47 => (intro ww hS; have q3 := hS.cell k3 n1; have q4 := hS.cell k4 n1; have q5 := hS.cell k5 n1; clear hS; go_simp; try with_reducible rfl)
        try simp only [Act.put, List.setIfInBounds_toArray, List.set_cons_zero, List.set_cons_succ]
        refine wpAnyH_take (i := 22) (oi := { dst := some 68, op := Op.load 25 (Operand.tmp 3), type := 25, pos := "own.go:44", after := #[{ on := 15, ground := Ground.guard }], guard := some (15, true) }) (v := .agg #[.bool s, .slice a len cap, .int .i64 e]) rfl (by kernel_rfl) (by kernel_rfl) (by kernel_rfl) (fun _ _ _ h => h) (Or.inl ⟨by rfl, ?y48⟩) R ?r48
        case y48 => (intro ww hS; have q0 := hS.cell k0 n0; have q1 := hS.cell k1 n0; have q2 := hS.cell k2 n0; clear hS; go_simp; try with_reducible rfl)
        try simp only [Act.put, List.setIfInBounds_toArray, List.set_cons_zero, List.set_cons_succ]
        refine wpAnyH_ready (rs := [19]) (by kernel_rfl) (by simp) ?_
        refine AllReadyH.cons rfl (fun K hK => ?_) AllReadyH.nil
        go_simp
        refine Calls.mono (cmul_nm c _ (HA.out c _ hXc.out (HW.out _ R)) (HB.out c _ hXc.out (HW.out _ R)) (HT.out _ (HW.out _ R)) C) ?_
        rintro r w6 ⟨v6, rfl, D6, Cn, rn⟩
        clear C
        have C := Cn
        clear Cn
        replace R := R.trans rn
        clear rn
        refine hK.out _ _ R (fun _ => ?_)
        clear hK K
        try simp only [Act.put, List.setIfInBounds_toArray, List.set_cons_zero, List.set_cons_succ]
        refine wpAnyH_ready (rs := [23]) (by kernel_rfl) (by simp) ?_
        refine AllReadyH.cons rfl (fun K hK => ?_) AllReadyH.nil
        go_simp
        refine Calls.mono (cmul_nm c _ (HB.out c _ hXc.out (HW.out _ R)) (HA.out c _ hXc.out (HW.out _ R)) (HT.out _ (HW.out _ R)) C) ?_
        rintro r w7 ⟨v7, rfl, D7, Cn, rn⟩
        clear C
        have C := Cn
        clear Cn
        replace D6 := D6.keepR rn
        replace R := R.trans rn
        clear rn
        refine hK.out _ _ R (fun _ => ?_)
        clear hK K
        try simp only [Act.put, List.setIfInBounds_toArray, List.set_cons_zero, List.set_cons_succ]
        refine wpAnyH_ready (rs := [24]) (by kernel_rfl) (by simp) ?_
        refine AllReadyH.cons rfl (fun K hK => ?_) AllReadyH.nil
        go_simp
        refine Calls.mono (csame_calls c D6 D7) ?_
        rintro r w8 ⟨rfl, bS⟩
        replace C := C.keep bS
        have rn := Rn.of_below (c := c) bS
        clear bS
        replace R := R.trans rn
        clear rn
        refine hK.out _ _ R (fun _ => ?_)
        clear hK K
        try simp only [Act.put, List.setIfInBounds_toArray, List.set_cons_zero, List.set_cons_succ]
        clear D6 D7
        refine wpAnyH_ready (rs := [25]) (by kernel_rfl) (by simp) ?_
        refine AllReadyH.cons rfl (fun K hK => ?_) AllReadyH.nil
        go_simp
        refine hK.out _ _ R (fun _ => ?_)
        clear hK K
        try simp only [Act.put, List.setIfInBounds_toArray, List.set_cons_zero, List.set_cons_succ]
        refine wpAnyH_ready (rs := [26]) (by kernel_rfl) (by simp) ?_
        refine AllReadyH.cons rfl (fun K hK => ?_) AllReadyH.nil
        go_simp
        refine hK.out _ _ R (fun _ => ?_)
        clear hK K
        try simp only [Act.put, List.setIfInBounds_toArray, List.set_cons_zero, List.set_cons_succ]
        refine wpAnyH_done (by kernel_rfl) ?_ _
        go_wp2_with fail
        go_meet
        exact ⟨_, _, rfl, C, R, fun hk => ⟨HK0.out (HK2.out hk).1, (HK2.out hk).2⟩⟩
    case rest =>
      obtain ⟨bM, kM, rfl, Cn, rn, HM⟩ := hcut
      clear C
      have C := Cn
      clear Cn
      replace k0 := rn.cell k0 n0
      replace k1 := rn.cell k1 n0
      replace k2 := rn.cell k2 n0
      replace k3 := rn.cell k3 n1
      replace k4 := rn.cell k4 n1
      replace k5 := rn.cell k5 n1
      replace k6 := rn.cell k6 n2
      replace k7 := rn.cell k7 n2
      replace k8 := rn.cell k8 n2
      replace bw := bw.trans (rn.below hXc.out bw.size)
      clear rn
      generalize wc = W6 at *
      go_upto_region 6 with fail
      go_cut [10] from 72 to 89 (fun vv wx => ∃ (bb : Bool) (kk : Int), vv = .bool bb ∧ CAt c wx kk ∧ Rn c W6 wx ∧ Hid (kk = 0 → kM = 0 ∧ bb = true))
      case first =>
        have HG : Hid (stk (stk (stk (stk (stk (kM) (opE sumD y z)) (opE mulD x (opP sumD y z))) (opE mulD x y)) (opE mulD x z)) (opE sumD (opP mulD x y) (opP mulD x z)) = 0 → kM = 0 ∧ smB (opP mulD x (opP sumD y z)) (opP sumD (opP mulD x y) (opP mulD x z)) = true) := fun hk => by
          obtain ⟨hk, e5⟩ := stk_zero hk
          obtain ⟨hk, e4⟩ := stk_zero hk
          obtain ⟨hk, e3⟩ := stk_zero hk
          obtain ⟨hk, e2⟩ := stk_zero hk
          obtain ⟨hk, e1⟩ := stk_zero hk
          exact ⟨hk, ring_over e1 e2 e3 e4 e5⟩
        have R : Rn c W6 (World.drew W6) := (Rn.refl _ _).drew
        have bD : Below W6.heap.size W6 (World.drew W6) := (Below.refl _ _).drew
        have HW : Hid (∀ w', Rn c W6 w' → Below w.heap.size w w') := fun w' r => bw.trans (r.below hXc.out bw.size)
        replace C := C.keep bD
        clear bD
        refine wp_region_held (S := fun w' => Rn c W6 w') (by kernel_rfl) ?_
        change wpAnyH _ _ _ _ _ _ _ _ (World.drew W6)
        generalize World.drew W6 = wd at R C ⊢
        refine wpAnyH_take (i := 0) (oi := { dst := some 72, op := Op.move (Operand.tmp 7), type := 27, pos := "own.go:45", after := #[], guard := none }) (v := (.pointer (some ⟨c, 0, none⟩))) rfl (by kernel_rfl) (by kernel_rfl) (by kernel_rfl) (fun _ _ _ h => h) (Or.inl ⟨by rfl, ?y49⟩) R ?r49
        case y49 => (intro ww hS; clear hS; go_simp; try with_reducible rfl)
        try simp only [Act.put, List.setIfInBounds_toArray, List.set_cons_zero, List.set_cons_succ]
        refine wpAnyH_take (i := 1) (oi := { dst := some 73, op := Op.load 25 (Operand.tmp 3), type := 25, pos := "own.go:45", after := #[], guard := none }) (v := .agg #[.bool s, .slice a len cap, .int .i64 e]) rfl (by kernel_rfl) (by kernel_rfl) (by kernel_rfl) (fun _ _ _ h => h) (Or.inl ⟨by rfl, ?y50⟩) R ?r50
        case y50 => (intro ww hS; have q0 := hS.cell k0 n0; have q1 := hS.cell k1 n0; have q2 := hS.cell k2 n0; clear hS; go_simp; try with_reducible rfl)
        try simp only [Act.put, List.setIfInBounds_toArray, List.set_cons_zero, List.set_cons_succ]
        refine wpAnyH_take (i := 2) (oi := { dst := some 74, op := Op.move (Operand.tmp 7), type := 27, pos := "own.go:45", after := #[], guard := none }) (v := (.pointer (some ⟨c, 0, none⟩))) rfl (by kernel_rfl) (by kernel_rfl) (by kernel_rfl) (fun _ _ _ h => h) (Or.inl ⟨by rfl, ?y51⟩) R ?r51
        case y51 => (intro ww hS; clear hS; go_simp; try with_reducible rfl)
        try simp only [Act.put, List.setIfInBounds_toArray, List.set_cons_zero, List.set_cons_succ]
        refine wpAnyH_take (i := 3) (oi := { dst := some 75, op := Op.load 25 (Operand.tmp 4), type := 25, pos := "own.go:45", after := #[], guard := none }) (v := .agg #[.bool t, .slice b len' cap', .int .i64 f]) rfl (by kernel_rfl) (by kernel_rfl) (by kernel_rfl) (fun _ _ _ h => h) (Or.inl ⟨by rfl, ?y52⟩) R ?r52
        case y52 => (intro ww hS; have q3 := hS.cell k3 n1; have q4 := hS.cell k4 n1; have q5 := hS.cell k5 n1; clear hS; go_simp; try with_reducible rfl)
        try simp only [Act.put, List.setIfInBounds_toArray, List.set_cons_zero, List.set_cons_succ]
        refine wpAnyH_take (i := 4) (oi := { dst := some 76, op := Op.load 25 (Operand.tmp 5), type := 25, pos := "own.go:45", after := #[], guard := none }) (v := .agg #[.bool u, .slice d len'' cap'', .int .i64 g]) rfl (by kernel_rfl) (by kernel_rfl) (by kernel_rfl) (fun _ _ _ h => h) (Or.inl ⟨by rfl, ?y53⟩) R ?r53
        case y53 => (intro ww hS; have q6 := hS.cell k6 n2; have q7 := hS.cell k7 n2; have q8 := hS.cell k8 n2; clear hS; go_simp; try with_reducible rfl)
        try simp only [Act.put, List.setIfInBounds_toArray, List.set_cons_zero, List.set_cons_succ]
        refine wpAnyH_take (i := 7) (oi := { dst := some 79, op := Op.move (Operand.tmp 7), type := 27, pos := "own.go:45", after := #[], guard := none }) (v := (.pointer (some ⟨c, 0, none⟩))) rfl (by kernel_rfl) (by kernel_rfl) (by kernel_rfl) (fun _ _ _ h => h) (Or.inl ⟨by rfl, ?y54⟩) R ?r54
        case y54 => (intro ww hS; clear hS; go_simp; try with_reducible rfl)
        try simp only [Act.put, List.setIfInBounds_toArray, List.set_cons_zero, List.set_cons_succ]
        refine wpAnyH_take (i := 8) (oi := { dst := some 80, op := Op.move (Operand.tmp 7), type := 27, pos := "own.go:45", after := #[], guard := none }) (v := (.pointer (some ⟨c, 0, none⟩))) rfl (by kernel_rfl) (by kernel_rfl) (by kernel_rfl) (fun _ _ _ h => h) (Or.inl ⟨by rfl, ?y55⟩) R ?r55
        case y55 => (intro ww hS; clear hS; go_simp; try with_reducible rfl)
        try simp only [Act.put, List.setIfInBounds_toArray, List.set_cons_zero, List.set_cons_succ]
        refine wpAnyH_take (i := 9) (oi := { dst := some 81, op := Op.load 25 (Operand.tmp 3), type := 25, pos := "own.go:45", after := #[], guard := none }) (v := .agg #[.bool s, .slice a len cap, .int .i64 e]) rfl (by kernel_rfl) (by kernel_rfl) (by kernel_rfl) (fun _ _ _ h => h) (Or.inl ⟨by rfl, ?y56⟩) R ?r56
        case y56 => (intro ww hS; have q0 := hS.cell k0 n0; have q1 := hS.cell k1 n0; have q2 := hS.cell k2 n0; clear hS; go_simp; try with_reducible rfl)
        try simp only [Act.put, List.setIfInBounds_toArray, List.set_cons_zero, List.set_cons_succ]
        refine wpAnyH_take (i := 10) (oi := { dst := some 82, op := Op.load 25 (Operand.tmp 4), type := 25, pos := "own.go:45", after := #[], guard := none }) (v := .agg #[.bool t, .slice b len' cap', .int .i64 f]) rfl (by kernel_rfl) (by kernel_rfl) (by kernel_rfl) (fun _ _ _ h => h) (Or.inl ⟨by rfl, ?y57⟩) R ?r57
        case y57 => (intro ww hS; have q3 := hS.cell k3 n1; have q4 := hS.cell k4 n1; have q5 := hS.cell k5 n1; clear hS; go_simp; try with_reducible rfl)
        try simp only [Act.put, List.setIfInBounds_toArray, List.set_cons_zero, List.set_cons_succ]
        refine wpAnyH_take (i := 12) (oi := { dst := some 84, op := Op.move (Operand.tmp 7), type := 27, pos := "own.go:45", after := #[], guard := none }) (v := (.pointer (some ⟨c, 0, none⟩))) rfl (by kernel_rfl) (by kernel_rfl) (by kernel_rfl) (fun _ _ _ h => h) (Or.inl ⟨by rfl, ?y58⟩) R ?r58
        case y58 => (intro ww hS; clear hS; go_simp; try with_reducible rfl)
        try simp only [Act.put, List.setIfInBounds_toArray, List.set_cons_zero, List.set_cons_succ]
        refine wpAnyH_take (i := 13) (oi := { dst := some 85, op := Op.load 25 (Operand.tmp 3), type := 25, pos := "own.go:45", after := #[], guard := none }) (v := .agg #[.bool s, .slice a len cap, .int .i64 e]) rfl (by kernel_rfl) (by kernel_rfl) (by kernel_rfl) (fun _ _ _ h => h) (Or.inl ⟨by rfl, ?y59⟩) R ?r59
        case y59 => (intro ww hS; have q0 := hS.cell k0 n0; have q1 := hS.cell k1 n0; have q2 := hS.cell k2 n0; clear hS; go_simp; try with_reducible rfl)
        try simp only [Act.put, List.setIfInBounds_toArray, List.set_cons_zero, List.set_cons_succ]
        refine wpAnyH_take (i := 14) (oi := { dst := some 86, op := Op.load 25 (Operand.tmp 5), type := 25, pos := "own.go:45", after := #[], guard := none }) (v := .agg #[.bool u, .slice d len'' cap'', .int .i64 g]) rfl (by kernel_rfl) (by kernel_rfl) (by kernel_rfl) (fun _ _ _ h => h) (Or.inl ⟨by rfl, ?y60⟩) R ?r60
        case y60 => (intro ww hS; have q6 := hS.cell k6 n2; have q7 := hS.cell k7 n2; have q8 := hS.cell k8 n2; clear hS; go_simp; try with_reducible rfl)
        try simp only [Act.put, List.setIfInBounds_toArray, List.set_cons_zero, List.set_cons_succ]
        refine wpAnyH_ready (rs := [5]) (by kernel_rfl) (by simp) ?_
        refine AllReadyH.cons rfl (fun K hK => ?_) AllReadyH.nil
        go_simp
        refine Calls.mono (cadd_nm c _ (HB.out c _ hXc.out (HW.out _ R)) (HD.out c _ hXc.out (HW.out _ R)) (HT.out _ (HW.out _ R)) C) ?_
        rintro r w1 ⟨v1, rfl, D1, Cn, rn⟩
        clear C
        have C := Cn
        clear Cn
        replace R := R.trans rn
        clear rn
        refine hK.out _ _ R (fun _ => ?_)
        clear hK K
        try simp only [Act.put, List.setIfInBounds_toArray, List.set_cons_zero, List.set_cons_succ]
        refine wpAnyH_ready (rs := [6]) (by kernel_rfl) (by simp) ?_
        refine AllReadyH.cons rfl (fun K hK => ?_) AllReadyH.nil
        go_simp
        refine Calls.mono (cmul_nm c _ (HA.out c _ hXc.out (HW.out _ R)) D1.nm (HT.out _ (HW.out _ R)) C) ?_
        rintro r w2 ⟨v2, rfl, D2, Cn, rn⟩
        clear C
        have C := Cn
        clear Cn
        replace D1 := D1.keepR rn
        replace R := R.trans rn
        clear rn
        refine hK.out _ _ R (fun _ => ?_)
        clear hK K
        try simp only [Act.put, List.setIfInBounds_toArray, List.set_cons_zero, List.set_cons_succ]
        clear D1
        refine wpAnyH_ready (rs := [11]) (by kernel_rfl) (by simp) ?_
        refine AllReadyH.cons rfl (fun K hK => ?_) AllReadyH.nil
        go_simp
        refine Calls.mono (cmul_nm c _ (HA.out c _ hXc.out (HW.out _ R)) (HB.out c _ hXc.out (HW.out _ R)) (HT.out _ (HW.out _ R)) C) ?_
        rintro r w3 ⟨v3, rfl, D3, Cn, rn⟩
        clear C
        have C := Cn
        clear Cn
        replace D2 := D2.keepR rn
        replace R := R.trans rn
        clear rn
        refine hK.out _ _ R (fun _ => ?_)
        clear hK K
        try simp only [Act.put, List.setIfInBounds_toArray, List.set_cons_zero, List.set_cons_succ]
        refine wpAnyH_ready (rs := [15]) (by kernel_rfl) (by simp) ?_
        refine AllReadyH.cons rfl (fun K hK => ?_) AllReadyH.nil
        go_simp
        refine Calls.mono (cmul_nm c _ (HA.out c _ hXc.out (HW.out _ R)) (HD.out c _ hXc.out (HW.out _ R)) (HT.out _ (HW.out _ R)) C) ?_
        rintro r w4 ⟨v4, rfl, D4, Cn, rn⟩
        clear C
        have C := Cn
        clear Cn
        replace D2 := D2.keepR rn
        replace D3 := D3.keepR rn
        replace R := R.trans rn
        clear rn
        refine hK.out _ _ R (fun _ => ?_)
        clear hK K
        try simp only [Act.put, List.setIfInBounds_toArray, List.set_cons_zero, List.set_cons_succ]
        refine wpAnyH_ready (rs := [16]) (by kernel_rfl) (by simp) ?_
        refine AllReadyH.cons rfl (fun K hK => ?_) AllReadyH.nil
        go_simp
        refine Calls.mono (cadd_nm c _ D3.nm D4.nm (HT.out _ (HW.out _ R)) C) ?_
        rintro r w5 ⟨v5, rfl, D5, Cn, rn⟩
        clear C
        have C := Cn
        clear Cn
        replace D2 := D2.keepR rn
        replace D3 := D3.keepR rn
        replace D4 := D4.keepR rn
        replace R := R.trans rn
        clear rn
        refine hK.out _ _ R (fun _ => ?_)
        clear hK K
        try simp only [Act.put, List.setIfInBounds_toArray, List.set_cons_zero, List.set_cons_succ]
        clear D3 D4
        refine wpAnyH_ready (rs := [17]) (by kernel_rfl) (by simp) ?_
        refine AllReadyH.cons rfl (fun K hK => ?_) AllReadyH.nil
        go_simp
        refine Calls.mono (csame_calls c D2 D5) ?_
        rintro r w6 ⟨rfl, bS⟩
        replace C := C.keep bS
        have rn := Rn.of_below (c := c) bS
        clear bS
        replace R := R.trans rn
        clear rn
        refine hK.out _ _ R (fun _ => ?_)
        clear hK K
        try simp only [Act.put, List.setIfInBounds_toArray, List.set_cons_zero, List.set_cons_succ]
        clear D2 D5
        refine wpAnyH_ready (rs := [18]) (by kernel_rfl) (by simp) ?_
        refine AllReadyH.cons rfl (fun K hK => ?_) AllReadyH.nil
        go_simp
        refine hK.out _ _ R (fun _ => ?_)
        clear hK K
        try simp only [Act.put, List.setIfInBounds_toArray, List.set_cons_zero, List.set_cons_succ]
        refine wpAnyH_done (by kernel_rfl) ?_ _
        go_wp2_with fail
        go_meet
        exact ⟨_, _, rfl, C, R, HG.out⟩
      case rest =>
        obtain ⟨bV, kV, rfl, Cn, rn, HV⟩ := hcut
        clear C
        have C := Cn
        clear Cn
        replace k0 := rn.cell k0 n0
        replace k1 := rn.cell k1 n0
        replace k2 := rn.cell k2 n0
        replace k3 := rn.cell k3 n1
        replace k4 := rn.cell k4 n1
        replace k5 := rn.cell k5 n1
        replace k6 := rn.cell k6 n2
        replace k7 := rn.cell k7 n2
        replace k8 := rn.cell k8 n2
        replace bw := bw.trans (rn.below hXc.out bw.size)
        clear rn
        generalize wc = W7 at *
        go_wp2_with fail
        refine Calls.mono (HCan.out _ (H1.out.keep bw) (HT.out _ bw)) ?_
        rintro r w7 ⟨_, rfl, ⟨aO, nO, cO, rfl, HNO, hnO, hOO⟩, bN⟩
        clear HNO
        replace k0 := dcarry_cell bN k0
        replace k1 := dcarry_cell bN k1
        replace k2 := dcarry_cell bN k2
        replace k3 := dcarry_cell bN k3
        replace k4 := dcarry_cell bN k4
        replace k5 := dcarry_cell bN k5
        replace k6 := dcarry_cell bN k6
        replace k7 := dcarry_cell bN k7
        replace k8 := dcarry_cell bN k8
        have hcl : c < W7.heap.size := World.block_lt_of_cell? _ _ C.1
        replace C := C.keep bN
        replace bw := nbelow_trans bw bN
        have IO := hOO.1
        have NO : NoC c aO nO := hOO.noC hcl
        have NO2 : NoC w7.heap.size aO nO := hOO.1.noC (Nat.le_refl _)
        have n3 : w7.heap.size ≠ c := by have := bN.size; omega
        have HOO : Hid (w.heap.size ≤ w7.heap.size) := bw.size
        have q0 : w.heap.size ≠ w7.heap.size := by have := World.block_lt_of_cell? _ _ k0; exact Nat.ne_of_lt this
        have q1 : w.heap.size + 1 ≠ w7.heap.size := by have := World.block_lt_of_cell? _ _ k3; exact Nat.ne_of_lt this
        have q2 : w.heap.size + 1 + 1 ≠ w7.heap.size := by have := World.block_lt_of_cell? _ _ k6; exact Nat.ne_of_lt this
        clear hOO bN hcl
        have bA := below_one w7 (.cells #[.bool (cnP x).1, .slice aO nO cO, .int .i64 (cnP x).2.2] 25)
        replace k0 := dcarry_cell bA k0
        replace k1 := dcarry_cell bA k1
        replace k2 := dcarry_cell bA k2
        replace k3 := dcarry_cell bA k3
        replace k4 := dcarry_cell bA k4
        replace k5 := dcarry_cell bA k5
        replace k6 := dcarry_cell bA k6
        replace k7 := dcarry_cell bA k7
        replace k8 := dcarry_cell bA k8
        replace C := C.keep bA
        replace bw := nbelow_trans bw bA
        replace IO := IO.keep bA
        clear bA
        have m0 : (w7.alloc (.cells #[.bool (cnP x).1, .slice aO nO cO, .int .i64 (cnP x).2.2] 25)).cell? ⟨w7.heap.size, 0, none⟩ = some (.bool (cnP x).1) := by go_simp
        have m1 : (w7.alloc (.cells #[.bool (cnP x).1, .slice aO nO cO, .int .i64 (cnP x).2.2] 25)).cell? ⟨w7.heap.size, 1, none⟩ = some (.slice aO nO cO) := by go_simp
        have m2 : (w7.alloc (.cells #[.bool (cnP x).1, .slice aO nO cO, .int .i64 (cnP x).2.2] 25)).cell? ⟨w7.heap.size, 2, none⟩ = some (.int .i64 (cnP x).2.2) := by go_simp
        have f0 : (w7.alloc (.cells #[.bool (cnP x).1, .slice aO nO cO, .int .i64 (cnP x).2.2] 25)).frozen? ⟨w7.heap.size, 0, none⟩ = false := by go_simp
        have f1 : (w7.alloc (.cells #[.bool (cnP x).1, .slice aO nO cO, .int .i64 (cnP x).2.2] 25)).frozen? ⟨w7.heap.size, 1, none⟩ = false := by go_simp
        have f2 : (w7.alloc (.cells #[.bool (cnP x).1, .slice aO nO cO, .int .i64 (cnP x).2.2] 25)).frozen? ⟨w7.heap.size, 2, none⟩ = false := by go_simp
        go_wp2_with fail
        generalize (w7.alloc (.cells #[.bool (cnP x).1, .slice aO nO cO, .int .i64 (cnP x).2.2] 25)) = W8 at *
        generalize w7.heap.size = oo at *
        refine Calls.mono (cput_calls c kV (cnP x).1 aO nO cO (cnP x).2.2 (cnE x) W8 C) ?_
        rintro r w8 ⟨rfl, Cn, rn⟩
        clear C
        have C := Cn
        clear Cn
        replace f0 := rn.frozen m0 n3 f0
        replace f1 := rn.frozen m1 n3 f1
        replace f2 := rn.frozen m2 n3 f2
        replace m0 := rn.cell m0 n3
        replace m1 := rn.cell m1 n3
        replace m2 := rn.cell m2 n3
        replace IO := IO.keepR NO rn
        replace k0 := rn.cell k0 n0
        replace k1 := rn.cell k1 n0
        replace k2 := rn.cell k2 n0
        replace k3 := rn.cell k3 n1
        replace k4 := rn.cell k4 n1
        replace k5 := rn.cell k5 n1
        replace k6 := rn.cell k6 n2
        replace k7 := rn.cell k7 n2
        replace k8 := rn.cell k8 n2
        replace bw := bw.trans (rn.below hXc.out bw.size)
        clear rn
        have rs : Rn oo w8 (((w8.setCell ⟨oo, 0, none⟩ (.bool (cnP x).1)).setCell ⟨oo, 1, none⟩ (.slice aO nO cO)).setCell ⟨oo, 2, none⟩ (.int .i64 (cnP x).2.2)) := by repeat (first | exact Rn.refl _ _ | refine Rn.set ?_ (Or.inr rfl) _)
        replace C := C.keepR rs (fun q => n3 q.symm)
        replace IO := IO.keepR NO2 rs
        have hwo : w.heap.size ≤ oo := HOO.out
        replace bw := bw.trans (rs.below hwo bw.size)
        replace k0 := rs.cell k0 q0
        replace k1 := rs.cell k1 q0
        replace k2 := rs.cell k2 q0
        replace k3 := rs.cell k3 q1
        replace k4 := rs.cell k4 q1
        replace k5 := rs.cell k5 q1
        replace k6 := rs.cell k6 q2
        replace k7 := rs.cell k7 q2
        replace k8 := rs.cell k8 q2
        have k9 : (((w8.setCell ⟨oo, 0, none⟩ (.bool (cnP x).1)).setCell ⟨oo, 1, none⟩ (.slice aO nO cO)).setCell ⟨oo, 2, none⟩ (.int .i64 (cnP x).2.2)).cell? ⟨oo, 0, none⟩ = some (.bool (cnP x).1) := by go_simp
        have k10 : (((w8.setCell ⟨oo, 0, none⟩ (.bool (cnP x).1)).setCell ⟨oo, 1, none⟩ (.slice aO nO cO)).setCell ⟨oo, 2, none⟩ (.int .i64 (cnP x).2.2)).cell? ⟨oo, 1, none⟩ = some (.slice aO nO cO) := by go_simp
        have k11 : (((w8.setCell ⟨oo, 0, none⟩ (.bool (cnP x).1)).setCell ⟨oo, 1, none⟩ (.slice aO nO cO)).setCell ⟨oo, 2, none⟩ (.int .i64 (cnP x).2.2)).cell? ⟨oo, 2, none⟩ = some (.int .i64 (cnP x).2.2) := by go_simp
        clear rs
        go_upto_region 9 with fail
        generalize (((w8.setCell ⟨oo, 0, none⟩ (.bool (cnP x).1)).setCell ⟨oo, 1, none⟩ (.slice aO nO cO)).setCell ⟨oo, 2, none⟩ (.int .i64 (cnP x).2.2)) = W9 at *
        clear m0 m1 m2 f0 f1 f2
        have DO : DyC c W9 (dyV (cnP x).1 aO nO cO (cnP x).2.2) (cnP x) := ⟨aO, nO, cO, rfl, hnO, IO, NO⟩
        clear IO NO NO2 hnO
        generalize hkP : stk kV (cnE x) = kP at *
        have HkP : Hid _ := hkP
        clear hkP
        go_cut [13] from 99 to 107 (fun vv wx => ∃ (bb : Bool) (kk : Int), vv = .bool bb ∧ CAt c wx kk ∧ Rn c W9 wx ∧ Hid (kk = 0 → kP = 0 ∧ bb = true))
        case first =>
          have HG : Hid (stk (stk kP (opE subD x y)) (opE sumD (opP subD x y) y) = 0 → kP = 0 ∧ smB (opP sumD (opP subD x y) y) (cnP x) = true) := fun hk => by
            obtain ⟨hk, e2⟩ := stk_zero hk
            obtain ⟨hk, e1⟩ := stk_zero hk
            exact ⟨hk, ring_back e1 e2 (stk_zero (HkP.out.trans hk)).2⟩
          have R : Rn c W9 (World.drew W9) := (Rn.refl _ _).drew
          have bD : Below W9.heap.size W9 (World.drew W9) := (Below.refl _ _).drew
          have HW : Hid (∀ w', Rn c W9 w' → Below w.heap.size w w') := fun w' r => bw.trans (r.below hXc.out bw.size)
          replace C := C.keep bD
          clear bD
          refine wp_region_held (S := fun w' => Rn c W9 w') (by kernel_rfl) ?_
          change wpAnyH _ _ _ _ _ _ _ _ (World.drew W9)
          generalize World.drew W9 = wd at R C ⊢
          replace DO := DO.keepR R
          refine wpAnyH_take (i := 0) (oi := { dst := some 99, op := Op.move (Operand.tmp 7), type := 27, pos := "own.go:48", after := #[], guard := none }) (v := (.pointer (some ⟨c, 0, none⟩))) rfl (by kernel_rfl) (by kernel_rfl) (by kernel_rfl) (fun _ _ _ h => h) (Or.inl ⟨by rfl, ?y61⟩) R ?r61
          case y61 => (intro ww hS; clear hS; go_simp; try with_reducible rfl)
          try simp only [Act.put, List.setIfInBounds_toArray, List.set_cons_zero, List.set_cons_succ]
          refine wpAnyH_take (i := 1) (oi := { dst := some 100, op := Op.move (Operand.tmp 7), type := 27, pos := "own.go:48", after := #[], guard := none }) (v := (.pointer (some ⟨c, 0, none⟩))) rfl (by kernel_rfl) (by kernel_rfl) (by kernel_rfl) (fun _ _ _ h => h) (Or.inl ⟨by rfl, ?y62⟩) R ?r62
          case y62 => (intro ww hS; clear hS; go_simp; try with_reducible rfl)
          try simp only [Act.put, List.setIfInBounds_toArray, List.set_cons_zero, List.set_cons_succ]
          refine wpAnyH_take (i := 2) (oi := { dst := some 101, op := Op.load 25 (Operand.tmp 3), type := 25, pos := "own.go:48", after := #[], guard := none }) (v := .agg #[.bool s, .slice a len cap, .int .i64 e]) rfl (by kernel_rfl) (by kernel_rfl) (by kernel_rfl) (fun _ _ _ h => h) (Or.inl ⟨by rfl, ?y63⟩) R ?r63
          case y63 => (intro ww hS; have q0 := hS.cell k0 n0; have q1 := hS.cell k1 n0; have q2 := hS.cell k2 n0; clear hS; go_simp; try with_reducible rfl)
          try simp only [Act.put, List.setIfInBounds_toArray, List.set_cons_zero, List.set_cons_succ]
          refine wpAnyH_take (i := 3) (oi := { dst := some 102, op := Op.load 25 (Operand.tmp 4), type := 25, pos := "own.go:48", after := #[], guard := none }) (v := .agg #[.bool t, .slice b len' cap', .int .i64 f]) rfl (by kernel_rfl) (by kernel_rfl) (by kernel_rfl) (fun _ _ _ h => h) (Or.inl ⟨by rfl, ?y64⟩) R ?r64
          case y64 => (intro ww hS; have q3 := hS.cell k3 n1; have q4 := hS.cell k4 n1; have q5 := hS.cell k5 n1; clear hS; go_simp; try with_reducible rfl)
          try simp only [Act.put, List.setIfInBounds_toArray, List.set_cons_zero, List.set_cons_succ]
          refine wpAnyH_take (i := 5) (oi := { dst := some 104, op := Op.load 25 (Operand.tmp 4), type := 25, pos := "own.go:48", after := #[], guard := none }) (v := .agg #[.bool t, .slice b len' cap', .int .i64 f]) rfl (by kernel_rfl) (by kernel_rfl) (by kernel_rfl) (fun _ _ _ h => h) (Or.inl ⟨by rfl, ?y65⟩) R ?r65
          case y65 => (intro ww hS; have q3 := hS.cell k3 n1; have q4 := hS.cell k4 n1; have q5 := hS.cell k5 n1; clear hS; go_simp; try with_reducible rfl)
          try simp only [Act.put, List.setIfInBounds_toArray, List.set_cons_zero, List.set_cons_succ]
          refine wpAnyH_take (i := 7) (oi := { dst := some 106, op := Op.load 25 (Operand.tmp 11), type := 25, pos := "own.go:48", after := #[], guard := none }) (v := .agg #[.bool (cnP x).1, .slice aO nO cO, .int .i64 (cnP x).2.2]) rfl (by kernel_rfl) (by kernel_rfl) (by kernel_rfl) (fun _ _ _ h => h) (Or.inl ⟨by rfl, ?y66⟩) R ?r66
          case y66 => (intro ww hS; have q9 := hS.cell k9 n3; have q10 := hS.cell k10 n3; have q11 := hS.cell k11 n3; clear hS; go_simp; try with_reducible rfl)
          try simp only [Act.put, List.setIfInBounds_toArray, List.set_cons_zero, List.set_cons_succ]
          refine wpAnyH_ready (rs := [4]) (by kernel_rfl) (by simp) ?_
          refine AllReadyH.cons rfl (fun K hK => ?_) AllReadyH.nil
          go_simp
          refine Calls.mono (csub_nm c _ (HA.out c _ hXc.out (HW.out _ R)) (HB.out c _ hXc.out (HW.out _ R)) (HT.out _ (HW.out _ R)) C) ?_
          rintro r w1 ⟨v1, rfl, D1, Cn, rn⟩
          clear C
          have C := Cn
          clear Cn
          replace DO := DO.keepR rn
          replace R := R.trans rn
          clear rn
          refine hK.out _ _ R (fun _ => ?_)
          clear hK K
          try simp only [Act.put, List.setIfInBounds_toArray, List.set_cons_zero, List.set_cons_succ]
          refine wpAnyH_ready (rs := [6]) (by kernel_rfl) (by simp) ?_
          refine AllReadyH.cons rfl (fun K hK => ?_) AllReadyH.nil
          go_simp
          refine Calls.mono (cadd_nm c _ D1.nm (HB.out c _ hXc.out (HW.out _ R)) (HT.out _ (HW.out _ R)) C) ?_
          rintro r w2 ⟨v2, rfl, D2, Cn, rn⟩
          clear C
          have C := Cn
          clear Cn
          replace DO := DO.keepR rn
          replace D1 := D1.keepR rn
          replace R := R.trans rn
          clear rn
          refine hK.out _ _ R (fun _ => ?_)
          clear hK K
          try simp only [Act.put, List.setIfInBounds_toArray, List.set_cons_zero, List.set_cons_succ]
          clear D1
          refine wpAnyH_ready (rs := [8]) (by kernel_rfl) (by simp) ?_
          refine AllReadyH.cons rfl (fun K hK => ?_) AllReadyH.nil
          go_simp
          refine Calls.mono (csame_calls c D2 DO) ?_
          rintro r w3 ⟨rfl, bS⟩
          replace C := C.keep bS
          have rn := Rn.of_below (c := c) bS
          clear bS
          replace R := R.trans rn
          clear rn
          refine hK.out _ _ R (fun _ => ?_)
          clear hK K
          try simp only [Act.put, List.setIfInBounds_toArray, List.set_cons_zero, List.set_cons_succ]
          clear D2 DO
          refine wpAnyH_ready (rs := [9]) (by kernel_rfl) (by simp) ?_
          refine AllReadyH.cons rfl (fun K hK => ?_) AllReadyH.nil
          go_simp
          refine hK.out _ _ R (fun _ => ?_)
          clear hK K
          try simp only [Act.put, List.setIfInBounds_toArray, List.set_cons_zero, List.set_cons_succ]
          refine wpAnyH_done (by kernel_rfl) ?_ _
          go_wp2_with fail
          go_meet
          exact ⟨_, _, rfl, C, R, HG.out⟩
        case rest =>
          obtain ⟨bB, kB, rfl, Cn, rn, HBk⟩ := hcut
          clear C DO
          have C := Cn
          clear Cn k9 k10 k11
          replace k0 := rn.cell k0 n0
          replace k1 := rn.cell k1 n0
          replace k2 := rn.cell k2 n0
          replace k3 := rn.cell k3 n1
          replace k4 := rn.cell k4 n1
          replace k5 := rn.cell k5 n1
          replace k6 := rn.cell k6 n2
          replace k7 := rn.cell k7 n2
          replace k8 := rn.cell k8 n2
          replace bw := bw.trans (rn.below hXc.out bw.size)
          clear rn
          generalize wc = W10 at *
          go_wp2_with fail
          refine Calls.mono (csub_nm c _ (HA.out c _ hXc.out bw) (HB.out c _ hXc.out bw) (HT.out _ bw) C) ?_
          rintro r w10 ⟨_, rfl, ⟨aL, nL, cL, rfl, hnL, IL, NL⟩, Cn, rn⟩
          clear C
          have C := Cn
          clear Cn
          replace k0 := rn.cell k0 n0
          replace k1 := rn.cell k1 n0
          replace k2 := rn.cell k2 n0
          replace k3 := rn.cell k3 n1
          replace k4 := rn.cell k4 n1
          replace k5 := rn.cell k5 n1
          replace k6 := rn.cell k6 n2
          replace k7 := rn.cell k7 n2
          replace k8 := rn.cell k8 n2
          replace bw := bw.trans (rn.below hXc.out bw.size)
          clear rn
          have bA := below_one w10 (.cells #[.bool (opP subD x y).1, .slice aL nL cL, .int .i64 (opP subD x y).2.2] 25)
          replace k0 := dcarry_cell bA k0
          replace k1 := dcarry_cell bA k1
          replace k2 := dcarry_cell bA k2
          replace k3 := dcarry_cell bA k3
          replace k4 := dcarry_cell bA k4
          replace k5 := dcarry_cell bA k5
          replace k6 := dcarry_cell bA k6
          replace k7 := dcarry_cell bA k7
          replace k8 := dcarry_cell bA k8
          replace C := C.keep bA
          replace bw := nbelow_trans bw bA
          replace IL := IL.keep bA
          clear bA NL
          have m0 : (w10.alloc (.cells #[.bool (opP subD x y).1, .slice aL nL cL, .int .i64 (opP subD x y).2.2] 25)).cell? ⟨w10.heap.size, 0, none⟩ = some (.bool (opP subD x y).1) := by go_simp
          have m1 : (w10.alloc (.cells #[.bool (opP subD x y).1, .slice aL nL cL, .int .i64 (opP subD x y).2.2] 25)).cell? ⟨w10.heap.size, 1, none⟩ = some (.slice aL nL cL) := by go_simp
          have m2 : (w10.alloc (.cells #[.bool (opP subD x y).1, .slice aL nL cL, .int .i64 (opP subD x y).2.2] 25)).cell? ⟨w10.heap.size, 2, none⟩ = some (.int .i64 (opP subD x y).2.2) := by go_simp
          go_wp2_with fail
          generalize (w10.alloc (.cells #[.bool (opP subD x y).1, .slice aL nL cL, .int .i64 (opP subD x y).2.2] 25)) = W11 at *
          generalize w10.heap.size = ol at *
          refine Calls.mono (HCmp.out _ (H1.out.keep bw) (H2.out.keep bw) (HT.out _ bw)) ?_
          rintro r w11 ⟨rfl, bN⟩
          replace C := C.keep bN
          replace IL := IL.keep bN
          replace m0 := dcarry_cell bN m0
          replace m1 := dcarry_cell bN m1
          replace m2 := dcarry_cell bN m2
          replace bw := nbelow_trans bw bN
          clear bN k0 k1 k2 k3 k4 k5 k6 k7 k8 n0 n1 n2
          have HF : Hid (stk kB (opE subD x y) = 0 → (bS = true ∧ bM = true ∧ bV = true ∧ bB = true) ∧ cmE (rt x && rt y) = 0 ∧ cmV (rt x && rt y) (fm x) (fm y) = sgnQ (opP subD x y).1 (opP subD x y).2.1) := fun hk => by
            obtain ⟨hk, e1⟩ := stk_zero hk
            obtain ⟨hk, h4⟩ := HBk.out hk
            obtain ⟨hk, -⟩ := stk_zero (HkP.out.trans hk)
            obtain ⟨hk, h3⟩ := HV.out hk
            obtain ⟨hk, h2⟩ := HM.out hk
            exact ⟨⟨(HS.out hk).2, h2, h3, h4⟩, ring_cmp e1⟩
          clear HBk HkP HV HM HS HA HB HD HT HCan HCmp H1 H2
          obtain ⟨hC1, hC2⟩ := C
          generalize stk kB (opE subD x y) = kF at *
          generalize cmV (rt x && rt y) (fm x) (fm y) = cv at *
          generalize cmE (rt x && rt y) = ce at *
          generalize opP subD x y = pl at *
          by_cases hk : kF = 0
          · obtain ⟨⟨rfl, rfl, rfl, rfl⟩, h5, h6⟩ := HF.out hk
            subst hk
            clear HF
            subst h5
            have HSg : Hid _ := qSign_calls pl.1 aL nL cL (wordsOf pl.2.1) pl.2.2 w11 IL (by omega)
            rw [val_words] at HSg
            subst h6
            clear IL
            go_wp2_with fail
            refine Calls.mono HSg.out ?_
            rintro r w12 ⟨rfl, bN⟩
            replace bw := nbelow_trans bw bN
            clear bN HSg
            go_wp2_with fail
            go_ret
            exact ⟨by simp, bw⟩
          · have hkb : (kF == 0) = false := by simp [hk]
            have hkn : (kF != 0) = true := by simp [hk]
            clear HF
            go_wp2_with fail
            go_ret
            exact ⟨by simp, bw⟩
end Go.Proofs.YticjhheceoeilaaDoor

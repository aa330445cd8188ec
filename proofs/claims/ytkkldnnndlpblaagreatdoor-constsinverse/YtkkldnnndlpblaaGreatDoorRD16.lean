/- The document's dyadic numbers: the product. -/
import Derived.Test.YtkkldnnndlpblaaGreatDoorRDB
import Derived.Test.YtkkldnnndlpblaaGreatDoorNRM
namespace Go.Proofs.YtkkldnnndlpblaaGreatDoor
open Go.RowKit

theorem prod_words (u v : Nat) : (wordsOf (u * v)).length ≤ (wordsOf u).length + (wordsOf v).length := by
  refine (words_len2 _ _).2 ((blen_le _ _).2 ?_)
  have h1 := (blen_le _ _).1 ((words_len2 _ u).1 (Nat.le_refl _))
  have h2 := (blen_le _ _).1 ((words_len2 _ v).1 (Nat.le_refl _))
  have h3 := Nat.mul_lt_mul'' h1 h2
  rw [← Nat.pow_add] at h3
  rw [Nat.mul_add]
  exact h3

attribute [local go_sem ↓] Go.wp_at_zero Go.wp_at_succ

set_option maxRecDepth 100000 in
set_option maxHeartbeats 8000000 in
theorem qTimes_calls (s : Bool) (a : Option Addr) (len cap : Nat) (xs : List Int) (e : Int) (t : Bool) (b : Option Addr) (len' cap' : Nat) (ys : List Int) (f : Int) (w : World) (h : IsW w a len cap xs) (hm : len ≤ 17592186044000) (h' : IsW w b len' cap' ys) (hm' : len' ≤ 17592186044000) (he : -10000000 ≤ e ∧ e ≤ 10000000) (hf : -10000000 ≤ f ∧ f ≤ 10000000) (hbx : blen (val xs) ≤ 10000000) (hby : blen (val ys) ≤ 10000000) :
    Calls Tryz.prog 54 #[dyV s a len cap e, dyV t b len' cap' f] w fun r w' => ∃ v', r = .returned v' ∧ DyQ w.heap.size w' v' (mulD (formD s (val xs) e) (formD t (val ys) f)) ∧ Below w.heap.size w w' := by
  have HX : Hid _ := fun w' g => qOne_calls s a len cap xs e w' g hm (by omega)
  have HY : Hid _ := fun w' g => qOne_calls t b len' cap' ys f w' g hm' (by omega)
  have hxb : blen (formD s (val xs) e).2.1 ≤ 10000000 := Nat.le_trans (blen_mono (form_amount_le _ _ _)) hbx
  have hyb : blen (formD t (val ys) f).2.1 ≤ 10000000 := Nat.le_trans (blen_mono (form_amount_le _ _ _)) hby
  have hxe := form_expb s (val xs) e hbx he
  have hye := form_expb t (val ys) f hby hf
  clear hbx hby
  generalize formD s (val xs) e = x at *
  generalize formD t (val ys) f = y at *
  generalize hpp : mulD x y = p
  have HP : Hid _ := hpp
  clear hpp
  have H1 : Hid (IsW w a len cap xs) := h
  have H2 : Hid (IsW w b len' cap' ys) := h'
  clear hm hm' he hf h h'
  have bw0 : Below w.heap.size w (((w.alloc (.cells #[.bool s, .slice a len cap, .int .i64 e] 26)).alloc (.cells #[.bool t, .slice b len' cap', .int .i64 f] 26)).alloc (.cells #[.bool false, .slice none 0 0, .int .i64 0] 26)) := by repeat (first | exact Below.refl _ _ | refine bl_alloc ?_ _)
  have k0 : (((w.alloc (.cells #[.bool s, .slice a len cap, .int .i64 e] 26)).alloc (.cells #[.bool t, .slice b len' cap', .int .i64 f] 26)).alloc (.cells #[.bool false, .slice none 0 0, .int .i64 0] 26)).cell? ⟨w.heap.size, 0, none⟩ = some (.bool s) := by go_simp
  have k1 : (((w.alloc (.cells #[.bool s, .slice a len cap, .int .i64 e] 26)).alloc (.cells #[.bool t, .slice b len' cap', .int .i64 f] 26)).alloc (.cells #[.bool false, .slice none 0 0, .int .i64 0] 26)).cell? ⟨w.heap.size, 1, none⟩ = some (.slice a len cap) := by go_simp
  have k2 : (((w.alloc (.cells #[.bool s, .slice a len cap, .int .i64 e] 26)).alloc (.cells #[.bool t, .slice b len' cap', .int .i64 f] 26)).alloc (.cells #[.bool false, .slice none 0 0, .int .i64 0] 26)).cell? ⟨w.heap.size, 2, none⟩ = some (.int .i64 e) := by go_simp
  have k3 : (((w.alloc (.cells #[.bool s, .slice a len cap, .int .i64 e] 26)).alloc (.cells #[.bool t, .slice b len' cap', .int .i64 f] 26)).alloc (.cells #[.bool false, .slice none 0 0, .int .i64 0] 26)).cell? ⟨w.heap.size + 1, 0, none⟩ = some (.bool t) := by go_simp
  have k4 : (((w.alloc (.cells #[.bool s, .slice a len cap, .int .i64 e] 26)).alloc (.cells #[.bool t, .slice b len' cap', .int .i64 f] 26)).alloc (.cells #[.bool false, .slice none 0 0, .int .i64 0] 26)).cell? ⟨w.heap.size + 1, 1, none⟩ = some (.slice b len' cap') := by go_simp
  have k5 : (((w.alloc (.cells #[.bool s, .slice a len cap, .int .i64 e] 26)).alloc (.cells #[.bool t, .slice b len' cap', .int .i64 f] 26)).alloc (.cells #[.bool false, .slice none 0 0, .int .i64 0] 26)).cell? ⟨w.heap.size + 1, 2, none⟩ = some (.int .i64 f) := by go_simp
  obtain ⟨m0, m1, m2, f0, f1, f2⟩ := zero_dy (w := ((w.alloc (.cells #[.bool s, .slice a len cap, .int .i64 e] 26)).alloc (.cells #[.bool t, .slice b len' cap', .int .i64 f] 26))) (r := w.heap.size + 1 + 1) (W' := (((w.alloc (.cells #[.bool s, .slice a len cap, .int .i64 e] 26)).alloc (.cells #[.bool t, .slice b len' cap', .int .i64 f] 26)).alloc (.cells #[.bool false, .slice none 0 0, .int .i64 0] 26))) (Below.refl _ _) (by simp)
  have hs0 : (((w.alloc (.cells #[.bool s, .slice a len cap, .int .i64 e] 26)).alloc (.cells #[.bool t, .slice b len' cap', .int .i64 f] 26)).alloc (.cells #[.bool false, .slice none 0 0, .int .i64 0] 26)).heap.size = w.heap.size + 1 + 1 + 1 := by simp
  go_enter Tryz.func54, Tryz.ntmps54
  go_upto_region 1 with fail
  generalize (((w.alloc (.cells #[.bool s, .slice a len cap, .int .i64 e] 26)).alloc (.cells #[.bool t, .slice b len' cap', .int .i64 f] 26)).alloc (.cells #[.bool false, .slice none 0 0, .int .i64 0] 26)) = w0 at *
  go_cut [5, 6] from 7 to 10 (fun v5 v6 wx => ∃ X Y : Nat, v5 = .pointer (some ⟨X, 0, none⟩) ∧ v6 = .pointer (some ⟨Y, 0, none⟩) ∧ PlusR w0 wx X Y x y)
  case first =>
    have bw : Below w0.heap.size w0 w0.drew := (Below.refl _ _).drew
    refine wp_region_held (S := fun w' => Below w0.heap.size w0 w') (by kernel_rfl) ?_
    change wpAnyH _ _ _ _ _ _ _ _ (World.drew w0)
    generalize World.drew w0 = wd at *
    refine wpAnyH_take (i := 0) (v := .agg #[.bool s, .slice a len cap, .int .i64 e]) rfl (by kernel_rfl) (by kernel_rfl) (by kernel_rfl) (fun _ _ _ h => h) (Or.inl ⟨by rfl, ?y0⟩) bw ?r0
    case y0 =>
      intro ww hS
      have q0 := dcarry_cell hS k0
      have q1 := dcarry_cell hS k1
      have q2 := dcarry_cell hS k2
      clear hS
      go_simp
    try simp only [Act.put, List.setIfInBounds_toArray]
    refine wpAnyH_take (i := 2) (v := .agg #[.bool t, .slice b len' cap', .int .i64 f]) rfl (by kernel_rfl) (by kernel_rfl) (by kernel_rfl) (fun _ _ _ h => h) (Or.inl ⟨by rfl, ?y1⟩) bw ?r1
    case y1 =>
      intro ww hS
      have q3 := dcarry_cell hS k3
      have q4 := dcarry_cell hS k4
      have q5 := dcarry_cell hS k5
      clear hS
      go_simp
    try simp only [Act.put]
    refine wpAnyH_ready (rs := [1, 4, 5]) (by kernel_rfl) (by simp) ?_
    refine AllReadyH.cons rfl (fun K hK => ?_) (AllReadyH.cons rfl (fun K hK => ?_) (AllReadyH.cons rfl (fun K hK => ?_) (AllReadyH.nil)))
    · go_simp
      refine Calls.mono (HX.out _ (H1.out.keep (nbelow_trans bw0 bw))) ?_
      rintro r v1 ⟨_, rfl, ⟨a1, n1, c1, rfl, HN1, hO1⟩, bN⟩
      refine hK.out _ _ (nbelow_trans bw bN) (fun _ => ?_)
      clear hK K
      have hP1 := hO1.low (B' := w0.heap.size) bw.size
      replace bw := nbelow_trans bw bN
      clear bN hO1
      try simp only [Act.put, List.setIfInBounds_toArray, List.set_cons_zero, List.set_cons_succ]
      refine wpAnyH_ready (rs := [3, 4, 5]) (by kernel_rfl) (by simp) ?_
      refine AllReadyH.cons rfl (fun K hK => ?_) (AllReadyH.cons rfl (fun K hK => ?_) (AllReadyH.cons rfl (fun K hK => ?_) (AllReadyH.nil)))
      · go_simp
        refine Calls.mono (HY.out _ (H2.out.keep (nbelow_trans bw0 bw))) ?_
        rintro r v2 ⟨_, rfl, ⟨a2, n2, c2, rfl, HN2, hO2⟩, bN⟩
        refine hK.out _ _ (nbelow_trans bw bN) (fun _ => ?_)
        clear hK K
        replace hP1 := hP1.keep bN
        have hP2 := hO2.low (B' := w0.heap.size) bw.size
        replace bw := nbelow_trans bw bN
        clear bN hO2
        try simp only [Act.put, List.setIfInBounds_toArray, List.set_cons_zero, List.set_cons_succ]
        refine wpAnyH_ready (rs := [4, 5]) (by kernel_rfl) (by simp) ?_
        refine AllReadyH.cons rfl (fun K hK => ?_) (AllReadyH.cons rfl (fun K hK => ?_) (AllReadyH.nil))
        · go_simp
          refine hK.out _ _ (bl_alloc bw _) (fun _ => ?_)
          clear hK K
          have bN := below_one v2 (.cells #[.bool false, .slice none 0 0, .int .i64 0] 26)
          replace hP1 := hP1.keep bN
          replace hP2 := hP2.keep bN
          obtain ⟨X0, X1, X2, X3, X4, X5⟩ := zero_dy (w := v2) (r := v2.heap.size) (W' := v2.alloc (.cells #[.bool false, .slice none 0 0, .int .i64 0] 26)) (Below.refl _ _) rfl
          have XL : w0.heap.size ≤ v2.heap.size := bw.size
          replace bw := bl_alloc bw (.cells #[.bool false, .slice none 0 0, .int .i64 0] 26)
          clear bN
          try simp only [Act.put, List.setIfInBounds_toArray, List.set_cons_zero, List.set_cons_succ]
          generalize v2.alloc (.cells #[.bool false, .slice none 0 0, .int .i64 0] 26) = v3 at *
          refine wpAnyH_ready (rs := [5]) (by kernel_rfl) (by simp) ?_
          refine AllReadyH.cons rfl (fun K hK => ?_) (AllReadyH.nil)
          · go_simp
            refine hK.out _ _ (bl_alloc bw _) (fun _ => ?_)
            clear hK K
            have bN := below_one v3 (.cells #[.bool false, .slice none 0 0, .int .i64 0] 26)
            have ne1 : v2.heap.size ≠ v3.heap.size := Nat.ne_of_lt (World.block_lt_of_cell? _ _ X0)
            have ne2 := Ne.symm ne1
            replace X3 := dcarry_frozen bN X0 X3
            replace X4 := dcarry_frozen bN X1 X4
            replace X5 := dcarry_frozen bN X2 X5
            replace X0 := dcarry_cell bN X0
            replace X1 := dcarry_cell bN X1
            replace X2 := dcarry_cell bN X2
            replace hP1 := hP1.keep bN
            replace hP2 := hP2.keep bN
            obtain ⟨Y0, Y1, Y2, Y3, Y4, Y5⟩ := zero_dy (w := v3) (r := v3.heap.size) (W' := v3.alloc (.cells #[.bool false, .slice none 0 0, .int .i64 0] 26)) (Below.refl _ _) rfl
            have YL : w0.heap.size ≤ v3.heap.size := bw.size
            replace bw := bl_alloc bw (.cells #[.bool false, .slice none 0 0, .int .i64 0] 26)
            clear bN
            try simp only [Act.put, List.setIfInBounds_toArray, List.set_cons_zero, List.set_cons_succ]
            generalize v3.alloc (.cells #[.bool false, .slice none 0 0, .int .i64 0] 26) = v4 at *
            refine wpAnyH_ready (rs := [6]) (by kernel_rfl) (by simp) ?_
            refine AllReadyH.cons rfl (fun K hK => ?_) (AllReadyH.nil)
            · go_simp
              have bS : Below w0.heap.size w0 (((v4.setCell ⟨v2.heap.size, 0, none⟩ (.bool x.1)).setCell ⟨v2.heap.size, 1, none⟩ (.slice a1 n1 c1)).setCell ⟨v2.heap.size, 2, none⟩ (.int .i64 x.2.2)) := ((bw.setCell XL _).setCell XL _).setCell XL _
              refine hK.out _ _ bS (fun _ => ?_)
              clear hK K
              replace hP1 := hP1.set_dy _ _ _ _ _ _ (.bool x.1) (.slice a1 n1 c1) (.int .i64 x.2.2) X0 X1 X2
              replace hP2 := hP2.set_dy _ _ _ _ _ _ (.bool x.1) (.slice a1 n1 c1) (.int .i64 x.2.2) X0 X1 X2
              replace Y0 := set3_cell (v0 := .bool x.1) (v1 := .slice a1 n1 c1) (v2 := .int .i64 x.2.2) Y0 (r := v2.heap.size) (by first | exact ne1 | exact ne2)
              replace Y1 := set3_cell (v0 := .bool x.1) (v1 := .slice a1 n1 c1) (v2 := .int .i64 x.2.2) Y1 (r := v2.heap.size) (by first | exact ne1 | exact ne2)
              replace Y2 := set3_cell (v0 := .bool x.1) (v1 := .slice a1 n1 c1) (v2 := .int .i64 x.2.2) Y2 (r := v2.heap.size) (by first | exact ne1 | exact ne2)
              replace Y3 := set3_frozen (r := v2.heap.size) (v0 := .bool x.1) (v1 := .slice a1 n1 c1) (v2 := .int .i64 x.2.2) Y3
              replace Y4 := set3_frozen (r := v2.heap.size) (v0 := .bool x.1) (v1 := .slice a1 n1 c1) (v2 := .int .i64 x.2.2) Y4
              replace Y5 := set3_frozen (r := v2.heap.size) (v0 := .bool x.1) (v1 := .slice a1 n1 c1) (v2 := .int .i64 x.2.2) Y5
              obtain ⟨Z0, Z1, Z2⟩ := set3_same (r := v2.heap.size) (v0 := .bool x.1) (v1 := .slice a1 n1 c1) (v2 := .int .i64 x.2.2) X0 X1 X2
              clear X0 X1 X2 X3 X4 X5 bw
              try simp only [Act.put, List.setIfInBounds_toArray, List.set_cons_zero, List.set_cons_succ]
              generalize (((v4.setCell ⟨v2.heap.size, 0, none⟩ (.bool x.1)).setCell ⟨v2.heap.size, 1, none⟩ (.slice a1 n1 c1)).setCell ⟨v2.heap.size, 2, none⟩ (.int .i64 x.2.2)) = v5 at *
              have X0 := Z0
              have X1 := Z1
              have X2 := Z2
              have bw := bS
              clear Z0 Z1 Z2 bS
              refine wpAnyH_ready (rs := [7]) (by kernel_rfl) (by simp) ?_
              refine AllReadyH.cons rfl (fun K hK => ?_) (AllReadyH.nil)
              · go_simp
                have bS : Below w0.heap.size w0 (((v5.setCell ⟨v3.heap.size, 0, none⟩ (.bool y.1)).setCell ⟨v3.heap.size, 1, none⟩ (.slice a2 n2 c2)).setCell ⟨v3.heap.size, 2, none⟩ (.int .i64 y.2.2)) := ((bw.setCell YL _).setCell YL _).setCell YL _
                refine hK.out _ _ bS (fun _ => ?_)
                clear hK K
                replace hP1 := hP1.set_dy _ _ _ _ _ _ (.bool y.1) (.slice a2 n2 c2) (.int .i64 y.2.2) Y0 Y1 Y2
                replace hP2 := hP2.set_dy _ _ _ _ _ _ (.bool y.1) (.slice a2 n2 c2) (.int .i64 y.2.2) Y0 Y1 Y2
                replace X0 := set3_cell (v0 := .bool y.1) (v1 := .slice a2 n2 c2) (v2 := .int .i64 y.2.2) X0 (r := v3.heap.size) (by first | exact ne1 | exact ne2)
                replace X1 := set3_cell (v0 := .bool y.1) (v1 := .slice a2 n2 c2) (v2 := .int .i64 y.2.2) X1 (r := v3.heap.size) (by first | exact ne1 | exact ne2)
                replace X2 := set3_cell (v0 := .bool y.1) (v1 := .slice a2 n2 c2) (v2 := .int .i64 y.2.2) X2 (r := v3.heap.size) (by first | exact ne1 | exact ne2)
                obtain ⟨Z0, Z1, Z2⟩ := set3_same (r := v3.heap.size) (v0 := .bool y.1) (v1 := .slice a2 n2 c2) (v2 := .int .i64 y.2.2) Y0 Y1 Y2
                clear Y0 Y1 Y2 Y3 Y4 Y5 bw
                try simp only [Act.put, List.setIfInBounds_toArray, List.set_cons_zero, List.set_cons_succ]
                generalize (((v5.setCell ⟨v3.heap.size, 0, none⟩ (.bool y.1)).setCell ⟨v3.heap.size, 1, none⟩ (.slice a2 n2 c2)).setCell ⟨v3.heap.size, 2, none⟩ (.int .i64 y.2.2)) = v6 at *
                have Y0 := Z0
                have Y1 := Z1
                have Y2 := Z2
                have bw := bS
                clear Z0 Z1 Z2 bS
                refine wpAnyH_done (by kernel_rfl) ?_ _
                go_wp2_with fail
                go_meet
                case rel => exact ⟨_, _, rfl, rfl, a1, n1, c1, a2, n2, c2, X0, X1, X2, Y0, Y1, Y2, HN1, HN2, hP1, hP2, bw, XL, YL⟩
        · go_simp
          refine hK.out _ _ (bl_alloc bw _) (fun _ => ?_)
          clear hK K
          have bN := below_one v2 (.cells #[.bool false, .slice none 0 0, .int .i64 0] 26)
          replace hP1 := hP1.keep bN
          replace hP2 := hP2.keep bN
          obtain ⟨Y0, Y1, Y2, Y3, Y4, Y5⟩ := zero_dy (w := v2) (r := v2.heap.size) (W' := v2.alloc (.cells #[.bool false, .slice none 0 0, .int .i64 0] 26)) (Below.refl _ _) rfl
          have YL : w0.heap.size ≤ v2.heap.size := bw.size
          replace bw := bl_alloc bw (.cells #[.bool false, .slice none 0 0, .int .i64 0] 26)
          clear bN
          try simp only [Act.put, List.setIfInBounds_toArray, List.set_cons_zero, List.set_cons_succ]
          generalize v2.alloc (.cells #[.bool false, .slice none 0 0, .int .i64 0] 26) = v7 at *
          refine wpAnyH_ready (rs := [4]) (by kernel_rfl) (by simp) ?_
          refine AllReadyH.cons rfl (fun K hK => ?_) (AllReadyH.nil)
          · go_simp
            refine hK.out _ _ (bl_alloc bw _) (fun _ => ?_)
            clear hK K
            have bN := below_one v7 (.cells #[.bool false, .slice none 0 0, .int .i64 0] 26)
            have ne1 : v2.heap.size ≠ v7.heap.size := Nat.ne_of_lt (World.block_lt_of_cell? _ _ Y0)
            have ne2 := Ne.symm ne1
            replace Y3 := dcarry_frozen bN Y0 Y3
            replace Y4 := dcarry_frozen bN Y1 Y4
            replace Y5 := dcarry_frozen bN Y2 Y5
            replace Y0 := dcarry_cell bN Y0
            replace Y1 := dcarry_cell bN Y1
            replace Y2 := dcarry_cell bN Y2
            replace hP1 := hP1.keep bN
            replace hP2 := hP2.keep bN
            obtain ⟨X0, X1, X2, X3, X4, X5⟩ := zero_dy (w := v7) (r := v7.heap.size) (W' := v7.alloc (.cells #[.bool false, .slice none 0 0, .int .i64 0] 26)) (Below.refl _ _) rfl
            have XL : w0.heap.size ≤ v7.heap.size := bw.size
            replace bw := bl_alloc bw (.cells #[.bool false, .slice none 0 0, .int .i64 0] 26)
            clear bN
            try simp only [Act.put, List.setIfInBounds_toArray, List.set_cons_zero, List.set_cons_succ]
            generalize v7.alloc (.cells #[.bool false, .slice none 0 0, .int .i64 0] 26) = v8 at *
            refine wpAnyH_ready (rs := [6]) (by kernel_rfl) (by simp) ?_
            refine AllReadyH.cons rfl (fun K hK => ?_) (AllReadyH.nil)
            · go_simp
              have bS : Below w0.heap.size w0 (((v8.setCell ⟨v7.heap.size, 0, none⟩ (.bool x.1)).setCell ⟨v7.heap.size, 1, none⟩ (.slice a1 n1 c1)).setCell ⟨v7.heap.size, 2, none⟩ (.int .i64 x.2.2)) := ((bw.setCell XL _).setCell XL _).setCell XL _
              refine hK.out _ _ bS (fun _ => ?_)
              clear hK K
              replace hP1 := hP1.set_dy _ _ _ _ _ _ (.bool x.1) (.slice a1 n1 c1) (.int .i64 x.2.2) X0 X1 X2
              replace hP2 := hP2.set_dy _ _ _ _ _ _ (.bool x.1) (.slice a1 n1 c1) (.int .i64 x.2.2) X0 X1 X2
              replace Y0 := set3_cell (v0 := .bool x.1) (v1 := .slice a1 n1 c1) (v2 := .int .i64 x.2.2) Y0 (r := v7.heap.size) (by first | exact ne1 | exact ne2)
              replace Y1 := set3_cell (v0 := .bool x.1) (v1 := .slice a1 n1 c1) (v2 := .int .i64 x.2.2) Y1 (r := v7.heap.size) (by first | exact ne1 | exact ne2)
              replace Y2 := set3_cell (v0 := .bool x.1) (v1 := .slice a1 n1 c1) (v2 := .int .i64 x.2.2) Y2 (r := v7.heap.size) (by first | exact ne1 | exact ne2)
              replace Y3 := set3_frozen (r := v7.heap.size) (v0 := .bool x.1) (v1 := .slice a1 n1 c1) (v2 := .int .i64 x.2.2) Y3
              replace Y4 := set3_frozen (r := v7.heap.size) (v0 := .bool x.1) (v1 := .slice a1 n1 c1) (v2 := .int .i64 x.2.2) Y4
              replace Y5 := set3_frozen (r := v7.heap.size) (v0 := .bool x.1) (v1 := .slice a1 n1 c1) (v2 := .int .i64 x.2.2) Y5
              obtain ⟨Z0, Z1, Z2⟩ := set3_same (r := v7.heap.size) (v0 := .bool x.1) (v1 := .slice a1 n1 c1) (v2 := .int .i64 x.2.2) X0 X1 X2
              clear X0 X1 X2 X3 X4 X5 bw
              try simp only [Act.put, List.setIfInBounds_toArray, List.set_cons_zero, List.set_cons_succ]
              generalize (((v8.setCell ⟨v7.heap.size, 0, none⟩ (.bool x.1)).setCell ⟨v7.heap.size, 1, none⟩ (.slice a1 n1 c1)).setCell ⟨v7.heap.size, 2, none⟩ (.int .i64 x.2.2)) = v9 at *
              have X0 := Z0
              have X1 := Z1
              have X2 := Z2
              have bw := bS
              clear Z0 Z1 Z2 bS
              refine wpAnyH_ready (rs := [7]) (by kernel_rfl) (by simp) ?_
              refine AllReadyH.cons rfl (fun K hK => ?_) (AllReadyH.nil)
              · go_simp
                have bS : Below w0.heap.size w0 (((v9.setCell ⟨v2.heap.size, 0, none⟩ (.bool y.1)).setCell ⟨v2.heap.size, 1, none⟩ (.slice a2 n2 c2)).setCell ⟨v2.heap.size, 2, none⟩ (.int .i64 y.2.2)) := ((bw.setCell YL _).setCell YL _).setCell YL _
                refine hK.out _ _ bS (fun _ => ?_)
                clear hK K
                replace hP1 := hP1.set_dy _ _ _ _ _ _ (.bool y.1) (.slice a2 n2 c2) (.int .i64 y.2.2) Y0 Y1 Y2
                replace hP2 := hP2.set_dy _ _ _ _ _ _ (.bool y.1) (.slice a2 n2 c2) (.int .i64 y.2.2) Y0 Y1 Y2
                replace X0 := set3_cell (v0 := .bool y.1) (v1 := .slice a2 n2 c2) (v2 := .int .i64 y.2.2) X0 (r := v2.heap.size) (by first | exact ne1 | exact ne2)
                replace X1 := set3_cell (v0 := .bool y.1) (v1 := .slice a2 n2 c2) (v2 := .int .i64 y.2.2) X1 (r := v2.heap.size) (by first | exact ne1 | exact ne2)
                replace X2 := set3_cell (v0 := .bool y.1) (v1 := .slice a2 n2 c2) (v2 := .int .i64 y.2.2) X2 (r := v2.heap.size) (by first | exact ne1 | exact ne2)
                obtain ⟨Z0, Z1, Z2⟩ := set3_same (r := v2.heap.size) (v0 := .bool y.1) (v1 := .slice a2 n2 c2) (v2 := .int .i64 y.2.2) Y0 Y1 Y2
                clear Y0 Y1 Y2 Y3 Y4 Y5 bw
                try simp only [Act.put, List.setIfInBounds_toArray, List.set_cons_zero, List.set_cons_succ]
                generalize (((v9.setCell ⟨v2.heap.size, 0, none⟩ (.bool y.1)).setCell ⟨v2.heap.size, 1, none⟩ (.slice a2 n2 c2)).setCell ⟨v2.heap.size, 2, none⟩ (.int .i64 y.2.2)) = v10 at *
                have Y0 := Z0
                have Y1 := Z1
                have Y2 := Z2
                have bw := bS
                clear Z0 Z1 Z2 bS
                refine wpAnyH_done (by kernel_rfl) ?_ _
                go_wp2_with fail
                go_meet
                case rel => exact ⟨_, _, rfl, rfl, a1, n1, c1, a2, n2, c2, X0, X1, X2, Y0, Y1, Y2, HN1, HN2, hP1, hP2, bw, XL, YL⟩
      · go_simp
        refine hK.out _ _ (bl_alloc bw _) (fun _ => ?_)
        clear hK K
        have bN := below_one v1 (.cells #[.bool false, .slice none 0 0, .int .i64 0] 26)
        replace hP1 := hP1.keep bN
        obtain ⟨X0, X1, X2, X3, X4, X5⟩ := zero_dy (w := v1) (r := v1.heap.size) (W' := v1.alloc (.cells #[.bool false, .slice none 0 0, .int .i64 0] 26)) (Below.refl _ _) rfl
        have XL : w0.heap.size ≤ v1.heap.size := bw.size
        replace bw := bl_alloc bw (.cells #[.bool false, .slice none 0 0, .int .i64 0] 26)
        clear bN
        try simp only [Act.put, List.setIfInBounds_toArray, List.set_cons_zero, List.set_cons_succ]
        generalize v1.alloc (.cells #[.bool false, .slice none 0 0, .int .i64 0] 26) = v11 at *
        refine wpAnyH_ready (rs := [3, 5]) (by kernel_rfl) (by simp) ?_
        refine AllReadyH.cons rfl (fun K hK => ?_) (AllReadyH.cons rfl (fun K hK => ?_) (AllReadyH.nil))
        · go_simp
          refine Calls.mono (HY.out _ (H2.out.keep (nbelow_trans bw0 bw))) ?_
          rintro r v12 ⟨_, rfl, ⟨a2, n2, c2, rfl, HN2, hO2⟩, bN⟩
          refine hK.out _ _ (nbelow_trans bw bN) (fun _ => ?_)
          clear hK K
          replace X3 := dcarry_frozen bN X0 X3
          replace X4 := dcarry_frozen bN X1 X4
          replace X5 := dcarry_frozen bN X2 X5
          replace X0 := dcarry_cell bN X0
          replace X1 := dcarry_cell bN X1
          replace X2 := dcarry_cell bN X2
          replace hP1 := hP1.keep bN
          have hP2 := hO2.low (B' := w0.heap.size) bw.size
          replace bw := nbelow_trans bw bN
          clear bN hO2
          try simp only [Act.put, List.setIfInBounds_toArray, List.set_cons_zero, List.set_cons_succ]
          refine wpAnyH_ready (rs := [5]) (by kernel_rfl) (by simp) ?_
          refine AllReadyH.cons rfl (fun K hK => ?_) (AllReadyH.nil)
          · go_simp
            refine hK.out _ _ (bl_alloc bw _) (fun _ => ?_)
            clear hK K
            have bN := below_one v12 (.cells #[.bool false, .slice none 0 0, .int .i64 0] 26)
            have ne1 : v1.heap.size ≠ v12.heap.size := Nat.ne_of_lt (World.block_lt_of_cell? _ _ X0)
            have ne2 := Ne.symm ne1
            replace X3 := dcarry_frozen bN X0 X3
            replace X4 := dcarry_frozen bN X1 X4
            replace X5 := dcarry_frozen bN X2 X5
            replace X0 := dcarry_cell bN X0
            replace X1 := dcarry_cell bN X1
            replace X2 := dcarry_cell bN X2
            replace hP1 := hP1.keep bN
            replace hP2 := hP2.keep bN
            obtain ⟨Y0, Y1, Y2, Y3, Y4, Y5⟩ := zero_dy (w := v12) (r := v12.heap.size) (W' := v12.alloc (.cells #[.bool false, .slice none 0 0, .int .i64 0] 26)) (Below.refl _ _) rfl
            have YL : w0.heap.size ≤ v12.heap.size := bw.size
            replace bw := bl_alloc bw (.cells #[.bool false, .slice none 0 0, .int .i64 0] 26)
            clear bN
            try simp only [Act.put, List.setIfInBounds_toArray, List.set_cons_zero, List.set_cons_succ]
            generalize v12.alloc (.cells #[.bool false, .slice none 0 0, .int .i64 0] 26) = v13 at *
            refine wpAnyH_ready (rs := [6]) (by kernel_rfl) (by simp) ?_
            refine AllReadyH.cons rfl (fun K hK => ?_) (AllReadyH.nil)
            · go_simp
              have bS : Below w0.heap.size w0 (((v13.setCell ⟨v1.heap.size, 0, none⟩ (.bool x.1)).setCell ⟨v1.heap.size, 1, none⟩ (.slice a1 n1 c1)).setCell ⟨v1.heap.size, 2, none⟩ (.int .i64 x.2.2)) := ((bw.setCell XL _).setCell XL _).setCell XL _
              refine hK.out _ _ bS (fun _ => ?_)
              clear hK K
              replace hP1 := hP1.set_dy _ _ _ _ _ _ (.bool x.1) (.slice a1 n1 c1) (.int .i64 x.2.2) X0 X1 X2
              replace hP2 := hP2.set_dy _ _ _ _ _ _ (.bool x.1) (.slice a1 n1 c1) (.int .i64 x.2.2) X0 X1 X2
              replace Y0 := set3_cell (v0 := .bool x.1) (v1 := .slice a1 n1 c1) (v2 := .int .i64 x.2.2) Y0 (r := v1.heap.size) (by first | exact ne1 | exact ne2)
              replace Y1 := set3_cell (v0 := .bool x.1) (v1 := .slice a1 n1 c1) (v2 := .int .i64 x.2.2) Y1 (r := v1.heap.size) (by first | exact ne1 | exact ne2)
              replace Y2 := set3_cell (v0 := .bool x.1) (v1 := .slice a1 n1 c1) (v2 := .int .i64 x.2.2) Y2 (r := v1.heap.size) (by first | exact ne1 | exact ne2)
              replace Y3 := set3_frozen (r := v1.heap.size) (v0 := .bool x.1) (v1 := .slice a1 n1 c1) (v2 := .int .i64 x.2.2) Y3
              replace Y4 := set3_frozen (r := v1.heap.size) (v0 := .bool x.1) (v1 := .slice a1 n1 c1) (v2 := .int .i64 x.2.2) Y4
              replace Y5 := set3_frozen (r := v1.heap.size) (v0 := .bool x.1) (v1 := .slice a1 n1 c1) (v2 := .int .i64 x.2.2) Y5
              obtain ⟨Z0, Z1, Z2⟩ := set3_same (r := v1.heap.size) (v0 := .bool x.1) (v1 := .slice a1 n1 c1) (v2 := .int .i64 x.2.2) X0 X1 X2
              clear X0 X1 X2 X3 X4 X5 bw
              try simp only [Act.put, List.setIfInBounds_toArray, List.set_cons_zero, List.set_cons_succ]
              generalize (((v13.setCell ⟨v1.heap.size, 0, none⟩ (.bool x.1)).setCell ⟨v1.heap.size, 1, none⟩ (.slice a1 n1 c1)).setCell ⟨v1.heap.size, 2, none⟩ (.int .i64 x.2.2)) = v14 at *
              have X0 := Z0
              have X1 := Z1
              have X2 := Z2
              have bw := bS
              clear Z0 Z1 Z2 bS
              refine wpAnyH_ready (rs := [7]) (by kernel_rfl) (by simp) ?_
              refine AllReadyH.cons rfl (fun K hK => ?_) (AllReadyH.nil)
              · go_simp
                have bS : Below w0.heap.size w0 (((v14.setCell ⟨v12.heap.size, 0, none⟩ (.bool y.1)).setCell ⟨v12.heap.size, 1, none⟩ (.slice a2 n2 c2)).setCell ⟨v12.heap.size, 2, none⟩ (.int .i64 y.2.2)) := ((bw.setCell YL _).setCell YL _).setCell YL _
                refine hK.out _ _ bS (fun _ => ?_)
                clear hK K
                replace hP1 := hP1.set_dy _ _ _ _ _ _ (.bool y.1) (.slice a2 n2 c2) (.int .i64 y.2.2) Y0 Y1 Y2
                replace hP2 := hP2.set_dy _ _ _ _ _ _ (.bool y.1) (.slice a2 n2 c2) (.int .i64 y.2.2) Y0 Y1 Y2
                replace X0 := set3_cell (v0 := .bool y.1) (v1 := .slice a2 n2 c2) (v2 := .int .i64 y.2.2) X0 (r := v12.heap.size) (by first | exact ne1 | exact ne2)
                replace X1 := set3_cell (v0 := .bool y.1) (v1 := .slice a2 n2 c2) (v2 := .int .i64 y.2.2) X1 (r := v12.heap.size) (by first | exact ne1 | exact ne2)
                replace X2 := set3_cell (v0 := .bool y.1) (v1 := .slice a2 n2 c2) (v2 := .int .i64 y.2.2) X2 (r := v12.heap.size) (by first | exact ne1 | exact ne2)
                obtain ⟨Z0, Z1, Z2⟩ := set3_same (r := v12.heap.size) (v0 := .bool y.1) (v1 := .slice a2 n2 c2) (v2 := .int .i64 y.2.2) Y0 Y1 Y2
                clear Y0 Y1 Y2 Y3 Y4 Y5 bw
                try simp only [Act.put, List.setIfInBounds_toArray, List.set_cons_zero, List.set_cons_succ]
                generalize (((v14.setCell ⟨v12.heap.size, 0, none⟩ (.bool y.1)).setCell ⟨v12.heap.size, 1, none⟩ (.slice a2 n2 c2)).setCell ⟨v12.heap.size, 2, none⟩ (.int .i64 y.2.2)) = v15 at *
                have Y0 := Z0
                have Y1 := Z1
                have Y2 := Z2
                have bw := bS
                clear Z0 Z1 Z2 bS
                refine wpAnyH_done (by kernel_rfl) ?_ _
                go_wp2_with fail
                go_meet
                case rel => exact ⟨_, _, rfl, rfl, a1, n1, c1, a2, n2, c2, X0, X1, X2, Y0, Y1, Y2, HN1, HN2, hP1, hP2, bw, XL, YL⟩
        · go_simp
          refine hK.out _ _ (bl_alloc bw _) (fun _ => ?_)
          clear hK K
          have bN := below_one v11 (.cells #[.bool false, .slice none 0 0, .int .i64 0] 26)
          have ne1 : v1.heap.size ≠ v11.heap.size := Nat.ne_of_lt (World.block_lt_of_cell? _ _ X0)
          have ne2 := Ne.symm ne1
          replace X3 := dcarry_frozen bN X0 X3
          replace X4 := dcarry_frozen bN X1 X4
          replace X5 := dcarry_frozen bN X2 X5
          replace X0 := dcarry_cell bN X0
          replace X1 := dcarry_cell bN X1
          replace X2 := dcarry_cell bN X2
          replace hP1 := hP1.keep bN
          obtain ⟨Y0, Y1, Y2, Y3, Y4, Y5⟩ := zero_dy (w := v11) (r := v11.heap.size) (W' := v11.alloc (.cells #[.bool false, .slice none 0 0, .int .i64 0] 26)) (Below.refl _ _) rfl
          have YL : w0.heap.size ≤ v11.heap.size := bw.size
          replace bw := bl_alloc bw (.cells #[.bool false, .slice none 0 0, .int .i64 0] 26)
          clear bN
          try simp only [Act.put, List.setIfInBounds_toArray, List.set_cons_zero, List.set_cons_succ]
          generalize v11.alloc (.cells #[.bool false, .slice none 0 0, .int .i64 0] 26) = v16 at *
          refine wpAnyH_ready (rs := [3]) (by kernel_rfl) (by simp) ?_
          refine AllReadyH.cons rfl (fun K hK => ?_) (AllReadyH.nil)
          · go_simp
            refine Calls.mono (HY.out _ (H2.out.keep (nbelow_trans bw0 bw))) ?_
            rintro r v17 ⟨_, rfl, ⟨a2, n2, c2, rfl, HN2, hO2⟩, bN⟩
            refine hK.out _ _ (nbelow_trans bw bN) (fun _ => ?_)
            clear hK K
            replace X3 := dcarry_frozen bN X0 X3
            replace X4 := dcarry_frozen bN X1 X4
            replace X5 := dcarry_frozen bN X2 X5
            replace X0 := dcarry_cell bN X0
            replace X1 := dcarry_cell bN X1
            replace X2 := dcarry_cell bN X2
            replace Y3 := dcarry_frozen bN Y0 Y3
            replace Y4 := dcarry_frozen bN Y1 Y4
            replace Y5 := dcarry_frozen bN Y2 Y5
            replace Y0 := dcarry_cell bN Y0
            replace Y1 := dcarry_cell bN Y1
            replace Y2 := dcarry_cell bN Y2
            replace hP1 := hP1.keep bN
            have hP2 := hO2.low (B' := w0.heap.size) bw.size
            replace bw := nbelow_trans bw bN
            clear bN hO2
            try simp only [Act.put, List.setIfInBounds_toArray, List.set_cons_zero, List.set_cons_succ]
            refine wpAnyH_ready (rs := [6]) (by kernel_rfl) (by simp) ?_
            refine AllReadyH.cons rfl (fun K hK => ?_) (AllReadyH.nil)
            · go_simp
              have bS : Below w0.heap.size w0 (((v17.setCell ⟨v1.heap.size, 0, none⟩ (.bool x.1)).setCell ⟨v1.heap.size, 1, none⟩ (.slice a1 n1 c1)).setCell ⟨v1.heap.size, 2, none⟩ (.int .i64 x.2.2)) := ((bw.setCell XL _).setCell XL _).setCell XL _
              refine hK.out _ _ bS (fun _ => ?_)
              clear hK K
              replace hP1 := hP1.set_dy _ _ _ _ _ _ (.bool x.1) (.slice a1 n1 c1) (.int .i64 x.2.2) X0 X1 X2
              replace hP2 := hP2.set_dy _ _ _ _ _ _ (.bool x.1) (.slice a1 n1 c1) (.int .i64 x.2.2) X0 X1 X2
              replace Y0 := set3_cell (v0 := .bool x.1) (v1 := .slice a1 n1 c1) (v2 := .int .i64 x.2.2) Y0 (r := v1.heap.size) (by first | exact ne1 | exact ne2)
              replace Y1 := set3_cell (v0 := .bool x.1) (v1 := .slice a1 n1 c1) (v2 := .int .i64 x.2.2) Y1 (r := v1.heap.size) (by first | exact ne1 | exact ne2)
              replace Y2 := set3_cell (v0 := .bool x.1) (v1 := .slice a1 n1 c1) (v2 := .int .i64 x.2.2) Y2 (r := v1.heap.size) (by first | exact ne1 | exact ne2)
              replace Y3 := set3_frozen (r := v1.heap.size) (v0 := .bool x.1) (v1 := .slice a1 n1 c1) (v2 := .int .i64 x.2.2) Y3
              replace Y4 := set3_frozen (r := v1.heap.size) (v0 := .bool x.1) (v1 := .slice a1 n1 c1) (v2 := .int .i64 x.2.2) Y4
              replace Y5 := set3_frozen (r := v1.heap.size) (v0 := .bool x.1) (v1 := .slice a1 n1 c1) (v2 := .int .i64 x.2.2) Y5
              obtain ⟨Z0, Z1, Z2⟩ := set3_same (r := v1.heap.size) (v0 := .bool x.1) (v1 := .slice a1 n1 c1) (v2 := .int .i64 x.2.2) X0 X1 X2
              clear X0 X1 X2 X3 X4 X5 bw
              try simp only [Act.put, List.setIfInBounds_toArray, List.set_cons_zero, List.set_cons_succ]
              generalize (((v17.setCell ⟨v1.heap.size, 0, none⟩ (.bool x.1)).setCell ⟨v1.heap.size, 1, none⟩ (.slice a1 n1 c1)).setCell ⟨v1.heap.size, 2, none⟩ (.int .i64 x.2.2)) = v18 at *
              have X0 := Z0
              have X1 := Z1
              have X2 := Z2
              have bw := bS
              clear Z0 Z1 Z2 bS
              refine wpAnyH_ready (rs := [7]) (by kernel_rfl) (by simp) ?_
              refine AllReadyH.cons rfl (fun K hK => ?_) (AllReadyH.nil)
              · go_simp
                have bS : Below w0.heap.size w0 (((v18.setCell ⟨v11.heap.size, 0, none⟩ (.bool y.1)).setCell ⟨v11.heap.size, 1, none⟩ (.slice a2 n2 c2)).setCell ⟨v11.heap.size, 2, none⟩ (.int .i64 y.2.2)) := ((bw.setCell YL _).setCell YL _).setCell YL _
                refine hK.out _ _ bS (fun _ => ?_)
                clear hK K
                replace hP1 := hP1.set_dy _ _ _ _ _ _ (.bool y.1) (.slice a2 n2 c2) (.int .i64 y.2.2) Y0 Y1 Y2
                replace hP2 := hP2.set_dy _ _ _ _ _ _ (.bool y.1) (.slice a2 n2 c2) (.int .i64 y.2.2) Y0 Y1 Y2
                replace X0 := set3_cell (v0 := .bool y.1) (v1 := .slice a2 n2 c2) (v2 := .int .i64 y.2.2) X0 (r := v11.heap.size) (by first | exact ne1 | exact ne2)
                replace X1 := set3_cell (v0 := .bool y.1) (v1 := .slice a2 n2 c2) (v2 := .int .i64 y.2.2) X1 (r := v11.heap.size) (by first | exact ne1 | exact ne2)
                replace X2 := set3_cell (v0 := .bool y.1) (v1 := .slice a2 n2 c2) (v2 := .int .i64 y.2.2) X2 (r := v11.heap.size) (by first | exact ne1 | exact ne2)
                obtain ⟨Z0, Z1, Z2⟩ := set3_same (r := v11.heap.size) (v0 := .bool y.1) (v1 := .slice a2 n2 c2) (v2 := .int .i64 y.2.2) Y0 Y1 Y2
                clear Y0 Y1 Y2 Y3 Y4 Y5 bw
                try simp only [Act.put, List.setIfInBounds_toArray, List.set_cons_zero, List.set_cons_succ]
                generalize (((v18.setCell ⟨v11.heap.size, 0, none⟩ (.bool y.1)).setCell ⟨v11.heap.size, 1, none⟩ (.slice a2 n2 c2)).setCell ⟨v11.heap.size, 2, none⟩ (.int .i64 y.2.2)) = v19 at *
                have Y0 := Z0
                have Y1 := Z1
                have Y2 := Z2
                have bw := bS
                clear Z0 Z1 Z2 bS
                refine wpAnyH_done (by kernel_rfl) ?_ _
                go_wp2_with fail
                go_meet
                case rel => exact ⟨_, _, rfl, rfl, a1, n1, c1, a2, n2, c2, X0, X1, X2, Y0, Y1, Y2, HN1, HN2, hP1, hP2, bw, XL, YL⟩
      · go_simp
        refine hK.out _ _ (bl_alloc bw _) (fun _ => ?_)
        clear hK K
        have bN := below_one v1 (.cells #[.bool false, .slice none 0 0, .int .i64 0] 26)
        replace hP1 := hP1.keep bN
        obtain ⟨Y0, Y1, Y2, Y3, Y4, Y5⟩ := zero_dy (w := v1) (r := v1.heap.size) (W' := v1.alloc (.cells #[.bool false, .slice none 0 0, .int .i64 0] 26)) (Below.refl _ _) rfl
        have YL : w0.heap.size ≤ v1.heap.size := bw.size
        replace bw := bl_alloc bw (.cells #[.bool false, .slice none 0 0, .int .i64 0] 26)
        clear bN
        try simp only [Act.put, List.setIfInBounds_toArray, List.set_cons_zero, List.set_cons_succ]
        generalize v1.alloc (.cells #[.bool false, .slice none 0 0, .int .i64 0] 26) = v20 at *
        refine wpAnyH_ready (rs := [3, 4]) (by kernel_rfl) (by simp) ?_
        refine AllReadyH.cons rfl (fun K hK => ?_) (AllReadyH.cons rfl (fun K hK => ?_) (AllReadyH.nil))
        · go_simp
          refine Calls.mono (HY.out _ (H2.out.keep (nbelow_trans bw0 bw))) ?_
          rintro r v21 ⟨_, rfl, ⟨a2, n2, c2, rfl, HN2, hO2⟩, bN⟩
          refine hK.out _ _ (nbelow_trans bw bN) (fun _ => ?_)
          clear hK K
          replace Y3 := dcarry_frozen bN Y0 Y3
          replace Y4 := dcarry_frozen bN Y1 Y4
          replace Y5 := dcarry_frozen bN Y2 Y5
          replace Y0 := dcarry_cell bN Y0
          replace Y1 := dcarry_cell bN Y1
          replace Y2 := dcarry_cell bN Y2
          replace hP1 := hP1.keep bN
          have hP2 := hO2.low (B' := w0.heap.size) bw.size
          replace bw := nbelow_trans bw bN
          clear bN hO2
          try simp only [Act.put, List.setIfInBounds_toArray, List.set_cons_zero, List.set_cons_succ]
          refine wpAnyH_ready (rs := [4]) (by kernel_rfl) (by simp) ?_
          refine AllReadyH.cons rfl (fun K hK => ?_) (AllReadyH.nil)
          · go_simp
            refine hK.out _ _ (bl_alloc bw _) (fun _ => ?_)
            clear hK K
            have bN := below_one v21 (.cells #[.bool false, .slice none 0 0, .int .i64 0] 26)
            have ne1 : v1.heap.size ≠ v21.heap.size := Nat.ne_of_lt (World.block_lt_of_cell? _ _ Y0)
            have ne2 := Ne.symm ne1
            replace Y3 := dcarry_frozen bN Y0 Y3
            replace Y4 := dcarry_frozen bN Y1 Y4
            replace Y5 := dcarry_frozen bN Y2 Y5
            replace Y0 := dcarry_cell bN Y0
            replace Y1 := dcarry_cell bN Y1
            replace Y2 := dcarry_cell bN Y2
            replace hP1 := hP1.keep bN
            replace hP2 := hP2.keep bN
            obtain ⟨X0, X1, X2, X3, X4, X5⟩ := zero_dy (w := v21) (r := v21.heap.size) (W' := v21.alloc (.cells #[.bool false, .slice none 0 0, .int .i64 0] 26)) (Below.refl _ _) rfl
            have XL : w0.heap.size ≤ v21.heap.size := bw.size
            replace bw := bl_alloc bw (.cells #[.bool false, .slice none 0 0, .int .i64 0] 26)
            clear bN
            try simp only [Act.put, List.setIfInBounds_toArray, List.set_cons_zero, List.set_cons_succ]
            generalize v21.alloc (.cells #[.bool false, .slice none 0 0, .int .i64 0] 26) = v22 at *
            refine wpAnyH_ready (rs := [6]) (by kernel_rfl) (by simp) ?_
            refine AllReadyH.cons rfl (fun K hK => ?_) (AllReadyH.nil)
            · go_simp
              have bS : Below w0.heap.size w0 (((v22.setCell ⟨v21.heap.size, 0, none⟩ (.bool x.1)).setCell ⟨v21.heap.size, 1, none⟩ (.slice a1 n1 c1)).setCell ⟨v21.heap.size, 2, none⟩ (.int .i64 x.2.2)) := ((bw.setCell XL _).setCell XL _).setCell XL _
              refine hK.out _ _ bS (fun _ => ?_)
              clear hK K
              replace hP1 := hP1.set_dy _ _ _ _ _ _ (.bool x.1) (.slice a1 n1 c1) (.int .i64 x.2.2) X0 X1 X2
              replace hP2 := hP2.set_dy _ _ _ _ _ _ (.bool x.1) (.slice a1 n1 c1) (.int .i64 x.2.2) X0 X1 X2
              replace Y0 := set3_cell (v0 := .bool x.1) (v1 := .slice a1 n1 c1) (v2 := .int .i64 x.2.2) Y0 (r := v21.heap.size) (by first | exact ne1 | exact ne2)
              replace Y1 := set3_cell (v0 := .bool x.1) (v1 := .slice a1 n1 c1) (v2 := .int .i64 x.2.2) Y1 (r := v21.heap.size) (by first | exact ne1 | exact ne2)
              replace Y2 := set3_cell (v0 := .bool x.1) (v1 := .slice a1 n1 c1) (v2 := .int .i64 x.2.2) Y2 (r := v21.heap.size) (by first | exact ne1 | exact ne2)
              replace Y3 := set3_frozen (r := v21.heap.size) (v0 := .bool x.1) (v1 := .slice a1 n1 c1) (v2 := .int .i64 x.2.2) Y3
              replace Y4 := set3_frozen (r := v21.heap.size) (v0 := .bool x.1) (v1 := .slice a1 n1 c1) (v2 := .int .i64 x.2.2) Y4
              replace Y5 := set3_frozen (r := v21.heap.size) (v0 := .bool x.1) (v1 := .slice a1 n1 c1) (v2 := .int .i64 x.2.2) Y5
              obtain ⟨Z0, Z1, Z2⟩ := set3_same (r := v21.heap.size) (v0 := .bool x.1) (v1 := .slice a1 n1 c1) (v2 := .int .i64 x.2.2) X0 X1 X2
              clear X0 X1 X2 X3 X4 X5 bw
              try simp only [Act.put, List.setIfInBounds_toArray, List.set_cons_zero, List.set_cons_succ]
              generalize (((v22.setCell ⟨v21.heap.size, 0, none⟩ (.bool x.1)).setCell ⟨v21.heap.size, 1, none⟩ (.slice a1 n1 c1)).setCell ⟨v21.heap.size, 2, none⟩ (.int .i64 x.2.2)) = v23 at *
              have X0 := Z0
              have X1 := Z1
              have X2 := Z2
              have bw := bS
              clear Z0 Z1 Z2 bS
              refine wpAnyH_ready (rs := [7]) (by kernel_rfl) (by simp) ?_
              refine AllReadyH.cons rfl (fun K hK => ?_) (AllReadyH.nil)
              · go_simp
                have bS : Below w0.heap.size w0 (((v23.setCell ⟨v1.heap.size, 0, none⟩ (.bool y.1)).setCell ⟨v1.heap.size, 1, none⟩ (.slice a2 n2 c2)).setCell ⟨v1.heap.size, 2, none⟩ (.int .i64 y.2.2)) := ((bw.setCell YL _).setCell YL _).setCell YL _
                refine hK.out _ _ bS (fun _ => ?_)
                clear hK K
                replace hP1 := hP1.set_dy _ _ _ _ _ _ (.bool y.1) (.slice a2 n2 c2) (.int .i64 y.2.2) Y0 Y1 Y2
                replace hP2 := hP2.set_dy _ _ _ _ _ _ (.bool y.1) (.slice a2 n2 c2) (.int .i64 y.2.2) Y0 Y1 Y2
                replace X0 := set3_cell (v0 := .bool y.1) (v1 := .slice a2 n2 c2) (v2 := .int .i64 y.2.2) X0 (r := v1.heap.size) (by first | exact ne1 | exact ne2)
                replace X1 := set3_cell (v0 := .bool y.1) (v1 := .slice a2 n2 c2) (v2 := .int .i64 y.2.2) X1 (r := v1.heap.size) (by first | exact ne1 | exact ne2)
                replace X2 := set3_cell (v0 := .bool y.1) (v1 := .slice a2 n2 c2) (v2 := .int .i64 y.2.2) X2 (r := v1.heap.size) (by first | exact ne1 | exact ne2)
                obtain ⟨Z0, Z1, Z2⟩ := set3_same (r := v1.heap.size) (v0 := .bool y.1) (v1 := .slice a2 n2 c2) (v2 := .int .i64 y.2.2) Y0 Y1 Y2
                clear Y0 Y1 Y2 Y3 Y4 Y5 bw
                try simp only [Act.put, List.setIfInBounds_toArray, List.set_cons_zero, List.set_cons_succ]
                generalize (((v23.setCell ⟨v1.heap.size, 0, none⟩ (.bool y.1)).setCell ⟨v1.heap.size, 1, none⟩ (.slice a2 n2 c2)).setCell ⟨v1.heap.size, 2, none⟩ (.int .i64 y.2.2)) = v24 at *
                have Y0 := Z0
                have Y1 := Z1
                have Y2 := Z2
                have bw := bS
                clear Z0 Z1 Z2 bS
                refine wpAnyH_done (by kernel_rfl) ?_ _
                go_wp2_with fail
                go_meet
                case rel => exact ⟨_, _, rfl, rfl, a1, n1, c1, a2, n2, c2, X0, X1, X2, Y0, Y1, Y2, HN1, HN2, hP1, hP2, bw, XL, YL⟩
        · go_simp
          refine hK.out _ _ (bl_alloc bw _) (fun _ => ?_)
          clear hK K
          have bN := below_one v20 (.cells #[.bool false, .slice none 0 0, .int .i64 0] 26)
          have ne1 : v1.heap.size ≠ v20.heap.size := Nat.ne_of_lt (World.block_lt_of_cell? _ _ Y0)
          have ne2 := Ne.symm ne1
          replace Y3 := dcarry_frozen bN Y0 Y3
          replace Y4 := dcarry_frozen bN Y1 Y4
          replace Y5 := dcarry_frozen bN Y2 Y5
          replace Y0 := dcarry_cell bN Y0
          replace Y1 := dcarry_cell bN Y1
          replace Y2 := dcarry_cell bN Y2
          replace hP1 := hP1.keep bN
          obtain ⟨X0, X1, X2, X3, X4, X5⟩ := zero_dy (w := v20) (r := v20.heap.size) (W' := v20.alloc (.cells #[.bool false, .slice none 0 0, .int .i64 0] 26)) (Below.refl _ _) rfl
          have XL : w0.heap.size ≤ v20.heap.size := bw.size
          replace bw := bl_alloc bw (.cells #[.bool false, .slice none 0 0, .int .i64 0] 26)
          clear bN
          try simp only [Act.put, List.setIfInBounds_toArray, List.set_cons_zero, List.set_cons_succ]
          generalize v20.alloc (.cells #[.bool false, .slice none 0 0, .int .i64 0] 26) = v25 at *
          refine wpAnyH_ready (rs := [3]) (by kernel_rfl) (by simp) ?_
          refine AllReadyH.cons rfl (fun K hK => ?_) (AllReadyH.nil)
          · go_simp
            refine Calls.mono (HY.out _ (H2.out.keep (nbelow_trans bw0 bw))) ?_
            rintro r v26 ⟨_, rfl, ⟨a2, n2, c2, rfl, HN2, hO2⟩, bN⟩
            refine hK.out _ _ (nbelow_trans bw bN) (fun _ => ?_)
            clear hK K
            replace X3 := dcarry_frozen bN X0 X3
            replace X4 := dcarry_frozen bN X1 X4
            replace X5 := dcarry_frozen bN X2 X5
            replace X0 := dcarry_cell bN X0
            replace X1 := dcarry_cell bN X1
            replace X2 := dcarry_cell bN X2
            replace Y3 := dcarry_frozen bN Y0 Y3
            replace Y4 := dcarry_frozen bN Y1 Y4
            replace Y5 := dcarry_frozen bN Y2 Y5
            replace Y0 := dcarry_cell bN Y0
            replace Y1 := dcarry_cell bN Y1
            replace Y2 := dcarry_cell bN Y2
            replace hP1 := hP1.keep bN
            have hP2 := hO2.low (B' := w0.heap.size) bw.size
            replace bw := nbelow_trans bw bN
            clear bN hO2
            try simp only [Act.put, List.setIfInBounds_toArray, List.set_cons_zero, List.set_cons_succ]
            refine wpAnyH_ready (rs := [6]) (by kernel_rfl) (by simp) ?_
            refine AllReadyH.cons rfl (fun K hK => ?_) (AllReadyH.nil)
            · go_simp
              have bS : Below w0.heap.size w0 (((v26.setCell ⟨v20.heap.size, 0, none⟩ (.bool x.1)).setCell ⟨v20.heap.size, 1, none⟩ (.slice a1 n1 c1)).setCell ⟨v20.heap.size, 2, none⟩ (.int .i64 x.2.2)) := ((bw.setCell XL _).setCell XL _).setCell XL _
              refine hK.out _ _ bS (fun _ => ?_)
              clear hK K
              replace hP1 := hP1.set_dy _ _ _ _ _ _ (.bool x.1) (.slice a1 n1 c1) (.int .i64 x.2.2) X0 X1 X2
              replace hP2 := hP2.set_dy _ _ _ _ _ _ (.bool x.1) (.slice a1 n1 c1) (.int .i64 x.2.2) X0 X1 X2
              replace Y0 := set3_cell (v0 := .bool x.1) (v1 := .slice a1 n1 c1) (v2 := .int .i64 x.2.2) Y0 (r := v20.heap.size) (by first | exact ne1 | exact ne2)
              replace Y1 := set3_cell (v0 := .bool x.1) (v1 := .slice a1 n1 c1) (v2 := .int .i64 x.2.2) Y1 (r := v20.heap.size) (by first | exact ne1 | exact ne2)
              replace Y2 := set3_cell (v0 := .bool x.1) (v1 := .slice a1 n1 c1) (v2 := .int .i64 x.2.2) Y2 (r := v20.heap.size) (by first | exact ne1 | exact ne2)
              replace Y3 := set3_frozen (r := v20.heap.size) (v0 := .bool x.1) (v1 := .slice a1 n1 c1) (v2 := .int .i64 x.2.2) Y3
              replace Y4 := set3_frozen (r := v20.heap.size) (v0 := .bool x.1) (v1 := .slice a1 n1 c1) (v2 := .int .i64 x.2.2) Y4
              replace Y5 := set3_frozen (r := v20.heap.size) (v0 := .bool x.1) (v1 := .slice a1 n1 c1) (v2 := .int .i64 x.2.2) Y5
              obtain ⟨Z0, Z1, Z2⟩ := set3_same (r := v20.heap.size) (v0 := .bool x.1) (v1 := .slice a1 n1 c1) (v2 := .int .i64 x.2.2) X0 X1 X2
              clear X0 X1 X2 X3 X4 X5 bw
              try simp only [Act.put, List.setIfInBounds_toArray, List.set_cons_zero, List.set_cons_succ]
              generalize (((v26.setCell ⟨v20.heap.size, 0, none⟩ (.bool x.1)).setCell ⟨v20.heap.size, 1, none⟩ (.slice a1 n1 c1)).setCell ⟨v20.heap.size, 2, none⟩ (.int .i64 x.2.2)) = v27 at *
              have X0 := Z0
              have X1 := Z1
              have X2 := Z2
              have bw := bS
              clear Z0 Z1 Z2 bS
              refine wpAnyH_ready (rs := [7]) (by kernel_rfl) (by simp) ?_
              refine AllReadyH.cons rfl (fun K hK => ?_) (AllReadyH.nil)
              · go_simp
                have bS : Below w0.heap.size w0 (((v27.setCell ⟨v1.heap.size, 0, none⟩ (.bool y.1)).setCell ⟨v1.heap.size, 1, none⟩ (.slice a2 n2 c2)).setCell ⟨v1.heap.size, 2, none⟩ (.int .i64 y.2.2)) := ((bw.setCell YL _).setCell YL _).setCell YL _
                refine hK.out _ _ bS (fun _ => ?_)
                clear hK K
                replace hP1 := hP1.set_dy _ _ _ _ _ _ (.bool y.1) (.slice a2 n2 c2) (.int .i64 y.2.2) Y0 Y1 Y2
                replace hP2 := hP2.set_dy _ _ _ _ _ _ (.bool y.1) (.slice a2 n2 c2) (.int .i64 y.2.2) Y0 Y1 Y2
                replace X0 := set3_cell (v0 := .bool y.1) (v1 := .slice a2 n2 c2) (v2 := .int .i64 y.2.2) X0 (r := v1.heap.size) (by first | exact ne1 | exact ne2)
                replace X1 := set3_cell (v0 := .bool y.1) (v1 := .slice a2 n2 c2) (v2 := .int .i64 y.2.2) X1 (r := v1.heap.size) (by first | exact ne1 | exact ne2)
                replace X2 := set3_cell (v0 := .bool y.1) (v1 := .slice a2 n2 c2) (v2 := .int .i64 y.2.2) X2 (r := v1.heap.size) (by first | exact ne1 | exact ne2)
                obtain ⟨Z0, Z1, Z2⟩ := set3_same (r := v1.heap.size) (v0 := .bool y.1) (v1 := .slice a2 n2 c2) (v2 := .int .i64 y.2.2) Y0 Y1 Y2
                clear Y0 Y1 Y2 Y3 Y4 Y5 bw
                try simp only [Act.put, List.setIfInBounds_toArray, List.set_cons_zero, List.set_cons_succ]
                generalize (((v27.setCell ⟨v1.heap.size, 0, none⟩ (.bool y.1)).setCell ⟨v1.heap.size, 1, none⟩ (.slice a2 n2 c2)).setCell ⟨v1.heap.size, 2, none⟩ (.int .i64 y.2.2)) = v28 at *
                have Y0 := Z0
                have Y1 := Z1
                have Y2 := Z2
                have bw := bS
                clear Z0 Z1 Z2 bS
                refine wpAnyH_done (by kernel_rfl) ?_ _
                go_wp2_with fail
                go_meet
                case rel => exact ⟨_, _, rfl, rfl, a1, n1, c1, a2, n2, c2, X0, X1, X2, Y0, Y1, Y2, HN1, HN2, hP1, hP2, bw, XL, YL⟩
    · go_simp
      refine hK.out _ _ (bl_alloc bw _) (fun _ => ?_)
      clear hK K
      have bN := below_one wd (.cells #[.bool false, .slice none 0 0, .int .i64 0] 26)
      obtain ⟨X0, X1, X2, X3, X4, X5⟩ := zero_dy (w := wd) (r := wd.heap.size) (W' := wd.alloc (.cells #[.bool false, .slice none 0 0, .int .i64 0] 26)) (Below.refl _ _) rfl
      have XL : w0.heap.size ≤ wd.heap.size := bw.size
      replace bw := bl_alloc bw (.cells #[.bool false, .slice none 0 0, .int .i64 0] 26)
      clear bN
      try simp only [Act.put, List.setIfInBounds_toArray, List.set_cons_zero, List.set_cons_succ]
      generalize wd.alloc (.cells #[.bool false, .slice none 0 0, .int .i64 0] 26) = v29 at *
      refine wpAnyH_ready (rs := [1, 5]) (by kernel_rfl) (by simp) ?_
      refine AllReadyH.cons rfl (fun K hK => ?_) (AllReadyH.cons rfl (fun K hK => ?_) (AllReadyH.nil))
      · go_simp
        refine Calls.mono (HX.out _ (H1.out.keep (nbelow_trans bw0 bw))) ?_
        rintro r v30 ⟨_, rfl, ⟨a1, n1, c1, rfl, HN1, hO1⟩, bN⟩
        refine hK.out _ _ (nbelow_trans bw bN) (fun _ => ?_)
        clear hK K
        replace X3 := dcarry_frozen bN X0 X3
        replace X4 := dcarry_frozen bN X1 X4
        replace X5 := dcarry_frozen bN X2 X5
        replace X0 := dcarry_cell bN X0
        replace X1 := dcarry_cell bN X1
        replace X2 := dcarry_cell bN X2
        have hP1 := hO1.low (B' := w0.heap.size) bw.size
        replace bw := nbelow_trans bw bN
        clear bN hO1
        try simp only [Act.put, List.setIfInBounds_toArray, List.set_cons_zero, List.set_cons_succ]
        refine wpAnyH_ready (rs := [3, 5]) (by kernel_rfl) (by simp) ?_
        refine AllReadyH.cons rfl (fun K hK => ?_) (AllReadyH.cons rfl (fun K hK => ?_) (AllReadyH.nil))
        · go_simp
          refine Calls.mono (HY.out _ (H2.out.keep (nbelow_trans bw0 bw))) ?_
          rintro r v31 ⟨_, rfl, ⟨a2, n2, c2, rfl, HN2, hO2⟩, bN⟩
          refine hK.out _ _ (nbelow_trans bw bN) (fun _ => ?_)
          clear hK K
          replace X3 := dcarry_frozen bN X0 X3
          replace X4 := dcarry_frozen bN X1 X4
          replace X5 := dcarry_frozen bN X2 X5
          replace X0 := dcarry_cell bN X0
          replace X1 := dcarry_cell bN X1
          replace X2 := dcarry_cell bN X2
          replace hP1 := hP1.keep bN
          have hP2 := hO2.low (B' := w0.heap.size) bw.size
          replace bw := nbelow_trans bw bN
          clear bN hO2
          try simp only [Act.put, List.setIfInBounds_toArray, List.set_cons_zero, List.set_cons_succ]
          refine wpAnyH_ready (rs := [5]) (by kernel_rfl) (by simp) ?_
          refine AllReadyH.cons rfl (fun K hK => ?_) (AllReadyH.nil)
          · go_simp
            refine hK.out _ _ (bl_alloc bw _) (fun _ => ?_)
            clear hK K
            have bN := below_one v31 (.cells #[.bool false, .slice none 0 0, .int .i64 0] 26)
            have ne1 : wd.heap.size ≠ v31.heap.size := Nat.ne_of_lt (World.block_lt_of_cell? _ _ X0)
            have ne2 := Ne.symm ne1
            replace X3 := dcarry_frozen bN X0 X3
            replace X4 := dcarry_frozen bN X1 X4
            replace X5 := dcarry_frozen bN X2 X5
            replace X0 := dcarry_cell bN X0
            replace X1 := dcarry_cell bN X1
            replace X2 := dcarry_cell bN X2
            replace hP1 := hP1.keep bN
            replace hP2 := hP2.keep bN
            obtain ⟨Y0, Y1, Y2, Y3, Y4, Y5⟩ := zero_dy (w := v31) (r := v31.heap.size) (W' := v31.alloc (.cells #[.bool false, .slice none 0 0, .int .i64 0] 26)) (Below.refl _ _) rfl
            have YL : w0.heap.size ≤ v31.heap.size := bw.size
            replace bw := bl_alloc bw (.cells #[.bool false, .slice none 0 0, .int .i64 0] 26)
            clear bN
            try simp only [Act.put, List.setIfInBounds_toArray, List.set_cons_zero, List.set_cons_succ]
            generalize v31.alloc (.cells #[.bool false, .slice none 0 0, .int .i64 0] 26) = v32 at *
            refine wpAnyH_ready (rs := [6]) (by kernel_rfl) (by simp) ?_
            refine AllReadyH.cons rfl (fun K hK => ?_) (AllReadyH.nil)
            · go_simp
              have bS : Below w0.heap.size w0 (((v32.setCell ⟨wd.heap.size, 0, none⟩ (.bool x.1)).setCell ⟨wd.heap.size, 1, none⟩ (.slice a1 n1 c1)).setCell ⟨wd.heap.size, 2, none⟩ (.int .i64 x.2.2)) := ((bw.setCell XL _).setCell XL _).setCell XL _
              refine hK.out _ _ bS (fun _ => ?_)
              clear hK K
              replace hP1 := hP1.set_dy _ _ _ _ _ _ (.bool x.1) (.slice a1 n1 c1) (.int .i64 x.2.2) X0 X1 X2
              replace hP2 := hP2.set_dy _ _ _ _ _ _ (.bool x.1) (.slice a1 n1 c1) (.int .i64 x.2.2) X0 X1 X2
              replace Y0 := set3_cell (v0 := .bool x.1) (v1 := .slice a1 n1 c1) (v2 := .int .i64 x.2.2) Y0 (r := wd.heap.size) (by first | exact ne1 | exact ne2)
              replace Y1 := set3_cell (v0 := .bool x.1) (v1 := .slice a1 n1 c1) (v2 := .int .i64 x.2.2) Y1 (r := wd.heap.size) (by first | exact ne1 | exact ne2)
              replace Y2 := set3_cell (v0 := .bool x.1) (v1 := .slice a1 n1 c1) (v2 := .int .i64 x.2.2) Y2 (r := wd.heap.size) (by first | exact ne1 | exact ne2)
              replace Y3 := set3_frozen (r := wd.heap.size) (v0 := .bool x.1) (v1 := .slice a1 n1 c1) (v2 := .int .i64 x.2.2) Y3
              replace Y4 := set3_frozen (r := wd.heap.size) (v0 := .bool x.1) (v1 := .slice a1 n1 c1) (v2 := .int .i64 x.2.2) Y4
              replace Y5 := set3_frozen (r := wd.heap.size) (v0 := .bool x.1) (v1 := .slice a1 n1 c1) (v2 := .int .i64 x.2.2) Y5
              obtain ⟨Z0, Z1, Z2⟩ := set3_same (r := wd.heap.size) (v0 := .bool x.1) (v1 := .slice a1 n1 c1) (v2 := .int .i64 x.2.2) X0 X1 X2
              clear X0 X1 X2 X3 X4 X5 bw
              try simp only [Act.put, List.setIfInBounds_toArray, List.set_cons_zero, List.set_cons_succ]
              generalize (((v32.setCell ⟨wd.heap.size, 0, none⟩ (.bool x.1)).setCell ⟨wd.heap.size, 1, none⟩ (.slice a1 n1 c1)).setCell ⟨wd.heap.size, 2, none⟩ (.int .i64 x.2.2)) = v33 at *
              have X0 := Z0
              have X1 := Z1
              have X2 := Z2
              have bw := bS
              clear Z0 Z1 Z2 bS
              refine wpAnyH_ready (rs := [7]) (by kernel_rfl) (by simp) ?_
              refine AllReadyH.cons rfl (fun K hK => ?_) (AllReadyH.nil)
              · go_simp
                have bS : Below w0.heap.size w0 (((v33.setCell ⟨v31.heap.size, 0, none⟩ (.bool y.1)).setCell ⟨v31.heap.size, 1, none⟩ (.slice a2 n2 c2)).setCell ⟨v31.heap.size, 2, none⟩ (.int .i64 y.2.2)) := ((bw.setCell YL _).setCell YL _).setCell YL _
                refine hK.out _ _ bS (fun _ => ?_)
                clear hK K
                replace hP1 := hP1.set_dy _ _ _ _ _ _ (.bool y.1) (.slice a2 n2 c2) (.int .i64 y.2.2) Y0 Y1 Y2
                replace hP2 := hP2.set_dy _ _ _ _ _ _ (.bool y.1) (.slice a2 n2 c2) (.int .i64 y.2.2) Y0 Y1 Y2
                replace X0 := set3_cell (v0 := .bool y.1) (v1 := .slice a2 n2 c2) (v2 := .int .i64 y.2.2) X0 (r := v31.heap.size) (by first | exact ne1 | exact ne2)
                replace X1 := set3_cell (v0 := .bool y.1) (v1 := .slice a2 n2 c2) (v2 := .int .i64 y.2.2) X1 (r := v31.heap.size) (by first | exact ne1 | exact ne2)
                replace X2 := set3_cell (v0 := .bool y.1) (v1 := .slice a2 n2 c2) (v2 := .int .i64 y.2.2) X2 (r := v31.heap.size) (by first | exact ne1 | exact ne2)
                obtain ⟨Z0, Z1, Z2⟩ := set3_same (r := v31.heap.size) (v0 := .bool y.1) (v1 := .slice a2 n2 c2) (v2 := .int .i64 y.2.2) Y0 Y1 Y2
                clear Y0 Y1 Y2 Y3 Y4 Y5 bw
                try simp only [Act.put, List.setIfInBounds_toArray, List.set_cons_zero, List.set_cons_succ]
                generalize (((v33.setCell ⟨v31.heap.size, 0, none⟩ (.bool y.1)).setCell ⟨v31.heap.size, 1, none⟩ (.slice a2 n2 c2)).setCell ⟨v31.heap.size, 2, none⟩ (.int .i64 y.2.2)) = v34 at *
                have Y0 := Z0
                have Y1 := Z1
                have Y2 := Z2
                have bw := bS
                clear Z0 Z1 Z2 bS
                refine wpAnyH_done (by kernel_rfl) ?_ _
                go_wp2_with fail
                go_meet
                case rel => exact ⟨_, _, rfl, rfl, a1, n1, c1, a2, n2, c2, X0, X1, X2, Y0, Y1, Y2, HN1, HN2, hP1, hP2, bw, XL, YL⟩
        · go_simp
          refine hK.out _ _ (bl_alloc bw _) (fun _ => ?_)
          clear hK K
          have bN := below_one v30 (.cells #[.bool false, .slice none 0 0, .int .i64 0] 26)
          have ne1 : wd.heap.size ≠ v30.heap.size := Nat.ne_of_lt (World.block_lt_of_cell? _ _ X0)
          have ne2 := Ne.symm ne1
          replace X3 := dcarry_frozen bN X0 X3
          replace X4 := dcarry_frozen bN X1 X4
          replace X5 := dcarry_frozen bN X2 X5
          replace X0 := dcarry_cell bN X0
          replace X1 := dcarry_cell bN X1
          replace X2 := dcarry_cell bN X2
          replace hP1 := hP1.keep bN
          obtain ⟨Y0, Y1, Y2, Y3, Y4, Y5⟩ := zero_dy (w := v30) (r := v30.heap.size) (W' := v30.alloc (.cells #[.bool false, .slice none 0 0, .int .i64 0] 26)) (Below.refl _ _) rfl
          have YL : w0.heap.size ≤ v30.heap.size := bw.size
          replace bw := bl_alloc bw (.cells #[.bool false, .slice none 0 0, .int .i64 0] 26)
          clear bN
          try simp only [Act.put, List.setIfInBounds_toArray, List.set_cons_zero, List.set_cons_succ]
          generalize v30.alloc (.cells #[.bool false, .slice none 0 0, .int .i64 0] 26) = v35 at *
          refine wpAnyH_ready (rs := [3]) (by kernel_rfl) (by simp) ?_
          refine AllReadyH.cons rfl (fun K hK => ?_) (AllReadyH.nil)
          · go_simp
            refine Calls.mono (HY.out _ (H2.out.keep (nbelow_trans bw0 bw))) ?_
            rintro r v36 ⟨_, rfl, ⟨a2, n2, c2, rfl, HN2, hO2⟩, bN⟩
            refine hK.out _ _ (nbelow_trans bw bN) (fun _ => ?_)
            clear hK K
            replace X3 := dcarry_frozen bN X0 X3
            replace X4 := dcarry_frozen bN X1 X4
            replace X5 := dcarry_frozen bN X2 X5
            replace X0 := dcarry_cell bN X0
            replace X1 := dcarry_cell bN X1
            replace X2 := dcarry_cell bN X2
            replace Y3 := dcarry_frozen bN Y0 Y3
            replace Y4 := dcarry_frozen bN Y1 Y4
            replace Y5 := dcarry_frozen bN Y2 Y5
            replace Y0 := dcarry_cell bN Y0
            replace Y1 := dcarry_cell bN Y1
            replace Y2 := dcarry_cell bN Y2
            replace hP1 := hP1.keep bN
            have hP2 := hO2.low (B' := w0.heap.size) bw.size
            replace bw := nbelow_trans bw bN
            clear bN hO2
            try simp only [Act.put, List.setIfInBounds_toArray, List.set_cons_zero, List.set_cons_succ]
            refine wpAnyH_ready (rs := [6]) (by kernel_rfl) (by simp) ?_
            refine AllReadyH.cons rfl (fun K hK => ?_) (AllReadyH.nil)
            · go_simp
              have bS : Below w0.heap.size w0 (((v36.setCell ⟨wd.heap.size, 0, none⟩ (.bool x.1)).setCell ⟨wd.heap.size, 1, none⟩ (.slice a1 n1 c1)).setCell ⟨wd.heap.size, 2, none⟩ (.int .i64 x.2.2)) := ((bw.setCell XL _).setCell XL _).setCell XL _
              refine hK.out _ _ bS (fun _ => ?_)
              clear hK K
              replace hP1 := hP1.set_dy _ _ _ _ _ _ (.bool x.1) (.slice a1 n1 c1) (.int .i64 x.2.2) X0 X1 X2
              replace hP2 := hP2.set_dy _ _ _ _ _ _ (.bool x.1) (.slice a1 n1 c1) (.int .i64 x.2.2) X0 X1 X2
              replace Y0 := set3_cell (v0 := .bool x.1) (v1 := .slice a1 n1 c1) (v2 := .int .i64 x.2.2) Y0 (r := wd.heap.size) (by first | exact ne1 | exact ne2)
              replace Y1 := set3_cell (v0 := .bool x.1) (v1 := .slice a1 n1 c1) (v2 := .int .i64 x.2.2) Y1 (r := wd.heap.size) (by first | exact ne1 | exact ne2)
              replace Y2 := set3_cell (v0 := .bool x.1) (v1 := .slice a1 n1 c1) (v2 := .int .i64 x.2.2) Y2 (r := wd.heap.size) (by first | exact ne1 | exact ne2)
              replace Y3 := set3_frozen (r := wd.heap.size) (v0 := .bool x.1) (v1 := .slice a1 n1 c1) (v2 := .int .i64 x.2.2) Y3
              replace Y4 := set3_frozen (r := wd.heap.size) (v0 := .bool x.1) (v1 := .slice a1 n1 c1) (v2 := .int .i64 x.2.2) Y4
              replace Y5 := set3_frozen (r := wd.heap.size) (v0 := .bool x.1) (v1 := .slice a1 n1 c1) (v2 := .int .i64 x.2.2) Y5
              obtain ⟨Z0, Z1, Z2⟩ := set3_same (r := wd.heap.size) (v0 := .bool x.1) (v1 := .slice a1 n1 c1) (v2 := .int .i64 x.2.2) X0 X1 X2
              clear X0 X1 X2 X3 X4 X5 bw
              try simp only [Act.put, List.setIfInBounds_toArray, List.set_cons_zero, List.set_cons_succ]
              generalize (((v36.setCell ⟨wd.heap.size, 0, none⟩ (.bool x.1)).setCell ⟨wd.heap.size, 1, none⟩ (.slice a1 n1 c1)).setCell ⟨wd.heap.size, 2, none⟩ (.int .i64 x.2.2)) = v37 at *
              have X0 := Z0
              have X1 := Z1
              have X2 := Z2
              have bw := bS
              clear Z0 Z1 Z2 bS
              refine wpAnyH_ready (rs := [7]) (by kernel_rfl) (by simp) ?_
              refine AllReadyH.cons rfl (fun K hK => ?_) (AllReadyH.nil)
              · go_simp
                have bS : Below w0.heap.size w0 (((v37.setCell ⟨v30.heap.size, 0, none⟩ (.bool y.1)).setCell ⟨v30.heap.size, 1, none⟩ (.slice a2 n2 c2)).setCell ⟨v30.heap.size, 2, none⟩ (.int .i64 y.2.2)) := ((bw.setCell YL _).setCell YL _).setCell YL _
                refine hK.out _ _ bS (fun _ => ?_)
                clear hK K
                replace hP1 := hP1.set_dy _ _ _ _ _ _ (.bool y.1) (.slice a2 n2 c2) (.int .i64 y.2.2) Y0 Y1 Y2
                replace hP2 := hP2.set_dy _ _ _ _ _ _ (.bool y.1) (.slice a2 n2 c2) (.int .i64 y.2.2) Y0 Y1 Y2
                replace X0 := set3_cell (v0 := .bool y.1) (v1 := .slice a2 n2 c2) (v2 := .int .i64 y.2.2) X0 (r := v30.heap.size) (by first | exact ne1 | exact ne2)
                replace X1 := set3_cell (v0 := .bool y.1) (v1 := .slice a2 n2 c2) (v2 := .int .i64 y.2.2) X1 (r := v30.heap.size) (by first | exact ne1 | exact ne2)
                replace X2 := set3_cell (v0 := .bool y.1) (v1 := .slice a2 n2 c2) (v2 := .int .i64 y.2.2) X2 (r := v30.heap.size) (by first | exact ne1 | exact ne2)
                obtain ⟨Z0, Z1, Z2⟩ := set3_same (r := v30.heap.size) (v0 := .bool y.1) (v1 := .slice a2 n2 c2) (v2 := .int .i64 y.2.2) Y0 Y1 Y2
                clear Y0 Y1 Y2 Y3 Y4 Y5 bw
                try simp only [Act.put, List.setIfInBounds_toArray, List.set_cons_zero, List.set_cons_succ]
                generalize (((v37.setCell ⟨v30.heap.size, 0, none⟩ (.bool y.1)).setCell ⟨v30.heap.size, 1, none⟩ (.slice a2 n2 c2)).setCell ⟨v30.heap.size, 2, none⟩ (.int .i64 y.2.2)) = v38 at *
                have Y0 := Z0
                have Y1 := Z1
                have Y2 := Z2
                have bw := bS
                clear Z0 Z1 Z2 bS
                refine wpAnyH_done (by kernel_rfl) ?_ _
                go_wp2_with fail
                go_meet
                case rel => exact ⟨_, _, rfl, rfl, a1, n1, c1, a2, n2, c2, X0, X1, X2, Y0, Y1, Y2, HN1, HN2, hP1, hP2, bw, XL, YL⟩
      · go_simp
        refine hK.out _ _ (bl_alloc bw _) (fun _ => ?_)
        clear hK K
        have bN := below_one v29 (.cells #[.bool false, .slice none 0 0, .int .i64 0] 26)
        have ne1 : wd.heap.size ≠ v29.heap.size := Nat.ne_of_lt (World.block_lt_of_cell? _ _ X0)
        have ne2 := Ne.symm ne1
        replace X3 := dcarry_frozen bN X0 X3
        replace X4 := dcarry_frozen bN X1 X4
        replace X5 := dcarry_frozen bN X2 X5
        replace X0 := dcarry_cell bN X0
        replace X1 := dcarry_cell bN X1
        replace X2 := dcarry_cell bN X2
        obtain ⟨Y0, Y1, Y2, Y3, Y4, Y5⟩ := zero_dy (w := v29) (r := v29.heap.size) (W' := v29.alloc (.cells #[.bool false, .slice none 0 0, .int .i64 0] 26)) (Below.refl _ _) rfl
        have YL : w0.heap.size ≤ v29.heap.size := bw.size
        replace bw := bl_alloc bw (.cells #[.bool false, .slice none 0 0, .int .i64 0] 26)
        clear bN
        try simp only [Act.put, List.setIfInBounds_toArray, List.set_cons_zero, List.set_cons_succ]
        generalize v29.alloc (.cells #[.bool false, .slice none 0 0, .int .i64 0] 26) = v39 at *
        refine wpAnyH_ready (rs := [1]) (by kernel_rfl) (by simp) ?_
        refine AllReadyH.cons rfl (fun K hK => ?_) (AllReadyH.nil)
        · go_simp
          refine Calls.mono (HX.out _ (H1.out.keep (nbelow_trans bw0 bw))) ?_
          rintro r v40 ⟨_, rfl, ⟨a1, n1, c1, rfl, HN1, hO1⟩, bN⟩
          refine hK.out _ _ (nbelow_trans bw bN) (fun _ => ?_)
          clear hK K
          replace X3 := dcarry_frozen bN X0 X3
          replace X4 := dcarry_frozen bN X1 X4
          replace X5 := dcarry_frozen bN X2 X5
          replace X0 := dcarry_cell bN X0
          replace X1 := dcarry_cell bN X1
          replace X2 := dcarry_cell bN X2
          replace Y3 := dcarry_frozen bN Y0 Y3
          replace Y4 := dcarry_frozen bN Y1 Y4
          replace Y5 := dcarry_frozen bN Y2 Y5
          replace Y0 := dcarry_cell bN Y0
          replace Y1 := dcarry_cell bN Y1
          replace Y2 := dcarry_cell bN Y2
          have hP1 := hO1.low (B' := w0.heap.size) bw.size
          replace bw := nbelow_trans bw bN
          clear bN hO1
          try simp only [Act.put, List.setIfInBounds_toArray, List.set_cons_zero, List.set_cons_succ]
          refine wpAnyH_ready (rs := [3]) (by kernel_rfl) (by simp) ?_
          refine AllReadyH.cons rfl (fun K hK => ?_) (AllReadyH.nil)
          · go_simp
            refine Calls.mono (HY.out _ (H2.out.keep (nbelow_trans bw0 bw))) ?_
            rintro r v41 ⟨_, rfl, ⟨a2, n2, c2, rfl, HN2, hO2⟩, bN⟩
            refine hK.out _ _ (nbelow_trans bw bN) (fun _ => ?_)
            clear hK K
            replace X3 := dcarry_frozen bN X0 X3
            replace X4 := dcarry_frozen bN X1 X4
            replace X5 := dcarry_frozen bN X2 X5
            replace X0 := dcarry_cell bN X0
            replace X1 := dcarry_cell bN X1
            replace X2 := dcarry_cell bN X2
            replace Y3 := dcarry_frozen bN Y0 Y3
            replace Y4 := dcarry_frozen bN Y1 Y4
            replace Y5 := dcarry_frozen bN Y2 Y5
            replace Y0 := dcarry_cell bN Y0
            replace Y1 := dcarry_cell bN Y1
            replace Y2 := dcarry_cell bN Y2
            replace hP1 := hP1.keep bN
            have hP2 := hO2.low (B' := w0.heap.size) bw.size
            replace bw := nbelow_trans bw bN
            clear bN hO2
            try simp only [Act.put, List.setIfInBounds_toArray, List.set_cons_zero, List.set_cons_succ]
            refine wpAnyH_ready (rs := [6]) (by kernel_rfl) (by simp) ?_
            refine AllReadyH.cons rfl (fun K hK => ?_) (AllReadyH.nil)
            · go_simp
              have bS : Below w0.heap.size w0 (((v41.setCell ⟨wd.heap.size, 0, none⟩ (.bool x.1)).setCell ⟨wd.heap.size, 1, none⟩ (.slice a1 n1 c1)).setCell ⟨wd.heap.size, 2, none⟩ (.int .i64 x.2.2)) := ((bw.setCell XL _).setCell XL _).setCell XL _
              refine hK.out _ _ bS (fun _ => ?_)
              clear hK K
              replace hP1 := hP1.set_dy _ _ _ _ _ _ (.bool x.1) (.slice a1 n1 c1) (.int .i64 x.2.2) X0 X1 X2
              replace hP2 := hP2.set_dy _ _ _ _ _ _ (.bool x.1) (.slice a1 n1 c1) (.int .i64 x.2.2) X0 X1 X2
              replace Y0 := set3_cell (v0 := .bool x.1) (v1 := .slice a1 n1 c1) (v2 := .int .i64 x.2.2) Y0 (r := wd.heap.size) (by first | exact ne1 | exact ne2)
              replace Y1 := set3_cell (v0 := .bool x.1) (v1 := .slice a1 n1 c1) (v2 := .int .i64 x.2.2) Y1 (r := wd.heap.size) (by first | exact ne1 | exact ne2)
              replace Y2 := set3_cell (v0 := .bool x.1) (v1 := .slice a1 n1 c1) (v2 := .int .i64 x.2.2) Y2 (r := wd.heap.size) (by first | exact ne1 | exact ne2)
              replace Y3 := set3_frozen (r := wd.heap.size) (v0 := .bool x.1) (v1 := .slice a1 n1 c1) (v2 := .int .i64 x.2.2) Y3
              replace Y4 := set3_frozen (r := wd.heap.size) (v0 := .bool x.1) (v1 := .slice a1 n1 c1) (v2 := .int .i64 x.2.2) Y4
              replace Y5 := set3_frozen (r := wd.heap.size) (v0 := .bool x.1) (v1 := .slice a1 n1 c1) (v2 := .int .i64 x.2.2) Y5
              obtain ⟨Z0, Z1, Z2⟩ := set3_same (r := wd.heap.size) (v0 := .bool x.1) (v1 := .slice a1 n1 c1) (v2 := .int .i64 x.2.2) X0 X1 X2
              clear X0 X1 X2 X3 X4 X5 bw
              try simp only [Act.put, List.setIfInBounds_toArray, List.set_cons_zero, List.set_cons_succ]
              generalize (((v41.setCell ⟨wd.heap.size, 0, none⟩ (.bool x.1)).setCell ⟨wd.heap.size, 1, none⟩ (.slice a1 n1 c1)).setCell ⟨wd.heap.size, 2, none⟩ (.int .i64 x.2.2)) = v42 at *
              have X0 := Z0
              have X1 := Z1
              have X2 := Z2
              have bw := bS
              clear Z0 Z1 Z2 bS
              refine wpAnyH_ready (rs := [7]) (by kernel_rfl) (by simp) ?_
              refine AllReadyH.cons rfl (fun K hK => ?_) (AllReadyH.nil)
              · go_simp
                have bS : Below w0.heap.size w0 (((v42.setCell ⟨v29.heap.size, 0, none⟩ (.bool y.1)).setCell ⟨v29.heap.size, 1, none⟩ (.slice a2 n2 c2)).setCell ⟨v29.heap.size, 2, none⟩ (.int .i64 y.2.2)) := ((bw.setCell YL _).setCell YL _).setCell YL _
                refine hK.out _ _ bS (fun _ => ?_)
                clear hK K
                replace hP1 := hP1.set_dy _ _ _ _ _ _ (.bool y.1) (.slice a2 n2 c2) (.int .i64 y.2.2) Y0 Y1 Y2
                replace hP2 := hP2.set_dy _ _ _ _ _ _ (.bool y.1) (.slice a2 n2 c2) (.int .i64 y.2.2) Y0 Y1 Y2
                replace X0 := set3_cell (v0 := .bool y.1) (v1 := .slice a2 n2 c2) (v2 := .int .i64 y.2.2) X0 (r := v29.heap.size) (by first | exact ne1 | exact ne2)
                replace X1 := set3_cell (v0 := .bool y.1) (v1 := .slice a2 n2 c2) (v2 := .int .i64 y.2.2) X1 (r := v29.heap.size) (by first | exact ne1 | exact ne2)
                replace X2 := set3_cell (v0 := .bool y.1) (v1 := .slice a2 n2 c2) (v2 := .int .i64 y.2.2) X2 (r := v29.heap.size) (by first | exact ne1 | exact ne2)
                obtain ⟨Z0, Z1, Z2⟩ := set3_same (r := v29.heap.size) (v0 := .bool y.1) (v1 := .slice a2 n2 c2) (v2 := .int .i64 y.2.2) Y0 Y1 Y2
                clear Y0 Y1 Y2 Y3 Y4 Y5 bw
                try simp only [Act.put, List.setIfInBounds_toArray, List.set_cons_zero, List.set_cons_succ]
                generalize (((v42.setCell ⟨v29.heap.size, 0, none⟩ (.bool y.1)).setCell ⟨v29.heap.size, 1, none⟩ (.slice a2 n2 c2)).setCell ⟨v29.heap.size, 2, none⟩ (.int .i64 y.2.2)) = v43 at *
                have Y0 := Z0
                have Y1 := Z1
                have Y2 := Z2
                have bw := bS
                clear Z0 Z1 Z2 bS
                refine wpAnyH_done (by kernel_rfl) ?_ _
                go_wp2_with fail
                go_meet
                case rel => exact ⟨_, _, rfl, rfl, a1, n1, c1, a2, n2, c2, X0, X1, X2, Y0, Y1, Y2, HN1, HN2, hP1, hP2, bw, XL, YL⟩
    · go_simp
      refine hK.out _ _ (bl_alloc bw _) (fun _ => ?_)
      clear hK K
      have bN := below_one wd (.cells #[.bool false, .slice none 0 0, .int .i64 0] 26)
      obtain ⟨Y0, Y1, Y2, Y3, Y4, Y5⟩ := zero_dy (w := wd) (r := wd.heap.size) (W' := wd.alloc (.cells #[.bool false, .slice none 0 0, .int .i64 0] 26)) (Below.refl _ _) rfl
      have YL : w0.heap.size ≤ wd.heap.size := bw.size
      replace bw := bl_alloc bw (.cells #[.bool false, .slice none 0 0, .int .i64 0] 26)
      clear bN
      try simp only [Act.put, List.setIfInBounds_toArray, List.set_cons_zero, List.set_cons_succ]
      generalize wd.alloc (.cells #[.bool false, .slice none 0 0, .int .i64 0] 26) = v44 at *
      refine wpAnyH_ready (rs := [1, 4]) (by kernel_rfl) (by simp) ?_
      refine AllReadyH.cons rfl (fun K hK => ?_) (AllReadyH.cons rfl (fun K hK => ?_) (AllReadyH.nil))
      · go_simp
        refine Calls.mono (HX.out _ (H1.out.keep (nbelow_trans bw0 bw))) ?_
        rintro r v45 ⟨_, rfl, ⟨a1, n1, c1, rfl, HN1, hO1⟩, bN⟩
        refine hK.out _ _ (nbelow_trans bw bN) (fun _ => ?_)
        clear hK K
        replace Y3 := dcarry_frozen bN Y0 Y3
        replace Y4 := dcarry_frozen bN Y1 Y4
        replace Y5 := dcarry_frozen bN Y2 Y5
        replace Y0 := dcarry_cell bN Y0
        replace Y1 := dcarry_cell bN Y1
        replace Y2 := dcarry_cell bN Y2
        have hP1 := hO1.low (B' := w0.heap.size) bw.size
        replace bw := nbelow_trans bw bN
        clear bN hO1
        try simp only [Act.put, List.setIfInBounds_toArray, List.set_cons_zero, List.set_cons_succ]
        refine wpAnyH_ready (rs := [3, 4]) (by kernel_rfl) (by simp) ?_
        refine AllReadyH.cons rfl (fun K hK => ?_) (AllReadyH.cons rfl (fun K hK => ?_) (AllReadyH.nil))
        · go_simp
          refine Calls.mono (HY.out _ (H2.out.keep (nbelow_trans bw0 bw))) ?_
          rintro r v46 ⟨_, rfl, ⟨a2, n2, c2, rfl, HN2, hO2⟩, bN⟩
          refine hK.out _ _ (nbelow_trans bw bN) (fun _ => ?_)
          clear hK K
          replace Y3 := dcarry_frozen bN Y0 Y3
          replace Y4 := dcarry_frozen bN Y1 Y4
          replace Y5 := dcarry_frozen bN Y2 Y5
          replace Y0 := dcarry_cell bN Y0
          replace Y1 := dcarry_cell bN Y1
          replace Y2 := dcarry_cell bN Y2
          replace hP1 := hP1.keep bN
          have hP2 := hO2.low (B' := w0.heap.size) bw.size
          replace bw := nbelow_trans bw bN
          clear bN hO2
          try simp only [Act.put, List.setIfInBounds_toArray, List.set_cons_zero, List.set_cons_succ]
          refine wpAnyH_ready (rs := [4]) (by kernel_rfl) (by simp) ?_
          refine AllReadyH.cons rfl (fun K hK => ?_) (AllReadyH.nil)
          · go_simp
            refine hK.out _ _ (bl_alloc bw _) (fun _ => ?_)
            clear hK K
            have bN := below_one v46 (.cells #[.bool false, .slice none 0 0, .int .i64 0] 26)
            have ne1 : wd.heap.size ≠ v46.heap.size := Nat.ne_of_lt (World.block_lt_of_cell? _ _ Y0)
            have ne2 := Ne.symm ne1
            replace Y3 := dcarry_frozen bN Y0 Y3
            replace Y4 := dcarry_frozen bN Y1 Y4
            replace Y5 := dcarry_frozen bN Y2 Y5
            replace Y0 := dcarry_cell bN Y0
            replace Y1 := dcarry_cell bN Y1
            replace Y2 := dcarry_cell bN Y2
            replace hP1 := hP1.keep bN
            replace hP2 := hP2.keep bN
            obtain ⟨X0, X1, X2, X3, X4, X5⟩ := zero_dy (w := v46) (r := v46.heap.size) (W' := v46.alloc (.cells #[.bool false, .slice none 0 0, .int .i64 0] 26)) (Below.refl _ _) rfl
            have XL : w0.heap.size ≤ v46.heap.size := bw.size
            replace bw := bl_alloc bw (.cells #[.bool false, .slice none 0 0, .int .i64 0] 26)
            clear bN
            try simp only [Act.put, List.setIfInBounds_toArray, List.set_cons_zero, List.set_cons_succ]
            generalize v46.alloc (.cells #[.bool false, .slice none 0 0, .int .i64 0] 26) = v47 at *
            refine wpAnyH_ready (rs := [6]) (by kernel_rfl) (by simp) ?_
            refine AllReadyH.cons rfl (fun K hK => ?_) (AllReadyH.nil)
            · go_simp
              have bS : Below w0.heap.size w0 (((v47.setCell ⟨v46.heap.size, 0, none⟩ (.bool x.1)).setCell ⟨v46.heap.size, 1, none⟩ (.slice a1 n1 c1)).setCell ⟨v46.heap.size, 2, none⟩ (.int .i64 x.2.2)) := ((bw.setCell XL _).setCell XL _).setCell XL _
              refine hK.out _ _ bS (fun _ => ?_)
              clear hK K
              replace hP1 := hP1.set_dy _ _ _ _ _ _ (.bool x.1) (.slice a1 n1 c1) (.int .i64 x.2.2) X0 X1 X2
              replace hP2 := hP2.set_dy _ _ _ _ _ _ (.bool x.1) (.slice a1 n1 c1) (.int .i64 x.2.2) X0 X1 X2
              replace Y0 := set3_cell (v0 := .bool x.1) (v1 := .slice a1 n1 c1) (v2 := .int .i64 x.2.2) Y0 (r := v46.heap.size) (by first | exact ne1 | exact ne2)
              replace Y1 := set3_cell (v0 := .bool x.1) (v1 := .slice a1 n1 c1) (v2 := .int .i64 x.2.2) Y1 (r := v46.heap.size) (by first | exact ne1 | exact ne2)
              replace Y2 := set3_cell (v0 := .bool x.1) (v1 := .slice a1 n1 c1) (v2 := .int .i64 x.2.2) Y2 (r := v46.heap.size) (by first | exact ne1 | exact ne2)
              replace Y3 := set3_frozen (r := v46.heap.size) (v0 := .bool x.1) (v1 := .slice a1 n1 c1) (v2 := .int .i64 x.2.2) Y3
              replace Y4 := set3_frozen (r := v46.heap.size) (v0 := .bool x.1) (v1 := .slice a1 n1 c1) (v2 := .int .i64 x.2.2) Y4
              replace Y5 := set3_frozen (r := v46.heap.size) (v0 := .bool x.1) (v1 := .slice a1 n1 c1) (v2 := .int .i64 x.2.2) Y5
              obtain ⟨Z0, Z1, Z2⟩ := set3_same (r := v46.heap.size) (v0 := .bool x.1) (v1 := .slice a1 n1 c1) (v2 := .int .i64 x.2.2) X0 X1 X2
              clear X0 X1 X2 X3 X4 X5 bw
              try simp only [Act.put, List.setIfInBounds_toArray, List.set_cons_zero, List.set_cons_succ]
              generalize (((v47.setCell ⟨v46.heap.size, 0, none⟩ (.bool x.1)).setCell ⟨v46.heap.size, 1, none⟩ (.slice a1 n1 c1)).setCell ⟨v46.heap.size, 2, none⟩ (.int .i64 x.2.2)) = v48 at *
              have X0 := Z0
              have X1 := Z1
              have X2 := Z2
              have bw := bS
              clear Z0 Z1 Z2 bS
              refine wpAnyH_ready (rs := [7]) (by kernel_rfl) (by simp) ?_
              refine AllReadyH.cons rfl (fun K hK => ?_) (AllReadyH.nil)
              · go_simp
                have bS : Below w0.heap.size w0 (((v48.setCell ⟨wd.heap.size, 0, none⟩ (.bool y.1)).setCell ⟨wd.heap.size, 1, none⟩ (.slice a2 n2 c2)).setCell ⟨wd.heap.size, 2, none⟩ (.int .i64 y.2.2)) := ((bw.setCell YL _).setCell YL _).setCell YL _
                refine hK.out _ _ bS (fun _ => ?_)
                clear hK K
                replace hP1 := hP1.set_dy _ _ _ _ _ _ (.bool y.1) (.slice a2 n2 c2) (.int .i64 y.2.2) Y0 Y1 Y2
                replace hP2 := hP2.set_dy _ _ _ _ _ _ (.bool y.1) (.slice a2 n2 c2) (.int .i64 y.2.2) Y0 Y1 Y2
                replace X0 := set3_cell (v0 := .bool y.1) (v1 := .slice a2 n2 c2) (v2 := .int .i64 y.2.2) X0 (r := wd.heap.size) (by first | exact ne1 | exact ne2)
                replace X1 := set3_cell (v0 := .bool y.1) (v1 := .slice a2 n2 c2) (v2 := .int .i64 y.2.2) X1 (r := wd.heap.size) (by first | exact ne1 | exact ne2)
                replace X2 := set3_cell (v0 := .bool y.1) (v1 := .slice a2 n2 c2) (v2 := .int .i64 y.2.2) X2 (r := wd.heap.size) (by first | exact ne1 | exact ne2)
                obtain ⟨Z0, Z1, Z2⟩ := set3_same (r := wd.heap.size) (v0 := .bool y.1) (v1 := .slice a2 n2 c2) (v2 := .int .i64 y.2.2) Y0 Y1 Y2
                clear Y0 Y1 Y2 Y3 Y4 Y5 bw
                try simp only [Act.put, List.setIfInBounds_toArray, List.set_cons_zero, List.set_cons_succ]
                generalize (((v48.setCell ⟨wd.heap.size, 0, none⟩ (.bool y.1)).setCell ⟨wd.heap.size, 1, none⟩ (.slice a2 n2 c2)).setCell ⟨wd.heap.size, 2, none⟩ (.int .i64 y.2.2)) = v49 at *
                have Y0 := Z0
                have Y1 := Z1
                have Y2 := Z2
                have bw := bS
                clear Z0 Z1 Z2 bS
                refine wpAnyH_done (by kernel_rfl) ?_ _
                go_wp2_with fail
                go_meet
                case rel => exact ⟨_, _, rfl, rfl, a1, n1, c1, a2, n2, c2, X0, X1, X2, Y0, Y1, Y2, HN1, HN2, hP1, hP2, bw, XL, YL⟩
        · go_simp
          refine hK.out _ _ (bl_alloc bw _) (fun _ => ?_)
          clear hK K
          have bN := below_one v45 (.cells #[.bool false, .slice none 0 0, .int .i64 0] 26)
          have ne1 : wd.heap.size ≠ v45.heap.size := Nat.ne_of_lt (World.block_lt_of_cell? _ _ Y0)
          have ne2 := Ne.symm ne1
          replace Y3 := dcarry_frozen bN Y0 Y3
          replace Y4 := dcarry_frozen bN Y1 Y4
          replace Y5 := dcarry_frozen bN Y2 Y5
          replace Y0 := dcarry_cell bN Y0
          replace Y1 := dcarry_cell bN Y1
          replace Y2 := dcarry_cell bN Y2
          replace hP1 := hP1.keep bN
          obtain ⟨X0, X1, X2, X3, X4, X5⟩ := zero_dy (w := v45) (r := v45.heap.size) (W' := v45.alloc (.cells #[.bool false, .slice none 0 0, .int .i64 0] 26)) (Below.refl _ _) rfl
          have XL : w0.heap.size ≤ v45.heap.size := bw.size
          replace bw := bl_alloc bw (.cells #[.bool false, .slice none 0 0, .int .i64 0] 26)
          clear bN
          try simp only [Act.put, List.setIfInBounds_toArray, List.set_cons_zero, List.set_cons_succ]
          generalize v45.alloc (.cells #[.bool false, .slice none 0 0, .int .i64 0] 26) = v50 at *
          refine wpAnyH_ready (rs := [3]) (by kernel_rfl) (by simp) ?_
          refine AllReadyH.cons rfl (fun K hK => ?_) (AllReadyH.nil)
          · go_simp
            refine Calls.mono (HY.out _ (H2.out.keep (nbelow_trans bw0 bw))) ?_
            rintro r v51 ⟨_, rfl, ⟨a2, n2, c2, rfl, HN2, hO2⟩, bN⟩
            refine hK.out _ _ (nbelow_trans bw bN) (fun _ => ?_)
            clear hK K
            replace X3 := dcarry_frozen bN X0 X3
            replace X4 := dcarry_frozen bN X1 X4
            replace X5 := dcarry_frozen bN X2 X5
            replace X0 := dcarry_cell bN X0
            replace X1 := dcarry_cell bN X1
            replace X2 := dcarry_cell bN X2
            replace Y3 := dcarry_frozen bN Y0 Y3
            replace Y4 := dcarry_frozen bN Y1 Y4
            replace Y5 := dcarry_frozen bN Y2 Y5
            replace Y0 := dcarry_cell bN Y0
            replace Y1 := dcarry_cell bN Y1
            replace Y2 := dcarry_cell bN Y2
            replace hP1 := hP1.keep bN
            have hP2 := hO2.low (B' := w0.heap.size) bw.size
            replace bw := nbelow_trans bw bN
            clear bN hO2
            try simp only [Act.put, List.setIfInBounds_toArray, List.set_cons_zero, List.set_cons_succ]
            refine wpAnyH_ready (rs := [6]) (by kernel_rfl) (by simp) ?_
            refine AllReadyH.cons rfl (fun K hK => ?_) (AllReadyH.nil)
            · go_simp
              have bS : Below w0.heap.size w0 (((v51.setCell ⟨v45.heap.size, 0, none⟩ (.bool x.1)).setCell ⟨v45.heap.size, 1, none⟩ (.slice a1 n1 c1)).setCell ⟨v45.heap.size, 2, none⟩ (.int .i64 x.2.2)) := ((bw.setCell XL _).setCell XL _).setCell XL _
              refine hK.out _ _ bS (fun _ => ?_)
              clear hK K
              replace hP1 := hP1.set_dy _ _ _ _ _ _ (.bool x.1) (.slice a1 n1 c1) (.int .i64 x.2.2) X0 X1 X2
              replace hP2 := hP2.set_dy _ _ _ _ _ _ (.bool x.1) (.slice a1 n1 c1) (.int .i64 x.2.2) X0 X1 X2
              replace Y0 := set3_cell (v0 := .bool x.1) (v1 := .slice a1 n1 c1) (v2 := .int .i64 x.2.2) Y0 (r := v45.heap.size) (by first | exact ne1 | exact ne2)
              replace Y1 := set3_cell (v0 := .bool x.1) (v1 := .slice a1 n1 c1) (v2 := .int .i64 x.2.2) Y1 (r := v45.heap.size) (by first | exact ne1 | exact ne2)
              replace Y2 := set3_cell (v0 := .bool x.1) (v1 := .slice a1 n1 c1) (v2 := .int .i64 x.2.2) Y2 (r := v45.heap.size) (by first | exact ne1 | exact ne2)
              replace Y3 := set3_frozen (r := v45.heap.size) (v0 := .bool x.1) (v1 := .slice a1 n1 c1) (v2 := .int .i64 x.2.2) Y3
              replace Y4 := set3_frozen (r := v45.heap.size) (v0 := .bool x.1) (v1 := .slice a1 n1 c1) (v2 := .int .i64 x.2.2) Y4
              replace Y5 := set3_frozen (r := v45.heap.size) (v0 := .bool x.1) (v1 := .slice a1 n1 c1) (v2 := .int .i64 x.2.2) Y5
              obtain ⟨Z0, Z1, Z2⟩ := set3_same (r := v45.heap.size) (v0 := .bool x.1) (v1 := .slice a1 n1 c1) (v2 := .int .i64 x.2.2) X0 X1 X2
              clear X0 X1 X2 X3 X4 X5 bw
              try simp only [Act.put, List.setIfInBounds_toArray, List.set_cons_zero, List.set_cons_succ]
              generalize (((v51.setCell ⟨v45.heap.size, 0, none⟩ (.bool x.1)).setCell ⟨v45.heap.size, 1, none⟩ (.slice a1 n1 c1)).setCell ⟨v45.heap.size, 2, none⟩ (.int .i64 x.2.2)) = v52 at *
              have X0 := Z0
              have X1 := Z1
              have X2 := Z2
              have bw := bS
              clear Z0 Z1 Z2 bS
              refine wpAnyH_ready (rs := [7]) (by kernel_rfl) (by simp) ?_
              refine AllReadyH.cons rfl (fun K hK => ?_) (AllReadyH.nil)
              · go_simp
                have bS : Below w0.heap.size w0 (((v52.setCell ⟨wd.heap.size, 0, none⟩ (.bool y.1)).setCell ⟨wd.heap.size, 1, none⟩ (.slice a2 n2 c2)).setCell ⟨wd.heap.size, 2, none⟩ (.int .i64 y.2.2)) := ((bw.setCell YL _).setCell YL _).setCell YL _
                refine hK.out _ _ bS (fun _ => ?_)
                clear hK K
                replace hP1 := hP1.set_dy _ _ _ _ _ _ (.bool y.1) (.slice a2 n2 c2) (.int .i64 y.2.2) Y0 Y1 Y2
                replace hP2 := hP2.set_dy _ _ _ _ _ _ (.bool y.1) (.slice a2 n2 c2) (.int .i64 y.2.2) Y0 Y1 Y2
                replace X0 := set3_cell (v0 := .bool y.1) (v1 := .slice a2 n2 c2) (v2 := .int .i64 y.2.2) X0 (r := wd.heap.size) (by first | exact ne1 | exact ne2)
                replace X1 := set3_cell (v0 := .bool y.1) (v1 := .slice a2 n2 c2) (v2 := .int .i64 y.2.2) X1 (r := wd.heap.size) (by first | exact ne1 | exact ne2)
                replace X2 := set3_cell (v0 := .bool y.1) (v1 := .slice a2 n2 c2) (v2 := .int .i64 y.2.2) X2 (r := wd.heap.size) (by first | exact ne1 | exact ne2)
                obtain ⟨Z0, Z1, Z2⟩ := set3_same (r := wd.heap.size) (v0 := .bool y.1) (v1 := .slice a2 n2 c2) (v2 := .int .i64 y.2.2) Y0 Y1 Y2
                clear Y0 Y1 Y2 Y3 Y4 Y5 bw
                try simp only [Act.put, List.setIfInBounds_toArray, List.set_cons_zero, List.set_cons_succ]
                generalize (((v52.setCell ⟨wd.heap.size, 0, none⟩ (.bool y.1)).setCell ⟨wd.heap.size, 1, none⟩ (.slice a2 n2 c2)).setCell ⟨wd.heap.size, 2, none⟩ (.int .i64 y.2.2)) = v53 at *
                have Y0 := Z0
                have Y1 := Z1
                have Y2 := Z2
                have bw := bS
                clear Z0 Z1 Z2 bS
                refine wpAnyH_done (by kernel_rfl) ?_ _
                go_wp2_with fail
                go_meet
                case rel => exact ⟨_, _, rfl, rfl, a1, n1, c1, a2, n2, c2, X0, X1, X2, Y0, Y1, Y2, HN1, HN2, hP1, hP2, bw, XL, YL⟩
      · go_simp
        refine hK.out _ _ (bl_alloc bw _) (fun _ => ?_)
        clear hK K
        have bN := below_one v44 (.cells #[.bool false, .slice none 0 0, .int .i64 0] 26)
        have ne1 : wd.heap.size ≠ v44.heap.size := Nat.ne_of_lt (World.block_lt_of_cell? _ _ Y0)
        have ne2 := Ne.symm ne1
        replace Y3 := dcarry_frozen bN Y0 Y3
        replace Y4 := dcarry_frozen bN Y1 Y4
        replace Y5 := dcarry_frozen bN Y2 Y5
        replace Y0 := dcarry_cell bN Y0
        replace Y1 := dcarry_cell bN Y1
        replace Y2 := dcarry_cell bN Y2
        obtain ⟨X0, X1, X2, X3, X4, X5⟩ := zero_dy (w := v44) (r := v44.heap.size) (W' := v44.alloc (.cells #[.bool false, .slice none 0 0, .int .i64 0] 26)) (Below.refl _ _) rfl
        have XL : w0.heap.size ≤ v44.heap.size := bw.size
        replace bw := bl_alloc bw (.cells #[.bool false, .slice none 0 0, .int .i64 0] 26)
        clear bN
        try simp only [Act.put, List.setIfInBounds_toArray, List.set_cons_zero, List.set_cons_succ]
        generalize v44.alloc (.cells #[.bool false, .slice none 0 0, .int .i64 0] 26) = v54 at *
        refine wpAnyH_ready (rs := [1]) (by kernel_rfl) (by simp) ?_
        refine AllReadyH.cons rfl (fun K hK => ?_) (AllReadyH.nil)
        · go_simp
          refine Calls.mono (HX.out _ (H1.out.keep (nbelow_trans bw0 bw))) ?_
          rintro r v55 ⟨_, rfl, ⟨a1, n1, c1, rfl, HN1, hO1⟩, bN⟩
          refine hK.out _ _ (nbelow_trans bw bN) (fun _ => ?_)
          clear hK K
          replace X3 := dcarry_frozen bN X0 X3
          replace X4 := dcarry_frozen bN X1 X4
          replace X5 := dcarry_frozen bN X2 X5
          replace X0 := dcarry_cell bN X0
          replace X1 := dcarry_cell bN X1
          replace X2 := dcarry_cell bN X2
          replace Y3 := dcarry_frozen bN Y0 Y3
          replace Y4 := dcarry_frozen bN Y1 Y4
          replace Y5 := dcarry_frozen bN Y2 Y5
          replace Y0 := dcarry_cell bN Y0
          replace Y1 := dcarry_cell bN Y1
          replace Y2 := dcarry_cell bN Y2
          have hP1 := hO1.low (B' := w0.heap.size) bw.size
          replace bw := nbelow_trans bw bN
          clear bN hO1
          try simp only [Act.put, List.setIfInBounds_toArray, List.set_cons_zero, List.set_cons_succ]
          refine wpAnyH_ready (rs := [3]) (by kernel_rfl) (by simp) ?_
          refine AllReadyH.cons rfl (fun K hK => ?_) (AllReadyH.nil)
          · go_simp
            refine Calls.mono (HY.out _ (H2.out.keep (nbelow_trans bw0 bw))) ?_
            rintro r v56 ⟨_, rfl, ⟨a2, n2, c2, rfl, HN2, hO2⟩, bN⟩
            refine hK.out _ _ (nbelow_trans bw bN) (fun _ => ?_)
            clear hK K
            replace X3 := dcarry_frozen bN X0 X3
            replace X4 := dcarry_frozen bN X1 X4
            replace X5 := dcarry_frozen bN X2 X5
            replace X0 := dcarry_cell bN X0
            replace X1 := dcarry_cell bN X1
            replace X2 := dcarry_cell bN X2
            replace Y3 := dcarry_frozen bN Y0 Y3
            replace Y4 := dcarry_frozen bN Y1 Y4
            replace Y5 := dcarry_frozen bN Y2 Y5
            replace Y0 := dcarry_cell bN Y0
            replace Y1 := dcarry_cell bN Y1
            replace Y2 := dcarry_cell bN Y2
            replace hP1 := hP1.keep bN
            have hP2 := hO2.low (B' := w0.heap.size) bw.size
            replace bw := nbelow_trans bw bN
            clear bN hO2
            try simp only [Act.put, List.setIfInBounds_toArray, List.set_cons_zero, List.set_cons_succ]
            refine wpAnyH_ready (rs := [6]) (by kernel_rfl) (by simp) ?_
            refine AllReadyH.cons rfl (fun K hK => ?_) (AllReadyH.nil)
            · go_simp
              have bS : Below w0.heap.size w0 (((v56.setCell ⟨v44.heap.size, 0, none⟩ (.bool x.1)).setCell ⟨v44.heap.size, 1, none⟩ (.slice a1 n1 c1)).setCell ⟨v44.heap.size, 2, none⟩ (.int .i64 x.2.2)) := ((bw.setCell XL _).setCell XL _).setCell XL _
              refine hK.out _ _ bS (fun _ => ?_)
              clear hK K
              replace hP1 := hP1.set_dy _ _ _ _ _ _ (.bool x.1) (.slice a1 n1 c1) (.int .i64 x.2.2) X0 X1 X2
              replace hP2 := hP2.set_dy _ _ _ _ _ _ (.bool x.1) (.slice a1 n1 c1) (.int .i64 x.2.2) X0 X1 X2
              replace Y0 := set3_cell (v0 := .bool x.1) (v1 := .slice a1 n1 c1) (v2 := .int .i64 x.2.2) Y0 (r := v44.heap.size) (by first | exact ne1 | exact ne2)
              replace Y1 := set3_cell (v0 := .bool x.1) (v1 := .slice a1 n1 c1) (v2 := .int .i64 x.2.2) Y1 (r := v44.heap.size) (by first | exact ne1 | exact ne2)
              replace Y2 := set3_cell (v0 := .bool x.1) (v1 := .slice a1 n1 c1) (v2 := .int .i64 x.2.2) Y2 (r := v44.heap.size) (by first | exact ne1 | exact ne2)
              replace Y3 := set3_frozen (r := v44.heap.size) (v0 := .bool x.1) (v1 := .slice a1 n1 c1) (v2 := .int .i64 x.2.2) Y3
              replace Y4 := set3_frozen (r := v44.heap.size) (v0 := .bool x.1) (v1 := .slice a1 n1 c1) (v2 := .int .i64 x.2.2) Y4
              replace Y5 := set3_frozen (r := v44.heap.size) (v0 := .bool x.1) (v1 := .slice a1 n1 c1) (v2 := .int .i64 x.2.2) Y5
              obtain ⟨Z0, Z1, Z2⟩ := set3_same (r := v44.heap.size) (v0 := .bool x.1) (v1 := .slice a1 n1 c1) (v2 := .int .i64 x.2.2) X0 X1 X2
              clear X0 X1 X2 X3 X4 X5 bw
              try simp only [Act.put, List.setIfInBounds_toArray, List.set_cons_zero, List.set_cons_succ]
              generalize (((v56.setCell ⟨v44.heap.size, 0, none⟩ (.bool x.1)).setCell ⟨v44.heap.size, 1, none⟩ (.slice a1 n1 c1)).setCell ⟨v44.heap.size, 2, none⟩ (.int .i64 x.2.2)) = v57 at *
              have X0 := Z0
              have X1 := Z1
              have X2 := Z2
              have bw := bS
              clear Z0 Z1 Z2 bS
              refine wpAnyH_ready (rs := [7]) (by kernel_rfl) (by simp) ?_
              refine AllReadyH.cons rfl (fun K hK => ?_) (AllReadyH.nil)
              · go_simp
                have bS : Below w0.heap.size w0 (((v57.setCell ⟨wd.heap.size, 0, none⟩ (.bool y.1)).setCell ⟨wd.heap.size, 1, none⟩ (.slice a2 n2 c2)).setCell ⟨wd.heap.size, 2, none⟩ (.int .i64 y.2.2)) := ((bw.setCell YL _).setCell YL _).setCell YL _
                refine hK.out _ _ bS (fun _ => ?_)
                clear hK K
                replace hP1 := hP1.set_dy _ _ _ _ _ _ (.bool y.1) (.slice a2 n2 c2) (.int .i64 y.2.2) Y0 Y1 Y2
                replace hP2 := hP2.set_dy _ _ _ _ _ _ (.bool y.1) (.slice a2 n2 c2) (.int .i64 y.2.2) Y0 Y1 Y2
                replace X0 := set3_cell (v0 := .bool y.1) (v1 := .slice a2 n2 c2) (v2 := .int .i64 y.2.2) X0 (r := wd.heap.size) (by first | exact ne1 | exact ne2)
                replace X1 := set3_cell (v0 := .bool y.1) (v1 := .slice a2 n2 c2) (v2 := .int .i64 y.2.2) X1 (r := wd.heap.size) (by first | exact ne1 | exact ne2)
                replace X2 := set3_cell (v0 := .bool y.1) (v1 := .slice a2 n2 c2) (v2 := .int .i64 y.2.2) X2 (r := wd.heap.size) (by first | exact ne1 | exact ne2)
                obtain ⟨Z0, Z1, Z2⟩ := set3_same (r := wd.heap.size) (v0 := .bool y.1) (v1 := .slice a2 n2 c2) (v2 := .int .i64 y.2.2) Y0 Y1 Y2
                clear Y0 Y1 Y2 Y3 Y4 Y5 bw
                try simp only [Act.put, List.setIfInBounds_toArray, List.set_cons_zero, List.set_cons_succ]
                generalize (((v57.setCell ⟨wd.heap.size, 0, none⟩ (.bool y.1)).setCell ⟨wd.heap.size, 1, none⟩ (.slice a2 n2 c2)).setCell ⟨wd.heap.size, 2, none⟩ (.int .i64 y.2.2)) = v58 at *
                have Y0 := Z0
                have Y1 := Z1
                have Y2 := Z2
                have bw := bS
                clear Z0 Z1 Z2 bS
                refine wpAnyH_done (by kernel_rfl) ?_ _
                go_wp2_with fail
                go_meet
                case rel => exact ⟨_, _, rfl, rfl, a1, n1, c1, a2, n2, c2, X0, X1, X2, Y0, Y1, Y2, HN1, HN2, hP1, hP2, bw, XL, YL⟩
  case rest =>
    obtain ⟨X, Y, rfl, rfl, a1, n1, c1, a2, n2, c2, X0, X1, X2, Y0, Y1, Y2, HN1, HN2, hP1, hP2, bx, XL, YL⟩ := hcut
    replace f0 := dcarry_frozen bx m0 f0
    replace f1 := dcarry_frozen bx m1 f1
    replace f2 := dcarry_frozen bx m2 f2
    replace m0 := dcarry_cell bx m0
    replace m1 := dcarry_cell bx m1
    replace m2 := dcarry_cell bx m2
    have bwx := nbelow_trans bw0 bx
    have bxs : w0.heap.size ≤ wc.heap.size := bx.size
    have HS0 : Hid (w0.heap.size = w.heap.size + 1 + 1 + 1) := hs0
    have XN : X ≠ w.heap.size + 1 + 1 := by omega
    have YN : Y ≠ w.heap.size + 1 + 1 := by omega
    clear k0 k1 k2 k3 k4 k5 HX HY H1 H2 bw0 bx hs0 XL YL
    have hl1 : n1 ≤ 200000 := by rw [HN1.out]; exact (words_len2 _ _).2 (by omega)
    have hl2 : n2 ≤ 200000 := by rw [HN2.out]; exact (words_len2 _ _).2 (by omega)
    have hew : IntKind.i64.wrap (x.2.2 + y.2.2) = x.2.2 + y.2.2 := by rw [IntKind.wrap_i64]; omega
    have ML : Hid _ := fun w' g g' => nMul_calls a1 a2 n1 c1 n2 c2 (wordsOf x.2.1) (wordsOf y.2.1) w' g g' (by omega) (by omega) (by rw [val_words, val_words]; have := HN1.out; have := HN2.out; omega)
    rw [val_words, val_words] at ML
    have hpw := prod_words x.2.1 y.2.1
    have HF : Hid _ := fun a' c' w' g => qForm_calls (!(x.1 == y.1)) a' (wordsOf (x.2.1 * y.2.1)).length c' (wordsOf (x.2.1 * y.2.1)) (x.2.2 + y.2.2) w' g (by have := HN1.out; have := HN2.out; omega) (by omega)
    have hu : mulD x y = formD (!(x.1 == y.1)) (x.2.1 * y.2.1) (x.2.2 + y.2.2) := rfl
    rw [val_words, ← hu, HP.out] at HF
    have HW : Hid (AllU (wordsOf (x.2.1 * y.2.1))) := words_U _
    generalize x.2.1 * y.2.1 = R at *
    have HHP1 := hP1.1
    have HHP2 := hP2.1
    have bxs' : Hid (w0.heap.size ≤ wc.heap.size) := bxs
    clear HP hxb hyb hxe hye hl1 hl2 hpw hu hP1 hP2 HN1 HN2 bxs
    go_wp2_with fail
    have bw : Below wc.heap.size wc wc.drew := (Below.refl _ _).drew
    refine wp_region_held (S := fun w' => w'.cell? ⟨X, 0, none⟩ = some (.bool x.1) ∧ w'.cell? ⟨X, 1, none⟩ = some (.slice a1 n1 c1) ∧ w'.cell? ⟨X, 2, none⟩ = some (.int .i64 x.2.2) ∧ w'.cell? ⟨Y, 0, none⟩ = some (.bool y.1) ∧ w'.cell? ⟨Y, 1, none⟩ = some (.slice a2 n2 c2) ∧ w'.cell? ⟨Y, 2, none⟩ = some (.int .i64 y.2.2)) (by kernel_rfl) ?_
    change wpAnyH _ _ _ _ _ _ _ _ (World.drew wc)
    replace X0 := dcarry_cell bw X0
    replace X1 := dcarry_cell bw X1
    replace X2 := dcarry_cell bw X2
    replace Y0 := dcarry_cell bw Y0
    replace Y1 := dcarry_cell bw Y1
    replace Y2 := dcarry_cell bw Y2
    replace f0 := dcarry_frozen bw m0 f0
    replace f1 := dcarry_frozen bw m1 f1
    replace f2 := dcarry_frozen bw m2 f2
    replace m0 := dcarry_cell bw m0
    replace m1 := dcarry_cell bw m1
    replace m2 := dcarry_cell bw m2
    replace HHP1 := HHP1.keep bw
    replace HHP2 := HHP2.keep bw
    generalize World.drew wc = wd at *
    refine wpAnyH_take (i := 0) (v := ?vt0) rfl (by kernel_rfl) (by kernel_rfl) (by kernel_rfl) (fun _ _ _ h => h) (Or.inl ⟨by rfl, ?yt0⟩) ⟨X0, X1, X2, Y0, Y1, Y2⟩ ?rt0
    case yt0 => (rintro ww ⟨q0, q1, q2, q3, q4, q5⟩; go_simp; try with_reducible rfl)
    try simp only [Act.put]
    refine wpAnyH_take (i := 1) (v := ?vt1) rfl (by kernel_rfl) (by kernel_rfl) (by kernel_rfl) (fun _ _ _ h => h) (Or.inl ⟨by rfl, ?yt1⟩) ⟨X0, X1, X2, Y0, Y1, Y2⟩ ?rt1
    case yt1 => (rintro ww ⟨q0, q1, q2, q3, q4, q5⟩; go_simp; try with_reducible rfl)
    try simp only [Act.put]
    refine wpAnyH_take (i := 2) (v := ?vt2) rfl (by kernel_rfl) (by kernel_rfl) (by kernel_rfl) (fun _ _ _ h => h) (Or.inl ⟨by rfl, ?yt2⟩) ⟨X0, X1, X2, Y0, Y1, Y2⟩ ?rt2
    case yt2 => (rintro ww ⟨q0, q1, q2, q3, q4, q5⟩; go_simp; try with_reducible rfl)
    try simp only [Act.put]
    refine wpAnyH_take (i := 3) (v := ?vt3) rfl (by kernel_rfl) (by kernel_rfl) (by kernel_rfl) (fun _ _ _ h => h) (Or.inl ⟨by rfl, ?yt3⟩) ⟨X0, X1, X2, Y0, Y1, Y2⟩ ?rt3
    case yt3 => (rintro ww ⟨q0, q1, q2, q3, q4, q5⟩; go_simp; try with_reducible rfl)
    try simp only [Act.put]
    refine wpAnyH_take (i := 4) (v := ?vt4) rfl (by kernel_rfl) (by kernel_rfl) (by kernel_rfl) (fun _ _ _ h => h) (Or.inl ⟨by rfl, ?yt4⟩) ⟨X0, X1, X2, Y0, Y1, Y2⟩ ?rt4
    case yt4 => (rintro ww ⟨q0, q1, q2, q3, q4, q5⟩; go_simp; try with_reducible rfl)
    try simp only [Act.put]
    refine wpAnyH_take (i := 5) (v := ?vt5) rfl (by kernel_rfl) (by kernel_rfl) (by kernel_rfl) (fun _ _ _ h => h) (Or.inl ⟨by rfl, ?yt5⟩) ⟨X0, X1, X2, Y0, Y1, Y2⟩ ?rt5
    case yt5 => (rintro ww ⟨q0, q1, q2, q3, q4, q5⟩; go_simp; try with_reducible rfl)
    try simp only [Act.put]
    refine wpAnyH_take (i := 6) (v := ?vt6) rfl (by kernel_rfl) (by kernel_rfl) (by kernel_rfl) (fun _ _ _ h => h) (Or.inl ⟨by rfl, ?yt6⟩) ⟨X0, X1, X2, Y0, Y1, Y2⟩ ?rt6
    case yt6 => (rintro ww ⟨q0, q1, q2, q3, q4, q5⟩; go_simp; try with_reducible rfl)
    try simp only [Act.put]
    refine wpAnyH_take (i := 7) (v := ?vt7) rfl (by kernel_rfl) (by kernel_rfl) (by kernel_rfl) (fun _ _ _ h => h) (Or.inl ⟨by rfl, ?yt7⟩) ⟨X0, X1, X2, Y0, Y1, Y2⟩ ?rt7
    case yt7 => (rintro ww ⟨q0, q1, q2, q3, q4, q5⟩; go_simp; try with_reducible rfl)
    try simp only [Act.put]
    refine wpAnyH_take (i := 8) (v := ?vt8) rfl (by kernel_rfl) (by kernel_rfl) (by kernel_rfl) (fun _ _ _ h => h) (Or.inl ⟨by rfl, ?yt8⟩) ⟨X0, X1, X2, Y0, Y1, Y2⟩ ?rt8
    case yt8 => (rintro ww ⟨q0, q1, q2, q3, q4, q5⟩; go_simp; try with_reducible rfl)
    try simp only [Act.put]
    refine wpAnyH_take (i := 10) (v := ?vt10) rfl (by kernel_rfl) (by kernel_rfl) (by kernel_rfl) (fun _ _ _ h => h) (Or.inl ⟨by rfl, ?yt10⟩) ⟨X0, X1, X2, Y0, Y1, Y2⟩ ?rt10
    case yt10 => (rintro ww ⟨q0, q1, q2, q3, q4, q5⟩; go_simp; try with_reducible rfl)
    try simp only [Act.put]
    refine wpAnyH_take (i := 11) (v := ?vt11) rfl (by kernel_rfl) (by kernel_rfl) (by kernel_rfl) (fun _ _ _ h => h) (Or.inl ⟨by rfl, ?yt11⟩) ⟨X0, X1, X2, Y0, Y1, Y2⟩ ?rt11
    case yt11 => (rintro ww ⟨q0, q1, q2, q3, q4, q5⟩; go_simp; try with_reducible rfl)
    try simp only [Act.put]
    refine wpAnyH_take (i := 12) (v := ?vt12) rfl (by kernel_rfl) (by kernel_rfl) (by kernel_rfl) (fun _ _ _ h => h) (Or.inl ⟨by rfl, ?yt12⟩) ⟨X0, X1, X2, Y0, Y1, Y2⟩ ?rt12
    case yt12 => (rintro ww ⟨q0, q1, q2, q3, q4, q5⟩; go_simp; try with_reducible rfl)
    try simp only [Act.put]
    refine wpAnyH_take (i := 13) (v := ?vt13) rfl (by kernel_rfl) (by kernel_rfl) (by kernel_rfl) (fun _ _ _ h => h) (Or.inl ⟨by rfl, ?yt13⟩) ⟨X0, X1, X2, Y0, Y1, Y2⟩ ?rt13
    case yt13 => (rintro ww ⟨q0, q1, q2, q3, q4, q5⟩; go_simp; try with_reducible rfl)
    try simp only [Act.put]
    refine wpAnyH_take (i := 14) (v := ?vt14) rfl (by kernel_rfl) (by kernel_rfl) (by kernel_rfl) (fun _ _ _ h => h) (Or.inl ⟨by rfl, ?yt14⟩) ⟨X0, X1, X2, Y0, Y1, Y2⟩ ?rt14
    case yt14 => (rintro ww ⟨q0, q1, q2, q3, q4, q5⟩; go_simp; try with_reducible rfl)
    try simp only [Act.put]
    refine wpAnyH_ready (rs := [9]) (by kernel_rfl) (by simp) ?_
    refine AllReadyH.cons rfl (fun K hK => ?_) AllReadyH.nil
    go_simp
    refine Calls.mono (ML.out _ HHP1 HHP2) ?_
    rintro r w6 ⟨a6, c6, rfl, hO6, b6⟩
    replace X0 := dcarry_cell b6 X0
    replace X1 := dcarry_cell b6 X1
    replace X2 := dcarry_cell b6 X2
    replace Y0 := dcarry_cell b6 Y0
    replace Y1 := dcarry_cell b6 Y1
    replace Y2 := dcarry_cell b6 Y2
    replace f0 := dcarry_frozen b6 m0 f0
    replace f1 := dcarry_frozen b6 m1 f1
    replace f2 := dcarry_frozen b6 m2 f2
    replace m0 := dcarry_cell b6 m0
    replace m1 := dcarry_cell b6 m1
    replace m2 := dcarry_cell b6 m2
    refine hK.out _ _ ⟨X0, X1, X2, Y0, Y1, Y2⟩ (fun _ => ?_)
    clear hK K
    replace bw := nbelow_trans bw b6
    have hI6 := hO6.isW HW.out
    clear b6 hO6
    try simp only [Act.put, List.setIfInBounds_toArray, List.set_cons_zero, List.set_cons_succ]
    refine wpAnyH_ready (rs := [15]) (by kernel_rfl) (by simp) ?_
    refine AllReadyH.cons rfl (fun K hK => ?_) AllReadyH.nil
    go_simp
    refine Calls.mono (HF.out _ _ _ hI6) ?_
    rintro r w9 ⟨_, rfl, ⟨a9, n9, c9, rfl, HN9, hO9⟩, b9⟩
    replace X0 := dcarry_cell b9 X0
    replace X1 := dcarry_cell b9 X1
    replace X2 := dcarry_cell b9 X2
    replace Y0 := dcarry_cell b9 Y0
    replace Y1 := dcarry_cell b9 Y1
    replace Y2 := dcarry_cell b9 Y2
    replace f0 := dcarry_frozen b9 m0 f0
    replace f1 := dcarry_frozen b9 m1 f1
    replace f2 := dcarry_frozen b9 m2 f2
    replace m0 := dcarry_cell b9 m0
    replace m1 := dcarry_cell b9 m1
    replace m2 := dcarry_cell b9 m2
    refine hK.out _ _ ⟨X0, X1, X2, Y0, Y1, Y2⟩ (fun _ => ?_)
    clear hK K
    have hO9' := hO9.low (Nat.le_trans bxs'.out bw.size)
    replace bw := nbelow_trans bw b9
    replace bwx := nbelow_trans bwx bw
    clear b9 hO9 hI6
    try simp only [Act.put, List.setIfInBounds_toArray, List.set_cons_zero, List.set_cons_succ]
    refine wpAnyH_ready (rs := [16]) (by kernel_rfl) (by simp) ?_
    refine AllReadyH.cons rfl (fun K hK => ?_) AllReadyH.nil
    go_simp
    refine hK.out _ _ ⟨set3_cell X0 XN, set3_cell X1 XN, set3_cell X2 XN, set3_cell Y0 YN, set3_cell Y1 YN, set3_cell Y2 YN⟩ (fun _ => ?_)
    clear hK K
    try simp only [Act.put, List.setIfInBounds_toArray, List.set_cons_zero, List.set_cons_succ]
    refine wpAnyH_done (by kernel_rfl) ?_ _
    go_wp2_with fail
    refine bodyPost_ret (v := dyV p.1 a9 n9 c9 p.2.2) (by simp [results, Tryz.results54, go_sem, m0, m1, m2]) rfl ⟨_, rfl, ⟨a9, n9, c9, rfl, HN9, ((((hO9').far _ _ (by show w.heap.size + 1 + 1 < _; rw [HS0.out]; omega)).far _ _ (by show w.heap.size + 1 + 1 < _; rw [HS0.out]; omega)).far _ _ (by show w.heap.size + 1 + 1 < _; rw [HS0.out]; omega)).low (by rw [HS0.out]; omega)⟩, ((bwx.setCell (by show w.heap.size ≤ w.heap.size + 1 + 1; omega) _).setCell (by show w.heap.size ≤ w.heap.size + 1 + 1; omega) _).setCell (by show w.heap.size ≤ w.heap.size + 1 + 1; omega) _⟩

end Go.Proofs.YtkkldnnndlpblaaGreatDoor

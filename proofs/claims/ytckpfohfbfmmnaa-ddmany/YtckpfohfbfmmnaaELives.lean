/- The first question of eft's statements, and the statement EftSteps. -/
import Derived.Test.YtckpfohfbfmmnaaEMod
import Derived.Test.YtckpfohfbfmmnaaEList2
namespace Go.Proofs.Ytckpfohfbfmmnaa
open Go.RowKit EP

theorem isF_three (w : World) (x y z : Nat) (t : TypeId) : IsF (w.alloc (.cells #[.float .f64 x, .float .f64 y, .float .f64 z] t)) (some ⟨w.heap.size, 0, none⟩) 3 3 [x, y, z] := by
  refine ⟨rfl, ⟨Nat.le_refl _, fun e => by cases e⟩, fun i hi => ?_⟩
  refine ⟨w.heap.size, 0, rfl, by simp, ?_⟩
  match i, hi with
  | 0, _ => first | (simp; done) | (simp [World.cell?]; done) | (go_simp; done) | rfl
  | 1, _ => first | (simp; done) | (simp [World.cell?]; done) | (go_simp; done) | rfl
  | 2, _ => first | (simp; done) | (simp [World.cell?]; done) | (go_simp; done) | rfl
theorem live_sum : twoSumO 4845873199050653696 4607182418800017408 = some (4845873199050653696, 4607182418800017408) := by decide +kernel
theorem live_prod : twoProdO 4728779608772575232 4728779608772575232 = some (4850376798745133056, 4607182418800017408) := by decide +kernel
theorem live_list : growB [] [4607182418800017408, 4877398396442247168, 14100770433297022976] = some [4607182418800017408] := by decide +kernel
theorem live_sign : sgnF (lastF [4607182418800017408]) = 1 := by decide +kernel

set_option maxRecDepth 100000 in
set_option maxHeartbeats 2000000 in
theorem eLives_calls (w : World) :
    Calls Try.prog 13 #[] w fun e w' => e = .returned (.bool true) ∧ Below w.heap.size w w' := by
  have o1 : (FloatKind.f64.format.order 4845873199050653696 4845873199050653696 == some .eq) = true := by decide +kernel
  have o2 : (FloatKind.f64.format.order 4607182418800017408 4607182418800017408 == some .eq) = true := by decide +kernel
  have o3 : (FloatKind.f64.format.order 4850376798745133056 4850376798745133056 == some .eq) = true := by decide +kernel
  go_enter Try.func13, Try.ntmps13
  go_wp2_with fail
  refine Calls.mono (twoSum_calls _ _ w) ?_
  rintro e w1 ⟨s, t, rfl, d1, H1⟩
  obtain ⟨rfl, rfl⟩ := H1 _ live_sum
  have b1 : Below w.heap.size w w1 := d1.below _
  clear H1 d1
  go_wp2_with fail
  refine Calls.mono (twoProd_calls _ _ w1) ?_
  rintro e w2 ⟨s, t, rfl, d2, H2⟩
  obtain ⟨rfl, rfl⟩ := H2 _ live_prod
  have b2 : Below w.heap.size w w2 := b1.trans (d2.below _)
  clear H2 d2 b1
  go_wp2_with fail
  refine Calls.mono (sum_calls _ 3 3 [4607182418800017408, 4877398396442247168, 14100770433297022976] _ (isF_three w2 _ _ _ _) (by omega)) ?_
  rintro e w3 ⟨a3, c3, R, rfl, hO3, hl3, hb3, H3⟩
  obtain rfl := H3 _ live_list
  have b3 : Below w.heap.size w w3 := ebelow_trans b2 (ebelow_trans (below_alloc1 _ _) hb3)
  clear H3 b2 hb3
  obtain ⟨bb, off, rfl, hbl, hc⟩ := hO3.isF.2.2 0 (by decide)
  have hcap := hO3.isF.2.1.1
  have hc' : w3.cell? ⟨bb, off, none⟩ = some (.float .f64 4607182418800017408) := hc
  have hcap' : 1 ≤ c3 := hcap
  have HF := hO3.isF
  have hlen : ([4607182418800017408] : List Nat).length = 1 := rfl
  rw [hlen] at HF ⊢
  clear hc hcap hO3 hl3
  go_wp2_with fail
  refine Calls.mono (sign_calls _ 1 c3 _ w3 HF (by omega)) ?_
  rintro e w3 ⟨rfl, rfl⟩
  rw [live_sign]
  go_wp2_with fail
  go_ret
  exact ⟨rfl, b3⟩

set_option maxRecDepth 100000 in
set_option maxHeartbeats 4000000 in
theorem eftSteps_walk (a b : Nat) (w : World) :
    Calls Try.prog 3 #[.float .f64 a, .float .f64 b] w fun e w' => e = .returned (.bool true) ∧ Below w.heap.size w w' := by
  go_enter Try.func3, Try.ntmps3
  go_wp2_with fail
  refine Calls.mono (twoSum_calls a b w) ?_
  rintro e w1 ⟨s, t, rfl, d1, H1⟩
  have b1 : Below w.heap.size w w1 := d1.below _
  have H1' : Hid (∀ p, twoSumO a b = some p → s = p.1 ∧ t = p.2) := H1
  clear H1 d1
  go_wp2_with fail
  refine Calls.mono (fast_calls a b w1) ?_
  rintro e w2 ⟨u, v, rfl, d2, H2⟩
  have b2 : Below w.heap.size w w2 := b1.trans (d2.below _)
  have H2' : Hid (∀ p, fastO a b = some p → u = p.1 ∧ v = p.2) := H2
  clear H2 d2 b1
  go_wp2_with fail
  refine Calls.mono (split_calls a w2) ?_
  rintro e w3 ⟨h, l, rfl, d3, H3⟩
  have b3 : Below w.heap.size w w3 := b2.trans (d3.below _)
  have H3' : Hid (∀ p, splitO a = some p → h = p.1 ∧ l = p.2) := H3
  clear H3 d3 b2
  go_wp2_with fail
  refine Calls.mono (twoProd_calls a b w3) ?_
  rintro e w4 ⟨p, q, rfl, d4, H4⟩
  have b4 : Below w.heap.size w w4 := b3.trans (d4.below _)
  have H4' : Hid (∀ z, twoProdO a b = some z → p = z.1 ∧ q = z.2) := H4
  clear H4 d4 b3
  go_wp2_with fail
  refine Calls.mono (eLives_calls w4) ?_
  rintro e w5 ⟨rfl, hb5⟩
  have b5 := ebelow_trans b4 hb5
  clear hb5 b4
  go_wp2_with fail
  refine Calls.mono (moderate_calls a w5) ?_
  rintro e w6 ⟨t1, rfl, d6, M1⟩
  have b6 : Below w.heap.size w w6 := b5.trans (d6.below _)
  have M1' : Hid (t1 = true → bd a 1475) := M1
  clear M1 d6 b5
  cases t1 with
  | false =>
    go_wp2_with fail
    go_ret
    exact ⟨rfl, b6⟩
  | true =>
  go_wp2_with fail
  refine Calls.mono (moderate_calls b w6) ?_
  rintro e w7 ⟨t2, rfl, d7, M2⟩
  have b7 : Below w.heap.size w w7 := b6.trans (d7.below _)
  have M2' : Hid (t2 = true → bd b 1475) := M2
  clear M2 d7 b6
  cases t2 with
  | false =>
    go_wp2_with fail
    go_ret
    exact ⟨rfl, b7⟩
  | true =>
  have A := M1'.out (by first | rfl | trivial)
  have B := M2'.out (by first | rfl | trivial)
  obtain ⟨s', t', e1, x1, x2⟩ := twoSum_bd A B (by decide)
  obtain ⟨u', v', e2, x3, x4⟩ := fast_bd A B (by decide)
  obtain ⟨h', l', e3, x5, x6⟩ := split_bd A (by decide)
  obtain ⟨p', q', e4, x7, x8⟩ := twoProd_bd (k := 1876) A B (by decide) (by decide)
  obtain ⟨rfl, rfl⟩ := H1'.out _ e1
  obtain ⟨rfl, rfl⟩ := H2'.out _ e2
  obtain ⟨rfl, rfl⟩ := H3'.out _ e3
  obtain ⟨rfl, rfl⟩ := H4'.out _ e4
  have o1 : (FloatKind.f64.format.order s s == some .eq) = true := beq_iff_eq.2 (order_refl s x1.1)
  have o2 : (FloatKind.f64.format.order t t == some .eq) = true := beq_iff_eq.2 (order_refl t x2.1)
  have o3 : (FloatKind.f64.format.order u u == some .eq) = true := beq_iff_eq.2 (order_refl u x3.1)
  have o4 : (FloatKind.f64.format.order v v == some .eq) = true := beq_iff_eq.2 (order_refl v x4.1)
  have o5 : (FloatKind.f64.format.order h h == some .eq) = true := beq_iff_eq.2 (order_refl h x5.1)
  have o6 : (FloatKind.f64.format.order l l == some .eq) = true := beq_iff_eq.2 (order_refl l x6.1)
  have o7 : (FloatKind.f64.format.order p p == some .eq) = true := beq_iff_eq.2 (order_refl p x7.1)
  have o8 : (FloatKind.f64.format.order q q == some .eq) = true := beq_iff_eq.2 (order_refl q x8.1)
  have E1 : Hid (twoSumO a b = some (s, t)) := e1
  have E2 : Hid (fastO a b = some (u, v)) := e2
  have E3 : Hid (splitO a = some (h, l)) := e3
  have E4 : Hid (twoProdO a b = some (p, q)) := e4
  clear A B H1' H2' H3' H4' M1' M2' x1 x2 x3 x4 x5 x6 x7 x8 e1 e2 e3 e4
  go_wp2_with fail
  refine Calls.mono (rTwoSum_calls a b w7) ?_
  rintro e w8 ⟨s8, t8, rfl, d8, H8⟩
  obtain ⟨rfl, rfl⟩ := H8 _ E1.out
  have b8 : Below w.heap.size w w8 := b7.trans (d8.below _)
  clear H8 d8 b7 E1
  go_wp2_with fail
  refine Calls.mono (rFast_calls a b w8) ?_
  rintro e w9 ⟨s9, t9, rfl, d9, H9⟩
  obtain ⟨rfl, rfl⟩ := H9 _ E2.out
  have b9 : Below w.heap.size w w9 := b8.trans (d9.below _)
  clear H9 d9 b8 E2
  go_wp2_with fail
  refine Calls.mono (rSplit_calls a w9) ?_
  rintro e w10 ⟨s10, t10, rfl, d10, H10⟩
  obtain ⟨rfl, rfl⟩ := H10 _ E3.out
  have b10 : Below w.heap.size w w10 := b9.trans (d10.below _)
  clear H10 d10 b9 E3
  go_wp2_with fail
  refine Calls.mono (rTwoProd_calls a b w10) ?_
  rintro e w11 ⟨s11, t11, rfl, d11, H11⟩
  obtain ⟨rfl, rfl⟩ := H11 _ E4.out
  have b11 : Below w.heap.size w w11 := b10.trans (d11.below _)
  clear H11 d11 b10 E4
  go_wp2_with fail
  go_ret
  exact ⟨rfl, b11⟩
end Go.Proofs.Ytckpfohfbfmmnaa

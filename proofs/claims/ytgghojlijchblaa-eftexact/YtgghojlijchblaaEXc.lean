/- The statement EftExact. -/
import Derived.Test.YtgghojlijchblaaEXb
import Derived.Deep.RegionHeld3
import Derived.Deep.CutRange
namespace Go.Proofs.Ytgghojlijchblaa
open Go.RowKit

theorem abs_le (a b : Nat) (fa : EP.finB a = true) (fb : EP.finB b = true) (h : (Ieee.double.order (Fp.absF b) (Fp.absF a) == some .lt || Ieee.double.order (Fp.absF b) (Fp.absF a) == some .eq) = true) : (EP.V b).natAbs ≤ (EP.V a).natAbs := by
  obtain ⟨v1, f1⟩ := Fp.absF_V a
  obtain ⟨v2, f2⟩ := Fp.absF_V b
  have h1 : EP.V (Fp.absF b) ≤ EP.V (Fp.absF a) := by
    simp only [Bool.or_eq_true, beq_iff_eq] at h
    rcases h with h | h
    · exact Int.le_of_lt (Fp.order_lt_V _ _ (f2.trans fb) (f1.trans fa) h)
    · rw [Fp.order_eq_V _ _ (f2.trans fb) (f1.trans fa) h]; exact Int.le_refl _
  rw [v1, v2] at h1
  unfold Fp.amt at h1
  omega

set_option maxRecDepth 100000 in
set_option maxHeartbeats 16000000 in
theorem eftExact_walk (a b : Nat) (w : World) (ha : a < 18446744073709551616) (hb : b < 18446744073709551616) :
    Calls Try.prog 3 #[.float .f64 a, .float .f64 b] w fun e w' => e = .returned (.bool true) ∧ Below w.heap.size w w' := by
  have Ha : Hid (a < 18446744073709551616) := ha
  have Hb : Hid (b < 18446744073709551616) := hb
  clear ha hb
  go_enter Try.func3, Try.ntmps3
  go_wp2_with fail
  refine Calls.mono (Fp.eLives_calls _) ?_
  rintro e w5 ⟨rfl, b5⟩
  go_wp2_with fail
  refine Calls.mono (Fp.moderate2_calls a w5) ?_
  rintro e w6 ⟨t1, rfl, d6, M1⟩
  have b6 : Below w.heap.size w w6 := b5.trans (d6.below _)
  have M1' : Hid (t1 = true → EP.bd a 1475 ∧ ∃ A i, Fp.Nm a A i) := M1
  clear M1 d6 b5
  cases t1 with
  | false =>
    go_wp2_with fail
    go_ret
    exact ⟨rfl, b6⟩
  | true =>
  go_wp2_with fail
  refine Calls.mono (Fp.moderate2_calls b w6) ?_
  rintro e w7 ⟨t2, rfl, d7, M2⟩
  have b7 : Below w.heap.size w w7 := b6.trans (d7.below _)
  have M2' : Hid (t2 = true → EP.bd b 1475 ∧ ∃ A i, Fp.Nm b A i) := M2
  clear M2 d7 b6
  cases t2 with
  | false =>
    go_wp2_with fail
    go_ret
    exact ⟨rfl, b7⟩
  | true =>
  obtain ⟨A1, A2, i, A3⟩ := M1'.out (by first | rfl | trivial)
  obtain ⟨B1, B2, j, B3⟩ := M2'.out (by first | rfl | trivial)
  obtain ⟨s, t, u, v, h, l, p, e, e1, e2, e3, e4, ⟨ls, lt, lu, lv, lh, ll, lp, le⟩, ⟨fs, ft, fu, fv, fh, fl, fp, fe⟩, q1, q2, q3, ⟨H, L, k, q4, q5, q6, q7⟩, q8⟩ := Fp.exact_all a b i j A2 B2 A1 B1 A3 B3
  have E1 : Hid (Fp.twoSumO a b = some (s, t)) := e1
  have E2 : Hid (Fp.fastO a b = some (u, v)) := e2
  have E3 : Hid (Fp.splitO a = some (h, l)) := e3
  have E4 : Hid (Fp.twoProdO a b = some (p, e)) := e4
  have fa := A1.1
  have fb := B1.1
  have S1 : Hid (exQ s t = exQ a b) := exQ_eq s t a b ls lt Ha.out Hb.out fs ft fa fb q1
  have S2 : Hid ((EP.V b).natAbs ≤ (EP.V a).natAbs ∨ EP.V a = 0 → exQ u v = exQ a b) := fun c => exQ_eq u v a b lu lv Ha.out Hb.out fu fv fa fb (q2 c)
  have S3 : Hid (exQ h l = fromP (a : Int)) := exQ_one h l a lh ll Ha.out fh fl fa q3
  have S4 : Hid (((blen (fromP (h : Int)).2.1 : Int) - (tz (fromP (h : Int)).2.1 : Int)) ≤ 26) := half_bits h H k lh fh q4 q6
  have S5 : Hid (((blen (fromP (l : Int)).2.1 : Int) - (tz (fromP (l : Int)).2.1 : Int)) ≤ 26) := half_bits l L i ll fl q5 q7
  have S6 : Hid (exQ p e = mulD (fromP (a : Int)) (fromP (b : Int))) := exQ_mul p e a b lp le Ha.out Hb.out fp fe fa fb q8
  have P0 : Hid _ := fun w => plus_calls a b w Ha.out Hb.out
  have P1 : Hid _ := fun w => plus_calls s t w ls lt
  have P2 : Hid _ := fun w => plus_calls u v w lu lv
  have P3 : Hid _ := fun w => plus_calls h l w lh ll
  have P4 : Hid _ := fun w => plus_calls p e w lp le
  have Na : Hid _ := fun w => number_calls a w Ha.out
  have Nb : Hid _ := fun w => number_calls b w Hb.out
  have Nh : Hid _ := fun w => number_calls h w lh
  have Nl : Hid _ := fun w => number_calls l w ll
  rw [S1.out] at P1
  rw [S3.out] at P3
  obtain ⟨T1, hT1⟩ : ∃ T : Int, Hid (((blen (fromP (h : Int)).2.1 : Int) - (tz (fromP (h : Int)).2.1 : Int)) = T) := ⟨_, rfl⟩
  obtain ⟨T2, hT2⟩ : ∃ T : Int, Hid (((blen (fromP (l : Int)).2.1 : Int) - (tz (fromP (l : Int)).2.1 : Int)) = T) := ⟨_, rfl⟩
  rw [hT1.out] at S4
  rw [hT2.out] at S5
  have g1 : ¬ (26 < T1) := by have := S4.out; omega
  have g2 : ¬ (26 < T2) := by have := S5.out; omega
  have LX : Hid ((wordsOf (exQ a b).2.1).length ≤ 1024) := (exQ_len a b).1
  have LA : Hid ((wordsOf (fromP (a : Int)).2.1).length ≤ 1024) := fr_len _
  have LB : Hid ((wordsOf (fromP (b : Int)).2.1).length ≤ 1024) := fr_len _
  have LP : Hid ((wordsOf (exQ p e).2.1).length ≤ 1024 ∧ blen (exQ p e).2.1 ≤ 65536 ∧ -32768 ≤ (exQ p e).2.2 ∧ (exQ p e).2.2 ≤ 32768) := exQ_len p e
  have HT : Hid _ := fun a' n c b' m d W hn hm i j => qtimes_two a b a' b' n c m d W hn hm i j
  rw [← S6.out] at HT
  have AB : Hid _ := fun w => Fp.mAbs_calls b w Hb.out
  have AA : Hid _ := fun w => Fp.mAbs_calls a w Ha.out
  have Fa : Hid (EP.finB a = true ∧ EP.finB b = true) := ⟨fa, fb⟩
  clear e1 e2 e3 e4 A1 A3 B1 B3 M1' M2' q1 q2 q3 q4 q5 q6 q7 q8 ls lt lu lv lh ll lp le fs ft fu fv fh fl fp fe fa fb
  clear S1 S3 S4 S5 S6
  generalize exQ a b = X at *
  generalize fromP (a : Int) = A at *
  generalize fromP (b : Int) = B at *
  generalize exQ p e = Y at *
  go_wp2_with fail
  refine Calls.mono (Fp.twoSum_calls a b w7) ?_
  rintro _ w8 ⟨s1, t1, rfl, d8, H8⟩
  obtain ⟨rfl, rfl⟩ := H8 _ E1.out
  have b8 : Below w.heap.size w w8 := b7.trans (d8.below _)
  clear H8 d8 b7 E1
  go_wp2_with fail
  refine Calls.mono (Fp.fast_calls a b w8) ?_
  rintro _ w9 ⟨u1, v1, rfl, d8, H8⟩
  obtain ⟨rfl, rfl⟩ := H8 _ E2.out
  have b9 : Below w.heap.size w w9 := b8.trans (d8.below _)
  clear H8 d8 b8 E2
  go_wp2_with fail
  refine Calls.mono (Fp.split_calls a w9) ?_
  rintro _ w10 ⟨h1, l1, rfl, d8, H8⟩
  obtain ⟨rfl, rfl⟩ := H8 _ E3.out
  have b10 : Below w.heap.size w w10 := b9.trans (d8.below _)
  clear H8 d8 b9 E3
  go_wp2_with fail
  refine Calls.mono (Fp.twoProd_calls a b w10) ?_
  rintro _ w11 ⟨p1, e1, rfl, d8, H8⟩
  obtain ⟨rfl, rfl⟩ := H8 _ E4.out
  have b11 : Below w.heap.size w w11 := b10.trans (d8.below _)
  clear H8 d8 b10 E4
  go_wp2_with fail
  refine Calls.mono (P0.out _) ?_
  rintro _ w12 ⟨_, rfl, ⟨aS, nS, cS, rfl, HN, hO⟩, bN⟩
  have b12 := nbelow_trans b11 bN
  have hnS : Hid (nS ≤ 1024) := by rw [HN.out]; exact LX.out
  have bA := below_one w12 (.cells #[.bool X.1, .slice aS nS cS, .int .i64 X.2.2] 31)
  have b13 := nbelow_trans b12 bA
  have IS : Hid (IsW (w12.alloc (.cells #[.bool X.1, .slice aS nS cS, .int .i64 X.2.2] 31)) aS nS cS (wordsOf X.2.1)) := IsW.keep hO.1 bA
  clear bA bN b12 b11 HN hO
  have k0 : (w12.alloc (.cells #[.bool X.1, .slice aS nS cS, .int .i64 X.2.2] 31)).cell? ⟨w12.heap.size, 0, none⟩ = some (.bool X.1) := by go_simp
  have k1 : (w12.alloc (.cells #[.bool X.1, .slice aS nS cS, .int .i64 X.2.2] 31)).cell? ⟨w12.heap.size, 1, none⟩ = some (.slice aS nS cS) := by go_simp
  have k2 : (w12.alloc (.cells #[.bool X.1, .slice aS nS cS, .int .i64 X.2.2] 31)).cell? ⟨w12.heap.size, 2, none⟩ = some (.int .i64 X.2.2) := by go_simp
  go_upto_region 1 with fail
  generalize (w12.alloc (.cells #[.bool X.1, .slice aS nS cS, .int .i64 X.2.2] 31)) = w13 at *
  generalize w12.heap.size = z at *
  have R : Below w13.heap.size w13 (World.drew w13) := (Below.refl _ _).drew
  refine wp_region_held (S := fun w' => Below w13.heap.size w13 w') (by kernel_rfl) ?_
  change wpAnyH _ _ _ _ _ _ _ _ (World.drew w13)
  generalize World.drew w13 = wd at R ⊢
  refine wpAnyH_take (i := 0) (v := .float .f64 s1) rfl (by kernel_rfl) (by kernel_rfl) (by kernel_rfl) (fun _ _ _ h => h) (Or.inl ⟨by rfl, ?y1⟩) R ?r1
  case y1 => (intro ww hS; clear hS; go_simp; try with_reducible rfl)
  try simp only [Act.put]
  refine wpAnyH_take (i := 1) (v := .float .f64 t1) rfl (by kernel_rfl) (by kernel_rfl) (by kernel_rfl) (fun _ _ _ h => h) (Or.inl ⟨by rfl, ?y2⟩) R ?r2
  case y2 => (intro ww hS; clear hS; go_simp; try with_reducible rfl)
  try simp only [Act.put]
  refine wpAnyH_take (i := 3) (v := .agg #[.bool X.1, .slice aS nS cS, .int .i64 X.2.2]) rfl (by kernel_rfl) (by kernel_rfl) (by kernel_rfl) (fun _ _ _ h => h) (Or.inl ⟨by rfl, ?y3⟩) R ?r3
  case y3 => (intro ww hS; have qk0 := dcarry_cell hS k0; have qk1 := dcarry_cell hS k1; have qk2 := dcarry_cell hS k2; clear hS; go_simp; try with_reducible rfl)
  try simp only [Act.put]
  refine wpAnyH_ready (rs := [2]) (by kernel_rfl) (by simp) ?_
  refine AllReadyH.cons rfl (fun K hK => ?_) AllReadyH.nil
  go_simp
  refine Calls.mono (P1.out _) ?_
  rintro r wa ⟨_, rfl, ⟨a1, n1, c1, rfl, HN1, hO1⟩, bN⟩
  replace R := nbelow_trans R bN
  have I1 : Hid (IsW wa a1 n1 c1 (wordsOf X.2.1)) := hO1.1
  have hn1 : Hid (n1 ≤ 1024) := by rw [HN1.out]; exact LX.out
  clear hO1 HN1
  clear bN
  refine hK.out _ _ R (fun _ => ?_)
  clear hK K
  try simp only [Act.put, List.setIfInBounds_toArray, List.set_cons_zero, List.set_cons_succ]
  refine wpAnyH_ready (rs := [4]) (by kernel_rfl) (by simp) ?_
  refine AllReadyH.cons rfl (fun K hK => ?_) AllReadyH.nil
  go_simp
  refine Calls.mono (sameQ X _ _ _ _ _ _ _ I1.out (by have := hn1.out; omega) (IsW.keep IS.out R) (by have := hnS.out; omega)) ?_
  rintro r wb1 ⟨rfl, bN⟩
  replace R := nbelow_trans R bN
  clear I1 hn1
  clear bN
  refine hK.out _ _ R (fun _ => ?_)
  clear hK K
  try simp only [Act.put, List.setIfInBounds_toArray, List.set_cons_zero, List.set_cons_succ]
  refine wpAnyH_take (i := 5) (v := .bool false) rfl (by kernel_rfl) (by kernel_rfl) (by kernel_rfl) (fun _ _ _ h => h) (Or.inl ⟨by rfl, ?y4⟩) R ?r4
  case y4 => (intro ww hS; clear hS; go_simp; try with_reducible rfl)
  try simp only [Act.put]
  refine wpAnyH_take (i := 6) (v := .bool false) rfl (by kernel_rfl) (by kernel_rfl) (by kernel_rfl) (fun _ _ _ h => h) (Or.inl ⟨by rfl, ?y5⟩) R ?r5
  case y5 => (intro ww hS; clear hS; go_simp; try with_reducible rfl)
  try simp only [Act.put]
  refine wpAnyH_take (i := 7) (v := .float .f64 h1) rfl (by kernel_rfl) (by kernel_rfl) (by kernel_rfl) (fun _ _ _ h => h) (Or.inl ⟨by rfl, ?y6⟩) R ?r6
  case y6 => (intro ww hS; clear hS; go_simp; try with_reducible rfl)
  try simp only [Act.put]
  refine wpAnyH_take (i := 8) (v := .float .f64 l1) rfl (by kernel_rfl) (by kernel_rfl) (by kernel_rfl) (fun _ _ _ h => h) (Or.inl ⟨by rfl, ?y7⟩) R ?r7
  case y7 => (intro ww hS; clear hS; go_simp; try with_reducible rfl)
  try simp only [Act.put]
  refine wpAnyH_take (i := 10) (v := .float .f64 a) rfl (by kernel_rfl) (by kernel_rfl) (by kernel_rfl) (fun _ _ _ h => h) (Or.inl ⟨by rfl, ?y8⟩) R ?r8
  case y8 => (intro ww hS; clear hS; go_simp; try with_reducible rfl)
  try simp only [Act.put]
  refine wpAnyH_ready (rs := [9]) (by kernel_rfl) (by simp) ?_
  refine AllReadyH.cons rfl (fun K hK => ?_) AllReadyH.nil
  go_simp
  refine Calls.mono (P3.out _) ?_
  rintro r wc1 ⟨_, rfl, ⟨a1, n1, c1, rfl, HN1, hO1⟩, bN⟩
  replace R := nbelow_trans R bN
  have I1 : Hid (IsW wc1 a1 n1 c1 (wordsOf A.2.1)) := hO1.1
  have hn1 : Hid (n1 ≤ 1024) := by rw [HN1.out]; exact LA.out
  clear hO1 HN1
  clear bN
  refine hK.out _ _ R (fun _ => ?_)
  clear hK K
  try simp only [Act.put, List.setIfInBounds_toArray, List.set_cons_zero, List.set_cons_succ]
  refine wpAnyH_ready (rs := [11]) (by kernel_rfl) (by simp) ?_
  refine AllReadyH.cons rfl (fun K hK => ?_) AllReadyH.nil
  go_simp
  refine Calls.mono (Na.out _) ?_
  rintro r wd1 ⟨_, rfl, ⟨a2, n2, c2, rfl, HN1, hO1⟩, bN⟩
  replace R := nbelow_trans R bN
  have I2 : Hid (IsW wd1 a2 n2 c2 (wordsOf A.2.1)) := hO1.1
  have hn2 : Hid (n2 ≤ 1024) := by rw [HN1.out]; exact LA.out
  replace I1 : Hid (IsW wd1 a1 n1 c1 (wordsOf A.2.1)) := IsW.keep I1.out bN
  clear hO1 HN1
  clear bN
  refine hK.out _ _ R (fun _ => ?_)
  clear hK K
  try simp only [Act.put, List.setIfInBounds_toArray, List.set_cons_zero, List.set_cons_succ]
  refine wpAnyH_ready (rs := [12]) (by kernel_rfl) (by simp) ?_
  refine AllReadyH.cons rfl (fun K hK => ?_) AllReadyH.nil
  go_simp
  refine Calls.mono (sameQ A _ _ _ _ _ _ _ I1.out (by have := hn1.out; omega) I2.out (by have := hn2.out; omega)) ?_
  rintro r we1 ⟨rfl, bN⟩
  replace R := nbelow_trans R bN
  clear I1 I2 hn1 hn2
  clear bN
  refine hK.out _ _ R (fun _ => ?_)
  clear hK K
  try simp only [Act.put, List.setIfInBounds_toArray, List.set_cons_zero, List.set_cons_succ]
  refine wpAnyH_take (i := 13) (v := .bool false) rfl (by kernel_rfl) (by kernel_rfl) (by kernel_rfl) (fun _ _ _ h => h) (Or.inl ⟨by rfl, ?y9⟩) R ?r9
  case y9 => (intro ww hS; clear hS; go_simp; try with_reducible rfl)
  try simp only [Act.put]
  refine wpAnyH_take (i := 14) (v := .bool false) rfl (by kernel_rfl) (by kernel_rfl) (by kernel_rfl) (fun _ _ _ h => h) (Or.inl ⟨by rfl, ?y10⟩) R ?r10
  case y10 => (intro ww hS; clear hS; go_simp; try with_reducible rfl)
  try simp only [Act.put]
  refine wpAnyH_take (i := 15) (v := .bool false) rfl (by kernel_rfl) (by kernel_rfl) (by kernel_rfl) (fun _ _ _ h => h) (Or.inl ⟨by rfl, ?y11⟩) R ?r11
  case y11 => (intro ww hS; clear hS; go_simp; try with_reducible rfl)
  try simp only [Act.put]
  refine wpAnyH_take (i := 16) (v := .float .f64 h1) rfl (by kernel_rfl) (by kernel_rfl) (by kernel_rfl) (fun _ _ _ h => h) (Or.inl ⟨by rfl, ?y12⟩) R ?r12
  case y12 => (intro ww hS; clear hS; go_simp; try with_reducible rfl)
  try simp only [Act.put]
  refine wpAnyH_ready (rs := [17]) (by kernel_rfl) (by simp) ?_
  refine AllReadyH.cons rfl (fun K hK => ?_) AllReadyH.nil
  go_simp
  refine Calls.mono (Nh.out _) ?_
  rintro r wf0 ⟨_, rfl, ⟨a1, n1, c1, rfl, HN1, hO1⟩, bN⟩
  replace R := nbelow_trans R bN
  have I1 : Hid (IsW wf0 a1 n1 c1 (wordsOf (fromP (h1 : Int)).2.1)) := hO1.1
  have hn1 : Hid (n1 ≤ 1024) := by rw [HN1.out]; exact fr_len _
  clear hO1 HN1
  clear bN
  refine hK.out _ _ R (fun _ => ?_)
  clear hK K
  try simp only [Act.put, List.setIfInBounds_toArray, List.set_cons_zero, List.set_cons_succ]
  refine wpAnyH_ready (rs := [18]) (by kernel_rfl) (by simp) ?_
  refine AllReadyH.cons rfl (fun K hK => ?_) AllReadyH.nil
  go_simp
  refine Calls.mono (bitsQ h1 _ _ _ _ hn1.out I1.out T1 hT1.out) ?_
  rintro r wg0 ⟨rfl, bN⟩
  replace R := nbelow_trans R bN
  clear I1 hn1
  clear bN
  refine hK.out _ _ R (fun _ => ?_)
  clear hK K
  try simp only [Act.put, List.setIfInBounds_toArray, List.set_cons_zero, List.set_cons_succ]
  refine wpAnyH_take (i := 19) (v := .bool false) rfl (by kernel_rfl) (by kernel_rfl) (by kernel_rfl) (fun _ _ _ h => h) (Or.inl ⟨by rfl, ?y13⟩) R ?r13
  case y13 => (intro ww hS; clear hS; go_simp; try with_reducible rfl)
  try simp only [Act.put]
  refine wpAnyH_take (i := 20) (v := .bool false) rfl (by kernel_rfl) (by kernel_rfl) (by kernel_rfl) (fun _ _ _ h => h) (Or.inl ⟨by rfl, ?y14⟩) R ?r14
  case y14 => (intro ww hS; clear hS; go_simp; try with_reducible rfl)
  try simp only [Act.put]
  refine wpAnyH_take (i := 21) (v := .bool false) rfl (by kernel_rfl) (by kernel_rfl) (by kernel_rfl) (fun _ _ _ h => h) (Or.inl ⟨by rfl, ?y15⟩) R ?r15
  case y15 => (intro ww hS; clear hS; go_simp; try with_reducible rfl)
  try simp only [Act.put]
  refine wpAnyH_take (i := 22) (v := .float .f64 l1) rfl (by kernel_rfl) (by kernel_rfl) (by kernel_rfl) (fun _ _ _ h => h) (Or.inl ⟨by rfl, ?y16⟩) R ?r16
  case y16 => (intro ww hS; clear hS; go_simp; try with_reducible rfl)
  try simp only [Act.put]
  refine wpAnyH_ready (rs := [23]) (by kernel_rfl) (by simp) ?_
  refine AllReadyH.cons rfl (fun K hK => ?_) AllReadyH.nil
  go_simp
  refine Calls.mono (Nl.out _) ?_
  rintro r wf1 ⟨_, rfl, ⟨a1, n1, c1, rfl, HN1, hO1⟩, bN⟩
  replace R := nbelow_trans R bN
  have I1 : Hid (IsW wf1 a1 n1 c1 (wordsOf (fromP (l1 : Int)).2.1)) := hO1.1
  have hn1 : Hid (n1 ≤ 1024) := by rw [HN1.out]; exact fr_len _
  clear hO1 HN1
  clear bN
  refine hK.out _ _ R (fun _ => ?_)
  clear hK K
  try simp only [Act.put, List.setIfInBounds_toArray, List.set_cons_zero, List.set_cons_succ]
  refine wpAnyH_ready (rs := [24]) (by kernel_rfl) (by simp) ?_
  refine AllReadyH.cons rfl (fun K hK => ?_) AllReadyH.nil
  go_simp
  refine Calls.mono (bitsQ l1 _ _ _ _ hn1.out I1.out T2 hT2.out) ?_
  rintro r wg1 ⟨rfl, bN⟩
  replace R := nbelow_trans R bN
  clear I1 hn1
  clear bN
  refine hK.out _ _ R (fun _ => ?_)
  clear hK K
  try simp only [Act.put, List.setIfInBounds_toArray, List.set_cons_zero, List.set_cons_succ]
  refine wpAnyH_take (i := 25) (v := .bool false) rfl (by kernel_rfl) (by kernel_rfl) (by kernel_rfl) (fun _ _ _ h => h) (Or.inl ⟨by rfl, ?y17⟩) R ?r17
  case y17 => (intro ww hS; clear hS; go_simp; try with_reducible rfl)
  try simp only [Act.put]
  refine wpAnyH_take (i := 26) (v := .bool false) rfl (by kernel_rfl) (by kernel_rfl) (by kernel_rfl) (fun _ _ _ h => h) (Or.inl ⟨by rfl, ?y18⟩) R ?r18
  case y18 => (intro ww hS; clear hS; go_simp; try with_reducible rfl)
  try simp only [Act.put]
  refine wpAnyH_done (by kernel_rfl) ?_ _
  replace k0 := dcarry_cell R k0
  replace k1 := dcarry_cell R k1
  replace k2 := dcarry_cell R k2
  replace b13 := nbelow_trans b13 R
  have IS2 := IsW.keep IS.out R
  clear IS
  have IS : Hid (IsW _ aS nS cS (wordsOf X.2.1)) := IS2
  clear R IS2
  clear P1 P3 Nh Nl hT1 hT2 g1 g2
  go_upto_region 12 with fail
  cases hz : Fp.isZ a with
  | true =>
    have hz' : (FloatKind.f64.format.order a 0 == some .eq) = true := hz
    rw [S2.out (.inr (Fp.zero_V a hz).2)] at P2
    clear S2 hz
    have R : Below wg1.heap.size wg1 (World.drew wg1) := (Below.refl _ _).drew
    refine wp_region_held (S := fun w' => Below wg1.heap.size wg1 w') (by kernel_rfl) ?_
    change wpAnyH _ _ _ _ _ _ _ _ (World.drew wg1)
    generalize World.drew wg1 = wd at R ⊢
    refine wpAnyH_take (i := 0) (v := .float .f64 a) rfl (by kernel_rfl) (by kernel_rfl) (by kernel_rfl) (fun _ _ _ h => h) (Or.inl ⟨by rfl, ?y19⟩) R ?r19
    case y19 => (intro ww hS; clear hS; go_simp; try with_reducible rfl)
    try simp only [Act.put]
    refine wpAnyH_take (i := 1) (v := .bool true) rfl (by kernel_rfl) (by kernel_rfl) (by kernel_rfl) (fun _ _ _ h => h) (Or.inl ⟨by rfl, ?y20⟩) R ?r20
    case y20 => (intro ww hS; clear hS; go_simp; try with_reducible rfl)
    try simp only [Act.put]
    refine wpAnyH_take (i := 2) (v := .bool true) rfl (by kernel_rfl) (by kernel_rfl) (by kernel_rfl) (fun _ _ _ h => h) (Or.inl ⟨by rfl, ?y21⟩) R ?r21
    case y21 => (intro ww hS; clear hS; go_simp; try with_reducible rfl)
    try simp only [Act.put]
    refine wpAnyH_take (i := 3) (v := undef) rfl (by kernel_rfl) (by kernel_rfl) (by kernel_rfl) (fun _ _ _ h => h) (Or.inr ⟨by rfl, rfl⟩) R ?r22
    try simp only [Act.put]
    refine wpAnyH_take (i := 5) (v := undef) rfl (by kernel_rfl) (by kernel_rfl) (by kernel_rfl) (fun _ _ _ h => h) (Or.inr ⟨by rfl, rfl⟩) R ?r23
    try simp only [Act.put]
    refine wpAnyH_ready (rs := [4]) (by kernel_rfl) (by simp) ?_
    refine AllReadyH.cons rfl (fun K hK => ?_) AllReadyH.nil
    go_simp
    refine hK.out _ _ R (fun _ => ?_)
    clear hK K
    try simp only [Act.put, List.setIfInBounds_toArray, List.set_cons_zero, List.set_cons_succ]
    refine wpAnyH_ready (rs := [6]) (by kernel_rfl) (by simp) ?_
    refine AllReadyH.cons rfl (fun K hK => ?_) AllReadyH.nil
    go_simp
    refine hK.out _ _ R (fun _ => ?_)
    clear hK K
    try simp only [Act.put, List.setIfInBounds_toArray, List.set_cons_zero, List.set_cons_succ]
    refine wpAnyH_take (i := 7) (v := undef) rfl (by kernel_rfl) (by kernel_rfl) (by kernel_rfl) (fun _ _ _ h => h) (Or.inr ⟨by rfl, rfl⟩) R ?r24
    try simp only [Act.put]
    refine wpAnyH_take (i := 8) (v := .bool true) rfl (by kernel_rfl) (by kernel_rfl) (by kernel_rfl) (fun _ _ _ h => h) (Or.inl ⟨by rfl, ?y25⟩) R ?r25
    case y25 => (intro ww hS; clear hS; go_simp; try with_reducible rfl)
    try simp only [Act.put]
    refine wpAnyH_take (i := 9) (v := .bool true) rfl (by kernel_rfl) (by kernel_rfl) (by kernel_rfl) (fun _ _ _ h => h) (Or.inl ⟨by rfl, ?y26⟩) R ?r26
    case y26 => (intro ww hS; clear hS; go_simp; try with_reducible rfl)
    try simp only [Act.put]
    refine wpAnyH_take (i := 10) (v := .float .f64 u1) rfl (by kernel_rfl) (by kernel_rfl) (by kernel_rfl) (fun _ _ _ h => h) (Or.inl ⟨by rfl, ?y27⟩) R ?r27
    case y27 => (intro ww hS; clear hS; go_simp; try with_reducible rfl)
    try simp only [Act.put]
    refine wpAnyH_take (i := 11) (v := .float .f64 v1) rfl (by kernel_rfl) (by kernel_rfl) (by kernel_rfl) (fun _ _ _ h => h) (Or.inl ⟨by rfl, ?y28⟩) R ?r28
    case y28 => (intro ww hS; clear hS; go_simp; try with_reducible rfl)
    try simp only [Act.put]
    refine wpAnyH_take (i := 13) (v := .agg #[.bool X.1, .slice aS nS cS, .int .i64 X.2.2]) rfl (by kernel_rfl) (by kernel_rfl) (by kernel_rfl) (fun _ _ _ h => h) (Or.inl ⟨by rfl, ?y29⟩) R ?r29
    case y29 => (intro ww hS; have qk0 := dcarry_cell hS k0; have qk1 := dcarry_cell hS k1; have qk2 := dcarry_cell hS k2; clear hS; go_simp; try with_reducible rfl)
    try simp only [Act.put]
    refine wpAnyH_ready (rs := [12]) (by kernel_rfl) (by simp) ?_
    refine AllReadyH.cons rfl (fun K hK => ?_) AllReadyH.nil
    go_simp
    refine Calls.mono (P2.out _) ?_
    rintro r wa2 ⟨_, rfl, ⟨a1, n1, c1, rfl, HN1, hO1⟩, bN⟩
    replace R := nbelow_trans R bN
    have I1 : Hid (IsW wa2 a1 n1 c1 (wordsOf X.2.1)) := hO1.1
    have hn1 : Hid (n1 ≤ 1024) := by rw [HN1.out]; exact LX.out
    clear hO1 HN1
    clear bN
    refine hK.out _ _ R (fun _ => ?_)
    clear hK K
    try simp only [Act.put, List.setIfInBounds_toArray, List.set_cons_zero, List.set_cons_succ]
    refine wpAnyH_ready (rs := [14]) (by kernel_rfl) (by simp) ?_
    refine AllReadyH.cons rfl (fun K hK => ?_) AllReadyH.nil
    go_simp
    refine Calls.mono (sameQ X _ _ _ _ _ _ _ I1.out (by have := hn1.out; omega) (IsW.keep IS.out R) (by have := hnS.out; omega)) ?_
    rintro r wb2 ⟨rfl, bN⟩
    replace R := nbelow_trans R bN
    clear I1 hn1
    clear bN
    refine hK.out _ _ R (fun _ => ?_)
    clear hK K
    try simp only [Act.put, List.setIfInBounds_toArray, List.set_cons_zero, List.set_cons_succ]
    refine wpAnyH_take (i := 15) (v := .bool false) rfl (by kernel_rfl) (by kernel_rfl) (by kernel_rfl) (fun _ _ _ h => h) (Or.inl ⟨by rfl, ?y30⟩) R ?r30
    case y30 => (intro ww hS; clear hS; go_simp; try with_reducible rfl)
    try simp only [Act.put]
    refine wpAnyH_take (i := 16) (v := .bool false) rfl (by kernel_rfl) (by kernel_rfl) (by kernel_rfl) (fun _ _ _ h => h) (Or.inl ⟨by rfl, ?y31⟩) R ?r31
    case y31 => (intro ww hS; clear hS; go_simp; try with_reducible rfl)
    try simp only [Act.put]
    refine wpAnyH_done (by kernel_rfl) ?_ _
    replace k0 := dcarry_cell R k0
    replace k1 := dcarry_cell R k1
    replace k2 := dcarry_cell R k2
    replace b13 := nbelow_trans b13 R
    have IS2 := IsW.keep IS.out R
    clear IS
    have IS : Hid (IsW _ aS nS cS (wordsOf X.2.1)) := IS2
    clear R IS2
    go_wp2_with fail
    refine Calls.mono (Na.out _) ?_
    rintro _ w15 ⟨_, rfl, ⟨aa, na, ca, rfl, HNa, hOa⟩, bN⟩
    have b15 := nbelow_trans b13 bN
    have Ia : Hid (IsW w15 aa na ca (wordsOf A.2.1)) := hOa.1
    have hna : Hid (na ≤ 1024) := by rw [HNa.out]; exact LA.out
    clear bN HNa hOa b13
    go_wp2_with fail
    refine Calls.mono (Nb.out _) ?_
    rintro _ w16 ⟨_, rfl, ⟨ab, nb, cb, rfl, HNb, hOb⟩, bN⟩
    have b16 := nbelow_trans b15 bN
    replace Ia : Hid (IsW w16 aa na ca (wordsOf A.2.1)) := IsW.keep Ia.out bN
    have Ib : Hid (IsW w16 ab nb cb (wordsOf B.2.1)) := hOb.1
    have hnb : Hid (nb ≤ 1024) := by rw [HNb.out]; exact LB.out
    clear bN b15 HNb hOb
    go_wp2_with fail
    refine Calls.mono (HT.out _ _ _ _ _ _ _ hna.out hnb.out Ia.out Ib.out) ?_
    rintro _ w17 ⟨_, rfl, ⟨ap, np, cp, rfl, HNp, hOp⟩, bN⟩
    have b17 := nbelow_trans b16 bN
    have hnp : Hid (np ≤ 1024) := by rw [HNp.out]; exact LP.out.1
    have bA := below_one w17 (.cells #[.bool Y.1, .slice ap np cp, .int .i64 Y.2.2] 31)
    have b18 := nbelow_trans b17 bA
    have IY : Hid (IsW (w17.alloc (.cells #[.bool Y.1, .slice ap np cp, .int .i64 Y.2.2] 31)) ap np cp (wordsOf Y.2.1)) := IsW.keep hOp.1 bA
    have y0 : (w17.alloc (.cells #[.bool Y.1, .slice ap np cp, .int .i64 Y.2.2] 31)).cell? ⟨w17.heap.size, 0, none⟩ = some (.bool Y.1) := by go_simp
    have y1 : (w17.alloc (.cells #[.bool Y.1, .slice ap np cp, .int .i64 Y.2.2] 31)).cell? ⟨w17.heap.size, 1, none⟩ = some (.slice ap np cp) := by go_simp
    have y2 : (w17.alloc (.cells #[.bool Y.1, .slice ap np cp, .int .i64 Y.2.2] 31)).cell? ⟨w17.heap.size, 2, none⟩ = some (.int .i64 Y.2.2) := by go_simp
    clear bN b16 b17 bA hOp HNp Ia Ib hna hnb k0 k1 k2 IS
    go_upto_region 1 with fail
    generalize (w17.alloc (.cells #[.bool Y.1, .slice ap np cp, .int .i64 Y.2.2] 31)) = w18 at *
    generalize w17.heap.size = zy at *
    obtain ⟨tp, htp⟩ : ∃ tp : Int, Hid (Y.2.2 + (blen (val (wordsOf Y.2.1)) : Int) - 1 = tp) := ⟨_, rfl⟩
    obtain ⟨tl, htl⟩ : ∃ tl : Int, Hid ((blen (val (wordsOf Y.2.1)) : Int) = tl) := ⟨_, rfl⟩
    have HTop : Hid (∀ W, IsW W ap np cp (wordsOf Y.2.1) → Calls Try.prog 16 #[dyV Y.1 ap np cp Y.2.2] W fun r w' => r = .returned (.int .i64 tp) ∧ Below W.heap.size W w') := fun W g => by
      have := qTop_calls Y.1 ap np cp (wordsOf Y.2.1) Y.2.2 W g (by have := hnp.out; omega) (by have := LP.out; omega) (by rw [val_words]; have := LP.out; omega)
      rw [htp.out] at this; exact this
    have HLen : Hid (∀ W, IsW W ap np cp (wordsOf Y.2.1) → Calls Try.prog 17 #[.slice ap np cp] W fun r w' => r = .returned (.int .i64 tl) ∧ Below W.heap.size W w') := fun W g => by
      have := nLen_calls ap np cp (wordsOf Y.2.1) W g (by have := hnp.out; omega)
      rw [htl.out] at this; exact this
    clear htp htl
    have R : Below w18.heap.size w18 (World.drew w18) := (Below.refl _ _).drew
    refine wp_region_held (S := fun w' => Below w18.heap.size w18 w') (by kernel_rfl) ?_
    change wpAnyH _ _ _ _ _ _ _ _ (World.drew w18)
    generalize World.drew w18 = wd at R ⊢
    refine wpAnyH_take (i := 0) (v := .agg #[.bool Y.1, .slice ap np cp, .int .i64 Y.2.2]) rfl (by kernel_rfl) (by kernel_rfl) (by kernel_rfl) (fun _ _ _ h => h) (Or.inl ⟨by rfl, ?y32⟩) R ?r32
    case y32 => (intro ww hS; have qy0 := dcarry_cell hS y0; have qy1 := dcarry_cell hS y1; have qy2 := dcarry_cell hS y2; clear hS; go_simp; try with_reducible rfl)
    try simp only [Act.put]
    refine wpAnyH_ready (rs := [1]) (by kernel_rfl) (by simp) ?_
    refine AllReadyH.cons rfl (fun K hK => ?_) AllReadyH.nil
    go_simp
    refine Calls.mono (HTop.out _ (IsW.keep IY.out R)) ?_
    rintro r wt1 ⟨rfl, bN⟩
    replace R := nbelow_trans R bN
    clear bN
    refine hK.out _ _ R (fun _ => ?_)
    clear hK K
    try simp only [Act.put, List.setIfInBounds_toArray, List.set_cons_zero, List.set_cons_succ]
    by_cases ht : tp < -900
    · refine wpAnyH_take (i := 2) (v := .bool true) rfl (by kernel_rfl) (by kernel_rfl) (by kernel_rfl) (fun _ _ _ h => h) (Or.inl ⟨by rfl, ?y33⟩) R ?r33
      case y33 => (intro ww hS; clear hS; go_simp; try with_reducible rfl)
      try simp only [Act.put]
      refine wpAnyH_take (i := 3) (v := .bool true) rfl (by kernel_rfl) (by kernel_rfl) (by kernel_rfl) (fun _ _ _ h => h) (Or.inl ⟨by rfl, ?y34⟩) R ?r34
      case y34 => (intro ww hS; clear hS; go_simp; try with_reducible rfl)
      try simp only [Act.put]
      refine wpAnyH_take (i := 4) (v := ?v35) rfl (by kernel_rfl) (by kernel_rfl) (by kernel_rfl) (fun _ _ _ h => h) (Or.inl ⟨by rfl, ?y35⟩) R ?r35
      case y35 => (intro ww hS; clear hS; go_simp; try with_reducible rfl)
      try simp only [Act.put]
      refine wpAnyH_take (i := 5) (v := .slice ap np cp) rfl (by kernel_rfl) (by kernel_rfl) (by kernel_rfl) (fun _ _ _ h => h) (Or.inl ⟨by rfl, ?y36⟩) R ?r36
      case y36 => (intro ww hS; have qy1 := dcarry_cell hS y1; clear hS; go_simp; try with_reducible rfl)
      try simp only [Act.put]
      refine wpAnyH_ready (rs := [6]) (by kernel_rfl) (by simp) ?_
      refine AllReadyH.cons rfl (fun K hK => ?_) AllReadyH.nil
      go_simp
      refine Calls.mono (HLen.out _ (IsW.keep IY.out R)) ?_
      rintro r wl1 ⟨rfl, bN⟩
      replace R := nbelow_trans R bN
      clear bN
      refine hK.out _ _ R (fun _ => ?_)
      clear hK K
      try simp only [Act.put, List.setIfInBounds_toArray, List.set_cons_zero, List.set_cons_succ]
      by_cases hl : 0 < tl
      · refine wpAnyH_take (i := 7) (v := .bool true) rfl (by kernel_rfl) (by kernel_rfl) (by kernel_rfl) (fun _ _ _ h => h) (Or.inl ⟨by rfl, ?y37⟩) R ?r37
        case y37 => (intro ww hS; clear hS; go_simp; try with_reducible rfl)
        try simp only [Act.put]
        refine wpAnyH_take (i := 8) (v := .bool true) rfl (by kernel_rfl) (by kernel_rfl) (by kernel_rfl) (fun _ _ _ h => h) (Or.inl ⟨by rfl, ?y38⟩) R ?r38
        case y38 => (intro ww hS; clear hS; go_simp; try with_reducible rfl)
        try simp only [Act.put]
        refine wpAnyH_take (i := 9) (v := .bool true) rfl (by kernel_rfl) (by kernel_rfl) (by kernel_rfl) (fun _ _ _ h => h) (Or.inl ⟨by rfl, ?y39⟩) R ?r39
        case y39 => (intro ww hS; clear hS; go_simp; try with_reducible rfl)
        try simp only [Act.put]
        refine wpAnyH_take (i := 10) (v := undef) rfl (by kernel_rfl) (by kernel_rfl) (by kernel_rfl) (fun _ _ _ h => h) (Or.inr ⟨by rfl, rfl⟩) R ?r40
        try simp only [Act.put]
        refine wpAnyH_take (i := 11) (v := undef) rfl (by kernel_rfl) (by kernel_rfl) (by kernel_rfl) (fun _ _ _ h => h) (Or.inr ⟨by rfl, rfl⟩) R ?r41
        try simp only [Act.put]
        refine wpAnyH_take (i := 13) (v := undef) rfl (by kernel_rfl) (by kernel_rfl) (by kernel_rfl) (fun _ _ _ h => h) (Or.inr ⟨by rfl, rfl⟩) R ?r42
        try simp only [Act.put]
        refine wpAnyH_ready (rs := [12]) (by kernel_rfl) (by simp) ?_
        refine AllReadyH.cons rfl (fun K hK => ?_) AllReadyH.nil
        go_simp
        refine hK.out _ _ R (fun _ => ?_)
        clear hK K
        try simp only [Act.put, List.setIfInBounds_toArray, List.set_cons_zero, List.set_cons_succ]
        refine wpAnyH_ready (rs := [14]) (by kernel_rfl) (by simp) ?_
        refine AllReadyH.cons rfl (fun K hK => ?_) AllReadyH.nil
        go_simp
        refine hK.out _ _ R (fun _ => ?_)
        clear hK K
        try simp only [Act.put, List.setIfInBounds_toArray, List.set_cons_zero, List.set_cons_succ]
        refine wpAnyH_take (i := 15) (v := .bool true) rfl (by kernel_rfl) (by kernel_rfl) (by kernel_rfl) (fun _ _ _ h => h) (Or.inl ⟨by rfl, ?y43⟩) R ?r43
        case y43 => (intro ww hS; clear hS; go_simp; try with_reducible rfl)
        try simp only [Act.put]
        refine wpAnyH_ready (rs := [16]) (by kernel_rfl) (by simp) ?_
        refine AllReadyH.cons rfl (fun K hK => ?_) AllReadyH.nil
        go_simp
        refine hK.out _ _ R (fun _ => ?_)
        clear hK K
        try simp only [Act.put, List.setIfInBounds_toArray, List.set_cons_zero, List.set_cons_succ]
        refine wpAnyH_done (by kernel_rfl) ?_ _
        go_wp2_with fail
        go_ret
        exact ⟨rfl, nbelow_trans b18 R⟩
      · refine wpAnyH_take (i := 7) (v := .bool false) rfl (by kernel_rfl) (by kernel_rfl) (by kernel_rfl) (fun _ _ _ h => h) (Or.inl ⟨by rfl, ?y44⟩) R ?r44
        case y44 => (intro ww hS; clear hS; go_simp; try with_reducible rfl)
        try simp only [Act.put]
        refine wpAnyH_take (i := 8) (v := .bool false) rfl (by kernel_rfl) (by kernel_rfl) (by kernel_rfl) (fun _ _ _ h => h) (Or.inl ⟨by rfl, ?y45⟩) R ?r45
        case y45 => (intro ww hS; clear hS; go_simp; try with_reducible rfl)
        try simp only [Act.put]
        refine wpAnyH_take (i := 9) (v := .bool false) rfl (by kernel_rfl) (by kernel_rfl) (by kernel_rfl) (fun _ _ _ h => h) (Or.inl ⟨by rfl, ?y46⟩) R ?r46
        case y46 => (intro ww hS; clear hS; go_simp; try with_reducible rfl)
        try simp only [Act.put]
        refine wpAnyH_take (i := 10) (v := .float .f64 p1) rfl (by kernel_rfl) (by kernel_rfl) (by kernel_rfl) (fun _ _ _ h => h) (Or.inl ⟨by rfl, ?y47⟩) R ?r47
        case y47 => (intro ww hS; clear hS; go_simp; try with_reducible rfl)
        try simp only [Act.put]
        refine wpAnyH_take (i := 11) (v := .float .f64 e1) rfl (by kernel_rfl) (by kernel_rfl) (by kernel_rfl) (fun _ _ _ h => h) (Or.inl ⟨by rfl, ?y48⟩) R ?r48
        case y48 => (intro ww hS; clear hS; go_simp; try with_reducible rfl)
        try simp only [Act.put]
        refine wpAnyH_take (i := 13) (v := .agg #[.bool Y.1, .slice ap np cp, .int .i64 Y.2.2]) rfl (by kernel_rfl) (by kernel_rfl) (by kernel_rfl) (fun _ _ _ h => h) (Or.inl ⟨by rfl, ?y49⟩) R ?r49
        case y49 => (intro ww hS; have qy0 := dcarry_cell hS y0; have qy1 := dcarry_cell hS y1; have qy2 := dcarry_cell hS y2; clear hS; go_simp; try with_reducible rfl)
        try simp only [Act.put]
        refine wpAnyH_ready (rs := [12]) (by kernel_rfl) (by simp) ?_
        refine AllReadyH.cons rfl (fun K hK => ?_) AllReadyH.nil
        go_simp
        refine Calls.mono (P4.out _) ?_
        rintro r wp1 ⟨_, rfl, ⟨a1, n1, c1, rfl, HN1, hO1⟩, bN⟩
        replace R := nbelow_trans R bN
        have I1 : Hid (IsW wp1 a1 n1 c1 (wordsOf Y.2.1)) := hO1.1
        have hn1 : Hid (n1 ≤ 1024) := by rw [HN1.out]; exact LP.out.1
        clear hO1 HN1
        clear bN
        refine hK.out _ _ R (fun _ => ?_)
        clear hK K
        try simp only [Act.put, List.setIfInBounds_toArray, List.set_cons_zero, List.set_cons_succ]
        refine wpAnyH_ready (rs := [14]) (by kernel_rfl) (by simp) ?_
        refine AllReadyH.cons rfl (fun K hK => ?_) AllReadyH.nil
        go_simp
        refine Calls.mono (sameQ Y _ _ _ _ _ _ _ I1.out (by have := hn1.out; omega) (IsW.keep IY.out R) (by have := hnp.out; omega)) ?_
        rintro r wq1 ⟨rfl, bN⟩
        replace R := nbelow_trans R bN
        clear I1 hn1
        clear bN
        refine hK.out _ _ R (fun _ => ?_)
        clear hK K
        try simp only [Act.put, List.setIfInBounds_toArray, List.set_cons_zero, List.set_cons_succ]
        refine wpAnyH_take (i := 15) (v := .bool true) rfl (by kernel_rfl) (by kernel_rfl) (by kernel_rfl) (fun _ _ _ h => h) (Or.inl ⟨by rfl, ?y50⟩) R ?r50
        case y50 => (intro ww hS; clear hS; go_simp; try with_reducible rfl)
        try simp only [Act.put]
        refine wpAnyH_ready (rs := [16]) (by kernel_rfl) (by simp) ?_
        refine AllReadyH.cons rfl (fun K hK => ?_) AllReadyH.nil
        go_simp
        refine hK.out _ _ R (fun _ => ?_)
        clear hK K
        try simp only [Act.put, List.setIfInBounds_toArray, List.set_cons_zero, List.set_cons_succ]
        refine wpAnyH_done (by kernel_rfl) ?_ _
        go_wp2_with fail
        go_ret
        exact ⟨rfl, nbelow_trans b18 R⟩
    · refine wpAnyH_take (i := 2) (v := .bool false) rfl (by kernel_rfl) (by kernel_rfl) (by kernel_rfl) (fun _ _ _ h => h) (Or.inl ⟨by rfl, ?y51⟩) R ?r51
      case y51 => (intro ww hS; clear hS; go_simp; try with_reducible rfl)
      try simp only [Act.put]
      refine wpAnyH_take (i := 3) (v := .bool false) rfl (by kernel_rfl) (by kernel_rfl) (by kernel_rfl) (fun _ _ _ h => h) (Or.inl ⟨by rfl, ?y52⟩) R ?r52
      case y52 => (intro ww hS; clear hS; go_simp; try with_reducible rfl)
      try simp only [Act.put]
      refine wpAnyH_take (i := 4) (v := undef) rfl (by kernel_rfl) (by kernel_rfl) (by kernel_rfl) (fun _ _ _ h => h) (Or.inr ⟨by rfl, rfl⟩) R ?r53
      try simp only [Act.put]
      refine wpAnyH_take (i := 5) (v := undef) rfl (by kernel_rfl) (by kernel_rfl) (by kernel_rfl) (fun _ _ _ h => h) (Or.inr ⟨by rfl, rfl⟩) R ?r54
      try simp only [Act.put]
      refine wpAnyH_ready (rs := [6]) (by kernel_rfl) (by simp) ?_
      refine AllReadyH.cons rfl (fun K hK => ?_) AllReadyH.nil
      go_simp
      refine hK.out _ _ R (fun _ => ?_)
      clear hK K
      try simp only [Act.put, List.setIfInBounds_toArray, List.set_cons_zero, List.set_cons_succ]
      refine wpAnyH_take (i := 7) (v := undef) rfl (by kernel_rfl) (by kernel_rfl) (by kernel_rfl) (fun _ _ _ h => h) (Or.inr ⟨by rfl, rfl⟩) R ?r55
      try simp only [Act.put]
      refine wpAnyH_take (i := 8) (v := .bool false) rfl (by kernel_rfl) (by kernel_rfl) (by kernel_rfl) (fun _ _ _ h => h) (Or.inl ⟨by rfl, ?y56⟩) R ?r56
      case y56 => (intro ww hS; clear hS; go_simp; try with_reducible rfl)
      try simp only [Act.put]
      refine wpAnyH_take (i := 9) (v := .bool false) rfl (by kernel_rfl) (by kernel_rfl) (by kernel_rfl) (fun _ _ _ h => h) (Or.inl ⟨by rfl, ?y57⟩) R ?r57
      case y57 => (intro ww hS; clear hS; go_simp; try with_reducible rfl)
      try simp only [Act.put]
      refine wpAnyH_take (i := 10) (v := .float .f64 p1) rfl (by kernel_rfl) (by kernel_rfl) (by kernel_rfl) (fun _ _ _ h => h) (Or.inl ⟨by rfl, ?y58⟩) R ?r58
      case y58 => (intro ww hS; clear hS; go_simp; try with_reducible rfl)
      try simp only [Act.put]
      refine wpAnyH_take (i := 11) (v := .float .f64 e1) rfl (by kernel_rfl) (by kernel_rfl) (by kernel_rfl) (fun _ _ _ h => h) (Or.inl ⟨by rfl, ?y59⟩) R ?r59
      case y59 => (intro ww hS; clear hS; go_simp; try with_reducible rfl)
      try simp only [Act.put]
      refine wpAnyH_take (i := 13) (v := .agg #[.bool Y.1, .slice ap np cp, .int .i64 Y.2.2]) rfl (by kernel_rfl) (by kernel_rfl) (by kernel_rfl) (fun _ _ _ h => h) (Or.inl ⟨by rfl, ?y60⟩) R ?r60
      case y60 => (intro ww hS; have qy0 := dcarry_cell hS y0; have qy1 := dcarry_cell hS y1; have qy2 := dcarry_cell hS y2; clear hS; go_simp; try with_reducible rfl)
      try simp only [Act.put]
      refine wpAnyH_ready (rs := [12]) (by kernel_rfl) (by simp) ?_
      refine AllReadyH.cons rfl (fun K hK => ?_) AllReadyH.nil
      go_simp
      refine Calls.mono (P4.out _) ?_
      rintro r wp1 ⟨_, rfl, ⟨a1, n1, c1, rfl, HN1, hO1⟩, bN⟩
      replace R := nbelow_trans R bN
      have I1 : Hid (IsW wp1 a1 n1 c1 (wordsOf Y.2.1)) := hO1.1
      have hn1 : Hid (n1 ≤ 1024) := by rw [HN1.out]; exact LP.out.1
      clear hO1 HN1
      clear bN
      refine hK.out _ _ R (fun _ => ?_)
      clear hK K
      try simp only [Act.put, List.setIfInBounds_toArray, List.set_cons_zero, List.set_cons_succ]
      refine wpAnyH_ready (rs := [14]) (by kernel_rfl) (by simp) ?_
      refine AllReadyH.cons rfl (fun K hK => ?_) AllReadyH.nil
      go_simp
      refine Calls.mono (sameQ Y _ _ _ _ _ _ _ I1.out (by have := hn1.out; omega) (IsW.keep IY.out R) (by have := hnp.out; omega)) ?_
      rintro r wq1 ⟨rfl, bN⟩
      replace R := nbelow_trans R bN
      clear I1 hn1
      clear bN
      refine hK.out _ _ R (fun _ => ?_)
      clear hK K
      try simp only [Act.put, List.setIfInBounds_toArray, List.set_cons_zero, List.set_cons_succ]
      refine wpAnyH_take (i := 15) (v := .bool true) rfl (by kernel_rfl) (by kernel_rfl) (by kernel_rfl) (fun _ _ _ h => h) (Or.inl ⟨by rfl, ?y61⟩) R ?r61
      case y61 => (intro ww hS; clear hS; go_simp; try with_reducible rfl)
      try simp only [Act.put]
      refine wpAnyH_ready (rs := [16]) (by kernel_rfl) (by simp) ?_
      refine AllReadyH.cons rfl (fun K hK => ?_) AllReadyH.nil
      go_simp
      refine hK.out _ _ R (fun _ => ?_)
      clear hK K
      try simp only [Act.put, List.setIfInBounds_toArray, List.set_cons_zero, List.set_cons_succ]
      refine wpAnyH_done (by kernel_rfl) ?_ _
      go_wp2_with fail
      go_ret
      exact ⟨rfl, nbelow_trans b18 R⟩
  | false =>
    have hz' : (FloatKind.f64.format.order a 0 == some .eq) = false := hz
    clear hz
    by_cases hle : (Ieee.double.order (Fp.absF b) (Fp.absF a) == some .lt || Ieee.double.order (Fp.absF b) (Fp.absF a) == some .eq) = true
    · have hle' : (FloatKind.f64.format.order (Fp.absF b) (Fp.absF a) == some .lt || FloatKind.f64.format.order (Fp.absF b) (Fp.absF a) == some .eq) = true := hle
      rw [S2.out (.inl (abs_le a b Fa.out.1 Fa.out.2 hle))] at P2
      clear S2 hle
      have R : Below wg1.heap.size wg1 (World.drew wg1) := (Below.refl _ _).drew
      refine wp_region_held (S := fun w' => Below wg1.heap.size wg1 w') (by kernel_rfl) ?_
      change wpAnyH _ _ _ _ _ _ _ _ (World.drew wg1)
      generalize World.drew wg1 = wd at R ⊢
      refine wpAnyH_take (i := 0) (v := .float .f64 a) rfl (by kernel_rfl) (by kernel_rfl) (by kernel_rfl) (fun _ _ _ h => h) (Or.inl ⟨by rfl, ?y62⟩) R ?r62
      case y62 => (intro ww hS; clear hS; go_simp; try with_reducible rfl)
      try simp only [Act.put]
      refine wpAnyH_take (i := 1) (v := .bool false) rfl (by kernel_rfl) (by kernel_rfl) (by kernel_rfl) (fun _ _ _ h => h) (Or.inl ⟨by rfl, ?y63⟩) R ?r63
      case y63 => (intro ww hS; clear hS; go_simp; try with_reducible rfl)
      try simp only [Act.put]
      refine wpAnyH_take (i := 2) (v := .bool false) rfl (by kernel_rfl) (by kernel_rfl) (by kernel_rfl) (fun _ _ _ h => h) (Or.inl ⟨by rfl, ?y64⟩) R ?r64
      case y64 => (intro ww hS; clear hS; go_simp; try with_reducible rfl)
      try simp only [Act.put]
      refine wpAnyH_take (i := 3) (v := .float .f64 b) rfl (by kernel_rfl) (by kernel_rfl) (by kernel_rfl) (fun _ _ _ h => h) (Or.inl ⟨by rfl, ?y65⟩) R ?r65
      case y65 => (intro ww hS; clear hS; go_simp; try with_reducible rfl)
      try simp only [Act.put]
      refine wpAnyH_take (i := 5) (v := .float .f64 a) rfl (by kernel_rfl) (by kernel_rfl) (by kernel_rfl) (fun _ _ _ h => h) (Or.inl ⟨by rfl, ?y66⟩) R ?r66
      case y66 => (intro ww hS; clear hS; go_simp; try with_reducible rfl)
      try simp only [Act.put]
      refine wpAnyH_ready (rs := [4]) (by kernel_rfl) (by simp) ?_
      refine AllReadyH.cons rfl (fun K hK => ?_) AllReadyH.nil
      go_simp
      refine Calls.mono (AB.out _) ?_
      rintro r wx ⟨rfl, rfl⟩
      refine hK.out _ _ R (fun _ => ?_)
      clear hK K
      try simp only [Act.put, List.setIfInBounds_toArray, List.set_cons_zero, List.set_cons_succ]
      refine wpAnyH_ready (rs := [6]) (by kernel_rfl) (by simp) ?_
      refine AllReadyH.cons rfl (fun K hK => ?_) AllReadyH.nil
      go_simp
      refine Calls.mono (AA.out _) ?_
      rintro r wx ⟨rfl, rfl⟩
      refine hK.out _ _ R (fun _ => ?_)
      clear hK K
      try simp only [Act.put, List.setIfInBounds_toArray, List.set_cons_zero, List.set_cons_succ]
      refine wpAnyH_take (i := 7) (v := .bool true) rfl (by kernel_rfl) (by kernel_rfl) (by kernel_rfl) (fun _ _ _ h => h) (Or.inl ⟨by rfl, ?y67⟩) R ?r67
      case y67 => (intro ww hS; clear hS; go_simp; try with_reducible rfl)
      try simp only [Act.put]
      refine wpAnyH_take (i := 8) (v := .bool true) rfl (by kernel_rfl) (by kernel_rfl) (by kernel_rfl) (fun _ _ _ h => h) (Or.inl ⟨by rfl, ?y68⟩) R ?r68
      case y68 => (intro ww hS; clear hS; go_simp; try with_reducible rfl)
      try simp only [Act.put]
      refine wpAnyH_take (i := 9) (v := .bool true) rfl (by kernel_rfl) (by kernel_rfl) (by kernel_rfl) (fun _ _ _ h => h) (Or.inl ⟨by rfl, ?y69⟩) R ?r69
      case y69 => (intro ww hS; clear hS; go_simp; try with_reducible rfl)
      try simp only [Act.put]
      refine wpAnyH_take (i := 10) (v := .float .f64 u1) rfl (by kernel_rfl) (by kernel_rfl) (by kernel_rfl) (fun _ _ _ h => h) (Or.inl ⟨by rfl, ?y70⟩) R ?r70
      case y70 => (intro ww hS; clear hS; go_simp; try with_reducible rfl)
      try simp only [Act.put]
      refine wpAnyH_take (i := 11) (v := .float .f64 v1) rfl (by kernel_rfl) (by kernel_rfl) (by kernel_rfl) (fun _ _ _ h => h) (Or.inl ⟨by rfl, ?y71⟩) R ?r71
      case y71 => (intro ww hS; clear hS; go_simp; try with_reducible rfl)
      try simp only [Act.put]
      refine wpAnyH_take (i := 13) (v := .agg #[.bool X.1, .slice aS nS cS, .int .i64 X.2.2]) rfl (by kernel_rfl) (by kernel_rfl) (by kernel_rfl) (fun _ _ _ h => h) (Or.inl ⟨by rfl, ?y72⟩) R ?r72
      case y72 => (intro ww hS; have qk0 := dcarry_cell hS k0; have qk1 := dcarry_cell hS k1; have qk2 := dcarry_cell hS k2; clear hS; go_simp; try with_reducible rfl)
      try simp only [Act.put]
      refine wpAnyH_ready (rs := [12]) (by kernel_rfl) (by simp) ?_
      refine AllReadyH.cons rfl (fun K hK => ?_) AllReadyH.nil
      go_simp
      refine Calls.mono (P2.out _) ?_
      rintro r wa2 ⟨_, rfl, ⟨a1, n1, c1, rfl, HN1, hO1⟩, bN⟩
      replace R := nbelow_trans R bN
      have I1 : Hid (IsW wa2 a1 n1 c1 (wordsOf X.2.1)) := hO1.1
      have hn1 : Hid (n1 ≤ 1024) := by rw [HN1.out]; exact LX.out
      clear hO1 HN1
      clear bN
      refine hK.out _ _ R (fun _ => ?_)
      clear hK K
      try simp only [Act.put, List.setIfInBounds_toArray, List.set_cons_zero, List.set_cons_succ]
      refine wpAnyH_ready (rs := [14]) (by kernel_rfl) (by simp) ?_
      refine AllReadyH.cons rfl (fun K hK => ?_) AllReadyH.nil
      go_simp
      refine Calls.mono (sameQ X _ _ _ _ _ _ _ I1.out (by have := hn1.out; omega) (IsW.keep IS.out R) (by have := hnS.out; omega)) ?_
      rintro r wb2 ⟨rfl, bN⟩
      replace R := nbelow_trans R bN
      clear I1 hn1
      clear bN
      refine hK.out _ _ R (fun _ => ?_)
      clear hK K
      try simp only [Act.put, List.setIfInBounds_toArray, List.set_cons_zero, List.set_cons_succ]
      refine wpAnyH_take (i := 15) (v := .bool false) rfl (by kernel_rfl) (by kernel_rfl) (by kernel_rfl) (fun _ _ _ h => h) (Or.inl ⟨by rfl, ?y73⟩) R ?r73
      case y73 => (intro ww hS; clear hS; go_simp; try with_reducible rfl)
      try simp only [Act.put]
      refine wpAnyH_take (i := 16) (v := .bool false) rfl (by kernel_rfl) (by kernel_rfl) (by kernel_rfl) (fun _ _ _ h => h) (Or.inl ⟨by rfl, ?y74⟩) R ?r74
      case y74 => (intro ww hS; clear hS; go_simp; try with_reducible rfl)
      try simp only [Act.put]
      refine wpAnyH_done (by kernel_rfl) ?_ _
      replace k0 := dcarry_cell R k0
      replace k1 := dcarry_cell R k1
      replace k2 := dcarry_cell R k2
      replace b13 := nbelow_trans b13 R
      have IS2 := IsW.keep IS.out R
      clear IS
      have IS : Hid (IsW _ aS nS cS (wordsOf X.2.1)) := IS2
      clear R IS2
      go_wp2_with fail
      refine Calls.mono (Na.out _) ?_
      rintro _ w15 ⟨_, rfl, ⟨aa, na, ca, rfl, HNa, hOa⟩, bN⟩
      have b15 := nbelow_trans b13 bN
      have Ia : Hid (IsW w15 aa na ca (wordsOf A.2.1)) := hOa.1
      have hna : Hid (na ≤ 1024) := by rw [HNa.out]; exact LA.out
      clear bN HNa hOa b13
      go_wp2_with fail
      refine Calls.mono (Nb.out _) ?_
      rintro _ w16 ⟨_, rfl, ⟨ab, nb, cb, rfl, HNb, hOb⟩, bN⟩
      have b16 := nbelow_trans b15 bN
      replace Ia : Hid (IsW w16 aa na ca (wordsOf A.2.1)) := IsW.keep Ia.out bN
      have Ib : Hid (IsW w16 ab nb cb (wordsOf B.2.1)) := hOb.1
      have hnb : Hid (nb ≤ 1024) := by rw [HNb.out]; exact LB.out
      clear bN b15 HNb hOb
      go_wp2_with fail
      refine Calls.mono (HT.out _ _ _ _ _ _ _ hna.out hnb.out Ia.out Ib.out) ?_
      rintro _ w17 ⟨_, rfl, ⟨ap, np, cp, rfl, HNp, hOp⟩, bN⟩
      have b17 := nbelow_trans b16 bN
      have hnp : Hid (np ≤ 1024) := by rw [HNp.out]; exact LP.out.1
      have bA := below_one w17 (.cells #[.bool Y.1, .slice ap np cp, .int .i64 Y.2.2] 31)
      have b18 := nbelow_trans b17 bA
      have IY : Hid (IsW (w17.alloc (.cells #[.bool Y.1, .slice ap np cp, .int .i64 Y.2.2] 31)) ap np cp (wordsOf Y.2.1)) := IsW.keep hOp.1 bA
      have y0 : (w17.alloc (.cells #[.bool Y.1, .slice ap np cp, .int .i64 Y.2.2] 31)).cell? ⟨w17.heap.size, 0, none⟩ = some (.bool Y.1) := by go_simp
      have y1 : (w17.alloc (.cells #[.bool Y.1, .slice ap np cp, .int .i64 Y.2.2] 31)).cell? ⟨w17.heap.size, 1, none⟩ = some (.slice ap np cp) := by go_simp
      have y2 : (w17.alloc (.cells #[.bool Y.1, .slice ap np cp, .int .i64 Y.2.2] 31)).cell? ⟨w17.heap.size, 2, none⟩ = some (.int .i64 Y.2.2) := by go_simp
      clear bN b16 b17 bA hOp HNp Ia Ib hna hnb k0 k1 k2 IS
      go_upto_region 1 with fail
      generalize (w17.alloc (.cells #[.bool Y.1, .slice ap np cp, .int .i64 Y.2.2] 31)) = w18 at *
      generalize w17.heap.size = zy at *
      obtain ⟨tp, htp⟩ : ∃ tp : Int, Hid (Y.2.2 + (blen (val (wordsOf Y.2.1)) : Int) - 1 = tp) := ⟨_, rfl⟩
      obtain ⟨tl, htl⟩ : ∃ tl : Int, Hid ((blen (val (wordsOf Y.2.1)) : Int) = tl) := ⟨_, rfl⟩
      have HTop : Hid (∀ W, IsW W ap np cp (wordsOf Y.2.1) → Calls Try.prog 16 #[dyV Y.1 ap np cp Y.2.2] W fun r w' => r = .returned (.int .i64 tp) ∧ Below W.heap.size W w') := fun W g => by
        have := qTop_calls Y.1 ap np cp (wordsOf Y.2.1) Y.2.2 W g (by have := hnp.out; omega) (by have := LP.out; omega) (by rw [val_words]; have := LP.out; omega)
        rw [htp.out] at this; exact this
      have HLen : Hid (∀ W, IsW W ap np cp (wordsOf Y.2.1) → Calls Try.prog 17 #[.slice ap np cp] W fun r w' => r = .returned (.int .i64 tl) ∧ Below W.heap.size W w') := fun W g => by
        have := nLen_calls ap np cp (wordsOf Y.2.1) W g (by have := hnp.out; omega)
        rw [htl.out] at this; exact this
      clear htp htl
      have R : Below w18.heap.size w18 (World.drew w18) := (Below.refl _ _).drew
      refine wp_region_held (S := fun w' => Below w18.heap.size w18 w') (by kernel_rfl) ?_
      change wpAnyH _ _ _ _ _ _ _ _ (World.drew w18)
      generalize World.drew w18 = wd at R ⊢
      refine wpAnyH_take (i := 0) (v := .agg #[.bool Y.1, .slice ap np cp, .int .i64 Y.2.2]) rfl (by kernel_rfl) (by kernel_rfl) (by kernel_rfl) (fun _ _ _ h => h) (Or.inl ⟨by rfl, ?y75⟩) R ?r75
      case y75 => (intro ww hS; have qy0 := dcarry_cell hS y0; have qy1 := dcarry_cell hS y1; have qy2 := dcarry_cell hS y2; clear hS; go_simp; try with_reducible rfl)
      try simp only [Act.put]
      refine wpAnyH_ready (rs := [1]) (by kernel_rfl) (by simp) ?_
      refine AllReadyH.cons rfl (fun K hK => ?_) AllReadyH.nil
      go_simp
      refine Calls.mono (HTop.out _ (IsW.keep IY.out R)) ?_
      rintro r wt1 ⟨rfl, bN⟩
      replace R := nbelow_trans R bN
      clear bN
      refine hK.out _ _ R (fun _ => ?_)
      clear hK K
      try simp only [Act.put, List.setIfInBounds_toArray, List.set_cons_zero, List.set_cons_succ]
      by_cases ht : tp < -900
      · refine wpAnyH_take (i := 2) (v := .bool true) rfl (by kernel_rfl) (by kernel_rfl) (by kernel_rfl) (fun _ _ _ h => h) (Or.inl ⟨by rfl, ?y76⟩) R ?r76
        case y76 => (intro ww hS; clear hS; go_simp; try with_reducible rfl)
        try simp only [Act.put]
        refine wpAnyH_take (i := 3) (v := .bool true) rfl (by kernel_rfl) (by kernel_rfl) (by kernel_rfl) (fun _ _ _ h => h) (Or.inl ⟨by rfl, ?y77⟩) R ?r77
        case y77 => (intro ww hS; clear hS; go_simp; try with_reducible rfl)
        try simp only [Act.put]
        refine wpAnyH_take (i := 4) (v := ?v78) rfl (by kernel_rfl) (by kernel_rfl) (by kernel_rfl) (fun _ _ _ h => h) (Or.inl ⟨by rfl, ?y78⟩) R ?r78
        case y78 => (intro ww hS; clear hS; go_simp; try with_reducible rfl)
        try simp only [Act.put]
        refine wpAnyH_take (i := 5) (v := .slice ap np cp) rfl (by kernel_rfl) (by kernel_rfl) (by kernel_rfl) (fun _ _ _ h => h) (Or.inl ⟨by rfl, ?y79⟩) R ?r79
        case y79 => (intro ww hS; have qy1 := dcarry_cell hS y1; clear hS; go_simp; try with_reducible rfl)
        try simp only [Act.put]
        refine wpAnyH_ready (rs := [6]) (by kernel_rfl) (by simp) ?_
        refine AllReadyH.cons rfl (fun K hK => ?_) AllReadyH.nil
        go_simp
        refine Calls.mono (HLen.out _ (IsW.keep IY.out R)) ?_
        rintro r wl1 ⟨rfl, bN⟩
        replace R := nbelow_trans R bN
        clear bN
        refine hK.out _ _ R (fun _ => ?_)
        clear hK K
        try simp only [Act.put, List.setIfInBounds_toArray, List.set_cons_zero, List.set_cons_succ]
        by_cases hl : 0 < tl
        · refine wpAnyH_take (i := 7) (v := .bool true) rfl (by kernel_rfl) (by kernel_rfl) (by kernel_rfl) (fun _ _ _ h => h) (Or.inl ⟨by rfl, ?y80⟩) R ?r80
          case y80 => (intro ww hS; clear hS; go_simp; try with_reducible rfl)
          try simp only [Act.put]
          refine wpAnyH_take (i := 8) (v := .bool true) rfl (by kernel_rfl) (by kernel_rfl) (by kernel_rfl) (fun _ _ _ h => h) (Or.inl ⟨by rfl, ?y81⟩) R ?r81
          case y81 => (intro ww hS; clear hS; go_simp; try with_reducible rfl)
          try simp only [Act.put]
          refine wpAnyH_take (i := 9) (v := .bool true) rfl (by kernel_rfl) (by kernel_rfl) (by kernel_rfl) (fun _ _ _ h => h) (Or.inl ⟨by rfl, ?y82⟩) R ?r82
          case y82 => (intro ww hS; clear hS; go_simp; try with_reducible rfl)
          try simp only [Act.put]
          refine wpAnyH_take (i := 10) (v := undef) rfl (by kernel_rfl) (by kernel_rfl) (by kernel_rfl) (fun _ _ _ h => h) (Or.inr ⟨by rfl, rfl⟩) R ?r83
          try simp only [Act.put]
          refine wpAnyH_take (i := 11) (v := undef) rfl (by kernel_rfl) (by kernel_rfl) (by kernel_rfl) (fun _ _ _ h => h) (Or.inr ⟨by rfl, rfl⟩) R ?r84
          try simp only [Act.put]
          refine wpAnyH_take (i := 13) (v := undef) rfl (by kernel_rfl) (by kernel_rfl) (by kernel_rfl) (fun _ _ _ h => h) (Or.inr ⟨by rfl, rfl⟩) R ?r85
          try simp only [Act.put]
          refine wpAnyH_ready (rs := [12]) (by kernel_rfl) (by simp) ?_
          refine AllReadyH.cons rfl (fun K hK => ?_) AllReadyH.nil
          go_simp
          refine hK.out _ _ R (fun _ => ?_)
          clear hK K
          try simp only [Act.put, List.setIfInBounds_toArray, List.set_cons_zero, List.set_cons_succ]
          refine wpAnyH_ready (rs := [14]) (by kernel_rfl) (by simp) ?_
          refine AllReadyH.cons rfl (fun K hK => ?_) AllReadyH.nil
          go_simp
          refine hK.out _ _ R (fun _ => ?_)
          clear hK K
          try simp only [Act.put, List.setIfInBounds_toArray, List.set_cons_zero, List.set_cons_succ]
          refine wpAnyH_take (i := 15) (v := .bool true) rfl (by kernel_rfl) (by kernel_rfl) (by kernel_rfl) (fun _ _ _ h => h) (Or.inl ⟨by rfl, ?y86⟩) R ?r86
          case y86 => (intro ww hS; clear hS; go_simp; try with_reducible rfl)
          try simp only [Act.put]
          refine wpAnyH_ready (rs := [16]) (by kernel_rfl) (by simp) ?_
          refine AllReadyH.cons rfl (fun K hK => ?_) AllReadyH.nil
          go_simp
          refine hK.out _ _ R (fun _ => ?_)
          clear hK K
          try simp only [Act.put, List.setIfInBounds_toArray, List.set_cons_zero, List.set_cons_succ]
          refine wpAnyH_done (by kernel_rfl) ?_ _
          go_wp2_with fail
          go_ret
          exact ⟨rfl, nbelow_trans b18 R⟩
        · refine wpAnyH_take (i := 7) (v := .bool false) rfl (by kernel_rfl) (by kernel_rfl) (by kernel_rfl) (fun _ _ _ h => h) (Or.inl ⟨by rfl, ?y87⟩) R ?r87
          case y87 => (intro ww hS; clear hS; go_simp; try with_reducible rfl)
          try simp only [Act.put]
          refine wpAnyH_take (i := 8) (v := .bool false) rfl (by kernel_rfl) (by kernel_rfl) (by kernel_rfl) (fun _ _ _ h => h) (Or.inl ⟨by rfl, ?y88⟩) R ?r88
          case y88 => (intro ww hS; clear hS; go_simp; try with_reducible rfl)
          try simp only [Act.put]
          refine wpAnyH_take (i := 9) (v := .bool false) rfl (by kernel_rfl) (by kernel_rfl) (by kernel_rfl) (fun _ _ _ h => h) (Or.inl ⟨by rfl, ?y89⟩) R ?r89
          case y89 => (intro ww hS; clear hS; go_simp; try with_reducible rfl)
          try simp only [Act.put]
          refine wpAnyH_take (i := 10) (v := .float .f64 p1) rfl (by kernel_rfl) (by kernel_rfl) (by kernel_rfl) (fun _ _ _ h => h) (Or.inl ⟨by rfl, ?y90⟩) R ?r90
          case y90 => (intro ww hS; clear hS; go_simp; try with_reducible rfl)
          try simp only [Act.put]
          refine wpAnyH_take (i := 11) (v := .float .f64 e1) rfl (by kernel_rfl) (by kernel_rfl) (by kernel_rfl) (fun _ _ _ h => h) (Or.inl ⟨by rfl, ?y91⟩) R ?r91
          case y91 => (intro ww hS; clear hS; go_simp; try with_reducible rfl)
          try simp only [Act.put]
          refine wpAnyH_take (i := 13) (v := .agg #[.bool Y.1, .slice ap np cp, .int .i64 Y.2.2]) rfl (by kernel_rfl) (by kernel_rfl) (by kernel_rfl) (fun _ _ _ h => h) (Or.inl ⟨by rfl, ?y92⟩) R ?r92
          case y92 => (intro ww hS; have qy0 := dcarry_cell hS y0; have qy1 := dcarry_cell hS y1; have qy2 := dcarry_cell hS y2; clear hS; go_simp; try with_reducible rfl)
          try simp only [Act.put]
          refine wpAnyH_ready (rs := [12]) (by kernel_rfl) (by simp) ?_
          refine AllReadyH.cons rfl (fun K hK => ?_) AllReadyH.nil
          go_simp
          refine Calls.mono (P4.out _) ?_
          rintro r wp1 ⟨_, rfl, ⟨a1, n1, c1, rfl, HN1, hO1⟩, bN⟩
          replace R := nbelow_trans R bN
          have I1 : Hid (IsW wp1 a1 n1 c1 (wordsOf Y.2.1)) := hO1.1
          have hn1 : Hid (n1 ≤ 1024) := by rw [HN1.out]; exact LP.out.1
          clear hO1 HN1
          clear bN
          refine hK.out _ _ R (fun _ => ?_)
          clear hK K
          try simp only [Act.put, List.setIfInBounds_toArray, List.set_cons_zero, List.set_cons_succ]
          refine wpAnyH_ready (rs := [14]) (by kernel_rfl) (by simp) ?_
          refine AllReadyH.cons rfl (fun K hK => ?_) AllReadyH.nil
          go_simp
          refine Calls.mono (sameQ Y _ _ _ _ _ _ _ I1.out (by have := hn1.out; omega) (IsW.keep IY.out R) (by have := hnp.out; omega)) ?_
          rintro r wq1 ⟨rfl, bN⟩
          replace R := nbelow_trans R bN
          clear I1 hn1
          clear bN
          refine hK.out _ _ R (fun _ => ?_)
          clear hK K
          try simp only [Act.put, List.setIfInBounds_toArray, List.set_cons_zero, List.set_cons_succ]
          refine wpAnyH_take (i := 15) (v := .bool true) rfl (by kernel_rfl) (by kernel_rfl) (by kernel_rfl) (fun _ _ _ h => h) (Or.inl ⟨by rfl, ?y93⟩) R ?r93
          case y93 => (intro ww hS; clear hS; go_simp; try with_reducible rfl)
          try simp only [Act.put]
          refine wpAnyH_ready (rs := [16]) (by kernel_rfl) (by simp) ?_
          refine AllReadyH.cons rfl (fun K hK => ?_) AllReadyH.nil
          go_simp
          refine hK.out _ _ R (fun _ => ?_)
          clear hK K
          try simp only [Act.put, List.setIfInBounds_toArray, List.set_cons_zero, List.set_cons_succ]
          refine wpAnyH_done (by kernel_rfl) ?_ _
          go_wp2_with fail
          go_ret
          exact ⟨rfl, nbelow_trans b18 R⟩
      · refine wpAnyH_take (i := 2) (v := .bool false) rfl (by kernel_rfl) (by kernel_rfl) (by kernel_rfl) (fun _ _ _ h => h) (Or.inl ⟨by rfl, ?y94⟩) R ?r94
        case y94 => (intro ww hS; clear hS; go_simp; try with_reducible rfl)
        try simp only [Act.put]
        refine wpAnyH_take (i := 3) (v := .bool false) rfl (by kernel_rfl) (by kernel_rfl) (by kernel_rfl) (fun _ _ _ h => h) (Or.inl ⟨by rfl, ?y95⟩) R ?r95
        case y95 => (intro ww hS; clear hS; go_simp; try with_reducible rfl)
        try simp only [Act.put]
        refine wpAnyH_take (i := 4) (v := undef) rfl (by kernel_rfl) (by kernel_rfl) (by kernel_rfl) (fun _ _ _ h => h) (Or.inr ⟨by rfl, rfl⟩) R ?r96
        try simp only [Act.put]
        refine wpAnyH_take (i := 5) (v := undef) rfl (by kernel_rfl) (by kernel_rfl) (by kernel_rfl) (fun _ _ _ h => h) (Or.inr ⟨by rfl, rfl⟩) R ?r97
        try simp only [Act.put]
        refine wpAnyH_ready (rs := [6]) (by kernel_rfl) (by simp) ?_
        refine AllReadyH.cons rfl (fun K hK => ?_) AllReadyH.nil
        go_simp
        refine hK.out _ _ R (fun _ => ?_)
        clear hK K
        try simp only [Act.put, List.setIfInBounds_toArray, List.set_cons_zero, List.set_cons_succ]
        refine wpAnyH_take (i := 7) (v := undef) rfl (by kernel_rfl) (by kernel_rfl) (by kernel_rfl) (fun _ _ _ h => h) (Or.inr ⟨by rfl, rfl⟩) R ?r98
        try simp only [Act.put]
        refine wpAnyH_take (i := 8) (v := .bool false) rfl (by kernel_rfl) (by kernel_rfl) (by kernel_rfl) (fun _ _ _ h => h) (Or.inl ⟨by rfl, ?y99⟩) R ?r99
        case y99 => (intro ww hS; clear hS; go_simp; try with_reducible rfl)
        try simp only [Act.put]
        refine wpAnyH_take (i := 9) (v := .bool false) rfl (by kernel_rfl) (by kernel_rfl) (by kernel_rfl) (fun _ _ _ h => h) (Or.inl ⟨by rfl, ?y100⟩) R ?r100
        case y100 => (intro ww hS; clear hS; go_simp; try with_reducible rfl)
        try simp only [Act.put]
        refine wpAnyH_take (i := 10) (v := .float .f64 p1) rfl (by kernel_rfl) (by kernel_rfl) (by kernel_rfl) (fun _ _ _ h => h) (Or.inl ⟨by rfl, ?y101⟩) R ?r101
        case y101 => (intro ww hS; clear hS; go_simp; try with_reducible rfl)
        try simp only [Act.put]
        refine wpAnyH_take (i := 11) (v := .float .f64 e1) rfl (by kernel_rfl) (by kernel_rfl) (by kernel_rfl) (fun _ _ _ h => h) (Or.inl ⟨by rfl, ?y102⟩) R ?r102
        case y102 => (intro ww hS; clear hS; go_simp; try with_reducible rfl)
        try simp only [Act.put]
        refine wpAnyH_take (i := 13) (v := .agg #[.bool Y.1, .slice ap np cp, .int .i64 Y.2.2]) rfl (by kernel_rfl) (by kernel_rfl) (by kernel_rfl) (fun _ _ _ h => h) (Or.inl ⟨by rfl, ?y103⟩) R ?r103
        case y103 => (intro ww hS; have qy0 := dcarry_cell hS y0; have qy1 := dcarry_cell hS y1; have qy2 := dcarry_cell hS y2; clear hS; go_simp; try with_reducible rfl)
        try simp only [Act.put]
        refine wpAnyH_ready (rs := [12]) (by kernel_rfl) (by simp) ?_
        refine AllReadyH.cons rfl (fun K hK => ?_) AllReadyH.nil
        go_simp
        refine Calls.mono (P4.out _) ?_
        rintro r wp1 ⟨_, rfl, ⟨a1, n1, c1, rfl, HN1, hO1⟩, bN⟩
        replace R := nbelow_trans R bN
        have I1 : Hid (IsW wp1 a1 n1 c1 (wordsOf Y.2.1)) := hO1.1
        have hn1 : Hid (n1 ≤ 1024) := by rw [HN1.out]; exact LP.out.1
        clear hO1 HN1
        clear bN
        refine hK.out _ _ R (fun _ => ?_)
        clear hK K
        try simp only [Act.put, List.setIfInBounds_toArray, List.set_cons_zero, List.set_cons_succ]
        refine wpAnyH_ready (rs := [14]) (by kernel_rfl) (by simp) ?_
        refine AllReadyH.cons rfl (fun K hK => ?_) AllReadyH.nil
        go_simp
        refine Calls.mono (sameQ Y _ _ _ _ _ _ _ I1.out (by have := hn1.out; omega) (IsW.keep IY.out R) (by have := hnp.out; omega)) ?_
        rintro r wq1 ⟨rfl, bN⟩
        replace R := nbelow_trans R bN
        clear I1 hn1
        clear bN
        refine hK.out _ _ R (fun _ => ?_)
        clear hK K
        try simp only [Act.put, List.setIfInBounds_toArray, List.set_cons_zero, List.set_cons_succ]
        refine wpAnyH_take (i := 15) (v := .bool true) rfl (by kernel_rfl) (by kernel_rfl) (by kernel_rfl) (fun _ _ _ h => h) (Or.inl ⟨by rfl, ?y104⟩) R ?r104
        case y104 => (intro ww hS; clear hS; go_simp; try with_reducible rfl)
        try simp only [Act.put]
        refine wpAnyH_ready (rs := [16]) (by kernel_rfl) (by simp) ?_
        refine AllReadyH.cons rfl (fun K hK => ?_) AllReadyH.nil
        go_simp
        refine hK.out _ _ R (fun _ => ?_)
        clear hK K
        try simp only [Act.put, List.setIfInBounds_toArray, List.set_cons_zero, List.set_cons_succ]
        refine wpAnyH_done (by kernel_rfl) ?_ _
        go_wp2_with fail
        go_ret
        exact ⟨rfl, nbelow_trans b18 R⟩
    · have hle' : (FloatKind.f64.format.order (Fp.absF b) (Fp.absF a) == some .lt || FloatKind.f64.format.order (Fp.absF b) (Fp.absF a) == some .eq) = false := Bool.eq_false_iff.2 hle
      clear S2 hle
      have R : Below wg1.heap.size wg1 (World.drew wg1) := (Below.refl _ _).drew
      refine wp_region_held (S := fun w' => Below wg1.heap.size wg1 w') (by kernel_rfl) ?_
      change wpAnyH _ _ _ _ _ _ _ _ (World.drew wg1)
      generalize World.drew wg1 = wd at R ⊢
      refine wpAnyH_take (i := 0) (v := .float .f64 a) rfl (by kernel_rfl) (by kernel_rfl) (by kernel_rfl) (fun _ _ _ h => h) (Or.inl ⟨by rfl, ?y105⟩) R ?r105
      case y105 => (intro ww hS; clear hS; go_simp; try with_reducible rfl)
      try simp only [Act.put]
      refine wpAnyH_take (i := 1) (v := .bool false) rfl (by kernel_rfl) (by kernel_rfl) (by kernel_rfl) (fun _ _ _ h => h) (Or.inl ⟨by rfl, ?y106⟩) R ?r106
      case y106 => (intro ww hS; clear hS; go_simp; try with_reducible rfl)
      try simp only [Act.put]
      refine wpAnyH_take (i := 2) (v := .bool false) rfl (by kernel_rfl) (by kernel_rfl) (by kernel_rfl) (fun _ _ _ h => h) (Or.inl ⟨by rfl, ?y107⟩) R ?r107
      case y107 => (intro ww hS; clear hS; go_simp; try with_reducible rfl)
      try simp only [Act.put]
      refine wpAnyH_take (i := 3) (v := .float .f64 b) rfl (by kernel_rfl) (by kernel_rfl) (by kernel_rfl) (fun _ _ _ h => h) (Or.inl ⟨by rfl, ?y108⟩) R ?r108
      case y108 => (intro ww hS; clear hS; go_simp; try with_reducible rfl)
      try simp only [Act.put]
      refine wpAnyH_take (i := 5) (v := .float .f64 a) rfl (by kernel_rfl) (by kernel_rfl) (by kernel_rfl) (fun _ _ _ h => h) (Or.inl ⟨by rfl, ?y109⟩) R ?r109
      case y109 => (intro ww hS; clear hS; go_simp; try with_reducible rfl)
      try simp only [Act.put]
      refine wpAnyH_ready (rs := [4]) (by kernel_rfl) (by simp) ?_
      refine AllReadyH.cons rfl (fun K hK => ?_) AllReadyH.nil
      go_simp
      refine Calls.mono (AB.out _) ?_
      rintro r wx ⟨rfl, rfl⟩
      refine hK.out _ _ R (fun _ => ?_)
      clear hK K
      try simp only [Act.put, List.setIfInBounds_toArray, List.set_cons_zero, List.set_cons_succ]
      refine wpAnyH_ready (rs := [6]) (by kernel_rfl) (by simp) ?_
      refine AllReadyH.cons rfl (fun K hK => ?_) AllReadyH.nil
      go_simp
      refine Calls.mono (AA.out _) ?_
      rintro r wx ⟨rfl, rfl⟩
      refine hK.out _ _ R (fun _ => ?_)
      clear hK K
      try simp only [Act.put, List.setIfInBounds_toArray, List.set_cons_zero, List.set_cons_succ]
      refine wpAnyH_take (i := 7) (v := .bool false) rfl (by kernel_rfl) (by kernel_rfl) (by kernel_rfl) (fun _ _ _ h => h) (Or.inl ⟨by rfl, ?y110⟩) R ?r110
      case y110 => (intro ww hS; clear hS; go_simp; try with_reducible rfl)
      try simp only [Act.put]
      refine wpAnyH_take (i := 8) (v := .bool false) rfl (by kernel_rfl) (by kernel_rfl) (by kernel_rfl) (fun _ _ _ h => h) (Or.inl ⟨by rfl, ?y111⟩) R ?r111
      case y111 => (intro ww hS; clear hS; go_simp; try with_reducible rfl)
      try simp only [Act.put]
      refine wpAnyH_take (i := 9) (v := .bool false) rfl (by kernel_rfl) (by kernel_rfl) (by kernel_rfl) (fun _ _ _ h => h) (Or.inl ⟨by rfl, ?y112⟩) R ?r112
      case y112 => (intro ww hS; clear hS; go_simp; try with_reducible rfl)
      try simp only [Act.put]
      refine wpAnyH_take (i := 10) (v := undef) rfl (by kernel_rfl) (by kernel_rfl) (by kernel_rfl) (fun _ _ _ h => h) (Or.inr ⟨by rfl, rfl⟩) R ?r113
      try simp only [Act.put]
      refine wpAnyH_take (i := 11) (v := undef) rfl (by kernel_rfl) (by kernel_rfl) (by kernel_rfl) (fun _ _ _ h => h) (Or.inr ⟨by rfl, rfl⟩) R ?r114
      try simp only [Act.put]
      refine wpAnyH_take (i := 13) (v := undef) rfl (by kernel_rfl) (by kernel_rfl) (by kernel_rfl) (fun _ _ _ h => h) (Or.inr ⟨by rfl, rfl⟩) R ?r115
      try simp only [Act.put]
      refine wpAnyH_ready (rs := [12]) (by kernel_rfl) (by simp) ?_
      refine AllReadyH.cons rfl (fun K hK => ?_) AllReadyH.nil
      go_simp
      refine hK.out _ _ R (fun _ => ?_)
      clear hK K
      try simp only [Act.put, List.setIfInBounds_toArray, List.set_cons_zero, List.set_cons_succ]
      refine wpAnyH_ready (rs := [14]) (by kernel_rfl) (by simp) ?_
      refine AllReadyH.cons rfl (fun K hK => ?_) AllReadyH.nil
      go_simp
      refine hK.out _ _ R (fun _ => ?_)
      clear hK K
      try simp only [Act.put, List.setIfInBounds_toArray, List.set_cons_zero, List.set_cons_succ]
      refine wpAnyH_take (i := 15) (v := undef) rfl (by kernel_rfl) (by kernel_rfl) (by kernel_rfl) (fun _ _ _ h => h) (Or.inr ⟨by rfl, rfl⟩) R ?r116
      try simp only [Act.put]
      refine wpAnyH_take (i := 16) (v := .bool false) rfl (by kernel_rfl) (by kernel_rfl) (by kernel_rfl) (fun _ _ _ h => h) (Or.inl ⟨by rfl, ?y117⟩) R ?r117
      case y117 => (intro ww hS; clear hS; go_simp; try with_reducible rfl)
      try simp only [Act.put]
      refine wpAnyH_done (by kernel_rfl) ?_ _
      replace k0 := dcarry_cell R k0
      replace k1 := dcarry_cell R k1
      replace k2 := dcarry_cell R k2
      replace b13 := nbelow_trans b13 R
      have IS2 := IsW.keep IS.out R
      clear IS
      have IS : Hid (IsW _ aS nS cS (wordsOf X.2.1)) := IS2
      clear R IS2
      go_wp2_with fail
      refine Calls.mono (Na.out _) ?_
      rintro _ w15 ⟨_, rfl, ⟨aa, na, ca, rfl, HNa, hOa⟩, bN⟩
      have b15 := nbelow_trans b13 bN
      have Ia : Hid (IsW w15 aa na ca (wordsOf A.2.1)) := hOa.1
      have hna : Hid (na ≤ 1024) := by rw [HNa.out]; exact LA.out
      clear bN HNa hOa b13
      go_wp2_with fail
      refine Calls.mono (Nb.out _) ?_
      rintro _ w16 ⟨_, rfl, ⟨ab, nb, cb, rfl, HNb, hOb⟩, bN⟩
      have b16 := nbelow_trans b15 bN
      replace Ia : Hid (IsW w16 aa na ca (wordsOf A.2.1)) := IsW.keep Ia.out bN
      have Ib : Hid (IsW w16 ab nb cb (wordsOf B.2.1)) := hOb.1
      have hnb : Hid (nb ≤ 1024) := by rw [HNb.out]; exact LB.out
      clear bN b15 HNb hOb
      go_wp2_with fail
      refine Calls.mono (HT.out _ _ _ _ _ _ _ hna.out hnb.out Ia.out Ib.out) ?_
      rintro _ w17 ⟨_, rfl, ⟨ap, np, cp, rfl, HNp, hOp⟩, bN⟩
      have b17 := nbelow_trans b16 bN
      have hnp : Hid (np ≤ 1024) := by rw [HNp.out]; exact LP.out.1
      have bA := below_one w17 (.cells #[.bool Y.1, .slice ap np cp, .int .i64 Y.2.2] 31)
      have b18 := nbelow_trans b17 bA
      have IY : Hid (IsW (w17.alloc (.cells #[.bool Y.1, .slice ap np cp, .int .i64 Y.2.2] 31)) ap np cp (wordsOf Y.2.1)) := IsW.keep hOp.1 bA
      have y0 : (w17.alloc (.cells #[.bool Y.1, .slice ap np cp, .int .i64 Y.2.2] 31)).cell? ⟨w17.heap.size, 0, none⟩ = some (.bool Y.1) := by go_simp
      have y1 : (w17.alloc (.cells #[.bool Y.1, .slice ap np cp, .int .i64 Y.2.2] 31)).cell? ⟨w17.heap.size, 1, none⟩ = some (.slice ap np cp) := by go_simp
      have y2 : (w17.alloc (.cells #[.bool Y.1, .slice ap np cp, .int .i64 Y.2.2] 31)).cell? ⟨w17.heap.size, 2, none⟩ = some (.int .i64 Y.2.2) := by go_simp
      clear bN b16 b17 bA hOp HNp Ia Ib hna hnb k0 k1 k2 IS
      go_upto_region 1 with fail
      generalize (w17.alloc (.cells #[.bool Y.1, .slice ap np cp, .int .i64 Y.2.2] 31)) = w18 at *
      generalize w17.heap.size = zy at *
      obtain ⟨tp, htp⟩ : ∃ tp : Int, Hid (Y.2.2 + (blen (val (wordsOf Y.2.1)) : Int) - 1 = tp) := ⟨_, rfl⟩
      obtain ⟨tl, htl⟩ : ∃ tl : Int, Hid ((blen (val (wordsOf Y.2.1)) : Int) = tl) := ⟨_, rfl⟩
      have HTop : Hid (∀ W, IsW W ap np cp (wordsOf Y.2.1) → Calls Try.prog 16 #[dyV Y.1 ap np cp Y.2.2] W fun r w' => r = .returned (.int .i64 tp) ∧ Below W.heap.size W w') := fun W g => by
        have := qTop_calls Y.1 ap np cp (wordsOf Y.2.1) Y.2.2 W g (by have := hnp.out; omega) (by have := LP.out; omega) (by rw [val_words]; have := LP.out; omega)
        rw [htp.out] at this; exact this
      have HLen : Hid (∀ W, IsW W ap np cp (wordsOf Y.2.1) → Calls Try.prog 17 #[.slice ap np cp] W fun r w' => r = .returned (.int .i64 tl) ∧ Below W.heap.size W w') := fun W g => by
        have := nLen_calls ap np cp (wordsOf Y.2.1) W g (by have := hnp.out; omega)
        rw [htl.out] at this; exact this
      clear htp htl
      have R : Below w18.heap.size w18 (World.drew w18) := (Below.refl _ _).drew
      refine wp_region_held (S := fun w' => Below w18.heap.size w18 w') (by kernel_rfl) ?_
      change wpAnyH _ _ _ _ _ _ _ _ (World.drew w18)
      generalize World.drew w18 = wd at R ⊢
      refine wpAnyH_take (i := 0) (v := .agg #[.bool Y.1, .slice ap np cp, .int .i64 Y.2.2]) rfl (by kernel_rfl) (by kernel_rfl) (by kernel_rfl) (fun _ _ _ h => h) (Or.inl ⟨by rfl, ?y118⟩) R ?r118
      case y118 => (intro ww hS; have qy0 := dcarry_cell hS y0; have qy1 := dcarry_cell hS y1; have qy2 := dcarry_cell hS y2; clear hS; go_simp; try with_reducible rfl)
      try simp only [Act.put]
      refine wpAnyH_ready (rs := [1]) (by kernel_rfl) (by simp) ?_
      refine AllReadyH.cons rfl (fun K hK => ?_) AllReadyH.nil
      go_simp
      refine Calls.mono (HTop.out _ (IsW.keep IY.out R)) ?_
      rintro r wt1 ⟨rfl, bN⟩
      replace R := nbelow_trans R bN
      clear bN
      refine hK.out _ _ R (fun _ => ?_)
      clear hK K
      try simp only [Act.put, List.setIfInBounds_toArray, List.set_cons_zero, List.set_cons_succ]
      by_cases ht : tp < -900
      · refine wpAnyH_take (i := 2) (v := .bool true) rfl (by kernel_rfl) (by kernel_rfl) (by kernel_rfl) (fun _ _ _ h => h) (Or.inl ⟨by rfl, ?y119⟩) R ?r119
        case y119 => (intro ww hS; clear hS; go_simp; try with_reducible rfl)
        try simp only [Act.put]
        refine wpAnyH_take (i := 3) (v := .bool true) rfl (by kernel_rfl) (by kernel_rfl) (by kernel_rfl) (fun _ _ _ h => h) (Or.inl ⟨by rfl, ?y120⟩) R ?r120
        case y120 => (intro ww hS; clear hS; go_simp; try with_reducible rfl)
        try simp only [Act.put]
        refine wpAnyH_take (i := 4) (v := ?v121) rfl (by kernel_rfl) (by kernel_rfl) (by kernel_rfl) (fun _ _ _ h => h) (Or.inl ⟨by rfl, ?y121⟩) R ?r121
        case y121 => (intro ww hS; clear hS; go_simp; try with_reducible rfl)
        try simp only [Act.put]
        refine wpAnyH_take (i := 5) (v := .slice ap np cp) rfl (by kernel_rfl) (by kernel_rfl) (by kernel_rfl) (fun _ _ _ h => h) (Or.inl ⟨by rfl, ?y122⟩) R ?r122
        case y122 => (intro ww hS; have qy1 := dcarry_cell hS y1; clear hS; go_simp; try with_reducible rfl)
        try simp only [Act.put]
        refine wpAnyH_ready (rs := [6]) (by kernel_rfl) (by simp) ?_
        refine AllReadyH.cons rfl (fun K hK => ?_) AllReadyH.nil
        go_simp
        refine Calls.mono (HLen.out _ (IsW.keep IY.out R)) ?_
        rintro r wl1 ⟨rfl, bN⟩
        replace R := nbelow_trans R bN
        clear bN
        refine hK.out _ _ R (fun _ => ?_)
        clear hK K
        try simp only [Act.put, List.setIfInBounds_toArray, List.set_cons_zero, List.set_cons_succ]
        by_cases hl : 0 < tl
        · refine wpAnyH_take (i := 7) (v := .bool true) rfl (by kernel_rfl) (by kernel_rfl) (by kernel_rfl) (fun _ _ _ h => h) (Or.inl ⟨by rfl, ?y123⟩) R ?r123
          case y123 => (intro ww hS; clear hS; go_simp; try with_reducible rfl)
          try simp only [Act.put]
          refine wpAnyH_take (i := 8) (v := .bool true) rfl (by kernel_rfl) (by kernel_rfl) (by kernel_rfl) (fun _ _ _ h => h) (Or.inl ⟨by rfl, ?y124⟩) R ?r124
          case y124 => (intro ww hS; clear hS; go_simp; try with_reducible rfl)
          try simp only [Act.put]
          refine wpAnyH_take (i := 9) (v := .bool true) rfl (by kernel_rfl) (by kernel_rfl) (by kernel_rfl) (fun _ _ _ h => h) (Or.inl ⟨by rfl, ?y125⟩) R ?r125
          case y125 => (intro ww hS; clear hS; go_simp; try with_reducible rfl)
          try simp only [Act.put]
          refine wpAnyH_take (i := 10) (v := undef) rfl (by kernel_rfl) (by kernel_rfl) (by kernel_rfl) (fun _ _ _ h => h) (Or.inr ⟨by rfl, rfl⟩) R ?r126
          try simp only [Act.put]
          refine wpAnyH_take (i := 11) (v := undef) rfl (by kernel_rfl) (by kernel_rfl) (by kernel_rfl) (fun _ _ _ h => h) (Or.inr ⟨by rfl, rfl⟩) R ?r127
          try simp only [Act.put]
          refine wpAnyH_take (i := 13) (v := undef) rfl (by kernel_rfl) (by kernel_rfl) (by kernel_rfl) (fun _ _ _ h => h) (Or.inr ⟨by rfl, rfl⟩) R ?r128
          try simp only [Act.put]
          refine wpAnyH_ready (rs := [12]) (by kernel_rfl) (by simp) ?_
          refine AllReadyH.cons rfl (fun K hK => ?_) AllReadyH.nil
          go_simp
          refine hK.out _ _ R (fun _ => ?_)
          clear hK K
          try simp only [Act.put, List.setIfInBounds_toArray, List.set_cons_zero, List.set_cons_succ]
          refine wpAnyH_ready (rs := [14]) (by kernel_rfl) (by simp) ?_
          refine AllReadyH.cons rfl (fun K hK => ?_) AllReadyH.nil
          go_simp
          refine hK.out _ _ R (fun _ => ?_)
          clear hK K
          try simp only [Act.put, List.setIfInBounds_toArray, List.set_cons_zero, List.set_cons_succ]
          refine wpAnyH_take (i := 15) (v := .bool true) rfl (by kernel_rfl) (by kernel_rfl) (by kernel_rfl) (fun _ _ _ h => h) (Or.inl ⟨by rfl, ?y129⟩) R ?r129
          case y129 => (intro ww hS; clear hS; go_simp; try with_reducible rfl)
          try simp only [Act.put]
          refine wpAnyH_ready (rs := [16]) (by kernel_rfl) (by simp) ?_
          refine AllReadyH.cons rfl (fun K hK => ?_) AllReadyH.nil
          go_simp
          refine hK.out _ _ R (fun _ => ?_)
          clear hK K
          try simp only [Act.put, List.setIfInBounds_toArray, List.set_cons_zero, List.set_cons_succ]
          refine wpAnyH_done (by kernel_rfl) ?_ _
          go_wp2_with fail
          go_ret
          exact ⟨rfl, nbelow_trans b18 R⟩
        · refine wpAnyH_take (i := 7) (v := .bool false) rfl (by kernel_rfl) (by kernel_rfl) (by kernel_rfl) (fun _ _ _ h => h) (Or.inl ⟨by rfl, ?y130⟩) R ?r130
          case y130 => (intro ww hS; clear hS; go_simp; try with_reducible rfl)
          try simp only [Act.put]
          refine wpAnyH_take (i := 8) (v := .bool false) rfl (by kernel_rfl) (by kernel_rfl) (by kernel_rfl) (fun _ _ _ h => h) (Or.inl ⟨by rfl, ?y131⟩) R ?r131
          case y131 => (intro ww hS; clear hS; go_simp; try with_reducible rfl)
          try simp only [Act.put]
          refine wpAnyH_take (i := 9) (v := .bool false) rfl (by kernel_rfl) (by kernel_rfl) (by kernel_rfl) (fun _ _ _ h => h) (Or.inl ⟨by rfl, ?y132⟩) R ?r132
          case y132 => (intro ww hS; clear hS; go_simp; try with_reducible rfl)
          try simp only [Act.put]
          refine wpAnyH_take (i := 10) (v := .float .f64 p1) rfl (by kernel_rfl) (by kernel_rfl) (by kernel_rfl) (fun _ _ _ h => h) (Or.inl ⟨by rfl, ?y133⟩) R ?r133
          case y133 => (intro ww hS; clear hS; go_simp; try with_reducible rfl)
          try simp only [Act.put]
          refine wpAnyH_take (i := 11) (v := .float .f64 e1) rfl (by kernel_rfl) (by kernel_rfl) (by kernel_rfl) (fun _ _ _ h => h) (Or.inl ⟨by rfl, ?y134⟩) R ?r134
          case y134 => (intro ww hS; clear hS; go_simp; try with_reducible rfl)
          try simp only [Act.put]
          refine wpAnyH_take (i := 13) (v := .agg #[.bool Y.1, .slice ap np cp, .int .i64 Y.2.2]) rfl (by kernel_rfl) (by kernel_rfl) (by kernel_rfl) (fun _ _ _ h => h) (Or.inl ⟨by rfl, ?y135⟩) R ?r135
          case y135 => (intro ww hS; have qy0 := dcarry_cell hS y0; have qy1 := dcarry_cell hS y1; have qy2 := dcarry_cell hS y2; clear hS; go_simp; try with_reducible rfl)
          try simp only [Act.put]
          refine wpAnyH_ready (rs := [12]) (by kernel_rfl) (by simp) ?_
          refine AllReadyH.cons rfl (fun K hK => ?_) AllReadyH.nil
          go_simp
          refine Calls.mono (P4.out _) ?_
          rintro r wp1 ⟨_, rfl, ⟨a1, n1, c1, rfl, HN1, hO1⟩, bN⟩
          replace R := nbelow_trans R bN
          have I1 : Hid (IsW wp1 a1 n1 c1 (wordsOf Y.2.1)) := hO1.1
          have hn1 : Hid (n1 ≤ 1024) := by rw [HN1.out]; exact LP.out.1
          clear hO1 HN1
          clear bN
          refine hK.out _ _ R (fun _ => ?_)
          clear hK K
          try simp only [Act.put, List.setIfInBounds_toArray, List.set_cons_zero, List.set_cons_succ]
          refine wpAnyH_ready (rs := [14]) (by kernel_rfl) (by simp) ?_
          refine AllReadyH.cons rfl (fun K hK => ?_) AllReadyH.nil
          go_simp
          refine Calls.mono (sameQ Y _ _ _ _ _ _ _ I1.out (by have := hn1.out; omega) (IsW.keep IY.out R) (by have := hnp.out; omega)) ?_
          rintro r wq1 ⟨rfl, bN⟩
          replace R := nbelow_trans R bN
          clear I1 hn1
          clear bN
          refine hK.out _ _ R (fun _ => ?_)
          clear hK K
          try simp only [Act.put, List.setIfInBounds_toArray, List.set_cons_zero, List.set_cons_succ]
          refine wpAnyH_take (i := 15) (v := .bool true) rfl (by kernel_rfl) (by kernel_rfl) (by kernel_rfl) (fun _ _ _ h => h) (Or.inl ⟨by rfl, ?y136⟩) R ?r136
          case y136 => (intro ww hS; clear hS; go_simp; try with_reducible rfl)
          try simp only [Act.put]
          refine wpAnyH_ready (rs := [16]) (by kernel_rfl) (by simp) ?_
          refine AllReadyH.cons rfl (fun K hK => ?_) AllReadyH.nil
          go_simp
          refine hK.out _ _ R (fun _ => ?_)
          clear hK K
          try simp only [Act.put, List.setIfInBounds_toArray, List.set_cons_zero, List.set_cons_succ]
          refine wpAnyH_done (by kernel_rfl) ?_ _
          go_wp2_with fail
          go_ret
          exact ⟨rfl, nbelow_trans b18 R⟩
      · refine wpAnyH_take (i := 2) (v := .bool false) rfl (by kernel_rfl) (by kernel_rfl) (by kernel_rfl) (fun _ _ _ h => h) (Or.inl ⟨by rfl, ?y137⟩) R ?r137
        case y137 => (intro ww hS; clear hS; go_simp; try with_reducible rfl)
        try simp only [Act.put]
        refine wpAnyH_take (i := 3) (v := .bool false) rfl (by kernel_rfl) (by kernel_rfl) (by kernel_rfl) (fun _ _ _ h => h) (Or.inl ⟨by rfl, ?y138⟩) R ?r138
        case y138 => (intro ww hS; clear hS; go_simp; try with_reducible rfl)
        try simp only [Act.put]
        refine wpAnyH_take (i := 4) (v := undef) rfl (by kernel_rfl) (by kernel_rfl) (by kernel_rfl) (fun _ _ _ h => h) (Or.inr ⟨by rfl, rfl⟩) R ?r139
        try simp only [Act.put]
        refine wpAnyH_take (i := 5) (v := undef) rfl (by kernel_rfl) (by kernel_rfl) (by kernel_rfl) (fun _ _ _ h => h) (Or.inr ⟨by rfl, rfl⟩) R ?r140
        try simp only [Act.put]
        refine wpAnyH_ready (rs := [6]) (by kernel_rfl) (by simp) ?_
        refine AllReadyH.cons rfl (fun K hK => ?_) AllReadyH.nil
        go_simp
        refine hK.out _ _ R (fun _ => ?_)
        clear hK K
        try simp only [Act.put, List.setIfInBounds_toArray, List.set_cons_zero, List.set_cons_succ]
        refine wpAnyH_take (i := 7) (v := undef) rfl (by kernel_rfl) (by kernel_rfl) (by kernel_rfl) (fun _ _ _ h => h) (Or.inr ⟨by rfl, rfl⟩) R ?r141
        try simp only [Act.put]
        refine wpAnyH_take (i := 8) (v := .bool false) rfl (by kernel_rfl) (by kernel_rfl) (by kernel_rfl) (fun _ _ _ h => h) (Or.inl ⟨by rfl, ?y142⟩) R ?r142
        case y142 => (intro ww hS; clear hS; go_simp; try with_reducible rfl)
        try simp only [Act.put]
        refine wpAnyH_take (i := 9) (v := .bool false) rfl (by kernel_rfl) (by kernel_rfl) (by kernel_rfl) (fun _ _ _ h => h) (Or.inl ⟨by rfl, ?y143⟩) R ?r143
        case y143 => (intro ww hS; clear hS; go_simp; try with_reducible rfl)
        try simp only [Act.put]
        refine wpAnyH_take (i := 10) (v := .float .f64 p1) rfl (by kernel_rfl) (by kernel_rfl) (by kernel_rfl) (fun _ _ _ h => h) (Or.inl ⟨by rfl, ?y144⟩) R ?r144
        case y144 => (intro ww hS; clear hS; go_simp; try with_reducible rfl)
        try simp only [Act.put]
        refine wpAnyH_take (i := 11) (v := .float .f64 e1) rfl (by kernel_rfl) (by kernel_rfl) (by kernel_rfl) (fun _ _ _ h => h) (Or.inl ⟨by rfl, ?y145⟩) R ?r145
        case y145 => (intro ww hS; clear hS; go_simp; try with_reducible rfl)
        try simp only [Act.put]
        refine wpAnyH_take (i := 13) (v := .agg #[.bool Y.1, .slice ap np cp, .int .i64 Y.2.2]) rfl (by kernel_rfl) (by kernel_rfl) (by kernel_rfl) (fun _ _ _ h => h) (Or.inl ⟨by rfl, ?y146⟩) R ?r146
        case y146 => (intro ww hS; have qy0 := dcarry_cell hS y0; have qy1 := dcarry_cell hS y1; have qy2 := dcarry_cell hS y2; clear hS; go_simp; try with_reducible rfl)
        try simp only [Act.put]
        refine wpAnyH_ready (rs := [12]) (by kernel_rfl) (by simp) ?_
        refine AllReadyH.cons rfl (fun K hK => ?_) AllReadyH.nil
        go_simp
        refine Calls.mono (P4.out _) ?_
        rintro r wp1 ⟨_, rfl, ⟨a1, n1, c1, rfl, HN1, hO1⟩, bN⟩
        replace R := nbelow_trans R bN
        have I1 : Hid (IsW wp1 a1 n1 c1 (wordsOf Y.2.1)) := hO1.1
        have hn1 : Hid (n1 ≤ 1024) := by rw [HN1.out]; exact LP.out.1
        clear hO1 HN1
        clear bN
        refine hK.out _ _ R (fun _ => ?_)
        clear hK K
        try simp only [Act.put, List.setIfInBounds_toArray, List.set_cons_zero, List.set_cons_succ]
        refine wpAnyH_ready (rs := [14]) (by kernel_rfl) (by simp) ?_
        refine AllReadyH.cons rfl (fun K hK => ?_) AllReadyH.nil
        go_simp
        refine Calls.mono (sameQ Y _ _ _ _ _ _ _ I1.out (by have := hn1.out; omega) (IsW.keep IY.out R) (by have := hnp.out; omega)) ?_
        rintro r wq1 ⟨rfl, bN⟩
        replace R := nbelow_trans R bN
        clear I1 hn1
        clear bN
        refine hK.out _ _ R (fun _ => ?_)
        clear hK K
        try simp only [Act.put, List.setIfInBounds_toArray, List.set_cons_zero, List.set_cons_succ]
        refine wpAnyH_take (i := 15) (v := .bool true) rfl (by kernel_rfl) (by kernel_rfl) (by kernel_rfl) (fun _ _ _ h => h) (Or.inl ⟨by rfl, ?y147⟩) R ?r147
        case y147 => (intro ww hS; clear hS; go_simp; try with_reducible rfl)
        try simp only [Act.put]
        refine wpAnyH_ready (rs := [16]) (by kernel_rfl) (by simp) ?_
        refine AllReadyH.cons rfl (fun K hK => ?_) AllReadyH.nil
        go_simp
        refine hK.out _ _ R (fun _ => ?_)
        clear hK K
        try simp only [Act.put, List.setIfInBounds_toArray, List.set_cons_zero, List.set_cons_succ]
        refine wpAnyH_done (by kernel_rfl) ?_ _
        go_wp2_with fail
        go_ret
        exact ⟨rfl, nbelow_trans b18 R⟩
end Go.Proofs.Ytgghojlijchblaa

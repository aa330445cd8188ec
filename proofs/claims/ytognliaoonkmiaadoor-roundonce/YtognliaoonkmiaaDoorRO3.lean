/- RoundOnce: what a number is rounded to is no further than its neighbours. -/
import Derived.Test.YtognliaoonkmiaaDoorRO2
import Derived.Test.YtognliaoonkmiaaDoorRDG
namespace Go.Proofs.YtognliaoonkmiaaDoor
open Go.RowKit

theorem inx_vals (y : Int) (t : Bool) : inxF y t = 16 ∨ inxF y t = 20 ∨ inxF y t = 24 ∨ inxF y t = 28 := by
  unfold inxF
  split <;> split <;> simp
theorem from_bds (z : Int) : -2000 ≤ (fromP z).2.2 ∧ (fromP z).2.2 ≤ 4000 ∧ blen (fromP z).2.1 ≤ 64 := by
  unfold fromP
  split
  · have hu : -1074 ≤ unitV z ∧ unitV z ≤ 972 := by unfold unitV expV; split <;> omega
    have hc : (countV z).toNat < 2 ^ 64 := by
      have : 0 ≤ countV z ∧ countV z < 9007199254740992 := by unfold countV fracV; split <;> omega
      rw [show (2 : Nat) ^ 64 = 18446744073709551616 by decide]
      omega
    have hb := (blen_le _ 64).2 hc
    unfold fromD
    refine ⟨form_lo _ _ _ _ (by omega) (by decide), ?_, Nat.le_trans (blen_mono (form_amount_le _ _ _)) hb⟩
    by_cases h0 : (countV z).toNat = 0
    · rw [h0, form_zero]; decide
    · rw [form_pos _ h0]
      have := tz_le_blen (countV z).toNat
      show unitV z + (tz (countV z).toNat : Int) ≤ 4000
      omega
  · exact ⟨by decide, by decide, by decide +kernel⟩
theorem sum_size (x y : Bool × Nat × Int) (hx : blen x.2.1 ≤ 65536) (hy : blen y.2.1 ≤ 65536) (ex : -32768 ≤ x.2.2 ∧ x.2.2 ≤ 98304) (ey : -32768 ≤ y.2.2 ∧ y.2.2 ≤ 98304) : -5000000 ≤ (sumD x y).2.2 ∧ (sumD x y).2.2 ≤ 5000000 ∧ blen (sumD x y).2.1 ≤ 5000000 := by
  by_cases hx0 : x.2.1 = 0
  · have es : sumD x y = y := by unfold sumD; rw [if_pos hx0]
    rw [es]; omega
  by_cases hy0 : y.2.1 = 0
  · have es : sumD x y = x := by unfold sumD; rw [if_neg hx0, if_pos hy0]
    rw [es]; omega
  obtain ⟨ee, hee⟩ : ∃ ee : Int, min x.2.2 y.2.2 = ee := ⟨_, rfl⟩
  obtain ⟨i, hi⟩ : ∃ i : Nat, x.2.2 - ee = (i : Int) := ⟨(x.2.2 - ee).toNat, by omega⟩
  obtain ⟨j, hj⟩ : ∃ j : Nat, y.2.2 - ee = (j : Int) := ⟨(y.2.2 - ee).toNat, by omega⟩
  have hs := plus_q x y hx0 hy0 ee hee i hi j hj
  have hM : blen (x.2.1 * 2 ^ i) ≤ 300000 := by rw [blen_mul _ _ hx0]; omega
  have hN : blen (y.2.1 * 2 ^ j) ≤ 300000 := by rw [blen_mul _ _ hy0]; omega
  rw [hs]
  generalize x.2.1 * 2 ^ i = M at *
  generalize y.2.1 * 2 ^ j = N at *
  obtain ⟨E, hE⟩ : ∃ E : Nat, E = 300000 := ⟨_, rfl⟩
  rw [← hE] at hM hN
  have key : ∀ (t : Bool) (V : Nat), V ≤ M + N → -5000000 ≤ (formD t V ee).2.2 ∧ (formD t V ee).2.2 ≤ 5000000 ∧ blen (formD t V ee).2.1 ≤ 5000000 := fun t V hV => by
    have h1 := (blen_le _ _).1 hM
    have h2 := (blen_le _ _).1 hN
    have hb : blen V ≤ E + 1 := (blen_le _ _).2 (by rw [Nat.pow_succ]; omega)
    by_cases h0 : V = 0
    · rw [h0, form_zero]; exact ⟨by decide, by decide, by decide +kernel⟩
    · have ht := tz_le_blen V
      have hd := blen_mono (form_amount_le t V ee)
      rw [form_pos _ h0] at hd ⊢
      refine ⟨?_, ?_, ?_⟩
      · show -5000000 ≤ ee + (tz V : Int); omega
      · show ee + (tz V : Int) ≤ 5000000; omega
      · exact Nat.le_trans hd (by omega)
  split
  · exact key _ _ (Nat.le_refl _)
  · split
    · exact key _ _ (by omega)
    · exact key _ _ (by omega)
theorem far_bds (z : Int) (s : Bool) {m : Nat} {e : Int} (hr : rightB m e = true) : CanD (farD (fromP z) (formD s m e)) ∧ (wordsOf (farD (fromP z) (formD s m e)).2.1).length ≤ 2000001 ∧ -5000000 ≤ (farD (fromP z) (formD s m e)).2.2 ∧ (farD (fromP z) (formD s m e)).2.2 ≤ 5000000 ∧ blen (farD (fromP z) (formD s m e)).2.1 ≤ 5000000 := by
  have f1 := from_bds z
  have f2 := form_blen s hr
  have f3 := form_rng s hr
  have he := (rightB_yes hr).2
  have hg := right_blen hr
  have e1 : negD (formD s m e) = formD (!s) m e := (form_turn s m e).symm
  unfold farD
  rw [e1]
  have cs : CanD (sumD (fromP z) (formD (!s) m e)) := sum_canP (from_can z).1 (form_can _ _ _)
  have f4 := form_blen (!s) hr
  have f5 : -32768 ≤ (formD (!s) m e).2.2 ∧ (formD (!s) m e).2.2 ≤ 98304 := by
    refine ⟨form_lo _ _ _ _ (by omega) (by decide), ?_⟩
    by_cases h0 : m = 0
    · rw [h0, form_zero]; decide
    · rw [form_pos _ h0]
      have := tz_le_blen m
      show e + (tz m : Int) ≤ 98304
      omega
  have hl := sumlen (fromP z) (formD (!s) m e) (by omega) (by omega) (by omega) (by omega)
  have hx := sum_size (fromP z) (formD (!s) m e) (by omega) (by omega) (by omega) (by omega)
  refine ⟨?_, hl, hx.1, hx.2.1, hx.2.2⟩
  unfold absD
  rcases cs with c | c
  · rw [c]; exact .inl rfl
  · exact .inr c

set_option maxRecDepth 100000 in
set_option maxHeartbeats 16000000 in
theorem roundOnce_walk (x : Int) (s : Bool) (a : Option Addr) (len cap : Nat) (xs : List Int) (e : Int) (w : World) (ux : U x) (h : IsW w a len cap xs) (hm : len ≤ 17592186044000) (_he : -9223372036854775808 ≤ e ∧ e ≤ 9223372036854775807) (hT : Tab w) :
    Calls Tryd.prog 3 #[.int .u64 x, dyV s a len cap e] w fun r w' => r = .returned (.bool true) ∧ Below w.heap.size w w' := by
  have o0 : bits .and .u8 0 16 = 0 := by decide +kernel
  have o1 : bits .and .u8 16 16 = 16 := by decide +kernel
  have o2 : bits .and .u8 20 16 = 16 := by decide +kernel
  have o3 : bits .and .u8 24 16 = 16 := by decide +kernel
  have o4 : bits .and .u8 28 16 = 16 := by decide +kernel
  have HFx : Hid _ := fun w' (t' : Tab w') => pfrom_calls x w' ux t'
  have HNx : Hid _ := fun a n c w' (g : IsW w' a n c (wordsOf (fromP x).2.1)) (k : n ≤ 1024) t' => pNear_calls (fromP x).1 a n c (wordsOf (fromP x).2.1) (fromP x).2.2 w' g (by omega) t'
  rw [val_words] at HNx
  have HOw : Hid (finB x = true → lastE x = 0 ∧ erR (fromP x).2.1 (fromP x).2.2 = 0 ∧ flR (fromP x).1 (fromP x).2.1 (fromP x).2.2 = 0 ∧ (nbR (fromP x).1 (fromP x).2.1 (fromP x).2.2 = x ∨ (x = 9223372036854775808 ∧ nbR (fromP x).1 (fromP x).2.1 (fromP x).2.2 = 0))) := fun q => ⟨by unfold lastE; rw [if_pos q], near_own x ux q⟩
  have HBad : Hid (finB x = false → lastE x = 5) := fun q => by unfold lastE; rw [q]; rfl
  generalize nbR (fromP x).1 (fromP x).2.1 (fromP x).2.2 = nx at *
  generalize flR (fromP x).1 (fromP x).2.1 (fromP x).2.2 = fx at *
  generalize erR (fromP x).2.1 (fromP x).2.2 = ex at *
  generalize lastE x = le at *
  generalize fromP x = P at *
  have HNd : Hid _ := fun w' (g : IsW w' a len cap xs) t' => pNear_calls s a len cap xs e w' g hm t'
  have bA : Below w.heap.size w (w.alloc (.cells #[.bool s, .slice a len cap, .int .i64 e] 26)) := below_one _ _
  have hI := h.keep bA
  have hT0 := hT.kept bA
  have c0 : (w.alloc (.cells #[.bool s, .slice a len cap, .int .i64 e] 26)).cell? ⟨w.heap.size, 0, none⟩ = some (.bool s) := by go_simp
  have c1 : (w.alloc (.cells #[.bool s, .slice a len cap, .int .i64 e] 26)).cell? ⟨w.heap.size, 1, none⟩ = some (.slice a len cap) := by go_simp
  have c2 : (w.alloc (.cells #[.bool s, .slice a len cap, .int .i64 e] 26)).cell? ⟨w.heap.size, 2, none⟩ = some (.int .i64 e) := by go_simp
  clear h hT ux _he
  go_enter Tryd.func3, Tryd.ntmps3
  go_wp2_with fail
  generalize (w.alloc (.cells #[.bool s, .slice a len cap, .int .i64 e] 26)) = w0 at *
  refine Calls.mono (rLives_calls _ hT0) ?_
  rintro r w1 ⟨rfl, bN⟩
  replace c0 := dcarry_cell bN c0
  replace c1 := dcarry_cell bN c1
  replace c2 := dcarry_cell bN c2
  replace hI := IsW.keep hI bN
  replace hT0 := hT0.kept bN
  replace bA := nbelow_trans bA bN
  clear bN
  go_wp2_with fail
  refine Calls.mono (HFx.out _ hT0) ?_
  rintro r w2 ⟨_, rfl, ⟨ao, no, co, rfl, -, hno, hOo⟩, bN⟩
  have Io := hOo.1
  clear hOo
  replace c0 := dcarry_cell bN c0
  replace c1 := dcarry_cell bN c1
  replace c2 := dcarry_cell bN c2
  replace hI := IsW.keep hI bN
  replace hT0 := hT0.kept bN
  replace bA := nbelow_trans bA bN
  clear bN
  have bB := below_one w2 (.cells #[.bool P.1, .slice ao no co, .int .i64 P.2.2] 26)
  have p0 : (w2.alloc (.cells #[.bool P.1, .slice ao no co, .int .i64 P.2.2] 26)).cell? ⟨w2.heap.size, 0, none⟩ = some (.bool P.1) := by go_simp
  have p1 : (w2.alloc (.cells #[.bool P.1, .slice ao no co, .int .i64 P.2.2] 26)).cell? ⟨w2.heap.size, 1, none⟩ = some (.slice ao no co) := by go_simp
  have p2 : (w2.alloc (.cells #[.bool P.1, .slice ao no co, .int .i64 P.2.2] 26)).cell? ⟨w2.heap.size, 2, none⟩ = some (.int .i64 P.2.2) := by go_simp
  replace c0 := dcarry_cell bB c0
  replace c1 := dcarry_cell bB c1
  replace c2 := dcarry_cell bB c2
  replace hI := IsW.keep hI bB
  replace Io := IsW.keep Io bB
  replace hT0 := hT0.kept bB
  replace bA := nbelow_trans bA bB
  clear bB
  go_upto_if 25 with fail
  generalize (w2.alloc (.cells #[.bool P.1, .slice ao no co, .int .i64 P.2.2] 26)) = w3 at *
  go_cut [25] from 7 to 53 (fun v wx => ∃ bb : Bool, v = .bool bb ∧ Below w3.heap.size w3 wx)
  case first =>
    cases hf : finB x with
    | false =>
      have e0 := HBad.out hf
      subst e0
      clear HBad HOw hf
      go_wp2_with fail
      go_meet
      exact ⟨_, rfl, Below.refl _ _⟩
    | true =>
      obtain ⟨e0, e1, e2, e3⟩ := HOw.out hf
      subst e0
      subst e1
      subst e2
      clear HBad HOw hf
      go_wp2_with fail
      refine Calls.mono (HNx.out _ _ _ _ Io hno hT0) ?_
      rintro r x1 ⟨rfl, bR⟩
      replace bR := bl_alloc bR (.cells #[.int .u64 nx, .int .u8 0] 33)
      rcases e3 with e3 | ⟨e3, e4⟩
      · subst e3
        go_wp2_with fail
        go_meet
        exact ⟨_, rfl, bR⟩
      · subst e3
        subst e4
        go_wp2_with fail
        go_meet
        exact ⟨_, rfl, bR⟩
  case rest =>
  obtain ⟨bb, rfl, bR⟩ := hcut
  clear HFx HNx HOw HBad p0 p1 p2 Io
  replace c0 := dcarry_cell bR c0
  replace c1 := dcarry_cell bR c1
  replace c2 := dcarry_cell bR c2
  replace hI := IsW.keep hI bR
  replace hT0 := hT0.kept bR
  replace bA := nbelow_trans bA bR
  clear bR
  go_wp2_with fail
  refine Calls.mono (HNd.out _ hI hT0) ?_
  rintro r w4 ⟨rfl, bN⟩
  replace c0 := dcarry_cell bN c0
  replace c1 := dcarry_cell bN c1
  replace c2 := dcarry_cell bN c2
  replace hI := IsW.keep hI bN
  replace hT0 := hT0.kept bN
  replace bA := nbelow_trans bA bN
  clear bN
  clear HNd
  cases hr : rightB (val xs) e with
  | false =>
    have n1 : nbR s (val xs) e = 0 := by unfold nbR; rw [hr]; rfl
    have n2 : flR s (val xs) e = 0 := by unfold flR; rw [hr]; rfl
    have n3 : erR (val xs) e = 2 := by unfold erR; rw [hr]; rfl
    rw [n1, n2, n3]
    clear n1 n2 n3 hr hm
    have bB := below_one w4 (.cells #[.int .u64 0, .int .u8 0] 33)
    have r0 : (w4.alloc (.cells #[.int .u64 0, .int .u8 0] 33)).cell? ⟨w4.heap.size, 0, none⟩ = some (.int .u64 0) := by go_simp
    have r1 : (w4.alloc (.cells #[.int .u64 0, .int .u8 0] 33)).cell? ⟨w4.heap.size, 1, none⟩ = some (.int .u8 0) := by go_simp
    replace c0 := dcarry_cell bB c0
    replace c1 := dcarry_cell bB c1
    replace c2 := dcarry_cell bB c2
    replace hI := IsW.keep hI bB
    replace hT0 := hT0.kept bB
    replace bA := nbelow_trans bA bB
    clear bB
    go_wp2_with fail
    generalize (w4.alloc (.cells #[.int .u64 0, .int .u8 0] 33)) = w5 at *
    go_ret
    exact ⟨rfl, bA⟩
  | true =>
    have n1 : nbR s (val xs) e = nearB s (val xs) e := by unfold nbR; rw [if_pos hr]
    have n3 : erR (val xs) e = 0 := by unfold erR; rw [if_pos hr]
    have n2 : flR s (val xs) e = if exactB (val xs) e = true then 0 else inxF (nearB s (val xs) e) (tinyP (val xs) e) := by unfold flR; rw [if_pos hr]
    have uR := nearB_U s (val xs) e
    have HCl : Hid _ := fun w' => class_calls (nearB s (val xs) e) w' uR
    have hci := class_inf _ uR (near_num s (val xs) e).1
    rw [n1, n3]
    have HN2 : Hid _ := n2
    clear n2 n1 n3
    generalize flR s (val xs) e = fl at *
    have bB := below_one w4 (.cells #[.int .u64 (nearB s (val xs) e), .int .u8 fl] 33)
    have r0 : (w4.alloc (.cells #[.int .u64 (nearB s (val xs) e), .int .u8 fl] 33)).cell? ⟨w4.heap.size, 0, none⟩ = some (.int .u64 (nearB s (val xs) e)) := by go_simp
    have r1 : (w4.alloc (.cells #[.int .u64 (nearB s (val xs) e), .int .u8 fl] 33)).cell? ⟨w4.heap.size, 1, none⟩ = some (.int .u8 fl) := by go_simp
    replace c0 := dcarry_cell bB c0
    replace c1 := dcarry_cell bB c1
    replace c2 := dcarry_cell bB c2
    replace hI := IsW.keep hI bB
    replace hT0 := hT0.kept bB
    replace bA := nbelow_trans bA bB
    clear bB
    go_wp2_with fail
    generalize (w4.alloc (.cells #[.int .u64 (nearB s (val xs) e), .int .u8 fl] 33)) = w5 at *
    refine Calls.mono (HCl.out _) ?_
    rintro r w6 ⟨rfl, bN⟩
    replace c0 := dcarry_cell bN c0
    replace c1 := dcarry_cell bN c1
    replace c2 := dcarry_cell bN c2
    replace r0 := dcarry_cell bN r0
    replace r1 := dcarry_cell bN r1
    replace hI := IsW.keep hI bN
    replace hT0 := hT0.kept bN
    replace bA := nbelow_trans bA bN
    clear bN
    clear HCl
    by_cases hc : classV (nearB s (val xs) e) = 4
    · go_wp2_with fail
      go_ret
      exact ⟨rfl, bA⟩
    have hf : finB (nearB s (val xs) e) = true := by
      cases q : finB (nearB s (val xs) e) with
      | true => rfl
      | false => exact absurd (hci.2 q) hc
    have b1 := (rightB_yes hr).2
    have g1 := right_blen hr
    have oU := once_off s (val xs) e hr hf (upV (nearB s (val xs) e)) (.inl rfl)
    have oD := once_off s (val xs) e hr hf (downV (nearB s (val xs) e)) (.inr rfl)
    have oF := once_flag s (val xs) e hr hf
    have hfv : fl = if decide ((farD (fromP (nearB s (val xs) e)) (formD s (val xs) e)).2.1 = 0) = true then 0 else inxF (nearB s (val xs) e) (tinyP (val xs) e) := by rw [← oF, HN2.out]
    have HFV : Hid _ := hfv
    have HIX : Hid _ := inx_vals (nearB s (val xs) e) (tinyP (val xs) e)
    have HFR : Hid _ := fun w' (t' : Tab w') => pfrom_calls (nearB s (val xs) e) w' uR t'
    rw [show lastE (nearB s (val xs) e) = 0 by unfold lastE; rw [if_pos hf]] at HFR
    have HUp : Hid _ := fun w' => up_calls (nearB s (val xs) e) w' uR
    have HDn : Hid _ := fun w' => down_calls (nearB s (val xs) e) w' uR
    have far1 : ∀ z : Int, ∀ b bl bc w', IsW w' b bl bc (wordsOf (fromP z).2.1) → bl ≤ 1024 → IsW w' a len cap xs → Calls Tryd.prog 8 #[dyV (fromP z).1 b bl bc (fromP z).2.2, dyV s a len cap e] w' fun r w'' => ∃ v', r = .returned v' ∧ DyQ w'.heap.size w'' v' (farD (fromP z) (formD s (val xs) e)) ∧ Below w'.heap.size w' w'' := fun z b bl bc w' g k g' => by
      have q := far_calls (fromP z).1 b bl bc (wordsOf (fromP z).2.1) (fromP z).2.2 s a len cap xs e w' g (by omega) g' hm (by have := from_bds z; omega) (by omega) (by rw [val_words]; have := from_bds z; omega) (by omega)
      rw [val_words, form_of_can (from_can z).1, form_turn] at q
      exact q
    have HF1 : Hid _ := far1 (nearB s (val xs) e)
    have HF2 : Hid _ := far1
    clear far1
    have ord1 : ∀ z : Int, ∀ b bl bc b' bl' bc' w', IsW w' b bl bc (wordsOf (farD (fromP (nearB s (val xs) e)) (formD s (val xs) e)).2.1) → bl = (wordsOf (farD (fromP (nearB s (val xs) e)) (formD s (val xs) e)).2.1).length → IsW w' b' bl' bc' (wordsOf (farD (fromP z) (formD s (val xs) e)).2.1) → bl' = (wordsOf (farD (fromP z) (formD s (val xs) e)).2.1).length → Calls Tryd.prog 11 #[dyV (farD (fromP (nearB s (val xs) e)) (formD s (val xs) e)).1 b bl bc (farD (fromP (nearB s (val xs) e)) (formD s (val xs) e)).2.2, dyV (farD (fromP z) (formD s (val xs) e)).1 b' bl' bc' (farD (fromP z) (formD s (val xs) e)).2.2] w' fun r w'' => r = .returned (.int .i64 (cmpD (farD (fromP (nearB s (val xs) e)) (formD s (val xs) e)) (farD (fromP z) (formD s (val xs) e)))) ∧ Below w'.heap.size w' w'' := fun z b bl bc b' bl' bc' w' g k g' k' => by
      have i1 := far_bds (nearB s (val xs) e) s hr
      have i2 := far_bds z s hr
      have q := qOrder_calls (farD (fromP (nearB s (val xs) e)) (formD s (val xs) e)).1 b bl bc (wordsOf (farD (fromP (nearB s (val xs) e)) (formD s (val xs) e)).2.1) (farD (fromP (nearB s (val xs) e)) (formD s (val xs) e)).2.2 (farD (fromP z) (formD s (val xs) e)).1 b' bl' bc' (wordsOf (farD (fromP z) (formD s (val xs) e)).2.1) (farD (fromP z) (formD s (val xs) e)).2.2 w' g (by omega) g' (by omega) (by omega) (by omega) (by rw [val_words]; omega) (by rw [val_words]; omega)
      rw [val_words, val_words, form_of_can i1.1, form_of_can i2.1] at q
      exact q
    have HO : Hid _ := ord1
    clear ord1
    have HZr : Hid _ := fun b bl bc w' (g : IsW w' b bl bc (wordsOf (farD (fromP (nearB s (val xs) e)) (formD s (val xs) e)).2.1)) (k : bl = (wordsOf (farD (fromP (nearB s (val xs) e)) (formD s (val xs) e)).2.1).length) => qZero_calls (farD (fromP (nearB s (val xs) e)) (formD s (val xs) e)).1 b bl bc (wordsOf (farD (fromP (nearB s (val xs) e)) (formD s (val xs) e)).2.1) (farD (fromP (nearB s (val xs) e)) (formD s (val xs) e)).2.2 w' g (by have := far_bds (nearB s (val xs) e) s hr; omega)
    rw [val_words] at HZr
    have OU : Hid _ := oU
    have OD : Hid _ := oD
    clear oU oD oF hfv HN2 hci hf b1 g1 hr hm uR
    generalize inxF (nearB s (val xs) e) (tinyP (val xs) e) = ix at *
    generalize nearB s (val xs) e = R0 at *
    generalize formD s (val xs) e = DD at *
    go_wp2_with fail
    refine Calls.mono (HFR.out _ hT0) ?_
    rintro r w7 ⟨_, rfl, ⟨ay, ny, cy, rfl, -, hny, hOy⟩, bN⟩
    have Iy := hOy.1
    clear hOy
    replace c0 := dcarry_cell bN c0
    replace c1 := dcarry_cell bN c1
    replace c2 := dcarry_cell bN c2
    replace r0 := dcarry_cell bN r0
    replace r1 := dcarry_cell bN r1
    replace hI := IsW.keep hI bN
    replace hT0 := hT0.kept bN
    replace bA := nbelow_trans bA bN
    clear bN
    have bB := below_one w7 (.cells #[.bool (fromP R0).1, .slice ay ny cy, .int .i64 (fromP R0).2.2] 26)
    have y0 : (w7.alloc (.cells #[.bool (fromP R0).1, .slice ay ny cy, .int .i64 (fromP R0).2.2] 26)).cell? ⟨w7.heap.size, 0, none⟩ = some (.bool (fromP R0).1) := by go_simp
    have y1 : (w7.alloc (.cells #[.bool (fromP R0).1, .slice ay ny cy, .int .i64 (fromP R0).2.2] 26)).cell? ⟨w7.heap.size, 1, none⟩ = some (.slice ay ny cy) := by go_simp
    have y2 : (w7.alloc (.cells #[.bool (fromP R0).1, .slice ay ny cy, .int .i64 (fromP R0).2.2] 26)).cell? ⟨w7.heap.size, 2, none⟩ = some (.int .i64 (fromP R0).2.2) := by go_simp
    replace c0 := dcarry_cell bB c0
    replace c1 := dcarry_cell bB c1
    replace c2 := dcarry_cell bB c2
    replace r0 := dcarry_cell bB r0
    replace r1 := dcarry_cell bB r1
    replace hI := IsW.keep hI bB
    replace Iy := IsW.keep Iy bB
    replace hT0 := hT0.kept bB
    replace bA := nbelow_trans bA bB
    clear bB
    go_wp2_with fail
    generalize (w7.alloc (.cells #[.bool (fromP R0).1, .slice ay ny cy, .int .i64 (fromP R0).2.2] 26)) = w8 at *
    refine Calls.mono (HF1.out _ _ _ _ Iy hny hI) ?_
    rintro r w9 ⟨_, rfl, ⟨af, nf, cf, rfl, HNf, hOf⟩, bN⟩
    have If := hOf.1
    clear hOf
    replace c0 := dcarry_cell bN c0
    replace c1 := dcarry_cell bN c1
    replace c2 := dcarry_cell bN c2
    replace r0 := dcarry_cell bN r0
    replace r1 := dcarry_cell bN r1
    replace y0 := dcarry_cell bN y0
    replace y1 := dcarry_cell bN y1
    replace y2 := dcarry_cell bN y2
    replace hI := IsW.keep hI bN
    replace Iy := IsW.keep Iy bN
    replace hT0 := hT0.kept bN
    replace bA := nbelow_trans bA bN
    clear bN
    clear HF1 HFR
    have bB := below_one w9 (.cells #[.bool (farD (fromP R0) DD).1, .slice af nf cf, .int .i64 (farD (fromP R0) DD).2.2] 26)
    have u0 : (w9.alloc (.cells #[.bool (farD (fromP R0) DD).1, .slice af nf cf, .int .i64 (farD (fromP R0) DD).2.2] 26)).cell? ⟨w9.heap.size, 0, none⟩ = some (.bool (farD (fromP R0) DD).1) := by go_simp
    have u1 : (w9.alloc (.cells #[.bool (farD (fromP R0) DD).1, .slice af nf cf, .int .i64 (farD (fromP R0) DD).2.2] 26)).cell? ⟨w9.heap.size, 1, none⟩ = some (.slice af nf cf) := by go_simp
    have u2 : (w9.alloc (.cells #[.bool (farD (fromP R0) DD).1, .slice af nf cf, .int .i64 (farD (fromP R0) DD).2.2] 26)).cell? ⟨w9.heap.size, 2, none⟩ = some (.int .i64 (farD (fromP R0) DD).2.2) := by go_simp
    replace c0 := dcarry_cell bB c0
    replace c1 := dcarry_cell bB c1
    replace c2 := dcarry_cell bB c2
    replace r0 := dcarry_cell bB r0
    replace r1 := dcarry_cell bB r1
    replace y0 := dcarry_cell bB y0
    replace y1 := dcarry_cell bB y1
    replace y2 := dcarry_cell bB y2
    replace hI := IsW.keep hI bB
    replace Iy := IsW.keep Iy bB
    replace If := IsW.keep If bB
    replace hT0 := hT0.kept bB
    replace bA := nbelow_trans bA bB
    clear bB
    go_upto_region 15 with fail
    generalize (w9.alloc (.cells #[.bool (farD (fromP R0) DD).1, .slice af nf cf, .int .i64 (farD (fromP R0) DD).2.2] 26)) = w10 at *
    go_cut [91, 92, 93] from 85 to 93 (fun v1 v2 v3 wx => ∃ Bk : Nat, v1 = .slice (some ⟨Bk, 0, none⟩) 2 2 ∧ v2 = .int .i64 2 ∧ v3 = .int .i64 0 ∧ wx.cell? ⟨Bk, 0, none⟩ = some (.int .u64 (upV R0)) ∧ wx.cell? ⟨Bk, 1, none⟩ = some (.int .u64 (downV R0)) ∧ Below w10.heap.size w10 wx)
    case first =>
      have R : Below w10.heap.size w10 (World.drew w10) := (Below.refl _ _).drew
      refine wp_region_held (S := fun w' => Below w10.heap.size w10 w') (by kernel_rfl) ?_
      change wpAnyH _ _ _ _ _ _ _ _ (World.drew w10)
      generalize World.drew w10 = wd at R ⊢
      refine wpAnyH_take (i := 0) (v := .pointer (some ⟨w4.heap.size, 0, none⟩)) rfl (by kernel_rfl) (by kernel_rfl) (by kernel_rfl) (fun _ _ _ h => h) (Or.inl ⟨by rfl, ?y1⟩) R ?r1
      case y1 => (intro ww hS; clear hS; go_simp; try with_reducible rfl)
      try simp only [Act.put]
      refine wpAnyH_take (i := 1) (v := .int .u64 R0) rfl (by kernel_rfl) (by kernel_rfl) (by kernel_rfl) (fun _ _ _ h => h) (Or.inl ⟨by rfl, ?y2⟩) R ?r2
      case y2 => (intro ww hS; have qr0 := dcarry_cell hS r0; clear hS; go_simp; try with_reducible rfl)
      try simp only [Act.put]
      refine wpAnyH_take (i := 3) (v := .pointer (some ⟨w4.heap.size, 0, none⟩)) rfl (by kernel_rfl) (by kernel_rfl) (by kernel_rfl) (fun _ _ _ h => h) (Or.inl ⟨by rfl, ?y3⟩) R ?r3
      case y3 => (intro ww hS; clear hS; go_simp; try with_reducible rfl)
      try simp only [Act.put]
      refine wpAnyH_take (i := 4) (v := .int .u64 R0) rfl (by kernel_rfl) (by kernel_rfl) (by kernel_rfl) (fun _ _ _ h => h) (Or.inl ⟨by rfl, ?y4⟩) R ?r4
      case y4 => (intro ww hS; have qr0 := dcarry_cell hS r0; clear hS; go_simp; try with_reducible rfl)
      try simp only [Act.put]
      refine wpAnyH_take (i := 8) (v := .int .i64 0) rfl (by kernel_rfl) (by kernel_rfl) (by kernel_rfl) (fun _ _ _ h => h) (Or.inl ⟨by rfl, ?y5⟩) R ?r5
      case y5 => (intro ww hS; clear hS; go_simp; try with_reducible rfl)
      try simp only [Act.put]
      refine wpAnyH_ready (rs := [2]) (by kernel_rfl) (by simp) ?_
      refine AllReadyH.cons rfl (fun K hK => ?_) AllReadyH.nil
      go_simp
      refine Calls.mono (HUp.out _) ?_
      rintro r wu ⟨rfl, hw⟩
      rw [hw]
      refine hK.out _ _ R (fun _ => ?_)
      clear hK K hw wu
      try simp only [Act.put, List.setIfInBounds_toArray, List.set_cons_zero, List.set_cons_succ]
      refine wpAnyH_ready (rs := [5]) (by kernel_rfl) (by simp) ?_
      refine AllReadyH.cons rfl (fun K hK => ?_) AllReadyH.nil
      go_simp
      refine Calls.mono (HDn.out _) ?_
      rintro r wu ⟨rfl, hw⟩
      rw [hw]
      refine hK.out _ _ R (fun _ => ?_)
      clear hK K hw wu
      try simp only [Act.put, List.setIfInBounds_toArray, List.set_cons_zero, List.set_cons_succ]
      refine wpAnyH_ready (rs := [6]) (by kernel_rfl) (by simp) ?_
      refine AllReadyH.cons rfl (fun K hK => ?_) AllReadyH.nil
      go_simp
      refine hK.out _ _ (bl_alloc R _) (fun _ => ?_)
      clear hK K
      have m0 : (wd.alloc (.cells #[.int .u64 (upV R0), .int .u64 (downV R0)] 22)).cell? ⟨wd.heap.size, 0, none⟩ = some (.int .u64 (upV R0)) := by go_simp
      have m1 : (wd.alloc (.cells #[.int .u64 (upV R0), .int .u64 (downV R0)] 22)).cell? ⟨wd.heap.size, 1, none⟩ = some (.int .u64 (downV R0)) := by go_simp
      replace R := bl_alloc R (.cells #[.int .u64 (upV R0), .int .u64 (downV R0)] 22)
      try simp only [Act.put, List.setIfInBounds_toArray, List.set_cons_zero, List.set_cons_succ]
      generalize (wd.alloc (.cells #[.int .u64 (upV R0), .int .u64 (downV R0)] 22)) = we at *
      refine wpAnyH_ready (rs := [7]) (by kernel_rfl) (by simp) ?_
      refine AllReadyH.cons rfl (fun K hK => ?_) AllReadyH.nil
      go_simp
      refine hK.out _ _ R (fun _ => ?_)
      clear hK K
      try simp only [Act.put, List.setIfInBounds_toArray, List.set_cons_zero, List.set_cons_succ]
      refine wpAnyH_done (by kernel_rfl) ?_ _
      go_wp2_with fail
      go_meet
      exact ⟨_, rfl, rfl, rfl, m0, m1, R⟩
    case rest =>
    obtain ⟨Bk, rfl, rfl, rfl, m0, m1, bR⟩ := hcut
    clear HUp HDn y0 y1 y2 Iy
    replace c0 := dcarry_cell bR c0
    replace c1 := dcarry_cell bR c1
    replace c2 := dcarry_cell bR c2
    replace r0 := dcarry_cell bR r0
    replace r1 := dcarry_cell bR r1
    replace u0 := dcarry_cell bR u0
    replace u1 := dcarry_cell bR u1
    replace u2 := dcarry_cell bR u2
    replace hI := IsW.keep hI bR
    replace If := IsW.keep If bR
    replace hT0 := hT0.kept bR
    replace bA := nbelow_trans bA bR
    clear bR
    go_wp2_with fail
    go_loopw [93] (fun vi wr => ∃ k : Nat, k ≤ 2 ∧ vi = .int .i64 (k : Int) ∧ Below wc.heap.size wc wr) (fun vi _ => 2 - (intOf vi).toNat)
    case atStart => exact ⟨0, by omega, rfl, Below.refl _ _⟩
    case round =>
      obtain ⟨k, hk, rfl, bw⟩ := hrel
      replace c0 := dcarry_cell bw c0
      replace c1 := dcarry_cell bw c1
      replace c2 := dcarry_cell bw c2
      replace r0 := dcarry_cell bw r0
      replace r1 := dcarry_cell bw r1
      replace u0 := dcarry_cell bw u0
      replace u1 := dcarry_cell bw u1
      replace u2 := dcarry_cell bw u2
      replace m0 := dcarry_cell bw m0
      replace m1 := dcarry_cell bw m1
      replace hI := IsW.keep hI bw
      replace If := IsW.keep If bw
      replace hT0 := hT0.kept bw
      replace bA := nbelow_trans bA bw
      rcases (show k = 0 ∨ k = 1 ∨ k = 2 by omega) with q | q | q
      · subst q
        have HCz : Hid _ := fun w' => class_calls (upV R0) w' OU.out.1
        have HFz : Hid _ := fun w' (t' : Tab w') => pfrom_calls (upV R0) w' OU.out.1 t'
        have HLz : Hid (classV (upV R0) ≠ 4 → lastE (upV R0) = 0) := fun q => by unfold lastE; rw [if_pos (OU.out.2 q).1]
        have HCc : Hid (classV (upV R0) ≠ 4 → ¬ 0 < cmpD (farD (fromP R0) DD) (farD (fromP (upV R0)) DD)) := fun q => by have := (OU.out.2 q).2; omega
        have HF3 : Hid _ := HF2.out (upV R0)
        have HO3 : Hid _ := HO.out (upV R0)
        clear OU OD HF2 HO HZr HFV
        generalize upV R0 = z at *
        go_wp2_with fail
        refine Calls.mono (HCz.out _) ?_
        rintro r w11 ⟨rfl, bN⟩
        replace c0 := dcarry_cell bN c0
        replace c1 := dcarry_cell bN c1
        replace c2 := dcarry_cell bN c2
        replace r0 := dcarry_cell bN r0
        replace r1 := dcarry_cell bN r1
        replace u0 := dcarry_cell bN u0
        replace u1 := dcarry_cell bN u1
        replace u2 := dcarry_cell bN u2
        replace m0 := dcarry_cell bN m0
        replace m1 := dcarry_cell bN m1
        replace hI := IsW.keep hI bN
        replace If := IsW.keep If bN
        replace hT0 := hT0.kept bN
        replace bw := nbelow_trans bw bN
        clear bN
        clear HCz
        by_cases hc4 : classV z = 4
        · go_wp2_with fail
          exact ⟨⟨1, by omega, by first | rfl | go_num, bw⟩, by simp [intOf]⟩
        have hlz := HLz.out hc4
        have hcc := HCc.out hc4
        rw [hlz] at HFz
        clear HLz HCc hlz
        go_wp2_with fail
        refine Calls.mono (HFz.out _ hT0) ?_
        rintro r w12 ⟨_, rfl, ⟨an, nn, cn, rfl, -, hnn, hOn⟩, bN⟩
        have In := hOn.1
        clear hOn
        replace c0 := dcarry_cell bN c0
        replace c1 := dcarry_cell bN c1
        replace c2 := dcarry_cell bN c2
        replace r0 := dcarry_cell bN r0
        replace r1 := dcarry_cell bN r1
        replace u0 := dcarry_cell bN u0
        replace u1 := dcarry_cell bN u1
        replace u2 := dcarry_cell bN u2
        replace m0 := dcarry_cell bN m0
        replace m1 := dcarry_cell bN m1
        replace hI := IsW.keep hI bN
        replace If := IsW.keep If bN
        replace hT0 := hT0.kept bN
        replace bw := nbelow_trans bw bN
        clear bN
        clear HFz hc4
        have bB := below_one w12 (.cells #[.bool (fromP z).1, .slice an nn cn, .int .i64 (fromP z).2.2] 26)
        have n0 : (w12.alloc (.cells #[.bool (fromP z).1, .slice an nn cn, .int .i64 (fromP z).2.2] 26)).cell? ⟨w12.heap.size, 0, none⟩ = some (.bool (fromP z).1) := by go_simp
        have n1 : (w12.alloc (.cells #[.bool (fromP z).1, .slice an nn cn, .int .i64 (fromP z).2.2] 26)).cell? ⟨w12.heap.size, 1, none⟩ = some (.slice an nn cn) := by go_simp
        have n2 : (w12.alloc (.cells #[.bool (fromP z).1, .slice an nn cn, .int .i64 (fromP z).2.2] 26)).cell? ⟨w12.heap.size, 2, none⟩ = some (.int .i64 (fromP z).2.2) := by go_simp
        replace c0 := dcarry_cell bB c0
        replace c1 := dcarry_cell bB c1
        replace c2 := dcarry_cell bB c2
        replace r0 := dcarry_cell bB r0
        replace r1 := dcarry_cell bB r1
        replace u0 := dcarry_cell bB u0
        replace u1 := dcarry_cell bB u1
        replace u2 := dcarry_cell bB u2
        replace m0 := dcarry_cell bB m0
        replace m1 := dcarry_cell bB m1
        replace hI := IsW.keep hI bB
        replace If := IsW.keep If bB
        replace In := IsW.keep In bB
        replace hT0 := hT0.kept bB
        replace bw := nbelow_trans bw bB
        clear bB
        go_upto_region 20 with fail
        generalize (w12.alloc (.cells #[.bool (fromP z).1, .slice an nn cn, .int .i64 (fromP z).2.2] 26)) = w13 at *
        generalize hcq : cmpD (farD (fromP R0) DD) (farD (fromP z) DD) = cc at *
        have R : Below w13.heap.size w13 (World.drew w13) := (Below.refl _ _).drew
        refine wp_region_held (S := fun w' => Below w13.heap.size w13 w') (by kernel_rfl) ?_
        change wpAnyH _ _ _ _ _ _ _ _ (World.drew w13)
        generalize World.drew w13 = wd at R ⊢
        refine wpAnyH_take (i := 0) (v := .int .i64 0) rfl (by kernel_rfl) (by kernel_rfl) (by kernel_rfl) (fun _ _ _ h => h) (Or.inl ⟨by rfl, ?y6⟩) R ?r6
        case y6 => (intro ww hS; clear hS; go_simp; try with_reducible rfl)
        try simp only [Act.put]
        refine wpAnyH_take (i := 1) (v := .bool false) rfl (by kernel_rfl) (by kernel_rfl) (by kernel_rfl) (fun _ _ _ h => h) (Or.inl ⟨by rfl, ?y7⟩) R ?r7
        case y7 => (intro ww hS; clear hS; go_simp; try with_reducible rfl)
        try simp only [Act.put]
        refine wpAnyH_take (i := 2) (v := .bool false) rfl (by kernel_rfl) (by kernel_rfl) (by kernel_rfl) (fun _ _ _ h => h) (Or.inl ⟨by rfl, ?y8⟩) R ?r8
        case y8 => (intro ww hS; clear hS; go_simp; try with_reducible rfl)
        try simp only [Act.put]
        refine wpAnyH_take (i := 3) (v := dyV (farD (fromP R0) DD).1 af nf cf (farD (fromP R0) DD).2.2) rfl (by kernel_rfl) (by kernel_rfl) (by kernel_rfl) (fun _ _ _ h => h) (Or.inl ⟨by rfl, ?y9⟩) R ?r9
        case y9 => (intro ww hS; have qu0 := dcarry_cell hS u0; have qu1 := dcarry_cell hS u1; have qu2 := dcarry_cell hS u2; clear hS; go_simp; try with_reducible rfl)
        try simp only [Act.put]
        refine wpAnyH_take (i := 4) (v := dyV (fromP z).1 an nn cn (fromP z).2.2) rfl (by kernel_rfl) (by kernel_rfl) (by kernel_rfl) (fun _ _ _ h => h) (Or.inl ⟨by rfl, ?y10⟩) R ?r10
        case y10 => (intro ww hS; have qn0 := dcarry_cell hS n0; have qn1 := dcarry_cell hS n1; have qn2 := dcarry_cell hS n2; clear hS; go_simp; try with_reducible rfl)
        try simp only [Act.put]
        refine wpAnyH_take (i := 5) (v := dyV s a len cap e) rfl (by kernel_rfl) (by kernel_rfl) (by kernel_rfl) (fun _ _ _ h => h) (Or.inl ⟨by rfl, ?y11⟩) R ?r11
        case y11 => (intro ww hS; have qc0 := dcarry_cell hS c0; have qc1 := dcarry_cell hS c1; have qc2 := dcarry_cell hS c2; clear hS; go_simp; try with_reducible rfl)
        try simp only [Act.put]
        refine wpAnyH_ready (rs := [6]) (by kernel_rfl) (by simp) ?_
        refine AllReadyH.cons rfl (fun K hK => ?_) AllReadyH.nil
        go_simp
        refine Calls.mono (HF3.out _ _ _ _ (IsW.keep In R) hnn (IsW.keep hI R)) ?_
        rintro r wa ⟨_, rfl, ⟨a6, n6, c6, rfl, HN6, hO6⟩, bN⟩
        have I6 := hO6.1
        clear hO6
        replace R := nbelow_trans R bN
        clear bN
        refine hK.out _ _ R (fun _ => ?_)
        clear hK K
        try simp only [Act.put, List.setIfInBounds_toArray, List.set_cons_zero, List.set_cons_succ]
        refine wpAnyH_ready (rs := [7]) (by kernel_rfl) (by simp) ?_
        refine AllReadyH.cons rfl (fun K hK => ?_) AllReadyH.nil
        go_simp
        refine Calls.mono (HO3.out _ _ _ _ _ _ _ (IsW.keep If R) HNf.out I6 HN6.out) ?_
        rintro r wb ⟨rfl, bN⟩
        replace R := nbelow_trans R bN
        clear bN
        refine hK.out _ _ R (fun _ => ?_)
        clear hK K
        try simp only [Act.put, List.setIfInBounds_toArray, List.set_cons_zero, List.set_cons_succ]
        refine wpAnyH_take (i := 8) (v := .bool (decide (0 < cc))) rfl (by kernel_rfl) (by kernel_rfl) (by kernel_rfl) (fun _ _ _ h => h) (Or.inl ⟨by rfl, ?y12⟩) R ?r12
        case y12 => (intro ww hS; clear hS; go_simp; try with_reducible rfl)
        try simp only [Act.put]
        refine wpAnyH_take (i := 9) (v := .bool (decide (0 < cc))) rfl (by kernel_rfl) (by kernel_rfl) (by kernel_rfl) (fun _ _ _ h => h) (Or.inl ⟨by rfl, ?y13⟩) R ?r13
        case y13 => (intro ww hS; clear hS; go_simp; try with_reducible rfl)
        try simp only [Act.put]
        refine wpAnyH_done (by kernel_rfl) ?_ _
        clear I6
        replace c0 := dcarry_cell R c0
        replace c1 := dcarry_cell R c1
        replace c2 := dcarry_cell R c2
        replace r0 := dcarry_cell R r0
        replace r1 := dcarry_cell R r1
        replace u0 := dcarry_cell R u0
        replace u1 := dcarry_cell R u1
        replace u2 := dcarry_cell R u2
        replace m0 := dcarry_cell R m0
        replace m1 := dcarry_cell R m1
        replace n0 := dcarry_cell R n0
        replace n1 := dcarry_cell R n1
        replace n2 := dcarry_cell R n2
        replace hI := IsW.keep hI R
        replace If := IsW.keep If R
        replace In := IsW.keep In R
        replace hT0 := hT0.kept R
        replace bw := nbelow_trans bw R
        clear R
        go_wp2_with fail
        exact ⟨⟨1, by omega, by first | rfl | go_num, bw⟩, by simp [intOf]⟩
      · subst q
        have HCz : Hid _ := fun w' => class_calls (downV R0) w' OD.out.1
        have HFz : Hid _ := fun w' (t' : Tab w') => pfrom_calls (downV R0) w' OD.out.1 t'
        have HLz : Hid (classV (downV R0) ≠ 4 → lastE (downV R0) = 0) := fun q => by unfold lastE; rw [if_pos (OD.out.2 q).1]
        have HCc : Hid (classV (downV R0) ≠ 4 → ¬ 0 < cmpD (farD (fromP R0) DD) (farD (fromP (downV R0)) DD)) := fun q => by have := (OD.out.2 q).2; omega
        have HF3 : Hid _ := HF2.out (downV R0)
        have HO3 : Hid _ := HO.out (downV R0)
        clear OU OD HF2 HO HZr HFV
        generalize downV R0 = z at *
        go_wp2_with fail
        refine Calls.mono (HCz.out _) ?_
        rintro r w11 ⟨rfl, bN⟩
        replace c0 := dcarry_cell bN c0
        replace c1 := dcarry_cell bN c1
        replace c2 := dcarry_cell bN c2
        replace r0 := dcarry_cell bN r0
        replace r1 := dcarry_cell bN r1
        replace u0 := dcarry_cell bN u0
        replace u1 := dcarry_cell bN u1
        replace u2 := dcarry_cell bN u2
        replace m0 := dcarry_cell bN m0
        replace m1 := dcarry_cell bN m1
        replace hI := IsW.keep hI bN
        replace If := IsW.keep If bN
        replace hT0 := hT0.kept bN
        replace bw := nbelow_trans bw bN
        clear bN
        clear HCz
        by_cases hc4 : classV z = 4
        · go_wp2_with fail
          exact ⟨⟨2, by omega, by first | rfl | go_num, bw⟩, by simp [intOf]⟩
        have hlz := HLz.out hc4
        have hcc := HCc.out hc4
        rw [hlz] at HFz
        clear HLz HCc hlz
        go_wp2_with fail
        refine Calls.mono (HFz.out _ hT0) ?_
        rintro r w12 ⟨_, rfl, ⟨an, nn, cn, rfl, -, hnn, hOn⟩, bN⟩
        have In := hOn.1
        clear hOn
        replace c0 := dcarry_cell bN c0
        replace c1 := dcarry_cell bN c1
        replace c2 := dcarry_cell bN c2
        replace r0 := dcarry_cell bN r0
        replace r1 := dcarry_cell bN r1
        replace u0 := dcarry_cell bN u0
        replace u1 := dcarry_cell bN u1
        replace u2 := dcarry_cell bN u2
        replace m0 := dcarry_cell bN m0
        replace m1 := dcarry_cell bN m1
        replace hI := IsW.keep hI bN
        replace If := IsW.keep If bN
        replace hT0 := hT0.kept bN
        replace bw := nbelow_trans bw bN
        clear bN
        clear HFz hc4
        have bB := below_one w12 (.cells #[.bool (fromP z).1, .slice an nn cn, .int .i64 (fromP z).2.2] 26)
        have n0 : (w12.alloc (.cells #[.bool (fromP z).1, .slice an nn cn, .int .i64 (fromP z).2.2] 26)).cell? ⟨w12.heap.size, 0, none⟩ = some (.bool (fromP z).1) := by go_simp
        have n1 : (w12.alloc (.cells #[.bool (fromP z).1, .slice an nn cn, .int .i64 (fromP z).2.2] 26)).cell? ⟨w12.heap.size, 1, none⟩ = some (.slice an nn cn) := by go_simp
        have n2 : (w12.alloc (.cells #[.bool (fromP z).1, .slice an nn cn, .int .i64 (fromP z).2.2] 26)).cell? ⟨w12.heap.size, 2, none⟩ = some (.int .i64 (fromP z).2.2) := by go_simp
        replace c0 := dcarry_cell bB c0
        replace c1 := dcarry_cell bB c1
        replace c2 := dcarry_cell bB c2
        replace r0 := dcarry_cell bB r0
        replace r1 := dcarry_cell bB r1
        replace u0 := dcarry_cell bB u0
        replace u1 := dcarry_cell bB u1
        replace u2 := dcarry_cell bB u2
        replace m0 := dcarry_cell bB m0
        replace m1 := dcarry_cell bB m1
        replace hI := IsW.keep hI bB
        replace If := IsW.keep If bB
        replace In := IsW.keep In bB
        replace hT0 := hT0.kept bB
        replace bw := nbelow_trans bw bB
        clear bB
        go_upto_region 20 with fail
        generalize (w12.alloc (.cells #[.bool (fromP z).1, .slice an nn cn, .int .i64 (fromP z).2.2] 26)) = w13 at *
        generalize hcq : cmpD (farD (fromP R0) DD) (farD (fromP z) DD) = cc at *
        have R : Below w13.heap.size w13 (World.drew w13) := (Below.refl _ _).drew
        refine wp_region_held (S := fun w' => Below w13.heap.size w13 w') (by kernel_rfl) ?_
        change wpAnyH _ _ _ _ _ _ _ _ (World.drew w13)
        generalize World.drew w13 = wd at R ⊢
        refine wpAnyH_take (i := 0) (v := .int .i64 0) rfl (by kernel_rfl) (by kernel_rfl) (by kernel_rfl) (fun _ _ _ h => h) (Or.inl ⟨by rfl, ?y14⟩) R ?r14
        case y14 => (intro ww hS; clear hS; go_simp; try with_reducible rfl)
        try simp only [Act.put]
        refine wpAnyH_take (i := 1) (v := .bool false) rfl (by kernel_rfl) (by kernel_rfl) (by kernel_rfl) (fun _ _ _ h => h) (Or.inl ⟨by rfl, ?y15⟩) R ?r15
        case y15 => (intro ww hS; clear hS; go_simp; try with_reducible rfl)
        try simp only [Act.put]
        refine wpAnyH_take (i := 2) (v := .bool false) rfl (by kernel_rfl) (by kernel_rfl) (by kernel_rfl) (fun _ _ _ h => h) (Or.inl ⟨by rfl, ?y16⟩) R ?r16
        case y16 => (intro ww hS; clear hS; go_simp; try with_reducible rfl)
        try simp only [Act.put]
        refine wpAnyH_take (i := 3) (v := dyV (farD (fromP R0) DD).1 af nf cf (farD (fromP R0) DD).2.2) rfl (by kernel_rfl) (by kernel_rfl) (by kernel_rfl) (fun _ _ _ h => h) (Or.inl ⟨by rfl, ?y17⟩) R ?r17
        case y17 => (intro ww hS; have qu0 := dcarry_cell hS u0; have qu1 := dcarry_cell hS u1; have qu2 := dcarry_cell hS u2; clear hS; go_simp; try with_reducible rfl)
        try simp only [Act.put]
        refine wpAnyH_take (i := 4) (v := dyV (fromP z).1 an nn cn (fromP z).2.2) rfl (by kernel_rfl) (by kernel_rfl) (by kernel_rfl) (fun _ _ _ h => h) (Or.inl ⟨by rfl, ?y18⟩) R ?r18
        case y18 => (intro ww hS; have qn0 := dcarry_cell hS n0; have qn1 := dcarry_cell hS n1; have qn2 := dcarry_cell hS n2; clear hS; go_simp; try with_reducible rfl)
        try simp only [Act.put]
        refine wpAnyH_take (i := 5) (v := dyV s a len cap e) rfl (by kernel_rfl) (by kernel_rfl) (by kernel_rfl) (fun _ _ _ h => h) (Or.inl ⟨by rfl, ?y19⟩) R ?r19
        case y19 => (intro ww hS; have qc0 := dcarry_cell hS c0; have qc1 := dcarry_cell hS c1; have qc2 := dcarry_cell hS c2; clear hS; go_simp; try with_reducible rfl)
        try simp only [Act.put]
        refine wpAnyH_ready (rs := [6]) (by kernel_rfl) (by simp) ?_
        refine AllReadyH.cons rfl (fun K hK => ?_) AllReadyH.nil
        go_simp
        refine Calls.mono (HF3.out _ _ _ _ (IsW.keep In R) hnn (IsW.keep hI R)) ?_
        rintro r wa ⟨_, rfl, ⟨a6, n6, c6, rfl, HN6, hO6⟩, bN⟩
        have I6 := hO6.1
        clear hO6
        replace R := nbelow_trans R bN
        clear bN
        refine hK.out _ _ R (fun _ => ?_)
        clear hK K
        try simp only [Act.put, List.setIfInBounds_toArray, List.set_cons_zero, List.set_cons_succ]
        refine wpAnyH_ready (rs := [7]) (by kernel_rfl) (by simp) ?_
        refine AllReadyH.cons rfl (fun K hK => ?_) AllReadyH.nil
        go_simp
        refine Calls.mono (HO3.out _ _ _ _ _ _ _ (IsW.keep If R) HNf.out I6 HN6.out) ?_
        rintro r wb ⟨rfl, bN⟩
        replace R := nbelow_trans R bN
        clear bN
        refine hK.out _ _ R (fun _ => ?_)
        clear hK K
        try simp only [Act.put, List.setIfInBounds_toArray, List.set_cons_zero, List.set_cons_succ]
        refine wpAnyH_take (i := 8) (v := .bool (decide (0 < cc))) rfl (by kernel_rfl) (by kernel_rfl) (by kernel_rfl) (fun _ _ _ h => h) (Or.inl ⟨by rfl, ?y20⟩) R ?r20
        case y20 => (intro ww hS; clear hS; go_simp; try with_reducible rfl)
        try simp only [Act.put]
        refine wpAnyH_take (i := 9) (v := .bool (decide (0 < cc))) rfl (by kernel_rfl) (by kernel_rfl) (by kernel_rfl) (fun _ _ _ h => h) (Or.inl ⟨by rfl, ?y21⟩) R ?r21
        case y21 => (intro ww hS; clear hS; go_simp; try with_reducible rfl)
        try simp only [Act.put]
        refine wpAnyH_done (by kernel_rfl) ?_ _
        clear I6
        replace c0 := dcarry_cell R c0
        replace c1 := dcarry_cell R c1
        replace c2 := dcarry_cell R c2
        replace r0 := dcarry_cell R r0
        replace r1 := dcarry_cell R r1
        replace u0 := dcarry_cell R u0
        replace u1 := dcarry_cell R u1
        replace u2 := dcarry_cell R u2
        replace m0 := dcarry_cell R m0
        replace m1 := dcarry_cell R m1
        replace n0 := dcarry_cell R n0
        replace n1 := dcarry_cell R n1
        replace n2 := dcarry_cell R n2
        replace hI := IsW.keep hI R
        replace If := IsW.keep If R
        replace In := IsW.keep In R
        replace hT0 := hT0.kept R
        replace bw := nbelow_trans bw R
        clear R
        go_wp2_with fail
        exact ⟨⟨2, by omega, by first | rfl | go_num, bw⟩, by simp [intOf]⟩
      · subst q
        clear OU OD HF2 HO
        cases hz : decide ((farD (fromP R0) DD).2.1 = 0) with
        | true =>
          have e5 : fl = 0 := by rw [HFV.out, hz]; rfl
          subst e5
          rw [hz] at HZr
          clear HFV
          go_upto_region 23 with fail
          have R : Below wr.heap.size wr (World.drew wr) := (Below.refl _ _).drew
          refine wp_region_held (S := fun w' => Below wr.heap.size wr w') (by kernel_rfl) ?_
          change wpAnyH _ _ _ _ _ _ _ _ (World.drew wr)
          generalize World.drew wr = wd at R ⊢
          refine wpAnyH_take (i := 0) (v := .pointer (some ⟨w4.heap.size, 1, none⟩)) rfl (by kernel_rfl) (by kernel_rfl) (by kernel_rfl) (fun _ _ _ h => h) (Or.inl ⟨by rfl, ?y22⟩) R ?r22
          case y22 => (intro ww hS; clear hS; go_simp; try with_reducible rfl)
          try simp only [Act.put]
          refine wpAnyH_take (i := 1) (v := .int .u8 0) rfl (by kernel_rfl) (by kernel_rfl) (by kernel_rfl) (fun _ _ _ h => h) (Or.inl ⟨by rfl, ?y23⟩) R ?r23
          case y23 => (intro ww hS; have qr1 := dcarry_cell hS r1; clear hS; go_simp; try with_reducible rfl)
          try simp only [Act.put]
          refine wpAnyH_take (i := 2) (v := .int .u8 0) rfl (by kernel_rfl) (by kernel_rfl) (by kernel_rfl) (fun _ _ _ h => h) (Or.inl ⟨by rfl, ?y24⟩) R ?r24
          case y24 => (intro ww hS; clear hS; go_simp; try with_reducible rfl)
          try simp only [Act.put]
          refine wpAnyH_take (i := 3) (v := .bool false) rfl (by kernel_rfl) (by kernel_rfl) (by kernel_rfl) (fun _ _ _ h => h) (Or.inl ⟨by rfl, ?y25⟩) R ?r25
          case y25 => (intro ww hS; clear hS; go_simp; try with_reducible rfl)
          try simp only [Act.put]
          refine wpAnyH_take (i := 4) (v := dyV (farD (fromP R0) DD).1 af nf cf (farD (fromP R0) DD).2.2) rfl (by kernel_rfl) (by kernel_rfl) (by kernel_rfl) (fun _ _ _ h => h) (Or.inl ⟨by rfl, ?y26⟩) R ?r26
          case y26 => (intro ww hS; have qu0 := dcarry_cell hS u0; have qu1 := dcarry_cell hS u1; have qu2 := dcarry_cell hS u2; clear hS; go_simp; try with_reducible rfl)
          try simp only [Act.put]
          refine wpAnyH_ready (rs := [5]) (by kernel_rfl) (by simp) ?_
          refine AllReadyH.cons rfl (fun K hK => ?_) AllReadyH.nil
          go_simp
          refine Calls.mono (HZr.out _ _ _ _ (IsW.keep If R) HNf.out) ?_
          rintro r wz ⟨rfl, bN⟩
          replace R := nbelow_trans R bN
          clear bN
          refine hK.out _ _ R (fun _ => ?_)
          clear hK K
          try simp only [Act.put, List.setIfInBounds_toArray, List.set_cons_zero, List.set_cons_succ]
          refine wpAnyH_ready (rs := [6]) (by kernel_rfl) (by simp) ?_
          refine AllReadyH.cons rfl (fun K hK => ?_) AllReadyH.nil
          go_simp
          refine hK.out _ _ R (fun _ => ?_)
          clear hK K
          try simp only [Act.put, List.setIfInBounds_toArray, List.set_cons_zero, List.set_cons_succ]
          refine wpAnyH_ready (rs := [7]) (by kernel_rfl) (by simp) ?_
          refine AllReadyH.cons rfl (fun K hK => ?_) AllReadyH.nil
          go_simp
          refine hK.out _ _ R (fun _ => ?_)
          clear hK K
          try simp only [Act.put, List.setIfInBounds_toArray, List.set_cons_zero, List.set_cons_succ]
          refine wpAnyH_ready (rs := [8]) (by kernel_rfl) (by simp) ?_
          refine AllReadyH.cons rfl (fun K hK => ?_) AllReadyH.nil
          go_simp
          refine hK.out _ _ R (fun _ => ?_)
          clear hK K
          try simp only [Act.put, List.setIfInBounds_toArray, List.set_cons_zero, List.set_cons_succ]
          refine wpAnyH_done (by kernel_rfl) ?_ _
          replace bA := nbelow_trans bA R
          go_wp2_with fail
          go_ret
          exact ⟨rfl, bA⟩
        | false =>
          have e5 : fl = ix := by rw [HFV.out, hz]; rfl
          subst e5
          rw [hz] at HZr
          clear HFV
          rcases HIX.out with q | q | q | q
          · subst q
            go_upto_region 23 with fail
            have R : Below wr.heap.size wr (World.drew wr) := (Below.refl _ _).drew
            refine wp_region_held (S := fun w' => Below wr.heap.size wr w') (by kernel_rfl) ?_
            change wpAnyH _ _ _ _ _ _ _ _ (World.drew wr)
            generalize World.drew wr = wd at R ⊢
            refine wpAnyH_take (i := 0) (v := .pointer (some ⟨w4.heap.size, 1, none⟩)) rfl (by kernel_rfl) (by kernel_rfl) (by kernel_rfl) (fun _ _ _ h => h) (Or.inl ⟨by rfl, ?y27⟩) R ?r27
            case y27 => (intro ww hS; clear hS; go_simp; try with_reducible rfl)
            try simp only [Act.put]
            refine wpAnyH_take (i := 1) (v := .int .u8 16) rfl (by kernel_rfl) (by kernel_rfl) (by kernel_rfl) (fun _ _ _ h => h) (Or.inl ⟨by rfl, ?y28⟩) R ?r28
            case y28 => (intro ww hS; have qr1 := dcarry_cell hS r1; clear hS; go_simp; try with_reducible rfl)
            try simp only [Act.put]
            refine wpAnyH_take (i := 2) (v := .int .u8 16) rfl (by kernel_rfl) (by kernel_rfl) (by kernel_rfl) (fun _ _ _ h => h) (Or.inl ⟨by rfl, ?y29⟩) R ?r29
            case y29 => (intro ww hS; clear hS; go_simp; try with_reducible rfl)
            try simp only [Act.put]
            refine wpAnyH_take (i := 3) (v := .bool true) rfl (by kernel_rfl) (by kernel_rfl) (by kernel_rfl) (fun _ _ _ h => h) (Or.inl ⟨by rfl, ?y30⟩) R ?r30
            case y30 => (intro ww hS; clear hS; go_simp; try with_reducible rfl)
            try simp only [Act.put]
            refine wpAnyH_take (i := 4) (v := dyV (farD (fromP R0) DD).1 af nf cf (farD (fromP R0) DD).2.2) rfl (by kernel_rfl) (by kernel_rfl) (by kernel_rfl) (fun _ _ _ h => h) (Or.inl ⟨by rfl, ?y31⟩) R ?r31
            case y31 => (intro ww hS; have qu0 := dcarry_cell hS u0; have qu1 := dcarry_cell hS u1; have qu2 := dcarry_cell hS u2; clear hS; go_simp; try with_reducible rfl)
            try simp only [Act.put]
            refine wpAnyH_ready (rs := [5]) (by kernel_rfl) (by simp) ?_
            refine AllReadyH.cons rfl (fun K hK => ?_) AllReadyH.nil
            go_simp
            refine Calls.mono (HZr.out _ _ _ _ (IsW.keep If R) HNf.out) ?_
            rintro r wz ⟨rfl, bN⟩
            replace R := nbelow_trans R bN
            clear bN
            refine hK.out _ _ R (fun _ => ?_)
            clear hK K
            try simp only [Act.put, List.setIfInBounds_toArray, List.set_cons_zero, List.set_cons_succ]
            refine wpAnyH_ready (rs := [6]) (by kernel_rfl) (by simp) ?_
            refine AllReadyH.cons rfl (fun K hK => ?_) AllReadyH.nil
            go_simp
            refine hK.out _ _ R (fun _ => ?_)
            clear hK K
            try simp only [Act.put, List.setIfInBounds_toArray, List.set_cons_zero, List.set_cons_succ]
            refine wpAnyH_ready (rs := [7]) (by kernel_rfl) (by simp) ?_
            refine AllReadyH.cons rfl (fun K hK => ?_) AllReadyH.nil
            go_simp
            refine hK.out _ _ R (fun _ => ?_)
            clear hK K
            try simp only [Act.put, List.setIfInBounds_toArray, List.set_cons_zero, List.set_cons_succ]
            refine wpAnyH_ready (rs := [8]) (by kernel_rfl) (by simp) ?_
            refine AllReadyH.cons rfl (fun K hK => ?_) AllReadyH.nil
            go_simp
            refine hK.out _ _ R (fun _ => ?_)
            clear hK K
            try simp only [Act.put, List.setIfInBounds_toArray, List.set_cons_zero, List.set_cons_succ]
            refine wpAnyH_done (by kernel_rfl) ?_ _
            replace bA := nbelow_trans bA R
            go_wp2_with fail
            go_ret
            exact ⟨rfl, bA⟩
          · subst q
            go_upto_region 23 with fail
            have R : Below wr.heap.size wr (World.drew wr) := (Below.refl _ _).drew
            refine wp_region_held (S := fun w' => Below wr.heap.size wr w') (by kernel_rfl) ?_
            change wpAnyH _ _ _ _ _ _ _ _ (World.drew wr)
            generalize World.drew wr = wd at R ⊢
            refine wpAnyH_take (i := 0) (v := .pointer (some ⟨w4.heap.size, 1, none⟩)) rfl (by kernel_rfl) (by kernel_rfl) (by kernel_rfl) (fun _ _ _ h => h) (Or.inl ⟨by rfl, ?y32⟩) R ?r32
            case y32 => (intro ww hS; clear hS; go_simp; try with_reducible rfl)
            try simp only [Act.put]
            refine wpAnyH_take (i := 1) (v := .int .u8 20) rfl (by kernel_rfl) (by kernel_rfl) (by kernel_rfl) (fun _ _ _ h => h) (Or.inl ⟨by rfl, ?y33⟩) R ?r33
            case y33 => (intro ww hS; have qr1 := dcarry_cell hS r1; clear hS; go_simp; try with_reducible rfl)
            try simp only [Act.put]
            refine wpAnyH_take (i := 2) (v := .int .u8 16) rfl (by kernel_rfl) (by kernel_rfl) (by kernel_rfl) (fun _ _ _ h => h) (Or.inl ⟨by rfl, ?y34⟩) R ?r34
            case y34 => (intro ww hS; clear hS; go_simp; try with_reducible rfl)
            try simp only [Act.put]
            refine wpAnyH_take (i := 3) (v := .bool true) rfl (by kernel_rfl) (by kernel_rfl) (by kernel_rfl) (fun _ _ _ h => h) (Or.inl ⟨by rfl, ?y35⟩) R ?r35
            case y35 => (intro ww hS; clear hS; go_simp; try with_reducible rfl)
            try simp only [Act.put]
            refine wpAnyH_take (i := 4) (v := dyV (farD (fromP R0) DD).1 af nf cf (farD (fromP R0) DD).2.2) rfl (by kernel_rfl) (by kernel_rfl) (by kernel_rfl) (fun _ _ _ h => h) (Or.inl ⟨by rfl, ?y36⟩) R ?r36
            case y36 => (intro ww hS; have qu0 := dcarry_cell hS u0; have qu1 := dcarry_cell hS u1; have qu2 := dcarry_cell hS u2; clear hS; go_simp; try with_reducible rfl)
            try simp only [Act.put]
            refine wpAnyH_ready (rs := [5]) (by kernel_rfl) (by simp) ?_
            refine AllReadyH.cons rfl (fun K hK => ?_) AllReadyH.nil
            go_simp
            refine Calls.mono (HZr.out _ _ _ _ (IsW.keep If R) HNf.out) ?_
            rintro r wz ⟨rfl, bN⟩
            replace R := nbelow_trans R bN
            clear bN
            refine hK.out _ _ R (fun _ => ?_)
            clear hK K
            try simp only [Act.put, List.setIfInBounds_toArray, List.set_cons_zero, List.set_cons_succ]
            refine wpAnyH_ready (rs := [6]) (by kernel_rfl) (by simp) ?_
            refine AllReadyH.cons rfl (fun K hK => ?_) AllReadyH.nil
            go_simp
            refine hK.out _ _ R (fun _ => ?_)
            clear hK K
            try simp only [Act.put, List.setIfInBounds_toArray, List.set_cons_zero, List.set_cons_succ]
            refine wpAnyH_ready (rs := [7]) (by kernel_rfl) (by simp) ?_
            refine AllReadyH.cons rfl (fun K hK => ?_) AllReadyH.nil
            go_simp
            refine hK.out _ _ R (fun _ => ?_)
            clear hK K
            try simp only [Act.put, List.setIfInBounds_toArray, List.set_cons_zero, List.set_cons_succ]
            refine wpAnyH_ready (rs := [8]) (by kernel_rfl) (by simp) ?_
            refine AllReadyH.cons rfl (fun K hK => ?_) AllReadyH.nil
            go_simp
            refine hK.out _ _ R (fun _ => ?_)
            clear hK K
            try simp only [Act.put, List.setIfInBounds_toArray, List.set_cons_zero, List.set_cons_succ]
            refine wpAnyH_done (by kernel_rfl) ?_ _
            replace bA := nbelow_trans bA R
            go_wp2_with fail
            go_ret
            exact ⟨rfl, bA⟩
          · subst q
            go_upto_region 23 with fail
            have R : Below wr.heap.size wr (World.drew wr) := (Below.refl _ _).drew
            refine wp_region_held (S := fun w' => Below wr.heap.size wr w') (by kernel_rfl) ?_
            change wpAnyH _ _ _ _ _ _ _ _ (World.drew wr)
            generalize World.drew wr = wd at R ⊢
            refine wpAnyH_take (i := 0) (v := .pointer (some ⟨w4.heap.size, 1, none⟩)) rfl (by kernel_rfl) (by kernel_rfl) (by kernel_rfl) (fun _ _ _ h => h) (Or.inl ⟨by rfl, ?y37⟩) R ?r37
            case y37 => (intro ww hS; clear hS; go_simp; try with_reducible rfl)
            try simp only [Act.put]
            refine wpAnyH_take (i := 1) (v := .int .u8 24) rfl (by kernel_rfl) (by kernel_rfl) (by kernel_rfl) (fun _ _ _ h => h) (Or.inl ⟨by rfl, ?y38⟩) R ?r38
            case y38 => (intro ww hS; have qr1 := dcarry_cell hS r1; clear hS; go_simp; try with_reducible rfl)
            try simp only [Act.put]
            refine wpAnyH_take (i := 2) (v := .int .u8 16) rfl (by kernel_rfl) (by kernel_rfl) (by kernel_rfl) (fun _ _ _ h => h) (Or.inl ⟨by rfl, ?y39⟩) R ?r39
            case y39 => (intro ww hS; clear hS; go_simp; try with_reducible rfl)
            try simp only [Act.put]
            refine wpAnyH_take (i := 3) (v := .bool true) rfl (by kernel_rfl) (by kernel_rfl) (by kernel_rfl) (fun _ _ _ h => h) (Or.inl ⟨by rfl, ?y40⟩) R ?r40
            case y40 => (intro ww hS; clear hS; go_simp; try with_reducible rfl)
            try simp only [Act.put]
            refine wpAnyH_take (i := 4) (v := dyV (farD (fromP R0) DD).1 af nf cf (farD (fromP R0) DD).2.2) rfl (by kernel_rfl) (by kernel_rfl) (by kernel_rfl) (fun _ _ _ h => h) (Or.inl ⟨by rfl, ?y41⟩) R ?r41
            case y41 => (intro ww hS; have qu0 := dcarry_cell hS u0; have qu1 := dcarry_cell hS u1; have qu2 := dcarry_cell hS u2; clear hS; go_simp; try with_reducible rfl)
            try simp only [Act.put]
            refine wpAnyH_ready (rs := [5]) (by kernel_rfl) (by simp) ?_
            refine AllReadyH.cons rfl (fun K hK => ?_) AllReadyH.nil
            go_simp
            refine Calls.mono (HZr.out _ _ _ _ (IsW.keep If R) HNf.out) ?_
            rintro r wz ⟨rfl, bN⟩
            replace R := nbelow_trans R bN
            clear bN
            refine hK.out _ _ R (fun _ => ?_)
            clear hK K
            try simp only [Act.put, List.setIfInBounds_toArray, List.set_cons_zero, List.set_cons_succ]
            refine wpAnyH_ready (rs := [6]) (by kernel_rfl) (by simp) ?_
            refine AllReadyH.cons rfl (fun K hK => ?_) AllReadyH.nil
            go_simp
            refine hK.out _ _ R (fun _ => ?_)
            clear hK K
            try simp only [Act.put, List.setIfInBounds_toArray, List.set_cons_zero, List.set_cons_succ]
            refine wpAnyH_ready (rs := [7]) (by kernel_rfl) (by simp) ?_
            refine AllReadyH.cons rfl (fun K hK => ?_) AllReadyH.nil
            go_simp
            refine hK.out _ _ R (fun _ => ?_)
            clear hK K
            try simp only [Act.put, List.setIfInBounds_toArray, List.set_cons_zero, List.set_cons_succ]
            refine wpAnyH_ready (rs := [8]) (by kernel_rfl) (by simp) ?_
            refine AllReadyH.cons rfl (fun K hK => ?_) AllReadyH.nil
            go_simp
            refine hK.out _ _ R (fun _ => ?_)
            clear hK K
            try simp only [Act.put, List.setIfInBounds_toArray, List.set_cons_zero, List.set_cons_succ]
            refine wpAnyH_done (by kernel_rfl) ?_ _
            replace bA := nbelow_trans bA R
            go_wp2_with fail
            go_ret
            exact ⟨rfl, bA⟩
          · subst q
            go_upto_region 23 with fail
            have R : Below wr.heap.size wr (World.drew wr) := (Below.refl _ _).drew
            refine wp_region_held (S := fun w' => Below wr.heap.size wr w') (by kernel_rfl) ?_
            change wpAnyH _ _ _ _ _ _ _ _ (World.drew wr)
            generalize World.drew wr = wd at R ⊢
            refine wpAnyH_take (i := 0) (v := .pointer (some ⟨w4.heap.size, 1, none⟩)) rfl (by kernel_rfl) (by kernel_rfl) (by kernel_rfl) (fun _ _ _ h => h) (Or.inl ⟨by rfl, ?y42⟩) R ?r42
            case y42 => (intro ww hS; clear hS; go_simp; try with_reducible rfl)
            try simp only [Act.put]
            refine wpAnyH_take (i := 1) (v := .int .u8 28) rfl (by kernel_rfl) (by kernel_rfl) (by kernel_rfl) (fun _ _ _ h => h) (Or.inl ⟨by rfl, ?y43⟩) R ?r43
            case y43 => (intro ww hS; have qr1 := dcarry_cell hS r1; clear hS; go_simp; try with_reducible rfl)
            try simp only [Act.put]
            refine wpAnyH_take (i := 2) (v := .int .u8 16) rfl (by kernel_rfl) (by kernel_rfl) (by kernel_rfl) (fun _ _ _ h => h) (Or.inl ⟨by rfl, ?y44⟩) R ?r44
            case y44 => (intro ww hS; clear hS; go_simp; try with_reducible rfl)
            try simp only [Act.put]
            refine wpAnyH_take (i := 3) (v := .bool true) rfl (by kernel_rfl) (by kernel_rfl) (by kernel_rfl) (fun _ _ _ h => h) (Or.inl ⟨by rfl, ?y45⟩) R ?r45
            case y45 => (intro ww hS; clear hS; go_simp; try with_reducible rfl)
            try simp only [Act.put]
            refine wpAnyH_take (i := 4) (v := dyV (farD (fromP R0) DD).1 af nf cf (farD (fromP R0) DD).2.2) rfl (by kernel_rfl) (by kernel_rfl) (by kernel_rfl) (fun _ _ _ h => h) (Or.inl ⟨by rfl, ?y46⟩) R ?r46
            case y46 => (intro ww hS; have qu0 := dcarry_cell hS u0; have qu1 := dcarry_cell hS u1; have qu2 := dcarry_cell hS u2; clear hS; go_simp; try with_reducible rfl)
            try simp only [Act.put]
            refine wpAnyH_ready (rs := [5]) (by kernel_rfl) (by simp) ?_
            refine AllReadyH.cons rfl (fun K hK => ?_) AllReadyH.nil
            go_simp
            refine Calls.mono (HZr.out _ _ _ _ (IsW.keep If R) HNf.out) ?_
            rintro r wz ⟨rfl, bN⟩
            replace R := nbelow_trans R bN
            clear bN
            refine hK.out _ _ R (fun _ => ?_)
            clear hK K
            try simp only [Act.put, List.setIfInBounds_toArray, List.set_cons_zero, List.set_cons_succ]
            refine wpAnyH_ready (rs := [6]) (by kernel_rfl) (by simp) ?_
            refine AllReadyH.cons rfl (fun K hK => ?_) AllReadyH.nil
            go_simp
            refine hK.out _ _ R (fun _ => ?_)
            clear hK K
            try simp only [Act.put, List.setIfInBounds_toArray, List.set_cons_zero, List.set_cons_succ]
            refine wpAnyH_ready (rs := [7]) (by kernel_rfl) (by simp) ?_
            refine AllReadyH.cons rfl (fun K hK => ?_) AllReadyH.nil
            go_simp
            refine hK.out _ _ R (fun _ => ?_)
            clear hK K
            try simp only [Act.put, List.setIfInBounds_toArray, List.set_cons_zero, List.set_cons_succ]
            refine wpAnyH_ready (rs := [8]) (by kernel_rfl) (by simp) ?_
            refine AllReadyH.cons rfl (fun K hK => ?_) AllReadyH.nil
            go_simp
            refine hK.out _ _ R (fun _ => ?_)
            clear hK K
            try simp only [Act.put, List.setIfInBounds_toArray, List.set_cons_zero, List.set_cons_succ]
            refine wpAnyH_done (by kernel_rfl) ?_ _
            replace bA := nbelow_trans bA R
            go_wp2_with fail
            go_ret
            exact ⟨rfl, bA⟩
end Go.Proofs.YtognliaoonkmiaaDoor

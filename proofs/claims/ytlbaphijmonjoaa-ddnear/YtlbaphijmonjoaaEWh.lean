/- Numbers in units of 2^-2148, as products of numbers in least units are; the same contracts for them. -/
import Derived.Test.YtlbaphijmonjoaaEVb
namespace Go.Proofs.Ytlbaphijmonjoaa
open Go.RowKit

def dyT (v : Int) : Bool × Nat × Int := formD (decide (v < 0)) v.natAbs (-2148)
theorem dyT_vI (v : Int) : vI (dyT v) (-2148) = v := by
  unfold dyT
  rw [vI_form _ _ _ _ (Int.le_refl _), show ((-2148 : Int) - -2148).toNat = 0 by decide, Nat.pow_zero, Nat.mul_one]
  unfold sI
  by_cases h : v < 0
  · rw [decide_eq_true h, if_pos rfl]; omega
  · rw [decide_eq_false h, if_neg (by simp)]; omega
theorem dyT_can (v : Int) : CanD (dyT v) := form_can _ _ _
theorem dyT_low (v : Int) : -2148 ≤ (dyT v).2.2 := form_lo _ _ _ _ (by decide) (Int.le_refl _)
theorem dyT_of {p : Bool × Nat × Int} {v : Int} (c : CanD p) (lo : -2148 ≤ p.2.2) (h : vI p (-2148) = v) : p = dyT v :=
  vI_inj _ _ c (dyT_can v) (-2148) lo (dyT_low v) (by rw [h, dyT_vI])
theorem dyT_sum (u v : Int) : sumD (dyT u) (dyT v) = dyT (u + v) :=
  dyT_of (sum_canF (dyT_can u) (dyT_can v)) (sum_low _ _ (-2148) (by decide) (dyT_low u) (dyT_low v)) (by rw [vI_sum _ _ _ (dyT_low u) (dyT_low v), dyT_vI, dyT_vI])
theorem dyT_sz (v : Int) (K : Nat) (h : v.natAbs < 2 ^ K) : blen (dyT v).2.1 ≤ K ∧ -2148 ≤ (dyT v).2.2 ∧ (dyT v).2.2 ≤ (K : Int) := by
  have hb := (blen_le _ K).2 h
  refine ⟨Nat.le_trans (blen_mono (form_amount_le _ _ _)) hb, dyT_low v, ?_⟩
  unfold dyT
  by_cases h0 : v.natAbs = 0
  · rw [h0, form_zero]; show (0 : Int) ≤ _; omega
  · rw [form_pos _ h0]
    have := tz_le_blen v.natAbs
    show (-2148 : Int) + (tz v.natAbs : Int) ≤ _
    omega
theorem dyT_neg (v : Int) : formD (!(dyT v).1) (dyT v).2.1 (dyT v).2.2 = dyT (-v) := by
  rw [neg_can (dyT_can v)]
  refine dyT_of ?_ (dyT_low v) (by rw [vI_neg, dyT_vI])
  rw [← neg_can (dyT_can v)]; exact form_can _ _ _
theorem tless_calls (u v : Int) (K : Nat) (hu : u.natAbs < 2 ^ K) (hv : v.natAbs < 2 ^ K) (hK : K ≤ 60000) (a b : Option Addr) (n c m d : Nat) (W : World) (p : IsW W a n c (wordsOf (dyT u).2.1)) (q : IsW W b m d (wordsOf (dyT v).2.1)) :
    Calls Try.prog 13 #[dyV (dyT u).1 a n c (dyT u).2.2, dyV (dyT v).1 b m d (dyT v).2.2] W fun r w' => ∃ v', r = .returned v' ∧ DyQ W.heap.size w' v' (dyT (u - v)) ∧ Below W.heap.size W w' := by
  obtain ⟨s1, s2, s3⟩ := dyT_sz u K hu
  obtain ⟨t1, t2, t3⟩ := dyT_sz v K hv
  have n1 : n ≤ 1024 := by rw [p.1]; exact (words_len2 _ _).2 (by omega)
  have n2 : m ≤ 1024 := by rw [q.1]; exact (words_len2 _ _).2 (by omega)
  have := qLess_calls (dyT u).1 a n c (wordsOf (dyT u).2.1) (dyT u).2.2 (dyT v).1 b m d (wordsOf (dyT v).2.1) (dyT v).2.2 W p (by omega) q (by omega) (by omega) (by omega) (by rw [val_words]; omega) (by rw [val_words]; omega)
  rw [val_words, val_words, form_of_can (dyT_can u), dyT_neg, dyT_sum, ← Int.sub_eq_add_neg] at this
  exact this
theorem withinT_le (D M : Int) (k : Nat) (h : D.natAbs * 2 ^ k ≤ M.natAbs) : cmpD (formD false (dyT D).2.1 (dyT D).2.2) (formD false (formD (dyT M).1 (dyT M).2.1 ((dyT M).2.2 + -(k : Int))).2.1 (formD (dyT M).1 (dyT M).2.1 ((dyT M).2.2 + -(k : Int))).2.2) ≤ 0 := by
  obtain ⟨T, hT⟩ : ∃ T, T = formD (dyT M).1 (dyT M).2.1 ((dyT M).2.2 + -(k : Int)) := ⟨_, rfl⟩
  obtain ⟨J, hJ⟩ : ∃ J : Nat, J = 2148 + k := ⟨_, rfl⟩
  have lD := dyT_low D
  have lM := dyT_low M
  have lT : -(J : Int) ≤ T.2.2 := by rw [hT]; exact form_lo _ _ _ _ (by omega) (by omega)
  have vT : vI T (-(J : Int)) = M := by
    rw [hT, vI_form _ _ _ _ (by omega), show ((dyT M).2.2 + -(k : Int) - -(J : Int)).toNat = ((dyT M).2.2 - -2148).toNat by omega]
    exact dyT_vI M
  have vD : vI (dyT D) (-(J : Int)) = D * ((2 ^ k : Nat) : Int) := by
    rw [show -(J : Int) = -2148 - (k : Int) by omega, vI_down _ _ _ lD, dyT_vI]
  rw [← hT, vI_cmp _ _ J (form_lo _ _ _ _ (by omega) (by omega)) (form_lo _ _ _ _ (by omega) lT), vI_abs _ _ (by omega), vI_abs _ _ lT, vT, vD, Int.natAbs_mul, Int.natAbs_natCast]
  unfold Lib.compareInt
  generalize D.natAbs * 2 ^ k = x at *
  generalize M.natAbs = y at *
  split
  · decide
  · split
    · omega
    · decide
set_option maxRecDepth 100000 in
set_option maxHeartbeats 4000000 in
theorem withinT_calls (D M : Int) (k K : Nat) (i : Int) (hi : i = -(k : Int)) (hk : k ≤ 1000) (hD : D.natAbs < 2 ^ K) (hM : M.natAbs < 2 ^ K) (hK : K ≤ 60000) (a b : Option Addr) (n c m d : Nat) (w : World) (p : IsW w a n c (wordsOf (dyT D).2.1)) (q : IsW w b m d (wordsOf (dyT M).2.1)) (hle : D.natAbs * 2 ^ k ≤ M.natAbs) :
    Calls Try.prog 15 #[dyV (dyT D).1 a n c (dyT D).2.2, .int .i64 i, dyV (dyT M).1 b m d (dyT M).2.2] w fun r w' => r = .returned (.bool true) ∧ Below w.heap.size w w' := by
  obtain ⟨s1, s2, s3⟩ := dyT_sz D K hD
  obtain ⟨t1, t2, t3⟩ := dyT_sz M K hM
  have n1 : n ≤ 1024 := by rw [p.1]; exact (words_len2 _ _).2 (by omega)
  have n2 : m ≤ 1024 := by rw [q.1]; exact (words_len2 _ _).2 (by omega)
  have hC := withinT_le D M k hle
  rw [← hi] at hC
  have cP := form_of_can (dyT_can D)
  clear hle hD hM
  generalize dyT D = P at *
  generalize dyT M = Q at *
  obtain ⟨T, hT⟩ : ∃ T, T = formD Q.1 Q.2.1 (Q.2.2 + i) := ⟨_, rfl⟩
  rw [← hT] at hC
  have u1 : blen T.2.1 ≤ K := by rw [hT]; exact Nat.le_trans (blen_mono (form_amount_le _ _ _)) t1
  have u2 := form_expc Q.1 Q.2.1 (Q.2.2 + i) (by omega) (by omega)
  rw [← hT] at u2
  have u3 : -5000000 ≤ T.2.2 ∧ T.2.2 ≤ 5000000 := by
    rw [hT]
    by_cases h0 : Q.2.1 = 0
    · rw [h0, form_zero]; exact ⟨by decide, by decide⟩
    · rw [form_pos _ h0]
      have := tz_le_blen Q.2.1
      refine ⟨?_, ?_⟩
      · show _ ≤ Q.2.2 + i + (tz Q.2.1 : Int); omega
      · show Q.2.2 + i + (tz Q.2.1 : Int) ≤ _; omega
  have HO : Hid (∀ W, IsW W a n c (wordsOf P.2.1) → Calls Try.prog 29 #[dyV P.1 a n c P.2.2] W fun r w' => ∃ v', r = .returned v' ∧ DyQ W.heap.size w' v' P ∧ Below W.heap.size W w') := fun W g => by
    have := qOne_calls P.1 a n c (wordsOf P.2.1) P.2.2 W g (by omega) (by omega)
    rw [val_words, cP] at this
    exact this
  have HT : Hid (∀ W, IsW W b m d (wordsOf Q.2.1) → Calls Try.prog 37 #[dyV Q.1 b m d Q.2.2, .int .i64 i] W fun r w' => ∃ v', r = .returned v' ∧ DyQ W.heap.size w' v' T ∧ Below W.heap.size W w') := fun W g => by
    have := qTwice_calls Q.1 b m d (wordsOf Q.2.1) Q.2.2 i W g (by omega) (by omega)
    rw [val_words, ← hT] at this
    exact this
  have HC : Hid (∀ a1 n1 c1 a2 n2 c2 W, n1 = (wordsOf P.2.1).length → n2 = (wordsOf T.2.1).length → IsW W a1 n1 c1 (wordsOf P.2.1) → IsW W a2 n2 c2 (wordsOf T.2.1) → Calls Try.prog 38 #[dyV false a1 n1 c1 P.2.2, dyV false a2 n2 c2 T.2.2] W fun r w' => ∃ C : Int, r = .returned (.int .i64 C) ∧ C ≤ 0 ∧ Below W.heap.size W w') := fun a1 n1 c1 a2 n2 c2 W e1 e2 g1 g2 => by
    have l1 : n1 ≤ 1024 := by rw [e1]; exact (words_len2 _ _).2 (by omega)
    have l2 : n2 ≤ 1024 := by rw [e2]; exact (words_len2 _ _).2 (by omega)
    have := qOrder_calls false a1 n1 c1 (wordsOf P.2.1) P.2.2 false a2 n2 c2 (wordsOf T.2.1) T.2.2 W g1 (by omega) g2 (by omega) (by omega) (by omega) (by rw [val_words]; omega) (by rw [val_words]; omega)
    rw [val_words, val_words] at this
    exact this.mono fun r w' ⟨h1, h2⟩ => ⟨_, h1, hC, h2⟩
  clear hT hC cP u1 u2 u3 s1 s2 s3 t1 t2 t3 hi
  have bw : Below w.heap.size w ((w.alloc (.cells #[.bool P.1, .slice a n c, .int .i64 P.2.2] 30)).alloc (.cells #[.bool Q.1, .slice b m d, .int .i64 Q.2.2] 30)) := nbelow_trans (below_one _ _) (below_one _ _)
  have z0 : ((w.alloc (.cells #[.bool P.1, .slice a n c, .int .i64 P.2.2] 30)).alloc (.cells #[.bool Q.1, .slice b m d, .int .i64 Q.2.2] 30)).cell? ⟨w.heap.size + 1, 0, none⟩ = some (.bool Q.1) := by go_simp
  have z1 : ((w.alloc (.cells #[.bool P.1, .slice a n c, .int .i64 P.2.2] 30)).alloc (.cells #[.bool Q.1, .slice b m d, .int .i64 Q.2.2] 30)).cell? ⟨w.heap.size + 1, 1, none⟩ = some (.slice b m d) := by go_simp
  have z2 : ((w.alloc (.cells #[.bool P.1, .slice a n c, .int .i64 P.2.2] 30)).alloc (.cells #[.bool Q.1, .slice b m d, .int .i64 Q.2.2] 30)).cell? ⟨w.heap.size + 1, 2, none⟩ = some (.int .i64 Q.2.2) := by go_simp
  have p' := p.keep bw
  have q' := q.keep bw
  go_enter Try.func15, Try.ntmps15
  go_wp2_with fail
  generalize ((w.alloc (.cells #[.bool P.1, .slice a n c, .int .i64 P.2.2] 30)).alloc (.cells #[.bool Q.1, .slice b m d, .int .i64 Q.2.2] 30)) = w0 at *
  refine Calls.mono (HO.out _ p') ?_
  rintro r w1 ⟨_, rfl, ⟨a1, n3, c1, rfl, HN1, hO1⟩, b1⟩
  have J1 := hO1.1
  have b1A := below_one w1 (.cells #[.bool P.1, .slice a1 n3 c1, .int .i64 P.2.2] 30)
  have b0A := nbelow_trans b1 b1A
  replace z0 := dcarry_cell b0A z0
  replace z1 := dcarry_cell b0A z1
  replace z2 := dcarry_cell b0A z2
  replace q' := q'.keep b0A
  replace bw := nbelow_trans bw b0A
  have k0 : (w1.alloc (.cells #[.bool P.1, .slice a1 n3 c1, .int .i64 P.2.2] 30)).cell? ⟨w1.heap.size, 0, none⟩ = some (.bool P.1) := by go_simp
  have k1 : (w1.alloc (.cells #[.bool P.1, .slice a1 n3 c1, .int .i64 P.2.2] 30)).cell? ⟨w1.heap.size, 1, none⟩ = some (.slice a1 n3 c1) := by go_simp
  have k2 : (w1.alloc (.cells #[.bool P.1, .slice a1 n3 c1, .int .i64 P.2.2] 30)).cell? ⟨w1.heap.size, 2, none⟩ = some (.int .i64 P.2.2) := by go_simp
  have f0 : (w1.alloc (.cells #[.bool P.1, .slice a1 n3 c1, .int .i64 P.2.2] 30)).frozen? ⟨w1.heap.size, 0, none⟩ = false := by go_simp
  have HB1 : Hid (∀ b off i, a1 = some ⟨b, off, none⟩ → i < n3 → b < w1.heap.size) := fun b off i e hi => by
    obtain ⟨b2, off2, e1, e2, -⟩ := J1.2.2.2 i hi
    rw [e] at e1
    cases e1
    exact e2
  have HS1 : Hid ((w1.alloc (.cells #[.bool P.1, .slice a1 n3 c1, .int .i64 P.2.2] 30)).heap.size = w1.heap.size + 1) := by rw [Hid]; simp
  replace J1 := J1.keep b1A
  have HW1 : Hid (w.heap.size ≤ w1.heap.size) := by rw [Hid]; have := bw.size; have := World.block_lt_of_cell? _ _ z0; have h2 := b1.size; simp at *; omega
  clear hO1 b1 b1A b0A p'
  go_wp2_with fail
  generalize (w1.alloc (.cells #[.bool P.1, .slice a1 n3 c1, .int .i64 P.2.2] 30)) = w2 at *
  refine Calls.mono (HT.out _ q') ?_
  rintro r w3 ⟨_, rfl, ⟨a3, n4, c3, rfl, HN3, hO3⟩, b3⟩
  have J3 := hO3.1
  have b3A := below_one w3 (.cells #[.bool T.1, .slice a3 n4 c3, .int .i64 T.2.2] 30)
  have b2A := nbelow_trans b3 b3A
  have HB3 : Hid (∀ b off i, a3 = some ⟨b, off, none⟩ → i < n4 → w1.heap.size + 1 ≤ b ∧ b < w3.heap.size) := fun b off i e hi => by
    obtain ⟨b2, off2, e1, e2, -⟩ := J3.2.2.2 i hi
    have h1 := (hO3.2 b off i e hi).1
    rw [HS1.out] at h1
    rw [e] at e1
    cases e1
    exact ⟨h1, e2⟩
  have HW3 : Hid (w1.heap.size < w3.heap.size) := by rw [Hid]; have := b3.size; have := HS1.out; omega
  replace f0 := dcarry_frozen b2A k0 f0
  replace k0 := dcarry_cell b2A k0
  replace k1 := dcarry_cell b2A k1
  replace k2 := dcarry_cell b2A k2
  replace J1 := J1.keep b2A
  replace J3 := J3.keep b3A
  replace bw := nbelow_trans bw b2A
  have l0 : (w3.alloc (.cells #[.bool T.1, .slice a3 n4 c3, .int .i64 T.2.2] 30)).cell? ⟨w3.heap.size, 0, none⟩ = some (.bool T.1) := by go_simp
  have l1 : (w3.alloc (.cells #[.bool T.1, .slice a3 n4 c3, .int .i64 T.2.2] 30)).cell? ⟨w3.heap.size, 1, none⟩ = some (.slice a3 n4 c3) := by go_simp
  have l2 : (w3.alloc (.cells #[.bool T.1, .slice a3 n4 c3, .int .i64 T.2.2] 30)).cell? ⟨w3.heap.size, 2, none⟩ = some (.int .i64 T.2.2) := by go_simp
  have g0 : (w3.alloc (.cells #[.bool T.1, .slice a3 n4 c3, .int .i64 T.2.2] 30)).frozen? ⟨w3.heap.size, 0, none⟩ = false := by go_simp
  have hne : ¬ w1.heap.size = w3.heap.size := by have := HW3.out; omega
  have hne' : ¬ w3.heap.size = w1.heap.size := by have := HW3.out; omega
  clear hO3 b3 b3A b2A z0 z1 z2 q'
  have J1' := isW_at (isW_at J1 ⟨w1.heap.size, 0, none⟩ (.bool false) (fun b off i e hi => by have := HB1.out b off i e hi; show w1.heap.size ≠ b; omega)) ⟨w3.heap.size, 0, none⟩ (.bool false) (fun b off i e hi => by have := HB1.out b off i e hi; have := HW3.out; show w3.heap.size ≠ b; omega)
  have J3' := isW_at (isW_at J3 ⟨w1.heap.size, 0, none⟩ (.bool false) (fun b off i e hi => by have := HB3.out b off i e hi; show w1.heap.size ≠ b; omega)) ⟨w3.heap.size, 0, none⟩ (.bool false) (fun b off i e hi => by have := HB3.out b off i e hi; show w3.heap.size ≠ b; omega)
  have bw' : Below w.heap.size w (((w3.alloc (.cells #[.bool T.1, .slice a3 n4 c3, .int .i64 T.2.2] 30)).setCell ⟨w1.heap.size, 0, none⟩ (.bool false)).setCell ⟨w3.heap.size, 0, none⟩ (.bool false)) := (bw.setCell (by have := HW1.out; exact this) _).setCell (by have := HW1.out; have := HW3.out; show w.heap.size ≤ w3.heap.size; omega) _
  clear J1 J3 bw
  go_wp2_with fail
  refine Calls.mono (HC.out _ _ _ _ _ _ _ HN1.out HN3.out J1' J3') ?_
  rintro r w5 ⟨C, rfl, hC, b5⟩
  have hCd : decide (C ≤ 0) = true := by simpa using hC
  go_wp2_with fail
  go_ret
  exact ⟨by simp, nbelow_trans bw' b5⟩


theorem dyT_mul (u v : Int) : mulD (dyU u) (dyU v) = dyT (u * v) := by
  have h1 := mul_low (dyU u) (dyU v) (-1074) (-1074) (by decide) (dyU_low u) (dyU_low v)
  have h2 := vI_mul (dyU u) (dyU v) (-1074) (-1074) (dyU_low u) (dyU_low v)
  rw [dyU_vI, dyU_vI] at h2
  exact dyT_of (form_can _ _ _) h1 h2
theorem dyT_of_U (v : Int) (D : Nat) (hD : D = 1074) : dyU v = dyT (v * ((2 ^ D : Nat) : Int)) := by
  refine dyT_of (dyU_can v) (by have := dyU_low v; omega) ?_
  have := vI_down (dyU v) (-1074) D (dyU_low v)
  rw [dyU_vI, show (-1074 : Int) - (D : Int) = -2148 by omega] at this
  exact this
theorem utimesT_calls (u v : Int) (K : Nat) (hu : u.natAbs < 2 ^ K) (hv : v.natAbs < 2 ^ K) (hK : K ≤ 60000) (a b : Option Addr) (n c m d : Nat) (W : World) (p : IsW W a n c (wordsOf (dyU u).2.1)) (q : IsW W b m d (wordsOf (dyU v).2.1)) :
    Calls Try.prog 14 #[dyV (dyU u).1 a n c (dyU u).2.2, dyV (dyU v).1 b m d (dyU v).2.2] W fun r w' => ∃ v', r = .returned v' ∧ DyQ W.heap.size w' v' (dyT (u * v)) ∧ Below W.heap.size W w' := by
  have := utimes_calls u v K hu hv hK a b n c m d W p q
  rw [dyT_mul] at this
  exact this
end Go.Proofs.Ytlbaphijmonjoaa

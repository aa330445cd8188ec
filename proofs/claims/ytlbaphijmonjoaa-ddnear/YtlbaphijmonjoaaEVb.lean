/- What a pair is exactly, in least units; 'finite' and 'within' of the statements on pairs. -/
import Derived.Test.YtlbaphijmonjoaaEVa
import Derived.Test.YtlbaphijmonjoaaEUd
import Derived.Test.YtlbaphijmonjoaaDF1T
import Derived.Test.YtlbaphijmonjoaaRD14
import Derived.Test.YtlbaphijmonjoaaRD4
import Derived.Test.YtlbaphijmonjoaaRD19
import Derived.Test.YtlbaphijmonjoaaTME
namespace Go.Proofs.Ytlbaphijmonjoaa
open Go.RowKit

theorem uexact_calls (h l : Nat) (w : World) (hh : h < 18446744073709551616) (hl : l < 18446744073709551616) (fh : EP.finB h = true) (fl : EP.finB l = true) :
    Calls Try.prog 7 #[.agg #[.float .f64 h, .float .f64 l]] w fun r w' => ∃ v', r = .returned v' ∧ DyQ w.heap.size w' v' (dyU (EP.V h + EP.V l)) ∧ Below w.heap.size w w' := by
  have := rexact_calls h l w hh hl
  rw [dyU_from h hh fh, dyU_from l hl fl, dyU_sum] at this
  exact this
theorem dyU_neg (v : Int) : formD (!(dyU v).1) (dyU v).2.1 (dyU v).2.2 = dyU (-v) := by
  rw [neg_can (dyU_can v)]
  refine dyU_of ?_ (dyU_low v) (by rw [vI_neg, dyU_vI])
  rw [← neg_can (dyU_can v)]; exact form_can _ _ _
theorem dyU_abs (v : Int) : dyU (v.natAbs : Int) = (false, (dyU v).2.1, (dyU v).2.2) := by
  unfold dyU
  rw [Int.natAbs_natCast, decide_eq_false (by omega)]
  by_cases h0 : v.natAbs = 0
  · rw [h0, form_zero, form_zero]
  · rw [form_pos _ h0, form_pos _ h0]
theorem uless_calls (u v : Int) (K : Nat) (hu : u.natAbs < 2 ^ K) (hv : v.natAbs < 2 ^ K) (hK : K ≤ 60000) (a b : Option Addr) (n c m d : Nat) (W : World) (p : IsW W a n c (wordsOf (dyU u).2.1)) (q : IsW W b m d (wordsOf (dyU v).2.1)) :
    Calls Try.prog 13 #[dyV (dyU u).1 a n c (dyU u).2.2, dyV (dyU v).1 b m d (dyU v).2.2] W fun r w' => ∃ v', r = .returned v' ∧ DyQ W.heap.size w' v' (dyU (u - v)) ∧ Below W.heap.size W w' := by
  obtain ⟨s1, s2, s3⟩ := dyU_sz u K hu
  obtain ⟨t1, t2, t3⟩ := dyU_sz v K hv
  have n1 : n ≤ 1024 := by rw [p.1]; exact (words_len2 _ _).2 (by omega)
  have n2 : m ≤ 1024 := by rw [q.1]; exact (words_len2 _ _).2 (by omega)
  have := qLess_calls (dyU u).1 a n c (wordsOf (dyU u).2.1) (dyU u).2.2 (dyU v).1 b m d (wordsOf (dyU v).2.1) (dyU v).2.2 W p (by omega) q (by omega) (by omega) (by omega) (by rw [val_words]; omega) (by rw [val_words]; omega)
  rw [val_words, val_words, form_of_can (dyU_can u), dyU_neg, dyU_sum, ← Int.sub_eq_add_neg] at this
  exact this
theorem mul_int (u : Int) (n : Nat) : mulD (dyU u) (intD (n : Int)) = dyU (u * (n : Int)) := by
  have lo : (0 : Int) ≤ (intD (n : Int)).2.2 := form_lo _ _ _ _ (Int.le_refl _) (Int.le_refl _)
  have h1 := mul_low (dyU u) (intD (n : Int)) (-1074) 0 (by decide) (dyU_low u) lo
  have h2 := vI_mul (dyU u) (intD (n : Int)) (-1074) 0 (dyU_low u) lo
  rw [Int.add_zero] at h1 h2
  refine dyU_of (form_can _ _ _) h1 ?_
  rw [h2, dyU_vI]
  congr 1
  unfold intD
  rw [vI_form _ _ _ _ (Int.le_refl _), decide_eq_false (by omega)]
  simp [sI]
theorem utimesn_calls (u : Int) (k K : Nat) (hu : u.natAbs < 2 ^ K) (hk : k ≤ 100000) (hK : K ≤ 60000) (a b : Option Addr) (n c m d : Nat) (W : World) (p : IsW W a n c (wordsOf (dyU u).2.1)) (q : IsW W b m d (wordsOf (intD (k : Int)).2.1)) :
    Calls Try.prog 14 #[dyV (dyU u).1 a n c (dyU u).2.2, dyV (intD (k : Int)).1 b m d (intD (k : Int)).2.2] W fun r w' => ∃ v', r = .returned v' ∧ DyQ W.heap.size w' v' (dyU (u * (k : Int))) ∧ Below W.heap.size W w' := by
  obtain ⟨s1, s2, s3⟩ := dyU_sz u K hu
  have t1 : blen (intD (k : Int)).2.1 ≤ 17 := Nat.le_trans (blen_mono (form_amount_le _ _ _)) ((blen_le _ 17).2 (by rw [Int.natAbs_natCast]; omega))
  have t2 : (0 : Int) ≤ (intD (k : Int)).2.2 ∧ (intD (k : Int)).2.2 ≤ 17 := by
    refine ⟨form_lo _ _ _ _ (Int.le_refl _) (Int.le_refl _), ?_⟩
    unfold intD
    by_cases h0 : (k : Int).natAbs = 0
    · rw [h0, form_zero]; decide
    · rw [form_pos _ h0]
      have h1 := tz_le_blen (k : Int).natAbs
      have h2 : blen (k : Int).natAbs ≤ 17 := (blen_le _ 17).2 (by rw [Int.natAbs_natCast]; omega)
      show (0 : Int) + (tz (k : Int).natAbs : Int) ≤ 17
      omega
  have n1 : n ≤ 1024 := by rw [p.1]; exact (words_len2 _ _).2 (by omega)
  have n2 : m ≤ 1024 := by rw [q.1]; exact (words_len2 _ _).2 (by omega)
  have := qTimes_calls (dyU u).1 a n c (wordsOf (dyU u).2.1) (dyU u).2.2 (intD (k : Int)).1 b m d (wordsOf (intD (k : Int)).2.1) (intD (k : Int)).2.2 W p (by omega) q (by omega) (by omega) (by omega) (by rw [val_words]; omega) (by rw [val_words]; omega)
  rw [val_words, val_words, form_of_can (dyU_can u), form_of_can (show CanD (intD (k : Int)) from form_can _ _ _), mul_int] at this
  exact this
theorem vI_abs (p : Bool × Nat × Int) (E : Int) (h : E ≤ p.2.2) : vI (formD false p.2.1 p.2.2) E = ((vI p E).natAbs : Int) := by
  rw [vI_form _ _ _ _ h]
  unfold vI sI
  generalize p.2.1 * 2 ^ (p.2.2 - E).toNat = m
  cases p.1 <;> simp
theorem within_le (D M : Int) (k : Nat) (h : D.natAbs * 2 ^ k ≤ M.natAbs) : cmpD (formD false (dyU D).2.1 (dyU D).2.2) (formD false (formD (dyU M).1 (dyU M).2.1 ((dyU M).2.2 + -(k : Int))).2.1 (formD (dyU M).1 (dyU M).2.1 ((dyU M).2.2 + -(k : Int))).2.2) ≤ 0 := by
  obtain ⟨T, hT⟩ : ∃ T, T = formD (dyU M).1 (dyU M).2.1 ((dyU M).2.2 + -(k : Int)) := ⟨_, rfl⟩
  obtain ⟨J, hJ⟩ : ∃ J : Nat, J = 1074 + k := ⟨_, rfl⟩
  have lD := dyU_low D
  have lM := dyU_low M
  have lT : -(J : Int) ≤ T.2.2 := by rw [hT]; exact form_lo _ _ _ _ (by omega) (by omega)
  have vT : vI T (-(J : Int)) = M := by
    rw [hT, vI_form _ _ _ _ (by omega), show ((dyU M).2.2 + -(k : Int) - -(J : Int)).toNat = ((dyU M).2.2 - -1074).toNat by omega]
    exact dyU_vI M
  have vD : vI (dyU D) (-(J : Int)) = D * ((2 ^ k : Nat) : Int) := by
    rw [show -(J : Int) = -1074 - (k : Int) by omega, vI_down _ _ _ lD, dyU_vI]
  rw [← hT, vI_cmp _ _ J (form_lo _ _ _ _ (by omega) (by omega)) (form_lo _ _ _ _ (by omega) lT), vI_abs _ _ (by omega), vI_abs _ _ lT, vT, vD, Int.natAbs_mul, Int.natAbs_natCast]
  unfold Lib.compareInt
  generalize D.natAbs * 2 ^ k = x at *
  generalize M.natAbs = y at *
  split
  · decide
  · split
    · omega
    · decide
theorem isW_at {w : World} {a : Option Addr} {len cap : Nat} {xs : List Int} (h : IsW w a len cap xs) (p : Addr) (u : Value) (hp : ∀ b off i, a = some ⟨b, off, none⟩ → i < len → p.block ≠ b) : IsW (w.setCell p u) a len cap xs := by
  refine ⟨h.1, h.2.1, h.2.2.1, fun i hi => ?_⟩
  obtain ⟨b, off, e1, e2, e3⟩ := h.2.2.2 i hi
  refine ⟨b, off, e1, by rw [World.size_setCell]; exact e2, ?_⟩
  exact (World.cell?_setCell_other (w := w) (a := p) (b := ⟨b, off + i, none⟩) (v := u) (fun e => hp b off i e1 hi (by rw [e]))).trans e3

set_option maxRecDepth 100000 in
set_option maxHeartbeats 4000000 in
theorem within_calls (D M : Int) (k K : Nat) (i : Int) (hi : i = -(k : Int)) (hk : k ≤ 1000) (hD : D.natAbs < 2 ^ K) (hM : M.natAbs < 2 ^ K) (hK : K ≤ 60000) (a b : Option Addr) (n c m d : Nat) (w : World) (p : IsW w a n c (wordsOf (dyU D).2.1)) (q : IsW w b m d (wordsOf (dyU M).2.1)) (hle : D.natAbs * 2 ^ k ≤ M.natAbs) :
    Calls Try.prog 15 #[dyV (dyU D).1 a n c (dyU D).2.2, .int .i64 i, dyV (dyU M).1 b m d (dyU M).2.2] w fun r w' => r = .returned (.bool true) ∧ Below w.heap.size w w' := by
  obtain ⟨s1, s2, s3⟩ := dyU_sz D K hD
  obtain ⟨t1, t2, t3⟩ := dyU_sz M K hM
  have n1 : n ≤ 1024 := by rw [p.1]; exact (words_len2 _ _).2 (by omega)
  have n2 : m ≤ 1024 := by rw [q.1]; exact (words_len2 _ _).2 (by omega)
  have hC := within_le D M k hle
  rw [← hi] at hC
  have cP := form_of_can (dyU_can D)
  clear hle hD hM
  generalize dyU D = P at *
  generalize dyU M = Q at *
  obtain ⟨T, hT⟩ : ∃ T, T = formD Q.1 Q.2.1 (Q.2.2 + i) := ⟨_, rfl⟩
  rw [← hT] at hC
  have u1 : blen T.2.1 ≤ K := by rw [hT]; exact Nat.le_trans (blen_mono (form_amount_le _ _ _)) t1
  have u2 := form_expc Q.1 Q.2.1 (Q.2.2 + i) (by omega) (by omega)
  rw [← hT] at u2
  have u3 : -5000000 ≤ T.2.2 ∧ T.2.2 ≤ 5000000 := by
    rw [hT]
    by_cases h0 : Q.2.1 = 0
    · rw [h0, form_zero]; exact ⟨by decide, by decide⟩
    · rw [form_pos _ h0]
      have := tz_le_blen Q.2.1
      refine ⟨?_, ?_⟩
      · show _ ≤ Q.2.2 + i + (tz Q.2.1 : Int); omega
      · show Q.2.2 + i + (tz Q.2.1 : Int) ≤ _; omega
  have HO : Hid (∀ W, IsW W a n c (wordsOf P.2.1) → Calls Try.prog 29 #[dyV P.1 a n c P.2.2] W fun r w' => ∃ v', r = .returned v' ∧ DyQ W.heap.size w' v' P ∧ Below W.heap.size W w') := fun W g => by
    have := qOne_calls P.1 a n c (wordsOf P.2.1) P.2.2 W g (by omega) (by omega)
    rw [val_words, cP] at this
    exact this
  have HT : Hid (∀ W, IsW W b m d (wordsOf Q.2.1) → Calls Try.prog 37 #[dyV Q.1 b m d Q.2.2, .int .i64 i] W fun r w' => ∃ v', r = .returned v' ∧ DyQ W.heap.size w' v' T ∧ Below W.heap.size W w') := fun W g => by
    have := qTwice_calls Q.1 b m d (wordsOf Q.2.1) Q.2.2 i W g (by omega) (by omega)
    rw [val_words, ← hT] at this
    exact this
  have HC : Hid (∀ a1 n1 c1 a2 n2 c2 W, n1 = (wordsOf P.2.1).length → n2 = (wordsOf T.2.1).length → IsW W a1 n1 c1 (wordsOf P.2.1) → IsW W a2 n2 c2 (wordsOf T.2.1) → Calls Try.prog 38 #[dyV false a1 n1 c1 P.2.2, dyV false a2 n2 c2 T.2.2] W fun r w' => ∃ C : Int, r = .returned (.int .i64 C) ∧ C ≤ 0 ∧ Below W.heap.size W w') := fun a1 n1 c1 a2 n2 c2 W e1 e2 g1 g2 => by
    have l1 : n1 ≤ 1024 := by rw [e1]; exact (words_len2 _ _).2 (by omega)
    have l2 : n2 ≤ 1024 := by rw [e2]; exact (words_len2 _ _).2 (by omega)
    have := qOrder_calls false a1 n1 c1 (wordsOf P.2.1) P.2.2 false a2 n2 c2 (wordsOf T.2.1) T.2.2 W g1 (by omega) g2 (by omega) (by omega) (by omega) (by rw [val_words]; omega) (by rw [val_words]; omega)
    rw [val_words, val_words] at this
    exact this.mono fun r w' ⟨h1, h2⟩ => ⟨_, h1, hC, h2⟩
  clear hT hC cP u1 u2 u3 s1 s2 s3 t1 t2 t3 hi
  have bw : Below w.heap.size w ((w.alloc (.cells #[.bool P.1, .slice a n c, .int .i64 P.2.2] 30)).alloc (.cells #[.bool Q.1, .slice b m d, .int .i64 Q.2.2] 30)) := nbelow_trans (below_one _ _) (below_one _ _)
  have z0 : ((w.alloc (.cells #[.bool P.1, .slice a n c, .int .i64 P.2.2] 30)).alloc (.cells #[.bool Q.1, .slice b m d, .int .i64 Q.2.2] 30)).cell? ⟨w.heap.size + 1, 0, none⟩ = some (.bool Q.1) := by go_simp
  have z1 : ((w.alloc (.cells #[.bool P.1, .slice a n c, .int .i64 P.2.2] 30)).alloc (.cells #[.bool Q.1, .slice b m d, .int .i64 Q.2.2] 30)).cell? ⟨w.heap.size + 1, 1, none⟩ = some (.slice b m d) := by go_simp
  have z2 : ((w.alloc (.cells #[.bool P.1, .slice a n c, .int .i64 P.2.2] 30)).alloc (.cells #[.bool Q.1, .slice b m d, .int .i64 Q.2.2] 30)).cell? ⟨w.heap.size + 1, 2, none⟩ = some (.int .i64 Q.2.2) := by go_simp
  have p' := p.keep bw
  have q' := q.keep bw
  go_enter Try.func15, Try.ntmps15
  go_wp2_with fail
  generalize ((w.alloc (.cells #[.bool P.1, .slice a n c, .int .i64 P.2.2] 30)).alloc (.cells #[.bool Q.1, .slice b m d, .int .i64 Q.2.2] 30)) = w0 at *
  refine Calls.mono (HO.out _ p') ?_
  rintro r w1 ⟨_, rfl, ⟨a1, n3, c1, rfl, HN1, hO1⟩, b1⟩
  have J1 := hO1.1
  have b1A := below_one w1 (.cells #[.bool P.1, .slice a1 n3 c1, .int .i64 P.2.2] 30)
  have b0A := nbelow_trans b1 b1A
  replace z0 := dcarry_cell b0A z0
  replace z1 := dcarry_cell b0A z1
  replace z2 := dcarry_cell b0A z2
  replace q' := q'.keep b0A
  replace bw := nbelow_trans bw b0A
  have k0 : (w1.alloc (.cells #[.bool P.1, .slice a1 n3 c1, .int .i64 P.2.2] 30)).cell? ⟨w1.heap.size, 0, none⟩ = some (.bool P.1) := by go_simp
  have k1 : (w1.alloc (.cells #[.bool P.1, .slice a1 n3 c1, .int .i64 P.2.2] 30)).cell? ⟨w1.heap.size, 1, none⟩ = some (.slice a1 n3 c1) := by go_simp
  have k2 : (w1.alloc (.cells #[.bool P.1, .slice a1 n3 c1, .int .i64 P.2.2] 30)).cell? ⟨w1.heap.size, 2, none⟩ = some (.int .i64 P.2.2) := by go_simp
  have f0 : (w1.alloc (.cells #[.bool P.1, .slice a1 n3 c1, .int .i64 P.2.2] 30)).frozen? ⟨w1.heap.size, 0, none⟩ = false := by go_simp
  have HB1 : Hid (∀ b off i, a1 = some ⟨b, off, none⟩ → i < n3 → b < w1.heap.size) := fun b off i e hi => by
    obtain ⟨b2, off2, e1, e2, -⟩ := J1.2.2.2 i hi
    rw [e] at e1
    cases e1
    exact e2
  have HS1 : Hid ((w1.alloc (.cells #[.bool P.1, .slice a1 n3 c1, .int .i64 P.2.2] 30)).heap.size = w1.heap.size + 1) := by rw [Hid]; simp
  replace J1 := J1.keep b1A
  have HW1 : Hid (w.heap.size ≤ w1.heap.size) := by rw [Hid]; have := bw.size; have := World.block_lt_of_cell? _ _ z0; have h2 := b1.size; simp at *; omega
  clear hO1 b1 b1A b0A p'
  go_wp2_with fail
  generalize (w1.alloc (.cells #[.bool P.1, .slice a1 n3 c1, .int .i64 P.2.2] 30)) = w2 at *
  refine Calls.mono (HT.out _ q') ?_
  rintro r w3 ⟨_, rfl, ⟨a3, n4, c3, rfl, HN3, hO3⟩, b3⟩
  have J3 := hO3.1
  have b3A := below_one w3 (.cells #[.bool T.1, .slice a3 n4 c3, .int .i64 T.2.2] 30)
  have b2A := nbelow_trans b3 b3A
  have HB3 : Hid (∀ b off i, a3 = some ⟨b, off, none⟩ → i < n4 → w1.heap.size + 1 ≤ b ∧ b < w3.heap.size) := fun b off i e hi => by
    obtain ⟨b2, off2, e1, e2, -⟩ := J3.2.2.2 i hi
    have h1 := (hO3.2 b off i e hi).1
    rw [HS1.out] at h1
    rw [e] at e1
    cases e1
    exact ⟨h1, e2⟩
  have HW3 : Hid (w1.heap.size < w3.heap.size) := by rw [Hid]; have := b3.size; have := HS1.out; omega
  replace f0 := dcarry_frozen b2A k0 f0
  replace k0 := dcarry_cell b2A k0
  replace k1 := dcarry_cell b2A k1
  replace k2 := dcarry_cell b2A k2
  replace J1 := J1.keep b2A
  replace J3 := J3.keep b3A
  replace bw := nbelow_trans bw b2A
  have l0 : (w3.alloc (.cells #[.bool T.1, .slice a3 n4 c3, .int .i64 T.2.2] 30)).cell? ⟨w3.heap.size, 0, none⟩ = some (.bool T.1) := by go_simp
  have l1 : (w3.alloc (.cells #[.bool T.1, .slice a3 n4 c3, .int .i64 T.2.2] 30)).cell? ⟨w3.heap.size, 1, none⟩ = some (.slice a3 n4 c3) := by go_simp
  have l2 : (w3.alloc (.cells #[.bool T.1, .slice a3 n4 c3, .int .i64 T.2.2] 30)).cell? ⟨w3.heap.size, 2, none⟩ = some (.int .i64 T.2.2) := by go_simp
  have g0 : (w3.alloc (.cells #[.bool T.1, .slice a3 n4 c3, .int .i64 T.2.2] 30)).frozen? ⟨w3.heap.size, 0, none⟩ = false := by go_simp
  have hne : ¬ w1.heap.size = w3.heap.size := by have := HW3.out; omega
  have hne' : ¬ w3.heap.size = w1.heap.size := by have := HW3.out; omega
  clear hO3 b3 b3A b2A z0 z1 z2 q'
  have J1' := isW_at (isW_at J1 ⟨w1.heap.size, 0, none⟩ (.bool false) (fun b off i e hi => by have := HB1.out b off i e hi; show w1.heap.size ≠ b; omega)) ⟨w3.heap.size, 0, none⟩ (.bool false) (fun b off i e hi => by have := HB1.out b off i e hi; have := HW3.out; show w3.heap.size ≠ b; omega)
  have J3' := isW_at (isW_at J3 ⟨w1.heap.size, 0, none⟩ (.bool false) (fun b off i e hi => by have := HB3.out b off i e hi; show w1.heap.size ≠ b; omega)) ⟨w3.heap.size, 0, none⟩ (.bool false) (fun b off i e hi => by have := HB3.out b off i e hi; show w3.heap.size ≠ b; omega)
  have bw' : Below w.heap.size w (((w3.alloc (.cells #[.bool T.1, .slice a3 n4 c3, .int .i64 T.2.2] 30)).setCell ⟨w1.heap.size, 0, none⟩ (.bool false)).setCell ⟨w3.heap.size, 0, none⟩ (.bool false)) := (bw.setCell (by have := HW1.out; exact this) _).setCell (by have := HW1.out; have := HW3.out; show w.heap.size ≤ w3.heap.size; omega) _
  clear J1 J3 bw
  go_wp2_with fail
  refine Calls.mono (HC.out _ _ _ _ _ _ _ HN1.out HN3.out J1' J3') ?_
  rintro r w5 ⟨C, rfl, hC, b5⟩
  have hCd : decide (C ≤ 0) = true := by simpa using hC
  go_wp2_with fail
  go_ret
  exact ⟨by simp, nbelow_trans bw' b5⟩

namespace Fp
open EP
theorem bits_exp (x : Nat) (hx : x < 18446744073709551616) (fx : EP.finB x = true) : ∃ e : Int, bits .and .u64 ((x : Int) / 4503599627370496) 2047 = e ∧ 0 ≤ e ∧ e < 2047 := by
  have hU : U (x : Int) := by unfold U; omega
  refine ⟨_, and_exp (x : Int) hU, (expV_bd _).1, ?_⟩
  have hf : Go.Proofs.Ytlbaphijmonjoaa.finB (x : Int) = true := (fin_eq x).trans fx
  have h2 := (expV_bd (x : Int)).2
  unfold Go.Proofs.Ytlbaphijmonjoaa.finB at hf
  unfold expV at *
  simp at hf
  omega
set_option maxRecDepth 100000 in
set_option maxHeartbeats 2000000 in
theorem finite_calls (h l n : Nat) (w : World) (hh : h < 18446744073709551616) (hl : l < 18446744073709551616) (bh : bd h n) (bl : bd l n) (hn : n ≤ 2090) (hr : G (V h + V l) = V h) :
    Calls Try.prog 11 #[.agg #[.float .f64 h, .float .f64 l]] w fun e w' => e = .returned (.bool true) ∧ Below w.heap.size w w' := by
  obtain ⟨r, e1, -, br, vr⟩ := fo_G_add bh bl hn
  have HR : Hid ((FloatKind.f64.format.order r h == some .eq) = true) := eq_of_V br.1 bh.1 (by rw [vr, hr])
  have HFV : Hid (∀ W, fv .add h l W = r ∧ fw .add h l W = W) := fun W => ⟨fv_eq e1 W, fw_eq e1 W⟩
  obtain ⟨eh, xh, xh0, xh1⟩ := bits_exp h hh bh.1
  obtain ⟨el, xl, xl0, xl1⟩ := bits_exp l hl bl.1
  have q1 := run_add Try.prog
  have q0 := abits_run
  clear e1 br vr bh bl hr hh hl
  have bw : Below w.heap.size w ((w.alloc (.cells #[.float .f64 h, .float .f64 l] 24)).alloc (.cells #[.float .f64 h, .float .f64 l] 22)) := nbelow_trans (below_one _ _) (below_one _ _)
  have c0 : ((w.alloc (.cells #[.float .f64 h, .float .f64 l] 24)).alloc (.cells #[.float .f64 h, .float .f64 l] 22)).cell? ⟨w.heap.size, 0, none⟩ = some (.float .f64 h) := by go_simp
  have c1 : ((w.alloc (.cells #[.float .f64 h, .float .f64 l] 24)).alloc (.cells #[.float .f64 h, .float .f64 l] 22)).cell? ⟨w.heap.size, 1, none⟩ = some (.float .f64 l) := by go_simp
  have d0 : ((w.alloc (.cells #[.float .f64 h, .float .f64 l] 24)).alloc (.cells #[.float .f64 h, .float .f64 l] 22)).cell? ⟨w.heap.size + 1, 0, none⟩ = some (.float .f64 h) := by go_simp
  have d1 : ((w.alloc (.cells #[.float .f64 h, .float .f64 l] 24)).alloc (.cells #[.float .f64 h, .float .f64 l] 22)).cell? ⟨w.heap.size + 1, 1, none⟩ = some (.float .f64 l) := by go_simp
  go_enter Try.func11, Try.ntmps11
  go_wp2_with fail
  generalize ((w.alloc (.cells #[.float .f64 h, .float .f64 l] 24)).alloc (.cells #[.float .f64 h, .float .f64 l] 22)) = w0 at *
  go_loopw [11] (fun i wr => ∃ k : Nat, k ≤ 2 ∧ i = .int .i64 k ∧ wr = w0) (fun i _ => 2 - (intOf i).toNat)
  case atStart => exact ⟨0, by omega, rfl, rfl⟩
  case round =>
    obtain ⟨k, hk, rfl, rfl⟩ := hrel
    by_cases h0 : k = 0
    · subst h0
      go_wp2_with fail
      go_round
      case rel => exact ⟨1, by omega, by go_num, by first | rfl | trivial⟩
      case measure => simp [intOf]
    · by_cases h1 : k = 1
      · subst h1
        go_wp2_with fail
        go_round
        case rel => exact ⟨2, by omega, by go_num, by first | rfl | trivial⟩
        case measure => simp [intOf]
      · have h2 : k = 2 := by omega
        subst h2
        have z1 : fw .add h l wr = wr := (HFV.out wr).2
        have z2 : fv .add h l wr = r := (HFV.out wr).1
        go_wp2_with fail
        go_ret
        exact ⟨by rw [HR.out]; rfl, bw⟩
end Fp
end Go.Proofs.Ytlbaphijmonjoaa

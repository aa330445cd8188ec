/- The statement EftOrder. -/
import Derived.Test.YtfplfljjphhfgaaEOr0
namespace Go.Proofs.Ytfplfljjphhfgaa
open Go.RowKit

theorem fr_sz2 (x : Int) : CanD (fromP x) ∧ blen (fromP x).2.1 ≤ 53 ∧ -2000 ≤ (fromP x).2.2 ∧ (fromP x).2.2 ≤ 2000 := by
  unfold fromP
  split
  · refine ⟨form_can _ _ _, ?_⟩
    unfold fromD
    have h1 := frac_bd x
    have h2 := exp_bd x
    have hc : blen (countV x).toNat ≤ 53 := (blen_le _ 53).2 (by unfold countV; split <;> omega)
    have hu : -1074 ≤ unitV x ∧ unitV x ≤ 972 := by unfold unitV; split <;> omega
    refine ⟨Nat.le_trans (blen_mono (form_amount_le _ _ _)) hc, ?_⟩
    by_cases h0 : (countV x).toNat = 0
    · rw [h0, form_zero]; exact ⟨by decide, by decide⟩
    · rw [form_pos _ h0]
      have := tz_le_blen (countV x).toNat
      constructor
      · show _ ≤ unitV x + (tz (countV x).toNat : Int); omega
      · show unitV x + (tz (countV x).toNat : Int) ≤ _; omega
  · exact ⟨Or.inl rfl, by decide, by decide, by decide⟩
theorem blen_prod {m n : Nat} (hm : blen m ≤ 53) (hn : blen n ≤ 53) : blen (m * n) ≤ 106 := by
  have h1 := (blen_le _ 53).1 hm
  have h2 := (blen_le _ 53).1 hn
  exact (blen_le _ 106).2 (Nat.lt_of_lt_of_eq (Nat.mul_lt_mul'' h1 h2) (by decide))

theorem prod_calls (x y : Int) (a b : Option Addr) (n c m d : Nat) (w : World) (hn : n ≤ 1024) (hm : m ≤ 1024) (h : IsW w a n c (wordsOf (fromP x).2.1)) (h' : IsW w b m d (wordsOf (fromP y).2.1)) :
    Calls Try.prog 8 #[dyV (fromP x).1 a n c (fromP x).2.2, dyV (fromP y).1 b m d (fromP y).2.2] w fun r w' => ∃ (s : Bool) (ao : Option Addr) (l k : Nat) (P : Nat) (e : Int), r = .returned (dyV s ao l k e) ∧ Hid (blen P ≤ 106 ∧ -100000000 ≤ e ∧ e ≤ 100000000) ∧ Hid (l ≤ 2) ∧ Hid (OwnW w.heap.size w' ao l k (wordsOf P)) ∧ Below w.heap.size w w' := by
  obtain ⟨g1, g2, g3, g4⟩ := fr_sz2 x
  obtain ⟨k1, k2, k3, k4⟩ := fr_sz2 y
  have H := qTimes_calls (fromP x).1 a n c (wordsOf (fromP x).2.1) (fromP x).2.2 (fromP y).1 b m d (wordsOf (fromP y).2.1) (fromP y).2.2 w h (by omega) h' (by omega) (by omega) (by omega) (by rw [val_words]; omega) (by rw [val_words]; omega)
  rw [val_words, val_words, form_of_can g1, form_of_can k1] at H
  refine H.mono ?_
  rintro r w' ⟨_, rfl, ⟨ao, l, k, rfl, HN, hO⟩, hb⟩
  have hp := blen_prod g2 k2
  have e1 : blen (mulD (fromP x) (fromP y)).2.1 ≤ 106 := Nat.le_trans (blen_mono (form_amount_le _ _ _)) hp
  have e2 := form_expb (!((fromP x).1 == (fromP y).1)) ((fromP x).2.1 * (fromP y).2.1) ((fromP x).2.2 + (fromP y).2.2) (by omega) (by omega)
  exact ⟨_, ao, l, k, _, _, rfl, ⟨e1, by have := e2.1; show _ ≤ (formD _ _ _).2.2; omega, by have := e2.2; show (formD _ _ _).2.2 ≤ _; omega⟩, by rw [HN.out]; exact (words_len2 _ _).2 (by omega), hO, hb⟩

set_option maxRecDepth 100000 in
set_option maxHeartbeats 4000000 in
theorem eftOrder_walk (a b : Nat) (w : World) (ha : a < 18446744073709551616) (hb : b < 18446744073709551616) :
    Calls Try.prog 3 #[.float .f64 a, .float .f64 b] w fun e w' => e = .returned (.bool true) ∧ Below w.heap.size w w' := by
  have Na : Hid _ := fun w => number_calls a w ha
  have Nb : Hid _ := fun w => number_calls b w hb
  have La : Hid ((wordsOf (fromP (a : Int)).2.1).length ≤ 1024) := (words_len2 _ _).2 (by have := (fr_sz2 (a : Int)).2.1; omega)
  have Lb : Hid ((wordsOf (fromP (b : Int)).2.1).length ≤ 1024) := (words_len2 _ _).2 (by have := (fr_sz2 (b : Int)).2.1; omega)
  clear ha hb
  go_enter Try.func3, Try.ntmps3
  go_wp2_with fail
  refine Calls.mono (Fp.eLives_calls _) ?_
  rintro e w5 ⟨rfl, b5⟩
  go_wp2_with fail
  refine Calls.mono (Fp.moderate2_calls a w5) ?_
  rintro e w6 ⟨t1, rfl, d6, M1⟩
  have b6 : Below w.heap.size w w6 := b5.trans (d6.below _)
  have M1' : Hid (t1 = true → EP.bd a 1475 ∧ ∃ A i, Fp.Nm a A i) := M1
  clear M1 d6 b5
  cases t1 with
  | false =>
    go_wp2_with fail
    go_ret
    exact ⟨rfl, b6⟩
  | true =>
  go_wp2_with fail
  refine Calls.mono (Fp.moderate2_calls b w6) ?_
  rintro e w7 ⟨t2, rfl, d7, M2⟩
  have b7 : Below w.heap.size w w7 := b6.trans (d7.below _)
  have M2' : Hid (t2 = true → EP.bd b 1475 ∧ ∃ A i, Fp.Nm b A i) := M2
  clear M2 d7 b6
  cases t2 with
  | false =>
    go_wp2_with fail
    go_ret
    exact ⟨rfl, b7⟩
  | true =>
  obtain ⟨A1, A2, i, A3⟩ := M1'.out (by first | rfl | trivial)
  obtain ⟨B1, B2, j, B3⟩ := M2'.out (by first | rfl | trivial)
  obtain ⟨s, t, u, v, p, e, q, f, x, y, e1, e2, e3, e4, e5, o1, o2, o3, o4, o5, o6⟩ := Fp.order_all a b i j A2 B2 A1 B1 A3 B3
  have E1 : Hid (Fp.twoSumO a b = some (s, t)) := e1
  have E2 : Hid (Fp.twoSumO b a = some (u, v)) := e2
  have E3 : Hid (Fp.twoProdO a b = some (p, e)) := e3
  have E4 : Hid (Fp.twoProdO b a = some (q, f)) := e4
  have E5 : Hid (Fp.twoSumO s t = some (x, y)) := e5
  have o1' : (FloatKind.f64.format.order s u == some .eq) = true := o1
  have o2' : (FloatKind.f64.format.order t v == some .eq) = true := o2
  have o3' : (FloatKind.f64.format.order p q == some .eq) = true := o3
  have o4' : (FloatKind.f64.format.order e f == some .eq) = true := o4
  have o5' : (FloatKind.f64.format.order x s == some .eq) = true := o5
  have o6' : (FloatKind.f64.format.order y t == some .eq) = true := o6
  clear e1 e2 e3 e4 e5 o1 o2 o3 o4 o5 o6 A1 A3 B1 B3 M1' M2'
  go_wp2_with fail
  refine Calls.mono (Fp.twoSum_calls a b w7) ?_
  rintro _ w8 ⟨_, _, rfl, d8, H8⟩
  obtain ⟨rfl, rfl⟩ := H8 _ E1.out
  have b8 : Below w.heap.size w w8 := b7.trans (d8.below _)
  clear H8 d8 b7 E1
  go_wp2_with fail
  refine Calls.mono (Fp.twoSum_calls b a w8) ?_
  rintro _ w9 ⟨_, _, rfl, d8, H8⟩
  obtain ⟨rfl, rfl⟩ := H8 _ E2.out
  have b9 : Below w.heap.size w w9 := b8.trans (d8.below _)
  clear H8 d8 b8 E2
  go_wp2_with fail
  refine Calls.mono (Fp.twoProd_calls a b w9) ?_
  rintro _ w10 ⟨_, _, rfl, d8, H8⟩
  obtain ⟨rfl, rfl⟩ := H8 _ E3.out
  have b10 : Below w.heap.size w w10 := b9.trans (d8.below _)
  clear H8 d8 b9 E3
  go_wp2_with fail
  refine Calls.mono (Fp.twoProd_calls b a w10) ?_
  rintro _ w11 ⟨_, _, rfl, d8, H8⟩
  obtain ⟨rfl, rfl⟩ := H8 _ E4.out
  have b11 : Below w.heap.size w w11 := b10.trans (d8.below _)
  clear H8 d8 b10 E4
  go_wp2_with fail
  refine Calls.mono (Fp.twoSum_calls _ _ w11) ?_
  rintro _ w12 ⟨_, _, rfl, d8, H8⟩
  obtain ⟨rfl, rfl⟩ := H8 _ E5.out
  have b12 : Below w.heap.size w w12 := b11.trans (d8.below _)
  clear H8 d8 b11 E5
  go_wp2_with fail
  refine Calls.mono (Na.out _) ?_
  rintro _ w13 ⟨_, rfl, ⟨aa, na, ca, rfl, HNa, hOa⟩, bN⟩
  have b13 := nbelow_trans b12 bN
  have Ia : Hid (IsW w13 aa na ca (wordsOf (fromP (a : Int)).2.1)) := hOa.1
  have hna : Hid (na ≤ 1024) := by rw [HNa.out]; exact La.out
  clear bN b12 HNa hOa
  go_wp2_with fail
  refine Calls.mono (Nb.out _) ?_
  rintro _ w14 ⟨_, rfl, ⟨ab, nb, cb, rfl, HNb, hOb⟩, bN⟩
  have b14 := nbelow_trans b13 bN
  replace Ia : Hid (IsW w14 aa na ca (wordsOf (fromP (a : Int)).2.1)) := IsW.keep Ia.out bN
  have Ib : Hid (IsW w14 ab nb cb (wordsOf (fromP (b : Int)).2.1)) := hOb.1
  have hnb : Hid (nb ≤ 1024) := by rw [HNb.out]; exact Lb.out
  clear bN b13 HNb hOb
  go_wp2_with fail
  refine Calls.mono (prod_calls _ _ _ _ _ _ _ _ _ hna.out hnb.out Ia.out Ib.out) ?_
  rintro _ w15 ⟨sp, ap, lp, cp, P, ep, rfl, HP, HL, HO, bN⟩
  have b15 := nbelow_trans b14 bN
  clear bN b14 Ia Ib hna hnb
  have bA := below_one w15 (.cells #[.bool sp, .slice ap lp cp, .int .i64 ep] 30)
  have b16 := nbelow_trans b15 bA
  have p0 : (w15.alloc (.cells #[.bool sp, .slice ap lp cp, .int .i64 ep] 30)).cell? ⟨w15.heap.size, 0, none⟩ = some (.bool sp) := by go_simp
  have p1 : (w15.alloc (.cells #[.bool sp, .slice ap lp cp, .int .i64 ep] 30)).cell? ⟨w15.heap.size, 1, none⟩ = some (.slice ap lp cp) := by go_simp
  have p2 : (w15.alloc (.cells #[.bool sp, .slice ap lp cp, .int .i64 ep] 30)).cell? ⟨w15.heap.size, 2, none⟩ = some (.int .i64 ep) := by go_simp
  have IP : Hid (IsW (w15.alloc (.cells #[.bool sp, .slice ap lp cp, .int .i64 ep] 30)) ap lp cp (wordsOf P)) := HO.out.1.keep bA
  clear bA b15 HO
  go_wp2_with fail
  generalize (w15.alloc (.cells #[.bool sp, .slice ap lp cp, .int .i64 ep] 30)) = w16 at *
  generalize w15.heap.size = z at *
  refine Calls.mono (qTop_calls sp ap lp cp (wordsOf P) ep _ IP.out (by have := HL.out; omega) (by have := HP.out; omega) (by rw [val_words]; have := HP.out; omega)) ?_
  rintro _ w17 ⟨rfl, bN⟩
  have b17 := nbelow_trans b16 bN
  replace p0 := dcarry_cell bN p0
  replace p1 := dcarry_cell bN p1
  replace p2 := dcarry_cell bN p2
  replace IP : Hid (IsW w17 ap lp cp (wordsOf P)) := IsW.keep IP.out bN
  clear bN b16
  generalize ep + (blen (val (wordsOf P)) : Int) - 1 = tp
  by_cases ht : tp < -900
  · go_wp2_with fail
    refine Calls.mono (nLen_calls ap lp cp (wordsOf P) _ IP.out (by have := HL.out; omega)) ?_
    rintro _ w18 ⟨rfl, bN⟩
    have b18 := nbelow_trans b17 bN
    replace p0 := dcarry_cell bN p0
    replace p1 := dcarry_cell bN p1
    replace p2 := dcarry_cell bN p2
    clear bN b17
    generalize (blen (val (wordsOf P)) : Int) = tl
    by_cases hl : 0 < tl
    · go_wp2_with fail
      go_ret
      exact ⟨rfl, b18⟩
    · go_wp2_with fail
      go_ret
      exact ⟨rfl, b18⟩
  · go_wp2_with fail
    go_ret
    exact ⟨rfl, b17⟩
end Go.Proofs.Ytfplfljjphhfgaa

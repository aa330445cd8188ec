/- The parts of a number, added, are it; the rest lies from 0 to below 1. The statement DyadParts. -/
import Derived.Test.YtblcddcecmbkbaaDoorRDD
import Derived.Test.YtblcddcecmbkbaaDoorDCmp2
import Derived.Test.YtblcddcecmbkbaaDoorDBeg
import Derived.Test.YtblcddcecmbkbaaDoorRDG
import Derived.Test.YtblcddcecmbkbaaDoorRDA
import Derived.Deep.RegionHeld3
namespace Go.Proofs.YtblcddcecmbkbaaDoor

section
open Go.RowKit

theorem sum_zero_r {x y : Bool × Nat × Int} (h : x.2.1 ≠ 0) (hy : y.2.1 = 0) : sumD x y = x := by unfold sumD; rw [if_neg h, if_pos hy]
theorem sum_zero_l {x y : Bool × Nat × Int} (h : x.2.1 = 0) : sumD x y = y := by unfold sumD; rw [if_pos h]
/-- The sum of a number of exponent pe < 0 and a whole one. -/
theorem sum_whole (s t : Bool) (m q j : Nat) (hm : m ≠ 0) (hq : q ≠ 0) (hj : 0 < j) :
    sumD (s, m, -(j : Int)) (formD t q 0) = if s = t then formD s (m + q * 2 ^ j) (-(j : Int)) else if q * 2 ^ j ≤ m then formD s (m - q * 2 ^ j) (-(j : Int)) else formD t (q * 2 ^ j - m) (-(j : Int)) := by
  have h1 := (odd_part hq).1
  have h2 := (odd_part hq).2
  have hq' : q / 2 ^ tz q ≠ 0 := fun r => by rw [r] at h1; exact absurd h1 (by decide)
  rw [form_pos t hq]
  have := plus_q (s, m, -(j : Int)) (t, q / 2 ^ tz q, (0 : Int) + (tz q : Int)) hm hq' (-(j : Int)) (by show min (-(j : Int)) ((0 : Int) + (tz q : Int)) = _; omega) 0 (by show -(j : Int) - -(j : Int) = _; omega) (tz q + j) (by show (0 : Int) + (tz q : Int) - -(j : Int) = _; omega)
  rw [this]
  show (if s = t then formD s (m * 2 ^ 0 + q / 2 ^ tz q * 2 ^ (tz q + j)) (-(j : Int)) else if q / 2 ^ tz q * 2 ^ (tz q + j) ≤ m * 2 ^ 0 then formD s (m * 2 ^ 0 - q / 2 ^ tz q * 2 ^ (tz q + j)) (-(j : Int)) else formD t (q / 2 ^ tz q * 2 ^ (tz q + j) - m * 2 ^ 0) (-(j : Int))) = _
  rw [Nat.pow_add, ← Nat.mul_assoc, h2, Nat.pow_zero, Nat.mul_one]
theorem whole_sum (s t : Bool) (m q j : Nat) (hm : m ≠ 0) (hq : q ≠ 0) (hj : 0 < j) :
    sumD (formD t q 0) (s, m, -(j : Int)) = if t = s then formD t (q * 2 ^ j + m) (-(j : Int)) else if m ≤ q * 2 ^ j then formD t (q * 2 ^ j - m) (-(j : Int)) else formD s (m - q * 2 ^ j) (-(j : Int)) := by
  have h1 := (odd_part hq).1
  have h2 := (odd_part hq).2
  have hq' : q / 2 ^ tz q ≠ 0 := fun r => by rw [r] at h1; exact absurd h1 (by decide)
  rw [form_pos t hq]
  have := plus_q (t, q / 2 ^ tz q, (0 : Int) + (tz q : Int)) (s, m, -(j : Int)) hq' hm (-(j : Int)) (by show min ((0 : Int) + (tz q : Int)) (-(j : Int)) = _; omega) (tz q + j) (by show (0 : Int) + (tz q : Int) - -(j : Int) = _; omega) 0 (by show -(j : Int) - -(j : Int) = _; omega)
  rw [this]
  show (if t = s then formD t (q / 2 ^ tz q * 2 ^ (tz q + j) + m * 2 ^ 0) (-(j : Int)) else if m * 2 ^ 0 ≤ q / 2 ^ tz q * 2 ^ (tz q + j) then formD t (q / 2 ^ tz q * 2 ^ (tz q + j) - m * 2 ^ 0) (-(j : Int)) else formD s (m * 2 ^ 0 - q / 2 ^ tz q * 2 ^ (tz q + j)) (-(j : Int))) = _
  rw [Nat.pow_add, ← Nat.mul_assoc, h2, Nat.pow_zero, Nat.mul_one]
theorem neg_whole (t : Bool) (q : Nat) (hq : q ≠ 0) : negD (formD t q 0) = formD (!t) q 0 := by
  have h1 := (odd_part hq).1
  have hq' : ¬ q / 2 ^ tz q = 0 := fun r => by rw [r] at h1; exact absurd h1 (by decide)
  rw [form_pos _ hq, form_pos _ hq]
  unfold negD
  simp [hq']
theorem self_less (p : Bool × Nat × Int) (h : p.2.1 ≠ 0) : sumD p (negD p) = (false, 0, 0) := by
  have hn1 : (negD p).1 = !p.1 := by unfold negD; rw [decide_eq_false h]; simp
  have := plus_q p (negD p) h h p.2.2 (by show min p.2.2 p.2.2 = _; omega) 0 (by omega) 0 (by show p.2.2 - p.2.2 = _; omega)
  rw [this, hn1, if_neg (by cases p.1 <;> decide)]
  rw [if_pos (show (negD p).2.1 * 2 ^ 0 ≤ p.2.1 * 2 ^ 0 from Nat.le_refl _), show p.2.1 * 2 ^ 0 - (negD p).2.1 * 2 ^ 0 = 0 from Nat.sub_self _, form_zero]
/-- What is left of a number that is not whole. -/
theorem rest_frac (s : Bool) (m j : Nat) (ho : m % 2 = 1) (hj : 0 < j) : ∃ rm : Nat, restD (s, m, -(j : Int)) = (false, rm, -(j : Int)) ∧ rm % 2 = 1 ∧ rm < 2 ^ j ∧ sumD (wholeD (s, m, -(j : Int))) (false, rm, -(j : Int)) = (s, m, -(j : Int)) := by
  have hm : m ≠ 0 := by omega
  have hd := Nat.div_add_mod m (2 ^ j)
  have hlt := Nat.mod_lt m (Nat.pow_pos (n := j) (show 0 < 2 by decide))
  obtain ⟨k, rfl⟩ : ∃ k, j = k + 1 := ⟨j - 1, by omega⟩
  have h2k : 2 ^ (k + 1) = 2 * 2 ^ k := by rw [Nat.pow_succ, Nat.mul_comm]
  have hr1 : m % 2 ^ (k + 1) % 2 = 1 := by rw [h2k, Nat.mod_mul_right_mod]; exact ho
  have hwl : wholeD (s, m, -((k + 1 : Nat) : Int)) = formD s (m / 2 ^ (k + 1) + (if s = true then 1 else 0)) 0 := by
    unfold wholeD
    show (if (0 : Int) ≤ -((k + 1 : Nat) : Int) then _ else formD s (m / 2 ^ (- -((k + 1 : Nat) : Int)).toNat + _) 0) = _
    rw [if_neg (by omega), show (- -((k + 1 : Nat) : Int)).toNat = k + 1 by omega]
  unfold restD
  rw [hwl]
  generalize m / 2 ^ (k + 1) = q at *
  generalize m % 2 ^ (k + 1) = r at *
  generalize hP : 2 ^ (k + 1) = P at *
  have hme : m = q * P + r := by rw [Nat.mul_comm]; omega
  cases s with
  | false =>
    simp only [Bool.false_eq_true, if_false, Nat.add_zero]
    by_cases hq : q = 0
    · subst hq
      have e1 : r = m := by omega
      refine ⟨m, ?_, ho, by omega, ?_⟩
      · rw [form_zero]; exact sum_zero_r hm rfl
      · rw [form_zero]; exact sum_zero_l rfl
    · refine ⟨r, ?_, hr1, hlt, ?_⟩
      · rw [neg_whole _ _ hq, sum_whole _ _ _ _ _ hm hq hj, hP, if_neg (by decide), if_pos (by omega), show m - q * P = r by omega, form_odd _ hr1]
      · rw [whole_sum _ _ _ _ _ (by omega) hq hj, hP, if_pos rfl, ← hme, form_odd _ ho]
  | true =>
    simp only [if_true]
    have hq : q + 1 ≠ 0 := by omega
    have e2 : (q + 1) * P = q * P + P := by rw [Nat.add_mul, Nat.one_mul]
    have hpr : (P - r) % 2 = 1 := by omega
    refine ⟨P - r, ?_, hpr, by omega, ?_⟩
    · rw [neg_whole _ _ hq, sum_whole _ _ _ _ _ hm hq hj, hP, if_neg (by decide), if_neg (by omega), show (q + 1) * P - m = P - r by omega]
      exact form_odd _ hpr _
    · rw [whole_sum _ _ _ _ _ (by omega) hq hj, hP, if_neg (by decide), if_pos (by omega), show (q + 1) * P - (P - r) = m by omega, form_odd _ ho]
theorem parts_ok (p : Bool × Nat × Int) (hc : CanD p) : ∃ (rm : Nat) (re : Int), restD p = (false, rm, re) ∧ sumD (wholeD p) (false, rm, re) = p ∧ 0 ≤ (wholeD p).2.2 ∧ cmpD (false, rm, re) (intD 1) = -1 := by
  have hone : intD 1 = (false, 1, 0) := by
    unfold intD
    show formD false 1 0 = _
    exact form_odd false (m := 1) (by decide) 0
  have hzc : cmpD (false, 0, 0) (intD 1) = -1 := by rw [hone]; rfl
  by_cases he : 0 ≤ p.2.2
  · have hw : wholeD p = p := by unfold wholeD; rw [if_pos he]
    unfold restD
    rw [hw]
    by_cases h0 : p.2.1 = 0
    · have hz : p = (false, 0, 0) := by
        rcases hc with q | q
        · exact q
        · rw [h0] at q; exact absurd q (by decide)
      refine ⟨0, 0, ?_, ?_, he, hzc⟩
      · rw [hz]; rfl
      · rw [hz]; rfl
    · refine ⟨0, 0, self_less p h0, sum_zero_r h0 rfl, he, hzc⟩
  · have ho : p.2.1 % 2 = 1 := by
      rcases hc with q | q
      · rw [q] at he; exact absurd (by decide) he
      · exact q
    obtain ⟨s, m, pe⟩ := p
    obtain ⟨j, hj⟩ : ∃ j : Nat, pe = -(j : Int) := ⟨(-pe).toNat, by have : ¬ (0 : Int) ≤ pe := he; omega⟩
    subst hj
    have hj0 : 0 < j := by have : ¬ (0 : Int) ≤ -(j : Int) := he; omega
    obtain ⟨rm, h1, h2, h3, h4⟩ := rest_frac s m j ho hj0
    refine ⟨rm, -(j : Int), h1, h4, ?_, ?_⟩
    · have hw : wholeD (s, m, -(j : Int)) = formD s (m / 2 ^ (- -(j : Int)).toNat + (if s = true then 1 else 0)) 0 := by unfold wholeD; exact if_neg he
      rw [hw]
      generalize m / 2 ^ (- -(j : Int)).toNat + (if s = true then 1 else 0) = q
      by_cases h0 : q = 0
      · rw [h0, form_zero]; decide
      · rw [form_pos s h0]
        show (0 : Int) ≤ 0 + (tz q : Int)
        omega
    · rw [hone]
      have hb : blen rm ≤ j := (blen_le _ _).2 h3
      have hb1 : blen 1 = 1 := rfl
      have hr0 : rm ≠ 0 := by omega
      unfold cmpD
      have s1 : sgnD (false, rm, -(j : Int)) = 1 := by unfold sgnD; rw [if_neg hr0]; rfl
      have s2 : sgnD (false, 1, (0 : Int)) = 1 := rfl
      rw [s1, s2, if_neg (by decide), if_neg (show ¬ (false, rm, -(j : Int)).2.1 = 0 from hr0)]
      show 1 * amtD rm (-(j : Int)) 1 0 = -1
      unfold amtD Lib.compareInt
      rw [hb1, if_pos (by omega), if_pos (by omega)]
      rfl

end

section
open Go.RowKit

theorem sum_can {x y : Bool × Nat × Int} (hx : CanD x) (hy : CanD y) : CanD (sumD x y) := by
  have ha : ∀ s A t b e, CanD (addHi s A t b e) := fun s A t b e => by
    unfold addHi
    split
    · exact form_can _ _ _
    · split <;> exact form_can _ _ _
  unfold sumD
  split
  · exact hy
  · split
    · exact hx
    · split <;> exact ha _ _ _ _ _
theorem rest_can {x : Bool × Nat × Int} (hx : CanD x) : CanD (restD x) := sum_can hx (negD_can (whole_can hx))
theorem fl_bad {s : Bool} {m : Nat} {e : Int} (h : flE s m e ≠ 0) : (flW s m e).2.1 = 0 ∧ (flR s m e).2.1 = 0 ∧ (flE s m e = canE s m e ∨ (flE s m e = 3 ∧ canE s m e = 0)) := by
  cases hr : rightB m e with
  | false =>
    obtain ⟨e1, e2, e3⟩ := fl_right (s := s) hr
    rw [e1, e2, e3, (canE_not hr).1]
    exact ⟨rfl, rfl, Or.inl rfl⟩
  | true =>
    cases hp : flP (formD s m e) with
    | true => rw [(fl_yes hr hp).1] at h; exact absurd rfl h
    | false =>
      obtain ⟨e1, e2, e3⟩ := fl_no hr hp
      rw [e1, e2, e3, (canE_yes hr).1, room_right]
      refine ⟨rfl, rfl, ?_⟩
      split
      · exact Or.inr ⟨rfl, rfl⟩
      · exact Or.inl rfl
theorem fl_good {s : Bool} {m : Nat} {e : Int} (h : flE s m e = 0) : rightB m e = true ∧ flP (formD s m e) = true ∧ flW s m e = wholeD (formD s m e) ∧ flR s m e = restD (formD s m e) ∧ canE s m e = 0 ∧ canP s m e = formD s m e ∧ roomE (formD s m e) = 0 ∧ roomP (formD s m e) = formD s m e := by
  cases hr : rightB m e with
  | false => rw [(fl_right hr).1] at h; exact absurd h (by decide)
  | true =>
    cases hp : flP (formD s m e) with
    | false => rw [(fl_no hr hp).1] at h; exact absurd h (by decide)
    | true =>
      obtain ⟨e1, e2, e3⟩ := fl_yes (s := s) hr hp
      have hroom : rightB (formD s m e).2.1 (formD s m e).2.2 = true := by
        cases q : rightB (formD s m e).2.1 (formD s m e).2.2 with
        | true => rfl
        | false => rw [fl_far s m e hr q] at hp; exact absurd hp (by decide)
      have hE : roomE (formD s m e) = 0 := by rw [room_right, hroom]; rfl
      have hP : roomP (formD s m e) = formD s m e := by
        unfold roomP
        rw [show roomB (formD s m e) = rightB (formD s m e).2.1 (formD s m e).2.2 from rfl, hroom, if_pos rfl]
      exact ⟨rfl, rfl, e2, e3, by rw [(canE_yes hr).1, hE], by rw [(canE_yes hr).2, hP], hE, hP⟩

theorem one_D : intD 1 = (false, 1, 0) := by
  unfold intD
  show formD false 1 0 = _
  exact form_odd false (m := 1) (by decide) 0

attribute [local go_sem ↓] Go.wp_at_zero Go.wp_at_succ

set_option maxRecDepth 100000 in
set_option maxHeartbeats 4000000 in
theorem dpa_same (s : Bool) (a : Option Addr) (len cap : Nat) (xs : List Int) (e : Int) (w : World) (h : IsW w a len cap xs) (hm : len ≤ 17592186044000) (hT : Tab w) (hE : flE s (val xs) e ≠ 0) (hq : flE s (val xs) e = canE s (val xs) e) :
    Calls Tryd.prog 7 #[dyV s a len cap e] w fun r w' => r = .returned (.bool true) ∧ Below w.heap.size w w' := by
  have hT0 : Hid (∀ w', Below w.heap.size w w' → Tab w') := fun w' hb => hT.kept hb
  have H1 : Hid (IsW w a len cap xs) := h
  have HF : Hid _ := fun W g t => pFloor_calls s a len cap xs e W g (by omega) t
  have HC : Hid _ := fun W g t => pCanon_calls s a len cap xs e W g (by omega) t
  obtain ⟨hu, hv, -⟩ := fl_bad hE
  have HU : Hid _ := hu
  have HV : Hid _ := hv
  generalize flW s (val xs) e = u at *
  generalize flR s (val xs) e = v at *
  generalize canP s (val xs) e = cp at *
  rw [← hq] at HC
  generalize flE s (val xs) e = k at *
  have hk : (k == 0) = false := by simp [hE]
  clear h hm hT hu hv hq
  have bw : Below w.heap.size w (w.alloc (.cells #[.bool s, .slice a len cap, .int .i64 e] 25)) := below_one _ _
  have D0 : (w.alloc (.cells #[.bool s, .slice a len cap, .int .i64 e] 25)).cell? ⟨w.heap.size, 0, none⟩ = some (.bool s) := by go_simp
  have D1 : (w.alloc (.cells #[.bool s, .slice a len cap, .int .i64 e] 25)).cell? ⟨w.heap.size, 1, none⟩ = some (.slice a len cap) := by go_simp
  have D2 : (w.alloc (.cells #[.bool s, .slice a len cap, .int .i64 e] 25)).cell? ⟨w.heap.size, 2, none⟩ = some (.int .i64 e) := by go_simp
  go_enter Tryd.func7, Tryd.ntmps7
  go_wp2_with fail
  generalize (w.alloc (.cells #[.bool s, .slice a len cap, .int .i64 e] 25)) = w0 at *
  refine Calls.mono (dyBegins_calls _ (hT0.out _ bw)) ?_
  rintro r w1 ⟨rfl, bN⟩
  replace D0 := dcarry_cell bN D0
  replace D1 := dcarry_cell bN D1
  replace D2 := dcarry_cell bN D2
  replace bw := nbelow_trans bw bN
  clear bN
  go_wp2_with fail
  refine Calls.mono (HF.out _ (H1.out.keep bw) (hT0.out _ bw)) ?_
  rintro r w2 ⟨_, _, rfl, ⟨a2, n2, c2, rfl, HN2, hn2, hO2⟩, ⟨a3, n3, c3, rfl, HN3, hn3, hO3⟩, bN⟩
  replace D0 := dcarry_cell bN D0
  replace D1 := dcarry_cell bN D1
  replace D2 := dcarry_cell bN D2
  replace bw := nbelow_trans bw bN
  have hz2 : n2 = 0 := by rw [HN2.out, HU.out, words_zero]; rfl
  have hz3 : n3 = 0 := by rw [HN3.out, HV.out, words_zero]; rfl
  subst hz2
  subst hz3
  clear HN2 HN3 hn2 hn3
  have WJ := hO2.1
  have RJ := hO3.1
  have bA := below_one w2 (.cells #[.bool u.1, .slice a2 0 c2, .int .i64 u.2.2] 25)
  replace D0 := dcarry_cell bA D0
  replace D1 := dcarry_cell bA D1
  replace D2 := dcarry_cell bA D2
  replace WJ := WJ.keep bA
  replace RJ := RJ.keep bA
  have W0 : (w2.alloc (.cells #[.bool u.1, .slice a2 0 c2, .int .i64 u.2.2] 25)).cell? ⟨w2.heap.size, 0, none⟩ = some (.bool u.1) := by go_simp
  have W1 : (w2.alloc (.cells #[.bool u.1, .slice a2 0 c2, .int .i64 u.2.2] 25)).cell? ⟨w2.heap.size, 1, none⟩ = some (.slice a2 0 c2) := by go_simp
  have W2 : (w2.alloc (.cells #[.bool u.1, .slice a2 0 c2, .int .i64 u.2.2] 25)).cell? ⟨w2.heap.size, 2, none⟩ = some (.int .i64 u.2.2) := by go_simp
  replace bw := nbelow_trans bw bA
  clear bA
  have bA := below_one (w2.alloc (.cells #[.bool u.1, .slice a2 0 c2, .int .i64 u.2.2] 25)) (.cells #[.bool v.1, .slice a3 0 c3, .int .i64 v.2.2] 25)
  replace D0 := dcarry_cell bA D0
  replace D1 := dcarry_cell bA D1
  replace D2 := dcarry_cell bA D2
  replace W0 := dcarry_cell bA W0
  replace W1 := dcarry_cell bA W1
  replace W2 := dcarry_cell bA W2
  replace WJ := WJ.keep bA
  replace RJ := RJ.keep bA
  have R0 : ((w2.alloc (.cells #[.bool u.1, .slice a2 0 c2, .int .i64 u.2.2] 25)).alloc (.cells #[.bool v.1, .slice a3 0 c3, .int .i64 v.2.2] 25)).cell? ⟨w2.heap.size + 1, 0, none⟩ = some (.bool v.1) := by go_simp
  have R1 : ((w2.alloc (.cells #[.bool u.1, .slice a2 0 c2, .int .i64 u.2.2] 25)).alloc (.cells #[.bool v.1, .slice a3 0 c3, .int .i64 v.2.2] 25)).cell? ⟨w2.heap.size + 1, 1, none⟩ = some (.slice a3 0 c3) := by go_simp
  have R2 : ((w2.alloc (.cells #[.bool u.1, .slice a2 0 c2, .int .i64 u.2.2] 25)).alloc (.cells #[.bool v.1, .slice a3 0 c3, .int .i64 v.2.2] 25)).cell? ⟨w2.heap.size + 1, 2, none⟩ = some (.int .i64 v.2.2) := by go_simp
  replace bw := nbelow_trans bw bA
  clear bA
  have WI := WJ
  clear WJ hO2
  have RI := RJ
  clear RJ hO3
  clear bN
  go_wp2_with fail
  generalize (w2.alloc (.cells #[.bool u.1, .slice a2 0 c2, .int .i64 u.2.2] 25)).alloc (.cells #[.bool v.1, .slice a3 0 c3, .int .i64 v.2.2] 25) = w3 at *
  refine Calls.mono (HC.out _ (H1.out.keep bw) (hT0.out _ bw)) ?_
  rintro r w4 ⟨_, rfl, ⟨a4, n4, c4, rfl, HN4, hn4, hO4⟩, bN⟩
  replace D0 := dcarry_cell bN D0
  replace D1 := dcarry_cell bN D1
  replace D2 := dcarry_cell bN D2
  replace W0 := dcarry_cell bN W0
  replace W1 := dcarry_cell bN W1
  replace W2 := dcarry_cell bN W2
  replace WI := WI.keep bN
  replace R0 := dcarry_cell bN R0
  replace R1 := dcarry_cell bN R1
  replace R2 := dcarry_cell bN R2
  replace RI := RI.keep bN
  replace bw := nbelow_trans bw bN
  have CJ := hO4.1
  have bA := below_one w4 (.cells #[.bool cp.1, .slice a4 n4 c4, .int .i64 cp.2.2] 25)
  replace D0 := dcarry_cell bA D0
  replace D1 := dcarry_cell bA D1
  replace D2 := dcarry_cell bA D2
  replace W0 := dcarry_cell bA W0
  replace W1 := dcarry_cell bA W1
  replace W2 := dcarry_cell bA W2
  replace WI := WI.keep bA
  replace R0 := dcarry_cell bA R0
  replace R1 := dcarry_cell bA R1
  replace R2 := dcarry_cell bA R2
  replace RI := RI.keep bA
  replace CJ := CJ.keep bA
  have C0 : (w4.alloc (.cells #[.bool cp.1, .slice a4 n4 c4, .int .i64 cp.2.2] 25)).cell? ⟨w4.heap.size, 0, none⟩ = some (.bool cp.1) := by go_simp
  have C1 : (w4.alloc (.cells #[.bool cp.1, .slice a4 n4 c4, .int .i64 cp.2.2] 25)).cell? ⟨w4.heap.size, 1, none⟩ = some (.slice a4 n4 c4) := by go_simp
  have C2 : (w4.alloc (.cells #[.bool cp.1, .slice a4 n4 c4, .int .i64 cp.2.2] 25)).cell? ⟨w4.heap.size, 2, none⟩ = some (.int .i64 cp.2.2) := by go_simp
  replace bw := nbelow_trans bw bA
  clear bA
  have CI := CJ
  clear CJ hO4
  clear bN
  go_wp2_with fail
  generalize w4.alloc (.cells #[.bool cp.1, .slice a4 n4 c4, .int .i64 cp.2.2] 25) = w5 at *
  go_ret
  exact ⟨rfl, bw⟩

set_option maxRecDepth 100000 in
set_option maxHeartbeats 4000000 in
theorem dpa_three (s : Bool) (a : Option Addr) (len cap : Nat) (xs : List Int) (e : Int) (w : World) (h : IsW w a len cap xs) (hm : len ≤ 17592186044000) (hT : Tab w) (hE : flE s (val xs) e = 3) (hq : canE s (val xs) e = 0) :
    Calls Tryd.prog 7 #[dyV s a len cap e] w fun r w' => r = .returned (.bool true) ∧ Below w.heap.size w w' := by
  have hT0 : Hid (∀ w', Below w.heap.size w w' → Tab w') := fun w' hb => hT.kept hb
  have H1 : Hid (IsW w a len cap xs) := h
  have HF : Hid _ := fun W g t => pFloor_calls s a len cap xs e W g (by omega) t
  have HC : Hid _ := fun W g t => pCanon_calls s a len cap xs e W g (by omega) t
  obtain ⟨hu, hv, -⟩ := fl_bad (s := s) (m := val xs) (e := e) (by rw [hE]; decide)
  have HU : Hid _ := hu
  have HV : Hid _ := hv
  generalize flW s (val xs) e = u at *
  generalize flR s (val xs) e = v at *
  generalize canP s (val xs) e = cp at *
  rw [hE] at HF
  rw [hq] at HC
  clear h hm hT hu hv hq hE
  have bw : Below w.heap.size w (w.alloc (.cells #[.bool s, .slice a len cap, .int .i64 e] 25)) := below_one _ _
  have D0 : (w.alloc (.cells #[.bool s, .slice a len cap, .int .i64 e] 25)).cell? ⟨w.heap.size, 0, none⟩ = some (.bool s) := by go_simp
  have D1 : (w.alloc (.cells #[.bool s, .slice a len cap, .int .i64 e] 25)).cell? ⟨w.heap.size, 1, none⟩ = some (.slice a len cap) := by go_simp
  have D2 : (w.alloc (.cells #[.bool s, .slice a len cap, .int .i64 e] 25)).cell? ⟨w.heap.size, 2, none⟩ = some (.int .i64 e) := by go_simp
  go_enter Tryd.func7, Tryd.ntmps7
  go_wp2_with fail
  generalize (w.alloc (.cells #[.bool s, .slice a len cap, .int .i64 e] 25)) = w0 at *
  refine Calls.mono (dyBegins_calls _ (hT0.out _ bw)) ?_
  rintro r w1 ⟨rfl, bN⟩
  replace D0 := dcarry_cell bN D0
  replace D1 := dcarry_cell bN D1
  replace D2 := dcarry_cell bN D2
  replace bw := nbelow_trans bw bN
  clear bN
  go_wp2_with fail
  refine Calls.mono (HF.out _ (H1.out.keep bw) (hT0.out _ bw)) ?_
  rintro r w2 ⟨_, _, rfl, ⟨a2, n2, c2, rfl, HN2, hn2, hO2⟩, ⟨a3, n3, c3, rfl, HN3, hn3, hO3⟩, bN⟩
  replace D0 := dcarry_cell bN D0
  replace D1 := dcarry_cell bN D1
  replace D2 := dcarry_cell bN D2
  replace bw := nbelow_trans bw bN
  have hz2 : n2 = 0 := by rw [HN2.out, HU.out, words_zero]; rfl
  have hz3 : n3 = 0 := by rw [HN3.out, HV.out, words_zero]; rfl
  subst hz2
  subst hz3
  clear HN2 HN3 hn2 hn3
  have WJ := hO2.1
  have RJ := hO3.1
  have bA := below_one w2 (.cells #[.bool u.1, .slice a2 0 c2, .int .i64 u.2.2] 25)
  replace D0 := dcarry_cell bA D0
  replace D1 := dcarry_cell bA D1
  replace D2 := dcarry_cell bA D2
  replace WJ := WJ.keep bA
  replace RJ := RJ.keep bA
  have W0 : (w2.alloc (.cells #[.bool u.1, .slice a2 0 c2, .int .i64 u.2.2] 25)).cell? ⟨w2.heap.size, 0, none⟩ = some (.bool u.1) := by go_simp
  have W1 : (w2.alloc (.cells #[.bool u.1, .slice a2 0 c2, .int .i64 u.2.2] 25)).cell? ⟨w2.heap.size, 1, none⟩ = some (.slice a2 0 c2) := by go_simp
  have W2 : (w2.alloc (.cells #[.bool u.1, .slice a2 0 c2, .int .i64 u.2.2] 25)).cell? ⟨w2.heap.size, 2, none⟩ = some (.int .i64 u.2.2) := by go_simp
  replace bw := nbelow_trans bw bA
  clear bA
  have bA := below_one (w2.alloc (.cells #[.bool u.1, .slice a2 0 c2, .int .i64 u.2.2] 25)) (.cells #[.bool v.1, .slice a3 0 c3, .int .i64 v.2.2] 25)
  replace D0 := dcarry_cell bA D0
  replace D1 := dcarry_cell bA D1
  replace D2 := dcarry_cell bA D2
  replace W0 := dcarry_cell bA W0
  replace W1 := dcarry_cell bA W1
  replace W2 := dcarry_cell bA W2
  replace WJ := WJ.keep bA
  replace RJ := RJ.keep bA
  have R0 : ((w2.alloc (.cells #[.bool u.1, .slice a2 0 c2, .int .i64 u.2.2] 25)).alloc (.cells #[.bool v.1, .slice a3 0 c3, .int .i64 v.2.2] 25)).cell? ⟨w2.heap.size + 1, 0, none⟩ = some (.bool v.1) := by go_simp
  have R1 : ((w2.alloc (.cells #[.bool u.1, .slice a2 0 c2, .int .i64 u.2.2] 25)).alloc (.cells #[.bool v.1, .slice a3 0 c3, .int .i64 v.2.2] 25)).cell? ⟨w2.heap.size + 1, 1, none⟩ = some (.slice a3 0 c3) := by go_simp
  have R2 : ((w2.alloc (.cells #[.bool u.1, .slice a2 0 c2, .int .i64 u.2.2] 25)).alloc (.cells #[.bool v.1, .slice a3 0 c3, .int .i64 v.2.2] 25)).cell? ⟨w2.heap.size + 1, 2, none⟩ = some (.int .i64 v.2.2) := by go_simp
  replace bw := nbelow_trans bw bA
  clear bA
  have WI := WJ
  clear WJ hO2
  have RI := RJ
  clear RJ hO3
  clear bN
  go_wp2_with fail
  generalize (w2.alloc (.cells #[.bool u.1, .slice a2 0 c2, .int .i64 u.2.2] 25)).alloc (.cells #[.bool v.1, .slice a3 0 c3, .int .i64 v.2.2] 25) = w3 at *
  refine Calls.mono (HC.out _ (H1.out.keep bw) (hT0.out _ bw)) ?_
  rintro r w4 ⟨_, rfl, ⟨a4, n4, c4, rfl, HN4, hn4, hO4⟩, bN⟩
  replace D0 := dcarry_cell bN D0
  replace D1 := dcarry_cell bN D1
  replace D2 := dcarry_cell bN D2
  replace W0 := dcarry_cell bN W0
  replace W1 := dcarry_cell bN W1
  replace W2 := dcarry_cell bN W2
  replace WI := WI.keep bN
  replace R0 := dcarry_cell bN R0
  replace R1 := dcarry_cell bN R1
  replace R2 := dcarry_cell bN R2
  replace RI := RI.keep bN
  replace bw := nbelow_trans bw bN
  have CJ := hO4.1
  have bA := below_one w4 (.cells #[.bool cp.1, .slice a4 n4 c4, .int .i64 cp.2.2] 25)
  replace D0 := dcarry_cell bA D0
  replace D1 := dcarry_cell bA D1
  replace D2 := dcarry_cell bA D2
  replace W0 := dcarry_cell bA W0
  replace W1 := dcarry_cell bA W1
  replace W2 := dcarry_cell bA W2
  replace WI := WI.keep bA
  replace R0 := dcarry_cell bA R0
  replace R1 := dcarry_cell bA R1
  replace R2 := dcarry_cell bA R2
  replace RI := RI.keep bA
  replace CJ := CJ.keep bA
  have C0 : (w4.alloc (.cells #[.bool cp.1, .slice a4 n4 c4, .int .i64 cp.2.2] 25)).cell? ⟨w4.heap.size, 0, none⟩ = some (.bool cp.1) := by go_simp
  have C1 : (w4.alloc (.cells #[.bool cp.1, .slice a4 n4 c4, .int .i64 cp.2.2] 25)).cell? ⟨w4.heap.size, 1, none⟩ = some (.slice a4 n4 c4) := by go_simp
  have C2 : (w4.alloc (.cells #[.bool cp.1, .slice a4 n4 c4, .int .i64 cp.2.2] 25)).cell? ⟨w4.heap.size, 2, none⟩ = some (.int .i64 cp.2.2) := by go_simp
  replace bw := nbelow_trans bw bA
  clear bA
  have CI := CJ
  clear CJ hO4
  clear bN
  go_wp2_with fail
  generalize w4.alloc (.cells #[.bool cp.1, .slice a4 n4 c4, .int .i64 cp.2.2] 25) = w5 at *
  go_ret
  exact ⟨rfl, bw⟩

set_option maxRecDepth 100000 in
set_option maxHeartbeats 4000000 in
theorem dpa_ok (s : Bool) (a : Option Addr) (len cap : Nat) (xs : List Int) (e : Int) (w : World) (h : IsW w a len cap xs) (hm : len ≤ 17592186044000) (hT : Tab w) (hE : flE s (val xs) e = 0) :
    Calls Tryd.prog 7 #[dyV s a len cap e] w fun r w' => r = .returned (.bool true) ∧ Below w.heap.size w w' := by
  have hT0 : Hid (∀ w', Below w.heap.size w w' → Tab w') := fun w' hb => hT.kept hb
  have H1 : Hid (IsW w a len cap xs) := h
  have HF : Hid _ := fun W g t => pFloor_calls s a len cap xs e W g (by omega) t
  have HC : Hid _ := fun W g t => pCanon_calls s a len cap xs e W g (by omega) t
  obtain ⟨hr, hp, hw, hrr, hc, hcp, hre, hrp⟩ := fl_good hE
  rw [hE, hw, hrr] at HF
  rw [hc, hcp] at HC
  have hcn := form_can s (val xs) e
  obtain ⟨rm, re, h1, h2, h3, h4⟩ := parts_ok (formD s (val xs) e) hcn
  have hpp := hp
  unfold flP at hpp
  rw [Bool.and_eq_true] at hpp
  rw [h1] at HF hpp
  have huc := whole_can hcn
  have hrc : CanD (false, rm, re) := by rw [← h1]; exact rest_can hcn
  generalize (formD s (val xs) e) = x at *
  have hur : rightB (wholeD x).2.1 (wholeD x).2.2 = true := hpp.1
  have hvr : rightB rm re = true := hpp.2
  have HA : Hid _ := fun a' n' c' b' m' d' W g (q : n' ≤ 1024) g' (q' : m' ≤ 1024) t => dadd_yes (wholeD x).1 a' n' c' (wordsOf (wholeD x).2.1) (wholeD x).2.2 false b' m' d' (wordsOf rm) re W g (by omega) g' (by omega) t (by rw [val_words]; exact hur) (by rw [val_words]; exact hvr)
  have hf1 : formD false rm re = (false, rm, re) := form_of_can hrc
  rw [val_words, val_words, form_of_can huc, hf1, h2, hre, hrp] at HA
  have hio : formD (intD 1).1 (intD 1).2.1 (intD 1).2.2 = intD 1 := form_of_can (form_can _ _ _)
  have HOR : Hid _ := fun a' n' c' b' m' d' W g (q : n' ≤ 1024) g' (q' : m' ≤ 1024) => qOrder_calls false a' n' c' (wordsOf rm) re (intD 1).1 b' m' d' (wordsOf (intD 1).2.1) (intD 1).2.2 W g (by omega) g' (by omega) (by have := (rightB_yes hvr).2; omega) (by show -5000000 ≤ (intD 1).2.2 ∧ (intD 1).2.2 ≤ 5000000; rw [one_D]; decide) (by rw [val_words]; have := right_blen hvr; omega) (by rw [val_words, one_D]; decide)
  rw [val_words, val_words, hf1, hio, h4] at HOR
  have HI1 : Hid _ := fun W t => dint_calls 1 (by decide) W t
  have HSC : Hid _ := fun a1 n1 c1 a2 n2 c2 w' g q1 g2 q2 => qSame_calls x.1 a1 n1 c1 (wordsOf x.2.1) x.2.2 x.1 a2 n2 c2 (wordsOf x.2.1) x.2.2 w' g q1 g2 q2
  rw [sameB_self] at HSC
  generalize wholeD x = u at *
  generalize intD 1 = o1 at *
  have hge : 0 ≤ u.2.2 := h3
  clear h hm hT hE hr hp hw hrr hc hcp hre hrp hcn h1 h2 h3 h4 hpp huc hrc hur hvr hf1 hio
  have bw : Below w.heap.size w (w.alloc (.cells #[.bool s, .slice a len cap, .int .i64 e] 25)) := below_one _ _
  have D0 : (w.alloc (.cells #[.bool s, .slice a len cap, .int .i64 e] 25)).cell? ⟨w.heap.size, 0, none⟩ = some (.bool s) := by go_simp
  have D1 : (w.alloc (.cells #[.bool s, .slice a len cap, .int .i64 e] 25)).cell? ⟨w.heap.size, 1, none⟩ = some (.slice a len cap) := by go_simp
  have D2 : (w.alloc (.cells #[.bool s, .slice a len cap, .int .i64 e] 25)).cell? ⟨w.heap.size, 2, none⟩ = some (.int .i64 e) := by go_simp
  go_enter Tryd.func7, Tryd.ntmps7
  go_wp2_with fail
  generalize (w.alloc (.cells #[.bool s, .slice a len cap, .int .i64 e] 25)) = w0 at *
  refine Calls.mono (dyBegins_calls _ (hT0.out _ bw)) ?_
  rintro r w1 ⟨rfl, bN⟩
  replace D0 := dcarry_cell bN D0
  replace D1 := dcarry_cell bN D1
  replace D2 := dcarry_cell bN D2
  replace bw := nbelow_trans bw bN
  clear bN
  go_wp2_with fail
  refine Calls.mono (HF.out _ (H1.out.keep bw) (hT0.out _ bw)) ?_
  rintro r w2 ⟨_, _, rfl, ⟨a2, n2, c2, rfl, HN2, hn2, hO2⟩, ⟨a3, n3, c3, rfl, HN3, hn3, hO3⟩, bN⟩
  replace D0 := dcarry_cell bN D0
  replace D1 := dcarry_cell bN D1
  replace D2 := dcarry_cell bN D2
  replace bw := nbelow_trans bw bN
  have WJ := hO2.1
  have RJ := hO3.1
  have bA := below_one w2 (.cells #[.bool u.1, .slice a2 n2 c2, .int .i64 u.2.2] 25)
  replace D0 := dcarry_cell bA D0
  replace D1 := dcarry_cell bA D1
  replace D2 := dcarry_cell bA D2
  replace WJ := WJ.keep bA
  replace RJ := RJ.keep bA
  have W0 : (w2.alloc (.cells #[.bool u.1, .slice a2 n2 c2, .int .i64 u.2.2] 25)).cell? ⟨w2.heap.size, 0, none⟩ = some (.bool u.1) := by go_simp
  have W1 : (w2.alloc (.cells #[.bool u.1, .slice a2 n2 c2, .int .i64 u.2.2] 25)).cell? ⟨w2.heap.size, 1, none⟩ = some (.slice a2 n2 c2) := by go_simp
  have W2 : (w2.alloc (.cells #[.bool u.1, .slice a2 n2 c2, .int .i64 u.2.2] 25)).cell? ⟨w2.heap.size, 2, none⟩ = some (.int .i64 u.2.2) := by go_simp
  replace bw := nbelow_trans bw bA
  clear bA
  have bA := below_one (w2.alloc (.cells #[.bool u.1, .slice a2 n2 c2, .int .i64 u.2.2] 25)) (.cells #[.bool false, .slice a3 n3 c3, .int .i64 re] 25)
  replace D0 := dcarry_cell bA D0
  replace D1 := dcarry_cell bA D1
  replace D2 := dcarry_cell bA D2
  replace W0 := dcarry_cell bA W0
  replace W1 := dcarry_cell bA W1
  replace W2 := dcarry_cell bA W2
  replace WJ := WJ.keep bA
  replace RJ := RJ.keep bA
  have R0 : ((w2.alloc (.cells #[.bool u.1, .slice a2 n2 c2, .int .i64 u.2.2] 25)).alloc (.cells #[.bool false, .slice a3 n3 c3, .int .i64 re] 25)).cell? ⟨w2.heap.size + 1, 0, none⟩ = some (.bool false) := by go_simp
  have R1 : ((w2.alloc (.cells #[.bool u.1, .slice a2 n2 c2, .int .i64 u.2.2] 25)).alloc (.cells #[.bool false, .slice a3 n3 c3, .int .i64 re] 25)).cell? ⟨w2.heap.size + 1, 1, none⟩ = some (.slice a3 n3 c3) := by go_simp
  have R2 : ((w2.alloc (.cells #[.bool u.1, .slice a2 n2 c2, .int .i64 u.2.2] 25)).alloc (.cells #[.bool false, .slice a3 n3 c3, .int .i64 re] 25)).cell? ⟨w2.heap.size + 1, 2, none⟩ = some (.int .i64 re) := by go_simp
  replace bw := nbelow_trans bw bA
  clear bA
  have WI := WJ
  clear WJ hO2
  have RI := RJ
  clear RJ hO3
  clear bN
  go_wp2_with fail
  generalize (w2.alloc (.cells #[.bool u.1, .slice a2 n2 c2, .int .i64 u.2.2] 25)).alloc (.cells #[.bool false, .slice a3 n3 c3, .int .i64 re] 25) = w3 at *
  refine Calls.mono (HC.out _ (H1.out.keep bw) (hT0.out _ bw)) ?_
  rintro r w4 ⟨_, rfl, ⟨a4, n4, c4, rfl, HN4, hn4, hO4⟩, bN⟩
  replace D0 := dcarry_cell bN D0
  replace D1 := dcarry_cell bN D1
  replace D2 := dcarry_cell bN D2
  replace W0 := dcarry_cell bN W0
  replace W1 := dcarry_cell bN W1
  replace W2 := dcarry_cell bN W2
  replace WI := WI.keep bN
  replace R0 := dcarry_cell bN R0
  replace R1 := dcarry_cell bN R1
  replace R2 := dcarry_cell bN R2
  replace RI := RI.keep bN
  replace bw := nbelow_trans bw bN
  have CJ := hO4.1
  have bA := below_one w4 (.cells #[.bool x.1, .slice a4 n4 c4, .int .i64 x.2.2] 25)
  replace D0 := dcarry_cell bA D0
  replace D1 := dcarry_cell bA D1
  replace D2 := dcarry_cell bA D2
  replace W0 := dcarry_cell bA W0
  replace W1 := dcarry_cell bA W1
  replace W2 := dcarry_cell bA W2
  replace WI := WI.keep bA
  replace R0 := dcarry_cell bA R0
  replace R1 := dcarry_cell bA R1
  replace R2 := dcarry_cell bA R2
  replace RI := RI.keep bA
  replace CJ := CJ.keep bA
  have C0 : (w4.alloc (.cells #[.bool x.1, .slice a4 n4 c4, .int .i64 x.2.2] 25)).cell? ⟨w4.heap.size, 0, none⟩ = some (.bool x.1) := by go_simp
  have C1 : (w4.alloc (.cells #[.bool x.1, .slice a4 n4 c4, .int .i64 x.2.2] 25)).cell? ⟨w4.heap.size, 1, none⟩ = some (.slice a4 n4 c4) := by go_simp
  have C2 : (w4.alloc (.cells #[.bool x.1, .slice a4 n4 c4, .int .i64 x.2.2] 25)).cell? ⟨w4.heap.size, 2, none⟩ = some (.int .i64 x.2.2) := by go_simp
  replace bw := nbelow_trans bw bA
  clear bA
  have CI := CJ
  clear CJ hO4
  clear bN
  go_wp2_with fail
  generalize w4.alloc (.cells #[.bool x.1, .slice a4 n4 c4, .int .i64 x.2.2] 25) = w5 at *
  have hn3b : n3 ≤ 1024 := hn3
  refine Calls.mono (HA.out _ _ _ _ _ _ _ WI hn2 RI hn3 (hT0.out _ bw)) ?_
  rintro r w6 ⟨_, rfl, ⟨a6, n6, c6, rfl, HN6, hn6, hO6⟩, bN⟩
  replace D0 := dcarry_cell bN D0
  replace D1 := dcarry_cell bN D1
  replace D2 := dcarry_cell bN D2
  replace W0 := dcarry_cell bN W0
  replace W1 := dcarry_cell bN W1
  replace W2 := dcarry_cell bN W2
  replace WI := WI.keep bN
  replace R0 := dcarry_cell bN R0
  replace R1 := dcarry_cell bN R1
  replace R2 := dcarry_cell bN R2
  replace RI := RI.keep bN
  replace C0 := dcarry_cell bN C0
  replace C1 := dcarry_cell bN C1
  replace C2 := dcarry_cell bN C2
  replace CI := CI.keep bN
  replace bw := nbelow_trans bw bN
  have TJ := hO6.1
  have bA := below_one w6 (.cells #[.bool x.1, .slice a6 n6 c6, .int .i64 x.2.2] 25)
  replace D0 := dcarry_cell bA D0
  replace D1 := dcarry_cell bA D1
  replace D2 := dcarry_cell bA D2
  replace W0 := dcarry_cell bA W0
  replace W1 := dcarry_cell bA W1
  replace W2 := dcarry_cell bA W2
  replace WI := WI.keep bA
  replace R0 := dcarry_cell bA R0
  replace R1 := dcarry_cell bA R1
  replace R2 := dcarry_cell bA R2
  replace RI := RI.keep bA
  replace C0 := dcarry_cell bA C0
  replace C1 := dcarry_cell bA C1
  replace C2 := dcarry_cell bA C2
  replace CI := CI.keep bA
  replace TJ := TJ.keep bA
  have T0 : (w6.alloc (.cells #[.bool x.1, .slice a6 n6 c6, .int .i64 x.2.2] 25)).cell? ⟨w6.heap.size, 0, none⟩ = some (.bool x.1) := by go_simp
  have T1 : (w6.alloc (.cells #[.bool x.1, .slice a6 n6 c6, .int .i64 x.2.2] 25)).cell? ⟨w6.heap.size, 1, none⟩ = some (.slice a6 n6 c6) := by go_simp
  have T2 : (w6.alloc (.cells #[.bool x.1, .slice a6 n6 c6, .int .i64 x.2.2] 25)).cell? ⟨w6.heap.size, 2, none⟩ = some (.int .i64 x.2.2) := by go_simp
  replace bw := nbelow_trans bw bA
  clear bA
  have TI := TJ
  clear TJ hO6
  clear bN
  go_wp2_with fail
  generalize w6.alloc (.cells #[.bool x.1, .slice a6 n6 c6, .int .i64 x.2.2] 25) = w7 at *
  have bD : Below w7.heap.size w7 w7.drew := (Below.refl _ _).drew
  go_region_held3 (fun w' => w'.cell? ⟨w6.heap.size, 0, none⟩ = some (.bool x.1) ∧ w'.cell? ⟨w6.heap.size, 1, none⟩ = some (.slice a6 n6 c6) ∧ w'.cell? ⟨w6.heap.size, 2, none⟩ = some (.int .i64 x.2.2) ∧ w'.cell? ⟨w4.heap.size, 0, none⟩ = some (.bool x.1) ∧ w'.cell? ⟨w4.heap.size, 1, none⟩ = some (.slice a4 n4 c4) ∧ w'.cell? ⟨w4.heap.size, 2, none⟩ = some (.int .i64 x.2.2) ∧ w'.cell? ⟨w2.heap.size, 0, none⟩ = some (.bool u.1) ∧ w'.cell? ⟨w2.heap.size, 1, none⟩ = some (.slice a2 n2 c2) ∧ w'.cell? ⟨w2.heap.size, 2, none⟩ = some (.int .i64 u.2.2) ∧ w'.cell? ⟨w2.heap.size + 1, 0, none⟩ = some (.bool false) ∧ w'.cell? ⟨w2.heap.size + 1, 1, none⟩ = some (.slice a3 n3 c3) ∧ w'.cell? ⟨w2.heap.size + 1, 2, none⟩ = some (.int .i64 re))
    (first | (go_keep; done) | (exact ⟨T0c, T1c, T2c, C0c, C1c, C2c, W0c, W1c, W2c, R0c, R1c, R2c⟩) | (exact ⟨T0b, T1b, T2b, C0b, C1b, C2b, W0b, W1b, W2b, R0b, R1b, R2b⟩) | (exact ⟨T0a, T1a, T2a, C0a, C1a, C2a, W0a, W1a, W2a, R0a, R1a, R2a⟩))
    (first
      | (go_at_call 10; refine (HSC.out _ _ _ _ _ _ _ (TI.keep bD) (by omega) (CI.keep bD) (by omega)).mono ?_; rintro r w8 ⟨rfl, b8⟩; have b78 := nbelow_trans bD b8; have T0a := dcarry_cell b78 T0; have T1a := dcarry_cell b78 T1; have T2a := dcarry_cell b78 T2; have C0a := dcarry_cell b78 C0; have C1a := dcarry_cell b78 C1; have C2a := dcarry_cell b78 C2; have W0a := dcarry_cell b78 W0; have W1a := dcarry_cell b78 W1; have W2a := dcarry_cell b78 W2; have R0a := dcarry_cell b78 R0; have R1a := dcarry_cell b78 R1; have R2a := dcarry_cell b78 R2)
      | (go_at_call 31; refine (HI1.out _ (hT0.out _ (nbelow_trans bw b78))).mono ?_; rintro r w9 ⟨_, rfl, ⟨a9, n9, c9, rfl, HN9, hn9, hO9⟩, b9⟩; have b79 := nbelow_trans b78 b9; have T0b := dcarry_cell b9 T0a; have T1b := dcarry_cell b9 T1a; have T2b := dcarry_cell b9 T2a; have C0b := dcarry_cell b9 C0a; have C1b := dcarry_cell b9 C1a; have C2b := dcarry_cell b9 C2a; have W0b := dcarry_cell b9 W0a; have W1b := dcarry_cell b9 W1a; have W2b := dcarry_cell b9 W2a; have R0b := dcarry_cell b9 R0a; have R1b := dcarry_cell b9 R1a; have R2b := dcarry_cell b9 R2a)
      | (go_at_call 30; refine (HOR.out _ _ _ _ _ _ _ (RI.keep b79) hn3 hO9.1 hn9).mono ?_; rintro r w10 ⟨rfl, b10⟩; have b70 := nbelow_trans b79 b10; have T0c := dcarry_cell b10 T0b; have T1c := dcarry_cell b10 T1b; have T2c := dcarry_cell b10 T2b; have C0c := dcarry_cell b10 C0b; have C1c := dcarry_cell b10 C1b; have C2c := dcarry_cell b10 C2b; have W0c := dcarry_cell b10 W0b; have W1c := dcarry_cell b10 W1b; have W2c := dcarry_cell b10 W2b; have R0c := dcarry_cell b10 R0b; have R1c := dcarry_cell b10 R1b; have R2c := dcarry_cell b10 R2b))
  all_goals
    go_wp2_with fail
    go_ret
    exact ⟨rfl, nbelow_trans bw b70⟩

theorem dyadParts_walk (s : Bool) (a : Option Addr) (len cap : Nat) (xs : List Int) (e : Int) (w : World) (h : IsW w a len cap xs) (hm : len ≤ 17592186044000) (_he : -9223372036854775808 ≤ e ∧ e ≤ 9223372036854775807) (hT : Tab w) :
    Calls Tryd.prog 7 #[dyV s a len cap e] w fun r w' => r = .returned (.bool true) ∧ Below w.heap.size w w' := by
  by_cases hE : flE s (val xs) e = 0
  · exact dpa_ok s a len cap xs e w h hm hT hE
  · rcases (fl_bad hE).2.2 with q | ⟨q1, q2⟩
    · exact dpa_same s a len cap xs e w h hm hT hE q
    · exact dpa_three s a len cap xs e w h hm hT q1 q2

end

end Go.Proofs.YtblcddcecmbkbaaDoor

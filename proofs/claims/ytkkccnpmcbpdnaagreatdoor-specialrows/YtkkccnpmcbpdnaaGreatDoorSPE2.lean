/- The document's rows of special are the program's: tangents of half turns, angles, powers, distances. -/
import Derived.Test.YtkkccnpmcbpdnaaGreatDoorSPE
import Derived.Test.YtkkccnpmcbpdnaaGreatDoorSPK2
namespace Go.Proofs.YtkkccnpmcbpdnaaGreatDoor

theorem e_tanpi (x : Int) (h : U x) (hc : classV x ≤ 4) : (dHalves 18) x = rowsAt lTanpi x x := by
  refine one_eq (dHalves 18) lTanpi x h (by decide +kernel) (by decide +kernel) (by decide +kernel) (by decide +kernel) (fun c => ?_) hc
  obtain ⟨g1, g4, g5, g6, gi, gm⟩ := fin_facts x h c
  have hh := half_same x x h c
  have hw := whole_odd x x h c
  have ho := half_odd x x h c
  show dHalves 18 x = (if (classV x == 4) = true then aOutside x x else if wholeB x = true then turnR (sgnB x) (turnR (tOddPart x x) (0, 0, 4)) else if tHalf x x = true then turnR (sgnB x) (turnR (tOddPart x x) (9218868437227405312, 2, 3)) else (0, 0, 0))
  rw [hh]
  unfold dHalves
  rw [g4]
  cases hwx : wholeB x with
  | true =>
    rw [hw hwx]
    cases oddB x <;> cases hs : sgnB x <;> simp [turnR, rE, sgz, hs, negV]
  | false =>
    cases hhx : halfB x with
    | true =>
      rw [ho hhx]
      cases hod : oddH x <;> cases hs : sgnB x <;> simp [turnR, rP, dBelow, hs, hod, negV]
    | false => simp
theorem e_atanh (x : Int) (h : U x) (hc : classV x ≤ 4) : (dOthers 30) x = rowsAt lAtanh x x := by
  refine one_eq (dOthers 30) lAtanh x h (by decide +kernel) (by decide +kernel) (by decide +kernel) (by decide +kernel) (fun c => ?_) hc
  by_cases h1 : x = 4607182418800017408
  · subst h1; decide +kernel
  · by_cases h2 : x = 13830554455654793216
    · subst h2; decide +kernel
    · obtain ⟨g1, g4, g5, g6, gi, gm⟩ := fin_facts x h c
      have h3 : (absV x == 4607182418800017408) = false := by
        simp only [beq_eq_false_iff_ne, ne_eq]
        unfold absV U at *
        omega
      simp [dOthers, rowsAt, lAtanh, tZero, tIs, tBeyond, aOutside, aAlways, rD, g1, h1, h2, h3]
      rfl

theorem inf_or (y : Int) (h : U y) : (classV y == 4) = ((y == 9218868437227405312) || (y == 18442240474082181120)) := by
  rw [Bool.eq_iff_iff]
  simp only [Bool.or_eq_true, beq_iff_eq]
  constructor
  · exact inf_of y h
  · rintro (rfl | rfl) <;> decide
theorem e_angles (q h t p : Int) (g k : Int) (x y : Int) (hy : U y) (D : Int → Int → Ro) (hD : D x y = if ((classV x == 1) && !sgnB y) = true then rE x
    else if (classV x == 1) = true then (sgd p x, g, k) else if (classV y == 1) = true then (sgd h x, g, k) else if ((classV x == 4) && (y == 9218868437227405312)) = true then (sgd q x, g, k)
    else if ((classV x == 4) && (classV y == 4)) = true then (sgd t x, g, k) else if (classV x == 4) = true then (sgd h x, g, k) else if (y == 9218868437227405312) = true then rE (sgz x) else if (classV y == 4) = true then (sgd p x, g, k) else (0, 0, 0)) :
    D x y = rowsAt (lAngle q h t p (fun b => aAlways b g k)) x y := by
  rw [hD]
  show _ = (if ((classV x == 1) && !sgnB y) = true then ((x, 0, 4) : Ro) else if (classV x == 1) = true then turnR (sgnB x) (p, g, k) else if (classV y == 1) = true then turnR (sgnB x) (h, g, k)
    else if ((classV x == 4) && (y == 9218868437227405312)) = true then turnR (sgnB x) (q, g, k) else if ((classV x == 4) && (y == 18442240474082181120)) = true then turnR (sgnB x) (t, g, k)
    else if (classV x == 4) = true then turnR (sgnB x) (h, g, k) else if (y == 9218868437227405312) = true then turnR (sgnB x) (0, 0, 4) else if (y == 18442240474082181120) = true then turnR (sgnB x) (p, g, k) else (0, 0, 0))
  rw [inf_or y hy, sgd_turn, sgd_turn, sgd_turn, sgd_turn, sgz_turn]
  cases (classV x == 1) <;> cases sgnB y <;> cases (classV y == 1) <;> cases (classV x == 4) <;> cases (y == 9218868437227405312) <;> cases (y == 18442240474082181120) <;> rfl
theorem e_rad (x y : Int) (hy : U y) : dAngles 33 x y = rowsAt lRad x y := e_angles _ _ _ _ 16 5 x y hy (dAngles 33) rfl
theorem e_turn (x y : Int) (hy : U y) : dAngles 34 x y = rowsAt lTurn x y := e_angles _ _ _ _ 0 4 x y hy (dAngles 34) rfl
theorem less_num (y : Int) (h : U y) (c1 : classV y ≠ 1) (c4 : classV y ≤ 4) : lessB y 0 = sgnB y := by
  have := cls_bd y
  rcases (show classV y = 2 ∨ classV y = 3 ∨ classV y = 4 by omega) with c | c | c
  · exact less_zero y h (Or.inl c)
  · exact less_zero y h (Or.inr c)
  · rcases inf_of y h c with rfl | rfl <;> decide
theorem e_pow (x y : Int) (hx : U x) (hy : U y) (x4 : classV x ≤ 4) (y4 : classV y ≤ 4) (y1 : classV y ≠ 1) : dPowers x y = rowsAt lPow x y := by
  show _ = (if ((classV x == 1) && (y == 18442240474082181120)) = true then ((9218868437227405312, 0, 4) : Ro) else if ((classV x == 1) && lessB y 0) = true then turnR (sgnB x && oddB y) (9218868437227405312, 2, 3)
    else if (classV x == 1) = true then turnR (sgnB x && oddB y) (0, 0, 4) else if ((classV y == 4) && (x == 13830554455654793216)) = true then (4607182418800017408, 0, 4)
    else if ((classV y == 4) && (lessB 4607182418800017408 (absV x) == !sgnB y)) = true then (9218868437227405312, 0, 4) else if (classV y == 4) = true then (0, 0, 4)
    else if ((classV x == 4) && lessB y 0) = true then turnR (sgnB x && oddB y) (0, 0, 4) else if (classV x == 4) = true then turnR (sgnB x && oddB y) (9218868437227405312, 0, 4)
    else if (lessB x 0 && !wholeB y) = true then (9221120237041090560, 1, 2) else (0, 0, 0))
  rw [less_num y hy y1 y4]
  unfold dPowers dOfZero
  cases hz : (classV x == 1) with
  | true =>
    have hz' : classV x = 1 := by simpa using hz
    rcases zero_of x hx hz' with rfl | rfl
    · have s0 : sgnB 0 = false := by decide
      rw [s0]
      cases (y == 18442240474082181120) <;> cases sgnB y <;> cases oddB y <;> simp [rE, rP, sgd, s0, turnR]
    · have s0 : sgnB 9223372036854775808 = true := by decide
      rw [s0]
      cases (y == 18442240474082181120) <;> cases sgnB y <;> cases oddB y <;> simp [rE, rP, sgd, s0, turnR, negV]
  | false =>
    have hz' : classV x ≠ 1 := by simpa using hz
    rw [less_num x hx hz' x4]
    cases (classV y == 4) <;> cases (x == 13830554455654793216) <;> cases (classV x == 4) <;> cases sgnB y <;> cases sgnB x <;> cases oddB y <;> cases wholeB y <;> cases lessB 4607182418800017408 (absV x) <;> simp [rE, rD, turnR, negV]
theorem two_nan (f x y : Int) (hx : U x) (hy : U y) (hf : 33 ≤ f ∧ f ≤ 36) : dTwo f x y = rowsAt (withN (aheadL f) (twoL f)) x y := by
  have bx := cls_bd x
  have by' := cls_bd y
  rcases (show f = 33 ∨ f = 34 ∨ f = 35 ∨ f = 36 by omega) with rfl | rfl | rfl | rfl
  · show dTwo 33 x y = (if ((classV x == 6) || (classV y == 6)) = true then ((9221120237041090560, 1, 1) : Ro) else if ((classV x == 5) || (classV y == 5)) = true then (9221120237041090560, 0, 1) else rowsAt lRad x y)
    rw [← e_rad x y hy]
    unfold dTwo
    cases ((classV x == 6) || (classV y == 6)) <;> cases ((classV x == 5) || (classV y == 5)) <;> simp
  · show dTwo 34 x y = (if ((classV x == 6) || (classV y == 6)) = true then ((9221120237041090560, 1, 1) : Ro) else if ((classV x == 5) || (classV y == 5)) = true then (9221120237041090560, 0, 1) else rowsAt lTurn x y)
    rw [← e_turn x y hy]
    unfold dTwo
    cases ((classV x == 6) || (classV y == 6)) <;> cases ((classV x == 5) || (classV y == 5)) <;> simp
  · show dTwo 35 x y = (if ((classV x == 6) || (classV y == 6)) = true then ((9221120237041090560, 1, 1) : Ro) else if (x == 4607182418800017408) = true then (4607182418800017408, 0, 4) else if (classV y == 1) = true then (4607182418800017408, 0, 4) else if ((classV x == 5) || (classV y == 5)) = true then (9221120237041090560, 0, 1) else rowsAt lPow x y)
    unfold dTwo
    cases h6 : ((classV x == 6) || (classV y == 6)) with
    | true => rfl
    | false =>
      cases h1 : (x == 4607182418800017408) with
      | true => simp [rE]
      | false =>
        cases hz : (classV y == 1) with
        | true => simp [rE]
        | false =>
          cases h5 : ((classV x == 5) || (classV y == 5)) with
          | true => simp
          | false =>
            simp only [Bool.or_eq_false_iff, beq_eq_false_iff_ne, ne_eq] at h6 h5 hz
            rw [← e_pow x y hx hy (by omega) (by omega) hz]
            simp
  · show dTwo 36 x y = (if ((classV x == 6) || (classV y == 6)) = true then ((9221120237041090560, 1, 1) : Ro) else if ((classV x == 4) || (classV y == 4)) = true then (9218868437227405312, 0, 4) else if ((classV x == 5) || (classV y == 5)) = true then (9221120237041090560, 0, 1) else if ((classV x == 1) || (classV y == 1)) = true then (orA x y, 0, 4) else (0, 0, 0))
    unfold dTwo
    have e1 : (classV x == 1) = true → orA x y = absV y := fun e => or_zero x y (by rcases zero_of x hx (by simpa using e) with rfl | rfl <;> decide)
    have e2 : (classV y == 1) = true → orA x y = absV x := fun e => by rw [or_comm64]; exact or_zero y x (by rcases zero_of y hy (by simpa using e) with rfl | rfl <;> decide)
    cases ((classV x == 6) || (classV y == 6)) <;> cases ((classV x == 5) || (classV y == 5)) <;> cases ((classV x == 4) || (classV y == 4)) <;> cases hx1 : (classV x == 1) <;> cases hy1 : (classV y == 1) <;> simp [rE]
    all_goals first | rw [e1 hx1] | rw [e2 hy1]
theorem one_same (x : Int) (h : U x) : ∀ n : Nat, 1 ≤ n → n ≤ 32 → dOne (n : Int) x = rowsAt (withN [] (oneL (n : Int))) x x
  | 0, h0, _ => absurd h0 (by omega)
  | 1, _, _ => nan_rows _ x _ (fun c => e_exp x h c)
  | 2, _, _ => nan_rows _ x _ (fun c => e_exp x h c)
  | 3, _, _ => nan_rows _ x _ (fun c => e_exp x h c)
  | 4, _, _ => nan_rows _ x _ (fun c => e_expm1 x h c)
  | 5, _, _ => nan_rows _ x _ (fun c => e_expm1 x h c)
  | 6, _, _ => nan_rows _ x _ (fun c => e_expm1 x h c)
  | 7, _, _ => nan_rows _ x _ (fun c => e_log x h c)
  | 8, _, _ => nan_rows _ x _ (fun c => e_log x h c)
  | 9, _, _ => nan_rows _ x _ (fun c => e_log x h c)
  | 10, _, _ => nan_rows _ x _ (fun c => e_log1p x h c)
  | 11, _, _ => nan_rows _ x _ (fun c => e_log1p x h c)
  | 12, _, _ => nan_rows _ x _ (fun c => e_log1p x h c)
  | 13, _, _ => nan_rows _ x _ (fun c => e_sin13 x h c)
  | 14, _, _ => nan_rows _ x _ (fun c => e_cos x h c)
  | 15, _, _ => nan_rows _ x _ (fun c => e_sin15 x h c)
  | 16, _, _ => nan_rows _ x _ (fun c => e_sinpi x h c)
  | 17, _, _ => nan_rows _ x _ (fun c => e_cospi x h c)
  | 18, _, _ => nan_rows _ x _ (fun c => e_tanpi x h c)
  | 19, _, _ => nan_rows _ x _ (fun c => e_asin19 x h c)
  | 20, _, _ => nan_rows _ x _ (fun c => e_acos20 x h c)
  | 21, _, _ => nan_rows _ x _ (fun c => e_atan x h c)
  | 22, _, _ => nan_rows _ x _ (fun c => e_asin22 x h c)
  | 23, _, _ => nan_rows _ x _ (fun c => e_acos23 x h c)
  | 24, _, _ => nan_rows _ x _ (fun c => e_atanpi x h c)
  | 25, _, _ => nan_rows _ x _ (fun c => e_them25 x h c)
  | 26, _, _ => nan_rows _ x _ (fun c => e_cosh x h c)
  | 27, _, _ => nan_rows _ x _ (fun c => e_tanh x h c)
  | 28, _, _ => nan_rows _ x _ (fun c => e_them28 x h c)
  | 29, _, _ => nan_rows _ x _ (fun c => e_acosh x h c)
  | 30, _, _ => nan_rows _ x _ (fun c => e_atanh x h c)
  | 31, _, _ => nan_rows _ x _ (fun c => e_them31 x h c)
  | 32, _, _ => nan_rows _ x _ (fun c => e_rsqrt x h c)
  | n + 33, _, hn => absurd hn (by omega)
theorem rows_same (f x y : Int) (hf : 0 ≤ f) (hx : U x) (hy : U y) : dSpV f x y = spV f x y := by
  unfold dSpV spV
  cases hi : isF f with
  | false =>
    have e : argsV f = 0 := by unfold argsV; rw [hi]; rfl
    rw [e]; rfl
  | true =>
    have hb : 1 ≤ f ∧ f ≤ 36 := by unfold isF at hi; simpa using hi
    by_cases h33 : 33 ≤ f
    · have e : argsV f = 2 := by
        unfold argsV isTwo
        rw [hi, decide_eq_true (show 33 ≤ f ∧ f ≤ 36 by omega)]; rfl
      rw [e]
      show dTwo f x y = spR f x y
      unfold spR linesOf yOf
      rw [if_pos h33, if_pos h33]
      exact two_nan f x y hx hy ⟨h33, hb.2⟩
    · have e : argsV f = 1 := by
        unfold argsV isTwo
        rw [hi, decide_eq_false (show ¬ (33 ≤ f ∧ f ≤ 36) by omega)]; rfl
      rw [e]
      show dOne f x = spR f x y
      unfold spR linesOf yOf
      rw [if_neg h33, if_neg h33]
      obtain ⟨n, rfl⟩ := Int.eq_ofNat_of_zero_le hf
      exact one_same x hx n (by omega) (by omega)
end Go.Proofs.YtkkccnpmcbpdnaaGreatDoor

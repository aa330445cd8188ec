/- The document's rows of special are the program's: plain facts. -/
import Derived.Test.YtkkccnpmcbpdnaaGreatDoorSPZ0
import Derived.Test.YtkkccnpmcbpdnaaGreatDoorRWalks2
namespace Go.Proofs.YtkkccnpmcbpdnaaGreatDoor

theorem one_eq (D : Int → Ro) (L : List Li) (x : Int) (h : U x) (c0 : D 0 = rowsAt L 0 0) (c1 : D 9223372036854775808 = rowsAt L 9223372036854775808 9223372036854775808) (c2 : D 9218868437227405312 = rowsAt L 9218868437227405312 9218868437227405312) (c3 : D 18442240474082181120 = rowsAt L 18442240474082181120 18442240474082181120)
    (hfin : classV x = 2 ∨ classV x = 3 → D x = rowsAt L x x) (hc : classV x ≤ 4) : D x = rowsAt L x x := by
  have := cls_bd x
  rcases (show classV x = 1 ∨ classV x = 2 ∨ classV x = 3 ∨ classV x = 4 by omega) with c | c | c | c
  · rcases zero_of x h c with rfl | rfl
    · exact c0
    · exact c1
  · exact hfin (Or.inl c)
  · exact hfin (Or.inr c)
  · rcases inf_of x h c with rfl | rfl
    · exact c2
    · exact c3
theorem nan_rows (L : List Li) (x : Int) (D : Ro) (hD : classV x ≤ 4 → D = rowsAt L x x) : (if (classV x == 6) = true then (9221120237041090560, 1, 1) else if (classV x == 5) = true then (9221120237041090560, 0, 1) else D) = rowsAt (withN [] L) x x := by
  show _ = (if ((classV x == 6) || (classV x == 6)) = true then ((9221120237041090560, 1, 1) : Ro) else if ((classV x == 5) || (classV x == 5)) = true then (9221120237041090560, 0, 1) else rowsAt L x x)
  rw [Bool.or_self, Bool.or_self]
  have := cls_bd x
  by_cases c6 : (classV x == 6) = true
  · rw [if_pos c6, if_pos c6]
  · rw [if_neg c6, if_neg c6]
    by_cases c5 : (classV x == 5) = true
    · rw [if_pos c5, if_pos c5]
    · rw [if_neg c5, if_neg c5]
      simp only [beq_iff_eq] at c6 c5
      exact hD (by omega)

/-! halves -/
theorem fin_cnt (x : Int) (h : U x) (c : classV x = 2 ∨ classV x = 3) : finB x = true ∧ countV x ≠ 0 ∧ expV x ≤ 2046 := by
  have hf : finB x = true := by rw [fin_cls x h]; simp; omega
  have hb : 0 ≤ expV x ∧ expV x ≤ 2047 := by unfold expV; omega
  refine ⟨hf, ?_, ?_⟩
  · intro e
    unfold countV at e
    have hfr : 0 ≤ fracV x := by unfold fracV; omega
    by_cases e0 : expV x = 0
    · rw [if_pos e0] at e
      unfold classV at c
      rw [if_pos e0, if_pos e] at c
      omega
    · rw [if_neg e0] at e; omega
  · rcases Int.lt_or_le (expV x) 2047 with k | k
    · omega
    · exfalso
      unfold classV at c
      rw [if_neg (by omega), if_neg (by omega)] at c
      revert c
      repeat' split
      all_goals omega
theorem half_same (x y : Int) (h : U x) (c : classV x = 2 ∨ classV x = 3) : tHalf x y = halfB x := by
  obtain ⟨hf, hc, he⟩ := fin_cnt x h c
  have hb : 0 ≤ expV x ∧ 0 ≤ fracV x ∧ fracV x < 4503599627370496 := by unfold expV fracV; omega
  have cb := countV_bd x
  have hlb : lowB x = false := by unfold lowB; simpa using hc
  obtain ⟨cz, q, hk, hq⟩ := tz_spec (countV x) (by omega) (by omega)
  have hlv : lowV x = unitV x + cz := by unfold lowV; rw [if_neg hc, hk]
  have hE : joinE (expV x + 1) (fracV x) = 0 := by unfold joinE; rw [if_neg (by omega)]
  have hV : joinV (sgnB x) (expV x + 1) (fracV x) = (if sgnB x then 9223372036854775808 else 0) + (expV x + 1) * 4503599627370496 + fracV x := by unfold joinV; rw [if_pos hE]
  have hwh : halfB x = (lowV x == -1) := by
    unfold halfB wholeB
    rw [hf, hlb]
    by_cases e : lowV x = -1
    · rw [e]; rfl
    · have : (lowV x == -1) = false := by simpa using e
      rw [this]; simp
  show ((joinE (expV x + 1) (fracV x) == 0) && oddB (joinV (sgnB x) (expV x + 1) (fracV x))) = _
  rw [hE, hwh]
  show oddB _ = _
  generalize hJ : joinV (sgnB x) (expV x + 1) (fracV x) = J at *
  have eJ : expV J = expV x + 1 ∧ fracV J = fracV x := by
    rw [hV]
    unfold expV fracV at *
    cases sgnB x <;> simp only [if_true, Bool.false_eq_true, if_false] <;> omega
  by_cases e0 : expV x = 0
  · have hu : unitV x = -1074 := by unfold unitV; rw [if_pos e0]
    have hcz : cz ≤ 60 := by
      rcases Nat.lt_or_ge 60 cz with k | k
      · exfalso
        have h1 : (2 : Int) ^ 61 ≤ 2 ^ cz := by
          have := Nat.pow_le_pow_right (show 0 < 2 by decide) (show 61 ≤ cz by omega)
          exact_mod_cast this
        have h2 : (2 : Int) ^ cz * 1 ≤ 2 ^ cz * (2 * (q : Int) + 1) := Int.mul_le_mul_of_nonneg_left (by omega) (Int.le_of_lt (Int.pow_pos (by decide)))
        rw [← hq] at h2
        have h3 : (2 : Int) ^ 61 = 2305843009213693952 := by decide
        omega
      · exact k
    have r1 : (lowV x == -1) = false := by simp only [beq_eq_false_iff_ne, ne_eq]; omega
    rw [r1]
    have uJ : unitV J = -1074 := by unfold unitV; rw [if_neg (by omega), eJ.1, e0]; rfl
    have cJ : countV J = fracV x + 4503599627370496 := by unfold countV; rw [if_neg (by omega), eJ.2]
    have cbJ := countV_bd J
    obtain ⟨cj, qj, hkj, hqj⟩ := tz_spec (countV J) (by omega) (by omega)
    have hcj : cj ≤ 60 := by
      rcases Nat.lt_or_ge 60 cj with k | k
      · exfalso
        have h1 : (2 : Int) ^ 61 ≤ 2 ^ cj := by
          have := Nat.pow_le_pow_right (show 0 < 2 by decide) (show 61 ≤ cj by omega)
          exact_mod_cast this
        have h2 : (2 : Int) ^ cj * 1 ≤ 2 ^ cj * (2 * (qj : Int) + 1) := Int.mul_le_mul_of_nonneg_left (by omega) (Int.le_of_lt (Int.pow_pos (by decide)))
        rw [← hqj] at h2
        have h3 : (2 : Int) ^ 61 = 2305843009213693952 := by decide
        omega
      · exact k
    have lJ : lowV J = -1074 + cj := by unfold lowV; rw [if_neg (by omega), hkj, uJ]
    unfold oddB
    have : (lowV J == 0) = false := by simp only [beq_eq_false_iff_ne, ne_eq]; omega
    rw [this]; simp
  · have hu : unitV x = expV x - 1075 := by unfold unitV; rw [if_neg e0]
    have uJ : unitV J = expV x + 1 - 1075 := by unfold unitV; rw [if_neg (by omega), eJ.1]
    have cJ : countV J = countV x := by unfold countV; rw [if_neg (by omega), if_neg e0, eJ.2]
    have lbJ : lowB J = false := by unfold lowB; rw [cJ]; simpa using hc
    have lJ : lowV J = expV x + 1 - 1075 + cz := by unfold lowV; rw [cJ, if_neg hc, hk, uJ]
    unfold oddB
    rw [lbJ]
    by_cases e46 : expV x = 2046
    · have fJ : finB J = false := by
        have e2 : expV J = 2047 := by omega
        have := Int.emod_nonneg J (show (4503599627370496 : Int) ≠ 0 by decide)
        unfold expV at e2
        unfold finB
        simp only [decide_eq_false_iff_not]
        omega
      rw [fJ]
      have r1 : (lowV x == -1) = false := by simp only [beq_eq_false_iff_ne, ne_eq]; omega
      rw [r1]; rfl
    · have fJ : finB J = true := by
        have e2 : expV J = expV x + 1 := eJ.1
        unfold expV at e2
        unfold finB
        simp only [decide_eq_true_eq]
        unfold expV at e46 he e0 hb
        omega
      rw [fJ, Bool.eq_iff_iff]
      simp only [Bool.true_and, Bool.not_false, beq_iff_eq]
      omega

theorem cut_count (x : Int) (_h : U x) (n : Nat) (hn : n ≤ 52) (e0 : expV x ≠ 0) : expV (x / 2 ^ n * 2 ^ n) = expV x ∧ fracV (x / 2 ^ n * 2 ^ n) = fracV x / 2 ^ n * 2 ^ n ∧ countV (x / 2 ^ n * 2 ^ n) = countV x / 2 ^ n * 2 ^ n := by
  obtain ⟨m, hm⟩ : ∃ m, 52 = n + m := ⟨52 - n, by omega⟩
  have hp : (4503599627370496 : Int) = 2 ^ n * 2 ^ m := by rw [← Int.pow_add, ← hm]; decide
  have hpos : (0 : Int) < 2 ^ n := Int.pow_pos (by decide)
  have hdx : x = x / 4503599627370496 * 4503599627370496 + fracV x := by unfold fracV; omega
  have hfr : 0 ≤ fracV x ∧ fracV x < 4503599627370496 := by unfold fracV; omega
  have hcut : x / 2 ^ n * 2 ^ n = x / 4503599627370496 * 4503599627370496 + fracV x / 2 ^ n * 2 ^ n := by
    have k : x / 2 ^ n = x / 4503599627370496 * 2 ^ m + fracV x / 2 ^ n := by
      have e : x = fracV x + (x / 4503599627370496 * 2 ^ m) * 2 ^ n := by
        rw [Int.mul_assoc, Int.mul_comm (2 ^ m), ← hp]; omega
      have k2 : (fracV x + (x / 4503599627370496 * 2 ^ m) * 2 ^ n) / 2 ^ n = fracV x / 2 ^ n + x / 4503599627370496 * 2 ^ m := Int.add_mul_ediv_right _ _ (Int.ne_of_gt hpos)
      rw [← e] at k2
      omega
    rw [k, Int.add_mul, Int.mul_assoc, Int.mul_comm (2 ^ m), ← hp]
  have hb0 : 0 ≤ fracV x / 2 ^ n * 2 ^ n := Int.mul_nonneg (Int.ediv_nonneg hfr.1 (Int.le_of_lt hpos)) (Int.le_of_lt hpos)
  have hb1 : fracV x / 2 ^ n * 2 ^ n ≤ fracV x := Int.ediv_mul_le _ (Int.ne_of_gt hpos)
  have hcnt : (fracV x + 4503599627370496) / 2 ^ n * 2 ^ n = fracV x / 2 ^ n * 2 ^ n + 4503599627370496 := by
    have k3 : (fracV x + 2 ^ m * 2 ^ n) / 2 ^ n = fracV x / 2 ^ n + 2 ^ m := Int.add_mul_ediv_right _ _ (Int.ne_of_gt hpos)
    rw [show (4503599627370496 : Int) = 2 ^ m * 2 ^ n by rw [hp, Int.mul_comm], k3, Int.add_mul]
  generalize fracV x / 2 ^ n * 2 ^ n = G at *
  rw [hcut]
  have e1 : expV (x / 4503599627370496 * 4503599627370496 + G) = expV x := by unfold expV; omega
  have e2 : fracV (x / 4503599627370496 * 4503599627370496 + G) = G := by unfold fracV; omega
  refine ⟨e1, e2, ?_⟩
  unfold countV
  rw [e1, e2, if_neg e0, if_neg e0, hcnt]
theorem exp_of_unit (x : Int) (h : -52 ≤ unitV x) : expV x ≠ 0 := by
  intro e
  unfold unitV at h
  rw [if_pos e] at h
  omega
/-- the part ahead of the point: its oddness by the count -/
theorem oddPart_in (x y : Int) (_h : U x) (hf : finB x = true) (h1 : -52 ≤ unitV x) (h2 : unitV x < 0) : tOddPart x y = oddB (x / 2 ^ (-unitV x).toNat * 2 ^ (-unitV x).toNat) := by
  have hl : lastV x = unitV x := by unfold lastV; rw [hf]; rfl
  have he : lastE x = 0 := by unfold lastE; rw [hf]; rfl
  unfold tOddPart cutX
  rw [hl, he]
  rw [if_neg (by simp; omega), if_pos h2]
theorem cut_odd (x : Int) (h : U x) (hf : finB x = true) (h1 : -52 ≤ unitV x) (h2 : unitV x < 0) : oddB (x / 2 ^ (-unitV x).toNat * 2 ^ (-unitV x).toNat) = decide (countV x / 2 ^ (-unitV x).toNat % 2 = 1) := by
  obtain ⟨n, hn⟩ : ∃ n : Nat, (-unitV x).toNat = n := ⟨_, rfl⟩
  rw [hn]
  have e0 := exp_of_unit x h1
  obtain ⟨c1, c2, c3⟩ := cut_count x h n (by omega) e0
  generalize hX : x / 2 ^ n * 2 ^ n = X at *
  have hpos : (0 : Int) < 2 ^ n := Int.pow_pos (by decide)
  have uX : unitV X = unitV x := by unfold unitV; rw [c1]
  have cb := countV_bd x
  have hge : 4503599627370496 ≤ countV x := by
    unfold countV; rw [if_neg e0]
    have : 0 ≤ fracV x := by unfold fracV; omega
    omega
  have fX : finB X = true := by
    have hfx := hf
    unfold finB at hfx ⊢
    simp only [decide_eq_true_eq] at hfx ⊢
    have hx : expV x < 2047 := by unfold expV; unfold U at h; omega
    have hxx : expV X < 2047 := by rw [c1]; exact hx
    have hX0 : 0 ≤ X ∧ X ≤ 18446744073709551615 := by
      rw [← hX]
      exact ⟨Int.mul_nonneg (Int.ediv_nonneg h.1 (Int.le_of_lt hpos)) (Int.le_of_lt hpos), Int.le_trans (Int.ediv_mul_le _ (Int.ne_of_gt hpos)) h.2⟩
    unfold expV at hxx
    omega
  have hd1 : 1 ≤ countV x / 2 ^ n := by
    have : (2 : Int) ^ n ≤ 2 ^ 52 := by
      have := Nat.pow_le_pow_right (show 0 < 2 by decide) (show n ≤ 52 by omega)
      exact_mod_cast this
    have e52 : (2 : Int) ^ 52 = 4503599627370496 := by decide
    exact (Int.le_ediv_iff_mul_le hpos).2 (by omega)
  have o := odd_end X (countV x / 2 ^ n) n c3.symm fX (by rw [uX]; omega)
  rw [← o, uX, show unitV x + (n : Int) = 0 by omega]
  rw [Bool.eq_iff_iff]; simp
theorem whole_odd (x y : Int) (h : U x) (c : classV x = 2 ∨ classV x = 3) (hw : wholeB x = true) : tOddPart x y = oddB x := by
  obtain ⟨hf, hc, _⟩ := fin_cnt x h c
  have cb := countV_bd x
  have hl : lastV x = unitV x := by unfold lastV; rw [hf]; rfl
  have he : lastE x = 0 := by unfold lastE; rw [hf]; rfl
  obtain ⟨cz, q, hk, hq⟩ := tz_spec (countV x) (by omega) (by omega)
  have hlv : lowV x = unitV x + cz := by unfold lowV; rw [if_neg hc, hk]
  have hlb : lowB x = false := by unfold lowB; simpa using hc
  have hge : 0 ≤ unitV x + cz := by
    unfold wholeB at hw
    rw [hf, hlb, hlv] at hw
    simpa using hw
  have hcz : cz ≤ 52 := by
    rcases Nat.lt_or_ge 52 cz with k | k
    · exfalso
      have h1 : (2 : Int) ^ 53 ≤ 2 ^ cz := by
        have := Nat.pow_le_pow_right (show 0 < 2 by decide) (show 53 ≤ cz by omega)
        exact_mod_cast this
      have h2 : (2 : Int) ^ cz * 1 ≤ 2 ^ cz * (2 * (q : Int) + 1) := Int.mul_le_mul_of_nonneg_left (by omega) (Int.le_of_lt (Int.pow_pos (by decide)))
      rw [← hq] at h2
      have h3 : (2 : Int) ^ 53 = 9007199254740992 := by decide
      omega
    · exact k
  by_cases hu : unitV x < 0
  · rw [oddPart_in x y h hf (by omega) hu, cut_odd x h hf (by omega) hu]
    obtain ⟨n, hn⟩ : ∃ n : Nat, (-unitV x).toNat = n := ⟨_, rfl⟩
    rw [hn]
    obtain ⟨d, hd⟩ : ∃ d, cz = n + d := ⟨cz - n, by omega⟩
    have hdiv : countV x / 2 ^ n * 2 ^ n = countV x := by
      have e : countV x = (2 ^ d * (2 * (q : Int) + 1)) * 2 ^ n := by rw [hq, hd, Int.pow_add]; simp only [Int.mul_comm, Int.mul_left_comm]
      rw [e, Int.mul_ediv_cancel _ (Int.ne_of_gt (Int.pow_pos (by decide)))]
    have o := odd_end x (countV x / 2 ^ n) n hdiv hf (by omega)
    rw [← o, show unitV x + (n : Int) = 0 by omega]
    rw [Bool.eq_iff_iff]; simp
  · unfold tOddPart
    rw [hl, he, if_neg (by simp; omega), if_neg hu]
theorem half_odd (x y : Int) (h : U x) (c : classV x = 2 ∨ classV x = 3) (hh : halfB x = true) : tOddPart x y = oddH x := by
  obtain ⟨hf, hc, _⟩ := fin_cnt x h c
  have cb := countV_bd x
  have hl : lastV x = unitV x := by unfold lastV; rw [hf]; rfl
  have he : lastE x = 0 := by unfold lastE; rw [hf]; rfl
  obtain ⟨cz, q, hk, hq⟩ := tz_spec (countV x) (by omega) (by omega)
  have hlv : lowV x = unitV x + cz := by unfold lowV; rw [if_neg hc, hk]
  have hm1 : unitV x + cz = -1 := by
    unfold halfB at hh
    rw [hlv] at hh
    simp at hh
    omega
  have hoh : oddH x = decide ((2 * (q : Int) + 1) % 4 = 3) := by
    unfold oddH
    rw [hk, Int.toNat_natCast]
    have e : countV x / 2 ^ cz = 2 * q + 1 := by
      rw [hq, Int.mul_ediv_cancel_left _ (Int.ne_of_gt (Int.pow_pos (by decide)))]
    rw [e]
  have hcz : cz ≤ 52 := by
    rcases Nat.lt_or_ge 52 cz with k | k
    · exfalso
      have h1 : (2 : Int) ^ 53 ≤ 2 ^ cz := by
        have := Nat.pow_le_pow_right (show 0 < 2 by decide) (show 53 ≤ cz by omega)
        exact_mod_cast this
      have h2 : (2 : Int) ^ cz * 1 ≤ 2 ^ cz * (2 * (q : Int) + 1) := Int.mul_le_mul_of_nonneg_left (by omega) (Int.le_of_lt (Int.pow_pos (by decide)))
      rw [← hq] at h2
      have h3 : (2 : Int) ^ 53 = 9007199254740992 := by decide
      omega
    · exact k
  rw [hoh]
  by_cases hu : unitV x < -52
  · have hcz2 : cz = 52 := by omega
    have hq0 : (q : Int) = 0 := by
      rw [hcz2] at hq
      have e52 : (2 : Int) ^ 52 = 4503599627370496 := by decide
      rw [e52] at hq
      omega
    unfold tOddPart
    rw [hl, he, if_pos (by simp; omega), hq0]
    rfl
  · rw [oddPart_in x y h hf (by omega) (by omega), cut_odd x h hf (by omega) (by omega)]
    have hn : (-unitV x).toNat = cz + 1 := by omega
    rw [hn]
    have e : countV x / 2 ^ (cz + 1) = q := by
      rw [hq, Int.pow_succ, Int.mul_ediv_mul_of_pos _ _ (Int.pow_pos (by decide))]
      omega
    rw [e, Bool.eq_iff_iff]
    simp only [decide_eq_true_eq]
    omega

theorem e_exp (x : Int) (h : U x) (hc : classV x ≤ 4) : (fun x => dExps x false) x = rowsAt lExp x x := by
  refine one_eq (fun x => dExps x false) lExp x h (by decide +kernel) (by decide +kernel) (by decide +kernel) (by decide +kernel) (fun c => ?_) hc
  obtain ⟨g1, g4, g5, g6, gi, gm⟩ := fin_facts x h c
  simp [dExps, rowsAt, lExp, tZero, tIs, aTold, g1, gi, gm]
theorem e_expm1 (x : Int) (h : U x) (hc : classV x ≤ 4) : (fun x => dExps x true) x = rowsAt lExpm1 x x := by
  refine one_eq (fun x => dExps x true) lExpm1 x h (by decide +kernel) (by decide +kernel) (by decide +kernel) (by decide +kernel) (fun c => ?_) hc
  obtain ⟨g1, g4, g5, g6, gi, gm⟩ := fin_facts x h c
  simp [dExps, rowsAt, lExpm1, tZero, tIs, aTold, g1, gi, gm]
theorem e_log (x : Int) (h : U x) (hc : classV x ≤ 4) : (fun x => dLogs x false) x = rowsAt lLog x x := by
  refine one_eq (fun x => dLogs x false) lLog x h (by decide +kernel) (by decide +kernel) (by decide +kernel) (by decide +kernel) (fun c => ?_) hc
  obtain ⟨g1, g4, g5, g6, gi, gm⟩ := fin_facts x h c
  simp [dLogs, rowsAt, lLog, tZero, tIs, tBelow, aTold, aPole, aAlways, aOutside, rE, rD, g1, gi]
theorem e_log1p (x : Int) (h : U x) (hc : classV x ≤ 4) : (fun x => dLogs x true) x = rowsAt lLog1p x x := by
  refine one_eq (fun x => dLogs x true) lLog1p x h (by decide +kernel) (by decide +kernel) (by decide +kernel) (by decide +kernel) (fun c => ?_) hc
  obtain ⟨g1, g4, g5, g6, gi, gm⟩ := fin_facts x h c
  simp [dLogs, rowsAt, lLog1p, tZero, tIs, tBelow, aPole, aAlways, aOutside, rD, rP, g1, gi]
theorem e_sin13 (x : Int) (h : U x) (hc : classV x ≤ 4) : (dTurns 13) x = rowsAt lSin x x := by
  refine one_eq (dTurns 13) lSin x h (by decide +kernel) (by decide +kernel) (by decide +kernel) (by decide +kernel) (fun c => ?_) hc
  obtain ⟨g1, g4, g5, g6, gi, gm⟩ := fin_facts x h c
  simp [dTurns, rowsAt, lSin, tZero, tInf, aOutside, g1, g4]
theorem e_sin15 (x : Int) (h : U x) (hc : classV x ≤ 4) : (dTurns 15) x = rowsAt lSin x x := by
  refine one_eq (dTurns 15) lSin x h (by decide +kernel) (by decide +kernel) (by decide +kernel) (by decide +kernel) (fun c => ?_) hc
  obtain ⟨g1, g4, g5, g6, gi, gm⟩ := fin_facts x h c
  simp [dTurns, rowsAt, lSin, tZero, tInf, aOutside, g1, g4]
theorem e_cos (x : Int) (h : U x) (hc : classV x ≤ 4) : (dTurns 14) x = rowsAt lCos x x := by
  refine one_eq (dTurns 14) lCos x h (by decide +kernel) (by decide +kernel) (by decide +kernel) (by decide +kernel) (fun c => ?_) hc
  obtain ⟨g1, g4, g5, g6, gi, gm⟩ := fin_facts x h c
  simp [dTurns, rowsAt, lCos, tZero, tInf, aTold, aOutside, g1, g4]
theorem e_sinpi (x : Int) (h : U x) (hc : classV x ≤ 4) : (dHalves 16) x = rowsAt lSinpi x x := by
  refine one_eq (dHalves 16) lSinpi x h (by decide +kernel) (by decide +kernel) (by decide +kernel) (by decide +kernel) (fun c => ?_) hc
  obtain ⟨g1, g4, g5, g6, gi, gm⟩ := fin_facts x h c
  have ht := sgz_turn x
  simp [dHalves, ht, rowsAt, lSinpi, tInf, tWhole, tMinus, aTold, aAlways, aOutside, aSigned, aTurned, rE, g4]
theorem e_cospi (x : Int) (h : U x) (hc : classV x ≤ 4) : (dHalves 17) x = rowsAt lCospi x x := by
  refine one_eq (dHalves 17) lCospi x h (by decide +kernel) (by decide +kernel) (by decide +kernel) (by decide +kernel) (fun c => ?_) hc
  obtain ⟨g1, g4, g5, g6, gi, gm⟩ := fin_facts x h c
  have hh := half_same x x h c
  simp [dHalves, hh, rowsAt, lCospi, tInf, aTold, aAlways, aOutside, rE, g4]
theorem e_asin19 (x : Int) (h : U x) (hc : classV x ≤ 4) : (dInverse 19) x = rowsAt lAsin x x := by
  refine one_eq (dInverse 19) lAsin x h (by decide +kernel) (by decide +kernel) (by decide +kernel) (by decide +kernel) (fun c => ?_) hc
  obtain ⟨g1, g4, g5, g6, gi, gm⟩ := fin_facts x h c
  simp [dInverse, rowsAt, lAsin, tZero, tBeyond, aAlways, aOutside, rD, g1, g4]
  rfl
theorem e_asin22 (x : Int) (h : U x) (hc : classV x ≤ 4) : (dInverse 22) x = rowsAt lAsin x x := by
  refine one_eq (dInverse 22) lAsin x h (by decide +kernel) (by decide +kernel) (by decide +kernel) (by decide +kernel) (fun c => ?_) hc
  obtain ⟨g1, g4, g5, g6, gi, gm⟩ := fin_facts x h c
  simp [dInverse, rowsAt, lAsin, tZero, tBeyond, aAlways, aOutside, rD, g1, g4]
  rfl
theorem e_acos20 (x : Int) (h : U x) (hc : classV x ≤ 4) : (dInverse 20) x = rowsAt lAcos x x := by
  refine one_eq (dInverse 20) lAcos x h (by decide +kernel) (by decide +kernel) (by decide +kernel) (by decide +kernel) (fun c => ?_) hc
  obtain ⟨g1, g4, g5, g6, gi, gm⟩ := fin_facts x h c
  simp [dInverse, rowsAt, lAcos, tIs, tBeyond, aTold, aAlways, aOutside, rE, rD, g1, g4]
  rfl
theorem e_acos23 (x : Int) (h : U x) (hc : classV x ≤ 4) : (dInverse 23) x = rowsAt lAcos x x := by
  refine one_eq (dInverse 23) lAcos x h (by decide +kernel) (by decide +kernel) (by decide +kernel) (by decide +kernel) (fun c => ?_) hc
  obtain ⟨g1, g4, g5, g6, gi, gm⟩ := fin_facts x h c
  simp [dInverse, rowsAt, lAcos, tIs, tBeyond, aTold, aAlways, aOutside, rE, rD, g1, g4]
  rfl
theorem e_atan (x : Int) (h : U x) (hc : classV x ≤ 4) : (dInverse 21) x = rowsAt lAtan x x := by
  refine one_eq (dInverse 21) lAtan x h (by decide +kernel) (by decide +kernel) (by decide +kernel) (by decide +kernel) (fun c => ?_) hc
  obtain ⟨g1, g4, g5, g6, gi, gm⟩ := fin_facts x h c
  simp [dInverse, rowsAt, lAtan, tZero, tInf, aLimit, aSigned, g1, g4]
theorem e_atanpi (x : Int) (h : U x) (hc : classV x ≤ 4) : (dInverse 24) x = rowsAt lAtanpi x x := by
  refine one_eq (dInverse 24) lAtanpi x h (by decide +kernel) (by decide +kernel) (by decide +kernel) (by decide +kernel) (fun c => ?_) hc
  obtain ⟨g1, g4, g5, g6, gi, gm⟩ := fin_facts x h c
  simp [dInverse, rowsAt, lAtanpi, tZero, tInf, aTold, aSigned, g1, g4]
theorem e_them25 (x : Int) (h : U x) (hc : classV x ≤ 4) : (dHypers 25) x = rowsAt lThem x x := by
  refine one_eq (dHypers 25) lThem x h (by decide +kernel) (by decide +kernel) (by decide +kernel) (by decide +kernel) (fun c => ?_) hc
  obtain ⟨g1, g4, g5, g6, gi, gm⟩ := fin_facts x h c
  simp [dHypers, rowsAt, lThem, tZero, tInf, g1, g4]
theorem e_them28 (x : Int) (h : U x) (hc : classV x ≤ 4) : (dHypers 28) x = rowsAt lThem x x := by
  refine one_eq (dHypers 28) lThem x h (by decide +kernel) (by decide +kernel) (by decide +kernel) (by decide +kernel) (fun c => ?_) hc
  obtain ⟨g1, g4, g5, g6, gi, gm⟩ := fin_facts x h c
  simp [dHypers, rowsAt, lThem, tZero, tInf, g1, g4]
theorem e_them31 (x : Int) (h : U x) (hc : classV x ≤ 4) : (dHypers 31) x = rowsAt lThem x x := by
  refine one_eq (dHypers 31) lThem x h (by decide +kernel) (by decide +kernel) (by decide +kernel) (by decide +kernel) (fun c => ?_) hc
  obtain ⟨g1, g4, g5, g6, gi, gm⟩ := fin_facts x h c
  simp [dHypers, rowsAt, lThem, tZero, tInf, g1, g4]
theorem e_cosh (x : Int) (h : U x) (hc : classV x ≤ 4) : (dHypers 26) x = rowsAt lCosh x x := by
  refine one_eq (dHypers 26) lCosh x h (by decide +kernel) (by decide +kernel) (by decide +kernel) (by decide +kernel) (fun c => ?_) hc
  obtain ⟨g1, g4, g5, g6, gi, gm⟩ := fin_facts x h c
  simp [dHypers, rowsAt, lCosh, tZero, tInf, aTold, g1, g4]
theorem e_tanh (x : Int) (h : U x) (hc : classV x ≤ 4) : (dHypers 27) x = rowsAt lTanh x x := by
  refine one_eq (dHypers 27) lTanh x h (by decide +kernel) (by decide +kernel) (by decide +kernel) (by decide +kernel) (fun c => ?_) hc
  obtain ⟨g1, g4, g5, g6, gi, gm⟩ := fin_facts x h c
  simp [dHypers, rowsAt, lTanh, tZero, tInf, aTold, aSigned, g1, g4]
theorem e_acosh (x : Int) (h : U x) (hc : classV x ≤ 4) : (dHypers 29) x = rowsAt lAcosh x x := by
  refine one_eq (dHypers 29) lAcosh x h (by decide +kernel) (by decide +kernel) (by decide +kernel) (by decide +kernel) (fun c => ?_) hc
  obtain ⟨g1, g4, g5, g6, gi, gm⟩ := fin_facts x h c
  simp [dHypers, rowsAt, lAcosh, tIs, tBelow, aTold, aAlways, aOutside, rE, rD, gi]
theorem e_rsqrt (x : Int) (h : U x) (hc : classV x ≤ 4) : (dOthers 32) x = rowsAt lRsqrt x x := by
  refine one_eq (dOthers 32) lRsqrt x h (by decide +kernel) (by decide +kernel) (by decide +kernel) (by decide +kernel) (fun c => ?_) hc
  obtain ⟨g1, g4, g5, g6, gi, gm⟩ := fin_facts x h c
  have hl := less_zero x h c
  simp [dOthers, hl, rowsAt, lRsqrt, tZero, tIs, tBelow, aTold, aPole, aAlways, aOutside, aSigned, rD, g1, gi]
end Go.Proofs.YtkkccnpmcbpdnaaGreatDoor

/- What special's rows are on the other side of 0, turned, and which flags go with them: plain facts. -/
import Derived.Test.YtkkccnpmcbpdnaaGreatDoorSP0
namespace Go.Proofs.YtkkccnpmcbpdnaaGreatDoor

theorem n_class (x : Int) (_h : U x) : classV (negV x) = classV x := by
  have e1 : expV (negV x) = expV x := by unfold expV negV U at *; omega
  have e2 : fracV (negV x) = fracV x := by unfold fracV negV U at *; omega
  unfold classV
  rw [e1, e2]
theorem n_exp (x : Int) (_h : U x) : expV (negV x) = expV x := by unfold expV negV U at *; omega
theorem n_frac (x : Int) (_h : U x) : fracV (negV x) = fracV x := by unfold fracV negV U at *; omega
theorem n_abs (x : Int) (_h : U x) : absV (negV x) = absV x := by unfold absV negV U at *; omega
theorem n_sgn (x : Int) (h : U x) : sgnB (negV x) = !sgnB x := by
  unfold sgnB negV U at *
  by_cases c : 9223372036854775808 ≤ x
  · rw [decide_eq_true c, decide_eq_false (by omega)]; rfl
  · rw [decide_eq_false c, decide_eq_true (by omega)]; rfl
theorem n_neg (x : Int) (h : U x) : negV (negV x) = x := by unfold negV U at *; omega
theorem n_fin (x : Int) (h : U x) : finB (negV x) = finB x := by
  have := n_abs x h
  unfold absV at this
  unfold finB
  rw [this]
theorem n_unit (x : Int) (h : U x) : unitV (negV x) = unitV x := by unfold unitV; rw [n_exp x h]
theorem n_count (x : Int) (h : U x) : countV (negV x) = countV x := by unfold countV; rw [n_exp x h, n_frac x h]
theorem n_lowV (x : Int) (h : U x) : lowV (negV x) = lowV x := by unfold lowV; rw [n_count x h, n_unit x h]
theorem n_lowB (x : Int) (h : U x) : lowB (negV x) = lowB x := by unfold lowB; rw [n_count x h]
theorem n_whole (x : Int) (h : U x) : wholeB (negV x) = wholeB x := by unfold wholeB; rw [n_fin x h, n_lowB x h, n_lowV x h]
theorem n_odd (x : Int) (h : U x) : oddB (negV x) = oddB x := by unfold oddB; rw [n_fin x h, n_lowB x h, n_lowV x h]
theorem n_lastV (x : Int) (h : U x) : lastV (negV x) = lastV x := by unfold lastV; rw [n_fin x h, n_unit x h]
theorem n_lastE (x : Int) (h : U x) : lastE (negV x) = lastE x := by unfold lastE; rw [n_fin x h]
theorem join_neg (e f : Int) (h0 : 0 ≤ f) : joinE e f = 0 → joinV true e f = negV (joinV false e f) ∧ U (joinV false e f) := by
  intro hj
  have hc : ¬ (e < 0 ∨ 2047 < e ∨ 4503599627370495 < f) := by intro c; unfold joinE at hj; rw [if_pos c] at hj; omega
  unfold joinV negV U
  rw [if_pos hj, if_pos hj]
  simp
  omega
theorem n_half (x y x' y' : Int) (h : U x) (hx : x' = negV x) : tHalf x y = tHalf x' y' := by
  subst hx
  unfold tHalf
  rw [n_exp x h, n_frac x h, n_sgn x h]
  by_cases hj : joinE (expV x + 1) (fracV x) = 0
  · obtain ⟨e1, e2⟩ := join_neg (expV x + 1) (fracV x) (by unfold fracV; omega) hj
    have e3 := n_odd _ e2
    rw [← e1] at e3
    cases sgnB x
    · rw [show (!false) = true from rfl, e3]
    · rw [show (!true) = false from rfl, e3]
  · have : (joinE (expV x + 1) (fracV x) == 0) = false := by simpa using hj
    rw [this]; rfl
theorem cut_pow (x : Int) (n : Nat) (hn : n ≤ 63) (h : U x) : negV x / 2 ^ n * 2 ^ n = negV (x / 2 ^ n * 2 ^ n) := by
  obtain ⟨m, hm⟩ : ∃ m, 63 = n + m := ⟨63 - n, by omega⟩
  have hp : (9223372036854775808 : Int) = 2 ^ n * 2 ^ m := by
    rw [← Int.pow_add, ← hm]; decide
  have hpos : (0 : Int) < 2 ^ n := Int.pow_pos (by decide)
  have h0 : 0 ≤ x / 2 ^ n * 2 ^ n := Int.mul_nonneg (Int.ediv_nonneg h.1 (Int.le_of_lt hpos)) (Int.le_of_lt hpos)
  have h1 : x / 2 ^ n * 2 ^ n ≤ x := Int.ediv_mul_le _ (Int.ne_of_gt hpos)
  have h2 := h.2
  have h3 := h.1
  by_cases c : 9223372036854775808 ≤ x
  · have e : negV x = x - 9223372036854775808 := by unfold negV; omega
    have k : (x - 9223372036854775808) / 2 ^ n = x / 2 ^ n - 2 ^ m := by
      rw [hp, show x - 2 ^ n * 2 ^ m = x + (-(2 ^ m)) * 2 ^ n by rw [Int.neg_mul, Int.mul_comm (2 ^ m)]; omega, Int.add_mul_ediv_right _ _ (Int.ne_of_gt hpos)]
      omega
    have k2 : (x / 2 ^ n - 2 ^ m) * 2 ^ n = x / 2 ^ n * 2 ^ n - 9223372036854775808 := by
      rw [Int.sub_mul, hp, Int.mul_comm (2 ^ m)]
    have k3 : 9223372036854775808 ≤ x / 2 ^ n * 2 ^ n := by
      have : 2 ^ m ≤ x / 2 ^ n := (Int.le_ediv_iff_mul_le hpos).2 (by rw [Int.mul_comm, ← hp]; exact c)
      calc (9223372036854775808 : Int) = 2 ^ m * 2 ^ n := by rw [hp, Int.mul_comm]
        _ ≤ x / 2 ^ n * 2 ^ n := Int.mul_le_mul_of_nonneg_right this (Int.le_of_lt hpos)
    rw [e, k, k2]
    unfold negV
    omega
  · have e : negV x = x + 9223372036854775808 := by unfold negV; omega
    have k : (x + 9223372036854775808) / 2 ^ n = x / 2 ^ n + 2 ^ m := by
      rw [hp, show x + 2 ^ n * 2 ^ m = x + (2 ^ m) * 2 ^ n by rw [Int.mul_comm (2 ^ m)], Int.add_mul_ediv_right _ _ (Int.ne_of_gt hpos)]
    have k2 : (x / 2 ^ n + 2 ^ m) * 2 ^ n = x / 2 ^ n * 2 ^ n + 9223372036854775808 := by
      rw [Int.add_mul, hp, Int.mul_comm (2 ^ m)]
    rw [e, k, k2]
    unfold negV
    omega
theorem n_oddPart (x y x' y' : Int) (h : U x) (hx : x' = negV x) : tOddPart x y = tOddPart x' y' := by
  subst hx
  unfold tOddPart
  rw [n_lastE x h, n_lastV x h]
  split
  · rfl
  · rename_i hc
    split
    · rename_i hl
      have hj : -52 ≤ lastV x := by
        simp only [Bool.or_eq_true, Bool.not_eq_true', decide_eq_true_eq, not_or] at hc
        omega
      have e : cutX (negV x) = negV (cutX x) := by
        unfold cutX
        rw [n_lastV x h]
        exact cut_pow x _ (by omega) h
      have hu : U (cutX x) := by
        unfold cutX
        exact ⟨Int.mul_nonneg (Int.ediv_nonneg h.1 (Int.le_of_lt (Int.pow_pos (by decide)))) (Int.le_of_lt (Int.pow_pos (by decide))), Int.le_trans (Int.ediv_mul_le _ (Int.ne_of_gt (Int.pow_pos (by decide)))) h.2⟩
      rw [e, n_odd _ hu]
    · rw [n_odd x h]

/-- rows side by side -/
def LRel (Rel : Ro → Ro → Prop) (x y x' y' : Int) : List Li → Prop
  | [] => Rel (0, 0, 0) (0, 0, 0)
  | l :: ls => l.1 x y = l.1 x' y' ∧ (l.1 x y = true → Rel (l.2 x y) (l.2 x' y')) ∧ LRel Rel x y x' y' ls
theorem LRel.rows {Rel : Ro → Ro → Prop} {x y x' y' : Int} : ∀ {ls : List Li}, LRel Rel x y x' y' ls → Rel (rowsAt ls x y) (rowsAt ls x' y')
  | [], h => h
  | l :: ls, h => by
    unfold rowsAt
    rw [← h.1]
    cases hc : l.1 x y with
    | true => exact h.2.1 hc
    | false => exact LRel.rows h.2.2

/-- an odd function's row on the other side of 0 -/
def OddR (R S : Ro) : Prop := R.2 = S.2 ∧ ((R.2.2 = 0 ∨ R.1 = 9221120237041090560) → R.1 = S.1) ∧ (¬ (R.2.2 = 0 ∨ R.1 = 9221120237041090560) → R.1 = negV S.1)
/-- an angle's below -/
def TurnR (R S : Ro) : Prop := R.2 = S.2 ∧ ((R.2.2 = 0 ∨ R.2.2 = 1) → R.1 = S.1) ∧ (¬ (R.2.2 = 0 ∨ R.2.2 = 1) → R.1 = negV S.1)
theorem odd_nil : OddR (0, 0, 0) (0, 0, 0) := ⟨rfl, fun _ => rfl, fun h => absurd (Or.inl rfl) h⟩
theorem odd_nan (f k : Int) : OddR (9221120237041090560, f, k) (9221120237041090560, f, k) := ⟨rfl, fun _ => rfl, fun h => absurd (Or.inr rfl) h⟩
theorem class_nan : classV 9221120237041090560 = 5 := by decide
theorem odd_self (x : Int) (h : U x) (hc : classV x ≠ 5) : OddR (x, 0, 4) (negV x, 0, 4) :=
  ⟨rfl, fun hh => by
    rcases hh with e | e
    · exact absurd (show (4 : Int) = 0 from e) (by decide)
    · simp only at e; subst e; exact absurd class_nan hc, fun _ => (n_neg x h).symm⟩
theorem odd_turn (s : Bool) (b f k : Int) (h : U b) (h1 : b ≠ 9221120237041090560) (h2 : negV b ≠ 9221120237041090560) (hk : k ≠ 0) : OddR (turnR s (b, f, k)) (turnR (!s) (b, f, k)) := by
  cases s
  · exact ⟨rfl, fun hh => by
      rcases hh with e | e
      · exact absurd e hk
      · exact absurd e h1, fun _ => (n_neg b h).symm⟩
  · exact ⟨rfl, fun hh => by
      rcases hh with e | e
      · exact absurd e hk
      · exact absurd e h2, fun _ => rfl⟩
theorem turn_nil : TurnR (0, 0, 0) (0, 0, 0) := ⟨rfl, fun _ => rfl, fun h => absurd (Or.inl rfl) h⟩
theorem turn_nan (f : Int) : TurnR (9221120237041090560, f, 1) (9221120237041090560, f, 1) := ⟨rfl, fun _ => rfl, fun h => absurd (Or.inr rfl) h⟩
theorem turn_self (x : Int) (h : U x) : TurnR (x, 0, 4) (negV x, 0, 4) := ⟨rfl, fun hh => by
    rcases hh with e | e
    · exact absurd (show (4 : Int) = 0 from e) (by decide)
    · exact absurd (show (4 : Int) = 1 from e) (by decide), fun _ => (n_neg x h).symm⟩
theorem turn_turn (s : Bool) (b f k : Int) (h : U b) (hk : k ≠ 0) (hk1 : k ≠ 1) : TurnR (turnR s (b, f, k)) (turnR (!s) (b, f, k)) := by
  cases s
  · exact ⟨rfl, fun hh => by
      rcases hh with e | e
      · exact absurd e hk
      · exact absurd e hk1, fun _ => (n_neg b h).symm⟩
  · exact ⟨rfl, fun hh => by
      rcases hh with e | e
      · exact absurd e hk
      · exact absurd e hk1, fun _ => rfl⟩
theorem beyond_e (x : Int) (h : U x) : tBeyond x x = tBeyond (negV x) (negV x) := by
  show lessB _ (absV x) = lessB _ (absV (negV x))
  rw [n_abs x h]
theorem whole_e (x : Int) (h : U x) : tWhole x x = tWhole (negV x) (negV x) := (n_whole x h).symm
theorem e2 (c x y : Int) (h : U x) : ((classV x == c) || (classV y == c)) = ((classV (negV x) == c) || (classV y == c)) := by rw [n_class x h]
theorem sig_e (x : Int) (h : U x) : tEither tSignal x x = tEither tSignal (negV x) (negV x) := by
  show ((classV x == 6) || (classV x == 6)) = ((classV (negV x) == 6) || (classV (negV x) == 6))
  rw [n_class x h]
theorem qui_e (x : Int) (h : U x) : tEither tQuiet x x = tEither tQuiet (negV x) (negV x) := by
  show ((classV x == 5) || (classV x == 5)) = ((classV (negV x) == 5) || (classV (negV x) == 5))
  rw [n_class x h]
theorem not5 (x : Int) (c : Int) (h : (classV x == c) = true) (hc : c ≠ 5) : classV x ≠ 5 := by
  simp only [beq_iff_eq] at h
  omega
theorem odd_lists (L : List Li) (x : Int) (h : U x) (hL : LRel OddR x x (negV x) (negV x) L) : OddR (rowsAt (withN [] L) x x) (rowsAt (withN [] L) (negV x) (negV x)) :=
  LRel.rows (ls := withN [] L) ⟨sig_e x h, fun _ => odd_nan 1 1, qui_e x h, fun _ => odd_nan 0 1, hL⟩
theorem zero_e (x : Int) (h : U x) : tZero x x = tZero (negV x) (negV x) := by
  show (classV x == 1) = (classV (negV x) == 1)
  rw [n_class x h]
theorem inf_e (x : Int) (h : U x) : tInf x x = tInf (negV x) (negV x) := by
  show (classV x == 4) = (classV (negV x) == 4)
  rw [n_class x h]
theorem U_c1 : U 4607182418800017408 := ⟨by decide, by decide⟩
theorem odd_sin (x : Int) (h : U x) : LRel OddR x x (negV x) (negV x) lSin :=
  ⟨zero_e x h, fun c => odd_self x h (not5 x 1 c (by decide)), inf_e x h, fun _ => odd_nan 1 2, odd_nil⟩
theorem odd_asin (x : Int) (h : U x) : LRel OddR x x (negV x) (negV x) lAsin :=
  ⟨zero_e x h, fun c => odd_self x h (not5 x 1 c (by decide)), beyond_e x h, fun _ => odd_nan 1 2, odd_nil⟩
theorem odd_them (x : Int) (h : U x) : LRel OddR x x (negV x) (negV x) lThem :=
  ⟨zero_e x h, fun c => odd_self x h (not5 x 1 c (by decide)), inf_e x h, fun c => odd_self x h (not5 x 4 c (by decide)), odd_nil⟩
theorem sgn_ans (x : Int) (h : U x) (r : Ro) (hr : ∀ s, OddR (turnR s r) (turnR (!s) r)) : OddR (turnR (tMinus x x) r) (turnR (tMinus (negV x) (negV x)) r) := by
  unfold tMinus
  rw [n_sgn x h]
  exact hr _
theorem odd_tanh (x : Int) (h : U x) : LRel OddR x x (negV x) (negV x) lTanh :=
  ⟨zero_e x h, fun c => odd_self x h (not5 x 1 c (by decide)), inf_e x h, fun _ => sgn_ans x h _ (fun s => odd_turn s _ _ _ U_c1 (by decide) (by decide) (by decide)), odd_nil⟩
theorem odd_atan (x : Int) (h : U x) : LRel OddR x x (negV x) (negV x) lAtan :=
  ⟨zero_e x h, fun c => odd_self x h (not5 x 1 c (by decide)), inf_e x h, fun _ => sgn_ans x h _ (fun s => odd_turn s _ _ _ ⟨by decide, by decide⟩ (by decide) (by decide) (by decide)), odd_nil⟩
theorem odd_atanpi (x : Int) (h : U x) : LRel OddR x x (negV x) (negV x) lAtanpi :=
  ⟨zero_e x h, fun c => odd_self x h (not5 x 1 c (by decide)), inf_e x h, fun _ => sgn_ans x h _ (fun s => odd_turn s _ _ _ ⟨by decide, by decide⟩ (by decide) (by decide) (by decide)), odd_nil⟩
theorem odd_sinpi (x : Int) (h : U x) : LRel OddR x x (negV x) (negV x) lSinpi :=
  ⟨inf_e x h, fun _ => odd_nan 1 2, whole_e x h, fun _ => sgn_ans x h _ (fun s => odd_turn s _ _ _ ⟨by decide, by decide⟩ (by decide) (by decide) (by decide)), odd_nil⟩
theorem odd_tanpi (x : Int) (h : U x) : LRel OddR x x (negV x) (negV x) lTanpi := by
  have ho := n_oddPart x x (negV x) (negV x) h rfl
  refine ⟨inf_e x h, fun _ => odd_nan 1 2, whole_e x h, fun _ => ?_, n_half x x (negV x) (negV x) h rfl, fun _ => ?_, odd_nil⟩
  · show OddR (turnR (tMinus x x) (turnR (tOddPart x x) (0, 0, 4))) (turnR (tMinus (negV x) (negV x)) (turnR (tOddPart (negV x) (negV x)) (0, 0, 4)))
    rw [← ho]
    refine sgn_ans x h _ (fun s => ?_)
    cases tOddPart x x
    · exact odd_turn s _ _ _ ⟨by decide, by decide⟩ (by decide) (by decide) (by decide)
    · exact odd_turn s _ _ _ ⟨by decide, by decide⟩ (by decide) (by decide) (by decide)
  · show OddR (turnR (tMinus x x) (turnR (tOddPart x x) (9218868437227405312, 2, 3))) (turnR (tMinus (negV x) (negV x)) (turnR (tOddPart (negV x) (negV x)) (9218868437227405312, 2, 3)))
    rw [← ho]
    refine sgn_ans x h _ (fun s => ?_)
    cases tOddPart x x
    · exact odd_turn s _ _ _ ⟨by decide, by decide⟩ (by decide) (by decide) (by decide)
    · exact odd_turn s _ _ _ ⟨by decide, by decide⟩ (by decide) (by decide) (by decide)
theorem odd_atanh (x : Int) (h : U x) : OddR (rowsAt (withN [] lAtanh) x x) (rowsAt (withN [] lAtanh) (negV x) (negV x)) := by
  by_cases h1 : x = 4607182418800017408
  · subst h1
    have e1 : rowsAt (withN [] lAtanh) 4607182418800017408 4607182418800017408 = (9218868437227405312, 2, 3) := by decide +kernel
    have e2 : rowsAt (withN [] lAtanh) (negV 4607182418800017408) (negV 4607182418800017408) = (18442240474082181120, 2, 3) := by decide +kernel
    rw [e1, e2]
    exact ⟨rfl, fun hh => by rcases hh with e | e <;> exact absurd e (by decide), fun _ => by decide⟩
  · by_cases h2 : x = 13830554455654793216
    · subst h2
      have e1 : rowsAt (withN [] lAtanh) 13830554455654793216 13830554455654793216 = (18442240474082181120, 2, 3) := by decide +kernel
      have e2 : rowsAt (withN [] lAtanh) (negV 13830554455654793216) (negV 13830554455654793216) = (9218868437227405312, 2, 3) := by decide +kernel
      rw [e1, e2]
      exact ⟨rfl, fun hh => by rcases hh with e | e <;> exact absurd e (by decide), fun _ => by decide⟩
    · have h3 : negV x ≠ 4607182418800017408 := by unfold negV U at *; omega
      have h4 : negV x ≠ 13830554455654793216 := by unfold negV U at *; omega
      have i1 : tIs 4607182418800017408 x x = false := by unfold tIs; simpa using h1
      have i2 : tIs 13830554455654793216 x x = false := by unfold tIs; simpa using h2
      have i3 : tIs 4607182418800017408 (negV x) (negV x) = false := by unfold tIs; simpa using h3
      have i4 : tIs 13830554455654793216 (negV x) (negV x) = false := by unfold tIs; simpa using h4
      refine odd_lists lAtanh x h ⟨zero_e x h, fun c => odd_self x h (not5 x 1 c (by decide)), i1.trans i3.symm, fun c => ?_, i2.trans i4.symm, fun c => ?_, beyond_e x h, fun _ => odd_nan 1 2, odd_nil⟩
      · exact absurd (i1.symm.trans c) (by decide)
      · exact absurd (i2.symm.trans c) (by decide)

theorem sgn_turn (x y : Int) (h : U x) (r : Ro) (hr : ∀ s, TurnR (turnR s r) (turnR (!s) r)) : TurnR (turnR (tMinus x y) r) (turnR (tMinus (negV x) y) r) := by
  unfold tMinus
  rw [n_sgn x h]
  exact hr _
theorem turn_angle (q h t p : Int) (f k : Int) (x y : Int) (hx : U x) (uq : U q) (uh : U h) (ut : U t) (up : U p) (hk : k ≠ 0) (hk1 : k ≠ 1) : TurnR (rowsAt (withN [] (lAngle q h t p (fun b => aAlways b f k))) x y) (rowsAt (withN [] (lAngle q h t p (fun b => aAlways b f k))) (negV x) y) := by
  have ez : tZero x y = tZero (negV x) y := by unfold tZero; rw [n_class x hx]
  have ei : tInf x y = tInf (negV x) y := by unfold tInf; rw [n_class x hx]
  have T : ∀ b, U b → TurnR (turnR (tMinus x y) (b, f, k)) (turnR (tMinus (negV x) y) (b, f, k)) := fun b hb => sgn_turn x y hx _ (fun s => turn_turn s b f k hb hk hk1)
  refine LRel.rows (ls := withN [] (lAngle q h t p (fun b => aAlways b f k))) ⟨?_, fun _ => turn_nan 1, ?_, fun _ => turn_nan 0, ?_, fun _ => turn_self x hx, ez, fun _ => T p up, rfl, fun _ => T h uh, ?_, fun _ => T q uq, ?_, fun _ => T t ut, ei, fun _ => T h uh, rfl, fun _ => sgn_turn x y hx _ (fun s => turn_turn s 0 0 4 ⟨by decide, by decide⟩ (by decide) (by decide)), rfl, fun _ => T p up, turn_nil⟩
  · exact e2 6 x y hx
  · exact e2 5 x y hx
  · show (tZero x y && tOfY tPlus x y) = (tZero (negV x) y && tOfY tPlus (negV x) y)
    rw [← ez]; rfl
  · show (tInf x y && _) = (tInf (negV x) y && _)
    rw [← ei]; rfl
  · show (tInf x y && _) = (tInf (negV x) y && _)
    rw [← ei]; rfl
theorem u_zero : U 0 := ⟨by decide, by decide⟩
/-- what rows answer is a word -/
def LU : List Li → Prop
  | [] => True
  | l :: ls => (∀ x y, U x → U y → U (l.2 x y).1) ∧ LU ls
theorem LU.rows {x y : Int} (h : U x) (k : U y) : ∀ {ls : List Li}, LU ls → U (rowsAt ls x y).1
  | [], _ => u_zero
  | l :: ls, hl => by
    unfold rowsAt
    cases l.1 x y with
    | true => exact hl.1 x y h k
    | false => exact LU.rows h k hl.2
theorem LU.app {us : List Li} (hu : LU us) : ∀ {ls : List Li}, LU ls → LU (ls ++ us)
  | [], _ => hu
  | _ :: _, h => ⟨h.1, LU.app hu h.2⟩
theorem ua_always (b f k : Int) (h : U b) : ∀ x y, U x → U y → U (aAlways b f k x y).1 := fun _ _ _ _ => h
theorem ua_self : ∀ x y, U x → U y → U (aItself x y).1 := fun _ _ h _ => h
theorem ua_turn (t : Te) (a : An) (h : ∀ x y, U x → U y → U (a x y).1) : ∀ x y, U x → U y → U (aTurned t a x y).1 := by
  intro x y hx hy
  have := h x y hx hy
  unfold aTurned turnR
  split
  · unfold negV U at *; simp only; omega
  · exact this
theorem or_U (x y : Int) : U (orA x y) := by
  have h1 : 0 ≤ absV x ∧ absV x < 9223372036854775808 := by unfold absV; omega
  have h2 : 0 ≤ absV y ∧ absV y < 9223372036854775808 := by unfold absV; omega
  unfold orA
  rw [u64_or _ _ h1.1 (by omega) h2.1 (by omega)]
  have k1 : (absV x).toNat < 2 ^ 63 := by omega
  have k2 : (absV y).toNat < 2 ^ 63 := by omega
  have := Nat.or_lt_two_pow k1 k2
  unfold U
  omega
theorem u_nan : U 9221120237041090560 := ⟨by decide, by decide⟩
theorem lu_lExp : LU lExp := ⟨ua_always _ _ _ ⟨by decide, by decide⟩, ua_always _ _ _ ⟨by decide, by decide⟩, ua_self, trivial⟩
theorem lu_lExpm1 : LU lExpm1 := ⟨ua_self, ua_always _ _ _ ⟨by decide, by decide⟩, ua_self, trivial⟩
theorem lu_lLog : LU lLog := ⟨ua_always _ _ _ ⟨by decide, by decide⟩, ua_always _ _ _ ⟨by decide, by decide⟩, ua_always _ _ _ ⟨by decide, by decide⟩, ua_self, trivial⟩
theorem lu_lLog1p : LU lLog1p := ⟨ua_self, ua_always _ _ _ ⟨by decide, by decide⟩, ua_always _ _ _ ⟨by decide, by decide⟩, ua_self, trivial⟩
theorem lu_lSin : LU lSin := ⟨ua_self, ua_always _ _ _ ⟨by decide, by decide⟩, trivial⟩
theorem lu_lCos : LU lCos := ⟨ua_always _ _ _ ⟨by decide, by decide⟩, ua_always _ _ _ ⟨by decide, by decide⟩, trivial⟩
theorem lu_lSinpi : LU lSinpi := ⟨ua_always _ _ _ ⟨by decide, by decide⟩, ua_turn _ _ (ua_always _ _ _ ⟨by decide, by decide⟩), trivial⟩
theorem lu_lCospi : LU lCospi := ⟨ua_always _ _ _ ⟨by decide, by decide⟩, ua_always _ _ _ ⟨by decide, by decide⟩, trivial⟩
theorem lu_lTanpi : LU lTanpi := ⟨ua_always _ _ _ ⟨by decide, by decide⟩, ua_turn _ _ (ua_turn _ _ (ua_always _ _ _ ⟨by decide, by decide⟩)), ua_turn _ _ (ua_turn _ _ (ua_always _ _ _ ⟨by decide, by decide⟩)), trivial⟩
theorem lu_lAsin : LU lAsin := ⟨ua_self, ua_always _ _ _ ⟨by decide, by decide⟩, trivial⟩
theorem lu_lAcos : LU lAcos := ⟨ua_always _ _ _ ⟨by decide, by decide⟩, ua_always _ _ _ ⟨by decide, by decide⟩, trivial⟩
theorem lu_lAtan : LU lAtan := ⟨ua_self, ua_turn _ _ (ua_always _ _ _ ⟨by decide, by decide⟩), trivial⟩
theorem lu_lAtanpi : LU lAtanpi := ⟨ua_self, ua_turn _ _ (ua_always _ _ _ ⟨by decide, by decide⟩), trivial⟩
theorem lu_lThem : LU lThem := ⟨ua_self, ua_self, trivial⟩
theorem lu_lCosh : LU lCosh := ⟨ua_always _ _ _ ⟨by decide, by decide⟩, ua_always _ _ _ ⟨by decide, by decide⟩, trivial⟩
theorem lu_lTanh : LU lTanh := ⟨ua_self, ua_turn _ _ (ua_always _ _ _ ⟨by decide, by decide⟩), trivial⟩
theorem lu_lAcosh : LU lAcosh := ⟨ua_always _ _ _ ⟨by decide, by decide⟩, ua_always _ _ _ ⟨by decide, by decide⟩, ua_self, trivial⟩
theorem lu_lAtanh : LU lAtanh := ⟨ua_self, ua_always _ _ _ ⟨by decide, by decide⟩, ua_always _ _ _ ⟨by decide, by decide⟩, ua_always _ _ _ ⟨by decide, by decide⟩, trivial⟩
theorem lu_lRsqrt : LU lRsqrt := ⟨ua_turn _ _ (ua_always _ _ _ ⟨by decide, by decide⟩), ua_always _ _ _ ⟨by decide, by decide⟩, ua_always _ _ _ ⟨by decide, by decide⟩, trivial⟩
theorem lu_lRad : LU lRad := ⟨ua_self, ua_turn _ _ (ua_always _ _ _ ⟨by decide, by decide⟩), ua_turn _ _ (ua_always _ _ _ ⟨by decide, by decide⟩), ua_turn _ _ (ua_always _ _ _ ⟨by decide, by decide⟩), ua_turn _ _ (ua_always _ _ _ ⟨by decide, by decide⟩), ua_turn _ _ (ua_always _ _ _ ⟨by decide, by decide⟩), ua_turn _ _ (ua_always _ _ _ ⟨by decide, by decide⟩), ua_turn _ _ (ua_always _ _ _ ⟨by decide, by decide⟩), trivial⟩
theorem lu_lTurn : LU lTurn := ⟨ua_self, ua_turn _ _ (ua_always _ _ _ ⟨by decide, by decide⟩), ua_turn _ _ (ua_always _ _ _ ⟨by decide, by decide⟩), ua_turn _ _ (ua_always _ _ _ ⟨by decide, by decide⟩), ua_turn _ _ (ua_always _ _ _ ⟨by decide, by decide⟩), ua_turn _ _ (ua_always _ _ _ ⟨by decide, by decide⟩), ua_turn _ _ (ua_always _ _ _ ⟨by decide, by decide⟩), ua_turn _ _ (ua_always _ _ _ ⟨by decide, by decide⟩), trivial⟩
theorem lu_lAny : LU lAny := ⟨ua_always _ _ _ ⟨by decide, by decide⟩, ua_always _ _ _ ⟨by decide, by decide⟩, trivial⟩
theorem lu_lPow : LU lPow := ⟨ua_always _ _ _ ⟨by decide, by decide⟩, ua_turn _ _ (ua_always _ _ _ ⟨by decide, by decide⟩), ua_turn _ _ (ua_always _ _ _ ⟨by decide, by decide⟩), ua_always _ _ _ ⟨by decide, by decide⟩, ua_always _ _ _ ⟨by decide, by decide⟩, ua_always _ _ _ ⟨by decide, by decide⟩, ua_turn _ _ (ua_always _ _ _ ⟨by decide, by decide⟩), ua_turn _ _ (ua_always _ _ _ ⟨by decide, by decide⟩), ua_always _ _ _ ⟨by decide, by decide⟩, trivial⟩
theorem lu_lFar : LU lFar := ⟨ua_always _ _ _ ⟨by decide, by decide⟩, trivial⟩
theorem lu_lDist : LU lDist := ⟨fun x y _ _ => or_U x y, trivial⟩
theorem withN_LU {a b : List Li} (ha : LU a) (hb : LU b) : LU (withN a b) := ⟨ua_always _ _ _ u_nan, LU.app (us := (tEither tQuiet, aNoNumber) :: b) ⟨ua_always _ _ _ u_nan, hb⟩ ha⟩
theorem LU_ite (c : Prop) [Decidable c] {a b : List Li} (ha : LU a) (hb : LU b) : LU (if c then a else b) := by
  by_cases h : c
  · rw [if_pos h]; exact ha
  · rw [if_neg h]; exact hb
theorem one_LU (f : Int) : LU (oneL f) := (LU_ite _ lu_lExp (LU_ite _ lu_lExpm1 (LU_ite _ lu_lLog (LU_ite _ lu_lLog1p (LU_ite _ lu_lCos (LU_ite _ lu_lSin (LU_ite _ lu_lSinpi (LU_ite _ lu_lCospi (LU_ite _ lu_lTanpi (LU_ite _ lu_lAsin (LU_ite _ lu_lAcos (LU_ite _ lu_lAtan (LU_ite _ lu_lAtanpi (LU_ite _ lu_lCosh (LU_ite _ lu_lTanh (LU_ite _ lu_lAcosh (LU_ite _ lu_lAtanh (LU_ite _ lu_lRsqrt lu_lThem))))))))))))))))))
theorem two_LU (f : Int) : LU (twoL f) := (LU_ite _ lu_lRad (LU_ite _ lu_lTurn (LU_ite _ lu_lPow lu_lDist)))
theorem ahead_LU (f : Int) : LU (aheadL f) := (LU_ite _ lu_lAny (LU_ite _ lu_lFar trivial))
theorem spV_U (f x y : Int) (h : U x) (k : U y) : U (spV f x y).1 := by
  unfold spV
  split
  · unfold spR linesOf yOf
    by_cases h33 : 33 ≤ f
    · rw [if_pos h33, if_pos h33]; exact LU.rows h k (withN_LU (ahead_LU f) (two_LU f))
    · rw [if_neg h33, if_neg h33]; exact LU.rows h h (withN_LU (a := []) trivial (one_LU f))
  · exact u_zero
theorem or_comm64 (x y : Int) : orA x y = orA y x := by
  have h1 : 0 ≤ absV x ∧ absV x < 9223372036854775808 := by unfold absV; omega
  have h2 : 0 ≤ absV y ∧ absV y < 9223372036854775808 := by unfold absV; omega
  unfold orA
  rw [u64_or _ _ h1.1 (by omega) h2.1 (by omega), u64_or _ _ h2.1 (by omega) h1.1 (by omega), Nat.or_comm]
theorem hyp_swap (x y : Int) : rowsAt (withN lFar lDist) x y = rowsAt (withN lFar lDist) y x := by
  show (if (tSignal x y || tSignal y x) = true then aInvalid x y else if (tInf x y || tInf y x) = true then aTold 9218868437227405312 x y else if (tQuiet x y || tQuiet y x) = true then aNoNumber x y else if (tZero x y || tZero y x) = true then aAmounts x y else (0, 0, 0)) = (if (tSignal y x || tSignal x y) = true then aInvalid y x else if (tInf y x || tInf x y) = true then aTold 9218868437227405312 y x else if (tQuiet y x || tQuiet x y) = true then aNoNumber y x else if (tZero y x || tZero x y) = true then aAmounts y x else (0, 0, 0))
  rw [Bool.or_comm (tSignal y x), Bool.or_comm (tInf y x), Bool.or_comm (tQuiet y x), Bool.or_comm (tZero y x)]
  have e : aAmounts x y = aAmounts y x := by unfold aAmounts; rw [or_comm64]
  rw [e]; rfl
theorem hyp_neg (x y : Int) (h : U x) : rowsAt (withN lFar lDist) x y = rowsAt (withN lFar lDist) (negV x) y := by
  refine LRel.rows (Rel := fun a b => a = b) (ls := withN lFar lDist) ⟨?_, fun _ => rfl, ?_, fun _ => rfl, ?_, fun _ => rfl, ?_, fun _ => ?_, rfl⟩
  · exact e2 6 x y h
  · exact e2 4 x y h
  · exact e2 5 x y h
  · exact e2 1 x y h
  · show (orA x y, (0 : Int), (4 : Int)) = (orA (negV x) y, 0, 4)
    unfold orA; rw [n_abs x h]
end Go.Proofs.YtkkccnpmcbpdnaaGreatDoor

/- Which flags go with which kind of row, list by list. -/
import Derived.Test.YtkkccnpmcbpdnaaGreatDoorSPK
namespace Go.Proofs.YtkkccnpmcbpdnaaGreatDoor

def LA : List Li → Prop
  | [] => True
  | l :: ls => (∀ x y, classV x < 4 → FlagR false true (l.2 x y)) ∧ LA ls
theorem LA.rows {x y : Int} (h : classV x < 4) : ∀ {ls : List Li}, LA ls → FlagR false true (rowsAt ls x y)
  | [], _ => f_none _
  | l :: ls, hl => by
    unfold rowsAt
    cases l.1 x y with
    | true => exact hl.1 x y h
    | false => exact LA.rows h hl.2
theorem one_all (L : List Li) (x : Int) (h : U x) (hA : LA L) (h1 : FlagR false false (rowsAt L 9218868437227405312 9218868437227405312)) (h2 : FlagR false false (rowsAt L 18442240474082181120 18442240474082181120)) : FlagR (classV x == 6) (decide (classV x < 4)) (rowsAt (withN [] L) x x) := by
  by_cases c6 : classV x = 6
  · have e : rowsAt (withN [] L) x x = (9221120237041090560, 1, 1) := by
      show (if ((classV x == 6) || (classV x == 6)) = true then _ else _) = _
      rw [c6]; rfl
    rw [e, c6]
    exact Or.inr (Or.inl ⟨rfl, rfl, rfl, Or.inl rfl⟩)
  · have e6 : (classV x == 6) = false := by simpa using c6
    have e0 : rowsAt (withN [] L) x x = if ((classV x == 5) || (classV x == 5)) = true then (9221120237041090560, 0, 1) else rowsAt L x x := by
      show (if ((classV x == 6) || (classV x == 6)) = true then _ else if ((classV x == 5) || (classV x == 5)) = true then _ else _) = _
      rw [e6]; rfl
    rw [e0, e6]
    by_cases c5 : classV x = 5
    · rw [c5]; exact f_quiet _
    · have e5 : (classV x == 5) = false := by simpa using c5
      rw [e5]
      show FlagR false _ (rowsAt L x x)
      have := cls_bd x
      by_cases c4 : classV x = 4
      · rw [c4]
        rcases inf_of x h c4 with rfl | rfl
        · exact h1
        · exact h2
      · rw [decide_eq_true (show classV x < 4 by omega)]
        exact LA.rows (by omega) hA
instance (si fi : Bool) (R : Ro) : Decidable (FlagR si fi R) := by unfold FlagR; exact inferInstance
theorem la_lExp : LA lExp := ⟨fun _ _ _ => f_told _ _ _ (by decide), fun _ _ _ => f_told _ _ _ (by decide), fun _ _ h => f_told _ _ _ (by omega), trivial⟩
theorem la_lExpm1 : LA lExpm1 := ⟨fun _ _ h => f_told _ _ _ (by omega), fun _ _ _ => f_told _ _ _ (by decide), fun _ _ h => f_told _ _ _ (by omega), trivial⟩
theorem la_lLog : LA lLog := ⟨fun _ _ _ => f_pole _ _ (by decide), fun _ _ _ => f_out _, fun _ _ _ => f_told _ _ _ (by decide), fun _ _ h => f_told _ _ _ (by omega), trivial⟩
theorem la_lLog1p : LA lLog1p := ⟨fun _ _ h => f_told _ _ _ (by omega), fun _ _ _ => f_pole _ _ (by decide), fun _ _ _ => f_out _, fun _ _ h => f_told _ _ _ (by omega), trivial⟩
theorem la_lSin : LA lSin := ⟨fun _ _ h => f_told _ _ _ (by omega), fun _ _ _ => f_out _, trivial⟩
theorem la_lCos : LA lCos := ⟨fun _ _ _ => f_told _ _ _ (by decide), fun _ _ _ => f_out _, trivial⟩
theorem la_lSinpi : LA lSinpi := ⟨fun _ _ _ => f_out _, fun _ _ _ => f_stold _ _ _ _ ⟨by decide, by decide⟩ (by decide), trivial⟩
theorem la_lCospi : LA lCospi := ⟨fun _ _ _ => f_out _, fun _ _ _ => f_told _ _ _ (by decide), trivial⟩
theorem la_lTanpi : LA lTanpi := ⟨fun _ _ _ => f_out _, fun x y _ => by show FlagR false true (turnR _ (turnR (tOddPart x y) (0, 0, 4))); cases tOddPart x y <;> exact f_stold _ _ _ _ ⟨by decide, by decide⟩ (by decide), fun x y _ => by show FlagR false true (turnR _ (turnR (tOddPart x y) (9218868437227405312, 2, 3))); cases tOddPart x y <;> exact f_spole _ _ _ ⟨by decide, by decide⟩ (by decide), trivial⟩
theorem la_lAsin : LA lAsin := ⟨fun _ _ h => f_told _ _ _ (by omega), fun _ _ _ => f_out _, trivial⟩
theorem la_lAcos : LA lAcos := ⟨fun _ _ _ => f_told _ _ _ (by decide), fun _ _ _ => f_out _, trivial⟩
theorem la_lAtan : LA lAtan := ⟨fun _ _ h => f_told _ _ _ (by omega), fun _ _ _ => f_slimit _ _ _ _ ⟨by decide, by decide⟩ (by decide), trivial⟩
theorem la_lAtanpi : LA lAtanpi := ⟨fun _ _ h => f_told _ _ _ (by omega), fun _ _ _ => f_stold _ _ _ _ ⟨by decide, by decide⟩ (by decide), trivial⟩
theorem la_lThem : LA lThem := ⟨fun _ _ h => f_told _ _ _ (by omega), fun _ _ h => f_told _ _ _ (by omega), trivial⟩
theorem la_lCosh : LA lCosh := ⟨fun _ _ _ => f_told _ _ _ (by decide), fun _ _ _ => f_told _ _ _ (by decide), trivial⟩
theorem la_lTanh : LA lTanh := ⟨fun _ _ h => f_told _ _ _ (by omega), fun _ _ _ => f_stold _ _ _ _ ⟨by decide, by decide⟩ (by decide), trivial⟩
theorem la_lAcosh : LA lAcosh := ⟨fun _ _ _ => f_out _, fun _ _ _ => f_told _ _ _ (by decide), fun _ _ h => f_told _ _ _ (by omega), trivial⟩
theorem la_lAtanh : LA lAtanh := ⟨fun _ _ h => f_told _ _ _ (by omega), fun _ _ _ => f_pole _ _ (by decide), fun _ _ _ => f_pole _ _ (by decide), fun _ _ _ => f_out _, trivial⟩
theorem la_lRsqrt : LA lRsqrt := ⟨fun _ _ _ => f_spole _ _ _ ⟨by decide, by decide⟩ (by decide), fun _ _ _ => f_out _, fun _ _ _ => f_told _ _ _ (by decide), trivial⟩
theorem fl_lExp (x : Int) (h : U x) : FlagR (classV x == 6) (decide (classV x < 4)) (rowsAt (withN [] lExp) x x) := one_all lExp x h la_lExp (by decide +kernel) (by decide +kernel)
theorem fl_lExpm1 (x : Int) (h : U x) : FlagR (classV x == 6) (decide (classV x < 4)) (rowsAt (withN [] lExpm1) x x) := one_all lExpm1 x h la_lExpm1 (by decide +kernel) (by decide +kernel)
theorem fl_lLog (x : Int) (h : U x) : FlagR (classV x == 6) (decide (classV x < 4)) (rowsAt (withN [] lLog) x x) := one_all lLog x h la_lLog (by decide +kernel) (by decide +kernel)
theorem fl_lLog1p (x : Int) (h : U x) : FlagR (classV x == 6) (decide (classV x < 4)) (rowsAt (withN [] lLog1p) x x) := one_all lLog1p x h la_lLog1p (by decide +kernel) (by decide +kernel)
theorem fl_lSin (x : Int) (h : U x) : FlagR (classV x == 6) (decide (classV x < 4)) (rowsAt (withN [] lSin) x x) := one_all lSin x h la_lSin (by decide +kernel) (by decide +kernel)
theorem fl_lCos (x : Int) (h : U x) : FlagR (classV x == 6) (decide (classV x < 4)) (rowsAt (withN [] lCos) x x) := one_all lCos x h la_lCos (by decide +kernel) (by decide +kernel)
theorem fl_lSinpi (x : Int) (h : U x) : FlagR (classV x == 6) (decide (classV x < 4)) (rowsAt (withN [] lSinpi) x x) := one_all lSinpi x h la_lSinpi (by decide +kernel) (by decide +kernel)
theorem fl_lCospi (x : Int) (h : U x) : FlagR (classV x == 6) (decide (classV x < 4)) (rowsAt (withN [] lCospi) x x) := one_all lCospi x h la_lCospi (by decide +kernel) (by decide +kernel)
theorem fl_lTanpi (x : Int) (h : U x) : FlagR (classV x == 6) (decide (classV x < 4)) (rowsAt (withN [] lTanpi) x x) := one_all lTanpi x h la_lTanpi (by decide +kernel) (by decide +kernel)
theorem fl_lAsin (x : Int) (h : U x) : FlagR (classV x == 6) (decide (classV x < 4)) (rowsAt (withN [] lAsin) x x) := one_all lAsin x h la_lAsin (by decide +kernel) (by decide +kernel)
theorem fl_lAcos (x : Int) (h : U x) : FlagR (classV x == 6) (decide (classV x < 4)) (rowsAt (withN [] lAcos) x x) := one_all lAcos x h la_lAcos (by decide +kernel) (by decide +kernel)
theorem fl_lAtan (x : Int) (h : U x) : FlagR (classV x == 6) (decide (classV x < 4)) (rowsAt (withN [] lAtan) x x) := one_all lAtan x h la_lAtan (by decide +kernel) (by decide +kernel)
theorem fl_lAtanpi (x : Int) (h : U x) : FlagR (classV x == 6) (decide (classV x < 4)) (rowsAt (withN [] lAtanpi) x x) := one_all lAtanpi x h la_lAtanpi (by decide +kernel) (by decide +kernel)
theorem fl_lThem (x : Int) (h : U x) : FlagR (classV x == 6) (decide (classV x < 4)) (rowsAt (withN [] lThem) x x) := one_all lThem x h la_lThem (by decide +kernel) (by decide +kernel)
theorem fl_lCosh (x : Int) (h : U x) : FlagR (classV x == 6) (decide (classV x < 4)) (rowsAt (withN [] lCosh) x x) := one_all lCosh x h la_lCosh (by decide +kernel) (by decide +kernel)
theorem fl_lTanh (x : Int) (h : U x) : FlagR (classV x == 6) (decide (classV x < 4)) (rowsAt (withN [] lTanh) x x) := one_all lTanh x h la_lTanh (by decide +kernel) (by decide +kernel)
theorem fl_lAcosh (x : Int) (h : U x) : FlagR (classV x == 6) (decide (classV x < 4)) (rowsAt (withN [] lAcosh) x x) := one_all lAcosh x h la_lAcosh (by decide +kernel) (by decide +kernel)
theorem fl_lAtanh (x : Int) (h : U x) : FlagR (classV x == 6) (decide (classV x < 4)) (rowsAt (withN [] lAtanh) x x) := one_all lAtanh x h la_lAtanh (by decide +kernel) (by decide +kernel)
theorem fl_lRsqrt (x : Int) (h : U x) : FlagR (classV x == 6) (decide (classV x < 4)) (rowsAt (withN [] lRsqrt) x x) := one_all lRsqrt x h la_lRsqrt (by decide +kernel) (by decide +kernel)

theorem inf_cls : classV 9218868437227405312 = 4 ∧ classV 18442240474082181120 = 4 := by decide
theorem fi_end (x y : Int) (s6 : ((classV x == 6) || (classV y == 6)) = false) (s5 : ((classV x == 5) || (classV y == 5)) = false) (h4 : classV x ≠ 4) (k4 : classV y ≠ 4) : (decide (classV x < 4) && decide (classV y < 4)) = true := by
  have := cls_bd x
  have := cls_bd y
  simp only [Bool.or_eq_false_iff, beq_eq_false_iff_ne, ne_eq] at s6 s5
  simp only [Bool.and_eq_true, decide_eq_true_eq]
  omega
theorem fl_angle (q h t p f k : Int) (hT : ∀ (s fi : Bool), FlagR false fi (turnR s (q, f, k)) ∧ FlagR false fi (turnR s (h, f, k)) ∧ FlagR false fi (turnR s (t, f, k)) ∧ FlagR false fi (turnR s (p, f, k))) (x y : Int) (hy : U y) :
    FlagR ((classV x == 6) || (classV y == 6)) (decide (classV x < 4) && decide (classV y < 4)) (rowsAt (withN [] (lAngle q h t p (fun b => aAlways b f k))) x y) := by
  refine two_flag [] _ x y (fun si e s6 => ?_)
  subst e
  refine ⟨fun _ => f_quiet _, fun c5 => ⟨fun c => ?_, fun _ => ⟨fun _ => (hT _ _).2.2.2, fun _ => ⟨fun _ => (hT _ _).2.1, fun _ => ⟨fun _ => (hT _ _).1, fun _ => ⟨fun _ => (hT _ _).2.2.1, fun _ => ⟨fun _ => (hT _ _).2.1, fun c4 => ⟨fun _ => f_stold _ _ _ _ ⟨by decide, by decide⟩ (by decide), fun i1 => ⟨fun _ => (hT _ _).2.2.2, fun i2 => ?_⟩⟩⟩⟩⟩⟩⟩⟩⟩
  · have c' : ((classV x == 1) && !sgnB y) = true := c
    simp only [Bool.and_eq_true, beq_iff_eq] at c'
    exact f_told _ _ _ (by omega)
  · have j1 : (y == 9218868437227405312) = false := i1
    have j2 : (y == 18442240474082181120) = false := i2
    have k4 : classV y ≠ 4 := by
      intro e
      rcases inf_of y hy e with rfl | rfl
      · exact absurd j1 (by decide)
      · exact absurd j2 (by decide)
    rw [fi_end x y s6 c5 (cn x 4 c4) k4]
    exact f_none _
theorem fl_rad (x y : Int) (hy : U y) : FlagR ((classV x == 6) || (classV y == 6)) (decide (classV x < 4) && decide (classV y < 4)) (rowsAt (withN [] lRad) x y) :=
  fl_angle _ _ _ _ 16 5 (fun s fi => ⟨f_slimit _ _ _ _ ⟨by decide, by decide⟩ (by decide), f_slimit _ _ _ _ ⟨by decide, by decide⟩ (by decide), f_slimit _ _ _ _ ⟨by decide, by decide⟩ (by decide), f_slimit _ _ _ _ ⟨by decide, by decide⟩ (by decide)⟩) x y hy
theorem fl_turn (x y : Int) (hy : U y) : FlagR ((classV x == 6) || (classV y == 6)) (decide (classV x < 4) && decide (classV y < 4)) (rowsAt (withN [] lTurn) x y) :=
  fl_angle _ _ _ _ 0 4 (fun s fi => ⟨f_stold _ _ _ _ ⟨by decide, by decide⟩ (by decide), f_stold _ _ _ _ ⟨by decide, by decide⟩ (by decide), f_stold _ _ _ _ ⟨by decide, by decide⟩ (by decide), f_stold _ _ _ _ ⟨by decide, by decide⟩ (by decide)⟩) x y hy
theorem fl_pow (x y : Int) (hy : U y) : FlagR ((classV x == 6) || (classV y == 6)) (decide (classV x < 4) && decide (classV y < 4)) (rowsAt (withN lAny lPow) x y) := by
  refine two_flag lAny lPow x y (fun si e s6 => ?_)
  subst e
  refine ⟨fun _ => f_told _ _ _ (by decide), fun _ => ⟨fun _ => f_told _ _ _ (by decide), fun _ => ⟨fun _ => f_quiet _, fun c5 => ⟨fun _ => f_told _ _ _ (by decide), fun c1 => ⟨fun c => ?_, fun _ => ⟨fun _ => f_stold _ _ _ _ ⟨by decide, by decide⟩ (by decide), fun _ => ⟨fun _ => f_told _ _ _ (by decide), fun _ => ⟨fun _ => f_told _ _ _ (by decide), fun _ => ⟨fun _ => f_told _ _ _ (by decide), fun k4 => ⟨fun _ => f_stold _ _ _ _ ⟨by decide, by decide⟩ (by decide), fun _ => ⟨fun _ => f_stold _ _ _ _ ⟨by decide, by decide⟩ (by decide), fun c4 => ⟨fun _ => f_out _, fun _ => ?_⟩⟩⟩⟩⟩⟩⟩⟩⟩⟩⟩⟩
  · have c' : ((classV x == 1) && lessB y 0) = true := c
    have d' : ((classV x == 1) && (y == 18442240474082181120)) = false := c1
    simp only [Bool.and_eq_true, beq_iff_eq] at c'
    rw [show (classV x == 1) = true by simpa using c'.1, Bool.true_and] at d'
    have k4 : classV y ≠ 4 := by
      intro e
      rcases inf_of y hy e with rfl | rfl
      · exact absurd c'.2 (by decide)
      · exact absurd d' (by decide)
    rw [fi_end x y s6 c5 (by omega) k4]
    exact f_spole _ _ _ ⟨by decide, by decide⟩ (by decide)
  · rw [fi_end x y s6 c5 (cn x 4 c4) (cn y 4 k4)]
    exact f_none _
theorem or_zero (x y : Int) (h : absV x = 0) : orA x y = absV y := by
  have h2 : 0 ≤ absV y ∧ absV y < 9223372036854775808 := by unfold absV; omega
  unfold orA
  rw [h, u64_or _ _ (by omega) (by omega) h2.1 (by omega)]
  simp
  omega
theorem abs_cls (x : Int) (_h : U x) : classV (absV x) = classV x := by
  have e1 : expV (absV x) = expV x := by unfold expV absV U at *; omega
  have e2 : fracV (absV x) = fracV x := by unfold fracV absV U at *; omega
  unfold classV
  rw [e1, e2]
theorem fl_hyp (x y : Int) (hx : U x) (hy : U y) : FlagR ((classV x == 6) || (classV y == 6)) (decide (classV x < 4) && decide (classV y < 4)) (rowsAt (withN lFar lDist) x y) := by
  refine two_flag lFar lDist x y (fun si e s6 => ?_)
  subst e
  refine ⟨fun _ => f_told _ _ _ (by decide), fun c4 => ⟨fun _ => f_quiet _, fun c5 => ⟨fun c => ?_, fun _ => ?_⟩⟩⟩
  · have c4' : ((classV x == 4) || (classV y == 4)) = false := c4
    have c5' : ((classV x == 5) || (classV y == 5)) = false := c5
    have c' : ((classV x == 1) || (classV y == 1)) = true := c
    have := cls_bd x
    have := cls_bd y
    simp only [Bool.or_eq_false_iff, beq_eq_false_iff_ne, ne_eq] at s6 c4' c5'
    simp only [Bool.or_eq_true, beq_iff_eq] at c'
    refine f_told _ _ _ ?_
    rcases c' with e | e
    · have h0 : absV x = 0 := by rcases zero_of x hx e with rfl | rfl <;> decide
      rw [or_zero x y h0, abs_cls y hy]
      omega
    · have h0 : absV y = 0 := by rcases zero_of y hy e with rfl | rfl <;> decide
      rw [or_comm64, or_zero y x h0, abs_cls x hx]
      omega
  · have c4' : ((classV x == 4) || (classV y == 4)) = false := c4
    simp only [Bool.or_eq_false_iff, beq_eq_false_iff_ne, ne_eq] at c4'
    rw [fi_end x y s6 c5 c4'.1 c4'.2]
    exact f_none _
def siF (f x y : Int) : Bool := if 33 ≤ f then (classV x == 6) || (classV y == 6) else classV x == 6
def fiF (f x y : Int) : Bool := if 33 ≤ f then decide (classV x < 4) && decide (classV y < 4) else decide (classV x < 4)
theorem fl_all (x y : Int) (hx : U x) (hy : U y) : ∀ n : Nat, 1 ≤ n → n ≤ 36 → FlagR (siF (n : Int) x y) (fiF (n : Int) x y) (spV (n : Int) x y)
  | 0, h, _ => absurd h (by omega)
  | 1, _, _ => fl_lExp x hx
  | 2, _, _ => fl_lExp x hx
  | 3, _, _ => fl_lExp x hx
  | 4, _, _ => fl_lExpm1 x hx
  | 5, _, _ => fl_lExpm1 x hx
  | 6, _, _ => fl_lExpm1 x hx
  | 7, _, _ => fl_lLog x hx
  | 8, _, _ => fl_lLog x hx
  | 9, _, _ => fl_lLog x hx
  | 10, _, _ => fl_lLog1p x hx
  | 11, _, _ => fl_lLog1p x hx
  | 12, _, _ => fl_lLog1p x hx
  | 13, _, _ => fl_lSin x hx
  | 14, _, _ => fl_lCos x hx
  | 15, _, _ => fl_lSin x hx
  | 16, _, _ => fl_lSinpi x hx
  | 17, _, _ => fl_lCospi x hx
  | 18, _, _ => fl_lTanpi x hx
  | 19, _, _ => fl_lAsin x hx
  | 20, _, _ => fl_lAcos x hx
  | 21, _, _ => fl_lAtan x hx
  | 22, _, _ => fl_lAsin x hx
  | 23, _, _ => fl_lAcos x hx
  | 24, _, _ => fl_lAtanpi x hx
  | 25, _, _ => fl_lThem x hx
  | 26, _, _ => fl_lCosh x hx
  | 27, _, _ => fl_lTanh x hx
  | 28, _, _ => fl_lThem x hx
  | 29, _, _ => fl_lAcosh x hx
  | 30, _, _ => fl_lAtanh x hx
  | 31, _, _ => fl_lThem x hx
  | 32, _, _ => fl_lRsqrt x hx
  | 33, _, _ => fl_rad x y hy
  | 34, _, _ => fl_turn x y hy
  | 35, _, _ => fl_pow x y hy
  | 36, _, _ => fl_hyp x y hx hy
  | n + 37, _, h => absurd h (by omega)
end Go.Proofs.YtkkccnpmcbpdnaaGreatDoor

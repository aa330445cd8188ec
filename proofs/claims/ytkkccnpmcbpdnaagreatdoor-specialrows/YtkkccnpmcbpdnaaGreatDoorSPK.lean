/- Which flags go with which kind of row: plain facts. -/
import Derived.Test.YtkkccnpmcbpdnaaGreatDoorSPP
namespace Go.Proofs.YtkkccnpmcbpdnaaGreatDoor

theorem cls_bd (x : Int) : 1 ≤ classV x ∧ classV x ≤ 6 := by
  unfold classV; repeat' split
  all_goals omega
theorem zero_of (x : Int) (h : U x) (c : classV x = 1) : x = 0 ∨ x = 9223372036854775808 := by
  unfold classV at c
  have e1 : expV x = 0 := by
    by_cases e : expV x = 0
    · exact e
    · rw [if_neg e] at c
      revert c
      repeat' split
      all_goals (intro c; omega)
  have e2 : fracV x = 0 := by
    rw [if_pos e1] at c
    by_cases e : fracV x = 0
    · exact e
    · rw [if_neg e] at c; omega
  unfold expV at e1
  unfold fracV at e2
  unfold U at h
  omega
theorem inf_of (x : Int) (h : U x) (c : classV x = 4) : x = 9218868437227405312 ∨ x = 18442240474082181120 := by
  unfold classV at c
  have hb : 0 ≤ expV x ∧ expV x ≤ 2047 := by unfold expV; omega
  by_cases e : expV x = 0
  · rw [if_pos e] at c
    revert c
    split
    all_goals (intro c; omega)
  · rw [if_neg e] at c
    by_cases e3 : expV x < 2047
    · rw [if_pos e3] at c; omega
    · rw [if_neg e3] at c
      have e2 : fracV x = 0 := by
        by_cases e4 : fracV x = 0
        · exact e4
        · rw [if_neg e4] at c
          revert c
          split
          all_goals (intro c; omega)
      have e1 : expV x = 2047 := by omega
      unfold expV at e1
      unfold fracV at e2
      unfold U at h
      omega
theorem fin_cls (x : Int) (_h : U x) : finB x = decide (classV x < 4) := by
  unfold finB classV expV fracV U at *
  rw [Bool.eq_iff_iff]
  simp only [decide_eq_true_eq]
  repeat' split
  all_goals omega

/-- what SpecialFlags asks of a row of finite arguments or not (fi), with a signalling one or not (si) -/
def FlagR (si fi : Bool) (R : Ro) : Prop :=
  (R.2.2 = 0 ∧ R.1 = 0 ∧ R.2.1 = 0 ∧ fi = true) ∨
  (R.2.2 = 1 ∧ R.1 = 9221120237041090560 ∧ (R.2.1 == 1) = si ∧ (si = true ∨ R.2.1 = 0)) ∨
  (R.2.2 = 2 ∧ R.1 = 9221120237041090560 ∧ R.2.1 = 1 ∧ si = false) ∨
  (R.2.2 = 3 ∧ classV R.1 = 4 ∧ R.2.1 = 2 ∧ fi = true) ∨
  (R.2.2 = 4 ∧ R.2.1 = 0 ∧ classV R.1 ≤ 4) ∨
  (R.2.2 = 5 ∧ R.2.1 = 16 ∧ classV R.1 = 3)
/-- lines, each tried where those before it do not hold -/
def LF (si fi : Bool) (x y : Int) : List Li → Prop
  | [] => FlagR si fi (0, 0, 0)
  | l :: ls => (l.1 x y = true → FlagR si fi (l.2 x y)) ∧ (l.1 x y = false → LF si fi x y ls)
theorem LF.rows {si fi : Bool} {x y : Int} : ∀ {ls : List Li}, LF si fi x y ls → FlagR si fi (rowsAt ls x y)
  | [], h => h
  | l :: ls, h => by
    unfold rowsAt
    cases hc : l.1 x y with
    | true => exact h.1 hc
    | false => exact LF.rows (h.2 hc)
theorem f_told (si fi : Bool) (b : Int) (h : classV b ≤ 4) : FlagR si fi (b, 0, 4) := Or.inr (Or.inr (Or.inr (Or.inr (Or.inl ⟨rfl, rfl, h⟩))))
theorem f_limit (si fi : Bool) (b : Int) (h : classV b = 3) : FlagR si fi (b, 16, 5) := Or.inr (Or.inr (Or.inr (Or.inr (Or.inr ⟨rfl, rfl, h⟩))))
theorem f_pole (si : Bool) (b : Int) (h : classV b = 4) : FlagR si true (b, 2, 3) := Or.inr (Or.inr (Or.inr (Or.inl ⟨rfl, h, rfl, rfl⟩)))
theorem f_out (fi : Bool) : FlagR false fi (9221120237041090560, 1, 2) := Or.inr (Or.inr (Or.inl ⟨rfl, rfl, rfl, rfl⟩))
theorem f_none (si : Bool) : FlagR si true (0, 0, 0) := Or.inl ⟨rfl, rfl, rfl, rfl⟩
theorem n_cls (b : Int) (h : U b) (s : Bool) (f k : Int) : classV (turnR s (b, f, k)).1 = classV b := by
  cases s
  · rfl
  · exact n_class b h
theorem f_stold (si fi s : Bool) (b : Int) (hb : U b) (h : classV b ≤ 4) : FlagR si fi (turnR s (b, 0, 4)) := by
  cases s
  · exact f_told si fi b h
  · exact f_told si fi (negV b) (by rw [n_class b hb]; exact h)
theorem f_slimit (si fi s : Bool) (b : Int) (hb : U b) (h : classV b = 3) : FlagR si fi (turnR s (b, 16, 5)) := by
  cases s
  · exact f_limit si fi b h
  · exact f_limit si fi (negV b) (by rw [n_class b hb]; exact h)
theorem f_spole (si s : Bool) (b : Int) (hb : U b) (h : classV b = 4) : FlagR si true (turnR s (b, 2, 3)) := by
  cases s
  · exact f_pole si b h
  · exact f_pole si (negV b) (by rw [n_class b hb]; exact h)
theorem U_tn (s : Bool) (b f k : Int) (hb : U b) : U (turnR s (b, f, k)).1 := by
  cases s
  · exact hb
  · unfold turnR negV U at *; simp only [if_true]; omega

theorem two_flag (A L : List Li) (x y : Int)
    (hL : ∀ si, si = ((classV x == 6) || (classV y == 6)) → si = false → LF false (decide (classV x < 4) && decide (classV y < 4)) x y (A ++ (tEither tQuiet, aNoNumber) :: L)) : FlagR ((classV x == 6) || (classV y == 6)) (decide (classV x < 4) && decide (classV y < 4)) (rowsAt (withN A L) x y) := by
  refine LF.rows (ls := withN A L) ⟨fun c => ?_, fun c1 => ?_⟩
  · have hc : ((classV x == 6) || (classV y == 6)) = true := c
    rw [hc]
    exact Or.inr (Or.inl ⟨rfl, rfl, rfl, Or.inl rfl⟩)
  · have hc : ((classV x == 6) || (classV y == 6)) = false := c1
    have := hL _ rfl hc
    rw [hc]
    exact this
theorem f_quiet : ∀ fi : Bool, FlagR false fi (9221120237041090560, 0, 1) := fun _ => Or.inr (Or.inl ⟨rfl, rfl, rfl, Or.inr rfl⟩)
theorem cc (x c : Int) (h : (classV x == c) = true) : classV x = c := by simpa using h
theorem cn (x c : Int) (h : (classV x == c) = false) : classV x ≠ c := by simpa using h
/-- nothing is left of a number where it is neither infinite nor above -/
theorem fin4 (x : Int) (h4 : classV x ≤ 4) (hi : classV x ≠ 4) : decide (classV x < 4) = true := by simp; omega
end Go.Proofs.YtkkccnpmcbpdnaaGreatDoor

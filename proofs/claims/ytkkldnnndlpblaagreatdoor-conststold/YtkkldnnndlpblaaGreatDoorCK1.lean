/- The constants' series in numbers: terms rounded down, their sums, how they stand at more bits; the seven constants and that all their enclosures have one number in them. -/
import Derived.Test.YtkkldnnndlpblaaGreatDoorTMA
namespace Go.Proofs.YtkkldnnndlpblaaGreatDoor
namespace Ck

def rfac : Nat → Nat
  | 0 => 1
  | n + 1 => (n + 1) * rfac n
/-- a series: what its terms are (0: the signs in turns, 1: all added, 2: the factorials), so many times, at what number, taken off or not -/
structure Pt where
  kind : Nat
  t : Nat
  a : Nat
  off : Bool
def den (p : Pt) (j : Nat) : Nat := if p.kind = 2 then rfac j else p.a * (p.a * p.a) ^ j * (2 * j + 1)
def term (p : Pt) (w j : Nat) : Nat := p.t * 2 ^ w / den p j
def fz (f : Nat → Nat) : Nat → Nat → Nat
  | 0, j => j
  | n + 1, j => if f j = 0 then j else fz f n (j + 1)
def cnt (p : Pt) (w : Nat) : Nat := fz (term p w) (w + 64) 0
def sd (p : Pt) (j : Nat) : Bool := p.off != (p.kind == 0 && j % 2 == 1)
def sm (p : Pt) (w : Nat) (s : Bool) : Nat → Nat
  | 0 => 0
  | j + 1 => sm p w s j + if sd p j = s then term p w j else 0
def sa (p : Pt) (w : Nat) : Nat → Nat
  | 0 => 0
  | j + 1 => sa p w j + term p w j
/-- a series that is right: what the program's table has -/
def ok (p : Pt) : Prop := 1 ≤ p.t ∧ p.t < 1024 ∧ (p.kind = 2 ∨ 3 ≤ p.a ∧ p.a < 65536)

theorem rfac_pos (n : Nat) : 0 < rfac n := by
  induction n with
  | zero => decide
  | succ n ih => exact Nat.mul_pos (by omega) ih
theorem rfac_two (n : Nat) : 2 ^ n ≤ rfac (n + 1) := by
  induction n with
  | zero => decide
  | succ n ih =>
    show 2 ^ (n + 1) ≤ (n + 2) * rfac (n + 1)
    rw [Nat.pow_succ, Nat.mul_comm]
    exact Nat.mul_le_mul (by omega) ih
theorem rfac_mono (m n : Nat) (h : m ≤ n) : rfac m ≤ rfac n := by
  induction n with
  | zero => rw [show m = 0 by omega]; exact Nat.le_refl _
  | succ n ih =>
    by_cases e : m = n + 1
    · rw [e]; exact Nat.le_refl _
    · exact Nat.le_trans (ih (by omega)) (Nat.le_mul_of_pos_left _ (by omega))
theorem den_pos (p : Pt) (h : ok p) (j : Nat) : 0 < den p j := by
  unfold den
  split
  · exact rfac_pos j
  · rename_i hk
    have ha : 3 ≤ p.a := (h.2.2.resolve_left hk).1
    exact Nat.mul_pos (Nat.mul_pos (by omega) (Nat.pow_pos (Nat.mul_pos (by omega) (by omega)))) (by omega)
theorem den_ten (p : Pt) (h : ok p) (j : Nat) (hj : p.kind = 2 → 9 ≤ j) : 9 * den p j ≤ den p (j + 1) := by
  unfold den
  split
  · rename_i hk
    exact Nat.mul_le_mul_right _ (by have := hj hk; omega)
  · rename_i hk
    have ha : 3 ≤ p.a := (h.2.2.resolve_left hk).1
    have h25 : 9 ≤ p.a * p.a := Nat.mul_le_mul ha ha
    generalize p.a * p.a = b at h25 ⊢
    rw [Nat.pow_succ, ← Nat.mul_assoc p.a]
    generalize p.a * b ^ j = c
    have e1 : c * 9 ≤ c * b := Nat.mul_le_mul_left _ (by omega)
    calc 9 * (c * (2 * j + 1)) = c * 9 * (2 * j + 1) := by rw [Nat.mul_comm 9, Nat.mul_right_comm]
      _ ≤ c * b * (2 * (j + 1) + 1) := Nat.mul_le_mul e1 (by omega)

theorem fz_spec (f : Nat → Nat) : ∀ n j, (∃ i, i < n ∧ f (j + i) = 0) → f (fz f n j) = 0 ∧ (∀ i, j ≤ i → i < fz f n j → f i ≠ 0) ∧ fz f n j < j + n ∧ j ≤ fz f n j := by
  intro n
  induction n with
  | zero => rintro j ⟨i, hi, _⟩; omega
  | succ n ih =>
    rintro j ⟨i, hi, h0⟩
    unfold fz
    split
    · rename_i h; exact ⟨h, fun i h1 h2 => by omega, by omega, by omega⟩
    · rename_i h
      have hi0 : i ≠ 0 := by rintro rfl; exact h h0
      obtain ⟨a1, a2, a3, a4⟩ := ih (j + 1) ⟨i - 1, by omega, by rw [show j + 1 + (i - 1) = j + i by omega]; exact h0⟩
      refine ⟨a1, fun i h1 h2 => ?_, by omega, by omega⟩
      by_cases e : i = j
      · rw [e]; exact h
      · exact a2 i (by omega) h2
theorem term_far (p : Pt) (h : ok p) (w : Nat) : term p w (w + 60) = 0 := by
  unfold term
  refine Nat.div_eq_of_lt ?_
  have e1 : p.t * 2 ^ w < 2 ^ (w + 10) := by
    rw [Nat.pow_add, Nat.mul_comm]; exact Nat.mul_lt_mul_of_pos_left h.2.1 (Nat.pow_pos (by decide))
  refine Nat.lt_of_lt_of_le e1 ?_
  unfold den
  split
  · exact Nat.le_trans (Nat.pow_le_pow_right (by decide) (by omega)) (rfac_two (w + 59))
  · rename_i hk
    have ha : 3 ≤ p.a := (h.2.2.resolve_left hk).1
    have h25 : 2 ≤ p.a * p.a := Nat.le_trans (by decide) (Nat.mul_le_mul ha ha)
    calc 2 ^ (w + 10) ≤ 2 ^ (w + 60) := Nat.pow_le_pow_right (by decide) (by omega)
      _ ≤ (p.a * p.a) ^ (w + 60) := Nat.pow_le_pow_left h25 _
      _ ≤ p.a * (p.a * p.a) ^ (w + 60) := Nat.le_mul_of_pos_left _ (by omega)
      _ ≤ _ := Nat.le_mul_of_pos_right _ (by omega)
theorem cnt_spec (p : Pt) (h : ok p) (w : Nat) : term p w (cnt p w) = 0 ∧ (∀ i, i < cnt p w → term p w i ≠ 0) ∧ cnt p w < w + 64 := by
  obtain ⟨a1, a2, a3, _⟩ := fz_spec (term p w) (w + 64) 0 ⟨w + 60, by omega, by rw [Nat.zero_add]; exact term_far p h w⟩
  exact ⟨a1, fun i hi => a2 i (Nat.zero_le _) hi, by unfold cnt; omega⟩

theorem floor_two (X D P : Nat) (hD : 0 < D) : (P * (X / D) ≤ P * X / D ∧ P * X / D + 1 ≤ P * (X / D) + P) ∨ P = 0 := by
  by_cases hP : P = 0
  · exact Or.inr hP
  refine Or.inl ⟨Nat.mul_div_le_mul_div_assoc _ _ _, ?_⟩
  have h1 : X < D * (X / D + 1) := by
    have := Nat.div_add_mod X D; have := Nat.mod_lt X hD; rw [Nat.mul_add]; omega
  have h2 : P * X < D * (P * (X / D + 1)) := by
    rw [Nat.mul_left_comm]; exact Nat.mul_lt_mul_of_pos_left h1 (by omega)
  have := (Nat.div_lt_iff_lt_mul hD).2 (show P * X < P * (X / D + 1) * D by rw [Nat.mul_comm (P * (X / D + 1))]; exact h2)
  rw [Nat.mul_add] at this
  omega
theorem term_up (p : Pt) (h : ok p) (w d j : Nat) : 2 ^ d * term p w j ≤ term p (w + d) j ∧ term p (w + d) j + 1 ≤ 2 ^ d * term p w j + 2 ^ d := by
  have e : p.t * 2 ^ (w + d) = 2 ^ d * (p.t * 2 ^ w) := by rw [Nat.pow_add, Nat.mul_left_comm, Nat.mul_comm (2 ^ d), Nat.mul_left_comm, Nat.mul_assoc]
  unfold term
  rw [e]
  exact (floor_two _ _ (2 ^ d) (den_pos p h j)).resolve_right (Nat.pos_iff_ne_zero.1 (Nat.pow_pos (by decide)))

/-- what is left out from the Nth on -/
def tl (D : Nat → Nat) (Y : Nat) : Nat → Nat → Nat
  | _, 0 => 0
  | N, m + 1 => Y / D N + tl D Y (N + 1) m
theorem tl_le (D : Nat → Nat) (Y : Nat) : ∀ m N, (∀ j, N ≤ j → 9 * D j ≤ D (j + 1)) → 8 * D N * tl D Y N m ≤ 9 * Y := by
  intro m
  induction m with
  | zero => intro N _; simp [tl]
  | succ m ih =>
    intro N h
    have h1 := ih (N + 1) (fun j hj => h j (by omega))
    have h2 := h N (Nat.le_refl _)
    have h3 := Nat.div_mul_le_self Y (D N)
    have h4 : 8 * (9 * D N) * tl D Y (N + 1) m ≤ 8 * D (N + 1) * tl D Y (N + 1) m := Nat.mul_le_mul_right _ (Nat.mul_le_mul_left _ h2)
    have e1 : 8 * (9 * D N) * tl D Y (N + 1) m = 9 * (8 * (D N * tl D Y (N + 1) m)) := by
      rw [Nat.mul_left_comm 8 9, Nat.mul_assoc 9, Nat.mul_assoc 8]
    show 8 * D N * (Y / D N + tl D Y (N + 1) m) ≤ 9 * Y
    rw [Nat.mul_add, Nat.mul_assoc, Nat.mul_assoc, Nat.mul_comm (D N)]
    generalize Y / D N * D N = u at *
    generalize D N * tl D Y (N + 1) m = v at *
    omega
theorem sa_tl (p : Pt) (w : Nat) : ∀ m N, sa p w (N + m) = sa p w N + tl (den p) (p.t * 2 ^ w) N m := by
  intro m
  induction m with
  | zero => intro N; simp [tl]
  | succ m ih =>
    intro N
    have := ih (N + 1)
    rw [show N + (m + 1) = N + 1 + m by omega, this]
    show sa p w N + term p w N + _ = sa p w N + (p.t * 2 ^ w / den p N + _)
    unfold term; omega
theorem sa_sm (p : Pt) (w : Nat) : ∀ n, sa p w n = sm p w false n + sm p w true n := by
  intro n
  induction n with
  | zero => rfl
  | succ n ih =>
    show sa p w n + _ = sm p w false n + _ + (sm p w true n + _)
    rw [ih]
    cases sd p n <;> simp <;> omega
theorem sa_head (p : Pt) (h : ok p) (w d : Nat) : ∀ n, sa p (w + d) n + n ≤ 2 ^ d * sa p w n + n * 2 ^ d := by
  intro n
  induction n with
  | zero => simp [sa]
  | succ n ih =>
    have := (term_up p h w d n).2
    show sa p (w + d) n + term p (w + d) n + (n + 1) ≤ 2 ^ d * (sa p w n + term p w n) + (n + 1) * 2 ^ d
    rw [Nat.mul_add, Nat.add_mul, Nat.one_mul]
    omega
theorem sm_up (p : Pt) (h : ok p) (w d : Nat) (s : Bool) : ∀ n, 2 ^ d * sm p w s n ≤ sm p (w + d) s n := by
  intro n
  induction n with
  | zero => simp [sm]
  | succ n ih =>
    have := (term_up p h w d n).1
    show 2 ^ d * (sm p w s n + _) ≤ sm p (w + d) s n + _
    rw [Nat.mul_add]
    split
    · omega
    · omega
theorem sm_mono (p : Pt) (w : Nat) (s : Bool) (m n : Nat) (h : m ≤ n) : sm p w s m ≤ sm p w s n := by
  induction n with
  | zero => rw [show m = 0 by omega]; exact Nat.le_refl _
  | succ n ih =>
    by_cases e : m = n + 1
    · rw [e]; exact Nat.le_refl _
    · exact Nat.le_trans (ih (by omega)) (Nat.le_add_right _ _)
theorem cnt_up (p : Pt) (h : ok p) (w d : Nat) : cnt p w ≤ cnt p (w + d) := by
  obtain ⟨_, a2, _⟩ := cnt_spec p h w
  obtain ⟨b1, _, _⟩ := cnt_spec p h (w + d)
  refine Nat.le_of_not_lt fun hl => a2 _ hl ?_
  have := (term_up p h w d (cnt p (w + d))).1
  rw [b1] at this
  have hp : 0 < 2 ^ d := Nat.pow_pos (by decide)
  exact (Nat.mul_eq_zero.1 (Nat.le_zero.1 this)).resolve_left (by omega)
theorem cnt_nine (p : Pt) (h : ok p) (w : Nat) (hw : 40 ≤ w) (hk : p.kind = 2) : 9 ≤ cnt p w := by
  obtain ⟨a1, _, _⟩ := cnt_spec p h w
  refine Nat.le_of_not_lt fun hl => ?_
  unfold term den at a1
  rw [if_pos hk] at a1
  have h1 : p.t * 2 ^ w < rfac (cnt p w) := by
    rcases Nat.div_eq_zero_iff.1 a1 with e | e
    · have := rfac_pos (cnt p w); omega
    · exact e
  have h2 := rfac_mono (cnt p w) 9 (by omega)
  have h3 : 2 ^ 40 ≤ 2 ^ w := Nat.pow_le_pow_right (by decide) hw
  have h4 : 2 ^ w ≤ p.t * 2 ^ w := Nat.le_mul_of_pos_left _ h.1
  have h5 : rfac 9 < 2 ^ 40 := by decide
  omega
/-- how many terms go to one sum -/
def ns (p : Pt) (s : Bool) : Nat → Nat
  | 0 => 0
  | j + 1 => ns p s j + if sd p j = s then 1 else 0
theorem ns_all (p : Pt) : ∀ n, ns p false n + ns p true n = n := by
  intro n
  induction n with
  | zero => rfl
  | succ n ih =>
    show ns p false n + _ + (ns p true n + _) = n + 1
    cases sd p n <;> simp <;> omega
theorem sm_head (p : Pt) (h : ok p) (w d : Nat) (s : Bool) : ∀ n, sm p (w + d) s n ≤ 2 ^ d * sm p w s n + ns p s n * 2 ^ d := by
  intro n
  induction n with
  | zero => simp [sm]
  | succ n ih =>
    have := (term_up p h w d n).2
    show sm p (w + d) s n + _ ≤ 2 ^ d * (sm p w s n + _) + (ns p s n + _) * 2 ^ d
    rw [Nat.mul_add, Nat.add_mul]
    split
    · omega
    · omega
theorem sm_tail (p : Pt) (w : Nat) (s : Bool) : ∀ m N, sm p w s (N + m) ≤ sm p w s N + tl (den p) (p.t * 2 ^ w) N m := by
  intro m
  induction m with
  | zero => intro N; simp [tl]
  | succ m ih =>
    intro N
    have := ih (N + 1)
    rw [show N + (m + 1) = N + 1 + m by omega]
    refine Nat.le_trans this ?_
    show sm p w s N + _ + _ ≤ sm p w s N + (p.t * 2 ^ w / den p N + _)
    have e : term p w N = p.t * 2 ^ w / den p N := rfl
    rw [e]
    split <;> omega
/-- of one series: at more bits each of its sums goes up by at most so many units -/
theorem side_up (p : Pt) (h : ok p) (w d : Nat) (hw : 40 ≤ w) (s : Bool) : 2 ^ d * sm p w s (cnt p w) ≤ sm p (w + d) s (cnt p (w + d)) ∧ 8 * sm p (w + d) s (cnt p (w + d)) ≤ 8 * (2 ^ d * sm p w s (cnt p w) + ns p s (cnt p w) * 2 ^ d) + 9 * 2 ^ d := by
  have hc := cnt_up p h w d
  refine ⟨Nat.le_trans (sm_up p h w d _ _) (sm_mono p _ _ _ _ hc), ?_⟩
  obtain ⟨m, hm⟩ : ∃ m, cnt p (w + d) = cnt p w + m := ⟨cnt p (w + d) - cnt p w, by omega⟩
  have h2 := tl_le (den p) (p.t * 2 ^ (w + d)) m (cnt p w) (fun j hj => den_ten p h j (fun hk => Nat.le_trans (cnt_nine p h w hw hk) hj))
  obtain ⟨a1, _, _⟩ := cnt_spec p h w
  have hD := den_pos p h (cnt p w)
  have h3 : p.t * 2 ^ w < den p (cnt p w) := by
    unfold term at a1
    rcases Nat.div_eq_zero_iff.1 a1 with e | e
    · omega
    · exact e
  have e4 : p.t * 2 ^ (w + d) = 2 ^ d * (p.t * 2 ^ w) := by rw [Nat.pow_add, Nat.mul_left_comm, Nat.mul_comm (2 ^ d), Nat.mul_left_comm, Nat.mul_assoc]
  have h4 : 8 * tl (den p) (p.t * 2 ^ (w + d)) (cnt p w) m ≤ 9 * 2 ^ d := by
    refine Nat.le_of_mul_le_mul_left ?_ hD
    calc den p (cnt p w) * (8 * tl (den p) (p.t * 2 ^ (w + d)) (cnt p w) m) = 8 * den p (cnt p w) * tl (den p) (p.t * 2 ^ (w + d)) (cnt p w) m := by rw [Nat.mul_left_comm, Nat.mul_assoc]
      _ ≤ 9 * (p.t * 2 ^ (w + d)) := h2
      _ = 9 * 2 ^ d * (p.t * 2 ^ w) := by rw [e4, Nat.mul_assoc]
      _ ≤ 9 * 2 ^ d * den p (cnt p w) := Nat.mul_le_mul_left _ (Nat.le_of_lt h3)
      _ = den p (cnt p w) * (9 * 2 ^ d) := Nat.mul_comm _ _
  have h5 := sm_head p h w d s (cnt p w)
  have h6 := sm_tail p (w + d) s m (cnt p w)
  rw [hm]
  generalize tl (den p) (p.t * 2 ^ (w + d)) (cnt p w) m = g3 at *
  omega
/-- of one series: at more bits the sums go up by at most so many units -/
theorem part_up (p : Pt) (h : ok p) (w d : Nat) (hw : 40 ≤ w) :
    2 ^ d * sm p w false (cnt p w) ≤ sm p (w + d) false (cnt p (w + d)) ∧ 2 ^ d * sm p w true (cnt p w) ≤ sm p (w + d) true (cnt p (w + d)) ∧
    8 * (sm p (w + d) false (cnt p (w + d)) + sm p (w + d) true (cnt p (w + d))) + 7 * 2 ^ d ≤ 8 * (2 ^ d * sm p w false (cnt p w) + 2 ^ d * sm p w true (cnt p w) + (cnt p w + 2) * 2 ^ d) := by
  have hc := cnt_up p h w d
  refine ⟨(side_up p h w d hw false).1, (side_up p h w d hw true).1, ?_⟩
  rw [← sa_sm, ← Nat.mul_add, ← sa_sm]
  obtain ⟨m, hm⟩ : ∃ m, cnt p (w + d) = cnt p w + m := ⟨cnt p (w + d) - cnt p w, by omega⟩
  rw [hm, sa_tl]
  have h1 := sa_head p h w d (cnt p w)
  have h2 := tl_le (den p) (p.t * 2 ^ (w + d)) m (cnt p w) (fun j hj => den_ten p h j (fun hk => Nat.le_trans (cnt_nine p h w hw hk) hj))
  obtain ⟨a1, _, _⟩ := cnt_spec p h w
  have hD := den_pos p h (cnt p w)
  have h3 : p.t * 2 ^ w < den p (cnt p w) := by
    unfold term at a1
    rcases Nat.div_eq_zero_iff.1 a1 with e | e
    · omega
    · exact e
  have e4 : p.t * 2 ^ (w + d) = 2 ^ d * (p.t * 2 ^ w) := by rw [Nat.pow_add, Nat.mul_left_comm, Nat.mul_comm (2 ^ d), Nat.mul_left_comm, Nat.mul_assoc]
  have h4 : 8 * tl (den p) (p.t * 2 ^ (w + d)) (cnt p w) m ≤ 9 * 2 ^ d := by
    refine Nat.le_of_mul_le_mul_left ?_ hD
    calc den p (cnt p w) * (8 * tl (den p) (p.t * 2 ^ (w + d)) (cnt p w) m) = 8 * den p (cnt p w) * tl (den p) (p.t * 2 ^ (w + d)) (cnt p w) m := by rw [Nat.mul_left_comm, Nat.mul_assoc]
      _ ≤ 9 * (p.t * 2 ^ (w + d)) := h2
      _ = 9 * 2 ^ d * (p.t * 2 ^ w) := by rw [e4, Nat.mul_assoc]
      _ ≤ 9 * 2 ^ d * den p (cnt p w) := Nat.mul_le_mul_left _ (Nat.le_of_lt h3)
      _ = den p (cnt p w) * (9 * 2 ^ d) := Nat.mul_comm _ _
  rw [Nat.add_mul]
  generalize 2 ^ d * sa p w (cnt p w) = g1 at *
  generalize cnt p w * 2 ^ d = g2 at *
  generalize tl (den p) (p.t * 2 ^ (w + d)) (cnt p w) m = g3 at *
  generalize sa p (w + d) (cnt p w) = g4 at *
  omega

def rec0 (k : Nat) : List Pt :=
  if k = 1 then [⟨0, 16, 5, false⟩, ⟨0, 4, 239, true⟩]
  else if k = 2 then [⟨1, 18, 26, false⟩, ⟨1, 2, 4801, true⟩, ⟨1, 8, 8749, false⟩]
  else if k = 3 then [⟨1, 478, 251, false⟩, ⟨1, 180, 449, false⟩, ⟨1, 126, 4801, true⟩, ⟨1, 206, 8749, false⟩]
  else [⟨2, 1, 1, false⟩]
def ov (k : Nat) : Nat := if k = 5 then 1 else if k = 6 then 2 else if k = 7 then 3 else 0
def tA (l : List Pt) (w : Nat) (s : Bool) : Nat := match l with | [] => 0 | p :: l => sm p w s (cnt p w) + tA l w s
def tU (l : List Pt) (w : Nat) : Nat := match l with | [] => 0 | p :: l => cnt p w + 2 + tU l w
theorem rec0_ok (k : Nat) : ∀ p ∈ rec0 k, ok p := by
  unfold rec0 ok
  repeat' split
  all_goals intro p hp; simp at hp
  all_goals (first | (rcases hp with rfl | rfl | rfl | rfl <;> decide) | (rcases hp with rfl | rfl | rfl <;> decide) | (rcases hp with rfl | rfl <;> decide) | (subst hp; decide))
theorem rec0_ne (k : Nat) : rec0 k ≠ [] ∧ (rec0 k).length ≤ 4 := by
  unfold rec0
  repeat' split
  all_goals exact ⟨by simp, by decide⟩
theorem tot_up0 (w d : Nat) (hw : 40 ≤ w) : ∀ l : List Pt, (∀ p ∈ l, ok p) →
    2 ^ d * tA l w false ≤ tA l (w + d) false ∧ 2 ^ d * tA l w true ≤ tA l (w + d) true ∧
    8 * (tA l (w + d) false + tA l (w + d) true) + 7 * l.length * 2 ^ d ≤ 8 * (2 ^ d * tA l w false + 2 ^ d * tA l w true + tU l w * 2 ^ d) := by
  intro l
  induction l with
  | nil => intro _; simp [tA, tU]
  | cons p l ih =>
    intro h
    obtain ⟨a1, a2, a3⟩ := ih (fun q hq => h q (List.mem_cons_of_mem _ hq))
    obtain ⟨b1, b2, b3⟩ := part_up p (h p List.mem_cons_self) w d hw
    simp only [tA, tU, Nat.mul_add, Nat.add_mul, List.length_cons] at *
    generalize 2 ^ d * sm p w false (cnt p w) = g1 at *
    generalize 2 ^ d * sm p w true (cnt p w) = g2 at *
    generalize 2 ^ d * tA l w false = g3 at *
    generalize 2 ^ d * tA l w true = g4 at *
    generalize tU l w * 2 ^ d = g5 at *
    generalize cnt p w * 2 ^ d = g6 at *
    have : 7 * l.length * 2 ^ d = 7 * (l.length * 2 ^ d) := Nat.mul_assoc _ _ _
    rw [this] at a3 ⊢
    clear this
    generalize l.length * 2 ^ d = g7 at *
    generalize 2 ^ d = P at *
    omega
theorem tU_le (w : Nat) : ∀ l : List Pt, (∀ p ∈ l, ok p) → tU l w ≤ l.length * (w + 66) := by
  intro l
  induction l with
  | nil => intro _; simp [tU]
  | cons p l ih =>
    intro h
    have := ih (fun q hq => h q (List.mem_cons_of_mem _ hq))
    have := (cnt_spec p (h p List.mem_cons_self) w).2.2
    simp only [tU, List.length_cons, Nat.add_mul, Nat.one_mul]
    omega

/-- what is added, what is taken off, by how many units both are off -/
def cA (k w : Nat) (s : Bool) : Nat := tA (rec0 k) w s
def cU (k w : Nat) : Nat := tU (rec0 k) w
def cM (k w : Nat) : Nat := cA k w false - cA k w true
def dLo (k w : Nat) : Nat := cM k w - cU k w
def dHi (k w : Nat) : Nat := cM k w + cU k w
/-- the program's enclosure in units of 2^-w -/
def eLo (k w : Nat) : Nat := if ov k = 0 then dLo k w else 2 ^ (2 * w) / dHi (ov k) w
def eHi (k w : Nat) : Nat := if ov k = 0 then dHi k w else 2 ^ (2 * w) / dLo (ov k) w + 1
/-- a number that lies in all of at most W bits: ptN over ptD -/
def ptN (k W : Nat) : Nat := if ov k = 0 then cM k W else 2 ^ W
def ptD (k W : Nat) : Nat := if ov k = 0 then 2 ^ W else cM (ov k) W

theorem c_up (k w d : Nat) (hw : 40 ≤ w) :
    2 ^ d * cA k w false ≤ cA k (w + d) false ∧ 2 ^ d * cA k w true ≤ cA k (w + d) true ∧
    8 * (cA k (w + d) false + cA k (w + d) true) + 7 * 2 ^ d ≤ 8 * (2 ^ d * cA k w false + 2 ^ d * cA k w true + cU k w * 2 ^ d) := by
  obtain ⟨a1, a2, a3⟩ := tot_up0 w d hw (rec0 k) (rec0_ok k)
  refine ⟨a1, a2, Nat.le_trans (Nat.add_le_add_left ?_ _) a3⟩
  refine Nat.mul_le_mul_right _ ?_
  have := (rec0_ne k).1
  cases h : rec0 k with
  | nil => exact absurd h this
  | cons p l => simp; omega
theorem cU_le (k w : Nat) : cU k w ≤ 4 * (w + 66) := Nat.le_trans (tU_le w (rec0 k) (rec0_ok k)) (Nat.mul_le_mul_right _ (rec0_ne k).2)
def base (k : Nat) : Bool := decide (cA k 40 true + cU k 40 + 2 ^ 38 ≤ cA k 40 false ∧ cA k 40 false + cU k 40 ≤ cA k 40 true + 2 ^ 42)
theorem lin (w : Nat) (h : 40 ≤ w) : 4 * (w + 66) + 2 ^ (w - 3) ≤ 2 ^ (w - 2) := by
  obtain ⟨d, rfl⟩ : ∃ d, w = 40 + d := ⟨w - 40, by omega⟩
  rw [show 40 + d - 3 = 37 + d by omega, show 40 + d - 2 = 38 + d by omega, Nat.pow_add, Nat.pow_add]
  have : d < 2 ^ d := Nat.lt_two_pow_self
  generalize 2 ^ d = P at *
  omega
theorem c_size (k w : Nat) (h : base k = true) (hw : 40 ≤ w) : cA k w true + cU k w + 2 ^ (w - 3) ≤ cA k w false ∧ cA k w false ≤ cA k w true + 2 ^ (w + 2) := by
  obtain ⟨d, rfl⟩ : ∃ d, w = 40 + d := ⟨w - 40, by omega⟩
  obtain ⟨a1, a2, a3⟩ := c_up k 40 d (Nat.le_refl _)
  obtain ⟨h1, h1'⟩ := of_decide_eq_true h
  have h2 := cU_le k (40 + d)
  have h3 := lin (40 + d) (by omega)
  obtain ⟨X, hX⟩ : ∃ X : Nat, X = 38 := ⟨_, rfl⟩
  obtain ⟨Y, hY⟩ : ∃ Y : Nat, Y = 42 := ⟨_, rfl⟩
  rw [← hX] at h1
  rw [← hY] at h1'
  rw [show 40 + d - 2 = X + d by omega] at h3
  rw [show 40 + d + 2 = Y + d by omega]
  have e1 : 2 ^ (X + d) = 2 ^ d * 2 ^ X := by rw [Nat.pow_add, Nat.mul_comm]
  have e2 : 2 ^ (Y + d) = 2 ^ d * 2 ^ Y := by rw [Nat.pow_add, Nat.mul_comm]
  have m1 := Nat.mul_le_mul_left (2 ^ d) h1
  have m2 := Nat.mul_le_mul_left (2 ^ d) h1'
  rw [Nat.mul_add, Nat.mul_add] at m1 m2
  rw [Nat.mul_comm (cU k 40)] at a3
  rw [e1] at h3
  rw [e2]
  clear h1 h1' e1 e2 h hX hY
  generalize 2 ^ d * cA k 40 false = g1 at *
  generalize 2 ^ d * cA k 40 true = g2 at *
  generalize 2 ^ d * cU k 40 = g3 at *
  generalize 2 ^ d * 2 ^ X = g4 at *
  generalize 2 ^ d * 2 ^ Y = g5 at *
  generalize 2 ^ (40 + d - 3) = g6 at *
  generalize 2 ^ d = P at *
  omega
/-- the middle at more bits lies between the ends at fewer -/
theorem d_in (k w d : Nat) (h : base k = true) (hw : 40 ≤ w) : 2 ^ d * dLo k w ≤ cM k (w + d) ∧ cM k (w + d) ≤ 2 ^ d * dHi k w ∧ 8 * (2 ^ d * dLo k w) + 7 * 2 ^ d ≤ 8 * cM k (w + d) ∧ 8 * cM k (w + d) + 7 * 2 ^ d ≤ 8 * (2 ^ d * dHi k w) := by
  obtain ⟨a1, a2, a3⟩ := c_up k w d hw
  have s1 := (c_size k w h hw).1
  have s2 := (c_size k (w + d) h (by omega)).1
  unfold dLo dHi cM
  rw [Nat.mul_sub, Nat.mul_sub, Nat.mul_add, Nat.mul_sub]
  rw [Nat.mul_comm (cU k w)] at a3
  have m1 := Nat.mul_le_mul_left (2 ^ d) (show cA k w true + cU k w ≤ cA k w false from Nat.le_trans (Nat.le_add_right _ _) s1)
  rw [Nat.mul_add] at m1
  generalize 2 ^ (w - 3) = p1 at *
  generalize 2 ^ (w + d - 3) = p2 at *
  generalize 2 ^ d * cA k w false = g1 at *
  generalize 2 ^ d * cA k w true = g2 at *
  generalize 2 ^ d * cU k w = g3 at *
  generalize 2 ^ d = P at *
  omega
theorem ov_cases (k : Nat) : ov k = 0 ∨ ov k = 1 ∨ ov k = 2 ∨ ov k = 3 := by
  unfold ov
  repeat' split
  all_goals simp
theorem lo_pos (k w : Nat) (h : base k = true) (hw : 40 ≤ w) : 2 ^ (w - 3) ≤ dLo k w ∧ dHi k w ≤ 2 ^ (w + 3) := by
  obtain ⟨s1, s2⟩ := c_size k w h hw
  have h2 := cU_le k w
  have h3 := lin w hw
  have e1 : 2 ^ (w + 3) = 2 ^ (w + 2) + 2 ^ (w + 2) := by rw [show w + 3 = w + 2 + 1 by omega, Nat.pow_succ, Nat.mul_two]
  have e2 : 2 ^ (w - 2) ≤ 2 ^ (w + 2) := Nat.pow_le_pow_right (by decide) (by omega)
  unfold dLo dHi cM
  rw [e1]
  clear e1
  generalize 2 ^ (w - 3) = p1 at *
  generalize 2 ^ (w - 2) = p2 at *
  generalize 2 ^ (w + 2) = p3 at *
  omega
theorem e_in (k w d : Nat) (h : base (if ov k = 0 then k else ov k) = true) (hw : 40 ≤ w) :
    eLo k w * ptD k (w + d) ≤ ptN k (w + d) * 2 ^ w ∧ ptN k (w + d) * 2 ^ w ≤ eHi k w * ptD k (w + d) ∧ 0 < ptD k (w + d) := by
  unfold eLo eHi ptN ptD
  split at h
  · rename_i h0
    obtain ⟨a1, a2, _⟩ := d_in k w d h hw
    rw [if_pos h0, if_pos h0, if_pos h0, if_pos h0, Nat.pow_add, Nat.mul_comm (cM k (w + d))]
    refine ⟨?_, ?_, Nat.mul_pos (Nat.pow_pos (by decide)) (Nat.pow_pos (by decide))⟩
    · rw [Nat.mul_left_comm]; exact Nat.mul_le_mul_left _ (by rw [Nat.mul_comm]; exact a1)
    · rw [Nat.mul_left_comm]; exact Nat.mul_le_mul_left _ (by rw [Nat.mul_comm (dHi k w)]; exact a2)
  · rename_i h0
    obtain ⟨a1, a2, _⟩ := d_in (ov k) w d h hw
    have p1 := (lo_pos (ov k) w h hw).1
    have p2 := (lo_pos (ov k) (w + d) h (by omega)).1
    have q1 : 0 < 2 ^ (w - 3) := Nat.pow_pos (by decide)
    have q2 : 0 < 2 ^ (w + d - 3) := Nat.pow_pos (by decide)
    rw [if_neg h0, if_neg h0, if_neg h0, if_neg h0]
    generalize ov k = j at *
    have hl : 0 < dLo j w := by omega
    have hh : 0 < dHi j w := by unfold dLo dHi at *; omega
    have hm : 0 < cM j (w + d) := by unfold dLo at p2; omega
    have e : 2 ^ (w + d) * 2 ^ w = 2 ^ d * 2 ^ (2 * w) := by rw [← Nat.pow_add, ← Nat.pow_add]; congr 1; omega
    rw [e]
    refine ⟨?_, ?_, hm⟩
    · calc 2 ^ (2 * w) / dHi j w * cM j (w + d) ≤ 2 ^ (2 * w) / dHi j w * (2 ^ d * dHi j w) := Nat.mul_le_mul_left _ a2
        _ = 2 ^ d * (2 ^ (2 * w) / dHi j w * dHi j w) := by rw [Nat.mul_left_comm]
        _ ≤ _ := Nat.mul_le_mul_left _ (Nat.div_mul_le_self _ _)
    · calc 2 ^ d * 2 ^ (2 * w) ≤ 2 ^ d * ((2 ^ (2 * w) / dLo j w + 1) * dLo j w) := by
            refine Nat.mul_le_mul_left _ ?_
            have := Nat.div_add_mod (2 ^ (2 * w)) (dLo j w)
            have := Nat.mod_lt (2 ^ (2 * w)) hl
            rw [Nat.add_mul, Nat.one_mul, Nat.mul_comm (_ / _)]; omega
        _ = (2 ^ (2 * w) / dLo j w + 1) * (2 ^ d * dLo j w) := by rw [Nat.mul_left_comm]
        _ ≤ _ := Nat.mul_le_mul_left _ a1
/-- where both ends, so many times and cut, are alike, that is the number so many times, cut -/
theorem told (k w d F q : Nat) (h : base (if ov k = 0 then k else ov k) = true) (hw : 40 ≤ w) (h1 : eLo k w * F / 2 ^ w = q) (h2 : eHi k w * F / 2 ^ w = q) : ptN k (w + d) * F / ptD k (w + d) = q := by
  obtain ⟨a1, a2, a3⟩ := e_in k w d h hw
  have hp : 0 < 2 ^ w := Nat.pow_pos (by decide)
  generalize ptN k (w + d) = N at *
  generalize ptD k (w + d) = D at *
  generalize 2 ^ w = P at *
  generalize eLo k w = l at *
  generalize eHi k w = u at *
  have l1 : q * P ≤ l * F := by rw [← h1]; exact Nat.div_mul_le_self _ _
  have u1 : u * F < (q + 1) * P := by
    have e1 := Nat.div_add_mod (u * F) P
    have e2 := Nat.mod_lt (u * F) hp
    rw [h2] at e1
    rw [Nat.add_mul, Nat.one_mul, Nat.mul_comm q]
    omega
  refine Nat.le_antisymm ?_ ?_
  · refine Nat.le_of_lt_succ ((Nat.div_lt_iff_lt_mul a3).2 ?_)
    refine Nat.lt_of_mul_lt_mul_left (a := P) ?_
    calc P * (N * F) = N * P * F := by rw [Nat.mul_left_comm, Nat.mul_assoc]
      _ ≤ u * D * F := Nat.mul_le_mul_right _ a2
      _ = u * F * D := Nat.mul_right_comm _ _ _
      _ < (q + 1) * P * D := Nat.mul_lt_mul_of_pos_right u1 a3
      _ = P * ((q + 1) * D) := by rw [Nat.mul_comm (q + 1), Nat.mul_assoc]
  · refine (Nat.le_div_iff_mul_le a3).2 ?_
    refine Nat.le_of_mul_le_mul_left (c := P) ?_ hp
    calc P * (q * D) = q * P * D := by rw [Nat.mul_left_comm, Nat.mul_assoc]
      _ ≤ l * F * D := Nat.mul_le_mul_right _ l1
      _ = l * D * F := Nat.mul_right_comm _ _ _
      _ ≤ N * P * F := Nat.mul_le_mul_right _ a1
      _ = P * (N * F) := by rw [Nat.mul_left_comm, Nat.mul_assoc]

theorem base_all : base 1 = true ∧ base 2 = true ∧ base 3 = true ∧ base 4 = true := by decide +kernel
theorem lives_pi : eLo 1 131 * 10 ^ 20 / 2 ^ 131 = 314159265358979323846 ∧ eHi 1 131 * 10 ^ 20 / 2 ^ 131 = 314159265358979323846 := by decide +kernel
theorem lives_bits : eLo 1 67 * 2 ^ 2 / 2 ^ 67 = 12 ∧ eHi 1 67 * 2^2 / 2 ^ 67 = 12 := by decide +kernel
end Ck
end Go.Proofs.YtkkldnnndlpblaaGreatDoor

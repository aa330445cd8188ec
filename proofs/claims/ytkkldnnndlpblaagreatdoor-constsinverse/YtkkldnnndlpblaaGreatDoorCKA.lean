/- The constants' series in numbers: terms rounded down, their sums, how they stand at more bits; the seven constants and that all their enclosures have one number in them. The constants' enclosures lie in one another where they have far more bits. The document's constants in numbers: what they come to, and by how many units they are off. -/
import Derived.Test.YtkkldnnndlpblaaGreatDoorTMA

namespace Go.Proofs.YtkkldnnndlpblaaGreatDoor
namespace Ck

def rfac : Nat → Nat
  | 0 => 1
  | n + 1 => (n + 1) * rfac n

/-- a series: what its terms are (0: the signs in turns, 1: all added, 2: the factorials), so many times, at what number, taken off or not -/
structure Pt where
  kind : Nat
  t : Nat
  a : Nat
  off : Bool

def den (p : Pt) (j : Nat) : Nat := if p.kind = 2 then rfac j else p.a * (p.a * p.a) ^ j * (2 * j + 1)

def term (p : Pt) (w j : Nat) : Nat := p.t * 2 ^ w / den p j

def fz (f : Nat → Nat) : Nat → Nat → Nat
  | 0, j => j
  | n + 1, j => if f j = 0 then j else fz f n (j + 1)

def cnt (p : Pt) (w : Nat) : Nat := fz (term p w) (w + 64) 0

def sd (p : Pt) (j : Nat) : Bool := p.off != (p.kind == 0 && j % 2 == 1)

def sm (p : Pt) (w : Nat) (s : Bool) : Nat → Nat
  | 0 => 0
  | j + 1 => sm p w s j + if sd p j = s then term p w j else 0

def sa (p : Pt) (w : Nat) : Nat → Nat
  | 0 => 0
  | j + 1 => sa p w j + term p w j

/-- a series that is right: what the program's table has -/
def ok (p : Pt) : Prop := 1 ≤ p.t ∧ p.t < 1024 ∧ (p.kind = 2 ∨ 3 ≤ p.a ∧ p.a < 65536)

theorem rfac_pos (n : Nat) : 0 < rfac n := by
  induction n with
  | zero => decide
  | succ n ih => exact Nat.mul_pos (by omega) ih

theorem rfac_two (n : Nat) : 2 ^ n ≤ rfac (n + 1) := by
  induction n with
  | zero => decide
  | succ n ih =>
    show 2 ^ (n + 1) ≤ (n + 2) * rfac (n + 1)
    rw [Nat.pow_succ, Nat.mul_comm]
    exact Nat.mul_le_mul (by omega) ih

theorem rfac_mono (m n : Nat) (h : m ≤ n) : rfac m ≤ rfac n := by
  induction n with
  | zero => rw [show m = 0 by omega]; exact Nat.le_refl _
  | succ n ih =>
    by_cases e : m = n + 1
    · rw [e]; exact Nat.le_refl _
    · exact Nat.le_trans (ih (by omega)) (Nat.le_mul_of_pos_left _ (by omega))

theorem den_pos (p : Pt) (h : ok p) (j : Nat) : 0 < den p j := by
  unfold den
  split
  · exact rfac_pos j
  · rename_i hk
    have ha : 3 ≤ p.a := (h.2.2.resolve_left hk).1
    exact Nat.mul_pos (Nat.mul_pos (by omega) (Nat.pow_pos (Nat.mul_pos (by omega) (by omega)))) (by omega)

theorem den_ten (p : Pt) (h : ok p) (j : Nat) (hj : p.kind = 2 → 9 ≤ j) : 9 * den p j ≤ den p (j + 1) := by
  unfold den
  split
  · rename_i hk
    exact Nat.mul_le_mul_right _ (by have := hj hk; omega)
  · rename_i hk
    have ha : 3 ≤ p.a := (h.2.2.resolve_left hk).1
    have h25 : 9 ≤ p.a * p.a := Nat.mul_le_mul ha ha
    generalize p.a * p.a = b at h25 ⊢
    rw [Nat.pow_succ, ← Nat.mul_assoc p.a]
    generalize p.a * b ^ j = c
    have e1 : c * 9 ≤ c * b := Nat.mul_le_mul_left _ (by omega)
    calc 9 * (c * (2 * j + 1)) = c * 9 * (2 * j + 1) := by rw [Nat.mul_comm 9, Nat.mul_right_comm]
      _ ≤ c * b * (2 * (j + 1) + 1) := Nat.mul_le_mul e1 (by omega)

theorem fz_spec (f : Nat → Nat) : ∀ n j, (∃ i, i < n ∧ f (j + i) = 0) → f (fz f n j) = 0 ∧ (∀ i, j ≤ i → i < fz f n j → f i ≠ 0) ∧ fz f n j < j + n ∧ j ≤ fz f n j := by
  intro n
  induction n with
  | zero => rintro j ⟨i, hi, _⟩; omega
  | succ n ih =>
    rintro j ⟨i, hi, h0⟩
    unfold fz
    split
    · rename_i h; exact ⟨h, fun i h1 h2 => by omega, by omega, by omega⟩
    · rename_i h
      have hi0 : i ≠ 0 := by rintro rfl; exact h h0
      obtain ⟨a1, a2, a3, a4⟩ := ih (j + 1) ⟨i - 1, by omega, by rw [show j + 1 + (i - 1) = j + i by omega]; exact h0⟩
      refine ⟨a1, fun i h1 h2 => ?_, by omega, by omega⟩
      by_cases e : i = j
      · rw [e]; exact h
      · exact a2 i (by omega) h2

theorem term_far (p : Pt) (h : ok p) (w : Nat) : term p w (w + 60) = 0 := by
  unfold term
  refine Nat.div_eq_of_lt ?_
  have e1 : p.t * 2 ^ w < 2 ^ (w + 10) := by
    rw [Nat.pow_add, Nat.mul_comm]; exact Nat.mul_lt_mul_of_pos_left h.2.1 (Nat.pow_pos (by decide))
  refine Nat.lt_of_lt_of_le e1 ?_
  unfold den
  split
  · exact Nat.le_trans (Nat.pow_le_pow_right (by decide) (by omega)) (rfac_two (w + 59))
  · rename_i hk
    have ha : 3 ≤ p.a := (h.2.2.resolve_left hk).1
    have h25 : 2 ≤ p.a * p.a := Nat.le_trans (by decide) (Nat.mul_le_mul ha ha)
    calc 2 ^ (w + 10) ≤ 2 ^ (w + 60) := Nat.pow_le_pow_right (by decide) (by omega)
      _ ≤ (p.a * p.a) ^ (w + 60) := Nat.pow_le_pow_left h25 _
      _ ≤ p.a * (p.a * p.a) ^ (w + 60) := Nat.le_mul_of_pos_left _ (by omega)
      _ ≤ _ := Nat.le_mul_of_pos_right _ (by omega)

theorem cnt_spec (p : Pt) (h : ok p) (w : Nat) : term p w (cnt p w) = 0 ∧ (∀ i, i < cnt p w → term p w i ≠ 0) ∧ cnt p w < w + 64 := by
  obtain ⟨a1, a2, a3, _⟩ := fz_spec (term p w) (w + 64) 0 ⟨w + 60, by omega, by rw [Nat.zero_add]; exact term_far p h w⟩
  exact ⟨a1, fun i hi => a2 i (Nat.zero_le _) hi, by unfold cnt; omega⟩

theorem floor_two (X D P : Nat) (hD : 0 < D) : (P * (X / D) ≤ P * X / D ∧ P * X / D + 1 ≤ P * (X / D) + P) ∨ P = 0 := by
  by_cases hP : P = 0
  · exact Or.inr hP
  refine Or.inl ⟨Nat.mul_div_le_mul_div_assoc _ _ _, ?_⟩
  have h1 : X < D * (X / D + 1) := by
    have := Nat.div_add_mod X D; have := Nat.mod_lt X hD; rw [Nat.mul_add]; omega
  have h2 : P * X < D * (P * (X / D + 1)) := by
    rw [Nat.mul_left_comm]; exact Nat.mul_lt_mul_of_pos_left h1 (by omega)
  have := (Nat.div_lt_iff_lt_mul hD).2 (show P * X < P * (X / D + 1) * D by rw [Nat.mul_comm (P * (X / D + 1))]; exact h2)
  rw [Nat.mul_add] at this
  omega

theorem term_up (p : Pt) (h : ok p) (w d j : Nat) : 2 ^ d * term p w j ≤ term p (w + d) j ∧ term p (w + d) j + 1 ≤ 2 ^ d * term p w j + 2 ^ d := by
  have e : p.t * 2 ^ (w + d) = 2 ^ d * (p.t * 2 ^ w) := by rw [Nat.pow_add, Nat.mul_left_comm, Nat.mul_comm (2 ^ d), Nat.mul_left_comm, Nat.mul_assoc]
  unfold term
  rw [e]
  exact (floor_two _ _ (2 ^ d) (den_pos p h j)).resolve_right (Nat.pos_iff_ne_zero.1 (Nat.pow_pos (by decide)))

/-- what is left out from the Nth on -/
def tl (D : Nat → Nat) (Y : Nat) : Nat → Nat → Nat
  | _, 0 => 0
  | N, m + 1 => Y / D N + tl D Y (N + 1) m

theorem tl_le (D : Nat → Nat) (Y : Nat) : ∀ m N, (∀ j, N ≤ j → 9 * D j ≤ D (j + 1)) → 8 * D N * tl D Y N m ≤ 9 * Y := by
  intro m
  induction m with
  | zero => intro N _; simp [tl]
  | succ m ih =>
    intro N h
    have h1 := ih (N + 1) (fun j hj => h j (by omega))
    have h2 := h N (Nat.le_refl _)
    have h3 := Nat.div_mul_le_self Y (D N)
    have h4 : 8 * (9 * D N) * tl D Y (N + 1) m ≤ 8 * D (N + 1) * tl D Y (N + 1) m := Nat.mul_le_mul_right _ (Nat.mul_le_mul_left _ h2)
    have e1 : 8 * (9 * D N) * tl D Y (N + 1) m = 9 * (8 * (D N * tl D Y (N + 1) m)) := by
      rw [Nat.mul_left_comm 8 9, Nat.mul_assoc 9, Nat.mul_assoc 8]
    show 8 * D N * (Y / D N + tl D Y (N + 1) m) ≤ 9 * Y
    rw [Nat.mul_add, Nat.mul_assoc, Nat.mul_assoc, Nat.mul_comm (D N)]
    generalize Y / D N * D N = u at *
    generalize D N * tl D Y (N + 1) m = v at *
    omega

theorem sa_tl (p : Pt) (w : Nat) : ∀ m N, sa p w (N + m) = sa p w N + tl (den p) (p.t * 2 ^ w) N m := by
  intro m
  induction m with
  | zero => intro N; simp [tl]
  | succ m ih =>
    intro N
    have := ih (N + 1)
    rw [show N + (m + 1) = N + 1 + m by omega, this]
    show sa p w N + term p w N + _ = sa p w N + (p.t * 2 ^ w / den p N + _)
    unfold term; omega

theorem sa_sm (p : Pt) (w : Nat) : ∀ n, sa p w n = sm p w false n + sm p w true n := by
  intro n
  induction n with
  | zero => rfl
  | succ n ih =>
    show sa p w n + _ = sm p w false n + _ + (sm p w true n + _)
    rw [ih]
    cases sd p n <;> simp <;> omega

theorem sa_head (p : Pt) (h : ok p) (w d : Nat) : ∀ n, sa p (w + d) n + n ≤ 2 ^ d * sa p w n + n * 2 ^ d := by
  intro n
  induction n with
  | zero => simp [sa]
  | succ n ih =>
    have := (term_up p h w d n).2
    show sa p (w + d) n + term p (w + d) n + (n + 1) ≤ 2 ^ d * (sa p w n + term p w n) + (n + 1) * 2 ^ d
    rw [Nat.mul_add, Nat.add_mul, Nat.one_mul]
    omega

theorem sm_up (p : Pt) (h : ok p) (w d : Nat) (s : Bool) : ∀ n, 2 ^ d * sm p w s n ≤ sm p (w + d) s n := by
  intro n
  induction n with
  | zero => simp [sm]
  | succ n ih =>
    have := (term_up p h w d n).1
    show 2 ^ d * (sm p w s n + _) ≤ sm p (w + d) s n + _
    rw [Nat.mul_add]
    split
    · omega
    · omega

theorem sm_mono (p : Pt) (w : Nat) (s : Bool) (m n : Nat) (h : m ≤ n) : sm p w s m ≤ sm p w s n := by
  induction n with
  | zero => rw [show m = 0 by omega]; exact Nat.le_refl _
  | succ n ih =>
    by_cases e : m = n + 1
    · rw [e]; exact Nat.le_refl _
    · exact Nat.le_trans (ih (by omega)) (Nat.le_add_right _ _)

theorem cnt_up (p : Pt) (h : ok p) (w d : Nat) : cnt p w ≤ cnt p (w + d) := by
  obtain ⟨_, a2, _⟩ := cnt_spec p h w
  obtain ⟨b1, _, _⟩ := cnt_spec p h (w + d)
  refine Nat.le_of_not_lt fun hl => a2 _ hl ?_
  have := (term_up p h w d (cnt p (w + d))).1
  rw [b1] at this
  have hp : 0 < 2 ^ d := Nat.pow_pos (by decide)
  exact (Nat.mul_eq_zero.1 (Nat.le_zero.1 this)).resolve_left (by omega)

theorem cnt_nine (p : Pt) (h : ok p) (w : Nat) (hw : 40 ≤ w) (hk : p.kind = 2) : 9 ≤ cnt p w := by
  obtain ⟨a1, _, _⟩ := cnt_spec p h w
  refine Nat.le_of_not_lt fun hl => ?_
  unfold term den at a1
  rw [if_pos hk] at a1
  have h1 : p.t * 2 ^ w < rfac (cnt p w) := by
    rcases Nat.div_eq_zero_iff.1 a1 with e | e
    · have := rfac_pos (cnt p w); omega
    · exact e
  have h2 := rfac_mono (cnt p w) 9 (by omega)
  have h3 : 2 ^ 40 ≤ 2 ^ w := Nat.pow_le_pow_right (by decide) hw
  have h4 : 2 ^ w ≤ p.t * 2 ^ w := Nat.le_mul_of_pos_left _ h.1
  have h5 : rfac 9 < 2 ^ 40 := by decide
  omega

/-- how many terms go to one sum -/
def ns (p : Pt) (s : Bool) : Nat → Nat
  | 0 => 0
  | j + 1 => ns p s j + if sd p j = s then 1 else 0

theorem ns_all (p : Pt) : ∀ n, ns p false n + ns p true n = n := by
  intro n
  induction n with
  | zero => rfl
  | succ n ih =>
    show ns p false n + _ + (ns p true n + _) = n + 1
    cases sd p n <;> simp <;> omega

theorem sm_head (p : Pt) (h : ok p) (w d : Nat) (s : Bool) : ∀ n, sm p (w + d) s n ≤ 2 ^ d * sm p w s n + ns p s n * 2 ^ d := by
  intro n
  induction n with
  | zero => simp [sm]
  | succ n ih =>
    have := (term_up p h w d n).2
    show sm p (w + d) s n + _ ≤ 2 ^ d * (sm p w s n + _) + (ns p s n + _) * 2 ^ d
    rw [Nat.mul_add, Nat.add_mul]
    split
    · omega
    · omega

theorem sm_tail (p : Pt) (w : Nat) (s : Bool) : ∀ m N, sm p w s (N + m) ≤ sm p w s N + tl (den p) (p.t * 2 ^ w) N m := by
  intro m
  induction m with
  | zero => intro N; simp [tl]
  | succ m ih =>
    intro N
    have := ih (N + 1)
    rw [show N + (m + 1) = N + 1 + m by omega]
    refine Nat.le_trans this ?_
    show sm p w s N + _ + _ ≤ sm p w s N + (p.t * 2 ^ w / den p N + _)
    have e : term p w N = p.t * 2 ^ w / den p N := rfl
    rw [e]
    split <;> omega

/-- of one series: at more bits each of its sums goes up by at most so many units -/
theorem side_up (p : Pt) (h : ok p) (w d : Nat) (hw : 40 ≤ w) (s : Bool) : 2 ^ d * sm p w s (cnt p w) ≤ sm p (w + d) s (cnt p (w + d)) ∧ 8 * sm p (w + d) s (cnt p (w + d)) ≤ 8 * (2 ^ d * sm p w s (cnt p w) + ns p s (cnt p w) * 2 ^ d) + 9 * 2 ^ d := by
  have hc := cnt_up p h w d
  refine ⟨Nat.le_trans (sm_up p h w d _ _) (sm_mono p _ _ _ _ hc), ?_⟩
  obtain ⟨m, hm⟩ : ∃ m, cnt p (w + d) = cnt p w + m := ⟨cnt p (w + d) - cnt p w, by omega⟩
  have h2 := tl_le (den p) (p.t * 2 ^ (w + d)) m (cnt p w) (fun j hj => den_ten p h j (fun hk => Nat.le_trans (cnt_nine p h w hw hk) hj))
  obtain ⟨a1, _, _⟩ := cnt_spec p h w
  have hD := den_pos p h (cnt p w)
  have h3 : p.t * 2 ^ w < den p (cnt p w) := by
    unfold term at a1
    rcases Nat.div_eq_zero_iff.1 a1 with e | e
    · omega
    · exact e
  have e4 : p.t * 2 ^ (w + d) = 2 ^ d * (p.t * 2 ^ w) := by rw [Nat.pow_add, Nat.mul_left_comm, Nat.mul_comm (2 ^ d), Nat.mul_left_comm, Nat.mul_assoc]
  have h4 : 8 * tl (den p) (p.t * 2 ^ (w + d)) (cnt p w) m ≤ 9 * 2 ^ d := by
    refine Nat.le_of_mul_le_mul_left ?_ hD
    calc den p (cnt p w) * (8 * tl (den p) (p.t * 2 ^ (w + d)) (cnt p w) m) = 8 * den p (cnt p w) * tl (den p) (p.t * 2 ^ (w + d)) (cnt p w) m := by rw [Nat.mul_left_comm, Nat.mul_assoc]
      _ ≤ 9 * (p.t * 2 ^ (w + d)) := h2
      _ = 9 * 2 ^ d * (p.t * 2 ^ w) := by rw [e4, Nat.mul_assoc]
      _ ≤ 9 * 2 ^ d * den p (cnt p w) := Nat.mul_le_mul_left _ (Nat.le_of_lt h3)
      _ = den p (cnt p w) * (9 * 2 ^ d) := Nat.mul_comm _ _
  have h5 := sm_head p h w d s (cnt p w)
  have h6 := sm_tail p (w + d) s m (cnt p w)
  rw [hm]
  generalize tl (den p) (p.t * 2 ^ (w + d)) (cnt p w) m = g3 at *
  omega

/-- of one series: at more bits the sums go up by at most so many units -/
theorem part_up (p : Pt) (h : ok p) (w d : Nat) (hw : 40 ≤ w) :
    2 ^ d * sm p w false (cnt p w) ≤ sm p (w + d) false (cnt p (w + d)) ∧ 2 ^ d * sm p w true (cnt p w) ≤ sm p (w + d) true (cnt p (w + d)) ∧
    8 * (sm p (w + d) false (cnt p (w + d)) + sm p (w + d) true (cnt p (w + d))) + 7 * 2 ^ d ≤ 8 * (2 ^ d * sm p w false (cnt p w) + 2 ^ d * sm p w true (cnt p w) + (cnt p w + 2) * 2 ^ d) := by
  have hc := cnt_up p h w d
  refine ⟨(side_up p h w d hw false).1, (side_up p h w d hw true).1, ?_⟩
  rw [← sa_sm, ← Nat.mul_add, ← sa_sm]
  obtain ⟨m, hm⟩ : ∃ m, cnt p (w + d) = cnt p w + m := ⟨cnt p (w + d) - cnt p w, by omega⟩
  rw [hm, sa_tl]
  have h1 := sa_head p h w d (cnt p w)
  have h2 := tl_le (den p) (p.t * 2 ^ (w + d)) m (cnt p w) (fun j hj => den_ten p h j (fun hk => Nat.le_trans (cnt_nine p h w hw hk) hj))
  obtain ⟨a1, _, _⟩ := cnt_spec p h w
  have hD := den_pos p h (cnt p w)
  have h3 : p.t * 2 ^ w < den p (cnt p w) := by
    unfold term at a1
    rcases Nat.div_eq_zero_iff.1 a1 with e | e
    · omega
    · exact e
  have e4 : p.t * 2 ^ (w + d) = 2 ^ d * (p.t * 2 ^ w) := by rw [Nat.pow_add, Nat.mul_left_comm, Nat.mul_comm (2 ^ d), Nat.mul_left_comm, Nat.mul_assoc]
  have h4 : 8 * tl (den p) (p.t * 2 ^ (w + d)) (cnt p w) m ≤ 9 * 2 ^ d := by
    refine Nat.le_of_mul_le_mul_left ?_ hD
    calc den p (cnt p w) * (8 * tl (den p) (p.t * 2 ^ (w + d)) (cnt p w) m) = 8 * den p (cnt p w) * tl (den p) (p.t * 2 ^ (w + d)) (cnt p w) m := by rw [Nat.mul_left_comm, Nat.mul_assoc]
      _ ≤ 9 * (p.t * 2 ^ (w + d)) := h2
      _ = 9 * 2 ^ d * (p.t * 2 ^ w) := by rw [e4, Nat.mul_assoc]
      _ ≤ 9 * 2 ^ d * den p (cnt p w) := Nat.mul_le_mul_left _ (Nat.le_of_lt h3)
      _ = den p (cnt p w) * (9 * 2 ^ d) := Nat.mul_comm _ _
  rw [Nat.add_mul]
  generalize 2 ^ d * sa p w (cnt p w) = g1 at *
  generalize cnt p w * 2 ^ d = g2 at *
  generalize tl (den p) (p.t * 2 ^ (w + d)) (cnt p w) m = g3 at *
  generalize sa p (w + d) (cnt p w) = g4 at *
  omega

def rec0 (k : Nat) : List Pt :=
  if k = 1 then [⟨0, 16, 5, false⟩, ⟨0, 4, 239, true⟩]
  else if k = 2 then [⟨1, 18, 26, false⟩, ⟨1, 2, 4801, true⟩, ⟨1, 8, 8749, false⟩]
  else if k = 3 then [⟨1, 478, 251, false⟩, ⟨1, 180, 449, false⟩, ⟨1, 126, 4801, true⟩, ⟨1, 206, 8749, false⟩]
  else [⟨2, 1, 1, false⟩]

def ov (k : Nat) : Nat := if k = 5 then 1 else if k = 6 then 2 else if k = 7 then 3 else 0

def tA (l : List Pt) (w : Nat) (s : Bool) : Nat := match l with | [] => 0 | p :: l => sm p w s (cnt p w) + tA l w s

def tU (l : List Pt) (w : Nat) : Nat := match l with | [] => 0 | p :: l => cnt p w + 2 + tU l w

theorem rec0_ok (k : Nat) : ∀ p ∈ rec0 k, ok p := by
  unfold rec0 ok
  repeat' split
  all_goals intro p hp; simp at hp
  all_goals (first | (rcases hp with rfl | rfl | rfl | rfl <;> decide) | (rcases hp with rfl | rfl | rfl <;> decide) | (rcases hp with rfl | rfl <;> decide) | (subst hp; decide))

theorem rec0_ne (k : Nat) : rec0 k ≠ [] ∧ (rec0 k).length ≤ 4 := by
  unfold rec0
  repeat' split
  all_goals exact ⟨by simp, by decide⟩

theorem tot_up0 (w d : Nat) (hw : 40 ≤ w) : ∀ l : List Pt, (∀ p ∈ l, ok p) →
    2 ^ d * tA l w false ≤ tA l (w + d) false ∧ 2 ^ d * tA l w true ≤ tA l (w + d) true ∧
    8 * (tA l (w + d) false + tA l (w + d) true) + 7 * l.length * 2 ^ d ≤ 8 * (2 ^ d * tA l w false + 2 ^ d * tA l w true + tU l w * 2 ^ d) := by
  intro l
  induction l with
  | nil => intro _; simp [tA, tU]
  | cons p l ih =>
    intro h
    obtain ⟨a1, a2, a3⟩ := ih (fun q hq => h q (List.mem_cons_of_mem _ hq))
    obtain ⟨b1, b2, b3⟩ := part_up p (h p List.mem_cons_self) w d hw
    simp only [tA, tU, Nat.mul_add, Nat.add_mul, List.length_cons] at *
    generalize 2 ^ d * sm p w false (cnt p w) = g1 at *
    generalize 2 ^ d * sm p w true (cnt p w) = g2 at *
    generalize 2 ^ d * tA l w false = g3 at *
    generalize 2 ^ d * tA l w true = g4 at *
    generalize tU l w * 2 ^ d = g5 at *
    generalize cnt p w * 2 ^ d = g6 at *
    have : 7 * l.length * 2 ^ d = 7 * (l.length * 2 ^ d) := Nat.mul_assoc _ _ _
    rw [this] at a3 ⊢
    clear this
    generalize l.length * 2 ^ d = g7 at *
    generalize 2 ^ d = P at *
    omega

theorem tU_le (w : Nat) : ∀ l : List Pt, (∀ p ∈ l, ok p) → tU l w ≤ l.length * (w + 66) := by
  intro l
  induction l with
  | nil => intro _; simp [tU]
  | cons p l ih =>
    intro h
    have := ih (fun q hq => h q (List.mem_cons_of_mem _ hq))
    have := (cnt_spec p (h p List.mem_cons_self) w).2.2
    simp only [tU, List.length_cons, Nat.add_mul, Nat.one_mul]
    omega

/-- what is added, what is taken off, by how many units both are off -/
def cA (k w : Nat) (s : Bool) : Nat := tA (rec0 k) w s

def cU (k w : Nat) : Nat := tU (rec0 k) w

def cM (k w : Nat) : Nat := cA k w false - cA k w true

def dLo (k w : Nat) : Nat := cM k w - cU k w

def dHi (k w : Nat) : Nat := cM k w + cU k w

/-- the program's enclosure in units of 2^-w -/
def eLo (k w : Nat) : Nat := if ov k = 0 then dLo k w else 2 ^ (2 * w) / dHi (ov k) w

def eHi (k w : Nat) : Nat := if ov k = 0 then dHi k w else 2 ^ (2 * w) / dLo (ov k) w + 1

/-- a number that lies in all of at most W bits: ptN over ptD -/
def ptN (k W : Nat) : Nat := if ov k = 0 then cM k W else 2 ^ W

def ptD (k W : Nat) : Nat := if ov k = 0 then 2 ^ W else cM (ov k) W

theorem c_up (k w d : Nat) (hw : 40 ≤ w) :
    2 ^ d * cA k w false ≤ cA k (w + d) false ∧ 2 ^ d * cA k w true ≤ cA k (w + d) true ∧
    8 * (cA k (w + d) false + cA k (w + d) true) + 7 * 2 ^ d ≤ 8 * (2 ^ d * cA k w false + 2 ^ d * cA k w true + cU k w * 2 ^ d) := by
  obtain ⟨a1, a2, a3⟩ := tot_up0 w d hw (rec0 k) (rec0_ok k)
  refine ⟨a1, a2, Nat.le_trans (Nat.add_le_add_left ?_ _) a3⟩
  refine Nat.mul_le_mul_right _ ?_
  have := (rec0_ne k).1
  cases h : rec0 k with
  | nil => exact absurd h this
  | cons p l => simp; omega

theorem cU_le (k w : Nat) : cU k w ≤ 4 * (w + 66) := Nat.le_trans (tU_le w (rec0 k) (rec0_ok k)) (Nat.mul_le_mul_right _ (rec0_ne k).2)

def base (k : Nat) : Bool := decide (cA k 40 true + cU k 40 + 2 ^ 38 ≤ cA k 40 false ∧ cA k 40 false + cU k 40 ≤ cA k 40 true + 2 ^ 42)

theorem lin (w : Nat) (h : 40 ≤ w) : 4 * (w + 66) + 2 ^ (w - 3) ≤ 2 ^ (w - 2) := by
  obtain ⟨d, rfl⟩ : ∃ d, w = 40 + d := ⟨w - 40, by omega⟩
  rw [show 40 + d - 3 = 37 + d by omega, show 40 + d - 2 = 38 + d by omega, Nat.pow_add, Nat.pow_add]
  have : d < 2 ^ d := Nat.lt_two_pow_self
  generalize 2 ^ d = P at *
  omega

theorem c_size (k w : Nat) (h : base k = true) (hw : 40 ≤ w) : cA k w true + cU k w + 2 ^ (w - 3) ≤ cA k w false ∧ cA k w false ≤ cA k w true + 2 ^ (w + 2) := by
  obtain ⟨d, rfl⟩ : ∃ d, w = 40 + d := ⟨w - 40, by omega⟩
  obtain ⟨a1, a2, a3⟩ := c_up k 40 d (Nat.le_refl _)
  obtain ⟨h1, h1'⟩ := of_decide_eq_true h
  have h2 := cU_le k (40 + d)
  have h3 := lin (40 + d) (by omega)
  obtain ⟨X, hX⟩ : ∃ X : Nat, X = 38 := ⟨_, rfl⟩
  obtain ⟨Y, hY⟩ : ∃ Y : Nat, Y = 42 := ⟨_, rfl⟩
  rw [← hX] at h1
  rw [← hY] at h1'
  rw [show 40 + d - 2 = X + d by omega] at h3
  rw [show 40 + d + 2 = Y + d by omega]
  have e1 : 2 ^ (X + d) = 2 ^ d * 2 ^ X := by rw [Nat.pow_add, Nat.mul_comm]
  have e2 : 2 ^ (Y + d) = 2 ^ d * 2 ^ Y := by rw [Nat.pow_add, Nat.mul_comm]
  have m1 := Nat.mul_le_mul_left (2 ^ d) h1
  have m2 := Nat.mul_le_mul_left (2 ^ d) h1'
  rw [Nat.mul_add, Nat.mul_add] at m1 m2
  rw [Nat.mul_comm (cU k 40)] at a3
  rw [e1] at h3
  rw [e2]
  clear h1 h1' e1 e2 h hX hY
  generalize 2 ^ d * cA k 40 false = g1 at *
  generalize 2 ^ d * cA k 40 true = g2 at *
  generalize 2 ^ d * cU k 40 = g3 at *
  generalize 2 ^ d * 2 ^ X = g4 at *
  generalize 2 ^ d * 2 ^ Y = g5 at *
  generalize 2 ^ (40 + d - 3) = g6 at *
  generalize 2 ^ d = P at *
  omega

/-- the middle at more bits lies between the ends at fewer -/
theorem d_in (k w d : Nat) (h : base k = true) (hw : 40 ≤ w) : 2 ^ d * dLo k w ≤ cM k (w + d) ∧ cM k (w + d) ≤ 2 ^ d * dHi k w ∧ 8 * (2 ^ d * dLo k w) + 7 * 2 ^ d ≤ 8 * cM k (w + d) ∧ 8 * cM k (w + d) + 7 * 2 ^ d ≤ 8 * (2 ^ d * dHi k w) := by
  obtain ⟨a1, a2, a3⟩ := c_up k w d hw
  have s1 := (c_size k w h hw).1
  have s2 := (c_size k (w + d) h (by omega)).1
  unfold dLo dHi cM
  rw [Nat.mul_sub, Nat.mul_sub, Nat.mul_add, Nat.mul_sub]
  rw [Nat.mul_comm (cU k w)] at a3
  have m1 := Nat.mul_le_mul_left (2 ^ d) (show cA k w true + cU k w ≤ cA k w false from Nat.le_trans (Nat.le_add_right _ _) s1)
  rw [Nat.mul_add] at m1
  generalize 2 ^ (w - 3) = p1 at *
  generalize 2 ^ (w + d - 3) = p2 at *
  generalize 2 ^ d * cA k w false = g1 at *
  generalize 2 ^ d * cA k w true = g2 at *
  generalize 2 ^ d * cU k w = g3 at *
  generalize 2 ^ d = P at *
  omega

theorem ov_cases (k : Nat) : ov k = 0 ∨ ov k = 1 ∨ ov k = 2 ∨ ov k = 3 := by
  unfold ov
  repeat' split
  all_goals simp

theorem lo_pos (k w : Nat) (h : base k = true) (hw : 40 ≤ w) : 2 ^ (w - 3) ≤ dLo k w ∧ dHi k w ≤ 2 ^ (w + 3) := by
  obtain ⟨s1, s2⟩ := c_size k w h hw
  have h2 := cU_le k w
  have h3 := lin w hw
  have e1 : 2 ^ (w + 3) = 2 ^ (w + 2) + 2 ^ (w + 2) := by rw [show w + 3 = w + 2 + 1 by omega, Nat.pow_succ, Nat.mul_two]
  have e2 : 2 ^ (w - 2) ≤ 2 ^ (w + 2) := Nat.pow_le_pow_right (by decide) (by omega)
  unfold dLo dHi cM
  rw [e1]
  clear e1
  generalize 2 ^ (w - 3) = p1 at *
  generalize 2 ^ (w - 2) = p2 at *
  generalize 2 ^ (w + 2) = p3 at *
  omega

theorem e_in (k w d : Nat) (h : base (if ov k = 0 then k else ov k) = true) (hw : 40 ≤ w) :
    eLo k w * ptD k (w + d) ≤ ptN k (w + d) * 2 ^ w ∧ ptN k (w + d) * 2 ^ w ≤ eHi k w * ptD k (w + d) ∧ 0 < ptD k (w + d) := by
  unfold eLo eHi ptN ptD
  split at h
  · rename_i h0
    obtain ⟨a1, a2, _⟩ := d_in k w d h hw
    rw [if_pos h0, if_pos h0, if_pos h0, if_pos h0, Nat.pow_add, Nat.mul_comm (cM k (w + d))]
    refine ⟨?_, ?_, Nat.mul_pos (Nat.pow_pos (by decide)) (Nat.pow_pos (by decide))⟩
    · rw [Nat.mul_left_comm]; exact Nat.mul_le_mul_left _ (by rw [Nat.mul_comm]; exact a1)
    · rw [Nat.mul_left_comm]; exact Nat.mul_le_mul_left _ (by rw [Nat.mul_comm (dHi k w)]; exact a2)
  · rename_i h0
    obtain ⟨a1, a2, _⟩ := d_in (ov k) w d h hw
    have p1 := (lo_pos (ov k) w h hw).1
    have p2 := (lo_pos (ov k) (w + d) h (by omega)).1
    have q1 : 0 < 2 ^ (w - 3) := Nat.pow_pos (by decide)
    have q2 : 0 < 2 ^ (w + d - 3) := Nat.pow_pos (by decide)
    rw [if_neg h0, if_neg h0, if_neg h0, if_neg h0]
    generalize ov k = j at *
    have hl : 0 < dLo j w := by omega
    have hh : 0 < dHi j w := by unfold dLo dHi at *; omega
    have hm : 0 < cM j (w + d) := by unfold dLo at p2; omega
    have e : 2 ^ (w + d) * 2 ^ w = 2 ^ d * 2 ^ (2 * w) := by rw [← Nat.pow_add, ← Nat.pow_add]; congr 1; omega
    rw [e]
    refine ⟨?_, ?_, hm⟩
    · calc 2 ^ (2 * w) / dHi j w * cM j (w + d) ≤ 2 ^ (2 * w) / dHi j w * (2 ^ d * dHi j w) := Nat.mul_le_mul_left _ a2
        _ = 2 ^ d * (2 ^ (2 * w) / dHi j w * dHi j w) := by rw [Nat.mul_left_comm]
        _ ≤ _ := Nat.mul_le_mul_left _ (Nat.div_mul_le_self _ _)
    · calc 2 ^ d * 2 ^ (2 * w) ≤ 2 ^ d * ((2 ^ (2 * w) / dLo j w + 1) * dLo j w) := by
            refine Nat.mul_le_mul_left _ ?_
            have := Nat.div_add_mod (2 ^ (2 * w)) (dLo j w)
            have := Nat.mod_lt (2 ^ (2 * w)) hl
            rw [Nat.add_mul, Nat.one_mul, Nat.mul_comm (_ / _)]; omega
        _ = (2 ^ (2 * w) / dLo j w + 1) * (2 ^ d * dLo j w) := by rw [Nat.mul_left_comm]
        _ ≤ _ := Nat.mul_le_mul_left _ a1

/-- where both ends, so many times and cut, are alike, that is the number so many times, cut -/
theorem told (k w d F q : Nat) (h : base (if ov k = 0 then k else ov k) = true) (hw : 40 ≤ w) (h1 : eLo k w * F / 2 ^ w = q) (h2 : eHi k w * F / 2 ^ w = q) : ptN k (w + d) * F / ptD k (w + d) = q := by
  obtain ⟨a1, a2, a3⟩ := e_in k w d h hw
  have hp : 0 < 2 ^ w := Nat.pow_pos (by decide)
  generalize ptN k (w + d) = N at *
  generalize ptD k (w + d) = D at *
  generalize 2 ^ w = P at *
  generalize eLo k w = l at *
  generalize eHi k w = u at *
  have l1 : q * P ≤ l * F := by rw [← h1]; exact Nat.div_mul_le_self _ _
  have u1 : u * F < (q + 1) * P := by
    have e1 := Nat.div_add_mod (u * F) P
    have e2 := Nat.mod_lt (u * F) hp
    rw [h2] at e1
    rw [Nat.add_mul, Nat.one_mul, Nat.mul_comm q]
    omega
  refine Nat.le_antisymm ?_ ?_
  · refine Nat.le_of_lt_succ ((Nat.div_lt_iff_lt_mul a3).2 ?_)
    refine Nat.lt_of_mul_lt_mul_left (a := P) ?_
    calc P * (N * F) = N * P * F := by rw [Nat.mul_left_comm, Nat.mul_assoc]
      _ ≤ u * D * F := Nat.mul_le_mul_right _ a2
      _ = u * F * D := Nat.mul_right_comm _ _ _
      _ < (q + 1) * P * D := Nat.mul_lt_mul_of_pos_right u1 a3
      _ = P * ((q + 1) * D) := by rw [Nat.mul_comm (q + 1), Nat.mul_assoc]
  · refine (Nat.le_div_iff_mul_le a3).2 ?_
    refine Nat.le_of_mul_le_mul_left (c := P) ?_ hp
    calc P * (q * D) = q * P * D := by rw [Nat.mul_left_comm, Nat.mul_assoc]
      _ ≤ l * F * D := Nat.mul_le_mul_right _ l1
      _ = l * D * F := Nat.mul_right_comm _ _ _
      _ ≤ N * P * F := Nat.mul_le_mul_right _ a1
      _ = P * (N * F) := by rw [Nat.mul_left_comm, Nat.mul_assoc]

theorem base_all : base 1 = true ∧ base 2 = true ∧ base 3 = true ∧ base 4 = true := by decide +kernel

theorem lives_pi : eLo 1 131 * 10 ^ 20 / 2 ^ 131 = 314159265358979323846 ∧ eHi 1 131 * 10 ^ 20 / 2 ^ 131 = 314159265358979323846 := by decide +kernel

theorem lives_bits : eLo 1 67 * 2 ^ 2 / 2 ^ 67 = 12 ∧ eHi 1 67 * 2^2 / 2 ^ 67 = 12 := by decide +kernel

end Ck
end Go.Proofs.YtkkldnnndlpblaaGreatDoor

namespace Go.Proofs.YtkkldnnndlpblaaGreatDoor
namespace Ck

theorem d_nest (k w d : Nat) (h : base k = true) (hw : 40 ≤ w) (hd : 16 ≤ d) (hl : w + d ≤ 8500) : 2 ^ d * dLo k w ≤ dLo k (w + d) ∧ dHi k (w + d) ≤ 2 ^ d * dHi k w := by
  obtain ⟨_, _, a1, a2⟩ := d_in k w d h hw
  have hU := cU_le k (w + d)
  have h3 : 2 ^ 16 ≤ 2 ^ d := Nat.pow_le_pow_right (by decide) hd
  have e : (2 : Nat) ^ 16 = 65536 := by decide
  rw [e] at h3
  have e1 : dLo k (w + d) = cM k (w + d) - cU k (w + d) := rfl
  have e2 : dHi k (w + d) = cM k (w + d) + cU k (w + d) := rfl
  rw [e1, e2]
  generalize 2 ^ d * dLo k w = g1 at *
  generalize 2 ^ d * dHi k w = g2 at *
  generalize 2 ^ d = P at *
  omega

theorem e_nest (k w d : Nat) (h : base (if ov k = 0 then k else ov k) = true) (hw : 40 ≤ w) (hd : 16 ≤ d) (hl : w + d ≤ 8500) : 2 ^ d * eLo k w ≤ eLo k (w + d) ∧ eHi k (w + d) ≤ 2 ^ d * eHi k w := by
  unfold eLo eHi
  by_cases h0 : ov k = 0
  · rw [if_pos h0] at h
    rw [if_pos h0, if_pos h0, if_pos h0, if_pos h0]
    exact d_nest k w d h hw hd hl
  · rw [if_neg h0] at h
    rw [if_neg h0, if_neg h0, if_neg h0, if_neg h0]
    obtain ⟨n1, n2⟩ := d_nest (ov k) w d h hw hd hl
    have p1 := (lo_pos (ov k) w h hw).1
    have q1 : 0 < 2 ^ (w - 3) := Nat.pow_pos (by decide)
    have p2 := (lo_pos (ov k) (w + d) h (by omega)).1
    have q2 : 0 < 2 ^ (w + d - 3) := Nat.pow_pos (by decide)
    generalize ov k = j at *
    have hl0 : 0 < dLo j w := by omega
    have hl1 : 0 < dLo j (w + d) := by omega
    have hh0 : 0 < dHi j w := by unfold dLo dHi at *; omega
    have hh1 : 0 < dHi j (w + d) := by unfold dLo dHi at *; omega
    have P0 : 0 < 2 ^ d := Nat.pow_pos (by decide)
    have e : 2 ^ (2 * (w + d)) = 2 ^ d * (2 ^ d * 2 ^ (2 * w)) := by rw [← Nat.pow_add, ← Nat.pow_add]; congr 1; omega
    rw [e]
    generalize 2 ^ (2 * w) = X at *
    generalize 2 ^ d = P at *
    constructor
    · rw [Nat.le_div_iff_mul_le hh1]
      calc P * (X / dHi j w) * dHi j (w + d) ≤ P * (X / dHi j w) * (P * dHi j w) := Nat.mul_le_mul_left _ n2
        _ = P * (P * (X / dHi j w * dHi j w)) := by rw [Nat.mul_assoc, Nat.mul_left_comm (X / dHi j w)]
        _ ≤ P * (P * X) := Nat.mul_le_mul_left _ (Nat.mul_le_mul_left _ (Nat.div_mul_le_self _ _))
    · have h1 : P * (P * X) / dLo j (w + d) ≤ P * X / dLo j w := by
        calc P * (P * X) / dLo j (w + d) ≤ P * (P * X) / (P * dLo j w) := Nat.div_le_div_left n1 (Nat.mul_pos P0 hl0)
          _ = P * X / dLo j w := Nat.mul_div_mul_left _ _ P0
      have h2 : P * X / dLo j w + 1 ≤ P * (X / dLo j w) + P := ((floor_two X (dLo j w) P hl0).resolve_right (by omega)).2
      rw [Nat.mul_add, Nat.mul_one]
      omega

theorem told_nest (k w d F q : Nat) (h : base (if ov k = 0 then k else ov k) = true) (hw : 40 ≤ w) (hd : 16 ≤ d) (hl : w + d ≤ 8500) (hle : eLo k (w + d) ≤ eHi k (w + d)) (h1 : eLo k w * F / 2 ^ w = q) (h2 : eHi k w * F / 2 ^ w = q) : eLo k (w + d) * F / 2 ^ (w + d) = q ∧ eHi k (w + d) * F / 2 ^ (w + d) = q := by
  obtain ⟨n1, n2⟩ := e_nest k w d h hw hd hl
  have P0 : 0 < 2 ^ d := Nat.pow_pos (by decide)
  have Q0 : 0 < 2 ^ (w + d) := Nat.pow_pos (by decide)
  have a1 : q ≤ eLo k (w + d) * F / 2 ^ (w + d) := by
    rw [← h1, ← Nat.mul_div_mul_left _ _ P0, ← Nat.pow_add, Nat.add_comm d w, ← Nat.mul_assoc]
    exact Nat.div_le_div_right (Nat.mul_le_mul_right _ n1)
  have a2 : eHi k (w + d) * F / 2 ^ (w + d) ≤ q := by
    have e := Nat.mul_div_mul_left (eHi k w * F) (2 ^ w) P0
    rw [← Nat.pow_add, Nat.add_comm d w, ← Nat.mul_assoc] at e
    rw [← h2, ← e]
    exact Nat.div_le_div_right (Nat.mul_le_mul_right _ n2)
  have a3 : eLo k (w + d) * F / 2 ^ (w + d) ≤ eHi k (w + d) * F / 2 ^ (w + d) := Nat.div_le_div_right (Nat.mul_le_mul_right _ hle)
  omega

end Ck
end Go.Proofs.YtkkldnnndlpblaaGreatDoor

namespace Go.Proofs.YtkkldnnndlpblaaGreatDoor
namespace Ck

/-- the document's series of 1 / n, with signs in turns or not -/
def dq (n : Nat) (tn : Bool) : Pt := ⟨if tn then 0 else 1, 1, n, false⟩

def dE : Pt := ⟨2, 1, 1, false⟩

/-- how many terms the document goes over -/
def mz (n q : Nat) : Nat := fz (fun j => 2 ^ q / (n * (n * n) ^ j)) (q + 64) 0

def iJ (n q : Nat) : Nat := mz n q + 1

def iP (n : Nat) (tn : Bool) (q : Nat) : Nat := sm (dq n tn) q false (iJ n q)

def iL (n : Nat) (tn : Bool) (q : Nat) : Nat := sm (dq n tn) q true (iJ n q)

def iA (n : Nat) (tn : Bool) (q : Nat) : Nat := iP n tn q - (iL n tn q + 2 * ns (dq n tn) true (iJ n q) + 4)

def iE (n q : Nat) : Nat := 2 * iJ n q + 8

def eF : Nat → Nat
  | 0 => 0
  | k + 1 => eF k / (k + 1) + 2

def eS : Nat → Nat
  | 0 => 0
  | j + 1 => eS j + eF j

/-- the document's numbers: from fA on, fE units -/
def fA (k q : Nat) : Nat :=
  if k = 1 then 16 * iA 5 true q - (4 * iA 239 true q + 4 * iE 239 q)
  else if k = 2 then 2 * iA 3 false q
  else if k = 3 then 3 * (2 * iA 3 false q) + 2 * iA 9 false q
  else sm dE q false (cnt dE q + 1)

def fE (k q : Nat) : Nat :=
  if k = 1 then 16 * iE 5 q + 4 * iE 239 q
  else if k = 2 then 2 * iE 3 q
  else if k = 3 then 3 * (2 * iE 3 q) + 2 * iE 9 q
  else eS (cnt dE q + 1) + 4

def xS (p : Pt) (w : Nat) (s : Bool) : Nat := sm p w s (cnt p w)

def xI (n : Nat) (tn : Bool) (w : Nat) : Nat := xS (dq n tn) w false - xS (dq n tn) w true

/-- the document's number at w bits, in the middle -/
def xM (k w : Nat) : Nat :=
  if k = 1 then 16 * xI 5 true w - 4 * xI 239 true w
  else if k = 2 then 2 * xI 3 false w
  else if k = 3 then 3 * (2 * xI 3 false w) + 2 * xI 9 false w
  else xS dE w false

theorem dq_ok (n : Nat) (tn : Bool) (h : 3 ≤ n) (h2 : n < 65536) : ok (dq n tn) := ⟨Nat.le_refl _, (by show 1 < 1024; decide), Or.inr ⟨h, h2⟩⟩

theorem dE_ok : ok dE := ⟨Nat.le_refl _, by decide, Or.inl rfl⟩

theorem dq_kind (n : Nat) (tn : Bool) : (dq n tn).kind ≠ 2 := by
  cases tn
  · show (1 : Nat) ≠ 2; decide
  · show (0 : Nat) ≠ 2; decide

theorem mz_spec (n q : Nat) (h : 3 ≤ n) : 2 ^ q / (n * (n * n) ^ mz n q) = 0 ∧ (∀ i, i < mz n q → 2 ^ q / (n * (n * n) ^ i) ≠ 0) ∧ mz n q < q + 64 := by
  obtain ⟨a1, a2, a3, _⟩ := fz_spec (fun j => 2 ^ q / (n * (n * n) ^ j)) (q + 64) 0 ⟨q + 60, by omega, by
    rw [Nat.zero_add]
    refine Nat.div_eq_of_lt ?_
    calc 2 ^ q < 2 ^ (q + 60) := Nat.pow_lt_pow_right (by decide) (by omega)
      _ ≤ (n * n) ^ (q + 60) := Nat.pow_le_pow_left (Nat.le_trans (by decide) (Nat.mul_le_mul h h)) _
      _ ≤ n * (n * n) ^ (q + 60) := Nat.le_mul_of_pos_left _ (by omega)⟩
  exact ⟨a1, fun i hi => a2 i (Nat.zero_le _) hi, by unfold mz; omega⟩

theorem dq_term (n : Nat) (tn : Bool) (q j : Nat) : term (dq n tn) q j = 2 ^ q / (n * (n * n) ^ j) / (2 * j + 1) := by
  unfold term den
  rw [if_neg (dq_kind n tn), Nat.div_div_eq_div_mul]
  show 1 * 2 ^ q / (n * (n * n) ^ j * (2 * j + 1)) = _
  rw [Nat.one_mul]

theorem den_mono (p : Pt) (h : ok p) (hk : p.kind ≠ 2) (i j : Nat) (hij : i ≤ j) : den p i ≤ den p j := by
  induction j with
  | zero => rw [show i = 0 by omega]; exact Nat.le_refl _
  | succ j ih =>
    by_cases e : i = j + 1
    · rw [e]; exact Nat.le_refl _
    · have := den_ten p h j (fun q => absurd q hk)
      have := ih (by omega)
      omega

theorem denE_mono (i j : Nat) (hij : i ≤ j) : den dE i ≤ den dE j := by
  unfold den; rw [if_pos (show dE.kind = 2 from rfl), if_pos (show dE.kind = 2 from rfl)]; exact rfac_mono i j hij

theorem term_zero (p : Pt) (h : ok p) (hm : ∀ i j, i ≤ j → den p i ≤ den p j) (w i j : Nat) (hij : i ≤ j) (h0 : term p w i = 0) : term p w j = 0 := by
  have : term p w j ≤ term p w i := Nat.div_le_div_left (hm i j hij) (den_pos p h i)
  omega

theorem sm_past (p : Pt) (h : ok p) (hm : ∀ i j, i ≤ j → den p i ≤ den p j) (w : Nat) (s : Bool) (n : Nat) (hn : cnt p w ≤ n) : sm p w s n = sm p w s (cnt p w) := by
  induction n with
  | zero => rw [show cnt p w = 0 by omega]
  | succ n ih =>
    by_cases e : cnt p w = n + 1
    · rw [e]
    · have h0 := term_zero p h hm w (cnt p w) n (by omega) (cnt_spec p h w).1
      show sm p w s n + _ = _
      rw [h0, ih (by omega)]
      simp

theorem ns_mono (p : Pt) (s : Bool) (m n : Nat) (h : m ≤ n) : ns p s m ≤ ns p s n := by
  induction n with
  | zero => rw [show m = 0 by omega]; exact Nat.le_refl _
  | succ n ih =>
    by_cases e : m = n + 1
    · rw [e]; exact Nat.le_refl _
    · exact Nat.le_trans (ih (by omega)) (Nat.le_add_right _ _)

theorem cnt_mz (n : Nat) (tn : Bool) (q : Nat) (h : 3 ≤ n) (h2 : n < 65536) : cnt (dq n tn) q ≤ iJ n q := by
  obtain ⟨_, a2, _⟩ := cnt_spec (dq n tn) (dq_ok n tn h h2) q
  obtain ⟨b1, _, _⟩ := mz_spec n q h
  refine Nat.le_of_not_lt fun hl => a2 (mz n q) (by unfold iJ at hl; omega) ?_
  rw [dq_term, b1, Nat.zero_div]

theorem iP_eq (n : Nat) (tn : Bool) (q : Nat) (h : 3 ≤ n) (h2 : n < 65536) : iP n tn q = xS (dq n tn) q false ∧ iL n tn q = xS (dq n tn) q true :=
  ⟨sm_past _ (dq_ok n tn h h2) (den_mono _ (dq_ok n tn h h2) (dq_kind n tn)) q false _ (cnt_mz n tn q h h2), sm_past _ (dq_ok n tn h h2) (den_mono _ (dq_ok n tn h h2) (dq_kind n tn)) q true _ (cnt_mz n tn q h h2)⟩

def bchk (p : Pt) : Bool := decide (xS p 40 true + ns p true (cnt p 40) + 2 + 2 ^ 30 ≤ xS p 40 false ∧ xS p 40 false + ns p false (cnt p 40) + 2 ≤ 2 ^ 40)

/-- of a series whose sums lie apart at 40 bits they lie apart at more -/
theorem apart (p : Pt) (hp : ok p) (h : bchk p = true) (w : Nat) (hw : 40 ≤ w) : xS p w true + 2 ^ (w - 10) ≤ xS p w false ∧ xS p w false ≤ 2 ^ w := by
  obtain ⟨d, rfl⟩ : ∃ d, w = 40 + d := ⟨w - 40, by omega⟩
  obtain ⟨h1, h2⟩ := of_decide_eq_true h
  obtain ⟨a1, a2⟩ := side_up p hp 40 d (Nat.le_refl _) false
  obtain ⟨b1, b2⟩ := side_up p hp 40 d (Nat.le_refl _) true
  have e0 : ∀ s, xS p (40 + d) s = sm p (40 + d) s (cnt p (40 + d)) := fun _ => rfl
  have e1 : ∀ s, xS p 40 s = sm p 40 s (cnt p 40) := fun _ => rfl
  rw [← e0, ← e1] at a1 a2 b1 b2
  obtain ⟨X, hX⟩ : ∃ X : Nat, X = 30 := ⟨_, rfl⟩
  obtain ⟨Y, hY⟩ : ∃ Y : Nat, Y = 40 := ⟨_, rfl⟩
  rw [← hX] at h1
  have m1 := Nat.mul_le_mul_left (2 ^ d) h1
  have m2 := Nat.mul_le_mul_left (2 ^ d) h2
  rw [show 40 + d - 10 = X + d by omega, Nat.pow_add 2 X, Nat.mul_comm (2 ^ X)]
  rw [show (2 : Nat) ^ (40 + d) = 2 ^ d * 2 ^ 40 by rw [Nat.pow_add, Nat.mul_comm]]
  simp only [Nat.mul_add] at m1 m2
  rw [Nat.mul_comm (ns p false _)] at a2
  rw [Nat.mul_comm (ns p true _)] at b2
  clear h1 h2
  generalize 2 ^ d * xS p 40 false = g1 at *
  generalize 2 ^ d * xS p 40 true = g2 at *
  generalize 2 ^ d * ns p false (cnt p 40) = g3 at *
  generalize 2 ^ d * ns p true (cnt p 40) = g4 at *
  generalize 2 ^ d * 2 ^ X = g5 at *
  generalize 2 ^ d * 2 ^ 40 = g6 at *
  generalize 2 ^ d = P at *
  omega

theorem small (q : Nat) (h : 40 ≤ q) : 200 * (q + 100) ≤ 2 ^ (q - 10) := by
  obtain ⟨d, rfl⟩ : ∃ d, q = 40 + d := ⟨q - 40, by omega⟩
  rw [show 40 + d - 10 = 30 + d by omega, Nat.pow_add]
  have : d < 2 ^ d := Nat.lt_two_pow_self
  rw [show (2 : Nat) ^ 30 = 1073741824 by decide]
  generalize 2 ^ d = P at *
  omega

/-- the document's sum of one series has the middle at more bits in it, and two units to spare -/
theorem inv_in (n : Nat) (tn : Bool) (h : 3 ≤ n) (h2 : n < 65536) (hb : bchk (dq n tn) = true) (q d : Nat) (hq : 40 ≤ q) :
    2 ^ d * iA n tn q + 2 * 2 ^ d ≤ xI n tn (q + d) ∧ xI n tn (q + d) + 2 * 2 ^ d ≤ 2 ^ d * (iA n tn q + iE n q) ∧ iE n q ≤ 2 * (q + 70) ∧ 2 ^ (q - 11) ≤ iA n tn q ∧ iA n tn q ≤ 2 ^ q := by
  have hp := dq_ok n tn h h2
  obtain ⟨p1, p2⟩ := iP_eq n tn q h h2
  obtain ⟨a1, a2⟩ := side_up (dq n tn) hp q d hq false
  obtain ⟨b1, b2⟩ := side_up (dq n tn) hp q d hq true
  obtain ⟨c1, c2⟩ := apart (dq n tn) hp hb q hq
  have c3 := (apart (dq n tn) hp hb (q + d) (by omega)).1
  have n1 := ns_mono (dq n tn) false _ _ (cnt_mz n tn q h h2)
  have n2 := ns_mono (dq n tn) true _ _ (cnt_mz n tn q h h2)
  have n3 := ns_all (dq n tn) (iJ n q)
  have hJ : iJ n q ≤ q + 64 := by have := (mz_spec n q h).2.2; unfold iJ; omega
  have sm0 := small q hq
  have e11 : 2 ^ (q - 10) = 2 * 2 ^ (q - 11) := by rw [show q - 10 = q - 11 + 1 by omega, Nat.pow_succ, Nat.mul_comm]
  have hE : iE n q = 2 * iJ n q + 8 := rfl
  have hA : iA n tn q = iP n tn q - (iL n tn q + 2 * ns (dq n tn) true (iJ n q) + 4) := rfl
  have hX : xI n tn (q + d) = xS (dq n tn) (q + d) false - xS (dq n tn) (q + d) true := rfl
  have e0 : ∀ w s, sm (dq n tn) w s (cnt (dq n tn) w) = xS (dq n tn) w s := fun _ _ => rfl
  simp only [e0] at a1 a2 b1 b2
  rw [p1, p2] at hA
  have m1 := Nat.mul_le_mul_right (2 ^ d) n1
  have m2 := Nat.mul_le_mul_right (2 ^ d) n2
  have hle : xS (dq n tn) q true + 2 * ns (dq n tn) true (iJ n q) + 4 ≤ xS (dq n tn) q false := by
    generalize 2 ^ (q - 10) = z at *
    omega
  have r1 : 2 ^ d * iA n tn q = 2 ^ d * xS (dq n tn) q false - (2 ^ d * xS (dq n tn) q true + 2 * (ns (dq n tn) true (iJ n q) * 2 ^ d) + 4 * 2 ^ d) := by
    rw [hA, Nat.mul_sub, Nat.mul_add, Nat.mul_add]
    congr 1
    congr 1
    · congr 1
      rw [Nat.mul_left_comm, Nat.mul_comm (2 ^ d)]
    · rw [Nat.mul_comm]
  have r2 : 2 ^ d * xS (dq n tn) q true + 2 * (ns (dq n tn) true (iJ n q) * 2 ^ d) + 4 * 2 ^ d ≤ 2 ^ d * xS (dq n tn) q false := by
    have := Nat.mul_le_mul_left (2 ^ d) hle
    rw [Nat.mul_add, Nat.mul_add, Nat.mul_left_comm, Nat.mul_comm (2 ^ d) (ns _ _ _), Nat.mul_comm (2 ^ d) 4] at this
    exact this
  have r3 : 2 ^ d * iE n q = 2 * (ns (dq n tn) false (iJ n q) * 2 ^ d) + 2 * (ns (dq n tn) true (iJ n q) * 2 ^ d) + 8 * 2 ^ d := by
    have e : iE n q = 2 * (ns (dq n tn) false (iJ n q) + ns (dq n tn) true (iJ n q)) + 8 := by rw [hE]; omega
    rw [e, Nat.mul_comm, Nat.add_mul, Nat.mul_assoc, Nat.add_mul, Nat.mul_add]
  rw [Nat.mul_add, r1, r3, hX]
  refine ⟨?_, ?_, by rw [hE]; omega, ?_, by omega⟩
  · generalize 2 ^ d * xS (dq n tn) q false = g1 at *
    generalize 2 ^ d * xS (dq n tn) q true = g2 at *
    generalize ns (dq n tn) true (iJ n q) * 2 ^ d = g3 at *
    generalize ns (dq n tn) true (cnt (dq n tn) q) * 2 ^ d = g4 at *
    generalize 2 ^ d = P at *
    generalize 2 ^ (q + d - 10) = z at *
    omega
  · generalize 2 ^ d * xS (dq n tn) q false = g1 at *
    generalize 2 ^ d * xS (dq n tn) q true = g2 at *
    generalize ns (dq n tn) true (iJ n q) * 2 ^ d = g3 at *
    generalize ns (dq n tn) false (iJ n q) * 2 ^ d = g5 at *
    generalize ns (dq n tn) false (cnt (dq n tn) q) * 2 ^ d = g4 at *
    generalize 2 ^ d = P at *
    generalize 2 ^ (q + d - 10) = z at *
    omega
  · clear r1 r2 r3 a1 a2 b1 b2 m1 m2
    generalize 2 ^ (q - 11) = z at *
    generalize 2 ^ (q - 10) = z2 at *
    omega

theorem bchk_all : bchk (dq 5 true) = true ∧ bchk (dq 239 true) = true ∧ bchk (dq 3 false) = true ∧ bchk (dq 9 false) = true := by decide +kernel

def pichk : Bool := decide (2 ^ 37 ≤ iA 5 true 40 ∧ iA 239 true 40 + iE 239 40 ≤ 2 ^ 33)

theorem pichk_ok : pichk = true := by decide +kernel

theorem in5 (q d : Nat) (h : 40 ≤ q) : 2 ^ d * iA 5 true q + 2 * 2 ^ d ≤ xI 5 true (q + d) ∧ xI 5 true (q + d) + 2 * 2 ^ d ≤ 2 ^ d * (iA 5 true q + iE 5 q) ∧ iE 5 q ≤ 2 * (q + 70) ∧ 2 ^ (q - 11) ≤ iA 5 true q ∧ iA 5 true q ≤ 2 ^ q := inv_in 5 true (by decide) (by decide) bchk_all.1 q d h

theorem in239 (q d : Nat) (h : 40 ≤ q) : 2 ^ d * iA 239 true q + 2 * 2 ^ d ≤ xI 239 true (q + d) ∧ xI 239 true (q + d) + 2 * 2 ^ d ≤ 2 ^ d * (iA 239 true q + iE 239 q) ∧ iE 239 q ≤ 2 * (q + 70) ∧ 2 ^ (q - 11) ≤ iA 239 true q ∧ iA 239 true q ≤ 2 ^ q := inv_in 239 true (by decide) (by decide) bchk_all.2.1 q d h

theorem in3 (q d : Nat) (h : 40 ≤ q) : 2 ^ d * iA 3 false q + 2 * 2 ^ d ≤ xI 3 false (q + d) ∧ xI 3 false (q + d) + 2 * 2 ^ d ≤ 2 ^ d * (iA 3 false q + iE 3 q) ∧ iE 3 q ≤ 2 * (q + 70) ∧ 2 ^ (q - 11) ≤ iA 3 false q ∧ iA 3 false q ≤ 2 ^ q := inv_in 3 false (by decide) (by decide) bchk_all.2.2.1 q d h

theorem in9 (q d : Nat) (h : 40 ≤ q) : 2 ^ d * iA 9 false q + 2 * 2 ^ d ≤ xI 9 false (q + d) ∧ xI 9 false (q + d) + 2 * 2 ^ d ≤ 2 ^ d * (iA 9 false q + iE 9 q) ∧ iE 9 q ≤ 2 * (q + 70) ∧ 2 ^ (q - 11) ≤ iA 9 false q ∧ iA 9 false q ≤ 2 ^ q := inv_in 9 false (by decide) (by decide) bchk_all.2.2.2 q d h

theorem pi_pos (q : Nat) (h : 40 ≤ q) : 4 * iA 239 true q + 4 * iE 239 q + 2 ^ (q - 11) ≤ 16 * iA 5 true q := by
  obtain ⟨d, rfl⟩ : ∃ d, q = 40 + d := ⟨q - 40, by omega⟩
  obtain ⟨c1, c2⟩ := of_decide_eq_true pichk_ok
  have a1 := (in5 40 d (Nat.le_refl _)).1
  have a2 := (in5 (40 + d) 0 h).2.1
  have a3 := (in5 (40 + d) 0 h).2.2.1
  have b1 := (in239 40 d (Nat.le_refl _)).2.1
  have b2 := (in239 (40 + d) 0 h).1
  have b3 := (in239 (40 + d) 0 h).2.2.1
  simp only [Nat.pow_zero, Nat.one_mul, Nat.add_zero] at a2 b2
  have s := small (40 + d) h
  obtain ⟨X, hX⟩ : ∃ X : Nat, X = 37 := ⟨_, rfl⟩
  obtain ⟨Y, hY⟩ : ∃ Y : Nat, Y = 33 := ⟨_, rfl⟩
  rw [← hX] at c1
  rw [← hY] at c2
  have m1 := Nat.mul_le_mul_left (2 ^ d) c1
  have m2 := Nat.mul_le_mul_left (2 ^ d) c2
  obtain ⟨Z, hZ⟩ : ∃ Z : Nat, Z = 29 := ⟨_, rfl⟩
  have e1 : 2 ^ d * 2 ^ X = 2 ^ d * 2 ^ Z * 256 := by rw [Nat.mul_assoc, show (256 : Nat) = 2 ^ 8 by decide, ← Nat.pow_add 2 Z, show Z + 8 = X by omega]
  have e2 : 2 ^ d * 2 ^ Y = 2 ^ d * 2 ^ Z * 16 := by rw [Nat.mul_assoc, show (16 : Nat) = 2 ^ 4 by decide, ← Nat.pow_add 2 Z, show Z + 4 = Y by omega]
  have e3 : 2 ^ (40 + d - 11) = 2 ^ d * 2 ^ Z := by rw [show 40 + d - 11 = d + Z by omega, Nat.pow_add]
  have e4 : 2 ^ (40 + d - 10) = 2 ^ d * 2 ^ Z * 2 := by rw [show 40 + d - 10 = d + Z + 1 by omega, Nat.pow_succ, Nat.pow_add]
  rw [e1] at m1
  rw [e2] at m2
  rw [e3]
  rw [e4] at s
  clear c1 c2 e1 e2 e3 e4 hX hY hZ
  generalize 2 ^ d * iA 5 true 40 = g1 at *
  generalize 2 ^ d * (iA 239 true 40 + iE 239 40) = g2 at *
  generalize 2 ^ d * 2 ^ Z = g3 at *
  generalize 2 ^ d = P at *
  omega

theorem eF_two (k : Nat) : eF k ≤ 4 ∧ 2 ≤ eF (k + 1) := by
  have up : ∀ k, eF k ≤ 4 := by
    intro k
    induction k with
    | zero => decide
    | succ k ih =>
      show eF k / (k + 1) + 2 ≤ 4
      match k with
      | 0 => decide
      | k + 1 =>
        have : eF (k + 1) / (k + 1 + 1) ≤ 4 / 2 := Nat.div_le_div ih (by omega) (by decide)
        omega
  exact ⟨up k, Nat.le_add_left _ _⟩

theorem eS_bd (j : Nat) : 2 * j ≤ eS (j + 1) ∧ eS j ≤ 4 * j := by
  induction j with
  | zero => decide
  | succ j ih =>
    have h1 := eF_two j
    have h2 : eS (j + 1 + 1) = eS (j + 1) + eF (j + 1) := rfl
    have h3 : eS (j + 1) = eS j + eF j := rfl
    omega

theorem f_in (k q d : Nat) (hk : 1 ≤ k) (hk4 : k ≤ 4) (hq : 40 ≤ q) :
    2 ^ d * fA k q ≤ xM k (q + d) ∧ xM k (q + d) ≤ 2 ^ d * (fA k q + fE k q) ∧ fE k q ≤ 50 * (q + 70) ∧ 2 ^ (q - 11) ≤ fA k q ∧ fA k q ≤ 2 ^ (q + 5) := by
  have e5 : (2 : Nat) ^ (q + 5) = 32 * 2 ^ q := by rw [Nat.pow_add, Nat.mul_comm]
  have e12 : (2 : Nat) ^ (q - 11) ≤ 2 ^ q := Nat.pow_le_pow_right (by decide) (by omega)
  rcases (by omega : k = 1 ∨ k = 2 ∨ k = 3 ∨ k = 4) with rfl | rfl | rfl | rfl
  · obtain ⟨a1, a2, a3, a4, a5⟩ := in5 q d hq
    obtain ⟨b1, b2, b3, b4, b5⟩ := in239 q d hq
    have c := pi_pos q hq
    have eA : fA 1 q = 16 * iA 5 true q - (4 * iA 239 true q + 4 * iE 239 q) := rfl
    have eE : fE 1 q = 16 * iE 5 q + 4 * iE 239 q := rfl
    have eM : xM 1 (q + d) = 16 * xI 5 true (q + d) - 4 * xI 239 true (q + d) := rfl
    have r1 : 2 ^ d * fA 1 q = 16 * (2 ^ d * iA 5 true q) - (4 * (2 ^ d * iA 239 true q) + 4 * (2 ^ d * iE 239 q)) := by
      rw [eA, Nat.mul_sub, Nat.mul_add, Nat.mul_left_comm, Nat.mul_left_comm (2 ^ d) 4, Nat.mul_left_comm (2 ^ d) 4]
    have r2 : 2 ^ d * fE 1 q = 16 * (2 ^ d * iE 5 q) + 4 * (2 ^ d * iE 239 q) := by
      rw [eE, Nat.mul_add, Nat.mul_left_comm, Nat.mul_left_comm (2 ^ d) 4]
    have r3 : 4 * (2 ^ d * iA 239 true q) + 4 * (2 ^ d * iE 239 q) ≤ 16 * (2 ^ d * iA 5 true q) := by
      have := Nat.mul_le_mul_left (2 ^ d) (Nat.le_trans (Nat.le_add_right _ _) c)
      rw [Nat.mul_add, Nat.mul_left_comm, Nat.mul_left_comm (2 ^ d) 4, Nat.mul_left_comm (2 ^ d) 16] at this
      exact this
    rw [Nat.mul_add, r1, r2, eM]
    rw [Nat.mul_add] at a2 b2
    refine ⟨?_, ?_, by rw [eE]; omega, ?_, ?_⟩
    · generalize 2 ^ d * iA 5 true q = g1 at *
      generalize 2 ^ d * iA 239 true q = g2 at *
      generalize 2 ^ d * iE 239 q = g3 at *
      generalize 2 ^ d = P at *
      omega
    · generalize 2 ^ d * iA 5 true q = g1 at *
      generalize 2 ^ d * iA 239 true q = g2 at *
      generalize 2 ^ d * iE 239 q = g3 at *
      generalize 2 ^ d * iE 5 q = g4 at *
      generalize 2 ^ d = P at *
      omega
    · rw [eA]
      generalize 2 ^ (q - 11) = z at *
      omega
    · rw [eA, e5]
      generalize 2 ^ q = z at *
      omega
  · obtain ⟨a1, a2, a3, a4, a5⟩ := in3 q d hq
    have eA : fA 2 q = 2 * iA 3 false q := rfl
    have eE : fE 2 q = 2 * iE 3 q := rfl
    have eM : xM 2 (q + d) = 2 * xI 3 false (q + d) := rfl
    rw [Nat.mul_add] at *
    rw [eA, eE, eM, Nat.mul_left_comm, Nat.mul_left_comm (2 ^ d)]
    refine ⟨?_, ?_, by omega, by omega, ?_⟩
    · generalize 2 ^ d * iA 3 false q = g1 at *
      omega
    · generalize 2 ^ d * iA 3 false q = g1 at *
      generalize 2 ^ d * iE 3 q = g2 at *
      generalize 2 ^ d = P at *
      omega
    · rw [e5]
      generalize 2 ^ q = z at *
      omega
  · obtain ⟨a1, a2, a3, a4, a5⟩ := in3 q d hq
    obtain ⟨b1, b2, b3, b4, b5⟩ := in9 q d hq
    have eA : fA 3 q = 6 * iA 3 false q + 2 * iA 9 false q := by show 3 * (2 * _) + 2 * _ = _; omega
    have eE : fE 3 q = 6 * iE 3 q + 2 * iE 9 q := by show 3 * (2 * _) + 2 * _ = _; omega
    have eM : xM 3 (q + d) = 6 * xI 3 false (q + d) + 2 * xI 9 false (q + d) := by show 3 * (2 * _) + 2 * _ = _; omega
    rw [Nat.mul_add] at a2 b2
    have r1 : 2 ^ d * fA 3 q = 6 * (2 ^ d * iA 3 false q) + 2 * (2 ^ d * iA 9 false q) := by rw [eA, Nat.mul_add, Nat.mul_left_comm, Nat.mul_left_comm (2 ^ d) 2]
    have r2 : 2 ^ d * fE 3 q = 6 * (2 ^ d * iE 3 q) + 2 * (2 ^ d * iE 9 q) := by rw [eE, Nat.mul_add, Nat.mul_left_comm, Nat.mul_left_comm (2 ^ d) 2]
    rw [Nat.mul_add, r1, r2, eM]
    refine ⟨?_, ?_, by rw [eE]; omega, by rw [eA]; omega, ?_⟩
    · generalize 2 ^ d * iA 3 false q = g1 at *
      generalize 2 ^ d * iA 9 false q = g2 at *
      generalize 2 ^ d = P at *
      omega
    · generalize 2 ^ d * iA 3 false q = g1 at *
      generalize 2 ^ d * iA 9 false q = g2 at *
      generalize 2 ^ d * iE 3 q = g3 at *
      generalize 2 ^ d * iE 9 q = g4 at *
      generalize 2 ^ d = P at *
      omega
    · rw [eA, e5]
      generalize 2 ^ q = z at *
      omega
  · obtain ⟨a1, a2⟩ := side_up dE dE_ok q d hq false
    have hp := sm_past dE dE_ok denE_mono q false (cnt dE q + 1) (by omega)
    have eA : fA 4 q = sm dE q false (cnt dE q) := hp
    have eE : fE 4 q = eS (cnt dE q + 1) + 4 := rfl
    have eM : xM 4 (q + d) = sm dE (q + d) false (cnt dE (q + d)) := rfl
    have h1 := eS_bd (cnt dE q)
    have h2 := (eS_bd (cnt dE q + 1)).2
    have h3 := (cnt_spec dE dE_ok q).2.2
    have h4 := ns_all dE (cnt dE q)
    have h0 : 1 ≤ cnt dE q := by have := cnt_nine dE dE_ok q hq rfl; omega
    have lo : 2 ^ q ≤ sm dE q false (cnt dE q) := by
      refine Nat.le_trans ?_ (sm_mono dE q false 1 _ h0)
      show 2 ^ q ≤ 0 + term dE q 0
      rw [Nat.zero_add]
      show 2 ^ q ≤ 1 * 2 ^ q / rfac 0
      rw [Nat.one_mul, show rfac 0 = 1 from rfl, Nat.div_one]
      exact Nat.le_refl _
    have hi : sm dE q false (cnt dE q) ≤ 2 ^ (q + 5) := by
      obtain ⟨b1, b2⟩ := side_up dE dE_ok 40 (q - 40) (Nat.le_refl _) false
      rw [show 40 + (q - 40) = q by omega] at b2
      have c1 : sm dE 40 false (cnt dE 40) + ns dE false (cnt dE 40) + 2 ≤ 2 ^ 42 := by decide +kernel
      have m := Nat.mul_le_mul_left (2 ^ (q - 40)) c1
      rw [← Nat.pow_add, Nat.mul_add, Nat.mul_add] at m
      rw [Nat.mul_comm (ns _ _ _)] at b2
      have p : (2 : Nat) ^ (q - 40 + 42) ≤ 2 ^ (q + 5) := Nat.pow_le_pow_right (by decide) (by omega)
      generalize 2 ^ (q - 40) * sm dE 40 false (cnt dE 40) = g1 at *
      generalize 2 ^ (q - 40) * ns dE false (cnt dE 40) = g2 at *
      generalize 2 ^ (q - 40) = P at *
      omega
    rw [Nat.mul_add, eA, eE, eM]
    refine ⟨a1, ?_, by omega, Nat.le_trans e12 lo, hi⟩
    have m := Nat.mul_le_mul_right (2 ^ d) (show ns dE false (cnt dE q) + 2 ≤ eS (cnt dE q + 1) + 4 by omega)
    rw [Nat.add_mul] at m
    rw [Nat.mul_comm (2 ^ d) (eS _ + 4)]
    generalize 2 ^ d * sm dE q false (cnt dE q) = g1 at *
    generalize ns dE false (cnt dE q) * 2 ^ d = g2 at *
    generalize (eS (cnt dE q + 1) + 4) * 2 ^ d = g3 at *
    generalize 2 ^ d = P at *
    omega

/-- the document's constants: from gA on, gE units of 2^-q -/
def gB (k q : Nat) : Nat := 2 ^ (2 * q) / fA (ov k) q + (if 2 ^ (2 * q) % fA (ov k) q = 0 then 0 else 1)

def gA (k q : Nat) : Nat := if ov k = 0 then fA k q else 2 ^ (2 * q) / (fA (ov k) q + fE (ov k) q)

def gE (k q : Nat) : Nat := if ov k = 0 then fE k q else gB k q - 2 ^ (2 * q) / (fA (ov k) q + fE (ov k) q)

def dN (k W : Nat) : Nat := if ov k = 0 then xM k W else 2 ^ W

def dD (k W : Nat) : Nat := if ov k = 0 then 2 ^ W else xM (ov k) W

theorem ceil_le (x a : Nat) (ha : 0 < a) : x ≤ (x / a + (if x % a = 0 then 0 else 1)) * a := by
  have e := Nat.div_add_mod x a
  have m := Nat.mod_lt x ha
  rw [Nat.add_mul, Nat.mul_comm]
  split <;> omega

theorem div_near (q a e x : Nat) (hx : x = 2 ^ (2 * q)) (hq : 40 ≤ q) (ha : 2 ^ (q - 11) ≤ a) (ha2 : a ≤ 2 ^ (q + 5)) (he : e ≤ 2 ^ 20) : x / a ≤ x / (a + e) + 2 ^ 50 := by
  have a0 : 0 < a := Nat.lt_of_lt_of_le (Nat.pow_pos (by decide)) ha
  obtain ⟨b, hb⟩ : ∃ b, b = a + e := ⟨_, rfl⟩
  rw [← hb]
  have b0 : 0 < b := by omega
  have h1 := Nat.div_add_mod x b
  have h2 := Nat.mod_lt x b0
  have h3 : x / b ≤ 2 ^ (q + 11) := by
    refine Nat.div_le_of_le_mul ?_
    rw [hx]
    calc 2 ^ (2 * q) = 2 ^ (q - 11) * 2 ^ (q + 11) := by rw [← Nat.pow_add]; congr 1; omega
      _ ≤ b * 2 ^ (q + 11) := Nat.mul_le_mul_right _ (by omega)
  have h4 : (x / b) * e ≤ 2 ^ (q + 31) := by
    calc (x / b) * e ≤ 2 ^ (q + 11) * 2 ^ 20 := Nat.mul_le_mul h3 he
      _ = 2 ^ (q + 31) := by rw [← Nat.pow_add]
  have h5 : 2 ^ (q + 39) ≤ 2 ^ 50 * a := by
    calc 2 ^ (q + 39) = 2 ^ 50 * 2 ^ (q - 11) := by rw [← Nat.pow_add]; congr 1; omega
      _ ≤ 2 ^ 50 * a := Nat.mul_le_mul_left _ ha
  have h6 : (2 : Nat) ^ (q + 39) = 256 * 2 ^ (q + 31) := by rw [show q + 39 = q + 31 + 8 by omega, Nat.pow_add, Nat.mul_comm]
  have h7 : (2 : Nat) ^ (q + 5) ≤ 2 ^ (q + 31) := Nat.pow_le_pow_right (by decide) (by omega)
  have h8 : (2 : Nat) ^ 20 ≤ 2 ^ (q + 31) := Nat.pow_le_pow_right (by decide) (by omega)
  refine Nat.div_le_of_le_mul ?_
  obtain ⟨T, hT⟩ : ∃ T : Nat, T = 2 ^ 50 := ⟨_, rfl⟩
  rw [← hT] at h5 ⊢
  rw [Nat.mul_add, Nat.mul_comm a T]
  have h9 : b * (x / b) = a * (x / b) + x / b * e := by rw [hb, Nat.add_mul, Nat.mul_comm e]
  generalize 2 ^ (q + 31) = z at *
  generalize 2 ^ (q + 39) = z2 at *
  generalize 2 ^ (q + 5) = z3 at *
  generalize (2 : Nat) ^ 20 = z4 at *
  generalize x / b * e = z5 at *
  generalize a * (x / b) = z6 at *
  generalize T * a = z7 at *
  omega

theorem g_facts (k q : Nat) (hq : 40 ≤ q) (hq2 : q ≤ 8300) : ov k ≠ 0 → gB k q - gA k q ≤ 2 ^ 51 ∧ gA k q + gE k q = gB k q ∧ gA k q ≤ gB k q := by
  intro h0
  have hj : 1 ≤ ov k ∧ ov k ≤ 4 := by have := ov_cases k; omega
  obtain ⟨_, _, f3, f4, f5⟩ := f_in (ov k) q 0 hj.1 hj.2 hq
  have he : fE (ov k) q ≤ 2 ^ 20 := by
    have : (2 : Nat) ^ 20 = 1048576 := by decide
    omega
  have hn := div_near q (fA (ov k) q) (fE (ov k) q) _ rfl hq f4 f5 he
  have a0 : 0 < fA (ov k) q := Nat.lt_of_lt_of_le (Nat.pow_pos (by decide)) f4
  have hl : 2 ^ (2 * q) / (fA (ov k) q + fE (ov k) q) ≤ 2 ^ (2 * q) / fA (ov k) q := Nat.div_le_div_left (by omega) a0
  have eA : gA k q = 2 ^ (2 * q) / (fA (ov k) q + fE (ov k) q) := by unfold gA; rw [if_neg h0]
  have eE : gE k q = gB k q - 2 ^ (2 * q) / (fA (ov k) q + fE (ov k) q) := by unfold gE; rw [if_neg h0]
  have eB : 2 ^ (2 * q) / fA (ov k) q ≤ gB k q ∧ gB k q ≤ 2 ^ (2 * q) / fA (ov k) q + 1 := by unfold gB; split <;> omega
  rw [eE, eA]
  have t : (2 : Nat) ^ 51 = 2 * 2 ^ 50 := by decide
  have t0 : 1 ≤ (2 : Nat) ^ 50 := by decide
  rw [t]
  generalize (2 : Nat) ^ 50 = T at *
  generalize 2 ^ (2 * q) / fA (ov k) q = z1 at *
  generalize 2 ^ (2 * q) / (fA (ov k) q + fE (ov k) q) = z2 at *
  omega

theorem g_in (k q d : Nat) (h1 : 1 ≤ k) (h7 : k ≤ 7) (hq : 40 ≤ q) (hq2 : q ≤ 8300) :
    gA k q * dD k (q + d) ≤ dN k (q + d) * 2 ^ q ∧ dN k (q + d) * 2 ^ q ≤ (gA k q + gE k q) * dD k (q + d) ∧ 0 < dD k (q + d) := by
  by_cases h0 : ov k = 0
  · have h4 : k ≤ 4 := by unfold ov at h0; split at h0; · omega
                          split at h0; · omega
                          split at h0 <;> omega
    obtain ⟨a1, a2, _⟩ := f_in k q d h1 h4 hq
    unfold gA gE dN dD
    rw [if_pos h0, if_pos h0, if_pos h0, if_pos h0, Nat.pow_add, Nat.mul_comm (xM k (q + d))]
    refine ⟨?_, ?_, Nat.mul_pos (Nat.pow_pos (by decide)) (Nat.pow_pos (by decide))⟩
    · rw [Nat.mul_left_comm]; exact Nat.mul_le_mul_left _ (by rw [Nat.mul_comm]; exact a1)
    · rw [Nat.mul_left_comm]; exact Nat.mul_le_mul_left _ (by rw [Nat.mul_comm (fA k q + fE k q)]; exact a2)
  · have hj : 1 ≤ ov k ∧ ov k ≤ 4 := by have := ov_cases k; omega
    obtain ⟨a1, a2, f3, f4, f5⟩ := f_in (ov k) q d hj.1 hj.2 hq
    obtain ⟨_, g2, _⟩ := g_facts k q hq hq2 h0
    rw [g2]
    unfold gA gB dN dD
    rw [if_neg h0, if_neg h0, if_neg h0]
    have a0 : 0 < fA (ov k) q := Nat.lt_of_lt_of_le (Nat.pow_pos (by decide)) f4
    have hm : 0 < xM (ov k) (q + d) := Nat.lt_of_lt_of_le (Nat.mul_pos (Nat.pow_pos (by decide)) a0) a1
    generalize fA (ov k) q = a at *
    generalize fE (ov k) q = e at *
    generalize xM (ov k) (q + d) = X at *
    have e2 : 2 ^ (q + d) * 2 ^ q = 2 ^ d * 2 ^ (2 * q) := by rw [← Nat.pow_add, ← Nat.pow_add]; congr 1; omega
    rw [e2]
    refine ⟨?_, ?_, hm⟩
    · calc 2 ^ (2 * q) / (a + e) * X ≤ 2 ^ (2 * q) / (a + e) * (2 ^ d * (a + e)) := Nat.mul_le_mul_left _ a2
        _ = 2 ^ d * (2 ^ (2 * q) / (a + e) * (a + e)) := by rw [Nat.mul_left_comm]
        _ ≤ _ := Nat.mul_le_mul_left _ (Nat.div_mul_le_self _ _)
    · calc 2 ^ d * 2 ^ (2 * q) ≤ 2 ^ d * ((2 ^ (2 * q) / a + (if 2 ^ (2 * q) % a = 0 then 0 else 1)) * a) := Nat.mul_le_mul_left _ (ceil_le _ _ a0)
        _ = (2 ^ (2 * q) / a + (if 2 ^ (2 * q) % a = 0 then 0 else 1)) * (2 ^ d * a) := by rw [Nat.mul_left_comm]
        _ ≤ _ := Nat.mul_le_mul_left _ a1

theorem told_gen (l u N D P F q : Nat) (hp : 0 < P) (a1 : l * D ≤ N * P) (a2 : N * P ≤ u * D) (a3 : 0 < D) (h1 : l * F / P = q) (h2 : u * F / P = q) : N * F / D = q := by
  have l1 : q * P ≤ l * F := by rw [← h1]; exact Nat.div_mul_le_self _ _
  have u1 : u * F < (q + 1) * P := by
    have e1 := Nat.div_add_mod (u * F) P
    have e2 := Nat.mod_lt (u * F) hp
    rw [h2] at e1
    rw [Nat.add_mul, Nat.one_mul, Nat.mul_comm q]
    omega
  refine Nat.le_antisymm ?_ ?_
  · refine Nat.le_of_lt_succ ((Nat.div_lt_iff_lt_mul a3).2 ?_)
    refine Nat.lt_of_mul_lt_mul_left (a := P) ?_
    calc P * (N * F) = N * P * F := by rw [Nat.mul_left_comm, Nat.mul_assoc]
      _ ≤ u * D * F := Nat.mul_le_mul_right _ a2
      _ = u * F * D := Nat.mul_right_comm _ _ _
      _ < (q + 1) * P * D := Nat.mul_lt_mul_of_pos_right u1 a3
      _ = P * ((q + 1) * D) := by rw [Nat.mul_comm (q + 1), Nat.mul_assoc]
  · refine (Nat.le_div_iff_mul_le a3).2 ?_
    refine Nat.le_of_mul_le_mul_left (c := P) ?_ hp
    calc P * (q * D) = q * P * D := by rw [Nat.mul_left_comm, Nat.mul_assoc]
      _ ≤ l * F * D := Nat.mul_le_mul_right _ l1
      _ = l * D * F := Nat.mul_right_comm _ _ _
      _ ≤ N * P * F := Nat.mul_le_mul_right _ a1
      _ = P * (N * F) := by rw [Nat.mul_left_comm, Nat.mul_assoc]

/-- what the document tells of a constant so many times is its number so many times -/
theorem dtold (k q F Q : Nat) (h1 : 1 ≤ k) (h7 : k ≤ 7) (hq : 40 ≤ q) (hq2 : q ≤ 8300) (a : gA k q * F / 2 ^ q = Q) (b : (gA k q + gE k q) * F / 2 ^ q = Q) : dN k 8400 * F / dD k 8400 = Q := by
  obtain ⟨W, hW⟩ : ∃ W : Nat, W = 8400 := ⟨_, rfl⟩
  rw [← hW]
  obtain ⟨c1, c2, c3⟩ := g_in k q (W - q) h1 h7 hq hq2
  rw [show q + (W - q) = W by omega] at c1 c2 c3
  exact told_gen _ _ _ _ _ F Q (Nat.pow_pos (by decide)) c1 c2 c3 a b

end Ck
end Go.Proofs.YtkkldnnndlpblaaGreatDoor

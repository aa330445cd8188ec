/- The document's constants in numbers: what they come to, and by how many units they are off. -/
import Derived.Test.YtkkldnnndlpblaaGreatDoorCK3
namespace Go.Proofs.YtkkldnnndlpblaaGreatDoor
namespace Ck

/-- the document's series of 1 / n, with signs in turns or not -/
def dq (n : Nat) (tn : Bool) : Pt := ⟨if tn then 0 else 1, 1, n, false⟩
def dE : Pt := ⟨2, 1, 1, false⟩
/-- how many terms the document goes over -/
def mz (n q : Nat) : Nat := fz (fun j => 2 ^ q / (n * (n * n) ^ j)) (q + 64) 0
def iJ (n q : Nat) : Nat := mz n q + 1
def iP (n : Nat) (tn : Bool) (q : Nat) : Nat := sm (dq n tn) q false (iJ n q)
def iL (n : Nat) (tn : Bool) (q : Nat) : Nat := sm (dq n tn) q true (iJ n q)
def iA (n : Nat) (tn : Bool) (q : Nat) : Nat := iP n tn q - (iL n tn q + 2 * ns (dq n tn) true (iJ n q) + 4)
def iE (n q : Nat) : Nat := 2 * iJ n q + 8
def eF : Nat → Nat
  | 0 => 0
  | k + 1 => eF k / (k + 1) + 2
def eS : Nat → Nat
  | 0 => 0
  | j + 1 => eS j + eF j
/-- the document's numbers: from fA on, fE units -/
def fA (k q : Nat) : Nat :=
  if k = 1 then 16 * iA 5 true q - (4 * iA 239 true q + 4 * iE 239 q)
  else if k = 2 then 2 * iA 3 false q
  else if k = 3 then 3 * (2 * iA 3 false q) + 2 * iA 9 false q
  else sm dE q false (cnt dE q + 1)
def fE (k q : Nat) : Nat :=
  if k = 1 then 16 * iE 5 q + 4 * iE 239 q
  else if k = 2 then 2 * iE 3 q
  else if k = 3 then 3 * (2 * iE 3 q) + 2 * iE 9 q
  else eS (cnt dE q + 1) + 4
def xS (p : Pt) (w : Nat) (s : Bool) : Nat := sm p w s (cnt p w)
def xI (n : Nat) (tn : Bool) (w : Nat) : Nat := xS (dq n tn) w false - xS (dq n tn) w true
/-- the document's number at w bits, in the middle -/
def xM (k w : Nat) : Nat :=
  if k = 1 then 16 * xI 5 true w - 4 * xI 239 true w
  else if k = 2 then 2 * xI 3 false w
  else if k = 3 then 3 * (2 * xI 3 false w) + 2 * xI 9 false w
  else xS dE w false

theorem dq_ok (n : Nat) (tn : Bool) (h : 3 ≤ n) (h2 : n < 65536) : ok (dq n tn) := ⟨Nat.le_refl _, (by show 1 < 1024; decide), Or.inr ⟨h, h2⟩⟩
theorem dE_ok : ok dE := ⟨Nat.le_refl _, by decide, Or.inl rfl⟩
theorem dq_kind (n : Nat) (tn : Bool) : (dq n tn).kind ≠ 2 := by
  cases tn
  · show (1 : Nat) ≠ 2; decide
  · show (0 : Nat) ≠ 2; decide
theorem mz_spec (n q : Nat) (h : 3 ≤ n) : 2 ^ q / (n * (n * n) ^ mz n q) = 0 ∧ (∀ i, i < mz n q → 2 ^ q / (n * (n * n) ^ i) ≠ 0) ∧ mz n q < q + 64 := by
  obtain ⟨a1, a2, a3, _⟩ := fz_spec (fun j => 2 ^ q / (n * (n * n) ^ j)) (q + 64) 0 ⟨q + 60, by omega, by
    rw [Nat.zero_add]
    refine Nat.div_eq_of_lt ?_
    calc 2 ^ q < 2 ^ (q + 60) := Nat.pow_lt_pow_right (by decide) (by omega)
      _ ≤ (n * n) ^ (q + 60) := Nat.pow_le_pow_left (Nat.le_trans (by decide) (Nat.mul_le_mul h h)) _
      _ ≤ n * (n * n) ^ (q + 60) := Nat.le_mul_of_pos_left _ (by omega)⟩
  exact ⟨a1, fun i hi => a2 i (Nat.zero_le _) hi, by unfold mz; omega⟩
theorem dq_term (n : Nat) (tn : Bool) (q j : Nat) : term (dq n tn) q j = 2 ^ q / (n * (n * n) ^ j) / (2 * j + 1) := by
  unfold term den
  rw [if_neg (dq_kind n tn), Nat.div_div_eq_div_mul]
  show 1 * 2 ^ q / (n * (n * n) ^ j * (2 * j + 1)) = _
  rw [Nat.one_mul]
theorem den_mono (p : Pt) (h : ok p) (hk : p.kind ≠ 2) (i j : Nat) (hij : i ≤ j) : den p i ≤ den p j := by
  induction j with
  | zero => rw [show i = 0 by omega]; exact Nat.le_refl _
  | succ j ih =>
    by_cases e : i = j + 1
    · rw [e]; exact Nat.le_refl _
    · have := den_ten p h j (fun q => absurd q hk)
      have := ih (by omega)
      omega
theorem denE_mono (i j : Nat) (hij : i ≤ j) : den dE i ≤ den dE j := by
  unfold den; rw [if_pos (show dE.kind = 2 from rfl), if_pos (show dE.kind = 2 from rfl)]; exact rfac_mono i j hij
theorem term_zero (p : Pt) (h : ok p) (hm : ∀ i j, i ≤ j → den p i ≤ den p j) (w i j : Nat) (hij : i ≤ j) (h0 : term p w i = 0) : term p w j = 0 := by
  have : term p w j ≤ term p w i := Nat.div_le_div_left (hm i j hij) (den_pos p h i)
  omega
theorem sm_past (p : Pt) (h : ok p) (hm : ∀ i j, i ≤ j → den p i ≤ den p j) (w : Nat) (s : Bool) (n : Nat) (hn : cnt p w ≤ n) : sm p w s n = sm p w s (cnt p w) := by
  induction n with
  | zero => rw [show cnt p w = 0 by omega]
  | succ n ih =>
    by_cases e : cnt p w = n + 1
    · rw [e]
    · have h0 := term_zero p h hm w (cnt p w) n (by omega) (cnt_spec p h w).1
      show sm p w s n + _ = _
      rw [h0, ih (by omega)]
      simp
theorem ns_mono (p : Pt) (s : Bool) (m n : Nat) (h : m ≤ n) : ns p s m ≤ ns p s n := by
  induction n with
  | zero => rw [show m = 0 by omega]; exact Nat.le_refl _
  | succ n ih =>
    by_cases e : m = n + 1
    · rw [e]; exact Nat.le_refl _
    · exact Nat.le_trans (ih (by omega)) (Nat.le_add_right _ _)
theorem cnt_mz (n : Nat) (tn : Bool) (q : Nat) (h : 3 ≤ n) (h2 : n < 65536) : cnt (dq n tn) q ≤ iJ n q := by
  obtain ⟨_, a2, _⟩ := cnt_spec (dq n tn) (dq_ok n tn h h2) q
  obtain ⟨b1, _, _⟩ := mz_spec n q h
  refine Nat.le_of_not_lt fun hl => a2 (mz n q) (by unfold iJ at hl; omega) ?_
  rw [dq_term, b1, Nat.zero_div]
theorem iP_eq (n : Nat) (tn : Bool) (q : Nat) (h : 3 ≤ n) (h2 : n < 65536) : iP n tn q = xS (dq n tn) q false ∧ iL n tn q = xS (dq n tn) q true :=
  ⟨sm_past _ (dq_ok n tn h h2) (den_mono _ (dq_ok n tn h h2) (dq_kind n tn)) q false _ (cnt_mz n tn q h h2), sm_past _ (dq_ok n tn h h2) (den_mono _ (dq_ok n tn h h2) (dq_kind n tn)) q true _ (cnt_mz n tn q h h2)⟩
def bchk (p : Pt) : Bool := decide (xS p 40 true + ns p true (cnt p 40) + 2 + 2 ^ 30 ≤ xS p 40 false ∧ xS p 40 false + ns p false (cnt p 40) + 2 ≤ 2 ^ 40)
/-- of a series whose sums lie apart at 40 bits they lie apart at more -/
theorem apart (p : Pt) (hp : ok p) (h : bchk p = true) (w : Nat) (hw : 40 ≤ w) : xS p w true + 2 ^ (w - 10) ≤ xS p w false ∧ xS p w false ≤ 2 ^ w := by
  obtain ⟨d, rfl⟩ : ∃ d, w = 40 + d := ⟨w - 40, by omega⟩
  obtain ⟨h1, h2⟩ := of_decide_eq_true h
  obtain ⟨a1, a2⟩ := side_up p hp 40 d (Nat.le_refl _) false
  obtain ⟨b1, b2⟩ := side_up p hp 40 d (Nat.le_refl _) true
  have e0 : ∀ s, xS p (40 + d) s = sm p (40 + d) s (cnt p (40 + d)) := fun _ => rfl
  have e1 : ∀ s, xS p 40 s = sm p 40 s (cnt p 40) := fun _ => rfl
  rw [← e0, ← e1] at a1 a2 b1 b2
  obtain ⟨X, hX⟩ : ∃ X : Nat, X = 30 := ⟨_, rfl⟩
  obtain ⟨Y, hY⟩ : ∃ Y : Nat, Y = 40 := ⟨_, rfl⟩
  rw [← hX] at h1
  have m1 := Nat.mul_le_mul_left (2 ^ d) h1
  have m2 := Nat.mul_le_mul_left (2 ^ d) h2
  rw [show 40 + d - 10 = X + d by omega, Nat.pow_add 2 X, Nat.mul_comm (2 ^ X)]
  rw [show (2 : Nat) ^ (40 + d) = 2 ^ d * 2 ^ 40 by rw [Nat.pow_add, Nat.mul_comm]]
  simp only [Nat.mul_add] at m1 m2
  rw [Nat.mul_comm (ns p false _)] at a2
  rw [Nat.mul_comm (ns p true _)] at b2
  clear h1 h2
  generalize 2 ^ d * xS p 40 false = g1 at *
  generalize 2 ^ d * xS p 40 true = g2 at *
  generalize 2 ^ d * ns p false (cnt p 40) = g3 at *
  generalize 2 ^ d * ns p true (cnt p 40) = g4 at *
  generalize 2 ^ d * 2 ^ X = g5 at *
  generalize 2 ^ d * 2 ^ 40 = g6 at *
  generalize 2 ^ d = P at *
  omega
theorem small (q : Nat) (h : 40 ≤ q) : 200 * (q + 100) ≤ 2 ^ (q - 10) := by
  obtain ⟨d, rfl⟩ : ∃ d, q = 40 + d := ⟨q - 40, by omega⟩
  rw [show 40 + d - 10 = 30 + d by omega, Nat.pow_add]
  have : d < 2 ^ d := Nat.lt_two_pow_self
  rw [show (2 : Nat) ^ 30 = 1073741824 by decide]
  generalize 2 ^ d = P at *
  omega
/-- the document's sum of one series has the middle at more bits in it, and two units to spare -/
theorem inv_in (n : Nat) (tn : Bool) (h : 3 ≤ n) (h2 : n < 65536) (hb : bchk (dq n tn) = true) (q d : Nat) (hq : 40 ≤ q) :
    2 ^ d * iA n tn q + 2 * 2 ^ d ≤ xI n tn (q + d) ∧ xI n tn (q + d) + 2 * 2 ^ d ≤ 2 ^ d * (iA n tn q + iE n q) ∧ iE n q ≤ 2 * (q + 70) ∧ 2 ^ (q - 11) ≤ iA n tn q ∧ iA n tn q ≤ 2 ^ q := by
  have hp := dq_ok n tn h h2
  obtain ⟨p1, p2⟩ := iP_eq n tn q h h2
  obtain ⟨a1, a2⟩ := side_up (dq n tn) hp q d hq false
  obtain ⟨b1, b2⟩ := side_up (dq n tn) hp q d hq true
  obtain ⟨c1, c2⟩ := apart (dq n tn) hp hb q hq
  have c3 := (apart (dq n tn) hp hb (q + d) (by omega)).1
  have n1 := ns_mono (dq n tn) false _ _ (cnt_mz n tn q h h2)
  have n2 := ns_mono (dq n tn) true _ _ (cnt_mz n tn q h h2)
  have n3 := ns_all (dq n tn) (iJ n q)
  have hJ : iJ n q ≤ q + 64 := by have := (mz_spec n q h).2.2; unfold iJ; omega
  have sm0 := small q hq
  have e11 : 2 ^ (q - 10) = 2 * 2 ^ (q - 11) := by rw [show q - 10 = q - 11 + 1 by omega, Nat.pow_succ, Nat.mul_comm]
  have hE : iE n q = 2 * iJ n q + 8 := rfl
  have hA : iA n tn q = iP n tn q - (iL n tn q + 2 * ns (dq n tn) true (iJ n q) + 4) := rfl
  have hX : xI n tn (q + d) = xS (dq n tn) (q + d) false - xS (dq n tn) (q + d) true := rfl
  have e0 : ∀ w s, sm (dq n tn) w s (cnt (dq n tn) w) = xS (dq n tn) w s := fun _ _ => rfl
  simp only [e0] at a1 a2 b1 b2
  rw [p1, p2] at hA
  have m1 := Nat.mul_le_mul_right (2 ^ d) n1
  have m2 := Nat.mul_le_mul_right (2 ^ d) n2
  have hle : xS (dq n tn) q true + 2 * ns (dq n tn) true (iJ n q) + 4 ≤ xS (dq n tn) q false := by
    generalize 2 ^ (q - 10) = z at *
    omega
  have r1 : 2 ^ d * iA n tn q = 2 ^ d * xS (dq n tn) q false - (2 ^ d * xS (dq n tn) q true + 2 * (ns (dq n tn) true (iJ n q) * 2 ^ d) + 4 * 2 ^ d) := by
    rw [hA, Nat.mul_sub, Nat.mul_add, Nat.mul_add]
    congr 1
    congr 1
    · congr 1
      rw [Nat.mul_left_comm, Nat.mul_comm (2 ^ d)]
    · rw [Nat.mul_comm]
  have r2 : 2 ^ d * xS (dq n tn) q true + 2 * (ns (dq n tn) true (iJ n q) * 2 ^ d) + 4 * 2 ^ d ≤ 2 ^ d * xS (dq n tn) q false := by
    have := Nat.mul_le_mul_left (2 ^ d) hle
    rw [Nat.mul_add, Nat.mul_add, Nat.mul_left_comm, Nat.mul_comm (2 ^ d) (ns _ _ _), Nat.mul_comm (2 ^ d) 4] at this
    exact this
  have r3 : 2 ^ d * iE n q = 2 * (ns (dq n tn) false (iJ n q) * 2 ^ d) + 2 * (ns (dq n tn) true (iJ n q) * 2 ^ d) + 8 * 2 ^ d := by
    have e : iE n q = 2 * (ns (dq n tn) false (iJ n q) + ns (dq n tn) true (iJ n q)) + 8 := by rw [hE]; omega
    rw [e, Nat.mul_comm, Nat.add_mul, Nat.mul_assoc, Nat.add_mul, Nat.mul_add]
  rw [Nat.mul_add, r1, r3, hX]
  refine ⟨?_, ?_, by rw [hE]; omega, ?_, by omega⟩
  · generalize 2 ^ d * xS (dq n tn) q false = g1 at *
    generalize 2 ^ d * xS (dq n tn) q true = g2 at *
    generalize ns (dq n tn) true (iJ n q) * 2 ^ d = g3 at *
    generalize ns (dq n tn) true (cnt (dq n tn) q) * 2 ^ d = g4 at *
    generalize 2 ^ d = P at *
    generalize 2 ^ (q + d - 10) = z at *
    omega
  · generalize 2 ^ d * xS (dq n tn) q false = g1 at *
    generalize 2 ^ d * xS (dq n tn) q true = g2 at *
    generalize ns (dq n tn) true (iJ n q) * 2 ^ d = g3 at *
    generalize ns (dq n tn) false (iJ n q) * 2 ^ d = g5 at *
    generalize ns (dq n tn) false (cnt (dq n tn) q) * 2 ^ d = g4 at *
    generalize 2 ^ d = P at *
    generalize 2 ^ (q + d - 10) = z at *
    omega
  · clear r1 r2 r3 a1 a2 b1 b2 m1 m2
    generalize 2 ^ (q - 11) = z at *
    generalize 2 ^ (q - 10) = z2 at *
    omega

theorem bchk_all : bchk (dq 5 true) = true ∧ bchk (dq 239 true) = true ∧ bchk (dq 3 false) = true ∧ bchk (dq 9 false) = true := by decide +kernel
def pichk : Bool := decide (2 ^ 37 ≤ iA 5 true 40 ∧ iA 239 true 40 + iE 239 40 ≤ 2 ^ 33)
theorem pichk_ok : pichk = true := by decide +kernel
theorem in5 (q d : Nat) (h : 40 ≤ q) : 2 ^ d * iA 5 true q + 2 * 2 ^ d ≤ xI 5 true (q + d) ∧ xI 5 true (q + d) + 2 * 2 ^ d ≤ 2 ^ d * (iA 5 true q + iE 5 q) ∧ iE 5 q ≤ 2 * (q + 70) ∧ 2 ^ (q - 11) ≤ iA 5 true q ∧ iA 5 true q ≤ 2 ^ q := inv_in 5 true (by decide) (by decide) bchk_all.1 q d h
theorem in239 (q d : Nat) (h : 40 ≤ q) : 2 ^ d * iA 239 true q + 2 * 2 ^ d ≤ xI 239 true (q + d) ∧ xI 239 true (q + d) + 2 * 2 ^ d ≤ 2 ^ d * (iA 239 true q + iE 239 q) ∧ iE 239 q ≤ 2 * (q + 70) ∧ 2 ^ (q - 11) ≤ iA 239 true q ∧ iA 239 true q ≤ 2 ^ q := inv_in 239 true (by decide) (by decide) bchk_all.2.1 q d h
theorem in3 (q d : Nat) (h : 40 ≤ q) : 2 ^ d * iA 3 false q + 2 * 2 ^ d ≤ xI 3 false (q + d) ∧ xI 3 false (q + d) + 2 * 2 ^ d ≤ 2 ^ d * (iA 3 false q + iE 3 q) ∧ iE 3 q ≤ 2 * (q + 70) ∧ 2 ^ (q - 11) ≤ iA 3 false q ∧ iA 3 false q ≤ 2 ^ q := inv_in 3 false (by decide) (by decide) bchk_all.2.2.1 q d h
theorem in9 (q d : Nat) (h : 40 ≤ q) : 2 ^ d * iA 9 false q + 2 * 2 ^ d ≤ xI 9 false (q + d) ∧ xI 9 false (q + d) + 2 * 2 ^ d ≤ 2 ^ d * (iA 9 false q + iE 9 q) ∧ iE 9 q ≤ 2 * (q + 70) ∧ 2 ^ (q - 11) ≤ iA 9 false q ∧ iA 9 false q ≤ 2 ^ q := inv_in 9 false (by decide) (by decide) bchk_all.2.2.2 q d h
theorem pi_pos (q : Nat) (h : 40 ≤ q) : 4 * iA 239 true q + 4 * iE 239 q + 2 ^ (q - 11) ≤ 16 * iA 5 true q := by
  obtain ⟨d, rfl⟩ : ∃ d, q = 40 + d := ⟨q - 40, by omega⟩
  obtain ⟨c1, c2⟩ := of_decide_eq_true pichk_ok
  have a1 := (in5 40 d (Nat.le_refl _)).1
  have a2 := (in5 (40 + d) 0 h).2.1
  have a3 := (in5 (40 + d) 0 h).2.2.1
  have b1 := (in239 40 d (Nat.le_refl _)).2.1
  have b2 := (in239 (40 + d) 0 h).1
  have b3 := (in239 (40 + d) 0 h).2.2.1
  simp only [Nat.pow_zero, Nat.one_mul, Nat.add_zero] at a2 b2
  have s := small (40 + d) h
  obtain ⟨X, hX⟩ : ∃ X : Nat, X = 37 := ⟨_, rfl⟩
  obtain ⟨Y, hY⟩ : ∃ Y : Nat, Y = 33 := ⟨_, rfl⟩
  rw [← hX] at c1
  rw [← hY] at c2
  have m1 := Nat.mul_le_mul_left (2 ^ d) c1
  have m2 := Nat.mul_le_mul_left (2 ^ d) c2
  obtain ⟨Z, hZ⟩ : ∃ Z : Nat, Z = 29 := ⟨_, rfl⟩
  have e1 : 2 ^ d * 2 ^ X = 2 ^ d * 2 ^ Z * 256 := by rw [Nat.mul_assoc, show (256 : Nat) = 2 ^ 8 by decide, ← Nat.pow_add 2 Z, show Z + 8 = X by omega]
  have e2 : 2 ^ d * 2 ^ Y = 2 ^ d * 2 ^ Z * 16 := by rw [Nat.mul_assoc, show (16 : Nat) = 2 ^ 4 by decide, ← Nat.pow_add 2 Z, show Z + 4 = Y by omega]
  have e3 : 2 ^ (40 + d - 11) = 2 ^ d * 2 ^ Z := by rw [show 40 + d - 11 = d + Z by omega, Nat.pow_add]
  have e4 : 2 ^ (40 + d - 10) = 2 ^ d * 2 ^ Z * 2 := by rw [show 40 + d - 10 = d + Z + 1 by omega, Nat.pow_succ, Nat.pow_add]
  rw [e1] at m1
  rw [e2] at m2
  rw [e3]
  rw [e4] at s
  clear c1 c2 e1 e2 e3 e4 hX hY hZ
  generalize 2 ^ d * iA 5 true 40 = g1 at *
  generalize 2 ^ d * (iA 239 true 40 + iE 239 40) = g2 at *
  generalize 2 ^ d * 2 ^ Z = g3 at *
  generalize 2 ^ d = P at *
  omega
theorem eF_two (k : Nat) : eF k ≤ 4 ∧ 2 ≤ eF (k + 1) := by
  have up : ∀ k, eF k ≤ 4 := by
    intro k
    induction k with
    | zero => decide
    | succ k ih =>
      show eF k / (k + 1) + 2 ≤ 4
      match k with
      | 0 => decide
      | k + 1 =>
        have : eF (k + 1) / (k + 1 + 1) ≤ 4 / 2 := Nat.div_le_div ih (by omega) (by decide)
        omega
  exact ⟨up k, Nat.le_add_left _ _⟩
theorem eS_bd (j : Nat) : 2 * j ≤ eS (j + 1) ∧ eS j ≤ 4 * j := by
  induction j with
  | zero => decide
  | succ j ih =>
    have h1 := eF_two j
    have h2 : eS (j + 1 + 1) = eS (j + 1) + eF (j + 1) := rfl
    have h3 : eS (j + 1) = eS j + eF j := rfl
    omega
theorem f_in (k q d : Nat) (hk : 1 ≤ k) (hk4 : k ≤ 4) (hq : 40 ≤ q) :
    2 ^ d * fA k q ≤ xM k (q + d) ∧ xM k (q + d) ≤ 2 ^ d * (fA k q + fE k q) ∧ fE k q ≤ 50 * (q + 70) ∧ 2 ^ (q - 11) ≤ fA k q ∧ fA k q ≤ 2 ^ (q + 5) := by
  have e5 : (2 : Nat) ^ (q + 5) = 32 * 2 ^ q := by rw [Nat.pow_add, Nat.mul_comm]
  have e12 : (2 : Nat) ^ (q - 11) ≤ 2 ^ q := Nat.pow_le_pow_right (by decide) (by omega)
  rcases (by omega : k = 1 ∨ k = 2 ∨ k = 3 ∨ k = 4) with rfl | rfl | rfl | rfl
  · obtain ⟨a1, a2, a3, a4, a5⟩ := in5 q d hq
    obtain ⟨b1, b2, b3, b4, b5⟩ := in239 q d hq
    have c := pi_pos q hq
    have eA : fA 1 q = 16 * iA 5 true q - (4 * iA 239 true q + 4 * iE 239 q) := rfl
    have eE : fE 1 q = 16 * iE 5 q + 4 * iE 239 q := rfl
    have eM : xM 1 (q + d) = 16 * xI 5 true (q + d) - 4 * xI 239 true (q + d) := rfl
    have r1 : 2 ^ d * fA 1 q = 16 * (2 ^ d * iA 5 true q) - (4 * (2 ^ d * iA 239 true q) + 4 * (2 ^ d * iE 239 q)) := by
      rw [eA, Nat.mul_sub, Nat.mul_add, Nat.mul_left_comm, Nat.mul_left_comm (2 ^ d) 4, Nat.mul_left_comm (2 ^ d) 4]
    have r2 : 2 ^ d * fE 1 q = 16 * (2 ^ d * iE 5 q) + 4 * (2 ^ d * iE 239 q) := by
      rw [eE, Nat.mul_add, Nat.mul_left_comm, Nat.mul_left_comm (2 ^ d) 4]
    have r3 : 4 * (2 ^ d * iA 239 true q) + 4 * (2 ^ d * iE 239 q) ≤ 16 * (2 ^ d * iA 5 true q) := by
      have := Nat.mul_le_mul_left (2 ^ d) (Nat.le_trans (Nat.le_add_right _ _) c)
      rw [Nat.mul_add, Nat.mul_left_comm, Nat.mul_left_comm (2 ^ d) 4, Nat.mul_left_comm (2 ^ d) 16] at this
      exact this
    rw [Nat.mul_add, r1, r2, eM]
    rw [Nat.mul_add] at a2 b2
    refine ⟨?_, ?_, by rw [eE]; omega, ?_, ?_⟩
    · generalize 2 ^ d * iA 5 true q = g1 at *
      generalize 2 ^ d * iA 239 true q = g2 at *
      generalize 2 ^ d * iE 239 q = g3 at *
      generalize 2 ^ d = P at *
      omega
    · generalize 2 ^ d * iA 5 true q = g1 at *
      generalize 2 ^ d * iA 239 true q = g2 at *
      generalize 2 ^ d * iE 239 q = g3 at *
      generalize 2 ^ d * iE 5 q = g4 at *
      generalize 2 ^ d = P at *
      omega
    · rw [eA]
      generalize 2 ^ (q - 11) = z at *
      omega
    · rw [eA, e5]
      generalize 2 ^ q = z at *
      omega
  · obtain ⟨a1, a2, a3, a4, a5⟩ := in3 q d hq
    have eA : fA 2 q = 2 * iA 3 false q := rfl
    have eE : fE 2 q = 2 * iE 3 q := rfl
    have eM : xM 2 (q + d) = 2 * xI 3 false (q + d) := rfl
    rw [Nat.mul_add] at *
    rw [eA, eE, eM, Nat.mul_left_comm, Nat.mul_left_comm (2 ^ d)]
    refine ⟨?_, ?_, by omega, by omega, ?_⟩
    · generalize 2 ^ d * iA 3 false q = g1 at *
      omega
    · generalize 2 ^ d * iA 3 false q = g1 at *
      generalize 2 ^ d * iE 3 q = g2 at *
      generalize 2 ^ d = P at *
      omega
    · rw [e5]
      generalize 2 ^ q = z at *
      omega
  · obtain ⟨a1, a2, a3, a4, a5⟩ := in3 q d hq
    obtain ⟨b1, b2, b3, b4, b5⟩ := in9 q d hq
    have eA : fA 3 q = 6 * iA 3 false q + 2 * iA 9 false q := by show 3 * (2 * _) + 2 * _ = _; omega
    have eE : fE 3 q = 6 * iE 3 q + 2 * iE 9 q := by show 3 * (2 * _) + 2 * _ = _; omega
    have eM : xM 3 (q + d) = 6 * xI 3 false (q + d) + 2 * xI 9 false (q + d) := by show 3 * (2 * _) + 2 * _ = _; omega
    rw [Nat.mul_add] at a2 b2
    have r1 : 2 ^ d * fA 3 q = 6 * (2 ^ d * iA 3 false q) + 2 * (2 ^ d * iA 9 false q) := by rw [eA, Nat.mul_add, Nat.mul_left_comm, Nat.mul_left_comm (2 ^ d) 2]
    have r2 : 2 ^ d * fE 3 q = 6 * (2 ^ d * iE 3 q) + 2 * (2 ^ d * iE 9 q) := by rw [eE, Nat.mul_add, Nat.mul_left_comm, Nat.mul_left_comm (2 ^ d) 2]
    rw [Nat.mul_add, r1, r2, eM]
    refine ⟨?_, ?_, by rw [eE]; omega, by rw [eA]; omega, ?_⟩
    · generalize 2 ^ d * iA 3 false q = g1 at *
      generalize 2 ^ d * iA 9 false q = g2 at *
      generalize 2 ^ d = P at *
      omega
    · generalize 2 ^ d * iA 3 false q = g1 at *
      generalize 2 ^ d * iA 9 false q = g2 at *
      generalize 2 ^ d * iE 3 q = g3 at *
      generalize 2 ^ d * iE 9 q = g4 at *
      generalize 2 ^ d = P at *
      omega
    · rw [eA, e5]
      generalize 2 ^ q = z at *
      omega
  · obtain ⟨a1, a2⟩ := side_up dE dE_ok q d hq false
    have hp := sm_past dE dE_ok denE_mono q false (cnt dE q + 1) (by omega)
    have eA : fA 4 q = sm dE q false (cnt dE q) := hp
    have eE : fE 4 q = eS (cnt dE q + 1) + 4 := rfl
    have eM : xM 4 (q + d) = sm dE (q + d) false (cnt dE (q + d)) := rfl
    have h1 := eS_bd (cnt dE q)
    have h2 := (eS_bd (cnt dE q + 1)).2
    have h3 := (cnt_spec dE dE_ok q).2.2
    have h4 := ns_all dE (cnt dE q)
    have h0 : 1 ≤ cnt dE q := by have := cnt_nine dE dE_ok q hq rfl; omega
    have lo : 2 ^ q ≤ sm dE q false (cnt dE q) := by
      refine Nat.le_trans ?_ (sm_mono dE q false 1 _ h0)
      show 2 ^ q ≤ 0 + term dE q 0
      rw [Nat.zero_add]
      show 2 ^ q ≤ 1 * 2 ^ q / rfac 0
      rw [Nat.one_mul, show rfac 0 = 1 from rfl, Nat.div_one]
      exact Nat.le_refl _
    have hi : sm dE q false (cnt dE q) ≤ 2 ^ (q + 5) := by
      obtain ⟨b1, b2⟩ := side_up dE dE_ok 40 (q - 40) (Nat.le_refl _) false
      rw [show 40 + (q - 40) = q by omega] at b2
      have c1 : sm dE 40 false (cnt dE 40) + ns dE false (cnt dE 40) + 2 ≤ 2 ^ 42 := by decide +kernel
      have m := Nat.mul_le_mul_left (2 ^ (q - 40)) c1
      rw [← Nat.pow_add, Nat.mul_add, Nat.mul_add] at m
      rw [Nat.mul_comm (ns _ _ _)] at b2
      have p : (2 : Nat) ^ (q - 40 + 42) ≤ 2 ^ (q + 5) := Nat.pow_le_pow_right (by decide) (by omega)
      generalize 2 ^ (q - 40) * sm dE 40 false (cnt dE 40) = g1 at *
      generalize 2 ^ (q - 40) * ns dE false (cnt dE 40) = g2 at *
      generalize 2 ^ (q - 40) = P at *
      omega
    rw [Nat.mul_add, eA, eE, eM]
    refine ⟨a1, ?_, by omega, Nat.le_trans e12 lo, hi⟩
    have m := Nat.mul_le_mul_right (2 ^ d) (show ns dE false (cnt dE q) + 2 ≤ eS (cnt dE q + 1) + 4 by omega)
    rw [Nat.add_mul] at m
    rw [Nat.mul_comm (2 ^ d) (eS _ + 4)]
    generalize 2 ^ d * sm dE q false (cnt dE q) = g1 at *
    generalize ns dE false (cnt dE q) * 2 ^ d = g2 at *
    generalize (eS (cnt dE q + 1) + 4) * 2 ^ d = g3 at *
    generalize 2 ^ d = P at *
    omega

/-- the document's constants: from gA on, gE units of 2^-q -/
def gB (k q : Nat) : Nat := 2 ^ (2 * q) / fA (ov k) q + (if 2 ^ (2 * q) % fA (ov k) q = 0 then 0 else 1)
def gA (k q : Nat) : Nat := if ov k = 0 then fA k q else 2 ^ (2 * q) / (fA (ov k) q + fE (ov k) q)
def gE (k q : Nat) : Nat := if ov k = 0 then fE k q else gB k q - 2 ^ (2 * q) / (fA (ov k) q + fE (ov k) q)
def dN (k W : Nat) : Nat := if ov k = 0 then xM k W else 2 ^ W
def dD (k W : Nat) : Nat := if ov k = 0 then 2 ^ W else xM (ov k) W

theorem ceil_le (x a : Nat) (ha : 0 < a) : x ≤ (x / a + (if x % a = 0 then 0 else 1)) * a := by
  have e := Nat.div_add_mod x a
  have m := Nat.mod_lt x ha
  rw [Nat.add_mul, Nat.mul_comm]
  split <;> omega
theorem div_near (q a e x : Nat) (hx : x = 2 ^ (2 * q)) (hq : 40 ≤ q) (ha : 2 ^ (q - 11) ≤ a) (ha2 : a ≤ 2 ^ (q + 5)) (he : e ≤ 2 ^ 20) : x / a ≤ x / (a + e) + 2 ^ 50 := by
  have a0 : 0 < a := Nat.lt_of_lt_of_le (Nat.pow_pos (by decide)) ha
  obtain ⟨b, hb⟩ : ∃ b, b = a + e := ⟨_, rfl⟩
  rw [← hb]
  have b0 : 0 < b := by omega
  have h1 := Nat.div_add_mod x b
  have h2 := Nat.mod_lt x b0
  have h3 : x / b ≤ 2 ^ (q + 11) := by
    refine Nat.div_le_of_le_mul ?_
    rw [hx]
    calc 2 ^ (2 * q) = 2 ^ (q - 11) * 2 ^ (q + 11) := by rw [← Nat.pow_add]; congr 1; omega
      _ ≤ b * 2 ^ (q + 11) := Nat.mul_le_mul_right _ (by omega)
  have h4 : (x / b) * e ≤ 2 ^ (q + 31) := by
    calc (x / b) * e ≤ 2 ^ (q + 11) * 2 ^ 20 := Nat.mul_le_mul h3 he
      _ = 2 ^ (q + 31) := by rw [← Nat.pow_add]
  have h5 : 2 ^ (q + 39) ≤ 2 ^ 50 * a := by
    calc 2 ^ (q + 39) = 2 ^ 50 * 2 ^ (q - 11) := by rw [← Nat.pow_add]; congr 1; omega
      _ ≤ 2 ^ 50 * a := Nat.mul_le_mul_left _ ha
  have h6 : (2 : Nat) ^ (q + 39) = 256 * 2 ^ (q + 31) := by rw [show q + 39 = q + 31 + 8 by omega, Nat.pow_add, Nat.mul_comm]
  have h7 : (2 : Nat) ^ (q + 5) ≤ 2 ^ (q + 31) := Nat.pow_le_pow_right (by decide) (by omega)
  have h8 : (2 : Nat) ^ 20 ≤ 2 ^ (q + 31) := Nat.pow_le_pow_right (by decide) (by omega)
  refine Nat.div_le_of_le_mul ?_
  obtain ⟨T, hT⟩ : ∃ T : Nat, T = 2 ^ 50 := ⟨_, rfl⟩
  rw [← hT] at h5 ⊢
  rw [Nat.mul_add, Nat.mul_comm a T]
  have h9 : b * (x / b) = a * (x / b) + x / b * e := by rw [hb, Nat.add_mul, Nat.mul_comm e]
  generalize 2 ^ (q + 31) = z at *
  generalize 2 ^ (q + 39) = z2 at *
  generalize 2 ^ (q + 5) = z3 at *
  generalize (2 : Nat) ^ 20 = z4 at *
  generalize x / b * e = z5 at *
  generalize a * (x / b) = z6 at *
  generalize T * a = z7 at *
  omega
theorem g_facts (k q : Nat) (hq : 40 ≤ q) (hq2 : q ≤ 8300) : ov k ≠ 0 → gB k q - gA k q ≤ 2 ^ 51 ∧ gA k q + gE k q = gB k q ∧ gA k q ≤ gB k q := by
  intro h0
  have hj : 1 ≤ ov k ∧ ov k ≤ 4 := by have := ov_cases k; omega
  obtain ⟨_, _, f3, f4, f5⟩ := f_in (ov k) q 0 hj.1 hj.2 hq
  have he : fE (ov k) q ≤ 2 ^ 20 := by
    have : (2 : Nat) ^ 20 = 1048576 := by decide
    omega
  have hn := div_near q (fA (ov k) q) (fE (ov k) q) _ rfl hq f4 f5 he
  have a0 : 0 < fA (ov k) q := Nat.lt_of_lt_of_le (Nat.pow_pos (by decide)) f4
  have hl : 2 ^ (2 * q) / (fA (ov k) q + fE (ov k) q) ≤ 2 ^ (2 * q) / fA (ov k) q := Nat.div_le_div_left (by omega) a0
  have eA : gA k q = 2 ^ (2 * q) / (fA (ov k) q + fE (ov k) q) := by unfold gA; rw [if_neg h0]
  have eE : gE k q = gB k q - 2 ^ (2 * q) / (fA (ov k) q + fE (ov k) q) := by unfold gE; rw [if_neg h0]
  have eB : 2 ^ (2 * q) / fA (ov k) q ≤ gB k q ∧ gB k q ≤ 2 ^ (2 * q) / fA (ov k) q + 1 := by unfold gB; split <;> omega
  rw [eE, eA]
  have t : (2 : Nat) ^ 51 = 2 * 2 ^ 50 := by decide
  have t0 : 1 ≤ (2 : Nat) ^ 50 := by decide
  rw [t]
  generalize (2 : Nat) ^ 50 = T at *
  generalize 2 ^ (2 * q) / fA (ov k) q = z1 at *
  generalize 2 ^ (2 * q) / (fA (ov k) q + fE (ov k) q) = z2 at *
  omega
theorem g_in (k q d : Nat) (h1 : 1 ≤ k) (h7 : k ≤ 7) (hq : 40 ≤ q) (hq2 : q ≤ 8300) :
    gA k q * dD k (q + d) ≤ dN k (q + d) * 2 ^ q ∧ dN k (q + d) * 2 ^ q ≤ (gA k q + gE k q) * dD k (q + d) ∧ 0 < dD k (q + d) := by
  by_cases h0 : ov k = 0
  · have h4 : k ≤ 4 := by unfold ov at h0; split at h0; · omega
                          split at h0; · omega
                          split at h0 <;> omega
    obtain ⟨a1, a2, _⟩ := f_in k q d h1 h4 hq
    unfold gA gE dN dD
    rw [if_pos h0, if_pos h0, if_pos h0, if_pos h0, Nat.pow_add, Nat.mul_comm (xM k (q + d))]
    refine ⟨?_, ?_, Nat.mul_pos (Nat.pow_pos (by decide)) (Nat.pow_pos (by decide))⟩
    · rw [Nat.mul_left_comm]; exact Nat.mul_le_mul_left _ (by rw [Nat.mul_comm]; exact a1)
    · rw [Nat.mul_left_comm]; exact Nat.mul_le_mul_left _ (by rw [Nat.mul_comm (fA k q + fE k q)]; exact a2)
  · have hj : 1 ≤ ov k ∧ ov k ≤ 4 := by have := ov_cases k; omega
    obtain ⟨a1, a2, f3, f4, f5⟩ := f_in (ov k) q d hj.1 hj.2 hq
    obtain ⟨_, g2, _⟩ := g_facts k q hq hq2 h0
    rw [g2]
    unfold gA gB dN dD
    rw [if_neg h0, if_neg h0, if_neg h0]
    have a0 : 0 < fA (ov k) q := Nat.lt_of_lt_of_le (Nat.pow_pos (by decide)) f4
    have hm : 0 < xM (ov k) (q + d) := Nat.lt_of_lt_of_le (Nat.mul_pos (Nat.pow_pos (by decide)) a0) a1
    generalize fA (ov k) q = a at *
    generalize fE (ov k) q = e at *
    generalize xM (ov k) (q + d) = X at *
    have e2 : 2 ^ (q + d) * 2 ^ q = 2 ^ d * 2 ^ (2 * q) := by rw [← Nat.pow_add, ← Nat.pow_add]; congr 1; omega
    rw [e2]
    refine ⟨?_, ?_, hm⟩
    · calc 2 ^ (2 * q) / (a + e) * X ≤ 2 ^ (2 * q) / (a + e) * (2 ^ d * (a + e)) := Nat.mul_le_mul_left _ a2
        _ = 2 ^ d * (2 ^ (2 * q) / (a + e) * (a + e)) := by rw [Nat.mul_left_comm]
        _ ≤ _ := Nat.mul_le_mul_left _ (Nat.div_mul_le_self _ _)
    · calc 2 ^ d * 2 ^ (2 * q) ≤ 2 ^ d * ((2 ^ (2 * q) / a + (if 2 ^ (2 * q) % a = 0 then 0 else 1)) * a) := Nat.mul_le_mul_left _ (ceil_le _ _ a0)
        _ = (2 ^ (2 * q) / a + (if 2 ^ (2 * q) % a = 0 then 0 else 1)) * (2 ^ d * a) := by rw [Nat.mul_left_comm]
        _ ≤ _ := Nat.mul_le_mul_left _ a1
theorem told_gen (l u N D P F q : Nat) (hp : 0 < P) (a1 : l * D ≤ N * P) (a2 : N * P ≤ u * D) (a3 : 0 < D) (h1 : l * F / P = q) (h2 : u * F / P = q) : N * F / D = q := by
  have l1 : q * P ≤ l * F := by rw [← h1]; exact Nat.div_mul_le_self _ _
  have u1 : u * F < (q + 1) * P := by
    have e1 := Nat.div_add_mod (u * F) P
    have e2 := Nat.mod_lt (u * F) hp
    rw [h2] at e1
    rw [Nat.add_mul, Nat.one_mul, Nat.mul_comm q]
    omega
  refine Nat.le_antisymm ?_ ?_
  · refine Nat.le_of_lt_succ ((Nat.div_lt_iff_lt_mul a3).2 ?_)
    refine Nat.lt_of_mul_lt_mul_left (a := P) ?_
    calc P * (N * F) = N * P * F := by rw [Nat.mul_left_comm, Nat.mul_assoc]
      _ ≤ u * D * F := Nat.mul_le_mul_right _ a2
      _ = u * F * D := Nat.mul_right_comm _ _ _
      _ < (q + 1) * P * D := Nat.mul_lt_mul_of_pos_right u1 a3
      _ = P * ((q + 1) * D) := by rw [Nat.mul_comm (q + 1), Nat.mul_assoc]
  · refine (Nat.le_div_iff_mul_le a3).2 ?_
    refine Nat.le_of_mul_le_mul_left (c := P) ?_ hp
    calc P * (q * D) = q * P * D := by rw [Nat.mul_left_comm, Nat.mul_assoc]
      _ ≤ l * F * D := Nat.mul_le_mul_right _ l1
      _ = l * D * F := Nat.mul_right_comm _ _ _
      _ ≤ N * P * F := Nat.mul_le_mul_right _ a1
      _ = P * (N * F) := by rw [Nat.mul_left_comm, Nat.mul_assoc]
/-- what the document tells of a constant so many times is its number so many times -/
theorem dtold (k q F Q : Nat) (h1 : 1 ≤ k) (h7 : k ≤ 7) (hq : 40 ≤ q) (hq2 : q ≤ 8300) (a : gA k q * F / 2 ^ q = Q) (b : (gA k q + gE k q) * F / 2 ^ q = Q) : dN k 8400 * F / dD k 8400 = Q := by
  obtain ⟨W, hW⟩ : ∃ W : Nat, W = 8400 := ⟨_, rfl⟩
  rw [← hW]
  obtain ⟨c1, c2, c3⟩ := g_in k q (W - q) h1 h7 hq hq2
  rw [show q + (W - q) = W by omega] at c1 c2 c3
  exact told_gen _ _ _ _ _ F Q (Nat.pow_pos (by decide)) c1 c2 c3 a b
end Ck
end Go.Proofs.YtkkldnnndlpblaaGreatDoor

/- Plain facts on naturals as lists of 64-bit words: their value, their one form. -/
import Derived.WalkKit
namespace Go.Proofs.YtfmjgagajlhfoaaDoor
open Go.RowKit

def val : List Int → Nat
  | [] => 0
  | x :: xs => x.toNat + 18446744073709551616 * val xs
def AllU (xs : List Int) : Prop := ∀ x ∈ xs, 0 ≤ x ∧ x ≤ 18446744073709551615
def wordsOf (n : Nat) : List Int :=
  if h : n = 0 then [] else ((n % 18446744073709551616 : Nat) : Int) :: wordsOf (n / 18446744073709551616)
termination_by n
decreasing_by omega
def sizeL : List Int → Nat
  | [] => 0
  | x :: xs => if sizeL xs = 0 then (if x = 0 then 0 else 1) else sizeL xs + 1

theorem words_zero : wordsOf 0 = [] := by rw [wordsOf]; simp
theorem words_pos (n : Nat) (h : n ≠ 0) : wordsOf n = ((n % 18446744073709551616 : Nat) : Int) :: wordsOf (n / 18446744073709551616) := by
  rw [wordsOf]; simp [h]
theorem words_nil (n : Nat) : wordsOf n = [] ↔ n = 0 := by
  constructor
  · intro h
    by_cases e : n = 0
    · exact e
    · rw [words_pos n e] at h; cases h
  · intro h; rw [h, words_zero]
theorem val_words (n : Nat) : val (wordsOf n) = n := by
  induction n using Nat.strongRecOn with
  | ind n ih =>
    by_cases e : n = 0
    · rw [e, words_zero]; rfl
    · rw [words_pos n e]
      show ((n % 18446744073709551616 : Nat) : Int).toNat + 18446744073709551616 * val (wordsOf (n / 18446744073709551616)) = n
      rw [ih _ (by omega), Int.toNat_natCast]; omega
theorem words_U (n : Nat) : AllU (wordsOf n) := by
  induction n using Nat.strongRecOn with
  | ind n ih =>
    by_cases e : n = 0
    · rw [e, words_zero]; intro x hx; cases hx
    · rw [words_pos n e]
      intro x hx
      rcases List.mem_cons.1 hx with h | h
      · subst h; omega
      · exact ih _ (by omega) x h
theorem AllU.tail {x : Int} {xs : List Int} (h : AllU (x :: xs)) : AllU xs := fun y hy => h y (List.mem_cons_of_mem _ hy)
theorem AllU.get {xs : List Int} (h : AllU xs) (i : Nat) : 0 ≤ xs.getD i 0 ∧ xs.getD i 0 ≤ 18446744073709551615 := by
  by_cases hi : i < xs.length
  · have e : xs.getD i 0 = xs[i] := by simp [List.getD, hi]
    rw [e]; exact h _ (List.getElem_mem hi)
  · have e : xs.getD i 0 = 0 := by simp [List.getD, hi]
    rw [e]; omega
theorem norm_eq : ∀ xs : List Int, AllU xs → xs.take (sizeL xs) = wordsOf (val xs)
  | [], _ => by show [] = wordsOf 0; rw [words_zero]
  | x :: xs, h => by
    have ih := norm_eq xs h.tail
    have hx := h x (List.mem_cons_self)
    show (x :: xs).take (if sizeL xs = 0 then (if x = 0 then 0 else 1) else sizeL xs + 1) = wordsOf (x.toNat + 18446744073709551616 * val xs)
    by_cases hs : sizeL xs = 0
    · rw [if_pos hs]
      rw [hs] at ih
      have hv : val xs = 0 := (words_nil _).1 (by rw [← ih]; rfl)
      rw [hv]
      by_cases h0 : x = 0
      · rw [if_pos h0, h0]; show [] = wordsOf 0; rw [words_zero]
      · rw [if_neg h0, words_pos _ (by omega)]
        have e2 : (x.toNat + 18446744073709551616 * 0) / 18446744073709551616 = 0 := by omega
        rw [e2, words_zero]
        show [x] = _
        congr 1; omega
    · rw [if_neg hs]
      have hv : val xs ≠ 0 := fun e => by
        rw [e, words_zero] at ih
        have := congrArg List.length ih
        simp at this
        rcases this with h1 | h1
        · exact hs h1
        · subst h1; exact hs rfl
      rw [words_pos _ (by omega)]
      have e2 : (x.toNat + 18446744073709551616 * val xs) / 18446744073709551616 = val xs := by omega
      rw [e2, ← ih]
      show x :: xs.take (sizeL xs) = _
      congr 1; omega
theorem size_le : ∀ xs : List Int, sizeL xs ≤ xs.length
  | [] => Nat.le_refl _
  | x :: xs => by
    have := size_le xs
    show (if sizeL xs = 0 then (if x = 0 then 0 else 1) else sizeL xs + 1) ≤ xs.length + 1
    (repeat' split) <;> omega
theorem size_words (xs : List Int) (h : AllU xs) : (wordsOf (val xs)).length = sizeL xs := by
  rw [← norm_eq xs h, List.length_take]; have := size_le xs; omega
theorem size_snoc : ∀ (xs : List Int) (x : Int), sizeL (xs ++ [x]) = if x = 0 then sizeL xs else xs.length + 1
  | [], x => by
    show (if sizeL [] = 0 then (if x = 0 then 0 else 1) else sizeL [] + 1) = _
    simp [sizeL]
  | y :: ys, x => by
    have ih := size_snoc ys x
    show (if sizeL (ys ++ [x]) = 0 then (if y = 0 then 0 else 1) else sizeL (ys ++ [x]) + 1) = if x = 0 then (if sizeL ys = 0 then (if y = 0 then 0 else 1) else sizeL ys + 1) else ys.length + 1 + 1
    rw [ih]
    by_cases hx : x = 0 <;> simp [hx]
theorem size_spec : ∀ (xs : List Int) (n : Nat), n ≤ xs.length → (∀ i, n ≤ i → i < xs.length → xs.getD i 0 = 0) → (n = 0 ∨ xs.getD (n - 1) 0 ≠ 0) → n = sizeL xs
  | [], n, hn, _, _ => by simp at hn; rw [hn]; rfl
  | x :: xs, 0, _, hz, _ => by
    have ih := size_spec xs 0 (Nat.zero_le _) (fun i _ hi => by have := hz (i + 1) (Nat.zero_le _) (by simp; omega); simpa using this) (Or.inl rfl)
    have h0 := hz 0 (Nat.le_refl _) (by simp)
    show 0 = if sizeL xs = 0 then (if x = 0 then 0 else 1) else sizeL xs + 1
    rw [if_pos ih.symm, if_pos (by simpa using h0)]
  | x :: xs, m + 1, hn, hz, hl => by
    simp at hn
    have hz' : ∀ i, m ≤ i → i < xs.length → xs.getD i 0 = 0 := fun i h1 hi => by have := hz (i + 1) (by omega) (by simp; omega); simpa using this
    show m + 1 = if sizeL xs = 0 then (if x = 0 then 0 else 1) else sizeL xs + 1
    cases m with
    | zero =>
      have ih := size_spec xs 0 (Nat.zero_le _) hz' (Or.inl rfl)
      have hx : x ≠ 0 := by
        rcases hl with h | h
        · omega
        · simpa using h
      rw [if_pos ih.symm, if_neg hx]
    | succ m =>
      have ih := size_spec xs (m + 1) hn hz' (Or.inr (by
        rcases hl with h | h
        · omega
        · simpa using h))
      rw [if_neg (by omega), ← ih]
theorem val_append : ∀ xs ys : List Int, val (xs ++ ys) = val xs + 18446744073709551616 ^ xs.length * val ys
  | [], ys => by simp [val]
  | x :: xs, ys => by
    show x.toNat + 18446744073709551616 * val (xs ++ ys) = x.toNat + 18446744073709551616 * val xs + 18446744073709551616 ^ (xs.length + 1) * val ys
    rw [val_append xs ys, Nat.pow_succ, Nat.mul_add, ← Nat.mul_assoc, Nat.mul_comm (18446744073709551616 ^ xs.length) 18446744073709551616, Nat.add_assoc]
theorem val_take_succ (xs : List Int) (k : Nat) (h : k < xs.length) : val (xs.take (k + 1)) = val (xs.take k) + 18446744073709551616 ^ k * (xs.getD k 0).toNat := by
  have e : xs.take (k + 1) = xs.take k ++ [xs.getD k 0] := by
    rw [List.take_succ_eq_append_getElem h]; simp [List.getD, h]
  rw [e, val_append, List.length_take, Nat.min_eq_left (by omega)]
  simp [val]
theorem val_take_all (xs : List Int) (k : Nat) (h : xs.length ≤ k) : val (xs.take k) = val xs := by rw [List.take_of_length_le h]
theorem val_lt (xs : List Int) (h : AllU xs) : val xs < 18446744073709551616 ^ xs.length := by
  induction xs with
  | nil => simp [val]
  | cons x xs ih =>
    have h1 := ih h.tail
    have h2 := h x (List.mem_cons_self)
    show x.toNat + 18446744073709551616 * val xs < 18446744073709551616 ^ (xs.length + 1)
    rw [Nat.pow_succ]
    omega

def cmpN (x y : Nat) : Int := if x < y then -1 else if y < x then 1 else 0
theorem val_split (xs : List Int) (k : Nat) : val xs = val (xs.take k) + 18446744073709551616 ^ (min k xs.length) * val (xs.drop k) := by
  have h := val_append (xs.take k) (xs.drop k)
  rw [List.take_append_drop, List.length_take] at h
  exact h
theorem AllU.take {xs : List Int} (h : AllU xs) (k : Nat) : AllU (xs.take k) := fun x hx => h x (List.mem_of_mem_take hx)
theorem AllU.drop {xs : List Int} (h : AllU xs) (k : Nat) : AllU (xs.drop k) := fun x hx => h x (List.mem_of_mem_drop hx)
/-- The value of the words below place k, where the list is thought to go on with noughts. -/
def low (xs : List Int) : Nat → Nat
  | 0 => 0
  | k + 1 => low xs k + 18446744073709551616 ^ k * (xs.getD k 0).toNat
theorem low_take (xs : List Int) : ∀ k, low xs k = val (xs.take k)
  | 0 => by simp [low, val]
  | k + 1 => by
    have ih := low_take xs k
    show low xs k + _ = _
    by_cases h : k < xs.length
    · rw [ih, val_take_succ xs k h]
    · rw [ih, List.take_of_length_le (by omega), List.take_of_length_le (by omega)]
      have : xs.getD k 0 = 0 := by simp [List.getD, h]
      rw [this]; simp
theorem low_all (xs : List Int) (k : Nat) (h : xs.length ≤ k) : low xs k = val xs := by rw [low_take, val_take_all xs k h]
theorem low_lt (xs : List Int) (h : AllU xs) : ∀ k, low xs k < 18446744073709551616 ^ k
  | 0 => by simp [low]
  | k + 1 => by
    have ih := low_lt xs h k
    have hg := h.get k
    have : (xs.getD k 0).toNat + 1 ≤ 18446744073709551616 := by omega
    show low xs k + 18446744073709551616 ^ k * (xs.getD k 0).toNat < 18446744073709551616 ^ (k + 1)
    have h2 := Nat.mul_le_mul_left (18446744073709551616 ^ k) this
    rw [Nat.mul_add, Nat.mul_one] at h2
    rw [Nat.pow_succ]
    omega
/-- Where the words from place k on are the same, the values go as the words below do. -/
def SameFrom (xs ys : List Int) (k : Nat) : Prop := ∀ i, k ≤ i → xs.getD i 0 = ys.getD i 0
theorem low_same (xs ys : List Int) (k : Nat) (h : SameFrom xs ys k) : ∀ d, (low xs (k + d) : Int) - low xs k = low ys (k + d) - low ys k
  | 0 => by simp
  | d + 1 => by
    have ih := low_same xs ys k h d
    have e : xs.getD (k + d) 0 = ys.getD (k + d) 0 := h _ (by omega)
    show ((low xs (k + d) + 18446744073709551616 ^ (k + d) * (xs.getD (k + d) 0).toNat : Nat) : Int) - low xs k = ((low ys (k + d) + 18446744073709551616 ^ (k + d) * (ys.getD (k + d) 0).toNat : Nat) : Int) - low ys k
    rw [e]; omega
theorem cmp_top (xs ys : List Int) (hx : AllU xs) (hy : AllU ys) (k n : Nat) (hk : k < n) (hxn : xs.length ≤ n) (hyn : ys.length ≤ n) (h : SameFrom xs ys (k + 1)) :
    (xs.getD k 0 < ys.getD k 0 → cmpN (val xs) (val ys) = -1) ∧ (ys.getD k 0 < xs.getD k 0 → cmpN (val xs) (val ys) = 1) := by
  have e := low_same xs ys (k + 1) h (n - (k + 1))
  rw [show k + 1 + (n - (k + 1)) = n by omega, low_all xs n hxn, low_all ys n hyn] at e
  have l1 := low_lt xs hx k
  have l2 := low_lt ys hy k
  have g1 := hx.get k
  have g2 := hy.get k
  have s1 : low xs (k + 1) = low xs k + 18446744073709551616 ^ k * (xs.getD k 0).toNat := rfl
  have s2 : low ys (k + 1) = low ys k + 18446744073709551616 ^ k * (ys.getD k 0).toNat := rfl
  constructor
  · intro hlt
    have h1 : (xs.getD k 0).toNat + 1 ≤ (ys.getD k 0).toNat := by omega
    have h2 := Nat.mul_le_mul_left (18446744073709551616 ^ k) h1
    rw [Nat.mul_add, Nat.mul_one] at h2
    unfold cmpN; rw [if_pos (by omega)]
  · intro hlt
    have h1 : (ys.getD k 0).toNat + 1 ≤ (xs.getD k 0).toNat := by omega
    have h2 := Nat.mul_le_mul_left (18446744073709551616 ^ k) h1
    rw [Nat.mul_add, Nat.mul_one] at h2
    unfold cmpN; rw [if_neg (by omega), if_pos (by omega)]
theorem cmp_same (xs ys : List Int) (h : SameFrom xs ys 0) (n : Nat) (hxn : xs.length ≤ n) (hyn : ys.length ≤ n) : cmpN (val xs) (val ys) = 0 := by
  have e := low_same xs ys 0 h n
  rw [Nat.zero_add, low_all xs n hxn, low_all ys n hyn] at e
  have : val xs = val ys := by simp [low] at e; omega
  unfold cmpN; rw [this]; simp

/-- One word of a sum: the word and what is carried. -/
theorem add_word (x y c : Int) (hx : 0 ≤ x ∧ x ≤ 18446744073709551615) (hy : 0 ≤ y ∧ y ≤ 18446744073709551615) (hc : c = 0 ∨ c = 1) (s c' : Int)
    (hs : s = (x + y + c) % 18446744073709551616)
    (h : (s < x ∧ c' = 1) ∨ (¬ s < x ∧ s = x ∧ c = 1 ∧ 0 < y ∧ c' = 1) ∨ (¬ s < x ∧ ¬ (s = x ∧ c = 1 ∧ 0 < y) ∧ c' = 0)) : s + 18446744073709551616 * c' = x + y + c := by
  omega
theorem add_step (xs ys L : List Int) (k : Nat) (x y c s c' : Int) (hk : L.length = k) (hx : x = xs.getD k 0) (hy : y = ys.getD k 0) (h0 : 0 ≤ x) (h1 : 0 ≤ y) (h2 : 0 ≤ c) (h3 : 0 ≤ s) (h4 : 0 ≤ c')
    (hv : val L + 18446744073709551616 ^ k * c.toNat = low xs k + low ys k) (hw : s + 18446744073709551616 * c' = x + y + c) :
    val (L ++ [s]) + 18446744073709551616 ^ (k + 1) * c'.toNat = low xs (k + 1) + low ys (k + 1) := by
  have e1 : low xs (k + 1) = low xs k + 18446744073709551616 ^ k * x.toNat := by rw [hx]; rfl
  have e2 : low ys (k + 1) = low ys k + 18446744073709551616 ^ k * y.toNat := by rw [hy]; rfl
  have e3 : s.toNat + 18446744073709551616 * c'.toNat = x.toNat + y.toNat + c.toNat := by omega
  have e4 := congrArg (18446744073709551616 ^ k * ·) e3
  simp only [Nat.mul_add] at e4
  rw [e1, e2, val_append, hk, Nat.pow_succ]
  simp only [val, Nat.mul_zero, Nat.add_zero]
  rw [Nat.mul_assoc] 
  omega
theorem sub_step (xs ys L : List Int) (k : Nat) (x y c s c' : Int) (hk : L.length = k) (hx : x = xs.getD k 0) (hy : y = ys.getD k 0) (h0 : 0 ≤ x) (h1 : 0 ≤ y) (h2 : 0 ≤ c) (h3 : 0 ≤ s) (h4 : 0 ≤ c')
    (hv : val L + low ys k = low xs k + 18446744073709551616 ^ k * c.toNat) (hw : s + y + c = x + 18446744073709551616 * c') :
    val (L ++ [s]) + low ys (k + 1) = low xs (k + 1) + 18446744073709551616 ^ (k + 1) * c'.toNat := by
  have e1 : low xs (k + 1) = low xs k + 18446744073709551616 ^ k * x.toNat := by rw [hx]; rfl
  have e2 : low ys (k + 1) = low ys k + 18446744073709551616 ^ k * y.toNat := by rw [hy]; rfl
  have e3 : s.toNat + y.toNat + c.toNat = x.toNat + 18446744073709551616 * c'.toNat := by omega
  have e4 := congrArg (18446744073709551616 ^ k * ·) e3
  simp only [Nat.mul_add] at e4
  rw [e1, e2, val_append, hk, Nat.pow_succ]
  simp only [val, Nat.mul_zero, Nat.add_zero]
  rw [Nat.mul_assoc] 
  omega
theorem AllU.snoc {L : List Int} (h : AllU L) {x : Int} (h0 : 0 ≤ x) (h1 : x ≤ 18446744073709551615) : AllU (L ++ [x]) := by
  intro y hy
  rcases List.mem_append.1 hy with h2 | h2
  · exact h y h2
  · simp at h2; subst h2; exact ⟨h0, h1⟩
end Go.Proofs.YtfmjgagajlhfoaaDoor

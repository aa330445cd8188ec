/- Plain facts on naturals as lists of 64-bit words: their value, their one form. The walks of the document's answers for layer 3 (package ulpref03), first part: words, sameness, size, the one form, order. Plain facts on naturals: how many words, how many bits, the lowest bit; what is answered where a number is too great. Plain facts on lists of words: one word set; shifts. The walks of package nat, first part: words at the end cut off, sizes, single words, copies. The walks of the document's parts of naturals: a bit, how many bits, how many bits 0 at the end. -/
import Derived.WalkKit
import Derived.WalkSpells
import Derived.WalkLawsBesides
import Derived.Deep.QuietTactic
import Derived.BigQuiet
import Derived.Maps.AppendAt
import Derived.Laws.AppendOwnNone
import Derived.Test.YtahpdcbmekgkfaaGreatDoorRows
import Derived.Test.YtahpdcbmekgkfaaGreatDoorAL
import Derived.Lib.TrailingZeros
import Derived.Lib.ItoaNum
import Derived.LoopN

namespace Go.Proofs.YtahpdcbmekgkfaaGreatDoor
open Go.RowKit
def val : List Int → Nat
 | [] => 0
 | x :: xs => x.toNat + 18446744073709551616 * val xs
def AllU (xs : List Int) : Prop := ∀ x ∈ xs, 0 ≤ x ∧ x ≤ 18446744073709551615
def wO (n : Nat) : List Int :=
 if h : n = 0 then [] else ((n % 18446744073709551616 : Nat) : Int) :: wO (n / 18446744073709551616)
termination_by n
decreasing_by omega
def sizeL : List Int → Nat
 | [] => 0
 | x :: xs => if sizeL xs = 0 then (if x = 0 then 0 else 1) else sizeL xs + 1
theorem words_zero : wO 0 = [] := by rw [wO]; simp
theorem words_pos (n : Nat) (h : n ≠ 0) : wO n = ((n % 18446744073709551616 : Nat) : Int) :: wO (n / 18446744073709551616) := by
 rw [wO]; simp [h]
theorem words_nil (n : Nat) : wO n = [] ↔ n = 0 := by
 constructor
 ·intro h
  by_cases e : n = 0
  ·exact e
  ·rw [words_pos n e] at h; cases h
 ·intro h; rw [h, words_zero]
theorem val_words (n : Nat) : val (wO n) = n := by
 induction n using Nat.strongRecOn with
 | ind n ih =>
  by_cases e : n = 0
  ·rw [e, words_zero]; rfl
  ·rw [words_pos n e]
   show ((n % 18446744073709551616 : Nat) : Int).toNat + 18446744073709551616 * val (wO (n / 18446744073709551616)) = n
   rw [ih _ (by omega), Int.toNat_natCast]; omega
theorem words_U (n : Nat) : AllU (wO n) := by
 induction n using Nat.strongRecOn with
 | ind n ih =>
  by_cases e : n = 0
  ·rw [e, words_zero]; intro x hx; cases hx
  ·rw [words_pos n e]
   intro x hx
   rcases List.mem_cons.1 hx with h | h
   ·subst h; omega
   ·exact ih _ (by omega) x h
theorem AllU.tail {x : Int} {xs : List Int} (h : AllU (x :: xs)) : AllU xs := fun y hy => h y (List.mem_cons_of_mem _ hy)
theorem AllU.get {xs : List Int} (h : AllU xs) (i : Nat) : 0 ≤ xs.getD i 0 ∧ xs.getD i 0 ≤ 18446744073709551615 := by
 by_cases hi : i < xs.length
 ·have e : xs.getD i 0 = xs[i] := by simp [List.getD, hi]
  rw [e]; exact h _ (List.getElem_mem hi)
 ·have e : xs.getD i 0 = 0 := by simp [List.getD, hi]
  rw [e]; omega
theorem norm_eq : ∀ xs : List Int, AllU xs → xs.take (sizeL xs) = wO (val xs)
 | [], _ => by show [] = wO 0; rw [words_zero]
 | x :: xs, h => by
  have ih := norm_eq xs h.tail
  have hx := h x (List.mem_cons_self)
  show (x :: xs).take (if sizeL xs = 0 then (if x = 0 then 0 else 1) else sizeL xs + 1) = wO (x.toNat + 18446744073709551616 * val xs)
  by_cases hs : sizeL xs = 0
  ·rw [if_pos hs]
   rw [hs] at ih
   have hv : val xs = 0 := (words_nil _).1 (by rw [← ih]; rfl)
   rw [hv]
   by_cases h0 : x = 0
   ·rw [if_pos h0, h0]; show [] = wO 0; rw [words_zero]
   ·rw [if_neg h0, words_pos _ (by omega)]
    have e2 : (x.toNat + 18446744073709551616 * 0) / 18446744073709551616 = 0 := by omega
    rw [e2, words_zero]
    show [x] = _
    congr 1; omega
  ·rw [if_neg hs]
   have hv : val xs ≠ 0 := fun e => by
    rw [e, words_zero] at ih
    have := congrArg List.length ih
    simp at this
    rcases this with h1 | h1
    ·exact hs h1
    ·subst h1; exact hs rfl
   rw [words_pos _ (by omega)]
   have e2 : (x.toNat + 18446744073709551616 * val xs) / 18446744073709551616 = val xs := by omega
   rw [e2, ← ih]
   show x :: xs.take (sizeL xs) = _
   congr 1; omega
theorem size_le : ∀ xs : List Int, sizeL xs ≤ xs.length
 | [] => Nat.le_refl _
 | x :: xs => by
  have := size_le xs
  show (if sizeL xs = 0 then (if x = 0 then 0 else 1) else sizeL xs + 1) ≤ xs.length + 1
  (repeat' split) <;> omega
theorem size_words (xs : List Int) (h : AllU xs) : (wO (val xs)).length = sizeL xs := by
 rw [← norm_eq xs h, List.length_take]; have := size_le xs; omega
theorem size_snoc : ∀ (xs : List Int) (x : Int), sizeL (xs ++ [x]) = if x = 0 then sizeL xs else xs.length + 1
 | [], x => by
  show (if sizeL [] = 0 then (if x = 0 then 0 else 1) else sizeL [] + 1) = _
  simp [sizeL]
 | y :: ys, x => by
  have ih := size_snoc ys x
  show (if sizeL (ys ++ [x]) = 0 then (if y = 0 then 0 else 1) else sizeL (ys ++ [x]) + 1) = if x = 0 then (if sizeL ys = 0 then (if y = 0 then 0 else 1) else sizeL ys + 1) else ys.length + 1 + 1
  rw [ih]
  by_cases hx : x = 0 <;> simp [hx]
theorem size_spec : ∀ (xs : List Int) (n : Nat), n ≤ xs.length → (∀ i, n ≤ i → i < xs.length → xs.getD i 0 = 0) → (n = 0 ∨ xs.getD (n - 1) 0 ≠ 0) → n = sizeL xs
 | [], n, hn, _, _ => by simp at hn; rw [hn]; rfl
 | x :: xs, 0, _, hz, _ => by
  have ih := size_spec xs 0 (Nat.zero_le _) (fun i _ hi => by have := hz (i + 1) (Nat.zero_le _) (by simp; omega); simpa using this) (Or.inl rfl)
  have h0 := hz 0 (Nat.le_refl _) (by simp)
  show 0 = if sizeL xs = 0 then (if x = 0 then 0 else 1) else sizeL xs + 1
  rw [if_pos ih.symm, if_pos (by simpa using h0)]
 | x :: xs, m + 1, hn, hz, hl => by
  simp at hn
  have hz' : ∀ i, m ≤ i → i < xs.length → xs.getD i 0 = 0 := fun i h1 hi => by have := hz (i + 1) (by omega) (by simp; omega); simpa using this
  show m + 1 = if sizeL xs = 0 then (if x = 0 then 0 else 1) else sizeL xs + 1
  cases m with
  | zero =>
   have ih := size_spec xs 0 (Nat.zero_le _) hz' (Or.inl rfl)
   have hx : x ≠ 0 := by
    rcases hl with h | h
    ·omega
    ·simpa using h
   rw [if_pos ih.symm, if_neg hx]
  | succ m =>
   have ih := size_spec xs (m + 1) hn hz' (Or.inr (by
    rcases hl with h | h
    ·omega
    ·simpa using h))
   rw [if_neg (by omega), ← ih]
theorem val_append : ∀ xs ys : List Int, val (xs ++ ys) = val xs + 18446744073709551616 ^ xs.length * val ys
 | [], ys => by simp [val]
 | x :: xs, ys => by
  show x.toNat + 18446744073709551616 * val (xs ++ ys) = x.toNat + 18446744073709551616 * val xs + 18446744073709551616 ^ (xs.length + 1) * val ys
  rw [val_append xs ys, Nat.pow_succ, Nat.mul_add, ← Nat.mul_assoc, Nat.mul_comm (18446744073709551616 ^ xs.length) 18446744073709551616, Nat.add_assoc]
theorem val_take_succ (xs : List Int) (k : Nat) (h : k < xs.length) : val (xs.take (k + 1)) = val (xs.take k) + 18446744073709551616 ^ k * (xs.getD k 0).toNat := by
 have e : xs.take (k + 1) = xs.take k ++ [xs.getD k 0] := by
  rw [List.take_succ_eq_append_getElem h]; simp [List.getD, h]
 rw [e, val_append, List.length_take, Nat.min_eq_left (by omega)]
 simp [val]
theorem val_take_all (xs : List Int) (k : Nat) (h : xs.length ≤ k) : val (xs.take k) = val xs := by rw [List.take_of_length_le h]
theorem val_lt (xs : List Int) (h : AllU xs) : val xs < 18446744073709551616 ^ xs.length := by
 induction xs with
 | nil => simp [val]
 | cons x xs ih =>
  have h1 := ih h.tail
  have h2 := h x (List.mem_cons_self)
  show x.toNat + 18446744073709551616 * val xs < 18446744073709551616 ^ (xs.length + 1)
  rw [Nat.pow_succ]
  omega
def cmpN (x y : Nat) : Int := if x < y then -1 else if y < x then 1 else 0
theorem val_split (xs : List Int) (k : Nat) : val xs = val (xs.take k) + 18446744073709551616 ^ (min k xs.length) * val (xs.drop k) := by
 have h := val_append (xs.take k) (xs.drop k)
 rw [List.take_append_drop, List.length_take] at h
 exact h
theorem AllU.take {xs : List Int} (h : AllU xs) (k : Nat) : AllU (xs.take k) := fun x hx => h x (List.mem_of_mem_take hx)
theorem AllU.drop {xs : List Int} (h : AllU xs) (k : Nat) : AllU (xs.drop k) := fun x hx => h x (List.mem_of_mem_drop hx)
def low (xs : List Int) : Nat → Nat
 | 0 => 0
 | k + 1 => low xs k + 18446744073709551616 ^ k * (xs.getD k 0).toNat
theorem low_take (xs : List Int) : ∀ k, low xs k = val (xs.take k)
 | 0 => by simp [low, val]
 | k + 1 => by
  have ih := low_take xs k
  show low xs k + _ = _
  by_cases h : k < xs.length
  ·rw [ih, val_take_succ xs k h]
  ·rw [ih, List.take_of_length_le (by omega), List.take_of_length_le (by omega)]
   have : xs.getD k 0 = 0 := by simp [List.getD, h]
   rw [this]; simp
theorem low_all (xs : List Int) (k : Nat) (h : xs.length ≤ k) : low xs k = val xs := by rw [low_take, val_take_all xs k h]
theorem low_lt (xs : List Int) (h : AllU xs) : ∀ k, low xs k < 18446744073709551616 ^ k
 | 0 => by simp [low]
 | k + 1 => by
  have ih := low_lt xs h k
  have hg := h.get k
  have : (xs.getD k 0).toNat + 1 ≤ 18446744073709551616 := by omega
  show low xs k + 18446744073709551616 ^ k * (xs.getD k 0).toNat < 18446744073709551616 ^ (k + 1)
  have h2 := Nat.mul_le_mul_left (18446744073709551616 ^ k) this
  rw [Nat.mul_add, Nat.mul_one] at h2
  rw [Nat.pow_succ]
  omega
def SameFrom (xs ys : List Int) (k : Nat) : Prop := ∀ i, k ≤ i → xs.getD i 0 = ys.getD i 0
theorem low_same (xs ys : List Int) (k : Nat) (h : SameFrom xs ys k) : ∀ d, (low xs (k + d) : Int) - low xs k = low ys (k + d) - low ys k
 | 0 => by simp
 | d + 1 => by
  have ih := low_same xs ys k h d
  have e : xs.getD (k + d) 0 = ys.getD (k + d) 0 := h _ (by omega)
  show ((low xs (k + d) + 18446744073709551616 ^ (k + d) * (xs.getD (k + d) 0).toNat : Nat) : Int) - low xs k = ((low ys (k + d) + 18446744073709551616 ^ (k + d) * (ys.getD (k + d) 0).toNat : Nat) : Int) - low ys k
  rw [e]; omega
theorem cmp_top (xs ys : List Int) (hx : AllU xs) (hy : AllU ys) (k n : Nat) (hk : k < n) (hxn : xs.length ≤ n) (hyn : ys.length ≤ n) (h : SameFrom xs ys (k + 1)) :
  (xs.getD k 0 < ys.getD k 0 → cmpN (val xs) (val ys) = -1) ∧ (ys.getD k 0 < xs.getD k 0 → cmpN (val xs) (val ys) = 1) := by
 have e := low_same xs ys (k + 1) h (n - (k + 1))
 rw [show k + 1 + (n - (k + 1)) = n by omega, low_all xs n hxn, low_all ys n hyn] at e
 have l1 := low_lt xs hx k
 have l2 := low_lt ys hy k
 have g1 := hx.get k
 have g2 := hy.get k
 have s1 : low xs (k + 1) = low xs k + 18446744073709551616 ^ k * (xs.getD k 0).toNat := rfl
 have s2 : low ys (k + 1) = low ys k + 18446744073709551616 ^ k * (ys.getD k 0).toNat := rfl
 constructor
 ·intro hlt
  have h1 : (xs.getD k 0).toNat + 1 ≤ (ys.getD k 0).toNat := by omega
  have h2 := Nat.mul_le_mul_left (18446744073709551616 ^ k) h1
  rw [Nat.mul_add, Nat.mul_one] at h2
  unfold cmpN; rw [if_pos (by omega)]
 ·intro hlt
  have h1 : (ys.getD k 0).toNat + 1 ≤ (xs.getD k 0).toNat := by omega
  have h2 := Nat.mul_le_mul_left (18446744073709551616 ^ k) h1
  rw [Nat.mul_add, Nat.mul_one] at h2
  unfold cmpN; rw [if_neg (by omega), if_pos (by omega)]
theorem cmp_same (xs ys : List Int) (h : SameFrom xs ys 0) (n : Nat) (hxn : xs.length ≤ n) (hyn : ys.length ≤ n) : cmpN (val xs) (val ys) = 0 := by
 have e := low_same xs ys 0 h n
 rw [Nat.zero_add, low_all xs n hxn, low_all ys n hyn] at e
 have : val xs = val ys := by simp [low] at e; omega
 unfold cmpN; rw [this]; simp
theorem add_step (xs ys L : List Int) (k : Nat) (x y c s c' : Int) (hk : L.length = k) (hx : x = xs.getD k 0) (hy : y = ys.getD k 0) (h0 : 0 ≤ x) (h1 : 0 ≤ y) (h2 : 0 ≤ c) (h3 : 0 ≤ s) (h4 : 0 ≤ c')
  (hv : val L + 18446744073709551616 ^ k * c.toNat = low xs k + low ys k) (hw : s + 18446744073709551616 * c' = x + y + c) :
  val (L ++ [s]) + 18446744073709551616 ^ (k + 1) * c'.toNat = low xs (k + 1) + low ys (k + 1) := by
 have e1 : low xs (k + 1) = low xs k + 18446744073709551616 ^ k * x.toNat := by rw [hx]; rfl
 have e2 : low ys (k + 1) = low ys k + 18446744073709551616 ^ k * y.toNat := by rw [hy]; rfl
 have e3 : s.toNat + 18446744073709551616 * c'.toNat = x.toNat + y.toNat + c.toNat := by omega
 have e4 := congrArg (18446744073709551616 ^ k * ·) e3
 simp only [Nat.mul_add] at e4
 rw [e1, e2, val_append, hk, Nat.pow_succ]
 simp only [val, Nat.mul_zero, Nat.add_zero]
 rw [Nat.mul_assoc] 
 omega
theorem sub_step (xs ys L : List Int) (k : Nat) (x y c s c' : Int) (hk : L.length = k) (hx : x = xs.getD k 0) (hy : y = ys.getD k 0) (h0 : 0 ≤ x) (h1 : 0 ≤ y) (h2 : 0 ≤ c) (h3 : 0 ≤ s) (h4 : 0 ≤ c')
  (hv : val L + low ys k = low xs k + 18446744073709551616 ^ k * c.toNat) (hw : s + y + c = x + 18446744073709551616 * c') :
  val (L ++ [s]) + low ys (k + 1) = low xs (k + 1) + 18446744073709551616 ^ (k + 1) * c'.toNat := by
 have e1 : low xs (k + 1) = low xs k + 18446744073709551616 ^ k * x.toNat := by rw [hx]; rfl
 have e2 : low ys (k + 1) = low ys k + 18446744073709551616 ^ k * y.toNat := by rw [hy]; rfl
 have e3 : s.toNat + y.toNat + c.toNat = x.toNat + 18446744073709551616 * c'.toNat := by omega
 have e4 := congrArg (18446744073709551616 ^ k * ·) e3
 simp only [Nat.mul_add] at e4
 rw [e1, e2, val_append, hk, Nat.pow_succ]
 simp only [val, Nat.mul_zero, Nat.add_zero]
 rw [Nat.mul_assoc] 
 omega
theorem AllU.snoc {L : List Int} (h : AllU L) {x : Int} (h0 : 0 ≤ x) (h1 : x ≤ 18446744073709551615) : AllU (L ++ [x]) := by
 intro y hy
 rcases List.mem_append.1 hy with h2 | h2
 ·exact h y h2
 ·simp at h2; subst h2; exact ⟨h0, h1⟩
set_option maxHeartbeats 1000000
set_option maxRecDepth 100000
def IsW (w : World) (a : Option Addr) (len cap : Nat) (xs : List Int) : Prop :=
 len = xs.length ∧ AllU xs ∧ (len ≤ cap ∧ (a = none → cap = 0)) ∧ ∀ i, i < len → ∃ b off, a = some ⟨b, off, none⟩ ∧ b < w.heap.size ∧ w.cell? ⟨b, off + i, none⟩ = some (.int .u64 (xs.getD i 0))
theorem IsW.keep {w w' : World} {a : Option Addr} {len cap : Nat} {xs : List Int} (h : IsW w a len cap xs) (hb : Below w.heap.size w w') : IsW w' a len cap xs := by
 obtain ⟨h1, h2, h4, h3⟩ := h
 refine ⟨h1, h2, h4, fun i hi => ?_⟩
 obtain ⟨b, off, e1, e2, e3⟩ := h3 i hi
 exact ⟨b, off, e1, Nat.lt_of_lt_of_le e2 hb.size, (hb.cell (p := ⟨b, off + i, none⟩) e2).trans e3⟩
def Own (B : Nat) (w : World) (a : Option Addr) (cv : Nat) (L : List Int) : Prop :=
 w.ownsRow B 53 1 (.slice a L.length cv) L.length (L.map (Value.int .u64))
theorem Own.isW {B cv : Nat} {w : World} {a : Option Addr} {L : List Int} (h : Own B w a cv L) (hU : AllU L) : IsW w a L.length cv L := by
 refine ⟨rfl, hU, ?_, fun i hi => ?_⟩
 ·rcases h.2 with ⟨hv, h0⟩ | ⟨g, cap, cur, hv, _, _, hn, _⟩
  ·simp only [Value.slice.injEq] at hv
   exact ⟨by omega, fun _ => hv.2.2⟩
  ·simp only [Value.slice.injEq] at hv
   exact ⟨by omega, fun e => by rw [hv.1] at e; cases e⟩
 rcases h.2 with ⟨_, h0⟩ | ⟨g, cap, cur, hv, _⟩
 ·omega
 ·have hao : a = some ⟨g, 0, none⟩ := by
   simp only [Value.slice.injEq] at hv
   exact hv.1
  subst hao
  have hc := h.cells (g := g) rfl i (.int .u64 (L.getD i 0)) (by simp [hi])
  have hc' : w.cell? ⟨g, 0 + i, none⟩ = some (.int .u64 (L.getD i 0)) := by
   by_cases h0 : i = 0
   ·subst h0; simpa [Addr.add] using hc
   ·simpa [Addr.add, h0] using hc
  exact ⟨g, 0, rfl, World.block_lt_of_cell? _ _ hc', hc'⟩
theorem Own.low {B B' cv : Nat} {w : World} {a : Option Addr} {L : List Int} (h : Own B w a cv L) (hB : B' ≤ B) : Own B' w a cv L := by
 refine ⟨h.1, ?_⟩
 rcases h.2 with h0 | ⟨g, cap, cur, hv, hg, r⟩
 ·exact Or.inl h0
 ·exact Or.inr ⟨g, cap, cur, hv, Nat.le_trans hB hg, r⟩
theorem nret_int {k : IntKind} {a b : Int} (h : a = b) : Ending.returned (.int k a) = .returned (.int k b) := by rw [h]
theorem nret_bool {a b : Bool} (h : a = b) : Ending.returned (.bool a) = .returned (.bool b) := by rw [h]
theorem nT {a b c : World} (h : Below a.heap.size a b) (k : Below b.heap.size b c) : Below a.heap.size a c := h.trans (k.mono h.size)
theorem nWord_calls (a : Option Addr) (len cap : Nat) (xs : List Int) (i : Nat) (w : World) (h : IsW w a len cap xs) :
  Calls Tryz.prog 111 #[.slice a len cap, .int .i64 i] w fun e w' => e = .returned (.int .u64 (xs.getD i 0)) ∧ w' = w := by
 by_cases hi : i < len
 ·obtain ⟨b, off, rfl, _, hc⟩ := h.2.2.2 i hi
  generalize xs.getD i 0 = x at *
  go_enter Tryz.func111, Tryz.ntmps111
  go_wp2
  go_ret
  exact ⟨rfl, rfl⟩
 ·have hV : Hid (xs.getD i 0 = 0) := by rw [Hid]; have := h.1; simp [List.getD]; rw [List.getElem?_eq_none (by omega)]; rfl
  go_enter Tryz.func111, Tryz.ntmps111
  go_wp2
  go_ret
  exact ⟨nret_int hV.out.symm, rfl⟩
theorem nGreat_calls (a : Option Addr) (len cap : Nat) (xs : List Int) (w : World) (h : IsW w a len cap xs) (hm : len ≤ 17592186044416) :
  Calls Tryz.prog 78 #[.slice a len cap] w fun e w' => e = .returned (.bool (decide (1024 < (wO (val xs)).length))) ∧ w' = w := by
 have hS : Hid ((wO (val xs)).length = sizeL xs) := size_words xs h.2.1
 have hlen := h.1
 have HL : Hid (len = xs.length) := hlen
 clear hlen
 go_enter Tryz.func78, Tryz.ntmps78
 go_wp2
 go_loop [3, 8] (fun v i => ∃ k : Nat, k ≤ len ∧ i = .int .i64 k ∧ v = .int .i64 (sizeL (xs.take k))) (fun _ i => len - (intOf i).toNat)
 case atStart => exact ⟨0, by omega, rfl, rfl⟩
 case round =>
  obtain ⟨k, hk, rfl, rfl⟩ := hrel
  by_cases hlt : k < len
  ·obtain ⟨b, off, ha, _, hc⟩ := h.2.2.2 k hlt
   have hs := size_snoc (xs.take k) (xs.getD k 0)
   have ht : xs.take (k + 1) = xs.take k ++ [xs.getD k 0] := by
    have := HL.out
    rw [List.take_succ_eq_append_getElem (by omega)]; simp [List.getD, show k < xs.length by omega]
   have HT : Hid (sizeL (xs.take (k + 1)) = if xs.getD k 0 = 0 then sizeL (xs.take k) else k + 1) := by
    have := HL.out
    rw [Hid, ht, hs, List.length_take, Nat.min_eq_left (by omega)]
   clear hs ht
   subst ha
   obtain ⟨x, hx⟩ : ∃ x, x = xs.getD k 0 := ⟨_, rfl⟩
   rw [← hx] at hc HT
   clear hx
   by_cases h0 : x = 0
   ·have d0 : (x != 0) = false := by simp [h0]
    have HT' : Hid (sizeL (xs.take (k + 1)) = sizeL (xs.take k)) := by rw [Hid, HT.out, if_pos h0]
    clear h0 HT
    go_wp2
    go_round
    case rel => exact ⟨k + 1, by omega, by go_num, by rw [HT'.out]⟩
    case measure => simp [intOf]; omega
   ·have d0 : (x != 0) = true := by simp [h0]
    have HT' : Hid (sizeL (xs.take (k + 1)) = k + 1) := by rw [Hid, HT.out, if_neg h0]
    clear h0 HT
    go_wp2
    go_round
    case rel => exact ⟨k + 1, by omega, by go_num, by rw [HT'.out]; go_num⟩
    case measure => simp [intOf]; omega
  ·have HE : Hid (sizeL (xs.take k) = (wO (val xs)).length) := by rw [Hid, hS.out, List.take_of_length_le (by have := HL.out; omega)]
   go_wp2
   go_ret
   refine ⟨nret_bool ?_, rfl⟩
   rw [HE.out, decide_eq_decide]; omega
theorem nSame_calls (a a' : Option Addr) (len cap len' cap' : Nat) (xs ys : List Int) (w : World) (h : IsW w a len cap xs) (h' : IsW w a' len' cap' ys) (hm : len ≤ 17592186044416) (hm' : len' ≤ 17592186044416) :
  Calls Tryz.prog 92 #[.slice a len cap, .slice a' len' cap'] w fun e w' => e = .returned (.bool (decide (xs = ys))) ∧ Below w.heap.size w w' := by
 have HL : Hid (len = xs.length) := h.1
 have HL' : Hid (len' = ys.length) := h'.1
 by_cases hl : len = len'
 ·subst hl
  go_enter Tryz.func92, Tryz.ntmps92
  go_wp2
  go_loopw [13] (fun i wr => ∃ k : Nat, k ≤ len ∧ i = .int .i64 k ∧ xs.take k = ys.take k ∧ IsW wr a len cap xs ∧ IsW wr a' len cap' ys ∧ Below w.heap.size w wr) (fun i _ => len - (intOf i).toNat)
  case atStart => exact ⟨0, by omega, rfl, by simp, h, h', Below.refl _ _⟩
  case round =>
   obtain ⟨k, hk, rfl, ht, hW, hW', hbr⟩ := hrel
   clear h h'
   have HT : Hid (xs.take k = ys.take k) := ht
   clear ht
   by_cases hlt : k < len
   ·obtain ⟨b, off, ha, _, hc⟩ := hW.2.2.2 k hlt
    obtain ⟨b', off', ha', _, hc'⟩ := hW'.2.2.2 k hlt
    obtain ⟨x, hx⟩ : ∃ x, x = xs.getD k 0 := ⟨_, rfl⟩
    obtain ⟨y, hy⟩ : ∃ y, y = ys.getD k 0 := ⟨_, rfl⟩
    rw [← hx] at hc
    rw [← hy] at hc'
    have e1 : xs.take (k + 1) = xs.take k ++ [x] := by
     have := HL.out
     rw [hx, List.take_succ_eq_append_getElem (by omega)]; simp [List.getD, show k < xs.length by omega]
    have e2 : ys.take (k + 1) = ys.take k ++ [y] := by
     have := HL'.out
     rw [hy, List.take_succ_eq_append_getElem (by omega)]; simp [List.getD, show k < ys.length by omega]
    subst ha ha'
    by_cases hxy : x = y
    ·have d : (x != y) = false := by simp [hxy]
     have HT' : Hid (xs.take (k + 1) = ys.take (k + 1)) := by rw [Hid, e1, e2, HT.out, hxy]
     clear hx hy e1 e2 hxy
     go_wp2
     go_quiet (fail)
     go_wp2
     go_roundw
     case rel => exact ⟨k + 1, by omega, by go_num, HT'.out, hW, hW', below_drewN hbr nq⟩
     case measure => simp [intOf]; omega
    ·have d : (x != y) = true := by simp [hxy]
     have HV : Hid (decide (xs = ys) = false) := by
      rw [Hid, decide_eq_false_iff_not]; intro e; rw [hx, hy, e] at hxy; exact hxy rfl
     clear hx hy e1 e2 hxy
     go_wp2
     go_quiet (fail)
     go_wp2
     go_ret
     exact ⟨nret_bool HV.out.symm, below_drewN hbr nq⟩
   ·have HV : Hid (decide (xs = ys) = true) := by
     have h1 := HT.out
     rw [List.take_of_length_le (by have := HL.out; omega), List.take_of_length_le (by have := HL'.out; omega)] at h1
     rw [Hid]; simpa using h1
    go_wp2
    go_ret
    exact ⟨nret_bool HV.out.symm, hbr⟩
 ·have d : ((len : Int) != (len' : Int)) = true := by simp; omega
  have HV : Hid (decide (xs = ys) = false) := by
   rw [Hid, decide_eq_false_iff_not]; intro e; apply hl; rw [HL.out, HL'.out, e]
  clear hl
  go_enter Tryz.func92, Tryz.ntmps92
  go_wp2
  go_ret
  exact ⟨nret_bool HV.out.symm, Below.refl _ _⟩
theorem word_info : (Tryz.prog.info? 53).map (fun i => (i.zero, i.size, i.bytes)) = some (some (.int .u64 0), 1, 8) := by kernel_rfl
theorem nNorm_calls (a : Option Addr) (len cap : Nat) (xs : List Int) (w : World) (h : IsW w a len cap xs) (hm : len ≤ 17592186044416) :
  Calls Tryz.prog 79 #[.slice a len cap] w fun e w' => ∃ (ao : Option Addr) (cv : Nat), e = .returned (.slice ao (wO (val xs)).length cv) ∧ Own w.heap.size w' ao cv (wO (val xs)) ∧ Below w.heap.size w w' := by
 obtain ⟨i0, hi, hz0, hz1, hz2⟩ := info_parts word_info
 have HL : Hid (len = xs.length) := h.1
 have HN : Hid _ := norm_eq xs h.2.1
 obtain ⟨hcap, hnil⟩ := h.2.2.1
 go_enter Tryz.func79, Tryz.ntmps79
 go_wp2
 go_loop [3] (fun v => ∃ n : Nat, n ≤ len ∧ v = .int .i64 n ∧ ∀ i, n ≤ i → i < len → xs.getD i 0 = 0) (fun v => (intOf v).toNat)
 case atStart => exact ⟨len, by omega, rfl, fun i h1 h2 => by omega⟩
 case round =>
  obtain ⟨n, hn, rfl, hz⟩ := hrel
  have HZ : Hid (∀ i, n ≤ i → i < len → xs.getD i 0 = 0) := hz
  clear hz
  cases n with
  | zero =>
   have hs : Hid (0 = sizeL xs) := size_spec xs 0 (Nat.zero_le _) (fun i h1 h2 => HZ.out i h1 (by rw [HL.out]; exact h2)) (Or.inl rfl)
   have hW : Hid (wO (val xs) = []) := by rw [Hid, ← HN.out, ← hs.out]; rfl
   cases a with
   | none =>
    obtain rfl := hnil rfl
    obtain rfl : len = 0 := by omega
    go_wp2
    go_ret
    rw [hW.out]
    exact ⟨none, 0, rfl, World.ownsRow_nil _ _ _ _, by first | exact Below.refl _ _ | exact (Below.refl _ _).drew⟩
   | some ad =>
    clear hnil
    go_wp2_with (at_builtin; refine wpList_append_own _ rfl _ _ 23 rfl w.heap.size 53 i0 (.int .u64 0) 1 8 Tryz.underlying23 hi hz0 hz1 hz2 rfl (by decide) _ _ _ rfl (World.ownsRow_nil _ _ _ _) ad 0 cap [] rfl rfl (fun j u hj => by simp at hj) (fun u hu => by simp at hu) (by unfold maxLen; omega) (by omega) (by omega) ?_; intro v' w3 hown' hgrow3 hnil3)
    go_ret
    have hv : v' = .slice none 0 0 := hnil3.2 ⟨rfl, trivial⟩
    rw [hW.out]
    exact ⟨none, 0, by rw [hv]; rfl, World.ownsRow_nil _ _ _ _, (Below.refl _ _).grown hgrow3 (Nat.le_refl _) (fun q hq => by cases hq)⟩
  | succ m =>
   obtain ⟨b, off, ha, _, hc⟩ := h.2.2.2 m (by omega)
   subst ha
   obtain ⟨x, hx⟩ : ∃ x, x = xs.getD m 0 := ⟨_, rfl⟩
   rw [← hx] at hc
   by_cases h0 : x = 0
   ·have d0 : (x == 0) = true := by simp [h0]
    have HZ' : Hid (∀ i, m ≤ i → i < len → xs.getD i 0 = 0) := fun i h1 h2 => by
     by_cases e : i = m
     ·rw [e, ← hx, h0]
     ·exact HZ.out i (by omega) h2
    clear hx h0
    go_wp2
    go_round
    case rel => exact ⟨m, by omega, by go_num, HZ'.out⟩
    case measure => simp [intOf]
   ·have d0 : (x == 0) = false := by simp [h0]
    have hs : Hid (m + 1 = sizeL xs) := size_spec xs (m + 1) (by rw [← HL.out]; omega) (fun i h1 h2 => HZ.out i h1 (by rw [HL.out]; exact h2)) (Or.inr (by show xs.getD m 0 ≠ 0; rw [← hx]; exact h0))
    clear hx h0
    have hW : Hid ((xs.take (m + 1)) = wO (val xs)) := by rw [Hid, ← HN.out, ← hs.out]
    have hlen : Hid ((wO (val xs)).length = m + 1) := by rw [Hid, ← hW.out, List.length_take]; have := HL.out; omega
    have hnews : ∀ j u, ((wO (val xs)).map (Value.int .u64))[j]? = some u → w.cell? ((⟨b, off, none⟩ : Addr).add j) = some u := by
     intro j u hj
     have hjl : j < m + 1 := by
      have := (List.getElem?_eq_some_iff.1 hj).1
      simp at this; have := hlen.out; omega
     obtain ⟨b2, off2, e2, _, q2⟩ := h.2.2.2 j (by omega)
     simp only [Option.some.injEq, Addr.mk.injEq, and_true] at e2
     obtain ⟨rfl, rfl⟩ := e2
     have hu : u = .int .u64 (xs.getD j 0) := by
      rw [← hW.out] at hj
      simp only [List.getElem?_map, List.getElem?_take, hjl, if_true] at hj
      have hj2 : xs[j]? = some (xs.getD j 0) := by
       rw [List.getElem?_eq_getElem (by have := HL.out; omega)]; simp [List.getD, show j < xs.length by have := HL.out; omega]
      rw [hj2] at hj
      simpa using hj.symm
     rw [hu]
     by_cases h00 : j = 0
     ·subst h00; simpa [Addr.add] using q2
     ·simpa [Addr.add, h00] using q2
    have HNEW : Hid _ := hnews
    clear hnews
    go_wp2_with (at_builtin; refine wpList_append_own _ rfl _ _ 23 rfl w.heap.size 53 i0 (.int .u64 0) 1 8 Tryz.underlying23 hi hz0 hz1 hz2 rfl (by decide) _ _ _ rfl (World.ownsRow_nil _ _ _ _) ⟨b, off, none⟩ (m + 1) cap ((wO (val xs)).map (Value.int .u64)) rfl (by rw [List.length_map, hlen.out]; omega) HNEW.out (fun u hu => by simp only [List.mem_map] at hu; obtain ⟨y, _, rfl⟩ := hu; rfl) (by unfold maxLen; omega) (by omega) (by omega) ?_; intro v' w3 hown' hgrow3 hnil3)
    go_ret
    obtain ⟨g3, cap3, hv3⟩ : ∃ g3 cap3, v' = .slice (some ⟨g3, 0, none⟩) (m + 1) cap3 := by
     rcases hown'.2 with ⟨_, h⟩ | ⟨g3, cap3, _, h, _⟩
     ·omega
     ·exact ⟨g3, cap3, by simpa using h⟩
    refine ⟨some ⟨g3, 0, none⟩, cap3, ?_, ?_, (Below.refl _ _).grown hgrow3 (Nat.le_refl _) (fun q hq => by cases hq)⟩
    ·rw [hlen.out, ← hv3]; rfl
    ·unfold Own; rw [hlen.out, ← hv3]; simpa using hown'
theorem nOf_calls (x : Int) (w : World) (h0 : 0 ≤ x) (h1 : x ≤ 18446744073709551615) :
  Calls Tryz.prog 93 #[.int .u64 x] w fun e w' => ∃ (ao : Option Addr) (cv : Nat), e = .returned (.slice ao (wO x.toNat).length cv) ∧ Own w.heap.size w' ao cv (wO x.toNat) ∧ Below w.heap.size w w' := by
 have hv : val [x] = x.toNat := by simp [val]
 have hW : ∀ t, IsW (w.alloc (.cells #[.int .u64 x] t)) (some ⟨w.heap.size, 0, none⟩) 1 1 [x] := fun t => by
  refine ⟨rfl, fun y hy => ?_, ⟨Nat.le_refl _, fun e => by cases e⟩, fun i hi => ?_⟩
  ·simp at hy; subst hy; exact ⟨h0, h1⟩
  ·obtain rfl : i = 0 := by omega
   exact ⟨w.heap.size, 0, rfl, by simp, by go_simp⟩
 go_enter Tryz.func93, Tryz.ntmps93
 go_wp2_with fail
 refine (nNorm_calls _ _ _ [x] _ (hW _) (by omega)).mono ?_
 rintro e w1 ⟨ao, cv, rfl, hO, hb⟩
 go_wp2_with fail
 go_ret
 rw [← hv]
 exact ⟨ao, cv, rfl, hO.low (by simp), nT ((Below.refl _ _).alloc (Nat.le_refl _) _) hb⟩
theorem nCmp_ge (a a' : Option Addr) (len cap len' cap' : Nat) (xs ys : List Int) (w : World) (h : IsW w a len cap xs) (h' : IsW w a' len' cap' ys) (hm : len ≤ 17592186044416) (_hm' : len' ≤ 17592186044416) (hc : len' ≤ len) :
  Calls Tryz.prog 72 #[.slice a len cap, .slice a' len' cap'] w fun e w' => e = .returned (.int .i64 (cmpN (val xs) (val ys))) ∧ w' = w := by
 have hx1 : xs.length ≤ len := by have := h.1; omega
 have hy1 : ys.length ≤ len := by have := h'.1; omega
 have C : Hid _ := cmp_top xs ys h.2.1 h'.2.1
 have E : Hid _ := fun hs => cmp_same xs ys hs len hx1 hy1
 have X1 : Hid (xs.length ≤ len) := hx1
 have Y1 : Hid (ys.length ≤ len) := hy1
 have S : Hid (SameFrom xs ys len) := fun i hi => by
  rw [show xs.getD i 0 = 0 by simp [List.getD, show ¬ i < xs.length by omega], show ys.getD i 0 = 0 by simp [List.getD, show ¬ i < ys.length by omega]]
 have gx := fun i => h.2.1.get i
 have gy := fun i => h'.2.1.get i
 clear hx1 hy1
 go_enter Tryz.func72, Tryz.ntmps72
 go_wp2_with fail
 go_loop [5] (fun v => ∃ k : Nat, k ≤ len ∧ v = .int .i64 ((k : Int) - 1) ∧ SameFrom xs ys k) (fun v => (intOf v + 1).toNat)
 case atStart => exact ⟨len, by omega, rfl, S.out⟩
 case round =>
  obtain ⟨k, hk, rfl, hs⟩ := hrel
  have HS : Hid (SameFrom xs ys k) := hs
  clear hs
  cases k with
  | zero =>
   have HV : Hid (cmpN (val xs) (val ys) = 0) := E.out HS.out
   clear gx gy
   go_wp2
   go_ret
   exact ⟨nret_int HV.out.symm, rfl⟩
  | succ k =>
   have D : Hid _ := C.out k len (by omega) X1.out Y1.out HS.out
   obtain ⟨x, hx⟩ : ∃ x, x = xs.getD k 0 := ⟨_, rfl⟩
   obtain ⟨y, hy⟩ : ∃ y, y = ys.getD k 0 := ⟨_, rfl⟩
   have ek : (((k + 1 : Nat) : Int) - 1) = (k : Int) := by omega
   have W1 := nWord_calls a len cap xs k w h
   have W2 := nWord_calls a' len' cap' ys k w h'
   rw [← hx] at W1
   rw [← hy] at W2
   have D' : Hid ((x < y → cmpN (val xs) (val ys) = -1) ∧ (y < x → cmpN (val xs) (val ys) = 1)) := by rw [Hid, hx, hy]; exact D.out
   have bx := gx k
   have by' := gy k
   rw [← hx] at bx
   rw [← hy] at by'
   have HX : Hid (x = xs.getD k 0) := hx
   have HY : Hid (y = ys.getD k 0) := hy
   have HW1 : Hid (Calls Tryz.prog 111 #[.slice a len cap, .int .i64 k] w fun e w' => e = .returned (.int .u64 x) ∧ w' = w) := W1
   have HW2 : Hid (Calls Tryz.prog 111 #[.slice a' len' cap', .int .i64 k] w fun e w' => e = .returned (.int .u64 y) ∧ w' = w) := W2
   clear hx hy gx gy W1 W2
   rw [ek]
   by_cases c1 : x < y
   ·have HV : Hid (cmpN (val xs) (val ys) = -1) := D'.out.1 c1
    go_wp2_with fail
    refine cM HW1.out ?_
    rintro e w ⟨rfl, rfl⟩
    go_wp2_with fail
    refine cM HW2.out ?_
    rintro e w ⟨rfl, rfl⟩
    go_wp2_with fail
    go_ret
    exact ⟨nret_int HV.out.symm, rfl⟩
   ·by_cases c2 : y < x
    ·have HV : Hid (cmpN (val xs) (val ys) = 1) := D'.out.2 c2
     go_wp2_with fail
     refine cM HW1.out ?_
     rintro e w ⟨rfl, rfl⟩
     go_wp2_with fail
     refine cM HW2.out ?_
     rintro e w ⟨rfl, rfl⟩
     go_wp2_with fail
     go_ret
     exact ⟨nret_int HV.out.symm, rfl⟩
    ·have HS' : Hid (SameFrom xs ys k) := fun i hi => by
      by_cases e : i = k
      ·rw [e, ← HX.out, ← HY.out]; omega
      ·exact HS.out i (by omega)
     go_wp2_with fail
     refine cM HW1.out ?_
     rintro e w ⟨rfl, rfl⟩
     go_wp2_with fail
     refine cM HW2.out ?_
     rintro e w ⟨rfl, rfl⟩
     go_wp2_with fail
     go_round
     case rel => exact ⟨k, by omega, by first | rfl | go_num, HS'.out⟩
     case measure => simp [intOf]
theorem nCmp_lt (a a' : Option Addr) (len cap len' cap' : Nat) (xs ys : List Int) (w : World) (h : IsW w a len cap xs) (h' : IsW w a' len' cap' ys) (_hm : len ≤ 17592186044416) (hm' : len' ≤ 17592186044416) (hc : len < len') :
  Calls Tryz.prog 72 #[.slice a len cap, .slice a' len' cap'] w fun e w' => e = .returned (.int .i64 (cmpN (val xs) (val ys))) ∧ w' = w := by
 have hx1 : xs.length ≤ len' := by have := h.1; omega
 have hy1 : ys.length ≤ len' := by have := h'.1; omega
 have C : Hid _ := cmp_top xs ys h.2.1 h'.2.1
 have E : Hid _ := fun hs => cmp_same xs ys hs len' hx1 hy1
 have X1 : Hid (xs.length ≤ len') := hx1
 have Y1 : Hid (ys.length ≤ len') := hy1
 have S : Hid (SameFrom xs ys len') := fun i hi => by
  rw [show xs.getD i 0 = 0 by simp [List.getD, show ¬ i < xs.length by omega], show ys.getD i 0 = 0 by simp [List.getD, show ¬ i < ys.length by omega]]
 have gx := fun i => h.2.1.get i
 have gy := fun i => h'.2.1.get i
 clear hx1 hy1
 go_enter Tryz.func72, Tryz.ntmps72
 go_wp2_with fail
 go_loop [5] (fun v => ∃ k : Nat, k ≤ len' ∧ v = .int .i64 ((k : Int) - 1) ∧ SameFrom xs ys k) (fun v => (intOf v + 1).toNat)
 case atStart => exact ⟨len', by omega, rfl, S.out⟩
 case round =>
  obtain ⟨k, hk, rfl, hs⟩ := hrel
  have HS : Hid (SameFrom xs ys k) := hs
  clear hs
  cases k with
  | zero =>
   have HV : Hid (cmpN (val xs) (val ys) = 0) := E.out HS.out
   clear gx gy
   go_wp2
   go_ret
   exact ⟨nret_int HV.out.symm, rfl⟩
  | succ k =>
   have D : Hid _ := C.out k len' (by omega) X1.out Y1.out HS.out
   obtain ⟨x, hx⟩ : ∃ x, x = xs.getD k 0 := ⟨_, rfl⟩
   obtain ⟨y, hy⟩ : ∃ y, y = ys.getD k 0 := ⟨_, rfl⟩
   have ek : (((k + 1 : Nat) : Int) - 1) = (k : Int) := by omega
   have W1 := nWord_calls a len cap xs k w h
   have W2 := nWord_calls a' len' cap' ys k w h'
   rw [← hx] at W1
   rw [← hy] at W2
   have D' : Hid ((x < y → cmpN (val xs) (val ys) = -1) ∧ (y < x → cmpN (val xs) (val ys) = 1)) := by rw [Hid, hx, hy]; exact D.out
   have bx := gx k
   have by' := gy k
   rw [← hx] at bx
   rw [← hy] at by'
   have HX : Hid (x = xs.getD k 0) := hx
   have HY : Hid (y = ys.getD k 0) := hy
   have HW1 : Hid (Calls Tryz.prog 111 #[.slice a len cap, .int .i64 k] w fun e w' => e = .returned (.int .u64 x) ∧ w' = w) := W1
   have HW2 : Hid (Calls Tryz.prog 111 #[.slice a' len' cap', .int .i64 k] w fun e w' => e = .returned (.int .u64 y) ∧ w' = w) := W2
   clear hx hy gx gy W1 W2
   rw [ek]
   by_cases c1 : x < y
   ·have HV : Hid (cmpN (val xs) (val ys) = -1) := D'.out.1 c1
    go_wp2_with fail
    refine cM HW1.out ?_
    rintro e w ⟨rfl, rfl⟩
    go_wp2_with fail
    refine cM HW2.out ?_
    rintro e w ⟨rfl, rfl⟩
    go_wp2_with fail
    go_ret
    exact ⟨nret_int HV.out.symm, rfl⟩
   ·by_cases c2 : y < x
    ·have HV : Hid (cmpN (val xs) (val ys) = 1) := D'.out.2 c2
     go_wp2_with fail
     refine cM HW1.out ?_
     rintro e w ⟨rfl, rfl⟩
     go_wp2_with fail
     refine cM HW2.out ?_
     rintro e w ⟨rfl, rfl⟩
     go_wp2_with fail
     go_ret
     exact ⟨nret_int HV.out.symm, rfl⟩
    ·have HS' : Hid (SameFrom xs ys k) := fun i hi => by
      by_cases e : i = k
      ·rw [e, ← HX.out, ← HY.out]; omega
      ·exact HS.out i (by omega)
     go_wp2_with fail
     refine cM HW1.out ?_
     rintro e w ⟨rfl, rfl⟩
     go_wp2_with fail
     refine cM HW2.out ?_
     rintro e w ⟨rfl, rfl⟩
     go_wp2_with fail
     go_round
     case rel => exact ⟨k, by omega, by first | rfl | go_num, HS'.out⟩
     case measure => simp [intOf]
theorem nCmp_calls (a a' : Option Addr) (len cap len' cap' : Nat) (xs ys : List Int) (w : World) (h : IsW w a len cap xs) (h' : IsW w a' len' cap' ys) (hm : len ≤ 17592186044416) (hm' : len' ≤ 17592186044416) :
  Calls Tryz.prog 72 #[.slice a len cap, .slice a' len' cap'] w fun e w' => e = .returned (.int .i64 (cmpN (val xs) (val ys))) ∧ w' = w := by
 by_cases hc : len' ≤ len
 ·exact nCmp_ge a a' len cap len' cap' xs ys w h h' hm hm' hc
 ·exact nCmp_lt a a' len cap len' cap' xs ys w h h' hm hm' (by omega)
theorem words_len (k : Nat) : ∀ n : Nat, (wO n).length ≤ k ↔ n < 18446744073709551616 ^ k := by
 induction k with
 | zero => intro n; rw [Nat.le_zero, List.length_eq_zero_iff, words_nil]; simp
 | succ k ih =>
  intro n
  by_cases e : n = 0
  ·subst e; rw [words_zero]; simp; exact Nat.pow_pos (by decide)
  ·rw [words_pos n e, List.length_cons, Nat.succ_le_succ_iff, ih, Nat.pow_succ, Nat.div_lt_iff_lt_mul (by decide)]
theorem two64 (k : Nat) : (18446744073709551616 : Nat) ^ k = 2 ^ (64 * k) := by
 rw [Nat.pow_mul]
def blen (n : Nat) : Nat := if n = 0 then 0 else Nat.log2 n + 1
theorem blen_le (n k : Nat) : blen n ≤ k ↔ n < 2 ^ k := by
 unfold blen
 by_cases e : n = 0
 ·subst e; simp; exact Nat.pow_pos (by decide)
 ·rw [if_neg e, Nat.succ_le_iff, Nat.log2_lt e]
theorem lt_blen (n : Nat) : n < 2 ^ blen n := (blen_le n _).1 (Nat.le_refl _)
theorem blen_zero : blen 0 = 0 := rfl
theorem blen_nil (n : Nat) : blen n = 0 ↔ n = 0 := by
 unfold blen; by_cases e : n = 0 <;> simp [e]
theorem blen_ge (n : Nat) (h : n ≠ 0) : 2 ^ (blen n - 1) ≤ n := by
 have h1 : ¬ blen n ≤ blen n - 1 := by have := (blen_nil n).1; omega
 rw [blen_le] at h1; omega
theorem blen_shift (k lo t : Nat) (hl : lo < 2 ^ k) (ht : t ≠ 0) : blen (lo + 2 ^ k * t) = k + blen t := by
 have key : ∀ m, lo + 2 ^ k * t < 2 ^ m ↔ k + blen t ≤ m := fun m => by
  by_cases hm : m < k
  ·have h1 : 2 ^ m < 2 ^ k := Nat.pow_lt_pow_right (by decide) hm
   have h2 : 2 ^ k * 1 ≤ 2 ^ k * t := Nat.mul_le_mul_left _ (by omega)
   constructor <;> intro h <;> omega
  ·obtain ⟨j, rfl⟩ : ∃ j, m = k + j := ⟨m - k, by omega⟩
   rw [Nat.add_le_add_iff_left, blen_le, Nat.pow_add]
   constructor
   ·intro h
    have : 2 ^ k * t < 2 ^ k * 2 ^ j := by omega
    exact Nat.lt_of_mul_lt_mul_left this
   ·intro h
    have h2 : 2 ^ k * (t + 1) ≤ 2 ^ k * 2 ^ j := Nat.mul_le_mul_left _ h
    rw [Nat.mul_add, Nat.mul_one] at h2; omega
 have h1 := (key (k + blen t)).2 (Nat.le_refl _)
 have h2 := (key (blen (lo + 2 ^ k * t))).1 (lt_blen _)
 have h3 := (blen_le _ _).2 h1
 omega
theorem blen_mono {a b : Nat} (h : a ≤ b) : blen a ≤ blen b := (blen_le _ _).2 (Nat.lt_of_le_of_lt h (lt_blen b))
theorem blen_lib (x : Nat) (h : x < 2 ^ 64) : Lib.bitLen x = blen x := by
 by_cases e : x = 0
 ·subst e; rfl
 ·obtain ⟨h1, h2, h3⟩ := Lib.bitLenAux_bounds 64 x h e
  have h4 := (blen_le x _).2 h3
  have h5 := lt_blen x
  show Lib.bitLenAux 64 x = _
  by_cases h6 : blen x < Lib.bitLenAux 64 x
  ·have : 2 ^ blen x ≤ 2 ^ (Lib.bitLenAux 64 x - 1) := Nat.pow_le_pow_right (by decide) (by omega)
   omega
  ·omega
theorem words_len2 (k n : Nat) : (wO n).length ≤ k ↔ blen n ≤ 64 * k := by rw [words_len, two64, blen_le]
def greatB (n : Nat) : Bool := decide (1024 < (wO n).length)
theorem great_iff (n : Nat) : greatB n = true ↔ 65536 < blen n := by
 have h1 := words_len2 1024 n
 unfold greatB
 rw [decide_eq_true_iff]
 omega
theorem great_not (n : Nat) : greatB n = false ↔ blen n ≤ 65536 := by
 have := great_iff n
 cases h : greatB n <;> simp [h] at this ⊢ <;> omega
theorem great_len (n : Nat) : greatB n = false ↔ (wO n).length ≤ 1024 := by
 unfold greatB; rw [decide_eq_false_iff_not]; omega
theorem great_mono {a b : Nat} (h : a ≤ b) (hb : greatB b = false) : greatB a = false := by
 rw [great_not] at *; have := blen_mono h; omega
theorem great_zero : greatB 0 = false := by rw [great_not]; decide
def fitR (n : Nat) : Nat × Int := if greatB n = true then (0, 3) else (n, 0)
theorem fitR_yes {n : Nat} (h : greatB n = true) : fitR n = (0, 3) := by unfold fitR; rw [if_pos h]
theorem fitR_no {n : Nat} (h : greatB n = false) : fitR n = (n, 0) := by unfold fitR; rw [if_neg (by rw [h]; decide)]
def tz (n : Nat) : Nat := if n = 0 then 0 else if n % 2 = 1 then 0 else tz (n / 2) + 1
termination_by n
decreasing_by omega
theorem tz_zero : tz 0 = 0 := by rw [tz]; simp
theorem tz_odd (n : Nat) (h : n % 2 = 1) : tz n = 0 := by rw [tz]; simp [h]
theorem tz_even (n : Nat) (h0 : n ≠ 0) (h : n % 2 = 0) : tz n = tz (n / 2) + 1 := by rw [tz]; simp [h0, h]
theorem tz_of (k m : Nat) : tz (2 ^ k * (2 * m + 1)) = k := by
 induction k with
 | zero => rw [tz_odd]; omega
 | succ k ih =>
  have e : 2 ^ (k + 1) * (2 * m + 1) = 2 * (2 ^ k * (2 * m + 1)) := by rw [Nat.pow_succ, Nat.mul_comm (2 ^ k) 2, Nat.mul_assoc]
  have hp : 0 < 2 ^ k * (2 * m + 1) := Nat.mul_pos (Nat.pow_pos (by decide)) (by omega)
  rw [e, tz_even _ (by omega) (by omega), show 2 * (2 ^ k * (2 * m + 1)) / 2 = 2 ^ k * (2 * m + 1) by omega, ih]
theorem ntz_spec (n : Nat) (h : n ≠ 0) : ∃ m, n = 2 ^ tz n * (2 * m + 1) := by
 induction n using Nat.strongRecOn with
 | ind n ih =>
  by_cases ho : n % 2 = 1
  ·exact ⟨n / 2, by rw [tz_odd n ho]; omega⟩
  ·obtain ⟨m, hm⟩ := ih (n / 2) (by omega) (by omega)
   refine ⟨m, ?_⟩
   rw [tz_even n h (by omega), Nat.pow_succ, Nat.mul_assoc, Nat.mul_comm 2, ← Nat.mul_assoc, ← hm]; omega
theorem tz_shift (k t : Nat) (ht : t ≠ 0) : tz (2 ^ k * t) = k + tz t := by
 obtain ⟨m, hm⟩ := ntz_spec t ht
 have : 2 ^ k * t = 2 ^ (k + tz t) * (2 * m + 1) := by rw [Nat.pow_add, Nat.mul_assoc, ← hm]
 rw [this, tz_of]
theorem tz_low (k lo t : Nat) (h0 : lo ≠ 0) (hl : lo < 2 ^ k) : tz (lo + 2 ^ k * t) = tz lo := by
 obtain ⟨m, hm⟩ := ntz_spec lo h0
 have hk : tz lo < k := by
  by_cases h : tz lo < k
  ·exact h
  ·have h1 : 2 ^ k ≤ 2 ^ tz lo := Nat.pow_le_pow_right (by decide) (by omega)
   have h2 : 2 ^ tz lo * 1 ≤ 2 ^ tz lo * (2 * m + 1) := Nat.mul_le_mul_left _ (by omega)
   omega
 obtain ⟨j, hj⟩ : ∃ j, k = tz lo + 1 + j := ⟨k - tz lo - 1, by omega⟩
 have e : lo + 2 ^ k * t = 2 ^ tz lo * (2 * (m + 2 ^ j * t) + 1) := by
  have e2 : 2 ^ k * t = 2 ^ tz lo * (2 * (2 ^ j * t)) := by rw [hj, Nat.pow_add, Nat.pow_add]; simp only [Nat.mul_assoc, Nat.pow_one]
  have e3 : 2 * (m + 2 ^ j * t) + 1 = (2 * m + 1) + 2 * (2 ^ j * t) := by omega
  rw [e3, Nat.mul_add, ← hm, e2]
 rw [e, tz_of]
theorem tz_lib (x : Nat) (h0 : x ≠ 0) (h : x < 2 ^ 64) : Lib.ctz 64 x = tz x := by
 obtain ⟨m, hm, _⟩ := Lib.ctzFrom_spec 64 x (by omega) h
 unfold Lib.ctz
 rw [if_neg h0]
 have := tz_of (Lib.ctzFrom 64 x) m
 rw [← hm] at this
 exact this.symm
theorem tz_bit (n : Nat) (h : n ≠ 0) : n.testBit (tz n) = true ∧ (∀ j, j < tz n → n.testBit j = false) := by
 obtain ⟨m, hm⟩ := ntz_spec n h
 constructor
 ·rw [Nat.testBit_eq_decide_div_mod_eq, decide_eq_true_iff]
  conv => lhs; rw [hm]
  rw [tz_of, Nat.mul_div_cancel_left _ (Nat.pow_pos (by decide))]; omega
 ·intro j hj
  rw [Nat.testBit_eq_decide_div_mod_eq, decide_eq_false_iff_not]
  obtain ⟨i, hi⟩ : ∃ i, tz n = j + (i + 1) := ⟨tz n - j - 1, by omega⟩
  rw [hi, Nat.pow_add, Nat.mul_assoc] at hm
  rw [hm, Nat.mul_div_cancel_left _ (Nat.pow_pos (by decide)), Nat.pow_succ]
  have : 2 ^ i * 2 * (2 * m + 1) = 2 * (2 ^ i * (2 * m + 1)) := by rw [Nat.mul_comm (2 ^ i) 2, Nat.mul_assoc]
  omega
theorem val_word : ∀ (xs : List Int) (_ : AllU xs) (k : Nat), val xs / 18446744073709551616 ^ k % 18446744073709551616 = (xs.getD k 0).toNat
 | [], _, k => by simp [val]
 | x :: xs, h, 0 => by
  have := h x List.mem_cons_self
  show (x.toNat + 18446744073709551616 * val xs) / 18446744073709551616 ^ 0 % 18446744073709551616 = x.toNat
  rw [Nat.pow_zero, Nat.div_one]; omega
 | x :: xs, h, k + 1 => by
  have h1 := h x List.mem_cons_self
  have ih := val_word xs h.tail k
  show (x.toNat + 18446744073709551616 * val xs) / 18446744073709551616 ^ (k + 1) % 18446744073709551616 = (xs.getD k 0).toNat
  rw [Nat.pow_succ, Nat.mul_comm (18446744073709551616 ^ k) 18446744073709551616, ← Nat.div_div_eq_div_mul, show (x.toNat + 18446744073709551616 * val xs) / 18446744073709551616 = val xs by omega, ih]
theorem val_bit (xs : List Int) (h : AllU xs) (i : Nat) : (val xs).testBit i = decide ((xs.getD (i / 64) 0).toNat / 2 ^ (i % 64) % 2 = 1) := by
 rw [← val_word xs h, two64]
 have e : i = i % 64 + 64 * (i / 64) := by omega
 have e1 : (val xs / 2 ^ (64 * (i / 64)) % 18446744073709551616).testBit (i % 64) = (val xs).testBit i := by
  rw [show (18446744073709551616 : Nat) = 2 ^ 64 from rfl, Nat.testBit_mod_two_pow, Nat.testBit_div_two_pow, ← e]
  simp [Nat.mod_lt]
 rw [← e1, Nat.testBit_eq_decide_div_mod_eq]
theorem words_last (n : Nat) (h : n ≠ 0) : (wO n).getD ((wO n).length - 1) 0 ≠ 0 := by
 intro e
 have hl : 0 < (wO n).length := by
  rcases Nat.eq_zero_or_pos (wO n).length with h0 | h0
  ·exact absurd ((words_nil n).1 (List.length_eq_zero_iff.1 h0)) h
  ·exact h0
 have h1 := val_take_succ (wO n) ((wO n).length - 1) (by omega)
 rw [Nat.sub_add_cancel hl, List.take_length, e, val_words] at h1
 have h2 := val_lt _ ((words_U n).take ((wO n).length - 1))
 rw [List.length_take, Nat.min_eq_left (by omega)] at h2
 have h3 := (words_len ((wO n).length - 1) n).2 (by simp at h1; omega)
 omega
theorem blen_top (n : Nat) (h : n ≠ 0) : blen n = 64 * ((wO n).length - 1) + blen ((wO n).getD ((wO n).length - 1) 0).toNat := by
 have hl : 0 < (wO n).length := by
  rcases Nat.eq_zero_or_pos (wO n).length with h0 | h0
  ·exact absurd ((words_nil n).1 (List.length_eq_zero_iff.1 h0)) h
  ·exact h0
 have ht := words_last n h
 have hg := (words_U n).get ((wO n).length - 1)
 have h1 := val_take_succ (wO n) ((wO n).length - 1) (by omega)
 rw [Nat.sub_add_cancel hl, List.take_length, val_words] at h1
 have h2 := val_lt _ ((words_U n).take ((wO n).length - 1))
 rw [List.length_take, Nat.min_eq_left (by omega)] at h2
 rw [two64] at h1 h2
 have := blen_shift (64 * ((wO n).length - 1)) _ ((wO n).getD ((wO n).length - 1) 0).toNat h2 (by omega)
 rw [← h1] at this
 exact this
theorem val_set : ∀ (xs : List Int) (i : Nat) (v : Int), i < xs.length → val (xs.set i v) + 18446744073709551616 ^ i * (xs.getD i 0).toNat = val xs + 18446744073709551616 ^ i * v.toNat
 | [], i, v, h => by simp at h
 | x :: xs, 0, v, _ => by
  show v.toNat + 18446744073709551616 * val xs + 18446744073709551616 ^ 0 * x.toNat = x.toNat + 18446744073709551616 * val xs + 18446744073709551616 ^ 0 * v.toNat
  omega
 | x :: xs, i + 1, v, h => by
  have ih := val_set xs i v (by simpa using h)
  show x.toNat + 18446744073709551616 * val (xs.set i v) + 18446744073709551616 ^ (i + 1) * (xs.getD i 0).toNat = x.toNat + 18446744073709551616 * val xs + 18446744073709551616 ^ (i + 1) * v.toNat
  rw [Nat.pow_succ, Nat.mul_comm (18446744073709551616 ^ i) 18446744073709551616, Nat.mul_assoc, Nat.mul_assoc]
  omega
theorem AllU.set {xs : List Int} (h : AllU xs) {i : Nat} {v : Int} (h0 : 0 ≤ v) (h1 : v ≤ 18446744073709551615) : AllU (xs.set i v) := by
 intro y hy
 rcases List.mem_or_eq_of_mem_set hy with h2 | h2
 ·exact h y h2
 ·subst h2; exact ⟨h0, h1⟩
theorem getD_set (xs : List Int) (i j : Nat) (v : Int) (hi : i < xs.length) : (xs.set i v).getD j 0 = if i = j then v else xs.getD j 0 := by
 simp only [List.getD, List.getElem?_set]
 by_cases h : i = j
 ·subst h; simp [hi]
 ·simp [h]
def zeros (n : Nat) : List Int := List.replicate n 0
theorem val_zeros (n : Nat) : val (zeros n) = 0 := by
 induction n with
 | zero => rfl
 | succ n ih => show (0 : Int).toNat + 18446744073709551616 * val (zeros n) = 0; rw [ih]; rfl
theorem zeros_U (n : Nat) : AllU (zeros n) := fun x hx => by
 have := List.eq_of_mem_replicate hx; subst this; decide
theorem zeros_get (n i : Nat) : (zeros n).getD i 0 = 0 := by
 unfold zeros
 simp only [List.getD, List.getElem?_replicate]
 split <;> rfl
theorem zeros_len (n : Nat) : (zeros n).length = n := List.length_replicate ..
theorem val_of_words (M : List Int) (N : Nat) (hN : N < 18446744073709551616 ^ M.length) (h : ∀ i, i < M.length → (M.getD i 0).toNat = N / 18446744073709551616 ^ i % 18446744073709551616) : val M = N := by
 have key : ∀ k, k ≤ M.length → val (M.take k) = N % 18446744073709551616 ^ k := fun k => by
  induction k with
  | zero => intro _; simp [val]; omega
  | succ k ih =>
   intro hk
   rw [val_take_succ M k (by omega), ih (by omega), h k (by omega), Nat.pow_succ, Nat.mod_mul]
 have := key M.length (Nat.le_refl _)
 rw [List.take_length, Nat.mod_eq_of_lt hN] at this
 exact this
theorem shr_word (u P Q : Nat) (hP : 0 < P) (hW : P * Q = 18446744073709551616) : u / P % 18446744073709551616 = u % 18446744073709551616 / P + (u / 18446744073709551616 % 18446744073709551616 * Q) % 18446744073709551616 := by
 obtain ⟨a, ha⟩ : ∃ a, a = u % 18446744073709551616 := ⟨_, rfl⟩
 obtain ⟨b, hb⟩ : ∃ b, b = u / 18446744073709551616 % 18446744073709551616 := ⟨_, rfl⟩
 obtain ⟨c, hc⟩ : ∃ c, c = u / 18446744073709551616 / 18446744073709551616 := ⟨_, rfl⟩
 have hu : u = a + P * (Q * (b + 18446744073709551616 * c)) := by rw [← Nat.mul_assoc, hW]; omega
 have ha1 : a / P < Q := by rw [Nat.div_lt_iff_lt_mul hP, Nat.mul_comm, hW]; omega
 rw [← ha, ← hb]
 have h1 : u / P = a / P + Q * (b + 18446744073709551616 * c) := by rw [hu, Nat.add_mul_div_left _ _ hP]
 obtain ⟨d, hd⟩ : ∃ d, d = b * Q % 18446744073709551616 := ⟨_, rfl⟩
 obtain ⟨f, hf⟩ : ∃ f, d = Q * f := by
  have : Q ∣ d := by
   rw [hd, ← hW]
   exact (Nat.dvd_mod_iff (Nat.dvd_mul_left Q P)).2 (Nat.dvd_mul_left Q b)
  exact this
 have hdl : d < 18446744073709551616 := by rw [hd]; exact Nat.mod_lt _ (by decide)
 have hfP : f < P := by
  rw [hf, ← hW, Nat.mul_comm P Q] at hdl
  exact Nat.lt_of_mul_lt_mul_left hdl
 have h2 : Q * f + Q ≤ 18446744073709551616 := by
  rw [← hW, Nat.mul_comm P Q]
  have := Nat.mul_le_mul_left Q (show f + 1 ≤ P from hfP)
  rw [Nat.mul_add, Nat.mul_one] at this; exact this
 rw [h1, Nat.mul_add, ← Nat.add_assoc, ← hd, Nat.mul_left_comm Q 18446744073709551616 c, Nat.add_mul_mod_self_left, Nat.mul_comm Q b, Nat.add_mod, ← hd, Nat.mod_eq_of_lt (a := a / P) (by omega)]
 exact Nat.mod_eq_of_lt (by omega)
theorem word_shr (v k s : Nat) (hs : s < 64) : v / (18446744073709551616 ^ k * 2 ^ s) % 18446744073709551616 = v / 18446744073709551616 ^ k % 18446744073709551616 / 2 ^ s + (v / 18446744073709551616 ^ (k + 1) % 18446744073709551616 * 2 ^ (64 - s)) % 18446744073709551616 := by
 rw [← Nat.div_div_eq_div_mul, Nat.pow_succ, ← Nat.div_div_eq_div_mul]
 exact shr_word _ _ _ (Nat.pow_pos (by decide)) (by rw [← Nat.pow_add, show s + (64 - s) = 64 by omega])
theorem shl_word (x s : Nat) (hs : s < 64) : x * 2 ^ s % 18446744073709551616 + 18446744073709551616 * (x / 2 ^ (64 - s)) = x * 2 ^ s := by
 have h1 : x * 2 ^ s / 18446744073709551616 = x / 2 ^ (64 - s) := by
  rw [show (18446744073709551616 : Nat) = 2 ^ (64 - s) * 2 ^ s by rw [← Nat.pow_add, show 64 - s + s = 64 by omega], Nat.mul_div_mul_right _ _ (Nat.pow_pos (by decide))]
 have := Nat.mod_add_div (x * 2 ^ s) 18446744073709551616
 rw [h1] at this; exact this
theorem shl_room (c x s : Nat) (hs : s < 64) (hc : c < 2 ^ s) : (c ||| (x * 2 ^ s % 18446744073709551616)) = c + x * 2 ^ s % 18446744073709551616 ∧ c + x * 2 ^ s % 18446744073709551616 < 18446744073709551616 := by
 have e : x * 2 ^ s % 18446744073709551616 = 2 ^ s * (x % 2 ^ (64 - s)) := by
  rw [show (18446744073709551616 : Nat) = 2 ^ s * 2 ^ (64 - s) by rw [← Nat.pow_add, show s + (64 - s) = 64 by omega], Nat.mul_comm x, Nat.mul_mod_mul_left]
 rw [e]
 constructor
 ·rw [Nat.or_comm, Nat.add_comm]
  exact (Nat.two_pow_add_eq_or_of_lt hc _).symm
 ·have h1 : x % 2 ^ (64 - s) + 1 ≤ 2 ^ (64 - s) := Nat.mod_lt _ (Nat.pow_pos (by decide))
  have h2 := Nat.mul_le_mul_left (2 ^ s) h1
  rw [← Nat.pow_add, show s + (64 - s) = 64 by omega, Nat.mul_add, Nat.mul_one] at h2
  omega
theorem shr_room (x y s : Nat) (hs : s < 64) (hx : x < 18446744073709551616) : (x / 2 ^ s ||| (y * 2 ^ (64 - s) % 18446744073709551616)) = x / 2 ^ s + y * 2 ^ (64 - s) % 18446744073709551616 := by
 by_cases h0 : s = 0
 ·subst h0; simp
 ·have h1 : x / 2 ^ s < 2 ^ (64 - s) := by
   rw [Nat.div_lt_iff_lt_mul (Nat.pow_pos (by decide)), ← Nat.pow_add, show 64 - s + s = 64 by omega]; exact hx
  exact (shl_room _ y (64 - s) (by omega) h1).1
theorem shr_fits (v n len : Nat) (hv : v < 18446744073709551616 ^ len) (hn : n / 64 < len) : v / 2 ^ n < 18446744073709551616 ^ (len - n / 64) := by
 rw [two64] at *
 rw [Nat.div_lt_iff_lt_mul (Nat.pow_pos (by decide)), ← Nat.pow_add]
 exact Nat.lt_of_lt_of_le hv (Nat.pow_le_pow_right (by decide) (by omega))
theorem shr_zero (v n len : Nat) (hv : v < 18446744073709551616 ^ len) (hn : len ≤ n / 64) : v / 2 ^ n = 0 := by
 rw [two64] at hv
 exact Nat.div_eq_of_lt (Nat.lt_of_lt_of_le hv (Nat.pow_le_pow_right (by decide) (by omega)))
theorem pow_n (n : Nat) : 2 ^ n = 18446744073709551616 ^ (n / 64) * 2 ^ (n % 64) := by
 rw [two64, ← Nat.pow_add]; congr 1; omega
def lostB (v n : Nat) : Bool := decide (v % 2 ^ n ≠ 0)
theorem lost_split (v n : Nat) : v % 2 ^ n = 0 ↔ v % 18446744073709551616 ^ (n / 64) = 0 ∧ (v / 18446744073709551616 ^ (n / 64) % 18446744073709551616) * 2 ^ (64 - n % 64) % 18446744073709551616 = 0 := by
 have hs : n % 64 < 64 := Nat.mod_lt _ (by decide)
 rw [pow_n n]
 generalize hA : 18446744073709551616 ^ (n / 64) = A
 have hApos : 0 < A := by rw [← hA]; exact Nat.pow_pos (by decide)
 have e1 : v / A % 18446744073709551616 * 2 ^ (64 - n % 64) % 18446744073709551616 = 2 ^ (64 - n % 64) * (v / A % 2 ^ (n % 64)) := by
  have hW : (18446744073709551616 : Nat) = 2 ^ (64 - n % 64) * 2 ^ (n % 64) := by rw [← Nat.pow_add, show 64 - n % 64 + n % 64 = 64 by omega]
  conv => lhs; rw [hW]
  rw [Nat.mul_comm _ (2 ^ (64 - n % 64)), Nat.mul_mod_mul_left, Nat.mul_comm (2 ^ (64 - n % 64)) (2 ^ (n % 64)), Nat.mod_mul_right_mod]
 rw [e1, Nat.mod_mul, Nat.mul_eq_zero, Nat.add_eq_zero_iff, Nat.mul_eq_zero]
 have := Nat.pow_pos (n := 64 - n % 64) (show 0 < 2 by decide)
 constructor
 ·rintro ⟨h1, h2⟩; exact ⟨h1, by rcases h2 with h | h; omega; exact Or.inr h⟩
 ·rintro ⟨h1, h2⟩; exact ⟨h1, by rcases h2 with h | h; omega; exact Or.inr h⟩
set_option maxHeartbeats 1000000
set_option maxRecDepth 100000
def OwnW (B : Nat) (w : World) (a : Option Addr) (len cap : Nat) (xs : List Int) : Prop :=
 IsW w a len cap xs ∧ ∀ b off i, a = some ⟨b, off, none⟩ → i < len → B ≤ b ∧ w.frozen? ⟨b, off + i, none⟩ = false
theorem OwnW.keep {B : Nat} {w w' : World} {a : Option Addr} {len cap : Nat} {xs : List Int} (h : OwnW B w a len cap xs) (hb : Below w.heap.size w w') : OwnW B w' a len cap xs := by
 refine ⟨h.1.keep hb, fun b off i e hi => ?_⟩
 obtain ⟨h1, h2⟩ := h.2 b off i e hi
 obtain ⟨b2, off2, e2, hlt, _⟩ := h.1.2.2.2 i hi
 rw [e] at e2
 simp only [Option.some.injEq, Addr.mk.injEq, and_true] at e2
 obtain ⟨rfl, rfl⟩ := e2
 exact ⟨h1, (hb.frozen (p := ⟨b, off + i, none⟩) hlt).trans h2⟩
theorem OwnW.low {B B' : Nat} {w : World} {a : Option Addr} {len cap : Nat} {xs : List Int} (h : OwnW B w a len cap xs) (hB : B' ≤ B) : OwnW B' w a len cap xs :=
 ⟨h.1, fun b off i e hi => ⟨Nat.le_trans hB (h.2 b off i e hi).1, (h.2 b off i e hi).2⟩⟩
theorem isW_nil (w : World) : IsW w none 0 0 [] := ⟨rfl, (fun x hx => by cases hx), ⟨Nat.le_refl _, fun _ => rfl⟩, fun i hi => by omega⟩
theorem ownW_nil (B : Nat) (w : World) : OwnW B w none 0 0 [] := ⟨isW_nil w, (fun _ _ i _ hi => by omega)⟩
theorem Own.ownW {B cv n : Nat} {w : World} {a : Option Addr} {L : List Int} (h : Own B w a cv L) (hU : AllU L) (hn : L.length = n) : OwnW B w a n cv L := by
 subst hn
 refine ⟨h.isW hU, fun b off i e hi => ?_⟩
 rcases h.2 with ⟨_, h0⟩ | ⟨g, cap, cur, hv, hg, hh, _⟩
 ·omega
 ·simp only [Value.slice.injEq] at hv
  rw [e] at hv
  simp only [Option.some.injEq, Addr.mk.injEq, and_true] at hv
  obtain ⟨⟨rfl, rfl⟩, _⟩ := hv
  refine ⟨hg, ?_⟩
  simp [World.frozen?, hh]
def trimA (a : Option Addr) (n : Nat) : Option Addr := if n = 0 then none else a
theorem isW_trim {w : World} {a : Option Addr} {len cap : Nat} {xs : List Int} (h : IsW w a len cap xs) : IsW w (trimA a (wO (val xs)).length) (wO (val xs)).length (wO (val xs)).length (wO (val xs)) := by
 have hN := norm_eq xs h.2.1
 have hs := size_words xs h.2.1
 have hl := size_le xs
 refine ⟨rfl, words_U _, ⟨Nat.le_refl _, fun e => ?_⟩, fun i hi => ?_⟩
 ·by_cases h0 : (wO (val xs)).length = 0
  ·exact h0
  ·rw [trimA, if_neg h0] at e
   obtain ⟨b, off, e1, _⟩ := h.2.2.2 0 (by have := h.1; omega)
   rw [e] at e1; cases e1
 ·obtain ⟨b, off, e1, e2, e3⟩ := h.2.2.2 i (by have := h.1; omega)
  refine ⟨b, off, ?_, e2, ?_⟩
  ·rw [trimA, if_neg (by omega)]; exact e1
  ·rw [e3, ← hN]
   simp only [List.getD, List.getElem?_take]
   rw [if_pos (by omega)]
theorem ownW_trim {B : Nat} {w : World} {a : Option Addr} {len cap : Nat} {xs : List Int} (h : OwnW B w a len cap xs) : OwnW B w (trimA a (wO (val xs)).length) (wO (val xs)).length (wO (val xs)).length (wO (val xs)) := by
 refine ⟨isW_trim h.1, fun b off i e hi => ?_⟩
 rw [trimA, if_neg (by omega)] at e
 exact h.2 b off i e (by have := size_words xs h.1.2.1; have := size_le xs; have := h.1.1; omega)
theorem trimN_calls (a : Option Addr) (len cap : Nat) (xs : List Int) (w : World) (h : IsW w a len cap xs) (hm : len ≤ 17592186044416) :
  Calls Tryz.prog 158 #[.slice a len cap] w fun e w' => e = .returned (.slice (trimA a (wO (val xs)).length) (wO (val xs)).length (wO (val xs)).length) ∧ w' = w := by
 have HL : Hid (len = xs.length) := h.1
 have HS : Hid ((wO (val xs)).length = sizeL xs) := size_words xs h.2.1
 obtain ⟨hcap, hnil⟩ := h.2.2.1
 go_enter Tryz.func158, Tryz.ntmps158
 go_wp2
 go_loop [3] (fun v => ∃ n : Nat, n ≤ len ∧ v = .int .i64 n ∧ ∀ i, n ≤ i → i < len → xs.getD i 0 = 0) (fun v => (intOf v).toNat)
 case atStart => exact ⟨len, by omega, rfl, fun i h1 h2 => by omega⟩
 case round =>
  obtain ⟨n, hn, rfl, hz⟩ := hrel
  have HZ : Hid (∀ i, n ≤ i → i < len → xs.getD i 0 = 0) := hz
  clear hz
  cases n with
  | zero =>
   have hs : Hid (0 = sizeL xs) := size_spec xs 0 (Nat.zero_le _) (fun i h1 h2 => HZ.out i h1 (by rw [HL.out]; exact h2)) (Or.inl rfl)
   have e0 : Hid ((wO (val xs)).length = 0) := by rw [Hid, HS.out]; exact hs.out.symm
   clear hnil
   go_wp2
   go_ret
   rw [e0.out]
   exact ⟨rfl, rfl⟩
  | succ m =>
   obtain ⟨b, off, ha, _, hc⟩ := h.2.2.2 m (by omega)
   subst ha
   clear hnil
   obtain ⟨x, hx⟩ : ∃ x, x = xs.getD m 0 := ⟨_, rfl⟩
   rw [← hx] at hc
   by_cases h0 : x = 0
   ·have d0 : (x == 0) = true := by simp [h0]
    have HZ' : Hid (∀ i, m ≤ i → i < len → xs.getD i 0 = 0) := fun i h1 h2 => by
     by_cases e : i = m
     ·rw [e, ← hx, h0]
     ·exact HZ.out i (by omega) h2
    clear hx h0
    go_wp2
    go_round
    case rel => exact ⟨m, by omega, by go_num, HZ'.out⟩
    case measure => simp [intOf]
   ·have d0 : (x == 0) = false := by simp [h0]
    have hs : Hid (m + 1 = sizeL xs) := size_spec xs (m + 1) (by rw [← HL.out]; omega) (fun i h1 h2 => HZ.out i h1 (by rw [HL.out]; exact h2)) (Or.inr (by show xs.getD m 0 ≠ 0; rw [← hx]; exact h0))
    have e0 : Hid ((wO (val xs)).length = m + 1) := by rw [Hid, HS.out]; exact hs.out.symm
    clear hx h0
    go_wp2
    go_ret
    rw [e0.out]
    exact ⟨rfl, rfl⟩
theorem trimW_calls (a : Option Addr) (len cap : Nat) (xs : List Int) (w : World) (h : IsW w a len cap xs) (hm : len ≤ 17592186044416) :
  Calls Tryz.prog 192 #[.slice a len cap] w fun e w' => e = .returned (.slice (trimA a (wO (val xs)).length) (wO (val xs)).length (wO (val xs)).length) ∧ w' = w := by
 have HL : Hid (len = xs.length) := h.1
 have HS : Hid ((wO (val xs)).length = sizeL xs) := size_words xs h.2.1
 obtain ⟨hcap, hnil⟩ := h.2.2.1
 go_enter Tryz.func192, Tryz.ntmps192
 go_wp2
 go_loop [3] (fun v => ∃ n : Nat, n ≤ len ∧ v = .int .i64 n ∧ ∀ i, n ≤ i → i < len → xs.getD i 0 = 0) (fun v => (intOf v).toNat)
 case atStart => exact ⟨len, by omega, rfl, fun i h1 h2 => by omega⟩
 case round =>
  obtain ⟨n, hn, rfl, hz⟩ := hrel
  have HZ : Hid (∀ i, n ≤ i → i < len → xs.getD i 0 = 0) := hz
  clear hz
  cases n with
  | zero =>
   have hs : Hid (0 = sizeL xs) := size_spec xs 0 (Nat.zero_le _) (fun i h1 h2 => HZ.out i h1 (by rw [HL.out]; exact h2)) (Or.inl rfl)
   have e0 : Hid ((wO (val xs)).length = 0) := by rw [Hid, HS.out]; exact hs.out.symm
   clear hnil
   go_wp2
   go_ret
   rw [e0.out]
   exact ⟨rfl, rfl⟩
  | succ m =>
   obtain ⟨b, off, ha, _, hc⟩ := h.2.2.2 m (by omega)
   subst ha
   clear hnil
   obtain ⟨x, hx⟩ : ∃ x, x = xs.getD m 0 := ⟨_, rfl⟩
   rw [← hx] at hc
   by_cases h0 : x = 0
   ·have d0 : (x == 0) = true := by simp [h0]
    have HZ' : Hid (∀ i, m ≤ i → i < len → xs.getD i 0 = 0) := fun i h1 h2 => by
     by_cases e : i = m
     ·rw [e, ← hx, h0]
     ·exact HZ.out i (by omega) h2
    clear hx h0
    go_wp2
    go_round
    case rel => exact ⟨m, by omega, by go_num, HZ'.out⟩
    case measure => simp [intOf]
   ·have d0 : (x == 0) = false := by simp [h0]
    have hs : Hid (m + 1 = sizeL xs) := size_spec xs (m + 1) (by rw [← HL.out]; omega) (fun i h1 h2 => HZ.out i h1 (by rw [HL.out]; exact h2)) (Or.inr (by show xs.getD m 0 ≠ 0; rw [← hx]; exact h0))
    have e0 : Hid ((wO (val xs)).length = m + 1) := by rw [Hid, HS.out]; exact hs.out.symm
    clear hx h0
    go_wp2
    go_ret
    rw [e0.out]
    exact ⟨rfl, rfl⟩
theorem trimL_calls (a : Option Addr) (len cap : Nat) (xs : List Int) (w : World) (h : IsW w a len cap xs) (hm : len ≤ 17592186044416) :
  Calls Tryz.prog 212 #[.slice a len cap] w fun e w' => e = .returned (.slice (trimA a (wO (val xs)).length) (wO (val xs)).length (wO (val xs)).length) ∧ w' = w := by
 have HL : Hid (len = xs.length) := h.1
 have HS : Hid ((wO (val xs)).length = sizeL xs) := size_words xs h.2.1
 obtain ⟨hcap, hnil⟩ := h.2.2.1
 go_enter Tryz.func212, Tryz.ntmps212
 go_wp2
 go_loop [3] (fun v => ∃ n : Nat, n ≤ len ∧ v = .int .i64 n ∧ ∀ i, n ≤ i → i < len → xs.getD i 0 = 0) (fun v => (intOf v).toNat)
 case atStart => exact ⟨len, by omega, rfl, fun i h1 h2 => by omega⟩
 case round =>
  obtain ⟨n, hn, rfl, hz⟩ := hrel
  have HZ : Hid (∀ i, n ≤ i → i < len → xs.getD i 0 = 0) := hz
  clear hz
  cases n with
  | zero =>
   have hs : Hid (0 = sizeL xs) := size_spec xs 0 (Nat.zero_le _) (fun i h1 h2 => HZ.out i h1 (by rw [HL.out]; exact h2)) (Or.inl rfl)
   have e0 : Hid ((wO (val xs)).length = 0) := by rw [Hid, HS.out]; exact hs.out.symm
   clear hnil
   go_wp2
   go_ret
   rw [e0.out]
   exact ⟨rfl, rfl⟩
  | succ m =>
   obtain ⟨b, off, ha, _, hc⟩ := h.2.2.2 m (by omega)
   subst ha
   clear hnil
   obtain ⟨x, hx⟩ : ∃ x, x = xs.getD m 0 := ⟨_, rfl⟩
   rw [← hx] at hc
   by_cases h0 : x = 0
   ·have d0 : (x == 0) = true := by simp [h0]
    have HZ' : Hid (∀ i, m ≤ i → i < len → xs.getD i 0 = 0) := fun i h1 h2 => by
     by_cases e : i = m
     ·rw [e, ← hx, h0]
     ·exact HZ.out i (by omega) h2
    clear hx h0
    go_wp2
    go_round
    case rel => exact ⟨m, by omega, by go_num, HZ'.out⟩
    case measure => simp [intOf]
   ·have d0 : (x == 0) = false := by simp [h0]
    have hs : Hid (m + 1 = sizeL xs) := size_spec xs (m + 1) (by rw [← HL.out]; omega) (fun i h1 h2 => HZ.out i h1 (by rw [HL.out]; exact h2)) (Or.inr (by show xs.getD m 0 ≠ 0; rw [← hx]; exact h0))
    have e0 : Hid ((wO (val xs)).length = m + 1) := by rw [Hid, HS.out]; exact hs.out.symm
    clear hx h0
    go_wp2
    go_ret
    rw [e0.out]
    exact ⟨rfl, rfl⟩
theorem at_calls (a : Option Addr) (len cap : Nat) (xs : List Int) (i : Nat) (w : World) (h : IsW w a len cap xs) :
  Calls Tryz.prog 199 #[.slice a len cap, .int .i64 i] w fun e w' => e = .returned (.int .u64 (xs.getD i 0)) ∧ w' = w := by
 by_cases hi : i < len
 ·obtain ⟨b, off, rfl, _, hc⟩ := h.2.2.2 i hi
  generalize xs.getD i 0 = x at *
  go_enter Tryz.func199, Tryz.ntmps199
  go_wp2
  go_ret
  exact ⟨rfl, rfl⟩
 ·have hV : Hid (xs.getD i 0 = 0) := by rw [Hid]; have := h.1; simp [List.getD]; rw [List.getElem?_eq_none (by omega)]; rfl
  go_enter Tryz.func199, Tryz.ntmps199
  go_wp2
  go_ret
  exact ⟨nret_int hV.out.symm, rfl⟩
theorem great1_calls (g : Nat) (a : Option Addr) (n c : Nat) (w : World) (hc : w.cell? ⟨g, 0, none⟩ = some (.slice a n c)) :
  Calls Tryz.prog 159 #[.slice (some ⟨g, 0, none⟩) 1 1] w fun e w' => e = .returned (.bool (decide (1024 < n))) ∧ w' = w := by
 by_cases hn : 1024 < n
 ·have HV : Hid (decide (1024 < n) = true) := by simpa [Hid] using hn
  go_enter Tryz.func159, Tryz.ntmps159
  go_wp2
  refine wp_loop_rounds 1 ?_
  rw [rounds_succ]
  go_wp2
  go_ret
  exact ⟨nret_bool HV.out.symm, rfl⟩
 ·have HV : Hid (decide (1024 < n) = false) := by simpa [Hid] using hn
  go_enter Tryz.func159, Tryz.ntmps159
  go_wp2
  refine wp_loop_rounds 2 ?_
  rw [rounds_succ]
  go_wp2
  rw [rounds_succ]
  go_wp2
  go_ret
  exact ⟨nret_bool HV.out.symm, rfl⟩
theorem great2_calls (g : Nat) (a a' : Option Addr) (n c n' c' : Nat) (w : World) (hc : w.cell? ⟨g, 0, none⟩ = some (.slice a n c)) (hc' : w.cell? ⟨g, 1, none⟩ = some (.slice a' n' c')) :
  Calls Tryz.prog 159 #[.slice (some ⟨g, 0, none⟩) 2 2] w fun e w' => e = .returned (.bool (decide (1024 < n) || decide (1024 < n'))) ∧ w' = w := by
 by_cases hn : 1024 < n
 ·have HV : Hid ((decide (1024 < n) || decide (1024 < n')) = true) := by simp [Hid, hn]
  go_enter Tryz.func159, Tryz.ntmps159
  go_wp2
  refine wp_loop_rounds 1 ?_
  rw [rounds_succ]
  go_wp2
  go_ret
  exact ⟨nret_bool HV.out.symm, rfl⟩
 ·by_cases hn' : 1024 < n'
  ·have HV : Hid ((decide (1024 < n) || decide (1024 < n')) = true) := by simp [Hid, hn']
   go_enter Tryz.func159, Tryz.ntmps159
   go_wp2
   refine wp_loop_rounds 2 ?_
   rw [rounds_succ]
   go_wp2
   rw [rounds_succ]
   go_wp2
   go_ret
   exact ⟨nret_bool HV.out.symm, rfl⟩
  ·have HV : Hid ((decide (1024 < n) || decide (1024 < n')) = false) := by simp [Hid, hn, hn']
   go_enter Tryz.func159, Tryz.ntmps159
   go_wp2
   refine wp_loop_rounds 3 ?_
   rw [rounds_succ]
   go_wp2
   rw [rounds_succ]
   go_wp2
   rw [rounds_succ]
   go_wp2
   go_ret
   exact ⟨nret_bool HV.out.symm, rfl⟩
set_option maxHeartbeats 1000000
set_option maxRecDepth 100000
theorem bit_spell (x : Int) (k : Nat) (h : 0 ≤ x) : ((x / 2 ^ k).tmod 2 == 1) = decide (x.toNat / 2 ^ k % 2 = 1) := by
 obtain ⟨n, rfl⟩ := Int.eq_ofNat_of_zero_le h
 have e : ((n : Int) / 2 ^ k) = ((n / 2 ^ k : Nat) : Int) := by rw [Int.natCast_ediv, Int.natCast_pow]; rfl
 rw [e, Int.tmod_eq_emod_of_nonneg (Int.natCast_nonneg _), Int.toNat_natCast]
 rw [Bool.eq_iff_iff]; simp; omega
theorem blen_half (t : Nat) (h : t ≠ 0) : blen t = blen (t / 2) + 1 := by
 by_cases h1 : t = 1
 ·subst h1; decide
 ·have e := blen_shift 1 (t % 2) (t / 2) (by omega) (by omega)
  rw [show t % 2 + 2 ^ 1 * (t / 2) = t by omega] at e
  omega
theorem blen_words_le (xs : List Int) (h : AllU xs) : blen (val xs) ≤ 64 * xs.length := by
 have h1 := val_lt xs h
 rw [two64, ← blen_le] at h1
 exact h1
theorem tz_lt (n : Nat) (h : n ≠ 0) : tz n < blen n := by
 obtain ⟨m, hm⟩ := ntz_spec n h
 have h1 : ¬ blen n ≤ tz n := by
  rw [blen_le]
  have : 2 ^ tz n * 1 ≤ 2 ^ tz n * (2 * m + 1) := Nat.mul_le_mul_left _ (by omega)
  omega
 omega
theorem nBit_calls (a : Option Addr) (len cap : Nat) (xs : List Int) (i : Nat) (w : World) (h : IsW w a len cap xs) (hi : i ≤ 9223372036854775807) :
  Calls Tryz.prog 114 #[.slice a len cap, .int .i64 i] w fun e w' => e = .returned (.bool ((val xs).testBit i)) ∧ w' = w := by
 have hx := h.2.1.get (i / 64)
 have HV : Hid _ := val_bit xs h.2.1 i
 obtain ⟨x, hx2⟩ : ∃ x, x = xs.getD (i / 64) 0 := ⟨_, rfl⟩
 have HW := nWord_calls a len cap xs (i / 64) w h
 rw [← hx2] at HV HW hx
 clear hx2
 have HW1 : Hid (Calls Tryz.prog 111 #[.slice a len cap, .int .i64 ((i : Int) / 64)] w fun e w' => e = .returned (.int .u64 x) ∧ w' = w) := by
  rw [show ((i : Int) / 64) = ((i / 64 : Nat) : Int) by omega]; exact HW
 clear HW
 go_enter Tryz.func114, Tryz.ntmps114
 go_wp2_with fail
 refine cM HW1.out ?_
 rintro e w ⟨rfl, rfl⟩
 go_wp2_with fail
 go_ret
 exact ⟨nret_bool (by rw [bit_spell x _ hx.1, HV.out]), rfl⟩
theorem nLen_calls (a : Option Addr) (len cap : Nat) (xs : List Int) (w : World) (h : IsW w a len cap xs) (hm : len ≤ 17592186044416) :
  Calls Tryz.prog 80 #[.slice a len cap] w fun e w' => e = .returned (.int .i64 (blen (val xs))) ∧ Below w.heap.size w w' := by
 have hN := nNorm_calls a len cap xs w h hm
 have hl : (wO (val xs)).length ≤ 17592186044416 := by have := size_words xs h.2.1; have := size_le xs; have := h.1; omega
 go_enter Tryz.func80, Tryz.ntmps80
 go_wp2_with fail
 refine cM hN ?_
 rintro e w1 ⟨ao, cv, rfl, hO, hb⟩
 by_cases h0 : val xs = 0
 ·have e0 : Hid (blen (val xs) = 0) := (blen_nil _).2 h0
  have hz : (wO (val xs)).length = 0 := by rw [h0, words_zero]; rfl
  rw [hz]
  clear hN hO h0 hz
  go_wp2_with fail
  go_ret
  rw [e0.out]
  exact ⟨rfl, hb⟩
 ·have hT : Hid _ := blen_top _ h0
  have hI := hO.isW (words_U _)
  have hlp : 0 < (wO (val xs)).length := by
   rcases Nat.eq_zero_or_pos (wO (val xs)).length with h1 | h1
   ·exact absurd ((words_nil _).1 (List.length_eq_zero_iff.1 h1)) h0
   ·exact h1
  obtain ⟨L, hL⟩ : ∃ L, L = (wO (val xs)).length - 1 := ⟨_, rfl⟩
  have hL1 : (wO (val xs)).length = L + 1 := by omega
  have hg := (words_U (val xs)).get L
  obtain ⟨b, off, ha, _, hc⟩ := hI.2.2.2 L (by omega)
  subst ha
  rw [← hL] at hT
  obtain ⟨x, hx⟩ : ∃ x, x = (wO (val xs)).getD L 0 := ⟨_, rfl⟩
  rw [← hx] at hc hT hg
  rw [hL1]
  obtain ⟨t, rfl⟩ := Int.eq_ofNat_of_zero_le hg.1
  have hLl : L ≤ 17592186044416 := by omega
  have hbt : blen t ≤ 64 := by rw [blen_le]; have : (2 : Nat) ^ 64 = 18446744073709551616 := rfl; omega
  clear hx hI hL hL1 hlp h0 hN hO hl
  have hT' : Hid (blen (val xs) = 64 * L + blen t) := hT
  clear hT
  go_wp2_with fail
  go_loop [3, 4] (fun n v => ∃ k s : Nat, n = .int .i64 (64 * (L : Int) + k) ∧ v = .int .u64 s ∧ k + blen s = blen t ∧ s ≤ 18446744073709551615) (fun _ v => (intOf v).toNat)
  case atStart => exact ⟨0, t, by go_num, rfl, by omega, by omega⟩
  case round =>
   obtain ⟨k, s, rfl, rfl, hks, hs⟩ := hrel
   have HK : Hid (k + blen s = blen t) := hks
   have hkb : k ≤ 64 := by omega
   clear hks
   by_cases h0 : s = 0
   ·subst h0
    go_wp2_with fail
    go_ret
    exact ⟨nret_int (by rw [hT'.out, ← HK.out, blen_zero]; omega), hb⟩
   ·have hp : (0 : Int) < s := by omega
    have HH : Hid (k + 1 + blen (s / 2) = blen t) := by rw [Hid, ← HK.out, blen_half s h0]; omega
    go_wp2_with fail
    go_round
    case rel => exact ⟨k + 1, s / 2, by go_num, by go_num, HH.out, by omega⟩
    case measure => simp [intOf]; omega
theorem nLow_calls (a : Option Addr) (len cap : Nat) (xs : List Int) (w : World) (h : IsW w a len cap xs) (hm : len ≤ 17592186044416) :
  Calls Tryz.prog 81 #[.slice a len cap] w fun e w' => e = .returned (.int .i64 (tz (val xs))) ∧ Below w.heap.size w w' := by
 have hN := nLen_calls a len cap xs w h hm
 have hB := blen_words_le xs h.2.1
 rw [← h.1] at hB
 go_enter Tryz.func81, Tryz.ntmps81
 go_wp2_with fail
 refine cM hN ?_
 rintro e w1 ⟨rfl, hb⟩
 by_cases h0 : val xs = 0
 ·have e0 : blen (val xs) = 0 := (blen_nil _).2 h0
  have e1 : Hid (tz (val xs) = 0) := by rw [Hid, h0, tz_zero]
  rw [e0]
  clear hN h0 e0
  go_wp2_with fail
  go_ret
  rw [e1.out]
  exact ⟨rfl, hb⟩
 ·have e0 : ((blen (val xs) : Int) == 0) = false := by have := (blen_nil (val xs)).1; simp; omega
  have hz := tz_lt _ h0
  have hbit := tz_bit _ h0
  have h1 := h.keep hb
  have HB : Hid _ := hbit
  clear hN hbit
  go_wp2_with fail
  go_loop [3] (fun v => ∃ k : Nat, v = .int .i64 k ∧ k ≤ tz (val xs)) (fun v => tz (val xs) - (intOf v).toNat)
  case atStart => exact ⟨0, rfl, by omega⟩
  case round =>
   obtain ⟨k, rfl, hk⟩ := hrel
   by_cases hlt : k < tz (val xs)
   ·have hf : (val xs).testBit k = false := HB.out.2 k hlt
    go_wp2_with fail
    refine cM (nBit_calls a len cap xs k w1 h1 (by omega)) ?_
    rw [hf]
    rintro e w1 ⟨rfl, rfl⟩
    go_wp2_with fail
    go_round
    case rel => exact ⟨k + 1, by go_num, by omega⟩
    case measure => simp [intOf]; omega
   ·have hk2 : k = tz (val xs) := by omega
    have hf : (val xs).testBit k = true := by rw [hk2]; exact HB.out.1
    have HK : Hid (k = tz (val xs)) := hk2
    clear hk2
    go_wp2_with fail
    refine cM (nBit_calls a len cap xs k w1 h1 (by omega)) ?_
    rw [hf]
    rintro e w1 ⟨rfl, rfl⟩
    go_wp2_with fail
    go_ret
    exact ⟨nret_int (by rw [HK.out]), hb⟩
end Go.Proofs.YtahpdcbmekgkfaaGreatDoor

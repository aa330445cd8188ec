/- The calls of package nat where what they come to is known: the answers' slices, read. -/
import Derived.Test.YtfmjgagajlhfoaaDoorNPow2
import Derived.Test.YtfmjgagajlhfoaaDoorNOver
namespace Go.Proofs.YtfmjgagajlhfoaaDoor
open Go.RowKit

theorem zero_len : (wordsOf 0).length ≤ 1024 := by rw [words_zero]; simp
theorem fitR_len (u : Nat) : (wordsOf (fitR u).1).length ≤ 1024 := by
  unfold fitR
  split
  · exact zero_len
  · rename_i h
    exact (great_len u).1 (by simpa using h)
theorem addR_len (u v : Nat) : (wordsOf (addR u v).1).length ≤ 1024 := by
  unfold addR
  split
  · exact zero_len
  · exact fitR_len _
theorem subR_len (u v : Nat) : (wordsOf (subR u v).1).length ≤ 1024 := by
  unfold subR
  split
  · exact zero_len
  · rename_i h
    rw [Bool.not_eq_true, Bool.or_eq_false_iff] at h
    split
    · exact zero_len
    · exact (great_len _).1 (great_mono (Nat.sub_le _ _) h.1)
theorem mulR_len (u v : Nat) : (wordsOf (mulR u v).1).length ≤ 1024 := by
  unfold mulR
  split
  · exact zero_len
  · exact fitR_len _
theorem div_len (u v : Nat) : (wordsOf (divQ u v)).length ≤ 1024 ∧ (wordsOf (divM u v)).length ≤ 1024 := by
  unfold divQ divM
  split
  · exact ⟨zero_len, zero_len⟩
  · rename_i h
    have h1 : greatB u = false := by
      rw [Bool.not_eq_true, Bool.or_eq_false_iff] at h; exact h.1
    split
    · exact ⟨zero_len, zero_len⟩
    · exact ⟨(great_len _).1 (great_mono (Nat.div_le_self _ _) h1), (great_len _).1 (great_mono (Nat.mod_le _ _) h1)⟩
theorem shlR_len (u : Nat) (i : Int) : (wordsOf (shlR u i).1).length ≤ 1024 := by
  unfold shlR
  split
  · exact zero_len
  · split
    · exact zero_len
    · split
      · exact zero_len
      · split
        · exact zero_len
        · rename_i h1 h2 h3 h4
          simp only
          obtain ⟨j, rfl⟩ := Int.eq_ofNat_of_zero_le (show 0 ≤ i by omega)
          rw [Int.toNat_natCast, ← great_len, great_not, blen_mul _ _ h3]; omega
theorem shrQ_len (u : Nat) (i : Int) : (wordsOf (shrQ u i)).length ≤ 1024 := by
  unfold shrQ
  split
  · exact zero_len
  · split
    · exact zero_len
    · rename_i h1 h2
      rw [← great_len]
      exact great_mono (Nat.div_le_self _ _) (by simpa using h1)
theorem powR_len (u : Nat) (i : Int) : (wordsOf (powR u i).1).length ≤ 1024 := by
  unfold powR
  split
  · exact zero_len
  · split
    · exact zero_len
    · exact fitR_len _
theorem NatAt.open {B : Nat} {w : World} {v : Value} {r : Nat} (h : NatAt B w v r) (hl : (wordsOf r).length ≤ 1024) : ∃ (ao : Option Addr) (n c : Nat), v = .slice ao n c ∧ Hid (n = (wordsOf r).length) ∧ n ≤ 1024 ∧ OwnW B w ao n c (wordsOf r) := by
  obtain ⟨ao, n, c, rfl, hn, hO⟩ := h
  exact ⟨ao, n, c, rfl, hn, by omega, hO⟩

section
variable {a a' : Option Addr} {len cap len' cap' : Nat} {xs ys : List Int} {w : World}

theorem add_eq (h : IsW w a len cap xs) (h' : IsW w a' len' cap' ys) (hm : len ≤ 17592186044416) (hm' : len' ≤ 17592186044416) {r : Nat} {k : Int} (hr : addR (val xs) (val ys) = (r, k)) :
    Calls Tryd.prog 15 #[.slice a len cap, .slice a' len' cap'] w fun e w' => ∃ (ao : Option Addr) (n c : Nat), e = .returned (.tuple #[.slice ao n c, .int .i64 k]) ∧ Hid (n = (wordsOf r).length) ∧ n ≤ 1024 ∧ OwnW w.heap.size w' ao n c (wordsOf r) ∧ Below w.heap.size w w' := by
  have hl := addR_len (val xs) (val ys)
  refine Calls.mono (add_calls a a' len cap len' cap' xs ys w h h' hm hm') ?_
  rw [hr] at hl ⊢
  rintro e w' ⟨v, rfl, hA, hb⟩
  obtain ⟨ao, n, c, rfl, h1, h2, h3⟩ := hA.open hl
  exact ⟨ao, n, c, rfl, h1, h2, h3, hb⟩

theorem norm_eq2 (h : IsW w a len cap xs) (hm : len ≤ 17592186044416) {r : Nat} {k : Int} (hr : fitR (val xs) = (r, k)) :
    Calls Tryd.prog 14 #[.slice a len cap] w fun e w' => ∃ (ao : Option Addr) (n c : Nat), e = .returned (.tuple #[.slice ao n c, .int .i64 k]) ∧ Hid (n = (wordsOf r).length) ∧ n ≤ 1024 ∧ OwnW w.heap.size w' ao n c (wordsOf r) ∧ Below w.heap.size w w' := by
  have hl := fitR_len (val xs)
  refine Calls.mono (norm_calls a len cap xs w h hm) ?_
  rw [hr] at hl ⊢
  rintro e w' ⟨v, rfl, hA, hb⟩
  obtain ⟨ao, n, c, rfl, h1, h2, h3⟩ := hA.open hl
  exact ⟨ao, n, c, rfl, h1, h2, h3, hb⟩

theorem pow_eq {i : Int} (h : IsW w a len cap xs) (hm : len ≤ 17592186044416) (hi : i ≤ 9223372036854775807) {r : Nat} {k : Int} (hr : powR (val xs) i = (r, k)) :
    Calls Tryd.prog 16 #[.slice a len cap, .int .i64 i] w fun e w' => ∃ (ao : Option Addr) (n c : Nat), e = .returned (.tuple #[.slice ao n c, .int .i64 k]) ∧ Hid (n = (wordsOf r).length) ∧ n ≤ 1024 ∧ OwnW w.heap.size w' ao n c (wordsOf r) ∧ Below w.heap.size w w' := by
  have hl := powR_len (val xs) i
  refine Calls.mono (pow_calls a len cap xs i w h hm hi) ?_
  rw [hr] at hl ⊢
  rintro e w' ⟨v, rfl, hA, hb⟩
  obtain ⟨ao, n, c, rfl, h1, h2, h3⟩ := hA.open hl
  exact ⟨ao, n, c, rfl, h1, h2, h3, hb⟩

theorem div_eq (h : IsW w a len cap xs) (h' : IsW w a' len' cap' ys) (hm : len ≤ 17592186044416) (hm' : len' ≤ 17592186044416) {q r : Nat} {k : Int} (hr : divQ (val xs) (val ys) = q) (hr2 : divM (val xs) (val ys) = r) (hr3 : divE (val xs) (val ys) = k) :
    Calls Tryd.prog 34 #[.slice a len cap, .slice a' len' cap'] w fun e w' => ∃ (a1 a2 : Option Addr) (n1 c1 n2 c2 : Nat), e = .returned (.tuple #[.slice a1 n1 c1, .slice a2 n2 c2, .int .i64 k]) ∧ Hid (n1 = (wordsOf q).length) ∧ n1 ≤ 1024 ∧ OwnW w.heap.size w' a1 n1 c1 (wordsOf q) ∧ Hid (n2 = (wordsOf r).length) ∧ n2 ≤ 1024 ∧ OwnW w.heap.size w' a2 n2 c2 (wordsOf r) ∧ Below w.heap.size w w' := by
  have hl := div_len (val xs) (val ys)
  refine Calls.mono (div_calls a a' len cap len' cap' xs ys w h h' hm hm' (fun h => over_any _ _ (by omega))) ?_
  rw [hr, hr2] at hl ⊢
  rw [hr3]
  rintro e w' ⟨v, v', rfl, hA, hA', hb⟩
  obtain ⟨a1, n1, c1, rfl, h1, h2, h3⟩ := hA.open hl.1
  obtain ⟨a2, n2, c2, rfl, h4, h5, h6⟩ := hA'.open hl.2
  exact ⟨a1, a2, n1, c1, n2, c2, rfl, h1, h2, h3, h4, h5, h6, hb⟩
end
end Go.Proofs.YtfmjgagajlhfoaaDoor

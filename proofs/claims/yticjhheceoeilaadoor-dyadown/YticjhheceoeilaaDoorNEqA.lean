/- The calls of package nat (no quotients, no powers) where what they come to is known: the answers' slices, read. -/
import Derived.Test.YticjhheceoeilaaDoorNProg7
import Derived.Test.YticjhheceoeilaaDoorNShs
namespace Go.Proofs.YticjhheceoeilaaDoor
open Go.RowKit

theorem zero_len : (wordsOf 0).length ≤ 1024 := by rw [words_zero]; simp
theorem fitR_len (u : Nat) : (wordsOf (fitR u).1).length ≤ 1024 := by
  unfold fitR
  split
  · exact zero_len
  · rename_i h
    exact (great_len u).1 (by simpa using h)
theorem addR_len (u v : Nat) : (wordsOf (addR u v).1).length ≤ 1024 := by
  unfold addR
  split
  · exact zero_len
  · exact fitR_len _
theorem subR_len (u v : Nat) : (wordsOf (subR u v).1).length ≤ 1024 := by
  unfold subR
  split
  · exact zero_len
  · rename_i h
    rw [Bool.not_eq_true, Bool.or_eq_false_iff] at h
    split
    · exact zero_len
    · exact (great_len _).1 (great_mono (Nat.sub_le _ _) h.1)
theorem shlR_len (u : Nat) (i : Int) : (wordsOf (shlR u i).1).length ≤ 1024 := by
  unfold shlR
  split
  · exact zero_len
  · split
    · exact zero_len
    · split
      · exact zero_len
      · split
        · exact zero_len
        · rename_i h1 h2 h3 h4
          simp only
          obtain ⟨j, rfl⟩ := Int.eq_ofNat_of_zero_le (show 0 ≤ i by omega)
          rw [Int.toNat_natCast, ← great_len, great_not, blen_mul _ _ h3]; omega
theorem shrQ_len (u : Nat) (i : Int) : (wordsOf (shrQ u i)).length ≤ 1024 := by
  unfold shrQ
  split
  · exact zero_len
  · split
    · exact zero_len
    · rename_i h1 h2
      rw [← great_len]
      exact great_mono (Nat.div_le_self _ _) (by simpa using h1)
theorem NatAt.open {B : Nat} {w : World} {v : Value} {r : Nat} (h : NatAt B w v r) (hl : (wordsOf r).length ≤ 1024) : ∃ (ao : Option Addr) (n c : Nat), v = .slice ao n c ∧ Hid (n = (wordsOf r).length) ∧ n ≤ 1024 ∧ OwnW B w ao n c (wordsOf r) := by
  obtain ⟨ao, n, c, rfl, hn, hO⟩ := h
  exact ⟨ao, n, c, rfl, hn, by omega, hO⟩

section
variable {a a' : Option Addr} {len cap len' cap' : Nat} {xs ys : List Int} {w : World}

theorem add_eq (h : IsW w a len cap xs) (h' : IsW w a' len' cap' ys) (hm : len ≤ 17592186044416) (hm' : len' ≤ 17592186044416) {r : Nat} {k : Int} (hr : addR (val xs) (val ys) = (r, k)) :
    Calls Tryd.prog 87 #[.slice a len cap, .slice a' len' cap'] w fun e w' => ∃ (ao : Option Addr) (n c : Nat), e = .returned (.tuple #[.slice ao n c, .int .i64 k]) ∧ Hid (n = (wordsOf r).length) ∧ n ≤ 1024 ∧ OwnW w.heap.size w' ao n c (wordsOf r) ∧ Below w.heap.size w w' := by
  have hl := addR_len (val xs) (val ys)
  refine Calls.mono (add_calls a a' len cap len' cap' xs ys w h h' hm hm') ?_
  rw [hr] at hl ⊢
  rintro e w' ⟨v, rfl, hA, hb⟩
  obtain ⟨ao, n, c, rfl, h1, h2, h3⟩ := hA.open hl
  exact ⟨ao, n, c, rfl, h1, h2, h3, hb⟩

theorem sub_eq (h : IsW w a len cap xs) (h' : IsW w a' len' cap' ys) (hm : len ≤ 17592186044416) (hm' : len' ≤ 17592186044416) {r : Nat} {k : Int} (hr : subR (val xs) (val ys) = (r, k)) :
    Calls Tryd.prog 88 #[.slice a len cap, .slice a' len' cap'] w fun e w' => ∃ (ao : Option Addr) (n c : Nat), e = .returned (.tuple #[.slice ao n c, .int .i64 k]) ∧ Hid (n = (wordsOf r).length) ∧ n ≤ 1024 ∧ OwnW w.heap.size w' ao n c (wordsOf r) ∧ Below w.heap.size w w' := by
  have hl := subR_len (val xs) (val ys)
  refine Calls.mono (sub_calls a a' len cap len' cap' xs ys w h h' hm hm') ?_
  rw [hr] at hl ⊢
  rintro e w' ⟨v, rfl, hA, hb⟩
  obtain ⟨ao, n, c, rfl, h1, h2, h3⟩ := hA.open hl
  exact ⟨ao, n, c, rfl, h1, h2, h3, hb⟩

theorem shl_eq {i : Int} (h : IsW w a len cap xs) (hm : len ≤ 17592186044416) {r : Nat} {k : Int} (hr : shlR (val xs) i = (r, k)) :
    Calls Tryd.prog 84 #[.slice a len cap, .int .i64 i] w fun e w' => ∃ (ao : Option Addr) (n c : Nat), e = .returned (.tuple #[.slice ao n c, .int .i64 k]) ∧ Hid (n = (wordsOf r).length) ∧ n ≤ 1024 ∧ OwnW w.heap.size w' ao n c (wordsOf r) ∧ Below w.heap.size w w' := by
  have hl := shlR_len (val xs) i
  refine Calls.mono (shl_calls a len cap xs i w h hm) ?_
  rw [hr] at hl ⊢
  rintro e w' ⟨v, rfl, hA, hb⟩
  obtain ⟨ao, n, c, rfl, h1, h2, h3⟩ := hA.open hl
  exact ⟨ao, n, c, rfl, h1, h2, h3, hb⟩

theorem shr_eq {i : Int} (h : IsW w a len cap xs) (hm : len ≤ 17592186044416) (hi : i ≤ 9223372036854775807) {r : Nat} {l : Bool} {k : Int} (hr : shrQ (val xs) i = r) (hr2 : shrL (val xs) i = l) (hr3 : shrE (val xs) i = k) :
    Calls Tryd.prog 48 #[.slice a len cap, .int .i64 i] w fun e w' => ∃ (ao : Option Addr) (n c : Nat), e = .returned (.tuple #[.slice ao n c, .bool l, .int .i64 k]) ∧ Hid (n = (wordsOf r).length) ∧ n ≤ 1024 ∧ OwnW w.heap.size w' ao n c (wordsOf r) ∧ Below w.heap.size w w' := by
  have hl := shrQ_len (val xs) i
  refine Calls.mono (shr_calls a len cap xs i w h hm hi) ?_
  rw [hr] at hl ⊢
  rw [hr2, hr3]
  rintro e w' ⟨v, rfl, hA, hb⟩
  obtain ⟨ao, n, c, rfl, h1, h2, h3⟩ := hA.open hl
  exact ⟨ao, n, c, rfl, h1, h2, h3, hb⟩

end
end Go.Proofs.YticjhheceoeilaaDoor

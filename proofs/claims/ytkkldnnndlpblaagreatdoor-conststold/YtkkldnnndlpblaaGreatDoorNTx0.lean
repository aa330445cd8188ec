/- Plain facts on texts of decimal digits: where a text ceases to be a number's, the number, its size. -/
import Derived.Test.YtkkldnnndlpblaaGreatDoorNTextP
import Derived.Test.YtkkldnnndlpblaaGreatDoorTMA
namespace Go.Proofs.YtkkldnnndlpblaaGreatDoor
open Go.RowKit

/-- No number's text goes on with the byte at place i. -/
def badB (l : List UInt8) (i : Nat) : Bool := decide ((l.getD i 0).toNat < 48) || decide (57 < (l.getD i 0).toNat) || (decide (i = 1) && decide ((l.getD 0 0).toNat = 48))
def firstBad (l : List UInt8) : Nat → Nat → Nat
  | 0, i => i
  | n + 1, i => if badB l i = true then i else firstBad l n (i + 1)
/-- The first place at which it does, the length if there is none. -/
def misK (l : List UInt8) : Nat := firstBad l l.length 0
theorem first_spec (l : List UInt8) : ∀ n i, i ≤ firstBad l n i ∧ firstBad l n i ≤ i + n ∧ (∀ j, i ≤ j → j < firstBad l n i → badB l j = false) ∧ (firstBad l n i < i + n → badB l (firstBad l n i) = true)
  | 0, i => ⟨Nat.le_refl _, Nat.le_refl _, (fun j h1 h2 => by simp only [firstBad] at h2; omega), (fun h => by simp only [firstBad] at h; omega)⟩
  | n + 1, i => by
    obtain ⟨h1, h2, h3, h4⟩ := first_spec l n (i + 1)
    unfold firstBad
    by_cases hb : badB l i = true
    · rw [if_pos hb]; exact ⟨Nat.le_refl _, by omega, (fun j h1 h2 => by omega), fun _ => hb⟩
    · rw [if_neg hb]
      refine ⟨by omega, by omega, fun j q1 q2 => ?_, fun q => h4 (by omega)⟩
      by_cases hj : j = i
      · subst hj; simpa using hb
      · exact h3 j (by omega) q2
theorem mis_le (l : List UInt8) : misK l ≤ l.length := by have := (first_spec l l.length 0).2.1; rw [Nat.zero_add] at this; exact this
theorem mis_good (l : List UInt8) (j : Nat) (h : j < misK l) : badB l j = false := (first_spec l l.length 0).2.2.1 j (Nat.zero_le _) h
theorem mis_bad (l : List UInt8) (h : misK l < l.length) : badB l (misK l) = true := (first_spec l l.length 0).2.2.2 (by rw [Nat.zero_add]; exact h)
theorem good_digit {l : List UInt8} {j : Nat} (h : badB l j = false) : 48 ≤ (l.getD j 0).toNat ∧ (l.getD j 0).toNat ≤ 57 ∧ (j = 1 → (l.getD 0 0).toNat ≠ 48) := by
  simp only [badB, Bool.or_eq_false_iff, Bool.and_eq_false_iff, decide_eq_false_iff_not] at h
  obtain ⟨⟨h1, h2⟩, h3⟩ := h
  refine ⟨by omega, by omega, fun q => ?_⟩
  rcases h3 with h3 | h3
  · exact absurd q h3
  · exact h3
theorem bad_digit {l : List UInt8} {j : Nat} (h : badB l j = true) : (l.getD j 0).toNat < 48 ∨ (48 ≤ (l.getD j 0).toNat ∧ 57 < (l.getD j 0).toNat) ∨ (48 ≤ (l.getD j 0).toNat ∧ (l.getD j 0).toNat ≤ 57 ∧ j = 1 ∧ (l.getD 0 0).toNat = 48) := by
  simp only [badB, Bool.or_eq_true, Bool.and_eq_true, decide_eq_true_eq] at h
  omega

/-- The number of a text of digits. -/
def decV (l : List UInt8) : Nat := l.foldl (fun n b => n * 10 + (b.toNat - 48)) 0
theorem decV_nil : decV [] = 0 := rfl
theorem decV_snoc (l : List UInt8) (b : UInt8) : decV (l ++ [b]) = decV l * 10 + (b.toNat - 48) := by simp [decV, List.foldl_append]
theorem take_snoc (l : List UInt8) (k : Nat) (h : k < l.length) : l.take (k + 1) = l.take k ++ [l.getD k 0] := by
  rw [List.take_succ_eq_append_getElem h]; simp [List.getD, h]
theorem decV_take (l : List UInt8) (k : Nat) (h : k < l.length) : decV (l.take (k + 1)) = decV (l.take k) * 10 + ((l.getD k 0).toNat - 48) := by
  rw [take_snoc l k h, decV_snoc]
theorem drop_take (l : List UInt8) (i d : Nat) (h : i + d < l.length) : (l.drop i).take (d + 1) = (l.drop i).take d ++ [l.getD (i + d) 0] := by
  have h1 : d < (l.drop i).length := by rw [List.length_drop]; omega
  rw [take_snoc _ d h1]
  congr 2
  simp [List.getD, List.getElem?_drop]
theorem decV_part (l : List UInt8) (i : Nat) : ∀ d, i + d ≤ l.length → decV (l.take (i + d)) = decV (l.take i) * 10 ^ d + decV ((l.drop i).take d)
  | 0, _ => by simp [decV_nil]
  | d + 1, h => by
    have ih := decV_part l i d (by omega)
    rw [← Nat.add_assoc, decV_take l (i + d) (by omega), ih, drop_take l i d (by omega), decV_snoc, Nat.pow_succ, Nat.add_mul, Nat.mul_assoc, Nat.add_assoc]
def AllD (l : List UInt8) : Prop := ∀ j, j < l.length → 48 ≤ (l.getD j 0).toNat ∧ (l.getD j 0).toNat ≤ 57
theorem all_of_mis {l : List UInt8} (h : misK l = l.length) : AllD l := fun j hj => by
  have := good_digit (mis_good l j (by omega))
  exact ⟨this.1, this.2.1⟩
theorem decV_lt (l : List UInt8) (h : AllD l) : ∀ k, k ≤ l.length → decV (l.take k) < 10 ^ k
  | 0, _ => by simp [decV_nil]
  | k + 1, hk => by
    have ih := decV_lt l h k (by omega)
    have := h k (by omega)
    rw [decV_take l k (by omega), Nat.pow_succ]
    omega
theorem AllD.part {l : List UInt8} (h : AllD l) (i d : Nat) (hd : i + d ≤ l.length) : AllD ((l.drop i).take d) := fun j hj => by
  rw [List.length_take, List.length_drop] at hj
  have e : ((l.drop i).take d).getD j 0 = l.getD (i + j) 0 := by
    simp only [List.getD, List.getElem?_take, List.getElem?_drop]
    rw [if_pos (by omega)]
  rw [e]; exact h _ (by omega)
theorem ten_le (k : Nat) : 10 ^ k ≤ 2 ^ (4 * k) := by
  rw [Nat.pow_mul]; exact Nat.pow_le_pow_left (by decide) k
theorem ten_words (v k : Nat) (h : v < 10 ^ k) (hk : k ≤ 4096) : (wordsOf v).length ≤ 256 := by
  suffices hs : ∀ K, K = 256 → (wordsOf v).length ≤ K from hs _ rfl
  intro K hK
  rw [words_len2, blen_le]
  refine Nat.lt_of_lt_of_le h (Nat.le_trans (ten_le k) ?_)
  exact Nat.pow_le_pow_right (by decide) (by omega)
theorem takeD_words (l : List UInt8) (h : AllD l) (k : Nat) (hk : k ≤ l.length) (hl : l.length ≤ 4096) : (wordsOf (decV (l.take k))).length ≤ 256 := ten_words _ k (decV_lt l h k hk) (by omega)
theorem decV_fits (l : List UInt8) (h : AllD l) (hl : l.length ≤ 4096) : greatB (decV l) = false := by
  have := takeD_words l h l.length (Nat.le_refl _) hl
  rw [List.take_length] at this
  unfold greatB
  simp; omega

/-- What a text is read as: the error, the place, the number. -/
def parE (l : List UInt8) : Int := if 4096 < l.length then 4 else if l = [] then 32 else if misK l < l.length then 32 else 0
def parI (l : List UInt8) : Int := if 4096 < l.length then 0 else if l = [] then 0 else if misK l < l.length then (misK l : Int) else 0
def parN (l : List UInt8) : Nat := if 4096 < l.length then 0 else if l = [] then 0 else if misK l < l.length then 0 else decV l
theorem par_long {l : List UInt8} (h : 4096 < l.length) : parE l = 4 ∧ parI l = 0 ∧ parN l = 0 := by unfold parE parI parN; simp [h]
theorem par_nil : parE [] = 32 ∧ parI [] = 0 ∧ parN [] = 0 := by unfold parE parI parN; simp
theorem par_bad {l : List UInt8} (h : ¬ 4096 < l.length) (hk : misK l < l.length) : parE l = 32 ∧ parI l = (misK l : Int) ∧ parN l = 0 := by
  have hn : l ≠ [] := fun e => by rw [e] at hk; simp at hk
  unfold parE parI parN
  rw [if_neg h, if_neg h, if_neg h, if_neg hn, if_neg hn, if_neg hn, if_pos hk, if_pos hk, if_pos hk]
  exact ⟨rfl, rfl, rfl⟩
theorem par_good {l : List UInt8} (h : ¬ 4096 < l.length) (hn : l ≠ []) (hk : misK l = l.length) : parE l = 0 ∧ parI l = 0 ∧ parN l = decV l := by
  unfold parE parI parN
  rw [if_neg h, if_neg h, if_neg h, if_neg hn, if_neg hn, if_neg hn, if_neg (by omega), if_neg (by omega), if_neg (by omega)]
  exact ⟨rfl, rfl, rfl⟩
theorem parN_len (l : List UInt8) : (wordsOf (parN l)).length ≤ 1024 := by
  unfold parN
  split
  · rw [words_zero]; simp
  · split
    · rw [words_zero]; simp
    · split
      · rw [words_zero]; simp
      · rename_i h1 h2 h3
        have hk : misK l = l.length := by have := mis_le l; omega
        have := takeD_words l (all_of_mis hk) l.length (Nat.le_refl _) (by omega)
        rw [List.take_length] at this; omega
/-- A text's byte, as the walk spells it. -/
theorem str_at (s : ByteArray) (k : Nat) (h : k < s.size) : (s[k]'h) = s.data.toList.getD k 0 := by
  have h2 : k < s.data.toList.length := by rw [Array.length_toList]; exact h
  rw [List.getD_eq_getElem?_getD, List.getElem?_eq_getElem h2]
  rfl
theorem str_len (s : ByteArray) : s.data.toList.length = s.size := by rw [Array.length_toList]; rfl
theorem str_ext (s : ByteArray) (i j : Nat) (_h : i ≤ j) (_hj : j ≤ s.size) : (s.extract i j).data.toList = (s.data.toList.drop i).take (j - i) := by
  rw [ByteArray.data_extract, Array.toList_extract, List.extract_eq_take_drop]
theorem ext_len (s : ByteArray) (i j : Nat) (h : i ≤ j) (hj : j ≤ s.size) : (s.extract i j).size = j - i := by
  rw [← str_len, str_ext s i j h hj, List.length_take, List.length_drop, str_len]; omega
end Go.Proofs.YtkkldnnndlpblaaGreatDoor

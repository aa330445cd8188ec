/- Plain facts on texts of decimal digits: where a text ceases to be a number's, the number, its size. The walks of reading a text: the program's misfit, withDigits and Parse. The walk of Parse. -/
import Derived.Test.YtfmjgagajlhfoaaDoorNTextP
import Derived.Test.YtfmjgagajlhfoaaDoorNBits
import Derived.Test.YtfmjgagajlhfoaaDoorNMul2

namespace Go.Proofs.YtfmjgagajlhfoaaDoor
open Go.RowKit

/-- No number's text goes on with the byte at place i. -/
def badB (l : List UInt8) (i : Nat) : Bool := decide ((l.getD i 0).toNat < 48) || decide (57 < (l.getD i 0).toNat) || (decide (i = 1) && decide ((l.getD 0 0).toNat = 48))
def firstBad (l : List UInt8) : Nat → Nat → Nat
  | 0, i => i
  | n + 1, i => if badB l i = true then i else firstBad l n (i + 1)
/-- The first place at which it does, the length if there is none. -/
def misK (l : List UInt8) : Nat := firstBad l l.length 0
theorem first_spec (l : List UInt8) : ∀ n i, i ≤ firstBad l n i ∧ firstBad l n i ≤ i + n ∧ (∀ j, i ≤ j → j < firstBad l n i → badB l j = false) ∧ (firstBad l n i < i + n → badB l (firstBad l n i) = true)
  | 0, i => ⟨Nat.le_refl _, Nat.le_refl _, (fun j h1 h2 => by simp only [firstBad] at h2; omega), (fun h => by simp only [firstBad] at h; omega)⟩
  | n + 1, i => by
    obtain ⟨h1, h2, h3, h4⟩ := first_spec l n (i + 1)
    unfold firstBad
    by_cases hb : badB l i = true
    · rw [if_pos hb]; exact ⟨Nat.le_refl _, by omega, (fun j h1 h2 => by omega), fun _ => hb⟩
    · rw [if_neg hb]
      refine ⟨by omega, by omega, fun j q1 q2 => ?_, fun q => h4 (by omega)⟩
      by_cases hj : j = i
      · subst hj; simpa using hb
      · exact h3 j (by omega) q2
theorem mis_le (l : List UInt8) : misK l ≤ l.length := by have := (first_spec l l.length 0).2.1; rw [Nat.zero_add] at this; exact this
theorem mis_good (l : List UInt8) (j : Nat) (h : j < misK l) : badB l j = false := (first_spec l l.length 0).2.2.1 j (Nat.zero_le _) h
theorem mis_bad (l : List UInt8) (h : misK l < l.length) : badB l (misK l) = true := (first_spec l l.length 0).2.2.2 (by rw [Nat.zero_add]; exact h)
theorem good_digit {l : List UInt8} {j : Nat} (h : badB l j = false) : 48 ≤ (l.getD j 0).toNat ∧ (l.getD j 0).toNat ≤ 57 ∧ (j = 1 → (l.getD 0 0).toNat ≠ 48) := by
  simp only [badB, Bool.or_eq_false_iff, Bool.and_eq_false_iff, decide_eq_false_iff_not] at h
  obtain ⟨⟨h1, h2⟩, h3⟩ := h
  refine ⟨by omega, by omega, fun q => ?_⟩
  rcases h3 with h3 | h3
  · exact absurd q h3
  · exact h3
theorem bad_digit {l : List UInt8} {j : Nat} (h : badB l j = true) : (l.getD j 0).toNat < 48 ∨ (48 ≤ (l.getD j 0).toNat ∧ 57 < (l.getD j 0).toNat) ∨ (48 ≤ (l.getD j 0).toNat ∧ (l.getD j 0).toNat ≤ 57 ∧ j = 1 ∧ (l.getD 0 0).toNat = 48) := by
  simp only [badB, Bool.or_eq_true, Bool.and_eq_true, decide_eq_true_eq] at h
  omega

/-- The number of a text of digits. -/
def decV (l : List UInt8) : Nat := l.foldl (fun n b => n * 10 + (b.toNat - 48)) 0
theorem decV_nil : decV [] = 0 := rfl
theorem decV_snoc (l : List UInt8) (b : UInt8) : decV (l ++ [b]) = decV l * 10 + (b.toNat - 48) := by simp [decV, List.foldl_append]
theorem take_snoc (l : List UInt8) (k : Nat) (h : k < l.length) : l.take (k + 1) = l.take k ++ [l.getD k 0] := by
  rw [List.take_succ_eq_append_getElem h]; simp [List.getD, h]
theorem decV_take (l : List UInt8) (k : Nat) (h : k < l.length) : decV (l.take (k + 1)) = decV (l.take k) * 10 + ((l.getD k 0).toNat - 48) := by
  rw [take_snoc l k h, decV_snoc]
theorem drop_take (l : List UInt8) (i d : Nat) (h : i + d < l.length) : (l.drop i).take (d + 1) = (l.drop i).take d ++ [l.getD (i + d) 0] := by
  have h1 : d < (l.drop i).length := by rw [List.length_drop]; omega
  rw [take_snoc _ d h1]
  congr 2
  simp [List.getD, List.getElem?_drop]
theorem decV_part (l : List UInt8) (i : Nat) : ∀ d, i + d ≤ l.length → decV (l.take (i + d)) = decV (l.take i) * 10 ^ d + decV ((l.drop i).take d)
  | 0, _ => by simp [decV_nil]
  | d + 1, h => by
    have ih := decV_part l i d (by omega)
    rw [← Nat.add_assoc, decV_take l (i + d) (by omega), ih, drop_take l i d (by omega), decV_snoc, Nat.pow_succ, Nat.add_mul, Nat.mul_assoc, Nat.add_assoc]
def AllD (l : List UInt8) : Prop := ∀ j, j < l.length → 48 ≤ (l.getD j 0).toNat ∧ (l.getD j 0).toNat ≤ 57
theorem all_of_mis {l : List UInt8} (h : misK l = l.length) : AllD l := fun j hj => by
  have := good_digit (mis_good l j (by omega))
  exact ⟨this.1, this.2.1⟩
theorem decV_lt (l : List UInt8) (h : AllD l) : ∀ k, k ≤ l.length → decV (l.take k) < 10 ^ k
  | 0, _ => by simp [decV_nil]
  | k + 1, hk => by
    have ih := decV_lt l h k (by omega)
    have := h k (by omega)
    rw [decV_take l k (by omega), Nat.pow_succ]
    omega
theorem AllD.part {l : List UInt8} (h : AllD l) (i d : Nat) (hd : i + d ≤ l.length) : AllD ((l.drop i).take d) := fun j hj => by
  rw [List.length_take, List.length_drop] at hj
  have e : ((l.drop i).take d).getD j 0 = l.getD (i + j) 0 := by
    simp only [List.getD, List.getElem?_take, List.getElem?_drop]
    rw [if_pos (by omega)]
  rw [e]; exact h _ (by omega)
theorem ten_le (k : Nat) : 10 ^ k ≤ 2 ^ (4 * k) := by
  rw [Nat.pow_mul]; exact Nat.pow_le_pow_left (by decide) k
theorem ten_words (v k : Nat) (h : v < 10 ^ k) (hk : k ≤ 4096) : (wordsOf v).length ≤ 256 := by
  suffices hs : ∀ K, K = 256 → (wordsOf v).length ≤ K from hs _ rfl
  intro K hK
  rw [words_len2, blen_le]
  refine Nat.lt_of_lt_of_le h (Nat.le_trans (ten_le k) ?_)
  exact Nat.pow_le_pow_right (by decide) (by omega)
theorem takeD_words (l : List UInt8) (h : AllD l) (k : Nat) (hk : k ≤ l.length) (hl : l.length ≤ 4096) : (wordsOf (decV (l.take k))).length ≤ 256 := ten_words _ k (decV_lt l h k hk) (by omega)
theorem decV_fits (l : List UInt8) (h : AllD l) (hl : l.length ≤ 4096) : greatB (decV l) = false := by
  have := takeD_words l h l.length (Nat.le_refl _) hl
  rw [List.take_length] at this
  unfold greatB
  simp; omega

/-- What a text is read as: the error, the place, the number. -/
def parE (l : List UInt8) : Int := if 4096 < l.length then 4 else if l = [] then 32 else if misK l < l.length then 32 else 0
def parI (l : List UInt8) : Int := if 4096 < l.length then 0 else if l = [] then 0 else if misK l < l.length then (misK l : Int) else 0
def parN (l : List UInt8) : Nat := if 4096 < l.length then 0 else if l = [] then 0 else if misK l < l.length then 0 else decV l
theorem par_long {l : List UInt8} (h : 4096 < l.length) : parE l = 4 ∧ parI l = 0 ∧ parN l = 0 := by unfold parE parI parN; simp [h]
theorem par_nil : parE [] = 32 ∧ parI [] = 0 ∧ parN [] = 0 := by unfold parE parI parN; simp
theorem par_bad {l : List UInt8} (h : ¬ 4096 < l.length) (hk : misK l < l.length) : parE l = 32 ∧ parI l = (misK l : Int) ∧ parN l = 0 := by
  have hn : l ≠ [] := fun e => by rw [e] at hk; simp at hk
  unfold parE parI parN
  rw [if_neg h, if_neg h, if_neg h, if_neg hn, if_neg hn, if_neg hn, if_pos hk, if_pos hk, if_pos hk]
  exact ⟨rfl, rfl, rfl⟩
theorem par_good {l : List UInt8} (h : ¬ 4096 < l.length) (hn : l ≠ []) (hk : misK l = l.length) : parE l = 0 ∧ parI l = 0 ∧ parN l = decV l := by
  unfold parE parI parN
  rw [if_neg h, if_neg h, if_neg h, if_neg hn, if_neg hn, if_neg hn, if_neg (by omega), if_neg (by omega), if_neg (by omega)]
  exact ⟨rfl, rfl, rfl⟩
theorem parN_len (l : List UInt8) : (wordsOf (parN l)).length ≤ 1024 := by
  unfold parN
  split
  · rw [words_zero]; simp
  · split
    · rw [words_zero]; simp
    · split
      · rw [words_zero]; simp
      · rename_i h1 h2 h3
        have hk : misK l = l.length := by have := mis_le l; omega
        have := takeD_words l (all_of_mis hk) l.length (Nat.le_refl _) (by omega)
        rw [List.take_length] at this; omega
/-- A text's byte, as the walk spells it. -/
theorem str_at (s : ByteArray) (k : Nat) (h : k < s.size) : (s[k]'h) = s.data.toList.getD k 0 := by
  have h2 : k < s.data.toList.length := by rw [Array.length_toList]; exact h
  rw [List.getD_eq_getElem?_getD, List.getElem?_eq_getElem h2]
  rfl
theorem str_len (s : ByteArray) : s.data.toList.length = s.size := by rw [Array.length_toList]; rfl
theorem str_ext (s : ByteArray) (i j : Nat) (_h : i ≤ j) (_hj : j ≤ s.size) : (s.extract i j).data.toList = (s.data.toList.drop i).take (j - i) := by
  rw [ByteArray.data_extract, Array.toList_extract, List.extract_eq_take_drop]
theorem ext_len (s : ByteArray) (i j : Nat) (h : i ≤ j) (hj : j ≤ s.size) : (s.extract i j).size = j - i := by
  rw [← str_len, str_ext s i j h hj, List.length_take, List.length_drop, str_len]; omega
end Go.Proofs.YtfmjgagajlhfoaaDoor

namespace Go.Proofs.YtfmjgagajlhfoaaDoor
open Go.RowKit

/-- What misfit answers. -/
def misV (l : List UInt8) : Int := if l = [] then 0 else if misK l < l.length then (misK l : Int) else -1
theorem misV_nil : misV [] = 0 := by unfold misV; simp
theorem misV_bad {l : List UInt8} (h : misK l < l.length) : misV l = (misK l : Int) := by
  have hn : l ≠ [] := fun e => by rw [e] at h; simp at h
  unfold misV; rw [if_neg hn, if_pos h]
theorem misV_good {l : List UInt8} (hn : l ≠ []) (h : misK l = l.length) : misV l = -1 := by
  unfold misV; rw [if_neg hn, if_neg (by omega)]
theorem str_empty (s : ByteArray) : s.toList.isEmpty = decide (s.data.toList = []) := by
  rw [ByteArray.toList_eq]; cases s.data.toList <;> simp

set_option maxRecDepth 100000 in
set_option maxHeartbeats 1000000 in
theorem misfit_calls (s : ByteArray) (w : World) (hm : s.size ≤ 4096) :
    Calls Tryd.prog 28 #[.string s] w fun e w' => e = .returned (.int .i64 (misV s.data.toList)) ∧ w' = w := by
  by_cases he : s.data.toList = []
  · have h0 : s.toList.isEmpty = true := by rw [str_empty]; simp [he]
    have HV : Hid (misV s.data.toList = 0) := by rw [Hid, he]; exact misV_nil
    clear he
    go_enter Tryd.func28, Tryd.ntmps28
    go_wp2_with fail
    go_ret
    exact ⟨nret_int HV.out.symm, rfl⟩
  · have h0 : s.toList.isEmpty = false := by rw [str_empty]; simp [he]
    obtain ⟨K, hK⟩ : ∃ K, K = misK s.data.toList := ⟨_, rfl⟩
    have hKn : K ≤ s.size := by rw [hK, ← str_len]; exact mis_le _
    have HK : Hid (K = misK s.data.toList) := hK
    have HE : Hid (s.data.toList ≠ []) := he
    have HL : Hid (s.data.toList.length = s.size) := str_len s
    clear hK he
    go_enter Tryd.func28, Tryd.ntmps28
    go_wp2_with fail
    go_loop [8] (fun vi => ∃ k : Nat, k ≤ K ∧ vi = .int .i64 k) (fun vi => K - (intOf vi).toNat)
    case atStart => exact ⟨0, Nat.zero_le _, rfl⟩
    case round =>
      obtain ⟨k, hk, rfl⟩ := hrel
      by_cases hlt : k < s.size
      · have hs0 : 0 < s.size := by omega
        obtain ⟨x, hx⟩ : ∃ x : Nat, x = (s.data.toList.getD k 0).toNat := ⟨_, rfl⟩
        obtain ⟨y, hy⟩ : ∃ y : Nat, y = (s.data.toList.getD 0 0).toNat := ⟨_, rfl⟩
        have hxs : (s[k]'hlt).toNat = x := by rw [str_at, hx]
        have hys : (s[0]'hs0).toNat = y := by rw [str_at, hy]
        by_cases hkK : k < K
        · have hg := good_digit (mis_good s.data.toList k (by rw [← HK.out]; exact hkK))
          rw [← hx, ← hy] at hg
          obtain ⟨g1, g2, g3⟩ := hg
          clear hx hy
          by_cases h1 : k = 1
          · have g4 := g3 h1
            have g5 : ((y : Int) == 48) = false := by simp; omega
            subst h1
            clear g3
            go_wp2_with fail
            go_round
            case rel => exact ⟨1 + 1, by omega, by go_num⟩
            case measure => simp [intOf]; omega
          · have g5 : ((k : Int) == 1) = false := by simp; omega
            clear g3 hys
            go_wp2_with fail
            go_round
            case rel => exact ⟨k + 1, by omega, by go_num⟩
            case measure => simp [intOf]; omega
        · have hkk : k = K := by omega
          have hb := bad_digit (mis_bad s.data.toList (by rw [← HK.out, HL.out]; omega))
          rw [← HK.out, ← hkk, ← hx, ← hy] at hb
          have HV : Hid (misV s.data.toList = (k : Int)) := by rw [Hid, hkk, HK.out]; exact misV_bad (by rw [← HK.out, HL.out]; omega)
          clear hx hy hkk hkK hk
          rcases hb with hb | ⟨b1, b2⟩ | ⟨b1, b2, b3, b4⟩
          · clear hys
            go_wp2_with fail
            go_ret
            exact ⟨nret_int HV.out.symm, rfl⟩
          · clear hys
            go_wp2_with fail
            go_ret
            exact ⟨nret_int HV.out.symm, rfl⟩
          · subst b3 b4
            go_wp2_with fail
            go_ret
            exact ⟨nret_int HV.out.symm, rfl⟩
      · have HV : Hid (misV s.data.toList = -1) := misV_good HE.out (by rw [← HK.out, HL.out]; omega)
        go_wp2_with fail
        go_ret
        exact ⟨nret_int HV.out.symm, rfl⟩

theorem ten19 (k : Nat) (h : k ≤ 19) : 10 ^ k ≤ 10000000000000000000 := by
  have := Nat.pow_le_pow_right (show 0 < 10 by decide) h
  have e : (10 : Nat) ^ 19 = 10000000000000000000 := by decide
  omega
theorem take_all8 (l : List UInt8) (k : Nat) (h : l.length = k) : l.take k = l := by rw [← h, List.take_length]

set_option maxRecDepth 100000 in
set_option maxHeartbeats 2000000 in
theorem withDigits_calls (a : Option Addr) (n v : Nat) (s : ByteArray) (w : World) (h : IsW w a n n (wordsOf v)) (hn : n ≤ 300) (hs : s.size ≤ 19) (hd : AllD s.data.toList) :
    Calls Tryd.prog 29 #[.slice a n n, .string s] w fun e w' => ∃ (ao : Option Addr) (m : Nat), e = .returned (.slice ao m m) ∧ m = (wordsOf (v * 10 ^ s.size + decV s.data.toList)).length ∧ OwnW w.heap.size w' ao m m (wordsOf (v * 10 ^ s.size + decV s.data.toList)) ∧ Below w.heap.size w w' := by
  have HL : Hid (s.data.toList.length = s.size) := str_len s
  have HD : Hid (AllD s.data.toList) := hd
  clear hd
  go_enter Tryd.func29, Tryd.ntmps29
  go_wp2_with fail
  go_loop [5, 6, 10] (fun vp vv vi => ∃ (k p v : Nat), k ≤ s.size ∧ vi = .int .i64 k ∧ vp = .int .u64 p ∧ vv = .int .u64 v ∧ p ≤ 10000000000000000000 ∧ v < p ∧ Hid (p = 10 ^ k) ∧ Hid (v = decV (s.data.toList.take k))) (fun _ _ vi => s.size - (intOf vi).toNat)
  case atStart => exact ⟨0, 1, 0, Nat.zero_le _, rfl, rfl, rfl, by decide, by decide, rfl, rfl⟩
  case round =>
    obtain ⟨k, p, v2, hk, rfl, rfl, rfl, hp, hvp, HP, HV⟩ := hrel
    by_cases hlt : k < s.size
    · obtain ⟨x, hx⟩ : ∃ x : Nat, x = (s.data.toList.getD k 0).toNat := ⟨_, rfl⟩
      have hxs : (s[k]'hlt).toNat = x := by rw [str_at, hx]
      have hg := HD.out k (by rw [HL.out]; exact hlt)
      have HV2 : Hid (v2 * 10 + (x - 48) = decV (s.data.toList.take (k + 1))) := by rw [Hid, decV_take _ k (by rw [HL.out]; exact hlt), ← HV.out, hx]
      rw [← hx] at hg
      have HP2 : Hid (p * 10 = 10 ^ (k + 1)) := by rw [Hid, Nat.pow_succ, HP.out]
      have hp2 : p * 10 ≤ 10000000000000000000 := by rw [HP2.out]; exact ten19 _ (by omega)
      obtain ⟨d, hdd⟩ : ∃ d, d = x - 48 := ⟨_, rfl⟩
      obtain ⟨p2, hp3⟩ : ∃ p2, p2 = p * 10 := ⟨_, rfl⟩
      obtain ⟨v3, hv3⟩ : ∃ v3, v3 = v2 * 10 := ⟨_, rfl⟩
      have r1 : IntKind.u64.wrap ((p : Int) * 10) = (p2 : Int) := by rw [IntKind.wrap_u64]; omega
      have r2 : IntKind.u64.wrap ((v2 : Int) * 10) = (v3 : Int) := by rw [IntKind.wrap_u64]; omega
      have r3 : IntKind.u8.wrap ((x : Int) - 48) = (d : Int) := by rw [IntKind.wrap_u8]; omega
      have hd9 : d ≤ 9 := by omega
      have r4 : IntKind.u64.wrap (d : Int) = (d : Int) := by rw [IntKind.wrap_u64]; omega
      have r5 : IntKind.u64.wrap ((v3 : Int) + (d : Int)) = ((v3 + d : Nat) : Int) := by rw [IntKind.wrap_u64]; omega
      have HPP : Hid (p2 = p * 10 ∧ v3 = v2 * 10 ∧ d = x - 48 ∧ v3 + d < p2) := ⟨hp3, hv3, hdd, by omega⟩
      have hpb : p2 ≤ 10000000000000000000 := by omega
      clear hx hg hdd hp3 hv3 hp2
      go_wp2_with fail
      go_round
      case rel =>
        obtain ⟨q1, q2, q3, q4⟩ := HPP.out
        exact ⟨k + 1, p2, v3 + d, by omega, by go_num, rfl, by go_num, hpb, q4, by rw [Hid, q1]; exact HP2.out, by rw [Hid, q2, q3]; exact HV2.out⟩
      case measure => simp [intOf]; omega
    · have hke : k = s.size := by omega
      have HPE : Hid (p = 10 ^ s.size ∧ v2 = decV s.data.toList) := by
        rw [Hid, ← hke]
        exact ⟨HP.out, by rw [HV.out, take_all8 _ _ (by rw [HL.out, hke])]⟩
      clear HP HV hke
      go_wp2_with fail
      refine Calls.mono (word_calls (p : Int) w (by omega) (by omega)) ?_
      rintro e w1 ⟨a1, n1, rfl, hn1, hO1, hb1⟩
      rw [Int.toNat_natCast] at hn1 hO1
      have hn1b : n1 ≤ 1 := by rw [hn1]; exact (words_len 1 p).2 (by simp; omega)
      have h1 := h.keep hb1
      clear h hn1
      go_wp2_with fail
      refine Calls.mono (times_calls a a1 n n1 _ _ w1 h1 hO1.1 (by omega) (by omega)) ?_
      rintro e w2 ⟨a2, k2, M, rfl, hO2, hv2, hk2, hb2⟩
      rw [val_words, val_words] at hv2
      have HV2 : Hid (val M = v * p) := hv2
      have hb12 := nbelow_trans hb1 hb2
      clear hv2 hO1 h1 hb1 hb2
      go_wp2_with fail
      refine Calls.mono (trimW_pack _ a2 k2 k2 M w2 hO2 (by omega)) ?_
      rintro e w2 ⟨a3, k3, rfl, hk3, hO3, rfl⟩
      have hk3b : k3 ≤ 400 := by
        have := words_le M hO2.1.2.1
        have := hO2.1.1
        omega
      rw [HV2.out] at hO3
      clear hO2 hk3 HV2
      go_wp2_with fail
      refine Calls.mono (word_calls (v2 : Int) w2 (by omega) (by omega)) ?_
      rintro e w4 ⟨a4, n4, rfl, hn4, hO4, hb4⟩
      rw [Int.toNat_natCast] at hn4 hO4
      have hn4b : n4 ≤ 1 := by rw [hn4]; exact (words_len 1 v2).2 (by simp; omega)
      have hI3 := hO3.1.keep hb4
      have hb14 := nbelow_trans hb12 hb4
      clear hn4 hO3 hb12
      go_wp2_with fail
      refine Calls.mono (plus_calls a3 a4 k3 n4 _ _ w4 hI3 hO4.1 (by omega) (by omega)) ?_
      rintro e w5 ⟨a5, k5, M5, rfl, hO5, hv5, hk5, hb5⟩
      rw [val_words, val_words] at hv5
      have HV5 : Hid (val M5 = v * 10 ^ s.size + decV s.data.toList) := by rw [Hid, hv5, HPE.out.1, ← HPE.out.2, ← HPE.out.1]
      have hb15 := nbelow_trans hb14 hb5
      have hk5b : k5 ≤ 500 := by omega
      have hlow : w.heap.size ≤ w4.heap.size := hb14.size
      clear hv5 hO4 hI3 hk5 hb14 hb5
      go_wp2_with fail
      refine Calls.mono (trimW_pack _ a5 k5 k5 M5 w5 hO5 (by omega)) ?_
      rintro e w5 ⟨a6, k6, rfl, hk6, hO6, rfl⟩
      rw [HV5.out] at hO6 hk6
      have HK6 : Hid _ := hk6
      clear hO5 hk6
      go_wp2_with fail
      go_ret
      exact ⟨a6, k6, rfl, HK6.out, hO6.low hlow, hb15⟩
end Go.Proofs.YtfmjgagajlhfoaaDoor

namespace Go.Proofs.YtfmjgagajlhfoaaDoor
open Go.RowKit

theorem NatAt.of_words {B : Nat} {w : World} {a : Option Addr} {n c r : Nat} (hn : n = (wordsOf r).length) (h : OwnW B w a n c (wordsOf r)) : NatAt B w (.slice a n c) r := ⟨a, n, c, rfl, hn, h⟩
theorem mis_case (l : List UInt8) : misK l < l.length ∨ misK l = l.length := by have := mis_le l; omega
theorem take_past (l : List UInt8) (k : Nat) (h : l.length ≤ k) : l.take k = l := List.take_of_length_le h
theorem part_value (s : ByteArray) (k d : Nat) (h : k + d ≤ s.size) : decV (s.data.toList.take k) * 10 ^ (s.extract k (k + d)).size + decV (s.extract k (k + d)).data.toList = decV (s.data.toList.take (k + d)) := by
  rw [ext_len s k (k + d) (by omega) h, str_ext s k (k + d) (by omega) h, show k + d - k = d by omega, ← decV_part _ k d (by rw [str_len]; exact h)]
theorem part_digits (s : ByteArray) (k d : Nat) (h : k + d ≤ s.size) (hd : AllD s.data.toList) : AllD (s.extract k (k + d)).data.toList := by
  rw [str_ext s k (k + d) (by omega) h, show k + d - k = d by omega]
  exact hd.part k d (by rw [str_len]; exact h)

set_option maxRecDepth 100000 in
set_option maxHeartbeats 2000000 in
theorem parse_calls (s : ByteArray) (w : World) :
    Calls Tryd.prog 6 #[.string s] w fun e w' => ∃ v, e = .returned (.tuple #[v, .int .i64 (parE s.data.toList), .int .i64 (parI s.data.toList)]) ∧ NatAt w.heap.size w' v (parN s.data.toList) ∧ Below w.heap.size w w' := by
  have HL : Hid (s.data.toList.length = s.size) := str_len s
  by_cases hlong : 4096 < s.size
  · have HP : Hid _ := par_long (l := s.data.toList) (by rw [HL.out]; exact hlong)
    go_enter Tryd.func6, Tryd.ntmps6
    go_wp2_with fail
    go_ret3
    rw [HP.out.1, HP.out.2.1, HP.out.2.2]
    exact ⟨_, rfl, natAt_nil _ _, Below.refl _ _⟩
  · have MC : Hid _ := misfit_calls s w (by omega)
    by_cases he : s.data.toList = []
    · have HP : Hid _ := par_nil
      rw [he, misV_nil] at MC
      have HE : Hid (s.data.toList = []) := he
      clear he
      go_enter Tryd.func6, Tryd.ntmps6
      go_wp2_with fail
      refine Calls.mono MC.out ?_
      rintro e w ⟨rfl, rfl⟩
      go_wp2_with fail
      go_ret3
      rw [HE.out, HP.out.1, HP.out.2.1, HP.out.2.2]
      exact ⟨_, rfl, natAt_nil _ _, Below.refl _ _⟩
    · rcases mis_case s.data.toList with hk | hk
      · have HP : Hid _ := par_bad (l := s.data.toList) (by rw [HL.out]; exact hlong) hk
        rw [misV_bad hk] at MC
        obtain ⟨K, hK⟩ : ∃ K, K = misK s.data.toList := ⟨_, rfl⟩
        rw [← hK] at MC HP
        clear hK hk he
        go_enter Tryd.func6, Tryd.ntmps6
        go_wp2_with fail
        refine Calls.mono MC.out ?_
        rintro e w ⟨rfl, rfl⟩
        go_wp2_with fail
        go_ret3
        rw [HP.out.1, HP.out.2.1, HP.out.2.2]
        exact ⟨_, rfl, natAt_nil _ _, Below.refl _ _⟩
      · have HP : Hid _ := par_good (l := s.data.toList) (by rw [HL.out]; exact hlong) he hk
        have HD : Hid (AllD s.data.toList) := all_of_mis hk
        rw [misV_good he hk] at MC
        clear hk he
        go_enter Tryd.func6, Tryd.ntmps6
        go_wp2_with fail
        refine Calls.mono MC.out ?_
        rintro e w ⟨rfl, rfl⟩
        clear MC
        go_wp2_with fail
        go_loopw [6, 7] (fun vx vi wr => ∃ (k n : Nat) (ao : Option Addr), k ≤ s.size + 18 ∧ vi = .int .i64 k ∧ vx = .slice ao n n ∧ Hid (n = (wordsOf (decV (s.data.toList.take k))).length) ∧ OwnW w.heap.size wr ao n n (wordsOf (decV (s.data.toList.take k))) ∧ Below w.heap.size w wr) (fun _ vi _ => s.size + 18 - (intOf vi).toNat)
        case atStart => exact ⟨0, 0, none, by omega, rfl, rfl, by rw [Hid, List.take_zero, decV_nil, words_zero]; rfl, by rw [List.take_zero, decV_nil, words_zero]; exact ownW_nil _ _, Below.refl _ _⟩
        case round =>
          obtain ⟨k, n, ao, hk, rfl, rfl, HN, hO, hbr⟩ := hrel
          by_cases hlt : k < s.size
          · have hn : n ≤ 256 := by rw [HN.out]; exact takeD_words _ HD.out k (by rw [HL.out]; omega) (by rw [HL.out]; omega)
            obtain ⟨E, hE⟩ : ∃ E, E = min (k + 19) s.size := ⟨_, rfl⟩
            obtain ⟨d, hd⟩ : ∃ d, E = k + d := ⟨E - k, by omega⟩
            have hES : k + d ≤ s.size := by omega
            have hd19 : d ≤ 19 := by omega
            have hmin : min ((k : Int) + 19) (s.size : Int) = (E : Int) := by omega
            have WC : Hid _ := withDigits_calls ao n _ (s.extract k (k + d)) wr hO.1 (by omega) (by rw [ext_len s k (k + d) (by omega) hES]; omega) (part_digits s k d hES HD.out)
            rw [part_value s k d hES, ← hd] at WC
            have HT : Hid (s.data.toList.take (k + 19) = s.data.toList.take E) := by
              rw [Hid]
              by_cases h19 : k + 19 ≤ s.size
              · rw [show E = k + 19 by omega]
              · rw [take_past _ _ (by rw [HL.out]; omega), take_past _ _ (by rw [HL.out]; omega)]
            have hEs : E ≤ s.size := by omega
            have hkE : k ≤ E := by omega
            have hsz := hbr.size
            clear hE hd hES hd19
            go_wp2_with fail
            refine Calls.mono WC.out ?_
            rintro e w2 ⟨a2, m2, rfl, hm2, hO2, hb2⟩
            have HM2 : Hid _ := hm2
            clear hm2 WC hO hmin
            go_wp2_with fail
            refine ⟨⟨k + 19, m2, a2, by omega, by go_num, rfl, by rw [HT.out]; exact HM2, by rw [HT.out]; exact hO2.low hsz, nbelow_trans hbr hb2⟩, by simp [intOf]; omega⟩
          · have e1 : s.data.toList.take k = s.data.toList := take_past _ _ (by rw [HL.out]; omega)
            rw [e1] at HN hO
            have hn : n ≤ 256 := by
              have := takeD_words _ HD.out s.size (by rw [HL.out]; omega) (by rw [HL.out]; omega)
              rw [take_past _ _ (by rw [HL.out]; omega)] at this
              rw [HN.out]; exact this
            have HF : Hid (fitR (decV s.data.toList) = (decV s.data.toList, 0)) := fitR_no (decV_fits _ HD.out (by rw [HL.out]; omega))
            have AC : Hid _ := answer_calls _ ao n n _ wr hO (by omega)
            rw [val_words, HF.out] at AC
            clear e1
            go_wp2_with fail
            refine Calls.mono AC.out ?_
            rintro e w3 ⟨v3, rfl, hA3, hb3⟩
            clear AC
            go_wp2_with fail
            go_ret3
            rw [HP.out.1, HP.out.2.1, HP.out.2.2]
            exact ⟨v3, rfl, hA3, nbelow_trans hbr hb3⟩
end Go.Proofs.YtfmjgagajlhfoaaDoor

/- The walks of reading a text: the program's misfit, withDigits and Parse. -/
import Derived.Test.YtfmjgagajlhfoaaDoorNTx0
import Derived.Test.YtfmjgagajlhfoaaDoorNMul2
namespace Go.Proofs.YtfmjgagajlhfoaaDoor
open Go.RowKit

/-- What misfit answers. -/
def misV (l : List UInt8) : Int := if l = [] then 0 else if misK l < l.length then (misK l : Int) else -1
theorem misV_nil : misV [] = 0 := by unfold misV; simp
theorem misV_bad {l : List UInt8} (h : misK l < l.length) : misV l = (misK l : Int) := by
  have hn : l ≠ [] := fun e => by rw [e] at h; simp at h
  unfold misV; rw [if_neg hn, if_pos h]
theorem misV_good {l : List UInt8} (hn : l ≠ []) (h : misK l = l.length) : misV l = -1 := by
  unfold misV; rw [if_neg hn, if_neg (by omega)]
theorem str_empty (s : ByteArray) : s.toList.isEmpty = decide (s.data.toList = []) := by
  rw [ByteArray.toList_eq]; cases s.data.toList <;> simp

set_option maxRecDepth 100000 in
set_option maxHeartbeats 1000000 in
theorem misfit_calls (s : ByteArray) (w : World) (hm : s.size ≤ 4096) :
    Calls Tryd.prog 28 #[.string s] w fun e w' => e = .returned (.int .i64 (misV s.data.toList)) ∧ w' = w := by
  by_cases he : s.data.toList = []
  · have h0 : s.toList.isEmpty = true := by rw [str_empty]; simp [he]
    have HV : Hid (misV s.data.toList = 0) := by rw [Hid, he]; exact misV_nil
    clear he
    go_enter Tryd.func28, Tryd.ntmps28
    go_wp2_with fail
    go_ret
    exact ⟨nret_int HV.out.symm, rfl⟩
  · have h0 : s.toList.isEmpty = false := by rw [str_empty]; simp [he]
    obtain ⟨K, hK⟩ : ∃ K, K = misK s.data.toList := ⟨_, rfl⟩
    have hKn : K ≤ s.size := by rw [hK, ← str_len]; exact mis_le _
    have HK : Hid (K = misK s.data.toList) := hK
    have HE : Hid (s.data.toList ≠ []) := he
    have HL : Hid (s.data.toList.length = s.size) := str_len s
    clear hK he
    go_enter Tryd.func28, Tryd.ntmps28
    go_wp2_with fail
    go_loop [8] (fun vi => ∃ k : Nat, k ≤ K ∧ vi = .int .i64 k) (fun vi => K - (intOf vi).toNat)
    case atStart => exact ⟨0, Nat.zero_le _, rfl⟩
    case round =>
      obtain ⟨k, hk, rfl⟩ := hrel
      by_cases hlt : k < s.size
      · have hs0 : 0 < s.size := by omega
        obtain ⟨x, hx⟩ : ∃ x : Nat, x = (s.data.toList.getD k 0).toNat := ⟨_, rfl⟩
        obtain ⟨y, hy⟩ : ∃ y : Nat, y = (s.data.toList.getD 0 0).toNat := ⟨_, rfl⟩
        have hxs : (s[k]'hlt).toNat = x := by rw [str_at, hx]
        have hys : (s[0]'hs0).toNat = y := by rw [str_at, hy]
        by_cases hkK : k < K
        · have hg := good_digit (mis_good s.data.toList k (by rw [← HK.out]; exact hkK))
          rw [← hx, ← hy] at hg
          obtain ⟨g1, g2, g3⟩ := hg
          clear hx hy
          by_cases h1 : k = 1
          · have g4 := g3 h1
            have g5 : ((y : Int) == 48) = false := by simp; omega
            subst h1
            clear g3
            go_wp2_with fail
            go_round
            case rel => exact ⟨1 + 1, by omega, by go_num⟩
            case measure => simp [intOf]; omega
          · have g5 : ((k : Int) == 1) = false := by simp; omega
            clear g3 hys
            go_wp2_with fail
            go_round
            case rel => exact ⟨k + 1, by omega, by go_num⟩
            case measure => simp [intOf]; omega
        · have hkk : k = K := by omega
          have hb := bad_digit (mis_bad s.data.toList (by rw [← HK.out, HL.out]; omega))
          rw [← HK.out, ← hkk, ← hx, ← hy] at hb
          have HV : Hid (misV s.data.toList = (k : Int)) := by rw [Hid, hkk, HK.out]; exact misV_bad (by rw [← HK.out, HL.out]; omega)
          clear hx hy hkk hkK hk
          rcases hb with hb | ⟨b1, b2⟩ | ⟨b1, b2, b3, b4⟩
          · clear hys
            go_wp2_with fail
            go_ret
            exact ⟨nret_int HV.out.symm, rfl⟩
          · clear hys
            go_wp2_with fail
            go_ret
            exact ⟨nret_int HV.out.symm, rfl⟩
          · subst b3 b4
            go_wp2_with fail
            go_ret
            exact ⟨nret_int HV.out.symm, rfl⟩
      · have HV : Hid (misV s.data.toList = -1) := misV_good HE.out (by rw [← HK.out, HL.out]; omega)
        go_wp2_with fail
        go_ret
        exact ⟨nret_int HV.out.symm, rfl⟩

theorem ten19 (k : Nat) (h : k ≤ 19) : 10 ^ k ≤ 10000000000000000000 := by
  have := Nat.pow_le_pow_right (show 0 < 10 by decide) h
  have e : (10 : Nat) ^ 19 = 10000000000000000000 := by decide
  omega
theorem take_all8 (l : List UInt8) (k : Nat) (h : l.length = k) : l.take k = l := by rw [← h, List.take_length]

set_option maxRecDepth 100000 in
set_option maxHeartbeats 2000000 in
theorem withDigits_calls (a : Option Addr) (n v : Nat) (s : ByteArray) (w : World) (h : IsW w a n n (wordsOf v)) (hn : n ≤ 300) (hs : s.size ≤ 19) (hd : AllD s.data.toList) :
    Calls Tryd.prog 29 #[.slice a n n, .string s] w fun e w' => ∃ (ao : Option Addr) (m : Nat), e = .returned (.slice ao m m) ∧ m = (wordsOf (v * 10 ^ s.size + decV s.data.toList)).length ∧ OwnW w.heap.size w' ao m m (wordsOf (v * 10 ^ s.size + decV s.data.toList)) ∧ Below w.heap.size w w' := by
  have HL : Hid (s.data.toList.length = s.size) := str_len s
  have HD : Hid (AllD s.data.toList) := hd
  clear hd
  go_enter Tryd.func29, Tryd.ntmps29
  go_wp2_with fail
  go_loop [5, 6, 10] (fun vp vv vi => ∃ (k p v : Nat), k ≤ s.size ∧ vi = .int .i64 k ∧ vp = .int .u64 p ∧ vv = .int .u64 v ∧ p ≤ 10000000000000000000 ∧ v < p ∧ Hid (p = 10 ^ k) ∧ Hid (v = decV (s.data.toList.take k))) (fun _ _ vi => s.size - (intOf vi).toNat)
  case atStart => exact ⟨0, 1, 0, Nat.zero_le _, rfl, rfl, rfl, by decide, by decide, rfl, rfl⟩
  case round =>
    obtain ⟨k, p, v2, hk, rfl, rfl, rfl, hp, hvp, HP, HV⟩ := hrel
    by_cases hlt : k < s.size
    · obtain ⟨x, hx⟩ : ∃ x : Nat, x = (s.data.toList.getD k 0).toNat := ⟨_, rfl⟩
      have hxs : (s[k]'hlt).toNat = x := by rw [str_at, hx]
      have hg := HD.out k (by rw [HL.out]; exact hlt)
      have HV2 : Hid (v2 * 10 + (x - 48) = decV (s.data.toList.take (k + 1))) := by rw [Hid, decV_take _ k (by rw [HL.out]; exact hlt), ← HV.out, hx]
      rw [← hx] at hg
      have HP2 : Hid (p * 10 = 10 ^ (k + 1)) := by rw [Hid, Nat.pow_succ, HP.out]
      have hp2 : p * 10 ≤ 10000000000000000000 := by rw [HP2.out]; exact ten19 _ (by omega)
      obtain ⟨d, hdd⟩ : ∃ d, d = x - 48 := ⟨_, rfl⟩
      obtain ⟨p2, hp3⟩ : ∃ p2, p2 = p * 10 := ⟨_, rfl⟩
      obtain ⟨v3, hv3⟩ : ∃ v3, v3 = v2 * 10 := ⟨_, rfl⟩
      have r1 : IntKind.u64.wrap ((p : Int) * 10) = (p2 : Int) := by rw [IntKind.wrap_u64]; omega
      have r2 : IntKind.u64.wrap ((v2 : Int) * 10) = (v3 : Int) := by rw [IntKind.wrap_u64]; omega
      have r3 : IntKind.u8.wrap ((x : Int) - 48) = (d : Int) := by rw [IntKind.wrap_u8]; omega
      have hd9 : d ≤ 9 := by omega
      have r4 : IntKind.u64.wrap (d : Int) = (d : Int) := by rw [IntKind.wrap_u64]; omega
      have r5 : IntKind.u64.wrap ((v3 : Int) + (d : Int)) = ((v3 + d : Nat) : Int) := by rw [IntKind.wrap_u64]; omega
      have HPP : Hid (p2 = p * 10 ∧ v3 = v2 * 10 ∧ d = x - 48 ∧ v3 + d < p2) := ⟨hp3, hv3, hdd, by omega⟩
      have hpb : p2 ≤ 10000000000000000000 := by omega
      clear hx hg hdd hp3 hv3 hp2
      go_wp2_with fail
      go_round
      case rel =>
        obtain ⟨q1, q2, q3, q4⟩ := HPP.out
        exact ⟨k + 1, p2, v3 + d, by omega, by go_num, rfl, by go_num, hpb, q4, by rw [Hid, q1]; exact HP2.out, by rw [Hid, q2, q3]; exact HV2.out⟩
      case measure => simp [intOf]; omega
    · have hke : k = s.size := by omega
      have HPE : Hid (p = 10 ^ s.size ∧ v2 = decV s.data.toList) := by
        rw [Hid, ← hke]
        exact ⟨HP.out, by rw [HV.out, take_all8 _ _ (by rw [HL.out, hke])]⟩
      clear HP HV hke
      go_wp2_with fail
      refine Calls.mono (word_calls (p : Int) w (by omega) (by omega)) ?_
      rintro e w1 ⟨a1, n1, rfl, hn1, hO1, hb1⟩
      rw [Int.toNat_natCast] at hn1 hO1
      have hn1b : n1 ≤ 1 := by rw [hn1]; exact (words_len 1 p).2 (by simp; omega)
      have h1 := h.keep hb1
      clear h hn1
      go_wp2_with fail
      refine Calls.mono (times_calls a a1 n n1 _ _ w1 h1 hO1.1 (by omega) (by omega)) ?_
      rintro e w2 ⟨a2, k2, M, rfl, hO2, hv2, hk2, hb2⟩
      rw [val_words, val_words] at hv2
      have HV2 : Hid (val M = v * p) := hv2
      have hb12 := nbelow_trans hb1 hb2
      clear hv2 hO1 h1 hb1 hb2
      go_wp2_with fail
      refine Calls.mono (trimW_pack _ a2 k2 k2 M w2 hO2 (by omega)) ?_
      rintro e w2 ⟨a3, k3, rfl, hk3, hO3, rfl⟩
      have hk3b : k3 ≤ 400 := by
        have := words_le M hO2.1.2.1
        have := hO2.1.1
        omega
      rw [HV2.out] at hO3
      clear hO2 hk3 HV2
      go_wp2_with fail
      refine Calls.mono (word_calls (v2 : Int) w2 (by omega) (by omega)) ?_
      rintro e w4 ⟨a4, n4, rfl, hn4, hO4, hb4⟩
      rw [Int.toNat_natCast] at hn4 hO4
      have hn4b : n4 ≤ 1 := by rw [hn4]; exact (words_len 1 v2).2 (by simp; omega)
      have hI3 := hO3.1.keep hb4
      have hb14 := nbelow_trans hb12 hb4
      clear hn4 hO3 hb12
      go_wp2_with fail
      refine Calls.mono (plus_calls a3 a4 k3 n4 _ _ w4 hI3 hO4.1 (by omega) (by omega)) ?_
      rintro e w5 ⟨a5, k5, M5, rfl, hO5, hv5, hk5, hb5⟩
      rw [val_words, val_words] at hv5
      have HV5 : Hid (val M5 = v * 10 ^ s.size + decV s.data.toList) := by rw [Hid, hv5, HPE.out.1, ← HPE.out.2, ← HPE.out.1]
      have hb15 := nbelow_trans hb14 hb5
      have hk5b : k5 ≤ 500 := by omega
      have hlow : w.heap.size ≤ w4.heap.size := hb14.size
      clear hv5 hO4 hI3 hk5 hb14 hb5
      go_wp2_with fail
      refine Calls.mono (trimW_pack _ a5 k5 k5 M5 w5 hO5 (by omega)) ?_
      rintro e w5 ⟨a6, k6, rfl, hk6, hO6, rfl⟩
      rw [HV5.out] at hO6 hk6
      have HK6 : Hid _ := hk6
      clear hO5 hk6
      go_wp2_with fail
      go_ret
      exact ⟨a6, k6, rfl, HK6.out, hO6.low hlow, hb15⟩
end Go.Proofs.YtfmjgagajlhfoaaDoor

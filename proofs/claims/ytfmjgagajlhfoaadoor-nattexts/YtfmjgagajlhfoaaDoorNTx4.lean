/- The walk of Parse. -/
import Derived.Test.YtfmjgagajlhfoaaDoorNTx1
namespace Go.Proofs.YtfmjgagajlhfoaaDoor
open Go.RowKit

theorem NatAt.of_words {B : Nat} {w : World} {a : Option Addr} {n c r : Nat} (hn : n = (wordsOf r).length) (h : OwnW B w a n c (wordsOf r)) : NatAt B w (.slice a n c) r := ⟨a, n, c, rfl, hn, h⟩
theorem mis_case (l : List UInt8) : misK l < l.length ∨ misK l = l.length := by have := mis_le l; omega
theorem take_past (l : List UInt8) (k : Nat) (h : l.length ≤ k) : l.take k = l := List.take_of_length_le h
theorem part_value (s : ByteArray) (k d : Nat) (h : k + d ≤ s.size) : decV (s.data.toList.take k) * 10 ^ (s.extract k (k + d)).size + decV (s.extract k (k + d)).data.toList = decV (s.data.toList.take (k + d)) := by
  rw [ext_len s k (k + d) (by omega) h, str_ext s k (k + d) (by omega) h, show k + d - k = d by omega, ← decV_part _ k d (by rw [str_len]; exact h)]
theorem part_digits (s : ByteArray) (k d : Nat) (h : k + d ≤ s.size) (hd : AllD s.data.toList) : AllD (s.extract k (k + d)).data.toList := by
  rw [str_ext s k (k + d) (by omega) h, show k + d - k = d by omega]
  exact hd.part k d (by rw [str_len]; exact h)

set_option maxRecDepth 100000 in
set_option maxHeartbeats 2000000 in
theorem parse_calls (s : ByteArray) (w : World) :
    Calls Tryd.prog 6 #[.string s] w fun e w' => ∃ v, e = .returned (.tuple #[v, .int .i64 (parE s.data.toList), .int .i64 (parI s.data.toList)]) ∧ NatAt w.heap.size w' v (parN s.data.toList) ∧ Below w.heap.size w w' := by
  have HL : Hid (s.data.toList.length = s.size) := str_len s
  by_cases hlong : 4096 < s.size
  · have HP : Hid _ := par_long (l := s.data.toList) (by rw [HL.out]; exact hlong)
    go_enter Tryd.func6, Tryd.ntmps6
    go_wp2_with fail
    go_ret3
    rw [HP.out.1, HP.out.2.1, HP.out.2.2]
    exact ⟨_, rfl, natAt_nil _ _, Below.refl _ _⟩
  · have MC : Hid _ := misfit_calls s w (by omega)
    by_cases he : s.data.toList = []
    · have HP : Hid _ := par_nil
      rw [he, misV_nil] at MC
      have HE : Hid (s.data.toList = []) := he
      clear he
      go_enter Tryd.func6, Tryd.ntmps6
      go_wp2_with fail
      refine Calls.mono MC.out ?_
      rintro e w ⟨rfl, rfl⟩
      go_wp2_with fail
      go_ret3
      rw [HE.out, HP.out.1, HP.out.2.1, HP.out.2.2]
      exact ⟨_, rfl, natAt_nil _ _, Below.refl _ _⟩
    · rcases mis_case s.data.toList with hk | hk
      · have HP : Hid _ := par_bad (l := s.data.toList) (by rw [HL.out]; exact hlong) hk
        rw [misV_bad hk] at MC
        obtain ⟨K, hK⟩ : ∃ K, K = misK s.data.toList := ⟨_, rfl⟩
        rw [← hK] at MC HP
        clear hK hk he
        go_enter Tryd.func6, Tryd.ntmps6
        go_wp2_with fail
        refine Calls.mono MC.out ?_
        rintro e w ⟨rfl, rfl⟩
        go_wp2_with fail
        go_ret3
        rw [HP.out.1, HP.out.2.1, HP.out.2.2]
        exact ⟨_, rfl, natAt_nil _ _, Below.refl _ _⟩
      · have HP : Hid _ := par_good (l := s.data.toList) (by rw [HL.out]; exact hlong) he hk
        have HD : Hid (AllD s.data.toList) := all_of_mis hk
        rw [misV_good he hk] at MC
        clear hk he
        go_enter Tryd.func6, Tryd.ntmps6
        go_wp2_with fail
        refine Calls.mono MC.out ?_
        rintro e w ⟨rfl, rfl⟩
        clear MC
        go_wp2_with fail
        go_loopw [6, 7] (fun vx vi wr => ∃ (k n : Nat) (ao : Option Addr), k ≤ s.size + 18 ∧ vi = .int .i64 k ∧ vx = .slice ao n n ∧ Hid (n = (wordsOf (decV (s.data.toList.take k))).length) ∧ OwnW w.heap.size wr ao n n (wordsOf (decV (s.data.toList.take k))) ∧ Below w.heap.size w wr) (fun _ vi _ => s.size + 18 - (intOf vi).toNat)
        case atStart => exact ⟨0, 0, none, by omega, rfl, rfl, by rw [Hid, List.take_zero, decV_nil, words_zero]; rfl, by rw [List.take_zero, decV_nil, words_zero]; exact ownW_nil _ _, Below.refl _ _⟩
        case round =>
          obtain ⟨k, n, ao, hk, rfl, rfl, HN, hO, hbr⟩ := hrel
          by_cases hlt : k < s.size
          · have hn : n ≤ 256 := by rw [HN.out]; exact take_words _ HD.out k (by rw [HL.out]; omega) (by rw [HL.out]; omega)
            obtain ⟨E, hE⟩ : ∃ E, E = min (k + 19) s.size := ⟨_, rfl⟩
            obtain ⟨d, hd⟩ : ∃ d, E = k + d := ⟨E - k, by omega⟩
            have hES : k + d ≤ s.size := by omega
            have hd19 : d ≤ 19 := by omega
            have hmin : min ((k : Int) + 19) (s.size : Int) = (E : Int) := by omega
            have WC : Hid _ := withDigits_calls ao n _ (s.extract k (k + d)) wr hO.1 (by omega) (by rw [ext_len s k (k + d) (by omega) hES]; omega) (part_digits s k d hES HD.out)
            rw [part_value s k d hES, ← hd] at WC
            have HT : Hid (s.data.toList.take (k + 19) = s.data.toList.take E) := by
              rw [Hid]
              by_cases h19 : k + 19 ≤ s.size
              · rw [show E = k + 19 by omega]
              · rw [take_past _ _ (by rw [HL.out]; omega), take_past _ _ (by rw [HL.out]; omega)]
            have hEs : E ≤ s.size := by omega
            have hkE : k ≤ E := by omega
            have hsz := hbr.size
            clear hE hd hES hd19
            go_wp2_with fail
            refine Calls.mono WC.out ?_
            rintro e w2 ⟨a2, m2, rfl, hm2, hO2, hb2⟩
            have HM2 : Hid _ := hm2
            clear hm2 WC hO hmin
            go_wp2_with fail
            refine ⟨⟨k + 19, m2, a2, by omega, by go_num, rfl, by rw [HT.out]; exact HM2, by rw [HT.out]; exact hO2.low hsz, nbelow_trans hbr hb2⟩, by simp [intOf]; omega⟩
          · have e1 : s.data.toList.take k = s.data.toList := take_past _ _ (by rw [HL.out]; omega)
            rw [e1] at HN hO
            have hn : n ≤ 256 := by
              have := take_words _ HD.out s.size (by rw [HL.out]; omega) (by rw [HL.out]; omega)
              rw [take_past _ _ (by rw [HL.out]; omega)] at this
              rw [HN.out]; exact this
            have HF : Hid (fitR (decV s.data.toList) = (decV s.data.toList, 0)) := fitR_no (decV_fits _ HD.out (by rw [HL.out]; omega))
            have AC : Hid _ := answer_calls _ ao n n _ wr hO (by omega)
            rw [val_words, HF.out] at AC
            clear e1
            go_wp2_with fail
            refine Calls.mono AC.out ?_
            rintro e w3 ⟨v3, rfl, hA3, hb3⟩
            clear AC
            go_wp2_with fail
            go_ret3
            rw [HP.out.1, HP.out.2.1, HP.out.2.2]
            exact ⟨v3, rfl, hA3, nbelow_trans hbr hb3⟩
end Go.Proofs.YtfmjgagajlhfoaaDoor

/- The walk of the statement on texts. -/
import Derived.Test.YtfmjgagajlhfoaaDoorNTx2
import Derived.Test.YtfmjgagajlhfoaaDoorNTx3
import Derived.Test.YtfmjgagajlhfoaaDoorNLives
namespace Go.Proofs.YtfmjgagajlhfoaaDoor
open Go.RowKit

set_option maxRecDepth 100000 in
set_option maxHeartbeats 4000000 in
theorem natTexts_walk (a : Option Addr) (len cap : Nat) (xs : List Int) (s : ByteArray) (w : World) (hA : IsW w a len cap xs) (hm : len ≤ 17592186044000) (_hs : s.size ≤ maxLen) (_hT : Tab w) (hP : TabP w) :
    Calls Tryd.prog 3 #[.slice a len cap, .string s] w fun e w' => e = .returned (.bool true) ∧ Below w.heap.size w w' := by
  have TC : Hid _ := text_calls a len cap xs w hA (by omega) hP
  have HA : Hid (IsW w a len cap xs) := hA
  have HP : Hid (TabP w) := hP
  have PL : Hid _ := parN_len s.data.toList
  obtain ⟨T, hT⟩ : ∃ T : ByteArray, T = ⟨(Lib.decDigits (val xs)).toArray⟩ := ⟨_, rfl⟩
  have HTT : Hid (T = ⟨(Lib.decDigits (val xs)).toArray⟩) := hT
  have HTE : Hid (∃ t k, (greatB (val xs) = true → t = ⟨#[]⟩ ∧ k = 3) ∧ (greatB (val xs) = false → t = T ∧ k = (0 : Int))) := by
    cases h : greatB (val xs)
    · exact ⟨T, 0, (fun q => by cases q), fun _ => ⟨rfl, rfl⟩⟩
    · exact ⟨⟨#[]⟩, 3, (fun _ => ⟨rfl, rfl⟩), fun q => by cases q⟩
  clear hA hP hT
  go_enter Tryd.func3, Tryd.ntmps3
  go_wp2_with fail
  refine Calls.mono TC.out ?_
  rintro e w1 ⟨he1, he2, b1⟩
  obtain ⟨t, k, ht1, ht2⟩ := HTE.out
  have he : e = .returned (.tuple #[.string t, .int .i64 k]) := by
    cases h : greatB (val xs)
    · obtain ⟨rfl, rfl⟩ := ht2 h
      rw [he2 h, HTT.out]
    · obtain ⟨rfl, rfl⟩ := ht1 h
      exact he1 h
  subst he
  have HT1 : Hid _ := ht1
  have HT2 : Hid _ := ht2
  clear he1 he2 ht1 ht2 HTE TC
  go_wp2_with fail
  refine Calls.mono (parse_calls s w1) ?_
  rintro e w2 ⟨v, rfl, hN2, b2⟩
  obtain ⟨a2, n2, c2, rfl, hn2, hO2⟩ := hN2
  have hn2b : n2 ≤ 1024 := by rw [hn2]; exact PL.out
  have b12 := nbelow_trans b1 b2
  have I2 := hO2.1
  clear hn2 hO2 b1 b2
  go_wp2_with fail
  refine Calls.mono (nParse_calls s w2) ?_
  rintro e w3 ⟨v, rfl, hN3, b3⟩
  obtain ⟨a3, n3, c3, rfl, hn3, hO3⟩ := hN3
  have hn3b : n3 ≤ 1024 := by rw [hn3]; exact PL.out
  have b13 := nbelow_trans b12 b3
  have I3 := hO3.1
  have I2' := I2.keep b3
  have LC : Hid _ := lives_calls w3 (HP.out.kept b13)
  generalize parE s.data.toList = E at *
  generalize parI s.data.toList = I at *
  generalize wordsOf (parN s.data.toList) = W at *
  clear hn3 hO3 b12 b3 I2
  go_wp2_with fail
  refine Calls.mono LC.out ?_
  rintro e w4 ⟨rfl, b4⟩
  have b14 := nbelow_trans b13 b4
  have J2 := I2'.keep b4
  have J3 := I3.keep b4
  clear b13 b4 I2' I3 LC
  go_wp2_with fail
  refine Calls.mono (nSame_calls _ _ _ _ _ _ _ _ _ J2 J3 (by omega) (by omega)) ?_
  rintro e w5 ⟨rfl, b5⟩
  rw [show decide (W = W) = true by simp]
  have b15 := nbelow_trans b14 b5
  have A5 := HA.out.keep b15
  have GC : Hid _ := nGreat_calls a len cap xs w5 A5 (by omega)
  clear b14 b5 J2 J3
  cases hg : greatB (val xs) with
  | true =>
    rw [show decide (1024 < (wordsOf (val xs)).length) = true from hg] at GC
    obtain ⟨h1, h2⟩ := HT1.out hg
    subst h1 h2
    clear HT1 HT2
    go_wp2_with fail
    refine Calls.mono GC.out ?_
    rintro e w5 ⟨rfl, rfl⟩
    go_wp2_with fail
    go_ret
    exact ⟨rfl, b15⟩
  | false =>
    rw [show decide (1024 < (wordsOf (val xs)).length) = false from hg] at GC
    obtain ⟨h1, h2⟩ := HT2.out hg
    subst h1 h2
    have NC : Hid _ := nText_calls a len cap xs w5 A5 (by omega) hg
    rw [← HTT.out] at NC
    clear HT1 HT2
    go_wp2_with fail
    refine Calls.mono GC.out ?_
    rintro e w5 ⟨rfl, rfl⟩
    go_wp2_with fail
    refine Calls.mono NC.out ?_
    rintro e w6 ⟨rfl, b6⟩
    go_wp2_with fail
    go_ret
    exact ⟨nret_bool (by simp), nbelow_trans b15 b6⟩
end Go.Proofs.YtfmjgagajlhfoaaDoor

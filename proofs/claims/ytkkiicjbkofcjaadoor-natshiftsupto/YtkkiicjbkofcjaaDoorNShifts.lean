/- The walk of the statement NatShifts. -/
import Derived.Test.YtkkiicjbkofcjaaDoorNLives
import Derived.Test.YtkkiicjbkofcjaaDoorNRefL
namespace Go.Proofs.YtkkiicjbkofcjaaDoor
open Go.RowKit

theorem shlR_len (u : Nat) (i : Int) : (wordsOf (shlR u i).1).length ≤ 1024 := by
  have hz : (wordsOf 0).length ≤ 1024 := by rw [words_zero]; simp
  unfold shlR
  split
  · exact hz
  · split
    · exact hz
    · split
      · exact hz
      · split
        · exact hz
        · rename_i h1 h2 h3 h4
          simp only
          obtain ⟨j, rfl⟩ := Int.eq_ofNat_of_zero_le (show 0 ≤ i by omega)
          rw [Int.toNat_natCast, ← great_len, great_not, blen_mul _ _ h3]; omega
theorem shrQ_len (u : Nat) (i : Int) : (wordsOf (shrQ u i)).length ≤ 1024 := by
  have hz : (wordsOf 0).length ≤ 1024 := by rw [words_zero]; simp
  unfold shrQ
  split
  · exact hz
  · split
    · exact hz
    · rename_i h1 h2
      rw [← great_len]
      exact great_mono (Nat.div_le_self _ _) (by simpa using h1)

set_option maxRecDepth 100000 in
set_option maxHeartbeats 4000000 in
theorem natShifts_walk (a : Option Addr) (len cap : Nat) (xs : List Int) (i : Int) (w : World) (hA : IsW w a len cap xs) (hm : len ≤ 17592186042000) (hi : -9223372036854775808 ≤ i ∧ i ≤ 9223372036854775807) (_hT : Tab w) (hP : TabP w) :
    Calls Tryd.prog 6 #[.slice a len cap, .int .i64 i] w fun e w' => e = .returned (.bool true) ∧ Below w.heap.size w w' := by
  have HXL : Hid _ := shlR_len (val xs) i
  have HYL : Hid _ := shrQ_len (val xs) i
  go_enter Tryd.func6, Tryd.ntmps6
  go_wp2_with fail
  refine Calls.mono (shl_calls a len cap xs i w hA (by omega)) ?_
  rintro e w1 ⟨v, rfl, ⟨a1, n1, c1, rfl, hn1, hO1⟩, hb1⟩
  have HN1 : Hid (n1 = (wordsOf (shlR (val xs) i).1).length) := hn1
  have hA1 := hA.keep hb1
  have hP1 := hP.kept hb1
  have hI1 := hO1.1
  clear hA hP hO1 hn1
  go_wp2_with fail
  refine Calls.mono (nLeft_calls a len cap xs i w1 hA1 hm) ?_
  rintro e w2 ⟨v, rfl, ⟨a2, n2, c2, rfl, hn2, hO2⟩, hb2⟩
  have hbw2 := nbelow_trans hb1 hb2
  have hA2 := hA1.keep hb2
  have hP2 := hP1.kept hb2
  have hI2 := hI1.keep hb2
  have hJ2 := hO2.1
  obtain ⟨ra, hra⟩ : ∃ r, r = shlR (val xs) i := ⟨_, rfl⟩
  rw [← hra] at HN1 hn2 hI2 hJ2 HXL ⊢
  have hn1b : n1 ≤ 1024 := by rw [HN1.out]; exact HXL.out
  have hn2b : n2 ≤ 1024 := by rw [hn2]; exact HXL.out
  clear hA1 hP1 hI1 hb1 hb2 hO2 hra HN1 hn2
  go_wp2_with fail
  refine Calls.mono (shr_calls a len cap xs i w2 hA2 (by omega) hi.2) ?_
  rintro e w3 ⟨v, rfl, ⟨a3, n3, c3, rfl, hn3, hO3⟩, hb3⟩
  have HN3 : Hid (n3 = (wordsOf (shrQ (val xs) i)).length) := hn3
  have hbw3 := nbelow_trans hbw2 hb3
  have hA3 := hA2.keep hb3
  have hP3 := hP2.kept hb3
  have hI3 := hI2.keep hb3
  have hJ3 := hJ2.keep hb3
  have hK3 := hO3.1
  clear hA2 hP2 hI2 hJ2 hb3 hbw2 hO3 hn3
  go_wp2_with fail
  refine Calls.mono (nRight_calls a len cap xs i w3 hA3 hm hi.2) ?_
  rintro e w4 ⟨v, rfl, ⟨a4, n4, c4, rfl, hn4, hO4⟩, hb4⟩
  have hbw4 := nbelow_trans hbw3 hb4
  have hP4 := hP3.kept hb4
  have hI4 := hI3.keep hb4
  have hJ4 := hJ3.keep hb4
  have hK4 := hK3.keep hb4
  have hM4 := hO4.1
  have hn3b : n3 ≤ 1024 := by rw [HN3.out]; exact HYL.out
  have hn4b : n4 ≤ 1024 := by rw [hn4]; exact HYL.out
  obtain ⟨rq, hrq⟩ : ∃ r, r = shrQ (val xs) i := ⟨_, rfl⟩
  rw [← hrq] at hK4 hM4
  obtain ⟨rl, hrl⟩ : ∃ r, r = shrL (val xs) i := ⟨_, rfl⟩
  obtain ⟨re, hre⟩ : ∃ r, r = shrE (val xs) i := ⟨_, rfl⟩
  rw [← hrl, ← hre]
  clear hA3 hP3 hI3 hJ3 hK3 hb4 hbw3 hO4 hn4 HN3 hrq hrl hre HYL
  go_wp2_with fail
  refine Calls.mono (lives_calls w4 hP4) ?_
  rintro e w5 ⟨rfl, hb5⟩
  have hbw5 := nbelow_trans hbw4 hb5
  have hI5 := hI4.keep hb5
  have hJ5 := hJ4.keep hb5
  have hK5 := hK4.keep hb5
  have hM5 := hM4.keep hb5
  clear hP4 hI4 hJ4 hK4 hM4 hb5 hbw4
  go_wp2_with fail
  refine Calls.mono (nSame_calls _ _ _ _ _ _ _ _ _ hI5 hJ5 (by omega) (by omega)) ?_
  rintro e w6 ⟨rfl, hb6⟩
  rw [show decide (wordsOf ra.1 = wordsOf ra.1) = true by simp]
  have hbw6 := nbelow_trans hbw5 hb6
  have hK6 := hK5.keep hb6
  have hM6 := hM5.keep hb6
  clear hI5 hJ5 hK5 hM5 hb6 hbw5
  go_wp2_with fail
  refine Calls.mono (nSame_calls _ _ _ _ _ _ _ _ _ hK6 hM6 (by omega) (by omega)) ?_
  rintro e w7 ⟨rfl, hb7⟩
  rw [show decide (wordsOf rq = wordsOf rq) = true by simp]
  have hbw7 := nbelow_trans hbw6 hb7
  clear hK6 hM6 hb7 hbw6
  go_wp2_with fail
  go_ret
  exact ⟨nret_bool (by simp), hbw7⟩
end Go.Proofs.YtkkiicjbkofcjaaDoor

/- The walk of the statement NatProducts. -/
import Derived.Test.YtfafhinjcligaaaGreatDoorNLives
import Derived.Test.YtfafhinjcligaaaGreatDoorNRefQ
import Derived.Test.YtfafhinjcligaaaGreatDoorNRefM3
import Derived.Test.YtfafhinjcligaaaGreatDoorNOver
namespace Go.Proofs.YtfafhinjcligaaaGreatDoor
open Go.RowKit

theorem fitR_len (u : Nat) : (wordsOf (fitR u).1).length ≤ 1024 := by
  unfold fitR
  split
  · rw [words_zero]; simp
  · rename_i h
    exact (great_len u).1 (by simpa using h)
theorem mulR_len (u v : Nat) : (wordsOf (mulR u v).1).length ≤ 1024 := by
  unfold mulR
  split
  · rw [words_zero]; simp
  · exact fitR_len _
theorem div_len (u v : Nat) : (wordsOf (divQ u v)).length ≤ 1024 ∧ (wordsOf (divM u v)).length ≤ 1024 := by
  have hz : (wordsOf 0).length ≤ 1024 := by rw [words_zero]; simp
  unfold divQ divM
  split
  · exact ⟨hz, hz⟩
  · rename_i h
    have h1 : greatB u = false := by
      rw [Bool.not_eq_true, Bool.or_eq_false_iff] at h; exact h.1
    split
    · exact ⟨hz, hz⟩
    · exact ⟨(great_len _).1 (great_mono (Nat.div_le_self _ _) h1), (great_len _).1 (great_mono (Nat.mod_le _ _) h1)⟩

set_option maxRecDepth 100000 in
set_option maxHeartbeats 4000000 in
theorem natProducts_walk (a : Option Addr) (len cap : Nat) (xs : List Int) (b : Option Addr) (len' cap' : Nat) (ys : List Int) (w : World) (hA : IsW w a len cap xs) (hm : len ≤ 17592186042000) (hB : IsW w b len' cap' ys) (hm' : len' ≤ 17592186042000) (_hT : Tab w) (hP : TabP w) :
    Calls Tryz.prog 21 #[.slice a len cap, .slice b len' cap'] w fun e w' => e = .returned (.bool true) ∧ Below w.heap.size w w' := by
  have HML : Hid ((wordsOf (mulR (val xs) (val ys)).1).length ≤ 1024) := mulR_len _ _
  have HQL : Hid ((wordsOf (divQ (val xs) (val ys))).length ≤ 1024) := (div_len _ _).1
  have HRL : Hid ((wordsOf (divM (val xs) (val ys))).length ≤ 1024) := (div_len _ _).2
  go_enter Tryz.func21, Tryz.ntmps21
  go_wp2_with fail
  refine Calls.mono (mul_calls a b len cap len' cap' xs ys w hA hB (by omega) (by omega)) ?_
  rintro e w_1 ⟨v, rfl, ⟨a1, n1, c1, rfl, hn1, hO1⟩, hb_1⟩
  have hbw_1 := hb_1
  have hA_1 := hA.keep hb_1
  have hB_1 := hB.keep hb_1
  have hP_1 := hP.kept hb_1
  clear hA hB hP hb_1
  have hI_1 := hO1.1
  have hn1b : n1 ≤ 1024 := by rw [hn1]; exact HML.out
  clear hO1 hn1
  go_wp2_with fail
  refine Calls.mono (nProduct_calls a b len cap len' cap' xs ys w_1 hA_1 hB_1 (by omega) (by omega)) ?_
  rintro e w_2 ⟨v, rfl, ⟨a2, n2, c2, rfl, hn2, hO2⟩, hb_2⟩
  have hbw_2 := nbelow_trans hbw_1 hb_2
  have hA_2 := hA_1.keep hb_2
  have hB_2 := hB_1.keep hb_2
  have hP_2 := hP_1.kept hb_2
  have hI_2 := hI_1.keep hb_2
  clear hbw_1 hA_1 hB_1 hP_1 hI_1 hb_2
  have hJ_2 := hO2.1
  have hn2b : n2 ≤ 1024 := by rw [hn2]; exact HML.out
  clear hO2 hn2
  go_wp2_with fail
  refine Calls.mono (div_calls a b len cap len' cap' xs ys w_2 hA_2 hB_2 (by omega) (by omega) (fun h => over_any _ _ (by omega))) ?_
  rintro e w_3 ⟨v, v', rfl, ⟨a3, n3, c3, rfl, hn3, hO3⟩, ⟨a4, n4, c4, rfl, hn4, hO4⟩, hb_3⟩
  have hbw_3 := nbelow_trans hbw_2 hb_3
  have hA_3 := hA_2.keep hb_3
  have hB_3 := hB_2.keep hb_3
  have hP_3 := hP_2.kept hb_3
  have hI_3 := hI_2.keep hb_3
  have hJ_3 := hJ_2.keep hb_3
  clear hbw_2 hA_2 hB_2 hP_2 hI_2 hJ_2 hb_3
  have hK_3 := hO3.1
  have hM_3 := hO4.1
  have hn3b : n3 ≤ 1024 := by rw [hn3]; exact HQL.out
  have hn4b : n4 ≤ 1024 := by rw [hn4]; exact HRL.out
  clear hO3 hn3 hO4 hn4
  go_wp2_with fail
  refine Calls.mono (nQuotient_calls a b len cap len' cap' xs ys w_3 hA_3 hB_3 hm hm') ?_
  rintro e w_4 ⟨v, v', rfl, ⟨a5, n5, c5, rfl, hn5, hO5⟩, ⟨a6, n6, c6, rfl, hn6, hO6⟩, hb_4⟩
  have hbw_4 := nbelow_trans hbw_3 hb_4
  have hA_4 := hA_3.keep hb_4
  have hB_4 := hB_3.keep hb_4
  have hP_4 := hP_3.kept hb_4
  have hI_4 := hI_3.keep hb_4
  have hJ_4 := hJ_3.keep hb_4
  have hK_4 := hK_3.keep hb_4
  have hM_4 := hM_3.keep hb_4
  clear hbw_3 hA_3 hB_3 hP_3 hI_3 hJ_3 hK_3 hM_3 hb_4
  have hS_4 := hO5.1
  have hT_4 := hO6.1
  have hn5b : n5 ≤ 1024 := by rw [hn5]; exact HQL.out
  have hn6b : n6 ≤ 1024 := by rw [hn6]; exact HRL.out
  clear hO5 hn5 hO6 hn6
  clear hA_4
  clear hB_4
  generalize mulR (val xs) (val ys) = rm at *
  generalize divQ (val xs) (val ys) = rq at *
  generalize divM (val xs) (val ys) = rr at *
  generalize divE (val xs) (val ys) = re at *
  clear HML HQL HRL
  go_wp2_with fail
  refine Calls.mono (lives_calls w_4 hP_4) ?_
  rintro e w_5 ⟨rfl, hb_5⟩
  have hbw_5 := nbelow_trans hbw_4 hb_5
  have hP_5 := hP_4.kept hb_5
  have hI_5 := hI_4.keep hb_5
  have hJ_5 := hJ_4.keep hb_5
  have hK_5 := hK_4.keep hb_5
  have hM_5 := hM_4.keep hb_5
  have hS_5 := hS_4.keep hb_5
  have hT_5 := hT_4.keep hb_5
  clear hbw_4 hP_4 hI_4 hJ_4 hK_4 hM_4 hS_4 hT_4 hb_5
  clear hP_5
  go_wp2_with fail
  refine Calls.mono (nSame_calls _ _ _ _ _ _ _ _ _ hI_5 hJ_5 (by omega) (by omega)) ?_
  rintro e w_6 ⟨rfl, hb_6⟩
  have hbw_6 := nbelow_trans hbw_5 hb_6
  have hI_6 := hI_5.keep hb_6
  have hJ_6 := hJ_5.keep hb_6
  have hK_6 := hK_5.keep hb_6
  have hM_6 := hM_5.keep hb_6
  have hS_6 := hS_5.keep hb_6
  have hT_6 := hT_5.keep hb_6
  clear hbw_5 hI_5 hJ_5 hK_5 hM_5 hS_5 hT_5 hb_6
  rw [show decide (wordsOf rm.1 = wordsOf rm.1) = true by simp]
  clear hI_6
  clear hJ_6
  go_wp2_with fail
  refine Calls.mono (nSame_calls _ _ _ _ _ _ _ _ _ hK_6 hS_6 (by omega) (by omega)) ?_
  rintro e w_7 ⟨rfl, hb_7⟩
  have hbw_7 := nbelow_trans hbw_6 hb_7
  have hK_7 := hK_6.keep hb_7
  have hM_7 := hM_6.keep hb_7
  have hS_7 := hS_6.keep hb_7
  have hT_7 := hT_6.keep hb_7
  clear hbw_6 hK_6 hM_6 hS_6 hT_6 hb_7
  rw [show decide (wordsOf rq = wordsOf rq) = true by simp]
  clear hK_7
  clear hS_7
  go_wp2_with fail
  refine Calls.mono (nSame_calls _ _ _ _ _ _ _ _ _ hM_7 hT_7 (by omega) (by omega)) ?_
  rintro e w_8 ⟨rfl, hb_8⟩
  have hbw_8 := nbelow_trans hbw_7 hb_8
  have hM_8 := hM_7.keep hb_8
  have hT_8 := hT_7.keep hb_8
  clear hbw_7 hM_7 hT_7 hb_8
  rw [show decide (wordsOf rr = wordsOf rr) = true by simp]
  clear hM_8
  clear hT_8
  go_wp2_with fail
  go_ret
  exact ⟨nret_bool (by simp), hbw_8⟩
end Go.Proofs.YtfafhinjcligaaaGreatDoor

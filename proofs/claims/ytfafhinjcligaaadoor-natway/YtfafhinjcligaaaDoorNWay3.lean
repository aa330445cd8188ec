/- The walk of the statement NatWay, way by way (many). -/
import Derived.Test.YtfafhinjcligaaaDoorNLives
import Derived.Test.YtfafhinjcligaaaDoorNEq
import Derived.Test.YtfafhinjcligaaaDoorNWay0
namespace Go.Proofs.YtfafhinjcligaaaDoor
open Go.RowKit

set_option maxRecDepth 100000 in
set_option maxHeartbeats 4000000 in
theorem way_ok_ok_many (a : Option Addr) (len cap : Nat) (xs : List Int) (b : Option Addr) (len' cap' : Nat) (ys : List Int) (i : Int) (w : World) (hA : IsW w a len cap xs) (hm : len ≤ 17592186044416) (hB : IsW w b len' cap' ys) (hm' : len' ≤ 17592186044416) (hi : -9223372036854775808 ≤ i ∧ i ≤ 9223372036854775807) (hP : TabP w) {sa sd nm q r sl pw : Nat} {se ne de le : Int} {qp : Nat}
    (hadd : addR (val xs) (val ys) = (sa, 0)) (hsub : subR sa (val ys) = (sd, se)) (hnorm : fitR (val xs) = (nm, ne)) (hse : se = 0) (hsd : sd = nm) (hq : divQ (val xs) (val ys) = q) (hr : divM (val xs) (val ys) = r) (he : divE (val xs) (val ys) = de) (hde : de = 0) (hmul : mulR q (val ys) = (qp, 0)) (hadd2 : addR qp r = (nm, 0)) (hcg : (greatB r || greatB (val ys)) = false) (hcmp : cmpN r (val ys) = -1) (hshl : shlR (val xs) i = (sl, le)) (hle : le = 0) (hbig : i ≤ 70000) (hi0 : 0 ≤ i) (hq2 : shrQ sl i = nm) (hl2 : shrL sl i = false) (he2 : shrE sl i = 0) (hpow : powR 2 i = (pw, 3)) :
    Calls Tryd.prog 5 #[.slice a len cap, .slice b len' cap', .int .i64 i] w fun e w' => e = .returned (.bool true) ∧ Below w.heap.size w w' := by
  subst hle
  subst hde
  subst hse
  subst hsd
  have HADD : Hid (addR (val xs) (val ys) = (sa, 0)) := hadd
  clear hadd
  have HSUB : Hid (subR sa (val ys) = (sd, 0)) := hsub
  clear hsub
  have HNORM : Hid (fitR (val xs) = (sd, ne)) := hnorm
  clear hnorm
  have HQ : Hid (divQ (val xs) (val ys) = q) := hq
  clear hq
  have HR : Hid (divM (val xs) (val ys) = r) := hr
  clear hr
  have HE : Hid (divE (val xs) (val ys) = 0) := he
  clear he
  have HMUL : Hid (mulR q (val ys) = (qp, 0)) := hmul
  clear hmul
  have HADD2 : Hid (addR qp r = (sd, 0)) := hadd2
  clear hadd2
  have HCG : Hid ((greatB r || greatB (val ys)) = false) := hcg
  clear hcg
  have HCMP : Hid (cmpN r (val ys) = -1) := hcmp
  clear hcmp
  have HSHL : Hid (shlR (val xs) i = (sl, 0)) := hshl
  clear hshl
  have HQ2 : Hid (shrQ sl i = sd) := hq2
  clear hq2
  have HL2 : Hid (shrL sl i = false) := hl2
  clear hl2
  have HE2 : Hid (shrE sl i = 0) := he2
  clear he2
  have HPOW : Hid (powR 2 i = (pw, 3)) := hpow
  clear hpow
  go_enter Tryd.func5, Tryd.ntmps5
  go_wp2_with fail
  refine Calls.mono (lives_calls w hP) ?_
  rintro e w_1 ⟨rfl, hb_1⟩
  have hbw_1 := hb_1
  have hA_1 := hA.keep hb_1
  have hB_1 := hB.keep hb_1
  have hP_1 := hP.kept hb_1
  clear hA hB hP hb_1
  clear hP_1
  go_wp2_with fail
  refine Calls.mono (add_eq hA_1 hB_1 (by omega) (by omega) HADD.out) ?_
  rintro e w_2 ⟨aS, nS, cS, rfl, HNS, hnS, hS_2, hb_2⟩
  have hbw_2 := nbelow_trans hbw_1 hb_2
  have hA_2 := hA_1.keep hb_2
  have hB_2 := hB_1.keep hb_2
  clear hbw_1 hA_1 hB_1 hb_2
  go_wp2_with fail
  refine Calls.mono (sub_eq (r := sd) (k := 0) hS_2.1 hB_2 (by omega) (by omega) (by rw [val_words]; exact HSUB.out)) ?_
  rintro e w_3 ⟨aD, nD, cD, rfl, HND, hnD, hD_3, hb_3⟩
  have hbw_3 := nbelow_trans hbw_2 hb_3
  have hA_3 := hA_2.keep hb_3
  have hB_3 := hB_2.keep hb_3
  have hS_3 := hS_2.keep hb_3
  clear hbw_2 hA_2 hB_2 hS_2 hb_3
  go_wp2_with fail
  refine Calls.mono (norm_eq2 hA_3 (by omega) HNORM.out) ?_
  rintro e w_4 ⟨aM, nM, cM, rfl, HNM, hnM, hM_4, hb_4⟩
  have hbw_4 := nbelow_trans hbw_3 hb_4
  have hA_4 := hA_3.keep hb_4
  have hB_4 := hB_3.keep hb_4
  have hS_4 := hS_3.keep hb_4
  have hD_4 := hD_3.keep hb_4
  clear hbw_3 hA_3 hB_3 hS_3 hD_3 hb_4
  go_wp2_with fail
  refine Calls.mono (nSame_calls _ _ _ _ _ _ _ _ _ hD_4.1 hM_4.1 (by omega) (by omega)) ?_
  rintro e w_5 ⟨rfl, hb_5⟩
  have hbw_5 := nbelow_trans hbw_4 hb_5
  have hA_5 := hA_4.keep hb_5
  have hB_5 := hB_4.keep hb_5
  have hS_5 := hS_4.keep hb_5
  have hD_5 := hD_4.keep hb_5
  have hM_5 := hM_4.keep hb_5
  clear hbw_4 hA_4 hB_4 hS_4 hD_4 hM_4 hb_5
  rw [show decide (wordsOf sd = wordsOf sd) = true by simp]
  clear hS_5
  clear hD_5
  go_wp2_with fail
  refine Calls.mono (div_eq hA_5 hB_5 (by omega) (by omega) HQ.out HR.out HE.out) ?_
  rintro e w_6 ⟨aq, ar, nq, cq, nr, cr, rfl, HNq, hnq, hQ_6, HNr, hnr, hR_6, hb_6⟩
  have hbw_6 := nbelow_trans hbw_5 hb_6
  have hA_6 := hA_5.keep hb_6
  have hB_6 := hB_5.keep hb_6
  have hM_6 := hM_5.keep hb_6
  clear hbw_5 hA_5 hB_5 hM_5 hb_6
  go_wp2_with fail
  refine Calls.mono (mul_eq (r := qp) (k := 0) hQ_6.1 hB_6 (by omega) (by omega) (by rw [val_words]; exact HMUL.out)) ?_
  rintro e w_7 ⟨aT, nT, cT, rfl, HNT, hnT, hT_7, hb_7⟩
  have hbw_7 := nbelow_trans hbw_6 hb_7
  have hA_7 := hA_6.keep hb_7
  have hB_7 := hB_6.keep hb_7
  have hM_7 := hM_6.keep hb_7
  have hQ_7 := hQ_6.keep hb_7
  have hR_7 := hR_6.keep hb_7
  clear hbw_6 hA_6 hB_6 hM_6 hQ_6 hR_6 hb_7
  go_wp2_with fail
  refine Calls.mono (add_eq (r := sd) (k := 0) hT_7.1 hR_7.1 (by omega) (by omega) (by rw [val_words, val_words]; exact HADD2.out)) ?_
  rintro e w_8 ⟨aX, nX, cX, rfl, HNX, hnX, hX_8, hb_8⟩
  have hbw_8 := nbelow_trans hbw_7 hb_8
  have hA_8 := hA_7.keep hb_8
  have hB_8 := hB_7.keep hb_8
  have hM_8 := hM_7.keep hb_8
  have hQ_8 := hQ_7.keep hb_8
  have hR_8 := hR_7.keep hb_8
  have hT_8 := hT_7.keep hb_8
  clear hbw_7 hA_7 hB_7 hM_7 hQ_7 hR_7 hT_7 hb_8
  go_wp2_with fail
  refine Calls.mono (cmp_calls _ _ _ _ _ _ _ _ _ hR_8.1 hB_8 (by omega) (by omega)) ?_
  rintro e w_9 ⟨_, he2, hb_9⟩
  have hbw_9 := nbelow_trans hbw_8 hb_9
  have hA_9 := hA_8.keep hb_9
  have hB_9 := hB_8.keep hb_9
  have hM_9 := hM_8.keep hb_9
  have hQ_9 := hQ_8.keep hb_9
  have hR_9 := hR_8.keep hb_9
  have hT_9 := hT_8.keep hb_9
  have hX_9 := hX_8.keep hb_9
  clear hbw_8 hA_8 hB_8 hM_8 hQ_8 hR_8 hT_8 hX_8 hb_9
  obtain rfl := he2 (by rw [val_words]; exact HCG.out)
  rw [val_words, HCMP.out]
  clear he2
  go_wp2_with fail
  refine Calls.mono (nSame_calls _ _ _ _ _ _ _ _ _ hX_9.1 hM_9.1 (by omega) (by omega)) ?_
  rintro e w_10 ⟨rfl, hb_10⟩
  have hbw_10 := nbelow_trans hbw_9 hb_10
  have hA_10 := hA_9.keep hb_10
  have hB_10 := hB_9.keep hb_10
  have hM_10 := hM_9.keep hb_10
  have hQ_10 := hQ_9.keep hb_10
  have hR_10 := hR_9.keep hb_10
  have hT_10 := hT_9.keep hb_10
  have hX_10 := hX_9.keep hb_10
  clear hbw_9 hA_9 hB_9 hM_9 hQ_9 hR_9 hT_9 hX_9 hb_10
  rw [show decide (wordsOf sd = wordsOf sd) = true by simp]
  clear hT_10
  clear hX_10
  clear hQ_10
  clear hR_10
  clear hB_10
  go_wp2_with fail
  refine Calls.mono (shl_eq hA_10 (by omega) HSHL.out) ?_
  rintro e w_11 ⟨aL, nL, cL, rfl, HNL, hnL, hL_11, hb_11⟩
  have hbw_11 := nbelow_trans hbw_10 hb_11
  have hA_11 := hA_10.keep hb_11
  have hM_11 := hM_10.keep hb_11
  clear hbw_10 hA_10 hM_10 hb_11
  go_wp2_with fail
  refine Calls.mono (shr_eq (r := sd) (l := false) (k := 0) hL_11.1 (by omega) (by omega) (by rw [val_words]; exact HQ2.out) (by rw [val_words]; exact HL2.out) (by rw [val_words]; exact HE2.out)) ?_
  rintro e w_12 ⟨aY, nY, cY, rfl, HNY, hnY, hY_12, hb_12⟩
  have hbw_12 := nbelow_trans hbw_11 hb_12
  have hA_12 := hA_11.keep hb_12
  have hM_12 := hM_11.keep hb_12
  have hL_12 := hL_11.keep hb_12
  clear hbw_11 hA_11 hM_11 hL_11 hb_12
  have hbl := below_one w_12 (.cells #[.int .u64 2] 44)
  have h2w : IsW (w_12.alloc (.cells #[.int .u64 2] 44)) (some ⟨w_12.heap.size, 0, none⟩) 1 1 [2] := isW_lit1 w_12 2 (by omega) (by omega)
  have hA_b := hA_12.keep hbl
  have hM_b := hM_12.keep hbl
  have hL_b := hL_12.keep hbl
  have hY_b := hY_12.keep hbl
  have hbw_b := nbelow_trans hbw_12 hbl
  clear hA_12 hM_12 hL_12 hY_12 hbw_12 hbl
  go_wp2_with fail
  refine Calls.mono (pow_eq h2w (by omega) (by omega) (show powR (val [2]) i = _ from HPOW.out)) ?_
  rintro e w_13 ⟨aP, nP, cP, rfl, HNP, hnP, hP_13, hb_13⟩
  have hbw_13 := nbelow_trans hbw_b hb_13
  have hA_13 := hA_b.keep hb_13
  have hM_13 := hM_b.keep hb_13
  have hL_13 := hL_b.keep hb_13
  have hY_13 := hY_b.keep hb_13
  clear hbw_b hA_b hM_b hL_b hY_b hb_13
  clear h2w
  go_wp2_with fail
  refine Calls.mono (nSame_calls _ _ _ _ _ _ _ _ _ hY_13.1 hM_13.1 (by omega) (by omega)) ?_
  rintro e w_14 ⟨rfl, hb_14⟩
  have hbw_14 := nbelow_trans hbw_13 hb_14
  have hA_14 := hA_13.keep hb_14
  have hM_14 := hM_13.keep hb_14
  have hL_14 := hL_13.keep hb_14
  have hY_14 := hY_13.keep hb_14
  have hPw_14 := hP_13.keep hb_14
  clear hbw_13 hA_13 hM_13 hL_13 hY_13 hP_13 hb_14
  rw [show decide (wordsOf sd = wordsOf sd) = true by simp]
  clear hY_14
  clear hM_14
  go_wp2_with fail
  go_ret
  exact ⟨nret_bool (by simp), hbw_14⟩

set_option maxRecDepth 100000 in
set_option maxHeartbeats 4000000 in
theorem way_no_ok_many (a : Option Addr) (len cap : Nat) (xs : List Int) (b : Option Addr) (len' cap' : Nat) (ys : List Int) (i : Int) (w : World) (hA : IsW w a len cap xs) (hm : len ≤ 17592186044416) (hB : IsW w b len' cap' ys) (hm' : len' ≤ 17592186044416) (hi : -9223372036854775808 ≤ i ∧ i ≤ 9223372036854775807) (hP : TabP w) {sa sd nm q r sl pw : Nat} {se ne de le : Int} {qp : Nat}
    (hadd : addR (val xs) (val ys) = (sa, 3)) (hsub : subR sa (val ys) = (sd, se)) (hnorm : fitR (val xs) = (nm, ne)) (hq : divQ (val xs) (val ys) = q) (hr : divM (val xs) (val ys) = r) (he : divE (val xs) (val ys) = de) (hde : de = 0) (hmul : mulR q (val ys) = (qp, 0)) (hadd2 : addR qp r = (nm, 0)) (hcg : (greatB r || greatB (val ys)) = false) (hcmp : cmpN r (val ys) = -1) (hshl : shlR (val xs) i = (sl, le)) (hle : le = 0) (hbig : i ≤ 70000) (hi0 : 0 ≤ i) (hq2 : shrQ sl i = nm) (hl2 : shrL sl i = false) (he2 : shrE sl i = 0) (hpow : powR 2 i = (pw, 3)) :
    Calls Tryd.prog 5 #[.slice a len cap, .slice b len' cap', .int .i64 i] w fun e w' => e = .returned (.bool true) ∧ Below w.heap.size w w' := by
  subst hle
  subst hde
  have HADD : Hid (addR (val xs) (val ys) = (sa, 3)) := hadd
  clear hadd
  have HSUB : Hid (subR sa (val ys) = (sd, se)) := hsub
  clear hsub
  have HNORM : Hid (fitR (val xs) = (nm, ne)) := hnorm
  clear hnorm
  have HQ : Hid (divQ (val xs) (val ys) = q) := hq
  clear hq
  have HR : Hid (divM (val xs) (val ys) = r) := hr
  clear hr
  have HE : Hid (divE (val xs) (val ys) = 0) := he
  clear he
  have HMUL : Hid (mulR q (val ys) = (qp, 0)) := hmul
  clear hmul
  have HADD2 : Hid (addR qp r = (nm, 0)) := hadd2
  clear hadd2
  have HCG : Hid ((greatB r || greatB (val ys)) = false) := hcg
  clear hcg
  have HCMP : Hid (cmpN r (val ys) = -1) := hcmp
  clear hcmp
  have HSHL : Hid (shlR (val xs) i = (sl, 0)) := hshl
  clear hshl
  have HQ2 : Hid (shrQ sl i = nm) := hq2
  clear hq2
  have HL2 : Hid (shrL sl i = false) := hl2
  clear hl2
  have HE2 : Hid (shrE sl i = 0) := he2
  clear he2
  have HPOW : Hid (powR 2 i = (pw, 3)) := hpow
  clear hpow
  go_enter Tryd.func5, Tryd.ntmps5
  go_wp2_with fail
  refine Calls.mono (lives_calls w hP) ?_
  rintro e w_1 ⟨rfl, hb_1⟩
  have hbw_1 := hb_1
  have hA_1 := hA.keep hb_1
  have hB_1 := hB.keep hb_1
  have hP_1 := hP.kept hb_1
  clear hA hB hP hb_1
  clear hP_1
  go_wp2_with fail
  refine Calls.mono (add_eq hA_1 hB_1 (by omega) (by omega) HADD.out) ?_
  rintro e w_2 ⟨aS, nS, cS, rfl, HNS, hnS, hS_2, hb_2⟩
  have hbw_2 := nbelow_trans hbw_1 hb_2
  have hA_2 := hA_1.keep hb_2
  have hB_2 := hB_1.keep hb_2
  clear hbw_1 hA_1 hB_1 hb_2
  go_wp2_with fail
  refine Calls.mono (sub_eq (r := sd) (k := se) hS_2.1 hB_2 (by omega) (by omega) (by rw [val_words]; exact HSUB.out)) ?_
  rintro e w_3 ⟨aD, nD, cD, rfl, HND, hnD, hD_3, hb_3⟩
  have hbw_3 := nbelow_trans hbw_2 hb_3
  have hA_3 := hA_2.keep hb_3
  have hB_3 := hB_2.keep hb_3
  have hS_3 := hS_2.keep hb_3
  clear hbw_2 hA_2 hB_2 hS_2 hb_3
  go_wp2_with fail
  refine Calls.mono (norm_eq2 hA_3 (by omega) HNORM.out) ?_
  rintro e w_4 ⟨aM, nM, cM, rfl, HNM, hnM, hM_4, hb_4⟩
  have hbw_4 := nbelow_trans hbw_3 hb_4
  have hA_4 := hA_3.keep hb_4
  have hB_4 := hB_3.keep hb_4
  have hS_4 := hS_3.keep hb_4
  have hD_4 := hD_3.keep hb_4
  clear hbw_3 hA_3 hB_3 hS_3 hD_3 hb_4
  clear hS_4
  clear hD_4
  go_wp2_with fail
  refine Calls.mono (div_eq hA_4 hB_4 (by omega) (by omega) HQ.out HR.out HE.out) ?_
  rintro e w_5 ⟨aq, ar, nq, cq, nr, cr, rfl, HNq, hnq, hQ_5, HNr, hnr, hR_5, hb_5⟩
  have hbw_5 := nbelow_trans hbw_4 hb_5
  have hA_5 := hA_4.keep hb_5
  have hB_5 := hB_4.keep hb_5
  have hM_5 := hM_4.keep hb_5
  clear hbw_4 hA_4 hB_4 hM_4 hb_5
  go_wp2_with fail
  refine Calls.mono (mul_eq (r := qp) (k := 0) hQ_5.1 hB_5 (by omega) (by omega) (by rw [val_words]; exact HMUL.out)) ?_
  rintro e w_6 ⟨aT, nT, cT, rfl, HNT, hnT, hT_6, hb_6⟩
  have hbw_6 := nbelow_trans hbw_5 hb_6
  have hA_6 := hA_5.keep hb_6
  have hB_6 := hB_5.keep hb_6
  have hM_6 := hM_5.keep hb_6
  have hQ_6 := hQ_5.keep hb_6
  have hR_6 := hR_5.keep hb_6
  clear hbw_5 hA_5 hB_5 hM_5 hQ_5 hR_5 hb_6
  go_wp2_with fail
  refine Calls.mono (add_eq (r := nm) (k := 0) hT_6.1 hR_6.1 (by omega) (by omega) (by rw [val_words, val_words]; exact HADD2.out)) ?_
  rintro e w_7 ⟨aX, nX, cX, rfl, HNX, hnX, hX_7, hb_7⟩
  have hbw_7 := nbelow_trans hbw_6 hb_7
  have hA_7 := hA_6.keep hb_7
  have hB_7 := hB_6.keep hb_7
  have hM_7 := hM_6.keep hb_7
  have hQ_7 := hQ_6.keep hb_7
  have hR_7 := hR_6.keep hb_7
  have hT_7 := hT_6.keep hb_7
  clear hbw_6 hA_6 hB_6 hM_6 hQ_6 hR_6 hT_6 hb_7
  go_wp2_with fail
  refine Calls.mono (cmp_calls _ _ _ _ _ _ _ _ _ hR_7.1 hB_7 (by omega) (by omega)) ?_
  rintro e w_8 ⟨_, he2, hb_8⟩
  have hbw_8 := nbelow_trans hbw_7 hb_8
  have hA_8 := hA_7.keep hb_8
  have hB_8 := hB_7.keep hb_8
  have hM_8 := hM_7.keep hb_8
  have hQ_8 := hQ_7.keep hb_8
  have hR_8 := hR_7.keep hb_8
  have hT_8 := hT_7.keep hb_8
  have hX_8 := hX_7.keep hb_8
  clear hbw_7 hA_7 hB_7 hM_7 hQ_7 hR_7 hT_7 hX_7 hb_8
  obtain rfl := he2 (by rw [val_words]; exact HCG.out)
  rw [val_words, HCMP.out]
  clear he2
  go_wp2_with fail
  refine Calls.mono (nSame_calls _ _ _ _ _ _ _ _ _ hX_8.1 hM_8.1 (by omega) (by omega)) ?_
  rintro e w_9 ⟨rfl, hb_9⟩
  have hbw_9 := nbelow_trans hbw_8 hb_9
  have hA_9 := hA_8.keep hb_9
  have hB_9 := hB_8.keep hb_9
  have hM_9 := hM_8.keep hb_9
  have hQ_9 := hQ_8.keep hb_9
  have hR_9 := hR_8.keep hb_9
  have hT_9 := hT_8.keep hb_9
  have hX_9 := hX_8.keep hb_9
  clear hbw_8 hA_8 hB_8 hM_8 hQ_8 hR_8 hT_8 hX_8 hb_9
  rw [show decide (wordsOf nm = wordsOf nm) = true by simp]
  clear hT_9
  clear hX_9
  clear hQ_9
  clear hR_9
  clear hB_9
  go_wp2_with fail
  refine Calls.mono (shl_eq hA_9 (by omega) HSHL.out) ?_
  rintro e w_10 ⟨aL, nL, cL, rfl, HNL, hnL, hL_10, hb_10⟩
  have hbw_10 := nbelow_trans hbw_9 hb_10
  have hA_10 := hA_9.keep hb_10
  have hM_10 := hM_9.keep hb_10
  clear hbw_9 hA_9 hM_9 hb_10
  go_wp2_with fail
  refine Calls.mono (shr_eq (r := nm) (l := false) (k := 0) hL_10.1 (by omega) (by omega) (by rw [val_words]; exact HQ2.out) (by rw [val_words]; exact HL2.out) (by rw [val_words]; exact HE2.out)) ?_
  rintro e w_11 ⟨aY, nY, cY, rfl, HNY, hnY, hY_11, hb_11⟩
  have hbw_11 := nbelow_trans hbw_10 hb_11
  have hA_11 := hA_10.keep hb_11
  have hM_11 := hM_10.keep hb_11
  have hL_11 := hL_10.keep hb_11
  clear hbw_10 hA_10 hM_10 hL_10 hb_11
  have hbl := below_one w_11 (.cells #[.int .u64 2] 44)
  have h2w : IsW (w_11.alloc (.cells #[.int .u64 2] 44)) (some ⟨w_11.heap.size, 0, none⟩) 1 1 [2] := isW_lit1 w_11 2 (by omega) (by omega)
  have hA_b := hA_11.keep hbl
  have hM_b := hM_11.keep hbl
  have hL_b := hL_11.keep hbl
  have hY_b := hY_11.keep hbl
  have hbw_b := nbelow_trans hbw_11 hbl
  clear hA_11 hM_11 hL_11 hY_11 hbw_11 hbl
  go_wp2_with fail
  refine Calls.mono (pow_eq h2w (by omega) (by omega) (show powR (val [2]) i = _ from HPOW.out)) ?_
  rintro e w_12 ⟨aP, nP, cP, rfl, HNP, hnP, hP_12, hb_12⟩
  have hbw_12 := nbelow_trans hbw_b hb_12
  have hA_12 := hA_b.keep hb_12
  have hM_12 := hM_b.keep hb_12
  have hL_12 := hL_b.keep hb_12
  have hY_12 := hY_b.keep hb_12
  clear hbw_b hA_b hM_b hL_b hY_b hb_12
  clear h2w
  go_wp2_with fail
  refine Calls.mono (nSame_calls _ _ _ _ _ _ _ _ _ hY_12.1 hM_12.1 (by omega) (by omega)) ?_
  rintro e w_13 ⟨rfl, hb_13⟩
  have hbw_13 := nbelow_trans hbw_12 hb_13
  have hA_13 := hA_12.keep hb_13
  have hM_13 := hM_12.keep hb_13
  have hL_13 := hL_12.keep hb_13
  have hY_13 := hY_12.keep hb_13
  have hPw_13 := hP_12.keep hb_13
  clear hbw_12 hA_12 hM_12 hL_12 hY_12 hP_12 hb_13
  rw [show decide (wordsOf nm = wordsOf nm) = true by simp]
  clear hY_13
  clear hM_13
  go_wp2_with fail
  go_ret
  exact ⟨nret_bool (by simp), hbw_13⟩

set_option maxRecDepth 100000 in
set_option maxHeartbeats 4000000 in
theorem way_ok_no_many (a : Option Addr) (len cap : Nat) (xs : List Int) (b : Option Addr) (len' cap' : Nat) (ys : List Int) (i : Int) (w : World) (hA : IsW w a len cap xs) (hm : len ≤ 17592186044416) (hB : IsW w b len' cap' ys) (hm' : len' ≤ 17592186044416) (hi : -9223372036854775808 ≤ i ∧ i ≤ 9223372036854775807) (hP : TabP w) {sa sd nm q r sl pw : Nat} {se ne de le : Int}
    (hadd : addR (val xs) (val ys) = (sa, 0)) (hsub : subR sa (val ys) = (sd, se)) (hnorm : fitR (val xs) = (nm, ne)) (hse : se = 0) (hsd : sd = nm) (hq : divQ (val xs) (val ys) = q) (hr : divM (val xs) (val ys) = r) (he : divE (val xs) (val ys) = de) (hde : (de == 0) = false) (hshl : shlR (val xs) i = (sl, le)) (hle : le = 0) (hbig : i ≤ 70000) (hi0 : 0 ≤ i) (hq2 : shrQ sl i = nm) (hl2 : shrL sl i = false) (he2 : shrE sl i = 0) (hpow : powR 2 i = (pw, 3)) :
    Calls Tryd.prog 5 #[.slice a len cap, .slice b len' cap', .int .i64 i] w fun e w' => e = .returned (.bool true) ∧ Below w.heap.size w w' := by
  subst hle
  subst hse
  subst hsd
  have HADD : Hid (addR (val xs) (val ys) = (sa, 0)) := hadd
  clear hadd
  have HSUB : Hid (subR sa (val ys) = (sd, 0)) := hsub
  clear hsub
  have HNORM : Hid (fitR (val xs) = (sd, ne)) := hnorm
  clear hnorm
  have HQ : Hid (divQ (val xs) (val ys) = q) := hq
  clear hq
  have HR : Hid (divM (val xs) (val ys) = r) := hr
  clear hr
  have HE : Hid (divE (val xs) (val ys) = de) := he
  clear he
  have HSHL : Hid (shlR (val xs) i = (sl, 0)) := hshl
  clear hshl
  have HQ2 : Hid (shrQ sl i = sd) := hq2
  clear hq2
  have HL2 : Hid (shrL sl i = false) := hl2
  clear hl2
  have HE2 : Hid (shrE sl i = 0) := he2
  clear he2
  have HPOW : Hid (powR 2 i = (pw, 3)) := hpow
  clear hpow
  go_enter Tryd.func5, Tryd.ntmps5
  go_wp2_with fail
  refine Calls.mono (lives_calls w hP) ?_
  rintro e w_1 ⟨rfl, hb_1⟩
  have hbw_1 := hb_1
  have hA_1 := hA.keep hb_1
  have hB_1 := hB.keep hb_1
  have hP_1 := hP.kept hb_1
  clear hA hB hP hb_1
  clear hP_1
  go_wp2_with fail
  refine Calls.mono (add_eq hA_1 hB_1 (by omega) (by omega) HADD.out) ?_
  rintro e w_2 ⟨aS, nS, cS, rfl, HNS, hnS, hS_2, hb_2⟩
  have hbw_2 := nbelow_trans hbw_1 hb_2
  have hA_2 := hA_1.keep hb_2
  have hB_2 := hB_1.keep hb_2
  clear hbw_1 hA_1 hB_1 hb_2
  go_wp2_with fail
  refine Calls.mono (sub_eq (r := sd) (k := 0) hS_2.1 hB_2 (by omega) (by omega) (by rw [val_words]; exact HSUB.out)) ?_
  rintro e w_3 ⟨aD, nD, cD, rfl, HND, hnD, hD_3, hb_3⟩
  have hbw_3 := nbelow_trans hbw_2 hb_3
  have hA_3 := hA_2.keep hb_3
  have hB_3 := hB_2.keep hb_3
  have hS_3 := hS_2.keep hb_3
  clear hbw_2 hA_2 hB_2 hS_2 hb_3
  go_wp2_with fail
  refine Calls.mono (norm_eq2 hA_3 (by omega) HNORM.out) ?_
  rintro e w_4 ⟨aM, nM, cM, rfl, HNM, hnM, hM_4, hb_4⟩
  have hbw_4 := nbelow_trans hbw_3 hb_4
  have hA_4 := hA_3.keep hb_4
  have hB_4 := hB_3.keep hb_4
  have hS_4 := hS_3.keep hb_4
  have hD_4 := hD_3.keep hb_4
  clear hbw_3 hA_3 hB_3 hS_3 hD_3 hb_4
  go_wp2_with fail
  refine Calls.mono (nSame_calls _ _ _ _ _ _ _ _ _ hD_4.1 hM_4.1 (by omega) (by omega)) ?_
  rintro e w_5 ⟨rfl, hb_5⟩
  have hbw_5 := nbelow_trans hbw_4 hb_5
  have hA_5 := hA_4.keep hb_5
  have hB_5 := hB_4.keep hb_5
  have hS_5 := hS_4.keep hb_5
  have hD_5 := hD_4.keep hb_5
  have hM_5 := hM_4.keep hb_5
  clear hbw_4 hA_4 hB_4 hS_4 hD_4 hM_4 hb_5
  rw [show decide (wordsOf sd = wordsOf sd) = true by simp]
  clear hS_5
  clear hD_5
  go_wp2_with fail
  refine Calls.mono (div_eq hA_5 hB_5 (by omega) (by omega) HQ.out HR.out HE.out) ?_
  rintro e w_6 ⟨aq, ar, nq, cq, nr, cr, rfl, HNq, hnq, hQ_6, HNr, hnr, hR_6, hb_6⟩
  have hbw_6 := nbelow_trans hbw_5 hb_6
  have hA_6 := hA_5.keep hb_6
  have hB_6 := hB_5.keep hb_6
  have hM_6 := hM_5.keep hb_6
  clear hbw_5 hA_5 hB_5 hM_5 hb_6
  clear hQ_6
  clear hR_6
  clear hB_6
  go_wp2_with fail
  refine Calls.mono (shl_eq hA_6 (by omega) HSHL.out) ?_
  rintro e w_7 ⟨aL, nL, cL, rfl, HNL, hnL, hL_7, hb_7⟩
  have hbw_7 := nbelow_trans hbw_6 hb_7
  have hA_7 := hA_6.keep hb_7
  have hM_7 := hM_6.keep hb_7
  clear hbw_6 hA_6 hM_6 hb_7
  go_wp2_with fail
  refine Calls.mono (shr_eq (r := sd) (l := false) (k := 0) hL_7.1 (by omega) (by omega) (by rw [val_words]; exact HQ2.out) (by rw [val_words]; exact HL2.out) (by rw [val_words]; exact HE2.out)) ?_
  rintro e w_8 ⟨aY, nY, cY, rfl, HNY, hnY, hY_8, hb_8⟩
  have hbw_8 := nbelow_trans hbw_7 hb_8
  have hA_8 := hA_7.keep hb_8
  have hM_8 := hM_7.keep hb_8
  have hL_8 := hL_7.keep hb_8
  clear hbw_7 hA_7 hM_7 hL_7 hb_8
  have hbl := below_one w_8 (.cells #[.int .u64 2] 44)
  have h2w : IsW (w_8.alloc (.cells #[.int .u64 2] 44)) (some ⟨w_8.heap.size, 0, none⟩) 1 1 [2] := isW_lit1 w_8 2 (by omega) (by omega)
  have hA_b := hA_8.keep hbl
  have hM_b := hM_8.keep hbl
  have hL_b := hL_8.keep hbl
  have hY_b := hY_8.keep hbl
  have hbw_b := nbelow_trans hbw_8 hbl
  clear hA_8 hM_8 hL_8 hY_8 hbw_8 hbl
  go_wp2_with fail
  refine Calls.mono (pow_eq h2w (by omega) (by omega) (show powR (val [2]) i = _ from HPOW.out)) ?_
  rintro e w_9 ⟨aP, nP, cP, rfl, HNP, hnP, hP_9, hb_9⟩
  have hbw_9 := nbelow_trans hbw_b hb_9
  have hA_9 := hA_b.keep hb_9
  have hM_9 := hM_b.keep hb_9
  have hL_9 := hL_b.keep hb_9
  have hY_9 := hY_b.keep hb_9
  clear hbw_b hA_b hM_b hL_b hY_b hb_9
  clear h2w
  go_wp2_with fail
  refine Calls.mono (nSame_calls _ _ _ _ _ _ _ _ _ hY_9.1 hM_9.1 (by omega) (by omega)) ?_
  rintro e w_10 ⟨rfl, hb_10⟩
  have hbw_10 := nbelow_trans hbw_9 hb_10
  have hA_10 := hA_9.keep hb_10
  have hM_10 := hM_9.keep hb_10
  have hL_10 := hL_9.keep hb_10
  have hY_10 := hY_9.keep hb_10
  have hPw_10 := hP_9.keep hb_10
  clear hbw_9 hA_9 hM_9 hL_9 hY_9 hP_9 hb_10
  rw [show decide (wordsOf sd = wordsOf sd) = true by simp]
  clear hY_10
  clear hM_10
  go_wp2_with fail
  go_ret
  exact ⟨nret_bool (by simp), hbw_10⟩

set_option maxRecDepth 100000 in
set_option maxHeartbeats 4000000 in
theorem way_no_no_many (a : Option Addr) (len cap : Nat) (xs : List Int) (b : Option Addr) (len' cap' : Nat) (ys : List Int) (i : Int) (w : World) (hA : IsW w a len cap xs) (hm : len ≤ 17592186044416) (hB : IsW w b len' cap' ys) (hm' : len' ≤ 17592186044416) (hi : -9223372036854775808 ≤ i ∧ i ≤ 9223372036854775807) (hP : TabP w) {sa sd nm q r sl pw : Nat} {se ne de le : Int}
    (hadd : addR (val xs) (val ys) = (sa, 3)) (hsub : subR sa (val ys) = (sd, se)) (hnorm : fitR (val xs) = (nm, ne)) (hq : divQ (val xs) (val ys) = q) (hr : divM (val xs) (val ys) = r) (he : divE (val xs) (val ys) = de) (hde : (de == 0) = false) (hshl : shlR (val xs) i = (sl, le)) (hle : le = 0) (hbig : i ≤ 70000) (hi0 : 0 ≤ i) (hq2 : shrQ sl i = nm) (hl2 : shrL sl i = false) (he2 : shrE sl i = 0) (hpow : powR 2 i = (pw, 3)) :
    Calls Tryd.prog 5 #[.slice a len cap, .slice b len' cap', .int .i64 i] w fun e w' => e = .returned (.bool true) ∧ Below w.heap.size w w' := by
  subst hle
  have HADD : Hid (addR (val xs) (val ys) = (sa, 3)) := hadd
  clear hadd
  have HSUB : Hid (subR sa (val ys) = (sd, se)) := hsub
  clear hsub
  have HNORM : Hid (fitR (val xs) = (nm, ne)) := hnorm
  clear hnorm
  have HQ : Hid (divQ (val xs) (val ys) = q) := hq
  clear hq
  have HR : Hid (divM (val xs) (val ys) = r) := hr
  clear hr
  have HE : Hid (divE (val xs) (val ys) = de) := he
  clear he
  have HSHL : Hid (shlR (val xs) i = (sl, 0)) := hshl
  clear hshl
  have HQ2 : Hid (shrQ sl i = nm) := hq2
  clear hq2
  have HL2 : Hid (shrL sl i = false) := hl2
  clear hl2
  have HE2 : Hid (shrE sl i = 0) := he2
  clear he2
  have HPOW : Hid (powR 2 i = (pw, 3)) := hpow
  clear hpow
  go_enter Tryd.func5, Tryd.ntmps5
  go_wp2_with fail
  refine Calls.mono (lives_calls w hP) ?_
  rintro e w_1 ⟨rfl, hb_1⟩
  have hbw_1 := hb_1
  have hA_1 := hA.keep hb_1
  have hB_1 := hB.keep hb_1
  have hP_1 := hP.kept hb_1
  clear hA hB hP hb_1
  clear hP_1
  go_wp2_with fail
  refine Calls.mono (add_eq hA_1 hB_1 (by omega) (by omega) HADD.out) ?_
  rintro e w_2 ⟨aS, nS, cS, rfl, HNS, hnS, hS_2, hb_2⟩
  have hbw_2 := nbelow_trans hbw_1 hb_2
  have hA_2 := hA_1.keep hb_2
  have hB_2 := hB_1.keep hb_2
  clear hbw_1 hA_1 hB_1 hb_2
  go_wp2_with fail
  refine Calls.mono (sub_eq (r := sd) (k := se) hS_2.1 hB_2 (by omega) (by omega) (by rw [val_words]; exact HSUB.out)) ?_
  rintro e w_3 ⟨aD, nD, cD, rfl, HND, hnD, hD_3, hb_3⟩
  have hbw_3 := nbelow_trans hbw_2 hb_3
  have hA_3 := hA_2.keep hb_3
  have hB_3 := hB_2.keep hb_3
  have hS_3 := hS_2.keep hb_3
  clear hbw_2 hA_2 hB_2 hS_2 hb_3
  go_wp2_with fail
  refine Calls.mono (norm_eq2 hA_3 (by omega) HNORM.out) ?_
  rintro e w_4 ⟨aM, nM, cM, rfl, HNM, hnM, hM_4, hb_4⟩
  have hbw_4 := nbelow_trans hbw_3 hb_4
  have hA_4 := hA_3.keep hb_4
  have hB_4 := hB_3.keep hb_4
  have hS_4 := hS_3.keep hb_4
  have hD_4 := hD_3.keep hb_4
  clear hbw_3 hA_3 hB_3 hS_3 hD_3 hb_4
  clear hS_4
  clear hD_4
  go_wp2_with fail
  refine Calls.mono (div_eq hA_4 hB_4 (by omega) (by omega) HQ.out HR.out HE.out) ?_
  rintro e w_5 ⟨aq, ar, nq, cq, nr, cr, rfl, HNq, hnq, hQ_5, HNr, hnr, hR_5, hb_5⟩
  have hbw_5 := nbelow_trans hbw_4 hb_5
  have hA_5 := hA_4.keep hb_5
  have hB_5 := hB_4.keep hb_5
  have hM_5 := hM_4.keep hb_5
  clear hbw_4 hA_4 hB_4 hM_4 hb_5
  clear hQ_5
  clear hR_5
  clear hB_5
  go_wp2_with fail
  refine Calls.mono (shl_eq hA_5 (by omega) HSHL.out) ?_
  rintro e w_6 ⟨aL, nL, cL, rfl, HNL, hnL, hL_6, hb_6⟩
  have hbw_6 := nbelow_trans hbw_5 hb_6
  have hA_6 := hA_5.keep hb_6
  have hM_6 := hM_5.keep hb_6
  clear hbw_5 hA_5 hM_5 hb_6
  go_wp2_with fail
  refine Calls.mono (shr_eq (r := nm) (l := false) (k := 0) hL_6.1 (by omega) (by omega) (by rw [val_words]; exact HQ2.out) (by rw [val_words]; exact HL2.out) (by rw [val_words]; exact HE2.out)) ?_
  rintro e w_7 ⟨aY, nY, cY, rfl, HNY, hnY, hY_7, hb_7⟩
  have hbw_7 := nbelow_trans hbw_6 hb_7
  have hA_7 := hA_6.keep hb_7
  have hM_7 := hM_6.keep hb_7
  have hL_7 := hL_6.keep hb_7
  clear hbw_6 hA_6 hM_6 hL_6 hb_7
  have hbl := below_one w_7 (.cells #[.int .u64 2] 44)
  have h2w : IsW (w_7.alloc (.cells #[.int .u64 2] 44)) (some ⟨w_7.heap.size, 0, none⟩) 1 1 [2] := isW_lit1 w_7 2 (by omega) (by omega)
  have hA_b := hA_7.keep hbl
  have hM_b := hM_7.keep hbl
  have hL_b := hL_7.keep hbl
  have hY_b := hY_7.keep hbl
  have hbw_b := nbelow_trans hbw_7 hbl
  clear hA_7 hM_7 hL_7 hY_7 hbw_7 hbl
  go_wp2_with fail
  refine Calls.mono (pow_eq h2w (by omega) (by omega) (show powR (val [2]) i = _ from HPOW.out)) ?_
  rintro e w_8 ⟨aP, nP, cP, rfl, HNP, hnP, hP_8, hb_8⟩
  have hbw_8 := nbelow_trans hbw_b hb_8
  have hA_8 := hA_b.keep hb_8
  have hM_8 := hM_b.keep hb_8
  have hL_8 := hL_b.keep hb_8
  have hY_8 := hY_b.keep hb_8
  clear hbw_b hA_b hM_b hL_b hY_b hb_8
  clear h2w
  go_wp2_with fail
  refine Calls.mono (nSame_calls _ _ _ _ _ _ _ _ _ hY_8.1 hM_8.1 (by omega) (by omega)) ?_
  rintro e w_9 ⟨rfl, hb_9⟩
  have hbw_9 := nbelow_trans hbw_8 hb_9
  have hA_9 := hA_8.keep hb_9
  have hM_9 := hM_8.keep hb_9
  have hL_9 := hL_8.keep hb_9
  have hY_9 := hY_8.keep hb_9
  have hPw_9 := hP_8.keep hb_9
  clear hbw_8 hA_8 hM_8 hL_8 hY_8 hP_8 hb_9
  rw [show decide (wordsOf nm = wordsOf nm) = true by simp]
  clear hY_9
  clear hM_9
  go_wp2_with fail
  go_ret
  exact ⟨nret_bool (by simp), hbw_9⟩
end Go.Proofs.YtfafhinjcligaaaDoor

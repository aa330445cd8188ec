/- The walk of the statement NatWay, way by way (big). -/
import Derived.Test.YtfafhinjcligaaaDoorNLives
import Derived.Test.YtfafhinjcligaaaDoorNEq
import Derived.Test.YtfafhinjcligaaaDoorNWay0
namespace Go.Proofs.YtfafhinjcligaaaDoor
open Go.RowKit

set_option maxRecDepth 100000 in
set_option maxHeartbeats 4000000 in
theorem way_ok_ok_big (a : Option Addr) (len cap : Nat) (xs : List Int) (b : Option Addr) (len' cap' : Nat) (ys : List Int) (i : Int) (w : World) (hA : IsW w a len cap xs) (hm : len ≤ 17592186044416) (hB : IsW w b len' cap' ys) (hm' : len' ≤ 17592186044416) (_hi : -9223372036854775808 ≤ i ∧ i ≤ 9223372036854775807) (hP : TabP w) {sa sd nm q r sl : Nat} {se ne de le : Int} {qp : Nat}
    (hadd : addR (val xs) (val ys) = (sa, 0)) (hsub : subR sa (val ys) = (sd, se)) (hnorm : fitR (val xs) = (nm, ne)) (hse : se = 0) (hsd : sd = nm) (hq : divQ (val xs) (val ys) = q) (hr : divM (val xs) (val ys) = r) (he : divE (val xs) (val ys) = de) (hde : de = 0) (hmul : mulR q (val ys) = (qp, 0)) (hadd2 : addR qp r = (nm, 0)) (hcg : (greatB r || greatB (val ys)) = false) (hcmp : cmpN r (val ys) = -1) (hshl : shlR (val xs) i = (sl, le)) (hle : le = 0) (hbig : 70000 < i) :
    Calls Tryd.prog 5 #[.slice a len cap, .slice b len' cap', .int .i64 i] w fun e w' => e = .returned (.bool true) ∧ Below w.heap.size w w' := by
  subst hle
  subst hde
  subst hse
  subst hsd
  have HADD : Hid (addR (val xs) (val ys) = (sa, 0)) := hadd
  clear hadd
  have HSUB : Hid (subR sa (val ys) = (sd, 0)) := hsub
  clear hsub
  have HNORM : Hid (fitR (val xs) = (sd, ne)) := hnorm
  clear hnorm
  have HQ : Hid (divQ (val xs) (val ys) = q) := hq
  clear hq
  have HR : Hid (divM (val xs) (val ys) = r) := hr
  clear hr
  have HE : Hid (divE (val xs) (val ys) = 0) := he
  clear he
  have HMUL : Hid (mulR q (val ys) = (qp, 0)) := hmul
  clear hmul
  have HADD2 : Hid (addR qp r = (sd, 0)) := hadd2
  clear hadd2
  have HCG : Hid ((greatB r || greatB (val ys)) = false) := hcg
  clear hcg
  have HCMP : Hid (cmpN r (val ys) = -1) := hcmp
  clear hcmp
  have HSHL : Hid (shlR (val xs) i = (sl, 0)) := hshl
  clear hshl
  go_enter Tryd.func5, Tryd.ntmps5
  go_wp2_with fail
  refine Calls.mono (lives_calls w hP) ?_
  rintro e w_1 ⟨rfl, hb_1⟩
  have hbw_1 := hb_1
  have hA_1 := hA.keep hb_1
  have hB_1 := hB.keep hb_1
  have hP_1 := hP.kept hb_1
  clear hA hB hP hb_1
  clear hP_1
  go_wp2_with fail
  refine Calls.mono (add_eq hA_1 hB_1 (by omega) (by omega) HADD.out) ?_
  rintro e w_2 ⟨aS, nS, cS, rfl, HNS, hnS, hS_2, hb_2⟩
  have hbw_2 := nbelow_trans hbw_1 hb_2
  have hA_2 := hA_1.keep hb_2
  have hB_2 := hB_1.keep hb_2
  clear hbw_1 hA_1 hB_1 hb_2
  go_wp2_with fail
  refine Calls.mono (sub_eq (r := sd) (k := 0) hS_2.1 hB_2 (by omega) (by omega) (by rw [val_words]; exact HSUB.out)) ?_
  rintro e w_3 ⟨aD, nD, cD, rfl, HND, hnD, hD_3, hb_3⟩
  have hbw_3 := nbelow_trans hbw_2 hb_3
  have hA_3 := hA_2.keep hb_3
  have hB_3 := hB_2.keep hb_3
  have hS_3 := hS_2.keep hb_3
  clear hbw_2 hA_2 hB_2 hS_2 hb_3
  go_wp2_with fail
  refine Calls.mono (norm_eq2 hA_3 (by omega) HNORM.out) ?_
  rintro e w_4 ⟨aM, nM, cM, rfl, HNM, hnM, hM_4, hb_4⟩
  have hbw_4 := nbelow_trans hbw_3 hb_4
  have hA_4 := hA_3.keep hb_4
  have hB_4 := hB_3.keep hb_4
  have hS_4 := hS_3.keep hb_4
  have hD_4 := hD_3.keep hb_4
  clear hbw_3 hA_3 hB_3 hS_3 hD_3 hb_4
  go_wp2_with fail
  refine Calls.mono (nSame_calls _ _ _ _ _ _ _ _ _ hD_4.1 hM_4.1 (by omega) (by omega)) ?_
  rintro e w_5 ⟨rfl, hb_5⟩
  have hbw_5 := nbelow_trans hbw_4 hb_5
  have hA_5 := hA_4.keep hb_5
  have hB_5 := hB_4.keep hb_5
  have hS_5 := hS_4.keep hb_5
  have hD_5 := hD_4.keep hb_5
  have hM_5 := hM_4.keep hb_5
  clear hbw_4 hA_4 hB_4 hS_4 hD_4 hM_4 hb_5
  rw [show decide (wordsOf sd = wordsOf sd) = true by simp]
  clear hS_5
  clear hD_5
  go_wp2_with fail
  refine Calls.mono (div_eq hA_5 hB_5 (by omega) (by omega) HQ.out HR.out HE.out) ?_
  rintro e w_6 ⟨aq, ar, nq, cq, nr, cr, rfl, HNq, hnq, hQ_6, HNr, hnr, hR_6, hb_6⟩
  have hbw_6 := nbelow_trans hbw_5 hb_6
  have hA_6 := hA_5.keep hb_6
  have hB_6 := hB_5.keep hb_6
  have hM_6 := hM_5.keep hb_6
  clear hbw_5 hA_5 hB_5 hM_5 hb_6
  go_wp2_with fail
  refine Calls.mono (mul_eq (r := qp) (k := 0) hQ_6.1 hB_6 (by omega) (by omega) (by rw [val_words]; exact HMUL.out)) ?_
  rintro e w_7 ⟨aT, nT, cT, rfl, HNT, hnT, hT_7, hb_7⟩
  have hbw_7 := nbelow_trans hbw_6 hb_7
  have hA_7 := hA_6.keep hb_7
  have hB_7 := hB_6.keep hb_7
  have hM_7 := hM_6.keep hb_7
  have hQ_7 := hQ_6.keep hb_7
  have hR_7 := hR_6.keep hb_7
  clear hbw_6 hA_6 hB_6 hM_6 hQ_6 hR_6 hb_7
  go_wp2_with fail
  refine Calls.mono (add_eq (r := sd) (k := 0) hT_7.1 hR_7.1 (by omega) (by omega) (by rw [val_words, val_words]; exact HADD2.out)) ?_
  rintro e w_8 ⟨aX, nX, cX, rfl, HNX, hnX, hX_8, hb_8⟩
  have hbw_8 := nbelow_trans hbw_7 hb_8
  have hA_8 := hA_7.keep hb_8
  have hB_8 := hB_7.keep hb_8
  have hM_8 := hM_7.keep hb_8
  have hQ_8 := hQ_7.keep hb_8
  have hR_8 := hR_7.keep hb_8
  have hT_8 := hT_7.keep hb_8
  clear hbw_7 hA_7 hB_7 hM_7 hQ_7 hR_7 hT_7 hb_8
  go_wp2_with fail
  refine Calls.mono (cmp_calls _ _ _ _ _ _ _ _ _ hR_8.1 hB_8 (by omega) (by omega)) ?_
  rintro e w_9 ⟨_, he2, hb_9⟩
  have hbw_9 := nbelow_trans hbw_8 hb_9
  have hA_9 := hA_8.keep hb_9
  have hB_9 := hB_8.keep hb_9
  have hM_9 := hM_8.keep hb_9
  have hQ_9 := hQ_8.keep hb_9
  have hR_9 := hR_8.keep hb_9
  have hT_9 := hT_8.keep hb_9
  have hX_9 := hX_8.keep hb_9
  clear hbw_8 hA_8 hB_8 hM_8 hQ_8 hR_8 hT_8 hX_8 hb_9
  obtain rfl := he2 (by rw [val_words]; exact HCG.out)
  rw [val_words, HCMP.out]
  clear he2
  go_wp2_with fail
  refine Calls.mono (nSame_calls _ _ _ _ _ _ _ _ _ hX_9.1 hM_9.1 (by omega) (by omega)) ?_
  rintro e w_10 ⟨rfl, hb_10⟩
  have hbw_10 := nbelow_trans hbw_9 hb_10
  have hA_10 := hA_9.keep hb_10
  have hB_10 := hB_9.keep hb_10
  have hM_10 := hM_9.keep hb_10
  have hQ_10 := hQ_9.keep hb_10
  have hR_10 := hR_9.keep hb_10
  have hT_10 := hT_9.keep hb_10
  have hX_10 := hX_9.keep hb_10
  clear hbw_9 hA_9 hB_9 hM_9 hQ_9 hR_9 hT_9 hX_9 hb_10
  rw [show decide (wordsOf sd = wordsOf sd) = true by simp]
  clear hT_10
  clear hX_10
  clear hQ_10
  clear hR_10
  clear hB_10
  go_wp2_with fail
  refine Calls.mono (shl_eq hA_10 (by omega) HSHL.out) ?_
  rintro e w_11 ⟨aL, nL, cL, rfl, HNL, hnL, hL_11, hb_11⟩
  have hbw_11 := nbelow_trans hbw_10 hb_11
  have hA_11 := hA_10.keep hb_11
  have hM_11 := hM_10.keep hb_11
  clear hbw_10 hA_10 hM_10 hb_11
  go_wp2_with fail
  go_ret
  exact ⟨nret_bool (by simp), hbw_11⟩

set_option maxRecDepth 100000 in
set_option maxHeartbeats 4000000 in
theorem way_no_ok_big (a : Option Addr) (len cap : Nat) (xs : List Int) (b : Option Addr) (len' cap' : Nat) (ys : List Int) (i : Int) (w : World) (hA : IsW w a len cap xs) (hm : len ≤ 17592186044416) (hB : IsW w b len' cap' ys) (hm' : len' ≤ 17592186044416) (_hi : -9223372036854775808 ≤ i ∧ i ≤ 9223372036854775807) (hP : TabP w) {sa sd nm q r sl : Nat} {se ne de le : Int} {qp : Nat}
    (hadd : addR (val xs) (val ys) = (sa, 3)) (hsub : subR sa (val ys) = (sd, se)) (hnorm : fitR (val xs) = (nm, ne)) (hq : divQ (val xs) (val ys) = q) (hr : divM (val xs) (val ys) = r) (he : divE (val xs) (val ys) = de) (hde : de = 0) (hmul : mulR q (val ys) = (qp, 0)) (hadd2 : addR qp r = (nm, 0)) (hcg : (greatB r || greatB (val ys)) = false) (hcmp : cmpN r (val ys) = -1) (hshl : shlR (val xs) i = (sl, le)) (hle : le = 0) (hbig : 70000 < i) :
    Calls Tryd.prog 5 #[.slice a len cap, .slice b len' cap', .int .i64 i] w fun e w' => e = .returned (.bool true) ∧ Below w.heap.size w w' := by
  subst hle
  subst hde
  have HADD : Hid (addR (val xs) (val ys) = (sa, 3)) := hadd
  clear hadd
  have HSUB : Hid (subR sa (val ys) = (sd, se)) := hsub
  clear hsub
  have HNORM : Hid (fitR (val xs) = (nm, ne)) := hnorm
  clear hnorm
  have HQ : Hid (divQ (val xs) (val ys) = q) := hq
  clear hq
  have HR : Hid (divM (val xs) (val ys) = r) := hr
  clear hr
  have HE : Hid (divE (val xs) (val ys) = 0) := he
  clear he
  have HMUL : Hid (mulR q (val ys) = (qp, 0)) := hmul
  clear hmul
  have HADD2 : Hid (addR qp r = (nm, 0)) := hadd2
  clear hadd2
  have HCG : Hid ((greatB r || greatB (val ys)) = false) := hcg
  clear hcg
  have HCMP : Hid (cmpN r (val ys) = -1) := hcmp
  clear hcmp
  have HSHL : Hid (shlR (val xs) i = (sl, 0)) := hshl
  clear hshl
  go_enter Tryd.func5, Tryd.ntmps5
  go_wp2_with fail
  refine Calls.mono (lives_calls w hP) ?_
  rintro e w_1 ⟨rfl, hb_1⟩
  have hbw_1 := hb_1
  have hA_1 := hA.keep hb_1
  have hB_1 := hB.keep hb_1
  have hP_1 := hP.kept hb_1
  clear hA hB hP hb_1
  clear hP_1
  go_wp2_with fail
  refine Calls.mono (add_eq hA_1 hB_1 (by omega) (by omega) HADD.out) ?_
  rintro e w_2 ⟨aS, nS, cS, rfl, HNS, hnS, hS_2, hb_2⟩
  have hbw_2 := nbelow_trans hbw_1 hb_2
  have hA_2 := hA_1.keep hb_2
  have hB_2 := hB_1.keep hb_2
  clear hbw_1 hA_1 hB_1 hb_2
  go_wp2_with fail
  refine Calls.mono (sub_eq (r := sd) (k := se) hS_2.1 hB_2 (by omega) (by omega) (by rw [val_words]; exact HSUB.out)) ?_
  rintro e w_3 ⟨aD, nD, cD, rfl, HND, hnD, hD_3, hb_3⟩
  have hbw_3 := nbelow_trans hbw_2 hb_3
  have hA_3 := hA_2.keep hb_3
  have hB_3 := hB_2.keep hb_3
  have hS_3 := hS_2.keep hb_3
  clear hbw_2 hA_2 hB_2 hS_2 hb_3
  go_wp2_with fail
  refine Calls.mono (norm_eq2 hA_3 (by omega) HNORM.out) ?_
  rintro e w_4 ⟨aM, nM, cM, rfl, HNM, hnM, hM_4, hb_4⟩
  have hbw_4 := nbelow_trans hbw_3 hb_4
  have hA_4 := hA_3.keep hb_4
  have hB_4 := hB_3.keep hb_4
  have hS_4 := hS_3.keep hb_4
  have hD_4 := hD_3.keep hb_4
  clear hbw_3 hA_3 hB_3 hS_3 hD_3 hb_4
  clear hS_4
  clear hD_4
  go_wp2_with fail
  refine Calls.mono (div_eq hA_4 hB_4 (by omega) (by omega) HQ.out HR.out HE.out) ?_
  rintro e w_5 ⟨aq, ar, nq, cq, nr, cr, rfl, HNq, hnq, hQ_5, HNr, hnr, hR_5, hb_5⟩
  have hbw_5 := nbelow_trans hbw_4 hb_5
  have hA_5 := hA_4.keep hb_5
  have hB_5 := hB_4.keep hb_5
  have hM_5 := hM_4.keep hb_5
  clear hbw_4 hA_4 hB_4 hM_4 hb_5
  go_wp2_with fail
  refine Calls.mono (mul_eq (r := qp) (k := 0) hQ_5.1 hB_5 (by omega) (by omega) (by rw [val_words]; exact HMUL.out)) ?_
  rintro e w_6 ⟨aT, nT, cT, rfl, HNT, hnT, hT_6, hb_6⟩
  have hbw_6 := nbelow_trans hbw_5 hb_6
  have hA_6 := hA_5.keep hb_6
  have hB_6 := hB_5.keep hb_6
  have hM_6 := hM_5.keep hb_6
  have hQ_6 := hQ_5.keep hb_6
  have hR_6 := hR_5.keep hb_6
  clear hbw_5 hA_5 hB_5 hM_5 hQ_5 hR_5 hb_6
  go_wp2_with fail
  refine Calls.mono (add_eq (r := nm) (k := 0) hT_6.1 hR_6.1 (by omega) (by omega) (by rw [val_words, val_words]; exact HADD2.out)) ?_
  rintro e w_7 ⟨aX, nX, cX, rfl, HNX, hnX, hX_7, hb_7⟩
  have hbw_7 := nbelow_trans hbw_6 hb_7
  have hA_7 := hA_6.keep hb_7
  have hB_7 := hB_6.keep hb_7
  have hM_7 := hM_6.keep hb_7
  have hQ_7 := hQ_6.keep hb_7
  have hR_7 := hR_6.keep hb_7
  have hT_7 := hT_6.keep hb_7
  clear hbw_6 hA_6 hB_6 hM_6 hQ_6 hR_6 hT_6 hb_7
  go_wp2_with fail
  refine Calls.mono (cmp_calls _ _ _ _ _ _ _ _ _ hR_7.1 hB_7 (by omega) (by omega)) ?_
  rintro e w_8 ⟨_, he2, hb_8⟩
  have hbw_8 := nbelow_trans hbw_7 hb_8
  have hA_8 := hA_7.keep hb_8
  have hB_8 := hB_7.keep hb_8
  have hM_8 := hM_7.keep hb_8
  have hQ_8 := hQ_7.keep hb_8
  have hR_8 := hR_7.keep hb_8
  have hT_8 := hT_7.keep hb_8
  have hX_8 := hX_7.keep hb_8
  clear hbw_7 hA_7 hB_7 hM_7 hQ_7 hR_7 hT_7 hX_7 hb_8
  obtain rfl := he2 (by rw [val_words]; exact HCG.out)
  rw [val_words, HCMP.out]
  clear he2
  go_wp2_with fail
  refine Calls.mono (nSame_calls _ _ _ _ _ _ _ _ _ hX_8.1 hM_8.1 (by omega) (by omega)) ?_
  rintro e w_9 ⟨rfl, hb_9⟩
  have hbw_9 := nbelow_trans hbw_8 hb_9
  have hA_9 := hA_8.keep hb_9
  have hB_9 := hB_8.keep hb_9
  have hM_9 := hM_8.keep hb_9
  have hQ_9 := hQ_8.keep hb_9
  have hR_9 := hR_8.keep hb_9
  have hT_9 := hT_8.keep hb_9
  have hX_9 := hX_8.keep hb_9
  clear hbw_8 hA_8 hB_8 hM_8 hQ_8 hR_8 hT_8 hX_8 hb_9
  rw [show decide (wordsOf nm = wordsOf nm) = true by simp]
  clear hT_9
  clear hX_9
  clear hQ_9
  clear hR_9
  clear hB_9
  go_wp2_with fail
  refine Calls.mono (shl_eq hA_9 (by omega) HSHL.out) ?_
  rintro e w_10 ⟨aL, nL, cL, rfl, HNL, hnL, hL_10, hb_10⟩
  have hbw_10 := nbelow_trans hbw_9 hb_10
  have hA_10 := hA_9.keep hb_10
  have hM_10 := hM_9.keep hb_10
  clear hbw_9 hA_9 hM_9 hb_10
  go_wp2_with fail
  go_ret
  exact ⟨nret_bool (by simp), hbw_10⟩

set_option maxRecDepth 100000 in
set_option maxHeartbeats 4000000 in
theorem way_ok_no_big (a : Option Addr) (len cap : Nat) (xs : List Int) (b : Option Addr) (len' cap' : Nat) (ys : List Int) (i : Int) (w : World) (hA : IsW w a len cap xs) (hm : len ≤ 17592186044416) (hB : IsW w b len' cap' ys) (hm' : len' ≤ 17592186044416) (_hi : -9223372036854775808 ≤ i ∧ i ≤ 9223372036854775807) (hP : TabP w) {sa sd nm q r sl : Nat} {se ne de le : Int}
    (hadd : addR (val xs) (val ys) = (sa, 0)) (hsub : subR sa (val ys) = (sd, se)) (hnorm : fitR (val xs) = (nm, ne)) (hse : se = 0) (hsd : sd = nm) (hq : divQ (val xs) (val ys) = q) (hr : divM (val xs) (val ys) = r) (he : divE (val xs) (val ys) = de) (hde : (de == 0) = false) (hshl : shlR (val xs) i = (sl, le)) (hle : le = 0) (hbig : 70000 < i) :
    Calls Tryd.prog 5 #[.slice a len cap, .slice b len' cap', .int .i64 i] w fun e w' => e = .returned (.bool true) ∧ Below w.heap.size w w' := by
  subst hle
  subst hse
  subst hsd
  have HADD : Hid (addR (val xs) (val ys) = (sa, 0)) := hadd
  clear hadd
  have HSUB : Hid (subR sa (val ys) = (sd, 0)) := hsub
  clear hsub
  have HNORM : Hid (fitR (val xs) = (sd, ne)) := hnorm
  clear hnorm
  have HQ : Hid (divQ (val xs) (val ys) = q) := hq
  clear hq
  have HR : Hid (divM (val xs) (val ys) = r) := hr
  clear hr
  have HE : Hid (divE (val xs) (val ys) = de) := he
  clear he
  have HSHL : Hid (shlR (val xs) i = (sl, 0)) := hshl
  clear hshl
  go_enter Tryd.func5, Tryd.ntmps5
  go_wp2_with fail
  refine Calls.mono (lives_calls w hP) ?_
  rintro e w_1 ⟨rfl, hb_1⟩
  have hbw_1 := hb_1
  have hA_1 := hA.keep hb_1
  have hB_1 := hB.keep hb_1
  have hP_1 := hP.kept hb_1
  clear hA hB hP hb_1
  clear hP_1
  go_wp2_with fail
  refine Calls.mono (add_eq hA_1 hB_1 (by omega) (by omega) HADD.out) ?_
  rintro e w_2 ⟨aS, nS, cS, rfl, HNS, hnS, hS_2, hb_2⟩
  have hbw_2 := nbelow_trans hbw_1 hb_2
  have hA_2 := hA_1.keep hb_2
  have hB_2 := hB_1.keep hb_2
  clear hbw_1 hA_1 hB_1 hb_2
  go_wp2_with fail
  refine Calls.mono (sub_eq (r := sd) (k := 0) hS_2.1 hB_2 (by omega) (by omega) (by rw [val_words]; exact HSUB.out)) ?_
  rintro e w_3 ⟨aD, nD, cD, rfl, HND, hnD, hD_3, hb_3⟩
  have hbw_3 := nbelow_trans hbw_2 hb_3
  have hA_3 := hA_2.keep hb_3
  have hB_3 := hB_2.keep hb_3
  have hS_3 := hS_2.keep hb_3
  clear hbw_2 hA_2 hB_2 hS_2 hb_3
  go_wp2_with fail
  refine Calls.mono (norm_eq2 hA_3 (by omega) HNORM.out) ?_
  rintro e w_4 ⟨aM, nM, cM, rfl, HNM, hnM, hM_4, hb_4⟩
  have hbw_4 := nbelow_trans hbw_3 hb_4
  have hA_4 := hA_3.keep hb_4
  have hB_4 := hB_3.keep hb_4
  have hS_4 := hS_3.keep hb_4
  have hD_4 := hD_3.keep hb_4
  clear hbw_3 hA_3 hB_3 hS_3 hD_3 hb_4
  go_wp2_with fail
  refine Calls.mono (nSame_calls _ _ _ _ _ _ _ _ _ hD_4.1 hM_4.1 (by omega) (by omega)) ?_
  rintro e w_5 ⟨rfl, hb_5⟩
  have hbw_5 := nbelow_trans hbw_4 hb_5
  have hA_5 := hA_4.keep hb_5
  have hB_5 := hB_4.keep hb_5
  have hS_5 := hS_4.keep hb_5
  have hD_5 := hD_4.keep hb_5
  have hM_5 := hM_4.keep hb_5
  clear hbw_4 hA_4 hB_4 hS_4 hD_4 hM_4 hb_5
  rw [show decide (wordsOf sd = wordsOf sd) = true by simp]
  clear hS_5
  clear hD_5
  go_wp2_with fail
  refine Calls.mono (div_eq hA_5 hB_5 (by omega) (by omega) HQ.out HR.out HE.out) ?_
  rintro e w_6 ⟨aq, ar, nq, cq, nr, cr, rfl, HNq, hnq, hQ_6, HNr, hnr, hR_6, hb_6⟩
  have hbw_6 := nbelow_trans hbw_5 hb_6
  have hA_6 := hA_5.keep hb_6
  have hB_6 := hB_5.keep hb_6
  have hM_6 := hM_5.keep hb_6
  clear hbw_5 hA_5 hB_5 hM_5 hb_6
  clear hQ_6
  clear hR_6
  clear hB_6
  go_wp2_with fail
  refine Calls.mono (shl_eq hA_6 (by omega) HSHL.out) ?_
  rintro e w_7 ⟨aL, nL, cL, rfl, HNL, hnL, hL_7, hb_7⟩
  have hbw_7 := nbelow_trans hbw_6 hb_7
  have hA_7 := hA_6.keep hb_7
  have hM_7 := hM_6.keep hb_7
  clear hbw_6 hA_6 hM_6 hb_7
  go_wp2_with fail
  go_ret
  exact ⟨nret_bool (by simp), hbw_7⟩

set_option maxRecDepth 100000 in
set_option maxHeartbeats 4000000 in
theorem way_no_no_big (a : Option Addr) (len cap : Nat) (xs : List Int) (b : Option Addr) (len' cap' : Nat) (ys : List Int) (i : Int) (w : World) (hA : IsW w a len cap xs) (hm : len ≤ 17592186044416) (hB : IsW w b len' cap' ys) (hm' : len' ≤ 17592186044416) (_hi : -9223372036854775808 ≤ i ∧ i ≤ 9223372036854775807) (hP : TabP w) {sa sd nm q r sl : Nat} {se ne de le : Int}
    (hadd : addR (val xs) (val ys) = (sa, 3)) (hsub : subR sa (val ys) = (sd, se)) (hnorm : fitR (val xs) = (nm, ne)) (hq : divQ (val xs) (val ys) = q) (hr : divM (val xs) (val ys) = r) (he : divE (val xs) (val ys) = de) (hde : (de == 0) = false) (hshl : shlR (val xs) i = (sl, le)) (hle : le = 0) (hbig : 70000 < i) :
    Calls Tryd.prog 5 #[.slice a len cap, .slice b len' cap', .int .i64 i] w fun e w' => e = .returned (.bool true) ∧ Below w.heap.size w w' := by
  subst hle
  have HADD : Hid (addR (val xs) (val ys) = (sa, 3)) := hadd
  clear hadd
  have HSUB : Hid (subR sa (val ys) = (sd, se)) := hsub
  clear hsub
  have HNORM : Hid (fitR (val xs) = (nm, ne)) := hnorm
  clear hnorm
  have HQ : Hid (divQ (val xs) (val ys) = q) := hq
  clear hq
  have HR : Hid (divM (val xs) (val ys) = r) := hr
  clear hr
  have HE : Hid (divE (val xs) (val ys) = de) := he
  clear he
  have HSHL : Hid (shlR (val xs) i = (sl, 0)) := hshl
  clear hshl
  go_enter Tryd.func5, Tryd.ntmps5
  go_wp2_with fail
  refine Calls.mono (lives_calls w hP) ?_
  rintro e w_1 ⟨rfl, hb_1⟩
  have hbw_1 := hb_1
  have hA_1 := hA.keep hb_1
  have hB_1 := hB.keep hb_1
  have hP_1 := hP.kept hb_1
  clear hA hB hP hb_1
  clear hP_1
  go_wp2_with fail
  refine Calls.mono (add_eq hA_1 hB_1 (by omega) (by omega) HADD.out) ?_
  rintro e w_2 ⟨aS, nS, cS, rfl, HNS, hnS, hS_2, hb_2⟩
  have hbw_2 := nbelow_trans hbw_1 hb_2
  have hA_2 := hA_1.keep hb_2
  have hB_2 := hB_1.keep hb_2
  clear hbw_1 hA_1 hB_1 hb_2
  go_wp2_with fail
  refine Calls.mono (sub_eq (r := sd) (k := se) hS_2.1 hB_2 (by omega) (by omega) (by rw [val_words]; exact HSUB.out)) ?_
  rintro e w_3 ⟨aD, nD, cD, rfl, HND, hnD, hD_3, hb_3⟩
  have hbw_3 := nbelow_trans hbw_2 hb_3
  have hA_3 := hA_2.keep hb_3
  have hB_3 := hB_2.keep hb_3
  have hS_3 := hS_2.keep hb_3
  clear hbw_2 hA_2 hB_2 hS_2 hb_3
  go_wp2_with fail
  refine Calls.mono (norm_eq2 hA_3 (by omega) HNORM.out) ?_
  rintro e w_4 ⟨aM, nM, cM, rfl, HNM, hnM, hM_4, hb_4⟩
  have hbw_4 := nbelow_trans hbw_3 hb_4
  have hA_4 := hA_3.keep hb_4
  have hB_4 := hB_3.keep hb_4
  have hS_4 := hS_3.keep hb_4
  have hD_4 := hD_3.keep hb_4
  clear hbw_3 hA_3 hB_3 hS_3 hD_3 hb_4
  clear hS_4
  clear hD_4
  go_wp2_with fail
  refine Calls.mono (div_eq hA_4 hB_4 (by omega) (by omega) HQ.out HR.out HE.out) ?_
  rintro e w_5 ⟨aq, ar, nq, cq, nr, cr, rfl, HNq, hnq, hQ_5, HNr, hnr, hR_5, hb_5⟩
  have hbw_5 := nbelow_trans hbw_4 hb_5
  have hA_5 := hA_4.keep hb_5
  have hB_5 := hB_4.keep hb_5
  have hM_5 := hM_4.keep hb_5
  clear hbw_4 hA_4 hB_4 hM_4 hb_5
  clear hQ_5
  clear hR_5
  clear hB_5
  go_wp2_with fail
  refine Calls.mono (shl_eq hA_5 (by omega) HSHL.out) ?_
  rintro e w_6 ⟨aL, nL, cL, rfl, HNL, hnL, hL_6, hb_6⟩
  have hbw_6 := nbelow_trans hbw_5 hb_6
  have hA_6 := hA_5.keep hb_6
  have hM_6 := hM_5.keep hb_6
  clear hbw_5 hA_5 hM_5 hb_6
  go_wp2_with fail
  go_ret
  exact ⟨nret_bool (by simp), hbw_6⟩
end Go.Proofs.YtfafhinjcligaaaDoor

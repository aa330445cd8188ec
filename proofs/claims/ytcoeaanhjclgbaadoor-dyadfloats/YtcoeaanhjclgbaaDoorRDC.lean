/- The program's To, whole. The document's To. The document's To, where it is a float. The document's To, the normal floats, and whole. The statement DyadFloats. -/
import Derived.Test.YtcoeaanhjclgbaaDoorDTo2
import Derived.Test.YtcoeaanhjclgbaaDoorRDB
import Derived.Test.YtcoeaanhjclgbaaDoorDBeg
namespace Go.Proofs.YtcoeaanhjclgbaaDoor

section
open Go.RowKit

theorem word_of {w : World} {a : Option Addr} {n c m : Nat} (hI : IsW w a n c (wordsOf m)) (h0 : m ≠ 0) (h53 : blen m ≤ 53) : n = 1 ∧ ∃ b off, a = some ⟨b, off, none⟩ ∧ w.cell? ⟨b, off, none⟩ = some (.int .u64 (m : Int)) := by
  have hl : m < 18446744073709551616 := by have := (blen_le m 53).1 h53; have : (2 : Nat) ^ 53 = 9007199254740992 := rfl; omega
  obtain ⟨h1, h2, h4, h3⟩ := hI
  rw [words_one m h0 hl] at h1 h3
  have hn : n = 1 := h1
  subst hn
  obtain ⟨b, off, e1, e2, e3⟩ := h3 0 (by omega)
  exact ⟨rfl, b, off, e1, e3⟩
theorem fields_calls (s : Bool) (a : Option Addr) (n c m : Nat) (e : Int) (w : World) (hI : IsW w a n c (wordsOf m)) (hg : greatB m = false) (h0 : m ≠ 0) (h53 : blen m ≤ 53) (he : -1074 ≤ e) (ht : e + (blen m : Int) - 1 ≤ 1023) :
    Calls Tryd.prog 54 #[numV s a n c e false] w fun r w' => r = .returned (.agg #[.bool s, .int .i64 (fldE m e), .int .u64 (fldF m e)]) ∧ Below w.heap.size w w' := by
  obtain ⟨rfl, b, off, rfl, hc0⟩ := word_of hI h0 h53
  have hb1 : blen m ≠ 0 := fun q => h0 ((blen_nil m).1 q)
  unfold fldE fldF
  by_cases hl : e + (blen m : Int) - 1 < -1022
  · rw [if_pos hl, if_pos hl]
    exact fields_low s b off c m e w hI hc0 hg (e + 1074).toNat (by omega) (by omega)
  · rw [if_neg hl, if_neg hl]
    exact fields_high s b off c m e w hI hc0 hg h0 (53 - blen m) (by omega) (by omega) (by omega)
theorem fld_ok (m : Nat) (e : Int) (h0 : m ≠ 0) (h53 : blen m ≤ 53) (he : -1074 ≤ e) (ht : e + (blen m : Int) - 1 ≤ 1023) : U (fldF m e) ∧ joinE (fldE m e) (fldF m e) = 0 := by
  unfold fldE fldF joinE
  by_cases hl : e + (blen m : Int) - 1 < -1022
  · rw [if_pos hl, if_pos hl]
    have := low_room (m := m) (j := (e + 1074).toNat) (by omega)
    generalize m * 2 ^ (e + 1074).toNat = F at *
    exact ⟨⟨by omega, by omega⟩, by rw [if_neg (by omega)]⟩
  · rw [if_neg hl, if_neg hl]
    have := high_room h0 (j := 53 - blen m) (by omega)
    generalize m * 2 ^ (53 - blen m) = F at *
    exact ⟨⟨by omega, by omega⟩, by rw [if_neg (by omega)]⟩

set_option maxRecDepth 100000 in
set_option maxHeartbeats 1000000 in
theorem to_yes (s : Bool) (a : Option Addr) (len cap : Nat) (xs : List Int) (e : Int) (w : World) (h : IsW w a len cap xs) (hm : len ≤ 17592186044416) (hT : Tab w) (hr : rightB (val xs) e = true) (h0 : val xs ≠ 0) (hA : (blen (formD s (val xs) e).2.1 : Int) ≤ 53) (hB : (formD s (val xs) e).2.2 + (blen (formD s (val xs) e).2.1 : Int) - 1 ≤ 1023) (hC : -1074 ≤ (formD s (val xs) e).2.2) (J : Int) (hJ : toV (formD s (val xs) e) = J) :
    Calls Tryd.prog 18 #[dyV s a len cap e] w fun r w' => r = .returned (.tuple #[.int .u64 J, .bool true]) ∧ Below w.heap.size w w' := by
  have hb0 : Below w.heap.size w ((w.alloc (.cells #[.bool s, .slice a len cap, .int .i64 e] 25)).alloc (.cells #[.bool s, .slice a len cap, .int .i64 e] 25)) := nbelow_trans (below_one _ _) (below_one _ _)
  have RC : Hid _ := right1_calls (w.heap.size + 1) s a len cap xs e _ (h.keep hb0) hm (by go_simp) (by go_simp) (by go_simp)
  have HCG : Hid (canG s (val xs) e = formD s (val xs) e) := canG_no (rightB_yes hr).1
  have HEB : Hid (-4611686018427387904 ≤ e ∧ e ≤ 4611686018427387904) := by have := (rightB_yes hr).2; rw [Hid]; omega
  have HGR : Hid (greatB (formD s (val xs) e).2.1 = false) := great_mono (form_amount_le _ _ _) (rightB_yes hr).1
  rw [hr] at RC
  have HNE : Hid ((formD s (val xs) e).2.1 ≠ 0) := by rw [Hid, form_pos s h0]; intro q; have := (odd_part h0).1; simp only at q; rw [q] at this; omega
  have hpe : -4611686018427387904 ≤ (formD s (val xs) e).2.2 ∧ (formD s (val xs) e).2.2 ≤ 4611686018427387904 := by have h3 := (rightB_yes hr).2; have h4 := tz_le_blen (val xs); have h5 := (great_not _).1 (rightB_yes hr).1; rw [form_pos s h0]; simp only; omega
  clear hr h0
  go_enter Tryd.func18, Tryd.ntmps18
  go_wp2_with fail
  refine Calls.mono RC.out ?_
  rintro r w1 ⟨rfl, hb1⟩
  have hb01 := nbelow_trans hb0 hb1
  have k0 : w1.cell? ⟨w.heap.size, 0, none⟩ = some (.bool s) := dcarry_cell hb1 (by go_simp)
  have k1 : w1.cell? ⟨w.heap.size, 1, none⟩ = some (.slice a len cap) := dcarry_cell hb1 (by go_simp)
  have k2 : w1.cell? ⟨w.heap.size, 2, none⟩ = some (.int .i64 e) := dcarry_cell hb1 (by go_simp)
  go_wp2_with fail
  refine Calls.mono (canonical_calls s a len cap xs e w1 (h.keep hb01) hm (hT.kept hb01)) ?_
  rintro r w2 ⟨a2, n2, c2, e2, rfl, HE, HN2, HZ2, hn2, hO2, hb2⟩
  rw [HCG.out] at HE HN2 hO2 ⊢
  obtain rfl := HE.out HEB.out.1 HEB.out.2
  have hb02 := nbelow_trans hb01 hb2
  have hz : n2 ≠ 0 := fun q => HNE.out ((words_nil _).1 (List.length_eq_zero_iff.1 (HN2.out.symm.trans q)))
  have hI2 := hO2.1
  have hg2 := HGR.out
  generalize formD s (val xs) e = p at *
  obtain ⟨ps, pm, pe⟩ := p
  simp only at *
  have SC : Hid _ := fun w' q => size_calls ps a2 n2 c2 pm pe false w' q hn2 hg2
  have TC : Hid _ := fun w' q => top_calls ps a2 n2 c2 pm pe false w' q hn2 hg2 hpe
  have FC : Hid _ := fun w' q => fields_calls ps a2 n2 c2 pm pe w' q hg2 HNE.out (by omega) (by omega) (by omega)
  have hfo := fld_ok pm pe HNE.out (by omega) (by omega) (by omega)
  have JC : Hid _ := fun w' => join_calls ps (fldE pm pe) (fldF pm pe) w' hfo.1
  have hJ' : joinV ps (fldE pm pe) (fldF pm pe) = J := hJ
  rw [hfo.2, hJ'] at JC
  clear hJ hJ' hfo
  generalize fldE pm pe = FE at *
  generalize fldF pm pe = FF at *
  have hz' : ¬ (n2 : Int) = 0 := by omega
  obtain ⟨hp1, hp2⟩ := hpe
  generalize blen pm = bl at *
  clear HE HCG HEB HGR hb1 hb2 hb01 k0 k1 k2
  go_wp2_with fail
  refine Calls.mono (zero_calls _ _ _ _ _ _ _) ?_
  rintro r w3 ⟨rfl, rfl⟩
  have e1 : ((n2 : Int) == 0) = false := by simp; omega
  rw [e1]
  go_wp2_with fail
  have hbx : Below w2.heap.size w2 ((w2.alloc (.cells #[.bool ps, .slice a2 n2 c2, .int .i64 pe, .bool false] 49)).alloc (.cells #[.bool ps, .slice a2 n2 c2, .int .i64 pe, .bool false] 49)) := nbelow_trans (below_one _ _) (below_one _ _)
  refine Calls.mono (SC.out _ (hI2.keep hbx)) ?_
  rintro r w4 ⟨rfl, hb4⟩
  have x0 : w4.cell? ⟨w2.heap.size, 0, none⟩ = some (.bool ps) := dcarry_cell hb4 (by go_simp)
  have x1 : w4.cell? ⟨w2.heap.size, 1, none⟩ = some (.slice a2 n2 c2) := dcarry_cell hb4 (by go_simp)
  have x2 : w4.cell? ⟨w2.heap.size, 2, none⟩ = some (.int .i64 pe) := dcarry_cell hb4 (by go_simp)
  have x3 : w4.cell? ⟨w2.heap.size, 3, none⟩ = some (.bool false) := dcarry_cell hb4 (by go_simp)
  have hb24 := nbelow_trans hbx hb4
  have hb04 := nbelow_trans hb02 hb24
  have hI4 := hI2.keep hb24
  clear hb4 hbx
  go_wp2_with fail
  refine Calls.mono (TC.out _ hI4) ?_
  rintro r w5 ⟨rfl, hb5⟩
  replace x0 := dcarry_cell hb5 x0
  replace x1 := dcarry_cell hb5 x1
  replace x2 := dcarry_cell hb5 x2
  replace x3 := dcarry_cell hb5 x3
  replace hI4 := hI4.keep hb5
  replace hb04 := nbelow_trans hb04 hb5
  clear hb5
  go_wp2_with fail
  refine Calls.mono (FC.out _ hI4) ?_
  rintro r w6 ⟨rfl, hb6⟩
  replace hb04 := nbelow_trans hb04 hb6
  clear hb6
  go_wp2_with fail
  refine Calls.mono (JC.out _) ?_
  rintro r w7 ⟨rfl, hb7⟩
  replace hb04 := nbelow_trans hb04 hb7
  clear hb7
  go_wp2_with fail
  go_ret2
  exact ⟨rfl, hb04⟩
theorem to_calls (s : Bool) (a : Option Addr) (len cap : Nat) (xs : List Int) (e : Int) (w : World) (h : IsW w a len cap xs) (hm : len ≤ 17592186044416) (hT : Tab w) :
    Calls Tryd.prog 18 #[dyV s a len cap e] w fun r w' => r = .returned (.tuple #[.int .u64 (toR s (val xs) e).1, .bool (toR s (val xs) e).2]) ∧ Below w.heap.size w w' := by
  cases hr : rightB (val xs) e with
  | false => rw [toR_not hr]; exact to_not s a len cap xs e w h hm hr
  | true =>
    by_cases h0 : val xs = 0
    · have e0 : toR s (val xs) e = (0, true) := by rw [h0] at hr ⊢; exact toR_zero hr
      rw [e0]; exact to_zero s a len cap xs e w h hm hT hr h0
    · cases hb : toB (formD s (val xs) e) with
      | true =>
        rw [toR_yes hr h0 hb]
        have hb' := hb
        unfold toB at hb'
        have hb2 := of_decide_eq_true hb'
        exact to_yes s a len cap xs e w h hm hT hr h0 (by omega) (by omega) (by omega) _ rfl
      | false =>
        rw [toR_no hr h0 hb]
        have hb' := hb
        unfold toB at hb'
        have hb2 := of_decide_eq_false hb'
        by_cases hA : 53 < (blen (formD s (val xs) e).2.1 : Int)
        · exact to_noA s a len cap xs e w h hm hT hr h0 hA
        · by_cases hB : 1023 < (formD s (val xs) e).2.2 + (blen (formD s (val xs) e).2.1 : Int) - 1
          · exact to_noB s a len cap xs e w h hm hT hr h0 (by omega) hB
          · exact to_noC s a len cap xs e w h hm hT hr h0 (by omega) (by omega) (by omega)

end

section
open Go.RowKit

set_option maxRecDepth 100000 in
set_option maxHeartbeats 1000000 in
theorem qto_not (s : Bool) (a : Option Addr) (len cap : Nat) (xs : List Int) (e : Int) (w : World) (h : IsW w a len cap xs) (hm : len ≤ 17592186044000) (hr : rightB (val xs) e = false) :
    Calls Tryd.prog 19 #[dyV s a len cap e] w fun r w' => r = .returned (.tuple #[.int .u64 0, .bool false]) ∧ Below w.heap.size w w' := by
  have hb0 := below_one w (.cells #[.bool s, .slice a len cap, .int .i64 e] 25)
  have RC : Hid _ := qRight_calls s a len cap xs e _ (h.keep hb0) (by omega)
  rw [hr] at RC
  clear hr
  go_enter Tryd.func19, Tryd.ntmps19
  go_wp2_with fail
  refine Calls.mono RC.out ?_
  rintro r w1 ⟨rfl, hb1⟩
  go_wp2_with fail
  go_ret2
  exact ⟨rfl, nbelow_trans hb0 hb1⟩

set_option maxRecDepth 100000 in
set_option maxHeartbeats 4000000 in
theorem qto_zero (s : Bool) (a : Option Addr) (len cap : Nat) (xs : List Int) (e : Int) (w : World) (h : IsW w a len cap xs) (hm : len ≤ 17592186044000) (hr : rightB (val xs) e = true) (h0 : val xs = 0) :
    Calls Tryd.prog 19 #[dyV s a len cap e] w fun r w' => r = .returned (.tuple #[.int .u64 0, .bool true]) ∧ Below w.heap.size w w' := by
  have hb0 := below_one w (.cells #[.bool s, .slice a len cap, .int .i64 e] 25)
  have RC : Hid _ := qRight_calls s a len cap xs e _ (h.keep hb0) (by omega)
  have HEB : Hid (-4611686018427387904 ≤ e ∧ e ≤ 4611686018427387904) := by have := (rightB_yes hr).2; rw [Hid]; omega
  have HGR : Hid (greatB (formD s (val xs) e).2.1 = false) := great_mono (form_amount_le _ _ _) (rightB_yes hr).1
  rw [hr] at RC
  have HF : Hid (formD s (val xs) e = (false, 0, 0)) := by rw [Hid, h0, form_zero]
  clear hr h0
  go_enter Tryd.func19, Tryd.ntmps19
  go_wp2_with fail
  refine Calls.mono RC.out ?_
  rintro r w1 ⟨rfl, hb1⟩
  have hb01 := nbelow_trans hb0 hb1
  have k0 : w1.cell? ⟨w.heap.size, 0, none⟩ = some (.bool s) := dcarry_cell hb1 (by go_simp)
  have k1 : w1.cell? ⟨w.heap.size, 1, none⟩ = some (.slice a len cap) := dcarry_cell hb1 (by go_simp)
  have k2 : w1.cell? ⟨w.heap.size, 2, none⟩ = some (.int .i64 e) := dcarry_cell hb1 (by go_simp)
  go_wp2_with fail
  refine Calls.mono (qOne_calls s a len cap xs e w1 (h.keep hb01) hm HEB.out) ?_
  rintro r w2 ⟨_, rfl, ⟨a2, n2, c2, rfl, HN2, hO2⟩, hb2⟩
  have hb02 := nbelow_trans hb01 hb2
  rw [HF.out] at HN2 ⊢
  have hz : n2 = 0 := by have := HN2.out; rw [words_zero] at this; exact this
  subst hz
  clear HN2 hO2 HGR
  go_wp2_with fail
  go_ret2
  exact ⟨rfl, by repeat (first | exact hb02 | refine Below.drew ?_ | refine nbelow_trans ?_ (below_one _ _))⟩

set_option maxRecDepth 100000 in
set_option maxHeartbeats 4000000 in
theorem qto_noA (s : Bool) (a : Option Addr) (len cap : Nat) (xs : List Int) (e : Int) (w : World) (h : IsW w a len cap xs) (hm : len ≤ 17592186044000) (hr : rightB (val xs) e = true) (h0 : val xs ≠ 0) (hA : 53 < (blen (formD s (val xs) e).2.1 : Int)) :
    Calls Tryd.prog 19 #[dyV s a len cap e] w fun r w' => r = .returned (.tuple #[.int .u64 0, .bool false]) ∧ Below w.heap.size w w' := by
  have hb0 := below_one w (.cells #[.bool s, .slice a len cap, .int .i64 e] 25)
  have RC : Hid _ := qRight_calls s a len cap xs e _ (h.keep hb0) (by omega)
  have HEB : Hid (-4611686018427387904 ≤ e ∧ e ≤ 4611686018427387904) := by have := (rightB_yes hr).2; rw [Hid]; omega
  have HGR : Hid (greatB (formD s (val xs) e).2.1 = false) := great_mono (form_amount_le _ _ _) (rightB_yes hr).1
  rw [hr] at RC
  have HNE : Hid ((formD s (val xs) e).2.1 ≠ 0) := by rw [Hid, form_pos s h0]; intro q; have := (odd_part h0).1; simp only at q; rw [q] at this; omega
  have hpe : -4611686018427387904 ≤ (formD s (val xs) e).2.2 ∧ (formD s (val xs) e).2.2 ≤ 4611686018427387904 := by have h3 := (rightB_yes hr).2; have h4 := tz_le_blen (val xs); have h5 := (great_not _).1 (rightB_yes hr).1; rw [form_pos s h0]; simp only; omega
  clear hr h0
  go_enter Tryd.func19, Tryd.ntmps19
  go_wp2_with fail
  refine Calls.mono RC.out ?_
  rintro r w1 ⟨rfl, hb1⟩
  have hb01 := nbelow_trans hb0 hb1
  have k0 : w1.cell? ⟨w.heap.size, 0, none⟩ = some (.bool s) := dcarry_cell hb1 (by go_simp)
  have k1 : w1.cell? ⟨w.heap.size, 1, none⟩ = some (.slice a len cap) := dcarry_cell hb1 (by go_simp)
  have k2 : w1.cell? ⟨w.heap.size, 2, none⟩ = some (.int .i64 e) := dcarry_cell hb1 (by go_simp)
  go_wp2_with fail
  refine Calls.mono (qOne_calls s a len cap xs e w1 (h.keep hb01) hm HEB.out) ?_
  rintro r w2 ⟨_, rfl, ⟨a2, n2, c2, rfl, HN2, hO2⟩, hb2⟩
  have hb02 := nbelow_trans hb01 hb2
  have hz : n2 ≠ 0 := fun q => HNE.out ((words_nil _).1 (List.length_eq_zero_iff.1 (HN2.out.symm.trans q)))
  have hI2 := hO2.1
  have hg2 := HGR.out
  generalize formD s (val xs) e = p at *
  obtain ⟨ps, pm, pe⟩ := p
  simp only at *
  have hbl : blen pm ≤ 65536 := (great_not _).1 hg2
  have hnn : n2 ≤ 1024 := by have := (words_len2 1024 pm).2 (by omega); have := HN2.out; omega
  have SC : Hid _ := fun w' q => nLen_calls a2 n2 c2 (wordsOf pm) w' q (by omega)
  rw [val_words] at SC
  have hz' : ¬ (n2 : Int) = 0 := by omega
  obtain ⟨hp1, hp2⟩ := hpe
  generalize blen pm = bl at *
  clear HEB HGR hb1 hb2 hb01 k0 k1 k2
  go_wp2_with fail
  have hbx := below_one w2 (.cells #[.bool ps, .slice a2 n2 c2, .int .i64 pe] 25)
  refine Calls.mono (SC.out _ (hI2.keep hbx)) ?_
  rintro r w4 ⟨rfl, hb4⟩
  have x0 : w4.cell? ⟨w2.heap.size, 0, none⟩ = some (.bool ps) := dcarry_cell hb4 (by go_simp)
  have x1 : w4.cell? ⟨w2.heap.size, 1, none⟩ = some (.slice a2 n2 c2) := dcarry_cell hb4 (by go_simp)
  have x2 : w4.cell? ⟨w2.heap.size, 2, none⟩ = some (.int .i64 pe) := dcarry_cell hb4 (by go_simp)
  have hb24 := nbelow_trans hbx hb4
  have hb04 := nbelow_trans hb02 hb24
  have hI4 := hI2.keep hb24
  have hw1 : IntKind.i64.wrap (pe + (bl : Int)) = pe + (bl : Int) := by rw [IntKind.wrap_i64]; omega
  have hw2 : IntKind.i64.wrap (pe + (bl : Int) - 1) = pe + (bl : Int) - 1 := by rw [IntKind.wrap_i64]; omega
  clear hb4 hbx
  go_wp2_with fail
  go_ret2
  exact ⟨rfl, hb04⟩

set_option maxRecDepth 100000 in
set_option maxHeartbeats 4000000 in
theorem qto_noB (s : Bool) (a : Option Addr) (len cap : Nat) (xs : List Int) (e : Int) (w : World) (h : IsW w a len cap xs) (hm : len ≤ 17592186044000) (hr : rightB (val xs) e = true) (h0 : val xs ≠ 0) (hA : (blen (formD s (val xs) e).2.1 : Int) ≤ 53) (hC : (formD s (val xs) e).2.2 < -1074) :
    Calls Tryd.prog 19 #[dyV s a len cap e] w fun r w' => r = .returned (.tuple #[.int .u64 0, .bool false]) ∧ Below w.heap.size w w' := by
  have hb0 := below_one w (.cells #[.bool s, .slice a len cap, .int .i64 e] 25)
  have RC : Hid _ := qRight_calls s a len cap xs e _ (h.keep hb0) (by omega)
  have HEB : Hid (-4611686018427387904 ≤ e ∧ e ≤ 4611686018427387904) := by have := (rightB_yes hr).2; rw [Hid]; omega
  have HGR : Hid (greatB (formD s (val xs) e).2.1 = false) := great_mono (form_amount_le _ _ _) (rightB_yes hr).1
  rw [hr] at RC
  have HNE : Hid ((formD s (val xs) e).2.1 ≠ 0) := by rw [Hid, form_pos s h0]; intro q; have := (odd_part h0).1; simp only at q; rw [q] at this; omega
  have hpe : -4611686018427387904 ≤ (formD s (val xs) e).2.2 ∧ (formD s (val xs) e).2.2 ≤ 4611686018427387904 := by have h3 := (rightB_yes hr).2; have h4 := tz_le_blen (val xs); have h5 := (great_not _).1 (rightB_yes hr).1; rw [form_pos s h0]; simp only; omega
  clear hr h0
  go_enter Tryd.func19, Tryd.ntmps19
  go_wp2_with fail
  refine Calls.mono RC.out ?_
  rintro r w1 ⟨rfl, hb1⟩
  have hb01 := nbelow_trans hb0 hb1
  have k0 : w1.cell? ⟨w.heap.size, 0, none⟩ = some (.bool s) := dcarry_cell hb1 (by go_simp)
  have k1 : w1.cell? ⟨w.heap.size, 1, none⟩ = some (.slice a len cap) := dcarry_cell hb1 (by go_simp)
  have k2 : w1.cell? ⟨w.heap.size, 2, none⟩ = some (.int .i64 e) := dcarry_cell hb1 (by go_simp)
  go_wp2_with fail
  refine Calls.mono (qOne_calls s a len cap xs e w1 (h.keep hb01) hm HEB.out) ?_
  rintro r w2 ⟨_, rfl, ⟨a2, n2, c2, rfl, HN2, hO2⟩, hb2⟩
  have hb02 := nbelow_trans hb01 hb2
  have hz : n2 ≠ 0 := fun q => HNE.out ((words_nil _).1 (List.length_eq_zero_iff.1 (HN2.out.symm.trans q)))
  have hI2 := hO2.1
  have hg2 := HGR.out
  generalize formD s (val xs) e = p at *
  obtain ⟨ps, pm, pe⟩ := p
  simp only at *
  have hbl : blen pm ≤ 65536 := (great_not _).1 hg2
  have hnn : n2 ≤ 1024 := by have := (words_len2 1024 pm).2 (by omega); have := HN2.out; omega
  have SC : Hid _ := fun w' q => nLen_calls a2 n2 c2 (wordsOf pm) w' q (by omega)
  rw [val_words] at SC
  have hz' : ¬ (n2 : Int) = 0 := by omega
  obtain ⟨hp1, hp2⟩ := hpe
  generalize blen pm = bl at *
  clear HEB HGR hb1 hb2 hb01 k0 k1 k2
  go_wp2_with fail
  have hbx := below_one w2 (.cells #[.bool ps, .slice a2 n2 c2, .int .i64 pe] 25)
  refine Calls.mono (SC.out _ (hI2.keep hbx)) ?_
  rintro r w4 ⟨rfl, hb4⟩
  have x0 : w4.cell? ⟨w2.heap.size, 0, none⟩ = some (.bool ps) := dcarry_cell hb4 (by go_simp)
  have x1 : w4.cell? ⟨w2.heap.size, 1, none⟩ = some (.slice a2 n2 c2) := dcarry_cell hb4 (by go_simp)
  have x2 : w4.cell? ⟨w2.heap.size, 2, none⟩ = some (.int .i64 pe) := dcarry_cell hb4 (by go_simp)
  have hb24 := nbelow_trans hbx hb4
  have hb04 := nbelow_trans hb02 hb24
  have hI4 := hI2.keep hb24
  have hw1 : IntKind.i64.wrap (pe + (bl : Int)) = pe + (bl : Int) := by rw [IntKind.wrap_i64]; omega
  have hw2 : IntKind.i64.wrap (pe + (bl : Int) - 1) = pe + (bl : Int) - 1 := by rw [IntKind.wrap_i64]; omega
  clear hb4 hbx
  go_wp2_with fail
  go_ret2
  exact ⟨rfl, hb04⟩

set_option maxRecDepth 100000 in
set_option maxHeartbeats 4000000 in
theorem qto_noC (s : Bool) (a : Option Addr) (len cap : Nat) (xs : List Int) (e : Int) (w : World) (h : IsW w a len cap xs) (hm : len ≤ 17592186044000) (hr : rightB (val xs) e = true) (h0 : val xs ≠ 0) (hA : (blen (formD s (val xs) e).2.1 : Int) ≤ 53) (hC : -1074 ≤ (formD s (val xs) e).2.2) (hB : 1023 < (formD s (val xs) e).2.2 + (blen (formD s (val xs) e).2.1 : Int) - 1) :
    Calls Tryd.prog 19 #[dyV s a len cap e] w fun r w' => r = .returned (.tuple #[.int .u64 0, .bool false]) ∧ Below w.heap.size w w' := by
  have hb0 := below_one w (.cells #[.bool s, .slice a len cap, .int .i64 e] 25)
  have RC : Hid _ := qRight_calls s a len cap xs e _ (h.keep hb0) (by omega)
  have HEB : Hid (-4611686018427387904 ≤ e ∧ e ≤ 4611686018427387904) := by have := (rightB_yes hr).2; rw [Hid]; omega
  have HGR : Hid (greatB (formD s (val xs) e).2.1 = false) := great_mono (form_amount_le _ _ _) (rightB_yes hr).1
  rw [hr] at RC
  have HNE : Hid ((formD s (val xs) e).2.1 ≠ 0) := by rw [Hid, form_pos s h0]; intro q; have := (odd_part h0).1; simp only at q; rw [q] at this; omega
  have hpe : -4611686018427387904 ≤ (formD s (val xs) e).2.2 ∧ (formD s (val xs) e).2.2 ≤ 4611686018427387904 := by have h3 := (rightB_yes hr).2; have h4 := tz_le_blen (val xs); have h5 := (great_not _).1 (rightB_yes hr).1; rw [form_pos s h0]; simp only; omega
  clear hr h0
  go_enter Tryd.func19, Tryd.ntmps19
  go_wp2_with fail
  refine Calls.mono RC.out ?_
  rintro r w1 ⟨rfl, hb1⟩
  have hb01 := nbelow_trans hb0 hb1
  have k0 : w1.cell? ⟨w.heap.size, 0, none⟩ = some (.bool s) := dcarry_cell hb1 (by go_simp)
  have k1 : w1.cell? ⟨w.heap.size, 1, none⟩ = some (.slice a len cap) := dcarry_cell hb1 (by go_simp)
  have k2 : w1.cell? ⟨w.heap.size, 2, none⟩ = some (.int .i64 e) := dcarry_cell hb1 (by go_simp)
  go_wp2_with fail
  refine Calls.mono (qOne_calls s a len cap xs e w1 (h.keep hb01) hm HEB.out) ?_
  rintro r w2 ⟨_, rfl, ⟨a2, n2, c2, rfl, HN2, hO2⟩, hb2⟩
  have hb02 := nbelow_trans hb01 hb2
  have hz : n2 ≠ 0 := fun q => HNE.out ((words_nil _).1 (List.length_eq_zero_iff.1 (HN2.out.symm.trans q)))
  have hI2 := hO2.1
  have hg2 := HGR.out
  generalize formD s (val xs) e = p at *
  obtain ⟨ps, pm, pe⟩ := p
  simp only at *
  have hbl : blen pm ≤ 65536 := (great_not _).1 hg2
  have hnn : n2 ≤ 1024 := by have := (words_len2 1024 pm).2 (by omega); have := HN2.out; omega
  have SC : Hid _ := fun w' q => nLen_calls a2 n2 c2 (wordsOf pm) w' q (by omega)
  rw [val_words] at SC
  have hz' : ¬ (n2 : Int) = 0 := by omega
  obtain ⟨hp1, hp2⟩ := hpe
  generalize blen pm = bl at *
  clear HEB HGR hb1 hb2 hb01 k0 k1 k2
  go_wp2_with fail
  have hbx := below_one w2 (.cells #[.bool ps, .slice a2 n2 c2, .int .i64 pe] 25)
  refine Calls.mono (SC.out _ (hI2.keep hbx)) ?_
  rintro r w4 ⟨rfl, hb4⟩
  have x0 : w4.cell? ⟨w2.heap.size, 0, none⟩ = some (.bool ps) := dcarry_cell hb4 (by go_simp)
  have x1 : w4.cell? ⟨w2.heap.size, 1, none⟩ = some (.slice a2 n2 c2) := dcarry_cell hb4 (by go_simp)
  have x2 : w4.cell? ⟨w2.heap.size, 2, none⟩ = some (.int .i64 pe) := dcarry_cell hb4 (by go_simp)
  have hb24 := nbelow_trans hbx hb4
  have hb04 := nbelow_trans hb02 hb24
  have hI4 := hI2.keep hb24
  have hw1 : IntKind.i64.wrap (pe + (bl : Int)) = pe + (bl : Int) := by rw [IntKind.wrap_i64]; omega
  have hw2 : IntKind.i64.wrap (pe + (bl : Int) - 1) = pe + (bl : Int) - 1 := by rw [IntKind.wrap_i64]; omega
  clear hb4 hbx
  go_wp2_with fail
  go_ret2
  exact ⟨rfl, hb04⟩

end

section
open Go.RowKit

set_option maxRecDepth 100000 in
set_option maxHeartbeats 4000000 in
theorem qto_low (s : Bool) (a : Option Addr) (len cap : Nat) (xs : List Int) (e : Int) (w : World) (h : IsW w a len cap xs) (hm : len ≤ 17592186044000) (hr : rightB (val xs) e = true) (h0 : val xs ≠ 0) (hA : (blen (formD s (val xs) e).2.1 : Int) ≤ 53) (hC : -1074 ≤ (formD s (val xs) e).2.2) (hB : (formD s (val xs) e).2.2 + (blen (formD s (val xs) e).2.1 : Int) - 1 ≤ 1023) (hL : (formD s (val xs) e).2.2 + (blen (formD s (val xs) e).2.1 : Int) - 1 < -1022) (J : Int) (hJ : toV (formD s (val xs) e) = J) :
    Calls Tryd.prog 19 #[dyV s a len cap e] w fun r w' => r = .returned (.tuple #[.int .u64 J, .bool true]) ∧ Below w.heap.size w w' := by
  have hb0 := below_one w (.cells #[.bool s, .slice a len cap, .int .i64 e] 25)
  have RC : Hid _ := qRight_calls s a len cap xs e _ (h.keep hb0) (by omega)
  have HEB : Hid (-4611686018427387904 ≤ e ∧ e ≤ 4611686018427387904) := by have := (rightB_yes hr).2; rw [Hid]; omega
  have HGR : Hid (greatB (formD s (val xs) e).2.1 = false) := great_mono (form_amount_le _ _ _) (rightB_yes hr).1
  rw [hr] at RC
  have HNE : Hid ((formD s (val xs) e).2.1 ≠ 0) := by rw [Hid, form_pos s h0]; intro q; have := (odd_part h0).1; simp only at q; rw [q] at this; omega
  have hpe : -4611686018427387904 ≤ (formD s (val xs) e).2.2 ∧ (formD s (val xs) e).2.2 ≤ 4611686018427387904 := by have h3 := (rightB_yes hr).2; have h4 := tz_le_blen (val xs); have h5 := (great_not _).1 (rightB_yes hr).1; rw [form_pos s h0]; simp only; omega
  clear hr h0
  go_enter Tryd.func19, Tryd.ntmps19
  go_wp2_with fail
  refine Calls.mono RC.out ?_
  rintro r w1 ⟨rfl, hb1⟩
  have hb01 := nbelow_trans hb0 hb1
  have k0 : w1.cell? ⟨w.heap.size, 0, none⟩ = some (.bool s) := dcarry_cell hb1 (by go_simp)
  have k1 : w1.cell? ⟨w.heap.size, 1, none⟩ = some (.slice a len cap) := dcarry_cell hb1 (by go_simp)
  have k2 : w1.cell? ⟨w.heap.size, 2, none⟩ = some (.int .i64 e) := dcarry_cell hb1 (by go_simp)
  go_wp2_with fail
  refine Calls.mono (qOne_calls s a len cap xs e w1 (h.keep hb01) hm HEB.out) ?_
  rintro r w2 ⟨_, rfl, ⟨a2, n2, c2, rfl, HN2, hO2⟩, hb2⟩
  have hb02 := nbelow_trans hb01 hb2
  have hz : n2 ≠ 0 := fun q => HNE.out ((words_nil _).1 (List.length_eq_zero_iff.1 (HN2.out.symm.trans q)))
  have hI2 := hO2.1
  have hg2 := HGR.out
  generalize formD s (val xs) e = p at *
  obtain ⟨ps, pm, pe⟩ := p
  simp only at *
  have hbl : blen pm ≤ 65536 := (great_not _).1 hg2
  have hnn : n2 ≤ 1024 := by have := (words_len2 1024 pm).2 (by omega); have := HN2.out; omega
  have SC : Hid _ := fun w' q => nLen_calls a2 n2 c2 (wordsOf pm) w' q (by omega)
  rw [val_words] at SC
  have hz' : ¬ (n2 : Int) = 0 := by omega
  obtain ⟨hp1, hp2⟩ := hpe
  have hfo := fld_ok pm pe HNE.out (by omega) (by omega) (by omega)
  have JC : Hid _ := fun w' => rJoin_calls ps (fldE pm pe) (fldF pm pe) w' hfo.1
  have hJ' : joinV ps (fldE pm pe) (fldF pm pe) = J := hJ
  rw [hfo.2, hJ'] at JC
  clear hJ hJ' hfo
  obtain ⟨hn1, b, off, ha2, -⟩ := word_of hI2 HNE.out (by omega)
  subst hn1 ha2
  have hc2 : w2.cell? ⟨b, off, none⟩ = some (.int .u64 (pm : Int)) := by
    obtain ⟨-, b', off', q1, q2⟩ := word_of hI2 HNE.out (by omega)
    injection q1 with q1
    injection q1 with q3 q4 q5
    subst q3 q4
    exact q2
  obtain ⟨j, rfl⟩ : ∃ j : Nat, pe = (j : Int) - 1074 := ⟨(pe + 1074).toNat, by omega⟩
  have hfe : fldE pm ((j : Int) - 1074) = 0 := by unfold fldE; rw [if_pos hL]
  have hff : fldF pm ((j : Int) - 1074) = ((pm * 2 ^ j : Nat) : Int) := by unfold fldF; rw [if_pos hL, show ((j : Int) - 1074 + 1074).toNat = j by omega]
  have hR : IntKind.u64.wrap ((pm : Int) * 2 ^ j) = ((pm * 2 ^ j : Nat) : Int) := shl_nat (by have := low_room (m := pm) (j := j) (by omega); omega)
  rw [hfe, hff] at JC
  clear hfe hff
  generalize pm * 2 ^ j = FF at *
  have hjb : j ≤ 52 := by have : blen pm ≠ 0 := fun q => HNE.out ((blen_nil pm).1 q); omega
  have hjw : IntKind.i64.wrap (j : Int) = (j : Int) := by rw [IntKind.wrap_i64]; omega
  have hju : IntKind.u64.wrap (j : Int) = (j : Int) := by rw [IntKind.wrap_u64]; omega
  generalize blen pm = bl at *
  clear hz hz' HEB HGR hb1 hb2 hb01 k0 k1 k2
  go_wp2_with fail
  have hbx := below_one w2 (.cells #[.bool ps, .slice (some ⟨b, off, none⟩) 1 c2, .int .i64 ((j : Int) - 1074)] 25)
  refine Calls.mono (SC.out _ (hI2.keep hbx)) ?_
  rintro r w4 ⟨rfl, hb4⟩
  have x0 : w4.cell? ⟨w2.heap.size, 0, none⟩ = some (.bool ps) := dcarry_cell hb4 (by go_simp)
  have x1 : w4.cell? ⟨w2.heap.size, 1, none⟩ = some (.slice (some ⟨b, off, none⟩) 1 c2) := dcarry_cell hb4 (by go_simp)
  have x2 : w4.cell? ⟨w2.heap.size, 2, none⟩ = some (.int .i64 ((j : Int) - 1074)) := dcarry_cell hb4 (by go_simp)
  have hb24 := nbelow_trans hbx hb4
  have hb04 := nbelow_trans hb02 hb24
  have hI4 := hI2.keep hb24
  have hw1 : IntKind.i64.wrap (((j : Int) - 1074) + (bl : Int)) = ((j : Int) - 1074) + (bl : Int) := by rw [IntKind.wrap_i64]; omega
  have hw2 : IntKind.i64.wrap (((j : Int) - 1074) + (bl : Int) - 1) = ((j : Int) - 1074) + (bl : Int) - 1 := by rw [IntKind.wrap_i64]; omega
  have hc4 := dcarry_cell hb24 hc2
  clear hb4 hbx
  go_wp2_with fail
  have hb5 := below_one w4 (.cells #[.bool ps, .int .i64 0, .int .u64 0] 60)
  have u0 : (w4.alloc (.cells #[.bool ps, .int .i64 0, .int .u64 0] 60)).cell? ⟨w4.heap.size, 0, none⟩ = some (.bool ps) := by go_simp
  have u1 : (w4.alloc (.cells #[.bool ps, .int .i64 0, .int .u64 0] 60)).cell? ⟨w4.heap.size, 1, none⟩ = some (.int .i64 0) := by go_simp
  have u2 : (w4.alloc (.cells #[.bool ps, .int .i64 0, .int .u64 0] 60)).cell? ⟨w4.heap.size, 2, none⟩ = some (.int .u64 0) := by go_simp
  have t1 : (w4.alloc (.cells #[.bool ps, .int .i64 0, .int .u64 0] 60)).frozen? ⟨w4.heap.size, 1, none⟩ = false := by go_simp
  have t2 : (w4.alloc (.cells #[.bool ps, .int .i64 0, .int .u64 0] 60)).frozen? ⟨w4.heap.size, 2, none⟩ = false := by go_simp
  have x0' := x0
  have hc4' := hc4
  replace x0 := dcarry_cell hb5 x0
  replace x1 := dcarry_cell hb5 x1
  replace x2 := dcarry_cell hb5 x2
  replace hc4 := dcarry_cell hb5 hc4
  have hb05 := nbelow_trans hb04 hb5
  have hfb : w.heap.size ≤ w4.heap.size := hb04.size
  have hne1 : w2.heap.size ≠ w4.heap.size := by have := World.block_lt_of_cell? _ _ x0'; simp at this; omega
  have hne2 : b ≠ w4.heap.size := by have := World.block_lt_of_cell? _ _ hc4'; simp at this; omega
  clear hb5 hb04 hb24 hI4 x0' hc4'
  generalize w4.alloc (.cells #[.bool ps, .int .i64 0, .int .u64 0] 60) = W at *
  generalize w4.heap.size = fb at *
  go_region_with fail
  all_goals go_wp2_with fail
  all_goals refine Calls.mono (JC.out _) ?_
  all_goals rintro r w7 ⟨rfl, hb7⟩
  all_goals replace hb05 := nbelow_trans (show Below w.heap.size w _ from by repeat (first | exact hb05 | refine Below.drew ?_ | refine Below.setCell ?_ hfb _)) hb7
  all_goals clear hb7
  all_goals go_wp2_with fail
  all_goals go_ret2
  all_goals exact ⟨rfl, hb05⟩

end

section
open Go.RowKit

set_option maxRecDepth 100000 in
set_option maxHeartbeats 4000000 in
theorem qto_high (s : Bool) (a : Option Addr) (len cap : Nat) (xs : List Int) (e : Int) (w : World) (h : IsW w a len cap xs) (hm : len ≤ 17592186044000) (hr : rightB (val xs) e = true) (h0 : val xs ≠ 0) (hA : (blen (formD s (val xs) e).2.1 : Int) ≤ 53) (hC : -1074 ≤ (formD s (val xs) e).2.2) (hB : (formD s (val xs) e).2.2 + (blen (formD s (val xs) e).2.1 : Int) - 1 ≤ 1023) (hL : -1022 ≤ (formD s (val xs) e).2.2 + (blen (formD s (val xs) e).2.1 : Int) - 1) (J : Int) (hJ : toV (formD s (val xs) e) = J) :
    Calls Tryd.prog 19 #[dyV s a len cap e] w fun r w' => r = .returned (.tuple #[.int .u64 J, .bool true]) ∧ Below w.heap.size w w' := by
  have hb0 := below_one w (.cells #[.bool s, .slice a len cap, .int .i64 e] 25)
  have RC : Hid _ := qRight_calls s a len cap xs e _ (h.keep hb0) (by omega)
  have HEB : Hid (-4611686018427387904 ≤ e ∧ e ≤ 4611686018427387904) := by have := (rightB_yes hr).2; rw [Hid]; omega
  have HGR : Hid (greatB (formD s (val xs) e).2.1 = false) := great_mono (form_amount_le _ _ _) (rightB_yes hr).1
  rw [hr] at RC
  have HNE : Hid ((formD s (val xs) e).2.1 ≠ 0) := by rw [Hid, form_pos s h0]; intro q; have := (odd_part h0).1; simp only at q; rw [q] at this; omega
  have hpe : -4611686018427387904 ≤ (formD s (val xs) e).2.2 ∧ (formD s (val xs) e).2.2 ≤ 4611686018427387904 := by have h3 := (rightB_yes hr).2; have h4 := tz_le_blen (val xs); have h5 := (great_not _).1 (rightB_yes hr).1; rw [form_pos s h0]; simp only; omega
  clear hr h0
  go_enter Tryd.func19, Tryd.ntmps19
  go_wp2_with fail
  refine Calls.mono RC.out ?_
  rintro r w1 ⟨rfl, hb1⟩
  have hb01 := nbelow_trans hb0 hb1
  have k0 : w1.cell? ⟨w.heap.size, 0, none⟩ = some (.bool s) := dcarry_cell hb1 (by go_simp)
  have k1 : w1.cell? ⟨w.heap.size, 1, none⟩ = some (.slice a len cap) := dcarry_cell hb1 (by go_simp)
  have k2 : w1.cell? ⟨w.heap.size, 2, none⟩ = some (.int .i64 e) := dcarry_cell hb1 (by go_simp)
  go_wp2_with fail
  refine Calls.mono (qOne_calls s a len cap xs e w1 (h.keep hb01) hm HEB.out) ?_
  rintro r w2 ⟨_, rfl, ⟨a2, n2, c2, rfl, HN2, hO2⟩, hb2⟩
  have hb02 := nbelow_trans hb01 hb2
  have hz : n2 ≠ 0 := fun q => HNE.out ((words_nil _).1 (List.length_eq_zero_iff.1 (HN2.out.symm.trans q)))
  have hI2 := hO2.1
  have hg2 := HGR.out
  generalize formD s (val xs) e = p at *
  obtain ⟨ps, pm, pe⟩ := p
  simp only at *
  have hbl : blen pm ≤ 65536 := (great_not _).1 hg2
  have hnn : n2 ≤ 1024 := by have := (words_len2 1024 pm).2 (by omega); have := HN2.out; omega
  have SC : Hid _ := fun w' q => nLen_calls a2 n2 c2 (wordsOf pm) w' q (by omega)
  rw [val_words] at SC
  have hz' : ¬ (n2 : Int) = 0 := by omega
  obtain ⟨hp1, hp2⟩ := hpe
  have hfo := fld_ok pm pe HNE.out (by omega) (by omega) (by omega)
  have JC : Hid _ := fun w' => rJoin_calls ps (fldE pm pe) (fldF pm pe) w' hfo.1
  have hJ' : joinV ps (fldE pm pe) (fldF pm pe) = J := hJ
  rw [hfo.2, hJ'] at JC
  clear hJ hJ' hfo
  obtain ⟨hn1, b, off, ha2, -⟩ := word_of hI2 HNE.out (by omega)
  subst hn1 ha2
  have hc2 : w2.cell? ⟨b, off, none⟩ = some (.int .u64 (pm : Int)) := by
    obtain ⟨-, b', off', q1, q2⟩ := word_of hI2 HNE.out (by omega)
    injection q1 with q1
    injection q1 with q3 q4 q5
    subst q3 q4
    exact q2
  obtain ⟨j, hj⟩ : ∃ j : Nat, j + blen pm = 53 := ⟨53 - blen pm, by omega⟩
  have hroom := high_room HNE.out hj
  have hfe : fldE pm pe = pe + (blen pm : Int) - 1 + 1023 := by unfold fldE; rw [if_neg (by omega)]
  have hff : fldF pm pe = ((pm * 2 ^ j : Nat) : Int) - 4503599627370496 := by unfold fldF; rw [if_neg (by omega), show 53 - blen pm = j by omega]; omega
  have hR : IntKind.u64.wrap ((pm : Int) * 2 ^ j) = ((pm * 2 ^ j : Nat) : Int) := shl_nat (by omega)
  rw [hfe, hff] at JC
  clear hfe hff
  generalize pm * 2 ^ j = FF at *
  have hjb : j ≤ 53 := by omega
  have hjs : (53 : Int) - (blen pm : Int) = (j : Int) := by omega
  have hjw : IntKind.i64.wrap (j : Int) = (j : Int) := by rw [IntKind.wrap_i64]; omega
  have hju : IntKind.u64.wrap (j : Int) = (j : Int) := by rw [IntKind.wrap_u64]; omega
  have hsw : IntKind.u64.wrap ((FF : Int) - 4503599627370496) = (FF : Int) - 4503599627370496 := by rw [IntKind.wrap_u64]; omega
  have hww : IntKind.i64.wrap (pe + (blen pm : Int) - 1 + 1023) = pe + (blen pm : Int) - 1 + 1023 := by rw [IntKind.wrap_i64]; omega
  obtain ⟨hm1, hm2⟩ := hroom
  generalize blen pm = bl at *
  clear hz hz' HEB HGR hb1 hb2 hb01 k0 k1 k2
  go_wp2_with fail
  have hbx := below_one w2 (.cells #[.bool ps, .slice (some ⟨b, off, none⟩) 1 c2, .int .i64 pe] 25)
  refine Calls.mono (SC.out _ (hI2.keep hbx)) ?_
  rintro r w4 ⟨rfl, hb4⟩
  have x0 : w4.cell? ⟨w2.heap.size, 0, none⟩ = some (.bool ps) := dcarry_cell hb4 (by go_simp)
  have x1 : w4.cell? ⟨w2.heap.size, 1, none⟩ = some (.slice (some ⟨b, off, none⟩) 1 c2) := dcarry_cell hb4 (by go_simp)
  have x2 : w4.cell? ⟨w2.heap.size, 2, none⟩ = some (.int .i64 pe) := dcarry_cell hb4 (by go_simp)
  have hb24 := nbelow_trans hbx hb4
  have hb04 := nbelow_trans hb02 hb24
  have hI4 := hI2.keep hb24
  have hw1 : IntKind.i64.wrap (pe + (bl : Int)) = pe + (bl : Int) := by rw [IntKind.wrap_i64]; omega
  have hw2 : IntKind.i64.wrap (pe + (bl : Int) - 1) = pe + (bl : Int) - 1 := by rw [IntKind.wrap_i64]; omega
  have hc4 := dcarry_cell hb24 hc2
  have hb5 := below_one w4 (.cells #[.bool ps, .int .i64 (pe + (bl : Int) - 1 + 1023), .int .u64 0] 60)
  have x1' := dcarry_cell hb5 x1
  have hc5 := dcarry_cell hb5 hc4
  have hb05 : Below w.heap.size w (w4.alloc (.cells #[.bool ps, .int .i64 (pe + (bl : Int) - 1 + 1023), .int .u64 ((FF : Int) - 4503599627370496)] 60)) := nbelow_trans hb04 (below_one w4 _)
  have hfb : w.heap.size ≤ w4.heap.size := hb04.size
  clear hb5
  clear hb4 hbx
  go_wp2_with fail
  all_goals refine Calls.mono (JC.out _) ?_
  all_goals rintro r w7 ⟨rfl, hb7⟩
  all_goals replace hb05 := nbelow_trans (show Below w.heap.size w _ from by repeat (first | exact hb05 | refine Below.drew ?_ | refine Below.setCell ?_ hfb _)) hb7
  all_goals clear hb7
  all_goals go_wp2_with fail
  all_goals go_ret2
  all_goals exact ⟨rfl, hb05⟩
theorem qto_calls (s : Bool) (a : Option Addr) (len cap : Nat) (xs : List Int) (e : Int) (w : World) (h : IsW w a len cap xs) (hm : len ≤ 17592186044000) :
    Calls Tryd.prog 19 #[dyV s a len cap e] w fun r w' => r = .returned (.tuple #[.int .u64 (toR s (val xs) e).1, .bool (toR s (val xs) e).2]) ∧ Below w.heap.size w w' := by
  cases hr : rightB (val xs) e with
  | false => rw [toR_not hr]; exact qto_not s a len cap xs e w h hm hr
  | true =>
    by_cases h0 : val xs = 0
    · have e0 : toR s (val xs) e = (0, true) := by rw [h0] at hr ⊢; exact toR_zero hr
      rw [e0]; exact qto_zero s a len cap xs e w h hm hr h0
    · cases hb : toB (formD s (val xs) e) with
      | true =>
        rw [toR_yes hr h0 hb]
        have hb' := hb
        unfold toB at hb'
        have hb2 := of_decide_eq_true hb'
        by_cases hL : (formD s (val xs) e).2.2 + (blen (formD s (val xs) e).2.1 : Int) - 1 < -1022
        · exact qto_low s a len cap xs e w h hm hr h0 (by omega) (by omega) (by omega) hL _ rfl
        · exact qto_high s a len cap xs e w h hm hr h0 (by omega) (by omega) (by omega) (by omega) _ rfl
      | false =>
        rw [toR_no hr h0 hb]
        have hb' := hb
        unfold toB at hb'
        have hb2 := of_decide_eq_false hb'
        by_cases hA : 53 < (blen (formD s (val xs) e).2.1 : Int)
        · exact qto_noA s a len cap xs e w h hm hr h0 hA
        · by_cases hC : (formD s (val xs) e).2.2 < -1074
          · exact qto_noB s a len cap xs e w h hm hr h0 (by omega) hC
          · exact qto_noC s a len cap xs e w h hm hr h0 (by omega) (by omega) (by omega)

end

section
open Go.RowKit

set_option maxRecDepth 100000 in
set_option maxHeartbeats 4000000 in
theorem dyadFloats_walk (x : Int) (s : Bool) (a : Option Addr) (len cap : Nat) (xs : List Int) (e : Int) (i : Int) (w : World) (hU : U x) (h : IsW w a len cap xs) (hm : len ≤ 17592186044000) (_he : -9223372036854775808 ≤ e ∧ e ≤ 9223372036854775807) (hi : -9223372036854775808 ≤ i ∧ i ≤ 9223372036854775807) (hT : Tab w) :
    Calls Tryd.prog 4 #[.int .u64 x, dyV s a len cap e, .int .i64 i] w fun r w' => r = .returned (.bool true) ∧ Below w.heap.size w w' := by
  have hT0 : Hid (∀ w', Below w.heap.size w w' → Tab w') := fun w' hb => hT.kept hb
  have HP : Hid _ := fun w' t => pfrom_calls x w' hU t
  have HQ : Hid _ := fun w' => qfrom_calls x w' hU
  have HT1 : Hid _ := fun w' g t => to_calls s a len cap xs e w' g (by omega) t
  have HT2 : Hid _ := fun w' g => qto_calls s a len cap xs e w' g hm
  have HI1 : Hid _ := fun w' t => dint_calls i hi w' t
  have HI2 : Hid _ := fun w' => qint_calls i hi w'
  have HS1 : Hid _ := fun a1 n1 c1 a2 n2 c2 w' g q1 g2 q2 => qSame_calls (fromP x).1 a1 n1 c1 (wordsOf (fromP x).2.1) (fromP x).2.2 (fromP x).1 a2 n2 c2 (wordsOf (fromP x).2.1) (fromP x).2.2 w' g q1 g2 q2
  rw [sameB_self] at HS1
  have HS2 : Hid _ := fun a1 n1 c1 a2 n2 c2 w' g q1 g2 q2 => qSame_calls (intD i).1 a1 n1 c1 (wordsOf (intD i).2.1) (intD i).2.2 (intD i).1 a2 n2 c2 (wordsOf (intD i).2.1) (intD i).2.2 w' g q1 g2 q2
  rw [sameB_self] at HS2
  clear hm hT hi hU
  generalize lastE x = lE at *
  generalize fromP x = fP at *
  generalize intD i = iP at *
  generalize (toR s (val xs) e).1 = tv at *
  generalize (toR s (val xs) e).2 = tb at *
  have b0 := below_one w (.cells #[.bool s, .slice a len cap, .int .i64 e] 25)
  have D0 : (w.alloc (.cells #[.bool s, .slice a len cap, .int .i64 e] 25)).cell? ⟨w.heap.size, 0, none⟩ = some (.bool s) := by go_simp
  have D1 : (w.alloc (.cells #[.bool s, .slice a len cap, .int .i64 e] 25)).cell? ⟨w.heap.size, 1, none⟩ = some (.slice a len cap) := by go_simp
  have D2 : (w.alloc (.cells #[.bool s, .slice a len cap, .int .i64 e] 25)).cell? ⟨w.heap.size, 2, none⟩ = some (.int .i64 e) := by go_simp
  have DI := h.keep b0
  clear h
  go_enter Tryd.func4, Tryd.ntmps4
  go_wp2_with fail
  generalize w.alloc (.cells #[.bool s, .slice a len cap, .int .i64 e] 25) = w0 at *
  refine Calls.mono (HP.out _ (hT0.out _ b0)) ?_
  rintro r w1 ⟨_, rfl, ⟨a1, n1, c1, rfl, HN1, hn1, hO1⟩, b1⟩
  replace D0 := dcarry_cell b1 D0
  replace D1 := dcarry_cell b1 D1
  replace D2 := dcarry_cell b1 D2
  replace DI := DI.keep b1
  have bw1 := nbelow_trans b0 b1
  have hI1 := hO1.1
  clear hO1 b1 b0
  have bA := below_one w1 (.cells #[.bool fP.1, .slice a1 n1 c1, .int .i64 fP.2.2] 25)
  replace D0 := dcarry_cell bA D0
  replace D1 := dcarry_cell bA D1
  replace D2 := dcarry_cell bA D2
  replace DI := DI.keep bA
  have A0 : (w1.alloc (.cells #[.bool fP.1, .slice a1 n1 c1, .int .i64 fP.2.2] 25)).cell? ⟨w1.heap.size, 0, none⟩ = some (.bool fP.1) := by go_simp
  have A1 : (w1.alloc (.cells #[.bool fP.1, .slice a1 n1 c1, .int .i64 fP.2.2] 25)).cell? ⟨w1.heap.size, 1, none⟩ = some (.slice a1 n1 c1) := by go_simp
  have A2 : (w1.alloc (.cells #[.bool fP.1, .slice a1 n1 c1, .int .i64 fP.2.2] 25)).cell? ⟨w1.heap.size, 2, none⟩ = some (.int .i64 fP.2.2) := by go_simp
  have AI := hI1.keep bA
  have bw2 := nbelow_trans bw1 bA
  clear bA bw1 hI1
  go_wp2_with fail
  generalize w1.alloc (.cells #[.bool fP.1, .slice a1 n1 c1, .int .i64 fP.2.2] 25) = w2 at *
  refine Calls.mono (HQ.out _) ?_
  rintro r w3 ⟨_, rfl, ⟨a3, n3, c3, rfl, HN3, hO3⟩, b3⟩
  replace D0 := dcarry_cell b3 D0
  replace D1 := dcarry_cell b3 D1
  replace D2 := dcarry_cell b3 D2
  replace DI := DI.keep b3
  replace A0 := dcarry_cell b3 A0
  replace A1 := dcarry_cell b3 A1
  replace A2 := dcarry_cell b3 A2
  replace AI := AI.keep b3
  have bw3 := nbelow_trans bw2 b3
  have hI3 := hO3.1
  clear hO3 b3 bw2
  have hn3 : n3 ≤ 1024 := by have := HN3.out; have := HN1.out; omega
  clear HN1 HN3
  have bA := below_one w3 (.cells #[.bool fP.1, .slice a3 n3 c3, .int .i64 fP.2.2] 25)
  replace D0 := dcarry_cell bA D0
  replace D1 := dcarry_cell bA D1
  replace D2 := dcarry_cell bA D2
  replace DI := DI.keep bA
  replace A0 := dcarry_cell bA A0
  replace A1 := dcarry_cell bA A1
  replace A2 := dcarry_cell bA A2
  replace AI := AI.keep bA
  have B0 : (w3.alloc (.cells #[.bool fP.1, .slice a3 n3 c3, .int .i64 fP.2.2] 25)).cell? ⟨w3.heap.size, 0, none⟩ = some (.bool fP.1) := by go_simp
  have B1 : (w3.alloc (.cells #[.bool fP.1, .slice a3 n3 c3, .int .i64 fP.2.2] 25)).cell? ⟨w3.heap.size, 1, none⟩ = some (.slice a3 n3 c3) := by go_simp
  have B2 : (w3.alloc (.cells #[.bool fP.1, .slice a3 n3 c3, .int .i64 fP.2.2] 25)).cell? ⟨w3.heap.size, 2, none⟩ = some (.int .i64 fP.2.2) := by go_simp
  have BI := hI3.keep bA
  have bw4 := nbelow_trans bw3 bA
  clear bA bw3 hI3
  go_wp2_with fail
  generalize w3.alloc (.cells #[.bool fP.1, .slice a3 n3 c3, .int .i64 fP.2.2] 25) = w4 at *
  refine Calls.mono (HT1.out _ DI (hT0.out _ bw4)) ?_
  rintro r w5 ⟨rfl, b5⟩
  replace D0 := dcarry_cell b5 D0
  replace D1 := dcarry_cell b5 D1
  replace D2 := dcarry_cell b5 D2
  replace DI := DI.keep b5
  replace A0 := dcarry_cell b5 A0
  replace A1 := dcarry_cell b5 A1
  replace A2 := dcarry_cell b5 A2
  replace AI := AI.keep b5
  replace B0 := dcarry_cell b5 B0
  replace B1 := dcarry_cell b5 B1
  replace B2 := dcarry_cell b5 B2
  replace BI := BI.keep b5
  have bw5 := nbelow_trans bw4 b5
  clear bw4
  clear b5
  go_wp2_with fail
  refine Calls.mono (HT2.out _ DI) ?_
  rintro r w6 ⟨rfl, b6⟩
  replace D0 := dcarry_cell b6 D0
  replace D1 := dcarry_cell b6 D1
  replace D2 := dcarry_cell b6 D2
  replace DI := DI.keep b6
  replace A0 := dcarry_cell b6 A0
  replace A1 := dcarry_cell b6 A1
  replace A2 := dcarry_cell b6 A2
  replace AI := AI.keep b6
  replace B0 := dcarry_cell b6 B0
  replace B1 := dcarry_cell b6 B1
  replace B2 := dcarry_cell b6 B2
  replace BI := BI.keep b6
  have bw6 := nbelow_trans bw5 b6
  clear bw5
  clear b6
  go_wp2_with fail
  clear D0 D1 D2 DI
  refine Calls.mono (HS1.out _ _ _ _ _ _ _ AI (by omega) BI (by omega)) ?_
  rintro r w7 ⟨rfl, b7⟩
  replace A0 := dcarry_cell b7 A0
  replace A1 := dcarry_cell b7 A1
  replace A2 := dcarry_cell b7 A2
  replace AI := AI.keep b7
  replace B0 := dcarry_cell b7 B0
  replace B1 := dcarry_cell b7 B1
  replace B2 := dcarry_cell b7 B2
  replace BI := BI.keep b7
  have bw7 := nbelow_trans bw6 b7
  clear bw6
  clear b7
  go_wp2_with fail
  clear A0 A1 A2 AI
  clear B0 B1 B2 BI
  refine Calls.mono (HI1.out _ (hT0.out _ bw7)) ?_
  rintro r w8 ⟨_, rfl, ⟨a8, n8, c8, rfl, HN8, hn8, hO8⟩, b8⟩
  have bw8 := nbelow_trans bw7 b8
  clear bw7
  clear b8
  go_wp2_with fail
  refine Calls.mono (HI2.out _) ?_
  rintro r w9 ⟨_, rfl, ⟨a9, n9, c9, rfl, HN9, hO9⟩, b9⟩
  have bw9 := nbelow_trans bw8 b9
  clear bw8
  have hI8 := hO8.1.keep b9
  have hI9 := hO9.1
  have hn9 : n9 ≤ 1024 := by have := HN9.out; have := HN8.out; omega
  clear b9 hO8 hO9 HN8 HN9
  go_wp2_with fail
  refine Calls.mono (HS2.out _ _ _ _ _ _ _ hI8 (by omega) hI9 (by omega)) ?_
  rintro r w10 ⟨rfl, b10⟩
  have bw10 := nbelow_trans bw9 b10
  clear bw9
  clear b10
  go_wp2_with fail
  refine Calls.mono (dyBegins_calls _ (hT0.out _ bw10)) ?_
  rintro r w11 ⟨rfl, b11⟩
  have bw11 := nbelow_trans bw10 b11
  clear bw10
  clear b11
  go_wp2_with fail
  go_ret
  exact ⟨rfl, bw11⟩

end

end Go.Proofs.YtcoeaanhjclgbaaDoor

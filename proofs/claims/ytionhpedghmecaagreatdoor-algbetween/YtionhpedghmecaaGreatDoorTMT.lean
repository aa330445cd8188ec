/- The program's To, where the answer is no float, or the zero. The first question of dyad's statements. The program's To, whole. -/
import Derived.Test.YtionhpedghmecaaGreatDoorTMS
import Derived.Test.YtionhpedghmecaaGreatDoorTMH
import Derived.Test.YtionhpedghmecaaGreatDoorTMF
import Derived.Test.YtionhpedghmecaaGreatDoorDCmp2
import Derived.Test.YtionhpedghmecaaGreatDoorDTo2

namespace Go.Proofs.YtionhpedghmecaaGreatDoor
open Go.RowKit
def fldE (m : Nat) (e : Int) : Int := if e + (blen m : Int) - 1 < -1022 then 0 else e + (blen m : Int) - 1 + 1023
def fldF (m : Nat) (e : Int) : Int := if e + (blen m : Int) - 1 < -1022 then ((m * 2 ^ (e + 1074).toNat : Nat) : Int) else ((m * 2 ^ (53 - blen m) - 4503599627370496 : Nat) : Int)
def toB (p : Bool × Nat × Int) : Bool := decide (blen p.2.1 ≤ 53 ∧ -1074 ≤ p.2.2 ∧ p.2.2 + (blen p.2.1 : Int) - 1 ≤ 1023)
def toV (p : Bool × Nat × Int) : Int := joinV p.1 (fldE p.2.1 p.2.2) (fldF p.2.1 p.2.2)
def toR (s : Bool) (m : Nat) (e : Int) : Int × Bool := if rightB m e = false then (0, false) else if m = 0 then (0, true) else if toB (formD s m e) = true then (toV (formD s m e), true) else (0, false)
theorem toR_not {s : Bool} {m : Nat} {e : Int} (h : rightB m e = false) : toR s m e = (0, false) := by unfold toR; rw [if_pos h]
theorem toR_zero {s : Bool} {e : Int} (h : rightB 0 e = true) : toR s 0 e = (0, true) := by unfold toR; rw [if_neg (by rw [h]; decide), if_pos rfl]
theorem toR_no {s : Bool} {m : Nat} {e : Int} (h : rightB m e = true) (h0 : m ≠ 0) (hb : toB (formD s m e) = false) : toR s m e = (0, false) := by unfold toR; rw [if_neg (by rw [h]; decide), if_neg h0, if_neg (by rw [hb]; decide)]
theorem toR_yes {s : Bool} {m : Nat} {e : Int} (h : rightB m e = true) (h0 : m ≠ 0) (hb : toB (formD s m e) = true) : toR s m e = (toV (formD s m e), true) := by unfold toR; rw [if_neg (by rw [h]; decide), if_neg h0, if_pos hb]
set_option maxRecDepth 100000 in
set_option maxHeartbeats 1000000 in
theorem to_not (s : Bool) (a : Option Addr) (len cap : Nat) (xs : List Int) (e : Int) (w : World) (h : IsW w a len cap xs) (hm : len ≤ 17592186044416) (hr : rightB (val xs) e = false) :
  Calls Tryz.prog 138 #[dyV s a len cap e] w fun r w' => r = .returned (.tuple #[.int .u64 0, .bool false]) ∧ Below w.heap.size w w' := by
 have hb0 : Below w.heap.size w ((w.alloc (.cells #[.bool s, .slice a len cap, .int .i64 e] 27)).alloc (.cells #[.bool s, .slice a len cap, .int .i64 e] 27)) := nT (below_one _ _) (below_one _ _)
 have RC : Hid _ := right1_calls (w.heap.size + 1) s a len cap xs e _ (h.keep hb0) hm (by go_simp) (by go_simp) (by go_simp)
 rw [hr] at RC
 clear hr
 go_enter Tryz.func138, Tryz.ntmps138
 go_wp2_with fail
 refine Calls.mono RC.out ?_
 rintro r w1 ⟨rfl, hb1⟩
 go_wp2_with fail
 go_ret2
 exact ⟨rfl, nT hb0 hb1⟩
set_option maxRecDepth 100000 in
set_option maxHeartbeats 1000000 in
theorem to_zero (s : Bool) (a : Option Addr) (len cap : Nat) (xs : List Int) (e : Int) (w : World) (h : IsW w a len cap xs) (hm : len ≤ 17592186044416) (hT : Tab w) (hr : rightB (val xs) e = true) (h0 : val xs = 0) :
  Calls Tryz.prog 138 #[dyV s a len cap e] w fun r w' => r = .returned (.tuple #[.int .u64 0, .bool true]) ∧ Below w.heap.size w w' := by
 have hb0 : Below w.heap.size w ((w.alloc (.cells #[.bool s, .slice a len cap, .int .i64 e] 27)).alloc (.cells #[.bool s, .slice a len cap, .int .i64 e] 27)) := nT (below_one _ _) (below_one _ _)
 have RC : Hid _ := right1_calls (w.heap.size + 1) s a len cap xs e _ (h.keep hb0) hm (by go_simp) (by go_simp) (by go_simp)
 have HCG : Hid (canG s (val xs) e = formD s (val xs) e) := canG_no (rightB_yes hr).1
 have HEB : Hid (-4611686018427387904 ≤ e ∧ e ≤ 4611686018427387904) := by have := (rightB_yes hr).2; rw [Hid]; omega
 have HGR : Hid (greatB (formD s (val xs) e).2.1 = false) := great_mono (form_amount_le _ _ _) (rightB_yes hr).1
 rw [hr] at RC
 have HF : Hid (formD s (val xs) e = (false, 0, 0)) := by rw [Hid, h0, form_zero]
 clear hr h0
 go_enter Tryz.func138, Tryz.ntmps138
 go_wp2_with fail
 refine Calls.mono RC.out ?_
 rintro r w1 ⟨rfl, hb1⟩
 have hb01 := nT hb0 hb1
 have k0 : w1.cell? ⟨w.heap.size, 0, none⟩ = some (.bool s) := kC hb1 (by go_simp)
 have k1 : w1.cell? ⟨w.heap.size, 1, none⟩ = some (.slice a len cap) := kC hb1 (by go_simp)
 have k2 : w1.cell? ⟨w.heap.size, 2, none⟩ = some (.int .i64 e) := kC hb1 (by go_simp)
 go_wp2_with fail
 refine Calls.mono (canonical_calls s a len cap xs e w1 (h.keep hb01) hm (hT.kept hb01)) ?_
 rintro r w2 ⟨a2, n2, c2, e2, rfl, HE, HN2, HZ2, hn2, hO2, hb2⟩
 rw [HCG.out] at HE HN2 hO2 ⊢
 obtain rfl := HE.out HEB.out.1 HEB.out.2
 have hb02 := nT hb01 hb2
 rw [HF.out] at HN2 ⊢
 have hz : n2 = 0 := by have := HN2.out; rw [words_zero] at this; exact this
 subst hz
 clear HN2 hO2 HGR HE
 go_wp2_with fail
 refine Calls.mono (zero_calls _ _ _ _ _ _ _) ?_
 rintro r w3 ⟨rfl, rfl⟩
 go_wp2_with fail
 go_ret2
 exact ⟨rfl, by repeat (first | exact hb02 | refine Below.drew ?_ | refine nT ?_ (below_one _ _))⟩
set_option maxRecDepth 100000 in
set_option maxHeartbeats 1000000 in
theorem to_noA (s : Bool) (a : Option Addr) (len cap : Nat) (xs : List Int) (e : Int) (w : World) (h : IsW w a len cap xs) (hm : len ≤ 17592186044416) (hT : Tab w) (hr : rightB (val xs) e = true) (h0 : val xs ≠ 0) (hA : 53 < (blen (formD s (val xs) e).2.1 : Int)) :
  Calls Tryz.prog 138 #[dyV s a len cap e] w fun r w' => r = .returned (.tuple #[.int .u64 0, .bool false]) ∧ Below w.heap.size w w' := by
 have hb0 : Below w.heap.size w ((w.alloc (.cells #[.bool s, .slice a len cap, .int .i64 e] 27)).alloc (.cells #[.bool s, .slice a len cap, .int .i64 e] 27)) := nT (below_one _ _) (below_one _ _)
 have RC : Hid _ := right1_calls (w.heap.size + 1) s a len cap xs e _ (h.keep hb0) hm (by go_simp) (by go_simp) (by go_simp)
 have HCG : Hid (canG s (val xs) e = formD s (val xs) e) := canG_no (rightB_yes hr).1
 have HEB : Hid (-4611686018427387904 ≤ e ∧ e ≤ 4611686018427387904) := by have := (rightB_yes hr).2; rw [Hid]; omega
 have HGR : Hid (greatB (formD s (val xs) e).2.1 = false) := great_mono (form_amount_le _ _ _) (rightB_yes hr).1
 rw [hr] at RC
 have HNE : Hid ((formD s (val xs) e).2.1 ≠ 0) := by rw [Hid, form_pos s h0]; intro q; have := (odd_part h0).1; simp only at q; rw [q] at this; omega
 have hpe : -4611686018427387904 ≤ (formD s (val xs) e).2.2 ∧ (formD s (val xs) e).2.2 ≤ 4611686018427387904 := by have h3 := (rightB_yes hr).2; have h4 := tz_le_blen (val xs); have h5 := (great_not _).1 (rightB_yes hr).1; rw [form_pos s h0]; simp only; omega
 clear hr h0
 go_enter Tryz.func138, Tryz.ntmps138
 go_wp2_with fail
 refine Calls.mono RC.out ?_
 rintro r w1 ⟨rfl, hb1⟩
 have hb01 := nT hb0 hb1
 have k0 : w1.cell? ⟨w.heap.size, 0, none⟩ = some (.bool s) := kC hb1 (by go_simp)
 have k1 : w1.cell? ⟨w.heap.size, 1, none⟩ = some (.slice a len cap) := kC hb1 (by go_simp)
 have k2 : w1.cell? ⟨w.heap.size, 2, none⟩ = some (.int .i64 e) := kC hb1 (by go_simp)
 go_wp2_with fail
 refine Calls.mono (canonical_calls s a len cap xs e w1 (h.keep hb01) hm (hT.kept hb01)) ?_
 rintro r w2 ⟨a2, n2, c2, e2, rfl, HE, HN2, HZ2, hn2, hO2, hb2⟩
 rw [HCG.out] at HE HN2 hO2 ⊢
 obtain rfl := HE.out HEB.out.1 HEB.out.2
 have hb02 := nT hb01 hb2
 have hz : n2 ≠ 0 := fun q => HNE.out ((words_nil _).1 (List.length_eq_zero_iff.1 (HN2.out.symm.trans q)))
 have hI2 := hO2.1
 have hg2 := HGR.out
 generalize formD s (val xs) e = p at *
 obtain ⟨ps, pm, pe⟩ := p
 simp only at *
 have SC : Hid _ := fun w' q => size_calls ps a2 n2 c2 pm pe false w' q hn2 hg2
 have TC : Hid _ := fun w' q => top_calls ps a2 n2 c2 pm pe false w' q hn2 hg2 hpe
 have hz' : ¬ (n2 : Int) = 0 := by omega
 obtain ⟨hp1, hp2⟩ := hpe
 generalize blen pm = bl at *
 clear HE HCG HEB HGR hb1 hb2 hb01 k0 k1 k2
 go_wp2_with fail
 refine Calls.mono (zero_calls _ _ _ _ _ _ _) ?_
 rintro r w3 ⟨rfl, rfl⟩
 have e1 : ((n2 : Int) == 0) = false := by simp; omega
 rw [e1]
 go_wp2_with fail
 have hbx : Below w2.heap.size w2 ((w2.alloc (.cells #[.bool ps, .slice a2 n2 c2, .int .i64 pe, .bool false] 72)).alloc (.cells #[.bool ps, .slice a2 n2 c2, .int .i64 pe, .bool false] 72)) := nT (below_one _ _) (below_one _ _)
 refine Calls.mono (SC.out _ (hI2.keep hbx)) ?_
 rintro r w4 ⟨rfl, hb4⟩
 have x0 : w4.cell? ⟨w2.heap.size, 0, none⟩ = some (.bool ps) := kC hb4 (by go_simp)
 have x1 : w4.cell? ⟨w2.heap.size, 1, none⟩ = some (.slice a2 n2 c2) := kC hb4 (by go_simp)
 have x2 : w4.cell? ⟨w2.heap.size, 2, none⟩ = some (.int .i64 pe) := kC hb4 (by go_simp)
 have x3 : w4.cell? ⟨w2.heap.size, 3, none⟩ = some (.bool false) := kC hb4 (by go_simp)
 have hb24 := nT hbx hb4
 have hb04 := nT hb02 hb24
 have hI4 := hI2.keep hb24
 clear hb4 hbx
 go_wp2_with fail
 go_ret2
 exact ⟨rfl, hb04⟩
set_option maxRecDepth 100000 in
set_option maxHeartbeats 1000000 in
theorem to_noB (s : Bool) (a : Option Addr) (len cap : Nat) (xs : List Int) (e : Int) (w : World) (h : IsW w a len cap xs) (hm : len ≤ 17592186044416) (hT : Tab w) (hr : rightB (val xs) e = true) (h0 : val xs ≠ 0) (hA : (blen (formD s (val xs) e).2.1 : Int) ≤ 53) (hB : 1023 < (formD s (val xs) e).2.2 + (blen (formD s (val xs) e).2.1 : Int) - 1) :
  Calls Tryz.prog 138 #[dyV s a len cap e] w fun r w' => r = .returned (.tuple #[.int .u64 0, .bool false]) ∧ Below w.heap.size w w' := by
 have hb0 : Below w.heap.size w ((w.alloc (.cells #[.bool s, .slice a len cap, .int .i64 e] 27)).alloc (.cells #[.bool s, .slice a len cap, .int .i64 e] 27)) := nT (below_one _ _) (below_one _ _)
 have RC : Hid _ := right1_calls (w.heap.size + 1) s a len cap xs e _ (h.keep hb0) hm (by go_simp) (by go_simp) (by go_simp)
 have HCG : Hid (canG s (val xs) e = formD s (val xs) e) := canG_no (rightB_yes hr).1
 have HEB : Hid (-4611686018427387904 ≤ e ∧ e ≤ 4611686018427387904) := by have := (rightB_yes hr).2; rw [Hid]; omega
 have HGR : Hid (greatB (formD s (val xs) e).2.1 = false) := great_mono (form_amount_le _ _ _) (rightB_yes hr).1
 rw [hr] at RC
 have HNE : Hid ((formD s (val xs) e).2.1 ≠ 0) := by rw [Hid, form_pos s h0]; intro q; have := (odd_part h0).1; simp only at q; rw [q] at this; omega
 have hpe : -4611686018427387904 ≤ (formD s (val xs) e).2.2 ∧ (formD s (val xs) e).2.2 ≤ 4611686018427387904 := by have h3 := (rightB_yes hr).2; have h4 := tz_le_blen (val xs); have h5 := (great_not _).1 (rightB_yes hr).1; rw [form_pos s h0]; simp only; omega
 clear hr h0
 go_enter Tryz.func138, Tryz.ntmps138
 go_wp2_with fail
 refine Calls.mono RC.out ?_
 rintro r w1 ⟨rfl, hb1⟩
 have hb01 := nT hb0 hb1
 have k0 : w1.cell? ⟨w.heap.size, 0, none⟩ = some (.bool s) := kC hb1 (by go_simp)
 have k1 : w1.cell? ⟨w.heap.size, 1, none⟩ = some (.slice a len cap) := kC hb1 (by go_simp)
 have k2 : w1.cell? ⟨w.heap.size, 2, none⟩ = some (.int .i64 e) := kC hb1 (by go_simp)
 go_wp2_with fail
 refine Calls.mono (canonical_calls s a len cap xs e w1 (h.keep hb01) hm (hT.kept hb01)) ?_
 rintro r w2 ⟨a2, n2, c2, e2, rfl, HE, HN2, HZ2, hn2, hO2, hb2⟩
 rw [HCG.out] at HE HN2 hO2 ⊢
 obtain rfl := HE.out HEB.out.1 HEB.out.2
 have hb02 := nT hb01 hb2
 have hz : n2 ≠ 0 := fun q => HNE.out ((words_nil _).1 (List.length_eq_zero_iff.1 (HN2.out.symm.trans q)))
 have hI2 := hO2.1
 have hg2 := HGR.out
 generalize formD s (val xs) e = p at *
 obtain ⟨ps, pm, pe⟩ := p
 simp only at *
 have SC : Hid _ := fun w' q => size_calls ps a2 n2 c2 pm pe false w' q hn2 hg2
 have TC : Hid _ := fun w' q => top_calls ps a2 n2 c2 pm pe false w' q hn2 hg2 hpe
 have hz' : ¬ (n2 : Int) = 0 := by omega
 obtain ⟨hp1, hp2⟩ := hpe
 generalize blen pm = bl at *
 clear HE HCG HEB HGR hb1 hb2 hb01 k0 k1 k2
 go_wp2_with fail
 refine Calls.mono (zero_calls _ _ _ _ _ _ _) ?_
 rintro r w3 ⟨rfl, rfl⟩
 have e1 : ((n2 : Int) == 0) = false := by simp; omega
 rw [e1]
 go_wp2_with fail
 have hbx : Below w2.heap.size w2 ((w2.alloc (.cells #[.bool ps, .slice a2 n2 c2, .int .i64 pe, .bool false] 72)).alloc (.cells #[.bool ps, .slice a2 n2 c2, .int .i64 pe, .bool false] 72)) := nT (below_one _ _) (below_one _ _)
 refine Calls.mono (SC.out _ (hI2.keep hbx)) ?_
 rintro r w4 ⟨rfl, hb4⟩
 have x0 : w4.cell? ⟨w2.heap.size, 0, none⟩ = some (.bool ps) := kC hb4 (by go_simp)
 have x1 : w4.cell? ⟨w2.heap.size, 1, none⟩ = some (.slice a2 n2 c2) := kC hb4 (by go_simp)
 have x2 : w4.cell? ⟨w2.heap.size, 2, none⟩ = some (.int .i64 pe) := kC hb4 (by go_simp)
 have x3 : w4.cell? ⟨w2.heap.size, 3, none⟩ = some (.bool false) := kC hb4 (by go_simp)
 have hb24 := nT hbx hb4
 have hb04 := nT hb02 hb24
 have hI4 := hI2.keep hb24
 clear hb4 hbx
 go_wp2_with fail
 refine Calls.mono (TC.out _ hI4) ?_
 rintro r w5 ⟨rfl, hb5⟩
 replace x0 := kC hb5 x0
 replace x1 := kC hb5 x1
 replace x2 := kC hb5 x2
 replace x3 := kC hb5 x3
 replace hI4 := hI4.keep hb5
 replace hb04 := nT hb04 hb5
 clear hb5
 go_wp2_with fail
 go_ret2
 exact ⟨rfl, hb04⟩
set_option maxRecDepth 100000 in
set_option maxHeartbeats 1000000 in
theorem to_noC (s : Bool) (a : Option Addr) (len cap : Nat) (xs : List Int) (e : Int) (w : World) (h : IsW w a len cap xs) (hm : len ≤ 17592186044416) (hT : Tab w) (hr : rightB (val xs) e = true) (h0 : val xs ≠ 0) (hA : (blen (formD s (val xs) e).2.1 : Int) ≤ 53) (hB : (formD s (val xs) e).2.2 + (blen (formD s (val xs) e).2.1 : Int) - 1 ≤ 1023) (hC : (formD s (val xs) e).2.2 < -1074) :
  Calls Tryz.prog 138 #[dyV s a len cap e] w fun r w' => r = .returned (.tuple #[.int .u64 0, .bool false]) ∧ Below w.heap.size w w' := by
 have hb0 : Below w.heap.size w ((w.alloc (.cells #[.bool s, .slice a len cap, .int .i64 e] 27)).alloc (.cells #[.bool s, .slice a len cap, .int .i64 e] 27)) := nT (below_one _ _) (below_one _ _)
 have RC : Hid _ := right1_calls (w.heap.size + 1) s a len cap xs e _ (h.keep hb0) hm (by go_simp) (by go_simp) (by go_simp)
 have HCG : Hid (canG s (val xs) e = formD s (val xs) e) := canG_no (rightB_yes hr).1
 have HEB : Hid (-4611686018427387904 ≤ e ∧ e ≤ 4611686018427387904) := by have := (rightB_yes hr).2; rw [Hid]; omega
 have HGR : Hid (greatB (formD s (val xs) e).2.1 = false) := great_mono (form_amount_le _ _ _) (rightB_yes hr).1
 rw [hr] at RC
 have HNE : Hid ((formD s (val xs) e).2.1 ≠ 0) := by rw [Hid, form_pos s h0]; intro q; have := (odd_part h0).1; simp only at q; rw [q] at this; omega
 have hpe : -4611686018427387904 ≤ (formD s (val xs) e).2.2 ∧ (formD s (val xs) e).2.2 ≤ 4611686018427387904 := by have h3 := (rightB_yes hr).2; have h4 := tz_le_blen (val xs); have h5 := (great_not _).1 (rightB_yes hr).1; rw [form_pos s h0]; simp only; omega
 clear hr h0
 go_enter Tryz.func138, Tryz.ntmps138
 go_wp2_with fail
 refine Calls.mono RC.out ?_
 rintro r w1 ⟨rfl, hb1⟩
 have hb01 := nT hb0 hb1
 have k0 : w1.cell? ⟨w.heap.size, 0, none⟩ = some (.bool s) := kC hb1 (by go_simp)
 have k1 : w1.cell? ⟨w.heap.size, 1, none⟩ = some (.slice a len cap) := kC hb1 (by go_simp)
 have k2 : w1.cell? ⟨w.heap.size, 2, none⟩ = some (.int .i64 e) := kC hb1 (by go_simp)
 go_wp2_with fail
 refine Calls.mono (canonical_calls s a len cap xs e w1 (h.keep hb01) hm (hT.kept hb01)) ?_
 rintro r w2 ⟨a2, n2, c2, e2, rfl, HE, HN2, HZ2, hn2, hO2, hb2⟩
 rw [HCG.out] at HE HN2 hO2 ⊢
 obtain rfl := HE.out HEB.out.1 HEB.out.2
 have hb02 := nT hb01 hb2
 have hz : n2 ≠ 0 := fun q => HNE.out ((words_nil _).1 (List.length_eq_zero_iff.1 (HN2.out.symm.trans q)))
 have hI2 := hO2.1
 have hg2 := HGR.out
 generalize formD s (val xs) e = p at *
 obtain ⟨ps, pm, pe⟩ := p
 simp only at *
 have SC : Hid _ := fun w' q => size_calls ps a2 n2 c2 pm pe false w' q hn2 hg2
 have TC : Hid _ := fun w' q => top_calls ps a2 n2 c2 pm pe false w' q hn2 hg2 hpe
 have hz' : ¬ (n2 : Int) = 0 := by omega
 obtain ⟨hp1, hp2⟩ := hpe
 generalize blen pm = bl at *
 clear HE HCG HEB HGR hb1 hb2 hb01 k0 k1 k2
 go_wp2_with fail
 refine Calls.mono (zero_calls _ _ _ _ _ _ _) ?_
 rintro r w3 ⟨rfl, rfl⟩
 have e1 : ((n2 : Int) == 0) = false := by simp; omega
 rw [e1]
 go_wp2_with fail
 have hbx : Below w2.heap.size w2 ((w2.alloc (.cells #[.bool ps, .slice a2 n2 c2, .int .i64 pe, .bool false] 72)).alloc (.cells #[.bool ps, .slice a2 n2 c2, .int .i64 pe, .bool false] 72)) := nT (below_one _ _) (below_one _ _)
 refine Calls.mono (SC.out _ (hI2.keep hbx)) ?_
 rintro r w4 ⟨rfl, hb4⟩
 have x0 : w4.cell? ⟨w2.heap.size, 0, none⟩ = some (.bool ps) := kC hb4 (by go_simp)
 have x1 : w4.cell? ⟨w2.heap.size, 1, none⟩ = some (.slice a2 n2 c2) := kC hb4 (by go_simp)
 have x2 : w4.cell? ⟨w2.heap.size, 2, none⟩ = some (.int .i64 pe) := kC hb4 (by go_simp)
 have x3 : w4.cell? ⟨w2.heap.size, 3, none⟩ = some (.bool false) := kC hb4 (by go_simp)
 have hb24 := nT hbx hb4
 have hb04 := nT hb02 hb24
 have hI4 := hI2.keep hb24
 clear hb4 hbx
 go_wp2_with fail
 refine Calls.mono (TC.out _ hI4) ?_
 rintro r w5 ⟨rfl, hb5⟩
 replace x0 := kC hb5 x0
 replace x1 := kC hb5 x1
 replace x2 := kC hb5 x2
 replace x3 := kC hb5 x3
 replace hI4 := hI4.keep hb5
 replace hb04 := nT hb04 hb5
 clear hb5
 go_wp2_with fail
 go_ret2
 exact ⟨rfl, hb04⟩
theorem words_one (n : Nat) (h0 : n ≠ 0) (h : n < 18446744073709551616) : wordsOf n = [(n : Int)] := by
 rw [wordsOf, dif_neg h0, Nat.div_eq_of_lt h, words_zero, Nat.mod_eq_of_lt h]
theorem word_of {w : World} {a : Option Addr} {n c m : Nat} (hI : IsW w a n c (wordsOf m)) (h0 : m ≠ 0) (h53 : blen m ≤ 53) : n = 1 ∧ ∃ b off, a = some ⟨b, off, none⟩ ∧ w.cell? ⟨b, off, none⟩ = some (.int .u64 (m : Int)) := by
 have hl : m < 18446744073709551616 := by have := (blen_le m 53).1 h53; have : (2 : Nat) ^ 53 = 9007199254740992 := rfl; omega
 obtain ⟨h1, h2, h4, h3⟩ := hI
 rw [words_one m h0 hl] at h1 h3
 have hn : n = 1 := h1
 subst hn
 obtain ⟨b, off, e1, e2, e3⟩ := h3 0 (by omega)
 exact ⟨rfl, b, off, e1, e3⟩
theorem fields_calls (s : Bool) (a : Option Addr) (n c m : Nat) (e : Int) (w : World) (hI : IsW w a n c (wordsOf m)) (hg : greatB m = false) (h0 : m ≠ 0) (h53 : blen m ≤ 53) (he : -1074 ≤ e) (ht : e + (blen m : Int) - 1 ≤ 1023) :
  Calls Tryz.prog 155 #[numV s a n c e false] w fun r w' => r = .returned (.agg #[.bool s, .int .i64 (fldE m e), .int .u64 (fldF m e)]) ∧ Below w.heap.size w w' := by
 obtain ⟨rfl, b, off, rfl, hc0⟩ := word_of hI h0 h53
 have hb1 : blen m ≠ 0 := fun q => h0 ((blen_nil m).1 q)
 unfold fldE fldF
 by_cases hl : e + (blen m : Int) - 1 < -1022
 ·rw [if_pos hl, if_pos hl]
  exact fields_low s b off c m e w hI hc0 hg (e + 1074).toNat (by omega) (by omega)
 ·rw [if_neg hl, if_neg hl]
  exact fields_high s b off c m e w hI hc0 hg h0 (53 - blen m) (by omega) (by omega) (by omega)
theorem fld_ok (m : Nat) (e : Int) (h0 : m ≠ 0) (h53 : blen m ≤ 53) (he : -1074 ≤ e) (ht : e + (blen m : Int) - 1 ≤ 1023) : U (fldF m e) ∧ joinE (fldE m e) (fldF m e) = 0 := by
 unfold fldE fldF joinE
 by_cases hl : e + (blen m : Int) - 1 < -1022
 ·rw [if_pos hl, if_pos hl]
  have := low_room (m := m) (j := (e + 1074).toNat) (by omega)
  generalize m * 2 ^ (e + 1074).toNat = F at *
  exact ⟨⟨by omega, by omega⟩, by rw [if_neg (by omega)]⟩
 ·rw [if_neg hl, if_neg hl]
  have := high_room h0 (j := 53 - blen m) (by omega)
  generalize m * 2 ^ (53 - blen m) = F at *
  exact ⟨⟨by omega, by omega⟩, by rw [if_neg (by omega)]⟩
set_option maxRecDepth 100000 in
set_option maxHeartbeats 1000000 in
theorem to_yes (s : Bool) (a : Option Addr) (len cap : Nat) (xs : List Int) (e : Int) (w : World) (h : IsW w a len cap xs) (hm : len ≤ 17592186044416) (hT : Tab w) (hr : rightB (val xs) e = true) (h0 : val xs ≠ 0) (hA : (blen (formD s (val xs) e).2.1 : Int) ≤ 53) (hB : (formD s (val xs) e).2.2 + (blen (formD s (val xs) e).2.1 : Int) - 1 ≤ 1023) (hC : -1074 ≤ (formD s (val xs) e).2.2) (J : Int) (hJ : toV (formD s (val xs) e) = J) :
  Calls Tryz.prog 138 #[dyV s a len cap e] w fun r w' => r = .returned (.tuple #[.int .u64 J, .bool true]) ∧ Below w.heap.size w w' := by
 have hb0 : Below w.heap.size w ((w.alloc (.cells #[.bool s, .slice a len cap, .int .i64 e] 27)).alloc (.cells #[.bool s, .slice a len cap, .int .i64 e] 27)) := nT (below_one _ _) (below_one _ _)
 have RC : Hid _ := right1_calls (w.heap.size + 1) s a len cap xs e _ (h.keep hb0) hm (by go_simp) (by go_simp) (by go_simp)
 have HCG : Hid (canG s (val xs) e = formD s (val xs) e) := canG_no (rightB_yes hr).1
 have HEB : Hid (-4611686018427387904 ≤ e ∧ e ≤ 4611686018427387904) := by have := (rightB_yes hr).2; rw [Hid]; omega
 have HGR : Hid (greatB (formD s (val xs) e).2.1 = false) := great_mono (form_amount_le _ _ _) (rightB_yes hr).1
 rw [hr] at RC
 have HNE : Hid ((formD s (val xs) e).2.1 ≠ 0) := by rw [Hid, form_pos s h0]; intro q; have := (odd_part h0).1; simp only at q; rw [q] at this; omega
 have hpe : -4611686018427387904 ≤ (formD s (val xs) e).2.2 ∧ (formD s (val xs) e).2.2 ≤ 4611686018427387904 := by have h3 := (rightB_yes hr).2; have h4 := tz_le_blen (val xs); have h5 := (great_not _).1 (rightB_yes hr).1; rw [form_pos s h0]; simp only; omega
 clear hr h0
 go_enter Tryz.func138, Tryz.ntmps138
 go_wp2_with fail
 refine Calls.mono RC.out ?_
 rintro r w1 ⟨rfl, hb1⟩
 have hb01 := nT hb0 hb1
 have k0 : w1.cell? ⟨w.heap.size, 0, none⟩ = some (.bool s) := kC hb1 (by go_simp)
 have k1 : w1.cell? ⟨w.heap.size, 1, none⟩ = some (.slice a len cap) := kC hb1 (by go_simp)
 have k2 : w1.cell? ⟨w.heap.size, 2, none⟩ = some (.int .i64 e) := kC hb1 (by go_simp)
 go_wp2_with fail
 refine Calls.mono (canonical_calls s a len cap xs e w1 (h.keep hb01) hm (hT.kept hb01)) ?_
 rintro r w2 ⟨a2, n2, c2, e2, rfl, HE, HN2, HZ2, hn2, hO2, hb2⟩
 rw [HCG.out] at HE HN2 hO2 ⊢
 obtain rfl := HE.out HEB.out.1 HEB.out.2
 have hb02 := nT hb01 hb2
 have hz : n2 ≠ 0 := fun q => HNE.out ((words_nil _).1 (List.length_eq_zero_iff.1 (HN2.out.symm.trans q)))
 have hI2 := hO2.1
 have hg2 := HGR.out
 generalize formD s (val xs) e = p at *
 obtain ⟨ps, pm, pe⟩ := p
 simp only at *
 have SC : Hid _ := fun w' q => size_calls ps a2 n2 c2 pm pe false w' q hn2 hg2
 have TC : Hid _ := fun w' q => top_calls ps a2 n2 c2 pm pe false w' q hn2 hg2 hpe
 have FC : Hid _ := fun w' q => fields_calls ps a2 n2 c2 pm pe w' q hg2 HNE.out (by omega) (by omega) (by omega)
 have hfo := fld_ok pm pe HNE.out (by omega) (by omega) (by omega)
 have JC : Hid _ := fun w' => join_calls ps (fldE pm pe) (fldF pm pe) w' hfo.1
 have hJ' : joinV ps (fldE pm pe) (fldF pm pe) = J := hJ
 rw [hfo.2, hJ'] at JC
 clear hJ hJ' hfo
 generalize fldE pm pe = FE at *
 generalize fldF pm pe = FF at *
 have hz' : ¬ (n2 : Int) = 0 := by omega
 obtain ⟨hp1, hp2⟩ := hpe
 generalize blen pm = bl at *
 clear HE HCG HEB HGR hb1 hb2 hb01 k0 k1 k2
 go_wp2_with fail
 refine Calls.mono (zero_calls _ _ _ _ _ _ _) ?_
 rintro r w3 ⟨rfl, rfl⟩
 have e1 : ((n2 : Int) == 0) = false := by simp; omega
 rw [e1]
 go_wp2_with fail
 have hbx : Below w2.heap.size w2 ((w2.alloc (.cells #[.bool ps, .slice a2 n2 c2, .int .i64 pe, .bool false] 72)).alloc (.cells #[.bool ps, .slice a2 n2 c2, .int .i64 pe, .bool false] 72)) := nT (below_one _ _) (below_one _ _)
 refine Calls.mono (SC.out _ (hI2.keep hbx)) ?_
 rintro r w4 ⟨rfl, hb4⟩
 have x0 : w4.cell? ⟨w2.heap.size, 0, none⟩ = some (.bool ps) := kC hb4 (by go_simp)
 have x1 : w4.cell? ⟨w2.heap.size, 1, none⟩ = some (.slice a2 n2 c2) := kC hb4 (by go_simp)
 have x2 : w4.cell? ⟨w2.heap.size, 2, none⟩ = some (.int .i64 pe) := kC hb4 (by go_simp)
 have x3 : w4.cell? ⟨w2.heap.size, 3, none⟩ = some (.bool false) := kC hb4 (by go_simp)
 have hb24 := nT hbx hb4
 have hb04 := nT hb02 hb24
 have hI4 := hI2.keep hb24
 clear hb4 hbx
 go_wp2_with fail
 refine Calls.mono (TC.out _ hI4) ?_
 rintro r w5 ⟨rfl, hb5⟩
 replace x0 := kC hb5 x0
 replace x1 := kC hb5 x1
 replace x2 := kC hb5 x2
 replace x3 := kC hb5 x3
 replace hI4 := hI4.keep hb5
 replace hb04 := nT hb04 hb5
 clear hb5
 go_wp2_with fail
 refine Calls.mono (FC.out _ hI4) ?_
 rintro r w6 ⟨rfl, hb6⟩
 replace hb04 := nT hb04 hb6
 clear hb6
 go_wp2_with fail
 refine Calls.mono (JC.out _) ?_
 rintro r w7 ⟨rfl, hb7⟩
 replace hb04 := nT hb04 hb7
 clear hb7
 go_wp2_with fail
 go_ret2
 exact ⟨rfl, hb04⟩
theorem to_calls (s : Bool) (a : Option Addr) (len cap : Nat) (xs : List Int) (e : Int) (w : World) (h : IsW w a len cap xs) (hm : len ≤ 17592186044416) (hT : Tab w) :
  Calls Tryz.prog 138 #[dyV s a len cap e] w fun r w' => r = .returned (.tuple #[.int .u64 (toR s (val xs) e).1, .bool (toR s (val xs) e).2]) ∧ Below w.heap.size w w' := by
 cases hr : rightB (val xs) e with
 | false => rw [toR_not hr]; exact to_not s a len cap xs e w h hm hr
 | true =>
  by_cases h0 : val xs = 0
  ·have e0 : toR s (val xs) e = (0, true) := by rw [h0] at hr ⊢; exact toR_zero hr
   rw [e0]; exact to_zero s a len cap xs e w h hm hT hr h0
  ·cases hb : toB (formD s (val xs) e) with
   | true =>
    rw [toR_yes hr h0 hb]
    have hb' := hb
    unfold toB at hb'
    have hb2 := of_decide_eq_true hb'
    exact to_yes s a len cap xs e w h hm hT hr h0 (by omega) (by omega) (by omega) _ rfl
   | false =>
    rw [toR_no hr h0 hb]
    have hb' := hb
    unfold toB at hb'
    have hb2 := of_decide_eq_false hb'
    by_cases hA : 53 < (blen (formD s (val xs) e).2.1 : Int)
    ·exact to_noA s a len cap xs e w h hm hT hr h0 hA
    ·by_cases hB : 1023 < (formD s (val xs) e).2.2 + (blen (formD s (val xs) e).2.1 : Int) - 1
     ·exact to_noB s a len cap xs e w h hm hT hr h0 (by omega) hB
     ·exact to_noC s a len cap xs e w h hm hT hr h0 (by omega) (by omega) (by omega)
end Go.Proofs.YtionhpedghmecaaGreatDoor

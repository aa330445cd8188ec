/- The document's dyadic numbers: To. -/
import Derived.Test.YtoefhlapfnjbjaaGreatDoorXBA
import Derived.Test.YtoefhlapfnjbjaaGreatDoorTMS
import Derived.Test.YtoefhlapfnjbjaaGreatDoorTMH
import Derived.Test.YtoefhlapfnjbjaaGreatDoorTMF
import Derived.Test.YtoefhlapfnjbjaaGreatDoorDCmp2
namespace Go.Proofs.YtoefhlapfnjbjaaGreatDoor
open Go.RowKit

set_option maxHeartbeats 400000 in
theorem rJoin_calls (s : Bool) (e f : Int) (w : World) (h2 : U f) :
    Calls Tryz.prog 48 #[.agg #[.bool s, .int .i64 e, .int .u64 f]] w fun r w' => r = .returned (.tuple #[.int .u64 (joinV s e f), .int .i64 (joinE e f)]) ∧ Below w.heap.size w w' := by
  by_cases c : e < 0 ∨ 2047 < e ∨ 4503599627370495 < f
  · have hE : Hid (joinE e f = 2) := by unfold joinE; rw [Hid, if_pos c]
    have hV : Hid (joinV s e f = 0) := by unfold joinV; rw [Hid, hE.out]; rfl
    obtain ⟨h0, h1⟩ := h2
    by_cases c1 : e < 0
    all_goals by_cases c2 : 2047 < e
    all_goals by_cases c3 : 4503599627370496 ≤ f
    all_goals first
      | omega
      | (clear c
         go_enter Tryz.func48, Tryz.ntmps48
         go_wp2
         go_ret2
         rw [hE.out, hV.out]
         exact ⟨rfl, below_alloc _ _⟩)
  · obtain ⟨h0, h1⟩ := h2
    have c1 : 0 ≤ e := by omega
    have c2 : e ≤ 2047 := by omega
    have c3 : f ≤ 4503599627370495 := by omega
    have hE : Hid (joinE e f = 0) := by unfold joinE; rw [Hid, if_neg c]
    have hV : Hid (joinV s e f = (if s then 9223372036854775808 else 0) + e * 4503599627370496 + f) := by unfold joinV; rw [Hid, hE.out]; rfl
    clear c
    cases s
    · go_enter Tryz.func48, Tryz.ntmps48
      go_wp2
      go_ret2
      refine ⟨?_, below_alloc _ _⟩
      rw [hE.out, hV.out]
      simp
    · go_enter Tryz.func48, Tryz.ntmps48
      go_wp2
      go_ret2
      refine ⟨?_, below_alloc _ _⟩
      rw [hE.out, hV.out]
      simp
      omega
def fldE (m : Nat) (e : Int) : Int := if e + (blen m : Int) - 1 < -1022 then 0 else e + (blen m : Int) - 1 + 1023
def fldF (m : Nat) (e : Int) : Int := if e + (blen m : Int) - 1 < -1022 then ((m * 2 ^ (e + 1074).toNat : Nat) : Int) else ((m * 2 ^ (53 - blen m) - 4503599627370496 : Nat) : Int)
def toB (p : Bool × Nat × Int) : Bool := decide (blen p.2.1 ≤ 53 ∧ -1074 ≤ p.2.2 ∧ p.2.2 + (blen p.2.1 : Int) - 1 ≤ 1023)
def toV (p : Bool × Nat × Int) : Int := joinV p.1 (fldE p.2.1 p.2.2) (fldF p.2.1 p.2.2)
def toR (s : Bool) (m : Nat) (e : Int) : Int × Bool := if rightB m e = false then (0, false) else if m = 0 then (0, true) else if toB (formD s m e) = true then (toV (formD s m e), true) else (0, false)
theorem toR_not {s : Bool} {m : Nat} {e : Int} (h : rightB m e = false) : toR s m e = (0, false) := by unfold toR; rw [if_pos h]
theorem toR_zero {s : Bool} {e : Int} (h : rightB 0 e = true) : toR s 0 e = (0, true) := by unfold toR; rw [if_neg (by rw [h]; decide), if_pos rfl]
theorem toR_no {s : Bool} {m : Nat} {e : Int} (h : rightB m e = true) (h0 : m ≠ 0) (hb : toB (formD s m e) = false) : toR s m e = (0, false) := by unfold toR; rw [if_neg (by rw [h]; decide), if_neg h0, if_neg (by rw [hb]; decide)]
theorem toR_yes {s : Bool} {m : Nat} {e : Int} (h : rightB m e = true) (h0 : m ≠ 0) (hb : toB (formD s m e) = true) : toR s m e = (toV (formD s m e), true) := by unfold toR; rw [if_neg (by rw [h]; decide), if_neg h0, if_pos hb]
theorem low_room {m j : Nat} (h : j + blen m ≤ 52) : m * 2 ^ j < 4503599627370496 := by
  have h1 := lt_blen m
  have h2 : m * 2 ^ j < 2 ^ blen m * 2 ^ j := Nat.mul_lt_mul_of_pos_right h1 (Nat.pow_pos (by decide))
  rw [← Nat.pow_add] at h2
  have h3 := Nat.pow_le_pow_right (show 0 < 2 by decide) (show blen m + j ≤ 52 by omega)
  have : (2 : Nat) ^ 52 = 4503599627370496 := rfl
  omega
theorem high_room {m j : Nat} (h0 : m ≠ 0) (h : j + blen m = 53) : 4503599627370496 ≤ m * 2 ^ j ∧ m * 2 ^ j < 9007199254740992 := by
  have h1 := lt_blen m
  have h2 : m * 2 ^ j < 2 ^ blen m * 2 ^ j := Nat.mul_lt_mul_of_pos_right h1 (Nat.pow_pos (by decide))
  have h4 := Nat.mul_le_mul_right (2 ^ j) (blen_ge m h0)
  have hp : blen m ≠ 0 := fun q => h0 ((blen_nil m).1 q)
  rw [← Nat.pow_add, show blen m + j = 53 by omega] at h2
  rw [← Nat.pow_add, show blen m - 1 + j = 52 by omega] at h4
  have : (2 : Nat) ^ 52 = 4503599627370496 := rfl
  have : (2 : Nat) ^ 53 = 9007199254740992 := rfl
  omega
theorem shl_nat {m j : Nat} (h : m * 2 ^ j < 18446744073709551616) : IntKind.u64.wrap ((m : Int) * 2 ^ j) = ((m * 2 ^ j : Nat) : Int) := by
  rw [mul_pow_cast, wrap_nat, Nat.mod_eq_of_lt h]
theorem words_one (n : Nat) (h0 : n ≠ 0) (h : n < 18446744073709551616) : wordsOf n = [(n : Int)] := by
  rw [wordsOf, dif_neg h0, Nat.div_eq_of_lt h, words_zero, Nat.mod_eq_of_lt h]
theorem word_of {w : World} {a : Option Addr} {n c m : Nat} (hI : IsW w a n c (wordsOf m)) (h0 : m ≠ 0) (h53 : blen m ≤ 53) : n = 1 ∧ ∃ b off, a = some ⟨b, off, none⟩ ∧ w.cell? ⟨b, off, none⟩ = some (.int .u64 (m : Int)) := by
  have hl : m < 18446744073709551616 := by have := (blen_le m 53).1 h53; have : (2 : Nat) ^ 53 = 9007199254740992 := rfl; omega
  obtain ⟨h1, h2, h4, h3⟩ := hI
  rw [words_one m h0 hl] at h1 h3
  have hn : n = 1 := h1
  subst hn
  obtain ⟨b, off, e1, e2, e3⟩ := h3 0 (by omega)
  exact ⟨rfl, b, off, e1, e3⟩
theorem fld_ok (m : Nat) (e : Int) (h0 : m ≠ 0) (h53 : blen m ≤ 53) (he : -1074 ≤ e) (ht : e + (blen m : Int) - 1 ≤ 1023) : U (fldF m e) ∧ joinE (fldE m e) (fldF m e) = 0 := by
  unfold fldE fldF joinE
  by_cases hl : e + (blen m : Int) - 1 < -1022
  · rw [if_pos hl, if_pos hl]
    have := low_room (m := m) (j := (e + 1074).toNat) (by omega)
    generalize m * 2 ^ (e + 1074).toNat = F at *
    exact ⟨⟨by omega, by omega⟩, by rw [if_neg (by omega)]⟩
  · rw [if_neg hl, if_neg hl]
    have := high_room h0 (j := 53 - blen m) (by omega)
    generalize m * 2 ^ (53 - blen m) = F at *
    exact ⟨⟨by omega, by omega⟩, by rw [if_neg (by omega)]⟩
set_option maxRecDepth 100000 in
set_option maxHeartbeats 1000000 in
theorem qto_not (s : Bool) (a : Option Addr) (len cap : Nat) (xs : List Int) (e : Int) (w : World) (h : IsW w a len cap xs) (hm : len ≤ 17592186044000) (hr : rightB (val xs) e = false) :
    Calls Tryz.prog 23 #[dyV s a len cap e] w fun r w' => r = .returned (.tuple #[.int .u64 0, .bool false]) ∧ Below w.heap.size w w' := by
  have hb0 := below_one w (.cells #[.bool s, .slice a len cap, .int .i64 e] 27)
  have RC : Hid _ := qRight_calls s a len cap xs e _ (h.keep hb0) (by omega)
  rw [hr] at RC
  clear hr
  go_enter Tryz.func23, Tryz.ntmps23
  go_wp2_with fail
  refine Calls.mono RC.out ?_
  rintro r w1 ⟨rfl, hb1⟩
  go_wp2_with fail
  go_ret2
  exact ⟨rfl, nT hb0 hb1⟩
set_option maxRecDepth 100000 in
set_option maxHeartbeats 4000000 in
theorem qto_zero (s : Bool) (a : Option Addr) (len cap : Nat) (xs : List Int) (e : Int) (w : World) (h : IsW w a len cap xs) (hm : len ≤ 17592186044000) (hr : rightB (val xs) e = true) (h0 : val xs = 0) :
    Calls Tryz.prog 23 #[dyV s a len cap e] w fun r w' => r = .returned (.tuple #[.int .u64 0, .bool true]) ∧ Below w.heap.size w w' := by
  have hb0 := below_one w (.cells #[.bool s, .slice a len cap, .int .i64 e] 27)
  have RC : Hid _ := qRight_calls s a len cap xs e _ (h.keep hb0) (by omega)
  have HEB : Hid (-4611686018427387904 ≤ e ∧ e ≤ 4611686018427387904) := by have := (rightB_yes hr).2; rw [Hid]; omega
  have HGR : Hid (greatB (formD s (val xs) e).2.1 = false) := great_mono (form_amount_le _ _ _) (rightB_yes hr).1
  rw [hr] at RC
  have HF : Hid (formD s (val xs) e = (false, 0, 0)) := by rw [Hid, h0, form_zero]
  clear hr h0
  go_enter Tryz.func23, Tryz.ntmps23
  go_wp2_with fail
  refine Calls.mono RC.out ?_
  rintro r w1 ⟨rfl, hb1⟩
  have hb01 := nT hb0 hb1
  have k0 : w1.cell? ⟨w.heap.size, 0, none⟩ = some (.bool s) := kC hb1 (by go_simp)
  have k1 : w1.cell? ⟨w.heap.size, 1, none⟩ = some (.slice a len cap) := kC hb1 (by go_simp)
  have k2 : w1.cell? ⟨w.heap.size, 2, none⟩ = some (.int .i64 e) := kC hb1 (by go_simp)
  go_wp2_with fail
  refine Calls.mono (qOne_calls s a len cap xs e w1 (h.keep hb01) hm HEB.out) ?_
  rintro r w2 ⟨_, rfl, ⟨a2, n2, c2, rfl, HN2, hO2⟩, hb2⟩
  have hb02 := nT hb01 hb2
  rw [HF.out] at HN2 ⊢
  have hz : n2 = 0 := by have := HN2.out; rw [words_zero] at this; exact this
  subst hz
  clear HN2 hO2 HGR
  go_wp2_with fail
  go_ret2
  exact ⟨rfl, by repeat (first | exact hb02 | refine Below.drew ?_ | refine nT ?_ (below_one _ _))⟩
set_option maxRecDepth 100000 in
set_option maxHeartbeats 4000000 in
theorem qto_noA (s : Bool) (a : Option Addr) (len cap : Nat) (xs : List Int) (e : Int) (w : World) (h : IsW w a len cap xs) (hm : len ≤ 17592186044000) (hr : rightB (val xs) e = true) (h0 : val xs ≠ 0) (hA : 53 < (blen (formD s (val xs) e).2.1 : Int)) :
    Calls Tryz.prog 23 #[dyV s a len cap e] w fun r w' => r = .returned (.tuple #[.int .u64 0, .bool false]) ∧ Below w.heap.size w w' := by
  have hb0 := below_one w (.cells #[.bool s, .slice a len cap, .int .i64 e] 27)
  have RC : Hid _ := qRight_calls s a len cap xs e _ (h.keep hb0) (by omega)
  have HEB : Hid (-4611686018427387904 ≤ e ∧ e ≤ 4611686018427387904) := by have := (rightB_yes hr).2; rw [Hid]; omega
  have HGR : Hid (greatB (formD s (val xs) e).2.1 = false) := great_mono (form_amount_le _ _ _) (rightB_yes hr).1
  rw [hr] at RC
  have HNE : Hid ((formD s (val xs) e).2.1 ≠ 0) := by rw [Hid, form_pos s h0]; intro q; have := (odd_part h0).1; simp only at q; rw [q] at this; omega
  have hpe : -4611686018427387904 ≤ (formD s (val xs) e).2.2 ∧ (formD s (val xs) e).2.2 ≤ 4611686018427387904 := by have h3 := (rightB_yes hr).2; have h4 := tz_le_blen (val xs); have h5 := (great_not _).1 (rightB_yes hr).1; rw [form_pos s h0]; simp only; omega
  clear hr h0
  go_enter Tryz.func23, Tryz.ntmps23
  go_wp2_with fail
  refine Calls.mono RC.out ?_
  rintro r w1 ⟨rfl, hb1⟩
  have hb01 := nT hb0 hb1
  have k0 : w1.cell? ⟨w.heap.size, 0, none⟩ = some (.bool s) := kC hb1 (by go_simp)
  have k1 : w1.cell? ⟨w.heap.size, 1, none⟩ = some (.slice a len cap) := kC hb1 (by go_simp)
  have k2 : w1.cell? ⟨w.heap.size, 2, none⟩ = some (.int .i64 e) := kC hb1 (by go_simp)
  go_wp2_with fail
  refine Calls.mono (qOne_calls s a len cap xs e w1 (h.keep hb01) hm HEB.out) ?_
  rintro r w2 ⟨_, rfl, ⟨a2, n2, c2, rfl, HN2, hO2⟩, hb2⟩
  have hb02 := nT hb01 hb2
  have hz : n2 ≠ 0 := fun q => HNE.out ((words_nil _).1 (List.length_eq_zero_iff.1 (HN2.out.symm.trans q)))
  have hI2 := hO2.1
  have hg2 := HGR.out
  generalize formD s (val xs) e = p at *
  obtain ⟨ps, pm, pe⟩ := p
  simp only at *
  have hbl : blen pm ≤ 65536 := (great_not _).1 hg2
  have hnn : n2 ≤ 1024 := by have := (words_len2 1024 pm).2 (by omega); have := HN2.out; omega
  have SC : Hid _ := fun w' q => nLen_calls a2 n2 c2 (wordsOf pm) w' q (by omega)
  rw [val_words] at SC
  have hz' : ¬ (n2 : Int) = 0 := by omega
  obtain ⟨hp1, hp2⟩ := hpe
  generalize blen pm = bl at *
  clear HEB HGR hb1 hb2 hb01 k0 k1 k2
  go_wp2_with fail
  have hbx := below_one w2 (.cells #[.bool ps, .slice a2 n2 c2, .int .i64 pe] 27)
  refine Calls.mono (SC.out _ (hI2.keep hbx)) ?_
  rintro r w4 ⟨rfl, hb4⟩
  have x0 : w4.cell? ⟨w2.heap.size, 0, none⟩ = some (.bool ps) := kC hb4 (by go_simp)
  have x1 : w4.cell? ⟨w2.heap.size, 1, none⟩ = some (.slice a2 n2 c2) := kC hb4 (by go_simp)
  have x2 : w4.cell? ⟨w2.heap.size, 2, none⟩ = some (.int .i64 pe) := kC hb4 (by go_simp)
  have hb24 := nT hbx hb4
  have hb04 := nT hb02 hb24
  have hI4 := hI2.keep hb24
  have hw1 : IntKind.i64.wrap (pe + (bl : Int)) = pe + (bl : Int) := by rw [IntKind.wrap_i64]; omega
  have hw2 : IntKind.i64.wrap (pe + (bl : Int) - 1) = pe + (bl : Int) - 1 := by rw [IntKind.wrap_i64]; omega
  clear hb4 hbx
  go_wp2_with fail
  go_ret2
  exact ⟨rfl, hb04⟩
set_option maxRecDepth 100000 in
set_option maxHeartbeats 4000000 in
theorem qto_noB (s : Bool) (a : Option Addr) (len cap : Nat) (xs : List Int) (e : Int) (w : World) (h : IsW w a len cap xs) (hm : len ≤ 17592186044000) (hr : rightB (val xs) e = true) (h0 : val xs ≠ 0) (hA : (blen (formD s (val xs) e).2.1 : Int) ≤ 53) (hC : (formD s (val xs) e).2.2 < -1074) :
    Calls Tryz.prog 23 #[dyV s a len cap e] w fun r w' => r = .returned (.tuple #[.int .u64 0, .bool false]) ∧ Below w.heap.size w w' := by
  have hb0 := below_one w (.cells #[.bool s, .slice a len cap, .int .i64 e] 27)
  have RC : Hid _ := qRight_calls s a len cap xs e _ (h.keep hb0) (by omega)
  have HEB : Hid (-4611686018427387904 ≤ e ∧ e ≤ 4611686018427387904) := by have := (rightB_yes hr).2; rw [Hid]; omega
  have HGR : Hid (greatB (formD s (val xs) e).2.1 = false) := great_mono (form_amount_le _ _ _) (rightB_yes hr).1
  rw [hr] at RC
  have HNE : Hid ((formD s (val xs) e).2.1 ≠ 0) := by rw [Hid, form_pos s h0]; intro q; have := (odd_part h0).1; simp only at q; rw [q] at this; omega
  have hpe : -4611686018427387904 ≤ (formD s (val xs) e).2.2 ∧ (formD s (val xs) e).2.2 ≤ 4611686018427387904 := by have h3 := (rightB_yes hr).2; have h4 := tz_le_blen (val xs); have h5 := (great_not _).1 (rightB_yes hr).1; rw [form_pos s h0]; simp only; omega
  clear hr h0
  go_enter Tryz.func23, Tryz.ntmps23
  go_wp2_with fail
  refine Calls.mono RC.out ?_
  rintro r w1 ⟨rfl, hb1⟩
  have hb01 := nT hb0 hb1
  have k0 : w1.cell? ⟨w.heap.size, 0, none⟩ = some (.bool s) := kC hb1 (by go_simp)
  have k1 : w1.cell? ⟨w.heap.size, 1, none⟩ = some (.slice a len cap) := kC hb1 (by go_simp)
  have k2 : w1.cell? ⟨w.heap.size, 2, none⟩ = some (.int .i64 e) := kC hb1 (by go_simp)
  go_wp2_with fail
  refine Calls.mono (qOne_calls s a len cap xs e w1 (h.keep hb01) hm HEB.out) ?_
  rintro r w2 ⟨_, rfl, ⟨a2, n2, c2, rfl, HN2, hO2⟩, hb2⟩
  have hb02 := nT hb01 hb2
  have hz : n2 ≠ 0 := fun q => HNE.out ((words_nil _).1 (List.length_eq_zero_iff.1 (HN2.out.symm.trans q)))
  have hI2 := hO2.1
  have hg2 := HGR.out
  generalize formD s (val xs) e = p at *
  obtain ⟨ps, pm, pe⟩ := p
  simp only at *
  have hbl : blen pm ≤ 65536 := (great_not _).1 hg2
  have hnn : n2 ≤ 1024 := by have := (words_len2 1024 pm).2 (by omega); have := HN2.out; omega
  have SC : Hid _ := fun w' q => nLen_calls a2 n2 c2 (wordsOf pm) w' q (by omega)
  rw [val_words] at SC
  have hz' : ¬ (n2 : Int) = 0 := by omega
  obtain ⟨hp1, hp2⟩ := hpe
  generalize blen pm = bl at *
  clear HEB HGR hb1 hb2 hb01 k0 k1 k2
  go_wp2_with fail
  have hbx := below_one w2 (.cells #[.bool ps, .slice a2 n2 c2, .int .i64 pe] 27)
  refine Calls.mono (SC.out _ (hI2.keep hbx)) ?_
  rintro r w4 ⟨rfl, hb4⟩
  have x0 : w4.cell? ⟨w2.heap.size, 0, none⟩ = some (.bool ps) := kC hb4 (by go_simp)
  have x1 : w4.cell? ⟨w2.heap.size, 1, none⟩ = some (.slice a2 n2 c2) := kC hb4 (by go_simp)
  have x2 : w4.cell? ⟨w2.heap.size, 2, none⟩ = some (.int .i64 pe) := kC hb4 (by go_simp)
  have hb24 := nT hbx hb4
  have hb04 := nT hb02 hb24
  have hI4 := hI2.keep hb24
  have hw1 : IntKind.i64.wrap (pe + (bl : Int)) = pe + (bl : Int) := by rw [IntKind.wrap_i64]; omega
  have hw2 : IntKind.i64.wrap (pe + (bl : Int) - 1) = pe + (bl : Int) - 1 := by rw [IntKind.wrap_i64]; omega
  clear hb4 hbx
  go_wp2_with fail
  go_ret2
  exact ⟨rfl, hb04⟩
set_option maxRecDepth 100000 in
set_option maxHeartbeats 4000000 in
theorem qto_noC (s : Bool) (a : Option Addr) (len cap : Nat) (xs : List Int) (e : Int) (w : World) (h : IsW w a len cap xs) (hm : len ≤ 17592186044000) (hr : rightB (val xs) e = true) (h0 : val xs ≠ 0) (hA : (blen (formD s (val xs) e).2.1 : Int) ≤ 53) (hC : -1074 ≤ (formD s (val xs) e).2.2) (hB : 1023 < (formD s (val xs) e).2.2 + (blen (formD s (val xs) e).2.1 : Int) - 1) :
    Calls Tryz.prog 23 #[dyV s a len cap e] w fun r w' => r = .returned (.tuple #[.int .u64 0, .bool false]) ∧ Below w.heap.size w w' := by
  have hb0 := below_one w (.cells #[.bool s, .slice a len cap, .int .i64 e] 27)
  have RC : Hid _ := qRight_calls s a len cap xs e _ (h.keep hb0) (by omega)
  have HEB : Hid (-4611686018427387904 ≤ e ∧ e ≤ 4611686018427387904) := by have := (rightB_yes hr).2; rw [Hid]; omega
  have HGR : Hid (greatB (formD s (val xs) e).2.1 = false) := great_mono (form_amount_le _ _ _) (rightB_yes hr).1
  rw [hr] at RC
  have HNE : Hid ((formD s (val xs) e).2.1 ≠ 0) := by rw [Hid, form_pos s h0]; intro q; have := (odd_part h0).1; simp only at q; rw [q] at this; omega
  have hpe : -4611686018427387904 ≤ (formD s (val xs) e).2.2 ∧ (formD s (val xs) e).2.2 ≤ 4611686018427387904 := by have h3 := (rightB_yes hr).2; have h4 := tz_le_blen (val xs); have h5 := (great_not _).1 (rightB_yes hr).1; rw [form_pos s h0]; simp only; omega
  clear hr h0
  go_enter Tryz.func23, Tryz.ntmps23
  go_wp2_with fail
  refine Calls.mono RC.out ?_
  rintro r w1 ⟨rfl, hb1⟩
  have hb01 := nT hb0 hb1
  have k0 : w1.cell? ⟨w.heap.size, 0, none⟩ = some (.bool s) := kC hb1 (by go_simp)
  have k1 : w1.cell? ⟨w.heap.size, 1, none⟩ = some (.slice a len cap) := kC hb1 (by go_simp)
  have k2 : w1.cell? ⟨w.heap.size, 2, none⟩ = some (.int .i64 e) := kC hb1 (by go_simp)
  go_wp2_with fail
  refine Calls.mono (qOne_calls s a len cap xs e w1 (h.keep hb01) hm HEB.out) ?_
  rintro r w2 ⟨_, rfl, ⟨a2, n2, c2, rfl, HN2, hO2⟩, hb2⟩
  have hb02 := nT hb01 hb2
  have hz : n2 ≠ 0 := fun q => HNE.out ((words_nil _).1 (List.length_eq_zero_iff.1 (HN2.out.symm.trans q)))
  have hI2 := hO2.1
  have hg2 := HGR.out
  generalize formD s (val xs) e = p at *
  obtain ⟨ps, pm, pe⟩ := p
  simp only at *
  have hbl : blen pm ≤ 65536 := (great_not _).1 hg2
  have hnn : n2 ≤ 1024 := by have := (words_len2 1024 pm).2 (by omega); have := HN2.out; omega
  have SC : Hid _ := fun w' q => nLen_calls a2 n2 c2 (wordsOf pm) w' q (by omega)
  rw [val_words] at SC
  have hz' : ¬ (n2 : Int) = 0 := by omega
  obtain ⟨hp1, hp2⟩ := hpe
  generalize blen pm = bl at *
  clear HEB HGR hb1 hb2 hb01 k0 k1 k2
  go_wp2_with fail
  have hbx := below_one w2 (.cells #[.bool ps, .slice a2 n2 c2, .int .i64 pe] 27)
  refine Calls.mono (SC.out _ (hI2.keep hbx)) ?_
  rintro r w4 ⟨rfl, hb4⟩
  have x0 : w4.cell? ⟨w2.heap.size, 0, none⟩ = some (.bool ps) := kC hb4 (by go_simp)
  have x1 : w4.cell? ⟨w2.heap.size, 1, none⟩ = some (.slice a2 n2 c2) := kC hb4 (by go_simp)
  have x2 : w4.cell? ⟨w2.heap.size, 2, none⟩ = some (.int .i64 pe) := kC hb4 (by go_simp)
  have hb24 := nT hbx hb4
  have hb04 := nT hb02 hb24
  have hI4 := hI2.keep hb24
  have hw1 : IntKind.i64.wrap (pe + (bl : Int)) = pe + (bl : Int) := by rw [IntKind.wrap_i64]; omega
  have hw2 : IntKind.i64.wrap (pe + (bl : Int) - 1) = pe + (bl : Int) - 1 := by rw [IntKind.wrap_i64]; omega
  clear hb4 hbx
  go_wp2_with fail
  go_ret2
  exact ⟨rfl, hb04⟩
set_option maxRecDepth 100000 in
set_option maxHeartbeats 4000000 in
theorem qto_low (s : Bool) (a : Option Addr) (len cap : Nat) (xs : List Int) (e : Int) (w : World) (h : IsW w a len cap xs) (hm : len ≤ 17592186044000) (hr : rightB (val xs) e = true) (h0 : val xs ≠ 0) (hA : (blen (formD s (val xs) e).2.1 : Int) ≤ 53) (hC : -1074 ≤ (formD s (val xs) e).2.2) (hB : (formD s (val xs) e).2.2 + (blen (formD s (val xs) e).2.1 : Int) - 1 ≤ 1023) (hL : (formD s (val xs) e).2.2 + (blen (formD s (val xs) e).2.1 : Int) - 1 < -1022) (J : Int) (hJ : toV (formD s (val xs) e) = J) :
    Calls Tryz.prog 23 #[dyV s a len cap e] w fun r w' => r = .returned (.tuple #[.int .u64 J, .bool true]) ∧ Below w.heap.size w w' := by
  have hb0 := below_one w (.cells #[.bool s, .slice a len cap, .int .i64 e] 27)
  have RC : Hid _ := qRight_calls s a len cap xs e _ (h.keep hb0) (by omega)
  have HEB : Hid (-4611686018427387904 ≤ e ∧ e ≤ 4611686018427387904) := by have := (rightB_yes hr).2; rw [Hid]; omega
  have HGR : Hid (greatB (formD s (val xs) e).2.1 = false) := great_mono (form_amount_le _ _ _) (rightB_yes hr).1
  rw [hr] at RC
  have HNE : Hid ((formD s (val xs) e).2.1 ≠ 0) := by rw [Hid, form_pos s h0]; intro q; have := (odd_part h0).1; simp only at q; rw [q] at this; omega
  have hpe : -4611686018427387904 ≤ (formD s (val xs) e).2.2 ∧ (formD s (val xs) e).2.2 ≤ 4611686018427387904 := by have h3 := (rightB_yes hr).2; have h4 := tz_le_blen (val xs); have h5 := (great_not _).1 (rightB_yes hr).1; rw [form_pos s h0]; simp only; omega
  clear hr h0
  go_enter Tryz.func23, Tryz.ntmps23
  go_wp2_with fail
  refine Calls.mono RC.out ?_
  rintro r w1 ⟨rfl, hb1⟩
  have hb01 := nT hb0 hb1
  have k0 : w1.cell? ⟨w.heap.size, 0, none⟩ = some (.bool s) := kC hb1 (by go_simp)
  have k1 : w1.cell? ⟨w.heap.size, 1, none⟩ = some (.slice a len cap) := kC hb1 (by go_simp)
  have k2 : w1.cell? ⟨w.heap.size, 2, none⟩ = some (.int .i64 e) := kC hb1 (by go_simp)
  go_wp2_with fail
  refine Calls.mono (qOne_calls s a len cap xs e w1 (h.keep hb01) hm HEB.out) ?_
  rintro r w2 ⟨_, rfl, ⟨a2, n2, c2, rfl, HN2, hO2⟩, hb2⟩
  have hb02 := nT hb01 hb2
  have hz : n2 ≠ 0 := fun q => HNE.out ((words_nil _).1 (List.length_eq_zero_iff.1 (HN2.out.symm.trans q)))
  have hI2 := hO2.1
  have hg2 := HGR.out
  generalize formD s (val xs) e = p at *
  obtain ⟨ps, pm, pe⟩ := p
  simp only at *
  have hbl : blen pm ≤ 65536 := (great_not _).1 hg2
  have hnn : n2 ≤ 1024 := by have := (words_len2 1024 pm).2 (by omega); have := HN2.out; omega
  have SC : Hid _ := fun w' q => nLen_calls a2 n2 c2 (wordsOf pm) w' q (by omega)
  rw [val_words] at SC
  have hz' : ¬ (n2 : Int) = 0 := by omega
  obtain ⟨hp1, hp2⟩ := hpe
  have hfo := fld_ok pm pe HNE.out (by omega) (by omega) (by omega)
  have JC : Hid _ := fun w' => rJoin_calls ps (fldE pm pe) (fldF pm pe) w' hfo.1
  have hJ' : joinV ps (fldE pm pe) (fldF pm pe) = J := hJ
  rw [hfo.2, hJ'] at JC
  clear hJ hJ' hfo
  obtain ⟨hn1, b, off, ha2, -⟩ := word_of hI2 HNE.out (by omega)
  subst hn1 ha2
  have hc2 : w2.cell? ⟨b, off, none⟩ = some (.int .u64 (pm : Int)) := by
    obtain ⟨-, b', off', q1, q2⟩ := word_of hI2 HNE.out (by omega)
    injection q1 with q1
    injection q1 with q3 q4 q5
    subst q3 q4
    exact q2
  obtain ⟨j, rfl⟩ : ∃ j : Nat, pe = (j : Int) - 1074 := ⟨(pe + 1074).toNat, by omega⟩
  have hfe : fldE pm ((j : Int) - 1074) = 0 := by unfold fldE; rw [if_pos hL]
  have hff : fldF pm ((j : Int) - 1074) = ((pm * 2 ^ j : Nat) : Int) := by unfold fldF; rw [if_pos hL, show ((j : Int) - 1074 + 1074).toNat = j by omega]
  have hR : IntKind.u64.wrap ((pm : Int) * 2 ^ j) = ((pm * 2 ^ j : Nat) : Int) := shl_nat (by have := low_room (m := pm) (j := j) (by omega); omega)
  rw [hfe, hff] at JC
  clear hfe hff
  generalize pm * 2 ^ j = FF at *
  have hjb : j ≤ 52 := by have : blen pm ≠ 0 := fun q => HNE.out ((blen_nil pm).1 q); omega
  have hjw : IntKind.i64.wrap (j : Int) = (j : Int) := by rw [IntKind.wrap_i64]; omega
  have hju : IntKind.u64.wrap (j : Int) = (j : Int) := by rw [IntKind.wrap_u64]; omega
  generalize blen pm = bl at *
  clear hz hz' HEB HGR hb1 hb2 hb01 k0 k1 k2
  go_wp2_with fail
  have hbx := below_one w2 (.cells #[.bool ps, .slice (some ⟨b, off, none⟩) 1 c2, .int .i64 ((j : Int) - 1074)] 27)
  refine Calls.mono (SC.out _ (hI2.keep hbx)) ?_
  rintro r w4 ⟨rfl, hb4⟩
  have x0 : w4.cell? ⟨w2.heap.size, 0, none⟩ = some (.bool ps) := kC hb4 (by go_simp)
  have x1 : w4.cell? ⟨w2.heap.size, 1, none⟩ = some (.slice (some ⟨b, off, none⟩) 1 c2) := kC hb4 (by go_simp)
  have x2 : w4.cell? ⟨w2.heap.size, 2, none⟩ = some (.int .i64 ((j : Int) - 1074)) := kC hb4 (by go_simp)
  have hb24 := nT hbx hb4
  have hb04 := nT hb02 hb24
  have hI4 := hI2.keep hb24
  have hw1 : IntKind.i64.wrap (((j : Int) - 1074) + (bl : Int)) = ((j : Int) - 1074) + (bl : Int) := by rw [IntKind.wrap_i64]; omega
  have hw2 : IntKind.i64.wrap (((j : Int) - 1074) + (bl : Int) - 1) = ((j : Int) - 1074) + (bl : Int) - 1 := by rw [IntKind.wrap_i64]; omega
  have hc4 := kC hb24 hc2
  clear hb4 hbx
  go_wp2_with fail
  have hb5 := below_one w4 (.cells #[.bool ps, .int .i64 0, .int .u64 0] 77)
  have u0 : (w4.alloc (.cells #[.bool ps, .int .i64 0, .int .u64 0] 77)).cell? ⟨w4.heap.size, 0, none⟩ = some (.bool ps) := by go_simp
  have u1 : (w4.alloc (.cells #[.bool ps, .int .i64 0, .int .u64 0] 77)).cell? ⟨w4.heap.size, 1, none⟩ = some (.int .i64 0) := by go_simp
  have u2 : (w4.alloc (.cells #[.bool ps, .int .i64 0, .int .u64 0] 77)).cell? ⟨w4.heap.size, 2, none⟩ = some (.int .u64 0) := by go_simp
  have t1 : (w4.alloc (.cells #[.bool ps, .int .i64 0, .int .u64 0] 77)).frozen? ⟨w4.heap.size, 1, none⟩ = false := by go_simp
  have t2 : (w4.alloc (.cells #[.bool ps, .int .i64 0, .int .u64 0] 77)).frozen? ⟨w4.heap.size, 2, none⟩ = false := by go_simp
  have x0' := x0
  have hc4' := hc4
  replace x0 := kC hb5 x0
  replace x1 := kC hb5 x1
  replace x2 := kC hb5 x2
  replace hc4 := kC hb5 hc4
  have hb05 := nT hb04 hb5
  have hfb : w.heap.size ≤ w4.heap.size := hb04.size
  have hne1 : w2.heap.size ≠ w4.heap.size := by have := World.block_lt_of_cell? _ _ x0'; simp at this; omega
  have hne2 : b ≠ w4.heap.size := by have := World.block_lt_of_cell? _ _ hc4'; simp at this; omega
  clear hb5 hb04 hb24 hI4 x0' hc4'
  generalize w4.alloc (.cells #[.bool ps, .int .i64 0, .int .u64 0] 77) = W at *
  generalize w4.heap.size = fb at *
  go_region_with fail
  all_goals go_wp2_with fail
  all_goals refine Calls.mono (JC.out _) ?_
  all_goals rintro r w7 ⟨rfl, hb7⟩
  all_goals replace hb05 := nT (show Below w.heap.size w _ from by repeat (first | exact hb05 | refine Below.drew ?_ | refine Below.setCell ?_ hfb _)) hb7
  all_goals clear hb7
  all_goals go_wp2_with fail
  all_goals go_ret2
  all_goals exact ⟨rfl, hb05⟩
set_option maxRecDepth 100000 in
set_option maxHeartbeats 4000000 in
theorem qto_high (s : Bool) (a : Option Addr) (len cap : Nat) (xs : List Int) (e : Int) (w : World) (h : IsW w a len cap xs) (hm : len ≤ 17592186044000) (hr : rightB (val xs) e = true) (h0 : val xs ≠ 0) (hA : (blen (formD s (val xs) e).2.1 : Int) ≤ 53) (hC : -1074 ≤ (formD s (val xs) e).2.2) (hB : (formD s (val xs) e).2.2 + (blen (formD s (val xs) e).2.1 : Int) - 1 ≤ 1023) (hL : -1022 ≤ (formD s (val xs) e).2.2 + (blen (formD s (val xs) e).2.1 : Int) - 1) (J : Int) (hJ : toV (formD s (val xs) e) = J) :
    Calls Tryz.prog 23 #[dyV s a len cap e] w fun r w' => r = .returned (.tuple #[.int .u64 J, .bool true]) ∧ Below w.heap.size w w' := by
  have hb0 := below_one w (.cells #[.bool s, .slice a len cap, .int .i64 e] 27)
  have RC : Hid _ := qRight_calls s a len cap xs e _ (h.keep hb0) (by omega)
  have HEB : Hid (-4611686018427387904 ≤ e ∧ e ≤ 4611686018427387904) := by have := (rightB_yes hr).2; rw [Hid]; omega
  have HGR : Hid (greatB (formD s (val xs) e).2.1 = false) := great_mono (form_amount_le _ _ _) (rightB_yes hr).1
  rw [hr] at RC
  have HNE : Hid ((formD s (val xs) e).2.1 ≠ 0) := by rw [Hid, form_pos s h0]; intro q; have := (odd_part h0).1; simp only at q; rw [q] at this; omega
  have hpe : -4611686018427387904 ≤ (formD s (val xs) e).2.2 ∧ (formD s (val xs) e).2.2 ≤ 4611686018427387904 := by have h3 := (rightB_yes hr).2; have h4 := tz_le_blen (val xs); have h5 := (great_not _).1 (rightB_yes hr).1; rw [form_pos s h0]; simp only; omega
  clear hr h0
  go_enter Tryz.func23, Tryz.ntmps23
  go_wp2_with fail
  refine Calls.mono RC.out ?_
  rintro r w1 ⟨rfl, hb1⟩
  have hb01 := nT hb0 hb1
  have k0 : w1.cell? ⟨w.heap.size, 0, none⟩ = some (.bool s) := kC hb1 (by go_simp)
  have k1 : w1.cell? ⟨w.heap.size, 1, none⟩ = some (.slice a len cap) := kC hb1 (by go_simp)
  have k2 : w1.cell? ⟨w.heap.size, 2, none⟩ = some (.int .i64 e) := kC hb1 (by go_simp)
  go_wp2_with fail
  refine Calls.mono (qOne_calls s a len cap xs e w1 (h.keep hb01) hm HEB.out) ?_
  rintro r w2 ⟨_, rfl, ⟨a2, n2, c2, rfl, HN2, hO2⟩, hb2⟩
  have hb02 := nT hb01 hb2
  have hz : n2 ≠ 0 := fun q => HNE.out ((words_nil _).1 (List.length_eq_zero_iff.1 (HN2.out.symm.trans q)))
  have hI2 := hO2.1
  have hg2 := HGR.out
  generalize formD s (val xs) e = p at *
  obtain ⟨ps, pm, pe⟩ := p
  simp only at *
  have hbl : blen pm ≤ 65536 := (great_not _).1 hg2
  have hnn : n2 ≤ 1024 := by have := (words_len2 1024 pm).2 (by omega); have := HN2.out; omega
  have SC : Hid _ := fun w' q => nLen_calls a2 n2 c2 (wordsOf pm) w' q (by omega)
  rw [val_words] at SC
  have hz' : ¬ (n2 : Int) = 0 := by omega
  obtain ⟨hp1, hp2⟩ := hpe
  have hfo := fld_ok pm pe HNE.out (by omega) (by omega) (by omega)
  have JC : Hid _ := fun w' => rJoin_calls ps (fldE pm pe) (fldF pm pe) w' hfo.1
  have hJ' : joinV ps (fldE pm pe) (fldF pm pe) = J := hJ
  rw [hfo.2, hJ'] at JC
  clear hJ hJ' hfo
  obtain ⟨hn1, b, off, ha2, -⟩ := word_of hI2 HNE.out (by omega)
  subst hn1 ha2
  have hc2 : w2.cell? ⟨b, off, none⟩ = some (.int .u64 (pm : Int)) := by
    obtain ⟨-, b', off', q1, q2⟩ := word_of hI2 HNE.out (by omega)
    injection q1 with q1
    injection q1 with q3 q4 q5
    subst q3 q4
    exact q2
  obtain ⟨j, hj⟩ : ∃ j : Nat, j + blen pm = 53 := ⟨53 - blen pm, by omega⟩
  have hroom := high_room HNE.out hj
  have hfe : fldE pm pe = pe + (blen pm : Int) - 1 + 1023 := by unfold fldE; rw [if_neg (by omega)]
  have hff : fldF pm pe = ((pm * 2 ^ j : Nat) : Int) - 4503599627370496 := by unfold fldF; rw [if_neg (by omega), show 53 - blen pm = j by omega]; omega
  have hR : IntKind.u64.wrap ((pm : Int) * 2 ^ j) = ((pm * 2 ^ j : Nat) : Int) := shl_nat (by omega)
  rw [hfe, hff] at JC
  clear hfe hff
  generalize pm * 2 ^ j = FF at *
  have hjb : j ≤ 53 := by omega
  have hjs : (53 : Int) - (blen pm : Int) = (j : Int) := by omega
  have hjw : IntKind.i64.wrap (j : Int) = (j : Int) := by rw [IntKind.wrap_i64]; omega
  have hju : IntKind.u64.wrap (j : Int) = (j : Int) := by rw [IntKind.wrap_u64]; omega
  have hsw : IntKind.u64.wrap ((FF : Int) - 4503599627370496) = (FF : Int) - 4503599627370496 := by rw [IntKind.wrap_u64]; omega
  have hww : IntKind.i64.wrap (pe + (blen pm : Int) - 1 + 1023) = pe + (blen pm : Int) - 1 + 1023 := by rw [IntKind.wrap_i64]; omega
  obtain ⟨hm1, hm2⟩ := hroom
  generalize blen pm = bl at *
  clear hz hz' HEB HGR hb1 hb2 hb01 k0 k1 k2
  go_wp2_with fail
  have hbx := below_one w2 (.cells #[.bool ps, .slice (some ⟨b, off, none⟩) 1 c2, .int .i64 pe] 27)
  refine Calls.mono (SC.out _ (hI2.keep hbx)) ?_
  rintro r w4 ⟨rfl, hb4⟩
  have x0 : w4.cell? ⟨w2.heap.size, 0, none⟩ = some (.bool ps) := kC hb4 (by go_simp)
  have x1 : w4.cell? ⟨w2.heap.size, 1, none⟩ = some (.slice (some ⟨b, off, none⟩) 1 c2) := kC hb4 (by go_simp)
  have x2 : w4.cell? ⟨w2.heap.size, 2, none⟩ = some (.int .i64 pe) := kC hb4 (by go_simp)
  have hb24 := nT hbx hb4
  have hb04 := nT hb02 hb24
  have hI4 := hI2.keep hb24
  have hw1 : IntKind.i64.wrap (pe + (bl : Int)) = pe + (bl : Int) := by rw [IntKind.wrap_i64]; omega
  have hw2 : IntKind.i64.wrap (pe + (bl : Int) - 1) = pe + (bl : Int) - 1 := by rw [IntKind.wrap_i64]; omega
  have hc4 := kC hb24 hc2
  have hb5 := below_one w4 (.cells #[.bool ps, .int .i64 (pe + (bl : Int) - 1 + 1023), .int .u64 0] 77)
  have x1' := kC hb5 x1
  have hc5 := kC hb5 hc4
  have hb05 : Below w.heap.size w (w4.alloc (.cells #[.bool ps, .int .i64 (pe + (bl : Int) - 1 + 1023), .int .u64 ((FF : Int) - 4503599627370496)] 77)) := nT hb04 (below_one w4 _)
  have hfb : w.heap.size ≤ w4.heap.size := hb04.size
  clear hb5
  clear hb4 hbx
  go_wp2_with fail
  all_goals refine Calls.mono (JC.out _) ?_
  all_goals rintro r w7 ⟨rfl, hb7⟩
  all_goals replace hb05 := nT (show Below w.heap.size w _ from by repeat (first | exact hb05 | refine Below.drew ?_ | refine Below.setCell ?_ hfb _)) hb7
  all_goals clear hb7
  all_goals go_wp2_with fail
  all_goals go_ret2
  all_goals exact ⟨rfl, hb05⟩
theorem qto_calls (s : Bool) (a : Option Addr) (len cap : Nat) (xs : List Int) (e : Int) (w : World) (h : IsW w a len cap xs) (hm : len ≤ 17592186044000) :
    Calls Tryz.prog 23 #[dyV s a len cap e] w fun r w' => r = .returned (.tuple #[.int .u64 (toR s (val xs) e).1, .bool (toR s (val xs) e).2]) ∧ Below w.heap.size w w' := by
  cases hr : rightB (val xs) e with
  | false => rw [toR_not hr]; exact qto_not s a len cap xs e w h hm hr
  | true =>
    by_cases h0 : val xs = 0
    · have e0 : toR s (val xs) e = (0, true) := by rw [h0] at hr ⊢; exact toR_zero hr
      rw [e0]; exact qto_zero s a len cap xs e w h hm hr h0
    · cases hb : toB (formD s (val xs) e) with
      | true =>
        rw [toR_yes hr h0 hb]
        have hb' := hb
        unfold toB at hb'
        have hb2 := of_decide_eq_true hb'
        by_cases hL : (formD s (val xs) e).2.2 + (blen (formD s (val xs) e).2.1 : Int) - 1 < -1022
        · exact qto_low s a len cap xs e w h hm hr h0 (by omega) (by omega) (by omega) hL _ rfl
        · exact qto_high s a len cap xs e w h hm hr h0 (by omega) (by omega) (by omega) (by omega) _ rfl
      | false =>
        rw [toR_no hr h0 hb]
        have hb' := hb
        unfold toB at hb'
        have hb2 := of_decide_eq_false hb'
        by_cases hA : 53 < (blen (formD s (val xs) e).2.1 : Int)
        · exact qto_noA s a len cap xs e w h hm hr h0 hA
        · by_cases hC : (formD s (val xs) e).2.2 < -1074
          · exact qto_noB s a len cap xs e w h hm hr h0 (by omega) hC
          · exact qto_noC s a len cap xs e w h hm hr h0 (by omega) (by omega) (by omega)
end Go.Proofs.YtoefhlapfnjbjaaGreatDoor

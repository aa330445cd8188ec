/- The document's dyadic numbers: Trim. The document's intervals: Neg, Scale, Trim. The document's dyadic numbers, sixth part: From whole, Int. -/
import Derived.Test.YtkkldnnndlpblaaGreatDoorRDA
import Derived.Test.YtkkldnnndlpblaaGreatDoorDGC
import Derived.Test.YtkkldnnndlpblaaGreatDoorIVY
import Derived.Deep.RegionWith
import Derived.Test.YtkkldnnndlpblaaGreatDoorDGA
import Derived.Test.YtkkldnnndlpblaaGreatDoorTMB

namespace Go.Proofs.YtkkldnnndlpblaaGreatDoor
open Go.RowKit

set_option maxRecDepth 100000 in
set_option maxHeartbeats 1000000 in
theorem qtrim_same (s : Bool) (a : Option Addr) (len cap : Nat) (xs : List Int) (e : Int) (pp : Int) (up : Bool) (w : World) (h : IsW w a len cap xs) (hm : len ≤ 17592186044000) (hr : rightB (val xs) e = true) (hp : 1 ≤ pp ∧ pp ≤ 9223372036854775807) (hle : (blen (formD s (val xs) e).2.1 : Int) ≤ pp) :
    Calls Tryz.prog 100 #[dyV s a len cap e, .int .i64 pp, .bool up] w fun r w' => ∃ v', r = .returned v' ∧ DyQ w.heap.size w' v' ((formD s (val xs) e)) ∧ Below w.heap.size w w' := by
  have hb0 : Below w.heap.size w ((w.alloc (.cells #[.bool s, .slice a len cap, .int .i64 e] 26)).alloc (.cells #[.bool false, .slice none 0 0, .int .i64 0] 26)) := nbelow_trans (below_one _ _) (below_one _ _)
  have HO : Hid _ := qOne_calls s a len cap xs e _ (h.keep hb0) hm (by have := (rightB_yes hr).2; omega)
  have hg2 : greatB (formD s (val xs) e).2.1 = false := great_mono (form_amount_le _ _ _) (rightB_yes hr).1
  have hpe : -100000000 ≤ (formD s (val xs) e).2.2 ∧ (formD s (val xs) e).2.2 ≤ 100000000 := by
    have h3 := (rightB_yes hr).2
    by_cases h0 : val xs = 0
    · rw [h0, form_zero]; simp
    · have h4 := tz_le_blen (val xs); have h5 := (great_not _).1 (rightB_yes hr).1; rw [form_pos s h0]; simp only; omega
  clear hr
  generalize formD s (val xs) e = p at *
  obtain ⟨ps, pm, pe⟩ := p
  simp only at *
  have hbl : blen pm ≤ 65536 := (great_not _).1 hg2
  have hwl : (wordsOf pm).length ≤ 1024 := (words_len2 1024 pm).2 (by omega)
  obtain ⟨hp1, hp2⟩ := hp
  obtain ⟨he1, he2⟩ := hpe
  have LC : Hid _ := fun a' n' c' w' q r => nLen_calls a' n' c' (wordsOf pm) w' q r
  rw [val_words] at LC
  generalize blen pm = bl at *
  go_enter Tryz.func100, Tryz.ntmps100
  go_wp2_with fail
  refine Calls.mono HO.out ?_
  rintro r w1 ⟨_, rfl, ⟨a1, n1, c1, rfl, HN1, hO1⟩, hb1⟩
  simp only at *
  have hb01 := nbelow_trans hb0 hb1
  obtain ⟨m0, m1, m2, f0, f1, f2⟩ := zero_dy (r := w.heap.size + 1) hb1 (by simp)
  have hn1 : n1 ≤ 1024 := by have := HN1.out; omega
  have hsz : w.heap.size + 2 ≤ w1.heap.size := by have := hb1.size; simp at this; omega
  clear HO hb1 hb0
  go_wp2_with fail
  have hbx := below_one w1 (.cells #[.bool ps, .slice a1 n1 c1, .int .i64 pe] 26)
  refine Calls.mono (LC.out _ _ _ _ (hO1.1.keep hbx) (by omega)) ?_
  rintro r w2 ⟨rfl, hb2⟩
  have x0 : w2.cell? ⟨w1.heap.size, 0, none⟩ = some (.bool ps) := dcarry_cell hb2 (by go_simp)
  have x1 : w2.cell? ⟨w1.heap.size, 1, none⟩ = some (.slice a1 n1 c1) := dcarry_cell hb2 (by go_simp)
  have x2 : w2.cell? ⟨w1.heap.size, 2, none⟩ = some (.int .i64 pe) := dcarry_cell hb2 (by go_simp)
  have hb12 := nbelow_trans hbx hb2
  have hb02 := nbelow_trans hb01 hb12
  replace f0 := dcarry_frozen hb12 m0 f0
  replace f1 := dcarry_frozen hb12 m1 f1
  replace f2 := dcarry_frozen hb12 m2 f2
  replace m0 := dcarry_cell hb12 m0
  replace m1 := dcarry_cell hb12 m1
  replace m2 := dcarry_cell hb12 m2
  have hO2 := hO1.keep hb12
  have hs2 : w1.heap.size ≤ w2.heap.size := hb12.size
  clear hb2 hbx hb12 hO1 hb01
  go_wp2_with fail
  refine bodyPost_ret (v := dyV (ps, pm, pe).1 a1 n1 c1 (ps, pm, pe).2.2) (by simp [results, Tryz.results100, go_sem, m0, m1, m2]) rfl ⟨_, rfl, ⟨a1, n1, c1, rfl, HN1, ?_⟩, ?_⟩
  · exact (((hO2.far _ _ (by simp; try omega)).far _ _ (by simp; try omega)).far _ _ (by simp; try omega)).low (by simp; try omega)
  · exact ((hb02.setCell (by show w.heap.size ≤ w.heap.size + 1; omega) _).setCell (by show w.heap.size ≤ w.heap.size + 1; omega) _).setCell (by show w.heap.size ≤ w.heap.size + 1; omega) _

set_option maxRecDepth 100000 in
set_option maxHeartbeats 1000000 in
theorem qtrim_less (s : Bool) (a : Option Addr) (len cap : Nat) (xs : List Int) (e : Int) (pp : Int) (up : Bool) (w : World) (h : IsW w a len cap xs) (hm : len ≤ 17592186044000) (hr : rightB (val xs) e = true) (hp : 1 ≤ pp ∧ pp ≤ 9223372036854775807) (hodd : (formD s (val xs) e).2.1 % 2 = 1) (hgt : pp < (blen (formD s (val xs) e).2.1 : Int)) (hup : up = (formD s (val xs) e).1) :
    Calls Tryz.prog 100 #[dyV s a len cap e, .int .i64 pp, .bool up] w fun r w' => ∃ v', r = .returned v' ∧ DyQ w.heap.size w' v' (formD (formD s (val xs) e).1 ((formD s (val xs) e).2.1 / 2 ^ ((blen (formD s (val xs) e).2.1 : Int) - pp).toNat) ((formD s (val xs) e).2.2 + (((blen (formD s (val xs) e).2.1 : Int) - pp).toNat : Int))) ∧ Below w.heap.size w w' := by
  have hb0 : Below w.heap.size w ((w.alloc (.cells #[.bool s, .slice a len cap, .int .i64 e] 26)).alloc (.cells #[.bool false, .slice none 0 0, .int .i64 0] 26)) := nbelow_trans (below_one _ _) (below_one _ _)
  have HO : Hid _ := qOne_calls s a len cap xs e _ (h.keep hb0) hm (by have := (rightB_yes hr).2; omega)
  have hg2 : greatB (formD s (val xs) e).2.1 = false := great_mono (form_amount_le _ _ _) (rightB_yes hr).1
  have hpe : -100000000 ≤ (formD s (val xs) e).2.2 ∧ (formD s (val xs) e).2.2 ≤ 100000000 := by
    have h3 := (rightB_yes hr).2
    by_cases h0 : val xs = 0
    · rw [h0, form_zero]; simp
    · have h4 := tz_le_blen (val xs); have h5 := (great_not _).1 (rightB_yes hr).1; rw [form_pos s h0]; simp only; omega
  clear hr
  generalize formD s (val xs) e = p at *
  obtain ⟨ps, pm, pe⟩ := p
  simp only at *
  have hbl : blen pm ≤ 65536 := (great_not _).1 hg2
  have hwl : (wordsOf pm).length ≤ 1024 := (words_len2 1024 pm).2 (by omega)
  obtain ⟨hp1, hp2⟩ := hp
  obtain ⟨he1, he2⟩ := hpe
  obtain ⟨j, hj⟩ : ∃ j : Nat, (blen pm : Int) = pp + (j : Int) := ⟨((blen pm : Int) - pp).toNat, by omega⟩
  have hj0 : 0 < j := by omega
  have hjb : j ≤ 65536 := by omega
  have HL : Hid (lostB (val (wordsOf pm)) j = true) := by
    rw [Hid, val_words]
    unfold lostB
    refine decide_eq_true ?_
    intro q
    obtain ⟨k, hk⟩ := Nat.dvd_of_mod_eq_zero q
    obtain ⟨i, rfl⟩ : ∃ i, j = i + 1 := ⟨j - 1, by omega⟩
    rw [Nat.pow_succ, Nat.mul_comm (2 ^ i) 2, Nat.mul_assoc] at hk
    omega
  have SR : Hid _ := fun a' n' c' w' q r => nShr_calls a' n' c' j (wordsOf pm) w' q (by omega) r
  rw [HL.out, val_words] at SR
  have hrr := shr_room2 hg2 hj0
  have hdl : (wordsOf (pm / 2 ^ j)).length ≤ 1024 := (words_len2 1024 _).2 (by have := (great_not _).1 hrr.1; omega)
  rw [show ((blen pm : Int) - pp).toNat = j by omega]
  have hjs : IntKind.i64.wrap ((blen pm : Int) - pp) = (j : Int) := by rw [IntKind.wrap_i64]; omega
  clear HL hrr hodd hg2
  have HK : Hid _ := fun a' n' c' w' q r => qForm_calls ps a' n' c' (wordsOf (pm / 2 ^ j)) (pe + (j : Int)) w' q r (by omega)
  rw [val_words] at HK
  have hew : IntKind.i64.wrap (pe + (blen pm : Int)) = pe + (blen pm : Int) := by rw [IntKind.wrap_i64]; omega
  have hew2 : IntKind.i64.wrap (pe + (blen pm : Int) - pp) = pe + (j : Int) := by rw [IntKind.wrap_i64]; omega
  have HDL : Hid _ := hdl
  have hngt : ¬ (blen pm : Int) ≤ pp := by omega
  clear hj hdl hgt
  generalize formD ps (pm / 2 ^ j) (pe + (j : Int)) = fp at *
  have LC : Hid _ := fun a' n' c' w' q r => nLen_calls a' n' c' (wordsOf pm) w' q r
  rw [val_words] at LC
  generalize blen pm = bl at *
  go_enter Tryz.func100, Tryz.ntmps100
  go_wp2_with fail
  refine Calls.mono HO.out ?_
  rintro r w1 ⟨_, rfl, ⟨a1, n1, c1, rfl, HN1, hO1⟩, hb1⟩
  simp only at *
  have hb01 := nbelow_trans hb0 hb1
  obtain ⟨m0, m1, m2, f0, f1, f2⟩ := zero_dy (r := w.heap.size + 1) hb1 (by simp)
  have hn1 : n1 ≤ 1024 := by have := HN1.out; omega
  have hsz : w.heap.size + 2 ≤ w1.heap.size := by have := hb1.size; simp at this; omega
  clear HO hb1 hb0
  go_wp2_with fail
  have hbx := below_one w1 (.cells #[.bool ps, .slice a1 n1 c1, .int .i64 pe] 26)
  refine Calls.mono (LC.out _ _ _ _ (hO1.1.keep hbx) (by omega)) ?_
  rintro r w2 ⟨rfl, hb2⟩
  have x0 : w2.cell? ⟨w1.heap.size, 0, none⟩ = some (.bool ps) := dcarry_cell hb2 (by go_simp)
  have x1 : w2.cell? ⟨w1.heap.size, 1, none⟩ = some (.slice a1 n1 c1) := dcarry_cell hb2 (by go_simp)
  have x2 : w2.cell? ⟨w1.heap.size, 2, none⟩ = some (.int .i64 pe) := dcarry_cell hb2 (by go_simp)
  have hb12 := nbelow_trans hbx hb2
  have hb02 := nbelow_trans hb01 hb12
  replace f0 := dcarry_frozen hb12 m0 f0
  replace f1 := dcarry_frozen hb12 m1 f1
  replace f2 := dcarry_frozen hb12 m2 f2
  replace m0 := dcarry_cell hb12 m0
  replace m1 := dcarry_cell hb12 m1
  replace m2 := dcarry_cell hb12 m2
  have hO2 := hO1.keep hb12
  have hs2 : w1.heap.size ≤ w2.heap.size := hb12.size
  clear hb2 hbx hb12 hO1 hb01
  go_wp2_with fail
  refine Calls.mono (SR.out _ _ _ _ hO2.1 (by omega)) ?_
  rintro r w3 ⟨v3, rfl, hA3, hb3⟩
  replace f0 := dcarry_frozen hb3 m0 f0
  replace m0 := dcarry_cell hb3 m0
  replace x0 := dcarry_cell hb3 x0
  replace f1 := dcarry_frozen hb3 m1 f1
  replace m1 := dcarry_cell hb3 m1
  replace x1 := dcarry_cell hb3 x1
  replace f2 := dcarry_frozen hb3 m2 f2
  replace m2 := dcarry_cell hb3 m2
  replace x2 := dcarry_cell hb3 x2
  replace hb02 := nbelow_trans hb02 hb3
  replace hs2 := Nat.le_trans hs2 hb3.size
  obtain ⟨a3, n3, c3, rfl, HN3, hn3, hO3⟩ := hA3.open HDL.out
  subst hup
  clear hA3 hb3 hO2
  go_wp2_with fail
  refine Calls.mono (HK.out _ _ _ _ hO3.1 (by omega)) ?_
  rintro r w9 ⟨_, rfl, ⟨a9, n9, c9, rfl, HN9, hO9⟩, hb9⟩
  have hO9' : OwnW (w.heap.size + 2) w9 a9 n9 c9 (wordsOf fp.2.1) := hO9.low (by omega)
  replace f0 := dcarry_frozen hb9 m0 f0
  replace m0 := dcarry_cell hb9 m0
  replace x0 := dcarry_cell hb9 x0
  replace f1 := dcarry_frozen hb9 m1 f1
  replace m1 := dcarry_cell hb9 m1
  replace x1 := dcarry_cell hb9 x1
  replace f2 := dcarry_frozen hb9 m2 f2
  replace m2 := dcarry_cell hb9 m2
  replace x2 := dcarry_cell hb9 x2
  replace hb02 := nbelow_trans hb02 hb9
  replace hs2 := Nat.le_trans hs2 hb9.size
  clear hb9 hO9
  go_wp2_with fail
  refine bodyPost_ret (v := dyV fp.1 a9 n9 c9 fp.2.2) (by simp [results, Tryz.results100, go_sem, m0, m1, m2]) rfl ⟨_, rfl, ⟨a9, n9, c9, rfl, HN9, ?_⟩, ?_⟩
  · exact (((hO9'.far _ _ (by simp; try omega)).far _ _ (by simp; try omega)).far _ _ (by simp; try omega)).low (by simp; try omega)
  · exact ((hb02.setCell (by show w.heap.size ≤ w.heap.size + 1; omega) _).setCell (by show w.heap.size ≤ w.heap.size + 1; omega) _).setCell (by show w.heap.size ≤ w.heap.size + 1; omega) _

set_option maxRecDepth 100000 in
set_option maxHeartbeats 1000000 in
theorem qtrim_more (s : Bool) (a : Option Addr) (len cap : Nat) (xs : List Int) (e : Int) (pp : Int) (up : Bool) (w : World) (h : IsW w a len cap xs) (hm : len ≤ 17592186044000) (hr : rightB (val xs) e = true) (hp : 1 ≤ pp ∧ pp ≤ 9223372036854775807) (hodd : (formD s (val xs) e).2.1 % 2 = 1) (hgt : pp < (blen (formD s (val xs) e).2.1 : Int)) (hup : up ≠ (formD s (val xs) e).1) :
    Calls Tryz.prog 100 #[dyV s a len cap e, .int .i64 pp, .bool up] w fun r w' => ∃ v', r = .returned v' ∧ DyQ w.heap.size w' v' (formD (formD s (val xs) e).1 ((formD s (val xs) e).2.1 / 2 ^ ((blen (formD s (val xs) e).2.1 : Int) - pp).toNat + 1) ((formD s (val xs) e).2.2 + (((blen (formD s (val xs) e).2.1 : Int) - pp).toNat : Int))) ∧ Below w.heap.size w w' := by
  have hb0 : Below w.heap.size w ((w.alloc (.cells #[.bool s, .slice a len cap, .int .i64 e] 26)).alloc (.cells #[.bool false, .slice none 0 0, .int .i64 0] 26)) := nbelow_trans (below_one _ _) (below_one _ _)
  have HO : Hid _ := qOne_calls s a len cap xs e _ (h.keep hb0) hm (by have := (rightB_yes hr).2; omega)
  have hg2 : greatB (formD s (val xs) e).2.1 = false := great_mono (form_amount_le _ _ _) (rightB_yes hr).1
  have hpe : -100000000 ≤ (formD s (val xs) e).2.2 ∧ (formD s (val xs) e).2.2 ≤ 100000000 := by
    have h3 := (rightB_yes hr).2
    by_cases h0 : val xs = 0
    · rw [h0, form_zero]; simp
    · have h4 := tz_le_blen (val xs); have h5 := (great_not _).1 (rightB_yes hr).1; rw [form_pos s h0]; simp only; omega
  clear hr
  generalize formD s (val xs) e = p at *
  obtain ⟨ps, pm, pe⟩ := p
  simp only at *
  have hbl : blen pm ≤ 65536 := (great_not _).1 hg2
  have hwl : (wordsOf pm).length ≤ 1024 := (words_len2 1024 pm).2 (by omega)
  obtain ⟨hp1, hp2⟩ := hp
  obtain ⟨he1, he2⟩ := hpe
  obtain ⟨j, hj⟩ : ∃ j : Nat, (blen pm : Int) = pp + (j : Int) := ⟨((blen pm : Int) - pp).toNat, by omega⟩
  have hj0 : 0 < j := by omega
  have hjb : j ≤ 65536 := by omega
  have HL : Hid (lostB (val (wordsOf pm)) j = true) := by
    rw [Hid, val_words]
    unfold lostB
    refine decide_eq_true ?_
    intro q
    obtain ⟨k, hk⟩ := Nat.dvd_of_mod_eq_zero q
    obtain ⟨i, rfl⟩ : ∃ i, j = i + 1 := ⟨j - 1, by omega⟩
    rw [Nat.pow_succ, Nat.mul_comm (2 ^ i) 2, Nat.mul_assoc] at hk
    omega
  have SR : Hid _ := fun a' n' c' w' q r => nShr_calls a' n' c' j (wordsOf pm) w' q (by omega) r
  rw [HL.out, val_words] at SR
  have hrr := shr_room2 hg2 hj0
  have hdl : (wordsOf (pm / 2 ^ j)).length ≤ 1024 := (words_len2 1024 _).2 (by have := (great_not _).1 hrr.1; omega)
  rw [show ((blen pm : Int) - pp).toNat = j by omega]
  have hjs : IntKind.i64.wrap ((blen pm : Int) - pp) = (j : Int) := by rw [IntKind.wrap_i64]; omega
  clear HL hodd hg2
  have h1l : (wordsOf 1).length ≤ 1 := (words_len 1 1).2 (by omega)
  have hul : (wordsOf (pm / 2 ^ j + 1)).length ≤ 1024 := (words_len2 1024 _).2 (by have := (great_not _).1 hrr.2; omega)
  have HK : Hid _ := fun a' c' w' q => qForm_calls ps a' (wordsOf (pm / 2 ^ j + 1)).length c' (wordsOf (pm / 2 ^ j + 1)) (pe + (j : Int)) w' q (by omega) (by omega)
  rw [val_words] at HK
  have HO1 : Hid _ := fun w' => nOf_calls 1 w' (by omega) (by omega)
  rw [show (1 : Int).toNat = 1 from rfl] at HO1
  have AD : Hid _ := fun a' a'' n' c' c'' w' g g' r => nAdd_calls a' a'' n' c' (wordsOf 1).length c'' (wordsOf (pm / 2 ^ j)) (wordsOf 1) w' g g' r (by omega)
  rw [val_words, val_words] at AD
  have hew : IntKind.i64.wrap (pe + (blen pm : Int)) = pe + (blen pm : Int) := by rw [IntKind.wrap_i64]; omega
  have hew2 : IntKind.i64.wrap (pe + (blen pm : Int) - pp) = pe + (j : Int) := by rw [IntKind.wrap_i64]; omega
  have HDL : Hid _ := hdl
  have hngt : ¬ (blen pm : Int) ≤ pp := by omega
  have hne : (up == ps) = false := by cases up <;> cases ps <;> simp_all
  have hne2 : (up != ps) = true := by cases up <;> cases ps <;> simp_all
  clear hj hdl hgt hrr h1l hul
  generalize formD ps (pm / 2 ^ j + 1) (pe + (j : Int)) = fp at *
  have LC : Hid _ := fun a' n' c' w' q r => nLen_calls a' n' c' (wordsOf pm) w' q r
  rw [val_words] at LC
  generalize blen pm = bl at *
  go_enter Tryz.func100, Tryz.ntmps100
  go_wp2_with fail
  refine Calls.mono HO.out ?_
  rintro r w1 ⟨_, rfl, ⟨a1, n1, c1, rfl, HN1, hO1⟩, hb1⟩
  simp only at *
  have hb01 := nbelow_trans hb0 hb1
  obtain ⟨m0, m1, m2, f0, f1, f2⟩ := zero_dy (r := w.heap.size + 1) hb1 (by simp)
  have hn1 : n1 ≤ 1024 := by have := HN1.out; omega
  have hsz : w.heap.size + 2 ≤ w1.heap.size := by have := hb1.size; simp at this; omega
  clear HO hb1 hb0
  go_wp2_with fail
  have hbx := below_one w1 (.cells #[.bool ps, .slice a1 n1 c1, .int .i64 pe] 26)
  refine Calls.mono (LC.out _ _ _ _ (hO1.1.keep hbx) (by omega)) ?_
  rintro r w2 ⟨rfl, hb2⟩
  have x0 : w2.cell? ⟨w1.heap.size, 0, none⟩ = some (.bool ps) := dcarry_cell hb2 (by go_simp)
  have x1 : w2.cell? ⟨w1.heap.size, 1, none⟩ = some (.slice a1 n1 c1) := dcarry_cell hb2 (by go_simp)
  have x2 : w2.cell? ⟨w1.heap.size, 2, none⟩ = some (.int .i64 pe) := dcarry_cell hb2 (by go_simp)
  have hb12 := nbelow_trans hbx hb2
  have hb02 := nbelow_trans hb01 hb12
  replace f0 := dcarry_frozen hb12 m0 f0
  replace f1 := dcarry_frozen hb12 m1 f1
  replace f2 := dcarry_frozen hb12 m2 f2
  replace m0 := dcarry_cell hb12 m0
  replace m1 := dcarry_cell hb12 m1
  replace m2 := dcarry_cell hb12 m2
  have hO2 := hO1.keep hb12
  have hs2 : w1.heap.size ≤ w2.heap.size := hb12.size
  clear hb2 hbx hb12 hO1 hb01
  go_wp2_with fail
  refine Calls.mono (SR.out _ _ _ _ hO2.1 (by omega)) ?_
  rintro r w3 ⟨v3, rfl, hA3, hb3⟩
  replace f0 := dcarry_frozen hb3 m0 f0
  replace m0 := dcarry_cell hb3 m0
  replace x0 := dcarry_cell hb3 x0
  replace f1 := dcarry_frozen hb3 m1 f1
  replace m1 := dcarry_cell hb3 m1
  replace x1 := dcarry_cell hb3 x1
  replace f2 := dcarry_frozen hb3 m2 f2
  replace m2 := dcarry_cell hb3 m2
  replace x2 := dcarry_cell hb3 x2
  replace hb02 := nbelow_trans hb02 hb3
  replace hs2 := Nat.le_trans hs2 hb3.size
  obtain ⟨a3, n3, c3, rfl, HN3, hn3, hO3⟩ := hA3.open HDL.out
  clear hA3 hb3 hO2
  go_wp2_with fail
  refine Calls.mono (HO1.out _) ?_
  rintro r w4 ⟨a4, c4, rfl, hO4, hb4⟩
  have hI4 : IsW w4 a4 (wordsOf 1).length c4 (wordsOf 1) := hO4.isW (words_U _)
  have hI3 := hO3.1.keep hb4
  replace f0 := dcarry_frozen hb4 m0 f0
  replace m0 := dcarry_cell hb4 m0
  replace x0 := dcarry_cell hb4 x0
  replace f1 := dcarry_frozen hb4 m1 f1
  replace m1 := dcarry_cell hb4 m1
  replace x1 := dcarry_cell hb4 x1
  replace f2 := dcarry_frozen hb4 m2 f2
  replace m2 := dcarry_cell hb4 m2
  replace x2 := dcarry_cell hb4 x2
  replace hb02 := nbelow_trans hb02 hb4
  replace hs2 := Nat.le_trans hs2 hb4.size
  clear hb4 hO4 hO3
  go_wp2_with fail
  refine Calls.mono (AD.out _ _ _ _ _ _ hI3 hI4 (by omega)) ?_
  rintro r w5 ⟨a5, c5, rfl, hO5, hb5⟩
  have hI5 : IsW w5 a5 (wordsOf (pm / 2 ^ j + 1)).length c5 (wordsOf (pm / 2 ^ j + 1)) := hO5.isW (words_U _)
  replace f0 := dcarry_frozen hb5 m0 f0
  replace m0 := dcarry_cell hb5 m0
  replace x0 := dcarry_cell hb5 x0
  replace f1 := dcarry_frozen hb5 m1 f1
  replace m1 := dcarry_cell hb5 m1
  replace x1 := dcarry_cell hb5 x1
  replace f2 := dcarry_frozen hb5 m2 f2
  replace m2 := dcarry_cell hb5 m2
  replace x2 := dcarry_cell hb5 x2
  replace hb02 := nbelow_trans hb02 hb5
  replace hs2 := Nat.le_trans hs2 hb5.size
  clear hb5 hO5 hI3 hI4
  go_wp2_with fail
  refine Calls.mono (HK.out _ _ _ hI5) ?_
  rintro r w9 ⟨_, rfl, ⟨a9, n9, c9, rfl, HN9, hO9⟩, hb9⟩
  have hO9' : OwnW (w.heap.size + 2) w9 a9 n9 c9 (wordsOf fp.2.1) := hO9.low (by omega)
  replace f0 := dcarry_frozen hb9 m0 f0
  replace m0 := dcarry_cell hb9 m0
  replace x0 := dcarry_cell hb9 x0
  replace f1 := dcarry_frozen hb9 m1 f1
  replace m1 := dcarry_cell hb9 m1
  replace x1 := dcarry_cell hb9 x1
  replace f2 := dcarry_frozen hb9 m2 f2
  replace m2 := dcarry_cell hb9 m2
  replace x2 := dcarry_cell hb9 x2
  replace hb02 := nbelow_trans hb02 hb9
  replace hs2 := Nat.le_trans hs2 hb9.size
  clear hb9 hO9
  go_wp2_with fail
  refine bodyPost_ret (v := dyV fp.1 a9 n9 c9 fp.2.2) (by simp [results, Tryz.results100, go_sem, m0, m1, m2]) rfl ⟨_, rfl, ⟨a9, n9, c9, rfl, HN9, ?_⟩, ?_⟩
  · exact (((hO9'.far _ _ (by simp; try omega)).far _ _ (by simp; try omega)).far _ _ (by simp; try omega)).low (by simp; try omega)
  · exact ((hb02.setCell (by show w.heap.size ≤ w.heap.size + 1; omega) _).setCell (by show w.heap.size ≤ w.heap.size + 1; omega) _).setCell (by show w.heap.size ≤ w.heap.size + 1; omega) _

theorem qtrim_calls (s : Bool) (a : Option Addr) (len cap : Nat) (xs : List Int) (e : Int) (pp : Int) (up : Bool) (w : World) (h : IsW w a len cap xs) (hm : len ≤ 17592186044000) (hr : rightB (val xs) e = true) (hp : 1 ≤ pp ∧ pp ≤ 9223372036854775807) :
    Calls Tryz.prog 100 #[dyV s a len cap e, .int .i64 pp, .bool up] w fun r w' => ∃ v', r = .returned v' ∧ DyQ w.heap.size w' v' (cutD (formD s (val xs) e) pp up) ∧ Below w.heap.size w w' := by
  unfold cutD
  by_cases hle : (blen (formD s (val xs) e).2.1 : Int) ≤ pp
  · rw [if_pos hle]
    exact qtrim_same s a len cap xs e pp up w h hm hr hp hle
  · rw [if_neg hle]
    have h0 : val xs ≠ 0 := fun q => by
      rw [q, form_zero] at hle
      exact hle (by show ((blen 0 : Nat) : Int) ≤ pp; rw [blen_zero]; omega)
    have hodd : (formD s (val xs) e).2.1 % 2 = 1 := by rw [form_pos s h0]; exact (odd_part h0).1
    by_cases hup : up = (formD s (val xs) e).1
    · have e1 : (!(up == (formD s (val xs) e).1)) = false := by rw [← hup]; simp
      rw [e1, if_neg (by decide), Nat.add_zero]
      exact qtrim_less s a len cap xs e pp up w h hm hr hp hodd (by omega) hup
    · have e1 : (!(up == (formD s (val xs) e).1)) = true := by simpa using hup
      rw [e1, if_pos rfl]
      exact qtrim_more s a len cap xs e pp up w h hm hr hp hodd (by omega) hup


set_option maxRecDepth 100000 in
set_option maxHeartbeats 4000000 in
theorem vScale_calls (x y : DT) (i : Int) (ex : -2305843009213693952 ≤ x.2.2.2.2.2 ∧ x.2.2.2.2.2 ≤ 2305843009213693952) (ey : -2305843009213693952 ≤ y.2.2.2.2.2 ∧ y.2.2.2.2.2 ≤ 2305843009213693952) (hi : -2305843009213693952 ≤ i ∧ i ≤ 2305843009213693952) (w : World) (hx : inT w x) (hy : inT w y) :
    Calls Tryz.prog 28 #[ivT x y, .int .i64 i] w fun r w' => ∃ al nl cl ah nh ch, r = .returned (ivI (formD x.1 (val x.2.2.2.2.1) (x.2.2.2.2.2 + i)).1 al nl cl (formD x.1 (val x.2.2.2.2.1) (x.2.2.2.2.2 + i)).2.2 (formD y.1 (val y.2.2.2.2.1) (y.2.2.2.2.2 + i)).1 ah nh ch (formD y.1 (val y.2.2.2.2.1) (y.2.2.2.2.2 + i)).2.2) ∧ Hid (nl = (wordsOf (formD x.1 (val x.2.2.2.2.1) (x.2.2.2.2.2 + i)).2.1).length) ∧ Hid (nh = (wordsOf (formD y.1 (val y.2.2.2.2.1) (y.2.2.2.2.2 + i)).2.1).length) ∧ OwnW w.heap.size w' al nl cl (wordsOf (formD x.1 (val x.2.2.2.2.1) (x.2.2.2.2.2 + i)).2.1) ∧ OwnW w.heap.size w' ah nh ch (wordsOf (formD y.1 (val y.2.2.2.2.1) (y.2.2.2.2.2 + i)).2.1) ∧ Below w.heap.size w w' := by
  have bA : Below w.heap.size w ((w.alloc (.cells #[.bool x.1, .slice x.2.1 x.2.2.1 x.2.2.2.1, .int .i64 x.2.2.2.2.2, .bool y.1, .slice y.2.1 y.2.2.1 y.2.2.2.1, .int .i64 y.2.2.2.2.2] 28)).alloc (.cells #[.bool false, .slice none 0 0, .int .i64 0, .bool false, .slice none 0 0, .int .i64 0] 28)) := nbelow_trans (below_one _ _) (below_one _ _)
  have HX : Hid _ := fun w' (q : IsW w' x.2.1 x.2.2.1 x.2.2.2.1 x.2.2.2.2.1) => qTwice_calls x.1 x.2.1 x.2.2.1 x.2.2.2.1 x.2.2.2.2.1 x.2.2.2.2.2 i w' q hx.2 ⟨by omega, by omega⟩
  have HY : Hid _ := fun w' (q : IsW w' y.2.1 y.2.2.1 y.2.2.2.1 y.2.2.2.2.1) => qTwice_calls y.1 y.2.1 y.2.2.1 y.2.2.2.1 y.2.2.2.2.1 y.2.2.2.2.2 i w' q hy.2 ⟨by omega, by omega⟩
  generalize (formD x.1 (val x.2.2.2.2.1) (x.2.2.2.2.2 + i)) = P at *
  generalize (formD y.1 (val y.2.2.2.2.1) (y.2.2.2.2.2 + i)) = Q at *
  have hI := IsW.keep hx.1 bA
  have hJ := IsW.keep hy.1 bA
  have k0 : ((w.alloc (.cells #[.bool x.1, .slice x.2.1 x.2.2.1 x.2.2.2.1, .int .i64 x.2.2.2.2.2, .bool y.1, .slice y.2.1 y.2.2.1 y.2.2.2.1, .int .i64 y.2.2.2.2.2] 28)).alloc (.cells #[.bool false, .slice none 0 0, .int .i64 0, .bool false, .slice none 0 0, .int .i64 0] 28)).cell? ⟨w.heap.size, 0, none⟩ = some (.bool x.1) := by go_simp
  have k1 : ((w.alloc (.cells #[.bool x.1, .slice x.2.1 x.2.2.1 x.2.2.2.1, .int .i64 x.2.2.2.2.2, .bool y.1, .slice y.2.1 y.2.2.1 y.2.2.2.1, .int .i64 y.2.2.2.2.2] 28)).alloc (.cells #[.bool false, .slice none 0 0, .int .i64 0, .bool false, .slice none 0 0, .int .i64 0] 28)).cell? ⟨w.heap.size, 1, none⟩ = some (.slice x.2.1 x.2.2.1 x.2.2.2.1) := by go_simp
  have k2 : ((w.alloc (.cells #[.bool x.1, .slice x.2.1 x.2.2.1 x.2.2.2.1, .int .i64 x.2.2.2.2.2, .bool y.1, .slice y.2.1 y.2.2.1 y.2.2.2.1, .int .i64 y.2.2.2.2.2] 28)).alloc (.cells #[.bool false, .slice none 0 0, .int .i64 0, .bool false, .slice none 0 0, .int .i64 0] 28)).cell? ⟨w.heap.size, 2, none⟩ = some (.int .i64 x.2.2.2.2.2) := by go_simp
  have k3 : ((w.alloc (.cells #[.bool x.1, .slice x.2.1 x.2.2.1 x.2.2.2.1, .int .i64 x.2.2.2.2.2, .bool y.1, .slice y.2.1 y.2.2.1 y.2.2.2.1, .int .i64 y.2.2.2.2.2] 28)).alloc (.cells #[.bool false, .slice none 0 0, .int .i64 0, .bool false, .slice none 0 0, .int .i64 0] 28)).cell? ⟨w.heap.size, 3, none⟩ = some (.bool y.1) := by go_simp
  have k4 : ((w.alloc (.cells #[.bool x.1, .slice x.2.1 x.2.2.1 x.2.2.2.1, .int .i64 x.2.2.2.2.2, .bool y.1, .slice y.2.1 y.2.2.1 y.2.2.2.1, .int .i64 y.2.2.2.2.2] 28)).alloc (.cells #[.bool false, .slice none 0 0, .int .i64 0, .bool false, .slice none 0 0, .int .i64 0] 28)).cell? ⟨w.heap.size, 4, none⟩ = some (.slice y.2.1 y.2.2.1 y.2.2.2.1) := by go_simp
  have k5 : ((w.alloc (.cells #[.bool x.1, .slice x.2.1 x.2.2.1 x.2.2.2.1, .int .i64 x.2.2.2.2.2, .bool y.1, .slice y.2.1 y.2.2.1 y.2.2.2.1, .int .i64 y.2.2.2.2.2] 28)).alloc (.cells #[.bool false, .slice none 0 0, .int .i64 0, .bool false, .slice none 0 0, .int .i64 0] 28)).cell? ⟨w.heap.size, 5, none⟩ = some (.int .i64 y.2.2.2.2.2) := by go_simp
  have z0 : ((w.alloc (.cells #[.bool x.1, .slice x.2.1 x.2.2.1 x.2.2.2.1, .int .i64 x.2.2.2.2.2, .bool y.1, .slice y.2.1 y.2.2.1 y.2.2.2.1, .int .i64 y.2.2.2.2.2] 28)).alloc (.cells #[.bool false, .slice none 0 0, .int .i64 0, .bool false, .slice none 0 0, .int .i64 0] 28)).cell? ⟨w.heap.size + 1, 0, none⟩ = some (.bool false) := by go_simp
  have f0 : ((w.alloc (.cells #[.bool x.1, .slice x.2.1 x.2.2.1 x.2.2.2.1, .int .i64 x.2.2.2.2.2, .bool y.1, .slice y.2.1 y.2.2.1 y.2.2.2.1, .int .i64 y.2.2.2.2.2] 28)).alloc (.cells #[.bool false, .slice none 0 0, .int .i64 0, .bool false, .slice none 0 0, .int .i64 0] 28)).frozen? ⟨w.heap.size + 1, 0, none⟩ = false := by go_simp
  have z1 : ((w.alloc (.cells #[.bool x.1, .slice x.2.1 x.2.2.1 x.2.2.2.1, .int .i64 x.2.2.2.2.2, .bool y.1, .slice y.2.1 y.2.2.1 y.2.2.2.1, .int .i64 y.2.2.2.2.2] 28)).alloc (.cells #[.bool false, .slice none 0 0, .int .i64 0, .bool false, .slice none 0 0, .int .i64 0] 28)).cell? ⟨w.heap.size + 1, 1, none⟩ = some (.slice none 0 0) := by go_simp
  have f1 : ((w.alloc (.cells #[.bool x.1, .slice x.2.1 x.2.2.1 x.2.2.2.1, .int .i64 x.2.2.2.2.2, .bool y.1, .slice y.2.1 y.2.2.1 y.2.2.2.1, .int .i64 y.2.2.2.2.2] 28)).alloc (.cells #[.bool false, .slice none 0 0, .int .i64 0, .bool false, .slice none 0 0, .int .i64 0] 28)).frozen? ⟨w.heap.size + 1, 1, none⟩ = false := by go_simp
  have z2 : ((w.alloc (.cells #[.bool x.1, .slice x.2.1 x.2.2.1 x.2.2.2.1, .int .i64 x.2.2.2.2.2, .bool y.1, .slice y.2.1 y.2.2.1 y.2.2.2.1, .int .i64 y.2.2.2.2.2] 28)).alloc (.cells #[.bool false, .slice none 0 0, .int .i64 0, .bool false, .slice none 0 0, .int .i64 0] 28)).cell? ⟨w.heap.size + 1, 2, none⟩ = some (.int .i64 0) := by go_simp
  have f2 : ((w.alloc (.cells #[.bool x.1, .slice x.2.1 x.2.2.1 x.2.2.2.1, .int .i64 x.2.2.2.2.2, .bool y.1, .slice y.2.1 y.2.2.1 y.2.2.2.1, .int .i64 y.2.2.2.2.2] 28)).alloc (.cells #[.bool false, .slice none 0 0, .int .i64 0, .bool false, .slice none 0 0, .int .i64 0] 28)).frozen? ⟨w.heap.size + 1, 2, none⟩ = false := by go_simp
  have z3 : ((w.alloc (.cells #[.bool x.1, .slice x.2.1 x.2.2.1 x.2.2.2.1, .int .i64 x.2.2.2.2.2, .bool y.1, .slice y.2.1 y.2.2.1 y.2.2.2.1, .int .i64 y.2.2.2.2.2] 28)).alloc (.cells #[.bool false, .slice none 0 0, .int .i64 0, .bool false, .slice none 0 0, .int .i64 0] 28)).cell? ⟨w.heap.size + 1, 3, none⟩ = some (.bool false) := by go_simp
  have f3 : ((w.alloc (.cells #[.bool x.1, .slice x.2.1 x.2.2.1 x.2.2.2.1, .int .i64 x.2.2.2.2.2, .bool y.1, .slice y.2.1 y.2.2.1 y.2.2.2.1, .int .i64 y.2.2.2.2.2] 28)).alloc (.cells #[.bool false, .slice none 0 0, .int .i64 0, .bool false, .slice none 0 0, .int .i64 0] 28)).frozen? ⟨w.heap.size + 1, 3, none⟩ = false := by go_simp
  have z4 : ((w.alloc (.cells #[.bool x.1, .slice x.2.1 x.2.2.1 x.2.2.2.1, .int .i64 x.2.2.2.2.2, .bool y.1, .slice y.2.1 y.2.2.1 y.2.2.2.1, .int .i64 y.2.2.2.2.2] 28)).alloc (.cells #[.bool false, .slice none 0 0, .int .i64 0, .bool false, .slice none 0 0, .int .i64 0] 28)).cell? ⟨w.heap.size + 1, 4, none⟩ = some (.slice none 0 0) := by go_simp
  have f4 : ((w.alloc (.cells #[.bool x.1, .slice x.2.1 x.2.2.1 x.2.2.2.1, .int .i64 x.2.2.2.2.2, .bool y.1, .slice y.2.1 y.2.2.1 y.2.2.2.1, .int .i64 y.2.2.2.2.2] 28)).alloc (.cells #[.bool false, .slice none 0 0, .int .i64 0, .bool false, .slice none 0 0, .int .i64 0] 28)).frozen? ⟨w.heap.size + 1, 4, none⟩ = false := by go_simp
  have z5 : ((w.alloc (.cells #[.bool x.1, .slice x.2.1 x.2.2.1 x.2.2.2.1, .int .i64 x.2.2.2.2.2, .bool y.1, .slice y.2.1 y.2.2.1 y.2.2.2.1, .int .i64 y.2.2.2.2.2] 28)).alloc (.cells #[.bool false, .slice none 0 0, .int .i64 0, .bool false, .slice none 0 0, .int .i64 0] 28)).cell? ⟨w.heap.size + 1, 5, none⟩ = some (.int .i64 0) := by go_simp
  have f5 : ((w.alloc (.cells #[.bool x.1, .slice x.2.1 x.2.2.1 x.2.2.2.1, .int .i64 x.2.2.2.2.2, .bool y.1, .slice y.2.1 y.2.2.1 y.2.2.2.1, .int .i64 y.2.2.2.2.2] 28)).alloc (.cells #[.bool false, .slice none 0 0, .int .i64 0, .bool false, .slice none 0 0, .int .i64 0] 28)).frozen? ⟨w.heap.size + 1, 5, none⟩ = false := by go_simp
  clear hx hy
  go_enter Tryz.func28, Tryz.ntmps28
  go_upto_region 1 with fail
  generalize ((w.alloc (.cells #[.bool x.1, .slice x.2.1 x.2.2.1 x.2.2.2.1, .int .i64 x.2.2.2.2.2, .bool y.1, .slice y.2.1 y.2.2.1 y.2.2.2.1, .int .i64 y.2.2.2.2.2] 28)).alloc (.cells #[.bool false, .slice none 0 0, .int .i64 0, .bool false, .slice none 0 0, .int .i64 0] 28)) = w0 at *
  have R : Below w0.heap.size w0 (World.drew w0) := (Below.refl _ _).drew
  have lw : Hid (w.heap.size ≤ w0.heap.size) := bA.size
  refine wp_region_held (S := fun w' => AtI w.heap.size (.bool x.1) (.slice x.2.1 x.2.2.1 x.2.2.2.1) (.int .i64 x.2.2.2.2.2) (.bool y.1) (.slice y.2.1 y.2.2.1 y.2.2.2.1) (.int .i64 y.2.2.2.2.2) w') (by kernel_rfl) ?_
  change wpAnyH _ _ _ _ _ _ _ _ (World.drew w0)
  generalize World.drew w0 = wd at R ⊢
  have AA : AtI w.heap.size (.bool x.1) (.slice x.2.1 x.2.2.1 x.2.2.2.1) (.int .i64 x.2.2.2.2.2) (.bool y.1) (.slice y.2.1 y.2.2.1 y.2.2.2.1) (.int .i64 y.2.2.2.2.2) wd := ⟨dcarry_cell R k0, dcarry_cell R k1, dcarry_cell R k2, dcarry_cell R k3, dcarry_cell R k4, dcarry_cell R k5⟩
  clear k0 k1 k2 k3 k4 k5
  replace f0 := dcarry_frozen R z0 f0
  replace z0 := dcarry_cell R z0
  replace f1 := dcarry_frozen R z1 f1
  replace z1 := dcarry_cell R z1
  replace f2 := dcarry_frozen R z2 f2
  replace z2 := dcarry_cell R z2
  replace f3 := dcarry_frozen R z3 f3
  replace z3 := dcarry_cell R z3
  replace f4 := dcarry_frozen R z4 f4
  replace z4 := dcarry_cell R z4
  replace f5 := dcarry_frozen R z5 f5
  replace z5 := dcarry_cell R z5
  replace hI := IsW.keep hI R
  replace hJ := IsW.keep hJ R
  replace bA := nbelow_trans bA R
  clear R
  refine wpAnyH_take (i := 0) (v := .pointer (some ⟨w.heap.size, 0, none⟩)) rfl (by kernel_rfl) (by kernel_rfl) (by kernel_rfl) (fun _ _ _ h => h) (Or.inl ⟨by rfl, ?y1⟩) AA ?r1
  case y1 => (intro ww hS; obtain ⟨q0, q1, q2, q3, q4, q5⟩ := hS; go_simp; try with_reducible rfl)
  try simp only [Act.put, List.setIfInBounds_toArray]
  refine wpAnyH_take (i := 1) (v := dT x) rfl (by kernel_rfl) (by kernel_rfl) (by kernel_rfl) (fun _ _ _ h => h) (Or.inl ⟨by rfl, ?y2⟩) AA ?r2
  case y2 => (intro ww hS; obtain ⟨q0, q1, q2, q3, q4, q5⟩ := hS; go_simp; try with_reducible rfl)
  try simp only [Act.put]
  refine wpAnyH_take (i := 2) (v := .int .i64 i) rfl (by kernel_rfl) (by kernel_rfl) (by kernel_rfl) (fun _ _ _ h => h) (Or.inl ⟨by rfl, ?y3⟩) AA ?r3
  case y3 => (intro ww hS; obtain ⟨q0, q1, q2, q3, q4, q5⟩ := hS; go_simp; try with_reducible rfl)
  try simp only [Act.put]
  refine wpAnyH_take (i := 4) (v := .pointer (some ⟨w.heap.size, 3, none⟩)) rfl (by kernel_rfl) (by kernel_rfl) (by kernel_rfl) (fun _ _ _ h => h) (Or.inl ⟨by rfl, ?y4⟩) AA ?r4
  case y4 => (intro ww hS; obtain ⟨q0, q1, q2, q3, q4, q5⟩ := hS; go_simp; try with_reducible rfl)
  try simp only [Act.put]
  refine wpAnyH_take (i := 5) (v := dT y) rfl (by kernel_rfl) (by kernel_rfl) (by kernel_rfl) (fun _ _ _ h => h) (Or.inl ⟨by rfl, ?y5⟩) AA ?r5
  case y5 => (intro ww hS; obtain ⟨q0, q1, q2, q3, q4, q5⟩ := hS; go_simp; try with_reducible rfl)
  try simp only [Act.put]
  refine wpAnyH_take (i := 6) (v := .int .i64 i) rfl (by kernel_rfl) (by kernel_rfl) (by kernel_rfl) (fun _ _ _ h => h) (Or.inl ⟨by rfl, ?y6⟩) AA ?r6
  case y6 => (intro ww hS; obtain ⟨q0, q1, q2, q3, q4, q5⟩ := hS; go_simp; try with_reducible rfl)
  try simp only [Act.put]
  refine wpAnyH_ready (rs := [3]) (by kernel_rfl) (by simp) ?_
  refine AllReadyH.cons rfl (fun K hK => ?_) AllReadyH.nil
  go_simp
  refine Calls.mono (HX.out _ hI) ?_
  rintro r w1 ⟨_, rfl, ⟨ax, nx, cx, rfl, Nx, Ox⟩, bN⟩
  replace Ox := Ox.low bA.size
  replace f0 := dcarry_frozen bN z0 f0
  replace z0 := dcarry_cell bN z0
  replace f1 := dcarry_frozen bN z1 f1
  replace z1 := dcarry_cell bN z1
  replace f2 := dcarry_frozen bN z2 f2
  replace z2 := dcarry_cell bN z2
  replace f3 := dcarry_frozen bN z3 f3
  replace z3 := dcarry_cell bN z3
  replace f4 := dcarry_frozen bN z4 f4
  replace z4 := dcarry_cell bN z4
  replace f5 := dcarry_frozen bN z5 f5
  replace z5 := dcarry_cell bN z5
  replace hI := IsW.keep hI bN
  replace hJ := IsW.keep hJ bN
  replace bA := nbelow_trans bA bN
  replace AA := AA.keep bN
  clear bN
  refine hK.out _ _ AA (fun _ => ?_)
  clear hK K
  try simp only [Act.put, List.setIfInBounds_toArray, List.set_cons_zero, List.set_cons_succ]
  refine wpAnyH_ready (rs := [7]) (by kernel_rfl) (by simp) ?_
  refine AllReadyH.cons rfl (fun K hK => ?_) AllReadyH.nil
  go_simp
  refine Calls.mono (HY.out _ hJ) ?_
  rintro r w2 ⟨_, rfl, ⟨ay, ny, cy, rfl, Ny, Oy⟩, bN⟩
  replace Oy := Oy.low bA.size
  replace f0 := dcarry_frozen bN z0 f0
  replace z0 := dcarry_cell bN z0
  replace f1 := dcarry_frozen bN z1 f1
  replace z1 := dcarry_cell bN z1
  replace f2 := dcarry_frozen bN z2 f2
  replace z2 := dcarry_cell bN z2
  replace f3 := dcarry_frozen bN z3 f3
  replace z3 := dcarry_cell bN z3
  replace f4 := dcarry_frozen bN z4 f4
  replace z4 := dcarry_cell bN z4
  replace f5 := dcarry_frozen bN z5 f5
  replace z5 := dcarry_cell bN z5
  replace hI := IsW.keep hI bN
  replace hJ := IsW.keep hJ bN
  replace Ox := Ox.keep bN
  replace bA := nbelow_trans bA bN
  replace AA := AA.keep bN
  clear bN
  refine hK.out _ _ AA (fun _ => ?_)
  clear hK K
  try simp only [Act.put, List.setIfInBounds_toArray, List.set_cons_zero, List.set_cons_succ]
  refine wpAnyH_ready (rs := [8]) (by kernel_rfl) (by simp) ?_
  refine AllReadyH.cons rfl (fun K hK => ?_) AllReadyH.nil
  go_simp
  refine hK.out _ _ AA (fun _ => ?_)
  clear hK K
  try simp only [Act.put, List.setIfInBounds_toArray, List.set_cons_zero, List.set_cons_succ]
  refine wpAnyH_ready (rs := [9]) (by kernel_rfl) (by simp) ?_
  refine AllReadyH.cons rfl (fun K hK => ?_) AllReadyH.nil
  go_simp
  refine hK.out _ _ (AA.set6 (by omega) _ _ _ _ _ _) (fun _ => ?_)
  clear hK K
  try simp only [Act.put, List.setIfInBounds_toArray, List.set_cons_zero, List.set_cons_succ]
  refine wpAnyH_done (by kernel_rfl) ?_ _
  go_wp2_with fail
  have s6 := six_ofI z0 z1 z2 z3 z4 z5 (fun _ q => by cases q) (fun _ q => by cases q) (fun _ q => by cases q) (fun _ q => by cases q) (fun _ q => by cases q) (fun _ q => by cases q)
  exact bodyPost_ret (v := ivI P.1 ax nx cx P.2.2 Q.1 ay ny cy Q.2.2) (by simp [results, Tryz.results28, go_sem, z0, z1, z2, z3, z4, z5]) rfl ⟨ax, nx, cx, ay, ny, cy, rfl, Nx, Ny, ownW_sixI Ox s6 _ _ _ _ _ _, ownW_sixI Oy s6 _ _ _ _ _ _, by repeat (first | (with_reducible exact bA) | (with_reducible refine Below.setCell ?_ (by simp; try omega) _))⟩

set_option maxRecDepth 100000 in
set_option maxHeartbeats 4000000 in
theorem vTrim_calls (x y : DT) (i : Int) (rx : rgT x = true) (ry : rgT y = true) (hi : 1 ≤ i ∧ i ≤ 9223372036854775807) (w : World) (hx : inT w x) (hy : inT w y) :
    Calls Tryz.prog 55 #[ivT x y, .int .i64 i] w fun r w' => ∃ al nl cl ah nh ch, r = .returned (ivI (cutD (formD x.1 (val x.2.2.2.2.1) x.2.2.2.2.2) i false).1 al nl cl (cutD (formD x.1 (val x.2.2.2.2.1) x.2.2.2.2.2) i false).2.2 (cutD (formD y.1 (val y.2.2.2.2.1) y.2.2.2.2.2) i true).1 ah nh ch (cutD (formD y.1 (val y.2.2.2.2.1) y.2.2.2.2.2) i true).2.2) ∧ Hid (nl = (wordsOf (cutD (formD x.1 (val x.2.2.2.2.1) x.2.2.2.2.2) i false).2.1).length) ∧ Hid (nh = (wordsOf (cutD (formD y.1 (val y.2.2.2.2.1) y.2.2.2.2.2) i true).2.1).length) ∧ OwnW w.heap.size w' al nl cl (wordsOf (cutD (formD x.1 (val x.2.2.2.2.1) x.2.2.2.2.2) i false).2.1) ∧ OwnW w.heap.size w' ah nh ch (wordsOf (cutD (formD y.1 (val y.2.2.2.2.1) y.2.2.2.2.2) i true).2.1) ∧ Below w.heap.size w w' := by
  have bA : Below w.heap.size w ((w.alloc (.cells #[.bool x.1, .slice x.2.1 x.2.2.1 x.2.2.2.1, .int .i64 x.2.2.2.2.2, .bool y.1, .slice y.2.1 y.2.2.1 y.2.2.2.1, .int .i64 y.2.2.2.2.2] 28)).alloc (.cells #[.bool false, .slice none 0 0, .int .i64 0, .bool false, .slice none 0 0, .int .i64 0] 28)) := nbelow_trans (below_one _ _) (below_one _ _)
  have HX : Hid _ := fun w' (q : IsW w' x.2.1 x.2.2.1 x.2.2.2.1 x.2.2.2.2.1) => qtrim_calls x.1 x.2.1 x.2.2.1 x.2.2.2.1 x.2.2.2.2.1 x.2.2.2.2.2 i false w' q hx.2 rx hi
  have HY : Hid _ := fun w' (q : IsW w' y.2.1 y.2.2.1 y.2.2.2.1 y.2.2.2.2.1) => qtrim_calls y.1 y.2.1 y.2.2.1 y.2.2.2.1 y.2.2.2.2.1 y.2.2.2.2.2 i true w' q hy.2 ry hi
  generalize (cutD (formD x.1 (val x.2.2.2.2.1) x.2.2.2.2.2) i false) = P at *
  generalize (cutD (formD y.1 (val y.2.2.2.2.1) y.2.2.2.2.2) i true) = Q at *
  have hI := IsW.keep hx.1 bA
  have hJ := IsW.keep hy.1 bA
  have k0 : ((w.alloc (.cells #[.bool x.1, .slice x.2.1 x.2.2.1 x.2.2.2.1, .int .i64 x.2.2.2.2.2, .bool y.1, .slice y.2.1 y.2.2.1 y.2.2.2.1, .int .i64 y.2.2.2.2.2] 28)).alloc (.cells #[.bool false, .slice none 0 0, .int .i64 0, .bool false, .slice none 0 0, .int .i64 0] 28)).cell? ⟨w.heap.size, 0, none⟩ = some (.bool x.1) := by go_simp
  have k1 : ((w.alloc (.cells #[.bool x.1, .slice x.2.1 x.2.2.1 x.2.2.2.1, .int .i64 x.2.2.2.2.2, .bool y.1, .slice y.2.1 y.2.2.1 y.2.2.2.1, .int .i64 y.2.2.2.2.2] 28)).alloc (.cells #[.bool false, .slice none 0 0, .int .i64 0, .bool false, .slice none 0 0, .int .i64 0] 28)).cell? ⟨w.heap.size, 1, none⟩ = some (.slice x.2.1 x.2.2.1 x.2.2.2.1) := by go_simp
  have k2 : ((w.alloc (.cells #[.bool x.1, .slice x.2.1 x.2.2.1 x.2.2.2.1, .int .i64 x.2.2.2.2.2, .bool y.1, .slice y.2.1 y.2.2.1 y.2.2.2.1, .int .i64 y.2.2.2.2.2] 28)).alloc (.cells #[.bool false, .slice none 0 0, .int .i64 0, .bool false, .slice none 0 0, .int .i64 0] 28)).cell? ⟨w.heap.size, 2, none⟩ = some (.int .i64 x.2.2.2.2.2) := by go_simp
  have k3 : ((w.alloc (.cells #[.bool x.1, .slice x.2.1 x.2.2.1 x.2.2.2.1, .int .i64 x.2.2.2.2.2, .bool y.1, .slice y.2.1 y.2.2.1 y.2.2.2.1, .int .i64 y.2.2.2.2.2] 28)).alloc (.cells #[.bool false, .slice none 0 0, .int .i64 0, .bool false, .slice none 0 0, .int .i64 0] 28)).cell? ⟨w.heap.size, 3, none⟩ = some (.bool y.1) := by go_simp
  have k4 : ((w.alloc (.cells #[.bool x.1, .slice x.2.1 x.2.2.1 x.2.2.2.1, .int .i64 x.2.2.2.2.2, .bool y.1, .slice y.2.1 y.2.2.1 y.2.2.2.1, .int .i64 y.2.2.2.2.2] 28)).alloc (.cells #[.bool false, .slice none 0 0, .int .i64 0, .bool false, .slice none 0 0, .int .i64 0] 28)).cell? ⟨w.heap.size, 4, none⟩ = some (.slice y.2.1 y.2.2.1 y.2.2.2.1) := by go_simp
  have k5 : ((w.alloc (.cells #[.bool x.1, .slice x.2.1 x.2.2.1 x.2.2.2.1, .int .i64 x.2.2.2.2.2, .bool y.1, .slice y.2.1 y.2.2.1 y.2.2.2.1, .int .i64 y.2.2.2.2.2] 28)).alloc (.cells #[.bool false, .slice none 0 0, .int .i64 0, .bool false, .slice none 0 0, .int .i64 0] 28)).cell? ⟨w.heap.size, 5, none⟩ = some (.int .i64 y.2.2.2.2.2) := by go_simp
  have z0 : ((w.alloc (.cells #[.bool x.1, .slice x.2.1 x.2.2.1 x.2.2.2.1, .int .i64 x.2.2.2.2.2, .bool y.1, .slice y.2.1 y.2.2.1 y.2.2.2.1, .int .i64 y.2.2.2.2.2] 28)).alloc (.cells #[.bool false, .slice none 0 0, .int .i64 0, .bool false, .slice none 0 0, .int .i64 0] 28)).cell? ⟨w.heap.size + 1, 0, none⟩ = some (.bool false) := by go_simp
  have f0 : ((w.alloc (.cells #[.bool x.1, .slice x.2.1 x.2.2.1 x.2.2.2.1, .int .i64 x.2.2.2.2.2, .bool y.1, .slice y.2.1 y.2.2.1 y.2.2.2.1, .int .i64 y.2.2.2.2.2] 28)).alloc (.cells #[.bool false, .slice none 0 0, .int .i64 0, .bool false, .slice none 0 0, .int .i64 0] 28)).frozen? ⟨w.heap.size + 1, 0, none⟩ = false := by go_simp
  have z1 : ((w.alloc (.cells #[.bool x.1, .slice x.2.1 x.2.2.1 x.2.2.2.1, .int .i64 x.2.2.2.2.2, .bool y.1, .slice y.2.1 y.2.2.1 y.2.2.2.1, .int .i64 y.2.2.2.2.2] 28)).alloc (.cells #[.bool false, .slice none 0 0, .int .i64 0, .bool false, .slice none 0 0, .int .i64 0] 28)).cell? ⟨w.heap.size + 1, 1, none⟩ = some (.slice none 0 0) := by go_simp
  have f1 : ((w.alloc (.cells #[.bool x.1, .slice x.2.1 x.2.2.1 x.2.2.2.1, .int .i64 x.2.2.2.2.2, .bool y.1, .slice y.2.1 y.2.2.1 y.2.2.2.1, .int .i64 y.2.2.2.2.2] 28)).alloc (.cells #[.bool false, .slice none 0 0, .int .i64 0, .bool false, .slice none 0 0, .int .i64 0] 28)).frozen? ⟨w.heap.size + 1, 1, none⟩ = false := by go_simp
  have z2 : ((w.alloc (.cells #[.bool x.1, .slice x.2.1 x.2.2.1 x.2.2.2.1, .int .i64 x.2.2.2.2.2, .bool y.1, .slice y.2.1 y.2.2.1 y.2.2.2.1, .int .i64 y.2.2.2.2.2] 28)).alloc (.cells #[.bool false, .slice none 0 0, .int .i64 0, .bool false, .slice none 0 0, .int .i64 0] 28)).cell? ⟨w.heap.size + 1, 2, none⟩ = some (.int .i64 0) := by go_simp
  have f2 : ((w.alloc (.cells #[.bool x.1, .slice x.2.1 x.2.2.1 x.2.2.2.1, .int .i64 x.2.2.2.2.2, .bool y.1, .slice y.2.1 y.2.2.1 y.2.2.2.1, .int .i64 y.2.2.2.2.2] 28)).alloc (.cells #[.bool false, .slice none 0 0, .int .i64 0, .bool false, .slice none 0 0, .int .i64 0] 28)).frozen? ⟨w.heap.size + 1, 2, none⟩ = false := by go_simp
  have z3 : ((w.alloc (.cells #[.bool x.1, .slice x.2.1 x.2.2.1 x.2.2.2.1, .int .i64 x.2.2.2.2.2, .bool y.1, .slice y.2.1 y.2.2.1 y.2.2.2.1, .int .i64 y.2.2.2.2.2] 28)).alloc (.cells #[.bool false, .slice none 0 0, .int .i64 0, .bool false, .slice none 0 0, .int .i64 0] 28)).cell? ⟨w.heap.size + 1, 3, none⟩ = some (.bool false) := by go_simp
  have f3 : ((w.alloc (.cells #[.bool x.1, .slice x.2.1 x.2.2.1 x.2.2.2.1, .int .i64 x.2.2.2.2.2, .bool y.1, .slice y.2.1 y.2.2.1 y.2.2.2.1, .int .i64 y.2.2.2.2.2] 28)).alloc (.cells #[.bool false, .slice none 0 0, .int .i64 0, .bool false, .slice none 0 0, .int .i64 0] 28)).frozen? ⟨w.heap.size + 1, 3, none⟩ = false := by go_simp
  have z4 : ((w.alloc (.cells #[.bool x.1, .slice x.2.1 x.2.2.1 x.2.2.2.1, .int .i64 x.2.2.2.2.2, .bool y.1, .slice y.2.1 y.2.2.1 y.2.2.2.1, .int .i64 y.2.2.2.2.2] 28)).alloc (.cells #[.bool false, .slice none 0 0, .int .i64 0, .bool false, .slice none 0 0, .int .i64 0] 28)).cell? ⟨w.heap.size + 1, 4, none⟩ = some (.slice none 0 0) := by go_simp
  have f4 : ((w.alloc (.cells #[.bool x.1, .slice x.2.1 x.2.2.1 x.2.2.2.1, .int .i64 x.2.2.2.2.2, .bool y.1, .slice y.2.1 y.2.2.1 y.2.2.2.1, .int .i64 y.2.2.2.2.2] 28)).alloc (.cells #[.bool false, .slice none 0 0, .int .i64 0, .bool false, .slice none 0 0, .int .i64 0] 28)).frozen? ⟨w.heap.size + 1, 4, none⟩ = false := by go_simp
  have z5 : ((w.alloc (.cells #[.bool x.1, .slice x.2.1 x.2.2.1 x.2.2.2.1, .int .i64 x.2.2.2.2.2, .bool y.1, .slice y.2.1 y.2.2.1 y.2.2.2.1, .int .i64 y.2.2.2.2.2] 28)).alloc (.cells #[.bool false, .slice none 0 0, .int .i64 0, .bool false, .slice none 0 0, .int .i64 0] 28)).cell? ⟨w.heap.size + 1, 5, none⟩ = some (.int .i64 0) := by go_simp
  have f5 : ((w.alloc (.cells #[.bool x.1, .slice x.2.1 x.2.2.1 x.2.2.2.1, .int .i64 x.2.2.2.2.2, .bool y.1, .slice y.2.1 y.2.2.1 y.2.2.2.1, .int .i64 y.2.2.2.2.2] 28)).alloc (.cells #[.bool false, .slice none 0 0, .int .i64 0, .bool false, .slice none 0 0, .int .i64 0] 28)).frozen? ⟨w.heap.size + 1, 5, none⟩ = false := by go_simp
  clear hx hy
  go_enter Tryz.func55, Tryz.ntmps55
  go_upto_region 1 with fail
  generalize ((w.alloc (.cells #[.bool x.1, .slice x.2.1 x.2.2.1 x.2.2.2.1, .int .i64 x.2.2.2.2.2, .bool y.1, .slice y.2.1 y.2.2.1 y.2.2.2.1, .int .i64 y.2.2.2.2.2] 28)).alloc (.cells #[.bool false, .slice none 0 0, .int .i64 0, .bool false, .slice none 0 0, .int .i64 0] 28)) = w0 at *
  have R : Below w0.heap.size w0 (World.drew w0) := (Below.refl _ _).drew
  have lw : Hid (w.heap.size ≤ w0.heap.size) := bA.size
  refine wp_region_held (S := fun w' => AtI w.heap.size (.bool x.1) (.slice x.2.1 x.2.2.1 x.2.2.2.1) (.int .i64 x.2.2.2.2.2) (.bool y.1) (.slice y.2.1 y.2.2.1 y.2.2.2.1) (.int .i64 y.2.2.2.2.2) w') (by kernel_rfl) ?_
  change wpAnyH _ _ _ _ _ _ _ _ (World.drew w0)
  generalize World.drew w0 = wd at R ⊢
  have AA : AtI w.heap.size (.bool x.1) (.slice x.2.1 x.2.2.1 x.2.2.2.1) (.int .i64 x.2.2.2.2.2) (.bool y.1) (.slice y.2.1 y.2.2.1 y.2.2.2.1) (.int .i64 y.2.2.2.2.2) wd := ⟨dcarry_cell R k0, dcarry_cell R k1, dcarry_cell R k2, dcarry_cell R k3, dcarry_cell R k4, dcarry_cell R k5⟩
  clear k0 k1 k2 k3 k4 k5
  replace f0 := dcarry_frozen R z0 f0
  replace z0 := dcarry_cell R z0
  replace f1 := dcarry_frozen R z1 f1
  replace z1 := dcarry_cell R z1
  replace f2 := dcarry_frozen R z2 f2
  replace z2 := dcarry_cell R z2
  replace f3 := dcarry_frozen R z3 f3
  replace z3 := dcarry_cell R z3
  replace f4 := dcarry_frozen R z4 f4
  replace z4 := dcarry_cell R z4
  replace f5 := dcarry_frozen R z5 f5
  replace z5 := dcarry_cell R z5
  replace hI := IsW.keep hI R
  replace hJ := IsW.keep hJ R
  replace bA := nbelow_trans bA R
  clear R
  refine wpAnyH_take (i := 0) (v := .pointer (some ⟨w.heap.size, 0, none⟩)) rfl (by kernel_rfl) (by kernel_rfl) (by kernel_rfl) (fun _ _ _ h => h) (Or.inl ⟨by rfl, ?y1⟩) AA ?r1
  case y1 => (intro ww hS; obtain ⟨q0, q1, q2, q3, q4, q5⟩ := hS; go_simp; try with_reducible rfl)
  try simp only [Act.put, List.setIfInBounds_toArray]
  refine wpAnyH_take (i := 1) (v := dT x) rfl (by kernel_rfl) (by kernel_rfl) (by kernel_rfl) (fun _ _ _ h => h) (Or.inl ⟨by rfl, ?y2⟩) AA ?r2
  case y2 => (intro ww hS; obtain ⟨q0, q1, q2, q3, q4, q5⟩ := hS; go_simp; try with_reducible rfl)
  try simp only [Act.put]
  refine wpAnyH_take (i := 2) (v := .int .i64 i) rfl (by kernel_rfl) (by kernel_rfl) (by kernel_rfl) (fun _ _ _ h => h) (Or.inl ⟨by rfl, ?y3⟩) AA ?r3
  case y3 => (intro ww hS; obtain ⟨q0, q1, q2, q3, q4, q5⟩ := hS; go_simp; try with_reducible rfl)
  try simp only [Act.put]
  refine wpAnyH_take (i := 4) (v := .pointer (some ⟨w.heap.size, 3, none⟩)) rfl (by kernel_rfl) (by kernel_rfl) (by kernel_rfl) (fun _ _ _ h => h) (Or.inl ⟨by rfl, ?y4⟩) AA ?r4
  case y4 => (intro ww hS; obtain ⟨q0, q1, q2, q3, q4, q5⟩ := hS; go_simp; try with_reducible rfl)
  try simp only [Act.put]
  refine wpAnyH_take (i := 5) (v := dT y) rfl (by kernel_rfl) (by kernel_rfl) (by kernel_rfl) (fun _ _ _ h => h) (Or.inl ⟨by rfl, ?y5⟩) AA ?r5
  case y5 => (intro ww hS; obtain ⟨q0, q1, q2, q3, q4, q5⟩ := hS; go_simp; try with_reducible rfl)
  try simp only [Act.put]
  refine wpAnyH_take (i := 6) (v := .int .i64 i) rfl (by kernel_rfl) (by kernel_rfl) (by kernel_rfl) (fun _ _ _ h => h) (Or.inl ⟨by rfl, ?y6⟩) AA ?r6
  case y6 => (intro ww hS; obtain ⟨q0, q1, q2, q3, q4, q5⟩ := hS; go_simp; try with_reducible rfl)
  try simp only [Act.put]
  refine wpAnyH_ready (rs := [3]) (by kernel_rfl) (by simp) ?_
  refine AllReadyH.cons rfl (fun K hK => ?_) AllReadyH.nil
  go_simp
  refine Calls.mono (HX.out _ hI) ?_
  rintro r w1 ⟨_, rfl, ⟨ax, nx, cx, rfl, Nx, Ox⟩, bN⟩
  replace Ox := Ox.low bA.size
  replace f0 := dcarry_frozen bN z0 f0
  replace z0 := dcarry_cell bN z0
  replace f1 := dcarry_frozen bN z1 f1
  replace z1 := dcarry_cell bN z1
  replace f2 := dcarry_frozen bN z2 f2
  replace z2 := dcarry_cell bN z2
  replace f3 := dcarry_frozen bN z3 f3
  replace z3 := dcarry_cell bN z3
  replace f4 := dcarry_frozen bN z4 f4
  replace z4 := dcarry_cell bN z4
  replace f5 := dcarry_frozen bN z5 f5
  replace z5 := dcarry_cell bN z5
  replace hI := IsW.keep hI bN
  replace hJ := IsW.keep hJ bN
  replace bA := nbelow_trans bA bN
  replace AA := AA.keep bN
  clear bN
  refine hK.out _ _ AA (fun _ => ?_)
  clear hK K
  try simp only [Act.put, List.setIfInBounds_toArray, List.set_cons_zero, List.set_cons_succ]
  refine wpAnyH_ready (rs := [7]) (by kernel_rfl) (by simp) ?_
  refine AllReadyH.cons rfl (fun K hK => ?_) AllReadyH.nil
  go_simp
  refine Calls.mono (HY.out _ hJ) ?_
  rintro r w2 ⟨_, rfl, ⟨ay, ny, cy, rfl, Ny, Oy⟩, bN⟩
  replace Oy := Oy.low bA.size
  replace f0 := dcarry_frozen bN z0 f0
  replace z0 := dcarry_cell bN z0
  replace f1 := dcarry_frozen bN z1 f1
  replace z1 := dcarry_cell bN z1
  replace f2 := dcarry_frozen bN z2 f2
  replace z2 := dcarry_cell bN z2
  replace f3 := dcarry_frozen bN z3 f3
  replace z3 := dcarry_cell bN z3
  replace f4 := dcarry_frozen bN z4 f4
  replace z4 := dcarry_cell bN z4
  replace f5 := dcarry_frozen bN z5 f5
  replace z5 := dcarry_cell bN z5
  replace hI := IsW.keep hI bN
  replace hJ := IsW.keep hJ bN
  replace Ox := Ox.keep bN
  replace bA := nbelow_trans bA bN
  replace AA := AA.keep bN
  clear bN
  refine hK.out _ _ AA (fun _ => ?_)
  clear hK K
  try simp only [Act.put, List.setIfInBounds_toArray, List.set_cons_zero, List.set_cons_succ]
  refine wpAnyH_ready (rs := [8]) (by kernel_rfl) (by simp) ?_
  refine AllReadyH.cons rfl (fun K hK => ?_) AllReadyH.nil
  go_simp
  refine hK.out _ _ AA (fun _ => ?_)
  clear hK K
  try simp only [Act.put, List.setIfInBounds_toArray, List.set_cons_zero, List.set_cons_succ]
  refine wpAnyH_ready (rs := [9]) (by kernel_rfl) (by simp) ?_
  refine AllReadyH.cons rfl (fun K hK => ?_) AllReadyH.nil
  go_simp
  refine hK.out _ _ (AA.set6 (by omega) _ _ _ _ _ _) (fun _ => ?_)
  clear hK K
  try simp only [Act.put, List.setIfInBounds_toArray, List.set_cons_zero, List.set_cons_succ]
  refine wpAnyH_done (by kernel_rfl) ?_ _
  go_wp2_with fail
  have s6 := six_ofI z0 z1 z2 z3 z4 z5 (fun _ q => by cases q) (fun _ q => by cases q) (fun _ q => by cases q) (fun _ q => by cases q) (fun _ q => by cases q) (fun _ q => by cases q)
  exact bodyPost_ret (v := ivI P.1 ax nx cx P.2.2 Q.1 ay ny cy Q.2.2) (by simp [results, Tryz.results55, go_sem, z0, z1, z2, z3, z4, z5]) rfl ⟨ax, nx, cx, ay, ny, cy, rfl, Nx, Ny, ownW_sixI Ox s6 _ _ _ _ _ _, ownW_sixI Oy s6 _ _ _ _ _ _, by repeat (first | (with_reducible exact bA) | (with_reducible refine Below.setCell ?_ (by simp; try omega) _))⟩


set_option maxRecDepth 100000 in
set_option maxHeartbeats 4000000 in
theorem qint_end (s : Bool) (j : Nat) (hj : j ≤ 18446744073709551615) (w : World) (i : Int) (hi : -9223372036854775808 ≤ i ∧ i ≤ 9223372036854775807) (hs : decide (i < 0) = s) (hc : (s = false ∧ i = (j : Int)) ∨ (s = true ∧ i = -(j : Int))) :
    Calls Tryz.prog 26 #[.int .i64 i] w fun r w' => ∃ v', r = .returned v' ∧ DyQ w.heap.size w' v' (formD s j 0) ∧ Below w.heap.size w w' := by
  have hb0 := below_one w (.cells #[.bool false, .slice none 0 0, .int .i64 0] 26)
  obtain ⟨hi1, hi2⟩ := hi
  have HO : Hid _ := fun w' => nOf_calls (j : Int) w' (by omega) (by omega)
  rw [Int.toNat_natCast] at HO
  have hgl : (wordsOf j).length ≤ 1 := (words_len 1 j).2 (by omega)
  have HK : Hid _ := fun a c w' q1 => qForm_calls s a (wordsOf j).length c (wordsOf j) 0 w' q1 (by omega) (by omega)
  rw [val_words] at HK
  clear hgl
  have hjj : (0 : Int) ≤ (j : Int) ∧ (j : Int) ≤ 18446744073709551615 := by omega
  generalize formD s j 0 = p at *
  rcases hc with ⟨rfl, rfl⟩ | ⟨rfl, rfl⟩
  · have hlt : ¬ (j : Int) < 0 := by omega
    have q3 : IntKind.u64.wrap (j : Int) = (j : Int) := by rw [IntKind.wrap_u64]; omega
    go_enter Tryz.func26, Tryz.ntmps26
    go_wp2_with fail
    refine Calls.mono (HO.out _) ?_
    rintro r w1 ⟨a1, c1, rfl, hO1, hb1⟩
    have hb01 := nbelow_trans hb0 hb1
    have HI1 : IsW w1 a1 (wordsOf j).length c1 (wordsOf j) := hO1.isW (words_U _)
    clear hO1
    go_wp2_with fail
    refine Calls.mono (HK.out a1 c1 _ HI1) ?_
    rintro r w2 ⟨_, rfl, ⟨a2, n2, c2, rfl, HN2, hO2⟩, hb2⟩
    have hb12 := nbelow_trans hb1 hb2
    have hb02 := nbelow_trans hb01 hb2
    have hsz : w.heap.size + 1 ≤ w1.heap.size := by have := hb1.size; simp at this; omega
    obtain ⟨m0, m1, m2, f0, f1, f2⟩ := zero_dy (r := w.heap.size) hb12 rfl
    have hO2' : OwnW (w.heap.size + 1) w2 a2 n2 c2 (wordsOf p.2.1) := hO2.low hsz
    clear hb1 hb2 hO2 HI1 HK HO
    go_wp2_with fail
    refine bodyPost_ret (v := dyV p.1 a2 n2 c2 p.2.2) (by simp [results, Tryz.results26, go_sem, m0, m1, m2]) rfl ⟨_, rfl, ⟨a2, n2, c2, rfl, HN2, ?_⟩, ?_⟩
    · exact (((hO2'.far _ _ (by simp)).far _ _ (by simp)).far _ _ (by simp)).low (by omega)
    · exact ((hb02.setCell (Nat.le_refl _) _).setCell (Nat.le_refl _) _).setCell (Nat.le_refl _) _
  · have hlt : -(j : Int) < 0 := by simpa using hs
    have q1 : IntKind.u64.wrap (-(j : Int)) = 18446744073709551616 - (j : Int) := by rw [IntKind.wrap_u64]; omega
    have q2 : IntKind.u64.wrap (-(18446744073709551616 - (j : Int))) = (j : Int) := by rw [IntKind.wrap_u64]; omega
    have q4 : IntKind.u64.wrap (0 - (18446744073709551616 - (j : Int))) = (j : Int) := by rw [IntKind.wrap_u64]; omega
    go_enter Tryz.func26, Tryz.ntmps26
    go_wp2_with fail
    refine Calls.mono (HO.out _) ?_
    rintro r w1 ⟨a1, c1, rfl, hO1, hb1⟩
    have hb01 := nbelow_trans hb0 hb1
    have HI1 : IsW w1 a1 (wordsOf j).length c1 (wordsOf j) := hO1.isW (words_U _)
    clear hO1
    go_wp2_with fail
    refine Calls.mono (HK.out a1 c1 _ HI1) ?_
    rintro r w2 ⟨_, rfl, ⟨a2, n2, c2, rfl, HN2, hO2⟩, hb2⟩
    have hb12 := nbelow_trans hb1 hb2
    have hb02 := nbelow_trans hb01 hb2
    have hsz : w.heap.size + 1 ≤ w1.heap.size := by have := hb1.size; simp at this; omega
    obtain ⟨m0, m1, m2, f0, f1, f2⟩ := zero_dy (r := w.heap.size) hb12 rfl
    have hO2' : OwnW (w.heap.size + 1) w2 a2 n2 c2 (wordsOf p.2.1) := hO2.low hsz
    clear hb1 hb2 hO2 HI1 HK HO
    go_wp2_with fail
    refine bodyPost_ret (v := dyV p.1 a2 n2 c2 p.2.2) (by simp [results, Tryz.results26, go_sem, m0, m1, m2]) rfl ⟨_, rfl, ⟨a2, n2, c2, rfl, HN2, ?_⟩, ?_⟩
    · exact (((hO2'.far _ _ (by simp)).far _ _ (by simp)).far _ _ (by simp)).low (by omega)
    · exact ((hb02.setCell (Nat.le_refl _) _).setCell (Nat.le_refl _) _).setCell (Nat.le_refl _) _

theorem qint_calls (i : Int) (hi : -9223372036854775808 ≤ i ∧ i ≤ 9223372036854775807) (w : World) :
    Calls Tryz.prog 26 #[.int .i64 i] w fun r w' => ∃ v', r = .returned v' ∧ DyQ w.heap.size w' v' (intD i) ∧ Below w.heap.size w w' := by
  unfold intD
  by_cases h : i < 0
  · rw [decide_eq_true h]
    exact qint_end true i.natAbs (by omega) w i hi (decide_eq_true h) (Or.inr ⟨rfl, by omega⟩)
  · rw [decide_eq_false h]
    exact qint_end false i.natAbs (by omega) w i hi (decide_eq_false h) (Or.inl ⟨rfl, by omega⟩)

end Go.Proofs.YtkkldnnndlpblaaGreatDoor

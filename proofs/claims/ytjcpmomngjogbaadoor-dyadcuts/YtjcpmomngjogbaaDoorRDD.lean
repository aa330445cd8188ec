/- The document's dyadic numbers: Trim. The document's dyadic numbers: Cut; the program's Cut in the same words. The document's dyadic numbers: Whole. The program's dyadic numbers: whole and rest. -/
import Derived.Test.YtjcpmomngjogbaaDoorRDA
import Derived.Test.YtjcpmomngjogbaaDoorDGA
namespace Go.Proofs.YtjcpmomngjogbaaDoor

section
open Go.RowKit

set_option maxRecDepth 100000 in
set_option maxHeartbeats 1000000 in
theorem qtrim_same (s : Bool) (a : Option Addr) (len cap : Nat) (xs : List Int) (e : Int) (pp : Int) (up : Bool) (w : World) (h : IsW w a len cap xs) (hm : len ≤ 17592186044000) (hr : rightB (val xs) e = true) (hp : 1 ≤ pp ∧ pp ≤ 9223372036854775807) (hle : (blen (formD s (val xs) e).2.1 : Int) ≤ pp) :
    Calls Tryd.prog 53 #[dyV s a len cap e, .int .i64 pp, .bool up] w fun r w' => ∃ v', r = .returned v' ∧ DyQ w.heap.size w' v' ((formD s (val xs) e)) ∧ Below w.heap.size w w' := by
  have hb0 : Below w.heap.size w ((w.alloc (.cells #[.bool s, .slice a len cap, .int .i64 e] 25)).alloc (.cells #[.bool false, .slice none 0 0, .int .i64 0] 25)) := nbelow_trans (below_one _ _) (below_one _ _)
  have HO : Hid _ := qOne_calls s a len cap xs e _ (h.keep hb0) hm (by have := (rightB_yes hr).2; omega)
  have hg2 : greatB (formD s (val xs) e).2.1 = false := great_mono (form_amount_le _ _ _) (rightB_yes hr).1
  have hpe : -100000000 ≤ (formD s (val xs) e).2.2 ∧ (formD s (val xs) e).2.2 ≤ 100000000 := by
    have h3 := (rightB_yes hr).2
    by_cases h0 : val xs = 0
    · rw [h0, form_zero]; simp
    · have h4 := tz_le_blen (val xs); have h5 := (great_not _).1 (rightB_yes hr).1; rw [form_pos s h0]; simp only; omega
  clear hr
  generalize formD s (val xs) e = p at *
  obtain ⟨ps, pm, pe⟩ := p
  simp only at *
  have hbl : blen pm ≤ 65536 := (great_not _).1 hg2
  have hwl : (wordsOf pm).length ≤ 1024 := (words_len2 1024 pm).2 (by omega)
  obtain ⟨hp1, hp2⟩ := hp
  obtain ⟨he1, he2⟩ := hpe
  have LC : Hid _ := fun a' n' c' w' q r => nLen_calls a' n' c' (wordsOf pm) w' q r
  rw [val_words] at LC
  generalize blen pm = bl at *
  go_enter Tryd.func53, Tryd.ntmps53
  go_wp2_with fail
  refine Calls.mono HO.out ?_
  rintro r w1 ⟨_, rfl, ⟨a1, n1, c1, rfl, HN1, hO1⟩, hb1⟩
  simp only at *
  have hb01 := nbelow_trans hb0 hb1
  obtain ⟨m0, m1, m2, f0, f1, f2⟩ := zero_dy (r := w.heap.size + 1) hb1 (by simp)
  have hn1 : n1 ≤ 1024 := by have := HN1.out; omega
  have hsz : w.heap.size + 2 ≤ w1.heap.size := by have := hb1.size; simp at this; omega
  clear HO hb1 hb0
  go_wp2_with fail
  have hbx := below_one w1 (.cells #[.bool ps, .slice a1 n1 c1, .int .i64 pe] 25)
  refine Calls.mono (LC.out _ _ _ _ (hO1.1.keep hbx) (by omega)) ?_
  rintro r w2 ⟨rfl, hb2⟩
  have x0 : w2.cell? ⟨w1.heap.size, 0, none⟩ = some (.bool ps) := dcarry_cell hb2 (by go_simp)
  have x1 : w2.cell? ⟨w1.heap.size, 1, none⟩ = some (.slice a1 n1 c1) := dcarry_cell hb2 (by go_simp)
  have x2 : w2.cell? ⟨w1.heap.size, 2, none⟩ = some (.int .i64 pe) := dcarry_cell hb2 (by go_simp)
  have hb12 := nbelow_trans hbx hb2
  have hb02 := nbelow_trans hb01 hb12
  replace f0 := dcarry_frozen hb12 m0 f0
  replace f1 := dcarry_frozen hb12 m1 f1
  replace f2 := dcarry_frozen hb12 m2 f2
  replace m0 := dcarry_cell hb12 m0
  replace m1 := dcarry_cell hb12 m1
  replace m2 := dcarry_cell hb12 m2
  have hO2 := hO1.keep hb12
  have hs2 : w1.heap.size ≤ w2.heap.size := hb12.size
  clear hb2 hbx hb12 hO1 hb01
  go_wp2_with fail
  refine bodyPost_ret (v := dyV (ps, pm, pe).1 a1 n1 c1 (ps, pm, pe).2.2) (by simp [results, Tryd.results53, go_sem, m0, m1, m2]) rfl ⟨_, rfl, ⟨a1, n1, c1, rfl, HN1, ?_⟩, ?_⟩
  · exact (((hO2.far _ _ (by simp; try omega)).far _ _ (by simp; try omega)).far _ _ (by simp; try omega)).low (by simp; try omega)
  · exact ((hb02.setCell (by show w.heap.size ≤ w.heap.size + 1; omega) _).setCell (by show w.heap.size ≤ w.heap.size + 1; omega) _).setCell (by show w.heap.size ≤ w.heap.size + 1; omega) _

set_option maxRecDepth 100000 in
set_option maxHeartbeats 1000000 in
theorem qtrim_less (s : Bool) (a : Option Addr) (len cap : Nat) (xs : List Int) (e : Int) (pp : Int) (up : Bool) (w : World) (h : IsW w a len cap xs) (hm : len ≤ 17592186044000) (hr : rightB (val xs) e = true) (hp : 1 ≤ pp ∧ pp ≤ 9223372036854775807) (hodd : (formD s (val xs) e).2.1 % 2 = 1) (hgt : pp < (blen (formD s (val xs) e).2.1 : Int)) (hup : up = (formD s (val xs) e).1) :
    Calls Tryd.prog 53 #[dyV s a len cap e, .int .i64 pp, .bool up] w fun r w' => ∃ v', r = .returned v' ∧ DyQ w.heap.size w' v' (formD (formD s (val xs) e).1 ((formD s (val xs) e).2.1 / 2 ^ ((blen (formD s (val xs) e).2.1 : Int) - pp).toNat) ((formD s (val xs) e).2.2 + (((blen (formD s (val xs) e).2.1 : Int) - pp).toNat : Int))) ∧ Below w.heap.size w w' := by
  have hb0 : Below w.heap.size w ((w.alloc (.cells #[.bool s, .slice a len cap, .int .i64 e] 25)).alloc (.cells #[.bool false, .slice none 0 0, .int .i64 0] 25)) := nbelow_trans (below_one _ _) (below_one _ _)
  have HO : Hid _ := qOne_calls s a len cap xs e _ (h.keep hb0) hm (by have := (rightB_yes hr).2; omega)
  have hg2 : greatB (formD s (val xs) e).2.1 = false := great_mono (form_amount_le _ _ _) (rightB_yes hr).1
  have hpe : -100000000 ≤ (formD s (val xs) e).2.2 ∧ (formD s (val xs) e).2.2 ≤ 100000000 := by
    have h3 := (rightB_yes hr).2
    by_cases h0 : val xs = 0
    · rw [h0, form_zero]; simp
    · have h4 := tz_le_blen (val xs); have h5 := (great_not _).1 (rightB_yes hr).1; rw [form_pos s h0]; simp only; omega
  clear hr
  generalize formD s (val xs) e = p at *
  obtain ⟨ps, pm, pe⟩ := p
  simp only at *
  have hbl : blen pm ≤ 65536 := (great_not _).1 hg2
  have hwl : (wordsOf pm).length ≤ 1024 := (words_len2 1024 pm).2 (by omega)
  obtain ⟨hp1, hp2⟩ := hp
  obtain ⟨he1, he2⟩ := hpe
  obtain ⟨j, hj⟩ : ∃ j : Nat, (blen pm : Int) = pp + (j : Int) := ⟨((blen pm : Int) - pp).toNat, by omega⟩
  have hj0 : 0 < j := by omega
  have hjb : j ≤ 65536 := by omega
  have HL : Hid (lostB (val (wordsOf pm)) j = true) := by
    rw [Hid, val_words]
    unfold lostB
    refine decide_eq_true ?_
    intro q
    obtain ⟨k, hk⟩ := Nat.dvd_of_mod_eq_zero q
    obtain ⟨i, rfl⟩ : ∃ i, j = i + 1 := ⟨j - 1, by omega⟩
    rw [Nat.pow_succ, Nat.mul_comm (2 ^ i) 2, Nat.mul_assoc] at hk
    omega
  have SR : Hid _ := fun a' n' c' w' q r => nShr_calls a' n' c' j (wordsOf pm) w' q (by omega) r
  rw [HL.out, val_words] at SR
  have hrr := shr_room2 hg2 hj0
  have hdl : (wordsOf (pm / 2 ^ j)).length ≤ 1024 := (words_len2 1024 _).2 (by have := (great_not _).1 hrr.1; omega)
  rw [show ((blen pm : Int) - pp).toNat = j by omega]
  have hjs : IntKind.i64.wrap ((blen pm : Int) - pp) = (j : Int) := by rw [IntKind.wrap_i64]; omega
  clear HL hrr hodd hg2
  have HK : Hid _ := fun a' n' c' w' q r => qForm_calls ps a' n' c' (wordsOf (pm / 2 ^ j)) (pe + (j : Int)) w' q r (by omega)
  rw [val_words] at HK
  have hew : IntKind.i64.wrap (pe + (blen pm : Int)) = pe + (blen pm : Int) := by rw [IntKind.wrap_i64]; omega
  have hew2 : IntKind.i64.wrap (pe + (blen pm : Int) - pp) = pe + (j : Int) := by rw [IntKind.wrap_i64]; omega
  have HDL : Hid _ := hdl
  have hngt : ¬ (blen pm : Int) ≤ pp := by omega
  clear hj hdl hgt
  generalize formD ps (pm / 2 ^ j) (pe + (j : Int)) = fp at *
  have LC : Hid _ := fun a' n' c' w' q r => nLen_calls a' n' c' (wordsOf pm) w' q r
  rw [val_words] at LC
  generalize blen pm = bl at *
  go_enter Tryd.func53, Tryd.ntmps53
  go_wp2_with fail
  refine Calls.mono HO.out ?_
  rintro r w1 ⟨_, rfl, ⟨a1, n1, c1, rfl, HN1, hO1⟩, hb1⟩
  simp only at *
  have hb01 := nbelow_trans hb0 hb1
  obtain ⟨m0, m1, m2, f0, f1, f2⟩ := zero_dy (r := w.heap.size + 1) hb1 (by simp)
  have hn1 : n1 ≤ 1024 := by have := HN1.out; omega
  have hsz : w.heap.size + 2 ≤ w1.heap.size := by have := hb1.size; simp at this; omega
  clear HO hb1 hb0
  go_wp2_with fail
  have hbx := below_one w1 (.cells #[.bool ps, .slice a1 n1 c1, .int .i64 pe] 25)
  refine Calls.mono (LC.out _ _ _ _ (hO1.1.keep hbx) (by omega)) ?_
  rintro r w2 ⟨rfl, hb2⟩
  have x0 : w2.cell? ⟨w1.heap.size, 0, none⟩ = some (.bool ps) := dcarry_cell hb2 (by go_simp)
  have x1 : w2.cell? ⟨w1.heap.size, 1, none⟩ = some (.slice a1 n1 c1) := dcarry_cell hb2 (by go_simp)
  have x2 : w2.cell? ⟨w1.heap.size, 2, none⟩ = some (.int .i64 pe) := dcarry_cell hb2 (by go_simp)
  have hb12 := nbelow_trans hbx hb2
  have hb02 := nbelow_trans hb01 hb12
  replace f0 := dcarry_frozen hb12 m0 f0
  replace f1 := dcarry_frozen hb12 m1 f1
  replace f2 := dcarry_frozen hb12 m2 f2
  replace m0 := dcarry_cell hb12 m0
  replace m1 := dcarry_cell hb12 m1
  replace m2 := dcarry_cell hb12 m2
  have hO2 := hO1.keep hb12
  have hs2 : w1.heap.size ≤ w2.heap.size := hb12.size
  clear hb2 hbx hb12 hO1 hb01
  go_wp2_with fail
  refine Calls.mono (SR.out _ _ _ _ hO2.1 (by omega)) ?_
  rintro r w3 ⟨v3, rfl, hA3, hb3⟩
  replace f0 := dcarry_frozen hb3 m0 f0
  replace m0 := dcarry_cell hb3 m0
  replace x0 := dcarry_cell hb3 x0
  replace f1 := dcarry_frozen hb3 m1 f1
  replace m1 := dcarry_cell hb3 m1
  replace x1 := dcarry_cell hb3 x1
  replace f2 := dcarry_frozen hb3 m2 f2
  replace m2 := dcarry_cell hb3 m2
  replace x2 := dcarry_cell hb3 x2
  replace hb02 := nbelow_trans hb02 hb3
  replace hs2 := Nat.le_trans hs2 hb3.size
  obtain ⟨a3, n3, c3, rfl, HN3, hn3, hO3⟩ := hA3.open HDL.out
  subst hup
  clear hA3 hb3 hO2
  go_wp2_with fail
  refine Calls.mono (HK.out _ _ _ _ hO3.1 (by omega)) ?_
  rintro r w9 ⟨_, rfl, ⟨a9, n9, c9, rfl, HN9, hO9⟩, hb9⟩
  have hO9' : OwnW (w.heap.size + 2) w9 a9 n9 c9 (wordsOf fp.2.1) := hO9.low (by omega)
  replace f0 := dcarry_frozen hb9 m0 f0
  replace m0 := dcarry_cell hb9 m0
  replace x0 := dcarry_cell hb9 x0
  replace f1 := dcarry_frozen hb9 m1 f1
  replace m1 := dcarry_cell hb9 m1
  replace x1 := dcarry_cell hb9 x1
  replace f2 := dcarry_frozen hb9 m2 f2
  replace m2 := dcarry_cell hb9 m2
  replace x2 := dcarry_cell hb9 x2
  replace hb02 := nbelow_trans hb02 hb9
  replace hs2 := Nat.le_trans hs2 hb9.size
  clear hb9 hO9
  go_wp2_with fail
  refine bodyPost_ret (v := dyV fp.1 a9 n9 c9 fp.2.2) (by simp [results, Tryd.results53, go_sem, m0, m1, m2]) rfl ⟨_, rfl, ⟨a9, n9, c9, rfl, HN9, ?_⟩, ?_⟩
  · exact (((hO9'.far _ _ (by simp; try omega)).far _ _ (by simp; try omega)).far _ _ (by simp; try omega)).low (by simp; try omega)
  · exact ((hb02.setCell (by show w.heap.size ≤ w.heap.size + 1; omega) _).setCell (by show w.heap.size ≤ w.heap.size + 1; omega) _).setCell (by show w.heap.size ≤ w.heap.size + 1; omega) _

set_option maxRecDepth 100000 in
set_option maxHeartbeats 1000000 in
theorem qtrim_more (s : Bool) (a : Option Addr) (len cap : Nat) (xs : List Int) (e : Int) (pp : Int) (up : Bool) (w : World) (h : IsW w a len cap xs) (hm : len ≤ 17592186044000) (hr : rightB (val xs) e = true) (hp : 1 ≤ pp ∧ pp ≤ 9223372036854775807) (hodd : (formD s (val xs) e).2.1 % 2 = 1) (hgt : pp < (blen (formD s (val xs) e).2.1 : Int)) (hup : up ≠ (formD s (val xs) e).1) :
    Calls Tryd.prog 53 #[dyV s a len cap e, .int .i64 pp, .bool up] w fun r w' => ∃ v', r = .returned v' ∧ DyQ w.heap.size w' v' (formD (formD s (val xs) e).1 ((formD s (val xs) e).2.1 / 2 ^ ((blen (formD s (val xs) e).2.1 : Int) - pp).toNat + 1) ((formD s (val xs) e).2.2 + (((blen (formD s (val xs) e).2.1 : Int) - pp).toNat : Int))) ∧ Below w.heap.size w w' := by
  have hb0 : Below w.heap.size w ((w.alloc (.cells #[.bool s, .slice a len cap, .int .i64 e] 25)).alloc (.cells #[.bool false, .slice none 0 0, .int .i64 0] 25)) := nbelow_trans (below_one _ _) (below_one _ _)
  have HO : Hid _ := qOne_calls s a len cap xs e _ (h.keep hb0) hm (by have := (rightB_yes hr).2; omega)
  have hg2 : greatB (formD s (val xs) e).2.1 = false := great_mono (form_amount_le _ _ _) (rightB_yes hr).1
  have hpe : -100000000 ≤ (formD s (val xs) e).2.2 ∧ (formD s (val xs) e).2.2 ≤ 100000000 := by
    have h3 := (rightB_yes hr).2
    by_cases h0 : val xs = 0
    · rw [h0, form_zero]; simp
    · have h4 := tz_le_blen (val xs); have h5 := (great_not _).1 (rightB_yes hr).1; rw [form_pos s h0]; simp only; omega
  clear hr
  generalize formD s (val xs) e = p at *
  obtain ⟨ps, pm, pe⟩ := p
  simp only at *
  have hbl : blen pm ≤ 65536 := (great_not _).1 hg2
  have hwl : (wordsOf pm).length ≤ 1024 := (words_len2 1024 pm).2 (by omega)
  obtain ⟨hp1, hp2⟩ := hp
  obtain ⟨he1, he2⟩ := hpe
  obtain ⟨j, hj⟩ : ∃ j : Nat, (blen pm : Int) = pp + (j : Int) := ⟨((blen pm : Int) - pp).toNat, by omega⟩
  have hj0 : 0 < j := by omega
  have hjb : j ≤ 65536 := by omega
  have HL : Hid (lostB (val (wordsOf pm)) j = true) := by
    rw [Hid, val_words]
    unfold lostB
    refine decide_eq_true ?_
    intro q
    obtain ⟨k, hk⟩ := Nat.dvd_of_mod_eq_zero q
    obtain ⟨i, rfl⟩ : ∃ i, j = i + 1 := ⟨j - 1, by omega⟩
    rw [Nat.pow_succ, Nat.mul_comm (2 ^ i) 2, Nat.mul_assoc] at hk
    omega
  have SR : Hid _ := fun a' n' c' w' q r => nShr_calls a' n' c' j (wordsOf pm) w' q (by omega) r
  rw [HL.out, val_words] at SR
  have hrr := shr_room2 hg2 hj0
  have hdl : (wordsOf (pm / 2 ^ j)).length ≤ 1024 := (words_len2 1024 _).2 (by have := (great_not _).1 hrr.1; omega)
  rw [show ((blen pm : Int) - pp).toNat = j by omega]
  have hjs : IntKind.i64.wrap ((blen pm : Int) - pp) = (j : Int) := by rw [IntKind.wrap_i64]; omega
  clear HL hodd hg2
  have h1l : (wordsOf 1).length ≤ 1 := (words_len 1 1).2 (by omega)
  have hul : (wordsOf (pm / 2 ^ j + 1)).length ≤ 1024 := (words_len2 1024 _).2 (by have := (great_not _).1 hrr.2; omega)
  have HK : Hid _ := fun a' c' w' q => qForm_calls ps a' (wordsOf (pm / 2 ^ j + 1)).length c' (wordsOf (pm / 2 ^ j + 1)) (pe + (j : Int)) w' q (by omega) (by omega)
  rw [val_words] at HK
  have HO1 : Hid _ := fun w' => nOf_calls 1 w' (by omega) (by omega)
  rw [show (1 : Int).toNat = 1 from rfl] at HO1
  have AD : Hid _ := fun a' a'' n' c' c'' w' g g' r => nAdd_calls a' a'' n' c' (wordsOf 1).length c'' (wordsOf (pm / 2 ^ j)) (wordsOf 1) w' g g' r (by omega)
  rw [val_words, val_words] at AD
  have hew : IntKind.i64.wrap (pe + (blen pm : Int)) = pe + (blen pm : Int) := by rw [IntKind.wrap_i64]; omega
  have hew2 : IntKind.i64.wrap (pe + (blen pm : Int) - pp) = pe + (j : Int) := by rw [IntKind.wrap_i64]; omega
  have HDL : Hid _ := hdl
  have hngt : ¬ (blen pm : Int) ≤ pp := by omega
  have hne : (up == ps) = false := by cases up <;> cases ps <;> simp_all
  have hne2 : (up != ps) = true := by cases up <;> cases ps <;> simp_all
  clear hj hdl hgt hrr h1l hul
  generalize formD ps (pm / 2 ^ j + 1) (pe + (j : Int)) = fp at *
  have LC : Hid _ := fun a' n' c' w' q r => nLen_calls a' n' c' (wordsOf pm) w' q r
  rw [val_words] at LC
  generalize blen pm = bl at *
  go_enter Tryd.func53, Tryd.ntmps53
  go_wp2_with fail
  refine Calls.mono HO.out ?_
  rintro r w1 ⟨_, rfl, ⟨a1, n1, c1, rfl, HN1, hO1⟩, hb1⟩
  simp only at *
  have hb01 := nbelow_trans hb0 hb1
  obtain ⟨m0, m1, m2, f0, f1, f2⟩ := zero_dy (r := w.heap.size + 1) hb1 (by simp)
  have hn1 : n1 ≤ 1024 := by have := HN1.out; omega
  have hsz : w.heap.size + 2 ≤ w1.heap.size := by have := hb1.size; simp at this; omega
  clear HO hb1 hb0
  go_wp2_with fail
  have hbx := below_one w1 (.cells #[.bool ps, .slice a1 n1 c1, .int .i64 pe] 25)
  refine Calls.mono (LC.out _ _ _ _ (hO1.1.keep hbx) (by omega)) ?_
  rintro r w2 ⟨rfl, hb2⟩
  have x0 : w2.cell? ⟨w1.heap.size, 0, none⟩ = some (.bool ps) := dcarry_cell hb2 (by go_simp)
  have x1 : w2.cell? ⟨w1.heap.size, 1, none⟩ = some (.slice a1 n1 c1) := dcarry_cell hb2 (by go_simp)
  have x2 : w2.cell? ⟨w1.heap.size, 2, none⟩ = some (.int .i64 pe) := dcarry_cell hb2 (by go_simp)
  have hb12 := nbelow_trans hbx hb2
  have hb02 := nbelow_trans hb01 hb12
  replace f0 := dcarry_frozen hb12 m0 f0
  replace f1 := dcarry_frozen hb12 m1 f1
  replace f2 := dcarry_frozen hb12 m2 f2
  replace m0 := dcarry_cell hb12 m0
  replace m1 := dcarry_cell hb12 m1
  replace m2 := dcarry_cell hb12 m2
  have hO2 := hO1.keep hb12
  have hs2 : w1.heap.size ≤ w2.heap.size := hb12.size
  clear hb2 hbx hb12 hO1 hb01
  go_wp2_with fail
  refine Calls.mono (SR.out _ _ _ _ hO2.1 (by omega)) ?_
  rintro r w3 ⟨v3, rfl, hA3, hb3⟩
  replace f0 := dcarry_frozen hb3 m0 f0
  replace m0 := dcarry_cell hb3 m0
  replace x0 := dcarry_cell hb3 x0
  replace f1 := dcarry_frozen hb3 m1 f1
  replace m1 := dcarry_cell hb3 m1
  replace x1 := dcarry_cell hb3 x1
  replace f2 := dcarry_frozen hb3 m2 f2
  replace m2 := dcarry_cell hb3 m2
  replace x2 := dcarry_cell hb3 x2
  replace hb02 := nbelow_trans hb02 hb3
  replace hs2 := Nat.le_trans hs2 hb3.size
  obtain ⟨a3, n3, c3, rfl, HN3, hn3, hO3⟩ := hA3.open HDL.out
  clear hA3 hb3 hO2
  go_wp2_with fail
  refine Calls.mono (HO1.out _) ?_
  rintro r w4 ⟨a4, c4, rfl, hO4, hb4⟩
  have hI4 : IsW w4 a4 (wordsOf 1).length c4 (wordsOf 1) := hO4.isW (words_U _)
  have hI3 := hO3.1.keep hb4
  replace f0 := dcarry_frozen hb4 m0 f0
  replace m0 := dcarry_cell hb4 m0
  replace x0 := dcarry_cell hb4 x0
  replace f1 := dcarry_frozen hb4 m1 f1
  replace m1 := dcarry_cell hb4 m1
  replace x1 := dcarry_cell hb4 x1
  replace f2 := dcarry_frozen hb4 m2 f2
  replace m2 := dcarry_cell hb4 m2
  replace x2 := dcarry_cell hb4 x2
  replace hb02 := nbelow_trans hb02 hb4
  replace hs2 := Nat.le_trans hs2 hb4.size
  clear hb4 hO4 hO3
  go_wp2_with fail
  refine Calls.mono (AD.out _ _ _ _ _ _ hI3 hI4 (by omega)) ?_
  rintro r w5 ⟨a5, c5, rfl, hO5, hb5⟩
  have hI5 : IsW w5 a5 (wordsOf (pm / 2 ^ j + 1)).length c5 (wordsOf (pm / 2 ^ j + 1)) := hO5.isW (words_U _)
  replace f0 := dcarry_frozen hb5 m0 f0
  replace m0 := dcarry_cell hb5 m0
  replace x0 := dcarry_cell hb5 x0
  replace f1 := dcarry_frozen hb5 m1 f1
  replace m1 := dcarry_cell hb5 m1
  replace x1 := dcarry_cell hb5 x1
  replace f2 := dcarry_frozen hb5 m2 f2
  replace m2 := dcarry_cell hb5 m2
  replace x2 := dcarry_cell hb5 x2
  replace hb02 := nbelow_trans hb02 hb5
  replace hs2 := Nat.le_trans hs2 hb5.size
  clear hb5 hO5 hI3 hI4
  go_wp2_with fail
  refine Calls.mono (HK.out _ _ _ hI5) ?_
  rintro r w9 ⟨_, rfl, ⟨a9, n9, c9, rfl, HN9, hO9⟩, hb9⟩
  have hO9' : OwnW (w.heap.size + 2) w9 a9 n9 c9 (wordsOf fp.2.1) := hO9.low (by omega)
  replace f0 := dcarry_frozen hb9 m0 f0
  replace m0 := dcarry_cell hb9 m0
  replace x0 := dcarry_cell hb9 x0
  replace f1 := dcarry_frozen hb9 m1 f1
  replace m1 := dcarry_cell hb9 m1
  replace x1 := dcarry_cell hb9 x1
  replace f2 := dcarry_frozen hb9 m2 f2
  replace m2 := dcarry_cell hb9 m2
  replace x2 := dcarry_cell hb9 x2
  replace hb02 := nbelow_trans hb02 hb9
  replace hs2 := Nat.le_trans hs2 hb9.size
  clear hb9 hO9
  go_wp2_with fail
  refine bodyPost_ret (v := dyV fp.1 a9 n9 c9 fp.2.2) (by simp [results, Tryd.results53, go_sem, m0, m1, m2]) rfl ⟨_, rfl, ⟨a9, n9, c9, rfl, HN9, ?_⟩, ?_⟩
  · exact (((hO9'.far _ _ (by simp; try omega)).far _ _ (by simp; try omega)).far _ _ (by simp; try omega)).low (by simp; try omega)
  · exact ((hb02.setCell (by show w.heap.size ≤ w.heap.size + 1; omega) _).setCell (by show w.heap.size ≤ w.heap.size + 1; omega) _).setCell (by show w.heap.size ≤ w.heap.size + 1; omega) _
theorem qtrim_calls (s : Bool) (a : Option Addr) (len cap : Nat) (xs : List Int) (e : Int) (pp : Int) (up : Bool) (w : World) (h : IsW w a len cap xs) (hm : len ≤ 17592186044000) (hr : rightB (val xs) e = true) (hp : 1 ≤ pp ∧ pp ≤ 9223372036854775807) :
    Calls Tryd.prog 53 #[dyV s a len cap e, .int .i64 pp, .bool up] w fun r w' => ∃ v', r = .returned v' ∧ DyQ w.heap.size w' v' (cutD (formD s (val xs) e) pp up) ∧ Below w.heap.size w w' := by
  unfold cutD
  by_cases hle : (blen (formD s (val xs) e).2.1 : Int) ≤ pp
  · rw [if_pos hle]
    exact qtrim_same s a len cap xs e pp up w h hm hr hp hle
  · rw [if_neg hle]
    have h0 : val xs ≠ 0 := fun q => by
      rw [q, form_zero] at hle
      exact hle (by show ((blen 0 : Nat) : Int) ≤ pp; rw [blen_zero]; omega)
    have hodd : (formD s (val xs) e).2.1 % 2 = 1 := by rw [form_pos s h0]; exact (odd_part h0).1
    by_cases hup : up = (formD s (val xs) e).1
    · have e1 : (!(up == (formD s (val xs) e).1)) = false := by rw [← hup]; simp
      rw [e1, if_neg (by decide), Nat.add_zero]
      exact qtrim_less s a len cap xs e pp up w h hm hr hp hodd (by omega) hup
    · have e1 : (!(up == (formD s (val xs) e).1)) = true := by simpa using hup
      rw [e1, if_pos rfl]
      exact qtrim_more s a len cap xs e pp up w h hm hr hp hodd (by omega) hup

end

section
open Go.RowKit

def ctB (m : Nat) (e pp : Int) : Bool := rightB m e && decide (1 ≤ pp)
def ctE (s : Bool) (m : Nat) (e pp : Int) (up : Bool) : Int := if ctB m e pp = true then roomE (cutD (formD s m e) pp up) else 2
def ctP (s : Bool) (m : Nat) (e pp : Int) (up : Bool) : Bool × Nat × Int := if ctB m e pp = true then roomP (cutD (formD s m e) pp up) else (false, 0, 0)
theorem ct_no {s : Bool} {m : Nat} {e pp : Int} {up : Bool} (h : ctB m e pp = false) : ctE s m e pp up = 2 ∧ ctP s m e pp up = (false, 0, 0) := by unfold ctE ctP; rw [if_neg (by rw [h]; decide), if_neg (by rw [h]; decide)]; exact ⟨rfl, rfl⟩
theorem ct_yes {s : Bool} {m : Nat} {e pp : Int} {up : Bool} (h : ctB m e pp = true) : ctE s m e pp up = roomE (cutD (formD s m e) pp up) ∧ ctP s m e pp up = roomP (cutD (formD s m e) pp up) := by unfold ctE ctP; rw [if_pos h, if_pos h]; exact ⟨rfl, rfl⟩
theorem cut_len (p : Bool × Nat × Int) (pp : Int) (up : Bool) (hg : greatB p.2.1 = false) : (wordsOf (cutD p pp up).2.1).length ≤ 1024 := by
  refine (words_len2 1024 _).2 ?_
  have key : greatB (cutD p pp up).2.1 = false := by
    unfold cutD
    by_cases hle : (blen p.2.1 : Int) ≤ pp
    · rw [if_pos hle]; exact hg
    · rw [if_neg hle]
      have hrr := shr_room2 hg (show 0 < ((blen p.2.1 : Int) - pp).toNat by omega)
      refine great_mono (form_amount_le _ _ _) ?_
      split
      · exact hrr.2
      · exact hrr.1
  have := (great_not _).1 key
  omega
theorem pCut_calls (s : Bool) (a : Option Addr) (len cap : Nat) (xs : List Int) (e pp : Int) (up : Bool) (w : World) (h : IsW w a len cap xs) (hm : len ≤ 17592186044416) (hT : Tab w) (hp : pp ≤ 9223372036854775807) :
    Calls Tryd.prog 21 #[dyV s a len cap e, .int .i64 pp, .bool up] w fun r w' => ∃ v', r = .returned (.tuple #[v', .int .i64 (ctE s (val xs) e pp up)]) ∧ DyAt w.heap.size w' v' (ctP s (val xs) e pp up) ∧ Below w.heap.size w w' := by
  by_cases hi : 1 ≤ pp
  · cases hr : rightB (val xs) e with
    | false =>
      obtain ⟨e1, e2⟩ := ct_no (s := s) (up := up) (show ctB (val xs) e pp = false by unfold ctB; rw [hr]; rfl)
      rw [e1, e2]
      refine (dcut_not s a len cap xs e pp up w h hm hi hr).mono ?_
      rintro r w' ⟨rfl, hb⟩
      exact ⟨_, rfl, dyAt_zero _ _, hb⟩
    | true =>
      obtain ⟨e1, e2⟩ := ct_yes (s := s) (up := up) (show ctB (val xs) e pp = true by unfold ctB; rw [hr, decide_eq_true hi]; rfl)
      rw [e1, e2]
      exact dcut_yes s a len cap xs e pp up w h hm hT ⟨hi, hp⟩ hr
  · obtain ⟨e1, e2⟩ := ct_no (s := s) (up := up) (show ctB (val xs) e pp = false by unfold ctB; rw [decide_eq_false hi, Bool.and_false])
    rw [e1, e2]
    refine (dcut_few s a len cap e pp up w (by omega)).mono ?_
    rintro r w' ⟨rfl, hb⟩
    exact ⟨_, rfl, dyAt_zero _ _, hb⟩

set_option maxRecDepth 100000 in
set_option maxHeartbeats 2000000 in
theorem qCut_calls (s : Bool) (a : Option Addr) (len cap : Nat) (xs : List Int) (e pp : Int) (up : Bool) (w : World) (h : IsW w a len cap xs) (hm : len ≤ 17592186044000) (hp : pp ≤ 9223372036854775807) :
    Calls Tryd.prog 22 #[dyV s a len cap e, .int .i64 pp, .bool up] w fun r w' => ∃ v', r = .returned (.tuple #[v', .int .i64 (ctE s (val xs) e pp up)]) ∧ DyQ w.heap.size w' v' (ctP s (val xs) e pp up) ∧ Below w.heap.size w w' := by
  have hb0 : Below w.heap.size w ((w.alloc (.cells #[.bool s, .slice a len cap, .int .i64 e] 25)).alloc (.cells #[.bool false, .slice none 0 0, .int .i64 0] 25)) := nbelow_trans (below_one _ _) (below_one _ _)
  have HR : Hid _ := qRight_calls s a len cap xs e _ (h.keep hb0) (by omega)
  cases hr : rightB (val xs) e with
  | false =>
    rw [hr] at HR
    obtain ⟨e1, e2⟩ := ct_no (s := s) (up := up) (show ctB (val xs) e pp = false by unfold ctB; rw [hr]; rfl)
    rw [e1, e2]
    clear hr e1 e2
    go_enter Tryd.func22, Tryd.ntmps22
    go_wp2_with fail
    refine Calls.mono HR.out ?_
    rintro r w1 ⟨rfl, hb1⟩
    obtain ⟨m0, m1, m2, f0, f1, f2⟩ := zero_dy (r := w.heap.size + 1) hb1 (by simp)
    have hb01 := nbelow_trans hb0 hb1
    clear hb1 hb0
    go_wp2_with fail
    refine bodyPost_ret (v := .tuple #[dyV false none 0 0 0, .int .i64 2]) (by simp [results, Tryd.results22, go_sem, m0, m1, m2]) rfl ⟨_, rfl, dyQ_zero _ _, ?_⟩
    exact ((hb01.setCell (by show w.heap.size ≤ w.heap.size + 1; omega) _).setCell (by show w.heap.size ≤ w.heap.size + 1; omega) _).setCell (by show w.heap.size ≤ w.heap.size + 1; omega) _
  | true =>
    rw [hr] at HR
    by_cases hi1 : pp < 1
    · obtain ⟨e1, e2⟩ := ct_no (s := s) (up := up) (show ctB (val xs) e pp = false by unfold ctB; rw [decide_eq_false (by omega), Bool.and_false])
      rw [e1, e2]
      clear hr e1 e2
      go_enter Tryd.func22, Tryd.ntmps22
      go_wp2_with fail
      refine Calls.mono HR.out ?_
      rintro r w1 ⟨rfl, hb1⟩
      obtain ⟨m0, m1, m2, f0, f1, f2⟩ := zero_dy (r := w.heap.size + 1) hb1 (by simp)
      have hb01 := nbelow_trans hb0 hb1
      clear hb1 hb0
      go_wp2_with fail
      refine bodyPost_ret (v := .tuple #[dyV false none 0 0 0, .int .i64 2]) (by simp [results, Tryd.results22, go_sem, m0, m1, m2]) rfl ⟨_, rfl, dyQ_zero _ _, ?_⟩
      exact ((hb01.setCell (by show w.heap.size ≤ w.heap.size + 1; omega) _).setCell (by show w.heap.size ≤ w.heap.size + 1; omega) _).setCell (by show w.heap.size ≤ w.heap.size + 1; omega) _
    obtain ⟨e1, e2⟩ := ct_yes (s := s) (up := up) (show ctB (val xs) e pp = true by unfold ctB; rw [hr, decide_eq_true (by omega)]; rfl)
    rw [e1, e2]
    have HO : Hid _ := fun w' g => qtrim_calls s a len cap xs e pp up w' g hm hr ⟨by omega, hp⟩
    have HM : Hid ((wordsOf (cutD (formD s (val xs) e) pp up).2.1).length ≤ 17592186044416) := by have := cut_len (formD s (val xs) e) pp up (great_mono (form_amount_le _ _ _) (rightB_yes hr).1); rw [Hid]; omega
    clear hr e1 e2
    generalize cutD (formD s (val xs) e) pp up = p at *
    go_enter Tryd.func22, Tryd.ntmps22
    go_wp2_with fail
    refine Calls.mono HR.out ?_
    rintro r w1 ⟨rfl, hb1⟩
    have k0 : w1.cell? ⟨w.heap.size, 0, none⟩ = some (.bool s) := dcarry_cell hb1 (by go_simp)
    have k1 : w1.cell? ⟨w.heap.size, 1, none⟩ = some (.slice a len cap) := dcarry_cell hb1 (by go_simp)
    have k2 : w1.cell? ⟨w.heap.size, 2, none⟩ = some (.int .i64 e) := dcarry_cell hb1 (by go_simp)
    have hb01 := nbelow_trans hb0 hb1
    go_wp2_with fail
    refine Calls.mono (HO.out _ (h.keep hb01)) ?_
    rintro r w2 ⟨v2, rfl, hQ2, hb2⟩
    go_wp2_with fail
    refine Calls.mono (qRoom_calls v2 p w1.heap.size w2 hQ2 HM.out) ?_
    rintro r w3 ⟨_, rfl, ⟨a3, n3, c3, rfl, HN3, hO3⟩, hb3⟩
    have hb13 := nbelow_trans hb1 (nbelow_trans hb2 hb3)
    obtain ⟨m0, m1, m2, f0, f1, f2⟩ := zero_dy (r := w.heap.size + 1) hb13 (by simp)
    have hb03 := nbelow_trans hb0 hb13
    have hws : w.heap.size + 2 ≤ w1.heap.size := by have := hb1.size; simp at this; omega
    clear hb1 hb2 hb3 hb13 k0 k1 k2 hb01 hb0 hQ2
    go_wp2_with fail
    refine bodyPost_ret (v := .tuple #[dyV (roomP p).1 a3 n3 c3 (roomP p).2.2, .int .i64 (roomE p)]) (by simp [results, Tryd.results22, go_sem, m0, m1, m2]) rfl ⟨_, rfl, ⟨a3, n3, c3, rfl, HN3, ?_⟩, ?_⟩
    · exact (((hO3.far _ _ (by show w.heap.size + 1 < _; omega)).far _ _ (by show w.heap.size + 1 < _; omega)).far _ _ (by show w.heap.size + 1 < _; omega)).low (by omega)
    · exact ((hb03.setCell (by show w.heap.size ≤ w.heap.size + 1; omega) _).setCell (by show w.heap.size ≤ w.heap.size + 1; omega) _).setCell (by show w.heap.size ≤ w.heap.size + 1; omega) _

end

section
open Go.RowKit

def wholeD (p : Bool × Nat × Int) : Bool × Nat × Int := if 0 ≤ p.2.2 then p else formD p.1 (p.2.1 / 2 ^ (-p.2.2).toNat + (if p.1 = true then 1 else 0)) 0

set_option maxRecDepth 100000 in
set_option maxHeartbeats 1000000 in
theorem qwhole_same (s : Bool) (a : Option Addr) (len cap : Nat) (xs : List Int) (e : Int) (w : World) (h : IsW w a len cap xs) (hm : len ≤ 17592186044000) (hr : rightB (val xs) e = true) (hle : 0 ≤ (formD s (val xs) e).2.2) :
    Calls Tryd.prog 56 #[dyV s a len cap e] w fun r w' => ∃ v', r = .returned v' ∧ DyQ w.heap.size w' v' ((formD s (val xs) e)) ∧ Below w.heap.size w w' := by
  have hb0 : Below w.heap.size w ((w.alloc (.cells #[.bool s, .slice a len cap, .int .i64 e] 25)).alloc (.cells #[.bool false, .slice none 0 0, .int .i64 0] 25)) := nbelow_trans (below_one _ _) (below_one _ _)
  have HO : Hid _ := qOne_calls s a len cap xs e _ (h.keep hb0) hm (by have := (rightB_yes hr).2; omega)
  have hg2 : greatB (formD s (val xs) e).2.1 = false := great_mono (form_amount_le _ _ _) (rightB_yes hr).1
  have hpe : -100000000 ≤ (formD s (val xs) e).2.2 ∧ (formD s (val xs) e).2.2 ≤ 100000000 := by
    have h3 := (rightB_yes hr).2
    by_cases h0 : val xs = 0
    · rw [h0, form_zero]; simp
    · have h4 := tz_le_blen (val xs); have h5 := (great_not _).1 (rightB_yes hr).1; rw [form_pos s h0]; simp only; omega
  clear hr
  generalize formD s (val xs) e = p at *
  obtain ⟨ps, pm, pe⟩ := p
  simp only at *
  have hbl : blen pm ≤ 65536 := (great_not _).1 hg2
  have hwl : (wordsOf pm).length ≤ 1024 := (words_len2 1024 pm).2 (by omega)
  obtain ⟨he1, he2⟩ := hpe
  go_enter Tryd.func56, Tryd.ntmps56
  go_wp2_with fail
  refine Calls.mono HO.out ?_
  rintro r w1 ⟨_, rfl, ⟨a1, n1, c1, rfl, HN1, hO1⟩, hb1⟩
  simp only at *
  have hb01 := nbelow_trans hb0 hb1
  obtain ⟨m0, m1, m2, f0, f1, f2⟩ := zero_dy (r := w.heap.size + 1) hb1 (by simp)
  have hn1 : n1 ≤ 1024 := by have := HN1.out; omega
  have hsz : w.heap.size + 2 ≤ w1.heap.size := by have := hb1.size; simp at this; omega
  clear HO hb1 hb0
  have hbx := below_one w1 (.cells #[.bool ps, .slice a1 n1 c1, .int .i64 pe] 25)
  have x0 : (w1.alloc (.cells #[.bool ps, .slice a1 n1 c1, .int .i64 pe] 25)).cell? ⟨w1.heap.size, 0, none⟩ = some (.bool ps) := by go_simp
  have x1 : (w1.alloc (.cells #[.bool ps, .slice a1 n1 c1, .int .i64 pe] 25)).cell? ⟨w1.heap.size, 1, none⟩ = some (.slice a1 n1 c1) := by go_simp
  have x2 : (w1.alloc (.cells #[.bool ps, .slice a1 n1 c1, .int .i64 pe] 25)).cell? ⟨w1.heap.size, 2, none⟩ = some (.int .i64 pe) := by go_simp
  have hb02 := nbelow_trans hb01 hbx
  replace f0 := dcarry_frozen hbx m0 f0
  replace f1 := dcarry_frozen hbx m1 f1
  replace f2 := dcarry_frozen hbx m2 f2
  replace m0 := dcarry_cell hbx m0
  replace m1 := dcarry_cell hbx m1
  replace m2 := dcarry_cell hbx m2
  have hO2 := hO1.keep hbx
  have hs2 : w1.heap.size ≤ (w1.alloc (.cells #[.bool ps, .slice a1 n1 c1, .int .i64 pe] 25)).heap.size := hbx.size
  clear hbx hO1 hb01
  go_wp2_with fail
  refine bodyPost_ret (v := dyV (ps, pm, pe).1 a1 n1 c1 (ps, pm, pe).2.2) (by simp [results, Tryd.results56, go_sem, m0, m1, m2]) rfl ⟨_, rfl, ⟨a1, n1, c1, rfl, HN1, ?_⟩, ?_⟩
  · exact (((hO2.far _ _ (by simp; try omega)).far _ _ (by simp; try omega)).far _ _ (by simp; try omega)).low (by simp; try omega)
  · exact ((hb02.setCell (by show w.heap.size ≤ w.heap.size + 1; omega) _).setCell (by show w.heap.size ≤ w.heap.size + 1; omega) _).setCell (by show w.heap.size ≤ w.heap.size + 1; omega) _

set_option maxRecDepth 100000 in
set_option maxHeartbeats 1000000 in
theorem qwhole_less (s : Bool) (a : Option Addr) (len cap : Nat) (xs : List Int) (e : Int) (w : World) (h : IsW w a len cap xs) (hm : len ≤ 17592186044000) (hr : rightB (val xs) e = true) (hodd : (formD s (val xs) e).2.1 % 2 = 1) (hgt : (formD s (val xs) e).2.2 < 0) (hup : (formD s (val xs) e).1 = false) :
    Calls Tryd.prog 56 #[dyV s a len cap e] w fun r w' => ∃ v', r = .returned v' ∧ DyQ w.heap.size w' v' (formD (formD s (val xs) e).1 ((formD s (val xs) e).2.1 / 2 ^ (-(formD s (val xs) e).2.2).toNat) 0) ∧ Below w.heap.size w w' := by
  have hb0 : Below w.heap.size w ((w.alloc (.cells #[.bool s, .slice a len cap, .int .i64 e] 25)).alloc (.cells #[.bool false, .slice none 0 0, .int .i64 0] 25)) := nbelow_trans (below_one _ _) (below_one _ _)
  have HO : Hid _ := qOne_calls s a len cap xs e _ (h.keep hb0) hm (by have := (rightB_yes hr).2; omega)
  have hg2 : greatB (formD s (val xs) e).2.1 = false := great_mono (form_amount_le _ _ _) (rightB_yes hr).1
  have hpe : -100000000 ≤ (formD s (val xs) e).2.2 ∧ (formD s (val xs) e).2.2 ≤ 100000000 := by
    have h3 := (rightB_yes hr).2
    by_cases h0 : val xs = 0
    · rw [h0, form_zero]; simp
    · have h4 := tz_le_blen (val xs); have h5 := (great_not _).1 (rightB_yes hr).1; rw [form_pos s h0]; simp only; omega
  clear hr
  generalize formD s (val xs) e = p at *
  obtain ⟨ps, pm, pe⟩ := p
  simp only at *
  have hbl : blen pm ≤ 65536 := (great_not _).1 hg2
  have hwl : (wordsOf pm).length ≤ 1024 := (words_len2 1024 pm).2 (by omega)
  obtain ⟨he1, he2⟩ := hpe
  have HUP : Hid _ := hup
  clear hup
  obtain ⟨j, hj⟩ : ∃ j : Nat, pe = -(j : Int) := ⟨(-pe).toNat, by omega⟩
  have hj0 : 0 < j := by omega
  have hjb : j ≤ 100000000 := by omega
  have HL : Hid (lostB (val (wordsOf pm)) j = true) := by
    rw [Hid, val_words]
    unfold lostB
    refine decide_eq_true ?_
    intro q
    obtain ⟨k, hk⟩ := Nat.dvd_of_mod_eq_zero q
    obtain ⟨i, rfl⟩ : ∃ i, j = i + 1 := ⟨j - 1, by omega⟩
    rw [Nat.pow_succ, Nat.mul_comm (2 ^ i) 2, Nat.mul_assoc] at hk
    omega
  have SR : Hid _ := fun a' n' c' w' q r => nShr_calls a' n' c' j (wordsOf pm) w' q (by omega) r
  rw [HL.out, val_words] at SR
  have hrr := shr_room2 hg2 hj0
  have hdl : (wordsOf (pm / 2 ^ j)).length ≤ 1024 := (words_len2 1024 _).2 (by have := (great_not _).1 hrr.1; omega)
  rw [show (-pe).toNat = j by omega]
  have hjs : IntKind.i64.wrap (-pe) = (j : Int) := by rw [IntKind.wrap_i64]; omega
  clear HL hrr hodd hg2
  have HK : Hid _ := fun a' n' c' w' q r => qForm_calls ps a' n' c' (wordsOf (pm / 2 ^ j)) 0 w' q r (by omega)
  rw [val_words] at HK
  have HDL : Hid _ := hdl
  have hngt : ¬ 0 ≤ pe := by omega
  clear hj hdl hgt
  generalize formD ps (pm / 2 ^ j) 0 = fp at *
  go_enter Tryd.func56, Tryd.ntmps56
  go_wp2_with fail
  refine Calls.mono HO.out ?_
  rintro r w1 ⟨_, rfl, ⟨a1, n1, c1, rfl, HN1, hO1⟩, hb1⟩
  simp only at *
  have hb01 := nbelow_trans hb0 hb1
  obtain ⟨m0, m1, m2, f0, f1, f2⟩ := zero_dy (r := w.heap.size + 1) hb1 (by simp)
  have hn1 : n1 ≤ 1024 := by have := HN1.out; omega
  have hsz : w.heap.size + 2 ≤ w1.heap.size := by have := hb1.size; simp at this; omega
  clear HO hb1 hb0
  have hbx := below_one w1 (.cells #[.bool ps, .slice a1 n1 c1, .int .i64 pe] 25)
  have x0 : (w1.alloc (.cells #[.bool ps, .slice a1 n1 c1, .int .i64 pe] 25)).cell? ⟨w1.heap.size, 0, none⟩ = some (.bool ps) := by go_simp
  have x1 : (w1.alloc (.cells #[.bool ps, .slice a1 n1 c1, .int .i64 pe] 25)).cell? ⟨w1.heap.size, 1, none⟩ = some (.slice a1 n1 c1) := by go_simp
  have x2 : (w1.alloc (.cells #[.bool ps, .slice a1 n1 c1, .int .i64 pe] 25)).cell? ⟨w1.heap.size, 2, none⟩ = some (.int .i64 pe) := by go_simp
  have hb02 := nbelow_trans hb01 hbx
  replace f0 := dcarry_frozen hbx m0 f0
  replace f1 := dcarry_frozen hbx m1 f1
  replace f2 := dcarry_frozen hbx m2 f2
  replace m0 := dcarry_cell hbx m0
  replace m1 := dcarry_cell hbx m1
  replace m2 := dcarry_cell hbx m2
  have hO2 := hO1.keep hbx
  have hs2 : w1.heap.size ≤ (w1.alloc (.cells #[.bool ps, .slice a1 n1 c1, .int .i64 pe] 25)).heap.size := hbx.size
  clear hbx hO1 hb01
  go_wp2_with fail
  refine Calls.mono (SR.out _ _ _ _ hO2.1 (by omega)) ?_
  rintro r w3 ⟨v3, rfl, hA3, hb3⟩
  replace f0 := dcarry_frozen hb3 m0 f0
  replace m0 := dcarry_cell hb3 m0
  replace x0 := dcarry_cell hb3 x0
  replace f1 := dcarry_frozen hb3 m1 f1
  replace m1 := dcarry_cell hb3 m1
  replace x1 := dcarry_cell hb3 x1
  replace f2 := dcarry_frozen hb3 m2 f2
  replace m2 := dcarry_cell hb3 m2
  replace x2 := dcarry_cell hb3 x2
  replace hb02 := nbelow_trans hb02 hb3
  replace hs2 := Nat.le_trans hs2 hb3.size
  obtain ⟨a3, n3, c3, rfl, HN3, hn3, hO3⟩ := hA3.open HDL.out
  have hup := HUP.out
  clear HUP
  subst hup
  clear hA3 hb3 hO2
  go_wp2_with fail
  refine Calls.mono (HK.out _ _ _ _ hO3.1 (by omega)) ?_
  rintro r w9 ⟨_, rfl, ⟨a9, n9, c9, rfl, HN9, hO9⟩, hb9⟩
  have hO9' : OwnW (w.heap.size + 2) w9 a9 n9 c9 (wordsOf fp.2.1) := hO9.low (by omega)
  replace f0 := dcarry_frozen hb9 m0 f0
  replace m0 := dcarry_cell hb9 m0
  replace x0 := dcarry_cell hb9 x0
  replace f1 := dcarry_frozen hb9 m1 f1
  replace m1 := dcarry_cell hb9 m1
  replace x1 := dcarry_cell hb9 x1
  replace f2 := dcarry_frozen hb9 m2 f2
  replace m2 := dcarry_cell hb9 m2
  replace x2 := dcarry_cell hb9 x2
  replace hb02 := nbelow_trans hb02 hb9
  replace hs2 := Nat.le_trans hs2 hb9.size
  clear hb9 hO9
  go_wp2_with fail
  refine bodyPost_ret (v := dyV fp.1 a9 n9 c9 fp.2.2) (by simp [results, Tryd.results56, go_sem, m0, m1, m2]) rfl ⟨_, rfl, ⟨a9, n9, c9, rfl, HN9, ?_⟩, ?_⟩
  · exact (((hO9'.far _ _ (by simp; try omega)).far _ _ (by simp; try omega)).far _ _ (by simp; try omega)).low (by simp; try omega)
  · exact ((hb02.setCell (by show w.heap.size ≤ w.heap.size + 1; omega) _).setCell (by show w.heap.size ≤ w.heap.size + 1; omega) _).setCell (by show w.heap.size ≤ w.heap.size + 1; omega) _

set_option maxRecDepth 100000 in
set_option maxHeartbeats 1000000 in
theorem qwhole_more (s : Bool) (a : Option Addr) (len cap : Nat) (xs : List Int) (e : Int) (w : World) (h : IsW w a len cap xs) (hm : len ≤ 17592186044000) (hr : rightB (val xs) e = true) (hodd : (formD s (val xs) e).2.1 % 2 = 1) (hgt : (formD s (val xs) e).2.2 < 0) (hup : (formD s (val xs) e).1 = true) :
    Calls Tryd.prog 56 #[dyV s a len cap e] w fun r w' => ∃ v', r = .returned v' ∧ DyQ w.heap.size w' v' (formD (formD s (val xs) e).1 ((formD s (val xs) e).2.1 / 2 ^ (-(formD s (val xs) e).2.2).toNat + 1) 0) ∧ Below w.heap.size w w' := by
  have hb0 : Below w.heap.size w ((w.alloc (.cells #[.bool s, .slice a len cap, .int .i64 e] 25)).alloc (.cells #[.bool false, .slice none 0 0, .int .i64 0] 25)) := nbelow_trans (below_one _ _) (below_one _ _)
  have HO : Hid _ := qOne_calls s a len cap xs e _ (h.keep hb0) hm (by have := (rightB_yes hr).2; omega)
  have hg2 : greatB (formD s (val xs) e).2.1 = false := great_mono (form_amount_le _ _ _) (rightB_yes hr).1
  have hpe : -100000000 ≤ (formD s (val xs) e).2.2 ∧ (formD s (val xs) e).2.2 ≤ 100000000 := by
    have h3 := (rightB_yes hr).2
    by_cases h0 : val xs = 0
    · rw [h0, form_zero]; simp
    · have h4 := tz_le_blen (val xs); have h5 := (great_not _).1 (rightB_yes hr).1; rw [form_pos s h0]; simp only; omega
  clear hr
  generalize formD s (val xs) e = p at *
  obtain ⟨ps, pm, pe⟩ := p
  simp only at *
  have hbl : blen pm ≤ 65536 := (great_not _).1 hg2
  have hwl : (wordsOf pm).length ≤ 1024 := (words_len2 1024 pm).2 (by omega)
  obtain ⟨he1, he2⟩ := hpe
  have HUP : Hid _ := hup
  clear hup
  obtain ⟨j, hj⟩ : ∃ j : Nat, pe = -(j : Int) := ⟨(-pe).toNat, by omega⟩
  have hj0 : 0 < j := by omega
  have hjb : j ≤ 100000000 := by omega
  have HL : Hid (lostB (val (wordsOf pm)) j = true) := by
    rw [Hid, val_words]
    unfold lostB
    refine decide_eq_true ?_
    intro q
    obtain ⟨k, hk⟩ := Nat.dvd_of_mod_eq_zero q
    obtain ⟨i, rfl⟩ : ∃ i, j = i + 1 := ⟨j - 1, by omega⟩
    rw [Nat.pow_succ, Nat.mul_comm (2 ^ i) 2, Nat.mul_assoc] at hk
    omega
  have SR : Hid _ := fun a' n' c' w' q r => nShr_calls a' n' c' j (wordsOf pm) w' q (by omega) r
  rw [HL.out, val_words] at SR
  have hrr := shr_room2 hg2 hj0
  have hdl : (wordsOf (pm / 2 ^ j)).length ≤ 1024 := (words_len2 1024 _).2 (by have := (great_not _).1 hrr.1; omega)
  rw [show (-pe).toNat = j by omega]
  have hjs : IntKind.i64.wrap (-pe) = (j : Int) := by rw [IntKind.wrap_i64]; omega
  clear HL hodd hg2
  have h1l : (wordsOf 1).length ≤ 1 := (words_len 1 1).2 (by omega)
  have hul : (wordsOf (pm / 2 ^ j + 1)).length ≤ 1024 := (words_len2 1024 _).2 (by have := (great_not _).1 hrr.2; omega)
  have HK : Hid _ := fun a' c' w' q => qForm_calls ps a' (wordsOf (pm / 2 ^ j + 1)).length c' (wordsOf (pm / 2 ^ j + 1)) 0 w' q (by omega) (by omega)
  rw [val_words] at HK
  have HO1 : Hid _ := fun w' => nOf_calls 1 w' (by omega) (by omega)
  rw [show (1 : Int).toNat = 1 from rfl] at HO1
  have AD : Hid _ := fun a' a'' n' c' c'' w' g g' r => nAdd_calls a' a'' n' c' (wordsOf 1).length c'' (wordsOf (pm / 2 ^ j)) (wordsOf 1) w' g g' r (by omega)
  rw [val_words, val_words] at AD
  have HDL : Hid _ := hdl
  have hngt : ¬ 0 ≤ pe := by omega
  clear hj hdl hgt hrr h1l hul
  generalize formD ps (pm / 2 ^ j + 1) 0 = fp at *
  go_enter Tryd.func56, Tryd.ntmps56
  go_wp2_with fail
  refine Calls.mono HO.out ?_
  rintro r w1 ⟨_, rfl, ⟨a1, n1, c1, rfl, HN1, hO1⟩, hb1⟩
  simp only at *
  have hb01 := nbelow_trans hb0 hb1
  obtain ⟨m0, m1, m2, f0, f1, f2⟩ := zero_dy (r := w.heap.size + 1) hb1 (by simp)
  have hn1 : n1 ≤ 1024 := by have := HN1.out; omega
  have hsz : w.heap.size + 2 ≤ w1.heap.size := by have := hb1.size; simp at this; omega
  clear HO hb1 hb0
  have hbx := below_one w1 (.cells #[.bool ps, .slice a1 n1 c1, .int .i64 pe] 25)
  have x0 : (w1.alloc (.cells #[.bool ps, .slice a1 n1 c1, .int .i64 pe] 25)).cell? ⟨w1.heap.size, 0, none⟩ = some (.bool ps) := by go_simp
  have x1 : (w1.alloc (.cells #[.bool ps, .slice a1 n1 c1, .int .i64 pe] 25)).cell? ⟨w1.heap.size, 1, none⟩ = some (.slice a1 n1 c1) := by go_simp
  have x2 : (w1.alloc (.cells #[.bool ps, .slice a1 n1 c1, .int .i64 pe] 25)).cell? ⟨w1.heap.size, 2, none⟩ = some (.int .i64 pe) := by go_simp
  have hb02 := nbelow_trans hb01 hbx
  replace f0 := dcarry_frozen hbx m0 f0
  replace f1 := dcarry_frozen hbx m1 f1
  replace f2 := dcarry_frozen hbx m2 f2
  replace m0 := dcarry_cell hbx m0
  replace m1 := dcarry_cell hbx m1
  replace m2 := dcarry_cell hbx m2
  have hO2 := hO1.keep hbx
  have hs2 : w1.heap.size ≤ (w1.alloc (.cells #[.bool ps, .slice a1 n1 c1, .int .i64 pe] 25)).heap.size := hbx.size
  clear hbx hO1 hb01
  go_wp2_with fail
  refine Calls.mono (SR.out _ _ _ _ hO2.1 (by omega)) ?_
  rintro r w3 ⟨v3, rfl, hA3, hb3⟩
  replace f0 := dcarry_frozen hb3 m0 f0
  replace m0 := dcarry_cell hb3 m0
  replace x0 := dcarry_cell hb3 x0
  replace f1 := dcarry_frozen hb3 m1 f1
  replace m1 := dcarry_cell hb3 m1
  replace x1 := dcarry_cell hb3 x1
  replace f2 := dcarry_frozen hb3 m2 f2
  replace m2 := dcarry_cell hb3 m2
  replace x2 := dcarry_cell hb3 x2
  replace hb02 := nbelow_trans hb02 hb3
  replace hs2 := Nat.le_trans hs2 hb3.size
  obtain ⟨a3, n3, c3, rfl, HN3, hn3, hO3⟩ := hA3.open HDL.out
  have hup := HUP.out
  clear HUP
  subst hup
  clear hA3 hb3 hO2
  go_wp2_with fail
  refine Calls.mono (HO1.out _) ?_
  rintro r w4 ⟨a4, c4, rfl, hO4, hb4⟩
  have hI4 : IsW w4 a4 (wordsOf 1).length c4 (wordsOf 1) := hO4.isW (words_U _)
  have hI3 := hO3.1.keep hb4
  replace f0 := dcarry_frozen hb4 m0 f0
  replace m0 := dcarry_cell hb4 m0
  replace x0 := dcarry_cell hb4 x0
  replace f1 := dcarry_frozen hb4 m1 f1
  replace m1 := dcarry_cell hb4 m1
  replace x1 := dcarry_cell hb4 x1
  replace f2 := dcarry_frozen hb4 m2 f2
  replace m2 := dcarry_cell hb4 m2
  replace x2 := dcarry_cell hb4 x2
  replace hb02 := nbelow_trans hb02 hb4
  replace hs2 := Nat.le_trans hs2 hb4.size
  clear hb4 hO4 hO3
  go_wp2_with fail
  refine Calls.mono (AD.out _ _ _ _ _ _ hI3 hI4 (by omega)) ?_
  rintro r w5 ⟨a5, c5, rfl, hO5, hb5⟩
  have hI5 : IsW w5 a5 (wordsOf (pm / 2 ^ j + 1)).length c5 (wordsOf (pm / 2 ^ j + 1)) := hO5.isW (words_U _)
  replace f0 := dcarry_frozen hb5 m0 f0
  replace m0 := dcarry_cell hb5 m0
  replace x0 := dcarry_cell hb5 x0
  replace f1 := dcarry_frozen hb5 m1 f1
  replace m1 := dcarry_cell hb5 m1
  replace x1 := dcarry_cell hb5 x1
  replace f2 := dcarry_frozen hb5 m2 f2
  replace m2 := dcarry_cell hb5 m2
  replace x2 := dcarry_cell hb5 x2
  replace hb02 := nbelow_trans hb02 hb5
  replace hs2 := Nat.le_trans hs2 hb5.size
  clear hb5 hO5 hI3 hI4
  go_wp2_with fail
  refine Calls.mono (HK.out _ _ _ hI5) ?_
  rintro r w9 ⟨_, rfl, ⟨a9, n9, c9, rfl, HN9, hO9⟩, hb9⟩
  have hO9' : OwnW (w.heap.size + 2) w9 a9 n9 c9 (wordsOf fp.2.1) := hO9.low (by omega)
  replace f0 := dcarry_frozen hb9 m0 f0
  replace m0 := dcarry_cell hb9 m0
  replace x0 := dcarry_cell hb9 x0
  replace f1 := dcarry_frozen hb9 m1 f1
  replace m1 := dcarry_cell hb9 m1
  replace x1 := dcarry_cell hb9 x1
  replace f2 := dcarry_frozen hb9 m2 f2
  replace m2 := dcarry_cell hb9 m2
  replace x2 := dcarry_cell hb9 x2
  replace hb02 := nbelow_trans hb02 hb9
  replace hs2 := Nat.le_trans hs2 hb9.size
  clear hb9 hO9
  go_wp2_with fail
  refine bodyPost_ret (v := dyV fp.1 a9 n9 c9 fp.2.2) (by simp [results, Tryd.results56, go_sem, m0, m1, m2]) rfl ⟨_, rfl, ⟨a9, n9, c9, rfl, HN9, ?_⟩, ?_⟩
  · exact (((hO9'.far _ _ (by simp; try omega)).far _ _ (by simp; try omega)).far _ _ (by simp; try omega)).low (by simp; try omega)
  · exact ((hb02.setCell (by show w.heap.size ≤ w.heap.size + 1; omega) _).setCell (by show w.heap.size ≤ w.heap.size + 1; omega) _).setCell (by show w.heap.size ≤ w.heap.size + 1; omega) _
theorem qwhole_calls (s : Bool) (a : Option Addr) (len cap : Nat) (xs : List Int) (e : Int) (w : World) (h : IsW w a len cap xs) (hm : len ≤ 17592186044000) (hr : rightB (val xs) e = true) :
    Calls Tryd.prog 56 #[dyV s a len cap e] w fun r w' => ∃ v', r = .returned v' ∧ DyQ w.heap.size w' v' (wholeD (formD s (val xs) e)) ∧ Below w.heap.size w w' := by
  unfold wholeD
  by_cases hle : 0 ≤ (formD s (val xs) e).2.2
  · rw [if_pos hle]
    exact qwhole_same s a len cap xs e w h hm hr hle
  · rw [if_neg hle]
    have h0 : val xs ≠ 0 := fun q => by
      rw [q, form_zero] at hle
      exact hle (by decide)
    have hodd : (formD s (val xs) e).2.1 % 2 = 1 := by rw [form_pos s h0]; exact (odd_part h0).1
    cases hup : (formD s (val xs) e).1 with
    | false =>
      have := qwhole_less s a len cap xs e w h hm hr hodd (by omega) hup
      rw [hup] at this
      rw [if_neg (by decide), Nat.add_zero]
      exact this
    | true =>
      have := qwhole_more s a len cap xs e w h hm hr hodd (by omega) hup
      rw [hup] at this
      rw [if_pos rfl]
      exact this

end

section
open Go.RowKit

theorem whole_fit {x : Bool × Nat × Int} (hg : greatB x.2.1 = false) : greatB (wholeD x).2.1 = false := by
  unfold wholeD
  by_cases h : 0 ≤ x.2.2
  · rw [if_pos h]; exact hg
  · rw [if_neg h]
    have hrr := shr_room2 hg (show 0 < (-x.2.2).toNat by omega)
    refine great_mono (form_amount_le _ _ _) ?_
    split
    · exact hrr.2
    · exact hrr.1
theorem whole_can {x : Bool × Nat × Int} (h : CanD x) : CanD (wholeD x) := by
  unfold wholeD
  split
  · exact h
  · exact form_can _ _ _
theorem whole_exp {x : Bool × Nat × Int} (hg : greatB x.2.1 = false) (hx : x.2.2 ≤ 100000000) : -100000000 ≤ (wholeD x).2.2 ∧ (wholeD x).2.2 ≤ 100000000 := by
  unfold wholeD
  by_cases h : 0 ≤ x.2.2
  · rw [if_pos h]; omega
  · rw [if_neg h]
    have hrr := shr_room2 hg (show 0 < (-x.2.2).toNat by omega)
    have hk : greatB (x.2.1 / 2 ^ (-x.2.2).toNat + (if x.1 = true then 1 else 0)) = false := by
      split
      · exact hrr.2
      · exact hrr.1
    revert hk
    generalize x.2.1 / 2 ^ (-x.2.2).toNat + (if x.1 = true then 1 else 0) = m
    intro hk
    by_cases h0 : m = 0
    · rw [h0, form_zero]; exact ⟨by decide, by decide⟩
    · rw [form_pos x.1 h0]
      have := tz_le_blen m
      have := (great_not m).1 hk
      show _ ≤ (0 : Int) + (tz m : Int) ∧ (0 : Int) + (tz m : Int) ≤ _
      omega
theorem negD_can {x : Bool × Nat × Int} (h : CanD x) : CanD (negD x) := by
  rcases h with h | h
  · left; rw [h]; rfl
  · right; exact h
theorem NumR.at {B : Nat} {w : World} {v : Value} {p : Bool × Nat × Int} (h : NumR B w v p) (hg : greatB p.2.1 = false) : NumAt B w v p := by
  rcases h with ⟨_, h⟩ | ⟨h, _⟩
  · exact h
  · rw [hg] at h; cases h

set_option maxRecDepth 100000 in
set_option maxHeartbeats 2000000 in
theorem whole_same (B : Nat) (sx : Bool) (ax : Option Addr) (nx cx : Nat) (mx : Nat) (ex : Int) (w : World) (hIx : OwnW B w ax nx cx (wordsOf mx)) (HNx : Hid (nx = (wordsOf mx).length)) (HZx : Hid (nx = 0 → ax = none ∧ cx = 0)) (hnx : nx ≤ 1024) (HGX : Hid (greatB mx = false)) (hle : 0 ≤ ex) :
    Calls Tryd.prog 54 #[numV sx ax nx cx ex false] w fun r w' => ∃ v, r = .returned v ∧ NumR B w' v (sx, mx, ex) ∧ Below w.heap.size w w' := by
  go_enter Tryd.func54, Tryd.ntmps54
  go_wp2_with fail
  refine bodyPost_ret (v := numV sx ax nx cx ex false) (by simp [results, Tryd.results54, go_sem]) rfl ⟨_, rfl, Or.inl ⟨HGX.out, ax, nx, cx, rfl, HNx, HZx, hnx, hIx.keep (by repeat (first | exact Below.refl _ _ | refine Below.alloc ?_ (by simp; try omega) _ | refine Below.setCell ?_ (by simp; try omega) _))⟩, by repeat (first | exact Below.refl _ _ | refine Below.alloc ?_ (by simp; try omega) _ | refine Below.setCell ?_ (by simp; try omega) _)⟩

set_option maxRecDepth 100000 in
set_option maxHeartbeats 2000000 in
theorem whole_less (B : Nat) (sx : Bool) (ax : Option Addr) (nx cx : Nat) (mx : Nat) (ex : Int) (w : World) (hIx : OwnW B w ax nx cx (wordsOf mx)) (hnx : nx ≤ 1024) (hgx : greatB mx = false) (hex : -65536 ≤ ex) (hlt : ex < 0) (hT : Tab w) (hB : B ≤ w.heap.size) (u : Nat) (hu : mx / 2 ^ (-ex).toNat + (if sx = true then 1 else 0) = u) :
    Calls Tryd.prog 54 #[numV sx ax nx cx ex false] w fun r w' => ∃ v, r = .returned v ∧ NumR B w' v (formD sx u 0) ∧ Below w.heap.size w w' := by
  obtain ⟨j, hj⟩ : ∃ j : Nat, ex = -(j : Int) := ⟨(-ex).toNat, by omega⟩
  have HU : Hid (formD sx (mx / 2 ^ j + (if sx = true then 1 else 0)) (ex + (j : Int)) = formD sx u 0) := by
    rw [Hid, ← hu, show (-ex).toNat = j by omega, show ex + (j : Int) = 0 by omega]
  have WC : Hid (∀ W, Below w.heap.size w W → _) := fun W hW => without_calls sx ax nx cx mx ex W (hIx.1.keep hW) hnx hgx (by omega) (hT.kept hW) j (by omega) (by omega) sx
  have hjs : IntKind.i64.wrap (-ex) = (j : Int) := by rw [IntKind.wrap_i64]; omega
  have hnl : ¬ 0 ≤ ex := by omega
  clear hu hgx hT hj
  go_enter Tryd.func54, Tryd.ntmps54
  go_wp2_with fail
  have hz_0 : Below ((w.alloc (.cells #[.bool sx, .slice ax nx cx, .int .i64 ex, .bool false] 47)).alloc (.cells #[.bool false, .slice none 0 0, .int .i64 0, .bool false] 47)).heap.size ((w.alloc (.cells #[.bool sx, .slice ax nx cx, .int .i64 ex, .bool false] 47)).alloc (.cells #[.bool false, .slice none 0 0, .int .i64 0, .bool false] 47)) ((w.alloc (.cells #[.bool sx, .slice ax nx cx, .int .i64 ex, .bool false] 47)).alloc (.cells #[.bool false, .slice none 0 0, .int .i64 0, .bool false] 47)) := Below.refl _ _
  have hw_0 : Below w.heap.size w ((w.alloc (.cells #[.bool sx, .slice ax nx cx, .int .i64 ex, .bool false] 47)).alloc (.cells #[.bool false, .slice none 0 0, .int .i64 0, .bool false] 47)) := by repeat (first | exact Below.refl _ _ | refine Below.alloc ?_ (by simp; try omega) _)
  refine Calls.mono (WC.out _ hw_0) ?_
  rintro r w_2 ⟨v, rfl, hN, hb_2⟩
  have hz_2 := nbelow_trans hz_0 hb_2
  have hw_2 := nbelow_trans hw_0 hb_2
  clear WC hb_2 hz_0 hw_0
  rw [HU.out] at hN
  rcases hN with ⟨hg, ao, nn, cc, rfl, HN, HZ, hnn, hO⟩ | ⟨hg, rfl⟩
  · obtain ⟨m0, m1, m2, m3, f0, f1, f2, f3⟩ := zero_num (w := (w.alloc (.cells #[.bool sx, .slice ax nx cx, .int .i64 ex, .bool false] 47))) (r := w.heap.size + 1) hz_2 (by simp)
    go_wp2_with fail
    refine bodyPost_ret (v := numV (formD sx u 0).1 ao nn cc (formD sx u 0).2.2 false) (by simp [results, Tryd.results54, go_sem, m0, m1, m2, m3]) rfl ?_
    exact ⟨_, rfl, Or.inl ⟨hg, ao, nn, cc, rfl, HN, HZ, hnn, ((((hO.far _ _ (by show w.heap.size + 1 < _; simp)).far _ _ (by show w.heap.size + 1 < _; simp)).far _ _ (by show w.heap.size + 1 < _; simp)).far _ _ (by show w.heap.size + 1 < _; simp)).low (by simp; omega)⟩, ((((hw_2.setCell (by show w.heap.size ≤ w.heap.size + 1; omega) _).setCell (by show w.heap.size ≤ w.heap.size + 1; omega) _).setCell (by show w.heap.size ≤ w.heap.size + 1; omega) _).setCell (by show w.heap.size ≤ w.heap.size + 1; omega) _)⟩
  · obtain ⟨m0, m1, m2, m3, f0, f1, f2, f3⟩ := zero_num (w := (w.alloc (.cells #[.bool sx, .slice ax nx cx, .int .i64 ex, .bool false] 47))) (r := w.heap.size + 1) hz_2 (by simp)
    go_wp2_with fail
    refine bodyPost_ret (v := numV false none 0 0 0 true) (by simp [results, Tryd.results54, go_sem, m0, m1, m2, m3]) rfl ?_
    exact ⟨_, rfl, Or.inr ⟨hg, rfl⟩, ((((hw_2.setCell (by show w.heap.size ≤ w.heap.size + 1; omega) _).setCell (by show w.heap.size ≤ w.heap.size + 1; omega) _).setCell (by show w.heap.size ≤ w.heap.size + 1; omega) _).setCell (by show w.heap.size ≤ w.heap.size + 1; omega) _)⟩

theorem whole_calls (B : Nat) (v : Value) (x : Bool × Nat × Int) (w : World) (hB : B ≤ w.heap.size) (hX : NumAt B w v x) (gx : greatB x.2.1 = false) (ex : -65536 ≤ x.2.2) (hT : Tab w) :
    Calls Tryd.prog 54 #[v] w fun r w' => ∃ v, r = .returned v ∧ NumR B w' v (wholeD x) ∧ Below w.heap.size w w' := by
  obtain ⟨ax, nx, kx, rfl, HNx, HZx, hnx, hOx⟩ := hX
  unfold wholeD
  by_cases h : 0 ≤ x.2.2
  · rw [if_pos h]
    exact whole_same B x.1 ax nx kx x.2.1 x.2.2 w hOx HNx HZx hnx gx h
  · rw [if_neg h]
    exact whole_less B x.1 ax nx kx x.2.1 x.2.2 w hOx hnx gx ex (by omega) hT hB _ rfl
theorem negated_at (B : Nat) (v : Value) (x : Bool × Nat × Int) (w : World) (hX : NumAt B w v x) :
    Calls Tryd.prog 73 #[v] w fun r w' => ∃ v, r = .returned v ∧ NumAt B w' v (negD x) ∧ Below w.heap.size w w' := by
  obtain ⟨ax, nx, kx, rfl, HNx, HZx, hnx, hOx⟩ := hX
  refine (negated_calls x.1 ax nx kx x.2.2 false w).mono ?_
  rintro r w' ⟨rfl, hb⟩
  rw [neg_sign HNx.out]
  exact ⟨_, rfl, ⟨ax, nx, kx, rfl, HNx, HZx, hnx, hOx.keep hb⟩, hb⟩
theorem numAt_form {B : Nat} {w : World} {v : Value} {p : Bool × Nat × Int} (h : NumAt B w v p) : ∃ (s : Bool) (a : Option Addr) (n c : Nat) (e : Int), v = numV s a n c e false ∧ Hid (NumAt B w (numV s a n c e false) p) := by
  obtain ⟨ao, n, c, rfl, h⟩ := h
  exact ⟨p.1, ao, n, c, p.2.2, rfl, ⟨ao, n, c, rfl, h⟩⟩
theorem NumAt.keep' {B : Nat} {w w' : World} {v : Value} {p : Bool × Nat × Int} (h : NumAt B w v p) (hb : Below w.heap.size w w') : NumAt B w' v p := by
  obtain ⟨ao, n, c, h0, h1, h2, h3, h4⟩ := h
  exact ⟨ao, n, c, h0, h1, h2, h3, h4.keep hb⟩

/-- What a number is more than its whole one. -/
def restD (x : Bool × Nat × Int) : Bool × Nat × Int := sumD x (negD (wholeD x))

theorem dplus_new (B : Nat) (vx vy : Value) (x y : Bool × Nat × Int) (w : World) (hX : NumAt B w vx x) (hY : NumAt B w vy y) (gx : greatB x.2.1 = false) (gy : greatB y.2.1 = false) (cx : CanD x) (cy : CanD y) (ex : -100000000 ≤ x.2.2 ∧ x.2.2 ≤ 100000000) (ey : -100000000 ≤ y.2.2 ∧ y.2.2 ≤ 100000000) (hT : Tab w) (h1 : x.2.1 ≠ 0) (h2 : y.2.1 ≠ 0) :
    Calls Tryd.prog 64 #[vx, vy] w fun r w' => ∃ v, r = .returned v ∧ NumR w.heap.size w' v (sumD x y) ∧ Below w.heap.size w w' := by
  rcases Int.lt_or_le x.2.2 y.2.2 with h3 | h3
  · have hsum : sumD x y = sumD y x := by
      unfold sumD
      rw [if_neg h1, if_neg h2, if_neg h2, if_neg h1, if_pos h3, if_neg (by omega)]
    rw [hsum]
    have HP : ∀ W, Below w.heap.size w W → _ := fun W hW => plus_nz vy vx B y x W (hY.keep hW) (hX.keep hW) gy gx cy cx ey ex (hT.kept hW) h2 h1 (Int.le_of_lt h3)
    obtain ⟨ax, nx, kx, rfl, HNx, HZx, hnx, hOx⟩ := hX
    obtain ⟨ay, ny, ky, rfl, HNy, HZy, hny, hOy⟩ := hY
    exact plus_swap w.heap.size x.1 ax nx kx x.2.2 y.1 ay ny ky y.2.2 _ w (Nat.le_refl _) (fun q => h1 ((words_nil _).1 (List.length_eq_zero_iff.1 (by rw [← HNx.out]; exact q)))) (fun q => h2 ((words_nil _).1 (List.length_eq_zero_iff.1 (by rw [← HNy.out]; exact q)))) h3 HP
  · exact plus_nz vx vy B x y w hX hY gx gy cx cy ex ey hT h1 h2 h3
theorem zx_calls (sx : Bool) (ax : Option Addr) (nx cx : Nat) (ex : Int) (vy : Value) (B : Nat) (y : Bool × Nat × Int) (w : World) (hY : NumAt B w vy y) (hy : y.2.1 = 0) (hy2 : y = (false, 0, 0)) (hz : nx = 0) :
    Calls Tryd.prog 64 #[numV sx ax nx cx ex false, vy] w fun r w' => r = .returned (numV false none 0 0 0 false) ∧ Below w.heap.size w w' := by
  obtain ⟨ay, ny, ky, rfl, HNy, HZy, hny, hOy⟩ := hY
  have h0 : ny = 0 := by rw [HNy.out, hy, words_zero]; rfl
  obtain ⟨rfl, rfl⟩ := HZy.out h0
  subst hy2
  refine (plus_zx 0 sx ax nx cx ex false none ny 0 0 0 w (by rw [h0, words_zero]; exact ownW_nil _ _) (by rw [h0, words_zero]; rfl) (fun _ => ⟨rfl, rfl⟩) hny great_zero hz).mono ?_
  rintro r w' ⟨v, rfl, ⟨_, a, n, c, rfl, HN, HZ, _, _⟩ | ⟨h, _⟩, hb⟩
  · have h1 : n = 0 := by rw [HN.out, words_zero]; rfl
    obtain ⟨rfl, rfl⟩ := HZ.out h1
    subst h1
    exact ⟨rfl, hb⟩
  · rw [great_zero] at h; cases h
theorem zy_calls (B : Nat) (sx : Bool) (ax : Option Addr) (nx cx : Nat) (ex : Int) (x y : Bool × Nat × Int) (vy : Value) (w : World) (hX : NumAt B w (numV sx ax nx cx ex false) x) (hx0 : x.2.1 ≠ 0) (hY : NumAt B w vy y) (hy : y.2.1 = 0) :
    Calls Tryd.prog 64 #[numV sx ax nx cx ex false, vy] w fun r w' => r = .returned (numV sx ax nx cx ex false) ∧ Below w.heap.size w w' := by
  obtain ⟨ay, ny, ky, rfl, HNy, HZy, hny, hOy⟩ := hY
  obtain ⟨ax', nx', kx', hv, HNx, HZx, hnx, hOx⟩ := hX
  have hnz : nx ≠ 0 := by
    have : nx = nx' := by unfold numV at hv; injection hv with hv; simp at hv; exact hv.2.1.2.1
    rw [this, HNx.out]
    exact fun q => hx0 ((words_nil _).1 (List.length_eq_zero_iff.1 q))
  have h0 : ny = 0 := by rw [HNy.out, hy, words_zero]; rfl
  have hnx0 : ((nx : Int) == 0) = false := by simp; omega
  clear hv HNx HZx hOx hnz HNy HZy hOy
  subst h0
  go_enter Tryd.func64, Tryd.ntmps64
  go_wp2_with fail
  refine Calls.mono (zero_calls sx ax nx cx ex false _) ?_
  rintro r w1 ⟨rfl, rfl⟩
  go_wp2_with fail
  refine Calls.mono (zero_calls y.1 ay 0 ky y.2.2 false _) ?_
  rintro r w1 ⟨rfl, rfl⟩
  go_wp2_with fail
  refine bodyPost_ret (v := numV sx ax nx cx ex false) (by simp [results, Tryd.results64, go_sem]) rfl ⟨rfl, by repeat (first | exact Below.refl _ _ | refine Below.alloc ?_ (by simp; try omega) _)⟩

def set4 (W : World) (r : Nat) (u0 u1 u2 u3 : Value) : World := (((W.setCell ⟨r, 0, none⟩ u0).setCell ⟨r, 1, none⟩ u1).setCell ⟨r, 2, none⟩ u2).setCell ⟨r, 3, none⟩ u3
/-- A number that stays, whatever is written into a block. -/
def NumT (r : Nat) (W : World) (v : Value) (p : Bool × Nat × Int) : Prop := ∃ (s : Bool) (a : Option Addr) (n c : Nat) (e : Int) (g : Bool), v = numV s a n c e g ∧ Hid (∀ u0 u1 u2 u3, NumR 0 (set4 W r u0 u1 u2 u3) (numV s a n c e g) p)
theorem rest_plus (s : Bool) (a : Option Addr) (n c : Nat) (e : Int) (x : Bool × Nat × Int) (w W : World) (v : Value) (hX : NumAt 0 w (numV s a n c e false) x) (gx : greatB x.2.1 = false) (cx : CanD x) (hx : -65536 ≤ x.2.2 ∧ x.2.2 ≤ 100000000) (hT : Tab w) (hW : Below w.heap.size w W) (hs : w.heap.size + 2 ≤ W.heap.size) (hN : NumAt 0 W v (negD (wholeD x))) :
    Calls Tryd.prog 64 #[numV s a n c e false, v] W fun r w' => ∃ v, r = .returned v ∧ NumT (w.heap.size + 1) w' v (restD x) ∧ Below W.heap.size W w' := by
  by_cases h1 : x.2.1 = 0
  · have hx0 : x = (false, 0, 0) := by
      rcases cx with q | q
      · exact q
      · rw [h1] at q; exact absurd q (by decide)
    have hn : n = 0 := by
      obtain ⟨a', n', k', hv, HNx, HZx, hnx, hOx⟩ := hX
      have : n = n' := by unfold numV at hv; injection hv with hv; simp at hv; exact hv.2.1.2.1
      rw [this, HNx.out, h1, words_zero]; rfl
    have e1 : negD (wholeD x) = (false, 0, 0) := by rw [hx0]; rfl
    have e2 : restD x = (false, 0, 0) := by unfold restD sumD; rw [if_pos h1, e1]
    rw [e1] at hN
    rw [e2]
    refine (zx_calls s a n c e v 0 (false, 0, 0) W hN rfl rfl hn).mono ?_
    rintro r w' ⟨rfl, hb⟩
    exact ⟨_, rfl, ⟨_, _, _, _, _, _, rfl, fun _ _ _ _ => Or.inl ⟨great_zero, numAt_zero _ _⟩⟩, hb⟩
  · by_cases h2 : (negD (wholeD x)).2.1 = 0
    · have e2 : restD x = x := by unfold restD sumD; rw [if_neg h1, if_pos h2]
      rw [e2]
      refine (zy_calls 0 s a n c e x _ v W (hX.keep' hW) h1 hN h2).mono ?_
      rintro r w' ⟨rfl, hb⟩
      have hb2 := nbelow_trans hW hb
      refine ⟨_, rfl, ⟨_, _, _, _, _, _, rfl, fun u0 u1 u2 u3 => Or.inl ⟨gx, hX.keep' ?_⟩⟩, hb⟩
      unfold set4
      exact (((hb2.setCell (by show w.heap.size ≤ w.heap.size + 1; omega) _).setCell (by show w.heap.size ≤ w.heap.size + 1; omega) _).setCell (by show w.heap.size ≤ w.heap.size + 1; omega) _).setCell (by show w.heap.size ≤ w.heap.size + 1; omega) _
    · refine (dplus_new 0 _ v x (negD (wholeD x)) W (hX.keep' hW) hN gx (whole_fit gx) cx (negD_can (whole_can cx)) ⟨by omega, hx.2⟩ (whole_exp gx hx.2) (hT.kept hW) h1 h2).mono ?_
      rintro r w' ⟨v', rfl, hN', hb⟩
      obtain ⟨s5, a5, n5, c5, e5, g5, rfl, HNR⟩ := numR_form hN'
      refine ⟨_, rfl, ⟨_, _, _, _, _, _, rfl, fun u0 u1 u2 u3 => ?_⟩, hb⟩
      unfold set4
      exact ((((HNR.out.far _ _ (by show w.heap.size + 1 < _; omega)).far _ _ (by show w.heap.size + 1 < _; omega)).far _ _ (by show w.heap.size + 1 < _; omega)).far _ _ (by show w.heap.size + 1 < _; omega)).low (Nat.zero_le _)

attribute [local go_sem ↓] Go.wp_at_zero Go.wp_at_succ

set_option maxRecDepth 100000 in
set_option maxHeartbeats 4000000 in
theorem rest_calls (s : Bool) (a : Option Addr) (n c : Nat) (e : Int) (x : Bool × Nat × Int) (w : World) (hX : NumAt 0 w (numV s a n c e false) x) (gx : greatB x.2.1 = false) (cx : CanD x) (hx : -65536 ≤ x.2.2 ∧ x.2.2 ≤ 100000000) (hT : Tab w) :
    Calls Tryd.prog 55 #[numV s a n c e false] w fun r w' => ∃ v, r = .returned v ∧ NumR 0 w' v (restD x) ∧ Below w.heap.size w w' := by
  have hb0 : Below w.heap.size w ((w.alloc (.cells #[.bool s, .slice a n c, .int .i64 e, .bool false] 47)).alloc (.cells #[.bool false, .slice none 0 0, .int .i64 0, .bool false] 47)) := by repeat (first | exact Below.refl _ _ | refine Below.alloc ?_ (by simp; try omega) _)
  have HW : Hid (∀ W, Below w.heap.size w W → Calls Tryd.prog 54 #[numV s a n c e false] W fun r w' => ∃ v, r = .returned v ∧ NumAt 0 w' v (wholeD x) ∧ Below W.heap.size W w') := by
    intro W hW
    refine (whole_calls 0 _ x W (Nat.zero_le _) (hX.keep' hW) gx hx.1 (hT.kept hW)).mono ?_
    rintro r w' ⟨v, rfl, h1, h2⟩
    exact ⟨v, rfl, h1.at (whole_fit gx), h2⟩
  have HN : Hid _ := fun v W (q : NumAt 0 W v (wholeD x)) => negated_at 0 v (wholeD x) W q
  have HP : Hid _ := fun W v hW hs hN => rest_plus s a n c e x w W v hX gx cx hx hT hW hs hN
  clear hX gx cx hx hT
  have k0 : ((w.alloc (.cells #[.bool s, .slice a n c, .int .i64 e, .bool false] 47)).alloc (.cells #[.bool false, .slice none 0 0, .int .i64 0, .bool false] 47)).cell? ⟨w.heap.size, 0, none⟩ = some (.bool s) := by go_simp
  have k1 : ((w.alloc (.cells #[.bool s, .slice a n c, .int .i64 e, .bool false] 47)).alloc (.cells #[.bool false, .slice none 0 0, .int .i64 0, .bool false] 47)).cell? ⟨w.heap.size, 1, none⟩ = some (.slice a n c) := by go_simp
  have k2 : ((w.alloc (.cells #[.bool s, .slice a n c, .int .i64 e, .bool false] 47)).alloc (.cells #[.bool false, .slice none 0 0, .int .i64 0, .bool false] 47)).cell? ⟨w.heap.size, 2, none⟩ = some (.int .i64 e) := by go_simp
  have k3 : ((w.alloc (.cells #[.bool s, .slice a n c, .int .i64 e, .bool false] 47)).alloc (.cells #[.bool false, .slice none 0 0, .int .i64 0, .bool false] 47)).cell? ⟨w.heap.size, 3, none⟩ = some (.bool false) := by go_simp
  have bz0 : Below ((w.alloc (.cells #[.bool s, .slice a n c, .int .i64 e, .bool false] 47)).alloc (.cells #[.bool false, .slice none 0 0, .int .i64 0, .bool false] 47)).heap.size ((w.alloc (.cells #[.bool s, .slice a n c, .int .i64 e, .bool false] 47)).alloc (.cells #[.bool false, .slice none 0 0, .int .i64 0, .bool false] 47)) ((w.alloc (.cells #[.bool s, .slice a n c, .int .i64 e, .bool false] 47)).alloc (.cells #[.bool false, .slice none 0 0, .int .i64 0, .bool false] 47)).drew := (Below.refl _ _).drew
  go_enter Tryd.func55, Tryd.ntmps55
  go_wp2_with fail
  go_region_with (first
      | (go_at_call 54; refine (HW.out _ (by first | exact hb0.drew | exact hb0)).mono ?_; rintro r wA ⟨vA, rfl, hA, bA⟩; obtain ⟨sA, aA, nA, cA, eA, rfl, HA⟩ := numAt_form hA; have bzA := nbelow_trans bz0 bA; have bwA := nbelow_trans hb0.drew bA; have qA0 := dcarry_cell bzA k0; have qA1 := dcarry_cell bzA k1; have qA2 := dcarry_cell bzA k2; have qA3 := dcarry_cell bzA k3; clear hA)
      | (go_at_call 73; refine (HN.out _ _ HA.out).mono ?_; rintro r wB ⟨vB, rfl, hB, bB⟩; obtain ⟨sB, aB, nB, cB, eB, rfl, HB⟩ := numAt_form hB; have bzB := nbelow_trans bzA bB; have bwB := nbelow_trans bwA bB; have qB0 := dcarry_cell bB qA0; have qB1 := dcarry_cell bB qA1; have qB2 := dcarry_cell bB qA2; have qB3 := dcarry_cell bB qA3; clear hB)
      | (go_at_call 64; refine (HP.out _ _ bwB (by have := bzB.size; simp at this; omega) HB.out).mono ?_; rintro r wP ⟨vP, rfl, hNP, bP⟩; obtain ⟨s5, a5, n5, c5, e5, g5, rfl, HNR⟩ := hNP; have hbwP := nbelow_trans bwB bP; have hbzP := nbelow_trans bzB bP; obtain ⟨m0, m1, m2, m3, f0, f1, f2, f3⟩ := zero_num (w := w.alloc (.cells #[.bool s, .slice a n c, .int .i64 e, .bool false] 47)) (r := w.heap.size + 1) hbzP (by simp)))
  all_goals
    go_wp2_with fail
    refine bodyPost_ret (v := numV s5 a5 n5 c5 e5 g5) (by simp [results, Tryd.results55, go_sem, m0, m1, m2, m3]) rfl ⟨_, rfl, HNR.out _ _ _ _, ((((hbwP.setCell (by show w.heap.size ≤ w.heap.size + 1; omega) _).setCell (by show w.heap.size ≤ w.heap.size + 1; omega) _).setCell (by show w.heap.size ≤ w.heap.size + 1; omega) _).setCell (by show w.heap.size ≤ w.heap.size + 1; omega) _)⟩

end

end Go.Proofs.YtjcpmomngjogbaaDoor

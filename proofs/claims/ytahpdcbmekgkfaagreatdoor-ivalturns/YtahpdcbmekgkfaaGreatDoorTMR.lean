/- The document's dyadic numbers: Add, Sub, Mul; the program's in the same words. The document's dyadic numbers: Trim. -/
import Derived.Deep.LoopGhost
import Derived.Test.YtahpdcbmekgkfaaGreatDoorRD13
import Derived.Test.YtahpdcbmekgkfaaGreatDoorTMJ
import Derived.Test.YtahpdcbmekgkfaaGreatDoorNMX
import Derived.Test.YtahpdcbmekgkfaaGreatDoorTMH
import Derived.Test.YtahpdcbmekgkfaaGreatDoorTMQ
import Derived.Test.YtahpdcbmekgkfaaGreatDoorAL
import Derived.Test.YtahpdcbmekgkfaaGreatDoorCR
import Derived.Test.YtahpdcbmekgkfaaGreatDoorTMF

namespace Go.Proofs.YtahpdcbmekgkfaaGreatDoor
open Go.RowKit
theorem form_turn (t : Bool) (m : Nat) (f : Int) : formD (!t) m f = negD (formD t m f) := by
 by_cases h0 : m = 0
 ·rw [h0, form_zero, form_zero]; rfl
 ·rw [form_pos _ h0, form_pos _ h0]
  have h1 := (odd_part h0).1
  have h2 : ¬ m / 2 ^ tz m = 0 := fun q => by rw [q] at h1; exact absurd h1 (by decide)
  unfold negD
  simp [h2]
theorem sumlen (x y : Bool × Nat × Int) (hx : blen x.2.1 ≤ 10000000) (hy : blen y.2.1 ≤ 10000000) (ex : -20000000 ≤ x.2.2 ∧ x.2.2 ≤ 20000000) (ey : -20000000 ≤ y.2.2 ∧ y.2.2 ≤ 20000000) : (wO (sumD x y).2.1).length ≤ 2000001 := by
 have kx : (wO x.2.1).length ≤ 200000 := (words_len2 _ _).2 (by omega)
 have ky : (wO y.2.1).length ≤ 200000 := (words_len2 _ _).2 (by omega)
 by_cases h1 : x.2.1 = 0
 ·have : sumD x y = y := by unfold sumD; rw [if_pos h1]
  rw [this]; omega
 ·by_cases h2 : y.2.1 = 0
  ·have : sumD x y = x := by unfold sumD; rw [if_neg h1, if_pos h2]
   rw [this]; omega
  ·obtain ⟨ee, hee⟩ : ∃ ee : Int, min x.2.2 y.2.2 = ee := ⟨_, rfl⟩
   obtain ⟨i, hi⟩ : ∃ i : Nat, x.2.2 - ee = (i : Int) := ⟨(x.2.2 - ee).toNat, by omega⟩
   obtain ⟨j, hj⟩ : ∃ j : Nat, y.2.2 - ee = (j : Int) := ⟨(y.2.2 - ee).toNat, by omega⟩
   have hib : i ≤ 50000000 := by omega
   have hjb : j ≤ 50000000 := by omega
   have hMb : blen (x.2.1 * 2 ^ i) ≤ 60000000 := by rw [blen_mul _ _ h1]; omega
   have hNb : blen (y.2.1 * 2 ^ j) ≤ 60000000 := by rw [blen_mul _ _ h2]; omega
   have hMl : (wO (x.2.1 * 2 ^ i)).length ≤ 1000000 := (words_len2 _ _).2 (by omega)
   have hNl : (wO (y.2.1 * 2 ^ j)).length ≤ 1000000 := (words_len2 _ _).2 (by omega)
   have key : (sumD x y).2.1 ≤ x.2.1 * 2 ^ i + y.2.1 * 2 ^ j := by
    rw [plus_q x y h1 h2 ee hee i hi j hj]
    split
    ·exact form_amount_le _ _ _
    ·split
     ·exact Nat.le_trans (form_amount_le _ _ _) (by omega)
     ·exact Nat.le_trans (form_amount_le _ _ _) (by omega)
   have h3 := words_len_mono key
   have h4 := sum_wordsQ (x.2.1 * 2 ^ i) (y.2.1 * 2 ^ j)
   omega
set_option maxHeartbeats 1000000
set_option maxRecDepth 100000
theorem qtrim_same (s : Bool) (a : Option Addr) (len cap : Nat) (xs : List Int) (e : Int) (pp : Int) (up : Bool) (w : World) (h : IsW w a len cap xs) (hm : len ≤ 17592186044000) (hr : rightB (val xs) e = true) (hp : 1 ≤ pp ∧ pp ≤ 9223372036854775807) (hle : (blen (formD s (val xs) e).2.1 : Int) ≤ pp) :
  Calls Tryz.prog 98 #[dyV s a len cap e, .int .i64 pp, .bool up] w fun r w' => ∃ v', r = .returned v' ∧ DyQ w.heap.size w' v' ((formD s (val xs) e)) ∧ Below w.heap.size w w' := by
 have hb0 : Below w.heap.size w ((w.alloc (.cells #[.bool s, .slice a len cap, .int .i64 e] 25)).alloc (.cells #[.bool false, .slice none 0 0, .int .i64 0] 25)) := nT (below_one _ _) (below_one _ _)
 have HO : Hid _ := qOne_calls s a len cap xs e _ (h.keep hb0) hm (by have := (rightB_yes hr).2; omega)
 have hg2 : greatB (formD s (val xs) e).2.1 = false := great_mono (form_amount_le _ _ _) (rightB_yes hr).1
 have hpe : -100000000 ≤ (formD s (val xs) e).2.2 ∧ (formD s (val xs) e).2.2 ≤ 100000000 := by
  have h3 := (rightB_yes hr).2
  by_cases h0 : val xs = 0
  ·rw [h0, form_zero]; simp
  ·have h4 := tz_le_blen (val xs); have h5 := (great_not _).1 (rightB_yes hr).1; rw [form_pos s h0]; simp only; omega
 clear hr
 generalize formD s (val xs) e = p at *
 obtain ⟨ps, pm, pe⟩ := p
 simp only at *
 have hbl : blen pm ≤ 65536 := (great_not _).1 hg2
 have hwl : (wO pm).length ≤ 1024 := (words_len2 1024 pm).2 (by omega)
 obtain ⟨hp1, hp2⟩ := hp
 obtain ⟨he1, he2⟩ := hpe
 have LC : Hid _ := fun a' n' c' w' q r => nLen_calls a' n' c' (wO pm) w' q r
 rw [val_words] at LC
 generalize blen pm = bl at *
 go_enter Tryz.func98, Tryz.ntmps98
 go_wp2_with fail
 refine cM HO.out ?_
 rintro r w1 ⟨_, rfl, ⟨a1, n1, c1, rfl, HN1, hO1⟩, hb1⟩
 simp only at *
 have hb01 := nT hb0 hb1
 obtain ⟨m0, m1, m2, f0, f1, f2⟩ := zero_dy (r := w.heap.size + 1) hb1 (by simp)
 have hn1 : n1 ≤ 1024 := by have := HN1.out; omega
 have hsz : w.heap.size + 2 ≤ w1.heap.size := by have := hb1.size; simp at this; omega
 clear HO hb1 hb0
 go_wp2_with fail
 have hbx := below_one w1 (.cells #[.bool ps, .slice a1 n1 c1, .int .i64 pe] 25)
 refine cM (LC.out _ _ _ _ (hO1.1.keep hbx) (by omega)) ?_
 rintro r w2 ⟨rfl, hb2⟩
 have x0 : w2.cell? ⟨w1.heap.size, 0, none⟩ = some (.bool ps) := kC hb2 (by go_simp)
 have x1 : w2.cell? ⟨w1.heap.size, 1, none⟩ = some (.slice a1 n1 c1) := kC hb2 (by go_simp)
 have x2 : w2.cell? ⟨w1.heap.size, 2, none⟩ = some (.int .i64 pe) := kC hb2 (by go_simp)
 have hb12 := nT hbx hb2
 have hb02 := nT hb01 hb12
 revert m0 m1 m2 f0 f1 f2; refine zg3 hb12 ?_; intro m0 m1 m2 f0 f1 f2
 have hO2 := hO1.keep hb12
 have hs2 : w1.heap.size ≤ w2.heap.size := hb12.size
 clear hb2 hbx hb12 hO1 hb01
 go_wp2_with fail
 refine bodyPost_ret (v := dyV (ps, pm, pe).1 a1 n1 c1 (ps, pm, pe).2.2) (by simp [results, Tryz.results98, go_sem, m0, m1, m2]) rfl ⟨_, rfl, ⟨a1, n1, c1, rfl, HN1, ?_⟩, ?_⟩
 ·exact (((hO2.far _ _ (by simp; try omega)).far _ _ (by simp; try omega)).far _ _ (by simp; try omega)).low (by simp; try omega)
 ·exact ((hb02.setCell (le1 _) _).setCell (le1 _) _).setCell (le1 _) _
theorem qtrim_less (s : Bool) (a : Option Addr) (len cap : Nat) (xs : List Int) (e : Int) (pp : Int) (up : Bool) (w : World) (h : IsW w a len cap xs) (hm : len ≤ 17592186044000) (hr : rightB (val xs) e = true) (hp : 1 ≤ pp ∧ pp ≤ 9223372036854775807) (hodd : (formD s (val xs) e).2.1 % 2 = 1) (hgt : pp < (blen (formD s (val xs) e).2.1 : Int)) (hup : up = (formD s (val xs) e).1) :
  Calls Tryz.prog 98 #[dyV s a len cap e, .int .i64 pp, .bool up] w fun r w' => ∃ v', r = .returned v' ∧ DyQ w.heap.size w' v' (formD (formD s (val xs) e).1 ((formD s (val xs) e).2.1 / 2 ^ ((blen (formD s (val xs) e).2.1 : Int) - pp).toNat) ((formD s (val xs) e).2.2 + (((blen (formD s (val xs) e).2.1 : Int) - pp).toNat : Int))) ∧ Below w.heap.size w w' := by
 have hb0 : Below w.heap.size w ((w.alloc (.cells #[.bool s, .slice a len cap, .int .i64 e] 25)).alloc (.cells #[.bool false, .slice none 0 0, .int .i64 0] 25)) := nT (below_one _ _) (below_one _ _)
 have HO : Hid _ := qOne_calls s a len cap xs e _ (h.keep hb0) hm (by have := (rightB_yes hr).2; omega)
 have hg2 : greatB (formD s (val xs) e).2.1 = false := great_mono (form_amount_le _ _ _) (rightB_yes hr).1
 have hpe : -100000000 ≤ (formD s (val xs) e).2.2 ∧ (formD s (val xs) e).2.2 ≤ 100000000 := by
  have h3 := (rightB_yes hr).2
  by_cases h0 : val xs = 0
  ·rw [h0, form_zero]; simp
  ·have h4 := tz_le_blen (val xs); have h5 := (great_not _).1 (rightB_yes hr).1; rw [form_pos s h0]; simp only; omega
 clear hr
 generalize formD s (val xs) e = p at *
 obtain ⟨ps, pm, pe⟩ := p
 simp only at *
 have hbl : blen pm ≤ 65536 := (great_not _).1 hg2
 have hwl : (wO pm).length ≤ 1024 := (words_len2 1024 pm).2 (by omega)
 obtain ⟨hp1, hp2⟩ := hp
 obtain ⟨he1, he2⟩ := hpe
 obtain ⟨j, hj⟩ : ∃ j : Nat, (blen pm : Int) = pp + (j : Int) := ⟨((blen pm : Int) - pp).toNat, by omega⟩
 have hj0 : 0 < j := by omega
 have hjb : j ≤ 65536 := by omega
 have HL : Hid (lostB (val (wO pm)) j = true) := by
  rw [Hid, val_words]
  unfold lostB
  refine decide_eq_true ?_
  intro q
  obtain ⟨k, hk⟩ := Nat.dvd_of_mod_eq_zero q
  obtain ⟨i, rfl⟩ : ∃ i, j = i + 1 := ⟨j - 1, by omega⟩
  rw [Nat.pow_succ, Nat.mul_comm (2 ^ i) 2, Nat.mul_assoc] at hk
  omega
 have SR : Hid _ := fun a' n' c' w' q r => nShr_calls a' n' c' j (wO pm) w' q (by omega) r
 rw [HL.out, val_words] at SR
 have hrr := shr_room2 hg2 hj0
 have hdl : (wO (pm / 2 ^ j)).length ≤ 1024 := (words_len2 1024 _).2 (by have := (great_not _).1 hrr.1; omega)
 rw [show ((blen pm : Int) - pp).toNat = j by omega]
 have hjs : IntKind.i64.wrap ((blen pm : Int) - pp) = (j : Int) := by rw [IntKind.wrap_i64]; omega
 clear HL hrr hodd hg2
 have HK : Hid _ := fun a' n' c' w' q r => qForm_calls ps a' n' c' (wO (pm / 2 ^ j)) (pe + (j : Int)) w' q r (by omega)
 rw [val_words] at HK
 have hew : IntKind.i64.wrap (pe + (blen pm : Int)) = pe + (blen pm : Int) := by rw [IntKind.wrap_i64]; omega
 have hew2 : IntKind.i64.wrap (pe + (blen pm : Int) - pp) = pe + (j : Int) := by rw [IntKind.wrap_i64]; omega
 have HDL : Hid _ := hdl
 have hngt : ¬ (blen pm : Int) ≤ pp := by omega
 clear hj hdl hgt
 generalize formD ps (pm / 2 ^ j) (pe + (j : Int)) = fp at *
 have LC : Hid _ := fun a' n' c' w' q r => nLen_calls a' n' c' (wO pm) w' q r
 rw [val_words] at LC
 generalize blen pm = bl at *
 go_enter Tryz.func98, Tryz.ntmps98
 go_wp2_with fail
 refine cM HO.out ?_
 rintro r w1 ⟨_, rfl, ⟨a1, n1, c1, rfl, HN1, hO1⟩, hb1⟩
 simp only at *
 have hb01 := nT hb0 hb1
 obtain ⟨m0, m1, m2, f0, f1, f2⟩ := zero_dy (r := w.heap.size + 1) hb1 (by simp)
 have hn1 : n1 ≤ 1024 := by have := HN1.out; omega
 have hsz : w.heap.size + 2 ≤ w1.heap.size := by have := hb1.size; simp at this; omega
 clear HO hb1 hb0
 go_wp2_with fail
 have hbx := below_one w1 (.cells #[.bool ps, .slice a1 n1 c1, .int .i64 pe] 25)
 refine cM (LC.out _ _ _ _ (hO1.1.keep hbx) (by omega)) ?_
 rintro r w2 ⟨rfl, hb2⟩
 have x0 : w2.cell? ⟨w1.heap.size, 0, none⟩ = some (.bool ps) := kC hb2 (by go_simp)
 have x1 : w2.cell? ⟨w1.heap.size, 1, none⟩ = some (.slice a1 n1 c1) := kC hb2 (by go_simp)
 have x2 : w2.cell? ⟨w1.heap.size, 2, none⟩ = some (.int .i64 pe) := kC hb2 (by go_simp)
 have hb12 := nT hbx hb2
 have hb02 := nT hb01 hb12
 revert m0 m1 m2 f0 f1 f2; refine zg3 hb12 ?_; intro m0 m1 m2 f0 f1 f2
 have hO2 := hO1.keep hb12
 have hs2 : w1.heap.size ≤ w2.heap.size := hb12.size
 clear hb2 hbx hb12 hO1 hb01
 go_wp2_with fail
 refine cM (SR.out _ _ _ _ hO2.1 (by omega)) ?_
 rintro r w3 ⟨v3, rfl, hA3, hb3⟩
 revert m0 m1 m2 f0 f1 f2; refine zg3 hb3 ?_; intro m0 m1 m2 f0 f1 f2
 revert x0 x1 x2; refine cc3 hb3 ?_; intro x0 x1 x2
 replace hb02 := nT hb02 hb3
 replace hs2 := Nat.le_trans hs2 hb3.size
 obtain ⟨a3, n3, c3, rfl, HN3, hn3, hO3⟩ := hA3.open HDL.out
 subst hup
 clear hA3 hb3 hO2
 go_wp2_with fail
 refine cM (HK.out _ _ _ _ hO3.1 (by omega)) ?_
 rintro r w9 ⟨_, rfl, ⟨a9, n9, c9, rfl, HN9, hO9⟩, hb9⟩
 have hO9' : OwnW (w.heap.size + 2) w9 a9 n9 c9 (wO fp.2.1) := hO9.low (by omega)
 revert m0 m1 m2 f0 f1 f2; refine zg3 hb9 ?_; intro m0 m1 m2 f0 f1 f2
 revert x0 x1 x2; refine cc3 hb9 ?_; intro x0 x1 x2
 replace hb02 := nT hb02 hb9
 replace hs2 := Nat.le_trans hs2 hb9.size
 clear hb9 hO9
 go_wp2_with fail
 refine bodyPost_ret (v := dyV fp.1 a9 n9 c9 fp.2.2) (by simp [results, Tryz.results98, go_sem, m0, m1, m2]) rfl ⟨_, rfl, ⟨a9, n9, c9, rfl, HN9, ?_⟩, ?_⟩
 ·exact (((hO9'.far _ _ (by simp; try omega)).far _ _ (by simp; try omega)).far _ _ (by simp; try omega)).low (by simp; try omega)
 ·exact ((hb02.setCell (le1 _) _).setCell (le1 _) _).setCell (le1 _) _
theorem qtrim_more (s : Bool) (a : Option Addr) (len cap : Nat) (xs : List Int) (e : Int) (pp : Int) (up : Bool) (w : World) (h : IsW w a len cap xs) (hm : len ≤ 17592186044000) (hr : rightB (val xs) e = true) (hp : 1 ≤ pp ∧ pp ≤ 9223372036854775807) (hodd : (formD s (val xs) e).2.1 % 2 = 1) (hgt : pp < (blen (formD s (val xs) e).2.1 : Int)) (hup : up ≠ (formD s (val xs) e).1) :
  Calls Tryz.prog 98 #[dyV s a len cap e, .int .i64 pp, .bool up] w fun r w' => ∃ v', r = .returned v' ∧ DyQ w.heap.size w' v' (formD (formD s (val xs) e).1 ((formD s (val xs) e).2.1 / 2 ^ ((blen (formD s (val xs) e).2.1 : Int) - pp).toNat + 1) ((formD s (val xs) e).2.2 + (((blen (formD s (val xs) e).2.1 : Int) - pp).toNat : Int))) ∧ Below w.heap.size w w' := by
 have hb0 : Below w.heap.size w ((w.alloc (.cells #[.bool s, .slice a len cap, .int .i64 e] 25)).alloc (.cells #[.bool false, .slice none 0 0, .int .i64 0] 25)) := nT (below_one _ _) (below_one _ _)
 have HO : Hid _ := qOne_calls s a len cap xs e _ (h.keep hb0) hm (by have := (rightB_yes hr).2; omega)
 have hg2 : greatB (formD s (val xs) e).2.1 = false := great_mono (form_amount_le _ _ _) (rightB_yes hr).1
 have hpe : -100000000 ≤ (formD s (val xs) e).2.2 ∧ (formD s (val xs) e).2.2 ≤ 100000000 := by
  have h3 := (rightB_yes hr).2
  by_cases h0 : val xs = 0
  ·rw [h0, form_zero]; simp
  ·have h4 := tz_le_blen (val xs); have h5 := (great_not _).1 (rightB_yes hr).1; rw [form_pos s h0]; simp only; omega
 clear hr
 generalize formD s (val xs) e = p at *
 obtain ⟨ps, pm, pe⟩ := p
 simp only at *
 have hbl : blen pm ≤ 65536 := (great_not _).1 hg2
 have hwl : (wO pm).length ≤ 1024 := (words_len2 1024 pm).2 (by omega)
 obtain ⟨hp1, hp2⟩ := hp
 obtain ⟨he1, he2⟩ := hpe
 obtain ⟨j, hj⟩ : ∃ j : Nat, (blen pm : Int) = pp + (j : Int) := ⟨((blen pm : Int) - pp).toNat, by omega⟩
 have hj0 : 0 < j := by omega
 have hjb : j ≤ 65536 := by omega
 have HL : Hid (lostB (val (wO pm)) j = true) := by
  rw [Hid, val_words]
  unfold lostB
  refine decide_eq_true ?_
  intro q
  obtain ⟨k, hk⟩ := Nat.dvd_of_mod_eq_zero q
  obtain ⟨i, rfl⟩ : ∃ i, j = i + 1 := ⟨j - 1, by omega⟩
  rw [Nat.pow_succ, Nat.mul_comm (2 ^ i) 2, Nat.mul_assoc] at hk
  omega
 have SR : Hid _ := fun a' n' c' w' q r => nShr_calls a' n' c' j (wO pm) w' q (by omega) r
 rw [HL.out, val_words] at SR
 have hrr := shr_room2 hg2 hj0
 have hdl : (wO (pm / 2 ^ j)).length ≤ 1024 := (words_len2 1024 _).2 (by have := (great_not _).1 hrr.1; omega)
 rw [show ((blen pm : Int) - pp).toNat = j by omega]
 have hjs : IntKind.i64.wrap ((blen pm : Int) - pp) = (j : Int) := by rw [IntKind.wrap_i64]; omega
 clear HL hodd hg2
 have h1l : (wO 1).length ≤ 1 := (words_len 1 1).2 (by omega)
 have hul : (wO (pm / 2 ^ j + 1)).length ≤ 1024 := (words_len2 1024 _).2 (by have := (great_not _).1 hrr.2; omega)
 have HK : Hid _ := fun a' c' w' q => qForm_calls ps a' (wO (pm / 2 ^ j + 1)).length c' (wO (pm / 2 ^ j + 1)) (pe + (j : Int)) w' q (by omega) (by omega)
 rw [val_words] at HK
 have HO1 : Hid _ := fun w' => nOf_calls 1 w' (by omega) (by omega)
 rw [show (1 : Int).toNat = 1 from rfl] at HO1
 have AD : Hid _ := fun a' a'' n' c' c'' w' g g' r => nAdd_calls a' a'' n' c' (wO 1).length c'' (wO (pm / 2 ^ j)) (wO 1) w' g g' r (by omega)
 rw [val_words, val_words] at AD
 have hew : IntKind.i64.wrap (pe + (blen pm : Int)) = pe + (blen pm : Int) := by rw [IntKind.wrap_i64]; omega
 have hew2 : IntKind.i64.wrap (pe + (blen pm : Int) - pp) = pe + (j : Int) := by rw [IntKind.wrap_i64]; omega
 have HDL : Hid _ := hdl
 have hngt : ¬ (blen pm : Int) ≤ pp := by omega
 have hne : (up == ps) = false := by cases up <;> cases ps <;> simp_all
 have hne2 : (up != ps) = true := by cases up <;> cases ps <;> simp_all
 clear hj hdl hgt hrr h1l hul
 generalize formD ps (pm / 2 ^ j + 1) (pe + (j : Int)) = fp at *
 have LC : Hid _ := fun a' n' c' w' q r => nLen_calls a' n' c' (wO pm) w' q r
 rw [val_words] at LC
 generalize blen pm = bl at *
 go_enter Tryz.func98, Tryz.ntmps98
 go_wp2_with fail
 refine cM HO.out ?_
 rintro r w1 ⟨_, rfl, ⟨a1, n1, c1, rfl, HN1, hO1⟩, hb1⟩
 simp only at *
 have hb01 := nT hb0 hb1
 obtain ⟨m0, m1, m2, f0, f1, f2⟩ := zero_dy (r := w.heap.size + 1) hb1 (by simp)
 have hn1 : n1 ≤ 1024 := by have := HN1.out; omega
 have hsz : w.heap.size + 2 ≤ w1.heap.size := by have := hb1.size; simp at this; omega
 clear HO hb1 hb0
 go_wp2_with fail
 have hbx := below_one w1 (.cells #[.bool ps, .slice a1 n1 c1, .int .i64 pe] 25)
 refine cM (LC.out _ _ _ _ (hO1.1.keep hbx) (by omega)) ?_
 rintro r w2 ⟨rfl, hb2⟩
 have x0 : w2.cell? ⟨w1.heap.size, 0, none⟩ = some (.bool ps) := kC hb2 (by go_simp)
 have x1 : w2.cell? ⟨w1.heap.size, 1, none⟩ = some (.slice a1 n1 c1) := kC hb2 (by go_simp)
 have x2 : w2.cell? ⟨w1.heap.size, 2, none⟩ = some (.int .i64 pe) := kC hb2 (by go_simp)
 have hb12 := nT hbx hb2
 have hb02 := nT hb01 hb12
 revert m0 m1 m2 f0 f1 f2; refine zg3 hb12 ?_; intro m0 m1 m2 f0 f1 f2
 have hO2 := hO1.keep hb12
 have hs2 : w1.heap.size ≤ w2.heap.size := hb12.size
 clear hb2 hbx hb12 hO1 hb01
 go_wp2_with fail
 refine cM (SR.out _ _ _ _ hO2.1 (by omega)) ?_
 rintro r w3 ⟨v3, rfl, hA3, hb3⟩
 revert m0 m1 m2 f0 f1 f2; refine zg3 hb3 ?_; intro m0 m1 m2 f0 f1 f2
 revert x0 x1 x2; refine cc3 hb3 ?_; intro x0 x1 x2
 replace hb02 := nT hb02 hb3
 replace hs2 := Nat.le_trans hs2 hb3.size
 obtain ⟨a3, n3, c3, rfl, HN3, hn3, hO3⟩ := hA3.open HDL.out
 clear hA3 hb3 hO2
 go_wp2_with fail
 refine cM (HO1.out _) ?_
 rintro r w4 ⟨a4, c4, rfl, hO4, hb4⟩
 have hI4 : IsW w4 a4 (wO 1).length c4 (wO 1) := hO4.isW (words_U _)
 have hI3 := hO3.1.keep hb4
 revert m0 m1 m2 f0 f1 f2; refine zg3 hb4 ?_; intro m0 m1 m2 f0 f1 f2
 revert x0 x1 x2; refine cc3 hb4 ?_; intro x0 x1 x2
 replace hb02 := nT hb02 hb4
 replace hs2 := Nat.le_trans hs2 hb4.size
 clear hb4 hO4 hO3
 go_wp2_with fail
 refine cM (AD.out _ _ _ _ _ _ hI3 hI4 (by omega)) ?_
 rintro r w5 ⟨a5, c5, rfl, hO5, hb5⟩
 have hI5 : IsW w5 a5 (wO (pm / 2 ^ j + 1)).length c5 (wO (pm / 2 ^ j + 1)) := hO5.isW (words_U _)
 revert m0 m1 m2 f0 f1 f2; refine zg3 hb5 ?_; intro m0 m1 m2 f0 f1 f2
 revert x0 x1 x2; refine cc3 hb5 ?_; intro x0 x1 x2
 replace hb02 := nT hb02 hb5
 replace hs2 := Nat.le_trans hs2 hb5.size
 clear hb5 hO5 hI3 hI4
 go_wp2_with fail
 refine cM (HK.out _ _ _ hI5) ?_
 rintro r w9 ⟨_, rfl, ⟨a9, n9, c9, rfl, HN9, hO9⟩, hb9⟩
 have hO9' : OwnW (w.heap.size + 2) w9 a9 n9 c9 (wO fp.2.1) := hO9.low (by omega)
 revert m0 m1 m2 f0 f1 f2; refine zg3 hb9 ?_; intro m0 m1 m2 f0 f1 f2
 revert x0 x1 x2; refine cc3 hb9 ?_; intro x0 x1 x2
 replace hb02 := nT hb02 hb9
 replace hs2 := Nat.le_trans hs2 hb9.size
 clear hb9 hO9
 go_wp2_with fail
 refine bodyPost_ret (v := dyV fp.1 a9 n9 c9 fp.2.2) (by simp [results, Tryz.results98, go_sem, m0, m1, m2]) rfl ⟨_, rfl, ⟨a9, n9, c9, rfl, HN9, ?_⟩, ?_⟩
 ·exact (((hO9'.far _ _ (by simp; try omega)).far _ _ (by simp; try omega)).far _ _ (by simp; try omega)).low (by simp; try omega)
 ·exact ((hb02.setCell (le1 _) _).setCell (le1 _) _).setCell (le1 _) _
theorem qtrim_calls (s : Bool) (a : Option Addr) (len cap : Nat) (xs : List Int) (e : Int) (pp : Int) (up : Bool) (w : World) (h : IsW w a len cap xs) (hm : len ≤ 17592186044000) (hr : rightB (val xs) e = true) (hp : 1 ≤ pp ∧ pp ≤ 9223372036854775807) :
  Calls Tryz.prog 98 #[dyV s a len cap e, .int .i64 pp, .bool up] w fun r w' => ∃ v', r = .returned v' ∧ DyQ w.heap.size w' v' (cutD (formD s (val xs) e) pp up) ∧ Below w.heap.size w w' := by
 unfold cutD
 by_cases hle : (blen (formD s (val xs) e).2.1 : Int) ≤ pp
 ·rw [if_pos hle]
  exact qtrim_same s a len cap xs e pp up w h hm hr hp hle
 ·rw [if_neg hle]
  have h0 : val xs ≠ 0 := fun q => by
   rw [q, form_zero] at hle
   exact hle (by show ((blen 0 : Nat) : Int) ≤ pp; rw [blen_zero]; omega)
  have hodd : (formD s (val xs) e).2.1 % 2 = 1 := by rw [form_pos s h0]; exact (odd_part h0).1
  by_cases hup : up = (formD s (val xs) e).1
  ·have e1 : (!(up == (formD s (val xs) e).1)) = false := by rw [← hup]; simp
   rw [e1, if_neg (by decide), Nat.add_zero]
   exact qtrim_less s a len cap xs e pp up w h hm hr hp hodd (by omega) hup
  ·have e1 : (!(up == (formD s (val xs) e).1)) = true := by simpa using hup
   rw [e1, if_pos rfl]
   exact qtrim_more s a len cap xs e pp up w h hm hr hp hodd (by omega) hup
end Go.Proofs.YtahpdcbmekgkfaaGreatDoor

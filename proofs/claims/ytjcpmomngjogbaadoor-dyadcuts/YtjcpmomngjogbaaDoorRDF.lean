/- The document's dyadic numbers: Floor. The program's dyadic numbers: Floor. The statement DyadCuts. -/
import Derived.Test.YtjcpmomngjogbaaDoorRDE
import Derived.Test.YtjcpmomngjogbaaDoorRDD
import Derived.Test.YtjcpmomngjogbaaDoorDBeg
namespace Go.Proofs.YtjcpmomngjogbaaDoor

section
open Go.RowKit

theorem sum_len (x y : Bool × Nat × Int) (hx : blen x.2.1 ≤ 10000000) (hy : blen y.2.1 ≤ 10000000) (ex : -20000000 ≤ x.2.2 ∧ x.2.2 ≤ 20000000) (ey : -20000000 ≤ y.2.2 ∧ y.2.2 ≤ 20000000) : (wordsOf (sumD x y).2.1).length ≤ 2000001 := by
  have kx : (wordsOf x.2.1).length ≤ 200000 := (words_len2 _ _).2 (by omega)
  have ky : (wordsOf y.2.1).length ≤ 200000 := (words_len2 _ _).2 (by omega)
  by_cases h1 : x.2.1 = 0
  · have : sumD x y = y := by unfold sumD; rw [if_pos h1]
    rw [this]; omega
  · by_cases h2 : y.2.1 = 0
    · have : sumD x y = x := by unfold sumD; rw [if_neg h1, if_pos h2]
      rw [this]; omega
    · obtain ⟨ee, hee⟩ : ∃ ee : Int, min x.2.2 y.2.2 = ee := ⟨_, rfl⟩
      obtain ⟨i, hi⟩ : ∃ i : Nat, x.2.2 - ee = (i : Int) := ⟨(x.2.2 - ee).toNat, by omega⟩
      obtain ⟨j, hj⟩ : ∃ j : Nat, y.2.2 - ee = (j : Int) := ⟨(y.2.2 - ee).toNat, by omega⟩
      have hib : i ≤ 50000000 := by omega
      have hjb : j ≤ 50000000 := by omega
      have hMb : blen (x.2.1 * 2 ^ i) ≤ 60000000 := by rw [blen_mul _ _ h1]; omega
      have hNb : blen (y.2.1 * 2 ^ j) ≤ 60000000 := by rw [blen_mul _ _ h2]; omega
      have hMl : (wordsOf (x.2.1 * 2 ^ i)).length ≤ 1000000 := (words_len2 _ _).2 (by omega)
      have hNl : (wordsOf (y.2.1 * 2 ^ j)).length ≤ 1000000 := (words_len2 _ _).2 (by omega)
      have key : (sumD x y).2.1 ≤ x.2.1 * 2 ^ i + y.2.1 * 2 ^ j := by
        rw [plus_q x y h1 h2 ee hee i hi j hj]
        split
        · exact form_amount_le _ _ _
        · split
          · exact Nat.le_trans (form_amount_le _ _ _) (by omega)
          · exact Nat.le_trans (form_amount_le _ _ _) (by omega)
      have h3 := words_len_mono key
      have h4 := sum_words (x.2.1 * 2 ^ i) (y.2.1 * 2 ^ j)
      omega
theorem negD_form {p : Bool × Nat × Int} (h : CanD p) : formD (!p.1) p.2.1 p.2.2 = negD p := by
  rcases h with h | h
  · rw [h, form_zero]; rfl
  · rw [form_odd _ h]
    unfold negD
    rw [decide_eq_false (by omega)]
    simp
theorem room_right (p : Bool × Nat × Int) : roomE p = if rightB p.2.1 p.2.2 = true then 0 else 3 := rfl
theorem whole_exp5 {x : Bool × Nat × Int} (hg : greatB x.2.1 = false) (hx : x.2.2 ≤ 32768) : -65536 ≤ (wholeD x).2.2 ∧ (wholeD x).2.2 ≤ 65536 := by
  unfold wholeD
  by_cases h : 0 ≤ x.2.2
  · rw [if_pos h]; omega
  · rw [if_neg h]
    have hrr := shr_room2 hg (show 0 < (-x.2.2).toNat by omega)
    have hk : greatB (x.2.1 / 2 ^ (-x.2.2).toNat + (if x.1 = true then 1 else 0)) = false := by
      split
      · exact hrr.2
      · exact hrr.1
    revert hk
    generalize x.2.1 / 2 ^ (-x.2.2).toNat + (if x.1 = true then 1 else 0) = m
    intro hk
    by_cases h0 : m = 0
    · rw [h0, form_zero]; exact ⟨by decide, by decide⟩
    · rw [form_pos x.1 h0]
      have := tz_le_blen m
      have := (great_not m).1 hk
      show _ ≤ (0 : Int) + (tz m : Int) ∧ (0 : Int) + (tz m : Int) ≤ _
      omega
def flP (p : Bool × Nat × Int) : Bool := rightB (wholeD p).2.1 (wholeD p).2.2 && rightB (restD p).2.1 (restD p).2.2
def flB (s : Bool) (m : Nat) (e : Int) : Bool := rightB m e && flP (formD s m e)
def flE (s : Bool) (m : Nat) (e : Int) : Int := if rightB m e = true then (if flP (formD s m e) = true then 0 else 3) else 2
def flW (s : Bool) (m : Nat) (e : Int) : Bool × Nat × Int := if flB s m e = true then wholeD (formD s m e) else (false, 0, 0)
def flR (s : Bool) (m : Nat) (e : Int) : Bool × Nat × Int := if flB s m e = true then restD (formD s m e) else (false, 0, 0)
theorem fl_right {s : Bool} {m : Nat} {e : Int} (h : rightB m e = false) : flE s m e = 2 ∧ flW s m e = (false, 0, 0) ∧ flR s m e = (false, 0, 0) := by
  unfold flE flW flR flB; rw [h]; exact ⟨rfl, rfl, rfl⟩
theorem fl_no {s : Bool} {m : Nat} {e : Int} (h : rightB m e = true) (hp : flP (formD s m e) = false) : flE s m e = 3 ∧ flW s m e = (false, 0, 0) ∧ flR s m e = (false, 0, 0) := by
  unfold flE flW flR flB; rw [h, hp]; exact ⟨rfl, rfl, rfl⟩
theorem fl_yes {s : Bool} {m : Nat} {e : Int} (h : rightB m e = true) (hp : flP (formD s m e) = true) : flE s m e = 0 ∧ flW s m e = wholeD (formD s m e) ∧ flR s m e = restD (formD s m e) := by
  unfold flE flW flR flB; rw [h, hp]; exact ⟨rfl, rfl, rfl⟩
theorem form_low (s : Bool) (m : Nat) (e : Int) (h : rightB m e = true) : -32768 ≤ (formD s m e).2.2 := by
  obtain ⟨h1, h2, h3⟩ := rightB_yes h
  by_cases h0 : m = 0
  · rw [h0, form_zero]; decide
  · rw [form_pos s h0]
    show _ ≤ e + (tz m : Int)
    omega
/-- A number of no room has no parts. -/
theorem fl_far (s : Bool) (m : Nat) (e : Int) (h : rightB m e = true) (hp : rightB (formD s m e).2.1 (formD s m e).2.2 = false) : flP (formD s m e) = false := by
  have h1 := form_low s m e h
  have h2 := form_fit s m e h
  have h3 : 0 ≤ (formD s m e).2.2 := by
    unfold rightB inB at hp
    rw [h2] at hp
    simp at hp
    omega
  unfold flP wholeD
  rw [if_pos h3, hp]
  rfl

set_option maxRecDepth 100000 in
set_option maxHeartbeats 4000000 in
theorem qfloor_not (s : Bool) (a : Option Addr) (len cap : Nat) (xs : List Int) (e : Int) (w : World) (h : IsW w a len cap xs) (hm : len ≤ 17592186044000) (k : Int) (hk : k ≠ 0) (hE : canE s (val xs) e = k) :
    Calls Tryd.prog 24 #[dyV s a len cap e] w fun r w' => ∃ v1 v2, r = .returned (.tuple #[v1, v2, .int .i64 (k)]) ∧ DyQ w.heap.size w' v1 ((false, 0, 0)) ∧ DyQ w.heap.size w' v2 ((false, 0, 0)) ∧ Below w.heap.size w w' := by
  have bw0 : Below w.heap.size w (((w.alloc (.cells #[.bool s, .slice a len cap, .int .i64 e] 25)).alloc (.cells #[.bool false, .slice none 0 0, .int .i64 0] 25)).alloc (.cells #[.bool false, .slice none 0 0, .int .i64 0] 25)) := by repeat (first | exact Below.refl _ _ | refine bl_alloc ?_ _)
  have HC : Hid _ := qCanon_calls s a len cap xs e _ (h.keep bw0) hm
  rw [hE] at HC
  have hkb : (k == 0) = false := by simp [hk]
  clear hE
  go_enter Tryd.func24, Tryd.ntmps24
  go_wp2_with fail
  refine Calls.mono HC.out ?_
  rintro r w1 ⟨_, rfl, ⟨a1, n1, c1, rfl, HN1, hO1⟩, b1⟩
  generalize canP s (val xs) e = cp at *
  have bN := nbelow_trans b1 (below_one w1 (.cells #[.bool cp.1, .slice a1 n1 c1, .int .i64 cp.2.2] 25))
  have bw := nbelow_trans bw0 bN
  obtain ⟨m0, m1, m2, f0, f1, f2⟩ := zero_dy (w := w.alloc (.cells #[.bool s, .slice a len cap, .int .i64 e] 25)) (r := w.heap.size + 1) (W' := w1.alloc (.cells #[.bool cp.1, .slice a1 n1 c1, .int .i64 cp.2.2] 25)) (nbelow_trans (below_one _ _) bN) (by simp)
  obtain ⟨l0, l1, l2, g0, g1, g2⟩ := zero_dy (w := (w.alloc (.cells #[.bool s, .slice a len cap, .int .i64 e] 25)).alloc (.cells #[.bool false, .slice none 0 0, .int .i64 0] 25)) (r := w.heap.size + 1 + 1) (W' := w1.alloc (.cells #[.bool cp.1, .slice a1 n1 c1, .int .i64 cp.2.2] 25)) bN (by simp)
  clear b1 bN HC
  go_wp2_with fail
  refine bodyPost_ret (v := .tuple #[dyV false none 0 0 0, dyV false none 0 0 0, .int .i64 k]) (by simp [results, Tryd.results24, go_sem, m0, m1, m2, l0, l1, l2]) rfl ⟨_, _, rfl, dyQ_zero _ _, dyQ_zero _ _, ?_⟩
  exact (((((bw.setCell (by show w.heap.size ≤ w.heap.size + 1; omega) _).setCell (by show w.heap.size ≤ w.heap.size + 1; omega) _).setCell (by show w.heap.size ≤ w.heap.size + 1; omega) _).setCell (by show w.heap.size ≤ w.heap.size + 1 + 1; omega) _).setCell (by show w.heap.size ≤ w.heap.size + 1 + 1; omega) _).setCell (by show w.heap.size ≤ w.heap.size + 1 + 1; omega) _

set_option maxRecDepth 100000 in
set_option maxHeartbeats 4000000 in
theorem qfloor_no1 (s : Bool) (a : Option Addr) (len cap : Nat) (xs : List Int) (e : Int) (w : World) (h : IsW w a len cap xs) (hm : len ≤ 17592186044000) (hr : rightB (val xs) e = true) (hp : rightB (formD s (val xs) e).2.1 (formD s (val xs) e).2.2 = true) (h1 : rightB (wholeD (formD s (val xs) e)).2.1 (wholeD (formD s (val xs) e)).2.2 = false) :
    Calls Tryd.prog 24 #[dyV s a len cap e] w fun r w' => ∃ v1 v2, r = .returned (.tuple #[v1, v2, .int .i64 (3)]) ∧ DyQ w.heap.size w' v1 ((false, 0, 0)) ∧ DyQ w.heap.size w' v2 ((false, 0, 0)) ∧ Below w.heap.size w w' := by
  have bw0 : Below w.heap.size w (((w.alloc (.cells #[.bool s, .slice a len cap, .int .i64 e] 25)).alloc (.cells #[.bool false, .slice none 0 0, .int .i64 0] 25)).alloc (.cells #[.bool false, .slice none 0 0, .int .i64 0] 25)) := by repeat (first | exact Below.refl _ _ | refine bl_alloc ?_ _)
  obtain ⟨hE, hP⟩ := canE_yes (s := s) hr
  have hrp := room_yes (form_fit s (val xs) e hr) (show inB (formD s (val xs) e).2.2 = true by unfold rightB at hp; simp at hp; exact hp.2)
  have HC : Hid _ := qCanon_calls s a len cap xs e _ (h.keep bw0) hm
  rw [hE, hP, hrp.1, hrp.2] at HC
  have hcn := form_can s (val xs) e
  have hlo := form_low s (val xs) e hr
  generalize formD s (val xs) e = p at *
  have hgp : greatB p.2.1 = false := (rightB_yes hp).1
  have hpe := (rightB_yes hp).2
  have hpl : (wordsOf p.2.1).length ≤ 1024 := (words_len2 1024 _).2 (by have := (great_not _).1 hgp; omega)
  have HW : Hid _ := fun a' n' c' w' g (q : n' ≤ 1024) => qwhole_calls p.1 a' n' c' (wordsOf p.2.1) p.2.2 w' g (by omega) (by rw [val_words]; exact hp)
  rw [val_words, form_of_can hcn] at HW
  have hub := (great_not _).1 (whole_fit hgp)
  have hue := whole_exp5 hgp hpe.2
  have huc := whole_can hcn
  have hv : restD p = sumD p (negD (wholeD p)) := rfl
  have hvl : (wordsOf (restD p).2.1).length ≤ 2000001 := sum_len p (negD (wholeD p)) (by have := (great_not _).1 hgp; omega) (by show blen (wholeD p).2.1 ≤ _; omega) (by omega) (by show _ ≤ (wholeD p).2.2 ∧ (wholeD p).2.2 ≤ _; omega)
  have HL : Hid _ := fun a' n' c' b' m' d' w' g (q : n' ≤ 1024) g' (q' : m' ≤ 1024) => qLess_calls p.1 a' n' c' (wordsOf p.2.1) p.2.2 (wholeD p).1 b' m' d' (wordsOf (wholeD p).2.1) (wholeD p).2.2 w' g (by omega) g' (by omega) (by omega) (by omega) (by rw [val_words]; have := (great_not _).1 hgp; omega) (by rw [val_words]; omega)
  rw [val_words, val_words, form_of_can hcn, negD_form huc, ← hv] at HL
  have hul : (wordsOf (wholeD p).2.1).length ≤ 1024 := (words_len2 1024 _).2 (by omega)
  have HR1 : Hid _ := fun a' n' c' w' g (q : n' ≤ 1024) => qRight_calls (wholeD p).1 a' n' c' (wordsOf (wholeD p).2.1) (wholeD p).2.2 w' g (by omega)
  have HR2 : Hid _ := fun a' n' c' w' g (q : n' ≤ 2000001) => qRight_calls (restD p).1 a' n' c' (wordsOf (restD p).2.1) (restD p).2.2 w' g (by omega)
  rw [val_words] at HR1 HR2
  rw [h1] at HR1
  clear h1 hE hP hrp hcn hlo hgp hpe hub hue huc hv
  generalize wholeD p = u at *
  generalize restD p = v at *
  have HPL : Hid _ := hpl
  have HUL : Hid _ := hul
  have HVL : Hid _ := hvl
  clear hpl hul hvl hp hr
  go_enter Tryd.func24, Tryd.ntmps24
  go_wp2_with fail
  refine Calls.mono HC.out ?_
  rintro r w1 ⟨_, rfl, ⟨a1, n1, c1, rfl, HN1, hO1⟩, b1⟩
  have hn1 : n1 ≤ 1024 := by rw [HN1.out]; exact HPL.out
  have bA := below_one w1 (.cells #[.bool p.1, .slice a1 n1 c1, .int .i64 p.2.2] 25)
  have c0 : (w1.alloc (.cells #[.bool p.1, .slice a1 n1 c1, .int .i64 p.2.2] 25)).cell? ⟨w1.heap.size, 0, none⟩ = some (.bool p.1) := by go_simp
  have c1' : (w1.alloc (.cells #[.bool p.1, .slice a1 n1 c1, .int .i64 p.2.2] 25)).cell? ⟨w1.heap.size, 1, none⟩ = some (.slice a1 n1 c1) := by go_simp
  have c2 : (w1.alloc (.cells #[.bool p.1, .slice a1 n1 c1, .int .i64 p.2.2] 25)).cell? ⟨w1.heap.size, 2, none⟩ = some (.int .i64 p.2.2) := by go_simp
  have hI1 := hO1.1.keep bA
  have bz := nbelow_trans b1 bA
  clear b1 bA hO1 HC HN1 HPL
  go_wp2_with fail
  generalize w1.alloc (.cells #[.bool p.1, .slice a1 n1 c1, .int .i64 p.2.2] 25) = w2 at *
  refine Calls.mono (HW.out _ _ _ _ hI1 hn1) ?_
  rintro r w3 ⟨_, rfl, ⟨a3, n3, c3, rfl, HN3, hO3⟩, b3⟩
  have hn3 : n3 ≤ 1024 := by rw [HN3.out]; exact HUL.out
  have bA := below_one w3 (.cells #[.bool u.1, .slice a3 n3 c3, .int .i64 u.2.2] 25)
  have b3A := nbelow_trans b3 bA
  replace c0 := dcarry_cell b3A c0
  replace c1' := dcarry_cell b3A c1'
  replace c2 := dcarry_cell b3A c2
  replace hI1 := hI1.keep b3A
  have d0 : (w3.alloc (.cells #[.bool u.1, .slice a3 n3 c3, .int .i64 u.2.2] 25)).cell? ⟨w3.heap.size, 0, none⟩ = some (.bool u.1) := by go_simp
  have d1 : (w3.alloc (.cells #[.bool u.1, .slice a3 n3 c3, .int .i64 u.2.2] 25)).cell? ⟨w3.heap.size, 1, none⟩ = some (.slice a3 n3 c3) := by go_simp
  have d2 : (w3.alloc (.cells #[.bool u.1, .slice a3 n3 c3, .int .i64 u.2.2] 25)).cell? ⟨w3.heap.size, 2, none⟩ = some (.int .i64 u.2.2) := by go_simp
  have hO3' := (hO3.keep bA).low bz.size
  have sz3 : (((w.alloc (.cells #[.bool s, .slice a len cap, .int .i64 e] 25)).alloc (.cells #[.bool false, .slice none 0 0, .int .i64 0] 25)).alloc (.cells #[.bool false, .slice none 0 0, .int .i64 0] 25)).heap.size ≤ w3.heap.size := Nat.le_trans bz.size b3.size
  replace bz := nbelow_trans bz b3A
  clear b3 bA b3A hO3 HW
  go_wp2_with fail
  generalize w3.alloc (.cells #[.bool u.1, .slice a3 n3 c3, .int .i64 u.2.2] 25) = w4 at *
  refine Calls.mono (HL.out _ _ _ _ _ _ _ hI1 hn1 hO3'.1 hn3) ?_
  rintro r w5 ⟨_, rfl, ⟨a5, n5, c5, rfl, HN5, hO5⟩, b5⟩
  have hn5 : n5 ≤ 2000001 := by rw [HN5.out]; exact HVL.out
  have bA := below_one w5 (.cells #[.bool v.1, .slice a5 n5 c5, .int .i64 v.2.2] 25)
  have b5A := nbelow_trans b5 bA
  replace d0 := dcarry_cell b5A d0
  replace d1 := dcarry_cell b5A d1
  replace d2 := dcarry_cell b5A d2
  have e0 : (w5.alloc (.cells #[.bool v.1, .slice a5 n5 c5, .int .i64 v.2.2] 25)).cell? ⟨w5.heap.size, 0, none⟩ = some (.bool v.1) := by go_simp
  have e1 : (w5.alloc (.cells #[.bool v.1, .slice a5 n5 c5, .int .i64 v.2.2] 25)).cell? ⟨w5.heap.size, 1, none⟩ = some (.slice a5 n5 c5) := by go_simp
  have e2 : (w5.alloc (.cells #[.bool v.1, .slice a5 n5 c5, .int .i64 v.2.2] 25)).cell? ⟨w5.heap.size, 2, none⟩ = some (.int .i64 v.2.2) := by go_simp
  have hO5' := (hO5.keep bA).low bz.size
  replace hO3' := hO3'.keep b5A
  have sz5 : (((w.alloc (.cells #[.bool s, .slice a len cap, .int .i64 e] 25)).alloc (.cells #[.bool false, .slice none 0 0, .int .i64 0] 25)).alloc (.cells #[.bool false, .slice none 0 0, .int .i64 0] 25)).heap.size ≤ w5.heap.size := Nat.le_trans bz.size b5.size
  replace bz := nbelow_trans bz b5A
  clear b5 bA b5A hO5 HL c0 c1' c2 hI1 hn1 HUL HVL
  go_wp2_with fail
  generalize w5.alloc (.cells #[.bool v.1, .slice a5 n5 c5, .int .i64 v.2.2] 25) = w6 at *
  refine Calls.mono (HR1.out _ _ _ _ hO3'.1 hn3) ?_
  rintro r w7 ⟨rfl, b7⟩
  replace d0 := dcarry_cell b7 d0
  replace d1 := dcarry_cell b7 d1
  replace d2 := dcarry_cell b7 d2
  replace e0 := dcarry_cell b7 e0
  replace e1 := dcarry_cell b7 e1
  replace e2 := dcarry_cell b7 e2
  replace hO3' := hO3'.keep b7
  replace hO5' := hO5'.keep b7
  replace bz := nbelow_trans bz b7
  clear b7 HR1
  have bw := nbelow_trans bw0 bz
  obtain ⟨m0, m1, m2, f0, f1, f2⟩ := zero_dy (w := w.alloc (.cells #[.bool s, .slice a len cap, .int .i64 e] 25)) (r := w.heap.size + 1) (W' := w7) (nbelow_trans (below_one _ _) bz) (by simp)
  obtain ⟨l0, l1, l2, g0, g1, g2⟩ := zero_dy (w := (w.alloc (.cells #[.bool s, .slice a len cap, .int .i64 e] 25)).alloc (.cells #[.bool false, .slice none 0 0, .int .i64 0] 25)) (r := w.heap.size + 1 + 1) (W' := w7) bz (by simp)
  clear bz bw0 HR2
  go_wp2_with fail
  refine bodyPost_ret (v := .tuple #[dyV false none 0 0 0, dyV false none 0 0 0, .int .i64 3]) (by simp [results, Tryd.results24, go_sem, m0, m1, m2, l0, l1, l2]) rfl ⟨_, _, rfl, dyQ_zero _ _, dyQ_zero _ _, ?_⟩
  exact (((((bw.setCell (by show w.heap.size ≤ w.heap.size + 1; omega) _).setCell (by show w.heap.size ≤ w.heap.size + 1; omega) _).setCell (by show w.heap.size ≤ w.heap.size + 1; omega) _).setCell (by show w.heap.size ≤ w.heap.size + 1 + 1; omega) _).setCell (by show w.heap.size ≤ w.heap.size + 1 + 1; omega) _).setCell (by show w.heap.size ≤ w.heap.size + 1 + 1; omega) _

set_option maxRecDepth 100000 in
set_option maxHeartbeats 4000000 in
theorem qfloor_no2 (s : Bool) (a : Option Addr) (len cap : Nat) (xs : List Int) (e : Int) (w : World) (h : IsW w a len cap xs) (hm : len ≤ 17592186044000) (hr : rightB (val xs) e = true) (hp : rightB (formD s (val xs) e).2.1 (formD s (val xs) e).2.2 = true) (h1 : rightB (wholeD (formD s (val xs) e)).2.1 (wholeD (formD s (val xs) e)).2.2 = true) (h2 : rightB (restD (formD s (val xs) e)).2.1 (restD (formD s (val xs) e)).2.2 = false) :
    Calls Tryd.prog 24 #[dyV s a len cap e] w fun r w' => ∃ v1 v2, r = .returned (.tuple #[v1, v2, .int .i64 (3)]) ∧ DyQ w.heap.size w' v1 ((false, 0, 0)) ∧ DyQ w.heap.size w' v2 ((false, 0, 0)) ∧ Below w.heap.size w w' := by
  have bw0 : Below w.heap.size w (((w.alloc (.cells #[.bool s, .slice a len cap, .int .i64 e] 25)).alloc (.cells #[.bool false, .slice none 0 0, .int .i64 0] 25)).alloc (.cells #[.bool false, .slice none 0 0, .int .i64 0] 25)) := by repeat (first | exact Below.refl _ _ | refine bl_alloc ?_ _)
  obtain ⟨hE, hP⟩ := canE_yes (s := s) hr
  have hrp := room_yes (form_fit s (val xs) e hr) (show inB (formD s (val xs) e).2.2 = true by unfold rightB at hp; simp at hp; exact hp.2)
  have HC : Hid _ := qCanon_calls s a len cap xs e _ (h.keep bw0) hm
  rw [hE, hP, hrp.1, hrp.2] at HC
  have hcn := form_can s (val xs) e
  have hlo := form_low s (val xs) e hr
  generalize formD s (val xs) e = p at *
  have hgp : greatB p.2.1 = false := (rightB_yes hp).1
  have hpe := (rightB_yes hp).2
  have hpl : (wordsOf p.2.1).length ≤ 1024 := (words_len2 1024 _).2 (by have := (great_not _).1 hgp; omega)
  have HW : Hid _ := fun a' n' c' w' g (q : n' ≤ 1024) => qwhole_calls p.1 a' n' c' (wordsOf p.2.1) p.2.2 w' g (by omega) (by rw [val_words]; exact hp)
  rw [val_words, form_of_can hcn] at HW
  have hub := (great_not _).1 (whole_fit hgp)
  have hue := whole_exp5 hgp hpe.2
  have huc := whole_can hcn
  have hv : restD p = sumD p (negD (wholeD p)) := rfl
  have hvl : (wordsOf (restD p).2.1).length ≤ 2000001 := sum_len p (negD (wholeD p)) (by have := (great_not _).1 hgp; omega) (by show blen (wholeD p).2.1 ≤ _; omega) (by omega) (by show _ ≤ (wholeD p).2.2 ∧ (wholeD p).2.2 ≤ _; omega)
  have HL : Hid _ := fun a' n' c' b' m' d' w' g (q : n' ≤ 1024) g' (q' : m' ≤ 1024) => qLess_calls p.1 a' n' c' (wordsOf p.2.1) p.2.2 (wholeD p).1 b' m' d' (wordsOf (wholeD p).2.1) (wholeD p).2.2 w' g (by omega) g' (by omega) (by omega) (by omega) (by rw [val_words]; have := (great_not _).1 hgp; omega) (by rw [val_words]; omega)
  rw [val_words, val_words, form_of_can hcn, negD_form huc, ← hv] at HL
  have hul : (wordsOf (wholeD p).2.1).length ≤ 1024 := (words_len2 1024 _).2 (by omega)
  have HR1 : Hid _ := fun a' n' c' w' g (q : n' ≤ 1024) => qRight_calls (wholeD p).1 a' n' c' (wordsOf (wholeD p).2.1) (wholeD p).2.2 w' g (by omega)
  have HR2 : Hid _ := fun a' n' c' w' g (q : n' ≤ 2000001) => qRight_calls (restD p).1 a' n' c' (wordsOf (restD p).2.1) (restD p).2.2 w' g (by omega)
  rw [val_words] at HR1 HR2
  rw [h1] at HR1
  rw [h2] at HR2
  clear h1 h2 hE hP hrp hcn hlo hgp hpe hub hue huc hv
  generalize wholeD p = u at *
  generalize restD p = v at *
  have HPL : Hid _ := hpl
  have HUL : Hid _ := hul
  have HVL : Hid _ := hvl
  clear hpl hul hvl hp hr
  go_enter Tryd.func24, Tryd.ntmps24
  go_wp2_with fail
  refine Calls.mono HC.out ?_
  rintro r w1 ⟨_, rfl, ⟨a1, n1, c1, rfl, HN1, hO1⟩, b1⟩
  have hn1 : n1 ≤ 1024 := by rw [HN1.out]; exact HPL.out
  have bA := below_one w1 (.cells #[.bool p.1, .slice a1 n1 c1, .int .i64 p.2.2] 25)
  have c0 : (w1.alloc (.cells #[.bool p.1, .slice a1 n1 c1, .int .i64 p.2.2] 25)).cell? ⟨w1.heap.size, 0, none⟩ = some (.bool p.1) := by go_simp
  have c1' : (w1.alloc (.cells #[.bool p.1, .slice a1 n1 c1, .int .i64 p.2.2] 25)).cell? ⟨w1.heap.size, 1, none⟩ = some (.slice a1 n1 c1) := by go_simp
  have c2 : (w1.alloc (.cells #[.bool p.1, .slice a1 n1 c1, .int .i64 p.2.2] 25)).cell? ⟨w1.heap.size, 2, none⟩ = some (.int .i64 p.2.2) := by go_simp
  have hI1 := hO1.1.keep bA
  have bz := nbelow_trans b1 bA
  clear b1 bA hO1 HC HN1 HPL
  go_wp2_with fail
  generalize w1.alloc (.cells #[.bool p.1, .slice a1 n1 c1, .int .i64 p.2.2] 25) = w2 at *
  refine Calls.mono (HW.out _ _ _ _ hI1 hn1) ?_
  rintro r w3 ⟨_, rfl, ⟨a3, n3, c3, rfl, HN3, hO3⟩, b3⟩
  have hn3 : n3 ≤ 1024 := by rw [HN3.out]; exact HUL.out
  have bA := below_one w3 (.cells #[.bool u.1, .slice a3 n3 c3, .int .i64 u.2.2] 25)
  have b3A := nbelow_trans b3 bA
  replace c0 := dcarry_cell b3A c0
  replace c1' := dcarry_cell b3A c1'
  replace c2 := dcarry_cell b3A c2
  replace hI1 := hI1.keep b3A
  have d0 : (w3.alloc (.cells #[.bool u.1, .slice a3 n3 c3, .int .i64 u.2.2] 25)).cell? ⟨w3.heap.size, 0, none⟩ = some (.bool u.1) := by go_simp
  have d1 : (w3.alloc (.cells #[.bool u.1, .slice a3 n3 c3, .int .i64 u.2.2] 25)).cell? ⟨w3.heap.size, 1, none⟩ = some (.slice a3 n3 c3) := by go_simp
  have d2 : (w3.alloc (.cells #[.bool u.1, .slice a3 n3 c3, .int .i64 u.2.2] 25)).cell? ⟨w3.heap.size, 2, none⟩ = some (.int .i64 u.2.2) := by go_simp
  have hO3' := (hO3.keep bA).low bz.size
  have sz3 : (((w.alloc (.cells #[.bool s, .slice a len cap, .int .i64 e] 25)).alloc (.cells #[.bool false, .slice none 0 0, .int .i64 0] 25)).alloc (.cells #[.bool false, .slice none 0 0, .int .i64 0] 25)).heap.size ≤ w3.heap.size := Nat.le_trans bz.size b3.size
  replace bz := nbelow_trans bz b3A
  clear b3 bA b3A hO3 HW
  go_wp2_with fail
  generalize w3.alloc (.cells #[.bool u.1, .slice a3 n3 c3, .int .i64 u.2.2] 25) = w4 at *
  refine Calls.mono (HL.out _ _ _ _ _ _ _ hI1 hn1 hO3'.1 hn3) ?_
  rintro r w5 ⟨_, rfl, ⟨a5, n5, c5, rfl, HN5, hO5⟩, b5⟩
  have hn5 : n5 ≤ 2000001 := by rw [HN5.out]; exact HVL.out
  have bA := below_one w5 (.cells #[.bool v.1, .slice a5 n5 c5, .int .i64 v.2.2] 25)
  have b5A := nbelow_trans b5 bA
  replace d0 := dcarry_cell b5A d0
  replace d1 := dcarry_cell b5A d1
  replace d2 := dcarry_cell b5A d2
  have e0 : (w5.alloc (.cells #[.bool v.1, .slice a5 n5 c5, .int .i64 v.2.2] 25)).cell? ⟨w5.heap.size, 0, none⟩ = some (.bool v.1) := by go_simp
  have e1 : (w5.alloc (.cells #[.bool v.1, .slice a5 n5 c5, .int .i64 v.2.2] 25)).cell? ⟨w5.heap.size, 1, none⟩ = some (.slice a5 n5 c5) := by go_simp
  have e2 : (w5.alloc (.cells #[.bool v.1, .slice a5 n5 c5, .int .i64 v.2.2] 25)).cell? ⟨w5.heap.size, 2, none⟩ = some (.int .i64 v.2.2) := by go_simp
  have hO5' := (hO5.keep bA).low bz.size
  replace hO3' := hO3'.keep b5A
  have sz5 : (((w.alloc (.cells #[.bool s, .slice a len cap, .int .i64 e] 25)).alloc (.cells #[.bool false, .slice none 0 0, .int .i64 0] 25)).alloc (.cells #[.bool false, .slice none 0 0, .int .i64 0] 25)).heap.size ≤ w5.heap.size := Nat.le_trans bz.size b5.size
  replace bz := nbelow_trans bz b5A
  clear b5 bA b5A hO5 HL c0 c1' c2 hI1 hn1 HUL HVL
  go_wp2_with fail
  generalize w5.alloc (.cells #[.bool v.1, .slice a5 n5 c5, .int .i64 v.2.2] 25) = w6 at *
  refine Calls.mono (HR1.out _ _ _ _ hO3'.1 hn3) ?_
  rintro r w7 ⟨rfl, b7⟩
  replace d0 := dcarry_cell b7 d0
  replace d1 := dcarry_cell b7 d1
  replace d2 := dcarry_cell b7 d2
  replace e0 := dcarry_cell b7 e0
  replace e1 := dcarry_cell b7 e1
  replace e2 := dcarry_cell b7 e2
  replace hO3' := hO3'.keep b7
  replace hO5' := hO5'.keep b7
  replace bz := nbelow_trans bz b7
  clear b7 HR1
  go_wp2_with fail
  refine Calls.mono (HR2.out _ _ _ _ hO5'.1 hn5) ?_
  rintro r w8 ⟨rfl, b8⟩
  replace d0 := dcarry_cell b8 d0
  replace d1 := dcarry_cell b8 d1
  replace d2 := dcarry_cell b8 d2
  replace e0 := dcarry_cell b8 e0
  replace e1 := dcarry_cell b8 e1
  replace e2 := dcarry_cell b8 e2
  replace hO3' := hO3'.keep b8
  replace hO5' := hO5'.keep b8
  replace bz := nbelow_trans bz b8
  clear b8 HR2
  have bw := nbelow_trans bw0 bz
  obtain ⟨m0, m1, m2, f0, f1, f2⟩ := zero_dy (w := w.alloc (.cells #[.bool s, .slice a len cap, .int .i64 e] 25)) (r := w.heap.size + 1) (W' := w8) (nbelow_trans (below_one _ _) bz) (by simp)
  obtain ⟨l0, l1, l2, g0, g1, g2⟩ := zero_dy (w := (w.alloc (.cells #[.bool s, .slice a len cap, .int .i64 e] 25)).alloc (.cells #[.bool false, .slice none 0 0, .int .i64 0] 25)) (r := w.heap.size + 1 + 1) (W' := w8) bz (by simp)
  clear bz bw0
  go_wp2_with fail
  refine bodyPost_ret (v := .tuple #[dyV false none 0 0 0, dyV false none 0 0 0, .int .i64 3]) (by simp [results, Tryd.results24, go_sem, m0, m1, m2, l0, l1, l2]) rfl ⟨_, _, rfl, dyQ_zero _ _, dyQ_zero _ _, ?_⟩
  exact (((((bw.setCell (by show w.heap.size ≤ w.heap.size + 1; omega) _).setCell (by show w.heap.size ≤ w.heap.size + 1; omega) _).setCell (by show w.heap.size ≤ w.heap.size + 1; omega) _).setCell (by show w.heap.size ≤ w.heap.size + 1 + 1; omega) _).setCell (by show w.heap.size ≤ w.heap.size + 1 + 1; omega) _).setCell (by show w.heap.size ≤ w.heap.size + 1 + 1; omega) _

set_option maxRecDepth 100000 in
set_option maxHeartbeats 4000000 in
theorem qfloor_yes (s : Bool) (a : Option Addr) (len cap : Nat) (xs : List Int) (e : Int) (w : World) (h : IsW w a len cap xs) (hm : len ≤ 17592186044000) (hr : rightB (val xs) e = true) (hp : rightB (formD s (val xs) e).2.1 (formD s (val xs) e).2.2 = true) (h1 : rightB (wholeD (formD s (val xs) e)).2.1 (wholeD (formD s (val xs) e)).2.2 = true) (h2 : rightB (restD (formD s (val xs) e)).2.1 (restD (formD s (val xs) e)).2.2 = true) :
    Calls Tryd.prog 24 #[dyV s a len cap e] w fun r w' => ∃ v1 v2, r = .returned (.tuple #[v1, v2, .int .i64 (0)]) ∧ DyQ w.heap.size w' v1 (wholeD (formD s (val xs) e)) ∧ DyQ w.heap.size w' v2 (restD (formD s (val xs) e)) ∧ Below w.heap.size w w' := by
  have bw0 : Below w.heap.size w (((w.alloc (.cells #[.bool s, .slice a len cap, .int .i64 e] 25)).alloc (.cells #[.bool false, .slice none 0 0, .int .i64 0] 25)).alloc (.cells #[.bool false, .slice none 0 0, .int .i64 0] 25)) := by repeat (first | exact Below.refl _ _ | refine bl_alloc ?_ _)
  obtain ⟨hE, hP⟩ := canE_yes (s := s) hr
  have hrp := room_yes (form_fit s (val xs) e hr) (show inB (formD s (val xs) e).2.2 = true by unfold rightB at hp; simp at hp; exact hp.2)
  have HC : Hid _ := qCanon_calls s a len cap xs e _ (h.keep bw0) hm
  rw [hE, hP, hrp.1, hrp.2] at HC
  have hcn := form_can s (val xs) e
  have hlo := form_low s (val xs) e hr
  generalize formD s (val xs) e = p at *
  have hgp : greatB p.2.1 = false := (rightB_yes hp).1
  have hpe := (rightB_yes hp).2
  have hpl : (wordsOf p.2.1).length ≤ 1024 := (words_len2 1024 _).2 (by have := (great_not _).1 hgp; omega)
  have HW : Hid _ := fun a' n' c' w' g (q : n' ≤ 1024) => qwhole_calls p.1 a' n' c' (wordsOf p.2.1) p.2.2 w' g (by omega) (by rw [val_words]; exact hp)
  rw [val_words, form_of_can hcn] at HW
  have hub := (great_not _).1 (whole_fit hgp)
  have hue := whole_exp5 hgp hpe.2
  have huc := whole_can hcn
  have hv : restD p = sumD p (negD (wholeD p)) := rfl
  have hvl : (wordsOf (restD p).2.1).length ≤ 2000001 := sum_len p (negD (wholeD p)) (by have := (great_not _).1 hgp; omega) (by show blen (wholeD p).2.1 ≤ _; omega) (by omega) (by show _ ≤ (wholeD p).2.2 ∧ (wholeD p).2.2 ≤ _; omega)
  have HL : Hid _ := fun a' n' c' b' m' d' w' g (q : n' ≤ 1024) g' (q' : m' ≤ 1024) => qLess_calls p.1 a' n' c' (wordsOf p.2.1) p.2.2 (wholeD p).1 b' m' d' (wordsOf (wholeD p).2.1) (wholeD p).2.2 w' g (by omega) g' (by omega) (by omega) (by omega) (by rw [val_words]; have := (great_not _).1 hgp; omega) (by rw [val_words]; omega)
  rw [val_words, val_words, form_of_can hcn, negD_form huc, ← hv] at HL
  have hul : (wordsOf (wholeD p).2.1).length ≤ 1024 := (words_len2 1024 _).2 (by omega)
  have HR1 : Hid _ := fun a' n' c' w' g (q : n' ≤ 1024) => qRight_calls (wholeD p).1 a' n' c' (wordsOf (wholeD p).2.1) (wholeD p).2.2 w' g (by omega)
  have HR2 : Hid _ := fun a' n' c' w' g (q : n' ≤ 2000001) => qRight_calls (restD p).1 a' n' c' (wordsOf (restD p).2.1) (restD p).2.2 w' g (by omega)
  rw [val_words] at HR1 HR2
  rw [h1] at HR1
  rw [h2] at HR2
  clear h1 h2 hE hP hrp hcn hlo hgp hpe hub hue huc hv
  generalize wholeD p = u at *
  generalize restD p = v at *
  have HPL : Hid _ := hpl
  have HUL : Hid _ := hul
  have HVL : Hid _ := hvl
  clear hpl hul hvl hp hr
  go_enter Tryd.func24, Tryd.ntmps24
  go_wp2_with fail
  refine Calls.mono HC.out ?_
  rintro r w1 ⟨_, rfl, ⟨a1, n1, c1, rfl, HN1, hO1⟩, b1⟩
  have hn1 : n1 ≤ 1024 := by rw [HN1.out]; exact HPL.out
  have bA := below_one w1 (.cells #[.bool p.1, .slice a1 n1 c1, .int .i64 p.2.2] 25)
  have c0 : (w1.alloc (.cells #[.bool p.1, .slice a1 n1 c1, .int .i64 p.2.2] 25)).cell? ⟨w1.heap.size, 0, none⟩ = some (.bool p.1) := by go_simp
  have c1' : (w1.alloc (.cells #[.bool p.1, .slice a1 n1 c1, .int .i64 p.2.2] 25)).cell? ⟨w1.heap.size, 1, none⟩ = some (.slice a1 n1 c1) := by go_simp
  have c2 : (w1.alloc (.cells #[.bool p.1, .slice a1 n1 c1, .int .i64 p.2.2] 25)).cell? ⟨w1.heap.size, 2, none⟩ = some (.int .i64 p.2.2) := by go_simp
  have hI1 := hO1.1.keep bA
  have bz := nbelow_trans b1 bA
  clear b1 bA hO1 HC HN1 HPL
  go_wp2_with fail
  generalize w1.alloc (.cells #[.bool p.1, .slice a1 n1 c1, .int .i64 p.2.2] 25) = w2 at *
  refine Calls.mono (HW.out _ _ _ _ hI1 hn1) ?_
  rintro r w3 ⟨_, rfl, ⟨a3, n3, c3, rfl, HN3, hO3⟩, b3⟩
  have hn3 : n3 ≤ 1024 := by rw [HN3.out]; exact HUL.out
  have bA := below_one w3 (.cells #[.bool u.1, .slice a3 n3 c3, .int .i64 u.2.2] 25)
  have b3A := nbelow_trans b3 bA
  replace c0 := dcarry_cell b3A c0
  replace c1' := dcarry_cell b3A c1'
  replace c2 := dcarry_cell b3A c2
  replace hI1 := hI1.keep b3A
  have d0 : (w3.alloc (.cells #[.bool u.1, .slice a3 n3 c3, .int .i64 u.2.2] 25)).cell? ⟨w3.heap.size, 0, none⟩ = some (.bool u.1) := by go_simp
  have d1 : (w3.alloc (.cells #[.bool u.1, .slice a3 n3 c3, .int .i64 u.2.2] 25)).cell? ⟨w3.heap.size, 1, none⟩ = some (.slice a3 n3 c3) := by go_simp
  have d2 : (w3.alloc (.cells #[.bool u.1, .slice a3 n3 c3, .int .i64 u.2.2] 25)).cell? ⟨w3.heap.size, 2, none⟩ = some (.int .i64 u.2.2) := by go_simp
  have hO3' := (hO3.keep bA).low bz.size
  have sz3 : (((w.alloc (.cells #[.bool s, .slice a len cap, .int .i64 e] 25)).alloc (.cells #[.bool false, .slice none 0 0, .int .i64 0] 25)).alloc (.cells #[.bool false, .slice none 0 0, .int .i64 0] 25)).heap.size ≤ w3.heap.size := Nat.le_trans bz.size b3.size
  replace bz := nbelow_trans bz b3A
  clear b3 bA b3A hO3 HW
  go_wp2_with fail
  generalize w3.alloc (.cells #[.bool u.1, .slice a3 n3 c3, .int .i64 u.2.2] 25) = w4 at *
  refine Calls.mono (HL.out _ _ _ _ _ _ _ hI1 hn1 hO3'.1 hn3) ?_
  rintro r w5 ⟨_, rfl, ⟨a5, n5, c5, rfl, HN5, hO5⟩, b5⟩
  have hn5 : n5 ≤ 2000001 := by rw [HN5.out]; exact HVL.out
  have bA := below_one w5 (.cells #[.bool v.1, .slice a5 n5 c5, .int .i64 v.2.2] 25)
  have b5A := nbelow_trans b5 bA
  replace d0 := dcarry_cell b5A d0
  replace d1 := dcarry_cell b5A d1
  replace d2 := dcarry_cell b5A d2
  have e0 : (w5.alloc (.cells #[.bool v.1, .slice a5 n5 c5, .int .i64 v.2.2] 25)).cell? ⟨w5.heap.size, 0, none⟩ = some (.bool v.1) := by go_simp
  have e1 : (w5.alloc (.cells #[.bool v.1, .slice a5 n5 c5, .int .i64 v.2.2] 25)).cell? ⟨w5.heap.size, 1, none⟩ = some (.slice a5 n5 c5) := by go_simp
  have e2 : (w5.alloc (.cells #[.bool v.1, .slice a5 n5 c5, .int .i64 v.2.2] 25)).cell? ⟨w5.heap.size, 2, none⟩ = some (.int .i64 v.2.2) := by go_simp
  have hO5' := (hO5.keep bA).low bz.size
  replace hO3' := hO3'.keep b5A
  have sz5 : (((w.alloc (.cells #[.bool s, .slice a len cap, .int .i64 e] 25)).alloc (.cells #[.bool false, .slice none 0 0, .int .i64 0] 25)).alloc (.cells #[.bool false, .slice none 0 0, .int .i64 0] 25)).heap.size ≤ w5.heap.size := Nat.le_trans bz.size b5.size
  replace bz := nbelow_trans bz b5A
  clear b5 bA b5A hO5 HL c0 c1' c2 hI1 hn1 HUL HVL
  go_wp2_with fail
  generalize w5.alloc (.cells #[.bool v.1, .slice a5 n5 c5, .int .i64 v.2.2] 25) = w6 at *
  refine Calls.mono (HR1.out _ _ _ _ hO3'.1 hn3) ?_
  rintro r w7 ⟨rfl, b7⟩
  replace d0 := dcarry_cell b7 d0
  replace d1 := dcarry_cell b7 d1
  replace d2 := dcarry_cell b7 d2
  replace e0 := dcarry_cell b7 e0
  replace e1 := dcarry_cell b7 e1
  replace e2 := dcarry_cell b7 e2
  replace hO3' := hO3'.keep b7
  replace hO5' := hO5'.keep b7
  replace bz := nbelow_trans bz b7
  clear b7 HR1
  go_wp2_with fail
  refine Calls.mono (HR2.out _ _ _ _ hO5'.1 hn5) ?_
  rintro r w8 ⟨rfl, b8⟩
  replace d0 := dcarry_cell b8 d0
  replace d1 := dcarry_cell b8 d1
  replace d2 := dcarry_cell b8 d2
  replace e0 := dcarry_cell b8 e0
  replace e1 := dcarry_cell b8 e1
  replace e2 := dcarry_cell b8 e2
  replace hO3' := hO3'.keep b8
  replace hO5' := hO5'.keep b8
  replace bz := nbelow_trans bz b8
  clear b8 HR2
  have bw := nbelow_trans bw0 bz
  obtain ⟨m0, m1, m2, f0, f1, f2⟩ := zero_dy (w := w.alloc (.cells #[.bool s, .slice a len cap, .int .i64 e] 25)) (r := w.heap.size + 1) (W' := w8) (nbelow_trans (below_one _ _) bz) (by simp)
  obtain ⟨l0, l1, l2, g0, g1, g2⟩ := zero_dy (w := (w.alloc (.cells #[.bool s, .slice a len cap, .int .i64 e] 25)).alloc (.cells #[.bool false, .slice none 0 0, .int .i64 0] 25)) (r := w.heap.size + 1 + 1) (W' := w8) bz (by simp)
  clear bz bw0
  have HS0 : Hid ((((w.alloc (.cells #[.bool s, .slice a len cap, .int .i64 e] 25)).alloc (.cells #[.bool false, .slice none 0 0, .int .i64 0] 25)).alloc (.cells #[.bool false, .slice none 0 0, .int .i64 0] 25)).heap.size = w.heap.size + 1 + 1 + 1) := by simp [Hid]
  have nd1 : w3.heap.size ≠ w.heap.size + 1 := by have := HS0.out; omega
  have nd2 : w3.heap.size ≠ w.heap.size + 1 + 1 := by have := HS0.out; omega
  have ne1 : w5.heap.size ≠ w.heap.size + 1 := by have := HS0.out; omega
  have ne2 : w5.heap.size ≠ w.heap.size + 1 + 1 := by have := HS0.out; omega
  have nx : w.heap.size + 1 + 1 ≠ w.heap.size + 1 := by omega
  clear sz3 sz5
  go_upto_region 8 with fail
  have bd : Below w8.heap.size w8 w8.drew := (Below.refl _ _).drew
  refine wp_region_held (S := fun w' => w'.cell? ⟨w3.heap.size, 0, none⟩ = some (.bool u.1) ∧ w'.cell? ⟨w3.heap.size, 1, none⟩ = some (.slice a3 n3 c3) ∧ w'.cell? ⟨w3.heap.size, 2, none⟩ = some (.int .i64 u.2.2) ∧ w'.cell? ⟨w5.heap.size, 0, none⟩ = some (.bool v.1) ∧ w'.cell? ⟨w5.heap.size, 1, none⟩ = some (.slice a5 n5 c5) ∧ w'.cell? ⟨w5.heap.size, 2, none⟩ = some (.int .i64 v.2.2)) (by kernel_rfl) ?_
  change wpAnyH _ _ _ _ _ _ _ _ (World.drew w8)
  replace d0 := dcarry_cell bd d0
  replace d1 := dcarry_cell bd d1
  replace d2 := dcarry_cell bd d2
  replace e0 := dcarry_cell bd e0
  replace e1 := dcarry_cell bd e1
  replace e2 := dcarry_cell bd e2
  replace f0 := dcarry_frozen bd m0 f0
  replace f1 := dcarry_frozen bd m1 f1
  replace f2 := dcarry_frozen bd m2 f2
  replace g0 := dcarry_frozen bd l0 g0
  replace g1 := dcarry_frozen bd l1 g1
  replace g2 := dcarry_frozen bd l2 g2
  replace m0 := dcarry_cell bd m0
  replace m1 := dcarry_cell bd m1
  replace m2 := dcarry_cell bd m2
  replace l0 := dcarry_cell bd l0
  replace l1 := dcarry_cell bd l1
  replace l2 := dcarry_cell bd l2
  replace hO3' := hO3'.keep bd
  replace hO5' := hO5'.keep bd
  replace bw := nbelow_trans bw bd
  clear bd
  generalize World.drew w8 = wd at *
  refine wpAnyH_take (i := 0) (v := .agg #[.bool u.1, .slice a3 n3 c3, .int .i64 u.2.2]) rfl (by kernel_rfl) (by kernel_rfl) (by kernel_rfl) (fun _ _ _ h => h) (Or.inl ⟨by rfl, ?y0⟩) ⟨d0, d1, d2, e0, e1, e2⟩ ?r0
  case y0 => (rintro ww ⟨q0, q1, q2, q3, q4, q5⟩; go_simp)
  try simp only [Act.put]
  refine wpAnyH_take (i := 1) (v := .agg #[.bool v.1, .slice a5 n5 c5, .int .i64 v.2.2]) rfl (by kernel_rfl) (by kernel_rfl) (by kernel_rfl) (fun _ _ _ h => h) (Or.inl ⟨by rfl, ?y1⟩) ⟨d0, d1, d2, e0, e1, e2⟩ ?r1
  case y1 => (rintro ww ⟨q0, q1, q2, q3, q4, q5⟩; go_simp)
  try simp only [Act.put]
  refine wpAnyH_ready (rs := [2]) (by kernel_rfl) (by simp) ?_
  refine AllReadyH.cons rfl (fun K hK => ?_) AllReadyH.nil
  go_simp
  refine hK.out _ _ ⟨set3_cell d0 nd1, set3_cell d1 nd1, set3_cell d2 nd1, set3_cell e0 ne1, set3_cell e1 ne1, set3_cell e2 ne1⟩ (fun _ => ?_)
  clear hK K
  try simp only [Act.put, List.setIfInBounds_toArray, List.set_cons_zero, List.set_cons_succ]
  refine wpAnyH_ready (rs := [3]) (by kernel_rfl) (by simp) ?_
  refine AllReadyH.cons rfl (fun K hK => ?_) AllReadyH.nil
  go_simp
  refine hK.out _ _ ⟨set3_cell (set3_cell d0 nd1) nd2, set3_cell (set3_cell d1 nd1) nd2, set3_cell (set3_cell d2 nd1) nd2, set3_cell (set3_cell e0 ne1) ne2, set3_cell (set3_cell e1 ne1) ne2, set3_cell (set3_cell e2 ne1) ne2⟩ (fun _ => ?_)
  clear hK K
  try simp only [Act.put, List.setIfInBounds_toArray, List.set_cons_zero, List.set_cons_succ]
  refine wpAnyH_ready (rs := [4]) (by kernel_rfl) (by simp) ?_
  refine AllReadyH.cons rfl (fun K hK => ?_) AllReadyH.nil
  go_simp
  refine hK.out _ _ ⟨set3_cell (set3_cell d0 nd1) nd2, set3_cell (set3_cell d1 nd1) nd2, set3_cell (set3_cell d2 nd1) nd2, set3_cell (set3_cell e0 ne1) ne2, set3_cell (set3_cell e1 ne1) ne2, set3_cell (set3_cell e2 ne1) ne2⟩ (fun _ => ?_)
  clear hK K
  try simp only [Act.put, List.setIfInBounds_toArray, List.set_cons_zero, List.set_cons_succ]
  refine wpAnyH_done (by kernel_rfl) ?_ _
  go_wp2_with fail
  refine bodyPost_ret (v := .tuple #[dyV u.1 a3 n3 c3 u.2.2, dyV v.1 a5 n5 c5 v.2.2, .int .i64 0]) (by simp [results, Tryd.results24, go_sem, m0, m1, m2, l0, l1, l2]) rfl ⟨_, _, rfl, ⟨a3, n3, c3, rfl, HN3, (((((((hO3'.far _ _ (by show w.heap.size + 1 < _; rw [HS0.out]; omega)).far _ _ (by show w.heap.size + 1 < _; rw [HS0.out]; omega)).far _ _ (by show w.heap.size + 1 < _; rw [HS0.out]; omega)).far _ _ (by show w.heap.size + 1 + 1 < _; rw [HS0.out]; omega)).far _ _ (by show w.heap.size + 1 + 1 < _; rw [HS0.out]; omega)).far _ _ (by show w.heap.size + 1 + 1 < _; rw [HS0.out]; omega)).low (by rw [HS0.out]; omega))⟩, ⟨a5, n5, c5, rfl, HN5, (((((((hO5'.far _ _ (by show w.heap.size + 1 < _; rw [HS0.out]; omega)).far _ _ (by show w.heap.size + 1 < _; rw [HS0.out]; omega)).far _ _ (by show w.heap.size + 1 < _; rw [HS0.out]; omega)).far _ _ (by show w.heap.size + 1 + 1 < _; rw [HS0.out]; omega)).far _ _ (by show w.heap.size + 1 + 1 < _; rw [HS0.out]; omega)).far _ _ (by show w.heap.size + 1 + 1 < _; rw [HS0.out]; omega)).low (by rw [HS0.out]; omega))⟩, (((((bw.setCell (by show w.heap.size ≤ w.heap.size + 1; omega) _).setCell (by show w.heap.size ≤ w.heap.size + 1; omega) _).setCell (by show w.heap.size ≤ w.heap.size + 1; omega) _).setCell (by show w.heap.size ≤ w.heap.size + 1 + 1; omega) _).setCell (by show w.heap.size ≤ w.heap.size + 1 + 1; omega) _).setCell (by show w.heap.size ≤ w.heap.size + 1 + 1; omega) _⟩

theorem qFloor_calls (s : Bool) (a : Option Addr) (len cap : Nat) (xs : List Int) (e : Int) (w : World) (h : IsW w a len cap xs) (hm : len ≤ 17592186044000) :
    Calls Tryd.prog 24 #[dyV s a len cap e] w fun r w' => ∃ v1 v2, r = .returned (.tuple #[v1, v2, .int .i64 (flE s (val xs) e)]) ∧ DyQ w.heap.size w' v1 (flW s (val xs) e) ∧ DyQ w.heap.size w' v2 (flR s (val xs) e) ∧ Below w.heap.size w w' := by
  cases hr : rightB (val xs) e with
  | false =>
    obtain ⟨e1, e2, e3⟩ := fl_right (s := s) hr
    rw [e1, e2, e3]
    exact qfloor_not s a len cap xs e w h hm 2 (by decide) (canE_not hr).1
  | true =>
    cases hp : rightB (formD s (val xs) e).2.1 (formD s (val xs) e).2.2 with
    | false =>
      obtain ⟨e1, e2, e3⟩ := fl_no hr (fl_far s (val xs) e hr hp)
      rw [e1, e2, e3]
      refine qfloor_not s a len cap xs e w h hm 3 (by decide) ?_
      rw [(canE_yes hr).1, room_right, hp]
      rfl
    | true =>
      cases h1 : rightB (wholeD (formD s (val xs) e)).2.1 (wholeD (formD s (val xs) e)).2.2 with
      | false =>
        obtain ⟨e1, e2, e3⟩ := fl_no (s := s) hr (by unfold flP; rw [h1]; rfl)
        rw [e1, e2, e3]
        exact qfloor_no1 s a len cap xs e w h hm hr hp h1
      | true =>
        cases h2 : rightB (restD (formD s (val xs) e)).2.1 (restD (formD s (val xs) e)).2.2 with
        | false =>
          obtain ⟨e1, e2, e3⟩ := fl_no (s := s) hr (by unfold flP; rw [h1, h2]; rfl)
          rw [e1, e2, e3]
          exact qfloor_no2 s a len cap xs e w h hm hr hp h1 h2
        | true =>
          obtain ⟨e1, e2, e3⟩ := fl_yes (s := s) hr (by unfold flP; rw [h1, h2]; rfl)
          rw [e1, e2, e3]
          exact qfloor_yes s a len cap xs e w h hm hr hp h1 h2

end

section
open Go.RowKit

set_option maxRecDepth 100000 in
set_option maxHeartbeats 4000000 in
theorem pfloor_not (s : Bool) (a : Option Addr) (len cap : Nat) (xs : List Int) (e : Int) (w : World) (h : IsW w a len cap xs) (hm : len ≤ 17592186044416) (hT : Tab w) (hr : rightB (val xs) e = false) :
    Calls Tryd.prog 23 #[dyV s a len cap e] w fun r w' => ∃ v1 v2, r = .returned (.tuple #[v1, v2, .int .i64 (2)]) ∧ DyAt w.heap.size w' v1 ((false, 0, 0)) ∧ DyAt w.heap.size w' v2 ((false, 0, 0)) ∧ Below w.heap.size w w' := by
  have hmf : ∀ (fn : Fn) (first cap : Array Value) (w : World), (Instr.makeFunc fn first cap).run Tryd.prog w = .ok (.func fn first cap) w := fun _ _ _ _ => rfl
  have bw0 : Below w.heap.size w (((w.alloc (.cells #[.bool s, .slice a len cap, .int .i64 e] 25)).alloc (.cells #[.bool false, .slice none 0 0, .int .i64 0] 25)).alloc (.cells #[.bool false, .slice none 0 0, .int .i64 0] 25)) := by repeat (first | exact Below.refl _ _ | refine bl_alloc ?_ _)
  have HC : Hid _ := canonical_calls s a len cap xs e _ (h.keep bw0) hm (hT.kept bw0)
  have HRR : Hid _ := fun b W g q0 q1 q2 => right1_calls b s a len cap xs e W g hm q0 q1 q2
  have H1 : Hid (IsW w a len cap xs) := h
  rw [hr] at HRR
  generalize canG s (val xs) e = x at *
  clear hr h hm
  go_enter Tryd.func23, Tryd.ntmps23
  go_wp2_with fail
  refine Calls.mono HC.out ?_
  rintro r w1 ⟨ao, n, c, ex, rfl, HE, HN, HZ, hn, hO, b1⟩
  have k0 : w1.cell? ⟨w.heap.size, 0, none⟩ = some (.bool s) := dcarry_cell b1 (by go_simp)
  have k1 : w1.cell? ⟨w.heap.size, 1, none⟩ = some (.slice a len cap) := dcarry_cell b1 (by go_simp)
  have k2 : w1.cell? ⟨w.heap.size, 2, none⟩ = some (.int .i64 e) := dcarry_cell b1 (by go_simp)
  clear HE HN HZ hn hO
  have bA := below_one w1 (.cells #[.bool x.1, .slice ao n c, .int .i64 ex, .bool false] 47)
  have o0 : (w1.alloc (.cells #[.bool x.1, .slice ao n c, .int .i64 ex, .bool false] 47)).cell? ⟨w1.heap.size, 0, none⟩ = some (.bool x.1) := by go_simp
  have o1 : (w1.alloc (.cells #[.bool x.1, .slice ao n c, .int .i64 ex, .bool false] 47)).cell? ⟨w1.heap.size, 1, none⟩ = some (.slice ao n c) := by go_simp
  have o2 : (w1.alloc (.cells #[.bool x.1, .slice ao n c, .int .i64 ex, .bool false] 47)).cell? ⟨w1.heap.size, 2, none⟩ = some (.int .i64 ex) := by go_simp
  have o3 : (w1.alloc (.cells #[.bool x.1, .slice ao n c, .int .i64 ex, .bool false] 47)).cell? ⟨w1.heap.size, 3, none⟩ = some (.bool false) := by go_simp
  replace k0 := dcarry_cell bA k0
  replace k1 := dcarry_cell bA k1
  replace k2 := dcarry_cell bA k2
  have bz := nbelow_trans b1 bA
  clear b1 bA HC
  have q0 : ((w1.alloc (.cells #[.bool x.1, .slice ao n c, .int .i64 ex, .bool false] 47)).alloc (.cells #[.bool s, .slice a len cap, .int .i64 e] 25)).cell? ⟨w1.heap.size + 1, 0, none⟩ = some (.bool s) := by go_simp
  have q1 : ((w1.alloc (.cells #[.bool x.1, .slice ao n c, .int .i64 ex, .bool false] 47)).alloc (.cells #[.bool s, .slice a len cap, .int .i64 e] 25)).cell? ⟨w1.heap.size + 1, 1, none⟩ = some (.slice a len cap) := by go_simp
  have q2 : ((w1.alloc (.cells #[.bool x.1, .slice ao n c, .int .i64 ex, .bool false] 47)).alloc (.cells #[.bool s, .slice a len cap, .int .i64 e] 25)).cell? ⟨w1.heap.size + 1, 2, none⟩ = some (.int .i64 e) := by go_simp
  go_wp2_with fail
  generalize w1.alloc (.cells #[.bool x.1, .slice ao n c, .int .i64 ex, .bool false] 47) = w2 at *
  have bB := below_one w2 (.cells #[.bool s, .slice a len cap, .int .i64 e] 25)
  have bzB := nbelow_trans bz bB
  refine Calls.mono (made_not _ _ _ (fun W hW => HRR.out (w1.heap.size + 1) W (H1.out.keep (nbelow_trans bw0 (nbelow_trans bzB hW))) (dcarry_cell hW q0) (dcarry_cell hW q1) (dcarry_cell hW q2))) ?_
  rintro r w3 ⟨rfl, b3⟩
  have b23 := nbelow_trans bB b3
  have bC := below_one w3 (.cells #[.bool false, .slice none 0 0, .int .i64 0] 25)
  replace bz := nbelow_trans bz (nbelow_trans b23 bC)
  have bw := nbelow_trans bw0 bz
  clear b3 b23 bB bzB bC o0 o1 o2 o3 k0 k1 k2 HRR H1 q0 q1 q2
  obtain ⟨m0, m1, m2, f0, f1, f2⟩ := zero_dy (w := w.alloc (.cells #[.bool s, .slice a len cap, .int .i64 e] 25)) (r := w.heap.size + 1) (W' := w3.alloc (.cells #[.bool false, .slice none 0 0, .int .i64 0] 25)) (nbelow_trans (below_one _ _) bz) (by simp)
  obtain ⟨l0, l1, l2, g0, g1, g2⟩ := zero_dy (w := (w.alloc (.cells #[.bool s, .slice a len cap, .int .i64 e] 25)).alloc (.cells #[.bool false, .slice none 0 0, .int .i64 0] 25)) (r := w.heap.size + 1 + 1) (W' := w3.alloc (.cells #[.bool false, .slice none 0 0, .int .i64 0] 25)) bz (by simp)
  clear bz bw0
  go_wp2_with fail
  refine bodyPost_ret (v := .tuple #[dyV false none 0 0 0, dyV false none 0 0 0, .int .i64 2]) (by simp [results, Tryd.results23, go_sem, m0, m1, m2, l0, l1, l2]) rfl ⟨_, _, rfl, dyAt_zero _ _, dyAt_zero _ _, ?_⟩
  exact (((((bw.setCell (by show w.heap.size ≤ w.heap.size + 1; omega) _).setCell (by show w.heap.size ≤ w.heap.size + 1; omega) _).setCell (by show w.heap.size ≤ w.heap.size + 1; omega) _).setCell (by show w.heap.size ≤ w.heap.size + 1 + 1; omega) _).setCell (by show w.heap.size ≤ w.heap.size + 1 + 1; omega) _).setCell (by show w.heap.size ≤ w.heap.size + 1 + 1; omega) _

set_option maxRecDepth 100000 in
set_option maxHeartbeats 4000000 in
theorem pfloor_no1 (s : Bool) (a : Option Addr) (len cap : Nat) (xs : List Int) (e : Int) (w : World) (h : IsW w a len cap xs) (hm : len ≤ 17592186044416) (hT : Tab w) (hr : rightB (val xs) e = true) (hu0 : rightB (wholeD (formD s (val xs) e)).2.1 (wholeD (formD s (val xs) e)).2.2 = false) :
    Calls Tryd.prog 23 #[dyV s a len cap e] w fun r w' => ∃ v1 v2, r = .returned (.tuple #[v1, v2, .int .i64 (3)]) ∧ DyAt w.heap.size w' v1 ((false, 0, 0)) ∧ DyAt w.heap.size w' v2 ((false, 0, 0)) ∧ Below w.heap.size w w' := by
  have hmf : ∀ (fn : Fn) (first cap : Array Value) (w : World), (Instr.makeFunc fn first cap).run Tryd.prog w = .ok (.func fn first cap) w := fun _ _ _ _ => rfl
  have bw0 : Below w.heap.size w (((w.alloc (.cells #[.bool s, .slice a len cap, .int .i64 e] 25)).alloc (.cells #[.bool false, .slice none 0 0, .int .i64 0] 25)).alloc (.cells #[.bool false, .slice none 0 0, .int .i64 0] 25)) := by repeat (first | exact Below.refl _ _ | refine bl_alloc ?_ _)
  have HC : Hid _ := canonical_calls s a len cap xs e _ (h.keep bw0) hm (hT.kept bw0)
  have HRR : Hid _ := fun b W g q0 q1 q2 => right1_calls b s a len cap xs e W g hm q0 q1 q2
  have H1 : Hid (IsW w a len cap xs) := h
  have hu : roomE (wholeD (formD s (val xs) e)) = 3 ∧ roomP (wholeD (formD s (val xs) e)) = (false, 0, 0) := by
    unfold roomE roomP
    rw [show roomB (wholeD (formD s (val xs) e)) = rightB (wholeD (formD s (val xs) e)).2.1 (wholeD (formD s (val xs) e)).2.2 from rfl, hu0]
    exact ⟨rfl, rfl⟩
  clear hu0
  obtain ⟨u, hue⟩ : ∃ u : Bool × Nat × Int, u = (false, 0, 0) := ⟨_, rfl⟩
  rw [← hue] at hu
  clear hue
  rw [hr] at HRR
  have hcg : canG s (val xs) e = formD s (val xs) e := canG_no (rightB_yes hr).1
  rw [hcg] at HC
  have HEB : Hid _ := right_exp hr
  have HGX : Hid _ := form_fit s (val xs) e hr
  have HBX : Hid _ := form_bounds s (val xs) e hr
  have HLO : Hid _ := form_low s (val xs) e hr
  have HCN : Hid _ := form_can s (val xs) e
  generalize formD s (val xs) e = x at *
  have HT0 : Hid (∀ W, Below w.heap.size w W → Tab W) := fun W hW => hT.kept hW
  clear hr h hm hcg hT
  go_enter Tryd.func23, Tryd.ntmps23
  go_wp2_with fail
  refine Calls.mono HC.out ?_
  rintro r w1 ⟨ao, n, c, ex, rfl, HE, HN, HZ, hn, hO, b1⟩
  have k0 : w1.cell? ⟨w.heap.size, 0, none⟩ = some (.bool s) := dcarry_cell b1 (by go_simp)
  have k1 : w1.cell? ⟨w.heap.size, 1, none⟩ = some (.slice a len cap) := dcarry_cell b1 (by go_simp)
  have k2 : w1.cell? ⟨w.heap.size, 2, none⟩ = some (.int .i64 e) := dcarry_cell b1 (by go_simp)
  obtain rfl := HE.out HEB.out.1 HEB.out.2
  have hX : NumAt 0 w1 (numV x.1 ao n c x.2.2 false) x := ⟨ao, n, c, rfl, HN, HZ, hn, hO.low (Nat.zero_le _)⟩
  clear HE HEB HN HZ hn hO
  have bA := below_one w1 (.cells #[.bool x.1, .slice ao n c, .int .i64 x.2.2, .bool false] 47)
  have o0 : (w1.alloc (.cells #[.bool x.1, .slice ao n c, .int .i64 x.2.2, .bool false] 47)).cell? ⟨w1.heap.size, 0, none⟩ = some (.bool x.1) := by go_simp
  have o1 : (w1.alloc (.cells #[.bool x.1, .slice ao n c, .int .i64 x.2.2, .bool false] 47)).cell? ⟨w1.heap.size, 1, none⟩ = some (.slice ao n c) := by go_simp
  have o2 : (w1.alloc (.cells #[.bool x.1, .slice ao n c, .int .i64 x.2.2, .bool false] 47)).cell? ⟨w1.heap.size, 2, none⟩ = some (.int .i64 x.2.2) := by go_simp
  have o3 : (w1.alloc (.cells #[.bool x.1, .slice ao n c, .int .i64 x.2.2, .bool false] 47)).cell? ⟨w1.heap.size, 3, none⟩ = some (.bool false) := by go_simp
  replace k0 := dcarry_cell bA k0
  replace k1 := dcarry_cell bA k1
  replace k2 := dcarry_cell bA k2
  have bz := nbelow_trans b1 bA
  replace hX := hX.keep' bA
  clear b1 bA HC
  have q0 : ((w1.alloc (.cells #[.bool x.1, .slice ao n c, .int .i64 x.2.2, .bool false] 47)).alloc (.cells #[.bool s, .slice a len cap, .int .i64 e] 25)).cell? ⟨w1.heap.size + 1, 0, none⟩ = some (.bool s) := by go_simp
  have q1 : ((w1.alloc (.cells #[.bool x.1, .slice ao n c, .int .i64 x.2.2, .bool false] 47)).alloc (.cells #[.bool s, .slice a len cap, .int .i64 e] 25)).cell? ⟨w1.heap.size + 1, 1, none⟩ = some (.slice a len cap) := by go_simp
  have q2 : ((w1.alloc (.cells #[.bool x.1, .slice ao n c, .int .i64 x.2.2, .bool false] 47)).alloc (.cells #[.bool s, .slice a len cap, .int .i64 e] 25)).cell? ⟨w1.heap.size + 1, 2, none⟩ = some (.int .i64 e) := by go_simp
  go_wp2_with fail
  generalize w1.alloc (.cells #[.bool x.1, .slice ao n c, .int .i64 x.2.2, .bool false] 47) = w2 at *
  have HQ : Hid (roomE (wholeD x) = 3 ∧ roomP (wholeD x) = u) := hu
  clear hu
  have bB := below_one w2 (.cells #[.bool s, .slice a len cap, .int .i64 e] 25)
  have bzB := nbelow_trans bz bB
  refine Calls.mono (made_whole x.1 ao n c x.2.2 false 0 (wholeD x) _ _ (fun W hW => HRR.out (w1.heap.size + 1) W (H1.out.keep (nbelow_trans bw0 (nbelow_trans bzB hW))) (dcarry_cell hW q0) (dcarry_cell hW q1) (dcarry_cell hW q2)) (fun W hW => whole_calls 0 _ x W (Nat.zero_le _) (hX.keep' (nbelow_trans bB hW)) HGX.out (by have := HLO.out; omega) (HT0.out _ (nbelow_trans bw0 (nbelow_trans bzB hW))))) ?_
  rintro r w3 ⟨_, rfl, ⟨a3, n3, c3, rfl, HN3, hn3, hO3⟩, b3⟩
  have b23 := nbelow_trans bB b3
  rw [HQ.out.1]
  rw [HQ.out.2] at HN3 hO3 ⊢
  clear HQ
  have bC := below_one w3 (.cells #[.bool u.1, .slice a3 n3 c3, .int .i64 u.2.2] 25)
  have d0 : (w3.alloc (.cells #[.bool u.1, .slice a3 n3 c3, .int .i64 u.2.2] 25)).cell? ⟨w3.heap.size, 0, none⟩ = some (.bool u.1) := by go_simp
  have d1 : (w3.alloc (.cells #[.bool u.1, .slice a3 n3 c3, .int .i64 u.2.2] 25)).cell? ⟨w3.heap.size, 1, none⟩ = some (.slice a3 n3 c3) := by go_simp
  have d2 : (w3.alloc (.cells #[.bool u.1, .slice a3 n3 c3, .int .i64 u.2.2] 25)).cell? ⟨w3.heap.size, 2, none⟩ = some (.int .i64 u.2.2) := by go_simp
  have hO3' := (hO3.keep bC).low (Nat.le_trans bz.size bB.size)
  have b24 := nbelow_trans b23 bC
  have sz3 : (((w.alloc (.cells #[.bool s, .slice a len cap, .int .i64 e] 25)).alloc (.cells #[.bool false, .slice none 0 0, .int .i64 0] 25)).alloc (.cells #[.bool false, .slice none 0 0, .int .i64 0] 25)).heap.size ≤ w3.heap.size := Nat.le_trans bz.size b23.size
  replace bz := nbelow_trans bz b24
  replace o0 := dcarry_cell b24 o0
  replace o1 := dcarry_cell b24 o1
  replace o2 := dcarry_cell b24 o2
  replace o3 := dcarry_cell b24 o3
  replace k0 := dcarry_cell b24 k0
  replace k1 := dcarry_cell b24 k1
  replace k2 := dcarry_cell b24 k2
  replace hX := hX.keep' b24
  clear b3 b23 b24 bB bzB bC hO3 q0 q1 q2
  have q0 : ((w3.alloc (.cells #[.bool u.1, .slice a3 n3 c3, .int .i64 u.2.2] 25)).alloc (.cells #[.bool s, .slice a len cap, .int .i64 e] 25)).cell? ⟨w3.heap.size + 1, 0, none⟩ = some (.bool s) := by go_simp
  have q1 : ((w3.alloc (.cells #[.bool u.1, .slice a3 n3 c3, .int .i64 u.2.2] 25)).alloc (.cells #[.bool s, .slice a len cap, .int .i64 e] 25)).cell? ⟨w3.heap.size + 1, 1, none⟩ = some (.slice a len cap) := by go_simp
  have q2 : ((w3.alloc (.cells #[.bool u.1, .slice a3 n3 c3, .int .i64 u.2.2] 25)).alloc (.cells #[.bool s, .slice a len cap, .int .i64 e] 25)).cell? ⟨w3.heap.size + 1, 2, none⟩ = some (.int .i64 e) := by go_simp
  have bw := nbelow_trans bw0 bz
  obtain ⟨m0, m1, m2, f0, f1, f2⟩ := zero_dy (w := w.alloc (.cells #[.bool s, .slice a len cap, .int .i64 e] 25)) (r := w.heap.size + 1) (W' := w3.alloc (.cells #[.bool u.1, .slice a3 n3 c3, .int .i64 u.2.2] 25)) (nbelow_trans (below_one _ _) bz) (by simp)
  obtain ⟨l0, l1, l2, g0, g1, g2⟩ := zero_dy (w := (w.alloc (.cells #[.bool s, .slice a len cap, .int .i64 e] 25)).alloc (.cells #[.bool false, .slice none 0 0, .int .i64 0] 25)) (r := w.heap.size + 1 + 1) (W' := w3.alloc (.cells #[.bool u.1, .slice a3 n3 c3, .int .i64 u.2.2] 25)) bz (by simp)
  clear bz bw0 o0 o1 o2 o3 k0 k1 k2 hX HRR H1 q0 q1 q2
  go_wp2_with fail
  refine bodyPost_ret (v := .tuple #[dyV false none 0 0 0, dyV false none 0 0 0, .int .i64 3]) (by simp [results, Tryd.results23, go_sem, m0, m1, m2, l0, l1, l2]) rfl ⟨_, _, rfl, dyAt_zero _ _, dyAt_zero _ _, ?_⟩
  exact (((((bw.setCell (by show w.heap.size ≤ w.heap.size + 1; omega) _).setCell (by show w.heap.size ≤ w.heap.size + 1; omega) _).setCell (by show w.heap.size ≤ w.heap.size + 1; omega) _).setCell (by show w.heap.size ≤ w.heap.size + 1 + 1; omega) _).setCell (by show w.heap.size ≤ w.heap.size + 1 + 1; omega) _).setCell (by show w.heap.size ≤ w.heap.size + 1 + 1; omega) _

set_option maxRecDepth 100000 in
set_option maxHeartbeats 4000000 in
theorem pfloor_no2 (s : Bool) (a : Option Addr) (len cap : Nat) (xs : List Int) (e : Int) (w : World) (h : IsW w a len cap xs) (hm : len ≤ 17592186044416) (hT : Tab w) (hr : rightB (val xs) e = true) (hu0 : rightB (wholeD (formD s (val xs) e)).2.1 (wholeD (formD s (val xs) e)).2.2 = true) (hv0 : rightB (restD (formD s (val xs) e)).2.1 (restD (formD s (val xs) e)).2.2 = false) :
    Calls Tryd.prog 23 #[dyV s a len cap e] w fun r w' => ∃ v1 v2, r = .returned (.tuple #[v1, v2, .int .i64 (3)]) ∧ DyAt w.heap.size w' v1 ((false, 0, 0)) ∧ DyAt w.heap.size w' v2 ((false, 0, 0)) ∧ Below w.heap.size w w' := by
  have hmf : ∀ (fn : Fn) (first cap : Array Value) (w : World), (Instr.makeFunc fn first cap).run Tryd.prog w = .ok (.func fn first cap) w := fun _ _ _ _ => rfl
  have bw0 : Below w.heap.size w (((w.alloc (.cells #[.bool s, .slice a len cap, .int .i64 e] 25)).alloc (.cells #[.bool false, .slice none 0 0, .int .i64 0] 25)).alloc (.cells #[.bool false, .slice none 0 0, .int .i64 0] 25)) := by repeat (first | exact Below.refl _ _ | refine bl_alloc ?_ _)
  have HC : Hid _ := canonical_calls s a len cap xs e _ (h.keep bw0) hm (hT.kept bw0)
  have HRR : Hid _ := fun b W g q0 q1 q2 => right1_calls b s a len cap xs e W g hm q0 q1 q2
  have H1 : Hid (IsW w a len cap xs) := h
  have hu : roomE (wholeD (formD s (val xs) e)) = 0 ∧ roomP (wholeD (formD s (val xs) e)) = wholeD (formD s (val xs) e) := by
    unfold roomE roomP
    rw [show roomB (wholeD (formD s (val xs) e)) = rightB (wholeD (formD s (val xs) e)).2.1 (wholeD (formD s (val xs) e)).2.2 from rfl, hu0]
    exact ⟨rfl, rfl⟩
  clear hu0
  have hv : roomE (restD (formD s (val xs) e)) = 3 ∧ roomP (restD (formD s (val xs) e)) = (false, 0, 0) := by
    unfold roomE roomP
    rw [show roomB (restD (formD s (val xs) e)) = rightB (restD (formD s (val xs) e)).2.1 (restD (formD s (val xs) e)).2.2 from rfl, hv0]
    exact ⟨rfl, rfl⟩
  clear hv0
  obtain ⟨v, hue⟩ : ∃ v : Bool × Nat × Int, v = (false, 0, 0) := ⟨_, rfl⟩
  rw [← hue] at hv
  clear hue
  rw [hr] at HRR
  have hcg : canG s (val xs) e = formD s (val xs) e := canG_no (rightB_yes hr).1
  rw [hcg] at HC
  have HEB : Hid _ := right_exp hr
  have HGX : Hid _ := form_fit s (val xs) e hr
  have HBX : Hid _ := form_bounds s (val xs) e hr
  have HLO : Hid _ := form_low s (val xs) e hr
  have HCN : Hid _ := form_can s (val xs) e
  generalize formD s (val xs) e = x at *
  have HT0 : Hid (∀ W, Below w.heap.size w W → Tab W) := fun W hW => hT.kept hW
  clear hr h hm hcg hT
  go_enter Tryd.func23, Tryd.ntmps23
  go_wp2_with fail
  refine Calls.mono HC.out ?_
  rintro r w1 ⟨ao, n, c, ex, rfl, HE, HN, HZ, hn, hO, b1⟩
  have k0 : w1.cell? ⟨w.heap.size, 0, none⟩ = some (.bool s) := dcarry_cell b1 (by go_simp)
  have k1 : w1.cell? ⟨w.heap.size, 1, none⟩ = some (.slice a len cap) := dcarry_cell b1 (by go_simp)
  have k2 : w1.cell? ⟨w.heap.size, 2, none⟩ = some (.int .i64 e) := dcarry_cell b1 (by go_simp)
  obtain rfl := HE.out HEB.out.1 HEB.out.2
  have hX : NumAt 0 w1 (numV x.1 ao n c x.2.2 false) x := ⟨ao, n, c, rfl, HN, HZ, hn, hO.low (Nat.zero_le _)⟩
  clear HE HEB HN HZ hn hO
  have bA := below_one w1 (.cells #[.bool x.1, .slice ao n c, .int .i64 x.2.2, .bool false] 47)
  have o0 : (w1.alloc (.cells #[.bool x.1, .slice ao n c, .int .i64 x.2.2, .bool false] 47)).cell? ⟨w1.heap.size, 0, none⟩ = some (.bool x.1) := by go_simp
  have o1 : (w1.alloc (.cells #[.bool x.1, .slice ao n c, .int .i64 x.2.2, .bool false] 47)).cell? ⟨w1.heap.size, 1, none⟩ = some (.slice ao n c) := by go_simp
  have o2 : (w1.alloc (.cells #[.bool x.1, .slice ao n c, .int .i64 x.2.2, .bool false] 47)).cell? ⟨w1.heap.size, 2, none⟩ = some (.int .i64 x.2.2) := by go_simp
  have o3 : (w1.alloc (.cells #[.bool x.1, .slice ao n c, .int .i64 x.2.2, .bool false] 47)).cell? ⟨w1.heap.size, 3, none⟩ = some (.bool false) := by go_simp
  replace k0 := dcarry_cell bA k0
  replace k1 := dcarry_cell bA k1
  replace k2 := dcarry_cell bA k2
  have bz := nbelow_trans b1 bA
  replace hX := hX.keep' bA
  clear b1 bA HC
  have q0 : ((w1.alloc (.cells #[.bool x.1, .slice ao n c, .int .i64 x.2.2, .bool false] 47)).alloc (.cells #[.bool s, .slice a len cap, .int .i64 e] 25)).cell? ⟨w1.heap.size + 1, 0, none⟩ = some (.bool s) := by go_simp
  have q1 : ((w1.alloc (.cells #[.bool x.1, .slice ao n c, .int .i64 x.2.2, .bool false] 47)).alloc (.cells #[.bool s, .slice a len cap, .int .i64 e] 25)).cell? ⟨w1.heap.size + 1, 1, none⟩ = some (.slice a len cap) := by go_simp
  have q2 : ((w1.alloc (.cells #[.bool x.1, .slice ao n c, .int .i64 x.2.2, .bool false] 47)).alloc (.cells #[.bool s, .slice a len cap, .int .i64 e] 25)).cell? ⟨w1.heap.size + 1, 2, none⟩ = some (.int .i64 e) := by go_simp
  go_wp2_with fail
  generalize w1.alloc (.cells #[.bool x.1, .slice ao n c, .int .i64 x.2.2, .bool false] 47) = w2 at *
  obtain ⟨u, HU⟩ : ∃ u, wholeD x = u := ⟨_, rfl⟩
  have HQ : Hid (roomE (wholeD x) = 0 ∧ roomP (wholeD x) = u) := ⟨hu.1, hu.2.trans HU⟩
  clear HU
  have HQ2 : Hid (roomE (restD x) = 3 ∧ roomP (restD x) = v) := hv
  clear hv
  clear hu
  have bB := below_one w2 (.cells #[.bool s, .slice a len cap, .int .i64 e] 25)
  have bzB := nbelow_trans bz bB
  refine Calls.mono (made_whole x.1 ao n c x.2.2 false 0 (wholeD x) _ _ (fun W hW => HRR.out (w1.heap.size + 1) W (H1.out.keep (nbelow_trans bw0 (nbelow_trans bzB hW))) (dcarry_cell hW q0) (dcarry_cell hW q1) (dcarry_cell hW q2)) (fun W hW => whole_calls 0 _ x W (Nat.zero_le _) (hX.keep' (nbelow_trans bB hW)) HGX.out (by have := HLO.out; omega) (HT0.out _ (nbelow_trans bw0 (nbelow_trans bzB hW))))) ?_
  rintro r w3 ⟨_, rfl, ⟨a3, n3, c3, rfl, HN3, hn3, hO3⟩, b3⟩
  have b23 := nbelow_trans bB b3
  rw [HQ.out.1]
  rw [HQ.out.2] at HN3 hO3 ⊢
  clear HQ
  have bC := below_one w3 (.cells #[.bool u.1, .slice a3 n3 c3, .int .i64 u.2.2] 25)
  have d0 : (w3.alloc (.cells #[.bool u.1, .slice a3 n3 c3, .int .i64 u.2.2] 25)).cell? ⟨w3.heap.size, 0, none⟩ = some (.bool u.1) := by go_simp
  have d1 : (w3.alloc (.cells #[.bool u.1, .slice a3 n3 c3, .int .i64 u.2.2] 25)).cell? ⟨w3.heap.size, 1, none⟩ = some (.slice a3 n3 c3) := by go_simp
  have d2 : (w3.alloc (.cells #[.bool u.1, .slice a3 n3 c3, .int .i64 u.2.2] 25)).cell? ⟨w3.heap.size, 2, none⟩ = some (.int .i64 u.2.2) := by go_simp
  have hO3' := (hO3.keep bC).low (Nat.le_trans bz.size bB.size)
  have b24 := nbelow_trans b23 bC
  have sz3 : (((w.alloc (.cells #[.bool s, .slice a len cap, .int .i64 e] 25)).alloc (.cells #[.bool false, .slice none 0 0, .int .i64 0] 25)).alloc (.cells #[.bool false, .slice none 0 0, .int .i64 0] 25)).heap.size ≤ w3.heap.size := Nat.le_trans bz.size b23.size
  replace bz := nbelow_trans bz b24
  replace o0 := dcarry_cell b24 o0
  replace o1 := dcarry_cell b24 o1
  replace o2 := dcarry_cell b24 o2
  replace o3 := dcarry_cell b24 o3
  replace k0 := dcarry_cell b24 k0
  replace k1 := dcarry_cell b24 k1
  replace k2 := dcarry_cell b24 k2
  replace hX := hX.keep' b24
  clear b3 b23 b24 bB bzB bC hO3 q0 q1 q2
  have q0 : ((w3.alloc (.cells #[.bool u.1, .slice a3 n3 c3, .int .i64 u.2.2] 25)).alloc (.cells #[.bool s, .slice a len cap, .int .i64 e] 25)).cell? ⟨w3.heap.size + 1, 0, none⟩ = some (.bool s) := by go_simp
  have q1 : ((w3.alloc (.cells #[.bool u.1, .slice a3 n3 c3, .int .i64 u.2.2] 25)).alloc (.cells #[.bool s, .slice a len cap, .int .i64 e] 25)).cell? ⟨w3.heap.size + 1, 1, none⟩ = some (.slice a len cap) := by go_simp
  have q2 : ((w3.alloc (.cells #[.bool u.1, .slice a3 n3 c3, .int .i64 u.2.2] 25)).alloc (.cells #[.bool s, .slice a len cap, .int .i64 e] 25)).cell? ⟨w3.heap.size + 1, 2, none⟩ = some (.int .i64 e) := by go_simp
  go_wp2_with fail
  generalize w3.alloc (.cells #[.bool u.1, .slice a3 n3 c3, .int .i64 u.2.2] 25) = w4 at *
  have bB := below_one w4 (.cells #[.bool s, .slice a len cap, .int .i64 e] 25)
  have bzB := nbelow_trans bz bB
  refine Calls.mono (made_rest x.1 ao n c x.2.2 false 0 (restD x) _ _ (fun W hW => HRR.out (w3.heap.size + 1) W (H1.out.keep (nbelow_trans bw0 (nbelow_trans bzB hW))) (dcarry_cell hW q0) (dcarry_cell hW q1) (dcarry_cell hW q2)) (fun W hW => rest_calls x.1 ao n c x.2.2 x W (hX.keep' (nbelow_trans bB hW)) HGX.out HCN.out ⟨by have := HLO.out; omega, HBX.out.2⟩ (HT0.out _ (nbelow_trans bw0 (nbelow_trans bzB hW))))) ?_
  rintro r w5 ⟨_, rfl, ⟨a5, n5, c5, rfl, HN5, hn5, hO5⟩, b5⟩
  have b23 := nbelow_trans bB b5
  rw [HQ2.out.1]
  rw [HQ2.out.2] at HN5 hO5 ⊢
  clear HQ2
  have bC := below_one w5 (.cells #[.bool v.1, .slice a5 n5 c5, .int .i64 v.2.2] 25)
  have e0 : (w5.alloc (.cells #[.bool v.1, .slice a5 n5 c5, .int .i64 v.2.2] 25)).cell? ⟨w5.heap.size, 0, none⟩ = some (.bool v.1) := by go_simp
  have e1 : (w5.alloc (.cells #[.bool v.1, .slice a5 n5 c5, .int .i64 v.2.2] 25)).cell? ⟨w5.heap.size, 1, none⟩ = some (.slice a5 n5 c5) := by go_simp
  have e2 : (w5.alloc (.cells #[.bool v.1, .slice a5 n5 c5, .int .i64 v.2.2] 25)).cell? ⟨w5.heap.size, 2, none⟩ = some (.int .i64 v.2.2) := by go_simp
  have hO5' := (hO5.keep bC).low (Nat.le_trans bz.size bB.size)
  have b46 := nbelow_trans b23 bC
  replace hO3' := hO3'.keep b46
  have sz5 : (((w.alloc (.cells #[.bool s, .slice a len cap, .int .i64 e] 25)).alloc (.cells #[.bool false, .slice none 0 0, .int .i64 0] 25)).alloc (.cells #[.bool false, .slice none 0 0, .int .i64 0] 25)).heap.size ≤ w5.heap.size := Nat.le_trans bz.size b23.size
  replace bz := nbelow_trans bz b46
  replace d0 := dcarry_cell b46 d0
  replace d1 := dcarry_cell b46 d1
  replace d2 := dcarry_cell b46 d2
  clear b5 b23 b46 bB bzB bC hO5 o0 o1 o2 o3 k0 k1 k2 hX HRR H1 q0 q1 q2
  have bw := nbelow_trans bw0 bz
  obtain ⟨m0, m1, m2, f0, f1, f2⟩ := zero_dy (w := w.alloc (.cells #[.bool s, .slice a len cap, .int .i64 e] 25)) (r := w.heap.size + 1) (W' := w5.alloc (.cells #[.bool v.1, .slice a5 n5 c5, .int .i64 v.2.2] 25)) (nbelow_trans (below_one _ _) bz) (by simp)
  obtain ⟨l0, l1, l2, g0, g1, g2⟩ := zero_dy (w := (w.alloc (.cells #[.bool s, .slice a len cap, .int .i64 e] 25)).alloc (.cells #[.bool false, .slice none 0 0, .int .i64 0] 25)) (r := w.heap.size + 1 + 1) (W' := w5.alloc (.cells #[.bool v.1, .slice a5 n5 c5, .int .i64 v.2.2] 25)) bz (by simp)
  clear bz bw0
  go_wp2_with fail
  refine bodyPost_ret (v := .tuple #[dyV false none 0 0 0, dyV false none 0 0 0, .int .i64 3]) (by simp [results, Tryd.results23, go_sem, m0, m1, m2, l0, l1, l2]) rfl ⟨_, _, rfl, dyAt_zero _ _, dyAt_zero _ _, ?_⟩
  exact (((((bw.setCell (by show w.heap.size ≤ w.heap.size + 1; omega) _).setCell (by show w.heap.size ≤ w.heap.size + 1; omega) _).setCell (by show w.heap.size ≤ w.heap.size + 1; omega) _).setCell (by show w.heap.size ≤ w.heap.size + 1 + 1; omega) _).setCell (by show w.heap.size ≤ w.heap.size + 1 + 1; omega) _).setCell (by show w.heap.size ≤ w.heap.size + 1 + 1; omega) _

set_option maxRecDepth 100000 in
set_option maxHeartbeats 4000000 in
theorem pfloor_yes (s : Bool) (a : Option Addr) (len cap : Nat) (xs : List Int) (e : Int) (w : World) (h : IsW w a len cap xs) (hm : len ≤ 17592186044416) (hT : Tab w) (hr : rightB (val xs) e = true) (hu0 : rightB (wholeD (formD s (val xs) e)).2.1 (wholeD (formD s (val xs) e)).2.2 = true) (hv0 : rightB (restD (formD s (val xs) e)).2.1 (restD (formD s (val xs) e)).2.2 = true) :
    Calls Tryd.prog 23 #[dyV s a len cap e] w fun r w' => ∃ v1 v2, r = .returned (.tuple #[v1, v2, .int .i64 (0)]) ∧ DyAt w.heap.size w' v1 (wholeD (formD s (val xs) e)) ∧ DyAt w.heap.size w' v2 (restD (formD s (val xs) e)) ∧ Below w.heap.size w w' := by
  have hmf : ∀ (fn : Fn) (first cap : Array Value) (w : World), (Instr.makeFunc fn first cap).run Tryd.prog w = .ok (.func fn first cap) w := fun _ _ _ _ => rfl
  have bw0 : Below w.heap.size w (((w.alloc (.cells #[.bool s, .slice a len cap, .int .i64 e] 25)).alloc (.cells #[.bool false, .slice none 0 0, .int .i64 0] 25)).alloc (.cells #[.bool false, .slice none 0 0, .int .i64 0] 25)) := by repeat (first | exact Below.refl _ _ | refine bl_alloc ?_ _)
  have HC : Hid _ := canonical_calls s a len cap xs e _ (h.keep bw0) hm (hT.kept bw0)
  have HRR : Hid _ := fun b W g q0 q1 q2 => right1_calls b s a len cap xs e W g hm q0 q1 q2
  have H1 : Hid (IsW w a len cap xs) := h
  have hu : roomE (wholeD (formD s (val xs) e)) = 0 ∧ roomP (wholeD (formD s (val xs) e)) = wholeD (formD s (val xs) e) := by
    unfold roomE roomP
    rw [show roomB (wholeD (formD s (val xs) e)) = rightB (wholeD (formD s (val xs) e)).2.1 (wholeD (formD s (val xs) e)).2.2 from rfl, hu0]
    exact ⟨rfl, rfl⟩
  clear hu0
  have hv : roomE (restD (formD s (val xs) e)) = 0 ∧ roomP (restD (formD s (val xs) e)) = restD (formD s (val xs) e) := by
    unfold roomE roomP
    rw [show roomB (restD (formD s (val xs) e)) = rightB (restD (formD s (val xs) e)).2.1 (restD (formD s (val xs) e)).2.2 from rfl, hv0]
    exact ⟨rfl, rfl⟩
  clear hv0
  rw [hr] at HRR
  have hcg : canG s (val xs) e = formD s (val xs) e := canG_no (rightB_yes hr).1
  rw [hcg] at HC
  have HEB : Hid _ := right_exp hr
  have HGX : Hid _ := form_fit s (val xs) e hr
  have HBX : Hid _ := form_bounds s (val xs) e hr
  have HLO : Hid _ := form_low s (val xs) e hr
  have HCN : Hid _ := form_can s (val xs) e
  generalize formD s (val xs) e = x at *
  generalize HU : wholeD x = u
  generalize HV : restD x = v
  have HT0 : Hid (∀ W, Below w.heap.size w W → Tab W) := fun W hW => hT.kept hW
  clear hr h hm hcg hT
  go_enter Tryd.func23, Tryd.ntmps23
  go_wp2_with fail
  refine Calls.mono HC.out ?_
  rintro r w1 ⟨ao, n, c, ex, rfl, HE, HN, HZ, hn, hO, b1⟩
  have k0 : w1.cell? ⟨w.heap.size, 0, none⟩ = some (.bool s) := dcarry_cell b1 (by go_simp)
  have k1 : w1.cell? ⟨w.heap.size, 1, none⟩ = some (.slice a len cap) := dcarry_cell b1 (by go_simp)
  have k2 : w1.cell? ⟨w.heap.size, 2, none⟩ = some (.int .i64 e) := dcarry_cell b1 (by go_simp)
  obtain rfl := HE.out HEB.out.1 HEB.out.2
  have hX : NumAt 0 w1 (numV x.1 ao n c x.2.2 false) x := ⟨ao, n, c, rfl, HN, HZ, hn, hO.low (Nat.zero_le _)⟩
  clear HE HEB HN HZ hn hO
  have bA := below_one w1 (.cells #[.bool x.1, .slice ao n c, .int .i64 x.2.2, .bool false] 47)
  have o0 : (w1.alloc (.cells #[.bool x.1, .slice ao n c, .int .i64 x.2.2, .bool false] 47)).cell? ⟨w1.heap.size, 0, none⟩ = some (.bool x.1) := by go_simp
  have o1 : (w1.alloc (.cells #[.bool x.1, .slice ao n c, .int .i64 x.2.2, .bool false] 47)).cell? ⟨w1.heap.size, 1, none⟩ = some (.slice ao n c) := by go_simp
  have o2 : (w1.alloc (.cells #[.bool x.1, .slice ao n c, .int .i64 x.2.2, .bool false] 47)).cell? ⟨w1.heap.size, 2, none⟩ = some (.int .i64 x.2.2) := by go_simp
  have o3 : (w1.alloc (.cells #[.bool x.1, .slice ao n c, .int .i64 x.2.2, .bool false] 47)).cell? ⟨w1.heap.size, 3, none⟩ = some (.bool false) := by go_simp
  replace k0 := dcarry_cell bA k0
  replace k1 := dcarry_cell bA k1
  replace k2 := dcarry_cell bA k2
  have bz := nbelow_trans b1 bA
  replace hX := hX.keep' bA
  clear b1 bA HC
  have q0 : ((w1.alloc (.cells #[.bool x.1, .slice ao n c, .int .i64 x.2.2, .bool false] 47)).alloc (.cells #[.bool s, .slice a len cap, .int .i64 e] 25)).cell? ⟨w1.heap.size + 1, 0, none⟩ = some (.bool s) := by go_simp
  have q1 : ((w1.alloc (.cells #[.bool x.1, .slice ao n c, .int .i64 x.2.2, .bool false] 47)).alloc (.cells #[.bool s, .slice a len cap, .int .i64 e] 25)).cell? ⟨w1.heap.size + 1, 1, none⟩ = some (.slice a len cap) := by go_simp
  have q2 : ((w1.alloc (.cells #[.bool x.1, .slice ao n c, .int .i64 x.2.2, .bool false] 47)).alloc (.cells #[.bool s, .slice a len cap, .int .i64 e] 25)).cell? ⟨w1.heap.size + 1, 2, none⟩ = some (.int .i64 e) := by go_simp
  go_wp2_with fail
  generalize w1.alloc (.cells #[.bool x.1, .slice ao n c, .int .i64 x.2.2, .bool false] 47) = w2 at *
  have HQ : Hid (roomE (wholeD x) = 0 ∧ roomP (wholeD x) = u) := ⟨hu.1, hu.2.trans HU⟩
  clear HU
  have HQ2 : Hid (roomE (restD x) = 0 ∧ roomP (restD x) = v) := ⟨hv.1, hv.2.trans HV⟩
  clear HV
  clear hv
  clear hu
  have bB := below_one w2 (.cells #[.bool s, .slice a len cap, .int .i64 e] 25)
  have bzB := nbelow_trans bz bB
  refine Calls.mono (made_whole x.1 ao n c x.2.2 false 0 (wholeD x) _ _ (fun W hW => HRR.out (w1.heap.size + 1) W (H1.out.keep (nbelow_trans bw0 (nbelow_trans bzB hW))) (dcarry_cell hW q0) (dcarry_cell hW q1) (dcarry_cell hW q2)) (fun W hW => whole_calls 0 _ x W (Nat.zero_le _) (hX.keep' (nbelow_trans bB hW)) HGX.out (by have := HLO.out; omega) (HT0.out _ (nbelow_trans bw0 (nbelow_trans bzB hW))))) ?_
  rintro r w3 ⟨_, rfl, ⟨a3, n3, c3, rfl, HN3, hn3, hO3⟩, b3⟩
  have b23 := nbelow_trans bB b3
  rw [HQ.out.1]
  rw [HQ.out.2] at HN3 hO3 ⊢
  clear HQ
  have bC := below_one w3 (.cells #[.bool u.1, .slice a3 n3 c3, .int .i64 u.2.2] 25)
  have d0 : (w3.alloc (.cells #[.bool u.1, .slice a3 n3 c3, .int .i64 u.2.2] 25)).cell? ⟨w3.heap.size, 0, none⟩ = some (.bool u.1) := by go_simp
  have d1 : (w3.alloc (.cells #[.bool u.1, .slice a3 n3 c3, .int .i64 u.2.2] 25)).cell? ⟨w3.heap.size, 1, none⟩ = some (.slice a3 n3 c3) := by go_simp
  have d2 : (w3.alloc (.cells #[.bool u.1, .slice a3 n3 c3, .int .i64 u.2.2] 25)).cell? ⟨w3.heap.size, 2, none⟩ = some (.int .i64 u.2.2) := by go_simp
  have hO3' := (hO3.keep bC).low (Nat.le_trans bz.size bB.size)
  have b24 := nbelow_trans b23 bC
  have sz3 : (((w.alloc (.cells #[.bool s, .slice a len cap, .int .i64 e] 25)).alloc (.cells #[.bool false, .slice none 0 0, .int .i64 0] 25)).alloc (.cells #[.bool false, .slice none 0 0, .int .i64 0] 25)).heap.size ≤ w3.heap.size := Nat.le_trans bz.size b23.size
  replace bz := nbelow_trans bz b24
  replace o0 := dcarry_cell b24 o0
  replace o1 := dcarry_cell b24 o1
  replace o2 := dcarry_cell b24 o2
  replace o3 := dcarry_cell b24 o3
  replace k0 := dcarry_cell b24 k0
  replace k1 := dcarry_cell b24 k1
  replace k2 := dcarry_cell b24 k2
  replace hX := hX.keep' b24
  clear b3 b23 b24 bB bzB bC hO3 q0 q1 q2
  have q0 : ((w3.alloc (.cells #[.bool u.1, .slice a3 n3 c3, .int .i64 u.2.2] 25)).alloc (.cells #[.bool s, .slice a len cap, .int .i64 e] 25)).cell? ⟨w3.heap.size + 1, 0, none⟩ = some (.bool s) := by go_simp
  have q1 : ((w3.alloc (.cells #[.bool u.1, .slice a3 n3 c3, .int .i64 u.2.2] 25)).alloc (.cells #[.bool s, .slice a len cap, .int .i64 e] 25)).cell? ⟨w3.heap.size + 1, 1, none⟩ = some (.slice a len cap) := by go_simp
  have q2 : ((w3.alloc (.cells #[.bool u.1, .slice a3 n3 c3, .int .i64 u.2.2] 25)).alloc (.cells #[.bool s, .slice a len cap, .int .i64 e] 25)).cell? ⟨w3.heap.size + 1, 2, none⟩ = some (.int .i64 e) := by go_simp
  go_wp2_with fail
  generalize w3.alloc (.cells #[.bool u.1, .slice a3 n3 c3, .int .i64 u.2.2] 25) = w4 at *
  have bB := below_one w4 (.cells #[.bool s, .slice a len cap, .int .i64 e] 25)
  have bzB := nbelow_trans bz bB
  refine Calls.mono (made_rest x.1 ao n c x.2.2 false 0 (restD x) _ _ (fun W hW => HRR.out (w3.heap.size + 1) W (H1.out.keep (nbelow_trans bw0 (nbelow_trans bzB hW))) (dcarry_cell hW q0) (dcarry_cell hW q1) (dcarry_cell hW q2)) (fun W hW => rest_calls x.1 ao n c x.2.2 x W (hX.keep' (nbelow_trans bB hW)) HGX.out HCN.out ⟨by have := HLO.out; omega, HBX.out.2⟩ (HT0.out _ (nbelow_trans bw0 (nbelow_trans bzB hW))))) ?_
  rintro r w5 ⟨_, rfl, ⟨a5, n5, c5, rfl, HN5, hn5, hO5⟩, b5⟩
  have b23 := nbelow_trans bB b5
  rw [HQ2.out.1]
  rw [HQ2.out.2] at HN5 hO5 ⊢
  clear HQ2
  have bC := below_one w5 (.cells #[.bool v.1, .slice a5 n5 c5, .int .i64 v.2.2] 25)
  have e0 : (w5.alloc (.cells #[.bool v.1, .slice a5 n5 c5, .int .i64 v.2.2] 25)).cell? ⟨w5.heap.size, 0, none⟩ = some (.bool v.1) := by go_simp
  have e1 : (w5.alloc (.cells #[.bool v.1, .slice a5 n5 c5, .int .i64 v.2.2] 25)).cell? ⟨w5.heap.size, 1, none⟩ = some (.slice a5 n5 c5) := by go_simp
  have e2 : (w5.alloc (.cells #[.bool v.1, .slice a5 n5 c5, .int .i64 v.2.2] 25)).cell? ⟨w5.heap.size, 2, none⟩ = some (.int .i64 v.2.2) := by go_simp
  have hO5' := (hO5.keep bC).low (Nat.le_trans bz.size bB.size)
  have b46 := nbelow_trans b23 bC
  replace hO3' := hO3'.keep b46
  have sz5 : (((w.alloc (.cells #[.bool s, .slice a len cap, .int .i64 e] 25)).alloc (.cells #[.bool false, .slice none 0 0, .int .i64 0] 25)).alloc (.cells #[.bool false, .slice none 0 0, .int .i64 0] 25)).heap.size ≤ w5.heap.size := Nat.le_trans bz.size b23.size
  replace bz := nbelow_trans bz b46
  replace d0 := dcarry_cell b46 d0
  replace d1 := dcarry_cell b46 d1
  replace d2 := dcarry_cell b46 d2
  clear b5 b23 b46 bB bzB bC hO5 o0 o1 o2 o3 k0 k1 k2 hX HRR H1 q0 q1 q2
  have bw := nbelow_trans bw0 bz
  obtain ⟨m0, m1, m2, f0, f1, f2⟩ := zero_dy (w := w.alloc (.cells #[.bool s, .slice a len cap, .int .i64 e] 25)) (r := w.heap.size + 1) (W' := w5.alloc (.cells #[.bool v.1, .slice a5 n5 c5, .int .i64 v.2.2] 25)) (nbelow_trans (below_one _ _) bz) (by simp)
  obtain ⟨l0, l1, l2, g0, g1, g2⟩ := zero_dy (w := (w.alloc (.cells #[.bool s, .slice a len cap, .int .i64 e] 25)).alloc (.cells #[.bool false, .slice none 0 0, .int .i64 0] 25)) (r := w.heap.size + 1 + 1) (W' := w5.alloc (.cells #[.bool v.1, .slice a5 n5 c5, .int .i64 v.2.2] 25)) bz (by simp)
  clear bz bw0
  have HS0 : Hid ((((w.alloc (.cells #[.bool s, .slice a len cap, .int .i64 e] 25)).alloc (.cells #[.bool false, .slice none 0 0, .int .i64 0] 25)).alloc (.cells #[.bool false, .slice none 0 0, .int .i64 0] 25)).heap.size = w.heap.size + 1 + 1 + 1) := by simp [Hid]
  have nd1 : w3.heap.size ≠ w.heap.size + 1 := by have := HS0.out; omega
  have nd2 : w3.heap.size ≠ w.heap.size + 1 + 1 := by have := HS0.out; omega
  have ne1 : w5.heap.size ≠ w.heap.size + 1 := by have := HS0.out; omega
  have ne2 : w5.heap.size ≠ w.heap.size + 1 + 1 := by have := HS0.out; omega
  have nx : w.heap.size + 1 + 1 ≠ w.heap.size + 1 := by omega
  clear sz3 sz5
  go_upto_region 8 with fail
  generalize w5.alloc (.cells #[.bool v.1, .slice a5 n5 c5, .int .i64 v.2.2] 25) = wz at *
  have bd : Below wz.heap.size wz wz.drew := (Below.refl _ _).drew
  refine wp_region_held (S := fun w' => w'.cell? ⟨w3.heap.size, 0, none⟩ = some (.bool u.1) ∧ w'.cell? ⟨w3.heap.size, 1, none⟩ = some (.slice a3 n3 c3) ∧ w'.cell? ⟨w3.heap.size, 2, none⟩ = some (.int .i64 u.2.2) ∧ w'.cell? ⟨w5.heap.size, 0, none⟩ = some (.bool v.1) ∧ w'.cell? ⟨w5.heap.size, 1, none⟩ = some (.slice a5 n5 c5) ∧ w'.cell? ⟨w5.heap.size, 2, none⟩ = some (.int .i64 v.2.2)) (by kernel_rfl) ?_
  change wpAnyH _ _ _ _ _ _ _ _ (World.drew wz)
  replace d0 := dcarry_cell bd d0
  replace d1 := dcarry_cell bd d1
  replace d2 := dcarry_cell bd d2
  replace e0 := dcarry_cell bd e0
  replace e1 := dcarry_cell bd e1
  replace e2 := dcarry_cell bd e2
  replace f0 := dcarry_frozen bd m0 f0
  replace f1 := dcarry_frozen bd m1 f1
  replace f2 := dcarry_frozen bd m2 f2
  replace g0 := dcarry_frozen bd l0 g0
  replace g1 := dcarry_frozen bd l1 g1
  replace g2 := dcarry_frozen bd l2 g2
  replace m0 := dcarry_cell bd m0
  replace m1 := dcarry_cell bd m1
  replace m2 := dcarry_cell bd m2
  replace l0 := dcarry_cell bd l0
  replace l1 := dcarry_cell bd l1
  replace l2 := dcarry_cell bd l2
  replace hO3' := hO3'.keep bd
  replace hO5' := hO5'.keep bd
  replace bw := nbelow_trans bw bd
  clear bd
  generalize World.drew wz = wd at *
  refine wpAnyH_take (i := 0) (v := .agg #[.bool u.1, .slice a3 n3 c3, .int .i64 u.2.2]) rfl (by kernel_rfl) (by kernel_rfl) (by kernel_rfl) (fun _ _ _ h => h) (Or.inl ⟨by rfl, ?y0⟩) ⟨d0, d1, d2, e0, e1, e2⟩ ?r0
  case y0 => (rintro ww ⟨q0, q1, q2, q3, q4, q5⟩; go_simp)
  try simp only [Act.put]
  refine wpAnyH_take (i := 1) (v := .agg #[.bool v.1, .slice a5 n5 c5, .int .i64 v.2.2]) rfl (by kernel_rfl) (by kernel_rfl) (by kernel_rfl) (fun _ _ _ h => h) (Or.inl ⟨by rfl, ?y1⟩) ⟨d0, d1, d2, e0, e1, e2⟩ ?r1
  case y1 => (rintro ww ⟨q0, q1, q2, q3, q4, q5⟩; go_simp)
  try simp only [Act.put]
  refine wpAnyH_ready (rs := [2]) (by kernel_rfl) (by simp) ?_
  refine AllReadyH.cons rfl (fun K hK => ?_) AllReadyH.nil
  go_simp
  refine hK.out _ _ ⟨set3_cell d0 nd1, set3_cell d1 nd1, set3_cell d2 nd1, set3_cell e0 ne1, set3_cell e1 ne1, set3_cell e2 ne1⟩ (fun _ => ?_)
  clear hK K
  try simp only [Act.put, List.setIfInBounds_toArray, List.set_cons_zero, List.set_cons_succ]
  refine wpAnyH_ready (rs := [3]) (by kernel_rfl) (by simp) ?_
  refine AllReadyH.cons rfl (fun K hK => ?_) AllReadyH.nil
  go_simp
  refine hK.out _ _ ⟨set3_cell (set3_cell d0 nd1) nd2, set3_cell (set3_cell d1 nd1) nd2, set3_cell (set3_cell d2 nd1) nd2, set3_cell (set3_cell e0 ne1) ne2, set3_cell (set3_cell e1 ne1) ne2, set3_cell (set3_cell e2 ne1) ne2⟩ (fun _ => ?_)
  clear hK K
  try simp only [Act.put, List.setIfInBounds_toArray, List.set_cons_zero, List.set_cons_succ]
  refine wpAnyH_ready (rs := [4]) (by kernel_rfl) (by simp) ?_
  refine AllReadyH.cons rfl (fun K hK => ?_) AllReadyH.nil
  go_simp
  refine hK.out _ _ ⟨set3_cell (set3_cell d0 nd1) nd2, set3_cell (set3_cell d1 nd1) nd2, set3_cell (set3_cell d2 nd1) nd2, set3_cell (set3_cell e0 ne1) ne2, set3_cell (set3_cell e1 ne1) ne2, set3_cell (set3_cell e2 ne1) ne2⟩ (fun _ => ?_)
  clear hK K
  try simp only [Act.put, List.setIfInBounds_toArray, List.set_cons_zero, List.set_cons_succ]
  refine wpAnyH_done (by kernel_rfl) ?_ _
  go_wp2_with fail
  refine bodyPost_ret (v := .tuple #[dyV u.1 a3 n3 c3 u.2.2, dyV v.1 a5 n5 c5 v.2.2, .int .i64 0]) (by simp [results, Tryd.results23, go_sem, m0, m1, m2, l0, l1, l2]) rfl ⟨_, _, rfl, ⟨a3, n3, c3, rfl, HN3, hn3, (((((((hO3'.far _ _ (by show w.heap.size + 1 < _; rw [HS0.out]; omega)).far _ _ (by show w.heap.size + 1 < _; rw [HS0.out]; omega)).far _ _ (by show w.heap.size + 1 < _; rw [HS0.out]; omega)).far _ _ (by show w.heap.size + 1 + 1 < _; rw [HS0.out]; omega)).far _ _ (by show w.heap.size + 1 + 1 < _; rw [HS0.out]; omega)).far _ _ (by show w.heap.size + 1 + 1 < _; rw [HS0.out]; omega)).low (by rw [HS0.out]; omega))⟩, ⟨a5, n5, c5, rfl, HN5, hn5, (((((((hO5'.far _ _ (by show w.heap.size + 1 < _; rw [HS0.out]; omega)).far _ _ (by show w.heap.size + 1 < _; rw [HS0.out]; omega)).far _ _ (by show w.heap.size + 1 < _; rw [HS0.out]; omega)).far _ _ (by show w.heap.size + 1 + 1 < _; rw [HS0.out]; omega)).far _ _ (by show w.heap.size + 1 + 1 < _; rw [HS0.out]; omega)).far _ _ (by show w.heap.size + 1 + 1 < _; rw [HS0.out]; omega)).low (by rw [HS0.out]; omega))⟩, (((((bw.setCell (by show w.heap.size ≤ w.heap.size + 1; omega) _).setCell (by show w.heap.size ≤ w.heap.size + 1; omega) _).setCell (by show w.heap.size ≤ w.heap.size + 1; omega) _).setCell (by show w.heap.size ≤ w.heap.size + 1 + 1; omega) _).setCell (by show w.heap.size ≤ w.heap.size + 1 + 1; omega) _).setCell (by show w.heap.size ≤ w.heap.size + 1 + 1; omega) _⟩

theorem pFloor_calls (s : Bool) (a : Option Addr) (len cap : Nat) (xs : List Int) (e : Int) (w : World) (h : IsW w a len cap xs) (hm : len ≤ 17592186044416) (hT : Tab w) :
    Calls Tryd.prog 23 #[dyV s a len cap e] w fun r w' => ∃ v1 v2, r = .returned (.tuple #[v1, v2, .int .i64 (flE s (val xs) e)]) ∧ DyAt w.heap.size w' v1 (flW s (val xs) e) ∧ DyAt w.heap.size w' v2 (flR s (val xs) e) ∧ Below w.heap.size w w' := by
  cases hr : rightB (val xs) e with
  | false =>
    obtain ⟨e1, e2, e3⟩ := fl_right (s := s) hr
    rw [e1, e2, e3]
    exact pfloor_not s a len cap xs e w h hm hT hr
  | true =>
    cases h1 : rightB (wholeD (formD s (val xs) e)).2.1 (wholeD (formD s (val xs) e)).2.2 with
    | false =>
      obtain ⟨e1, e2, e3⟩ := fl_no (s := s) hr (by unfold flP; rw [h1]; rfl)
      rw [e1, e2, e3]
      exact pfloor_no1 s a len cap xs e w h hm hT hr h1
    | true =>
      cases h2 : rightB (restD (formD s (val xs) e)).2.1 (restD (formD s (val xs) e)).2.2 with
      | false =>
        obtain ⟨e1, e2, e3⟩ := fl_no (s := s) hr (by unfold flP; rw [h1, h2]; rfl)
        rw [e1, e2, e3]
        exact pfloor_no2 s a len cap xs e w h hm hT hr h1 h2
      | true =>
        obtain ⟨e1, e2, e3⟩ := fl_yes (s := s) hr (by unfold flP; rw [h1, h2]; rfl)
        rw [e1, e2, e3]
        exact pfloor_yes s a len cap xs e w h hm hT hr h1 h2

end

section
open Go.RowKit

set_option maxRecDepth 100000 in
set_option maxHeartbeats 4000000 in
theorem dyadCuts_walk (s : Bool) (a : Option Addr) (len cap : Nat) (xs : List Int) (e : Int) (i : Int) (up : Bool) (w : World) (h : IsW w a len cap xs) (hm : len ≤ 17592186044000) (_he : -9223372036854775808 ≤ e ∧ e ≤ 9223372036854775807) (hi : -9223372036854775808 ≤ i ∧ i ≤ 9223372036854775807) (hT : Tab w) :
    Calls Tryd.prog 5 #[dyV s a len cap e, .int .i64 i, .bool up] w fun r w' => r = .returned (.bool true) ∧ Below w.heap.size w w' := by
  have hT0 : Hid (∀ w', Below w.heap.size w w' → Tab w') := fun w' hb => hT.kept hb
  have HC1 : Hid _ := fun w' g t => pCut_calls s a len cap xs e i up w' g (by omega) t hi.2
  have HC2 : Hid _ := fun w' g => qCut_calls s a len cap xs e i up w' g hm hi.2
  have HF1 : Hid _ := fun w' g t => pFloor_calls s a len cap xs e w' g (by omega) t
  have HF2 : Hid _ := fun w' g => qFloor_calls s a len cap xs e w' g hm
  clear hm hT hi
  generalize ctE s (val xs) e i up = cE at *
  generalize ctP s (val xs) e i up = cP at *
  generalize flE s (val xs) e = fE at *
  generalize flW s (val xs) e = fW at *
  generalize flR s (val xs) e = fR at *
  have HS1 : Hid _ := fun a1 n1 c1 a2 n2 c2 w' g q1 g2 q2 => qSame_calls cP.1 a1 n1 c1 (wordsOf cP.2.1) cP.2.2 cP.1 a2 n2 c2 (wordsOf cP.2.1) cP.2.2 w' g q1 g2 q2
  rw [sameB_self] at HS1
  have HS2 : Hid _ := fun a1 n1 c1 a2 n2 c2 w' g q1 g2 q2 => qSame_calls fW.1 a1 n1 c1 (wordsOf fW.2.1) fW.2.2 fW.1 a2 n2 c2 (wordsOf fW.2.1) fW.2.2 w' g q1 g2 q2
  rw [sameB_self] at HS2
  have HS3 : Hid _ := fun a1 n1 c1 a2 n2 c2 w' g q1 g2 q2 => qSame_calls fR.1 a1 n1 c1 (wordsOf fR.2.1) fR.2.2 fR.1 a2 n2 c2 (wordsOf fR.2.1) fR.2.2 w' g q1 g2 q2
  rw [sameB_self] at HS3
  have b0 := below_one w (.cells #[.bool s, .slice a len cap, .int .i64 e] 25)
  have D0 : (w.alloc (.cells #[.bool s, .slice a len cap, .int .i64 e] 25)).cell? ⟨w.heap.size, 0, none⟩ = some (.bool s) := by go_simp
  have D1 : (w.alloc (.cells #[.bool s, .slice a len cap, .int .i64 e] 25)).cell? ⟨w.heap.size, 1, none⟩ = some (.slice a len cap) := by go_simp
  have D2 : (w.alloc (.cells #[.bool s, .slice a len cap, .int .i64 e] 25)).cell? ⟨w.heap.size, 2, none⟩ = some (.int .i64 e) := by go_simp
  have DI := h.keep b0
  clear h
  go_enter Tryd.func5, Tryd.ntmps5
  go_wp2_with fail
  generalize w.alloc (.cells #[.bool s, .slice a len cap, .int .i64 e] 25) = w0 at *
  refine Calls.mono (HC1.out _ DI (hT0.out _ b0)) ?_
  rintro r w1 ⟨_, rfl, ⟨a1, n1, c1, rfl, HN1, hn1, hO1⟩, b1⟩
  replace D0 := dcarry_cell b1 D0
  replace D1 := dcarry_cell b1 D1
  replace D2 := dcarry_cell b1 D2
  replace DI := DI.keep b1
  have bw1 := nbelow_trans b0 b1
  have hI1 := hO1.1
  clear hO1 b1 b0
  have bA := below_one w1 (.cells #[.bool cP.1, .slice a1 n1 c1, .int .i64 cP.2.2] 25)
  replace D0 := dcarry_cell bA D0
  replace D1 := dcarry_cell bA D1
  replace D2 := dcarry_cell bA D2
  replace DI := DI.keep bA
  replace hI1 := hI1.keep bA
  have A0 : (w1.alloc (.cells #[.bool cP.1, .slice a1 n1 c1, .int .i64 cP.2.2] 25)).cell? ⟨w1.heap.size, 0, none⟩ = some (.bool cP.1) := by go_simp
  have A1 : (w1.alloc (.cells #[.bool cP.1, .slice a1 n1 c1, .int .i64 cP.2.2] 25)).cell? ⟨w1.heap.size, 1, none⟩ = some (.slice a1 n1 c1) := by go_simp
  have A2 : (w1.alloc (.cells #[.bool cP.1, .slice a1 n1 c1, .int .i64 cP.2.2] 25)).cell? ⟨w1.heap.size, 2, none⟩ = some (.int .i64 cP.2.2) := by go_simp
  have AI := hI1
  have bw2_0 := nbelow_trans bw1 bA
  clear bA bw1
  have bw2 := bw2_0
  clear bw2_0 hI1
  go_wp2_with fail
  generalize w1.alloc (.cells #[.bool cP.1, .slice a1 n1 c1, .int .i64 cP.2.2] 25) = w2 at *
  refine Calls.mono (HC2.out _ DI) ?_
  rintro r w3 ⟨_, rfl, ⟨a3, n3, c3, rfl, HN3, hO3⟩, b3⟩
  replace D0 := dcarry_cell b3 D0
  replace D1 := dcarry_cell b3 D1
  replace D2 := dcarry_cell b3 D2
  replace DI := DI.keep b3
  replace A0 := dcarry_cell b3 A0
  replace A1 := dcarry_cell b3 A1
  replace A2 := dcarry_cell b3 A2
  replace AI := AI.keep b3
  have bw3 := nbelow_trans bw2 b3
  have hI3 := hO3.1
  clear hO3 b3 bw2
  have hn3 : n3 ≤ 1024 := by have := HN3.out; have := HN1.out; omega
  clear HN1 HN3
  have bA := below_one w3 (.cells #[.bool cP.1, .slice a3 n3 c3, .int .i64 cP.2.2] 25)
  replace D0 := dcarry_cell bA D0
  replace D1 := dcarry_cell bA D1
  replace D2 := dcarry_cell bA D2
  replace DI := DI.keep bA
  replace A0 := dcarry_cell bA A0
  replace A1 := dcarry_cell bA A1
  replace A2 := dcarry_cell bA A2
  replace AI := AI.keep bA
  replace hI3 := hI3.keep bA
  have B0 : (w3.alloc (.cells #[.bool cP.1, .slice a3 n3 c3, .int .i64 cP.2.2] 25)).cell? ⟨w3.heap.size, 0, none⟩ = some (.bool cP.1) := by go_simp
  have B1 : (w3.alloc (.cells #[.bool cP.1, .slice a3 n3 c3, .int .i64 cP.2.2] 25)).cell? ⟨w3.heap.size, 1, none⟩ = some (.slice a3 n3 c3) := by go_simp
  have B2 : (w3.alloc (.cells #[.bool cP.1, .slice a3 n3 c3, .int .i64 cP.2.2] 25)).cell? ⟨w3.heap.size, 2, none⟩ = some (.int .i64 cP.2.2) := by go_simp
  have BI := hI3
  have bw4_0 := nbelow_trans bw3 bA
  clear bA bw3
  have bw4 := bw4_0
  clear bw4_0 hI3
  go_wp2_with fail
  generalize w3.alloc (.cells #[.bool cP.1, .slice a3 n3 c3, .int .i64 cP.2.2] 25) = w4 at *
  refine Calls.mono (HF1.out _ DI (hT0.out _ bw4)) ?_
  rintro r w5 ⟨_, _, rfl, ⟨a5, n5, c5, rfl, HN5, hn5, hO5⟩, ⟨a6, n6, c6, rfl, HN6, hn6, hO6⟩, b5⟩
  replace D0 := dcarry_cell b5 D0
  replace D1 := dcarry_cell b5 D1
  replace D2 := dcarry_cell b5 D2
  replace DI := DI.keep b5
  replace A0 := dcarry_cell b5 A0
  replace A1 := dcarry_cell b5 A1
  replace A2 := dcarry_cell b5 A2
  replace AI := AI.keep b5
  replace B0 := dcarry_cell b5 B0
  replace B1 := dcarry_cell b5 B1
  replace B2 := dcarry_cell b5 B2
  replace BI := BI.keep b5
  have bw5 := nbelow_trans bw4 b5
  have hI5 := hO5.1
  have hI6 := hO6.1
  clear hO5 hO6 b5 bw4
  have bA := below_one w5 (.cells #[.bool fW.1, .slice a5 n5 c5, .int .i64 fW.2.2] 25)
  replace D0 := dcarry_cell bA D0
  replace D1 := dcarry_cell bA D1
  replace D2 := dcarry_cell bA D2
  replace DI := DI.keep bA
  replace A0 := dcarry_cell bA A0
  replace A1 := dcarry_cell bA A1
  replace A2 := dcarry_cell bA A2
  replace AI := AI.keep bA
  replace B0 := dcarry_cell bA B0
  replace B1 := dcarry_cell bA B1
  replace B2 := dcarry_cell bA B2
  replace BI := BI.keep bA
  replace hI5 := hI5.keep bA
  replace hI6 := hI6.keep bA
  have C0 : (w5.alloc (.cells #[.bool fW.1, .slice a5 n5 c5, .int .i64 fW.2.2] 25)).cell? ⟨w5.heap.size, 0, none⟩ = some (.bool fW.1) := by go_simp
  have C1 : (w5.alloc (.cells #[.bool fW.1, .slice a5 n5 c5, .int .i64 fW.2.2] 25)).cell? ⟨w5.heap.size, 1, none⟩ = some (.slice a5 n5 c5) := by go_simp
  have C2 : (w5.alloc (.cells #[.bool fW.1, .slice a5 n5 c5, .int .i64 fW.2.2] 25)).cell? ⟨w5.heap.size, 2, none⟩ = some (.int .i64 fW.2.2) := by go_simp
  have CI := hI5
  have bw6_0 := nbelow_trans bw5 bA
  clear bA bw5
  have bA := below_one (w5.alloc (.cells #[.bool fW.1, .slice a5 n5 c5, .int .i64 fW.2.2] 25)) (.cells #[.bool fR.1, .slice a6 n6 c6, .int .i64 fR.2.2] 25)
  replace D0 := dcarry_cell bA D0
  replace D1 := dcarry_cell bA D1
  replace D2 := dcarry_cell bA D2
  replace DI := DI.keep bA
  replace A0 := dcarry_cell bA A0
  replace A1 := dcarry_cell bA A1
  replace A2 := dcarry_cell bA A2
  replace AI := AI.keep bA
  replace B0 := dcarry_cell bA B0
  replace B1 := dcarry_cell bA B1
  replace B2 := dcarry_cell bA B2
  replace BI := BI.keep bA
  replace C0 := dcarry_cell bA C0
  replace C1 := dcarry_cell bA C1
  replace C2 := dcarry_cell bA C2
  replace CI := CI.keep bA
  replace hI5 := hI5.keep bA
  replace hI6 := hI6.keep bA
  have E0 : ((w5.alloc (.cells #[.bool fW.1, .slice a5 n5 c5, .int .i64 fW.2.2] 25)).alloc (.cells #[.bool fR.1, .slice a6 n6 c6, .int .i64 fR.2.2] 25)).cell? ⟨w5.heap.size + 1, 0, none⟩ = some (.bool fR.1) := by go_simp
  have E1 : ((w5.alloc (.cells #[.bool fW.1, .slice a5 n5 c5, .int .i64 fW.2.2] 25)).alloc (.cells #[.bool fR.1, .slice a6 n6 c6, .int .i64 fR.2.2] 25)).cell? ⟨w5.heap.size + 1, 1, none⟩ = some (.slice a6 n6 c6) := by go_simp
  have E2 : ((w5.alloc (.cells #[.bool fW.1, .slice a5 n5 c5, .int .i64 fW.2.2] 25)).alloc (.cells #[.bool fR.1, .slice a6 n6 c6, .int .i64 fR.2.2] 25)).cell? ⟨w5.heap.size + 1, 2, none⟩ = some (.int .i64 fR.2.2) := by go_simp
  have EI := hI6
  have bw6_1 := nbelow_trans bw6_0 bA
  clear bA bw6_0
  have bw6 := bw6_1
  clear bw6_1 hI5 hI6
  go_wp2_with fail
  generalize (w5.alloc (.cells #[.bool fW.1, .slice a5 n5 c5, .int .i64 fW.2.2] 25)).alloc (.cells #[.bool fR.1, .slice a6 n6 c6, .int .i64 fR.2.2] 25) = w6 at *
  refine Calls.mono (HF2.out _ DI) ?_
  rintro r w7 ⟨_, _, rfl, ⟨a7, n7, c7, rfl, HN7, hO7⟩, ⟨a8, n8, c8, rfl, HN8, hO8⟩, b7⟩
  replace D0 := dcarry_cell b7 D0
  replace D1 := dcarry_cell b7 D1
  replace D2 := dcarry_cell b7 D2
  replace DI := DI.keep b7
  replace A0 := dcarry_cell b7 A0
  replace A1 := dcarry_cell b7 A1
  replace A2 := dcarry_cell b7 A2
  replace AI := AI.keep b7
  replace B0 := dcarry_cell b7 B0
  replace B1 := dcarry_cell b7 B1
  replace B2 := dcarry_cell b7 B2
  replace BI := BI.keep b7
  replace C0 := dcarry_cell b7 C0
  replace C1 := dcarry_cell b7 C1
  replace C2 := dcarry_cell b7 C2
  replace CI := CI.keep b7
  replace E0 := dcarry_cell b7 E0
  replace E1 := dcarry_cell b7 E1
  replace E2 := dcarry_cell b7 E2
  replace EI := EI.keep b7
  have bw7 := nbelow_trans bw6 b7
  have hI7 := hO7.1
  have hI8 := hO8.1
  clear hO7 hO8 b7 bw6
  have hn7 : n7 ≤ 1024 := by have := HN7.out; have := HN5.out; omega
  have hn8 : n8 ≤ 1024 := by have := HN8.out; have := HN6.out; omega
  clear HN5 HN6 HN7 HN8 D0 D1 D2 DI
  have bA := below_one w7 (.cells #[.bool fW.1, .slice a7 n7 c7, .int .i64 fW.2.2] 25)
  replace A0 := dcarry_cell bA A0
  replace A1 := dcarry_cell bA A1
  replace A2 := dcarry_cell bA A2
  replace AI := AI.keep bA
  replace B0 := dcarry_cell bA B0
  replace B1 := dcarry_cell bA B1
  replace B2 := dcarry_cell bA B2
  replace BI := BI.keep bA
  replace C0 := dcarry_cell bA C0
  replace C1 := dcarry_cell bA C1
  replace C2 := dcarry_cell bA C2
  replace CI := CI.keep bA
  replace E0 := dcarry_cell bA E0
  replace E1 := dcarry_cell bA E1
  replace E2 := dcarry_cell bA E2
  replace EI := EI.keep bA
  replace hI7 := hI7.keep bA
  replace hI8 := hI8.keep bA
  have F0 : (w7.alloc (.cells #[.bool fW.1, .slice a7 n7 c7, .int .i64 fW.2.2] 25)).cell? ⟨w7.heap.size, 0, none⟩ = some (.bool fW.1) := by go_simp
  have F1 : (w7.alloc (.cells #[.bool fW.1, .slice a7 n7 c7, .int .i64 fW.2.2] 25)).cell? ⟨w7.heap.size, 1, none⟩ = some (.slice a7 n7 c7) := by go_simp
  have F2 : (w7.alloc (.cells #[.bool fW.1, .slice a7 n7 c7, .int .i64 fW.2.2] 25)).cell? ⟨w7.heap.size, 2, none⟩ = some (.int .i64 fW.2.2) := by go_simp
  have FI := hI7
  have bw8_0 := nbelow_trans bw7 bA
  clear bA bw7
  have bA := below_one (w7.alloc (.cells #[.bool fW.1, .slice a7 n7 c7, .int .i64 fW.2.2] 25)) (.cells #[.bool fR.1, .slice a8 n8 c8, .int .i64 fR.2.2] 25)
  replace A0 := dcarry_cell bA A0
  replace A1 := dcarry_cell bA A1
  replace A2 := dcarry_cell bA A2
  replace AI := AI.keep bA
  replace B0 := dcarry_cell bA B0
  replace B1 := dcarry_cell bA B1
  replace B2 := dcarry_cell bA B2
  replace BI := BI.keep bA
  replace C0 := dcarry_cell bA C0
  replace C1 := dcarry_cell bA C1
  replace C2 := dcarry_cell bA C2
  replace CI := CI.keep bA
  replace E0 := dcarry_cell bA E0
  replace E1 := dcarry_cell bA E1
  replace E2 := dcarry_cell bA E2
  replace EI := EI.keep bA
  replace F0 := dcarry_cell bA F0
  replace F1 := dcarry_cell bA F1
  replace F2 := dcarry_cell bA F2
  replace FI := FI.keep bA
  replace hI7 := hI7.keep bA
  replace hI8 := hI8.keep bA
  have G0 : ((w7.alloc (.cells #[.bool fW.1, .slice a7 n7 c7, .int .i64 fW.2.2] 25)).alloc (.cells #[.bool fR.1, .slice a8 n8 c8, .int .i64 fR.2.2] 25)).cell? ⟨w7.heap.size + 1, 0, none⟩ = some (.bool fR.1) := by go_simp
  have G1 : ((w7.alloc (.cells #[.bool fW.1, .slice a7 n7 c7, .int .i64 fW.2.2] 25)).alloc (.cells #[.bool fR.1, .slice a8 n8 c8, .int .i64 fR.2.2] 25)).cell? ⟨w7.heap.size + 1, 1, none⟩ = some (.slice a8 n8 c8) := by go_simp
  have G2 : ((w7.alloc (.cells #[.bool fW.1, .slice a7 n7 c7, .int .i64 fW.2.2] 25)).alloc (.cells #[.bool fR.1, .slice a8 n8 c8, .int .i64 fR.2.2] 25)).cell? ⟨w7.heap.size + 1, 2, none⟩ = some (.int .i64 fR.2.2) := by go_simp
  have GI := hI8
  have bw8_1 := nbelow_trans bw8_0 bA
  clear bA bw8_0
  have bw8 := bw8_1
  clear bw8_1 hI7 hI8
  go_wp2_with fail
  generalize (w7.alloc (.cells #[.bool fW.1, .slice a7 n7 c7, .int .i64 fW.2.2] 25)).alloc (.cells #[.bool fR.1, .slice a8 n8 c8, .int .i64 fR.2.2] 25) = w8 at *
  refine Calls.mono (HS1.out _ _ _ _ _ _ _ AI (by omega) BI (by omega)) ?_
  rintro r w9 ⟨rfl, b9⟩
  replace A0 := dcarry_cell b9 A0
  replace A1 := dcarry_cell b9 A1
  replace A2 := dcarry_cell b9 A2
  replace AI := AI.keep b9
  replace B0 := dcarry_cell b9 B0
  replace B1 := dcarry_cell b9 B1
  replace B2 := dcarry_cell b9 B2
  replace BI := BI.keep b9
  replace C0 := dcarry_cell b9 C0
  replace C1 := dcarry_cell b9 C1
  replace C2 := dcarry_cell b9 C2
  replace CI := CI.keep b9
  replace E0 := dcarry_cell b9 E0
  replace E1 := dcarry_cell b9 E1
  replace E2 := dcarry_cell b9 E2
  replace EI := EI.keep b9
  replace F0 := dcarry_cell b9 F0
  replace F1 := dcarry_cell b9 F1
  replace F2 := dcarry_cell b9 F2
  replace FI := FI.keep b9
  replace G0 := dcarry_cell b9 G0
  replace G1 := dcarry_cell b9 G1
  replace G2 := dcarry_cell b9 G2
  replace GI := GI.keep b9
  have bw9 := nbelow_trans bw8 b9
  clear bw8
  clear A0 A1 A2 AI
  clear B0 B1 B2 BI
  clear b9
  go_wp2_with fail
  refine Calls.mono (HS2.out _ _ _ _ _ _ _ CI (by omega) FI (by omega)) ?_
  rintro r w10 ⟨rfl, b10⟩
  replace C0 := dcarry_cell b10 C0
  replace C1 := dcarry_cell b10 C1
  replace C2 := dcarry_cell b10 C2
  replace CI := CI.keep b10
  replace E0 := dcarry_cell b10 E0
  replace E1 := dcarry_cell b10 E1
  replace E2 := dcarry_cell b10 E2
  replace EI := EI.keep b10
  replace F0 := dcarry_cell b10 F0
  replace F1 := dcarry_cell b10 F1
  replace F2 := dcarry_cell b10 F2
  replace FI := FI.keep b10
  replace G0 := dcarry_cell b10 G0
  replace G1 := dcarry_cell b10 G1
  replace G2 := dcarry_cell b10 G2
  replace GI := GI.keep b10
  have bw10 := nbelow_trans bw9 b10
  clear bw9
  clear C0 C1 C2 CI
  clear F0 F1 F2 FI
  clear b10
  go_wp2_with fail
  refine Calls.mono (HS3.out _ _ _ _ _ _ _ EI (by omega) GI (by omega)) ?_
  rintro r w11 ⟨rfl, b11⟩
  replace E0 := dcarry_cell b11 E0
  replace E1 := dcarry_cell b11 E1
  replace E2 := dcarry_cell b11 E2
  replace EI := EI.keep b11
  replace G0 := dcarry_cell b11 G0
  replace G1 := dcarry_cell b11 G1
  replace G2 := dcarry_cell b11 G2
  replace GI := GI.keep b11
  have bw11 := nbelow_trans bw10 b11
  clear bw10
  clear E0 E1 E2 EI
  clear G0 G1 G2 GI
  clear b11
  go_wp2_with fail
  refine Calls.mono (dyBegins_calls _ (hT0.out _ bw11)) ?_
  rintro r w12 ⟨rfl, b12⟩
  have bw12 := nbelow_trans bw11 b12
  clear bw11
  clear b12
  go_wp2_with fail
  go_ret
  exact ⟨rfl, bw12⟩

end

end Go.Proofs.YtjcpmomngjogbaaDoor

/- Package exact: the order of a number and a whole one; domains. -/
import Derived.Test.YtiijfnaaekmpbaaGreatDoorECX
import Derived.Test.YtiijfnaaekmpbaaGreatDoorTMQ
import Derived.Laws.EntriesVeiled
import Derived.Test.YtiijfnaaekmpbaaGreatDoorFX
namespace Go.Proofs.YtiijfnaaekmpbaaGreatDoor
open Go.RowKit

theorem OkE.form {p : E3} (h : OkE p) : formD p.1 p.2.1 p.2.2 = p := form_of_can h.1
theorem cmpE (p q : E3) (a : Option Addr) (n c : Nat) (b : Option Addr) (m d : Nat) (w : World) (h : IsW w a n c (wordsOf p.2.1)) (hn : n ≤ 1024) (k : IsW w b m d (wordsOf q.2.1)) (hm : m ≤ 1024) (hp : OkE p) (hq : OkE q) (hT : Tab w) :
    Calls Tryz.prog 79 #[dyV p.1 a n c p.2.2, dyV q.1 b m d q.2.2] w fun r w' => r = .returned (.tuple #[.int .i64 (cmpD p q), .int .i64 0]) ∧ Below w.heap.size w w' := by
  have H := dcmp_yes p.1 a n c (wordsOf p.2.1) p.2.2 q.1 b m d (wordsOf q.2.1) q.2.2 w h (by omega) k (by omega) hT (by rw [val_words]; exact hp.2) (by rw [val_words]; exact hq.2)
  rw [val_words, val_words, hp.form, hq.form] at H
  exact H
theorem zeroE (p : E3) (a : Option Addr) (n c : Nat) (w : World) (h : IsW w a n c (wordsOf p.2.1)) (hn : n ≤ 1024) (hp : OkE p) (hT : Tab w) :
    Calls Tryz.prog 28 #[dyV p.1 a n c p.2.2] w fun r w' => r = .returned (.bool (decide (p.2.1 = 0))) ∧ Below w.heap.size w w' := by
  have H := dzero_calls p.1 a n c (wordsOf p.2.1) p.2.2 w h (by omega) hT
  rw [val_words, hp.2, Bool.true_and] at H
  exact H
theorem int_ok (k : Int) (hk : -9223372036854775808 ≤ k ∧ k ≤ 9223372036854775807) : OkE (intD k) := by
  refine ⟨form_can _ _ _, ?_⟩
  unfold rightB
  have h1 : (intD k).2.1 ≤ k.natAbs := form_amount_le _ _ _
  have h2 : greatB (intD k).2.1 = false := great_mono h1 (by rw [great_not]; exact Nat.le_trans ((blen_le _ 64).2 (by omega)) (by decide))
  have h3 : (intD k).2.2 ≤ 64 := by
    unfold intD formD
    split
    · decide
    · have := Nat.le_trans (tz_le_blen k.natAbs) ((blen_le k.natAbs 64).2 (by omega))
      simp only
      omega
  have h4 := int_low k
  rw [h2, show inB (intD k).2.2 = true from decide_eq_true ⟨by omega, by omega⟩]
  rfl

set_option maxRecDepth 100000 in
set_option maxHeartbeats 2000000 in
theorem eAgainst_calls (p : E3) (a : Option Addr) (n c : Nat) (k : Int) (w : World) (h : IsW w a n c (wordsOf p.2.1)) (hn : n ≤ 1024) (hp : OkE p) (hk : -9223372036854775808 ≤ k ∧ k ≤ 9223372036854775807) (hT : Tab w) :
    Calls Tryz.prog 66 #[dyV p.1 a n c p.2.2, .int .i64 k] w fun r w' => r = .returned (.int .i64 (agI p k)) ∧ Below w.heap.size w w' := by
  have bA := below_one w (.cells #[.bool p.1, .slice a n c, .int .i64 p.2.2] 27)
  obtain ⟨x0, x1, x2⟩ := fX3 w p a n c
  have hI := h.keep bA
  have hT0 := hT.kept bA
  have HP : Hid (OkE p) := hp
  have HQ : Hid (OkE (intD k)) := int_ok k hk
  have HK : Hid (-9223372036854775808 ≤ k ∧ k ≤ 9223372036854775807) := hk
  unfold agI
  clear h hT hp hk
  generalize hq : intD k = q at *
  have HI : Hid _ := fun W (t : Tab W) => dint_calls k HK.out W t
  rw [hq] at HI
  clear hq HK
  go_enter Tryz.func66, Tryz.ntmps66
  go_wp2_with fail
  generalize w.alloc (.cells #[.bool p.1, .slice a n c, .int .i64 p.2.2] 27) = w0 at *
  go_region_with (first
    | (go_at_call 77; refine (HI.out _ (hT0.kept (by repeat (first | exact Below.refl _ _ | apply Below.drew)))).mono ?_; rintro r w1 ⟨_, rfl, ⟨ai, ni, ci, rfl, HNi, hni, hOi⟩, b1⟩; have b2 : Below w0.heap.size w0 w1 := nT (by repeat (first | exact Below.refl _ _ | apply Below.drew)) b1; have y0 := kC b2 x0; have y1 := kC b2 x1; have y2 := kC b2 x2)
    | (go_at_call 79; refine (cmpE p q a n c ai ni ci _ ((hI.keep b2).keep (by repeat (first | exact Below.refl _ _ | apply Below.drew))) hn (hOi.1.keep (by repeat (first | exact Below.refl _ _ | apply Below.drew))) hni HP.out HQ.out ((hT0.kept b2).kept (by repeat (first | exact Below.refl _ _ | apply Below.drew)))).mono ?_; rintro r w3 ⟨rfl, b3⟩; have b4 := nT (nT bA b2) (nT (show Below w1.heap.size w1 _ from by repeat (first | exact Below.refl _ _ | apply Below.drew)) b3)))
  all_goals
    go_wp2_with fail
    go_ret
    exact ⟨rfl, b4⟩
-- DOMAINS

theorem retB {b c : Bool} (h : b = c) : Ending.returned (.bool b) = .returned (.bool c) := by rw [h]

set_option maxRecDepth 100000 in
set_option maxHeartbeats 2000000 in
theorem every_calls (v : Value) (s : Bool) (a : Option Addr) (n c : Nat) (e : Int) (hv : v = dyV s a n c e) (w : World) :
    Calls Tryz.prog 34 #[v] w fun r w' => r = .returned (.bool true) ∧ Below w.heap.size w w' := by
  subst hv
  go_enter Tryz.func34, Tryz.ntmps34
  go_wp2_with fail
  go_ret
  exact ⟨rfl, by first | exact below_one _ _ | exact Below.refl _ _⟩

set_option maxRecDepth 100000 in
set_option maxHeartbeats 2000000 in
theorem fromOne_calls (p : E3) (a : Option Addr) (n c : Nat) (w : World) (h : IsW w a n c (wordsOf p.2.1)) (hn : n ≤ 1024) (hp : OkE p) (hT : Tab w) :
    Calls Tryz.prog 46 #[dyV p.1 a n c p.2.2] w fun r w' => r = .returned (.bool (dFrom1 p)) ∧ Below w.heap.size w w' := by
  have bA := below_one w (.cells #[.bool p.1, .slice a n c, .int .i64 p.2.2] 27)
  obtain ⟨x0, x1, x2⟩ := fX3 w p a n c
  have HA : Hid _ := eAgainst_calls p a n c 1 _ (h.keep bA) hn hp ⟨by decide, by decide⟩ (hT.kept bA)
  unfold dFrom1
  generalize agI p 1 = J at *
  clear h hp hT
  go_enter Tryz.func46, Tryz.ntmps46
  go_wp2_with fail
  refine Calls.mono HA.out ?_
  rintro r w1 ⟨rfl, b1⟩
  go_wp2_with fail
  go_ret
  exact ⟨retB (by simp), nT bA b1⟩

set_option maxRecDepth 100000 in
set_option maxHeartbeats 2000000 in
theorem toOne_calls (p : E3) (a : Option Addr) (n c : Nat) (w : World) (h : IsW w a n c (wordsOf p.2.1)) (hn : n ≤ 1024) (hp : OkE p) (hT : Tab w) :
    Calls Tryz.prog 45 #[dyV p.1 a n c p.2.2] w fun r w' => r = .returned (.bool (dTo1 p)) ∧ Below w.heap.size w w' := by
  have bA := below_one w (.cells #[.bool p.1, .slice a n c, .int .i64 p.2.2] 27)
  obtain ⟨x0, x1, x2⟩ := fX3 w p a n c
  have HA : Hid _ := eAgainst_calls p a n c (-1) _ (h.keep bA) hn hp ⟨by decide, by decide⟩ (hT.kept bA)
  have HB : Hid _ := fun W (b : Below w.heap.size w W) => eAgainst_calls p a n c 1 W (h.keep b) hn hp ⟨by decide, by decide⟩ (hT.kept b)
  unfold dTo1
  generalize agI p (-1) = J at *
  generalize agI p 1 = L at *
  clear h hp hT
  by_cases q : 0 ≤ J
  · rw [decide_eq_true q, Bool.true_and]
    go_enter Tryz.func45, Tryz.ntmps45
    go_wp2_with fail
    refine Calls.mono HA.out ?_
    rintro r w1 ⟨rfl, b1⟩
    replace bA := nT bA b1
    replace x0 := kC b1 x0
    replace x1 := kC b1 x1
    replace x2 := kC b1 x2
    clear HA b1
    go_wp2_with fail
    refine Calls.mono (HB.out _ bA) ?_
    rintro r w2 ⟨rfl, b1⟩
    go_wp2_with fail
    go_ret
    exact ⟨retB (by simp), nT bA b1⟩
  · rw [decide_eq_false q, Bool.false_and]
    have q' : J < 0 := by omega
    go_enter Tryz.func45, Tryz.ntmps45
    go_wp2_with fail
    refine Calls.mono HA.out ?_
    rintro r w1 ⟨rfl, b1⟩
    clear HA HB
    go_wp2_with fail
    go_ret
    exact ⟨rfl, nT bA b1⟩

set_option maxRecDepth 100000 in
set_option maxHeartbeats 2000000 in
theorem belowOne_calls (p : E3) (a : Option Addr) (n c : Nat) (w : World) (h : IsW w a n c (wordsOf p.2.1)) (hn : n ≤ 1024) (hp : OkE p) (hT : Tab w) :
    Calls Tryz.prog 47 #[dyV p.1 a n c p.2.2] w fun r w' => r = .returned (.bool (dIn1 p)) ∧ Below w.heap.size w w' := by
  have bA := below_one w (.cells #[.bool p.1, .slice a n c, .int .i64 p.2.2] 27)
  obtain ⟨x0, x1, x2⟩ := fX3 w p a n c
  have HA : Hid _ := eAgainst_calls p a n c (-1) _ (h.keep bA) hn hp ⟨by decide, by decide⟩ (hT.kept bA)
  have HB : Hid _ := fun W (b : Below w.heap.size w W) => eAgainst_calls p a n c 1 W (h.keep b) hn hp ⟨by decide, by decide⟩ (hT.kept b)
  unfold dIn1
  generalize agI p (-1) = J at *
  generalize agI p 1 = L at *
  clear h hp hT
  by_cases q : 0 < J
  · rw [decide_eq_true q, Bool.true_and]
    go_enter Tryz.func47, Tryz.ntmps47
    go_wp2_with fail
    refine Calls.mono HA.out ?_
    rintro r w1 ⟨rfl, b1⟩
    replace bA := nT bA b1
    replace x0 := kC b1 x0
    replace x1 := kC b1 x1
    replace x2 := kC b1 x2
    clear HA b1
    go_wp2_with fail
    refine Calls.mono (HB.out _ bA) ?_
    rintro r w2 ⟨rfl, b1⟩
    go_wp2_with fail
    go_ret
    exact ⟨retB (by simp), nT bA b1⟩
  · rw [decide_eq_false q, Bool.false_and]
    have q' : J ≤ 0 := by omega
    go_enter Tryz.func47, Tryz.ntmps47
    go_wp2_with fail
    refine Calls.mono HA.out ?_
    rintro r w1 ⟨rfl, b1⟩
    clear HA HB
    go_wp2_with fail
    go_ret
    exact ⟨rfl, nT bA b1⟩

set_option maxRecDepth 100000 in
set_option maxHeartbeats 2000000 in
theorem above1_calls (p : E3) (a : Option Addr) (n c : Nat) (X : Nat) (k : Int) (w : World) (h : IsW w a n c (wordsOf p.2.1)) (hn : n ≤ 1024) (hp : OkE p) (hT : Tab w) (hk : -9223372036854775808 ≤ k ∧ k ≤ 9223372036854775807) (cX : w.cell? ⟨X, 0, none⟩ = some (.int .i64 k)) :
    Calls Tryz.prog 78 #[dyV p.1 a n c p.2.2, .pointer (some ⟨X, 0, none⟩)] w fun r w' => r = .returned (.bool (dAbove k p)) ∧ Below w.heap.size w w' := by
  have bA := below_one w (.cells #[.bool p.1, .slice a n c, .int .i64 p.2.2] 27)
  obtain ⟨x0, x1, x2⟩ := fX3 w p a n c
  have HA : Hid _ := eAgainst_calls p a n c k _ (h.keep bA) hn hp hk (hT.kept bA)
  replace cX := kC bA cX
  unfold dAbove
  generalize agI p k = J at *
  clear h hp hT hk
  go_enter Tryz.func78, Tryz.ntmps78
  go_wp2_with fail
  refine Calls.mono HA.out ?_
  rintro r w1 ⟨rfl, b1⟩
  go_wp2_with fail
  go_ret
  exact ⟨retB (by simp), nT bA b1⟩

theorem q_shift (q : Int) (h : -8 ≤ q ∧ q ≤ 8) : shE (intD q).1 (intD q).2.1 (intD q).2.2 (-2) = 0 ∧ shP (intD q).1 (intD q).2.1 (intD q).2.2 (-2) = inQ q := by
  have : q = -8 ∨ q = -7 ∨ q = -6 ∨ q = -5 ∨ q = -4 ∨ q = -3 ∨ q = -2 ∨ q = -1 ∨ q = 0 ∨ q = 1 ∨ q = 2 ∨ q = 3 ∨ q = 4 ∨ q = 5 ∨ q = 6 ∨ q = 7 ∨ q = 8 := by omega
  rcases this with rfl | rfl | rfl | rfl | rfl | rfl | rfl | rfl | rfl | rfl | rfl | rfl | rfl | rfl | rfl | rfl | rfl <;> decide +kernel

set_option maxRecDepth 100000 in
set_option maxHeartbeats 2000000 in
theorem inQuarters_calls (q : Int) (hq : -8 ≤ q ∧ q ≤ 8) (w : World) (hT : Tab w) :
    Calls Tryz.prog 72 #[.int .i64 q] w fun r w' => ∃ v', r = .returned v' ∧ DyAt w.heap.size w' v' (inQ q) ∧ Below w.heap.size w w' := by
  have bA := below_one w (.cells #[.bool false, .slice none 0 0, .int .i64 0] 27)
  have hT0 := hT.kept bA
  have lz : w.heap.size < (w.alloc (.cells #[.bool false, .slice none 0 0, .int .i64 0] 27)).heap.size := by simp
  have z0 : (w.alloc (.cells #[.bool false, .slice none 0 0, .int .i64 0] 27)).cell? ⟨w.heap.size, 0, none⟩ = some (.bool false) := by go_simp
  have z1 : (w.alloc (.cells #[.bool false, .slice none 0 0, .int .i64 0] 27)).cell? ⟨w.heap.size, 1, none⟩ = some (.slice none 0 0) := by go_simp
  have z2 : (w.alloc (.cells #[.bool false, .slice none 0 0, .int .i64 0] 27)).cell? ⟨w.heap.size, 2, none⟩ = some (.int .i64 0) := by go_simp
  have f0 : (w.alloc (.cells #[.bool false, .slice none 0 0, .int .i64 0] 27)).frozen? ⟨w.heap.size, 0, none⟩ = false := by go_simp
  have f1 : (w.alloc (.cells #[.bool false, .slice none 0 0, .int .i64 0] 27)).frozen? ⟨w.heap.size, 1, none⟩ = false := by go_simp
  have f2 : (w.alloc (.cells #[.bool false, .slice none 0 0, .int .i64 0] 27)).frozen? ⟨w.heap.size, 2, none⟩ = false := by go_simp
  have HS : Hid _ := q_shift q hq
  have HI : Hid _ := dint_calls q ⟨by omega, by omega⟩ _ hT0
  generalize intD q = P at *
  generalize inQ q = R at *
  clear hT hq
  go_enter Tryz.func72, Tryz.ntmps72
  go_wp2_with fail
  generalize w.alloc (.cells #[.bool false, .slice none 0 0, .int .i64 0] 27) = w0 at *
  refine Calls.mono HI.out ?_
  rintro r w1 ⟨_, rfl, ⟨ai, ni, ci, rfl, HNi, hni, hOi⟩, b1⟩
  have SC : Hid _ := pShift_calls P.1 ai ni ci (wordsOf P.2.1) P.2.2 (-2) w1 hOi.1 (by omega) (hT0.kept b1)
  rw [val_words, HS.out.1, HS.out.2] at SC
  replace f0 := kF b1 z0 f0
  replace f1 := kF b1 z1 f1
  replace f2 := kF b1 z2 f2
  replace z0 := kC b1 z0
  replace z1 := kC b1 z1
  replace z2 := kC b1 z2
  replace bA := nT bA b1
  replace lz := Nat.lt_of_lt_of_le lz b1.size
  have lb := bA.size
  clear HI HS HNi hni hOi hT0 b1
  go_wp2_with fail
  refine Calls.mono SC.out ?_
  rintro r w2 ⟨_, rfl, ⟨a3, n3, c3, rfl, HN3, hn3, hO3⟩, b1⟩
  have bD := below_one w2 (.cells #[.bool R.1, .slice a3 n3 c3, .int .i64 R.2.2] 27)
  obtain ⟨k0, k1, k2⟩ := fX3 w2 R a3 n3 c3
  replace f0 := kF bD (kC b1 z0) (kF b1 z0 f0)
  replace f1 := kF bD (kC b1 z1) (kF b1 z1 f1)
  replace f2 := kF bD (kC b1 z2) (kF b1 z2 f2)
  replace z0 := kC bD (kC b1 z0)
  replace z1 := kC bD (kC b1 z1)
  replace z2 := kC bD (kC b1 z2)
  replace bA := nT bA (nT b1 bD)
  replace lz := Nat.lt_of_lt_of_le lz b1.size
  replace hO3 := hO3.keep bD
  clear SC b1
  go_upto_region 2 with fail
  generalize w2.alloc (.cells #[.bool R.1, .slice a3 n3 c3, .int .i64 R.2.2] 27) = w4 at *
  generalize w2.heap.size = B2 at *
  go_wp2_with fail
  exact bodyPost_ret (v := dyV R.1 a3 n3 c3 R.2.2) (by simp [results, Tryz.results72, go_sem, z0, z1, z2]) rfl ⟨_, rfl, ⟨a3, n3, c3, rfl, HN3, hn3, (((hO3.low lb).set_dy w.heap.size false none 0 0 0 _ _ _ z0 z1 z2))⟩, by repeat (first | (with_reducible exact bA) | (with_reducible refine Below.setCell ?_ (by simp) _))⟩
end Go.Proofs.YtiijfnaaekmpbaaGreatDoor

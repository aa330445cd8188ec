/- Package exact: the order of a number and a whole one; domains. Package exact: cases as functions that are handed on: points, powers. -/
import Derived.Test.YtiijfnaaekmpbaaGreatDoorCR
import Derived.Test.YtiijfnaaekmpbaaGreatDoorECX
import Derived.Test.YtiijfnaaekmpbaaGreatDoorTMQ
import Derived.Laws.EntriesVeiled
import Derived.Test.YtiijfnaaekmpbaaGreatDoorFX
import Derived.Test.YtiijfnaaekmpbaaGreatDoorNPX
import Derived.Test.YtiijfnaaekmpbaaGreatDoorDTm1
import Derived.Test.YtiijfnaaekmpbaaGreatDoorTMF
import Derived.Test.YtiijfnaaekmpbaaGreatDoorTMD
import Derived.LoopN

namespace Go.Proofs.YtiijfnaaekmpbaaGreatDoor
open Go.RowKit
set_option maxHeartbeats 2000000
set_option maxRecDepth 100000
theorem OkE.form {p : E3} (h : OkE p) : formD p.1 p.2.1 p.2.2 = p := form_of_can h.1
theorem cmpE (p q : E3) (a : Option Addr) (n c : Nat) (b : Option Addr) (m d : Nat) (w : World) (h : IsW w a n c (wO p.2.1)) (hn : n ≤ 1024) (k : IsW w b m d (wO q.2.1)) (hm : m ≤ 1024) (hp : OkE p) (hq : OkE q) (hT : Tab w) :
  Calls Tryz.prog 79 #[dyV p.1 a n c p.2.2, dyV q.1 b m d q.2.2] w fun r w' => r = .returned (.tuple #[.int .i64 (cmpD p q), .int .i64 0]) ∧ Below w.heap.size w w' := by
 have H := dcmp_yes p.1 a n c (wO p.2.1) p.2.2 q.1 b m d (wO q.2.1) q.2.2 w h (by omega) k (by omega) hT (by rw [val_words]; exact hp.2) (by rw [val_words]; exact hq.2)
 rw [val_words, val_words, hp.form, hq.form] at H
 exact H
theorem zeroE (p : E3) (a : Option Addr) (n c : Nat) (w : World) (h : IsW w a n c (wO p.2.1)) (hn : n ≤ 1024) (hp : OkE p) (hT : Tab w) :
  Calls Tryz.prog 28 #[dyV p.1 a n c p.2.2] w fun r w' => r = .returned (.bool (decide (p.2.1 = 0))) ∧ Below w.heap.size w w' := by
 have H := dzero_calls p.1 a n c (wO p.2.1) p.2.2 w h (by omega) hT
 rw [val_words, hp.2, Bool.true_and] at H
 exact H
theorem int_ok (k : Int) (hk : -9223372036854775808 ≤ k ∧ k ≤ 9223372036854775807) : OkE (intD k) := by
 refine ⟨form_can _ _ _, ?_⟩
 unfold rightB
 have h1 : (intD k).2.1 ≤ k.natAbs := form_amount_le _ _ _
 have h2 : greatB (intD k).2.1 = false := great_mono h1 (by rw [great_not]; exact Nat.le_trans ((blen_le _ 64).2 (by omega)) (by decide))
 have h3 : (intD k).2.2 ≤ 64 := by
  unfold intD formD
  split
  ·decide
  ·have := Nat.le_trans (tz_le_blen k.natAbs) ((blen_le k.natAbs 64).2 (by omega))
   simp only
   omega
 have h4 := int_low k
 rw [h2, show inB (intD k).2.2 = true from decide_eq_true ⟨by omega, by omega⟩]
 rfl
theorem eAgainst_calls (p : E3) (a : Option Addr) (n c : Nat) (k : Int) (w : World) (h : IsW w a n c (wO p.2.1)) (hn : n ≤ 1024) (hp : OkE p) (hk : -9223372036854775808 ≤ k ∧ k ≤ 9223372036854775807) (hT : Tab w) :
  Calls Tryz.prog 66 #[dyV p.1 a n c p.2.2, .int .i64 k] w fun r w' => r = .returned (.int .i64 (agI p k)) ∧ Below w.heap.size w w' := by
 have bA := below_one w (.cells #[.bool p.1, .slice a n c, .int .i64 p.2.2] 27)
 obtain ⟨x0, x1, x2⟩ := fX3 w p a n c _ rfl
 have hI := h.keep bA
 have hT0 := hT.kept bA
 have HP : Hid (OkE p) := hp
 have HQ : Hid (OkE (intD k)) := int_ok k hk
 have HK : Hid (-9223372036854775808 ≤ k ∧ k ≤ 9223372036854775807) := hk
 unfold agI
 clear h hT hp hk
 generalize hq : intD k = q at *
 have HI : Hid _ := fun W (t : Tab W) => dint_calls k HK.out W t
 rw [hq] at HI
 clear hq HK
 go_enter Tryz.func66, Tryz.ntmps66
 go_wp2_with fail
 generalize w.alloc (.cells #[.bool p.1, .slice a n c, .int .i64 p.2.2] 27) = w0 at *
 go_region_with (first
  | (go_at_call 77; refine (HI.out _ (hT0.kept (by repeat (first | exact Below.refl _ _ | apply Below.drew)))).mono ?_; rintro r w1 ⟨_, rfl, ⟨ai, ni, ci, rfl, HNi, hni, hOi⟩, b1⟩; have b2 : Below w0.heap.size w0 w1 := nT (by repeat (first | exact Below.refl _ _ | apply Below.drew)) b1; have y0 := kC b2 x0; have y1 := kC b2 x1; have y2 := kC b2 x2)
  | (go_at_call 79; refine (cmpE p q a n c ai ni ci _ ((hI.keep b2).keep (by repeat (first | exact Below.refl _ _ | apply Below.drew))) hn (hOi.1.keep (by repeat (first | exact Below.refl _ _ | apply Below.drew))) hni HP.out HQ.out ((hT0.kept b2).kept (by repeat (first | exact Below.refl _ _ | apply Below.drew)))).mono ?_; rintro r w3 ⟨rfl, b3⟩; have b4 := nT (nT bA b2) (nT (show Below w1.heap.size w1 _ from by repeat (first | exact Below.refl _ _ | apply Below.drew)) b3)))
 all_goals
  go_wp2_with fail
  go_ret
  exact ⟨rfl, b4⟩
-- DOMAINS
theorem retB {b c : Bool} (h : b = c) : Ending.returned (.bool b) = .returned (.bool c) := by rw [h]
theorem every_calls (v : Value) (s : Bool) (a : Option Addr) (n c : Nat) (e : Int) (hv : v = dyV s a n c e) (w : World) :
  Calls Tryz.prog 34 #[v] w fun r w' => r = .returned (.bool true) ∧ Below w.heap.size w w' := by
 subst hv
 go_enter Tryz.func34, Tryz.ntmps34
 go_wp2_with fail
 go_ret
 exact ⟨rfl, by first | exact below_one _ _ | exact Below.refl _ _⟩
theorem fromOne_calls (p : E3) (a : Option Addr) (n c : Nat) (w : World) (h : IsW w a n c (wO p.2.1)) (hn : n ≤ 1024) (hp : OkE p) (hT : Tab w) :
  Calls Tryz.prog 46 #[dyV p.1 a n c p.2.2] w fun r w' => r = .returned (.bool (dFrom1 p)) ∧ Below w.heap.size w w' := by
 have bA := below_one w (.cells #[.bool p.1, .slice a n c, .int .i64 p.2.2] 27)
 obtain ⟨x0, x1, x2⟩ := fX3 w p a n c _ rfl
 have HA : Hid _ := eAgainst_calls p a n c 1 _ (h.keep bA) hn hp ⟨by decide, by decide⟩ (hT.kept bA)
 unfold dFrom1
 generalize agI p 1 = J at *
 clear h hp hT
 go_enter Tryz.func46, Tryz.ntmps46
 go_wp2_with fail
 refine cM HA.out ?_
 rintro r w1 ⟨rfl, b1⟩
 go_wp2_with fail
 go_ret
 exact ⟨retB (by simp), nT bA b1⟩
theorem toOne_calls (p : E3) (a : Option Addr) (n c : Nat) (w : World) (h : IsW w a n c (wO p.2.1)) (hn : n ≤ 1024) (hp : OkE p) (hT : Tab w) :
  Calls Tryz.prog 45 #[dyV p.1 a n c p.2.2] w fun r w' => r = .returned (.bool (dTo1 p)) ∧ Below w.heap.size w w' := by
 have bA := below_one w (.cells #[.bool p.1, .slice a n c, .int .i64 p.2.2] 27)
 obtain ⟨x0, x1, x2⟩ := fX3 w p a n c _ rfl
 have HA : Hid _ := eAgainst_calls p a n c (-1) _ (h.keep bA) hn hp ⟨by decide, by decide⟩ (hT.kept bA)
 have HB : Hid _ := fun W (b : Below w.heap.size w W) => eAgainst_calls p a n c 1 W (h.keep b) hn hp ⟨by decide, by decide⟩ (hT.kept b)
 unfold dTo1
 generalize agI p (-1) = J at *
 generalize agI p 1 = L at *
 clear h hp hT
 by_cases q : 0 ≤ J
 ·rw [decide_eq_true q, Bool.true_and]
  go_enter Tryz.func45, Tryz.ntmps45
  go_wp2_with fail
  refine cM HA.out ?_
  rintro r w1 ⟨rfl, b1⟩
  replace bA := nT bA b1
  revert x0 x1 x2; refine cc3 b1 ?_; intro x0 x1 x2
  clear HA b1
  go_wp2_with fail
  refine cM (HB.out _ bA) ?_
  rintro r w2 ⟨rfl, b1⟩
  go_wp2_with fail
  go_ret
  exact ⟨retB (by simp), nT bA b1⟩
 ·rw [decide_eq_false q, Bool.false_and]
  have q' : J < 0 := by omega
  go_enter Tryz.func45, Tryz.ntmps45
  go_wp2_with fail
  refine cM HA.out ?_
  rintro r w1 ⟨rfl, b1⟩
  clear HA HB
  go_wp2_with fail
  go_ret
  exact ⟨rfl, nT bA b1⟩
theorem belowOne_calls (p : E3) (a : Option Addr) (n c : Nat) (w : World) (h : IsW w a n c (wO p.2.1)) (hn : n ≤ 1024) (hp : OkE p) (hT : Tab w) :
  Calls Tryz.prog 47 #[dyV p.1 a n c p.2.2] w fun r w' => r = .returned (.bool (dIn1 p)) ∧ Below w.heap.size w w' := by
 have bA := below_one w (.cells #[.bool p.1, .slice a n c, .int .i64 p.2.2] 27)
 obtain ⟨x0, x1, x2⟩ := fX3 w p a n c _ rfl
 have HA : Hid _ := eAgainst_calls p a n c (-1) _ (h.keep bA) hn hp ⟨by decide, by decide⟩ (hT.kept bA)
 have HB : Hid _ := fun W (b : Below w.heap.size w W) => eAgainst_calls p a n c 1 W (h.keep b) hn hp ⟨by decide, by decide⟩ (hT.kept b)
 unfold dIn1
 generalize agI p (-1) = J at *
 generalize agI p 1 = L at *
 clear h hp hT
 by_cases q : 0 < J
 ·rw [decide_eq_true q, Bool.true_and]
  go_enter Tryz.func47, Tryz.ntmps47
  go_wp2_with fail
  refine cM HA.out ?_
  rintro r w1 ⟨rfl, b1⟩
  replace bA := nT bA b1
  revert x0 x1 x2; refine cc3 b1 ?_; intro x0 x1 x2
  clear HA b1
  go_wp2_with fail
  refine cM (HB.out _ bA) ?_
  rintro r w2 ⟨rfl, b1⟩
  go_wp2_with fail
  go_ret
  exact ⟨retB (by simp), nT bA b1⟩
 ·rw [decide_eq_false q, Bool.false_and]
  have q' : J ≤ 0 := by omega
  go_enter Tryz.func47, Tryz.ntmps47
  go_wp2_with fail
  refine cM HA.out ?_
  rintro r w1 ⟨rfl, b1⟩
  clear HA HB
  go_wp2_with fail
  go_ret
  exact ⟨rfl, nT bA b1⟩
theorem above1_calls (p : E3) (a : Option Addr) (n c : Nat) (X : Nat) (k : Int) (w : World) (h : IsW w a n c (wO p.2.1)) (hn : n ≤ 1024) (hp : OkE p) (hT : Tab w) (hk : -9223372036854775808 ≤ k ∧ k ≤ 9223372036854775807) (cX : w.cell? ⟨X, 0, none⟩ = some (.int .i64 k)) :
  Calls Tryz.prog 78 #[dyV p.1 a n c p.2.2, .pointer (some ⟨X, 0, none⟩)] w fun r w' => r = .returned (.bool (dAbove k p)) ∧ Below w.heap.size w w' := by
 have bA := below_one w (.cells #[.bool p.1, .slice a n c, .int .i64 p.2.2] 27)
 obtain ⟨x0, x1, x2⟩ := fX3 w p a n c _ rfl
 have HA : Hid _ := eAgainst_calls p a n c k _ (h.keep bA) hn hp hk (hT.kept bA)
 replace cX := kC bA cX
 unfold dAbove
 generalize agI p k = J at *
 clear h hp hT hk
 go_enter Tryz.func78, Tryz.ntmps78
 go_wp2_with fail
 refine cM HA.out ?_
 rintro r w1 ⟨rfl, b1⟩
 go_wp2_with fail
 go_ret
 exact ⟨retB (by simp), nT bA b1⟩
theorem q_shift (q : Int) (h : -8 ≤ q ∧ q ≤ 8) : shE (intD q).1 (intD q).2.1 (intD q).2.2 (-2) = 0 ∧ shP (intD q).1 (intD q).2.1 (intD q).2.2 (-2) = inQ q := by
 have : q = -8 ∨ q = -7 ∨ q = -6 ∨ q = -5 ∨ q = -4 ∨ q = -3 ∨ q = -2 ∨ q = -1 ∨ q = 0 ∨ q = 1 ∨ q = 2 ∨ q = 3 ∨ q = 4 ∨ q = 5 ∨ q = 6 ∨ q = 7 ∨ q = 8 := by omega
 rcases this with rfl | rfl | rfl | rfl | rfl | rfl | rfl | rfl | rfl | rfl | rfl | rfl | rfl | rfl | rfl | rfl | rfl <;> decide +kernel
theorem inQuarters_calls (q : Int) (hq : -8 ≤ q ∧ q ≤ 8) (w : World) (hT : Tab w) :
  Calls Tryz.prog 72 #[.int .i64 q] w fun r w' => ∃ v', r = .returned v' ∧ DyAt w.heap.size w' v' (inQ q) ∧ Below w.heap.size w w' := by
 have bA := below_one w (.cells #[.bool false, .slice none 0 0, .int .i64 0] 27)
 have hT0 := hT.kept bA
 have lz : w.heap.size < (w.alloc (.cells #[.bool false, .slice none 0 0, .int .i64 0] 27)).heap.size := by simp
 have z0 : (w.alloc (.cells #[.bool false, .slice none 0 0, .int .i64 0] 27)).cell? ⟨w.heap.size, 0, none⟩ = some (.bool false) := by go_simp
 have z1 : (w.alloc (.cells #[.bool false, .slice none 0 0, .int .i64 0] 27)).cell? ⟨w.heap.size, 1, none⟩ = some (.slice none 0 0) := by go_simp
 have z2 : (w.alloc (.cells #[.bool false, .slice none 0 0, .int .i64 0] 27)).cell? ⟨w.heap.size, 2, none⟩ = some (.int .i64 0) := by go_simp
 have f0 : (w.alloc (.cells #[.bool false, .slice none 0 0, .int .i64 0] 27)).frozen? ⟨w.heap.size, 0, none⟩ = false := by go_simp
 have f1 : (w.alloc (.cells #[.bool false, .slice none 0 0, .int .i64 0] 27)).frozen? ⟨w.heap.size, 1, none⟩ = false := by go_simp
 have f2 : (w.alloc (.cells #[.bool false, .slice none 0 0, .int .i64 0] 27)).frozen? ⟨w.heap.size, 2, none⟩ = false := by go_simp
 have HS : Hid _ := q_shift q hq
 have HI : Hid _ := dint_calls q ⟨by omega, by omega⟩ _ hT0
 generalize intD q = P at *
 generalize inQ q = R at *
 clear hT hq
 go_enter Tryz.func72, Tryz.ntmps72
 go_wp2_with fail
 generalize w.alloc (.cells #[.bool false, .slice none 0 0, .int .i64 0] 27) = w0 at *
 refine cM HI.out ?_
 rintro r w1 ⟨_, rfl, ⟨ai, ni, ci, rfl, HNi, hni, hOi⟩, b1⟩
 have SC : Hid _ := pShift_calls P.1 ai ni ci (wO P.2.1) P.2.2 (-2) w1 hOi.1 (by omega) (hT0.kept b1)
 rw [val_words, HS.out.1, HS.out.2] at SC
 revert z0 z1 z2 f0 f1 f2; refine zg3 b1 ?_; intro z0 z1 z2 f0 f1 f2
 replace bA := nT bA b1
 replace lz := Nat.lt_of_lt_of_le lz b1.size
 have lb := bA.size
 clear HI HS HNi hni hOi hT0 b1
 go_wp2_with fail
 refine cM SC.out ?_
 rintro r w2 ⟨_, rfl, ⟨a3, n3, c3, rfl, HN3, hn3, hO3⟩, b1⟩
 have bD := below_one w2 (.cells #[.bool R.1, .slice a3 n3 c3, .int .i64 R.2.2] 27)
 obtain ⟨k0, k1, k2⟩ := fX3 w2 R a3 n3 c3 _ rfl
 replace f0 := kF bD (kC b1 z0) (kF b1 z0 f0)
 replace f1 := kF bD (kC b1 z1) (kF b1 z1 f1)
 replace f2 := kF bD (kC b1 z2) (kF b1 z2 f2)
 replace z0 := kC bD (kC b1 z0)
 replace z1 := kC bD (kC b1 z1)
 replace z2 := kC bD (kC b1 z2)
 replace bA := nT bA (nT b1 bD)
 replace lz := Nat.lt_of_lt_of_le lz b1.size
 replace hO3 := hO3.keep bD
 clear SC b1
 go_upto_region 2 with fail
 generalize w2.alloc (.cells #[.bool R.1, .slice a3 n3 c3, .int .i64 R.2.2] 27) = w4 at *
 generalize w2.heap.size = B2 at *
 go_wp2_with fail
 exact bodyPost_ret (v := dyV R.1 a3 n3 c3 R.2.2) (by simp [results, Tryz.results72, go_sem, z0, z1, z2]) rfl ⟨_, rfl, ⟨a3, n3, c3, rfl, HN3, hn3, (((hO3.low lb).set_dy w.heap.size false none 0 0 0 _ _ _ z0 z1 z2))⟩, by repeat (first | (with_reducible exact bA) | (with_reducible refine Below.setCell ?_ (by simp) _))⟩
set_option maxHeartbeats 4000000
set_option maxRecDepth 100000
def Body (F : Nat) : Prop := ∀ (xs : Array Value) (w : World), Sem.run Tryz.prog (callFunc F xs) w = .ok (.enter F xs) w
def TabE (w : World) : Prop := Tab w ∧ (1 < w.heap.size ∧ ∀ j, j < 4 → w.cell? ⟨1, j, none⟩ = some (.int .i64 ([0, 1, 0, -1].getD j 0))) ∧ (0 < w.heap.size ∧ ∀ j, j < 3 → w.cell? ⟨0, j, none⟩ = some (.int .i64 ([3, 2, 1].getD j 0)))
theorem TabE.kept {w w' : World} (h : TabE w) (hb : Below w.heap.size w w') : TabE w' :=
 ⟨h.1.kept hb, ⟨Nat.lt_of_lt_of_le h.2.1.1 hb.size, fun j k => kC hb (h.2.1.2 j k)⟩, ⟨Nat.lt_of_lt_of_le h.2.2.1 hb.size, fun j k => kC hb (h.2.2.2 j k)⟩⟩
def Kr (r : Nat) (w W : World) : Prop := ∀ (b o : Nat) (v : Value), b ≠ r → w.cell? ⟨b, o, none⟩ = some v → W.cell? ⟨b, o, none⟩ = some v
theorem Kr.of {r : Nat} {w W : World} (b : Below w.heap.size w W) : Kr r w W := fun _ _ _ _ h => kC b h
theorem Kr.trans {r : Nat} {w V W : World} (h : Kr r w V) (k : Kr r V W) : Kr r w W := fun b o v q e => k b o v q (h b o v q e)
def IsD (r : Nat) (w : World) (v : Value) (t : E3 → Bool) : Prop := ∃ (F : Nat) (fst caps : Array Value), v = .func (.func F) fst caps ∧ Body F ∧ ∀ W, Kr r w W → TabE W → ∀ (p : E3) (a : Option Addr) (n c : Nat), IsW W a n c (wO p.2.1) → n ≤ 1024 → OkE p →
 Calls Tryz.prog F (fst ++ #[dyV p.1 a n c p.2.2] ++ caps) W fun q w' => q = .returned (.bool (t p)) ∧ Below W.heap.size W w'
def IsC (r : Nat) (w : World) (v : Value) (t : C3) : Prop := ∃ (F : Nat) (fst caps : Array Value), v = .func (.func F) fst caps ∧ Body F ∧ ∀ W, Kr r w W → TabE W → ∀ (p : E3) (a : Option Addr) (n c : Nat), IsW W a n c (wO p.2.1) → n ≤ 1024 → OkE p →
 Calls Tryz.prog F (fst ++ #[dyV p.1 a n c p.2.2] ++ caps) W fun q w' => ∃ v', q = .returned (.tuple #[v', .bool (t p).2]) ∧ DyAt W.heap.size w' v' (t p).1 ∧ Below W.heap.size W w'
theorem IsD.keep {r : Nat} {w V : World} {v : Value} {t : E3 → Bool} (h : IsD r w v t) (k : Kr r w V) : IsD r V v t := by
 obtain ⟨F, fst, caps, e, hb, hc⟩ := h
 exact ⟨F, fst, caps, e, hb, fun W q => hc W (k.trans q)⟩
theorem IsC.keep {r : Nat} {w V : World} {v : Value} {t : C3} (h : IsC r w v t) (k : Kr r w V) : IsC r V v t := by
 obtain ⟨F, fst, caps, e, hb, hc⟩ := h
 exact ⟨F, fst, caps, e, hb, fun W q => hc W (k.trans q)⟩
theorem dyAt_z3 (B : Nat) (w : World) : DyAt B w (dyV false none 0 0 0) z3 := dyAt_zero B w
theorem every_is (r : Nat) (w : World) : IsD r w (.func (.func 34) #[] #[]) dAny := ⟨_, _, _, rfl, Tryz.call34, fun W _ _ p a n c _ _ _ => every_calls _ p.1 a n c p.2.2 rfl W⟩
theorem fromOne_is (r : Nat) (w : World) : IsD r w (.func (.func 46) #[] #[]) dFrom1 := ⟨_, _, _, rfl, Tryz.call46, fun W _ t p a n c h hn hp => fromOne_calls p a n c W h hn hp t.1⟩
theorem toOne_is (r : Nat) (w : World) : IsD r w (.func (.func 45) #[] #[]) dTo1 := ⟨_, _, _, rfl, Tryz.call45, fun W _ t p a n c h hn hp => toOne_calls p a n c W h hn hp t.1⟩
theorem belowOne_is (r : Nat) (w : World) : IsD r w (.func (.func 47) #[] #[]) dIn1 := ⟨_, _, _, rfl, Tryz.call47, fun W _ t p a n c h hn hp => belowOne_calls p a n c W h hn hp t.1⟩
def Pts (w : World) (g : Nat) : Nat → List (Int × Int) → Prop
 | _, [] => True
 | k, (x, q) :: l => w.cell? ⟨g, 2 * k, none⟩ = some (.int .i64 x) ∧ w.cell? ⟨g, 2 * k + 1, none⟩ = some (.int .i64 q) ∧ Pts w g (k + 1) l
theorem Pts.keep {r : Nat} {w W : World} {g : Nat} (hr : g ≠ r) (b : Kr r w W) : ∀ {k : Nat} {l : List (Int × Int)}, Pts w g k l → Pts W g k l
 | _, [], _ => trivial
 | _, (_, _) :: _, h => ⟨b _ _ _ hr h.1, b _ _ _ hr h.2.1, Pts.keep hr b h.2.2⟩
theorem at1_calls (p : E3) (a : Option Addr) (n c : Nat) (X g : Nat) (x0 q0 : Int) (w : World) (h : IsW w a n c (wO p.2.1)) (hn : n ≤ 1024) (hp : OkE p) (hT : TabE w) (hx0 : -9223372036854775808 ≤ x0 ∧ x0 ≤ 9223372036854775807) (hq0 : -8 ≤ q0 ∧ q0 ≤ 8) (cX : w.cell? ⟨X, 0, none⟩ = some (.slice (some ⟨g, 0, none⟩) 1 1)) (hP : Pts w g 0 [(x0, q0)]) :
  Calls Tryz.prog 71 #[dyV p.1 a n c p.2.2, .pointer (some ⟨X, 0, none⟩)] w fun q w' => ∃ v', q = .returned (.tuple #[v', .bool (cAt [(x0, q0)] p).2]) ∧ DyAt w.heap.size w' v' (cAt [(x0, q0)] p).1 ∧ Below w.heap.size w w' := by
 have bA : Below w.heap.size w ((w.alloc (.cells #[.bool p.1, .slice a n c, .int .i64 p.2.2] 27)).alloc (.cells #[.bool false, .slice none 0 0, .int .i64 0] 27)) := nT (below_one _ _) (below_one _ _)
 obtain ⟨x0c, x1c, x2c, z0, f0, z1, f1, z2, f2⟩ := fX4 w p a n c _ rfl
 have lz : w.heap.size + 1 < ((w.alloc (.cells #[.bool p.1, .slice a n c, .int .i64 p.2.2] 27)).alloc (.cells #[.bool false, .slice none 0 0, .int .i64 0] 27)).heap.size := by simp
 replace cX := kC bA cX
 have cx0 : ((w.alloc (.cells #[.bool p.1, .slice a n c, .int .i64 p.2.2] 27)).alloc (.cells #[.bool false, .slice none 0 0, .int .i64 0] 27)).cell? ⟨g, 0, none⟩ = some (.int .i64 x0) := kC bA hP.1
 have cq0 : ((w.alloc (.cells #[.bool p.1, .slice a n c, .int .i64 p.2.2] 27)).alloc (.cells #[.bool false, .slice none 0 0, .int .i64 0] 27)).cell? ⟨g, 1, none⟩ = some (.int .i64 q0) := kC bA hP.2.1
 have hT0 := hT.1.kept bA
 have A0 : Hid _ := fun W (b : Below w.heap.size w W) => eAgainst_calls p a n c x0 W (h.keep b) hn hp hx0 (hT.1.kept b)
 have Q0 : Hid _ := fun W (t : Tab W) => inQuarters_calls q0 hq0 W t
 simp only [cAt]
 generalize inQ q0 = R0 at *
 generalize agI p x0 = J0 at *
 clear h hp hT hP hx0 hq0
 by_cases j0 : J0 = 0
 ·rw [if_pos j0]
  go_enter Tryz.func71, Tryz.ntmps71
  go_wp2_with fail
  generalize ((w.alloc (.cells #[.bool p.1, .slice a n c, .int .i64 p.2.2] 27)).alloc (.cells #[.bool false, .slice none 0 0, .int .i64 0] 27)) = w0 at *
  refine wp_loop_rounds 1 ?_
  rw [rounds_succ]
  go_upto_region 4 with fail
  have bP0 := below_one w0 (.cells #[.int .i64 x0, .int .i64 q0] 66)
  obtain ⟨bA, z0, f0, z1, f1, z2, f2, x0c, x1c, x2c⟩ := jkAF3C3 bP0 bA z0 f0 z1 f1 z2 f2 x0c x1c x2c
  replace lz := Nat.lt_of_lt_of_le lz bP0.size
  revert cX cx0 cq0; refine cc3 bP0 ?_; intro cX cx0 cq0
  replace hT0 := hT0.kept bP0
  obtain ⟨y00, y01⟩ := fX5 w0 x0 q0 _ rfl
  clear bP0
  generalize w0.alloc (.cells #[.int .i64 x0, .int .i64 q0] 66) = v0 at *
  generalize w0.heap.size = B0 at *
  go_wp2_with fail
  refine cM (A0.out _ bA) ?_
  rintro r w1 ⟨rfl, b1⟩
  obtain ⟨bA, z0, f0, z1, f1, z2, f2, x0c, x1c, x2c⟩ := jkAF3C3 b1 bA z0 f0 z1 f1 z2 f2 x0c x1c x2c
  replace lz := Nat.lt_of_lt_of_le lz b1.size
  revert cX cx0 cq0; refine cc3 b1 ?_; intro cX cx0 cq0
  replace hT0 := hT0.kept b1
  replace y01 := kC b1 y01
  clear b1 y00
  go_wp2_with fail
  have lb := bA.size
  refine cM (Q0.out _ hT0) ?_
  rintro r w9 ⟨_, rfl, ⟨a3, n3, c3, rfl, HN3, hn3, hO3⟩, b1⟩
  obtain ⟨bA, z0, f0, z1, f1, z2, f2, x0c, x1c, x2c⟩ := jkAF3C3 b1 bA z0 f0 z1 f1 z2 f2 x0c x1c x2c
  replace lz := Nat.lt_of_lt_of_le lz b1.size
  revert cX cx0 cq0; refine cc3 b1 ?_; intro cX cx0 cq0
  replace hT0 := hT0.kept b1
  replace y01 := kC b1 y01
  clear b1
  go_wp2_with fail
  exact bodyPost_ret (v := .tuple #[dyV R0.1 a3 n3 c3 R0.2.2, .bool true]) (by simp [results, Tryz.results71, go_sem, z0, z1, z2]) rfl ⟨_, rfl, ⟨a3, n3, c3, rfl, HN3, hn3, (hO3.low lb).set_dy (w.heap.size + 1) false none 0 0 0 _ _ _ z0 z1 z2⟩, by repeat (first | (with_reducible exact bA) | (with_reducible refine Below.setCell ?_ (by simp; try omega) _) | (with_reducible refine Below.alloc ?_ (by have := bA.size; simp; try omega) _))⟩
 ·rw [if_neg j0]
  unfold no3
  go_enter Tryz.func71, Tryz.ntmps71
  go_wp2_with fail
  generalize ((w.alloc (.cells #[.bool p.1, .slice a n c, .int .i64 p.2.2] 27)).alloc (.cells #[.bool false, .slice none 0 0, .int .i64 0] 27)) = w0 at *
  refine wp_loop_rounds 2 ?_
  rw [rounds_succ]
  go_upto_region 4 with fail
  have bP0 := below_one w0 (.cells #[.int .i64 x0, .int .i64 q0] 66)
  obtain ⟨bA, z0, f0, z1, f1, z2, f2, x0c, x1c, x2c⟩ := jkAF3C3 bP0 bA z0 f0 z1 f1 z2 f2 x0c x1c x2c
  replace lz := Nat.lt_of_lt_of_le lz bP0.size
  revert cX cx0 cq0; refine cc3 bP0 ?_; intro cX cx0 cq0
  replace hT0 := hT0.kept bP0
  obtain ⟨y00, y01⟩ := fX5 w0 x0 q0 _ rfl
  clear bP0
  generalize w0.alloc (.cells #[.int .i64 x0, .int .i64 q0] 66) = v0 at *
  generalize w0.heap.size = B0 at *
  go_wp2_with fail
  refine cM (A0.out _ bA) ?_
  rintro r w1 ⟨rfl, b1⟩
  obtain ⟨bA, z0, f0, z1, f1, z2, f2, x0c, x1c, x2c⟩ := jkAF3C3 b1 bA z0 f0 z1 f1 z2 f2 x0c x1c x2c
  replace lz := Nat.lt_of_lt_of_le lz b1.size
  revert cX cx0 cq0; refine cc3 b1 ?_; intro cX cx0 cq0
  replace hT0 := hT0.kept b1
  replace y01 := kC b1 y01
  clear b1 y00
  go_wp2_with fail
  rw [rounds_succ]
  go_wp2_with fail
  exact bodyPost_ret (v := .tuple #[dyV false none 0 0 0, .bool false]) (by simp [results, Tryz.results71, go_sem, z0, z1, z2]) rfl ⟨_, rfl, dyAt_z3 _ _, by repeat (first | (with_reducible exact bA) | (with_reducible refine Below.setCell ?_ (by simp; try omega) _) | (with_reducible refine Below.alloc ?_ (by have := bA.size; simp; try omega) _))⟩
theorem at3_calls (p : E3) (a : Option Addr) (n c : Nat) (X g : Nat) (x0 q0 : Int) (x1 q1 : Int) (x2 q2 : Int) (w : World) (h : IsW w a n c (wO p.2.1)) (hn : n ≤ 1024) (hp : OkE p) (hT : TabE w) (hx0 : -9223372036854775808 ≤ x0 ∧ x0 ≤ 9223372036854775807) (hq0 : -8 ≤ q0 ∧ q0 ≤ 8) (hx1 : -9223372036854775808 ≤ x1 ∧ x1 ≤ 9223372036854775807) (hq1 : -8 ≤ q1 ∧ q1 ≤ 8) (hx2 : -9223372036854775808 ≤ x2 ∧ x2 ≤ 9223372036854775807) (hq2 : -8 ≤ q2 ∧ q2 ≤ 8) (cX : w.cell? ⟨X, 0, none⟩ = some (.slice (some ⟨g, 0, none⟩) 3 3)) (hP : Pts w g 0 [(x0, q0), (x1, q1), (x2, q2)]) :
  Calls Tryz.prog 71 #[dyV p.1 a n c p.2.2, .pointer (some ⟨X, 0, none⟩)] w fun q w' => ∃ v', q = .returned (.tuple #[v', .bool (cAt [(x0, q0), (x1, q1), (x2, q2)] p).2]) ∧ DyAt w.heap.size w' v' (cAt [(x0, q0), (x1, q1), (x2, q2)] p).1 ∧ Below w.heap.size w w' := by
 have bA : Below w.heap.size w ((w.alloc (.cells #[.bool p.1, .slice a n c, .int .i64 p.2.2] 27)).alloc (.cells #[.bool false, .slice none 0 0, .int .i64 0] 27)) := nT (below_one _ _) (below_one _ _)
 obtain ⟨x0c, x1c, x2c, z0, f0, z1, f1, z2, f2⟩ := fX4 w p a n c _ rfl
 have lz : w.heap.size + 1 < ((w.alloc (.cells #[.bool p.1, .slice a n c, .int .i64 p.2.2] 27)).alloc (.cells #[.bool false, .slice none 0 0, .int .i64 0] 27)).heap.size := by simp
 replace cX := kC bA cX
 have cx0 : ((w.alloc (.cells #[.bool p.1, .slice a n c, .int .i64 p.2.2] 27)).alloc (.cells #[.bool false, .slice none 0 0, .int .i64 0] 27)).cell? ⟨g, 0, none⟩ = some (.int .i64 x0) := kC bA hP.1
 have cq0 : ((w.alloc (.cells #[.bool p.1, .slice a n c, .int .i64 p.2.2] 27)).alloc (.cells #[.bool false, .slice none 0 0, .int .i64 0] 27)).cell? ⟨g, 1, none⟩ = some (.int .i64 q0) := kC bA hP.2.1
 have cx1 : ((w.alloc (.cells #[.bool p.1, .slice a n c, .int .i64 p.2.2] 27)).alloc (.cells #[.bool false, .slice none 0 0, .int .i64 0] 27)).cell? ⟨g, 2, none⟩ = some (.int .i64 x1) := kC bA hP.2.2.1
 have cq1 : ((w.alloc (.cells #[.bool p.1, .slice a n c, .int .i64 p.2.2] 27)).alloc (.cells #[.bool false, .slice none 0 0, .int .i64 0] 27)).cell? ⟨g, 3, none⟩ = some (.int .i64 q1) := kC bA hP.2.2.2.1
 have cx2 : ((w.alloc (.cells #[.bool p.1, .slice a n c, .int .i64 p.2.2] 27)).alloc (.cells #[.bool false, .slice none 0 0, .int .i64 0] 27)).cell? ⟨g, 4, none⟩ = some (.int .i64 x2) := kC bA hP.2.2.2.2.1
 have cq2 : ((w.alloc (.cells #[.bool p.1, .slice a n c, .int .i64 p.2.2] 27)).alloc (.cells #[.bool false, .slice none 0 0, .int .i64 0] 27)).cell? ⟨g, 5, none⟩ = some (.int .i64 q2) := kC bA hP.2.2.2.2.2.1
 have hT0 := hT.1.kept bA
 have A0 : Hid _ := fun W (b : Below w.heap.size w W) => eAgainst_calls p a n c x0 W (h.keep b) hn hp hx0 (hT.1.kept b)
 have Q0 : Hid _ := fun W (t : Tab W) => inQuarters_calls q0 hq0 W t
 have A1 : Hid _ := fun W (b : Below w.heap.size w W) => eAgainst_calls p a n c x1 W (h.keep b) hn hp hx1 (hT.1.kept b)
 have Q1 : Hid _ := fun W (t : Tab W) => inQuarters_calls q1 hq1 W t
 have A2 : Hid _ := fun W (b : Below w.heap.size w W) => eAgainst_calls p a n c x2 W (h.keep b) hn hp hx2 (hT.1.kept b)
 have Q2 : Hid _ := fun W (t : Tab W) => inQuarters_calls q2 hq2 W t
 simp only [cAt]
 generalize inQ q0 = R0 at *
 generalize agI p x0 = J0 at *
 generalize inQ q1 = R1 at *
 generalize agI p x1 = J1 at *
 generalize inQ q2 = R2 at *
 generalize agI p x2 = J2 at *
 clear h hp hT hP hx0 hq0 hx1 hq1 hx2 hq2
 by_cases j0 : J0 = 0
 ·rw [if_pos j0]
  go_enter Tryz.func71, Tryz.ntmps71
  go_wp2_with fail
  generalize ((w.alloc (.cells #[.bool p.1, .slice a n c, .int .i64 p.2.2] 27)).alloc (.cells #[.bool false, .slice none 0 0, .int .i64 0] 27)) = w0 at *
  refine wp_loop_rounds 1 ?_
  rw [rounds_succ]
  go_upto_region 4 with fail
  have bP0 := below_one w0 (.cells #[.int .i64 x0, .int .i64 q0] 66)
  obtain ⟨bA, z0, f0, z1, f1, z2, f2, x0c, x1c, x2c⟩ := jkAF3C3 bP0 bA z0 f0 z1 f1 z2 f2 x0c x1c x2c
  replace lz := Nat.lt_of_lt_of_le lz bP0.size
  revert cX cx0 cq0 cx1 cq1 cx2; refine cc6 bP0 ?_; intro cX cx0 cq0 cx1 cq1 cx2
  replace cq2 := kC bP0 cq2
  replace hT0 := hT0.kept bP0
  obtain ⟨y00, y01⟩ := fX5 w0 x0 q0 _ rfl
  clear bP0
  generalize w0.alloc (.cells #[.int .i64 x0, .int .i64 q0] 66) = v0 at *
  generalize w0.heap.size = B0 at *
  go_wp2_with fail
  refine cM (A0.out _ bA) ?_
  rintro r w1 ⟨rfl, b1⟩
  obtain ⟨bA, z0, f0, z1, f1, z2, f2, x0c, x1c, x2c⟩ := jkAF3C3 b1 bA z0 f0 z1 f1 z2 f2 x0c x1c x2c
  replace lz := Nat.lt_of_lt_of_le lz b1.size
  revert cX cx0 cq0 cx1 cq1 cx2; refine cc6 b1 ?_; intro cX cx0 cq0 cx1 cq1 cx2
  replace cq2 := kC b1 cq2
  replace hT0 := hT0.kept b1
  replace y01 := kC b1 y01
  clear b1 y00
  go_wp2_with fail
  have lb := bA.size
  refine cM (Q0.out _ hT0) ?_
  rintro r w9 ⟨_, rfl, ⟨a3, n3, c3, rfl, HN3, hn3, hO3⟩, b1⟩
  obtain ⟨bA, z0, f0, z1, f1, z2, f2, x0c, x1c, x2c⟩ := jkAF3C3 b1 bA z0 f0 z1 f1 z2 f2 x0c x1c x2c
  replace lz := Nat.lt_of_lt_of_le lz b1.size
  revert cX cx0 cq0 cx1 cq1 cx2; refine cc6 b1 ?_; intro cX cx0 cq0 cx1 cq1 cx2
  replace cq2 := kC b1 cq2
  replace hT0 := hT0.kept b1
  replace y01 := kC b1 y01
  clear b1
  go_wp2_with fail
  exact bodyPost_ret (v := .tuple #[dyV R0.1 a3 n3 c3 R0.2.2, .bool true]) (by simp [results, Tryz.results71, go_sem, z0, z1, z2]) rfl ⟨_, rfl, ⟨a3, n3, c3, rfl, HN3, hn3, (hO3.low lb).set_dy (w.heap.size + 1) false none 0 0 0 _ _ _ z0 z1 z2⟩, by repeat (first | (with_reducible exact bA) | (with_reducible refine Below.setCell ?_ (by simp; try omega) _) | (with_reducible refine Below.alloc ?_ (by have := bA.size; simp; try omega) _))⟩
 ·rw [if_neg j0]
  by_cases j1 : J1 = 0
  ·rw [if_pos j1]
   go_enter Tryz.func71, Tryz.ntmps71
   go_wp2_with fail
   generalize ((w.alloc (.cells #[.bool p.1, .slice a n c, .int .i64 p.2.2] 27)).alloc (.cells #[.bool false, .slice none 0 0, .int .i64 0] 27)) = w0 at *
   refine wp_loop_rounds 2 ?_
   rw [rounds_succ]
   go_upto_region 4 with fail
   have bP0 := below_one w0 (.cells #[.int .i64 x0, .int .i64 q0] 66)
   obtain ⟨bA, z0, f0, z1, f1, z2, f2, x0c, x1c, x2c⟩ := jkAF3C3 bP0 bA z0 f0 z1 f1 z2 f2 x0c x1c x2c
   replace lz := Nat.lt_of_lt_of_le lz bP0.size
   revert cX cx0 cq0 cx1 cq1 cx2; refine cc6 bP0 ?_; intro cX cx0 cq0 cx1 cq1 cx2
   replace cq2 := kC bP0 cq2
   replace hT0 := hT0.kept bP0
   obtain ⟨y00, y01⟩ := fX5 w0 x0 q0 _ rfl
   clear bP0
   generalize w0.alloc (.cells #[.int .i64 x0, .int .i64 q0] 66) = v0 at *
   generalize w0.heap.size = B0 at *
   go_wp2_with fail
   refine cM (A0.out _ bA) ?_
   rintro r w1 ⟨rfl, b1⟩
   obtain ⟨bA, z0, f0, z1, f1, z2, f2, x0c, x1c, x2c⟩ := jkAF3C3 b1 bA z0 f0 z1 f1 z2 f2 x0c x1c x2c
   replace lz := Nat.lt_of_lt_of_le lz b1.size
   revert cX cx0 cq0 cx1 cq1 cx2; refine cc6 b1 ?_; intro cX cx0 cq0 cx1 cq1 cx2
   replace cq2 := kC b1 cq2
   replace hT0 := hT0.kept b1
   replace y01 := kC b1 y01
   clear b1 y00
   go_wp2_with fail
   rw [rounds_succ]
   go_upto_region 4 with fail
   have bP1 := below_one w1 (.cells #[.int .i64 x1, .int .i64 q1] 66)
   obtain ⟨bA, z0, f0, z1, f1, z2, f2, x0c, x1c, x2c⟩ := jkAF3C3 bP1 bA z0 f0 z1 f1 z2 f2 x0c x1c x2c
   replace lz := Nat.lt_of_lt_of_le lz bP1.size
   revert cX cx0 cq0 cx1 cq1 cx2; refine cc6 bP1 ?_; intro cX cx0 cq0 cx1 cq1 cx2
   replace cq2 := kC bP1 cq2
   replace hT0 := hT0.kept bP1
   replace y01 := kC bP1 y01
   obtain ⟨y10, y11⟩ := fX5 w1 x1 q1 _ rfl
   clear bP1
   generalize w1.alloc (.cells #[.int .i64 x1, .int .i64 q1] 66) = v1 at *
   generalize w1.heap.size = B1 at *
   go_wp2_with fail
   refine cM (A1.out _ bA) ?_
   rintro r w2 ⟨rfl, b1⟩
   obtain ⟨bA, z0, f0, z1, f1, z2, f2, x0c, x1c, x2c⟩ := jkAF3C3 b1 bA z0 f0 z1 f1 z2 f2 x0c x1c x2c
   replace lz := Nat.lt_of_lt_of_le lz b1.size
   revert cX cx0 cq0 cx1 cq1 cx2; refine cc6 b1 ?_; intro cX cx0 cq0 cx1 cq1 cx2
   replace cq2 := kC b1 cq2
   replace hT0 := hT0.kept b1
   replace y01 := kC b1 y01
   replace y11 := kC b1 y11
   clear b1 y10
   go_wp2_with fail
   have lb := bA.size
   refine cM (Q1.out _ hT0) ?_
   rintro r w9 ⟨_, rfl, ⟨a3, n3, c3, rfl, HN3, hn3, hO3⟩, b1⟩
   obtain ⟨bA, z0, f0, z1, f1, z2, f2, x0c, x1c, x2c⟩ := jkAF3C3 b1 bA z0 f0 z1 f1 z2 f2 x0c x1c x2c
   replace lz := Nat.lt_of_lt_of_le lz b1.size
   revert cX cx0 cq0 cx1 cq1 cx2; refine cc6 b1 ?_; intro cX cx0 cq0 cx1 cq1 cx2
   replace cq2 := kC b1 cq2
   replace hT0 := hT0.kept b1
   replace y01 := kC b1 y01
   replace y11 := kC b1 y11
   clear b1
   go_wp2_with fail
   exact bodyPost_ret (v := .tuple #[dyV R1.1 a3 n3 c3 R1.2.2, .bool true]) (by simp [results, Tryz.results71, go_sem, z0, z1, z2]) rfl ⟨_, rfl, ⟨a3, n3, c3, rfl, HN3, hn3, (hO3.low lb).set_dy (w.heap.size + 1) false none 0 0 0 _ _ _ z0 z1 z2⟩, by repeat (first | (with_reducible exact bA) | (with_reducible refine Below.setCell ?_ (by simp; try omega) _) | (with_reducible refine Below.alloc ?_ (by have := bA.size; simp; try omega) _))⟩
  ·rw [if_neg j1]
   by_cases j2 : J2 = 0
   ·rw [if_pos j2]
    go_enter Tryz.func71, Tryz.ntmps71
    go_wp2_with fail
    generalize ((w.alloc (.cells #[.bool p.1, .slice a n c, .int .i64 p.2.2] 27)).alloc (.cells #[.bool false, .slice none 0 0, .int .i64 0] 27)) = w0 at *
    refine wp_loop_rounds 3 ?_
    rw [rounds_succ]
    go_upto_region 4 with fail
    have bP0 := below_one w0 (.cells #[.int .i64 x0, .int .i64 q0] 66)
    obtain ⟨bA, z0, f0, z1, f1, z2, f2, x0c, x1c, x2c⟩ := jkAF3C3 bP0 bA z0 f0 z1 f1 z2 f2 x0c x1c x2c
    replace lz := Nat.lt_of_lt_of_le lz bP0.size
    revert cX cx0 cq0 cx1 cq1 cx2; refine cc6 bP0 ?_; intro cX cx0 cq0 cx1 cq1 cx2
    replace cq2 := kC bP0 cq2
    replace hT0 := hT0.kept bP0
    obtain ⟨y00, y01⟩ := fX5 w0 x0 q0 _ rfl
    clear bP0
    generalize w0.alloc (.cells #[.int .i64 x0, .int .i64 q0] 66) = v0 at *
    generalize w0.heap.size = B0 at *
    go_wp2_with fail
    refine cM (A0.out _ bA) ?_
    rintro r w1 ⟨rfl, b1⟩
    obtain ⟨bA, z0, f0, z1, f1, z2, f2, x0c, x1c, x2c⟩ := jkAF3C3 b1 bA z0 f0 z1 f1 z2 f2 x0c x1c x2c
    replace lz := Nat.lt_of_lt_of_le lz b1.size
    revert cX cx0 cq0 cx1 cq1 cx2; refine cc6 b1 ?_; intro cX cx0 cq0 cx1 cq1 cx2
    replace cq2 := kC b1 cq2
    replace hT0 := hT0.kept b1
    replace y01 := kC b1 y01
    clear b1 y00
    go_wp2_with fail
    rw [rounds_succ]
    go_upto_region 4 with fail
    have bP1 := below_one w1 (.cells #[.int .i64 x1, .int .i64 q1] 66)
    obtain ⟨bA, z0, f0, z1, f1, z2, f2, x0c, x1c, x2c⟩ := jkAF3C3 bP1 bA z0 f0 z1 f1 z2 f2 x0c x1c x2c
    replace lz := Nat.lt_of_lt_of_le lz bP1.size
    revert cX cx0 cq0 cx1 cq1 cx2; refine cc6 bP1 ?_; intro cX cx0 cq0 cx1 cq1 cx2
    replace cq2 := kC bP1 cq2
    replace hT0 := hT0.kept bP1
    replace y01 := kC bP1 y01
    obtain ⟨y10, y11⟩ := fX5 w1 x1 q1 _ rfl
    clear bP1
    generalize w1.alloc (.cells #[.int .i64 x1, .int .i64 q1] 66) = v1 at *
    generalize w1.heap.size = B1 at *
    go_wp2_with fail
    refine cM (A1.out _ bA) ?_
    rintro r w2 ⟨rfl, b1⟩
    obtain ⟨bA, z0, f0, z1, f1, z2, f2, x0c, x1c, x2c⟩ := jkAF3C3 b1 bA z0 f0 z1 f1 z2 f2 x0c x1c x2c
    replace lz := Nat.lt_of_lt_of_le lz b1.size
    revert cX cx0 cq0 cx1 cq1 cx2; refine cc6 b1 ?_; intro cX cx0 cq0 cx1 cq1 cx2
    replace cq2 := kC b1 cq2
    replace hT0 := hT0.kept b1
    replace y01 := kC b1 y01
    replace y11 := kC b1 y11
    clear b1 y10
    go_wp2_with fail
    rw [rounds_succ]
    go_upto_region 4 with fail
    have bP2 := below_one w2 (.cells #[.int .i64 x2, .int .i64 q2] 66)
    obtain ⟨bA, z0, f0, z1, f1, z2, f2, x0c, x1c, x2c⟩ := jkAF3C3 bP2 bA z0 f0 z1 f1 z2 f2 x0c x1c x2c
    replace lz := Nat.lt_of_lt_of_le lz bP2.size
    revert cX cx0 cq0 cx1 cq1 cx2; refine cc6 bP2 ?_; intro cX cx0 cq0 cx1 cq1 cx2
    replace cq2 := kC bP2 cq2
    replace hT0 := hT0.kept bP2
    replace y01 := kC bP2 y01
    replace y11 := kC bP2 y11
    obtain ⟨y20, y21⟩ := fX5 w2 x2 q2 _ rfl
    clear bP2
    generalize w2.alloc (.cells #[.int .i64 x2, .int .i64 q2] 66) = v2 at *
    generalize w2.heap.size = B2 at *
    go_wp2_with fail
    refine cM (A2.out _ bA) ?_
    rintro r w3 ⟨rfl, b1⟩
    obtain ⟨bA, z0, f0, z1, f1, z2, f2, x0c, x1c, x2c⟩ := jkAF3C3 b1 bA z0 f0 z1 f1 z2 f2 x0c x1c x2c
    replace lz := Nat.lt_of_lt_of_le lz b1.size
    revert cX cx0 cq0 cx1 cq1 cx2; refine cc6 b1 ?_; intro cX cx0 cq0 cx1 cq1 cx2
    replace cq2 := kC b1 cq2
    replace hT0 := hT0.kept b1
    revert y01 y11 y21; refine cc3 b1 ?_; intro y01 y11 y21
    clear b1 y20
    go_wp2_with fail
    have lb := bA.size
    refine cM (Q2.out _ hT0) ?_
    rintro r w9 ⟨_, rfl, ⟨a3, n3, c3, rfl, HN3, hn3, hO3⟩, b1⟩
    obtain ⟨bA, z0, f0, z1, f1, z2, f2, x0c, x1c, x2c⟩ := jkAF3C3 b1 bA z0 f0 z1 f1 z2 f2 x0c x1c x2c
    replace lz := Nat.lt_of_lt_of_le lz b1.size
    revert cX cx0 cq0 cx1 cq1 cx2; refine cc6 b1 ?_; intro cX cx0 cq0 cx1 cq1 cx2
    replace cq2 := kC b1 cq2
    replace hT0 := hT0.kept b1
    revert y01 y11 y21; refine cc3 b1 ?_; intro y01 y11 y21
    clear b1
    go_wp2_with fail
    exact bodyPost_ret (v := .tuple #[dyV R2.1 a3 n3 c3 R2.2.2, .bool true]) (by simp [results, Tryz.results71, go_sem, z0, z1, z2]) rfl ⟨_, rfl, ⟨a3, n3, c3, rfl, HN3, hn3, (hO3.low lb).set_dy (w.heap.size + 1) false none 0 0 0 _ _ _ z0 z1 z2⟩, by repeat (first | (with_reducible exact bA) | (with_reducible refine Below.setCell ?_ (by simp; try omega) _) | (with_reducible refine Below.alloc ?_ (by have := bA.size; simp; try omega) _))⟩
   ·rw [if_neg j2]
    unfold no3
    go_enter Tryz.func71, Tryz.ntmps71
    go_wp2_with fail
    generalize ((w.alloc (.cells #[.bool p.1, .slice a n c, .int .i64 p.2.2] 27)).alloc (.cells #[.bool false, .slice none 0 0, .int .i64 0] 27)) = w0 at *
    refine wp_loop_rounds 4 ?_
    rw [rounds_succ]
    go_upto_region 4 with fail
    have bP0 := below_one w0 (.cells #[.int .i64 x0, .int .i64 q0] 66)
    obtain ⟨bA, z0, f0, z1, f1, z2, f2, x0c, x1c, x2c⟩ := jkAF3C3 bP0 bA z0 f0 z1 f1 z2 f2 x0c x1c x2c
    replace lz := Nat.lt_of_lt_of_le lz bP0.size
    revert cX cx0 cq0 cx1 cq1 cx2; refine cc6 bP0 ?_; intro cX cx0 cq0 cx1 cq1 cx2
    replace cq2 := kC bP0 cq2
    replace hT0 := hT0.kept bP0
    obtain ⟨y00, y01⟩ := fX5 w0 x0 q0 _ rfl
    clear bP0
    generalize w0.alloc (.cells #[.int .i64 x0, .int .i64 q0] 66) = v0 at *
    generalize w0.heap.size = B0 at *
    go_wp2_with fail
    refine cM (A0.out _ bA) ?_
    rintro r w1 ⟨rfl, b1⟩
    obtain ⟨bA, z0, f0, z1, f1, z2, f2, x0c, x1c, x2c⟩ := jkAF3C3 b1 bA z0 f0 z1 f1 z2 f2 x0c x1c x2c
    replace lz := Nat.lt_of_lt_of_le lz b1.size
    revert cX cx0 cq0 cx1 cq1 cx2; refine cc6 b1 ?_; intro cX cx0 cq0 cx1 cq1 cx2
    replace cq2 := kC b1 cq2
    replace hT0 := hT0.kept b1
    replace y01 := kC b1 y01
    clear b1 y00
    go_wp2_with fail
    rw [rounds_succ]
    go_upto_region 4 with fail
    have bP1 := below_one w1 (.cells #[.int .i64 x1, .int .i64 q1] 66)
    obtain ⟨bA, z0, f0, z1, f1, z2, f2, x0c, x1c, x2c⟩ := jkAF3C3 bP1 bA z0 f0 z1 f1 z2 f2 x0c x1c x2c
    replace lz := Nat.lt_of_lt_of_le lz bP1.size
    revert cX cx0 cq0 cx1 cq1 cx2; refine cc6 bP1 ?_; intro cX cx0 cq0 cx1 cq1 cx2
    replace cq2 := kC bP1 cq2
    replace hT0 := hT0.kept bP1
    replace y01 := kC bP1 y01
    obtain ⟨y10, y11⟩ := fX5 w1 x1 q1 _ rfl
    clear bP1
    generalize w1.alloc (.cells #[.int .i64 x1, .int .i64 q1] 66) = v1 at *
    generalize w1.heap.size = B1 at *
    go_wp2_with fail
    refine cM (A1.out _ bA) ?_
    rintro r w2 ⟨rfl, b1⟩
    obtain ⟨bA, z0, f0, z1, f1, z2, f2, x0c, x1c, x2c⟩ := jkAF3C3 b1 bA z0 f0 z1 f1 z2 f2 x0c x1c x2c
    replace lz := Nat.lt_of_lt_of_le lz b1.size
    revert cX cx0 cq0 cx1 cq1 cx2; refine cc6 b1 ?_; intro cX cx0 cq0 cx1 cq1 cx2
    replace cq2 := kC b1 cq2
    replace hT0 := hT0.kept b1
    replace y01 := kC b1 y01
    replace y11 := kC b1 y11
    clear b1 y10
    go_wp2_with fail
    rw [rounds_succ]
    go_upto_region 4 with fail
    have bP2 := below_one w2 (.cells #[.int .i64 x2, .int .i64 q2] 66)
    obtain ⟨bA, z0, f0, z1, f1, z2, f2, x0c, x1c, x2c⟩ := jkAF3C3 bP2 bA z0 f0 z1 f1 z2 f2 x0c x1c x2c
    replace lz := Nat.lt_of_lt_of_le lz bP2.size
    revert cX cx0 cq0 cx1 cq1 cx2; refine cc6 bP2 ?_; intro cX cx0 cq0 cx1 cq1 cx2
    replace cq2 := kC bP2 cq2
    replace hT0 := hT0.kept bP2
    replace y01 := kC bP2 y01
    replace y11 := kC bP2 y11
    obtain ⟨y20, y21⟩ := fX5 w2 x2 q2 _ rfl
    clear bP2
    generalize w2.alloc (.cells #[.int .i64 x2, .int .i64 q2] 66) = v2 at *
    generalize w2.heap.size = B2 at *
    go_wp2_with fail
    refine cM (A2.out _ bA) ?_
    rintro r w3 ⟨rfl, b1⟩
    obtain ⟨bA, z0, f0, z1, f1, z2, f2, x0c, x1c, x2c⟩ := jkAF3C3 b1 bA z0 f0 z1 f1 z2 f2 x0c x1c x2c
    replace lz := Nat.lt_of_lt_of_le lz b1.size
    revert cX cx0 cq0 cx1 cq1 cx2; refine cc6 b1 ?_; intro cX cx0 cq0 cx1 cq1 cx2
    replace cq2 := kC b1 cq2
    replace hT0 := hT0.kept b1
    revert y01 y11 y21; refine cc3 b1 ?_; intro y01 y11 y21
    clear b1 y20
    go_wp2_with fail
    rw [rounds_succ]
    go_wp2_with fail
    exact bodyPost_ret (v := .tuple #[dyV false none 0 0 0, .bool false]) (by simp [results, Tryz.results71, go_sem, z0, z1, z2]) rfl ⟨_, rfl, dyAt_z3 _ _, by repeat (first | (with_reducible exact bA) | (with_reducible refine Below.setCell ?_ (by simp; try omega) _) | (with_reducible refine Below.alloc ?_ (by have := bA.size; simp; try omega) _))⟩
theorem powO_eq (O : Nat) (k : Int) (hg : greatB O = false) (hG : greatB (O ^ k.toNat) = false) : powR O (max 0 k) = (O ^ k.toNat, 0) := by
 unfold powR
 rw [hg, if_neg (by decide), if_neg (by omega), show (max 0 k).toNat = k.toNat by omega, fitR_no hG]
theorem to_calls5 (O : Nat) (l m k : Int) (w : World) (hO : O ≤ 18446744073709551615) (hk : k ≤ 100000) (hg1 : greatB O = false) (hg2 : greatB (O ^ k.toNat) = false) :
  Calls Tryz.prog 73 #[.agg #[.int .u64 (O : Int), .int .i64 l, .int .i64 m], .int .i64 k] w fun q w' => ∃ v', q = .returned v' ∧ DyAt w.heap.size w' v' (toP O k) ∧ Below w.heap.size w w' := by
 have hR : powR O (max 0 k) = (O ^ k.toNat, 0) := powO_eq O k hg1 hg2
 have bA : Below w.heap.size w ((w.alloc (.cells #[.int .u64 (O : Int), .int .i64 l, .int .i64 m] 68)).alloc (.cells #[.bool false, .slice none 0 0, .int .i64 0] 27)) := nT (below_one _ _) (below_one _ _)
 have p0 : ((w.alloc (.cells #[.int .u64 (O : Int), .int .i64 l, .int .i64 m] 68)).alloc (.cells #[.bool false, .slice none 0 0, .int .i64 0] 27)).cell? ⟨w.heap.size, 0, none⟩ = some (.int .u64 (O : Int)) := by go_simp
 have z0 : ((w.alloc (.cells #[.int .u64 (O : Int), .int .i64 l, .int .i64 m] 68)).alloc (.cells #[.bool false, .slice none 0 0, .int .i64 0] 27)).cell? ⟨w.heap.size + 1, 0, none⟩ = some (.bool false) := by go_simp
 have f0 : ((w.alloc (.cells #[.int .u64 (O : Int), .int .i64 l, .int .i64 m] 68)).alloc (.cells #[.bool false, .slice none 0 0, .int .i64 0] 27)).frozen? ⟨w.heap.size + 1, 0, none⟩ = false := by go_simp
 have z1 : ((w.alloc (.cells #[.int .u64 (O : Int), .int .i64 l, .int .i64 m] 68)).alloc (.cells #[.bool false, .slice none 0 0, .int .i64 0] 27)).cell? ⟨w.heap.size + 1, 1, none⟩ = some (.slice none 0 0) := by go_simp
 have f1 : ((w.alloc (.cells #[.int .u64 (O : Int), .int .i64 l, .int .i64 m] 68)).alloc (.cells #[.bool false, .slice none 0 0, .int .i64 0] 27)).frozen? ⟨w.heap.size + 1, 1, none⟩ = false := by go_simp
 have z2 : ((w.alloc (.cells #[.int .u64 (O : Int), .int .i64 l, .int .i64 m] 68)).alloc (.cells #[.bool false, .slice none 0 0, .int .i64 0] 27)).cell? ⟨w.heap.size + 1, 2, none⟩ = some (.int .i64 0) := by go_simp
 have f2 : ((w.alloc (.cells #[.int .u64 (O : Int), .int .i64 l, .int .i64 m] 68)).alloc (.cells #[.bool false, .slice none 0 0, .int .i64 0] 27)).frozen? ⟨w.heap.size + 1, 2, none⟩ = false := by go_simp
 have OC : Hid _ := of_eq O ((w.alloc (.cells #[.int .u64 (O : Int), .int .i64 l, .int .i64 m] 68)).alloc (.cells #[.bool false, .slice none 0 0, .int .i64 0] 27)) hO
 have PC : Hid _ := fun (W : World) (a : Option Addr) (n c : Nat) (h : IsW W a n c (wO O)) (hn : n ≤ 1024) => pow_calls a n c (wO O) (max 0 k) W h (by omega) (by omega)
 have hv := val_words O
 simp only [hv, hR] at PC
 unfold toP
 generalize O ^ k.toNat = R at *
 clear hv hR hO hg1
 go_enter Tryz.func73, Tryz.ntmps73
 go_wp2_with fail
 generalize ((w.alloc (.cells #[.int .u64 (O : Int), .int .i64 l, .int .i64 m] 68)).alloc (.cells #[.bool false, .slice none 0 0, .int .i64 0] 27)) = w0 at *
 refine cM OC.out ?_
 rintro r w1 ⟨ao, no, co, rfl, HNo, hno, hOo, b1⟩
 obtain ⟨bA, z0, f0, z1, f1, z2, f2, p0⟩ := jkAF3C b1 bA z0 f0 z1 f1 z2 f2 p0
 clear OC b1
 go_wp2_with fail
 have lb := bA.size
 refine cM (PC.out _ _ _ _ hOo.1 hno) ?_
 rintro r w2 ⟨_, rfl, ⟨a3, n3, c3, rfl, HN3, hO3⟩, b1⟩
 obtain ⟨bA, z0, f0, z1, f1, z2, f2, p0⟩ := jkAF3C b1 bA z0 f0 z1 f1 z2 f2 p0
 have hn3 : n3 ≤ 1024 := len_of_fit HN3 hg2
 have HM3 : Hid _ := HN3
 clear PC b1 HN3
 go_wp2_with fail
 exact bodyPost_ret (v := dyV false a3 n3 c3 k) (by simp [results, Tryz.results73, go_sem, z0, z1, z2]) rfl ⟨_, rfl, ⟨a3, n3, c3, rfl, HM3, hn3, (hO3.low lb).set_dy (w.heap.size + 1) false none 0 0 0 _ _ _ z0 z1 z2⟩, by repeat (first | (with_reducible exact bA) | (with_reducible refine Below.setCell ?_ (by simp; try omega) _) | (with_reducible refine Below.alloc ?_ (by have := bA.size; simp; try omega) _))⟩
end Go.Proofs.YtiijfnaaekmpbaaGreatDoor

/- The document's Narrow, in the program's words. -/
import Derived.Test.YtbhneifafnoaiaaGreatDoorCR
import Derived.Test.YtbhneifafnoaiaaGreatDoorTL2
import Derived.Deep.CutRange
import Derived.Test.YtbhneifafnoaiaaGreatDoorFX
namespace Go.Proofs.YtbhneifafnoaiaaGreatDoor
open Go.RowKit
theorem vI_absN (S : Bool × Nat × Int) (K : Nat) (l : -(K : Int) ≤ S.2.2) : (vI S (-(K : Int))).natAbs = S.2.1 * 2 ^ (S.2.2 + K).toNat := by
 unfold vI
 rw [Int.natAbs_mul, Int.natAbs_natCast, show (S.2.2 - -(K : Int)).toNat = (S.2.2 + K).toNat by omega]
 have : (sI S.1).natAbs = 1 := by unfold sI; split <;> rfl
 rw [this, Nat.one_mul]
theorem form_absN (s : Bool) (m : Nat) (e : Int) (K : Nat) (h : -(K : Int) ≤ e) (hb : blen m ≤ 65536) (he : e ≤ 32768) : (vI (formD s m e) (-(K : Int))).natAbs < 2 ^ (98304 + K) := by
 rw [vI_form _ _ _ _ h, Int.natAbs_mul, Int.natAbs_natCast]
 have h1 : (sI s).natAbs = 1 := by unfold sI; split <;> rfl
 rw [h1, Nat.one_mul]
 refine Nat.lt_of_lt_of_le (pow_up m _ _ (lt_blen m)) (pow_mo (by omega))
theorem wd_bd (s : Bool) (m : Nat) (e : Int) (t : Bool) (n : Nat) (f : Int) (h1 : rightB m e = true) (h2 : rightB n f = true) : CanD (dnW s m e t n f) ∧ blen (dnW s m e t n f).2.1 ≤ 200000 ∧ -200000 ≤ (dnW s m e t n f).2.2 ∧ (dnW s m e t n f).2.2 ≤ 200000 := by
 obtain ⟨g1, b1⟩ := rightB_yes h1
 obtain ⟨g2, b2⟩ := rightB_yes h2
 have l1 := (great_not _).1 g1
 have l2 := (great_not _).1 g2
 obtain ⟨K, hK⟩ : ∃ K : Nat, K = 500000 := ⟨_, rfl⟩
 have hc : CanD (dnW s m e t n f) := sumN_can (form_can _ _ _) (form_can _ _ _)
 have lw : -32768 ≤ (dnW s m e t n f).2.2 := sum_low _ _ _ (by omega) (form_loN _ _ _ _ (by omega) (by omega)) (form_loN _ _ _ _ (by omega) (by omega))
 have hv : (vI (dnW s m e t n f) (-(K : Int))).natAbs < 2 ^ (98305 + K) := by
  have e1 : vI (dnW s m e t n f) (-(K : Int)) = vI (formD t n f) (-(K : Int)) + vI (formD (!s) m e) (-(K : Int)) := vI_sum _ _ _ (form_loN _ _ _ _ (by omega) (by omega)) (form_loN _ _ _ _ (by omega) (by omega))
  have e2 := form_absN t n f K (by omega) l2 b2.2
  have e3 := form_absN (!s) m e K (by omega) l1 b1.2
  have e4 : 2 ^ (98305 + K) = 2 * 2 ^ (98304 + K) := by rw [show 98305 + K = (98304 + K) + 1 by omega, Nat.pow_succ, Nat.mul_comm]
  rw [e1, e4]
  generalize 2 ^ (98304 + K) = G at *
  omega
 generalize dnW s m e t n f = S at *
 rw [vI_absN S K (by omega)] at hv
 refine ⟨hc, ?_, by omega, ?_⟩
 ·rcases Nat.lt_or_ge 200000 (blen S.2.1) with q | q
  ·exfalso
   have z : S.2.1 ≠ 0 := fun c => by rw [c, blen_zero] at q; omega
   have := pow_lo S.2.1 (blen S.2.1 - 1) (S.2.2 + K).toNat (blen_ge S.2.1 z)
   have := pow_mo (show 98305 + K ≤ blen S.2.1 - 1 + (S.2.2 + K).toNat by omega)
   omega
  ·exact q
 ·by_cases z : S.2.1 = 0
  ·rcases hc with c | c
   ·rw [c]; show (0 : Int) ≤ 200000; omega
   ·rw [z] at c; exact absurd c (by decide)
  ·rcases Int.lt_or_le 200000 S.2.2 with q | q
   ·exfalso
    have := pow_lo S.2.1 0 (S.2.2 + K).toNat (by rw [Nat.pow_zero]; omega)
    have := pow_mo (show 98305 + K ≤ 0 + (S.2.2 + K).toNat by omega)
    omega
   ·exact q
theorem form_rngM (s : Bool) (m : Nat) (e : Int) (hb : blen m ≤ 200000) (he : -400000 ≤ e ∧ e ≤ 400000) : blen (formD s m e).2.1 ≤ 1000000 ∧ -1000000 ≤ (formD s m e).2.2 ∧ (formD s m e).2.2 ≤ 1000000 := by
 have h1 : blen (formD s m e).2.1 ≤ blen m := blen_mono (form_amount_le _ _ _)
 refine ⟨by omega, form_loN _ _ _ _ (by omega) (by omega), ?_⟩
 by_cases z : m = 0
 ·rw [z, form_zero]; show (0 : Int) ≤ _; omega
 ·rw [form_pos _ z]
  have := tz_le_blen m
  show e + (tz m : Int) ≤ _
  omega
theorem form_rngN (s : Bool) (m : Nat) (e : Int) (hb : blen m ≤ 65536) (he : -32768 ≤ e ∧ e ≤ 32768) : blen (formD s m e).2.1 ≤ 1000000 ∧ -1000000 ≤ (formD s m e).2.2 ∧ (formD s m e).2.2 ≤ 1000000 := form_rngM s m e (by omega) (by omega)
theorem words_few {m : Nat} (h : blen m ≤ 1000000) : (wO m).length ≤ 20000 := (words_len2 _ _).2 (by omega)
def nwT (x y : DT) (p : Int) : Bool := nwB x.1 (val x.2.2.2.2.1) x.2.2.2.2.2 y.1 (val y.2.2.2.2.1) y.2.2.2.2.2 p
set_option maxRecDepth 100000 in
set_option maxHeartbeats 4000000 in
theorem vNarrow_not (x y : DT) (p : Int) (w : World) (hx : inT w x) (hy : inT w y) (hn : (rtT x y && decide (0 ≤ p)) = false) :
  Calls Tryz.prog 13 #[ivT x y, .int .i64 p] w fun r w' => r = .returned (.bool (nwT x y p)) ∧ Below w.heap.size w w' := by
 have bA : Below w.heap.size w (w.alloc (.cells #[.bool x.1, .slice x.2.1 x.2.2.1 x.2.2.2.1, .int .i64 x.2.2.2.2.2, .bool y.1, .slice y.2.1 y.2.2.1 y.2.2.2.1, .int .i64 y.2.2.2.2.2] 27)) := below_one _ _
 have HR : Hid _ := fun W (q : inT W x) (q' : inT W y) => vRight_calls x y W q q'
 have HV : Hid (nwT x y p = false) := by
  rw [Hid]; unfold nwT; rw [nw_dn]; unfold dnB
  have e1 : rtI x.1 (val x.2.2.2.2.1) x.2.2.2.2.2 y.1 (val y.2.2.2.2.1) y.2.2.2.2.2 = rtT x y := rfl
  rw [e1, hn]; rfl
 obtain ⟨k0, k1, k2, k3, k4, k5⟩ := fX12 w x y _ rfl
 replace hx := hx.keep bA
 replace hy := hy.keep bA
 generalize nwT x y p = B at *
 cases hr : rtT x y with
 | false =>
  rw [hr] at HR
  clear hn hr
  go_enter Tryz.func13, Tryz.ntmps13
  go_wp2_with fail
  generalize (w.alloc (.cells #[.bool x.1, .slice x.2.1 x.2.2.1 x.2.2.2.1, .int .i64 x.2.2.2.2.2, .bool y.1, .slice y.2.1 y.2.2.1 y.2.2.2.1, .int .i64 y.2.2.2.2.2] 27)) = w0 at *
  refine Calls.mono (HR.out _ hx hy) ?_
  rintro r w1 ⟨rfl, bN⟩
  revert k0 k1 k2 k3 k4 k5; refine cc6 bN ?_; intro k0 k1 k2 k3 k4 k5
  replace hx := hx.keep bN
  replace hy := hy.keep bN
  replace bA := nT bA bN
  clear bN
  go_wp2_with fail
  go_ret
  exact ⟨by rw [HV.out]; rfl, bA⟩
 | true =>
  rw [hr] at HR
  have hp : p < 0 := by rw [hr, Bool.true_and] at hn; have := of_decide_eq_false hn; omega
  clear hn hr
  go_enter Tryz.func13, Tryz.ntmps13
  go_wp2_with fail
  generalize (w.alloc (.cells #[.bool x.1, .slice x.2.1 x.2.2.1 x.2.2.2.1, .int .i64 x.2.2.2.2.2, .bool y.1, .slice y.2.1 y.2.2.1 y.2.2.2.1, .int .i64 y.2.2.2.2.2] 27)) = w0 at *
  refine Calls.mono (HR.out _ hx hy) ?_
  rintro r w1 ⟨rfl, bN⟩
  revert k0 k1 k2 k3 k4 k5; refine cc6 bN ?_; intro k0 k1 k2 k3 k4 k5
  replace hx := hx.keep bN
  replace hy := hy.keep bN
  replace bA := nT bA bN
  clear bN
  go_wp2_with fail
  go_ret
  exact ⟨by rw [HV.out]; rfl, bA⟩
set_option maxRecDepth 100000 in
set_option maxHeartbeats 4000000 in
theorem vNarrow_sgn (x y : DT) (p : Int) (w : World) (hx : inT w x) (hy : inT w y) (hr : rtT x y = true) (hp : 0 ≤ p) (hs : sgnQ x.1 (val x.2.2.2.2.1) ≠ sgnQ y.1 (val y.2.2.2.2.1) ∨ sgnQ x.1 (val x.2.2.2.2.1) = 0) :
  Calls Tryz.prog 13 #[ivT x y, .int .i64 p] w fun r w' => r = .returned (.bool (nwT x y p)) ∧ Below w.heap.size w w' := by
 have bA : Below w.heap.size w (w.alloc (.cells #[.bool x.1, .slice x.2.1 x.2.2.1 x.2.2.2.1, .int .i64 x.2.2.2.2.2, .bool y.1, .slice y.2.1 y.2.2.1 y.2.2.2.1, .int .i64 y.2.2.2.2.2] 27)) := below_one _ _
 have HR : Hid _ := fun W (q : inT W x) (q' : inT W y) => vRight_calls x y W q q'
 have HV : Hid (nwT x y p = decide (sgnQ x.1 (val x.2.2.2.2.1) = sgnQ y.1 (val y.2.2.2.2.1))) := by
  rw [Hid]; unfold nwT; rw [nw_dn]; unfold dnB
  have e1 : rtI x.1 (val x.2.2.2.2.1) x.2.2.2.2.2 y.1 (val y.2.2.2.2.1) y.2.2.2.2.2 = rtT x y := rfl
  rw [e1, hr, decide_eq_true hp]
  by_cases q : sgnQ x.1 (val x.2.2.2.2.1) = sgnQ y.1 (val y.2.2.2.2.1)
  ·rcases hs with c | c
   ·exact absurd q c
   ·rw [decide_eq_true q, decide_eq_true c]; rfl
  ·rw [decide_eq_false q]; rfl
 obtain ⟨k0, k1, k2, k3, k4, k5⟩ := fX12 w x y _ rfl
 replace hx := hx.keep bA
 replace hy := hy.keep bA
 have H2 : Hid _ := fun W (q : inT W x) => qSign_calls x.1 x.2.1 x.2.2.1 x.2.2.2.1 x.2.2.2.2.1 x.2.2.2.2.2 W q.1 q.2
 have H3 : Hid _ := fun W (q : inT W y) => qSign_calls y.1 y.2.1 y.2.2.1 y.2.2.2.1 y.2.2.2.2.1 y.2.2.2.2.2 W q.1 q.2
 rw [hr] at HR
 have np : ¬ p < 0 := by omega
 generalize nwT x y p = B at *
 generalize sgnQ x.1 (val x.2.2.2.2.1) = a1 at *
 generalize sgnQ y.1 (val y.2.2.2.2.1) = a2 at *
 clear hr
 go_enter Tryz.func13, Tryz.ntmps13
 go_wp2_with fail
 generalize (w.alloc (.cells #[.bool x.1, .slice x.2.1 x.2.2.1 x.2.2.2.1, .int .i64 x.2.2.2.2.2, .bool y.1, .slice y.2.1 y.2.2.1 y.2.2.2.1, .int .i64 y.2.2.2.2.2] 27)) = w0 at *
 refine Calls.mono (HR.out _ hx hy) ?_
 rintro r w1 ⟨rfl, bN⟩
 revert k0 k1 k2 k3 k4 k5; refine cc6 bN ?_; intro k0 k1 k2 k3 k4 k5
 replace hx := hx.keep bN
 replace hy := hy.keep bN
 replace bA := nT bA bN
 clear bN
 go_wp2_with fail
 have bD : Below w1.heap.size w1 w1.drew := (Below.refl _ _).drew
 go_region_held3 (fun W => W.cell? ⟨w.heap.size, 0, none⟩ = some (.bool x.1) ∧ W.cell? ⟨w.heap.size, 1, none⟩ = some (.slice x.2.1 x.2.2.1 x.2.2.2.1) ∧ W.cell? ⟨w.heap.size, 2, none⟩ = some (.int .i64 x.2.2.2.2.2) ∧ W.cell? ⟨w.heap.size, 3, none⟩ = some (.bool y.1) ∧ W.cell? ⟨w.heap.size, 4, none⟩ = some (.slice y.2.1 y.2.2.1 y.2.2.2.1) ∧ W.cell? ⟨w.heap.size, 5, none⟩ = some (.int .i64 y.2.2.2.2.2))
  (first | (go_keep; done) | ((refine ⟨?_, ?_, ?_, ?_, ?_, ?_⟩ <;> (refine kC bL ?_; go_keep)); done))
  (first
   | (have _q := gaS; go_at_call 18; refine (H3.out _ (hy.keep bb)).mono ?_; rintro r w3 ⟨rfl, bL⟩; replace bb := nT bb bL)
   | (go_at_call 18; refine (H2.out _ (hx.keep bD)).mono ?_; rintro r w2 ⟨rfl, bL⟩; have bb := nT bD bL; have gaS := True.intro))
 have bN := bb
 revert k0 k1 k2 k3 k4 k5; refine cc6 bN ?_; intro k0 k1 k2 k3 k4 k5
 replace hx := hx.keep bN
 replace hy := hy.keep bN
 replace bA := nT bA bN
 clear bN bb bD
 by_cases q : a1 = a2
 ·have z : a1 = 0 := by rcases hs with c | c; exact absurd q c; exact c
  subst q
  subst z
  clear hs
  go_wp2_with fail
  go_ret
  exact ⟨by rw [HV.out]; rfl, bA⟩
 ·have q' : (a1 == a2) = false := beq_eq_false_iff_ne.2 q
  rw [decide_eq_false q] at HV
  clear hs
  go_wp2_with fail
  go_ret
  exact ⟨by rw [HV.out]; rfl, bA⟩
set_option maxRecDepth 100000 in
set_option maxHeartbeats 4000000 in
theorem vNarrow_pos (x y : DT) (p : Int) (w : World) (hx : inT w x) (hy : inT w y) (hr : rtT x y = true) (hp : 0 ≤ p) (h1 : sgnQ x.1 (val x.2.2.2.2.1) = 1) (h2 : sgnQ y.1 (val y.2.2.2.2.1) = 1) (h3 : x.1 = false) (_h4 : y.1 = false) :
  Calls Tryz.prog 13 #[ivT x y, .int .i64 p] w fun r w' => r = .returned (.bool (nwT x y p)) ∧ Below w.heap.size w w' := by
 have bA : Below w.heap.size w (w.alloc (.cells #[.bool x.1, .slice x.2.1 x.2.2.1 x.2.2.2.1, .int .i64 x.2.2.2.2.2, .bool y.1, .slice y.2.1 y.2.2.1 y.2.2.2.1, .int .i64 y.2.2.2.2.2] 27)) := below_one _ _
 have HR : Hid _ := fun W (q : inT W x) (q' : inT W y) => vRight_calls x y W q q'
 have HV : Hid (nwT x y p = ddB (dnW x.1 (val x.2.2.2.2.1) x.2.2.2.2.2 y.1 (val y.2.2.2.2.1) y.2.2.2.2.2) (val x.2.2.2.2.1) x.2.2.2.2.2 p) := by
  rw [Hid]; unfold nwT; rw [nw_dn]; unfold dnB
  have e1 : rtI x.1 (val x.2.2.2.2.1) x.2.2.2.2.2 y.1 (val y.2.2.2.2.1) y.2.2.2.2.2 = rtT x y := rfl
  rw [e1, hr, decide_eq_true hp, h1, h2]
  simp
 obtain ⟨k0, k1, k2, k3, k4, k5⟩ := fX12 w x y _ rfl
 replace hx := hx.keep bA
 replace hy := hy.keep bA
 have H2 : Hid _ := fun W (q : inT W x) => qSign_calls x.1 x.2.1 x.2.2.1 x.2.2.2.1 x.2.2.2.2.1 x.2.2.2.2.2 W q.1 q.2
 have H3 : Hid _ := fun W (q : inT W y) => qSign_calls y.1 y.2.1 y.2.2.1 y.2.2.2.1 y.2.2.2.2.1 y.2.2.2.2.2 W q.1 q.2
 rw [hr] at HR
 rw [h1] at H2
 rw [h2] at H3
 have np : ¬ p < 0 := by omega
 obtain ⟨g1, g2⟩ := rt_rg hr
 obtain ⟨wc, wb, we1, we2⟩ := wd_bd x.1 (val x.2.2.2.2.1) x.2.2.2.2.2 y.1 (val y.2.2.2.2.1) y.2.2.2.2.2 g1 g2
 have HL : Hid (∀ W, inT W x → inT W y → Calls Tryz.prog 24 #[dyV y.1 y.2.1 y.2.2.1 y.2.2.2.1 y.2.2.2.2.2, dyV x.1 x.2.1 x.2.2.1 x.2.2.2.1 x.2.2.2.2.2] W fun r w' => ∃ v', r = .returned v' ∧ DyQ W.heap.size w' v' (dnW x.1 (val x.2.2.2.2.1) x.2.2.2.2.2 y.1 (val y.2.2.2.2.1) y.2.2.2.2.2) ∧ Below W.heap.size W w') := fun W q q' => qLess_calls y.1 y.2.1 y.2.2.1 y.2.2.2.1 y.2.2.2.2.1 y.2.2.2.2.2 x.1 x.2.1 x.2.2.1 x.2.2.2.1 x.2.2.2.2.1 x.2.2.2.2.2 W q'.1 q'.2 q.1 q.2 (rg_bounds g2).1 (rg_bounds g1).1 (rg_bounds g2).2 (rg_bounds g1).2
 have HZ : Hid (∀ (a : Option Addr) (n c : Nat) (M : Nat) (s : Bool) (E : Int) W, IsW W a n c (wO M) → n = (wO M).length → blen M ≤ 200000 → Calls Tryz.prog 25 #[dyV s a n c E] W fun r w' => r = .returned (.bool (decide (M = 0))) ∧ Below W.heap.size W w') := fun a n c M s E W k hn hb => by
  have hl := words_few (m := M) (by omega)
  have := qZero_calls s a n c (wO M) E W k (by omega)
  rwa [val_words] at this
 have HT2 : Hid (∀ (a : Option Addr) (n c : Nat) (T : Bool × Nat × Int) W, IsW W a n c (wO T.2.1) → n = (wO T.2.1).length → blen T.2.1 ≤ 200000 → (-200000 ≤ T.2.2 ∧ T.2.2 ≤ 200000) → (0 ≤ p ∧ p ≤ 196608) → Calls Tryz.prog 26 #[dyV T.1 a n c T.2.2, .int .i64 p] W fun r w' => ∃ v, r = .returned v ∧ DyQ W.heap.size w' v (formD T.1 T.2.1 (T.2.2 + p)) ∧ Below W.heap.size W w') := fun a n c T W k hn hb he hq => by
  have hl := words_few (m := T.2.1) (by omega)
  have := qTwice_calls T.1 a n c (wO T.2.1) T.2.2 p W k (by omega) (by omega)
  rwa [val_words] at this
 have HO : Hid (∀ (a : Option Addr) (n c : Nat) (T : Bool × Nat × Int) W, IsW W a n c (wO T.2.1) → n = (wO T.2.1).length → CanD T → blen T.2.1 ≤ 1000000 → (-1000000 ≤ T.2.2 ∧ T.2.2 ≤ 1000000) → inT W x → Calls Tryz.prog 20 #[dyV T.1 a n c T.2.2, dyV x.1 x.2.1 x.2.2.1 x.2.2.2.1 x.2.2.2.2.2] W fun r w' => r = .returned (.int .i64 (cmpD T (formD false (val x.2.2.2.2.1) x.2.2.2.2.2))) ∧ Below W.heap.size W w') := fun a n c T W k hn hc hb he q => by
  have hl := words_few (m := T.2.1) (by omega)
  have := qOrder_calls T.1 a n c (wO T.2.1) T.2.2 x.1 x.2.1 x.2.2.1 x.2.2.2.1 x.2.2.2.2.1 x.2.2.2.2.2 W k (by omega) q.1 q.2 (by omega) (rg_bounds g1).1 (by rw [val_words]; omega) (rg_bounds g1).2
  rwa [val_words, form_of_can hc, show formD x.1 (val x.2.2.2.2.1) x.2.2.2.2.2 = formD false (val x.2.2.2.2.1) x.2.2.2.2.2 by rw [h3]] at this
 have FT : Hid (0 ≤ p → p ≤ 196608 → CanD (formD (dnW x.1 (val x.2.2.2.2.1) x.2.2.2.2.2 y.1 (val y.2.2.2.2.1) y.2.2.2.2.2).1 (dnW x.1 (val x.2.2.2.2.1) x.2.2.2.2.2 y.1 (val y.2.2.2.2.1) y.2.2.2.2.2).2.1 ((dnW x.1 (val x.2.2.2.2.1) x.2.2.2.2.2 y.1 (val y.2.2.2.2.1) y.2.2.2.2.2).2.2 + p)) ∧ blen (formD (dnW x.1 (val x.2.2.2.2.1) x.2.2.2.2.2 y.1 (val y.2.2.2.2.1) y.2.2.2.2.2).1 (dnW x.1 (val x.2.2.2.2.1) x.2.2.2.2.2 y.1 (val y.2.2.2.2.1) y.2.2.2.2.2).2.1 ((dnW x.1 (val x.2.2.2.2.1) x.2.2.2.2.2 y.1 (val y.2.2.2.2.1) y.2.2.2.2.2).2.2 + p)).2.1 ≤ 1000000 ∧ (-1000000 ≤ (formD (dnW x.1 (val x.2.2.2.2.1) x.2.2.2.2.2 y.1 (val y.2.2.2.2.1) y.2.2.2.2.2).1 (dnW x.1 (val x.2.2.2.2.1) x.2.2.2.2.2 y.1 (val y.2.2.2.2.1) y.2.2.2.2.2).2.1 ((dnW x.1 (val x.2.2.2.2.1) x.2.2.2.2.2 y.1 (val y.2.2.2.2.1) y.2.2.2.2.2).2.2 + p)).2.2 ∧ (formD (dnW x.1 (val x.2.2.2.2.1) x.2.2.2.2.2 y.1 (val y.2.2.2.2.1) y.2.2.2.2.2).1 (dnW x.1 (val x.2.2.2.2.1) x.2.2.2.2.2 y.1 (val y.2.2.2.2.1) y.2.2.2.2.2).2.1 ((dnW x.1 (val x.2.2.2.2.1) x.2.2.2.2.2 y.1 (val y.2.2.2.2.1) y.2.2.2.2.2).2.2 + p)).2.2 ≤ 1000000)) := fun q q' => by
  have := form_rngM (dnW x.1 (val x.2.2.2.2.1) x.2.2.2.2.2 y.1 (val y.2.2.2.2.1) y.2.2.2.2.2).1 (dnW x.1 (val x.2.2.2.2.1) x.2.2.2.2.2 y.1 (val y.2.2.2.2.1) y.2.2.2.2.2).2.1 ((dnW x.1 (val x.2.2.2.2.1) x.2.2.2.2.2 y.1 (val y.2.2.2.2.1) y.2.2.2.2.2).2.2 + p) wb (by omega)
  exact ⟨form_can _ _ _, by omega, by omega⟩
 unfold ddB at HV
 generalize nwT x y p = B at *
 clear g1 g2 h1 h2 hr
 generalize formD false (val x.2.2.2.2.1) x.2.2.2.2.2 = U at *
 generalize dnW x.1 (val x.2.2.2.2.1) x.2.2.2.2.2 y.1 (val y.2.2.2.2.1) y.2.2.2.2.2 = WD at *
 clear h3 _h4
 generalize hTT : formD WD.1 WD.2.1 (WD.2.2 + p) = T at FT HV
 have HTT : Hid _ := hTT
 clear hTT
 go_enter Tryz.func13, Tryz.ntmps13
 go_wp2_with fail
 generalize (w.alloc (.cells #[.bool x.1, .slice x.2.1 x.2.2.1 x.2.2.2.1, .int .i64 x.2.2.2.2.2, .bool y.1, .slice y.2.1 y.2.2.1 y.2.2.2.1, .int .i64 y.2.2.2.2.2] 27)) = w0 at *
 refine Calls.mono (HR.out _ hx hy) ?_
 rintro r w1 ⟨rfl, bN⟩
 revert k0 k1 k2 k3 k4 k5; refine cc6 bN ?_; intro k0 k1 k2 k3 k4 k5
 replace hx := hx.keep bN
 replace hy := hy.keep bN
 replace bA := nT bA bN
 clear bN
 go_wp2_with fail
 have bD : Below w1.heap.size w1 w1.drew := (Below.refl _ _).drew
 go_region_held3 (fun W => W.cell? ⟨w.heap.size, 0, none⟩ = some (.bool x.1) ∧ W.cell? ⟨w.heap.size, 1, none⟩ = some (.slice x.2.1 x.2.2.1 x.2.2.2.1) ∧ W.cell? ⟨w.heap.size, 2, none⟩ = some (.int .i64 x.2.2.2.2.2) ∧ W.cell? ⟨w.heap.size, 3, none⟩ = some (.bool y.1) ∧ W.cell? ⟨w.heap.size, 4, none⟩ = some (.slice y.2.1 y.2.2.1 y.2.2.2.1) ∧ W.cell? ⟨w.heap.size, 5, none⟩ = some (.int .i64 y.2.2.2.2.2))
  (first | (go_keep; done) | ((refine ⟨?_, ?_, ?_, ?_, ?_, ?_⟩ <;> (refine kC bL ?_; go_keep)); done))
  (first
   | (have _q := gaS; go_at_call 18; refine (H3.out _ (hy.keep bb)).mono ?_; rintro r w3 ⟨rfl, bL⟩; replace bb := nT bb bL)
   | (go_at_call 18; refine (H2.out _ (hx.keep bD)).mono ?_; rintro r w2 ⟨rfl, bL⟩; have bb := nT bD bL; have gaS := True.intro))
 have bN := bb
 revert k0 k1 k2 k3 k4 k5; refine cc6 bN ?_; intro k0 k1 k2 k3 k4 k5
 replace hx := hx.keep bN
 replace hy := hy.keep bN
 replace bA := nT bA bN
 clear bN bb bD
 have bN := below_one w3 (.cells #[.bool x.1, .slice x.2.1 x.2.2.1 x.2.2.2.1, .int .i64 x.2.2.2.2.2] 25)
 obtain ⟨e0, e1, e2⟩ := fX9 w3 x _ rfl
 have jk0 := kC bN k0
 have jk1 := kC bN k1
 have jk2 := kC bN k2
 have jk3 := kC bN k3
 have jk4 := kC bN k4
 have jk5 := kC bN k5
 go_wp2_with fail
 replace k0 := jk0
 clear jk0
 replace k1 := jk1
 clear jk1
 replace k2 := jk2
 clear jk2
 replace k3 := jk3
 clear jk3
 replace k4 := jk4
 clear jk4
 replace k5 := jk5
 clear jk5
 replace hx := hx.keep bN
 replace hy := hy.keep bN
 replace bA := nT bA bN
 clear bN
 generalize w3.alloc (.cells #[.bool x.1, .slice x.2.1 x.2.2.1 x.2.2.2.1, .int .i64 x.2.2.2.2.2] 25) = w4 at *
 generalize w3.heap.size = EE at *
 refine Calls.mono (HL.out _ hx hy) ?_
 rintro r w5 ⟨_, rfl, ⟨a5, n5, c5, rfl, HN5, hO5⟩, bN⟩
 revert e0 e1 e2 k0 k1 k2; refine cc6 bN ?_; intro e0 e1 e2 k0 k1 k2
 revert k3 k4 k5; refine cc3 bN ?_; intro k3 k4 k5
 replace hx := hx.keep bN
 replace hy := hy.keep bN
 replace bA := nT bA bN
 clear bN
 have bN := below_one w5 (.cells #[.bool WD.1, .slice a5 n5 c5, .int .i64 WD.2.2] 25)
 obtain ⟨d0, d1, d2⟩ := fX14 w5 WD a5 n5 c5 _ rfl
 revert e0 e1 e2 k0 k1 k2; refine cc6 bN ?_; intro e0 e1 e2 k0 k1 k2
 revert k3 k4 k5; refine cc3 bN ?_; intro k3 k4 k5
 replace hx := hx.keep bN
 replace hy := hy.keep bN
 replace bA := nT bA bN
 replace hO5 := hO5.keep bN
 clear bN
 go_wp2_with fail
 generalize w5.alloc (.cells #[.bool WD.1, .slice a5 n5 c5, .int .i64 WD.2.2] 25) = w6 at *
 generalize w5.heap.size = FF at *
 refine Calls.mono (HZ.out _ _ _ _ _ _ _ hO5.1 HN5.out wb) ?_
 rintro r w7 ⟨rfl, bN⟩
 revert d0 d1 d2 e0 e1 e2; refine cc6 bN ?_; intro d0 d1 d2 e0 e1 e2
 revert k0 k1 k2 k3 k4 k5; refine cc6 bN ?_; intro k0 k1 k2 k3 k4 k5
 replace hx := hx.keep bN
 replace hy := hy.keep bN
 replace bA := nT bA bN
 replace hO5 := hO5.keep bN
 clear bN
 by_cases z : WD.2.1 = 0
 ·rw [decide_eq_true z, Bool.true_or] at HV
  rw [decide_eq_true z]
  clear FT HTT HT2 HO HZ
  go_wp2_with fail
  go_ret
  exact ⟨by rw [HV.out]; rfl, bA⟩
 rw [decide_eq_false z, Bool.false_or] at HV
 rw [decide_eq_false z]
 rcases Int.lt_or_le 196608 p with q | q
 ·rw [decide_eq_false (show ¬ p ≤ 196608 by omega), Bool.false_and] at HV
  clear FT HTT HT2 HO HZ
  go_wp2_with fail
  go_ret
  exact ⟨by rw [HV.out]; rfl, bA⟩
 rw [decide_eq_true q, Bool.true_and] at HV
 have nq : ¬ 196608 < p := by omega
 have TC : Hid _ := HT2.out a5 n5 c5 WD
 rw [HTT.out] at TC
 obtain ⟨f1, f2, f3⟩ := FT.out hp q
 clear FT HTT HT2 HZ
 go_wp2_with fail
 have bD : Below w7.heap.size w7 w7.drew := (Below.refl _ _).drew
 go_region_held3 (fun W => W.cell? ⟨FF, 0, none⟩ = some (.bool WD.1) ∧ W.cell? ⟨FF, 1, none⟩ = some (.slice a5 n5 c5) ∧ W.cell? ⟨FF, 2, none⟩ = some (.int .i64 WD.2.2) ∧ W.cell? ⟨EE, 0, none⟩ = some (.bool x.1) ∧ W.cell? ⟨EE, 1, none⟩ = some (.slice x.2.1 x.2.2.1 x.2.2.2.1) ∧ W.cell? ⟨EE, 2, none⟩ = some (.int .i64 x.2.2.2.2.2))
  (first | (go_keep; done) | ((refine ⟨?_, ?_, ?_, ?_, ?_, ?_⟩ <;> (refine kC bL ?_; go_keep)); done))
  (first
   | (have _q := hO8; go_at_call 20; refine (HO.out _ _ _ _ _ hO8.1 HN8.out f1 f2 f3 (hx.keep bb)).mono ?_; rintro r w9 ⟨rfl, bL⟩; replace bb := nT bb bL)
   | (go_at_call 26; refine (TC.out _ (hO5.1.keep bD) HN5.out wb ⟨we1, we2⟩ ⟨hp, q⟩).mono ?_; rintro r w8 ⟨_, rfl, ⟨a8, n8, c8, rfl, HN8, hO8⟩, bL⟩; have bb := nT bD bL))
 replace bA := nT bA bb
 go_wp2_with fail
 go_ret
 exact ⟨by rw [HV.out]; rfl, bA⟩
set_option maxRecDepth 100000 in
set_option maxHeartbeats 4000000 in
theorem vNarrow_neg (x y : DT) (p : Int) (w : World) (hx : inT w x) (hy : inT w y) (hr : rtT x y = true) (hp : 0 ≤ p) (h1 : sgnQ x.1 (val x.2.2.2.2.1) = -1) (h2 : sgnQ y.1 (val y.2.2.2.2.1) = -1) (_h3 : x.1 = true) (h4 : y.1 = true) :
  Calls Tryz.prog 13 #[ivT x y, .int .i64 p] w fun r w' => r = .returned (.bool (nwT x y p)) ∧ Below w.heap.size w w' := by
 have bA : Below w.heap.size w (w.alloc (.cells #[.bool x.1, .slice x.2.1 x.2.2.1 x.2.2.2.1, .int .i64 x.2.2.2.2.2, .bool y.1, .slice y.2.1 y.2.2.1 y.2.2.2.1, .int .i64 y.2.2.2.2.2] 27)) := below_one _ _
 have HR : Hid _ := fun W (q : inT W x) (q' : inT W y) => vRight_calls x y W q q'
 have HV : Hid (nwT x y p = ddB (dnW x.1 (val x.2.2.2.2.1) x.2.2.2.2.2 y.1 (val y.2.2.2.2.1) y.2.2.2.2.2) (val y.2.2.2.2.1) y.2.2.2.2.2 p) := by
  rw [Hid]; unfold nwT; rw [nw_dn]; unfold dnB
  have e1 : rtI x.1 (val x.2.2.2.2.1) x.2.2.2.2.2 y.1 (val y.2.2.2.2.1) y.2.2.2.2.2 = rtT x y := rfl
  rw [e1, hr, decide_eq_true hp, h1, h2]
  simp
 obtain ⟨k0, k1, k2, k3, k4, k5⟩ := fX12 w x y _ rfl
 replace hx := hx.keep bA
 replace hy := hy.keep bA
 have H2 : Hid _ := fun W (q : inT W x) => qSign_calls x.1 x.2.1 x.2.2.1 x.2.2.2.1 x.2.2.2.2.1 x.2.2.2.2.2 W q.1 q.2
 have H3 : Hid _ := fun W (q : inT W y) => qSign_calls y.1 y.2.1 y.2.2.1 y.2.2.2.1 y.2.2.2.2.1 y.2.2.2.2.2 W q.1 q.2
 rw [hr] at HR
 rw [h1] at H2
 rw [h2] at H3
 have np : ¬ p < 0 := by omega
 obtain ⟨g1, g2⟩ := rt_rg hr
 obtain ⟨wc, wb, we1, we2⟩ := wd_bd x.1 (val x.2.2.2.2.1) x.2.2.2.2.2 y.1 (val y.2.2.2.2.1) y.2.2.2.2.2 g1 g2
 have HL : Hid (∀ W, inT W x → inT W y → Calls Tryz.prog 24 #[dyV y.1 y.2.1 y.2.2.1 y.2.2.2.1 y.2.2.2.2.2, dyV x.1 x.2.1 x.2.2.1 x.2.2.2.1 x.2.2.2.2.2] W fun r w' => ∃ v', r = .returned v' ∧ DyQ W.heap.size w' v' (dnW x.1 (val x.2.2.2.2.1) x.2.2.2.2.2 y.1 (val y.2.2.2.2.1) y.2.2.2.2.2) ∧ Below W.heap.size W w') := fun W q q' => qLess_calls y.1 y.2.1 y.2.2.1 y.2.2.2.1 y.2.2.2.2.1 y.2.2.2.2.2 x.1 x.2.1 x.2.2.1 x.2.2.2.1 x.2.2.2.2.1 x.2.2.2.2.2 W q'.1 q'.2 q.1 q.2 (rg_bounds g2).1 (rg_bounds g1).1 (rg_bounds g2).2 (rg_bounds g1).2
 have HN : Hid (∀ W, inT W y → Calls Tryz.prog 23 #[dyV y.1 y.2.1 y.2.2.1 y.2.2.2.1 y.2.2.2.2.2] W fun r w' => ∃ v, r = .returned v ∧ DyQ W.heap.size w' v (formD false (val y.2.2.2.2.1) y.2.2.2.2.2) ∧ Below W.heap.size W w') := fun W q => by
  have b := (rg_bounds g2).1
  have := qNeg_calls y.1 y.2.1 y.2.2.1 y.2.2.2.1 y.2.2.2.2.1 y.2.2.2.2.2 W q.1 q.2 (by omega)
  rwa [show formD (!y.1) (val y.2.2.2.2.1) y.2.2.2.2.2 = formD false (val y.2.2.2.2.1) y.2.2.2.2.2 by rw [h4]; rfl] at this
 have HZ : Hid (∀ (a : Option Addr) (n c : Nat) (M : Nat) (s : Bool) (E : Int) W, IsW W a n c (wO M) → n = (wO M).length → blen M ≤ 200000 → Calls Tryz.prog 25 #[dyV s a n c E] W fun r w' => r = .returned (.bool (decide (M = 0))) ∧ Below W.heap.size W w') := fun a n c M s E W k hn hb => by
  have hl := words_few (m := M) (by omega)
  have := qZero_calls s a n c (wO M) E W k (by omega)
  rwa [val_words] at this
 have HT2 : Hid (∀ (a : Option Addr) (n c : Nat) (T : Bool × Nat × Int) W, IsW W a n c (wO T.2.1) → n = (wO T.2.1).length → blen T.2.1 ≤ 200000 → (-200000 ≤ T.2.2 ∧ T.2.2 ≤ 200000) → (0 ≤ p ∧ p ≤ 196608) → Calls Tryz.prog 26 #[dyV T.1 a n c T.2.2, .int .i64 p] W fun r w' => ∃ v, r = .returned v ∧ DyQ W.heap.size w' v (formD T.1 T.2.1 (T.2.2 + p)) ∧ Below W.heap.size W w') := fun a n c T W k hn hb he hq => by
  have hl := words_few (m := T.2.1) (by omega)
  have := qTwice_calls T.1 a n c (wO T.2.1) T.2.2 p W k (by omega) (by omega)
  rwa [val_words] at this
 have HO : Hid (∀ (a : Option Addr) (n c : Nat) (T : Bool × Nat × Int) (b : Option Addr) (m d : Nat) (U : Bool × Nat × Int) W, IsW W a n c (wO T.2.1) → n = (wO T.2.1).length → CanD T → blen T.2.1 ≤ 1000000 → (-1000000 ≤ T.2.2 ∧ T.2.2 ≤ 1000000) → IsW W b m d (wO U.2.1) → m = (wO U.2.1).length → CanD U → blen U.2.1 ≤ 1000000 → (-1000000 ≤ U.2.2 ∧ U.2.2 ≤ 1000000) → Calls Tryz.prog 20 #[dyV T.1 a n c T.2.2, dyV U.1 b m d U.2.2] W fun r w' => r = .returned (.int .i64 (cmpD T U)) ∧ Below W.heap.size W w') := fun a n c T b m d U W k hn hc hb he k' hn' hc' hb' he' => by
  have hl := words_few (m := T.2.1) (by omega)
  have hl' := words_few (m := U.2.1) (by omega)
  have := qOrder_calls T.1 a n c (wO T.2.1) T.2.2 U.1 b m d (wO U.2.1) U.2.2 W k (by omega) k' (by omega) (by omega) (by omega) (by rw [val_words]; omega) (by rw [val_words]; omega)
  rwa [val_words, val_words, form_of_can hc, form_of_can hc'] at this
 have FU : Hid (CanD (formD false (val y.2.2.2.2.1) y.2.2.2.2.2) ∧ blen (formD false (val y.2.2.2.2.1) y.2.2.2.2.2).2.1 ≤ 1000000 ∧ (-1000000 ≤ (formD false (val y.2.2.2.2.1) y.2.2.2.2.2).2.2 ∧ (formD false (val y.2.2.2.2.1) y.2.2.2.2.2).2.2 ≤ 1000000)) := by
  obtain ⟨u1, u2⟩ := rightB_yes g2
  have u3 := (great_not _).1 u1
  have u4 := form_rngN false (val y.2.2.2.2.1) y.2.2.2.2.2 u3 u2
  exact ⟨form_can _ _ _, by omega, by omega⟩
 have FT : Hid (0 ≤ p → p ≤ 196608 → CanD (formD (dnW x.1 (val x.2.2.2.2.1) x.2.2.2.2.2 y.1 (val y.2.2.2.2.1) y.2.2.2.2.2).1 (dnW x.1 (val x.2.2.2.2.1) x.2.2.2.2.2 y.1 (val y.2.2.2.2.1) y.2.2.2.2.2).2.1 ((dnW x.1 (val x.2.2.2.2.1) x.2.2.2.2.2 y.1 (val y.2.2.2.2.1) y.2.2.2.2.2).2.2 + p)) ∧ blen (formD (dnW x.1 (val x.2.2.2.2.1) x.2.2.2.2.2 y.1 (val y.2.2.2.2.1) y.2.2.2.2.2).1 (dnW x.1 (val x.2.2.2.2.1) x.2.2.2.2.2 y.1 (val y.2.2.2.2.1) y.2.2.2.2.2).2.1 ((dnW x.1 (val x.2.2.2.2.1) x.2.2.2.2.2 y.1 (val y.2.2.2.2.1) y.2.2.2.2.2).2.2 + p)).2.1 ≤ 1000000 ∧ (-1000000 ≤ (formD (dnW x.1 (val x.2.2.2.2.1) x.2.2.2.2.2 y.1 (val y.2.2.2.2.1) y.2.2.2.2.2).1 (dnW x.1 (val x.2.2.2.2.1) x.2.2.2.2.2 y.1 (val y.2.2.2.2.1) y.2.2.2.2.2).2.1 ((dnW x.1 (val x.2.2.2.2.1) x.2.2.2.2.2 y.1 (val y.2.2.2.2.1) y.2.2.2.2.2).2.2 + p)).2.2 ∧ (formD (dnW x.1 (val x.2.2.2.2.1) x.2.2.2.2.2 y.1 (val y.2.2.2.2.1) y.2.2.2.2.2).1 (dnW x.1 (val x.2.2.2.2.1) x.2.2.2.2.2 y.1 (val y.2.2.2.2.1) y.2.2.2.2.2).2.1 ((dnW x.1 (val x.2.2.2.2.1) x.2.2.2.2.2 y.1 (val y.2.2.2.2.1) y.2.2.2.2.2).2.2 + p)).2.2 ≤ 1000000)) := fun q q' => by
  have := form_rngM (dnW x.1 (val x.2.2.2.2.1) x.2.2.2.2.2 y.1 (val y.2.2.2.2.1) y.2.2.2.2.2).1 (dnW x.1 (val x.2.2.2.2.1) x.2.2.2.2.2 y.1 (val y.2.2.2.2.1) y.2.2.2.2.2).2.1 ((dnW x.1 (val x.2.2.2.2.1) x.2.2.2.2.2 y.1 (val y.2.2.2.2.1) y.2.2.2.2.2).2.2 + p) wb (by omega)
  exact ⟨form_can _ _ _, by omega, by omega⟩
 unfold ddB at HV
 generalize nwT x y p = B at *
 clear g1 g2 h1 h2 hr
 generalize formD false (val y.2.2.2.2.1) y.2.2.2.2.2 = U at *
 generalize dnW x.1 (val x.2.2.2.2.1) x.2.2.2.2.2 y.1 (val y.2.2.2.2.1) y.2.2.2.2.2 = WD at *
 clear _h3 h4
 generalize hTT : formD WD.1 WD.2.1 (WD.2.2 + p) = T at FT HV
 have HTT : Hid _ := hTT
 clear hTT
 go_enter Tryz.func13, Tryz.ntmps13
 go_wp2_with fail
 generalize (w.alloc (.cells #[.bool x.1, .slice x.2.1 x.2.2.1 x.2.2.2.1, .int .i64 x.2.2.2.2.2, .bool y.1, .slice y.2.1 y.2.2.1 y.2.2.2.1, .int .i64 y.2.2.2.2.2] 27)) = w0 at *
 refine Calls.mono (HR.out _ hx hy) ?_
 rintro r w1 ⟨rfl, bN⟩
 revert k0 k1 k2 k3 k4 k5; refine cc6 bN ?_; intro k0 k1 k2 k3 k4 k5
 replace hx := hx.keep bN
 replace hy := hy.keep bN
 replace bA := nT bA bN
 clear bN
 go_wp2_with fail
 have bD : Below w1.heap.size w1 w1.drew := (Below.refl _ _).drew
 go_region_held3 (fun W => W.cell? ⟨w.heap.size, 0, none⟩ = some (.bool x.1) ∧ W.cell? ⟨w.heap.size, 1, none⟩ = some (.slice x.2.1 x.2.2.1 x.2.2.2.1) ∧ W.cell? ⟨w.heap.size, 2, none⟩ = some (.int .i64 x.2.2.2.2.2) ∧ W.cell? ⟨w.heap.size, 3, none⟩ = some (.bool y.1) ∧ W.cell? ⟨w.heap.size, 4, none⟩ = some (.slice y.2.1 y.2.2.1 y.2.2.2.1) ∧ W.cell? ⟨w.heap.size, 5, none⟩ = some (.int .i64 y.2.2.2.2.2))
  (first | (go_keep; done) | ((refine ⟨?_, ?_, ?_, ?_, ?_, ?_⟩ <;> (refine kC bL ?_; go_keep)); done))
  (first
   | (have _q := gaS; go_at_call 18; refine (H3.out _ (hy.keep bb)).mono ?_; rintro r w3 ⟨rfl, bL⟩; replace bb := nT bb bL)
   | (go_at_call 18; refine (H2.out _ (hx.keep bD)).mono ?_; rintro r w2 ⟨rfl, bL⟩; have bb := nT bD bL; have gaS := True.intro))
 have bN := bb
 revert k0 k1 k2 k3 k4 k5; refine cc6 bN ?_; intro k0 k1 k2 k3 k4 k5
 replace hx := hx.keep bN
 replace hy := hy.keep bN
 replace bA := nT bA bN
 clear bN bb bD
 have bN := below_one w3 (.cells #[.bool x.1, .slice x.2.1 x.2.2.1 x.2.2.2.1, .int .i64 x.2.2.2.2.2] 25)
 have e0 : (w3.alloc (.cells #[.bool x.1, .slice x.2.1 x.2.2.1 x.2.2.2.1, .int .i64 x.2.2.2.2.2] 25)).cell? ⟨w3.heap.size, 0, none⟩ = some (.bool x.1) := by go_simp
 have e1 : (w3.alloc (.cells #[.bool x.1, .slice x.2.1 x.2.2.1 x.2.2.2.1, .int .i64 x.2.2.2.2.2] 25)).cell? ⟨w3.heap.size, 1, none⟩ = some (.slice x.2.1 x.2.2.1 x.2.2.2.1) := by go_simp
 have e2 : (w3.alloc (.cells #[.bool x.1, .slice x.2.1 x.2.2.1 x.2.2.2.1, .int .i64 x.2.2.2.2.2] 25)).cell? ⟨w3.heap.size, 2, none⟩ = some (.int .i64 x.2.2.2.2.2) := by go_simp
 have ef0 : (w3.alloc (.cells #[.bool x.1, .slice x.2.1 x.2.2.1 x.2.2.2.1, .int .i64 x.2.2.2.2.2] 25)).frozen? ⟨w3.heap.size, 0, none⟩ = false := by go_simp
 have ef1 : (w3.alloc (.cells #[.bool x.1, .slice x.2.1 x.2.2.1 x.2.2.2.1, .int .i64 x.2.2.2.2.2] 25)).frozen? ⟨w3.heap.size, 1, none⟩ = false := by go_simp
 have ef2 : (w3.alloc (.cells #[.bool x.1, .slice x.2.1 x.2.2.1 x.2.2.2.1, .int .i64 x.2.2.2.2.2] 25)).frozen? ⟨w3.heap.size, 2, none⟩ = false := by go_simp
 have nE : w.heap.size ≠ w3.heap.size := Nat.ne_of_lt (World.block_lt_of_cell? _ _ k0)
 have lE : w.heap.size ≤ w3.heap.size := bA.size
 have Hx3 : Hid (inT w3 x) := hx
 have Hy3 : Hid (inT w3 y) := hy
 have b3 := bN
 have jk0 := kC bN k0
 have jk1 := kC bN k1
 have jk2 := kC bN k2
 have jk3 := kC bN k3
 have jk4 := kC bN k4
 have jk5 := kC bN k5
 go_wp2_with fail
 replace k0 := jk0
 clear jk0
 replace k1 := jk1
 clear jk1
 replace k2 := jk2
 clear jk2
 replace k3 := jk3
 clear jk3
 replace k4 := jk4
 clear jk4
 replace k5 := jk5
 clear jk5
 replace hx := hx.keep bN
 replace hy := hy.keep bN
 replace bA := nT bA bN
 clear bN
 generalize w3.alloc (.cells #[.bool x.1, .slice x.2.1 x.2.2.1 x.2.2.2.1, .int .i64 x.2.2.2.2.2] 25) = w4n at *
 refine Calls.mono (HN.out _ hy) ?_
 rintro r w4 ⟨_, rfl, ⟨a4, n4, c4, rfl, HN4, hO4⟩, bN⟩
 revert e0 e1 e2 ef0 ef1 ef2; refine zg3 bN ?_; intro e0 e1 e2 ef0 ef1 ef2
 revert k0 k1 k2 k3 k4 k5; refine cc6 bN ?_; intro k0 k1 k2 k3 k4 k5
 replace hx := hx.keep bN
 replace hy := hy.keep bN
 replace bA := nT bA bN
 have bS : Below w3.heap.size w3 (((w4.setCell ⟨w3.heap.size, 0, none⟩ (.bool U.1)).setCell ⟨w3.heap.size, 1, none⟩ (.slice a4 n4 c4)).setCell ⟨w3.heap.size, 2, none⟩ (.int .i64 U.2.2)) := (((nT b3 bN).setCell (p := ⟨w3.heap.size, 0, none⟩) (Nat.le_refl _) (.bool U.1)).setCell (p := ⟨w3.heap.size, 1, none⟩) (Nat.le_refl _) (.slice a4 n4 c4)).setCell (p := ⟨w3.heap.size, 2, none⟩) (Nat.le_refl _) (.int .i64 U.2.2)
 go_wp2_with fail
 replace hO4 := hO4.set_dy w3.heap.size _ _ _ _ _ (.bool U.1) (.slice a4 n4 c4) (.int .i64 U.2.2) e0 e1 e2
 replace k0 := set3_cell (r := w3.heap.size) (v0 := .bool U.1) (v1 := .slice a4 n4 c4) (v2 := .int .i64 U.2.2) k0 nE
 replace k1 := set3_cell (r := w3.heap.size) (v0 := .bool U.1) (v1 := .slice a4 n4 c4) (v2 := .int .i64 U.2.2) k1 nE
 replace k2 := set3_cell (r := w3.heap.size) (v0 := .bool U.1) (v1 := .slice a4 n4 c4) (v2 := .int .i64 U.2.2) k2 nE
 replace k3 := set3_cell (r := w3.heap.size) (v0 := .bool U.1) (v1 := .slice a4 n4 c4) (v2 := .int .i64 U.2.2) k3 nE
 replace k4 := set3_cell (r := w3.heap.size) (v0 := .bool U.1) (v1 := .slice a4 n4 c4) (v2 := .int .i64 U.2.2) k4 nE
 replace k5 := set3_cell (r := w3.heap.size) (v0 := .bool U.1) (v1 := .slice a4 n4 c4) (v2 := .int .i64 U.2.2) k5 nE
 obtain ⟨e0, e1, e2⟩ := set3_same (v0 := .bool U.1) (v1 := .slice a4 n4 c4) (v2 := .int .i64 U.2.2) e0 e1 e2
 replace hx := inT.keep Hx3.out bS
 replace hy := inT.keep Hy3.out bS
 replace bA := ((bA.setCell (p := ⟨w3.heap.size, 0, none⟩) lE (.bool U.1)).setCell (p := ⟨w3.heap.size, 1, none⟩) lE (.slice a4 n4 c4)).setCell (p := ⟨w3.heap.size, 2, none⟩) lE (.int .i64 U.2.2)
 clear bN b3 bS Hx3 Hy3 ef0 ef1 ef2
 generalize (((w4.setCell ⟨w3.heap.size, 0, none⟩ (.bool U.1)).setCell ⟨w3.heap.size, 1, none⟩ (.slice a4 n4 c4)).setCell ⟨w3.heap.size, 2, none⟩ (.int .i64 U.2.2)) = w4m at *
 generalize w3.heap.size = EE at *
 refine Calls.mono (HL.out _ hx hy) ?_
 rintro r w5 ⟨_, rfl, ⟨a5, n5, c5, rfl, HN5, hO5⟩, bN⟩
 revert k0 k1 k2 k3 k4 k5; refine cc6 bN ?_; intro k0 k1 k2 k3 k4 k5
 revert e0 e1 e2; refine cc3 bN ?_; intro e0 e1 e2
 replace hx := hx.keep bN
 replace hy := hy.keep bN
 replace bA := nT bA bN
 replace hO4 := hO4.keep bN
 clear bN
 have bN := below_one w5 (.cells #[.bool WD.1, .slice a5 n5 c5, .int .i64 WD.2.2] 25)
 obtain ⟨d0, d1, d2⟩ := fX14 w5 WD a5 n5 c5 _ rfl
 revert k0 k1 k2 k3 k4 k5; refine cc6 bN ?_; intro k0 k1 k2 k3 k4 k5
 revert e0 e1 e2; refine cc3 bN ?_; intro e0 e1 e2
 replace hx := hx.keep bN
 replace hy := hy.keep bN
 replace bA := nT bA bN
 replace hO4 := hO4.keep bN
 replace hO5 := hO5.keep bN
 clear bN
 go_wp2_with fail
 generalize w5.alloc (.cells #[.bool WD.1, .slice a5 n5 c5, .int .i64 WD.2.2] 25) = w6 at *
 generalize w5.heap.size = FF at *
 refine Calls.mono (HZ.out _ _ _ _ _ _ _ hO5.1 HN5.out wb) ?_
 rintro r w7 ⟨rfl, bN⟩
 revert d0 d1 d2 k0 k1 k2; refine cc6 bN ?_; intro d0 d1 d2 k0 k1 k2
 revert k3 k4 k5 e0 e1 e2; refine cc6 bN ?_; intro k3 k4 k5 e0 e1 e2
 replace hx := hx.keep bN
 replace hy := hy.keep bN
 replace bA := nT bA bN
 replace hO4 := hO4.keep bN
 replace hO5 := hO5.keep bN
 clear bN
 by_cases z : WD.2.1 = 0
 ·rw [decide_eq_true z, Bool.true_or] at HV
  rw [decide_eq_true z]
  clear FT HTT HT2 HO HZ
  go_wp2_with fail
  go_ret
  exact ⟨by rw [HV.out]; rfl, bA⟩
 rw [decide_eq_false z, Bool.false_or] at HV
 rw [decide_eq_false z]
 rcases Int.lt_or_le 196608 p with q | q
 ·rw [decide_eq_false (show ¬ p ≤ 196608 by omega), Bool.false_and] at HV
  clear FT HTT HT2 HO HZ
  go_wp2_with fail
  go_ret
  exact ⟨by rw [HV.out]; rfl, bA⟩
 rw [decide_eq_true q, Bool.true_and] at HV
 have nq : ¬ 196608 < p := by omega
 have TC : Hid _ := HT2.out a5 n5 c5 WD
 rw [HTT.out] at TC
 obtain ⟨f1, f2, f3⟩ := FT.out hp q
 clear FT HTT HT2 HZ
 go_wp2_with fail
 have bD : Below w7.heap.size w7 w7.drew := (Below.refl _ _).drew
 go_region_held3 (fun W => W.cell? ⟨FF, 0, none⟩ = some (.bool WD.1) ∧ W.cell? ⟨FF, 1, none⟩ = some (.slice a5 n5 c5) ∧ W.cell? ⟨FF, 2, none⟩ = some (.int .i64 WD.2.2) ∧ W.cell? ⟨EE, 0, none⟩ = some (.bool U.1) ∧ W.cell? ⟨EE, 1, none⟩ = some (.slice a4 n4 c4) ∧ W.cell? ⟨EE, 2, none⟩ = some (.int .i64 U.2.2))
  (first | (go_keep; done) | ((refine ⟨?_, ?_, ?_, ?_, ?_, ?_⟩ <;> (refine kC bL ?_; go_keep)); done))
  (first
   | (have _q := hO8; go_at_call 20; refine (HO.out _ _ _ _ _ _ _ _ _ hO8.1 HN8.out f1 f2 f3 (hO4.1.keep bb) HN4.out FU.out.1 FU.out.2.1 FU.out.2.2).mono ?_; rintro r w9 ⟨rfl, bL⟩; replace bb := nT bb bL)
   | (go_at_call 26; refine (TC.out _ (hO5.1.keep bD) HN5.out wb ⟨we1, we2⟩ ⟨hp, q⟩).mono ?_; rintro r w8 ⟨_, rfl, ⟨a8, n8, c8, rfl, HN8, hO8⟩, bL⟩; have bb := nT bD bL))
 replace bA := nT bA bb
 go_wp2_with fail
 go_ret
 exact ⟨by rw [HV.out]; rfl, bA⟩
end Go.Proofs.YtbhneifafnoaiaaGreatDoor

/- The document's exact cases: the angle of a point. -/
import Derived.Test.YtiijfnaaekmpbaaGreatDoorED3
import Derived.Test.YtiijfnaaekmpbaaGreatDoorFX
namespace Go.Proofs.YtiijfnaaekmpbaaGreatDoor
open Go.RowKit
/-! the amounts of two numbers are the same where their bits are -/
theorem parts_of (x : Int) (_h : U x) : absV x = expV x * 4503599627370496 + fracV x ∧ 0 ≤ fracV x ∧ fracV x < 4503599627370496 ∧ 0 ≤ expV x ∧ expV x < 2048 := by
 have h1 := frac_bd x
 have h2 := exp_bd x
 refine ⟨?_, by omega, by omega, by omega, by omega⟩
 unfold absV expV fracV
 omega
theorem val_eq {c d i j : Nat} (hc : c < 2 ^ 53) (hd : 2 ^ 52 ≤ d) (hij : i < j) (h : c * 2 ^ i = d * 2 ^ j) : False := by
 obtain ⟨k, rfl⟩ : ∃ k, j = i + 1 + k := ⟨j - i - 1, by omega⟩
 have e : d * 2 ^ (i + 1 + k) = d * 2 * 2 ^ k * 2 ^ i := by
  rw [Nat.pow_add, Nat.pow_succ, Nat.mul_comm (2 ^ i) 2, Nat.mul_assoc 2, ← Nat.mul_assoc d, Nat.mul_comm (2 ^ i), ← Nat.mul_assoc]
 rw [e] at h
 have h2 := Nat.eq_of_mul_eq_mul_right (Nat.two_pow_pos i) h
 have h3 : d * 2 * 1 ≤ d * 2 * 2 ^ k := Nat.mul_le_mul_left _ (Nat.two_pow_pos k)
 omega
theorem abs_same (x y : Int) (hx : U x) (hy : U y) (fx : finB x = true) (fy : finB y = true) : cmpD (absD (fromP x)) (absD (fromP y)) = 0 ↔ absV x = absV y := by
 obtain ⟨a1, a2, a3, a4, a5⟩ := parts_of x hx
 obtain ⟨b1, b2, b3, b4, b5⟩ := parts_of y hy
 have cx := fa_cnt x
 have cy := fa_cnt y
 have ux := fa_unit x
 have uy := fa_unit y
 have ex : absD (fromP x) = formD false (countV x).toNat (unitV x) := by
  unfold fromP fromD
  rw [if_pos fx]
  by_cases h0 : (countV x).toNat = 0
  ·rw [h0, form_zero, form_zero]; rfl
  ·rw [form_pos _ h0, form_pos _ h0]; rfl
 have ey : absD (fromP y) = formD false (countV y).toNat (unitV y) := by
  unfold fromP fromD
  rw [if_pos fy]
  by_cases h0 : (countV y).toNat = 0
  ·rw [h0, form_zero, form_zero]; rfl
  ·rw [form_pos _ h0, form_pos _ h0]; rfl
 rw [ex, ey, cmp_eq (form_can _ _ _) (form_can _ _ _)]
 constructor
 ·intro h
  have hv : (countV x).toNat * 2 ^ (unitV x - (-1074)).toNat = (countV y).toNat * 2 ^ (unitV y - (-1074)).toNat := by
   have h1 := vI_form false (countV x).toNat (unitV x) (-1074) ux.1
   have h2 := vI_form false (countV y).toNat (unitV y) (-1074) uy.1
   rw [h, h2] at h1
   rw [show sI false = 1 from rfl, Int.one_mul, Int.one_mul] at h1
   exact (Int.ofNat_inj.1 h1).symm
  have kx : expV x = 0 → unitV x = -1074 ∧ countV x = fracV x := fun q => by unfold unitV countV; rw [if_pos q, if_pos q]; exact ⟨rfl, rfl⟩
  have ky : expV y = 0 → unitV y = -1074 ∧ countV y = fracV y := fun q => by unfold unitV countV; rw [if_pos q, if_pos q]; exact ⟨rfl, rfl⟩
  have lx : expV x ≠ 0 → unitV x = expV x - 1075 ∧ countV x = fracV x + 4503599627370496 := fun q => by unfold unitV countV; rw [if_neg q, if_neg q]; exact ⟨rfl, rfl⟩
  have ly : expV y ≠ 0 → unitV y = expV y - 1075 ∧ countV y = fracV y + 4503599627370496 := fun q => by unfold unitV countV; rw [if_neg q, if_neg q]; exact ⟨rfl, rfl⟩
  rcases Int.lt_trichotomy (unitV x) (unitV y) with q | q | q
  ·exfalso
   have hy0 : expV y ≠ 0 := fun e => by have := (ky e).1; omega
   have := (ly hy0).2
   exact val_eq cx (show 2 ^ 52 ≤ (countV y).toNat by omega) (show (unitV x - (-1074)).toNat < (unitV y - (-1074)).toNat by omega) hv
  ·rw [q] at hv
   have hc := Nat.eq_of_mul_eq_mul_right (Nat.two_pow_pos _) hv
   by_cases e1 : expV x = 0
   ·by_cases e2 : expV y = 0
    ·have := (kx e1).2; have := (ky e2).2; omega
    ·have := (kx e1); have := (ly e2); omega
   ·by_cases e2 : expV y = 0
    ·have := (lx e1); have := (ky e2); omega
    ·have := (lx e1); have := (ly e2); omega
  ·exfalso
   have hx0 : expV x ≠ 0 := fun e => by have := (kx e).1; omega
   have := (lx hx0).2
   exact val_eq cy (show 2 ^ 52 ≤ (countV x).toNat by omega) (show (unitV y - (-1074)).toNat < (unitV x - (-1074)).toNat by omega) hv.symm
 ·intro h
  have e1 : expV x = expV y ∧ fracV x = fracV y := by omega
  have : countV x = countV y ∧ unitV x = unitV y := by unfold countV unitV; rw [e1.1, e1.2]; exact ⟨rfl, rfl⟩
  rw [this.1, this.2]
theorem dFrom_ok (x : Int) : OkE (fromP x) := ⟨fa_can x, fa_right x⟩
theorem e2_33 (y x : Int) (h : e2E 33 y x = 0) : e2V 33 y x = (z3, decide ((fromP y).2.1 = 0) && decide (0 < agI (fromP x) 0)) := by
 have hj := cmp_bd (fromP x) (intD 0)
 unfold e2V
 rw [if_pos h]
 unfold drQ
 by_cases q : (fromP y).2.1 = 0
 ·rw [if_pos q, decide_eq_true q, Bool.true_and, if_pos rfl]
  show (z3, decide (2 - 2 * agI (fromP x) 0 = 0)) = _
  have e : agI (fromP x) 0 = cmpD (fromP x) (intD 0) := rfl
  rw [e]
  congr 1
  rw [decide_eq_decide]
  omega
 ·rw [if_neg q, decide_eq_false q, Bool.false_and]
  simp only
  split
  ·show (z3, decide _) = _
   congr 1
   rw [decide_eq_false_iff_not]
   split <;> split <;> (try split) <;> omega
  ·rfl
theorem e2_34 (y x : Int) (h : e2E 34 y x = 0) : e2V 34 y x = if (drQ (fromP y) (fromP x)).2 = true then (inQ (drQ (fromP y) (fromP x)).1, true) else no3 := by
 unfold e2V
 rw [if_pos h]
 rfl
set_option maxRecDepth 100000 in
set_option maxHeartbeats 4000000 in
theorem dExact2_calls (f y x : Int) (w : World) (hy : U y) (hx : U x) :
  Calls Tryz.prog 17 #[.int .u8 f, .int .u64 y, .int .u64 x] w fun q w' => ∃ v', q = .returned (.tuple #[v', .bool (e2V f y x).2, .int .i64 (e2E f y x)]) ∧ DyQ w.heap.size w' v' (e2V f y x).1 ∧ Below w.heap.size w w' := by
 have bA := below_one w (.cells #[.bool false, .slice none 0 0, .int .i64 0] 27)
 have Z := zrA w
 have IC : Hid _ := fun W => dis2_calls f W
 have FY : Hid _ := fun W => qfrom_calls y W hy
 have FX : Hid _ := fun W => qfrom_calls x W hx
 have oY : OkE (fromP y) := dFrom_ok y
 have oX : OkE (fromP x) := dFrom_ok x
 have LY : Hid _ := okE_len oY
 have LX : Hid _ := okE_len oX
 cases hF : is2 f with
 | false =>
  have e : e2E f y x = 2 := by unfold e2E; rw [hF]; rfl
  have e' : e2V f y x = no3 := by unfold e2V; rw [e, if_neg (by decide)]
  rw [e, e']
  rw [hF] at IC
  unfold no3
  clear e e' hF FY FX oY oX LY LX
  go_enter Tryz.func17, Tryz.ntmps17
  go_wp2_with fail
  generalize (w.alloc (.cells #[.bool false, .slice none 0 0, .int .i64 0] 27)) = w0 at *
  refine cM (IC.out _) ?_
  rintro q w9 ⟨rfl, rfl⟩
  clear IC
  obtain ⟨z0, z1, z2, f0, f1, f2⟩ := Z
  go_wp2_with fail
  exact bodyPost_ret (v := .tuple #[dyV false none 0 0 0, .bool false, .int .i64 2]) (by simp [results, Tryz.results17, go_sem, z0, z1, z2]) rfl ⟨_, rfl, dyQ_zero _ _, bl3 bA (by omega)⟩
 | true =>
 rw [hF] at IC
 have eE : e2E f y x = if (finB y && finB x && !(decide ((fromP y).2.1 = 0) && decide ((fromP x).2.1 = 0))) = true then 0 else 5 := by unfold e2E; rw [hF]; rfl
 have hf2 : f = 33 ∨ f = 34 := of_decide_eq_true hF
 clear hF
 cases hfy : finB y with
 | false =>
  have e : e2E f y x = 5 := by rw [eE, hfy]; rfl
  have e' : e2V f y x = no3 := by unfold e2V; rw [e, if_neg (by decide)]
  rw [e, e']
  rw [show lastE y = 5 from by unfold lastE; rw [hfy]; rfl] at FY
  unfold no3
  clear e e' eE hf2 oY oX
  generalize fromP y = P at *
  generalize fromP x = Q at *
  generalize lastE x = LE at *
  go_enter Tryz.func17, Tryz.ntmps17
  go_wp2_with fail
  generalize (w.alloc (.cells #[.bool false, .slice none 0 0, .int .i64 0] 27)) = w0 at *
  refine cM (IC.out _) ?_
  rintro q w9 ⟨rfl, rfl⟩
  clear IC
  go_wp2_with fail
  refine cM (FY.out _) ?_
  have lb := bA.size
  rintro q w1 ⟨_, rfl, ⟨a1, n1, c1, rfl, HN1, hO1⟩, b1⟩
  replace hO1 := hO1.low lb
  obtain ⟨bA, Z⟩ := jkAZ b1 bA Z
  have hn1 : n1 ≤ 1024 := by have := HN1.out; have := LY.out; omega
  clear b1 lb FY HN1
  have bD := below_one w1 (.cells #[.bool P.1, .slice a1 n1 c1, .int .i64 P.2.2] 27)
  obtain ⟨bA, Z, hO1⟩ := jkAZO bD bA Z hO1
  obtain ⟨u0, u1, u2⟩ := fX3 w1 P a1 n1 c1 _ rfl
  clear bD
  go_upto_region 4 with fail
  generalize w1.alloc (.cells #[.bool P.1, .slice a1 n1 c1, .int .i64 P.2.2] 27) = w2 at *
  generalize w1.heap.size = BY at *
  go_wp2_with fail
  refine cM (FX.out _) ?_
  have lb := bA.size
  rintro q w3 ⟨_, rfl, ⟨a2, n2, c2, rfl, HN2, hO2⟩, b1⟩
  replace hO2 := hO2.low lb
  obtain ⟨bA, Z, hO1, u0, u1, u2⟩ := jkAZOC3 b1 bA Z hO1 u0 u1 u2
  have hn2 : n2 ≤ 1024 := by have := HN2.out; have := LX.out; omega
  clear b1 lb FX HN2
  have bD := below_one w3 (.cells #[.bool Q.1, .slice a2 n2 c2, .int .i64 Q.2.2] 27)
  obtain ⟨bA, Z, hO1, hO2, u0, u1, u2⟩ := jkAZO2C3 bD bA Z hO1 hO2 u0 u1 u2
  obtain ⟨v0, v1, v2⟩ := fX3 w3 Q a2 n2 c2 _ rfl
  clear bD
  go_upto_region 5 with fail
  generalize w3.alloc (.cells #[.bool Q.1, .slice a2 n2 c2, .int .i64 Q.2.2] 27) = w4 at *
  generalize w3.heap.size = BX at *
  obtain ⟨z0, z1, z2, f0, f1, f2⟩ := Z
  go_wp2_with fail
  exact bodyPost_ret (v := .tuple #[dyV false none 0 0 0, .bool false, .int .i64 5]) (by simp [results, Tryz.results17, go_sem, z0, z1, z2]) rfl ⟨_, rfl, dyQ_zero _ _, bl3 bA (by omega)⟩
 | true =>
 rw [show lastE y = 0 from by unfold lastE; rw [hfy]; rfl] at FY
 cases hfx : finB x with
 | false =>
  have e : e2E f y x = 5 := by rw [eE, hfy, hfx]; rfl
  have e' : e2V f y x = no3 := by unfold e2V; rw [e, if_neg (by decide)]
  rw [e, e']
  rw [show lastE x = 5 from by unfold lastE; rw [hfx]; rfl] at FX
  unfold no3
  clear e e' eE hf2 oY oX
  generalize fromP y = P at *
  generalize fromP x = Q at *
  go_enter Tryz.func17, Tryz.ntmps17
  go_wp2_with fail
  generalize (w.alloc (.cells #[.bool false, .slice none 0 0, .int .i64 0] 27)) = w0 at *
  refine cM (IC.out _) ?_
  rintro q w9 ⟨rfl, rfl⟩
  clear IC
  go_wp2_with fail
  refine cM (FY.out _) ?_
  have lb := bA.size
  rintro q w1 ⟨_, rfl, ⟨a1, n1, c1, rfl, HN1, hO1⟩, b1⟩
  replace hO1 := hO1.low lb
  obtain ⟨bA, Z⟩ := jkAZ b1 bA Z
  have hn1 : n1 ≤ 1024 := by have := HN1.out; have := LY.out; omega
  clear b1 lb FY HN1
  have bD := below_one w1 (.cells #[.bool P.1, .slice a1 n1 c1, .int .i64 P.2.2] 27)
  obtain ⟨bA, Z, hO1⟩ := jkAZO bD bA Z hO1
  obtain ⟨u0, u1, u2⟩ := fX3 w1 P a1 n1 c1 _ rfl
  clear bD
  go_upto_region 4 with fail
  generalize w1.alloc (.cells #[.bool P.1, .slice a1 n1 c1, .int .i64 P.2.2] 27) = w2 at *
  generalize w1.heap.size = BY at *
  go_wp2_with fail
  refine cM (FX.out _) ?_
  have lb := bA.size
  rintro q w3 ⟨_, rfl, ⟨a2, n2, c2, rfl, HN2, hO2⟩, b1⟩
  replace hO2 := hO2.low lb
  obtain ⟨bA, Z, hO1, u0, u1, u2⟩ := jkAZOC3 b1 bA Z hO1 u0 u1 u2
  have hn2 : n2 ≤ 1024 := by have := HN2.out; have := LX.out; omega
  clear b1 lb FX HN2
  have bD := below_one w3 (.cells #[.bool Q.1, .slice a2 n2 c2, .int .i64 Q.2.2] 27)
  obtain ⟨bA, Z, hO1, hO2, u0, u1, u2⟩ := jkAZO2C3 bD bA Z hO1 hO2 u0 u1 u2
  obtain ⟨v0, v1, v2⟩ := fX3 w3 Q a2 n2 c2 _ rfl
  clear bD
  go_upto_region 5 with fail
  generalize w3.alloc (.cells #[.bool Q.1, .slice a2 n2 c2, .int .i64 Q.2.2] 27) = w4 at *
  generalize w3.heap.size = BX at *
  obtain ⟨z0, z1, z2, f0, f1, f2⟩ := Z
  go_wp2_with fail
  exact bodyPost_ret (v := .tuple #[dyV false none 0 0 0, .bool false, .int .i64 5]) (by simp [results, Tryz.results17, go_sem, z0, z1, z2]) rfl ⟨_, rfl, dyQ_zero _ _, bl3 bA (by omega)⟩
 | true =>
 rw [show lastE x = 0 from by unfold lastE; rw [hfx]; rfl] at FX
 have ZY : Hid _ := fun (W : World) (a : Option Addr) (n c : Nat) (h : IsW W a n c (wO (fromP y).2.1)) (hn : n ≤ 1024) => dZeroE (fromP y) a n c W h hn
 have ZX : Hid _ := fun (W : World) (a : Option Addr) (n c : Nat) (h : IsW W a n c (wO (fromP x).2.1)) (hn : n ≤ 1024) => dZeroE (fromP x) a n c W h hn
 have OX : Hid _ := fun (W : World) (a : Option Addr) (n c : Nat) (h : IsW W a n c (wO (fromP x).2.1)) (hn : n ≤ 1024) => dOrder_calls (fromP x) a n c 0 W h hn oX ⟨by decide, by decide⟩
 have AX : Hid _ := fun W => rAbs_calls x W hx
 have AY : Hid _ := fun W => rAbs_calls y W hy
 have I1 : Hid _ := fun W => qint_calls 1 ⟨by decide, by decide⟩ W
 have hS := abs_same y x hy hx hfy hfx
 have hJ := cmp_bd (fromP x) (intD 0)
 have hZ : agI (fromP x) 0 = 0 ↔ (fromP x).2.1 = 0 := by
  rw [ag_eq oX.1]
  exact ⟨fun q => by rw [q]; rfl, fun q => by rw [can_zero oX.1 q]; rfl⟩
 have eJ : agI (fromP x) 0 = cmpD (fromP x) (intD 0) := rfl
 rw [← eJ] at hJ
 rw [hfy, hfx, Bool.true_and, Bool.true_and] at eE
 by_cases hb1 : (fromP y).2.1 = 0
 ·by_cases hb2 : (fromP x).2.1 = 0
  ·have e : e2E f y x = 5 := by rw [eE, decide_eq_true hb1, decide_eq_true hb2]; rfl
   have e' : e2V f y x = no3 := by unfold e2V; rw [e, if_neg (by decide)]
   rw [e, e']
   rw [decide_eq_true hb1] at ZY
   rw [decide_eq_true hb2] at ZX
   unfold no3
   clear e e' eE hf2 oY oX hb1 hb2 hS hJ hZ eJ OX AX AY I1 hfy hfx
   generalize fromP y = P at *
   generalize fromP x = Q at *
   go_enter Tryz.func17, Tryz.ntmps17
   go_wp2_with fail
   generalize (w.alloc (.cells #[.bool false, .slice none 0 0, .int .i64 0] 27)) = w0 at *
   refine cM (IC.out _) ?_
   rintro q w9 ⟨rfl, rfl⟩
   clear IC
   go_wp2_with fail
   refine cM (FY.out _) ?_
   have lb := bA.size
   rintro q w1 ⟨_, rfl, ⟨a1, n1, c1, rfl, HN1, hO1⟩, b1⟩
   replace hO1 := hO1.low lb
   obtain ⟨bA, Z⟩ := jkAZ b1 bA Z
   have hn1 : n1 ≤ 1024 := by have := HN1.out; have := LY.out; omega
   clear b1 lb FY HN1
   have bD := below_one w1 (.cells #[.bool P.1, .slice a1 n1 c1, .int .i64 P.2.2] 27)
   obtain ⟨bA, Z, hO1⟩ := jkAZO bD bA Z hO1
   obtain ⟨u0, u1, u2⟩ := fX3 w1 P a1 n1 c1 _ rfl
   clear bD
   go_upto_region 4 with fail
   generalize w1.alloc (.cells #[.bool P.1, .slice a1 n1 c1, .int .i64 P.2.2] 27) = w2 at *
   generalize w1.heap.size = BY at *
   go_wp2_with fail
   refine cM (FX.out _) ?_
   have lb := bA.size
   rintro q w3 ⟨_, rfl, ⟨a2, n2, c2, rfl, HN2, hO2⟩, b1⟩
   replace hO2 := hO2.low lb
   obtain ⟨bA, Z, hO1, u0, u1, u2⟩ := jkAZOC3 b1 bA Z hO1 u0 u1 u2
   have hn2 : n2 ≤ 1024 := by have := HN2.out; have := LX.out; omega
   clear b1 lb FX HN2
   have bD := below_one w3 (.cells #[.bool Q.1, .slice a2 n2 c2, .int .i64 Q.2.2] 27)
   obtain ⟨bA, Z, hO1, hO2, u0, u1, u2⟩ := jkAZO2C3 bD bA Z hO1 hO2 u0 u1 u2
   obtain ⟨v0, v1, v2⟩ := fX3 w3 Q a2 n2 c2 _ rfl
   clear bD
   go_upto_region 5 with fail
   generalize w3.alloc (.cells #[.bool Q.1, .slice a2 n2 c2, .int .i64 Q.2.2] 27) = w4 at *
   generalize w3.heap.size = BX at *
   go_wp2_with fail
   refine cM (ZY.out _ _ _ _ hO1.1 hn1) ?_
   rintro q xW ⟨rfl, b1⟩
   obtain ⟨bA, Z, hO1, hO2, u0, u1, u2, v0, v1, v2⟩ := jkAZO2C6 b1 bA Z hO1 hO2 u0 u1 u2 v0 v1 v2
   clear b1
   go_wp2_with fail
   refine cM (ZX.out _ _ _ _ hO2.1 hn2) ?_
   rintro q xW ⟨rfl, b2⟩
   obtain ⟨bA, Z, hO1, hO2, u0, u1, u2, v0, v1, v2⟩ := jkAZO2C6 b2 bA Z hO1 hO2 u0 u1 u2 v0 v1 v2
   clear b2
   obtain ⟨z0, z1, z2, f0, f1, f2⟩ := Z
   go_wp2_with fail
   exact bodyPost_ret (v := .tuple #[dyV false none 0 0 0, .bool false, .int .i64 5]) (by simp [results, Tryz.results17, go_sem, z0, z1, z2]) rfl ⟨_, rfl, dyQ_zero _ _, bl3 bA (by omega)⟩
  ·have e : e2E f y x = 0 := by rw [eE, decide_eq_false hb2, Bool.and_false]; rfl
   rcases hf2 with rfl | rfl
   ·rw [e, e2_33 y x e, decide_eq_true hb1, Bool.true_and]
    rw [decide_eq_true hb1] at ZY
    rw [decide_eq_false hb2] at ZX
    generalize agI (fromP x) 0 = J at *
    clear e eE oY oX hb1 hb2 hS hZ eJ AX AY I1 hfy hfx hJ
    generalize fromP y = P at *
    generalize fromP x = Q at *
    go_enter Tryz.func17, Tryz.ntmps17
    go_wp2_with fail
    generalize (w.alloc (.cells #[.bool false, .slice none 0 0, .int .i64 0] 27)) = w0 at *
    refine cM (IC.out _) ?_
    rintro q w9 ⟨rfl, rfl⟩
    clear IC
    go_wp2_with fail
    refine cM (FY.out _) ?_
    have lb := bA.size
    rintro q w1 ⟨_, rfl, ⟨a1, n1, c1, rfl, HN1, hO1⟩, b1⟩
    replace hO1 := hO1.low lb
    obtain ⟨bA, Z⟩ := jkAZ b1 bA Z
    have hn1 : n1 ≤ 1024 := by have := HN1.out; have := LY.out; omega
    clear b1 lb FY HN1
    have bD := below_one w1 (.cells #[.bool P.1, .slice a1 n1 c1, .int .i64 P.2.2] 27)
    obtain ⟨bA, Z, hO1⟩ := jkAZO bD bA Z hO1
    obtain ⟨u0, u1, u2⟩ := fX3 w1 P a1 n1 c1 _ rfl
    clear bD
    go_upto_region 4 with fail
    generalize w1.alloc (.cells #[.bool P.1, .slice a1 n1 c1, .int .i64 P.2.2] 27) = w2 at *
    generalize w1.heap.size = BY at *
    go_wp2_with fail
    refine cM (FX.out _) ?_
    have lb := bA.size
    rintro q w3 ⟨_, rfl, ⟨a2, n2, c2, rfl, HN2, hO2⟩, b1⟩
    replace hO2 := hO2.low lb
    obtain ⟨bA, Z, hO1, u0, u1, u2⟩ := jkAZOC3 b1 bA Z hO1 u0 u1 u2
    have hn2 : n2 ≤ 1024 := by have := HN2.out; have := LX.out; omega
    clear b1 lb FX HN2
    have bD := below_one w3 (.cells #[.bool Q.1, .slice a2 n2 c2, .int .i64 Q.2.2] 27)
    obtain ⟨bA, Z, hO1, hO2, u0, u1, u2⟩ := jkAZO2C3 bD bA Z hO1 hO2 u0 u1 u2
    obtain ⟨v0, v1, v2⟩ := fX3 w3 Q a2 n2 c2 _ rfl
    clear bD
    go_upto_region 5 with fail
    generalize w3.alloc (.cells #[.bool Q.1, .slice a2 n2 c2, .int .i64 Q.2.2] 27) = w4 at *
    generalize w3.heap.size = BX at *
    go_wp2_with fail
    refine cM (ZY.out _ _ _ _ hO1.1 hn1) ?_
    rintro q xW ⟨rfl, b3⟩
    obtain ⟨bA, Z, hO1, hO2, u0, u1, u2, v0, v1, v2⟩ := jkAZO2C6 b3 bA Z hO1 hO2 u0 u1 u2 v0 v1 v2
    clear b3
    go_wp2_with fail
    refine cM (ZX.out _ _ _ _ hO2.1 hn2) ?_
    rintro q xW ⟨rfl, b4⟩
    obtain ⟨bA, Z, hO1, hO2, u0, u1, u2, v0, v1, v2⟩ := jkAZO2C6 b4 bA Z hO1 hO2 u0 u1 u2 v0 v1 v2
    clear b4
    go_wp2_with fail
    refine cM (ZY.out _ _ _ _ hO1.1 hn1) ?_
    rintro q xW ⟨rfl, b5⟩
    obtain ⟨bA, Z, hO1, hO2, u0, u1, u2, v0, v1, v2⟩ := jkAZO2C6 b5 bA Z hO1 hO2 u0 u1 u2 v0 v1 v2
    clear b5
    go_wp2_with fail
    refine cM (OX.out _ _ _ _ hO2.1 hn2) ?_
    rintro q xW ⟨rfl, b6⟩
    obtain ⟨bA, Z, hO1, hO2, u0, u1, u2, v0, v1, v2⟩ := jkAZO2C6 b6 bA Z hO1 hO2 u0 u1 u2 v0 v1 v2
    clear b6
    obtain ⟨z0, z1, z2, f0, f1, f2⟩ := Z
    go_wp2_with fail
    exact bodyPost_ret (v := .tuple #[dyV false none 0 0 0, .bool (decide (0 < J)), .int .i64 0]) (by simp [results, Tryz.results17, go_sem, z0, z1, z2]) rfl ⟨_, rfl, dyQ_zero _ _, bl3 bA (by omega)⟩
   ·have eD : drQ (fromP y) (fromP x) = (2 - 2 * agI (fromP x) 0, true) := by unfold drQ; rw [if_pos hb1]
    rw [e, e2_34 y x e, eD, if_pos rfl]
    rw [decide_eq_true hb1] at ZY
    rw [decide_eq_false hb2] at ZX
    have hJ' : agI (fromP x) 0 = 1 ∨ agI (fromP x) 0 = -1 := by
     have : agI (fromP x) 0 ≠ 0 := fun q => hb2 (hZ.1 q)
     omega
    generalize agI (fromP x) 0 = J at *
    clear e eE oY oX hb1 hb2 hS hZ eJ AX AY hfy hfx hJ eD
    generalize fromP y = P at *
    generalize fromP x = Q at *
    rcases hJ' with rfl | rfl
    ·rw [show (inQ (2 - 2 * 1), true) = (z3, true) from rfl]
     clear I1
     go_enter Tryz.func17, Tryz.ntmps17
     go_wp2_with fail
     generalize (w.alloc (.cells #[.bool false, .slice none 0 0, .int .i64 0] 27)) = w0 at *
     refine cM (IC.out _) ?_
     rintro q w9 ⟨rfl, rfl⟩
     clear IC
     go_wp2_with fail
     refine cM (FY.out _) ?_
     have lb := bA.size
     rintro q w1 ⟨_, rfl, ⟨a1, n1, c1, rfl, HN1, hO1⟩, b1⟩
     replace hO1 := hO1.low lb
     obtain ⟨bA, Z⟩ := jkAZ b1 bA Z
     have hn1 : n1 ≤ 1024 := by have := HN1.out; have := LY.out; omega
     clear b1 lb FY HN1
     have bD := below_one w1 (.cells #[.bool P.1, .slice a1 n1 c1, .int .i64 P.2.2] 27)
     obtain ⟨bA, Z, hO1⟩ := jkAZO bD bA Z hO1
     obtain ⟨u0, u1, u2⟩ := fX3 w1 P a1 n1 c1 _ rfl
     clear bD
     go_upto_region 4 with fail
     generalize w1.alloc (.cells #[.bool P.1, .slice a1 n1 c1, .int .i64 P.2.2] 27) = w2 at *
     generalize w1.heap.size = BY at *
     go_wp2_with fail
     refine cM (FX.out _) ?_
     have lb := bA.size
     rintro q w3 ⟨_, rfl, ⟨a2, n2, c2, rfl, HN2, hO2⟩, b1⟩
     replace hO2 := hO2.low lb
     obtain ⟨bA, Z, hO1, u0, u1, u2⟩ := jkAZOC3 b1 bA Z hO1 u0 u1 u2
     have hn2 : n2 ≤ 1024 := by have := HN2.out; have := LX.out; omega
     clear b1 lb FX HN2
     have bD := below_one w3 (.cells #[.bool Q.1, .slice a2 n2 c2, .int .i64 Q.2.2] 27)
     obtain ⟨bA, Z, hO1, hO2, u0, u1, u2⟩ := jkAZO2C3 bD bA Z hO1 hO2 u0 u1 u2
     obtain ⟨v0, v1, v2⟩ := fX3 w3 Q a2 n2 c2 _ rfl
     clear bD
     go_upto_region 5 with fail
     generalize w3.alloc (.cells #[.bool Q.1, .slice a2 n2 c2, .int .i64 Q.2.2] 27) = w4 at *
     generalize w3.heap.size = BX at *
     go_wp2_with fail
     refine cM (ZY.out _ _ _ _ hO1.1 hn1) ?_
     rintro q xW ⟨rfl, b7⟩
     obtain ⟨bA, Z, hO1, hO2, u0, u1, u2, v0, v1, v2⟩ := jkAZO2C6 b7 bA Z hO1 hO2 u0 u1 u2 v0 v1 v2
     clear b7
     go_wp2_with fail
     refine cM (ZX.out _ _ _ _ hO2.1 hn2) ?_
     rintro q xW ⟨rfl, b8⟩
     obtain ⟨bA, Z, hO1, hO2, u0, u1, u2, v0, v1, v2⟩ := jkAZO2C6 b8 bA Z hO1 hO2 u0 u1 u2 v0 v1 v2
     clear b8
     go_wp2_with fail
     refine cM (ZY.out _ _ _ _ hO1.1 hn1) ?_
     rintro q xW ⟨rfl, b9⟩
     obtain ⟨bA, Z, hO1, hO2, u0, u1, u2, v0, v1, v2⟩ := jkAZO2C6 b9 bA Z hO1 hO2 u0 u1 u2 v0 v1 v2
     clear b9
     go_wp2_with fail
     refine cM (OX.out _ _ _ _ hO2.1 hn2) ?_
     rintro q xW ⟨rfl, b10⟩
     obtain ⟨bA, Z, hO1, hO2, u0, u1, u2, v0, v1, v2⟩ := jkAZO2C6 b10 bA Z hO1 hO2 u0 u1 u2 v0 v1 v2
     clear b10
     obtain ⟨z0, z1, z2, f0, f1, f2⟩ := Z
     go_wp2_with fail
     exact bodyPost_ret (v := .tuple #[dyV false none 0 0 0, .bool true, .int .i64 0]) (by simp [results, Tryz.results17, go_sem, z0, z1, z2]) rfl ⟨_, rfl, dyQ_zero _ _, bl3 bA (by omega)⟩
    ·rw [show (inQ (2 - 2 * -1), true) = (intD 1, true) from by decide +kernel]
     generalize intD 1 = R at *
     go_enter Tryz.func17, Tryz.ntmps17
     go_wp2_with fail
     generalize (w.alloc (.cells #[.bool false, .slice none 0 0, .int .i64 0] 27)) = w0 at *
     refine cM (IC.out _) ?_
     rintro q w9 ⟨rfl, rfl⟩
     clear IC
     go_wp2_with fail
     refine cM (FY.out _) ?_
     have lb := bA.size
     rintro q w1 ⟨_, rfl, ⟨a1, n1, c1, rfl, HN1, hO1⟩, b1⟩
     replace hO1 := hO1.low lb
     obtain ⟨bA, Z⟩ := jkAZ b1 bA Z
     have hn1 : n1 ≤ 1024 := by have := HN1.out; have := LY.out; omega
     clear b1 lb FY HN1
     have bD := below_one w1 (.cells #[.bool P.1, .slice a1 n1 c1, .int .i64 P.2.2] 27)
     obtain ⟨bA, Z, hO1⟩ := jkAZO bD bA Z hO1
     obtain ⟨u0, u1, u2⟩ := fX3 w1 P a1 n1 c1 _ rfl
     clear bD
     go_upto_region 4 with fail
     generalize w1.alloc (.cells #[.bool P.1, .slice a1 n1 c1, .int .i64 P.2.2] 27) = w2 at *
     generalize w1.heap.size = BY at *
     go_wp2_with fail
     refine cM (FX.out _) ?_
     have lb := bA.size
     rintro q w3 ⟨_, rfl, ⟨a2, n2, c2, rfl, HN2, hO2⟩, b1⟩
     replace hO2 := hO2.low lb
     obtain ⟨bA, Z, hO1, u0, u1, u2⟩ := jkAZOC3 b1 bA Z hO1 u0 u1 u2
     have hn2 : n2 ≤ 1024 := by have := HN2.out; have := LX.out; omega
     clear b1 lb FX HN2
     have bD := below_one w3 (.cells #[.bool Q.1, .slice a2 n2 c2, .int .i64 Q.2.2] 27)
     obtain ⟨bA, Z, hO1, hO2, u0, u1, u2⟩ := jkAZO2C3 bD bA Z hO1 hO2 u0 u1 u2
     obtain ⟨v0, v1, v2⟩ := fX3 w3 Q a2 n2 c2 _ rfl
     clear bD
     go_upto_region 5 with fail
     generalize w3.alloc (.cells #[.bool Q.1, .slice a2 n2 c2, .int .i64 Q.2.2] 27) = w4 at *
     generalize w3.heap.size = BX at *
     go_wp2_with fail
     refine cM (ZY.out _ _ _ _ hO1.1 hn1) ?_
     rintro q xW ⟨rfl, b11⟩
     obtain ⟨bA, Z, hO1, hO2, u0, u1, u2, v0, v1, v2⟩ := jkAZO2C6 b11 bA Z hO1 hO2 u0 u1 u2 v0 v1 v2
     clear b11
     go_wp2_with fail
     refine cM (ZX.out _ _ _ _ hO2.1 hn2) ?_
     rintro q xW ⟨rfl, b12⟩
     obtain ⟨bA, Z, hO1, hO2, u0, u1, u2, v0, v1, v2⟩ := jkAZO2C6 b12 bA Z hO1 hO2 u0 u1 u2 v0 v1 v2
     clear b12
     go_wp2_with fail
     refine cM (ZY.out _ _ _ _ hO1.1 hn1) ?_
     rintro q xW ⟨rfl, b13⟩
     obtain ⟨bA, Z, hO1, hO2, u0, u1, u2, v0, v1, v2⟩ := jkAZO2C6 b13 bA Z hO1 hO2 u0 u1 u2 v0 v1 v2
     clear b13
     go_wp2_with fail
     refine cM (OX.out _ _ _ _ hO2.1 hn2) ?_
     rintro q xW ⟨rfl, b14⟩
     obtain ⟨bA, Z, hO1, hO2, u0, u1, u2, v0, v1, v2⟩ := jkAZO2C6 b14 bA Z hO1 hO2 u0 u1 u2 v0 v1 v2
     clear b14
     go_wp2_with fail
     refine cM (ZY.out _ _ _ _ hO1.1 hn1) ?_
     rintro q xW ⟨rfl, b15⟩
     obtain ⟨bA, Z, hO1, hO2, u0, u1, u2, v0, v1, v2⟩ := jkAZO2C6 b15 bA Z hO1 hO2 u0 u1 u2 v0 v1 v2
     clear b15
     go_wp2_with fail
     refine cM (I1.out _) ?_
     have lb5 := bA.size
     rintro r w5 ⟨_, rfl, ⟨a5, n5, c5, rfl, HN5, hO5⟩, b5⟩
     replace hO5 := hO5.low lb5
     replace Z := Z.keep b5
     revert u0 u1 u2; refine cy3 b5 ?_; intro u0 u1 u2
     revert v0 v1 v2; refine cy3 b5 ?_; intro v0 v1 v2
     replace bA := nT bA b5
     clear b5 lb5
     obtain ⟨z0, z1, z2, f0, f1, f2⟩ := Z
     go_wp2_with fail
     exact bodyPost_ret (v := .tuple #[dyV R.1 a5 n5 c5 R.2.2, .bool true, .int .i64 0]) (by simp [results, Tryz.results17, go_sem, z0, z1, z2]) rfl ⟨_, rfl, dyE HN5 hO5 z0 z1 z2, bl3 bA (by omega)⟩
 ·have e : e2E f y x = 0 := by rw [eE, decide_eq_false hb1, Bool.false_and]; rfl
  rw [decide_eq_false hb1] at ZY
  rcases hf2 with rfl | rfl
  ·rw [e, e2_33 y x e, decide_eq_false hb1, Bool.false_and]
   clear e eE oY oX hb1 hS hZ eJ AX AY I1 hfy hfx hJ ZX OX
   generalize fromP y = P at *
   generalize fromP x = Q at *
   go_enter Tryz.func17, Tryz.ntmps17
   go_wp2_with fail
   generalize (w.alloc (.cells #[.bool false, .slice none 0 0, .int .i64 0] 27)) = w0 at *
   refine cM (IC.out _) ?_
   rintro q w9 ⟨rfl, rfl⟩
   clear IC
   go_wp2_with fail
   refine cM (FY.out _) ?_
   have lb := bA.size
   rintro q w1 ⟨_, rfl, ⟨a1, n1, c1, rfl, HN1, hO1⟩, b1⟩
   replace hO1 := hO1.low lb
   obtain ⟨bA, Z⟩ := jkAZ b1 bA Z
   have hn1 : n1 ≤ 1024 := by have := HN1.out; have := LY.out; omega
   clear b1 lb FY HN1
   have bD := below_one w1 (.cells #[.bool P.1, .slice a1 n1 c1, .int .i64 P.2.2] 27)
   obtain ⟨bA, Z, hO1⟩ := jkAZO bD bA Z hO1
   obtain ⟨u0, u1, u2⟩ := fX3 w1 P a1 n1 c1 _ rfl
   clear bD
   go_upto_region 4 with fail
   generalize w1.alloc (.cells #[.bool P.1, .slice a1 n1 c1, .int .i64 P.2.2] 27) = w2 at *
   generalize w1.heap.size = BY at *
   go_wp2_with fail
   refine cM (FX.out _) ?_
   have lb := bA.size
   rintro q w3 ⟨_, rfl, ⟨a2, n2, c2, rfl, HN2, hO2⟩, b1⟩
   replace hO2 := hO2.low lb
   obtain ⟨bA, Z, hO1, u0, u1, u2⟩ := jkAZOC3 b1 bA Z hO1 u0 u1 u2
   have hn2 : n2 ≤ 1024 := by have := HN2.out; have := LX.out; omega
   clear b1 lb FX HN2
   have bD := below_one w3 (.cells #[.bool Q.1, .slice a2 n2 c2, .int .i64 Q.2.2] 27)
   obtain ⟨bA, Z, hO1, hO2, u0, u1, u2⟩ := jkAZO2C3 bD bA Z hO1 hO2 u0 u1 u2
   obtain ⟨v0, v1, v2⟩ := fX3 w3 Q a2 n2 c2 _ rfl
   clear bD
   go_upto_region 5 with fail
   generalize w3.alloc (.cells #[.bool Q.1, .slice a2 n2 c2, .int .i64 Q.2.2] 27) = w4 at *
   generalize w3.heap.size = BX at *
   go_wp2_with fail
   refine cM (ZY.out _ _ _ _ hO1.1 hn1) ?_
   rintro q xW ⟨rfl, b16⟩
   obtain ⟨bA, Z, hO1, hO2, u0, u1, u2, v0, v1, v2⟩ := jkAZO2C6 b16 bA Z hO1 hO2 u0 u1 u2 v0 v1 v2
   clear b16
   go_wp2_with fail
   refine cM (ZY.out _ _ _ _ hO1.1 hn1) ?_
   rintro q xW ⟨rfl, b17⟩
   obtain ⟨bA, Z, hO1, hO2, u0, u1, u2, v0, v1, v2⟩ := jkAZO2C6 b17 bA Z hO1 hO2 u0 u1 u2 v0 v1 v2
   clear b17
   obtain ⟨z0, z1, z2, f0, f1, f2⟩ := Z
   go_wp2_with fail
   exact bodyPost_ret (v := .tuple #[dyV false none 0 0 0, .bool false, .int .i64 0]) (by simp [results, Tryz.results17, go_sem, z0, z1, z2]) rfl ⟨_, rfl, dyQ_zero _ _, bl3 bA (by omega)⟩
  ·rw [e, e2_34 y x e]
   have eD : drQ (fromP y) (fromP x) = (if (fromP y).1 = true then -(if agI (fromP x) 0 = -1 then 3 else if agI (fromP x) 0 = 0 then 2 else 1) else (if agI (fromP x) 0 = -1 then 3 else if agI (fromP x) 0 = 0 then 2 else 1), decide (agI (fromP x) 0 = 0) || decide (cmpD (absD (fromP y)) (absD (fromP x)) = 0)) := by
    unfold drQ; rw [if_neg hb1]
   by_cases hb2 : (fromP x).2.1 = 0
   ·have j0 := hZ.2 hb2
    have eR : (if (drQ (fromP y) (fromP x)).2 = true then (inQ (drQ (fromP y) (fromP x)).1, true) else no3) = (((fromP y).1, 1, -1), true) := by
     rw [eD, decide_eq_true j0, Bool.true_or, if_pos rfl, j0]
     simp only
     cases (fromP y).1 <;> decide +kernel
    rw [eR]
    rw [decide_eq_true hb2] at ZX
    clear e eE oY oX hb1 hb2 hS hZ eJ AX AY I1 hfy hfx hJ OX eD eR j0
    generalize fromP y = P at *
    generalize fromP x = Q at *
    go_enter Tryz.func17, Tryz.ntmps17
    go_wp2_with fail
    generalize (w.alloc (.cells #[.bool false, .slice none 0 0, .int .i64 0] 27)) = w0 at *
    refine cM (IC.out _) ?_
    rintro q w9 ⟨rfl, rfl⟩
    clear IC
    go_wp2_with fail
    refine cM (FY.out _) ?_
    have lb := bA.size
    rintro q w1 ⟨_, rfl, ⟨a1, n1, c1, rfl, HN1, hO1⟩, b1⟩
    replace hO1 := hO1.low lb
    obtain ⟨bA, Z⟩ := jkAZ b1 bA Z
    have hn1 : n1 ≤ 1024 := by have := HN1.out; have := LY.out; omega
    clear b1 lb FY HN1
    have bD := below_one w1 (.cells #[.bool P.1, .slice a1 n1 c1, .int .i64 P.2.2] 27)
    obtain ⟨bA, Z, hO1⟩ := jkAZO bD bA Z hO1
    obtain ⟨u0, u1, u2⟩ := fX3 w1 P a1 n1 c1 _ rfl
    clear bD
    go_upto_region 4 with fail
    generalize w1.alloc (.cells #[.bool P.1, .slice a1 n1 c1, .int .i64 P.2.2] 27) = w2 at *
    generalize w1.heap.size = BY at *
    go_wp2_with fail
    refine cM (FX.out _) ?_
    have lb := bA.size
    rintro q w3 ⟨_, rfl, ⟨a2, n2, c2, rfl, HN2, hO2⟩, b1⟩
    replace hO2 := hO2.low lb
    obtain ⟨bA, Z, hO1, u0, u1, u2⟩ := jkAZOC3 b1 bA Z hO1 u0 u1 u2
    have hn2 : n2 ≤ 1024 := by have := HN2.out; have := LX.out; omega
    clear b1 lb FX HN2
    have bD := below_one w3 (.cells #[.bool Q.1, .slice a2 n2 c2, .int .i64 Q.2.2] 27)
    obtain ⟨bA, Z, hO1, hO2, u0, u1, u2⟩ := jkAZO2C3 bD bA Z hO1 hO2 u0 u1 u2
    obtain ⟨v0, v1, v2⟩ := fX3 w3 Q a2 n2 c2 _ rfl
    clear bD
    go_upto_region 5 with fail
    generalize w3.alloc (.cells #[.bool Q.1, .slice a2 n2 c2, .int .i64 Q.2.2] 27) = w4 at *
    generalize w3.heap.size = BX at *
    go_wp2_with fail
    refine cM (ZY.out _ _ _ _ hO1.1 hn1) ?_
    rintro q xW ⟨rfl, b18⟩
    obtain ⟨bA, Z, hO1, hO2, u0, u1, u2, v0, v1, v2⟩ := jkAZO2C6 b18 bA Z hO1 hO2 u0 u1 u2 v0 v1 v2
    clear b18
    go_wp2_with fail
    refine cM (ZY.out _ _ _ _ hO1.1 hn1) ?_
    rintro q xW ⟨rfl, b19⟩
    obtain ⟨bA, Z, hO1, hO2, u0, u1, u2, v0, v1, v2⟩ := jkAZO2C6 b19 bA Z hO1 hO2 u0 u1 u2 v0 v1 v2
    clear b19
    go_wp2_with fail
    refine cM (ZY.out _ _ _ _ hO1.1 hn1) ?_
    rintro q xW ⟨rfl, b20⟩
    obtain ⟨bA, Z, hO1, hO2, u0, u1, u2, v0, v1, v2⟩ := jkAZO2C6 b20 bA Z hO1 hO2 u0 u1 u2 v0 v1 v2
    clear b20
    go_wp2_with fail
    refine cM (ZX.out _ _ _ _ hO2.1 hn2) ?_
    rintro q xW ⟨rfl, b21⟩
    obtain ⟨bA, Z, hO1, hO2, u0, u1, u2, v0, v1, v2⟩ := jkAZO2C6 b21 bA Z hO1 hO2 u0 u1 u2 v0 v1 v2
    clear b21
    go_upto_region 14 with fail
    have bD := below_one xW (.cells #[.int .u64 1] 23)
    obtain ⟨s0, sf⟩ := fX19 xW _ rfl
    have lB := bA.size
    have k0 := u0
    obtain ⟨bA, Z, hO1, hO2, u0, u1, u2, v0, v1, v2⟩ := jkAZO2C6 bD bA Z hO1 hO2 u0 u1 u2 v0 v1 v2
    have hO3 : OwnW w.heap.size (xW.alloc (.cells #[.int .u64 1] 23)) (some ⟨xW.heap.size, 0, none⟩) 1 1 (wO 1) := by
     rw [show wO 1 = [1] by decide +kernel]
     refine ⟨isW_oneD s0 ⟨by decide, by decide⟩, fun b off i q hi => ?_⟩
     simp only [Option.some.injEq, Addr.mk.injEq, and_true] at q
     obtain ⟨rfl, rfl⟩ := q
     obtain rfl : i = 0 := by omega
     exact ⟨lB, sf⟩
    have HN3 : Hid (1 = (wO 1).length) := by rw [Hid]; decide +kernel
    clear bD s0 sf
    obtain ⟨z0, z1, z2, f0, f1, f2⟩ := Z
    go_wp2_with fail
    exact bodyPost_ret (v := .tuple #[dyV P.1 (some ⟨xW.heap.size, 0, none⟩) 1 1 (-1), .bool true, .int .i64 0]) (by simp [results, Tryz.results17, go_sem, z0, z1, z2]) rfl ⟨_, rfl, ⟨_, _, _, rfl, HN3, hO3.set_dy _ _ _ _ _ _ _ _ _ z0 z1 z2⟩, bl3 bA (by omega)⟩
   ·have j0 : agI (fromP x) 0 ≠ 0 := fun q => hb2 (hZ.1 q)
    rw [decide_eq_false hb2] at ZX
    by_cases hA : absV y = absV x
    ·have eR : (if (drQ (fromP y) (fromP x)).2 = true then (inQ (drQ (fromP y) (fromP x)).1, true) else no3) = (((fromP y).1, if agI (fromP x) 0 = -1 then 3 else 1, -2), true) := by
      rw [eD, decide_eq_true (hS.2 hA), Bool.or_true, if_pos rfl]
      simp only
      have : agI (fromP x) 0 = 1 ∨ agI (fromP x) 0 = -1 := by omega
      rcases this with q | q <;> rw [q] <;> cases (fromP y).1 <;> decide +kernel
     rw [eR]
     have hJ' : agI (fromP x) 0 = 1 ∨ agI (fromP x) 0 = -1 := by omega
     rw [hA] at AY
     generalize agI (fromP x) 0 = J at *
     generalize absV x = V at *
     clear e eE oY oX hb1 hb2 hS hZ eJ I1 hfy hfx hJ eD eR j0 hA
     generalize fromP y = P at *
     generalize fromP x = Q at *
     rcases hJ' with rfl | rfl
     ·rw [if_neg (by decide)]
      go_enter Tryz.func17, Tryz.ntmps17
      go_wp2_with fail
      generalize (w.alloc (.cells #[.bool false, .slice none 0 0, .int .i64 0] 27)) = w0 at *
      refine cM (IC.out _) ?_
      rintro q w9 ⟨rfl, rfl⟩
      clear IC
      go_wp2_with fail
      refine cM (FY.out _) ?_
      have lb := bA.size
      rintro q w1 ⟨_, rfl, ⟨a1, n1, c1, rfl, HN1, hO1⟩, b1⟩
      replace hO1 := hO1.low lb
      obtain ⟨bA, Z⟩ := jkAZ b1 bA Z
      have hn1 : n1 ≤ 1024 := by have := HN1.out; have := LY.out; omega
      clear b1 lb FY HN1
      have bD := below_one w1 (.cells #[.bool P.1, .slice a1 n1 c1, .int .i64 P.2.2] 27)
      obtain ⟨bA, Z, hO1⟩ := jkAZO bD bA Z hO1
      obtain ⟨u0, u1, u2⟩ := fX3 w1 P a1 n1 c1 _ rfl
      clear bD
      go_upto_region 4 with fail
      generalize w1.alloc (.cells #[.bool P.1, .slice a1 n1 c1, .int .i64 P.2.2] 27) = w2 at *
      generalize w1.heap.size = BY at *
      go_wp2_with fail
      refine cM (FX.out _) ?_
      have lb := bA.size
      rintro q w3 ⟨_, rfl, ⟨a2, n2, c2, rfl, HN2, hO2⟩, b1⟩
      replace hO2 := hO2.low lb
      obtain ⟨bA, Z, hO1, u0, u1, u2⟩ := jkAZOC3 b1 bA Z hO1 u0 u1 u2
      have hn2 : n2 ≤ 1024 := by have := HN2.out; have := LX.out; omega
      clear b1 lb FX HN2
      have bD := below_one w3 (.cells #[.bool Q.1, .slice a2 n2 c2, .int .i64 Q.2.2] 27)
      obtain ⟨bA, Z, hO1, hO2, u0, u1, u2⟩ := jkAZO2C3 bD bA Z hO1 hO2 u0 u1 u2
      obtain ⟨v0, v1, v2⟩ := fX3 w3 Q a2 n2 c2 _ rfl
      clear bD
      go_upto_region 5 with fail
      generalize w3.alloc (.cells #[.bool Q.1, .slice a2 n2 c2, .int .i64 Q.2.2] 27) = w4 at *
      generalize w3.heap.size = BX at *
      go_wp2_with fail
      refine cM (ZY.out _ _ _ _ hO1.1 hn1) ?_
      rintro q xW ⟨rfl, b22⟩
      obtain ⟨bA, Z, hO1, hO2, u0, u1, u2, v0, v1, v2⟩ := jkAZO2C6 b22 bA Z hO1 hO2 u0 u1 u2 v0 v1 v2
      clear b22
      go_wp2_with fail
      refine cM (ZY.out _ _ _ _ hO1.1 hn1) ?_
      rintro q xW ⟨rfl, b23⟩
      obtain ⟨bA, Z, hO1, hO2, u0, u1, u2, v0, v1, v2⟩ := jkAZO2C6 b23 bA Z hO1 hO2 u0 u1 u2 v0 v1 v2
      clear b23
      go_wp2_with fail
      refine cM (ZY.out _ _ _ _ hO1.1 hn1) ?_
      rintro q xW ⟨rfl, b24⟩
      obtain ⟨bA, Z, hO1, hO2, u0, u1, u2, v0, v1, v2⟩ := jkAZO2C6 b24 bA Z hO1 hO2 u0 u1 u2 v0 v1 v2
      clear b24
      go_wp2_with fail
      refine cM (ZX.out _ _ _ _ hO2.1 hn2) ?_
      rintro q xW ⟨rfl, b25⟩
      obtain ⟨bA, Z, hO1, hO2, u0, u1, u2, v0, v1, v2⟩ := jkAZO2C6 b25 bA Z hO1 hO2 u0 u1 u2 v0 v1 v2
      clear b25
      go_wp2_with fail
      refine cM (AX.out _) ?_
      rintro q x9 ⟨rfl, rfl⟩
      go_wp2_with fail
      refine cM (AY.out _) ?_
      rintro q x9 ⟨rfl, rfl⟩
      go_wp2_with fail
      refine cM (OX.out _ _ _ _ hO2.1 hn2) ?_
      rintro q xW ⟨rfl, b26⟩
      obtain ⟨bA, Z, hO1, hO2, u0, u1, u2, v0, v1, v2⟩ := jkAZO2C6 b26 bA Z hO1 hO2 u0 u1 u2 v0 v1 v2
      clear b26
      go_upto_region 18 with fail
      have bD := below_one xW (.cells #[.int .u64 1] 23)
      obtain ⟨s0, sf⟩ := fX19 xW _ rfl
      have lB := bA.size
      have k0 := u0
      obtain ⟨bA, Z, hO1, hO2, u0, u1, u2, v0, v1, v2⟩ := jkAZO2C6 bD bA Z hO1 hO2 u0 u1 u2 v0 v1 v2
      have hO3 : OwnW w.heap.size (xW.alloc (.cells #[.int .u64 1] 23)) (some ⟨xW.heap.size, 0, none⟩) 1 1 (wO 1) := by
       rw [show wO 1 = [1] by decide +kernel]
       refine ⟨isW_oneD s0 ⟨by decide, by decide⟩, fun b off i q hi => ?_⟩
       simp only [Option.some.injEq, Addr.mk.injEq, and_true] at q
       obtain ⟨rfl, rfl⟩ := q
       obtain rfl : i = 0 := by omega
       exact ⟨lB, sf⟩
      have HN3 : Hid (1 = (wO 1).length) := by rw [Hid]; decide +kernel
      clear bD s0 sf
      obtain ⟨z0, z1, z2, f0, f1, f2⟩ := Z
      go_wp2_with fail
      exact bodyPost_ret (v := .tuple #[dyV P.1 (some ⟨xW.heap.size, 0, none⟩) 1 1 (-2), .bool true, .int .i64 0]) (by simp [results, Tryz.results17, go_sem, z0, z1, z2]) rfl ⟨_, rfl, ⟨_, _, _, rfl, HN3, hO3.set_dy _ _ _ _ _ _ _ _ _ z0 z1 z2⟩, bl3 bA (by omega)⟩
     ·rw [if_pos rfl]
      go_enter Tryz.func17, Tryz.ntmps17
      go_wp2_with fail
      generalize (w.alloc (.cells #[.bool false, .slice none 0 0, .int .i64 0] 27)) = w0 at *
      refine cM (IC.out _) ?_
      rintro q w9 ⟨rfl, rfl⟩
      clear IC
      go_wp2_with fail
      refine cM (FY.out _) ?_
      have lb := bA.size
      rintro q w1 ⟨_, rfl, ⟨a1, n1, c1, rfl, HN1, hO1⟩, b1⟩
      replace hO1 := hO1.low lb
      obtain ⟨bA, Z⟩ := jkAZ b1 bA Z
      have hn1 : n1 ≤ 1024 := by have := HN1.out; have := LY.out; omega
      clear b1 lb FY HN1
      have bD := below_one w1 (.cells #[.bool P.1, .slice a1 n1 c1, .int .i64 P.2.2] 27)
      obtain ⟨bA, Z, hO1⟩ := jkAZO bD bA Z hO1
      obtain ⟨u0, u1, u2⟩ := fX3 w1 P a1 n1 c1 _ rfl
      clear bD
      go_upto_region 4 with fail
      generalize w1.alloc (.cells #[.bool P.1, .slice a1 n1 c1, .int .i64 P.2.2] 27) = w2 at *
      generalize w1.heap.size = BY at *
      go_wp2_with fail
      refine cM (FX.out _) ?_
      have lb := bA.size
      rintro q w3 ⟨_, rfl, ⟨a2, n2, c2, rfl, HN2, hO2⟩, b1⟩
      replace hO2 := hO2.low lb
      obtain ⟨bA, Z, hO1, u0, u1, u2⟩ := jkAZOC3 b1 bA Z hO1 u0 u1 u2
      have hn2 : n2 ≤ 1024 := by have := HN2.out; have := LX.out; omega
      clear b1 lb FX HN2
      have bD := below_one w3 (.cells #[.bool Q.1, .slice a2 n2 c2, .int .i64 Q.2.2] 27)
      obtain ⟨bA, Z, hO1, hO2, u0, u1, u2⟩ := jkAZO2C3 bD bA Z hO1 hO2 u0 u1 u2
      obtain ⟨v0, v1, v2⟩ := fX3 w3 Q a2 n2 c2 _ rfl
      clear bD
      go_upto_region 5 with fail
      generalize w3.alloc (.cells #[.bool Q.1, .slice a2 n2 c2, .int .i64 Q.2.2] 27) = w4 at *
      generalize w3.heap.size = BX at *
      go_wp2_with fail
      refine cM (ZY.out _ _ _ _ hO1.1 hn1) ?_
      rintro q xW ⟨rfl, b27⟩
      obtain ⟨bA, Z, hO1, hO2, u0, u1, u2, v0, v1, v2⟩ := jkAZO2C6 b27 bA Z hO1 hO2 u0 u1 u2 v0 v1 v2
      clear b27
      go_wp2_with fail
      refine cM (ZY.out _ _ _ _ hO1.1 hn1) ?_
      rintro q xW ⟨rfl, b28⟩
      obtain ⟨bA, Z, hO1, hO2, u0, u1, u2, v0, v1, v2⟩ := jkAZO2C6 b28 bA Z hO1 hO2 u0 u1 u2 v0 v1 v2
      clear b28
      go_wp2_with fail
      refine cM (ZY.out _ _ _ _ hO1.1 hn1) ?_
      rintro q xW ⟨rfl, b29⟩
      obtain ⟨bA, Z, hO1, hO2, u0, u1, u2, v0, v1, v2⟩ := jkAZO2C6 b29 bA Z hO1 hO2 u0 u1 u2 v0 v1 v2
      clear b29
      go_wp2_with fail
      refine cM (ZX.out _ _ _ _ hO2.1 hn2) ?_
      rintro q xW ⟨rfl, b30⟩
      obtain ⟨bA, Z, hO1, hO2, u0, u1, u2, v0, v1, v2⟩ := jkAZO2C6 b30 bA Z hO1 hO2 u0 u1 u2 v0 v1 v2
      clear b30
      go_wp2_with fail
      refine cM (AX.out _) ?_
      rintro q x9 ⟨rfl, rfl⟩
      go_wp2_with fail
      refine cM (AY.out _) ?_
      rintro q x9 ⟨rfl, rfl⟩
      go_wp2_with fail
      refine cM (OX.out _ _ _ _ hO2.1 hn2) ?_
      rintro q xW ⟨rfl, b31⟩
      obtain ⟨bA, Z, hO1, hO2, u0, u1, u2, v0, v1, v2⟩ := jkAZO2C6 b31 bA Z hO1 hO2 u0 u1 u2 v0 v1 v2
      clear b31
      go_upto_region 19 with fail
      have bD := below_one xW (.cells #[.int .u64 3] 23)
      have s0 : (xW.alloc (.cells #[.int .u64 3] 23)).cell? ⟨xW.heap.size, 0, none⟩ = some (.int .u64 3) := by go_simp
      have sf : (xW.alloc (.cells #[.int .u64 3] 23)).frozen? ⟨xW.heap.size, 0, none⟩ = false := by go_simp
      have lB := bA.size
      have k0 := u0
      obtain ⟨bA, Z, hO1, hO2, u0, u1, u2, v0, v1, v2⟩ := jkAZO2C6 bD bA Z hO1 hO2 u0 u1 u2 v0 v1 v2
      have hO3 : OwnW w.heap.size (xW.alloc (.cells #[.int .u64 3] 23)) (some ⟨xW.heap.size, 0, none⟩) 1 1 (wO 3) := by
       rw [show wO 3 = [3] by decide +kernel]
       refine ⟨isW_oneD s0 ⟨by decide, by decide⟩, fun b off i q hi => ?_⟩
       simp only [Option.some.injEq, Addr.mk.injEq, and_true] at q
       obtain ⟨rfl, rfl⟩ := q
       obtain rfl : i = 0 := by omega
       exact ⟨lB, sf⟩
      have HN3 : Hid (1 = (wO 3).length) := by rw [Hid]; decide +kernel
      clear bD s0 sf
      obtain ⟨z0, z1, z2, f0, f1, f2⟩ := Z
      go_wp2_with fail
      exact bodyPost_ret (v := .tuple #[dyV P.1 (some ⟨xW.heap.size, 0, none⟩) 1 1 (-2), .bool true, .int .i64 0]) (by simp [results, Tryz.results17, go_sem, z0, z1, z2]) rfl ⟨_, rfl, ⟨_, _, _, rfl, HN3, hO3.set_dy _ _ _ _ _ _ _ _ _ z0 z1 z2⟩, bl3 bA (by omega)⟩
    ·have eR : (if (drQ (fromP y) (fromP x)).2 = true then (inQ (drQ (fromP y) (fromP x)).1, true) else no3) = no3 := by
      rw [eD, decide_eq_false j0, decide_eq_false (fun q => hA (hS.1 q))]; rfl
     rw [eR]
     unfold no3
     have hA2 : absV x ≠ absV y := fun q => hA q.symm
     generalize absV x = V at *
     generalize absV y = V2 at *
     clear e eE oY oX hb1 hb2 hS hZ eJ I1 hfy hfx hJ eD eR j0 OX
     generalize fromP y = P at *
     generalize fromP x = Q at *
     go_enter Tryz.func17, Tryz.ntmps17
     go_wp2_with fail
     generalize (w.alloc (.cells #[.bool false, .slice none 0 0, .int .i64 0] 27)) = w0 at *
     refine cM (IC.out _) ?_
     rintro q w9 ⟨rfl, rfl⟩
     clear IC
     go_wp2_with fail
     refine cM (FY.out _) ?_
     have lb := bA.size
     rintro q w1 ⟨_, rfl, ⟨a1, n1, c1, rfl, HN1, hO1⟩, b1⟩
     replace hO1 := hO1.low lb
     obtain ⟨bA, Z⟩ := jkAZ b1 bA Z
     have hn1 : n1 ≤ 1024 := by have := HN1.out; have := LY.out; omega
     clear b1 lb FY HN1
     have bD := below_one w1 (.cells #[.bool P.1, .slice a1 n1 c1, .int .i64 P.2.2] 27)
     obtain ⟨bA, Z, hO1⟩ := jkAZO bD bA Z hO1
     obtain ⟨u0, u1, u2⟩ := fX3 w1 P a1 n1 c1 _ rfl
     clear bD
     go_upto_region 4 with fail
     generalize w1.alloc (.cells #[.bool P.1, .slice a1 n1 c1, .int .i64 P.2.2] 27) = w2 at *
     generalize w1.heap.size = BY at *
     go_wp2_with fail
     refine cM (FX.out _) ?_
     have lb := bA.size
     rintro q w3 ⟨_, rfl, ⟨a2, n2, c2, rfl, HN2, hO2⟩, b1⟩
     replace hO2 := hO2.low lb
     obtain ⟨bA, Z, hO1, u0, u1, u2⟩ := jkAZOC3 b1 bA Z hO1 u0 u1 u2
     have hn2 : n2 ≤ 1024 := by have := HN2.out; have := LX.out; omega
     clear b1 lb FX HN2
     have bD := below_one w3 (.cells #[.bool Q.1, .slice a2 n2 c2, .int .i64 Q.2.2] 27)
     obtain ⟨bA, Z, hO1, hO2, u0, u1, u2⟩ := jkAZO2C3 bD bA Z hO1 hO2 u0 u1 u2
     obtain ⟨v0, v1, v2⟩ := fX3 w3 Q a2 n2 c2 _ rfl
     clear bD
     go_upto_region 5 with fail
     generalize w3.alloc (.cells #[.bool Q.1, .slice a2 n2 c2, .int .i64 Q.2.2] 27) = w4 at *
     generalize w3.heap.size = BX at *
     go_wp2_with fail
     refine cM (ZY.out _ _ _ _ hO1.1 hn1) ?_
     rintro q xW ⟨rfl, b32⟩
     obtain ⟨bA, Z, hO1, hO2, u0, u1, u2, v0, v1, v2⟩ := jkAZO2C6 b32 bA Z hO1 hO2 u0 u1 u2 v0 v1 v2
     clear b32
     go_wp2_with fail
     refine cM (ZY.out _ _ _ _ hO1.1 hn1) ?_
     rintro q xW ⟨rfl, b33⟩
     obtain ⟨bA, Z, hO1, hO2, u0, u1, u2, v0, v1, v2⟩ := jkAZO2C6 b33 bA Z hO1 hO2 u0 u1 u2 v0 v1 v2
     clear b33
     go_wp2_with fail
     refine cM (ZY.out _ _ _ _ hO1.1 hn1) ?_
     rintro q xW ⟨rfl, b34⟩
     obtain ⟨bA, Z, hO1, hO2, u0, u1, u2, v0, v1, v2⟩ := jkAZO2C6 b34 bA Z hO1 hO2 u0 u1 u2 v0 v1 v2
     clear b34
     go_wp2_with fail
     refine cM (ZX.out _ _ _ _ hO2.1 hn2) ?_
     rintro q xW ⟨rfl, b35⟩
     obtain ⟨bA, Z, hO1, hO2, u0, u1, u2, v0, v1, v2⟩ := jkAZO2C6 b35 bA Z hO1 hO2 u0 u1 u2 v0 v1 v2
     clear b35
     go_wp2_with fail
     refine cM (AX.out _) ?_
     rintro q x9 ⟨rfl, rfl⟩
     go_wp2_with fail
     refine cM (AY.out _) ?_
     rintro q x9 ⟨rfl, rfl⟩
     obtain ⟨z0, z1, z2, f0, f1, f2⟩ := Z
     go_wp2_with fail
     exact bodyPost_ret (v := .tuple #[dyV false none 0 0 0, .bool false, .int .i64 0]) (by simp [results, Tryz.results17, go_sem, z0, z1, z2]) rfl ⟨_, rfl, dyQ_zero _ _, bl3 bA (by omega)⟩
end Go.Proofs.YtiijfnaaekmpbaaGreatDoor

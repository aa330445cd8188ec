/- The document's exact cases: zeros, powers, turns, angles. -/
import Derived.Test.YtiijfnaaekmpbaaGreatDoorED3
import Derived.Test.YtiijfnaaekmpbaaGreatDoorFX
namespace Go.Proofs.YtiijfnaaekmpbaaGreatDoor
open Go.RowKit
set_option maxHeartbeats 4000000
set_option maxRecDepth 100000
theorem ok_room {q : E3} (hc : CanD q) (h : roomE q = 0) : OkE q := by
 refine ⟨hc, ?_⟩
 unfold roomE at h
 split at h
 ·assumption
 ·omega
def pwN (f N : Int) (B : Bool) : E3 × Bool :=
 if B = false then no3
 else if f = 2 then ((false, 1, N), true)
 else if f = 5 ∧ -54 ≤ N ∧ N ≤ 54 then (ls1D (false, 1, N), true)
 else if f = 3 ∧ 0 ≤ N ∧ N ≤ 23 then (tenD N.toNat, true)
 else if f = 6 ∧ 0 ≤ N ∧ N ≤ 16 then (ls1D (tenD N.toNat), true)
 else no3
theorem pwN_eq (f : Int) (p : E3) : pwD f p = pwN f (whD p).1 (whD p).2 := rfl
def trN (f N : Int) (B : Bool) : E3 × Bool :=
 if B = false then no3 else if f = 18 then (intD (tbT N), true) else if N % 2 ≠ 0 then no3 else if f = 17 then (intD (tbS ((N + 2) % 8)), true) else (intD (tbS N), true)
theorem trN_eq (f : Int) (p : E3) : trD f p = trN f (quD p).1 (quD p).2 := rfl
theorem ls_ok1 (N : Int) (h : -54 ≤ N ∧ N ≤ 54) : OkE (ls1D (false, 1, N)) := by
 have := ls_1all N h.1 h.2
 unfold ls1 at this
 rw [toP1] at this
 exact ok_room (sum_canA (one_form N) one_can) this.1
theorem ls_ok5 (k : Nat) (h : k ≤ 16) : OkE (ls1D (tenD k)) := by
 have := ls_5all (k : Int) (by omega) (by omega)
 unfold ls1 at this
 rw [toP5] at this
 exact ok_room (sum_canA (ten_can k) one_can) this.1
theorem dZf_calls (f : Int) (w : World) :
  Calls Tryz.prog 51 #[.int .u8 f] w fun r w' => ∃ v, r = .returned (.tuple #[v, .bool (zeD f).2]) ∧ DyQ w.heap.size w' v (zeD f).1 ∧ Below w.heap.size w w' := by
 have bA := below_one w (.cells #[.bool false, .slice none 0 0, .int .i64 0] 27)
 have Z := zrA w
 have o1 : OkE (intD 1) := int_ok 1 ⟨by decide, by decide⟩
 have o2 : OkE (false, 1, -1) := one_ok _ _ ⟨by decide, by decide⟩
 have IC : Hid _ := fun W => qint_calls 1 ⟨by decide, by decide⟩ W
 have PC : Hid _ := fun W => dPower_calls (-1) W
 have T1 : Hid _ := fun (W : World) (a : Option Addr) (n c : Nat) (h : IsW W a n c (wO (intD 1).2.1)) (hn : n ≤ 1024) => dToldE (intD 1) a n c W h hn o1
 have T2 : Hid _ := fun (W : World) (a : Option Addr) (n c : Nat) (h : IsW W a n c (wO 1)) (hn : n ≤ 1024) => dToldE (false, 1, -1) a n c W h hn o2
 have L1 : Hid _ := okE_len o1
 have L2 : Hid _ := okE_len o2
 clear o1
 by_cases A : f = 1 ∨ f = 2 ∨ f = 3 ∨ f = 14 ∨ f = 17 ∨ f = 26
 ·rw [show zeD f = (intD 1, true) from if_pos A]
  generalize intD 1 = P at *
  clear PC T2 L2 o2
  rcases A with rfl | rfl | rfl | rfl | rfl | rfl
  all_goals
   go_enter Tryz.func51, Tryz.ntmps51
   go_wp2_with fail
   generalize w.alloc (.cells #[.bool false, .slice none 0 0, .int .i64 0] 27) = w0 at *
   refine cM (IC.out _) ?_
   have lb1 := bA.size
   rintro r w1 ⟨_, rfl, ⟨a1, n1, c1, rfl, HN1, hO1⟩, b1⟩
   replace hO1 := hO1.low lb1
   obtain ⟨bA, Z⟩ := jkAZ b1 bA Z
   clear b1 lb1
   go_wp2_with fail
   have hn1 : n1 ≤ 1024 := by have := HN1.out; have := L1.out; omega
   refine cM (T1.out _ _ _ _ hO1.1 hn1) ?_
   have lb2 := bA.size
   rintro r w2 ⟨_, rfl, ⟨a2, n2, c2, rfl, HN2, hO2⟩, b2⟩
   replace hO2 := hO2.low lb2
   obtain ⟨bA, Z⟩ := jkAZ b2 bA Z
   clear b2 lb2
   obtain ⟨z0, z1, z2, f0, f1, f2⟩ := Z
   go_wp2_with fail
   exact bodyPost_ret (v := .tuple #[dyV P.1 a2 n2 c2 P.2.2, .bool true]) (by simp [results, Tryz.results51, go_sem, z0, z1, z2]) rfl ⟨_, rfl, dyE HN2 hO2 z0 z1 z2, bl3 bA (by omega)⟩
 by_cases B : f = 23
 ·rw [show zeD f = ((false, 1, -1), true) from (if_neg A).trans (if_pos B)]
  clear A IC T1 L1
  subst B
  obtain ⟨P, hP⟩ : ∃ P : E3, P = (false, 1, -1) := ⟨_, rfl⟩
  have T3 : Hid _ := fun (W : World) (a : Option Addr) (n c : Nat) (h : IsW W a n c (wO P.2.1)) (hn : n ≤ 1024) => dToldE P a n c W h hn (by rw [hP]; exact o2)
  have L3 : Hid ((wO P.2.1).length ≤ 1024) := by rw [hP]; exact L2.out
  rw [← hP] at PC ⊢
  clear hP T2 L2 o2
  go_enter Tryz.func51, Tryz.ntmps51
  go_wp2_with fail
  generalize w.alloc (.cells #[.bool false, .slice none 0 0, .int .i64 0] 27) = w0 at *
  refine cM (PC.out _) ?_
  have lb1 := bA.size
  rintro r w1 ⟨_, rfl, ⟨a1, n1, c1, rfl, HN1, hO1⟩, b1⟩
  replace hO1 := hO1.low lb1
  obtain ⟨bA, Z⟩ := jkAZ b1 bA Z
  clear b1 lb1
  go_wp2_with fail
  have hn1 : n1 ≤ 1024 := by have := HN1.out; have := L3.out; omega
  refine cM (T3.out _ _ _ _ hO1.1 hn1) ?_
  have lb2 := bA.size
  rintro r w2 ⟨_, rfl, ⟨a2, n2, c2, rfl, HN2, hO2⟩, b2⟩
  replace hO2 := hO2.low lb2
  obtain ⟨bA, Z⟩ := jkAZ b2 bA Z
  clear b2 lb2
  obtain ⟨z0, z1, z2, f0, f1, f2⟩ := Z
  go_wp2_with fail
  exact bodyPost_ret (v := .tuple #[dyV P.1 a2 n2 c2 P.2.2, .bool true]) (by simp [results, Tryz.results51, go_sem, z0, z1, z2]) rfl ⟨_, rfl, dyE HN2 hO2 z0 z1 z2, bl3 bA (by omega)⟩
 by_cases C : f = 20
 ·rw [show zeD f = no3 from (if_neg A).trans ((if_neg B).trans (if_pos C))]
  unfold no3
  clear A B IC PC T1 T2 L1 L2 o2
  subst C
  go_enter Tryz.func51, Tryz.ntmps51
  obtain ⟨z0, z1, z2, f0, f1, f2⟩ := Z
  go_wp2_with fail
  generalize w.alloc (.cells #[.bool false, .slice none 0 0, .int .i64 0] 27) = w0 at *
  exact bodyPost_ret (v := .tuple #[dyV false none 0 0 0, .bool false]) (by simp [results, Tryz.results51, go_sem, z0, z1, z2]) rfl ⟨_, rfl, dyQ_zero _ _, by first | exact bA | exact bl3 bA (by omega)⟩
 ·rw [show zeD f = (z3, true) from (if_neg A).trans ((if_neg B).trans (if_neg C))]
  have n1 : f ≠ 1 := fun q => by omega
  have n2 : f ≠ 2 := fun q => by omega
  have n3 : f ≠ 3 := fun q => by omega
  have n14 : f ≠ 14 := fun q => by omega
  have n17 : f ≠ 17 := fun q => by omega
  have n26 : f ≠ 26 := fun q => by omega
  clear A IC PC T1 T2 L1 L2 o2
  go_enter Tryz.func51, Tryz.ntmps51
  obtain ⟨z0, z1, z2, f0, f1, f2⟩ := Z
  go_wp2_with fail
  generalize w.alloc (.cells #[.bool false, .slice none 0 0, .int .i64 0] 27) = w0 at *
  exact bodyPost_ret (v := .tuple #[dyV false none 0 0 0, .bool true]) (by simp [results, Tryz.results51, go_sem, z0, z1, z2]) rfl ⟨_, rfl, dyQ_zero _ _, by first | exact bA | exact bl3 bA (by omega)⟩
theorem dPowers_calls (f : Int) (p : E3) (a : Option Addr) (n c : Nat) (w : World) (h : IsW w a n c (wO p.2.1)) (hn : n ≤ 1024) (hp : OkE p) :
  Calls Tryz.prog 52 #[.int .u8 f, dyV p.1 a n c p.2.2] w fun r w' => ∃ v, r = .returned (.tuple #[v, .bool (pwD f p).2]) ∧ DyQ w.heap.size w' v (pwD f p).1 ∧ Below w.heap.size w w' := by
 have bA : Below w.heap.size w ((w.alloc (.cells #[.bool p.1, .slice a n c, .int .i64 p.2.2] 27)).alloc (.cells #[.bool false, .slice none 0 0, .int .i64 0] 27)) := nT (below_one _ _) (below_one _ _)
 have Z := zrB w p.1 a n c p.2.2
 obtain ⟨x0, x1, x2⟩ := fX20 w p a n c _ rfl
 have WC : Hid _ := dWhole_calls p.1 p.2.1 p.2.2 a n c _ (h.keep bA) hn hp
 have hw : (whD p).2 = true → -16384 ≤ (whD p).1 ∧ (whD p).1 ≤ 16384 := fun q => by
  obtain ⟨_, e, k1, k2⟩ := wh_yes q
  omega
 rw [pwN_eq]
 generalize hW : whD p = W at *
 obtain ⟨N, B⟩ := W
 simp only at WC hw ⊢
 clear hW h hn hp
 cases B with
 | false =>
  rw [show pwN f N false = no3 from rfl]
  unfold no3
  clear hw
  go_enter Tryz.func52, Tryz.ntmps52
  go_wp2_with fail
  generalize ((w.alloc (.cells #[.bool p.1, .slice a n c, .int .i64 p.2.2] 27)).alloc (.cells #[.bool false, .slice none 0 0, .int .i64 0] 27)) = w0 at *
  refine cM WC.out ?_
  rintro r w9 ⟨rfl, b9⟩
  obtain ⟨bA, Z, x0, x1, x2⟩ := jkAZC3 b9 bA Z x0 x1 x2
  clear b9 WC
  obtain ⟨z0, z1, z2, f0, f1, f2⟩ := Z
  go_wp2_with fail
  exact bodyPost_ret (v := .tuple #[dyV false none 0 0 0, .bool false]) (by simp [results, Tryz.results52, go_sem, z0, z1, z2]) rfl ⟨_, rfl, dyQ_zero _ _, by first | exact bA | exact bl3 bA (by omega)⟩
 | true =>
 obtain ⟨k1, k2⟩ := hw rfl
 clear hw
 have PC : Hid _ := fun W => dPower_calls N W
 have LP : Hid ((wO 1).length ≤ 1024) := by rw [Hid]; decide +kernel
 by_cases A : f = 2
 ·subst A
  rw [show pwN 2 N true = ((false, 1, N), true) from rfl]
  obtain ⟨P, hP⟩ : ∃ P : E3, P = (false, 1, N) := ⟨_, rfl⟩
  have T3 : Hid _ := fun (W : World) (a : Option Addr) (n c : Nat) (h : IsW W a n c (wO P.2.1)) (hn : n ≤ 1024) => dToldE P a n c W h hn (by rw [hP]; exact one_ok _ _ ⟨by omega, by omega⟩)
  have L3 : Hid ((wO P.2.1).length ≤ 1024) := by rw [hP]; exact LP.out
  rw [← hP] at PC ⊢
  clear hP LP
  go_enter Tryz.func52, Tryz.ntmps52
  go_wp2_with fail
  generalize ((w.alloc (.cells #[.bool p.1, .slice a n c, .int .i64 p.2.2] 27)).alloc (.cells #[.bool false, .slice none 0 0, .int .i64 0] 27)) = w0 at *
  refine cM WC.out ?_
  rintro r w9 ⟨rfl, b9⟩
  obtain ⟨bA, Z, x0, x1, x2⟩ := jkAZC3 b9 bA Z x0 x1 x2
  clear b9 WC
  go_wp2_with fail
  refine cM (PC.out _) ?_
  have lb1 := bA.size
  rintro r w1 ⟨_, rfl, ⟨a1, n1, c1, rfl, HN1, hO1⟩, b1⟩
  replace hO1 := hO1.low lb1
  obtain ⟨bA, Z, x0, x1, x2⟩ := jkAZC3 b1 bA Z x0 x1 x2
  clear b1 lb1
  go_wp2_with fail
  have hn1 : n1 ≤ 1024 := by have := HN1.out; have := L3.out; omega
  refine cM (T3.out _ _ _ _ hO1.1 hn1) ?_
  have lb2 := bA.size
  rintro r w2 ⟨_, rfl, ⟨a2, n2, c2, rfl, HN2, hO2⟩, b2⟩
  replace hO2 := hO2.low lb2
  obtain ⟨bA, Z, x0, x1, x2⟩ := jkAZC3 b2 bA Z x0 x1 x2
  clear b2 lb2
  obtain ⟨z0, z1, z2, f0, f1, f2⟩ := Z
  go_wp2_with fail
  exact bodyPost_ret (v := .tuple #[dyV P.1 a2 n2 c2 P.2.2, .bool true]) (by simp [results, Tryz.results52, go_sem, z0, z1, z2]) rfl ⟨_, rfl, dyE HN2 hO2 z0 z1 z2, bl3 bA (by omega)⟩
 by_cases B5 : f = 5
 ·subst B5
  by_cases q1 : -54 ≤ N
  ·by_cases q2 : N ≤ 54
   ·rw [show pwN 5 N true = (ls1D (false, 1, N), true) from by unfold pwN; rw [if_neg (by decide), if_neg (by decide), if_pos ⟨rfl, q1, q2⟩]]
    have LC : Hid _ := fun (W : World) (a : Option Addr) (n c : Nat) (h : IsW W a n c (wO 1)) (hn : n ≤ 1024) => dLess1_calls false a n c (wO 1) N W h (by omega) (by omega)
    simp only [val_words, show formD false 1 N = (false, 1, N) from form_odd _ rfl _] at LC
    have o1 := ls_ok1 N ⟨q1, q2⟩
    generalize ls1D (false, 1, N) = P at *
    have T3 : Hid _ := fun (W : World) (a : Option Addr) (n c : Nat) (h : IsW W a n c (wO P.2.1)) (hn : n ≤ 1024) => dToldE P a n c W h hn o1
    have L3 : Hid _ := okE_len o1
    clear o1
    go_enter Tryz.func52, Tryz.ntmps52
    go_wp2_with fail
    generalize ((w.alloc (.cells #[.bool p.1, .slice a n c, .int .i64 p.2.2] 27)).alloc (.cells #[.bool false, .slice none 0 0, .int .i64 0] 27)) = w0 at *
    refine cM WC.out ?_
    rintro r w9 ⟨rfl, b9⟩
    obtain ⟨bA, Z, x0, x1, x2⟩ := jkAZC3 b9 bA Z x0 x1 x2
    clear b9 WC
    go_wp2_with fail
    refine cM (PC.out _) ?_
    have lb1 := bA.size
    rintro r w1 ⟨_, rfl, ⟨a1, n1, c1, rfl, HN1, hO1⟩, b1⟩
    replace hO1 := hO1.low lb1
    obtain ⟨bA, Z, x0, x1, x2⟩ := jkAZC3 b1 bA Z x0 x1 x2
    clear b1 lb1
    go_wp2_with fail
    have hn1 : n1 ≤ 1024 := by have e2 : n1 = (wO 1).length := HN1.out; have := LP.out; omega
    refine cM (LC.out _ _ _ _ hO1.1 hn1) ?_
    have lb2 := bA.size
    rintro r w2 ⟨_, rfl, ⟨a2, n2, c2, rfl, HN2, hO2⟩, b2⟩
    replace hO2 := hO2.low lb2
    obtain ⟨bA, Z, x0, x1, x2⟩ := jkAZC3 b2 bA Z x0 x1 x2
    clear b2 lb2
    go_wp2_with fail
    have hn2 : n2 ≤ 1024 := by have := HN2.out; have := L3.out; omega
    refine cM (T3.out _ _ _ _ hO2.1 hn2) ?_
    have lb3 := bA.size
    rintro r w3 ⟨_, rfl, ⟨a3, n3, c3, rfl, HN3, hO3⟩, b3⟩
    replace hO3 := hO3.low lb3
    obtain ⟨bA, Z, x0, x1, x2⟩ := jkAZC3 b3 bA Z x0 x1 x2
    clear b3 lb3
    obtain ⟨z0, z1, z2, f0, f1, f2⟩ := Z
    go_wp2_with fail
    exact bodyPost_ret (v := .tuple #[dyV P.1 a3 n3 c3 P.2.2, .bool true]) (by simp [results, Tryz.results52, go_sem, z0, z1, z2]) rfl ⟨_, rfl, dyE HN3 hO3 z0 z1 z2, bl3 bA (by omega)⟩
   ·have q2' : 54 < N := by omega
    rw [show pwN 5 N true = no3 from by unfold pwN; rw [if_neg (by decide), if_neg (by decide), if_neg (by omega), if_neg (by omega), if_neg (by omega)]]
    unfold no3
    clear PC LP
    go_enter Tryz.func52, Tryz.ntmps52
    go_wp2_with fail
    generalize ((w.alloc (.cells #[.bool p.1, .slice a n c, .int .i64 p.2.2] 27)).alloc (.cells #[.bool false, .slice none 0 0, .int .i64 0] 27)) = w0 at *
    refine cM WC.out ?_
    rintro r w9 ⟨rfl, b9⟩
    obtain ⟨bA, Z, x0, x1, x2⟩ := jkAZC3 b9 bA Z x0 x1 x2
    clear b9 WC
    obtain ⟨z0, z1, z2, f0, f1, f2⟩ := Z
    go_wp2_with fail
    exact bodyPost_ret (v := .tuple #[dyV false none 0 0 0, .bool false]) (by simp [results, Tryz.results52, go_sem, z0, z1, z2]) rfl ⟨_, rfl, dyQ_zero _ _, by first | exact bA | exact bl3 bA (by omega)⟩
  ·have q1' : N < -54 := by omega
   rw [show pwN 5 N true = no3 from by unfold pwN; rw [if_neg (by decide), if_neg (by decide), if_neg (by omega), if_neg (by omega), if_neg (by omega)]]
   unfold no3
   clear PC LP
   go_enter Tryz.func52, Tryz.ntmps52
   go_wp2_with fail
   generalize ((w.alloc (.cells #[.bool p.1, .slice a n c, .int .i64 p.2.2] 27)).alloc (.cells #[.bool false, .slice none 0 0, .int .i64 0] 27)) = w0 at *
   refine cM WC.out ?_
   rintro r w9 ⟨rfl, b9⟩
   obtain ⟨bA, Z, x0, x1, x2⟩ := jkAZC3 b9 bA Z x0 x1 x2
   clear b9 WC
   obtain ⟨z0, z1, z2, f0, f1, f2⟩ := Z
   go_wp2_with fail
   exact bodyPost_ret (v := .tuple #[dyV false none 0 0 0, .bool false]) (by simp [results, Tryz.results52, go_sem, z0, z1, z2]) rfl ⟨_, rfl, dyQ_zero _ _, by first | exact bA | exact bl3 bA (by omega)⟩
 by_cases B3 : f = 3
 ·subst B3
  clear PC LP
  by_cases q1 : 0 ≤ N
  ·by_cases q2 : N ≤ 23
   ·rw [show pwN 3 N true = (tenD N.toNat, true) from by unfold pwN; rw [if_neg (by decide), if_neg (by decide), if_neg (by omega), if_pos ⟨rfl, q1, q2⟩]]
    obtain ⟨k, rfl⟩ : ∃ k : Nat, N = (k : Int) := ⟨N.toNat, by omega⟩
    rw [Int.toNat_natCast]
    have NC : Hid _ := fun W => dTen_calls k (by omega) W
    have T3 : Hid _ := fun (W : World) (a : Option Addr) (n c : Nat) (h : IsW W a n c (wO (10 ^ k))) (hn : n ≤ 1 + k) => dTold_calls false a n c (wO (10 ^ k)) 0 W h (by omega) ⟨by decide, by decide⟩
    simp only [val_words, show formD false (10 ^ k) 0 = tenD k from rfl] at T3
    generalize tenD k = P at *
    go_enter Tryz.func52, Tryz.ntmps52
    go_wp2_with fail
    generalize ((w.alloc (.cells #[.bool p.1, .slice a n c, .int .i64 p.2.2] 27)).alloc (.cells #[.bool false, .slice none 0 0, .int .i64 0] 27)) = w0 at *
    refine cM WC.out ?_
    rintro r w9 ⟨rfl, b9⟩
    obtain ⟨bA, Z, x0, x1, x2⟩ := jkAZC3 b9 bA Z x0 x1 x2
    clear b9 WC
    go_wp2_with fail
    refine cM (NC.out _) ?_
    have lb1 := bA.size
    rintro r w1 ⟨_, rfl, ⟨a1, n1, c1, rfl, HN1, hO1⟩, b1⟩
    replace hO1 := hO1.low lb1
    obtain ⟨bA, Z, x0, x1, x2⟩ := jkAZC3 b1 bA Z x0 x1 x2
    clear b1 lb1
    go_wp2_with fail
    refine cM (T3.out _ _ _ _ hO1.1 HN1) ?_
    have lb2 := bA.size
    rintro r w2 ⟨_, rfl, ⟨a2, n2, c2, rfl, HN2, hO2⟩, b2⟩
    replace hO2 := hO2.low lb2
    obtain ⟨bA, Z, x0, x1, x2⟩ := jkAZC3 b2 bA Z x0 x1 x2
    clear b2 lb2
    obtain ⟨z0, z1, z2, f0, f1, f2⟩ := Z
    go_wp2_with fail
    exact bodyPost_ret (v := .tuple #[dyV P.1 a2 n2 c2 P.2.2, .bool true]) (by simp [results, Tryz.results52, go_sem, z0, z1, z2]) rfl ⟨_, rfl, dyE HN2 hO2 z0 z1 z2, bl3 bA (by omega)⟩
   ·have q2' : 23 < N := by omega
    rw [show pwN 3 N true = no3 from by unfold pwN; rw [if_neg (by decide), if_neg (by decide), if_neg (by omega), if_neg (by omega), if_neg (by omega)]]
    unfold no3
    go_enter Tryz.func52, Tryz.ntmps52
    go_wp2_with fail
    generalize ((w.alloc (.cells #[.bool p.1, .slice a n c, .int .i64 p.2.2] 27)).alloc (.cells #[.bool false, .slice none 0 0, .int .i64 0] 27)) = w0 at *
    refine cM WC.out ?_
    rintro r w9 ⟨rfl, b9⟩
    obtain ⟨bA, Z, x0, x1, x2⟩ := jkAZC3 b9 bA Z x0 x1 x2
    clear b9 WC
    obtain ⟨z0, z1, z2, f0, f1, f2⟩ := Z
    go_wp2_with fail
    exact bodyPost_ret (v := .tuple #[dyV false none 0 0 0, .bool false]) (by simp [results, Tryz.results52, go_sem, z0, z1, z2]) rfl ⟨_, rfl, dyQ_zero _ _, by first | exact bA | exact bl3 bA (by omega)⟩
  ·have q1' : N < 0 := by omega
   rw [show pwN 3 N true = no3 from by unfold pwN; rw [if_neg (by decide), if_neg (by decide), if_neg (by omega), if_neg (by omega), if_neg (by omega)]]
   unfold no3
   go_enter Tryz.func52, Tryz.ntmps52
   go_wp2_with fail
   generalize ((w.alloc (.cells #[.bool p.1, .slice a n c, .int .i64 p.2.2] 27)).alloc (.cells #[.bool false, .slice none 0 0, .int .i64 0] 27)) = w0 at *
   refine cM WC.out ?_
   rintro r w9 ⟨rfl, b9⟩
   obtain ⟨bA, Z, x0, x1, x2⟩ := jkAZC3 b9 bA Z x0 x1 x2
   clear b9 WC
   obtain ⟨z0, z1, z2, f0, f1, f2⟩ := Z
   go_wp2_with fail
   exact bodyPost_ret (v := .tuple #[dyV false none 0 0 0, .bool false]) (by simp [results, Tryz.results52, go_sem, z0, z1, z2]) rfl ⟨_, rfl, dyQ_zero _ _, by first | exact bA | exact bl3 bA (by omega)⟩
 by_cases B6 : f = 6
 ·subst B6
  clear PC LP
  by_cases q1 : 0 ≤ N
  ·by_cases q2 : N ≤ 16
   ·rw [show pwN 6 N true = (ls1D (tenD N.toNat), true) from by unfold pwN; rw [if_neg (by decide), if_neg (by decide), if_neg (by omega), if_neg (by omega), if_pos ⟨rfl, q1, q2⟩]]
    obtain ⟨k, rfl⟩ : ∃ k : Nat, N = (k : Int) := ⟨N.toNat, by omega⟩
    rw [Int.toNat_natCast]
    have NC : Hid _ := fun W => dTen_calls k (by omega) W
    have LC : Hid _ := fun (W : World) (a : Option Addr) (n c : Nat) (h : IsW W a n c (wO (10 ^ k))) (hn : n ≤ 1 + k) => dLess1_calls false a n c (wO (10 ^ k)) 0 W h (by omega) ⟨by decide, by decide⟩
    simp only [val_words, show formD false (10 ^ k) 0 = tenD k from rfl] at LC
    have o1 := ls_ok5 k (by omega)
    generalize ls1D (tenD k) = P at *
    have T3 : Hid _ := fun (W : World) (a : Option Addr) (n c : Nat) (h : IsW W a n c (wO P.2.1)) (hn : n ≤ 1024) => dToldE P a n c W h hn o1
    have L3 : Hid _ := okE_len o1
    clear o1
    go_enter Tryz.func52, Tryz.ntmps52
    go_wp2_with fail
    generalize ((w.alloc (.cells #[.bool p.1, .slice a n c, .int .i64 p.2.2] 27)).alloc (.cells #[.bool false, .slice none 0 0, .int .i64 0] 27)) = w0 at *
    refine cM WC.out ?_
    rintro r w9 ⟨rfl, b9⟩
    obtain ⟨bA, Z, x0, x1, x2⟩ := jkAZC3 b9 bA Z x0 x1 x2
    clear b9 WC
    go_wp2_with fail
    refine cM (NC.out _) ?_
    have lb1 := bA.size
    rintro r w1 ⟨_, rfl, ⟨a1, n1, c1, rfl, HN1, hO1⟩, b1⟩
    replace hO1 := hO1.low lb1
    obtain ⟨bA, Z, x0, x1, x2⟩ := jkAZC3 b1 bA Z x0 x1 x2
    clear b1 lb1
    go_wp2_with fail
    refine cM (LC.out _ _ _ _ hO1.1 HN1) ?_
    have lb2 := bA.size
    rintro r w2 ⟨_, rfl, ⟨a2, n2, c2, rfl, HN2, hO2⟩, b2⟩
    replace hO2 := hO2.low lb2
    obtain ⟨bA, Z, x0, x1, x2⟩ := jkAZC3 b2 bA Z x0 x1 x2
    clear b2 lb2
    go_wp2_with fail
    have hn2 : n2 ≤ 1024 := by have := HN2.out; have := L3.out; omega
    refine cM (T3.out _ _ _ _ hO2.1 hn2) ?_
    have lb3 := bA.size
    rintro r w3 ⟨_, rfl, ⟨a3, n3, c3, rfl, HN3, hO3⟩, b3⟩
    replace hO3 := hO3.low lb3
    obtain ⟨bA, Z, x0, x1, x2⟩ := jkAZC3 b3 bA Z x0 x1 x2
    clear b3 lb3
    obtain ⟨z0, z1, z2, f0, f1, f2⟩ := Z
    go_wp2_with fail
    exact bodyPost_ret (v := .tuple #[dyV P.1 a3 n3 c3 P.2.2, .bool true]) (by simp [results, Tryz.results52, go_sem, z0, z1, z2]) rfl ⟨_, rfl, dyE HN3 hO3 z0 z1 z2, bl3 bA (by omega)⟩
   ·have q2' : 16 < N := by omega
    rw [show pwN 6 N true = no3 from by unfold pwN; rw [if_neg (by decide), if_neg (by decide), if_neg (by omega), if_neg (by omega), if_neg (by omega)]]
    unfold no3
    go_enter Tryz.func52, Tryz.ntmps52
    go_wp2_with fail
    generalize ((w.alloc (.cells #[.bool p.1, .slice a n c, .int .i64 p.2.2] 27)).alloc (.cells #[.bool false, .slice none 0 0, .int .i64 0] 27)) = w0 at *
    refine cM WC.out ?_
    rintro r w9 ⟨rfl, b9⟩
    obtain ⟨bA, Z, x0, x1, x2⟩ := jkAZC3 b9 bA Z x0 x1 x2
    clear b9 WC
    obtain ⟨z0, z1, z2, f0, f1, f2⟩ := Z
    go_wp2_with fail
    exact bodyPost_ret (v := .tuple #[dyV false none 0 0 0, .bool false]) (by simp [results, Tryz.results52, go_sem, z0, z1, z2]) rfl ⟨_, rfl, dyQ_zero _ _, by first | exact bA | exact bl3 bA (by omega)⟩
  ·have q1' : N < 0 := by omega
   rw [show pwN 6 N true = no3 from by unfold pwN; rw [if_neg (by decide), if_neg (by decide), if_neg (by omega), if_neg (by omega), if_neg (by omega)]]
   unfold no3
   go_enter Tryz.func52, Tryz.ntmps52
   go_wp2_with fail
   generalize ((w.alloc (.cells #[.bool p.1, .slice a n c, .int .i64 p.2.2] 27)).alloc (.cells #[.bool false, .slice none 0 0, .int .i64 0] 27)) = w0 at *
   refine cM WC.out ?_
   rintro r w9 ⟨rfl, b9⟩
   obtain ⟨bA, Z, x0, x1, x2⟩ := jkAZC3 b9 bA Z x0 x1 x2
   clear b9 WC
   obtain ⟨z0, z1, z2, f0, f1, f2⟩ := Z
   go_wp2_with fail
   exact bodyPost_ret (v := .tuple #[dyV false none 0 0 0, .bool false]) (by simp [results, Tryz.results52, go_sem, z0, z1, z2]) rfl ⟨_, rfl, dyQ_zero _ _, by first | exact bA | exact bl3 bA (by omega)⟩
 ·rw [show pwN f N true = no3 from by unfold pwN; rw [if_neg (by decide), if_neg A, if_neg (by omega), if_neg (by omega), if_neg (by omega)]]
  unfold no3
  clear PC LP
  go_enter Tryz.func52, Tryz.ntmps52
  go_wp2_with fail
  generalize ((w.alloc (.cells #[.bool p.1, .slice a n c, .int .i64 p.2.2] 27)).alloc (.cells #[.bool false, .slice none 0 0, .int .i64 0] 27)) = w0 at *
  refine cM WC.out ?_
  rintro r w9 ⟨rfl, b9⟩
  obtain ⟨bA, Z, x0, x1, x2⟩ := jkAZC3 b9 bA Z x0 x1 x2
  clear b9 WC
  obtain ⟨z0, z1, z2, f0, f1, f2⟩ := Z
  go_wp2_with fail
  exact bodyPost_ret (v := .tuple #[dyV false none 0 0 0, .bool false]) (by simp [results, Tryz.results52, go_sem, z0, z1, z2]) rfl ⟨_, rfl, dyQ_zero _ _, by first | exact bA | exact bl3 bA (by omega)⟩
theorem dTurns_calls (f : Int) (p : E3) (a : Option Addr) (n c : Nat) (w : World) (h : IsW w a n c (wO p.2.1)) (hn : n ≤ 1024) (hp : OkE p) (hf : f = 16 ∨ f = 17 ∨ f = 18) :
  Calls Tryz.prog 54 #[.int .u8 f, dyV p.1 a n c p.2.2] w fun r w' => ∃ v, r = .returned (.tuple #[v, .bool (trD f p).2]) ∧ DyQ w.heap.size w' v (trD f p).1 ∧ Below w.heap.size w w' := by
 have bA : Below w.heap.size w ((w.alloc (.cells #[.bool p.1, .slice a n c, .int .i64 p.2.2] 27)).alloc (.cells #[.bool false, .slice none 0 0, .int .i64 0] 27)) := nT (below_one _ _) (below_one _ _)
 have Z := zrB w p.1 a n c p.2.2
 obtain ⟨x0, x1, x2⟩ := fX20 w p a n c _ rfl
 have QC : Hid _ := dQuart_calls p.1 p.2.1 p.2.2 a n c _ (h.keep bA) hn hp
 have hw : (quD p).2 = true → 0 ≤ (quD p).1 ∧ (quD p).1 < 8 := fun q => by
  unfold quD at q ⊢
  split at q
  ·cases q
  ·rename_i k; rw [if_neg k]; simp only; omega
 rw [trN_eq]
 generalize hW : quD p = W at *
 obtain ⟨N, B⟩ := W
 simp only at QC hw ⊢
 clear hW h hn hp
 cases B with
 | false =>
  rw [show trN f N false = no3 from rfl]
  unfold no3
  clear hw
  go_enter Tryz.func54, Tryz.ntmps54
  go_wp2_with fail
  generalize ((w.alloc (.cells #[.bool p.1, .slice a n c, .int .i64 p.2.2] 27)).alloc (.cells #[.bool false, .slice none 0 0, .int .i64 0] 27)) = w0 at *
  refine cM QC.out ?_
  rintro r w9 ⟨rfl, b9⟩
  obtain ⟨bA, Z, x0, x1, x2⟩ := jkAZC3 b9 bA Z x0 x1 x2
  clear b9 QC
  obtain ⟨z0, z1, z2, f0, f1, f2⟩ := Z
  go_wp2_with fail
  exact bodyPost_ret (v := .tuple #[dyV false none 0 0 0, .bool false]) (by simp [results, Tryz.results54, go_sem, z0, z1, z2]) rfl ⟨_, rfl, dyQ_zero _ _, by first | exact bA | exact bl3 bA (by omega)⟩
 | true =>
 have hN := hw rfl
 have hN8 : N = 0 ∨ N = 1 ∨ N = 2 ∨ N = 3 ∨ N = 4 ∨ N = 5 ∨ N = 6 ∨ N = 7 := by omega
 clear hw hN
 have IC : Hid (∀ (k : Int) (_ : -8 ≤ k ∧ k ≤ 8) (W : World), Calls Tryz.prog 22 #[.int .i64 k] W fun r w' => ∃ v', r = .returned v' ∧ DyQ W.heap.size w' v' (intD k) ∧ Below W.heap.size W w') := fun k hk W => qint_calls k (by omega) W
 have TC : Hid (∀ (k : Int) (_ : -8 ≤ k ∧ k ≤ 8) (W : World) (a : Option Addr) (n c : Nat) (h : IsW W a n c (wO (intD k).2.1)) (hn : n ≤ 1024), Calls Tryz.prog 86 #[dyV (intD k).1 a n c (intD k).2.2] W fun r w' => ∃ v, r = .returned (.tuple #[v, .bool true]) ∧ DyQ W.heap.size w' v (intD k) ∧ Below W.heap.size W w') := fun k hk W a n c h hn => dToldE (intD k) a n c W h hn (int_ok k (by omega))
 have LC : Hid (∀ (k : Int) (_ : -8 ≤ k ∧ k ≤ 8), (wO (intD k).2.1).length ≤ 1024) := fun k hk => okE_len (int_ok k (by omega))
 rcases hf with rfl | rfl | rfl
 ·rcases hN8 with rfl | rfl | rfl | rfl | rfl | rfl | rfl | rfl
  ·rw [show trN 16 0 true = (intD 0, true) from rfl]
   replace IC : Hid _ := IC.out 0 ⟨by decide, by decide⟩
   replace TC : Hid _ := TC.out 0 ⟨by decide, by decide⟩
   replace LC : Hid _ := LC.out 0 ⟨by decide, by decide⟩
   generalize intD 0 = P at *
   go_enter Tryz.func54, Tryz.ntmps54
   go_wp2_with fail
   generalize ((w.alloc (.cells #[.bool p.1, .slice a n c, .int .i64 p.2.2] 27)).alloc (.cells #[.bool false, .slice none 0 0, .int .i64 0] 27)) = w0 at *
   refine cM QC.out ?_
   rintro r w9 ⟨rfl, b9⟩
   obtain ⟨bA, Z, x0, x1, x2⟩ := jkAZC3 b9 bA Z x0 x1 x2
   clear b9 QC
   have bB := below_one w9 (.cells #[.int .i64 0, .int .i64 0, .int .i64 1, .int .i64 0, .int .i64 0, .int .i64 0, .int .i64 (-1), .int .i64 0] 2)
   obtain ⟨bA, Z, x0, x1, x2⟩ := jkAZC3 bB bA Z x0 x1 x2
   clear bB
   go_wp2_with fail
   refine cM (IC.out _) ?_
   have lb1 := bA.size
   rintro r w1 ⟨_, rfl, ⟨a1, n1, c1, rfl, HN1, hO1⟩, b1⟩
   replace hO1 := hO1.low lb1
   obtain ⟨bA, Z, x0, x1, x2⟩ := jkAZC3 b1 bA Z x0 x1 x2
   clear b1 lb1
   go_wp2_with fail
   have hn1 : n1 ≤ 1024 := by have := HN1.out; have := LC.out; omega
   refine cM (TC.out _ _ _ _ hO1.1 hn1) ?_
   have lb2 := bA.size
   rintro r w2 ⟨_, rfl, ⟨a2, n2, c2, rfl, HN2, hO2⟩, b2⟩
   replace hO2 := hO2.low lb2
   obtain ⟨bA, Z, x0, x1, x2⟩ := jkAZC3 b2 bA Z x0 x1 x2
   clear b2 lb2
   obtain ⟨z0, z1, z2, f0, f1, f2⟩ := Z
   go_wp2_with fail
   exact bodyPost_ret (v := .tuple #[dyV P.1 a2 n2 c2 P.2.2, .bool true]) (by simp [results, Tryz.results54, go_sem, z0, z1, z2]) rfl ⟨_, rfl, dyE HN2 hO2 z0 z1 z2, bl3 bA (by omega)⟩
  ·rw [show trN 16 1 true = no3 from rfl]
   unfold no3
   clear IC TC LC
   go_enter Tryz.func54, Tryz.ntmps54
   go_wp2_with fail
   generalize ((w.alloc (.cells #[.bool p.1, .slice a n c, .int .i64 p.2.2] 27)).alloc (.cells #[.bool false, .slice none 0 0, .int .i64 0] 27)) = w0 at *
   refine cM QC.out ?_
   rintro r w9 ⟨rfl, b9⟩
   obtain ⟨bA, Z, x0, x1, x2⟩ := jkAZC3 b9 bA Z x0 x1 x2
   clear b9 QC
   obtain ⟨z0, z1, z2, f0, f1, f2⟩ := Z
   go_wp2_with fail
   exact bodyPost_ret (v := .tuple #[dyV false none 0 0 0, .bool false]) (by simp [results, Tryz.results54, go_sem, z0, z1, z2]) rfl ⟨_, rfl, dyQ_zero _ _, by first | exact bA | exact bl3 bA (by omega)⟩
  ·rw [show trN 16 2 true = (intD 1, true) from rfl]
   replace IC : Hid _ := IC.out 1 ⟨by decide, by decide⟩
   replace TC : Hid _ := TC.out 1 ⟨by decide, by decide⟩
   replace LC : Hid _ := LC.out 1 ⟨by decide, by decide⟩
   generalize intD 1 = P at *
   go_enter Tryz.func54, Tryz.ntmps54
   go_wp2_with fail
   generalize ((w.alloc (.cells #[.bool p.1, .slice a n c, .int .i64 p.2.2] 27)).alloc (.cells #[.bool false, .slice none 0 0, .int .i64 0] 27)) = w0 at *
   refine cM QC.out ?_
   rintro r w9 ⟨rfl, b9⟩
   obtain ⟨bA, Z, x0, x1, x2⟩ := jkAZC3 b9 bA Z x0 x1 x2
   clear b9 QC
   have bB := below_one w9 (.cells #[.int .i64 0, .int .i64 0, .int .i64 1, .int .i64 0, .int .i64 0, .int .i64 0, .int .i64 (-1), .int .i64 0] 2)
   obtain ⟨bA, Z, x0, x1, x2⟩ := jkAZC3 bB bA Z x0 x1 x2
   clear bB
   go_wp2_with fail
   refine cM (IC.out _) ?_
   have lb1 := bA.size
   rintro r w1 ⟨_, rfl, ⟨a1, n1, c1, rfl, HN1, hO1⟩, b1⟩
   replace hO1 := hO1.low lb1
   obtain ⟨bA, Z, x0, x1, x2⟩ := jkAZC3 b1 bA Z x0 x1 x2
   clear b1 lb1
   go_wp2_with fail
   have hn1 : n1 ≤ 1024 := by have := HN1.out; have := LC.out; omega
   refine cM (TC.out _ _ _ _ hO1.1 hn1) ?_
   have lb2 := bA.size
   rintro r w2 ⟨_, rfl, ⟨a2, n2, c2, rfl, HN2, hO2⟩, b2⟩
   replace hO2 := hO2.low lb2
   obtain ⟨bA, Z, x0, x1, x2⟩ := jkAZC3 b2 bA Z x0 x1 x2
   clear b2 lb2
   obtain ⟨z0, z1, z2, f0, f1, f2⟩ := Z
   go_wp2_with fail
   exact bodyPost_ret (v := .tuple #[dyV P.1 a2 n2 c2 P.2.2, .bool true]) (by simp [results, Tryz.results54, go_sem, z0, z1, z2]) rfl ⟨_, rfl, dyE HN2 hO2 z0 z1 z2, bl3 bA (by omega)⟩
  ·rw [show trN 16 3 true = no3 from rfl]
   unfold no3
   clear IC TC LC
   go_enter Tryz.func54, Tryz.ntmps54
   go_wp2_with fail
   generalize ((w.alloc (.cells #[.bool p.1, .slice a n c, .int .i64 p.2.2] 27)).alloc (.cells #[.bool false, .slice none 0 0, .int .i64 0] 27)) = w0 at *
   refine cM QC.out ?_
   rintro r w9 ⟨rfl, b9⟩
   obtain ⟨bA, Z, x0, x1, x2⟩ := jkAZC3 b9 bA Z x0 x1 x2
   clear b9 QC
   obtain ⟨z0, z1, z2, f0, f1, f2⟩ := Z
   go_wp2_with fail
   exact bodyPost_ret (v := .tuple #[dyV false none 0 0 0, .bool false]) (by simp [results, Tryz.results54, go_sem, z0, z1, z2]) rfl ⟨_, rfl, dyQ_zero _ _, by first | exact bA | exact bl3 bA (by omega)⟩
  ·rw [show trN 16 4 true = (intD 0, true) from rfl]
   replace IC : Hid _ := IC.out 0 ⟨by decide, by decide⟩
   replace TC : Hid _ := TC.out 0 ⟨by decide, by decide⟩
   replace LC : Hid _ := LC.out 0 ⟨by decide, by decide⟩
   generalize intD 0 = P at *
   go_enter Tryz.func54, Tryz.ntmps54
   go_wp2_with fail
   generalize ((w.alloc (.cells #[.bool p.1, .slice a n c, .int .i64 p.2.2] 27)).alloc (.cells #[.bool false, .slice none 0 0, .int .i64 0] 27)) = w0 at *
   refine cM QC.out ?_
   rintro r w9 ⟨rfl, b9⟩
   obtain ⟨bA, Z, x0, x1, x2⟩ := jkAZC3 b9 bA Z x0 x1 x2
   clear b9 QC
   have bB := below_one w9 (.cells #[.int .i64 0, .int .i64 0, .int .i64 1, .int .i64 0, .int .i64 0, .int .i64 0, .int .i64 (-1), .int .i64 0] 2)
   obtain ⟨bA, Z, x0, x1, x2⟩ := jkAZC3 bB bA Z x0 x1 x2
   clear bB
   go_wp2_with fail
   refine cM (IC.out _) ?_
   have lb1 := bA.size
   rintro r w1 ⟨_, rfl, ⟨a1, n1, c1, rfl, HN1, hO1⟩, b1⟩
   replace hO1 := hO1.low lb1
   obtain ⟨bA, Z, x0, x1, x2⟩ := jkAZC3 b1 bA Z x0 x1 x2
   clear b1 lb1
   go_wp2_with fail
   have hn1 : n1 ≤ 1024 := by have := HN1.out; have := LC.out; omega
   refine cM (TC.out _ _ _ _ hO1.1 hn1) ?_
   have lb2 := bA.size
   rintro r w2 ⟨_, rfl, ⟨a2, n2, c2, rfl, HN2, hO2⟩, b2⟩
   replace hO2 := hO2.low lb2
   obtain ⟨bA, Z, x0, x1, x2⟩ := jkAZC3 b2 bA Z x0 x1 x2
   clear b2 lb2
   obtain ⟨z0, z1, z2, f0, f1, f2⟩ := Z
   go_wp2_with fail
   exact bodyPost_ret (v := .tuple #[dyV P.1 a2 n2 c2 P.2.2, .bool true]) (by simp [results, Tryz.results54, go_sem, z0, z1, z2]) rfl ⟨_, rfl, dyE HN2 hO2 z0 z1 z2, bl3 bA (by omega)⟩
  ·rw [show trN 16 5 true = no3 from rfl]
   unfold no3
   clear IC TC LC
   go_enter Tryz.func54, Tryz.ntmps54
   go_wp2_with fail
   generalize ((w.alloc (.cells #[.bool p.1, .slice a n c, .int .i64 p.2.2] 27)).alloc (.cells #[.bool false, .slice none 0 0, .int .i64 0] 27)) = w0 at *
   refine cM QC.out ?_
   rintro r w9 ⟨rfl, b9⟩
   obtain ⟨bA, Z, x0, x1, x2⟩ := jkAZC3 b9 bA Z x0 x1 x2
   clear b9 QC
   obtain ⟨z0, z1, z2, f0, f1, f2⟩ := Z
   go_wp2_with fail
   exact bodyPost_ret (v := .tuple #[dyV false none 0 0 0, .bool false]) (by simp [results, Tryz.results54, go_sem, z0, z1, z2]) rfl ⟨_, rfl, dyQ_zero _ _, by first | exact bA | exact bl3 bA (by omega)⟩
  ·rw [show trN 16 6 true = (intD (-1), true) from rfl]
   replace IC : Hid _ := IC.out (-1) ⟨by decide, by decide⟩
   replace TC : Hid _ := TC.out (-1) ⟨by decide, by decide⟩
   replace LC : Hid _ := LC.out (-1) ⟨by decide, by decide⟩
   generalize intD (-1) = P at *
   go_enter Tryz.func54, Tryz.ntmps54
   go_wp2_with fail
   generalize ((w.alloc (.cells #[.bool p.1, .slice a n c, .int .i64 p.2.2] 27)).alloc (.cells #[.bool false, .slice none 0 0, .int .i64 0] 27)) = w0 at *
   refine cM QC.out ?_
   rintro r w9 ⟨rfl, b9⟩
   obtain ⟨bA, Z, x0, x1, x2⟩ := jkAZC3 b9 bA Z x0 x1 x2
   clear b9 QC
   have bB := below_one w9 (.cells #[.int .i64 0, .int .i64 0, .int .i64 1, .int .i64 0, .int .i64 0, .int .i64 0, .int .i64 (-1), .int .i64 0] 2)
   obtain ⟨bA, Z, x0, x1, x2⟩ := jkAZC3 bB bA Z x0 x1 x2
   clear bB
   go_wp2_with fail
   refine cM (IC.out _) ?_
   have lb1 := bA.size
   rintro r w1 ⟨_, rfl, ⟨a1, n1, c1, rfl, HN1, hO1⟩, b1⟩
   replace hO1 := hO1.low lb1
   obtain ⟨bA, Z, x0, x1, x2⟩ := jkAZC3 b1 bA Z x0 x1 x2
   clear b1 lb1
   go_wp2_with fail
   have hn1 : n1 ≤ 1024 := by have := HN1.out; have := LC.out; omega
   refine cM (TC.out _ _ _ _ hO1.1 hn1) ?_
   have lb2 := bA.size
   rintro r w2 ⟨_, rfl, ⟨a2, n2, c2, rfl, HN2, hO2⟩, b2⟩
   replace hO2 := hO2.low lb2
   obtain ⟨bA, Z, x0, x1, x2⟩ := jkAZC3 b2 bA Z x0 x1 x2
   clear b2 lb2
   obtain ⟨z0, z1, z2, f0, f1, f2⟩ := Z
   go_wp2_with fail
   exact bodyPost_ret (v := .tuple #[dyV P.1 a2 n2 c2 P.2.2, .bool true]) (by simp [results, Tryz.results54, go_sem, z0, z1, z2]) rfl ⟨_, rfl, dyE HN2 hO2 z0 z1 z2, bl3 bA (by omega)⟩
  ·rw [show trN 16 7 true = no3 from rfl]
   unfold no3
   clear IC TC LC
   go_enter Tryz.func54, Tryz.ntmps54
   go_wp2_with fail
   generalize ((w.alloc (.cells #[.bool p.1, .slice a n c, .int .i64 p.2.2] 27)).alloc (.cells #[.bool false, .slice none 0 0, .int .i64 0] 27)) = w0 at *
   refine cM QC.out ?_
   rintro r w9 ⟨rfl, b9⟩
   obtain ⟨bA, Z, x0, x1, x2⟩ := jkAZC3 b9 bA Z x0 x1 x2
   clear b9 QC
   obtain ⟨z0, z1, z2, f0, f1, f2⟩ := Z
   go_wp2_with fail
   exact bodyPost_ret (v := .tuple #[dyV false none 0 0 0, .bool false]) (by simp [results, Tryz.results54, go_sem, z0, z1, z2]) rfl ⟨_, rfl, dyQ_zero _ _, by first | exact bA | exact bl3 bA (by omega)⟩
 ·rcases hN8 with rfl | rfl | rfl | rfl | rfl | rfl | rfl | rfl
  ·rw [show trN 17 0 true = (intD 1, true) from rfl]
   replace IC : Hid _ := IC.out 1 ⟨by decide, by decide⟩
   replace TC : Hid _ := TC.out 1 ⟨by decide, by decide⟩
   replace LC : Hid _ := LC.out 1 ⟨by decide, by decide⟩
   generalize intD 1 = P at *
   go_enter Tryz.func54, Tryz.ntmps54
   go_wp2_with fail
   generalize ((w.alloc (.cells #[.bool p.1, .slice a n c, .int .i64 p.2.2] 27)).alloc (.cells #[.bool false, .slice none 0 0, .int .i64 0] 27)) = w0 at *
   refine cM QC.out ?_
   rintro r w9 ⟨rfl, b9⟩
   obtain ⟨bA, Z, x0, x1, x2⟩ := jkAZC3 b9 bA Z x0 x1 x2
   clear b9 QC
   have bB := below_one w9 (.cells #[.int .i64 0, .int .i64 0, .int .i64 1, .int .i64 0, .int .i64 0, .int .i64 0, .int .i64 (-1), .int .i64 0] 2)
   obtain ⟨bA, Z, x0, x1, x2⟩ := jkAZC3 bB bA Z x0 x1 x2
   clear bB
   go_wp2_with fail
   refine cM (IC.out _) ?_
   have lb1 := bA.size
   rintro r w1 ⟨_, rfl, ⟨a1, n1, c1, rfl, HN1, hO1⟩, b1⟩
   replace hO1 := hO1.low lb1
   obtain ⟨bA, Z, x0, x1, x2⟩ := jkAZC3 b1 bA Z x0 x1 x2
   clear b1 lb1
   go_wp2_with fail
   have hn1 : n1 ≤ 1024 := by have := HN1.out; have := LC.out; omega
   refine cM (TC.out _ _ _ _ hO1.1 hn1) ?_
   have lb2 := bA.size
   rintro r w2 ⟨_, rfl, ⟨a2, n2, c2, rfl, HN2, hO2⟩, b2⟩
   replace hO2 := hO2.low lb2
   obtain ⟨bA, Z, x0, x1, x2⟩ := jkAZC3 b2 bA Z x0 x1 x2
   clear b2 lb2
   obtain ⟨z0, z1, z2, f0, f1, f2⟩ := Z
   go_wp2_with fail
   exact bodyPost_ret (v := .tuple #[dyV P.1 a2 n2 c2 P.2.2, .bool true]) (by simp [results, Tryz.results54, go_sem, z0, z1, z2]) rfl ⟨_, rfl, dyE HN2 hO2 z0 z1 z2, bl3 bA (by omega)⟩
  ·rw [show trN 17 1 true = no3 from rfl]
   unfold no3
   clear IC TC LC
   go_enter Tryz.func54, Tryz.ntmps54
   go_wp2_with fail
   generalize ((w.alloc (.cells #[.bool p.1, .slice a n c, .int .i64 p.2.2] 27)).alloc (.cells #[.bool false, .slice none 0 0, .int .i64 0] 27)) = w0 at *
   refine cM QC.out ?_
   rintro r w9 ⟨rfl, b9⟩
   obtain ⟨bA, Z, x0, x1, x2⟩ := jkAZC3 b9 bA Z x0 x1 x2
   clear b9 QC
   obtain ⟨z0, z1, z2, f0, f1, f2⟩ := Z
   go_wp2_with fail
   exact bodyPost_ret (v := .tuple #[dyV false none 0 0 0, .bool false]) (by simp [results, Tryz.results54, go_sem, z0, z1, z2]) rfl ⟨_, rfl, dyQ_zero _ _, by first | exact bA | exact bl3 bA (by omega)⟩
  ·rw [show trN 17 2 true = (intD 0, true) from rfl]
   replace IC : Hid _ := IC.out 0 ⟨by decide, by decide⟩
   replace TC : Hid _ := TC.out 0 ⟨by decide, by decide⟩
   replace LC : Hid _ := LC.out 0 ⟨by decide, by decide⟩
   generalize intD 0 = P at *
   go_enter Tryz.func54, Tryz.ntmps54
   go_wp2_with fail
   generalize ((w.alloc (.cells #[.bool p.1, .slice a n c, .int .i64 p.2.2] 27)).alloc (.cells #[.bool false, .slice none 0 0, .int .i64 0] 27)) = w0 at *
   refine cM QC.out ?_
   rintro r w9 ⟨rfl, b9⟩
   obtain ⟨bA, Z, x0, x1, x2⟩ := jkAZC3 b9 bA Z x0 x1 x2
   clear b9 QC
   have bB := below_one w9 (.cells #[.int .i64 0, .int .i64 0, .int .i64 1, .int .i64 0, .int .i64 0, .int .i64 0, .int .i64 (-1), .int .i64 0] 2)
   obtain ⟨bA, Z, x0, x1, x2⟩ := jkAZC3 bB bA Z x0 x1 x2
   clear bB
   go_wp2_with fail
   refine cM (IC.out _) ?_
   have lb1 := bA.size
   rintro r w1 ⟨_, rfl, ⟨a1, n1, c1, rfl, HN1, hO1⟩, b1⟩
   replace hO1 := hO1.low lb1
   obtain ⟨bA, Z, x0, x1, x2⟩ := jkAZC3 b1 bA Z x0 x1 x2
   clear b1 lb1
   go_wp2_with fail
   have hn1 : n1 ≤ 1024 := by have := HN1.out; have := LC.out; omega
   refine cM (TC.out _ _ _ _ hO1.1 hn1) ?_
   have lb2 := bA.size
   rintro r w2 ⟨_, rfl, ⟨a2, n2, c2, rfl, HN2, hO2⟩, b2⟩
   replace hO2 := hO2.low lb2
   obtain ⟨bA, Z, x0, x1, x2⟩ := jkAZC3 b2 bA Z x0 x1 x2
   clear b2 lb2
   obtain ⟨z0, z1, z2, f0, f1, f2⟩ := Z
   go_wp2_with fail
   exact bodyPost_ret (v := .tuple #[dyV P.1 a2 n2 c2 P.2.2, .bool true]) (by simp [results, Tryz.results54, go_sem, z0, z1, z2]) rfl ⟨_, rfl, dyE HN2 hO2 z0 z1 z2, bl3 bA (by omega)⟩
  ·rw [show trN 17 3 true = no3 from rfl]
   unfold no3
   clear IC TC LC
   go_enter Tryz.func54, Tryz.ntmps54
   go_wp2_with fail
   generalize ((w.alloc (.cells #[.bool p.1, .slice a n c, .int .i64 p.2.2] 27)).alloc (.cells #[.bool false, .slice none 0 0, .int .i64 0] 27)) = w0 at *
   refine cM QC.out ?_
   rintro r w9 ⟨rfl, b9⟩
   obtain ⟨bA, Z, x0, x1, x2⟩ := jkAZC3 b9 bA Z x0 x1 x2
   clear b9 QC
   obtain ⟨z0, z1, z2, f0, f1, f2⟩ := Z
   go_wp2_with fail
   exact bodyPost_ret (v := .tuple #[dyV false none 0 0 0, .bool false]) (by simp [results, Tryz.results54, go_sem, z0, z1, z2]) rfl ⟨_, rfl, dyQ_zero _ _, by first | exact bA | exact bl3 bA (by omega)⟩
  ·rw [show trN 17 4 true = (intD (-1), true) from rfl]
   replace IC : Hid _ := IC.out (-1) ⟨by decide, by decide⟩
   replace TC : Hid _ := TC.out (-1) ⟨by decide, by decide⟩
   replace LC : Hid _ := LC.out (-1) ⟨by decide, by decide⟩
   generalize intD (-1) = P at *
   go_enter Tryz.func54, Tryz.ntmps54
   go_wp2_with fail
   generalize ((w.alloc (.cells #[.bool p.1, .slice a n c, .int .i64 p.2.2] 27)).alloc (.cells #[.bool false, .slice none 0 0, .int .i64 0] 27)) = w0 at *
   refine cM QC.out ?_
   rintro r w9 ⟨rfl, b9⟩
   obtain ⟨bA, Z, x0, x1, x2⟩ := jkAZC3 b9 bA Z x0 x1 x2
   clear b9 QC
   have bB := below_one w9 (.cells #[.int .i64 0, .int .i64 0, .int .i64 1, .int .i64 0, .int .i64 0, .int .i64 0, .int .i64 (-1), .int .i64 0] 2)
   obtain ⟨bA, Z, x0, x1, x2⟩ := jkAZC3 bB bA Z x0 x1 x2
   clear bB
   go_wp2_with fail
   refine cM (IC.out _) ?_
   have lb1 := bA.size
   rintro r w1 ⟨_, rfl, ⟨a1, n1, c1, rfl, HN1, hO1⟩, b1⟩
   replace hO1 := hO1.low lb1
   obtain ⟨bA, Z, x0, x1, x2⟩ := jkAZC3 b1 bA Z x0 x1 x2
   clear b1 lb1
   go_wp2_with fail
   have hn1 : n1 ≤ 1024 := by have := HN1.out; have := LC.out; omega
   refine cM (TC.out _ _ _ _ hO1.1 hn1) ?_
   have lb2 := bA.size
   rintro r w2 ⟨_, rfl, ⟨a2, n2, c2, rfl, HN2, hO2⟩, b2⟩
   replace hO2 := hO2.low lb2
   obtain ⟨bA, Z, x0, x1, x2⟩ := jkAZC3 b2 bA Z x0 x1 x2
   clear b2 lb2
   obtain ⟨z0, z1, z2, f0, f1, f2⟩ := Z
   go_wp2_with fail
   exact bodyPost_ret (v := .tuple #[dyV P.1 a2 n2 c2 P.2.2, .bool true]) (by simp [results, Tryz.results54, go_sem, z0, z1, z2]) rfl ⟨_, rfl, dyE HN2 hO2 z0 z1 z2, bl3 bA (by omega)⟩
  ·rw [show trN 17 5 true = no3 from rfl]
   unfold no3
   clear IC TC LC
   go_enter Tryz.func54, Tryz.ntmps54
   go_wp2_with fail
   generalize ((w.alloc (.cells #[.bool p.1, .slice a n c, .int .i64 p.2.2] 27)).alloc (.cells #[.bool false, .slice none 0 0, .int .i64 0] 27)) = w0 at *
   refine cM QC.out ?_
   rintro r w9 ⟨rfl, b9⟩
   obtain ⟨bA, Z, x0, x1, x2⟩ := jkAZC3 b9 bA Z x0 x1 x2
   clear b9 QC
   obtain ⟨z0, z1, z2, f0, f1, f2⟩ := Z
   go_wp2_with fail
   exact bodyPost_ret (v := .tuple #[dyV false none 0 0 0, .bool false]) (by simp [results, Tryz.results54, go_sem, z0, z1, z2]) rfl ⟨_, rfl, dyQ_zero _ _, by first | exact bA | exact bl3 bA (by omega)⟩
  ·rw [show trN 17 6 true = (intD 0, true) from rfl]
   replace IC : Hid _ := IC.out 0 ⟨by decide, by decide⟩
   replace TC : Hid _ := TC.out 0 ⟨by decide, by decide⟩
   replace LC : Hid _ := LC.out 0 ⟨by decide, by decide⟩
   generalize intD 0 = P at *
   go_enter Tryz.func54, Tryz.ntmps54
   go_wp2_with fail
   generalize ((w.alloc (.cells #[.bool p.1, .slice a n c, .int .i64 p.2.2] 27)).alloc (.cells #[.bool false, .slice none 0 0, .int .i64 0] 27)) = w0 at *
   refine cM QC.out ?_
   rintro r w9 ⟨rfl, b9⟩
   obtain ⟨bA, Z, x0, x1, x2⟩ := jkAZC3 b9 bA Z x0 x1 x2
   clear b9 QC
   have bB := below_one w9 (.cells #[.int .i64 0, .int .i64 0, .int .i64 1, .int .i64 0, .int .i64 0, .int .i64 0, .int .i64 (-1), .int .i64 0] 2)
   obtain ⟨bA, Z, x0, x1, x2⟩ := jkAZC3 bB bA Z x0 x1 x2
   clear bB
   go_wp2_with fail
   refine cM (IC.out _) ?_
   have lb1 := bA.size
   rintro r w1 ⟨_, rfl, ⟨a1, n1, c1, rfl, HN1, hO1⟩, b1⟩
   replace hO1 := hO1.low lb1
   obtain ⟨bA, Z, x0, x1, x2⟩ := jkAZC3 b1 bA Z x0 x1 x2
   clear b1 lb1
   go_wp2_with fail
   have hn1 : n1 ≤ 1024 := by have := HN1.out; have := LC.out; omega
   refine cM (TC.out _ _ _ _ hO1.1 hn1) ?_
   have lb2 := bA.size
   rintro r w2 ⟨_, rfl, ⟨a2, n2, c2, rfl, HN2, hO2⟩, b2⟩
   replace hO2 := hO2.low lb2
   obtain ⟨bA, Z, x0, x1, x2⟩ := jkAZC3 b2 bA Z x0 x1 x2
   clear b2 lb2
   obtain ⟨z0, z1, z2, f0, f1, f2⟩ := Z
   go_wp2_with fail
   exact bodyPost_ret (v := .tuple #[dyV P.1 a2 n2 c2 P.2.2, .bool true]) (by simp [results, Tryz.results54, go_sem, z0, z1, z2]) rfl ⟨_, rfl, dyE HN2 hO2 z0 z1 z2, bl3 bA (by omega)⟩
  ·rw [show trN 17 7 true = no3 from rfl]
   unfold no3
   clear IC TC LC
   go_enter Tryz.func54, Tryz.ntmps54
   go_wp2_with fail
   generalize ((w.alloc (.cells #[.bool p.1, .slice a n c, .int .i64 p.2.2] 27)).alloc (.cells #[.bool false, .slice none 0 0, .int .i64 0] 27)) = w0 at *
   refine cM QC.out ?_
   rintro r w9 ⟨rfl, b9⟩
   obtain ⟨bA, Z, x0, x1, x2⟩ := jkAZC3 b9 bA Z x0 x1 x2
   clear b9 QC
   obtain ⟨z0, z1, z2, f0, f1, f2⟩ := Z
   go_wp2_with fail
   exact bodyPost_ret (v := .tuple #[dyV false none 0 0 0, .bool false]) (by simp [results, Tryz.results54, go_sem, z0, z1, z2]) rfl ⟨_, rfl, dyQ_zero _ _, by first | exact bA | exact bl3 bA (by omega)⟩
 ·rcases hN8 with rfl | rfl | rfl | rfl | rfl | rfl | rfl | rfl
  ·rw [show trN 18 0 true = (intD 0, true) from rfl]
   replace IC : Hid _ := IC.out 0 ⟨by decide, by decide⟩
   replace TC : Hid _ := TC.out 0 ⟨by decide, by decide⟩
   replace LC : Hid _ := LC.out 0 ⟨by decide, by decide⟩
   generalize intD 0 = P at *
   go_enter Tryz.func54, Tryz.ntmps54
   go_wp2_with fail
   generalize ((w.alloc (.cells #[.bool p.1, .slice a n c, .int .i64 p.2.2] 27)).alloc (.cells #[.bool false, .slice none 0 0, .int .i64 0] 27)) = w0 at *
   refine cM QC.out ?_
   rintro r w9 ⟨rfl, b9⟩
   obtain ⟨bA, Z, x0, x1, x2⟩ := jkAZC3 b9 bA Z x0 x1 x2
   clear b9 QC
   have bB := below_one w9 (.cells #[.int .i64 0, .int .i64 1, .int .i64 0, .int .i64 (-1), .int .i64 0, .int .i64 1, .int .i64 0, .int .i64 (-1)] 2)
   obtain ⟨bA, Z, x0, x1, x2⟩ := jkAZC3 bB bA Z x0 x1 x2
   clear bB
   go_wp2_with fail
   refine cM (IC.out _) ?_
   have lb1 := bA.size
   rintro r w1 ⟨_, rfl, ⟨a1, n1, c1, rfl, HN1, hO1⟩, b1⟩
   replace hO1 := hO1.low lb1
   obtain ⟨bA, Z, x0, x1, x2⟩ := jkAZC3 b1 bA Z x0 x1 x2
   clear b1 lb1
   go_wp2_with fail
   have hn1 : n1 ≤ 1024 := by have := HN1.out; have := LC.out; omega
   refine cM (TC.out _ _ _ _ hO1.1 hn1) ?_
   have lb2 := bA.size
   rintro r w2 ⟨_, rfl, ⟨a2, n2, c2, rfl, HN2, hO2⟩, b2⟩
   replace hO2 := hO2.low lb2
   obtain ⟨bA, Z, x0, x1, x2⟩ := jkAZC3 b2 bA Z x0 x1 x2
   clear b2 lb2
   obtain ⟨z0, z1, z2, f0, f1, f2⟩ := Z
   go_wp2_with fail
   exact bodyPost_ret (v := .tuple #[dyV P.1 a2 n2 c2 P.2.2, .bool true]) (by simp [results, Tryz.results54, go_sem, z0, z1, z2]) rfl ⟨_, rfl, dyE HN2 hO2 z0 z1 z2, bl3 bA (by omega)⟩
  ·rw [show trN 18 1 true = (intD 1, true) from rfl]
   replace IC : Hid _ := IC.out 1 ⟨by decide, by decide⟩
   replace TC : Hid _ := TC.out 1 ⟨by decide, by decide⟩
   replace LC : Hid _ := LC.out 1 ⟨by decide, by decide⟩
   generalize intD 1 = P at *
   go_enter Tryz.func54, Tryz.ntmps54
   go_wp2_with fail
   generalize ((w.alloc (.cells #[.bool p.1, .slice a n c, .int .i64 p.2.2] 27)).alloc (.cells #[.bool false, .slice none 0 0, .int .i64 0] 27)) = w0 at *
   refine cM QC.out ?_
   rintro r w9 ⟨rfl, b9⟩
   obtain ⟨bA, Z, x0, x1, x2⟩ := jkAZC3 b9 bA Z x0 x1 x2
   clear b9 QC
   have bB := below_one w9 (.cells #[.int .i64 0, .int .i64 1, .int .i64 0, .int .i64 (-1), .int .i64 0, .int .i64 1, .int .i64 0, .int .i64 (-1)] 2)
   obtain ⟨bA, Z, x0, x1, x2⟩ := jkAZC3 bB bA Z x0 x1 x2
   clear bB
   go_wp2_with fail
   refine cM (IC.out _) ?_
   have lb1 := bA.size
   rintro r w1 ⟨_, rfl, ⟨a1, n1, c1, rfl, HN1, hO1⟩, b1⟩
   replace hO1 := hO1.low lb1
   obtain ⟨bA, Z, x0, x1, x2⟩ := jkAZC3 b1 bA Z x0 x1 x2
   clear b1 lb1
   go_wp2_with fail
   have hn1 : n1 ≤ 1024 := by have := HN1.out; have := LC.out; omega
   refine cM (TC.out _ _ _ _ hO1.1 hn1) ?_
   have lb2 := bA.size
   rintro r w2 ⟨_, rfl, ⟨a2, n2, c2, rfl, HN2, hO2⟩, b2⟩
   replace hO2 := hO2.low lb2
   obtain ⟨bA, Z, x0, x1, x2⟩ := jkAZC3 b2 bA Z x0 x1 x2
   clear b2 lb2
   obtain ⟨z0, z1, z2, f0, f1, f2⟩ := Z
   go_wp2_with fail
   exact bodyPost_ret (v := .tuple #[dyV P.1 a2 n2 c2 P.2.2, .bool true]) (by simp [results, Tryz.results54, go_sem, z0, z1, z2]) rfl ⟨_, rfl, dyE HN2 hO2 z0 z1 z2, bl3 bA (by omega)⟩
  ·rw [show trN 18 2 true = (intD 0, true) from rfl]
   replace IC : Hid _ := IC.out 0 ⟨by decide, by decide⟩
   replace TC : Hid _ := TC.out 0 ⟨by decide, by decide⟩
   replace LC : Hid _ := LC.out 0 ⟨by decide, by decide⟩
   generalize intD 0 = P at *
   go_enter Tryz.func54, Tryz.ntmps54
   go_wp2_with fail
   generalize ((w.alloc (.cells #[.bool p.1, .slice a n c, .int .i64 p.2.2] 27)).alloc (.cells #[.bool false, .slice none 0 0, .int .i64 0] 27)) = w0 at *
   refine cM QC.out ?_
   rintro r w9 ⟨rfl, b9⟩
   obtain ⟨bA, Z, x0, x1, x2⟩ := jkAZC3 b9 bA Z x0 x1 x2
   clear b9 QC
   have bB := below_one w9 (.cells #[.int .i64 0, .int .i64 1, .int .i64 0, .int .i64 (-1), .int .i64 0, .int .i64 1, .int .i64 0, .int .i64 (-1)] 2)
   obtain ⟨bA, Z, x0, x1, x2⟩ := jkAZC3 bB bA Z x0 x1 x2
   clear bB
   go_wp2_with fail
   refine cM (IC.out _) ?_
   have lb1 := bA.size
   rintro r w1 ⟨_, rfl, ⟨a1, n1, c1, rfl, HN1, hO1⟩, b1⟩
   replace hO1 := hO1.low lb1
   obtain ⟨bA, Z, x0, x1, x2⟩ := jkAZC3 b1 bA Z x0 x1 x2
   clear b1 lb1
   go_wp2_with fail
   have hn1 : n1 ≤ 1024 := by have := HN1.out; have := LC.out; omega
   refine cM (TC.out _ _ _ _ hO1.1 hn1) ?_
   have lb2 := bA.size
   rintro r w2 ⟨_, rfl, ⟨a2, n2, c2, rfl, HN2, hO2⟩, b2⟩
   replace hO2 := hO2.low lb2
   obtain ⟨bA, Z, x0, x1, x2⟩ := jkAZC3 b2 bA Z x0 x1 x2
   clear b2 lb2
   obtain ⟨z0, z1, z2, f0, f1, f2⟩ := Z
   go_wp2_with fail
   exact bodyPost_ret (v := .tuple #[dyV P.1 a2 n2 c2 P.2.2, .bool true]) (by simp [results, Tryz.results54, go_sem, z0, z1, z2]) rfl ⟨_, rfl, dyE HN2 hO2 z0 z1 z2, bl3 bA (by omega)⟩
  ·rw [show trN 18 3 true = (intD (-1), true) from rfl]
   replace IC : Hid _ := IC.out (-1) ⟨by decide, by decide⟩
   replace TC : Hid _ := TC.out (-1) ⟨by decide, by decide⟩
   replace LC : Hid _ := LC.out (-1) ⟨by decide, by decide⟩
   generalize intD (-1) = P at *
   go_enter Tryz.func54, Tryz.ntmps54
   go_wp2_with fail
   generalize ((w.alloc (.cells #[.bool p.1, .slice a n c, .int .i64 p.2.2] 27)).alloc (.cells #[.bool false, .slice none 0 0, .int .i64 0] 27)) = w0 at *
   refine cM QC.out ?_
   rintro r w9 ⟨rfl, b9⟩
   obtain ⟨bA, Z, x0, x1, x2⟩ := jkAZC3 b9 bA Z x0 x1 x2
   clear b9 QC
   have bB := below_one w9 (.cells #[.int .i64 0, .int .i64 1, .int .i64 0, .int .i64 (-1), .int .i64 0, .int .i64 1, .int .i64 0, .int .i64 (-1)] 2)
   obtain ⟨bA, Z, x0, x1, x2⟩ := jkAZC3 bB bA Z x0 x1 x2
   clear bB
   go_wp2_with fail
   refine cM (IC.out _) ?_
   have lb1 := bA.size
   rintro r w1 ⟨_, rfl, ⟨a1, n1, c1, rfl, HN1, hO1⟩, b1⟩
   replace hO1 := hO1.low lb1
   obtain ⟨bA, Z, x0, x1, x2⟩ := jkAZC3 b1 bA Z x0 x1 x2
   clear b1 lb1
   go_wp2_with fail
   have hn1 : n1 ≤ 1024 := by have := HN1.out; have := LC.out; omega
   refine cM (TC.out _ _ _ _ hO1.1 hn1) ?_
   have lb2 := bA.size
   rintro r w2 ⟨_, rfl, ⟨a2, n2, c2, rfl, HN2, hO2⟩, b2⟩
   replace hO2 := hO2.low lb2
   obtain ⟨bA, Z, x0, x1, x2⟩ := jkAZC3 b2 bA Z x0 x1 x2
   clear b2 lb2
   obtain ⟨z0, z1, z2, f0, f1, f2⟩ := Z
   go_wp2_with fail
   exact bodyPost_ret (v := .tuple #[dyV P.1 a2 n2 c2 P.2.2, .bool true]) (by simp [results, Tryz.results54, go_sem, z0, z1, z2]) rfl ⟨_, rfl, dyE HN2 hO2 z0 z1 z2, bl3 bA (by omega)⟩
  ·rw [show trN 18 4 true = (intD 0, true) from rfl]
   replace IC : Hid _ := IC.out 0 ⟨by decide, by decide⟩
   replace TC : Hid _ := TC.out 0 ⟨by decide, by decide⟩
   replace LC : Hid _ := LC.out 0 ⟨by decide, by decide⟩
   generalize intD 0 = P at *
   go_enter Tryz.func54, Tryz.ntmps54
   go_wp2_with fail
   generalize ((w.alloc (.cells #[.bool p.1, .slice a n c, .int .i64 p.2.2] 27)).alloc (.cells #[.bool false, .slice none 0 0, .int .i64 0] 27)) = w0 at *
   refine cM QC.out ?_
   rintro r w9 ⟨rfl, b9⟩
   obtain ⟨bA, Z, x0, x1, x2⟩ := jkAZC3 b9 bA Z x0 x1 x2
   clear b9 QC
   have bB := below_one w9 (.cells #[.int .i64 0, .int .i64 1, .int .i64 0, .int .i64 (-1), .int .i64 0, .int .i64 1, .int .i64 0, .int .i64 (-1)] 2)
   obtain ⟨bA, Z, x0, x1, x2⟩ := jkAZC3 bB bA Z x0 x1 x2
   clear bB
   go_wp2_with fail
   refine cM (IC.out _) ?_
   have lb1 := bA.size
   rintro r w1 ⟨_, rfl, ⟨a1, n1, c1, rfl, HN1, hO1⟩, b1⟩
   replace hO1 := hO1.low lb1
   obtain ⟨bA, Z, x0, x1, x2⟩ := jkAZC3 b1 bA Z x0 x1 x2
   clear b1 lb1
   go_wp2_with fail
   have hn1 : n1 ≤ 1024 := by have := HN1.out; have := LC.out; omega
   refine cM (TC.out _ _ _ _ hO1.1 hn1) ?_
   have lb2 := bA.size
   rintro r w2 ⟨_, rfl, ⟨a2, n2, c2, rfl, HN2, hO2⟩, b2⟩
   replace hO2 := hO2.low lb2
   obtain ⟨bA, Z, x0, x1, x2⟩ := jkAZC3 b2 bA Z x0 x1 x2
   clear b2 lb2
   obtain ⟨z0, z1, z2, f0, f1, f2⟩ := Z
   go_wp2_with fail
   exact bodyPost_ret (v := .tuple #[dyV P.1 a2 n2 c2 P.2.2, .bool true]) (by simp [results, Tryz.results54, go_sem, z0, z1, z2]) rfl ⟨_, rfl, dyE HN2 hO2 z0 z1 z2, bl3 bA (by omega)⟩
  ·rw [show trN 18 5 true = (intD 1, true) from rfl]
   replace IC : Hid _ := IC.out 1 ⟨by decide, by decide⟩
   replace TC : Hid _ := TC.out 1 ⟨by decide, by decide⟩
   replace LC : Hid _ := LC.out 1 ⟨by decide, by decide⟩
   generalize intD 1 = P at *
   go_enter Tryz.func54, Tryz.ntmps54
   go_wp2_with fail
   generalize ((w.alloc (.cells #[.bool p.1, .slice a n c, .int .i64 p.2.2] 27)).alloc (.cells #[.bool false, .slice none 0 0, .int .i64 0] 27)) = w0 at *
   refine cM QC.out ?_
   rintro r w9 ⟨rfl, b9⟩
   obtain ⟨bA, Z, x0, x1, x2⟩ := jkAZC3 b9 bA Z x0 x1 x2
   clear b9 QC
   have bB := below_one w9 (.cells #[.int .i64 0, .int .i64 1, .int .i64 0, .int .i64 (-1), .int .i64 0, .int .i64 1, .int .i64 0, .int .i64 (-1)] 2)
   obtain ⟨bA, Z, x0, x1, x2⟩ := jkAZC3 bB bA Z x0 x1 x2
   clear bB
   go_wp2_with fail
   refine cM (IC.out _) ?_
   have lb1 := bA.size
   rintro r w1 ⟨_, rfl, ⟨a1, n1, c1, rfl, HN1, hO1⟩, b1⟩
   replace hO1 := hO1.low lb1
   obtain ⟨bA, Z, x0, x1, x2⟩ := jkAZC3 b1 bA Z x0 x1 x2
   clear b1 lb1
   go_wp2_with fail
   have hn1 : n1 ≤ 1024 := by have := HN1.out; have := LC.out; omega
   refine cM (TC.out _ _ _ _ hO1.1 hn1) ?_
   have lb2 := bA.size
   rintro r w2 ⟨_, rfl, ⟨a2, n2, c2, rfl, HN2, hO2⟩, b2⟩
   replace hO2 := hO2.low lb2
   obtain ⟨bA, Z, x0, x1, x2⟩ := jkAZC3 b2 bA Z x0 x1 x2
   clear b2 lb2
   obtain ⟨z0, z1, z2, f0, f1, f2⟩ := Z
   go_wp2_with fail
   exact bodyPost_ret (v := .tuple #[dyV P.1 a2 n2 c2 P.2.2, .bool true]) (by simp [results, Tryz.results54, go_sem, z0, z1, z2]) rfl ⟨_, rfl, dyE HN2 hO2 z0 z1 z2, bl3 bA (by omega)⟩
  ·rw [show trN 18 6 true = (intD 0, true) from rfl]
   replace IC : Hid _ := IC.out 0 ⟨by decide, by decide⟩
   replace TC : Hid _ := TC.out 0 ⟨by decide, by decide⟩
   replace LC : Hid _ := LC.out 0 ⟨by decide, by decide⟩
   generalize intD 0 = P at *
   go_enter Tryz.func54, Tryz.ntmps54
   go_wp2_with fail
   generalize ((w.alloc (.cells #[.bool p.1, .slice a n c, .int .i64 p.2.2] 27)).alloc (.cells #[.bool false, .slice none 0 0, .int .i64 0] 27)) = w0 at *
   refine cM QC.out ?_
   rintro r w9 ⟨rfl, b9⟩
   obtain ⟨bA, Z, x0, x1, x2⟩ := jkAZC3 b9 bA Z x0 x1 x2
   clear b9 QC
   have bB := below_one w9 (.cells #[.int .i64 0, .int .i64 1, .int .i64 0, .int .i64 (-1), .int .i64 0, .int .i64 1, .int .i64 0, .int .i64 (-1)] 2)
   obtain ⟨bA, Z, x0, x1, x2⟩ := jkAZC3 bB bA Z x0 x1 x2
   clear bB
   go_wp2_with fail
   refine cM (IC.out _) ?_
   have lb1 := bA.size
   rintro r w1 ⟨_, rfl, ⟨a1, n1, c1, rfl, HN1, hO1⟩, b1⟩
   replace hO1 := hO1.low lb1
   obtain ⟨bA, Z, x0, x1, x2⟩ := jkAZC3 b1 bA Z x0 x1 x2
   clear b1 lb1
   go_wp2_with fail
   have hn1 : n1 ≤ 1024 := by have := HN1.out; have := LC.out; omega
   refine cM (TC.out _ _ _ _ hO1.1 hn1) ?_
   have lb2 := bA.size
   rintro r w2 ⟨_, rfl, ⟨a2, n2, c2, rfl, HN2, hO2⟩, b2⟩
   replace hO2 := hO2.low lb2
   obtain ⟨bA, Z, x0, x1, x2⟩ := jkAZC3 b2 bA Z x0 x1 x2
   clear b2 lb2
   obtain ⟨z0, z1, z2, f0, f1, f2⟩ := Z
   go_wp2_with fail
   exact bodyPost_ret (v := .tuple #[dyV P.1 a2 n2 c2 P.2.2, .bool true]) (by simp [results, Tryz.results54, go_sem, z0, z1, z2]) rfl ⟨_, rfl, dyE HN2 hO2 z0 z1 z2, bl3 bA (by omega)⟩
  ·rw [show trN 18 7 true = (intD (-1), true) from rfl]
   replace IC : Hid _ := IC.out (-1) ⟨by decide, by decide⟩
   replace TC : Hid _ := TC.out (-1) ⟨by decide, by decide⟩
   replace LC : Hid _ := LC.out (-1) ⟨by decide, by decide⟩
   generalize intD (-1) = P at *
   go_enter Tryz.func54, Tryz.ntmps54
   go_wp2_with fail
   generalize ((w.alloc (.cells #[.bool p.1, .slice a n c, .int .i64 p.2.2] 27)).alloc (.cells #[.bool false, .slice none 0 0, .int .i64 0] 27)) = w0 at *
   refine cM QC.out ?_
   rintro r w9 ⟨rfl, b9⟩
   obtain ⟨bA, Z, x0, x1, x2⟩ := jkAZC3 b9 bA Z x0 x1 x2
   clear b9 QC
   have bB := below_one w9 (.cells #[.int .i64 0, .int .i64 1, .int .i64 0, .int .i64 (-1), .int .i64 0, .int .i64 1, .int .i64 0, .int .i64 (-1)] 2)
   obtain ⟨bA, Z, x0, x1, x2⟩ := jkAZC3 bB bA Z x0 x1 x2
   clear bB
   go_wp2_with fail
   refine cM (IC.out _) ?_
   have lb1 := bA.size
   rintro r w1 ⟨_, rfl, ⟨a1, n1, c1, rfl, HN1, hO1⟩, b1⟩
   replace hO1 := hO1.low lb1
   obtain ⟨bA, Z, x0, x1, x2⟩ := jkAZC3 b1 bA Z x0 x1 x2
   clear b1 lb1
   go_wp2_with fail
   have hn1 : n1 ≤ 1024 := by have := HN1.out; have := LC.out; omega
   refine cM (TC.out _ _ _ _ hO1.1 hn1) ?_
   have lb2 := bA.size
   rintro r w2 ⟨_, rfl, ⟨a2, n2, c2, rfl, HN2, hO2⟩, b2⟩
   replace hO2 := hO2.low lb2
   obtain ⟨bA, Z, x0, x1, x2⟩ := jkAZC3 b2 bA Z x0 x1 x2
   clear b2 lb2
   obtain ⟨z0, z1, z2, f0, f1, f2⟩ := Z
   go_wp2_with fail
   exact bodyPost_ret (v := .tuple #[dyV P.1 a2 n2 c2 P.2.2, .bool true]) (by simp [results, Tryz.results54, go_sem, z0, z1, z2]) rfl ⟨_, rfl, dyE HN2 hO2 z0 z1 z2, bl3 bA (by omega)⟩
end Go.Proofs.YtiijfnaaekmpbaaGreatDoor

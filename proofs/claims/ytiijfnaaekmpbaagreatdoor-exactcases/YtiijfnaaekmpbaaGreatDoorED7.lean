/- The document's exact cases: value, Domain, Exact. -/
import Derived.Test.YtiijfnaaekmpbaaGreatDoorCR
import Derived.Test.YtiijfnaaekmpbaaGreatDoorEDX
import Derived.Test.YtiijfnaaekmpbaaGreatDoorED6
import Derived.Test.YtiijfnaaekmpbaaGreatDoorEDY
import Derived.Test.YtiijfnaaekmpbaaGreatDoorED6e
import Derived.Test.YtiijfnaaekmpbaaGreatDoorFX
namespace Go.Proofs.YtiijfnaaekmpbaaGreatDoor
open Go.RowKit
set_option maxHeartbeats 4000000
set_option maxRecDepth 100000
theorem eFrom_ok (x : Int) : OkE (fromP x) := ⟨fa_can x, fa_right x⟩
theorem lgX_ok (f x : Int) : OkE (lgX f (fromP x)) := by
 unfold lgX
 split
 ·obtain ⟨_, m2, m3, _⟩ := more_bd x
  exact ok_room m3 m2
 ·exact eFrom_ok x
theorem dLogs_calls (f : Int) (p : E3) (a : Option Addr) (n c : Nat) (w : World) (h : IsW w a n c (wO p.2.1)) (hn : n ≤ 1024) (hp : OkE p) (hf : 7 ≤ f ∧ f ≤ 12) (hq : OkE (lgX f p)) :
  Calls Tryz.prog 53 #[.int .u8 f, dyV p.1 a n c p.2.2] w fun r w' => ∃ v, r = .returned (.tuple #[v, .bool (lgD f p).2]) ∧ DyQ w.heap.size w' v (lgD f p).1 ∧ Below w.heap.size w w' := by
 rcases (show f = 7 ∨ f = 8 ∨ f = 9 ∨ f = 10 ∨ f = 11 ∨ f = 12 by omega) with rfl | rfl | rfl | rfl | rfl | rfl
 ·exact dLog7_calls p a n c w h hn hp hq
 ·exact dLog8_calls p a n c w h hn hp hq
 ·exact dLog9_calls p a n c w h hn hp hq
 ·exact dLog10_calls p a n c w h hn hp hq
 ·exact dLog11_calls p a n c w h hn hp hq
 ·exact dLog12_calls p a n c w h hn hp hq
theorem dValue_calls (f : Int) (p : E3) (a : Option Addr) (n c : Nat) (w : World) (h : IsW w a n c (wO p.2.1)) (hn : n ≤ 1024) (hp : OkE p) (hf : 1 ≤ f ∧ f ≤ 30) (hm : OkE (lgX f p)) :
  Calls Tryz.prog 21 #[.int .u8 f, dyV p.1 a n c p.2.2] w fun r w' => ∃ v, r = .returned (.tuple #[v, .bool (vaD f p).2]) ∧ DyQ w.heap.size w' v (vaD f p).1 ∧ Below w.heap.size w w' := by
 have bA : Below w.heap.size w ((w.alloc (.cells #[.bool p.1, .slice a n c, .int .i64 p.2.2] 27)).alloc (.cells #[.bool false, .slice none 0 0, .int .i64 0] 27)) := nT (below_one _ _) (below_one _ _)
 have Z := zrB w p.1 a n c p.2.2
 obtain ⟨x0, x1, x2⟩ := fX20 w p a n c _ rfl
 obtain ⟨hf1, hf2⟩ := hf
 have ZC : Hid _ := fun (W : World) (b : Below w.heap.size w W) => dZeroE p a n c W (h.keep b) hn
 have O1 : Hid _ := fun (W : World) (b : Below w.heap.size w W) => dOrder_calls p a n c 1 W (h.keep b) hn hp ⟨by decide, by decide⟩
 have O2 : Hid _ := fun (W : World) (b : Below w.heap.size w W) => dOrder_calls p a n c (-1) W (h.keep b) hn hp ⟨by decide, by decide⟩
 have O3 : Hid _ := fun (W : World) (b : Below w.heap.size w W) => dOrder_calls p a n c 0 W (h.keep b) hn hp ⟨by decide, by decide⟩
 by_cases hz : p.2.1 = 0
 ·rw [show vaD f p = zeD f from if_pos hz]
  rw [decide_eq_true hz] at ZC
  have SC : Hid _ := fun (W : World) => dZf_calls f W
  generalize zeD f = V at *
  obtain ⟨Q, B⟩ := V
  simp only at SC ⊢
  clear h hn hp hm O1 O2 O3 hz
  go_enter Tryz.func21, Tryz.ntmps21
  go_wp2_with fail
  generalize ((w.alloc (.cells #[.bool p.1, .slice a n c, .int .i64 p.2.2] 27)).alloc (.cells #[.bool false, .slice none 0 0, .int .i64 0] 27)) = w0 at *
  refine cM (ZC.out _ bA) ?_
  rintro r x9 ⟨rfl, b1⟩
  obtain ⟨bA, Z, x0, x1, x2⟩ := jkAZC3 b1 bA Z x0 x1 x2
  clear b1
  go_wp2_with fail
  refine cM (SC.out _) ?_
  have lb5 := bA.size
  rintro r w5 ⟨_, rfl, ⟨a5, n5, c5, rfl, HN5, hO5⟩, b5⟩
  replace hO5 := hO5.low lb5
  obtain ⟨bA, Z, x0, x1, x2⟩ := jkAZC3 b5 bA Z x0 x1 x2
  clear b5 lb5
  obtain ⟨z0, z1, z2, f0, f1, f2⟩ := Z
  go_wp2_with fail
  exact bodyPost_ret (v := .tuple #[dyV Q.1 a5 n5 c5 Q.2.2, .bool B]) (by simp [results, Tryz.results21, go_sem, z0, z1, z2]) rfl ⟨_, rfl, dyE HN5 hO5 z0 z1 z2, bl3 bA (by omega)⟩
 rw [decide_eq_false hz] at ZC
 by_cases q1 : f ≤ 6
 ·rw [show vaD f p = pwD f p from by unfold vaD; rw [if_neg hz, if_pos ⟨hf1, q1⟩]]
  have SC : Hid _ := fun (W : World) (b : Below w.heap.size w W) => dPowers_calls f p a n c W (h.keep b) hn hp 
  generalize pwD f p = V at *
  obtain ⟨Q, B⟩ := V
  simp only at SC ⊢
  clear h hn hp hm O1 O2 O3 hz
  go_enter Tryz.func21, Tryz.ntmps21
  go_wp2_with fail
  generalize ((w.alloc (.cells #[.bool p.1, .slice a n c, .int .i64 p.2.2] 27)).alloc (.cells #[.bool false, .slice none 0 0, .int .i64 0] 27)) = w0 at *
  refine cM (ZC.out _ bA) ?_
  rintro r x9 ⟨rfl, b2⟩
  obtain ⟨bA, Z, x0, x1, x2⟩ := jkAZC3 b2 bA Z x0 x1 x2
  clear b2
  go_wp2_with fail
  refine cM (SC.out _ bA) ?_
  have lb5 := bA.size
  rintro r w5 ⟨_, rfl, ⟨a5, n5, c5, rfl, HN5, hO5⟩, b5⟩
  replace hO5 := hO5.low lb5
  obtain ⟨bA, Z, x0, x1, x2⟩ := jkAZC3 b5 bA Z x0 x1 x2
  clear b5 lb5
  obtain ⟨z0, z1, z2, f0, f1, f2⟩ := Z
  go_wp2_with fail
  exact bodyPost_ret (v := .tuple #[dyV Q.1 a5 n5 c5 Q.2.2, .bool B]) (by simp [results, Tryz.results21, go_sem, z0, z1, z2]) rfl ⟨_, rfl, dyE HN5 hO5 z0 z1 z2, bl3 bA (by omega)⟩
 have q1' : 6 < f := by omega
 by_cases q2 : f ≤ 12
 ·rw [show vaD f p = lgD f p from by unfold vaD; rw [if_neg hz, if_neg (by omega), if_pos ⟨by omega, q2⟩]]
  have SC : Hid _ := fun (W : World) (b : Below w.heap.size w W) => dLogs_calls f p a n c W (h.keep b) hn hp ⟨by omega, q2⟩ hm
  generalize lgD f p = V at *
  obtain ⟨Q, B⟩ := V
  simp only at SC ⊢
  clear h hn hp hm O1 O2 O3 hz
  go_enter Tryz.func21, Tryz.ntmps21
  go_wp2_with fail
  generalize ((w.alloc (.cells #[.bool p.1, .slice a n c, .int .i64 p.2.2] 27)).alloc (.cells #[.bool false, .slice none 0 0, .int .i64 0] 27)) = w0 at *
  refine cM (ZC.out _ bA) ?_
  rintro r x9 ⟨rfl, b3⟩
  obtain ⟨bA, Z, x0, x1, x2⟩ := jkAZC3 b3 bA Z x0 x1 x2
  clear b3
  go_wp2_with fail
  refine cM (SC.out _ bA) ?_
  have lb5 := bA.size
  rintro r w5 ⟨_, rfl, ⟨a5, n5, c5, rfl, HN5, hO5⟩, b5⟩
  replace hO5 := hO5.low lb5
  obtain ⟨bA, Z, x0, x1, x2⟩ := jkAZC3 b5 bA Z x0 x1 x2
  clear b5 lb5
  obtain ⟨z0, z1, z2, f0, f1, f2⟩ := Z
  go_wp2_with fail
  exact bodyPost_ret (v := .tuple #[dyV Q.1 a5 n5 c5 Q.2.2, .bool B]) (by simp [results, Tryz.results21, go_sem, z0, z1, z2]) rfl ⟨_, rfl, dyE HN5 hO5 z0 z1 z2, bl3 bA (by omega)⟩
 have q2' : 12 < f := by omega
 by_cases q3 : 16 ≤ f ∧ f ≤ 18
 ·obtain ⟨q4, q5⟩ := q3
  rw [show vaD f p = trD f p from by unfold vaD; rw [if_neg hz, if_neg (by omega), if_neg (by omega), if_pos ⟨q4, q5⟩]]
  have SC : Hid _ := fun (W : World) (b : Below w.heap.size w W) => dTurns_calls f p a n c W (h.keep b) hn hp (by omega)
  generalize trD f p = V at *
  obtain ⟨Q, B⟩ := V
  simp only at SC ⊢
  clear h hn hp hm O1 O2 O3 hz
  go_enter Tryz.func21, Tryz.ntmps21
  go_wp2_with fail
  generalize ((w.alloc (.cells #[.bool p.1, .slice a n c, .int .i64 p.2.2] 27)).alloc (.cells #[.bool false, .slice none 0 0, .int .i64 0] 27)) = w0 at *
  refine cM (ZC.out _ bA) ?_
  rintro r x9 ⟨rfl, b4⟩
  obtain ⟨bA, Z, x0, x1, x2⟩ := jkAZC3 b4 bA Z x0 x1 x2
  clear b4
  go_wp2_with fail
  refine cM (SC.out _ bA) ?_
  have lb5 := bA.size
  rintro r w5 ⟨_, rfl, ⟨a5, n5, c5, rfl, HN5, hO5⟩, b5⟩
  replace hO5 := hO5.low lb5
  obtain ⟨bA, Z, x0, x1, x2⟩ := jkAZC3 b5 bA Z x0 x1 x2
  clear b5 lb5
  obtain ⟨z0, z1, z2, f0, f1, f2⟩ := Z
  go_wp2_with fail
  exact bodyPost_ret (v := .tuple #[dyV Q.1 a5 n5 c5 Q.2.2, .bool B]) (by simp [results, Tryz.results21, go_sem, z0, z1, z2]) rfl ⟨_, rfl, dyE HN5 hO5 z0 z1 z2, bl3 bA (by omega)⟩
 have eV : vaD f p = if agI p 1 = 0 ∨ agI p (-1) = 0 then anD f (decide (agI p 0 < 0)) else no3 := by
  unfold vaD; rw [if_neg hz, if_neg (by omega), if_neg (by omega), if_neg q3]
 rw [eV]
 have AC : Hid _ := fun (W : World) => dAngles_calls f (decide (agI p 0 < 0)) W
 generalize anD f (decide (agI p 0 < 0)) = V at *
 obtain ⟨Q, B⟩ := V
 generalize agI p 1 = J1 at *
 generalize agI p (-1) = J2 at *
 generalize agI p 0 = J3 at *
 simp only at AC
 clear h hn hp hm hz eV
 have q3' : f < 16 ∨ 18 < f := by omega
 clear q3
 by_cases j1 : J1 = 0
 ·rw [if_pos (.inl j1)]
  subst j1
  simp only
  clear O2
  rcases q3' with q6 | q6
  all_goals
   go_enter Tryz.func21, Tryz.ntmps21
   go_wp2_with fail
   generalize ((w.alloc (.cells #[.bool p.1, .slice a n c, .int .i64 p.2.2] 27)).alloc (.cells #[.bool false, .slice none 0 0, .int .i64 0] 27)) = w0 at *
   refine cM (ZC.out _ bA) ?_
   rintro r x9 ⟨rfl, b5⟩
   obtain ⟨bA, Z, x0, x1, x2⟩ := jkAZC3 b5 bA Z x0 x1 x2
   clear b5
   go_wp2_with fail
   refine cM (O1.out _ bA) ?_
   rintro r x9 ⟨rfl, b6⟩
   obtain ⟨bA, Z, x0, x1, x2⟩ := jkAZC3 b6 bA Z x0 x1 x2
   clear b6
   go_wp2_with fail
   refine cM (O3.out _ bA) ?_
   rintro r x9 ⟨rfl, b7⟩
   obtain ⟨bA, Z, x0, x1, x2⟩ := jkAZC3 b7 bA Z x0 x1 x2
   clear b7
   go_wp2_with fail
   refine cM (AC.out _) ?_
   have lb5 := bA.size
   rintro r w5 ⟨_, rfl, ⟨a5, n5, c5, rfl, HN5, hO5⟩, b5⟩
   replace hO5 := hO5.low lb5
   obtain ⟨bA, Z, x0, x1, x2⟩ := jkAZC3 b5 bA Z x0 x1 x2
   clear b5 lb5
   obtain ⟨z0, z1, z2, f0, f1, f2⟩ := Z
   go_wp2_with fail
   exact bodyPost_ret (v := .tuple #[dyV Q.1 a5 n5 c5 Q.2.2, .bool B]) (by simp [results, Tryz.results21, go_sem, z0, z1, z2]) rfl ⟨_, rfl, dyE HN5 hO5 z0 z1 z2, bl3 bA (by omega)⟩
 ·have j1' : (J1 == 0) = false := by simpa using j1
  by_cases j2 : J2 = 0
  ·rw [if_pos (.inr j2)]
   subst j2
   simp only
   rcases q3' with q6 | q6
   all_goals
    go_enter Tryz.func21, Tryz.ntmps21
    go_wp2_with fail
    generalize ((w.alloc (.cells #[.bool p.1, .slice a n c, .int .i64 p.2.2] 27)).alloc (.cells #[.bool false, .slice none 0 0, .int .i64 0] 27)) = w0 at *
    refine cM (ZC.out _ bA) ?_
    rintro r x9 ⟨rfl, b8⟩
    obtain ⟨bA, Z, x0, x1, x2⟩ := jkAZC3 b8 bA Z x0 x1 x2
    clear b8
    go_wp2_with fail
    refine cM (O1.out _ bA) ?_
    rintro r x9 ⟨rfl, b9⟩
    obtain ⟨bA, Z, x0, x1, x2⟩ := jkAZC3 b9 bA Z x0 x1 x2
    clear b9
    go_wp2_with fail
    refine cM (O2.out _ bA) ?_
    rintro r x9 ⟨rfl, b10⟩
    obtain ⟨bA, Z, x0, x1, x2⟩ := jkAZC3 b10 bA Z x0 x1 x2
    clear b10
    go_wp2_with fail
    refine cM (O3.out _ bA) ?_
    rintro r x9 ⟨rfl, b11⟩
    obtain ⟨bA, Z, x0, x1, x2⟩ := jkAZC3 b11 bA Z x0 x1 x2
    clear b11
    go_wp2_with fail
    refine cM (AC.out _) ?_
    have lb5 := bA.size
    rintro r w5 ⟨_, rfl, ⟨a5, n5, c5, rfl, HN5, hO5⟩, b5⟩
    replace hO5 := hO5.low lb5
    obtain ⟨bA, Z, x0, x1, x2⟩ := jkAZC3 b5 bA Z x0 x1 x2
    clear b5 lb5
    obtain ⟨z0, z1, z2, f0, f1, f2⟩ := Z
    go_wp2_with fail
    exact bodyPost_ret (v := .tuple #[dyV Q.1 a5 n5 c5 Q.2.2, .bool B]) (by simp [results, Tryz.results21, go_sem, z0, z1, z2]) rfl ⟨_, rfl, dyE HN5 hO5 z0 z1 z2, bl3 bA (by omega)⟩
  ·have j2' : (J2 == 0) = false := by simpa using j2
   rw [if_neg (by omega)]
   unfold no3
   clear AC O3
   rcases q3' with q6 | q6
   all_goals
    go_enter Tryz.func21, Tryz.ntmps21
    go_wp2_with fail
    generalize ((w.alloc (.cells #[.bool p.1, .slice a n c, .int .i64 p.2.2] 27)).alloc (.cells #[.bool false, .slice none 0 0, .int .i64 0] 27)) = w0 at *
    refine cM (ZC.out _ bA) ?_
    rintro r x9 ⟨rfl, b12⟩
    obtain ⟨bA, Z, x0, x1, x2⟩ := jkAZC3 b12 bA Z x0 x1 x2
    clear b12
    go_wp2_with fail
    refine cM (O1.out _ bA) ?_
    rintro r x9 ⟨rfl, b13⟩
    obtain ⟨bA, Z, x0, x1, x2⟩ := jkAZC3 b13 bA Z x0 x1 x2
    clear b13
    go_wp2_with fail
    refine cM (O2.out _ bA) ?_
    rintro r x9 ⟨rfl, b14⟩
    obtain ⟨bA, Z, x0, x1, x2⟩ := jkAZC3 b14 bA Z x0 x1 x2
    clear b14
    obtain ⟨z0, z1, z2, f0, f1, f2⟩ := Z
    go_wp2_with fail
    exact bodyPost_ret (v := .tuple #[dyV false none 0 0 0, .bool false]) (by simp [results, Tryz.results21, go_sem, z0, z1, z2]) rfl ⟨_, rfl, dyQ_zero _ _, by first | exact bA | exact bl3 bA (by omega)⟩
theorem dDomain_calls (f x : Int) (w : World) (hf : 0 ≤ f) (hU : U x) :
  Calls Tryz.prog 15 #[.int .u8 f, .int .u64 x] w fun q w' => q = .returned (.bool (exD f x)) ∧ Below w.heap.size w w' := by
 have bA : Below w.heap.size w w := Below.refl _ _
 have IS : Hid _ := fun W => dis_calls f W hf
 have FN : Hid _ := fun W => rFinite_calls x W hU
 unfold exD
 cases hF : isF f with
 | false =>
  rw [hF] at IS
  rw [Bool.false_and, Bool.false_and]
  clear FN hU hF
  go_enter Tryz.func15, Tryz.ntmps15
  go_wp2_with fail
  refine cM (IS.out _) ?_
  rintro r w9 ⟨rfl, rfl⟩
  go_wp2_with fail
  go_ret
  exact ⟨rfl, bA⟩
 | true =>
 rw [hF] at IS
 rw [Bool.true_and]
 cases hfx : finB x with
 | false =>
  rw [hfx] at FN
  rw [Bool.false_and]
  clear hU hF
  go_enter Tryz.func15, Tryz.ntmps15
  go_wp2_with fail
  refine cM (IS.out _) ?_
  rintro r w9 ⟨rfl, rfl⟩
  go_wp2_with fail
  refine cM (FN.out _) ?_
  rintro r w9 ⟨rfl, rfl⟩
  go_wp2_with fail
  go_ret
  exact ⟨rfl, bA⟩
 | true =>
 rw [hfx] at FN
 rw [Bool.true_and, ← dm_eq f (fa_can x)]
 have FC : Hid _ := fun W => qfrom_calls x W hU
 have oP := eFrom_ok x
 have LF : Hid _ := okE_len oP
 generalize fromP x = P at *
 generalize lastE x = LE at *
 have OC : Hid (∀ (k : Int) (_ : -8 ≤ k ∧ k ≤ 8) (W : World) (a : Option Addr) (n c : Nat) (h : IsW W a n c (wO P.2.1)) (hn : n ≤ 1024), Calls Tryz.prog 25 #[dyV P.1 a n c P.2.2, .int .i64 k] W fun r w' => r = .returned (.int .i64 (agI P k)) ∧ Below W.heap.size W w') := fun k hk W a n c h hn => dOrder_calls P a n c k W h hn oP (by omega)
 have QC : Hid _ := fun (W : World) (a : Option Addr) (n c : Nat) (h : IsW W a n c (wO P.2.1)) (hn : n ≤ 1024) => dQuart_calls P.1 P.2.1 P.2.2 a n c W h hn oP
 have oA : Hid _ := OC.out 0 (by decide)
 have oB : Hid _ := OC.out (-1) (by decide)
 have oC : Hid _ := OC.out 1 (by decide)
 have hw : (quD P).2 = true → 0 ≤ (quD P).1 ∧ (quD P).1 < 8 := fun q => by
  unfold quD at q ⊢
  split at q
  ·cases q
  ·rename_i k; rw [if_neg k]; simp only; omega
 clear OC hU hfx oP
 unfold dmD
 generalize agI P 0 = JA at *
 generalize agI P (-1) = JB at *
 generalize agI P 1 = JC at *
 generalize hqd : quD P = QD at *
 have QC2 : Hid (∀ (W : World) (a : Option Addr) (n c : Nat) (_ : IsW W a n c (wO P.2.1)) (_ : n ≤ 1024), Calls Tryz.prog 26 #[dyV P.1 a n c P.2.2] W fun r w' => r = .returned (.tuple #[.int .i64 QD.1, .bool QD.2]) ∧ Below W.heap.size W w') := fun W a n c h hn => QC.out W a n c h hn
 clear QC hqd
 obtain ⟨QN, QB⟩ := QD
 simp only at QC2 hw ⊢
 by_cases g1 : f = 7 ∨ f = 8 ∨ f = 9
 ·rw [if_pos g1]
  clear QC2 oB oC hw hf hF
  rcases g1 with rfl | rfl | rfl
  all_goals
   go_enter Tryz.func15, Tryz.ntmps15
   go_wp2_with fail
   refine cM (IS.out _) ?_
   rintro r w9 ⟨rfl, rfl⟩
   go_wp2_with fail
   refine cM (FN.out _) ?_
   rintro r w9 ⟨rfl, rfl⟩
   go_wp2_with fail
   refine cM (FC.out _) ?_
   rintro r w1 ⟨_, rfl, ⟨a1, n1, c1, rfl, HN1, hO1⟩, b1⟩
   replace bA := nT bA b1
   have hn1 : n1 ≤ 1024 := by have := HN1.out; have := LF.out; omega
   clear b1 HN1
   have bD := below_one w1 (.cells #[.bool P.1, .slice a1 n1 c1, .int .i64 P.2.2] 27)
   replace bA := nT bA bD
   replace hO1 := hO1.keep bD
   obtain ⟨u0, u1, u2⟩ := fX3 w1 P a1 n1 c1 _ rfl
   clear bD
   go_upto_region 4 with fail
   generalize w1.alloc (.cells #[.bool P.1, .slice a1 n1 c1, .int .i64 P.2.2] 27) = w2 at *
   generalize w1.heap.size = BX at *
   go_wp2_with fail
   refine cM (oA.out _ _ _ _ hO1.1 hn1) ?_
   rintro r x9 ⟨rfl, b15⟩
   obtain ⟨bA, hO1, u0, u1, u2⟩ := jkAOC3 b15 bA hO1 u0 u1 u2
   clear b15
   go_wp2_with fail
   go_ret
   exact ⟨retB (by first | rfl | (simp; done) | (rw [Bool.eq_iff_iff]; simp; done) | (simp; rfl)), bA⟩
 rw [if_neg g1]
 by_cases g2 : f = 10 ∨ f = 11 ∨ f = 12
 ·rw [if_pos g2]
  clear QC2 oA oC hw hf hF g1
  rcases g2 with rfl | rfl | rfl
  all_goals
   go_enter Tryz.func15, Tryz.ntmps15
   go_wp2_with fail
   refine cM (IS.out _) ?_
   rintro r w9 ⟨rfl, rfl⟩
   go_wp2_with fail
   refine cM (FN.out _) ?_
   rintro r w9 ⟨rfl, rfl⟩
   go_wp2_with fail
   refine cM (FC.out _) ?_
   rintro r w1 ⟨_, rfl, ⟨a1, n1, c1, rfl, HN1, hO1⟩, b1⟩
   replace bA := nT bA b1
   have hn1 : n1 ≤ 1024 := by have := HN1.out; have := LF.out; omega
   clear b1 HN1
   have bD := below_one w1 (.cells #[.bool P.1, .slice a1 n1 c1, .int .i64 P.2.2] 27)
   replace bA := nT bA bD
   replace hO1 := hO1.keep bD
   obtain ⟨u0, u1, u2⟩ := fX3 w1 P a1 n1 c1 _ rfl
   clear bD
   go_upto_region 4 with fail
   generalize w1.alloc (.cells #[.bool P.1, .slice a1 n1 c1, .int .i64 P.2.2] 27) = w2 at *
   generalize w1.heap.size = BX at *
   go_wp2_with fail
   refine cM (oB.out _ _ _ _ hO1.1 hn1) ?_
   rintro r x9 ⟨rfl, b16⟩
   obtain ⟨bA, hO1, u0, u1, u2⟩ := jkAOC3 b16 bA hO1 u0 u1 u2
   clear b16
   go_wp2_with fail
   go_ret
   exact ⟨retB (by first | rfl | (simp; done) | (rw [Bool.eq_iff_iff]; simp; done) | (simp; rfl)), bA⟩
 rw [if_neg g2]
 by_cases g3 : f = 18
 ·rw [if_pos g3]
  subst g3
  clear oA oB oC hf hF g1 g2
  cases QB with
  | false =>
   clear hw
   go_enter Tryz.func15, Tryz.ntmps15
   go_wp2_with fail
   refine cM (IS.out _) ?_
   rintro r w9 ⟨rfl, rfl⟩
   go_wp2_with fail
   refine cM (FN.out _) ?_
   rintro r w9 ⟨rfl, rfl⟩
   go_wp2_with fail
   refine cM (FC.out _) ?_
   rintro r w1 ⟨_, rfl, ⟨a1, n1, c1, rfl, HN1, hO1⟩, b1⟩
   replace bA := nT bA b1
   have hn1 : n1 ≤ 1024 := by have := HN1.out; have := LF.out; omega
   clear b1 HN1
   have bD := below_one w1 (.cells #[.bool P.1, .slice a1 n1 c1, .int .i64 P.2.2] 27)
   replace bA := nT bA bD
   replace hO1 := hO1.keep bD
   obtain ⟨u0, u1, u2⟩ := fX3 w1 P a1 n1 c1 _ rfl
   clear bD
   go_upto_region 4 with fail
   generalize w1.alloc (.cells #[.bool P.1, .slice a1 n1 c1, .int .i64 P.2.2] 27) = w2 at *
   generalize w1.heap.size = BX at *
   go_wp2_with fail
   refine cM (QC2.out _ _ _ _ hO1.1 hn1) ?_
   rintro r x9 ⟨rfl, b17⟩
   obtain ⟨bA, hO1, u0, u1, u2⟩ := jkAOC3 b17 bA hO1 u0 u1 u2
   clear b17
   go_wp2_with fail
   go_ret
   exact ⟨retB (by first | rfl | (simp; done) | (rw [Bool.eq_iff_iff]; simp; done) | (simp; rfl)), bA⟩
  | true =>
   have hN := hw rfl
   obtain ⟨hN1, hN2⟩ := hN
   clear hw
   go_enter Tryz.func15, Tryz.ntmps15
   go_wp2_with fail
   refine cM (IS.out _) ?_
   rintro r w9 ⟨rfl, rfl⟩
   go_wp2_with fail
   refine cM (FN.out _) ?_
   rintro r w9 ⟨rfl, rfl⟩
   go_wp2_with fail
   refine cM (FC.out _) ?_
   rintro r w1 ⟨_, rfl, ⟨a1, n1, c1, rfl, HN1, hO1⟩, b1⟩
   replace bA := nT bA b1
   have hn1 : n1 ≤ 1024 := by have := HN1.out; have := LF.out; omega
   clear b1 HN1
   have bD := below_one w1 (.cells #[.bool P.1, .slice a1 n1 c1, .int .i64 P.2.2] 27)
   replace bA := nT bA bD
   replace hO1 := hO1.keep bD
   obtain ⟨u0, u1, u2⟩ := fX3 w1 P a1 n1 c1 _ rfl
   clear bD
   go_upto_region 4 with fail
   generalize w1.alloc (.cells #[.bool P.1, .slice a1 n1 c1, .int .i64 P.2.2] 27) = w2 at *
   generalize w1.heap.size = BX at *
   go_wp2_with fail
   refine cM (QC2.out _ _ _ _ hO1.1 hn1) ?_
   rintro r x9 ⟨rfl, b18⟩
   obtain ⟨bA, hO1, u0, u1, u2⟩ := jkAOC3 b18 bA hO1 u0 u1 u2
   clear b18
   go_wp2_with fail
   go_ret
   exact ⟨retB (by first | rfl | (simp; done) | (rw [Bool.eq_iff_iff]; simp; done) | (simp; rfl)), bA⟩
 rw [if_neg g3]
 by_cases g4 : f = 19 ∨ f = 20 ∨ f = 22 ∨ f = 23
 ·rw [if_pos g4]
  clear QC2 oA hw hf hF g1 g2 g3
  by_cases k1 : JC ≤ 0
  ·rw [decide_eq_true k1, Bool.true_and]
   rcases g4 with rfl | rfl | rfl | rfl
   all_goals
    go_enter Tryz.func15, Tryz.ntmps15
    go_wp2_with fail
    refine cM (IS.out _) ?_
    rintro r w9 ⟨rfl, rfl⟩
    go_wp2_with fail
    refine cM (FN.out _) ?_
    rintro r w9 ⟨rfl, rfl⟩
    go_wp2_with fail
    refine cM (FC.out _) ?_
    rintro r w1 ⟨_, rfl, ⟨a1, n1, c1, rfl, HN1, hO1⟩, b1⟩
    replace bA := nT bA b1
    have hn1 : n1 ≤ 1024 := by have := HN1.out; have := LF.out; omega
    clear b1 HN1
    have bD := below_one w1 (.cells #[.bool P.1, .slice a1 n1 c1, .int .i64 P.2.2] 27)
    replace bA := nT bA bD
    replace hO1 := hO1.keep bD
    obtain ⟨u0, u1, u2⟩ := fX3 w1 P a1 n1 c1 _ rfl
    clear bD
    go_upto_region 4 with fail
    generalize w1.alloc (.cells #[.bool P.1, .slice a1 n1 c1, .int .i64 P.2.2] 27) = w2 at *
    generalize w1.heap.size = BX at *
    go_wp2_with fail
    refine cM (oC.out _ _ _ _ hO1.1 hn1) ?_
    rintro r x9 ⟨rfl, b19⟩
    obtain ⟨bA, hO1, u0, u1, u2⟩ := jkAOC3 b19 bA hO1 u0 u1 u2
    clear b19
    go_wp2_with fail
    refine cM (oB.out _ _ _ _ hO1.1 hn1) ?_
    rintro r x9 ⟨rfl, b20⟩
    obtain ⟨bA, hO1, u0, u1, u2⟩ := jkAOC3 b20 bA hO1 u0 u1 u2
    clear b20
    go_wp2_with fail
    go_ret
    exact ⟨retB (by first | rfl | (simp; done) | (rw [Bool.eq_iff_iff]; simp; done) | (simp; rfl)), bA⟩
  ·rw [decide_eq_false k1, Bool.false_and]
   have k1' : 0 < JC := by omega
   clear oB
   rcases g4 with rfl | rfl | rfl | rfl
   all_goals
    go_enter Tryz.func15, Tryz.ntmps15
    go_wp2_with fail
    refine cM (IS.out _) ?_
    rintro r w9 ⟨rfl, rfl⟩
    go_wp2_with fail
    refine cM (FN.out _) ?_
    rintro r w9 ⟨rfl, rfl⟩
    go_wp2_with fail
    refine cM (FC.out _) ?_
    rintro r w1 ⟨_, rfl, ⟨a1, n1, c1, rfl, HN1, hO1⟩, b1⟩
    replace bA := nT bA b1
    have hn1 : n1 ≤ 1024 := by have := HN1.out; have := LF.out; omega
    clear b1 HN1
    have bD := below_one w1 (.cells #[.bool P.1, .slice a1 n1 c1, .int .i64 P.2.2] 27)
    replace bA := nT bA bD
    replace hO1 := hO1.keep bD
    obtain ⟨u0, u1, u2⟩ := fX3 w1 P a1 n1 c1 _ rfl
    clear bD
    go_upto_region 4 with fail
    generalize w1.alloc (.cells #[.bool P.1, .slice a1 n1 c1, .int .i64 P.2.2] 27) = w2 at *
    generalize w1.heap.size = BX at *
    go_wp2_with fail
    refine cM (oC.out _ _ _ _ hO1.1 hn1) ?_
    rintro r x9 ⟨rfl, b21⟩
    obtain ⟨bA, hO1, u0, u1, u2⟩ := jkAOC3 b21 bA hO1 u0 u1 u2
    clear b21
    go_wp2_with fail
    go_ret
    exact ⟨retB (by first | rfl | (simp; done) | (rw [Bool.eq_iff_iff]; simp; done) | (simp; rfl)), bA⟩
 rw [if_neg g4]
 by_cases g5 : f = 29
 ·rw [if_pos g5]
  subst g5
  clear QC2 oA oB hw hf hF g1 g2 g3 g4
  go_enter Tryz.func15, Tryz.ntmps15
  go_wp2_with fail
  refine cM (IS.out _) ?_
  rintro r w9 ⟨rfl, rfl⟩
  go_wp2_with fail
  refine cM (FN.out _) ?_
  rintro r w9 ⟨rfl, rfl⟩
  go_wp2_with fail
  refine cM (FC.out _) ?_
  rintro r w1 ⟨_, rfl, ⟨a1, n1, c1, rfl, HN1, hO1⟩, b1⟩
  replace bA := nT bA b1
  have hn1 : n1 ≤ 1024 := by have := HN1.out; have := LF.out; omega
  clear b1 HN1
  have bD := below_one w1 (.cells #[.bool P.1, .slice a1 n1 c1, .int .i64 P.2.2] 27)
  replace bA := nT bA bD
  replace hO1 := hO1.keep bD
  obtain ⟨u0, u1, u2⟩ := fX3 w1 P a1 n1 c1 _ rfl
  clear bD
  go_upto_region 4 with fail
  generalize w1.alloc (.cells #[.bool P.1, .slice a1 n1 c1, .int .i64 P.2.2] 27) = w2 at *
  generalize w1.heap.size = BX at *
  go_wp2_with fail
  refine cM (oC.out _ _ _ _ hO1.1 hn1) ?_
  rintro r x9 ⟨rfl, b22⟩
  obtain ⟨bA, hO1, u0, u1, u2⟩ := jkAOC3 b22 bA hO1 u0 u1 u2
  clear b22
  go_wp2_with fail
  go_ret
  exact ⟨retB (by first | rfl | (simp; done) | (rw [Bool.eq_iff_iff]; simp; done) | (simp; rfl)), bA⟩
 rw [if_neg g5]
 by_cases g6 : f = 30
 ·rw [if_pos g6]
  subst g6
  clear QC2 oA hw hf hF g1 g2 g3 g4 g5
  by_cases k1 : JC < 0
  ·rw [decide_eq_true k1, Bool.true_and]
   go_enter Tryz.func15, Tryz.ntmps15
   go_wp2_with fail
   refine cM (IS.out _) ?_
   rintro r w9 ⟨rfl, rfl⟩
   go_wp2_with fail
   refine cM (FN.out _) ?_
   rintro r w9 ⟨rfl, rfl⟩
   go_wp2_with fail
   refine cM (FC.out _) ?_
   rintro r w1 ⟨_, rfl, ⟨a1, n1, c1, rfl, HN1, hO1⟩, b1⟩
   replace bA := nT bA b1
   have hn1 : n1 ≤ 1024 := by have := HN1.out; have := LF.out; omega
   clear b1 HN1
   have bD := below_one w1 (.cells #[.bool P.1, .slice a1 n1 c1, .int .i64 P.2.2] 27)
   replace bA := nT bA bD
   replace hO1 := hO1.keep bD
   obtain ⟨u0, u1, u2⟩ := fX3 w1 P a1 n1 c1 _ rfl
   clear bD
   go_upto_region 4 with fail
   generalize w1.alloc (.cells #[.bool P.1, .slice a1 n1 c1, .int .i64 P.2.2] 27) = w2 at *
   generalize w1.heap.size = BX at *
   go_wp2_with fail
   refine cM (oC.out _ _ _ _ hO1.1 hn1) ?_
   rintro r x9 ⟨rfl, b23⟩
   obtain ⟨bA, hO1, u0, u1, u2⟩ := jkAOC3 b23 bA hO1 u0 u1 u2
   clear b23
   go_wp2_with fail
   refine cM (oB.out _ _ _ _ hO1.1 hn1) ?_
   rintro r x9 ⟨rfl, b24⟩
   obtain ⟨bA, hO1, u0, u1, u2⟩ := jkAOC3 b24 bA hO1 u0 u1 u2
   clear b24
   go_wp2_with fail
   go_ret
   exact ⟨retB (by first | rfl | (simp; done) | (rw [Bool.eq_iff_iff]; simp; done) | (simp; rfl)), bA⟩
  ·rw [decide_eq_false k1, Bool.false_and]
   have k1' : 0 ≤ JC := by omega
   clear oB
   go_enter Tryz.func15, Tryz.ntmps15
   go_wp2_with fail
   refine cM (IS.out _) ?_
   rintro r w9 ⟨rfl, rfl⟩
   go_wp2_with fail
   refine cM (FN.out _) ?_
   rintro r w9 ⟨rfl, rfl⟩
   go_wp2_with fail
   refine cM (FC.out _) ?_
   rintro r w1 ⟨_, rfl, ⟨a1, n1, c1, rfl, HN1, hO1⟩, b1⟩
   replace bA := nT bA b1
   have hn1 : n1 ≤ 1024 := by have := HN1.out; have := LF.out; omega
   clear b1 HN1
   have bD := below_one w1 (.cells #[.bool P.1, .slice a1 n1 c1, .int .i64 P.2.2] 27)
   replace bA := nT bA bD
   replace hO1 := hO1.keep bD
   obtain ⟨u0, u1, u2⟩ := fX3 w1 P a1 n1 c1 _ rfl
   clear bD
   go_upto_region 4 with fail
   generalize w1.alloc (.cells #[.bool P.1, .slice a1 n1 c1, .int .i64 P.2.2] 27) = w2 at *
   generalize w1.heap.size = BX at *
   go_wp2_with fail
   refine cM (oC.out _ _ _ _ hO1.1 hn1) ?_
   rintro r x9 ⟨rfl, b25⟩
   obtain ⟨bA, hO1, u0, u1, u2⟩ := jkAOC3 b25 bA hO1 u0 u1 u2
   clear b25
   go_wp2_with fail
   go_ret
   exact ⟨retB (by first | rfl | (simp; done) | (rw [Bool.eq_iff_iff]; simp; done) | (simp; rfl)), bA⟩
 rw [if_neg g6]
 have n7 : f ≠ 7 := fun q => by omega
 have n8 : f ≠ 8 := fun q => by omega
 have n9 : f ≠ 9 := fun q => by omega
 have n10 : f ≠ 10 := fun q => by omega
 have n11 : f ≠ 11 := fun q => by omega
 have n12 : f ≠ 12 := fun q => by omega
 have n18 : f ≠ 18 := fun q => by omega
 have n19 : f ≠ 19 := fun q => by omega
 have n20 : f ≠ 20 := fun q => by omega
 have n22 : f ≠ 22 := fun q => by omega
 have n23 : f ≠ 23 := fun q => by omega
 have n29 : f ≠ 29 := fun q => by omega
 have n30 : f ≠ 30 := fun q => by omega
 clear QC2 oA oB oC hw hf hF g1 g2 g3 g4 g5 g6
 go_enter Tryz.func15, Tryz.ntmps15
 go_wp2_with fail
 refine cM (IS.out _) ?_
 rintro r w9 ⟨rfl, rfl⟩
 go_wp2_with fail
 refine cM (FN.out _) ?_
 rintro r w9 ⟨rfl, rfl⟩
 go_wp2_with fail
 refine cM (FC.out _) ?_
 rintro r w1 ⟨_, rfl, ⟨a1, n1, c1, rfl, HN1, hO1⟩, b1⟩
 replace bA := nT bA b1
 have hn1 : n1 ≤ 1024 := by have := HN1.out; have := LF.out; omega
 clear b1 HN1
 have bD := below_one w1 (.cells #[.bool P.1, .slice a1 n1 c1, .int .i64 P.2.2] 27)
 replace bA := nT bA bD
 replace hO1 := hO1.keep bD
 obtain ⟨u0, u1, u2⟩ := fX3 w1 P a1 n1 c1 _ rfl
 clear bD
 go_upto_region 4 with fail
 generalize w1.alloc (.cells #[.bool P.1, .slice a1 n1 c1, .int .i64 P.2.2] 27) = w2 at *
 generalize w1.heap.size = BX at *
 go_wp2_with fail
 go_ret
 exact ⟨retB (by first | rfl | (simp; done) | (rw [Bool.eq_iff_iff]; simp; done) | (simp; rfl)), bA⟩
theorem dExact_calls (f x : Int) (w : World) (hf : 0 ≤ f) (hU : U x) :
  Calls Tryz.prog 7 #[.int .u8 f, .int .u64 x] w fun q w' => ∃ v', q = .returned (.tuple #[v', .bool (exV f x).2, .int .i64 (exE f x)]) ∧ DyQ w.heap.size w' v' (exV f x).1 ∧ Below w.heap.size w w' := by
 have bA := below_one w (.cells #[.bool false, .slice none 0 0, .int .i64 0] 27)
 have Z := zrA w
 have IS : Hid _ := fun W => dis_calls f W hf
 have DC : Hid _ := fun W => dDomain_calls f x W hf hU
 rw [← exDV_eq]
 cases hF : isF f with
 | false =>
  have e : exE f x = 2 := by unfold exE; rw [hF]; rfl
  have e' : exDV f x = no3 := by unfold exDV; rw [e, if_neg (by decide)]
  rw [e, e']
  rw [hF] at IS
  unfold no3
  clear e e' hF DC
  go_enter Tryz.func7, Tryz.ntmps7
  go_wp2_with fail
  generalize (w.alloc (.cells #[.bool false, .slice none 0 0, .int .i64 0] 27)) = w0 at *
  refine cM (IS.out _) ?_
  rintro r w9 ⟨rfl, rfl⟩
  obtain ⟨z0, z1, z2, f0, f1, f2⟩ := Z
  go_wp2_with fail
  exact bodyPost_ret (v := .tuple #[dyV false none 0 0 0, .bool false, .int .i64 2]) (by simp [results, Tryz.results7, go_sem, z0, z1, z2]) rfl ⟨_, rfl, dyQ_zero _ _, bl3 bA (by omega)⟩
 | true =>
 rw [hF] at IS
 cases hD : exD f x with
 | false =>
  have e : exE f x = 5 := by unfold exE; rw [hF, hD]; rfl
  have e' : exDV f x = no3 := by unfold exDV; rw [e, if_neg (by decide)]
  rw [e, e']
  rw [hD] at DC
  unfold no3
  clear e e' hF hD
  go_enter Tryz.func7, Tryz.ntmps7
  go_wp2_with fail
  generalize (w.alloc (.cells #[.bool false, .slice none 0 0, .int .i64 0] 27)) = w0 at *
  refine cM (IS.out _) ?_
  rintro r w9 ⟨rfl, rfl⟩
  go_wp2_with fail
  refine cM (DC.out _) ?_
  rintro r w8 ⟨rfl, b8⟩
  obtain ⟨bA, Z⟩ := jkAZ b8 bA Z
  clear b8
  obtain ⟨z0, z1, z2, f0, f1, f2⟩ := Z
  go_wp2_with fail
  exact bodyPost_ret (v := .tuple #[dyV false none 0 0 0, .bool false, .int .i64 5]) (by simp [results, Tryz.results7, go_sem, z0, z1, z2]) rfl ⟨_, rfl, dyQ_zero _ _, bl3 bA (by omega)⟩
 | true =>
  have e : exE f x = 0 := by unfold exE; rw [hF, hD]; rfl
  have e' : exDV f x = vaD f (fromP x) := by unfold exDV; rw [e, if_pos rfl]
  rw [e, e']
  rw [hD] at DC
  have hf2 : 1 ≤ f ∧ f ≤ 30 := of_decide_eq_true hF
  have FC : Hid _ := fun W => qfrom_calls x W hU
  have oP := eFrom_ok x
  have oM := lgX_ok f x
  have LF : Hid _ := okE_len oP
  generalize fromP x = P at *
  generalize lastE x = LE at *
  have VC : Hid _ := fun (W : World) (a : Option Addr) (n c : Nat) (h : IsW W a n c (wO P.2.1)) (hn : n ≤ 1024) => dValue_calls f P a n c W h hn oP hf2 oM
  generalize vaD f P = V at *
  obtain ⟨Q, B⟩ := V
  simp only at VC ⊢
  clear e e' hF hD oP oM hf2 hU hf
  go_enter Tryz.func7, Tryz.ntmps7
  go_wp2_with fail
  generalize (w.alloc (.cells #[.bool false, .slice none 0 0, .int .i64 0] 27)) = w0 at *
  refine cM (IS.out _) ?_
  rintro r w9 ⟨rfl, rfl⟩
  go_wp2_with fail
  refine cM (DC.out _) ?_
  rintro r w8 ⟨rfl, b8⟩
  obtain ⟨bA, Z⟩ := jkAZ b8 bA Z
  clear b8
  go_wp2_with fail
  refine cM (FC.out _) ?_
  have lb := bA.size
  rintro q w1 ⟨_, rfl, ⟨a1, n1, c1, rfl, HN1, hO1⟩, b1⟩
  replace hO1 := hO1.low lb
  obtain ⟨bA, Z⟩ := jkAZ b1 bA Z
  have hn1 : n1 ≤ 1024 := by have := HN1.out; have := LF.out; omega
  clear b1 lb
  have bD := below_one w1 (.cells #[.bool P.1, .slice a1 n1 c1, .int .i64 P.2.2] 27)
  obtain ⟨bA, Z, hO1⟩ := jkAZO bD bA Z hO1
  obtain ⟨u0, u1, u2⟩ := fX3 w1 P a1 n1 c1 _ rfl
  clear bD
  go_upto_region 6 with fail
  generalize w1.alloc (.cells #[.bool P.1, .slice a1 n1 c1, .int .i64 P.2.2] 27) = w2 at *
  generalize w1.heap.size = BX at *
  go_wp2_with fail
  refine cM (VC.out _ _ _ _ hO1.1 hn1) ?_
  have lb := bA.size
  rintro q w3 ⟨_, rfl, ⟨a2, n2, c2, rfl, HN2, hO2⟩, b1⟩
  replace hO2 := hO2.low lb
  obtain ⟨bA, Z, u0, u1, u2⟩ := jkAZC3 b1 bA Z u0 u1 u2
  clear b1 lb
  have bD := below_one w3 (.cells #[.bool Q.1, .slice a2 n2 c2, .int .i64 Q.2.2] 27)
  obtain ⟨bA, Z, hO2, u0, u1, u2⟩ := jkAZOC3 bD bA Z hO2 u0 u1 u2
  obtain ⟨v0, v1, v2⟩ := fX3 w3 Q a2 n2 c2 _ rfl
  clear bD
  go_upto_region 7 with fail
  generalize w3.alloc (.cells #[.bool Q.1, .slice a2 n2 c2, .int .i64 Q.2.2] 27) = w4 at *
  generalize w3.heap.size = BY at *
  obtain ⟨z0, z1, z2, f0, f1, f2⟩ := Z
  go_wp2_with fail
  exact bodyPost_ret (v := .tuple #[dyV Q.1 a2 n2 c2 Q.2.2, .bool B, .int .i64 0]) (by simp [results, Tryz.results7, go_sem, z0, z1, z2]) rfl ⟨_, rfl, dyE HN2 hO2 z0 z1 z2, bl3 bA (by omega)⟩
end Go.Proofs.YtiijfnaaekmpbaaGreatDoor

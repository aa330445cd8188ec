/- ExactCases: every exact case of a function of one argument is told, and no other one. ExactPoints: every exact case of the angle of a point is told, and no other one. ExactOwn: answers are new memory. -/
import Derived.Test.YtiijfnaaekmpbaaGreatDoorCR
import Derived.Test.YtiijfnaaekmpbaaGreatDoorECI
import Derived.Test.YtiijfnaaekmpbaaGreatDoorED7
import Derived.Test.YtiijfnaaekmpbaaGreatDoorFX
import Derived.Test.YtiijfnaaekmpbaaGreatDoorED8
import Derived.LoopN

namespace Go.Proofs.YtiijfnaaekmpbaaGreatDoor
open Go.RowKit
theorem exV_len (f x : Int) : (wO (exV f x).1.2.1).length ≤ 1024 := (great_len _).1 ((great_not _).2 (Nat.le_trans (ex_few f x).1 (by decide)))
set_option maxRecDepth 100000 in
set_option maxHeartbeats 4000000 in
theorem exactCases_walk (f x : Int) (w : World) (hf : 0 ≤ f ∧ f ≤ 255) (hx : U x) (hT : TabE w) :
  Calls Tryz.prog 3 #[.int .u8 f, .int .u64 x] w fun q w' => q = .returned (.bool true) ∧ Below w.heap.size w w' := by
 have bA : Below w.heap.size w w := Below.refl _ _
 have LC : Hid _ := fun W (b : Below w.heap.size w W) => exLives_calls W (hT.kept b)
 have E1 : Hid _ := exact_calls f x w hx hT
 have E2 : Hid _ := fun W => dExact_calls f x W hf.1 hx
 have I1 : Hid _ := fun W => eIs_calls f W
 have I2 : Hid _ := fun W => dis_calls f W hf.1
 have J1 : Hid _ := fun W => eIs2_calls f W
 have J2 : Hid _ := fun W => dis2_calls f W
 have D1 : Hid _ := fun W (b : Below w.heap.size w W) => domain_calls f x W hx (hT.kept b)
 have D2 : Hid _ := fun W => dDomain_calls f x W hf.1 hx
 have HL : Hid _ := exV_len f x
 generalize exE f x = E at *
 generalize exV f x = V at *
 generalize isF f = BI at *
 generalize is2 f = BJ at *
 generalize exD f x = BD at *
 obtain ⟨P, S⟩ := V
 simp only at E1 E2 HL
 clear hx hT hf
 go_enter Tryz.func3, Tryz.ntmps3
 go_wp2_with fail
 refine cM E1.out ?_
 have lb := bA.size
 rintro q w1 ⟨_, rfl, ⟨a1, n1, c1, rfl, HN1, hn1, hO1⟩, b1⟩
 replace hO1 := hO1.low lb
 replace bA := nT bA b1
 clear b1 lb HN1
 have bD := below_one w1 (.cells #[.bool P.1, .slice a1 n1 c1, .int .i64 P.2.2] 27)
 replace hO1 := hO1.keep bD
 replace bA := nT bA bD
 obtain ⟨u0, u1, u2⟩ := fX3 w1 P a1 n1 c1 _ rfl
 clear bD
 go_upto_region 2 with fail
 generalize w1.alloc (.cells #[.bool P.1, .slice a1 n1 c1, .int .i64 P.2.2] 27) = w2 at *
 generalize w1.heap.size = B1 at *
 go_wp2_with fail
 refine cM (E2.out _) ?_
 have lb := bA.size
 rintro q w3 ⟨_, rfl, ⟨a2, n2, c2, rfl, HN2, hO2⟩, b1⟩
 replace hO2 := hO2.low lb
 have hn2 : n2 ≤ 1024 := by have := HN2.out; have := HL.out; omega
 obtain ⟨bA, hO1, u0, u1, u2⟩ := jkAOC3 b1 bA hO1 u0 u1 u2
 clear b1 lb HN2
 have bD := below_one w3 (.cells #[.bool P.1, .slice a2 n2 c2, .int .i64 P.2.2] 27)
 obtain ⟨u0, u1, u2⟩ := jkc bD u0 u1 u2
 replace hO1 := hO1.keep bD
 replace hO2 := hO2.keep bD
 replace bA := nT bA bD
 obtain ⟨v0, v1, v2⟩ := fX3 w3 P a2 n2 c2 _ rfl
 clear bD
 go_upto_region 3 with fail
 generalize w3.alloc (.cells #[.bool P.1, .slice a2 n2 c2, .int .i64 P.2.2] 27) = w4 at *
 generalize w3.heap.size = B2 at *
 go_wp2_with fail
 refine cM (LC.out _ bA) ?_
 rintro q w5 ⟨rfl, b1⟩
 revert u0 u1 u2 v0 v1 v2; refine cc6 b1 ?_; intro u0 u1 u2 v0 v1 v2
 replace hO1 := hO1.keep b1
 replace hO2 := hO2.keep b1
 replace bA := nT bA b1
 clear b1 LC
 go_wp2_with fail
 refine cM (sameE P P _ _ _ _ _ _ _ hO1.1 (by omega) hO2.1 (by omega)) ?_
 rintro q w6 ⟨rfl, b1⟩
 rw [sameB_self]
 replace bA := nT bA b1
 clear b1
 go_wp2_with fail
 refine cM (I1.out _) ?_
 rintro q w9 ⟨rfl, rfl⟩
 go_wp2_with fail
 refine cM (I2.out _) ?_
 rintro q w9 ⟨rfl, rfl⟩
 go_wp2_with fail
 refine cM (J1.out _) ?_
 rintro q w9 ⟨rfl, rfl⟩
 go_wp2_with fail
 refine cM (J2.out _) ?_
 rintro q w9 ⟨rfl, rfl⟩
 go_wp2_with fail
 refine cM (D1.out _ bA) ?_
 rintro q w9 ⟨rfl, b1⟩
 replace bA := nT bA b1
 clear b1
 go_wp2_with fail
 refine cM (D2.out _) ?_
 rintro q w9 ⟨rfl, b1⟩
 replace bA := nT bA b1
 clear b1
 go_wp2_with fail
 go_ret
 exact ⟨rfl, bA⟩
end Go.Proofs.YtiijfnaaekmpbaaGreatDoor

namespace Go.Proofs.YtiijfnaaekmpbaaGreatDoor
open Go.RowKit
theorem e2_len (f y x : Int) : (wO (e2V f y x).1.2.1).length ≤ 1024 := (great_len _).1 ((great_not _).2 (Nat.le_trans (e2_few f y x).1 (by decide)))
set_option maxRecDepth 100000 in
set_option maxHeartbeats 4000000 in
theorem exactPoints_walk (f y x : Int) (w : World) (_hf : 0 ≤ f ∧ f ≤ 255) (hy : U y) (hx : U x) (hT : TabE w) :
  Calls Tryz.prog 4 #[.int .u8 f, .int .u64 y, .int .u64 x] w fun q w' => q = .returned (.bool true) ∧ Below w.heap.size w w' := by
 have bA : Below w.heap.size w w := Below.refl _ _
 have LC : Hid _ := fun W (b : Below w.heap.size w W) => exLives_calls W (hT.kept b)
 have E1 : Hid _ := exact2_calls f y x w hy hx hT
 have E2 : Hid _ := fun W => dExact2_calls f y x W hy hx
 have HL : Hid _ := e2_len f y x
 generalize e2E f y x = E at *
 generalize e2V f y x = V at *
 obtain ⟨P, S⟩ := V
 simp only at E1 E2 HL
 clear hy hx hT _hf
 go_enter Tryz.func4, Tryz.ntmps4
 go_wp2_with fail
 refine cM E1.out ?_
 have lb := bA.size
 rintro q w1 ⟨_, rfl, ⟨a1, n1, c1, rfl, HN1, hn1, hO1⟩, b1⟩
 replace hO1 := hO1.low lb
 replace bA := nT bA b1
 clear b1 lb HN1
 have bD := below_one w1 (.cells #[.bool P.1, .slice a1 n1 c1, .int .i64 P.2.2] 27)
 replace hO1 := hO1.keep bD
 replace bA := nT bA bD
 obtain ⟨u0, u1, u2⟩ := fX3 w1 P a1 n1 c1 _ rfl
 clear bD
 go_upto_region 2 with fail
 generalize w1.alloc (.cells #[.bool P.1, .slice a1 n1 c1, .int .i64 P.2.2] 27) = w2 at *
 generalize w1.heap.size = B1 at *
 go_wp2_with fail
 refine cM (E2.out _) ?_
 have lb := bA.size
 rintro q w3 ⟨_, rfl, ⟨a2, n2, c2, rfl, HN2, hO2⟩, b1⟩
 replace hO2 := hO2.low lb
 have hn2 : n2 ≤ 1024 := by have := HN2.out; have := HL.out; omega
 obtain ⟨bA, hO1, u0, u1, u2⟩ := jkAOC3 b1 bA hO1 u0 u1 u2
 clear b1 lb HN2
 have bD := below_one w3 (.cells #[.bool P.1, .slice a2 n2 c2, .int .i64 P.2.2] 27)
 obtain ⟨u0, u1, u2⟩ := jkc bD u0 u1 u2
 replace hO1 := hO1.keep bD
 replace hO2 := hO2.keep bD
 replace bA := nT bA bD
 obtain ⟨v0, v1, v2⟩ := fX3 w3 P a2 n2 c2 _ rfl
 clear bD
 go_upto_region 3 with fail
 generalize w3.alloc (.cells #[.bool P.1, .slice a2 n2 c2, .int .i64 P.2.2] 27) = w4 at *
 generalize w3.heap.size = B2 at *
 go_wp2_with fail
 refine cM (LC.out _ bA) ?_
 rintro q w5 ⟨rfl, b1⟩
 revert u0 u1 u2 v0 v1 v2; refine cc6 b1 ?_; intro u0 u1 u2 v0 v1 v2
 replace hO1 := hO1.keep b1
 replace hO2 := hO2.keep b1
 replace bA := nT bA b1
 clear b1 LC
 go_wp2_with fail
 refine cM (sameE P P _ _ _ _ _ _ _ hO1.1 (by omega) hO2.1 (by omega)) ?_
 rintro q w6 ⟨rfl, b1⟩
 rw [sameB_self]
 replace bA := nT bA b1
 clear b1
 go_wp2_with fail
 go_ret
 exact ⟨rfl, bA⟩
end Go.Proofs.YtiijfnaaekmpbaaGreatDoor

namespace Go.Proofs.YtiijfnaaekmpbaaGreatDoor
open Go.RowKit
def Spo (w w' : World) : Prop := (∀ (p : Addr) (v : Value), w.cell? p = some v → (∀ j : Int, v ≠ .int .u64 j) → w'.cell? p = some v) ∧ (∀ (p : Addr) (j : Int), w.cell? p = some (.int .u64 j) → ∃ j', w'.cell? p = some (.int .u64 j')) ∧ ∀ p, w'.frozen? p = w.frozen? p
theorem Spo.refl (w : World) : Spo w w := ⟨fun _ _ h _ => h, fun _ j h => ⟨j, h⟩, fun _ => rfl⟩
theorem Spo.set {a b : World} (h : Spo a b) (q : Addr) {j0 : Int} (hq : a.cell? q = some (.int .u64 j0)) (x : Int) : Spo a (b.setCell q (.int .u64 x)) := by
 obtain ⟨j1, hq1⟩ := h.2.1 q j0 hq
 refine ⟨fun p v hp hv => ?_, fun p j hp => ?_, fun p => (World.frozen?_setCell b _ _ _).trans (h.2.2 p)⟩
 ·have hne : q ≠ p := fun e => by
   rw [← e, hq] at hp
   injection hp with hp
   exact hv _ hp.symm
  rw [World.cell?_setCell_other _ _ _ _ hne]
  exact h.1 p v hp hv
 ·by_cases e : q = p
  ·subst e
   exact ⟨x, World.cell?_setCell_same _ _ _ hq1⟩
  ·rw [World.cell?_setCell_other _ _ _ _ e]
   exact h.2.1 p j hp
def Wro (B : Nat) (w : World) (a : Option Addr) (n : Nat) : Prop := ∀ i, i < n → ∃ b off j, a = some ⟨b, off, none⟩ ∧ B ≤ b ∧ w.cell? ⟨b, off + i, none⟩ = some (.int .u64 j) ∧ w.frozen? ⟨b, off + i, none⟩ = false
theorem Wro.of {B : Nat} {w : World} {a : Option Addr} {n c : Nat} {xs : List Int} (h : OwnW B w a n c xs) : Wro B w a n := fun i hi => by
 obtain ⟨b, off, e1, e2, e3⟩ := h.1.2.2.2 i hi
 obtain ⟨h1, h2⟩ := h.2 b off i e1 hi
 exact ⟨b, off, _, e1, h1, e3, h2⟩
theorem Wro.sp {B : Nat} {w w' : World} {a : Option Addr} {n : Nat} (h : Wro B w a n) (k : Spo w w') : Wro B w' a n := fun i hi => by
 obtain ⟨b, off, j, e1, e2, e3, e4⟩ := h i hi
 obtain ⟨j', q⟩ := k.2.1 _ _ e3
 exact ⟨b, off, j', e1, e2, q, (k.2.2 _).trans e4⟩
attribute [local go_sem ↓] Go.wp_at_zero Go.wp_at_succ
set_option maxRecDepth 100000 in
set_option maxHeartbeats 4000000 in
theorem exactOwn_walk (f y x : Int) (w : World) (hf : 0 ≤ f ∧ f ≤ 255) (hy : U y) (hx : U x) (hT : TabE w) :
  Calls Tryz.prog 5 #[.int .u8 f, .int .u64 y, .int .u64 x] w fun q w' => q = .returned (.bool true) ∧ Below w.heap.size w w' := by
 have bA : Below w.heap.size w w := Below.refl _ _
 have LC : Hid _ := exLives_calls w hT
 have E1 : Hid _ := fun W (b : Below w.heap.size w W) => exact_calls f x W hx (hT.kept b)
 have E2 : Hid _ := fun W (b : Below w.heap.size w W) => exact2_calls f y x W hy hx (hT.kept b)
 have CC : Hid _ := fun W (b : Below w.heap.size w W) => exactCases_walk f x W hf hx (hT.kept b)
 have CP : Hid _ := fun W (b : Below w.heap.size w W) => exactPoints_walk f y x W hf hy hx (hT.kept b)
 generalize exE f x = X1 at *
 generalize exV f x = V1 at *
 generalize e2E f y x = X2 at *
 generalize e2V f y x = V2 at *
 obtain ⟨P, S⟩ := V1
 obtain ⟨Q, T⟩ := V2
 simp only at E1 E2
 clear hx hy hT hf
 go_enter Tryz.func5, Tryz.ntmps5
 go_wp2_with fail
 refine cM LC.out ?_
 rintro q w0 ⟨rfl, b1⟩
 replace bA := nT bA b1
 clear b1 LC
 go_wp2_with fail
 refine cM (E1.out _ bA) ?_
 have lb := bA.size
 rintro q w1 ⟨_, rfl, ⟨a1, n1, c1, rfl, HN1, hn1, hO1⟩, b1⟩
 replace hO1 := hO1.low lb
 replace bA := nT bA b1
 clear b1 lb HN1
 have bD := below_one w1 (.cells #[.bool P.1, .slice a1 n1 c1, .int .i64 P.2.2] 27)
 replace hO1 := hO1.keep bD
 replace bA := nT bA bD
 obtain ⟨u0, u1, u2⟩ := fX3 w1 P a1 n1 c1 _ rfl
 clear bD
 go_upto_region 4 with fail
 generalize w1.alloc (.cells #[.bool P.1, .slice a1 n1 c1, .int .i64 P.2.2] 27) = w2 at *
 generalize w1.heap.size = B1 at *
 go_wp2_with fail
 refine cM (E2.out _ bA) ?_
 have lb := bA.size
 rintro q w3 ⟨_, rfl, ⟨a2, n2, c2, rfl, HN2, hn2, hO2⟩, b1⟩
 replace hO2 := hO2.low lb
 obtain ⟨bA, hO1, u0, u1, u2⟩ := jkAOC3 b1 bA hO1 u0 u1 u2
 clear b1 lb HN2
 have bD := below_one w3 (.cells #[.bool Q.1, .slice a2 n2 c2, .int .i64 Q.2.2] 27)
 obtain ⟨u0, u1, u2⟩ := jkc bD u0 u1 u2
 replace hO1 := hO1.keep bD
 replace hO2 := hO2.keep bD
 replace bA := nT bA bD
 obtain ⟨v0, v1, v2⟩ := fX3 w3 Q a2 n2 c2 _ rfl
 clear bD
 go_upto_region 5 with fail
 generalize w3.alloc (.cells #[.bool Q.1, .slice a2 n2 c2, .int .i64 Q.2.2] 27) = w4 at *
 generalize w3.heap.size = B2 at *
 have HW1 : Hid (Wro w.heap.size w4 a1 n1) := Wro.of hO1
 have HW2 : Hid (Wro w.heap.size w4 a2 n2) := Wro.of hO2
 clear hO1 hO2 u0 u2 v0 v2 E1 E2
 go_wp2_with fail
 go_loopw [35] (fun vi wr => ∃ i : Nat, i ≤ n1 ∧ vi = .int .i64 (i : Int) ∧ Below w.heap.size w wr ∧ Spo w4 wr) (fun vi _ => n1 - (intOf vi).toNat)
 case atStart => exact ⟨0, by omega, rfl, bA, Spo.refl _⟩
 case round =>
  obtain ⟨i, hi, rfl, hr, hs⟩ := hrel
  have g1 := hs.1 _ _ u1 (fun j q => by cases q)
  by_cases hlt : i < n1
  ·clear CC CP
   obtain ⟨b, off, j, e1, hb, e3, e4⟩ := HW1.out i hlt
   subst e1
   obtain ⟨j', e5⟩ := hs.2.1 _ _ e3
   have e6 := (hs.2.2 ⟨b, off + i, none⟩).trans e4
   have hs2 := hs.set ⟨b, off + i, none⟩ e3 77
   have hr2 := hr.setCell (p := ⟨b, off + i, none⟩) hb (.int .u64 77)
   clear hs hr e3 e4
   go_wp2_with fail
   refine ⟨⟨i + 1, by omega, by go_num, hr2, hs2⟩, by simp [intOf]; omega⟩
  ·have hin : i = n1 := by omega
   subst hin
   clear hlt hi
   replace v1 := hs.1 _ _ v1 (fun j q => by cases q)
   replace HW2 : Hid (Wro w.heap.size wr a2 n2) := Wro.sp HW2.out hs
   replace bA := hr
   clear HW1 hs g1 u1 hr
   go_wp2_with fail
   go_loopw [46] (fun vi wq => ∃ i : Nat, i ≤ n2 ∧ vi = .int .i64 (i : Int) ∧ Below w.heap.size w wq ∧ Spo wr wq) (fun vi _ => n2 - (intOf vi).toNat)
   case atStart => exact ⟨0, by omega, rfl, bA, Spo.refl _⟩
   case round =>
    obtain ⟨i, hi, rfl, hr, hs⟩ := hrel
    have g1 := hs.1 _ _ v1 (fun j q => by cases q)
    by_cases hlt : i < n2
    ·clear CC CP
     obtain ⟨b, off, j, e1, hb, e3, e4⟩ := HW2.out i hlt
     subst e1
     obtain ⟨j', e5⟩ := hs.2.1 _ _ e3
     have e6 := (hs.2.2 ⟨b, off + i, none⟩).trans e4
     have hs2 := hs.set ⟨b, off + i, none⟩ e3 77
     have hr2 := hr.setCell (p := ⟨b, off + i, none⟩) hb (.int .u64 77)
     clear hs hr e3 e4
     go_wp2_with fail
     refine ⟨⟨i + 1, by omega, by go_num, hr2, hs2⟩, by simp [intOf]; omega⟩
    ·have hin : i = n2 := by omega
     subst hin
     clear hlt hi
     clear HW2 hs g1 v1
     go_wp2_with fail
     refine cM (CC.out _ hr) ?_
     rintro q w9 ⟨rfl, b1⟩
     replace hr := nT hr b1
     clear b1
     go_wp2_with fail
     refine cM (CP.out _ hr) ?_
     rintro q w8 ⟨rfl, b1⟩
     replace hr := nT hr b1
     clear b1
     go_wp2_with fail
     go_ret
     exact ⟨rfl, hr⟩
end Go.Proofs.YtiijfnaaekmpbaaGreatDoor

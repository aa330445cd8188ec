/- ExactCases: every exact case of a function of one argument is told, and no other one. -/
import Derived.Test.YtiijfnaaekmpbaaGreatDoorCR
import Derived.Test.YtiijfnaaekmpbaaGreatDoorECI
import Derived.Test.YtiijfnaaekmpbaaGreatDoorED7
import Derived.Test.YtiijfnaaekmpbaaGreatDoorFX
namespace Go.Proofs.YtiijfnaaekmpbaaGreatDoor
open Go.RowKit
theorem exV_len (f x : Int) : (wO (exV f x).1.2.1).length ≤ 1024 := (great_len _).1 ((great_not _).2 (Nat.le_trans (ex_few f x).1 (by decide)))
set_option maxRecDepth 100000 in
set_option maxHeartbeats 4000000 in
theorem exactCases_walk (f x : Int) (w : World) (hf : 0 ≤ f ∧ f ≤ 255) (hx : U x) (hT : TabE w) :
  Calls Tryz.prog 3 #[.int .u8 f, .int .u64 x] w fun q w' => q = .returned (.bool true) ∧ Below w.heap.size w w' := by
 have bA : Below w.heap.size w w := Below.refl _ _
 have LC : Hid _ := fun W (b : Below w.heap.size w W) => exLives_calls W (hT.kept b)
 have E1 : Hid _ := exact_calls f x w hx hT
 have E2 : Hid _ := fun W => dExact_calls f x W hf.1 hx
 have I1 : Hid _ := fun W => eIs_calls f W
 have I2 : Hid _ := fun W => dis_calls f W hf.1
 have J1 : Hid _ := fun W => eIs2_calls f W
 have J2 : Hid _ := fun W => dis2_calls f W
 have D1 : Hid _ := fun W (b : Below w.heap.size w W) => domain_calls f x W hx (hT.kept b)
 have D2 : Hid _ := fun W => dDomain_calls f x W hf.1 hx
 have HL : Hid _ := exV_len f x
 generalize exE f x = E at *
 generalize exV f x = V at *
 generalize isF f = BI at *
 generalize is2 f = BJ at *
 generalize exD f x = BD at *
 obtain ⟨P, S⟩ := V
 simp only at E1 E2 HL
 clear hx hT hf
 go_enter Tryz.func3, Tryz.ntmps3
 go_wp2_with fail
 refine cM E1.out ?_
 have lb := bA.size
 rintro q w1 ⟨_, rfl, ⟨a1, n1, c1, rfl, HN1, hn1, hO1⟩, b1⟩
 replace hO1 := hO1.low lb
 replace bA := nT bA b1
 clear b1 lb HN1
 have bD := below_one w1 (.cells #[.bool P.1, .slice a1 n1 c1, .int .i64 P.2.2] 27)
 replace hO1 := hO1.keep bD
 replace bA := nT bA bD
 obtain ⟨u0, u1, u2⟩ := fX3 w1 P a1 n1 c1 _ rfl
 clear bD
 go_upto_region 2 with fail
 generalize w1.alloc (.cells #[.bool P.1, .slice a1 n1 c1, .int .i64 P.2.2] 27) = w2 at *
 generalize w1.heap.size = B1 at *
 go_wp2_with fail
 refine cM (E2.out _) ?_
 have lb := bA.size
 rintro q w3 ⟨_, rfl, ⟨a2, n2, c2, rfl, HN2, hO2⟩, b1⟩
 replace hO2 := hO2.low lb
 have hn2 : n2 ≤ 1024 := by have := HN2.out; have := HL.out; omega
 obtain ⟨bA, hO1, u0, u1, u2⟩ := jkAOC3 b1 bA hO1 u0 u1 u2
 clear b1 lb HN2
 have bD := below_one w3 (.cells #[.bool P.1, .slice a2 n2 c2, .int .i64 P.2.2] 27)
 obtain ⟨u0, u1, u2⟩ := jkc bD u0 u1 u2
 replace hO1 := hO1.keep bD
 replace hO2 := hO2.keep bD
 replace bA := nT bA bD
 obtain ⟨v0, v1, v2⟩ := fX3 w3 P a2 n2 c2 _ rfl
 clear bD
 go_upto_region 3 with fail
 generalize w3.alloc (.cells #[.bool P.1, .slice a2 n2 c2, .int .i64 P.2.2] 27) = w4 at *
 generalize w3.heap.size = B2 at *
 go_wp2_with fail
 refine cM (LC.out _ bA) ?_
 rintro q w5 ⟨rfl, b1⟩
 revert u0 u1 u2 v0 v1 v2; refine cc6 b1 ?_; intro u0 u1 u2 v0 v1 v2
 replace hO1 := hO1.keep b1
 replace hO2 := hO2.keep b1
 replace bA := nT bA b1
 clear b1 LC
 go_wp2_with fail
 refine cM (sameE P P _ _ _ _ _ _ _ hO1.1 (by omega) hO2.1 (by omega)) ?_
 rintro q w6 ⟨rfl, b1⟩
 rw [sameB_self]
 replace bA := nT bA b1
 clear b1
 go_wp2_with fail
 refine cM (I1.out _) ?_
 rintro q w9 ⟨rfl, rfl⟩
 go_wp2_with fail
 refine cM (I2.out _) ?_
 rintro q w9 ⟨rfl, rfl⟩
 go_wp2_with fail
 refine cM (J1.out _) ?_
 rintro q w9 ⟨rfl, rfl⟩
 go_wp2_with fail
 refine cM (J2.out _) ?_
 rintro q w9 ⟨rfl, rfl⟩
 go_wp2_with fail
 refine cM (D1.out _ bA) ?_
 rintro q w9 ⟨rfl, b1⟩
 replace bA := nT bA b1
 clear b1
 go_wp2_with fail
 refine cM (D2.out _) ?_
 rintro q w9 ⟨rfl, b1⟩
 replace bA := nT bA b1
 clear b1
 go_wp2_with fail
 go_ret
 exact ⟨rfl, bA⟩
end Go.Proofs.YtiijfnaaekmpbaaGreatDoor

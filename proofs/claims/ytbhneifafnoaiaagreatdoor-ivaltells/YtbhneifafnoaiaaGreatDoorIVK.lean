/- The first question of the statements on intervals: a third, to two bits; a sum. -/
import Derived.Test.YtbhneifafnoaiaaGreatDoorCR2
import Derived.Test.YtbhneifafnoaiaaGreatDoorCR
import Derived.Test.YtbhneifafnoaiaaGreatDoorAL
import Derived.Test.YtbhneifafnoaiaaGreatDoorIVJ
import Derived.Test.YtbhneifafnoaiaaGreatDoorTMS
import Derived.Deep.CutRange
import Derived.Test.YtbhneifafnoaiaaGreatDoorFX
namespace Go.Proofs.YtbhneifafnoaiaaGreatDoor
open Go.RowKit
theorem isW_lit (w : World) (m : Int) (h0 : 0 ≤ m) (h1 : m ≤ 18446744073709551615) : IsW (w.alloc (.cells #[.int .u64 m] 49)) (some ⟨w.heap.size, 0, none⟩) 1 1 [m] :=
 ⟨rfl, fun x hx => by simp at hx; subst hx; exact ⟨h0, h1⟩, ⟨Nat.le_refl _, fun q => by cases q⟩, fun i hi => ⟨w.heap.size, 0, rfl, by simp, by
  obtain rfl : i = 0 := by omega
  go_simp⟩⟩
theorem six_same {W : World} {r : Nat} {x0 x1 x2 x3 x4 x5 : Value} (h0 : W.cell? ⟨r, 0, none⟩ = some x0) (h1 : W.cell? ⟨r, 1, none⟩ = some x1) (h2 : W.cell? ⟨r, 2, none⟩ = some x2) (h3 : W.cell? ⟨r, 3, none⟩ = some x3) (h4 : W.cell? ⟨r, 4, none⟩ = some x4) (h5 : W.cell? ⟨r, 5, none⟩ = some x5) (v0 v1 v2 v3 v4 v5 : Value) :
  ((((((W.setCell ⟨r, 0, none⟩ v0).setCell ⟨r, 1, none⟩ v1).setCell ⟨r, 2, none⟩ v2).setCell ⟨r, 3, none⟩ v3).setCell ⟨r, 4, none⟩ v4).setCell ⟨r, 5, none⟩ v5).cell? ⟨r, 0, none⟩ = some v0 ∧ ((((((W.setCell ⟨r, 0, none⟩ v0).setCell ⟨r, 1, none⟩ v1).setCell ⟨r, 2, none⟩ v2).setCell ⟨r, 3, none⟩ v3).setCell ⟨r, 4, none⟩ v4).setCell ⟨r, 5, none⟩ v5).cell? ⟨r, 1, none⟩ = some v1 ∧ ((((((W.setCell ⟨r, 0, none⟩ v0).setCell ⟨r, 1, none⟩ v1).setCell ⟨r, 2, none⟩ v2).setCell ⟨r, 3, none⟩ v3).setCell ⟨r, 4, none⟩ v4).setCell ⟨r, 5, none⟩ v5).cell? ⟨r, 2, none⟩ = some v2 ∧ ((((((W.setCell ⟨r, 0, none⟩ v0).setCell ⟨r, 1, none⟩ v1).setCell ⟨r, 2, none⟩ v2).setCell ⟨r, 3, none⟩ v3).setCell ⟨r, 4, none⟩ v4).setCell ⟨r, 5, none⟩ v5).cell? ⟨r, 3, none⟩ = some v3 ∧ ((((((W.setCell ⟨r, 0, none⟩ v0).setCell ⟨r, 1, none⟩ v1).setCell ⟨r, 2, none⟩ v2).setCell ⟨r, 3, none⟩ v3).setCell ⟨r, 4, none⟩ v4).setCell ⟨r, 5, none⟩ v5).cell? ⟨r, 4, none⟩ = some v4 ∧ ((((((W.setCell ⟨r, 0, none⟩ v0).setCell ⟨r, 1, none⟩ v1).setCell ⟨r, 2, none⟩ v2).setCell ⟨r, 3, none⟩ v3).setCell ⟨r, 4, none⟩ v4).setCell ⟨r, 5, none⟩ v5).cell? ⟨r, 5, none⟩ = some v5 := by
 refine ⟨?_, ?_, ?_, ?_, ?_, ?_⟩ <;> simp [World.cell?_setCell_other, go_sem, h0, h1, h2, h3, h4, h5]
section
variable {a1 a2 a3 a4 a5 a6 a9 a10 a11 a12 : Option Addr} {n1 c1 n2 c2 n3 c3 n4 c4 n5 c5 n6 c6 n9 c9 n10 c10 n11 c11 n12 c12 G4 G6 : Nat}
theorem third_L : dvL (mT (false, 1, 0) a1 n1 c1) (mT (false, 1, 0) a2 n2 c2) (mT (false, 3, 0) a3 n3 c3) (mT (false, 3, 0) a4 n4 c4) 2 = (false, 1, -2) := by
 show dvL (mT (false, 1, 0) none 0 0) (mT (false, 1, 0) none 0 0) (mT (false, 3, 0) none 0 0) (mT (false, 3, 0) none 0 0) 2 = (false, 1, -2)
 decide +kernel
theorem third_H : dvH (mT (false, 1, 0) a1 n1 c1) (mT (false, 1, 0) a2 n2 c2) (mT (false, 3, 0) a3 n3 c3) (mT (false, 3, 0) a4 n4 c4) 2 = (false, 3, -3) := by
 show dvH (mT (false, 1, 0) none 0 0) (mT (false, 1, 0) none 0 0) (mT (false, 3, 0) none 0 0) (mT (false, 3, 0) none 0 0) 2 = (false, 3, -3)
 decide +kernel
theorem third_E : dvE (mT (false, 1, 0) a1 n1 c1) (mT (false, 1, 0) a2 n2 c2) (mT (false, 3, 0) a3 n3 c3) (mT (false, 3, 0) a4 n4 c4) 2 = 0 := by
 show dvE (mT (false, 1, 0) none 0 0) (mT (false, 1, 0) none 0 0) (mT (false, 3, 0) none 0 0) (mT (false, 3, 0) none 0 0) 2 = 0
 decide +kernel
theorem lit_same : (smT (mT (false, 1, -2) a5 n5 c5) (false, some ⟨G4, 0, none⟩, 1, 1, [1], -2) && smT (mT (false, 3, -3) a6 n6 c6) (false, some ⟨G6, 0, none⟩, 1, 1, [3], -3)) = true := by
 show (smT (mT (false, 1, -2) none 0 0) (false, none, 1, 1, [1], -2) && smT (mT (false, 3, -3) none 0 0) (false, none, 1, 1, [3], -3)) = true
 decide +kernel
theorem lit_same2 : (smT (mT (false, 1, 2) a9 n9 c9) (mT (false, 1, 2) a11 n11 c11) && smT (mT (false, 3, 1) a10 n10 c10) (mT (false, 3, 1) a12 n12 c12)) = true := by
 show (smT (mT (false, 1, 2) none 0 0) (mT (false, 1, 2) none 0 0) && smT (mT (false, 3, 1) none 0 0) (mT (false, 3, 1) none 0 0)) = true
 decide +kernel
end
set_option maxRecDepth 100000 in
set_option maxHeartbeats 32000000 in
theorem ivBegins_calls (w : World) (hT : Tab w) :
  Calls Tryz.prog 14 #[] w fun r w' => r = .returned (.bool true) ∧ Below w.heap.size w w' := by
 have I1 : Hid _ := fun w' => qint_calls 1 (by omega) w'
 have I3 : Hid _ := fun w' => qint_calls 3 (by omega) w'
 have I2 : Hid _ := fun w' => qint_calls 2 (by omega) w'
 have I4 : Hid _ := fun w' => qint_calls 4 (by omega) w'
 have I6 : Hid _ := fun w' => qint_calls 6 (by omega) w'
 rw [show intD 1 = (false, 1, 0) by decide +kernel] at I1
 rw [show intD 3 = (false, 3, 0) by decide +kernel] at I3
 rw [show intD 2 = (false, 1, 1) by decide +kernel] at I2
 rw [show intD 4 = (false, 1, 2) by decide +kernel] at I4
 rw [show intD 6 = (false, 3, 1) by decide +kernel] at I6
 have bA := Below.refl w.heap.size w
 have tt := hT
 clear hT
 go_enter Tryz.func14, Tryz.ntmps14
 go_wp2_with fail
 refine Calls.mono (I1.out _) ?_
 rintro r w1 ⟨_, rfl, ⟨a1, n1, c1, rfl, N1, O1⟩, bN⟩
 have L1 : Hid (n1 ≤ 1024) := by have q : n1 = (wO 1).length := N1.out; rw [show (wO 1).length = 1 by decide +kernel] at q; rw [Hid]; omega
 replace O1 : OwnW w.heap.size w1 a1 n1 c1 (wO 1) := OwnW.low O1 bA.size
 clear N1
 replace tt := tt.kept bN
 replace bA := nT bA bN
 clear bN
 go_wp2_with fail
 refine Calls.mono (I1.out _) ?_
 rintro r w2 ⟨_, rfl, ⟨a2, n2, c2, rfl, N2, O2⟩, bN⟩
 have L2 : Hid (n2 ≤ 1024) := by have q : n2 = (wO 1).length := N2.out; rw [show (wO 1).length = 1 by decide +kernel] at q; rw [Hid]; omega
 replace O2 : OwnW w.heap.size w2 a2 n2 c2 (wO 1) := OwnW.low O2 bA.size
 clear N2
 replace O1 := O1.keep bN
 replace tt := tt.kept bN
 replace bA := nT bA bN
 clear bN
 have bB := below_one w2 (.cells #[.bool false, .slice a1 n1 c1, .int .i64 0, .bool false, .slice a2 n2 c2, .int .i64 0] 27)
 obtain ⟨s0, s1, s2, s3, s4, s5⟩ := fX18 w2 a1 n1 c1 a2 n2 c2 _ rfl
 have bN := bB
 clear bB
 replace O1 := O1.keep bN
 replace O2 := O2.keep bN
 replace tt := tt.kept bN
 replace bA := nT bA bN
 clear bN
 go_wp2_with fail
 generalize hs1 : w2.heap.size = B1 at *
 generalize (w2.alloc (.cells #[.bool false, .slice a1 n1 c1, .int .i64 0, .bool false, .slice a2 n2 c2, .int .i64 0] 27)) = w3 at *
 clear hs1
 refine Calls.mono (I3.out _) ?_
 rintro r w4 ⟨_, rfl, ⟨a3, n3, c3, rfl, N3, O3⟩, bN⟩
 have L3 : Hid (n3 ≤ 1024) := by have q : n3 = (wO 3).length := N3.out; rw [show (wO 3).length = 1 by decide +kernel] at q; rw [Hid]; omega
 replace O3 : OwnW w.heap.size w4 a3 n3 c3 (wO 3) := OwnW.low O3 bA.size
 clear N3
 revert s0 s1 s2 s3 s4 s5; refine cc6 bN ?_; intro s0 s1 s2 s3 s4 s5
 replace O1 := O1.keep bN
 replace O2 := O2.keep bN
 replace tt := tt.kept bN
 replace bA := nT bA bN
 clear bN
 go_wp2_with fail
 refine Calls.mono (I3.out _) ?_
 rintro r w5 ⟨_, rfl, ⟨a4, n4, c4, rfl, N4, O4⟩, bN⟩
 have L4 : Hid (n4 ≤ 1024) := by have q : n4 = (wO 3).length := N4.out; rw [show (wO 3).length = 1 by decide +kernel] at q; rw [Hid]; omega
 replace O4 : OwnW w.heap.size w5 a4 n4 c4 (wO 3) := OwnW.low O4 bA.size
 clear N4
 revert s0 s1 s2 s3 s4 s5; refine cc6 bN ?_; intro s0 s1 s2 s3 s4 s5
 replace O1 := O1.keep bN
 replace O2 := O2.keep bN
 replace O3 := O3.keep bN
 replace tt := tt.kept bN
 replace bA := nT bA bN
 clear bN
 have bB := below_one w5 (.cells #[.bool false, .slice a3 n3 c3, .int .i64 0, .bool false, .slice a4 n4 c4, .int .i64 0] 27)
 obtain ⟨t0, t1, t2, t3, t4, t5⟩ := fX18 w5 a3 n3 c3 a4 n4 c4 _ rfl
 have bN := bB
 clear bB
 revert s0 s1 s2 s3 s4 s5; refine cc6 bN ?_; intro s0 s1 s2 s3 s4 s5
 replace O1 := O1.keep bN
 replace O2 := O2.keep bN
 replace O3 := O3.keep bN
 replace O4 := O4.keep bN
 replace tt := tt.kept bN
 replace bA := nT bA bN
 clear bN
 go_wp2_with fail
 generalize hs2 : w5.heap.size = B2 at *
 clear hs2
 generalize (w5.alloc (.cells #[.bool false, .slice a3 n3 c3, .int .i64 0, .bool false, .slice a4 n4 c4, .int .i64 0] 27)) = w5 at *
 have HD : Hid _ := iDiv_calls (mT (false, 1, 0) a1 n1 c1) (mT (false, 1, 0) a2 n2 c2) (mT (false, 3, 0) a3 n3 c3) (mT (false, 3, 0) a4 n4 c4) 2 w5 ⟨O1.1, by have := L1.out; show n1 ≤ _; omega⟩ ⟨O2.1, by have := L2.out; show n2 ≤ _; omega⟩ ⟨O3.1, by have := L3.out; show n3 ≤ _; omega⟩ ⟨O4.1, by have := L4.out; show n4 ≤ _; omega⟩ tt
 have d1 : dvL (mT (false, 1, 0) a1 n1 c1) (mT (false, 1, 0) a2 n2 c2) (mT (false, 3, 0) a3 n3 c3) (mT (false, 3, 0) a4 n4 c4) 2 = (false, 1, -2) := third_L
 have d2 : dvH (mT (false, 1, 0) a1 n1 c1) (mT (false, 1, 0) a2 n2 c2) (mT (false, 3, 0) a3 n3 c3) (mT (false, 3, 0) a4 n4 c4) 2 = (false, 3, -3) := third_H
 have d3 : dvE (mT (false, 1, 0) a1 n1 c1) (mT (false, 1, 0) a2 n2 c2) (mT (false, 3, 0) a3 n3 c3) (mT (false, 3, 0) a4 n4 c4) 2 = 0 := third_E
 rw [d1, d2, d3] at HD
 clear d1 d2 d3
 refine Calls.mono HD.out ?_
 rintro r w6 ⟨⟨a5, n5, c5, a6, n6, c6, rfl, Q5, Q6⟩, bN⟩
 have L5 : Hid (n5 ≤ 1024) := Q5.1
 have L6 : Hid (n6 ≤ 1024) := Q6.1
 have O5 : OwnW w.heap.size w6 a5 n5 c5 (wO 1) := Q5.2.low bA.size
 have O6 : OwnW w.heap.size w6 a6 n6 c6 (wO 3) := Q6.2.low bA.size
 clear Q5 Q6 HD
 revert t0 t1 t2 t3 t4 t5; refine cc6 bN ?_; intro t0 t1 t2 t3 t4 t5
 revert s0 s1 s2 s3 s4 s5; refine cc6 bN ?_; intro s0 s1 s2 s3 s4 s5
 replace O1 := O1.keep bN
 replace O2 := O2.keep bN
 replace O3 := O3.keep bN
 replace O4 := O4.keep bN
 replace tt := tt.kept bN
 replace bA := nT bA bN
 clear bN
 have bB := below_one w6 (.cells #[.bool false, .slice a5 n5 c5, .int .i64 (-2), .bool false, .slice a6 n6 c6, .int .i64 (-3)] 27)
 have u0 : (w6.alloc (.cells #[.bool false, .slice a5 n5 c5, .int .i64 (-2), .bool false, .slice a6 n6 c6, .int .i64 (-3)] 27)).cell? ⟨w6.heap.size, 0, none⟩ = some (.bool false) := by go_simp
 have u1 : (w6.alloc (.cells #[.bool false, .slice a5 n5 c5, .int .i64 (-2), .bool false, .slice a6 n6 c6, .int .i64 (-3)] 27)).cell? ⟨w6.heap.size, 1, none⟩ = some (.slice a5 n5 c5) := by go_simp
 have u2 : (w6.alloc (.cells #[.bool false, .slice a5 n5 c5, .int .i64 (-2), .bool false, .slice a6 n6 c6, .int .i64 (-3)] 27)).cell? ⟨w6.heap.size, 2, none⟩ = some (.int .i64 (-2)) := by go_simp
 have u3 : (w6.alloc (.cells #[.bool false, .slice a5 n5 c5, .int .i64 (-2), .bool false, .slice a6 n6 c6, .int .i64 (-3)] 27)).cell? ⟨w6.heap.size, 3, none⟩ = some (.bool false) := by go_simp
 have u4 : (w6.alloc (.cells #[.bool false, .slice a5 n5 c5, .int .i64 (-2), .bool false, .slice a6 n6 c6, .int .i64 (-3)] 27)).cell? ⟨w6.heap.size, 4, none⟩ = some (.slice a6 n6 c6) := by go_simp
 have u5 : (w6.alloc (.cells #[.bool false, .slice a5 n5 c5, .int .i64 (-2), .bool false, .slice a6 n6 c6, .int .i64 (-3)] 27)).cell? ⟨w6.heap.size, 5, none⟩ = some (.int .i64 (-3)) := by go_simp
 have bN := bB
 clear bB
 revert t0 t1 t2 t3 t4 t5; refine cc6 bN ?_; intro t0 t1 t2 t3 t4 t5
 revert s0 s1 s2 s3 s4 s5; refine cc6 bN ?_; intro s0 s1 s2 s3 s4 s5
 replace O1 := O1.keep bN
 replace O2 := O2.keep bN
 replace O3 := O3.keep bN
 replace O4 := O4.keep bN
 replace O5 := O5.keep bN
 replace O6 := O6.keep bN
 replace tt := tt.kept bN
 replace bA := nT bA bN
 clear bN
 go_upto_region 4 with fail
 generalize hs3 : w6.heap.size = B3 at *
 clear hs3
 generalize (w6.alloc (.cells #[.bool false, .slice a5 n5 c5, .int .i64 (-2), .bool false, .slice a6 n6 c6, .int .i64 (-3)] 27)) = w7 at *
 go_cut [5, 6] from 21 to 28 (fun s5 s6 wx => ∃ (a9 : Option Addr) (n9 c9 : Nat) (a10 : Option Addr) (n10 c10 : Nat) (YB : Nat), s5 = .pointer (some ⟨YB, 0, none⟩) ∧ s6 = .int .i64 0 ∧ Hid (n9 ≤ 1024) ∧ Hid (n10 ≤ 1024) ∧ OwnW w7.heap.size wx a9 n9 c9 (wO 1) ∧ OwnW w7.heap.size wx a10 n10 c10 (wO 3) ∧ wx.cell? ⟨YB, 0, none⟩ = some (.bool false) ∧ wx.cell? ⟨YB, 1, none⟩ = some (.slice a9 n9 c9) ∧ wx.cell? ⟨YB, 2, none⟩ = some (.int .i64 2) ∧ wx.cell? ⟨YB, 3, none⟩ = some (.bool false) ∧ wx.cell? ⟨YB, 4, none⟩ = some (.slice a10 n10 c10) ∧ wx.cell? ⟨YB, 5, none⟩ = some (.int .i64 1) ∧ Below w7.heap.size w7 wx)
 case first =>
  have R : Below w7.heap.size w7 (World.drew w7) := (Below.refl _ _).drew
  refine wp_region_held (S := fun w' => Below w7.heap.size w7 w') (by kernel_rfl) ?_
  change wpAnyH _ _ _ _ _ _ _ _ (World.drew w7)
  generalize World.drew w7 = wd at R ⊢
  refine wpAnyH_take (i := 3) (oi := { dst := some 25, op := Op.load 27 (Operand.tmp 2), type := 27, pos := "law.go:87", after := #[], guard := none }) (v := ivI false a3 n3 c3 0 false a4 n4 c4 0) rfl (by kernel_rfl) (by kernel_rfl) (by kernel_rfl) (fun _ _ _ h => h) (Or.inl ⟨by rfl, ?y1⟩) R ?r1
  case y1 => (intro ww hS; have qt0 := kC hS t0; have qt1 := kC hS t1; have qt2 := kC hS t2; have qt3 := kC hS t3; have qt4 := kC hS t4; have qt5 := kC hS t5; clear hS; go_simp; try with_reducible rfl)
  try simp only [Act.put, sA]
  refine rd2 0 8 (by kernel_rfl) rfl rfl (fun K hK => ?_) fun K hK => ?_
  ·go_simp
   refine Calls.mono (I1.out _) ?_
   rintro r v1 ⟨_, rfl, ⟨a7, n7, c7, rfl, N7, P7⟩, bN⟩
   refine hK.out _ _ (nT R bN) (fun _ => ?_)
   clear hK K
   have L7 : Hid (n7 ≤ 1024) := by have z : n7 = (wO 1).length := N7.out; rw [show (wO 1).length = 1 by decide +kernel] at z; rw [Hid]; omega
   replace P7 : OwnW w7.heap.size v1 a7 n7 c7 (wO 1) := OwnW.low P7 R.size
   clear N7
   replace R := nT R bN
   clear bN
   refine rd2 1 8 (by kernel_rfl) rfl rfl (fun K hK => ?_) fun K hK => ?_
   ·go_simp
    refine Calls.mono (I2.out _) ?_
    rintro r v2 ⟨_, rfl, ⟨a8, n8, c8, rfl, N8, P8⟩, bN⟩
    refine hK.out _ _ (nT R bN) (fun _ => ?_)
    clear hK K
    replace P7 := P7.keep bN
    have L8 : Hid (n8 ≤ 1024) := by have z : n8 = (wO 1).length := N8.out; rw [show (wO 1).length = 1 by decide +kernel] at z; rw [Hid]; omega
    replace P8 : OwnW w7.heap.size v2 a8 n8 c8 (wO 1) := OwnW.low P8 R.size
    clear N8
    replace R := nT R bN
    clear bN
    refine wpAnyH_take (i := 2) (oi := { dst := some 24, op := Op.build 27 #[(0, Operand.tmp 22), (1, Operand.tmp 23)], type := 27, pos := "law.go:87", after := #[{ on := 0, ground := Ground.data }, { on := 1, ground := Ground.data }], guard := none }) (v := ivI false a7 n7 c7 0 false a8 n8 c8 1) rfl (by kernel_rfl) (by kernel_rfl) (by kernel_rfl) (fun _ _ _ h => h) (Or.inl ⟨by rfl, ?y2⟩) R ?r2
    case y2 => (intro ww hS; clear hS; go_simp; try with_reducible rfl)
    try simp only [Act.put]
    refine rd2 4 8 (by kernel_rfl) rfl rfl (fun K hK => ?_) fun K hK => ?_
    ·go_simp
     have HA : Hid _ := iAdd_ok false a7 n7 c7 (wO 1) 0 false a8 n8 c8 (wO 1) 1 false a3 n3 c3 (wO 3) 0 false a4 n4 c4 (wO 3) 0 2 v2 P7.1 (by have := L7.out; omega) P8.1 (by have := L8.out; omega) (O3.1.keep R) (by have := L3.out; omega) (O4.1.keep R) (by have := L4.out; omega) (tt.kept R) (by decide +kernel) (by decide +kernel) (by omega) (by decide +kernel) (by decide +kernel)
     rw [show owL (roomP (sumD (formD false (val (wO 1)) 0) (formD false (val (wO 3)) 0))).1 (roomP (sumD (formD false (val (wO 1)) 0) (formD false (val (wO 3)) 0))).2.1 (roomP (sumD (formD false (val (wO 1)) 0) (formD false (val (wO 3)) 0))).2.2 (roomP (sumD (formD false (val (wO 1)) 1) (formD false (val (wO 3)) 0))).1 (roomP (sumD (formD false (val (wO 1)) 1) (formD false (val (wO 3)) 0))).2.1 (roomP (sumD (formD false (val (wO 1)) 1) (formD false (val (wO 3)) 0))).2.2 2 = (false, 1, 2) by decide +kernel, show owH (roomP (sumD (formD false (val (wO 1)) 0) (formD false (val (wO 3)) 0))).1 (roomP (sumD (formD false (val (wO 1)) 0) (formD false (val (wO 3)) 0))).2.1 (roomP (sumD (formD false (val (wO 1)) 0) (formD false (val (wO 3)) 0))).2.2 (roomP (sumD (formD false (val (wO 1)) 1) (formD false (val (wO 3)) 0))).1 (roomP (sumD (formD false (val (wO 1)) 1) (formD false (val (wO 3)) 0))).2.1 (roomP (sumD (formD false (val (wO 1)) 1) (formD false (val (wO 3)) 0))).2.2 2 = (false, 3, 1) by decide +kernel, show owE (roomP (sumD (formD false (val (wO 1)) 0) (formD false (val (wO 3)) 0))).1 (roomP (sumD (formD false (val (wO 1)) 0) (formD false (val (wO 3)) 0))).2.1 (roomP (sumD (formD false (val (wO 1)) 0) (formD false (val (wO 3)) 0))).2.2 (roomP (sumD (formD false (val (wO 1)) 1) (formD false (val (wO 3)) 0))).1 (roomP (sumD (formD false (val (wO 1)) 1) (formD false (val (wO 3)) 0))).2.1 (roomP (sumD (formD false (val (wO 1)) 1) (formD false (val (wO 3)) 0))).2.2 2 = 0 by decide +kernel] at HA
     refine Calls.mono HA.out ?_
     rintro r v3 ⟨a9, n9, c9, a10, n10, c10, rfl, L9, L10, P9, P10, bN⟩
     refine hK.out _ _ (nT R bN) (fun _ => ?_)
     clear hK K HA
     replace P7 := P7.keep bN
     replace P8 := P8.keep bN
     replace P9 : OwnW w7.heap.size v3 a9 n9 c9 (wO 1) := OwnW.low P9 R.size
     replace P10 : OwnW w7.heap.size v3 a10 n10 c10 (wO 3) := OwnW.low P10 R.size
     replace R := nT R bN
     clear bN
     refine wpAnyH_take (i := 5) (oi := { dst := some 21, op := Op.move (Operand.tmp 26), type := 47, pos := "law.go:87", after := #[{ on := 4, ground := Ground.data }], guard := none }) (v := .tuple #[ivI false a9 n9 c9 2 false a10 n10 c10 1, .int .i64 0]) rfl (by kernel_rfl) (by kernel_rfl) (by kernel_rfl) (fun _ _ _ h => h) (Or.inl ⟨by rfl, ?y3⟩) R ?r3
     case y3 => (intro ww hS; clear hS; go_simp; try with_reducible rfl)
     try simp only [Act.put]
     refine wpAnyH_take (i := 6) (oi := { dst := some 27, op := Op.extract (Operand.tmp 21) 0, type := 27, pos := "law.go:87", after := #[{ on := 5, ground := Ground.data }], guard := none }) (v := ivI false a9 n9 c9 2 false a10 n10 c10 1) rfl (by kernel_rfl) (by kernel_rfl) (by kernel_rfl) (fun _ _ _ h => h) (Or.inl ⟨by rfl, ?y4⟩) R ?r4
     case y4 => (intro ww hS; clear hS; go_simp; try with_reducible rfl)
     try simp only [Act.put]
     refine wpAnyH_take (i := 7) (oi := { dst := some 28, op := Op.extract (Operand.tmp 21) 1, type := 46, pos := "law.go:87", after := #[{ on := 5, ground := Ground.data }, { on := 9, ground := Ground.gcOnly Departure.lateStores }], guard := none }) (v := .int .i64 0) rfl (by kernel_rfl) (by kernel_rfl) (by kernel_rfl) (fun _ _ _ h => h) (Or.inl ⟨by rfl, ?y5⟩) R ?r5
     case y5 => (intro ww hS; clear hS; go_simp; try with_reducible rfl)
     try simp only [Act.put]
     refine rd1 8 (by kernel_rfl) rfl fun K hK => ?_
     ·go_simp
      refine hK.out _ _ (bl_allocI R _) (fun _ => ?_)
      clear hK K
      have bN := below_one v3 (.cells #[.bool false, .slice none 0 0, .int .i64 0, .bool false, .slice none 0 0, .int .i64 0] 27)
      replace P7 := P7.keep bN
      replace P9 := P9.keep bN
      replace P10 := P10.keep bN
      obtain ⟨Y0, F0, Y1, F1, Y2, F2, Y3, F3, Y4, F4, Y5, F5⟩ := fX19 v3 _ rfl
      have YL : Hid (w7.heap.size ≤ v3.heap.size) := R.size
      replace R := bl_allocI R (.cells #[.bool false, .slice none 0 0, .int .i64 0, .bool false, .slice none 0 0, .int .i64 0] 27)
      clear bN
      try simp only [Act.put, sA, sZ, sS]
      generalize v3.heap.size = YB at *
      generalize v3.alloc (.cells #[.bool false, .slice none 0 0, .int .i64 0, .bool false, .slice none 0 0, .int .i64 0] 27) = v4 at *
      refine rd1 9 (by kernel_rfl) rfl fun K hK => ?_
      ·go_simp
       have bS : Below w7.heap.size w7 ((((((v4.setCell ⟨YB, 0, none⟩ (.bool false)).setCell ⟨YB, 1, none⟩ (.slice a9 n9 c9)).setCell ⟨YB, 2, none⟩ (.int .i64 2)).setCell ⟨YB, 3, none⟩ (.bool false)).setCell ⟨YB, 4, none⟩ (.slice a10 n10 c10)).setCell ⟨YB, 5, none⟩ (.int .i64 1)) := (((((R.setCell YL.out _).setCell YL.out _).setCell YL.out _).setCell YL.out _).setCell YL.out _).setCell YL.out _
       refine hK.out _ _ bS (fun _ => ?_)
       clear hK K
       have s6 := six_ofI Y0 Y1 Y2 Y3 Y4 Y5 (fun _ q => by cases q) (fun _ q => by cases q) (fun _ q => by cases q) (fun _ q => by cases q) (fun _ q => by cases q) (fun _ q => by cases q)
       replace P9 := ownW_sixI P9 s6 (.bool false) (.slice a9 n9 c9) (.int .i64 2) (.bool false) (.slice a10 n10 c10) (.int .i64 1)
       replace P10 := ownW_sixI P10 s6 (.bool false) (.slice a9 n9 c9) (.int .i64 2) (.bool false) (.slice a10 n10 c10) (.int .i64 1)
       obtain ⟨Z0, Z1, Z2, Z3, Z4, Z5⟩ := six_same Y0 Y1 Y2 Y3 Y4 Y5 (.bool false) (.slice a9 n9 c9) (.int .i64 2) (.bool false) (.slice a10 n10 c10) (.int .i64 1)
       clear Y0 Y1 Y2 Y3 Y4 Y5 F0 F1 F2 F3 F4 F5 s6 R
       try simp only [Act.put, sA, sZ, sS]
       generalize ((((((v4.setCell ⟨YB, 0, none⟩ (.bool false)).setCell ⟨YB, 1, none⟩ (.slice a9 n9 c9)).setCell ⟨YB, 2, none⟩ (.int .i64 2)).setCell ⟨YB, 3, none⟩ (.bool false)).setCell ⟨YB, 4, none⟩ (.slice a10 n10 c10)).setCell ⟨YB, 5, none⟩ (.int .i64 1)) = v5 at *
       refine rd1 10 (by kernel_rfl) rfl fun K hK => ?_
       go_simp
       refine hK.out _ _ bS (fun _ => ?_)
       clear hK K
       try simp only [Act.put, sA, sZ, sS]
       refine wpAnyH_done (by kernel_rfl) ?_ _
       go_wp2_with fail
       go_meet
       case rel => exact ⟨a9, n9, c9, a10, n10, c10, YB, rfl, rfl, L9, L10, P9, P10, Z0, Z1, Z2, Z3, Z4, Z5, bS⟩
    ·go_simp
     refine hK.out _ _ (bl_allocI R _) (fun _ => ?_)
     clear hK K
     have bN := below_one v2 (.cells #[.bool false, .slice none 0 0, .int .i64 0, .bool false, .slice none 0 0, .int .i64 0] 27)
     replace P7 := P7.keep bN
     replace P8 := P8.keep bN
     obtain ⟨Y0, F0, Y1, F1, Y2, F2, Y3, F3, Y4, F4, Y5, F5⟩ := fX19 v2 _ rfl
     have YL : Hid (w7.heap.size ≤ v2.heap.size) := R.size
     replace R := bl_allocI R (.cells #[.bool false, .slice none 0 0, .int .i64 0, .bool false, .slice none 0 0, .int .i64 0] 27)
     clear bN
     try simp only [Act.put, sA, sZ, sS]
     generalize v2.heap.size = YB at *
     generalize v2.alloc (.cells #[.bool false, .slice none 0 0, .int .i64 0, .bool false, .slice none 0 0, .int .i64 0] 27) = v6 at *
     refine rd1 4 (by kernel_rfl) rfl fun K hK => ?_
     ·go_simp
      have HA : Hid _ := iAdd_ok false a7 n7 c7 (wO 1) 0 false a8 n8 c8 (wO 1) 1 false a3 n3 c3 (wO 3) 0 false a4 n4 c4 (wO 3) 0 2 v6 P7.1 (by have := L7.out; omega) P8.1 (by have := L8.out; omega) (O3.1.keep R) (by have := L3.out; omega) (O4.1.keep R) (by have := L4.out; omega) (tt.kept R) (by decide +kernel) (by decide +kernel) (by omega) (by decide +kernel) (by decide +kernel)
      rw [show owL (roomP (sumD (formD false (val (wO 1)) 0) (formD false (val (wO 3)) 0))).1 (roomP (sumD (formD false (val (wO 1)) 0) (formD false (val (wO 3)) 0))).2.1 (roomP (sumD (formD false (val (wO 1)) 0) (formD false (val (wO 3)) 0))).2.2 (roomP (sumD (formD false (val (wO 1)) 1) (formD false (val (wO 3)) 0))).1 (roomP (sumD (formD false (val (wO 1)) 1) (formD false (val (wO 3)) 0))).2.1 (roomP (sumD (formD false (val (wO 1)) 1) (formD false (val (wO 3)) 0))).2.2 2 = (false, 1, 2) by decide +kernel, show owH (roomP (sumD (formD false (val (wO 1)) 0) (formD false (val (wO 3)) 0))).1 (roomP (sumD (formD false (val (wO 1)) 0) (formD false (val (wO 3)) 0))).2.1 (roomP (sumD (formD false (val (wO 1)) 0) (formD false (val (wO 3)) 0))).2.2 (roomP (sumD (formD false (val (wO 1)) 1) (formD false (val (wO 3)) 0))).1 (roomP (sumD (formD false (val (wO 1)) 1) (formD false (val (wO 3)) 0))).2.1 (roomP (sumD (formD false (val (wO 1)) 1) (formD false (val (wO 3)) 0))).2.2 2 = (false, 3, 1) by decide +kernel, show owE (roomP (sumD (formD false (val (wO 1)) 0) (formD false (val (wO 3)) 0))).1 (roomP (sumD (formD false (val (wO 1)) 0) (formD false (val (wO 3)) 0))).2.1 (roomP (sumD (formD false (val (wO 1)) 0) (formD false (val (wO 3)) 0))).2.2 (roomP (sumD (formD false (val (wO 1)) 1) (formD false (val (wO 3)) 0))).1 (roomP (sumD (formD false (val (wO 1)) 1) (formD false (val (wO 3)) 0))).2.1 (roomP (sumD (formD false (val (wO 1)) 1) (formD false (val (wO 3)) 0))).2.2 2 = 0 by decide +kernel] at HA
      refine Calls.mono HA.out ?_
      rintro r v7 ⟨a9, n9, c9, a10, n10, c10, rfl, L9, L10, P9, P10, bN⟩
      refine hK.out _ _ (nT R bN) (fun _ => ?_)
      clear hK K HA
      revert Y0 F0 Y1 F1 Y2 F2 Y3 F3 Y4 F4 Y5 F5; refine zf6 bN ?_; intro Y0 F0 Y1 F1 Y2 F2 Y3 F3 Y4 F4 Y5 F5
      replace P7 := P7.keep bN
      replace P8 := P8.keep bN
      replace P9 : OwnW w7.heap.size v7 a9 n9 c9 (wO 1) := OwnW.low P9 R.size
      replace P10 : OwnW w7.heap.size v7 a10 n10 c10 (wO 3) := OwnW.low P10 R.size
      replace R := nT R bN
      clear bN
      refine wpAnyH_take (i := 5) (oi := { dst := some 21, op := Op.move (Operand.tmp 26), type := 47, pos := "law.go:87", after := #[{ on := 4, ground := Ground.data }], guard := none }) (v := .tuple #[ivI false a9 n9 c9 2 false a10 n10 c10 1, .int .i64 0]) rfl (by kernel_rfl) (by kernel_rfl) (by kernel_rfl) (fun _ _ _ h => h) (Or.inl ⟨by rfl, ?y6⟩) R ?r6
      case y6 => (intro ww hS; clear hS; go_simp; try with_reducible rfl)
      try simp only [Act.put]
      refine wpAnyH_take (i := 6) (oi := { dst := some 27, op := Op.extract (Operand.tmp 21) 0, type := 27, pos := "law.go:87", after := #[{ on := 5, ground := Ground.data }], guard := none }) (v := ivI false a9 n9 c9 2 false a10 n10 c10 1) rfl (by kernel_rfl) (by kernel_rfl) (by kernel_rfl) (fun _ _ _ h => h) (Or.inl ⟨by rfl, ?y7⟩) R ?r7
      case y7 => (intro ww hS; clear hS; go_simp; try with_reducible rfl)
      try simp only [Act.put]
      refine wpAnyH_take (i := 7) (oi := { dst := some 28, op := Op.extract (Operand.tmp 21) 1, type := 46, pos := "law.go:87", after := #[{ on := 5, ground := Ground.data }, { on := 9, ground := Ground.gcOnly Departure.lateStores }], guard := none }) (v := .int .i64 0) rfl (by kernel_rfl) (by kernel_rfl) (by kernel_rfl) (fun _ _ _ h => h) (Or.inl ⟨by rfl, ?y8⟩) R ?r8
      case y8 => (intro ww hS; clear hS; go_simp; try with_reducible rfl)
      try simp only [Act.put]
      refine rd1 9 (by kernel_rfl) rfl fun K hK => ?_
      ·go_simp
       have bS : Below w7.heap.size w7 ((((((v7.setCell ⟨YB, 0, none⟩ (.bool false)).setCell ⟨YB, 1, none⟩ (.slice a9 n9 c9)).setCell ⟨YB, 2, none⟩ (.int .i64 2)).setCell ⟨YB, 3, none⟩ (.bool false)).setCell ⟨YB, 4, none⟩ (.slice a10 n10 c10)).setCell ⟨YB, 5, none⟩ (.int .i64 1)) := (((((R.setCell YL.out _).setCell YL.out _).setCell YL.out _).setCell YL.out _).setCell YL.out _).setCell YL.out _
       refine hK.out _ _ bS (fun _ => ?_)
       clear hK K
       have s6 := six_ofI Y0 Y1 Y2 Y3 Y4 Y5 (fun _ q => by cases q) (fun _ q => by cases q) (fun _ q => by cases q) (fun _ q => by cases q) (fun _ q => by cases q) (fun _ q => by cases q)
       replace P9 := ownW_sixI P9 s6 (.bool false) (.slice a9 n9 c9) (.int .i64 2) (.bool false) (.slice a10 n10 c10) (.int .i64 1)
       replace P10 := ownW_sixI P10 s6 (.bool false) (.slice a9 n9 c9) (.int .i64 2) (.bool false) (.slice a10 n10 c10) (.int .i64 1)
       obtain ⟨Z0, Z1, Z2, Z3, Z4, Z5⟩ := six_same Y0 Y1 Y2 Y3 Y4 Y5 (.bool false) (.slice a9 n9 c9) (.int .i64 2) (.bool false) (.slice a10 n10 c10) (.int .i64 1)
       clear Y0 Y1 Y2 Y3 Y4 Y5 F0 F1 F2 F3 F4 F5 s6 R
       try simp only [Act.put, sA, sZ, sS]
       generalize ((((((v7.setCell ⟨YB, 0, none⟩ (.bool false)).setCell ⟨YB, 1, none⟩ (.slice a9 n9 c9)).setCell ⟨YB, 2, none⟩ (.int .i64 2)).setCell ⟨YB, 3, none⟩ (.bool false)).setCell ⟨YB, 4, none⟩ (.slice a10 n10 c10)).setCell ⟨YB, 5, none⟩ (.int .i64 1)) = v8 at *
       refine rd1 10 (by kernel_rfl) rfl fun K hK => ?_
       go_simp
       refine hK.out _ _ bS (fun _ => ?_)
       clear hK K
       try simp only [Act.put, sA, sZ, sS]
       refine wpAnyH_done (by kernel_rfl) ?_ _
       go_wp2_with fail
       go_meet
       case rel => exact ⟨a9, n9, c9, a10, n10, c10, YB, rfl, rfl, L9, L10, P9, P10, Z0, Z1, Z2, Z3, Z4, Z5, bS⟩
   ·go_simp
    refine hK.out _ _ (bl_allocI R _) (fun _ => ?_)
    clear hK K
    have bN := below_one v1 (.cells #[.bool false, .slice none 0 0, .int .i64 0, .bool false, .slice none 0 0, .int .i64 0] 27)
    replace P7 := P7.keep bN
    obtain ⟨Y0, F0, Y1, F1, Y2, F2, Y3, F3, Y4, F4, Y5, F5⟩ := fX19 v1 _ rfl
    have YL : Hid (w7.heap.size ≤ v1.heap.size) := R.size
    replace R := bl_allocI R (.cells #[.bool false, .slice none 0 0, .int .i64 0, .bool false, .slice none 0 0, .int .i64 0] 27)
    clear bN
    try simp only [Act.put, sA, sZ, sS]
    generalize v1.heap.size = YB at *
    generalize v1.alloc (.cells #[.bool false, .slice none 0 0, .int .i64 0, .bool false, .slice none 0 0, .int .i64 0] 27) = v9 at *
    refine rd1 1 (by kernel_rfl) rfl fun K hK => ?_
    ·go_simp
     refine Calls.mono (I2.out _) ?_
     rintro r v10 ⟨_, rfl, ⟨a8, n8, c8, rfl, N8, P8⟩, bN⟩
     refine hK.out _ _ (nT R bN) (fun _ => ?_)
     clear hK K
     revert Y0 F0 Y1 F1 Y2 F2 Y3 F3 Y4 F4 Y5 F5; refine zf6 bN ?_; intro Y0 F0 Y1 F1 Y2 F2 Y3 F3 Y4 F4 Y5 F5
     replace P7 := P7.keep bN
     have L8 : Hid (n8 ≤ 1024) := by have z : n8 = (wO 1).length := N8.out; rw [show (wO 1).length = 1 by decide +kernel] at z; rw [Hid]; omega
     replace P8 : OwnW w7.heap.size v10 a8 n8 c8 (wO 1) := OwnW.low P8 R.size
     clear N8
     replace R := nT R bN
     clear bN
     refine wpAnyH_take (i := 2) (oi := { dst := some 24, op := Op.build 27 #[(0, Operand.tmp 22), (1, Operand.tmp 23)], type := 27, pos := "law.go:87", after := #[{ on := 0, ground := Ground.data }, { on := 1, ground := Ground.data }], guard := none }) (v := ivI false a7 n7 c7 0 false a8 n8 c8 1) rfl (by kernel_rfl) (by kernel_rfl) (by kernel_rfl) (fun _ _ _ h => h) (Or.inl ⟨by rfl, ?y9⟩) R ?r9
     case y9 => (intro ww hS; clear hS; go_simp; try with_reducible rfl)
     try simp only [Act.put]
     refine rd1 4 (by kernel_rfl) rfl fun K hK => ?_
     ·go_simp
      have HA : Hid _ := iAdd_ok false a7 n7 c7 (wO 1) 0 false a8 n8 c8 (wO 1) 1 false a3 n3 c3 (wO 3) 0 false a4 n4 c4 (wO 3) 0 2 v10 P7.1 (by have := L7.out; omega) P8.1 (by have := L8.out; omega) (O3.1.keep R) (by have := L3.out; omega) (O4.1.keep R) (by have := L4.out; omega) (tt.kept R) (by decide +kernel) (by decide +kernel) (by omega) (by decide +kernel) (by decide +kernel)
      rw [show owL (roomP (sumD (formD false (val (wO 1)) 0) (formD false (val (wO 3)) 0))).1 (roomP (sumD (formD false (val (wO 1)) 0) (formD false (val (wO 3)) 0))).2.1 (roomP (sumD (formD false (val (wO 1)) 0) (formD false (val (wO 3)) 0))).2.2 (roomP (sumD (formD false (val (wO 1)) 1) (formD false (val (wO 3)) 0))).1 (roomP (sumD (formD false (val (wO 1)) 1) (formD false (val (wO 3)) 0))).2.1 (roomP (sumD (formD false (val (wO 1)) 1) (formD false (val (wO 3)) 0))).2.2 2 = (false, 1, 2) by decide +kernel, show owH (roomP (sumD (formD false (val (wO 1)) 0) (formD false (val (wO 3)) 0))).1 (roomP (sumD (formD false (val (wO 1)) 0) (formD false (val (wO 3)) 0))).2.1 (roomP (sumD (formD false (val (wO 1)) 0) (formD false (val (wO 3)) 0))).2.2 (roomP (sumD (formD false (val (wO 1)) 1) (formD false (val (wO 3)) 0))).1 (roomP (sumD (formD false (val (wO 1)) 1) (formD false (val (wO 3)) 0))).2.1 (roomP (sumD (formD false (val (wO 1)) 1) (formD false (val (wO 3)) 0))).2.2 2 = (false, 3, 1) by decide +kernel, show owE (roomP (sumD (formD false (val (wO 1)) 0) (formD false (val (wO 3)) 0))).1 (roomP (sumD (formD false (val (wO 1)) 0) (formD false (val (wO 3)) 0))).2.1 (roomP (sumD (formD false (val (wO 1)) 0) (formD false (val (wO 3)) 0))).2.2 (roomP (sumD (formD false (val (wO 1)) 1) (formD false (val (wO 3)) 0))).1 (roomP (sumD (formD false (val (wO 1)) 1) (formD false (val (wO 3)) 0))).2.1 (roomP (sumD (formD false (val (wO 1)) 1) (formD false (val (wO 3)) 0))).2.2 2 = 0 by decide +kernel] at HA
      refine Calls.mono HA.out ?_
      rintro r v11 ⟨a9, n9, c9, a10, n10, c10, rfl, L9, L10, P9, P10, bN⟩
      refine hK.out _ _ (nT R bN) (fun _ => ?_)
      clear hK K HA
      revert Y0 F0 Y1 F1 Y2 F2 Y3 F3 Y4 F4 Y5 F5; refine zf6 bN ?_; intro Y0 F0 Y1 F1 Y2 F2 Y3 F3 Y4 F4 Y5 F5
      replace P7 := P7.keep bN
      replace P8 := P8.keep bN
      replace P9 : OwnW w7.heap.size v11 a9 n9 c9 (wO 1) := OwnW.low P9 R.size
      replace P10 : OwnW w7.heap.size v11 a10 n10 c10 (wO 3) := OwnW.low P10 R.size
      replace R := nT R bN
      clear bN
      refine wpAnyH_take (i := 5) (oi := { dst := some 21, op := Op.move (Operand.tmp 26), type := 47, pos := "law.go:87", after := #[{ on := 4, ground := Ground.data }], guard := none }) (v := .tuple #[ivI false a9 n9 c9 2 false a10 n10 c10 1, .int .i64 0]) rfl (by kernel_rfl) (by kernel_rfl) (by kernel_rfl) (fun _ _ _ h => h) (Or.inl ⟨by rfl, ?y10⟩) R ?r10
      case y10 => (intro ww hS; clear hS; go_simp; try with_reducible rfl)
      try simp only [Act.put]
      refine wpAnyH_take (i := 6) (oi := { dst := some 27, op := Op.extract (Operand.tmp 21) 0, type := 27, pos := "law.go:87", after := #[{ on := 5, ground := Ground.data }], guard := none }) (v := ivI false a9 n9 c9 2 false a10 n10 c10 1) rfl (by kernel_rfl) (by kernel_rfl) (by kernel_rfl) (fun _ _ _ h => h) (Or.inl ⟨by rfl, ?y11⟩) R ?r11
      case y11 => (intro ww hS; clear hS; go_simp; try with_reducible rfl)
      try simp only [Act.put]
      refine wpAnyH_take (i := 7) (oi := { dst := some 28, op := Op.extract (Operand.tmp 21) 1, type := 46, pos := "law.go:87", after := #[{ on := 5, ground := Ground.data }, { on := 9, ground := Ground.gcOnly Departure.lateStores }], guard := none }) (v := .int .i64 0) rfl (by kernel_rfl) (by kernel_rfl) (by kernel_rfl) (fun _ _ _ h => h) (Or.inl ⟨by rfl, ?y12⟩) R ?r12
      case y12 => (intro ww hS; clear hS; go_simp; try with_reducible rfl)
      try simp only [Act.put]
      refine rd1 9 (by kernel_rfl) rfl fun K hK => ?_
      ·go_simp
       have bS : Below w7.heap.size w7 ((((((v11.setCell ⟨YB, 0, none⟩ (.bool false)).setCell ⟨YB, 1, none⟩ (.slice a9 n9 c9)).setCell ⟨YB, 2, none⟩ (.int .i64 2)).setCell ⟨YB, 3, none⟩ (.bool false)).setCell ⟨YB, 4, none⟩ (.slice a10 n10 c10)).setCell ⟨YB, 5, none⟩ (.int .i64 1)) := (((((R.setCell YL.out _).setCell YL.out _).setCell YL.out _).setCell YL.out _).setCell YL.out _).setCell YL.out _
       refine hK.out _ _ bS (fun _ => ?_)
       clear hK K
       have s6 := six_ofI Y0 Y1 Y2 Y3 Y4 Y5 (fun _ q => by cases q) (fun _ q => by cases q) (fun _ q => by cases q) (fun _ q => by cases q) (fun _ q => by cases q) (fun _ q => by cases q)
       replace P9 := ownW_sixI P9 s6 (.bool false) (.slice a9 n9 c9) (.int .i64 2) (.bool false) (.slice a10 n10 c10) (.int .i64 1)
       replace P10 := ownW_sixI P10 s6 (.bool false) (.slice a9 n9 c9) (.int .i64 2) (.bool false) (.slice a10 n10 c10) (.int .i64 1)
       obtain ⟨Z0, Z1, Z2, Z3, Z4, Z5⟩ := six_same Y0 Y1 Y2 Y3 Y4 Y5 (.bool false) (.slice a9 n9 c9) (.int .i64 2) (.bool false) (.slice a10 n10 c10) (.int .i64 1)
       clear Y0 Y1 Y2 Y3 Y4 Y5 F0 F1 F2 F3 F4 F5 s6 R
       try simp only [Act.put, sA, sZ, sS]
       generalize ((((((v11.setCell ⟨YB, 0, none⟩ (.bool false)).setCell ⟨YB, 1, none⟩ (.slice a9 n9 c9)).setCell ⟨YB, 2, none⟩ (.int .i64 2)).setCell ⟨YB, 3, none⟩ (.bool false)).setCell ⟨YB, 4, none⟩ (.slice a10 n10 c10)).setCell ⟨YB, 5, none⟩ (.int .i64 1)) = v12 at *
       refine rd1 10 (by kernel_rfl) rfl fun K hK => ?_
       go_simp
       refine hK.out _ _ bS (fun _ => ?_)
       clear hK K
       try simp only [Act.put, sA, sZ, sS]
       refine wpAnyH_done (by kernel_rfl) ?_ _
       go_wp2_with fail
       go_meet
       case rel => exact ⟨a9, n9, c9, a10, n10, c10, YB, rfl, rfl, L9, L10, P9, P10, Z0, Z1, Z2, Z3, Z4, Z5, bS⟩
  ·go_simp
   refine hK.out _ _ (bl_allocI R _) (fun _ => ?_)
   clear hK K
   have bN := below_one wd (.cells #[.bool false, .slice none 0 0, .int .i64 0, .bool false, .slice none 0 0, .int .i64 0] 27)
   obtain ⟨Y0, F0, Y1, F1, Y2, F2, Y3, F3, Y4, F4, Y5, F5⟩ := fX19 wd _ rfl
   have YL : Hid (w7.heap.size ≤ wd.heap.size) := R.size
   replace R := bl_allocI R (.cells #[.bool false, .slice none 0 0, .int .i64 0, .bool false, .slice none 0 0, .int .i64 0] 27)
   clear bN
   try simp only [Act.put, sA, sZ, sS]
   generalize wd.heap.size = YB at *
   generalize wd.alloc (.cells #[.bool false, .slice none 0 0, .int .i64 0, .bool false, .slice none 0 0, .int .i64 0] 27) = v13 at *
   refine rd1 0 (by kernel_rfl) rfl fun K hK => ?_
   ·go_simp
    refine Calls.mono (I1.out _) ?_
    rintro r v14 ⟨_, rfl, ⟨a7, n7, c7, rfl, N7, P7⟩, bN⟩
    refine hK.out _ _ (nT R bN) (fun _ => ?_)
    clear hK K
    revert Y0 F0 Y1 F1 Y2 F2 Y3 F3 Y4 F4 Y5 F5; refine zf6 bN ?_; intro Y0 F0 Y1 F1 Y2 F2 Y3 F3 Y4 F4 Y5 F5
    have L7 : Hid (n7 ≤ 1024) := by have z : n7 = (wO 1).length := N7.out; rw [show (wO 1).length = 1 by decide +kernel] at z; rw [Hid]; omega
    replace P7 : OwnW w7.heap.size v14 a7 n7 c7 (wO 1) := OwnW.low P7 R.size
    clear N7
    replace R := nT R bN
    clear bN
    refine rd1 1 (by kernel_rfl) rfl fun K hK => ?_
    ·go_simp
     refine Calls.mono (I2.out _) ?_
     rintro r v15 ⟨_, rfl, ⟨a8, n8, c8, rfl, N8, P8⟩, bN⟩
     refine hK.out _ _ (nT R bN) (fun _ => ?_)
     clear hK K
     revert Y0 F0 Y1 F1 Y2 F2 Y3 F3 Y4 F4 Y5 F5; refine zf6 bN ?_; intro Y0 F0 Y1 F1 Y2 F2 Y3 F3 Y4 F4 Y5 F5
     replace P7 := P7.keep bN
     have L8 : Hid (n8 ≤ 1024) := by have z : n8 = (wO 1).length := N8.out; rw [show (wO 1).length = 1 by decide +kernel] at z; rw [Hid]; omega
     replace P8 : OwnW w7.heap.size v15 a8 n8 c8 (wO 1) := OwnW.low P8 R.size
     clear N8
     replace R := nT R bN
     clear bN
     refine wpAnyH_take (i := 2) (oi := { dst := some 24, op := Op.build 27 #[(0, Operand.tmp 22), (1, Operand.tmp 23)], type := 27, pos := "law.go:87", after := #[{ on := 0, ground := Ground.data }, { on := 1, ground := Ground.data }], guard := none }) (v := ivI false a7 n7 c7 0 false a8 n8 c8 1) rfl (by kernel_rfl) (by kernel_rfl) (by kernel_rfl) (fun _ _ _ h => h) (Or.inl ⟨by rfl, ?y13⟩) R ?r13
     case y13 => (intro ww hS; clear hS; go_simp; try with_reducible rfl)
     try simp only [Act.put]
     refine rd1 4 (by kernel_rfl) rfl fun K hK => ?_
     ·go_simp
      have HA : Hid _ := iAdd_ok false a7 n7 c7 (wO 1) 0 false a8 n8 c8 (wO 1) 1 false a3 n3 c3 (wO 3) 0 false a4 n4 c4 (wO 3) 0 2 v15 P7.1 (by have := L7.out; omega) P8.1 (by have := L8.out; omega) (O3.1.keep R) (by have := L3.out; omega) (O4.1.keep R) (by have := L4.out; omega) (tt.kept R) (by decide +kernel) (by decide +kernel) (by omega) (by decide +kernel) (by decide +kernel)
      rw [show owL (roomP (sumD (formD false (val (wO 1)) 0) (formD false (val (wO 3)) 0))).1 (roomP (sumD (formD false (val (wO 1)) 0) (formD false (val (wO 3)) 0))).2.1 (roomP (sumD (formD false (val (wO 1)) 0) (formD false (val (wO 3)) 0))).2.2 (roomP (sumD (formD false (val (wO 1)) 1) (formD false (val (wO 3)) 0))).1 (roomP (sumD (formD false (val (wO 1)) 1) (formD false (val (wO 3)) 0))).2.1 (roomP (sumD (formD false (val (wO 1)) 1) (formD false (val (wO 3)) 0))).2.2 2 = (false, 1, 2) by decide +kernel, show owH (roomP (sumD (formD false (val (wO 1)) 0) (formD false (val (wO 3)) 0))).1 (roomP (sumD (formD false (val (wO 1)) 0) (formD false (val (wO 3)) 0))).2.1 (roomP (sumD (formD false (val (wO 1)) 0) (formD false (val (wO 3)) 0))).2.2 (roomP (sumD (formD false (val (wO 1)) 1) (formD false (val (wO 3)) 0))).1 (roomP (sumD (formD false (val (wO 1)) 1) (formD false (val (wO 3)) 0))).2.1 (roomP (sumD (formD false (val (wO 1)) 1) (formD false (val (wO 3)) 0))).2.2 2 = (false, 3, 1) by decide +kernel, show owE (roomP (sumD (formD false (val (wO 1)) 0) (formD false (val (wO 3)) 0))).1 (roomP (sumD (formD false (val (wO 1)) 0) (formD false (val (wO 3)) 0))).2.1 (roomP (sumD (formD false (val (wO 1)) 0) (formD false (val (wO 3)) 0))).2.2 (roomP (sumD (formD false (val (wO 1)) 1) (formD false (val (wO 3)) 0))).1 (roomP (sumD (formD false (val (wO 1)) 1) (formD false (val (wO 3)) 0))).2.1 (roomP (sumD (formD false (val (wO 1)) 1) (formD false (val (wO 3)) 0))).2.2 2 = 0 by decide +kernel] at HA
      refine Calls.mono HA.out ?_
      rintro r v16 ⟨a9, n9, c9, a10, n10, c10, rfl, L9, L10, P9, P10, bN⟩
      refine hK.out _ _ (nT R bN) (fun _ => ?_)
      clear hK K HA
      revert Y0 F0 Y1 F1 Y2 F2 Y3 F3 Y4 F4 Y5 F5; refine zf6 bN ?_; intro Y0 F0 Y1 F1 Y2 F2 Y3 F3 Y4 F4 Y5 F5
      replace P7 := P7.keep bN
      replace P8 := P8.keep bN
      replace P9 : OwnW w7.heap.size v16 a9 n9 c9 (wO 1) := OwnW.low P9 R.size
      replace P10 : OwnW w7.heap.size v16 a10 n10 c10 (wO 3) := OwnW.low P10 R.size
      replace R := nT R bN
      clear bN
      refine wpAnyH_take (i := 5) (oi := { dst := some 21, op := Op.move (Operand.tmp 26), type := 47, pos := "law.go:87", after := #[{ on := 4, ground := Ground.data }], guard := none }) (v := .tuple #[ivI false a9 n9 c9 2 false a10 n10 c10 1, .int .i64 0]) rfl (by kernel_rfl) (by kernel_rfl) (by kernel_rfl) (fun _ _ _ h => h) (Or.inl ⟨by rfl, ?y14⟩) R ?r14
      case y14 => (intro ww hS; clear hS; go_simp; try with_reducible rfl)
      try simp only [Act.put]
      refine wpAnyH_take (i := 6) (oi := { dst := some 27, op := Op.extract (Operand.tmp 21) 0, type := 27, pos := "law.go:87", after := #[{ on := 5, ground := Ground.data }], guard := none }) (v := ivI false a9 n9 c9 2 false a10 n10 c10 1) rfl (by kernel_rfl) (by kernel_rfl) (by kernel_rfl) (fun _ _ _ h => h) (Or.inl ⟨by rfl, ?y15⟩) R ?r15
      case y15 => (intro ww hS; clear hS; go_simp; try with_reducible rfl)
      try simp only [Act.put]
      refine wpAnyH_take (i := 7) (oi := { dst := some 28, op := Op.extract (Operand.tmp 21) 1, type := 46, pos := "law.go:87", after := #[{ on := 5, ground := Ground.data }, { on := 9, ground := Ground.gcOnly Departure.lateStores }], guard := none }) (v := .int .i64 0) rfl (by kernel_rfl) (by kernel_rfl) (by kernel_rfl) (fun _ _ _ h => h) (Or.inl ⟨by rfl, ?y16⟩) R ?r16
      case y16 => (intro ww hS; clear hS; go_simp; try with_reducible rfl)
      try simp only [Act.put]
      refine rd1 9 (by kernel_rfl) rfl fun K hK => ?_
      ·go_simp
       have bS : Below w7.heap.size w7 ((((((v16.setCell ⟨YB, 0, none⟩ (.bool false)).setCell ⟨YB, 1, none⟩ (.slice a9 n9 c9)).setCell ⟨YB, 2, none⟩ (.int .i64 2)).setCell ⟨YB, 3, none⟩ (.bool false)).setCell ⟨YB, 4, none⟩ (.slice a10 n10 c10)).setCell ⟨YB, 5, none⟩ (.int .i64 1)) := (((((R.setCell YL.out _).setCell YL.out _).setCell YL.out _).setCell YL.out _).setCell YL.out _).setCell YL.out _
       refine hK.out _ _ bS (fun _ => ?_)
       clear hK K
       have s6 := six_ofI Y0 Y1 Y2 Y3 Y4 Y5 (fun _ q => by cases q) (fun _ q => by cases q) (fun _ q => by cases q) (fun _ q => by cases q) (fun _ q => by cases q) (fun _ q => by cases q)
       replace P9 := ownW_sixI P9 s6 (.bool false) (.slice a9 n9 c9) (.int .i64 2) (.bool false) (.slice a10 n10 c10) (.int .i64 1)
       replace P10 := ownW_sixI P10 s6 (.bool false) (.slice a9 n9 c9) (.int .i64 2) (.bool false) (.slice a10 n10 c10) (.int .i64 1)
       obtain ⟨Z0, Z1, Z2, Z3, Z4, Z5⟩ := six_same Y0 Y1 Y2 Y3 Y4 Y5 (.bool false) (.slice a9 n9 c9) (.int .i64 2) (.bool false) (.slice a10 n10 c10) (.int .i64 1)
       clear Y0 Y1 Y2 Y3 Y4 Y5 F0 F1 F2 F3 F4 F5 s6 R
       try simp only [Act.put, sA, sZ, sS]
       generalize ((((((v16.setCell ⟨YB, 0, none⟩ (.bool false)).setCell ⟨YB, 1, none⟩ (.slice a9 n9 c9)).setCell ⟨YB, 2, none⟩ (.int .i64 2)).setCell ⟨YB, 3, none⟩ (.bool false)).setCell ⟨YB, 4, none⟩ (.slice a10 n10 c10)).setCell ⟨YB, 5, none⟩ (.int .i64 1)) = v17 at *
       refine rd1 10 (by kernel_rfl) rfl fun K hK => ?_
       go_simp
       refine hK.out _ _ bS (fun _ => ?_)
       clear hK K
       try simp only [Act.put, sA, sZ, sS]
       refine wpAnyH_done (by kernel_rfl) ?_ _
       go_wp2_with fail
       go_meet
       case rel => exact ⟨a9, n9, c9, a10, n10, c10, YB, rfl, rfl, L9, L10, P9, P10, Z0, Z1, Z2, Z3, Z4, Z5, bS⟩
 case rest =>
  obtain ⟨a9, n9, c9, a10, n10, c10, YB, rfl, rfl, L9, L10, O9, O10, vc0, vc1, vc2, vc3, vc4, vc5, bN⟩ := hcut
  replace O9 := O9.low bA.size
  replace O10 := O10.low bA.size
  revert u0 u1 u2 u3 u4 u5; refine cc6 bN ?_; intro u0 u1 u2 u3 u4 u5
  revert t0 t1 t2 t3 t4 t5; refine cc6 bN ?_; intro t0 t1 t2 t3 t4 t5
  revert s0 s1 s2 s3 s4 s5; refine cc6 bN ?_; intro s0 s1 s2 s3 s4 s5
  replace O1 := O1.keep bN
  replace O2 := O2.keep bN
  replace O3 := O3.keep bN
  replace O4 := O4.keep bN
  replace O5 := O5.keep bN
  replace O6 := O6.keep bN
  replace tt := tt.kept bN
  replace bA := nT bA bN
  clear bN
  have HSg : Hid _ := ivSign_calls false a9 n9 c9 (wO 1) 2 false a10 n10 c10 (wO 3) 1 wc O9.1 (by have := L9.out; omega) O10.1 (by have := L10.out; omega) tt
  rw [show sgV false (val (wO 1)) 2 false (val (wO 3)) 1 = 1 by decide +kernel, show sgB false (val (wO 1)) 2 false (val (wO 3)) 1 = true by decide +kernel] at HSg
  go_wp2_with fail
  refine Calls.mono HSg.out ?_
  rintro r w8 ⟨rfl, bN⟩
  clear HSg
  revert vc0 vc1 vc2 vc3 vc4 vc5; refine cc6 bN ?_; intro vc0 vc1 vc2 vc3 vc4 vc5
  revert u0 u1 u2 u3 u4 u5; refine cc6 bN ?_; intro u0 u1 u2 u3 u4 u5
  revert t0 t1 t2 t3 t4 t5; refine cc6 bN ?_; intro t0 t1 t2 t3 t4 t5
  revert s0 s1 s2 s3 s4 s5; refine cc6 bN ?_; intro s0 s1 s2 s3 s4 s5
  replace O1 := O1.keep bN
  replace O2 := O2.keep bN
  replace O3 := O3.keep bN
  replace O4 := O4.keep bN
  replace O5 := O5.keep bN
  replace O6 := O6.keep bN
  replace O9 := O9.keep bN
  replace O10 := O10.keep bN
  replace tt := tt.kept bN
  replace bA := nT bA bN
  clear bN
  go_upto_region 6 with fail
  have R : Below w8.heap.size w8 (World.drew w8) := (Below.refl _ _).drew
  refine wp_region_held (S := fun w' => Below w8.heap.size w8 w') (by kernel_rfl) ?_
  change wpAnyH _ _ _ _ _ _ _ _ (World.drew w8)
  generalize World.drew w8 = wd at R ⊢
  refine rd1 0 (by kernel_rfl) rfl fun K hK => ?_
  go_simp
  refine hK.out _ _ R (fun _ => ?_)
  clear hK K
  try simp only [Act.put, sA, sZ, sS]
  refine rd1 1 (by kernel_rfl) rfl fun K hK => ?_
  go_simp
  refine hK.out _ _ R (fun _ => ?_)
  clear hK K
  try simp only [Act.put, sA, sZ, sS]
  refine rd1 2 (by kernel_rfl) rfl fun K hK => ?_
  go_simp
  refine hK.out _ _ R (fun _ => ?_)
  clear hK K
  try simp only [Act.put, sA, sZ, sS]
  refine wpAnyH_take (i := 3) (oi := { dst := some 37, op := Op.load 27 (Operand.tmp 3), type := 27, pos := "law.go:89", after := #[{ on := 2, ground := Ground.guard }], guard := some (2, true) }) (v := ivI false a5 n5 c5 (-2) false a6 n6 c6 (-3)) rfl (by kernel_rfl) (by kernel_rfl) (by kernel_rfl) (fun _ _ _ h => h) (Or.inl ⟨by rfl, ?y17⟩) R ?r17
  case y17 => (intro ww hS; have qu0 := kC hS u0; have qu1 := kC hS u1; have qu2 := kC hS u2; have qu3 := kC hS u3; have qu4 := kC hS u4; have qu5 := kC hS u5; clear hS; go_simp; try with_reducible rfl)
  try simp only [Act.put]
  refine rd2 4 6 (by kernel_rfl) rfl rfl (fun K hK => ?_) fun K hK => ?_
  ·go_simp
   refine hK.out _ _ (bl_allocI R _) (fun _ => ?_)
   clear hK K
   have bN := below_one wd (.cells #[.int .u64 1] 49)
   have g4 : IsW (wd.alloc (.cells #[.int .u64 1] 49)) (some ⟨wd.heap.size, 0, none⟩) 1 1 [1] := isW_lit wd 1 (by omega) (by omega)
   replace R := bl_allocI R (.cells #[.int .u64 1] 49)
   clear bN
   try simp only [Act.put, sA, sZ, sS]
   generalize wd.heap.size = G4 at *
   generalize wd.alloc (.cells #[.int .u64 1] 49) = v18 at *
   refine wpAnyH_take (i := 5) (oi := { dst := some 39, op := Op.build 25 #[(1, Operand.tmp 38), (2, Operand.const (Value.int IntKind.i64 (-2)))], type := 25, pos := "law.go:89", after := #[{ on := 4, ground := Ground.data }, { on := 2, ground := Ground.guard }], guard := some (2, true) }) (v := dyV false (some ⟨G4, 0, none⟩) 1 1 (-2)) rfl (by kernel_rfl) (by kernel_rfl) (by kernel_rfl) (fun _ _ _ h => h) (Or.inl ⟨by rfl, ?y18⟩) R ?r18
   case y18 => (intro ww hS; clear hS; go_simp; try with_reducible rfl)
   try simp only [Act.put]
   refine rd1 6 (by kernel_rfl) rfl fun K hK => ?_
   go_simp
   refine hK.out _ _ (bl_allocI R _) (fun _ => ?_)
   clear hK K
   have bN := below_one v18 (.cells #[.int .u64 3] 49)
   replace g4 := g4.keep bN
   have g6 : IsW (v18.alloc (.cells #[.int .u64 3] 49)) (some ⟨v18.heap.size, 0, none⟩) 1 1 [3] := isW_lit v18 3 (by omega) (by omega)
   replace R := bl_allocI R (.cells #[.int .u64 3] 49)
   clear bN
   try simp only [Act.put, sA, sZ, sS]
   generalize v18.heap.size = G6 at *
   generalize v18.alloc (.cells #[.int .u64 3] 49) = v19 at *
   refine wpAnyH_take (i := 7) (oi := { dst := some 41, op := Op.build 25 #[(1, Operand.tmp 40), (2, Operand.const (Value.int IntKind.i64 (-3)))], type := 25, pos := "law.go:89", after := #[{ on := 6, ground := Ground.data }, { on := 2, ground := Ground.guard }], guard := some (2, true) }) (v := dyV false (some ⟨G6, 0, none⟩) 1 1 (-3)) rfl (by kernel_rfl) (by kernel_rfl) (by kernel_rfl) (fun _ _ _ h => h) (Or.inl ⟨by rfl, ?y19⟩) R ?r19
   case y19 => (intro ww hS; clear hS; go_simp; try with_reducible rfl)
   try simp only [Act.put]
   refine wpAnyH_take (i := 8) (oi := { dst := some 42, op := Op.build 27 #[(0, Operand.tmp 39), (1, Operand.tmp 41)], type := 27, pos := "law.go:89", after := #[{ on := 5, ground := Ground.data }, { on := 7, ground := Ground.data }, { on := 2, ground := Ground.guard }], guard := some (2, true) }) (v := ivI false (some ⟨G4, 0, none⟩) 1 1 (-2) false (some ⟨G6, 0, none⟩) 1 1 (-3)) rfl (by kernel_rfl) (by kernel_rfl) (by kernel_rfl) (fun _ _ _ h => h) (Or.inl ⟨by rfl, ?y20⟩) R ?r20
   case y20 => (intro ww hS; clear hS; go_simp; try with_reducible rfl)
   try simp only [Act.put]
   refine rd1 9 (by kernel_rfl) rfl fun K hK => ?_
   go_simp
   have HS : Hid _ := vSame_calls (mT (false, 1, (-2)) a5 n5 c5) (mT (false, 3, (-3)) a6 n6 c6) (false, some ⟨G4, 0, none⟩, 1, 1, [1], -2) (false, some ⟨G6, 0, none⟩, 1, 1, [3], -3) v19 ⟨O5.1.keep R, by have := L5.out; show n5 ≤ _; omega⟩ ⟨O6.1.keep R, by have := L6.out; show n6 ≤ _; omega⟩ ⟨g4, by show 1 ≤ 17592186044000; omega⟩ ⟨g6, by show 1 ≤ 17592186044000; omega⟩
   rw [show (smT (mT (false, 1, (-2)) a5 n5 c5) (false, some ⟨G4, 0, none⟩, 1, 1, [1], -2) && smT (mT (false, 3, (-3)) a6 n6 c6) (false, some ⟨G6, 0, none⟩, 1, 1, [3], -3)) = true from lit_same] at HS
   refine Calls.mono HS.out ?_
   rintro r v20 ⟨rfl, bN⟩
   replace R := nT R bN
   clear bN HS g4 g6
   refine hK.out _ _ R (fun _ => ?_)
   clear hK K
   try simp only [Act.put, sA, sZ, sS]
   refine rd1 10 (by kernel_rfl) rfl fun K hK => ?_
   go_simp
   refine hK.out _ _ R (fun _ => ?_)
   clear hK K
   try simp only [Act.put, sA, sZ, sS]
   refine rd1 11 (by kernel_rfl) rfl fun K hK => ?_
   go_simp
   refine hK.out _ _ R (fun _ => ?_)
   clear hK K
   try simp only [Act.put, sA, sZ, sS]
   refine rd1 12 (by kernel_rfl) rfl fun K hK => ?_
   go_simp
   refine hK.out _ _ R (fun _ => ?_)
   clear hK K
   try simp only [Act.put, sA, sZ, sS]
   refine rd1 13 (by kernel_rfl) rfl fun K hK => ?_
   go_simp
   refine hK.out _ _ R (fun _ => ?_)
   clear hK K
   try simp only [Act.put, sA, sZ, sS]
   refine rd1 14 (by kernel_rfl) rfl fun K hK => ?_
   go_simp
   refine hK.out _ _ R (fun _ => ?_)
   clear hK K
   try simp only [Act.put, sA, sZ, sS]
   refine rd1 15 (by kernel_rfl) rfl fun K hK => ?_
   go_simp
   refine hK.out _ _ R (fun _ => ?_)
   clear hK K
   try simp only [Act.put, sA, sZ, sS]
   refine wpAnyH_take (i := 16) (oi := { dst := some 50, op := Op.load 27 (Operand.tmp 5), type := 27, pos := "law.go:89", after := #[{ on := 15, ground := Ground.guard }], guard := some (15, true) }) (v := ivI false a9 n9 c9 2 false a10 n10 c10 1) rfl (by kernel_rfl) (by kernel_rfl) (by kernel_rfl) (fun _ _ _ h => h) (Or.inl ⟨by rfl, ?y21⟩) R ?r21
   case y21 => (intro ww hS; have qvc0 := kC hS vc0; have qvc1 := kC hS vc1; have qvc2 := kC hS vc2; have qvc3 := kC hS vc3; have qvc4 := kC hS vc4; have qvc5 := kC hS vc5; clear hS; go_simp; try with_reducible rfl)
   try simp only [Act.put]
   refine rd1 17 (by kernel_rfl) rfl fun K hK => ?_
   go_simp
   refine Calls.mono (I4.out _) ?_
   rintro r v21 ⟨_, rfl, ⟨a11, n11, c11, rfl, N11, P11⟩, bN⟩
   have L11 : n11 ≤ 1024 := by have z : n11 = (wO 1).length := N11.out; rw [show (wO 1).length = 1 by decide +kernel] at z; omega
   replace P11 := P11.1
   have M11 : Hid (n11 ≤ 1024) := L11
   clear L11 N11
   replace R := nT R bN
   clear bN
   refine hK.out _ _ R (fun _ => ?_)
   clear hK K
   refine rd1 18 (by kernel_rfl) rfl fun K hK => ?_
   go_simp
   refine Calls.mono (I6.out _) ?_
   rintro r v22 ⟨_, rfl, ⟨a12, n12, c12, rfl, N12, P12⟩, bN⟩
   have L12 : n12 ≤ 1024 := by have z : n12 = (wO 3).length := N12.out; rw [show (wO 3).length = 1 by decide +kernel] at z; omega
   replace P12 := P12.1
   have M12 : Hid (n12 ≤ 1024) := L12
   clear L12 N12
   replace P11 := P11.keep bN
   replace R := nT R bN
   clear bN
   refine hK.out _ _ R (fun _ => ?_)
   clear hK K
   refine wpAnyH_take (i := 19) (oi := { dst := some 53, op := Op.build 27 #[(0, Operand.tmp 51), (1, Operand.tmp 52)], type := 27, pos := "law.go:89", after := #[{ on := 17, ground := Ground.data }, { on := 18, ground := Ground.data }, { on := 15, ground := Ground.guard }], guard := some (15, true) }) (v := ivI false a11 n11 c11 2 false a12 n12 c12 1) rfl (by kernel_rfl) (by kernel_rfl) (by kernel_rfl) (fun _ _ _ h => h) (Or.inl ⟨by rfl, ?y22⟩) R ?r22
   case y22 => (intro ww hS; clear hS; go_simp; try with_reducible rfl)
   try simp only [Act.put]
   refine rd1 20 (by kernel_rfl) rfl fun K hK => ?_
   go_simp
   have HS : Hid _ := vSame_calls (mT (false, 1, 2) a9 n9 c9) (mT (false, 3, 1) a10 n10 c10) (mT (false, 1, 2) a11 n11 c11) (mT (false, 3, 1) a12 n12 c12) v22 ⟨O9.1.keep R, by have := L9.out; show n9 ≤ _; omega⟩ ⟨O10.1.keep R, by have := L10.out; show n10 ≤ _; omega⟩ ⟨P11, by have := M11.out; show n11 ≤ _; omega⟩ ⟨P12, by have := M12.out; show n12 ≤ _; omega⟩
   rw [show (smT (mT (false, 1, 2) a9 n9 c9) (mT (false, 1, 2) a11 n11 c11) && smT (mT (false, 3, 1) a10 n10 c10) (mT (false, 3, 1) a12 n12 c12)) = true from lit_same2] at HS
   refine Calls.mono HS.out ?_
   rintro r v23 ⟨rfl, bN⟩
   replace R := nT R bN
   clear bN HS P11 P12
   refine hK.out _ _ R (fun _ => ?_)
   clear hK K
   try simp only [Act.put, sA, sZ, sS]
   refine rd1 21 (by kernel_rfl) rfl fun K hK => ?_
   go_simp
   refine hK.out _ _ R (fun _ => ?_)
   clear hK K
   try simp only [Act.put, sA, sZ, sS]
   refine rd1 22 (by kernel_rfl) rfl fun K hK => ?_
   go_simp
   refine hK.out _ _ R (fun _ => ?_)
   clear hK K
   try simp only [Act.put, sA, sZ, sS]
   refine rd1 23 (by kernel_rfl) rfl fun K hK => ?_
   go_simp
   refine hK.out _ _ R (fun _ => ?_)
   clear hK K
   try simp only [Act.put, sA, sZ, sS]
   refine rd1 24 (by kernel_rfl) rfl fun K hK => ?_
   go_simp
   refine hK.out _ _ R (fun _ => ?_)
   clear hK K
   try simp only [Act.put, sA, sZ, sS]
   refine rd1 25 (by kernel_rfl) rfl fun K hK => ?_
   go_simp
   refine hK.out _ _ R (fun _ => ?_)
   clear hK K
   try simp only [Act.put, sA, sZ, sS]
   refine rd1 26 (by kernel_rfl) rfl fun K hK => ?_
   go_simp
   refine hK.out _ _ R (fun _ => ?_)
   clear hK K
   try simp only [Act.put, sA, sZ, sS]
   refine rd1 27 (by kernel_rfl) rfl fun K hK => ?_
   go_simp
   refine hK.out _ _ R (fun _ => ?_)
   clear hK K
   try simp only [Act.put, sA, sZ, sS]
   refine rd1 28 (by kernel_rfl) rfl fun K hK => ?_
   go_simp
   refine hK.out _ _ R (fun _ => ?_)
   clear hK K
   try simp only [Act.put, sA, sZ, sS]
   refine rd1 29 (by kernel_rfl) rfl fun K hK => ?_
   go_simp
   refine hK.out _ _ R (fun _ => ?_)
   clear hK K
   try simp only [Act.put, sA, sZ, sS]
   refine wpAnyH_take (i := 30) (oi := { dst := some 64, op := Op.load 27 (Operand.tmp 3), type := 27, pos := "law.go:89", after := #[{ on := 29, ground := Ground.guard }], guard := some (29, true) }) (v := ivI false a5 n5 c5 (-2) false a6 n6 c6 (-3)) rfl (by kernel_rfl) (by kernel_rfl) (by kernel_rfl) (fun _ _ _ h => h) (Or.inl ⟨by rfl, ?y23⟩) R ?r23
   case y23 => (intro ww hS; have qu0 := kC hS u0; have qu1 := kC hS u1; have qu2 := kC hS u2; have qu3 := kC hS u3; have qu4 := kC hS u4; have qu5 := kC hS u5; clear hS; go_simp; try with_reducible rfl)
   try simp only [Act.put]
   refine wpAnyH_take (i := 31) (oi := { dst := some 65, op := Op.load 27 (Operand.tmp 3), type := 27, pos := "law.go:89", after := #[{ on := 29, ground := Ground.guard }], guard := some (29, true) }) (v := ivI false a5 n5 c5 (-2) false a6 n6 c6 (-3)) rfl (by kernel_rfl) (by kernel_rfl) (by kernel_rfl) (fun _ _ _ h => h) (Or.inl ⟨by rfl, ?y24⟩) R ?r24
   case y24 => (intro ww hS; have qu0 := kC hS u0; have qu1 := kC hS u1; have qu2 := kC hS u2; have qu3 := kC hS u3; have qu4 := kC hS u4; have qu5 := kC hS u5; clear hS; go_simp; try with_reducible rfl)
   try simp only [Act.put]
   refine rd1 32 (by kernel_rfl) rfl fun K hK => ?_
   go_simp
   have HM : Hid _ := meets_calls false a5 n5 c5 (wO 1) (-2) false a6 n6 c6 (wO 3) (-3) false a5 n5 c5 (wO 1) (-2) false a6 n6 c6 (wO 3) (-3) v23 (O5.1.keep R) (by have := L5.out; omega) (O6.1.keep R) (by have := L6.out; omega) (O5.1.keep R) (by have := L5.out; omega) (O6.1.keep R) (by have := L6.out; omega) (tt.kept R)
   rw [show ((rtI false (val (wO 1)) (-2) false (val (wO 3)) (-3) && rtI false (val (wO 1)) (-2) false (val (wO 3)) (-3)) && rtI false (val (wO 1)) (-2) false (val (wO 3)) (-3) && rtI false (val (wO 1)) (-2) false (val (wO 3)) (-3)) = true by decide +kernel] at HM
   refine Calls.mono HM.out ?_
   rintro r v24 ⟨rfl, bN⟩
   replace R := nT R bN
   clear bN HM
   refine hK.out _ _ R (fun _ => ?_)
   clear hK K
   try simp only [Act.put, sA, sZ, sS]
   refine rd1 33 (by kernel_rfl) rfl fun K hK => ?_
   go_simp
   refine hK.out _ _ R (fun _ => ?_)
   clear hK K
   try simp only [Act.put, sA, sZ, sS]
   refine rd1 34 (by kernel_rfl) rfl fun K hK => ?_
   go_simp
   refine hK.out _ _ R (fun _ => ?_)
   clear hK K
   try simp only [Act.put, sA, sZ, sS]
   refine wpAnyH_done (by kernel_rfl) ?_ _
   replace bA := nT bA R
   go_wp2_with fail
   go_ret
   exact ⟨rfl, bA⟩
  ·go_simp
   refine hK.out _ _ (bl_allocI R _) (fun _ => ?_)
   clear hK K
   have bN := below_one wd (.cells #[.int .u64 3] 49)
   have g6 : IsW (wd.alloc (.cells #[.int .u64 3] 49)) (some ⟨wd.heap.size, 0, none⟩) 1 1 [3] := isW_lit wd 3 (by omega) (by omega)
   replace R := bl_allocI R (.cells #[.int .u64 3] 49)
   clear bN
   try simp only [Act.put, sA, sZ, sS]
   generalize wd.heap.size = G6 at *
   generalize wd.alloc (.cells #[.int .u64 3] 49) = v25 at *
   refine wpAnyH_take (i := 7) (oi := { dst := some 41, op := Op.build 25 #[(1, Operand.tmp 40), (2, Operand.const (Value.int IntKind.i64 (-3)))], type := 25, pos := "law.go:89", after := #[{ on := 6, ground := Ground.data }, { on := 2, ground := Ground.guard }], guard := some (2, true) }) (v := dyV false (some ⟨G6, 0, none⟩) 1 1 (-3)) rfl (by kernel_rfl) (by kernel_rfl) (by kernel_rfl) (fun _ _ _ h => h) (Or.inl ⟨by rfl, ?y25⟩) R ?r25
   case y25 => (intro ww hS; clear hS; go_simp; try with_reducible rfl)
   try simp only [Act.put]
   refine rd1 4 (by kernel_rfl) rfl fun K hK => ?_
   go_simp
   refine hK.out _ _ (bl_allocI R _) (fun _ => ?_)
   clear hK K
   have bN := below_one v25 (.cells #[.int .u64 1] 49)
   replace g6 := g6.keep bN
   have g4 : IsW (v25.alloc (.cells #[.int .u64 1] 49)) (some ⟨v25.heap.size, 0, none⟩) 1 1 [1] := isW_lit v25 1 (by omega) (by omega)
   replace R := bl_allocI R (.cells #[.int .u64 1] 49)
   clear bN
   try simp only [Act.put, sA, sZ, sS]
   generalize v25.heap.size = G4 at *
   generalize v25.alloc (.cells #[.int .u64 1] 49) = v26 at *
   refine wpAnyH_take (i := 5) (oi := { dst := some 39, op := Op.build 25 #[(1, Operand.tmp 38), (2, Operand.const (Value.int IntKind.i64 (-2)))], type := 25, pos := "law.go:89", after := #[{ on := 4, ground := Ground.data }, { on := 2, ground := Ground.guard }], guard := some (2, true) }) (v := dyV false (some ⟨G4, 0, none⟩) 1 1 (-2)) rfl (by kernel_rfl) (by kernel_rfl) (by kernel_rfl) (fun _ _ _ h => h) (Or.inl ⟨by rfl, ?y26⟩) R ?r26
   case y26 => (intro ww hS; clear hS; go_simp; try with_reducible rfl)
   try simp only [Act.put]
   refine wpAnyH_take (i := 8) (oi := { dst := some 42, op := Op.build 27 #[(0, Operand.tmp 39), (1, Operand.tmp 41)], type := 27, pos := "law.go:89", after := #[{ on := 5, ground := Ground.data }, { on := 7, ground := Ground.data }, { on := 2, ground := Ground.guard }], guard := some (2, true) }) (v := ivI false (some ⟨G4, 0, none⟩) 1 1 (-2) false (some ⟨G6, 0, none⟩) 1 1 (-3)) rfl (by kernel_rfl) (by kernel_rfl) (by kernel_rfl) (fun _ _ _ h => h) (Or.inl ⟨by rfl, ?y27⟩) R ?r27
   case y27 => (intro ww hS; clear hS; go_simp; try with_reducible rfl)
   try simp only [Act.put]
   refine rd1 9 (by kernel_rfl) rfl fun K hK => ?_
   go_simp
   have HS : Hid _ := vSame_calls (mT (false, 1, (-2)) a5 n5 c5) (mT (false, 3, (-3)) a6 n6 c6) (false, some ⟨G4, 0, none⟩, 1, 1, [1], -2) (false, some ⟨G6, 0, none⟩, 1, 1, [3], -3) v26 ⟨O5.1.keep R, by have := L5.out; show n5 ≤ _; omega⟩ ⟨O6.1.keep R, by have := L6.out; show n6 ≤ _; omega⟩ ⟨g4, by show 1 ≤ 17592186044000; omega⟩ ⟨g6, by show 1 ≤ 17592186044000; omega⟩
   rw [show (smT (mT (false, 1, (-2)) a5 n5 c5) (false, some ⟨G4, 0, none⟩, 1, 1, [1], -2) && smT (mT (false, 3, (-3)) a6 n6 c6) (false, some ⟨G6, 0, none⟩, 1, 1, [3], -3)) = true from lit_same] at HS
   refine Calls.mono HS.out ?_
   rintro r v27 ⟨rfl, bN⟩
   replace R := nT R bN
   clear bN HS g4 g6
   refine hK.out _ _ R (fun _ => ?_)
   clear hK K
   try simp only [Act.put, sA, sZ, sS]
   refine rd1 10 (by kernel_rfl) rfl fun K hK => ?_
   go_simp
   refine hK.out _ _ R (fun _ => ?_)
   clear hK K
   try simp only [Act.put, sA, sZ, sS]
   refine rd1 11 (by kernel_rfl) rfl fun K hK => ?_
   go_simp
   refine hK.out _ _ R (fun _ => ?_)
   clear hK K
   try simp only [Act.put, sA, sZ, sS]
   refine rd1 12 (by kernel_rfl) rfl fun K hK => ?_
   go_simp
   refine hK.out _ _ R (fun _ => ?_)
   clear hK K
   try simp only [Act.put, sA, sZ, sS]
   refine rd1 13 (by kernel_rfl) rfl fun K hK => ?_
   go_simp
   refine hK.out _ _ R (fun _ => ?_)
   clear hK K
   try simp only [Act.put, sA, sZ, sS]
   refine rd1 14 (by kernel_rfl) rfl fun K hK => ?_
   go_simp
   refine hK.out _ _ R (fun _ => ?_)
   clear hK K
   try simp only [Act.put, sA, sZ, sS]
   refine rd1 15 (by kernel_rfl) rfl fun K hK => ?_
   go_simp
   refine hK.out _ _ R (fun _ => ?_)
   clear hK K
   try simp only [Act.put, sA, sZ, sS]
   refine wpAnyH_take (i := 16) (oi := { dst := some 50, op := Op.load 27 (Operand.tmp 5), type := 27, pos := "law.go:89", after := #[{ on := 15, ground := Ground.guard }], guard := some (15, true) }) (v := ivI false a9 n9 c9 2 false a10 n10 c10 1) rfl (by kernel_rfl) (by kernel_rfl) (by kernel_rfl) (fun _ _ _ h => h) (Or.inl ⟨by rfl, ?y28⟩) R ?r28
   case y28 => (intro ww hS; have qvc0 := kC hS vc0; have qvc1 := kC hS vc1; have qvc2 := kC hS vc2; have qvc3 := kC hS vc3; have qvc4 := kC hS vc4; have qvc5 := kC hS vc5; clear hS; go_simp; try with_reducible rfl)
   try simp only [Act.put]
   refine rd1 17 (by kernel_rfl) rfl fun K hK => ?_
   go_simp
   refine Calls.mono (I4.out _) ?_
   rintro r v28 ⟨_, rfl, ⟨a11, n11, c11, rfl, N11, P11⟩, bN⟩
   have L11 : n11 ≤ 1024 := by have z : n11 = (wO 1).length := N11.out; rw [show (wO 1).length = 1 by decide +kernel] at z; omega
   replace P11 := P11.1
   have M11 : Hid (n11 ≤ 1024) := L11
   clear L11 N11
   replace R := nT R bN
   clear bN
   refine hK.out _ _ R (fun _ => ?_)
   clear hK K
   refine rd1 18 (by kernel_rfl) rfl fun K hK => ?_
   go_simp
   refine Calls.mono (I6.out _) ?_
   rintro r v29 ⟨_, rfl, ⟨a12, n12, c12, rfl, N12, P12⟩, bN⟩
   have L12 : n12 ≤ 1024 := by have z : n12 = (wO 3).length := N12.out; rw [show (wO 3).length = 1 by decide +kernel] at z; omega
   replace P12 := P12.1
   have M12 : Hid (n12 ≤ 1024) := L12
   clear L12 N12
   replace P11 := P11.keep bN
   replace R := nT R bN
   clear bN
   refine hK.out _ _ R (fun _ => ?_)
   clear hK K
   refine wpAnyH_take (i := 19) (oi := { dst := some 53, op := Op.build 27 #[(0, Operand.tmp 51), (1, Operand.tmp 52)], type := 27, pos := "law.go:89", after := #[{ on := 17, ground := Ground.data }, { on := 18, ground := Ground.data }, { on := 15, ground := Ground.guard }], guard := some (15, true) }) (v := ivI false a11 n11 c11 2 false a12 n12 c12 1) rfl (by kernel_rfl) (by kernel_rfl) (by kernel_rfl) (fun _ _ _ h => h) (Or.inl ⟨by rfl, ?y29⟩) R ?r29
   case y29 => (intro ww hS; clear hS; go_simp; try with_reducible rfl)
   try simp only [Act.put]
   refine rd1 20 (by kernel_rfl) rfl fun K hK => ?_
   go_simp
   have HS : Hid _ := vSame_calls (mT (false, 1, 2) a9 n9 c9) (mT (false, 3, 1) a10 n10 c10) (mT (false, 1, 2) a11 n11 c11) (mT (false, 3, 1) a12 n12 c12) v29 ⟨O9.1.keep R, by have := L9.out; show n9 ≤ _; omega⟩ ⟨O10.1.keep R, by have := L10.out; show n10 ≤ _; omega⟩ ⟨P11, by have := M11.out; show n11 ≤ _; omega⟩ ⟨P12, by have := M12.out; show n12 ≤ _; omega⟩
   rw [show (smT (mT (false, 1, 2) a9 n9 c9) (mT (false, 1, 2) a11 n11 c11) && smT (mT (false, 3, 1) a10 n10 c10) (mT (false, 3, 1) a12 n12 c12)) = true from lit_same2] at HS
   refine Calls.mono HS.out ?_
   rintro r v30 ⟨rfl, bN⟩
   replace R := nT R bN
   clear bN HS P11 P12
   refine hK.out _ _ R (fun _ => ?_)
   clear hK K
   try simp only [Act.put, sA, sZ, sS]
   refine rd1 21 (by kernel_rfl) rfl fun K hK => ?_
   go_simp
   refine hK.out _ _ R (fun _ => ?_)
   clear hK K
   try simp only [Act.put, sA, sZ, sS]
   refine rd1 22 (by kernel_rfl) rfl fun K hK => ?_
   go_simp
   refine hK.out _ _ R (fun _ => ?_)
   clear hK K
   try simp only [Act.put, sA, sZ, sS]
   refine rd1 23 (by kernel_rfl) rfl fun K hK => ?_
   go_simp
   refine hK.out _ _ R (fun _ => ?_)
   clear hK K
   try simp only [Act.put, sA, sZ, sS]
   refine rd1 24 (by kernel_rfl) rfl fun K hK => ?_
   go_simp
   refine hK.out _ _ R (fun _ => ?_)
   clear hK K
   try simp only [Act.put, sA, sZ, sS]
   refine rd1 25 (by kernel_rfl) rfl fun K hK => ?_
   go_simp
   refine hK.out _ _ R (fun _ => ?_)
   clear hK K
   try simp only [Act.put, sA, sZ, sS]
   refine rd1 26 (by kernel_rfl) rfl fun K hK => ?_
   go_simp
   refine hK.out _ _ R (fun _ => ?_)
   clear hK K
   try simp only [Act.put, sA, sZ, sS]
   refine rd1 27 (by kernel_rfl) rfl fun K hK => ?_
   go_simp
   refine hK.out _ _ R (fun _ => ?_)
   clear hK K
   try simp only [Act.put, sA, sZ, sS]
   refine rd1 28 (by kernel_rfl) rfl fun K hK => ?_
   go_simp
   refine hK.out _ _ R (fun _ => ?_)
   clear hK K
   try simp only [Act.put, sA, sZ, sS]
   refine rd1 29 (by kernel_rfl) rfl fun K hK => ?_
   go_simp
   refine hK.out _ _ R (fun _ => ?_)
   clear hK K
   try simp only [Act.put, sA, sZ, sS]
   refine wpAnyH_take (i := 30) (oi := { dst := some 64, op := Op.load 27 (Operand.tmp 3), type := 27, pos := "law.go:89", after := #[{ on := 29, ground := Ground.guard }], guard := some (29, true) }) (v := ivI false a5 n5 c5 (-2) false a6 n6 c6 (-3)) rfl (by kernel_rfl) (by kernel_rfl) (by kernel_rfl) (fun _ _ _ h => h) (Or.inl ⟨by rfl, ?y30⟩) R ?r30
   case y30 => (intro ww hS; have qu0 := kC hS u0; have qu1 := kC hS u1; have qu2 := kC hS u2; have qu3 := kC hS u3; have qu4 := kC hS u4; have qu5 := kC hS u5; clear hS; go_simp; try with_reducible rfl)
   try simp only [Act.put]
   refine wpAnyH_take (i := 31) (oi := { dst := some 65, op := Op.load 27 (Operand.tmp 3), type := 27, pos := "law.go:89", after := #[{ on := 29, ground := Ground.guard }], guard := some (29, true) }) (v := ivI false a5 n5 c5 (-2) false a6 n6 c6 (-3)) rfl (by kernel_rfl) (by kernel_rfl) (by kernel_rfl) (fun _ _ _ h => h) (Or.inl ⟨by rfl, ?y31⟩) R ?r31
   case y31 => (intro ww hS; have qu0 := kC hS u0; have qu1 := kC hS u1; have qu2 := kC hS u2; have qu3 := kC hS u3; have qu4 := kC hS u4; have qu5 := kC hS u5; clear hS; go_simp; try with_reducible rfl)
   try simp only [Act.put]
   refine rd1 32 (by kernel_rfl) rfl fun K hK => ?_
   go_simp
   have HM : Hid _ := meets_calls false a5 n5 c5 (wO 1) (-2) false a6 n6 c6 (wO 3) (-3) false a5 n5 c5 (wO 1) (-2) false a6 n6 c6 (wO 3) (-3) v30 (O5.1.keep R) (by have := L5.out; omega) (O6.1.keep R) (by have := L6.out; omega) (O5.1.keep R) (by have := L5.out; omega) (O6.1.keep R) (by have := L6.out; omega) (tt.kept R)
   rw [show ((rtI false (val (wO 1)) (-2) false (val (wO 3)) (-3) && rtI false (val (wO 1)) (-2) false (val (wO 3)) (-3)) && rtI false (val (wO 1)) (-2) false (val (wO 3)) (-3) && rtI false (val (wO 1)) (-2) false (val (wO 3)) (-3)) = true by decide +kernel] at HM
   refine Calls.mono HM.out ?_
   rintro r v31 ⟨rfl, bN⟩
   replace R := nT R bN
   clear bN HM
   refine hK.out _ _ R (fun _ => ?_)
   clear hK K
   try simp only [Act.put, sA, sZ, sS]
   refine rd1 33 (by kernel_rfl) rfl fun K hK => ?_
   go_simp
   refine hK.out _ _ R (fun _ => ?_)
   clear hK K
   try simp only [Act.put, sA, sZ, sS]
   refine rd1 34 (by kernel_rfl) rfl fun K hK => ?_
   go_simp
   refine hK.out _ _ R (fun _ => ?_)
   clear hK K
   try simp only [Act.put, sA, sZ, sS]
   refine wpAnyH_done (by kernel_rfl) ?_ _
   replace bA := nT bA R
   go_wp2_with fail
   go_ret
   exact ⟨rfl, bA⟩
end Go.Proofs.YtbhneifafnoaiaaGreatDoor

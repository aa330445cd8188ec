/- Package exact: where half turns lead; their sine, cosine and tangent. -/
import Derived.Test.YtiijfnaaekmpbaaGreatDoorALX
import Derived.Test.YtiijfnaaekmpbaaGreatDoorCR
import Derived.Test.YtiijfnaaekmpbaaGreatDoorECA
import Derived.Test.YtiijfnaaekmpbaaGreatDoorFX
namespace Go.Proofs.YtiijfnaaekmpbaaGreatDoor
open Go.RowKit
set_option maxHeartbeats 4000000
set_option maxRecDepth 100000
theorem room_right {p : E3} (h : roomE p = 0) : rightB p.2.1 p.2.2 = true := by
 unfold roomE at h
 split at h
 ·assumption
 ·omega
theorem tnR_ok {p : E3} (hp : OkE p) : OkE (tnR p) := by
 refine ⟨form_can _ _ _, ?_⟩
 have hb := (rightB_yes hp.2).2
 by_cases q0 : 0 ≤ p.2.2 + 1
 ·rw [(tn_pos p q0).2]; decide +kernel
 ·obtain ⟨kk, hkk⟩ : ∃ kk : Nat, (kk : Int) = -(p.2.2 + 1) := ⟨(-(p.2.2 + 1)).toNat, by omega⟩
  rw [(tn_neg p kk (by omega) (by omega)).2]
  have hRO := rest_ok (!(p.1 == up2 p.2.1 (kk : Int))) (if up2 p.2.1 (kk : Int) = true then 2 ^ kk - p.2.1 % 2 ^ kk else p.2.1 % 2 ^ kk) kk p.2.2 (by split; exact Nat.sub_le _ _; exact Nat.le_of_lt (Nat.mod_lt _ (Nat.two_pow_pos _))) (by omega) (by omega)
  exact room_right hRO.2
theorem OwnW.set_tn {B : Nat} {W : World} {a : Option Addr} {n c : Nat} {xs : List Int} (h : OwnW B W a n c xs) (r : Nat) (i : Int) (b0 : Bool) (s1 : Option Addr) (s2 s3 : Nat) (z : Int) (u0 u1 u2 u3 : Value) (k0 : W.cell? ⟨r, 0, none⟩ = some (.int .i64 i)) (k1 : W.cell? ⟨r, 1, none⟩ = some (.bool b0)) (k2 : W.cell? ⟨r, 2, none⟩ = some (.slice s1 s2 s3)) (k3 : W.cell? ⟨r, 3, none⟩ = some (.int .i64 z)) :
  OwnW B ((((W.setCell ⟨r, 0, none⟩ u0).setCell ⟨r, 1, none⟩ u1).setCell ⟨r, 2, none⟩ u2).setCell ⟨r, 3, none⟩ u3) a n c xs := by
 have o1 := set1_cell (r := r) (k := 0) (v := u0) k1 (.inr (by decide))
 have o2 := set1_cell (r := r) (k := 1) (v := u1) (set1_cell (r := r) (k := 0) (v := u0) k2 (.inr (by decide))) (.inr (by decide))
 have o3 := set1_cell (r := r) (k := 2) (v := u2) (set1_cell (r := r) (k := 1) (v := u1) (set1_cell (r := r) (k := 0) (v := u0) k3 (.inr (by decide))) (.inr (by decide))) (.inr (by decide))
 exact (((h.set_one _ _ u0 k0 (fun z q => by cases q)).set_one _ _ u1 o1 (fun z q => by cases q)).set_one _ _ u2 o2 (fun z q => by cases q)).set_one _ _ u3 o3 (fun z q => by cases q)
theorem turnOf_calls (p : E3) (a : Option Addr) (n c : Nat) (w : World) (h : IsW w a n c (wO p.2.1)) (hn : n ≤ 1024) (hp : OkE p) (hT : Tab w) :
  Calls Tryz.prog 83 #[dyV p.1 a n c p.2.2] w fun q w' => ∃ (a1 : Option Addr) (n1 c1 : Nat), q = .returned (.agg #[.int .i64 (tnN p), .bool (tnR p).1, .slice a1 n1 c1, .int .i64 (tnR p).2.2]) ∧ Hid (n1 = (wO (tnR p).2.1).length) ∧ n1 ≤ 1024 ∧ OwnW w.heap.size w' a1 n1 c1 (wO (tnR p).2.1) ∧ Below w.heap.size w w' := by
 have bA : Below w.heap.size w ((w.alloc (.cells #[.bool p.1, .slice a n c, .int .i64 p.2.2] 27)).alloc (.cells #[.int .i64 0, .bool false, .slice none 0 0, .int .i64 0] 75)) := nT (below_one _ _) (below_one _ _)
 have x0 : ((w.alloc (.cells #[.bool p.1, .slice a n c, .int .i64 p.2.2] 27)).alloc (.cells #[.int .i64 0, .bool false, .slice none 0 0, .int .i64 0] 75)).cell? ⟨w.heap.size, 0, none⟩ = some (.bool p.1) := by go_simp
 have x1 : ((w.alloc (.cells #[.bool p.1, .slice a n c, .int .i64 p.2.2] 27)).alloc (.cells #[.int .i64 0, .bool false, .slice none 0 0, .int .i64 0] 75)).cell? ⟨w.heap.size, 1, none⟩ = some (.slice a n c) := by go_simp
 have x2 : ((w.alloc (.cells #[.bool p.1, .slice a n c, .int .i64 p.2.2] 27)).alloc (.cells #[.int .i64 0, .bool false, .slice none 0 0, .int .i64 0] 75)).cell? ⟨w.heap.size, 2, none⟩ = some (.int .i64 p.2.2) := by go_simp
 have z0 : ((w.alloc (.cells #[.bool p.1, .slice a n c, .int .i64 p.2.2] 27)).alloc (.cells #[.int .i64 0, .bool false, .slice none 0 0, .int .i64 0] 75)).cell? ⟨w.heap.size + 1, 0, none⟩ = some (.int .i64 0) := by go_simp
 have f0 : ((w.alloc (.cells #[.bool p.1, .slice a n c, .int .i64 p.2.2] 27)).alloc (.cells #[.int .i64 0, .bool false, .slice none 0 0, .int .i64 0] 75)).frozen? ⟨w.heap.size + 1, 0, none⟩ = false := by go_simp
 have z1 : ((w.alloc (.cells #[.bool p.1, .slice a n c, .int .i64 p.2.2] 27)).alloc (.cells #[.int .i64 0, .bool false, .slice none 0 0, .int .i64 0] 75)).cell? ⟨w.heap.size + 1, 1, none⟩ = some (.bool false) := by go_simp
 have f1 : ((w.alloc (.cells #[.bool p.1, .slice a n c, .int .i64 p.2.2] 27)).alloc (.cells #[.int .i64 0, .bool false, .slice none 0 0, .int .i64 0] 75)).frozen? ⟨w.heap.size + 1, 1, none⟩ = false := by go_simp
 have z2 : ((w.alloc (.cells #[.bool p.1, .slice a n c, .int .i64 p.2.2] 27)).alloc (.cells #[.int .i64 0, .bool false, .slice none 0 0, .int .i64 0] 75)).cell? ⟨w.heap.size + 1, 2, none⟩ = some (.slice none 0 0) := by go_simp
 have f2 : ((w.alloc (.cells #[.bool p.1, .slice a n c, .int .i64 p.2.2] 27)).alloc (.cells #[.int .i64 0, .bool false, .slice none 0 0, .int .i64 0] 75)).frozen? ⟨w.heap.size + 1, 2, none⟩ = false := by go_simp
 have z3c : ((w.alloc (.cells #[.bool p.1, .slice a n c, .int .i64 p.2.2] 27)).alloc (.cells #[.int .i64 0, .bool false, .slice none 0 0, .int .i64 0] 75)).cell? ⟨w.heap.size + 1, 3, none⟩ = some (.int .i64 0) := by go_simp
 have f3 : ((w.alloc (.cells #[.bool p.1, .slice a n c, .int .i64 p.2.2] 27)).alloc (.cells #[.int .i64 0, .bool false, .slice none 0 0, .int .i64 0] 75)).frozen? ⟨w.heap.size + 1, 3, none⟩ = false := by go_simp
 have CC : Hid _ := turns_calls p a n c _ (h.keep bA) hn hp (hT.kept bA)
 generalize tnR p = R at *
 generalize tnN p = N at *
 clear h hp hT
 go_enter Tryz.func83, Tryz.ntmps83
 go_wp2_with fail
 generalize ((w.alloc (.cells #[.bool p.1, .slice a n c, .int .i64 p.2.2] 27)).alloc (.cells #[.int .i64 0, .bool false, .slice none 0 0, .int .i64 0] 75)) = w0 at *
 have lb := bA.size
 clear x0 x1 x2
 refine cM CC.out ?_
 rintro r w1 ⟨_, rfl, ⟨a1, n1, c1, rfl, HN1, hn1, hO1⟩, b1⟩
 replace hO1 := hO1.low lb
 replace f0 := kF b1 z0 f0
 replace f1 := kF b1 z1 f1
 replace f2 := kF b1 z2 f2
 replace f3 := kF b1 z3c f3
 replace bA := nT bA b1
 revert z0 z1 z2; refine cc3 b1 ?_; intro z0 z1 z2
 replace z3c := kC b1 z3c
 clear b1 CC
 have bD := below_one w1 (.cells #[.bool R.1, .slice a1 n1 c1, .int .i64 R.2.2] 27)
 replace f0 := kF bD z0 f0
 replace f1 := kF bD z1 f1
 replace f2 := kF bD z2 f2
 replace f3 := kF bD z3c f3
 replace bA := nT bA bD
 revert z0 z1 z2; refine cc3 bD ?_; intro z0 z1 z2
 replace z3c := kC bD z3c
 replace hO1 := hO1.keep bD
 obtain ⟨y0, y1, y2⟩ := fX3 w1 R a1 n1 c1 _ rfl
 clear bD
 go_upto_region 2 with fail
 generalize w1.alloc (.cells #[.bool R.1, .slice a1 n1 c1, .int .i64 R.2.2] 27) = w2 at *
 generalize w1.heap.size = BV at *
 go_wp2_with fail
 exact bodyPost_ret (v := .agg #[.int .i64 N, .bool R.1, .slice a1 n1 c1, .int .i64 R.2.2]) (by simp [results, Tryz.results83, go_sem, z0, z1, z2, z3c]) rfl ⟨a1, n1, c1, rfl, HN1, hn1, hO1.set_tn (w.heap.size + 1) 0 false none 0 0 0 _ _ _ _ z0 z1 z2 z3c, by repeat (first | (with_reducible exact bA) | (with_reducible refine Below.setCell ?_ (by simp; try omega) _) | (with_reducible refine Below.alloc ?_ (by have := bA.size; simp; try omega) _))⟩
theorem hasTan_calls (p : E3) (a : Option Addr) (n c : Nat) (w : World) (h : IsW w a n c (wO p.2.1)) (hn : n ≤ 1024) (hp : OkE p) (hT : Tab w) :
  Calls Tryz.prog 43 #[dyV p.1 a n c p.2.2] w fun q w' => q = .returned (.bool (dTan p)) ∧ Below w.heap.size w w' := by
 have bA := below_one w (.cells #[.bool p.1, .slice a n c, .int .i64 p.2.2] 27)
 obtain ⟨x0, x1, x2⟩ := fX3 w p a n c _ rfl
 have TC : Hid _ := turnOf_calls p a n c _ (h.keep bA) hn hp (hT.kept bA)
 have ZC : Hid _ := fun (W : World) (b : Below w.heap.size w W) (a1 : Option Addr) (n1 c1 : Nat) (g : IsW W a1 n1 c1 (wO (tnR p).2.1)) (h1 : n1 ≤ 1024) => zeroE (tnR p) a1 n1 c1 W g h1 (tnR_ok hp) (hT.kept b)
 have hN := tnN_bd p
 unfold dTan
 generalize tnR p = R at *
 generalize tnN p = N at *
 clear h hp hT
 generalize decide (R.2.1 = 0) = Z at *
 have HN2 : Hid (N.tmod 2 = N % 2) := by show N.tmod 2 = N % 2; rw [Int.tmod_eq_emod_of_nonneg hN.1]
 cases Z
 ·
  go_enter Tryz.func43, Tryz.ntmps43
  go_wp2_with fail
  refine cM TC.out ?_
  rintro r w1 ⟨a1, n1, c1, rfl, HN1, hn1, hO1, b1⟩
  clear x0 x1 x2
  replace bA := nT bA b1
  clear b1 TC
  have bD := below_one w1 (.cells #[.int .i64 N, .bool R.1, .slice a1 n1 c1, .int .i64 R.2.2] 75)
  replace bA := nT bA bD
  replace hO1 := hO1.keep bD
  obtain ⟨t0, t1, t2, t3⟩ := fX10 w1 N R a1 n1 c1 _ rfl
  clear bD
  go_upto_region 2 with fail
  generalize w1.alloc (.cells #[.int .i64 N, .bool R.1, .slice a1 n1 c1, .int .i64 R.2.2] 75) = w2 at *
  generalize w1.heap.size = BV at *
  go_wp2_with fail
  refine cM (ZC.out _ bA _ _ _ hO1.1 hn1) ?_
  rintro r w3 ⟨rfl, b1⟩
  replace bA := nT bA b1
  replace hO1 := hO1.keep b1
  revert t0 t1 t2; refine cc3 b1 ?_; intro t0 t1 t2
  replace t3 := kC b1 t3
  clear b1 ZC
  go_wp2_with fail
  go_ret
  exact ⟨rfl, bA⟩
 ·
  go_enter Tryz.func43, Tryz.ntmps43
  go_wp2_with fail
  refine cM TC.out ?_
  rintro r w1 ⟨a1, n1, c1, rfl, HN1, hn1, hO1, b1⟩
  clear x0 x1 x2
  replace bA := nT bA b1
  clear b1 TC
  have bD := below_one w1 (.cells #[.int .i64 N, .bool R.1, .slice a1 n1 c1, .int .i64 R.2.2] 75)
  replace bA := nT bA bD
  replace hO1 := hO1.keep bD
  obtain ⟨t0, t1, t2, t3⟩ := fX10 w1 N R a1 n1 c1 _ rfl
  clear bD
  go_upto_region 2 with fail
  generalize w1.alloc (.cells #[.int .i64 N, .bool R.1, .slice a1 n1 c1, .int .i64 R.2.2] 75) = w2 at *
  generalize w1.heap.size = BV at *
  go_wp2_with fail
  refine cM (ZC.out _ bA _ _ _ hO1.1 hn1) ?_
  rintro r w3 ⟨rfl, b1⟩
  replace bA := nT bA b1
  replace hO1 := hO1.keep b1
  revert t0 t1 t2; refine cc3 b1 ?_; intro t0 t1 t2
  replace t3 := kC b1 t3
  clear b1 ZC
  go_wp2_with fail
  go_ret
  exact ⟨retB (by simp; first | rfl | (rw [HN2.out]) | omega), bA⟩
theorem sine_calls (r : E3) (N : Int) (a : Option Addr) (n c : Nat) (w : World) (h : IsW w a n c (wO r.2.1)) (hn : n ≤ 1024) (hr : OkE r) (hT : TabE w) (hN : 0 ≤ N ∧ N < 4) :
  Calls Tryz.prog 41 #[.agg #[.int .i64 N, .bool r.1, .slice a n c, .int .i64 r.2.2]] w fun q w' => q = .returned (.tuple #[.int .i64 (hgt N), .bool (decide (r.2.1 = 0))]) ∧ Below w.heap.size w w' := by
 have hN4 : N = 0 ∨ N = 1 ∨ N = 2 ∨ N = 3 := by omega
 rcases hN4 with rfl | rfl | rfl | rfl
 ·
  have bA := below_one w (.cells #[.int .i64 0, .bool r.1, .slice a n c, .int .i64 r.2.2] 75)
  obtain ⟨t0, t1, t2, t3⟩ := fX11 w r a n c _ rfl
  have hc : (w.alloc (.cells #[.int .i64 0, .bool r.1, .slice a n c, .int .i64 r.2.2] 75)).cell? ⟨1, 0, none⟩ = some (.int .i64 0) := kC bA (hT.2.1.2 0 (by decide))
  have ZC : Hid _ := fun W (b : Below w.heap.size w W) => zeroE r a n c W (h.keep b) hn hr (hT.1.kept b)
  generalize decide (r.2.1 = 0) = Z at *
  clear h hr hT hN
  go_enter Tryz.func41, Tryz.ntmps41
  go_upto_region 1 with fail
  generalize w.alloc (.cells #[.int .i64 0, .bool r.1, .slice a n c, .int .i64 r.2.2] 75) = w0 at *
  have bw : Below w0.heap.size w0 w0.drew := (Below.refl _ _).drew
  refine wp_region_held (S := fun w' => Below w0.heap.size w0 w') (by kernel_rfl) ?_
  change wpAnyH _ _ _ _ _ _ _ _ (World.drew w0)
  generalize World.drew w0 = wd at bw ⊢
  refine tk 0 (.pointer (some ⟨w.heap.size, 0, none⟩)) rfl (by kernel_rfl) (fun _ _ _ h => h) (by rfl) ?y1 bw ?r1
  case y1 =>
   intro ww hS
   clear hS
   go_simp
   try first | (with_reducible rfl) | rfl | decide
  try simp only [Act.put, sA]
  refine tk 1 (.int .i64 0) rfl (by kernel_rfl) (fun _ _ _ h => h) (by rfl) ?y2 bw ?r2
  case y2 =>
   intro ww hS
   have q0 := kC hS t0
   have q1 := kC hS t1
   have q2 := kC hS t2
   have q3 := kC hS t3
   clear hS
   go_simp
   try first | (with_reducible rfl) | rfl | decide
  try simp only [Act.put]
  refine tk 2 (.pointer (some ⟨1, 0, none⟩)) rfl (by kernel_rfl) (fun _ _ _ h => h) (by rfl) ?y3 bw ?r3
  case y3 =>
   intro ww hS
   clear hS
   go_simp
   try first | (with_reducible rfl) | rfl | decide
  try simp only [Act.put]
  refine tk 3 (.int .i64 0) rfl (by kernel_rfl) (fun _ _ _ h => h) (by rfl) ?y4 bw ?r4
  case y4 =>
   intro ww hS
   have q0 := kC hS hc
   clear hS
   go_simp
   try first | (with_reducible rfl) | rfl | decide
  try simp only [Act.put]
  refine tk 4 (.pointer (some ⟨w.heap.size, 1, none⟩)) rfl (by kernel_rfl) (fun _ _ _ h => h) (by rfl) ?y5 bw ?r5
  case y5 =>
   intro ww hS
   clear hS
   go_simp
   try first | (with_reducible rfl) | rfl | decide
  try simp only [Act.put]
  refine tk 5 (dyV r.1 a n c r.2.2) rfl (by kernel_rfl) (fun _ _ _ h => h) (by rfl) ?y6 bw ?r6
  case y6 =>
   intro ww hS
   have q0 := kC hS t0
   have q1 := kC hS t1
   have q2 := kC hS t2
   have q3 := kC hS t3
   clear hS
   go_simp
   try first | (with_reducible rfl) | rfl | decide
  try simp only [Act.put]
  refine rd1 6 (by kernel_rfl) rfl fun K hK => ?_
  go_simp
  refine cM (ZC.out _ (nT bA bw)) ?_
  rintro q wn ⟨rfl, bN⟩
  refine hK.out _ _ (nT bw bN) (fun _ => ?_)
  clear hK K
  replace bw := nT bw bN
  clear bN ZC
  try simp only [Act.put, sA, sZ, sS]
  refine rd1 7 (by kernel_rfl) rfl fun K hK => ?_
  go_simp
  refine hK.out _ _ bw (fun _ => ?_)
  clear hK K
  try simp only [Act.put, sA, sZ, sS]
  refine rd1 8 (by kernel_rfl) rfl fun K hK => ?_
  go_simp
  refine hK.out _ _ bw (fun _ => ?_)
  clear hK K
  try simp only [Act.put, sA, sZ, sS]
  refine wpAnyH_done (by kernel_rfl) ?_ _
  go_wp2_with fail
  go_ret2
  exact ⟨rfl, nT bA bw⟩
 ·
  have bA := below_one w (.cells #[.int .i64 1, .bool r.1, .slice a n c, .int .i64 r.2.2] 75)
  obtain ⟨t0, t1, t2, t3⟩ := fX12 w r a n c _ rfl
  have hc : (w.alloc (.cells #[.int .i64 1, .bool r.1, .slice a n c, .int .i64 r.2.2] 75)).cell? ⟨1, 1, none⟩ = some (.int .i64 1) := kC bA (hT.2.1.2 1 (by decide))
  have ZC : Hid _ := fun W (b : Below w.heap.size w W) => zeroE r a n c W (h.keep b) hn hr (hT.1.kept b)
  generalize decide (r.2.1 = 0) = Z at *
  clear h hr hT hN
  go_enter Tryz.func41, Tryz.ntmps41
  go_upto_region 1 with fail
  generalize w.alloc (.cells #[.int .i64 1, .bool r.1, .slice a n c, .int .i64 r.2.2] 75) = w0 at *
  have bw : Below w0.heap.size w0 w0.drew := (Below.refl _ _).drew
  refine wp_region_held (S := fun w' => Below w0.heap.size w0 w') (by kernel_rfl) ?_
  change wpAnyH _ _ _ _ _ _ _ _ (World.drew w0)
  generalize World.drew w0 = wd at bw ⊢
  refine tk 0 (.pointer (some ⟨w.heap.size, 0, none⟩)) rfl (by kernel_rfl) (fun _ _ _ h => h) (by rfl) ?y7 bw ?r7
  case y7 =>
   intro ww hS
   clear hS
   go_simp
   try first | (with_reducible rfl) | rfl | decide
  try simp only [Act.put, sA]
  refine tk 1 (.int .i64 1) rfl (by kernel_rfl) (fun _ _ _ h => h) (by rfl) ?y8 bw ?r8
  case y8 =>
   intro ww hS
   have q0 := kC hS t0
   have q1 := kC hS t1
   have q2 := kC hS t2
   have q3 := kC hS t3
   clear hS
   go_simp
   try first | (with_reducible rfl) | rfl | decide
  try simp only [Act.put]
  refine tk 2 (.pointer (some ⟨1, 1, none⟩)) rfl (by kernel_rfl) (fun _ _ _ h => h) (by rfl) ?y9 bw ?r9
  case y9 =>
   intro ww hS
   clear hS
   go_simp
   try first | (with_reducible rfl) | rfl | decide
  try simp only [Act.put]
  refine tk 3 (.int .i64 1) rfl (by kernel_rfl) (fun _ _ _ h => h) (by rfl) ?y10 bw ?r10
  case y10 =>
   intro ww hS
   have q0 := kC hS hc
   clear hS
   go_simp
   try first | (with_reducible rfl) | rfl | decide
  try simp only [Act.put]
  refine tk 4 (.pointer (some ⟨w.heap.size, 1, none⟩)) rfl (by kernel_rfl) (fun _ _ _ h => h) (by rfl) ?y11 bw ?r11
  case y11 =>
   intro ww hS
   clear hS
   go_simp
   try first | (with_reducible rfl) | rfl | decide
  try simp only [Act.put]
  refine tk 5 (dyV r.1 a n c r.2.2) rfl (by kernel_rfl) (fun _ _ _ h => h) (by rfl) ?y12 bw ?r12
  case y12 =>
   intro ww hS
   have q0 := kC hS t0
   have q1 := kC hS t1
   have q2 := kC hS t2
   have q3 := kC hS t3
   clear hS
   go_simp
   try first | (with_reducible rfl) | rfl | decide
  try simp only [Act.put]
  refine rd1 6 (by kernel_rfl) rfl fun K hK => ?_
  go_simp
  refine cM (ZC.out _ (nT bA bw)) ?_
  rintro q wn ⟨rfl, bN⟩
  refine hK.out _ _ (nT bw bN) (fun _ => ?_)
  clear hK K
  replace bw := nT bw bN
  clear bN ZC
  try simp only [Act.put, sA, sZ, sS]
  refine rd1 7 (by kernel_rfl) rfl fun K hK => ?_
  go_simp
  refine hK.out _ _ bw (fun _ => ?_)
  clear hK K
  try simp only [Act.put, sA, sZ, sS]
  refine rd1 8 (by kernel_rfl) rfl fun K hK => ?_
  go_simp
  refine hK.out _ _ bw (fun _ => ?_)
  clear hK K
  try simp only [Act.put, sA, sZ, sS]
  refine wpAnyH_done (by kernel_rfl) ?_ _
  go_wp2_with fail
  go_ret2
  exact ⟨rfl, nT bA bw⟩
 ·
  have bA := below_one w (.cells #[.int .i64 2, .bool r.1, .slice a n c, .int .i64 r.2.2] 75)
  obtain ⟨t0, t1, t2, t3⟩ := fX13 w r a n c _ rfl
  have hc : (w.alloc (.cells #[.int .i64 2, .bool r.1, .slice a n c, .int .i64 r.2.2] 75)).cell? ⟨1, 2, none⟩ = some (.int .i64 0) := kC bA (hT.2.1.2 2 (by decide))
  have ZC : Hid _ := fun W (b : Below w.heap.size w W) => zeroE r a n c W (h.keep b) hn hr (hT.1.kept b)
  generalize decide (r.2.1 = 0) = Z at *
  clear h hr hT hN
  go_enter Tryz.func41, Tryz.ntmps41
  go_upto_region 1 with fail
  generalize w.alloc (.cells #[.int .i64 2, .bool r.1, .slice a n c, .int .i64 r.2.2] 75) = w0 at *
  have bw : Below w0.heap.size w0 w0.drew := (Below.refl _ _).drew
  refine wp_region_held (S := fun w' => Below w0.heap.size w0 w') (by kernel_rfl) ?_
  change wpAnyH _ _ _ _ _ _ _ _ (World.drew w0)
  generalize World.drew w0 = wd at bw ⊢
  refine tk 0 (.pointer (some ⟨w.heap.size, 0, none⟩)) rfl (by kernel_rfl) (fun _ _ _ h => h) (by rfl) ?y13 bw ?r13
  case y13 =>
   intro ww hS
   clear hS
   go_simp
   try first | (with_reducible rfl) | rfl | decide
  try simp only [Act.put, sA]
  refine tk 1 (.int .i64 2) rfl (by kernel_rfl) (fun _ _ _ h => h) (by rfl) ?y14 bw ?r14
  case y14 =>
   intro ww hS
   have q0 := kC hS t0
   have q1 := kC hS t1
   have q2 := kC hS t2
   have q3 := kC hS t3
   clear hS
   go_simp
   try first | (with_reducible rfl) | rfl | decide
  try simp only [Act.put]
  refine tk 2 (.pointer (some ⟨1, 2, none⟩)) rfl (by kernel_rfl) (fun _ _ _ h => h) (by rfl) ?y15 bw ?r15
  case y15 =>
   intro ww hS
   clear hS
   go_simp
   try first | (with_reducible rfl) | rfl | decide
  try simp only [Act.put]
  refine tk 3 (.int .i64 0) rfl (by kernel_rfl) (fun _ _ _ h => h) (by rfl) ?y16 bw ?r16
  case y16 =>
   intro ww hS
   have q0 := kC hS hc
   clear hS
   go_simp
   try first | (with_reducible rfl) | rfl | decide
  try simp only [Act.put]
  refine tk 4 (.pointer (some ⟨w.heap.size, 1, none⟩)) rfl (by kernel_rfl) (fun _ _ _ h => h) (by rfl) ?y17 bw ?r17
  case y17 =>
   intro ww hS
   clear hS
   go_simp
   try first | (with_reducible rfl) | rfl | decide
  try simp only [Act.put]
  refine tk 5 (dyV r.1 a n c r.2.2) rfl (by kernel_rfl) (fun _ _ _ h => h) (by rfl) ?y18 bw ?r18
  case y18 =>
   intro ww hS
   have q0 := kC hS t0
   have q1 := kC hS t1
   have q2 := kC hS t2
   have q3 := kC hS t3
   clear hS
   go_simp
   try first | (with_reducible rfl) | rfl | decide
  try simp only [Act.put]
  refine rd1 6 (by kernel_rfl) rfl fun K hK => ?_
  go_simp
  refine cM (ZC.out _ (nT bA bw)) ?_
  rintro q wn ⟨rfl, bN⟩
  refine hK.out _ _ (nT bw bN) (fun _ => ?_)
  clear hK K
  replace bw := nT bw bN
  clear bN ZC
  try simp only [Act.put, sA, sZ, sS]
  refine rd1 7 (by kernel_rfl) rfl fun K hK => ?_
  go_simp
  refine hK.out _ _ bw (fun _ => ?_)
  clear hK K
  try simp only [Act.put, sA, sZ, sS]
  refine rd1 8 (by kernel_rfl) rfl fun K hK => ?_
  go_simp
  refine hK.out _ _ bw (fun _ => ?_)
  clear hK K
  try simp only [Act.put, sA, sZ, sS]
  refine wpAnyH_done (by kernel_rfl) ?_ _
  go_wp2_with fail
  go_ret2
  exact ⟨rfl, nT bA bw⟩
 ·
  have bA := below_one w (.cells #[.int .i64 3, .bool r.1, .slice a n c, .int .i64 r.2.2] 75)
  obtain ⟨t0, t1, t2, t3⟩ := fX14 w r a n c _ rfl
  have hc : (w.alloc (.cells #[.int .i64 3, .bool r.1, .slice a n c, .int .i64 r.2.2] 75)).cell? ⟨1, 3, none⟩ = some (.int .i64 (-1)) := kC bA (hT.2.1.2 3 (by decide))
  have ZC : Hid _ := fun W (b : Below w.heap.size w W) => zeroE r a n c W (h.keep b) hn hr (hT.1.kept b)
  generalize decide (r.2.1 = 0) = Z at *
  clear h hr hT hN
  go_enter Tryz.func41, Tryz.ntmps41
  go_upto_region 1 with fail
  generalize w.alloc (.cells #[.int .i64 3, .bool r.1, .slice a n c, .int .i64 r.2.2] 75) = w0 at *
  have bw : Below w0.heap.size w0 w0.drew := (Below.refl _ _).drew
  refine wp_region_held (S := fun w' => Below w0.heap.size w0 w') (by kernel_rfl) ?_
  change wpAnyH _ _ _ _ _ _ _ _ (World.drew w0)
  generalize World.drew w0 = wd at bw ⊢
  refine tk 0 (.pointer (some ⟨w.heap.size, 0, none⟩)) rfl (by kernel_rfl) (fun _ _ _ h => h) (by rfl) ?y19 bw ?r19
  case y19 =>
   intro ww hS
   clear hS
   go_simp
   try first | (with_reducible rfl) | rfl | decide
  try simp only [Act.put, sA]
  refine tk 1 (.int .i64 3) rfl (by kernel_rfl) (fun _ _ _ h => h) (by rfl) ?y20 bw ?r20
  case y20 =>
   intro ww hS
   have q0 := kC hS t0
   have q1 := kC hS t1
   have q2 := kC hS t2
   have q3 := kC hS t3
   clear hS
   go_simp
   try first | (with_reducible rfl) | rfl | decide
  try simp only [Act.put]
  refine tk 2 (.pointer (some ⟨1, 3, none⟩)) rfl (by kernel_rfl) (fun _ _ _ h => h) (by rfl) ?y21 bw ?r21
  case y21 =>
   intro ww hS
   clear hS
   go_simp
   try first | (with_reducible rfl) | rfl | decide
  try simp only [Act.put]
  refine tk 3 (.int .i64 (-1)) rfl (by kernel_rfl) (fun _ _ _ h => h) (by rfl) ?y22 bw ?r22
  case y22 =>
   intro ww hS
   have q0 := kC hS hc
   clear hS
   go_simp
   try first | (with_reducible rfl) | rfl | decide
  try simp only [Act.put]
  refine tk 4 (.pointer (some ⟨w.heap.size, 1, none⟩)) rfl (by kernel_rfl) (fun _ _ _ h => h) (by rfl) ?y23 bw ?r23
  case y23 =>
   intro ww hS
   clear hS
   go_simp
   try first | (with_reducible rfl) | rfl | decide
  try simp only [Act.put]
  refine tk 5 (dyV r.1 a n c r.2.2) rfl (by kernel_rfl) (fun _ _ _ h => h) (by rfl) ?y24 bw ?r24
  case y24 =>
   intro ww hS
   have q0 := kC hS t0
   have q1 := kC hS t1
   have q2 := kC hS t2
   have q3 := kC hS t3
   clear hS
   go_simp
   try first | (with_reducible rfl) | rfl | decide
  try simp only [Act.put]
  refine rd1 6 (by kernel_rfl) rfl fun K hK => ?_
  go_simp
  refine cM (ZC.out _ (nT bA bw)) ?_
  rintro q wn ⟨rfl, bN⟩
  refine hK.out _ _ (nT bw bN) (fun _ => ?_)
  clear hK K
  replace bw := nT bw bN
  clear bN ZC
  try simp only [Act.put, sA, sZ, sS]
  refine rd1 7 (by kernel_rfl) rfl fun K hK => ?_
  go_simp
  refine hK.out _ _ bw (fun _ => ?_)
  clear hK K
  try simp only [Act.put, sA, sZ, sS]
  refine rd1 8 (by kernel_rfl) rfl fun K hK => ?_
  go_simp
  refine hK.out _ _ bw (fun _ => ?_)
  clear hK K
  try simp only [Act.put, sA, sZ, sS]
  refine wpAnyH_done (by kernel_rfl) ?_ _
  go_wp2_with fail
  go_ret2
  exact ⟨rfl, nT bA bw⟩
theorem cosine_calls (r : E3) (N : Int) (a : Option Addr) (n c : Nat) (w : World) (h : IsW w a n c (wO r.2.1)) (hn : n ≤ 1024) (hr : OkE r) (hT : TabE w) (hN : 0 ≤ N ∧ N < 4) :
  Calls Tryz.prog 42 #[.agg #[.int .i64 N, .bool r.1, .slice a n c, .int .i64 r.2.2]] w fun q w' => q = .returned (.tuple #[.int .i64 (hgt ((N + 1) % 4)), .bool (decide (r.2.1 = 0))]) ∧ Below w.heap.size w w' := by
 have hN4 : N = 0 ∨ N = 1 ∨ N = 2 ∨ N = 3 := by omega
 rcases hN4 with rfl | rfl | rfl | rfl
 ·
  have bA := below_one w (.cells #[.int .i64 0, .bool r.1, .slice a n c, .int .i64 r.2.2] 75)
  obtain ⟨t0, t1, t2, t3⟩ := fX11 w r a n c _ rfl
  have hc : (w.alloc (.cells #[.int .i64 0, .bool r.1, .slice a n c, .int .i64 r.2.2] 75)).cell? ⟨1, 1, none⟩ = some (.int .i64 1) := kC bA (hT.2.1.2 1 (by decide))
  have ZC : Hid _ := fun W (b : Below w.heap.size w W) => zeroE r a n c W (h.keep b) hn hr (hT.1.kept b)
  generalize decide (r.2.1 = 0) = Z at *
  clear h hr hT hN
  go_enter Tryz.func42, Tryz.ntmps42
  go_upto_region 1 with fail
  generalize w.alloc (.cells #[.int .i64 0, .bool r.1, .slice a n c, .int .i64 r.2.2] 75) = w0 at *
  have bw : Below w0.heap.size w0 w0.drew := (Below.refl _ _).drew
  refine wp_region_held (S := fun w' => Below w0.heap.size w0 w') (by kernel_rfl) ?_
  change wpAnyH _ _ _ _ _ _ _ _ (World.drew w0)
  generalize World.drew w0 = wd at bw ⊢
  refine tk 0 (.pointer (some ⟨w.heap.size, 0, none⟩)) rfl (by kernel_rfl) (fun _ _ _ h => h) (by rfl) ?y25 bw ?r25
  case y25 =>
   intro ww hS
   clear hS
   go_simp
   try first | (with_reducible rfl) | rfl | decide
  try simp only [Act.put, sA]
  refine tk 1 (.int .i64 0) rfl (by kernel_rfl) (fun _ _ _ h => h) (by rfl) ?y26 bw ?r26
  case y26 =>
   intro ww hS
   have q0 := kC hS t0
   have q1 := kC hS t1
   have q2 := kC hS t2
   have q3 := kC hS t3
   clear hS
   go_simp
   try first | (with_reducible rfl) | rfl | decide
  try simp only [Act.put]
  refine tk 2 (.int .i64 1) rfl (by kernel_rfl) (fun _ _ _ h => h) (by rfl) ?y27 bw ?r27
  case y27 =>
   intro ww hS
   clear hS
   go_simp
   try first | (with_reducible rfl) | rfl | decide
  try simp only [Act.put]
  refine tk 3 (.int .i64 1) rfl (by kernel_rfl) (fun _ _ _ h => h) (by rfl) ?y28 bw ?r28
  case y28 =>
   intro ww hS
   clear hS
   go_simp
   try first | (with_reducible rfl) | rfl | decide
  try simp only [Act.put]
  refine tk 4 (.pointer (some ⟨1, 1, none⟩)) rfl (by kernel_rfl) (fun _ _ _ h => h) (by rfl) ?y29 bw ?r29
  case y29 =>
   intro ww hS
   clear hS
   go_simp
   try first | (with_reducible rfl) | rfl | decide
  try simp only [Act.put]
  refine tk 5 (.int .i64 1) rfl (by kernel_rfl) (fun _ _ _ h => h) (by rfl) ?y30 bw ?r30
  case y30 =>
   intro ww hS
   have q0 := kC hS hc
   clear hS
   go_simp
   try first | (with_reducible rfl) | rfl | decide
  try simp only [Act.put]
  refine tk 6 (.pointer (some ⟨w.heap.size, 1, none⟩)) rfl (by kernel_rfl) (fun _ _ _ h => h) (by rfl) ?y31 bw ?r31
  case y31 =>
   intro ww hS
   clear hS
   go_simp
   try first | (with_reducible rfl) | rfl | decide
  try simp only [Act.put]
  refine tk 7 (dyV r.1 a n c r.2.2) rfl (by kernel_rfl) (fun _ _ _ h => h) (by rfl) ?y32 bw ?r32
  case y32 =>
   intro ww hS
   have q0 := kC hS t0
   have q1 := kC hS t1
   have q2 := kC hS t2
   have q3 := kC hS t3
   clear hS
   go_simp
   try first | (with_reducible rfl) | rfl | decide
  try simp only [Act.put]
  refine rd1 8 (by kernel_rfl) rfl fun K hK => ?_
  go_simp
  refine cM (ZC.out _ (nT bA bw)) ?_
  rintro q wn ⟨rfl, bN⟩
  refine hK.out _ _ (nT bw bN) (fun _ => ?_)
  clear hK K
  replace bw := nT bw bN
  clear bN ZC
  try simp only [Act.put, sA, sZ, sS]
  refine rd1 9 (by kernel_rfl) rfl fun K hK => ?_
  go_simp
  refine hK.out _ _ bw (fun _ => ?_)
  clear hK K
  try simp only [Act.put, sA, sZ, sS]
  refine rd1 10 (by kernel_rfl) rfl fun K hK => ?_
  go_simp
  refine hK.out _ _ bw (fun _ => ?_)
  clear hK K
  try simp only [Act.put, sA, sZ, sS]
  refine wpAnyH_done (by kernel_rfl) ?_ _
  go_wp2_with fail
  go_ret2
  exact ⟨rfl, nT bA bw⟩
 ·
  have bA := below_one w (.cells #[.int .i64 1, .bool r.1, .slice a n c, .int .i64 r.2.2] 75)
  obtain ⟨t0, t1, t2, t3⟩ := fX12 w r a n c _ rfl
  have hc : (w.alloc (.cells #[.int .i64 1, .bool r.1, .slice a n c, .int .i64 r.2.2] 75)).cell? ⟨1, 2, none⟩ = some (.int .i64 0) := kC bA (hT.2.1.2 2 (by decide))
  have ZC : Hid _ := fun W (b : Below w.heap.size w W) => zeroE r a n c W (h.keep b) hn hr (hT.1.kept b)
  generalize decide (r.2.1 = 0) = Z at *
  clear h hr hT hN
  go_enter Tryz.func42, Tryz.ntmps42
  go_upto_region 1 with fail
  generalize w.alloc (.cells #[.int .i64 1, .bool r.1, .slice a n c, .int .i64 r.2.2] 75) = w0 at *
  have bw : Below w0.heap.size w0 w0.drew := (Below.refl _ _).drew
  refine wp_region_held (S := fun w' => Below w0.heap.size w0 w') (by kernel_rfl) ?_
  change wpAnyH _ _ _ _ _ _ _ _ (World.drew w0)
  generalize World.drew w0 = wd at bw ⊢
  refine tk 0 (.pointer (some ⟨w.heap.size, 0, none⟩)) rfl (by kernel_rfl) (fun _ _ _ h => h) (by rfl) ?y33 bw ?r33
  case y33 =>
   intro ww hS
   clear hS
   go_simp
   try first | (with_reducible rfl) | rfl | decide
  try simp only [Act.put, sA]
  refine tk 1 (.int .i64 1) rfl (by kernel_rfl) (fun _ _ _ h => h) (by rfl) ?y34 bw ?r34
  case y34 =>
   intro ww hS
   have q0 := kC hS t0
   have q1 := kC hS t1
   have q2 := kC hS t2
   have q3 := kC hS t3
   clear hS
   go_simp
   try first | (with_reducible rfl) | rfl | decide
  try simp only [Act.put]
  refine tk 2 (.int .i64 2) rfl (by kernel_rfl) (fun _ _ _ h => h) (by rfl) ?y35 bw ?r35
  case y35 =>
   intro ww hS
   clear hS
   go_simp
   try first | (with_reducible rfl) | rfl | decide
  try simp only [Act.put]
  refine tk 3 (.int .i64 2) rfl (by kernel_rfl) (fun _ _ _ h => h) (by rfl) ?y36 bw ?r36
  case y36 =>
   intro ww hS
   clear hS
   go_simp
   try first | (with_reducible rfl) | rfl | decide
  try simp only [Act.put]
  refine tk 4 (.pointer (some ⟨1, 2, none⟩)) rfl (by kernel_rfl) (fun _ _ _ h => h) (by rfl) ?y37 bw ?r37
  case y37 =>
   intro ww hS
   clear hS
   go_simp
   try first | (with_reducible rfl) | rfl | decide
  try simp only [Act.put]
  refine tk 5 (.int .i64 0) rfl (by kernel_rfl) (fun _ _ _ h => h) (by rfl) ?y38 bw ?r38
  case y38 =>
   intro ww hS
   have q0 := kC hS hc
   clear hS
   go_simp
   try first | (with_reducible rfl) | rfl | decide
  try simp only [Act.put]
  refine tk 6 (.pointer (some ⟨w.heap.size, 1, none⟩)) rfl (by kernel_rfl) (fun _ _ _ h => h) (by rfl) ?y39 bw ?r39
  case y39 =>
   intro ww hS
   clear hS
   go_simp
   try first | (with_reducible rfl) | rfl | decide
  try simp only [Act.put]
  refine tk 7 (dyV r.1 a n c r.2.2) rfl (by kernel_rfl) (fun _ _ _ h => h) (by rfl) ?y40 bw ?r40
  case y40 =>
   intro ww hS
   have q0 := kC hS t0
   have q1 := kC hS t1
   have q2 := kC hS t2
   have q3 := kC hS t3
   clear hS
   go_simp
   try first | (with_reducible rfl) | rfl | decide
  try simp only [Act.put]
  refine rd1 8 (by kernel_rfl) rfl fun K hK => ?_
  go_simp
  refine cM (ZC.out _ (nT bA bw)) ?_
  rintro q wn ⟨rfl, bN⟩
  refine hK.out _ _ (nT bw bN) (fun _ => ?_)
  clear hK K
  replace bw := nT bw bN
  clear bN ZC
  try simp only [Act.put, sA, sZ, sS]
  refine rd1 9 (by kernel_rfl) rfl fun K hK => ?_
  go_simp
  refine hK.out _ _ bw (fun _ => ?_)
  clear hK K
  try simp only [Act.put, sA, sZ, sS]
  refine rd1 10 (by kernel_rfl) rfl fun K hK => ?_
  go_simp
  refine hK.out _ _ bw (fun _ => ?_)
  clear hK K
  try simp only [Act.put, sA, sZ, sS]
  refine wpAnyH_done (by kernel_rfl) ?_ _
  go_wp2_with fail
  go_ret2
  exact ⟨rfl, nT bA bw⟩
 ·
  have bA := below_one w (.cells #[.int .i64 2, .bool r.1, .slice a n c, .int .i64 r.2.2] 75)
  obtain ⟨t0, t1, t2, t3⟩ := fX13 w r a n c _ rfl
  have hc : (w.alloc (.cells #[.int .i64 2, .bool r.1, .slice a n c, .int .i64 r.2.2] 75)).cell? ⟨1, 3, none⟩ = some (.int .i64 (-1)) := kC bA (hT.2.1.2 3 (by decide))
  have ZC : Hid _ := fun W (b : Below w.heap.size w W) => zeroE r a n c W (h.keep b) hn hr (hT.1.kept b)
  generalize decide (r.2.1 = 0) = Z at *
  clear h hr hT hN
  go_enter Tryz.func42, Tryz.ntmps42
  go_upto_region 1 with fail
  generalize w.alloc (.cells #[.int .i64 2, .bool r.1, .slice a n c, .int .i64 r.2.2] 75) = w0 at *
  have bw : Below w0.heap.size w0 w0.drew := (Below.refl _ _).drew
  refine wp_region_held (S := fun w' => Below w0.heap.size w0 w') (by kernel_rfl) ?_
  change wpAnyH _ _ _ _ _ _ _ _ (World.drew w0)
  generalize World.drew w0 = wd at bw ⊢
  refine tk 0 (.pointer (some ⟨w.heap.size, 0, none⟩)) rfl (by kernel_rfl) (fun _ _ _ h => h) (by rfl) ?y41 bw ?r41
  case y41 =>
   intro ww hS
   clear hS
   go_simp
   try first | (with_reducible rfl) | rfl | decide
  try simp only [Act.put, sA]
  refine tk 1 (.int .i64 2) rfl (by kernel_rfl) (fun _ _ _ h => h) (by rfl) ?y42 bw ?r42
  case y42 =>
   intro ww hS
   have q0 := kC hS t0
   have q1 := kC hS t1
   have q2 := kC hS t2
   have q3 := kC hS t3
   clear hS
   go_simp
   try first | (with_reducible rfl) | rfl | decide
  try simp only [Act.put]
  refine tk 2 (.int .i64 3) rfl (by kernel_rfl) (fun _ _ _ h => h) (by rfl) ?y43 bw ?r43
  case y43 =>
   intro ww hS
   clear hS
   go_simp
   try first | (with_reducible rfl) | rfl | decide
  try simp only [Act.put]
  refine tk 3 (.int .i64 3) rfl (by kernel_rfl) (fun _ _ _ h => h) (by rfl) ?y44 bw ?r44
  case y44 =>
   intro ww hS
   clear hS
   go_simp
   try first | (with_reducible rfl) | rfl | decide
  try simp only [Act.put]
  refine tk 4 (.pointer (some ⟨1, 3, none⟩)) rfl (by kernel_rfl) (fun _ _ _ h => h) (by rfl) ?y45 bw ?r45
  case y45 =>
   intro ww hS
   clear hS
   go_simp
   try first | (with_reducible rfl) | rfl | decide
  try simp only [Act.put]
  refine tk 5 (.int .i64 (-1)) rfl (by kernel_rfl) (fun _ _ _ h => h) (by rfl) ?y46 bw ?r46
  case y46 =>
   intro ww hS
   have q0 := kC hS hc
   clear hS
   go_simp
   try first | (with_reducible rfl) | rfl | decide
  try simp only [Act.put]
  refine tk 6 (.pointer (some ⟨w.heap.size, 1, none⟩)) rfl (by kernel_rfl) (fun _ _ _ h => h) (by rfl) ?y47 bw ?r47
  case y47 =>
   intro ww hS
   clear hS
   go_simp
   try first | (with_reducible rfl) | rfl | decide
  try simp only [Act.put]
  refine tk 7 (dyV r.1 a n c r.2.2) rfl (by kernel_rfl) (fun _ _ _ h => h) (by rfl) ?y48 bw ?r48
  case y48 =>
   intro ww hS
   have q0 := kC hS t0
   have q1 := kC hS t1
   have q2 := kC hS t2
   have q3 := kC hS t3
   clear hS
   go_simp
   try first | (with_reducible rfl) | rfl | decide
  try simp only [Act.put]
  refine rd1 8 (by kernel_rfl) rfl fun K hK => ?_
  go_simp
  refine cM (ZC.out _ (nT bA bw)) ?_
  rintro q wn ⟨rfl, bN⟩
  refine hK.out _ _ (nT bw bN) (fun _ => ?_)
  clear hK K
  replace bw := nT bw bN
  clear bN ZC
  try simp only [Act.put, sA, sZ, sS]
  refine rd1 9 (by kernel_rfl) rfl fun K hK => ?_
  go_simp
  refine hK.out _ _ bw (fun _ => ?_)
  clear hK K
  try simp only [Act.put, sA, sZ, sS]
  refine rd1 10 (by kernel_rfl) rfl fun K hK => ?_
  go_simp
  refine hK.out _ _ bw (fun _ => ?_)
  clear hK K
  try simp only [Act.put, sA, sZ, sS]
  refine wpAnyH_done (by kernel_rfl) ?_ _
  go_wp2_with fail
  go_ret2
  exact ⟨rfl, nT bA bw⟩
 ·
  have bA := below_one w (.cells #[.int .i64 3, .bool r.1, .slice a n c, .int .i64 r.2.2] 75)
  obtain ⟨t0, t1, t2, t3⟩ := fX14 w r a n c _ rfl
  have hc : (w.alloc (.cells #[.int .i64 3, .bool r.1, .slice a n c, .int .i64 r.2.2] 75)).cell? ⟨1, 0, none⟩ = some (.int .i64 0) := kC bA (hT.2.1.2 0 (by decide))
  have ZC : Hid _ := fun W (b : Below w.heap.size w W) => zeroE r a n c W (h.keep b) hn hr (hT.1.kept b)
  generalize decide (r.2.1 = 0) = Z at *
  clear h hr hT hN
  go_enter Tryz.func42, Tryz.ntmps42
  go_upto_region 1 with fail
  generalize w.alloc (.cells #[.int .i64 3, .bool r.1, .slice a n c, .int .i64 r.2.2] 75) = w0 at *
  have bw : Below w0.heap.size w0 w0.drew := (Below.refl _ _).drew
  refine wp_region_held (S := fun w' => Below w0.heap.size w0 w') (by kernel_rfl) ?_
  change wpAnyH _ _ _ _ _ _ _ _ (World.drew w0)
  generalize World.drew w0 = wd at bw ⊢
  refine tk 0 (.pointer (some ⟨w.heap.size, 0, none⟩)) rfl (by kernel_rfl) (fun _ _ _ h => h) (by rfl) ?y49 bw ?r49
  case y49 =>
   intro ww hS
   clear hS
   go_simp
   try first | (with_reducible rfl) | rfl | decide
  try simp only [Act.put, sA]
  refine tk 1 (.int .i64 3) rfl (by kernel_rfl) (fun _ _ _ h => h) (by rfl) ?y50 bw ?r50
  case y50 =>
   intro ww hS
   have q0 := kC hS t0
   have q1 := kC hS t1
   have q2 := kC hS t2
   have q3 := kC hS t3
   clear hS
   go_simp
   try first | (with_reducible rfl) | rfl | decide
  try simp only [Act.put]
  refine tk 2 (.int .i64 4) rfl (by kernel_rfl) (fun _ _ _ h => h) (by rfl) ?y51 bw ?r51
  case y51 =>
   intro ww hS
   clear hS
   go_simp
   try first | (with_reducible rfl) | rfl | decide
  try simp only [Act.put]
  refine tk 3 (.int .i64 0) rfl (by kernel_rfl) (fun _ _ _ h => h) (by rfl) ?y52 bw ?r52
  case y52 =>
   intro ww hS
   clear hS
   go_simp
   try first | (with_reducible rfl) | rfl | decide
  try simp only [Act.put]
  refine tk 4 (.pointer (some ⟨1, 0, none⟩)) rfl (by kernel_rfl) (fun _ _ _ h => h) (by rfl) ?y53 bw ?r53
  case y53 =>
   intro ww hS
   clear hS
   go_simp
   try first | (with_reducible rfl) | rfl | decide
  try simp only [Act.put]
  refine tk 5 (.int .i64 0) rfl (by kernel_rfl) (fun _ _ _ h => h) (by rfl) ?y54 bw ?r54
  case y54 =>
   intro ww hS
   have q0 := kC hS hc
   clear hS
   go_simp
   try first | (with_reducible rfl) | rfl | decide
  try simp only [Act.put]
  refine tk 6 (.pointer (some ⟨w.heap.size, 1, none⟩)) rfl (by kernel_rfl) (fun _ _ _ h => h) (by rfl) ?y55 bw ?r55
  case y55 =>
   intro ww hS
   clear hS
   go_simp
   try first | (with_reducible rfl) | rfl | decide
  try simp only [Act.put]
  refine tk 7 (dyV r.1 a n c r.2.2) rfl (by kernel_rfl) (fun _ _ _ h => h) (by rfl) ?y56 bw ?r56
  case y56 =>
   intro ww hS
   have q0 := kC hS t0
   have q1 := kC hS t1
   have q2 := kC hS t2
   have q3 := kC hS t3
   clear hS
   go_simp
   try first | (with_reducible rfl) | rfl | decide
  try simp only [Act.put]
  refine rd1 8 (by kernel_rfl) rfl fun K hK => ?_
  go_simp
  refine cM (ZC.out _ (nT bA bw)) ?_
  rintro q wn ⟨rfl, bN⟩
  refine hK.out _ _ (nT bw bN) (fun _ => ?_)
  clear hK K
  replace bw := nT bw bN
  clear bN ZC
  try simp only [Act.put, sA, sZ, sS]
  refine rd1 9 (by kernel_rfl) rfl fun K hK => ?_
  go_simp
  refine hK.out _ _ bw (fun _ => ?_)
  clear hK K
  try simp only [Act.put, sA, sZ, sS]
  refine rd1 10 (by kernel_rfl) rfl fun K hK => ?_
  go_simp
  refine hK.out _ _ bw (fun _ => ?_)
  clear hK K
  try simp only [Act.put, sA, sZ, sS]
  refine wpAnyH_done (by kernel_rfl) ?_ _
  go_wp2_with fail
  go_ret2
  exact ⟨rfl, nT bA bw⟩
end Go.Proofs.YtiijfnaaekmpbaaGreatDoor

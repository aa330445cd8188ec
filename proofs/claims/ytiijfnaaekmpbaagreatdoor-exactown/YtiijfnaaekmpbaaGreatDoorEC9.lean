/- Half turns: the nearest whole number, and what is left. -/
import Derived.Test.YtiijfnaaekmpbaaGreatDoorALX
import Derived.Test.YtiijfnaaekmpbaaGreatDoorCR
import Derived.Test.YtiijfnaaekmpbaaGreatDoorEC8
import Derived.Test.YtiijfnaaekmpbaaGreatDoorFX
namespace Go.Proofs.YtiijfnaaekmpbaaGreatDoor
open Go.RowKit
set_option maxHeartbeats 4000000
set_option maxRecDepth 100000
theorem shl_fit {u k m : Nat} (h : u * 2 ^ k ≤ m) (hg : greatB m = false) : shlR u (k : Int) = (u * 2 ^ k, 0) := by
 have hu : greatB u = false := great_mono (Nat.le_trans (Nat.le_mul_of_pos_right _ (Nat.two_pow_pos k)) h) hg
 unfold shlR
 rw [hu, if_neg (by decide), if_neg (by omega), Int.toNat_natCast]
 by_cases h0 : u = 0
 ·rw [if_pos h0, h0, Nat.zero_mul]
 ·have h1 : blen (u * 2 ^ k) ≤ 65536 := (great_not _).1 (great_mono h hg)
  rw [blen_mul u k h0] at h1
  rw [if_neg h0, if_neg (by omega)]
theorem sub_fit {u v : Nat} (h : v ≤ u) (hg : greatB u = false) : subR u v = (u - v, 0) := by
 unfold subR
 rw [hg, great_mono h hg, if_neg (by decide), if_neg (by omega)]
theorem add_fit {u : Nat} (k m : Nat) (hk : 1 ≤ k) (hu : u = m / 2 ^ k) (hg : greatB m = false) : addR u 1 = (u + 1, 0) ∧ greatB (u + 1) = false := by
 have h2 : 2 ≤ 2 ^ k := by
  obtain ⟨j, rfl⟩ : ∃ j, k = j + 1 := ⟨k - 1, by omega⟩
  have := Nat.two_pow_pos j
  rw [Nat.pow_succ]; omega
 have h1 : u ≤ m / 2 := by rw [hu]; exact Nat.div_le_div_left h2 (by decide)
 have g1 : greatB 1 = false := by decide +kernel
 have g2 : greatB (u + 1) = false := by
  by_cases q : m ≤ 1
  ·exact great_mono (show u + 1 ≤ 1 by omega) g1
  ·exact great_mono (show u + 1 ≤ m by omega) hg
 refine ⟨?_, g2⟩
 rw [addR_no (by rw [g1, great_mono (Nat.le_succ u) g2]; rfl), fitR_no g2]
theorem two_fit (k : Nat) (hk : k ≤ 40000) : greatB (2 ^ k) = false := by
 rw [great_not]
 have : blen (2 ^ k) ≤ k + 1 := (blen_le _ _).2 (Nat.pow_lt_pow_right (by decide) (Nat.lt_succ_self k))
 omega
theorem near_pos (s : Bool) (e : Int) (a : Option Addr) (n c : Nat) (w : World) (he : 0 ≤ e) :
  Calls Tryz.prog 140 #[dyV s a n c e] w fun q w' => q = .returned (.tuple #[dyV s a n c e, dyV false none 0 0 0]) ∧ Below w.heap.size w w' := by
 have bA : Below w.heap.size w (((w.alloc (.cells #[.bool s, .slice a n c, .int .i64 e] 27)).alloc (.cells #[.bool false, .slice none 0 0, .int .i64 0] 27)).alloc (.cells #[.bool false, .slice none 0 0, .int .i64 0] 27)) := nT (nT (below_one _ _) (below_one _ _)) (below_one _ _)
 obtain ⟨x0, x1, x2, y0, yf0, y1, yf1, y2, yf2, z0, zf0, z1, zf1, z2, zf2⟩ := fX8 w s a n c e _ rfl
 go_enter Tryz.func140, Tryz.ntmps140
 go_upto_region 2 with fail
 generalize (((w.alloc (.cells #[.bool s, .slice a n c, .int .i64 e] 27)).alloc (.cells #[.bool false, .slice none 0 0, .int .i64 0] 27)).alloc (.cells #[.bool false, .slice none 0 0, .int .i64 0] 27)) = w0 at *
 go_wp2_with fail
 have NE : w.heap.size + 1 ≠ w.heap.size + 2 := by omega
 have q0 := set3_cell (v0 := .bool s) (v1 := .slice a n c) (v2 := .int .i64 e) z0 (r := w.heap.size + 1) (by omega)
 have q1 := set3_cell (v0 := .bool s) (v1 := .slice a n c) (v2 := .int .i64 e) z1 (r := w.heap.size + 1) (by omega)
 have q2 := set3_cell (v0 := .bool s) (v1 := .slice a n c) (v2 := .int .i64 e) z2 (r := w.heap.size + 1) (by omega)
 exact bodyPost_ret (v := .tuple #[dyV s a n c e, dyV false none 0 0 0]) (by simp [results, Tryz.results140, go_sem, y0, y1, y2, z0, z1, z2]) rfl ⟨rfl, by repeat (first | (with_reducible exact bA) | (with_reducible refine Below.setCell ?_ (by simp; try omega) _) | (with_reducible refine Below.alloc ?_ (by have := bA.size; simp; try omega) _))⟩
theorem near_neg (s : Bool) (m k : Nat) (e : Int) (a : Option Addr) (n c : Nat) (w : World) (h : IsW w a n c (wO m)) (hn : n ≤ 1024) (hg : greatB m = false) (hk : 1 ≤ k) (hk2 : k ≤ 40000) (he : e = -(k : Int)) {u : Bool} (hu : up2 m (k : Int) = u) :
  Calls Tryz.prog 140 #[dyV s a n c e] w fun q w' => ∃ (a1 : Option Addr) (n1 c1 : Nat) (a2 : Option Addr) (n2 c2 : Nat), q = .returned (.tuple #[dyV s a1 n1 c1 0, dyV (!(s == u)) a2 n2 c2 e]) ∧
   Hid (n1 = (wO (m / 2 ^ k + u.toNat)).length) ∧ n1 ≤ 1024 ∧ OwnW w.heap.size w' a1 n1 c1 (wO (m / 2 ^ k + u.toNat)) ∧ Hid (n2 = (wO (if u = true then 2 ^ k - m % 2 ^ k else m % 2 ^ k)).length) ∧ n2 ≤ 1024 ∧ OwnW w.heap.size w' a2 n2 c2 (wO (if u = true then 2 ^ k - m % 2 ^ k else m % 2 ^ k)) ∧ Below w.heap.size w w' := by
 have bA : Below w.heap.size w (((w.alloc (.cells #[.bool s, .slice a n c, .int .i64 e] 27)).alloc (.cells #[.bool false, .slice none 0 0, .int .i64 0] 27)).alloc (.cells #[.bool false, .slice none 0 0, .int .i64 0] 27)) := nT (nT (below_one _ _) (below_one _ _)) (below_one _ _)
 obtain ⟨x0, x1, x2, y0, yf0, y1, yf1, y2, yf2, z0, zf0, z1, zf1, z2, zf2⟩ := fX8 w s a n c e _ rfl
 have hdm : m / 2 ^ k * 2 ^ k ≤ m := Nat.div_mul_le_self m (2 ^ k)
 have hmod : m - m / 2 ^ k * 2 ^ k = m % 2 ^ k := by have := Nat.div_add_mod m (2 ^ k); rw [Nat.mul_comm] at this; omega
 have hml : m % 2 ^ k ≤ 2 ^ k := Nat.le_of_lt (Nat.mod_lt _ (Nat.two_pow_pos k))
 have RC : Hid _ := rDown_calls a n c m k _ (h.keep bA) hn hg hk (by omega) rfl hu
 have SC : Hid _ := fun (W : World) (a1 : Option Addr) (n1 c1 : Nat) (g : IsW W a1 n1 c1 (wO (m / 2 ^ k))) (h1 : n1 ≤ 1024) => fxShl a1 n1 c1 (wO (m / 2 ^ k)) (k : Int) W g (by omega) (by omega) (by rw [val_words]; exact shl_fit hdm hg)
 have LC : Hid _ := fun (W : World) (b : Below w.heap.size w W) (a1 : Option Addr) (n1 c1 : Nat) (g : IsW W a1 n1 c1 (wO (m / 2 ^ k * 2 ^ k))) (h1 : n1 ≤ 1024) => fxLess a n c (wO m) a1 n1 c1 (wO (m / 2 ^ k * 2 ^ k)) W (h.keep b) g (by omega) (by omega) (r := m % 2 ^ k) (by rw [val_words, val_words, sub_fit hdm hg, hmod])
 have OC : Hid _ := fun W => of_eq 1 W (by decide)
 have PC : Hid _ := fun (W : World) (a1 : Option Addr) (n1 c1 : Nat) (g : IsW W a1 n1 c1 (wO (m / 2 ^ k))) (h1 : n1 ≤ 1024) (a2 : Option Addr) (n2 c2 : Nat) (g2 : IsW W a2 n2 c2 (wO 1)) (h2 : n2 ≤ 1024) => fxPlus a1 n1 c1 (wO (m / 2 ^ k)) a2 n2 c2 (wO 1) W g g2 (by omega) (by omega) (by rw [val_words, val_words]; exact (add_fit k m hk rfl hg).1)
 have TC : Hid _ := fun W => fxOne k W (by omega) rfl
 have MC : Hid _ := fun (W : World) (a1 : Option Addr) (n1 c1 : Nat) (g : IsW W a1 n1 c1 (wO (2 ^ k))) (h1 : n1 ≤ 1024) (a2 : Option Addr) (n2 c2 : Nat) (g2 : IsW W a2 n2 c2 (wO (m % 2 ^ k))) (h2 : n2 ≤ 1024) => fxLess a1 n1 c1 (wO (2 ^ k)) a2 n2 c2 (wO (m % 2 ^ k)) W g g2 (by omega) (by omega) (by rw [val_words, val_words]; exact sub_fit hml (two_fit k hk2))
 have hw : IntKind.i64.wrap (-e) = (k : Int) := by rw [he, IntKind.wrap_i64]; omega
 have hel : e < 0 := by omega
 generalize m / 2 ^ k * 2 ^ k = D1 at *
 generalize m / 2 ^ k = Q at *
 generalize 2 ^ k - m % 2 ^ k = M2 at *
 generalize m % 2 ^ k = M1 at *
 generalize 2 ^ k = P2 at *
 clear h hg hu hdm hmod hml hk hk2 he
 cases u
 ·
  simp only [Bool.toNat_false, Bool.false_eq_true, if_false, Nat.add_zero]
  go_enter Tryz.func140, Tryz.ntmps140
  go_wp2_with fail
  generalize (((w.alloc (.cells #[.bool s, .slice a n c, .int .i64 e] 27)).alloc (.cells #[.bool false, .slice none 0 0, .int .i64 0] 27)).alloc (.cells #[.bool false, .slice none 0 0, .int .i64 0] 27)) = w0 at *
  have lb := bA.size
  refine cM RC.out ?_
  rintro q w1 ⟨a1, n1, c1, rfl, HN1, hn1, hO1, b1⟩
  replace hO1 := hO1.low lb
  replace yf0 := kF b1 y0 yf0
  replace yf1 := kF b1 y1 yf1
  replace yf2 := kF b1 y2 yf2
  replace zf0 := kF b1 z0 zf0
  replace zf1 := kF b1 z1 zf1
  replace zf2 := kF b1 z2 zf2
  replace bA := nT bA b1
  revert x0 x1 x2 y0 y1 y2; refine cc6 b1 ?_; intro x0 x1 x2 y0 y1 y2
  revert z0 z1 z2; refine cc3 b1 ?_; intro z0 z1 z2
  replace lb := Nat.le_trans lb b1.size
  clear b1 RC
  go_upto_region 4 with fail
  have bw : Below w1.heap.size w1 w1.drew := (Below.refl _ _).drew
  refine wp_region_held (S := fun w' => Below w1.heap.size w1 w') (by kernel_rfl) ?_
  change wpAnyH _ _ _ _ _ _ _ _ (World.drew w1)
  generalize World.drew w1 = wd at bw ⊢
  refine tk 0 (.pointer (some ⟨w.heap.size, 1, none⟩)) rfl (by kernel_rfl) (fun _ _ _ h => h) (by rfl) ?y1 bw ?r1
  case y1 =>
   intro ww hS
   clear hS
   go_simp
   try with_reducible rfl
  try simp only [Act.put, sA]
  refine tk 1 (.slice a n c) rfl (by kernel_rfl) (fun _ _ _ h => h) (by rfl) ?y2 bw ?r2
  case y2 =>
   intro ww hS
   have q0 := kC hS x0
   have q1 := kC hS x1
   have q2 := kC hS x2
   clear hS
   go_simp
   try with_reducible rfl
  try simp only [Act.put]
  refine tk 2 (.slice a1 n1 c1) rfl (by kernel_rfl) (fun _ _ _ h => h) (by rfl) ?y3 bw ?r3
  case y3 =>
   intro ww hS
   clear hS
   go_simp
   try with_reducible rfl
  try simp only [Act.put]
  refine tk 3 (.pointer (some ⟨w.heap.size, 2, none⟩)) rfl (by kernel_rfl) (fun _ _ _ h => h) (by rfl) ?y4 bw ?r4
  case y4 =>
   intro ww hS
   clear hS
   go_simp
   try with_reducible rfl
  try simp only [Act.put]
  refine tk 4 (.int .i64 e) rfl (by kernel_rfl) (fun _ _ _ h => h) (by rfl) ?y5 bw ?r5
  case y5 =>
   intro ww hS
   have q0 := kC hS x0
   have q1 := kC hS x1
   have q2 := kC hS x2
   clear hS
   go_simp
   try with_reducible rfl
  try simp only [Act.put]
  refine tk 5 (.int .i64 (k : Int)) rfl (by kernel_rfl) (fun _ _ _ h => h) (by rfl) ?y6 bw ?r6
  case y6 =>
   intro ww hS
   clear hS
   go_simp
   try with_reducible rfl
  try simp only [Act.put]
  refine rd1 6 (by kernel_rfl) rfl fun K hK => ?_
  go_simp
  refine cM (SC.out _ _ _ _ (hO1.keep bw).1 hn1) ?_
  rintro q wn ⟨a3, n3, c3, rfl, HN3, hn3, hO3, bN⟩
  refine hK.out _ _ (nT bw bN) (fun _ => ?_)
  clear hK K
  replace bw := nT bw bN
  clear bN SC
  try simp only [Act.put, sA, sZ, sS]
  refine rd1 7 (by kernel_rfl) rfl fun K hK => ?_
  go_simp
  refine cM (LC.out _ (nT bA bw) _ _ _ hO3.1 hn3) ?_
  rintro q wm ⟨a4, n4, c4, rfl, HN4, hn4, hO4, bN⟩
  refine hK.out _ _ (nT bw bN) (fun _ => ?_)
  clear hK K
  have hP4 := hO4.low (Nat.le_trans lb bw.size)
  replace bw := nT bw bN
  clear bN LC hO3 HN3 hn3 hO4
  try simp only [Act.put, sA, sZ, sS]
  refine rd1 8 (by kernel_rfl) rfl fun K hK => ?_
  go_simp
  refine hK.out _ _ bw (fun _ => ?_)
  clear hK K
  try simp only [Act.put, sA, sZ, sS]
  refine wpAnyH_done (by kernel_rfl) ?_ _
  replace yf0 := kF bw y0 yf0
  replace yf1 := kF bw y1 yf1
  replace yf2 := kF bw y2 yf2
  replace zf0 := kF bw z0 zf0
  replace zf1 := kF bw z1 zf1
  replace zf2 := kF bw z2 zf2
  replace bA := nT bA bw
  revert x0 x1 x2 y0 y1 y2; refine cc6 bw ?_; intro x0 x1 x2 y0 y1 y2
  revert z0 z1 z2; refine cc3 bw ?_; intro z0 z1 z2
  replace lb := Nat.le_trans lb bw.size
  replace hO1 := hO1.keep bw
  clear bw
  go_upto_region 7 with fail
  have bs : wm.drew.cell? ⟨w.heap.size, 0, none⟩ = some (.bool s) ∧ wm.drew.cell? ⟨w.heap.size, 2, none⟩ = some (.int .i64 e) := ⟨x0, x2⟩
  refine wp_region_held (S := fun w' => w'.cell? ⟨w.heap.size, 0, none⟩ = some (.bool s) ∧ w'.cell? ⟨w.heap.size, 2, none⟩ = some (.int .i64 e)) (by kernel_rfl) ?_
  change wpAnyH _ _ _ _ _ _ _ _ (World.drew wm)
  have bD0 : Below wm.heap.size wm wm.drew := (Below.refl _ _).drew
  replace yf0 := kF bD0 y0 yf0
  replace yf1 := kF bD0 y1 yf1
  replace yf2 := kF bD0 y2 yf2
  replace zf0 := kF bD0 z0 zf0
  replace zf1 := kF bD0 z1 zf1
  replace zf2 := kF bD0 z2 zf2
  replace bA := nT bA bD0
  revert y0 y1 y2 z0 z1 z2; refine cc6 bD0 ?_; intro y0 y1 y2 z0 z1 z2
  replace lb := Nat.le_trans lb bD0.size
  replace hO1 := hO1.keep bD0
  replace hP4 := hP4.keep bD0
  clear bD0 x0 x1 x2
  generalize World.drew wm = wd at *
  refine tk 0 (.pointer (some ⟨w.heap.size, 0, none⟩)) rfl (by kernel_rfl) (fun _ _ _ h => h) (by rfl) ?y7 bs ?r7
  case y7 =>
   intro ww hS
   obtain ⟨q0, q2⟩ := hS
   go_simp
   try with_reducible rfl
  try simp only [Act.put, sA]
  refine tk 1 (.bool s) rfl (by kernel_rfl) (fun _ _ _ h => h) (by rfl) ?y8 bs ?r8
  case y8 =>
   intro ww hS
   obtain ⟨q0, q2⟩ := hS
   go_simp
   try with_reducible rfl
  try simp only [Act.put]
  refine tk 2 (.slice a1 n1 c1) rfl (by kernel_rfl) (fun _ _ _ h => h) (by rfl) ?y9 bs ?r9
  case y9 =>
   intro ww hS
   obtain ⟨q0, q2⟩ := hS
   go_simp
   try with_reducible rfl
  try simp only [Act.put]
  refine tk 3 (dyV s a1 n1 c1 0) rfl (by kernel_rfl) (fun _ _ _ h => h) (by rfl) ?y10 bs ?r10
  case y10 =>
   intro ww hS
   obtain ⟨q0, q2⟩ := hS
   go_simp
   try with_reducible rfl
  try simp only [Act.put]
  refine tk 4 (.pointer (some ⟨w.heap.size, 0, none⟩)) rfl (by kernel_rfl) (fun _ _ _ h => h) (by rfl) ?y11 bs ?r11
  case y11 =>
   intro ww hS
   obtain ⟨q0, q2⟩ := hS
   go_simp
   try with_reducible rfl
  try simp only [Act.put]
  refine tk 5 (.bool s) rfl (by kernel_rfl) (fun _ _ _ h => h) (by rfl) ?y12 bs ?r12
  case y12 =>
   intro ww hS
   obtain ⟨q0, q2⟩ := hS
   go_simp
   try with_reducible rfl
  try simp only [Act.put]
  refine tk 6 (.bool false) rfl (by kernel_rfl) (fun _ _ _ h => h) (by rfl) ?y13 bs ?r13
  case y13 =>
   intro ww hS
   obtain ⟨q0, q2⟩ := hS
   go_simp
   try with_reducible rfl
  try simp only [Act.put]
  refine tk 7 (.bool (!(s == false))) rfl (by kernel_rfl) (fun _ _ _ h => h) (by rfl) ?y14 bs ?r14
  case y14 =>
   intro ww hS
   obtain ⟨q0, q2⟩ := hS
   go_simp
   try with_reducible rfl
  try simp only [Act.put]
  refine tk 8 (.slice a4 n4 c4) rfl (by kernel_rfl) (fun _ _ _ h => h) (by rfl) ?y15 bs ?r15
  case y15 =>
   intro ww hS
   obtain ⟨q0, q2⟩ := hS
   go_simp
   try with_reducible rfl
  try simp only [Act.put]
  refine tk 9 (.pointer (some ⟨w.heap.size, 2, none⟩)) rfl (by kernel_rfl) (fun _ _ _ h => h) (by rfl) ?y16 bs ?r16
  case y16 =>
   intro ww hS
   obtain ⟨q0, q2⟩ := hS
   go_simp
   try with_reducible rfl
  try simp only [Act.put]
  refine tk 10 (.int .i64 e) rfl (by kernel_rfl) (fun _ _ _ h => h) (by rfl) ?y17 bs ?r17
  case y17 =>
   intro ww hS
   obtain ⟨q0, q2⟩ := hS
   go_simp
   try with_reducible rfl
  try simp only [Act.put]
  refine tk 11 (dyV (!(s == false)) a4 n4 c4 e) rfl (by kernel_rfl) (fun _ _ _ h => h) (by rfl) ?y18 bs ?r18
  case y18 =>
   intro ww hS
   obtain ⟨q0, q2⟩ := hS
   go_simp
   try with_reducible rfl
  try simp only [Act.put]
  refine rd1 12 (by kernel_rfl) rfl fun K hK => ?_
  go_simp
  have bs1 := And.intro (set3_cell (v0 := .bool s) (v1 := .slice a1 n1 c1) (v2 := .int .i64 0) bs.1 (r := w.heap.size + 1) (by omega)) (set3_cell (v0 := .bool s) (v1 := .slice a1 n1 c1) (v2 := .int .i64 0) bs.2 (r := w.heap.size + 1) (by omega))
  refine hK.out _ _ bs1 (fun _ => ?_)
  clear hK K
  try simp only [Act.put, sA, sZ, sS]
  have nz0 := set3_cell (v0 := .bool s) (v1 := .slice a1 n1 c1) (v2 := .int .i64 0) z0 (r := w.heap.size + 1) (by omega)
  have nz1 := set3_cell (v0 := .bool s) (v1 := .slice a1 n1 c1) (v2 := .int .i64 0) z1 (r := w.heap.size + 1) (by omega)
  have nz2 := set3_cell (v0 := .bool s) (v1 := .slice a1 n1 c1) (v2 := .int .i64 0) z2 (r := w.heap.size + 1) (by omega)
  have nf0 := set3_frozen (r := w.heap.size + 1) (v0 := .bool s) (v1 := .slice a1 n1 c1) (v2 := .int .i64 0) zf0
  have nf1 := set3_frozen (r := w.heap.size + 1) (v0 := .bool s) (v1 := .slice a1 n1 c1) (v2 := .int .i64 0) zf1
  have nf2 := set3_frozen (r := w.heap.size + 1) (v0 := .bool s) (v1 := .slice a1 n1 c1) (v2 := .int .i64 0) zf2
  obtain ⟨ny0, ny1, ny2⟩ := set3_same (r := w.heap.size + 1) (v0 := .bool s) (v1 := .slice a1 n1 c1) (v2 := .int .i64 0) y0 y1 y2
  replace hO1 := hO1.set_dy (w.heap.size + 1) _ _ _ _ _ (.bool s) (.slice a1 n1 c1) (.int .i64 0) y0 y1 y2
  replace hP4 := hP4.set_dy (w.heap.size + 1) _ _ _ _ _ (.bool s) (.slice a1 n1 c1) (.int .i64 0) y0 y1 y2
  have nbA := ((bA.setCell (p := ⟨w.heap.size + 1, 0, none⟩) (by simp) (.bool s)).setCell (p := ⟨w.heap.size + 1, 1, none⟩) (by simp) (.slice a1 n1 c1)).setCell (p := ⟨w.heap.size + 1, 2, none⟩) (by simp) (.int .i64 0)
  clear y0 y1 y2 z0 z1 z2 zf0 zf1 zf2 yf0 yf1 yf2 bs bA lb
  generalize (((wd.setCell ⟨w.heap.size + 1, 0, none⟩ (.bool s)).setCell ⟨w.heap.size + 1, 1, none⟩ (.slice a1 n1 c1)).setCell ⟨w.heap.size + 1, 2, none⟩ (.int .i64 0)) = we at *
  refine rd1 13 (by kernel_rfl) rfl fun K hK => ?_
  go_simp
  have bs2 := And.intro (set3_cell (v0 := .bool (!(s == false))) (v1 := .slice a4 n4 c4) (v2 := .int .i64 e) bs1.1 (r := w.heap.size + 2) (by omega)) (set3_cell (v0 := .bool (!(s == false))) (v1 := .slice a4 n4 c4) (v2 := .int .i64 e) bs1.2 (r := w.heap.size + 2) (by omega))
  refine hK.out _ _ (by simpa using bs2) (fun _ => ?_)
  clear hK K
  try simp only [Act.put, sA, sZ, sS]
  refine wpAnyH_done (by kernel_rfl) ?_ _
  go_wp2_with fail
  exact bodyPost_ret (v := .tuple #[dyV s a1 n1 c1 0, dyV (!(s == false)) a4 n4 c4 e]) (by simp [results, Tryz.results140, go_sem, ny0, ny1, ny2, nz0, nz1, nz2]) rfl ⟨a1, n1, c1, a4, n4, c4, rfl, HN1, hn1, hO1.set_dy (w.heap.size + 2) _ _ _ _ _ _ _ _ nz0 nz1 nz2, HN4, hn4, hP4.set_dy (w.heap.size + 2) _ _ _ _ _ _ _ _ nz0 nz1 nz2, by repeat (first | (with_reducible exact nbA) | (with_reducible refine Below.setCell ?_ (by simp; try omega) _))⟩
 ·
  simp only [Bool.toNat_true, if_true]
  go_enter Tryz.func140, Tryz.ntmps140
  go_wp2_with fail
  generalize (((w.alloc (.cells #[.bool s, .slice a n c, .int .i64 e] 27)).alloc (.cells #[.bool false, .slice none 0 0, .int .i64 0] 27)).alloc (.cells #[.bool false, .slice none 0 0, .int .i64 0] 27)) = w0 at *
  have lb := bA.size
  refine cM RC.out ?_
  rintro q w1 ⟨a1, n1, c1, rfl, HN1, hn1, hO1, b1⟩
  replace hO1 := hO1.low lb
  replace yf0 := kF b1 y0 yf0
  replace yf1 := kF b1 y1 yf1
  replace yf2 := kF b1 y2 yf2
  replace zf0 := kF b1 z0 zf0
  replace zf1 := kF b1 z1 zf1
  replace zf2 := kF b1 z2 zf2
  replace bA := nT bA b1
  revert x0 x1 x2 y0 y1 y2; refine cc6 b1 ?_; intro x0 x1 x2 y0 y1 y2
  revert z0 z1 z2; refine cc3 b1 ?_; intro z0 z1 z2
  replace lb := Nat.le_trans lb b1.size
  clear b1 RC
  go_upto_region 4 with fail
  have bw : Below w1.heap.size w1 w1.drew := (Below.refl _ _).drew
  refine wp_region_held (S := fun w' => Below w1.heap.size w1 w') (by kernel_rfl) ?_
  change wpAnyH _ _ _ _ _ _ _ _ (World.drew w1)
  generalize World.drew w1 = wd at bw ⊢
  refine tk 0 (.pointer (some ⟨w.heap.size, 1, none⟩)) rfl (by kernel_rfl) (fun _ _ _ h => h) (by rfl) ?y19 bw ?r19
  case y19 =>
   intro ww hS
   clear hS
   go_simp
   try with_reducible rfl
  try simp only [Act.put, sA]
  refine tk 1 (.slice a n c) rfl (by kernel_rfl) (fun _ _ _ h => h) (by rfl) ?y20 bw ?r20
  case y20 =>
   intro ww hS
   have q0 := kC hS x0
   have q1 := kC hS x1
   have q2 := kC hS x2
   clear hS
   go_simp
   try with_reducible rfl
  try simp only [Act.put]
  refine tk 2 (.slice a1 n1 c1) rfl (by kernel_rfl) (fun _ _ _ h => h) (by rfl) ?y21 bw ?r21
  case y21 =>
   intro ww hS
   clear hS
   go_simp
   try with_reducible rfl
  try simp only [Act.put]
  refine tk 3 (.pointer (some ⟨w.heap.size, 2, none⟩)) rfl (by kernel_rfl) (fun _ _ _ h => h) (by rfl) ?y22 bw ?r22
  case y22 =>
   intro ww hS
   clear hS
   go_simp
   try with_reducible rfl
  try simp only [Act.put]
  refine tk 4 (.int .i64 e) rfl (by kernel_rfl) (fun _ _ _ h => h) (by rfl) ?y23 bw ?r23
  case y23 =>
   intro ww hS
   have q0 := kC hS x0
   have q1 := kC hS x1
   have q2 := kC hS x2
   clear hS
   go_simp
   try with_reducible rfl
  try simp only [Act.put]
  refine tk 5 (.int .i64 (k : Int)) rfl (by kernel_rfl) (fun _ _ _ h => h) (by rfl) ?y24 bw ?r24
  case y24 =>
   intro ww hS
   clear hS
   go_simp
   try with_reducible rfl
  try simp only [Act.put]
  refine rd1 6 (by kernel_rfl) rfl fun K hK => ?_
  go_simp
  refine cM (SC.out _ _ _ _ (hO1.keep bw).1 hn1) ?_
  rintro q wn ⟨a3, n3, c3, rfl, HN3, hn3, hO3, bN⟩
  refine hK.out _ _ (nT bw bN) (fun _ => ?_)
  clear hK K
  replace bw := nT bw bN
  clear bN SC
  try simp only [Act.put, sA, sZ, sS]
  refine rd1 7 (by kernel_rfl) rfl fun K hK => ?_
  go_simp
  refine cM (LC.out _ (nT bA bw) _ _ _ hO3.1 hn3) ?_
  rintro q wm ⟨a4, n4, c4, rfl, HN4, hn4, hO4, bN⟩
  refine hK.out _ _ (nT bw bN) (fun _ => ?_)
  clear hK K
  have hP4 := hO4.low (Nat.le_trans lb bw.size)
  replace bw := nT bw bN
  clear bN LC hO3 HN3 hn3 hO4
  try simp only [Act.put, sA, sZ, sS]
  refine rd1 8 (by kernel_rfl) rfl fun K hK => ?_
  go_simp
  refine hK.out _ _ bw (fun _ => ?_)
  clear hK K
  try simp only [Act.put, sA, sZ, sS]
  refine wpAnyH_done (by kernel_rfl) ?_ _
  replace yf0 := kF bw y0 yf0
  replace yf1 := kF bw y1 yf1
  replace yf2 := kF bw y2 yf2
  replace zf0 := kF bw z0 zf0
  replace zf1 := kF bw z1 zf1
  replace zf2 := kF bw z2 zf2
  replace bA := nT bA bw
  revert x0 x1 x2 y0 y1 y2; refine cc6 bw ?_; intro x0 x1 x2 y0 y1 y2
  revert z0 z1 z2; refine cc3 bw ?_; intro z0 z1 z2
  replace lb := Nat.le_trans lb bw.size
  replace hO1 := hO1.keep bw
  clear bw
  go_upto_region 6 with fail
  have bw : Below wm.heap.size wm wm.drew := (Below.refl _ _).drew
  refine wp_region_held (S := fun w' => Below wm.heap.size wm w') (by kernel_rfl) ?_
  change wpAnyH _ _ _ _ _ _ _ _ (World.drew wm)
  generalize World.drew wm = wd at bw ⊢
  refine tk 0 (.slice a1 n1 c1) rfl (by kernel_rfl) (fun _ _ _ h => h) (by rfl) ?y25 bw ?r25
  case y25 =>
   intro ww hS
   clear hS
   go_simp
   try with_reducible rfl
  try simp only [Act.put, sA]
  refine tk 3 (.pointer (some ⟨w.heap.size, 2, none⟩)) rfl (by kernel_rfl) (fun _ _ _ h => h) (by rfl) ?y26 bw ?r26
  case y26 =>
   intro ww hS
   clear hS
   go_simp
   try with_reducible rfl
  try simp only [Act.put]
  refine tk 4 (.int .i64 e) rfl (by kernel_rfl) (fun _ _ _ h => h) (by rfl) ?y27 bw ?r27
  case y27 =>
   intro ww hS
   have q0 := kC hS x0
   have q1 := kC hS x1
   have q2 := kC hS x2
   clear hS
   go_simp
   try with_reducible rfl
  try simp only [Act.put]
  refine tk 5 (.int .i64 (k : Int)) rfl (by kernel_rfl) (fun _ _ _ h => h) (by rfl) ?y28 bw ?r28
  case y28 =>
   intro ww hS
   clear hS
   go_simp
   try with_reducible rfl
  try simp only [Act.put]
  refine tk 7 (.slice a4 n4 c4) rfl (by kernel_rfl) (fun _ _ _ h => h) (by rfl) ?y29 bw ?r29
  case y29 =>
   intro ww hS
   clear hS
   go_simp
   try with_reducible rfl
  try simp only [Act.put]
  refine rd1 1 (by kernel_rfl) rfl fun K hK => ?_
  go_simp
  refine cM (OC.out _) ?_
  rintro q v1 ⟨a5, n5, c5, rfl, HN5, hn5, hO5, bN⟩
  refine hK.out _ _ (nT bw bN) (fun _ => ?_)
  clear hK K
  replace bw := nT bw bN
  clear bN OC
  try simp only [Act.put, sA, sZ, sS]
  refine rd1 2 (by kernel_rfl) rfl fun K hK => ?_
  go_simp
  refine cM (PC.out _ _ _ _ (hO1.keep bw).1 hn1 _ _ _ hO5.1 hn5) ?_
  rintro q v2 ⟨a6, n6, c6, rfl, HN6, hn6, hO6, bN⟩
  refine hK.out _ _ (nT bw bN) (fun _ => ?_)
  clear hK K
  replace hO6 := hO6.low (Nat.le_trans lb bw.size)
  replace bw := nT bw bN
  clear bN PC HN5 hn5 hO5
  try simp only [Act.put, sA, sZ, sS]
  refine rd1 6 (by kernel_rfl) rfl fun K hK => ?_
  go_simp
  refine cM (TC.out _) ?_
  rintro q v3 ⟨a7, n7, c7, rfl, HN7, hn7, hO7, bN⟩
  refine hK.out _ _ (nT bw bN) (fun _ => ?_)
  clear hK K
  replace hO6 := hO6.keep bN
  replace bw := nT bw bN
  clear bN TC
  try simp only [Act.put, sA, sZ, sS]
  refine rd1 8 (by kernel_rfl) rfl fun K hK => ?_
  go_simp
  refine cM (MC.out _ _ _ _ hO7.1 hn7 _ _ _ (hP4.keep bw).1 hn4) ?_
  rintro q v4 ⟨a8, n8, c8, rfl, HN8, hn8, hO8, bN⟩
  refine hK.out _ _ (nT bw bN) (fun _ => ?_)
  clear hK K
  replace hO6 := hO6.keep bN
  replace hO8 := hO8.low (Nat.le_trans lb bw.size)
  replace bw := nT bw bN
  clear bN MC HN7 hn7 hO7
  try simp only [Act.put, sA, sZ, sS]
  refine rd1 9 (by kernel_rfl) rfl fun K hK => ?_
  go_simp
  refine hK.out _ _ bw (fun _ => ?_)
  clear hK K
  try simp only [Act.put, sA, sZ, sS]
  refine rd1 10 (by kernel_rfl) rfl fun K hK => ?_
  go_simp
  refine hK.out _ _ bw (fun _ => ?_)
  clear hK K
  try simp only [Act.put, sA, sZ, sS]
  refine wpAnyH_done (by kernel_rfl) ?_ _
  clear hO1 hP4 HN1 hn1 HN4 hn4
  replace yf0 := kF bw y0 yf0
  replace yf1 := kF bw y1 yf1
  replace yf2 := kF bw y2 yf2
  replace zf0 := kF bw z0 zf0
  replace zf1 := kF bw z1 zf1
  replace zf2 := kF bw z2 zf2
  replace bA := nT bA bw
  revert x0 x1 x2 y0 y1 y2; refine cc6 bw ?_; intro x0 x1 x2 y0 y1 y2
  revert z0 z1 z2; refine cc3 bw ?_; intro z0 z1 z2
  replace lb := Nat.le_trans lb bw.size
  clear bw
  go_upto_region 7 with fail
  have bs : v4.drew.cell? ⟨w.heap.size, 0, none⟩ = some (.bool s) ∧ v4.drew.cell? ⟨w.heap.size, 2, none⟩ = some (.int .i64 e) := ⟨x0, x2⟩
  refine wp_region_held (S := fun w' => w'.cell? ⟨w.heap.size, 0, none⟩ = some (.bool s) ∧ w'.cell? ⟨w.heap.size, 2, none⟩ = some (.int .i64 e)) (by kernel_rfl) ?_
  change wpAnyH _ _ _ _ _ _ _ _ (World.drew v4)
  have bD0 : Below v4.heap.size v4 v4.drew := (Below.refl _ _).drew
  replace yf0 := kF bD0 y0 yf0
  replace yf1 := kF bD0 y1 yf1
  replace yf2 := kF bD0 y2 yf2
  replace zf0 := kF bD0 z0 zf0
  replace zf1 := kF bD0 z1 zf1
  replace zf2 := kF bD0 z2 zf2
  replace bA := nT bA bD0
  revert y0 y1 y2 z0 z1 z2; refine cc6 bD0 ?_; intro y0 y1 y2 z0 z1 z2
  replace lb := Nat.le_trans lb bD0.size
  replace hO6 := hO6.keep bD0
  replace hO8 := hO8.keep bD0
  clear bD0 x0 x1 x2
  generalize World.drew v4 = wd at *
  refine tk 0 (.pointer (some ⟨w.heap.size, 0, none⟩)) rfl (by kernel_rfl) (fun _ _ _ h => h) (by rfl) ?y30 bs ?r30
  case y30 =>
   intro ww hS
   obtain ⟨q0, q2⟩ := hS
   go_simp
   try with_reducible rfl
  try simp only [Act.put, sA]
  refine tk 1 (.bool s) rfl (by kernel_rfl) (fun _ _ _ h => h) (by rfl) ?y31 bs ?r31
  case y31 =>
   intro ww hS
   obtain ⟨q0, q2⟩ := hS
   go_simp
   try with_reducible rfl
  try simp only [Act.put]
  refine tk 2 (.slice a6 n6 c6) rfl (by kernel_rfl) (fun _ _ _ h => h) (by rfl) ?y32 bs ?r32
  case y32 =>
   intro ww hS
   obtain ⟨q0, q2⟩ := hS
   go_simp
   try with_reducible rfl
  try simp only [Act.put]
  refine tk 3 (dyV s a6 n6 c6 0) rfl (by kernel_rfl) (fun _ _ _ h => h) (by rfl) ?y33 bs ?r33
  case y33 =>
   intro ww hS
   obtain ⟨q0, q2⟩ := hS
   go_simp
   try with_reducible rfl
  try simp only [Act.put]
  refine tk 4 (.pointer (some ⟨w.heap.size, 0, none⟩)) rfl (by kernel_rfl) (fun _ _ _ h => h) (by rfl) ?y34 bs ?r34
  case y34 =>
   intro ww hS
   obtain ⟨q0, q2⟩ := hS
   go_simp
   try with_reducible rfl
  try simp only [Act.put]
  refine tk 5 (.bool s) rfl (by kernel_rfl) (fun _ _ _ h => h) (by rfl) ?y35 bs ?r35
  case y35 =>
   intro ww hS
   obtain ⟨q0, q2⟩ := hS
   go_simp
   try with_reducible rfl
  try simp only [Act.put]
  refine tk 6 (.bool true) rfl (by kernel_rfl) (fun _ _ _ h => h) (by rfl) ?y36 bs ?r36
  case y36 =>
   intro ww hS
   obtain ⟨q0, q2⟩ := hS
   go_simp
   try with_reducible rfl
  try simp only [Act.put]
  refine tk 7 (.bool (!(s == true))) rfl (by kernel_rfl) (fun _ _ _ h => h) (by rfl) ?y37 bs ?r37
  case y37 =>
   intro ww hS
   obtain ⟨q0, q2⟩ := hS
   go_simp
   try with_reducible rfl
  try simp only [Act.put]
  refine tk 8 (.slice a8 n8 c8) rfl (by kernel_rfl) (fun _ _ _ h => h) (by rfl) ?y38 bs ?r38
  case y38 =>
   intro ww hS
   obtain ⟨q0, q2⟩ := hS
   go_simp
   try with_reducible rfl
  try simp only [Act.put]
  refine tk 9 (.pointer (some ⟨w.heap.size, 2, none⟩)) rfl (by kernel_rfl) (fun _ _ _ h => h) (by rfl) ?y39 bs ?r39
  case y39 =>
   intro ww hS
   obtain ⟨q0, q2⟩ := hS
   go_simp
   try with_reducible rfl
  try simp only [Act.put]
  refine tk 10 (.int .i64 e) rfl (by kernel_rfl) (fun _ _ _ h => h) (by rfl) ?y40 bs ?r40
  case y40 =>
   intro ww hS
   obtain ⟨q0, q2⟩ := hS
   go_simp
   try with_reducible rfl
  try simp only [Act.put]
  refine tk 11 (dyV (!(s == true)) a8 n8 c8 e) rfl (by kernel_rfl) (fun _ _ _ h => h) (by rfl) ?y41 bs ?r41
  case y41 =>
   intro ww hS
   obtain ⟨q0, q2⟩ := hS
   go_simp
   try with_reducible rfl
  try simp only [Act.put]
  refine rd1 12 (by kernel_rfl) rfl fun K hK => ?_
  go_simp
  have bs1 := And.intro (set3_cell (v0 := .bool s) (v1 := .slice a6 n6 c6) (v2 := .int .i64 0) bs.1 (r := w.heap.size + 1) (by omega)) (set3_cell (v0 := .bool s) (v1 := .slice a6 n6 c6) (v2 := .int .i64 0) bs.2 (r := w.heap.size + 1) (by omega))
  refine hK.out _ _ bs1 (fun _ => ?_)
  clear hK K
  try simp only [Act.put, sA, sZ, sS]
  have nz0 := set3_cell (v0 := .bool s) (v1 := .slice a6 n6 c6) (v2 := .int .i64 0) z0 (r := w.heap.size + 1) (by omega)
  have nz1 := set3_cell (v0 := .bool s) (v1 := .slice a6 n6 c6) (v2 := .int .i64 0) z1 (r := w.heap.size + 1) (by omega)
  have nz2 := set3_cell (v0 := .bool s) (v1 := .slice a6 n6 c6) (v2 := .int .i64 0) z2 (r := w.heap.size + 1) (by omega)
  have nf0 := set3_frozen (r := w.heap.size + 1) (v0 := .bool s) (v1 := .slice a6 n6 c6) (v2 := .int .i64 0) zf0
  have nf1 := set3_frozen (r := w.heap.size + 1) (v0 := .bool s) (v1 := .slice a6 n6 c6) (v2 := .int .i64 0) zf1
  have nf2 := set3_frozen (r := w.heap.size + 1) (v0 := .bool s) (v1 := .slice a6 n6 c6) (v2 := .int .i64 0) zf2
  obtain ⟨ny0, ny1, ny2⟩ := set3_same (r := w.heap.size + 1) (v0 := .bool s) (v1 := .slice a6 n6 c6) (v2 := .int .i64 0) y0 y1 y2
  replace hO6 := hO6.set_dy (w.heap.size + 1) _ _ _ _ _ (.bool s) (.slice a6 n6 c6) (.int .i64 0) y0 y1 y2
  replace hO8 := hO8.set_dy (w.heap.size + 1) _ _ _ _ _ (.bool s) (.slice a6 n6 c6) (.int .i64 0) y0 y1 y2
  have nbA := ((bA.setCell (p := ⟨w.heap.size + 1, 0, none⟩) (by simp) (.bool s)).setCell (p := ⟨w.heap.size + 1, 1, none⟩) (by simp) (.slice a6 n6 c6)).setCell (p := ⟨w.heap.size + 1, 2, none⟩) (by simp) (.int .i64 0)
  clear y0 y1 y2 z0 z1 z2 zf0 zf1 zf2 yf0 yf1 yf2 bs bA lb
  generalize (((wd.setCell ⟨w.heap.size + 1, 0, none⟩ (.bool s)).setCell ⟨w.heap.size + 1, 1, none⟩ (.slice a6 n6 c6)).setCell ⟨w.heap.size + 1, 2, none⟩ (.int .i64 0)) = we at *
  refine rd1 13 (by kernel_rfl) rfl fun K hK => ?_
  go_simp
  have bs2 := And.intro (set3_cell (v0 := .bool (!(s == true))) (v1 := .slice a8 n8 c8) (v2 := .int .i64 e) bs1.1 (r := w.heap.size + 2) (by omega)) (set3_cell (v0 := .bool (!(s == true))) (v1 := .slice a8 n8 c8) (v2 := .int .i64 e) bs1.2 (r := w.heap.size + 2) (by omega))
  refine hK.out _ _ (by simpa using bs2) (fun _ => ?_)
  clear hK K
  try simp only [Act.put, sA, sZ, sS]
  refine wpAnyH_done (by kernel_rfl) ?_ _
  go_wp2_with fail
  exact bodyPost_ret (v := .tuple #[dyV s a6 n6 c6 0, dyV (!(s == true)) a8 n8 c8 e]) (by simp [results, Tryz.results140, go_sem, ny0, ny1, ny2, nz0, nz1, nz2]) rfl ⟨a6, n6, c6, a8, n8, c8, rfl, HN6, hn6, hO6.set_dy (w.heap.size + 2) _ _ _ _ _ _ _ _ nz0 nz1 nz2, HN8, hn8, hO8.set_dy (w.heap.size + 2) _ _ _ _ _ _ _ _ nz0 nz1 nz2, by repeat (first | (with_reducible exact nbA) | (with_reducible refine Below.setCell ?_ (by simp; try omega) _))⟩
end Go.Proofs.YtiijfnaaekmpbaaGreatDoor

/- The document's exact cases: logarithms. -/
import Derived.Test.YtiijfnaaekmpbaaGreatDoorALX
import Derived.Test.YtiijfnaaekmpbaaGreatDoorED4
import Derived.Deep.CutRange
import Derived.Deep.RegionHeld3
import Derived.Test.YtiijfnaaekmpbaaGreatDoorFX
namespace Go.Proofs.YtiijfnaaekmpbaaGreatDoor
open Go.RowKit
set_option maxHeartbeats 4000000
set_option maxRecDepth 100000
theorem dLog8_calls (p : E3) (a : Option Addr) (n c : Nat) (w : World) (h : IsW w a n c (wO p.2.1)) (hn : n ≤ 1024) (hp : OkE p) (hq : OkE (lgX 8 p)) :
  Calls Tryz.prog 53 #[.int .u8 8, dyV p.1 a n c p.2.2] w fun r w' => ∃ v, r = .returned (.tuple #[v, .bool (lgD 8 p).2]) ∧ DyQ w.heap.size w' v (lgD 8 p).1 ∧ Below w.heap.size w w' := by
 have bA : Below w.heap.size w ((w.alloc (.cells #[.bool p.1, .slice a n c, .int .i64 p.2.2] 27)).alloc (.cells #[.bool false, .slice none 0 0, .int .i64 0] 27)) := nT (below_one _ _) (below_one _ _)
 have Z := zrB w p.1 a n c p.2.2
 obtain ⟨x0, x1, x2, g0, g1, g2⟩ := fX21 w p a n c _ rfl
 have hb := okE_bd hp
 have hI := h.keep bA
 have lb := bA.size
 rw [show lgX 8 p = p from rfl] at hq
 rw [show lgD 8 p = (if (p).1 = false ∧ (p).2.1 = 1 then (intD (p).2.2, true) else no3) from rfl]
 obtain ⟨q, rfl⟩ : ∃ q, q = p := ⟨_, rfl⟩
 have bq := okE_bd hq
 have OC : Hid _ := fun (W : World) (a : Option Addr) (n c : Nat) (h : IsW W a n c (wO q.2.1)) (hn : n ≤ 1024) => qOne_calls q.1 a n c (wO q.2.1) q.2.2 W h (by omega) (by omega)
 simp only [val_words, hq.form] at OC
 have LQ : Hid _ := okE_len hq
 have PC : Hid _ := fun W => dPower_calls q.2.2 W
 have HW1 : Hid ((wO 1).length ≤ 1) := by rw [Hid]; decide +kernel
 have SC : Hid _ := fun (W : World) (a : Option Addr) (n c : Nat) (h : IsW W a n c (wO q.2.1)) (hn : n ≤ 1024) (b : Option Addr) (m d : Nat) (k : IsW W b m d (wO 1)) (km : m ≤ 1024) => qSame_calls q.1 a n c (wO q.2.1) q.2.2 false b m d (wO 1) q.2.2 W h (by omega) k (by omega)
 have IQ : Hid _ := fun W => qint_calls q.2.2 (by omega) W
 have oI : OkE (intD q.2.2) := int_ok q.2.2 (by omega)
 have TQ : Hid _ := fun (W : World) (a : Option Addr) (n c : Nat) (h : IsW W a n c (wO (intD q.2.2).2.1)) (hn : n ≤ 1024) => dToldE (intD q.2.2) a n c W h hn oI
 have LI : Hid _ := okE_len oI
 generalize intD q.2.2 = I at *
 by_cases hB : q.1 = false ∧ q.2.1 = 1
 ·rw [if_pos hB]
  have eS : sameB q.1 q.2.2 (wO q.2.1) false q.2.2 (wO 1) = true := decide_eq_true ⟨hB.1, rfl, by rw [hB.2]⟩
  rw [eS] at SC
  clear hB eS h hp hq hb bq oI
  go_enter Tryz.func53, Tryz.ntmps53
  go_wp2_with fail
  generalize ((w.alloc (.cells #[.bool q.1, .slice a n c, .int .i64 q.2.2] 27)).alloc (.cells #[.bool false, .slice none 0 0, .int .i64 0] 27)) = w0 at *
  refine cM (OC.out _ _ _ _ hI hn) ?_
  have lb5 := bA.size
  rintro r w5 ⟨_, rfl, ⟨a5, n5, c5, rfl, HN5, hO5⟩, b5⟩
  replace hO5 := hO5.low lb5
  replace g0 := kF b5 x0 g0; replace g1 := kF b5 x1 g1; replace g2 := kF b5 x2 g2
  obtain ⟨bA, Z, x0, x1, x2⟩ := jkAZC3 b5 bA Z x0 x1 x2
  have hn5 : n5 ≤ 1024 := by have := HN5.out; have := LQ.out; omega
  clear b5 lb5 HN5 OC hI
  obtain ⟨t0, t1, t2⟩ := set3_same (v0 := .bool q.1) (v1 := .slice a5 n5 c5) (v2 := .int .i64 q.2.2) x0 x1 x2
  replace hO5 := hO5.set_dy w.heap.size _ _ _ _ _ (.bool q.1) (.slice a5 n5 c5) (.int .i64 q.2.2) x0 x1 x2
  replace Z := Z.set3 (q := w.heap.size) (v0 := .bool q.1) (v1 := .slice a5 n5 c5) (v2 := .int .i64 q.2.2) (by omega)
  have h0 : (((w5.setCell ⟨w.heap.size, 0, none⟩ (.bool q.1)).setCell ⟨w.heap.size, 1, none⟩ (.slice a5 n5 c5)).setCell ⟨w.heap.size, 2, none⟩ (.int .i64 q.2.2)).frozen? ⟨w.heap.size, 0, none⟩ = false := set3_frozen g0
  have h1 : (((w5.setCell ⟨w.heap.size, 0, none⟩ (.bool q.1)).setCell ⟨w.heap.size, 1, none⟩ (.slice a5 n5 c5)).setCell ⟨w.heap.size, 2, none⟩ (.int .i64 q.2.2)).frozen? ⟨w.heap.size, 1, none⟩ = false := set3_frozen g1
  have h2 : (((w5.setCell ⟨w.heap.size, 0, none⟩ (.bool q.1)).setCell ⟨w.heap.size, 1, none⟩ (.slice a5 n5 c5)).setCell ⟨w.heap.size, 2, none⟩ (.int .i64 q.2.2)).frozen? ⟨w.heap.size, 2, none⟩ = false := set3_frozen g2
  replace bA : Below w.heap.size w (((w5.setCell ⟨w.heap.size, 0, none⟩ (.bool q.1)).setCell ⟨w.heap.size, 1, none⟩ (.slice a5 n5 c5)).setCell ⟨w.heap.size, 2, none⟩ (.int .i64 q.2.2)) := bl3 bA (by omega)
  go_upto_region 7 with fail
  generalize (((w5.setCell ⟨w.heap.size, 0, none⟩ (.bool q.1)).setCell ⟨w.heap.size, 1, none⟩ (.slice a5 n5 c5)).setCell ⟨w.heap.size, 2, none⟩ (.int .i64 q.2.2)) = v5 at *
  clear x0 x1 x2 g0 g1 g2
  have bw : Below v5.heap.size v5 v5.drew := (Below.refl _ _).drew
  refine wp_region_held (S := fun w' => Below v5.heap.size v5 w') (by kernel_rfl) ?_
  change wpAnyH _ _ _ _ _ _ _ _ (World.drew v5)
  generalize World.drew v5 = wd at bw ⊢
  refine tk 0 (dyV q.1 a5 n5 c5 q.2.2) rfl (by kernel_rfl) (fun _ _ _ h => h) (by rfl) ?_ bw ?_
  ·intro ww hS
   have q0 := kC hS t0
   have q1 := kC hS t1
   have q2 := kC hS t2
   clear hS
   go_simp
   try first | (with_reducible rfl) | rfl
  try simp only [Act.put, sA]
  refine tk 1 (.pointer (some ⟨w.heap.size, 2, none⟩)) rfl (by kernel_rfl) (fun _ _ _ h => h) (by rfl) ?_ bw ?_
  ·intro ww hS
   clear hS
   go_simp
   try first | (with_reducible rfl) | rfl
  try simp only [Act.put]
  refine tk 2 (.int .i64 q.2.2) rfl (by kernel_rfl) (fun _ _ _ h => h) (by rfl) ?_ bw ?_
  ·intro ww hS
   have q0 := kC hS t0
   have q1 := kC hS t1
   have q2 := kC hS t2
   clear hS
   go_simp
   try first | (with_reducible rfl) | rfl
  try simp only [Act.put]
  refine rd1 3 (by kernel_rfl) rfl fun K hK => ?_
  go_simp
  refine cM (PC.out _) ?_
  rintro r wn ⟨_, rfl, ⟨a6, n6, c6, rfl, HN6, hO6⟩, bN⟩
  refine hK.out _ _ (nT bw bN) (fun _ => ?_)
  clear hK K
  replace bw := nT bw bN
  clear bN
  try simp only
  have hn6 : n6 ≤ 1024 := by have e2 : n6 = (wO 1).length := HN6.out; have := HW1.out; omega
  refine rd1 4 (by kernel_rfl) rfl fun K hK => ?_
  go_simp
  refine cM (SC.out _ _ _ _ (hO5.keep bw).1 hn5 _ _ _ hO6.1 hn6) ?_
  rintro r wm ⟨rfl, bN⟩
  refine hK.out _ _ (nT bw bN) (fun _ => ?_)
  clear hK K
  replace bw := nT bw bN
  clear bN
  try simp only [Act.put, sA, sZ, sS]
  refine wpAnyH_done (by kernel_rfl) ?_ _
  obtain ⟨bA, Z, t0, t1, t2⟩ := jkAZC3 bw bA Z t0 t1 t2
  clear bw hO5 hO6 HN6
  go_wp2_with fail
  refine cM (IQ.out _) ?_
  have lb7 := bA.size
  rintro r w7 ⟨_, rfl, ⟨a7, n7, c7, rfl, HN7, hO7⟩, b7⟩
  replace hO7 := hO7.low lb7
  obtain ⟨bA, Z, t0, t1, t2⟩ := jkAZC3 b7 bA Z t0 t1 t2
  clear b7 lb7
  go_wp2_with fail
  have hn7 : n7 ≤ 1024 := by have := HN7.out; have := LI.out; omega
  refine cM (TQ.out _ _ _ _ hO7.1 hn7) ?_
  have lb8 := bA.size
  rintro r w8 ⟨_, rfl, ⟨a8, n8, c8, rfl, HN8, hO8⟩, b8⟩
  replace hO8 := hO8.low lb8
  obtain ⟨bA, Z, t0, t1, t2⟩ := jkAZC3 b8 bA Z t0 t1 t2
  clear b8 lb8
  obtain ⟨z0, z1, z2, f0, f1, f2⟩ := Z
  go_wp2_with fail
  exact bodyPost_ret (v := .tuple #[dyV I.1 a8 n8 c8 I.2.2, .bool true]) (by simp [results, Tryz.results53, go_sem, z0, z1, z2]) rfl ⟨_, rfl, dyE HN8 hO8 z0 z1 z2, bl3 bA (by omega)⟩
 ·rw [if_neg hB]
  have eS : sameB q.1 q.2.2 (wO q.2.1) false q.2.2 (wO 1) = false := decide_eq_false fun k => hB ⟨k.1, by have := congrArg val k.2.2; rwa [val_words, val_words] at this⟩
  rw [eS] at SC
  unfold no3
  clear hB eS h hp hq hb bq oI IQ TQ LI
  go_enter Tryz.func53, Tryz.ntmps53
  go_wp2_with fail
  generalize ((w.alloc (.cells #[.bool q.1, .slice a n c, .int .i64 q.2.2] 27)).alloc (.cells #[.bool false, .slice none 0 0, .int .i64 0] 27)) = w0 at *
  refine cM (OC.out _ _ _ _ hI hn) ?_
  have lb5 := bA.size
  rintro r w5 ⟨_, rfl, ⟨a5, n5, c5, rfl, HN5, hO5⟩, b5⟩
  replace hO5 := hO5.low lb5
  replace g0 := kF b5 x0 g0; replace g1 := kF b5 x1 g1; replace g2 := kF b5 x2 g2
  obtain ⟨bA, Z, x0, x1, x2⟩ := jkAZC3 b5 bA Z x0 x1 x2
  have hn5 : n5 ≤ 1024 := by have := HN5.out; have := LQ.out; omega
  clear b5 lb5 HN5 OC hI
  obtain ⟨t0, t1, t2⟩ := set3_same (v0 := .bool q.1) (v1 := .slice a5 n5 c5) (v2 := .int .i64 q.2.2) x0 x1 x2
  replace hO5 := hO5.set_dy w.heap.size _ _ _ _ _ (.bool q.1) (.slice a5 n5 c5) (.int .i64 q.2.2) x0 x1 x2
  replace Z := Z.set3 (q := w.heap.size) (v0 := .bool q.1) (v1 := .slice a5 n5 c5) (v2 := .int .i64 q.2.2) (by omega)
  have h0 : (((w5.setCell ⟨w.heap.size, 0, none⟩ (.bool q.1)).setCell ⟨w.heap.size, 1, none⟩ (.slice a5 n5 c5)).setCell ⟨w.heap.size, 2, none⟩ (.int .i64 q.2.2)).frozen? ⟨w.heap.size, 0, none⟩ = false := set3_frozen g0
  have h1 : (((w5.setCell ⟨w.heap.size, 0, none⟩ (.bool q.1)).setCell ⟨w.heap.size, 1, none⟩ (.slice a5 n5 c5)).setCell ⟨w.heap.size, 2, none⟩ (.int .i64 q.2.2)).frozen? ⟨w.heap.size, 1, none⟩ = false := set3_frozen g1
  have h2 : (((w5.setCell ⟨w.heap.size, 0, none⟩ (.bool q.1)).setCell ⟨w.heap.size, 1, none⟩ (.slice a5 n5 c5)).setCell ⟨w.heap.size, 2, none⟩ (.int .i64 q.2.2)).frozen? ⟨w.heap.size, 2, none⟩ = false := set3_frozen g2
  replace bA : Below w.heap.size w (((w5.setCell ⟨w.heap.size, 0, none⟩ (.bool q.1)).setCell ⟨w.heap.size, 1, none⟩ (.slice a5 n5 c5)).setCell ⟨w.heap.size, 2, none⟩ (.int .i64 q.2.2)) := bl3 bA (by omega)
  go_upto_region 7 with fail
  generalize (((w5.setCell ⟨w.heap.size, 0, none⟩ (.bool q.1)).setCell ⟨w.heap.size, 1, none⟩ (.slice a5 n5 c5)).setCell ⟨w.heap.size, 2, none⟩ (.int .i64 q.2.2)) = v5 at *
  clear x0 x1 x2 g0 g1 g2
  have bw : Below v5.heap.size v5 v5.drew := (Below.refl _ _).drew
  refine wp_region_held (S := fun w' => Below v5.heap.size v5 w') (by kernel_rfl) ?_
  change wpAnyH _ _ _ _ _ _ _ _ (World.drew v5)
  generalize World.drew v5 = wd at bw ⊢
  refine tk 0 (dyV q.1 a5 n5 c5 q.2.2) rfl (by kernel_rfl) (fun _ _ _ h => h) (by rfl) ?_ bw ?_
  ·intro ww hS
   have q0 := kC hS t0
   have q1 := kC hS t1
   have q2 := kC hS t2
   clear hS
   go_simp
   try first | (with_reducible rfl) | rfl
  try simp only [Act.put, sA]
  refine tk 1 (.pointer (some ⟨w.heap.size, 2, none⟩)) rfl (by kernel_rfl) (fun _ _ _ h => h) (by rfl) ?_ bw ?_
  ·intro ww hS
   clear hS
   go_simp
   try first | (with_reducible rfl) | rfl
  try simp only [Act.put]
  refine tk 2 (.int .i64 q.2.2) rfl (by kernel_rfl) (fun _ _ _ h => h) (by rfl) ?_ bw ?_
  ·intro ww hS
   have q0 := kC hS t0
   have q1 := kC hS t1
   have q2 := kC hS t2
   clear hS
   go_simp
   try first | (with_reducible rfl) | rfl
  try simp only [Act.put]
  refine rd1 3 (by kernel_rfl) rfl fun K hK => ?_
  go_simp
  refine cM (PC.out _) ?_
  rintro r wn ⟨_, rfl, ⟨a6, n6, c6, rfl, HN6, hO6⟩, bN⟩
  refine hK.out _ _ (nT bw bN) (fun _ => ?_)
  clear hK K
  replace bw := nT bw bN
  clear bN
  try simp only
  have hn6 : n6 ≤ 1024 := by have e2 : n6 = (wO 1).length := HN6.out; have := HW1.out; omega
  refine rd1 4 (by kernel_rfl) rfl fun K hK => ?_
  go_simp
  refine cM (SC.out _ _ _ _ (hO5.keep bw).1 hn5 _ _ _ hO6.1 hn6) ?_
  rintro r wm ⟨rfl, bN⟩
  refine hK.out _ _ (nT bw bN) (fun _ => ?_)
  clear hK K
  replace bw := nT bw bN
  clear bN
  try simp only [Act.put, sA, sZ, sS]
  refine wpAnyH_done (by kernel_rfl) ?_ _
  obtain ⟨bA, Z, t0, t1, t2⟩ := jkAZC3 bw bA Z t0 t1 t2
  clear bw hO5 hO6 HN6
  obtain ⟨z0, z1, z2, f0, f1, f2⟩ := Z
  go_wp2_with fail
  exact bodyPost_ret (v := .tuple #[dyV false none 0 0 0, .bool false]) (by simp [results, Tryz.results53, go_sem, z0, z1, z2]) rfl ⟨_, rfl, dyQ_zero _ _, by first | exact bA | exact bl3 bA (by omega)⟩
theorem dLog11_calls (p : E3) (a : Option Addr) (n c : Nat) (w : World) (h : IsW w a n c (wO p.2.1)) (hn : n ≤ 1024) (hp : OkE p) (hq : OkE (lgX 11 p)) :
  Calls Tryz.prog 53 #[.int .u8 11, dyV p.1 a n c p.2.2] w fun r w' => ∃ v, r = .returned (.tuple #[v, .bool (lgD 11 p).2]) ∧ DyQ w.heap.size w' v (lgD 11 p).1 ∧ Below w.heap.size w w' := by
 have bA : Below w.heap.size w ((w.alloc (.cells #[.bool p.1, .slice a n c, .int .i64 p.2.2] 27)).alloc (.cells #[.bool false, .slice none 0 0, .int .i64 0] 27)) := nT (below_one _ _) (below_one _ _)
 have Z := zrB w p.1 a n c p.2.2
 obtain ⟨x0, x1, x2, g0, g1, g2⟩ := fX21 w p a n c _ rfl
 have hb := okE_bd hp
 have hI := h.keep bA
 have lb := bA.size
 have HI : Hid _ := fun W => qint_calls 1 ⟨by decide, by decide⟩ W
 have e1 : intD 1 = (false, 1, 0) := form_odd _ rfl _
 have HL : Hid _ := fun (W : World) (g : IsW W a n c (wO p.2.1)) (b : Option Addr) (m d : Nat) (k : IsW W b m d (wO 1)) (km : m ≤ 1) => qPlus_calls p.1 a n c (wO p.2.1) p.2.2 false b m d (wO 1) 0 W g (by omega) k (by omega) (by omega) (by omega) (by rw [val_words]; omega) (by rw [val_words]; decide +kernel)
 simp only [val_words, hp.form, show formD false 1 0 = intD 1 from rfl] at HL
 have HW : Hid ((wO 1).length ≤ 1) := by rw [Hid]; decide +kernel
 rw [e1] at HI
 clear e1
 rw [show lgX 11 p = sumD p (intD 1) from rfl] at hq
 rw [show lgD 11 p = (if (sumD p (intD 1)).1 = false ∧ (sumD p (intD 1)).2.1 = 1 then (intD (sumD p (intD 1)).2.2, true) else no3) from rfl]
 generalize sumD p (intD 1) = q at *
 have bq := okE_bd hq
 have OC : Hid _ := fun (W : World) (a : Option Addr) (n c : Nat) (h : IsW W a n c (wO q.2.1)) (hn : n ≤ 1024) => qOne_calls q.1 a n c (wO q.2.1) q.2.2 W h (by omega) (by omega)
 simp only [val_words, hq.form] at OC
 have LQ : Hid _ := okE_len hq
 have PC : Hid _ := fun W => dPower_calls q.2.2 W
 have HW1 : Hid ((wO 1).length ≤ 1) := by rw [Hid]; decide +kernel
 have SC : Hid _ := fun (W : World) (a : Option Addr) (n c : Nat) (h : IsW W a n c (wO q.2.1)) (hn : n ≤ 1024) (b : Option Addr) (m d : Nat) (k : IsW W b m d (wO 1)) (km : m ≤ 1024) => qSame_calls q.1 a n c (wO q.2.1) q.2.2 false b m d (wO 1) q.2.2 W h (by omega) k (by omega)
 have IQ : Hid _ := fun W => qint_calls q.2.2 (by omega) W
 have oI : OkE (intD q.2.2) := int_ok q.2.2 (by omega)
 have TQ : Hid _ := fun (W : World) (a : Option Addr) (n c : Nat) (h : IsW W a n c (wO (intD q.2.2).2.1)) (hn : n ≤ 1024) => dToldE (intD q.2.2) a n c W h hn oI
 have LI : Hid _ := okE_len oI
 generalize intD q.2.2 = I at *
 by_cases hB : q.1 = false ∧ q.2.1 = 1
 ·rw [if_pos hB]
  have eS : sameB q.1 q.2.2 (wO q.2.1) false q.2.2 (wO 1) = true := decide_eq_true ⟨hB.1, rfl, by rw [hB.2]⟩
  rw [eS] at SC
  clear hB eS h hp hq hb bq oI hn
  go_enter Tryz.func53, Tryz.ntmps53
  go_wp2_with fail
  generalize ((w.alloc (.cells #[.bool p.1, .slice a n c, .int .i64 p.2.2] 27)).alloc (.cells #[.bool false, .slice none 0 0, .int .i64 0] 27)) = w0 at *
  go_region_with (first
   | (go_at_call 22; refine (HI.out _).mono ?_; rintro r w1 ⟨_, rfl, ⟨ai, ni, ci, rfl, HNi, hOi⟩, b1⟩; have b2 : Below w0.heap.size w0 w1 := nT (by repeat (first | exact Below.refl _ _ | apply Below.drew)) b1; have y0 := kC b2 x0; have y1 := kC b2 x1; have y2 := kC b2 x2; have k0 := kF b2 x0 g0; have k1 := kF b2 x1 g1; have k2 := kF b2 x2 g2)
   | (go_at_call 91; refine (HL.out _ ((hI.keep b2).keep (by repeat (first | exact Below.refl _ _ | apply Below.drew))) ai ni ci (hOi.1.keep (by repeat (first | exact Below.refl _ _ | apply Below.drew))) (by have e2 : ni = (wO 1).length := HNi.out; have := HW.out; omega)).mono ?_; rintro r w3 ⟨_, rfl, ⟨a3, n3, c3, rfl, HN3, hO3⟩, b3⟩; have bB := nT (show Below w1.heap.size w1 _ from by repeat (first | exact Below.refl _ _ | apply Below.drew)) b3; have b4 := nT b2 bB; replace k0 := kF bB y0 k0; replace k1 := kF bB y1 k1; replace k2 := kF bB y2 k2; replace y0 := kC bB y0; replace y1 := kC bB y1; replace y2 := kC bB y2; replace hO3 := hO3.low (Nat.le_trans lb b2.size); clear b3 bB))
  all_goals
   clear x0 x1 x2 g0 g1 g2 b1 HNi hOi hI HI HL HW
   obtain ⟨bA, Z⟩ := jkAZ b4 bA Z
   have hn3 : n3 ≤ 1024 := by have := HN3.out; have := LQ.out; omega
   clear b2 b4 HN3
   obtain ⟨m0, m1, m2⟩ := set3_same (v0 := .bool q.1) (v1 := .slice a3 n3 c3) (v2 := .int .i64 q.2.2) y0 y1 y2
   replace hO3 := hO3.set_dy w.heap.size _ _ _ _ _ (.bool q.1) (.slice a3 n3 c3) (.int .i64 q.2.2) y0 y1 y2
   replace Z := Z.set3 (q := w.heap.size) (v0 := .bool q.1) (v1 := .slice a3 n3 c3) (v2 := .int .i64 q.2.2) (by omega)
   have l0 : (((w3.setCell ⟨w.heap.size, 0, none⟩ (.bool q.1)).setCell ⟨w.heap.size, 1, none⟩ (.slice a3 n3 c3)).setCell ⟨w.heap.size, 2, none⟩ (.int .i64 q.2.2)).frozen? ⟨w.heap.size, 0, none⟩ = false := set3_frozen k0
   have l1 : (((w3.setCell ⟨w.heap.size, 0, none⟩ (.bool q.1)).setCell ⟨w.heap.size, 1, none⟩ (.slice a3 n3 c3)).setCell ⟨w.heap.size, 2, none⟩ (.int .i64 q.2.2)).frozen? ⟨w.heap.size, 1, none⟩ = false := set3_frozen k1
   have l2 : (((w3.setCell ⟨w.heap.size, 0, none⟩ (.bool q.1)).setCell ⟨w.heap.size, 1, none⟩ (.slice a3 n3 c3)).setCell ⟨w.heap.size, 2, none⟩ (.int .i64 q.2.2)).frozen? ⟨w.heap.size, 2, none⟩ = false := set3_frozen k2
   replace bA : Below w.heap.size w (((w3.setCell ⟨w.heap.size, 0, none⟩ (.bool q.1)).setCell ⟨w.heap.size, 1, none⟩ (.slice a3 n3 c3)).setCell ⟨w.heap.size, 2, none⟩ (.int .i64 q.2.2)) := bl3 bA (by omega)
   go_upto_region 4 with fail
   generalize (((w3.setCell ⟨w.heap.size, 0, none⟩ (.bool q.1)).setCell ⟨w.heap.size, 1, none⟩ (.slice a3 n3 c3)).setCell ⟨w.heap.size, 2, none⟩ (.int .i64 q.2.2)) = v3 at *
   clear y0 y1 y2 k0 k1 k2
   go_wp2_with fail
   refine cM (OC.out _ _ _ _ hO3.1 hn3) ?_
   have lb5 := bA.size
   rintro r w5 ⟨_, rfl, ⟨a5, n5, c5, rfl, HN5, hO5⟩, b5⟩
   replace hO5 := hO5.low lb5
   replace l0 := kF b5 m0 l0; replace l1 := kF b5 m1 l1; replace l2 := kF b5 m2 l2
   obtain ⟨bA, Z, m0, m1, m2⟩ := jkAZC3 b5 bA Z m0 m1 m2
   have hn5 : n5 ≤ 1024 := by have := HN5.out; have := LQ.out; omega
   clear b5 lb5 HN5 OC hO3
   obtain ⟨t0, t1, t2⟩ := set3_same (v0 := .bool q.1) (v1 := .slice a5 n5 c5) (v2 := .int .i64 q.2.2) m0 m1 m2
   replace hO5 := hO5.set_dy w.heap.size _ _ _ _ _ (.bool q.1) (.slice a5 n5 c5) (.int .i64 q.2.2) m0 m1 m2
   replace Z := Z.set3 (q := w.heap.size) (v0 := .bool q.1) (v1 := .slice a5 n5 c5) (v2 := .int .i64 q.2.2) (by omega)
   have h0 : (((w5.setCell ⟨w.heap.size, 0, none⟩ (.bool q.1)).setCell ⟨w.heap.size, 1, none⟩ (.slice a5 n5 c5)).setCell ⟨w.heap.size, 2, none⟩ (.int .i64 q.2.2)).frozen? ⟨w.heap.size, 0, none⟩ = false := set3_frozen l0
   have h1 : (((w5.setCell ⟨w.heap.size, 0, none⟩ (.bool q.1)).setCell ⟨w.heap.size, 1, none⟩ (.slice a5 n5 c5)).setCell ⟨w.heap.size, 2, none⟩ (.int .i64 q.2.2)).frozen? ⟨w.heap.size, 1, none⟩ = false := set3_frozen l1
   have h2 : (((w5.setCell ⟨w.heap.size, 0, none⟩ (.bool q.1)).setCell ⟨w.heap.size, 1, none⟩ (.slice a5 n5 c5)).setCell ⟨w.heap.size, 2, none⟩ (.int .i64 q.2.2)).frozen? ⟨w.heap.size, 2, none⟩ = false := set3_frozen l2
   replace bA : Below w.heap.size w (((w5.setCell ⟨w.heap.size, 0, none⟩ (.bool q.1)).setCell ⟨w.heap.size, 1, none⟩ (.slice a5 n5 c5)).setCell ⟨w.heap.size, 2, none⟩ (.int .i64 q.2.2)) := bl3 bA (by omega)
   go_upto_region 7 with fail
   generalize (((w5.setCell ⟨w.heap.size, 0, none⟩ (.bool q.1)).setCell ⟨w.heap.size, 1, none⟩ (.slice a5 n5 c5)).setCell ⟨w.heap.size, 2, none⟩ (.int .i64 q.2.2)) = v5 at *
   clear m0 m1 m2 l0 l1 l2
   have bw : Below v5.heap.size v5 v5.drew := (Below.refl _ _).drew
   refine wp_region_held (S := fun w' => Below v5.heap.size v5 w') (by kernel_rfl) ?_
   change wpAnyH _ _ _ _ _ _ _ _ (World.drew v5)
   generalize World.drew v5 = wd at bw ⊢
   refine tk 0 (dyV q.1 a5 n5 c5 q.2.2) rfl (by kernel_rfl) (fun _ _ _ h => h) (by rfl) ?_ bw ?_
   ·intro ww hS
    have q0 := kC hS t0
    have q1 := kC hS t1
    have q2 := kC hS t2
    clear hS
    go_simp
    try first | (with_reducible rfl) | rfl
   try simp only [Act.put, sA]
   refine tk 1 (.pointer (some ⟨w.heap.size, 2, none⟩)) rfl (by kernel_rfl) (fun _ _ _ h => h) (by rfl) ?_ bw ?_
   ·intro ww hS
    clear hS
    go_simp
    try first | (with_reducible rfl) | rfl
   try simp only [Act.put]
   refine tk 2 (.int .i64 q.2.2) rfl (by kernel_rfl) (fun _ _ _ h => h) (by rfl) ?_ bw ?_
   ·intro ww hS
    have q0 := kC hS t0
    have q1 := kC hS t1
    have q2 := kC hS t2
    clear hS
    go_simp
    try first | (with_reducible rfl) | rfl
   try simp only [Act.put]
   refine rd1 3 (by kernel_rfl) rfl fun K hK => ?_
   go_simp
   refine cM (PC.out _) ?_
   rintro r wn ⟨_, rfl, ⟨a6, n6, c6, rfl, HN6, hO6⟩, bN⟩
   refine hK.out _ _ (nT bw bN) (fun _ => ?_)
   clear hK K
   replace bw := nT bw bN
   clear bN
   try simp only
   have hn6 : n6 ≤ 1024 := by have e2 : n6 = (wO 1).length := HN6.out; have := HW1.out; omega
   refine rd1 4 (by kernel_rfl) rfl fun K hK => ?_
   go_simp
   refine cM (SC.out _ _ _ _ (hO5.keep bw).1 hn5 _ _ _ hO6.1 hn6) ?_
   rintro r wm ⟨rfl, bN⟩
   refine hK.out _ _ (nT bw bN) (fun _ => ?_)
   clear hK K
   replace bw := nT bw bN
   clear bN
   try simp only [Act.put, sA, sZ, sS]
   refine wpAnyH_done (by kernel_rfl) ?_ _
   obtain ⟨bA, Z, t0, t1, t2⟩ := jkAZC3 bw bA Z t0 t1 t2
   clear bw hO5 hO6 HN6
   go_wp2_with fail
   refine cM (IQ.out _) ?_
   have lb7 := bA.size
   rintro r w7 ⟨_, rfl, ⟨a7, n7, c7, rfl, HN7, hO7⟩, b7⟩
   replace hO7 := hO7.low lb7
   obtain ⟨bA, Z, t0, t1, t2⟩ := jkAZC3 b7 bA Z t0 t1 t2
   clear b7 lb7
   go_wp2_with fail
   have hn7 : n7 ≤ 1024 := by have := HN7.out; have := LI.out; omega
   refine cM (TQ.out _ _ _ _ hO7.1 hn7) ?_
   have lb8 := bA.size
   rintro r w8 ⟨_, rfl, ⟨a8, n8, c8, rfl, HN8, hO8⟩, b8⟩
   replace hO8 := hO8.low lb8
   obtain ⟨bA, Z, t0, t1, t2⟩ := jkAZC3 b8 bA Z t0 t1 t2
   clear b8 lb8
   obtain ⟨z0, z1, z2, f0, f1, f2⟩ := Z
   go_wp2_with fail
   exact bodyPost_ret (v := .tuple #[dyV I.1 a8 n8 c8 I.2.2, .bool true]) (by simp [results, Tryz.results53, go_sem, z0, z1, z2]) rfl ⟨_, rfl, dyE HN8 hO8 z0 z1 z2, bl3 bA (by omega)⟩
 ·rw [if_neg hB]
  have eS : sameB q.1 q.2.2 (wO q.2.1) false q.2.2 (wO 1) = false := decide_eq_false fun k => hB ⟨k.1, by have := congrArg val k.2.2; rwa [val_words, val_words] at this⟩
  rw [eS] at SC
  unfold no3
  clear hB eS h hp hq hb bq oI IQ TQ LI hn
  go_enter Tryz.func53, Tryz.ntmps53
  go_wp2_with fail
  generalize ((w.alloc (.cells #[.bool p.1, .slice a n c, .int .i64 p.2.2] 27)).alloc (.cells #[.bool false, .slice none 0 0, .int .i64 0] 27)) = w0 at *
  go_region_with (first
   | (go_at_call 22; refine (HI.out _).mono ?_; rintro r w1 ⟨_, rfl, ⟨ai, ni, ci, rfl, HNi, hOi⟩, b1⟩; have b2 : Below w0.heap.size w0 w1 := nT (by repeat (first | exact Below.refl _ _ | apply Below.drew)) b1; have y0 := kC b2 x0; have y1 := kC b2 x1; have y2 := kC b2 x2; have k0 := kF b2 x0 g0; have k1 := kF b2 x1 g1; have k2 := kF b2 x2 g2)
   | (go_at_call 91; refine (HL.out _ ((hI.keep b2).keep (by repeat (first | exact Below.refl _ _ | apply Below.drew))) ai ni ci (hOi.1.keep (by repeat (first | exact Below.refl _ _ | apply Below.drew))) (by have e2 : ni = (wO 1).length := HNi.out; have := HW.out; omega)).mono ?_; rintro r w3 ⟨_, rfl, ⟨a3, n3, c3, rfl, HN3, hO3⟩, b3⟩; have bB := nT (show Below w1.heap.size w1 _ from by repeat (first | exact Below.refl _ _ | apply Below.drew)) b3; have b4 := nT b2 bB; replace k0 := kF bB y0 k0; replace k1 := kF bB y1 k1; replace k2 := kF bB y2 k2; replace y0 := kC bB y0; replace y1 := kC bB y1; replace y2 := kC bB y2; replace hO3 := hO3.low (Nat.le_trans lb b2.size); clear b3 bB))
  all_goals
   clear x0 x1 x2 g0 g1 g2 b1 HNi hOi hI HI HL HW
   obtain ⟨bA, Z⟩ := jkAZ b4 bA Z
   have hn3 : n3 ≤ 1024 := by have := HN3.out; have := LQ.out; omega
   clear b2 b4 HN3
   obtain ⟨m0, m1, m2⟩ := set3_same (v0 := .bool q.1) (v1 := .slice a3 n3 c3) (v2 := .int .i64 q.2.2) y0 y1 y2
   replace hO3 := hO3.set_dy w.heap.size _ _ _ _ _ (.bool q.1) (.slice a3 n3 c3) (.int .i64 q.2.2) y0 y1 y2
   replace Z := Z.set3 (q := w.heap.size) (v0 := .bool q.1) (v1 := .slice a3 n3 c3) (v2 := .int .i64 q.2.2) (by omega)
   have l0 : (((w3.setCell ⟨w.heap.size, 0, none⟩ (.bool q.1)).setCell ⟨w.heap.size, 1, none⟩ (.slice a3 n3 c3)).setCell ⟨w.heap.size, 2, none⟩ (.int .i64 q.2.2)).frozen? ⟨w.heap.size, 0, none⟩ = false := set3_frozen k0
   have l1 : (((w3.setCell ⟨w.heap.size, 0, none⟩ (.bool q.1)).setCell ⟨w.heap.size, 1, none⟩ (.slice a3 n3 c3)).setCell ⟨w.heap.size, 2, none⟩ (.int .i64 q.2.2)).frozen? ⟨w.heap.size, 1, none⟩ = false := set3_frozen k1
   have l2 : (((w3.setCell ⟨w.heap.size, 0, none⟩ (.bool q.1)).setCell ⟨w.heap.size, 1, none⟩ (.slice a3 n3 c3)).setCell ⟨w.heap.size, 2, none⟩ (.int .i64 q.2.2)).frozen? ⟨w.heap.size, 2, none⟩ = false := set3_frozen k2
   replace bA : Below w.heap.size w (((w3.setCell ⟨w.heap.size, 0, none⟩ (.bool q.1)).setCell ⟨w.heap.size, 1, none⟩ (.slice a3 n3 c3)).setCell ⟨w.heap.size, 2, none⟩ (.int .i64 q.2.2)) := bl3 bA (by omega)
   go_upto_region 4 with fail
   generalize (((w3.setCell ⟨w.heap.size, 0, none⟩ (.bool q.1)).setCell ⟨w.heap.size, 1, none⟩ (.slice a3 n3 c3)).setCell ⟨w.heap.size, 2, none⟩ (.int .i64 q.2.2)) = v3 at *
   clear y0 y1 y2 k0 k1 k2
   go_wp2_with fail
   refine cM (OC.out _ _ _ _ hO3.1 hn3) ?_
   have lb5 := bA.size
   rintro r w5 ⟨_, rfl, ⟨a5, n5, c5, rfl, HN5, hO5⟩, b5⟩
   replace hO5 := hO5.low lb5
   replace l0 := kF b5 m0 l0; replace l1 := kF b5 m1 l1; replace l2 := kF b5 m2 l2
   obtain ⟨bA, Z, m0, m1, m2⟩ := jkAZC3 b5 bA Z m0 m1 m2
   have hn5 : n5 ≤ 1024 := by have := HN5.out; have := LQ.out; omega
   clear b5 lb5 HN5 OC hO3
   obtain ⟨t0, t1, t2⟩ := set3_same (v0 := .bool q.1) (v1 := .slice a5 n5 c5) (v2 := .int .i64 q.2.2) m0 m1 m2
   replace hO5 := hO5.set_dy w.heap.size _ _ _ _ _ (.bool q.1) (.slice a5 n5 c5) (.int .i64 q.2.2) m0 m1 m2
   replace Z := Z.set3 (q := w.heap.size) (v0 := .bool q.1) (v1 := .slice a5 n5 c5) (v2 := .int .i64 q.2.2) (by omega)
   have h0 : (((w5.setCell ⟨w.heap.size, 0, none⟩ (.bool q.1)).setCell ⟨w.heap.size, 1, none⟩ (.slice a5 n5 c5)).setCell ⟨w.heap.size, 2, none⟩ (.int .i64 q.2.2)).frozen? ⟨w.heap.size, 0, none⟩ = false := set3_frozen l0
   have h1 : (((w5.setCell ⟨w.heap.size, 0, none⟩ (.bool q.1)).setCell ⟨w.heap.size, 1, none⟩ (.slice a5 n5 c5)).setCell ⟨w.heap.size, 2, none⟩ (.int .i64 q.2.2)).frozen? ⟨w.heap.size, 1, none⟩ = false := set3_frozen l1
   have h2 : (((w5.setCell ⟨w.heap.size, 0, none⟩ (.bool q.1)).setCell ⟨w.heap.size, 1, none⟩ (.slice a5 n5 c5)).setCell ⟨w.heap.size, 2, none⟩ (.int .i64 q.2.2)).frozen? ⟨w.heap.size, 2, none⟩ = false := set3_frozen l2
   replace bA : Below w.heap.size w (((w5.setCell ⟨w.heap.size, 0, none⟩ (.bool q.1)).setCell ⟨w.heap.size, 1, none⟩ (.slice a5 n5 c5)).setCell ⟨w.heap.size, 2, none⟩ (.int .i64 q.2.2)) := bl3 bA (by omega)
   go_upto_region 7 with fail
   generalize (((w5.setCell ⟨w.heap.size, 0, none⟩ (.bool q.1)).setCell ⟨w.heap.size, 1, none⟩ (.slice a5 n5 c5)).setCell ⟨w.heap.size, 2, none⟩ (.int .i64 q.2.2)) = v5 at *
   clear m0 m1 m2 l0 l1 l2
   have bw : Below v5.heap.size v5 v5.drew := (Below.refl _ _).drew
   refine wp_region_held (S := fun w' => Below v5.heap.size v5 w') (by kernel_rfl) ?_
   change wpAnyH _ _ _ _ _ _ _ _ (World.drew v5)
   generalize World.drew v5 = wd at bw ⊢
   refine tk 0 (dyV q.1 a5 n5 c5 q.2.2) rfl (by kernel_rfl) (fun _ _ _ h => h) (by rfl) ?_ bw ?_
   ·intro ww hS
    have q0 := kC hS t0
    have q1 := kC hS t1
    have q2 := kC hS t2
    clear hS
    go_simp
    try first | (with_reducible rfl) | rfl
   try simp only [Act.put, sA]
   refine tk 1 (.pointer (some ⟨w.heap.size, 2, none⟩)) rfl (by kernel_rfl) (fun _ _ _ h => h) (by rfl) ?_ bw ?_
   ·intro ww hS
    clear hS
    go_simp
    try first | (with_reducible rfl) | rfl
   try simp only [Act.put]
   refine tk 2 (.int .i64 q.2.2) rfl (by kernel_rfl) (fun _ _ _ h => h) (by rfl) ?_ bw ?_
   ·intro ww hS
    have q0 := kC hS t0
    have q1 := kC hS t1
    have q2 := kC hS t2
    clear hS
    go_simp
    try first | (with_reducible rfl) | rfl
   try simp only [Act.put]
   refine rd1 3 (by kernel_rfl) rfl fun K hK => ?_
   go_simp
   refine cM (PC.out _) ?_
   rintro r wn ⟨_, rfl, ⟨a6, n6, c6, rfl, HN6, hO6⟩, bN⟩
   refine hK.out _ _ (nT bw bN) (fun _ => ?_)
   clear hK K
   replace bw := nT bw bN
   clear bN
   try simp only
   have hn6 : n6 ≤ 1024 := by have e2 : n6 = (wO 1).length := HN6.out; have := HW1.out; omega
   refine rd1 4 (by kernel_rfl) rfl fun K hK => ?_
   go_simp
   refine cM (SC.out _ _ _ _ (hO5.keep bw).1 hn5 _ _ _ hO6.1 hn6) ?_
   rintro r wm ⟨rfl, bN⟩
   refine hK.out _ _ (nT bw bN) (fun _ => ?_)
   clear hK K
   replace bw := nT bw bN
   clear bN
   try simp only [Act.put, sA, sZ, sS]
   refine wpAnyH_done (by kernel_rfl) ?_ _
   obtain ⟨bA, Z, t0, t1, t2⟩ := jkAZC3 bw bA Z t0 t1 t2
   clear bw hO5 hO6 HN6
   obtain ⟨z0, z1, z2, f0, f1, f2⟩ := Z
   go_wp2_with fail
   exact bodyPost_ret (v := .tuple #[dyV false none 0 0 0, .bool false]) (by simp [results, Tryz.results53, go_sem, z0, z1, z2]) rfl ⟨_, rfl, dyQ_zero _ _, by first | exact bA | exact bl3 bA (by omega)⟩
end Go.Proofs.YtiijfnaaekmpbaaGreatDoor

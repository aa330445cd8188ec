/- The document's exact cases: logarithms by whole powers. The document's exact cases: logarithms by whole powers. -/
import Derived.Test.YtiijfnaaekmpbaaGreatDoorALX
import Derived.Test.YtiijfnaaekmpbaaGreatDoorEDX
import Derived.Deep.CutRange
import Derived.Deep.RegionHeld3
import Derived.BigQuiet
import Derived.Test.YtiijfnaaekmpbaaGreatDoorFX

namespace Go.Proofs.YtiijfnaaekmpbaaGreatDoor
open Go.RowKit
set_option maxRecDepth 100000 in
set_option maxHeartbeats 4000000 in
theorem dLog9_calls (p : E3) (a : Option Addr) (n c : Nat) (w : World) (h : IsW w a n c (wO p.2.1)) (hn : n ≤ 1024) (hp : OkE p) (hq : OkE (lgX 9 p)) :
  Calls Tryz.prog 53 #[.int .u8 9, dyV p.1 a n c p.2.2] w fun r w' => ∃ v, r = .returned (.tuple #[v, .bool (lgD 9 p).2]) ∧ DyQ w.heap.size w' v (lgD 9 p).1 ∧ Below w.heap.size w w' := by
 have bA : Below w.heap.size w ((w.alloc (.cells #[.bool p.1, .slice a n c, .int .i64 p.2.2] 27)).alloc (.cells #[.bool false, .slice none 0 0, .int .i64 0] 27)) := nT (below_one _ _) (below_one _ _)
 have Z := zrB w p.1 a n c p.2.2
 obtain ⟨x0, x1, x2, g0, g1, g2⟩ := fX21 w p a n c _ rfl
 have hb := okE_bd hp
 have hI := h.keep bA
 have lb := bA.size
 rw [show lgX 9 p = p from rfl] at hq
 rw [show lgD 9 p = lgT true 22 (p) from rfl]
 obtain ⟨q, rfl⟩ : ∃ q, q = p := ⟨_, rfl⟩
 have bq := okE_bd hq
 have OC : Hid _ := fun (W : World) (a : Option Addr) (n c : Nat) (h : IsW W a n c (wO q.2.1)) (hn : n ≤ 1024) => qOne_calls q.1 a n c (wO q.2.1) q.2.2 W h (by omega) (by omega)
 simp only [val_words, hq.form] at OC
 have LQ : Hid _ := okE_len hq
 have OQ : Hid (OkE q) := hq
 have HR1 : Hid (∀ i, i ≤ 22 → hitB true q i = true → lgT true 22 q = (intD i, true)) := fun i hi hh => lgT_hit hq.1 hi hh
 have HR2 : Hid ((∀ i, i ≤ 22 → ¬ hitB true q i = true) → lgT true 22 q = no3) := fun hh => lgT_none hh
 generalize lgT true 22 q = R at *
 clear h hp hq hb bq
 go_enter Tryz.func53, Tryz.ntmps53
 go_wp2_with fail
 generalize ((w.alloc (.cells #[.bool q.1, .slice a n c, .int .i64 q.2.2] 27)).alloc (.cells #[.bool false, .slice none 0 0, .int .i64 0] 27)) = w0 at *
 refine cM (OC.out _ _ _ _ hI hn) ?_
 have lb5 := bA.size
 rintro r w5 ⟨_, rfl, ⟨a5, n5, c5, rfl, HN5, hO5⟩, b5⟩
 replace hO5 := hO5.low lb5
 replace g0 := kF b5 x0 g0; replace g1 := kF b5 x1 g1; replace g2 := kF b5 x2 g2
 obtain ⟨bA, Z, x0, x1, x2⟩ := jkAZC3 b5 bA Z x0 x1 x2
 have hn5 : n5 ≤ 1024 := by have := HN5.out; have := LQ.out; omega
 clear b5 lb5 HN5 OC hI
 obtain ⟨t0, t1, t2⟩ := set3_same (v0 := .bool q.1) (v1 := .slice a5 n5 c5) (v2 := .int .i64 q.2.2) x0 x1 x2
 replace hO5 := hO5.set_dy w.heap.size _ _ _ _ _ (.bool q.1) (.slice a5 n5 c5) (.int .i64 q.2.2) x0 x1 x2
 replace Z := Z.set3 (q := w.heap.size) (v0 := .bool q.1) (v1 := .slice a5 n5 c5) (v2 := .int .i64 q.2.2) (by omega)
 have h0 : (((w5.setCell ⟨w.heap.size, 0, none⟩ (.bool q.1)).setCell ⟨w.heap.size, 1, none⟩ (.slice a5 n5 c5)).setCell ⟨w.heap.size, 2, none⟩ (.int .i64 q.2.2)).frozen? ⟨w.heap.size, 0, none⟩ = false := set3_frozen g0
 have h1 : (((w5.setCell ⟨w.heap.size, 0, none⟩ (.bool q.1)).setCell ⟨w.heap.size, 1, none⟩ (.slice a5 n5 c5)).setCell ⟨w.heap.size, 2, none⟩ (.int .i64 q.2.2)).frozen? ⟨w.heap.size, 1, none⟩ = false := set3_frozen g1
 have h2 : (((w5.setCell ⟨w.heap.size, 0, none⟩ (.bool q.1)).setCell ⟨w.heap.size, 1, none⟩ (.slice a5 n5 c5)).setCell ⟨w.heap.size, 2, none⟩ (.int .i64 q.2.2)).frozen? ⟨w.heap.size, 2, none⟩ = false := set3_frozen g2
 replace bA : Below w.heap.size w (((w5.setCell ⟨w.heap.size, 0, none⟩ (.bool q.1)).setCell ⟨w.heap.size, 1, none⟩ (.slice a5 n5 c5)).setCell ⟨w.heap.size, 2, none⟩ (.int .i64 q.2.2)) := bl3 bA (by omega)
 go_upto_region 6 with fail
 generalize (((w5.setCell ⟨w.heap.size, 0, none⟩ (.bool q.1)).setCell ⟨w.heap.size, 1, none⟩ (.slice a5 n5 c5)).setCell ⟨w.heap.size, 2, none⟩ (.int .i64 q.2.2)) = v5 at *
 clear x0 x1 x2 g0 g1 g2
 clear h0 h1 h2
 go_wp2_with fail
 go_loopw [7] (fun vn wr => ∃ i : Nat, i ≤ 22 + 1 ∧ vn = .int .i64 i ∧ Hid (∀ j, j < i → ¬ hitB true q j = true) ∧ Below v5.heap.size v5 wr) (fun vn _ => 22 + 1 - (intOf vn).toNat)
 case atStart => exact ⟨0, by omega, rfl, (fun j hj => by omega), Below.refl _ _⟩
 case round =>
  obtain ⟨i, hi, rfl, HH, bR⟩ := hrel
  obtain ⟨bA, Z, hO5, t0, t1, t2⟩ := jkAZOC3 bR bA Z hO5 t0 t1 t2
  by_cases hlt : i ≤ 22
  ·by_cases h0 : i = 0
   ·subst h0
    have TC : Hid _ := fun W => dTen_calls 0 (by omega) W
    have OC2 : Hid _ := fun (W : World) (g : IsW W a5 n5 c5 (wO q.2.1)) (b : Option Addr) (m d : Nat) (k : IsW W b m d (wO (10 ^ 0))) (km : m ≤ 1 + 0) => dOrdE q false (wO (10 ^ 0)) 0 a5 n5 c5 b m d W g hn5 k (by omega) OQ.out ⟨by decide, by decide⟩
    simp only [val_words, show formD false (10 ^ 0) 0 = tenD 0 from rfl] at OC2
    have HY : Hid (cmpD q (tenD 0) = 0 → R = (intD ((0 : Nat) : Int), true)) := fun hJ => HR1.out 0 (by omega) (hit_yes (.inl rfl) hJ)
    have HN : Hid (cmpD q (tenD 0) ≠ 0 → ∀ j, j < 0 + 1 → ¬ hitB true q j = true) := fun hJ j hj => by
     by_cases e : j = 0
     ·rw [e]; exact hit_no hJ
     ·exact HH.out j (by omega)
    have IQ : Hid _ := fun W => qint_calls ((0 : Nat) : Int) (by omega) W
    have oI : OkE (intD ((0 : Nat) : Int)) := int_ok _ (by omega)
    have TQ : Hid _ := fun (W : World) (a : Option Addr) (n c : Nat) (h : IsW W a n c (wO (intD ((0 : Nat) : Int)).2.1)) (hn : n ≤ 1024) => dToldE (intD ((0 : Nat) : Int)) a n c W h hn oI
    have LI : Hid _ := okE_len oI
    generalize intD ((0 : Nat) : Int) = I at *
    generalize cmpD q (tenD 0) = J at *
    clear oI HH HR1 HR2
    go_wp2_with fail
    have bw : Below wr.heap.size wr wr.drew := (Below.refl _ _).drew
    refine wp_region_held (S := fun w' => Below wr.heap.size wr w') (by kernel_rfl) ?_
    change wpAnyH _ _ _ _ _ _ _ _ (World.drew wr)
    generalize World.drew wr = wd at bw ⊢
    refine rd1 0 (by kernel_rfl) rfl fun K hK => ?_
    go_simp
    refine hK.out _ _ bw (fun _ => ?_)
    clear hK K
    try simp only [Act.put, sA, sZ, sS]
    refine rd1 1 (by kernel_rfl) rfl fun K hK => ?_
    go_simp
    refine hK.out _ _ bw (fun _ => ?_)
    clear hK K
    try simp only [Act.put, sA, sZ, sS]
    refine rd1 2 (by kernel_rfl) rfl fun K hK => ?_
    go_simp
    refine hK.out _ _ bw (fun _ => ?_)
    clear hK K
    try simp only [Act.put, sA, sZ, sS]
    refine rd1 3 (by kernel_rfl) rfl fun K hK => ?_
    go_simp
    refine hK.out _ _ bw (fun _ => ?_)
    clear hK K
    try simp only [Act.put, sA, sZ, sS]
    refine rd1 4 (by kernel_rfl) rfl fun K hK => ?_
    go_simp
    refine hK.out _ _ bw (fun _ => ?_)
    clear hK K
    try simp only [Act.put, sA, sZ, sS]
    refine rd1 5 (by kernel_rfl) rfl fun K hK => ?_
    go_simp
    refine hK.out _ _ bw (fun _ => ?_)
    clear hK K
    try simp only [Act.put, sA, sZ, sS]
    refine rd1 6 (by kernel_rfl) rfl fun K hK => ?_
    go_simp
    refine hK.out _ _ bw (fun _ => ?_)
    clear hK K
    try simp only [Act.put, sA, sZ, sS]
    refine rd1 7 (by kernel_rfl) rfl fun K hK => ?_
    go_simp
    refine hK.out _ _ bw (fun _ => ?_)
    clear hK K
    try simp only [Act.put, sA, sZ, sS]
    refine rd1 8 (by kernel_rfl) rfl fun K hK => ?_
    go_simp
    refine hK.out _ _ bw (fun _ => ?_)
    clear hK K
    try simp only [Act.put, sA, sZ, sS]
    refine rd1 9 (by kernel_rfl) rfl fun K hK => ?_
    go_simp
    refine hK.out _ _ bw (fun _ => ?_)
    clear hK K
    try simp only [Act.put, sA, sZ, sS]
    refine rd1 10 (by kernel_rfl) rfl fun K hK => ?_
    go_simp
    refine hK.out _ _ bw (fun _ => ?_)
    clear hK K
    try simp only [Act.put, sA, sZ, sS]
    refine tk 12 (.int .i64 0) rfl (by kernel_rfl) (fun _ _ _ h => h) (by rfl) ?_ bw ?_
    ·intro ww hS
     clear hS
     go_simp
     try first | (with_reducible rfl) | rfl
    try simp only [Act.put, sA]
    refine tk 11 (dyV q.1 a5 n5 c5 q.2.2) rfl (by kernel_rfl) (fun _ _ _ h => h) (by rfl) ?_ bw ?_
    ·intro ww hS
     have q0 := kC hS t0
     have q1 := kC hS t1
     have q2 := kC hS t2
     clear hS
     go_simp
     try first | (with_reducible rfl) | rfl
    try simp only [Act.put]
    refine rd1 13 (by kernel_rfl) rfl fun K hK => ?_
    go_simp
    refine cM (TC.out _) ?_
    rintro r wn ⟨_, rfl, ⟨a6, n6, c6, rfl, hn6, hO6⟩, bN⟩
    refine hK.out _ _ (nT bw bN) (fun _ => ?_)
    clear hK K
    replace bw := nT bw bN
    clear bN
    try simp only [Act.put, sA, sZ, sS]
    refine rd1 14 (by kernel_rfl) rfl fun K hK => ?_
    go_simp
    refine cM (OC2.out _ (hO5.1.keep bw) _ _ _ hO6.1 hn6) ?_
    rintro r wm ⟨rfl, bN⟩
    refine hK.out _ _ (nT bw bN) (fun _ => ?_)
    clear hK K
    replace bw := nT bw bN
    clear bN
    try simp only [Act.put, sA, sZ, sS]
    refine rd1 15 (by kernel_rfl) rfl fun K hK => ?_
    go_simp
    refine hK.out _ _ bw (fun _ => ?_)
    clear hK K
    try simp only [Act.put, sA, sZ, sS]
    refine rd1 16 (by kernel_rfl) rfl fun K hK => ?_
    go_simp
    refine hK.out _ _ bw (fun _ => ?_)
    clear hK K
    try simp only [Act.put, sA, sZ, sS]
    refine wpAnyH_done (by kernel_rfl) ?_ _
    clear hO6 TC OC2
    by_cases hJ : J = 0
    ·have eR : Hid _ := HY.out hJ
     clear HY HN
     subst hJ
     obtain ⟨bA, Z, t0, t1, t2⟩ := jkAZC3 bw bA Z t0 t1 t2
     clear bw hO5
     go_wp2_with fail
     refine cM (IQ.out _) ?_
     have lb8 := bA.size
     rintro r w8 ⟨_, rfl, ⟨a8, n8, c8, rfl, HN8, hO8⟩, b8⟩
     replace hO8 := hO8.low lb8
     obtain ⟨bA, Z, t0, t1, t2⟩ := jkAZC3 b8 bA Z t0 t1 t2
     clear b8 lb8
     go_wp2_with fail
     have hn8 : n8 ≤ 1024 := by have := HN8.out; have := LI.out; omega
     refine cM (TQ.out _ _ _ _ hO8.1 hn8) ?_
     have lb9 := bA.size
     rintro r w9 ⟨_, rfl, ⟨a9, n9, c9, rfl, HN9, hO9⟩, b9⟩
     replace hO9 := hO9.low lb9
     obtain ⟨bA, Z, t0, t1, t2⟩ := jkAZC3 b9 bA Z t0 t1 t2
     clear b9 lb9
     obtain ⟨z0, z1, z2, f0, f1, f2⟩ := Z
     go_wp2_with fail
     exact bodyPost_ret (v := .tuple #[dyV I.1 a9 n9 c9 I.2.2, .bool true]) (by simp [results, Tryz.results53, go_sem, z0, z1, z2]) rfl ⟨dyV I.1 a9 n9 c9 I.2.2, by rw [eR.out], by rw [eR.out]; exact dyE HN9 hO9 z0 z1 z2, bl3 bA (by omega)⟩
    ·have HH2 : Hid _ := HN.out hJ
     have hJ2 : (J == 0) = false := by simpa using hJ
     clear HY HN IQ TQ LI hO5
     go_wp2_with fail
     exact ⟨⟨0 + 1, by omega, by go_num, HH2, nT bR bw⟩, by first | (simp [intOf]; done) | (simp [intOf]; omega)⟩
   ·have TC : Hid _ := fun W => dTen_calls i (by omega) W
    have OC2 : Hid _ := fun (W : World) (g : IsW W a5 n5 c5 (wO q.2.1)) (b : Option Addr) (m d : Nat) (k : IsW W b m d (wO (10 ^ i))) (km : m ≤ 1 + i) => dOrdE q false (wO (10 ^ i)) 0 a5 n5 c5 b m d W g hn5 k (by omega) OQ.out ⟨by decide, by decide⟩
    simp only [val_words, show formD false (10 ^ i) 0 = tenD i from rfl] at OC2
    have hz : (((i : Nat) : Int) == 0) = false := by simp; omega
    have HY : Hid (cmpD q (tenD i) = 0 → R = (intD ((i : Nat) : Int), true)) := fun hJ => HR1.out i (by omega) (hit_yes (.inr rfl) hJ)
    have HN : Hid (cmpD q (tenD i) ≠ 0 → ∀ j, j < i + 1 → ¬ hitB true q j = true) := fun hJ j hj => by
     by_cases e : j = i
     ·rw [e]; exact hit_no hJ
     ·exact HH.out j (by omega)
    have IQ : Hid _ := fun W => qint_calls ((i : Nat) : Int) (by omega) W
    have oI : OkE (intD ((i : Nat) : Int)) := int_ok _ (by omega)
    have TQ : Hid _ := fun (W : World) (a : Option Addr) (n c : Nat) (h : IsW W a n c (wO (intD ((i : Nat) : Int)).2.1)) (hn : n ≤ 1024) => dToldE (intD ((i : Nat) : Int)) a n c W h hn oI
    have LI : Hid _ := okE_len oI
    generalize intD ((i : Nat) : Int) = I at *
    generalize cmpD q (tenD i) = J at *
    clear oI HH HR1 HR2
    go_wp2_with fail
    have bw : Below wr.heap.size wr wr.drew := (Below.refl _ _).drew
    refine wp_region_held (S := fun w' => Below wr.heap.size wr w') (by kernel_rfl) ?_
    change wpAnyH _ _ _ _ _ _ _ _ (World.drew wr)
    generalize World.drew wr = wd at bw ⊢
    refine rd1 0 (by kernel_rfl) rfl fun K hK => ?_
    go_simp
    refine hK.out _ _ bw (fun _ => ?_)
    clear hK K
    try simp only [Act.put, sA, sZ, sS]
    refine rd1 1 (by kernel_rfl) rfl fun K hK => ?_
    go_simp
    refine hK.out _ _ bw (fun _ => ?_)
    clear hK K
    try simp only [Act.put, sA, sZ, sS]
    refine rd1 2 (by kernel_rfl) rfl fun K hK => ?_
    go_simp
    refine hK.out _ _ bw (fun _ => ?_)
    clear hK K
    try simp only [Act.put, sA, sZ, sS]
    refine rd1 3 (by kernel_rfl) rfl fun K hK => ?_
    go_simp
    refine hK.out _ _ bw (fun _ => ?_)
    clear hK K
    try simp only [Act.put, sA, sZ, sS]
    refine rd1 4 (by kernel_rfl) rfl fun K hK => ?_
    go_simp
    refine hK.out _ _ bw (fun _ => ?_)
    clear hK K
    try simp only [Act.put, sA, sZ, sS]
    refine rd1 5 (by kernel_rfl) rfl fun K hK => ?_
    go_simp
    refine hK.out _ _ bw (fun _ => ?_)
    clear hK K
    try simp only [Act.put, sA, sZ, sS]
    refine rd1 6 (by kernel_rfl) rfl fun K hK => ?_
    go_simp
    refine hK.out _ _ bw (fun _ => ?_)
    clear hK K
    try simp only [Act.put, sA, sZ, sS]
    refine rd1 7 (by kernel_rfl) rfl fun K hK => ?_
    go_simp
    refine hK.out _ _ bw (fun _ => ?_)
    clear hK K
    try simp only [Act.put, sA, sZ, sS]
    refine rd1 8 (by kernel_rfl) rfl fun K hK => ?_
    go_simp
    refine hK.out _ _ bw (fun _ => ?_)
    clear hK K
    try simp only [Act.put, sA, sZ, sS]
    refine rd1 9 (by kernel_rfl) rfl fun K hK => ?_
    go_simp
    refine hK.out _ _ bw (fun _ => ?_)
    clear hK K
    try simp only [Act.put, sA, sZ, sS]
    refine rd1 10 (by kernel_rfl) rfl fun K hK => ?_
    go_simp
    refine hK.out _ _ bw (fun _ => ?_)
    clear hK K
    try simp only [Act.put, sA, sZ, sS]
    refine tk 12 (.int .i64 (i : Int)) rfl (by kernel_rfl) (fun _ _ _ h => h) (by rfl) ?_ bw ?_
    ·intro ww hS
     clear hS
     go_simp
     try first | (with_reducible rfl) | rfl
    try simp only [Act.put, sA]
    refine tk 11 (dyV q.1 a5 n5 c5 q.2.2) rfl (by kernel_rfl) (fun _ _ _ h => h) (by rfl) ?_ bw ?_
    ·intro ww hS
     have q0 := kC hS t0
     have q1 := kC hS t1
     have q2 := kC hS t2
     clear hS
     go_simp
     try first | (with_reducible rfl) | rfl
    try simp only [Act.put]
    refine rd1 13 (by kernel_rfl) rfl fun K hK => ?_
    go_simp
    refine cM (TC.out _) ?_
    rintro r wn ⟨_, rfl, ⟨a6, n6, c6, rfl, hn6, hO6⟩, bN⟩
    refine hK.out _ _ (nT bw bN) (fun _ => ?_)
    clear hK K
    replace bw := nT bw bN
    clear bN
    try simp only [Act.put, sA, sZ, sS]
    refine rd1 14 (by kernel_rfl) rfl fun K hK => ?_
    go_simp
    refine cM (OC2.out _ (hO5.1.keep bw) _ _ _ hO6.1 hn6) ?_
    rintro r wm ⟨rfl, bN⟩
    refine hK.out _ _ (nT bw bN) (fun _ => ?_)
    clear hK K
    replace bw := nT bw bN
    clear bN
    try simp only [Act.put, sA, sZ, sS]
    refine rd1 15 (by kernel_rfl) rfl fun K hK => ?_
    go_simp
    refine hK.out _ _ bw (fun _ => ?_)
    clear hK K
    try simp only [Act.put, sA, sZ, sS]
    refine rd1 16 (by kernel_rfl) rfl fun K hK => ?_
    go_simp
    refine hK.out _ _ bw (fun _ => ?_)
    clear hK K
    try simp only [Act.put, sA, sZ, sS]
    refine wpAnyH_done (by kernel_rfl) ?_ _
    clear hO6 TC OC2
    by_cases hJ : J = 0
    ·have eR : Hid _ := HY.out hJ
     clear HY HN
     subst hJ
     obtain ⟨bA, Z, t0, t1, t2⟩ := jkAZC3 bw bA Z t0 t1 t2
     clear bw hO5
     go_wp2_with fail
     refine cM (IQ.out _) ?_
     have lb8 := bA.size
     rintro r w8 ⟨_, rfl, ⟨a8, n8, c8, rfl, HN8, hO8⟩, b8⟩
     replace hO8 := hO8.low lb8
     obtain ⟨bA, Z, t0, t1, t2⟩ := jkAZC3 b8 bA Z t0 t1 t2
     clear b8 lb8
     go_wp2_with fail
     have hn8 : n8 ≤ 1024 := by have := HN8.out; have := LI.out; omega
     refine cM (TQ.out _ _ _ _ hO8.1 hn8) ?_
     have lb9 := bA.size
     rintro r w9 ⟨_, rfl, ⟨a9, n9, c9, rfl, HN9, hO9⟩, b9⟩
     replace hO9 := hO9.low lb9
     obtain ⟨bA, Z, t0, t1, t2⟩ := jkAZC3 b9 bA Z t0 t1 t2
     clear b9 lb9
     obtain ⟨z0, z1, z2, f0, f1, f2⟩ := Z
     go_wp2_with fail
     exact bodyPost_ret (v := .tuple #[dyV I.1 a9 n9 c9 I.2.2, .bool true]) (by simp [results, Tryz.results53, go_sem, z0, z1, z2]) rfl ⟨dyV I.1 a9 n9 c9 I.2.2, by rw [eR.out], by rw [eR.out]; exact dyE HN9 hO9 z0 z1 z2, bl3 bA (by omega)⟩
    ·have HH2 : Hid _ := HN.out hJ
     have hJ2 : (J == 0) = false := by simpa using hJ
     clear HY HN IQ TQ LI hO5
     go_wp2_with fail
     exact ⟨⟨i + 1, by omega, by go_num, HH2, nT bR bw⟩, by first | (simp [intOf]; done) | (simp [intOf]; omega)⟩
  ·have eR : Hid _ := HR2.out fun j hj => HH.out j (by omega)
   clear HH HR1 HR2 hO5
   obtain ⟨z0, z1, z2, f0, f1, f2⟩ := Z
   go_wp2_with fail
   exact bodyPost_ret (v := .tuple #[dyV false none 0 0 0, .bool false]) (by simp [results, Tryz.results53, go_sem, z0, z1, z2]) rfl ⟨dyV false none 0 0 0, by rw [eR.out]; rfl, by rw [eR.out]; exact dyQ_zero _ _, bl3 bA (by omega)⟩
set_option maxRecDepth 100000 in
set_option maxHeartbeats 4000000 in
theorem dLog10_calls (p : E3) (a : Option Addr) (n c : Nat) (w : World) (h : IsW w a n c (wO p.2.1)) (hn : n ≤ 1024) (hp : OkE p) (hq : OkE (lgX 10 p)) :
  Calls Tryz.prog 53 #[.int .u8 10, dyV p.1 a n c p.2.2] w fun r w' => ∃ v, r = .returned (.tuple #[v, .bool (lgD 10 p).2]) ∧ DyQ w.heap.size w' v (lgD 10 p).1 ∧ Below w.heap.size w w' := by
 have bA : Below w.heap.size w ((w.alloc (.cells #[.bool p.1, .slice a n c, .int .i64 p.2.2] 27)).alloc (.cells #[.bool false, .slice none 0 0, .int .i64 0] 27)) := nT (below_one _ _) (below_one _ _)
 have Z := zrB w p.1 a n c p.2.2
 obtain ⟨x0, x1, x2, g0, g1, g2⟩ := fX21 w p a n c _ rfl
 have hb := okE_bd hp
 have hI := h.keep bA
 have lb := bA.size
 have HI : Hid _ := fun W => qint_calls 1 ⟨by decide, by decide⟩ W
 have e1 : intD 1 = (false, 1, 0) := form_odd _ rfl _
 have HL : Hid _ := fun (W : World) (g : IsW W a n c (wO p.2.1)) (b : Option Addr) (m d : Nat) (k : IsW W b m d (wO 1)) (km : m ≤ 1) => qPlus_calls p.1 a n c (wO p.2.1) p.2.2 false b m d (wO 1) 0 W g (by omega) k (by omega) (by omega) (by omega) (by rw [val_words]; omega) (by rw [val_words]; decide +kernel)
 simp only [val_words, hp.form, show formD false 1 0 = intD 1 from rfl] at HL
 have HW : Hid ((wO 1).length ≤ 1) := by rw [Hid]; decide +kernel
 rw [e1] at HI
 clear e1
 rw [show lgX 10 p = sumD p (intD 1) from rfl] at hq
 rw [show lgD 10 p = lgT false 16 (sumD p (intD 1)) from rfl]
 generalize sumD p (intD 1) = q at *
 have bq := okE_bd hq
 have OC : Hid _ := fun (W : World) (a : Option Addr) (n c : Nat) (h : IsW W a n c (wO q.2.1)) (hn : n ≤ 1024) => qOne_calls q.1 a n c (wO q.2.1) q.2.2 W h (by omega) (by omega)
 simp only [val_words, hq.form] at OC
 have LQ : Hid _ := okE_len hq
 have OQ : Hid (OkE q) := hq
 have HR1 : Hid (∀ i, i ≤ 16 → hitB false q i = true → lgT false 16 q = (intD i, true)) := fun i hi hh => lgT_hit hq.1 hi hh
 have HR2 : Hid ((∀ i, i ≤ 16 → ¬ hitB false q i = true) → lgT false 16 q = no3) := fun hh => lgT_none hh
 generalize lgT false 16 q = R at *
 clear h hp hq hb bq hn
 go_enter Tryz.func53, Tryz.ntmps53
 go_wp2_with fail
 generalize ((w.alloc (.cells #[.bool p.1, .slice a n c, .int .i64 p.2.2] 27)).alloc (.cells #[.bool false, .slice none 0 0, .int .i64 0] 27)) = w0 at *
 go_region_with (first
  | (go_at_call 22; refine (HI.out _).mono ?_; rintro r w1 ⟨_, rfl, ⟨ai, ni, ci, rfl, HNi, hOi⟩, b1⟩; have b2 : Below w0.heap.size w0 w1 := nT (by repeat (first | exact Below.refl _ _ | apply Below.drew)) b1; have y0 := kC b2 x0; have y1 := kC b2 x1; have y2 := kC b2 x2; have k0 := kF b2 x0 g0; have k1 := kF b2 x1 g1; have k2 := kF b2 x2 g2)
  | (go_at_call 91; refine (HL.out _ ((hI.keep b2).keep (by repeat (first | exact Below.refl _ _ | apply Below.drew))) ai ni ci (hOi.1.keep (by repeat (first | exact Below.refl _ _ | apply Below.drew))) (by have e2 : ni = (wO 1).length := HNi.out; have := HW.out; omega)).mono ?_; rintro r w3 ⟨_, rfl, ⟨a3, n3, c3, rfl, HN3, hO3⟩, b3⟩; have bB := nT (show Below w1.heap.size w1 _ from by repeat (first | exact Below.refl _ _ | apply Below.drew)) b3; have b4 := nT b2 bB; replace k0 := kF bB y0 k0; replace k1 := kF bB y1 k1; replace k2 := kF bB y2 k2; replace y0 := kC bB y0; replace y1 := kC bB y1; replace y2 := kC bB y2; replace hO3 := hO3.low (Nat.le_trans lb b2.size); clear b3 bB))
 all_goals
  clear x0 x1 x2 g0 g1 g2 b1 HNi hOi hI HI HL HW
  obtain ⟨bA, Z⟩ := jkAZ b4 bA Z
  have hn3 : n3 ≤ 1024 := by have := HN3.out; have := LQ.out; omega
  clear b2 b4 HN3
  obtain ⟨m0, m1, m2⟩ := set3_same (v0 := .bool q.1) (v1 := .slice a3 n3 c3) (v2 := .int .i64 q.2.2) y0 y1 y2
  replace hO3 := hO3.set_dy w.heap.size _ _ _ _ _ (.bool q.1) (.slice a3 n3 c3) (.int .i64 q.2.2) y0 y1 y2
  replace Z := Z.set3 (q := w.heap.size) (v0 := .bool q.1) (v1 := .slice a3 n3 c3) (v2 := .int .i64 q.2.2) (by omega)
  have l0 : (((w3.setCell ⟨w.heap.size, 0, none⟩ (.bool q.1)).setCell ⟨w.heap.size, 1, none⟩ (.slice a3 n3 c3)).setCell ⟨w.heap.size, 2, none⟩ (.int .i64 q.2.2)).frozen? ⟨w.heap.size, 0, none⟩ = false := set3_frozen k0
  have l1 : (((w3.setCell ⟨w.heap.size, 0, none⟩ (.bool q.1)).setCell ⟨w.heap.size, 1, none⟩ (.slice a3 n3 c3)).setCell ⟨w.heap.size, 2, none⟩ (.int .i64 q.2.2)).frozen? ⟨w.heap.size, 1, none⟩ = false := set3_frozen k1
  have l2 : (((w3.setCell ⟨w.heap.size, 0, none⟩ (.bool q.1)).setCell ⟨w.heap.size, 1, none⟩ (.slice a3 n3 c3)).setCell ⟨w.heap.size, 2, none⟩ (.int .i64 q.2.2)).frozen? ⟨w.heap.size, 2, none⟩ = false := set3_frozen k2
  replace bA : Below w.heap.size w (((w3.setCell ⟨w.heap.size, 0, none⟩ (.bool q.1)).setCell ⟨w.heap.size, 1, none⟩ (.slice a3 n3 c3)).setCell ⟨w.heap.size, 2, none⟩ (.int .i64 q.2.2)) := bl3 bA (by omega)
  go_upto_region 4 with fail
  generalize (((w3.setCell ⟨w.heap.size, 0, none⟩ (.bool q.1)).setCell ⟨w.heap.size, 1, none⟩ (.slice a3 n3 c3)).setCell ⟨w.heap.size, 2, none⟩ (.int .i64 q.2.2)) = v3 at *
  clear y0 y1 y2 k0 k1 k2
  go_wp2_with fail
  refine cM (OC.out _ _ _ _ hO3.1 hn3) ?_
  have lb5 := bA.size
  rintro r w5 ⟨_, rfl, ⟨a5, n5, c5, rfl, HN5, hO5⟩, b5⟩
  replace hO5 := hO5.low lb5
  replace l0 := kF b5 m0 l0; replace l1 := kF b5 m1 l1; replace l2 := kF b5 m2 l2
  obtain ⟨bA, Z, m0, m1, m2⟩ := jkAZC3 b5 bA Z m0 m1 m2
  have hn5 : n5 ≤ 1024 := by have := HN5.out; have := LQ.out; omega
  clear b5 lb5 HN5 OC hO3
  obtain ⟨t0, t1, t2⟩ := set3_same (v0 := .bool q.1) (v1 := .slice a5 n5 c5) (v2 := .int .i64 q.2.2) m0 m1 m2
  replace hO5 := hO5.set_dy w.heap.size _ _ _ _ _ (.bool q.1) (.slice a5 n5 c5) (.int .i64 q.2.2) m0 m1 m2
  replace Z := Z.set3 (q := w.heap.size) (v0 := .bool q.1) (v1 := .slice a5 n5 c5) (v2 := .int .i64 q.2.2) (by omega)
  have h0 : (((w5.setCell ⟨w.heap.size, 0, none⟩ (.bool q.1)).setCell ⟨w.heap.size, 1, none⟩ (.slice a5 n5 c5)).setCell ⟨w.heap.size, 2, none⟩ (.int .i64 q.2.2)).frozen? ⟨w.heap.size, 0, none⟩ = false := set3_frozen l0
  have h1 : (((w5.setCell ⟨w.heap.size, 0, none⟩ (.bool q.1)).setCell ⟨w.heap.size, 1, none⟩ (.slice a5 n5 c5)).setCell ⟨w.heap.size, 2, none⟩ (.int .i64 q.2.2)).frozen? ⟨w.heap.size, 1, none⟩ = false := set3_frozen l1
  have h2 : (((w5.setCell ⟨w.heap.size, 0, none⟩ (.bool q.1)).setCell ⟨w.heap.size, 1, none⟩ (.slice a5 n5 c5)).setCell ⟨w.heap.size, 2, none⟩ (.int .i64 q.2.2)).frozen? ⟨w.heap.size, 2, none⟩ = false := set3_frozen l2
  replace bA : Below w.heap.size w (((w5.setCell ⟨w.heap.size, 0, none⟩ (.bool q.1)).setCell ⟨w.heap.size, 1, none⟩ (.slice a5 n5 c5)).setCell ⟨w.heap.size, 2, none⟩ (.int .i64 q.2.2)) := bl3 bA (by omega)
  go_upto_region 6 with fail
  generalize (((w5.setCell ⟨w.heap.size, 0, none⟩ (.bool q.1)).setCell ⟨w.heap.size, 1, none⟩ (.slice a5 n5 c5)).setCell ⟨w.heap.size, 2, none⟩ (.int .i64 q.2.2)) = v5 at *
  clear m0 m1 m2 l0 l1 l2
  clear h0 h1 h2
  go_wp2_with fail
  go_loopw [7] (fun vn wr => ∃ i : Nat, i ≤ 16 + 1 ∧ vn = .int .i64 i ∧ Hid (∀ j, j < i → ¬ hitB false q j = true) ∧ Below v5.heap.size v5 wr) (fun vn _ => 16 + 1 - (intOf vn).toNat)
  case atStart => exact ⟨0, by omega, rfl, (fun j hj => by omega), Below.refl _ _⟩
  case round =>
   obtain ⟨i, hi, rfl, HH, bR⟩ := hrel
   obtain ⟨bA, Z, hO5, t0, t1, t2⟩ := jkAZOC3 bR bA Z hO5 t0 t1 t2
   by_cases hlt : i ≤ 16
   ·by_cases h0 : i = 0
    ·subst h0
     have TC : Hid _ := fun W => dTen_calls 0 (by omega) W
     have OC2 : Hid _ := fun (W : World) (g : IsW W a5 n5 c5 (wO q.2.1)) (b : Option Addr) (m d : Nat) (k : IsW W b m d (wO (10 ^ 0))) (km : m ≤ 1 + 0) => dOrdE q false (wO (10 ^ 0)) 0 a5 n5 c5 b m d W g hn5 k (by omega) OQ.out ⟨by decide, by decide⟩
     simp only [val_words, show formD false (10 ^ 0) 0 = tenD 0 from rfl] at OC2
     have HY : Hid (cmpD q (tenD 0) = 0 → R = (intD ((0 : Nat) : Int), true)) := fun hJ => HR1.out 0 (by omega) (hit_yes (.inl rfl) hJ)
     have HN : Hid (cmpD q (tenD 0) ≠ 0 → ∀ j, j < 0 + 1 → ¬ hitB false q j = true) := fun hJ j hj => by
      by_cases e : j = 0
      ·rw [e]; exact hit_no hJ
      ·exact HH.out j (by omega)
     have IQ : Hid _ := fun W => qint_calls ((0 : Nat) : Int) (by omega) W
     have oI : OkE (intD ((0 : Nat) : Int)) := int_ok _ (by omega)
     have TQ : Hid _ := fun (W : World) (a : Option Addr) (n c : Nat) (h : IsW W a n c (wO (intD ((0 : Nat) : Int)).2.1)) (hn : n ≤ 1024) => dToldE (intD ((0 : Nat) : Int)) a n c W h hn oI
     have LI : Hid _ := okE_len oI
     generalize intD ((0 : Nat) : Int) = I at *
     generalize cmpD q (tenD 0) = J at *
     clear oI HH HR1 HR2
     go_wp2_with fail
     have bw : Below wr.heap.size wr wr.drew := (Below.refl _ _).drew
     refine wp_region_held (S := fun w' => Below wr.heap.size wr w') (by kernel_rfl) ?_
     change wpAnyH _ _ _ _ _ _ _ _ (World.drew wr)
     generalize World.drew wr = wd at bw ⊢
     refine rd1 0 (by kernel_rfl) rfl fun K hK => ?_
     go_simp
     refine hK.out _ _ bw (fun _ => ?_)
     clear hK K
     try simp only [Act.put, sA, sZ, sS]
     refine rd1 1 (by kernel_rfl) rfl fun K hK => ?_
     go_simp
     refine hK.out _ _ bw (fun _ => ?_)
     clear hK K
     try simp only [Act.put, sA, sZ, sS]
     refine rd1 2 (by kernel_rfl) rfl fun K hK => ?_
     go_simp
     refine hK.out _ _ bw (fun _ => ?_)
     clear hK K
     try simp only [Act.put, sA, sZ, sS]
     refine rd1 3 (by kernel_rfl) rfl fun K hK => ?_
     go_simp
     refine hK.out _ _ bw (fun _ => ?_)
     clear hK K
     try simp only [Act.put, sA, sZ, sS]
     refine rd1 4 (by kernel_rfl) rfl fun K hK => ?_
     go_simp
     refine hK.out _ _ bw (fun _ => ?_)
     clear hK K
     try simp only [Act.put, sA, sZ, sS]
     refine rd1 5 (by kernel_rfl) rfl fun K hK => ?_
     go_simp
     refine hK.out _ _ bw (fun _ => ?_)
     clear hK K
     try simp only [Act.put, sA, sZ, sS]
     refine rd1 6 (by kernel_rfl) rfl fun K hK => ?_
     go_simp
     refine hK.out _ _ bw (fun _ => ?_)
     clear hK K
     try simp only [Act.put, sA, sZ, sS]
     refine rd1 7 (by kernel_rfl) rfl fun K hK => ?_
     go_simp
     refine hK.out _ _ bw (fun _ => ?_)
     clear hK K
     try simp only [Act.put, sA, sZ, sS]
     refine rd1 8 (by kernel_rfl) rfl fun K hK => ?_
     go_simp
     refine hK.out _ _ bw (fun _ => ?_)
     clear hK K
     try simp only [Act.put, sA, sZ, sS]
     refine rd1 9 (by kernel_rfl) rfl fun K hK => ?_
     go_simp
     refine hK.out _ _ bw (fun _ => ?_)
     clear hK K
     try simp only [Act.put, sA, sZ, sS]
     refine rd1 10 (by kernel_rfl) rfl fun K hK => ?_
     go_simp
     refine hK.out _ _ bw (fun _ => ?_)
     clear hK K
     try simp only [Act.put, sA, sZ, sS]
     refine tk 12 (.int .i64 0) rfl (by kernel_rfl) (fun _ _ _ h => h) (by rfl) ?_ bw ?_
     ·intro ww hS
      clear hS
      go_simp
      try first | (with_reducible rfl) | rfl
     try simp only [Act.put, sA]
     refine tk 11 (dyV q.1 a5 n5 c5 q.2.2) rfl (by kernel_rfl) (fun _ _ _ h => h) (by rfl) ?_ bw ?_
     ·intro ww hS
      have q0 := kC hS t0
      have q1 := kC hS t1
      have q2 := kC hS t2
      clear hS
      go_simp
      try first | (with_reducible rfl) | rfl
     try simp only [Act.put]
     refine rd1 13 (by kernel_rfl) rfl fun K hK => ?_
     go_simp
     refine cM (TC.out _) ?_
     rintro r wn ⟨_, rfl, ⟨a6, n6, c6, rfl, hn6, hO6⟩, bN⟩
     refine hK.out _ _ (nT bw bN) (fun _ => ?_)
     clear hK K
     replace bw := nT bw bN
     clear bN
     try simp only [Act.put, sA, sZ, sS]
     refine rd1 14 (by kernel_rfl) rfl fun K hK => ?_
     go_simp
     refine cM (OC2.out _ (hO5.1.keep bw) _ _ _ hO6.1 hn6) ?_
     rintro r wm ⟨rfl, bN⟩
     refine hK.out _ _ (nT bw bN) (fun _ => ?_)
     clear hK K
     replace bw := nT bw bN
     clear bN
     try simp only [Act.put, sA, sZ, sS]
     refine rd1 15 (by kernel_rfl) rfl fun K hK => ?_
     go_simp
     refine hK.out _ _ bw (fun _ => ?_)
     clear hK K
     try simp only [Act.put, sA, sZ, sS]
     refine rd1 16 (by kernel_rfl) rfl fun K hK => ?_
     go_simp
     refine hK.out _ _ bw (fun _ => ?_)
     clear hK K
     try simp only [Act.put, sA, sZ, sS]
     refine wpAnyH_done (by kernel_rfl) ?_ _
     clear hO6 TC OC2
     by_cases hJ : J = 0
     ·have eR : Hid _ := HY.out hJ
      clear HY HN
      subst hJ
      obtain ⟨bA, Z, t0, t1, t2⟩ := jkAZC3 bw bA Z t0 t1 t2
      clear bw hO5
      go_wp2_with fail
      refine cM (IQ.out _) ?_
      have lb8 := bA.size
      rintro r w8 ⟨_, rfl, ⟨a8, n8, c8, rfl, HN8, hO8⟩, b8⟩
      replace hO8 := hO8.low lb8
      obtain ⟨bA, Z, t0, t1, t2⟩ := jkAZC3 b8 bA Z t0 t1 t2
      clear b8 lb8
      go_wp2_with fail
      have hn8 : n8 ≤ 1024 := by have := HN8.out; have := LI.out; omega
      refine cM (TQ.out _ _ _ _ hO8.1 hn8) ?_
      have lb9 := bA.size
      rintro r w9 ⟨_, rfl, ⟨a9, n9, c9, rfl, HN9, hO9⟩, b9⟩
      replace hO9 := hO9.low lb9
      obtain ⟨bA, Z, t0, t1, t2⟩ := jkAZC3 b9 bA Z t0 t1 t2
      clear b9 lb9
      obtain ⟨z0, z1, z2, f0, f1, f2⟩ := Z
      go_wp2_with fail
      exact bodyPost_ret (v := .tuple #[dyV I.1 a9 n9 c9 I.2.2, .bool true]) (by simp [results, Tryz.results53, go_sem, z0, z1, z2]) rfl ⟨dyV I.1 a9 n9 c9 I.2.2, by rw [eR.out], by rw [eR.out]; exact dyE HN9 hO9 z0 z1 z2, bl3 bA (by omega)⟩
     ·have HH2 : Hid _ := HN.out hJ
      have hJ2 : (J == 0) = false := by simpa using hJ
      clear HY HN IQ TQ LI hO5
      go_wp2_with fail
      exact ⟨⟨0 + 1, by omega, by go_num, HH2, nT bR bw⟩, by first | (simp [intOf]; done) | (simp [intOf]; omega)⟩
    ·have HH2 : Hid (∀ j, j < i + 1 → ¬ hitB false q j = true) := fun j hj => by
      by_cases e : j = i
      ·rw [e]; exact hit_far h0
      ·exact HH.out j (by omega)
     have hz : (((i : Nat) : Int) == 0) = false := by simp; omega
     clear HH HR1 HR2
     go_wp2_with fail
     go_quiet (fail)
     have bQ : Below wr.heap.size wr (wr.drewN nq) := below_drewN (Below.refl _ _) nq
     go_wp2_with fail
     exact ⟨⟨i + 1, by omega, by go_num, HH2, nT bR bQ⟩, by first | (simp [intOf]; done) | (simp [intOf]; omega)⟩
   ·have eR : Hid _ := HR2.out fun j hj => HH.out j (by omega)
    clear HH HR1 HR2 hO5
    obtain ⟨z0, z1, z2, f0, f1, f2⟩ := Z
    go_wp2_with fail
    exact bodyPost_ret (v := .tuple #[dyV false none 0 0 0, .bool false]) (by simp [results, Tryz.results53, go_sem, z0, z1, z2]) rfl ⟨dyV false none 0 0 0, by rw [eR.out]; rfl, by rw [eR.out]; exact dyQ_zero _ _, bl3 bA (by omega)⟩
end Go.Proofs.YtiijfnaaekmpbaaGreatDoor

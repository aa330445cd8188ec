/- The document's constants: upper ends, quotients. -/
import Derived.Test.YtkkldnnndlpblaaGreatDoorCD3
namespace Go.Proofs.YtkkldnnndlpblaaGreatDoor
open Go.RowKit Ck

set_option maxRecDepth 100000 in
set_option maxHeartbeats 4000000 in
theorem fxHigh {a : Option Addr} {n c X : Nat} (ex : Nat) (w : World) (hX : IsW w a n c (wordsOf X)) (hn : n ≤ 1024) (g : greatB (X + ex) = false) (he : ex ≤ 18446744073709551615) :
    Calls Tryz.prog 51 #[.agg #[.slice a n c, .int .u64 (ex : Int)]] w fun r w' => ∃ (ao : Option Addr) (m d : Nat), r = .returned (.slice ao m d) ∧ m ≤ 1024 ∧ OwnW w.heap.size w' ao m d (wordsOf (X + ex)) ∧ Below w.heap.size w w' := by
  have bA := below_alloc w (.cells #[.slice a n c, .int .u64 (ex : Int)] 74)
  have hX1 := hX.keepB bA
  have FA : Hid (∀ W : World, W = w.alloc (.cells #[.slice a n c, .int .u64 (ex : Int)] 74) → W.cell? ⟨w.heap.size, 0, none⟩ = some (.slice a n c) ∧ W.cell? ⟨w.heap.size, 1, none⟩ = some (.int .u64 (ex : Int))) := fun W hW => by
    subst hW
    exact ⟨by go_simp, by go_simp⟩
  obtain ⟨q0, q1⟩ := FA.out _ rfl
  clear FA hX
  go_enter Tryz.func51, Tryz.ntmps51
  go_wp2_with fail
  generalize w.alloc (.cells #[.slice a n c, .int .u64 (ex : Int)] 74) = v at *
  generalize hB : w.heap.size = B at *
  have bD : Below v.heap.size v v.drew := (Below.refl _ _).drew
  refine wp_region_held (S := fun w' => Ks (fun _ => False) v w') (by kernel_rfl) ?_
  change wpAnyH _ _ _ _ _ _ _ _ (World.drew v)
  generalize World.drew v = wd0 at bD ⊢
  refine wpAnyH_take (i := 0) (v := .pointer (some ⟨B, 0, none⟩)) rfl (by kernel_rfl) (by kernel_rfl) (by kernel_rfl) (fun _ _ _ h => h) (Or.inl ⟨by rfl, ?y0⟩) (Ks.of_below bD) ?r0
  case y0 =>
    intro ww hS
    clear hS
    go_simp
    try first | (with_reducible rfl) | rfl
  try simp only [Act.put, List.setIfInBounds_toArray]
  refine wpAnyH_take (i := 1) (v := .slice a n c) rfl (by kernel_rfl) (by kernel_rfl) (by kernel_rfl) (fun _ _ _ h => h) (Or.inl ⟨by rfl, ?y1⟩) (Ks.of_below bD) ?r1
  case y1 =>
    intro ww hS
    have g0 := hS.cell q0 (fun e => e)
    clear hS
    go_simp
    try first | (with_reducible rfl) | rfl
  try simp only [Act.put]
  refine wpAnyH_take (i := 2) (v := .pointer (some ⟨B, 1, none⟩)) rfl (by kernel_rfl) (by kernel_rfl) (by kernel_rfl) (fun _ _ _ h => h) (Or.inl ⟨by rfl, ?y2⟩) (Ks.of_below bD) ?r2
  case y2 =>
    intro ww hS
    clear hS
    go_simp
    try first | (with_reducible rfl) | rfl
  try simp only [Act.put]
  refine wpAnyH_take (i := 3) (v := .int .u64 (ex : Int)) rfl (by kernel_rfl) (by kernel_rfl) (by kernel_rfl) (fun _ _ _ h => h) (Or.inl ⟨by rfl, ?y3⟩) (Ks.of_below bD) ?r3
  case y3 =>
    intro ww hS
    have g0 := hS.cell q1 (fun e => e)
    clear hS
    go_simp
    try first | (with_reducible rfl) | rfl
  try simp only [Act.put]
  refine wpAnyH_ready (rs := [4]) (by kernel_rfl) (by simp) ?_
  refine AllReadyH.cons rfl (fun K hK => ?_) AllReadyH.nil
  go_simp
  refine Calls.mono (dOf_eq ex rfl he) ?_
  rintro r v4 ⟨a4, m4, c4, rfl, hm4, hO4, bN⟩
  have zz4 := bD.size
  replace bD := below_trans bD bN
  refine hK.out _ _ (Ks.of_below bD) (fun _ => ?_)
  clear hK K bN
  try simp only [Act.put, List.setIfInBounds_toArray, List.set_cons_zero, List.set_cons_succ]
  refine wpAnyH_ready (rs := [5]) (by kernel_rfl) (by simp) ?_
  refine AllReadyH.cons rfl (fun K hK => ?_) AllReadyH.nil
  go_simp
  refine Calls.mono (dAdd_eq (hX1.keepB bD) hO4.1 hn hm4 g) ?_
  rintro r v5 ⟨ao, m, d, rfl, hm, hO, bN⟩
  have zz5 := bD.size
  replace bD := below_trans bD bN
  refine hK.out _ _ (Ks.of_below bD) (fun _ => ?_)
  clear hK K bN
  try simp only [Act.put, List.setIfInBounds_toArray, List.set_cons_zero, List.set_cons_succ]
  clear hO4
  refine wpAnyH_ready (rs := [6]) (by kernel_rfl) (by simp) ?_
  refine AllReadyH.cons rfl (fun K hK => ?_) AllReadyH.nil
  go_simp
  refine hK.out _ _ (Ks.of_below bD) (fun _ => ?_)
  clear hK K
  try simp only [Act.put, List.setIfInBounds_toArray, List.set_cons_zero, List.set_cons_succ]
  refine wpAnyH_done (by kernel_rfl) ?_ _
  go_wp2_with fail
  go_ret
  subst hB
  have := bA.size
  exact ⟨ao, m, d, rfl, hm, hO.low (by omega), bA.trans (bD.mono (by omega))⟩

set_option maxRecDepth 100000 in
set_option maxHeartbeats 4000000 in
theorem fxBetween {a a' : Option Addr} {n c X n' c' Y : Nat} (w : World) (hX : IsW w a n c (wordsOf X)) (hn : n ≤ 1024) (hY : IsW w a' n' c' (wordsOf Y)) (hn' : n' ≤ 1024) (hle : X ≤ Y) (g : greatB Y = false) (hs : Y - X < 18446744073709551616) :
    Calls Tryz.prog 117 #[.slice a n c, .slice a' n' c'] w fun r w' => ∃ e : Nat, r = .returned (.agg #[.slice a n c, .int .u64 (e : Int)]) ∧ Hid (e = Y - X) ∧ Below w.heap.size w w' := by
  have bA := below_alloc w (.cells #[.slice none 0 0, .int .u64 0] 74)
  have C := fx_zero (fun k => k = w.heap.size) w.heap.size w
  have hX1 := hX.keepB bA
  have hY1 := hY.keepB bA
  clear hX hY
  go_enter Tryz.func117, Tryz.ntmps117
  go_wp2_with fail
  have CB := C.lt
  generalize w.alloc (.cells #[.slice none 0 0, .int .u64 0] 74) = v at *
  refine Calls.mono (dSub_eq hY1 hX1 hn' hn g hle) ?_
  rintro r w1 ⟨a1, m1, c1, rfl, hm1, hO1, b1⟩
  obtain ⟨D, hD⟩ : ∃ D, D = Y - X := ⟨_, rfl⟩
  rw [← hD] at hO1 hs
  have HD : Hid _ := hD
  clear hD hX1 hY1 hle
  obtain ⟨a0, n0, c0, z0, f0, z1, f1, -⟩ := C.keepB b1
  have bz := b1.size
  by_cases h0 : m1 = 0
  · subst h0
    have hD0 : D = 0 := (words_len0 hO1.1.1).1 rfl
    clear hO1
    go_wp2_with fail
    have KF := ks_two (fun k => k = w.heap.size) w1 w.heap.size rfl (.slice a n c) (.int .u64 ((0 : Nat) : Int))
    refine bodyPost_ret (v := .agg #[.slice a n c, .int .u64 ((0 : Nat) : Int)]) (by simp [results, Tryz.results117, go_sem, z0, z1]) rfl ⟨0, rfl, (by show 0 = _; rw [← HD.out, hD0]), ?_⟩
    exact (bA.trans (b1.mono (by omega))).trans (KF.below w.heap.size (by omega) (fun b (e : b = w.heap.size) => by omega))
  · have hDp : D ≠ 0 := fun e => h0 ((words_len0 hO1.1.1).2 e)
    have hw : wordsOf D = [(D : Int)] := by
      rw [words_pos D hDp, Nat.mod_eq_of_lt hs, Nat.div_eq_of_lt hs, words_zero]
    rw [hw] at hO1
    have hm : m1 = 1 := hO1.1.1
    subst hm
    obtain ⟨b, off, rfl, -, q0⟩ := hO1.1.2.2.2 0 (by decide)
    have q1 : w1.cell? ⟨b, off, none⟩ = some (.int .u64 (D : Int)) := q0
    clear hO1 q0 hw
    go_wp2_with fail
    have KF := ks_two (fun k => k = w.heap.size) w1 w.heap.size rfl (.slice a n c) (.int .u64 (D : Int))
    refine bodyPost_ret (v := .agg #[.slice a n c, .int .u64 (D : Int)]) (by simp [results, Tryz.results117, go_sem, z0, z1]) rfl ⟨D, rfl, HD, ?_⟩
    exact (bA.trans (b1.mono (by omega))).trans (KF.below w.heap.size (by omega) (fun b (e : b = w.heap.size) => by omega))

set_option maxRecDepth 100000 in
set_option maxHeartbeats 4000000 in
theorem fxDiv {a a' : Option Addr} {n c X n' c' Y : Nat} (ex ey q lo hi : Nat) (w : World) (hX : IsW w a n c (wordsOf X)) (hn : n ≤ 1024) (hY : IsW w a' n' c' (wordsOf Y)) (hn' : n' ≤ 1024) (hq : q ≤ 65536) (hex : ex < 4294967296) (hey : ey < 4294967296)
    (g1 : greatB ((X + ex) * 2 ^ q + 1) = false) (g2 : greatB (Y + ey) = false) (gX : greatB (X + ex) = false) (hY0 : Y ≠ 0) (hlo : lo = X * 2 ^ q / (Y + ey)) (hhi : hi = (X + ex) * 2 ^ q / Y + (if (X + ex) * 2 ^ q % Y = 0 then 0 else 1)) (hle : lo ≤ hi) (hs : hi - lo < 18446744073709551616) :
    Calls Tryz.prog 76 #[.agg #[.slice a n c, .int .u64 (ex : Int)], .agg #[.slice a' n' c', .int .u64 (ey : Int)], .int .i64 (q : Int)] w fun r w' => ∃ (ao : Option Addr) (m d e : Nat), r = .returned (.agg #[.slice ao m d, .int .u64 (e : Int)]) ∧ Hid (e = hi - lo) ∧ m ≤ 1024 ∧ OwnW w.heap.size w' ao m d (wordsOf lo) ∧ Below w.heap.size w w' := by
  have gA : greatB ((X + ex) * 2 ^ q) = false := great_mono (Nat.le_succ _) g1
  have gB : greatB (X * 2 ^ q) = false := great_mono (Nat.mul_le_mul_right _ (Nat.le_add_right _ _)) gA
  have hYe : Y + ey ≠ 0 := by omega
  have gH : greatB hi = false := by
    rw [hhi]
    refine great_mono ?_ g1
    have := Nat.div_le_self ((X + ex) * 2 ^ q) Y
    split <;> omega
  have GS : Hid (greatB ((X + ex) * 2 ^ q) = false ∧ greatB (X * 2 ^ q) = false ∧ greatB hi = false) := ⟨gA, gB, gH⟩
  have HH : Hid (lo = X * 2 ^ q / (Y + ey) ∧ hi = (X + ex) * 2 ^ q / Y + (if (X + ex) * 2 ^ q % Y = 0 then 0 else 1)) := ⟨hlo, hhi⟩
  have HS : Hid (lo ≤ hi ∧ hi - lo < 18446744073709551616 ∧ Y ≠ 0 ∧ Y + ey ≠ 0 ∧ greatB (Y + ey) = false ∧ greatB (X + ex) = false) := ⟨hle, hs, hY0, hYe, g2, gX⟩
  clear hlo hhi gA gB gH g1 hle hs hY0 hYe g2 gX
  have bA := below_trans (below_trans (below_alloc w (.cells #[.slice a n c, .int .u64 (ex : Int)] 74)) (below_alloc (w.alloc (.cells #[.slice a n c, .int .u64 (ex : Int)] 74)) (.cells #[.slice a' n' c', .int .u64 (ey : Int)] 74))) (below_alloc ((w.alloc (.cells #[.slice a n c, .int .u64 (ex : Int)] 74)).alloc (.cells #[.slice a' n' c', .int .u64 (ey : Int)] 74)) (.cells #[.slice none 0 0, .int .u64 0] 74))
  have hX1 := hX.keepB bA
  have hY1 := hY.keepB bA
  have FA : Hid (∀ W : World, W = ((w.alloc (.cells #[.slice a n c, .int .u64 (ex : Int)] 74)).alloc (.cells #[.slice a' n' c', .int .u64 (ey : Int)] 74)).alloc (.cells #[.slice none 0 0, .int .u64 0] 74) → W.cell? ⟨w.heap.size, 0, none⟩ = some (.slice a n c) ∧ W.cell? ⟨w.heap.size, 1, none⟩ = some (.int .u64 (ex : Int)) ∧ W.cell? ⟨w.heap.size + 1, 0, none⟩ = some (.slice a' n' c') ∧ W.cell? ⟨w.heap.size + 1, 1, none⟩ = some (.int .u64 (ey : Int)) ∧ (W.cell? ⟨w.heap.size + 2, 0, none⟩ = some (.slice none 0 0) ∧ W.frozen? ⟨w.heap.size + 2, 0, none⟩ = false) ∧ (W.cell? ⟨w.heap.size + 2, 1, none⟩ = some (.int .u64 0) ∧ W.frozen? ⟨w.heap.size + 2, 1, none⟩ = false)) := fun W hW => by
    subst hW
    exact ⟨by go_simp, by go_simp, by go_simp, by go_simp, ⟨by go_simp, by go_simp⟩, ⟨by go_simp, by go_simp⟩⟩
  obtain ⟨q0, q1, p0, p1, ⟨z0, f0⟩, ⟨z1, f1⟩⟩ := FA.out _ rfl
  clear FA hX hY
  go_enter Tryz.func76, Tryz.ntmps76
  go_wp2_with fail
  generalize ((w.alloc (.cells #[.slice a n c, .int .u64 (ex : Int)] 74)).alloc (.cells #[.slice a' n' c', .int .u64 (ey : Int)] 74)).alloc (.cells #[.slice none 0 0, .int .u64 0] 74) = v at *
  have hz : w.heap.size + 2 < v.heap.size := World.block_lt_of_cell? _ _ z0
  have HZ : Hid _ := hz
  clear hz
  generalize hB : w.heap.size = B at *
  have bD : Below v.heap.size v v.drew := (Below.refl _ _).drew
  refine wp_region_held (S := fun w' => Ks (fun _ => False) v w') (by kernel_rfl) ?_
  change wpAnyH _ _ _ _ _ _ _ _ (World.drew v)
  generalize World.drew v = wd0 at bD ⊢
  refine wpAnyH_take (i := 0) (v := .pointer (some ⟨B, 0, none⟩)) rfl (by kernel_rfl) (by kernel_rfl) (by kernel_rfl) (fun _ _ _ h => h) (Or.inl ⟨by rfl, ?y0⟩) (Ks.of_below bD) ?r0
  case y0 =>
    intro ww hS
    clear hS
    go_simp
    try first | (with_reducible rfl) | rfl
  try simp only [Act.put, List.setIfInBounds_toArray]
  refine wpAnyH_take (i := 1) (v := .slice a n c) rfl (by kernel_rfl) (by kernel_rfl) (by kernel_rfl) (fun _ _ _ h => h) (Or.inl ⟨by rfl, ?y1⟩) (Ks.of_below bD) ?r1
  case y1 =>
    intro ww hS
    have g0 := hS.cell q0 (fun e => e)
    clear hS
    go_simp
    try first | (with_reducible rfl) | rfl
  try simp only [Act.put]
  refine wpAnyH_take (i := 2) (v := .int .i64 (q : Int)) rfl (by kernel_rfl) (by kernel_rfl) (by kernel_rfl) (fun _ _ _ h => h) (Or.inl ⟨by rfl, ?y2⟩) (Ks.of_below bD) ?r2
  case y2 =>
    intro ww hS
    clear hS
    go_simp
    try first | (with_reducible rfl) | rfl
  try simp only [Act.put]
  refine wpAnyH_take (i := 4) (v := .agg #[.slice a' n' c', .int .u64 (ey : Int)]) rfl (by kernel_rfl) (by kernel_rfl) (by kernel_rfl) (fun _ _ _ h => h) (Or.inl ⟨by rfl, ?y4⟩) (Ks.of_below bD) ?r4
  case y4 =>
    intro ww hS
    have g0 := hS.cell p0 (fun e => e)
    have g1 := hS.cell p1 (fun e => e)
    clear hS
    go_simp
    try first | (with_reducible rfl) | rfl
  try simp only [Act.put]
  refine wpAnyH_ready (rs := [3]) (by kernel_rfl) (by simp) ?_
  refine AllReadyH.cons rfl (fun K hK => ?_) AllReadyH.nil
  go_simp
  refine Calls.mono (dShl_eq (hX1.keepB bD) hn hq GS.out.2.1) ?_
  rintro r v3 ⟨a3, m3, c3, rfl, hm3, hO3, bN⟩
  have zz3 := bD.size
  replace bD := below_trans bD bN
  refine hK.out _ _ (Ks.of_below bD) (fun _ => ?_)
  clear hK K bN
  try simp only [Act.put, List.setIfInBounds_toArray, List.set_cons_zero, List.set_cons_succ]
  refine wpAnyH_ready (rs := [5]) (by kernel_rfl) (by simp) ?_
  refine AllReadyH.cons rfl (fun K hK => ?_) AllReadyH.nil
  go_simp
  refine Calls.mono (fxHigh ey _ (hY1.keepB bD) hn' HS.out.2.2.2.2.1 (by omega)) ?_
  rintro r v5 ⟨a5, m5, c5, rfl, hm5, hO5, bN⟩
  have zz5 := bD.size
  replace bD := below_trans bD bN
  refine hK.out _ _ (Ks.of_below bD) (fun _ => ?_)
  have K3 := hO3.1.keepB bN
  clear hK K bN
  try simp only [Act.put, List.setIfInBounds_toArray, List.set_cons_zero, List.set_cons_succ]
  refine wpAnyH_ready (rs := [6]) (by kernel_rfl) (by simp) ?_
  refine AllReadyH.cons rfl (fun K hK => ?_) AllReadyH.nil
  go_simp
  refine Calls.mono (dDiv_eq K3 hO5.1 hm3 hm5 GS.out.2.1 HS.out.2.2.2.1) ?_
  rintro r v6 ⟨a6, m6, c6, a7, m7, c7, rfl, hm6, hO6, hm7, hO7, bN⟩
  have zz6 := bD.size
  replace bD := below_trans bD bN
  refine hK.out _ _ (Ks.of_below bD) (fun _ => ?_)
  clear hK K bN
  try simp only [Act.put, List.setIfInBounds_toArray, List.set_cons_zero, List.set_cons_succ]
  clear hO3 hO5 K3 hO7 hm7
  refine wpAnyH_take (i := 7) (v := .tuple #[.slice a6 m6 c6, .slice a7 m7 c7]) rfl (by kernel_rfl) (by kernel_rfl) (by kernel_rfl) (fun _ _ _ h => h) (Or.inl ⟨by rfl, ?y7⟩) (Ks.of_below bD) ?r7
  case y7 =>
    intro ww hS
    clear hS
    go_simp
    try first | (with_reducible rfl) | rfl
  try simp only [Act.put, List.setIfInBounds_toArray]
  refine wpAnyH_take (i := 8) (v := .slice a6 m6 c6) rfl (by kernel_rfl) (by kernel_rfl) (by kernel_rfl) (fun _ _ _ h => h) (Or.inl ⟨by rfl, ?y8⟩) (Ks.of_below bD) ?r8
  case y8 =>
    intro ww hS
    clear hS
    go_simp
    try first | (with_reducible rfl) | rfl
  try simp only [Act.put]
  refine wpAnyH_take (i := 9) (v := .slice a7 m7 c7) rfl (by kernel_rfl) (by kernel_rfl) (by kernel_rfl) (fun _ _ _ h => h) (Or.inl ⟨by rfl, ?y9⟩) (Ks.of_below bD) ?r9
  case y9 =>
    intro ww hS
    clear hS
    go_simp
    try first | (with_reducible rfl) | rfl
  try simp only [Act.put]
  refine wpAnyH_ready (rs := [10]) (by kernel_rfl) (by simp) ?_
  refine AllReadyH.cons rfl (fun K hK => ?_) AllReadyH.nil
  go_simp
  refine hK.out _ _ (Ks.of_below bD) (fun _ => ?_)
  clear hK K
  try simp only [Act.put, List.setIfInBounds_toArray, List.set_cons_zero, List.set_cons_succ]
  refine wpAnyH_ready (rs := [11]) (by kernel_rfl) (by simp) ?_
  refine AllReadyH.cons rfl (fun K hK => ?_) AllReadyH.nil
  go_simp
  refine hK.out _ _ (Ks.of_below bD) (fun _ => ?_)
  clear hK K
  try simp only [Act.put, List.setIfInBounds_toArray, List.set_cons_zero, List.set_cons_succ]
  refine wpAnyH_done (by kernel_rfl) ?_ _
  go_wp2_with fail
  rw [← HH.out.1] at hO6
  replace f0 := fKeep bD z0 f0
  replace f1 := fKeep bD z1 f1
  replace z0 := cKeep bD z0
  replace z1 := cKeep bD z1
  replace q0 := cKeep bD q0
  replace q1 := cKeep bD q1
  replace p0 := cKeep bD p0
  replace p1 := cKeep bD p1
  replace hX1 := hX1.keepB bD
  replace hY1 := hY1.keepB bD
  have HB1 : Hid _ := And.intro bD zz6
  clear bD zz3 zz5 zz6
  have bD : Below v6.heap.size v6 v6.drew := (Below.refl _ _).drew
  refine wp_region_held (S := fun w' => Ks (fun _ => False) v6 w') (by kernel_rfl) ?_
  change wpAnyH _ _ _ _ _ _ _ _ (World.drew v6)
  generalize World.drew v6 = wd0 at bD ⊢
  refine wpAnyH_take (i := 0) (v := .agg #[.slice a n c, .int .u64 (ex : Int)]) rfl (by kernel_rfl) (by kernel_rfl) (by kernel_rfl) (fun _ _ _ h => h) (Or.inl ⟨by rfl, ?yz0⟩) (Ks.of_below bD) ?rz0
  case yz0 =>
    intro ww hS
    have g0 := hS.cell q0 (fun e => e)
    have g1 := hS.cell q1 (fun e => e)
    clear hS
    go_simp
    try first | (with_reducible rfl) | rfl
  try simp only [Act.put, List.setIfInBounds_toArray]
  refine wpAnyH_take (i := 2) (v := .int .i64 (q : Int)) rfl (by kernel_rfl) (by kernel_rfl) (by kernel_rfl) (fun _ _ _ h => h) (Or.inl ⟨by rfl, ?yz2⟩) (Ks.of_below bD) ?rz2
  case yz2 =>
    intro ww hS
    clear hS
    go_simp
    try first | (with_reducible rfl) | rfl
  try simp only [Act.put]
  refine wpAnyH_take (i := 4) (v := .pointer (some ⟨B + 1, 0, none⟩)) rfl (by kernel_rfl) (by kernel_rfl) (by kernel_rfl) (fun _ _ _ h => h) (Or.inl ⟨by rfl, ?yz4⟩) (Ks.of_below bD) ?rz4
  case yz4 =>
    intro ww hS
    clear hS
    go_simp
    try first | (with_reducible rfl) | rfl
  try simp only [Act.put]
  refine wpAnyH_take (i := 5) (v := .slice a' n' c') rfl (by kernel_rfl) (by kernel_rfl) (by kernel_rfl) (fun _ _ _ h => h) (Or.inl ⟨by rfl, ?yz5⟩) (Ks.of_below bD) ?rz5
  case yz5 =>
    intro ww hS
    have g0 := hS.cell p0 (fun e => e)
    clear hS
    go_simp
    try first | (with_reducible rfl) | rfl
  try simp only [Act.put]
  refine wpAnyH_ready (rs := [1]) (by kernel_rfl) (by simp) ?_
  refine AllReadyH.cons rfl (fun K hK => ?_) AllReadyH.nil
  go_simp
  refine Calls.mono (fxHigh ex _ (hX1.keepB bD) hn HS.out.2.2.2.2.2 (by omega)) ?_
  rintro r v1 ⟨a8, m8, c8, rfl, hm8, hO8, bN⟩
  have zz1 := bD.size
  replace bD := below_trans bD bN
  refine hK.out _ _ (Ks.of_below bD) (fun _ => ?_)
  clear hK K bN
  try simp only [Act.put, List.setIfInBounds_toArray, List.set_cons_zero, List.set_cons_succ]
  refine wpAnyH_ready (rs := [3]) (by kernel_rfl) (by simp) ?_
  refine AllReadyH.cons rfl (fun K hK => ?_) AllReadyH.nil
  go_simp
  refine Calls.mono (dShl_eq hO8.1 hm8 hq GS.out.1) ?_
  rintro r v3 ⟨a9, m9, c9, rfl, hm9, hO9, bN⟩
  have zz3 := bD.size
  replace bD := below_trans bD bN
  refine hK.out _ _ (Ks.of_below bD) (fun _ => ?_)
  clear hK K bN
  try simp only [Act.put, List.setIfInBounds_toArray, List.set_cons_zero, List.set_cons_succ]
  clear hO8
  refine wpAnyH_ready (rs := [6]) (by kernel_rfl) (by simp) ?_
  refine AllReadyH.cons rfl (fun K hK => ?_) AllReadyH.nil
  go_simp
  refine Calls.mono (dDiv_eq hO9.1 (hY1.keepB bD) hm9 hn' GS.out.1 HS.out.2.2.1) ?_
  rintro r u6 ⟨b6, k6, d6, b7, k7, d7, rfl, hk6, hP6, hk7, hP7, bN⟩
  have zz6 := bD.size
  replace bD := below_trans bD bN
  refine hK.out _ _ (Ks.of_below bD) (fun _ => ?_)
  clear hK K bN
  try simp only [Act.put, List.setIfInBounds_toArray, List.set_cons_zero, List.set_cons_succ]
  have HK7 : Hid _ := hk7
  clear hO9 hk7
  refine wpAnyH_take (i := 7) (v := .tuple #[.slice b6 k6 d6, .slice b7 k7 d7]) rfl (by kernel_rfl) (by kernel_rfl) (by kernel_rfl) (fun _ _ _ h => h) (Or.inl ⟨by rfl, ?yz7⟩) (Ks.of_below bD) ?rz7
  case yz7 =>
    intro ww hS
    clear hS
    go_simp
    try first | (with_reducible rfl) | rfl
  try simp only [Act.put, List.setIfInBounds_toArray]
  refine wpAnyH_take (i := 8) (v := .slice b6 k6 d6) rfl (by kernel_rfl) (by kernel_rfl) (by kernel_rfl) (fun _ _ _ h => h) (Or.inl ⟨by rfl, ?yz8⟩) (Ks.of_below bD) ?rz8
  case yz8 =>
    intro ww hS
    clear hS
    go_simp
    try first | (with_reducible rfl) | rfl
  try simp only [Act.put]
  refine wpAnyH_take (i := 9) (v := .slice b7 k7 d7) rfl (by kernel_rfl) (by kernel_rfl) (by kernel_rfl) (fun _ _ _ h => h) (Or.inl ⟨by rfl, ?yz9⟩) (Ks.of_below bD) ?rz9
  case yz9 =>
    intro ww hS
    clear hS
    go_simp
    try first | (with_reducible rfl) | rfl
  try simp only [Act.put]
  refine wpAnyH_ready (rs := [10]) (by kernel_rfl) (by simp) ?_
  refine AllReadyH.cons rfl (fun K hK => ?_) AllReadyH.nil
  go_simp
  refine hK.out _ _ (Ks.of_below bD) (fun _ => ?_)
  clear hK K
  try simp only [Act.put, List.setIfInBounds_toArray, List.set_cons_zero, List.set_cons_succ]
  refine wpAnyH_ready (rs := [11]) (by kernel_rfl) (by simp) ?_
  refine AllReadyH.cons rfl (fun K hK => ?_) AllReadyH.nil
  go_simp
  refine hK.out _ _ (Ks.of_below bD) (fun _ => ?_)
  clear hK K
  try simp only [Act.put, List.setIfInBounds_toArray, List.set_cons_zero, List.set_cons_succ]
  refine wpAnyH_done (by kernel_rfl) ?_ _
  replace f0 := fKeep bD z0 f0
  replace f1 := fKeep bD z1 f1
  replace z0 := cKeep bD z0
  replace z1 := cKeep bD z1
  have hL := hO6.keep bD
  clear q0 q1 p0 p1 hX1 hY1 hO6 hP7
  have bz := bD.size
  by_cases h0 : k7 = 0
  · have hr : (X + ex) * 2 ^ q % Y = 0 := (words_len0 HK7.out).1 h0
    have hh : (X + ex) * 2 ^ q / Y = hi := by rw [HH.out.2, if_pos hr, Nat.add_zero]
    rw [hh] at hP6
    subst h0
    clear hr hh HK7
    go_wp2_with fail
    refine Calls.mono (fxBetween u6 hL.1 hm6 hP6.1 hk6 HS.out.1 GS.out.2.2 HS.out.2.1) ?_
    rintro r w9 ⟨e, rfl, he, b9⟩
    replace f0 := fKeep b9 z0 f0
    replace f1 := fKeep b9 z1 f1
    replace z0 := cKeep b9 z0
    replace z1 := cKeep b9 z1
    have hL2 := hL.keep b9
    go_wp2_with fail
    have KF := ks_two (fun k => k = B + 2) w9 (B + 2) rfl (.slice a6 m6 c6) (.int .u64 (e : Int))
    subst hB
    have hz := HZ.out
    have y1 := HB1.out.2
    have b9z := b9.size
    refine bodyPost_ret (v := .agg #[.slice a6 m6 c6, .int .u64 (e : Int)]) (by simp [results, Tryz.results76, go_sem, z0, z1]) rfl ⟨a6, m6, c6, e, rfl, he, hm6, ?_, ?_⟩
    · have hO2 := hL2.keepS (S := fun k => k = w.heap.size + 2) (hL2.nw.noS (fun b (e : b = w.heap.size + 2) => by omega)) KF
      exact hO2.low (by omega)
    · exact (((bA.trans (HB1.out.1.mono (by omega))).trans (bD.mono (by have := HB1.out.1.size; omega))).trans (b9.mono (by have := HB1.out.1.size; omega))).trans (KF.below w.heap.size (by have := HB1.out.1.size; omega) (fun b (e : b = w.heap.size + 2) => by omega))
  · have hr : (X + ex) * 2 ^ q % Y ≠ 0 := fun e => h0 ((words_len0 HK7.out).2 e)
    have hh : (X + ex) * 2 ^ q / Y + 1 = hi := by rw [HH.out.2, if_neg hr]
    have hn0 : ¬ ((k7 : Int) = 0) := by omega
    have gh := GS.out.2.2
    rw [← hh] at gh
    have GH : Hid _ := gh
    have HHH : Hid _ := hh
    clear gh hr hh HK7
    go_wp2_with fail
    refine Calls.mono (dOf_eq 1 rfl (by decide)) ?_
    rintro r w7 ⟨a8, m8, c8, rfl, hm8, hO8, b7⟩
    have PA : Hid _ := dAdd_eq (w := w7) (hP6.1.keepB b7) hO8.1 hk6 hm8 GH.out
    go_wp2_with fail
    refine Calls.mono PA.out ?_
    rintro r w8 ⟨a9, m9, c9, rfl, hm9, hO9, b8⟩
    clear PA
    rw [HHH.out] at hO9
    have b78 := below_trans b7 b8
    have PB : Hid _ := fxBetween w8 ((hL.keep b78).1) hm6 hO9.1 hm9 HS.out.1 GS.out.2.2 HS.out.2.1
    go_wp2_with fail
    refine Calls.mono PB.out ?_
    rintro r w9 ⟨e, rfl, he, b9'⟩
    have b9 := below_trans b78 b9'
    replace f0 := fKeep b9 z0 f0
    replace f1 := fKeep b9 z1 f1
    replace z0 := cKeep b9 z0
    replace z1 := cKeep b9 z1
    have hL2 := hL.keep b9
    go_wp2_with fail
    have KF := ks_two (fun k => k = B + 2) w9 (B + 2) rfl (.slice a6 m6 c6) (.int .u64 (e : Int))
    subst hB
    have hz := HZ.out
    have y1 := HB1.out.2
    have b9z := b9.size
    refine bodyPost_ret (v := .agg #[.slice a6 m6 c6, .int .u64 (e : Int)]) (by simp [results, Tryz.results76, go_sem, z0, z1]) rfl ⟨a6, m6, c6, e, rfl, he, hm6, ?_, ?_⟩
    · have hO2 := hL2.keepS (S := fun k => k = w.heap.size + 2) (hL2.nw.noS (fun b (e : b = w.heap.size + 2) => by omega)) KF
      exact hO2.low (by omega)
    · exact (((bA.trans (HB1.out.1.mono (by omega))).trans (bD.mono (by have := HB1.out.1.size; omega))).trans (b9.mono (by have := HB1.out.1.size; omega))).trans (KF.below w.heap.size (by have := HB1.out.1.size; omega) (fun b (e : b = w.heap.size + 2) => by omega))
end Go.Proofs.YtkkldnnndlpblaaGreatDoor

/- Package exact: exponents, less 1, of 1 more. -/
import Derived.Test.YtiijfnaaekmpbaaGreatDoorALX
import Derived.Test.YtiijfnaaekmpbaaGreatDoorCR
import Derived.Test.YtiijfnaaekmpbaaGreatDoorEC5
import Derived.Test.YtiijfnaaekmpbaaGreatDoorFX
namespace Go.Proofs.YtiijfnaaekmpbaaGreatDoor
open Go.RowKit
set_option maxHeartbeats 4000000
set_option maxRecDepth 100000
theorem to_ok (O : Nat) (k : Int) (ho : O % 2 = 1) (hg : greatB (O ^ k.toNat) = false) (h1 : -20000 ≤ k) (h2 : k ≤ 20000) : OkE (toP O k) := by
 refine ⟨to_can O ho k, ?_⟩
 show rightB (O ^ k.toNat) k = true
 unfold rightB
 rw [hg, show inB k = true from decide_eq_true ⟨by omega, by omega⟩]
 rfl
theorem subE (p q : E3) (a : Option Addr) (n c : Nat) (b : Option Addr) (m d : Nat) (w : World) (h : IsW w a n c (wO p.2.1)) (hn : n ≤ 1024) (k : IsW w b m d (wO q.2.1)) (hm : m ≤ 1024) (hp : OkE p) (hq : OkE q) (hT : Tab w) :
  Calls Tryz.prog 76 #[dyV p.1 a n c p.2.2, dyV q.1 b m d q.2.2] w fun r w' => ∃ v', r = .returned (.tuple #[v', .int .i64 (roomE (sumD p (negD q)))]) ∧ DyAt w.heap.size w' v' (roomP (sumD p (negD q))) ∧ Below w.heap.size w w' := by
 have H := dsub_yes p.1 a n c (wO p.2.1) p.2.2 q.1 b m d (wO q.2.1) q.2.2 w h (by omega) k (by omega) hT (by rw [val_words]; exact hp.2) (by rw [val_words]; exact hq.2)
 rw [val_words, val_words, hp.form, hq.form] at H
 exact H
theorem addE (p q : E3) (a : Option Addr) (n c : Nat) (b : Option Addr) (m d : Nat) (w : World) (h : IsW w a n c (wO p.2.1)) (hn : n ≤ 1024) (k : IsW w b m d (wO q.2.1)) (hm : m ≤ 1024) (hp : OkE p) (hq : OkE q) (hT : Tab w) :
  Calls Tryz.prog 81 #[dyV p.1 a n c p.2.2, dyV q.1 b m d q.2.2] w fun r w' => ∃ v', r = .returned (.tuple #[v', .int .i64 (roomE (sumD p q))]) ∧ DyAt w.heap.size w' v' (roomP (sumD p q)) ∧ Below w.heap.size w w' := by
 have H := dadd_yes p.1 a n c (wO p.2.1) p.2.2 q.1 b m d (wO q.2.1) q.2.2 w h (by omega) k (by omega) hT (by rw [val_words]; exact hp.2) (by rw [val_words]; exact hq.2)
 rw [val_words, val_words, hp.form, hq.form] at H
 exact H
theorem eExponent_calls (p : E3) (a : Option Addr) (n c : Nat) (O : Nat) (l m : Int) (w : World) (h : IsW w a n c (wO p.2.1)) (hn : n ≤ 1024) (hp : OkE p) (hT : TabE w) (hl : -16384 ≤ l) (hm : m ≤ 16384) (hO : O ≤ 18446744073709551615) (ho : O % 2 = 1) (hg1 : greatB O = false) (hg2 : ∀ k : Int, k ≤ m → greatB (O ^ k.toNat) = false) :
  Calls Tryz.prog 38 #[.agg #[.int .u64 (O : Int), .int .i64 l, .int .i64 m], dyV p.1 a n c p.2.2] w fun q w' => ∃ v', q = .returned (.tuple #[v', .bool (cExp O l m p).2]) ∧ DyAt w.heap.size w' v' (cExp O l m p).1 ∧ Below w.heap.size w w' := by
 have bA : Below w.heap.size w (((w.alloc (.cells #[.int .u64 (O : Int), .int .i64 l, .int .i64 m] 68)).alloc (.cells #[.bool p.1, .slice a n c, .int .i64 p.2.2] 27)).alloc (.cells #[.bool false, .slice none 0 0, .int .i64 0] 27)) := nT (nT (below_one _ _) (below_one _ _)) (below_one _ _)
 obtain ⟨o0, o1, o2, x0, x1, x2, z0, f0, z1, f1, z2, f2⟩ := fX7 w O l m p a n c _ rfl
 unfold cExp
 by_cases h1 : p.2.2 < l
 ·rw [if_pos (.inl h1)]
  unfold no3
  clear h hp hT hg1 hg2 hl hm hO ho
  go_enter Tryz.func38, Tryz.ntmps38
  go_wp2_with fail
  exact bodyPost_ret (v := .tuple #[dyV false none 0 0 0, .bool false]) (by simp [results, Tryz.results38, go_sem, z0, z1, z2]) rfl ⟨_, rfl, dyAt_z3 _ _, by repeat (first | (with_reducible exact bA) | (with_reducible refine Below.setCell ?_ (by simp; try omega) _) | (with_reducible refine Below.alloc ?_ (by have := bA.size; simp; try omega) _))⟩
 ·have h1' : l ≤ p.2.2 := by omega
  by_cases h2 : m < p.2.2
  ·rw [if_pos (.inr h2)]
   unfold no3
   clear h hp hT hg1 hg2 hl hm hO ho
   go_enter Tryz.func38, Tryz.ntmps38
   go_wp2_with fail
   exact bodyPost_ret (v := .tuple #[dyV false none 0 0 0, .bool false]) (by simp [results, Tryz.results38, go_sem, z0, z1, z2]) rfl ⟨_, rfl, dyAt_z3 _ _, by repeat (first | (with_reducible exact bA) | (with_reducible refine Below.setCell ?_ (by simp; try omega) _) | (with_reducible refine Below.alloc ?_ (by have := bA.size; simp; try omega) _))⟩
  ·have h2' : p.2.2 ≤ m := by omega
   rw [if_neg (by omega)]
   have TC : Hid _ := fun W => to_calls5 O l m p.2.2 W hO (by omega) hg1 (hg2 _ h2')
   have CC : Hid _ := fun (W : World) (b : Below w.heap.size w W) (a3 : Option Addr) (n3 c3 : Nat) (k : IsW W a3 n3 c3 (wO (toP O p.2.2).2.1)) (hn3 : n3 ≤ 1024) => cmpE p (toP O p.2.2) a n c a3 n3 c3 W (h.keep b) hn k hn3 hp (to_ok O p.2.2 ho (hg2 _ h2') (by omega) (by omega)) (hT.1.kept b)
   have IC : Hid _ := fun W (t : Tab W) => dint_calls p.2.2 ⟨by omega, by omega⟩ W t
   have hT0 := hT.1.kept bA
   generalize toP O p.2.2 = R at *
   generalize intD p.2.2 = I at *
   generalize cmpD p R = J at *
   clear h hp hT hg1 hg2 hl hm hO ho h1 h2
   by_cases h3 : J = 0
   ·rw [if_pos h3]
    go_enter Tryz.func38, Tryz.ntmps38
    go_wp2_with fail
    generalize (((w.alloc (.cells #[.int .u64 (O : Int), .int .i64 l, .int .i64 m] 68)).alloc (.cells #[.bool p.1, .slice a n c, .int .i64 p.2.2] 27)).alloc (.cells #[.bool false, .slice none 0 0, .int .i64 0] 27)) = w0 at *
    go_region_with (first
     | (go_at_call 73; refine (TC.out _).mono ?_; rintro r w3 ⟨_, rfl, ⟨a3, n3, c3, rfl, HN3, hn3, hO3⟩, b1⟩; have b2 : Below w0.heap.size w0 w3 := nT (by repeat (first | exact Below.refl _ _ | apply Below.drew)) b1; have y0 := kC b2 o0; have y1 := kC b2 o1; have y2 := kC b2 o2; have y3 := kC b2 x0; have y4 := kC b2 x1; have y5 := kC b2 x2)
     | (go_at_call 79; refine (CC.out _ (nT (nT bA b2) (by repeat (first | exact Below.refl _ _ | apply Below.drew))) a3 n3 c3 (hO3.1.keep (by repeat (first | exact Below.refl _ _ | apply Below.drew))) hn3).mono ?_; rintro r w5 ⟨rfl, b3⟩; have b4 : Below w0.heap.size w0 w5 := nT (nT b2 (by repeat (first | exact Below.refl _ _ | apply Below.drew))) b3))
    all_goals
     obtain ⟨bA, z0, f0, z1, f1, z2, f2⟩ := jkAF3 b4 bA z0 f0 z1 f1 z2 f2
     replace hT0 := hT0.kept b4
     clear TC CC b4
     have lb := bA.size
     go_wp2_with fail
     refine cM (IC.out _ hT0) ?_
     rintro r w9 ⟨_, rfl, ⟨a4, n4, c4, rfl, HN4, hn4, hO4⟩, b1⟩
     obtain ⟨bA, z0, f0, z1, f1, z2, f2⟩ := jkAF3 b1 bA z0 f0 z1 f1 z2 f2
     replace hT0 := hT0.kept b1
     clear b1
     go_wp2_with fail
     exact bodyPost_ret (v := .tuple #[dyV I.1 a4 n4 c4 I.2.2, .bool true]) (by simp [results, Tryz.results38, go_sem, z0, z1, z2]) rfl ⟨_, rfl, ⟨a4, n4, c4, rfl, HN4, hn4, (hO4.low lb).set_dy (w.heap.size + 2) false none 0 0 0 _ _ _ z0 z1 z2⟩, by repeat (first | (with_reducible exact bA) | (with_reducible refine Below.setCell ?_ (by simp; try omega) _) | (with_reducible refine Below.alloc ?_ (by have := bA.size; simp; try omega) _))⟩
   ·rw [if_neg h3]
    unfold no3
    go_enter Tryz.func38, Tryz.ntmps38
    go_wp2_with fail
    generalize (((w.alloc (.cells #[.int .u64 (O : Int), .int .i64 l, .int .i64 m] 68)).alloc (.cells #[.bool p.1, .slice a n c, .int .i64 p.2.2] 27)).alloc (.cells #[.bool false, .slice none 0 0, .int .i64 0] 27)) = w0 at *
    go_region_with (first
     | (go_at_call 73; refine (TC.out _).mono ?_; rintro r w3 ⟨_, rfl, ⟨a3, n3, c3, rfl, HN3, hn3, hO3⟩, b1⟩; have b2 : Below w0.heap.size w0 w3 := nT (by repeat (first | exact Below.refl _ _ | apply Below.drew)) b1; have y0 := kC b2 o0; have y1 := kC b2 o1; have y2 := kC b2 o2; have y3 := kC b2 x0; have y4 := kC b2 x1; have y5 := kC b2 x2)
     | (go_at_call 79; refine (CC.out _ (nT (nT bA b2) (by repeat (first | exact Below.refl _ _ | apply Below.drew))) a3 n3 c3 (hO3.1.keep (by repeat (first | exact Below.refl _ _ | apply Below.drew))) hn3).mono ?_; rintro r w5 ⟨rfl, b3⟩; have b4 : Below w0.heap.size w0 w5 := nT (nT b2 (by repeat (first | exact Below.refl _ _ | apply Below.drew))) b3))
    all_goals
     obtain ⟨bA, z0, f0, z1, f1, z2, f2⟩ := jkAF3 b4 bA z0 f0 z1 f1 z2 f2
     replace hT0 := hT0.kept b4
     clear TC CC b4
     go_wp2_with fail
     exact bodyPost_ret (v := .tuple #[dyV false none 0 0 0, .bool false]) (by simp [results, Tryz.results38, go_sem, z0, z1, z2]) rfl ⟨_, rfl, dyAt_z3 _ _, by repeat (first | (with_reducible exact bA) | (with_reducible refine Below.setCell ?_ (by simp; try omega) _) | (with_reducible refine Below.alloc ?_ (by have := bA.size; simp; try omega) _))⟩
theorem sum_ok {p q : E3} (hp : CanD p) (hq : CanD q) (h : roomE (sumD p q) = 0) : OkE (roomP (sumD p q)) := by
 rw [room_eq h]
 refine ⟨sum_canA hp hq, ?_⟩
 unfold roomE at h
 split at h
 ·assumption
 ·omega
theorem more_ok {p : E3} (hp : OkE p) : roomE (sumD p (intD 1)) = 0 → OkE (roomP (sumD p (intD 1))) := sum_ok hp.1 (form_can _ _ _)
theorem eMore_calls (p : E3) (a : Option Addr) (n c : Nat) (X F _r : Nat) (fst caps : Array Value) (t : C3) (w : World) (h : IsW w a n c (wO p.2.1)) (hn : n ≤ 1024) (hp : OkE p) (hT : TabE w) (cX : w.cell? ⟨X, 0, none⟩ = some (.func (.func F) fst caps)) (hB : Body F)
  (hC : ∀ W, Below w.heap.size w W → TabE W → ∀ (p : E3) (a : Option Addr) (n c : Nat), IsW W a n c (wO p.2.1) → n ≤ 1024 → OkE p → Calls Tryz.prog F (fst ++ #[dyV p.1 a n c p.2.2] ++ caps) W fun q w' => ∃ v', q = .returned (.tuple #[v', .bool (t p).2]) ∧ DyAt W.heap.size w' v' (t p).1 ∧ Below W.heap.size W w') :
  Calls Tryz.prog 80 #[dyV p.1 a n c p.2.2, .pointer (some ⟨X, 0, none⟩)] w fun q w' => ∃ v', q = .returned (.tuple #[v', .bool (cMore t p).2]) ∧ DyAt w.heap.size w' v' (cMore t p).1 ∧ Below w.heap.size w w' := by
 have bA : Below w.heap.size w ((w.alloc (.cells #[.bool p.1, .slice a n c, .int .i64 p.2.2] 27)).alloc (.cells #[.bool false, .slice none 0 0, .int .i64 0] 27)) := nT (below_one _ _) (below_one _ _)
 obtain ⟨x0, x1, x2, z0, f0, z1, f1, z2, f2⟩ := fX4 w p a n c _ rfl
 replace cX := kC bA cX
 have hT0 := hT.1.kept bA
 have I1 : Hid _ := fun W (t : Tab W) => dint_calls 1 ⟨by decide, by decide⟩ W t
 have O2 : Hid _ := fun (W : World) (b : Below ((w.alloc (.cells #[.bool p.1, .slice a n c, .int .i64 p.2.2] 27)).alloc (.cells #[.bool false, .slice none 0 0, .int .i64 0] 27)).heap.size ((w.alloc (.cells #[.bool p.1, .slice a n c, .int .i64 p.2.2] 27)).alloc (.cells #[.bool false, .slice none 0 0, .int .i64 0] 27)) W) (a1 : Option Addr) (n1 c1 : Nat) (k : IsW W a1 n1 c1 (wO (intD 1).2.1)) (h1 : n1 ≤ 1024) => addE p (intD 1) a n c a1 n1 c1 W (h.keep (nT bA b)) hn k h1 hp (int_ok 1 ⟨by decide, by decide⟩) (hT0.kept b)
 have hB' : ∀ (xs : Array Value) (w : World), Sem.run Tryz.prog (callFunc F xs) w = .ok (.enter F xs) w := hB
 have CC : Hid _ := fun (W : World) (b : Below w.heap.size w W) (a2 : Option Addr) (n2 c2 : Nat) (k : IsW W a2 n2 c2 (wO (roomP (sumD p (intD 1))).2.1)) (h2 : n2 ≤ 1024) (ho : OkE (roomP (sumD p (intD 1)))) => hC W b (hT.kept b) (roomP (sumD p (intD 1))) a2 n2 c2 k h2 ho
 have HOK : Hid _ := more_ok hp
 unfold cMore
 generalize roomP (sumD p (intD 1)) = R at *
 generalize roomE (sumD p (intD 1)) = E at *
 generalize intD 1 = I at *
 generalize hV : t R = V at *
 obtain ⟨V1, V2⟩ := V
 clear h hp hT hB hC hV
 by_cases hE : E = 0
 ·subst hE
  rw [if_pos rfl]
  go_enter Tryz.func80, Tryz.ntmps80
  go_upto_region 1 with fail
  generalize ((w.alloc (.cells #[.bool p.1, .slice a n c, .int .i64 p.2.2] 27)).alloc (.cells #[.bool false, .slice none 0 0, .int .i64 0] 27)) = w0 at *
  have bw : Below w0.heap.size w0 w0.drew := (Below.refl _ _).drew
  refine wp_region_held (S := fun w' => Below w0.heap.size w0 w') (by kernel_rfl) ?_
  change wpAnyH _ _ _ _ _ _ _ _ (World.drew w0)
  generalize World.drew w0 = wc at bw ⊢
  refine tk 0 (.agg #[.bool p.1, .slice a n c, .int .i64 p.2.2]) rfl (by kernel_rfl) (fun _ _ _ h => h) (by rfl) ?y1 bw ?r1
  case y1 =>
   intro ww hS
   have q0 := kC hS x0
   have q1 := kC hS x1
   have q2 := kC hS x2
   clear hS
   go_simp
   try with_reducible rfl
  try simp only [Act.put, sA]
  iterate 3
   all_goals
    first
    | (have _q := hP1; have _q := hP2; refine wpAnyH_ready (rs := [6]) (by kernel_rfl) (by simp) ?_; refine AllReadyH.cons rfl (fun K hK => have mk6 := True.intro; ?_) AllReadyH.nil)
    | (have _q := hP1; have _q := X0; refine wpAnyH_ready (rs := [2]) (by kernel_rfl) (by simp) ?_; refine AllReadyH.cons rfl (fun K hK => have mk2 := True.intro; ?_) AllReadyH.nil)
    | (have _q := hP1; refine wpAnyH_ready (rs := [2, 6]) (by kernel_rfl) (by simp) ?_; refine AllReadyH.cons rfl (fun K hK => have mk2 := True.intro; ?_) (AllReadyH.cons rfl (fun K hK => have mk6 := True.intro; ?_) AllReadyH.nil))
    | (have _q := X0; refine wpAnyH_ready (rs := [1]) (by kernel_rfl) (by simp) ?_; refine AllReadyH.cons rfl (fun K hK => have mk1 := True.intro; ?_) AllReadyH.nil)
    | (refine wpAnyH_ready (rs := [1, 6]) (by kernel_rfl) (by simp) ?_; refine AllReadyH.cons rfl (fun K hK => have mk1 := True.intro; ?_) (AllReadyH.cons rfl (fun K hK => have mk6 := True.intro; ?_) AllReadyH.nil))
   all_goals
    go_simp
    first
    | (have _m := mk1
       clear mk1 _m
       refine cM (I1.out _ (hT0.kept bw)) ?_
       rintro r wn ⟨_, rfl, ⟨a1, n1, c1, rfl, HN1, hn1, hO1⟩, bN⟩
       refine hK.out _ _ (nT bw bN) (fun _ => ?_)
       clear hK K
       have hP1 := hO1.low (B' := w0.heap.size) bw.size
       try (replace X3 := kF bN X0 X3; replace X4 := kF bN X1 X4; replace X5 := kF bN X2 X5; replace X0 := kC bN X0; replace X1 := kC bN X1; replace X2 := kC bN X2)
       replace bw := nT bw bN
       clear bN hO1
       try simp only [Act.put, sA, sZ, sS]
       rename World => wc)
    | (have _m := mk2
       clear mk2 _m
       refine cM (O2.out _ bw a1 n1 c1 hP1.1 hn1) ?_
       rintro r wn ⟨_, rfl, ⟨a2, n2, c2, rfl, HN2, hn2, hO2⟩, bN⟩
       refine hK.out _ _ (nT bw bN) (fun _ => ?_)
       clear hK K
       have hP2 := hO2.low (B' := w0.heap.size) bw.size
       try (replace X3 := kF bN X0 X3; replace X4 := kF bN X1 X4; replace X5 := kF bN X2 X5; replace X0 := kC bN X0; replace X1 := kC bN X1; replace X2 := kC bN X2)
       replace bw := nT bw bN
       clear bN hO2
       try simp only [Act.put, sA, sZ, sS]
       rename World => wc
       refine tk 3 (.tuple #[dyV R.1 a2 n2 c2 R.2.2, .int .i64 0]) rfl (by kernel_rfl) (fun _ _ _ h => h) (by rfl) (by intro ww hS; clear hS; go_simp; try with_reducible rfl) bw ?_
       try simp only [Act.put, sA]
       refine tk 4 (dyV R.1 a2 n2 c2 R.2.2) rfl (by kernel_rfl) (fun _ _ _ h => h) (by rfl) (by intro ww hS; clear hS; go_simp; try with_reducible rfl) bw ?_
       try simp only [Act.put]
       refine tk 5 (.int .i64 0) rfl (by kernel_rfl) (fun _ _ _ h => h) (by rfl) (by intro ww hS; clear hS; go_simp; try with_reducible rfl) bw ?_
       try simp only [Act.put])
    | (have _m := mk6
       clear mk6 _m
       refine hK.out _ _ (bl_alloc bw _) (fun _ => ?_)
       clear hK K
       have bN := below_one wc (.cells #[.bool false, .slice none 0 0, .int .i64 0] 27)
       have XL : w0.heap.size ≤ wc.heap.size := bw.size
       obtain ⟨X0, X1, X2, X3, X4, X5⟩ := zero_dy (w := wc) (r := wc.heap.size) (W' := wc.alloc (.cells #[.bool false, .slice none 0 0, .int .i64 0] 27)) (Below.refl _ _) rfl
       try replace hP1 := hP1.keep bN
       try replace hP2 := hP2.keep bN
       replace bw := nT bw bN
       clear bN
       try simp only [Act.put]
       generalize wc.alloc (.cells #[.bool false, .slice none 0 0, .int .i64 0] 27) = wn at *
       generalize wc.heap.size = XB at *
       rename World => wc)
  all_goals
   refine rd1 7 (by kernel_rfl) rfl fun K hK => ?_
   go_simp
   have bS : Below w0.heap.size w0 (((wc.setCell ⟨XB, 0, none⟩ (.bool R.1)).setCell ⟨XB, 1, none⟩ (.slice a2 n2 c2)).setCell ⟨XB, 2, none⟩ (.int .i64 R.2.2)) := ((bw.setCell XL _).setCell XL _).setCell XL _
   refine hK.out _ _ bS (fun _ => ?_)
   clear hK K
   replace hP2 := hP2.set_dy _ _ _ _ _ _ (.bool R.1) (.slice a2 n2 c2) (.int .i64 R.2.2) X0 X1 X2
   obtain ⟨Z0, Z1, Z2⟩ := set3_same (r := XB) (v0 := .bool R.1) (v1 := .slice a2 n2 c2) (v2 := .int .i64 R.2.2) X0 X1 X2
   clear X0 X1 X2 X3 X4 X5 bw hP1
   try simp only [Act.put, sA, sZ, sS]
   generalize (((wc.setCell ⟨XB, 0, none⟩ (.bool R.1)).setCell ⟨XB, 1, none⟩ (.slice a2 n2 c2)).setCell ⟨XB, 2, none⟩ (.int .i64 R.2.2)) = we at *
   refine rd1 8 (by kernel_rfl) rfl fun K hK => ?_
   go_simp
   refine hK.out _ _ bS (fun _ => ?_)
   clear hK K
   try simp only [Act.put, sA, sZ, sS]
   refine wpAnyH_done (by kernel_rfl) ?_ _
   clear x0 x1 x2
   obtain ⟨bA, z0, f0, z1, f1, z2, f2, cX⟩ := jkAF3C bS bA z0 f0 z1 f1 z2 f2 cX
   replace hT0 := hT0.kept bS
   clear I1 O2
   have lb := bA.size
   have lx : w.heap.size + 1 < we.heap.size := World.block_lt_of_cell? _ _ z0
   go_wp2_with fail
   refine cM (CC.out _ bA a2 n2 c2 hP2.1 hn2 (HOK.out (by first | rfl | trivial))) ?_
   rintro q w9 ⟨_, rfl, ⟨a4, n4, c4, rfl, HN4, hn4, hO4⟩, b1⟩
   obtain ⟨bA, z0, f0, z1, f1, z2, f2, cX⟩ := jkAF3C b1 bA z0 f0 z1 f1 z2 f2 cX
   replace hT0 := hT0.kept b1
   clear b1
   go_wp2_with fail
   exact bodyPost_ret (v := .tuple #[dyV V1.1 a4 n4 c4 V1.2.2, .bool V2]) (by simp [results, Tryz.results80, go_sem, z0, z1, z2]) rfl ⟨_, rfl, ⟨a4, n4, c4, rfl, HN4, hn4, (hO4.low lb).set_dy (w.heap.size + 1) false none 0 0 0 _ _ _ z0 z1 z2⟩, by repeat (first | (with_reducible exact bA) | (with_reducible refine Below.setCell ?_ (by simp; try omega) _) | (with_reducible refine Below.alloc ?_ (by have := bA.size; simp; try omega) _))⟩
 ·rw [if_neg hE]
  unfold no3
  go_enter Tryz.func80, Tryz.ntmps80
  go_upto_region 1 with fail
  generalize ((w.alloc (.cells #[.bool p.1, .slice a n c, .int .i64 p.2.2] 27)).alloc (.cells #[.bool false, .slice none 0 0, .int .i64 0] 27)) = w0 at *
  have bw : Below w0.heap.size w0 w0.drew := (Below.refl _ _).drew
  refine wp_region_held (S := fun w' => Below w0.heap.size w0 w') (by kernel_rfl) ?_
  change wpAnyH _ _ _ _ _ _ _ _ (World.drew w0)
  generalize World.drew w0 = wc at bw ⊢
  refine tk 0 (.agg #[.bool p.1, .slice a n c, .int .i64 p.2.2]) rfl (by kernel_rfl) (fun _ _ _ h => h) (by rfl) ?y2 bw ?r2
  case y2 =>
   intro ww hS
   have q0 := kC hS x0
   have q1 := kC hS x1
   have q2 := kC hS x2
   clear hS
   go_simp
   try with_reducible rfl
  try simp only [Act.put, sA]
  iterate 3
   all_goals
    first
    | (have _q := hP1; have _q := hP2; refine wpAnyH_ready (rs := [6]) (by kernel_rfl) (by simp) ?_; refine AllReadyH.cons rfl (fun K hK => have mk6 := True.intro; ?_) AllReadyH.nil)
    | (have _q := hP1; have _q := X0; refine wpAnyH_ready (rs := [2]) (by kernel_rfl) (by simp) ?_; refine AllReadyH.cons rfl (fun K hK => have mk2 := True.intro; ?_) AllReadyH.nil)
    | (have _q := hP1; refine wpAnyH_ready (rs := [2, 6]) (by kernel_rfl) (by simp) ?_; refine AllReadyH.cons rfl (fun K hK => have mk2 := True.intro; ?_) (AllReadyH.cons rfl (fun K hK => have mk6 := True.intro; ?_) AllReadyH.nil))
    | (have _q := X0; refine wpAnyH_ready (rs := [1]) (by kernel_rfl) (by simp) ?_; refine AllReadyH.cons rfl (fun K hK => have mk1 := True.intro; ?_) AllReadyH.nil)
    | (refine wpAnyH_ready (rs := [1, 6]) (by kernel_rfl) (by simp) ?_; refine AllReadyH.cons rfl (fun K hK => have mk1 := True.intro; ?_) (AllReadyH.cons rfl (fun K hK => have mk6 := True.intro; ?_) AllReadyH.nil))
   all_goals
    go_simp
    first
    | (have _m := mk1
       clear mk1 _m
       refine cM (I1.out _ (hT0.kept bw)) ?_
       rintro r wn ⟨_, rfl, ⟨a1, n1, c1, rfl, HN1, hn1, hO1⟩, bN⟩
       refine hK.out _ _ (nT bw bN) (fun _ => ?_)
       clear hK K
       have hP1 := hO1.low (B' := w0.heap.size) bw.size
       try (replace X3 := kF bN X0 X3; replace X4 := kF bN X1 X4; replace X5 := kF bN X2 X5; replace X0 := kC bN X0; replace X1 := kC bN X1; replace X2 := kC bN X2)
       replace bw := nT bw bN
       clear bN hO1
       try simp only [Act.put, sA, sZ, sS]
       rename World => wc)
    | (have _m := mk2
       clear mk2 _m
       refine cM (O2.out _ bw a1 n1 c1 hP1.1 hn1) ?_
       rintro r wn ⟨_, rfl, ⟨a2, n2, c2, rfl, HN2, hn2, hO2⟩, bN⟩
       refine hK.out _ _ (nT bw bN) (fun _ => ?_)
       clear hK K
       have hP2 := hO2.low (B' := w0.heap.size) bw.size
       try (replace X3 := kF bN X0 X3; replace X4 := kF bN X1 X4; replace X5 := kF bN X2 X5; replace X0 := kC bN X0; replace X1 := kC bN X1; replace X2 := kC bN X2)
       replace bw := nT bw bN
       clear bN hO2
       try simp only [Act.put, sA, sZ, sS]
       rename World => wc
       refine tk 3 (.tuple #[dyV R.1 a2 n2 c2 R.2.2, .int .i64 E]) rfl (by kernel_rfl) (fun _ _ _ h => h) (by rfl) (by intro ww hS; clear hS; go_simp; try with_reducible rfl) bw ?_
       try simp only [Act.put, sA]
       refine tk 4 (dyV R.1 a2 n2 c2 R.2.2) rfl (by kernel_rfl) (fun _ _ _ h => h) (by rfl) (by intro ww hS; clear hS; go_simp; try with_reducible rfl) bw ?_
       try simp only [Act.put]
       refine tk 5 (.int .i64 E) rfl (by kernel_rfl) (fun _ _ _ h => h) (by rfl) (by intro ww hS; clear hS; go_simp; try with_reducible rfl) bw ?_
       try simp only [Act.put])
    | (have _m := mk6
       clear mk6 _m
       refine hK.out _ _ (bl_alloc bw _) (fun _ => ?_)
       clear hK K
       have bN := below_one wc (.cells #[.bool false, .slice none 0 0, .int .i64 0] 27)
       have XL : w0.heap.size ≤ wc.heap.size := bw.size
       obtain ⟨X0, X1, X2, X3, X4, X5⟩ := zero_dy (w := wc) (r := wc.heap.size) (W' := wc.alloc (.cells #[.bool false, .slice none 0 0, .int .i64 0] 27)) (Below.refl _ _) rfl
       try replace hP1 := hP1.keep bN
       try replace hP2 := hP2.keep bN
       replace bw := nT bw bN
       clear bN
       try simp only [Act.put]
       generalize wc.alloc (.cells #[.bool false, .slice none 0 0, .int .i64 0] 27) = wn at *
       generalize wc.heap.size = XB at *
       rename World => wc)
  all_goals
   refine rd1 7 (by kernel_rfl) rfl fun K hK => ?_
   go_simp
   have bS : Below w0.heap.size w0 (((wc.setCell ⟨XB, 0, none⟩ (.bool R.1)).setCell ⟨XB, 1, none⟩ (.slice a2 n2 c2)).setCell ⟨XB, 2, none⟩ (.int .i64 R.2.2)) := ((bw.setCell XL _).setCell XL _).setCell XL _
   refine hK.out _ _ bS (fun _ => ?_)
   clear hK K
   replace hP2 := hP2.set_dy _ _ _ _ _ _ (.bool R.1) (.slice a2 n2 c2) (.int .i64 R.2.2) X0 X1 X2
   obtain ⟨Z0, Z1, Z2⟩ := set3_same (r := XB) (v0 := .bool R.1) (v1 := .slice a2 n2 c2) (v2 := .int .i64 R.2.2) X0 X1 X2
   clear X0 X1 X2 X3 X4 X5 bw hP1
   try simp only [Act.put, sA, sZ, sS]
   generalize (((wc.setCell ⟨XB, 0, none⟩ (.bool R.1)).setCell ⟨XB, 1, none⟩ (.slice a2 n2 c2)).setCell ⟨XB, 2, none⟩ (.int .i64 R.2.2)) = we at *
   refine rd1 8 (by kernel_rfl) rfl fun K hK => ?_
   go_simp
   refine hK.out _ _ bS (fun _ => ?_)
   clear hK K
   try simp only [Act.put, sA, sZ, sS]
   refine wpAnyH_done (by kernel_rfl) ?_ _
   clear x0 x1 x2
   obtain ⟨bA, z0, f0, z1, f1, z2, f2, cX⟩ := jkAF3C bS bA z0 f0 z1 f1 z2 f2 cX
   replace hT0 := hT0.kept bS
   clear I1 O2
   clear CC HOK
   go_wp2_with fail
   exact bodyPost_ret (v := .tuple #[dyV false none 0 0 0, .bool false]) (by simp [results, Tryz.results80, go_sem, z0, z1, z2]) rfl ⟨_, rfl, dyAt_z3 _ _, by repeat (first | (with_reducible exact bA) | (with_reducible refine Below.setCell ?_ (by simp; try omega) _) | (with_reducible refine Below.alloc ?_ (by have := bA.size; simp; try omega) _))⟩
end Go.Proofs.YtiijfnaaekmpbaaGreatDoor

/- The document's exact cases: angles, logarithms. The document's exact cases: logarithms by whole powers. -/
import Derived.Test.YtiijfnaaekmpbaaGreatDoorALX
import Derived.Test.YtiijfnaaekmpbaaGreatDoorED4
import Derived.Deep.CutRange
import Derived.Deep.RegionHeld3
import Derived.BigQuiet
import Derived.Test.YtiijfnaaekmpbaaGreatDoorFX

namespace Go.Proofs.YtiijfnaaekmpbaaGreatDoor
open Go.RowKit
set_option maxRecDepth 100000 in
set_option maxHeartbeats 4000000 in
theorem dAngles_calls (f : Int) (neg : Bool) (w : World) :
  Calls Tryz.prog 55 #[.int .u8 f, .bool neg] w fun r w' => ∃ v, r = .returned (.tuple #[v, .bool (anD f neg).2]) ∧ DyQ w.heap.size w' v (anD f neg).1 ∧ Below w.heap.size w w' := by
 have bA : Below w.heap.size w ((w.alloc (.cells #[.bool false, .slice none 0 0, .int .i64 0] 27)).alloc (.cells #[.bool false, .slice none 0 0, .int .i64 0] 27)) := nT (below_one _ _) (below_one _ _)
 have Z := zrC w
 have y0 : ((w.alloc (.cells #[.bool false, .slice none 0 0, .int .i64 0] 27)).alloc (.cells #[.bool false, .slice none 0 0, .int .i64 0] 27)).cell? ⟨(w.heap.size + 1), 0, none⟩ = some (.bool false) := by go_simp
 have y1 : ((w.alloc (.cells #[.bool false, .slice none 0 0, .int .i64 0] 27)).alloc (.cells #[.bool false, .slice none 0 0, .int .i64 0] 27)).cell? ⟨(w.heap.size + 1), 1, none⟩ = some (.slice none 0 0) := by go_simp
 have y2 : ((w.alloc (.cells #[.bool false, .slice none 0 0, .int .i64 0] 27)).alloc (.cells #[.bool false, .slice none 0 0, .int .i64 0] 27)).cell? ⟨(w.heap.size + 1), 2, none⟩ = some (.int .i64 0) := by go_simp
 have g0 : ((w.alloc (.cells #[.bool false, .slice none 0 0, .int .i64 0] 27)).alloc (.cells #[.bool false, .slice none 0 0, .int .i64 0] 27)).frozen? ⟨w.heap.size + 1, 0, none⟩ = false := by go_simp
 have g1 : ((w.alloc (.cells #[.bool false, .slice none 0 0, .int .i64 0] 27)).alloc (.cells #[.bool false, .slice none 0 0, .int .i64 0] 27)).frozen? ⟨w.heap.size + 1, 1, none⟩ = false := by go_simp
 have g2 : ((w.alloc (.cells #[.bool false, .slice none 0 0, .int .i64 0] 27)).alloc (.cells #[.bool false, .slice none 0 0, .int .i64 0] 27)).frozen? ⟨w.heap.size + 1, 2, none⟩ = false := by go_simp
 have IC : Hid _ := fun W => qint_calls 1 ⟨by decide, by decide⟩ W
 have TI : Hid _ := fun (W : World) (a : Option Addr) (n c : Nat) (h : IsW W a n c (wO (intD 1).2.1)) (hn : n ≤ 1024) => dToldE (intD 1) a n c W h hn (int_ok 1 ⟨by decide, by decide⟩)
 have LI : Hid _ := okE_len (int_ok 1 ⟨by decide, by decide⟩)
 by_cases A : f = 22
 ·subst A
  rw [show anD 22 neg = ((neg, 1, -1), true) from rfl]
  have PC : Hid _ := fun W => dPower_calls (-1) W
  have LP : Hid ((wO 1).length ≤ 1024) := by rw [Hid]; decide +kernel
  obtain ⟨P, hP⟩ : ∃ P : E3, P = (neg, 1, -1) := ⟨_, rfl⟩
  have TC : Hid _ := fun (W : World) (a : Option Addr) (n c : Nat) (h : IsW W a n c (wO 1)) (hn : n ≤ 1024) => dToldE (neg, 1, -1) a n c W h hn (one_ok _ _ ⟨by decide, by decide⟩)
  simp only [← hP] at TC ⊢
  clear hP
  clear IC TI LI
  go_enter Tryz.func55, Tryz.ntmps55
  go_wp2_with fail
  generalize ((w.alloc (.cells #[.bool false, .slice none 0 0, .int .i64 0] 27)).alloc (.cells #[.bool false, .slice none 0 0, .int .i64 0] 27)) = w0 at *
  refine cM (PC.out _) ?_
  have lb1 := bA.size
  rintro r w1 ⟨_, rfl, ⟨a1, n1, c1, rfl, HN1, hO1⟩, b1⟩
  replace hO1 := hO1.low lb1
  replace g0 := kF b1 y0 g0; replace g1 := kF b1 y1 g1; replace g2 := kF b1 y2 g2
  obtain ⟨bA, Z, y0, y1, y2⟩ := jkAZC3 b1 bA Z y0 y1 y2
  have hn1 : n1 ≤ 1024 := by have e2 : n1 = (wO 1).length := HN1.out; have := LP.out; omega
  clear b1 lb1 PC
  obtain ⟨t0, t1, t2⟩ := set3_same (v0 := .bool false) (v1 := .slice a1 n1 c1) (v2 := .int .i64 (-1)) y0 y1 y2
  replace hO1 := hO1.set_dy (w.heap.size + 1) _ _ _ _ _ (.bool false) (.slice a1 n1 c1) (.int .i64 (-1)) y0 y1 y2
  replace Z := Z.set3 (q := w.heap.size + 1) (v0 := .bool false) (v1 := .slice a1 n1 c1) (v2 := .int .i64 (-1)) (by omega)
  have h0 : (((w1.setCell ⟨w.heap.size + 1, 0, none⟩ (.bool false)).setCell ⟨w.heap.size + 1, 1, none⟩ (.slice a1 n1 c1)).setCell ⟨w.heap.size + 1, 2, none⟩ (.int .i64 (-1))).frozen? ⟨w.heap.size + 1, 0, none⟩ = false := set3_frozen g0
  replace bA : Below w.heap.size w (((w1.setCell ⟨w.heap.size + 1, 0, none⟩ (.bool false)).setCell ⟨w.heap.size + 1, 1, none⟩ (.slice a1 n1 c1)).setCell ⟨w.heap.size + 1, 2, none⟩ (.int .i64 (-1))) := bl3 bA (by omega)
  go_upto_region 15 with fail
  generalize (((w1.setCell ⟨w.heap.size + 1, 0, none⟩ (.bool false)).setCell ⟨w.heap.size + 1, 1, none⟩ (.slice a1 n1 c1)).setCell ⟨w.heap.size + 1, 2, none⟩ (.int .i64 (-1))) = v1 at *
  clear y0 y1 y2 g0 g1 g2
  have u0 : (v1.setCell ⟨w.heap.size + 1, 0, none⟩ (.bool neg)).cell? ⟨w.heap.size + 1, 0, none⟩ = some (.bool neg) := World.cell?_setCell_same _ _ _ t0
  have u1 : (v1.setCell ⟨w.heap.size + 1, 0, none⟩ (.bool neg)).cell? ⟨w.heap.size + 1, 1, none⟩ = some (.slice a1 n1 c1) := (World.cell?_setCell_other _ _ _ _ (by simp)).trans t1
  have u2 : (v1.setCell ⟨w.heap.size + 1, 0, none⟩ (.bool neg)).cell? ⟨w.heap.size + 1, 2, none⟩ = some (.int .i64 (-1)) := (World.cell?_setCell_other _ _ _ _ (by simp)).trans t2
  replace hO1 := hO1.set_one ⟨w.heap.size + 1, 0, none⟩ _ (.bool neg) t0 (fun z q => by cases q)
  replace Z := Z.set1 ⟨w.heap.size + 1, 0, none⟩ (.bool neg) (show w.heap.size + 1 ≠ w.heap.size by omega)
  replace bA : Below w.heap.size w (v1.setCell ⟨w.heap.size + 1, 0, none⟩ (.bool neg)) := bA.setCell (p := ⟨w.heap.size + 1, 0, none⟩) (le1 _) _
  go_upto_region 16 with fail
  generalize v1.setCell ⟨w.heap.size + 1, 0, none⟩ (.bool neg) = v2 at *
  clear t0 t1 t2 h0
  go_wp2_with fail
  refine cM (TC.out _ _ _ _ hO1.1 hn1) ?_
  have lb2 := bA.size
  rintro r w2 ⟨_, rfl, ⟨a2, n2, c2, rfl, HN2, hO2⟩, b2⟩
  replace hO2 := hO2.low lb2
  obtain ⟨bA, Z⟩ := jkAZ b2 bA Z
  clear b2 lb2
  obtain ⟨z0, z1, z2, f0, f1, f2⟩ := Z
  go_wp2_with fail
  exact bodyPost_ret (v := .tuple #[dyV P.1 a2 n2 c2 P.2.2, .bool true]) (by simp [results, Tryz.results55, go_sem, z0, z1, z2]) rfl ⟨_, rfl, dyE HN2 hO2 z0 z1 z2, bl3 bA (by omega)⟩
 by_cases B : f = 24
 ·subst B
  rw [show anD 24 neg = ((neg, 1, -2), true) from rfl]
  have PC : Hid _ := fun W => dPower_calls (-2) W
  have LP : Hid ((wO 1).length ≤ 1024) := by rw [Hid]; decide +kernel
  obtain ⟨P, hP⟩ : ∃ P : E3, P = (neg, 1, -2) := ⟨_, rfl⟩
  have TC : Hid _ := fun (W : World) (a : Option Addr) (n c : Nat) (h : IsW W a n c (wO 1)) (hn : n ≤ 1024) => dToldE (neg, 1, -2) a n c W h hn (one_ok _ _ ⟨by decide, by decide⟩)
  simp only [← hP] at TC ⊢
  clear hP
  clear IC TI LI
  go_enter Tryz.func55, Tryz.ntmps55
  go_wp2_with fail
  generalize ((w.alloc (.cells #[.bool false, .slice none 0 0, .int .i64 0] 27)).alloc (.cells #[.bool false, .slice none 0 0, .int .i64 0] 27)) = w0 at *
  refine cM (PC.out _) ?_
  have lb1 := bA.size
  rintro r w1 ⟨_, rfl, ⟨a1, n1, c1, rfl, HN1, hO1⟩, b1⟩
  replace hO1 := hO1.low lb1
  replace g0 := kF b1 y0 g0; replace g1 := kF b1 y1 g1; replace g2 := kF b1 y2 g2
  obtain ⟨bA, Z, y0, y1, y2⟩ := jkAZC3 b1 bA Z y0 y1 y2
  have hn1 : n1 ≤ 1024 := by have e2 : n1 = (wO 1).length := HN1.out; have := LP.out; omega
  clear b1 lb1 PC
  obtain ⟨t0, t1, t2⟩ := set3_same (v0 := .bool false) (v1 := .slice a1 n1 c1) (v2 := .int .i64 (-2)) y0 y1 y2
  replace hO1 := hO1.set_dy (w.heap.size + 1) _ _ _ _ _ (.bool false) (.slice a1 n1 c1) (.int .i64 (-2)) y0 y1 y2
  replace Z := Z.set3 (q := w.heap.size + 1) (v0 := .bool false) (v1 := .slice a1 n1 c1) (v2 := .int .i64 (-2)) (by omega)
  have h0 : (((w1.setCell ⟨w.heap.size + 1, 0, none⟩ (.bool false)).setCell ⟨w.heap.size + 1, 1, none⟩ (.slice a1 n1 c1)).setCell ⟨w.heap.size + 1, 2, none⟩ (.int .i64 (-2))).frozen? ⟨w.heap.size + 1, 0, none⟩ = false := set3_frozen g0
  replace bA : Below w.heap.size w (((w1.setCell ⟨w.heap.size + 1, 0, none⟩ (.bool false)).setCell ⟨w.heap.size + 1, 1, none⟩ (.slice a1 n1 c1)).setCell ⟨w.heap.size + 1, 2, none⟩ (.int .i64 (-2))) := bl3 bA (by omega)
  go_upto_region 15 with fail
  generalize (((w1.setCell ⟨w.heap.size + 1, 0, none⟩ (.bool false)).setCell ⟨w.heap.size + 1, 1, none⟩ (.slice a1 n1 c1)).setCell ⟨w.heap.size + 1, 2, none⟩ (.int .i64 (-2))) = v1 at *
  clear y0 y1 y2 g0 g1 g2
  have u0 : (v1.setCell ⟨w.heap.size + 1, 0, none⟩ (.bool neg)).cell? ⟨w.heap.size + 1, 0, none⟩ = some (.bool neg) := World.cell?_setCell_same _ _ _ t0
  have u1 : (v1.setCell ⟨w.heap.size + 1, 0, none⟩ (.bool neg)).cell? ⟨w.heap.size + 1, 1, none⟩ = some (.slice a1 n1 c1) := (World.cell?_setCell_other _ _ _ _ (by simp)).trans t1
  have u2 : (v1.setCell ⟨w.heap.size + 1, 0, none⟩ (.bool neg)).cell? ⟨w.heap.size + 1, 2, none⟩ = some (.int .i64 (-2)) := (World.cell?_setCell_other _ _ _ _ (by simp)).trans t2
  replace hO1 := hO1.set_one ⟨w.heap.size + 1, 0, none⟩ _ (.bool neg) t0 (fun z q => by cases q)
  replace Z := Z.set1 ⟨w.heap.size + 1, 0, none⟩ (.bool neg) (show w.heap.size + 1 ≠ w.heap.size by omega)
  replace bA : Below w.heap.size w (v1.setCell ⟨w.heap.size + 1, 0, none⟩ (.bool neg)) := bA.setCell (p := ⟨w.heap.size + 1, 0, none⟩) (le1 _) _
  go_upto_region 16 with fail
  generalize v1.setCell ⟨w.heap.size + 1, 0, none⟩ (.bool neg) = v2 at *
  clear t0 t1 t2 h0
  go_wp2_with fail
  refine cM (TC.out _ _ _ _ hO1.1 hn1) ?_
  have lb2 := bA.size
  rintro r w2 ⟨_, rfl, ⟨a2, n2, c2, rfl, HN2, hO2⟩, b2⟩
  replace hO2 := hO2.low lb2
  obtain ⟨bA, Z⟩ := jkAZ b2 bA Z
  clear b2 lb2
  obtain ⟨z0, z1, z2, f0, f1, f2⟩ := Z
  go_wp2_with fail
  exact bodyPost_ret (v := .tuple #[dyV P.1 a2 n2 c2 P.2.2, .bool true]) (by simp [results, Tryz.results55, go_sem, z0, z1, z2]) rfl ⟨_, rfl, dyE HN2 hO2 z0 z1 z2, bl3 bA (by omega)⟩
 by_cases C : f = 23
 ·subst C
  cases neg with
  | true =>
   rw [show anD 23 true = (intD 1, true) from rfl]
   generalize intD 1 = P at *
   go_enter Tryz.func55, Tryz.ntmps55
   go_wp2_with fail
   generalize ((w.alloc (.cells #[.bool false, .slice none 0 0, .int .i64 0] 27)).alloc (.cells #[.bool false, .slice none 0 0, .int .i64 0] 27)) = w0 at *
   refine cM (IC.out _) ?_
   have lb1 := bA.size
   rintro r w1 ⟨_, rfl, ⟨a1, n1, c1, rfl, HN1, hO1⟩, b1⟩
   replace hO1 := hO1.low lb1
   obtain ⟨bA, Z⟩ := jkAZ b1 bA Z
   clear b1 lb1
   go_wp2_with fail
   have hn1 : n1 ≤ 1024 := by have := HN1.out; have := LI.out; omega
   refine cM (TI.out _ _ _ _ hO1.1 hn1) ?_
   have lb2 := bA.size
   rintro r w2 ⟨_, rfl, ⟨a2, n2, c2, rfl, HN2, hO2⟩, b2⟩
   replace hO2 := hO2.low lb2
   obtain ⟨bA, Z⟩ := jkAZ b2 bA Z
   clear b2 lb2
   obtain ⟨z0, z1, z2, f0, f1, f2⟩ := Z
   go_wp2_with fail
   exact bodyPost_ret (v := .tuple #[dyV P.1 a2 n2 c2 P.2.2, .bool true]) (by simp [results, Tryz.results55, go_sem, z0, z1, z2]) rfl ⟨_, rfl, dyE HN2 hO2 z0 z1 z2, bl3 bA (by omega)⟩
  | false =>
   rw [show anD 23 false = (z3, true) from rfl]
   clear IC TI LI
   go_enter Tryz.func55, Tryz.ntmps55
   obtain ⟨z0, z1, z2, f0, f1, f2⟩ := Z
   go_wp2_with fail
   generalize ((w.alloc (.cells #[.bool false, .slice none 0 0, .int .i64 0] 27)).alloc (.cells #[.bool false, .slice none 0 0, .int .i64 0] 27)) = w0 at *
   exact bodyPost_ret (v := .tuple #[dyV false none 0 0 0, .bool true]) (by simp [results, Tryz.results55, go_sem, z0, z1, z2]) rfl ⟨_, rfl, dyQ_zero _ _, by first | exact bA | exact bl3 bA (by omega)⟩
 clear IC TI LI
 by_cases D : f = 20
 ·subst D
  rw [show anD 20 neg = (z3, !neg) from rfl]
  go_enter Tryz.func55, Tryz.ntmps55
  obtain ⟨z0, z1, z2, f0, f1, f2⟩ := Z
  go_wp2_with fail
  generalize ((w.alloc (.cells #[.bool false, .slice none 0 0, .int .i64 0] 27)).alloc (.cells #[.bool false, .slice none 0 0, .int .i64 0] 27)) = w0 at *
  exact bodyPost_ret (v := .tuple #[dyV false none 0 0 0, .bool (!neg)]) (by simp [results, Tryz.results55, go_sem, z0, z1, z2]) rfl ⟨_, rfl, dyQ_zero _ _, by first | exact bA | exact bl3 bA (by omega)⟩
 by_cases E : f = 29
 ·subst E
  rw [show anD 29 neg = (z3, !neg) from rfl]
  go_enter Tryz.func55, Tryz.ntmps55
  obtain ⟨z0, z1, z2, f0, f1, f2⟩ := Z
  go_wp2_with fail
  generalize ((w.alloc (.cells #[.bool false, .slice none 0 0, .int .i64 0] 27)).alloc (.cells #[.bool false, .slice none 0 0, .int .i64 0] 27)) = w0 at *
  exact bodyPost_ret (v := .tuple #[dyV false none 0 0 0, .bool (!neg)]) (by simp [results, Tryz.results55, go_sem, z0, z1, z2]) rfl ⟨_, rfl, dyQ_zero _ _, by first | exact bA | exact bl3 bA (by omega)⟩
 ·rw [show anD f neg = no3 from by unfold anD; rw [if_neg A, if_neg B, if_neg C, if_neg (by omega)]]
  unfold no3
  go_enter Tryz.func55, Tryz.ntmps55
  obtain ⟨z0, z1, z2, f0, f1, f2⟩ := Z
  go_wp2_with fail
  generalize ((w.alloc (.cells #[.bool false, .slice none 0 0, .int .i64 0] 27)).alloc (.cells #[.bool false, .slice none 0 0, .int .i64 0] 27)) = w0 at *
  exact bodyPost_ret (v := .tuple #[dyV false none 0 0 0, .bool false]) (by simp [results, Tryz.results55, go_sem, z0, z1, z2]) rfl ⟨_, rfl, dyQ_zero _ _, by first | exact bA | exact bl3 bA (by omega)⟩
theorem hit_yes {a : Bool} {d : E3} {n : Nat} (h : n = 0 ∨ a = true) (k : cmpD d (tenD n) = 0) : hitB a d n = true := by
 unfold hitB
 rw [decide_eq_true k, Bool.and_true, Bool.or_eq_true, decide_eq_true_eq]
 exact h
theorem hit_no {a : Bool} {d : E3} {n : Nat} (k : cmpD d (tenD n) ≠ 0) : ¬ hitB a d n = true := by
 unfold hitB
 rw [decide_eq_false k, Bool.and_false]
 decide
theorem hit_far {d : E3} {n : Nat} (k : n ≠ 0) : ¬ hitB false d n = true := by
 unfold hitB
 rw [decide_eq_false k]
 simp
set_option maxRecDepth 100000 in
set_option maxHeartbeats 4000000 in
theorem dLog7_calls (p : E3) (a : Option Addr) (n c : Nat) (w : World) (h : IsW w a n c (wO p.2.1)) (hn : n ≤ 1024) (hp : OkE p) (hq : OkE (lgX 7 p)) :
  Calls Tryz.prog 53 #[.int .u8 7, dyV p.1 a n c p.2.2] w fun r w' => ∃ v, r = .returned (.tuple #[v, .bool (lgD 7 p).2]) ∧ DyQ w.heap.size w' v (lgD 7 p).1 ∧ Below w.heap.size w w' := by
 have bA : Below w.heap.size w ((w.alloc (.cells #[.bool p.1, .slice a n c, .int .i64 p.2.2] 27)).alloc (.cells #[.bool false, .slice none 0 0, .int .i64 0] 27)) := nT (below_one _ _) (below_one _ _)
 have Z := zrB w p.1 a n c p.2.2
 obtain ⟨x0, x1, x2, g0, g1, g2⟩ := fX21 w p a n c _ rfl
 have hb := okE_bd hp
 have hI := h.keep bA
 have lb := bA.size
 rw [show lgX 7 p = p from rfl] at hq
 rw [show lgD 7 p = lgT false 22 (p) from rfl]
 obtain ⟨q, rfl⟩ : ∃ q, q = p := ⟨_, rfl⟩
 have bq := okE_bd hq
 have OC : Hid _ := fun (W : World) (a : Option Addr) (n c : Nat) (h : IsW W a n c (wO q.2.1)) (hn : n ≤ 1024) => qOne_calls q.1 a n c (wO q.2.1) q.2.2 W h (by omega) (by omega)
 simp only [val_words, hq.form] at OC
 have LQ : Hid _ := okE_len hq
 have OQ : Hid (OkE q) := hq
 have HR1 : Hid (∀ i, i ≤ 22 → hitB false q i = true → lgT false 22 q = (intD i, true)) := fun i hi hh => lgT_hit hq.1 hi hh
 have HR2 : Hid ((∀ i, i ≤ 22 → ¬ hitB false q i = true) → lgT false 22 q = no3) := fun hh => lgT_none hh
 generalize lgT false 22 q = R at *
 clear h hp hq hb bq
 go_enter Tryz.func53, Tryz.ntmps53
 go_wp2_with fail
 generalize ((w.alloc (.cells #[.bool q.1, .slice a n c, .int .i64 q.2.2] 27)).alloc (.cells #[.bool false, .slice none 0 0, .int .i64 0] 27)) = w0 at *
 refine cM (OC.out _ _ _ _ hI hn) ?_
 have lb5 := bA.size
 rintro r w5 ⟨_, rfl, ⟨a5, n5, c5, rfl, HN5, hO5⟩, b5⟩
 replace hO5 := hO5.low lb5
 replace g0 := kF b5 x0 g0; replace g1 := kF b5 x1 g1; replace g2 := kF b5 x2 g2
 obtain ⟨bA, Z, x0, x1, x2⟩ := jkAZC3 b5 bA Z x0 x1 x2
 have hn5 : n5 ≤ 1024 := by have := HN5.out; have := LQ.out; omega
 clear b5 lb5 HN5 OC hI
 obtain ⟨t0, t1, t2⟩ := set3_same (v0 := .bool q.1) (v1 := .slice a5 n5 c5) (v2 := .int .i64 q.2.2) x0 x1 x2
 replace hO5 := hO5.set_dy w.heap.size _ _ _ _ _ (.bool q.1) (.slice a5 n5 c5) (.int .i64 q.2.2) x0 x1 x2
 replace Z := Z.set3 (q := w.heap.size) (v0 := .bool q.1) (v1 := .slice a5 n5 c5) (v2 := .int .i64 q.2.2) (by omega)
 have h0 : (((w5.setCell ⟨w.heap.size, 0, none⟩ (.bool q.1)).setCell ⟨w.heap.size, 1, none⟩ (.slice a5 n5 c5)).setCell ⟨w.heap.size, 2, none⟩ (.int .i64 q.2.2)).frozen? ⟨w.heap.size, 0, none⟩ = false := set3_frozen g0
 have h1 : (((w5.setCell ⟨w.heap.size, 0, none⟩ (.bool q.1)).setCell ⟨w.heap.size, 1, none⟩ (.slice a5 n5 c5)).setCell ⟨w.heap.size, 2, none⟩ (.int .i64 q.2.2)).frozen? ⟨w.heap.size, 1, none⟩ = false := set3_frozen g1
 have h2 : (((w5.setCell ⟨w.heap.size, 0, none⟩ (.bool q.1)).setCell ⟨w.heap.size, 1, none⟩ (.slice a5 n5 c5)).setCell ⟨w.heap.size, 2, none⟩ (.int .i64 q.2.2)).frozen? ⟨w.heap.size, 2, none⟩ = false := set3_frozen g2
 replace bA : Below w.heap.size w (((w5.setCell ⟨w.heap.size, 0, none⟩ (.bool q.1)).setCell ⟨w.heap.size, 1, none⟩ (.slice a5 n5 c5)).setCell ⟨w.heap.size, 2, none⟩ (.int .i64 q.2.2)) := bl3 bA (by omega)
 go_upto_region 6 with fail
 generalize (((w5.setCell ⟨w.heap.size, 0, none⟩ (.bool q.1)).setCell ⟨w.heap.size, 1, none⟩ (.slice a5 n5 c5)).setCell ⟨w.heap.size, 2, none⟩ (.int .i64 q.2.2)) = v5 at *
 clear x0 x1 x2 g0 g1 g2
 clear h0 h1 h2
 go_wp2_with fail
 go_loopw [7] (fun vn wr => ∃ i : Nat, i ≤ 22 + 1 ∧ vn = .int .i64 i ∧ Hid (∀ j, j < i → ¬ hitB false q j = true) ∧ Below v5.heap.size v5 wr) (fun vn _ => 22 + 1 - (intOf vn).toNat)
 case atStart => exact ⟨0, by omega, rfl, (fun j hj => by omega), Below.refl _ _⟩
 case round =>
  obtain ⟨i, hi, rfl, HH, bR⟩ := hrel
  obtain ⟨bA, Z, hO5, t0, t1, t2⟩ := jkAZOC3 bR bA Z hO5 t0 t1 t2
  by_cases hlt : i ≤ 22
  ·by_cases h0 : i = 0
   ·subst h0
    have TC : Hid _ := fun W => dTen_calls 0 (by omega) W
    have OC2 : Hid _ := fun (W : World) (g : IsW W a5 n5 c5 (wO q.2.1)) (b : Option Addr) (m d : Nat) (k : IsW W b m d (wO (10 ^ 0))) (km : m ≤ 1 + 0) => dOrdE q false (wO (10 ^ 0)) 0 a5 n5 c5 b m d W g hn5 k (by omega) OQ.out ⟨by decide, by decide⟩
    simp only [val_words, show formD false (10 ^ 0) 0 = tenD 0 from rfl] at OC2
    have HY : Hid (cmpD q (tenD 0) = 0 → R = (intD ((0 : Nat) : Int), true)) := fun hJ => HR1.out 0 (by omega) (hit_yes (.inl rfl) hJ)
    have HN : Hid (cmpD q (tenD 0) ≠ 0 → ∀ j, j < 0 + 1 → ¬ hitB false q j = true) := fun hJ j hj => by
     by_cases e : j = 0
     ·rw [e]; exact hit_no hJ
     ·exact HH.out j (by omega)
    have IQ : Hid _ := fun W => qint_calls ((0 : Nat) : Int) (by omega) W
    have oI : OkE (intD ((0 : Nat) : Int)) := int_ok _ (by omega)
    have TQ : Hid _ := fun (W : World) (a : Option Addr) (n c : Nat) (h : IsW W a n c (wO (intD ((0 : Nat) : Int)).2.1)) (hn : n ≤ 1024) => dToldE (intD ((0 : Nat) : Int)) a n c W h hn oI
    have LI : Hid _ := okE_len oI
    generalize intD ((0 : Nat) : Int) = I at *
    generalize cmpD q (tenD 0) = J at *
    clear oI HH HR1 HR2
    go_wp2_with fail
    have bw : Below wr.heap.size wr wr.drew := (Below.refl _ _).drew
    refine wp_region_held (S := fun w' => Below wr.heap.size wr w') (by kernel_rfl) ?_
    change wpAnyH _ _ _ _ _ _ _ _ (World.drew wr)
    generalize World.drew wr = wd at bw ⊢
    refine rd1 0 (by kernel_rfl) rfl fun K hK => ?_
    go_simp
    refine hK.out _ _ bw (fun _ => ?_)
    clear hK K
    try simp only [Act.put, sA, sZ, sS]
    refine rd1 1 (by kernel_rfl) rfl fun K hK => ?_
    go_simp
    refine hK.out _ _ bw (fun _ => ?_)
    clear hK K
    try simp only [Act.put, sA, sZ, sS]
    refine rd1 2 (by kernel_rfl) rfl fun K hK => ?_
    go_simp
    refine hK.out _ _ bw (fun _ => ?_)
    clear hK K
    try simp only [Act.put, sA, sZ, sS]
    refine rd1 3 (by kernel_rfl) rfl fun K hK => ?_
    go_simp
    refine hK.out _ _ bw (fun _ => ?_)
    clear hK K
    try simp only [Act.put, sA, sZ, sS]
    refine rd1 4 (by kernel_rfl) rfl fun K hK => ?_
    go_simp
    refine hK.out _ _ bw (fun _ => ?_)
    clear hK K
    try simp only [Act.put, sA, sZ, sS]
    refine rd1 5 (by kernel_rfl) rfl fun K hK => ?_
    go_simp
    refine hK.out _ _ bw (fun _ => ?_)
    clear hK K
    try simp only [Act.put, sA, sZ, sS]
    refine rd1 6 (by kernel_rfl) rfl fun K hK => ?_
    go_simp
    refine hK.out _ _ bw (fun _ => ?_)
    clear hK K
    try simp only [Act.put, sA, sZ, sS]
    refine rd1 7 (by kernel_rfl) rfl fun K hK => ?_
    go_simp
    refine hK.out _ _ bw (fun _ => ?_)
    clear hK K
    try simp only [Act.put, sA, sZ, sS]
    refine rd1 8 (by kernel_rfl) rfl fun K hK => ?_
    go_simp
    refine hK.out _ _ bw (fun _ => ?_)
    clear hK K
    try simp only [Act.put, sA, sZ, sS]
    refine rd1 9 (by kernel_rfl) rfl fun K hK => ?_
    go_simp
    refine hK.out _ _ bw (fun _ => ?_)
    clear hK K
    try simp only [Act.put, sA, sZ, sS]
    refine rd1 10 (by kernel_rfl) rfl fun K hK => ?_
    go_simp
    refine hK.out _ _ bw (fun _ => ?_)
    clear hK K
    try simp only [Act.put, sA, sZ, sS]
    refine tk 12 (.int .i64 0) rfl (by kernel_rfl) (fun _ _ _ h => h) (by rfl) ?_ bw ?_
    ·intro ww hS
     clear hS
     go_simp
     try first | (with_reducible rfl) | rfl
    try simp only [Act.put, sA]
    refine tk 11 (dyV q.1 a5 n5 c5 q.2.2) rfl (by kernel_rfl) (fun _ _ _ h => h) (by rfl) ?_ bw ?_
    ·intro ww hS
     have q0 := kC hS t0
     have q1 := kC hS t1
     have q2 := kC hS t2
     clear hS
     go_simp
     try first | (with_reducible rfl) | rfl
    try simp only [Act.put]
    refine rd1 13 (by kernel_rfl) rfl fun K hK => ?_
    go_simp
    refine cM (TC.out _) ?_
    rintro r wn ⟨_, rfl, ⟨a6, n6, c6, rfl, hn6, hO6⟩, bN⟩
    refine hK.out _ _ (nT bw bN) (fun _ => ?_)
    clear hK K
    replace bw := nT bw bN
    clear bN
    try simp only [Act.put, sA, sZ, sS]
    refine rd1 14 (by kernel_rfl) rfl fun K hK => ?_
    go_simp
    refine cM (OC2.out _ (hO5.1.keep bw) _ _ _ hO6.1 hn6) ?_
    rintro r wm ⟨rfl, bN⟩
    refine hK.out _ _ (nT bw bN) (fun _ => ?_)
    clear hK K
    replace bw := nT bw bN
    clear bN
    try simp only [Act.put, sA, sZ, sS]
    refine rd1 15 (by kernel_rfl) rfl fun K hK => ?_
    go_simp
    refine hK.out _ _ bw (fun _ => ?_)
    clear hK K
    try simp only [Act.put, sA, sZ, sS]
    refine rd1 16 (by kernel_rfl) rfl fun K hK => ?_
    go_simp
    refine hK.out _ _ bw (fun _ => ?_)
    clear hK K
    try simp only [Act.put, sA, sZ, sS]
    refine wpAnyH_done (by kernel_rfl) ?_ _
    clear hO6 TC OC2
    by_cases hJ : J = 0
    ·have eR : Hid _ := HY.out hJ
     clear HY HN
     subst hJ
     obtain ⟨bA, Z, t0, t1, t2⟩ := jkAZC3 bw bA Z t0 t1 t2
     clear bw hO5
     go_wp2_with fail
     refine cM (IQ.out _) ?_
     have lb8 := bA.size
     rintro r w8 ⟨_, rfl, ⟨a8, n8, c8, rfl, HN8, hO8⟩, b8⟩
     replace hO8 := hO8.low lb8
     obtain ⟨bA, Z, t0, t1, t2⟩ := jkAZC3 b8 bA Z t0 t1 t2
     clear b8 lb8
     go_wp2_with fail
     have hn8 : n8 ≤ 1024 := by have := HN8.out; have := LI.out; omega
     refine cM (TQ.out _ _ _ _ hO8.1 hn8) ?_
     have lb9 := bA.size
     rintro r w9 ⟨_, rfl, ⟨a9, n9, c9, rfl, HN9, hO9⟩, b9⟩
     replace hO9 := hO9.low lb9
     obtain ⟨bA, Z, t0, t1, t2⟩ := jkAZC3 b9 bA Z t0 t1 t2
     clear b9 lb9
     obtain ⟨z0, z1, z2, f0, f1, f2⟩ := Z
     go_wp2_with fail
     exact bodyPost_ret (v := .tuple #[dyV I.1 a9 n9 c9 I.2.2, .bool true]) (by simp [results, Tryz.results53, go_sem, z0, z1, z2]) rfl ⟨dyV I.1 a9 n9 c9 I.2.2, by rw [eR.out], by rw [eR.out]; exact dyE HN9 hO9 z0 z1 z2, bl3 bA (by omega)⟩
    ·have HH2 : Hid _ := HN.out hJ
     have hJ2 : (J == 0) = false := by simpa using hJ
     clear HY HN IQ TQ LI hO5
     go_wp2_with fail
     exact ⟨⟨0 + 1, by omega, by go_num, HH2, nT bR bw⟩, by first | (simp [intOf]; done) | (simp [intOf]; omega)⟩
   ·have HH2 : Hid (∀ j, j < i + 1 → ¬ hitB false q j = true) := fun j hj => by
     by_cases e : j = i
     ·rw [e]; exact hit_far h0
     ·exact HH.out j (by omega)
    have hz : (((i : Nat) : Int) == 0) = false := by simp; omega
    clear HH HR1 HR2
    go_wp2_with fail
    go_quiet (fail)
    have bQ : Below wr.heap.size wr (wr.drewN nq) := below_drewN (Below.refl _ _) nq
    go_wp2_with fail
    exact ⟨⟨i + 1, by omega, by go_num, HH2, nT bR bQ⟩, by first | (simp [intOf]; done) | (simp [intOf]; omega)⟩
  ·have eR : Hid _ := HR2.out fun j hj => HH.out j (by omega)
   clear HH HR1 HR2 hO5
   obtain ⟨z0, z1, z2, f0, f1, f2⟩ := Z
   go_wp2_with fail
   exact bodyPost_ret (v := .tuple #[dyV false none 0 0 0, .bool false]) (by simp [results, Tryz.results53, go_sem, z0, z1, z2]) rfl ⟨dyV false none 0 0 0, by rw [eR.out]; rfl, by rw [eR.out]; exact dyQ_zero _ _, bl3 bA (by omega)⟩
end Go.Proofs.YtiijfnaaekmpbaaGreatDoor

/- The document's exact cases: whole numbers, quarters. -/
import Derived.Test.YtiijfnaaekmpbaaGreatDoorED2
import Derived.Test.YtiijfnaaekmpbaaGreatDoorFX
namespace Go.Proofs.YtiijfnaaekmpbaaGreatDoor
open Go.RowKit
set_option maxHeartbeats 4000000
set_option maxRecDepth 100000
def Zr (r : Nat) (W : World) : Prop := W.cell? ⟨r, 0, none⟩ = some (.bool false) ∧ W.cell? ⟨r, 1, none⟩ = some (.slice none 0 0) ∧ W.cell? ⟨r, 2, none⟩ = some (.int .i64 0) ∧ W.frozen? ⟨r, 0, none⟩ = false ∧ W.frozen? ⟨r, 1, none⟩ = false ∧ W.frozen? ⟨r, 2, none⟩ = false
theorem Zr.keep {r : Nat} {W V : World} (h : Zr r W) (b : Below W.heap.size W V) : Zr r V := by
 obtain ⟨z0, z1, z2, f0, f1, f2⟩ := h
 exact ⟨kC b z0, kC b z1, kC b z2, kF b z0 f0, kF b z1 f1, kF b z2 f2⟩
theorem Zr.set1 {r : Nat} {W : World} (h : Zr r W) (p : Addr) (v : Value) (hp : p.block ≠ r) : Zr r (W.setCell p v) := by
 obtain ⟨z0, z1, z2, f0, f1, f2⟩ := h
 have k : ∀ o : Nat, p ≠ ⟨r, o, none⟩ := fun o e => hp (by rw [e])
 exact ⟨(World.cell?_setCell_other _ _ _ _ (k 0)).trans z0, (World.cell?_setCell_other _ _ _ _ (k 1)).trans z1, (World.cell?_setCell_other _ _ _ _ (k 2)).trans z2, (World.frozen?_setCell W _ _ _).trans f0, (World.frozen?_setCell W _ _ _).trans f1, (World.frozen?_setCell W _ _ _).trans f2⟩
theorem Zr.set3 {r q : Nat} {W : World} {v0 v1 v2 : Value} (h : Zr r W) (hq : q ≠ r) : Zr r (((W.setCell ⟨q, 0, none⟩ v0).setCell ⟨q, 1, none⟩ v1).setCell ⟨q, 2, none⟩ v2) := ((h.set1 _ v0 hq).set1 _ v1 hq).set1 _ v2 hq
theorem zrA (w : World) : Zr w.heap.size (w.alloc (.cells #[.bool false, .slice none 0 0, .int .i64 0] 27)) := ⟨by go_simp, by go_simp, by go_simp, by go_simp, by go_simp, by go_simp⟩
theorem zrB (w : World) (s : Bool) (a : Option Addr) (n c : Nat) (e : Int) : Zr (w.heap.size + 1) ((w.alloc (.cells #[.bool s, .slice a n c, .int .i64 e] 27)).alloc (.cells #[.bool false, .slice none 0 0, .int .i64 0] 27)) := ⟨by go_simp, by go_simp, by go_simp, by go_simp, by go_simp, by go_simp⟩
theorem zrC (w : World) : Zr w.heap.size ((w.alloc (.cells #[.bool false, .slice none 0 0, .int .i64 0] 27)).alloc (.cells #[.bool false, .slice none 0 0, .int .i64 0] 27)) := ⟨by go_simp, by go_simp, by go_simp, by go_simp, by go_simp, by go_simp⟩
theorem dyE {B r n c : Nat} {W : World} {P : E3} {a : Option Addr} {v0 v1 v2 : Value} (HN : Hid (n = (wO P.2.1).length)) (hO : OwnW B W a n c (wO P.2.1)) (z0 : W.cell? ⟨r, 0, none⟩ = some (.bool false)) (z1 : W.cell? ⟨r, 1, none⟩ = some (.slice none 0 0)) (z2 : W.cell? ⟨r, 2, none⟩ = some (.int .i64 0)) : DyQ B (((W.setCell ⟨r, 0, none⟩ v0).setCell ⟨r, 1, none⟩ v1).setCell ⟨r, 2, none⟩ v2) (dyV P.1 a n c P.2.2) P := ⟨a, n, c, rfl, HN, hO.set_dy _ _ _ _ _ _ _ _ _ z0 z1 z2⟩
theorem bl3 {r : Nat} {w W : World} {v0 v1 v2 : Value} (h : Below w.heap.size w W) (hr : w.heap.size ≤ r) : Below w.heap.size w (((W.setCell ⟨r, 0, none⟩ v0).setCell ⟨r, 1, none⟩ v1).setCell ⟨r, 2, none⟩ v2) := ((h.setCell (p := ⟨r, 0, none⟩) hr v0).setCell (p := ⟨r, 1, none⟩) hr v1).setCell (p := ⟨r, 2, none⟩) hr v2
theorem cy3 {w W : World} (b : Below w.heap.size w W) {p q r : Addr} {u v x : Value} {G : Prop} (K : W.cell? p = some u → W.cell? q = some v → W.cell? r = some x → G) : w.cell? p = some u → w.cell? q = some v → w.cell? r = some x → G := fun i j k => K (kC b i) (kC b j) (kC b k)
theorem jkAZ {w W : World} (b : Below w.heap.size w W) {u : World} (A : Below u.heap.size u w) {r : Nat} (Z : Zr r w) : Below u.heap.size u W ∧ Zr r W := ⟨nT A b, Z.keep b⟩
theorem jkAZO {w W : World} (b : Below w.heap.size w W) {u : World} (A : Below u.heap.size u w) {r : Nat} (Z : Zr r w) {B0 : Nat} {a0 : Option Addr} {l0 c0 : Nat} {x0 : List Int} (o0 : OwnW B0 w a0 l0 c0 x0) : Below u.heap.size u W ∧ Zr r W ∧ OwnW B0 W a0 l0 c0 x0 := ⟨nT A b, Z.keep b, o0.keep b⟩
theorem jkAZOC3 {w W : World} (b : Below w.heap.size w W) {u : World} (A : Below u.heap.size u w) {r : Nat} (Z : Zr r w) {B0 : Nat} {a0 : Option Addr} {l0 c0 : Nat} {x0 : List Int} (o0 : OwnW B0 w a0 l0 c0 x0) {p0 p1 p2 : Addr} {v0 v1 v2 : Value} (z0 : w.cell? p0 = some v0) (z1 : w.cell? p1 = some v1) (z2 : w.cell? p2 = some v2) : Below u.heap.size u W ∧ Zr r W ∧ OwnW B0 W a0 l0 c0 x0 ∧ W.cell? p0 = some v0 ∧ W.cell? p1 = some v1 ∧ W.cell? p2 = some v2 := ⟨nT A b, Z.keep b, o0.keep b, kC b z0, kC b z1, kC b z2⟩
theorem jkAZO2C3 {w W : World} (b : Below w.heap.size w W) {u : World} (A : Below u.heap.size u w) {r : Nat} (Z : Zr r w) {B0 : Nat} {a0 : Option Addr} {l0 c0 : Nat} {x0 : List Int} (o0 : OwnW B0 w a0 l0 c0 x0) {B1 : Nat} {a1 : Option Addr} {l1 c1 : Nat} {x1 : List Int} (o1 : OwnW B1 w a1 l1 c1 x1) {p0 p1 p2 : Addr} {v0 v1 v2 : Value} (z0 : w.cell? p0 = some v0) (z1 : w.cell? p1 = some v1) (z2 : w.cell? p2 = some v2) : Below u.heap.size u W ∧ Zr r W ∧ OwnW B0 W a0 l0 c0 x0 ∧ OwnW B1 W a1 l1 c1 x1 ∧ W.cell? p0 = some v0 ∧ W.cell? p1 = some v1 ∧ W.cell? p2 = some v2 := ⟨nT A b, Z.keep b, o0.keep b, o1.keep b, kC b z0, kC b z1, kC b z2⟩
theorem jkAZO2C6 {w W : World} (b : Below w.heap.size w W) {u : World} (A : Below u.heap.size u w) {r : Nat} (Z : Zr r w) {B0 : Nat} {a0 : Option Addr} {l0 c0 : Nat} {x0 : List Int} (o0 : OwnW B0 w a0 l0 c0 x0) {B1 : Nat} {a1 : Option Addr} {l1 c1 : Nat} {x1 : List Int} (o1 : OwnW B1 w a1 l1 c1 x1) {p0 p1 p2 p3 p4 p5 : Addr} {v0 v1 v2 v3 v4 v5 : Value} (z0 : w.cell? p0 = some v0) (z1 : w.cell? p1 = some v1) (z2 : w.cell? p2 = some v2) (z3 : w.cell? p3 = some v3) (z4 : w.cell? p4 = some v4) (z5 : w.cell? p5 = some v5) : Below u.heap.size u W ∧ Zr r W ∧ OwnW B0 W a0 l0 c0 x0 ∧ OwnW B1 W a1 l1 c1 x1 ∧ W.cell? p0 = some v0 ∧ W.cell? p1 = some v1 ∧ W.cell? p2 = some v2 ∧ W.cell? p3 = some v3 ∧ W.cell? p4 = some v4 ∧ W.cell? p5 = some v5 := ⟨nT A b, Z.keep b, o0.keep b, o1.keep b, kC b z0, kC b z1, kC b z2, kC b z3, kC b z4, kC b z5⟩
theorem jkAZC3 {w W : World} (b : Below w.heap.size w W) {u : World} (A : Below u.heap.size u w) {r : Nat} (Z : Zr r w) {p0 p1 p2 : Addr} {v0 v1 v2 : Value} (z0 : w.cell? p0 = some v0) (z1 : w.cell? p1 = some v1) (z2 : w.cell? p2 = some v2) : Below u.heap.size u W ∧ Zr r W ∧ W.cell? p0 = some v0 ∧ W.cell? p1 = some v1 ∧ W.cell? p2 = some v2 := ⟨nT A b, Z.keep b, kC b z0, kC b z1, kC b z2⟩
theorem dToldE (p : E3) (a : Option Addr) (n c : Nat) (w : World) (h : IsW w a n c (wO p.2.1)) (hn : n ≤ 1024) (hp : OkE p) :
  Calls Tryz.prog 86 #[dyV p.1 a n c p.2.2] w fun r w' => ∃ v, r = .returned (.tuple #[v, .bool true]) ∧ DyQ w.heap.size w' v p ∧ Below w.heap.size w w' := by
 have hb := okE_bd hp
 have H := dTold_calls p.1 a n c (wO p.2.1) p.2.2 w h (by omega) (by omega)
 rw [val_words, hp.form] at H
 exact H
theorem dRight_small (m : Nat) (e : Int) (h : m < 18446744073709551616) (he : -32768 ≤ e ∧ e ≤ 32768) : rightB m e = true := by
 unfold rightB
 rw [(great_not m).2 (by have := (blen_le m 64).2 (by have : (2 : Nat) ^ 64 = 18446744073709551616 := rfl; omega); omega), show inB e = true from decide_eq_true he]
 rfl
theorem one_ok (s : Bool) (n : Int) (h : -32768 ≤ n ∧ n ≤ 32768) : OkE (s, 1, n) := ⟨.inr rfl, dRight_small 1 n (by decide) h⟩
theorem wh_word {V : Nat} (h : V < 18446744073709551616) (h0 : V ≠ 0) : wO V = [(V : Int)] := by
 rw [wO, dif_neg h0, Nat.div_eq_of_lt h, words_zero, Nat.mod_eq_of_lt h]
theorem isW_first {w : World} {a : Option Addr} {n c : Nat} {x : Int} {xs : List Int} (h : IsW w a n c (x :: xs)) : ∃ b off, a = some ⟨b, off, none⟩ ∧ b < w.heap.size ∧ w.cell? ⟨b, off, none⟩ = some (.int .u64 x) := by
 obtain ⟨b, off, e, hb, hc⟩ := h.2.2.2 0 (by have := h.1; simp at this; omega)
 exact ⟨b, off, e, hb, by simpa using hc⟩
theorem dWhole_calls (s : Bool) (M : Nat) (e : Int) (a : Option Addr) (n c : Nat) (w : World) (h : IsW w a n c (wO M)) (hn : n ≤ 1024) (hp : OkE (s, M, e)) :
  Calls Tryz.prog 88 #[dyV s a n c e] w fun r w' => r = .returned (.tuple #[.int .i64 (whD (s, M, e)).1, .bool (whD (s, M, e)).2]) ∧ Below w.heap.size w w' := by
 have bA := below_one w (.cells #[.bool s, .slice a n c, .int .i64 e] 27)
 obtain ⟨x0, x1, x2, g0, g1, g2⟩ := fX18 w s a n c e _ rfl
 have hb := okE_bd hp
 simp only at hb
 have OC : Hid _ := qOne_calls s a n c (wO M) e _ (h.keep bA) (by omega) (by omega)
 rw [val_words, show formD s M e = (s, M, e) from hp.form] at OC
 have HL : Hid ((wO M).length ≤ 1024) := okE_len hp
 have O1 : Hid _ := fun (W : World) (a : Option Addr) (n c : Nat) (h : IsW W a n c (wO M)) (hn : n ≤ 1024) => dOrder_calls (s, M, e) a n c 16384 W h hn hp ⟨by decide, by decide⟩
 have O2 : Hid _ := fun (W : World) (a : Option Addr) (n c : Nat) (h : IsW W a n c (wO M)) (hn : n ≤ 1024) => dOrder_calls (s, M, e) a n c (-16384) W h hn hp ⟨by decide, by decide⟩
 by_cases h1 : e < 0
 ·rw [show whD (s, M, e) = (0, false) from if_pos (.inl h1)]
  clear O1 O2 hb h hp hn
  go_enter Tryz.func88, Tryz.ntmps88
  go_wp2_with fail
  generalize (w.alloc (.cells #[.bool s, .slice a n c, .int .i64 e] 27)) = w0 at *
  refine cM OC.out ?_
  have lb := bA.size
  rintro r w1 ⟨_, rfl, ⟨a1, n1, c1, rfl, HN1, hO1⟩, b1⟩
  replace hO1 := hO1.low lb
  replace g0 := kF b1 x0 g0; replace g1 := kF b1 x1 g1; replace g2 := kF b1 x2 g2
  replace x0 := kC b1 x0; replace x1 := kC b1 x1; replace x2 := kC b1 x2; replace bA := nT bA b1
  have hn1 : n1 ≤ 1024 := by have e2 : n1 = (wO M).length := HN1.out; have := HL.out; omega
  obtain ⟨t0, t1, t2⟩ := set3_same (v0 := .bool s) (v1 := .slice a1 n1 c1) (v2 := .int .i64 (e)) x0 x1 x2
  replace hO1 := hO1.set_dy w.heap.size _ _ _ _ _ (.bool s) (.slice a1 n1 c1) (.int .i64 (e)) x0 x1 x2
  replace bA : Below w.heap.size w (((w1.setCell ⟨w.heap.size, 0, none⟩ (.bool s)).setCell ⟨w.heap.size, 1, none⟩ (.slice a1 n1 c1)).setCell ⟨w.heap.size, 2, none⟩ (.int .i64 e)) := by repeat (first | (with_reducible exact bA) | (with_reducible refine Below.setCell ?_ (by simp; try omega) _) | (with_reducible refine Below.alloc ?_ (by have := bA.size; simp; try omega) _))
  clear b1 lb HN1 OC
  go_upto_region 2 with fail
  generalize (((w1.setCell ⟨w.heap.size, 0, none⟩ (.bool s)).setCell ⟨w.heap.size, 1, none⟩ (.slice a1 n1 c1)).setCell ⟨w.heap.size, 2, none⟩ (.int .i64 e)) = v1 at *
  clear x0 x1 x2 g0 g1 g2
  go_wp2_with fail
  go_ret2
  exact ⟨rfl, bA⟩
 by_cases h2 : 0 < agI (s, M, e) 16384
 ·rw [show whD (s, M, e) = (0, false) from if_pos (.inr (.inl h2))]
  generalize agI (s, M, e) 16384 = J1 at *
  clear O2 hb h hp hn
  go_enter Tryz.func88, Tryz.ntmps88
  go_wp2_with fail
  generalize (w.alloc (.cells #[.bool s, .slice a n c, .int .i64 e] 27)) = w0 at *
  refine cM OC.out ?_
  have lb := bA.size
  rintro r w1 ⟨_, rfl, ⟨a1, n1, c1, rfl, HN1, hO1⟩, b1⟩
  replace hO1 := hO1.low lb
  replace g0 := kF b1 x0 g0; replace g1 := kF b1 x1 g1; replace g2 := kF b1 x2 g2
  replace x0 := kC b1 x0; replace x1 := kC b1 x1; replace x2 := kC b1 x2; replace bA := nT bA b1
  have hn1 : n1 ≤ 1024 := by have e2 : n1 = (wO M).length := HN1.out; have := HL.out; omega
  obtain ⟨t0, t1, t2⟩ := set3_same (v0 := .bool s) (v1 := .slice a1 n1 c1) (v2 := .int .i64 (e)) x0 x1 x2
  replace hO1 := hO1.set_dy w.heap.size _ _ _ _ _ (.bool s) (.slice a1 n1 c1) (.int .i64 (e)) x0 x1 x2
  replace bA : Below w.heap.size w (((w1.setCell ⟨w.heap.size, 0, none⟩ (.bool s)).setCell ⟨w.heap.size, 1, none⟩ (.slice a1 n1 c1)).setCell ⟨w.heap.size, 2, none⟩ (.int .i64 e)) := by repeat (first | (with_reducible exact bA) | (with_reducible refine Below.setCell ?_ (by simp; try omega) _) | (with_reducible refine Below.alloc ?_ (by have := bA.size; simp; try omega) _))
  clear b1 lb HN1 OC
  go_upto_region 2 with fail
  generalize (((w1.setCell ⟨w.heap.size, 0, none⟩ (.bool s)).setCell ⟨w.heap.size, 1, none⟩ (.slice a1 n1 c1)).setCell ⟨w.heap.size, 2, none⟩ (.int .i64 e)) = v1 at *
  clear x0 x1 x2 g0 g1 g2
  go_wp2_with fail
  refine cM (O1.out _ _ _ _ hO1.1 hn1) ?_
  rintro r u1 ⟨rfl, b1⟩
  replace t0 := kC b1 t0; replace t1 := kC b1 t1; replace t2 := kC b1 t2; replace hO1 := hO1.keep b1; replace bA := nT bA b1
  clear b1
  go_wp2_with fail
  go_ret2
  exact ⟨rfl, bA⟩
 by_cases h3 : agI (s, M, e) (-16384) < 0
 ·rw [show whD (s, M, e) = (0, false) from if_pos (.inr (.inr h3))]
  generalize agI (s, M, e) 16384 = J1 at *
  generalize agI (s, M, e) (-16384) = J2 at *
  clear hb h hp hn
  go_enter Tryz.func88, Tryz.ntmps88
  go_wp2_with fail
  generalize (w.alloc (.cells #[.bool s, .slice a n c, .int .i64 e] 27)) = w0 at *
  refine cM OC.out ?_
  have lb := bA.size
  rintro r w1 ⟨_, rfl, ⟨a1, n1, c1, rfl, HN1, hO1⟩, b1⟩
  replace hO1 := hO1.low lb
  replace g0 := kF b1 x0 g0; replace g1 := kF b1 x1 g1; replace g2 := kF b1 x2 g2
  replace x0 := kC b1 x0; replace x1 := kC b1 x1; replace x2 := kC b1 x2; replace bA := nT bA b1
  have hn1 : n1 ≤ 1024 := by have e2 : n1 = (wO M).length := HN1.out; have := HL.out; omega
  obtain ⟨t0, t1, t2⟩ := set3_same (v0 := .bool s) (v1 := .slice a1 n1 c1) (v2 := .int .i64 (e)) x0 x1 x2
  replace hO1 := hO1.set_dy w.heap.size _ _ _ _ _ (.bool s) (.slice a1 n1 c1) (.int .i64 (e)) x0 x1 x2
  replace bA : Below w.heap.size w (((w1.setCell ⟨w.heap.size, 0, none⟩ (.bool s)).setCell ⟨w.heap.size, 1, none⟩ (.slice a1 n1 c1)).setCell ⟨w.heap.size, 2, none⟩ (.int .i64 e)) := by repeat (first | (with_reducible exact bA) | (with_reducible refine Below.setCell ?_ (by simp; try omega) _) | (with_reducible refine Below.alloc ?_ (by have := bA.size; simp; try omega) _))
  clear b1 lb HN1 OC
  go_upto_region 2 with fail
  generalize (((w1.setCell ⟨w.heap.size, 0, none⟩ (.bool s)).setCell ⟨w.heap.size, 1, none⟩ (.slice a1 n1 c1)).setCell ⟨w.heap.size, 2, none⟩ (.int .i64 e)) = v1 at *
  clear x0 x1 x2 g0 g1 g2
  go_wp2_with fail
  refine cM (O1.out _ _ _ _ hO1.1 hn1) ?_
  rintro r u1 ⟨rfl, b1⟩
  replace t0 := kC b1 t0; replace t1 := kC b1 t1; replace t2 := kC b1 t2; replace hO1 := hO1.keep b1; replace bA := nT bA b1
  clear b1
  go_wp2_with fail
  refine cM (O2.out _ _ _ _ hO1.1 hn1) ?_
  rintro r u2 ⟨rfl, b2⟩
  replace t0 := kC b2 t0; replace t1 := kC b2 t1; replace t2 := kC b2 t2; replace hO1 := hO1.keep b2; replace bA := nT bA b2
  clear b2
  go_wp2_with fail
  go_ret2
  exact ⟨rfl, bA⟩
 have e0 : whD (s, M, e) = (whI (s, M, e), true) := if_neg (by rintro (q | q | q) <;> contradiction)
 obtain ⟨_, _, k2, k3⟩ := wh_yes (p := (s, M, e)) (by rw [e0])
 rw [e0]
 clear e0
 have h1' : 0 ≤ e := by omega
 obtain ⟨m, rfl⟩ : ∃ m : Nat, e = (m : Int) := ⟨e.toNat, by omega⟩
 have SC : Hid _ := fun (W : World) (a : Option Addr) (n c : Nat) (h : IsW W a n c (wO M)) (hn : n ≤ 1024) => nShl_calls a n c m (wO M) W h (by omega) (by omega)
 simp only [val_words] at SC
 have eV : whI (s, M, (m : Int)) = sI s * ((M * 2 ^ m : Nat) : Int) := by unfold whI; simp only [Int.toNat_natCast]
 rw [eV] at k2 k3 ⊢
 clear eV
 have hV : M * 2 ^ m ≤ 16384 := by
  generalize M * 2 ^ m = V at k2 k3
  cases s <;> simp [sI] at k2 k3 <;> omega
 generalize agI (s, M, (m : Int)) 16384 = J1 at *
 generalize agI (s, M, (m : Int)) (-16384) = J2 at *
 generalize M * 2 ^ m = V at *
 clear k2 k3 hb h hp hn h1
 by_cases hz : V = 0
 ·subst hz
  rw [words_zero] at SC
  rw [show sI s * ((0 : Nat) : Int) = 0 by simp]
  go_enter Tryz.func88, Tryz.ntmps88
  go_wp2_with fail
  generalize (w.alloc (.cells #[.bool s, .slice a n c, .int .i64 (m : Int)] 27)) = w0 at *
  refine cM OC.out ?_
  have lb := bA.size
  rintro r w1 ⟨_, rfl, ⟨a1, n1, c1, rfl, HN1, hO1⟩, b1⟩
  replace hO1 := hO1.low lb
  replace g0 := kF b1 x0 g0; replace g1 := kF b1 x1 g1; replace g2 := kF b1 x2 g2
  replace x0 := kC b1 x0; replace x1 := kC b1 x1; replace x2 := kC b1 x2; replace bA := nT bA b1
  have hn1 : n1 ≤ 1024 := by have e2 : n1 = (wO M).length := HN1.out; have := HL.out; omega
  obtain ⟨t0, t1, t2⟩ := set3_same (v0 := .bool s) (v1 := .slice a1 n1 c1) (v2 := .int .i64 ((m : Int))) x0 x1 x2
  replace hO1 := hO1.set_dy w.heap.size _ _ _ _ _ (.bool s) (.slice a1 n1 c1) (.int .i64 ((m : Int))) x0 x1 x2
  replace bA : Below w.heap.size w (((w1.setCell ⟨w.heap.size, 0, none⟩ (.bool s)).setCell ⟨w.heap.size, 1, none⟩ (.slice a1 n1 c1)).setCell ⟨w.heap.size, 2, none⟩ (.int .i64 (m : Int))) := by repeat (first | (with_reducible exact bA) | (with_reducible refine Below.setCell ?_ (by simp; try omega) _) | (with_reducible refine Below.alloc ?_ (by have := bA.size; simp; try omega) _))
  clear b1 lb HN1 OC
  go_upto_region 2 with fail
  generalize (((w1.setCell ⟨w.heap.size, 0, none⟩ (.bool s)).setCell ⟨w.heap.size, 1, none⟩ (.slice a1 n1 c1)).setCell ⟨w.heap.size, 2, none⟩ (.int .i64 (m : Int))) = v1 at *
  clear x0 x1 x2 g0 g1 g2
  go_wp2_with fail
  refine cM (O1.out _ _ _ _ hO1.1 hn1) ?_
  rintro r u1 ⟨rfl, b1⟩
  replace t0 := kC b1 t0; replace t1 := kC b1 t1; replace t2 := kC b1 t2; replace hO1 := hO1.keep b1; replace bA := nT bA b1
  clear b1
  go_wp2_with fail
  refine cM (O2.out _ _ _ _ hO1.1 hn1) ?_
  rintro r u2 ⟨rfl, b2⟩
  replace t0 := kC b2 t0; replace t1 := kC b2 t1; replace t2 := kC b2 t2; replace hO1 := hO1.keep b2; replace bA := nT bA b2
  clear b2
  go_wp2_with fail
  refine cM (SC.out _ _ _ _ hO1.1 hn1) ?_
  rintro r u3 ⟨a3, c3, rfl, hO3, b3⟩
  replace bA := nT bA b3
  clear b3 hO3
  go_wp2_with fail
  go_ret2
  exact ⟨rfl, bA⟩
 ·have hw := wh_word (show V < 18446744073709551616 by omega) hz
  rw [hw] at SC
  clear hw
  cases s with
  | false =>
   rw [show sI false * ((V : Nat) : Int) = V by simp [sI]]
   go_enter Tryz.func88, Tryz.ntmps88
   go_wp2_with fail
   generalize (w.alloc (.cells #[.bool false, .slice a n c, .int .i64 (m : Int)] 27)) = w0 at *
   refine cM OC.out ?_
   have lb := bA.size
   rintro r w1 ⟨_, rfl, ⟨a1, n1, c1, rfl, HN1, hO1⟩, b1⟩
   replace hO1 := hO1.low lb
   replace g0 := kF b1 x0 g0; replace g1 := kF b1 x1 g1; replace g2 := kF b1 x2 g2
   replace x0 := kC b1 x0; replace x1 := kC b1 x1; replace x2 := kC b1 x2; replace bA := nT bA b1
   have hn1 : n1 ≤ 1024 := by have e2 : n1 = (wO M).length := HN1.out; have := HL.out; omega
   obtain ⟨t0, t1, t2⟩ := set3_same (v0 := .bool false) (v1 := .slice a1 n1 c1) (v2 := .int .i64 ((m : Int))) x0 x1 x2
   replace hO1 := hO1.set_dy w.heap.size _ _ _ _ _ (.bool false) (.slice a1 n1 c1) (.int .i64 ((m : Int))) x0 x1 x2
   replace bA : Below w.heap.size w (((w1.setCell ⟨w.heap.size, 0, none⟩ (.bool false)).setCell ⟨w.heap.size, 1, none⟩ (.slice a1 n1 c1)).setCell ⟨w.heap.size, 2, none⟩ (.int .i64 (m : Int))) := by repeat (first | (with_reducible exact bA) | (with_reducible refine Below.setCell ?_ (by simp; try omega) _) | (with_reducible refine Below.alloc ?_ (by have := bA.size; simp; try omega) _))
   clear b1 lb HN1 OC
   go_upto_region 2 with fail
   generalize (((w1.setCell ⟨w.heap.size, 0, none⟩ (.bool false)).setCell ⟨w.heap.size, 1, none⟩ (.slice a1 n1 c1)).setCell ⟨w.heap.size, 2, none⟩ (.int .i64 (m : Int))) = v1 at *
   clear x0 x1 x2 g0 g1 g2
   go_wp2_with fail
   refine cM (O1.out _ _ _ _ hO1.1 hn1) ?_
   rintro r u1 ⟨rfl, b1⟩
   replace t0 := kC b1 t0; replace t1 := kC b1 t1; replace t2 := kC b1 t2; replace hO1 := hO1.keep b1; replace bA := nT bA b1
   clear b1
   go_wp2_with fail
   refine cM (O2.out _ _ _ _ hO1.1 hn1) ?_
   rintro r u2 ⟨rfl, b2⟩
   replace t0 := kC b2 t0; replace t1 := kC b2 t1; replace t2 := kC b2 t2; replace hO1 := hO1.keep b2; replace bA := nT bA b2
   clear b2
   go_wp2_with fail
   refine cM (SC.out _ _ _ _ hO1.1 hn1) ?_
   rintro r u3 ⟨a3, c3, rfl, hO3, b3⟩
   replace t0 := kC b3 t0; replace t1 := kC b3 t1; replace t2 := kC b3 t2; replace bA := nT bA b3
   obtain ⟨bb, off, rfl, hbl, hcell⟩ := isW_first (hO3.isW (fun y hy => by simp at hy; omega))
   clear b3 hO3
   go_wp2_with fail
   go_ret2
   exact ⟨by first | rfl | simp, bA⟩
  | true =>
   rw [show sI true * ((V : Nat) : Int) = 0 - (V : Int) by simp [sI]]
   go_enter Tryz.func88, Tryz.ntmps88
   go_wp2_with fail
   generalize (w.alloc (.cells #[.bool true, .slice a n c, .int .i64 (m : Int)] 27)) = w0 at *
   refine cM OC.out ?_
   have lb := bA.size
   rintro r w1 ⟨_, rfl, ⟨a1, n1, c1, rfl, HN1, hO1⟩, b1⟩
   replace hO1 := hO1.low lb
   replace g0 := kF b1 x0 g0; replace g1 := kF b1 x1 g1; replace g2 := kF b1 x2 g2
   replace x0 := kC b1 x0; replace x1 := kC b1 x1; replace x2 := kC b1 x2; replace bA := nT bA b1
   have hn1 : n1 ≤ 1024 := by have e2 : n1 = (wO M).length := HN1.out; have := HL.out; omega
   obtain ⟨t0, t1, t2⟩ := set3_same (v0 := .bool true) (v1 := .slice a1 n1 c1) (v2 := .int .i64 ((m : Int))) x0 x1 x2
   replace hO1 := hO1.set_dy w.heap.size _ _ _ _ _ (.bool true) (.slice a1 n1 c1) (.int .i64 ((m : Int))) x0 x1 x2
   replace bA : Below w.heap.size w (((w1.setCell ⟨w.heap.size, 0, none⟩ (.bool true)).setCell ⟨w.heap.size, 1, none⟩ (.slice a1 n1 c1)).setCell ⟨w.heap.size, 2, none⟩ (.int .i64 (m : Int))) := by repeat (first | (with_reducible exact bA) | (with_reducible refine Below.setCell ?_ (by simp; try omega) _) | (with_reducible refine Below.alloc ?_ (by have := bA.size; simp; try omega) _))
   clear b1 lb HN1 OC
   go_upto_region 2 with fail
   generalize (((w1.setCell ⟨w.heap.size, 0, none⟩ (.bool true)).setCell ⟨w.heap.size, 1, none⟩ (.slice a1 n1 c1)).setCell ⟨w.heap.size, 2, none⟩ (.int .i64 (m : Int))) = v1 at *
   clear x0 x1 x2 g0 g1 g2
   go_wp2_with fail
   refine cM (O1.out _ _ _ _ hO1.1 hn1) ?_
   rintro r u1 ⟨rfl, b1⟩
   replace t0 := kC b1 t0; replace t1 := kC b1 t1; replace t2 := kC b1 t2; replace hO1 := hO1.keep b1; replace bA := nT bA b1
   clear b1
   go_wp2_with fail
   refine cM (O2.out _ _ _ _ hO1.1 hn1) ?_
   rintro r u2 ⟨rfl, b2⟩
   replace t0 := kC b2 t0; replace t1 := kC b2 t1; replace t2 := kC b2 t2; replace hO1 := hO1.keep b2; replace bA := nT bA b2
   clear b2
   go_wp2_with fail
   refine cM (SC.out _ _ _ _ hO1.1 hn1) ?_
   rintro r u3 ⟨a3, c3, rfl, hO3, b3⟩
   replace t0 := kC b3 t0; replace t1 := kC b3 t1; replace t2 := kC b3 t2; replace bA := nT bA b3
   obtain ⟨bb, off, rfl, hbl, hcell⟩ := isW_first (hO3.isW (fun y hy => by simp at hy; omega))
   clear b3 hO3
   go_wp2_with fail
   go_ret2
   exact ⟨by first | rfl | simp, bA⟩
theorem ret2q {a b : Int} {t : Bool} (h : a = b) : Ending.returned (.tuple #[.int .i64 a, .bool t]) = .returned (.tuple #[.int .i64 b, .bool t]) := by rw [h]
theorem first_word (M : Nat) (h : M ≠ 0) : (wO M).getD 0 0 = ((M % 18446744073709551616 : Nat) : Int) := by
 rw [wO, dif_neg h]; rfl
theorem eight_pow (S : Bool) (M : Nat) (E : Int) (h : 3 ≤ E) : vI (S, M, E) 0 % 8 = 0 := by
 unfold vI
 simp only
 obtain ⟨j, hj⟩ : ∃ j, (E - 0).toNat = 3 + j := ⟨(E - 0).toNat - 3, by omega⟩
 rw [hj, Nat.pow_add, show M * (2 ^ 3 * 2 ^ j) = 8 * (M * 2 ^ j) by rw [show (2 : Nat) ^ 3 = 8 from rfl, Nat.mul_left_comm]]
 cases S <;> simp [sI] <;> omega
theorem dQuart_calls (s : Bool) (m : Nat) (e : Int) (a : Option Addr) (n c : Nat) (w : World) (h : IsW w a n c (wO m)) (hn : n ≤ 1024) (hp : OkE (s, m, e)) :
  Calls Tryz.prog 26 #[dyV s a n c e] w fun r w' => r = .returned (.tuple #[.int .i64 (quD (s, m, e)).1, .bool (quD (s, m, e)).2]) ∧ Below w.heap.size w w' := by
 have bA := below_one w (.cells #[.bool s, .slice a n c, .int .i64 e] 27)
 obtain ⟨x0, x1, x2, g0, g1, g2⟩ := fX18 w s a n c e _ rfl
 have hb := okE_bd hp
 simp only at hb
 have TC : Hid _ := qTwice_calls s a n c (wO m) e 2 _ (h.keep bA) (by omega) (by omega)
 rw [val_words] at TC
 have hq : qpD (s, m, e) = formD s m (e + 2) := rfl
 have hc : CanD (qpD (s, m, e)) := form_can _ _ _
 have hL : (wO (qpD (s, m, e)).2.1).length ≤ 1024 := Nat.le_trans (words_mono (form_amount_le s m (e + 2))) (okE_len hp)
 have hE : -40000 ≤ (qpD (s, m, e)).2.2 ∧ (qpD (s, m, e)).2.2 ≤ 140000 := by
  have := form_expb s m (e + 2) (by omega) (by omega)
  rw [hq]
  unfold formD
  split
  ·exact ⟨by decide, by decide⟩
  ·have := tz_le_blen m
   show _ ≤ e + 2 + (tz m : Int) ∧ e + 2 + (tz m : Int) ≤ _
   omega
 unfold quD
 rw [← hq] at TC
 clear hq hp h hn hb
 generalize qpD (s, m, e) = q at *
 obtain ⟨S, M, E⟩ := q
 simp only at TC hL hE hc ⊢
 have OC : Hid _ := fun (W : World) (a : Option Addr) (n c : Nat) (h : IsW W a n c (wO M)) (hn : n ≤ 1024) => qOne_calls S a n c (wO M) E W h (by omega) (by omega)
 simp only [val_words, show formD S M E = (S, M, E) from form_of_can hc] at OC
 have HL : Hid ((wO M).length ≤ 1024) := hL
 have ZC : Hid _ := fun (W : World) (a : Option Addr) (n c : Nat) (h : IsW W a n c (wO M)) (hn : n ≤ 1024) => dZeroE (S, M, E) a n c W h hn
 simp only at ZC
 by_cases h1 : E < 0
 ·rw [if_pos h1]
  clear ZC hc hL hE
  go_enter Tryz.func26, Tryz.ntmps26
  go_wp2_with fail
  generalize (w.alloc (.cells #[.bool s, .slice a n c, .int .i64 e] 27)) = w0 at *
  refine cM TC.out ?_
  have lb0 := bA.size
  rintro r w9 ⟨_, rfl, ⟨a0, n0, c0, rfl, HN0, hO0⟩, b0⟩
  replace g0 := kF b0 x0 g0; replace g1 := kF b0 x1 g1; replace g2 := kF b0 x2 g2
  replace x0 := kC b0 x0; replace x1 := kC b0 x1; replace x2 := kC b0 x2; replace bA := nT bA b0
  have hn0 : n0 ≤ 1024 := by have e2 : n0 = (wO M).length := HN0.out; have := HL.out; omega
  clear b0 lb0 TC
  go_wp2_with fail
  refine cM (OC.out _ _ _ _ hO0.1 hn0) ?_
  have lb := bA.size
  rintro r w1 ⟨_, rfl, ⟨a1, n1, c1, rfl, HN1, hO1⟩, b1⟩
  replace hO1 := hO1.low lb
  replace g0 := kF b1 x0 g0; replace g1 := kF b1 x1 g1; replace g2 := kF b1 x2 g2
  replace x0 := kC b1 x0; replace x1 := kC b1 x1; replace x2 := kC b1 x2; replace bA := nT bA b1
  have hn1 : n1 ≤ 1024 := by have e2 : n1 = (wO M).length := HN1.out; have := HL.out; omega
  obtain ⟨t0, t1, t2⟩ := set3_same (v0 := .bool S) (v1 := .slice a1 n1 c1) (v2 := .int .i64 (E)) x0 x1 x2
  replace hO1 := hO1.set_dy w.heap.size _ _ _ _ _ (.bool S) (.slice a1 n1 c1) (.int .i64 (E)) x0 x1 x2
  replace bA : Below w.heap.size w (((w1.setCell ⟨w.heap.size, 0, none⟩ (.bool S)).setCell ⟨w.heap.size, 1, none⟩ (.slice a1 n1 c1)).setCell ⟨w.heap.size, 2, none⟩ (.int .i64 E)) := by repeat (first | (with_reducible exact bA) | (with_reducible refine Below.setCell ?_ (by simp; try omega) _) | (with_reducible refine Below.alloc ?_ (by have := bA.size; simp; try omega) _))
  clear b1 lb HN1 OC hO0 HN0 hn0
  go_upto_region 2 with fail
  generalize (((w1.setCell ⟨w.heap.size, 0, none⟩ (.bool S)).setCell ⟨w.heap.size, 1, none⟩ (.slice a1 n1 c1)).setCell ⟨w.heap.size, 2, none⟩ (.int .i64 E)) = v1 at *
  clear x0 x1 x2 g0 g1 g2
  go_wp2_with fail
  go_ret2
  exact ⟨rfl, bA⟩
 rw [if_neg h1]
 have h1' : 0 ≤ E := by omega
 by_cases hz : M = 0
 ·rw [show vI (S, M, E) 0 % 8 = 0 by rw [vI_zero hz]; rfl]
  rw [decide_eq_true hz] at ZC
  clear hc hL hE hz
  go_enter Tryz.func26, Tryz.ntmps26
  go_wp2_with fail
  generalize (w.alloc (.cells #[.bool s, .slice a n c, .int .i64 e] 27)) = w0 at *
  refine cM TC.out ?_
  have lb0 := bA.size
  rintro r w9 ⟨_, rfl, ⟨a0, n0, c0, rfl, HN0, hO0⟩, b0⟩
  replace g0 := kF b0 x0 g0; replace g1 := kF b0 x1 g1; replace g2 := kF b0 x2 g2
  replace x0 := kC b0 x0; replace x1 := kC b0 x1; replace x2 := kC b0 x2; replace bA := nT bA b0
  have hn0 : n0 ≤ 1024 := by have e2 : n0 = (wO M).length := HN0.out; have := HL.out; omega
  clear b0 lb0 TC
  go_wp2_with fail
  refine cM (OC.out _ _ _ _ hO0.1 hn0) ?_
  have lb := bA.size
  rintro r w1 ⟨_, rfl, ⟨a1, n1, c1, rfl, HN1, hO1⟩, b1⟩
  replace hO1 := hO1.low lb
  replace g0 := kF b1 x0 g0; replace g1 := kF b1 x1 g1; replace g2 := kF b1 x2 g2
  replace x0 := kC b1 x0; replace x1 := kC b1 x1; replace x2 := kC b1 x2; replace bA := nT bA b1
  have hn1 : n1 ≤ 1024 := by have e2 : n1 = (wO M).length := HN1.out; have := HL.out; omega
  obtain ⟨t0, t1, t2⟩ := set3_same (v0 := .bool S) (v1 := .slice a1 n1 c1) (v2 := .int .i64 (E)) x0 x1 x2
  replace hO1 := hO1.set_dy w.heap.size _ _ _ _ _ (.bool S) (.slice a1 n1 c1) (.int .i64 (E)) x0 x1 x2
  replace bA : Below w.heap.size w (((w1.setCell ⟨w.heap.size, 0, none⟩ (.bool S)).setCell ⟨w.heap.size, 1, none⟩ (.slice a1 n1 c1)).setCell ⟨w.heap.size, 2, none⟩ (.int .i64 E)) := by repeat (first | (with_reducible exact bA) | (with_reducible refine Below.setCell ?_ (by simp; try omega) _) | (with_reducible refine Below.alloc ?_ (by have := bA.size; simp; try omega) _))
  clear b1 lb HN1 OC hO0 HN0 hn0
  go_upto_region 2 with fail
  generalize (((w1.setCell ⟨w.heap.size, 0, none⟩ (.bool S)).setCell ⟨w.heap.size, 1, none⟩ (.slice a1 n1 c1)).setCell ⟨w.heap.size, 2, none⟩ (.int .i64 E)) = v1 at *
  clear x0 x1 x2 g0 g1 g2
  go_wp2_with fail
  refine cM (ZC.out _ _ _ _ hO1.1 hn1) ?_
  rintro r u1 ⟨rfl, b1⟩
  replace t0 := kC b1 t0; replace t1 := kC b1 t1; replace t2 := kC b1 t2; replace hO1 := hO1.keep b1; replace bA := nT bA b1
  clear b1
  go_wp2_with fail
  go_ret2
  exact ⟨rfl, bA⟩
 rw [decide_eq_false hz] at ZC
 by_cases h3 : 3 ≤ E
 ·rw [eight_pow S M E h3]
  clear hc hL hE hz
  go_enter Tryz.func26, Tryz.ntmps26
  go_wp2_with fail
  generalize (w.alloc (.cells #[.bool s, .slice a n c, .int .i64 e] 27)) = w0 at *
  refine cM TC.out ?_
  have lb0 := bA.size
  rintro r w9 ⟨_, rfl, ⟨a0, n0, c0, rfl, HN0, hO0⟩, b0⟩
  replace g0 := kF b0 x0 g0; replace g1 := kF b0 x1 g1; replace g2 := kF b0 x2 g2
  replace x0 := kC b0 x0; replace x1 := kC b0 x1; replace x2 := kC b0 x2; replace bA := nT bA b0
  have hn0 : n0 ≤ 1024 := by have e2 : n0 = (wO M).length := HN0.out; have := HL.out; omega
  clear b0 lb0 TC
  go_wp2_with fail
  refine cM (OC.out _ _ _ _ hO0.1 hn0) ?_
  have lb := bA.size
  rintro r w1 ⟨_, rfl, ⟨a1, n1, c1, rfl, HN1, hO1⟩, b1⟩
  replace hO1 := hO1.low lb
  replace g0 := kF b1 x0 g0; replace g1 := kF b1 x1 g1; replace g2 := kF b1 x2 g2
  replace x0 := kC b1 x0; replace x1 := kC b1 x1; replace x2 := kC b1 x2; replace bA := nT bA b1
  have hn1 : n1 ≤ 1024 := by have e2 : n1 = (wO M).length := HN1.out; have := HL.out; omega
  obtain ⟨t0, t1, t2⟩ := set3_same (v0 := .bool S) (v1 := .slice a1 n1 c1) (v2 := .int .i64 (E)) x0 x1 x2
  replace hO1 := hO1.set_dy w.heap.size _ _ _ _ _ (.bool S) (.slice a1 n1 c1) (.int .i64 (E)) x0 x1 x2
  replace bA : Below w.heap.size w (((w1.setCell ⟨w.heap.size, 0, none⟩ (.bool S)).setCell ⟨w.heap.size, 1, none⟩ (.slice a1 n1 c1)).setCell ⟨w.heap.size, 2, none⟩ (.int .i64 E)) := by repeat (first | (with_reducible exact bA) | (with_reducible refine Below.setCell ?_ (by simp; try omega) _) | (with_reducible refine Below.alloc ?_ (by have := bA.size; simp; try omega) _))
  clear b1 lb HN1 OC hO0 HN0 hn0
  go_upto_region 2 with fail
  generalize (((w1.setCell ⟨w.heap.size, 0, none⟩ (.bool S)).setCell ⟨w.heap.size, 1, none⟩ (.slice a1 n1 c1)).setCell ⟨w.heap.size, 2, none⟩ (.int .i64 E)) = v1 at *
  clear x0 x1 x2 g0 g1 g2
  go_wp2_with fail
  refine cM (ZC.out _ _ _ _ hO1.1 hn1) ?_
  rintro r u1 ⟨rfl, b1⟩
  replace t0 := kC b1 t0; replace t1 := kC b1 t1; replace t2 := kC b1 t2; replace hO1 := hO1.keep b1; replace bA := nT bA b1
  clear b1
  go_wp2_with fail
  go_ret2
  exact ⟨rfl, bA⟩
 have hX := first_word M hz
 obtain ⟨X, eX⟩ : ∃ X : Nat, X = M % 18446744073709551616 := ⟨_, rfl⟩
 rw [← eX] at hX
 have hX1 : X ≤ 18446744073709551615 := by omega
 have HX : Hid _ := hX
 have hlen : 0 < (wO M).length := by
  rcases Nat.eq_zero_or_pos (wO M).length with q | q
  ·exact absurd ((words_nil M).1 (List.length_eq_zero_iff.1 q)) hz
  ·exact q
 have HK : Hid (vI (S, M, E) 0 % 8 = sI S * ((X * 2 ^ E.toNat : Nat) : Int) % 8) := by
  rw [Hid]
  unfold vI
  simp only
  rw [Int.sub_zero]
  have : M = X + 18446744073709551616 * (M / 18446744073709551616) := by omega
  generalize M / 18446744073709551616 = j at this
  rw [this]
  rcases (show E = 0 ∨ E = 1 ∨ E = 2 by omega) with rfl | rfl | rfl <;> cases S <;> simp [sI] <;> omega
 clear hc hL hE eX hX hz h1
 have hE3 : E = 0 ∨ E = 1 ∨ E = 2 := by omega
 clear h3 h1'
 generalize vI (S, M, E) 0 % 8 = K at *
 rcases hE3 with rfl | rfl | rfl
 ·go_enter Tryz.func26, Tryz.ntmps26
  go_wp2_with fail
  generalize (w.alloc (.cells #[.bool s, .slice a n c, .int .i64 e] 27)) = w0 at *
  refine cM TC.out ?_
  have lb0 := bA.size
  rintro r w9 ⟨_, rfl, ⟨a0, n0, c0, rfl, HN0, hO0⟩, b0⟩
  replace g0 := kF b0 x0 g0; replace g1 := kF b0 x1 g1; replace g2 := kF b0 x2 g2
  replace x0 := kC b0 x0; replace x1 := kC b0 x1; replace x2 := kC b0 x2; replace bA := nT bA b0
  have hn0 : n0 ≤ 1024 := by have e2 : n0 = (wO M).length := HN0.out; have := HL.out; omega
  clear b0 lb0 TC
  go_wp2_with fail
  refine cM (OC.out _ _ _ _ hO0.1 hn0) ?_
  have lb := bA.size
  rintro r w1 ⟨_, rfl, ⟨a1, n1, c1, rfl, HN1, hO1⟩, b1⟩
  replace hO1 := hO1.low lb
  replace g0 := kF b1 x0 g0; replace g1 := kF b1 x1 g1; replace g2 := kF b1 x2 g2
  replace x0 := kC b1 x0; replace x1 := kC b1 x1; replace x2 := kC b1 x2; replace bA := nT bA b1
  have hn1 : n1 ≤ 1024 := by have e2 : n1 = (wO M).length := HN1.out; have := HL.out; omega
  obtain ⟨t0, t1, t2⟩ := set3_same (v0 := .bool S) (v1 := .slice a1 n1 c1) (v2 := .int .i64 (0)) x0 x1 x2
  replace hO1 := hO1.set_dy w.heap.size _ _ _ _ _ (.bool S) (.slice a1 n1 c1) (.int .i64 (0)) x0 x1 x2
  replace bA : Below w.heap.size w (((w1.setCell ⟨w.heap.size, 0, none⟩ (.bool S)).setCell ⟨w.heap.size, 1, none⟩ (.slice a1 n1 c1)).setCell ⟨w.heap.size, 2, none⟩ (.int .i64 0)) := by repeat (first | (with_reducible exact bA) | (with_reducible refine Below.setCell ?_ (by simp; try omega) _) | (with_reducible refine Below.alloc ?_ (by have := bA.size; simp; try omega) _))
  clear b1 lb HN1 OC hO0 HN0 hn0
  go_upto_region 2 with fail
  generalize (((w1.setCell ⟨w.heap.size, 0, none⟩ (.bool S)).setCell ⟨w.heap.size, 1, none⟩ (.slice a1 n1 c1)).setCell ⟨w.heap.size, 2, none⟩ (.int .i64 0)) = v1 at *
  clear x0 x1 x2 g0 g1 g2
  obtain ⟨bb, off, rfl, hbl, hcell⟩ := hO1.1.2.2.2 0 (by have := hO1.1.1; omega)
  rw [HX.out] at hcell
  rw [Nat.add_zero] at hcell
  go_wp2_with fail
  refine cM (ZC.out _ _ _ _ hO1.1 hn1) ?_
  rintro r u1 ⟨rfl, b1⟩
  replace t0 := kC b1 t0; replace t1 := kC b1 t1; replace t2 := kC b1 t2; replace hcell := kC b1 hcell; replace bA := nT bA b1
  have hpos : 0 < n1 := by have e2 : n1 = (wO M).length := hO1.1.1; omega
  clear b1 hO1
  go_wp2_with fail
  go_quiet (fail)
  replace bA := below_drewN bA nq
  cases S
  all_goals
   go_wp2_with fail
   go_ret2
   exact ⟨ret2q (by have := HK.out; simp [sI] at this; omega), bA⟩
 ·go_enter Tryz.func26, Tryz.ntmps26
  go_wp2_with fail
  generalize (w.alloc (.cells #[.bool s, .slice a n c, .int .i64 e] 27)) = w0 at *
  refine cM TC.out ?_
  have lb0 := bA.size
  rintro r w9 ⟨_, rfl, ⟨a0, n0, c0, rfl, HN0, hO0⟩, b0⟩
  replace g0 := kF b0 x0 g0; replace g1 := kF b0 x1 g1; replace g2 := kF b0 x2 g2
  replace x0 := kC b0 x0; replace x1 := kC b0 x1; replace x2 := kC b0 x2; replace bA := nT bA b0
  have hn0 : n0 ≤ 1024 := by have e2 : n0 = (wO M).length := HN0.out; have := HL.out; omega
  clear b0 lb0 TC
  go_wp2_with fail
  refine cM (OC.out _ _ _ _ hO0.1 hn0) ?_
  have lb := bA.size
  rintro r w1 ⟨_, rfl, ⟨a1, n1, c1, rfl, HN1, hO1⟩, b1⟩
  replace hO1 := hO1.low lb
  replace g0 := kF b1 x0 g0; replace g1 := kF b1 x1 g1; replace g2 := kF b1 x2 g2
  replace x0 := kC b1 x0; replace x1 := kC b1 x1; replace x2 := kC b1 x2; replace bA := nT bA b1
  have hn1 : n1 ≤ 1024 := by have e2 : n1 = (wO M).length := HN1.out; have := HL.out; omega
  obtain ⟨t0, t1, t2⟩ := set3_same (v0 := .bool S) (v1 := .slice a1 n1 c1) (v2 := .int .i64 (1)) x0 x1 x2
  replace hO1 := hO1.set_dy w.heap.size _ _ _ _ _ (.bool S) (.slice a1 n1 c1) (.int .i64 (1)) x0 x1 x2
  replace bA : Below w.heap.size w (((w1.setCell ⟨w.heap.size, 0, none⟩ (.bool S)).setCell ⟨w.heap.size, 1, none⟩ (.slice a1 n1 c1)).setCell ⟨w.heap.size, 2, none⟩ (.int .i64 1)) := by repeat (first | (with_reducible exact bA) | (with_reducible refine Below.setCell ?_ (by simp; try omega) _) | (with_reducible refine Below.alloc ?_ (by have := bA.size; simp; try omega) _))
  clear b1 lb HN1 OC hO0 HN0 hn0
  go_upto_region 2 with fail
  generalize (((w1.setCell ⟨w.heap.size, 0, none⟩ (.bool S)).setCell ⟨w.heap.size, 1, none⟩ (.slice a1 n1 c1)).setCell ⟨w.heap.size, 2, none⟩ (.int .i64 1)) = v1 at *
  clear x0 x1 x2 g0 g1 g2
  obtain ⟨bb, off, rfl, hbl, hcell⟩ := hO1.1.2.2.2 0 (by have := hO1.1.1; omega)
  rw [HX.out] at hcell
  rw [Nat.add_zero] at hcell
  go_wp2_with fail
  refine cM (ZC.out _ _ _ _ hO1.1 hn1) ?_
  rintro r u1 ⟨rfl, b1⟩
  replace t0 := kC b1 t0; replace t1 := kC b1 t1; replace t2 := kC b1 t2; replace hcell := kC b1 hcell; replace bA := nT bA b1
  have hpos : 0 < n1 := by have e2 : n1 = (wO M).length := hO1.1.1; omega
  clear b1 hO1
  go_wp2_with fail
  go_quiet (fail)
  replace bA := below_drewN bA nq
  cases S
  all_goals
   go_wp2_with fail
   go_ret2
   exact ⟨ret2q (by have := HK.out; simp [sI] at this; omega), bA⟩
 ·go_enter Tryz.func26, Tryz.ntmps26
  go_wp2_with fail
  generalize (w.alloc (.cells #[.bool s, .slice a n c, .int .i64 e] 27)) = w0 at *
  refine cM TC.out ?_
  have lb0 := bA.size
  rintro r w9 ⟨_, rfl, ⟨a0, n0, c0, rfl, HN0, hO0⟩, b0⟩
  replace g0 := kF b0 x0 g0; replace g1 := kF b0 x1 g1; replace g2 := kF b0 x2 g2
  replace x0 := kC b0 x0; replace x1 := kC b0 x1; replace x2 := kC b0 x2; replace bA := nT bA b0
  have hn0 : n0 ≤ 1024 := by have e2 : n0 = (wO M).length := HN0.out; have := HL.out; omega
  clear b0 lb0 TC
  go_wp2_with fail
  refine cM (OC.out _ _ _ _ hO0.1 hn0) ?_
  have lb := bA.size
  rintro r w1 ⟨_, rfl, ⟨a1, n1, c1, rfl, HN1, hO1⟩, b1⟩
  replace hO1 := hO1.low lb
  replace g0 := kF b1 x0 g0; replace g1 := kF b1 x1 g1; replace g2 := kF b1 x2 g2
  replace x0 := kC b1 x0; replace x1 := kC b1 x1; replace x2 := kC b1 x2; replace bA := nT bA b1
  have hn1 : n1 ≤ 1024 := by have e2 : n1 = (wO M).length := HN1.out; have := HL.out; omega
  obtain ⟨t0, t1, t2⟩ := set3_same (v0 := .bool S) (v1 := .slice a1 n1 c1) (v2 := .int .i64 (2)) x0 x1 x2
  replace hO1 := hO1.set_dy w.heap.size _ _ _ _ _ (.bool S) (.slice a1 n1 c1) (.int .i64 (2)) x0 x1 x2
  replace bA : Below w.heap.size w (((w1.setCell ⟨w.heap.size, 0, none⟩ (.bool S)).setCell ⟨w.heap.size, 1, none⟩ (.slice a1 n1 c1)).setCell ⟨w.heap.size, 2, none⟩ (.int .i64 2)) := by repeat (first | (with_reducible exact bA) | (with_reducible refine Below.setCell ?_ (by simp; try omega) _) | (with_reducible refine Below.alloc ?_ (by have := bA.size; simp; try omega) _))
  clear b1 lb HN1 OC hO0 HN0 hn0
  go_upto_region 2 with fail
  generalize (((w1.setCell ⟨w.heap.size, 0, none⟩ (.bool S)).setCell ⟨w.heap.size, 1, none⟩ (.slice a1 n1 c1)).setCell ⟨w.heap.size, 2, none⟩ (.int .i64 2)) = v1 at *
  clear x0 x1 x2 g0 g1 g2
  obtain ⟨bb, off, rfl, hbl, hcell⟩ := hO1.1.2.2.2 0 (by have := hO1.1.1; omega)
  rw [HX.out] at hcell
  rw [Nat.add_zero] at hcell
  go_wp2_with fail
  refine cM (ZC.out _ _ _ _ hO1.1 hn1) ?_
  rintro r u1 ⟨rfl, b1⟩
  replace t0 := kC b1 t0; replace t1 := kC b1 t1; replace t2 := kC b1 t2; replace hcell := kC b1 hcell; replace bA := nT bA b1
  have hpos : 0 < n1 := by have e2 : n1 = (wO M).length := hO1.1.1; omega
  clear b1 hO1
  go_wp2_with fail
  go_quiet (fail)
  replace bA := below_drewN bA nq
  cases S
  all_goals
   go_wp2_with fail
   go_ret2
   exact ⟨ret2q (by have := HK.out; simp [sI] at this; omega), bA⟩
end Go.Proofs.YtiijfnaaekmpbaaGreatDoor

/- Package exact: cases as functions that are handed on: points, powers. -/
import Derived.Test.YtiijfnaaekmpbaaGreatDoorEC3
import Derived.Test.YtiijfnaaekmpbaaGreatDoorNPX
import Derived.Test.YtiijfnaaekmpbaaGreatDoorDTm1
import Derived.Test.YtiijfnaaekmpbaaGreatDoorTMF
import Derived.Test.YtiijfnaaekmpbaaGreatDoorTMD
import Derived.LoopN
import Derived.Test.YtiijfnaaekmpbaaGreatDoorFX
namespace Go.Proofs.YtiijfnaaekmpbaaGreatDoor
open Go.RowKit

def Body (F : Nat) : Prop := ∀ (xs : Array Value) (w : World), Sem.run Tryz.prog (callFunc F xs) w = .ok (.enter F xs) w
/-- all tables that exact reads -/
def TabE (w : World) : Prop := Tab w ∧ (1 < w.heap.size ∧ ∀ j, j < 4 → w.cell? ⟨1, j, none⟩ = some (.int .i64 ([0, 1, 0, -1].getD j 0))) ∧ (0 < w.heap.size ∧ ∀ j, j < 3 → w.cell? ⟨0, j, none⟩ = some (.int .i64 ([3, 2, 1].getD j 0)))
theorem TabE.kept {w w' : World} (h : TabE w) (hb : Below w.heap.size w w') : TabE w' :=
  ⟨h.1.kept hb, ⟨Nat.lt_of_lt_of_le h.2.1.1 hb.size, fun j k => kC hb (h.2.1.2 j k)⟩, ⟨Nat.lt_of_lt_of_le h.2.2.1 hb.size, fun j k => kC hb (h.2.2.2 j k)⟩⟩
/-- of a world all cells stand but those of one block -/
def Kr (r : Nat) (w W : World) : Prop := ∀ (b o : Nat) (v : Value), b ≠ r → w.cell? ⟨b, o, none⟩ = some v → W.cell? ⟨b, o, none⟩ = some v
theorem Kr.of {r : Nat} {w W : World} (b : Below w.heap.size w W) : Kr r w W := fun _ _ _ _ h => kC b h
theorem Kr.trans {r : Nat} {w V W : World} (h : Kr r w V) (k : Kr r V W) : Kr r w W := fun b o v q e => k b o v q (h b o v q e)
def IsD (r : Nat) (w : World) (v : Value) (t : E3 → Bool) : Prop := ∃ (F : Nat) (fst caps : Array Value), v = .func (.func F) fst caps ∧ Body F ∧ ∀ W, Kr r w W → TabE W → ∀ (p : E3) (a : Option Addr) (n c : Nat), IsW W a n c (wordsOf p.2.1) → n ≤ 1024 → OkE p →
  Calls Tryz.prog F (fst ++ #[dyV p.1 a n c p.2.2] ++ caps) W fun q w' => q = .returned (.bool (t p)) ∧ Below W.heap.size W w'
def IsC (r : Nat) (w : World) (v : Value) (t : C3) : Prop := ∃ (F : Nat) (fst caps : Array Value), v = .func (.func F) fst caps ∧ Body F ∧ ∀ W, Kr r w W → TabE W → ∀ (p : E3) (a : Option Addr) (n c : Nat), IsW W a n c (wordsOf p.2.1) → n ≤ 1024 → OkE p →
  Calls Tryz.prog F (fst ++ #[dyV p.1 a n c p.2.2] ++ caps) W fun q w' => ∃ v', q = .returned (.tuple #[v', .bool (t p).2]) ∧ DyAt W.heap.size w' v' (t p).1 ∧ Below W.heap.size W w'
theorem IsD.keep {r : Nat} {w V : World} {v : Value} {t : E3 → Bool} (h : IsD r w v t) (k : Kr r w V) : IsD r V v t := by
  obtain ⟨F, fst, caps, e, hb, hc⟩ := h
  exact ⟨F, fst, caps, e, hb, fun W q => hc W (k.trans q)⟩
theorem IsC.keep {r : Nat} {w V : World} {v : Value} {t : C3} (h : IsC r w v t) (k : Kr r w V) : IsC r V v t := by
  obtain ⟨F, fst, caps, e, hb, hc⟩ := h
  exact ⟨F, fst, caps, e, hb, fun W q => hc W (k.trans q)⟩
theorem dyAt_z3 (B : Nat) (w : World) : DyAt B w (dyV false none 0 0 0) z3 := dyAt_zero B w
theorem every_is (r : Nat) (w : World) : IsD r w (.func (.func 34) #[] #[]) dAny := ⟨_, _, _, rfl, Tryz.call34, fun W _ _ p a n c _ _ _ => every_calls _ p.1 a n c p.2.2 rfl W⟩
theorem fromOne_is (r : Nat) (w : World) : IsD r w (.func (.func 46) #[] #[]) dFrom1 := ⟨_, _, _, rfl, Tryz.call46, fun W _ t p a n c h hn hp => fromOne_calls p a n c W h hn hp t.1⟩
theorem toOne_is (r : Nat) (w : World) : IsD r w (.func (.func 45) #[] #[]) dTo1 := ⟨_, _, _, rfl, Tryz.call45, fun W _ t p a n c h hn hp => toOne_calls p a n c W h hn hp t.1⟩
theorem belowOne_is (r : Nat) (w : World) : IsD r w (.func (.func 47) #[] #[]) dIn1 := ⟨_, _, _, rfl, Tryz.call47, fun W _ t p a n c h hn hp => belowOne_calls p a n c W h hn hp t.1⟩

/-- points in memory, one behind another -/
def Pts (w : World) (g : Nat) : Nat → List (Int × Int) → Prop
  | _, [] => True
  | k, (x, q) :: l => w.cell? ⟨g, 2 * k, none⟩ = some (.int .i64 x) ∧ w.cell? ⟨g, 2 * k + 1, none⟩ = some (.int .i64 q) ∧ Pts w g (k + 1) l
theorem Pts.keep {r : Nat} {w W : World} {g : Nat} (hr : g ≠ r) (b : Kr r w W) : ∀ {k : Nat} {l : List (Int × Int)}, Pts w g k l → Pts W g k l
  | _, [], _ => trivial
  | _, (_, _) :: _, h => ⟨b _ _ _ hr h.1, b _ _ _ hr h.2.1, Pts.keep hr b h.2.2⟩

set_option maxRecDepth 100000 in
set_option maxHeartbeats 4000000 in
theorem at1_calls (p : E3) (a : Option Addr) (n c : Nat) (X g : Nat) (x0 q0 : Int) (w : World) (h : IsW w a n c (wordsOf p.2.1)) (hn : n ≤ 1024) (hp : OkE p) (hT : TabE w) (hx0 : -9223372036854775808 ≤ x0 ∧ x0 ≤ 9223372036854775807) (hq0 : -8 ≤ q0 ∧ q0 ≤ 8) (cX : w.cell? ⟨X, 0, none⟩ = some (.slice (some ⟨g, 0, none⟩) 1 1)) (hP : Pts w g 0 [(x0, q0)]) :
    Calls Tryz.prog 71 #[dyV p.1 a n c p.2.2, .pointer (some ⟨X, 0, none⟩)] w fun q w' => ∃ v', q = .returned (.tuple #[v', .bool (cAt [(x0, q0)] p).2]) ∧ DyAt w.heap.size w' v' (cAt [(x0, q0)] p).1 ∧ Below w.heap.size w w' := by
  have bA : Below w.heap.size w ((w.alloc (.cells #[.bool p.1, .slice a n c, .int .i64 p.2.2] 27)).alloc (.cells #[.bool false, .slice none 0 0, .int .i64 0] 27)) := nT (below_one _ _) (below_one _ _)
  obtain ⟨x0c, x1c, x2c, z0, f0, z1, f1, z2, f2⟩ := fX4 w p a n c
  have lz : w.heap.size + 1 < ((w.alloc (.cells #[.bool p.1, .slice a n c, .int .i64 p.2.2] 27)).alloc (.cells #[.bool false, .slice none 0 0, .int .i64 0] 27)).heap.size := by simp
  replace cX := kC bA cX
  have cx0 : ((w.alloc (.cells #[.bool p.1, .slice a n c, .int .i64 p.2.2] 27)).alloc (.cells #[.bool false, .slice none 0 0, .int .i64 0] 27)).cell? ⟨g, 0, none⟩ = some (.int .i64 x0) := kC bA hP.1
  have cq0 : ((w.alloc (.cells #[.bool p.1, .slice a n c, .int .i64 p.2.2] 27)).alloc (.cells #[.bool false, .slice none 0 0, .int .i64 0] 27)).cell? ⟨g, 1, none⟩ = some (.int .i64 q0) := kC bA hP.2.1
  have hT0 := hT.1.kept bA
  have A0 : Hid _ := fun W (b : Below w.heap.size w W) => eAgainst_calls p a n c x0 W (h.keep b) hn hp hx0 (hT.1.kept b)
  have Q0 : Hid _ := fun W (t : Tab W) => inQuarters_calls q0 hq0 W t
  simp only [cAt]
  generalize inQ q0 = R0 at *
  generalize agI p x0 = J0 at *
  clear h hp hT hP hx0 hq0
  by_cases j0 : J0 = 0
  · rw [if_pos j0]
    go_enter Tryz.func71, Tryz.ntmps71
    go_wp2_with fail
    generalize ((w.alloc (.cells #[.bool p.1, .slice a n c, .int .i64 p.2.2] 27)).alloc (.cells #[.bool false, .slice none 0 0, .int .i64 0] 27)) = w0 at *
    refine wp_loop_rounds 1 ?_
    rw [rounds_succ]
    go_upto_region 4 with fail
    have bP0 := below_one w0 (.cells #[.int .i64 x0, .int .i64 q0] 66)
    replace f0 := kF bP0 z0 f0
    replace f1 := kF bP0 z1 f1
    replace f2 := kF bP0 z2 f2
    replace bA := nT bA bP0
    replace x0c := kC bP0 x0c
    replace x1c := kC bP0 x1c
    replace x2c := kC bP0 x2c
    replace z0 := kC bP0 z0
    replace z1 := kC bP0 z1
    replace z2 := kC bP0 z2
    replace lz := Nat.lt_of_lt_of_le lz bP0.size
    replace cX := kC bP0 cX
    replace cx0 := kC bP0 cx0
    replace cq0 := kC bP0 cq0
    replace hT0 := hT0.kept bP0
    obtain ⟨y00, y01⟩ := fX5 w0 x0 q0
    clear bP0
    generalize w0.alloc (.cells #[.int .i64 x0, .int .i64 q0] 66) = v0 at *
    generalize w0.heap.size = B0 at *
    go_wp2_with fail
    refine Calls.mono (A0.out _ bA) ?_
    rintro r w1 ⟨rfl, b1⟩
    replace f0 := kF b1 z0 f0
    replace f1 := kF b1 z1 f1
    replace f2 := kF b1 z2 f2
    replace bA := nT bA b1
    replace x0c := kC b1 x0c
    replace x1c := kC b1 x1c
    replace x2c := kC b1 x2c
    replace z0 := kC b1 z0
    replace z1 := kC b1 z1
    replace z2 := kC b1 z2
    replace lz := Nat.lt_of_lt_of_le lz b1.size
    replace cX := kC b1 cX
    replace cx0 := kC b1 cx0
    replace cq0 := kC b1 cq0
    replace hT0 := hT0.kept b1
    replace y01 := kC b1 y01
    clear b1 y00
    go_wp2_with fail
    have lb := bA.size
    refine Calls.mono (Q0.out _ hT0) ?_
    rintro r w9 ⟨_, rfl, ⟨a3, n3, c3, rfl, HN3, hn3, hO3⟩, b1⟩
    replace f0 := kF b1 z0 f0
    replace f1 := kF b1 z1 f1
    replace f2 := kF b1 z2 f2
    replace bA := nT bA b1
    replace x0c := kC b1 x0c
    replace x1c := kC b1 x1c
    replace x2c := kC b1 x2c
    replace z0 := kC b1 z0
    replace z1 := kC b1 z1
    replace z2 := kC b1 z2
    replace lz := Nat.lt_of_lt_of_le lz b1.size
    replace cX := kC b1 cX
    replace cx0 := kC b1 cx0
    replace cq0 := kC b1 cq0
    replace hT0 := hT0.kept b1
    replace y01 := kC b1 y01
    clear b1
    go_wp2_with fail
    exact bodyPost_ret (v := .tuple #[dyV R0.1 a3 n3 c3 R0.2.2, .bool true]) (by simp [results, Tryz.results71, go_sem, z0, z1, z2]) rfl ⟨_, rfl, ⟨a3, n3, c3, rfl, HN3, hn3, (hO3.low lb).set_dy (w.heap.size + 1) false none 0 0 0 _ _ _ z0 z1 z2⟩, by repeat (first | (with_reducible exact bA) | (with_reducible refine Below.setCell ?_ (by simp; try omega) _) | (with_reducible refine Below.alloc ?_ (by have := bA.size; simp; try omega) _))⟩
  · rw [if_neg j0]
    unfold no3
    go_enter Tryz.func71, Tryz.ntmps71
    go_wp2_with fail
    generalize ((w.alloc (.cells #[.bool p.1, .slice a n c, .int .i64 p.2.2] 27)).alloc (.cells #[.bool false, .slice none 0 0, .int .i64 0] 27)) = w0 at *
    refine wp_loop_rounds 2 ?_
    rw [rounds_succ]
    go_upto_region 4 with fail
    have bP0 := below_one w0 (.cells #[.int .i64 x0, .int .i64 q0] 66)
    replace f0 := kF bP0 z0 f0
    replace f1 := kF bP0 z1 f1
    replace f2 := kF bP0 z2 f2
    replace bA := nT bA bP0
    replace x0c := kC bP0 x0c
    replace x1c := kC bP0 x1c
    replace x2c := kC bP0 x2c
    replace z0 := kC bP0 z0
    replace z1 := kC bP0 z1
    replace z2 := kC bP0 z2
    replace lz := Nat.lt_of_lt_of_le lz bP0.size
    replace cX := kC bP0 cX
    replace cx0 := kC bP0 cx0
    replace cq0 := kC bP0 cq0
    replace hT0 := hT0.kept bP0
    obtain ⟨y00, y01⟩ := fX5 w0 x0 q0
    clear bP0
    generalize w0.alloc (.cells #[.int .i64 x0, .int .i64 q0] 66) = v0 at *
    generalize w0.heap.size = B0 at *
    go_wp2_with fail
    refine Calls.mono (A0.out _ bA) ?_
    rintro r w1 ⟨rfl, b1⟩
    replace f0 := kF b1 z0 f0
    replace f1 := kF b1 z1 f1
    replace f2 := kF b1 z2 f2
    replace bA := nT bA b1
    replace x0c := kC b1 x0c
    replace x1c := kC b1 x1c
    replace x2c := kC b1 x2c
    replace z0 := kC b1 z0
    replace z1 := kC b1 z1
    replace z2 := kC b1 z2
    replace lz := Nat.lt_of_lt_of_le lz b1.size
    replace cX := kC b1 cX
    replace cx0 := kC b1 cx0
    replace cq0 := kC b1 cq0
    replace hT0 := hT0.kept b1
    replace y01 := kC b1 y01
    clear b1 y00
    go_wp2_with fail
    rw [rounds_succ]
    go_wp2_with fail
    exact bodyPost_ret (v := .tuple #[dyV false none 0 0 0, .bool false]) (by simp [results, Tryz.results71, go_sem, z0, z1, z2]) rfl ⟨_, rfl, dyAt_z3 _ _, by repeat (first | (with_reducible exact bA) | (with_reducible refine Below.setCell ?_ (by simp; try omega) _) | (with_reducible refine Below.alloc ?_ (by have := bA.size; simp; try omega) _))⟩

set_option maxRecDepth 100000 in
set_option maxHeartbeats 4000000 in
theorem at3_calls (p : E3) (a : Option Addr) (n c : Nat) (X g : Nat) (x0 q0 : Int) (x1 q1 : Int) (x2 q2 : Int) (w : World) (h : IsW w a n c (wordsOf p.2.1)) (hn : n ≤ 1024) (hp : OkE p) (hT : TabE w) (hx0 : -9223372036854775808 ≤ x0 ∧ x0 ≤ 9223372036854775807) (hq0 : -8 ≤ q0 ∧ q0 ≤ 8) (hx1 : -9223372036854775808 ≤ x1 ∧ x1 ≤ 9223372036854775807) (hq1 : -8 ≤ q1 ∧ q1 ≤ 8) (hx2 : -9223372036854775808 ≤ x2 ∧ x2 ≤ 9223372036854775807) (hq2 : -8 ≤ q2 ∧ q2 ≤ 8) (cX : w.cell? ⟨X, 0, none⟩ = some (.slice (some ⟨g, 0, none⟩) 3 3)) (hP : Pts w g 0 [(x0, q0), (x1, q1), (x2, q2)]) :
    Calls Tryz.prog 71 #[dyV p.1 a n c p.2.2, .pointer (some ⟨X, 0, none⟩)] w fun q w' => ∃ v', q = .returned (.tuple #[v', .bool (cAt [(x0, q0), (x1, q1), (x2, q2)] p).2]) ∧ DyAt w.heap.size w' v' (cAt [(x0, q0), (x1, q1), (x2, q2)] p).1 ∧ Below w.heap.size w w' := by
  have bA : Below w.heap.size w ((w.alloc (.cells #[.bool p.1, .slice a n c, .int .i64 p.2.2] 27)).alloc (.cells #[.bool false, .slice none 0 0, .int .i64 0] 27)) := nT (below_one _ _) (below_one _ _)
  obtain ⟨x0c, x1c, x2c, z0, f0, z1, f1, z2, f2⟩ := fX4 w p a n c
  have lz : w.heap.size + 1 < ((w.alloc (.cells #[.bool p.1, .slice a n c, .int .i64 p.2.2] 27)).alloc (.cells #[.bool false, .slice none 0 0, .int .i64 0] 27)).heap.size := by simp
  replace cX := kC bA cX
  have cx0 : ((w.alloc (.cells #[.bool p.1, .slice a n c, .int .i64 p.2.2] 27)).alloc (.cells #[.bool false, .slice none 0 0, .int .i64 0] 27)).cell? ⟨g, 0, none⟩ = some (.int .i64 x0) := kC bA hP.1
  have cq0 : ((w.alloc (.cells #[.bool p.1, .slice a n c, .int .i64 p.2.2] 27)).alloc (.cells #[.bool false, .slice none 0 0, .int .i64 0] 27)).cell? ⟨g, 1, none⟩ = some (.int .i64 q0) := kC bA hP.2.1
  have cx1 : ((w.alloc (.cells #[.bool p.1, .slice a n c, .int .i64 p.2.2] 27)).alloc (.cells #[.bool false, .slice none 0 0, .int .i64 0] 27)).cell? ⟨g, 2, none⟩ = some (.int .i64 x1) := kC bA hP.2.2.1
  have cq1 : ((w.alloc (.cells #[.bool p.1, .slice a n c, .int .i64 p.2.2] 27)).alloc (.cells #[.bool false, .slice none 0 0, .int .i64 0] 27)).cell? ⟨g, 3, none⟩ = some (.int .i64 q1) := kC bA hP.2.2.2.1
  have cx2 : ((w.alloc (.cells #[.bool p.1, .slice a n c, .int .i64 p.2.2] 27)).alloc (.cells #[.bool false, .slice none 0 0, .int .i64 0] 27)).cell? ⟨g, 4, none⟩ = some (.int .i64 x2) := kC bA hP.2.2.2.2.1
  have cq2 : ((w.alloc (.cells #[.bool p.1, .slice a n c, .int .i64 p.2.2] 27)).alloc (.cells #[.bool false, .slice none 0 0, .int .i64 0] 27)).cell? ⟨g, 5, none⟩ = some (.int .i64 q2) := kC bA hP.2.2.2.2.2.1
  have hT0 := hT.1.kept bA
  have A0 : Hid _ := fun W (b : Below w.heap.size w W) => eAgainst_calls p a n c x0 W (h.keep b) hn hp hx0 (hT.1.kept b)
  have Q0 : Hid _ := fun W (t : Tab W) => inQuarters_calls q0 hq0 W t
  have A1 : Hid _ := fun W (b : Below w.heap.size w W) => eAgainst_calls p a n c x1 W (h.keep b) hn hp hx1 (hT.1.kept b)
  have Q1 : Hid _ := fun W (t : Tab W) => inQuarters_calls q1 hq1 W t
  have A2 : Hid _ := fun W (b : Below w.heap.size w W) => eAgainst_calls p a n c x2 W (h.keep b) hn hp hx2 (hT.1.kept b)
  have Q2 : Hid _ := fun W (t : Tab W) => inQuarters_calls q2 hq2 W t
  simp only [cAt]
  generalize inQ q0 = R0 at *
  generalize agI p x0 = J0 at *
  generalize inQ q1 = R1 at *
  generalize agI p x1 = J1 at *
  generalize inQ q2 = R2 at *
  generalize agI p x2 = J2 at *
  clear h hp hT hP hx0 hq0 hx1 hq1 hx2 hq2
  by_cases j0 : J0 = 0
  · rw [if_pos j0]
    go_enter Tryz.func71, Tryz.ntmps71
    go_wp2_with fail
    generalize ((w.alloc (.cells #[.bool p.1, .slice a n c, .int .i64 p.2.2] 27)).alloc (.cells #[.bool false, .slice none 0 0, .int .i64 0] 27)) = w0 at *
    refine wp_loop_rounds 1 ?_
    rw [rounds_succ]
    go_upto_region 4 with fail
    have bP0 := below_one w0 (.cells #[.int .i64 x0, .int .i64 q0] 66)
    replace f0 := kF bP0 z0 f0
    replace f1 := kF bP0 z1 f1
    replace f2 := kF bP0 z2 f2
    replace bA := nT bA bP0
    replace x0c := kC bP0 x0c
    replace x1c := kC bP0 x1c
    replace x2c := kC bP0 x2c
    replace z0 := kC bP0 z0
    replace z1 := kC bP0 z1
    replace z2 := kC bP0 z2
    replace lz := Nat.lt_of_lt_of_le lz bP0.size
    replace cX := kC bP0 cX
    replace cx0 := kC bP0 cx0
    replace cq0 := kC bP0 cq0
    replace cx1 := kC bP0 cx1
    replace cq1 := kC bP0 cq1
    replace cx2 := kC bP0 cx2
    replace cq2 := kC bP0 cq2
    replace hT0 := hT0.kept bP0
    obtain ⟨y00, y01⟩ := fX5 w0 x0 q0
    clear bP0
    generalize w0.alloc (.cells #[.int .i64 x0, .int .i64 q0] 66) = v0 at *
    generalize w0.heap.size = B0 at *
    go_wp2_with fail
    refine Calls.mono (A0.out _ bA) ?_
    rintro r w1 ⟨rfl, b1⟩
    replace f0 := kF b1 z0 f0
    replace f1 := kF b1 z1 f1
    replace f2 := kF b1 z2 f2
    replace bA := nT bA b1
    replace x0c := kC b1 x0c
    replace x1c := kC b1 x1c
    replace x2c := kC b1 x2c
    replace z0 := kC b1 z0
    replace z1 := kC b1 z1
    replace z2 := kC b1 z2
    replace lz := Nat.lt_of_lt_of_le lz b1.size
    replace cX := kC b1 cX
    replace cx0 := kC b1 cx0
    replace cq0 := kC b1 cq0
    replace cx1 := kC b1 cx1
    replace cq1 := kC b1 cq1
    replace cx2 := kC b1 cx2
    replace cq2 := kC b1 cq2
    replace hT0 := hT0.kept b1
    replace y01 := kC b1 y01
    clear b1 y00
    go_wp2_with fail
    have lb := bA.size
    refine Calls.mono (Q0.out _ hT0) ?_
    rintro r w9 ⟨_, rfl, ⟨a3, n3, c3, rfl, HN3, hn3, hO3⟩, b1⟩
    replace f0 := kF b1 z0 f0
    replace f1 := kF b1 z1 f1
    replace f2 := kF b1 z2 f2
    replace bA := nT bA b1
    replace x0c := kC b1 x0c
    replace x1c := kC b1 x1c
    replace x2c := kC b1 x2c
    replace z0 := kC b1 z0
    replace z1 := kC b1 z1
    replace z2 := kC b1 z2
    replace lz := Nat.lt_of_lt_of_le lz b1.size
    replace cX := kC b1 cX
    replace cx0 := kC b1 cx0
    replace cq0 := kC b1 cq0
    replace cx1 := kC b1 cx1
    replace cq1 := kC b1 cq1
    replace cx2 := kC b1 cx2
    replace cq2 := kC b1 cq2
    replace hT0 := hT0.kept b1
    replace y01 := kC b1 y01
    clear b1
    go_wp2_with fail
    exact bodyPost_ret (v := .tuple #[dyV R0.1 a3 n3 c3 R0.2.2, .bool true]) (by simp [results, Tryz.results71, go_sem, z0, z1, z2]) rfl ⟨_, rfl, ⟨a3, n3, c3, rfl, HN3, hn3, (hO3.low lb).set_dy (w.heap.size + 1) false none 0 0 0 _ _ _ z0 z1 z2⟩, by repeat (first | (with_reducible exact bA) | (with_reducible refine Below.setCell ?_ (by simp; try omega) _) | (with_reducible refine Below.alloc ?_ (by have := bA.size; simp; try omega) _))⟩
  · rw [if_neg j0]
    by_cases j1 : J1 = 0
    · rw [if_pos j1]
      go_enter Tryz.func71, Tryz.ntmps71
      go_wp2_with fail
      generalize ((w.alloc (.cells #[.bool p.1, .slice a n c, .int .i64 p.2.2] 27)).alloc (.cells #[.bool false, .slice none 0 0, .int .i64 0] 27)) = w0 at *
      refine wp_loop_rounds 2 ?_
      rw [rounds_succ]
      go_upto_region 4 with fail
      have bP0 := below_one w0 (.cells #[.int .i64 x0, .int .i64 q0] 66)
      replace f0 := kF bP0 z0 f0
      replace f1 := kF bP0 z1 f1
      replace f2 := kF bP0 z2 f2
      replace bA := nT bA bP0
      replace x0c := kC bP0 x0c
      replace x1c := kC bP0 x1c
      replace x2c := kC bP0 x2c
      replace z0 := kC bP0 z0
      replace z1 := kC bP0 z1
      replace z2 := kC bP0 z2
      replace lz := Nat.lt_of_lt_of_le lz bP0.size
      replace cX := kC bP0 cX
      replace cx0 := kC bP0 cx0
      replace cq0 := kC bP0 cq0
      replace cx1 := kC bP0 cx1
      replace cq1 := kC bP0 cq1
      replace cx2 := kC bP0 cx2
      replace cq2 := kC bP0 cq2
      replace hT0 := hT0.kept bP0
      obtain ⟨y00, y01⟩ := fX5 w0 x0 q0
      clear bP0
      generalize w0.alloc (.cells #[.int .i64 x0, .int .i64 q0] 66) = v0 at *
      generalize w0.heap.size = B0 at *
      go_wp2_with fail
      refine Calls.mono (A0.out _ bA) ?_
      rintro r w1 ⟨rfl, b1⟩
      replace f0 := kF b1 z0 f0
      replace f1 := kF b1 z1 f1
      replace f2 := kF b1 z2 f2
      replace bA := nT bA b1
      replace x0c := kC b1 x0c
      replace x1c := kC b1 x1c
      replace x2c := kC b1 x2c
      replace z0 := kC b1 z0
      replace z1 := kC b1 z1
      replace z2 := kC b1 z2
      replace lz := Nat.lt_of_lt_of_le lz b1.size
      replace cX := kC b1 cX
      replace cx0 := kC b1 cx0
      replace cq0 := kC b1 cq0
      replace cx1 := kC b1 cx1
      replace cq1 := kC b1 cq1
      replace cx2 := kC b1 cx2
      replace cq2 := kC b1 cq2
      replace hT0 := hT0.kept b1
      replace y01 := kC b1 y01
      clear b1 y00
      go_wp2_with fail
      rw [rounds_succ]
      go_upto_region 4 with fail
      have bP1 := below_one w1 (.cells #[.int .i64 x1, .int .i64 q1] 66)
      replace f0 := kF bP1 z0 f0
      replace f1 := kF bP1 z1 f1
      replace f2 := kF bP1 z2 f2
      replace bA := nT bA bP1
      replace x0c := kC bP1 x0c
      replace x1c := kC bP1 x1c
      replace x2c := kC bP1 x2c
      replace z0 := kC bP1 z0
      replace z1 := kC bP1 z1
      replace z2 := kC bP1 z2
      replace lz := Nat.lt_of_lt_of_le lz bP1.size
      replace cX := kC bP1 cX
      replace cx0 := kC bP1 cx0
      replace cq0 := kC bP1 cq0
      replace cx1 := kC bP1 cx1
      replace cq1 := kC bP1 cq1
      replace cx2 := kC bP1 cx2
      replace cq2 := kC bP1 cq2
      replace hT0 := hT0.kept bP1
      replace y01 := kC bP1 y01
      obtain ⟨y10, y11⟩ := fX5 w1 x1 q1
      clear bP1
      generalize w1.alloc (.cells #[.int .i64 x1, .int .i64 q1] 66) = v1 at *
      generalize w1.heap.size = B1 at *
      go_wp2_with fail
      refine Calls.mono (A1.out _ bA) ?_
      rintro r w2 ⟨rfl, b1⟩
      replace f0 := kF b1 z0 f0
      replace f1 := kF b1 z1 f1
      replace f2 := kF b1 z2 f2
      replace bA := nT bA b1
      replace x0c := kC b1 x0c
      replace x1c := kC b1 x1c
      replace x2c := kC b1 x2c
      replace z0 := kC b1 z0
      replace z1 := kC b1 z1
      replace z2 := kC b1 z2
      replace lz := Nat.lt_of_lt_of_le lz b1.size
      replace cX := kC b1 cX
      replace cx0 := kC b1 cx0
      replace cq0 := kC b1 cq0
      replace cx1 := kC b1 cx1
      replace cq1 := kC b1 cq1
      replace cx2 := kC b1 cx2
      replace cq2 := kC b1 cq2
      replace hT0 := hT0.kept b1
      replace y01 := kC b1 y01
      replace y11 := kC b1 y11
      clear b1 y10
      go_wp2_with fail
      have lb := bA.size
      refine Calls.mono (Q1.out _ hT0) ?_
      rintro r w9 ⟨_, rfl, ⟨a3, n3, c3, rfl, HN3, hn3, hO3⟩, b1⟩
      replace f0 := kF b1 z0 f0
      replace f1 := kF b1 z1 f1
      replace f2 := kF b1 z2 f2
      replace bA := nT bA b1
      replace x0c := kC b1 x0c
      replace x1c := kC b1 x1c
      replace x2c := kC b1 x2c
      replace z0 := kC b1 z0
      replace z1 := kC b1 z1
      replace z2 := kC b1 z2
      replace lz := Nat.lt_of_lt_of_le lz b1.size
      replace cX := kC b1 cX
      replace cx0 := kC b1 cx0
      replace cq0 := kC b1 cq0
      replace cx1 := kC b1 cx1
      replace cq1 := kC b1 cq1
      replace cx2 := kC b1 cx2
      replace cq2 := kC b1 cq2
      replace hT0 := hT0.kept b1
      replace y01 := kC b1 y01
      replace y11 := kC b1 y11
      clear b1
      go_wp2_with fail
      exact bodyPost_ret (v := .tuple #[dyV R1.1 a3 n3 c3 R1.2.2, .bool true]) (by simp [results, Tryz.results71, go_sem, z0, z1, z2]) rfl ⟨_, rfl, ⟨a3, n3, c3, rfl, HN3, hn3, (hO3.low lb).set_dy (w.heap.size + 1) false none 0 0 0 _ _ _ z0 z1 z2⟩, by repeat (first | (with_reducible exact bA) | (with_reducible refine Below.setCell ?_ (by simp; try omega) _) | (with_reducible refine Below.alloc ?_ (by have := bA.size; simp; try omega) _))⟩
    · rw [if_neg j1]
      by_cases j2 : J2 = 0
      · rw [if_pos j2]
        go_enter Tryz.func71, Tryz.ntmps71
        go_wp2_with fail
        generalize ((w.alloc (.cells #[.bool p.1, .slice a n c, .int .i64 p.2.2] 27)).alloc (.cells #[.bool false, .slice none 0 0, .int .i64 0] 27)) = w0 at *
        refine wp_loop_rounds 3 ?_
        rw [rounds_succ]
        go_upto_region 4 with fail
        have bP0 := below_one w0 (.cells #[.int .i64 x0, .int .i64 q0] 66)
        replace f0 := kF bP0 z0 f0
        replace f1 := kF bP0 z1 f1
        replace f2 := kF bP0 z2 f2
        replace bA := nT bA bP0
        replace x0c := kC bP0 x0c
        replace x1c := kC bP0 x1c
        replace x2c := kC bP0 x2c
        replace z0 := kC bP0 z0
        replace z1 := kC bP0 z1
        replace z2 := kC bP0 z2
        replace lz := Nat.lt_of_lt_of_le lz bP0.size
        replace cX := kC bP0 cX
        replace cx0 := kC bP0 cx0
        replace cq0 := kC bP0 cq0
        replace cx1 := kC bP0 cx1
        replace cq1 := kC bP0 cq1
        replace cx2 := kC bP0 cx2
        replace cq2 := kC bP0 cq2
        replace hT0 := hT0.kept bP0
        obtain ⟨y00, y01⟩ := fX5 w0 x0 q0
        clear bP0
        generalize w0.alloc (.cells #[.int .i64 x0, .int .i64 q0] 66) = v0 at *
        generalize w0.heap.size = B0 at *
        go_wp2_with fail
        refine Calls.mono (A0.out _ bA) ?_
        rintro r w1 ⟨rfl, b1⟩
        replace f0 := kF b1 z0 f0
        replace f1 := kF b1 z1 f1
        replace f2 := kF b1 z2 f2
        replace bA := nT bA b1
        replace x0c := kC b1 x0c
        replace x1c := kC b1 x1c
        replace x2c := kC b1 x2c
        replace z0 := kC b1 z0
        replace z1 := kC b1 z1
        replace z2 := kC b1 z2
        replace lz := Nat.lt_of_lt_of_le lz b1.size
        replace cX := kC b1 cX
        replace cx0 := kC b1 cx0
        replace cq0 := kC b1 cq0
        replace cx1 := kC b1 cx1
        replace cq1 := kC b1 cq1
        replace cx2 := kC b1 cx2
        replace cq2 := kC b1 cq2
        replace hT0 := hT0.kept b1
        replace y01 := kC b1 y01
        clear b1 y00
        go_wp2_with fail
        rw [rounds_succ]
        go_upto_region 4 with fail
        have bP1 := below_one w1 (.cells #[.int .i64 x1, .int .i64 q1] 66)
        replace f0 := kF bP1 z0 f0
        replace f1 := kF bP1 z1 f1
        replace f2 := kF bP1 z2 f2
        replace bA := nT bA bP1
        replace x0c := kC bP1 x0c
        replace x1c := kC bP1 x1c
        replace x2c := kC bP1 x2c
        replace z0 := kC bP1 z0
        replace z1 := kC bP1 z1
        replace z2 := kC bP1 z2
        replace lz := Nat.lt_of_lt_of_le lz bP1.size
        replace cX := kC bP1 cX
        replace cx0 := kC bP1 cx0
        replace cq0 := kC bP1 cq0
        replace cx1 := kC bP1 cx1
        replace cq1 := kC bP1 cq1
        replace cx2 := kC bP1 cx2
        replace cq2 := kC bP1 cq2
        replace hT0 := hT0.kept bP1
        replace y01 := kC bP1 y01
        obtain ⟨y10, y11⟩ := fX5 w1 x1 q1
        clear bP1
        generalize w1.alloc (.cells #[.int .i64 x1, .int .i64 q1] 66) = v1 at *
        generalize w1.heap.size = B1 at *
        go_wp2_with fail
        refine Calls.mono (A1.out _ bA) ?_
        rintro r w2 ⟨rfl, b1⟩
        replace f0 := kF b1 z0 f0
        replace f1 := kF b1 z1 f1
        replace f2 := kF b1 z2 f2
        replace bA := nT bA b1
        replace x0c := kC b1 x0c
        replace x1c := kC b1 x1c
        replace x2c := kC b1 x2c
        replace z0 := kC b1 z0
        replace z1 := kC b1 z1
        replace z2 := kC b1 z2
        replace lz := Nat.lt_of_lt_of_le lz b1.size
        replace cX := kC b1 cX
        replace cx0 := kC b1 cx0
        replace cq0 := kC b1 cq0
        replace cx1 := kC b1 cx1
        replace cq1 := kC b1 cq1
        replace cx2 := kC b1 cx2
        replace cq2 := kC b1 cq2
        replace hT0 := hT0.kept b1
        replace y01 := kC b1 y01
        replace y11 := kC b1 y11
        clear b1 y10
        go_wp2_with fail
        rw [rounds_succ]
        go_upto_region 4 with fail
        have bP2 := below_one w2 (.cells #[.int .i64 x2, .int .i64 q2] 66)
        replace f0 := kF bP2 z0 f0
        replace f1 := kF bP2 z1 f1
        replace f2 := kF bP2 z2 f2
        replace bA := nT bA bP2
        replace x0c := kC bP2 x0c
        replace x1c := kC bP2 x1c
        replace x2c := kC bP2 x2c
        replace z0 := kC bP2 z0
        replace z1 := kC bP2 z1
        replace z2 := kC bP2 z2
        replace lz := Nat.lt_of_lt_of_le lz bP2.size
        replace cX := kC bP2 cX
        replace cx0 := kC bP2 cx0
        replace cq0 := kC bP2 cq0
        replace cx1 := kC bP2 cx1
        replace cq1 := kC bP2 cq1
        replace cx2 := kC bP2 cx2
        replace cq2 := kC bP2 cq2
        replace hT0 := hT0.kept bP2
        replace y01 := kC bP2 y01
        replace y11 := kC bP2 y11
        obtain ⟨y20, y21⟩ := fX5 w2 x2 q2
        clear bP2
        generalize w2.alloc (.cells #[.int .i64 x2, .int .i64 q2] 66) = v2 at *
        generalize w2.heap.size = B2 at *
        go_wp2_with fail
        refine Calls.mono (A2.out _ bA) ?_
        rintro r w3 ⟨rfl, b1⟩
        replace f0 := kF b1 z0 f0
        replace f1 := kF b1 z1 f1
        replace f2 := kF b1 z2 f2
        replace bA := nT bA b1
        replace x0c := kC b1 x0c
        replace x1c := kC b1 x1c
        replace x2c := kC b1 x2c
        replace z0 := kC b1 z0
        replace z1 := kC b1 z1
        replace z2 := kC b1 z2
        replace lz := Nat.lt_of_lt_of_le lz b1.size
        replace cX := kC b1 cX
        replace cx0 := kC b1 cx0
        replace cq0 := kC b1 cq0
        replace cx1 := kC b1 cx1
        replace cq1 := kC b1 cq1
        replace cx2 := kC b1 cx2
        replace cq2 := kC b1 cq2
        replace hT0 := hT0.kept b1
        replace y01 := kC b1 y01
        replace y11 := kC b1 y11
        replace y21 := kC b1 y21
        clear b1 y20
        go_wp2_with fail
        have lb := bA.size
        refine Calls.mono (Q2.out _ hT0) ?_
        rintro r w9 ⟨_, rfl, ⟨a3, n3, c3, rfl, HN3, hn3, hO3⟩, b1⟩
        replace f0 := kF b1 z0 f0
        replace f1 := kF b1 z1 f1
        replace f2 := kF b1 z2 f2
        replace bA := nT bA b1
        replace x0c := kC b1 x0c
        replace x1c := kC b1 x1c
        replace x2c := kC b1 x2c
        replace z0 := kC b1 z0
        replace z1 := kC b1 z1
        replace z2 := kC b1 z2
        replace lz := Nat.lt_of_lt_of_le lz b1.size
        replace cX := kC b1 cX
        replace cx0 := kC b1 cx0
        replace cq0 := kC b1 cq0
        replace cx1 := kC b1 cx1
        replace cq1 := kC b1 cq1
        replace cx2 := kC b1 cx2
        replace cq2 := kC b1 cq2
        replace hT0 := hT0.kept b1
        replace y01 := kC b1 y01
        replace y11 := kC b1 y11
        replace y21 := kC b1 y21
        clear b1
        go_wp2_with fail
        exact bodyPost_ret (v := .tuple #[dyV R2.1 a3 n3 c3 R2.2.2, .bool true]) (by simp [results, Tryz.results71, go_sem, z0, z1, z2]) rfl ⟨_, rfl, ⟨a3, n3, c3, rfl, HN3, hn3, (hO3.low lb).set_dy (w.heap.size + 1) false none 0 0 0 _ _ _ z0 z1 z2⟩, by repeat (first | (with_reducible exact bA) | (with_reducible refine Below.setCell ?_ (by simp; try omega) _) | (with_reducible refine Below.alloc ?_ (by have := bA.size; simp; try omega) _))⟩
      · rw [if_neg j2]
        unfold no3
        go_enter Tryz.func71, Tryz.ntmps71
        go_wp2_with fail
        generalize ((w.alloc (.cells #[.bool p.1, .slice a n c, .int .i64 p.2.2] 27)).alloc (.cells #[.bool false, .slice none 0 0, .int .i64 0] 27)) = w0 at *
        refine wp_loop_rounds 4 ?_
        rw [rounds_succ]
        go_upto_region 4 with fail
        have bP0 := below_one w0 (.cells #[.int .i64 x0, .int .i64 q0] 66)
        replace f0 := kF bP0 z0 f0
        replace f1 := kF bP0 z1 f1
        replace f2 := kF bP0 z2 f2
        replace bA := nT bA bP0
        replace x0c := kC bP0 x0c
        replace x1c := kC bP0 x1c
        replace x2c := kC bP0 x2c
        replace z0 := kC bP0 z0
        replace z1 := kC bP0 z1
        replace z2 := kC bP0 z2
        replace lz := Nat.lt_of_lt_of_le lz bP0.size
        replace cX := kC bP0 cX
        replace cx0 := kC bP0 cx0
        replace cq0 := kC bP0 cq0
        replace cx1 := kC bP0 cx1
        replace cq1 := kC bP0 cq1
        replace cx2 := kC bP0 cx2
        replace cq2 := kC bP0 cq2
        replace hT0 := hT0.kept bP0
        obtain ⟨y00, y01⟩ := fX5 w0 x0 q0
        clear bP0
        generalize w0.alloc (.cells #[.int .i64 x0, .int .i64 q0] 66) = v0 at *
        generalize w0.heap.size = B0 at *
        go_wp2_with fail
        refine Calls.mono (A0.out _ bA) ?_
        rintro r w1 ⟨rfl, b1⟩
        replace f0 := kF b1 z0 f0
        replace f1 := kF b1 z1 f1
        replace f2 := kF b1 z2 f2
        replace bA := nT bA b1
        replace x0c := kC b1 x0c
        replace x1c := kC b1 x1c
        replace x2c := kC b1 x2c
        replace z0 := kC b1 z0
        replace z1 := kC b1 z1
        replace z2 := kC b1 z2
        replace lz := Nat.lt_of_lt_of_le lz b1.size
        replace cX := kC b1 cX
        replace cx0 := kC b1 cx0
        replace cq0 := kC b1 cq0
        replace cx1 := kC b1 cx1
        replace cq1 := kC b1 cq1
        replace cx2 := kC b1 cx2
        replace cq2 := kC b1 cq2
        replace hT0 := hT0.kept b1
        replace y01 := kC b1 y01
        clear b1 y00
        go_wp2_with fail
        rw [rounds_succ]
        go_upto_region 4 with fail
        have bP1 := below_one w1 (.cells #[.int .i64 x1, .int .i64 q1] 66)
        replace f0 := kF bP1 z0 f0
        replace f1 := kF bP1 z1 f1
        replace f2 := kF bP1 z2 f2
        replace bA := nT bA bP1
        replace x0c := kC bP1 x0c
        replace x1c := kC bP1 x1c
        replace x2c := kC bP1 x2c
        replace z0 := kC bP1 z0
        replace z1 := kC bP1 z1
        replace z2 := kC bP1 z2
        replace lz := Nat.lt_of_lt_of_le lz bP1.size
        replace cX := kC bP1 cX
        replace cx0 := kC bP1 cx0
        replace cq0 := kC bP1 cq0
        replace cx1 := kC bP1 cx1
        replace cq1 := kC bP1 cq1
        replace cx2 := kC bP1 cx2
        replace cq2 := kC bP1 cq2
        replace hT0 := hT0.kept bP1
        replace y01 := kC bP1 y01
        obtain ⟨y10, y11⟩ := fX5 w1 x1 q1
        clear bP1
        generalize w1.alloc (.cells #[.int .i64 x1, .int .i64 q1] 66) = v1 at *
        generalize w1.heap.size = B1 at *
        go_wp2_with fail
        refine Calls.mono (A1.out _ bA) ?_
        rintro r w2 ⟨rfl, b1⟩
        replace f0 := kF b1 z0 f0
        replace f1 := kF b1 z1 f1
        replace f2 := kF b1 z2 f2
        replace bA := nT bA b1
        replace x0c := kC b1 x0c
        replace x1c := kC b1 x1c
        replace x2c := kC b1 x2c
        replace z0 := kC b1 z0
        replace z1 := kC b1 z1
        replace z2 := kC b1 z2
        replace lz := Nat.lt_of_lt_of_le lz b1.size
        replace cX := kC b1 cX
        replace cx0 := kC b1 cx0
        replace cq0 := kC b1 cq0
        replace cx1 := kC b1 cx1
        replace cq1 := kC b1 cq1
        replace cx2 := kC b1 cx2
        replace cq2 := kC b1 cq2
        replace hT0 := hT0.kept b1
        replace y01 := kC b1 y01
        replace y11 := kC b1 y11
        clear b1 y10
        go_wp2_with fail
        rw [rounds_succ]
        go_upto_region 4 with fail
        have bP2 := below_one w2 (.cells #[.int .i64 x2, .int .i64 q2] 66)
        replace f0 := kF bP2 z0 f0
        replace f1 := kF bP2 z1 f1
        replace f2 := kF bP2 z2 f2
        replace bA := nT bA bP2
        replace x0c := kC bP2 x0c
        replace x1c := kC bP2 x1c
        replace x2c := kC bP2 x2c
        replace z0 := kC bP2 z0
        replace z1 := kC bP2 z1
        replace z2 := kC bP2 z2
        replace lz := Nat.lt_of_lt_of_le lz bP2.size
        replace cX := kC bP2 cX
        replace cx0 := kC bP2 cx0
        replace cq0 := kC bP2 cq0
        replace cx1 := kC bP2 cx1
        replace cq1 := kC bP2 cq1
        replace cx2 := kC bP2 cx2
        replace cq2 := kC bP2 cq2
        replace hT0 := hT0.kept bP2
        replace y01 := kC bP2 y01
        replace y11 := kC bP2 y11
        obtain ⟨y20, y21⟩ := fX5 w2 x2 q2
        clear bP2
        generalize w2.alloc (.cells #[.int .i64 x2, .int .i64 q2] 66) = v2 at *
        generalize w2.heap.size = B2 at *
        go_wp2_with fail
        refine Calls.mono (A2.out _ bA) ?_
        rintro r w3 ⟨rfl, b1⟩
        replace f0 := kF b1 z0 f0
        replace f1 := kF b1 z1 f1
        replace f2 := kF b1 z2 f2
        replace bA := nT bA b1
        replace x0c := kC b1 x0c
        replace x1c := kC b1 x1c
        replace x2c := kC b1 x2c
        replace z0 := kC b1 z0
        replace z1 := kC b1 z1
        replace z2 := kC b1 z2
        replace lz := Nat.lt_of_lt_of_le lz b1.size
        replace cX := kC b1 cX
        replace cx0 := kC b1 cx0
        replace cq0 := kC b1 cq0
        replace cx1 := kC b1 cx1
        replace cq1 := kC b1 cq1
        replace cx2 := kC b1 cx2
        replace cq2 := kC b1 cq2
        replace hT0 := hT0.kept b1
        replace y01 := kC b1 y01
        replace y11 := kC b1 y11
        replace y21 := kC b1 y21
        clear b1 y20
        go_wp2_with fail
        rw [rounds_succ]
        go_wp2_with fail
        exact bodyPost_ret (v := .tuple #[dyV false none 0 0 0, .bool false]) (by simp [results, Tryz.results71, go_sem, z0, z1, z2]) rfl ⟨_, rfl, dyAt_z3 _ _, by repeat (first | (with_reducible exact bA) | (with_reducible refine Below.setCell ?_ (by simp; try omega) _) | (with_reducible refine Below.alloc ?_ (by have := bA.size; simp; try omega) _))⟩

theorem powO_eq (O : Nat) (k : Int) (hg : greatB O = false) (hG : greatB (O ^ k.toNat) = false) : powR O (max 0 k) = (O ^ k.toNat, 0) := by
  unfold powR
  rw [hg, if_neg (by decide), if_neg (by omega), show (max 0 k).toNat = k.toNat by omega, fitR_no hG]

set_option maxRecDepth 100000 in
set_option maxHeartbeats 4000000 in
theorem to_calls5 (O : Nat) (l m k : Int) (w : World) (hO : O ≤ 18446744073709551615) (hk : k ≤ 100000) (hg1 : greatB O = false) (hg2 : greatB (O ^ k.toNat) = false) :
    Calls Tryz.prog 73 #[.agg #[.int .u64 (O : Int), .int .i64 l, .int .i64 m], .int .i64 k] w fun q w' => ∃ v', q = .returned v' ∧ DyAt w.heap.size w' v' (toP O k) ∧ Below w.heap.size w w' := by
  have hR : powR O (max 0 k) = (O ^ k.toNat, 0) := powO_eq O k hg1 hg2
  have bA : Below w.heap.size w ((w.alloc (.cells #[.int .u64 (O : Int), .int .i64 l, .int .i64 m] 68)).alloc (.cells #[.bool false, .slice none 0 0, .int .i64 0] 27)) := nT (below_one _ _) (below_one _ _)
  have p0 : ((w.alloc (.cells #[.int .u64 (O : Int), .int .i64 l, .int .i64 m] 68)).alloc (.cells #[.bool false, .slice none 0 0, .int .i64 0] 27)).cell? ⟨w.heap.size, 0, none⟩ = some (.int .u64 (O : Int)) := by go_simp
  have z0 : ((w.alloc (.cells #[.int .u64 (O : Int), .int .i64 l, .int .i64 m] 68)).alloc (.cells #[.bool false, .slice none 0 0, .int .i64 0] 27)).cell? ⟨w.heap.size + 1, 0, none⟩ = some (.bool false) := by go_simp
  have f0 : ((w.alloc (.cells #[.int .u64 (O : Int), .int .i64 l, .int .i64 m] 68)).alloc (.cells #[.bool false, .slice none 0 0, .int .i64 0] 27)).frozen? ⟨w.heap.size + 1, 0, none⟩ = false := by go_simp
  have z1 : ((w.alloc (.cells #[.int .u64 (O : Int), .int .i64 l, .int .i64 m] 68)).alloc (.cells #[.bool false, .slice none 0 0, .int .i64 0] 27)).cell? ⟨w.heap.size + 1, 1, none⟩ = some (.slice none 0 0) := by go_simp
  have f1 : ((w.alloc (.cells #[.int .u64 (O : Int), .int .i64 l, .int .i64 m] 68)).alloc (.cells #[.bool false, .slice none 0 0, .int .i64 0] 27)).frozen? ⟨w.heap.size + 1, 1, none⟩ = false := by go_simp
  have z2 : ((w.alloc (.cells #[.int .u64 (O : Int), .int .i64 l, .int .i64 m] 68)).alloc (.cells #[.bool false, .slice none 0 0, .int .i64 0] 27)).cell? ⟨w.heap.size + 1, 2, none⟩ = some (.int .i64 0) := by go_simp
  have f2 : ((w.alloc (.cells #[.int .u64 (O : Int), .int .i64 l, .int .i64 m] 68)).alloc (.cells #[.bool false, .slice none 0 0, .int .i64 0] 27)).frozen? ⟨w.heap.size + 1, 2, none⟩ = false := by go_simp
  have OC : Hid _ := of_eq O ((w.alloc (.cells #[.int .u64 (O : Int), .int .i64 l, .int .i64 m] 68)).alloc (.cells #[.bool false, .slice none 0 0, .int .i64 0] 27)) hO
  have PC : Hid _ := fun (W : World) (a : Option Addr) (n c : Nat) (h : IsW W a n c (wordsOf O)) (hn : n ≤ 1024) => pow_calls a n c (wordsOf O) (max 0 k) W h (by omega) (by omega)
  have hv := val_words O
  simp only [hv, hR] at PC
  unfold toP
  generalize O ^ k.toNat = R at *
  clear hv hR hO hg1
  go_enter Tryz.func73, Tryz.ntmps73
  go_wp2_with fail
  generalize ((w.alloc (.cells #[.int .u64 (O : Int), .int .i64 l, .int .i64 m] 68)).alloc (.cells #[.bool false, .slice none 0 0, .int .i64 0] 27)) = w0 at *
  refine Calls.mono OC.out ?_
  rintro r w1 ⟨ao, no, co, rfl, HNo, hno, hOo, b1⟩
  replace f0 := kF b1 z0 f0
  replace f1 := kF b1 z1 f1
  replace f2 := kF b1 z2 f2
  replace bA := nT bA b1
  replace p0 := kC b1 p0
  replace z0 := kC b1 z0
  replace z1 := kC b1 z1
  replace z2 := kC b1 z2
  clear OC b1
  go_wp2_with fail
  have lb := bA.size
  refine Calls.mono (PC.out _ _ _ _ hOo.1 hno) ?_
  rintro r w2 ⟨_, rfl, ⟨a3, n3, c3, rfl, HN3, hO3⟩, b1⟩
  replace f0 := kF b1 z0 f0
  replace f1 := kF b1 z1 f1
  replace f2 := kF b1 z2 f2
  replace bA := nT bA b1
  replace p0 := kC b1 p0
  replace z0 := kC b1 z0
  replace z1 := kC b1 z1
  replace z2 := kC b1 z2
  have hn3 : n3 ≤ 1024 := len_of_fit HN3 hg2
  have HM3 : Hid _ := HN3
  clear PC b1 HN3
  go_wp2_with fail
  exact bodyPost_ret (v := dyV false a3 n3 c3 k) (by simp [results, Tryz.results73, go_sem, z0, z1, z2]) rfl ⟨_, rfl, ⟨a3, n3, c3, rfl, HM3, hn3, (hO3.low lb).set_dy (w.heap.size + 1) false none 0 0 0 _ _ _ z0 z1 z2⟩, by repeat (first | (with_reducible exact bA) | (with_reducible refine Below.setCell ?_ (by simp; try omega) _) | (with_reducible refine Below.alloc ?_ (by have := bA.size; simp; try omega) _))⟩
end Go.Proofs.YtiijfnaaekmpbaaGreatDoor

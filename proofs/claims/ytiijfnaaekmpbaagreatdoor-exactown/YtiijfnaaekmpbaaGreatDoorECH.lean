/- Package exact: Exact2 as it is called. -/
import Derived.Test.YtiijfnaaekmpbaaGreatDoorCR
import Derived.Test.YtiijfnaaekmpbaaGreatDoorECZ
import Derived.Test.YtiijfnaaekmpbaaGreatDoorFX
namespace Go.Proofs.YtiijfnaaekmpbaaGreatDoor
open Go.RowKit
set_option maxHeartbeats 4000000
set_option maxRecDepth 100000
theorem und_map2 : Tryz.prog.underlying 61 = some (.map 22 60) := by kernel_rfl
theorem ins_run2 {w : World} {r : Nat} {es : Array MapEntry} {ck : Nat} (f : Int) (v : Value) (hb : w.heap[r]? = some (.map es ck)) (hf : Instr.findNow (.int .u8) (.int .u8 f) es.toList 0 = some none) :
  Sem.run Tryz.prog (Instr.mapUpdate 61 (.map (some r)) (.int .u8 f) v) w = .ok () (insW w r es ck (.int .u8 f) v) := by
 have hc : (Instr.checkKey false 10000 22 (.int .u8 f)).run Tryz.prog w = .ok () w := MapKept.run_checkKey (k := .int .u8 f) und_key (by simp [MapKept.IsKey]) false 9999
 simp [Instr.mapUpdate, run_underlying und_map2, MapKept.run_getObj_map hb, hc, MapKept.run_findKey und_key hf, MapKept.run_setObj_map _ hb, Result.andThen, insW]
theorem ins_all2 {w0 w : World} {r : Nat} {es : Array MapEntry} {ck : Nat} (f : Int) (v : Value) (hb : w.heap[r]? = some (.map es ck)) (hf : Instr.findNow (.int .u8) (.int .u8 f) es.toList 0 = some none) (b : Below w0.heap.size w0 w) (h0 : w0.heap.size ≤ r) :
  ∃ u, Sem.run Tryz.prog (Instr.mapUpdate 61 (.map (some r)) (.int .u8 f) v) w = .ok () u ∧ u.heap[r]? = some (.map (es.push { key := .int .u8 f, val := v, born := ck }) (ck + 1)) ∧ Below w0.heap.size w0 u :=
 ⟨_, ins_run2 f v hb hf, ins_map hb, ins_below b h0 hb⟩
theorem look_yes2 {w : World} {r : Nat} {es : Array MapEntry} {ck : Nat} (f : Int) {i : Nat} {v : Value} (hb : w.heap[r]? = some (.map es ck)) (hf : Instr.findNow (.int .u8) (.int .u8 f) es.toList 0 = some (some (i, v))) :
  Sem.run Tryz.prog (Instr.lookup 61 (.map (some r)) (.int .u8 f) false) w = .ok v w := by
 have hc : (Instr.checkKey es.isEmpty 10000 22 (.int .u8 f)).run Tryz.prog w = .ok () w := MapKept.run_checkKey (k := .int .u8 f) und_key (by simp [MapKept.IsKey]) _ 9999
 simp [Instr.lookup, run_underlying und_map2, MapKept.run_getObj_map hb, hc, MapKept.run_findKey und_key hf, Result.andThen]
theorem measures_calls (w : World) :
  Calls Tryz.prog 30 #[] w fun q w' => ∃ R es ck, q = .returned (.map (some R)) ∧ w'.heap[R]? = some (.map es ck) ∧ Instr.findNow (.int .u8) (.int .u8 33) es.toList 0 = some (some (0, .func (.func 68) #[] #[])) ∧ Instr.findNow (.int .u8) (.int .u8 34) es.toList 0 = some (some (1, .func (.func 69) #[] #[])) ∧ Below w.heap.size w w' := by
 have hmm := @run_makeMap Tryz.prog
 have bA := below_one w (.map #[] 0)
 have hM : (w.alloc (.map #[] 0)).heap[w.heap.size]? = some (.map #[] 0) := (MapKept.heap_alloc w _).1
 obtain ⟨u1, hI1, hM1, bB⟩ := ins_all2 (w0 := w) 33 (.func (.func 68) #[] #[]) hM (by rfl) bA (Nat.le_refl _)
 obtain ⟨u2, hI2, hM2, bC⟩ := ins_all2 (w0 := w) 34 (.func (.func 69) #[] #[]) hM1 (by rfl) bB (Nat.le_refl _)
 clear hM hM1 bA bB
 go_enter Tryz.func30, Tryz.ntmps30
 go_wp2_with fail
 go_ret
 exact ⟨_, _, _, rfl, hM2, rfl, rfl, bC⟩
theorem exact2_calls (f y x : Int) (w : World) (hy : U y) (hx : U x) (hT : TabE w) :
  Calls Tryz.prog 16 #[.int .u8 f, .int .u64 y, .int .u64 x] w fun q w' => ∃ v', q = .returned (.tuple #[v', .bool (e2V f y x).2, .int .i64 (e2E f y x)]) ∧ DyAt w.heap.size w' v' (e2V f y x).1 ∧ Below w.heap.size w w' := by
 have bA := below_one w (.cells #[.bool false, .slice none 0 0, .int .i64 0] 27)
 obtain ⟨z0, f0, z1, f1, z2, f2⟩ := fX16 w _ rfl
 have IC : Hid _ := fun W => eIs2_calls f W
 have HT : Hid (TabE w) := hT
 have FY : Hid _ := fun W (b : Below w.heap.size w W) => pfrom_calls y W hy (hT.1.kept b)
 have FX : Hid _ := fun W (b : Below w.heap.size w W) => pfrom_calls x W hx (hT.1.kept b)
 have ZY : Hid _ := fun (W : World) (b : Below w.heap.size w W) (a : Option Addr) (n c : Nat) (h : IsW W a n c (wO (fromP y).2.1)) (hn : n ≤ 1024) => zeroE (fromP y) a n c W h hn (from_ok y) (hT.1.kept b)
 have ZX : Hid _ := fun (W : World) (b : Below w.heap.size w W) (a : Option Addr) (n c : Nat) (h : IsW W a n c (wO (fromP x).2.1)) (hn : n ≤ 1024) => zeroE (fromP x) a n c W h hn (from_ok x) (hT.1.kept b)
 have DR : Hid _ := fun (W : World) (b : Below w.heap.size w W) (a1 : Option Addr) (n1 c1 : Nat) (h1 : IsW W a1 n1 c1 (wO (fromP y).2.1)) (k1 : n1 ≤ 1024) (a2 : Option Addr) (n2 c2 : Nat) (h2 : IsW W a2 n2 c2 (wO (fromP x).2.1)) (k2 : n2 ≤ 1024) => direction_calls (fromP y) (fromP x) a1 n1 c1 a2 n2 c2 W h1 k1 h2 k2 (from_ok y) (from_ok x) (hT.kept b)
 have hQ := dr_bd (fromP y) (fromP x)
 unfold e2V
 clear hT hy hx
 cases hF : is2 f with
 | false =>
  have e : e2E f y x = 2 := by unfold e2E; rw [hF]; rfl
  rw [e, if_neg (by decide)]
  rw [hF] at IC
  unfold no3
  clear e hF FY FX ZY ZX DR hQ
  go_enter Tryz.func16, Tryz.ntmps16
  go_wp2_with fail
  generalize (w.alloc (.cells #[.bool false, .slice none 0 0, .int .i64 0] 27)) = w0 at *
  refine cM (IC.out _) ?_
  rintro q w9 ⟨rfl, rfl⟩
  clear IC
  go_wp2_with fail
  exact bodyPost_ret (v := .tuple #[dyV false none 0 0 0, .bool false, .int .i64 2]) (by simp [results, Tryz.results16, go_sem, z0, z1, z2]) rfl ⟨_, rfl, dyAt_z3 _ _, by repeat (first | (with_reducible exact bA) | (with_reducible refine Below.setCell ?_ (by simp; try omega) _) | (with_reducible refine Below.alloc ?_ (by have := bA.size; simp; try omega) _))⟩
 | true =>
  rw [hF] at IC
  have e : e2E f y x = if (finB y && finB x && !(decide ((fromP y).2.1 = 0) && decide ((fromP x).2.1 = 0))) = true then 0 else 5 := by unfold e2E; rw [hF]; rfl
  rw [e]
  clear e
  have hf2 : f = 33 ∨ f = 34 := of_decide_eq_true hF
  clear hF
  cases hfy : finB y with
  | false =>
   rw [show lastE y = 5 from by unfold lastE; rw [hfy]; rfl] at FY
   simp only [Bool.false_and, Bool.false_eq_true, if_false]
   rw [if_neg (by decide)]
   unfold no3
   clear FX ZY ZX DR hQ
   generalize fromP y = P at *
   go_enter Tryz.func16, Tryz.ntmps16
   go_wp2_with fail
   generalize (w.alloc (.cells #[.bool false, .slice none 0 0, .int .i64 0] 27)) = w0 at *
   refine cM (IC.out _) ?_
   rintro q w9 ⟨rfl, rfl⟩
   clear IC
   go_wp2_with fail
   refine cM (FY.out _ bA) ?_
   have lb := bA.size
   rintro q w1 ⟨_, rfl, ⟨a1, n1, c1, rfl, HN1, hn1, hO1⟩, b1⟩
   replace hO1 := hO1.low lb
   clear lb
   obtain ⟨bA, z0, f0, z1, f1, z2, f2⟩ := jkAF3 b1 bA z0 f0 z1 f1 z2 f2
   clear b1 FY
   have bD := below_one w1 (.cells #[.bool P.1, .slice a1 n1 c1, .int .i64 P.2.2] 27)
   obtain ⟨bA, hO1, z0, f0, z1, f1, z2, f2⟩ := jkAOF3 bD bA hO1 z0 f0 z1 f1 z2 f2
   obtain ⟨u0, u1, u2⟩ := fX3 w1 P a1 n1 c1 _ rfl
   clear bD
   go_upto_region 4 with fail
   generalize w1.alloc (.cells #[.bool P.1, .slice a1 n1 c1, .int .i64 P.2.2] 27) = w2 at *
   generalize w1.heap.size = BY at *
   go_wp2_with fail
   exact bodyPost_ret (v := .tuple #[dyV false none 0 0 0, .bool false, .int .i64 5]) (by simp [results, Tryz.results16, go_sem, z0, z1, z2]) rfl ⟨_, rfl, dyAt_z3 _ _, by repeat (first | (with_reducible exact bA) | (with_reducible refine Below.setCell ?_ (by simp; try omega) _) | (with_reducible refine Below.alloc ?_ (by have := bA.size; simp; try omega) _))⟩
  | true =>
   rw [show lastE y = 0 from by unfold lastE; rw [hfy]; rfl] at FY
   cases hfx : finB x with
   | false =>
    rw [show lastE x = 5 from by unfold lastE; rw [hfx]; rfl] at FX
    simp only [Bool.and_false, Bool.false_and, Bool.false_eq_true, if_false]
    rw [if_neg (by decide)]
    unfold no3
    clear ZY ZX DR hQ
    generalize fromP y = P at *
    generalize fromP x = Q at *
    go_enter Tryz.func16, Tryz.ntmps16
    go_wp2_with fail
    generalize (w.alloc (.cells #[.bool false, .slice none 0 0, .int .i64 0] 27)) = w0 at *
    refine cM (IC.out _) ?_
    rintro q w9 ⟨rfl, rfl⟩
    clear IC
    go_wp2_with fail
    refine cM (FY.out _ bA) ?_
    have lb := bA.size
    rintro q w1 ⟨_, rfl, ⟨a1, n1, c1, rfl, HN1, hn1, hO1⟩, b1⟩
    replace hO1 := hO1.low lb
    clear lb
    obtain ⟨bA, z0, f0, z1, f1, z2, f2⟩ := jkAF3 b1 bA z0 f0 z1 f1 z2 f2
    clear b1 FY
    have bD := below_one w1 (.cells #[.bool P.1, .slice a1 n1 c1, .int .i64 P.2.2] 27)
    obtain ⟨bA, hO1, z0, f0, z1, f1, z2, f2⟩ := jkAOF3 bD bA hO1 z0 f0 z1 f1 z2 f2
    obtain ⟨u0, u1, u2⟩ := fX3 w1 P a1 n1 c1 _ rfl
    clear bD
    go_upto_region 4 with fail
    generalize w1.alloc (.cells #[.bool P.1, .slice a1 n1 c1, .int .i64 P.2.2] 27) = w2 at *
    generalize w1.heap.size = BY at *
    go_wp2_with fail
    refine cM (FX.out _ bA) ?_
    have lb := bA.size
    rintro q w3 ⟨_, rfl, ⟨a2, n2, c2, rfl, HN2, hn2, hO2⟩, b1⟩
    replace hO2 := hO2.low lb
    clear lb
    obtain ⟨bA, hO1, z0, f0, z1, f1, z2, f2, u0, u1, u2⟩ := jkAOF3C3 b1 bA hO1 z0 f0 z1 f1 z2 f2 u0 u1 u2
    clear b1 FX
    have bD := below_one w3 (.cells #[.bool Q.1, .slice a2 n2 c2, .int .i64 Q.2.2] 27)
    obtain ⟨bA, hO1, hO2, z0, f0, z1, f1, z2, f2, u0, u1, u2⟩ := jkAO2F3C3 bD bA hO1 hO2 z0 f0 z1 f1 z2 f2 u0 u1 u2
    obtain ⟨v0, v1, v2⟩ := fX3 w3 Q a2 n2 c2 _ rfl
    clear bD
    go_upto_region 7 with fail
    generalize w3.alloc (.cells #[.bool Q.1, .slice a2 n2 c2, .int .i64 Q.2.2] 27) = w4 at *
    generalize w3.heap.size = BX at *
    go_wp2_with fail
    exact bodyPost_ret (v := .tuple #[dyV false none 0 0 0, .bool false, .int .i64 5]) (by simp [results, Tryz.results16, go_sem, z0, z1, z2]) rfl ⟨_, rfl, dyAt_z3 _ _, by repeat (first | (with_reducible exact bA) | (with_reducible refine Below.setCell ?_ (by simp; try omega) _) | (with_reducible refine Below.alloc ?_ (by have := bA.size; simp; try omega) _))⟩
   | true =>
    rw [show lastE x = 0 from by unfold lastE; rw [hfx]; rfl] at FX
    simp only [Bool.true_and]
    generalize fromP y = P at *
    generalize fromP x = Q at *
    generalize drQ P Q = D at *
    obtain ⟨D1, D2⟩ := D
    simp only at hQ DR ⊢
    generalize decide (Q.2.1 = 0) = b2 at *
    cases hb1 : decide (P.2.1 = 0) with
    | true =>
     rw [hb1] at ZY
     cases b2 with
     | true =>
      simp only [Bool.and_self, Bool.not_true, Bool.false_eq_true, if_false]
      rw [if_neg (by decide)]
      unfold no3
      clear DR hQ
      go_enter Tryz.func16, Tryz.ntmps16
      go_wp2_with fail
      generalize (w.alloc (.cells #[.bool false, .slice none 0 0, .int .i64 0] 27)) = w0 at *
      refine cM (IC.out _) ?_
      rintro q w9 ⟨rfl, rfl⟩
      clear IC
      go_wp2_with fail
      refine cM (FY.out _ bA) ?_
      have lb := bA.size
      rintro q w1 ⟨_, rfl, ⟨a1, n1, c1, rfl, HN1, hn1, hO1⟩, b1⟩
      replace hO1 := hO1.low lb
      clear lb
      obtain ⟨bA, z0, f0, z1, f1, z2, f2⟩ := jkAF3 b1 bA z0 f0 z1 f1 z2 f2
      clear b1 FY
      have bD := below_one w1 (.cells #[.bool P.1, .slice a1 n1 c1, .int .i64 P.2.2] 27)
      obtain ⟨bA, hO1, z0, f0, z1, f1, z2, f2⟩ := jkAOF3 bD bA hO1 z0 f0 z1 f1 z2 f2
      obtain ⟨u0, u1, u2⟩ := fX3 w1 P a1 n1 c1 _ rfl
      clear bD
      go_upto_region 4 with fail
      generalize w1.alloc (.cells #[.bool P.1, .slice a1 n1 c1, .int .i64 P.2.2] 27) = w2 at *
      generalize w1.heap.size = BY at *
      go_wp2_with fail
      refine cM (FX.out _ bA) ?_
      have lb := bA.size
      rintro q w3 ⟨_, rfl, ⟨a2, n2, c2, rfl, HN2, hn2, hO2⟩, b1⟩
      replace hO2 := hO2.low lb
      clear lb
      obtain ⟨bA, hO1, z0, f0, z1, f1, z2, f2, u0, u1, u2⟩ := jkAOF3C3 b1 bA hO1 z0 f0 z1 f1 z2 f2 u0 u1 u2
      clear b1 FX
      have bD := below_one w3 (.cells #[.bool Q.1, .slice a2 n2 c2, .int .i64 Q.2.2] 27)
      obtain ⟨bA, hO1, hO2, z0, f0, z1, f1, z2, f2, u0, u1, u2⟩ := jkAO2F3C3 bD bA hO1 hO2 z0 f0 z1 f1 z2 f2 u0 u1 u2
      obtain ⟨v0, v1, v2⟩ := fX3 w3 Q a2 n2 c2 _ rfl
      clear bD
      go_upto_region 7 with fail
      generalize w3.alloc (.cells #[.bool Q.1, .slice a2 n2 c2, .int .i64 Q.2.2] 27) = w4 at *
      generalize w3.heap.size = BX at *
      go_wp2_with fail
      refine cM (ZY.out _ bA _ _ _ hO1.1 hn1) ?_
      rintro q w5 ⟨rfl, b1⟩
      obtain ⟨bA, hO1, hO2, z0, f0, z1, f1, z2, f2, u0, u1, u2, v0, v1, v2⟩ := jkAO2F3C6 b1 bA hO1 hO2 z0 f0 z1 f1 z2 f2 u0 u1 u2 v0 v1 v2
      clear b1 ZY
      go_wp2_with fail
      refine cM (ZX.out _ bA _ _ _ hO2.1 hn2) ?_
      rintro q w6 ⟨rfl, b1⟩
      obtain ⟨bA, hO1, hO2, z0, f0, z1, f1, z2, f2, u0, u1, u2, v0, v1, v2⟩ := jkAO2F3C6 b1 bA hO1 hO2 z0 f0 z1 f1 z2 f2 u0 u1 u2 v0 v1 v2
      clear b1 ZX
      go_wp2_with fail
      exact bodyPost_ret (v := .tuple #[dyV false none 0 0 0, .bool false, .int .i64 5]) (by simp [results, Tryz.results16, go_sem, z0, z1, z2]) rfl ⟨_, rfl, dyAt_z3 _ _, by repeat (first | (with_reducible exact bA) | (with_reducible refine Below.setCell ?_ (by simp; try omega) _) | (with_reducible refine Below.alloc ?_ (by have := bA.size; simp; try omega) _))⟩
     | false =>
      simp only [Bool.and_false, Bool.not_false, if_true]
      cases D2 with
      | false =>
       rw [if_neg (by decide)]
       unfold no3
       go_enter Tryz.func16, Tryz.ntmps16
       go_wp2_with fail
       generalize (w.alloc (.cells #[.bool false, .slice none 0 0, .int .i64 0] 27)) = w0 at *
       refine cM (IC.out _) ?_
       rintro q w9 ⟨rfl, rfl⟩
       clear IC
       go_wp2_with fail
       refine cM (FY.out _ bA) ?_
       have lb := bA.size
       rintro q w1 ⟨_, rfl, ⟨a1, n1, c1, rfl, HN1, hn1, hO1⟩, b1⟩
       replace hO1 := hO1.low lb
       clear lb
       obtain ⟨bA, z0, f0, z1, f1, z2, f2⟩ := jkAF3 b1 bA z0 f0 z1 f1 z2 f2
       clear b1 FY
       have bD := below_one w1 (.cells #[.bool P.1, .slice a1 n1 c1, .int .i64 P.2.2] 27)
       obtain ⟨bA, hO1, z0, f0, z1, f1, z2, f2⟩ := jkAOF3 bD bA hO1 z0 f0 z1 f1 z2 f2
       obtain ⟨u0, u1, u2⟩ := fX3 w1 P a1 n1 c1 _ rfl
       clear bD
       go_upto_region 4 with fail
       generalize w1.alloc (.cells #[.bool P.1, .slice a1 n1 c1, .int .i64 P.2.2] 27) = w2 at *
       generalize w1.heap.size = BY at *
       go_wp2_with fail
       refine cM (FX.out _ bA) ?_
       have lb := bA.size
       rintro q w3 ⟨_, rfl, ⟨a2, n2, c2, rfl, HN2, hn2, hO2⟩, b1⟩
       replace hO2 := hO2.low lb
       clear lb
       obtain ⟨bA, hO1, z0, f0, z1, f1, z2, f2, u0, u1, u2⟩ := jkAOF3C3 b1 bA hO1 z0 f0 z1 f1 z2 f2 u0 u1 u2
       clear b1 FX
       have bD := below_one w3 (.cells #[.bool Q.1, .slice a2 n2 c2, .int .i64 Q.2.2] 27)
       obtain ⟨bA, hO1, hO2, z0, f0, z1, f1, z2, f2, u0, u1, u2⟩ := jkAO2F3C3 bD bA hO1 hO2 z0 f0 z1 f1 z2 f2 u0 u1 u2
       obtain ⟨v0, v1, v2⟩ := fX3 w3 Q a2 n2 c2 _ rfl
       clear bD
       go_upto_region 7 with fail
       generalize w3.alloc (.cells #[.bool Q.1, .slice a2 n2 c2, .int .i64 Q.2.2] 27) = w4 at *
       generalize w3.heap.size = BX at *
       go_wp2_with fail
       refine cM (ZY.out _ bA _ _ _ hO1.1 hn1) ?_
       rintro q w5 ⟨rfl, b1⟩
       obtain ⟨bA, hO1, hO2, z0, f0, z1, f1, z2, f2, u0, u1, u2, v0, v1, v2⟩ := jkAO2F3C6 b1 bA hO1 hO2 z0 f0 z1 f1 z2 f2 u0 u1 u2 v0 v1 v2
       clear b1 ZY
       go_wp2_with fail
       refine cM (ZX.out _ bA _ _ _ hO2.1 hn2) ?_
       rintro q w6 ⟨rfl, b1⟩
       obtain ⟨bA, hO1, hO2, z0, f0, z1, f1, z2, f2, u0, u1, u2, v0, v1, v2⟩ := jkAO2F3C6 b1 bA hO1 hO2 z0 f0 z1 f1 z2 f2 u0 u1 u2 v0 v1 v2
       clear b1 ZX
       go_wp2_with fail
       refine cM (DR.out _ bA _ _ _ hO1.1 hn1 _ _ _ hO2.1 hn2) ?_
       rintro q w7 ⟨rfl, b1⟩
       obtain ⟨bA, hO1, hO2, z0, f0, z1, f1, z2, f2, u0, u1, u2, v0, v1, v2⟩ := jkAO2F3C6 b1 bA hO1 hO2 z0 f0 z1 f1 z2 f2 u0 u1 u2 v0 v1 v2
       clear b1 DR
       go_wp2_with fail
       exact bodyPost_ret (v := .tuple #[dyV false none 0 0 0, .bool false, .int .i64 0]) (by simp [results, Tryz.results16, go_sem, z0, z1, z2]) rfl ⟨_, rfl, dyAt_z3 _ _, by repeat (first | (with_reducible exact bA) | (with_reducible refine Below.setCell ?_ (by simp; try omega) _) | (with_reducible refine Below.alloc ?_ (by have := bA.size; simp; try omega) _))⟩
      | true =>
       rw [if_pos rfl]
       rcases hf2 with rfl | rfl
       ·
        have MC : Hid _ := fun W (b : Below w.heap.size w W) => radians_calls D1 W
        generalize msQ 33 D1 = V at *
        obtain ⟨V1, V2⟩ := V
        simp only at MC ⊢
        go_enter Tryz.func16, Tryz.ntmps16
        go_wp2_with fail
        generalize (w.alloc (.cells #[.bool false, .slice none 0 0, .int .i64 0] 27)) = w0 at *
        refine cM (IC.out _) ?_
        rintro q w9 ⟨rfl, rfl⟩
        clear IC
        go_wp2_with fail
        refine cM (FY.out _ bA) ?_
        have lb := bA.size
        rintro q w1 ⟨_, rfl, ⟨a1, n1, c1, rfl, HN1, hn1, hO1⟩, b1⟩
        replace hO1 := hO1.low lb
        clear lb
        obtain ⟨bA, z0, f0, z1, f1, z2, f2⟩ := jkAF3 b1 bA z0 f0 z1 f1 z2 f2
        clear b1 FY
        have bD := below_one w1 (.cells #[.bool P.1, .slice a1 n1 c1, .int .i64 P.2.2] 27)
        obtain ⟨bA, hO1, z0, f0, z1, f1, z2, f2⟩ := jkAOF3 bD bA hO1 z0 f0 z1 f1 z2 f2
        obtain ⟨u0, u1, u2⟩ := fX3 w1 P a1 n1 c1 _ rfl
        clear bD
        go_upto_region 4 with fail
        generalize w1.alloc (.cells #[.bool P.1, .slice a1 n1 c1, .int .i64 P.2.2] 27) = w2 at *
        generalize w1.heap.size = BY at *
        go_wp2_with fail
        refine cM (FX.out _ bA) ?_
        have lb := bA.size
        rintro q w3 ⟨_, rfl, ⟨a2, n2, c2, rfl, HN2, hn2, hO2⟩, b1⟩
        replace hO2 := hO2.low lb
        clear lb
        obtain ⟨bA, hO1, z0, f0, z1, f1, z2, f2, u0, u1, u2⟩ := jkAOF3C3 b1 bA hO1 z0 f0 z1 f1 z2 f2 u0 u1 u2
        clear b1 FX
        have bD := below_one w3 (.cells #[.bool Q.1, .slice a2 n2 c2, .int .i64 Q.2.2] 27)
        obtain ⟨bA, hO1, hO2, z0, f0, z1, f1, z2, f2, u0, u1, u2⟩ := jkAO2F3C3 bD bA hO1 hO2 z0 f0 z1 f1 z2 f2 u0 u1 u2
        obtain ⟨v0, v1, v2⟩ := fX3 w3 Q a2 n2 c2 _ rfl
        clear bD
        go_upto_region 7 with fail
        generalize w3.alloc (.cells #[.bool Q.1, .slice a2 n2 c2, .int .i64 Q.2.2] 27) = w4 at *
        generalize w3.heap.size = BX at *
        go_wp2_with fail
        refine cM (ZY.out _ bA _ _ _ hO1.1 hn1) ?_
        rintro q w5 ⟨rfl, b1⟩
        obtain ⟨bA, hO1, hO2, z0, f0, z1, f1, z2, f2, u0, u1, u2, v0, v1, v2⟩ := jkAO2F3C6 b1 bA hO1 hO2 z0 f0 z1 f1 z2 f2 u0 u1 u2 v0 v1 v2
        clear b1 ZY
        go_wp2_with fail
        refine cM (ZX.out _ bA _ _ _ hO2.1 hn2) ?_
        rintro q w6 ⟨rfl, b1⟩
        obtain ⟨bA, hO1, hO2, z0, f0, z1, f1, z2, f2, u0, u1, u2, v0, v1, v2⟩ := jkAO2F3C6 b1 bA hO1 hO2 z0 f0 z1 f1 z2 f2 u0 u1 u2 v0 v1 v2
        clear b1 ZX
        go_wp2_with fail
        refine cM (DR.out _ bA _ _ _ hO1.1 hn1 _ _ _ hO2.1 hn2) ?_
        rintro q w7 ⟨rfl, b1⟩
        obtain ⟨bA, hO1, hO2, z0, f0, z1, f1, z2, f2, u0, u1, u2, v0, v1, v2⟩ := jkAO2F3C6 b1 bA hO1 hO2 z0 f0 z1 f1 z2 f2 u0 u1 u2 v0 v1 v2
        clear b1 DR
        go_wp2_with fail
        refine cM (measures_calls _) ?_
        rintro q w8 ⟨R, es, ck, rfl, hM, hL3, hL4, b1⟩
        have hl := look_yes2 33 hM hL3
        obtain ⟨bA, hO1, hO2, z0, f0, z1, f1, z2, f2, u0, u1, u2, v0, v1, v2⟩ := jkAO2F3C6 b1 bA hO1 hO2 z0 f0 z1 f1 z2 f2 u0 u1 u2 v0 v1 v2
        clear b1 hM hL3 hL4
        have lb := bA.size
        go_wp2_with fail
        refine cM (MC.out _ bA) ?_
        rintro q x1 ⟨_, rfl, ⟨a3, n3, c3, rfl, HN3, hn3, hO3⟩, b1⟩
        replace hO3 := hO3.low lb
        obtain ⟨bA, hO1, hO2, z0, f0, z1, f1, z2, f2, u0, u1, u2, v0, v1, v2⟩ := jkAO2F3C6 b1 bA hO1 hO2 z0 f0 z1 f1 z2 f2 u0 u1 u2 v0 v1 v2
        clear b1 MC hl
        have bD := below_one x1 (.cells #[.bool V1.1, .slice a3 n3 c3, .int .i64 V1.2.2] 27)
        replace f0 := kF bD z0 f0
        replace f1 := kF bD z1 f1
        replace f2 := kF bD z2 f2
        replace bA := nT bA bD
        obtain ⟨z0, z1, z2⟩ := jkc bD z0 z1 z2
        replace hO1 := hO1.keep bD
        obtain ⟨u0, u1, u2⟩ := jkc bD u0 u1 u2
        replace hO2 := hO2.keep bD
        obtain ⟨v0, v1, v2⟩ := jkc bD v0 v1 v2
        replace hO3 := hO3.keep bD
        obtain ⟨t0, t1, t2⟩ := fX3 x1 V1 a3 n3 c3 _ rfl
        clear bD
        go_upto_region 15 with fail
        generalize x1.alloc (.cells #[.bool V1.1, .slice a3 n3 c3, .int .i64 V1.2.2] 27) = x2 at *
        generalize x1.heap.size = BT at *
        go_wp2_with fail
        exact bodyPost_ret (v := .tuple #[dyV V1.1 a3 n3 c3 V1.2.2, .bool V2, .int .i64 0]) (by simp [results, Tryz.results16, go_sem, z0, z1, z2]) rfl ⟨_, rfl, ⟨a3, n3, c3, rfl, HN3, hn3, hO3.set_dy w.heap.size false none 0 0 0 _ _ _ z0 z1 z2⟩, by repeat (first | (with_reducible exact bA) | (with_reducible refine Below.setCell ?_ (by simp; try omega) _) | (with_reducible refine Below.alloc ?_ (by have := bA.size; simp; try omega) _))⟩
       ·
        have MC : Hid _ := fun W (b : Below w.heap.size w W) => halfTurns_calls D1 ⟨by omega, by omega⟩ W (HT.out.1.kept b)
        generalize msQ 34 D1 = V at *
        obtain ⟨V1, V2⟩ := V
        simp only at MC ⊢
        go_enter Tryz.func16, Tryz.ntmps16
        go_wp2_with fail
        generalize (w.alloc (.cells #[.bool false, .slice none 0 0, .int .i64 0] 27)) = w0 at *
        refine cM (IC.out _) ?_
        rintro q w9 ⟨rfl, rfl⟩
        clear IC
        go_wp2_with fail
        refine cM (FY.out _ bA) ?_
        have lb := bA.size
        rintro q w1 ⟨_, rfl, ⟨a1, n1, c1, rfl, HN1, hn1, hO1⟩, b1⟩
        replace hO1 := hO1.low lb
        clear lb
        obtain ⟨bA, z0, f0, z1, f1, z2, f2⟩ := jkAF3 b1 bA z0 f0 z1 f1 z2 f2
        clear b1 FY
        have bD := below_one w1 (.cells #[.bool P.1, .slice a1 n1 c1, .int .i64 P.2.2] 27)
        obtain ⟨bA, hO1, z0, f0, z1, f1, z2, f2⟩ := jkAOF3 bD bA hO1 z0 f0 z1 f1 z2 f2
        obtain ⟨u0, u1, u2⟩ := fX3 w1 P a1 n1 c1 _ rfl
        clear bD
        go_upto_region 4 with fail
        generalize w1.alloc (.cells #[.bool P.1, .slice a1 n1 c1, .int .i64 P.2.2] 27) = w2 at *
        generalize w1.heap.size = BY at *
        go_wp2_with fail
        refine cM (FX.out _ bA) ?_
        have lb := bA.size
        rintro q w3 ⟨_, rfl, ⟨a2, n2, c2, rfl, HN2, hn2, hO2⟩, b1⟩
        replace hO2 := hO2.low lb
        clear lb
        obtain ⟨bA, hO1, z0, f0, z1, f1, z2, f2, u0, u1, u2⟩ := jkAOF3C3 b1 bA hO1 z0 f0 z1 f1 z2 f2 u0 u1 u2
        clear b1 FX
        have bD := below_one w3 (.cells #[.bool Q.1, .slice a2 n2 c2, .int .i64 Q.2.2] 27)
        obtain ⟨bA, hO1, hO2, z0, f0, z1, f1, z2, f2, u0, u1, u2⟩ := jkAO2F3C3 bD bA hO1 hO2 z0 f0 z1 f1 z2 f2 u0 u1 u2
        obtain ⟨v0, v1, v2⟩ := fX3 w3 Q a2 n2 c2 _ rfl
        clear bD
        go_upto_region 7 with fail
        generalize w3.alloc (.cells #[.bool Q.1, .slice a2 n2 c2, .int .i64 Q.2.2] 27) = w4 at *
        generalize w3.heap.size = BX at *
        go_wp2_with fail
        refine cM (ZY.out _ bA _ _ _ hO1.1 hn1) ?_
        rintro q w5 ⟨rfl, b1⟩
        obtain ⟨bA, hO1, hO2, z0, f0, z1, f1, z2, f2, u0, u1, u2, v0, v1, v2⟩ := jkAO2F3C6 b1 bA hO1 hO2 z0 f0 z1 f1 z2 f2 u0 u1 u2 v0 v1 v2
        clear b1 ZY
        go_wp2_with fail
        refine cM (ZX.out _ bA _ _ _ hO2.1 hn2) ?_
        rintro q w6 ⟨rfl, b1⟩
        obtain ⟨bA, hO1, hO2, z0, f0, z1, f1, z2, f2, u0, u1, u2, v0, v1, v2⟩ := jkAO2F3C6 b1 bA hO1 hO2 z0 f0 z1 f1 z2 f2 u0 u1 u2 v0 v1 v2
        clear b1 ZX
        go_wp2_with fail
        refine cM (DR.out _ bA _ _ _ hO1.1 hn1 _ _ _ hO2.1 hn2) ?_
        rintro q w7 ⟨rfl, b1⟩
        obtain ⟨bA, hO1, hO2, z0, f0, z1, f1, z2, f2, u0, u1, u2, v0, v1, v2⟩ := jkAO2F3C6 b1 bA hO1 hO2 z0 f0 z1 f1 z2 f2 u0 u1 u2 v0 v1 v2
        clear b1 DR
        go_wp2_with fail
        refine cM (measures_calls _) ?_
        rintro q w8 ⟨R, es, ck, rfl, hM, hL3, hL4, b1⟩
        have hl := look_yes2 34 hM hL4
        obtain ⟨bA, hO1, hO2, z0, f0, z1, f1, z2, f2, u0, u1, u2, v0, v1, v2⟩ := jkAO2F3C6 b1 bA hO1 hO2 z0 f0 z1 f1 z2 f2 u0 u1 u2 v0 v1 v2
        clear b1 hM hL3 hL4
        have lb := bA.size
        go_wp2_with fail
        refine cM (MC.out _ bA) ?_
        rintro q x1 ⟨_, rfl, ⟨a3, n3, c3, rfl, HN3, hn3, hO3⟩, b1⟩
        replace hO3 := hO3.low lb
        obtain ⟨bA, hO1, hO2, z0, f0, z1, f1, z2, f2, u0, u1, u2, v0, v1, v2⟩ := jkAO2F3C6 b1 bA hO1 hO2 z0 f0 z1 f1 z2 f2 u0 u1 u2 v0 v1 v2
        clear b1 MC hl
        have bD := below_one x1 (.cells #[.bool V1.1, .slice a3 n3 c3, .int .i64 V1.2.2] 27)
        replace f0 := kF bD z0 f0
        replace f1 := kF bD z1 f1
        replace f2 := kF bD z2 f2
        replace bA := nT bA bD
        obtain ⟨z0, z1, z2⟩ := jkc bD z0 z1 z2
        replace hO1 := hO1.keep bD
        obtain ⟨u0, u1, u2⟩ := jkc bD u0 u1 u2
        replace hO2 := hO2.keep bD
        obtain ⟨v0, v1, v2⟩ := jkc bD v0 v1 v2
        replace hO3 := hO3.keep bD
        obtain ⟨t0, t1, t2⟩ := fX3 x1 V1 a3 n3 c3 _ rfl
        clear bD
        go_upto_region 15 with fail
        generalize x1.alloc (.cells #[.bool V1.1, .slice a3 n3 c3, .int .i64 V1.2.2] 27) = x2 at *
        generalize x1.heap.size = BT at *
        go_wp2_with fail
        exact bodyPost_ret (v := .tuple #[dyV V1.1 a3 n3 c3 V1.2.2, .bool V2, .int .i64 0]) (by simp [results, Tryz.results16, go_sem, z0, z1, z2]) rfl ⟨_, rfl, ⟨a3, n3, c3, rfl, HN3, hn3, hO3.set_dy w.heap.size false none 0 0 0 _ _ _ z0 z1 z2⟩, by repeat (first | (with_reducible exact bA) | (with_reducible refine Below.setCell ?_ (by simp; try omega) _) | (with_reducible refine Below.alloc ?_ (by have := bA.size; simp; try omega) _))⟩
    | false =>
     rw [hb1] at ZY
     simp only [Bool.false_and, Bool.not_false, if_true]
     cases D2 with
     | false =>
      rw [if_neg (by decide)]
      unfold no3
      go_enter Tryz.func16, Tryz.ntmps16
      go_wp2_with fail
      generalize (w.alloc (.cells #[.bool false, .slice none 0 0, .int .i64 0] 27)) = w0 at *
      refine cM (IC.out _) ?_
      rintro q w9 ⟨rfl, rfl⟩
      clear IC
      go_wp2_with fail
      refine cM (FY.out _ bA) ?_
      have lb := bA.size
      rintro q w1 ⟨_, rfl, ⟨a1, n1, c1, rfl, HN1, hn1, hO1⟩, b1⟩
      replace hO1 := hO1.low lb
      clear lb
      obtain ⟨bA, z0, f0, z1, f1, z2, f2⟩ := jkAF3 b1 bA z0 f0 z1 f1 z2 f2
      clear b1 FY
      have bD := below_one w1 (.cells #[.bool P.1, .slice a1 n1 c1, .int .i64 P.2.2] 27)
      obtain ⟨bA, hO1, z0, f0, z1, f1, z2, f2⟩ := jkAOF3 bD bA hO1 z0 f0 z1 f1 z2 f2
      obtain ⟨u0, u1, u2⟩ := fX3 w1 P a1 n1 c1 _ rfl
      clear bD
      go_upto_region 4 with fail
      generalize w1.alloc (.cells #[.bool P.1, .slice a1 n1 c1, .int .i64 P.2.2] 27) = w2 at *
      generalize w1.heap.size = BY at *
      go_wp2_with fail
      refine cM (FX.out _ bA) ?_
      have lb := bA.size
      rintro q w3 ⟨_, rfl, ⟨a2, n2, c2, rfl, HN2, hn2, hO2⟩, b1⟩
      replace hO2 := hO2.low lb
      clear lb
      obtain ⟨bA, hO1, z0, f0, z1, f1, z2, f2, u0, u1, u2⟩ := jkAOF3C3 b1 bA hO1 z0 f0 z1 f1 z2 f2 u0 u1 u2
      clear b1 FX
      have bD := below_one w3 (.cells #[.bool Q.1, .slice a2 n2 c2, .int .i64 Q.2.2] 27)
      obtain ⟨bA, hO1, hO2, z0, f0, z1, f1, z2, f2, u0, u1, u2⟩ := jkAO2F3C3 bD bA hO1 hO2 z0 f0 z1 f1 z2 f2 u0 u1 u2
      obtain ⟨v0, v1, v2⟩ := fX3 w3 Q a2 n2 c2 _ rfl
      clear bD
      go_upto_region 7 with fail
      generalize w3.alloc (.cells #[.bool Q.1, .slice a2 n2 c2, .int .i64 Q.2.2] 27) = w4 at *
      generalize w3.heap.size = BX at *
      go_wp2_with fail
      refine cM (ZY.out _ bA _ _ _ hO1.1 hn1) ?_
      rintro q w5 ⟨rfl, b1⟩
      obtain ⟨bA, hO1, hO2, z0, f0, z1, f1, z2, f2, u0, u1, u2, v0, v1, v2⟩ := jkAO2F3C6 b1 bA hO1 hO2 z0 f0 z1 f1 z2 f2 u0 u1 u2 v0 v1 v2
      clear b1 ZY
      go_wp2_with fail
      refine cM (DR.out _ bA _ _ _ hO1.1 hn1 _ _ _ hO2.1 hn2) ?_
      rintro q w7 ⟨rfl, b1⟩
      obtain ⟨bA, hO1, hO2, z0, f0, z1, f1, z2, f2, u0, u1, u2, v0, v1, v2⟩ := jkAO2F3C6 b1 bA hO1 hO2 z0 f0 z1 f1 z2 f2 u0 u1 u2 v0 v1 v2
      clear b1 DR
      go_wp2_with fail
      exact bodyPost_ret (v := .tuple #[dyV false none 0 0 0, .bool false, .int .i64 0]) (by simp [results, Tryz.results16, go_sem, z0, z1, z2]) rfl ⟨_, rfl, dyAt_z3 _ _, by repeat (first | (with_reducible exact bA) | (with_reducible refine Below.setCell ?_ (by simp; try omega) _) | (with_reducible refine Below.alloc ?_ (by have := bA.size; simp; try omega) _))⟩
     | true =>
      rw [if_pos rfl]
      rcases hf2 with rfl | rfl
      ·
       have MC : Hid _ := fun W (b : Below w.heap.size w W) => radians_calls D1 W
       generalize msQ 33 D1 = V at *
       obtain ⟨V1, V2⟩ := V
       simp only at MC ⊢
       go_enter Tryz.func16, Tryz.ntmps16
       go_wp2_with fail
       generalize (w.alloc (.cells #[.bool false, .slice none 0 0, .int .i64 0] 27)) = w0 at *
       refine cM (IC.out _) ?_
       rintro q w9 ⟨rfl, rfl⟩
       clear IC
       go_wp2_with fail
       refine cM (FY.out _ bA) ?_
       have lb := bA.size
       rintro q w1 ⟨_, rfl, ⟨a1, n1, c1, rfl, HN1, hn1, hO1⟩, b1⟩
       replace hO1 := hO1.low lb
       clear lb
       obtain ⟨bA, z0, f0, z1, f1, z2, f2⟩ := jkAF3 b1 bA z0 f0 z1 f1 z2 f2
       clear b1 FY
       have bD := below_one w1 (.cells #[.bool P.1, .slice a1 n1 c1, .int .i64 P.2.2] 27)
       obtain ⟨bA, hO1, z0, f0, z1, f1, z2, f2⟩ := jkAOF3 bD bA hO1 z0 f0 z1 f1 z2 f2
       obtain ⟨u0, u1, u2⟩ := fX3 w1 P a1 n1 c1 _ rfl
       clear bD
       go_upto_region 4 with fail
       generalize w1.alloc (.cells #[.bool P.1, .slice a1 n1 c1, .int .i64 P.2.2] 27) = w2 at *
       generalize w1.heap.size = BY at *
       go_wp2_with fail
       refine cM (FX.out _ bA) ?_
       have lb := bA.size
       rintro q w3 ⟨_, rfl, ⟨a2, n2, c2, rfl, HN2, hn2, hO2⟩, b1⟩
       replace hO2 := hO2.low lb
       clear lb
       obtain ⟨bA, hO1, z0, f0, z1, f1, z2, f2, u0, u1, u2⟩ := jkAOF3C3 b1 bA hO1 z0 f0 z1 f1 z2 f2 u0 u1 u2
       clear b1 FX
       have bD := below_one w3 (.cells #[.bool Q.1, .slice a2 n2 c2, .int .i64 Q.2.2] 27)
       obtain ⟨bA, hO1, hO2, z0, f0, z1, f1, z2, f2, u0, u1, u2⟩ := jkAO2F3C3 bD bA hO1 hO2 z0 f0 z1 f1 z2 f2 u0 u1 u2
       obtain ⟨v0, v1, v2⟩ := fX3 w3 Q a2 n2 c2 _ rfl
       clear bD
       go_upto_region 7 with fail
       generalize w3.alloc (.cells #[.bool Q.1, .slice a2 n2 c2, .int .i64 Q.2.2] 27) = w4 at *
       generalize w3.heap.size = BX at *
       go_wp2_with fail
       refine cM (ZY.out _ bA _ _ _ hO1.1 hn1) ?_
       rintro q w5 ⟨rfl, b1⟩
       obtain ⟨bA, hO1, hO2, z0, f0, z1, f1, z2, f2, u0, u1, u2, v0, v1, v2⟩ := jkAO2F3C6 b1 bA hO1 hO2 z0 f0 z1 f1 z2 f2 u0 u1 u2 v0 v1 v2
       clear b1 ZY
       go_wp2_with fail
       refine cM (DR.out _ bA _ _ _ hO1.1 hn1 _ _ _ hO2.1 hn2) ?_
       rintro q w7 ⟨rfl, b1⟩
       obtain ⟨bA, hO1, hO2, z0, f0, z1, f1, z2, f2, u0, u1, u2, v0, v1, v2⟩ := jkAO2F3C6 b1 bA hO1 hO2 z0 f0 z1 f1 z2 f2 u0 u1 u2 v0 v1 v2
       clear b1 DR
       go_wp2_with fail
       refine cM (measures_calls _) ?_
       rintro q w8 ⟨R, es, ck, rfl, hM, hL3, hL4, b1⟩
       have hl := look_yes2 33 hM hL3
       obtain ⟨bA, hO1, hO2, z0, f0, z1, f1, z2, f2, u0, u1, u2, v0, v1, v2⟩ := jkAO2F3C6 b1 bA hO1 hO2 z0 f0 z1 f1 z2 f2 u0 u1 u2 v0 v1 v2
       clear b1 hM hL3 hL4
       have lb := bA.size
       go_wp2_with fail
       refine cM (MC.out _ bA) ?_
       rintro q x1 ⟨_, rfl, ⟨a3, n3, c3, rfl, HN3, hn3, hO3⟩, b1⟩
       replace hO3 := hO3.low lb
       obtain ⟨bA, hO1, hO2, z0, f0, z1, f1, z2, f2, u0, u1, u2, v0, v1, v2⟩ := jkAO2F3C6 b1 bA hO1 hO2 z0 f0 z1 f1 z2 f2 u0 u1 u2 v0 v1 v2
       clear b1 MC hl
       have bD := below_one x1 (.cells #[.bool V1.1, .slice a3 n3 c3, .int .i64 V1.2.2] 27)
       replace f0 := kF bD z0 f0
       replace f1 := kF bD z1 f1
       replace f2 := kF bD z2 f2
       replace bA := nT bA bD
       obtain ⟨z0, z1, z2⟩ := jkc bD z0 z1 z2
       replace hO1 := hO1.keep bD
       obtain ⟨u0, u1, u2⟩ := jkc bD u0 u1 u2
       replace hO2 := hO2.keep bD
       obtain ⟨v0, v1, v2⟩ := jkc bD v0 v1 v2
       replace hO3 := hO3.keep bD
       obtain ⟨t0, t1, t2⟩ := fX3 x1 V1 a3 n3 c3 _ rfl
       clear bD
       go_upto_region 15 with fail
       generalize x1.alloc (.cells #[.bool V1.1, .slice a3 n3 c3, .int .i64 V1.2.2] 27) = x2 at *
       generalize x1.heap.size = BT at *
       go_wp2_with fail
       exact bodyPost_ret (v := .tuple #[dyV V1.1 a3 n3 c3 V1.2.2, .bool V2, .int .i64 0]) (by simp [results, Tryz.results16, go_sem, z0, z1, z2]) rfl ⟨_, rfl, ⟨a3, n3, c3, rfl, HN3, hn3, hO3.set_dy w.heap.size false none 0 0 0 _ _ _ z0 z1 z2⟩, by repeat (first | (with_reducible exact bA) | (with_reducible refine Below.setCell ?_ (by simp; try omega) _) | (with_reducible refine Below.alloc ?_ (by have := bA.size; simp; try omega) _))⟩
      ·
       have MC : Hid _ := fun W (b : Below w.heap.size w W) => halfTurns_calls D1 ⟨by omega, by omega⟩ W (HT.out.1.kept b)
       generalize msQ 34 D1 = V at *
       obtain ⟨V1, V2⟩ := V
       simp only at MC ⊢
       go_enter Tryz.func16, Tryz.ntmps16
       go_wp2_with fail
       generalize (w.alloc (.cells #[.bool false, .slice none 0 0, .int .i64 0] 27)) = w0 at *
       refine cM (IC.out _) ?_
       rintro q w9 ⟨rfl, rfl⟩
       clear IC
       go_wp2_with fail
       refine cM (FY.out _ bA) ?_
       have lb := bA.size
       rintro q w1 ⟨_, rfl, ⟨a1, n1, c1, rfl, HN1, hn1, hO1⟩, b1⟩
       replace hO1 := hO1.low lb
       clear lb
       obtain ⟨bA, z0, f0, z1, f1, z2, f2⟩ := jkAF3 b1 bA z0 f0 z1 f1 z2 f2
       clear b1 FY
       have bD := below_one w1 (.cells #[.bool P.1, .slice a1 n1 c1, .int .i64 P.2.2] 27)
       obtain ⟨bA, hO1, z0, f0, z1, f1, z2, f2⟩ := jkAOF3 bD bA hO1 z0 f0 z1 f1 z2 f2
       obtain ⟨u0, u1, u2⟩ := fX3 w1 P a1 n1 c1 _ rfl
       clear bD
       go_upto_region 4 with fail
       generalize w1.alloc (.cells #[.bool P.1, .slice a1 n1 c1, .int .i64 P.2.2] 27) = w2 at *
       generalize w1.heap.size = BY at *
       go_wp2_with fail
       refine cM (FX.out _ bA) ?_
       have lb := bA.size
       rintro q w3 ⟨_, rfl, ⟨a2, n2, c2, rfl, HN2, hn2, hO2⟩, b1⟩
       replace hO2 := hO2.low lb
       clear lb
       obtain ⟨bA, hO1, z0, f0, z1, f1, z2, f2, u0, u1, u2⟩ := jkAOF3C3 b1 bA hO1 z0 f0 z1 f1 z2 f2 u0 u1 u2
       clear b1 FX
       have bD := below_one w3 (.cells #[.bool Q.1, .slice a2 n2 c2, .int .i64 Q.2.2] 27)
       obtain ⟨bA, hO1, hO2, z0, f0, z1, f1, z2, f2, u0, u1, u2⟩ := jkAO2F3C3 bD bA hO1 hO2 z0 f0 z1 f1 z2 f2 u0 u1 u2
       obtain ⟨v0, v1, v2⟩ := fX3 w3 Q a2 n2 c2 _ rfl
       clear bD
       go_upto_region 7 with fail
       generalize w3.alloc (.cells #[.bool Q.1, .slice a2 n2 c2, .int .i64 Q.2.2] 27) = w4 at *
       generalize w3.heap.size = BX at *
       go_wp2_with fail
       refine cM (ZY.out _ bA _ _ _ hO1.1 hn1) ?_
       rintro q w5 ⟨rfl, b1⟩
       obtain ⟨bA, hO1, hO2, z0, f0, z1, f1, z2, f2, u0, u1, u2, v0, v1, v2⟩ := jkAO2F3C6 b1 bA hO1 hO2 z0 f0 z1 f1 z2 f2 u0 u1 u2 v0 v1 v2
       clear b1 ZY
       go_wp2_with fail
       refine cM (DR.out _ bA _ _ _ hO1.1 hn1 _ _ _ hO2.1 hn2) ?_
       rintro q w7 ⟨rfl, b1⟩
       obtain ⟨bA, hO1, hO2, z0, f0, z1, f1, z2, f2, u0, u1, u2, v0, v1, v2⟩ := jkAO2F3C6 b1 bA hO1 hO2 z0 f0 z1 f1 z2 f2 u0 u1 u2 v0 v1 v2
       clear b1 DR
       go_wp2_with fail
       refine cM (measures_calls _) ?_
       rintro q w8 ⟨R, es, ck, rfl, hM, hL3, hL4, b1⟩
       have hl := look_yes2 34 hM hL4
       obtain ⟨bA, hO1, hO2, z0, f0, z1, f1, z2, f2, u0, u1, u2, v0, v1, v2⟩ := jkAO2F3C6 b1 bA hO1 hO2 z0 f0 z1 f1 z2 f2 u0 u1 u2 v0 v1 v2
       clear b1 hM hL3 hL4
       have lb := bA.size
       go_wp2_with fail
       refine cM (MC.out _ bA) ?_
       rintro q x1 ⟨_, rfl, ⟨a3, n3, c3, rfl, HN3, hn3, hO3⟩, b1⟩
       replace hO3 := hO3.low lb
       obtain ⟨bA, hO1, hO2, z0, f0, z1, f1, z2, f2, u0, u1, u2, v0, v1, v2⟩ := jkAO2F3C6 b1 bA hO1 hO2 z0 f0 z1 f1 z2 f2 u0 u1 u2 v0 v1 v2
       clear b1 MC hl
       have bD := below_one x1 (.cells #[.bool V1.1, .slice a3 n3 c3, .int .i64 V1.2.2] 27)
       replace f0 := kF bD z0 f0
       replace f1 := kF bD z1 f1
       replace f2 := kF bD z2 f2
       replace bA := nT bA bD
       obtain ⟨z0, z1, z2⟩ := jkc bD z0 z1 z2
       replace hO1 := hO1.keep bD
       obtain ⟨u0, u1, u2⟩ := jkc bD u0 u1 u2
       replace hO2 := hO2.keep bD
       obtain ⟨v0, v1, v2⟩ := jkc bD v0 v1 v2
       replace hO3 := hO3.keep bD
       obtain ⟨t0, t1, t2⟩ := fX3 x1 V1 a3 n3 c3 _ rfl
       clear bD
       go_upto_region 15 with fail
       generalize x1.alloc (.cells #[.bool V1.1, .slice a3 n3 c3, .int .i64 V1.2.2] 27) = x2 at *
       generalize x1.heap.size = BT at *
       go_wp2_with fail
       exact bodyPost_ret (v := .tuple #[dyV V1.1 a3 n3 c3 V1.2.2, .bool V2, .int .i64 0]) (by simp [results, Tryz.results16, go_sem, z0, z1, z2]) rfl ⟨_, rfl, ⟨a3, n3, c3, rfl, HN3, hn3, hO3.set_dy w.heap.size false none 0 0 0 _ _ _ z0 z1 z2⟩, by repeat (first | (with_reducible exact bA) | (with_reducible refine Below.setCell ?_ (by simp; try omega) _) | (with_reducible refine Below.alloc ?_ (by have := bA.size; simp; try omega) _))⟩
end Go.Proofs.YtiijfnaaekmpbaaGreatDoor

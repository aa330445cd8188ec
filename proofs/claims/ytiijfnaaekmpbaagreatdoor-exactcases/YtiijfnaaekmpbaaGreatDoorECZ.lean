/- Package exact: Exact and Domain as they are called. Package exact: Domain; the angle of a point. -/
import Derived.Test.YtiijfnaaekmpbaaGreatDoorCR
import Derived.Test.YtiijfnaaekmpbaaGreatDoorECE
import Derived.Test.YtiijfnaaekmpbaaGreatDoorFX

namespace Go.Proofs.YtiijfnaaekmpbaaGreatDoor
open Go.RowKit
set_option maxHeartbeats 4000000
set_option maxRecDepth 100000
theorem jkc {w W : World} (b : Below w.heap.size w W) {p q r : Addr} {u v x : Value} (i : w.cell? p = some u) (j : w.cell? q = some v) (k : w.cell? r = some x) : W.cell? p = some u ∧ W.cell? q = some v ∧ W.cell? r = some x := ⟨kC b i, kC b j, kC b k⟩
theorem look_yes {w : World} {r : Nat} {es : Array MapEntry} {ck : Nat} (f : Int) {i : Nat} {v : Value} (hb : w.heap[r]? = some (.map es ck)) (hf : Instr.findNow (.int .u8) (.int .u8 f) es.toList 0 = some (some (i, v))) (ok : Bool) :
  Sem.run Tryz.prog (Instr.lookup 43 (.map (some r)) (.int .u8 f) ok) w = .ok (if ok then .tuple #[v, .bool true] else v) w := by
 have hc : (Instr.checkKey es.isEmpty 10000 22 (.int .u8 f)).run Tryz.prog w = .ok () w := MapKept.run_checkKey (k := .int .u8 f) und_key (by simp [MapKept.IsKey]) _ 9999
 simp [Instr.lookup, run_underlying und_map, MapKept.run_getObj_map hb, hc, MapKept.run_findKey und_key hf, Result.andThen]
theorem look_no {w : World} {r : Nat} {es : Array MapEntry} {ck : Nat} (f : Int) (hb : w.heap[r]? = some (.map es ck)) (hf : Instr.findNow (.int .u8) (.int .u8 f) es.toList 0 = some none) :
  Sem.run Tryz.prog (Instr.lookup 43 (.map (some r)) (.int .u8 f) true) w = .ok (.tuple #[.agg #[.nilFunc, .nilFunc], .bool false]) w := by
 have hc : (Instr.checkKey es.isEmpty 10000 22 (.int .u8 f)).run Tryz.prog w = .ok () w := MapKept.run_checkKey (k := .int .u8 f) und_key (by simp [MapKept.IsKey]) _ 9999
 simp [Instr.lookup, run_underlying und_map, MapKept.run_getObj_map hb, hc, MapKept.run_findKey und_key hf, Result.andThen]
theorem from_ok (x : Int) : OkE (fromP x) := ⟨fa_can x, fa_right x⟩
def arP (t : E3 → Bool) (x : Int) : E3 × Bool := if (finB x && t (fromP x)) = true then (fromP x, true) else no3
theorem argument_calls (r : Nat) (F G : Nat) (fst caps gs gc : Array Value) (t : E3 → Bool) (x : Int) (w : World) (hU : U x) (hT : TabE w) (hD : IsD r w (.func (.func F) fst caps) t) :
  Calls Tryz.prog 19 #[.agg #[.func (.func F) fst caps, .func (.func G) gs gc], .int .u64 x] w fun q w' => ∃ v', q = .returned (.tuple #[v', .bool (arP t x).2]) ∧ DyAt w.heap.size w' v' (arP t x).1 ∧ Below w.heap.size w w' := by
 obtain ⟨F2, f2, c2, e, hB, hC⟩ := hD
 injection e with e1 e2 e3
 injection e1 with e1
 subst e1 e2 e3
 generalize hg : Value.func (.func G) gs gc = g at *
 have bA : Below w.heap.size w ((w.alloc (.cells #[.func (.func F) fst caps, g] 42)).alloc (.cells #[.bool false, .slice none 0 0, .int .i64 0] 27)) := nT (below_one _ _) (below_one _ _)
 have x0 : ((w.alloc (.cells #[.func (.func F) fst caps, g] 42)).alloc (.cells #[.bool false, .slice none 0 0, .int .i64 0] 27)).cell? ⟨w.heap.size, 0, none⟩ = some (.func (.func F) fst caps) := by go_simp
 have z0 : ((w.alloc (.cells #[.func (.func F) fst caps, g] 42)).alloc (.cells #[.bool false, .slice none 0 0, .int .i64 0] 27)).cell? ⟨w.heap.size + 1, 0, none⟩ = some (.bool false) := by go_simp
 have f0 : ((w.alloc (.cells #[.func (.func F) fst caps, g] 42)).alloc (.cells #[.bool false, .slice none 0 0, .int .i64 0] 27)).frozen? ⟨w.heap.size + 1, 0, none⟩ = false := by go_simp
 have z1 : ((w.alloc (.cells #[.func (.func F) fst caps, g] 42)).alloc (.cells #[.bool false, .slice none 0 0, .int .i64 0] 27)).cell? ⟨w.heap.size + 1, 1, none⟩ = some (.slice none 0 0) := by go_simp
 have f1 : ((w.alloc (.cells #[.func (.func F) fst caps, g] 42)).alloc (.cells #[.bool false, .slice none 0 0, .int .i64 0] 27)).frozen? ⟨w.heap.size + 1, 1, none⟩ = false := by go_simp
 have z2 : ((w.alloc (.cells #[.func (.func F) fst caps, g] 42)).alloc (.cells #[.bool false, .slice none 0 0, .int .i64 0] 27)).cell? ⟨w.heap.size + 1, 2, none⟩ = some (.int .i64 0) := by go_simp
 have f2 : ((w.alloc (.cells #[.func (.func F) fst caps, g] 42)).alloc (.cells #[.bool false, .slice none 0 0, .int .i64 0] 27)).frozen? ⟨w.heap.size + 1, 2, none⟩ = false := by go_simp
 have FC : Hid _ := pfrom_calls x _ hU (hT.1.kept bA)
 have DC : Hid _ := fun (W : World) (b : Below w.heap.size w W) (a : Option Addr) (n c : Nat) (h : IsW W a n c (wO (fromP x).2.1)) (hn : n ≤ 1024) => hC W (Kr.of b) (hT.kept b) (fromP x) a n c h hn (from_ok x)
 have hB' : ∀ (xs : Array Value) (w : World), Sem.run Tryz.prog (callFunc F xs) w = .ok (.enter F xs) w := hB
 unfold arP
 subst hg
 clear hT hU hC hB
 cases hf : finB x with
 | false =>
  rw [Bool.false_and, if_neg (by decide)]
  rw [show lastE x = 5 from by unfold lastE; rw [hf]; rfl] at FC
  unfold no3
  generalize fromP x = P at *
  clear DC hB'
  go_enter Tryz.func19, Tryz.ntmps19
  go_wp2_with fail
  generalize ((w.alloc (.cells #[.func (.func F) fst caps, .func (.func G) gs gc] 42)).alloc (.cells #[.bool false, .slice none 0 0, .int .i64 0] 27)) = w0 at *
  have lb := bA.size
  refine cM FC.out ?_
  rintro q w1 ⟨_, rfl, ⟨a1, n1, c1, rfl, HN1, hn1, hO1⟩, b1⟩
  replace hO1 := hO1.low lb
  obtain ⟨bA, z0, f0, z1, f1, z2, f2, x0⟩ := jkAF3C b1 bA z0 f0 z1 f1 z2 f2 x0
  clear b1 FC
  have bD := below_one w1 (.cells #[.bool P.1, .slice a1 n1 c1, .int .i64 P.2.2] 27)
  replace f0 := kF bD z0 f0
  replace f1 := kF bD z1 f1
  replace f2 := kF bD z2 f2
  replace bA := nT bA bD
  obtain ⟨x0, z0, z1⟩ := jkc bD x0 z0 z1
  replace z2 := kC bD z2
  replace hO1 := hO1.keep bD
  obtain ⟨y0, y1, y2⟩ := fX3 w1 P a1 n1 c1 _ rfl
  clear bD
  go_upto_region 2 with fail
  generalize w1.alloc (.cells #[.bool P.1, .slice a1 n1 c1, .int .i64 P.2.2] 27) = w2 at *
  generalize w1.heap.size = BV at *
  go_wp2_with fail
  exact bodyPost_ret (v := .tuple #[dyV false none 0 0 0, .bool false]) (by simp [results, Tryz.results19, go_sem, z0, z1, z2]) rfl ⟨_, rfl, dyAt_z3 _ _, by repeat (first | (with_reducible exact bA) | (with_reducible refine Below.setCell ?_ (by simp; try omega) _) | (with_reducible refine Below.alloc ?_ (by have := bA.size; simp; try omega) _))⟩
 | true =>
  rw [Bool.true_and]
  rw [show lastE x = 0 from by unfold lastE; rw [hf]; rfl] at FC
  generalize fromP x = P at *
  cases hd : t P with
  | false =>
   rw [if_neg (by decide)]
   rw [hd] at DC
   unfold no3
   go_enter Tryz.func19, Tryz.ntmps19
   go_wp2_with fail
   generalize ((w.alloc (.cells #[.func (.func F) fst caps, .func (.func G) gs gc] 42)).alloc (.cells #[.bool false, .slice none 0 0, .int .i64 0] 27)) = w0 at *
   have lb := bA.size
   refine cM FC.out ?_
   rintro q w1 ⟨_, rfl, ⟨a1, n1, c1, rfl, HN1, hn1, hO1⟩, b1⟩
   replace hO1 := hO1.low lb
   obtain ⟨bA, z0, f0, z1, f1, z2, f2, x0⟩ := jkAF3C b1 bA z0 f0 z1 f1 z2 f2 x0
   clear b1 FC
   have bD := below_one w1 (.cells #[.bool P.1, .slice a1 n1 c1, .int .i64 P.2.2] 27)
   replace f0 := kF bD z0 f0
   replace f1 := kF bD z1 f1
   replace f2 := kF bD z2 f2
   replace bA := nT bA bD
   obtain ⟨x0, z0, z1⟩ := jkc bD x0 z0 z1
   replace z2 := kC bD z2
   replace hO1 := hO1.keep bD
   obtain ⟨y0, y1, y2⟩ := fX3 w1 P a1 n1 c1 _ rfl
   clear bD
   go_upto_region 2 with fail
   generalize w1.alloc (.cells #[.bool P.1, .slice a1 n1 c1, .int .i64 P.2.2] 27) = w2 at *
   generalize w1.heap.size = BV at *
   go_wp2_with fail
   refine cM (DC.out _ bA _ _ _ hO1.1 hn1) ?_
   rintro q w3 ⟨rfl, b1⟩
   replace f0 := kF b1 z0 f0
   replace f1 := kF b1 z1 f1
   replace f2 := kF b1 z2 f2
   replace bA := nT bA b1
   obtain ⟨x0, z0, z1⟩ := jkc b1 x0 z0 z1
   replace z2 := kC b1 z2
   replace hO1 := hO1.keep b1
   obtain ⟨y0, y1, y2⟩ := jkc b1 y0 y1 y2
   clear b1 DC
   go_wp2_with fail
   exact bodyPost_ret (v := .tuple #[dyV false none 0 0 0, .bool false]) (by simp [results, Tryz.results19, go_sem, z0, z1, z2]) rfl ⟨_, rfl, dyAt_z3 _ _, by repeat (first | (with_reducible exact bA) | (with_reducible refine Below.setCell ?_ (by simp; try omega) _) | (with_reducible refine Below.alloc ?_ (by have := bA.size; simp; try omega) _))⟩
  | true =>
   rw [if_pos rfl]
   rw [hd] at DC
   go_enter Tryz.func19, Tryz.ntmps19
   go_wp2_with fail
   generalize ((w.alloc (.cells #[.func (.func F) fst caps, .func (.func G) gs gc] 42)).alloc (.cells #[.bool false, .slice none 0 0, .int .i64 0] 27)) = w0 at *
   have lb := bA.size
   refine cM FC.out ?_
   rintro q w1 ⟨_, rfl, ⟨a1, n1, c1, rfl, HN1, hn1, hO1⟩, b1⟩
   replace hO1 := hO1.low lb
   obtain ⟨bA, z0, f0, z1, f1, z2, f2, x0⟩ := jkAF3C b1 bA z0 f0 z1 f1 z2 f2 x0
   clear b1 FC
   have bD := below_one w1 (.cells #[.bool P.1, .slice a1 n1 c1, .int .i64 P.2.2] 27)
   replace f0 := kF bD z0 f0
   replace f1 := kF bD z1 f1
   replace f2 := kF bD z2 f2
   replace bA := nT bA bD
   obtain ⟨x0, z0, z1⟩ := jkc bD x0 z0 z1
   replace z2 := kC bD z2
   replace hO1 := hO1.keep bD
   obtain ⟨y0, y1, y2⟩ := fX3 w1 P a1 n1 c1 _ rfl
   clear bD
   go_upto_region 2 with fail
   generalize w1.alloc (.cells #[.bool P.1, .slice a1 n1 c1, .int .i64 P.2.2] 27) = w2 at *
   generalize w1.heap.size = BV at *
   go_wp2_with fail
   refine cM (DC.out _ bA _ _ _ hO1.1 hn1) ?_
   rintro q w3 ⟨rfl, b1⟩
   replace f0 := kF b1 z0 f0
   replace f1 := kF b1 z1 f1
   replace f2 := kF b1 z2 f2
   replace bA := nT bA b1
   obtain ⟨x0, z0, z1⟩ := jkc b1 x0 z0 z1
   replace z2 := kC b1 z2
   replace hO1 := hO1.keep b1
   obtain ⟨y0, y1, y2⟩ := jkc b1 y0 y1 y2
   clear b1 DC
   go_wp2_with fail
   exact bodyPost_ret (v := .tuple #[dyV P.1 a1 n1 c1 P.2.2, .bool true]) (by simp [results, Tryz.results19, go_sem, z0, z1, z2]) rfl ⟨_, rfl, ⟨a1, n1, c1, rfl, HN1, hn1, hO1.set_dy (w.heap.size + 1) false none 0 0 0 _ _ _ z0 z1 z2⟩, by repeat (first | (with_reducible exact bA) | (with_reducible refine Below.setCell ?_ (by simp; try omega) _) | (with_reducible refine Below.alloc ?_ (by have := bA.size; simp; try omega) _))⟩
theorem eIs_calls (f : Int) (w : World) : Calls Tryz.prog 10 #[.int .u8 f] w fun q w' => q = .returned (.bool (isF f)) ∧ w' = w := by
 have HE : Hid _ := (rfl : isF f = isF f)
 unfold isF at HE ⊢
 by_cases h1 : 1 ≤ f
 ·by_cases h2 : f ≤ 30
  ·rw [decide_eq_true (show 1 ≤ f ∧ f ≤ 30 from ⟨h1, h2⟩)]
   clear HE
   go_enter Tryz.func10, Tryz.ntmps10
   go_wp2_with fail
   go_ret
   exact ⟨rfl, rfl⟩
  ·rw [decide_eq_false (show ¬ (1 ≤ f ∧ f ≤ 30) from fun q => h2 q.2)]
   have h2' : 30 < f := by omega
   clear HE
   go_enter Tryz.func10, Tryz.ntmps10
   go_wp2_with fail
   go_ret
   exact ⟨rfl, rfl⟩
 ·rw [decide_eq_false (show ¬ (1 ≤ f ∧ f ≤ 30) from fun q => h1 q.1)]
  have h1' : f < 1 := by omega
  clear HE
  go_enter Tryz.func10, Tryz.ntmps10
  go_wp2_with fail
  go_ret
  exact ⟨rfl, rfl⟩
theorem eIs2_calls (f : Int) (w : World) : Calls Tryz.prog 12 #[.int .u8 f] w fun q w' => q = .returned (.bool (is2 f)) ∧ w' = w := by
 have HE : Hid _ := (rfl : is2 f = is2 f)
 unfold is2 at HE ⊢
 by_cases h1 : f = 33
 ·rw [decide_eq_true (show f = 33 ∨ f = 34 from .inl h1)]
  clear HE
  subst h1
  go_enter Tryz.func12, Tryz.ntmps12
  go_wp2_with fail
  go_ret
  exact ⟨rfl, rfl⟩
 ·by_cases h2 : f = 34
  ·rw [decide_eq_true (show f = 33 ∨ f = 34 from .inr h2)]
   clear HE
   subst h2
   go_enter Tryz.func12, Tryz.ntmps12
   go_wp2_with fail
   go_ret
   exact ⟨rfl, rfl⟩
  ·rw [decide_eq_false (show ¬ (f = 33 ∨ f = 34) from fun q => by omega)]
   clear HE
   go_enter Tryz.func12, Tryz.ntmps12
   go_wp2_with fail
   go_ret
   exact ⟨retB (by simp [h1, h2]), rfl⟩
theorem exact_calls (f x : Int) (w : World) (hU : U x) (hT : TabE w) :
  Calls Tryz.prog 6 #[.int .u8 f, .int .u64 x] w fun q w' => ∃ v', q = .returned (.tuple #[v', .bool (exV f x).2, .int .i64 (exE f x)]) ∧ DyAt w.heap.size w' v' (exV f x).1 ∧ Below w.heap.size w w' := by
 have bA := below_one w (.cells #[.bool false, .slice none 0 0, .int .i64 0] 27)
 obtain ⟨z0, f0, z1, f1, z2, f2⟩ := fX16 w _ rfl
 have IC : Hid _ := fun W => eIs_calls f W
 unfold exV
 cases hF : isF f with
 | false =>
  have e : exE f x = 2 := by unfold exE; rw [hF]; rfl
  rw [e, if_neg (by decide)]
  rw [hF] at IC
  unfold no3
  clear e hF hT hU
  go_enter Tryz.func6, Tryz.ntmps6
  go_wp2_with fail
  generalize (w.alloc (.cells #[.bool false, .slice none 0 0, .int .i64 0] 27)) = w0 at *
  refine cM (IC.out _) ?_
  rintro q w9 ⟨rfl, rfl⟩
  go_wp2_with fail
  exact bodyPost_ret (v := .tuple #[dyV false none 0 0 0, .bool false, .int .i64 2]) (by simp [results, Tryz.results6, go_sem, z0, z1, z2]) rfl ⟨_, rfl, dyAt_z3 _ _, by repeat (first | (with_reducible exact bA) | (with_reducible refine Below.setCell ?_ (by simp; try omega) _) | (with_reducible refine Below.alloc ?_ (by have := bA.size; simp; try omega) _))⟩
 | true =>
  have hb : 1 ≤ f ∧ f ≤ 30 := of_decide_eq_true hF
  have e : exE f x = if exD f x = true then 0 else 5 := by unfold exE; rw [hF]; rfl
  have e2 : exD f x = (finB x && fDom f (fromP x)) := by unfold exD; rw [hF]; rfl
  rw [e, e2]
  rw [hF] at IC
  have HT : Hid (TabE w) := hT
  have HU : Hid (U x) := hU
  clear e e2 hF hT hU
  cases ha : (finB x && fDom f (fromP x)) with
  | false =>
   obtain ⟨P, hP⟩ : ∃ P : E3, P = z3 := ⟨_, rfl⟩
   have HA : Hid (arP (fDom f) x = (P, false)) := by unfold arP; rw [ha, hP]; rfl
   clear hP
   rw [if_neg (by decide), if_neg (by decide)]
   unfold no3
   go_enter Tryz.func6, Tryz.ntmps6
   go_wp2_with fail
   generalize (w.alloc (.cells #[.bool false, .slice none 0 0, .int .i64 0] 27)) = w0 at *
   refine cM (IC.out _) ?_
   rintro q w9 ⟨rfl, rfl⟩
   go_wp2_with fail
   refine cM (functions_calls _) ?_
   rintro q w1 ⟨R, rfl, ⟨es, ck, hM, hY, _⟩, b1⟩
   obtain ⟨i, d, c, hL, hD, hC⟩ := hY f hb.1 hb.2
   have hl := look_yes f hM hL false
   simp only [Bool.false_eq_true, if_false] at hl
   obtain ⟨bA, z0, f0, z1, f1, z2, f2⟩ := jkAF3 b1 bA z0 f0 z1 f1 z2 f2
   clear b1 hY hL
   obtain ⟨F, fst, caps, ed, hB, hCd⟩ := hD
   subst ed
   obtain ⟨G, gs, gc, ec, hG, hCc⟩ := hC
   subst ec
   have hD : IsD R w1 (.func (.func F) fst caps) (fDom f) := ⟨F, fst, caps, rfl, hB, hCd⟩
   have bD := below_one w1 (.cells #[.func (.func F) fst caps, .func (.func G) gs gc] 42)
   have AC : Hid _ := argument_calls R F G fst caps gs gc (fDom f) x (w1.alloc (.cells #[.func (.func F) fst caps, .func (.func G) gs gc] 42)) HU.out (HT.out.kept (nT bA bD)) (hD.keep (Kr.of bD))
   have CD : Hid _ := fun (W : World) (b : Below w1.heap.size w1 W) (t : TabE W) (a : Option Addr) (n c : Nat) (h : IsW W a n c (wO (fromP x).2.1)) (hn : n ≤ 1024) => hCc W (Kr.of b) t (fromP x) a n c h hn (from_ok x)
   have bE : Below w1.heap.size w1 (w1.alloc (.cells #[.func (.func F) fst caps, .func (.func G) gs gc] 42)) := bD
   obtain ⟨bA, z0, f0, z1, f1, z2, f2⟩ := jkAF3 bD bA z0 f0 z1 f1 z2 f2
   have o0 : (w1.alloc (.cells #[.func (.func F) fst caps, .func (.func G) gs gc] 42)).cell? ⟨w1.heap.size, 0, none⟩ = some (.func (.func F) fst caps) := by go_simp
   have o1 : (w1.alloc (.cells #[.func (.func F) fst caps, .func (.func G) gs gc] 42)).cell? ⟨w1.heap.size, 1, none⟩ = some (.func (.func G) gs gc) := by go_simp
   have hG' : ∀ (xs : Array Value) (w : World), Sem.run Tryz.prog (callFunc G xs) w = .ok (.enter G xs) w := hG
   clear bD hM hD hB hCd hCc hG
   go_upto_region 4 with fail
   generalize w1.alloc (.cells #[.func (.func F) fst caps, .func (.func G) gs gc] 42) = w2 at *
   generalize w1.heap.size = BF at o0 o1 ⊢
   clear hl
   rw [HA.out] at AC
   go_wp2_with fail
   refine cM AC.out ?_
   rintro q w3 ⟨_, rfl, ⟨a1, n1, c1, rfl, HN1, hn1, hO1⟩, b1⟩
   obtain ⟨bA, z0, f0, z1, f1, z2, f2⟩ := jkAF3 b1 bA z0 f0 z1 f1 z2 f2
   replace bE := nT bE b1
   replace o0 := kC b1 o0
   replace o1 := kC b1 o1
   clear b1 AC
   have bD := below_one w3 (.cells #[.bool P.1, .slice a1 n1 c1, .int .i64 P.2.2] 27)
   obtain ⟨bA, z0, f0, z1, f1, z2, f2⟩ := jkAF3 bD bA z0 f0 z1 f1 z2 f2
   replace bE := nT bE bD
   replace o0 := kC bD o0
   replace o1 := kC bD o1
   replace hO1 := hO1.keep bD
   obtain ⟨y0, y1, y2⟩ := fX3 w3 P a1 n1 c1 _ rfl
   clear bD
   go_upto_region 5 with fail
   generalize w3.alloc (.cells #[.bool P.1, .slice a1 n1 c1, .int .i64 P.2.2] 27) = w4 at *
   generalize w3.heap.size = BV at *
   go_wp2_with fail
   exact bodyPost_ret (v := .tuple #[dyV false none 0 0 0, .bool false, .int .i64 5]) (by simp [results, Tryz.results6, go_sem, z0, z1, z2]) rfl ⟨_, rfl, dyAt_z3 _ _, by repeat (first | (with_reducible exact bA) | (with_reducible refine Below.setCell ?_ (by simp; try omega) _) | (with_reducible refine Below.alloc ?_ (by have := bA.size; simp; try omega) _))⟩
  | true =>
   have HA : Hid (arP (fDom f) x = (fromP x, true)) := by unfold arP; rw [ha]; rfl
   rw [if_pos rfl, if_pos rfl]
   obtain ⟨V, hV⟩ : ∃ V, V = fCas f (fromP x) := ⟨_, rfl⟩
   rw [← hV]
   obtain ⟨V1, V2⟩ := V
   have HV : Hid _ := hV
   clear hV
   go_enter Tryz.func6, Tryz.ntmps6
   go_wp2_with fail
   generalize (w.alloc (.cells #[.bool false, .slice none 0 0, .int .i64 0] 27)) = w0 at *
   refine cM (IC.out _) ?_
   rintro q w9 ⟨rfl, rfl⟩
   go_wp2_with fail
   refine cM (functions_calls _) ?_
   rintro q w1 ⟨R, rfl, ⟨es, ck, hM, hY, _⟩, b1⟩
   obtain ⟨i, d, c, hL, hD, hC⟩ := hY f hb.1 hb.2
   have hl := look_yes f hM hL false
   simp only [Bool.false_eq_true, if_false] at hl
   obtain ⟨bA, z0, f0, z1, f1, z2, f2⟩ := jkAF3 b1 bA z0 f0 z1 f1 z2 f2
   clear b1 hY hL
   obtain ⟨F, fst, caps, ed, hB, hCd⟩ := hD
   subst ed
   obtain ⟨G, gs, gc, ec, hG, hCc⟩ := hC
   subst ec
   have hD : IsD R w1 (.func (.func F) fst caps) (fDom f) := ⟨F, fst, caps, rfl, hB, hCd⟩
   have bD := below_one w1 (.cells #[.func (.func F) fst caps, .func (.func G) gs gc] 42)
   have AC : Hid _ := argument_calls R F G fst caps gs gc (fDom f) x (w1.alloc (.cells #[.func (.func F) fst caps, .func (.func G) gs gc] 42)) HU.out (HT.out.kept (nT bA bD)) (hD.keep (Kr.of bD))
   have CD : Hid _ := fun (W : World) (b : Below w1.heap.size w1 W) (t : TabE W) (a : Option Addr) (n c : Nat) (h : IsW W a n c (wO (fromP x).2.1)) (hn : n ≤ 1024) => hCc W (Kr.of b) t (fromP x) a n c h hn (from_ok x)
   have bE : Below w1.heap.size w1 (w1.alloc (.cells #[.func (.func F) fst caps, .func (.func G) gs gc] 42)) := bD
   obtain ⟨bA, z0, f0, z1, f1, z2, f2⟩ := jkAF3 bD bA z0 f0 z1 f1 z2 f2
   have o0 : (w1.alloc (.cells #[.func (.func F) fst caps, .func (.func G) gs gc] 42)).cell? ⟨w1.heap.size, 0, none⟩ = some (.func (.func F) fst caps) := by go_simp
   have o1 : (w1.alloc (.cells #[.func (.func F) fst caps, .func (.func G) gs gc] 42)).cell? ⟨w1.heap.size, 1, none⟩ = some (.func (.func G) gs gc) := by go_simp
   have hG' : ∀ (xs : Array Value) (w : World), Sem.run Tryz.prog (callFunc G xs) w = .ok (.enter G xs) w := hG
   clear bD hM hD hB hCd hCc hG
   go_upto_region 4 with fail
   generalize w1.alloc (.cells #[.func (.func F) fst caps, .func (.func G) gs gc] 42) = w2 at *
   generalize w1.heap.size = BF at o0 o1 ⊢
   clear hl
   rw [HA.out] at AC
   rw [← HV.out] at CD
   clear HV HA
   generalize fromP x = P at *
   go_wp2_with fail
   refine cM AC.out ?_
   rintro q w3 ⟨_, rfl, ⟨a1, n1, c1, rfl, HN1, hn1, hO1⟩, b1⟩
   obtain ⟨bA, z0, f0, z1, f1, z2, f2⟩ := jkAF3 b1 bA z0 f0 z1 f1 z2 f2
   replace bE := nT bE b1
   replace o0 := kC b1 o0
   replace o1 := kC b1 o1
   clear b1 AC
   have bD := below_one w3 (.cells #[.bool P.1, .slice a1 n1 c1, .int .i64 P.2.2] 27)
   obtain ⟨bA, z0, f0, z1, f1, z2, f2⟩ := jkAF3 bD bA z0 f0 z1 f1 z2 f2
   replace bE := nT bE bD
   replace o0 := kC bD o0
   replace o1 := kC bD o1
   replace hO1 := hO1.keep bD
   obtain ⟨y0, y1, y2⟩ := fX3 w3 P a1 n1 c1 _ rfl
   clear bD
   go_upto_region 5 with fail
   generalize w3.alloc (.cells #[.bool P.1, .slice a1 n1 c1, .int .i64 P.2.2] 27) = w4 at *
   generalize w3.heap.size = BV at *
   have lb := bA.size
   go_wp2_with fail
   refine cM (CD.out _ bE (HT.out.kept bA) _ _ _ hO1.1 hn1) ?_
   rintro q w5 ⟨_, rfl, ⟨a2, n2, c2, rfl, HN2, hn2, hO2⟩, b1⟩
   replace hO2 := hO2.low lb
   obtain ⟨bA, z0, f0, z1, f1, z2, f2⟩ := jkAF3 b1 bA z0 f0 z1 f1 z2 f2
   replace bE := nT bE b1
   replace o0 := kC b1 o0
   replace o1 := kC b1 o1
   replace hO1 := hO1.keep b1
   obtain ⟨y0, y1, y2⟩ := jkc b1 y0 y1 y2
   clear b1 CD
   have bD := below_one w5 (.cells #[.bool V1.1, .slice a2 n2 c2, .int .i64 V1.2.2] 27)
   obtain ⟨bA, z0, f0, z1, f1, z2, f2⟩ := jkAF3 bD bA z0 f0 z1 f1 z2 f2
   replace bE := nT bE bD
   replace o0 := kC bD o0
   replace o1 := kC bD o1
   replace hO1 := hO1.keep bD
   obtain ⟨y0, y1, y2⟩ := jkc bD y0 y1 y2
   replace hO2 := hO2.keep bD
   obtain ⟨v0, v1, v2⟩ := fX3 w5 V1 a2 n2 c2 _ rfl
   clear bD
   go_upto_region 8 with fail
   generalize w5.alloc (.cells #[.bool V1.1, .slice a2 n2 c2, .int .i64 V1.2.2] 27) = w6 at *
   generalize w5.heap.size = BW at *
   go_wp2_with fail
   exact bodyPost_ret (v := .tuple #[dyV V1.1 a2 n2 c2 V1.2.2, .bool V2, .int .i64 0]) (by simp [results, Tryz.results6, go_sem, z0, z1, z2]) rfl ⟨_, rfl, ⟨a2, n2, c2, rfl, HN2, hn2, hO2.set_dy w.heap.size false none 0 0 0 _ _ _ z0 z1 z2⟩, by repeat (first | (with_reducible exact bA) | (with_reducible refine Below.setCell ?_ (by simp; try omega) _) | (with_reducible refine Below.alloc ?_ (by have := bA.size; simp; try omega) _))⟩
set_option maxHeartbeats 4000000
set_option maxRecDepth 100000
theorem domain_calls (f x : Int) (w : World) (hU : U x) (hT : TabE w) :
  Calls Tryz.prog 14 #[.int .u8 f, .int .u64 x] w fun q w' => q = .returned (.bool (exD f x)) ∧ Below w.heap.size w w' := by
 have HT : Hid (TabE w) := hT
 have HU : Hid (U x) := hU
 clear hT hU
 have bA : Below w.heap.size w w := Below.refl _ _
 by_cases hF : 1 ≤ f ∧ f ≤ 30
 ·have e : exD f x = (arP (fDom f) x).2 := by
   unfold exD arP
   rw [show isF f = true from decide_eq_true hF, Bool.true_and]
   cases finB x && fDom f (fromP x) <;> rfl
  rw [e]
  clear e
  obtain ⟨P, hP⟩ : ∃ P, P = arP (fDom f) x := ⟨_, rfl⟩
  rw [← hP]
  have HP : Hid _ := hP
  clear hP
  go_enter Tryz.func14, Tryz.ntmps14
  go_wp2_with fail
  refine cM (functions_calls _) ?_
  rintro q w1 ⟨R, rfl, ⟨es, ck, hM, hY, hN⟩, b1⟩
  replace bA := nT bA b1
  clear b1
  obtain ⟨i, d, c, hL, hD, hC⟩ := hY f hF.1 hF.2
  have hl := look_yes f hM hL true
  simp only [if_true] at hl
  obtain ⟨F, fst, caps, ed, hB, hCd⟩ := hD
  subst ed
  obtain ⟨G, gs, gc, ec, hG, hCc⟩ := hC
  subst ec
  have hD : IsD R w1 (.func (.func F) fst caps) (fDom f) := ⟨F, fst, caps, rfl, hB, hCd⟩
  have bD := below_one w1 (.cells #[.func (.func F) fst caps, .func (.func G) gs gc] 42)
  have AC : Hid _ := argument_calls R F G fst caps gs gc (fDom f) x (w1.alloc (.cells #[.func (.func F) fst caps, .func (.func G) gs gc] 42)) HU.out (HT.out.kept (nT bA bD)) (hD.keep (Kr.of bD))
  have o0 : (w1.alloc (.cells #[.func (.func F) fst caps, .func (.func G) gs gc] 42)).cell? ⟨w1.heap.size, 0, none⟩ = some (.func (.func F) fst caps) := by go_simp
  have o1 : (w1.alloc (.cells #[.func (.func F) fst caps, .func (.func G) gs gc] 42)).cell? ⟨w1.heap.size, 1, none⟩ = some (.func (.func G) gs gc) := by go_simp
  rw [← HP.out] at AC
  replace bA := nT bA bD
  clear hY hN hL hM hB hCd hCc hG hD bD HP
  go_upto_region 4 with fail
  generalize w1.alloc (.cells #[.func (.func F) fst caps, .func (.func G) gs gc] 42) = w2 at *
  generalize w1.heap.size = BF at *
  clear hl
  go_wp2_with fail
  refine cM AC.out ?_
  rintro q w3 ⟨_, rfl, ⟨a1, n1, c1, rfl, HN1, hn1, hO1⟩, b1⟩
  replace bA := nT bA (nT b1 (below_one w3 (.cells #[.bool P.1.1, .slice a1 n1 c1, .int .i64 P.1.2.2] 27)))
  clear o0 o1 b1 AC
  go_wp2_with fail
  go_ret
  exact ⟨rfl, bA⟩
 ·have e : exD f x = false := by
   unfold exD
   rw [show isF f = false from decide_eq_false hF, Bool.false_and, Bool.false_and]
  rw [e]
  clear e
  go_enter Tryz.func14, Tryz.ntmps14
  go_wp2_with fail
  refine cM (functions_calls _) ?_
  rintro q w1 ⟨R, rfl, ⟨es, ck, hM, hY, hN⟩, b1⟩
  replace bA := nT bA b1
  clear b1
  have hl := look_no f hM (hN f hF)
  have bD := below_one w1 (.cells #[.nilFunc, .nilFunc] 42)
  replace bA := nT bA bD
  clear hY hN hM bD
  go_wp2_with fail
  go_ret
  exact ⟨rfl, bA⟩
theorem abs_ok {p : E3} (h : OkE p) : OkE (absD p) := by
 refine ⟨?_, h.2⟩
 rcases h.1 with e | e
 ·rw [e]; exact .inl rfl
 ·exact .inr e
theorem sameAmount_calls (p q : E3) (a : Option Addr) (n c : Nat) (b : Option Addr) (m d : Nat) (w : World) (h : IsW w a n c (wO p.2.1)) (hn : n ≤ 1024) (k : IsW w b m d (wO q.2.1)) (hm : m ≤ 1024) (hp : OkE p) (hq : OkE q) (hT : Tab w) :
  Calls Tryz.prog 67 #[dyV p.1 a n c p.2.2, dyV q.1 b m d q.2.2] w fun r w' => r = .returned (.bool (decide (cmpD (absD p) (absD q) = 0))) ∧ Below w.heap.size w w' := by
 have bA : Below w.heap.size w ((w.alloc (.cells #[.bool false, .slice a n c, .int .i64 p.2.2] 27)).alloc (.cells #[.bool false, .slice b m d, .int .i64 q.2.2] 27)) := nT (below_one _ _) (below_one _ _)
 have CC : Hid _ := cmpE (absD p) (absD q) a n c b m d _ (h.keep bA) hn (k.keep bA) hm (abs_ok hp) (abs_ok hq) (hT.kept bA)
 generalize cmpD (absD p) (absD q) = J at *
 clear h k hp hq hT
 go_enter Tryz.func67, Tryz.ntmps67
 go_wp2_with fail
 refine cM CC.out ?_
 rintro r w1 ⟨rfl, b1⟩
 go_wp2_with fail
 go_ret
 exact ⟨retB (by first | rfl | (simp; rfl) | simp), nT bA b1⟩
theorem direction_calls (p q : E3) (a : Option Addr) (n c : Nat) (b : Option Addr) (m d : Nat) (w : World) (h : IsW w a n c (wO p.2.1)) (hn : n ≤ 1024) (k : IsW w b m d (wO q.2.1)) (hm : m ≤ 1024) (hp : OkE p) (hq : OkE q) (hT : TabE w) :
  Calls Tryz.prog 29 #[dyV p.1 a n c p.2.2, dyV q.1 b m d q.2.2] w fun r w' => r = .returned (.tuple #[.int .i64 (drQ p q).1, .bool (drQ p q).2]) ∧ Below w.heap.size w w' := by
 have bA : Below w.heap.size w ((w.alloc (.cells #[.bool p.1, .slice a n c, .int .i64 p.2.2] 27)).alloc (.cells #[.bool q.1, .slice b m d, .int .i64 q.2.2] 27)) := nT (below_one _ _) (below_one _ _)
 have x0 : ((w.alloc (.cells #[.bool p.1, .slice a n c, .int .i64 p.2.2] 27)).alloc (.cells #[.bool q.1, .slice b m d, .int .i64 q.2.2] 27)).cell? ⟨w.heap.size, 0, none⟩ = some (.bool p.1) := by go_simp
 have x1 : ((w.alloc (.cells #[.bool p.1, .slice a n c, .int .i64 p.2.2] 27)).alloc (.cells #[.bool q.1, .slice b m d, .int .i64 q.2.2] 27)).cell? ⟨w.heap.size, 1, none⟩ = some (.slice a n c) := by go_simp
 have x2 : ((w.alloc (.cells #[.bool p.1, .slice a n c, .int .i64 p.2.2] 27)).alloc (.cells #[.bool q.1, .slice b m d, .int .i64 q.2.2] 27)).cell? ⟨w.heap.size, 2, none⟩ = some (.int .i64 p.2.2) := by go_simp
 have y0 : ((w.alloc (.cells #[.bool p.1, .slice a n c, .int .i64 p.2.2] 27)).alloc (.cells #[.bool q.1, .slice b m d, .int .i64 q.2.2] 27)).cell? ⟨w.heap.size + 1, 0, none⟩ = some (.bool q.1) := by go_simp
 have y1 : ((w.alloc (.cells #[.bool p.1, .slice a n c, .int .i64 p.2.2] 27)).alloc (.cells #[.bool q.1, .slice b m d, .int .i64 q.2.2] 27)).cell? ⟨w.heap.size + 1, 1, none⟩ = some (.slice b m d) := by go_simp
 have y2 : ((w.alloc (.cells #[.bool p.1, .slice a n c, .int .i64 p.2.2] 27)).alloc (.cells #[.bool q.1, .slice b m d, .int .i64 q.2.2] 27)).cell? ⟨w.heap.size + 1, 2, none⟩ = some (.int .i64 q.2.2) := by go_simp
 have s0 : ((w.alloc (.cells #[.bool p.1, .slice a n c, .int .i64 p.2.2] 27)).alloc (.cells #[.bool q.1, .slice b m d, .int .i64 q.2.2] 27)).cell? ⟨0, 0, none⟩ = some (.int .i64 3) := kC bA (hT.2.2.2 0 (by decide))
 have s1 : ((w.alloc (.cells #[.bool p.1, .slice a n c, .int .i64 p.2.2] 27)).alloc (.cells #[.bool q.1, .slice b m d, .int .i64 q.2.2] 27)).cell? ⟨0, 1, none⟩ = some (.int .i64 2) := kC bA (hT.2.2.2 1 (by decide))
 have s2 : ((w.alloc (.cells #[.bool p.1, .slice a n c, .int .i64 p.2.2] 27)).alloc (.cells #[.bool q.1, .slice b m d, .int .i64 q.2.2] 27)).cell? ⟨0, 2, none⟩ = some (.int .i64 1) := kC bA (hT.2.2.2 2 (by decide))
 have AC : Hid _ := eAgainst_calls q b m d 0 _ (k.keep bA) hm hq ⟨by decide, by decide⟩ (hT.1.kept bA)
 have ZC : Hid _ := fun W (b : Below w.heap.size w W) => zeroE p a n c W (h.keep b) hn hp (hT.1.kept b)
 have SC : Hid _ := fun W (b1 : Below w.heap.size w W) => sameAmount_calls p q a n c b m d W (h.keep b1) hn (k.keep b1) hm hp hq (hT.1.kept b1)
 have hJ := cmp_bd q (intD 0)
 unfold drQ
 have eJ : agI q 0 = cmpD q (intD 0) := rfl
 rw [eJ] at AC ⊢
 clear eJ
 generalize cmpD q (intD 0) = J at *
 generalize decide (cmpD (absD p) (absD q) = 0) = B at *
 clear h k hp hq hT
 by_cases hz : p.2.1 = 0
 ·rw [decide_eq_true hz] at ZC
  rw [if_pos hz]
  clear hz SC
  rcases hJ with rfl | rfl | rfl
  ·
   go_enter Tryz.func29, Tryz.ntmps29
   go_wp2_with fail
   generalize ((w.alloc (.cells #[.bool p.1, .slice a n c, .int .i64 p.2.2] 27)).alloc (.cells #[.bool q.1, .slice b m d, .int .i64 q.2.2] 27)) = w0 at *
   refine cM AC.out ?_
   rintro r w1 ⟨rfl, b1⟩
   obtain ⟨bA, x0, x1, x2, y0, y1, y2, s0, s1, s2⟩ := jkAC9 b1 bA x0 x1 x2 y0 y1 y2 s0 s1 s2
   clear b1 AC
   go_wp2_with fail
   refine cM (ZC.out _ bA) ?_
   rintro r w2 ⟨rfl, b1⟩
   obtain ⟨bA, x0, x1, x2, y0, y1, y2, s0, s1, s2⟩ := jkAC9 b1 bA x0 x1 x2 y0 y1 y2 s0 s1 s2
   clear b1 ZC
   go_wp2_with fail
   go_ret2
   exact ⟨rfl, bA⟩
  ·
   go_enter Tryz.func29, Tryz.ntmps29
   go_wp2_with fail
   generalize ((w.alloc (.cells #[.bool p.1, .slice a n c, .int .i64 p.2.2] 27)).alloc (.cells #[.bool q.1, .slice b m d, .int .i64 q.2.2] 27)) = w0 at *
   refine cM AC.out ?_
   rintro r w1 ⟨rfl, b1⟩
   obtain ⟨bA, x0, x1, x2, y0, y1, y2, s0, s1, s2⟩ := jkAC9 b1 bA x0 x1 x2 y0 y1 y2 s0 s1 s2
   clear b1 AC
   go_wp2_with fail
   refine cM (ZC.out _ bA) ?_
   rintro r w2 ⟨rfl, b1⟩
   obtain ⟨bA, x0, x1, x2, y0, y1, y2, s0, s1, s2⟩ := jkAC9 b1 bA x0 x1 x2 y0 y1 y2 s0 s1 s2
   clear b1 ZC
   go_wp2_with fail
   go_ret2
   exact ⟨rfl, bA⟩
  ·
   go_enter Tryz.func29, Tryz.ntmps29
   go_wp2_with fail
   generalize ((w.alloc (.cells #[.bool p.1, .slice a n c, .int .i64 p.2.2] 27)).alloc (.cells #[.bool q.1, .slice b m d, .int .i64 q.2.2] 27)) = w0 at *
   refine cM AC.out ?_
   rintro r w1 ⟨rfl, b1⟩
   obtain ⟨bA, x0, x1, x2, y0, y1, y2, s0, s1, s2⟩ := jkAC9 b1 bA x0 x1 x2 y0 y1 y2 s0 s1 s2
   clear b1 AC
   go_wp2_with fail
   refine cM (ZC.out _ bA) ?_
   rintro r w2 ⟨rfl, b1⟩
   obtain ⟨bA, x0, x1, x2, y0, y1, y2, s0, s1, s2⟩ := jkAC9 b1 bA x0 x1 x2 y0 y1 y2 s0 s1 s2
   clear b1 ZC
   go_wp2_with fail
   go_ret2
   exact ⟨rfl, bA⟩
 ·rw [decide_eq_false hz] at ZC
  rw [if_neg hz]
  clear hz
  generalize p.1 = ps at *
  cases ps
  ·rcases hJ with rfl | rfl | rfl
   ·
    go_enter Tryz.func29, Tryz.ntmps29
    go_wp2_with fail
    generalize ((w.alloc (.cells #[.bool false, .slice a n c, .int .i64 p.2.2] 27)).alloc (.cells #[.bool q.1, .slice b m d, .int .i64 q.2.2] 27)) = w0 at *
    refine cM AC.out ?_
    rintro r w1 ⟨rfl, b1⟩
    obtain ⟨bA, x0, x1, x2, y0, y1, y2, s0, s1, s2⟩ := jkAC9 b1 bA x0 x1 x2 y0 y1 y2 s0 s1 s2
    clear b1 AC
    go_wp2_with fail
    refine cM (ZC.out _ bA) ?_
    rintro r w2 ⟨rfl, b1⟩
    obtain ⟨bA, x0, x1, x2, y0, y1, y2, s0, s1, s2⟩ := jkAC9 b1 bA x0 x1 x2 y0 y1 y2 s0 s1 s2
    clear b1 ZC
    go_wp2_with fail
    refine cM (SC.out _ bA) ?_
    rintro r w3 ⟨rfl, b1⟩
    obtain ⟨bA, x0, x1, x2, y0, y1, y2, s0, s1, s2⟩ := jkAC9 b1 bA x0 x1 x2 y0 y1 y2 s0 s1 s2
    clear b1 SC
    go_wp2_with fail
    go_ret2
    exact ⟨rfl, bA⟩
   ·
    go_enter Tryz.func29, Tryz.ntmps29
    go_wp2_with fail
    generalize ((w.alloc (.cells #[.bool false, .slice a n c, .int .i64 p.2.2] 27)).alloc (.cells #[.bool q.1, .slice b m d, .int .i64 q.2.2] 27)) = w0 at *
    refine cM AC.out ?_
    rintro r w1 ⟨rfl, b1⟩
    obtain ⟨bA, x0, x1, x2, y0, y1, y2, s0, s1, s2⟩ := jkAC9 b1 bA x0 x1 x2 y0 y1 y2 s0 s1 s2
    clear b1 AC
    go_wp2_with fail
    refine cM (ZC.out _ bA) ?_
    rintro r w2 ⟨rfl, b1⟩
    obtain ⟨bA, x0, x1, x2, y0, y1, y2, s0, s1, s2⟩ := jkAC9 b1 bA x0 x1 x2 y0 y1 y2 s0 s1 s2
    clear b1 ZC
    go_wp2_with fail
    go_ret2
    exact ⟨rfl, bA⟩
   ·
    go_enter Tryz.func29, Tryz.ntmps29
    go_wp2_with fail
    generalize ((w.alloc (.cells #[.bool false, .slice a n c, .int .i64 p.2.2] 27)).alloc (.cells #[.bool q.1, .slice b m d, .int .i64 q.2.2] 27)) = w0 at *
    refine cM AC.out ?_
    rintro r w1 ⟨rfl, b1⟩
    obtain ⟨bA, x0, x1, x2, y0, y1, y2, s0, s1, s2⟩ := jkAC9 b1 bA x0 x1 x2 y0 y1 y2 s0 s1 s2
    clear b1 AC
    go_wp2_with fail
    refine cM (ZC.out _ bA) ?_
    rintro r w2 ⟨rfl, b1⟩
    obtain ⟨bA, x0, x1, x2, y0, y1, y2, s0, s1, s2⟩ := jkAC9 b1 bA x0 x1 x2 y0 y1 y2 s0 s1 s2
    clear b1 ZC
    go_wp2_with fail
    refine cM (SC.out _ bA) ?_
    rintro r w3 ⟨rfl, b1⟩
    obtain ⟨bA, x0, x1, x2, y0, y1, y2, s0, s1, s2⟩ := jkAC9 b1 bA x0 x1 x2 y0 y1 y2 s0 s1 s2
    clear b1 SC
    go_wp2_with fail
    go_ret2
    exact ⟨rfl, bA⟩
  ·rcases hJ with rfl | rfl | rfl
   ·
    go_enter Tryz.func29, Tryz.ntmps29
    go_wp2_with fail
    generalize ((w.alloc (.cells #[.bool true, .slice a n c, .int .i64 p.2.2] 27)).alloc (.cells #[.bool q.1, .slice b m d, .int .i64 q.2.2] 27)) = w0 at *
    refine cM AC.out ?_
    rintro r w1 ⟨rfl, b1⟩
    obtain ⟨bA, x0, x1, x2, y0, y1, y2, s0, s1, s2⟩ := jkAC9 b1 bA x0 x1 x2 y0 y1 y2 s0 s1 s2
    clear b1 AC
    go_wp2_with fail
    refine cM (ZC.out _ bA) ?_
    rintro r w2 ⟨rfl, b1⟩
    obtain ⟨bA, x0, x1, x2, y0, y1, y2, s0, s1, s2⟩ := jkAC9 b1 bA x0 x1 x2 y0 y1 y2 s0 s1 s2
    clear b1 ZC
    go_wp2_with fail
    refine cM (SC.out _ bA) ?_
    rintro r w3 ⟨rfl, b1⟩
    obtain ⟨bA, x0, x1, x2, y0, y1, y2, s0, s1, s2⟩ := jkAC9 b1 bA x0 x1 x2 y0 y1 y2 s0 s1 s2
    clear b1 SC
    go_wp2_with fail
    go_ret2
    exact ⟨rfl, bA⟩
   ·
    go_enter Tryz.func29, Tryz.ntmps29
    go_wp2_with fail
    generalize ((w.alloc (.cells #[.bool true, .slice a n c, .int .i64 p.2.2] 27)).alloc (.cells #[.bool q.1, .slice b m d, .int .i64 q.2.2] 27)) = w0 at *
    refine cM AC.out ?_
    rintro r w1 ⟨rfl, b1⟩
    obtain ⟨bA, x0, x1, x2, y0, y1, y2, s0, s1, s2⟩ := jkAC9 b1 bA x0 x1 x2 y0 y1 y2 s0 s1 s2
    clear b1 AC
    go_wp2_with fail
    refine cM (ZC.out _ bA) ?_
    rintro r w2 ⟨rfl, b1⟩
    obtain ⟨bA, x0, x1, x2, y0, y1, y2, s0, s1, s2⟩ := jkAC9 b1 bA x0 x1 x2 y0 y1 y2 s0 s1 s2
    clear b1 ZC
    go_wp2_with fail
    go_ret2
    exact ⟨rfl, bA⟩
   ·
    go_enter Tryz.func29, Tryz.ntmps29
    go_wp2_with fail
    generalize ((w.alloc (.cells #[.bool true, .slice a n c, .int .i64 p.2.2] 27)).alloc (.cells #[.bool q.1, .slice b m d, .int .i64 q.2.2] 27)) = w0 at *
    refine cM AC.out ?_
    rintro r w1 ⟨rfl, b1⟩
    obtain ⟨bA, x0, x1, x2, y0, y1, y2, s0, s1, s2⟩ := jkAC9 b1 bA x0 x1 x2 y0 y1 y2 s0 s1 s2
    clear b1 AC
    go_wp2_with fail
    refine cM (ZC.out _ bA) ?_
    rintro r w2 ⟨rfl, b1⟩
    obtain ⟨bA, x0, x1, x2, y0, y1, y2, s0, s1, s2⟩ := jkAC9 b1 bA x0 x1 x2 y0 y1 y2 s0 s1 s2
    clear b1 ZC
    go_wp2_with fail
    refine cM (SC.out _ bA) ?_
    rintro r w3 ⟨rfl, b1⟩
    obtain ⟨bA, x0, x1, x2, y0, y1, y2, s0, s1, s2⟩ := jkAC9 b1 bA x0 x1 x2 y0 y1 y2 s0 s1 s2
    clear b1 SC
    go_wp2_with fail
    go_ret2
    exact ⟨rfl, bA⟩
theorem radians_calls (q : Int) (w : World) :
  Calls Tryz.prog 68 #[.int .i64 q] w fun r w' => ∃ v', r = .returned (.tuple #[v', .bool (msQ 33 q).2]) ∧ DyAt w.heap.size w' v' (msQ 33 q).1 ∧ Below w.heap.size w w' := by
 have bA := below_one w (.cells #[.bool false, .slice none 0 0, .int .i64 0] 27)
 rw [show msQ 33 q = (z3, decide (q = 0)) from rfl]
 go_enter Tryz.func68, Tryz.ntmps68
 go_wp2_with fail
 exact bodyPost_ret (v := .tuple #[dyV false none 0 0 0, .bool (decide (q = 0))]) (by simp [results, Tryz.results68, go_sem]; rfl) rfl ⟨_, rfl, dyAt_z3 _ _, by repeat (first | (with_reducible exact bA) | (with_reducible refine Below.setCell ?_ (by simp; try omega) _) | (with_reducible refine Below.alloc ?_ (by have := bA.size; simp; try omega) _))⟩
theorem halfTurns_calls (q : Int) (hq : -8 ≤ q ∧ q ≤ 8) (w : World) (hT : Tab w) :
  Calls Tryz.prog 69 #[.int .i64 q] w fun r w' => ∃ v', r = .returned (.tuple #[v', .bool (msQ 34 q).2]) ∧ DyAt w.heap.size w' v' (msQ 34 q).1 ∧ Below w.heap.size w w' := by
 have bA := below_one w (.cells #[.bool false, .slice none 0 0, .int .i64 0] 27)
 obtain ⟨z0, f0, z1, f1, z2, f2⟩ := fX16 w _ rfl
 have QC : Hid _ := inQuarters_calls q hq _ (hT.kept bA)
 rw [show msQ 34 q = (inQ q, true) from rfl]
 generalize inQ q = R at *
 clear hT hq
 go_enter Tryz.func69, Tryz.ntmps69
 go_wp2_with fail
 generalize w.alloc (.cells #[.bool false, .slice none 0 0, .int .i64 0] 27) = w0 at *
 have lb := bA.size
 refine cM QC.out ?_
 rintro r w1 ⟨_, rfl, ⟨a3, n3, c3, rfl, HN3, hn3, hO3⟩, b1⟩
 obtain ⟨bA, z0, f0, z1, f1, z2, f2⟩ := jkAF3 b1 bA z0 f0 z1 f1 z2 f2
 clear b1
 go_wp2_with fail
 exact bodyPost_ret (v := .tuple #[dyV R.1 a3 n3 c3 R.2.2, .bool true]) (by simp [results, Tryz.results69, go_sem, z0, z1, z2]) rfl ⟨_, rfl, ⟨a3, n3, c3, rfl, HN3, hn3, (hO3.low lb).set_dy w.heap.size false none 0 0 0 _ _ _ z0 z1 z2⟩, by repeat (first | (with_reducible exact bA) | (with_reducible refine Below.setCell ?_ (by simp; try omega) _) | (with_reducible refine Below.alloc ?_ (by have := bA.size; simp; try omega) _))⟩
end Go.Proofs.YtiijfnaaekmpbaaGreatDoor

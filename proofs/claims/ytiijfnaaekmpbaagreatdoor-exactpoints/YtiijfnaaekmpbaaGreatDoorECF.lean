/- Package exact: Exact and Domain as they are called. -/
import Derived.Test.YtiijfnaaekmpbaaGreatDoorECE
import Derived.Test.YtiijfnaaekmpbaaGreatDoorFX
namespace Go.Proofs.YtiijfnaaekmpbaaGreatDoor
open Go.RowKit

theorem look_yes {w : World} {r : Nat} {es : Array MapEntry} {ck : Nat} (f : Int) {i : Nat} {v : Value} (hb : w.heap[r]? = some (.map es ck)) (hf : Instr.findNow (.int .u8) (.int .u8 f) es.toList 0 = some (some (i, v))) (ok : Bool) :
    Sem.run Tryz.prog (Instr.lookup 43 (.map (some r)) (.int .u8 f) ok) w = .ok (if ok then .tuple #[v, .bool true] else v) w := by
  have hc : (Instr.checkKey es.isEmpty 10000 22 (.int .u8 f)).run Tryz.prog w = .ok () w := MapKept.run_checkKey (k := .int .u8 f) und_key (by simp [MapKept.IsKey]) _ 9999
  simp [Instr.lookup, run_underlying und_map, MapKept.run_getObj_map hb, hc, MapKept.run_findKey und_key hf, Result.andThen]
theorem look_no {w : World} {r : Nat} {es : Array MapEntry} {ck : Nat} (f : Int) (hb : w.heap[r]? = some (.map es ck)) (hf : Instr.findNow (.int .u8) (.int .u8 f) es.toList 0 = some none) :
    Sem.run Tryz.prog (Instr.lookup 43 (.map (some r)) (.int .u8 f) true) w = .ok (.tuple #[.agg #[.nilFunc, .nilFunc], .bool false]) w := by
  have hc : (Instr.checkKey es.isEmpty 10000 22 (.int .u8 f)).run Tryz.prog w = .ok () w := MapKept.run_checkKey (k := .int .u8 f) und_key (by simp [MapKept.IsKey]) _ 9999
  simp [Instr.lookup, run_underlying und_map, MapKept.run_getObj_map hb, hc, MapKept.run_findKey und_key hf, Result.andThen]
theorem from_ok (x : Int) : OkE (fromP x) := ⟨fa_can x, fa_right x⟩
/-- what argument tells: the number, where it is finite and lies in the domain -/
def arP (t : E3 → Bool) (x : Int) : E3 × Bool := if (finB x && t (fromP x)) = true then (fromP x, true) else no3

set_option maxRecDepth 100000 in
set_option maxHeartbeats 4000000 in
theorem argument_calls (r : Nat) (F G : Nat) (fst caps gs gc : Array Value) (t : E3 → Bool) (x : Int) (w : World) (hU : U x) (hT : TabE w) (hD : IsD r w (.func (.func F) fst caps) t) :
    Calls Tryz.prog 19 #[.agg #[.func (.func F) fst caps, .func (.func G) gs gc], .int .u64 x] w fun q w' => ∃ v', q = .returned (.tuple #[v', .bool (arP t x).2]) ∧ DyAt w.heap.size w' v' (arP t x).1 ∧ Below w.heap.size w w' := by
  obtain ⟨F2, f2, c2, e, hB, hC⟩ := hD
  injection e with e1 e2 e3
  injection e1 with e1
  subst e1 e2 e3
  generalize hg : Value.func (.func G) gs gc = g at *
  have bA : Below w.heap.size w ((w.alloc (.cells #[.func (.func F) fst caps, g] 42)).alloc (.cells #[.bool false, .slice none 0 0, .int .i64 0] 27)) := nT (below_one _ _) (below_one _ _)
  have x0 : ((w.alloc (.cells #[.func (.func F) fst caps, g] 42)).alloc (.cells #[.bool false, .slice none 0 0, .int .i64 0] 27)).cell? ⟨w.heap.size, 0, none⟩ = some (.func (.func F) fst caps) := by go_simp
  have z0 : ((w.alloc (.cells #[.func (.func F) fst caps, g] 42)).alloc (.cells #[.bool false, .slice none 0 0, .int .i64 0] 27)).cell? ⟨w.heap.size + 1, 0, none⟩ = some (.bool false) := by go_simp
  have f0 : ((w.alloc (.cells #[.func (.func F) fst caps, g] 42)).alloc (.cells #[.bool false, .slice none 0 0, .int .i64 0] 27)).frozen? ⟨w.heap.size + 1, 0, none⟩ = false := by go_simp
  have z1 : ((w.alloc (.cells #[.func (.func F) fst caps, g] 42)).alloc (.cells #[.bool false, .slice none 0 0, .int .i64 0] 27)).cell? ⟨w.heap.size + 1, 1, none⟩ = some (.slice none 0 0) := by go_simp
  have f1 : ((w.alloc (.cells #[.func (.func F) fst caps, g] 42)).alloc (.cells #[.bool false, .slice none 0 0, .int .i64 0] 27)).frozen? ⟨w.heap.size + 1, 1, none⟩ = false := by go_simp
  have z2 : ((w.alloc (.cells #[.func (.func F) fst caps, g] 42)).alloc (.cells #[.bool false, .slice none 0 0, .int .i64 0] 27)).cell? ⟨w.heap.size + 1, 2, none⟩ = some (.int .i64 0) := by go_simp
  have f2 : ((w.alloc (.cells #[.func (.func F) fst caps, g] 42)).alloc (.cells #[.bool false, .slice none 0 0, .int .i64 0] 27)).frozen? ⟨w.heap.size + 1, 2, none⟩ = false := by go_simp
  have FC : Hid _ := pfrom_calls x _ hU (hT.1.kept bA)
  have DC : Hid _ := fun (W : World) (b : Below w.heap.size w W) (a : Option Addr) (n c : Nat) (h : IsW W a n c (wordsOf (fromP x).2.1)) (hn : n ≤ 1024) => hC W (Kr.of b) (hT.kept b) (fromP x) a n c h hn (from_ok x)
  have hB' : ∀ (xs : Array Value) (w : World), Sem.run Tryz.prog (callFunc F xs) w = .ok (.enter F xs) w := hB
  unfold arP
  subst hg
  clear hT hU hC hB
  cases hf : finB x with
  | false =>
    rw [Bool.false_and, if_neg (by decide)]
    rw [show lastE x = 5 from by unfold lastE; rw [hf]; rfl] at FC
    unfold no3
    generalize fromP x = P at *
    clear DC hB'
    go_enter Tryz.func19, Tryz.ntmps19
    go_wp2_with fail
    generalize ((w.alloc (.cells #[.func (.func F) fst caps, .func (.func G) gs gc] 42)).alloc (.cells #[.bool false, .slice none 0 0, .int .i64 0] 27)) = w0 at *
    have lb := bA.size
    refine Calls.mono FC.out ?_
    rintro q w1 ⟨_, rfl, ⟨a1, n1, c1, rfl, HN1, hn1, hO1⟩, b1⟩
    replace hO1 := hO1.low lb
    replace f0 := kF b1 z0 f0
    replace f1 := kF b1 z1 f1
    replace f2 := kF b1 z2 f2
    replace bA := nT bA b1
    replace x0 := kC b1 x0
    replace z0 := kC b1 z0
    replace z1 := kC b1 z1
    replace z2 := kC b1 z2
    clear b1 FC
    have bD := below_one w1 (.cells #[.bool P.1, .slice a1 n1 c1, .int .i64 P.2.2] 27)
    replace f0 := kF bD z0 f0
    replace f1 := kF bD z1 f1
    replace f2 := kF bD z2 f2
    replace bA := nT bA bD
    replace x0 := kC bD x0
    replace z0 := kC bD z0
    replace z1 := kC bD z1
    replace z2 := kC bD z2
    replace hO1 := hO1.keep bD
    obtain ⟨y0, y1, y2⟩ := fX3 w1 P a1 n1 c1
    clear bD
    go_upto_region 2 with fail
    generalize w1.alloc (.cells #[.bool P.1, .slice a1 n1 c1, .int .i64 P.2.2] 27) = w2 at *
    generalize w1.heap.size = BV at *
    go_wp2_with fail
    exact bodyPost_ret (v := .tuple #[dyV false none 0 0 0, .bool false]) (by simp [results, Tryz.results19, go_sem, z0, z1, z2]) rfl ⟨_, rfl, dyAt_z3 _ _, by repeat (first | (with_reducible exact bA) | (with_reducible refine Below.setCell ?_ (by simp; try omega) _) | (with_reducible refine Below.alloc ?_ (by have := bA.size; simp; try omega) _))⟩
  | true =>
    rw [Bool.true_and]
    rw [show lastE x = 0 from by unfold lastE; rw [hf]; rfl] at FC
    generalize fromP x = P at *
    cases hd : t P with
    | false =>
      rw [if_neg (by decide)]
      rw [hd] at DC
      unfold no3
      go_enter Tryz.func19, Tryz.ntmps19
      go_wp2_with fail
      generalize ((w.alloc (.cells #[.func (.func F) fst caps, .func (.func G) gs gc] 42)).alloc (.cells #[.bool false, .slice none 0 0, .int .i64 0] 27)) = w0 at *
      have lb := bA.size
      refine Calls.mono FC.out ?_
      rintro q w1 ⟨_, rfl, ⟨a1, n1, c1, rfl, HN1, hn1, hO1⟩, b1⟩
      replace hO1 := hO1.low lb
      replace f0 := kF b1 z0 f0
      replace f1 := kF b1 z1 f1
      replace f2 := kF b1 z2 f2
      replace bA := nT bA b1
      replace x0 := kC b1 x0
      replace z0 := kC b1 z0
      replace z1 := kC b1 z1
      replace z2 := kC b1 z2
      clear b1 FC
      have bD := below_one w1 (.cells #[.bool P.1, .slice a1 n1 c1, .int .i64 P.2.2] 27)
      replace f0 := kF bD z0 f0
      replace f1 := kF bD z1 f1
      replace f2 := kF bD z2 f2
      replace bA := nT bA bD
      replace x0 := kC bD x0
      replace z0 := kC bD z0
      replace z1 := kC bD z1
      replace z2 := kC bD z2
      replace hO1 := hO1.keep bD
      obtain ⟨y0, y1, y2⟩ := fX3 w1 P a1 n1 c1
      clear bD
      go_upto_region 2 with fail
      generalize w1.alloc (.cells #[.bool P.1, .slice a1 n1 c1, .int .i64 P.2.2] 27) = w2 at *
      generalize w1.heap.size = BV at *
      go_wp2_with fail
      refine Calls.mono (DC.out _ bA _ _ _ hO1.1 hn1) ?_
      rintro q w3 ⟨rfl, b1⟩
      replace f0 := kF b1 z0 f0
      replace f1 := kF b1 z1 f1
      replace f2 := kF b1 z2 f2
      replace bA := nT bA b1
      replace x0 := kC b1 x0
      replace z0 := kC b1 z0
      replace z1 := kC b1 z1
      replace z2 := kC b1 z2
      replace hO1 := hO1.keep b1
      replace y0 := kC b1 y0
      replace y1 := kC b1 y1
      replace y2 := kC b1 y2
      clear b1 DC
      go_wp2_with fail
      exact bodyPost_ret (v := .tuple #[dyV false none 0 0 0, .bool false]) (by simp [results, Tryz.results19, go_sem, z0, z1, z2]) rfl ⟨_, rfl, dyAt_z3 _ _, by repeat (first | (with_reducible exact bA) | (with_reducible refine Below.setCell ?_ (by simp; try omega) _) | (with_reducible refine Below.alloc ?_ (by have := bA.size; simp; try omega) _))⟩
    | true =>
      rw [if_pos rfl]
      rw [hd] at DC
      go_enter Tryz.func19, Tryz.ntmps19
      go_wp2_with fail
      generalize ((w.alloc (.cells #[.func (.func F) fst caps, .func (.func G) gs gc] 42)).alloc (.cells #[.bool false, .slice none 0 0, .int .i64 0] 27)) = w0 at *
      have lb := bA.size
      refine Calls.mono FC.out ?_
      rintro q w1 ⟨_, rfl, ⟨a1, n1, c1, rfl, HN1, hn1, hO1⟩, b1⟩
      replace hO1 := hO1.low lb
      replace f0 := kF b1 z0 f0
      replace f1 := kF b1 z1 f1
      replace f2 := kF b1 z2 f2
      replace bA := nT bA b1
      replace x0 := kC b1 x0
      replace z0 := kC b1 z0
      replace z1 := kC b1 z1
      replace z2 := kC b1 z2
      clear b1 FC
      have bD := below_one w1 (.cells #[.bool P.1, .slice a1 n1 c1, .int .i64 P.2.2] 27)
      replace f0 := kF bD z0 f0
      replace f1 := kF bD z1 f1
      replace f2 := kF bD z2 f2
      replace bA := nT bA bD
      replace x0 := kC bD x0
      replace z0 := kC bD z0
      replace z1 := kC bD z1
      replace z2 := kC bD z2
      replace hO1 := hO1.keep bD
      obtain ⟨y0, y1, y2⟩ := fX3 w1 P a1 n1 c1
      clear bD
      go_upto_region 2 with fail
      generalize w1.alloc (.cells #[.bool P.1, .slice a1 n1 c1, .int .i64 P.2.2] 27) = w2 at *
      generalize w1.heap.size = BV at *
      go_wp2_with fail
      refine Calls.mono (DC.out _ bA _ _ _ hO1.1 hn1) ?_
      rintro q w3 ⟨rfl, b1⟩
      replace f0 := kF b1 z0 f0
      replace f1 := kF b1 z1 f1
      replace f2 := kF b1 z2 f2
      replace bA := nT bA b1
      replace x0 := kC b1 x0
      replace z0 := kC b1 z0
      replace z1 := kC b1 z1
      replace z2 := kC b1 z2
      replace hO1 := hO1.keep b1
      replace y0 := kC b1 y0
      replace y1 := kC b1 y1
      replace y2 := kC b1 y2
      clear b1 DC
      go_wp2_with fail
      exact bodyPost_ret (v := .tuple #[dyV P.1 a1 n1 c1 P.2.2, .bool true]) (by simp [results, Tryz.results19, go_sem, z0, z1, z2]) rfl ⟨_, rfl, ⟨a1, n1, c1, rfl, HN1, hn1, hO1.set_dy (w.heap.size + 1) false none 0 0 0 _ _ _ z0 z1 z2⟩, by repeat (first | (with_reducible exact bA) | (with_reducible refine Below.setCell ?_ (by simp; try omega) _) | (with_reducible refine Below.alloc ?_ (by have := bA.size; simp; try omega) _))⟩

set_option maxRecDepth 100000 in
set_option maxHeartbeats 4000000 in
theorem eIs_calls (f : Int) (w : World) : Calls Tryz.prog 10 #[.int .u8 f] w fun q w' => q = .returned (.bool (isF f)) ∧ w' = w := by
  have HE : Hid _ := (rfl : isF f = isF f)
  unfold isF at HE ⊢
  by_cases h1 : 1 ≤ f
  · by_cases h2 : f ≤ 30
    · rw [decide_eq_true (show 1 ≤ f ∧ f ≤ 30 from ⟨h1, h2⟩)]
      clear HE
      go_enter Tryz.func10, Tryz.ntmps10
      go_wp2_with fail
      go_ret
      exact ⟨rfl, rfl⟩
    · rw [decide_eq_false (show ¬ (1 ≤ f ∧ f ≤ 30) from fun q => h2 q.2)]
      have h2' : 30 < f := by omega
      clear HE
      go_enter Tryz.func10, Tryz.ntmps10
      go_wp2_with fail
      go_ret
      exact ⟨rfl, rfl⟩
  · rw [decide_eq_false (show ¬ (1 ≤ f ∧ f ≤ 30) from fun q => h1 q.1)]
    have h1' : f < 1 := by omega
    clear HE
    go_enter Tryz.func10, Tryz.ntmps10
    go_wp2_with fail
    go_ret
    exact ⟨rfl, rfl⟩

set_option maxRecDepth 100000 in
set_option maxHeartbeats 4000000 in
theorem eIs2_calls (f : Int) (w : World) : Calls Tryz.prog 12 #[.int .u8 f] w fun q w' => q = .returned (.bool (is2 f)) ∧ w' = w := by
  have HE : Hid _ := (rfl : is2 f = is2 f)
  unfold is2 at HE ⊢
  by_cases h1 : f = 33
  · rw [decide_eq_true (show f = 33 ∨ f = 34 from .inl h1)]
    clear HE
    subst h1
    go_enter Tryz.func12, Tryz.ntmps12
    go_wp2_with fail
    go_ret
    exact ⟨rfl, rfl⟩
  · by_cases h2 : f = 34
    · rw [decide_eq_true (show f = 33 ∨ f = 34 from .inr h2)]
      clear HE
      subst h2
      go_enter Tryz.func12, Tryz.ntmps12
      go_wp2_with fail
      go_ret
      exact ⟨rfl, rfl⟩
    · rw [decide_eq_false (show ¬ (f = 33 ∨ f = 34) from fun q => by omega)]
      clear HE
      go_enter Tryz.func12, Tryz.ntmps12
      go_wp2_with fail
      go_ret
      exact ⟨retB (by simp [h1, h2]), rfl⟩

set_option maxRecDepth 100000 in
set_option maxHeartbeats 4000000 in
theorem exact_calls (f x : Int) (w : World) (hU : U x) (hT : TabE w) :
    Calls Tryz.prog 6 #[.int .u8 f, .int .u64 x] w fun q w' => ∃ v', q = .returned (.tuple #[v', .bool (exV f x).2, .int .i64 (exE f x)]) ∧ DyAt w.heap.size w' v' (exV f x).1 ∧ Below w.heap.size w w' := by
  have bA := below_one w (.cells #[.bool false, .slice none 0 0, .int .i64 0] 27)
  obtain ⟨z0, f0, z1, f1, z2, f2⟩ := fX15 w
  have IC : Hid _ := fun W => eIs_calls f W
  unfold exV
  cases hF : isF f with
  | false =>
    have e : exE f x = 2 := by unfold exE; rw [hF]; rfl
    rw [e, if_neg (by decide)]
    rw [hF] at IC
    unfold no3
    clear e hF hT hU
    go_enter Tryz.func6, Tryz.ntmps6
    go_wp2_with fail
    generalize (w.alloc (.cells #[.bool false, .slice none 0 0, .int .i64 0] 27)) = w0 at *
    refine Calls.mono (IC.out _) ?_
    rintro q w9 ⟨rfl, rfl⟩
    go_wp2_with fail
    exact bodyPost_ret (v := .tuple #[dyV false none 0 0 0, .bool false, .int .i64 2]) (by simp [results, Tryz.results6, go_sem, z0, z1, z2]) rfl ⟨_, rfl, dyAt_z3 _ _, by repeat (first | (with_reducible exact bA) | (with_reducible refine Below.setCell ?_ (by simp; try omega) _) | (with_reducible refine Below.alloc ?_ (by have := bA.size; simp; try omega) _))⟩
  | true =>
    have hb : 1 ≤ f ∧ f ≤ 30 := of_decide_eq_true hF
    have e : exE f x = if exD f x = true then 0 else 5 := by unfold exE; rw [hF]; rfl
    have e2 : exD f x = (finB x && fDom f (fromP x)) := by unfold exD; rw [hF]; rfl
    rw [e, e2]
    rw [hF] at IC
    have HT : Hid (TabE w) := hT
    have HU : Hid (U x) := hU
    clear e e2 hF hT hU
    cases ha : (finB x && fDom f (fromP x)) with
    | false =>
      obtain ⟨P, hP⟩ : ∃ P : E3, P = z3 := ⟨_, rfl⟩
      have HA : Hid (arP (fDom f) x = (P, false)) := by unfold arP; rw [ha, hP]; rfl
      clear hP
      rw [if_neg (by decide), if_neg (by decide)]
      unfold no3
      go_enter Tryz.func6, Tryz.ntmps6
      go_wp2_with fail
      generalize (w.alloc (.cells #[.bool false, .slice none 0 0, .int .i64 0] 27)) = w0 at *
      refine Calls.mono (IC.out _) ?_
      rintro q w9 ⟨rfl, rfl⟩
      go_wp2_with fail
      refine Calls.mono (functions_calls _) ?_
      rintro q w1 ⟨R, rfl, ⟨es, ck, hM, hY, _⟩, b1⟩
      obtain ⟨i, d, c, hL, hD, hC⟩ := hY f hb.1 hb.2
      have hl := look_yes f hM hL false
      simp only [Bool.false_eq_true, if_false] at hl
      replace f0 := kF b1 z0 f0
      replace f1 := kF b1 z1 f1
      replace f2 := kF b1 z2 f2
      replace bA := nT bA b1
      replace z0 := kC b1 z0
      replace z1 := kC b1 z1
      replace z2 := kC b1 z2
      clear b1 hY hL
      obtain ⟨F, fst, caps, ed, hB, hCd⟩ := hD
      subst ed
      obtain ⟨G, gs, gc, ec, hG, hCc⟩ := hC
      subst ec
      have hD : IsD R w1 (.func (.func F) fst caps) (fDom f) := ⟨F, fst, caps, rfl, hB, hCd⟩
      have bD := below_one w1 (.cells #[.func (.func F) fst caps, .func (.func G) gs gc] 42)
      have AC : Hid _ := argument_calls R F G fst caps gs gc (fDom f) x (w1.alloc (.cells #[.func (.func F) fst caps, .func (.func G) gs gc] 42)) HU.out (HT.out.kept (nT bA bD)) (hD.keep (Kr.of bD))
      have CD : Hid _ := fun (W : World) (b : Below w1.heap.size w1 W) (t : TabE W) (a : Option Addr) (n c : Nat) (h : IsW W a n c (wordsOf (fromP x).2.1)) (hn : n ≤ 1024) => hCc W (Kr.of b) t (fromP x) a n c h hn (from_ok x)
      have bE : Below w1.heap.size w1 (w1.alloc (.cells #[.func (.func F) fst caps, .func (.func G) gs gc] 42)) := bD
      replace f0 := kF bD z0 f0
      replace f1 := kF bD z1 f1
      replace f2 := kF bD z2 f2
      replace bA := nT bA bD
      replace z0 := kC bD z0
      replace z1 := kC bD z1
      replace z2 := kC bD z2
      have o0 : (w1.alloc (.cells #[.func (.func F) fst caps, .func (.func G) gs gc] 42)).cell? ⟨w1.heap.size, 0, none⟩ = some (.func (.func F) fst caps) := by go_simp
      have o1 : (w1.alloc (.cells #[.func (.func F) fst caps, .func (.func G) gs gc] 42)).cell? ⟨w1.heap.size, 1, none⟩ = some (.func (.func G) gs gc) := by go_simp
      have hG' : ∀ (xs : Array Value) (w : World), Sem.run Tryz.prog (callFunc G xs) w = .ok (.enter G xs) w := hG
      clear bD hM hD hB hCd hCc hG
      go_upto_region 4 with fail
      generalize w1.alloc (.cells #[.func (.func F) fst caps, .func (.func G) gs gc] 42) = w2 at *
      generalize w1.heap.size = BF at o0 o1 ⊢
      clear hl
      rw [HA.out] at AC
      go_wp2_with fail
      refine Calls.mono AC.out ?_
      rintro q w3 ⟨_, rfl, ⟨a1, n1, c1, rfl, HN1, hn1, hO1⟩, b1⟩
      replace f0 := kF b1 z0 f0
      replace f1 := kF b1 z1 f1
      replace f2 := kF b1 z2 f2
      replace bA := nT bA b1
      replace z0 := kC b1 z0
      replace z1 := kC b1 z1
      replace z2 := kC b1 z2
      replace bE := nT bE b1
      replace o0 := kC b1 o0
      replace o1 := kC b1 o1
      clear b1 AC
      have bD := below_one w3 (.cells #[.bool P.1, .slice a1 n1 c1, .int .i64 P.2.2] 27)
      replace f0 := kF bD z0 f0
      replace f1 := kF bD z1 f1
      replace f2 := kF bD z2 f2
      replace bA := nT bA bD
      replace z0 := kC bD z0
      replace z1 := kC bD z1
      replace z2 := kC bD z2
      replace bE := nT bE bD
      replace o0 := kC bD o0
      replace o1 := kC bD o1
      replace hO1 := hO1.keep bD
      obtain ⟨y0, y1, y2⟩ := fX3 w3 P a1 n1 c1
      clear bD
      go_upto_region 5 with fail
      generalize w3.alloc (.cells #[.bool P.1, .slice a1 n1 c1, .int .i64 P.2.2] 27) = w4 at *
      generalize w3.heap.size = BV at *
      go_wp2_with fail
      exact bodyPost_ret (v := .tuple #[dyV false none 0 0 0, .bool false, .int .i64 5]) (by simp [results, Tryz.results6, go_sem, z0, z1, z2]) rfl ⟨_, rfl, dyAt_z3 _ _, by repeat (first | (with_reducible exact bA) | (with_reducible refine Below.setCell ?_ (by simp; try omega) _) | (with_reducible refine Below.alloc ?_ (by have := bA.size; simp; try omega) _))⟩
    | true =>
      have HA : Hid (arP (fDom f) x = (fromP x, true)) := by unfold arP; rw [ha]; rfl
      rw [if_pos rfl, if_pos rfl]
      obtain ⟨V, hV⟩ : ∃ V, V = fCas f (fromP x) := ⟨_, rfl⟩
      rw [← hV]
      obtain ⟨V1, V2⟩ := V
      have HV : Hid _ := hV
      clear hV
      go_enter Tryz.func6, Tryz.ntmps6
      go_wp2_with fail
      generalize (w.alloc (.cells #[.bool false, .slice none 0 0, .int .i64 0] 27)) = w0 at *
      refine Calls.mono (IC.out _) ?_
      rintro q w9 ⟨rfl, rfl⟩
      go_wp2_with fail
      refine Calls.mono (functions_calls _) ?_
      rintro q w1 ⟨R, rfl, ⟨es, ck, hM, hY, _⟩, b1⟩
      obtain ⟨i, d, c, hL, hD, hC⟩ := hY f hb.1 hb.2
      have hl := look_yes f hM hL false
      simp only [Bool.false_eq_true, if_false] at hl
      replace f0 := kF b1 z0 f0
      replace f1 := kF b1 z1 f1
      replace f2 := kF b1 z2 f2
      replace bA := nT bA b1
      replace z0 := kC b1 z0
      replace z1 := kC b1 z1
      replace z2 := kC b1 z2
      clear b1 hY hL
      obtain ⟨F, fst, caps, ed, hB, hCd⟩ := hD
      subst ed
      obtain ⟨G, gs, gc, ec, hG, hCc⟩ := hC
      subst ec
      have hD : IsD R w1 (.func (.func F) fst caps) (fDom f) := ⟨F, fst, caps, rfl, hB, hCd⟩
      have bD := below_one w1 (.cells #[.func (.func F) fst caps, .func (.func G) gs gc] 42)
      have AC : Hid _ := argument_calls R F G fst caps gs gc (fDom f) x (w1.alloc (.cells #[.func (.func F) fst caps, .func (.func G) gs gc] 42)) HU.out (HT.out.kept (nT bA bD)) (hD.keep (Kr.of bD))
      have CD : Hid _ := fun (W : World) (b : Below w1.heap.size w1 W) (t : TabE W) (a : Option Addr) (n c : Nat) (h : IsW W a n c (wordsOf (fromP x).2.1)) (hn : n ≤ 1024) => hCc W (Kr.of b) t (fromP x) a n c h hn (from_ok x)
      have bE : Below w1.heap.size w1 (w1.alloc (.cells #[.func (.func F) fst caps, .func (.func G) gs gc] 42)) := bD
      replace f0 := kF bD z0 f0
      replace f1 := kF bD z1 f1
      replace f2 := kF bD z2 f2
      replace bA := nT bA bD
      replace z0 := kC bD z0
      replace z1 := kC bD z1
      replace z2 := kC bD z2
      have o0 : (w1.alloc (.cells #[.func (.func F) fst caps, .func (.func G) gs gc] 42)).cell? ⟨w1.heap.size, 0, none⟩ = some (.func (.func F) fst caps) := by go_simp
      have o1 : (w1.alloc (.cells #[.func (.func F) fst caps, .func (.func G) gs gc] 42)).cell? ⟨w1.heap.size, 1, none⟩ = some (.func (.func G) gs gc) := by go_simp
      have hG' : ∀ (xs : Array Value) (w : World), Sem.run Tryz.prog (callFunc G xs) w = .ok (.enter G xs) w := hG
      clear bD hM hD hB hCd hCc hG
      go_upto_region 4 with fail
      generalize w1.alloc (.cells #[.func (.func F) fst caps, .func (.func G) gs gc] 42) = w2 at *
      generalize w1.heap.size = BF at o0 o1 ⊢
      clear hl
      rw [HA.out] at AC
      rw [← HV.out] at CD
      clear HV HA
      generalize fromP x = P at *
      go_wp2_with fail
      refine Calls.mono AC.out ?_
      rintro q w3 ⟨_, rfl, ⟨a1, n1, c1, rfl, HN1, hn1, hO1⟩, b1⟩
      replace f0 := kF b1 z0 f0
      replace f1 := kF b1 z1 f1
      replace f2 := kF b1 z2 f2
      replace bA := nT bA b1
      replace z0 := kC b1 z0
      replace z1 := kC b1 z1
      replace z2 := kC b1 z2
      replace bE := nT bE b1
      replace o0 := kC b1 o0
      replace o1 := kC b1 o1
      clear b1 AC
      have bD := below_one w3 (.cells #[.bool P.1, .slice a1 n1 c1, .int .i64 P.2.2] 27)
      replace f0 := kF bD z0 f0
      replace f1 := kF bD z1 f1
      replace f2 := kF bD z2 f2
      replace bA := nT bA bD
      replace z0 := kC bD z0
      replace z1 := kC bD z1
      replace z2 := kC bD z2
      replace bE := nT bE bD
      replace o0 := kC bD o0
      replace o1 := kC bD o1
      replace hO1 := hO1.keep bD
      obtain ⟨y0, y1, y2⟩ := fX3 w3 P a1 n1 c1
      clear bD
      go_upto_region 5 with fail
      generalize w3.alloc (.cells #[.bool P.1, .slice a1 n1 c1, .int .i64 P.2.2] 27) = w4 at *
      generalize w3.heap.size = BV at *
      have lb := bA.size
      go_wp2_with fail
      refine Calls.mono (CD.out _ bE (HT.out.kept bA) _ _ _ hO1.1 hn1) ?_
      rintro q w5 ⟨_, rfl, ⟨a2, n2, c2, rfl, HN2, hn2, hO2⟩, b1⟩
      replace hO2 := hO2.low lb
      replace f0 := kF b1 z0 f0
      replace f1 := kF b1 z1 f1
      replace f2 := kF b1 z2 f2
      replace bA := nT bA b1
      replace z0 := kC b1 z0
      replace z1 := kC b1 z1
      replace z2 := kC b1 z2
      replace bE := nT bE b1
      replace o0 := kC b1 o0
      replace o1 := kC b1 o1
      replace hO1 := hO1.keep b1
      replace y0 := kC b1 y0
      replace y1 := kC b1 y1
      replace y2 := kC b1 y2
      clear b1 CD
      have bD := below_one w5 (.cells #[.bool V1.1, .slice a2 n2 c2, .int .i64 V1.2.2] 27)
      replace f0 := kF bD z0 f0
      replace f1 := kF bD z1 f1
      replace f2 := kF bD z2 f2
      replace bA := nT bA bD
      replace z0 := kC bD z0
      replace z1 := kC bD z1
      replace z2 := kC bD z2
      replace bE := nT bE bD
      replace o0 := kC bD o0
      replace o1 := kC bD o1
      replace hO1 := hO1.keep bD
      replace y0 := kC bD y0
      replace y1 := kC bD y1
      replace y2 := kC bD y2
      replace hO2 := hO2.keep bD
      obtain ⟨v0, v1, v2⟩ := fX3 w5 V1 a2 n2 c2
      clear bD
      go_upto_region 8 with fail
      generalize w5.alloc (.cells #[.bool V1.1, .slice a2 n2 c2, .int .i64 V1.2.2] 27) = w6 at *
      generalize w5.heap.size = BW at *
      go_wp2_with fail
      exact bodyPost_ret (v := .tuple #[dyV V1.1 a2 n2 c2 V1.2.2, .bool V2, .int .i64 0]) (by simp [results, Tryz.results6, go_sem, z0, z1, z2]) rfl ⟨_, rfl, ⟨a2, n2, c2, rfl, HN2, hn2, hO2.set_dy w.heap.size false none 0 0 0 _ _ _ z0 z1 z2⟩, by repeat (first | (with_reducible exact bA) | (with_reducible refine Below.setCell ?_ (by simp; try omega) _) | (with_reducible refine Below.alloc ?_ (by have := bA.size; simp; try omega) _))⟩

end Go.Proofs.YtiijfnaaekmpbaaGreatDoor

/- Package exact: cases as they are made. -/
import Derived.Test.YtiijfnaaekmpbaaGreatDoorECC
namespace Go.Proofs.YtiijfnaaekmpbaaGreatDoor
open Go.RowKit
set_option maxHeartbeats 4000000
set_option maxRecDepth 100000
theorem one_great (k : Nat) : greatB (1 ^ k) = false := by rw [Nat.one_pow]; decide +kernel
theorem five_great (k : Nat) (h : k ≤ 23) : greatB (5 ^ k) = false := great_mono (Nat.pow_le_pow_right (by decide) h) (by decide +kernel)
theorem g_1 : greatB 1 = false := by decide +kernel
theorem g_5 : greatB 5 = false := by decide +kernel
theorem power_is1 (r : Nat) (w : World) (l m : Int) (hl : -16384 ≤ l) (hm : m ≤ 16384) (hlm : l ≤ m) : IsC r w (.func (.func 35) #[.agg #[.int .u64 1, .int .i64 l, .int .i64 m]] #[]) (cPow 1 l m) := ⟨_, _, _, rfl, Tryz.call35, fun W _ t p a n c h hn hp => ePower_calls p a n c 1 l m W h hn hp t hl hm hlm (by decide) g_1 (fun _ _ => one_great _)⟩
theorem power_is5 (r : Nat) (w : World) (m : Int) (h0 : 0 ≤ m) (hm : m ≤ 23) : IsC r w (.func (.func 35) #[.agg #[.int .u64 5, .int .i64 0, .int .i64 m]] #[]) (cPow 5 0 m) := ⟨_, _, _, rfl, Tryz.call35, fun W _ t p a n c h hn hp => ePower_calls p a n c 5 0 m W h hn hp t (by decide) (by omega) h0 (by decide) g_5 (fun k hk => five_great _ (by omega))⟩
theorem expo_is1 (r : Nat) (w : World) (l m : Int) (hl : -16384 ≤ l) (hm : m ≤ 16384) : IsC r w (.func (.func 38) #[.agg #[.int .u64 1, .int .i64 l, .int .i64 m]] #[]) (cExp 1 l m) := ⟨_, _, _, rfl, Tryz.call38, fun W _ t p a n c h hn hp => eExponent_calls p a n c 1 l m W h hn hp t hl hm (by decide) (by decide) g_1 (fun _ _ => one_great _)⟩
theorem expo_is5 (r : Nat) (w : World) (m : Int) (hm : m ≤ 23) : IsC r w (.func (.func 38) #[.agg #[.int .u64 5, .int .i64 0, .int .i64 m]] #[]) (cExp 5 0 m) := ⟨_, _, _, rfl, Tryz.call38, fun W _ t p a n c h hn hp => eExponent_calls p a n c 5 0 m W h hn hp t (by decide) (by omega) (by decide) (by decide) g_5 (fun k hk => five_great _ (by omega))⟩
theorem few_ok {v : E3 × Bool} (h : fewB v) (he : -30000 ≤ v.1.2.2 ∧ v.1.2.2 ≤ 30000) : OkE v.1 := by
 refine ⟨h.2, ?_⟩
 unfold rightB
 rw [(great_not _).2 (Nat.le_trans h.1 (by decide)), show inB v.1.2.2 = true from decide_eq_true ⟨by omega, by omega⟩]
 rfl
theorem pow_ok1 (l m : Int) (hl : -16384 ≤ l) (hm : m ≤ 16384) (p : E3) : OkE (cPow 1 l m p).1 := by
 refine few_ok (pow_few1 l m p) ?_
 by_cases h : (cPow 1 l m p).2 = true
 ·obtain ⟨e, _, h1, h2⟩ := pow_in h
  rw [e]; show -30000 ≤ whI p ∧ whI p ≤ 30000; omega
 ·rw [pow_not h]; decide
theorem pow_ok5 (m : Int) (hm : m ≤ 23) (p : E3) : OkE (cPow 5 0 m p).1 := by
 refine few_ok (pow_few5 m hm p) ?_
 by_cases h : (cPow 5 0 m p).2 = true
 ·obtain ⟨e, _, h1, h2⟩ := pow_in h
  rw [e]; show -30000 ≤ whI p ∧ whI p ≤ 30000; omega
 ·rw [pow_not h]; decide
theorem less_made (F : Nat) (fst caps : Array Value) (w : World) :
  Calls Tryz.prog 36 #[.func (.func F) fst caps] w fun q w' => ∃ (F' : Nat) (fst' caps' : Array Value), q = .returned (.func (.func F') fst' caps') ∧ (∀ (r : Nat) (t : C3), r ≠ w.heap.size → IsC r w (.func (.func F) fst caps) t → (∀ p, OkE p → OkE (t p).1) → IsC r w' (.func (.func F') fst' caps') (cLess t)) ∧ Below w.heap.size w w' := by
 have hmf : ∀ (fn : Fn) (first cap : Array Value) (w : World), (Instr.makeFunc fn first cap).run Tryz.prog w = .ok (.func fn first cap) w := fun _ _ _ _ => rfl
 go_enter Tryz.func36, Tryz.ntmps36
 go_wp2_with fail
 go_ret
 have c0 : (w.alloc (.cells #[.func (.func F) fst caps] 40)).cell? ⟨w.heap.size, 0, none⟩ = some (.func (.func F) fst caps) := by go_simp
 refine ⟨_, _, _, rfl, fun r t hr hi hok => ⟨_, _, _, rfl, Tryz.call75, fun W kr tt p a n c h hn hp => ?_⟩, below_one _ _⟩
 have hk : Kr r w W := (Kr.of (below_one _ _)).trans kr
 obtain ⟨G, gs, gc, e, hB, hC⟩ := hi.keep hk
 injection e with e1 e2 e3
 injection e1 with e1
 subst e1 e2 e3
 exact eLess_calls p a n c w.heap.size F fst caps t W h hn hp tt (kr _ _ _ (Ne.symm hr) c0) hB (hok p hp) (fun V b tv => hC V (Kr.of b) tv)
theorem more_made (F : Nat) (fst caps : Array Value) (w : World) :
  Calls Tryz.prog 39 #[.func (.func F) fst caps] w fun q w' => ∃ (F' : Nat) (fst' caps' : Array Value), q = .returned (.func (.func F') fst' caps') ∧ (∀ (r : Nat) (t : C3), r ≠ w.heap.size → IsC r w (.func (.func F) fst caps) t → IsC r w' (.func (.func F') fst' caps') (cMore t)) ∧ Below w.heap.size w w' := by
 have hmf : ∀ (fn : Fn) (first cap : Array Value) (w : World), (Instr.makeFunc fn first cap).run Tryz.prog w = .ok (.func fn first cap) w := fun _ _ _ _ => rfl
 go_enter Tryz.func39, Tryz.ntmps39
 go_wp2_with fail
 go_ret
 have c0 : (w.alloc (.cells #[.func (.func F) fst caps] 40)).cell? ⟨w.heap.size, 0, none⟩ = some (.func (.func F) fst caps) := by go_simp
 refine ⟨_, _, _, rfl, fun r t hr hi => ⟨_, _, _, rfl, Tryz.call80, fun W kr tt p a n c h hn hp => ?_⟩, below_one _ _⟩
 have hk : Kr r w W := (Kr.of (below_one _ _)).trans kr
 obtain ⟨G, gs, gc, e, hB, hC⟩ := hi.keep hk
 injection e with e1 e2 e3
 injection e1 with e1
 subst e1 e2 e3
 exact eMore_calls p a n c w.heap.size F r fst caps t W h hn hp tt (kr _ _ _ (Ne.symm hr) c0) hB (fun V b tv => hC V (Kr.of b) tv)
theorem at_made1 (g : Nat) (x0 q0 : Int) (w : World) (hx0 : -9223372036854775808 ≤ x0 ∧ x0 ≤ 9223372036854775807) (hq0 : -8 ≤ q0 ∧ q0 ≤ 8) (hP : Pts w g 0 [(x0, q0)]) :
  Calls Tryz.prog 33 #[.slice (some ⟨g, 0, none⟩) 1 1] w fun q w' => ∃ (F' : Nat) (fst' caps' : Array Value), q = .returned (.func (.func F') fst' caps') ∧ (∀ r, (r < w.heap.size ∨ w'.heap.size ≤ r) → r ≠ g → IsC r w' (.func (.func F') fst' caps') (cAt [(x0, q0)])) ∧ Below w.heap.size w w' := by
 have hmf : ∀ (fn : Fn) (first cap : Array Value) (w : World), (Instr.makeFunc fn first cap).run Tryz.prog w = .ok (.func fn first cap) w := fun _ _ _ _ => rfl
 go_enter Tryz.func33, Tryz.ntmps33
 go_wp2_with fail
 go_ret
 have c0 : (w.alloc (.cells #[.slice (some ⟨g, 0, none⟩) 1 1] 96)).cell? ⟨w.heap.size, 0, none⟩ = some (.slice (some ⟨g, 0, none⟩) 1 1) := by go_simp
 refine ⟨_, _, _, rfl, fun r hr0 hg => ⟨_, _, _, rfl, Tryz.call71, fun W kr tt p a n c h hn hp => ?_⟩, below_one _ _⟩
 have hr : r ≠ w.heap.size := by simp at hr0; omega
 exact at1_calls p a n c w.heap.size g x0 q0 W h hn hp tt hx0 hq0 (kr _ _ _ (Ne.symm hr) c0) (hP.keep (Ne.symm hg) ((Kr.of (below_one _ _)).trans kr))
theorem at_made3 (g : Nat) (x0 q0 : Int) (x1 q1 : Int) (x2 q2 : Int) (w : World) (hx0 : -9223372036854775808 ≤ x0 ∧ x0 ≤ 9223372036854775807) (hq0 : -8 ≤ q0 ∧ q0 ≤ 8) (hx1 : -9223372036854775808 ≤ x1 ∧ x1 ≤ 9223372036854775807) (hq1 : -8 ≤ q1 ∧ q1 ≤ 8) (hx2 : -9223372036854775808 ≤ x2 ∧ x2 ≤ 9223372036854775807) (hq2 : -8 ≤ q2 ∧ q2 ≤ 8) (hP : Pts w g 0 [(x0, q0), (x1, q1), (x2, q2)]) :
  Calls Tryz.prog 33 #[.slice (some ⟨g, 0, none⟩) 3 3] w fun q w' => ∃ (F' : Nat) (fst' caps' : Array Value), q = .returned (.func (.func F') fst' caps') ∧ (∀ r, (r < w.heap.size ∨ w'.heap.size ≤ r) → r ≠ g → IsC r w' (.func (.func F') fst' caps') (cAt [(x0, q0), (x1, q1), (x2, q2)])) ∧ Below w.heap.size w w' := by
 have hmf : ∀ (fn : Fn) (first cap : Array Value) (w : World), (Instr.makeFunc fn first cap).run Tryz.prog w = .ok (.func fn first cap) w := fun _ _ _ _ => rfl
 go_enter Tryz.func33, Tryz.ntmps33
 go_wp2_with fail
 go_ret
 have c0 : (w.alloc (.cells #[.slice (some ⟨g, 0, none⟩) 3 3] 96)).cell? ⟨w.heap.size, 0, none⟩ = some (.slice (some ⟨g, 0, none⟩) 3 3) := by go_simp
 refine ⟨_, _, _, rfl, fun r hr0 hg => ⟨_, _, _, rfl, Tryz.call71, fun W kr tt p a n c h hn hp => ?_⟩, below_one _ _⟩
 have hr : r ≠ w.heap.size := by simp at hr0; omega
 exact at3_calls p a n c w.heap.size g x0 q0 x1 q1 x2 q2 W h hn hp tt hx0 hq0 hx1 hq1 hx2 hq2 (kr _ _ _ (Ne.symm hr) c0) (hP.keep (Ne.symm hg) ((Kr.of (below_one _ _)).trans kr))
theorem sine_made (w : World) :
  Calls Tryz.prog 40 #[.func (.func 41) #[] #[]] w fun q w' => ∃ (F' : Nat) (fst' caps' : Array Value), q = .returned (.func (.func F') fst' caps') ∧ (∀ r, r ≠ w.heap.size → IsC r w' (.func (.func F') fst' caps') cSin) ∧ Below w.heap.size w w' := by
 have hmf : ∀ (fn : Fn) (first cap : Array Value) (w : World), (Instr.makeFunc fn first cap).run Tryz.prog w = .ok (.func fn first cap) w := fun _ _ _ _ => rfl
 go_enter Tryz.func40, Tryz.ntmps40
 go_wp2_with fail
 go_ret
 have c0 : (w.alloc (.cells #[.func (.func 41) #[] #[]] 72)).cell? ⟨w.heap.size, 0, none⟩ = some (.func (.func 41) #[] #[]) := by go_simp
 refine ⟨_, _, _, rfl, fun r hr => ⟨_, _, _, rfl, Tryz.call82, fun W kr tt p a n c h hn hp => ?_⟩, below_one _ _⟩
 have e : cSin p = if decide ((tnR p).2.1 = 0) = true then (intD (hgt (tnN p)), true) else no3 := by
  unfold cSin
  by_cases q : (tnR p).2.1 = 0
  ·rw [if_pos q, decide_eq_true q, if_pos rfl]
  ·rw [if_neg q, decide_eq_false q, if_neg (by decide)]
 rw [e]
 exact turned_calls p a n c w.heap.size 41 (hgt (tnN p)) (decide ((tnR p).2.1 = 0)) W h hn hp tt (kr _ _ _ (Ne.symm hr) c0) Tryz.call41 (by unfold hgt; split <;> (try split) <;> decide) (fun V tv a1 n1 c1 g h1 => sine_calls (tnR p) (tnN p) a1 n1 c1 V g h1 (tnR_ok hp) tv (tnN_bd p))
theorem cosine_made (w : World) :
  Calls Tryz.prog 40 #[.func (.func 42) #[] #[]] w fun q w' => ∃ (F' : Nat) (fst' caps' : Array Value), q = .returned (.func (.func F') fst' caps') ∧ (∀ r, r ≠ w.heap.size → IsC r w' (.func (.func F') fst' caps') cCos) ∧ Below w.heap.size w w' := by
 have hmf : ∀ (fn : Fn) (first cap : Array Value) (w : World), (Instr.makeFunc fn first cap).run Tryz.prog w = .ok (.func fn first cap) w := fun _ _ _ _ => rfl
 go_enter Tryz.func40, Tryz.ntmps40
 go_wp2_with fail
 go_ret
 have c0 : (w.alloc (.cells #[.func (.func 42) #[] #[]] 72)).cell? ⟨w.heap.size, 0, none⟩ = some (.func (.func 42) #[] #[]) := by go_simp
 refine ⟨_, _, _, rfl, fun r hr => ⟨_, _, _, rfl, Tryz.call82, fun W kr tt p a n c h hn hp => ?_⟩, below_one _ _⟩
 have e : cCos p = if decide ((tnR p).2.1 = 0) = true then (intD (hgt ((tnN p + 1) % 4)), true) else no3 := by
  unfold cCos
  by_cases q : (tnR p).2.1 = 0
  ·rw [if_pos q, decide_eq_true q, if_pos rfl]
  ·rw [if_neg q, decide_eq_false q, if_neg (by decide)]
 rw [e]
 exact turned_calls p a n c w.heap.size 42 (hgt ((tnN p + 1) % 4)) (decide ((tnR p).2.1 = 0)) W h hn hp tt (kr _ _ _ (Ne.symm hr) c0) Tryz.call42 (by unfold hgt; split <;> (try split) <;> decide) (fun V tv a1 n1 c1 g h1 => cosine_calls (tnR p) (tnN p) a1 n1 c1 V g h1 (tnR_ok hp) tv (tnN_bd p))
theorem tangent_made (w : World) :
  Calls Tryz.prog 40 #[.func (.func 44) #[] #[]] w fun q w' => ∃ (F' : Nat) (fst' caps' : Array Value), q = .returned (.func (.func F') fst' caps') ∧ (∀ r, r ≠ w.heap.size → IsC r w' (.func (.func F') fst' caps') cTan) ∧ Below w.heap.size w w' := by
 have hmf : ∀ (fn : Fn) (first cap : Array Value) (w : World), (Instr.makeFunc fn first cap).run Tryz.prog w = .ok (.func fn first cap) w := fun _ _ _ _ => rfl
 go_enter Tryz.func40, Tryz.ntmps40
 go_wp2_with fail
 go_ret
 have c0 : (w.alloc (.cells #[.func (.func 44) #[] #[]] 72)).cell? ⟨w.heap.size, 0, none⟩ = some (.func (.func 44) #[] #[]) := by go_simp
 refine ⟨_, _, _, rfl, fun r hr => ⟨_, _, _, rfl, Tryz.call82, fun W kr tt p a n c h hn hp => ?_⟩, below_one _ _⟩
 have e : cTan p = if tanB (tnR p) = true then (intD (tanJ (tnR p)), true) else no3 := by
  unfold cTan tanB tanJ
  by_cases q : (tnR p).2.1 = 0
  ·simp [q]
  ·by_cases q1 : cmpD (tnR p) (inQ 1) = 0
   ·simp [q, q1]
   ·by_cases q2 : cmpD (tnR p) (inQ (-1)) = 0
    ·simp [q, q1, q2]
    ·simp [q, q1, q2]
 rw [e]
 exact turned_calls p a n c w.heap.size 44 (tanJ (tnR p)) (tanB (tnR p)) W h hn hp tt (kr _ _ _ (Ne.symm hr) c0) Tryz.call44 (by unfold tanJ; split <;> (try split) <;> (try split) <;> decide) (fun V tv a1 n1 c1 g h1 => tangent_calls (tnR p) (tnN p) a1 n1 c1 V g h1 (tnR_ok hp) tv)
theorem above_made2 (k : Int) (w : World) (hk : -9223372036854775808 ≤ k ∧ k ≤ 9223372036854775807) :
  Calls Tryz.prog 37 #[.int .i64 k] w fun q w' => ∃ (F' : Nat) (fst' caps' : Array Value), q = .returned (.func (.func F') fst' caps') ∧ (∀ r, r ≠ w.heap.size → IsD r w' (.func (.func F') fst' caps') (dAbove k)) ∧ Below w.heap.size w w' := by
 have hmf : ∀ (fn : Fn) (first cap : Array Value) (w : World), (Instr.makeFunc fn first cap).run Tryz.prog w = .ok (.func fn first cap) w := fun _ _ _ _ => rfl
 go_enter Tryz.func37, Tryz.ntmps37
 go_wp2_with fail
 go_ret
 have c0 : (w.alloc (.cells #[.int .i64 k] 2)).cell? ⟨w.heap.size, 0, none⟩ = some (.int .i64 k) := by go_simp
 exact ⟨_, _, _, rfl, fun r hr => ⟨_, _, _, rfl, Tryz.call78, fun W kr t p a n c h hn hp => above1_calls p a n c w.heap.size k W h hn hp t.1 hk (kr _ _ _ (Ne.symm hr) c0)⟩, below_one _ _⟩
theorem hasTan_is (r : Nat) (w : World) : IsD r w (.func (.func 43) #[] #[]) dTan := ⟨_, _, _, rfl, Tryz.call43, fun W _ t p a n c h hn hp => hasTan_calls p a n c W h hn hp t.1⟩
end Go.Proofs.YtiijfnaaekmpbaaGreatDoor

/- The walks of Canon, Neg, Abs. -/
import Derived.Test.YtiipjkkfaplhnaaDoorTMB
namespace Go.Proofs.YtiipjkkfaplhnaaDoor
open Go.RowKit

/-- Less a number in its one form; its amount. -/
def negD (p : Bool × Nat × Int) : Bool × Nat × Int := (!p.1 && !decide (p.2.1 = 0), p.2.1, p.2.2)
def absD (p : Bool × Nat × Int) : Bool × Nat × Int := (false, p.2.1, p.2.2)
theorem neg_sign {p : Bool × Nat × Int} {n : Nat} (h : n = (wordsOf p.2.1).length) : (!p.1 && !((n : Int) == 0)) = (negD p).1 := by
  have h1 : ((n : Int) == 0) = decide (p.2.1 = 0) := by
    rw [Bool.eq_iff_iff]
    simp only [beq_iff_eq, decide_eq_true_eq]
    rw [h, Int.natCast_eq_zero, List.length_eq_zero_iff, words_nil]
  unfold negD
  rw [h1]

attribute [local go_sem ↓] Go.wp_at_zero Go.wp_at_succ



set_option maxRecDepth 100000 in
set_option maxHeartbeats 4000000 in
theorem neg_not (s : Bool) (a : Option Addr) (len cap : Nat) (xs : List Int) (e : Int) (w : World) (h : IsW w a len cap xs) (hm : len ≤ 17592186044416) (hT : Tab w) (hr : rightB (val xs) e = false) :
    Calls Tryd.prog 20 #[dyV s a len cap e] w fun r w' => r = .returned (.tuple #[dyV false none 0 0 0, .int .i64 2]) ∧ Below w.heap.size w w' := by
  have hmf : ∀ (fn : Fn) (first cap : Array Value) (w : World), (Instr.makeFunc fn first cap).run Tryd.prog w = .ok (.func fn first cap) w := fun _ _ _ _ => rfl
  have HRB : Hid (rightB (val xs) e = false) := hr
  clear hr
  go_enter Tryd.func20, Tryd.ntmps20
  go_wp2_with fail
  go_region_held3 (fun w' => w'.cell? ⟨w.heap.size, 0, none⟩ = some (.bool s) ∧ w'.cell? ⟨w.heap.size, 1, none⟩ = some (.slice a len cap) ∧ w'.cell? ⟨w.heap.size, 2, none⟩ = some (.int .i64 e))
    (first | (go_keep; done) | ((refine ⟨?_, ?_, ?_⟩ <;> (refine dcarry_cell hbM ?_; go_keep)); done) | ((refine ⟨?_, ?_, ?_⟩ <;> (refine dcarry_cell hbC ?_; go_simp)); done))
    (first
      | (go_at_call 38; refine (canonical_calls s a len cap xs e _ (h.keep (by repeat (first | exact Below.refl _ _ | apply Below.drew | refine Below.alloc ?_ (by simp; try omega) _))) hm (hT.kept (by repeat (first | exact Below.refl _ _ | apply Below.drew | refine Below.alloc ?_ (by simp; try omega) _)))).mono ?_; rintro r w1 ⟨ao, n, c, e', rfl, HE, HN, HZ, hn, hO, hbC⟩; have hbw1 : Below w.heap.size w w1 := nbelow_trans (by repeat (first | exact Below.refl _ _ | apply Below.drew | refine Below.alloc ?_ (by simp; try omega) _)) hbC; have hbz1 : Below ((w.alloc (.cells #[.bool s, .slice a len cap, .int .i64 e] 25)).alloc (.cells #[.bool false, .slice none 0 0, .int .i64 0] 25)).heap.size ((w.alloc (.cells #[.bool s, .slice a len cap, .int .i64 e] 25)).alloc (.cells #[.bool false, .slice none 0 0, .int .i64 0] 25)) w1 := nbelow_trans (by repeat (first | exact Below.refl _ _ | apply Below.drew | refine Below.alloc ?_ (by simp; try omega) _)) hbC)
      | (go_at_call 48; refine (made_not _ _ _ (fun W hW => HRB.out ▸ right1_calls _ s a len cap xs e W (h.keep (nbelow_trans (by repeat (first | exact hbw1 | apply Below.drew | refine Below.alloc ?_ (by have := hbw1.size; simp at this ⊢; omega) _)) hW)) hm (dcarry_cell hW (by first | (go_simp; done) | (refine dcarry_cell hbC ?_; go_simp; done))) (dcarry_cell hW (by first | (go_simp; done) | (refine dcarry_cell hbC ?_; go_simp; done))) (dcarry_cell hW (by first | (go_simp; done) | (refine dcarry_cell hbC ?_; go_simp; done))))).mono ?_; rintro r w2 ⟨rfl, hbM⟩; obtain ⟨m0, m1, m2, f0, f1, f2⟩ := zero_dy (r := w.heap.size + 1) (w := w.alloc (.cells #[.bool s, .slice a len cap, .int .i64 e] 25)) (W' := w2) (nbelow_trans (by repeat (first | exact hbz1 | apply Below.drew | refine Below.alloc ?_ (by have := hbz1.size; simp at this ⊢; omega) _)) hbM) (by simp); have hbw2 : Below w.heap.size w w2 := nbelow_trans (by repeat (first | exact hbw1 | apply Below.drew | refine Below.alloc ?_ (by have := hbw1.size; simp at this ⊢; omega) _)) hbM))
  all_goals
    go_wp2_with fail
    refine bodyPost_ret (v := .tuple #[dyV false none 0 0 0, .int .i64 2]) (by simp [results, Tryd.results20, go_sem, m0, m1, m2]) rfl ⟨rfl, ?_⟩
    exact ((hbw2.setCell (by show w.heap.size ≤ w.heap.size + 1; omega) _).setCell (by show w.heap.size ≤ w.heap.size + 1; omega) _).setCell (by show w.heap.size ≤ w.heap.size + 1; omega) _

set_option maxRecDepth 100000 in
set_option maxHeartbeats 4000000 in
theorem neg_yes (s : Bool) (a : Option Addr) (len cap : Nat) (xs : List Int) (e : Int) (w : World) (h : IsW w a len cap xs) (hm : len ≤ 17592186044416) (hT : Tab w) (hr : rightB (val xs) e = true) :
    Calls Tryd.prog 20 #[dyV s a len cap e] w fun r w' => ∃ v', r = .returned (.tuple #[v', .int .i64 (roomE (negD (formD s (val xs) e)))]) ∧ DyAt w.heap.size w' v' (roomP (negD (formD s (val xs) e))) ∧ Below w.heap.size w w' := by
  have hmf : ∀ (fn : Fn) (first cap : Array Value) (w : World), (Instr.makeFunc fn first cap).run Tryd.prog w = .ok (.func fn first cap) w := fun _ _ _ _ => rfl
  have HRB : Hid (rightB (val xs) e = true) := hr
  have HCG : Hid (canG s (val xs) e = formD s (val xs) e) := canG_no (rightB_yes hr).1
  have HEB : Hid (-4611686018427387904 ≤ e ∧ e ≤ 4611686018427387904) := by have := (rightB_yes hr).2; rw [Hid]; omega
  have HGR : Hid (greatB (negD (formD s (val xs) e)).2.1 = false) := great_mono (form_amount_le _ _ _) (rightB_yes hr).1
  clear hr
  go_enter Tryd.func20, Tryd.ntmps20
  go_wp2_with fail
  go_region_held3 (fun w' => w'.cell? ⟨w.heap.size, 0, none⟩ = some (.bool s) ∧ w'.cell? ⟨w.heap.size, 1, none⟩ = some (.slice a len cap) ∧ w'.cell? ⟨w.heap.size, 2, none⟩ = some (.int .i64 e))
    (first | (go_keep; done) | ((refine ⟨?_, ?_, ?_⟩ <;> (refine dcarry_cell hbM ?_; go_keep)); done) | ((refine ⟨?_, ?_, ?_⟩ <;> (refine dcarry_cell hbC ?_; go_simp)); done))
    (first
      | (go_at_call 38; refine (canonical_calls s a len cap xs e _ (h.keep (by repeat (first | exact Below.refl _ _ | apply Below.drew | refine Below.alloc ?_ (by simp; try omega) _))) hm (hT.kept (by repeat (first | exact Below.refl _ _ | apply Below.drew | refine Below.alloc ?_ (by simp; try omega) _)))).mono ?_; rintro r w1 ⟨ao, n, c, e', rfl, HE, HN, HZ, hn, hO, hbC⟩; have hbw1 : Below w.heap.size w w1 := nbelow_trans (by repeat (first | exact Below.refl _ _ | apply Below.drew | refine Below.alloc ?_ (by simp; try omega) _)) hbC; have hbz1 : Below ((w.alloc (.cells #[.bool s, .slice a len cap, .int .i64 e] 25)).alloc (.cells #[.bool false, .slice none 0 0, .int .i64 0] 25)).heap.size ((w.alloc (.cells #[.bool s, .slice a len cap, .int .i64 e] 25)).alloc (.cells #[.bool false, .slice none 0 0, .int .i64 0] 25)) w1 := nbelow_trans (by repeat (first | exact Below.refl _ _ | apply Below.drew | refine Below.alloc ?_ (by simp; try omega) _)) hbC; obtain rfl := HE.out HEB.out.1 HEB.out.2; rw [HCG.out] at hO HN ⊢; clear HE)
      | (go_at_call 48; refine (made_negated _ _ _ _ _ _ _ (negD (formD s (val xs) e)) _ _ (fun W hW => HRB.out ▸ right1_calls _ s a len cap xs e W (h.keep (nbelow_trans (by repeat (first | exact hbw1 | apply Below.drew | refine Below.alloc ?_ (by have := hbw1.size; simp at this ⊢; omega) _)) hW)) hm (dcarry_cell hW (by first | (go_simp; done) | (refine dcarry_cell hbC ?_; go_simp; done))) (dcarry_cell hW (by first | (go_simp; done) | (refine dcarry_cell hbC ?_; go_simp; done))) (dcarry_cell hW (by first | (go_simp; done) | (refine dcarry_cell hbC ?_; go_simp; done)))) (fun W hW => Calls.mono (negated_calls _ _ _ _ _ _ _) (by
          rintro r w5 ⟨rfl, hb5⟩
          exact ⟨_, rfl, Or.inl ⟨HGR.out, ⟨ao, n, c, by rw [neg_sign HN.out]; rfl, HN, HZ, hn, (hO.keep (nbelow_trans (by repeat (first | exact Below.refl _ _ | apply Below.drew | refine Below.alloc ?_ (by simp; try omega) _)) hW)).keep hb5⟩⟩, hb5⟩))).mono ?_; rintro r w2 ⟨v', rfl, ⟨a2, n2, c2, rfl, HN2, hn2, hO2⟩, hbM⟩; obtain ⟨m0, m1, m2, f0, f1, f2⟩ := zero_dy (r := w.heap.size + 1) (w := w.alloc (.cells #[.bool s, .slice a len cap, .int .i64 e] 25)) (W' := w2) (nbelow_trans (by repeat (first | exact hbz1 | apply Below.drew | refine Below.alloc ?_ (by have := hbz1.size; simp at this ⊢; omega) _)) hbM) (by simp); have hbw2 : Below w.heap.size w w2 := nbelow_trans (by repeat (first | exact hbw1 | apply Below.drew | refine Below.alloc ?_ (by have := hbw1.size; simp at this ⊢; omega) _)) hbM))
  all_goals
    go_wp2_with fail
    refine bodyPost_ret (v := .tuple #[dyV (roomP (negD (formD s (val xs) e))).1 a2 n2 c2 (roomP (negD (formD s (val xs) e))).2.2, .int .i64 (roomE (negD (formD s (val xs) e)))]) (by simp [results, Tryd.results20, go_sem, m0, m1, m2]) rfl ⟨_, rfl, ⟨a2, n2, c2, rfl, HN2, hn2, (((hO2.far _ _ (by show w.heap.size + 1 < _; have := hbz1.size; simp at this ⊢; omega)).far _ _ (by show w.heap.size + 1 < _; have := hbz1.size; simp at this ⊢; omega)).far _ _ (by show w.heap.size + 1 < _; have := hbz1.size; simp at this ⊢; omega)).low (by have := hbw1.size; simp; omega)⟩, ?_⟩
    exact ((hbw2.setCell (by show w.heap.size ≤ w.heap.size + 1; omega) _).setCell (by show w.heap.size ≤ w.heap.size + 1; omega) _).setCell (by show w.heap.size ≤ w.heap.size + 1; omega) _




end Go.Proofs.YtiipjkkfaplhnaaDoor

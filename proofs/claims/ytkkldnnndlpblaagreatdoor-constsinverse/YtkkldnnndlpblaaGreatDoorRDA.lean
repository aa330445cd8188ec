/- The document's dyadic numbers (ulpref04), first part: Form, One, Right, Zero, room, Canon. The walks of Canon, Neg, Abs. The document's dyadic numbers, second part: Canon, Same, Copy; the program's Canon in the same words. The document's dyadic numbers, third part: Same, Copy. -/
import Derived.Test.YtkkldnnndlpblaaGreatDoorDGA
import Derived.Test.YtkkldnnndlpblaaGreatDoorTMG
import Derived.Laws.AppendOwnNone

namespace Go.Proofs.YtkkldnnndlpblaaGreatDoor
open Go.RowKit

/-- A number that the document's functions hand out, of whatever size. -/
def DyQ (B : Nat) (w : World) (v : Value) (p : Bool × Nat × Int) : Prop := ∃ (ao : Option Addr) (n c : Nat), v = dyV p.1 ao n c p.2.2 ∧ Hid (n = (wordsOf p.2.1).length) ∧ OwnW B w ao n c (wordsOf p.2.1)

theorem DyAt.q {B : Nat} {w : World} {v : Value} {p : Bool × Nat × Int} (h : DyAt B w v p) : DyQ B w v p := by
  obtain ⟨ao, n, c, h1, h2, -, h4⟩ := h
  exact ⟨ao, n, c, h1, h2, h4⟩

theorem DyQ.keep {B : Nat} {w w' : World} {v : Value} {p : Bool × Nat × Int} (h : DyQ B w v p) (hb : Below w.heap.size w w') : DyQ B w' v p := by
  obtain ⟨ao, n, c, h1, h2, h3⟩ := h
  exact ⟨ao, n, c, h1, h2, h3.keep hb⟩

theorem DyQ.low {B B' : Nat} {w : World} {v : Value} {p : Bool × Nat × Int} (h : DyQ B w v p) (hB : B' ≤ B) : DyQ B' w v p := by
  obtain ⟨ao, n, c, h1, h2, h3⟩ := h
  exact ⟨ao, n, c, h1, h2, h3.low hB⟩

theorem dyQ_zero (B : Nat) (w : World) : DyQ B w (dyV false none 0 0 0) (false, 0, 0) := (dyAt_zero B w).q

set_option maxRecDepth 100000 in
set_option maxHeartbeats 2000000 in
theorem qForm_calls (s : Bool) (a : Option Addr) (len cap : Nat) (xs : List Int) (e : Int) (w : World) (h : IsW w a len cap xs) (hm : len ≤ 17592186044000) (he : -4611686018427387904 ≤ e ∧ e ≤ 4611686018427387904) :
    Calls Tryz.prog 58 #[.bool s, .slice a len cap, .int .i64 e] w fun r w' => ∃ v, r = .returned v ∧ DyQ w.heap.size w' v (formD s (val xs) e) ∧ Below w.heap.size w w' := by
  have hb0 := below_one w (.cells #[.bool false, .slice none 0 0, .int .i64 0] 26)
  have HN : Hid _ := nNorm_calls a len cap xs _ (h.keep hb0) (by omega)
  obtain ⟨he1, he2⟩ := he
  have hwl : (wordsOf (val xs)).length ≤ 17592186044000 := by have := size_words xs h.2.1; have := size_le xs; have := h.1; omega
  by_cases h0 : val xs = 0
  · rw [h0, form_zero]
    rw [h0, words_zero] at HN
    clear h0
    go_enter Tryz.func58, Tryz.ntmps58
    go_wp2_with fail
    refine Calls.mono HN.out ?_
    rintro r w1 ⟨ao, cv, rfl, hO, hb1⟩
    obtain ⟨m0, m1, m2, f0, f1, f2⟩ := zero_dy (r := w.heap.size) hb1 rfl
    have hb01 := nbelow_trans hb0 hb1
    clear hb1
    go_wp2_with fail
    refine bodyPost_ret (v := dyV false none 0 0 0) (by simp [results, Tryz.results58, go_sem, m0, m1, m2]) rfl ⟨_, rfl, dyQ_zero _ _, ?_⟩
    exact ((hb01.setCell (Nat.le_refl _) _).setCell (Nat.le_refl _) _).setCell (Nat.le_refl _) _
  · have HF : Hid _ := form_pos s h0 e
    have HO : Hid _ := odd_part h0
    have HW : Hid (wordsOf (val xs) ≠ []) := fun q => h0 ((words_nil _).1 q)
    have hz := tz_le_blen (val xs)
    have hbl := blen_words_le xs h.2.1
    have hlx := h.1
    have hzb : tz (val xs) ≤ 1125899906840000 := by omega
    clear hz hbl hlx h0
    obtain ⟨n0, hn0⟩ : ∃ n0, n0 = (wordsOf (val xs)).length := ⟨_, rfl⟩
    have HN0 : Hid (n0 = (wordsOf (val xs)).length) := hn0
    have hne : ((n0 : Int) == 0) = false := by
      have : n0 ≠ 0 := fun q => HW.out (List.length_eq_zero_iff.1 (by rw [← hn0]; exact q))
      simp; omega
    rw [← hn0] at HN hwl
    clear hn0
    obtain ⟨t, ht⟩ : ∃ t, t = tz (val xs) := ⟨_, rfl⟩
    have HT : Hid (t = tz (val xs)) := ht
    rw [← ht] at hzb
    clear ht
    go_enter Tryz.func58, Tryz.ntmps58
    go_wp2_with fail
    refine Calls.mono HN.out ?_
    rintro r w1 ⟨ao, cv, rfl, hO, hb1⟩
    have hI : IsW w1 ao n0 cv (wordsOf (val xs)) := by
      have := hO.isW (words_U _)
      rw [← HN0.out] at this; exact this
    have hb01 := nbelow_trans hb0 hb1
    go_wp2_with fail
    refine Calls.mono (nLow_calls ao n0 cv _ w1 hI (by omega)) ?_
    rw [val_words, ← HT.out]
    rintro r w2 ⟨rfl, hb2⟩
    have hI2 := hI.keep hb2
    go_wp2_with fail
    refine Calls.mono (nShr_calls ao n0 cv t _ w2 hI2 (by omega) (by omega)) ?_
    rw [val_words, HT.out]
    rintro r w3 ⟨_, rfl, ⟨a3, n3, c3, rfl, hn3, hO3⟩, hb3⟩
    have HN3 : Hid (n3 = (wordsOf (val xs / 2 ^ tz (val xs))).length) := hn3
    rw [← HT.out]
    have hb13 := nbelow_trans hb1 (nbelow_trans hb2 hb3)
    obtain ⟨m0, m1, m2, f0, f1, f2⟩ := zero_dy (r := w.heap.size) hb13 rfl
    have hb03 := nbelow_trans hb0 hb13
    have hws : w.heap.size + 1 ≤ w2.heap.size := by have := (nbelow_trans hb1 hb2).size; simp at this; omega
    clear hb1 hb2 hb3 hb01 hn3 hO hb13
    go_wp2_with fail
    refine bodyPost_ret (v := dyV s a3 n3 c3 (e + (t : Int))) (by simp [results, Tryz.results58, go_sem, m0, m1, m2]) rfl ⟨_, rfl, ?_, ?_⟩
    · rw [HF.out]
      refine ⟨a3, n3, c3, by rw [HT.out], HN3, ?_⟩
      exact (((hO3.far _ _ (by show w.heap.size < _; omega)).far _ _ (by show w.heap.size < _; omega)).far _ _ (by show w.heap.size < _; omega)).low (by omega)
    · exact ((hb03.setCell (Nat.le_refl _) _).setCell (Nat.le_refl _) _).setCell (Nat.le_refl _) _

set_option maxRecDepth 100000 in
set_option maxHeartbeats 2000000 in
theorem qOne_calls (s : Bool) (a : Option Addr) (len cap : Nat) (xs : List Int) (e : Int) (w : World) (h : IsW w a len cap xs) (hm : len ≤ 17592186044000) (he : -4611686018427387904 ≤ e ∧ e ≤ 4611686018427387904) :
    Calls Tryz.prog 59 #[dyV s a len cap e] w fun r w' => ∃ v, r = .returned v ∧ DyQ w.heap.size w' v (formD s (val xs) e) ∧ Below w.heap.size w w' := by
  have hb0 : Below w.heap.size w ((w.alloc (.cells #[.bool s, .slice a len cap, .int .i64 e] 26)).alloc (.cells #[.bool false, .slice none 0 0, .int .i64 0] 26)) := nbelow_trans (below_one _ _) (below_one _ _)
  have HF : Hid _ := qForm_calls s a len cap xs e _ (h.keep hb0) hm he
  clear he
  go_enter Tryz.func59, Tryz.ntmps59
  go_wp2_with fail
  refine Calls.mono HF.out ?_
  rintro r w1 ⟨_, rfl, ⟨a1, n1, c1, rfl, HN1, hO1⟩, hb1⟩
  obtain ⟨m0, m1, m2, f0, f1, f2⟩ := zero_dy (r := w.heap.size + 1) hb1 (by simp)
  have hb01 := nbelow_trans hb0 hb1
  have hws : w.heap.size + 2 ≤ w1.heap.size := by have := hb1.size; simp at this; omega
  clear hb1
  go_wp2_with fail
  refine bodyPost_ret (v := dyV (formD s (val xs) e).1 a1 n1 c1 (formD s (val xs) e).2.2) (by simp [results, Tryz.results59, go_sem, m0, m1, m2]) rfl ⟨_, rfl, ⟨a1, n1, c1, rfl, HN1, ?_⟩, ?_⟩
  · exact (((hO1.far _ _ (by simp)).far _ _ (by simp)).far _ _ (by simp)).low (by simp; omega)
  · exact ((hb01.setCell (by show w.heap.size ≤ w.heap.size + 1; omega) _).setCell (by show w.heap.size ≤ w.heap.size + 1; omega) _).setCell (by show w.heap.size ≤ w.heap.size + 1; omega) _

set_option maxRecDepth 100000 in
set_option maxHeartbeats 1000000 in
theorem qRight_calls (s : Bool) (a : Option Addr) (len cap : Nat) (xs : List Int) (e : Int) (w : World) (h : IsW w a len cap xs) (hm : len ≤ 17592186044416) :
    Calls Tryz.prog 57 #[dyV s a len cap e] w fun r w' => r = .returned (.bool (rightB (val xs) e)) ∧ Below w.heap.size w w' := by
  have hb0 := below_one w (.cells #[.bool s, .slice a len cap, .int .i64 e] 26)
  have HG : Hid _ := nGreat_calls a len cap xs _ (h.keep hb0) hm
  have HR : Hid (rightB (val xs) e = (!decide (1024 < (wordsOf (val xs)).length) && inB e)) := rfl
  generalize decide (1024 < (wordsOf (val xs)).length) = g at *
  have HI : Hid (inB e = decide (-32768 ≤ e ∧ e ≤ 32768)) := rfl
  cases g with
  | true =>
    go_enter Tryz.func57, Tryz.ntmps57
    go_wp2_with fail
    refine Calls.mono HG.out ?_
    rintro r w1 ⟨rfl, rfl⟩
    go_wp2_with fail
    go_ret
    rw [HR.out]
    exact ⟨rfl, hb0⟩
  | false =>
    by_cases h1 : -32768 ≤ e
    · by_cases h2 : e ≤ 32768
      · go_enter Tryz.func57, Tryz.ntmps57
        go_wp2_with fail
        refine Calls.mono HG.out ?_
        rintro r w1 ⟨rfl, rfl⟩
        go_wp2_with fail
        go_ret
        rw [HR.out, HI.out, decide_eq_true (And.intro h1 h2)]
        exact ⟨rfl, hb0⟩
      · go_enter Tryz.func57, Tryz.ntmps57
        go_wp2_with fail
        refine Calls.mono HG.out ?_
        rintro r w1 ⟨rfl, rfl⟩
        go_wp2_with fail
        go_ret
        rw [HR.out, HI.out, decide_eq_false (fun q : -32768 ≤ e ∧ e ≤ 32768 => by omega)]
        first | exact ⟨rfl, hb0⟩ | exact ⟨nret_bool (decide_eq_false (by omega)), hb0⟩
    · go_enter Tryz.func57, Tryz.ntmps57
      go_wp2_with fail
      refine Calls.mono HG.out ?_
      rintro r w1 ⟨rfl, rfl⟩
      go_wp2_with fail
      go_ret
      rw [HR.out, HI.out, decide_eq_false (fun q : -32768 ≤ e ∧ e ≤ 32768 => by omega)]
      first | exact ⟨rfl, hb0⟩ | exact ⟨nret_bool (decide_eq_false (by omega)), hb0⟩

set_option maxRecDepth 100000 in
set_option maxHeartbeats 1000000 in
theorem qZero_calls (s : Bool) (a : Option Addr) (len cap : Nat) (xs : List Int) (e : Int) (w : World) (h : IsW w a len cap xs) (hm : len ≤ 17592186044416) :
    Calls Tryz.prog 35 #[dyV s a len cap e] w fun r w' => r = .returned (.bool (decide (val xs = 0))) ∧ Below w.heap.size w w' := by
  have hb0 := below_one w (.cells #[.bool s, .slice a len cap, .int .i64 e] 26)
  have HN : Hid _ := nNorm_calls a len cap xs _ (h.keep hb0) hm
  have HZ : Hid (((((wordsOf (val xs)).length : Nat) : Int) == 0) = decide (val xs = 0)) := by
    rw [Hid, Bool.eq_iff_iff]
    simp only [beq_iff_eq, decide_eq_true_eq]
    rw [Int.natCast_eq_zero, List.length_eq_zero_iff, words_nil]
  generalize decide (val xs = 0) = z at *
  generalize (wordsOf (val xs)).length = n at *
  go_enter Tryz.func35, Tryz.ntmps35
  go_wp2_with fail
  refine Calls.mono HN.out ?_
  rintro r w1 ⟨ao, cv, rfl, hO, hb1⟩
  have hb01 := nbelow_trans hb0 hb1
  clear hb1 hO
  go_wp2_with fail
  go_ret
  exact ⟨nret_bool HZ.out, hb01⟩

end Go.Proofs.YtkkldnnndlpblaaGreatDoor

namespace Go.Proofs.YtkkldnnndlpblaaGreatDoor
open Go.RowKit

/-- Less a number in its one form; its amount. -/
def negD (p : Bool × Nat × Int) : Bool × Nat × Int := (!p.1 && !decide (p.2.1 = 0), p.2.1, p.2.2)

attribute [local go_sem ↓] Go.wp_at_zero Go.wp_at_succ

set_option maxRecDepth 100000 in
set_option maxHeartbeats 4000000 in
theorem canon_not (s : Bool) (a : Option Addr) (len cap : Nat) (xs : List Int) (e : Int) (w : World) (h : IsW w a len cap xs) (hm : len ≤ 17592186044416) (hT : Tab w) (hr : rightB (val xs) e = false) :
    Calls Tryz.prog 108 #[dyV s a len cap e] w fun r w' => r = .returned (.tuple #[dyV false none 0 0 0, .int .i64 2]) ∧ Below w.heap.size w w' := by
  have hmf : ∀ (fn : Fn) (first cap : Array Value) (w : World), (Instr.makeFunc fn first cap).run Tryz.prog w = .ok (.func fn first cap) w := fun _ _ _ _ => rfl
  have HRB : Hid (rightB (val xs) e = false) := hr
  clear hr
  go_enter Tryz.func108, Tryz.ntmps108
  go_wp2_with fail
  go_region_held3 (fun w' => w'.cell? ⟨w.heap.size, 0, none⟩ = some (.bool s) ∧ w'.cell? ⟨w.heap.size, 1, none⟩ = some (.slice a len cap) ∧ w'.cell? ⟨w.heap.size, 2, none⟩ = some (.int .i64 e))
    (first | (go_keep; done) | ((refine ⟨?_, ?_, ?_⟩ <;> (refine dcarry_cell hbM ?_; go_keep)); done) | ((refine ⟨?_, ?_, ?_⟩ <;> (refine dcarry_cell hbC ?_; go_simp)); done))
    (first
      | (go_at_call 144; refine (canonical_calls s a len cap xs e _ (h.keep (by repeat (first | exact Below.refl _ _ | apply Below.drew | refine Below.alloc ?_ (by simp; try omega) _))) hm (hT.kept (by repeat (first | exact Below.refl _ _ | apply Below.drew | refine Below.alloc ?_ (by simp; try omega) _)))).mono ?_; rintro r w1 ⟨ao, n, c, e', rfl, HE, HN, HZ, hn, hO, hbC⟩; have hbw1 : Below w.heap.size w w1 := nbelow_trans (by repeat (first | exact Below.refl _ _ | apply Below.drew | refine Below.alloc ?_ (by simp; try omega) _)) hbC; have hbz1 : Below ((w.alloc (.cells #[.bool s, .slice a len cap, .int .i64 e] 26)).alloc (.cells #[.bool false, .slice none 0 0, .int .i64 0] 26)).heap.size ((w.alloc (.cells #[.bool s, .slice a len cap, .int .i64 e] 26)).alloc (.cells #[.bool false, .slice none 0 0, .int .i64 0] 26)) w1 := nbelow_trans (by repeat (first | exact Below.refl _ _ | apply Below.drew | refine Below.alloc ?_ (by simp; try omega) _)) hbC)
      | (go_at_call 143; refine (made_not _ _ _ (fun W hW => HRB.out ▸ right1_calls _ s a len cap xs e W (h.keep (nbelow_trans (by repeat (first | exact hbw1 | apply Below.drew | refine Below.alloc ?_ (by have := hbw1.size; simp at this ⊢; omega) _)) hW)) hm (dcarry_cell hW (by first | (go_simp; done) | (refine dcarry_cell hbC ?_; go_simp; done))) (dcarry_cell hW (by first | (go_simp; done) | (refine dcarry_cell hbC ?_; go_simp; done))) (dcarry_cell hW (by first | (go_simp; done) | (refine dcarry_cell hbC ?_; go_simp; done))))).mono ?_; rintro r w2 ⟨rfl, hbM⟩; obtain ⟨m0, m1, m2, f0, f1, f2⟩ := zero_dy (r := w.heap.size + 1) (w := w.alloc (.cells #[.bool s, .slice a len cap, .int .i64 e] 26)) (W' := w2) (nbelow_trans (by repeat (first | exact hbz1 | apply Below.drew | refine Below.alloc ?_ (by have := hbz1.size; simp at this ⊢; omega) _)) hbM) (by simp); have hbw2 : Below w.heap.size w w2 := nbelow_trans (by repeat (first | exact hbw1 | apply Below.drew | refine Below.alloc ?_ (by have := hbw1.size; simp at this ⊢; omega) _)) hbM))
  all_goals
    go_wp2_with fail
    refine bodyPost_ret (v := .tuple #[dyV false none 0 0 0, .int .i64 2]) (by simp [results, Tryz.results108, go_sem, m0, m1, m2]) rfl ⟨rfl, ?_⟩
    exact ((hbw2.setCell (by show w.heap.size ≤ w.heap.size + 1; omega) _).setCell (by show w.heap.size ≤ w.heap.size + 1; omega) _).setCell (by show w.heap.size ≤ w.heap.size + 1; omega) _

set_option maxRecDepth 100000 in
set_option maxHeartbeats 4000000 in
theorem canon_yes (s : Bool) (a : Option Addr) (len cap : Nat) (xs : List Int) (e : Int) (w : World) (h : IsW w a len cap xs) (hm : len ≤ 17592186044416) (hT : Tab w) (hr : rightB (val xs) e = true) :
    Calls Tryz.prog 108 #[dyV s a len cap e] w fun r w' => ∃ v', r = .returned (.tuple #[v', .int .i64 (roomE (formD s (val xs) e))]) ∧ DyAt w.heap.size w' v' (roomP (formD s (val xs) e)) ∧ Below w.heap.size w w' := by
  have hmf : ∀ (fn : Fn) (first cap : Array Value) (w : World), (Instr.makeFunc fn first cap).run Tryz.prog w = .ok (.func fn first cap) w := fun _ _ _ _ => rfl
  have HRB : Hid (rightB (val xs) e = true) := hr
  have HCG : Hid (canG s (val xs) e = formD s (val xs) e) := canG_no (rightB_yes hr).1
  have HEB : Hid (-4611686018427387904 ≤ e ∧ e ≤ 4611686018427387904) := by have := (rightB_yes hr).2; rw [Hid]; omega
  have HGR : Hid (greatB (formD s (val xs) e).2.1 = false) := great_mono (form_amount_le _ _ _) (rightB_yes hr).1
  clear hr
  go_enter Tryz.func108, Tryz.ntmps108
  go_wp2_with fail
  go_region_held3 (fun w' => w'.cell? ⟨w.heap.size, 0, none⟩ = some (.bool s) ∧ w'.cell? ⟨w.heap.size, 1, none⟩ = some (.slice a len cap) ∧ w'.cell? ⟨w.heap.size, 2, none⟩ = some (.int .i64 e))
    (first | (go_keep; done) | ((refine ⟨?_, ?_, ?_⟩ <;> (refine dcarry_cell hbM ?_; go_keep)); done) | ((refine ⟨?_, ?_, ?_⟩ <;> (refine dcarry_cell hbC ?_; go_simp)); done))
    (first
      | (go_at_call 144; refine (canonical_calls s a len cap xs e _ (h.keep (by repeat (first | exact Below.refl _ _ | apply Below.drew | refine Below.alloc ?_ (by simp; try omega) _))) hm (hT.kept (by repeat (first | exact Below.refl _ _ | apply Below.drew | refine Below.alloc ?_ (by simp; try omega) _)))).mono ?_; rintro r w1 ⟨ao, n, c, e', rfl, HE, HN, HZ, hn, hO, hbC⟩; have hbw1 : Below w.heap.size w w1 := nbelow_trans (by repeat (first | exact Below.refl _ _ | apply Below.drew | refine Below.alloc ?_ (by simp; try omega) _)) hbC; have hbz1 : Below ((w.alloc (.cells #[.bool s, .slice a len cap, .int .i64 e] 26)).alloc (.cells #[.bool false, .slice none 0 0, .int .i64 0] 26)).heap.size ((w.alloc (.cells #[.bool s, .slice a len cap, .int .i64 e] 26)).alloc (.cells #[.bool false, .slice none 0 0, .int .i64 0] 26)) w1 := nbelow_trans (by repeat (first | exact Below.refl _ _ | apply Below.drew | refine Below.alloc ?_ (by simp; try omega) _)) hbC; obtain rfl := HE.out HEB.out.1 HEB.out.2; rw [HCG.out] at hO HN ⊢; clear HE)
      | (go_at_call 143; refine (made_itself _ _ _ _ _ _ _ (formD s (val xs) e) _ _ (fun W hW => HRB.out ▸ right1_calls _ s a len cap xs e W (h.keep (nbelow_trans (by repeat (first | exact hbw1 | apply Below.drew | refine Below.alloc ?_ (by have := hbw1.size; simp at this ⊢; omega) _)) hW)) hm (dcarry_cell hW (by first | (go_simp; done) | (refine dcarry_cell hbC ?_; go_simp; done))) (dcarry_cell hW (by first | (go_simp; done) | (refine dcarry_cell hbC ?_; go_simp; done))) (dcarry_cell hW (by first | (go_simp; done) | (refine dcarry_cell hbC ?_; go_simp; done)))) (fun W hW => Calls.mono (itself_calls _ _ _ _ _ _ _) (by
          rintro r w5 ⟨rfl, hb5⟩
          exact ⟨_, rfl, Or.inl ⟨HGR.out, ⟨ao, n, c, rfl, HN, HZ, hn, (hO.keep (nbelow_trans (by repeat (first | exact Below.refl _ _ | apply Below.drew | refine Below.alloc ?_ (by simp; try omega) _)) hW)).keep hb5⟩⟩, hb5⟩))).mono ?_; rintro r w2 ⟨v', rfl, ⟨a2, n2, c2, rfl, HN2, hn2, hO2⟩, hbM⟩; obtain ⟨m0, m1, m2, f0, f1, f2⟩ := zero_dy (r := w.heap.size + 1) (w := w.alloc (.cells #[.bool s, .slice a len cap, .int .i64 e] 26)) (W' := w2) (nbelow_trans (by repeat (first | exact hbz1 | apply Below.drew | refine Below.alloc ?_ (by have := hbz1.size; simp at this ⊢; omega) _)) hbM) (by simp); have hbw2 : Below w.heap.size w w2 := nbelow_trans (by repeat (first | exact hbw1 | apply Below.drew | refine Below.alloc ?_ (by have := hbw1.size; simp at this ⊢; omega) _)) hbM))
  all_goals
    go_wp2_with fail
    refine bodyPost_ret (v := .tuple #[dyV (roomP (formD s (val xs) e)).1 a2 n2 c2 (roomP (formD s (val xs) e)).2.2, .int .i64 (roomE (formD s (val xs) e))]) (by simp [results, Tryz.results108, go_sem, m0, m1, m2]) rfl ⟨_, rfl, ⟨a2, n2, c2, rfl, HN2, hn2, (((hO2.far _ _ (by show w.heap.size + 1 < _; have := hbz1.size; simp at this ⊢; omega)).far _ _ (by show w.heap.size + 1 < _; have := hbz1.size; simp at this ⊢; omega)).far _ _ (by show w.heap.size + 1 < _; have := hbz1.size; simp at this ⊢; omega)).low (by have := hbw1.size; simp; omega)⟩, ?_⟩
    exact ((hbw2.setCell (by show w.heap.size ≤ w.heap.size + 1; omega) _).setCell (by show w.heap.size ≤ w.heap.size + 1; omega) _).setCell (by show w.heap.size ≤ w.heap.size + 1; omega) _

end Go.Proofs.YtkkldnnndlpblaaGreatDoor

namespace Go.Proofs.YtkkldnnndlpblaaGreatDoor
open Go.RowKit

/-- What Canon answers. -/
def canE (s : Bool) (m : Nat) (e : Int) : Int := if rightB m e = true then roomE (formD s m e) else 2

def canP (s : Bool) (m : Nat) (e : Int) : Bool × Nat × Int := if rightB m e = true then roomP (formD s m e) else (false, 0, 0)

theorem canE_yes {s : Bool} {m : Nat} {e : Int} (h : rightB m e = true) : canE s m e = roomE (formD s m e) ∧ canP s m e = roomP (formD s m e) := by unfold canE canP; rw [if_pos h, if_pos h]; exact ⟨rfl, rfl⟩

theorem canE_not {s : Bool} {m : Nat} {e : Int} (h : rightB m e = false) : canE s m e = 2 ∧ canP s m e = (false, 0, 0) := by unfold canE canP; rw [if_neg (by rw [h]; decide), if_neg (by rw [h]; decide)]; exact ⟨rfl, rfl⟩

theorem words_len_mono {m n : Nat} (h : m ≤ n) : (wordsOf m).length ≤ (wordsOf n).length := (words_len _ m).2 (Nat.lt_of_le_of_lt h ((words_len _ n).1 (Nat.le_refl _)))

set_option maxRecDepth 100000 in
set_option maxHeartbeats 1000000 in
theorem pCanon_calls (s : Bool) (a : Option Addr) (len cap : Nat) (xs : List Int) (e : Int) (w : World) (h : IsW w a len cap xs) (hm : len ≤ 17592186044416) (hT : Tab w) :
    Calls Tryz.prog 108 #[dyV s a len cap e] w fun r w' => ∃ v', r = .returned (.tuple #[v', .int .i64 (canE s (val xs) e)]) ∧ DyAt w.heap.size w' v' (canP s (val xs) e) ∧ Below w.heap.size w w' := by
  cases hr : rightB (val xs) e with
  | false =>
    obtain ⟨e1, e2⟩ := canE_not (s := s) hr
    rw [e1, e2]
    refine (canon_not s a len cap xs e w h hm hT hr).mono ?_
    rintro r w' ⟨rfl, hb⟩
    exact ⟨_, rfl, dyAt_zero _ _, hb⟩
  | true =>
    obtain ⟨e1, e2⟩ := canE_yes (s := s) hr
    rw [e1, e2]
    exact canon_yes s a len cap xs e w h hm hT hr

end Go.Proofs.YtkkldnnndlpblaaGreatDoor

namespace Go.Proofs.YtkkldnnndlpblaaGreatDoor
open Go.RowKit

/-- Are two numbers the same, field by field? -/
def sameB (s : Bool) (e : Int) (xs : List Int) (s' : Bool) (e' : Int) (ys : List Int) : Bool := decide (s = s' ∧ e = e' ∧ xs = ys)

set_option maxRecDepth 100000 in
set_option maxHeartbeats 1000000 in
theorem qSame_calls (s : Bool) (a : Option Addr) (len cap : Nat) (xs : List Int) (e : Int) (s' : Bool) (a' : Option Addr) (len' cap' : Nat) (ys : List Int) (e' : Int) (w : World) (h : IsW w a len cap xs) (hm : len ≤ 17592186044416) (h' : IsW w a' len' cap' ys) (hm' : len' ≤ 17592186044416) :
    Calls Tryz.prog 34 #[dyV s a len cap e, dyV s' a' len' cap' e'] w fun r w' => r = .returned (.bool (sameB s e xs s' e' ys)) ∧ Below w.heap.size w w' := by
  have hb0 : Below w.heap.size w ((w.alloc (.cells #[.bool s, .slice a len cap, .int .i64 e] 26)).alloc (.cells #[.bool s', .slice a' len' cap', .int .i64 e'] 26)) := nbelow_trans (below_one _ _) (below_one _ _)
  have HS : Hid _ := nSame_calls a a' len cap len' cap' xs ys _ (h.keep hb0) (h'.keep hb0) hm hm'
  clear h h' hm hm'
  by_cases h1 : s = s'
  · subst h1
    have q1 : (s == s) = true := by cases s <;> rfl
    by_cases h2 : e = e'
    · subst h2
      have HD : Hid (sameB s e xs s e ys = decide (xs = ys)) := by rw [Hid, sameB]; exact decide_eq_decide.2 ⟨fun q => q.2.2, fun q => ⟨rfl, rfl, q⟩⟩
      generalize decide (xs = ys) = r at *
      go_enter Tryz.func34, Tryz.ntmps34
      go_wp2_with fail
      refine Calls.mono HS.out ?_
      rintro r w1 ⟨rfl, hb1⟩
      go_wp2_with fail
      go_ret
      exact ⟨nret_bool HD.out.symm, nbelow_trans hb0 hb1⟩
    · have HD : Hid (sameB s e xs s e' ys = false) := decide_eq_false (fun q => h2 q.2.1)
      have q2 : (e == e') = false := by simpa using h2
      clear h2
      go_enter Tryz.func34, Tryz.ntmps34
      go_wp2_with fail
      go_ret
      exact ⟨nret_bool HD.out.symm, hb0⟩
  · have HD : Hid (sameB s e xs s' e' ys = false) := decide_eq_false (fun q => h1 q.1)
    have q1 : (s == s') = false := by simpa using h1
    clear h1
    go_enter Tryz.func34, Tryz.ntmps34
    go_wp2_with fail
    go_ret
    exact ⟨nret_bool HD.out.symm, hb0⟩

end Go.Proofs.YtkkldnnndlpblaaGreatDoor

/- The walk of made: what a way makes of numbers that are right, if it has room. -/
import Derived.Test.YticjhheceoeilaaDoorDRight
namespace Go.Proofs.YticjhheceoeilaaDoor
open Go.RowKit

/-- What is handed out of what was reckoned, if it has room. -/
def roomB (p : Bool × Nat × Int) : Bool := !greatB p.2.1 && inB p.2.2
/-- What a way makes: a number, or one that is too great to be told. -/
def NumR (B : Nat) (w : World) (v : Value) (p : Bool × Nat × Int) : Prop := (greatB p.2.1 = false ∧ NumAt B w v p) ∨ (greatB p.2.1 = true ∧ v = numV false none 0 0 0 true)

set_option maxRecDepth 100000 in
set_option maxHeartbeats 2000000 in
theorem made_not (fv sl : Value) (w : World) (HR : ∀ W, Below w.heap.size w W → Calls Tryd.prog 28 #[sl] W fun r w' => r = .returned (.bool false) ∧ Below W.heap.size W w') :
    Calls Tryd.prog 24 #[fv, sl] w fun r w' => r = .returned (.tuple #[dyV false none 0 0 0, .int .i64 2]) ∧ Below w.heap.size w w' := by
  have H1 : Hid _ := HR _ (below_one w (.cells #[.bool false, .slice none 0 0, .int .i64 0] 25))
  clear HR
  go_enter Tryd.func24, Tryd.ntmps24
  go_wp2_with fail
  refine Calls.mono H1.out ?_
  rintro r w1 ⟨rfl, hb1⟩
  obtain ⟨m0, m1, m2, f0, f1, f2⟩ := zero_dy (r := w.heap.size) hb1 rfl
  go_wp2_with fail
  refine bodyPost_ret (v := .tuple #[dyV false none 0 0 0, .int .i64 2]) (by simp [results, Tryd.results24, go_sem, m0, m1, m2]) rfl ⟨rfl, ?_⟩
  exact (((nbelow_trans (below_one _ _) hb1).setCell (Nat.le_refl _) _).setCell (Nat.le_refl _) _).setCell (Nat.le_refl _) _

/-- The error and the number that are handed out of what was reckoned. -/
def roomE (p : Bool × Nat × Int) : Int := if roomB p = true then 0 else 3
def roomP (p : Bool × Nat × Int) : Bool × Nat × Int := if roomB p = true then p else (false, 0, 0)
theorem room_yes {p : Bool × Nat × Int} (hg : greatB p.2.1 = false) (hI : inB p.2.2 = true) : roomE p = 0 ∧ roomP p = p := by
  have h : roomB p = true := by unfold roomB; rw [hg, hI]; rfl
  unfold roomE roomP; rw [if_pos h, if_pos h]; exact ⟨rfl, rfl⟩
theorem room_no {p : Bool × Nat × Int} (hg : greatB p.2.1 = true ∨ inB p.2.2 = false) : roomE p = 3 ∧ roomP p = (false, 0, 0) := by
  have h : ¬ roomB p = true := by
    unfold roomB
    rcases hg with q | q <;> rw [q] <;> simp
  unfold roomE roomP; rw [if_neg h, if_neg h]; exact ⟨rfl, rfl⟩

set_option maxRecDepth 100000 in
set_option maxHeartbeats 2000000 in
theorem made_itself (s : Bool) (a : Option Addr) (n c : Nat) (e : Int) (g : Bool) (B : Nat) (p : Bool × Nat × Int) (sl : Value) (w : World) (HR : ∀ W, Below w.heap.size w W → Calls Tryd.prog 28 #[sl] W fun r w' => r = .returned (.bool true) ∧ Below W.heap.size W w')
    (HW : ∀ W, Below w.heap.size w W → Calls Tryd.prog 26 #[numV s a n c e g] W fun r w' => ∃ v, r = .returned v ∧ NumR B w' v p ∧ Below W.heap.size W w') :
    Calls Tryd.prog 24 #[.func (.func 26) #[numV s a n c e g] #[], sl] w fun r w' => ∃ v', r = .returned (.tuple #[v', .int .i64 (roomE p)]) ∧ DyAt w.heap.size w' v' (roomP p) ∧ Below w.heap.size w w' := by
  have H1 : Hid _ := HR _ (below_one w (.cells #[.bool false, .slice none 0 0, .int .i64 0] 25))
  have HW1 : Hid _ := HW
  clear HR HW
  go_enter Tryd.func24, Tryd.ntmps24
  go_wp2_with fail
  refine Calls.mono H1.out ?_
  rintro r w1 ⟨rfl, hb1⟩
  have hb01 := nbelow_trans (below_one w (.cells #[.bool false, .slice none 0 0, .int .i64 0] 25)) hb1
  clear H1
  go_wp2_with fail
  refine Calls.mono (HW1.out _ hb01) ?_
  rintro r w2 ⟨v, rfl, hN, hb2⟩
  have hb02 := nbelow_trans hb01 hb2
  have hb12 := nbelow_trans hb1 hb2
  clear HW1 hb01 hb1 hb2
  rcases hN with ⟨hg, hN⟩ | ⟨hg, rfl⟩
  · obtain ⟨ao, nn, cc, rfl, h1, h2, h3, h4⟩ := hN
    go_wp2_with fail
    refine Calls.mono (hasRoom_calls _ _ _ _ _ _ _) ?_
    rintro r w3 ⟨rfl, rfl⟩
    have hb3 : Below w2.heap.size w2 ((w2.alloc (.cells #[.bool p.1, .slice ao nn cc, .int .i64 p.2.2, .bool false] 52)).alloc (.cells #[.bool p.1, .slice ao nn cc, .int .i64 p.2.2, .bool false] 52)) := nbelow_trans (below_one _ _) (below_one _ _)
    have hb13 := nbelow_trans hb12 hb3
    have hb03 := nbelow_trans hb02 hb3
    obtain ⟨m0, m1, m2, f0, f1, f2⟩ := zero_dy (r := w.heap.size) hb13 rfl
    cases hI : inB p.2.2 with
    | true =>
      have HE : Hid (roomE p = 0 ∧ roomP p = p) := room_yes hg hI
      have TC : Hid _ := told_calls B (numV p.1 ao nn cc p.2.2 false) p _ ((show NumAt B w2 _ p from ⟨ao, nn, cc, rfl, h1, h2, h3, h4⟩).keep hb3)
      clear hI hg h4
      go_wp2_with fail
      refine Calls.mono TC.out ?_
      rintro r w4 ⟨v', rfl, hD, hb4⟩
      obtain ⟨a4, n4, c4, rfl, i1, i2, i3⟩ := hD
      have hb14 := nbelow_trans hb13 hb4
      have hb04 := nbelow_trans hb03 hb4
      have hsz : w.heap.size < w2.heap.size := by have := hb12.size; simp at this; omega
      clear m0 m1 m2 f0 f1 f2 TC
      obtain ⟨m0, m1, m2, f0, f1, f2⟩ := zero_dy (r := w.heap.size) hb14 rfl
      clear hb12 hb13 hb14 hb3 hb4 hb03 hb02
      go_wp2_with fail
      refine bodyPost_ret (v := .tuple #[dyV p.1 a4 n4 c4 p.2.2, .int .i64 0]) (by simp [results, Tryd.results24, go_sem, m0, m1, m2]) rfl ⟨dyV p.1 a4 n4 c4 p.2.2, by rw [HE.out.1], ?_, ?_⟩
      · rw [HE.out.2]
        simp only [World.size_alloc] at i3
        exact ⟨a4, n4, c4, rfl, i1, i2, (((i3.far _ _ (by show w.heap.size < _; omega)).far _ _ (by show w.heap.size < _; omega)).far _ _ (by show w.heap.size < _; omega)).low (by omega)⟩
      · exact ((hb04.setCell (Nat.le_refl _) _).setCell (Nat.le_refl _) _).setCell (Nat.le_refl _) _
    | false =>
      have HE : Hid (roomE p = 3 ∧ roomP p = (false, 0, 0)) := room_no (Or.inr hI)
      clear hI hg h4
      go_wp2_with fail
      refine bodyPost_ret (v := .tuple #[dyV false none 0 0 0, .int .i64 3]) (by simp [results, Tryd.results24, go_sem, m0, m1, m2]) rfl ⟨dyV false none 0 0 0, by rw [HE.out.1], by rw [HE.out.2]; exact dyAt_zero _ _, ?_⟩
      exact ((hb03.setCell (Nat.le_refl _) _).setCell (Nat.le_refl _) _).setCell (Nat.le_refl _) _
  · have HE : Hid (roomE p = 3 ∧ roomP p = (false, 0, 0)) := room_no (Or.inl hg)
    clear hg
    go_wp2_with fail
    refine Calls.mono (hasRoom_calls _ _ _ _ _ _ _) ?_
    rintro r w3 ⟨rfl, rfl⟩
    have hb3 : Below w2.heap.size w2 ((w2.alloc (.cells #[.bool false, .slice none 0 0, .int .i64 0, .bool true] 52)).alloc (.cells #[.bool false, .slice none 0 0, .int .i64 0, .bool true] 52)) := nbelow_trans (below_one _ _) (below_one _ _)
    have hb13 := nbelow_trans hb12 hb3
    have hb03 := nbelow_trans hb02 hb3
    obtain ⟨m0, m1, m2, f0, f1, f2⟩ := zero_dy (r := w.heap.size) hb13 rfl
    go_wp2_with fail
    refine bodyPost_ret (v := .tuple #[dyV false none 0 0 0, .int .i64 3]) (by simp [results, Tryd.results24, go_sem, m0, m1, m2]) rfl ⟨dyV false none 0 0 0, by rw [HE.out.1], by rw [HE.out.2]; exact dyAt_zero _ _, ?_⟩
    exact ((hb03.setCell (Nat.le_refl _) _).setCell (Nat.le_refl _) _).setCell (Nat.le_refl _) _

set_option maxRecDepth 100000 in
set_option maxHeartbeats 2000000 in
theorem made_negated (s : Bool) (a : Option Addr) (n c : Nat) (e : Int) (g : Bool) (B : Nat) (p : Bool × Nat × Int) (sl : Value) (w : World) (HR : ∀ W, Below w.heap.size w W → Calls Tryd.prog 28 #[sl] W fun r w' => r = .returned (.bool true) ∧ Below W.heap.size W w')
    (HW : ∀ W, Below w.heap.size w W → Calls Tryd.prog 50 #[numV s a n c e g] W fun r w' => ∃ v, r = .returned v ∧ NumR B w' v p ∧ Below W.heap.size W w') :
    Calls Tryd.prog 24 #[.func (.func 50) #[numV s a n c e g] #[], sl] w fun r w' => ∃ v', r = .returned (.tuple #[v', .int .i64 (roomE p)]) ∧ DyAt w.heap.size w' v' (roomP p) ∧ Below w.heap.size w w' := by
  have H1 : Hid _ := HR _ (below_one w (.cells #[.bool false, .slice none 0 0, .int .i64 0] 25))
  have HW1 : Hid _ := HW
  clear HR HW
  go_enter Tryd.func24, Tryd.ntmps24
  go_wp2_with fail
  refine Calls.mono H1.out ?_
  rintro r w1 ⟨rfl, hb1⟩
  have hb01 := nbelow_trans (below_one w (.cells #[.bool false, .slice none 0 0, .int .i64 0] 25)) hb1
  clear H1
  go_wp2_with fail
  refine Calls.mono (HW1.out _ hb01) ?_
  rintro r w2 ⟨v, rfl, hN, hb2⟩
  have hb02 := nbelow_trans hb01 hb2
  have hb12 := nbelow_trans hb1 hb2
  clear HW1 hb01 hb1 hb2
  rcases hN with ⟨hg, hN⟩ | ⟨hg, rfl⟩
  · obtain ⟨ao, nn, cc, rfl, h1, h2, h3, h4⟩ := hN
    go_wp2_with fail
    refine Calls.mono (hasRoom_calls _ _ _ _ _ _ _) ?_
    rintro r w3 ⟨rfl, rfl⟩
    have hb3 : Below w2.heap.size w2 ((w2.alloc (.cells #[.bool p.1, .slice ao nn cc, .int .i64 p.2.2, .bool false] 52)).alloc (.cells #[.bool p.1, .slice ao nn cc, .int .i64 p.2.2, .bool false] 52)) := nbelow_trans (below_one _ _) (below_one _ _)
    have hb13 := nbelow_trans hb12 hb3
    have hb03 := nbelow_trans hb02 hb3
    obtain ⟨m0, m1, m2, f0, f1, f2⟩ := zero_dy (r := w.heap.size) hb13 rfl
    cases hI : inB p.2.2 with
    | true =>
      have HE : Hid (roomE p = 0 ∧ roomP p = p) := room_yes hg hI
      have TC : Hid _ := told_calls B (numV p.1 ao nn cc p.2.2 false) p _ ((show NumAt B w2 _ p from ⟨ao, nn, cc, rfl, h1, h2, h3, h4⟩).keep hb3)
      clear hI hg h4
      go_wp2_with fail
      refine Calls.mono TC.out ?_
      rintro r w4 ⟨v', rfl, hD, hb4⟩
      obtain ⟨a4, n4, c4, rfl, i1, i2, i3⟩ := hD
      have hb14 := nbelow_trans hb13 hb4
      have hb04 := nbelow_trans hb03 hb4
      have hsz : w.heap.size < w2.heap.size := by have := hb12.size; simp at this; omega
      clear m0 m1 m2 f0 f1 f2 TC
      obtain ⟨m0, m1, m2, f0, f1, f2⟩ := zero_dy (r := w.heap.size) hb14 rfl
      clear hb12 hb13 hb14 hb3 hb4 hb03 hb02
      go_wp2_with fail
      refine bodyPost_ret (v := .tuple #[dyV p.1 a4 n4 c4 p.2.2, .int .i64 0]) (by simp [results, Tryd.results24, go_sem, m0, m1, m2]) rfl ⟨dyV p.1 a4 n4 c4 p.2.2, by rw [HE.out.1], ?_, ?_⟩
      · rw [HE.out.2]
        simp only [World.size_alloc] at i3
        exact ⟨a4, n4, c4, rfl, i1, i2, (((i3.far _ _ (by show w.heap.size < _; omega)).far _ _ (by show w.heap.size < _; omega)).far _ _ (by show w.heap.size < _; omega)).low (by omega)⟩
      · exact ((hb04.setCell (Nat.le_refl _) _).setCell (Nat.le_refl _) _).setCell (Nat.le_refl _) _
    | false =>
      have HE : Hid (roomE p = 3 ∧ roomP p = (false, 0, 0)) := room_no (Or.inr hI)
      clear hI hg h4
      go_wp2_with fail
      refine bodyPost_ret (v := .tuple #[dyV false none 0 0 0, .int .i64 3]) (by simp [results, Tryd.results24, go_sem, m0, m1, m2]) rfl ⟨dyV false none 0 0 0, by rw [HE.out.1], by rw [HE.out.2]; exact dyAt_zero _ _, ?_⟩
      exact ((hb03.setCell (Nat.le_refl _) _).setCell (Nat.le_refl _) _).setCell (Nat.le_refl _) _
  · have HE : Hid (roomE p = 3 ∧ roomP p = (false, 0, 0)) := room_no (Or.inl hg)
    clear hg
    go_wp2_with fail
    refine Calls.mono (hasRoom_calls _ _ _ _ _ _ _) ?_
    rintro r w3 ⟨rfl, rfl⟩
    have hb3 : Below w2.heap.size w2 ((w2.alloc (.cells #[.bool false, .slice none 0 0, .int .i64 0, .bool true] 52)).alloc (.cells #[.bool false, .slice none 0 0, .int .i64 0, .bool true] 52)) := nbelow_trans (below_one _ _) (below_one _ _)
    have hb13 := nbelow_trans hb12 hb3
    have hb03 := nbelow_trans hb02 hb3
    obtain ⟨m0, m1, m2, f0, f1, f2⟩ := zero_dy (r := w.heap.size) hb13 rfl
    go_wp2_with fail
    refine bodyPost_ret (v := .tuple #[dyV false none 0 0 0, .int .i64 3]) (by simp [results, Tryd.results24, go_sem, m0, m1, m2]) rfl ⟨dyV false none 0 0 0, by rw [HE.out.1], by rw [HE.out.2]; exact dyAt_zero _ _, ?_⟩
    exact ((hb03.setCell (Nat.le_refl _) _).setCell (Nat.le_refl _) _).setCell (Nat.le_refl _) _

set_option maxRecDepth 100000 in
set_option maxHeartbeats 2000000 in
theorem made_Add (b1 b2 : Nat) (B : Nat) (p : Bool × Nat × Int) (sl : Value) (w : World) (HR : ∀ W, Below w.heap.size w W → Calls Tryd.prog 28 #[sl] W fun r w' => r = .returned (.bool true) ∧ Below W.heap.size W w')
    (HW : ∀ W, Below w.heap.size w W → Calls Tryd.prog 31 #[.pointer (some ⟨b1, 0, none⟩), .pointer (some ⟨b2, 0, none⟩)] W fun r w' => ∃ v, r = .returned v ∧ NumR B w' v p ∧ Below W.heap.size W w') :
    Calls Tryd.prog 24 #[.func (.func 31) #[] #[.pointer (some ⟨b1, 0, none⟩), .pointer (some ⟨b2, 0, none⟩)], sl] w fun r w' => ∃ v', r = .returned (.tuple #[v', .int .i64 (roomE p)]) ∧ DyAt w.heap.size w' v' (roomP p) ∧ Below w.heap.size w w' := by
  have H1 : Hid _ := HR _ (below_one w (.cells #[.bool false, .slice none 0 0, .int .i64 0] 25))
  have HW1 : Hid _ := HW
  clear HR HW
  go_enter Tryd.func24, Tryd.ntmps24
  go_wp2_with fail
  refine Calls.mono H1.out ?_
  rintro r w1 ⟨rfl, hb1⟩
  have hb01 := nbelow_trans (below_one w (.cells #[.bool false, .slice none 0 0, .int .i64 0] 25)) hb1
  clear H1
  go_wp2_with fail
  refine Calls.mono (HW1.out _ hb01) ?_
  rintro r w2 ⟨v, rfl, hN, hb2⟩
  have hb02 := nbelow_trans hb01 hb2
  have hb12 := nbelow_trans hb1 hb2
  clear HW1 hb01 hb1 hb2
  rcases hN with ⟨hg, hN⟩ | ⟨hg, rfl⟩
  · obtain ⟨ao, nn, cc, rfl, h1, h2, h3, h4⟩ := hN
    go_wp2_with fail
    refine Calls.mono (hasRoom_calls _ _ _ _ _ _ _) ?_
    rintro r w3 ⟨rfl, rfl⟩
    have hb3 : Below w2.heap.size w2 ((w2.alloc (.cells #[.bool p.1, .slice ao nn cc, .int .i64 p.2.2, .bool false] 52)).alloc (.cells #[.bool p.1, .slice ao nn cc, .int .i64 p.2.2, .bool false] 52)) := nbelow_trans (below_one _ _) (below_one _ _)
    have hb13 := nbelow_trans hb12 hb3
    have hb03 := nbelow_trans hb02 hb3
    obtain ⟨m0, m1, m2, f0, f1, f2⟩ := zero_dy (r := w.heap.size) hb13 rfl
    cases hI : inB p.2.2 with
    | true =>
      have HE : Hid (roomE p = 0 ∧ roomP p = p) := room_yes hg hI
      have TC : Hid _ := told_calls B (numV p.1 ao nn cc p.2.2 false) p _ ((show NumAt B w2 _ p from ⟨ao, nn, cc, rfl, h1, h2, h3, h4⟩).keep hb3)
      clear hI hg h4
      go_wp2_with fail
      refine Calls.mono TC.out ?_
      rintro r w4 ⟨v', rfl, hD, hb4⟩
      obtain ⟨a4, n4, c4, rfl, i1, i2, i3⟩ := hD
      have hb14 := nbelow_trans hb13 hb4
      have hb04 := nbelow_trans hb03 hb4
      have hsz : w.heap.size < w2.heap.size := by have := hb12.size; simp at this; omega
      clear m0 m1 m2 f0 f1 f2 TC
      obtain ⟨m0, m1, m2, f0, f1, f2⟩ := zero_dy (r := w.heap.size) hb14 rfl
      clear hb12 hb13 hb14 hb3 hb4 hb03 hb02
      go_wp2_with fail
      refine bodyPost_ret (v := .tuple #[dyV p.1 a4 n4 c4 p.2.2, .int .i64 0]) (by simp [results, Tryd.results24, go_sem, m0, m1, m2]) rfl ⟨dyV p.1 a4 n4 c4 p.2.2, by rw [HE.out.1], ?_, ?_⟩
      · rw [HE.out.2]
        simp only [World.size_alloc] at i3
        exact ⟨a4, n4, c4, rfl, i1, i2, (((i3.far _ _ (by show w.heap.size < _; omega)).far _ _ (by show w.heap.size < _; omega)).far _ _ (by show w.heap.size < _; omega)).low (by omega)⟩
      · exact ((hb04.setCell (Nat.le_refl _) _).setCell (Nat.le_refl _) _).setCell (Nat.le_refl _) _
    | false =>
      have HE : Hid (roomE p = 3 ∧ roomP p = (false, 0, 0)) := room_no (Or.inr hI)
      clear hI hg h4
      go_wp2_with fail
      refine bodyPost_ret (v := .tuple #[dyV false none 0 0 0, .int .i64 3]) (by simp [results, Tryd.results24, go_sem, m0, m1, m2]) rfl ⟨dyV false none 0 0 0, by rw [HE.out.1], by rw [HE.out.2]; exact dyAt_zero _ _, ?_⟩
      exact ((hb03.setCell (Nat.le_refl _) _).setCell (Nat.le_refl _) _).setCell (Nat.le_refl _) _
  · have HE : Hid (roomE p = 3 ∧ roomP p = (false, 0, 0)) := room_no (Or.inl hg)
    clear hg
    go_wp2_with fail
    refine Calls.mono (hasRoom_calls _ _ _ _ _ _ _) ?_
    rintro r w3 ⟨rfl, rfl⟩
    have hb3 : Below w2.heap.size w2 ((w2.alloc (.cells #[.bool false, .slice none 0 0, .int .i64 0, .bool true] 52)).alloc (.cells #[.bool false, .slice none 0 0, .int .i64 0, .bool true] 52)) := nbelow_trans (below_one _ _) (below_one _ _)
    have hb13 := nbelow_trans hb12 hb3
    have hb03 := nbelow_trans hb02 hb3
    obtain ⟨m0, m1, m2, f0, f1, f2⟩ := zero_dy (r := w.heap.size) hb13 rfl
    go_wp2_with fail
    refine bodyPost_ret (v := .tuple #[dyV false none 0 0 0, .int .i64 3]) (by simp [results, Tryd.results24, go_sem, m0, m1, m2]) rfl ⟨dyV false none 0 0 0, by rw [HE.out.1], by rw [HE.out.2]; exact dyAt_zero _ _, ?_⟩
    exact ((hb03.setCell (Nat.le_refl _) _).setCell (Nat.le_refl _) _).setCell (Nat.le_refl _) _

set_option maxRecDepth 100000 in
set_option maxHeartbeats 2000000 in
theorem made_Sub (b1 b2 : Nat) (B : Nat) (p : Bool × Nat × Int) (sl : Value) (w : World) (HR : ∀ W, Below w.heap.size w W → Calls Tryd.prog 28 #[sl] W fun r w' => r = .returned (.bool true) ∧ Below W.heap.size W w')
    (HW : ∀ W, Below w.heap.size w W → Calls Tryd.prog 49 #[.pointer (some ⟨b1, 0, none⟩), .pointer (some ⟨b2, 0, none⟩)] W fun r w' => ∃ v, r = .returned v ∧ NumR B w' v p ∧ Below W.heap.size W w') :
    Calls Tryd.prog 24 #[.func (.func 49) #[] #[.pointer (some ⟨b1, 0, none⟩), .pointer (some ⟨b2, 0, none⟩)], sl] w fun r w' => ∃ v', r = .returned (.tuple #[v', .int .i64 (roomE p)]) ∧ DyAt w.heap.size w' v' (roomP p) ∧ Below w.heap.size w w' := by
  have H1 : Hid _ := HR _ (below_one w (.cells #[.bool false, .slice none 0 0, .int .i64 0] 25))
  have HW1 : Hid _ := HW
  clear HR HW
  go_enter Tryd.func24, Tryd.ntmps24
  go_wp2_with fail
  refine Calls.mono H1.out ?_
  rintro r w1 ⟨rfl, hb1⟩
  have hb01 := nbelow_trans (below_one w (.cells #[.bool false, .slice none 0 0, .int .i64 0] 25)) hb1
  clear H1
  go_wp2_with fail
  refine Calls.mono (HW1.out _ hb01) ?_
  rintro r w2 ⟨v, rfl, hN, hb2⟩
  have hb02 := nbelow_trans hb01 hb2
  have hb12 := nbelow_trans hb1 hb2
  clear HW1 hb01 hb1 hb2
  rcases hN with ⟨hg, hN⟩ | ⟨hg, rfl⟩
  · obtain ⟨ao, nn, cc, rfl, h1, h2, h3, h4⟩ := hN
    go_wp2_with fail
    refine Calls.mono (hasRoom_calls _ _ _ _ _ _ _) ?_
    rintro r w3 ⟨rfl, rfl⟩
    have hb3 : Below w2.heap.size w2 ((w2.alloc (.cells #[.bool p.1, .slice ao nn cc, .int .i64 p.2.2, .bool false] 52)).alloc (.cells #[.bool p.1, .slice ao nn cc, .int .i64 p.2.2, .bool false] 52)) := nbelow_trans (below_one _ _) (below_one _ _)
    have hb13 := nbelow_trans hb12 hb3
    have hb03 := nbelow_trans hb02 hb3
    obtain ⟨m0, m1, m2, f0, f1, f2⟩ := zero_dy (r := w.heap.size) hb13 rfl
    cases hI : inB p.2.2 with
    | true =>
      have HE : Hid (roomE p = 0 ∧ roomP p = p) := room_yes hg hI
      have TC : Hid _ := told_calls B (numV p.1 ao nn cc p.2.2 false) p _ ((show NumAt B w2 _ p from ⟨ao, nn, cc, rfl, h1, h2, h3, h4⟩).keep hb3)
      clear hI hg h4
      go_wp2_with fail
      refine Calls.mono TC.out ?_
      rintro r w4 ⟨v', rfl, hD, hb4⟩
      obtain ⟨a4, n4, c4, rfl, i1, i2, i3⟩ := hD
      have hb14 := nbelow_trans hb13 hb4
      have hb04 := nbelow_trans hb03 hb4
      have hsz : w.heap.size < w2.heap.size := by have := hb12.size; simp at this; omega
      clear m0 m1 m2 f0 f1 f2 TC
      obtain ⟨m0, m1, m2, f0, f1, f2⟩ := zero_dy (r := w.heap.size) hb14 rfl
      clear hb12 hb13 hb14 hb3 hb4 hb03 hb02
      go_wp2_with fail
      refine bodyPost_ret (v := .tuple #[dyV p.1 a4 n4 c4 p.2.2, .int .i64 0]) (by simp [results, Tryd.results24, go_sem, m0, m1, m2]) rfl ⟨dyV p.1 a4 n4 c4 p.2.2, by rw [HE.out.1], ?_, ?_⟩
      · rw [HE.out.2]
        simp only [World.size_alloc] at i3
        exact ⟨a4, n4, c4, rfl, i1, i2, (((i3.far _ _ (by show w.heap.size < _; omega)).far _ _ (by show w.heap.size < _; omega)).far _ _ (by show w.heap.size < _; omega)).low (by omega)⟩
      · exact ((hb04.setCell (Nat.le_refl _) _).setCell (Nat.le_refl _) _).setCell (Nat.le_refl _) _
    | false =>
      have HE : Hid (roomE p = 3 ∧ roomP p = (false, 0, 0)) := room_no (Or.inr hI)
      clear hI hg h4
      go_wp2_with fail
      refine bodyPost_ret (v := .tuple #[dyV false none 0 0 0, .int .i64 3]) (by simp [results, Tryd.results24, go_sem, m0, m1, m2]) rfl ⟨dyV false none 0 0 0, by rw [HE.out.1], by rw [HE.out.2]; exact dyAt_zero _ _, ?_⟩
      exact ((hb03.setCell (Nat.le_refl _) _).setCell (Nat.le_refl _) _).setCell (Nat.le_refl _) _
  · have HE : Hid (roomE p = 3 ∧ roomP p = (false, 0, 0)) := room_no (Or.inl hg)
    clear hg
    go_wp2_with fail
    refine Calls.mono (hasRoom_calls _ _ _ _ _ _ _) ?_
    rintro r w3 ⟨rfl, rfl⟩
    have hb3 : Below w2.heap.size w2 ((w2.alloc (.cells #[.bool false, .slice none 0 0, .int .i64 0, .bool true] 52)).alloc (.cells #[.bool false, .slice none 0 0, .int .i64 0, .bool true] 52)) := nbelow_trans (below_one _ _) (below_one _ _)
    have hb13 := nbelow_trans hb12 hb3
    have hb03 := nbelow_trans hb02 hb3
    obtain ⟨m0, m1, m2, f0, f1, f2⟩ := zero_dy (r := w.heap.size) hb13 rfl
    go_wp2_with fail
    refine bodyPost_ret (v := .tuple #[dyV false none 0 0 0, .int .i64 3]) (by simp [results, Tryd.results24, go_sem, m0, m1, m2]) rfl ⟨dyV false none 0 0 0, by rw [HE.out.1], by rw [HE.out.2]; exact dyAt_zero _ _, ?_⟩
    exact ((hb03.setCell (Nat.le_refl _) _).setCell (Nat.le_refl _) _).setCell (Nat.le_refl _) _

set_option maxRecDepth 100000 in
set_option maxHeartbeats 2000000 in
theorem made_Mul (b1 b2 : Nat) (B : Nat) (p : Bool × Nat × Int) (sl : Value) (w : World) (HR : ∀ W, Below w.heap.size w W → Calls Tryd.prog 28 #[sl] W fun r w' => r = .returned (.bool true) ∧ Below W.heap.size W w')
    (HW : ∀ W, Below w.heap.size w W → Calls Tryd.prog 44 #[.pointer (some ⟨b1, 0, none⟩), .pointer (some ⟨b2, 0, none⟩)] W fun r w' => ∃ v, r = .returned v ∧ NumR B w' v p ∧ Below W.heap.size W w') :
    Calls Tryd.prog 24 #[.func (.func 44) #[] #[.pointer (some ⟨b1, 0, none⟩), .pointer (some ⟨b2, 0, none⟩)], sl] w fun r w' => ∃ v', r = .returned (.tuple #[v', .int .i64 (roomE p)]) ∧ DyAt w.heap.size w' v' (roomP p) ∧ Below w.heap.size w w' := by
  have H1 : Hid _ := HR _ (below_one w (.cells #[.bool false, .slice none 0 0, .int .i64 0] 25))
  have HW1 : Hid _ := HW
  clear HR HW
  go_enter Tryd.func24, Tryd.ntmps24
  go_wp2_with fail
  refine Calls.mono H1.out ?_
  rintro r w1 ⟨rfl, hb1⟩
  have hb01 := nbelow_trans (below_one w (.cells #[.bool false, .slice none 0 0, .int .i64 0] 25)) hb1
  clear H1
  go_wp2_with fail
  refine Calls.mono (HW1.out _ hb01) ?_
  rintro r w2 ⟨v, rfl, hN, hb2⟩
  have hb02 := nbelow_trans hb01 hb2
  have hb12 := nbelow_trans hb1 hb2
  clear HW1 hb01 hb1 hb2
  rcases hN with ⟨hg, hN⟩ | ⟨hg, rfl⟩
  · obtain ⟨ao, nn, cc, rfl, h1, h2, h3, h4⟩ := hN
    go_wp2_with fail
    refine Calls.mono (hasRoom_calls _ _ _ _ _ _ _) ?_
    rintro r w3 ⟨rfl, rfl⟩
    have hb3 : Below w2.heap.size w2 ((w2.alloc (.cells #[.bool p.1, .slice ao nn cc, .int .i64 p.2.2, .bool false] 52)).alloc (.cells #[.bool p.1, .slice ao nn cc, .int .i64 p.2.2, .bool false] 52)) := nbelow_trans (below_one _ _) (below_one _ _)
    have hb13 := nbelow_trans hb12 hb3
    have hb03 := nbelow_trans hb02 hb3
    obtain ⟨m0, m1, m2, f0, f1, f2⟩ := zero_dy (r := w.heap.size) hb13 rfl
    cases hI : inB p.2.2 with
    | true =>
      have HE : Hid (roomE p = 0 ∧ roomP p = p) := room_yes hg hI
      have TC : Hid _ := told_calls B (numV p.1 ao nn cc p.2.2 false) p _ ((show NumAt B w2 _ p from ⟨ao, nn, cc, rfl, h1, h2, h3, h4⟩).keep hb3)
      clear hI hg h4
      go_wp2_with fail
      refine Calls.mono TC.out ?_
      rintro r w4 ⟨v', rfl, hD, hb4⟩
      obtain ⟨a4, n4, c4, rfl, i1, i2, i3⟩ := hD
      have hb14 := nbelow_trans hb13 hb4
      have hb04 := nbelow_trans hb03 hb4
      have hsz : w.heap.size < w2.heap.size := by have := hb12.size; simp at this; omega
      clear m0 m1 m2 f0 f1 f2 TC
      obtain ⟨m0, m1, m2, f0, f1, f2⟩ := zero_dy (r := w.heap.size) hb14 rfl
      clear hb12 hb13 hb14 hb3 hb4 hb03 hb02
      go_wp2_with fail
      refine bodyPost_ret (v := .tuple #[dyV p.1 a4 n4 c4 p.2.2, .int .i64 0]) (by simp [results, Tryd.results24, go_sem, m0, m1, m2]) rfl ⟨dyV p.1 a4 n4 c4 p.2.2, by rw [HE.out.1], ?_, ?_⟩
      · rw [HE.out.2]
        simp only [World.size_alloc] at i3
        exact ⟨a4, n4, c4, rfl, i1, i2, (((i3.far _ _ (by show w.heap.size < _; omega)).far _ _ (by show w.heap.size < _; omega)).far _ _ (by show w.heap.size < _; omega)).low (by omega)⟩
      · exact ((hb04.setCell (Nat.le_refl _) _).setCell (Nat.le_refl _) _).setCell (Nat.le_refl _) _
    | false =>
      have HE : Hid (roomE p = 3 ∧ roomP p = (false, 0, 0)) := room_no (Or.inr hI)
      clear hI hg h4
      go_wp2_with fail
      refine bodyPost_ret (v := .tuple #[dyV false none 0 0 0, .int .i64 3]) (by simp [results, Tryd.results24, go_sem, m0, m1, m2]) rfl ⟨dyV false none 0 0 0, by rw [HE.out.1], by rw [HE.out.2]; exact dyAt_zero _ _, ?_⟩
      exact ((hb03.setCell (Nat.le_refl _) _).setCell (Nat.le_refl _) _).setCell (Nat.le_refl _) _
  · have HE : Hid (roomE p = 3 ∧ roomP p = (false, 0, 0)) := room_no (Or.inl hg)
    clear hg
    go_wp2_with fail
    refine Calls.mono (hasRoom_calls _ _ _ _ _ _ _) ?_
    rintro r w3 ⟨rfl, rfl⟩
    have hb3 : Below w2.heap.size w2 ((w2.alloc (.cells #[.bool false, .slice none 0 0, .int .i64 0, .bool true] 52)).alloc (.cells #[.bool false, .slice none 0 0, .int .i64 0, .bool true] 52)) := nbelow_trans (below_one _ _) (below_one _ _)
    have hb13 := nbelow_trans hb12 hb3
    have hb03 := nbelow_trans hb02 hb3
    obtain ⟨m0, m1, m2, f0, f1, f2⟩ := zero_dy (r := w.heap.size) hb13 rfl
    go_wp2_with fail
    refine bodyPost_ret (v := .tuple #[dyV false none 0 0 0, .int .i64 3]) (by simp [results, Tryd.results24, go_sem, m0, m1, m2]) rfl ⟨dyV false none 0 0 0, by rw [HE.out.1], by rw [HE.out.2]; exact dyAt_zero _ _, ?_⟩
    exact ((hb03.setCell (Nat.le_refl _) _).setCell (Nat.le_refl _) _).setCell (Nat.le_refl _) _

set_option maxRecDepth 100000 in
set_option maxHeartbeats 2000000 in
theorem made_Cut (b1 b2 b3 : Nat) (B : Nat) (p : Bool × Nat × Int) (sl : Value) (w : World) (HR : ∀ W, Below w.heap.size w W → Calls Tryd.prog 28 #[sl] W fun r w' => r = .returned (.bool true) ∧ Below W.heap.size W w')
    (HW : ∀ W, Below w.heap.size w W → Calls Tryd.prog 33 #[.pointer (some ⟨b1, 0, none⟩), .pointer (some ⟨b2, 0, none⟩), .pointer (some ⟨b3, 0, none⟩)] W fun r w' => ∃ v, r = .returned v ∧ NumR B w' v p ∧ Below W.heap.size W w') :
    Calls Tryd.prog 24 #[.func (.func 33) #[] #[.pointer (some ⟨b1, 0, none⟩), .pointer (some ⟨b2, 0, none⟩), .pointer (some ⟨b3, 0, none⟩)], sl] w fun r w' => ∃ v', r = .returned (.tuple #[v', .int .i64 (roomE p)]) ∧ DyAt w.heap.size w' v' (roomP p) ∧ Below w.heap.size w w' := by
  have H1 : Hid _ := HR _ (below_one w (.cells #[.bool false, .slice none 0 0, .int .i64 0] 25))
  have HW1 : Hid _ := HW
  clear HR HW
  go_enter Tryd.func24, Tryd.ntmps24
  go_wp2_with fail
  refine Calls.mono H1.out ?_
  rintro r w1 ⟨rfl, hb1⟩
  have hb01 := nbelow_trans (below_one w (.cells #[.bool false, .slice none 0 0, .int .i64 0] 25)) hb1
  clear H1
  go_wp2_with fail
  refine Calls.mono (HW1.out _ hb01) ?_
  rintro r w2 ⟨v, rfl, hN, hb2⟩
  have hb02 := nbelow_trans hb01 hb2
  have hb12 := nbelow_trans hb1 hb2
  clear HW1 hb01 hb1 hb2
  rcases hN with ⟨hg, hN⟩ | ⟨hg, rfl⟩
  · obtain ⟨ao, nn, cc, rfl, h1, h2, h3, h4⟩ := hN
    go_wp2_with fail
    refine Calls.mono (hasRoom_calls _ _ _ _ _ _ _) ?_
    rintro r w3 ⟨rfl, rfl⟩
    have hb3 : Below w2.heap.size w2 ((w2.alloc (.cells #[.bool p.1, .slice ao nn cc, .int .i64 p.2.2, .bool false] 52)).alloc (.cells #[.bool p.1, .slice ao nn cc, .int .i64 p.2.2, .bool false] 52)) := nbelow_trans (below_one _ _) (below_one _ _)
    have hb13 := nbelow_trans hb12 hb3
    have hb03 := nbelow_trans hb02 hb3
    obtain ⟨m0, m1, m2, f0, f1, f2⟩ := zero_dy (r := w.heap.size) hb13 rfl
    cases hI : inB p.2.2 with
    | true =>
      have HE : Hid (roomE p = 0 ∧ roomP p = p) := room_yes hg hI
      have TC : Hid _ := told_calls B (numV p.1 ao nn cc p.2.2 false) p _ ((show NumAt B w2 _ p from ⟨ao, nn, cc, rfl, h1, h2, h3, h4⟩).keep hb3)
      clear hI hg h4
      go_wp2_with fail
      refine Calls.mono TC.out ?_
      rintro r w4 ⟨v', rfl, hD, hb4⟩
      obtain ⟨a4, n4, c4, rfl, i1, i2, i3⟩ := hD
      have hb14 := nbelow_trans hb13 hb4
      have hb04 := nbelow_trans hb03 hb4
      have hsz : w.heap.size < w2.heap.size := by have := hb12.size; simp at this; omega
      clear m0 m1 m2 f0 f1 f2 TC
      obtain ⟨m0, m1, m2, f0, f1, f2⟩ := zero_dy (r := w.heap.size) hb14 rfl
      clear hb12 hb13 hb14 hb3 hb4 hb03 hb02
      go_wp2_with fail
      refine bodyPost_ret (v := .tuple #[dyV p.1 a4 n4 c4 p.2.2, .int .i64 0]) (by simp [results, Tryd.results24, go_sem, m0, m1, m2]) rfl ⟨dyV p.1 a4 n4 c4 p.2.2, by rw [HE.out.1], ?_, ?_⟩
      · rw [HE.out.2]
        simp only [World.size_alloc] at i3
        exact ⟨a4, n4, c4, rfl, i1, i2, (((i3.far _ _ (by show w.heap.size < _; omega)).far _ _ (by show w.heap.size < _; omega)).far _ _ (by show w.heap.size < _; omega)).low (by omega)⟩
      · exact ((hb04.setCell (Nat.le_refl _) _).setCell (Nat.le_refl _) _).setCell (Nat.le_refl _) _
    | false =>
      have HE : Hid (roomE p = 3 ∧ roomP p = (false, 0, 0)) := room_no (Or.inr hI)
      clear hI hg h4
      go_wp2_with fail
      refine bodyPost_ret (v := .tuple #[dyV false none 0 0 0, .int .i64 3]) (by simp [results, Tryd.results24, go_sem, m0, m1, m2]) rfl ⟨dyV false none 0 0 0, by rw [HE.out.1], by rw [HE.out.2]; exact dyAt_zero _ _, ?_⟩
      exact ((hb03.setCell (Nat.le_refl _) _).setCell (Nat.le_refl _) _).setCell (Nat.le_refl _) _
  · have HE : Hid (roomE p = 3 ∧ roomP p = (false, 0, 0)) := room_no (Or.inl hg)
    clear hg
    go_wp2_with fail
    refine Calls.mono (hasRoom_calls _ _ _ _ _ _ _) ?_
    rintro r w3 ⟨rfl, rfl⟩
    have hb3 : Below w2.heap.size w2 ((w2.alloc (.cells #[.bool false, .slice none 0 0, .int .i64 0, .bool true] 52)).alloc (.cells #[.bool false, .slice none 0 0, .int .i64 0, .bool true] 52)) := nbelow_trans (below_one _ _) (below_one _ _)
    have hb13 := nbelow_trans hb12 hb3
    have hb03 := nbelow_trans hb02 hb3
    obtain ⟨m0, m1, m2, f0, f1, f2⟩ := zero_dy (r := w.heap.size) hb13 rfl
    go_wp2_with fail
    refine bodyPost_ret (v := .tuple #[dyV false none 0 0 0, .int .i64 3]) (by simp [results, Tryd.results24, go_sem, m0, m1, m2]) rfl ⟨dyV false none 0 0 0, by rw [HE.out.1], by rw [HE.out.2]; exact dyAt_zero _ _, ?_⟩
    exact ((hb03.setCell (Nat.le_refl _) _).setCell (Nat.le_refl _) _).setCell (Nat.le_refl _) _

end Go.Proofs.YticjhheceoeilaaDoor

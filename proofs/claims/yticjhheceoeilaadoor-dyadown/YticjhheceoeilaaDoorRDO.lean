/- What Canon, Add and Cut hand out, with all its room: the asker may write over it. The statements' spoil: a number's words, and all their room, are written over; nothing else has turned. The statement DyadOwn. -/
import Derived.Test.YticjhheceoeilaaDoorDGA
import Derived.Test.YticjhheceoeilaaDoorDCan2
import Derived.Test.YticjhheceoeilaaDoorRDA
import Derived.Deep.RegionHeld3
import Derived.Deep.DrawnRows
import Derived.Deep.AppendLies
import Derived.Test.YticjhheceoeilaaDoorRDV
import Derived.Test.YticjhheceoeilaaDoorDBeg
import Derived.Test.YticjhheceoeilaaDoorRDG

namespace Go.Proofs.YticjhheceoeilaaDoor
open Go.RowKit

/-- All of this room is there and may be written. -/
def WrR (B : Nat) (w : World) (a : Option Addr) (n : Nat) : Prop := ∀ i, i < n → ∃ (b off : Nat) (v : Value), a = some ⟨b, off, none⟩ ∧ B ≤ b ∧ w.cell? ⟨b, off + i, none⟩ = some v ∧ w.frozen? ⟨b, off + i, none⟩ = false
def OwnX (B : Nat) (w : World) (a : Option Addr) (n c : Nat) (xs : List Int) : Prop := OwnW B w a n c xs ∧ WrR B w a c ∧ c ≤ maxLen
theorem OwnX.keep {B : Nat} {w w' : World} {a : Option Addr} {n c : Nat} {xs : List Int} (h : OwnX B w a n c xs) (hb : Below w.heap.size w w') : OwnX B w' a n c xs := by
  refine ⟨h.1.keep hb, fun i hi => ?_, h.2.2⟩
  obtain ⟨b, off, v, e1, e2, e3, e4⟩ := h.2.1 i hi
  exact ⟨b, off, v, e1, e2, dcarry_cell hb e3, dcarry_frozen hb e3 e4⟩
theorem OwnX.low {B B' : Nat} {w : World} {a : Option Addr} {n c : Nat} {xs : List Int} (h : OwnX B w a n c xs) (hB : B' ≤ B) : OwnX B' w a n c xs := by
  refine ⟨h.1.low hB, fun i hi => ?_, h.2.2⟩
  obtain ⟨b, off, v, e1, e2, e3, e4⟩ := h.2.1 i hi
  exact ⟨b, off, v, e1, Nat.le_trans hB e2, e3, e4⟩
theorem OwnX.far {B : Nat} {w : World} {a : Option Addr} {n c : Nat} {xs : List Int} (h : OwnX B w a n c xs) (p : Addr) (u : Value) (hp : p.block < B) : OwnX B (w.setCell p u) a n c xs := by
  refine ⟨h.1.far p u hp, fun i hi => ?_, h.2.2⟩
  obtain ⟨b, off, v, e1, e2, e3, e4⟩ := h.2.1 i hi
  refine ⟨b, off, v, e1, e2, ?_, (World.frozen?_setCell w _ _ _).trans e4⟩
  rw [World.cell?_setCell_other w _ _ _ (fun e => by have := congrArg Addr.block e; simp at this; omega)]
  exact e3
theorem OwnX.other {B : Nat} {w : World} {a : Option Addr} {n c : Nat} {xs : List Int} (h : OwnX B w a n c xs) (p : Addr) (u : Value) (hp : ∀ b off, a = some ⟨b, off, none⟩ → p.block ≠ b) : OwnX B (w.setCell p u) a n c xs := by
  refine ⟨h.1.other p u hp, fun i hi => ?_, h.2.2⟩
  obtain ⟨b, off, v, e1, e2, e3, e4⟩ := h.2.1 i hi
  refine ⟨b, off, v, e1, e2, ?_, (World.frozen?_setCell w _ _ _).trans e4⟩
  rw [World.cell?_setCell_other w _ _ _ (fun e => hp b off e1 (congrArg Addr.block e))]
  exact e3
theorem ownX_nil (B : Nat) (w : World) : OwnX B w none 0 0 [] := ⟨ownW_nil B w, fun i hi => by omega, Nat.zero_le _⟩
theorem Own.wrR {B cv : Nat} {w : World} {a : Option Addr} {L : List Int} (h : Own B w a cv L) : WrR B w a cv := fun i hi => by
  rcases h.2 with ⟨hv, h0⟩ | ⟨g, cap, cur, hv, hg, hh, hn, hx⟩
  · simp only [Value.slice.injEq] at hv
    omega
  · simp only [Value.slice.injEq] at hv
    obtain ⟨rfl, -, rfl⟩ := hv
    have hc : i < cur.size := by have := hx.2.1; omega
    refine ⟨g, 0, cur[i], rfl, hg, ?_, ?_⟩
    · simp [World.cell?, hh, hc]
    · simp [World.frozen?, hh]
theorem Own.capL {B cv : Nat} {w : World} {a : Option Addr} {L : List Int} (h : Own B w a cv L) : cv ≤ maxLen := by
  rcases h.2 with ⟨hv, h0⟩ | ⟨g, cap, cur, hv, hg, hh, hn, hx⟩
  · simp only [Value.slice.injEq] at hv
    rw [hv.2.2]; exact Nat.zero_le _
  · simp only [Value.slice.injEq] at hv
    rw [hv.2.2]; exact hx.1
def DyAtW (B : Nat) (w : World) (v : Value) (p : Bool × Nat × Int) : Prop := ∃ (ao : Option Addr) (n c : Nat), v = dyV p.1 ao n c p.2.2 ∧ Hid (n = (wordsOf p.2.1).length) ∧ n ≤ 1024 ∧ OwnX B w ao n c (wordsOf p.2.1)
theorem dyAtW_zero (B : Nat) (w : World) : DyAtW B w (dyV false none 0 0 0) (false, 0, 0) := ⟨none, 0, 0, rfl, by rw [words_zero]; rfl, by omega, by rw [words_zero]; exact ownX_nil _ _⟩
theorem DyAtW.dy {B : Nat} {w : World} {v : Value} {p : Bool × Nat × Int} (h : DyAtW B w v p) : DyAt B w v p := by
  obtain ⟨ao, n, c, h1, h2, h3, h4⟩ := h
  exact ⟨ao, n, c, h1, h2, h3, h4.1⟩
attribute [local go_sem ↓] Go.wp_at_zero Go.wp_at_succ

set_option maxRecDepth 100000 in
set_option maxHeartbeats 2000000 in
theorem told_someW (s : Bool) (ad : Addr) (n c : Nat) (xs : List Int) (e : Int) (g : Bool) (w : World) (h : IsW w (some ad) n c xs) (hn0 : 0 < n) (hn : n ≤ 1024) :
    Calls Tryd.prog 41 #[numV s (some ad) n c e g] w fun r w' => ∃ (ao : Option Addr) (c' : Nat), r = .returned (dyV s ao n c' e) ∧ OwnX w.heap.size w' ao n c' xs ∧ Below w.heap.size w w' := by
  obtain ⟨i0, hi, hz0, hz1, hz2⟩ := info_parts word_info
  have HL : Hid (n = xs.length) := h.1
  have HU : Hid (AllU xs) := h.2.1
  have hb0 : Below w.heap.size w ((w.alloc (.cells #[.bool s, .slice (some ad) n c, .int .i64 e, .bool g] 52)).alloc (.cells #[.bool false, .slice none 0 0, .int .i64 0] 25)).drew := (nbelow_trans (below_one _ _) (below_one _ _)).drew
  have HNEW : Hid _ := isW_news (h.keep hb0)
  clear h
  go_enter Tryd.func41, Tryd.ntmps41
  go_wp2_with fail
  go_region_held3 (fun w' => w'.cell? ⟨w.heap.size, 0, none⟩ = some (.bool s) ∧ w'.cell? ⟨w.heap.size, 1, none⟩ = some (.slice (some ad) n c) ∧ w'.cell? ⟨w.heap.size, 2, none⟩ = some (.int .i64 e))
    (first | (go_keep; done) | exact ⟨dcarry_cell hbA (by go_simp), dcarry_cell hbA (by go_simp), dcarry_cell hbA (by go_simp)⟩)
    ((refine step_append_lies _ (by rfl) _ _ _ (by rfl) w.heap.size 47 i0 (.int .u64 0) 1 8 Tryd.underlying23 hi hz0 hz1 hz2 rfl (by omega) (.slice none 0 0) 0 [] (by rfl) (World.ownsRow_nil _ _ _ _) ad n c (xs.map (Value.int .u64)) (by rfl) (by rw [List.length_map, ← HL.out]; omega) HNEW.out (fun u hu => by simp only [List.mem_map] at hu; obtain ⟨y, _, rfl⟩ := hu; rfl) hn0 (by unfold maxLen; omega) (by omega) (by simp; omega) (w.heap.size + 1 + 1) (by simp) ?_; intro gg cap w1 hown1 hgrow hat hlt; have hbA := (Below.refl _ _).grown hgrow (Nat.le_refl _) (fun q hq => by cases hq); obtain ⟨m0, m1, m2, f0, f1, f2⟩ := zero_dy (r := w.heap.size + 1) (w := w.alloc (.cells #[.bool s, .slice (some ad) n c, .int .i64 e, .bool g] 52)) (W' := w1) (nbelow_trans (Below.refl _ _).drew hbA) (by simp)))
  all_goals
    go_wp2_with fail
    have hgg : gg = w.heap.size + 1 + 1 := by
      rcases hat with q | q
      · cases q
      · exact q
    have hO : OwnX w.heap.size w1 (some ⟨gg, 0, none⟩) n cap xs := by
      have h1 : Own w.heap.size w1 (some ⟨gg, 0, none⟩) cap xs := by unfold Own; rw [← HL.out]; simpa using hown1
      exact ⟨h1.ownW HU.out HL.out.symm, h1.wrR, h1.capL⟩
    have hne : ∀ (b off : Nat), some (⟨gg, 0, none⟩ : Addr) = some ⟨b, off, none⟩ → w.heap.size + 1 ≠ b := fun b off q => by
      simp only [Option.some.injEq, Addr.mk.injEq, and_true] at q; omega
    refine bodyPost_ret (v := dyV s (some ⟨gg, 0, none⟩) n cap e) (by simp [results, Tryd.results41, go_sem, m0, m1, m2]) rfl ⟨some ⟨gg, 0, none⟩, cap, rfl, ((hO.other _ _ hne).other _ _ hne).other _ _ hne, ?_⟩
    exact (((hb0.trans (hbA.mono hb0.size)).setCell (by show w.heap.size ≤ w.heap.size + 1; omega) _).setCell (by show w.heap.size ≤ w.heap.size + 1; omega) _).setCell (by show w.heap.size ≤ w.heap.size + 1; omega) _

theorem told_callsW (B : Nat) (v : Value) (p : Bool × Nat × Int) (w : World) (h : NumAt B w v p) :
    Calls Tryd.prog 41 #[v] w fun r w' => ∃ v', r = .returned v' ∧ DyAtW w.heap.size w' v' p ∧ Below w.heap.size w w' := by
  obtain ⟨ao, n, c, rfl, h1, h2, h3, h4⟩ := h
  by_cases hn : n = 0
  · obtain ⟨rfl, rfl⟩ := h2.out hn
    subst hn
    have hp : wordsOf p.2.1 = [] := List.length_eq_zero_iff.1 h1.out.symm
    refine Calls.mono (told_none p.1 p.2.2 false w) ?_
    rintro r w' ⟨rfl, hb⟩
    exact ⟨_, rfl, ⟨none, 0, 0, rfl, h1, by omega, by rw [hp]; exact ownX_nil _ _⟩, hb⟩
  · obtain ⟨b, off, rfl, _, _⟩ := h4.1.2.2.2 0 (by omega)
    refine Calls.mono (told_someW p.1 ⟨b, off, none⟩ n c _ p.2.2 false w h4.1 (by omega) h3) ?_
    rintro r w' ⟨ao, c', rfl, hO, hb⟩
    exact ⟨_, rfl, ⟨ao, n, c', rfl, h1, h3, hO⟩, hb⟩

set_option maxRecDepth 100000 in
set_option maxHeartbeats 2000000 in
theorem made_itselfW (s : Bool) (a : Option Addr) (n c : Nat) (e : Int) (g : Bool) (B : Nat) (p : Bool × Nat × Int) (sl : Value) (w : World) (HR : ∀ W, Below w.heap.size w W → Calls Tryd.prog 28 #[sl] W fun r w' => r = .returned (.bool true) ∧ Below W.heap.size W w')
    (HW : ∀ W, Below w.heap.size w W → Calls Tryd.prog 26 #[numV s a n c e g] W fun r w' => ∃ v, r = .returned v ∧ NumR B w' v p ∧ Below W.heap.size W w') :
    Calls Tryd.prog 24 #[.func (.func 26) #[numV s a n c e g] #[], sl] w fun r w' => ∃ v', r = .returned (.tuple #[v', .int .i64 (roomE p)]) ∧ DyAtW w.heap.size w' v' (roomP p) ∧ Below w.heap.size w w' := by
  have H1 : Hid _ := HR _ (below_one w (.cells #[.bool false, .slice none 0 0, .int .i64 0] 25))
  have HW1 : Hid _ := HW
  clear HR HW
  go_enter Tryd.func24, Tryd.ntmps24
  go_wp2_with fail
  refine Calls.mono H1.out ?_
  rintro r w1 ⟨rfl, hb1⟩
  have hb01 := nbelow_trans (below_one w (.cells #[.bool false, .slice none 0 0, .int .i64 0] 25)) hb1
  clear H1
  go_wp2_with fail
  refine Calls.mono (HW1.out _ hb01) ?_
  rintro r w2 ⟨v, rfl, hN, hb2⟩
  have hb02 := nbelow_trans hb01 hb2
  have hb12 := nbelow_trans hb1 hb2
  clear HW1 hb01 hb1 hb2
  rcases hN with ⟨hg, hN⟩ | ⟨hg, rfl⟩
  · obtain ⟨ao, nn, cc, rfl, h1, h2, h3, h4⟩ := hN
    go_wp2_with fail
    refine Calls.mono (hasRoom_calls _ _ _ _ _ _ _) ?_
    rintro r w3 ⟨rfl, rfl⟩
    have hb3 : Below w2.heap.size w2 ((w2.alloc (.cells #[.bool p.1, .slice ao nn cc, .int .i64 p.2.2, .bool false] 52)).alloc (.cells #[.bool p.1, .slice ao nn cc, .int .i64 p.2.2, .bool false] 52)) := nbelow_trans (below_one _ _) (below_one _ _)
    have hb13 := nbelow_trans hb12 hb3
    have hb03 := nbelow_trans hb02 hb3
    obtain ⟨m0, m1, m2, f0, f1, f2⟩ := zero_dy (r := w.heap.size) hb13 rfl
    cases hI : inB p.2.2 with
    | true =>
      have HE : Hid (roomE p = 0 ∧ roomP p = p) := room_yes hg hI
      have TC : Hid _ := told_callsW B (numV p.1 ao nn cc p.2.2 false) p _ ((show NumAt B w2 _ p from ⟨ao, nn, cc, rfl, h1, h2, h3, h4⟩).keep hb3)
      clear hI hg h4
      go_wp2_with fail
      refine Calls.mono TC.out ?_
      rintro r w4 ⟨v', rfl, hD, hb4⟩
      obtain ⟨a4, n4, c4, rfl, i1, i2, i3⟩ := hD
      have hb14 := nbelow_trans hb13 hb4
      have hb04 := nbelow_trans hb03 hb4
      have hsz : w.heap.size < w2.heap.size := by have := hb12.size; simp at this; omega
      clear m0 m1 m2 f0 f1 f2 TC
      obtain ⟨m0, m1, m2, f0, f1, f2⟩ := zero_dy (r := w.heap.size) hb14 rfl
      clear hb12 hb13 hb14 hb3 hb4 hb03 hb02
      go_wp2_with fail
      refine bodyPost_ret (v := .tuple #[dyV p.1 a4 n4 c4 p.2.2, .int .i64 0]) (by simp [results, Tryd.results24, go_sem, m0, m1, m2]) rfl ⟨dyV p.1 a4 n4 c4 p.2.2, by rw [HE.out.1], ?_, ?_⟩
      · rw [HE.out.2]
        simp only [World.size_alloc] at i3
        exact ⟨a4, n4, c4, rfl, i1, i2, (((i3.far _ _ (by show w.heap.size < _; omega)).far _ _ (by show w.heap.size < _; omega)).far _ _ (by show w.heap.size < _; omega)).low (by omega)⟩
      · exact ((hb04.setCell (Nat.le_refl _) _).setCell (Nat.le_refl _) _).setCell (Nat.le_refl _) _
    | false =>
      have HE : Hid (roomE p = 3 ∧ roomP p = (false, 0, 0)) := room_no (Or.inr hI)
      clear hI hg h4
      go_wp2_with fail
      refine bodyPost_ret (v := .tuple #[dyV false none 0 0 0, .int .i64 3]) (by simp [results, Tryd.results24, go_sem, m0, m1, m2]) rfl ⟨dyV false none 0 0 0, by rw [HE.out.1], by rw [HE.out.2]; exact dyAtW_zero _ _, ?_⟩
      exact ((hb03.setCell (Nat.le_refl _) _).setCell (Nat.le_refl _) _).setCell (Nat.le_refl _) _
  · have HE : Hid (roomE p = 3 ∧ roomP p = (false, 0, 0)) := room_no (Or.inl hg)
    clear hg
    go_wp2_with fail
    refine Calls.mono (hasRoom_calls _ _ _ _ _ _ _) ?_
    rintro r w3 ⟨rfl, rfl⟩
    have hb3 : Below w2.heap.size w2 ((w2.alloc (.cells #[.bool false, .slice none 0 0, .int .i64 0, .bool true] 52)).alloc (.cells #[.bool false, .slice none 0 0, .int .i64 0, .bool true] 52)) := nbelow_trans (below_one _ _) (below_one _ _)
    have hb13 := nbelow_trans hb12 hb3
    have hb03 := nbelow_trans hb02 hb3
    obtain ⟨m0, m1, m2, f0, f1, f2⟩ := zero_dy (r := w.heap.size) hb13 rfl
    go_wp2_with fail
    refine bodyPost_ret (v := .tuple #[dyV false none 0 0 0, .int .i64 3]) (by simp [results, Tryd.results24, go_sem, m0, m1, m2]) rfl ⟨dyV false none 0 0 0, by rw [HE.out.1], by rw [HE.out.2]; exact dyAtW_zero _ _, ?_⟩
    exact ((hb03.setCell (Nat.le_refl _) _).setCell (Nat.le_refl _) _).setCell (Nat.le_refl _) _

set_option maxRecDepth 100000 in
set_option maxHeartbeats 2000000 in
theorem made_AddW (b1 b2 : Nat) (B : Nat) (p : Bool × Nat × Int) (sl : Value) (w : World) (HR : ∀ W, Below w.heap.size w W → Calls Tryd.prog 28 #[sl] W fun r w' => r = .returned (.bool true) ∧ Below W.heap.size W w')
    (HW : ∀ W, Below w.heap.size w W → Calls Tryd.prog 31 #[.pointer (some ⟨b1, 0, none⟩), .pointer (some ⟨b2, 0, none⟩)] W fun r w' => ∃ v, r = .returned v ∧ NumR B w' v p ∧ Below W.heap.size W w') :
    Calls Tryd.prog 24 #[.func (.func 31) #[] #[.pointer (some ⟨b1, 0, none⟩), .pointer (some ⟨b2, 0, none⟩)], sl] w fun r w' => ∃ v', r = .returned (.tuple #[v', .int .i64 (roomE p)]) ∧ DyAtW w.heap.size w' v' (roomP p) ∧ Below w.heap.size w w' := by
  have H1 : Hid _ := HR _ (below_one w (.cells #[.bool false, .slice none 0 0, .int .i64 0] 25))
  have HW1 : Hid _ := HW
  clear HR HW
  go_enter Tryd.func24, Tryd.ntmps24
  go_wp2_with fail
  refine Calls.mono H1.out ?_
  rintro r w1 ⟨rfl, hb1⟩
  have hb01 := nbelow_trans (below_one w (.cells #[.bool false, .slice none 0 0, .int .i64 0] 25)) hb1
  clear H1
  go_wp2_with fail
  refine Calls.mono (HW1.out _ hb01) ?_
  rintro r w2 ⟨v, rfl, hN, hb2⟩
  have hb02 := nbelow_trans hb01 hb2
  have hb12 := nbelow_trans hb1 hb2
  clear HW1 hb01 hb1 hb2
  rcases hN with ⟨hg, hN⟩ | ⟨hg, rfl⟩
  · obtain ⟨ao, nn, cc, rfl, h1, h2, h3, h4⟩ := hN
    go_wp2_with fail
    refine Calls.mono (hasRoom_calls _ _ _ _ _ _ _) ?_
    rintro r w3 ⟨rfl, rfl⟩
    have hb3 : Below w2.heap.size w2 ((w2.alloc (.cells #[.bool p.1, .slice ao nn cc, .int .i64 p.2.2, .bool false] 52)).alloc (.cells #[.bool p.1, .slice ao nn cc, .int .i64 p.2.2, .bool false] 52)) := nbelow_trans (below_one _ _) (below_one _ _)
    have hb13 := nbelow_trans hb12 hb3
    have hb03 := nbelow_trans hb02 hb3
    obtain ⟨m0, m1, m2, f0, f1, f2⟩ := zero_dy (r := w.heap.size) hb13 rfl
    cases hI : inB p.2.2 with
    | true =>
      have HE : Hid (roomE p = 0 ∧ roomP p = p) := room_yes hg hI
      have TC : Hid _ := told_callsW B (numV p.1 ao nn cc p.2.2 false) p _ ((show NumAt B w2 _ p from ⟨ao, nn, cc, rfl, h1, h2, h3, h4⟩).keep hb3)
      clear hI hg h4
      go_wp2_with fail
      refine Calls.mono TC.out ?_
      rintro r w4 ⟨v', rfl, hD, hb4⟩
      obtain ⟨a4, n4, c4, rfl, i1, i2, i3⟩ := hD
      have hb14 := nbelow_trans hb13 hb4
      have hb04 := nbelow_trans hb03 hb4
      have hsz : w.heap.size < w2.heap.size := by have := hb12.size; simp at this; omega
      clear m0 m1 m2 f0 f1 f2 TC
      obtain ⟨m0, m1, m2, f0, f1, f2⟩ := zero_dy (r := w.heap.size) hb14 rfl
      clear hb12 hb13 hb14 hb3 hb4 hb03 hb02
      go_wp2_with fail
      refine bodyPost_ret (v := .tuple #[dyV p.1 a4 n4 c4 p.2.2, .int .i64 0]) (by simp [results, Tryd.results24, go_sem, m0, m1, m2]) rfl ⟨dyV p.1 a4 n4 c4 p.2.2, by rw [HE.out.1], ?_, ?_⟩
      · rw [HE.out.2]
        simp only [World.size_alloc] at i3
        exact ⟨a4, n4, c4, rfl, i1, i2, (((i3.far _ _ (by show w.heap.size < _; omega)).far _ _ (by show w.heap.size < _; omega)).far _ _ (by show w.heap.size < _; omega)).low (by omega)⟩
      · exact ((hb04.setCell (Nat.le_refl _) _).setCell (Nat.le_refl _) _).setCell (Nat.le_refl _) _
    | false =>
      have HE : Hid (roomE p = 3 ∧ roomP p = (false, 0, 0)) := room_no (Or.inr hI)
      clear hI hg h4
      go_wp2_with fail
      refine bodyPost_ret (v := .tuple #[dyV false none 0 0 0, .int .i64 3]) (by simp [results, Tryd.results24, go_sem, m0, m1, m2]) rfl ⟨dyV false none 0 0 0, by rw [HE.out.1], by rw [HE.out.2]; exact dyAtW_zero _ _, ?_⟩
      exact ((hb03.setCell (Nat.le_refl _) _).setCell (Nat.le_refl _) _).setCell (Nat.le_refl _) _
  · have HE : Hid (roomE p = 3 ∧ roomP p = (false, 0, 0)) := room_no (Or.inl hg)
    clear hg
    go_wp2_with fail
    refine Calls.mono (hasRoom_calls _ _ _ _ _ _ _) ?_
    rintro r w3 ⟨rfl, rfl⟩
    have hb3 : Below w2.heap.size w2 ((w2.alloc (.cells #[.bool false, .slice none 0 0, .int .i64 0, .bool true] 52)).alloc (.cells #[.bool false, .slice none 0 0, .int .i64 0, .bool true] 52)) := nbelow_trans (below_one _ _) (below_one _ _)
    have hb13 := nbelow_trans hb12 hb3
    have hb03 := nbelow_trans hb02 hb3
    obtain ⟨m0, m1, m2, f0, f1, f2⟩ := zero_dy (r := w.heap.size) hb13 rfl
    go_wp2_with fail
    refine bodyPost_ret (v := .tuple #[dyV false none 0 0 0, .int .i64 3]) (by simp [results, Tryd.results24, go_sem, m0, m1, m2]) rfl ⟨dyV false none 0 0 0, by rw [HE.out.1], by rw [HE.out.2]; exact dyAtW_zero _ _, ?_⟩
    exact ((hb03.setCell (Nat.le_refl _) _).setCell (Nat.le_refl _) _).setCell (Nat.le_refl _) _

set_option maxRecDepth 100000 in
set_option maxHeartbeats 2000000 in
theorem made_CutW (b1 b2 b3 : Nat) (B : Nat) (p : Bool × Nat × Int) (sl : Value) (w : World) (HR : ∀ W, Below w.heap.size w W → Calls Tryd.prog 28 #[sl] W fun r w' => r = .returned (.bool true) ∧ Below W.heap.size W w')
    (HW : ∀ W, Below w.heap.size w W → Calls Tryd.prog 33 #[.pointer (some ⟨b1, 0, none⟩), .pointer (some ⟨b2, 0, none⟩), .pointer (some ⟨b3, 0, none⟩)] W fun r w' => ∃ v, r = .returned v ∧ NumR B w' v p ∧ Below W.heap.size W w') :
    Calls Tryd.prog 24 #[.func (.func 33) #[] #[.pointer (some ⟨b1, 0, none⟩), .pointer (some ⟨b2, 0, none⟩), .pointer (some ⟨b3, 0, none⟩)], sl] w fun r w' => ∃ v', r = .returned (.tuple #[v', .int .i64 (roomE p)]) ∧ DyAtW w.heap.size w' v' (roomP p) ∧ Below w.heap.size w w' := by
  have H1 : Hid _ := HR _ (below_one w (.cells #[.bool false, .slice none 0 0, .int .i64 0] 25))
  have HW1 : Hid _ := HW
  clear HR HW
  go_enter Tryd.func24, Tryd.ntmps24
  go_wp2_with fail
  refine Calls.mono H1.out ?_
  rintro r w1 ⟨rfl, hb1⟩
  have hb01 := nbelow_trans (below_one w (.cells #[.bool false, .slice none 0 0, .int .i64 0] 25)) hb1
  clear H1
  go_wp2_with fail
  refine Calls.mono (HW1.out _ hb01) ?_
  rintro r w2 ⟨v, rfl, hN, hb2⟩
  have hb02 := nbelow_trans hb01 hb2
  have hb12 := nbelow_trans hb1 hb2
  clear HW1 hb01 hb1 hb2
  rcases hN with ⟨hg, hN⟩ | ⟨hg, rfl⟩
  · obtain ⟨ao, nn, cc, rfl, h1, h2, h3, h4⟩ := hN
    go_wp2_with fail
    refine Calls.mono (hasRoom_calls _ _ _ _ _ _ _) ?_
    rintro r w3 ⟨rfl, rfl⟩
    have hb3 : Below w2.heap.size w2 ((w2.alloc (.cells #[.bool p.1, .slice ao nn cc, .int .i64 p.2.2, .bool false] 52)).alloc (.cells #[.bool p.1, .slice ao nn cc, .int .i64 p.2.2, .bool false] 52)) := nbelow_trans (below_one _ _) (below_one _ _)
    have hb13 := nbelow_trans hb12 hb3
    have hb03 := nbelow_trans hb02 hb3
    obtain ⟨m0, m1, m2, f0, f1, f2⟩ := zero_dy (r := w.heap.size) hb13 rfl
    cases hI : inB p.2.2 with
    | true =>
      have HE : Hid (roomE p = 0 ∧ roomP p = p) := room_yes hg hI
      have TC : Hid _ := told_callsW B (numV p.1 ao nn cc p.2.2 false) p _ ((show NumAt B w2 _ p from ⟨ao, nn, cc, rfl, h1, h2, h3, h4⟩).keep hb3)
      clear hI hg h4
      go_wp2_with fail
      refine Calls.mono TC.out ?_
      rintro r w4 ⟨v', rfl, hD, hb4⟩
      obtain ⟨a4, n4, c4, rfl, i1, i2, i3⟩ := hD
      have hb14 := nbelow_trans hb13 hb4
      have hb04 := nbelow_trans hb03 hb4
      have hsz : w.heap.size < w2.heap.size := by have := hb12.size; simp at this; omega
      clear m0 m1 m2 f0 f1 f2 TC
      obtain ⟨m0, m1, m2, f0, f1, f2⟩ := zero_dy (r := w.heap.size) hb14 rfl
      clear hb12 hb13 hb14 hb3 hb4 hb03 hb02
      go_wp2_with fail
      refine bodyPost_ret (v := .tuple #[dyV p.1 a4 n4 c4 p.2.2, .int .i64 0]) (by simp [results, Tryd.results24, go_sem, m0, m1, m2]) rfl ⟨dyV p.1 a4 n4 c4 p.2.2, by rw [HE.out.1], ?_, ?_⟩
      · rw [HE.out.2]
        simp only [World.size_alloc] at i3
        exact ⟨a4, n4, c4, rfl, i1, i2, (((i3.far _ _ (by show w.heap.size < _; omega)).far _ _ (by show w.heap.size < _; omega)).far _ _ (by show w.heap.size < _; omega)).low (by omega)⟩
      · exact ((hb04.setCell (Nat.le_refl _) _).setCell (Nat.le_refl _) _).setCell (Nat.le_refl _) _
    | false =>
      have HE : Hid (roomE p = 3 ∧ roomP p = (false, 0, 0)) := room_no (Or.inr hI)
      clear hI hg h4
      go_wp2_with fail
      refine bodyPost_ret (v := .tuple #[dyV false none 0 0 0, .int .i64 3]) (by simp [results, Tryd.results24, go_sem, m0, m1, m2]) rfl ⟨dyV false none 0 0 0, by rw [HE.out.1], by rw [HE.out.2]; exact dyAtW_zero _ _, ?_⟩
      exact ((hb03.setCell (Nat.le_refl _) _).setCell (Nat.le_refl _) _).setCell (Nat.le_refl _) _
  · have HE : Hid (roomE p = 3 ∧ roomP p = (false, 0, 0)) := room_no (Or.inl hg)
    clear hg
    go_wp2_with fail
    refine Calls.mono (hasRoom_calls _ _ _ _ _ _ _) ?_
    rintro r w3 ⟨rfl, rfl⟩
    have hb3 : Below w2.heap.size w2 ((w2.alloc (.cells #[.bool false, .slice none 0 0, .int .i64 0, .bool true] 52)).alloc (.cells #[.bool false, .slice none 0 0, .int .i64 0, .bool true] 52)) := nbelow_trans (below_one _ _) (below_one _ _)
    have hb13 := nbelow_trans hb12 hb3
    have hb03 := nbelow_trans hb02 hb3
    obtain ⟨m0, m1, m2, f0, f1, f2⟩ := zero_dy (r := w.heap.size) hb13 rfl
    go_wp2_with fail
    refine bodyPost_ret (v := .tuple #[dyV false none 0 0 0, .int .i64 3]) (by simp [results, Tryd.results24, go_sem, m0, m1, m2]) rfl ⟨dyV false none 0 0 0, by rw [HE.out.1], by rw [HE.out.2]; exact dyAtW_zero _ _, ?_⟩
    exact ((hb03.setCell (Nat.le_refl _) _).setCell (Nat.le_refl _) _).setCell (Nat.le_refl _) _

set_option maxRecDepth 100000 in
set_option maxHeartbeats 4000000 in
theorem canon_yesW (s : Bool) (a : Option Addr) (len cap : Nat) (xs : List Int) (e : Int) (w : World) (h : IsW w a len cap xs) (hm : len ≤ 17592186044416) (hT : Tab w) (hr : rightB (val xs) e = true) :
    Calls Tryd.prog 9 #[dyV s a len cap e] w fun r w' => ∃ v', r = .returned (.tuple #[v', .int .i64 (roomE (formD s (val xs) e))]) ∧ DyAtW w.heap.size w' v' (roomP (formD s (val xs) e)) ∧ Below w.heap.size w w' := by
  have hmf : ∀ (fn : Fn) (first cap : Array Value) (w : World), (Instr.makeFunc fn first cap).run Tryd.prog w = .ok (.func fn first cap) w := fun _ _ _ _ => rfl
  have HRB : Hid (rightB (val xs) e = true) := hr
  have HCG : Hid (canG s (val xs) e = formD s (val xs) e) := canG_no (rightB_yes hr).1
  have HEB : Hid (-4611686018427387904 ≤ e ∧ e ≤ 4611686018427387904) := by have := (rightB_yes hr).2; rw [Hid]; omega
  have HGR : Hid (greatB (formD s (val xs) e).2.1 = false) := great_mono (form_amount_le _ _ _) (rightB_yes hr).1
  clear hr
  go_enter Tryd.func9, Tryd.ntmps9
  go_wp2_with fail
  go_region_held3 (fun w' => w'.cell? ⟨w.heap.size, 0, none⟩ = some (.bool s) ∧ w'.cell? ⟨w.heap.size, 1, none⟩ = some (.slice a len cap) ∧ w'.cell? ⟨w.heap.size, 2, none⟩ = some (.int .i64 e))
    (first | (go_keep; done) | ((refine ⟨?_, ?_, ?_⟩ <;> (refine dcarry_cell hbM ?_; go_keep)); done) | ((refine ⟨?_, ?_, ?_⟩ <;> (refine dcarry_cell hbC ?_; go_simp)); done))
    (first
      | (go_at_call 25; refine (canonical_calls s a len cap xs e _ (h.keep (by repeat (first | exact Below.refl _ _ | apply Below.drew | refine Below.alloc ?_ (by simp; try omega) _))) hm (hT.kept (by repeat (first | exact Below.refl _ _ | apply Below.drew | refine Below.alloc ?_ (by simp; try omega) _)))).mono ?_; rintro r w1 ⟨ao, n, c, e', rfl, HE, HN, HZ, hn, hO, hbC⟩; have hbw1 : Below w.heap.size w w1 := nbelow_trans (by repeat (first | exact Below.refl _ _ | apply Below.drew | refine Below.alloc ?_ (by simp; try omega) _)) hbC; have hbz1 : Below ((w.alloc (.cells #[.bool s, .slice a len cap, .int .i64 e] 25)).alloc (.cells #[.bool false, .slice none 0 0, .int .i64 0] 25)).heap.size ((w.alloc (.cells #[.bool s, .slice a len cap, .int .i64 e] 25)).alloc (.cells #[.bool false, .slice none 0 0, .int .i64 0] 25)) w1 := nbelow_trans (by repeat (first | exact Below.refl _ _ | apply Below.drew | refine Below.alloc ?_ (by simp; try omega) _)) hbC; obtain rfl := HE.out HEB.out.1 HEB.out.2; rw [HCG.out] at hO HN ⊢; clear HE)
      | (go_at_call 24; refine (made_itselfW _ _ _ _ _ _ _ (formD s (val xs) e) _ _ (fun W hW => HRB.out ▸ right1_calls _ s a len cap xs e W (h.keep (nbelow_trans (by repeat (first | exact hbw1 | apply Below.drew | refine Below.alloc ?_ (by have := hbw1.size; simp at this ⊢; omega) _)) hW)) hm (dcarry_cell hW (by first | (go_simp; done) | (refine dcarry_cell hbC ?_; go_simp; done))) (dcarry_cell hW (by first | (go_simp; done) | (refine dcarry_cell hbC ?_; go_simp; done))) (dcarry_cell hW (by first | (go_simp; done) | (refine dcarry_cell hbC ?_; go_simp; done)))) (fun W hW => Calls.mono (itself_calls _ _ _ _ _ _ _) (by
          rintro r w5 ⟨rfl, hb5⟩
          exact ⟨_, rfl, Or.inl ⟨HGR.out, ⟨ao, n, c, rfl, HN, HZ, hn, (hO.keep (nbelow_trans (by repeat (first | exact Below.refl _ _ | apply Below.drew | refine Below.alloc ?_ (by simp; try omega) _)) hW)).keep hb5⟩⟩, hb5⟩))).mono ?_; rintro r w2 ⟨v', rfl, ⟨a2, n2, c2, rfl, HN2, hn2, hO2⟩, hbM⟩; obtain ⟨m0, m1, m2, f0, f1, f2⟩ := zero_dy (r := w.heap.size + 1) (w := w.alloc (.cells #[.bool s, .slice a len cap, .int .i64 e] 25)) (W' := w2) (nbelow_trans (by repeat (first | exact hbz1 | apply Below.drew | refine Below.alloc ?_ (by have := hbz1.size; simp at this ⊢; omega) _)) hbM) (by simp); have hbw2 : Below w.heap.size w w2 := nbelow_trans (by repeat (first | exact hbw1 | apply Below.drew | refine Below.alloc ?_ (by have := hbw1.size; simp at this ⊢; omega) _)) hbM))
  all_goals
    go_wp2_with fail
    refine bodyPost_ret (v := .tuple #[dyV (roomP (formD s (val xs) e)).1 a2 n2 c2 (roomP (formD s (val xs) e)).2.2, .int .i64 (roomE (formD s (val xs) e))]) (by simp [results, Tryd.results9, go_sem, m0, m1, m2]) rfl ⟨_, rfl, ⟨a2, n2, c2, rfl, HN2, hn2, (((hO2.far _ _ (by show w.heap.size + 1 < _; have := hbz1.size; simp at this ⊢; omega)).far _ _ (by show w.heap.size + 1 < _; have := hbz1.size; simp at this ⊢; omega)).far _ _ (by show w.heap.size + 1 < _; have := hbz1.size; simp at this ⊢; omega)).low (by have := hbw1.size; simp; omega)⟩, ?_⟩
    exact ((hbw2.setCell (by show w.heap.size ≤ w.heap.size + 1; omega) _).setCell (by show w.heap.size ≤ w.heap.size + 1; omega) _).setCell (by show w.heap.size ≤ w.heap.size + 1; omega) _

set_option maxRecDepth 100000 in
set_option maxHeartbeats 4000000 in
theorem dadd_yesW (s : Bool) (a : Option Addr) (len cap : Nat) (xs : List Int) (e : Int) (s' : Bool) (a' : Option Addr) (len' cap' : Nat) (ys : List Int) (e' : Int) (w : World) (h : IsW w a len cap xs) (hm : len ≤ 17592186044416) (h' : IsW w a' len' cap' ys) (hm' : len' ≤ 17592186044416) (hT : Tab w) (hr : rightB (val xs) e = true) (hr' : rightB (val ys) e' = true) :
    Calls Tryd.prog 15 #[dyV s a len cap e, dyV s' a' len' cap' e'] w fun r w' => ∃ v', r = .returned (.tuple #[v', .int .i64 (roomE (sumD (formD s (val xs) e) (formD s' (val ys) e')))]) ∧ DyAtW w.heap.size w' v' (roomP (sumD (formD s (val xs) e) (formD s' (val ys) e'))) ∧ Below w.heap.size w w' := by
  have hmf : ∀ (fn : Fn) (first cap : Array Value) (w : World), (Instr.makeFunc fn first cap).run Tryd.prog w = .ok (.func fn first cap) w := fun _ _ _ _ => rfl
  have HRB : Hid ((rightB (val xs) e && rightB (val ys) e') = true) := by rw [Hid, hr, hr']; rfl
  have HR1 : Hid (rightB (val xs) e = true) := hr
  have HR2 : Hid (rightB (val ys) e' = true) := hr'
  clear hr hr'
  go_enter Tryd.func15, Tryd.ntmps15
  go_wp2_with fail
  have hb0 : Below w.heap.size w ((((w.alloc (.cells #[.bool s, .slice a len cap, .int .i64 e] 25)).alloc (.cells #[.bool s', .slice a' len' cap', .int .i64 e'] 25)).alloc (.cells #[.bool false, .slice none 0 0, .int .i64 0] 25)).alloc (.cells #[.bool s, .slice a len cap, .int .i64 e, .bool s', .slice a' len' cap', .int .i64 e'] 25)) := by repeat (first | exact Below.refl _ _ | refine Below.alloc ?_ (by simp; try omega) _)
  refine Calls.mono (made_AddW w.heap.size (w.heap.size + 1) 0 (sumD (formD s (val xs) e) (formD s' (val ys) e')) _ _ (fun W hW => HRB.out ▸ right2_calls (w.heap.size + 1 + 1 + 1) s a len cap xs e s' a' len' cap' ys e' W (h.keep (nbelow_trans hb0 hW)) hm (h'.keep (nbelow_trans hb0 hW)) hm' (dcarry_cell hW (by go_simp)) (dcarry_cell hW (by go_simp)) (dcarry_cell hW (by go_simp)) (dcarry_cell hW (by go_simp)) (dcarry_cell hW (by go_simp)) (dcarry_cell hW (by go_simp)))
    (fun W hW => Calls.mono (add1_calls w.heap.size (w.heap.size + 1) s a len cap xs e s' a' len' cap' ys e' W (h.keep (nbelow_trans hb0 hW)) hm (h'.keep (nbelow_trans hb0 hW)) hm' (hT.kept (nbelow_trans hb0 hW)) HR1.out HR2.out (dcarry_cell hW (by go_simp)) (dcarry_cell hW (by go_simp)) (dcarry_cell hW (by go_simp)) (dcarry_cell hW (by go_simp)) (dcarry_cell hW (by go_simp)) (dcarry_cell hW (by go_simp))) (by
      rintro r w5 ⟨v, rfl, hN, hb5⟩
      exact ⟨v, rfl, hN.low (Nat.zero_le _), hb5⟩))) ?_
  rintro r w2 ⟨v', rfl, ⟨a2, n2, c2, rfl, HN2, hn2, hO2⟩, hbM⟩
  have hb2 := nbelow_trans hb0 hbM
  obtain ⟨m0, m1, m2, f0, f1, f2⟩ := zero_dy (r := w.heap.size + 1 + 1) (w := (w.alloc (.cells #[.bool s, .slice a len cap, .int .i64 e] 25)).alloc (.cells #[.bool s', .slice a' len' cap', .int .i64 e'] 25)) (W' := w2) (nbelow_trans (below_one _ _) hbM) (by simp)
  go_wp2_with fail
  refine bodyPost_ret (v := .tuple #[dyV (roomP (sumD (formD s (val xs) e) (formD s' (val ys) e'))).1 a2 n2 c2 (roomP (sumD (formD s (val xs) e) (formD s' (val ys) e'))).2.2, .int .i64 (roomE (sumD (formD s (val xs) e) (formD s' (val ys) e')))]) (by simp [results, Tryd.results15, go_sem, m0, m1, m2]) rfl ⟨_, rfl, ⟨a2, n2, c2, rfl, HN2, hn2, (((hO2.far _ _ (by show w.heap.size + 1 + 1 < _; simp)).far _ _ (by show w.heap.size + 1 + 1 < _; simp)).far _ _ (by show w.heap.size + 1 + 1 < _; simp)).low (by simp; omega)⟩, ?_⟩
  exact ((hb2.setCell (by show w.heap.size ≤ w.heap.size + 1 + 1; omega) _).setCell (by show w.heap.size ≤ w.heap.size + 1 + 1; omega) _).setCell (by show w.heap.size ≤ w.heap.size + 1 + 1; omega) _

set_option maxRecDepth 100000 in
set_option maxHeartbeats 4000000 in
theorem dcut_yesW (s : Bool) (a : Option Addr) (len cap : Nat) (xs : List Int) (e : Int) (pp : Int) (up : Bool) (w : World) (h : IsW w a len cap xs) (hm : len ≤ 17592186044416) (hT : Tab w) (hp : 1 ≤ pp ∧ pp ≤ 9223372036854775807) (hr : rightB (val xs) e = true) :
    Calls Tryd.prog 16 #[dyV s a len cap e, .int .i64 pp, .bool up] w fun r w' => ∃ v', r = .returned (.tuple #[v', .int .i64 (roomE (cutD (formD s (val xs) e) pp up))]) ∧ DyAtW w.heap.size w' v' (roomP (cutD (formD s (val xs) e) pp up)) ∧ Below w.heap.size w w' := by
  have hmf : ∀ (fn : Fn) (first cap : Array Value) (w : World), (Instr.makeFunc fn first cap).run Tryd.prog w = .ok (.func fn first cap) w := fun _ _ _ _ => rfl
  have HRB : Hid (rightB (val xs) e = true) := hr
  have hp1 : ¬ pp < 1 := by omega
  have HP : Hid _ := hp
  clear hr hp
  go_enter Tryd.func16, Tryd.ntmps16
  go_wp2_with fail
  have hb0 : Below w.heap.size w (((((w.alloc (.cells #[.bool s, .slice a len cap, .int .i64 e] 25)).alloc (.cells #[.int .i64 pp] 3)).alloc (.cells #[.bool up] 4)).alloc (.cells #[.bool false, .slice none 0 0, .int .i64 0] 25)).alloc (.cells #[.bool s, .slice a len cap, .int .i64 e] 25)) := by repeat (first | exact Below.refl _ _ | refine Below.alloc ?_ (by simp; try omega) _)
  refine Calls.mono (made_CutW w.heap.size (w.heap.size + 1) (w.heap.size + 1 + 1) 0 (cutD (formD s (val xs) e) pp up) _ _ (fun W hW => HRB.out ▸ right1_calls (w.heap.size + 1 + 1 + 1 + 1) s a len cap xs e W (h.keep (nbelow_trans hb0 hW)) hm (dcarry_cell hW (by go_simp)) (dcarry_cell hW (by go_simp)) (dcarry_cell hW (by go_simp)))
    (fun W hW => Calls.mono (cut1_calls w.heap.size (w.heap.size + 1) (w.heap.size + 1 + 1) s a len cap xs e pp up W (h.keep (nbelow_trans hb0 hW)) hm (hT.kept (nbelow_trans hb0 hW)) HRB.out HP.out (dcarry_cell hW (by go_simp)) (dcarry_cell hW (by go_simp)) (dcarry_cell hW (by go_simp)) (dcarry_cell hW (by go_simp)) (dcarry_cell hW (by go_simp))) (by
      rintro r w5 ⟨v, rfl, hN, hb5⟩
      exact ⟨v, rfl, hN.low (Nat.zero_le _), hb5⟩))) ?_
  rintro r w2 ⟨v', rfl, ⟨a2, n2, c2, rfl, HN2, hn2, hO2⟩, hbM⟩
  have hb2 := nbelow_trans hb0 hbM
  obtain ⟨m0, m1, m2, f0, f1, f2⟩ := zero_dy (r := w.heap.size + 1 + 1 + 1) (w := ((w.alloc (.cells #[.bool s, .slice a len cap, .int .i64 e] 25)).alloc (.cells #[.int .i64 pp] 3)).alloc (.cells #[.bool up] 4)) (W' := w2) (nbelow_trans (below_one _ _) hbM) (by simp)
  go_wp2_with fail
  refine bodyPost_ret (v := .tuple #[dyV (roomP (cutD (formD s (val xs) e) pp up)).1 a2 n2 c2 (roomP (cutD (formD s (val xs) e) pp up)).2.2, .int .i64 (roomE (cutD (formD s (val xs) e) pp up))]) (by simp [results, Tryd.results16, go_sem, m0, m1, m2]) rfl ⟨_, rfl, ⟨a2, n2, c2, rfl, HN2, hn2, (((hO2.far _ _ (by show w.heap.size + 1 + 1 + 1 < _; simp)).far _ _ (by show w.heap.size + 1 + 1 + 1 < _; simp)).far _ _ (by show w.heap.size + 1 + 1 + 1 < _; simp)).low (by simp; omega)⟩, ?_⟩
  exact ((hb2.setCell (by show w.heap.size ≤ w.heap.size + 1 + 1 + 1; omega) _).setCell (by show w.heap.size ≤ w.heap.size + 1 + 1 + 1; omega) _).setCell (by show w.heap.size ≤ w.heap.size + 1 + 1 + 1; omega) _

end Go.Proofs.YticjhheceoeilaaDoor

namespace Go.Proofs.YticjhheceoeilaaDoor
open Go.RowKit

/-- What was there and may be written is so still. -/
def SoftD (w w' : World) : Prop := ∀ (p : Addr) (v : Value), w.cell? p = some v → w.frozen? p = false → ∃ v', w'.cell? p = some v' ∧ w'.frozen? p = false
theorem SoftD.refl (w : World) : SoftD w w := fun _ v h1 h2 => ⟨v, h1, h2⟩
theorem SoftD.set {a b : World} (h : SoftD a b) (q : Addr) (u : Value) : SoftD a (b.setCell q u) := fun p v h1 h2 => by
  obtain ⟨v', e1, e2⟩ := h p v h1 h2
  by_cases hq : p = q
  · subst hq
    exact ⟨u, World.cell?_setCell_same _ _ _ e1, (World.frozen?_setCell b _ _ _).trans e2⟩
  · exact ⟨v', by rw [World.cell?_setCell_other _ _ _ _ (fun e => hq e.symm)]; exact e1, (World.frozen?_setCell b _ _ _).trans e2⟩
theorem SoftD.below {w w' : World} (hb : Below w.heap.size w w') : SoftD w w' := fun _ v h1 h2 => ⟨v, dcarry_cell hb h1, dcarry_frozen hb h1 h2⟩

set_option maxRecDepth 100000 in
set_option maxHeartbeats 1000000 in
theorem spoil_zero (s : Bool) (a : Option Addr) (e : Int) (w : World) :
    Calls Tryd.prog 17 #[dyV s a 0 0 e] w fun r w' => r = .returned (.tuple #[]) ∧ Below w.heap.size w w' := by
  have bw := below_one w (.cells #[.bool s, .slice a 0 0, .int .i64 e] 25)
  have k1 : (w.alloc (.cells #[.bool s, .slice a 0 0, .int .i64 e] 25)).cell? ⟨w.heap.size, 1, none⟩ = some (.slice a 0 0) := by go_simp
  go_enter Tryd.func17, Tryd.ntmps17
  go_wp2_with fail
  generalize (w.alloc (.cells #[.bool s, .slice a 0 0, .int .i64 e] 25)) = w1 at *
  go_loopw [2] (fun vi wr => vi = .int .i64 0 ∧ wr = w1) (fun _ _ => 0)
  case atStart => exact ⟨rfl, rfl⟩
  case round =>
    obtain ⟨rfl, rfl⟩ := hrel
    go_wp2_with fail
    go_loopw [3] (fun vi wr2 => vi = .int .i64 0 ∧ wr2 = wr) (fun _ _ => 0)
    case atStart => exact ⟨rfl, rfl⟩
    case round =>
      obtain ⟨rfl, rfl⟩ := hrel
      go_wp2_with fail
      go_end0
      exact ⟨rfl, bw⟩

set_option maxRecDepth 100000 in
set_option maxHeartbeats 2000000 in
theorem spoil_some (s : Bool) (b off n c : Nat) (e : Int) (w : World) (hn : n ≤ c) (hc : c ≤ 9223372036854775807) (h0 : 0 < c) (h : WrR 0 w (some ⟨b, off, none⟩) c) :
    Calls Tryd.prog 17 #[dyV s (some ⟨b, off, none⟩) n c e] w fun r w' => r = .returned (.tuple #[]) ∧ Rn b w w' := by
  have hcell : ∀ i, i < c → ∃ v, w.cell? ⟨b, off + i, none⟩ = some v ∧ w.frozen? ⟨b, off + i, none⟩ = false := fun i hi => by
    obtain ⟨b', off', v, e1, -, e3, e4⟩ := h i hi
    simp only [Option.some.injEq, Addr.mk.injEq, and_true] at e1
    obtain ⟨rfl, rfl⟩ := e1
    exact ⟨v, e3, e4⟩
  have hlt : b < w.heap.size := by
    obtain ⟨v, e3, -⟩ := hcell 0 h0
    exact World.block_lt_of_cell? _ _ e3
  have bw := below_one w (.cells #[.bool s, .slice (some ⟨b, off, none⟩) n c, .int .i64 e] 25)
  have k1 : (w.alloc (.cells #[.bool s, .slice (some ⟨b, off, none⟩) n c, .int .i64 e] 25)).cell? ⟨w.heap.size, 1, none⟩ = some (.slice (some ⟨b, off, none⟩) n c) := by go_simp
  have HC : Hid (∀ i, i < c → ∃ v, (w.alloc (.cells #[.bool s, .slice (some ⟨b, off, none⟩) n c, .int .i64 e] 25)).cell? ⟨b, off + i, none⟩ = some v ∧ (w.alloc (.cells #[.bool s, .slice (some ⟨b, off, none⟩) n c, .int .i64 e] 25)).frozen? ⟨b, off + i, none⟩ = false) := fun i hi => by
    obtain ⟨v, e3, e4⟩ := hcell i hi
    exact ⟨v, dcarry_cell bw e3, dcarry_frozen bw e3 e4⟩
  have HNE : Hid (w.heap.size ≠ b) := by show w.heap.size ≠ b; omega
  have R0 : Rn b w (w.alloc (.cells #[.bool s, .slice (some ⟨b, off, none⟩) n c, .int .i64 e] 25)) := Rn.of_below bw
  clear hcell hlt h bw h0
  go_enter Tryd.func17, Tryd.ntmps17
  go_wp2_with fail
  generalize (w.alloc (.cells #[.bool s, .slice (some ⟨b, off, none⟩) n c, .int .i64 e] 25)) = w1 at *
  have HK : Hid (w1.cell? ⟨w.heap.size, 1, none⟩ = some (.slice (some ⟨b, off, none⟩) n c)) := k1
  have HR0 : Hid (Rn b w w1) := R0
  clear k1 R0
  go_loopw [2] (fun vi wr => ∃ k : Nat, k ≤ n ∧ vi = .int .i64 (k : Int) ∧ Rn b w1 wr ∧ SoftD w1 wr) (fun vi _ => n - (intOf vi).toNat)
  case atStart => exact ⟨0, by omega, rfl, Rn.refl _ _, SoftD.refl _⟩
  case round =>
    obtain ⟨k, hk, rfl, hr, hs⟩ := hrel
    have m1 := hr.cell HK.out HNE.out
    by_cases hlt : k < n
    · obtain ⟨v0, e3, e4⟩ := HC.out k (by omega)
      obtain ⟨v, e5, e6⟩ := hs _ _ e3 e4
      have hs2 := hs.set ⟨b, off + k, none⟩ (.int .u64 77)
      have hr2 := hr.set (p := ⟨b, off + k, none⟩) (Or.inr rfl) (.int .u64 77)
      clear hs hr e3 e4
      go_wp2_with fail
      refine ⟨⟨k + 1, by omega, by go_num, hr2, hs2⟩, by simp [intOf]; omega⟩
    · have hkn : k = n := by omega
      subst hkn
      clear hlt hk
      go_wp2_with fail
      go_loopw [3] (fun vi wr2 => ∃ j : Nat, k ≤ j ∧ j ≤ c ∧ vi = .int .i64 (j : Int) ∧ Rn b w1 wr2 ∧ SoftD w1 wr2) (fun vi _ => c - (intOf vi).toNat)
      case atStart => exact ⟨k, by omega, by omega, rfl, hr, hs⟩
      case round =>
        obtain ⟨j, hj0, hj, rfl, hr', hs'⟩ := hrel
        have m1' := hr'.cell HK.out HNE.out
        by_cases hlt : j < c
        · obtain ⟨v0, e3, e4⟩ := HC.out j (by omega)
          obtain ⟨v, e5, e6⟩ := hs' _ _ e3 e4
          have hs2 := hs'.set ⟨b, off + j, none⟩ (.int .u64 55)
          have hr2 := hr'.set (p := ⟨b, off + j, none⟩) (Or.inr rfl) (.int .u64 55)
          clear hs' hr' e3 e4 hs hr
          go_wp2_with fail
          refine ⟨⟨j + 1, by omega, by omega, by go_num, hr2, hs2⟩, by simp [intOf]; omega⟩
        · clear hs hr
          go_wp2_with fail
          go_end0
          exact ⟨rfl, HR0.out.trans hr'⟩
end Go.Proofs.YticjhheceoeilaaDoor

namespace Go.Proofs.YticjhheceoeilaaDoor
open Go.RowKit

/-- Of what was there nothing has turned but blocks from B on that lie below T. -/
def Kp (B T : Nat) (w w' : World) : Prop := w'.os = w.os ∧ w'.tape = w.tape ∧ w'.output = w.output ∧ w.heap.size ≤ w'.heap.size ∧ ∀ k, k < w.heap.size → (k < B ∨ T ≤ k) → w'.heap[k]? = w.heap[k]?
theorem Kp.of_below {B T : Nat} {w w' : World} (h : Below w.heap.size w w') : Kp B T w w' := ⟨h.os, h.tape, h.output, h.size, fun k hk _ => h.block k hk⟩
theorem Kp.of_rn {B T b : Nat} {w w' : World} (h : Rn b w w') (h1 : B ≤ b) (h2 : b < T) : Kp B T w w' := ⟨h.1, h.2.1, h.2.2.1, h.2.2.2.1, fun k hk q => h.2.2.2.2 k hk (by omega)⟩
theorem Kp.below {B T C : Nat} {w w' : World} (h : Kp B T w w') (hC : C ≤ B) (hs : C ≤ w.heap.size) : Below C w w' := ⟨h.1, h.2.1, h.2.2.1, h.2.2.2.1, fun k hk => h.2.2.2.2 k (by omega) (Or.inl (by omega))⟩
theorem Kp.cell {B T : Nat} {w w' : World} (h : Kp B T w w') {p : Addr} {v : Value} (hp : w.cell? p = some v) (hc : p.block < B ∨ T ≤ p.block) : w'.cell? p = some v :=
  (World.cell?_of_block (w := w) (h.2.2.2.2 p.block (World.block_lt_of_cell? _ _ hp) hc)).trans hp
theorem Kp.frozen {B T : Nat} {w w' : World} (h : Kp B T w w') {p : Addr} {v : Value} (hp : w.cell? p = some v) (hc : p.block < B ∨ T ≤ p.block) (hf : w.frozen? p = false) : w'.frozen? p = false :=
  (World.frozen?_of_block (w := w) (h.2.2.2.2 p.block (World.block_lt_of_cell? _ _ hp) hc)).trans hf
/-- A number whose room may be written, in blocks from B on below T. -/
def SpN (B T : Nat) (w : World) (v : Value) : Prop := ∃ (s : Bool) (a : Option Addr) (n c : Nat) (e : Int), v = dyV s a n c e ∧ n ≤ c ∧ c ≤ 9223372036854775807 ∧ ∀ i, i < c → ∃ (b off : Nat) (u : Value), a = some ⟨b, off, none⟩ ∧ B ≤ b ∧ b < T ∧ w.cell? ⟨b, off + i, none⟩ = some u ∧ w.frozen? ⟨b, off + i, none⟩ = false
theorem SpN.keep {B T : Nat} {w w' : World} {v : Value} (h : SpN B T w v) (hb : Below w.heap.size w w') : SpN B T w' v := by
  obtain ⟨s, a, n, c, e, h1, h2, h3, h4⟩ := h
  refine ⟨s, a, n, c, e, h1, h2, h3, fun i hi => ?_⟩
  obtain ⟨b, off, u, e1, e2, e3, e4, e5⟩ := h4 i hi
  exact ⟨b, off, u, e1, e2, e3, dcarry_cell hb e4, dcarry_frozen hb e4 e5⟩
theorem SpN.keepK {B T B' T' : Nat} {w w' : World} {v : Value} (h : SpN B T w v) (k : Kp B' T' w w') (hB : T' ≤ B) : SpN B T w' v := by
  obtain ⟨s, a, n, c, e, h1, h2, h3, h4⟩ := h
  refine ⟨s, a, n, c, e, h1, h2, h3, fun i hi => ?_⟩
  obtain ⟨b, off, u, e1, e2, e3, e4, e5⟩ := h4 i hi
  exact ⟨b, off, u, e1, e2, e3, k.cell e4 (Or.inr (Nat.le_trans hB e2)), k.frozen e4 (Or.inr (Nat.le_trans hB e2)) e5⟩
theorem DyAtW.sp {B : Nat} {w : World} {v : Value} {p : Bool × Nat × Int} (h : DyAtW B w v p) : SpN B w.heap.size w v := by
  obtain ⟨ao, n, c, h1, -, -, h4⟩ := h
  refine ⟨p.1, ao, n, c, p.2.2, h1, h4.1.1.2.2.1.1, Nat.le_trans h4.2.2 (by decide), fun i hi => ?_⟩
  obtain ⟨b, off, u, e1, e2, e3, e4⟩ := h4.2.1 i hi
  exact ⟨b, off, u, e1, e2, World.block_lt_of_cell? _ _ e3, e3, e4⟩
theorem sp_zero (B T : Nat) (w : World) : SpN B T w (dyV false none 0 0 0) := ⟨false, none, 0, 0, 0, rfl, Nat.le_refl _, Nat.zero_le _, fun i hi => by omega⟩
theorem spoil_calls (B T : Nat) (v : Value) (w : World) (h : SpN B T w v) :
    Calls Tryd.prog 17 #[v] w fun r w' => r = .returned (.tuple #[]) ∧ Kp B T w w' := by
  obtain ⟨s, a, n, c, e, rfl, h2, h3, h4⟩ := h
  by_cases h0 : c = 0
  · subst h0
    have hn : n = 0 := by omega
    subst hn
    refine Calls.mono (spoil_zero s a e w) ?_
    rintro r w' ⟨rfl, hb⟩
    exact ⟨rfl, Kp.of_below hb⟩
  · obtain ⟨b, off, u, rfl, e2, e3, -, -⟩ := h4 0 (by omega)
    refine Calls.mono (spoil_some s b off n c e w h2 h3 (by omega) (fun i hi => ?_)) ?_
    · obtain ⟨b', off', u', e1, -, -, e4, e5⟩ := h4 i hi
      exact ⟨b', off', u', e1, Nat.zero_le _, e4, e5⟩
    · rintro r w' ⟨rfl, hr⟩
      exact ⟨rfl, Kp.of_rn hr e2 e3⟩
/-- What Add, Cut and Canon hand out may be written over, whatever is asked. -/
theorem addW_calls (s : Bool) (a : Option Addr) (len cap : Nat) (xs : List Int) (e : Int) (t : Bool) (b : Option Addr) (len' cap' : Nat) (ys : List Int) (f : Int) (w : World) (h : IsW w a len cap xs) (hm : len ≤ 17592186044000) (h' : IsW w b len' cap' ys) (hm' : len' ≤ 17592186044000) (hT : Tab w) :
    Calls Tryd.prog 15 #[dyV s a len cap e, dyV t b len' cap' f] w fun r w' => ∃ v' E, r = .returned (.tuple #[v', .int .i64 E]) ∧ SpN w.heap.size w'.heap.size w' v' ∧ Below w.heap.size w w' := by
  cases hr : (rightB (val xs) e && rightB (val ys) f) with
  | false =>
    refine (dadd_not s a len cap xs e t b len' cap' ys f w h (by omega) h' (by omega) hr).mono ?_
    rintro r w' ⟨rfl, hb⟩
    exact ⟨_, _, rfl, sp_zero _ _ _, hb⟩
  | true =>
    obtain ⟨r1, r2⟩ := Bool.and_eq_true_iff.1 hr
    refine (dadd_yesW s a len cap xs e t b len' cap' ys f w h (by omega) h' (by omega) hT r1 r2).mono ?_
    rintro r w' ⟨v', rfl, hD, hb⟩
    exact ⟨_, _, rfl, hD.sp, hb⟩
theorem canonW_calls (s : Bool) (a : Option Addr) (len cap : Nat) (xs : List Int) (e : Int) (w : World) (h : IsW w a len cap xs) (hm : len ≤ 17592186044000) (hT : Tab w) :
    Calls Tryd.prog 9 #[dyV s a len cap e] w fun r w' => ∃ v' E, r = .returned (.tuple #[v', .int .i64 E]) ∧ SpN w.heap.size w'.heap.size w' v' ∧ Below w.heap.size w w' := by
  cases hr : rightB (val xs) e with
  | false =>
    refine (canon_not s a len cap xs e w h (by omega) hT hr).mono ?_
    rintro r w' ⟨rfl, hb⟩
    exact ⟨_, _, rfl, sp_zero _ _ _, hb⟩
  | true =>
    refine (canon_yesW s a len cap xs e w h (by omega) hT hr).mono ?_
    rintro r w' ⟨v', rfl, hD, hb⟩
    exact ⟨_, _, rfl, hD.sp, hb⟩
theorem cutW_calls (s : Bool) (a : Option Addr) (len cap : Nat) (xs : List Int) (e : Int) (pp : Int) (up : Bool) (w : World) (h : IsW w a len cap xs) (hm : len ≤ 17592186044000) (hT : Tab w) (hp : -9223372036854775808 ≤ pp ∧ pp ≤ 9223372036854775807) :
    Calls Tryd.prog 16 #[dyV s a len cap e, .int .i64 pp, .bool up] w fun r w' => ∃ v' E, r = .returned (.tuple #[v', .int .i64 E]) ∧ SpN w.heap.size w'.heap.size w' v' ∧ Below w.heap.size w w' := by
  by_cases h1 : pp < 1
  · refine (dcut_few s a len cap e pp up w h1).mono ?_
    rintro r w' ⟨rfl, hb⟩
    exact ⟨_, _, rfl, sp_zero _ _ _, hb⟩
  · cases hr : rightB (val xs) e with
    | false =>
      refine (dcut_not s a len cap xs e pp up w h (by omega) (by omega) hr).mono ?_
      rintro r w' ⟨rfl, hb⟩
      exact ⟨_, _, rfl, sp_zero _ _ _, hb⟩
    | true =>
      refine (dcut_yesW s a len cap xs e pp up w h (by omega) hT ⟨by omega, by omega⟩ hr).mono ?_
      rintro r w' ⟨v', rfl, hD, hb⟩
      exact ⟨_, _, rfl, hD.sp, hb⟩
theorem room_len (p : Bool × Nat × Int) : (wordsOf (roomP p).2.1).length ≤ 1024 := by
  unfold roomP
  split
  · rename_i q
    unfold roomB at q
    rw [Bool.and_eq_true] at q
    exact (words_len2 _ _).2 ((great_not _).1 (by simpa using q.1))
  · exact zero_len
theorem tw_len (b : Bool) (p : Bool × Nat × Int) : (wordsOf (twP b p).2.1).length ≤ 1024 := by
  unfold twP
  split
  · exact room_len p
  · exact zero_len
theorem can_len (s : Bool) (m : Nat) (e : Int) : (wordsOf (canP s m e).2.1).length ≤ 1024 := by
  unfold canP
  split
  · exact room_len _
  · exact zero_len
theorem sameP (c : Bool × Nat × Int) (a : Option Addr) (n d : Nat) (a' : Option Addr) (n' d' : Nat) (w : World) (h : IsW w a n d (wordsOf c.2.1)) (hn : n ≤ 1024) (h' : IsW w a' n' d' (wordsOf c.2.1)) (hn' : n' ≤ 1024) :
    Calls Tryd.prog 6 #[dyV c.1 a n d c.2.2, dyV c.1 a' n' d' c.2.2] w fun r w' => r = .returned (.bool true) ∧ Below w.heap.size w w' := by
  have := qSame_calls c.1 a n d (wordsOf c.2.1) c.2.2 c.1 a' n' d' (wordsOf c.2.1) c.2.2 w h (by omega) h' (by omega)
  rw [sameB_self] at this
  exact this

set_option maxRecDepth 100000 in
set_option maxHeartbeats 8000000 in
theorem dyadOwn_walk (s : Bool) (a : Option Addr) (len cap : Nat) (xs : List Int) (e : Int) (t : Bool) (b : Option Addr) (len' cap' : Nat) (ys : List Int) (f : Int) (pp : Int) (w : World) (h : IsW w a len cap xs) (hm : len ≤ 17592186044000) (_he : -9223372036854775808 ≤ e ∧ e ≤ 9223372036854775807) (h' : IsW w b len' cap' ys) (hm' : len' ≤ 17592186044000) (_hf : -9223372036854775808 ≤ f ∧ f ≤ 9223372036854775807) (hpp : -9223372036854775808 ≤ pp ∧ pp ≤ 9223372036854775807) (hT : Tab w) :
    Calls Tryd.prog 4 #[dyV s a len cap e, dyV t b len' cap' f, .int .i64 pp] w fun r w' => r = .returned (.bool true) ∧ Below w.heap.size w w' := by
  have HT : Hid (∀ w', Below w.heap.size w w' → Tab w') := fun w' hb => hT.kept hb
  have HCp : Hid _ := fun W q => qCopy_calls s a len cap xs e W q (by omega)
  have HAW : Hid _ := fun ao c' W q q' T => addW_calls s ao len c' xs e t b len' cap' ys f W q hm q' hm' T
  have HCW : Hid _ := fun ao c' W q T => cutW_calls s ao len c' xs e pp true W q hm T hpp
  have HNW : Hid _ := fun ao c' W q T => canonW_calls s ao len c' xs e W q hm T
  have HPA : Hid _ := fun W q q' T => pAdd_calls s a len cap xs e t b len' cap' ys f W q hm q' hm' T
  have HQA : Hid _ := fun W q q' => qAdd_calls s a len cap xs e t b len' cap' ys f W q hm q' hm'
  have HPC : Hid _ := fun W q T => pCanon_calls s a len cap xs e W q (by omega) T
  have HQC : Hid _ := fun W q => qCanon_calls s a len cap xs e W q (by omega)
  have HSG : Hid _ := fun ao c' W q q' => qSame_calls s ao len c' xs e s a len cap xs e W q (by omega) q' (by omega)
  rw [sameB_self] at HSG
  have H1 : Hid (IsW w a len cap xs) := h
  have H2 : Hid (IsW w b len' cap' ys) := h'
  have HP : Hid _ := tw_len (rightB (val xs) e && rightB (val ys) f) (sumD (formD s (val xs) e) (formD t (val ys) f))
  generalize twE (rightB (val xs) e && rightB (val ys) f) (sumD (formD s (val xs) e) (formD t (val ys) f)) = EA at *
  generalize twP (rightB (val xs) e && rightB (val ys) f) (sumD (formD s (val xs) e) (formD t (val ys) f)) = PA at *
  have HPc : Hid _ := can_len s (val xs) e
  generalize canE s (val xs) e = EC at *
  generalize canP s (val xs) e = PC at *
  have bw : Below w.heap.size w ((w.alloc (.cells #[.bool s, .slice a len cap, .int .i64 e] 25)).alloc (.cells #[.bool t, .slice b len' cap', .int .i64 f] 25)) := nbelow_trans (below_one _ _) (below_one _ _)
  have a0 : ((w.alloc (.cells #[.bool s, .slice a len cap, .int .i64 e] 25)).alloc (.cells #[.bool t, .slice b len' cap', .int .i64 f] 25)).cell? ⟨w.heap.size, 0, none⟩ = some (.bool s) := by go_simp
  have a1 : ((w.alloc (.cells #[.bool s, .slice a len cap, .int .i64 e] 25)).alloc (.cells #[.bool t, .slice b len' cap', .int .i64 f] 25)).cell? ⟨w.heap.size, 1, none⟩ = some (.slice a len cap) := by go_simp
  have a2 : ((w.alloc (.cells #[.bool s, .slice a len cap, .int .i64 e] 25)).alloc (.cells #[.bool t, .slice b len' cap', .int .i64 f] 25)).cell? ⟨w.heap.size, 2, none⟩ = some (.int .i64 e) := by go_simp
  have b0 : ((w.alloc (.cells #[.bool s, .slice a len cap, .int .i64 e] 25)).alloc (.cells #[.bool t, .slice b len' cap', .int .i64 f] 25)).cell? ⟨w.heap.size + 1, 0, none⟩ = some (.bool t) := by go_simp
  have b1 : ((w.alloc (.cells #[.bool s, .slice a len cap, .int .i64 e] 25)).alloc (.cells #[.bool t, .slice b len' cap', .int .i64 f] 25)).cell? ⟨w.heap.size + 1, 1, none⟩ = some (.slice b len' cap') := by go_simp
  have b2 : ((w.alloc (.cells #[.bool s, .slice a len cap, .int .i64 e] 25)).alloc (.cells #[.bool t, .slice b len' cap', .int .i64 f] 25)).cell? ⟨w.heap.size + 1, 2, none⟩ = some (.int .i64 f) := by go_simp
  clear h h' hm hm' hT hpp _he _hf
  go_enter Tryd.func4, Tryd.ntmps4
  go_wp2_with fail
  generalize ((w.alloc (.cells #[.bool s, .slice a len cap, .int .i64 e] 25)).alloc (.cells #[.bool t, .slice b len' cap', .int .i64 f] 25)) = w0 at *
  refine Calls.mono (dyBegins_calls _ (HT.out _ bw)) ?_
  rintro r w1 ⟨rfl, bN⟩
  replace a0 := dcarry_cell bN a0
  replace a1 := dcarry_cell bN a1
  replace a2 := dcarry_cell bN a2
  replace b0 := dcarry_cell bN b0
  replace b1 := dcarry_cell bN b1
  replace b2 := dcarry_cell bN b2
  replace bw := nbelow_trans bw bN
  clear bN
  go_wp2_with fail
  refine Calls.mono (HCp.out _ (H1.out.keep bw)) ?_
  rintro r w2 ⟨ag, cg, rfl, hO, bN⟩
  replace a0 := dcarry_cell bN a0
  replace a1 := dcarry_cell bN a1
  replace a2 := dcarry_cell bN a2
  replace b0 := dcarry_cell bN b0
  replace b1 := dcarry_cell bN b1
  replace b2 := dcarry_cell bN b2
  replace bw := nbelow_trans bw bN
  clear bN
  have HG := hO.1
  clear hO
  have bA := below_one w2 (.cells #[.bool s, .slice ag len cg, .int .i64 e] 25)
  replace a0 := dcarry_cell bA a0
  replace a1 := dcarry_cell bA a1
  replace a2 := dcarry_cell bA a2
  replace b0 := dcarry_cell bA b0
  replace b1 := dcarry_cell bA b1
  replace b2 := dcarry_cell bA b2
  replace HG := HG.keep bA
  replace bw := nbelow_trans bw bA
  clear bA
  have g0 : (w2.alloc (.cells #[.bool s, .slice ag len cg, .int .i64 e] 25)).cell? ⟨w2.heap.size, 0, none⟩ = some (.bool s) := by go_simp
  have g1 : (w2.alloc (.cells #[.bool s, .slice ag len cg, .int .i64 e] 25)).cell? ⟨w2.heap.size, 1, none⟩ = some (.slice ag len cg) := by go_simp
  have g2 : (w2.alloc (.cells #[.bool s, .slice ag len cg, .int .i64 e] 25)).cell? ⟨w2.heap.size, 2, none⟩ = some (.int .i64 e) := by go_simp
  go_wp2_with fail
  generalize (w2.alloc (.cells #[.bool s, .slice ag len cg, .int .i64 e] 25)) = w3 at *
  have bw3 : Hid (w.heap.size ≤ w3.heap.size) := bw.size
  have HG3 : Hid (IsW w3 ag len cg xs) := HG
  clear HG
  have bG : Below w3.heap.size w3 w3 := Below.refl _ _
  have Ha0 : Hid _ := a0
  have Ha1 : Hid _ := a1
  have Ha2 : Hid _ := a2
  have Hb0 : Hid _ := b0
  have Hb1 : Hid _ := b1
  have Hb2 : Hid _ := b2
  have Hg0 : Hid _ := g0
  have Hg1 : Hid _ := g1
  have Hg2 : Hid _ := g2
  refine Calls.mono (HAW.out _ _ _ (HG3.out.keep bG) (H2.out.keep bw) (HT.out _ bw)) ?_
  rintro r w4 ⟨vx, Ex, rfl, Sx, bN⟩
  replace a0 := dcarry_cell bN a0
  replace a1 := dcarry_cell bN a1
  replace a2 := dcarry_cell bN a2
  replace b0 := dcarry_cell bN b0
  replace b1 := dcarry_cell bN b1
  replace b2 := dcarry_cell bN b2
  replace g0 := dcarry_cell bN g0
  replace g1 := dcarry_cell bN g1
  replace g2 := dcarry_cell bN g2
  replace bw := nbelow_trans bw bN
  replace bG := nbelow_trans bG bN
  have lx : Hid (w3.heap.size ≤ w4.heap.size) := bN.size
  clear bN
  obtain ⟨sx, adx, nx, cx, ex, hvx, Sx1, Sx2, Sx3⟩ := Sx
  subst hvx
  have Sx : SpN w3.heap.size w4.heap.size w4 (dyV sx adx nx cx ex) := ⟨_, _, _, _, _, rfl, Sx1, Sx2, Sx3⟩
  clear Sx1 Sx2 Sx3
  have bA := below_one w4 (.cells #[.bool sx, .slice adx nx cx, .int .i64 ex] 25)
  replace a0 := dcarry_cell bA a0
  replace a1 := dcarry_cell bA a1
  replace a2 := dcarry_cell bA a2
  replace b0 := dcarry_cell bA b0
  replace b1 := dcarry_cell bA b1
  replace b2 := dcarry_cell bA b2
  replace g0 := dcarry_cell bA g0
  replace g1 := dcarry_cell bA g1
  replace g2 := dcarry_cell bA g2
  replace Sx := Sx.keep bA
  replace bw := nbelow_trans bw bA
  replace bG := nbelow_trans bG bA
  clear bA
  have x0 : (w4.alloc (.cells #[.bool sx, .slice adx nx cx, .int .i64 ex] 25)).cell? ⟨w4.heap.size, 0, none⟩ = some (.bool sx) := by go_simp
  have fx0 : (w4.alloc (.cells #[.bool sx, .slice adx nx cx, .int .i64 ex] 25)).frozen? ⟨w4.heap.size, 0, none⟩ = false := by go_simp
  have x1 : (w4.alloc (.cells #[.bool sx, .slice adx nx cx, .int .i64 ex] 25)).cell? ⟨w4.heap.size, 1, none⟩ = some (.slice adx nx cx) := by go_simp
  have fx1 : (w4.alloc (.cells #[.bool sx, .slice adx nx cx, .int .i64 ex] 25)).frozen? ⟨w4.heap.size, 1, none⟩ = false := by go_simp
  have x2 : (w4.alloc (.cells #[.bool sx, .slice adx nx cx, .int .i64 ex] 25)).cell? ⟨w4.heap.size, 2, none⟩ = some (.int .i64 ex) := by go_simp
  have fx2 : (w4.alloc (.cells #[.bool sx, .slice adx nx cx, .int .i64 ex] 25)).frozen? ⟨w4.heap.size, 2, none⟩ = false := by go_simp
  have mx : Hid (w4.heap.size < (w4.alloc (.cells #[.bool sx, .slice adx nx cx, .int .i64 ex] 25)).heap.size) := by show w4.heap.size < _; simp
  go_wp2_with fail
  generalize (w4.alloc (.cells #[.bool sx, .slice adx nx cx, .int .i64 ex] 25)) = w5 at *
  refine Calls.mono (HCW.out _ _ _ (HG3.out.keep bG) (HT.out _ bw)) ?_
  rintro r w6 ⟨vy, Ey, rfl, Sy, bN⟩
  replace fx0 := dcarry_frozen bN x0 fx0
  replace fx1 := dcarry_frozen bN x1 fx1
  replace fx2 := dcarry_frozen bN x2 fx2
  replace a0 := dcarry_cell bN a0
  replace a1 := dcarry_cell bN a1
  replace a2 := dcarry_cell bN a2
  replace b0 := dcarry_cell bN b0
  replace b1 := dcarry_cell bN b1
  replace b2 := dcarry_cell bN b2
  replace g0 := dcarry_cell bN g0
  replace g1 := dcarry_cell bN g1
  replace g2 := dcarry_cell bN g2
  replace x0 := dcarry_cell bN x0
  replace x1 := dcarry_cell bN x1
  replace x2 := dcarry_cell bN x2
  replace Sx := Sx.keep bN
  replace bw := nbelow_trans bw bN
  replace bG := nbelow_trans bG bN
  have ly : Hid (w5.heap.size ≤ w6.heap.size) := bN.size
  clear bN
  obtain ⟨sy, ady, ny, cy, ey, hvy, Sy1, Sy2, Sy3⟩ := Sy
  subst hvy
  have Sy : SpN w5.heap.size w6.heap.size w6 (dyV sy ady ny cy ey) := ⟨_, _, _, _, _, rfl, Sy1, Sy2, Sy3⟩
  clear Sy1 Sy2 Sy3
  have bA := below_one w6 (.cells #[.bool sy, .slice ady ny cy, .int .i64 ey] 25)
  replace fx0 := dcarry_frozen bA x0 fx0
  replace fx1 := dcarry_frozen bA x1 fx1
  replace fx2 := dcarry_frozen bA x2 fx2
  replace a0 := dcarry_cell bA a0
  replace a1 := dcarry_cell bA a1
  replace a2 := dcarry_cell bA a2
  replace b0 := dcarry_cell bA b0
  replace b1 := dcarry_cell bA b1
  replace b2 := dcarry_cell bA b2
  replace g0 := dcarry_cell bA g0
  replace g1 := dcarry_cell bA g1
  replace g2 := dcarry_cell bA g2
  replace x0 := dcarry_cell bA x0
  replace x1 := dcarry_cell bA x1
  replace x2 := dcarry_cell bA x2
  replace Sx := Sx.keep bA
  replace Sy := Sy.keep bA
  replace bw := nbelow_trans bw bA
  replace bG := nbelow_trans bG bA
  clear bA
  have y0 : (w6.alloc (.cells #[.bool sy, .slice ady ny cy, .int .i64 ey] 25)).cell? ⟨w6.heap.size, 0, none⟩ = some (.bool sy) := by go_simp
  have fy0 : (w6.alloc (.cells #[.bool sy, .slice ady ny cy, .int .i64 ey] 25)).frozen? ⟨w6.heap.size, 0, none⟩ = false := by go_simp
  have y1 : (w6.alloc (.cells #[.bool sy, .slice ady ny cy, .int .i64 ey] 25)).cell? ⟨w6.heap.size, 1, none⟩ = some (.slice ady ny cy) := by go_simp
  have fy1 : (w6.alloc (.cells #[.bool sy, .slice ady ny cy, .int .i64 ey] 25)).frozen? ⟨w6.heap.size, 1, none⟩ = false := by go_simp
  have y2 : (w6.alloc (.cells #[.bool sy, .slice ady ny cy, .int .i64 ey] 25)).cell? ⟨w6.heap.size, 2, none⟩ = some (.int .i64 ey) := by go_simp
  have fy2 : (w6.alloc (.cells #[.bool sy, .slice ady ny cy, .int .i64 ey] 25)).frozen? ⟨w6.heap.size, 2, none⟩ = false := by go_simp
  have my : Hid (w6.heap.size < (w6.alloc (.cells #[.bool sy, .slice ady ny cy, .int .i64 ey] 25)).heap.size) := by show w6.heap.size < _; simp
  go_wp2_with fail
  generalize (w6.alloc (.cells #[.bool sy, .slice ady ny cy, .int .i64 ey] 25)) = w7 at *
  refine Calls.mono (HNW.out _ _ _ (HG3.out.keep bG) (HT.out _ bw)) ?_
  rintro r w8 ⟨vz, Ez, rfl, Sz, bN⟩
  replace fx0 := dcarry_frozen bN x0 fx0
  replace fx1 := dcarry_frozen bN x1 fx1
  replace fx2 := dcarry_frozen bN x2 fx2
  replace fy0 := dcarry_frozen bN y0 fy0
  replace fy1 := dcarry_frozen bN y1 fy1
  replace fy2 := dcarry_frozen bN y2 fy2
  replace a0 := dcarry_cell bN a0
  replace a1 := dcarry_cell bN a1
  replace a2 := dcarry_cell bN a2
  replace b0 := dcarry_cell bN b0
  replace b1 := dcarry_cell bN b1
  replace b2 := dcarry_cell bN b2
  replace g0 := dcarry_cell bN g0
  replace g1 := dcarry_cell bN g1
  replace g2 := dcarry_cell bN g2
  replace x0 := dcarry_cell bN x0
  replace x1 := dcarry_cell bN x1
  replace x2 := dcarry_cell bN x2
  replace y0 := dcarry_cell bN y0
  replace y1 := dcarry_cell bN y1
  replace y2 := dcarry_cell bN y2
  replace Sx := Sx.keep bN
  replace Sy := Sy.keep bN
  replace bw := nbelow_trans bw bN
  replace bG := nbelow_trans bG bN
  have lz : Hid (w7.heap.size ≤ w8.heap.size) := bN.size
  clear bN
  obtain ⟨sz, adz, nz, cz, ez, hvz, Sz1, Sz2, Sz3⟩ := Sz
  subst hvz
  have Sz : SpN w7.heap.size w8.heap.size w8 (dyV sz adz nz cz ez) := ⟨_, _, _, _, _, rfl, Sz1, Sz2, Sz3⟩
  clear Sz1 Sz2 Sz3
  have bA := below_one w8 (.cells #[.bool sz, .slice adz nz cz, .int .i64 ez] 25)
  replace fx0 := dcarry_frozen bA x0 fx0
  replace fx1 := dcarry_frozen bA x1 fx1
  replace fx2 := dcarry_frozen bA x2 fx2
  replace fy0 := dcarry_frozen bA y0 fy0
  replace fy1 := dcarry_frozen bA y1 fy1
  replace fy2 := dcarry_frozen bA y2 fy2
  replace a0 := dcarry_cell bA a0
  replace a1 := dcarry_cell bA a1
  replace a2 := dcarry_cell bA a2
  replace b0 := dcarry_cell bA b0
  replace b1 := dcarry_cell bA b1
  replace b2 := dcarry_cell bA b2
  replace g0 := dcarry_cell bA g0
  replace g1 := dcarry_cell bA g1
  replace g2 := dcarry_cell bA g2
  replace x0 := dcarry_cell bA x0
  replace x1 := dcarry_cell bA x1
  replace x2 := dcarry_cell bA x2
  replace y0 := dcarry_cell bA y0
  replace y1 := dcarry_cell bA y1
  replace y2 := dcarry_cell bA y2
  replace Sx := Sx.keep bA
  replace Sy := Sy.keep bA
  replace Sz := Sz.keep bA
  replace bw := nbelow_trans bw bA
  replace bG := nbelow_trans bG bA
  clear bA
  have z0 : (w8.alloc (.cells #[.bool sz, .slice adz nz cz, .int .i64 ez] 25)).cell? ⟨w8.heap.size, 0, none⟩ = some (.bool sz) := by go_simp
  have fz0 : (w8.alloc (.cells #[.bool sz, .slice adz nz cz, .int .i64 ez] 25)).frozen? ⟨w8.heap.size, 0, none⟩ = false := by go_simp
  have z1 : (w8.alloc (.cells #[.bool sz, .slice adz nz cz, .int .i64 ez] 25)).cell? ⟨w8.heap.size, 1, none⟩ = some (.slice adz nz cz) := by go_simp
  have fz1 : (w8.alloc (.cells #[.bool sz, .slice adz nz cz, .int .i64 ez] 25)).frozen? ⟨w8.heap.size, 1, none⟩ = false := by go_simp
  have z2 : (w8.alloc (.cells #[.bool sz, .slice adz nz cz, .int .i64 ez] 25)).cell? ⟨w8.heap.size, 2, none⟩ = some (.int .i64 ez) := by go_simp
  have fz2 : (w8.alloc (.cells #[.bool sz, .slice adz nz cz, .int .i64 ez] 25)).frozen? ⟨w8.heap.size, 2, none⟩ = false := by go_simp
  have mz : Hid (w8.heap.size < (w8.alloc (.cells #[.bool sz, .slice adz nz cz, .int .i64 ez] 25)).heap.size) := by show w8.heap.size < _; simp
  go_wp2_with fail
  generalize (w8.alloc (.cells #[.bool sz, .slice adz nz cz, .int .i64 ez] 25)) = w9 at *
  have ord : w3.heap.size ≤ w4.heap.size ∧ w4.heap.size < w5.heap.size ∧ w5.heap.size ≤ w6.heap.size ∧ w6.heap.size < w7.heap.size ∧ w7.heap.size ≤ w8.heap.size ∧ w8.heap.size < w9.heap.size := ⟨lx.out, mx.out, ly.out, my.out, lz.out, mz.out⟩
  have hw3 : w.heap.size ≤ w3.heap.size := bw3.out
  have HORD : Hid _ := ord
  have HW3 : Hid _ := hw3
  clear ord hw3 lx mx ly my lz mz
  clear a0
  clear a1
  clear a2
  clear b0
  clear b1
  clear b2
  clear g0
  clear g1
  clear g2
  refine Calls.mono (spoil_calls _ _ _ _ Sx) ?_
  rintro r w10 ⟨rfl, kp⟩
  replace fx0 := kp.frozen x0 (by have := HORD.out; show w4.heap.size < _ ∨ _ ≤ w4.heap.size; omega) fx0
  replace fx1 := kp.frozen x1 (by have := HORD.out; show w4.heap.size < _ ∨ _ ≤ w4.heap.size; omega) fx1
  replace fx2 := kp.frozen x2 (by have := HORD.out; show w4.heap.size < _ ∨ _ ≤ w4.heap.size; omega) fx2
  replace x0 := kp.cell x0 (by have := HORD.out; show w4.heap.size < _ ∨ _ ≤ w4.heap.size; omega)
  replace x1 := kp.cell x1 (by have := HORD.out; show w4.heap.size < _ ∨ _ ≤ w4.heap.size; omega)
  replace x2 := kp.cell x2 (by have := HORD.out; show w4.heap.size < _ ∨ _ ≤ w4.heap.size; omega)
  replace fy0 := kp.frozen y0 (by have := HORD.out; show w6.heap.size < _ ∨ _ ≤ w6.heap.size; omega) fy0
  replace fy1 := kp.frozen y1 (by have := HORD.out; show w6.heap.size < _ ∨ _ ≤ w6.heap.size; omega) fy1
  replace fy2 := kp.frozen y2 (by have := HORD.out; show w6.heap.size < _ ∨ _ ≤ w6.heap.size; omega) fy2
  replace y0 := kp.cell y0 (by have := HORD.out; show w6.heap.size < _ ∨ _ ≤ w6.heap.size; omega)
  replace y1 := kp.cell y1 (by have := HORD.out; show w6.heap.size < _ ∨ _ ≤ w6.heap.size; omega)
  replace y2 := kp.cell y2 (by have := HORD.out; show w6.heap.size < _ ∨ _ ≤ w6.heap.size; omega)
  replace fz0 := kp.frozen z0 (by have := HORD.out; show w8.heap.size < _ ∨ _ ≤ w8.heap.size; omega) fz0
  replace fz1 := kp.frozen z1 (by have := HORD.out; show w8.heap.size < _ ∨ _ ≤ w8.heap.size; omega) fz1
  replace fz2 := kp.frozen z2 (by have := HORD.out; show w8.heap.size < _ ∨ _ ≤ w8.heap.size; omega) fz2
  replace z0 := kp.cell z0 (by have := HORD.out; show w8.heap.size < _ ∨ _ ≤ w8.heap.size; omega)
  replace z1 := kp.cell z1 (by have := HORD.out; show w8.heap.size < _ ∨ _ ≤ w8.heap.size; omega)
  replace z2 := kp.cell z2 (by have := HORD.out; show w8.heap.size < _ ∨ _ ≤ w8.heap.size; omega)
  replace Sy := Sy.keepK kp (by have := HORD.out; omega)
  replace Sz := Sz.keepK kp (by have := HORD.out; omega)
  clear Sx
  replace bw := bw.trans (kp.below (by have := HORD.out; have := HW3.out; omega) bw.size)
  replace bG := bG.trans (kp.below (by have := HORD.out; omega) bG.size)
  clear kp
  go_wp2_with fail
  refine Calls.mono (spoil_calls _ _ _ _ Sy) ?_
  rintro r w11 ⟨rfl, kp⟩
  replace fx0 := kp.frozen x0 (by have := HORD.out; show w4.heap.size < _ ∨ _ ≤ w4.heap.size; omega) fx0
  replace fx1 := kp.frozen x1 (by have := HORD.out; show w4.heap.size < _ ∨ _ ≤ w4.heap.size; omega) fx1
  replace fx2 := kp.frozen x2 (by have := HORD.out; show w4.heap.size < _ ∨ _ ≤ w4.heap.size; omega) fx2
  replace x0 := kp.cell x0 (by have := HORD.out; show w4.heap.size < _ ∨ _ ≤ w4.heap.size; omega)
  replace x1 := kp.cell x1 (by have := HORD.out; show w4.heap.size < _ ∨ _ ≤ w4.heap.size; omega)
  replace x2 := kp.cell x2 (by have := HORD.out; show w4.heap.size < _ ∨ _ ≤ w4.heap.size; omega)
  replace fy0 := kp.frozen y0 (by have := HORD.out; show w6.heap.size < _ ∨ _ ≤ w6.heap.size; omega) fy0
  replace fy1 := kp.frozen y1 (by have := HORD.out; show w6.heap.size < _ ∨ _ ≤ w6.heap.size; omega) fy1
  replace fy2 := kp.frozen y2 (by have := HORD.out; show w6.heap.size < _ ∨ _ ≤ w6.heap.size; omega) fy2
  replace y0 := kp.cell y0 (by have := HORD.out; show w6.heap.size < _ ∨ _ ≤ w6.heap.size; omega)
  replace y1 := kp.cell y1 (by have := HORD.out; show w6.heap.size < _ ∨ _ ≤ w6.heap.size; omega)
  replace y2 := kp.cell y2 (by have := HORD.out; show w6.heap.size < _ ∨ _ ≤ w6.heap.size; omega)
  replace fz0 := kp.frozen z0 (by have := HORD.out; show w8.heap.size < _ ∨ _ ≤ w8.heap.size; omega) fz0
  replace fz1 := kp.frozen z1 (by have := HORD.out; show w8.heap.size < _ ∨ _ ≤ w8.heap.size; omega) fz1
  replace fz2 := kp.frozen z2 (by have := HORD.out; show w8.heap.size < _ ∨ _ ≤ w8.heap.size; omega) fz2
  replace z0 := kp.cell z0 (by have := HORD.out; show w8.heap.size < _ ∨ _ ≤ w8.heap.size; omega)
  replace z1 := kp.cell z1 (by have := HORD.out; show w8.heap.size < _ ∨ _ ≤ w8.heap.size; omega)
  replace z2 := kp.cell z2 (by have := HORD.out; show w8.heap.size < _ ∨ _ ≤ w8.heap.size; omega)
  replace Sz := Sz.keepK kp (by have := HORD.out; omega)
  clear Sy
  replace bw := bw.trans (kp.below (by have := HORD.out; have := HW3.out; omega) bw.size)
  replace bG := bG.trans (kp.below (by have := HORD.out; omega) bG.size)
  clear kp
  go_wp2_with fail
  refine Calls.mono (spoil_calls _ _ _ _ Sz) ?_
  rintro r w12 ⟨rfl, kp⟩
  replace fx0 := kp.frozen x0 (by have := HORD.out; show w4.heap.size < _ ∨ _ ≤ w4.heap.size; omega) fx0
  replace fx1 := kp.frozen x1 (by have := HORD.out; show w4.heap.size < _ ∨ _ ≤ w4.heap.size; omega) fx1
  replace fx2 := kp.frozen x2 (by have := HORD.out; show w4.heap.size < _ ∨ _ ≤ w4.heap.size; omega) fx2
  replace x0 := kp.cell x0 (by have := HORD.out; show w4.heap.size < _ ∨ _ ≤ w4.heap.size; omega)
  replace x1 := kp.cell x1 (by have := HORD.out; show w4.heap.size < _ ∨ _ ≤ w4.heap.size; omega)
  replace x2 := kp.cell x2 (by have := HORD.out; show w4.heap.size < _ ∨ _ ≤ w4.heap.size; omega)
  replace fy0 := kp.frozen y0 (by have := HORD.out; show w6.heap.size < _ ∨ _ ≤ w6.heap.size; omega) fy0
  replace fy1 := kp.frozen y1 (by have := HORD.out; show w6.heap.size < _ ∨ _ ≤ w6.heap.size; omega) fy1
  replace fy2 := kp.frozen y2 (by have := HORD.out; show w6.heap.size < _ ∨ _ ≤ w6.heap.size; omega) fy2
  replace y0 := kp.cell y0 (by have := HORD.out; show w6.heap.size < _ ∨ _ ≤ w6.heap.size; omega)
  replace y1 := kp.cell y1 (by have := HORD.out; show w6.heap.size < _ ∨ _ ≤ w6.heap.size; omega)
  replace y2 := kp.cell y2 (by have := HORD.out; show w6.heap.size < _ ∨ _ ≤ w6.heap.size; omega)
  replace fz0 := kp.frozen z0 (by have := HORD.out; show w8.heap.size < _ ∨ _ ≤ w8.heap.size; omega) fz0
  replace fz1 := kp.frozen z1 (by have := HORD.out; show w8.heap.size < _ ∨ _ ≤ w8.heap.size; omega) fz1
  replace fz2 := kp.frozen z2 (by have := HORD.out; show w8.heap.size < _ ∨ _ ≤ w8.heap.size; omega) fz2
  replace z0 := kp.cell z0 (by have := HORD.out; show w8.heap.size < _ ∨ _ ≤ w8.heap.size; omega)
  replace z1 := kp.cell z1 (by have := HORD.out; show w8.heap.size < _ ∨ _ ≤ w8.heap.size; omega)
  replace z2 := kp.cell z2 (by have := HORD.out; show w8.heap.size < _ ∨ _ ≤ w8.heap.size; omega)
  clear Sz
  replace bw := bw.trans (kp.below (by have := HORD.out; have := HW3.out; omega) bw.size)
  replace bG := bG.trans (kp.below (by have := HORD.out; omega) bG.size)
  clear kp
  clear y0 y1 y2 fy0 fy1 fy2
  have hx4 : Hid (w4.heap.size < w12.heap.size) := World.block_lt_of_cell? _ _ x0
  have hz8 : Hid (w8.heap.size < w12.heap.size) := World.block_lt_of_cell? _ _ z0
  have a0 := dcarry_cell bG Ha0.out
  have a1 := dcarry_cell bG Ha1.out
  have a2 := dcarry_cell bG Ha2.out
  have b0 := dcarry_cell bG Hb0.out
  have b1 := dcarry_cell bG Hb1.out
  have b2 := dcarry_cell bG Hb2.out
  go_wp2_with fail
  clear a0 a1 a2 b0 b1 b2
  refine Calls.mono (HPA.out _ (H1.out.keep bw) (H2.out.keep bw) (HT.out _ bw)) ?_
  rintro r w13 ⟨_, rfl, ⟨ap, np, cp, rfl, HNp, hnp, hOp⟩, bN⟩
  replace fx0 := dcarry_frozen bN x0 fx0
  replace fx1 := dcarry_frozen bN x1 fx1
  replace fx2 := dcarry_frozen bN x2 fx2
  replace fz0 := dcarry_frozen bN z0 fz0
  replace fz1 := dcarry_frozen bN z1 fz1
  replace fz2 := dcarry_frozen bN z2 fz2
  replace x0 := dcarry_cell bN x0
  replace x1 := dcarry_cell bN x1
  replace x2 := dcarry_cell bN x2
  replace z0 := dcarry_cell bN z0
  replace z1 := dcarry_cell bN z1
  replace z2 := dcarry_cell bN z2
  replace bw := nbelow_trans bw bN
  replace bG := nbelow_trans bG bN
  clear bN
  have Np := hOp.noC (c := w4.heap.size) hx4.out
  have Npz := hOp.noC (c := w8.heap.size) hz8.out
  have Ip := hOp.1
  clear hOp HNp
  have rs : Rn w4.heap.size w13 (((w13.setCell ⟨w4.heap.size, 0, none⟩ (.bool PA.1)).setCell ⟨w4.heap.size, 1, none⟩ (.slice ap np cp)).setCell ⟨w4.heap.size, 2, none⟩ (.int .i64 PA.2.2)) := by repeat (first | exact Rn.refl _ _ | refine Rn.set ?_ (Or.inr rfl) _)
  have x0n : (((w13.setCell ⟨w4.heap.size, 0, none⟩ (.bool PA.1)).setCell ⟨w4.heap.size, 1, none⟩ (.slice ap np cp)).setCell ⟨w4.heap.size, 2, none⟩ (.int .i64 PA.2.2)).cell? ⟨w4.heap.size, 0, none⟩ = some (.bool PA.1) := by go_simp
  have x1n : (((w13.setCell ⟨w4.heap.size, 0, none⟩ (.bool PA.1)).setCell ⟨w4.heap.size, 1, none⟩ (.slice ap np cp)).setCell ⟨w4.heap.size, 2, none⟩ (.int .i64 PA.2.2)).cell? ⟨w4.heap.size, 1, none⟩ = some (.slice ap np cp) := by go_simp
  have x2n : (((w13.setCell ⟨w4.heap.size, 0, none⟩ (.bool PA.1)).setCell ⟨w4.heap.size, 1, none⟩ (.slice ap np cp)).setCell ⟨w4.heap.size, 2, none⟩ (.int .i64 PA.2.2)).cell? ⟨w4.heap.size, 2, none⟩ = some (.int .i64 PA.2.2) := by go_simp
  replace fz0 := rs.frozen z0 (by have := HORD.out; show w8.heap.size ≠ w4.heap.size; omega) fz0
  replace z0 := rs.cell z0 (by have := HORD.out; show w8.heap.size ≠ w4.heap.size; omega)
  replace fz1 := rs.frozen z1 (by have := HORD.out; show w8.heap.size ≠ w4.heap.size; omega) fz1
  replace z1 := rs.cell z1 (by have := HORD.out; show w8.heap.size ≠ w4.heap.size; omega)
  replace fz2 := rs.frozen z2 (by have := HORD.out; show w8.heap.size ≠ w4.heap.size; omega) fz2
  replace z2 := rs.cell z2 (by have := HORD.out; show w8.heap.size ≠ w4.heap.size; omega)
  replace Ip := Ip.keepR Np rs
  replace bw := bw.trans (rs.below (by have := HORD.out; have := HW3.out; omega) bw.size)
  replace bG := bG.trans (rs.below (by have := HORD.out; omega) bG.size)
  clear rs
  have a0 := dcarry_cell bG Ha0.out
  have a1 := dcarry_cell bG Ha1.out
  have a2 := dcarry_cell bG Ha2.out
  have b0 := dcarry_cell bG Hb0.out
  have b1 := dcarry_cell bG Hb1.out
  have b2 := dcarry_cell bG Hb2.out
  go_wp2_with fail
  generalize (((w13.setCell ⟨w4.heap.size, 0, none⟩ (.bool PA.1)).setCell ⟨w4.heap.size, 1, none⟩ (.slice ap np cp)).setCell ⟨w4.heap.size, 2, none⟩ (.int .i64 PA.2.2)) = w14 at *
  clear a0 a1 a2 b0 b1 b2
  clear x0 x1 x2 fx0 fx1 fx2
  have x0 := x0n
  have x1 := x1n
  have x2 := x2n
  clear x0n x1n x2n
  have hq14 := World.block_lt_of_cell? _ _ z0
  refine Calls.mono (HQA.out _ (H1.out.keep bw) (H2.out.keep bw)) ?_
  rintro r w15 ⟨_, rfl, ⟨aq, nq, cq, rfl, HNq, hOq⟩, bN⟩
  replace fz0 := dcarry_frozen bN z0 fz0
  replace fz1 := dcarry_frozen bN z1 fz1
  replace fz2 := dcarry_frozen bN z2 fz2
  replace x0 := dcarry_cell bN x0
  replace x1 := dcarry_cell bN x1
  replace x2 := dcarry_cell bN x2
  replace z0 := dcarry_cell bN z0
  replace z1 := dcarry_cell bN z1
  replace z2 := dcarry_cell bN z2
  replace Ip := Ip.keep bN
  replace bw := nbelow_trans bw bN
  replace bG := nbelow_trans bG bN
  clear bN
  have hnq : nq ≤ 1024 := by rw [HNq.out]; exact HP.out
  have Nqz := hOq.noC (c := w8.heap.size) hq14
  have Iq := hOq.1
  clear hOq HNq hq14
  have hq15 : w8.heap.size < w15.heap.size := World.block_lt_of_cell? _ _ z0
  have bA := below_one w15 (.cells #[.bool PA.1, .slice aq nq cq, .int .i64 PA.2.2] 25)
  replace fz0 := dcarry_frozen bA z0 fz0
  replace fz1 := dcarry_frozen bA z1 fz1
  replace fz2 := dcarry_frozen bA z2 fz2
  replace x0 := dcarry_cell bA x0
  replace x1 := dcarry_cell bA x1
  replace x2 := dcarry_cell bA x2
  replace z0 := dcarry_cell bA z0
  replace z1 := dcarry_cell bA z1
  replace z2 := dcarry_cell bA z2
  replace Ip := Ip.keep bA
  replace Iq := Iq.keep bA
  replace bw := nbelow_trans bw bA
  replace bG := nbelow_trans bG bA
  clear bA
  have u0 : (w15.alloc (.cells #[.bool PA.1, .slice aq nq cq, .int .i64 PA.2.2] 25)).cell? ⟨w15.heap.size, 0, none⟩ = some (.bool PA.1) := by go_simp
  have u1 : (w15.alloc (.cells #[.bool PA.1, .slice aq nq cq, .int .i64 PA.2.2] 25)).cell? ⟨w15.heap.size, 1, none⟩ = some (.slice aq nq cq) := by go_simp
  have u2 : (w15.alloc (.cells #[.bool PA.1, .slice aq nq cq, .int .i64 PA.2.2] 25)).cell? ⟨w15.heap.size, 2, none⟩ = some (.int .i64 PA.2.2) := by go_simp
  have a0 := dcarry_cell bG Ha0.out
  have a1 := dcarry_cell bG Ha1.out
  have a2 := dcarry_cell bG Ha2.out
  go_wp2_with fail
  generalize (w15.alloc (.cells #[.bool PA.1, .slice aq nq cq, .int .i64 PA.2.2] 25)) = w16 at *
  clear a0 a1 a2
  have hz16 : Hid (w8.heap.size < w16.heap.size) := World.block_lt_of_cell? _ _ z0
  refine Calls.mono (HPC.out _ (H1.out.keep bw) (HT.out _ bw)) ?_
  rintro r w17 ⟨_, rfl, ⟨ar, nr, cr, rfl, HNr, hnr, hOr⟩, bN⟩
  replace fz0 := dcarry_frozen bN z0 fz0
  replace fz1 := dcarry_frozen bN z1 fz1
  replace fz2 := dcarry_frozen bN z2 fz2
  replace x0 := dcarry_cell bN x0
  replace x1 := dcarry_cell bN x1
  replace x2 := dcarry_cell bN x2
  replace z0 := dcarry_cell bN z0
  replace z1 := dcarry_cell bN z1
  replace z2 := dcarry_cell bN z2
  replace u0 := dcarry_cell bN u0
  replace u1 := dcarry_cell bN u1
  replace u2 := dcarry_cell bN u2
  replace Ip := Ip.keep bN
  replace Iq := Iq.keep bN
  replace bw := nbelow_trans bw bN
  replace bG := nbelow_trans bG bN
  clear bN
  have Nr := hOr.noC (c := w8.heap.size) hz16.out
  have Ir := hOr.1
  clear hOr HNr
  have rs : Rn w8.heap.size w17 (((w17.setCell ⟨w8.heap.size, 0, none⟩ (.bool PC.1)).setCell ⟨w8.heap.size, 1, none⟩ (.slice ar nr cr)).setCell ⟨w8.heap.size, 2, none⟩ (.int .i64 PC.2.2)) := by repeat (first | exact Rn.refl _ _ | refine Rn.set ?_ (Or.inr rfl) _)
  have z0n : (((w17.setCell ⟨w8.heap.size, 0, none⟩ (.bool PC.1)).setCell ⟨w8.heap.size, 1, none⟩ (.slice ar nr cr)).setCell ⟨w8.heap.size, 2, none⟩ (.int .i64 PC.2.2)).cell? ⟨w8.heap.size, 0, none⟩ = some (.bool PC.1) := by go_simp
  have z1n : (((w17.setCell ⟨w8.heap.size, 0, none⟩ (.bool PC.1)).setCell ⟨w8.heap.size, 1, none⟩ (.slice ar nr cr)).setCell ⟨w8.heap.size, 2, none⟩ (.int .i64 PC.2.2)).cell? ⟨w8.heap.size, 1, none⟩ = some (.slice ar nr cr) := by go_simp
  have z2n : (((w17.setCell ⟨w8.heap.size, 0, none⟩ (.bool PC.1)).setCell ⟨w8.heap.size, 1, none⟩ (.slice ar nr cr)).setCell ⟨w8.heap.size, 2, none⟩ (.int .i64 PC.2.2)).cell? ⟨w8.heap.size, 2, none⟩ = some (.int .i64 PC.2.2) := by go_simp
  replace x0 := rs.cell x0 (by have := HORD.out; show w4.heap.size ≠ w8.heap.size; omega)
  replace x1 := rs.cell x1 (by have := HORD.out; show w4.heap.size ≠ w8.heap.size; omega)
  replace x2 := rs.cell x2 (by have := HORD.out; show w4.heap.size ≠ w8.heap.size; omega)
  replace u0 := rs.cell u0 (by have := HORD.out; have := hq15; show w15.heap.size ≠ w8.heap.size; omega)
  replace u1 := rs.cell u1 (by have := HORD.out; have := hq15; show w15.heap.size ≠ w8.heap.size; omega)
  replace u2 := rs.cell u2 (by have := HORD.out; have := hq15; show w15.heap.size ≠ w8.heap.size; omega)
  replace Ip := Ip.keepR Npz rs
  replace Iq := Iq.keepR Nqz rs
  replace Ir := Ir.keepR Nr rs
  replace bw := bw.trans (rs.below (by have := HORD.out; have := HW3.out; omega) bw.size)
  replace bG := bG.trans (rs.below (by have := HORD.out; omega) bG.size)
  clear rs
  have a0 := dcarry_cell bG Ha0.out
  have a1 := dcarry_cell bG Ha1.out
  have a2 := dcarry_cell bG Ha2.out
  go_wp2_with fail
  generalize (((w17.setCell ⟨w8.heap.size, 0, none⟩ (.bool PC.1)).setCell ⟨w8.heap.size, 1, none⟩ (.slice ar nr cr)).setCell ⟨w8.heap.size, 2, none⟩ (.int .i64 PC.2.2)) = w18 at *
  clear a0 a1 a2
  clear z0 z1 z2 fz0 fz1 fz2
  have z0 := z0n
  have z1 := z1n
  have z2 := z2n
  clear z0n z1n z2n
  refine Calls.mono (HQC.out _ (H1.out.keep bw)) ?_
  rintro r w19 ⟨_, rfl, ⟨av, nv, cv, rfl, HNv, hOv⟩, bN⟩
  replace x0 := dcarry_cell bN x0
  replace x1 := dcarry_cell bN x1
  replace x2 := dcarry_cell bN x2
  replace z0 := dcarry_cell bN z0
  replace z1 := dcarry_cell bN z1
  replace z2 := dcarry_cell bN z2
  replace u0 := dcarry_cell bN u0
  replace u1 := dcarry_cell bN u1
  replace u2 := dcarry_cell bN u2
  replace Ip := Ip.keep bN
  replace Iq := Iq.keep bN
  replace Ir := Ir.keep bN
  replace bw := nbelow_trans bw bN
  replace bG := nbelow_trans bG bN
  clear bN
  have hnv : nv ≤ 1024 := by rw [HNv.out]; exact HPc.out
  have Iv := hOv.1
  clear hOv HNv
  have bA := below_one w19 (.cells #[.bool PC.1, .slice av nv cv, .int .i64 PC.2.2] 25)
  replace x0 := dcarry_cell bA x0
  replace x1 := dcarry_cell bA x1
  replace x2 := dcarry_cell bA x2
  replace z0 := dcarry_cell bA z0
  replace z1 := dcarry_cell bA z1
  replace z2 := dcarry_cell bA z2
  replace u0 := dcarry_cell bA u0
  replace u1 := dcarry_cell bA u1
  replace u2 := dcarry_cell bA u2
  replace Ip := Ip.keep bA
  replace Iq := Iq.keep bA
  replace Ir := Ir.keep bA
  replace Iv := Iv.keep bA
  replace bw := nbelow_trans bw bA
  replace bG := nbelow_trans bG bA
  clear bA
  have v0 : (w19.alloc (.cells #[.bool PC.1, .slice av nv cv, .int .i64 PC.2.2] 25)).cell? ⟨w19.heap.size, 0, none⟩ = some (.bool PC.1) := by go_simp
  have v1 : (w19.alloc (.cells #[.bool PC.1, .slice av nv cv, .int .i64 PC.2.2] 25)).cell? ⟨w19.heap.size, 1, none⟩ = some (.slice av nv cv) := by go_simp
  have v2 : (w19.alloc (.cells #[.bool PC.1, .slice av nv cv, .int .i64 PC.2.2] 25)).cell? ⟨w19.heap.size, 2, none⟩ = some (.int .i64 PC.2.2) := by go_simp
  have g0 := dcarry_cell bG Hg0.out
  have g1 := dcarry_cell bG Hg1.out
  have g2 := dcarry_cell bG Hg2.out
  have a0 := dcarry_cell bG Ha0.out
  have a1 := dcarry_cell bG Ha1.out
  have a2 := dcarry_cell bG Ha2.out
  go_wp2_with fail
  generalize (w19.alloc (.cells #[.bool PC.1, .slice av nv cv, .int .i64 PC.2.2] 25)) = w20 at *
  clear g0 g1 g2 a0 a1 a2
  refine Calls.mono (HSG.out _ _ _ (HG3.out.keep bG) (H1.out.keep bw)) ?_
  rintro r w21 ⟨rfl, bN⟩
  replace x0 := dcarry_cell bN x0
  replace x1 := dcarry_cell bN x1
  replace x2 := dcarry_cell bN x2
  replace z0 := dcarry_cell bN z0
  replace z1 := dcarry_cell bN z1
  replace z2 := dcarry_cell bN z2
  replace u0 := dcarry_cell bN u0
  replace u1 := dcarry_cell bN u1
  replace u2 := dcarry_cell bN u2
  replace v0 := dcarry_cell bN v0
  replace v1 := dcarry_cell bN v1
  replace v2 := dcarry_cell bN v2
  replace Ip := Ip.keep bN
  replace Iq := Iq.keep bN
  replace Ir := Ir.keep bN
  replace Iv := Iv.keep bN
  replace bw := nbelow_trans bw bN
  replace bG := nbelow_trans bG bN
  clear bN
  go_wp2_with fail
  refine Calls.mono (sameP PA _ _ _ _ _ _ _ Ip hnp Iq hnq) ?_
  rintro r w22 ⟨rfl, bN⟩
  replace x0 := dcarry_cell bN x0
  replace x1 := dcarry_cell bN x1
  replace x2 := dcarry_cell bN x2
  replace z0 := dcarry_cell bN z0
  replace z1 := dcarry_cell bN z1
  replace z2 := dcarry_cell bN z2
  replace u0 := dcarry_cell bN u0
  replace u1 := dcarry_cell bN u1
  replace u2 := dcarry_cell bN u2
  replace v0 := dcarry_cell bN v0
  replace v1 := dcarry_cell bN v1
  replace v2 := dcarry_cell bN v2
  replace Ip := Ip.keep bN
  replace Iq := Iq.keep bN
  replace Ir := Ir.keep bN
  replace Iv := Iv.keep bN
  replace bw := nbelow_trans bw bN
  replace bG := nbelow_trans bG bN
  clear bN
  go_wp2_with fail
  refine Calls.mono (sameP PC _ _ _ _ _ _ _ Ir hnr Iv hnv) ?_
  rintro r w23 ⟨rfl, bN⟩
  replace bw := nbelow_trans bw bN
  clear bN
  go_wp2_with fail
  go_ret
  exact ⟨by simp, bw⟩
end Go.Proofs.YticjhheceoeilaaDoor

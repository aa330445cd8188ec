/- The walk of told: a number handed out with words of its own. -/
import Derived.Test.YticjhheceoeilaaDoorDCanon
import Derived.Deep.RegionHeld3
import Derived.Deep.DrawnRows
import Derived.Deep.AppendLies
namespace Go.Proofs.YticjhheceoeilaaDoor
open Go.RowKit

theorem isW_news {w : World} {ad : Addr} {n c : Nat} {xs : List Int} (h : IsW w (some ad) n c xs) : ∀ j u, (xs.map (Value.int .u64))[j]? = some u → w.cell? (ad.add j) = some u := by
  intro j u hj
  have hjl : j < n := by
    have := (List.getElem?_eq_some_iff.1 hj).1
    simp at this; have := h.1; omega
  obtain ⟨b2, off2, e2, _, q2⟩ := h.2.2.2 j hjl
  simp only [Option.some.injEq] at e2
  subst e2
  have hu : u = .int .u64 (xs.getD j 0) := by
    simp only [List.getElem?_map] at hj
    have hj2 : xs[j]? = some (xs.getD j 0) := by
      rw [List.getElem?_eq_getElem (by have := h.1; omega)]; simp [List.getD, show j < xs.length by have := h.1; omega]
    rw [hj2] at hj
    simpa using hj.symm
  rw [hu]
  by_cases h00 : j = 0
  · subst h00; simpa [Addr.add] using q2
  · simpa [Addr.add, h00] using q2

attribute [local go_sem ↓] Go.wp_at_zero Go.wp_at_succ
set_option maxRecDepth 100000 in
set_option maxHeartbeats 2000000 in
theorem told_none (s : Bool) (e : Int) (g : Bool) (w : World) :
    Calls Tryd.prog 41 #[numV s none 0 0 e g] w fun r w' => r = .returned (dyV s none 0 0 e) ∧ Below w.heap.size w w' := by
  go_enter Tryd.func41, Tryd.ntmps41
  go_wp2_with fail
  go_region
  all_goals
    go_wp2_with fail
    refine bodyPost_ret (v := dyV s none 0 0 e) (by simp [results, Tryd.results41, go_sem]) rfl ⟨rfl, ?_⟩
    repeat (first | exact Below.refl _ _ | apply Below.drew | refine Below.alloc ?_ (by simp; try omega) _ | refine Below.setCell ?_ (by simp; try omega) _)

set_option maxRecDepth 100000 in
set_option maxHeartbeats 2000000 in
theorem told_some (s : Bool) (ad : Addr) (n c : Nat) (xs : List Int) (e : Int) (g : Bool) (w : World) (h : IsW w (some ad) n c xs) (hn0 : 0 < n) (hn : n ≤ 1024) :
    Calls Tryd.prog 41 #[numV s (some ad) n c e g] w fun r w' => ∃ (ao : Option Addr) (c' : Nat), r = .returned (dyV s ao n c' e) ∧ OwnW w.heap.size w' ao n c' xs ∧ Below w.heap.size w w' := by
  obtain ⟨i0, hi, hz0, hz1, hz2⟩ := info_parts word_info
  have HL : Hid (n = xs.length) := h.1
  have HU : Hid (AllU xs) := h.2.1
  have hb0 : Below w.heap.size w ((w.alloc (.cells #[.bool s, .slice (some ad) n c, .int .i64 e, .bool g] 52)).alloc (.cells #[.bool false, .slice none 0 0, .int .i64 0] 25)).drew := (nbelow_trans (below_one _ _) (below_one _ _)).drew
  have HNEW : Hid _ := isW_news (h.keep hb0)
  clear h
  go_enter Tryd.func41, Tryd.ntmps41
  go_wp2_with fail
  go_region_held3 (fun w' => w'.cell? ⟨w.heap.size, 0, none⟩ = some (.bool s) ∧ w'.cell? ⟨w.heap.size, 1, none⟩ = some (.slice (some ad) n c) ∧ w'.cell? ⟨w.heap.size, 2, none⟩ = some (.int .i64 e))
    (first | (go_keep; done) | exact ⟨dcarry_cell hbA (by go_simp), dcarry_cell hbA (by go_simp), dcarry_cell hbA (by go_simp)⟩)
    ((refine step_append_lies _ (by rfl) _ _ _ (by rfl) w.heap.size 47 i0 (.int .u64 0) 1 8 Tryd.underlying23 hi hz0 hz1 hz2 rfl (by omega) (.slice none 0 0) 0 [] (by rfl) (World.ownsRow_nil _ _ _ _) ad n c (xs.map (Value.int .u64)) (by rfl) (by rw [List.length_map, ← HL.out]; omega) HNEW.out (fun u hu => by simp only [List.mem_map] at hu; obtain ⟨y, _, rfl⟩ := hu; rfl) hn0 (by unfold maxLen; omega) (by omega) (by simp; omega) (w.heap.size + 1 + 1) (by simp) ?_; intro gg cap w1 hown1 hgrow hat hlt; have hbA := (Below.refl _ _).grown hgrow (Nat.le_refl _) (fun q hq => by cases hq); obtain ⟨m0, m1, m2, f0, f1, f2⟩ := zero_dy (r := w.heap.size + 1) (w := w.alloc (.cells #[.bool s, .slice (some ad) n c, .int .i64 e, .bool g] 52)) (W' := w1) (nbelow_trans (Below.refl _ _).drew hbA) (by simp)))
  all_goals
    go_wp2_with fail
    have hgg : gg = w.heap.size + 1 + 1 := by
      rcases hat with q | q
      · cases q
      · exact q
    have hO : OwnW w.heap.size w1 (some ⟨gg, 0, none⟩) n cap xs := by
      have h1 : Own w.heap.size w1 (some ⟨gg, 0, none⟩) cap xs := by unfold Own; rw [← HL.out]; simpa using hown1
      exact h1.ownW HU.out HL.out.symm
    have hne : ∀ (b off : Nat), some (⟨gg, 0, none⟩ : Addr) = some ⟨b, off, none⟩ → w.heap.size + 1 ≠ b := fun b off q => by
      simp only [Option.some.injEq, Addr.mk.injEq, and_true] at q; omega
    refine bodyPost_ret (v := dyV s (some ⟨gg, 0, none⟩) n cap e) (by simp [results, Tryd.results41, go_sem, m0, m1, m2]) rfl ⟨some ⟨gg, 0, none⟩, cap, rfl, ((hO.other _ _ hne).other _ _ hne).other _ _ hne, ?_⟩
    exact (((hb0.trans (hbA.mono hb0.size)).setCell (by show w.heap.size ≤ w.heap.size + 1; omega) _).setCell (by show w.heap.size ≤ w.heap.size + 1; omega) _).setCell (by show w.heap.size ≤ w.heap.size + 1; omega) _

/-- A number in its one form, in memory: nothing is nil. -/
def NumAt (B : Nat) (w : World) (v : Value) (p : Bool × Nat × Int) : Prop := ∃ (ao : Option Addr) (n c : Nat), v = numV p.1 ao n c p.2.2 false ∧ Hid (n = (wordsOf p.2.1).length) ∧ Hid (n = 0 → ao = none ∧ c = 0) ∧ n ≤ 1024 ∧ OwnW B w ao n c (wordsOf p.2.1)
/-- A dyadic number that is handed out. -/
def DyAt (B : Nat) (w : World) (v : Value) (p : Bool × Nat × Int) : Prop := ∃ (ao : Option Addr) (n c : Nat), v = dyV p.1 ao n c p.2.2 ∧ Hid (n = (wordsOf p.2.1).length) ∧ n ≤ 1024 ∧ OwnW B w ao n c (wordsOf p.2.1)
theorem NumAt.keep {B : Nat} {w w' : World} {v : Value} {p : Bool × Nat × Int} (h : NumAt B w v p) (hb : Below w.heap.size w w') : NumAt B w' v p := by
  obtain ⟨ao, n, c, h1, h2, h3, h4, h5⟩ := h
  exact ⟨ao, n, c, h1, h2, h3, h4, h5.keep hb⟩
theorem NumAt.low {B B' : Nat} {w : World} {v : Value} {p : Bool × Nat × Int} (h : NumAt B w v p) (hB : B' ≤ B) : NumAt B' w v p := by
  obtain ⟨ao, n, c, h1, h2, h3, h4, h5⟩ := h
  exact ⟨ao, n, c, h1, h2, h3, h4, h5.low hB⟩
theorem DyAt.keep {B : Nat} {w w' : World} {v : Value} {p : Bool × Nat × Int} (h : DyAt B w v p) (hb : Below w.heap.size w w') : DyAt B w' v p := by
  obtain ⟨ao, n, c, h1, h2, h4, h5⟩ := h
  exact ⟨ao, n, c, h1, h2, h4, h5.keep hb⟩
theorem DyAt.low {B B' : Nat} {w : World} {v : Value} {p : Bool × Nat × Int} (h : DyAt B w v p) (hB : B' ≤ B) : DyAt B' w v p := by
  obtain ⟨ao, n, c, h1, h2, h4, h5⟩ := h
  exact ⟨ao, n, c, h1, h2, h4, h5.low hB⟩
theorem dyAt_zero (B : Nat) (w : World) : DyAt B w (dyV false none 0 0 0) (false, 0, 0) := ⟨none, 0, 0, rfl, by rw [words_zero]; rfl, by omega, by rw [words_zero]; exact ownW_nil _ _⟩
theorem numAt_zero (B : Nat) (w : World) : NumAt B w (numV false none 0 0 0 false) (false, 0, 0) := ⟨none, 0, 0, rfl, by rw [words_zero]; rfl, fun _ => ⟨rfl, rfl⟩, by omega, by rw [words_zero]; exact ownW_nil _ _⟩

theorem told_calls (B : Nat) (v : Value) (p : Bool × Nat × Int) (w : World) (h : NumAt B w v p) :
    Calls Tryd.prog 41 #[v] w fun r w' => ∃ v', r = .returned v' ∧ DyAt w.heap.size w' v' p ∧ Below w.heap.size w w' := by
  obtain ⟨ao, n, c, rfl, h1, h2, h3, h4⟩ := h
  by_cases hn : n = 0
  · obtain ⟨rfl, rfl⟩ := h2.out hn
    subst hn
    have hp : wordsOf p.2.1 = [] := List.length_eq_zero_iff.1 h1.out.symm
    refine Calls.mono (told_none p.1 p.2.2 false w) ?_
    rintro r w' ⟨rfl, hb⟩
    exact ⟨_, rfl, ⟨none, 0, 0, rfl, h1, by omega, by rw [hp]; exact ownW_nil _ _⟩, hb⟩
  · obtain ⟨b, off, rfl, _, _⟩ := h4.1.2.2.2 0 (by omega)
    refine Calls.mono (told_some p.1 ⟨b, off, none⟩ n c _ p.2.2 false w h4.1 (by omega) h3) ?_
    rintro r w' ⟨ao, c', rfl, hO, hb⟩
    exact ⟨_, rfl, ⟨ao, n, c', rfl, h1, h3, hO⟩, hb⟩
end Go.Proofs.YticjhheceoeilaaDoor

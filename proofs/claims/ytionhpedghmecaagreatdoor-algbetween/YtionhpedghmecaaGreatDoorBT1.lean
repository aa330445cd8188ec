/- AlgBetween: cubes; the points halfway to the neighbours. -/
import Derived.Test.YtionhpedghmecaaGreatDoorALX
import Derived.Test.YtionhpedghmecaaGreatDoorBT0
import Derived.Test.YtionhpedghmecaaGreatDoorTMR
import Derived.Test.YtionhpedghmecaaGreatDoorRD19
import Derived.Test.YtionhpedghmecaaGreatDoorTMS
import Derived.Test.YtionhpedghmecaaGreatDoorRP3
import Derived.Deep.CutRange
import Derived.Deep.RegionHeld3
import Derived.BigQuiet
namespace Go.Proofs.YtionhpedghmecaaGreatDoor
open Go.RowKit
set_option maxRecDepth 100000 in
set_option maxHeartbeats 2000000 in
theorem cube_calls (p : Bool × Nat × Int) (a : Option Addr) (n c : Nat) (w : World) (h : IsW w a n c (wordsOf p.2.1)) (hn : n ≤ 1024) (hc : CanD p) (hb : blen p.2.1 ≤ 65536) (he : -65536 ≤ p.2.2 ∧ p.2.2 ≤ 65536) (hb2 : blen (mulD p p).2.1 ≤ 131072) (he2 : -300000 ≤ (mulD p p).2.2 ∧ (mulD p p).2.2 ≤ 300000) :
  Calls Tryz.prog 10 #[dyV p.1 a n c p.2.2] w fun r w' => ∃ v', r = .returned v' ∧ DyQ w.heap.size w' v' (mulD p (mulD p p)) ∧ Below w.heap.size w w' := by
 have bA : Below w.heap.size w ((w.alloc (.cells #[.bool p.1, .slice a n c, .int .i64 p.2.2] 27)).alloc (.cells #[.bool false, .slice none 0 0, .int .i64 0] 27)) := nT (below_one _ _) (below_one _ _)
 have hI := h.keep bA
 have IC : Hid (∀ W, IsW W a n c (wordsOf p.2.1) → Calls Tryz.prog 12 #[dyV p.1 a n c p.2.2, dyV p.1 a n c p.2.2] W fun r w' => ∃ v', r = .returned v' ∧ DyQ W.heap.size w' v' (mulD p p) ∧ Below W.heap.size W w') := fun W g => by
  have := qTimes_calls p.1 a n c (wordsOf p.2.1) p.2.2 p.1 a n c (wordsOf p.2.1) p.2.2 W g (by omega) g (by omega) (by omega) (by omega) (by rw [val_words]; omega) (by rw [val_words]; omega)
  rwa [val_words, form_of_can hc] at this
 have OC : Hid (∀ W a1 n1 c1, IsW W a n c (wordsOf p.2.1) → IsW W a1 n1 c1 (wordsOf (mulD p p).2.1) → n1 = (wordsOf (mulD p p).2.1).length → Calls Tryz.prog 12 #[dyV p.1 a n c p.2.2, dyV (mulD p p).1 a1 n1 c1 (mulD p p).2.2] W fun r w' => ∃ v', r = .returned v' ∧ DyQ W.heap.size w' v' (mulD p (mulD p p)) ∧ Below W.heap.size W w') := fun W a1 n1 c1 g g1 hn1 => by
  have hl : (wordsOf (mulD p p).2.1).length ≤ 200000 := (words_len2 _ _).2 (by omega)
  have := qTimes_calls p.1 a n c (wordsOf p.2.1) p.2.2 (mulD p p).1 a1 n1 c1 (wordsOf (mulD p p).2.1) (mulD p p).2.2 W g (by omega) g1 (by omega) (by omega) (by omega) (by rw [val_words]; omega) (by rw [val_words]; omega)
  have hcan : CanD (mulD p p) := form_can _ _ _
  rwa [val_words, val_words, form_of_can hc, form_of_can hcan] at this
 generalize mulD p (mulD p p) = q3 at *
 generalize mulD p p = q2 at *
 have k0 : ((w.alloc (.cells #[.bool p.1, .slice a n c, .int .i64 p.2.2] 27)).alloc (.cells #[.bool false, .slice none 0 0, .int .i64 0] 27)).cell? ⟨w.heap.size, 0, none⟩ = some (.bool p.1) := by go_simp
 have k1 : ((w.alloc (.cells #[.bool p.1, .slice a n c, .int .i64 p.2.2] 27)).alloc (.cells #[.bool false, .slice none 0 0, .int .i64 0] 27)).cell? ⟨w.heap.size, 1, none⟩ = some (.slice a n c) := by go_simp
 have k2 : ((w.alloc (.cells #[.bool p.1, .slice a n c, .int .i64 p.2.2] 27)).alloc (.cells #[.bool false, .slice none 0 0, .int .i64 0] 27)).cell? ⟨w.heap.size, 2, none⟩ = some (.int .i64 p.2.2) := by go_simp
 have z0 : ((w.alloc (.cells #[.bool p.1, .slice a n c, .int .i64 p.2.2] 27)).alloc (.cells #[.bool false, .slice none 0 0, .int .i64 0] 27)).cell? ⟨w.heap.size + 1, 0, none⟩ = some (.bool false) := by go_simp
 have z1 : ((w.alloc (.cells #[.bool p.1, .slice a n c, .int .i64 p.2.2] 27)).alloc (.cells #[.bool false, .slice none 0 0, .int .i64 0] 27)).cell? ⟨w.heap.size + 1, 1, none⟩ = some (.slice none 0 0) := by go_simp
 have z2 : ((w.alloc (.cells #[.bool p.1, .slice a n c, .int .i64 p.2.2] 27)).alloc (.cells #[.bool false, .slice none 0 0, .int .i64 0] 27)).cell? ⟨w.heap.size + 1, 2, none⟩ = some (.int .i64 0) := by go_simp
 have f0 : ((w.alloc (.cells #[.bool p.1, .slice a n c, .int .i64 p.2.2] 27)).alloc (.cells #[.bool false, .slice none 0 0, .int .i64 0] 27)).frozen? ⟨w.heap.size + 1, 0, none⟩ = false := by go_simp
 have f1 : ((w.alloc (.cells #[.bool p.1, .slice a n c, .int .i64 p.2.2] 27)).alloc (.cells #[.bool false, .slice none 0 0, .int .i64 0] 27)).frozen? ⟨w.heap.size + 1, 1, none⟩ = false := by go_simp
 have f2 : ((w.alloc (.cells #[.bool p.1, .slice a n c, .int .i64 p.2.2] 27)).alloc (.cells #[.bool false, .slice none 0 0, .int .i64 0] 27)).frozen? ⟨w.heap.size + 1, 2, none⟩ = false := by go_simp
 have lz : w.heap.size + 1 < ((w.alloc (.cells #[.bool p.1, .slice a n c, .int .i64 p.2.2] 27)).alloc (.cells #[.bool false, .slice none 0 0, .int .i64 0] 27)).heap.size := by simp
 clear h hn hc hb he hb2 he2
 go_enter Tryz.func10, Tryz.ntmps10
 go_wp2_with fail
 generalize ((w.alloc (.cells #[.bool p.1, .slice a n c, .int .i64 p.2.2] 27)).alloc (.cells #[.bool false, .slice none 0 0, .int .i64 0] 27)) = w0 at *
 have bD : Below w0.heap.size w0 w0.drew := (Below.refl _ _).drew
 go_region_with (first
   | (go_at_call 12; refine calls_guard #[dyV p.1 a n c p.2.2, dyV p.1 a n c p.2.2] ?_ ?_; (focus rfl); refine (IC.out _ (hI.keep bD)).mono ?_; rintro r w1 ⟨_, rfl, ⟨a1, n1, c1, rfl, HN1, hO1⟩, b1⟩; have bI := nT bD b1; clear b1; have hJ := hI.keep bI; have j0 := kC bI k0; have j1 := kC bI k1; have j2 := kC bI k2; have g0 := kF bI z0 f0; have g1 := kF bI z1 f1; have g2 := kF bI z2 f2; have y0 := kC bI z0; have y1 := kC bI z1; have y2 := kC bI z2; have bB := nT bA bI; have lw := Nat.lt_of_lt_of_le lz bI.size; clear bI)
   | (go_at_call 12; refine calls_guard #[dyV p.1 a n c p.2.2, dyV q2.1 a1 n1 c1 q2.2.2] ?_ ?_; (focus rfl); refine (OC.out _ a1 n1 c1 hJ hO1.1 HN1.out).mono ?_; rintro r w2 ⟨_, rfl, ⟨a2, n2, c2, rfl, HN2, hO2⟩, b2⟩; replace g0 := kF b2 y0 g0; replace g1 := kF b2 y1 g1; replace g2 := kF b2 y2 g2; replace y0 := kC b2 y0; replace y1 := kC b2 y1; replace y2 := kC b2 y2; replace bB := nT bB b2; clear b2))
 all_goals
  go_wp2_with fail
  refine bodyPost_ret (v := dyV q3.1 a2 n2 c2 q3.2.2) (by simp [results, Tryz.results10, go_sem, y0, y1, y2]) rfl ⟨_, rfl, ⟨a2, n2, c2, rfl, HN2, (((hO2.far _ _ (by show w.heap.size + 1 < _; exact lw)).far _ _ (by show w.heap.size + 1 < _; exact lw)).far _ _ (by show w.heap.size + 1 < _; exact lw)).low (Nat.le_of_lt (Nat.lt_of_succ_lt lw))⟩, by repeat (first | (with_reducible exact bB) | (with_reducible refine Below.setCell ?_ (by simp) _))⟩
end Go.Proofs.YtionhpedghmecaaGreatDoor

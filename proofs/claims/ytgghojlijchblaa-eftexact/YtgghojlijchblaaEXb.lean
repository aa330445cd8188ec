/- EftExact: sums and products of floats as the document's dyadic numbers; held against each other. -/
import Derived.Test.YtgghojlijchblaaEXa
import Derived.Test.YtgghojlijchblaaEOr0
import Derived.Test.YtgghojlijchblaaRD3
namespace Go.Proofs.Ytgghojlijchblaa
open Go.RowKit

theorem fr_len (x : Int) : (wordsOf (fromP x).2.1).length ≤ 1024 := by
  have := fr_right x
  exact (words_len2 _ _).2 ((great_not _).1 (rightB_yes this).1)

theorem qplus_two (x y : Nat) (a b : Option Addr) (n c m d : Nat) (W : World) (hn : n ≤ 1024) (hm : m ≤ 1024) (p : IsW W a n c (wordsOf (fromP (x : Int)).2.1)) (q : IsW W b m d (wordsOf (fromP (y : Int)).2.1)) :
    Calls Try.prog 20 #[dyV (fromP (x : Int)).1 a n c (fromP (x : Int)).2.2, dyV (fromP (y : Int)).1 b m d (fromP (y : Int)).2.2] W fun r w' => ∃ v', r = .returned v' ∧ DyQ W.heap.size w' v' (exQ x y) ∧ Below W.heap.size W w' := by
  have g1 := rightB_yes (fr_right (x : Int))
  have g2 := rightB_yes (fr_right (y : Int))
  have b1 := (great_not _).1 g1.1
  have b2 := (great_not _).1 g2.1
  have := qPlus_calls (fromP (x : Int)).1 a n c (wordsOf (fromP (x : Int)).2.1) (fromP (x : Int)).2.2 (fromP (y : Int)).1 b m d (wordsOf (fromP (y : Int)).2.1) (fromP (y : Int)).2.2 W p (by omega) q (by omega) (by omega) (by omega) (by rw [val_words]; omega) (by rw [val_words]; omega)
  rw [val_words, val_words, form_of_can (fr_can _), form_of_can (fr_can _)] at this
  exact this
theorem qtimes_two (x y : Nat) (a b : Option Addr) (n c m d : Nat) (W : World) (hn : n ≤ 1024) (hm : m ≤ 1024) (p : IsW W a n c (wordsOf (fromP (x : Int)).2.1)) (q : IsW W b m d (wordsOf (fromP (y : Int)).2.1)) :
    Calls Try.prog 15 #[dyV (fromP (x : Int)).1 a n c (fromP (x : Int)).2.2, dyV (fromP (y : Int)).1 b m d (fromP (y : Int)).2.2] W fun r w' => ∃ v', r = .returned v' ∧ DyQ W.heap.size w' v' (mulD (fromP (x : Int)) (fromP (y : Int))) ∧ Below W.heap.size W w' := by
  have g1 := rightB_yes (fr_right (x : Int))
  have g2 := rightB_yes (fr_right (y : Int))
  have b1 := (great_not _).1 g1.1
  have b2 := (great_not _).1 g2.1
  have := qTimes_calls (fromP (x : Int)).1 a n c (wordsOf (fromP (x : Int)).2.1) (fromP (x : Int)).2.2 (fromP (y : Int)).1 b m d (wordsOf (fromP (y : Int)).2.1) (fromP (y : Int)).2.2 W p (by omega) q (by omega) (by omega) (by omega) (by rw [val_words]; omega) (by rw [val_words]; omega)
  rw [val_words, val_words, form_of_can (fr_can _), form_of_can (fr_can _)] at this
  exact this
theorem sameQ (p : Bool × Nat × Int) (a1 : Option Addr) (n1 c1 : Nat) (a2 : Option Addr) (n2 c2 : Nat) (w : World) (h1 : IsW w a1 n1 c1 (wordsOf p.2.1)) (q1 : n1 ≤ 17592186044416) (h2 : IsW w a2 n2 c2 (wordsOf p.2.1)) (q2 : n2 ≤ 17592186044416) :
    Calls Try.prog 11 #[dyV p.1 a1 n1 c1 p.2.2, dyV p.1 a2 n2 c2 p.2.2] w fun r w' => r = .returned (.bool true) ∧ Below w.heap.size w w' := by
  have := qSame_calls p.1 a1 n1 c1 (wordsOf p.2.1) p.2.2 p.1 a2 n2 c2 (wordsOf p.2.1) p.2.2 w h1 q1 h2 q2
  rw [sameB_self] at this; exact this
theorem bitsQ (x : Nat) (a : Option Addr) (n c : Nat) (w : World) (hn : n ≤ 1024) (h : IsW w a n c (wordsOf (fromP (x : Int)).2.1)) (T : Int) (hT : ((blen (fromP (x : Int)).2.1 : Int) - (tz (fromP (x : Int)).2.1 : Int)) = T) :
    Calls Try.prog 13 #[dyV (fromP (x : Int)).1 a n c (fromP (x : Int)).2.2] w fun r w' => r = .returned (.int .i64 T) ∧ Below w.heap.size w w' := by
  have b1 := (great_not _).1 (rightB_yes (fr_right (x : Int))).1
  have := qBits_calls (fromP (x : Int)).1 a n c (wordsOf (fromP (x : Int)).2.1) (fromP (x : Int)).2.2 w h (by omega) (by rw [val_words]; omega)
  rw [val_words, hT] at this
  exact this

set_option maxRecDepth 100000 in
set_option maxHeartbeats 2000000 in
theorem plus_calls (x y : Nat) (w : World) (hx : x < 18446744073709551616) (hy : y < 18446744073709551616) :
    Calls Try.prog 10 #[.float .f64 x, .float .f64 y] w fun r w' => ∃ v', r = .returned v' ∧ DyQ w.heap.size w' v' (exQ x y) ∧ Below w.heap.size w w' := by
  have Na : Hid _ := fun w => number_calls x w hx
  have Nb : Hid _ := fun w => number_calls y w hy
  clear hx hy
  have bw : Below w.heap.size w (w.alloc (.cells #[.bool false, .slice none 0 0, .int .i64 0] 31)) := below_one _ _
  have z0 : (w.alloc (.cells #[.bool false, .slice none 0 0, .int .i64 0] 31)).cell? ⟨w.heap.size, 0, none⟩ = some (.bool false) := by go_simp
  have z1 : (w.alloc (.cells #[.bool false, .slice none 0 0, .int .i64 0] 31)).cell? ⟨w.heap.size, 1, none⟩ = some (.slice none 0 0) := by go_simp
  have z2 : (w.alloc (.cells #[.bool false, .slice none 0 0, .int .i64 0] 31)).cell? ⟨w.heap.size, 2, none⟩ = some (.int .i64 0) := by go_simp
  have f0 : (w.alloc (.cells #[.bool false, .slice none 0 0, .int .i64 0] 31)).frozen? ⟨w.heap.size, 0, none⟩ = false := by go_simp
  have f1 : (w.alloc (.cells #[.bool false, .slice none 0 0, .int .i64 0] 31)).frozen? ⟨w.heap.size, 1, none⟩ = false := by go_simp
  have f2 : (w.alloc (.cells #[.bool false, .slice none 0 0, .int .i64 0] 31)).frozen? ⟨w.heap.size, 2, none⟩ = false := by go_simp
  have hs : Hid (w.heap.size + 1 ≤ (w.alloc (.cells #[.bool false, .slice none 0 0, .int .i64 0] 31)).heap.size) := by show w.heap.size + 1 ≤ _; simp
  go_enter Try.func10, Try.ntmps10
  go_wp2_with fail
  generalize (w.alloc (.cells #[.bool false, .slice none 0 0, .int .i64 0] 31)) = w0 at *
  refine Calls.mono (Na.out _) ?_
  rintro _ w1 ⟨_, rfl, ⟨aa, na, ca, rfl, HNa, hOa⟩, bN⟩
  replace f0 := dcarry_frozen bN z0 f0
  replace f1 := dcarry_frozen bN z1 f1
  replace f2 := dcarry_frozen bN z2 f2
  replace z0 := dcarry_cell bN z0
  replace z1 := dcarry_cell bN z1
  replace z2 := dcarry_cell bN z2
  replace bw := nbelow_trans bw bN
  replace hs := le_hid hs bN.size
  have Ia : Hid (IsW w1 aa na ca (wordsOf (fromP (x : Int)).2.1)) := hOa.1
  have hna : Hid (na ≤ 1024) := by rw [HNa.out]; exact fr_len _
  clear bN HNa hOa
  go_wp2_with fail
  refine Calls.mono (Nb.out _) ?_
  rintro _ w2 ⟨_, rfl, ⟨ab, nb, cb, rfl, HNb, hOb⟩, bN⟩
  replace f0 := dcarry_frozen bN z0 f0
  replace f1 := dcarry_frozen bN z1 f1
  replace f2 := dcarry_frozen bN z2 f2
  replace z0 := dcarry_cell bN z0
  replace z1 := dcarry_cell bN z1
  replace z2 := dcarry_cell bN z2
  replace bw := nbelow_trans bw bN
  replace hs := le_hid hs bN.size
  replace Ia : Hid (IsW w2 aa na ca (wordsOf (fromP (x : Int)).2.1)) := IsW.keep Ia.out bN
  have Ib : Hid (IsW w2 ab nb cb (wordsOf (fromP (y : Int)).2.1)) := hOb.1
  have hnb : Hid (nb ≤ 1024) := by rw [HNb.out]; exact fr_len _
  clear bN HNb hOb
  go_wp2_with fail
  refine Calls.mono (qplus_two _ _ _ _ _ _ _ _ _ hna.out hnb.out Ia.out Ib.out) ?_
  rintro _ w3 ⟨_, rfl, ⟨ap, np, cp, rfl, HNp, hOp⟩, bN⟩
  replace f0 := dcarry_frozen bN z0 f0
  replace f1 := dcarry_frozen bN z1 f1
  replace f2 := dcarry_frozen bN z2 f2
  replace z0 := dcarry_cell bN z0
  replace z1 := dcarry_cell bN z1
  replace z2 := dcarry_cell bN z2
  replace bw := nbelow_trans bw bN
  have hO := hOp.low hs.out
  replace hs := le_hid hs bN.size
  clear bN Ia Ib hna hnb hOp
  go_wp2_with fail
  refine bodyPost_ret (v := dyV (exQ x y).1 ap np cp (exQ x y).2.2) (by simp [results, Try.results10, go_sem, z0, z1, z2]) rfl ⟨_, rfl, ⟨ap, np, cp, rfl, HNp, (((hO.far _ _ (by show w.heap.size < _; omega)).far _ _ (by show w.heap.size < _; omega)).far _ _ (by show w.heap.size < _; omega)).low (by omega)⟩, ?_⟩
  repeat (first | exact bw | refine Below.setCell ?_ (by simp) _)
end Go.Proofs.Ytgghojlijchblaa

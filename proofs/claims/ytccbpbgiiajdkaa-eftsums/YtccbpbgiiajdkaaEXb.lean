/- EftExact: sums and products of floats as the document's dyadic numbers; held against each other. -/
import Derived.Test.YtccbpbgiiajdkaaEXa
import Derived.Test.YtccbpbgiiajdkaaEOr0
import Derived.Test.YtccbpbgiiajdkaaRD3
namespace Go.Proofs.Ytccbpbgiiajdkaa
open Go.RowKit

theorem fr_len (x : Int) : (wordsOf (fromP x).2.1).length ≤ 1024 := by
  have := fr_right x
  exact (words_len2 _ _).2 ((great_not _).1 (rightB_yes this).1)

theorem qplus_two (x y : Nat) (a b : Option Addr) (n c m d : Nat) (W : World) (hn : n ≤ 1024) (hm : m ≤ 1024) (p : IsW W a n c (wordsOf (fromP (x : Int)).2.1)) (q : IsW W b m d (wordsOf (fromP (y : Int)).2.1)) :
    Calls Try.prog 12 #[dyV (fromP (x : Int)).1 a n c (fromP (x : Int)).2.2, dyV (fromP (y : Int)).1 b m d (fromP (y : Int)).2.2] W fun r w' => ∃ v', r = .returned v' ∧ DyQ W.heap.size w' v' (exQ x y) ∧ Below W.heap.size W w' := by
  have g1 := rightB_yes (fr_right (x : Int))
  have g2 := rightB_yes (fr_right (y : Int))
  have b1 := (great_not _).1 g1.1
  have b2 := (great_not _).1 g2.1
  have := qPlus_calls (fromP (x : Int)).1 a n c (wordsOf (fromP (x : Int)).2.1) (fromP (x : Int)).2.2 (fromP (y : Int)).1 b m d (wordsOf (fromP (y : Int)).2.1) (fromP (y : Int)).2.2 W p (by omega) q (by omega) (by omega) (by omega) (by rw [val_words]; omega) (by rw [val_words]; omega)
  rw [val_words, val_words, form_of_can (fr_can _), form_of_can (fr_can _)] at this
  exact this

theorem qtimes_two (x y : Nat) (a b : Option Addr) (n c m d : Nat) (W : World) (hn : n ≤ 1024) (hm : m ≤ 1024) (p : IsW W a n c (wordsOf (fromP (x : Int)).2.1)) (q : IsW W b m d (wordsOf (fromP (y : Int)).2.1)) :
    Calls Try.prog 16 #[dyV (fromP (x : Int)).1 a n c (fromP (x : Int)).2.2, dyV (fromP (y : Int)).1 b m d (fromP (y : Int)).2.2] W fun r w' => ∃ v', r = .returned v' ∧ DyQ W.heap.size w' v' (mulD (fromP (x : Int)) (fromP (y : Int))) ∧ Below W.heap.size W w' := by
  have g1 := rightB_yes (fr_right (x : Int))
  have g2 := rightB_yes (fr_right (y : Int))
  have b1 := (great_not _).1 g1.1
  have b2 := (great_not _).1 g2.1
  have := qTimes_calls (fromP (x : Int)).1 a n c (wordsOf (fromP (x : Int)).2.1) (fromP (x : Int)).2.2 (fromP (y : Int)).1 b m d (wordsOf (fromP (y : Int)).2.1) (fromP (y : Int)).2.2 W p (by omega) q (by omega) (by omega) (by omega) (by rw [val_words]; omega) (by rw [val_words]; omega)
  rw [val_words, val_words, form_of_can (fr_can _), form_of_can (fr_can _)] at this
  exact this

theorem sameQ (p : Bool × Nat × Int) (a1 : Option Addr) (n1 c1 : Nat) (a2 : Option Addr) (n2 c2 : Nat) (w : World) (h1 : IsW w a1 n1 c1 (wordsOf p.2.1)) (q1 : n1 ≤ 17592186044416) (h2 : IsW w a2 n2 c2 (wordsOf p.2.1)) (q2 : n2 ≤ 17592186044416) :
    Calls Try.prog 11 #[dyV p.1 a1 n1 c1 p.2.2, dyV p.1 a2 n2 c2 p.2.2] w fun r w' => r = .returned (.bool true) ∧ Below w.heap.size w w' := by
  have := qSame_calls p.1 a1 n1 c1 (wordsOf p.2.1) p.2.2 p.1 a2 n2 c2 (wordsOf p.2.1) p.2.2 w h1 q1 h2 q2
  rw [sameB_self] at this; exact this
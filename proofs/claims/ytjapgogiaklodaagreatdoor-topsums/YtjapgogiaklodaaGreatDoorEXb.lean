/- EftExact: sums and products of floats as the document's dyadic numbers; held against each other. -/
import Derived.Test.YtjapgogiaklodaaGreatDoorEXa
import Derived.Test.YtjapgogiaklodaaGreatDoorEOr0
import Derived.Test.YtjapgogiaklodaaGreatDoorRD3
namespace Go.Proofs.YtjapgogiaklodaaGreatDoor
open Go.RowKit

theorem fr_len (x : Int) : (wordsOf (fromP x).2.1).length ≤ 1024 := by
  have := fr_right x
  exact (words_len2 _ _).2 ((great_not _).1 (rightB_yes this).1)

theorem qplus_two (x y : Nat) (a b : Option Addr) (n c m d : Nat) (W : World) (hn : n ≤ 1024) (hm : m ≤ 1024) (p : IsW W a n c (wordsOf (fromP (x : Int)).2.1)) (q : IsW W b m d (wordsOf (fromP (y : Int)).2.1)) :
    Calls Tryz.prog 9 #[dyV (fromP (x : Int)).1 a n c (fromP (x : Int)).2.2, dyV (fromP (y : Int)).1 b m d (fromP (y : Int)).2.2] W fun r w' => ∃ v', r = .returned v' ∧ DyQ W.heap.size w' v' (exQ x y) ∧ Below W.heap.size W w' := by
  have g1 := rightB_yes (fr_right (x : Int))
  have g2 := rightB_yes (fr_right (y : Int))
  have b1 := (great_not _).1 g1.1
  have b2 := (great_not _).1 g2.1
  have := qPlus_calls (fromP (x : Int)).1 a n c (wordsOf (fromP (x : Int)).2.1) (fromP (x : Int)).2.2 (fromP (y : Int)).1 b m d (wordsOf (fromP (y : Int)).2.1) (fromP (y : Int)).2.2 W p (by omega) q (by omega) (by omega) (by omega) (by rw [val_words]; omega) (by rw [val_words]; omega)
  rw [val_words, val_words, form_of_can (fr_can _), form_of_can (fr_can _)] at this
  exact this

theorem qtimes_two (x y : Nat) (a b : Option Addr) (n c m d : Nat) (W : World) (hn : n ≤ 1024) (hm : m ≤ 1024) (p : IsW W a n c (wordsOf (fromP (x : Int)).2.1)) (q : IsW W b m d (wordsOf (fromP (y : Int)).2.1)) :
    Calls Tryz.prog 13 #[dyV (fromP (x : Int)).1 a n c (fromP (x : Int)).2.2, dyV (fromP (y : Int)).1 b m d (fromP (y : Int)).2.2] W fun r w' => ∃ v', r = .returned v' ∧ DyQ W.heap.size w' v' (mulD (fromP (x : Int)) (fromP (y : Int))) ∧ Below W.heap.size W w' := by
  have g1 := rightB_yes (fr_right (x : Int))
  have g2 := rightB_yes (fr_right (y : Int))
  have b1 := (great_not _).1 g1.1
  have b2 := (great_not _).1 g2.1
  have := qTimes_calls (fromP (x : Int)).1 a n c (wordsOf (fromP (x : Int)).2.1) (fromP (x : Int)).2.2 (fromP (y : Int)).1 b m d (wordsOf (fromP (y : Int)).2.1) (fromP (y : Int)).2.2 W p (by omega) q (by omega) (by omega) (by omega) (by rw [val_words]; omega) (by rw [val_words]; omega)
  rw [val_words, val_words, form_of_can (fr_can _), form_of_can (fr_can _)] at this
  exact this



end Go.Proofs.YtjapgogiaklodaaGreatDoor

/- The document's exact cases: the small functions. -/
import Derived.Test.YtiijfnaaekmpbaaGreatDoorECX
import Derived.Test.YtiijfnaaekmpbaaGreatDoorEC3
import Derived.Test.YtiijfnaaekmpbaaGreatDoorNMX
import Derived.Test.YtiijfnaaekmpbaaGreatDoorTMD
import Derived.Test.YtiijfnaaekmpbaaGreatDoorTMS
import Derived.Test.YtiijfnaaekmpbaaGreatDoorTMQ
import Derived.BigQuiet
import Derived.Test.YtiijfnaaekmpbaaGreatDoorFX
namespace Go.Proofs.YtiijfnaaekmpbaaGreatDoor
open Go.RowKit

theorem isW_oneD {w : World} {b : Nat} {x : Int} (h : w.cell? ⟨b, 0, none⟩ = some (.int .u64 x)) (hx : 0 ≤ x ∧ x ≤ 18446744073709551615) : IsW w (some ⟨b, 0, none⟩) 1 1 [x] := by
  refine ⟨rfl, ?_, ⟨Nat.le_refl _, fun e => by cases e⟩, fun i hi => ?_⟩
  · intro y hy
    simp at hy
    rw [hy]; exact hx
  · obtain rfl : i = 0 := by omega
    exact ⟨b, 0, rfl, World.block_lt_of_cell? _ _ h, h⟩
theorem okE_len {p : E3} (h : OkE p) : (wordsOf p.2.1).length ≤ 1024 := (great_len _).1 (rightB_yes h.2).1
theorem okE_bd {p : E3} (h : OkE p) : blen p.2.1 ≤ 65536 ∧ -32768 ≤ p.2.2 ∧ p.2.2 ≤ 32768 := ⟨(great_not _).1 (rightB_yes h.2).1, (rightB_yes h.2).2⟩

set_option maxRecDepth 100000 in
theorem dis2_calls (f : Int) (w : World) : Calls Tryz.prog 13 #[.int .u8 f] w fun r w' => r = .returned (.bool (is2 f)) ∧ w' = w := by
  by_cases h1 : f = 33
  · subst h1
    go_enter Tryz.func13, Tryz.ntmps13
    go_wp2_with fail
    go_ret
    exact ⟨rfl, rfl⟩
  · by_cases h2 : f = 34
    · subst h2
      go_enter Tryz.func13, Tryz.ntmps13
      go_wp2_with fail
      go_ret
      exact ⟨rfl, rfl⟩
    · rw [show is2 f = false from decide_eq_false (fun q => by omega)]
      go_enter Tryz.func13, Tryz.ntmps13
      go_wp2_with fail
      go_ret
      exact ⟨retB (by simp [h1, h2]), rfl⟩
theorem dOrdE (p : E3) (t : Bool) (ys : List Int) (f : Int) (a : Option Addr) (n c : Nat) (b : Option Addr) (m d : Nat) (w : World) (h : IsW w a n c (wordsOf p.2.1)) (hn : n ≤ 1024) (k : IsW w b m d ys) (hm : m ≤ 1024) (hp : OkE p) (hf : -32768 ≤ f ∧ f ≤ 32768) :
    Calls Tryz.prog 56 #[dyV p.1 a n c p.2.2, dyV t b m d f] w fun r w' => r = .returned (.int .i64 (cmpD p (formD t (val ys) f))) ∧ Below w.heap.size w w' := by
  have hb := okE_bd hp
  have hy := blen_words_le ys k.2.1
  have hl := k.1
  have H := qOrder_calls p.1 a n c (wordsOf p.2.1) p.2.2 t b m d ys f w h (by omega) k (by omega) (by omega) (by omega) (by rw [val_words]; omega) (by omega)
  rw [val_words, hp.form] at H
  exact H
theorem dZeroE (p : E3) (a : Option Addr) (n c : Nat) (w : World) (h : IsW w a n c (wordsOf p.2.1)) (hn : n ≤ 1024) :
    Calls Tryz.prog 31 #[dyV p.1 a n c p.2.2] w fun r w' => r = .returned (.bool (decide (p.2.1 = 0))) ∧ Below w.heap.size w w' := by
  have H := qZero_calls p.1 a n c (wordsOf p.2.1) p.2.2 w h (by omega)
  rw [val_words] at H
  exact H

set_option maxRecDepth 100000 in
set_option maxHeartbeats 4000000 in
theorem dOrder_calls (p : E3) (a : Option Addr) (n c : Nat) (k : Int) (w : World) (h : IsW w a n c (wordsOf p.2.1)) (hn : n ≤ 1024) (hp : OkE p) (hk : -9223372036854775808 ≤ k ∧ k ≤ 9223372036854775807) :
    Calls Tryz.prog 25 #[dyV p.1 a n c p.2.2, .int .i64 k] w fun r w' => r = .returned (.int .i64 (agI p k)) ∧ Below w.heap.size w w' := by
  have bA := below_one w (.cells #[.bool p.1, .slice a n c, .int .i64 p.2.2] 27)
  obtain ⟨x0, x1, x2⟩ := fX3 w p a n c
  have hI := h.keep bA
  have HP : Hid (OkE p) := hp
  have hq : OkE (intD k) := int_ok k hk
  have HQ : Hid ((wordsOf (intD k).2.1).length ≤ 1024 ∧ -32768 ≤ (intD k).2.2 ∧ (intD k).2.2 ≤ 32768 ∧ formD (intD k).1 (intD k).2.1 (intD k).2.2 = intD k) := ⟨okE_len hq, (okE_bd hq).2.1, (okE_bd hq).2.2, hq.form⟩
  have HI : Hid _ := fun W => qint_calls k hk W
  unfold agI
  clear h hp hk hq
  generalize intD k = q at *
  go_enter Tryz.func25, Tryz.ntmps25
  go_wp2_with fail
  generalize w.alloc (.cells #[.bool p.1, .slice a n c, .int .i64 p.2.2] 27) = w0 at *
  go_region_with (first
    | (go_at_call 22; refine (HI.out _).mono ?_; rintro r w1 ⟨_, rfl, ⟨ai, ni, ci, rfl, HNi, hOi⟩, b1⟩; have b2 : Below w0.heap.size w0 w1 := nT (by repeat (first | exact Below.refl _ _ | apply Below.drew)) b1; have y0 := kC b2 x0; have y1 := kC b2 x1; have y2 := kC b2 x2)
    | (go_at_call 56; refine (dOrdE p q.1 (wordsOf q.2.1) q.2.2 a n c ai ni ci _ ((hI.keep b2).keep (by repeat (first | exact Below.refl _ _ | apply Below.drew))) hn (hOi.1.keep (by repeat (first | exact Below.refl _ _ | apply Below.drew))) (by have := HNi.out; have := HQ.out.1; omega) HP.out ⟨HQ.out.2.1, HQ.out.2.2.1⟩).mono ?_; rintro r w3 ⟨rfl, b3⟩; have b4 := nT (nT bA b2) (nT (show Below w1.heap.size w1 _ from by repeat (first | exact Below.refl _ _ | apply Below.drew)) b3)))
  all_goals
    go_wp2_with fail
    go_ret
    exact ⟨by rw [val_words, HQ.out.2.2.2]; rfl, b4⟩

end Go.Proofs.YtiijfnaaekmpbaaGreatDoor

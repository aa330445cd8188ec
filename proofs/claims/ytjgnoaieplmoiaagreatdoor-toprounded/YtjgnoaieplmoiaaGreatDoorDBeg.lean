/- The first question of dyad's statements. -/
import Derived.Test.YtjgnoaieplmoiaaGreatDoorPFA
import Derived.Test.YtjgnoaieplmoiaaGreatDoorRDA
import Derived.Test.YtjgnoaieplmoiaaGreatDoorDGA
import Derived.Test.YtjgnoaieplmoiaaGreatDoorDCmp2
namespace Go.Proofs.YtjgnoaieplmoiaaGreatDoor
open Go.RowKit

theorem words_one (n : Nat) (h0 : n ≠ 0) (h : n < 18446744073709551616) : wordsOf n = [(n : Int)] := by
  rw [wordsOf, dif_neg h0, Nat.div_eq_of_lt h, words_zero, Nat.mod_eq_of_lt h]
theorem isW_one (w : World) (B : Nat) (x : Nat) (t : TypeId) (hB : w.heap.size = B) (hx : x < 18446744073709551616) : IsW (w.alloc (.cells #[.int .u64 (x : Int)] t)) (some ⟨B, 0, none⟩) 1 1 [(x : Int)] := by
  subst hB
  refine ⟨rfl, fun y hy => by simp at hy; omega, ⟨Nat.le_refl _, fun e => by cases e⟩, fun i hi => ?_⟩
  refine ⟨w.heap.size, 0, rfl, by simp, ?_⟩
  match i, hi with
  | 0, _ => first | (simp; done) | (go_simp; done) | rfl
theorem great_small (m : Nat) (h : m < 18446744073709551616) : greatB m = false := (great_not m).2 (by have := (blen_le m 64).2 (by have : (2 : Nat) ^ 64 = 18446744073709551616 := rfl; omega); omega)
theorem right_small (m : Nat) (e : Int) (h : m < 18446744073709551616) (he : -32768 ≤ e ∧ e ≤ 32768) : rightB m e = true := by
  rw [rightB_fit (great_small m h)]; unfold inB; exact decide_eq_true he
theorem room_small (s : Bool) (m : Nat) (e : Int) (h : m < 18446744073709551616) (he : -32768 ≤ e ∧ e ≤ 32768) : roomE (s, m, e) = 0 ∧ roomP (s, m, e) = (s, m, e) := room_yes (great_small m h) (by unfold inB; exact decide_eq_true he)
theorem bl11 : blen 11 = 4 := by decide +kernel
theorem bg1 : intD 11 = (false, 11, 0) := form_odd false (by decide) 0
theorem bg2 : cutD (false, 11, 0) 2 false = (false, 1, 3) := by
  unfold cutD
  rw [bl11, if_neg (by decide)]
  show formD false (1 * 2 ^ 1) 2 = _
  rw [form_shift]; exact form_odd false (by decide) _
theorem bg3 : cutD (false, 11, 0) 2 true = (false, 3, 2) := by
  unfold cutD
  rw [bl11, if_neg (by decide)]
  exact form_odd false (by decide) _
theorem bg4 : fromP 4609434218613702656 = (false, 3, -1) := by
  have h1 : finB 4609434218613702656 = true := by decide
  have h2 : sgnB 4609434218613702656 = false := by decide
  have h3 : (countV 4609434218613702656).toNat = 3 * 2 ^ 51 := by decide
  have h4 : unitV 4609434218613702656 = -52 := by decide
  unfold fromP fromD
  rw [if_pos h1, h2, h3, h4, form_shift]; exact form_odd false (by decide) _
theorem bg5 : sumD (false, 1, 3) (false, 3, 2) = (false, 5, 2) := by
  unfold sumD
  rw [if_neg (by decide), if_neg (by decide), if_neg (by decide)]
  unfold addHi
  exact form_odd (m := 5) false (by decide) 2
theorem bg6 : cmpD (false, 1, 3) (false, 3, 2) = -1 := by decide +kernel
theorem bg7 : lastE 4609434218613702656 = 0 := by decide




theorem bCmp (a : Option Addr) (n c : Nat) (a' : Option Addr) (n' c' : Nat) (w : World) (h : IsW w a n c (wordsOf 1)) (hn : n ≤ 1024) (h' : IsW w a' n' c' (wordsOf 3)) (hn' : n' ≤ 1024) (hT : Tab w) : Calls Tryz.prog 44 #[dyV false a n c 3, dyV false a' n' c' 2] w fun r w' => r = .returned (.tuple #[.int .i64 (-1), .int .i64 0]) ∧ Below w.heap.size w w' := by
  have := dcmp_yes false a n c (wordsOf 1) 3 false a' n' c' (wordsOf 3) 2 w h (by omega) h' (by omega) hT (by rw [val_words]; exact right_small 1 3 (by decide) (by decide)) (by rw [val_words]; exact right_small 3 2 (by decide) (by decide))
  rw [val_words, val_words, form_odd false (by decide) 3, form_odd false (by decide) 2, bg6] at this
  exact this

end Go.Proofs.YtjgnoaieplmoiaaGreatDoor

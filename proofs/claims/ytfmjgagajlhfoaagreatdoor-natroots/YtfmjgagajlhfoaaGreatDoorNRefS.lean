/- The walks of the document's sums and differences, or why there are none. -/
import Derived.Test.YtfmjgagajlhfoaaGreatDoorNSub
import Derived.Test.YtfmjgagajlhfoaaGreatDoorNProg7
namespace Go.Proofs.YtfmjgagajlhfoaaGreatDoor
open Go.RowKit

theorem natAt_own {B cv : Nat} {w : World} {a : Option Addr} {r n : Nat} (h : Own B w a cv (wordsOf r)) (hn : (wordsOf r).length = n) : NatAt B w (.slice a n cv) r := ⟨a, n, cv, rfl, hn.symm, h.ownW (words_U _) hn⟩

set_option maxHeartbeats 1000000 in
theorem nFit_calls (B : Nat) (a : Option Addr) (n c v : Nat) (w : World) (h : OwnW B w a n c (wordsOf v)) (hm : n ≤ 17592186044416) :
    Calls Tryz.prog 41 #[.slice a n c] w fun e w' => ∃ r, e = .returned (.tuple #[r, .int .i64 (fitR v).2]) ∧ NatAt B w r (fitR v).1 ∧ w' = w := by
  have HN : Hid (n = (wordsOf v).length) := h.1.1
  have HG : Hid _ := nGreat_calls a n c (wordsOf v) w h.1 hm
  rw [val_words, ← HN.out] at HG
  by_cases hg : 1024 < n
  · have e0 : Hid (greatB v = true) := by rw [Hid, greatB, ← HN.out]; simpa using hg
    go_enter Tryz.func41, Tryz.ntmps41
    go_wp2_with fail
    refine Calls.mono HG.out ?_
    rintro e w ⟨rfl, rfl⟩
    go_wp2_with fail
    go_ret2
    rw [fitR_yes e0.out]
    exact ⟨_, rfl, natAt_nil _ _, rfl⟩
  · have e0 : Hid (greatB v = false) := by rw [Hid, greatB, ← HN.out]; simpa using hg
    go_enter Tryz.func41, Tryz.ntmps41
    go_wp2_with fail
    refine Calls.mono HG.out ?_
    rintro e w ⟨rfl, rfl⟩
    go_wp2_with fail
    go_ret2
    rw [fitR_no e0.out]
    exact ⟨_, rfl, ⟨a, n, c, rfl, HN.out, h⟩, rfl⟩
theorem words_bound {u k : Nat} (h : u < 18446744073709551616 ^ k) : (wordsOf u).length ≤ k := (words_len k u).2 h
theorem sum_words {xs ys : List Int} (hx : AllU xs) (hy : AllU ys) : (wordsOf (val xs + val ys)).length ≤ max xs.length ys.length + 1 := by
  apply words_bound
  have h1 : val xs < 18446744073709551616 ^ (max xs.length ys.length) := Nat.lt_of_lt_of_le (val_lt xs hx) (Nat.pow_le_pow_right (by decide) (by omega))
  have h2 : val ys < 18446744073709551616 ^ (max xs.length ys.length) := Nat.lt_of_lt_of_le (val_lt ys hy) (Nat.pow_le_pow_right (by decide) (by omega))
  rw [Nat.pow_succ]
  generalize 18446744073709551616 ^ (max xs.length ys.length) = P at *
  omega
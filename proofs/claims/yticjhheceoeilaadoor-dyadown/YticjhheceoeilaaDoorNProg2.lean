/- The walks of package nat, second part: copies, answers, how many bits, which is the greater, single bits. -/
import Derived.Test.YticjhheceoeilaaDoorNProg1
import Derived.Test.YticjhheceoeilaaDoorNRef2
import Derived.Test.YticjhheceoeilaaDoorNShelf
namespace Go.Proofs.YticjhheceoeilaaDoor
open Go.RowKit

/-- A natural in memory of the call's own, from block B on. -/
def NatAt (B : Nat) (w : World) (v : Value) (r : Nat) : Prop := ∃ (ao : Option Addr) (n c : Nat), v = .slice ao n c ∧ n = (wordsOf r).length ∧ OwnW B w ao n c (wordsOf r)
theorem natAt_nil (B : Nat) (w : World) : NatAt B w (.slice none 0 0) 0 := ⟨none, 0, 0, rfl, by rw [words_zero]; rfl, by rw [words_zero]; exact ownW_nil B w⟩
theorem NatAt.keep {B : Nat} {w w' : World} {v : Value} {r : Nat} (h : NatAt B w v r) (hb : Below w.heap.size w w') : NatAt B w' v r := by
  obtain ⟨ao, n, c, e1, e2, h3⟩ := h
  exact ⟨ao, n, c, e1, e2, h3.keep hb⟩
theorem NatAt.low {B B' : Nat} {w : World} {v : Value} {r : Nat} (h : NatAt B w v r) (hB : B' ≤ B) : NatAt B' w v r := by
  obtain ⟨ao, n, c, e1, e2, h3⟩ := h
  exact ⟨ao, n, c, e1, e2, h3.low hB⟩
theorem trimN_pack (a : Option Addr) (len cap : Nat) (xs : List Int) (w : World) (h : IsW w a len cap xs) (hm : len ≤ 17592186044416) :
    Calls Tryd.prog 74 #[.slice a len cap] w fun e w' => ∃ (a1 : Option Addr) (n : Nat), e = .returned (.slice a1 n n) ∧ n = (wordsOf (val xs)).length ∧ IsW w a1 n n (wordsOf (val xs)) ∧ w' = w := by
  refine Calls.mono (trimN_calls a len cap xs w h hm) ?_
  rintro e w' ⟨rfl, rfl⟩
  exact ⟨_, _, rfl, rfl, isW_trim h, rfl⟩
theorem trimW_pack (B : Nat) (a : Option Addr) (len cap : Nat) (xs : List Int) (w : World) (h : OwnW B w a len cap xs) (hm : len ≤ 17592186044416) :
    Calls Tryd.prog 95 #[.slice a len cap] w fun e w' => ∃ (a1 : Option Addr) (n : Nat), e = .returned (.slice a1 n n) ∧ n = (wordsOf (val xs)).length ∧ OwnW B w a1 n n (wordsOf (val xs)) ∧ w' = w := by
  refine Calls.mono (trimW_calls a len cap xs w h.1 hm) ?_
  rintro e w' ⟨rfl, rfl⟩
  exact ⟨_, _, rfl, rfl, ownW_trim h, rfl⟩
theorem words_le (xs : List Int) (h : AllU xs) : (wordsOf (val xs)).length ≤ xs.length := by have := size_words xs h; have := size_le xs; omega
theorem below_one (w : World) (o : Obj) : Below w.heap.size w (w.alloc o) := (Below.refl _ _).alloc (Nat.le_refl _) o

set_option maxHeartbeats 1000000 in
theorem answer_calls (B : Nat) (a : Option Addr) (len cap : Nat) (xs : List Int) (w : World) (h : OwnW B w a len cap xs) (hm : len ≤ 17592186044416) :
    Calls Tryd.prog 78 #[.slice a len cap] w fun e w' => ∃ v, e = .returned (.tuple #[v, .int .i64 (fitR (val xs)).2]) ∧ NatAt B w' v (fitR (val xs)).1 ∧ Below w.heap.size w w' := by
  have HT := trimW_pack B a len cap xs w h hm
  go_enter Tryd.func78, Tryd.ntmps78
  go_wp2_with fail
  refine Calls.mono HT ?_
  rintro e w ⟨a1, n, rfl, hn, hO, rfl⟩
  have HN : Hid (n = (wordsOf (val xs)).length) := hn
  clear hn HT h hm
  go_wp2_with fail
  refine Calls.mono (great1_calls _ a1 n n _ (by go_simp)) ?_
  rintro e w1 ⟨rfl, rfl⟩
  by_cases hg : 1024 < n
  · have e0 : Hid (greatB (val xs) = true) := by rw [Hid, greatB, ← HN.out]; simpa using hg
    go_wp2_with fail
    go_ret2
    rw [fitR_yes e0.out]
    exact ⟨_, rfl, natAt_nil _ _, below_one _ _⟩
  · have e0 : Hid (greatB (val xs) = false) := by rw [Hid, greatB, ← HN.out]; simpa using hg
    go_wp2_with fail
    go_ret2
    rw [fitR_no e0.out]
    exact ⟨_, rfl, ⟨a1, n, n, rfl, HN.out, hO.keep (below_one _ _)⟩, below_one _ _⟩

set_option maxHeartbeats 1000000 in
theorem bits_calls (a : Option Addr) (n : Nat) (v : Nat) (w : World) (h : IsW w a n n (wordsOf v)) (hm : n ≤ 17592186044416) :
    Calls Tryd.prog 81 #[.slice a n n] w fun e w' => e = .returned (.int .i64 (blen v)) ∧ w' = w := by
  have HL : Hid (n = (wordsOf v).length) := h.1
  by_cases h0 : v = 0
  · subst h0
    have : n = 0 := by rw [HL.out, words_zero]; rfl
    subst this
    have e0 : Hid (blen 0 = 0) := blen_zero
    clear h HL
    go_enter Tryd.func81, Tryd.ntmps81
    go_wp2_with fail
    go_ret
    exact ⟨nret_int (by rw [e0.out]; rfl), rfl⟩
  · have hT : Hid _ := blen_top v h0
    have hlp : 0 < n := by
      rcases Nat.eq_zero_or_pos n with h1 | h1
      · exact absurd ((words_nil _).1 (List.length_eq_zero_iff.1 (by rw [← HL.out]; exact h1))) h0
      · exact h1
    obtain ⟨m, rfl⟩ : ∃ m, n = m + 1 := ⟨n - 1, by omega⟩
    have hg := (words_U v).get m
    obtain ⟨b, off, ha, _, hc⟩ := h.2.2.2 m (by omega)
    subst ha
    rw [← HL.out, show m + 1 - 1 = m by omega] at hT
    obtain ⟨x, hx⟩ : ∃ x, x = (wordsOf v).getD m 0 := ⟨_, rfl⟩
    rw [← hx] at hc hT hg
    have hbl : Lib.bitLen x.toNat = blen x.toNat := blen_lib _ (by have : (2 : Nat) ^ 64 = 18446744073709551616 := rfl; omega)
    have hbt : Lib.bitLen x.toNat ≤ 64 := by rw [hbl, blen_le]; have : (2 : Nat) ^ 64 = 18446744073709551616 := rfl; omega
    have hV : Hid (blen v = 64 * m + Lib.bitLen x.toNat) := by rw [hbl]; exact hT
    clear hT hbl h hx h0 HL
    go_enter Tryd.func81, Tryd.ntmps81
    go_wp2_with fail
    refine Calls.mono (Tryd.bits_LeadingZeros64 _ _ hg.1 hg.2) ?_
    rintro e w ⟨rfl, rfl⟩
    go_wp2_with fail
    go_ret
    exact ⟨nret_int (by rw [hV.out]; omega), rfl⟩
end Go.Proofs.YticjhheceoeilaaDoor

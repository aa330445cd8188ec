/- The walks of package nat, second part: copies, answers, how many bits, which is the greater, single bits. -/
import Derived.Test.YtfmjgagajlhfoaaDoorNProg1
import Derived.Test.YtfmjgagajlhfoaaDoorNRef2
import Derived.Test.YtfmjgagajlhfoaaDoorNShelf
namespace Go.Proofs.YtfmjgagajlhfoaaDoor
open Go.RowKit

/-- A natural in memory of the call's own, from block B on. -/
def NatAt (B : Nat) (w : World) (v : Value) (r : Nat) : Prop := ∃ (ao : Option Addr) (n c : Nat), v = .slice ao n c ∧ n = (wordsOf r).length ∧ OwnW B w ao n c (wordsOf r)
theorem natAt_nil (B : Nat) (w : World) : NatAt B w (.slice none 0 0) 0 := ⟨none, 0, 0, rfl, by rw [words_zero]; rfl, by rw [words_zero]; exact ownW_nil B w⟩
theorem NatAt.keep {B : Nat} {w w' : World} {v : Value} {r : Nat} (h : NatAt B w v r) (hb : Below w.heap.size w w') : NatAt B w' v r := by
  obtain ⟨ao, n, c, e1, e2, h3⟩ := h
  exact ⟨ao, n, c, e1, e2, h3.keep hb⟩
theorem NatAt.low {B B' : Nat} {w : World} {v : Value} {r : Nat} (h : NatAt B w v r) (hB : B' ≤ B) : NatAt B' w v r := by
  obtain ⟨ao, n, c, e1, e2, h3⟩ := h
  exact ⟨ao, n, c, e1, e2, h3.low hB⟩
theorem trimN_pack (a : Option Addr) (len cap : Nat) (xs : List Int) (w : World) (h : IsW w a len cap xs) (hm : len ≤ 17592186044416) :
    Calls Tryd.prog 21 #[.slice a len cap] w fun e w' => ∃ (a1 : Option Addr) (n : Nat), e = .returned (.slice a1 n n) ∧ n = (wordsOf (val xs)).length ∧ IsW w a1 n n (wordsOf (val xs)) ∧ w' = w := by
  refine Calls.mono (trimN_calls a len cap xs w h hm) ?_
  rintro e w' ⟨rfl, rfl⟩
  exact ⟨_, _, rfl, rfl, isW_trim h, rfl⟩
theorem trimW_pack (B : Nat) (a : Option Addr) (len cap : Nat) (xs : List Int) (w : World) (h : OwnW B w a len cap xs) (hm : len ≤ 17592186044416) :
    Calls Tryd.prog 47 #[.slice a len cap] w fun e w' => ∃ (a1 : Option Addr) (n : Nat), e = .returned (.slice a1 n n) ∧ n = (wordsOf (val xs)).length ∧ OwnW B w a1 n n (wordsOf (val xs)) ∧ w' = w := by
  refine Calls.mono (trimW_calls a len cap xs w h.1 hm) ?_
  rintro e w' ⟨rfl, rfl⟩
  exact ⟨_, _, rfl, rfl, ownW_trim h, rfl⟩
theorem words_le (xs : List Int) (h : AllU xs) : (wordsOf (val xs)).length ≤ xs.length := by have := size_words xs h; have := size_le xs; omega
theorem below_one (w : World) (o : Obj) : Below w.heap.size w (w.alloc o) := (Below.refl _ _).alloc (Nat.le_refl _) o

set_option maxHeartbeats 1000000 in
theorem copied_calls (a : Option Addr) (n : Nat) (xs : List Int) (w : World) (h : IsW w a n n xs) (hm : n ≤ 17592186044416) :
    Calls Tryd.prog 38 #[.slice a n n] w fun e w' => ∃ (ao : Option Addr) (cv : Nat), e = .returned (.slice ao n cv) ∧ OwnW w.heap.size w' ao n cv xs ∧ Below w.heap.size w w' := by
  obtain ⟨i0, hi, hz0, hz1, hz2⟩ := info_parts word_info
  have HL : Hid (n = xs.length) := h.1
  have HU : Hid (AllU xs) := h.2.1
  cases a with
  | none =>
    obtain rfl := h.2.2.1.2 rfl
    have hx : xs = [] := List.length_eq_zero_iff.1 HL.out.symm
    subst hx
    clear h
    go_enter Tryd.func38, Tryd.ntmps38
    go_wp2
    go_ret
    exact ⟨none, 0, rfl, ownW_nil _ _, by first | exact Below.refl _ _ | exact (Below.refl _ _).drew⟩
  | some ad =>
    have hnews : ∀ j u, (xs.map (Value.int .u64))[j]? = some u → w.cell? (ad.add j) = some u := by
      intro j u hj
      have hjl : j < n := by
        have := (List.getElem?_eq_some_iff.1 hj).1
        simp at this; have := HL.out; omega
      obtain ⟨b2, off2, e2, _, q2⟩ := h.2.2.2 j hjl
      simp only [Option.some.injEq] at e2
      subst e2
      have hu : u = .int .u64 (xs.getD j 0) := by
        simp only [List.getElem?_map] at hj
        have hj2 : xs[j]? = some (xs.getD j 0) := by
          rw [List.getElem?_eq_getElem (by have := HL.out; omega)]; simp [List.getD, show j < xs.length by have := HL.out; omega]
        rw [hj2] at hj
        simpa using hj.symm
      rw [hu]
      by_cases h00 : j = 0
      · subst h00; simpa [Addr.add] using q2
      · simpa [Addr.add, h00] using q2
    have HNEW : Hid _ := hnews
    clear hnews h
    go_enter Tryd.func38, Tryd.ntmps38
    go_wp2_with (at_builtin; refine wpList_append_own _ rfl _ _ 46 rfl w.heap.size 39 i0 (.int .u64 0) 1 8 Tryd.underlying46 hi hz0 hz1 hz2 rfl (by decide) _ _ _ rfl (World.ownsRow_nil _ _ _ _) ad n n (xs.map (Value.int .u64)) rfl (by rw [List.length_map, ← HL.out]; omega) HNEW.out (fun u hu => by simp only [List.mem_map] at hu; obtain ⟨y, _, rfl⟩ := hu; rfl) (by unfold maxLen; omega) (by omega) (by omega) ?_; intro v' w3 hown' hgrow3 hnil3)
    go_ret
    have hb3 : Below w.heap.size w w3 := (Below.refl _ _).grown hgrow3 (Nat.le_refl _) (fun q hq => by cases hq)
    have hO : ∃ ao cv, v' = .slice ao n cv ∧ Own w.heap.size w3 ao cv xs := by
      rcases hown'.2 with ⟨e1, e2⟩ | ⟨g3, cap3, cur, e1, r⟩
      · have hn0 : n = 0 := by omega
        have hx : xs = [] := List.length_eq_zero_iff.1 (by rw [← HL.out]; exact hn0)
        refine ⟨none, 0, by rw [e1, hn0], ?_⟩
        subst hx
        exact World.ownsRow_nil _ _ _ _
      · rw [Nat.zero_add] at e1
        refine ⟨some ⟨g3, 0, none⟩, cap3, e1, ?_⟩
        unfold Own
        rw [← HL.out, ← e1]
        simpa using hown'
    obtain ⟨ao, cv, e1, hO⟩ := hO
    exact ⟨ao, cv, by rw [e1]; rfl, hO.ownW HU.out HL.out.symm, hb3⟩

set_option maxHeartbeats 1000000 in
theorem answer_calls (B : Nat) (a : Option Addr) (len cap : Nat) (xs : List Int) (w : World) (h : OwnW B w a len cap xs) (hm : len ≤ 17592186044416) :
    Calls Tryd.prog 30 #[.slice a len cap] w fun e w' => ∃ v, e = .returned (.tuple #[v, .int .i64 (fitR (val xs)).2]) ∧ NatAt B w' v (fitR (val xs)).1 ∧ Below w.heap.size w w' := by
  have HT := trimW_pack B a len cap xs w h hm
  go_enter Tryd.func30, Tryd.ntmps30
  go_wp2_with fail
  refine Calls.mono HT ?_
  rintro e w ⟨a1, n, rfl, hn, hO, rfl⟩
  have HN : Hid (n = (wordsOf (val xs)).length) := hn
  clear hn HT h hm
  go_wp2_with fail
  refine Calls.mono (great1_calls _ a1 n n _ (by go_simp)) ?_
  rintro e w1 ⟨rfl, rfl⟩
  by_cases hg : 1024 < n
  · have e0 : Hid (greatB (val xs) = true) := by rw [Hid, greatB, ← HN.out]; simpa using hg
    go_wp2_with fail
    go_ret2
    rw [fitR_yes e0.out]
    exact ⟨_, rfl, natAt_nil _ _, below_one _ _⟩
  · have e0 : Hid (greatB (val xs) = false) := by rw [Hid, greatB, ← HN.out]; simpa using hg
    go_wp2_with fail
    go_ret2
    rw [fitR_no e0.out]
    exact ⟨_, rfl, ⟨a1, n, n, rfl, HN.out, hO.keep (below_one _ _)⟩, below_one _ _⟩

set_option maxHeartbeats 1000000 in
theorem bits_calls (a : Option Addr) (n : Nat) (v : Nat) (w : World) (h : IsW w a n n (wordsOf v)) (hm : n ≤ 17592186044416) :
    Calls Tryd.prog 41 #[.slice a n n] w fun e w' => e = .returned (.int .i64 (blen v)) ∧ w' = w := by
  have HL : Hid (n = (wordsOf v).length) := h.1
  by_cases h0 : v = 0
  · subst h0
    have : n = 0 := by rw [HL.out, words_zero]; rfl
    subst this
    have e0 : Hid (blen 0 = 0) := blen_zero
    clear h HL
    go_enter Tryd.func41, Tryd.ntmps41
    go_wp2_with fail
    go_ret
    exact ⟨nret_int (by rw [e0.out]; rfl), rfl⟩
  · have hT : Hid _ := blen_top v h0
    have hlp : 0 < n := by
      rcases Nat.eq_zero_or_pos n with h1 | h1
      · exact absurd ((words_nil _).1 (List.length_eq_zero_iff.1 (by rw [← HL.out]; exact h1))) h0
      · exact h1
    obtain ⟨m, rfl⟩ : ∃ m, n = m + 1 := ⟨n - 1, by omega⟩
    have hg := (words_U v).get m
    obtain ⟨b, off, ha, _, hc⟩ := h.2.2.2 m (by omega)
    subst ha
    rw [← HL.out, show m + 1 - 1 = m by omega] at hT
    obtain ⟨x, hx⟩ : ∃ x, x = (wordsOf v).getD m 0 := ⟨_, rfl⟩
    rw [← hx] at hc hT hg
    have hbl : Lib.bitLen x.toNat = blen x.toNat := blen_lib _ (by have : (2 : Nat) ^ 64 = 18446744073709551616 := rfl; omega)
    have hbt : Lib.bitLen x.toNat ≤ 64 := by rw [hbl, blen_le]; have : (2 : Nat) ^ 64 = 18446744073709551616 := rfl; omega
    have hV : Hid (blen v = 64 * m + Lib.bitLen x.toNat) := by rw [hbl]; exact hT
    clear hT hbl h hx h0 HL
    go_enter Tryd.func41, Tryd.ntmps41
    go_wp2_with fail
    refine Calls.mono (Tryd.bits_LeadingZeros64 _ _ hg.1 hg.2) ?_
    rintro e w ⟨rfl, rfl⟩
    go_wp2_with fail
    go_ret
    exact ⟨nret_int (by rw [hV.out]; omega), rfl⟩
end Go.Proofs.YtfmjgagajlhfoaaDoor

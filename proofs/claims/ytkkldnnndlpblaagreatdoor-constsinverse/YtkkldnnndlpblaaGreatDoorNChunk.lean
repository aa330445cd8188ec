/- The walk of a natural's digits, nineteen to a word. -/
import Derived.Test.YtkkldnnndlpblaaGreatDoorNTextP
import Derived.Test.YtkkldnnndlpblaaGreatDoorTMB
import Derived.Test.YtkkldnnndlpblaaGreatDoorTMC
namespace Go.Proofs.YtkkldnnndlpblaaGreatDoor
open Go.RowKit

theorem words_low (v : Nat) (h : v < 18446744073709551616) : (wordsOf v).getD 0 0 = (v : Int) := by
  have e := words_get v 0
  have := (words_U v).get 0
  rw [Nat.pow_zero, Nat.div_one, Nat.mod_eq_of_lt h] at e
  omega

theorem many_words {v : Nat} (h : 1 < (wordsOf v).length) : ¬ v < 18446744073709551616 := fun q => by
  have := (words_len 1 v).2 (by simpa using q)
  omega

theorem one_word {v : Nat} (h : (wordsOf v).length ≤ 1) : v < 18446744073709551616 := by simpa using (words_len 1 v).1 h

/-- A list of natural numbers as words. -/
def asW (L : List Nat) : List Int := L.map fun x : Nat => (x : Int)

theorem asW_snoc (L : List Nat) (x : Nat) : asW (L ++ [x]) = asW L ++ [(x : Int)] := by simp [asW]

theorem asW_len (L : List Nat) : (asW L).length = L.length := by simp [asW]

theorem own_form {B k : Nat} {w : World} {v : Value} {L : List Int} (hk : L.length = k) (hp : 0 < k) (h : w.ownsRow B 59 1 v k (L.map (Value.int .u64))) :
    ∃ g cap, v = .slice (some ⟨g, 0, none⟩) k cap ∧ Own B w (some ⟨g, 0, none⟩) cap L := by
  obtain ⟨g3, cap3, hv3⟩ : ∃ g3 cap3, v = .slice (some ⟨g3, 0, none⟩) k cap3 := by
    rcases h.2 with ⟨_, h⟩ | ⟨g3, cap3, _, h, _⟩
    · omega
    · exact ⟨g3, cap3, h⟩
  subst hv3
  refine ⟨g3, cap3, rfl, ?_⟩
  unfold Own; rw [hk]; exact h

theorem own_snocN {B k : Nat} {w : World} {v : Value} {L : List Int} {s : Int} (hk : L.length = k) (h : w.ownsRow B 59 1 v (k + 1) (L.map (Value.int .u64) ++ [.int .u64 s])) :
    ∃ g cap, v = .slice (some ⟨g, 0, none⟩) (k + 1) cap ∧ Own B w (some ⟨g, 0, none⟩) cap (L ++ [s]) := by
  have h' : w.ownsRow B 59 1 v (k + 1) ((L ++ [s]).map (Value.int .u64)) := by rw [List.map_append]; exact h
  exact own_form (by rw [List.length_append, hk]; rfl) (by omega) h'

/-- How long a slice is. -/
def lenOf : Value → Nat
  | .slice _ k _ => k
  | _ => 0

theorem chunks_bound (v n : Nat) (hv : n = (wordsOf v).length) (hn : n ≤ 1024) : (chunksOf v).length ≤ 1042 := by
  have h1 := (words_len2 n v).1 (by omega)
  exact chunks_len_b 1041 v (by omega)

theorem trim_block {a : Option Addr} {n g off : Nat} (h : trimA a n = some ⟨g, off, none⟩) : a = some ⟨g, off, none⟩ := by
  unfold trimA at h
  split at h
  · cases h
  · exact h

set_option maxRecDepth 100000 in
set_option maxHeartbeats 4000000 in
theorem chunks_calls (a : Option Addr) (n v0 : Nat) (w : World) (h : IsW w a n n (wordsOf v0)) (hn : n ≤ 1024) :
    Calls Tryz.prog 89 #[.slice a n n] w fun e w' => ∃ (g cap k : Nat), e = .returned (.slice (some ⟨g, 0, none⟩) k cap) ∧ k = (chunksOf v0).length ∧ Own w.heap.size w' (some ⟨g, 0, none⟩) cap (asW (chunksOf v0)) ∧ k ≤ 1042 ∧ Below w.heap.size w w' := by
  obtain ⟨i0, hi, hz0, hz1, hz2⟩ := info_parts word_info
  have hCB := chunks_bound v0 n h.1 hn
  obtain ⟨N, hN⟩ : ∃ N, N = (chunksOf v0).length := ⟨_, rfl⟩
  rw [← hN] at hCB
  have HNN : Hid (N = (chunksOf v0).length) := hN
  clear hN
  go_enter Tryz.func89, Tryz.ntmps89
  go_wp2_with fail
  refine Calls.mono (copied_calls a n (wordsOf v0) w h (by omega)) ?_
  rintro e w1 ⟨ao, cv, rfl, hO, hb⟩
  have HN : Hid (n = (wordsOf v0).length) := h.1
  clear h
  go_wp2_with fail
  go_loopw [3, 4] (fun vl va wr => ∃ (L : List Nat) (v l : Nat) (lo ad : Option Addr) (lc m c : Nat), vl = .slice lo l lc ∧ va = .slice ad m c ∧ Hid (l = L.length) ∧ Hid (L ++ chunksOf v = chunksOf v0) ∧ Hid (m = (wordsOf v).length) ∧ m ≤ 1024 ∧ OwnW w.heap.size wr ad m c (wordsOf v) ∧ wr.ownsRow w.heap.size 59 1 (.slice lo l lc) l ((asW L).map (Value.int .u64)) ∧ (∀ g off, ad = some ⟨g, off, none⟩ → (Value.slice lo l lc).ownBlock ≠ some g) ∧ Below w.heap.size w wr) (fun vl _ _ => N - lenOf vl)
  case atStart => exact ⟨[], v0, 0, none, ao, 0, n, cv, rfl, rfl, rfl, rfl, HN, hn, hO, World.ownsRow_nil _ _ _ _, (fun g off _ e => by cases e), hb⟩
  case round =>
    clear hO hb HN
    obtain ⟨L, v, l, lo, ad, lc, m, c, rfl, rfl, HL, HLv, HM, hm, hO, hown, hne, hbr⟩ := hrel
    have hlN : l + 1 ≤ N := by
      have h1 := HL.out; have h2 := HNN.out; have h3 := congrArg List.length HLv.out
      rw [List.length_append] at h3
      have h4 := List.length_pos_iff.2 (chunks_ne v)
      omega
    by_cases hlt : 1 < m
    · obtain ⟨g, off, rfl, hgl, _⟩ := hO.1.2.2.2 0 (by omega)
      have hgB := (hO.2 g off 0 rfl (by omega)).1
      have hneg := hne g off rfl
      have HNE : Hid ((Value.slice lo l lc).ownBlock ≠ some g) := hneg
      have HCH : Hid (chunksOf v = v % 10000000000000000000 :: chunksOf (v / 10000000000000000000)) := chunks_more (many_words (by rw [← HM.out]; exact hlt))
      have DB : Hid _ := divideBy_calls w.heap.size g off m c 10000000000000000000 (wordsOf v) wr hO (by omega) (by decide) (by decide)
      clear hne hneg
      have hsz := hbr.size
      go_wp2_with fail
      refine Calls.mono DB.out ?_
      rintro e w2 ⟨M, rfl, hO2, hvM, hg2⟩
      rw [val_words] at hvM ⊢
      have HVM : Hid (val M = v / 10000000000000000000) := hvM
      have hrl := Nat.mod_lt v (show 0 < 10000000000000000000 by decide)
      obtain ⟨r, hr⟩ : ∃ r, r = v % 10000000000000000000 := ⟨_, rfl⟩
      rw [← hr] at hrl ⊢
      have HR : Hid (r = v % 10000000000000000000) := hr
      clear hvM hr DB
      have hown2 := hown.kept hg2 (Or.inr HNE.out)
      have hb2 : Below w.heap.size w w2 := hbr.grown hg2 hsz (fun k e => by simp at e; omega)
      have hsz2 := hb2.size
      have hgl2 : g < w2.heap.size := Nat.lt_of_lt_of_le hgl hg2.size
      clear hO hown hbr hg2 hgl
      go_wp2_with (at_builtin; refine wpList_append_own_at _ rfl _ _ 23 rfl w.heap.size 59 i0 (.int .u64 0) 1 8 Tryz.underlying23 hi hz0 hz1 hz2 rfl (by decide) _ _ _ rfl (hown2.alloc _) ⟨w2.heap.size, 0, none⟩ 1 1 [.int .u64 (r : Int)] rfl rfl (cell_one_new _ _ _) (fun x hx => by simp at hx; subst hx; rfl) (by unfold maxLen; omega) (by omega) (by simp; omega) ?_; intro v' w3 hown' hgrow3 hnil3 hat3)
      obtain ⟨g3, cap3, hv3, hO3⟩ := own_snocN (L := asW L) (s := (r : Int)) (by rw [asW_len]; exact HL.out.symm) hown'
      subst hv3
      have hgne : (Value.slice lo l lc).ownBlock ≠ some g := HNE.out
      have hA2 : OwnW w.heap.size (w2.alloc (.cells #[.int .u64 (r : Int)] 59)) (some ⟨g, off, none⟩) m c M := hO2.keep (below_one _ _)
      have hA3 : OwnW w.heap.size w3 (some ⟨g, off, none⟩) m c M := hA2.grown hgrow3 (fun b o e => by
        simp only [Option.some.injEq, Addr.mk.injEq, and_true] at e
        rw [← e.1]; exact fun q => hgne q.symm)
      have hb3 : Below w.heap.size w w3 := (hb2.alloc hsz2 _).grown hgrow3 (by simp; omega) (fun q hq => (hown2.lt q hq).1)
      have hg3g : g3 ≠ g := by
        intro q
        rcases hat3 with h | h
        · have h' : some g3 = (Value.slice lo l lc).ownBlock := h
          exact hgne (by rw [← h', q])
        · simp [Value.ownBlock] at h; omega
      have HG : Hid (g3 ≠ g) := hg3g
      have HO3 : Hid _ := hO3
      have TW : Hid _ := trimW_calls (some ⟨g, off, none⟩) m c M w3 hA3.1 (by omega)
      have HT : Hid _ := ownW_trim hA3
      have HML : Hid ((wordsOf (val M)).length ≤ m) := by have := words_le M hA3.1.2.1; have := hA3.1.1; rw [Hid]; omega
      clear hgrow3 hnil3 hown' hat3 hown2 hO2 hA2 hA3 hg3g hgne hO3 hb2
      go_wp2_with fail
      refine Calls.mono TW.out ?_
      rintro e w4 ⟨rfl, rfl⟩
      go_wp2_with fail
      refine ⟨⟨L ++ [r], v / 10000000000000000000, l + 1, some ⟨g3, 0, none⟩, _, cap3, _, _, rfl, rfl, ?_, ?_, ?_, ?_, ?_, ?_, ?_, hb3⟩, by simp [lenOf]; omega⟩
      · rw [Hid, List.length_append, ← HL.out]; rfl
      · rw [Hid, List.append_assoc, ← HLv.out, HCH.out, HR.out]; rfl
      · rw [Hid, HVM.out]
      · have := HML.out; omega
      · have := HT.out
        rw [HVM.out] at this ⊢
        exact this
      · have := HO3.out
        unfold Own at this
        rw [asW_snoc, show l + 1 = (asW L ++ [(r : Int)]).length by rw [List.length_append, asW_len, ← HL.out]; rfl]
        exact this
      · intro g' off' e q
        have := trim_block e
        simp only [Option.some.injEq, Addr.mk.injEq, and_true] at this
        simp only [Value.ownBlock, Option.some.injEq] at q
        exact HG.out (by rw [q, ← this.1])
    · have h1w := one_word (v := v) (by rw [← HM.out]; omega)
      have AT : Hid _ := at_calls ad m c (wordsOf v) 0 wr hO.1
      rw [words_low v h1w] at AT
      have HCH : Hid (chunksOf v = [v]) := chunks_one h1w
      have hsz := hbr.size
      clear hne
      go_wp2_with fail
      refine Calls.mono AT.out ?_
      rintro e wr ⟨rfl, rfl⟩
      clear hO AT
      go_wp2_with (at_builtin; refine wpList_append_own _ rfl _ _ 23 rfl w.heap.size 59 i0 (.int .u64 0) 1 8 Tryz.underlying23 hi hz0 hz1 hz2 rfl (by decide) _ _ _ rfl (hown.alloc _) ⟨wr.heap.size, 0, none⟩ 1 1 [.int .u64 (v : Int)] rfl rfl (cell_one_new _ _ _) (fun x hx => by simp at hx; subst hx; rfl) (by unfold maxLen; omega) (by omega) (by simp; omega) ?_; intro v' w3 hown' hgrow3 hnil3)
      obtain ⟨g3, cap3, hv3, hO3⟩ := own_snocN (L := asW L) (s := (v : Int)) (by rw [asW_len]; exact HL.out.symm) hown'
      subst hv3
      have hb3 : Below w.heap.size w w3 := (hbr.alloc hsz _).grown hgrow3 (by simp; omega) (fun q hq => (hown.lt q hq).1)
      clear hgrow3 hnil3 hown'
      go_ret
      have e1 : chunksOf v0 = L ++ [v] := by rw [← HLv.out, HCH.out]
      refine ⟨g3, cap3, l + 1, rfl, ?_, ?_, by omega, hb3⟩
      · rw [e1, List.length_append, ← HL.out]; rfl
      · rw [e1, asW_snoc]; exact hO3

end Go.Proofs.YtkkldnnndlpblaaGreatDoor

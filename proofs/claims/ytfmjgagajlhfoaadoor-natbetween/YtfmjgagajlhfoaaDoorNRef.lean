/- The walks of the document's answers for layer 3 (package ulpref03), first part: words, sameness, size, the one form, order. -/
import Derived.Test.YtfmjgagajlhfoaaDoorRows
import Derived.Test.YtfmjgagajlhfoaaDoorNPure
import Derived.WalkSpells
import Derived.WalkLawsBesides
import Derived.Deep.QuietTactic
import Derived.BigQuiet
import Derived.Maps.AppendAt
import Derived.Laws.AppendOwnNone
namespace Go.Proofs.YtfmjgagajlhfoaaDoor
open Go.RowKit

/-- A slice of words that can be read: its elements are xs. -/
def IsW (w : World) (a : Option Addr) (len cap : Nat) (xs : List Int) : Prop :=
  len = xs.length ∧ AllU xs ∧ (len ≤ cap ∧ (a = none → cap = 0)) ∧ ∀ i, i < len → ∃ b off, a = some ⟨b, off, none⟩ ∧ b < w.heap.size ∧ w.cell? ⟨b, off + i, none⟩ = some (.int .u64 (xs.getD i 0))
theorem IsW.keep {w w' : World} {a : Option Addr} {len cap : Nat} {xs : List Int} (h : IsW w a len cap xs) (hb : Below w.heap.size w w') : IsW w' a len cap xs := by
  obtain ⟨h1, h2, h4, h3⟩ := h
  refine ⟨h1, h2, h4, fun i hi => ?_⟩
  obtain ⟨b, off, e1, e2, e3⟩ := h3 i hi
  exact ⟨b, off, e1, Nat.lt_of_lt_of_le e2 hb.size, (hb.cell (p := ⟨b, off + i, none⟩) e2).trans e3⟩
/-- A slice of words in memory from block B on, of the call's own. -/
def Own (B : Nat) (w : World) (a : Option Addr) (cv : Nat) (L : List Int) : Prop :=
  w.ownsRow B 39 1 (.slice a L.length cv) L.length (L.map (Value.int .u64))
theorem Own.isW {B cv : Nat} {w : World} {a : Option Addr} {L : List Int} (h : Own B w a cv L) (hU : AllU L) : IsW w a L.length cv L := by
  refine ⟨rfl, hU, ?_, fun i hi => ?_⟩
  · rcases h.2 with ⟨hv, h0⟩ | ⟨g, cap, cur, hv, _, _, hn, _⟩
    · simp only [Value.slice.injEq] at hv
      exact ⟨by omega, fun _ => hv.2.2⟩
    · simp only [Value.slice.injEq] at hv
      exact ⟨by omega, fun e => by rw [hv.1] at e; cases e⟩
  rcases h.2 with ⟨_, h0⟩ | ⟨g, cap, cur, hv, _⟩
  · omega
  · have hao : a = some ⟨g, 0, none⟩ := by
      simp only [Value.slice.injEq] at hv
      exact hv.1
    subst hao
    have hc := h.cells (g := g) rfl i (.int .u64 (L.getD i 0)) (by simp [hi])
    have hc' : w.cell? ⟨g, 0 + i, none⟩ = some (.int .u64 (L.getD i 0)) := by
      by_cases h0 : i = 0
      · subst h0; simpa [Addr.add] using hc
      · simpa [Addr.add, h0] using hc
    exact ⟨g, 0, rfl, World.block_lt_of_cell? _ _ hc', hc'⟩
theorem Own.low {B B' cv : Nat} {w : World} {a : Option Addr} {L : List Int} (h : Own B w a cv L) (hB : B' ≤ B) : Own B' w a cv L := by
  refine ⟨h.1, ?_⟩
  rcases h.2 with h0 | ⟨g, cap, cur, hv, hg, r⟩
  · exact Or.inl h0
  · exact Or.inr ⟨g, cap, cur, hv, Nat.le_trans hB hg, r⟩
theorem nret_int {k : IntKind} {a b : Int} (h : a = b) : Ending.returned (.int k a) = .returned (.int k b) := by rw [h]
theorem nret_bool {a b : Bool} (h : a = b) : Ending.returned (.bool a) = .returned (.bool b) := by rw [h]
theorem nbelow_trans {a b c : World} (h : Below a.heap.size a b) (k : Below b.heap.size b c) : Below a.heap.size a c := h.trans (k.mono h.size)

set_option maxHeartbeats 400000 in
theorem nWord_calls (a : Option Addr) (len cap : Nat) (xs : List Int) (i : Nat) (w : World) (h : IsW w a len cap xs) :
    Calls Tryd.prog 43 #[.slice a len cap, .int .i64 i] w fun e w' => e = .returned (.int .u64 (xs.getD i 0)) ∧ w' = w := by
  by_cases hi : i < len
  · obtain ⟨b, off, rfl, _, hc⟩ := h.2.2.2 i hi
    generalize xs.getD i 0 = x at *
    go_enter Tryd.func43, Tryd.ntmps43
    go_wp2
    go_ret
    exact ⟨rfl, rfl⟩
  · have hV : Hid (xs.getD i 0 = 0) := by rw [Hid]; have := h.1; simp [List.getD]; rw [List.getElem?_eq_none (by omega)]; rfl
    go_enter Tryd.func43, Tryd.ntmps43
    go_wp2
    go_ret
    exact ⟨nret_int hV.out.symm, rfl⟩

set_option maxRecDepth 100000 in
set_option maxHeartbeats 1000000 in
theorem nGreat_calls (a : Option Addr) (len cap : Nat) (xs : List Int) (w : World) (h : IsW w a len cap xs) (hm : len ≤ 17592186044416) :
    Calls Tryd.prog 10 #[.slice a len cap] w fun e w' => e = .returned (.bool (decide (1024 < (wordsOf (val xs)).length))) ∧ w' = w := by
  have hS : Hid ((wordsOf (val xs)).length = sizeL xs) := size_words xs h.2.1
  have hlen := h.1
  have HL : Hid (len = xs.length) := hlen
  clear hlen
  go_enter Tryd.func10, Tryd.ntmps10
  go_wp2
  go_loop [3, 8] (fun v i => ∃ k : Nat, k ≤ len ∧ i = .int .i64 k ∧ v = .int .i64 (sizeL (xs.take k))) (fun _ i => len - (intOf i).toNat)
  case atStart => exact ⟨0, by omega, rfl, rfl⟩
  case round =>
    obtain ⟨k, hk, rfl, rfl⟩ := hrel
    by_cases hlt : k < len
    · obtain ⟨b, off, ha, _, hc⟩ := h.2.2.2 k hlt
      have hs := size_snoc (xs.take k) (xs.getD k 0)
      have ht : xs.take (k + 1) = xs.take k ++ [xs.getD k 0] := by
        have := HL.out
        rw [List.take_succ_eq_append_getElem (by omega)]; simp [List.getD, show k < xs.length by omega]
      have HT : Hid (sizeL (xs.take (k + 1)) = if xs.getD k 0 = 0 then sizeL (xs.take k) else k + 1) := by
        have := HL.out
        rw [Hid, ht, hs, List.length_take, Nat.min_eq_left (by omega)]
      clear hs ht
      subst ha
      obtain ⟨x, hx⟩ : ∃ x, x = xs.getD k 0 := ⟨_, rfl⟩
      rw [← hx] at hc HT
      clear hx
      by_cases h0 : x = 0
      · have d0 : (x != 0) = false := by simp [h0]
        have HT' : Hid (sizeL (xs.take (k + 1)) = sizeL (xs.take k)) := by rw [Hid, HT.out, if_pos h0]
        clear h0 HT
        go_wp2
        go_round
        case rel => exact ⟨k + 1, by omega, by go_num, by rw [HT'.out]⟩
        case measure => simp [intOf]; omega
      · have d0 : (x != 0) = true := by simp [h0]
        have HT' : Hid (sizeL (xs.take (k + 1)) = k + 1) := by rw [Hid, HT.out, if_neg h0]
        clear h0 HT
        go_wp2
        go_round
        case rel => exact ⟨k + 1, by omega, by go_num, by rw [HT'.out]; go_num⟩
        case measure => simp [intOf]; omega
    · have HE : Hid (sizeL (xs.take k) = (wordsOf (val xs)).length) := by rw [Hid, hS.out, List.take_of_length_le (by have := HL.out; omega)]
      go_wp2
      go_ret
      refine ⟨nret_bool ?_, rfl⟩
      rw [HE.out, decide_eq_decide]; omega

set_option maxRecDepth 100000 in
set_option maxHeartbeats 1000000 in
theorem nSame_calls (a a' : Option Addr) (len cap len' cap' : Nat) (xs ys : List Int) (w : World) (h : IsW w a len cap xs) (h' : IsW w a' len' cap' ys) (hm : len ≤ 17592186044416) (hm' : len' ≤ 17592186044416) :
    Calls Tryd.prog 9 #[.slice a len cap, .slice a' len' cap'] w fun e w' => e = .returned (.bool (decide (xs = ys))) ∧ Below w.heap.size w w' := by
  have HL : Hid (len = xs.length) := h.1
  have HL' : Hid (len' = ys.length) := h'.1
  by_cases hl : len = len'
  · subst hl
    go_enter Tryd.func9, Tryd.ntmps9
    go_wp2
    go_loopw [13] (fun i wr => ∃ k : Nat, k ≤ len ∧ i = .int .i64 k ∧ xs.take k = ys.take k ∧ IsW wr a len cap xs ∧ IsW wr a' len cap' ys ∧ Below w.heap.size w wr) (fun i _ => len - (intOf i).toNat)
    case atStart => exact ⟨0, by omega, rfl, by simp, h, h', Below.refl _ _⟩
    case round =>
      obtain ⟨k, hk, rfl, ht, hW, hW', hbr⟩ := hrel
      clear h h'
      have HT : Hid (xs.take k = ys.take k) := ht
      clear ht
      by_cases hlt : k < len
      · obtain ⟨b, off, ha, _, hc⟩ := hW.2.2.2 k hlt
        obtain ⟨b', off', ha', _, hc'⟩ := hW'.2.2.2 k hlt
        obtain ⟨x, hx⟩ : ∃ x, x = xs.getD k 0 := ⟨_, rfl⟩
        obtain ⟨y, hy⟩ : ∃ y, y = ys.getD k 0 := ⟨_, rfl⟩
        rw [← hx] at hc
        rw [← hy] at hc'
        have e1 : xs.take (k + 1) = xs.take k ++ [x] := by
          have := HL.out
          rw [hx, List.take_succ_eq_append_getElem (by omega)]; simp [List.getD, show k < xs.length by omega]
        have e2 : ys.take (k + 1) = ys.take k ++ [y] := by
          have := HL'.out
          rw [hy, List.take_succ_eq_append_getElem (by omega)]; simp [List.getD, show k < ys.length by omega]
        subst ha ha'
        by_cases hxy : x = y
        · have d : (x != y) = false := by simp [hxy]
          have HT' : Hid (xs.take (k + 1) = ys.take (k + 1)) := by rw [Hid, e1, e2, HT.out, hxy]
          clear hx hy e1 e2 hxy
          go_wp2
          go_quiet (fail)
          go_wp2
          go_roundw
          case rel => exact ⟨k + 1, by omega, by go_num, HT'.out, hW, hW', below_drewN hbr nq⟩
          case measure => simp [intOf]; omega
        · have d : (x != y) = true := by simp [hxy]
          have HV : Hid (decide (xs = ys) = false) := by
            rw [Hid, decide_eq_false_iff_not]; intro e; rw [hx, hy, e] at hxy; exact hxy rfl
          clear hx hy e1 e2 hxy
          go_wp2
          go_quiet (fail)
          go_wp2
          go_ret
          exact ⟨nret_bool HV.out.symm, below_drewN hbr nq⟩
      · have HV : Hid (decide (xs = ys) = true) := by
          have h1 := HT.out
          rw [List.take_of_length_le (by have := HL.out; omega), List.take_of_length_le (by have := HL'.out; omega)] at h1
          rw [Hid]; simpa using h1
        go_wp2
        go_ret
        exact ⟨nret_bool HV.out.symm, hbr⟩
  · have d : ((len : Int) != (len' : Int)) = true := by simp; omega
    have HV : Hid (decide (xs = ys) = false) := by
      rw [Hid, decide_eq_false_iff_not]; intro e; apply hl; rw [HL.out, HL'.out, e]
    clear hl
    go_enter Tryd.func9, Tryd.ntmps9
    go_wp2
    go_ret
    exact ⟨nret_bool HV.out.symm, Below.refl _ _⟩

theorem word_info : (Tryd.prog.info? 39).map (fun i => (i.zero, i.size, i.bytes)) = some (some (.int .u64 0), 1, 8) := by kernel_rfl

set_option maxRecDepth 100000 in
set_option maxHeartbeats 1000000 in
theorem nNorm_calls (a : Option Addr) (len cap : Nat) (xs : List Int) (w : World) (h : IsW w a len cap xs) (hm : len ≤ 17592186044416) :
    Calls Tryd.prog 35 #[.slice a len cap] w fun e w' => ∃ (ao : Option Addr) (cv : Nat), e = .returned (.slice ao (wordsOf (val xs)).length cv) ∧ Own w.heap.size w' ao cv (wordsOf (val xs)) ∧ Below w.heap.size w w' := by
  obtain ⟨i0, hi, hz0, hz1, hz2⟩ := info_parts word_info
  have HL : Hid (len = xs.length) := h.1
  have HN : Hid _ := norm_eq xs h.2.1
  obtain ⟨hcap, hnil⟩ := h.2.2.1
  go_enter Tryd.func35, Tryd.ntmps35
  go_wp2
  go_loop [3] (fun v => ∃ n : Nat, n ≤ len ∧ v = .int .i64 n ∧ ∀ i, n ≤ i → i < len → xs.getD i 0 = 0) (fun v => (intOf v).toNat)
  case atStart => exact ⟨len, by omega, rfl, fun i h1 h2 => by omega⟩
  case round =>
    obtain ⟨n, hn, rfl, hz⟩ := hrel
    have HZ : Hid (∀ i, n ≤ i → i < len → xs.getD i 0 = 0) := hz
    clear hz
    cases n with
    | zero =>
      have hs : Hid (0 = sizeL xs) := size_spec xs 0 (Nat.zero_le _) (fun i h1 h2 => HZ.out i h1 (by rw [HL.out]; exact h2)) (Or.inl rfl)
      have hW : Hid (wordsOf (val xs) = []) := by rw [Hid, ← HN.out, ← hs.out]; rfl
      cases a with
      | none =>
        obtain rfl := hnil rfl
        obtain rfl : len = 0 := by omega
        go_wp2
        go_ret
        rw [hW.out]
        exact ⟨none, 0, rfl, World.ownsRow_nil _ _ _ _, by first | exact Below.refl _ _ | exact (Below.refl _ _).drew⟩
      | some ad =>
        clear hnil
        go_wp2_with (at_builtin; refine wpList_append_own _ rfl _ _ 23 rfl w.heap.size 39 i0 (.int .u64 0) 1 8 Tryd.underlying23 hi hz0 hz1 hz2 rfl (by decide) _ _ _ rfl (World.ownsRow_nil _ _ _ _) ad 0 cap [] rfl rfl (fun j u hj => by simp at hj) (fun u hu => by simp at hu) (by unfold maxLen; omega) (by omega) (by omega) ?_; intro v' w3 hown' hgrow3 hnil3)
        go_ret
        have hv : v' = .slice none 0 0 := hnil3.2 ⟨rfl, trivial⟩
        rw [hW.out]
        exact ⟨none, 0, by rw [hv]; rfl, World.ownsRow_nil _ _ _ _, (Below.refl _ _).grown hgrow3 (Nat.le_refl _) (fun q hq => by cases hq)⟩
    | succ m =>
      obtain ⟨b, off, ha, _, hc⟩ := h.2.2.2 m (by omega)
      subst ha
      obtain ⟨x, hx⟩ : ∃ x, x = xs.getD m 0 := ⟨_, rfl⟩
      rw [← hx] at hc
      by_cases h0 : x = 0
      · have d0 : (x == 0) = true := by simp [h0]
        have HZ' : Hid (∀ i, m ≤ i → i < len → xs.getD i 0 = 0) := fun i h1 h2 => by
          by_cases e : i = m
          · rw [e, ← hx, h0]
          · exact HZ.out i (by omega) h2
        clear hx h0
        go_wp2
        go_round
        case rel => exact ⟨m, by omega, by go_num, HZ'.out⟩
        case measure => simp [intOf]
      · have d0 : (x == 0) = false := by simp [h0]
        have hs : Hid (m + 1 = sizeL xs) := size_spec xs (m + 1) (by rw [← HL.out]; omega) (fun i h1 h2 => HZ.out i h1 (by rw [HL.out]; exact h2)) (Or.inr (by show xs.getD m 0 ≠ 0; rw [← hx]; exact h0))
        clear hx h0
        have hW : Hid ((xs.take (m + 1)) = wordsOf (val xs)) := by rw [Hid, ← HN.out, ← hs.out]
        have hlen : Hid ((wordsOf (val xs)).length = m + 1) := by rw [Hid, ← hW.out, List.length_take]; have := HL.out; omega
        have hnews : ∀ j u, ((wordsOf (val xs)).map (Value.int .u64))[j]? = some u → w.cell? ((⟨b, off, none⟩ : Addr).add j) = some u := by
          intro j u hj
          have hjl : j < m + 1 := by
            have := (List.getElem?_eq_some_iff.1 hj).1
            simp at this; have := hlen.out; omega
          obtain ⟨b2, off2, e2, _, q2⟩ := h.2.2.2 j (by omega)
          simp only [Option.some.injEq, Addr.mk.injEq, and_true] at e2
          obtain ⟨rfl, rfl⟩ := e2
          have hu : u = .int .u64 (xs.getD j 0) := by
            rw [← hW.out] at hj
            simp only [List.getElem?_map, List.getElem?_take, hjl, if_true] at hj
            have hj2 : xs[j]? = some (xs.getD j 0) := by
              rw [List.getElem?_eq_getElem (by have := HL.out; omega)]; simp [List.getD, show j < xs.length by have := HL.out; omega]
            rw [hj2] at hj
            simpa using hj.symm
          rw [hu]
          by_cases h00 : j = 0
          · subst h00; simpa [Addr.add] using q2
          · simpa [Addr.add, h00] using q2
        have HNEW : Hid _ := hnews
        clear hnews
        go_wp2_with (at_builtin; refine wpList_append_own _ rfl _ _ 23 rfl w.heap.size 39 i0 (.int .u64 0) 1 8 Tryd.underlying23 hi hz0 hz1 hz2 rfl (by decide) _ _ _ rfl (World.ownsRow_nil _ _ _ _) ⟨b, off, none⟩ (m + 1) cap ((wordsOf (val xs)).map (Value.int .u64)) rfl (by rw [List.length_map, hlen.out]; omega) HNEW.out (fun u hu => by simp only [List.mem_map] at hu; obtain ⟨y, _, rfl⟩ := hu; rfl) (by unfold maxLen; omega) (by omega) (by omega) ?_; intro v' w3 hown' hgrow3 hnil3)
        go_ret
        obtain ⟨g3, cap3, hv3⟩ : ∃ g3 cap3, v' = .slice (some ⟨g3, 0, none⟩) (m + 1) cap3 := by
          rcases hown'.2 with ⟨_, h⟩ | ⟨g3, cap3, _, h, _⟩
          · omega
          · exact ⟨g3, cap3, by simpa using h⟩
        refine ⟨some ⟨g3, 0, none⟩, cap3, ?_, ?_, (Below.refl _ _).grown hgrow3 (Nat.le_refl _) (fun q hq => by cases hq)⟩
        · rw [hlen.out, ← hv3]; rfl
        · unfold Own; rw [hlen.out, ← hv3]; simpa using hown'

set_option maxHeartbeats 1000000 in
theorem nOf_calls (x : Int) (w : World) (h0 : 0 ≤ x) (h1 : x ≤ 18446744073709551615) :
    Calls Tryd.prog 33 #[.int .u64 x] w fun e w' => ∃ (ao : Option Addr) (cv : Nat), e = .returned (.slice ao (wordsOf x.toNat).length cv) ∧ Own w.heap.size w' ao cv (wordsOf x.toNat) ∧ Below w.heap.size w w' := by
  have hv : val [x] = x.toNat := by simp [val]
  have hW : ∀ t, IsW (w.alloc (.cells #[.int .u64 x] t)) (some ⟨w.heap.size, 0, none⟩) 1 1 [x] := fun t => by
    refine ⟨rfl, fun y hy => ?_, ⟨Nat.le_refl _, fun e => by cases e⟩, fun i hi => ?_⟩
    · simp at hy; subst hy; exact ⟨h0, h1⟩
    · obtain rfl : i = 0 := by omega
      exact ⟨w.heap.size, 0, rfl, by simp, by go_simp⟩
  go_enter Tryd.func33, Tryd.ntmps33
  go_wp2_with fail
  refine (nNorm_calls _ _ _ [x] _ (hW _) (by omega)).mono ?_
  rintro e w1 ⟨ao, cv, rfl, hO, hb⟩
  go_wp2_with fail
  go_ret
  rw [← hv]
  exact ⟨ao, cv, rfl, hO.low (by simp), nbelow_trans ((Below.refl _ _).alloc (Nat.le_refl _) _) hb⟩

set_option maxRecDepth 100000 in
set_option maxHeartbeats 1000000 in
theorem nCmp_ge (a a' : Option Addr) (len cap len' cap' : Nat) (xs ys : List Int) (w : World) (h : IsW w a len cap xs) (h' : IsW w a' len' cap' ys) (hm : len ≤ 17592186044416) (_hm' : len' ≤ 17592186044416) (hc : len' ≤ len) :
    Calls Tryd.prog 17 #[.slice a len cap, .slice a' len' cap'] w fun e w' => e = .returned (.int .i64 (cmpN (val xs) (val ys))) ∧ w' = w := by
  have hx1 : xs.length ≤ len := by have := h.1; omega
  have hy1 : ys.length ≤ len := by have := h'.1; omega
  have C : Hid _ := cmp_top xs ys h.2.1 h'.2.1
  have E : Hid _ := fun hs => cmp_same xs ys hs len hx1 hy1
  have X1 : Hid (xs.length ≤ len) := hx1
  have Y1 : Hid (ys.length ≤ len) := hy1
  have S : Hid (SameFrom xs ys len) := fun i hi => by
    rw [show xs.getD i 0 = 0 by simp [List.getD, show ¬ i < xs.length by omega], show ys.getD i 0 = 0 by simp [List.getD, show ¬ i < ys.length by omega]]
  have gx := fun i => h.2.1.get i
  have gy := fun i => h'.2.1.get i
  clear hx1 hy1
  go_enter Tryd.func17, Tryd.ntmps17
  go_wp2_with fail
  go_loop [5] (fun v => ∃ k : Nat, k ≤ len ∧ v = .int .i64 ((k : Int) - 1) ∧ SameFrom xs ys k) (fun v => (intOf v + 1).toNat)
  case atStart => exact ⟨len, by omega, rfl, S.out⟩
  case round =>
    obtain ⟨k, hk, rfl, hs⟩ := hrel
    have HS : Hid (SameFrom xs ys k) := hs
    clear hs
    cases k with
    | zero =>
      have HV : Hid (cmpN (val xs) (val ys) = 0) := E.out HS.out
      clear gx gy
      go_wp2
      go_ret
      exact ⟨nret_int HV.out.symm, rfl⟩
    | succ k =>
      have D : Hid _ := C.out k len (by omega) X1.out Y1.out HS.out
      obtain ⟨x, hx⟩ : ∃ x, x = xs.getD k 0 := ⟨_, rfl⟩
      obtain ⟨y, hy⟩ : ∃ y, y = ys.getD k 0 := ⟨_, rfl⟩
      have ek : (((k + 1 : Nat) : Int) - 1) = (k : Int) := by omega
      have W1 := nWord_calls a len cap xs k w h
      have W2 := nWord_calls a' len' cap' ys k w h'
      rw [← hx] at W1
      rw [← hy] at W2
      have D' : Hid ((x < y → cmpN (val xs) (val ys) = -1) ∧ (y < x → cmpN (val xs) (val ys) = 1)) := by rw [Hid, hx, hy]; exact D.out
      have bx := gx k
      have by' := gy k
      rw [← hx] at bx
      rw [← hy] at by'
      have HX : Hid (x = xs.getD k 0) := hx
      have HY : Hid (y = ys.getD k 0) := hy
      have HW1 : Hid (Calls Tryd.prog 43 #[.slice a len cap, .int .i64 k] w fun e w' => e = .returned (.int .u64 x) ∧ w' = w) := W1
      have HW2 : Hid (Calls Tryd.prog 43 #[.slice a' len' cap', .int .i64 k] w fun e w' => e = .returned (.int .u64 y) ∧ w' = w) := W2
      clear hx hy gx gy W1 W2
      rw [ek]
      by_cases c1 : x < y
      · have HV : Hid (cmpN (val xs) (val ys) = -1) := D'.out.1 c1
        go_wp2_with fail
        refine Calls.mono HW1.out ?_
        rintro e w ⟨rfl, rfl⟩
        go_wp2_with fail
        refine Calls.mono HW2.out ?_
        rintro e w ⟨rfl, rfl⟩
        go_wp2_with fail
        go_ret
        exact ⟨nret_int HV.out.symm, rfl⟩
      · by_cases c2 : y < x
        · have HV : Hid (cmpN (val xs) (val ys) = 1) := D'.out.2 c2
          go_wp2_with fail
          refine Calls.mono HW1.out ?_
          rintro e w ⟨rfl, rfl⟩
          go_wp2_with fail
          refine Calls.mono HW2.out ?_
          rintro e w ⟨rfl, rfl⟩
          go_wp2_with fail
          go_ret
          exact ⟨nret_int HV.out.symm, rfl⟩
        · have HS' : Hid (SameFrom xs ys k) := fun i hi => by
            by_cases e : i = k
            · rw [e, ← HX.out, ← HY.out]; omega
            · exact HS.out i (by omega)
          go_wp2_with fail
          refine Calls.mono HW1.out ?_
          rintro e w ⟨rfl, rfl⟩
          go_wp2_with fail
          refine Calls.mono HW2.out ?_
          rintro e w ⟨rfl, rfl⟩
          go_wp2_with fail
          go_round
          case rel => exact ⟨k, by omega, by first | rfl | go_num, HS'.out⟩
          case measure => simp [intOf]

set_option maxRecDepth 100000 in
set_option maxHeartbeats 1000000 in
theorem nCmp_lt (a a' : Option Addr) (len cap len' cap' : Nat) (xs ys : List Int) (w : World) (h : IsW w a len cap xs) (h' : IsW w a' len' cap' ys) (_hm : len ≤ 17592186044416) (hm' : len' ≤ 17592186044416) (hc : len < len') :
    Calls Tryd.prog 17 #[.slice a len cap, .slice a' len' cap'] w fun e w' => e = .returned (.int .i64 (cmpN (val xs) (val ys))) ∧ w' = w := by
  have hx1 : xs.length ≤ len' := by have := h.1; omega
  have hy1 : ys.length ≤ len' := by have := h'.1; omega
  have C : Hid _ := cmp_top xs ys h.2.1 h'.2.1
  have E : Hid _ := fun hs => cmp_same xs ys hs len' hx1 hy1
  have X1 : Hid (xs.length ≤ len') := hx1
  have Y1 : Hid (ys.length ≤ len') := hy1
  have S : Hid (SameFrom xs ys len') := fun i hi => by
    rw [show xs.getD i 0 = 0 by simp [List.getD, show ¬ i < xs.length by omega], show ys.getD i 0 = 0 by simp [List.getD, show ¬ i < ys.length by omega]]
  have gx := fun i => h.2.1.get i
  have gy := fun i => h'.2.1.get i
  clear hx1 hy1
  go_enter Tryd.func17, Tryd.ntmps17
  go_wp2_with fail
  go_loop [5] (fun v => ∃ k : Nat, k ≤ len' ∧ v = .int .i64 ((k : Int) - 1) ∧ SameFrom xs ys k) (fun v => (intOf v + 1).toNat)
  case atStart => exact ⟨len', by omega, rfl, S.out⟩
  case round =>
    obtain ⟨k, hk, rfl, hs⟩ := hrel
    have HS : Hid (SameFrom xs ys k) := hs
    clear hs
    cases k with
    | zero =>
      have HV : Hid (cmpN (val xs) (val ys) = 0) := E.out HS.out
      clear gx gy
      go_wp2
      go_ret
      exact ⟨nret_int HV.out.symm, rfl⟩
    | succ k =>
      have D : Hid _ := C.out k len' (by omega) X1.out Y1.out HS.out
      obtain ⟨x, hx⟩ : ∃ x, x = xs.getD k 0 := ⟨_, rfl⟩
      obtain ⟨y, hy⟩ : ∃ y, y = ys.getD k 0 := ⟨_, rfl⟩
      have ek : (((k + 1 : Nat) : Int) - 1) = (k : Int) := by omega
      have W1 := nWord_calls a len cap xs k w h
      have W2 := nWord_calls a' len' cap' ys k w h'
      rw [← hx] at W1
      rw [← hy] at W2
      have D' : Hid ((x < y → cmpN (val xs) (val ys) = -1) ∧ (y < x → cmpN (val xs) (val ys) = 1)) := by rw [Hid, hx, hy]; exact D.out
      have bx := gx k
      have by' := gy k
      rw [← hx] at bx
      rw [← hy] at by'
      have HX : Hid (x = xs.getD k 0) := hx
      have HY : Hid (y = ys.getD k 0) := hy
      have HW1 : Hid (Calls Tryd.prog 43 #[.slice a len cap, .int .i64 k] w fun e w' => e = .returned (.int .u64 x) ∧ w' = w) := W1
      have HW2 : Hid (Calls Tryd.prog 43 #[.slice a' len' cap', .int .i64 k] w fun e w' => e = .returned (.int .u64 y) ∧ w' = w) := W2
      clear hx hy gx gy W1 W2
      rw [ek]
      by_cases c1 : x < y
      · have HV : Hid (cmpN (val xs) (val ys) = -1) := D'.out.1 c1
        go_wp2_with fail
        refine Calls.mono HW1.out ?_
        rintro e w ⟨rfl, rfl⟩
        go_wp2_with fail
        refine Calls.mono HW2.out ?_
        rintro e w ⟨rfl, rfl⟩
        go_wp2_with fail
        go_ret
        exact ⟨nret_int HV.out.symm, rfl⟩
      · by_cases c2 : y < x
        · have HV : Hid (cmpN (val xs) (val ys) = 1) := D'.out.2 c2
          go_wp2_with fail
          refine Calls.mono HW1.out ?_
          rintro e w ⟨rfl, rfl⟩
          go_wp2_with fail
          refine Calls.mono HW2.out ?_
          rintro e w ⟨rfl, rfl⟩
          go_wp2_with fail
          go_ret
          exact ⟨nret_int HV.out.symm, rfl⟩
        · have HS' : Hid (SameFrom xs ys k) := fun i hi => by
            by_cases e : i = k
            · rw [e, ← HX.out, ← HY.out]; omega
            · exact HS.out i (by omega)
          go_wp2_with fail
          refine Calls.mono HW1.out ?_
          rintro e w ⟨rfl, rfl⟩
          go_wp2_with fail
          refine Calls.mono HW2.out ?_
          rintro e w ⟨rfl, rfl⟩
          go_wp2_with fail
          go_round
          case rel => exact ⟨k, by omega, by first | rfl | go_num, HS'.out⟩
          case measure => simp [intOf]

theorem nCmp_calls (a a' : Option Addr) (len cap len' cap' : Nat) (xs ys : List Int) (w : World) (h : IsW w a len cap xs) (h' : IsW w a' len' cap' ys) (hm : len ≤ 17592186044416) (hm' : len' ≤ 17592186044416) :
    Calls Tryd.prog 17 #[.slice a len cap, .slice a' len' cap'] w fun e w' => e = .returned (.int .i64 (cmpN (val xs) (val ys))) ∧ w' = w := by
  by_cases hc : len' ≤ len
  · exact nCmp_ge a a' len cap len' cap' xs ys w h h' hm hm' hc
  · exact nCmp_lt a a' len cap len' cap' xs ys w h h' hm hm' (by omega)
end Go.Proofs.YtfmjgagajlhfoaaDoor

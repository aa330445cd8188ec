/- The walks of package nat, first part: words at the end cut off, sizes, single words, copies. -/
import Derived.Test.YtfmjgagajlhfoaaDoorNRef
import Derived.Test.YtfmjgagajlhfoaaDoorNShift
import Derived.LoopN
namespace Go.Proofs.YtfmjgagajlhfoaaDoor
open Go.RowKit

/-- A slice of words in memory of the call's own, from block B on: it can be read and written. -/
def OwnW (B : Nat) (w : World) (a : Option Addr) (len cap : Nat) (xs : List Int) : Prop :=
  IsW w a len cap xs ∧ ∀ b off i, a = some ⟨b, off, none⟩ → i < len → B ≤ b ∧ w.frozen? ⟨b, off + i, none⟩ = false
theorem OwnW.keep {B : Nat} {w w' : World} {a : Option Addr} {len cap : Nat} {xs : List Int} (h : OwnW B w a len cap xs) (hb : Below w.heap.size w w') : OwnW B w' a len cap xs := by
  refine ⟨h.1.keep hb, fun b off i e hi => ?_⟩
  obtain ⟨h1, h2⟩ := h.2 b off i e hi
  obtain ⟨b2, off2, e2, hlt, _⟩ := h.1.2.2.2 i hi
  rw [e] at e2
  simp only [Option.some.injEq, Addr.mk.injEq, and_true] at e2
  obtain ⟨rfl, rfl⟩ := e2
  exact ⟨h1, (hb.frozen (p := ⟨b, off + i, none⟩) hlt).trans h2⟩
theorem OwnW.low {B B' : Nat} {w : World} {a : Option Addr} {len cap : Nat} {xs : List Int} (h : OwnW B w a len cap xs) (hB : B' ≤ B) : OwnW B' w a len cap xs :=
  ⟨h.1, fun b off i e hi => ⟨Nat.le_trans hB (h.2 b off i e hi).1, (h.2 b off i e hi).2⟩⟩
theorem isW_nil (w : World) : IsW w none 0 0 [] := ⟨rfl, (fun x hx => by cases hx), ⟨Nat.le_refl _, fun _ => rfl⟩, fun i hi => by omega⟩
theorem ownW_nil (B : Nat) (w : World) : OwnW B w none 0 0 [] := ⟨isW_nil w, (fun _ _ i _ hi => by omega)⟩
theorem Own.ownW {B cv n : Nat} {w : World} {a : Option Addr} {L : List Int} (h : Own B w a cv L) (hU : AllU L) (hn : L.length = n) : OwnW B w a n cv L := by
  subst hn
  refine ⟨h.isW hU, fun b off i e hi => ?_⟩
  rcases h.2 with ⟨_, h0⟩ | ⟨g, cap, cur, hv, hg, hh, _⟩
  · omega
  · simp only [Value.slice.injEq] at hv
    rw [e] at hv
    simp only [Option.some.injEq, Addr.mk.injEq, and_true] at hv
    obtain ⟨⟨rfl, rfl⟩, _⟩ := hv
    refine ⟨hg, ?_⟩
    simp [World.frozen?, hh]
/-- Where the words at the end are cut off, nothing is nil. -/
def trimA (a : Option Addr) (n : Nat) : Option Addr := if n = 0 then none else a
theorem isW_trim {w : World} {a : Option Addr} {len cap : Nat} {xs : List Int} (h : IsW w a len cap xs) : IsW w (trimA a (wordsOf (val xs)).length) (wordsOf (val xs)).length (wordsOf (val xs)).length (wordsOf (val xs)) := by
  have hN := norm_eq xs h.2.1
  have hs := size_words xs h.2.1
  have hl := size_le xs
  refine ⟨rfl, words_U _, ⟨Nat.le_refl _, fun e => ?_⟩, fun i hi => ?_⟩
  · by_cases h0 : (wordsOf (val xs)).length = 0
    · exact h0
    · rw [trimA, if_neg h0] at e
      obtain ⟨b, off, e1, _⟩ := h.2.2.2 0 (by have := h.1; omega)
      rw [e] at e1; cases e1
  · obtain ⟨b, off, e1, e2, e3⟩ := h.2.2.2 i (by have := h.1; omega)
    refine ⟨b, off, ?_, e2, ?_⟩
    · rw [trimA, if_neg (by omega)]; exact e1
    · rw [e3, ← hN]
      simp only [List.getD, List.getElem?_take]
      rw [if_pos (by omega)]
theorem ownW_trim {B : Nat} {w : World} {a : Option Addr} {len cap : Nat} {xs : List Int} (h : OwnW B w a len cap xs) : OwnW B w (trimA a (wordsOf (val xs)).length) (wordsOf (val xs)).length (wordsOf (val xs)).length (wordsOf (val xs)) := by
  refine ⟨isW_trim h.1, fun b off i e hi => ?_⟩
  rw [trimA, if_neg (by omega)] at e
  exact h.2 b off i e (by have := size_words xs h.1.2.1; have := size_le xs; have := h.1.1; omega)
theorem nret_slice {a a' : Option Addr} {n n' c c' : Nat} (h1 : a = a') (h2 : n = n') (h3 : c = c') : Ending.returned (.slice a n c) = .returned (.slice a' n' c') := by rw [h1, h2, h3]

set_option maxRecDepth 100000 in
set_option maxHeartbeats 1000000 in
theorem trimN_calls (a : Option Addr) (len cap : Nat) (xs : List Int) (w : World) (h : IsW w a len cap xs) (hm : len ≤ 17592186044416) :
    Calls Tryd.prog 21 #[.slice a len cap] w fun e w' => e = .returned (.slice (trimA a (wordsOf (val xs)).length) (wordsOf (val xs)).length (wordsOf (val xs)).length) ∧ w' = w := by
  have HL : Hid (len = xs.length) := h.1
  have HS : Hid ((wordsOf (val xs)).length = sizeL xs) := size_words xs h.2.1
  obtain ⟨hcap, hnil⟩ := h.2.2.1
  go_enter Tryd.func21, Tryd.ntmps21
  go_wp2
  go_loop [3] (fun v => ∃ n : Nat, n ≤ len ∧ v = .int .i64 n ∧ ∀ i, n ≤ i → i < len → xs.getD i 0 = 0) (fun v => (intOf v).toNat)
  case atStart => exact ⟨len, by omega, rfl, fun i h1 h2 => by omega⟩
  case round =>
    obtain ⟨n, hn, rfl, hz⟩ := hrel
    have HZ : Hid (∀ i, n ≤ i → i < len → xs.getD i 0 = 0) := hz
    clear hz
    cases n with
    | zero =>
      have hs : Hid (0 = sizeL xs) := size_spec xs 0 (Nat.zero_le _) (fun i h1 h2 => HZ.out i h1 (by rw [HL.out]; exact h2)) (Or.inl rfl)
      have e0 : Hid ((wordsOf (val xs)).length = 0) := by rw [Hid, HS.out]; exact hs.out.symm
      clear hnil
      go_wp2
      go_ret
      rw [e0.out]
      exact ⟨rfl, rfl⟩
    | succ m =>
      obtain ⟨b, off, ha, _, hc⟩ := h.2.2.2 m (by omega)
      subst ha
      clear hnil
      obtain ⟨x, hx⟩ : ∃ x, x = xs.getD m 0 := ⟨_, rfl⟩
      rw [← hx] at hc
      by_cases h0 : x = 0
      · have d0 : (x == 0) = true := by simp [h0]
        have HZ' : Hid (∀ i, m ≤ i → i < len → xs.getD i 0 = 0) := fun i h1 h2 => by
          by_cases e : i = m
          · rw [e, ← hx, h0]
          · exact HZ.out i (by omega) h2
        clear hx h0
        go_wp2
        go_round
        case rel => exact ⟨m, by omega, by go_num, HZ'.out⟩
        case measure => simp [intOf]
      · have d0 : (x == 0) = false := by simp [h0]
        have hs : Hid (m + 1 = sizeL xs) := size_spec xs (m + 1) (by rw [← HL.out]; omega) (fun i h1 h2 => HZ.out i h1 (by rw [HL.out]; exact h2)) (Or.inr (by show xs.getD m 0 ≠ 0; rw [← hx]; exact h0))
        have e0 : Hid ((wordsOf (val xs)).length = m + 1) := by rw [Hid, HS.out]; exact hs.out.symm
        clear hx h0
        go_wp2
        go_ret
        rw [e0.out]
        exact ⟨rfl, rfl⟩

set_option maxRecDepth 100000 in
set_option maxHeartbeats 1000000 in
theorem trimW_calls (a : Option Addr) (len cap : Nat) (xs : List Int) (w : World) (h : IsW w a len cap xs) (hm : len ≤ 17592186044416) :
    Calls Tryd.prog 47 #[.slice a len cap] w fun e w' => e = .returned (.slice (trimA a (wordsOf (val xs)).length) (wordsOf (val xs)).length (wordsOf (val xs)).length) ∧ w' = w := by
  have HL : Hid (len = xs.length) := h.1
  have HS : Hid ((wordsOf (val xs)).length = sizeL xs) := size_words xs h.2.1
  obtain ⟨hcap, hnil⟩ := h.2.2.1
  go_enter Tryd.func47, Tryd.ntmps47
  go_wp2
  go_loop [3] (fun v => ∃ n : Nat, n ≤ len ∧ v = .int .i64 n ∧ ∀ i, n ≤ i → i < len → xs.getD i 0 = 0) (fun v => (intOf v).toNat)
  case atStart => exact ⟨len, by omega, rfl, fun i h1 h2 => by omega⟩
  case round =>
    obtain ⟨n, hn, rfl, hz⟩ := hrel
    have HZ : Hid (∀ i, n ≤ i → i < len → xs.getD i 0 = 0) := hz
    clear hz
    cases n with
    | zero =>
      have hs : Hid (0 = sizeL xs) := size_spec xs 0 (Nat.zero_le _) (fun i h1 h2 => HZ.out i h1 (by rw [HL.out]; exact h2)) (Or.inl rfl)
      have e0 : Hid ((wordsOf (val xs)).length = 0) := by rw [Hid, HS.out]; exact hs.out.symm
      clear hnil
      go_wp2
      go_ret
      rw [e0.out]
      exact ⟨rfl, rfl⟩
    | succ m =>
      obtain ⟨b, off, ha, _, hc⟩ := h.2.2.2 m (by omega)
      subst ha
      clear hnil
      obtain ⟨x, hx⟩ : ∃ x, x = xs.getD m 0 := ⟨_, rfl⟩
      rw [← hx] at hc
      by_cases h0 : x = 0
      · have d0 : (x == 0) = true := by simp [h0]
        have HZ' : Hid (∀ i, m ≤ i → i < len → xs.getD i 0 = 0) := fun i h1 h2 => by
          by_cases e : i = m
          · rw [e, ← hx, h0]
          · exact HZ.out i (by omega) h2
        clear hx h0
        go_wp2
        go_round
        case rel => exact ⟨m, by omega, by go_num, HZ'.out⟩
        case measure => simp [intOf]
      · have d0 : (x == 0) = false := by simp [h0]
        have hs : Hid (m + 1 = sizeL xs) := size_spec xs (m + 1) (by rw [← HL.out]; omega) (fun i h1 h2 => HZ.out i h1 (by rw [HL.out]; exact h2)) (Or.inr (by show xs.getD m 0 ≠ 0; rw [← hx]; exact h0))
        have e0 : Hid ((wordsOf (val xs)).length = m + 1) := by rw [Hid, HS.out]; exact hs.out.symm
        clear hx h0
        go_wp2
        go_ret
        rw [e0.out]
        exact ⟨rfl, rfl⟩

set_option maxRecDepth 100000 in
set_option maxHeartbeats 1000000 in
theorem trimL_calls (a : Option Addr) (len cap : Nat) (xs : List Int) (w : World) (h : IsW w a len cap xs) (hm : len ≤ 17592186044416) :
    Calls Tryd.prog 76 #[.slice a len cap] w fun e w' => e = .returned (.slice (trimA a (wordsOf (val xs)).length) (wordsOf (val xs)).length (wordsOf (val xs)).length) ∧ w' = w := by
  have HL : Hid (len = xs.length) := h.1
  have HS : Hid ((wordsOf (val xs)).length = sizeL xs) := size_words xs h.2.1
  obtain ⟨hcap, hnil⟩ := h.2.2.1
  go_enter Tryd.func76, Tryd.ntmps76
  go_wp2
  go_loop [3] (fun v => ∃ n : Nat, n ≤ len ∧ v = .int .i64 n ∧ ∀ i, n ≤ i → i < len → xs.getD i 0 = 0) (fun v => (intOf v).toNat)
  case atStart => exact ⟨len, by omega, rfl, fun i h1 h2 => by omega⟩
  case round =>
    obtain ⟨n, hn, rfl, hz⟩ := hrel
    have HZ : Hid (∀ i, n ≤ i → i < len → xs.getD i 0 = 0) := hz
    clear hz
    cases n with
    | zero =>
      have hs : Hid (0 = sizeL xs) := size_spec xs 0 (Nat.zero_le _) (fun i h1 h2 => HZ.out i h1 (by rw [HL.out]; exact h2)) (Or.inl rfl)
      have e0 : Hid ((wordsOf (val xs)).length = 0) := by rw [Hid, HS.out]; exact hs.out.symm
      clear hnil
      go_wp2
      go_ret
      rw [e0.out]
      exact ⟨rfl, rfl⟩
    | succ m =>
      obtain ⟨b, off, ha, _, hc⟩ := h.2.2.2 m (by omega)
      subst ha
      clear hnil
      obtain ⟨x, hx⟩ : ∃ x, x = xs.getD m 0 := ⟨_, rfl⟩
      rw [← hx] at hc
      by_cases h0 : x = 0
      · have d0 : (x == 0) = true := by simp [h0]
        have HZ' : Hid (∀ i, m ≤ i → i < len → xs.getD i 0 = 0) := fun i h1 h2 => by
          by_cases e : i = m
          · rw [e, ← hx, h0]
          · exact HZ.out i (by omega) h2
        clear hx h0
        go_wp2
        go_round
        case rel => exact ⟨m, by omega, by go_num, HZ'.out⟩
        case measure => simp [intOf]
      · have d0 : (x == 0) = false := by simp [h0]
        have hs : Hid (m + 1 = sizeL xs) := size_spec xs (m + 1) (by rw [← HL.out]; omega) (fun i h1 h2 => HZ.out i h1 (by rw [HL.out]; exact h2)) (Or.inr (by show xs.getD m 0 ≠ 0; rw [← hx]; exact h0))
        have e0 : Hid ((wordsOf (val xs)).length = m + 1) := by rw [Hid, HS.out]; exact hs.out.symm
        clear hx h0
        go_wp2
        go_ret
        rw [e0.out]
        exact ⟨rfl, rfl⟩

set_option maxHeartbeats 400000 in
theorem at_calls (a : Option Addr) (len cap : Nat) (xs : List Int) (i : Nat) (w : World) (h : IsW w a len cap xs) :
    Calls Tryd.prog 45 #[.slice a len cap, .int .i64 i] w fun e w' => e = .returned (.int .u64 (xs.getD i 0)) ∧ w' = w := by
  by_cases hi : i < len
  · obtain ⟨b, off, rfl, _, hc⟩ := h.2.2.2 i hi
    generalize xs.getD i 0 = x at *
    go_enter Tryd.func45, Tryd.ntmps45
    go_wp2
    go_ret
    exact ⟨rfl, rfl⟩
  · have hV : Hid (xs.getD i 0 = 0) := by rw [Hid]; have := h.1; simp [List.getD]; rw [List.getElem?_eq_none (by omega)]; rfl
    go_enter Tryd.func45, Tryd.ntmps45
    go_wp2
    go_ret
    exact ⟨nret_int hV.out.symm, rfl⟩

set_option maxHeartbeats 1000000 in
theorem great1_calls (g : Nat) (a : Option Addr) (n c : Nat) (w : World) (hc : w.cell? ⟨g, 0, none⟩ = some (.slice a n c)) :
    Calls Tryd.prog 22 #[.slice (some ⟨g, 0, none⟩) 1 1] w fun e w' => e = .returned (.bool (decide (1024 < n))) ∧ w' = w := by
  by_cases hn : 1024 < n
  · have HV : Hid (decide (1024 < n) = true) := by simpa [Hid] using hn
    go_enter Tryd.func22, Tryd.ntmps22
    go_wp2
    refine wp_loop_rounds 1 ?_
    rw [rounds_succ]
    go_wp2
    go_ret
    exact ⟨nret_bool HV.out.symm, rfl⟩
  · have HV : Hid (decide (1024 < n) = false) := by simpa [Hid] using hn
    go_enter Tryd.func22, Tryd.ntmps22
    go_wp2
    refine wp_loop_rounds 2 ?_
    rw [rounds_succ]
    go_wp2
    rw [rounds_succ]
    go_wp2
    go_ret
    exact ⟨nret_bool HV.out.symm, rfl⟩

set_option maxHeartbeats 1000000 in
theorem great2_calls (g : Nat) (a a' : Option Addr) (n c n' c' : Nat) (w : World) (hc : w.cell? ⟨g, 0, none⟩ = some (.slice a n c)) (hc' : w.cell? ⟨g, 1, none⟩ = some (.slice a' n' c')) :
    Calls Tryd.prog 22 #[.slice (some ⟨g, 0, none⟩) 2 2] w fun e w' => e = .returned (.bool (decide (1024 < n) || decide (1024 < n'))) ∧ w' = w := by
  by_cases hn : 1024 < n
  · have HV : Hid ((decide (1024 < n) || decide (1024 < n')) = true) := by simp [Hid, hn]
    go_enter Tryd.func22, Tryd.ntmps22
    go_wp2
    refine wp_loop_rounds 1 ?_
    rw [rounds_succ]
    go_wp2
    go_ret
    exact ⟨nret_bool HV.out.symm, rfl⟩
  · by_cases hn' : 1024 < n'
    · have HV : Hid ((decide (1024 < n) || decide (1024 < n')) = true) := by simp [Hid, hn']
      go_enter Tryd.func22, Tryd.ntmps22
      go_wp2
      refine wp_loop_rounds 2 ?_
      rw [rounds_succ]
      go_wp2
      rw [rounds_succ]
      go_wp2
      go_ret
      exact ⟨nret_bool HV.out.symm, rfl⟩
    · have HV : Hid ((decide (1024 < n) || decide (1024 < n')) = false) := by simp [Hid, hn, hn']
      go_enter Tryd.func22, Tryd.ntmps22
      go_wp2
      refine wp_loop_rounds 3 ?_
      rw [rounds_succ]
      go_wp2
      rw [rounds_succ]
      go_wp2
      rw [rounds_succ]
      go_wp2
      go_ret
      exact ⟨nret_bool HV.out.symm, rfl⟩
end Go.Proofs.YtfmjgagajlhfoaaDoor

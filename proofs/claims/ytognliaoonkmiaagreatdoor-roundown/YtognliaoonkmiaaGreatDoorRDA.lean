/- The document's dyadic numbers (ulpref04), first part: Form, One, Right, Zero, room, Canon. The document's dyadic numbers, second part: Canon, Same, Copy; the program's Canon in the same words. The document's dyadic numbers, third part: Same, Copy. -/
import Derived.Test.YtognliaoonkmiaaGreatDoorTMB
import Derived.Test.YtognliaoonkmiaaGreatDoorNAR
import Derived.Test.YtognliaoonkmiaaGreatDoorDCan2
import Derived.Laws.AppendOwnNone

namespace Go.Proofs.YtognliaoonkmiaaGreatDoor
open Go.RowKit

/-- A number that the document's functions hand out, of whatever size. -/
def DyQ (B : Nat) (w : World) (v : Value) (p : Bool × Nat × Int) : Prop := ∃ (ao : Option Addr) (n c : Nat), v = dyV p.1 ao n c p.2.2 ∧ Hid (n = (wordsOf p.2.1).length) ∧ OwnW B w ao n c (wordsOf p.2.1)
theorem DyAt.q {B : Nat} {w : World} {v : Value} {p : Bool × Nat × Int} (h : DyAt B w v p) : DyQ B w v p := by
  obtain ⟨ao, n, c, h1, h2, -, h4⟩ := h
  exact ⟨ao, n, c, h1, h2, h4⟩
theorem DyQ.keep {B : Nat} {w w' : World} {v : Value} {p : Bool × Nat × Int} (h : DyQ B w v p) (hb : Below w.heap.size w w') : DyQ B w' v p := by
  obtain ⟨ao, n, c, h1, h2, h3⟩ := h
  exact ⟨ao, n, c, h1, h2, h3.keep hb⟩
theorem DyQ.low {B B' : Nat} {w : World} {v : Value} {p : Bool × Nat × Int} (h : DyQ B w v p) (hB : B' ≤ B) : DyQ B' w v p := by
  obtain ⟨ao, n, c, h1, h2, h3⟩ := h
  exact ⟨ao, n, c, h1, h2, h3.low hB⟩
theorem dyQ_zero (B : Nat) (w : World) : DyQ B w (dyV false none 0 0 0) (false, 0, 0) := (dyAt_zero B w).q

set_option maxRecDepth 100000 in
set_option maxHeartbeats 2000000 in
theorem qForm_calls (s : Bool) (a : Option Addr) (len cap : Nat) (xs : List Int) (e : Int) (w : World) (h : IsW w a len cap xs) (hm : len ≤ 17592186044000) (he : -4611686018427387904 ≤ e ∧ e ≤ 4611686018427387904) :
    Calls Tryz.prog 68 #[.bool s, .slice a len cap, .int .i64 e] w fun r w' => ∃ v, r = .returned v ∧ DyQ w.heap.size w' v (formD s (val xs) e) ∧ Below w.heap.size w w' := by
  have hb0 := below_one w (.cells #[.bool false, .slice none 0 0, .int .i64 0] 25)
  have HN : Hid _ := nNorm_calls a len cap xs _ (h.keep hb0) (by omega)
  obtain ⟨he1, he2⟩ := he
  have hwl : (wordsOf (val xs)).length ≤ 17592186044000 := by have := size_words xs h.2.1; have := size_le xs; have := h.1; omega
  by_cases h0 : val xs = 0
  · rw [h0, form_zero]
    rw [h0, words_zero] at HN
    clear h0
    go_enter Tryz.func68, Tryz.ntmps68
    go_wp2_with fail
    refine Calls.mono HN.out ?_
    rintro r w1 ⟨ao, cv, rfl, hO, hb1⟩
    obtain ⟨m0, m1, m2, f0, f1, f2⟩ := zero_dy (r := w.heap.size) hb1 rfl
    have hb01 := nT hb0 hb1
    clear hb1
    go_wp2_with fail
    refine bodyPost_ret (v := dyV false none 0 0 0) (by simp [results, Tryz.results68, go_sem, m0, m1, m2]) rfl ⟨_, rfl, dyQ_zero _ _, ?_⟩
    exact ((hb01.setCell (Nat.le_refl _) _).setCell (Nat.le_refl _) _).setCell (Nat.le_refl _) _
  · have HF : Hid _ := form_pos s h0 e
    have HO : Hid _ := odd_part h0
    have HW : Hid (wordsOf (val xs) ≠ []) := fun q => h0 ((words_nil _).1 q)
    have hz := tz_le_blen (val xs)
    have hbl := blen_words_le xs h.2.1
    have hlx := h.1
    have hzb : tz (val xs) ≤ 1125899906840000 := by omega
    clear hz hbl hlx h0
    obtain ⟨n0, hn0⟩ : ∃ n0, n0 = (wordsOf (val xs)).length := ⟨_, rfl⟩
    have HN0 : Hid (n0 = (wordsOf (val xs)).length) := hn0
    have hne : ((n0 : Int) == 0) = false := by
      have : n0 ≠ 0 := fun q => HW.out (List.length_eq_zero_iff.1 (by rw [← hn0]; exact q))
      simp; omega
    rw [← hn0] at HN hwl
    clear hn0
    obtain ⟨t, ht⟩ : ∃ t, t = tz (val xs) := ⟨_, rfl⟩
    have HT : Hid (t = tz (val xs)) := ht
    rw [← ht] at hzb
    clear ht
    go_enter Tryz.func68, Tryz.ntmps68
    go_wp2_with fail
    refine Calls.mono HN.out ?_
    rintro r w1 ⟨ao, cv, rfl, hO, hb1⟩
    have hI : IsW w1 ao n0 cv (wordsOf (val xs)) := by
      have := hO.isW (words_U _)
      rw [← HN0.out] at this; exact this
    have hb01 := nT hb0 hb1
    go_wp2_with fail
    refine Calls.mono (nLow_calls ao n0 cv _ w1 hI (by omega)) ?_
    rw [val_words, ← HT.out]
    rintro r w2 ⟨rfl, hb2⟩
    have hI2 := hI.keep hb2
    go_wp2_with fail
    refine Calls.mono (nShr_calls ao n0 cv t _ w2 hI2 (by omega) (by omega)) ?_
    rw [val_words, HT.out]
    rintro r w3 ⟨_, rfl, ⟨a3, n3, c3, rfl, hn3, hO3⟩, hb3⟩
    have HN3 : Hid (n3 = (wordsOf (val xs / 2 ^ tz (val xs))).length) := hn3
    rw [← HT.out]
    have hb13 := nT hb1 (nT hb2 hb3)
    obtain ⟨m0, m1, m2, f0, f1, f2⟩ := zero_dy (r := w.heap.size) hb13 rfl
    have hb03 := nT hb0 hb13
    have hws : w.heap.size + 1 ≤ w2.heap.size := by have := (nT hb1 hb2).size; simp at this; omega
    clear hb1 hb2 hb3 hb01 hn3 hO hb13
    go_wp2_with fail
    refine bodyPost_ret (v := dyV s a3 n3 c3 (e + (t : Int))) (by simp [results, Tryz.results68, go_sem, m0, m1, m2]) rfl ⟨_, rfl, ?_, ?_⟩
    · rw [HF.out]
      refine ⟨a3, n3, c3, by rw [HT.out], HN3, ?_⟩
      exact (((hO3.far _ _ (by show w.heap.size < _; omega)).far _ _ (by show w.heap.size < _; omega)).far _ _ (by show w.heap.size < _; omega)).low (by omega)
    · exact ((hb03.setCell (Nat.le_refl _) _).setCell (Nat.le_refl _) _).setCell (Nat.le_refl _) _

set_option maxRecDepth 100000 in
set_option maxHeartbeats 2000000 in
theorem qOne_calls (s : Bool) (a : Option Addr) (len cap : Nat) (xs : List Int) (e : Int) (w : World) (h : IsW w a len cap xs) (hm : len ≤ 17592186044000) (he : -4611686018427387904 ≤ e ∧ e ≤ 4611686018427387904) :
    Calls Tryz.prog 39 #[dyV s a len cap e] w fun r w' => ∃ v, r = .returned v ∧ DyQ w.heap.size w' v (formD s (val xs) e) ∧ Below w.heap.size w w' := by
  have hb0 : Below w.heap.size w ((w.alloc (.cells #[.bool s, .slice a len cap, .int .i64 e] 25)).alloc (.cells #[.bool false, .slice none 0 0, .int .i64 0] 25)) := nT (below_one _ _) (below_one _ _)
  have HF : Hid _ := qForm_calls s a len cap xs e _ (h.keep hb0) hm he
  clear he
  go_enter Tryz.func39, Tryz.ntmps39
  go_wp2_with fail
  refine Calls.mono HF.out ?_
  rintro r w1 ⟨_, rfl, ⟨a1, n1, c1, rfl, HN1, hO1⟩, hb1⟩
  obtain ⟨m0, m1, m2, f0, f1, f2⟩ := zero_dy (r := w.heap.size + 1) hb1 (by simp)
  have hb01 := nT hb0 hb1
  have hws : w.heap.size + 2 ≤ w1.heap.size := by have := hb1.size; simp at this; omega
  clear hb1
  go_wp2_with fail
  refine bodyPost_ret (v := dyV (formD s (val xs) e).1 a1 n1 c1 (formD s (val xs) e).2.2) (by simp [results, Tryz.results39, go_sem, m0, m1, m2]) rfl ⟨_, rfl, ⟨a1, n1, c1, rfl, HN1, ?_⟩, ?_⟩
  · exact (((hO1.far _ _ (by simp)).far _ _ (by simp)).far _ _ (by simp)).low (by simp; omega)
  · exact ((hb01.setCell (by show w.heap.size ≤ w.heap.size + 1; omega) _).setCell (by show w.heap.size ≤ w.heap.size + 1; omega) _).setCell (by show w.heap.size ≤ w.heap.size + 1; omega) _

set_option maxRecDepth 100000 in
set_option maxHeartbeats 1000000 in
theorem qRight_calls (s : Bool) (a : Option Addr) (len cap : Nat) (xs : List Int) (e : Int) (w : World) (h : IsW w a len cap xs) (hm : len ≤ 17592186044416) :
    Calls Tryz.prog 32 #[dyV s a len cap e] w fun r w' => r = .returned (.bool (rightB (val xs) e)) ∧ Below w.heap.size w w' := by
  have hb0 := below_one w (.cells #[.bool s, .slice a len cap, .int .i64 e] 25)
  have HG : Hid _ := nGreat_calls a len cap xs _ (h.keep hb0) hm
  have HR : Hid (rightB (val xs) e = (!decide (1024 < (wordsOf (val xs)).length) && inB e)) := rfl
  generalize decide (1024 < (wordsOf (val xs)).length) = g at *
  have HI : Hid (inB e = decide (-32768 ≤ e ∧ e ≤ 32768)) := rfl
  cases g with
  | true =>
    go_enter Tryz.func32, Tryz.ntmps32
    go_wp2_with fail
    refine Calls.mono HG.out ?_
    rintro r w1 ⟨rfl, rfl⟩
    go_wp2_with fail
    go_ret
    rw [HR.out]
    exact ⟨rfl, hb0⟩
  | false =>
    by_cases h1 : -32768 ≤ e
    · by_cases h2 : e ≤ 32768
      · go_enter Tryz.func32, Tryz.ntmps32
        go_wp2_with fail
        refine Calls.mono HG.out ?_
        rintro r w1 ⟨rfl, rfl⟩
        go_wp2_with fail
        go_ret
        rw [HR.out, HI.out, decide_eq_true (And.intro h1 h2)]
        exact ⟨rfl, hb0⟩
      · go_enter Tryz.func32, Tryz.ntmps32
        go_wp2_with fail
        refine Calls.mono HG.out ?_
        rintro r w1 ⟨rfl, rfl⟩
        go_wp2_with fail
        go_ret
        rw [HR.out, HI.out, decide_eq_false (fun q : -32768 ≤ e ∧ e ≤ 32768 => by omega)]
        first | exact ⟨rfl, hb0⟩ | exact ⟨nret_bool (decide_eq_false (by omega)), hb0⟩
    · go_enter Tryz.func32, Tryz.ntmps32
      go_wp2_with fail
      refine Calls.mono HG.out ?_
      rintro r w1 ⟨rfl, rfl⟩
      go_wp2_with fail
      go_ret
      rw [HR.out, HI.out, decide_eq_false (fun q : -32768 ≤ e ∧ e ≤ 32768 => by omega)]
      first | exact ⟨rfl, hb0⟩ | exact ⟨nret_bool (decide_eq_false (by omega)), hb0⟩

set_option maxRecDepth 100000 in
set_option maxHeartbeats 1000000 in
theorem qZero_calls (s : Bool) (a : Option Addr) (len cap : Nat) (xs : List Int) (e : Int) (w : World) (h : IsW w a len cap xs) (hm : len ≤ 17592186044416) :
    Calls Tryz.prog 97 #[dyV s a len cap e] w fun r w' => r = .returned (.bool (decide (val xs = 0))) ∧ Below w.heap.size w w' := by
  have hb0 := below_one w (.cells #[.bool s, .slice a len cap, .int .i64 e] 25)
  have HN : Hid _ := nNorm_calls a len cap xs _ (h.keep hb0) hm
  have HZ : Hid (((((wordsOf (val xs)).length : Nat) : Int) == 0) = decide (val xs = 0)) := by
    rw [Hid, Bool.eq_iff_iff]
    simp only [beq_iff_eq, decide_eq_true_eq]
    rw [Int.natCast_eq_zero, List.length_eq_zero_iff, words_nil]
  generalize decide (val xs = 0) = z at *
  generalize (wordsOf (val xs)).length = n at *
  go_enter Tryz.func97, Tryz.ntmps97
  go_wp2_with fail
  refine Calls.mono HN.out ?_
  rintro r w1 ⟨ao, cv, rfl, hO, hb1⟩
  have hb01 := nT hb0 hb1
  clear hb1 hO
  go_wp2_with fail
  go_ret
  exact ⟨nret_bool HZ.out, hb01⟩

end Go.Proofs.YtognliaoonkmiaaGreatDoor

namespace Go.Proofs.YtognliaoonkmiaaGreatDoor
open Go.RowKit

theorem words_len_mono {m n : Nat} (h : m ≤ n) : (wordsOf m).length ≤ (wordsOf n).length := (words_len _ m).2 (Nat.lt_of_le_of_lt h ((words_len _ n).1 (Nat.le_refl _)))

end Go.Proofs.YtognliaoonkmiaaGreatDoor

namespace Go.Proofs.YtognliaoonkmiaaGreatDoor
open Go.RowKit

/-- Are two numbers the same, field by field? -/
def sameB (s : Bool) (e : Int) (xs : List Int) (s' : Bool) (e' : Int) (ys : List Int) : Bool := decide (s = s' ∧ e = e' ∧ xs = ys)
theorem sameB_self (s : Bool) (e : Int) (xs : List Int) : sameB s e xs s e xs = true := decide_eq_true ⟨rfl, rfl, rfl⟩

set_option maxRecDepth 100000 in
set_option maxHeartbeats 1000000 in
theorem qSame_calls (s : Bool) (a : Option Addr) (len cap : Nat) (xs : List Int) (e : Int) (s' : Bool) (a' : Option Addr) (len' cap' : Nat) (ys : List Int) (e' : Int) (w : World) (h : IsW w a len cap xs) (hm : len ≤ 17592186044416) (h' : IsW w a' len' cap' ys) (hm' : len' ≤ 17592186044416) :
    Calls Tryz.prog 13 #[dyV s a len cap e, dyV s' a' len' cap' e'] w fun r w' => r = .returned (.bool (sameB s e xs s' e' ys)) ∧ Below w.heap.size w w' := by
  have hb0 : Below w.heap.size w ((w.alloc (.cells #[.bool s, .slice a len cap, .int .i64 e] 25)).alloc (.cells #[.bool s', .slice a' len' cap', .int .i64 e'] 25)) := nT (below_one _ _) (below_one _ _)
  have HS : Hid _ := nSame_calls a a' len cap len' cap' xs ys _ (h.keep hb0) (h'.keep hb0) hm hm'
  clear h h' hm hm'
  by_cases h1 : s = s'
  · subst h1
    have q1 : (s == s) = true := by cases s <;> rfl
    by_cases h2 : e = e'
    · subst h2
      have HD : Hid (sameB s e xs s e ys = decide (xs = ys)) := by rw [Hid, sameB]; exact decide_eq_decide.2 ⟨fun q => q.2.2, fun q => ⟨rfl, rfl, q⟩⟩
      generalize decide (xs = ys) = r at *
      go_enter Tryz.func13, Tryz.ntmps13
      go_wp2_with fail
      refine Calls.mono HS.out ?_
      rintro r w1 ⟨rfl, hb1⟩
      go_wp2_with fail
      go_ret
      exact ⟨nret_bool HD.out.symm, nT hb0 hb1⟩
    · have HD : Hid (sameB s e xs s e' ys = false) := decide_eq_false (fun q => h2 q.2.1)
      have q2 : (e == e') = false := by simpa using h2
      clear h2
      go_enter Tryz.func13, Tryz.ntmps13
      go_wp2_with fail
      go_ret
      exact ⟨nret_bool HD.out.symm, hb0⟩
  · have HD : Hid (sameB s e xs s' e' ys = false) := decide_eq_false (fun q => h1 q.1)
    have q1 : (s == s') = false := by simpa using h1
    clear h1
    go_enter Tryz.func13, Tryz.ntmps13
    go_wp2_with fail
    go_ret
    exact ⟨nret_bool HD.out.symm, hb0⟩

theorem ownN_lit (w : World) (k : Nat) (hk : k = w.heap.size) : Own k (w.alloc (.cells #[] 28)) (some ⟨k, 0, none⟩) 0 [] := by
  subst hk
  exact ⟨rfl, Or.inr ⟨w.heap.size, 0, #[], rfl, Nat.le_refl _, heap_alloc_new _ _, Nat.le_refl _, by unfold maxLen; omega, rfl, rfl⟩⟩
theorem isW_news' {w : World} {ad : Addr} {n c : Nat} {xs : List Int} (h : IsW w (some ad) n c xs) : ∀ j u, (xs.map (Value.int .u64))[j]? = some u → w.cell? (ad.add j) = some u := isW_news h
/-- An append of a list of words, nil or not, behind a new list. -/
theorem appN_new {w : World} {ops : Array Oper} {rest : List Oper} {o : Oper} {act : Act} {Q : Exit → Act → World → Prop} (hgd : o.guard = none) (s x : Operand)
    (ho : o.op = .call { callee := .builtin .append, args := #[s, x], argTypes := #[23, 23] })
    (k : Nat) (w0 : World) (hw : w = w0.alloc (.cells #[] 28)) (hk : k = w0.heap.size) (hs : act.eval s = .slice (some ⟨k, 0, none⟩) 0 0)
    (bo : Option Addr) (m c : Nat) (ys : List Int) (hx : act.eval x = .slice bo m c) (hF : IsW w0 bo m c ys) (hm : m ≤ 17592186044416)
    (h : ∀ a' cv' w', OwnW w0.heap.size w' a' m cv' ys → Below w0.heap.size w0 w' → wpList Tryz.prog ops Q rest (act.put o.dst (.slice a' m cv')) w') : wpList Tryz.prog ops Q (o :: rest) act w := by
  subst hw
  obtain ⟨i0, hi, hz0, hz1, hz2⟩ := info_parts word_info
  have hown : (w0.alloc (.cells #[] 28)).ownsRow w0.heap.size 28 1 (.slice (some ⟨k, 0, none⟩) 0 0) 0 [] := by rw [hk]; exact ownN_lit w0 _ rfl
  cases bo with
  | none =>
    have hc0 := hF.2.2.1.2 rfl
    have hm0 : m = 0 := by have := hF.2.2.1.1; omega
    have hy : ys = [] := List.length_eq_zero_iff.1 (by rw [← hF.1]; exact hm0)
    subst hc0 hm0 hy
    refine wpList_append_own_none hgd s x _ ho w0.heap.size 28 i0 1 Tryz.underlying23 hi _ _ _ hs hown hx ?_
    exact h _ _ _ (Own.ownW (L := []) (by rw [hk]; exact ownN_lit w0 _ rfl) (fun x hx => by cases hx) rfl) (below_one _ _)
  | some ad =>
    refine wpList_append_own _ hgd s x _ ho w0.heap.size 28 i0 (.int .u64 0) 1 8 Tryz.underlying23 hi hz0 hz1 hz2 rfl (by decide) _ _ _ hs hown ad m c (ys.map (Value.int .u64)) hx (by rw [List.length_map, ← hF.1, Nat.mul_one]) (isW_news' (hF.keep (below_one _ _))) (fun u hu => by simp only [List.mem_map] at hu; obtain ⟨y, _, rfl⟩ := hu; rfl) (by unfold maxLen; omega) (by omega) (by simp) ?_
    intro v' w' hown' hgrow _
    have hb : Below w0.heap.size w0 w' := (below_one w0 _).trans ((Below.refl _ _).grown hgrow (by simp) (fun q hq => (hown.lt q hq).1))
    obtain ⟨a', cv', hv⟩ : ∃ a' cv', v' = .slice a' m cv' := by
      rcases hown'.2 with ⟨e1, e2⟩ | ⟨g, cap, _, e1, _⟩
      · exact ⟨none, 0, by rw [e1, show m = 0 by omega]⟩
      · exact ⟨_, cap, by rw [e1, Nat.zero_add]⟩
    subst hv
    have hO : Own w0.heap.size w' a' cv' ys := by
      unfold Own
      rw [← hF.1]
      rw [Nat.zero_add, List.nil_append] at hown'
      exact hown'
    exact h a' cv' w' (hO.ownW hF.2.1 hF.1.symm) hb

set_option maxRecDepth 100000 in
set_option maxHeartbeats 1000000 in
theorem qCopy_calls (s : Bool) (a : Option Addr) (len cap : Nat) (xs : List Int) (e : Int) (w : World) (h : IsW w a len cap xs) (hm : len ≤ 17592186044416) :
    Calls Tryz.prog 14 #[dyV s a len cap e] w fun r w' => ∃ (ao : Option Addr) (c' : Nat), r = .returned (dyV s ao len c' e) ∧ OwnW w.heap.size w' ao len c' xs ∧ Below w.heap.size w w' := by
  have hb0 : Below w.heap.size w ((w.alloc (.cells #[.bool s, .slice a len cap, .int .i64 e] 25)).alloc (.cells #[.bool false, .slice none 0 0, .int .i64 0] 25)) := nT (below_one _ _) (below_one _ _)
  go_enter Tryz.func14, Tryz.ntmps14
  go_wp2_with (at_builtin; refine appN_new rfl _ _ rfl _ ((w.alloc (.cells #[.bool s, .slice a len cap, .int .i64 e] 25)).alloc (.cells #[.bool false, .slice none 0 0, .int .i64 0] 25)) rfl (by simp) rfl a len cap xs rfl (h.keep hb0) hm ?_; intro a3 c3 w3 hO3 hb3; obtain ⟨m0, m1, m2, f0, f1, f2⟩ := zero_dy (r := w.heap.size + 1) hb3 (by simp); have k0 : w3.cell? ⟨w.heap.size, 0, none⟩ = some (.bool s) := kC hb3 (by go_simp); have k1 : w3.cell? ⟨w.heap.size, 1, none⟩ = some (.slice a len cap) := kC hb3 (by go_simp); have k2 : w3.cell? ⟨w.heap.size, 2, none⟩ = some (.int .i64 e) := kC hb3 (by go_simp); have g1 : w3.frozen? ⟨w.heap.size, 1, none⟩ = false := kF hb3 (v := .slice a len cap) (by go_simp) (by go_simp))
  have hb03 := nT hb0 hb3
  have hO3' : OwnW (w.heap.size + 2) w3 a3 len c3 xs := hO3.low (by simp)
  clear hO3 hb3 hb0
  refine bodyPost_ret (v := dyV s a3 len c3 e) (by simp [results, Tryz.results14, go_sem, m0, m1, m2]) rfl ⟨_, _, rfl, ?_, ?_⟩
  · exact ((((hO3'.far _ _ (by simp)).far _ _ (by simp)).far _ _ (by simp)).far _ _ (by simp)).low (by omega)
  · repeat (first | exact hb03 | refine Below.setCell ?_ (by simp) _)
end Go.Proofs.YtognliaoonkmiaaGreatDoor

/- The walks of products of naturals. -/
import Derived.Test.YtlbaphijmonjoaaNMul
namespace Go.Proofs.Ytlbaphijmonjoaa
open Go.RowKit

/-- The list with the words from place i on put in. -/
def spliceW (M : List Int) (i : Nat) (S : List Int) : List Int := M.take i ++ S ++ M.drop (i + S.length)
theorem splice_len (M : List Int) (i : Nat) (S : List Int) (h : i + S.length ≤ M.length) : (spliceW M i S).length = M.length := by
  unfold spliceW; simp only [List.length_append, List.length_take, List.length_drop]; omega
theorem splice_get (M : List Int) (i : Nat) (S : List Int) (h : i + S.length ≤ M.length) (j : Nat) : (spliceW M i S).getD j 0 = if j < i then M.getD j 0 else if j < i + S.length then S.getD (j - i) 0 else M.getD j 0 := by
  unfold spliceW
  simp only [List.getD, List.getElem?_append, List.length_append, List.length_take, List.getElem?_take, List.getElem?_drop]
  by_cases h1 : j < i
  · simp [h1, show j < min i M.length + S.length by omega, show j < min i M.length by omega]
  · by_cases h2 : j < i + S.length
    · simp [h1, h2, show min i M.length = i by omega]
    · simp [h1, h2, show min i M.length = i by omega, show i + S.length + (j - (i + S.length)) = j by omega]
theorem splice_U {M S : List Int} (hM : AllU M) (hS : AllU S) (i : Nat) : AllU (spliceW M i S) := fun x hx => by
  unfold spliceW at hx
  rcases List.mem_append.1 hx with h | h
  · rcases List.mem_append.1 h with h | h
    · exact hM x (List.mem_of_mem_take h)
    · exact hS x h
  · exact hM x (List.mem_of_mem_drop h)
theorem splice_val (M : List Int) (i : Nat) (S : List Int) (h : i + S.length ≤ M.length) : val (spliceW M i S) + 18446744073709551616 ^ i * val ((M.drop i).take S.length) = val M + 18446744073709551616 ^ i * val S := by
  have e1 : M = M.take i ++ ((M.drop i).take S.length ++ M.drop (i + S.length)) := by
    rw [← List.drop_drop, List.take_append_drop, List.take_append_drop]
  have e2 : val M = val (M.take i) + 18446744073709551616 ^ i * (val ((M.drop i).take S.length) + 18446744073709551616 ^ S.length * val (M.drop (i + S.length))) := by
    conv => lhs; rw [e1]
    rw [val_append, val_append, List.length_take, List.length_take, List.length_drop, show min i M.length = i by omega, show min S.length (M.length - i) = S.length by omega]
  have e3 : val (spliceW M i S) = val (M.take i) + 18446744073709551616 ^ i * (val S + 18446744073709551616 ^ S.length * val (M.drop (i + S.length))) := by
    unfold spliceW
    rw [List.append_assoc, val_append, val_append, List.length_take, show min i M.length = i by omega]
  rw [e2, e3, Nat.mul_add, Nat.mul_add]
  omega
theorem own_part {B g : Nat} {w : World} {N c : Nat} {M : List Int} (h : OwnW B w (some ⟨g, 0, none⟩) N c M) (i n c' : Nat) (hi : i + n ≤ N) (hc : n ≤ c') : OwnW B w (some ⟨g, i, none⟩) n c' ((M.drop i).take n) := by
  have hN := h.1.1
  refine ⟨⟨by rw [List.length_take, List.length_drop]; omega, (h.1.2.1.drop i).take n, ⟨hc, fun e => by cases e⟩, fun j hj => ?_⟩, fun b off j e hj => ?_⟩
  · obtain ⟨b, off, e1, e2, e3⟩ := h.1.2.2.2 (i + j) (by omega)
    simp only [Option.some.injEq, Addr.mk.injEq, and_true] at e1
    obtain ⟨rfl, rfl⟩ := e1
    refine ⟨g, i, rfl, e2, ?_⟩
    rw [Nat.zero_add] at e3
    rw [e3]
    simp only [List.getD, List.getElem?_take, hj, if_true, List.getElem?_drop]
  · simp only [Option.some.injEq, Addr.mk.injEq, and_true] at e
    obtain ⟨rfl, rfl⟩ := e
    have := h.2 g 0 (i + j) rfl (by omega)
    rw [Nat.zero_add] at this; exact this
theorem own_join {B g : Nat} {w w' : World} {N c : Nat} {M : List Int} (h : OwnW B w (some ⟨g, 0, none⟩) N c M) (i n c' : Nat) (S : List Int) (hi : i + n ≤ N) (hS : OwnW B w' (some ⟨g, i, none⟩) n c' S) (hup : Upd g i n w w') : OwnW B w' (some ⟨g, 0, none⟩) N c (spliceW M i S) := by
  have hN := h.1.1
  have hn := hS.1.1
  refine ⟨⟨by rw [splice_len M i S (by omega)]; exact hN, splice_U h.1.2.1 hS.1.2.1 i, h.1.2.2.1, fun j hj => ?_⟩, fun b off j e hj => ?_⟩
  · obtain ⟨b, off, e1, e2, e3⟩ := h.1.2.2.2 j hj
    simp only [Option.some.injEq, Addr.mk.injEq, and_true] at e1
    obtain ⟨rfl, rfl⟩ := e1
    refine ⟨g, 0, rfl, Nat.lt_of_lt_of_le e2 hup.grown.size, ?_⟩
    rw [splice_get M i S (by omega), Nat.zero_add]
    rw [Nat.zero_add] at e3
    by_cases h1 : j < i
    · rw [if_pos h1, hup.cell j (Or.inl h1)]; exact e3
    · rw [if_neg h1]
      by_cases h2 : j < i + S.length
      · rw [if_pos h2]
        obtain ⟨b', off', f1, _, f3⟩ := hS.1.2.2.2 (j - i) (by omega)
        simp only [Option.some.injEq, Addr.mk.injEq, and_true] at f1
        obtain ⟨rfl, rfl⟩ := f1
        rw [show i + (j - i) = j by omega] at f3
        exact f3
      · rw [if_neg h2, hup.cell j (Or.inr (by omega))]; exact e3
  · simp only [Option.some.injEq, Addr.mk.injEq, and_true] at e
    obtain ⟨rfl, rfl⟩ := e
    have := h.2 g 0 j rfl hj
    exact ⟨this.1, (hup.frozen (0 + j)).trans this.2⟩
theorem times_step (xs M S : List Int) (Y i lb x cr : Nat) (hl : i + lb < M.length) (hS : S.length = lb) (hx : xs.getD i 0 = (x : Int)) (hz : M.getD (i + lb) 0 = 0)
    (hv : val M = low xs i * Y) (hs : val S + 18446744073709551616 ^ lb * cr = val ((M.drop i).take lb) + x * Y) : val ((spliceW M i S).set (i + lb) (cr : Int)) = low xs (i + 1) * Y := by
  have e1 := splice_val M i S (by omega)
  have e2 := val_set (spliceW M i S) (i + lb) (cr : Int) (by rw [splice_len M i S (by omega)]; exact hl)
  rw [splice_get M i S (by omega), if_neg (by omega), if_neg (by omega), hz, Int.toNat_natCast, Int.toNat_zero, Nat.mul_zero, Nat.add_zero, Nat.pow_add] at e2
  have e3 : low xs (i + 1) = low xs i + 18446744073709551616 ^ i * x := by show low xs i + _ * (xs.getD i 0).toNat = _; rw [hx, Int.toNat_natCast]
  have e4 := congrArg (18446744073709551616 ^ i * ·) hs
  simp only [Nat.mul_add] at e4
  rw [hS] at e1
  rw [e2, e3, Nat.add_mul, ← hv, Nat.mul_assoc, Nat.mul_assoc]
  omega


/-- The product, or why there is none. -/
def mulR (u v : Nat) : Nat × Int := if (greatB u || greatB v) = true then (0, 3) else fitR (u * v)
theorem mulR_yes {u v : Nat} (h : (greatB u || greatB v) = true) : mulR u v = (0, 3) := by unfold mulR; rw [if_pos h]
theorem mulR_no {u v : Nat} (h : (greatB u || greatB v) = false) : mulR u v = fitR (u * v) := by unfold mulR; rw [if_neg (by rw [h]; decide)]
theorem mul_words_ge (u v n m : Nat) (hu : n = (wordsOf u).length) (hv : m = (wordsOf v).length) (h : 1024 < n + m - 1) (hn : n ≤ 1024) (hm : m ≤ 1024) : greatB (u * v) = true := by
  have a1 : ¬ u < 18446744073709551616 ^ (n - 1) := fun q => by have := (words_len (n - 1) u).2 q; omega
  have a2 : ¬ v < 18446744073709551616 ^ (m - 1) := fun q => by have := (words_len (m - 1) v).2 q; omega
  have h3 : 18446744073709551616 ^ (n - 1) * 18446744073709551616 ^ (m - 1) ≤ u * v := Nat.mul_le_mul (by omega) (by omega)
  rw [← Nat.pow_add] at h3
  unfold greatB
  rw [decide_eq_true_iff]
  rcases Nat.lt_or_ge 1024 (wordsOf (u * v)).length with q | q
  · exact q
  · have h4 := (words_len _ (u * v)).1 (Nat.le_refl _)
    have h5 : 18446744073709551616 ^ (wordsOf (u * v)).length ≤ 18446744073709551616 ^ (n - 1 + (m - 1)) := Nat.pow_le_pow_right (by decide) (by omega)
    generalize 18446744073709551616 ^ (wordsOf (u * v)).length = P at *
    generalize 18446744073709551616 ^ (n - 1 + (m - 1)) = Q at *
    omega

end Go.Proofs.Ytlbaphijmonjoaa

/- The walks of products of naturals. -/
import Derived.Test.YtfmjgagajlhfoaaDoorNMul
namespace Go.Proofs.YtfmjgagajlhfoaaDoor
open Go.RowKit

/-- The list with the words from place i on put in. -/
def spliceW (M : List Int) (i : Nat) (S : List Int) : List Int := M.take i ++ S ++ M.drop (i + S.length)
theorem splice_len (M : List Int) (i : Nat) (S : List Int) (h : i + S.length ≤ M.length) : (spliceW M i S).length = M.length := by
  unfold spliceW; simp only [List.length_append, List.length_take, List.length_drop]; omega
theorem splice_get (M : List Int) (i : Nat) (S : List Int) (h : i + S.length ≤ M.length) (j : Nat) : (spliceW M i S).getD j 0 = if j < i then M.getD j 0 else if j < i + S.length then S.getD (j - i) 0 else M.getD j 0 := by
  unfold spliceW
  simp only [List.getD, List.getElem?_append, List.length_append, List.length_take, List.getElem?_take, List.getElem?_drop]
  by_cases h1 : j < i
  · simp [h1, show j < min i M.length + S.length by omega, show j < min i M.length by omega]
  · by_cases h2 : j < i + S.length
    · simp [h1, h2, show min i M.length = i by omega]
    · simp [h1, h2, show min i M.length = i by omega, show i + S.length + (j - (i + S.length)) = j by omega]
theorem splice_U {M S : List Int} (hM : AllU M) (hS : AllU S) (i : Nat) : AllU (spliceW M i S) := fun x hx => by
  unfold spliceW at hx
  rcases List.mem_append.1 hx with h | h
  · rcases List.mem_append.1 h with h | h
    · exact hM x (List.mem_of_mem_take h)
    · exact hS x h
  · exact hM x (List.mem_of_mem_drop h)
theorem splice_val (M : List Int) (i : Nat) (S : List Int) (h : i + S.length ≤ M.length) : val (spliceW M i S) + 18446744073709551616 ^ i * val ((M.drop i).take S.length) = val M + 18446744073709551616 ^ i * val S := by
  have e1 : M = M.take i ++ ((M.drop i).take S.length ++ M.drop (i + S.length)) := by
    rw [← List.drop_drop, List.take_append_drop, List.take_append_drop]
  have e2 : val M = val (M.take i) + 18446744073709551616 ^ i * (val ((M.drop i).take S.length) + 18446744073709551616 ^ S.length * val (M.drop (i + S.length))) := by
    conv => lhs; rw [e1]
    rw [val_append, val_append, List.length_take, List.length_take, List.length_drop, show min i M.length = i by omega, show min S.length (M.length - i) = S.length by omega]
  have e3 : val (spliceW M i S) = val (M.take i) + 18446744073709551616 ^ i * (val S + 18446744073709551616 ^ S.length * val (M.drop (i + S.length))) := by
    unfold spliceW
    rw [List.append_assoc, val_append, val_append, List.length_take, show min i M.length = i by omega]
  rw [e2, e3, Nat.mul_add, Nat.mul_add]
  omega
theorem own_part {B g : Nat} {w : World} {N c : Nat} {M : List Int} (h : OwnW B w (some ⟨g, 0, none⟩) N c M) (i n c' : Nat) (hi : i + n ≤ N) (hc : n ≤ c') : OwnW B w (some ⟨g, i, none⟩) n c' ((M.drop i).take n) := by
  have hN := h.1.1
  refine ⟨⟨by rw [List.length_take, List.length_drop]; omega, (h.1.2.1.drop i).take n, ⟨hc, fun e => by cases e⟩, fun j hj => ?_⟩, fun b off j e hj => ?_⟩
  · obtain ⟨b, off, e1, e2, e3⟩ := h.1.2.2.2 (i + j) (by omega)
    simp only [Option.some.injEq, Addr.mk.injEq, and_true] at e1
    obtain ⟨rfl, rfl⟩ := e1
    refine ⟨g, i, rfl, e2, ?_⟩
    rw [Nat.zero_add] at e3
    rw [e3]
    simp only [List.getD, List.getElem?_take, hj, if_true, List.getElem?_drop]
  · simp only [Option.some.injEq, Addr.mk.injEq, and_true] at e
    obtain ⟨rfl, rfl⟩ := e
    have := h.2 g 0 (i + j) rfl (by omega)
    rw [Nat.zero_add] at this; exact this
theorem own_join {B g : Nat} {w w' : World} {N c : Nat} {M : List Int} (h : OwnW B w (some ⟨g, 0, none⟩) N c M) (i n c' : Nat) (S : List Int) (hi : i + n ≤ N) (hS : OwnW B w' (some ⟨g, i, none⟩) n c' S) (hup : Upd g i n w w') : OwnW B w' (some ⟨g, 0, none⟩) N c (spliceW M i S) := by
  have hN := h.1.1
  have hn := hS.1.1
  refine ⟨⟨by rw [splice_len M i S (by omega)]; exact hN, splice_U h.1.2.1 hS.1.2.1 i, h.1.2.2.1, fun j hj => ?_⟩, fun b off j e hj => ?_⟩
  · obtain ⟨b, off, e1, e2, e3⟩ := h.1.2.2.2 j hj
    simp only [Option.some.injEq, Addr.mk.injEq, and_true] at e1
    obtain ⟨rfl, rfl⟩ := e1
    refine ⟨g, 0, rfl, Nat.lt_of_lt_of_le e2 hup.grown.size, ?_⟩
    rw [splice_get M i S (by omega), Nat.zero_add]
    rw [Nat.zero_add] at e3
    by_cases h1 : j < i
    · rw [if_pos h1, hup.cell j (Or.inl h1)]; exact e3
    · rw [if_neg h1]
      by_cases h2 : j < i + S.length
      · rw [if_pos h2]
        obtain ⟨b', off', f1, _, f3⟩ := hS.1.2.2.2 (j - i) (by omega)
        simp only [Option.some.injEq, Addr.mk.injEq, and_true] at f1
        obtain ⟨rfl, rfl⟩ := f1
        rw [show i + (j - i) = j by omega] at f3
        exact f3
      · rw [if_neg h2, hup.cell j (Or.inr (by omega))]; exact e3
  · simp only [Option.some.injEq, Addr.mk.injEq, and_true] at e
    obtain ⟨rfl, rfl⟩ := e
    have := h.2 g 0 j rfl hj
    exact ⟨this.1, (hup.frozen (0 + j)).trans this.2⟩
theorem times_step (xs M S : List Int) (Y i lb x cr : Nat) (hl : i + lb < M.length) (hS : S.length = lb) (hx : xs.getD i 0 = (x : Int)) (hz : M.getD (i + lb) 0 = 0)
    (hv : val M = low xs i * Y) (hs : val S + 18446744073709551616 ^ lb * cr = val ((M.drop i).take lb) + x * Y) : val ((spliceW M i S).set (i + lb) (cr : Int)) = low xs (i + 1) * Y := by
  have e1 := splice_val M i S (by omega)
  have e2 := val_set (spliceW M i S) (i + lb) (cr : Int) (by rw [splice_len M i S (by omega)]; exact hl)
  rw [splice_get M i S (by omega), if_neg (by omega), if_neg (by omega), hz, Int.toNat_natCast, Int.toNat_zero, Nat.mul_zero, Nat.add_zero, Nat.pow_add] at e2
  have e3 : low xs (i + 1) = low xs i + 18446744073709551616 ^ i * x := by show low xs i + _ * (xs.getD i 0).toNat = _; rw [hx, Int.toNat_natCast]
  have e4 := congrArg (18446744073709551616 ^ i * ·) hs
  simp only [Nat.mul_add] at e4
  rw [hS] at e1
  rw [e2, e3, Nat.add_mul, ← hv, Nat.mul_assoc, Nat.mul_assoc]
  omega

set_option maxRecDepth 100000 in
set_option maxHeartbeats 4000000 in
theorem times_calls (a b : Option Addr) (n m : Nat) (xs ys : List Int) (w : World) (hA : IsW w a n n xs) (hB : IsW w b m m ys) (hn : n ≤ 4096) (hm : m ≤ 4096) :
    Calls Tryd.prog 54 #[.slice a n n, .slice b m m] w fun e w' => ∃ (ao : Option Addr) (k : Nat) (M : List Int), e = .returned (.slice ao k k) ∧ OwnW w.heap.size w' ao k k M ∧ val M = val xs * val ys ∧ k ≤ n + m ∧ Below w.heap.size w w' := by
  have HX : Hid (xs.length = n) := hA.1.symm
  have HY : Hid (ys.length = m) := hB.1.symm
  by_cases h0 : n = 0
  · subst h0
    have HV : Hid (val xs = 0) := by rw [Hid, List.length_eq_zero_iff.1 HX.out]; rfl
    clear hA hB
    go_enter Tryd.func54, Tryd.ntmps54
    go_wp2_with fail
    go_ret
    exact ⟨none, 0, [], rfl, ownW_nil _ _, by rw [HV.out, Nat.zero_mul]; rfl, by omega, Below.refl _ _⟩
  · by_cases h1 : m = 0
    · subst h1
      have HV : Hid (val ys = 0) := by rw [Hid, List.length_eq_zero_iff.1 HY.out]; rfl
      have d0 : ((n : Int) == 0) = false := by simp; omega
      clear hA hB h0
      go_enter Tryd.func54, Tryd.ntmps54
      go_wp2_with fail
      go_ret
      exact ⟨none, 0, [], rfl, ownW_nil _ _, by rw [HV.out, Nat.mul_zero]; rfl, by omega, Below.refl _ _⟩
    · have d0 : ((n : Int) == 0) = false := by simp; omega
      have d1 : ((m : Int) == 0) = false := by simp; omega
      obtain ⟨w1, hmk, hO1, hb1, hz1⟩ := make_words 46 words_T w (n + m) (by omega)
      rw [show ((n + m : Nat) : Int) = (n : Int) + m by omega] at hmk
      go_enter Tryd.func54, Tryd.ntmps54
      go_wp2_with fail
      clear hmk
      go_loopw [24] (fun vi wr => ∃ (i : Nat) (M : List Int), i ≤ n ∧ vi = .int .i64 i ∧ Hid (∀ j, i + m ≤ j → M.getD j 0 = 0) ∧ Hid (val M = low xs i * val ys) ∧ OwnW w.heap.size wr (some ⟨w.heap.size, 0, none⟩) (n + m) (n + m) M ∧ Below w.heap.size w wr) (fun vi _ => n - (intOf vi).toNat)
      case atStart => exact ⟨0, zeros (n + m), by omega, rfl, fun j _ => zeros_get _ j, by rw [Hid, val_zeros]; simp [low], hO1, hb1⟩
      case round =>
        clear hO1 hb1
        obtain ⟨i, M, hi, rfl, HZ, HV, hO, hbr⟩ := hrel
        have HML : Hid (n + m = M.length) := hO.1.1
        by_cases hlt : i < n
        · obtain ⟨ba, oa, hae, hal, hac⟩ := hA.2.2.2 i hlt
          obtain ⟨x, hx, hx1⟩ := word_nat0 xs hA.2.1 i
          have hac2 : wr.cell? ⟨ba, oa + i, none⟩ = some (.int .u64 (x : Int)) := by rw [← hx]; exact (hbr.cell (p := ⟨ba, oa + i, none⟩) hal).trans hac
          have HXX : Hid (xs.getD i 0 = (x : Int)) := hx
          subst hae
          have hP := own_part hO i m (n + m - i) (by omega) (by omega)
          have AC : Hid _ := addTimes_calls w.heap.size w.heap.size i m (n + m - i) m b _ ys x wr hP (hB.keep hbr) (fun b' o e => by
            obtain ⟨b2, o2, e2, hl2, _⟩ := hB.2.2.2 0 (by omega)
            rw [e2] at e
            simp only [Option.some.injEq, Addr.mk.injEq, and_true] at e
            omega) (by omega) hx1
          have hup1 : i + m < n + m := by omega
          clear hx hac hP
          go_wp2_with fail
          refine Calls.mono AC.out ?_
          rintro e w2 ⟨S, cr, rfl, hcr, hS, hsv, hup⟩
          have HSV : Hid _ := hsv
          have HSL : Hid (S.length = m) := hS.1.1.symm
          have hO2 := own_join hO i m (n + m - i) S (by omega) hS hup
          have hb2 : Below w.heap.size w w2 := hbr.grown hup.grown hbr.size (fun k e => by simp at e; omega)
          obtain ⟨_, _, e1, _, hcell⟩ := hO2.1.2.2.2 (i + m) (by omega)
          simp only [Option.some.injEq, Addr.mk.injEq, and_true] at e1
          obtain ⟨rfl, rfl⟩ := e1
          have hfz := (hO2.2 _ _ (i + m) rfl (by omega)).2
          rw [Nat.zero_add] at hcell hfz
          generalize (spliceW M i S).getD (i + m) 0 = oldw at hcell
          have hO3 := hO2.set (i := i + m) (by omega) (v := (cr : Int)) (by omega) (by omega)
          rw [Nat.zero_add] at hO3
          have HO3 : Hid _ := hO3
          clear hsv hS hup hO2 hO hbr AC hO3 hac2
          go_wp2_with fail
          have hML := HML.out
          have hSL := HSL.out
          refine ⟨⟨i + 1, (spliceW M i S).set (i + m) (cr : Int), by omega, by go_num, ?_, ?_, HO3.out, hb2.setCell (Nat.le_refl _) _⟩, by simp [intOf]; omega⟩
          · intro j hj
            rw [getD_set _ _ _ _ (by rw [splice_len M i S (by omega)]; omega), if_neg (by omega), splice_get M i S (by omega), if_neg (by omega), if_neg (by omega)]
            exact HZ.out j (by omega)
          · exact times_step xs M S (val ys) i m x cr (by omega) hSL HXX.out (HZ.out _ (by omega)) HV.out HSV.out
        · have HE : Hid (low xs i = val xs) := low_all xs i (by have := HX.out; omega)
          go_wp2_with fail
          go_ret
          exact ⟨_, _, M, rfl, hO, by rw [HV.out, HE.out], by omega, hbr⟩

/-- The product, or why there is none. -/
def mulR (u v : Nat) : Nat × Int := if (greatB u || greatB v) = true then (0, 3) else fitR (u * v)
theorem mulR_yes {u v : Nat} (h : (greatB u || greatB v) = true) : mulR u v = (0, 3) := by unfold mulR; rw [if_pos h]
theorem mulR_no {u v : Nat} (h : (greatB u || greatB v) = false) : mulR u v = fitR (u * v) := by unfold mulR; rw [if_neg (by rw [h]; decide)]
theorem mul_words_ge (u v n m : Nat) (hu : n = (wordsOf u).length) (hv : m = (wordsOf v).length) (h : 1024 < n + m - 1) (hn : n ≤ 1024) (hm : m ≤ 1024) : greatB (u * v) = true := by
  have a1 : ¬ u < 18446744073709551616 ^ (n - 1) := fun q => by have := (words_len (n - 1) u).2 q; omega
  have a2 : ¬ v < 18446744073709551616 ^ (m - 1) := fun q => by have := (words_len (m - 1) v).2 q; omega
  have h3 : 18446744073709551616 ^ (n - 1) * 18446744073709551616 ^ (m - 1) ≤ u * v := Nat.mul_le_mul (by omega) (by omega)
  rw [← Nat.pow_add] at h3
  unfold greatB
  rw [decide_eq_true_iff]
  rcases Nat.lt_or_ge 1024 (wordsOf (u * v)).length with q | q
  · exact q
  · have h4 := (words_len _ (u * v)).1 (Nat.le_refl _)
    have h5 : 18446744073709551616 ^ (wordsOf (u * v)).length ≤ 18446744073709551616 ^ (n - 1 + (m - 1)) := Nat.pow_le_pow_right (by decide) (by omega)
    generalize 18446744073709551616 ^ (wordsOf (u * v)).length = P at *
    generalize 18446744073709551616 ^ (n - 1 + (m - 1)) = Q at *
    omega
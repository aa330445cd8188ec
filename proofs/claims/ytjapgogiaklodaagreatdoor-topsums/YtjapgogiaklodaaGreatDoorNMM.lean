/- The walk of math/bits.Div64: a quotient of two words by one. The walk of the division of a natural by one word, in place. The walks of products of two words, and of a row times a word added in place. The walks of products of naturals. -/
import Derived.Test.YtjapgogiaklodaaGreatDoorTMB
import Derived.Test.YtjapgogiaklodaaGreatDoorNShelf
import Derived.Test.YtjapgogiaklodaaGreatDoorTMA
import Derived.BigRegion

namespace Go.Proofs.YtjapgogiaklodaaGreatDoor
open Go.RowKit

theorem nret_two {k l : IntKind} {a b c d : Int} (h : a = b) (h' : c = d) : Ending.returned (.tuple #[.int k a, .int l c]) = .returned (.tuple #[.int k b, .int l d]) := by rw [h, h']


end Go.Proofs.YtjapgogiaklodaaGreatDoor

namespace Go.Proofs.YtjapgogiaklodaaGreatDoor
open Go.RowKit


theorem below_grown {w w' : World} (h : Below w.heap.size w w') (row : Option Nat) : w.grownBy w' row := ⟨h.os, h.tape, h.output, h.size, fun k hk _ => h.block k hk⟩
theorem set_grown (w : World) (p : Addr) (u : Value) : w.grownBy (w.setCell p u) (some p.block) := ⟨rfl, rfl, rfl, by simp, fun k _ hne => Below.heap_setCell _ _ _ _ (fun e => hne (by rw [e]))⟩
theorem grown_refl (w : World) (row : Option Nat) : w.grownBy w row := ⟨rfl, rfl, rfl, Nat.le_refl _, fun _ _ _ => rfl⟩
theorem IsW.grown {w w' : World} {a : Option Addr} {len cap : Nat} {xs : List Int} {row : Option Nat} (h : IsW w a len cap xs) (hg : w.grownBy w' row) (hne : ∀ b off, a = some ⟨b, off, none⟩ → some b ≠ row) : IsW w' a len cap xs := by
  refine ⟨h.1, h.2.1, h.2.2.1, fun i hi => ?_⟩
  obtain ⟨b, off, e1, e2, e3⟩ := h.2.2.2 i hi
  exact ⟨b, off, e1, Nat.lt_of_lt_of_le e2 hg.size, hg.cell e3 (hne b off e1)⟩
theorem OwnW.grown {B : Nat} {w w' : World} {a : Option Addr} {len cap : Nat} {xs : List Int} {row : Option Nat} (h : OwnW B w a len cap xs) (hg : w.grownBy w' row) (hne : ∀ b off, a = some ⟨b, off, none⟩ → some b ≠ row) : OwnW B w' a len cap xs := by
  refine ⟨h.1.grown hg hne, fun b off i e hi => ?_⟩
  obtain ⟨b2, off2, e1, e2, _⟩ := h.1.2.2.2 i hi
  rw [e] at e1
  simp only [Option.some.injEq, Addr.mk.injEq, and_true] at e1
  obtain ⟨rfl, rfl⟩ := e1
  exact ⟨(h.2 b off i e hi).1, (World.frozen?_of_block (a := ⟨b, off + i, none⟩) (hg.block b e2 (hne b off e))).trans (h.2 b off i e hi).2⟩

theorem word_nat0 (xs : List Int) (h : AllU xs) (k : Nat) : ∃ x : Nat, xs.getD k 0 = (x : Int) ∧ x < 18446744073709551616 := by
  have := h.get k
  exact ⟨(xs.getD k 0).toNat, by omega, by omega⟩
theorem drop_val (xs : List Int) (k : Nat) (hk : k < xs.length) : val (xs.drop k) = (xs.getD k 0).toNat + 18446744073709551616 * val (xs.drop (k + 1)) := by
  rw [List.drop_eq_getElem_cons hk]
  show (xs[k]).toNat + _ = _
  simp [List.getD, hk]
theorem drop_set_val (M : List Int) (k : Nat) (v : Int) (hk : k < M.length) : val ((M.set k v).drop k) = v.toNat + 18446744073709551616 * val (M.drop (k + 1)) := by
  rw [drop_val _ k (by rw [List.length_set]; exact hk), getD_set M k k v hk, if_pos rfl]
  congr 3
  rw [List.drop_set, if_pos (by omega)]
theorem divBy_step (H D x r d : Nat) (hd : 0 < d) (hD : D = H / d) (hr : r = H % d) : (r * 18446744073709551616 + x) / d + 18446744073709551616 * D = (x + 18446744073709551616 * H) / d ∧ (r * 18446744073709551616 + x) % d = (x + 18446744073709551616 * H) % d := by
  have e := Nat.div_add_mod H d
  rw [← hD, ← hr] at e
  have e2 : x + 18446744073709551616 * H = (r * 18446744073709551616 + x) + d * (18446744073709551616 * D) := by
    rw [← e, Nat.mul_add, Nat.mul_left_comm]; omega
  rw [e2, Nat.add_mul_div_left _ _ hd, Nat.add_mul_mod_self_left]
  exact ⟨rfl, rfl⟩
theorem quo_word (r x d : Nat) (hr : r < d) (hx : x < 18446744073709551616) : (r * 18446744073709551616 + x) / d < 18446744073709551616 := by
  rw [Nat.div_lt_iff_lt_mul (by omega)]
  have := Nat.mul_le_mul_left 18446744073709551616 (show r + 1 ≤ d from hr)
  rw [Nat.mul_add] at this
  omega

end Go.Proofs.YtjapgogiaklodaaGreatDoor

namespace Go.Proofs.YtjapgogiaklodaaGreatDoor
open Go.RowKit

/-- The low and the high word of a product, and of such a pair with a word added. -/
def mL (x y : Nat) : Nat := x * y % 18446744073709551616
def mH (x y : Nat) : Nat := x * y / 18446744073709551616
def pL (l u : Nat) : Nat := (l + u) % 18446744073709551616
def pH (l h u : Nat) : Nat := (h + (l + u) / 18446744073709551616) % 18446744073709551616
theorem mH_lt (x y : Nat) (hx : x < 18446744073709551616) (hy : y < 18446744073709551616) : mH x y < 18446744073709551616 := by
  unfold mH
  rw [Nat.div_lt_iff_lt_mul (by decide)]
  rcases Nat.eq_zero_or_pos x with h | h
  · subst h; simp
  · exact Nat.mul_lt_mul_of_lt_of_lt hx hy
theorem mul_add_words (x y t c : Nat) (hx : x < 18446744073709551616) (hy : y < 18446744073709551616) (ht : t < 18446744073709551616) (hc : c < 18446744073709551616) :
    pL (pL (mL x y) t) c + 18446744073709551616 * pH (pL (mL x y) t) (pH (mL x y) (mH x y) t) c = x * y + t + c := by
  have h1 : x * y ≤ 18446744073709551615 * 18446744073709551615 := Nat.mul_le_mul (by omega) (by omega)
  unfold pL pH mL mH
  generalize x * y = p at *
  omega
theorem pL_lt (l u : Nat) : pL l u < 18446744073709551616 := Nat.mod_lt _ (by decide)
theorem pH_lt (l h u : Nat) : pH l h u < 18446744073709551616 := Nat.mod_lt _ (by decide)
theorem mL_lt (x y : Nat) : mL x y < 18446744073709551616 := Nat.mod_lt _ (by decide)



theorem gen_world {G : World → Prop} {W : World} (F : World → Prop) (h : F W) (k : ∀ W', F W' → G W') : G W := k W h
theorem carry_cell {W W' : World} (hb : Below W.heap.size W W') {p : Addr} {v : Value} (h : W.cell? p = some v) : W'.cell? p = some v := (hb.cell (World.block_lt_of_cell? _ _ h)).trans h
theorem carry_frozen {W W' : World} (hb : Below W.heap.size W W') {p : Addr} {v : Value} (h : W.cell? p = some v) (hf : W.frozen? p = false) : W'.frozen? p = false := (hb.frozen (World.block_lt_of_cell? _ _ h)).trans hf
/-- Of block g only the n places from off on have turned. -/
structure Upd (g off n : Nat) (w w' : World) : Prop where
  grown : w.grownBy w' (some g)
  cell : ∀ o, (o < off ∨ off + n ≤ o) → w'.cell? ⟨g, o, none⟩ = w.cell? ⟨g, o, none⟩
  frozen : ∀ o, w'.frozen? ⟨g, o, none⟩ = w.frozen? ⟨g, o, none⟩
theorem Upd.refl (g off n : Nat) (w : World) : Upd g off n w w := ⟨grown_refl _ _, fun _ _ => rfl, fun _ => rfl⟩
theorem Upd.trans {g off n : Nat} {a b c : World} (h : Upd g off n a b) (k : Upd g off n b c) : Upd g off n a c := ⟨h.grown.trans k.grown, fun o ho => (k.cell o ho).trans (h.cell o ho), fun o => (k.frozen o).trans (h.frozen o)⟩
theorem Upd.below {g off n : Nat} {a b c : World} (h : Upd g off n a b) (hg : g < b.heap.size) (k : Below b.heap.size b c) : Upd g off n a c := ⟨h.grown.trans (below_grown k _), fun o ho => (k.cell (p := ⟨g, o, none⟩) hg).trans (h.cell o ho), fun o => (k.frozen (p := ⟨g, o, none⟩) hg).trans (h.frozen o)⟩
theorem Upd.set {g off n : Nat} {a b : World} (h : Upd g off n a b) {i : Nat} (hi : i < n) (v : Value) : Upd g off n a (b.setCell ⟨g, off + i, none⟩ v) :=
  ⟨h.grown.trans (set_grown _ _ _), fun o ho => (World.cell?_setCell_other b _ _ _ (fun e => by have := congrArg Addr.off e; simp at this; omega)).trans (h.cell o ho), fun o => (World.frozen?_setCell b _ _ _).trans (h.frozen o)⟩
theorem low_set (xs : List Int) (i : Nat) (v : Int) : ∀ k, k ≤ i → low (xs.set i v) k = low xs k
  | 0, _ => rfl
  | k + 1, h => by
    show low (xs.set i v) k + _ * ((xs.set i v).getD k 0).toNat = low xs k + _ * (xs.getD k 0).toNat
    rw [low_set xs i v k (by omega)]
    simp only [List.getD, List.getElem?_set, show i ≠ k by omega, if_false]
theorem addTimes_step (S0 S ys : List Int) (k d t y c lo hi : Nat) (hk : k < S.length) (ht : S0.getD k 0 = (t : Int)) (hy : ys.getD k 0 = (y : Int))
    (hv : low S k + 18446744073709551616 ^ k * c = low S0 k + d * low ys k) (hw : lo + 18446744073709551616 * hi = y * d + t + c) :
    low (S.set k (lo : Int)) (k + 1) + 18446744073709551616 ^ (k + 1) * hi = low S0 (k + 1) + d * low ys (k + 1) := by
  have e1 : low (S.set k (lo : Int)) (k + 1) = low S k + 18446744073709551616 ^ k * lo := by
    show low (S.set k (lo : Int)) k + _ * ((S.set k (lo : Int)).getD k 0).toNat = _
    rw [low_set S k _ k (Nat.le_refl _), getD_set S k k _ hk, if_pos rfl, Int.toNat_natCast]
  have e2 : low S0 (k + 1) = low S0 k + 18446744073709551616 ^ k * t := by show low S0 k + _ * (S0.getD k 0).toNat = _; rw [ht, Int.toNat_natCast]
  have e3 : low ys (k + 1) = low ys k + 18446744073709551616 ^ k * y := by show low ys k + _ * (ys.getD k 0).toNat = _; rw [hy, Int.toNat_natCast]
  have e4 := congrArg (18446744073709551616 ^ k * ·) hw
  simp only [Nat.mul_add] at e4
  have e5 : d * (18446744073709551616 ^ k * y) = 18446744073709551616 ^ k * (y * d) := by rw [Nat.mul_left_comm, Nat.mul_comm d y]
  rw [e1, e2, e3, Nat.mul_add, e5, Nat.pow_succ, Nat.mul_assoc]
  omega

end Go.Proofs.YtjapgogiaklodaaGreatDoor

namespace Go.Proofs.YtjapgogiaklodaaGreatDoor
open Go.RowKit

/-- The list with the words from place i on put in. -/
def spliceW (M : List Int) (i : Nat) (S : List Int) : List Int := M.take i ++ S ++ M.drop (i + S.length)
theorem splice_len (M : List Int) (i : Nat) (S : List Int) (h : i + S.length ≤ M.length) : (spliceW M i S).length = M.length := by
  unfold spliceW; simp only [List.length_append, List.length_take, List.length_drop]; omega
theorem splice_get (M : List Int) (i : Nat) (S : List Int) (h : i + S.length ≤ M.length) (j : Nat) : (spliceW M i S).getD j 0 = if j < i then M.getD j 0 else if j < i + S.length then S.getD (j - i) 0 else M.getD j 0 := by
  unfold spliceW
  simp only [List.getD, List.getElem?_append, List.length_append, List.length_take, List.getElem?_take, List.getElem?_drop]
  by_cases h1 : j < i
  · simp [h1, show j < min i M.length + S.length by omega, show j < min i M.length by omega]
  · by_cases h2 : j < i + S.length
    · simp [h1, h2, show min i M.length = i by omega]
    · simp [h1, h2, show min i M.length = i by omega, show i + S.length + (j - (i + S.length)) = j by omega]
theorem splice_U {M S : List Int} (hM : AllU M) (hS : AllU S) (i : Nat) : AllU (spliceW M i S) := fun x hx => by
  unfold spliceW at hx
  rcases List.mem_append.1 hx with h | h
  · rcases List.mem_append.1 h with h | h
    · exact hM x (List.mem_of_mem_take h)
    · exact hS x h
  · exact hM x (List.mem_of_mem_drop h)
theorem splice_val (M : List Int) (i : Nat) (S : List Int) (h : i + S.length ≤ M.length) : val (spliceW M i S) + 18446744073709551616 ^ i * val ((M.drop i).take S.length) = val M + 18446744073709551616 ^ i * val S := by
  have e1 : M = M.take i ++ ((M.drop i).take S.length ++ M.drop (i + S.length)) := by
    rw [← List.drop_drop, List.take_append_drop, List.take_append_drop]
  have e2 : val M = val (M.take i) + 18446744073709551616 ^ i * (val ((M.drop i).take S.length) + 18446744073709551616 ^ S.length * val (M.drop (i + S.length))) := by
    conv => lhs; rw [e1]
    rw [val_append, val_append, List.length_take, List.length_take, List.length_drop, show min i M.length = i by omega, show min S.length (M.length - i) = S.length by omega]
  have e3 : val (spliceW M i S) = val (M.take i) + 18446744073709551616 ^ i * (val S + 18446744073709551616 ^ S.length * val (M.drop (i + S.length))) := by
    unfold spliceW
    rw [List.append_assoc, val_append, val_append, List.length_take, show min i M.length = i by omega]
  rw [e2, e3, Nat.mul_add, Nat.mul_add]
  omega
theorem own_part {B g : Nat} {w : World} {N c : Nat} {M : List Int} (h : OwnW B w (some ⟨g, 0, none⟩) N c M) (i n c' : Nat) (hi : i + n ≤ N) (hc : n ≤ c') : OwnW B w (some ⟨g, i, none⟩) n c' ((M.drop i).take n) := by
  have hN := h.1.1
  refine ⟨⟨by rw [List.length_take, List.length_drop]; omega, (h.1.2.1.drop i).take n, ⟨hc, fun e => by cases e⟩, fun j hj => ?_⟩, fun b off j e hj => ?_⟩
  · obtain ⟨b, off, e1, e2, e3⟩ := h.1.2.2.2 (i + j) (by omega)
    simp only [Option.some.injEq, Addr.mk.injEq, and_true] at e1
    obtain ⟨rfl, rfl⟩ := e1
    refine ⟨g, i, rfl, e2, ?_⟩
    rw [Nat.zero_add] at e3
    rw [e3]
    simp only [List.getD, List.getElem?_take, hj, if_true, List.getElem?_drop]
  · simp only [Option.some.injEq, Addr.mk.injEq, and_true] at e
    obtain ⟨rfl, rfl⟩ := e
    have := h.2 g 0 (i + j) rfl (by omega)
    rw [Nat.zero_add] at this; exact this
theorem own_join {B g : Nat} {w w' : World} {N c : Nat} {M : List Int} (h : OwnW B w (some ⟨g, 0, none⟩) N c M) (i n c' : Nat) (S : List Int) (hi : i + n ≤ N) (hS : OwnW B w' (some ⟨g, i, none⟩) n c' S) (hup : Upd g i n w w') : OwnW B w' (some ⟨g, 0, none⟩) N c (spliceW M i S) := by
  have hN := h.1.1
  have hn := hS.1.1
  refine ⟨⟨by rw [splice_len M i S (by omega)]; exact hN, splice_U h.1.2.1 hS.1.2.1 i, h.1.2.2.1, fun j hj => ?_⟩, fun b off j e hj => ?_⟩
  · obtain ⟨b, off, e1, e2, e3⟩ := h.1.2.2.2 j hj
    simp only [Option.some.injEq, Addr.mk.injEq, and_true] at e1
    obtain ⟨rfl, rfl⟩ := e1
    refine ⟨g, 0, rfl, Nat.lt_of_lt_of_le e2 hup.grown.size, ?_⟩
    rw [splice_get M i S (by omega), Nat.zero_add]
    rw [Nat.zero_add] at e3
    by_cases h1 : j < i
    · rw [if_pos h1, hup.cell j (Or.inl h1)]; exact e3
    · rw [if_neg h1]
      by_cases h2 : j < i + S.length
      · rw [if_pos h2]
        obtain ⟨b', off', f1, _, f3⟩ := hS.1.2.2.2 (j - i) (by omega)
        simp only [Option.some.injEq, Addr.mk.injEq, and_true] at f1
        obtain ⟨rfl, rfl⟩ := f1
        rw [show i + (j - i) = j by omega] at f3
        exact f3
      · rw [if_neg h2, hup.cell j (Or.inr (by omega))]; exact e3
  · simp only [Option.some.injEq, Addr.mk.injEq, and_true] at e
    obtain ⟨rfl, rfl⟩ := e
    have := h.2 g 0 j rfl hj
    exact ⟨this.1, (hup.frozen (0 + j)).trans this.2⟩
theorem times_step (xs M S : List Int) (Y i lb x cr : Nat) (hl : i + lb < M.length) (hS : S.length = lb) (hx : xs.getD i 0 = (x : Int)) (hz : M.getD (i + lb) 0 = 0)
    (hv : val M = low xs i * Y) (hs : val S + 18446744073709551616 ^ lb * cr = val ((M.drop i).take lb) + x * Y) : val ((spliceW M i S).set (i + lb) (cr : Int)) = low xs (i + 1) * Y := by
  have e1 := splice_val M i S (by omega)
  have e2 := val_set (spliceW M i S) (i + lb) (cr : Int) (by rw [splice_len M i S (by omega)]; exact hl)
  rw [splice_get M i S (by omega), if_neg (by omega), if_neg (by omega), hz, Int.toNat_natCast, Int.toNat_zero, Nat.mul_zero, Nat.add_zero, Nat.pow_add] at e2
  have e3 : low xs (i + 1) = low xs i + 18446744073709551616 ^ i * x := by show low xs i + _ * (xs.getD i 0).toNat = _; rw [hx, Int.toNat_natCast]
  have e4 := congrArg (18446744073709551616 ^ i * ·) hs
  simp only [Nat.mul_add] at e4
  rw [hS] at e1
  rw [e2, e3, Nat.add_mul, ← hv, Nat.mul_assoc, Nat.mul_assoc]
  omega


/-- The product, or why there is none. -/
def mulR (u v : Nat) : Nat × Int := if (greatB u || greatB v) = true then (0, 3) else fitR (u * v)
theorem mulR_yes {u v : Nat} (h : (greatB u || greatB v) = true) : mulR u v = (0, 3) := by unfold mulR; rw [if_pos h]
theorem mulR_no {u v : Nat} (h : (greatB u || greatB v) = false) : mulR u v = fitR (u * v) := by unfold mulR; rw [if_neg (by rw [h]; decide)]
theorem mul_words_ge (u v n m : Nat) (hu : n = (wordsOf u).length) (hv : m = (wordsOf v).length) (h : 1024 < n + m - 1) (hn : n ≤ 1024) (hm : m ≤ 1024) : greatB (u * v) = true := by
  have a1 : ¬ u < 18446744073709551616 ^ (n - 1) := fun q => by have := (words_len (n - 1) u).2 q; omega
  have a2 : ¬ v < 18446744073709551616 ^ (m - 1) := fun q => by have := (words_len (m - 1) v).2 q; omega
  have h3 : 18446744073709551616 ^ (n - 1) * 18446744073709551616 ^ (m - 1) ≤ u * v := Nat.mul_le_mul (by omega) (by omega)
  rw [← Nat.pow_add] at h3
  unfold greatB
  rw [decide_eq_true_iff]
  rcases Nat.lt_or_ge 1024 (wordsOf (u * v)).length with q | q
  · exact q
  · have h4 := (words_len _ (u * v)).1 (Nat.le_refl _)
    have h5 : 18446744073709551616 ^ (wordsOf (u * v)).length ≤ 18446744073709551616 ^ (n - 1 + (m - 1)) := Nat.pow_le_pow_right (by decide) (by omega)
    generalize 18446744073709551616 ^ (wordsOf (u * v)).length = P at *
    generalize 18446744073709551616 ^ (n - 1 + (m - 1)) = Q at *
    omega

end Go.Proofs.YtjapgogiaklodaaGreatDoor

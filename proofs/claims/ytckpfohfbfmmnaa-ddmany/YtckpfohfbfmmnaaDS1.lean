/- Lists of floats that may be added: wrong, slices.IndexFunc, slices.ContainsFunc, slices.Grow of nil. -/
import Derived.Test.YtckpfohfbfmmnaaDD8
import Derived.Test.YtckpfohfbfmmnaaEList2
import Derived.Lib.AppendZerosOnto
import Derived.Lib.Walk
namespace Go.Proofs.Ytckpfohfbfmmnaa
open Go.RowKit EP
attribute [local go_sem] ran_store

set_option maxRecDepth 100000 in
set_option maxHeartbeats 1000000 in
theorem wrong_calls (x : Nat) (w : World) (hx : x < 18446744073709551616) :
    Calls Try.prog 84 #[.float .f64 x] w fun e w' => e = .returned (.bool (!rightP x 0)) ∧ Below w.heap.size w w' := by
  have HA : Hid _ := fun w => dRight_calls x 0 w hx
  clear hx
  generalize rightP x 0 = r at *
  go_enter Try.func84, Try.ntmps84
  go_wp2_with fail
  refine Calls.mono (HA.out _) ?_
  rintro e w1 ⟨rfl, b1⟩
  go_wp2_with fail
  go_ret
  exact ⟨rfl, b1⟩

/-- Are all right? -/
def okFs (xs : List Nat) : Bool := xs.all fun x => rightP x 0
def smallFs (xs : List Nat) : Prop := ∀ i, xs.getD i 0 < 18446744073709551616
theorem okFs_all (xs : List Nat) : okFs xs = true ↔ ∀ i, i < xs.length → rightP (xs.getD i 0) 0 = true := by
  unfold okFs
  rw [List.all_eq_true]
  constructor
  · intro h i hi
    have : xs.getD i 0 = xs[i] := by simp [List.getD, hi]
    rw [this]
    exact h _ (List.getElem_mem hi)
  · intro h x hx
    obtain ⟨i, hi, rfl⟩ := List.getElem_of_mem hx
    have := h i hi
    simpa [List.getD, hi] using this

set_option maxRecDepth 100000 in
set_option maxHeartbeats 2000000 in
theorem idx_calls (a : Option Addr) (len cap : Nat) (xs : List Nat) (w : World) (h : IsF w a len cap xs) (hs : smallFs xs) (hm : len ≤ 17592186044416) :
    Calls Try.prog 105 #[.slice a len cap, .func (.func 84) #[] #[]] w fun e w' => ∃ k : Int, e = .returned (.int .i64 k) ∧ Below w.heap.size w w' ∧ decide (0 ≤ k) = !okFs xs := by
  have HL : Hid (len = xs.length) := h.1
  have hcap := h.2.1.1
  go_enter Try.func105, Try.ntmps105
  go_wp2_with fail
  go_loopw [5, 8] (fun _ i wr => ∃ k : Nat, k ≤ len ∧ i = .int .i64 k ∧ Below w.heap.size w wr ∧ ∀ j, j < k → rightP (xs.getD j 0) 0 = true) (fun _ i _ => len - (intOf i).toNat)
  case atStart => exact ⟨0, by omega, rfl, Below.refl _ _, fun j hj => absurd hj (Nat.not_lt_zero _)⟩
  case round =>
    obtain ⟨k, hk, rfl, hbr, hrel⟩ := hrel
    have HR : Hid (∀ j, j < k → rightP (xs.getD j 0) 0 = true) := hrel
    clear hrel
    by_cases hlt : k < len
    · obtain ⟨bb, off, rfl, hbl, hc⟩ := (h.keep hbr).2.2 k hlt
      obtain ⟨x, hx⟩ : ∃ x, x = xs.getD k 0 := ⟨_, rfl⟩
      rw [← hx] at hc
      have HX : Hid (x = xs.getD k 0) := hx
      have HW : Hid _ := fun w => wrong_calls x w (by rw [hx]; exact hs k)
      clear hx
      cases hr : rightP x 0 with
      | true =>
        rw [hr] at HW
        go_wp2_with fail
        refine Calls.mono (HW.out _) ?_
        rintro e w2 ⟨rfl, hb2⟩
        have hb2' := ebelow_trans hbr hb2
        clear hb2
        go_wp2_with fail
        go_round
        case rel =>
          refine ⟨k + 1, by omega, by go_num, hb2', fun j hj => ?_⟩
          by_cases e : j = k
          · subst e; rw [← HX.out]; exact hr
          · exact HR.out j (by omega)
        case measure => simp [intOf]; omega
      | false =>
        rw [hr] at HW
        go_wp2_with fail
        refine Calls.mono (HW.out _) ?_
        rintro e w2 ⟨rfl, hb2⟩
        have hb2' := ebelow_trans hbr hb2
        clear hb2
        go_wp2_with fail
        go_ret
        refine ⟨_, rfl, hb2', ?_⟩
        have h1 : okFs xs = false := by
          cases ho : okFs xs with
          | false => rfl
          | true =>
            have := (okFs_all xs).1 ho k (by rw [← HL.out]; exact hlt)
            rw [← HX.out, hr] at this; cases this
        rw [h1]
        exact decide_eq_true (by omega)
    · have hkl : k = len := by omega
      subst hkl
      go_wp2_with fail
      go_ret
      refine ⟨_, rfl, hbr, ?_⟩
      rw [(okFs_all xs).2 (fun i hi => HR.out i (by rw [HL.out]; exact hi))]
      rfl

set_option maxRecDepth 100000 in
set_option maxHeartbeats 1000000 in
theorem contains_calls (a : Option Addr) (len cap : Nat) (xs : List Nat) (w : World) (h : IsF w a len cap xs) (hs : smallFs xs) (hm : len ≤ 17592186044416) :
    Calls Try.prog 98 #[.slice a len cap, .func (.func 84) #[] #[]] w fun e w' => e = .returned (.bool (!okFs xs)) ∧ Below w.heap.size w w' := by
  have HA : Hid _ := idx_calls a len cap xs w h hs hm
  clear h hs hm
  generalize okFs xs = r at *
  go_enter Try.func98, Try.ntmps98
  go_wp2_with fail
  refine Calls.mono HA.out ?_
  rintro e w1 ⟨k, rfl, b1, H1⟩
  have H1' : Hid (decide (0 ≤ k) = !r) := H1
  clear H1
  go_wp2_with fail
  go_ret
  exact ⟨by rw [← H1'.out]; rfl, b1⟩

set_option maxRecDepth 100000 in
set_option maxHeartbeats 2000000 in
theorem grow0_calls (n : Nat) (w : World) (hn : n ≤ 4096) :
    Calls Try.prog 106 #[.slice none 0 0, .int .i64 (n : Int)] w fun e w' => ∃ a cv, e = .returned (.slice a 0 cv) ∧ OwF w.heap.size w' a cv [] ∧ Below w.heap.size w w' := by
  obtain ⟨i0, hi, hz0, hz1, hz2⟩ := info_parts float_info
  by_cases h0 : n = 0
  · subst h0
    go_enter Try.func106, Try.ntmps106
    go_wp2_with fail
    go_ret
    exact ⟨none, 0, rfl, owF_nil _ _, Below.refl _ _⟩
  · have hpos : (0 : Int) < (n : Int) := by omega
    have hold : (Builtin.firstCells i0.size 0 (.slice none 0 0)).run Try.prog w.drew = .ok ([] : List Value).toArray w.drew := run_firstCells_none w.drew i0.size 0 0 0
    have hrz : ∀ ty, _ := fun ty => Lib.run_append_grow_zeros w 29 3 ty 22 i0 (.float .f64 0) .i64 .i64 Try.underlying29 Try.underlying3 hi hz0 none 0 0 [] hold n (by omega) (by rw [hz1]; decide) (by omega) (by omega) (by rw [hz2]; omega) (by rw [hz2]; exact growslice_fits (by omega) (by omega))
    rw [Nat.zero_add] at hrz
    obtain ⟨G, hG⟩ : ∃ G, G = grownCap w n 0 22 := ⟨_, rfl⟩
    have hGn : n ≤ grownCap w n 0 22 := grownCap_ge w _ _ _
    have hG63 := grownCap_le_maxLen w n 0 22 (by unfold maxLen; omega)
    rw [← hG] at hrz hGn hG63
    have hsz : (([] : List Value).toArray ++ Builtin.zeroCells (Value.float .f64 0).cells n ++ Builtin.zeroCells (Value.float .f64 0).cells (G - n)).size = G * 1 := by
      simp [Builtin.zeroCells, Value.cells]
      omega
    generalize ([] : List Value).toArray ++ Builtin.zeroCells (Value.float .f64 0).cells n ++ Builtin.zeroCells (Value.float .f64 0).cells (G - n) = X at *
    have hO : OwF w.heap.size (w.drew.alloc (.cells X 22)) (some ⟨w.heap.size, 0, none⟩) G [] := World.ownsRow_made w.drew X G (Nat.le_refl _) hG63 hsz
    clear hsz hG hold
    unfold maxLen at hG63
    go_enter Try.func106, Try.ntmps106
    go_wp2_with (at_builtin; refine Lib.wpList_append_run _ rfl _ _ _ _ rfl _ _ rfl rfl _ _ (hrz _) ?_)
    all_goals (go_ret; exact ⟨_, _, rfl, hO, (Below.refl _ _).drew.alloc (Nat.le_refl _) _⟩)

theorem isF_news' {w : World} {ad : Addr} {n c : Nat} {xs : List Nat} (h : IsF w (some ad) n c xs) : ∀ j u, (xs.map (Value.float .f64))[j]? = some u → w.cell? (ad.add j) = some u := by
  intro j u hj
  have hjl : j < n := by
    have := (List.getElem?_eq_some_iff.1 hj).1
    simp at this; have := h.1; omega
  obtain ⟨b2, off2, e2, _, q2⟩ := h.2.2 j hjl
  simp only [Option.some.injEq] at e2
  subst e2
  have hu : u = .float .f64 (xs.getD j 0) := by
    simp only [List.getElem?_map] at hj
    have hj2 : xs[j]? = some (xs.getD j 0) := by
      rw [List.getElem?_eq_getElem (by have := h.1; omega)]; simp [List.getD, show j < xs.length by have := h.1; omega]
    rw [hj2] at hj
    simpa using hj.symm
  rw [hu]
  by_cases h0 : j = 0
  · subst h0; simpa [Addr.add] using q2
  · simpa [Addr.add, h0] using q2

/-- An append of a whole list, nil or not, behind a row of the call's own. -/
theorem app_isF {w : World} {ops : Array Oper} {rest : List Oper} {o : Oper} {act : Act} {Q : Exit → Act → World → Prop} (hgd : o.guard = none) (s x : Operand)
    (ho : o.op = .call { callee := .builtin .append, args := #[s, x], argTypes := #[29, 29] })
    (B : Nat) (ao : Option Addr) (cv : Nat) (L : List Nat) (hs : act.eval s = .slice ao L.length cv) (hown : OwF B w ao cv L)
    (bo : Option Addr) (m c : Nat) (ys : List Nat) (hx : act.eval x = .slice bo m c) (hF : IsF w bo m c ys) (hm : L.length + m ≤ 17592186044416) (hB : B ≤ w.heap.size)
    (h : ∀ a' cv' w', OwF B w' a' cv' (L ++ ys) → Below B w w' → wpList Try.prog ops Q rest (act.put o.dst (.slice a' (L ++ ys).length cv')) w') : wpList Try.prog ops Q (o :: rest) act w := by
  obtain ⟨i0, hi, hz0, hz1, hz2⟩ := info_parts float_info
  cases bo with
  | none =>
    have hc0 := hF.2.1.2 rfl
    have hm0 : m = 0 := by have := hF.2.1.1; omega
    have hy : ys = [] := List.length_eq_zero_iff.1 (by rw [← hF.1]; exact hm0)
    subst hc0 hm0 hy
    refine wpList_append_own_none hgd s x _ ho B 22 i0 1 Try.underlying29 hi _ _ _ hs hown hx ?_
    have := h ao cv w (by rw [List.append_nil]; exact hown) (Below.refl _ _)
    rw [List.append_nil] at this
    exact this
  | some ad =>
    refine wpList_append_own w hgd s x _ ho B 22 i0 (.float .f64 0) 1 8 Try.underlying29 hi hz0 hz1 hz2 rfl (by decide) _ _ _ hs hown ad m c (ys.map (Value.float .f64)) hx (by rw [List.length_map, ← hF.1, Nat.mul_one]) (isF_news' hF) (fun u hu => by simp only [List.mem_map] at hu; obtain ⟨y, _, rfl⟩ := hu; rfl) (by unfold maxLen; omega) (by omega) hB ?_
    intro v' w' hown' hgrow _
    have hb : Below B w w' := (Below.refl B w).grown hgrow hB (fun q hq => (hown.lt q hq).1)
    have hlen : (L ++ ys).length = L.length + m := by rw [List.length_append, hF.1]
    obtain ⟨a', cv', hv⟩ : ∃ a' cv', v' = .slice a' (L.length + m) cv' := by
      rcases hown'.2 with ⟨e1, e2⟩ | ⟨g, cap, _, e1, _⟩
      · exact ⟨none, 0, by rw [e1, e2]⟩
      · exact ⟨_, cap, e1⟩
    subst hv
    have hO : OwF B w' a' cv' (L ++ ys) := by
      unfold OwF
      rw [hlen, List.map_append]
      exact hown'
    have := h a' cv' w' hO hb
    rw [hlen] at this
    exact this
end Go.Proofs.Ytckpfohfbfmmnaa

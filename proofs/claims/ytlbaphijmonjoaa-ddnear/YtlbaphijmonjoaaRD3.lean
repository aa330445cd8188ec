/- The document's dyadic numbers, third part: Same, Copy. -/
import Derived.Test.YtlbaphijmonjoaaRD2
import Derived.Laws.AppendOwnNone
namespace Go.Proofs.Ytlbaphijmonjoaa
open Go.RowKit

/-- Are two numbers the same, field by field? -/
def sameB (s : Bool) (e : Int) (xs : List Int) (s' : Bool) (e' : Int) (ys : List Int) : Bool := decide (s = s' ∧ e = e' ∧ xs = ys)
theorem sameB_self (s : Bool) (e : Int) (xs : List Int) : sameB s e xs s e xs = true := decide_eq_true ⟨rfl, rfl, rfl⟩

theorem DyQ.openQ {B : Nat} {w : World} {v : Value} {p : Bool × Nat × Int} (h : DyQ B w v p) : ∃ (ao : Option Addr) (n c : Nat), v = dyV p.1 ao n c p.2.2 ∧ Hid (n = (wordsOf p.2.1).length) ∧ IsW w ao n c (wordsOf p.2.1) := by
  obtain ⟨ao, n, c, h1, h2, h3⟩ := h
  exact ⟨ao, n, c, h1, h2, h3.1⟩

theorem ownN_lit (w : World) (k : Nat) (hk : k = w.heap.size) : Own k (w.alloc (.cells #[] 47)) (some ⟨k, 0, none⟩) 0 [] := by
  subst hk
  exact ⟨rfl, Or.inr ⟨w.heap.size, 0, #[], rfl, Nat.le_refl _, heap_alloc_new _ _, Nat.le_refl _, by unfold maxLen; omega, rfl, rfl⟩⟩
theorem isW_news' {w : World} {ad : Addr} {n c : Nat} {xs : List Int} (h : IsW w (some ad) n c xs) : ∀ j u, (xs.map (Value.int .u64))[j]? = some u → w.cell? (ad.add j) = some u := isW_news h
/-- An append of a list of words, nil or not, behind a new list. -/
theorem appN_new {w : World} {ops : Array Oper} {rest : List Oper} {o : Oper} {act : Act} {Q : Exit → Act → World → Prop} (hgd : o.guard = none) (s x : Operand)
    (ho : o.op = .call { callee := .builtin .append, args := #[s, x], argTypes := #[28, 28] })
    (k : Nat) (w0 : World) (hw : w = w0.alloc (.cells #[] 47)) (hk : k = w0.heap.size) (hs : act.eval s = .slice (some ⟨k, 0, none⟩) 0 0)
    (bo : Option Addr) (m c : Nat) (ys : List Int) (hx : act.eval x = .slice bo m c) (hF : IsW w0 bo m c ys) (hm : m ≤ 17592186044416)
    (h : ∀ a' cv' w', OwnW w0.heap.size w' a' m cv' ys → Below w0.heap.size w0 w' → wpList Try.prog ops Q rest (act.put o.dst (.slice a' m cv')) w') : wpList Try.prog ops Q (o :: rest) act w := by
  subst hw
  obtain ⟨i0, hi, hz0, hz1, hz2⟩ := info_parts word_info
  have hown : (w0.alloc (.cells #[] 47)).ownsRow w0.heap.size 47 1 (.slice (some ⟨k, 0, none⟩) 0 0) 0 [] := by rw [hk]; exact ownN_lit w0 _ rfl
  cases bo with
  | none =>
    have hc0 := hF.2.2.1.2 rfl
    have hm0 : m = 0 := by have := hF.2.2.1.1; omega
    have hy : ys = [] := List.length_eq_zero_iff.1 (by rw [← hF.1]; exact hm0)
    subst hc0 hm0 hy
    refine wpList_append_own_none hgd s x _ ho w0.heap.size 47 i0 1 Try.underlying28 hi _ _ _ hs hown hx ?_
    exact h _ _ _ (Own.ownW (L := []) (by rw [hk]; exact ownN_lit w0 _ rfl) (fun x hx => by cases hx) rfl) (below_one _ _)
  | some ad =>
    refine wpList_append_own _ hgd s x _ ho w0.heap.size 47 i0 (.int .u64 0) 1 8 Try.underlying28 hi hz0 hz1 hz2 rfl (by decide) _ _ _ hs hown ad m c (ys.map (Value.int .u64)) hx (by rw [List.length_map, ← hF.1, Nat.mul_one]) (isW_news' (hF.keep (below_one _ _))) (fun u hu => by simp only [List.mem_map] at hu; obtain ⟨y, _, rfl⟩ := hu; rfl) (by unfold maxLen; omega) (by omega) (by simp) ?_
    intro v' w' hown' hgrow _
    have hb : Below w0.heap.size w0 w' := (below_one w0 _).trans ((Below.refl _ _).grown hgrow (by simp) (fun q hq => (hown.lt q hq).1))
    obtain ⟨a', cv', hv⟩ : ∃ a' cv', v' = .slice a' m cv' := by
      rcases hown'.2 with ⟨e1, e2⟩ | ⟨g, cap, _, e1, _⟩
      · exact ⟨none, 0, by rw [e1, show m = 0 by omega]⟩
      · exact ⟨_, cap, by rw [e1, Nat.zero_add]⟩
    subst hv
    have hO : Own w0.heap.size w' a' cv' ys := by
      unfold Own
      rw [← hF.1]
      rw [Nat.zero_add, List.nil_append] at hown'
      exact hown'
    exact h a' cv' w' (hO.ownW hF.2.1 hF.1.symm) hb

end Go.Proofs.Ytlbaphijmonjoaa

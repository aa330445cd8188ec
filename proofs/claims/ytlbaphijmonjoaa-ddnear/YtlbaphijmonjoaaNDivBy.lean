/- The walk of the division of a natural by one word, in place. -/
import Derived.Test.YtlbaphijmonjoaaNDivW2
import Derived.Test.YtlbaphijmonjoaaTMB
namespace Go.Proofs.Ytlbaphijmonjoaa
open Go.RowKit


theorem below_grown {w w' : World} (h : Below w.heap.size w w') (row : Option Nat) : w.grownBy w' row := ⟨h.os, h.tape, h.output, h.size, fun k hk _ => h.block k hk⟩
theorem set_grown (w : World) (p : Addr) (u : Value) : w.grownBy (w.setCell p u) (some p.block) := ⟨rfl, rfl, rfl, by simp, fun k _ hne => Below.heap_setCell _ _ _ _ (fun e => hne (by rw [e]))⟩
theorem grown_refl (w : World) (row : Option Nat) : w.grownBy w row := ⟨rfl, rfl, rfl, Nat.le_refl _, fun _ _ _ => rfl⟩
theorem IsW.grown {w w' : World} {a : Option Addr} {len cap : Nat} {xs : List Int} {row : Option Nat} (h : IsW w a len cap xs) (hg : w.grownBy w' row) (hne : ∀ b off, a = some ⟨b, off, none⟩ → some b ≠ row) : IsW w' a len cap xs := by
  refine ⟨h.1, h.2.1, h.2.2.1, fun i hi => ?_⟩
  obtain ⟨b, off, e1, e2, e3⟩ := h.2.2.2 i hi
  exact ⟨b, off, e1, Nat.lt_of_lt_of_le e2 hg.size, hg.cell e3 (hne b off e1)⟩
theorem OwnW.grown {B : Nat} {w w' : World} {a : Option Addr} {len cap : Nat} {xs : List Int} {row : Option Nat} (h : OwnW B w a len cap xs) (hg : w.grownBy w' row) (hne : ∀ b off, a = some ⟨b, off, none⟩ → some b ≠ row) : OwnW B w' a len cap xs := by
  refine ⟨h.1.grown hg hne, fun b off i e hi => ?_⟩
  obtain ⟨b2, off2, e1, e2, _⟩ := h.1.2.2.2 i hi
  rw [e] at e1
  simp only [Option.some.injEq, Addr.mk.injEq, and_true] at e1
  obtain ⟨rfl, rfl⟩ := e1
  exact ⟨(h.2 b off i e hi).1, (World.frozen?_of_block (a := ⟨b, off + i, none⟩) (hg.block b e2 (hne b off e))).trans (h.2 b off i e hi).2⟩

theorem word_nat0 (xs : List Int) (h : AllU xs) (k : Nat) : ∃ x : Nat, xs.getD k 0 = (x : Int) ∧ x < 18446744073709551616 := by
  have := h.get k
  exact ⟨(xs.getD k 0).toNat, by omega, by omega⟩
theorem drop_val (xs : List Int) (k : Nat) (hk : k < xs.length) : val (xs.drop k) = (xs.getD k 0).toNat + 18446744073709551616 * val (xs.drop (k + 1)) := by
  rw [List.drop_eq_getElem_cons hk]
  show (xs[k]).toNat + _ = _
  simp [List.getD, hk]
theorem drop_set_val (M : List Int) (k : Nat) (v : Int) (hk : k < M.length) : val ((M.set k v).drop k) = v.toNat + 18446744073709551616 * val (M.drop (k + 1)) := by
  rw [drop_val _ k (by rw [List.length_set]; exact hk), getD_set M k k v hk, if_pos rfl]
  congr 3
  rw [List.drop_set, if_pos (by omega)]
theorem divBy_step (H D x r d : Nat) (hd : 0 < d) (hD : D = H / d) (hr : r = H % d) : (r * 18446744073709551616 + x) / d + 18446744073709551616 * D = (x + 18446744073709551616 * H) / d ∧ (r * 18446744073709551616 + x) % d = (x + 18446744073709551616 * H) % d := by
  have e := Nat.div_add_mod H d
  rw [← hD, ← hr] at e
  have e2 : x + 18446744073709551616 * H = (r * 18446744073709551616 + x) + d * (18446744073709551616 * D) := by
    rw [← e, Nat.mul_add, Nat.mul_left_comm]; omega
  rw [e2, Nat.add_mul_div_left _ _ hd, Nat.add_mul_mod_self_left]
  exact ⟨rfl, rfl⟩
theorem quo_word (r x d : Nat) (hr : r < d) (hx : x < 18446744073709551616) : (r * 18446744073709551616 + x) / d < 18446744073709551616 := by
  rw [Nat.div_lt_iff_lt_mul (by omega)]
  have := Nat.mul_le_mul_left 18446744073709551616 (show r + 1 ≤ d from hr)
  rw [Nat.mul_add] at this
  omega

end Go.Proofs.Ytlbaphijmonjoaa

/- Lists of words in memory: made, and one word set. -/
import Derived.Test.YtfmjgagajlhfoaaDoorNProg1
import Derived.Laws.OwnMore
import Derived.OwnWalk
namespace Go.Proofs.YtfmjgagajlhfoaaDoor
open Go.RowKit

theorem IsW.other {w : World} {a : Option Addr} {len cap : Nat} {xs : List Int} (h : IsW w a len cap xs) (p : Addr) (u : Value) (hp : ∀ b off, a = some ⟨b, off, none⟩ → p.block ≠ b) : IsW (w.setCell p u) a len cap xs := by
  refine ⟨h.1, h.2.1, h.2.2.1, fun i hi => ?_⟩
  obtain ⟨b, off, e1, e2, e3⟩ := h.2.2.2 i hi
  refine ⟨b, off, e1, by rw [World.size_setCell]; exact e2, ?_⟩
  exact (World.cell?_setCell_other (w := w) (a := p) (b := ⟨b, off + i, none⟩) (v := u) (fun e => hp b off e1 (by rw [e]))).trans e3
theorem OwnW.other {B : Nat} {w : World} {a : Option Addr} {len cap : Nat} {xs : List Int} (h : OwnW B w a len cap xs) (p : Addr) (u : Value) (hp : ∀ b off, a = some ⟨b, off, none⟩ → p.block ≠ b) : OwnW B (w.setCell p u) a len cap xs := by
  refine ⟨h.1.other p u hp, fun b off i e hi => ?_⟩
  rw [World.frozen?_setCell]
  exact h.2 b off i e hi
theorem OwnW.set {B g off : Nat} {w : World} {len cap : Nat} {xs : List Int} (h : OwnW B w (some ⟨g, off, none⟩) len cap xs) {i : Nat} (hi : i < len) {v : Int} (h0 : 0 ≤ v) (h1 : v ≤ 18446744073709551615) :
    OwnW B (w.setCell ⟨g, off + i, none⟩ (.int .u64 v)) (some ⟨g, off, none⟩) len cap (xs.set i v) := by
  refine ⟨⟨by rw [List.length_set]; exact h.1.1, h.1.2.1.set h0 h1, h.1.2.2.1, fun j hj => ?_⟩, fun b off' j e hj => ?_⟩
  · obtain ⟨b, o, e1, e2, e3⟩ := h.1.2.2.2 j hj
    simp only [Option.some.injEq, Addr.mk.injEq, and_true] at e1
    obtain ⟨rfl, rfl⟩ := e1
    refine ⟨g, off, rfl, by rw [World.size_setCell]; exact e2, ?_⟩
    rw [getD_set xs i j v (by have := h.1.1; omega)]
    by_cases hij : i = j
    · subst hij; rw [if_pos rfl]; exact World.cell?_setCell_same w _ _ e3
    · rw [if_neg hij]; exact (World.cell?_setCell_other (w := w) (a := ⟨g, off + i, none⟩) (b := ⟨g, off + j, none⟩) (v := .int .u64 v) (fun e => hij (Nat.add_left_cancel (congrArg Addr.off e)))).trans e3
  · rw [World.frozen?_setCell]
    exact h.2 b off' j e hj
theorem words_T : Tryd.prog.underlying 46 = some (.slice 39) := Tryd.underlying46
theorem nat_T : Tryd.prog.underlying 23 = some (.slice 39) := Tryd.underlying23
theorem own_zeros {B : Nat} {w : World} {n : Nat} (g : Nat) (h : w.ownsRow B 39 1 (.slice (some ⟨g, 0, none⟩) n n) n (madeCells (Value.int .u64 0).cells (n * 1)).toList) : OwnW B w (some ⟨g, 0, none⟩) n n (zeros n) := by
  have e : (madeCells (Value.int .u64 0).cells (n * 1)).toList = (zeros n).map (Value.int .u64) := by
    rw [show (Value.int .u64 0).cells = #[Value.int .u64 0] from rfl, toList_madeCells_one, Nat.mul_one, zeros, List.map_replicate]
  have hO : Own B w (some ⟨g, 0, none⟩) n (zeros n) := by
    unfold Own; rw [zeros_len, ← e]; exact h
  exact hO.ownW (zeros_U n) (zeros_len n)
/-- make of so many words, of either type of list. -/
theorem make_words (t : TypeId) (ht : Tryd.prog.underlying t = some (.slice 39)) (w : World) (n : Nat) (hn : n ≤ 17592186044416) :
    ∃ w1, (Instr.makeSlice t (.int .i64 (n : Int)) (.int .i64 (n : Int))).run Tryd.prog w = .ok (.slice (some ⟨w.heap.size, 0, none⟩) n n) w1 ∧ OwnW w.heap.size w1 (some ⟨w.heap.size, 0, none⟩) n n (zeros n) ∧ Below w.heap.size w w1 ∧ w.heap.size < w1.heap.size := by
  obtain ⟨i0, hi, hz0, hz1, hz2⟩ := info_parts word_info
  obtain ⟨w', h1, h2, h3⟩ := run_make_full (P := Tryd.prog) w w.heap.size t 39 i0 (.int .u64 0) 1 ht hi hz0 hz1 .i64 .i64 n (by rw [hz2]; omega) (by unfold maxLen; omega) (Nat.le_refl _)
  refine ⟨w', h1, own_zeros _ h2, (Below.refl _ _).grown h3 (Nat.le_refl _) (fun q hq => by cases hq), ?_⟩
  rcases h2.2 with ⟨e, _⟩ | ⟨g, cap, cur, e, _, hh, _⟩
  · cases e
  · simp only [Value.slice.injEq, Option.some.injEq, Addr.mk.injEq, and_true] at e
    obtain ⟨rfl, _⟩ := e.1
    exact (Array.getElem?_eq_some_iff.1 hh).1
end Go.Proofs.YtfmjgagajlhfoaaDoor

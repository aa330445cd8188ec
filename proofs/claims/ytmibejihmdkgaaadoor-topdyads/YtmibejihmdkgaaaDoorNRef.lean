/- The walks of the document's answers for layer 3 (package ulpref03), first part: words, sameness, size, the one form, order. -/
import Derived.Test.YtmibejihmdkgaaaDoorRows
import Derived.Test.YtmibejihmdkgaaaDoorNPure
import Derived.WalkSpells
import Derived.WalkLawsBesides
import Derived.Deep.QuietTactic
import Derived.BigQuiet
import Derived.Maps.AppendAt
import Derived.Laws.AppendOwnNone
namespace Go.Proofs.YtmibejihmdkgaaaDoor
open Go.RowKit

/-- A slice of words that can be read: its elements are xs. -/
def IsW (w : World) (a : Option Addr) (len cap : Nat) (xs : List Int) : Prop :=
  len = xs.length ∧ AllU xs ∧ (len ≤ cap ∧ (a = none → cap = 0)) ∧ ∀ i, i < len → ∃ b off, a = some ⟨b, off, none⟩ ∧ b < w.heap.size ∧ w.cell? ⟨b, off + i, none⟩ = some (.int .u64 (xs.getD i 0))
theorem IsW.keep {w w' : World} {a : Option Addr} {len cap : Nat} {xs : List Int} (h : IsW w a len cap xs) (hb : Below w.heap.size w w') : IsW w' a len cap xs := by
  obtain ⟨h1, h2, h4, h3⟩ := h
  refine ⟨h1, h2, h4, fun i hi => ?_⟩
  obtain ⟨b, off, e1, e2, e3⟩ := h3 i hi
  exact ⟨b, off, e1, Nat.lt_of_lt_of_le e2 hb.size, (hb.cell (p := ⟨b, off + i, none⟩) e2).trans e3⟩
/-- A slice of words in memory from block B on, of the call's own. -/
def Own (B : Nat) (w : World) (a : Option Addr) (cv : Nat) (L : List Int) : Prop :=
  w.ownsRow B 40 1 (.slice a L.length cv) L.length (L.map (Value.int .u64))
theorem Own.isW {B cv : Nat} {w : World} {a : Option Addr} {L : List Int} (h : Own B w a cv L) (hU : AllU L) : IsW w a L.length cv L := by
  refine ⟨rfl, hU, ?_, fun i hi => ?_⟩
  · rcases h.2 with ⟨hv, h0⟩ | ⟨g, cap, cur, hv, _, _, hn, _⟩
    · simp only [Value.slice.injEq] at hv
      exact ⟨by omega, fun _ => hv.2.2⟩
    · simp only [Value.slice.injEq] at hv
      exact ⟨by omega, fun e => by rw [hv.1] at e; cases e⟩
  rcases h.2 with ⟨_, h0⟩ | ⟨g, cap, cur, hv, _⟩
  · omega
  · have hao : a = some ⟨g, 0, none⟩ := by
      simp only [Value.slice.injEq] at hv
      exact hv.1
    subst hao
    have hc := h.cells (g := g) rfl i (.int .u64 (L.getD i 0)) (by simp [hi])
    have hc' : w.cell? ⟨g, 0 + i, none⟩ = some (.int .u64 (L.getD i 0)) := by
      by_cases h0 : i = 0
      · subst h0; simpa [Addr.add] using hc
      · simpa [Addr.add, h0] using hc
    exact ⟨g, 0, rfl, World.block_lt_of_cell? _ _ hc', hc'⟩
theorem Own.low {B B' cv : Nat} {w : World} {a : Option Addr} {L : List Int} (h : Own B w a cv L) (hB : B' ≤ B) : Own B' w a cv L := by
  refine ⟨h.1, ?_⟩
  rcases h.2 with h0 | ⟨g, cap, cur, hv, hg, r⟩
  · exact Or.inl h0
  · exact Or.inr ⟨g, cap, cur, hv, Nat.le_trans hB hg, r⟩
theorem nret_int {k : IntKind} {a b : Int} (h : a = b) : Ending.returned (.int k a) = .returned (.int k b) := by rw [h]
theorem nret_bool {a b : Bool} (h : a = b) : Ending.returned (.bool a) = .returned (.bool b) := by rw [h]
theorem nbelow_trans {a b c : World} (h : Below a.heap.size a b) (k : Below b.heap.size b c) : Below a.heap.size a c := h.trans (k.mono h.size)

theorem word_info : (Tryd.prog.info? 40).map (fun i => (i.zero, i.size, i.bytes)) = some (some (.int .u64 0), 1, 8) := by kernel_rfl
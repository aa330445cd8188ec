/- The walks of the document's sums and differences of naturals. -/
import Derived.Test.YtfplfljjphhfgaaTMA
namespace Go.Proofs.Ytfplfljjphhfgaa
open Go.RowKit

theorem Own.isW' {B cv n : Nat} {w : World} {a : Option Addr} {L : List Int} (h : Own B w a cv L) (hU : AllU L) (hn : L.length = n) : IsW w a n cv L := by
  subst hn; exact h.isW hU
theorem own_snoc {B k : Nat} {w : World} {v : Value} {L : List Int} {s : Int} (hk : L.length = k) (h : w.ownsRow B 46 1 v (k + 1) (L.map (Value.int .u64) ++ [.int .u64 s])) :
    ∃ g cap, v = .slice (some ⟨g, 0, none⟩) (k + 1) cap ∧ Own B w (some ⟨g, 0, none⟩) cap (L ++ [s]) := by
  obtain ⟨g3, cap3, hv3⟩ : ∃ g3 cap3, v = .slice (some ⟨g3, 0, none⟩) (k + 1) cap3 := by
    rcases h.2 with ⟨_, h⟩ | ⟨g3, cap3, _, h, _⟩
    · omega
    · exact ⟨g3, cap3, h⟩
  subst hv3
  refine ⟨g3, cap3, rfl, ?_⟩
  unfold Own; rw [List.map_append, List.length_append, hk]; exact h




end Go.Proofs.Ytfplfljjphhfgaa

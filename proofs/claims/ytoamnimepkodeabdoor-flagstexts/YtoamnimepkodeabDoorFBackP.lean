/- Plain facts for the statement FlagsBack: the flags of a byte one by one; texts there and back. -/
import Derived.Test.YtoamnimepkodeabDoorFBegins
import Derived.Test.YtoamnimepkodeabDoorFEach
namespace Go.Proofs.YtoamnimepkodeabDoor
open Go.RowKit

def allK (f : Int) (k : Nat) : Int := ((eachK f 5).take k).foldl orV 0
theorem each_ok0 : ∀ n : Fin 256, ∀ k : Fin 5, k.val < (eachK (n.val : Int) 5).length →
    1 ≤ (eachK (n.val : Int) 5).getD k.val 0 ∧ (eachK (n.val : Int) 5).getD k.val 0 ≤ 16 ∧ bits .and .u8 ((eachK (n.val : Int) 5).getD k.val 0) (allK (n.val : Int) k.val) = 0 ∧
    bits .and .u8 ((eachK (n.val : Int) 5).getD k.val 0) ((eachK (n.val : Int) 5).getD k.val 0 - 1) = 0 ∧ orV (allK (n.val : Int) k.val) ((eachK (n.val : Int) 5).getD k.val 0) = allK (n.val : Int) (k.val + 1) := by decide +kernel
theorem each_ok (f : Int) (hf : F f) (k : Nat) (hk : k < (eachK f 5).length) (x al : Int) (hx : x = (eachK f 5).getD k 0) (ha : al = allK f k) :
    1 ≤ x ∧ x ≤ 16 ∧ bits .and .u8 x al = 0 ∧ bits .and .u8 x (x - 1) = 0 ∧ orV al x = allK f (k + 1) := by
  subst hx ha
  have h5 := each_len f 5
  exact byte_all (p := fun f => ∀ k : Fin 5, k.val < (eachK f 5).length → 1 ≤ (eachK f 5).getD k.val 0 ∧ (eachK f 5).getD k.val 0 ≤ 16 ∧ bits .and .u8 ((eachK f 5).getD k.val 0) (allK f k.val) = 0 ∧
    bits .and .u8 ((eachK f 5).getD k.val 0) ((eachK f 5).getD k.val 0 - 1) = 0 ∧ orV (allK f k.val) ((eachK f 5).getD k.val 0) = allK f (k.val + 1)) each_ok0 f hf ⟨k, by omega⟩ hk
theorem all_end (f : Int) (hf : F f) : allK f (eachK f 5).length = andV f 31 :=
  byte_all (p := fun f => allK f (eachK f 5).length = andV f 31) (by decide +kernel) f hf
theorem parse_show0 : ∀ n : Fin 256, (parseE (showS (n.val : Int)) == 0) = rightB (n.val : Int) ∧ (rightB (n.val : Int) = true → parseV (showS (n.val : Int)) = (n.val : Int)) := by decide +kernel
theorem parse_show (f : Int) (hf : F f) : (parseE (showS f) == 0) = rightB f ∧ (rightB f = true → parseV (showS f) = f) :=
  byte_all (p := fun f => (parseE (showS f) == 0) = rightB f ∧ (rightB f = true → parseV (showS f) = f)) parse_show0 f hf
theorem parse_back (s : ByteArray) : (parseE s = 0 ∧ ((showS (parseV s)).toList == s.toList) = true) ∨ (parseE s = 20 ∧ parseV s = 0) := by
  unfold parseE parseV
  cases h : findK s 32 with
  | none => exact Or.inr ⟨rfl, rfl⟩
  | some j => exact Or.inl ⟨rfl, (findK_lt s j 32 h).2⟩

/-- What the law's loop knows of the list that Each gave. -/
def IsList (w : World) (ao : Option Addr) (L : List Int) : Prop := ∀ j, j < L.length → ∃ g, ao = some ⟨g, 0, none⟩ ∧ w.cell? ⟨g, j, none⟩ = some (.int .u8 (L.getD j 0))
theorem isList_of {w : World} {B cv : Nat} {t : TypeId} {ao : Option Addr} {L : List Int} (h : w.ownsRow B t 1 (.slice ao L.length cv) L.length (L.map (Value.int .u8))) : IsList w ao L := by
  intro j hj
  rcases h.2 with ⟨_, h0⟩ | ⟨g, cap, cur, hv, _⟩
  · omega
  · have hao : ao = some ⟨g, 0, none⟩ := by
      simp only [Value.slice.injEq] at hv
      exact hv.1
    subst hao
    refine ⟨g, rfl, ?_⟩
    have := h.cells (g := g) rfl j (.int .u8 (L.getD j 0)) (by simp [hj])
    by_cases h0 : j = 0
    · subst h0; simpa [Addr.add] using this
    · simpa [Addr.add, h0] using this
end Go.Proofs.YtoamnimepkodeabDoor

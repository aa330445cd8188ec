/- A list of steps that came in: each step's kind and flags lie in its two cells. -/
import Derived.Test.YtoamnimepkodeabDoorLayF
import Derived.Test.YtoamnimepkodeabDoorFStepsW
import Derived.Deep.SlicePairs
namespace Go.Proofs.YtoamnimepkodeabDoor
open Go.ChangeShapes Go.WideShapes Go.ChangeAt Go.RowKit

theorem step_cells : Tryd.prog.cellsOf 56 = 2 := by kernel_rfl
theorem kind_cells : Tryd.prog.cellsOf 54 = 1 := by kernel_rfl
theorem flags_cells : Tryd.prog.cellsOf 34 = 1 := by kernel_rfl
theorem open_steps {H : Type} {enc : TypeId × Value → H} {W : World} {base : Nat} {v : Value} {d : DataW H} {p : List MemPlace}
    (hv : Value.okWide Tryd.prog W .any base 47 v) (h : DataW.Trod enc Tryd.prog W 0 (fun _ => true) true 47 v d p) :
    ∃ (a : Option Addr) (l c : Nat) (zk zf : Nat → Int), v = .slice a l c ∧ IsSteps W a l zk zf := by
  obtain ⟨a, l, c, rfl⟩ := okWide_slice Tryd.underlying47 hv
  obtain ⟨fuel, hf⟩ := h
  rcases Go.Deep.open_slice_pairs Tryd.underlying47 Tryd.underlying56 step_cells rfl rfl kind_cells flags_cells hf with ⟨hcs, _⟩ | ⟨x, l', c', mm, n, V0, V1, D0, D1, P0, P1, hcs, _, hl, hm, hz, _, hel⟩
  · simp [Value.cells] at hcs
    obtain ⟨rfl, rfl, rfl⟩ := hcs
    exact ⟨none, 0, 0, fun _ => 0, fun _ => 0, rfl, Nat.zero_le _, fun i hi => absurd hi (Nat.not_lt_zero _)⟩
  · simp [Value.cells] at hcs
    obtain ⟨rfl, rfl, rfl⟩ := hcs
    have hz' : mm = c := by simpa using hz
    refine ⟨some x, l, c, fun i => intOf (V0 i), fun i => intOf (V1 i), rfl, Nat.le_trans hl hm, fun i hi => ?_⟩
    obtain ⟨b, off, spot⟩ := x
    have hspot : spot = none := by simpa [Addr.add] using World.cell?_spot (hel 0 (by omega)).1
    subst hspot
    obtain ⟨e0, e1, r0, r1⟩ := hel i (by omega)
    obtain ⟨k, k1, _, wk⟩ := DataW.trod_int Tryd.underlying54 r0
    obtain ⟨f, f1, _, wf⟩ := DataW.trod_int Tryd.underlying34 r1
    simp at k1 f1
    have q0 : W.cell? ⟨b, off + i * 2, none⟩ = some (V0 i) := by
      by_cases h0 : i = 0
      · subst h0; simpa [Addr.add] using e0
      · have h2 : ¬ i * 2 = 0 := by omega
        simpa [Addr.add, h2] using e0
    have q1 : W.cell? ⟨b, off + i * 2 + 1, none⟩ = some (V1 i) := by
      have := e1
      simpa [Addr.add, Nat.add_assoc] using this
    show ∃ b' off', _ ∧ _ ∧ _ ∧ _ ∧ F (intOf (V0 i)) ∧ F (intOf (V1 i))
    rw [k1] at q0
    rw [f1] at q1
    refine ⟨b, off, rfl, World.block_lt_of_cell? _ _ q0, ?_, ?_, ?_, ?_⟩
    · rw [q0]; show some (Value.int .u8 k) = some (Value.int .u8 (intOf (V0 i))); rw [k1]; rfl
    · rw [q1]; show some (Value.int .u8 f) = some (Value.int .u8 (intOf (V1 i))); rw [f1]; rfl
    · rw [k1]; exact F_of wk
    · rw [f1]; exact F_of wf
end Go.Proofs.YtoamnimepkodeabDoor

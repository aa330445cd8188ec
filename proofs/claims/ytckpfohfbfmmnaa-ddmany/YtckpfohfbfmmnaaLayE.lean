/- What the rows' conditions give: floats and lists of floats that came in. -/
import Derived.Test.YtckpfohfbfmmnaaEList
import Derived.ProofKit
import Derived.LaidMore
import Derived.OpenShut
import Derived.Stop.Joined
import Derived.SizedLaws
import Derived.Deep.Slices
import Derived.Deep.DeepHandedRow
namespace Go.Proofs.Ytckpfohfbfmmnaa
open Go.ChangeShapes Go.WideShapes Go.ChangeAt Go.RowKit

theorem own : ownKnob Try.prog.godebug = none := by kernel_rfl
theorem laidOut : laidOutB Try.prog = true := by kernel_rfl
theorem f64_cells : Try.prog.cellsOf 22 = 1 := by kernel_rfl
theorem f64_bytes : Try.prog.bytesOf 22 = 8 := by kernel_rfl
/-- How long a list is that came in, by what its reading says. -/
def LenBy {H : Type} (d : DataW H) (l : Nat) : Prop := (d = .nil ∧ l = 0) ∨ ∃ es sp, d = .slice es sp ∧ l ≤ es.length + sp.length
theorem isF_nil (w : World) : IsF w none 0 0 [] := ⟨rfl, ⟨Nat.le_refl _, fun _ => rfl⟩, fun i hi => by omega⟩
theorem trod_float {H : Type} {enc : TypeId × Value → H} {W : World} {base : Nat} {spare : Nat → Bool} {held : Bool} {fuel : Nat} {v : Value} {x : DataW H × List MemPlace}
    (h : DataW.trod enc Try.prog W base spare held fuel 22 [v] = some x) : ∃ b, v = .float .f64 b := by
  cases fuel with
  | zero => simp [DataW.trod] at h
  | succ n =>
    cases v <;> simp [DataW.trod, Try.underlying22] at h
    rename_i k b
    exact ⟨b, by cases k <;> simp_all⟩
set_option maxRecDepth 100000 in
theorem open_floats {H : Type} {enc : TypeId × Value → H} {W : World} {base : Nat} {v : Value} {d : DataW H} {p : List MemPlace}
    (hv : Value.okWide Try.prog W .any base 29 v) (h : DataW.Trod enc Try.prog W 0 (fun _ => true) true 29 v d p) :
    ∃ (a : Option Addr) (l c : Nat) (xs : List Nat), v = .slice a l c ∧ IsF W a l c xs ∧ LenBy d l := by
  obtain ⟨a, l, c, rfl⟩ := okWide_slice Try.underlying29 hv
  obtain ⟨fuel, hf⟩ := h
  rcases Go.Deep.open_slice1 Try.underlying29 f64_cells hf with ⟨hcs, hd⟩ | ⟨x, l', c', m, n, V, D, Pl, hcs, _, hl, hm, hmm, hd, hx⟩
  · simp [Value.cells] at hcs
    obtain ⟨rfl, rfl, rfl⟩ := hcs
    simp only [Prod.mk.injEq] at hd
    exact ⟨none, 0, 0, [], rfl, isF_nil W, Or.inl ⟨hd.1, rfl⟩⟩
  · simp [Value.cells] at hcs
    obtain ⟨rfl, rfl, rfl⟩ := hcs
    simp only [if_true] at hmm
    subst hmm
    obtain ⟨B, hB⟩ := Go.Deep.choose_lt (α := Nat) (p := fun i b => V i = .float .f64 b) (fun i hi => trod_float (hx i hi).2)
    simp only [Prod.mk.injEq] at hd
    refine ⟨some x, l, m, (List.range l).map B, rfl, ⟨by simp, ⟨hl, fun e => by cases e⟩, fun i hi => ?_⟩, Or.inr ⟨_, _, hd.1, by simp⟩⟩
    obtain ⟨b, off, spot⟩ := x
    have hc := (hx i (by omega)).1
    rw [hB i (by omega)] at hc
    have hspot : spot = none := by simpa [Addr.add] using World.cell?_spot ((hx 0 (by omega)).1)
    subst hspot
    have hc0 : W.cell? ⟨b, off + i, none⟩ = some (.float .f64 (B i)) := by
      by_cases h0 : i = 0
      · subst h0; simpa [Addr.add] using hc
      · simpa [Addr.add, h0] using hc
    refine ⟨b, off, rfl, World.block_lt_of_cell? _ _ hc0, ?_⟩
    rw [hc0]
    simp [List.getD, hi]
theorem len_bulk {H : Type} {ds : List (DataW H)} (h : Rows.uptoBulkAll ds ≤ 1048576) {d : DataW H} {l : Nat} (hd : d ∈ ds) (hl : LenBy d l) : l ≤ 1048576 := by
  have len_le : ∀ l : List (DataW H), l.length ≤ Rows.uptoBulkAll l := fun l => by
    induction l with
    | nil => simp [Rows.uptoBulkAll]
    | cons x r ih =>
      have : 1 ≤ Rows.uptoBulk x := by
        cases x with
        | lit l => cases l <;> simp [Rows.uptoBulk]
        | _ => simp [Rows.uptoBulk]
      simp only [Rows.uptoBulkAll, List.length_cons]; omega
  have part : ∀ l : List (DataW H), d ∈ l → Rows.uptoBulk d ≤ Rows.uptoBulkAll l := fun l => by
    induction l with
    | nil => intro h; cases h
    | cons x r ih =>
      intro h
      simp only [Rows.uptoBulkAll]
      rcases List.mem_cons.1 h with e | e
      · subst e; omega
      · have := ih e; omega
  rcases hl with ⟨_, rfl⟩ | ⟨es, sp, rfl, hle⟩
  · omega
  · have h1 := part ds hd
    have h2 := len_le es
    have h3 := len_le sp
    simp only [Rows.uptoBulk] at h1
    omega
theorem bulk_of {H : Type} {l : List (DataW H)} (hk : Rows.uptoSmall H l = true) : Rows.uptoBulkAll l ≤ 1048576 := of_decide_eq_true hk
end Go.Proofs.Ytckpfohfbfmmnaa

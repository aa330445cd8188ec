/- Lists of floats that came in, at a seat that holds the flags' table, too. -/
import Derived.Test.YtjapgogiaklodaaGreatDoorHFB
import Derived.Test.YtjapgogiaklodaaGreatDoorLayT
import Derived.ProofKit
import Derived.LaidMore
import Derived.OpenShut
import Derived.Stop.Joined
import Derived.Lib.SmallJoins
import Derived.SizedLaws
import Derived.Deep.Slices
import Derived.Deep.DeepHandedRow
namespace Go.Proofs.YtjapgogiaklodaaGreatDoor
open Go.ChangeShapes Go.WideShapes Go.ChangeAt Go.RowKit

theorem f64_cells : Tryz.prog.cellsOf 24 = 1 := by kernel_rfl
theorem f64_bytes : Tryz.prog.bytesOf 24 = 8 := by kernel_rfl
theorem isF_nil (w : World) : Fp.IsF w none 0 0 [] := ⟨rfl, ⟨Nat.le_refl _, fun _ => rfl⟩, fun i hi => by omega⟩
theorem trod_float64 {H : Type} {enc : TypeId × Value → H} {W : World} {base : Nat} {spare : Nat → Bool} {held : Bool} {fuel : Nat} {v : Value} {x : DataW H × List MemPlace}
    (h : DataW.trod enc Tryz.prog W base spare held fuel 24 [v] = some x) : ∃ b, v = .float .f64 b ∧ b < 18446744073709551616 := by
  cases fuel with
  | zero => simp [DataW.trod] at h
  | succ n =>
    cases v <;> simp [DataW.trod, Tryz.underlying24] at h
    rename_i k b
    obtain ⟨⟨rfl, hw⟩, -⟩ := h
    exact ⟨b, rfl, by simpa [Lit.wf] using hw⟩
set_option maxRecDepth 100000 in
theorem open_floats64 {H : Type} {enc : TypeId × Value → H} {W : World} {base : Nat} {v : Value} {d : DataW H} {p : List MemPlace}
    (hv : Value.okWide Tryz.prog W .any base 22 v) (h : DataW.Trod enc Tryz.prog W 0 (fun _ => true) true 22 v d p) :
    ∃ (a : Option Addr) (l c : Nat) (xs : List Nat), v = .slice a l c ∧ Fp.IsF W a l c xs ∧ Fp.smallFs xs ∧ LenBy d l := by
  obtain ⟨a, l, c, rfl⟩ := okWide_slice Tryz.underlying22 hv
  obtain ⟨fuel, hf⟩ := h
  rcases Go.Deep.open_slice1 Tryz.underlying22 f64_cells hf with ⟨hcs, hd⟩ | ⟨x, l', c', m, n, V, D, Pl, hcs, _, hl, hm, hmm, hd, hx⟩
  · simp [Value.cells] at hcs
    obtain ⟨rfl, rfl, rfl⟩ := hcs
    simp only [Prod.mk.injEq] at hd
    exact ⟨none, 0, 0, [], rfl, isF_nil W, fun i => by simp, Or.inl ⟨hd.1, rfl⟩⟩
  · simp [Value.cells] at hcs
    obtain ⟨rfl, rfl, rfl⟩ := hcs
    simp only [if_true] at hmm
    subst hmm
    obtain ⟨B, hB⟩ := Go.Deep.choose_lt (α := Nat) (p := fun i b => V i = .float .f64 b ∧ b < 18446744073709551616) (fun i hi => trod_float64 (hx i hi).2)
    simp only [Prod.mk.injEq] at hd
    refine ⟨some x, l, m, (List.range l).map B, rfl, ⟨by simp, ⟨hl, fun e => by cases e⟩, fun i hi => ?_⟩, fun i => ?_, Or.inr ⟨_, _, hd.1, by simp⟩⟩
    · obtain ⟨b, off, spot⟩ := x
      have hc := (hx i (by omega)).1
      rw [(hB i (by omega)).1] at hc
      have hspot : spot = none := by simpa [Addr.add] using World.cell?_spot ((hx 0 (by omega)).1)
      subst hspot
      have hc0 : W.cell? ⟨b, off + i, none⟩ = some (.float .f64 (B i)) := by
        by_cases h0 : i = 0
        · subst h0; simpa [Addr.add] using hc
        · simpa [Addr.add, h0] using hc
      refine ⟨b, off, rfl, World.block_lt_of_cell? _ _ hc0, ?_⟩
      rw [hc0]
      simp [List.getD, hi]
    · by_cases hi : i < l
      · have := (hB i (by omega)).2
        simpa [List.getD, hi] using this
      · simp [List.getD, hi]
theorem len_sizedF {H : Type} {ts : List TypeId} {ds : List (DataW H)} (h : (DataW.weightsEach Tryz.prog ts ds).all (· ≤ reachBytes) = true) {j : Nat} {d : DataW H} {l : Nat} (ht : ts[j]? = some 22) (hd : ds[j]? = some d) (hl : LenBy d l) : l ≤ 17592186043904 := by
  rcases hl with ⟨_, rfl⟩ | ⟨es, sp, rfl, hle⟩
  · omega
  · have := sized_slice h ht hd Tryz.underlying22
    rw [f64_bytes] at this
    unfold reachBytes at this
    omega
end Go.Proofs.YtjapgogiaklodaaGreatDoor

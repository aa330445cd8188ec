/- One operation on floats, whatever they are: where it has no number for an answer, its bits are drawn. -/
import Derived.Test.YtckpfohfbfmmnaaEPure
import Derived.Test.YtckpfohfbfmmnaaChecked
import Derived.RowKit
import Derived.Tactics
import Derived.Tactics2
import Derived.StillTactics
import Derived.Below
import Derived.KernelRfl
import Derived.WalkLawsBesides
namespace Go.Proofs.Ytckpfohfbfmmnaa
open Go.RowKit

/-- Nothing but the count of draws has turned. -/
def Dr (w w' : World) : Prop := ∃ n, w' = { w with drawn := w.drawn + n }
theorem Dr.refl (w : World) : Dr w w := ⟨0, rfl⟩
theorem Dr.trans {a b c : World} (h : Dr a b) (k : Dr b c) : Dr a c := by
  obtain ⟨n, rfl⟩ := h
  obtain ⟨m, rfl⟩ := k
  exact ⟨n + m, by simp [Nat.add_assoc]⟩
theorem Dr.heap {w w' : World} (h : Dr w w') : w'.heap = w.heap := by obtain ⟨n, rfl⟩ := h; rfl
theorem Dr.below {w w' : World} (h : Dr w w') (B : Nat) : Below B w w' := by
  obtain ⟨n, rfl⟩ := h
  exact ⟨rfl, rfl, rfl, Nat.le_refl _, fun _ _ => rfl⟩

/-- What an operation on floats comes to, and the world behind it. -/
def fv (op : BinOp) (x y : Nat) (w : World) : Nat :=
  match floatBits op .f64 x y with
  | some r => r
  | none => (Question.nanBits .f64 x y).cut (w.tape w.drawn (.nanBits .f64 x y))
def fw (op : BinOp) (x y : Nat) (w : World) : World :=
  match floatBits op .f64 x y with
  | some _ => w
  | none => w.drew

theorem fw_dr (op : BinOp) (x y : Nat) (w : World) : Dr w (fw op x y w) := by
  unfold fw
  split
  · exact Dr.refl w
  · exact ⟨1, rfl⟩

theorem run_fl (P : Program) (op : BinOp) (hop : op = .add ∨ op = .sub ∨ op = .mul ∨ op = .quo) (t : TypeId) (x y : Nat) (w : World) :
    (binOp op t (.float .f64 x) (.float .f64 y)).run P w = .ok (.float .f64 (fv op x y w)) (fw op x y w) := by
  unfold fv fw
  cases h : floatBits op .f64 x y with
  | some r => exact run_float_arith w op t .f64 x y r h
  | none =>
    unfold floatBits at h
    rcases hop with rfl | rfl | rfl | rfl <;> simp only at h <;> simp [binOp, Op.floatArith, h] <;> (intro hf; cases hf)

theorem run_add (P : Program) (t : TypeId) (x y : Nat) (w : World) : (binOp .add t (.float .f64 x) (.float .f64 y)).run P w = .ok (.float .f64 (fv .add x y w)) (fw .add x y w) := run_fl P .add (by simp) t x y w
theorem run_sub (P : Program) (t : TypeId) (x y : Nat) (w : World) : (binOp .sub t (.float .f64 x) (.float .f64 y)).run P w = .ok (.float .f64 (fv .sub x y w)) (fw .sub x y w) := run_fl P .sub (by simp) t x y w
theorem run_mul (P : Program) (t : TypeId) (x y : Nat) (w : World) : (binOp .mul t (.float .f64 x) (.float .f64 y)).run P w = .ok (.float .f64 (fv .mul x y w)) (fw .mul x y w) := run_fl P .mul (by simp) t x y w
theorem run_quo (P : Program) (t : TypeId) (x y : Nat) (w : World) : (binOp .quo t (.float .f64 x) (.float .f64 y)).run P w = .ok (.float .f64 (fv .quo x y w)) (fw .quo x y w) := run_fl P .quo (by simp) t x y w

theorem fv_eq {op : BinOp} {x y r : Nat} (h : EP.fo op x y = some r) (w : World) : fv op x y w = r := by
  unfold EP.fo at h
  unfold fv
  cases e : floatBits op .f64 x y with
  | none => rw [e] at h; cases h
  | some q =>
    rw [e] at h
    have h' : (if EP.finB q then some q else none) = some r := h
    split at h'
    · cases h'; rfl
    · cases h'
theorem fw_eq {op : BinOp} {x y r : Nat} (h : EP.fo op x y = some r) (w : World) : fw op x y w = w := by
  unfold EP.fo at h
  unfold fw
  cases e : floatBits op .f64 x y with
  | none => rw [e] at h; cases h
  | some q => rfl
end Go.Proofs.Ytckpfohfbfmmnaa

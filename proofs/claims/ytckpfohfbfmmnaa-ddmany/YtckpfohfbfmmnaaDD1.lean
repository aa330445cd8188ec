/- Pairs of floats (package dd): laws on their operations; the steps of the books, of program and document. -/
import Derived.Test.YtckpfohfbfmmnaaEBound
import Derived.Test.YtckpfohfbfmmnaaEList
import Derived.Laws.StructEq
import Derived.Laws.Externs
import Derived.Deep.Draws
namespace Go.Proofs.Ytckpfohfbfmmnaa
open Go.RowKit EP

def fk (op : BinOp) (x y : Nat) : Nat := match floatBits op .f64 x y with | some _ => 0 | none => 1
theorem fw_fk (op : BinOp) (x y : Nat) (w : World) : fw op x y w = w.drewN (fk op x y) := by
  unfold fw fk
  cases floatBits op .f64 x y <;> rfl
theorem ran_add (P : Program) (t : TypeId) (x y : Nat) (w : World) : (binOp .add t (.float .f64 x) (.float .f64 y)).run P w = .ok (.float .f64 (fv .add x y w)) (w.drewN (fk .add x y)) := by rw [run_add, fw_fk]
theorem ran_sub (P : Program) (t : TypeId) (x y : Nat) (w : World) : (binOp .sub t (.float .f64 x) (.float .f64 y)).run P w = .ok (.float .f64 (fv .sub x y w)) (w.drewN (fk .sub x y)) := by rw [run_sub, fw_fk]
theorem ran_mul (P : Program) (t : TypeId) (x y : Nat) (w : World) : (binOp .mul t (.float .f64 x) (.float .f64 y)).run P w = .ok (.float .f64 (fv .mul x y w)) (w.drewN (fk .mul x y)) := by rw [run_mul, fw_fk]
theorem ran_quo (P : Program) (t : TypeId) (x y : Nat) (w : World) : (binOp .quo t (.float .f64 x) (.float .f64 y)).run P w = .ok (.float .f64 (fv .quo x y w)) (w.drewN (fk .quo x y)) := by rw [run_quo, fw_fk]
theorem ran_neg (P : Program) (x : Nat) (w : World) : (Op.unary .neg (.float .f64 x)).run P w = .ok (.float .f64 (Op.negFloat .f64 x)) w := rfl
theorem ran_store (P : Program) (w : World) (a : Addr) (m : Mode) (k : FloatKind) (b : Nat) : (store a (.float k b) m).run P w = stored P w a (.float k b) m := run_store P w a _ m rfl
attribute [local go_sem] ran_store
theorem Dr.ex {w w' : World} (h : Dr w w') : ∃ n, w' = w.drewN n := h
theorem eqF (P : Program) (t : TypeId) (d x y : Nat) (w : World) (ht : P.underlying t = some (.float .f64)) : (Op.equalIn (d + 1) t (.float .f64 x) (.float .f64 y)).run P w = .ok (Ieee.double.order x y == some .eq) w := by
  simp [Op.equalIn, run_underlying ht, Op.floatEq]
  rfl

/-- A pair comes back. -/
def Pr (w : World) (o : Option (Nat × Nat)) (e : Ending) (w' : World) : Prop :=
  ∃ s t, e = .returned (.agg #[.float .f64 s, .float .f64 t]) ∧ Below w.heap.size w w' ∧ ∀ p, o = some p → s = p.1 ∧ t = p.2
def sumP (xh xl yh yl : Nat) : Option (Nat × Nat) :=
  (twoSumO xh yh).bind fun st => (twoSumO xl yl).bind fun uv => (fo .add st.2 uv.1).bind fun c => (fastO st.1 c).bind fun ab => (fo .add uv.2 ab.2).bind fun d => fastO ab.1 d
def prodP (xh xl yh yl : Nat) : Option (Nat × Nat) :=
  (twoProdO xh yh).bind fun ce => (fo .mul xh yl).bind fun f => (fo .mul xl yh).bind fun g => (fo .add f g).bind fun h => (fo .add ce.2 h).bind fun i => fastO ce.1 i
def byP (xh xl k : Nat) : Option (Nat × Nat) :=
  (twoProdO xh k).bind fun ce => (fo .mul xl k).bind fun f => (fastO ce.1 f).bind fun ab => (fo .add ab.2 ce.2).bind fun d => fastO ab.1 d
def quoP (xh xl yh yl : Nat) : Option (Nat × Nat) :=
  (fo .quo xh yh).bind fun q => (byP yh yl q).bind fun r => (fo .sub xh r.1).bind fun a => (fo .sub xl r.2).bind fun b => (fo .add a b).bind fun c => (fo .quo c yh).bind fun d => fastO q d
theorem pcarry {w w' : World} {p : Addr} {v : Value} (hb : Below w.heap.size w w') (h : w.cell? p = some v) : w'.cell? p = some v := (hb.cell (World.block_lt_of_cell? _ _ h)).trans h
theorem pcarryF {w w' : World} {p : Addr} {v : Value} {b : Bool} (hb : Below w.heap.size w w') (h : w.cell? p = some v) (hf : w.frozen? p = b) : w'.frozen? p = b := (hb.frozen (World.block_lt_of_cell? _ _ h)).trans hf

set_option maxRecDepth 100000 in
set_option maxHeartbeats 1000000 in
theorem less_calls (h l : Nat) (w : World) :
    Calls Try.prog 59 #[.agg #[.float .f64 h, .float .f64 l]] w (Pr w (some (Op.negFloat .f64 h, Op.negFloat .f64 l))) := by
  have r5 := ran_neg Try.prog
  go_enter Try.func59, Try.ntmps59
  go_wp2_with fail
  exact bodyPost_ret (v := .agg #[.float .f64 (Op.negFloat .f64 h), .float .f64 (Op.negFloat .f64 l)]) (by simp [results, Try.results59, go_sem]) rfl ⟨_, _, rfl, by repeat (first | exact Below.refl _ _ | refine Below.alloc ?_ (by simp; try omega) _), fun p hp => by cases hp; exact ⟨rfl, rfl⟩⟩

set_option maxRecDepth 100000 in
set_option maxHeartbeats 1000000 in
theorem dfast_calls (h l : Nat) (w : World) :
    Calls Try.prog 100 #[.float .f64 h, .float .f64 l] w (Pr w (fastO h l)) := by
  go_enter Try.func100, Try.ntmps100
  go_wp2_with fail
  refine Calls.mono (fast_calls h l _) ?_
  rintro e w1 ⟨s, t, rfl, d1, H1⟩
  obtain ⟨n1, rfl⟩ := d1.ex
  clear d1
  go_wp2_with fail
  refine bodyPost_ret (v := .agg #[.float .f64 s, .float .f64 t]) (by simp [results, Try.results100, go_sem]) rfl ⟨_, _, rfl, ?_, H1⟩
  repeat (first | exact Below.refl _ _ | assumption | refine below_drewN ?_ _ | refine Below.setCell ?_ (by simp; try omega) _ | refine Below.alloc ?_ (by simp; try omega) _)

set_option maxRecDepth 100000 in
set_option maxHeartbeats 2000000 in
theorem dsum_calls (xh xl yh yl : Nat) (w : World) :
    Calls Try.prog 72 #[.agg #[.float .f64 xh, .float .f64 xl], .agg #[.float .f64 yh, .float .f64 yl]] w (Pr w (sumP xh xl yh yl)) := by
  have r1 := ran_add Try.prog
  go_enter Try.func72, Try.ntmps72
  go_wp2_with fail
  refine Calls.mono (twoSum_calls xh yh _) ?_
  rintro e w1 ⟨s, t, rfl, d1, H1⟩
  obtain ⟨n1, rfl⟩ := d1.ex
  clear d1
  have H1' : Hid (∀ p, twoSumO xh yh = some p → s = p.1 ∧ t = p.2) := H1
  clear H1
  go_wp2_with fail
  refine Calls.mono (twoSum_calls xl yl _) ?_
  rintro e w2 ⟨u, v, rfl, d2, H2⟩
  obtain ⟨n2, rfl⟩ := d2.ex
  clear d2
  have H2' : Hid (∀ p, twoSumO xl yl = some p → u = p.1 ∧ v = p.2) := H2
  clear H2
  go_wp2_with fail
  refine Calls.mono (fast_calls s _ _) ?_
  rintro e w3 ⟨a, b, rfl, d3, H3⟩
  obtain ⟨n3, rfl⟩ := d3.ex
  clear d3
  have H3' : Hid (∀ p, fastO s _ = some p → a = p.1 ∧ b = p.2) := H3
  clear H3
  go_wp2_with fail
  refine Calls.mono (dfast_calls a _ _) ?_
  rintro e w4 ⟨x, y, rfl, b4, H4⟩
  have H4' : Hid (∀ p, fastO a _ = some p → x = p.1 ∧ y = p.2) := H4
  clear H4
  have m0 : w4.cell? ⟨w.heap.size + 1 + 1, 0, none⟩ = some (.float .f64 0) := pcarry b4 (by go_simp)
  have m1 : w4.cell? ⟨w.heap.size + 1 + 1, 1, none⟩ = some (.float .f64 0) := pcarry b4 (by go_simp)
  have k0 : w4.frozen? ⟨w.heap.size + 1 + 1, 0, none⟩ = false := pcarryF (v := .float .f64 0) b4 (by go_simp) (by go_simp)
  have k1 : w4.frozen? ⟨w.heap.size + 1 + 1, 1, none⟩ = false := pcarryF (v := .float .f64 0) b4 (by go_simp) (by go_simp)
  have bw : Below w.heap.size w w4 := Below.trans (by repeat (first | exact Below.refl _ _ | assumption | refine below_drewN ?_ _ | refine Below.setCell ?_ (by simp; try omega) _ | refine Below.alloc ?_ (by simp; try omega) _)) (b4.mono (by simp; omega))
  clear b4
  go_wp2_with fail
  refine bodyPost_ret (v := .agg #[.float .f64 x, .float .f64 y]) (by simp [results, Try.results72, go_sem, m0, m1]) rfl ⟨_, _, rfl, by repeat (first | exact Below.refl _ _ | assumption | refine below_drewN ?_ _ | refine Below.setCell ?_ (by simp; try omega) _ | refine Below.alloc ?_ (by simp; try omega) _), ?_⟩
  intro p hp
  simp only [sumP, Option.bind_eq_some_iff] at hp
  obtain ⟨st, e1, uv, e2, c, e3, ab, e4, d, e5, e6⟩ := hp
  obtain ⟨rfl, rfl⟩ := H1'.out _ e1
  obtain ⟨rfl, rfl⟩ := H2'.out _ e2
  obtain ⟨rfl, rfl⟩ := H3'.out _ (by rw [fv_eq e3]; exact e4)
  exact H4'.out _ (by rw [fv_eq e5]; exact e6)
end Go.Proofs.Ytckpfohfbfmmnaa

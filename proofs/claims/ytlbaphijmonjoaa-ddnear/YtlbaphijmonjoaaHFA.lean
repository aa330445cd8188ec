/- One operation on floats, whatever they are: where it has no number for an answer, its bits are drawn. The walks of the steps without an error (packages eft and ulpref07): whatever the floats, two floats come back; where each operation has a finite answer, they are what the steps come to. Of floats of some size the steps without an error have finite answers of some size. Lists of floats in memory; the walks of eft's small functions and of Grow. Pairs of floats (package dd): laws on their operations; the steps of the books, of program and document. The other steps of the books, of program (dd) and document (ulpref08). Which floats are moderate: what the document's test tells of a float. Pairs: differences; which are right. Which pairs are right: the document's. -/
import Derived.Test.YtlbaphijmonjoaaEPure
import Derived.Test.YtlbaphijmonjoaaChecked
import Derived.RowKit
import Derived.Tactics
import Derived.Tactics2
import Derived.StillTactics
import Derived.Below
import Derived.KernelRfl
import Derived.WalkLawsBesides
import Derived.Handy
import Derived.Test.YtlbaphijmonjoaaRows
import Derived.WalkSpells
import Derived.Deep.QuietTactic
import Derived.BigQuiet
import Derived.Maps.AppendAt
import Derived.Laws.AppendOwnNone
import Derived.Laws.MakeOwn
import Derived.Laws.OwnMore
import Derived.OwnWalk
import Derived.LoopN
import Derived.Laws.StructEq
import Derived.Laws.Externs
import Derived.Deep.Draws
import Derived.Deep.RegionWith
import Derived.Laws.BitsAllLaws
namespace Go.Proofs.Ytlbaphijmonjoaa.Fp

section

open Go.RowKit


/-- Nothing but the count of draws has turned. -/
def Dr (w w' : World) : Prop := ∃ n, w' = { w with drawn := w.drawn + n }
theorem Dr.refl (w : World) : Dr w w := ⟨0, rfl⟩
theorem Dr.trans {a b c : World} (h : Dr a b) (k : Dr b c) : Dr a c := by
  obtain ⟨n, rfl⟩ := h
  obtain ⟨m, rfl⟩ := k
  exact ⟨n + m, by simp [Nat.add_assoc]⟩
theorem Dr.heap {w w' : World} (h : Dr w w') : w'.heap = w.heap := by obtain ⟨n, rfl⟩ := h; rfl
theorem Dr.below {w w' : World} (h : Dr w w') (B : Nat) : Below B w w' := by
  obtain ⟨n, rfl⟩ := h
  exact ⟨rfl, rfl, rfl, Nat.le_refl _, fun _ _ => rfl⟩

/-- What an operation on floats comes to, and the world behind it. -/
def fv (op : BinOp) (x y : Nat) (w : World) : Nat :=
  match floatBits op .f64 x y with
  | some r => r
  | none => (Question.nanBits .f64 x y).cut (w.tape w.drawn (.nanBits .f64 x y))
def fw (op : BinOp) (x y : Nat) (w : World) : World :=
  match floatBits op .f64 x y with
  | some _ => w
  | none => w.drew

theorem fw_dr (op : BinOp) (x y : Nat) (w : World) : Dr w (fw op x y w) := by
  unfold fw
  split
  · exact Dr.refl w
  · exact ⟨1, rfl⟩

theorem run_fl (P : Program) (op : BinOp) (hop : op = .add ∨ op = .sub ∨ op = .mul ∨ op = .quo) (t : TypeId) (x y : Nat) (w : World) :
    (binOp op t (.float .f64 x) (.float .f64 y)).run P w = .ok (.float .f64 (fv op x y w)) (fw op x y w) := by
  unfold fv fw
  cases h : floatBits op .f64 x y with
  | some r => exact run_float_arith w op t .f64 x y r h
  | none =>
    unfold floatBits at h
    rcases hop with rfl | rfl | rfl | rfl <;> simp only at h <;> simp [binOp, Op.floatArith, h] <;> (intro hf; cases hf)

theorem run_add (P : Program) (t : TypeId) (x y : Nat) (w : World) : (binOp .add t (.float .f64 x) (.float .f64 y)).run P w = .ok (.float .f64 (fv .add x y w)) (fw .add x y w) := run_fl P .add (by simp) t x y w
theorem run_sub (P : Program) (t : TypeId) (x y : Nat) (w : World) : (binOp .sub t (.float .f64 x) (.float .f64 y)).run P w = .ok (.float .f64 (fv .sub x y w)) (fw .sub x y w) := run_fl P .sub (by simp) t x y w
theorem run_mul (P : Program) (t : TypeId) (x y : Nat) (w : World) : (binOp .mul t (.float .f64 x) (.float .f64 y)).run P w = .ok (.float .f64 (fv .mul x y w)) (fw .mul x y w) := run_fl P .mul (by simp) t x y w
theorem run_quo (P : Program) (t : TypeId) (x y : Nat) (w : World) : (binOp .quo t (.float .f64 x) (.float .f64 y)).run P w = .ok (.float .f64 (fv .quo x y w)) (fw .quo x y w) := run_fl P .quo (by simp) t x y w

theorem fv_eq {op : BinOp} {x y r : Nat} (h : EP.fo op x y = some r) (w : World) : fv op x y w = r := by
  unfold EP.fo at h
  unfold fv
  cases e : floatBits op .f64 x y with
  | none => rw [e] at h; cases h
  | some q =>
    rw [e] at h
    have h' : (if EP.finB q then some q else none) = some r := h
    split at h'
    · cases h'; rfl
    · cases h'
theorem fw_eq {op : BinOp} {x y r : Nat} (h : EP.fo op x y = some r) (w : World) : fw op x y w = w := by
  unfold EP.fo at h
  unfold fw
  cases e : floatBits op .f64 x y with
  | none => rw [e] at h; cases h
  | some q => rfl

end

section

open Go.RowKit EP


def twoSumO (a b : Nat) : Option (Nat × Nat) :=
  (fo .add a b).bind fun s => (fo .sub s a).bind fun x => (fo .sub s x).bind fun y => (fo .sub a y).bind fun u => (fo .sub b x).bind fun v => (fo .add u v).bind fun t => some (s, t)
def fastO (a b : Nat) : Option (Nat × Nat) :=
  (fo .add a b).bind fun s => (fo .sub s a).bind fun x => (fo .sub b x).bind fun t => some (s, t)
def splitO (a : Nat) : Option (Nat × Nat) :=
  (fo .mul 4728779608772575232 a).bind fun c => (fo .sub c a).bind fun x => (fo .sub c x).bind fun h => (fo .sub a h).bind fun l => some (h, l)
def twoProdO (a b : Nat) : Option (Nat × Nat) :=
  (fo .mul a b).bind fun p => (splitO a).bind fun hl => (splitO b).bind fun mn => (fo .mul hl.1 mn.1).bind fun hm => (fo .sub p hm).bind fun x => (fo .mul hl.2 mn.1).bind fun lm => (fo .sub x lm).bind fun y => (fo .mul hl.1 mn.2).bind fun hn => (fo .sub y hn).bind fun z => (fo .mul hl.2 mn.2).bind fun ln => (fo .sub ln z).bind fun e => some (p, e)

/-- Two floats come back. -/
def Two (w : World) (o : Option (Nat × Nat)) (e : Ending) (w' : World) : Prop :=
  ∃ s t, e = .returned (.tuple #[.float .f64 s, .float .f64 t]) ∧ Dr w w' ∧ ∀ p, o = some p → s = p.1 ∧ t = p.2

theorem conv_same (w : World) (b : Nat) : (convert 22 22 (.float .f64 b)).run Try.prog w = .ok (.float .f64 b) w :=
  run_convert_float_float w 22 22 .f64 .f64 b b (by rw [Try.underlying22]; rfl) Try.underlying22 (by simp [floatToFloatBits])

set_option maxHeartbeats 1000000 in
theorem twoSum_calls (a b : Nat) (w : World) :
    Calls Try.prog 48 #[.float .f64 a, .float .f64 b] w (Two w (twoSumO a b)) := by
  have r1 := run_add Try.prog
  have r2 := run_sub Try.prog
  have r3 := run_mul Try.prog
  have r4 := conv_same
  go_enter Try.func48, Try.ntmps48
  go_wp2_with fail
  go_ret2
  refine ⟨_, _, rfl, (by repeat (first | exact Dr.refl _ | assumption | refine Dr.trans ?_ (fw_dr _ _ _ _))), ?_⟩
  intro p hp
  simp only [twoSumO, Option.bind_eq_some_iff] at hp
  obtain ⟨z0, h0, z1, h1, z2, h2, z3, h3, z4, h4, z5, h5, hp⟩ := hp
  obtain rfl := Option.some.inj hp
  simp only [fv_eq h0, fw_eq h0, fv_eq h1, fw_eq h1, fv_eq h2, fw_eq h2, fv_eq h3, fw_eq h3, fv_eq h4, fw_eq h4, fv_eq h5, and_self]

set_option maxHeartbeats 1000000 in
theorem fast_calls (a b : Nat) (w : World) :
    Calls Try.prog 49 #[.float .f64 a, .float .f64 b] w (Two w (fastO a b)) := by
  have r1 := run_add Try.prog
  have r2 := run_sub Try.prog
  have r3 := run_mul Try.prog
  have r4 := conv_same
  go_enter Try.func49, Try.ntmps49
  go_wp2_with fail
  go_ret2
  refine ⟨_, _, rfl, (by repeat (first | exact Dr.refl _ | assumption | refine Dr.trans ?_ (fw_dr _ _ _ _))), ?_⟩
  intro p hp
  simp only [fastO, Option.bind_eq_some_iff] at hp
  obtain ⟨z0, h0, z1, h1, z2, h2, hp⟩ := hp
  obtain rfl := Option.some.inj hp
  simp only [fv_eq h0, fw_eq h0, fv_eq h1, fw_eq h1, fv_eq h2, and_self]

set_option maxHeartbeats 1000000 in
theorem split_calls (a : Nat) (w : World) :
    Calls Try.prog 63 #[.float .f64 a] w (Two w (splitO a)) := by
  have r1 := run_add Try.prog
  have r2 := run_sub Try.prog
  have r3 := run_mul Try.prog
  have r4 := conv_same
  go_enter Try.func63, Try.ntmps63
  go_wp2_with fail
  go_ret2
  refine ⟨_, _, rfl, (by repeat (first | exact Dr.refl _ | assumption | refine Dr.trans ?_ (fw_dr _ _ _ _))), ?_⟩
  intro p hp
  simp only [splitO, Option.bind_eq_some_iff] at hp
  obtain ⟨z0, h0, z1, h1, z2, h2, z3, h3, hp⟩ := hp
  obtain rfl := Option.some.inj hp
  simp only [fv_eq h0, fw_eq h0, fv_eq h1, fw_eq h1, fv_eq h2, fw_eq h2, fv_eq h3, and_self]




set_option maxHeartbeats 1000000 in
theorem twoProd_calls (a b : Nat) (w : World) :
    Calls Try.prog 52 #[.float .f64 a, .float .f64 b] w (Two w (twoProdO a b)) := by
  have r1 := run_add Try.prog
  have r2 := run_sub Try.prog
  have r3 := run_mul Try.prog
  have r4 := conv_same
  go_enter Try.func52, Try.ntmps52
  go_wp2_with fail
  refine Calls.mono (split_calls a _) ?_
  rintro e w1 ⟨h, l, rfl, d1, H1⟩
  have d1' : Dr w w1 := Dr.trans (fw_dr _ _ _ _) d1
  go_wp2_with fail
  refine Calls.mono (split_calls b w1) ?_
  rintro e w2 ⟨m, n, rfl, d2, H2⟩
  have d2' : Dr w w2 := Dr.trans d1' d2
  go_wp2_with fail
  go_ret2
  refine ⟨_, _, rfl, (by repeat (first | exact Dr.refl _ | assumption | refine Dr.trans ?_ (fw_dr _ _ _ _))), ?_⟩
  intro p hp
  simp only [twoProdO, Option.bind_eq_some_iff] at hp
  obtain ⟨z0, h0, hl, e1, mn, e2, z1, h1, z2, h2, z3, h3, z4, h4, z5, h5, z6, h6, z7, h7, z8, h8, hp⟩ := hp
  obtain ⟨rfl, rfl⟩ := H1 _ e1
  obtain ⟨rfl, rfl⟩ := H2 _ e2
  obtain rfl := Option.some.inj hp
  simp only [fv_eq h0, fv_eq h1, fw_eq h1, fv_eq h2, fw_eq h2, fv_eq h3, fw_eq h3, fv_eq h4, fw_eq h4, fv_eq h5, fw_eq h5, fv_eq h6, fw_eq h6, fv_eq h7, fw_eq h7, fv_eq h8, and_self]


end

section

open EP


theorem twoSum_bd {a b n : Nat} (ha : bd a n) (hb : bd b n) (hn : n ≤ 2080) : ∃ s t, twoSumO a b = some (s, t) ∧ bd s (n + 2) ∧ bd t (n + 10) := by
  obtain ⟨s, e1, -, b1⟩ := fo_add ha hb (by omega)
  obtain ⟨x, e2, -, b2⟩ := fo_sub b1 (ha.mono (by omega)) (by omega)
  obtain ⟨y, e3, -, b3⟩ := fo_sub (b1.mono (by omega)) b2 (by omega)
  obtain ⟨u, e4, -, b4⟩ := fo_sub (ha.mono (by omega)) b3 (by omega)
  obtain ⟨v, e5, -, b5⟩ := fo_sub (hb.mono (by omega)) b2 (by omega)
  obtain ⟨t, e6, -, b6⟩ := fo_add b4 (b5.mono (by omega)) (by omega)
  exact ⟨s, t, by simp only [twoSumO, e1, e2, e3, e4, e5, e6, Option.bind_some], b1, b6⟩
theorem fast_bd {a b n : Nat} (ha : bd a n) (hb : bd b n) (hn : n ≤ 2080) : ∃ s t, fastO a b = some (s, t) ∧ bd s (n + 2) ∧ bd t (n + 6) := by
  obtain ⟨s, e1, -, b1⟩ := fo_add ha hb (by omega)
  obtain ⟨x, e2, -, b2⟩ := fo_sub b1 (ha.mono (by omega)) (by omega)
  obtain ⟨t, e3, -, b3⟩ := fo_sub (hb.mono (by omega)) b2 (by omega)
  exact ⟨s, t, by simp only [fastO, e1, e2, e3, Option.bind_some], b1, b3⟩
theorem splitter_bd : bd 4728779608772575232 1102 := ⟨by decide, by decide +kernel⟩
theorem split_bd {a n : Nat} (ha : bd a n) (hn : n ≤ 2040) : ∃ h l, splitO a = some (h, l) ∧ bd h (n + 33) ∧ bd l (n + 35) := by
  obtain ⟨c, e1, -, b1⟩ := fo_mul (k := n + 28) splitter_bd ha (by omega) (by omega)
  obtain ⟨x, e2, -, b2⟩ := fo_sub b1 (ha.mono (by omega)) (by omega)
  obtain ⟨h, e3, -, b3⟩ := fo_sub (b1.mono (by omega)) b2 (by omega)
  obtain ⟨l, e4, -, b4⟩ := fo_sub (ha.mono (by omega)) b3 (by omega)
  exact ⟨h, l, by simp only [splitO, e1, e2, e3, e4, Option.bind_some], b3, b4⟩
theorem twoProd_bd {a b n k : Nat} (ha : bd a n) (hb : bd b n) (hk : n + n = k + 1074) (hn : k ≤ 2000) : ∃ p e, twoProdO a b = some (p, e) ∧ bd p (k + 1) ∧ bd e (k + 80) := by
  obtain ⟨p, e1, -, b1⟩ := fo_mul ha hb hk (by omega)
  obtain ⟨h, l, e2, b2, b3⟩ := split_bd ha (by omega)
  obtain ⟨m, n', e3, b4, b5⟩ := split_bd hb (by omega)
  replace b2 := b2.mono (n := n + 35) (by omega)
  replace b4 := b4.mono (n := n + 35) (by omega)
  obtain ⟨hm, e4, -, c1⟩ := fo_mul (k := k + 70) b2 b4 (by omega) (by omega)
  obtain ⟨x, e5, -, c2⟩ := fo_sub (b1.mono (by omega)) c1 (by omega)
  obtain ⟨lm, e6, -, c3⟩ := fo_mul (k := k + 70) b3 b4 (by omega) (by omega)
  obtain ⟨y, e7, -, c4⟩ := fo_sub c2 (c3.mono (by omega)) (by omega)
  obtain ⟨hn', e8, -, c5⟩ := fo_mul (k := k + 70) b2 b5 (by omega) (by omega)
  obtain ⟨z, e9, -, c6⟩ := fo_sub c4 (c5.mono (by omega)) (by omega)
  obtain ⟨ln, e10, -, c7⟩ := fo_mul (k := k + 70) b3 b5 (by omega) (by omega)
  obtain ⟨e, e11, -, c8⟩ := fo_sub (c7.mono (by omega)) c6 (by omega)
  exact ⟨p, e, by simp only [twoProdO, e1, e2, e3, e4, e5, e6, e7, e8, e9, e10, e11, Option.bind_some], b1, c8.mono (by omega)⟩

end

section

open Go.RowKit EP


/-- A slice of floats that can be read: its elements are xs. -/
def IsF (w : World) (a : Option Addr) (len cap : Nat) (xs : List Nat) : Prop :=
  len = xs.length ∧ (len ≤ cap ∧ (a = none → cap = 0)) ∧ ∀ i, i < len → ∃ b off, a = some ⟨b, off, none⟩ ∧ b < w.heap.size ∧ w.cell? ⟨b, off + i, none⟩ = some (.float .f64 (xs.getD i 0))
theorem IsF.keep {w w' : World} {a : Option Addr} {len cap : Nat} {xs : List Nat} (h : IsF w a len cap xs) (hb : Below w.heap.size w w') : IsF w' a len cap xs := by
  obtain ⟨h1, h4, h3⟩ := h
  refine ⟨h1, h4, fun i hi => ?_⟩
  obtain ⟨b, off, e1, e2, e3⟩ := h3 i hi
  exact ⟨b, off, e1, Nat.lt_of_lt_of_le e2 hb.size, (hb.cell (p := ⟨b, off + i, none⟩) e2).trans e3⟩
/-- A slice of floats in memory from block B on, of the call's own. -/
def OwF (B : Nat) (w : World) (a : Option Addr) (cv : Nat) (L : List Nat) : Prop :=
  w.ownsRow B 22 1 (.slice a L.length cv) L.length (L.map (Value.float .f64))
theorem owF_nil (B : Nat) (w : World) : OwF B w none 0 [] := World.ownsRow_nil _ _ _ _
theorem OwF.isF {B cv : Nat} {w : World} {a : Option Addr} {L : List Nat} (h : OwF B w a cv L) : IsF w a L.length cv L := by
  refine ⟨rfl, ?_, fun i hi => ?_⟩
  · rcases h.2 with ⟨hv, h0⟩ | ⟨g, cap, cur, hv, _, _, hn, _⟩
    · simp only [Value.slice.injEq] at hv
      exact ⟨by omega, fun _ => hv.2.2⟩
    · simp only [Value.slice.injEq] at hv
      exact ⟨by omega, fun e => by rw [hv.1] at e; cases e⟩
  rcases h.2 with ⟨_, h0⟩ | ⟨g, cap, cur, hv, _⟩
  · omega
  · have hao : a = some ⟨g, 0, none⟩ := by
      simp only [Value.slice.injEq] at hv
      exact hv.1
    subst hao
    have hc := h.cells (g := g) rfl i (.float .f64 (L.getD i 0)) (by simp [hi])
    have hc' : w.cell? ⟨g, 0 + i, none⟩ = some (.float .f64 (L.getD i 0)) := by
      by_cases h0 : i = 0
      · subst h0; simpa [Addr.add] using hc
      · simpa [Addr.add, h0] using hc
    exact ⟨g, 0, rfl, World.block_lt_of_cell? _ _ hc', hc'⟩
theorem OwF.low {B B' cv : Nat} {w : World} {a : Option Addr} {L : List Nat} (h : OwF B w a cv L) (hB : B' ≤ B) : OwF B' w a cv L := by
  refine ⟨h.1, ?_⟩
  rcases h.2 with h0 | ⟨g, cap, cur, hv, hg, r⟩
  · exact Or.inl h0
  · exact Or.inr ⟨g, cap, cur, hv, Nat.le_trans hB hg, r⟩
theorem ebelow_trans {a b c : World} (h : Below a.heap.size a b) (k : Below b.heap.size b c) : Below a.heap.size a c := h.trans (k.mono h.size)
theorem float_info : (Try.prog.info? 22).map (fun i => (i.zero, i.size, i.bytes)) = some (some (.float .f64 0), 1, 8) := by kernel_rfl

/-- Is a float 0? -/
def isZ (x : Nat) : Bool := Ieee.double.order x 0 == some .eq
def beh (L : List Nat) (x : Nat) : List Nat := if isZ x then L else L ++ [x]
/-- The last one, 0 of none. -/
def lastF (L : List Nat) : Nat := L.getD (L.length - 1) 0



theorem owF_snoc {B : Nat} {w : World} {v : Value} {L : List Nat} {x : Nat} (h : w.ownsRow B 22 1 v (L.length + 1) (L.map (Value.float .f64) ++ [Value.float .f64 x])) : ∃ g cap, v = .slice (some ⟨g, 0, none⟩) (L.length + 1) cap ∧ OwF B w (some ⟨g, 0, none⟩) cap (L ++ [x]) := by
  obtain ⟨g, cap, hv⟩ : ∃ g cap, v = .slice (some ⟨g, 0, none⟩) (L.length + 1) cap := by
    rcases h.2 with ⟨_, h0⟩ | ⟨g, cap, _, h0, _⟩
    · omega
    · exact ⟨g, cap, h0⟩
  subst hv
  refine ⟨g, cap, rfl, ?_⟩
  unfold OwF
  rw [List.length_append, List.map_append]
  exact h


/-- The steps of Grow: what there is of the sum, and of the errors that are not 0. -/
def growL : List Nat → Nat → List Nat → Option (Nat × List Nat)
  | [], q, L => some (q, L)
  | x :: l, q, L => (twoSumO q x).bind fun p => growL l p.1 (beh L p.2)
def growO (l : List Nat) (b : Nat) : Option (List Nat) := (growL l b []).map fun p => beh p.2 p.1
theorem beh_len (L : List Nat) (x : Nat) : L.length ≤ (beh L x).length ∧ (beh L x).length ≤ L.length + 1 := by
  unfold beh; split
  · omega
  · rw [List.length_append]; simp
theorem drop_cons (l : List Nat) (k : Nat) (h : k < l.length) : l.drop k = l.getD k 0 :: l.drop (k + 1) := by
  rw [List.drop_eq_getElem_cons h]; simp [List.getD, h]


end

section

open Go.RowKit EP


def fk (op : BinOp) (x y : Nat) : Nat := match floatBits op .f64 x y with | some _ => 0 | none => 1
theorem fw_fk (op : BinOp) (x y : Nat) (w : World) : fw op x y w = w.drewN (fk op x y) := by
  unfold fw fk
  cases floatBits op .f64 x y <;> rfl
theorem ran_add (P : Program) (t : TypeId) (x y : Nat) (w : World) : (binOp .add t (.float .f64 x) (.float .f64 y)).run P w = .ok (.float .f64 (fv .add x y w)) (w.drewN (fk .add x y)) := by rw [run_add, fw_fk]
theorem ran_sub (P : Program) (t : TypeId) (x y : Nat) (w : World) : (binOp .sub t (.float .f64 x) (.float .f64 y)).run P w = .ok (.float .f64 (fv .sub x y w)) (w.drewN (fk .sub x y)) := by rw [run_sub, fw_fk]
theorem ran_mul (P : Program) (t : TypeId) (x y : Nat) (w : World) : (binOp .mul t (.float .f64 x) (.float .f64 y)).run P w = .ok (.float .f64 (fv .mul x y w)) (w.drewN (fk .mul x y)) := by rw [run_mul, fw_fk]
theorem ran_quo (P : Program) (t : TypeId) (x y : Nat) (w : World) : (binOp .quo t (.float .f64 x) (.float .f64 y)).run P w = .ok (.float .f64 (fv .quo x y w)) (w.drewN (fk .quo x y)) := by rw [run_quo, fw_fk]
theorem ran_neg (P : Program) (x : Nat) (w : World) : (Op.unary .neg (.float .f64 x)).run P w = .ok (.float .f64 (Op.negFloat .f64 x)) w := rfl
theorem ran_store (P : Program) (w : World) (a : Addr) (m : Mode) (k : FloatKind) (b : Nat) : (store a (.float k b) m).run P w = stored P w a (.float k b) m := run_store P w a _ m rfl
attribute [local go_sem] ran_store
theorem Dr.ex {w w' : World} (h : Dr w w') : ∃ n, w' = w.drewN n := h
theorem eqF (P : Program) (t : TypeId) (d x y : Nat) (w : World) (ht : P.underlying t = some (.float .f64)) : (Op.equalIn (d + 1) t (.float .f64 x) (.float .f64 y)).run P w = .ok (Ieee.double.order x y == some .eq) w := by
  simp [Op.equalIn, run_underlying ht, Op.floatEq]
  rfl

/-- A pair comes back. -/
def Pr (w : World) (o : Option (Nat × Nat)) (e : Ending) (w' : World) : Prop :=
  ∃ s t, e = .returned (.agg #[.float .f64 s, .float .f64 t]) ∧ Below w.heap.size w w' ∧ ∀ p, o = some p → s = p.1 ∧ t = p.2
def sumP (xh xl yh yl : Nat) : Option (Nat × Nat) :=
  (twoSumO xh yh).bind fun st => (twoSumO xl yl).bind fun uv => (fo .add st.2 uv.1).bind fun c => (fastO st.1 c).bind fun ab => (fo .add uv.2 ab.2).bind fun d => fastO ab.1 d
def prodP (xh xl yh yl : Nat) : Option (Nat × Nat) :=
  (twoProdO xh yh).bind fun ce => (fo .mul xh yl).bind fun f => (fo .mul xl yh).bind fun g => (fo .add f g).bind fun h => (fo .add ce.2 h).bind fun i => fastO ce.1 i
def byP (xh xl k : Nat) : Option (Nat × Nat) :=
  (twoProdO xh k).bind fun ce => (fo .mul xl k).bind fun f => (fastO ce.1 f).bind fun ab => (fo .add ab.2 ce.2).bind fun d => fastO ab.1 d
def quoP (xh xl yh yl : Nat) : Option (Nat × Nat) :=
  (fo .quo xh yh).bind fun q => (byP yh yl q).bind fun r => (fo .sub xh r.1).bind fun a => (fo .sub xl r.2).bind fun b => (fo .add a b).bind fun c => (fo .quo c yh).bind fun d => fastO q d
theorem pcarry {w w' : World} {p : Addr} {v : Value} (hb : Below w.heap.size w w') (h : w.cell? p = some v) : w'.cell? p = some v := (hb.cell (World.block_lt_of_cell? _ _ h)).trans h
theorem pcarryF {w w' : World} {p : Addr} {v : Value} {b : Bool} (hb : Below w.heap.size w w') (h : w.cell? p = some v) (hf : w.frozen? p = b) : w'.frozen? p = b := (hb.frozen (World.block_lt_of_cell? _ _ h)).trans hf

set_option maxRecDepth 100000 in
set_option maxHeartbeats 1000000 in
theorem less_calls (h l : Nat) (w : World) :
    Calls Try.prog 51 #[.agg #[.float .f64 h, .float .f64 l]] w (Pr w (some (Op.negFloat .f64 h, Op.negFloat .f64 l))) := by
  have r5 := ran_neg Try.prog
  go_enter Try.func51, Try.ntmps51
  go_wp2_with fail
  exact bodyPost_ret (v := .agg #[.float .f64 (Op.negFloat .f64 h), .float .f64 (Op.negFloat .f64 l)]) (by simp [results, Try.results51, go_sem]) rfl ⟨_, _, rfl, by repeat (first | exact Below.refl _ _ | refine Below.alloc ?_ (by simp; try omega) _), fun p hp => by cases hp; exact ⟨rfl, rfl⟩⟩

set_option maxRecDepth 100000 in
set_option maxHeartbeats 1000000 in
theorem dfast_calls (h l : Nat) (w : World) :
    Calls Try.prog 50 #[.float .f64 h, .float .f64 l] w (Pr w (fastO h l)) := by
  go_enter Try.func50, Try.ntmps50
  go_wp2_with fail
  refine Calls.mono (fast_calls h l _) ?_
  rintro e w1 ⟨s, t, rfl, d1, H1⟩
  obtain ⟨n1, rfl⟩ := d1.ex
  clear d1
  go_wp2_with fail
  refine bodyPost_ret (v := .agg #[.float .f64 s, .float .f64 t]) (by simp [results, Try.results50, go_sem]) rfl ⟨_, _, rfl, ?_, H1⟩
  repeat (first | exact Below.refl _ _ | assumption | refine below_drewN ?_ _ | refine Below.setCell ?_ (by simp; try omega) _ | refine Below.alloc ?_ (by simp; try omega) _)

set_option maxRecDepth 100000 in
set_option maxHeartbeats 2000000 in
theorem dsum_calls (xh xl yh yl : Nat) (w : World) :
    Calls Try.prog 26 #[.agg #[.float .f64 xh, .float .f64 xl], .agg #[.float .f64 yh, .float .f64 yl]] w (Pr w (sumP xh xl yh yl)) := by
  have r1 := ran_add Try.prog
  go_enter Try.func26, Try.ntmps26
  go_wp2_with fail
  refine Calls.mono (twoSum_calls xh yh _) ?_
  rintro e w1 ⟨s, t, rfl, d1, H1⟩
  obtain ⟨n1, rfl⟩ := d1.ex
  clear d1
  have H1' : Hid (∀ p, twoSumO xh yh = some p → s = p.1 ∧ t = p.2) := H1
  clear H1
  go_wp2_with fail
  refine Calls.mono (twoSum_calls xl yl _) ?_
  rintro e w2 ⟨u, v, rfl, d2, H2⟩
  obtain ⟨n2, rfl⟩ := d2.ex
  clear d2
  have H2' : Hid (∀ p, twoSumO xl yl = some p → u = p.1 ∧ v = p.2) := H2
  clear H2
  go_wp2_with fail
  refine Calls.mono (fast_calls s _ _) ?_
  rintro e w3 ⟨a, b, rfl, d3, H3⟩
  obtain ⟨n3, rfl⟩ := d3.ex
  clear d3
  have H3' : Hid (∀ p, fastO s _ = some p → a = p.1 ∧ b = p.2) := H3
  clear H3
  go_wp2_with fail
  refine Calls.mono (dfast_calls a _ _) ?_
  rintro e w4 ⟨x, y, rfl, b4, H4⟩
  have H4' : Hid (∀ p, fastO a _ = some p → x = p.1 ∧ y = p.2) := H4
  clear H4
  have m0 : w4.cell? ⟨w.heap.size + 1 + 1, 0, none⟩ = some (.float .f64 0) := pcarry b4 (by go_simp)
  have m1 : w4.cell? ⟨w.heap.size + 1 + 1, 1, none⟩ = some (.float .f64 0) := pcarry b4 (by go_simp)
  have k0 : w4.frozen? ⟨w.heap.size + 1 + 1, 0, none⟩ = false := pcarryF (v := .float .f64 0) b4 (by go_simp) (by go_simp)
  have k1 : w4.frozen? ⟨w.heap.size + 1 + 1, 1, none⟩ = false := pcarryF (v := .float .f64 0) b4 (by go_simp) (by go_simp)
  have bw : Below w.heap.size w w4 := Below.trans (by repeat (first | exact Below.refl _ _ | assumption | refine below_drewN ?_ _ | refine Below.setCell ?_ (by simp; try omega) _ | refine Below.alloc ?_ (by simp; try omega) _)) (b4.mono (by simp; omega))
  clear b4
  go_wp2_with fail
  refine bodyPost_ret (v := .agg #[.float .f64 x, .float .f64 y]) (by simp [results, Try.results26, go_sem, m0, m1]) rfl ⟨_, _, rfl, by repeat (first | exact Below.refl _ _ | assumption | refine below_drewN ?_ _ | refine Below.setCell ?_ (by simp; try omega) _ | refine Below.alloc ?_ (by simp; try omega) _), ?_⟩
  intro p hp
  simp only [sumP, Option.bind_eq_some_iff] at hp
  obtain ⟨st, e1, uv, e2, c, e3, ab, e4, d, e5, e6⟩ := hp
  obtain ⟨rfl, rfl⟩ := H1'.out _ e1
  obtain ⟨rfl, rfl⟩ := H2'.out _ e2
  obtain ⟨rfl, rfl⟩ := H3'.out _ (by rw [fv_eq e3]; exact e4)
  exact H4'.out _ (by rw [fv_eq e5]; exact e6)

end

section

open Go.RowKit EP
attribute [local go_sem] ran_store


set_option maxRecDepth 100000 in
set_option maxHeartbeats 2000000 in
theorem dprod_calls (xh xl yh yl : Nat) (w : World) :
    Calls Try.prog 28 #[.agg #[.float .f64 xh, .float .f64 xl], .agg #[.float .f64 yh, .float .f64 yl]] w (Pr w (prodP xh xl yh yl)) := by
  have r1 := ran_add Try.prog
  have r2 := ran_sub Try.prog
  have r3 := ran_mul Try.prog
  have r4 := ran_quo Try.prog
  have r5 := conv_same
  go_enter Try.func28, Try.ntmps28
  go_wp2_with fail
  refine Calls.mono (twoProd_calls xh yh _) ?_
  rintro e w1 ⟨c, e0, rfl, d1, H1⟩
  obtain ⟨n1, rfl⟩ := d1.ex
  clear d1
  have H1' : Hid (∀ p, twoProdO xh yh = some p → c = p.1 ∧ e0 = p.2) := H1
  clear H1
  go_wp2_with fail
  refine Calls.mono (dfast_calls c _ _) ?_
  rintro e w2 ⟨s, t, rfl, b2, H2⟩
  have m200 : w2.cell? ⟨w.heap.size, 0, none⟩ = some (.float .f64 xh) := pcarry b2 (by go_simp)
  have k200 : w2.frozen? ⟨w.heap.size, 0, none⟩ = false := pcarryF (v := .float .f64 xh) b2 (by go_simp) (by go_simp)
  have m201 : w2.cell? ⟨w.heap.size, 1, none⟩ = some (.float .f64 xl) := pcarry b2 (by go_simp)
  have k201 : w2.frozen? ⟨w.heap.size, 1, none⟩ = false := pcarryF (v := .float .f64 xl) b2 (by go_simp) (by go_simp)
  have m210 : w2.cell? ⟨w.heap.size + 1, 0, none⟩ = some (.float .f64 yh) := pcarry b2 (by go_simp)
  have k210 : w2.frozen? ⟨w.heap.size + 1, 0, none⟩ = false := pcarryF (v := .float .f64 yh) b2 (by go_simp) (by go_simp)
  have m211 : w2.cell? ⟨w.heap.size + 1, 1, none⟩ = some (.float .f64 yl) := pcarry b2 (by go_simp)
  have k211 : w2.frozen? ⟨w.heap.size + 1, 1, none⟩ = false := pcarryF (v := .float .f64 yl) b2 (by go_simp) (by go_simp)
  have m220 : w2.cell? ⟨w.heap.size + 1 + 1, 0, none⟩ = some (.float .f64 0) := pcarry b2 (by go_simp)
  have k220 : w2.frozen? ⟨w.heap.size + 1 + 1, 0, none⟩ = false := pcarryF (v := .float .f64 0) b2 (by go_simp) (by go_simp)
  have m221 : w2.cell? ⟨w.heap.size + 1 + 1, 1, none⟩ = some (.float .f64 0) := pcarry b2 (by go_simp)
  have k221 : w2.frozen? ⟨w.heap.size + 1 + 1, 1, none⟩ = false := pcarryF (v := .float .f64 0) b2 (by go_simp) (by go_simp)
  have bw2 : Below w.heap.size w w2 := Below.trans (by repeat (first | exact Below.refl _ _ | assumption | refine below_drewN ?_ _ | refine Below.setCell ?_ (by first | (simp; done) | (simp; omega) | omega) _ | refine Below.alloc ?_ (by first | (simp; done) | (simp; omega) | omega) _)) (b2.mono (by first | (simp; done) | (simp; omega) | omega))
  have bs2 := bw2.size
  have bz2 : Hid (w.heap.size + 3 ≤ w2.heap.size) := by rw [Hid]; have h1 := b2.size; simp at h1; omega
  clear b2
  have H2' : Hid (∀ p, fastO c _ = some p → s = p.1 ∧ t = p.2) := H2
  clear H2
  go_wp2_with fail
  refine bodyPost_ret (v := .agg #[.float .f64 s, .float .f64 t]) (by simp [results, Try.results28, go_sem, m220, m221]) rfl ⟨_, _, rfl, by repeat (first | exact Below.refl _ _ | assumption | refine below_drewN ?_ _ | refine Below.setCell ?_ (by first | (simp; done) | (simp; omega) | omega) _ | refine Below.alloc ?_ (by first | (simp; done) | (simp; omega) | omega) _), ?_⟩
  intro p hp
  simp only [prodP, Option.bind_eq_some_iff] at hp
  obtain ⟨ce, e1, f, e2, g, e3, h, e4, i, e5, e6⟩ := hp
  obtain ⟨rfl, rfl⟩ := H1'.out _ e1
  exact H2'.out _ (by simp only [fv_eq e2, fv_eq e3, fv_eq e4, fv_eq e5]; exact e6)

set_option maxRecDepth 100000 in
set_option maxHeartbeats 2000000 in
theorem dby_calls (xh xl k : Nat) (w : World) :
    Calls Try.prog 60 #[.agg #[.float .f64 xh, .float .f64 xl], .float .f64 k] w (Pr w (byP xh xl k)) := by
  have r1 := ran_add Try.prog
  have r2 := ran_sub Try.prog
  have r3 := ran_mul Try.prog
  have r4 := ran_quo Try.prog
  have r5 := conv_same
  go_enter Try.func60, Try.ntmps60
  go_wp2_with fail
  refine Calls.mono (twoProd_calls xh k _) ?_
  rintro e w1 ⟨c, e0, rfl, d1, H1⟩
  obtain ⟨n1, rfl⟩ := d1.ex
  clear d1
  have H1' : Hid (∀ p, twoProdO xh k = some p → c = p.1 ∧ e0 = p.2) := H1
  clear H1
  go_wp2_with fail
  refine Calls.mono (fast_calls c _ _) ?_
  rintro e w2 ⟨a, b, rfl, d2, H2⟩
  obtain ⟨n2, rfl⟩ := d2.ex
  clear d2
  have H2' : Hid (∀ p, fastO c _ = some p → a = p.1 ∧ b = p.2) := H2
  clear H2
  go_wp2_with fail
  refine Calls.mono (dfast_calls a _ _) ?_
  rintro e w3 ⟨s, t, rfl, b3, H3⟩
  have m300 : w3.cell? ⟨w.heap.size, 0, none⟩ = some (.float .f64 xh) := pcarry b3 (by go_simp)
  have k300 : w3.frozen? ⟨w.heap.size, 0, none⟩ = false := pcarryF (v := .float .f64 xh) b3 (by go_simp) (by go_simp)
  have m301 : w3.cell? ⟨w.heap.size, 1, none⟩ = some (.float .f64 xl) := pcarry b3 (by go_simp)
  have k301 : w3.frozen? ⟨w.heap.size, 1, none⟩ = false := pcarryF (v := .float .f64 xl) b3 (by go_simp) (by go_simp)
  have m310 : w3.cell? ⟨w.heap.size + 1, 0, none⟩ = some (.float .f64 0) := pcarry b3 (by go_simp)
  have k310 : w3.frozen? ⟨w.heap.size + 1, 0, none⟩ = false := pcarryF (v := .float .f64 0) b3 (by go_simp) (by go_simp)
  have m311 : w3.cell? ⟨w.heap.size + 1, 1, none⟩ = some (.float .f64 0) := pcarry b3 (by go_simp)
  have k311 : w3.frozen? ⟨w.heap.size + 1, 1, none⟩ = false := pcarryF (v := .float .f64 0) b3 (by go_simp) (by go_simp)
  have bw3 : Below w.heap.size w w3 := Below.trans (by repeat (first | exact Below.refl _ _ | assumption | refine below_drewN ?_ _ | refine Below.setCell ?_ (by first | (simp; done) | (simp; omega) | omega) _ | refine Below.alloc ?_ (by first | (simp; done) | (simp; omega) | omega) _)) (b3.mono (by first | (simp; done) | (simp; omega) | omega))
  have bs3 := bw3.size
  have bz3 : Hid (w.heap.size + 2 ≤ w3.heap.size) := by rw [Hid]; have h1 := b3.size; simp at h1; omega
  clear b3
  have H3' : Hid (∀ p, fastO a _ = some p → s = p.1 ∧ t = p.2) := H3
  clear H3
  go_wp2_with fail
  refine bodyPost_ret (v := .agg #[.float .f64 s, .float .f64 t]) (by simp [results, Try.results60, go_sem, m310, m311]) rfl ⟨_, _, rfl, by repeat (first | exact Below.refl _ _ | assumption | refine below_drewN ?_ _ | refine Below.setCell ?_ (by first | (simp; done) | (simp; omega) | omega) _ | refine Below.alloc ?_ (by first | (simp; done) | (simp; omega) | omega) _), ?_⟩
  intro p hp
  simp only [byP, Option.bind_eq_some_iff] at hp
  obtain ⟨ce, e1, f, e2, ab, e3, d, e4, e5⟩ := hp
  obtain ⟨rfl, rfl⟩ := H1'.out _ e1
  obtain ⟨rfl, rfl⟩ := H2'.out _ (by simp only [fv_eq e2]; exact e3)
  exact H3'.out _ (by simp only [fv_eq e4]; exact e5)

set_option maxRecDepth 100000 in
set_option maxHeartbeats 2000000 in
theorem dquo_calls (xh xl yh yl : Nat) (w : World) :
    Calls Try.prog 39 #[.agg #[.float .f64 xh, .float .f64 xl], .agg #[.float .f64 yh, .float .f64 yl]] w (Pr w (quoP xh xl yh yl)) := by
  have r1 := ran_add Try.prog
  have r2 := ran_sub Try.prog
  have r3 := ran_mul Try.prog
  have r4 := ran_quo Try.prog
  have r5 := conv_same
  go_enter Try.func39, Try.ntmps39
  go_wp2_with fail
  refine Calls.mono (dby_calls yh yl _ _) ?_
  rintro e w1 ⟨rh, rl, rfl, b1, H1⟩
  have m100 : w1.cell? ⟨w.heap.size, 0, none⟩ = some (.float .f64 xh) := pcarry b1 (by go_simp)
  have k100 : w1.frozen? ⟨w.heap.size, 0, none⟩ = false := pcarryF (v := .float .f64 xh) b1 (by go_simp) (by go_simp)
  have m101 : w1.cell? ⟨w.heap.size, 1, none⟩ = some (.float .f64 xl) := pcarry b1 (by go_simp)
  have k101 : w1.frozen? ⟨w.heap.size, 1, none⟩ = false := pcarryF (v := .float .f64 xl) b1 (by go_simp) (by go_simp)
  have m110 : w1.cell? ⟨w.heap.size + 1, 0, none⟩ = some (.float .f64 yh) := pcarry b1 (by go_simp)
  have k110 : w1.frozen? ⟨w.heap.size + 1, 0, none⟩ = false := pcarryF (v := .float .f64 yh) b1 (by go_simp) (by go_simp)
  have m111 : w1.cell? ⟨w.heap.size + 1, 1, none⟩ = some (.float .f64 yl) := pcarry b1 (by go_simp)
  have k111 : w1.frozen? ⟨w.heap.size + 1, 1, none⟩ = false := pcarryF (v := .float .f64 yl) b1 (by go_simp) (by go_simp)
  have m120 : w1.cell? ⟨w.heap.size + 1 + 1, 0, none⟩ = some (.float .f64 0) := pcarry b1 (by go_simp)
  have k120 : w1.frozen? ⟨w.heap.size + 1 + 1, 0, none⟩ = false := pcarryF (v := .float .f64 0) b1 (by go_simp) (by go_simp)
  have m121 : w1.cell? ⟨w.heap.size + 1 + 1, 1, none⟩ = some (.float .f64 0) := pcarry b1 (by go_simp)
  have k121 : w1.frozen? ⟨w.heap.size + 1 + 1, 1, none⟩ = false := pcarryF (v := .float .f64 0) b1 (by go_simp) (by go_simp)
  have bw1 : Below w.heap.size w w1 := Below.trans (by repeat (first | exact Below.refl _ _ | assumption | refine below_drewN ?_ _ | refine Below.setCell ?_ (by first | (simp; done) | (simp; omega) | omega) _ | refine Below.alloc ?_ (by first | (simp; done) | (simp; omega) | omega) _)) (b1.mono (by first | (simp; done) | (simp; omega) | omega))
  have bs1 := bw1.size
  have bz1 : Hid (w.heap.size + 3 ≤ w1.heap.size) := by rw [Hid]; have h1 := b1.size; simp at h1; omega
  clear b1
  have q100 : ∀ ob, (w1.alloc ob).cell? ⟨w.heap.size, 0, none⟩ = some (.float .f64 xh) := fun ob => pcarry ((Below.refl _ _).alloc (Nat.le_refl _) ob) m100
  have z100 : ∀ ob, (w1.alloc ob).frozen? ⟨w.heap.size, 0, none⟩ = false := fun ob => pcarryF ((Below.refl _ _).alloc (Nat.le_refl _) ob) m100 k100
  have q101 : ∀ ob, (w1.alloc ob).cell? ⟨w.heap.size, 1, none⟩ = some (.float .f64 xl) := fun ob => pcarry ((Below.refl _ _).alloc (Nat.le_refl _) ob) m101
  have z101 : ∀ ob, (w1.alloc ob).frozen? ⟨w.heap.size, 1, none⟩ = false := fun ob => pcarryF ((Below.refl _ _).alloc (Nat.le_refl _) ob) m101 k101
  have q110 : ∀ ob, (w1.alloc ob).cell? ⟨w.heap.size + 1, 0, none⟩ = some (.float .f64 yh) := fun ob => pcarry ((Below.refl _ _).alloc (Nat.le_refl _) ob) m110
  have z110 : ∀ ob, (w1.alloc ob).frozen? ⟨w.heap.size + 1, 0, none⟩ = false := fun ob => pcarryF ((Below.refl _ _).alloc (Nat.le_refl _) ob) m110 k110
  have q111 : ∀ ob, (w1.alloc ob).cell? ⟨w.heap.size + 1, 1, none⟩ = some (.float .f64 yl) := fun ob => pcarry ((Below.refl _ _).alloc (Nat.le_refl _) ob) m111
  have z111 : ∀ ob, (w1.alloc ob).frozen? ⟨w.heap.size + 1, 1, none⟩ = false := fun ob => pcarryF ((Below.refl _ _).alloc (Nat.le_refl _) ob) m111 k111
  have q120 : ∀ ob, (w1.alloc ob).cell? ⟨w.heap.size + 1 + 1, 0, none⟩ = some (.float .f64 0) := fun ob => pcarry ((Below.refl _ _).alloc (Nat.le_refl _) ob) m120
  have z120 : ∀ ob, (w1.alloc ob).frozen? ⟨w.heap.size + 1 + 1, 0, none⟩ = false := fun ob => pcarryF ((Below.refl _ _).alloc (Nat.le_refl _) ob) m120 k120
  have q121 : ∀ ob, (w1.alloc ob).cell? ⟨w.heap.size + 1 + 1, 1, none⟩ = some (.float .f64 0) := fun ob => pcarry ((Below.refl _ _).alloc (Nat.le_refl _) ob) m121
  have z121 : ∀ ob, (w1.alloc ob).frozen? ⟨w.heap.size + 1 + 1, 1, none⟩ = false := fun ob => pcarryF ((Below.refl _ _).alloc (Nat.le_refl _) ob) m121 k121
  have H1' : Hid (∀ p, byP yh yl _ = some p → rh = p.1 ∧ rl = p.2) := H1
  clear H1
  go_wp2_with fail
  refine Calls.mono (dfast_calls _ _ _) ?_
  rintro e w2 ⟨s, t, rfl, b2, H2⟩
  have m200 : w2.cell? ⟨w.heap.size, 0, none⟩ = some (.float .f64 xh) := pcarry b2 (by go_simp)
  have k200 : w2.frozen? ⟨w.heap.size, 0, none⟩ = false := pcarryF (v := .float .f64 xh) b2 (by go_simp) (by go_simp)
  have m201 : w2.cell? ⟨w.heap.size, 1, none⟩ = some (.float .f64 xl) := pcarry b2 (by go_simp)
  have k201 : w2.frozen? ⟨w.heap.size, 1, none⟩ = false := pcarryF (v := .float .f64 xl) b2 (by go_simp) (by go_simp)
  have m210 : w2.cell? ⟨w.heap.size + 1, 0, none⟩ = some (.float .f64 yh) := pcarry b2 (by go_simp)
  have k210 : w2.frozen? ⟨w.heap.size + 1, 0, none⟩ = false := pcarryF (v := .float .f64 yh) b2 (by go_simp) (by go_simp)
  have m211 : w2.cell? ⟨w.heap.size + 1, 1, none⟩ = some (.float .f64 yl) := pcarry b2 (by go_simp)
  have k211 : w2.frozen? ⟨w.heap.size + 1, 1, none⟩ = false := pcarryF (v := .float .f64 yl) b2 (by go_simp) (by go_simp)
  have m220 : w2.cell? ⟨w.heap.size + 1 + 1, 0, none⟩ = some (.float .f64 0) := pcarry b2 (by go_simp)
  have k220 : w2.frozen? ⟨w.heap.size + 1 + 1, 0, none⟩ = false := pcarryF (v := .float .f64 0) b2 (by go_simp) (by go_simp)
  have m221 : w2.cell? ⟨w.heap.size + 1 + 1, 1, none⟩ = some (.float .f64 0) := pcarry b2 (by go_simp)
  have k221 : w2.frozen? ⟨w.heap.size + 1 + 1, 1, none⟩ = false := pcarryF (v := .float .f64 0) b2 (by go_simp) (by go_simp)
  have bw2 : Below w.heap.size w w2 := Below.trans (by repeat (first | exact Below.refl _ _ | assumption | refine below_drewN ?_ _ | refine Below.setCell ?_ (by first | (simp; done) | (simp; omega) | omega) _ | refine Below.alloc ?_ (by first | (simp; done) | (simp; omega) | omega) _)) (b2.mono (by have := bw1.size; first | (simp; done) | (simp; omega) | omega))
  have bs2 := bw2.size
  have bz2 : Hid (w.heap.size + 3 ≤ w2.heap.size) := by rw [Hid]; have h1 := b2.size; have h2 := bz1.out; simp at h1; omega
  clear b2
  clear m100 k100 q100 z100 m101 k101 q101 z101 m110 k110 q110 z110 m111 k111 q111 z111 m120 k120 q120 z120 m121 k121 q121 z121
  have H2' : Hid (∀ p, fastO _ _ = some p → s = p.1 ∧ t = p.2) := H2
  clear H2
  go_wp2_with fail
  refine bodyPost_ret (v := .agg #[.float .f64 s, .float .f64 t]) (by simp [results, Try.results39, go_sem, m220, m221]) rfl ⟨_, _, rfl, by repeat (first | exact Below.refl _ _ | assumption | refine below_drewN ?_ _ | refine Below.setCell ?_ (by first | (simp; done) | (simp; omega) | omega) _ | refine Below.alloc ?_ (by first | (simp; done) | (simp; omega) | omega) _), ?_⟩
  intro p hp
  simp only [quoP, Option.bind_eq_some_iff] at hp
  obtain ⟨q, e1, r, e2, a, e3, b, e4, c, e5, d, e6, e7⟩ := hp
  obtain ⟨rfl, rfl⟩ := H1'.out _ (by simp only [fv_eq e1]; exact e2)
  exact H2'.out _ (by simp only [fv_eq e1, fv_eq e3, fv_eq e4, fv_eq e5, fv_eq e6]; exact e7)

def diffP (xh xl yh yl : Nat) : Option (Nat × Nat) := sumP xh xl (Op.negFloat .f64 yh) (Op.negFloat .f64 yl)







end

section

open Go.RowKit EP


theorem read_wild (x : Nat) (h : finB x = false) : Ieee.double.read x = .infinity (negB x) ∨ ∃ f, Ieee.double.read x = .nan (negB x) f := by
  have h' : ¬ x % 9223372036854775808 < 9218868437227405312 := of_decide_eq_false h
  have hs : Ieee.double.signWeight = 9223372036854775808 := by decide
  have hbi : Ieee.double.binade = 4503599627370496 := by decide
  have hir : Ieee.double.infRung = 9218868437227405312 := by decide
  unfold Ieee.Format.read
  dsimp only
  rw [hs, hbi, hir]
  generalize x % 9223372036854775808 = r at h'
  rw [if_neg (by omega), if_neg h']
  by_cases h1 : r = 9218868437227405312
  · rw [if_pos h1]; exact .inl rfl
  · rw [if_neg h1]; exact .inr ⟨_, rfl⟩

theorem order_wild (x c : Nat) (h : finB x = false) (hc : finB c = true) : Ieee.double.order x c = none ∨ Ieee.double.order x c = some (if negB x then .lt else .gt) := by
  obtain ⟨m, p, e, -⟩ := read_fin c hc
  unfold Ieee.Format.order
  rw [e]
  rcases read_wild x h with h1 | ⟨f, h1⟩
  · rw [h1]; exact .inr rfl
  · rw [h1]; exact .inl rfl

theorem order_lt_V (x c : Nat) (hx : finB x = true) (hc : finB c = true) (h : Ieee.double.order x c = some .lt) : V x < V c := by
  rw [order_fin x c hx hc] at h
  have h' := Option.some.inj h
  have : compareOfLessAndEq (V x) (V c) = .lt := h'
  unfold compareOfLessAndEq at this
  split at this
  · assumption
  · split at this <;> cases this
theorem order_eq_V (x c : Nat) (hx : finB x = true) (hc : finB c = true) (h : Ieee.double.order x c = some .eq) : V x = V c := by
  rw [order_fin x c hx hc] at h
  have h' := Option.some.inj h
  have : compareOfLessAndEq (V x) (V c) = .eq := h'
  unfold compareOfLessAndEq at this
  split at this
  · cases this
  · split at this
    · assumption
    · cases this
theorem order_gt_V (x c : Nat) (hx : finB x = true) (hc : finB c = true) (h : Ieee.double.order x c = some .gt) : V c < V x := by
  rw [order_fin x c hx hc] at h
  have h' := Option.some.inj h
  have : compareOfLessAndEq (V x) (V c) = .gt := h'
  unfold compareOfLessAndEq at this
  split at this
  · cases this
  · split at this
    · cases this
    · omega
theorem eq_fin (x c : Nat) (hc : finB c = true) (h : Ieee.double.order x c = some .eq) : finB x = true := by
  cases hx : finB x with
  | true => rfl
  | false =>
    rcases order_wild x c hx hc with h1 | h1
    · rw [h1] at h; cases h
    · rw [h1] at h; have := Option.some.inj h; split at this <;> cases this
theorem zero_V (x : Nat) (h : isZ x = true) : finB x = true ∧ V x = 0 := by
  have h' : Ieee.double.order x 0 = some .eq := eq_of_beq h
  have hx := eq_fin x 0 (by decide) h'
  exact ⟨hx, by rw [order_eq_V x 0 hx (by decide) h']; decide⟩

/-- At least 2^-400, at most 2^400. -/
def inB (x : Nat) : Bool := (Ieee.double.order x 2805742567851819008 == some .gt || Ieee.double.order x 2805742567851819008 == some .eq) && (Ieee.double.order x 6408622269748215808 == some .lt || Ieee.double.order x 6408622269748215808 == some .eq)
theorem most_bd : bd 6408622269748215808 1474 := ⟨by decide, by decide +kernel⟩
theorem least_V : 0 < V 2805742567851819008 := by decide +kernel
theorem in_bd (x : Nat) (h : inB x = true) : bd x 1474 := by
  unfold inB at h
  simp only [Bool.and_eq_true, Bool.or_eq_true, beq_iff_eq] at h
  obtain ⟨h1, h2⟩ := h
  have hc1 : finB 2805742567851819008 = true := by decide
  have hc2 : finB 6408622269748215808 = true := by decide
  have hx : finB x = true := by
    cases hx : finB x with
    | true => rfl
    | false =>
      rcases order_wild x _ hx hc1 with k1 | k1
      · rw [k1] at h1; rcases h1 with h1 | h1 <;> cases h1
      · rcases order_wild x _ hx hc2 with k2 | k2
        · rw [k2] at h2; rcases h2 with h2 | h2 <;> cases h2
        · rw [k1] at h1
          rw [k2] at h2
          cases hn : negB x
          · rw [hn] at h2; rcases h2 with h2 | h2 <;> cases h2
          · rw [hn] at h1; rcases h1 with h1 | h1 <;> cases h1
  have a1 : V 2805742567851819008 ≤ V x := by
    rcases h1 with h1 | h1
    · exact Int.le_of_lt (order_gt_V x _ hx hc1 h1)
    · rw [order_eq_V x _ hx hc1 h1]; exact Int.le_refl _
  have a2 : V x ≤ V 6408622269748215808 := by
    rcases h2 with h2 | h2
    · exact Int.le_of_lt (order_lt_V x _ hx hc2 h2)
    · rw [order_eq_V x _ hx hc2 h2]; exact Int.le_refl _
  have a3 := least_V
  have a4 := most_bd.2
  refine ⟨hx, Nat.le_trans ?_ a4⟩
  generalize V x = v at *
  generalize V 2805742567851819008 = c at *
  generalize V 6408622269748215808 = d at *
  omega

theorem near_big (neg : Bool) (mag L k : Nat) (hm : mag.log2 = L) (hL : 2097 ≤ L) (h0 : mag ≠ 0) (hk : k = L - 52) : ∃ r, Ieee.double.nearest neg mag (-1074) = Ieee.double.word neg r ∧ 9209861237972664320 ≤ r ∧ r ≤ 9218868437227405312 := by
  unfold Ieee.Format.nearest
  rw [if_neg h0]
  dsimp only
  rw [hm]
  have hlp : Ieee.double.leastPlace = -1074 := by decide
  have hfb : (Ieee.double.fractionBits : Int) = 52 := by decide
  have hbi : Ieee.double.binade = 4503599627370496 := by decide
  have hir : Ieee.double.infRung = 9218868437227405312 := by decide
  rw [hlp, hfb, hbi, hir]
  have e1 : (max (-1074 + (L : Int) - 52) (-1074) - -1074).toNat = k := by omega
  rw [e1]
  generalize Ieee.Toward.even.cut _ _ _ = c
  refine ⟨_, rfl, ?_, Nat.min_le_right _ _⟩
  have : 2045 ≤ k := by omega
  omega

theorem pow_lt2 (a b : Nat) (h : a < b) : 2 ^ a < 2 ^ b := Nat.pow_lt_pow_right (by decide) h
theorem pow_le2 (a b : Nat) (h : a ≤ b) : 2 ^ a ≤ 2 ^ b := Nat.pow_le_pow_right (by decide) h
theorem R_big (r : Nat) (h1 : 9209861237972664320 ≤ r) (h2 : r < 9218868437227405312) : 2 ^ 1474 < R r := by
  unfold R
  rw [if_neg (by omega)]
  have : 2044 ≤ r / 4503599627370496 - 1 := by omega
  have h3 := pow_lt2 1474 2044 (by decide)
  have h4 := pow_le2 2044 _ this
  refine Nat.lt_of_lt_of_le (Nat.lt_of_lt_of_le h3 h4) ?_
  exact Nat.le_mul_of_pos_left _ (by omega)

theorem big_out (neg : Bool) (mag : Nat) (h : 2 ^ 2097 ≤ mag) : ¬ bd (Ieee.double.nearest neg mag (-1074)) 1474 := by
  intro hb
  have h0 : mag ≠ 0 := fun e => by rw [e] at h; exact absurd h (Nat.not_le.2 (Nat.two_pow_pos 2097))
  have hL : 2097 ≤ mag.log2 := (Nat.le_log2 h0).2 h
  obtain ⟨r, e, h1, h2⟩ := near_big neg mag mag.log2 (mag.log2 - 52) rfl hL h0 rfl
  rw [e] at hb
  obtain ⟨g1, g2, -⟩ := word_read neg r (by omega)
  have hf : r < 9218868437227405312 := by have := of_decide_eq_true hb.1; rwa [g1] at this
  obtain ⟨-, f2, -⟩ := word_V neg r hf
  have hR := R_big r h1 hf
  have := hb.2
  rw [f2] at this
  have hn : (if neg then - (R r : Int) else (R r : Int)).natAbs = R r := by split <;> simp only [Int.natAbs_neg, Int.natAbs_natCast]
  rw [hn] at this
  exact absurd this (Nat.not_le.2 hR)

theorem sum_near (s t : Bool) (m n : Nat) (i j : Int) : ∃ neg, ((Ieee.Datum.number s m i).sum (.number t n j)).map Ieee.double.write = some (Ieee.double.nearest neg (Ieee.signed s m (i - min i j).toNat + Ieee.signed t n (j - min i j).toNat).natAbs (min i j)) := ⟨_, rfl⟩

theorem sub_zero_big (x : Nat) (hx : finB x = true) (h : 2 ^ 2097 ≤ (V x).natAbs) : ∃ neg, Ieee.double.sub 0 x = some (Ieee.double.nearest neg (V x).natAbs (-1074)) := by
  obtain ⟨m, p, e1, e2, -⟩ := read_fin x hx
  have e0 : Ieee.double.read 0 = .number false 0 (-1074) := by decide
  have hV := V_mk x m p e2
  have hA : (V x).natAbs = m * 2 ^ p := by rw [hV]; split <;> simp only [Int.natAbs_neg, Int.natAbs_natCast]
  unfold Ieee.Format.sub
  rw [e1, e0]
  obtain ⟨neg, e⟩ := sum_near false (!negB x) 0 m (-1074) (-1074 + (p : Int))
  refine ⟨neg, e.trans ?_⟩
  have hb : min (-1074 : Int) (-1074 + (p : Int)) = -1074 := by omega
  have hu : (-1074 + (p : Int) - -1074).toNat = p := by omega
  have hz : (-1074 - -1074 : Int).toNat = 0 := by decide
  have ht : (Ieee.signed false 0 0 + Ieee.signed (!negB x) m p).natAbs = m * 2 ^ p := by
    unfold Ieee.signed
    rw [Nat.shiftLeft_eq, Nat.shiftLeft_eq]
    cases negB x
    · simp only [Bool.not_false, if_true, Bool.false_eq_true, if_false, Nat.zero_mul]; omega
    · simp only [Bool.not_true, Bool.false_eq_true, if_false, Nat.zero_mul]; omega
  rw [hb, hu, hz, hA, ht]

theorem neg_lin (v u : Int) (n m : Nat) (hm : m = n + 1) (h2 : u.natAbs ≤ 2 ^ n) (r3 : 9007199254740992 * (u - (0 - v)).natAbs ≤ (0 - v).natAbs) : v.natAbs ≤ 2 ^ m := by
  rw [hm, Nat.pow_succ]
  omega

theorem neg_in (x : Nat) (w : World) (hl : Ieee.double.order x 0 = some .lt) (h : inB (fv .sub 0 x w) = true) : bd x 1475 := by
  have hb := in_bd _ h
  cases hx : finB x with
  | false =>
    exfalso
    rcases order_wild x 0 hx (by decide) with k1 | k1
    · rw [k1] at hl; cases hl
    · rw [k1] at hl
      rcases read_wild x hx with r1 | ⟨f, r1⟩
      · have e0 : Ieee.double.read 0 = .number false 0 (-1074) := by decide
        have hs : Ieee.double.sub 0 x = some (Ieee.double.write (.infinity (!negB x))) := by
          unfold Ieee.Format.sub
          rw [r1, e0]; rfl
        have hn : negB x = true := by
          cases hn : negB x with
          | true => rfl
          | false => rw [hn] at hl; have := Option.some.inj hl; cases this
        have hv : fv .sub 0 x w = Ieee.double.write (.infinity false) := by
          unfold fv
          have : floatBits .sub .f64 0 x = some (Ieee.double.write (.infinity (!negB x))) := hs
          rw [this, hn]; rfl
        rw [hv] at hb
        have := hb.1
        revert this; decide
      · have : Ieee.double.order x 0 = none := by
          unfold Ieee.Format.order
          rw [r1]; rfl
        rw [this] at k1; cases k1
  | true =>
    have hV : V 0 = 0 := by decide
    -- the difference is near; its amount is at most 2^1474
    by_cases hsz : (V 0 - V x).natAbs < 2 ^ 2097
    · obtain ⟨r, e, r1, r2, r3⟩ := sub_spec 0 x 2097 rfl (by decide) hx hsz
      have hf : fo .sub 0 x = some r := by
        show (Ieee.double.sub 0 x).bind _ = _
        rw [e]; show (if finB r then some r else none) = _; rw [if_pos r1]
      rw [fv_eq hf] at hb
      refine ⟨hx, ?_⟩
      have h2 := hb.2
      rw [hV] at r3
      exact neg_lin _ _ 1474 1475 rfl h2 r3
    · exfalso
      rw [hV, Int.zero_sub, Int.natAbs_neg] at hsz
      obtain ⟨neg, e⟩ := sub_zero_big x hx (Nat.le_of_not_lt hsz)
      have hv : fv .sub 0 x w = Ieee.double.nearest neg (V x).natAbs (-1074) := by
        unfold fv
        have : floatBits .sub .f64 0 x = some (Ieee.double.nearest neg (V x).natAbs (-1074)) := e
        rw [this]
      rw [hv] at hb
      exact big_out neg _ (Nat.le_of_not_lt hsz) hb



end

section

open Go.RowKit EP
attribute [local go_sem] ran_store


set_option maxRecDepth 100000 in
set_option maxHeartbeats 2000000 in
theorem ddiff_calls (xh xl yh yl : Nat) (w : World) :
    Calls Try.prog 27 #[.agg #[.float .f64 xh, .float .f64 xl], .agg #[.float .f64 yh, .float .f64 yl]] w (Pr w (diffP xh xl yh yl)) := by
  go_enter Try.func27, Try.ntmps27
  go_wp2_with fail
  go_region_with (first
    | (go_at_call 51; refine (less_calls yh yl _).mono ?_; rintro e w1 ⟨nh, nl, rfl, b1, H1⟩; have N1 : nh = Op.negFloat .f64 yh ∧ nl = Op.negFloat .f64 yl := H1 _ rfl; clear H1; obtain ⟨rfl, rfl⟩ := N1; have m0 : w1.cell? ⟨w.heap.size, 0, none⟩ = some (.float .f64 xh) := pcarry b1 (by go_simp); have m1 : w1.cell? ⟨w.heap.size, 1, none⟩ = some (.float .f64 xl) := pcarry b1 (by go_simp); have m2 : w1.cell? ⟨w.heap.size + 1 + 1, 0, none⟩ = some (.float .f64 0) := pcarry b1 (by go_simp); have m3 : w1.cell? ⟨w.heap.size + 1 + 1, 1, none⟩ = some (.float .f64 0) := pcarry b1 (by go_simp); have k2 : w1.frozen? ⟨w.heap.size + 1 + 1, 0, none⟩ = false := pcarryF (v := .float .f64 0) b1 (by go_simp) (by go_simp); have k3 : w1.frozen? ⟨w.heap.size + 1 + 1, 1, none⟩ = false := pcarryF (v := .float .f64 0) b1 (by go_simp) (by go_simp); have bw1 : Below w.heap.size w w1 := Below.trans (by repeat (first | exact Below.refl _ _ | assumption | refine Below.drew ?_ | refine below_drewN ?_ _ | refine Below.alloc ?_ (by first | (simp; done) | (simp; omega) | omega) _)) (b1.mono (by first | (simp; done) | (simp; omega) | omega)); clear b1)
    | (go_at_call 26; refine (dsum_calls xh xl _ _ _).mono ?_; rintro e w2 ⟨s, t, rfl, b2, H2⟩; have n2 := pcarry b2 m2; have n3 := pcarry b2 m3; have l2 := pcarryF b2 m2 k2; have l3 := pcarryF b2 m3 k3; have bw2 : Below w.heap.size w w2 := bw1.trans (b2.mono bw1.size)))
  all_goals go_wp2_with fail
  all_goals exact bodyPost_ret (v := .agg #[.float .f64 s, .float .f64 t]) (by simp [results, Try.results27, go_sem, n2, n3]) rfl ⟨_, _, rfl, by repeat (first | exact Below.refl _ _ | assumption | refine below_drewN ?_ _ | refine Below.setCell ?_ (by first | (simp; done) | (simp; omega) | omega) _ | refine Below.alloc ?_ (by first | (simp; done) | (simp; omega) | omega) _), H2⟩

/-- The amount of a float, by its bits. -/
def absF (x : Nat) : Nat := x % 9223372036854775808
theorem andNot_sign (x : Nat) (hx : x < 18446744073709551616) : bits .andNot .u64 (x : Int) 9223372036854775808 = ((absF x : Nat) : Int) := by
  have h := u64_andNot_nat x 9223372036854775808 hx (by decide)
  have e : (18446744073709551615 - 9223372036854775808 : Nat) = 2 ^ 63 - 1 := by decide
  rw [e, Nat.and_two_pow_sub_one_eq_mod] at h
  exact h
theorem abits_run (x : Nat) (w : World) : (callFunc 24 #[.float .f64 x]).run Try.prog w = .ok (.value (.int .u64 (x : Int))) w := by
  rw [run_callFunc_extern (e := Extern.MathFloatBits.float64bits) Try.func24 (by kernel_rfl) (by kernel_rfl) (by kernel_rfl) (by kernel_rfl)]
  rfl
theorem afrom_run (x : Int) (w : World) : (callFunc 43 #[.int .u64 x]).run Try.prog w = .ok (.value (.float .f64 x.toNat)) w := by
  rw [run_callFunc_extern (e := Extern.MathFloatBits.float64frombits) Try.func43 (by kernel_rfl) (by kernel_rfl) (by kernel_rfl) (by kernel_rfl)]
  rfl

set_option maxRecDepth 100000 in
set_option maxHeartbeats 1000000 in
theorem mAbs_calls (x : Nat) (w : World) (hx : x < 18446744073709551616) :
    Calls Try.prog 22 #[.float .f64 x] w fun e w' => e = .returned (.float .f64 (absF x)) ∧ w' = w := by
  have f0 := abits_run
  have f1 := afrom_run
  have HA : Hid (bits .andNot .u64 (x : Int) 9223372036854775808 = ((absF x : Nat) : Int)) := andNot_sign x hx
  clear hx
  go_enter Try.func22, Try.ntmps22
  go_wp2_with fail
  go_ret
  rw [HA.out]
  exact ⟨rfl, rfl⟩

/-- 2^-300 at least; 2^300 at most; the sum is the first. -/
def le1 (y : Nat) : Bool := Ieee.double.order 3256102530588868608 y == some .lt || Ieee.double.order 3256102530588868608 y == some .eq
def le2 (y : Nat) : Bool := Ieee.double.order y 5958262307011166208 == some .lt || Ieee.double.order y 5958262307011166208 == some .eq
def sumEq (h l : Nat) : Bool := match Ieee.double.add h l with | some r => Ieee.double.order r h == some .eq | none => false
def rightP (h l : Nat) : Bool := if isZ h then isZ l else le1 (absF h) && (le2 (absF h) && sumEq h l)
theorem nan_order (x y c : Nat) (w : World) : Ieee.double.order ((Question.nanBits .f64 x y).cut (w.tape w.drawn (.nanBits .f64 x y))) c = none := by
  show Ieee.double.order ((w.tape w.drawn (.nanBits .f64 x y) % 2) * 2 ^ 63 + 0x7ff0000000000000 + 1 + (w.tape w.drawn (.nanBits .f64 x y) / 2) % (2 ^ 52 - 1)) c = none
  generalize w.tape w.drawn (.nanBits .f64 x y) = t
  have hr : ∃ f, Ieee.double.read ((t % 2) * 2 ^ 63 + 0x7ff0000000000000 + 1 + (t / 2) % (2 ^ 52 - 1)) = .nan (negB ((t % 2) * 2 ^ 63 + 0x7ff0000000000000 + 1 + (t / 2) % (2 ^ 52 - 1))) f := by
    have hm : ((t % 2) * 2 ^ 63 + 0x7ff0000000000000 + 1 + (t / 2) % (2 ^ 52 - 1)) % 9223372036854775808 = 9218868437227405313 + (t / 2) % 4503599627370495 := by omega
    have hs : Ieee.double.signWeight = 9223372036854775808 := by decide
    have hbi : Ieee.double.binade = 4503599627370496 := by decide
    have hir : Ieee.double.infRung = 9218868437227405312 := by decide
    unfold Ieee.Format.read
    dsimp only
    rw [hs, hbi, hir, hm]
    rw [if_neg (by omega), if_neg (by omega), if_neg (by omega)]
    exact ⟨_, rfl⟩
  obtain ⟨f, hr⟩ := hr
  unfold Ieee.Format.order
  rw [hr]
  rfl
theorem sumEq_fv (h l : Nat) (w : World) : (Ieee.double.order (fv .add h l w) h == some .eq) = sumEq h l := by
  unfold fv sumEq
  show (Ieee.double.order (match Ieee.double.add h l with | some r => r | none => _) h == some .eq) = _
  cases Ieee.double.add h l with
  | some r => rfl
  | none => simp only; rw [nan_order]; rfl
theorem R_zero (r : Nat) (h : R r = 0) : r = 0 := by
  unfold R at h
  split at h
  · exact h
  · have := pow2_pos (r / 4503599627370496 - 1)
    rcases Nat.mul_eq_zero.1 h with h | h <;> omega
theorem absF_zero (h : Nat) (hz : isZ h = true) : absF h = 0 := by
  obtain ⟨_, hv⟩ := zero_V h hz
  unfold V at hv
  have : R (h % 9223372036854775808) = 0 := by split at hv <;> omega
  exact R_zero _ this
theorem le1_zero : le1 0 = false := by decide +kernel

theorem or_no {o : Option Ordering} {a b : Ordering} (h : ¬ (o = some a ∨ o = some b)) : (o == some a || o == some b) = false := by
  rw [not_or] at h
  rw [beq_eq_false_iff_ne.2 h.1, beq_eq_false_iff_ne.2 h.2]; rfl

set_option maxRecDepth 100000 in
set_option maxHeartbeats 2000000 in
theorem dRight_calls (h l : Nat) (w : World) (hh : h < 18446744073709551616) :
    Calls Try.prog 6 #[.agg #[.float .f64 h, .float .f64 l]] w fun e w' => e = .returned (.bool (rightP h l)) ∧ Below w.heap.size w w' := by
  have r1 := ran_add Try.prog
  have q1 : ∀ x y w, (Op.equalIn 9999 22 (.float .f64 x) (.float .f64 y)).run Try.prog w = .ok (Ieee.double.order x y == some .eq) w := fun x y w => eqF Try.prog 22 9998 x y w Try.underlying22
  have HA : Hid _ := fun w => mAbs_calls h w hh
  have HS : Hid (∀ w, (FloatKind.f64.format.order (fv .add h l w) h == some .eq) = sumEq h l) := sumEq_fv h l
  have KEY : Hid (∀ w', Ending.returned (.bool (((FloatKind.f64.format.order 3256102530588868608 (absF h) == some .lt || FloatKind.f64.format.order 3256102530588868608 (absF h) == some .eq) && (FloatKind.f64.format.order (absF h) 5958262307011166208 == some .lt || FloatKind.f64.format.order (absF h) 5958262307011166208 == some .eq)) && (FloatKind.f64.format.order (fv .add h l w') h == some .eq))) = .returned (.bool ((le1 (absF h) && le2 (absF h)) && sumEq h l))) := fun w' => by rw [HS.out w']; rfl
  clear hh
  by_cases hb : isZ h = true ∧ isZ l = true
  · have z1 : (Ieee.double.order h 0 == some .eq) = true := hb.1
    have z2 : (Ieee.double.order l 0 == some .eq) = true := hb.2
    have HE : Hid (rightP h l = true) := by rw [Hid, rightP, if_pos hb.1]; exact hb.2
    clear hb
    go_enter Try.func6, Try.ntmps6
    go_wp2_with fail
    go_ret
    rw [HE.out]
    exact ⟨rfl, (Below.refl _ _).alloc (Nat.le_refl _) _⟩
  · have HE : Hid (rightP h l = ((le1 (absF h) && le2 (absF h)) && sumEq h l)) := by
      rw [Hid, rightP]
      cases hz : isZ h with
      | true =>
        rw [if_pos rfl, absF_zero h hz, le1_zero]
        cases hl : isZ l with
        | true => exact absurd ⟨hz, hl⟩ hb
        | false => rfl
      | false => rw [if_neg (by simp), Bool.and_assoc]
    cases hz : isZ h with
    | true =>
      have z1 : (Ieee.double.order h 0 == some .eq) = true := hz
      have z2 : (Ieee.double.order l 0 == some .eq) = false := by
        cases hl : isZ l with
        | true => exact absurd ⟨hz, hl⟩ hb
        | false => exact hl
      clear hb hz
      go_enter Try.func6, Try.ntmps6
      go_wp2_with fail
      refine Calls.mono (HA.out _) ?_
      rintro e w1 ⟨rfl, rfl⟩
      go_wp2_with fail
      all_goals go_ret
      · rw [HE.out]; exact ⟨KEY.out _, by repeat (first | exact Below.refl _ _ | assumption | refine below_drewN ?_ _ | refine Below.setCell ?_ (by first | (simp; done) | (simp; omega) | omega) _ | refine Below.alloc ?_ (by first | (simp; done) | (simp; omega) | omega) _)⟩
      · rename_i hno
        rw [HE.out, show le2 (absF h) = false from or_no hno, Bool.and_false, Bool.false_and]
        exact ⟨rfl, by repeat (first | exact Below.refl _ _ | assumption | refine below_drewN ?_ _ | refine Below.setCell ?_ (by first | (simp; done) | (simp; omega) | omega) _ | refine Below.alloc ?_ (by first | (simp; done) | (simp; omega) | omega) _)⟩
      · rename_i hno
        rw [HE.out, show le1 (absF h) = false from or_no hno, Bool.false_and, Bool.false_and]
        exact ⟨rfl, by repeat (first | exact Below.refl _ _ | assumption | refine below_drewN ?_ _ | refine Below.setCell ?_ (by first | (simp; done) | (simp; omega) | omega) _ | refine Below.alloc ?_ (by first | (simp; done) | (simp; omega) | omega) _)⟩
    | false =>
      have z1 : (Ieee.double.order h 0 == some .eq) = false := hz
      clear hb hz
      go_enter Try.func6, Try.ntmps6
      go_wp2_with fail
      refine Calls.mono (HA.out _) ?_
      rintro e w1 ⟨rfl, rfl⟩
      go_wp2_with fail
      all_goals go_ret
      · rw [HE.out]; exact ⟨KEY.out _, by repeat (first | exact Below.refl _ _ | assumption | refine below_drewN ?_ _ | refine Below.setCell ?_ (by first | (simp; done) | (simp; omega) | omega) _ | refine Below.alloc ?_ (by first | (simp; done) | (simp; omega) | omega) _)⟩
      · rename_i hno
        rw [HE.out, show le2 (absF h) = false from or_no hno, Bool.and_false, Bool.false_and]
        exact ⟨rfl, by repeat (first | exact Below.refl _ _ | assumption | refine below_drewN ?_ _ | refine Below.setCell ?_ (by first | (simp; done) | (simp; omega) | omega) _ | refine Below.alloc ?_ (by first | (simp; done) | (simp; omega) | omega) _)⟩
      · rename_i hno
        rw [HE.out, show le1 (absF h) = false from or_no hno, Bool.false_and, Bool.false_and]
        exact ⟨rfl, by repeat (first | exact Below.refl _ _ | assumption | refine below_drewN ?_ _ | refine Below.setCell ?_ (by first | (simp; done) | (simp; omega) | omega) _ | refine Below.alloc ?_ (by first | (simp; done) | (simp; omega) | omega) _)⟩

end

section

open Go.RowKit EP
attribute [local go_sem] ran_store


theorem cmp_swapN (a b : Nat) : (compare a b).swap = compare b a := by
  show (compareOfLessAndEq a b).swap = compareOfLessAndEq b a
  unfold compareOfLessAndEq
  rcases Nat.lt_trichotomy a b with h | h | h
  · rw [if_pos h, if_neg (by omega), if_neg (by omega)]; rfl
  · subst h; rw [if_neg (by omega), if_pos rfl]; rfl
  · rw [if_neg (by omega), if_neg (by omega), if_pos h]; rfl
theorem cmp_swapI (a b : Int) : (compare a b).swap = compare b a := by
  show (compareOfLessAndEq a b).swap = compareOfLessAndEq b a
  unfold compareOfLessAndEq
  rcases Int.lt_trichotomy a b with h | h | h
  · rw [if_pos h, if_neg (by omega), if_neg (by omega)]; rfl
  · subst h; rw [if_neg (by omega), if_pos rfl]; rfl
  · rw [if_neg (by omega), if_neg (by omega), if_pos h]; rfl
theorem order_swap (x y : Nat) : Ieee.double.order y x = (Ieee.double.order x y).map Ordering.swap := by
  unfold Ieee.Format.order
  cases Ieee.double.read x with
  | nan s f => cases Ieee.double.read y <;> rfl
  | infinity s =>
    cases Ieee.double.read y with
    | nan t f => rfl
    | infinity t => show some _ = some _; rw [cmp_swapN]
    | number t n j => show some _ = some _; cases s <;> rfl
  | number s m i =>
    cases Ieee.double.read y with
    | nan t f => rfl
    | infinity t => show some _ = some _; cases t <;> rfl
    | number t n j =>
      show some _ = some _
      rw [cmp_swapI, Int.min_comm]
def ge1 (y : Nat) : Bool := Ieee.double.order y 3256102530588868608 == some .gt || Ieee.double.order y 3256102530588868608 == some .eq
theorem ge1_le1 (y : Nat) : ge1 y = le1 y := by
  unfold ge1 le1
  rw [order_swap 3256102530588868608 y]
  cases Ieee.double.order 3256102530588868608 y with
  | none => rfl
  | some o => cases o <;> rfl
theorem xor_sign (x : Nat) (h1 : 9223372036854775808 ≤ x) (h2 : x < 18446744073709551616) : Op.negFloat .f64 x = absF x := by
  obtain ⟨r, rfl⟩ : ∃ r, x = 2 ^ 63 + r := ⟨x - 2 ^ 63, by omega⟩
  have hr : r < 2 ^ 63 := by omega
  have ha : absF (2 ^ 63 + r) = r := by unfold absF; omega
  rw [ha]
  show (2 ^ 63 + r) ^^^ 2 ^ 63 = r
  refine Nat.eq_of_testBit_eq fun i => ?_
  rw [Nat.testBit_xor, Nat.testBit_two_pow]
  rcases Nat.lt_trichotomy i 63 with h | h | h
  · rw [Nat.testBit_two_pow_add_gt h, show decide (63 = i) = false from decide_eq_false (by omega), Bool.xor_false]
  · subst h; rw [Nat.testBit_two_pow_add_eq]; simp
  · have : (2 ^ 63 + r).testBit i = false := Nat.testBit_lt_two_pow (Nat.lt_of_lt_of_le (show 2 ^ 63 + r < 2 ^ 64 by omega) (Nat.pow_le_pow_right (by decide) (by omega)))
    have h3 : r.testBit i = false := Nat.testBit_lt_two_pow (Nat.lt_of_lt_of_le hr (Nat.pow_le_pow_right (by decide) (by omega)))
    rw [this, h3, show decide (63 = i) = false from decide_eq_false (by omega)]; rfl
theorem neg_of_lt (x : Nat) (hx : x < 18446744073709551616) (h : Ieee.double.order x 0 = some .lt) : 9223372036854775808 ≤ x := by
  refine Nat.le_of_not_lt fun hlt => ?_
  have hn : negB x = false := by unfold negB; rw [show x / 9223372036854775808 = 0 by omega]; rfl
  cases hf : finB x with
  | true =>
    have := order_lt_V x 0 hf (by decide) h
    have h0 : V 0 = 0 := by decide
    have h2 : V x = (R (x % 9223372036854775808) : Int) := by unfold V; rw [hn]; rfl
    rw [h0, h2] at this
    omega
  | false =>
    rcases order_wild x 0 hf (by decide) with k | k
    · rw [k] at h; cases h
    · rw [k, hn] at h; cases h
theorem pos_of_gt (x : Nat) (hx : x < 18446744073709551616) (h : Ieee.double.order x 0 = some .gt) : absF x = x := by
  unfold absF
  refine Nat.mod_eq_of_lt (Nat.lt_of_not_le fun hle => ?_)
  have hn : negB x = true := by unfold negB; rw [show x / 9223372036854775808 = 1 by omega]; rfl
  cases hf : finB x with
  | true =>
    have := order_gt_V x 0 hf (by decide) h
    have h0 : V 0 = 0 := by decide
    have h2 : V x = - (R (x % 9223372036854775808) : Int) := by unfold V; rw [hn]; rfl
    rw [h0, h2] at this
    omega
  | false =>
    rcases order_wild x 0 hf (by decide) with k | k
    · rw [k] at h; cases h
    · rw [k, hn] at h; cases h
theorem order_none (x c : Nat) (h : Ieee.double.order x 0 = none) : Ieee.double.order x c = none := by
  cases hf : finB x with
  | true => rw [order_fin x 0 hf (by decide)] at h; cases h
  | false =>
    rcases read_wild x hf with r | ⟨f, r⟩
    · obtain ⟨m, p, e, -⟩ := read_fin 0 (by decide)
      unfold Ieee.Format.order at h
      rw [r, e] at h; cases h
    · unfold Ieee.Format.order
      rw [r]; rfl
/-- Of what is no number: the bits without the sign are none, either. -/
theorem nan_abs (x : Nat) (h : Ieee.double.order x 0 = none) : le1 (absF x) = false := by
  cases hf : finB x with
  | true => rw [order_fin x 0 hf (by decide)] at h; cases h
  | false =>
    have hm : absF x % 9223372036854775808 = x % 9223372036854775808 := by unfold absF; omega
    have hr : ∃ s f, Ieee.double.read (absF x) = .nan s f := by
      have hi : x % 9223372036854775808 ≠ 9218868437227405312 := fun e => by
        have hs : Ieee.double.signWeight = 9223372036854775808 := by decide
        have hbi : Ieee.double.binade = 4503599627370496 := by decide
        have hir : Ieee.double.infRung = 9218868437227405312 := by decide
        have hread : Ieee.double.read x = .infinity (negB x) := by
          unfold Ieee.Format.read
          dsimp only
          rw [hs, hbi, hir, e]; rfl
        obtain ⟨m, p, e0, -⟩ := read_fin 0 (by decide)
        unfold Ieee.Format.order at h
        rw [hread, e0] at h; cases h
      have hf' : finB (absF x) = false := by unfold finB at hf ⊢; rw [hm]; exact hf
      rcases read_wild (absF x) hf' with r | ⟨f, r⟩
      · exfalso
        have hs : Ieee.double.signWeight = 9223372036854775808 := by decide
        have hbi : Ieee.double.binade = 4503599627370496 := by decide
        have hir : Ieee.double.infRung = 9218868437227405312 := by decide
        have h' : ¬ x % 9223372036854775808 < 9218868437227405312 := of_decide_eq_false hf
        unfold Ieee.Format.read at r
        dsimp only at r
        rw [hs, hbi, hir, hm] at r
        rw [if_neg (by omega), if_neg h', if_neg hi] at r
        cases r
      · exact ⟨_, f, r⟩
    obtain ⟨s, f, hr⟩ := hr
    have hn : Ieee.double.order 3256102530588868608 (absF x) = none := by
      obtain ⟨m, p, e0, -⟩ := read_fin 3256102530588868608 (by decide)
      unfold Ieee.Format.order
      rw [hr, e0]; rfl
    unfold le1
    rw [hn]; rfl

set_option maxRecDepth 100000 in
set_option maxHeartbeats 1000000 in
theorem power_m300 (w : World) : Calls Try.prog 20 #[.int .i64 (-300)] w fun e w' => e = .returned (.float .f64 3256102530588868608) ∧ w' = w := by
  have f1 := afrom_run
  go_enter Try.func20, Try.ntmps20
  go_wp2_with fail
  go_ret
  exact ⟨rfl, rfl⟩

set_option maxRecDepth 100000 in
set_option maxHeartbeats 1000000 in
theorem power_p300 (w : World) : Calls Try.prog 20 #[.int .i64 (300)] w fun e w' => e = .returned (.float .f64 5958262307011166208) ∧ w' = w := by
  have f1 := afrom_run
  go_enter Try.func20, Try.ntmps20
  go_wp2_with fail
  go_ret
  exact ⟨rfl, rfl⟩

set_option maxRecDepth 100000 in
set_option maxHeartbeats 1000000 in
theorem power_m80 (w : World) : Calls Try.prog 20 #[.int .i64 (-80)] w fun e w' => e = .returned (.float .f64 4246894448610377728) ∧ w' = w := by
  have f1 := afrom_run
  go_enter Try.func20, Try.ntmps20
  go_wp2_with fail
  go_ret
  exact ⟨rfl, rfl⟩

set_option maxRecDepth 100000 in
set_option maxHeartbeats 1000000 in
theorem power_p100 (w : World) : Calls Try.prog 20 #[.int .i64 (100)] w fun e w' => e = .returned (.float .f64 5057542381537067008) ∧ w' = w := by
  have f1 := afrom_run
  go_enter Try.func20, Try.ntmps20
  go_wp2_with fail
  go_ret
  exact ⟨rfl, rfl⟩

set_option maxRecDepth 100000 in
set_option maxHeartbeats 1000000 in
theorem power_p301 (w : World) : Calls Try.prog 20 #[.int .i64 (301)] w fun e w' => e = .returned (.float .f64 5962765906638536704) ∧ w' = w := by
  have f1 := afrom_run
  go_enter Try.func20, Try.ntmps20
  go_wp2_with fail
  go_ret
  exact ⟨rfl, rfl⟩

theorem isZ_abs (x : Nat) (hx : x < 18446744073709551616) (hz : isZ x = false) : isZ (absF x) = false := by
  cases h : isZ (absF x) with
  | false => rfl
  | true =>
    have h0 := absF_zero (absF x) h
    have : x = 0 ∨ x = 9223372036854775808 := by unfold absF at h0; omega
    rcases this with e | e
    · subst e; revert hz; decide +kernel
    · subst e; revert hz; decide +kernel



end

end Go.Proofs.Ytlbaphijmonjoaa.Fp

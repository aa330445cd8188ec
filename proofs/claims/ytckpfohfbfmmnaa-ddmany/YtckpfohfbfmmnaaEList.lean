/- Lists of floats in memory; the walks of eft's small functions and of Grow. -/
import Derived.Test.YtckpfohfbfmmnaaEBound
import Derived.Test.YtckpfohfbfmmnaaRows
import Derived.WalkSpells
import Derived.Deep.QuietTactic
import Derived.BigQuiet
import Derived.Maps.AppendAt
import Derived.Laws.AppendOwnNone
import Derived.Laws.MakeOwn
import Derived.Laws.OwnMore
import Derived.OwnWalk
import Derived.LoopN
namespace Go.Proofs.Ytckpfohfbfmmnaa
open Go.RowKit EP

/-- A slice of floats that can be read: its elements are xs. -/
def IsF (w : World) (a : Option Addr) (len cap : Nat) (xs : List Nat) : Prop :=
  len = xs.length ∧ (len ≤ cap ∧ (a = none → cap = 0)) ∧ ∀ i, i < len → ∃ b off, a = some ⟨b, off, none⟩ ∧ b < w.heap.size ∧ w.cell? ⟨b, off + i, none⟩ = some (.float .f64 (xs.getD i 0))
theorem IsF.keep {w w' : World} {a : Option Addr} {len cap : Nat} {xs : List Nat} (h : IsF w a len cap xs) (hb : Below w.heap.size w w') : IsF w' a len cap xs := by
  obtain ⟨h1, h4, h3⟩ := h
  refine ⟨h1, h4, fun i hi => ?_⟩
  obtain ⟨b, off, e1, e2, e3⟩ := h3 i hi
  exact ⟨b, off, e1, Nat.lt_of_lt_of_le e2 hb.size, (hb.cell (p := ⟨b, off + i, none⟩) e2).trans e3⟩
/-- A slice of floats in memory from block B on, of the call's own. -/
def OwF (B : Nat) (w : World) (a : Option Addr) (cv : Nat) (L : List Nat) : Prop :=
  w.ownsRow B 22 1 (.slice a L.length cv) L.length (L.map (Value.float .f64))
theorem owF_nil (B : Nat) (w : World) : OwF B w none 0 [] := World.ownsRow_nil _ _ _ _
theorem OwF.isF {B cv : Nat} {w : World} {a : Option Addr} {L : List Nat} (h : OwF B w a cv L) : IsF w a L.length cv L := by
  refine ⟨rfl, ?_, fun i hi => ?_⟩
  · rcases h.2 with ⟨hv, h0⟩ | ⟨g, cap, cur, hv, _, _, hn, _⟩
    · simp only [Value.slice.injEq] at hv
      exact ⟨by omega, fun _ => hv.2.2⟩
    · simp only [Value.slice.injEq] at hv
      exact ⟨by omega, fun e => by rw [hv.1] at e; cases e⟩
  rcases h.2 with ⟨_, h0⟩ | ⟨g, cap, cur, hv, _⟩
  · omega
  · have hao : a = some ⟨g, 0, none⟩ := by
      simp only [Value.slice.injEq] at hv
      exact hv.1
    subst hao
    have hc := h.cells (g := g) rfl i (.float .f64 (L.getD i 0)) (by simp [hi])
    have hc' : w.cell? ⟨g, 0 + i, none⟩ = some (.float .f64 (L.getD i 0)) := by
      by_cases h0 : i = 0
      · subst h0; simpa [Addr.add] using hc
      · simpa [Addr.add, h0] using hc
    exact ⟨g, 0, rfl, World.block_lt_of_cell? _ _ hc', hc'⟩
theorem OwF.low {B B' cv : Nat} {w : World} {a : Option Addr} {L : List Nat} (h : OwF B w a cv L) (hB : B' ≤ B) : OwF B' w a cv L := by
  refine ⟨h.1, ?_⟩
  rcases h.2 with h0 | ⟨g, cap, cur, hv, hg, r⟩
  · exact Or.inl h0
  · exact Or.inr ⟨g, cap, cur, hv, Nat.le_trans hB hg, r⟩
theorem ebelow_trans {a b c : World} (h : Below a.heap.size a b) (k : Below b.heap.size b c) : Below a.heap.size a c := h.trans (k.mono h.size)
theorem float_info : (Try.prog.info? 22).map (fun i => (i.zero, i.size, i.bytes)) = some (some (.float .f64 0), 1, 8) := by kernel_rfl

/-- Is a float 0? -/
def isZ (x : Nat) : Bool := Ieee.double.order x 0 == some .eq
def beh (L : List Nat) (x : Nat) : List Nat := if isZ x then L else L ++ [x]
/-- The last one, 0 of none. -/
def lastF (L : List Nat) : Nat := L.getD (L.length - 1) 0

set_option maxHeartbeats 1000000 in
theorem last_calls (a : Option Addr) (len cap : Nat) (xs : List Nat) (w : World) (h : IsF w a len cap xs) (hm : len ≤ 17592186044416) :
    Calls Try.prog 47 #[.slice a len cap] w fun e w' => e = .returned (.float .f64 (lastF xs)) ∧ w' = w := by
  cases len with
  | zero =>
    have hx : xs = [] := List.length_eq_zero_iff.1 h.1.symm
    subst hx
    go_enter Try.func47, Try.ntmps47
    go_wp2_with fail
    go_ret
    exact ⟨rfl, rfl⟩
  | succ m =>
    obtain ⟨b, off, rfl, _, hc⟩ := h.2.2 m (by omega)
    have HX : Hid (xs.getD m 0 = lastF xs) := by rw [Hid, lastF, ← h.1]; rfl
    generalize xs.getD m 0 = x at *
    have hcap := h.2.1.1
    go_enter Try.func47, Try.ntmps47
    go_wp2_with fail
    go_ret
    rw [← HX.out]
    exact ⟨rfl, rfl⟩

set_option maxHeartbeats 1000000 in
theorem finite_calls (x : Nat) (w : World) :
    Calls Try.prog 78 #[.float .f64 x] w fun e w' => ∃ b, e = .returned (.bool b) ∧ Dr w w' ∧ (finB x = true → b = true) := by
  have r2 := run_sub Try.prog
  go_enter Try.func78, Try.ntmps78
  go_wp2_with fail
  go_ret
  refine ⟨_, rfl, fw_dr _ _ _ _, fun hx => ?_⟩
  obtain ⟨r, e, h1, h2, h3⟩ := sub_spec x x 2097 rfl hx hx (by rw [Int.sub_self]; exact Nat.two_pow_pos 2097)
  have hf : fo .sub x x = some r := by
    show (Ieee.double.sub x x).bind _ = _
    rw [e]; show (if finB r then some r else none) = _; rw [if_pos h1]
  rw [fv_eq hf]
  have hv : V r = 0 := by rw [Int.sub_self] at h3; simp at h3; omega
  show (Ieee.double.order r 0 == some .eq) = true
  rw [order_fin r 0 h1 (by decide), hv]
  decide

theorem owF_snoc {B : Nat} {w : World} {v : Value} {L : List Nat} {x : Nat} (h : w.ownsRow B 22 1 v (L.length + 1) (L.map (Value.float .f64) ++ [Value.float .f64 x])) : ∃ g cap, v = .slice (some ⟨g, 0, none⟩) (L.length + 1) cap ∧ OwF B w (some ⟨g, 0, none⟩) cap (L ++ [x]) := by
  obtain ⟨g, cap, hv⟩ : ∃ g cap, v = .slice (some ⟨g, 0, none⟩) (L.length + 1) cap := by
    rcases h.2 with ⟨_, h0⟩ | ⟨g, cap, _, h0, _⟩
    · omega
    · exact ⟨g, cap, h0⟩
  subst hv
  refine ⟨g, cap, rfl, ?_⟩
  unfold OwF
  rw [List.length_append, List.map_append]
  exact h

set_option maxHeartbeats 2000000 in
theorem behind_calls (B : Nat) (a : Option Addr) (cv : Nat) (L : List Nat) (x : Nat) (w : World) (h : OwF B w a cv L) (hB : B ≤ w.heap.size) (hm : L.length ≤ 17592186044000) :
    Calls Try.prog 45 #[.slice a L.length cv, .float .f64 x] w fun e w' => ∃ (a' : Option Addr) (cv' : Nat), e = .returned (.slice a' (beh L x).length cv') ∧ OwF B w' a' cv' (beh L x) ∧ Below B w w' := by
  obtain ⟨i0, hi, hz0, hz1, hz2⟩ := info_parts float_info
  cases hz : isZ x with
  | true =>
    have hb : Hid (beh L x = L) := by rw [Hid, beh, hz]; rfl
    have hz' : (FloatKind.f64.format.order x 0 == some .eq) = true := hz
    clear hz
    go_enter Try.func45, Try.ntmps45
    go_wp2_with fail
    go_ret
    rw [hb.out]
    exact ⟨_, _, rfl, h, Below.refl _ _⟩
  | false =>
    have hb : Hid (beh L x = L ++ [x]) := by rw [Hid, beh, hz]; rfl
    have hz' : (FloatKind.f64.format.order x 0 == some .eq) = false := hz
    clear hz
    have hown := h
    unfold OwF at hown
    go_enter Try.func45, Try.ntmps45
    go_wp2_with (at_builtin; refine wpList_append_own _ rfl _ _ 29 rfl B 22 i0 (.float .f64 0) 1 8 Try.underlying29 hi hz0 hz1 hz2 rfl (by decide) _ _ _ rfl (hown.alloc _) ⟨w.heap.size, 0, none⟩ 1 1 [_] rfl rfl (cell_one_new _ _ _) (fun x hx => by simp at hx; subst hx; rfl) (by unfold maxLen; omega) (by omega) (by simp; omega) ?_; intro v' w3 hown' hgrow3 hnil3)
    obtain ⟨g3, cap3, hv3, hO3⟩ := owF_snoc hown'
    subst hv3
    have hb3 : Below B w w3 := ((Below.refl B w).alloc hB _).grown hgrow3 (by simp; omega) (fun q hq => (hown.lt q hq).1)
    go_ret
    rw [hb.out]
    exact ⟨_, _, by rw [List.length_append]; rfl, hO3, hb3⟩

/-- The steps of Grow: what there is of the sum, and of the errors that are not 0. -/
def growL : List Nat → Nat → List Nat → Option (Nat × List Nat)
  | [], q, L => some (q, L)
  | x :: l, q, L => (twoSumO q x).bind fun p => growL l p.1 (beh L p.2)
def growO (l : List Nat) (b : Nat) : Option (List Nat) := (growL l b []).map fun p => beh p.2 p.1
theorem beh_len (L : List Nat) (x : Nat) : L.length ≤ (beh L x).length ∧ (beh L x).length ≤ L.length + 1 := by
  unfold beh; split
  · omega
  · rw [List.length_append]; simp
theorem drop_cons (l : List Nat) (k : Nat) (h : k < l.length) : l.drop k = l.getD k 0 :: l.drop (k + 1) := by
  rw [List.drop_eq_getElem_cons h]; simp [List.getD, h]

set_option maxRecDepth 100000 in
set_option maxHeartbeats 4000000 in
theorem grow_calls (a : Option Addr) (len cap : Nat) (xs : List Nat) (b : Nat) (w : World) (h : IsF w a len cap xs) (hm : len ≤ 17592186043000) :
    Calls Try.prog 19 #[.slice a len cap, .float .f64 b] w fun e w' => ∃ (a' : Option Addr) (cv' : Nat) (L : List Nat), e = .returned (.slice a' L.length cv') ∧ OwF w.heap.size w' a' cv' L ∧ L.length ≤ len + 1 ∧ Below w.heap.size w w' ∧ ∀ r, growO xs b = some r → L = r := by
  obtain ⟨i0, hi, hz0, hz1, hz2⟩ := info_parts float_info
  obtain ⟨w1, hmk, hO1, hg1⟩ := run_make_own (P := Try.prog) w w.heap.size 29 22 i0 (.float .f64 0) 1 Try.underlying29 hi hz0 hz1 .i64 .i64 (len + 1) (by rw [hz2]; omega) (by unfold maxLen; omega) (Nat.le_refl _)
  have hb1 : Below w.heap.size w w1 := (Below.refl _ _).grown hg1 (Nat.le_refl _) (fun q hq => by cases hq)
  have hc1 : ((len + 1 : Nat) : Int) = (len : Int) + 1 := by omega
  rw [hc1] at hmk
  have HL : Hid (len = xs.length) := h.1
  have hcap := h.2.1.1
  go_enter Try.func19, Try.ntmps19
  go_wp2_with fail
  clear hmk
  go_loopw [5, 6, 17] (fun gv qv i wr => ∃ (k q : Nat) (L : List Nat) (ao : Option Addr) (cp : Nat), k ≤ len ∧ i = .int .i64 k ∧ qv = .float .f64 q ∧ gv = .slice ao L.length cp ∧ L.length ≤ k ∧ OwF w.heap.size wr ao cp L ∧ Below w.heap.size w wr ∧ ∀ r, growL xs b [] = some r → growL (xs.drop k) q L = some r) (fun _ _ i _ => len - (intOf i).toNat)
  case atStart => exact ⟨0, b, [], _, _, by omega, rfl, rfl, rfl, by simp, hO1, hb1, fun r hr => hr⟩
  case round =>
    obtain ⟨k, q, L, ao, cp, hk, rfl, rfl, rfl, hLk, hO, hbr, hrel⟩ := hrel
    have HR : Hid (∀ r, growL xs b [] = some r → growL (xs.drop k) q L = some r) := hrel
    clear hrel
    by_cases hlt : k < len
    · obtain ⟨bb, off, rfl, hbl, hc⟩ := (h.keep hbr).2.2 k hlt
      obtain ⟨x, hx⟩ : ∃ x, x = xs.getD k 0 := ⟨_, rfl⟩
      rw [← hx] at hc
      have HX : Hid (xs.drop k = x :: xs.drop (k + 1)) := by rw [Hid, hx]; exact drop_cons xs k (by rw [← HL.out]; exact hlt)
      have HS : Hid (w.heap.size ≤ wr.heap.size) := hbr.size
      clear hx
      go_wp2_with fail
      refine Calls.mono (twoSum_calls q x wr) ?_
      rintro e w2 ⟨s, t, rfl, d2, H2⟩
      have hb2 : Below w.heap.size w w2 := hbr.trans (d2.below _)
      have hO2 : OwF w.heap.size w2 ao cp L := by obtain ⟨n, rfl⟩ := d2; exact hO
      have HS2 : Hid (w.heap.size ≤ w2.heap.size) := by rw [Hid, d2.heap]; exact HS.out
      have H2' : Hid (∀ p, twoSumO q x = some p → s = p.1 ∧ t = p.2) := H2
      clear H2
      go_wp2_with fail
      refine Calls.mono (behind_calls w.heap.size ao cp L t w2 hO2 HS2.out (by omega)) ?_
      rintro e w3 ⟨a3, c3, rfl, hO3, hb3⟩
      have HB : Hid _ := beh_len L t
      go_wp2_with fail
      go_round
      case rel =>
        refine ⟨k + 1, s, beh L t, a3, c3, by omega, by go_num, rfl, rfl, by have := HB.out; omega, hO3, hb2.trans hb3, fun r hr => ?_⟩
        have h1 := HR.out r hr
        rw [HX.out] at h1
        obtain ⟨p, e1, e2⟩ := Option.bind_eq_some_iff.1 h1
        obtain ⟨rfl, rfl⟩ := H2'.out p e1
        exact e2
      case measure => simp [intOf]; omega
    · have hkl : k = len := by omega
      subst hkl
      go_wp2_with fail
      refine Calls.mono (behind_calls w.heap.size ao cp L q wr hO hbr.size (by omega)) ?_
      rintro e w3 ⟨a3, c3, rfl, hO3, hb3⟩
      go_wp2_with fail
      go_ret
      have HB := beh_len L q
      refine ⟨a3, c3, _, rfl, hO3, by omega, hbr.trans hb3, fun r hr => ?_⟩
      unfold growO at hr
      cases hg : growL xs b [] with
      | none => rw [hg] at hr; cases hr
      | some p =>
        rw [hg] at hr
        have h1 := HR.out p hg
        rw [show xs.drop k = [] from List.drop_eq_nil_iff.2 (by rw [HL.out]; exact Nat.le_refl _)] at h1
        obtain rfl := Option.some.inj h1
        exact Option.some.inj hr
end Go.Proofs.Ytckpfohfbfmmnaa

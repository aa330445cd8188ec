/- slices.Concat of four lists of lines. -/
import Derived.Test.YtkkccnpmcbpdnaaGreatDoorSPL0
import Derived.Maps.AppendAt
import Derived.Laws.AppendOwnNone
import Derived.Laws.MakeOwn
import Derived.Laws.OwnMore
import Derived.OwnWalk
import Derived.LoopN
import Derived.Lib.AppendZerosOnto
import Derived.Lib.Walk
namespace Go.Proofs.YtkkccnpmcbpdnaaGreatDoor
open Go.RowKit

theorem line_info : (Tryz.prog.info? 60).map (fun i => (i.zero, i.size, i.bytes)) = some (some (.agg #[.nilFunc, .nilFunc]), 2, 16) := by kernel_rfl
def OwL (B : Nat) (w : World) (a : Option Addr) (n cv : Nat) (L : List Value) : Prop := w.ownsRow B 60 2 (.slice a n cv) n L
theorem owL_nil (B : Nat) (w : World) : OwL B w none 0 0 [] := World.ownsRow_nil _ _ _ _
theorem OwL.isC {B n cv : Nat} {w : World} {a : Option Addr} {L : List Value} (h : OwL B w a n cv L) : IsC w a n cv L := by
  refine ⟨h.1, ?_, fun i hi => ?_⟩
  · rcases h.2 with ⟨hv, h0⟩ | ⟨g, cap, cur, hv, _, _, hn, _⟩
    · simp only [Value.slice.injEq] at hv
      exact ⟨by omega, fun _ => hv.2.2⟩
    · simp only [Value.slice.injEq] at hv
      obtain ⟨rfl, _, rfl⟩ := hv
      exact ⟨hn, fun e => by cases e⟩
  · rcases h.2 with ⟨hv, h0⟩ | ⟨g, cap, cur, hv, _, hg, hn, _, hs, ht⟩
    · omega
    · simp only [Value.slice.injEq] at hv
      obtain ⟨rfl, _, rfl⟩ := hv
      refine ⟨g, 0, rfl, (Array.getElem?_eq_some_iff.1 hg).1, ?_⟩
      rw [Nat.zero_add, ← ht, List.getElem?_take_of_lt hi]
      simp [World.cell?, hg]

set_option maxRecDepth 100000 in
set_option maxHeartbeats 2000000 in
theorem growL_calls (n : Nat) (w : World) (hn : n ≤ 4096) :
    Calls Tryz.prog 150 #[.slice none 0 0, .int .i64 (n : Int)] w fun e w' => ∃ a cv, e = .returned (.slice a 0 cv) ∧ OwL w.heap.size w' a 0 cv [] ∧ Below w.heap.size w w' := by
  obtain ⟨i0, hi, hz0, hz1, hz2⟩ := info_parts line_info
  by_cases h0 : n = 0
  · subst h0
    go_enter Tryz.func150, Tryz.ntmps150
    go_wp2_with fail
    go_ret
    exact ⟨none, 0, rfl, owL_nil _ _, Below.refl _ _⟩
  · have hpos : (0 : Int) < (n : Int) := by omega
    have hold : (Builtin.firstCells i0.size 0 (.slice none 0 0)).run Tryz.prog w.drew = .ok ([] : List Value).toArray w.drew := run_firstCells_none w.drew i0.size 0 0 0
    have hrz : ∀ ty, _ := fun ty => Lib.run_append_grow_zeros w 53 3 ty 60 i0 (.agg #[.nilFunc, .nilFunc]) .i64 .i64 Tryz.underlying53 Tryz.underlying3 hi hz0 none 0 0 [] hold n (by omega) (by rw [hz1]; decide) (by omega) (by omega) (by rw [hz2]; omega) (by rw [hz2]; exact growslice_fits (by omega) (by omega))
    rw [Nat.zero_add] at hrz
    obtain ⟨G, hG⟩ : ∃ G, G = grownCap w n 0 60 := ⟨_, rfl⟩
    have hGn : n ≤ grownCap w n 0 60 := grownCap_ge w _ _ _
    have hG63 := grownCap_le_maxLen w n 0 60 (by unfold maxLen; omega)
    rw [← hG] at hrz hGn hG63
    have hsz : (([] : List Value).toArray ++ Builtin.zeroCells (Value.agg #[.nilFunc, .nilFunc]).cells n ++ Builtin.zeroCells (Value.agg #[.nilFunc, .nilFunc]).cells (G - n)).size = G * 2 := by
      simp [Builtin.zeroCells, Value.cells]
      omega
    generalize ([] : List Value).toArray ++ Builtin.zeroCells (Value.agg #[.nilFunc, .nilFunc]).cells n ++ Builtin.zeroCells (Value.agg #[.nilFunc, .nilFunc]).cells (G - n) = X at *
    have hO : OwL w.heap.size (w.drew.alloc (.cells X 60)) (some ⟨w.heap.size, 0, none⟩) 0 G [] := World.ownsRow_made w.drew X G (Nat.le_refl _) hG63 hsz
    clear hsz hG hold
    unfold maxLen at hG63
    go_enter Tryz.func150, Tryz.ntmps150
    go_wp2_with (at_builtin; refine Lib.wpList_append_run _ rfl _ _ _ _ rfl _ _ rfl rfl _ _ (hrz _) ?_)
    all_goals (go_ret; exact ⟨_, _, rfl, hO, (Below.refl _ _).drew.alloc (Nat.le_refl _) _⟩)

/-- An append of a whole list of lines, nil or not, behind a row of the call's own. -/
theorem app_isC {w : World} {ops : Array Oper} {rest : List Oper} {o : Oper} {act : Act} {Q : Exit → Act → World → Prop} (hgd : o.guard = none) (s x : Operand)
    (ho : o.op = .call { callee := .builtin .append, args := #[s, x], argTypes := #[53, 53] })
    (B : Nat) (ao : Option Addr) (n cv : Nat) (L : List Value) (hs : act.eval s = .slice ao n cv) (hown : OwL B w ao n cv L)
    (bo : Option Addr) (m c : Nat) (ys : List Value) (hx : act.eval x = .slice bo m c) (hF : IsC w bo m c ys) (h1 : ∀ u ∈ ys, u.oneCell' = true) (hm : n + m ≤ 4096) (hB : B ≤ w.heap.size)
    (h : ∀ a' cv' w', OwL B w' a' (n + m) cv' (L ++ ys) → Below B w w' → wpList Tryz.prog ops Q rest (act.put o.dst (.slice a' (n + m : Nat) cv')) w') : wpList Tryz.prog ops Q (o :: rest) act w := by
  obtain ⟨i0, hi, hz0, hz1, hz2⟩ := info_parts line_info
  cases bo with
  | none =>
    have hc0 := hF.2.1.2 rfl
    have hm0 : m = 0 := by have := hF.2.1.1; omega
    subst hc0 hm0
    have hy : ys = [] := List.length_eq_zero_iff.1 (by have := hF.1; omega)
    subst hy
    refine wpList_append_own_none hgd s x _ ho B 60 i0 2 Tryz.underlying53 hi _ _ _ hs hown hx ?_
    have := h ao cv w (by rw [List.append_nil]; exact hown) (Below.refl _ _)
    exact this
  | some ad =>
    refine wpList_append_own w hgd s x _ ho B 60 i0 (.agg #[.nilFunc, .nilFunc]) 2 16 Tryz.underlying53 hi hz0 hz1 hz2 rfl (by decide) _ _ _ hs hown ad m c ys hx hF.1 (fun j u hj => ?_) h1 (by unfold maxLen; omega) (by omega) hB ?_
    · have hl : j < ys.length := (List.getElem?_eq_some_iff.1 hj).1
      obtain ⟨b2, off2, e2, _, q2⟩ := hF.2.2 j (by have := hF.1; omega)
      simp only [Option.some.injEq] at e2
      subst e2
      rw [← hj, ← q2, Addr.add_lit]
    intro v' w' hown' hgrow _
    have hb : Below B w w' := (Below.refl B w).grown hgrow hB (fun q hq => (hown.lt q hq).1)
    obtain ⟨a', cv', hv⟩ : ∃ a' cv', v' = .slice a' (n + m) cv' := by
      rcases hown'.2 with ⟨e1, e2⟩ | ⟨g, cap, _, e1, _⟩
      · exact ⟨none, 0, by rw [e1, e2]⟩
      · exact ⟨_, cap, e1⟩
    subst hv
    exact h a' cv' w' hown' hb

def cN (n1 n2 n3 n4 : Nat) : Nat → Nat
  | 0 => 0
  | 1 => n1
  | 2 => n1 + n2
  | 3 => n1 + n2 + n3
  | _ => n1 + n2 + n3 + n4
def cL (v1 v2 v3 v4 : List Value) : Nat → List Value
  | 0 => []
  | 1 => v1
  | 2 => v1 ++ v2
  | 3 => v1 ++ v2 ++ v3
  | _ => v1 ++ v2 ++ v3 ++ v4

set_option maxRecDepth 100000 in
set_option maxHeartbeats 8000000 in
theorem concat4_calls (b : Nat) (a1 a2 a3 a4 : Option Addr) (n1 n2 n3 n4 c1 c2 c3 c4 : Nat) (v1 v2 v3 v4 : List Value) (w : World)
    (hc0 : w.cell? ⟨b, 0, none⟩ = some (.slice a1 n1 c1)) (hc1 : w.cell? ⟨b, 1, none⟩ = some (.slice a2 n2 c2)) (hc2 : w.cell? ⟨b, 2, none⟩ = some (.slice a3 n3 c3)) (hc3 : w.cell? ⟨b, 3, none⟩ = some (.slice a4 n4 c4))
    (h1 : IsC w a1 n1 c1 v1) (h2 : IsC w a2 n2 c2 v2) (h3 : IsC w a3 n3 c3 v3) (h4 : IsC w a4 n4 c4 v4) (o1 : ∀ u ∈ v1, u.oneCell' = true) (o2 : ∀ u ∈ v2, u.oneCell' = true) (o3 : ∀ u ∈ v3, u.oneCell' = true) (o4 : ∀ u ∈ v4, u.oneCell' = true)
    (m1 : n1 ≤ 64) (m2 : n2 ≤ 64) (m3 : n3 ≤ 64) (m4 : n4 ≤ 64) :
    Calls Tryz.prog 145 #[.slice (some ⟨b, 0, none⟩) 4 4] w fun e w' => ∃ a cv, e = .returned (.slice a (n1 + n2 + n3 + n4 : Nat) cv) ∧ IsC w' a (n1 + n2 + n3 + n4) cv (v1 ++ v2 ++ v3 ++ v4) ∧ Below w.heap.size w w' := by
  have HG : Hid _ := fun (n : Nat) (hn : n ≤ 4096) w => growL_calls n w hn
  have O1 : Hid _ := o1
  have O2 : Hid _ := o2
  have O3 : Hid _ := o3
  have O4 : Hid _ := o4
  clear o1 o2 o3 o4
  go_enter Tryz.func145, Tryz.ntmps145
  go_wp2_with fail
  go_loop [3, 5, 11] (fun sz _ i => ∃ k : Nat, k ≤ 4 ∧ i = .int .i64 k ∧ sz = .int .i64 (cN n1 n2 n3 n4 k : Nat)) (fun _ _ i => 4 - (intOf i).toNat)
  case atStart => exact ⟨0, by omega, rfl, rfl⟩
  case round =>
    obtain ⟨k, hk, rfl, rfl⟩ := hrel
    rcases (show k = 0 ∨ k = 1 ∨ k = 2 ∨ k = 3 ∨ k = 4 by omega) with rfl | rfl | rfl | rfl | rfl
    · rw [show cN n1 n2 n3 n4 0 = 0 from rfl]
      go_wp2_with fail
      go_round
      case rel => exact ⟨1, by omega, by go_num, by show Value.int _ _ = Value.int _ ((n1 : Nat) : Int); go_num⟩
      case measure => simp [intOf]
    · rw [show cN n1 n2 n3 n4 1 = n1 from rfl]
      go_wp2_with fail
      go_round
      case rel => exact ⟨2, by omega, by go_num, by show Value.int _ _ = Value.int _ ((n1 + n2 : Nat) : Int); go_num⟩
      case measure => simp [intOf]
    · rw [show cN n1 n2 n3 n4 2 = n1 + n2 from rfl]
      go_wp2_with fail
      go_round
      case rel => exact ⟨3, by omega, by go_num, by show Value.int _ _ = Value.int _ ((n1 + n2 + n3 : Nat) : Int); go_num⟩
      case measure => simp [intOf]
    · rw [show cN n1 n2 n3 n4 3 = n1 + n2 + n3 from rfl]
      go_wp2_with fail
      go_round
      case rel => exact ⟨4, by omega, by go_num, by show Value.int _ _ = Value.int _ ((n1 + n2 + n3 + n4 : Nat) : Int); go_num⟩
      case measure => simp [intOf]
    · rw [show cN n1 n2 n3 n4 4 = n1 + n2 + n3 + n4 from rfl]
      go_wp2_with fail
      refine Calls.mono (HG.out (n1 + n2 + n3 + n4) (by omega) _) ?_
      rintro e w1 ⟨ag, cg, rfl, hO1, hb1⟩
      go_wp2_with fail
      go_loopw [6, 8, 27] (fun nv _ i wr => ∃ (k : Nat) (ao : Option Addr) (cp : Nat), k ≤ 4 ∧ i = .int .i64 k ∧ nv = .slice ao (cN n1 n2 n3 n4 k : Nat) cp ∧ OwL w.heap.size wr ao (cN n1 n2 n3 n4 k : Nat) cp (cL v1 v2 v3 v4 k) ∧ Below w.heap.size w wr) (fun _ _ i _ => 4 - (intOf i).toNat)
      case atStart => exact ⟨0, ag, cg, by omega, rfl, rfl, hO1, hb1⟩
      case round =>
        obtain ⟨k, ao, cp, hk, rfl, rfl, hO, hbr⟩ := hrel
        have m0' := pcell hbr hc0
        have m1' := pcell hbr hc1
        have m2' := pcell hbr hc2
        have m3' := pcell hbr hc3
        have g1 := h1.keep hbr
        have g2 := h2.keep hbr
        have g3 := h3.keep hbr
        have g4 := h4.keep hbr
        have HS : Hid (w.heap.size ≤ wr.heap.size) := hbr.size
        clear hb1 hc0 hc1 hc2 hc3 h1 h2 h3 h4 hO1
        rcases (show k = 0 ∨ k = 1 ∨ k = 2 ∨ k = 3 ∨ k = 4 by omega) with rfl | rfl | rfl | rfl | rfl
        · rw [show cN n1 n2 n3 n4 0 = 0 from rfl, show cL v1 v2 v3 v4 0 = [] from rfl] at hO
          rw [show cN n1 n2 n3 n4 0 = 0 from rfl]
          go_wp2_with (at_builtin; refine app_isC rfl _ _ rfl w.heap.size ao (0) cp [] rfl hO a1 n1 c1 v1 rfl g1 O1.out (by omega) HS.out ?_; intro a9 c9 w9 hO9 hb9)
          go_round
          case rel => exact ⟨1, a9, c9, by omega, by go_num, rfl, by rw [Nat.zero_add, List.nil_append] at hO9; exact hO9, hbr.trans hb9⟩
          case measure => simp [intOf]
        · rw [show cN n1 n2 n3 n4 1 = n1 from rfl, show cL v1 v2 v3 v4 1 = v1 from rfl] at hO
          rw [show cN n1 n2 n3 n4 1 = n1 from rfl]
          go_wp2_with (at_builtin; refine app_isC rfl _ _ rfl w.heap.size ao (n1) cp v1 rfl hO a2 n2 c2 v2 rfl g2 O2.out (by omega) HS.out ?_; intro a9 c9 w9 hO9 hb9)
          go_round
          case rel => exact ⟨2, a9, c9, by omega, by go_num, rfl, hO9, hbr.trans hb9⟩
          case measure => simp [intOf]
        · rw [show cN n1 n2 n3 n4 2 = n1 + n2 from rfl, show cL v1 v2 v3 v4 2 = (v1 ++ v2) from rfl] at hO
          rw [show cN n1 n2 n3 n4 2 = n1 + n2 from rfl]
          go_wp2_with (at_builtin; refine app_isC rfl _ _ rfl w.heap.size ao (n1 + n2) cp (v1 ++ v2) rfl hO a3 n3 c3 v3 rfl g3 O3.out (by omega) HS.out ?_; intro a9 c9 w9 hO9 hb9)
          go_round
          case rel => exact ⟨3, a9, c9, by omega, by go_num, rfl, hO9, hbr.trans hb9⟩
          case measure => simp [intOf]
        · rw [show cN n1 n2 n3 n4 3 = n1 + n2 + n3 from rfl, show cL v1 v2 v3 v4 3 = (v1 ++ v2 ++ v3) from rfl] at hO
          rw [show cN n1 n2 n3 n4 3 = n1 + n2 + n3 from rfl]
          go_wp2_with (at_builtin; refine app_isC rfl _ _ rfl w.heap.size ao (n1 + n2 + n3) cp (v1 ++ v2 ++ v3) rfl hO a4 n4 c4 v4 rfl g4 O4.out (by omega) HS.out ?_; intro a9 c9 w9 hO9 hb9)
          go_round
          case rel => exact ⟨4, a9, c9, by omega, by go_num, rfl, hO9, hbr.trans hb9⟩
          case measure => simp [intOf]
        · rw [show cN n1 n2 n3 n4 4 = n1 + n2 + n3 + n4 from rfl, show cL v1 v2 v3 v4 4 = v1 ++ v2 ++ v3 ++ v4 from rfl] at hO
          rw [show cN n1 n2 n3 n4 4 = n1 + n2 + n3 + n4 from rfl]
          go_wp2_with fail
          go_ret
          exact ⟨ao, cp, rfl, hO.isC, hbr⟩
end Go.Proofs.YtkkccnpmcbpdnaaGreatDoor

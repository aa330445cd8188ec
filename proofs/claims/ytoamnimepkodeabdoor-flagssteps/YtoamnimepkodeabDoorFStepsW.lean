/- The walk of the statement FlagsSteps: it answers true for any list of steps, where the names stand. -/
import Derived.Test.YtoamnimepkodeabDoorFStepsD
import Derived.Test.YtoamnimepkodeabDoorFSticky
import Derived.Deep.RegionWith
import Derived.Deep.CutRange
namespace Go.Proofs.YtoamnimepkodeabDoor
open Go.RowKit

/-- A list of steps that came in: each step's kind and flags lie in its two cells. -/
def IsSteps (w : World) (a : Option Addr) (len : Nat) (zk zf : Nat → Int) : Prop :=
  len ≤ maxLen ∧ ∀ i, i < len → ∃ b off, a = some ⟨b, off, none⟩ ∧ b < w.heap.size ∧ w.cell? ⟨b, off + i * 2, none⟩ = some (.int .u8 (zk i)) ∧ w.cell? ⟨b, off + i * 2 + 1, none⟩ = some (.int .u8 (zf i)) ∧ F (zk i) ∧ F (zf i)
theorem IsSteps.at {w w' : World} {a : Option Addr} {len : Nat} {zk zf : Nat → Int} (h : IsSteps w a len zk zf) (hb : Below w.heap.size w w') {i : Nat} (hi : i < len) :
    ∃ b off, a = some ⟨b, off, none⟩ ∧ b < w.heap.size ∧ w'.cell? ⟨b, off + i * 2, none⟩ = some (.int .u8 (zk i)) ∧ w'.cell? ⟨b, off + i * 2 + 1, none⟩ = some (.int .u8 (zf i)) ∧ F (zk i) ∧ F (zf i) := by
  obtain ⟨b, off, h1, h2, h3, h4, h5, h6⟩ := h.2 i hi
  exact ⟨b, off, h1, h2, (hb.cell (p := ⟨b, off + i * 2, none⟩) h2).trans h3, (hb.cell (p := ⟨b, off + i * 2 + 1, none⟩) h2).trans h4, h5, h6⟩
theorem cell_keep {w w' : World} {b o : Nat} {v : Value} (h : w.cell? ⟨b, o, none⟩ = some v) (hb : Below w.heap.size w w') : w'.cell? ⟨b, o, none⟩ = some v :=
  (hb.cell (p := ⟨b, o, none⟩) (World.block_lt_of_cell? _ _ h)).trans h

theorem new_kept {w w1 : World} {a0 a1 : Value} {t : TypeId} (h : Below (w.alloc (.cells #[a0, a1] t)).drew.heap.size (w.alloc (.cells #[a0, a1] t)).drew w1) :
    w1.cell? ⟨w.heap.size, 0, none⟩ = some a0 ∧ w1.cell? ⟨w.heap.size, 1, none⟩ = some a1 ∧ w1.frozen? ⟨w.heap.size, 0, none⟩ = false ∧ w1.frozen? ⟨w.heap.size, 1, none⟩ = false := by
  have hs : w.heap.size < (w.alloc (.cells #[a0, a1] t)).drew.heap.size := by show w.heap.size < (w.alloc (.cells #[a0, a1] t)).heap.size; simp
  refine ⟨?_, ?_, ?_, ?_⟩
  · rw [h.cell (p := ⟨w.heap.size, 0, none⟩) hs]; go_simp
  · rw [h.cell (p := ⟨w.heap.size, 1, none⟩) hs]; go_simp
  · rw [h.frozen (p := ⟨w.heap.size, 0, none⟩) hs]; go_simp
  · rw [h.frozen (p := ⟨w.heap.size, 1, none⟩) hs]; go_simp

theorem do_set (fl k f : Int) (h0 : 0 ≤ fl) (h1 : fl ≤ 31) (hf : F f) : 0 ≤ doFl fl k f ∧ doFl fl k f ≤ 31 := by
  have hr := right_le f hf
  unfold F at hf
  have hu : 0 ≤ updV fl f ∧ updV fl f ≤ 31 := by
    unfold updV
    split
    · rename_i h; rw [hr] at h; simp only [decide_eq_true_eq] at h
      exact (or_set fl f h0 h1 hf.1 h).2
    · omega
  have hc : 0 ≤ clrV fl f ∧ clrV fl f ≤ 31 := by
    by_cases h : rightB f = true
    · rw [hr] at h; simp only [decide_eq_true_eq] at h
      rw [(take_set fl f h0 h1 hf.1 h).1]; exact (take_set fl f h0 h1 hf.1 h).2
    · unfold clrV; rw [if_neg h]; omega
  have hs : 0 ≤ setV fl f ∧ setV fl f ≤ 31 := by
    unfold setV
    split
    · rename_i h; rw [hr] at h; simp only [decide_eq_true_eq] at h; omega
    · omega
  unfold doFl; (repeat' split) <;> omega
theorem test_same (fl : Int) (h0 : 0 ≤ fl) (h1 : fl ≤ 31) : (testV fl 31 == fl) = true := by rw [test_set fl h0 h1]; simp

/-- Behind the document's step: its environment lies in a block of its own; the three others stand as they stood. -/
def AfterDo (w w' : World) (b X C : Nat) (fl m fl2 m2 : Int) (Y : Nat) : Prop :=
  Y ≠ b ∧ Y ≠ X ∧ Y ≠ C ∧ w.heap.size ≤ Y ∧ EnvAt w' Y fl2 m2 ∧ EnvAt w' b fl m ∧ EnvAt w' X fl m ∧ EnvAt w' C fl m ∧ Below w.heap.size w w'
theorem after_A {w w4 w5 : World} {b X C : Nat} {fl m : Int} (fl2 m2 : Int) (t : TypeId) (hE : EnvAt w4 b fl m) (hX : EnvAt w4 X fl m) (hC : EnvAt w4 C fl m) (hb : Below w.heap.size w w4)
    (h5 : Below w4.drew.heap.size w4.drew w5) : AfterDo w (w5.alloc (.cells #[.int .u8 fl2, .int .u8 m2] t)) b X C fl m fl2 m2 w5.heap.size := by
  have h6 : Below w4.heap.size w4 w5 := ⟨h5.os, h5.tape, h5.output, h5.size, h5.block⟩
  have hs := h6.size
  have hs' := hb.size
  refine ⟨?_, ?_, ?_, by omega, EnvAt.new _ _ _ _, box_env (hE.keep h6 hE.1) _, box_env (hX.keep h6 hX.1) _, box_env (hC.keep h6 hC.1) _, (fbelow_trans hb h6).alloc (by omega) _⟩
  · have := hE.1; omega
  · have := hX.1; omega
  · have := hC.1; omega
theorem after_B {w w4 w5 : World} {b X C : Nat} {fl m : Int} (fl2 m2 : Int) (t : TypeId) (hE : EnvAt w4 b fl m) (hX : EnvAt w4 X fl m) (hC : EnvAt w4 C fl m) (hb : Below w.heap.size w w4)
    (h5 : Below (w4.alloc (.cells #[.int .u8 0, .int .u8 0] t)).drew.heap.size (w4.alloc (.cells #[.int .u8 0, .int .u8 0] t)).drew w5) :
    AfterDo w ((w5.setCell ⟨w4.heap.size, 0, none⟩ (.int .u8 fl2)).setCell ⟨w4.heap.size, 1, none⟩ (.int .u8 m2)) b X C fl m fl2 m2 w4.heap.size := by
  have h6 : Below (w4.alloc (.cells #[.int .u8 0, .int .u8 0] t)).heap.size (w4.alloc (.cells #[.int .u8 0, .int .u8 0] t)) w5 := ⟨h5.os, h5.tape, h5.output, h5.size, h5.block⟩
  have hY := (EnvAt.new w4 0 0 t).keep h6 (by simp)
  have hs' := hb.size
  have nb : b ≠ w4.heap.size := by have := hE.1; omega
  have nX : X ≠ w4.heap.size := by have := hX.1; omega
  have nC : C ≠ w4.heap.size := by have := hC.1; omega
  have hE5 := (box_env hE (.cells #[.int .u8 0, .int .u8 0] t)).keep h6 (by have := hE.1; simp; omega)
  have hX5 := (box_env hX (.cells #[.int .u8 0, .int .u8 0] t)).keep h6 (by have := hX.1; simp; omega)
  have hC5 := (box_env hC (.cells #[.int .u8 0, .int .u8 0] t)).keep h6 (by have := hC.1; simp; omega)
  have g := gb_trans (gb_set w5 w4.heap.size 0 (.int .u8 fl2)) (gb_set _ w4.heap.size 1 (.int .u8 m2))
  refine ⟨fun e => nb e.symm, fun e => nX e.symm, fun e => nC e.symm, hs', (hY.set0 _).set1 _, hE5.other g nb, hX5.other g nX, hC5.other g nC, ?_⟩
  exact ((((hb.alloc hs' _).trans (h6.mono (by simp; omega))).setCell hs' _).setCell hs' _)

set_option maxRecDepth 100000 in
set_option maxHeartbeats 4000000 in
theorem flagsSteps_walk (a0 : Option Addr) (l0 c0 : Nat) (zk zf : Nat → Int) (w : World) (h0 : IsSteps w a0 l0 zk zf) (hN : Names w) :
    Calls Tryd.prog 7 #[.slice a0 l0 c0] w fun e w' => e = .returned (.bool true) ∧ Below w.heap.size w w' := by
  have m0 := h0.1
  unfold maxLen at m0
  go_enter Tryd.func7, Tryd.ntmps7
  go_wp2_with fail
  refine (eNew_calls _).mono ?_
  rintro e w1 ⟨rfl, rfl⟩
  have hE := EnvAt.new w 0 0 84
  have hb : Below w.heap.size w (w.alloc (.cells #[.int .u8 0, .int .u8 0] 84)) := (Below.refl _ _).alloc (Nat.le_refl _) _
  have hN1 := hN.keep hb
  generalize w.alloc (.cells #[.int .u8 0, .int .u8 0] 84) = w1 at *
  go_wp2_with fail
  refine (begins_calls _ hN1).mono ?_
  rintro e w2 ⟨rfl, hb2⟩
  replace hE := hE.keep hb2 hE.1
  replace hb := hb.trans (hb2.mono hb.size)
  clear hN1 hb2
  have hX := EnvAt.new w2 0 0 51
  have hs2 := hb.size
  have hne : w.heap.size ≠ w2.heap.size := by have := hE.1; omega
  have hwX : w.heap.size ≤ w2.heap.size := hs2
  replace hE := box_env hE (.cells #[.int .u8 0, .int .u8 0] 51)
  replace hb := hb.alloc hs2 (.cells #[.int .u8 0, .int .u8 0] 51)
  go_wp2_with fail
  generalize w2.alloc (.cells #[.int .u8 0, .int .u8 0] 51) = w3 at *
  generalize w2.heap.size = X at *
  go_loopw [3, 5] (fun v i wr => ∃ (k b : Nat) (fl m : Int), k ≤ l0 ∧ i = .int .i64 k ∧ v = .pointer (some ⟨b, 0, none⟩) ∧ w.heap.size ≤ b ∧ b ≠ X ∧ 0 ≤ fl ∧ fl ≤ 31 ∧ EnvAt wr b fl m ∧ EnvAt wr X fl m ∧ Below w.heap.size w wr) (fun _ i _ => l0 - (intOf i).toNat)
  case atStart => exact ⟨0, w.heap.size, 0, 0, by omega, rfl, rfl, Nat.le_refl _, hne, by omega, by omega, hE, hX, hb⟩
  case round =>
    obtain ⟨k, b, fl, m, hk, rfl, rfl, hwb, hbX, f0, f1, hE', hX', hb'⟩ := hrel
    clear hE hX hb
    by_cases hlt : k < l0
    · obtain ⟨g, off, ha, hg, q0, q1, hFk, hFf⟩ := h0.at hb' hlt
      subst ha
      go_wp2_with fail
      refine (eCopy_calls _ _ _ _ hE').mono ?_
      rintro e w4 ⟨rfl, rfl⟩
      have hC := EnvAt.new wr fl m 84
      have hbC : b ≠ wr.heap.size := by have := hE'.1; omega
      have hXC : X ≠ wr.heap.size := by have := hX'.1; omega
      replace hE' := box_env hE' (.cells #[.int .u8 fl, .int .u8 m] 84)
      replace hX' := box_env hX' (.cells #[.int .u8 fl, .int .u8 m] 84)
      have hsr := hb'.size
      have hq : Below wr.heap.size wr (wr.alloc (.cells #[.int .u8 fl, .int .u8 m] 84)) := (Below.refl _ _).alloc (Nat.le_refl _) _
      replace q0 := cell_keep q0 hq
      replace q1 := cell_keep q1 hq
      replace hb' := hb'.alloc hsr (.cells #[.int .u8 fl, .int .u8 m] 84)
      clear hq
      generalize wr.alloc (.cells #[.int .u8 fl, .int .u8 m] 84) = w4 at *
      generalize wr.heap.size = C at *
      obtain ⟨x1, x2, x3, x4, x5⟩ := id hX'
      have hgw : g < w4.heap.size := World.block_lt_of_cell? _ _ q0
      go_upto_region 9 with fail
      go_cut [7, 8, 9] from 20 to 79 (fun y wt no wx => ∃ Y : Nat, y = .pointer (some ⟨Y, 0, none⟩) ∧ wt = .int .u8 (doGot fl (zk k) (zf k)) ∧ no = .int .i64 (doErr (zk k) (zf k)) ∧ AfterDo w wx b X C fl m (doFl fl (zk k) (zf k)) (doM m (zk k) (zf k)) Y)
      case first =>
        go_region_with ((go_at_call 36; refine (rDo_calls _ _ _ _ _ hFf).mono ?_; rintro e w5 ⟨rfl, hb5⟩; first | (have y0 := new_kept hb5; obtain ⟨y1, y2, y3, y4⟩ := y0) | skip))
        all_goals
          go_wp2_with fail
          go_meet
          case rel => first | exact ⟨_, rfl, rfl, rfl, after_A _ _ _ hE' hX' hC hb' hb5⟩ | exact ⟨_, rfl, rfl, rfl, after_B _ _ _ hE' hX' hC hb' hb5⟩
      case rest =>
        obtain ⟨Y, rfl, rfl, rfl, hA⟩ := hcut
        clear hE' hX' hC hb' q0 q1 x1 x2 x3 x4 x5 hgw
        obtain ⟨nYb, nYX, nYC, hwY, hY, hE2, hX2, hC2, hb2⟩ := hA
        obtain ⟨g', off', ha', hg', q0, q1, _, _⟩ := h0.at hb2 hlt
        simp only [Option.some.injEq, Addr.mk.injEq, and_true] at ha'
        obtain ⟨rfl, rfl⟩ := ha'
        obtain ⟨s0, s1⟩ := do_set fl (zk k) (zf k) f0 f1 hFf
        have t1 := test_same fl f0 f1
        have t2 := test_same _ s0 s1
        clear hg'
        by_cases c : k % 5 = 4
        · skip
          have c5 : ((k : Int) % 5 == 4) = true := by simp; omega
          go_wp2_with fail
          refine (lDo_calls _ _ _ _ _ _ _ hE2).mono ?_
          rintro e w6 ⟨rfl, hE6, hg6⟩
          have hY6 := hY.other hg6 nYb
          have hX6 := hX2.other hg6 (Ne.symm hbX)
          have hC6 := hC2.other hg6 (Ne.symm hbC)
          have hb6 := hb2.trans (gb_below hg6 hwb hb2.size)
          clear hY hX2 hC2 hE2 hb2 hg6 q0 q1
          obtain ⟨y1, y2, y3, y4, y5⟩ := id hY6
          go_wp2_with fail
          refine (same_calls _ _ _ _ hE6 t2).mono ?_
          rintro e w7 ⟨rfl, hb7⟩
          have hE7 := hE6.keep hb7 hE6.1
          have hY7 := hY6.keep hb7 hY6.1
          have hX7 := hX6.keep hb7 hX6.1
          have hC7 := hC6.keep hb7 hC6.1
          have hb8 := hb6.trans (hb7.mono hb6.size)
          clear hE6 hY6 hX6 hC6 hb6 hb7 y1 y2 y3 y4 y5
          obtain ⟨x1, x2, x3, x4, x5⟩ := id hX7
          go_wp2_with fail
          refine (same_calls _ _ _ _ hC7 t1).mono ?_
          rintro e w8 ⟨rfl, hb9⟩
          have hE8 := hE7.keep hb9 hE7.1
          have hY8 := hY7.keep hb9 hY7.1
          have hX8 := hX7.keep hb9 hX7.1
          have hb10 := hb8.trans (hb9.mono hb8.size)
          clear hE7 hY7 hX7 hC7 hb8 hb9 x1 x2 x3 x4 x5
          go_wp2_with fail
          refine (eCopy_calls _ _ _ _ hE8).mono ?_
          rintro e w9 ⟨rfl, rfl⟩
          have hN8 := EnvAt.new w8 (doFl fl (zk k) (zf k)) (doM m (zk k) (zf k)) 84
          have nX8 : w8.heap.size ≠ X := by have := hX8.1; omega
          have hs8 := hb10.size
          have hY9 := box_env hY8 (.cells #[.int .u8 (doFl fl (zk k) (zf k)), .int .u8 (doM m (zk k) (zf k))] 84)
          have hX9 := box_env hX8 (.cells #[.int .u8 (doFl fl (zk k) (zf k)), .int .u8 (doM m (zk k) (zf k))] 84)
          have hb11 := hb10.alloc hs8 (.cells #[.int .u8 (doFl fl (zk k) (zf k)), .int .u8 (doM m (zk k) (zf k))] 84)
          clear hE8 hY8 hX8 hb10
          generalize w8.alloc (.cells #[.int .u8 (doFl fl (zk k) (zf k)), .int .u8 (doM m (zk k) (zf k))] 84) = w9 at *
          generalize w8.heap.size = D at *
          obtain ⟨y1, y2, y3, y4, y5⟩ := id hY9
          obtain ⟨x1, x2, x3, x4, x5⟩ := id hX9
          go_wp2_with fail
          go_roundw
          case rel => exact ⟨k + 1, D, _, _, by omega, by go_num, rfl, hs8, nX8, s0, s1, hN8.other (gb_trans (gb_set w9 X 0 _) (gb_set _ X 1 _)) nX8, (hX9.set0 _).set1 _, (hb11.setCell hwX _).setCell hwX _⟩
          case measure => simp [intOf]; omega
        · skip
          have c5 : ((k : Int) % 5 == 4) = false := by simp; omega
          go_wp2_with fail
          refine (lDo_calls _ _ _ _ _ _ _ hE2).mono ?_
          rintro e w6 ⟨rfl, hE6, hg6⟩
          have hY6 := hY.other hg6 nYb
          have hX6 := hX2.other hg6 (Ne.symm hbX)
          have hC6 := hC2.other hg6 (Ne.symm hbC)
          have hb6 := hb2.trans (gb_below hg6 hwb hb2.size)
          clear hY hX2 hC2 hE2 hb2 hg6 q0 q1
          obtain ⟨y1, y2, y3, y4, y5⟩ := id hY6
          go_wp2_with fail
          refine (same_calls _ _ _ _ hE6 t2).mono ?_
          rintro e w7 ⟨rfl, hb7⟩
          have hE7 := hE6.keep hb7 hE6.1
          have hY7 := hY6.keep hb7 hY6.1
          have hX7 := hX6.keep hb7 hX6.1
          have hC7 := hC6.keep hb7 hC6.1
          have hb8 := hb6.trans (hb7.mono hb6.size)
          clear hE6 hY6 hX6 hC6 hb6 hb7 y1 y2 y3 y4 y5
          obtain ⟨x1, x2, x3, x4, x5⟩ := id hX7
          go_wp2_with fail
          refine (same_calls _ _ _ _ hC7 t1).mono ?_
          rintro e w8 ⟨rfl, hb9⟩
          have hE8 := hE7.keep hb9 hE7.1
          have hY8 := hY7.keep hb9 hY7.1
          have hX8 := hX7.keep hb9 hX7.1
          have hb10 := hb8.trans (hb9.mono hb8.size)
          clear hE7 hY7 hX7 hC7 hb8 hb9 x1 x2 x3 x4 x5
          obtain ⟨y1, y2, y3, y4, y5⟩ := id hY8
          obtain ⟨x1, x2, x3, x4, x5⟩ := id hX8
          go_wp2_with fail
          go_roundw
          case rel => exact ⟨k + 1, b, _, _, by omega, by go_num, rfl, hwb, hbX, s0, s1, hE8.other (gb_trans (gb_set w8 X 0 _) (gb_set _ X 1 _)) hbX, (hX8.set0 _).set1 _, (hb10.setCell hwX _).setCell hwX _⟩
          case measure => simp [intOf]; omega
    · have t1 := test_same fl f0 f1
      obtain ⟨x1, x2, x3, x4, x5⟩ := id hX'
      go_wp2_with fail
      refine (same_calls _ _ _ _ hE' t1).mono ?_
      rintro e w7 ⟨rfl, hb7⟩
      go_wp2_with fail
      go_ret
      exact ⟨rfl, fbelow_trans hb' hb7⟩
end Go.Proofs.YtoamnimepkodeabDoor

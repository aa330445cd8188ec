/- The walks of an environment's methods once more, with a closer frame: nothing but the environment's own block turns; and Set, Forget, Copy, Do besides. -/
import Derived.Test.YtoamnimepkodeabDoorFBegins
namespace Go.Proofs.YtoamnimepkodeabDoor
open Go.RowKit

theorem gb_refl (w : World) (r : Option Nat) : w.grownBy w r := ⟨rfl, rfl, rfl, Nat.le_refl _, fun _ _ _ => rfl⟩
theorem gb_trans {a b c : World} {r : Option Nat} (h : a.grownBy b r) (k : b.grownBy c r) : a.grownBy c r :=
  ⟨k.os.trans h.os, k.tape.trans h.tape, k.output.trans h.output, Nat.le_trans h.size k.size, fun i hi hr => (k.block i (Nat.lt_of_lt_of_le hi h.size) hr).trans (h.block i hi hr)⟩
theorem gb_set (w : World) (b o : Nat) (v : Value) : w.grownBy (w.setCell ⟨b, o, none⟩ v) (some b) :=
  ⟨rfl, rfl, rfl, by simp [World.setCell], fun k _ hr => Below.heap_setCell _ _ _ _ (fun e => hr (by rw [e]))⟩
theorem gb_of_below {w w' : World} (h : Below w.heap.size w w') (r : Option Nat) : w.grownBy w' r := ⟨h.os, h.tape, h.output, h.size, fun k hk _ => h.block k hk⟩
theorem gb_below {w w' : World} {b B : Nat} (h : w.grownBy w' (some b)) (hB : B ≤ b) (hs : B ≤ w.heap.size) : Below B w w' :=
  (Below.refl B w).grown h hs (fun k e => by cases e; exact hB)
theorem EnvAt.other {w w' : World} {b c : Nat} {fl m : Int} (h : EnvAt w c fl m) (hg : w.grownBy w' (some b)) (hne : c ≠ b) : EnvAt w' c fl m := by
  obtain ⟨h1, h2, h3, h4, h5⟩ := h
  have hb := hg.block c h1 (fun e => hne (by simpa using e))
  exact ⟨Nat.lt_of_lt_of_le h1 hg.size, (World.cell?_of_block (a := ⟨c, 0, none⟩) hb).trans h2, (World.cell?_of_block (a := ⟨c, 1, none⟩) hb).trans h3, (World.frozen?_of_block (a := ⟨c, 0, none⟩) hb).trans h4, (World.frozen?_of_block (a := ⟨c, 1, none⟩) hb).trans h5⟩

def setV (fl f : Int) : Int := if rightB f = true then f else fl

set_option maxHeartbeats 400000 in
theorem eUpdate2_calls (b : Nat) (fl m f : Int) (w : World) (hE : EnvAt w b fl m) :
    Calls Tryd.prog 46 #[.pointer (some ⟨b, 0, none⟩), .int .u8 f] w fun e w' => e = .returned (.int .i64 (refV f)) ∧ EnvAt w' b (updV fl f) m ∧ w.grownBy w' (some b) := by
  obtain ⟨h1, h2, h3, h4, h5⟩ := id hE
  cases hr : rightB f
  · have hV : (refV f != 0) = true := by unfold refV; rw [hr]; rfl
    have hU : Hid (updV fl f = fl) := by unfold updV; rw [Hid, hr]; rfl
    go_enter Tryd.func46, Tryd.ntmps46
    go_wp2_with (go_at_call 64; refine (eRefuse_calls _ _ _).mono ?_; rintro e w ⟨rfl, rfl⟩)
    go_ret
    rw [hU.out]
    exact ⟨rfl, hE, gb_refl _ _⟩
  · have hV : (refV f != 0) = false := by unfold refV; rw [hr]; rfl
    have hV' : Hid (refV f = 0) := by unfold refV; rw [Hid, hr]; rfl
    have hU : Hid (updV fl f = orV fl f) := by unfold updV; rw [Hid, hr]; rfl
    go_enter Tryd.func46, Tryd.ntmps46
    go_wp2_with (first | (go_at_call 64; refine (eRefuse_calls _ _ _).mono ?_; rintro e w ⟨rfl, rfl⟩) | (go_at_call 21; refine (fJoin_calls _ _ _).mono ?_; rintro e w ⟨rfl, rfl⟩))
    go_ret
    rw [hU.out, hV'.out]
    exact ⟨rfl, hE.set0 _, gb_set _ _ _ _⟩

set_option maxHeartbeats 400000 in
theorem eClear2_calls (b : Nat) (fl m f : Int) (w : World) (hE : EnvAt w b fl m) :
    Calls Tryd.prog 44 #[.pointer (some ⟨b, 0, none⟩), .int .u8 f] w fun e w' => e = .returned (.int .i64 (refV f)) ∧ EnvAt w' b (clrV fl f) m ∧ w.grownBy w' (some b) := by
  obtain ⟨h1, h2, h3, h4, h5⟩ := id hE
  cases hr : rightB f
  · have hV : (refV f != 0) = true := by unfold refV; rw [hr]; rfl
    have hU : Hid (clrV fl f = fl) := by unfold clrV; rw [Hid, hr]; rfl
    go_enter Tryd.func44, Tryd.ntmps44
    go_wp2_with (go_at_call 64; refine (eRefuse_calls _ _ _).mono ?_; rintro e w ⟨rfl, rfl⟩)
    go_ret
    rw [hU.out]
    exact ⟨rfl, hE, gb_refl _ _⟩
  · have hV : (refV f != 0) = false := by unfold refV; rw [hr]; rfl
    have hV' : Hid (refV f = 0) := by unfold refV; rw [Hid, hr]; rfl
    have hU : Hid (clrV fl f = takeV fl f) := by unfold clrV; rw [Hid, hr]; rfl
    go_enter Tryd.func44, Tryd.ntmps44
    go_wp2_with (first | (go_at_call 64; refine (eRefuse_calls _ _ _).mono ?_; rintro e w ⟨rfl, rfl⟩) | (go_at_call 23; refine (fTake_calls _ _ _).mono ?_; rintro e w ⟨rfl, rfl⟩))
    go_ret
    rw [hU.out, hV'.out]
    exact ⟨rfl, hE.set0 _, gb_set _ _ _ _⟩

set_option maxHeartbeats 400000 in
theorem eHold2_calls (b : Nat) (fl m : Int) (w : World) (hE : EnvAt w b fl m) :
    Calls Tryd.prog 41 #[.pointer (some ⟨b, 0, none⟩)] w fun e w' => e = .returned (.tuple #[.int .u8 fl, .int .i64 0]) ∧ EnvAt w' b 0 m ∧ w.grownBy w' (some b) := by
  obtain ⟨h1, h2, h3, h4, h5⟩ := id hE
  go_enter Tryd.func41, Tryd.ntmps41
  go_wp2
  go_ret2
  exact ⟨rfl, hE.set0 _, gb_set _ _ _ _⟩

set_option maxHeartbeats 400000 in
theorem eRaise2_calls (b : Nat) (fl m f : Int) (w : World) (hE : EnvAt w b fl m) :
    Calls Tryd.prog 43 #[.pointer (some ⟨b, 0, none⟩), .int .u8 f] w fun e w' => e = .returned (.int .i64 (refV f)) ∧ EnvAt w' b (updV fl f) (raiseM m f) ∧ w.grownBy w' (some b) := by
  cases hr : rightB f
  · have hV : (refV f != 0) = true := by unfold refV; rw [hr]; rfl
    have hU : Hid (raiseM m f = m) := by unfold raiseM; rw [Hid, hr]; rfl
    go_enter Tryd.func43, Tryd.ntmps43
    go_wp2_with (go_at_call 46; refine (eUpdate2_calls _ fl m _ _ hE).mono ?_; rintro e w1 ⟨rfl, hE1, hb1⟩)
    go_ret
    rw [hU.out]
    exact ⟨rfl, hE1, hb1⟩
  · have hV : (refV f != 0) = false := by unfold refV; rw [hr]; rfl
    have hV' : Hid (refV f = 0) := by unfold refV; rw [Hid, hr]; rfl
    by_cases hm : mathV f = 0
    · have hm' : (mathV f != 0) = false := by simp [hm]
      have hU : Hid (raiseM m f = m) := by unfold raiseM; rw [Hid, hr, if_pos rfl, if_pos hm]
      clear hm
      go_enter Tryd.func43, Tryd.ntmps43
      go_wp2_with (first | (go_at_call 46; refine (eUpdate2_calls _ fl m _ _ hE).mono ?_; rintro e w1 ⟨rfl, hE1, hb1⟩) | (go_at_call 24; refine (fMath_calls _ _).mono ?_; rintro e w1 ⟨rfl, rfl⟩))
      go_ret
      rw [hU.out, hV'.out]
      exact ⟨rfl, hE1, hb1⟩
    · have hm' : (mathV f != 0) = true := by simp [hm]
      have hU : Hid (raiseM m f = mathV f) := by unfold raiseM; rw [Hid, hr, if_pos rfl, if_neg hm]
      clear hm
      go_enter Tryd.func43, Tryd.ntmps43
      go_wp2_with (first | (go_at_call 46; refine (eUpdate2_calls _ fl m _ _ hE).mono ?_; rintro e w1 ⟨rfl, hE1, hb1⟩; obtain ⟨h1, h2, h3, h4, h5⟩ := id hE1) | (go_at_call 24; refine (fMath_calls _ _).mono ?_; rintro e w1 ⟨rfl, rfl⟩))
      go_ret
      rw [hU.out, hV'.out]
      exact ⟨rfl, hE1.set1 _, gb_trans hb1 (gb_set _ _ _ _)⟩

set_option maxHeartbeats 400000 in
theorem eSet2_calls (b : Nat) (fl m f : Int) (w : World) (hE : EnvAt w b fl m) :
    Calls Tryd.prog 45 #[.pointer (some ⟨b, 0, none⟩), .int .u8 f] w fun e w' => e = .returned (.int .i64 (refV f)) ∧ EnvAt w' b (setV fl f) m ∧ w.grownBy w' (some b) := by
  obtain ⟨h1, h2, h3, h4, h5⟩ := id hE
  cases hr : rightB f
  · have hV : (refV f != 0) = true := by unfold refV; rw [hr]; rfl
    have hU : Hid (setV fl f = fl) := by unfold setV; rw [Hid, hr]; rfl
    go_enter Tryd.func45, Tryd.ntmps45
    go_wp2_with (go_at_call 64; refine (eRefuse_calls _ _ _).mono ?_; rintro e w ⟨rfl, rfl⟩)
    go_ret
    rw [hU.out]
    exact ⟨rfl, hE, gb_refl _ _⟩
  · have hV : (refV f != 0) = false := by unfold refV; rw [hr]; rfl
    have hV' : Hid (refV f = 0) := by unfold refV; rw [Hid, hr]; rfl
    have hU : Hid (setV fl f = f) := by unfold setV; rw [Hid, hr]; rfl
    go_enter Tryd.func45, Tryd.ntmps45
    go_wp2_with (go_at_call 64; refine (eRefuse_calls _ _ _).mono ?_; rintro e w ⟨rfl, rfl⟩)
    go_ret
    rw [hU.out, hV'.out]
    exact ⟨rfl, hE.set0 _, gb_set _ _ _ _⟩

set_option maxHeartbeats 400000 in
theorem eForget2_calls (b : Nat) (fl m : Int) (w : World) (hE : EnvAt w b fl m) :
    Calls Tryd.prog 42 #[.pointer (some ⟨b, 0, none⟩)] w fun e w' => e = .returned (.tuple #[]) ∧ EnvAt w' b fl 0 ∧ w.grownBy w' (some b) := by
  obtain ⟨h1, h2, h3, h4, h5⟩ := id hE
  go_enter Tryd.func42, Tryd.ntmps42
  go_wp2
  go_end0
  exact ⟨rfl, hE.set1 _, gb_set _ _ _ _⟩

set_option maxHeartbeats 400000 in
theorem eCopy_calls (b : Nat) (fl m : Int) (w : World) (hE : EnvAt w b fl m) :
    Calls Tryd.prog 35 #[.pointer (some ⟨b, 0, none⟩)] w fun e w' => e = .returned (.pointer (some ⟨w.heap.size, 0, none⟩)) ∧ w' = w.alloc (.cells #[.int .u8 fl, .int .u8 m] 84) := by
  obtain ⟨h1, h2, h3, h4, h5⟩ := id hE
  go_enter Tryd.func35, Tryd.ntmps35
  go_wp2
  go_ret
  exact ⟨rfl, rfl⟩

def doFl (fl k f : Int) : Int := if k = 1 then updV fl f else if k = 3 then clrV fl f else if k = 4 then 0 else if k = 5 then setV fl f else if k = 6 then updV fl f else fl
def doM (m k f : Int) : Int := if k = 1 then raiseM m f else if k = 7 then 0 else m
def doGot (fl k f : Int) : Int := if k = 2 then testV fl f else if k = 4 then fl else 0
def doErr (k f : Int) : Int := if k = 1 ∨ k = 2 ∨ k = 3 ∨ k = 5 ∨ k = 6 then refV f else if k = 4 ∨ k = 7 then 0 else 2

theorem box_env {w : World} {b : Nat} {fl m : Int} (h : EnvAt w b fl m) (o : Obj) : EnvAt (w.alloc o) b fl m := h.keep ((Below.refl _ _).alloc (Nat.le_refl _) o) h.1
theorem gb_alloc {w w' : World} {r : Option Nat} {o : Obj} (h : (w.alloc o).grownBy w' r) : w.grownBy w' r :=
  gb_trans (gb_of_below ((Below.refl _ _).alloc (Nat.le_refl _) o) r) h

set_option maxHeartbeats 2000000 in
theorem eDo_calls (b : Nat) (fl m k f : Int) (w : World) (hE : EnvAt w b fl m) :
    Calls Tryd.prog 39 #[.pointer (some ⟨b, 0, none⟩), .agg #[.int .u8 k, .int .u8 f]] w fun e w' => e = .returned (.tuple #[.int .u8 (doGot fl k f), .int .i64 (doErr k f)]) ∧ EnvAt w' b (doFl fl k f) (doM m k f) ∧ w.grownBy w' (some b) := by
  rcases (show k = 1 ∨ k = 2 ∨ k = 3 ∨ k = 4 ∨ k = 5 ∨ k = 6 ∨ k = 7 ∨ ¬ (k = 1 ∨ k = 2 ∨ k = 3 ∨ k = 4 ∨ k = 5 ∨ k = 6 ∨ k = 7) from by omega) with rfl | rfl | rfl | rfl | rfl | rfl | rfl | hk
  · go_enter Tryd.func39, Tryd.ntmps39
    go_wp2_with (go_at_call 43; refine (eRaise2_calls _ _ _ _ _ (box_env hE _)).mono ?_; rintro e w1 ⟨rfl, hE1, hg1⟩)
    go_ret2
    exact ⟨rfl, hE1, gb_alloc hg1⟩
  · go_enter Tryd.func39, Tryd.ntmps39
    go_wp2_with (go_at_call 40; refine (eTest_calls _ _ _ _ _ (box_env hE _)).mono ?_; rintro e w1 ⟨rfl, rfl⟩)
    go_ret2
    exact ⟨rfl, box_env hE _, gb_of_below ((Below.refl _ _).alloc (Nat.le_refl _) _) _⟩
  · go_enter Tryd.func39, Tryd.ntmps39
    go_wp2_with (go_at_call 44; refine (eClear2_calls _ _ _ _ _ (box_env hE _)).mono ?_; rintro e w1 ⟨rfl, hE1, hg1⟩)
    go_ret2
    exact ⟨rfl, hE1, gb_alloc hg1⟩
  · go_enter Tryd.func39, Tryd.ntmps39
    go_wp2_with (go_at_call 41; refine (eHold2_calls _ _ _ _ (box_env hE _)).mono ?_; rintro e w1 ⟨rfl, hE1, hg1⟩)
    go_ret2
    exact ⟨rfl, hE1, gb_alloc hg1⟩
  · go_enter Tryd.func39, Tryd.ntmps39
    go_wp2_with (go_at_call 45; refine (eSet2_calls _ _ _ _ _ (box_env hE _)).mono ?_; rintro e w1 ⟨rfl, hE1, hg1⟩)
    go_ret2
    exact ⟨rfl, hE1, gb_alloc hg1⟩
  · go_enter Tryd.func39, Tryd.ntmps39
    go_wp2_with (go_at_call 46; refine (eUpdate2_calls _ _ _ _ _ (box_env hE _)).mono ?_; rintro e w1 ⟨rfl, hE1, hg1⟩)
    go_ret2
    exact ⟨rfl, hE1, gb_alloc hg1⟩
  · go_enter Tryd.func39, Tryd.ntmps39
    go_wp2_with (go_at_call 42; refine (eForget2_calls _ _ _ _ (box_env hE _)).mono ?_; rintro e w1 ⟨rfl, hE1, hg1⟩)
    go_ret2
    exact ⟨rfl, hE1, gb_alloc hg1⟩
  · have d1 : (k == 1) = false := by simp; omega
    have d2 : (k == 2) = false := by simp; omega
    have d3 : (k == 3) = false := by simp; omega
    have d4 : (k == 4) = false := by simp; omega
    have d5 : (k == 5) = false := by simp; omega
    have d6 : (k == 6) = false := by simp; omega
    have d7 : (k == 7) = false := by simp; omega
    have e1 : Hid (doFl fl k f = fl) := by unfold doFl; rw [Hid, if_neg (by omega), if_neg (by omega), if_neg (by omega), if_neg (by omega), if_neg (by omega)]
    have e2 : Hid (doM m k f = m) := by unfold doM; rw [Hid, if_neg (by omega), if_neg (by omega)]
    have e3 : Hid (doGot fl k f = 0) := by unfold doGot; rw [Hid, if_neg (by omega), if_neg (by omega)]
    have e4 : Hid (doErr k f = 2) := by unfold doErr; rw [Hid, if_neg (by omega), if_neg (by omega)]
    clear hk
    go_enter Tryd.func39, Tryd.ntmps39
    go_wp2
    go_ret2
    rw [e1.out, e2.out, e3.out, e4.out]
    exact ⟨rfl, box_env hE _, gb_of_below ((Below.refl _ _).alloc (Nat.le_refl _) _) _⟩

set_option maxHeartbeats 2000000 in
theorem lDoOwn_calls (b : Nat) (fl m k f : Int) (w : World) (hE : EnvAt w b fl m) :
    Calls Tryd.prog 37 #[.pointer (some ⟨b, 0, none⟩), .agg #[.int .u8 k, .int .u8 f], .bool true] w fun e w' => e = .returned (.tuple #[.int .u8 (doGot fl k f), .int .i64 (doErr k f)]) ∧ EnvAt w' b (doFl fl k f) (doM m k f) ∧ w.grownBy w' (some b) := by
  rcases (show k = 1 ∨ k = 2 ∨ k = 3 ∨ k = 4 ∨ k = 5 ∨ k = 6 ∨ k = 7 ∨ ¬ (k = 1 ∨ k = 2 ∨ k = 3 ∨ k = 4 ∨ k = 5 ∨ k = 6 ∨ k = 7) from by omega) with rfl | rfl | rfl | rfl | rfl | rfl | rfl | hk
  · go_enter Tryd.func37, Tryd.ntmps37
    go_wp2_with (go_at_call 43; refine (eRaise2_calls _ _ _ _ _ (box_env hE _)).mono ?_; rintro e w1 ⟨rfl, hE1, hg1⟩)
    go_ret2
    exact ⟨rfl, hE1, gb_alloc hg1⟩
  · go_enter Tryd.func37, Tryd.ntmps37
    go_wp2_with (go_at_call 40; refine (eTest_calls _ _ _ _ _ (box_env hE _)).mono ?_; rintro e w1 ⟨rfl, rfl⟩)
    go_ret2
    exact ⟨rfl, box_env hE _, gb_of_below ((Below.refl _ _).alloc (Nat.le_refl _) _) _⟩
  · go_enter Tryd.func37, Tryd.ntmps37
    go_wp2_with (go_at_call 44; refine (eClear2_calls _ _ _ _ _ (box_env hE _)).mono ?_; rintro e w1 ⟨rfl, hE1, hg1⟩)
    go_ret2
    exact ⟨rfl, hE1, gb_alloc hg1⟩
  · go_enter Tryd.func37, Tryd.ntmps37
    go_wp2_with (go_at_call 41; refine (eHold2_calls _ _ _ _ (box_env hE _)).mono ?_; rintro e w1 ⟨rfl, hE1, hg1⟩)
    go_ret2
    exact ⟨rfl, hE1, gb_alloc hg1⟩
  · go_enter Tryd.func37, Tryd.ntmps37
    go_wp2_with (go_at_call 45; refine (eSet2_calls _ _ _ _ _ (box_env hE _)).mono ?_; rintro e w1 ⟨rfl, hE1, hg1⟩)
    go_ret2
    exact ⟨rfl, hE1, gb_alloc hg1⟩
  · go_enter Tryd.func37, Tryd.ntmps37
    go_wp2_with (go_at_call 46; refine (eUpdate2_calls _ _ _ _ _ (box_env hE _)).mono ?_; rintro e w1 ⟨rfl, hE1, hg1⟩)
    go_ret2
    exact ⟨rfl, hE1, gb_alloc hg1⟩
  · go_enter Tryd.func37, Tryd.ntmps37
    go_wp2_with (go_at_call 42; refine (eForget2_calls _ _ _ _ (box_env hE _)).mono ?_; rintro e w1 ⟨rfl, hE1, hg1⟩)
    go_ret2
    exact ⟨rfl, hE1, gb_alloc hg1⟩
  · have d1 : (k == 1) = false := by simp; omega
    have d2 : (k == 2) = false := by simp; omega
    have d3 : (k == 3) = false := by simp; omega
    have d4 : (k == 4) = false := by simp; omega
    have d5 : (k == 5) = false := by simp; omega
    have d6 : (k == 6) = false := by simp; omega
    have d7 : (k == 7) = false := by simp; omega
    clear hk
    go_enter Tryd.func37, Tryd.ntmps37
    go_wp2_with (go_at_call 39; refine (eDo_calls _ _ _ _ _ _ (box_env hE _)).mono ?_; rintro e w1 ⟨rfl, hE1, hg1⟩)
    go_ret2
    exact ⟨rfl, hE1, gb_alloc hg1⟩

set_option maxHeartbeats 1000000 in
theorem lDo_calls (b : Nat) (fl m k f : Int) (own : Bool) (w : World) (hE : EnvAt w b fl m) :
    Calls Tryd.prog 37 #[.pointer (some ⟨b, 0, none⟩), .agg #[.int .u8 k, .int .u8 f], .bool own] w fun e w' => e = .returned (.tuple #[.int .u8 (doGot fl k f), .int .i64 (doErr k f)]) ∧ EnvAt w' b (doFl fl k f) (doM m k f) ∧ w.grownBy w' (some b) := by
  cases own
  · go_enter Tryd.func37, Tryd.ntmps37
    go_wp2_with (go_at_call 39; refine (eDo_calls _ _ _ _ _ _ (box_env hE _)).mono ?_; rintro e w1 ⟨rfl, hE1, hg1⟩)
    go_ret2
    exact ⟨rfl, hE1, gb_alloc hg1⟩
  · exact lDoOwn_calls b fl m k f w hE
end Go.Proofs.YtoamnimepkodeabDoor

/- The walks of an environment's methods (it is not nil): what each answers and what the environment then holds. -/
import Derived.Test.YtoamnimepkodeabDoorFParse
namespace Go.Proofs.YtoamnimepkodeabDoor
open Go.RowKit

/-- At block b lies an environment with these flags and this errno. -/
def EnvAt (w : World) (b : Nat) (fl m : Int) : Prop :=
  b < w.heap.size ∧ w.cell? ⟨b, 0, none⟩ = some (.int .u8 fl) ∧ w.cell? ⟨b, 1, none⟩ = some (.int .u8 m) ∧ w.frozen? ⟨b, 0, none⟩ = false ∧ w.frozen? ⟨b, 1, none⟩ = false
theorem EnvAt.keep {w w' : World} {b : Nat} {fl m : Int} (h : EnvAt w b fl m) {B : Nat} (hb : Below B w w') (hB : b < B) : EnvAt w' b fl m := by
  obtain ⟨h1, h2, h3, h4, h5⟩ := h
  exact ⟨Nat.lt_of_lt_of_le h1 hb.size, (hb.cell (p := ⟨b, 0, none⟩) hB).trans h2, (hb.cell (p := ⟨b, 1, none⟩) hB).trans h3, (hb.frozen (p := ⟨b, 0, none⟩) hB).trans h4, (hb.frozen (p := ⟨b, 1, none⟩) hB).trans h5⟩
theorem EnvAt.new (w : World) (fl m : Int) (t : TypeId) : EnvAt (w.alloc (.cells #[.int .u8 fl, .int .u8 m] t)) w.heap.size fl m := by
  refine ⟨by simp, ?_, ?_, ?_, ?_⟩ <;> go_simp
theorem EnvAt.set0 {w : World} {b : Nat} {fl m : Int} (h : EnvAt w b fl m) (v : Int) : EnvAt (w.setCell ⟨b, 0, none⟩ (.int .u8 v)) b v m := by
  obtain ⟨h1, h2, h3, h4, h5⟩ := h
  refine ⟨by simpa [World.setCell] using h1, ?_, ?_, ?_, ?_⟩ <;> go_simp
theorem EnvAt.set1 {w : World} {b : Nat} {fl m : Int} (h : EnvAt w b fl m) (v : Int) : EnvAt (w.setCell ⟨b, 1, none⟩ (.int .u8 v)) b fl v := by
  obtain ⟨h1, h2, h3, h4, h5⟩ := h
  refine ⟨by simpa [World.setCell] using h1, ?_, ?_, ?_, ?_⟩ <;> go_simp
theorem below_set {B b : Nat} (hB : B ≤ b) (w : World) (o : Nat) (v : Value) : Below B w (w.setCell ⟨b, o, none⟩ v) := (Below.refl B w).setCell hB v

def refV (f : Int) : Int := if rightB f = true then 0 else 20
def updV (fl f : Int) : Int := if rightB f = true then orV fl f else fl
def clrV (fl f : Int) : Int := if rightB f = true then takeV fl f else fl
def testV (fl f : Int) : Int := if rightB f = true then andV fl f else 0
def raiseM (m f : Int) : Int := if rightB f = true then (if mathV f = 0 then m else mathV f) else m

set_option maxHeartbeats 400000 in
theorem eNew_calls (w : World) :
    Calls Tryd.prog 34 #[] w fun e w' => e = .returned (.pointer (some ⟨w.heap.size, 0, none⟩)) ∧ w' = w.alloc (.cells #[.int .u8 0, .int .u8 0] 84) := by
  go_enter Tryd.func34, Tryd.ntmps34
  go_wp2
  go_ret
  exact ⟨rfl, rfl⟩

set_option maxHeartbeats 400000 in
theorem eRefuse_calls (b : Nat) (f : Int) (w : World) :
    Calls Tryd.prog 64 #[.pointer (some ⟨b, 0, none⟩), .int .u8 f] w fun e w' => e = .returned (.int .i64 (refV f)) ∧ w' = w := by
  cases hr : rightB f
  · have hV : Hid (refV f = 20) := by unfold refV; rw [Hid, hr]; rfl
    go_enter Tryd.func64, Tryd.ntmps64
    go_wp2_with (go_at_call 18; refine (fRight_calls _ _).mono ?_; rintro e w ⟨rfl, rfl⟩)
    go_ret
    exact ⟨fret_int hV.out.symm, rfl⟩
  · have hV : Hid (refV f = 0) := by unfold refV; rw [Hid, hr]; rfl
    go_enter Tryd.func64, Tryd.ntmps64
    go_wp2_with (go_at_call 18; refine (fRight_calls _ _).mono ?_; rintro e w ⟨rfl, rfl⟩)
    go_ret
    exact ⟨fret_int hV.out.symm, rfl⟩

set_option maxHeartbeats 400000 in
theorem eUpdate_calls (B b : Nat) (fl m f : Int) (w : World) (hE : EnvAt w b fl m) (hB : B ≤ b) :
    Calls Tryd.prog 46 #[.pointer (some ⟨b, 0, none⟩), .int .u8 f] w fun e w' => e = .returned (.int .i64 (refV f)) ∧ EnvAt w' b (updV fl f) m ∧ Below B w w' := by
  obtain ⟨h1, h2, h3, h4, h5⟩ := id hE
  cases hr : rightB f
  · have hV : (refV f != 0) = true := by unfold refV; rw [hr]; rfl
    have hU : Hid (updV fl f = fl) := by unfold updV; rw [Hid, hr]; rfl
    go_enter Tryd.func46, Tryd.ntmps46
    go_wp2_with (go_at_call 64; refine (eRefuse_calls _ _ _).mono ?_; rintro e w ⟨rfl, rfl⟩)
    go_ret
    rw [hU.out]
    exact ⟨rfl, hE, Below.refl _ _⟩
  · have hV : (refV f != 0) = false := by unfold refV; rw [hr]; rfl
    have hV' : Hid (refV f = 0) := by unfold refV; rw [Hid, hr]; rfl
    have hU : Hid (updV fl f = orV fl f) := by unfold updV; rw [Hid, hr]; rfl
    go_enter Tryd.func46, Tryd.ntmps46
    go_wp2_with (first | (go_at_call 64; refine (eRefuse_calls _ _ _).mono ?_; rintro e w ⟨rfl, rfl⟩) | (go_at_call 21; refine (fJoin_calls _ _ _).mono ?_; rintro e w ⟨rfl, rfl⟩))
    go_ret
    rw [hU.out, hV'.out]
    exact ⟨rfl, hE.set0 _, below_set hB _ _ _⟩

set_option maxHeartbeats 400000 in
theorem eClear_calls (B b : Nat) (fl m f : Int) (w : World) (hE : EnvAt w b fl m) (hB : B ≤ b) :
    Calls Tryd.prog 44 #[.pointer (some ⟨b, 0, none⟩), .int .u8 f] w fun e w' => e = .returned (.int .i64 (refV f)) ∧ EnvAt w' b (clrV fl f) m ∧ Below B w w' := by
  obtain ⟨h1, h2, h3, h4, h5⟩ := id hE
  cases hr : rightB f
  · have hV : (refV f != 0) = true := by unfold refV; rw [hr]; rfl
    have hU : Hid (clrV fl f = fl) := by unfold clrV; rw [Hid, hr]; rfl
    go_enter Tryd.func44, Tryd.ntmps44
    go_wp2_with (go_at_call 64; refine (eRefuse_calls _ _ _).mono ?_; rintro e w ⟨rfl, rfl⟩)
    go_ret
    rw [hU.out]
    exact ⟨rfl, hE, Below.refl _ _⟩
  · have hV : (refV f != 0) = false := by unfold refV; rw [hr]; rfl
    have hV' : Hid (refV f = 0) := by unfold refV; rw [Hid, hr]; rfl
    have hU : Hid (clrV fl f = takeV fl f) := by unfold clrV; rw [Hid, hr]; rfl
    go_enter Tryd.func44, Tryd.ntmps44
    go_wp2_with (first | (go_at_call 64; refine (eRefuse_calls _ _ _).mono ?_; rintro e w ⟨rfl, rfl⟩) | (go_at_call 23; refine (fTake_calls _ _ _).mono ?_; rintro e w ⟨rfl, rfl⟩))
    go_ret
    rw [hU.out, hV'.out]
    exact ⟨rfl, hE.set0 _, below_set hB _ _ _⟩

set_option maxHeartbeats 400000 in
theorem eTest_calls (b : Nat) (fl m f : Int) (w : World) (hE : EnvAt w b fl m) :
    Calls Tryd.prog 40 #[.pointer (some ⟨b, 0, none⟩), .int .u8 f] w fun e w' => e = .returned (.tuple #[.int .u8 (testV fl f), .int .i64 (refV f)]) ∧ w' = w := by
  obtain ⟨h1, h2, h3, h4, h5⟩ := id hE
  cases hr : rightB f
  · have hV : (refV f != 0) = true := by unfold refV; rw [hr]; rfl
    have hU : Hid (testV fl f = 0) := by unfold testV; rw [Hid, hr]; rfl
    go_enter Tryd.func40, Tryd.ntmps40
    go_wp2_with (go_at_call 64; refine (eRefuse_calls _ _ _).mono ?_; rintro e w ⟨rfl, rfl⟩)
    go_ret2
    rw [hU.out]
    exact ⟨rfl, rfl⟩
  · have hV : (refV f != 0) = false := by unfold refV; rw [hr]; rfl
    have hV' : Hid (refV f = 0) := by unfold refV; rw [Hid, hr]; rfl
    have hU : Hid (testV fl f = andV fl f) := by unfold testV; rw [Hid, hr]; rfl
    go_enter Tryd.func40, Tryd.ntmps40
    go_wp2_with (first | (go_at_call 64; refine (eRefuse_calls _ _ _).mono ?_; rintro e w ⟨rfl, rfl⟩) | (go_at_call 22; refine (fMeet_calls _ _ _).mono ?_; rintro e w ⟨rfl, rfl⟩))
    go_ret2
    rw [hU.out, hV'.out]
    exact ⟨rfl, rfl⟩

set_option maxHeartbeats 400000 in
theorem eHold_calls (B b : Nat) (fl m : Int) (w : World) (hE : EnvAt w b fl m) (hB : B ≤ b) :
    Calls Tryd.prog 41 #[.pointer (some ⟨b, 0, none⟩)] w fun e w' => e = .returned (.tuple #[.int .u8 fl, .int .i64 0]) ∧ EnvAt w' b 0 m ∧ Below B w w' := by
  obtain ⟨h1, h2, h3, h4, h5⟩ := id hE
  go_enter Tryd.func41, Tryd.ntmps41
  go_wp2
  go_ret2
  exact ⟨rfl, hE.set0 _, below_set hB _ _ _⟩

set_option maxHeartbeats 400000 in
theorem eMath_calls (b : Nat) (fl m : Int) (w : World) (hE : EnvAt w b fl m) :
    Calls Tryd.prog 47 #[.pointer (some ⟨b, 0, none⟩)] w fun e w' => e = .returned (.int .u8 m) ∧ w' = w := by
  obtain ⟨h1, h2, h3, h4, h5⟩ := id hE
  go_enter Tryd.func47, Tryd.ntmps47
  go_wp2
  go_ret
  exact ⟨rfl, rfl⟩

set_option maxHeartbeats 400000 in
theorem eRaise_calls (B b : Nat) (fl m f : Int) (w : World) (hE : EnvAt w b fl m) (hB : B ≤ b) :
    Calls Tryd.prog 43 #[.pointer (some ⟨b, 0, none⟩), .int .u8 f] w fun e w' => e = .returned (.int .i64 (refV f)) ∧ EnvAt w' b (updV fl f) (raiseM m f) ∧ Below B w w' := by
  cases hr : rightB f
  · have hV : (refV f != 0) = true := by unfold refV; rw [hr]; rfl
    have hU : Hid (raiseM m f = m) := by unfold raiseM; rw [Hid, hr]; rfl
    go_enter Tryd.func43, Tryd.ntmps43
    go_wp2_with (go_at_call 46; refine (eUpdate_calls B _ fl m _ _ hE hB).mono ?_; rintro e w1 ⟨rfl, hE1, hb1⟩)
    go_ret
    rw [hU.out]
    exact ⟨rfl, hE1, hb1⟩
  · have hV : (refV f != 0) = false := by unfold refV; rw [hr]; rfl
    have hV' : Hid (refV f = 0) := by unfold refV; rw [Hid, hr]; rfl
    by_cases hm : mathV f = 0
    · have hm' : (mathV f != 0) = false := by simp [hm]
      have hU : Hid (raiseM m f = m) := by unfold raiseM; rw [Hid, hr, if_pos rfl, if_pos hm]
      clear hm
      go_enter Tryd.func43, Tryd.ntmps43
      go_wp2_with (first | (go_at_call 46; refine (eUpdate_calls B _ fl m _ _ hE hB).mono ?_; rintro e w1 ⟨rfl, hE1, hb1⟩) | (go_at_call 24; refine (fMath_calls _ _).mono ?_; rintro e w1 ⟨rfl, rfl⟩))
      go_ret
      rw [hU.out, hV'.out]
      exact ⟨rfl, hE1, hb1⟩
    · have hm' : (mathV f != 0) = true := by simp [hm]
      have hU : Hid (raiseM m f = mathV f) := by unfold raiseM; rw [Hid, hr, if_pos rfl, if_neg hm]
      clear hm
      go_enter Tryd.func43, Tryd.ntmps43
      go_wp2_with (first | (go_at_call 46; refine (eUpdate_calls B _ fl m _ _ hE hB).mono ?_; rintro e w1 ⟨rfl, hE1, hb1⟩; obtain ⟨h1, h2, h3, h4, h5⟩ := id hE1) | (go_at_call 24; refine (fMath_calls _ _).mono ?_; rintro e w1 ⟨rfl, rfl⟩))
      go_ret
      rw [hU.out, hV'.out]
      exact ⟨rfl, hE1.set1 _, hb1.setCell hB _⟩
end Go.Proofs.YtoamnimepkodeabDoor

/- The walk of the statements' own helper 'begins': it answers true. -/
import Derived.Test.YtoamnimepkodeabDoorFEnv
namespace Go.Proofs.YtoamnimepkodeabDoor
open Go.RowKit

theorem findK_lt (s : ByteArray) (j : Nat) : ∀ k, findK s k = some j → j < k ∧ ((showS j).toList == s.toList) = true
  | 0, h => by cases h
  | k + 1, h => by
    have h' : (match findK s k with | some j => some j | none => if ((showS k).toList == s.toList) = true then some k else none) = some j := h
    cases hk : findK s k with
    | some i =>
      rw [hk] at h'
      simp at h'
      subst h'
      have := findK_lt s i k hk
      exact ⟨by omega, this.2⟩
    | none =>
      rw [hk] at h'
      simp only at h'
      split at h'
      · rename_i hs
        simp at h'
        subst h'
        exact ⟨by omega, hs⟩
      · cases h'
theorem parseV_F (s : ByteArray) : F (parseV s) := by
  unfold parseV F
  cases h : findK s 32 with
  | none => simp
  | some j =>
    have := (findK_lt s j 32 h).1
    simp; omega
def invInex : ByteArray := ⟨#[105, 110, 118, 97, 108, 105, 100, 32, 105, 110, 101, 120, 97, 99, 116]⟩

set_option maxRecDepth 100000 in
set_option maxHeartbeats 1000000 in
theorem begins_calls (w : World) (hN : Names w) :
    Calls Tryd.prog 26 #[] w fun e w' => e = .returned (.bool true) ∧ Below w.heap.size w w' := by
  have k1 : (refV 20 != 0) = false := by decide +kernel
  have k2 : (refV 16 != 0) = false := by decide +kernel
  have k3 : (refV 31 == 0) = true := by decide +kernel
  have k4 : (testV (updV (updV 0 20) 16) 31 == 20) = true := by decide +kernel
  have k5 : (raiseM (raiseM 0 20) 16 == 2) = true := by decide +kernel
  have k6 : (parseE invInex == 0) = true := by decide +kernel
  have k7 : (parseV invInex == 17) = true := by decide +kernel
  have k8 : (showS (parseV invInex)).toList = [105, 110, 118, 97, 108, 105, 100, 32, 105, 110, 101, 120, 97, 99, 116] := by decide +kernel
  have k9 : hasB (parseV invInex) 16 = true := by decide +kernel
  have pf := parseV_F invInex
  go_enter Tryd.func26, Tryd.ntmps26
  go_wp2_with fail
  refine (eNew_calls _).mono ?_
  rintro e w1 ⟨rfl, rfl⟩
  have hE := EnvAt.new w 0 0 84
  have hb : Below w.heap.size w (w.alloc (.cells #[.int .u8 0, .int .u8 0] 84)) := (Below.refl _ _).alloc (Nat.le_refl _) _
  have hN1 := hN.keep hb
  generalize w.alloc (.cells #[.int .u8 0, .int .u8 0] 84) = w1 at *
  go_wp2_with fail
  refine (eRaise_calls w.heap.size _ 0 0 _ _ hE (Nat.le_refl _)).mono ?_
  rintro e w2 ⟨rfl, hE2, hb2⟩
  replace hN1 := hN1.kept hb2 hN.1
  replace hb := hb.trans hb2
  clear hE hb2
  go_wp2_with fail
  refine (eRaise_calls w.heap.size _ _ _ _ _ hE2 (Nat.le_refl _)).mono ?_
  rintro e w3 ⟨rfl, hE3, hb3⟩
  replace hN1 := hN1.kept hb3 hN.1
  replace hb := hb.trans hb3
  clear hE2 hb3
  go_wp2_with fail
  refine (eTest_calls _ _ _ _ _ hE3).mono ?_
  rintro e w3 ⟨rfl, rfl⟩
  go_wp2_with fail
  refine (fParse_calls invInex _ hN1).mono ?_
  rintro e w4 ⟨rfl, hb4⟩
  replace hN1 := hN1.keep hb4
  have hE4 := hE3.keep hb4 hE3.1
  replace hb := hb.trans (hb4.mono hb.size)
  clear hE3 hb4
  go_wp2_with fail
  refine (eMath_calls _ _ _ _ hE4).mono ?_
  rintro e w4 ⟨rfl, rfl⟩
  go_wp2_with fail
  refine (fShow_calls _ _ pf hN1).mono ?_
  rintro e w5 ⟨rfl, hb5⟩
  replace hb := hb.trans (hb5.mono hb.size)
  clear hE4 hb5 hN1
  go_wp2_with fail
  refine (fHas_calls _ _ _).mono ?_
  rintro e w5 ⟨rfl, rfl⟩
  go_wp2_with fail
  go_ret
  exact ⟨rfl, hb⟩
end Go.Proofs.YtoamnimepkodeabDoor

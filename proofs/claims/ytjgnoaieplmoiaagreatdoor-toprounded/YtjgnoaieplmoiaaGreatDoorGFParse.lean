/- The walks of flags.Show and flags.Parse: for every byte, every text. -/
import Derived.Test.YtjgnoaieplmoiaaGreatDoorGFShow
namespace Go.Proofs.YtjgnoaieplmoiaaGreatDoor.Fl
open Go.RowKit

set_option maxHeartbeats 400000 in
theorem fShow_calls (f : Int) (w : World) (hf : F f) (hN : Names w) :
    Calls Tryz.prog 37 #[.int .u8 f] w fun e w' => e = .returned (.string (showS f)) ∧ Below w.heap.size w w' := by
  cases hr : rightB f
  · have hV : Hid (showS f = ByteArray.empty) := by unfold showS; rw [Hid, hr]; rfl
    clear hN
    go_enter Tryz.func37, Tryz.ntmps37
    go_wp2_with (go_at_call 53; refine (fRight_calls _ _).mono ?_; rintro e w ⟨rfl, rfl⟩)
    go_ret
    rw [hV.out]
    exact ⟨rfl, Below.refl _ _⟩
  · by_cases h0 : f = 0
    · have hV : Hid (showS f = noneS) := by unfold showS; rw [Hid, hr, if_pos rfl, if_pos h0]
      have h0' : (f == 0) = true := by simp [h0]
      clear hN h0
      go_enter Tryz.func37, Tryz.ntmps37
      go_wp2_with (go_at_call 53; refine (fRight_calls _ _).mono ?_; rintro e w ⟨rfl, rfl⟩)
      go_ret
      rw [hV.out]
      exact ⟨rfl, Below.refl _ _⟩
    · have hV : showS f = joinedS f := by unfold showS; rw [hr, if_pos rfl, if_neg h0]
      rw [hV]
      exact joined_calls f w hf hN hr (by simp [h0])

/-- The first of the sets below k whose text is s. -/
def findK (s : ByteArray) : Nat → Option Nat
  | 0 => none
  | k + 1 => match findK s k with
    | some j => some j
    | none => if ((showS k).toList == s.toList) = true then some k else none
def parseV (s : ByteArray) : Int := ((findK s 32).getD 0 : Nat)
def parseE (s : ByteArray) : Int := if (findK s 32).isSome = true then 0 else 20
theorem findK_mono (s : ByteArray) (j : Nat) : ∀ (k d : Nat), findK s k = some j → findK s (k + d) = some j
  | _, 0, h => h
  | k, d + 1, h => by
    have := findK_mono s j k d h
    show (match findK s (k + d) with | some j => some j | none => _) = _
    rw [this]
theorem findK_hit (s : ByteArray) (k : Nat) (h : findK s k = none) (hs : ((showS k).toList == s.toList) = true) (hk : k < 32) : findK s 32 = some k := by
  have h1 : findK s (k + 1) = some k := by
    show (match findK s k with | some j => some j | none => if ((showS k).toList == s.toList) = true then some k else none) = _
    rw [h]; simp [hs]
  have := findK_mono s k (k + 1) (31 - k) h1
  rwa [show k + 1 + (31 - k) = 32 by omega] at this
theorem findK_miss (s : ByteArray) (k : Nat) (h : findK s k = none) (hs : ((showS k).toList == s.toList) = false) : findK s (k + 1) = none := by
  show (match findK s k with | some j => some j | none => if ((showS k).toList == s.toList) = true then some k else none) = _
  rw [h]; simp [hs]

set_option maxHeartbeats 1000000 in
theorem fParse_calls (s : ByteArray) (w : World) (hN : Names w) :
    Calls Tryz.prog 14 #[.string s] w fun e w' => e = .returned (.tuple #[.int .u8 (parseV s), .int .i64 (parseE s)]) ∧ Below w.heap.size w w' := by
  go_enter Tryz.func14, Tryz.ntmps14
  go_wp2
  go_loopw [5] (fun i wr => ∃ k : Nat, k ≤ 32 ∧ i = .int .u8 k ∧ findK s k = none ∧ Below w.heap.size w wr) (fun i _ => 32 - (intOf i).toNat)
  case atStart => exact ⟨0, by omega, rfl, rfl, Below.refl _ _⟩
  case round =>
    obtain ⟨k, hk, rfl, hn, hnx⟩ := hrel
    have HN : Hid (findK s k = none) := hn
    clear hn
    have hNr := hN.keep hnx
    by_cases hlt : k < 32
    · have hF : F (k : Int) := by unfold F; omega
      cases hs : ((showS k).toList == s.toList)
      · have HM : Hid _ := findK_miss s k HN.out hs
        go_wp2_with (go_at_call 37; refine (fShow_calls _ _ hF hNr).mono ?_; rintro e w1 ⟨rfl, hb1⟩)
        go_roundw
        case rel => exact ⟨k + 1, by omega, by go_num, HM.out, hnx.trans (hb1.mono hnx.size)⟩
        case measure => simp [intOf]; omega
      · have HM : Hid _ := findK_hit s k HN.out hs hlt
        have HV : Hid (parseV s = k) := by unfold parseV; rw [Hid, HM.out]; rfl
        have HE : Hid (parseE s = 0) := by unfold parseE; rw [Hid, HM.out]; rfl
        go_wp2_with (go_at_call 37; refine (fShow_calls _ _ hF hNr).mono ?_; rintro e w1 ⟨rfl, hb1⟩)
        go_ret2
        rw [HV.out, HE.out]
        exact ⟨rfl, hnx.trans (hb1.mono hnx.size)⟩
    · obtain rfl : k = 32 := by omega
      have HV : Hid (parseV s = 0) := by unfold parseV; rw [Hid, HN.out]; rfl
      have HE : Hid (parseE s = 20) := by unfold parseE; rw [Hid, HN.out]; rfl
      go_wp2
      go_ret2
      rw [HV.out, HE.out]
      exact ⟨rfl, hnx⟩
end Go.Proofs.YtjgnoaieplmoiaaGreatDoor.Fl

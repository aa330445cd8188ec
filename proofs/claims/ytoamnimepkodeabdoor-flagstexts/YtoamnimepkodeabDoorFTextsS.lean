/- The walks of the document's Show and Parse: each answers what the like function of package flags does. -/
import Derived.Test.YtoamnimepkodeabDoorFTextsR
namespace Go.Proofs.YtoamnimepkodeabDoor
open Go.RowKit

def textK (f : Int) : Nat → ByteArray
  | 0 => ⟨#[]⟩
  | k + 1 => (if k = 0 then textK f k else textK f k ++ ⟨#[32]⟩) ++ nameOf ((eachK f 5).getD k 0)
theorem text_end (f : Int) (hf : F f) (hr : rightB f = true) (h0 : f ≠ 0) : textK f (eachK f 5).length = joinedS f :=
  byte_all (p := fun f => rightB f = true → f ≠ 0 → textK f (eachK f 5).length = joinedS f) (by decide +kernel) f hf hr h0
theorem name_size (x : Int) : (nameOf x).size ≤ 9 := by unfold nameOf; (repeat' split) <;> decide
theorem text_size (f : Int) : ∀ k, (textK f k).size ≤ 10 * k
  | 0 => Nat.le_refl 0
  | k + 1 => by
    have := text_size f k
    have := name_size ((eachK f 5).getD k 0)
    unfold textK
    split
    · rw [ByteArray.size_append]; omega
    · rw [ByteArray.size_append, ByteArray.size_append]
      have : (⟨#[32]⟩ : ByteArray).size = 1 := rfl
      omega

set_option maxRecDepth 100000 in
set_option maxHeartbeats 2000000 in
theorem rJoined_calls (f : Int) (w : World) (hf : F f) (hr : rightB f = true) (h0 : (f == 0) = false) :
    Calls Tryd.prog 33 #[.int .u8 f] w fun e w' => e = .returned (.string (joinedS f)) ∧ Below w.heap.size w w' := by
  have TE : Hid _ := text_end f hf hr (by simpa using h0)
  have h5 := each_len f 5
  go_enter Tryd.func33, Tryd.ntmps33
  go_wp2_with (first | (go_at_call 19; refine (rRight_calls _ _ hf).mono ?_; rintro e w ⟨rfl, rfl⟩) | (go_at_call 31; refine (rEach_calls _ _ hf).mono ?_; rintro e w1 ⟨ao, cv, rfl, hown, hb⟩))
  have HL : IsList w1 ao (eachK f 5) := isList_of hown
  clear hown
  go_loop [3, 5] (fun v i => ∃ k : Nat, k ≤ (eachK f 5).length ∧ i = .int .i64 k ∧ v = .string (textK f k)) (fun _ i => (eachK f 5).length - (intOf i).toNat)
  case atStart => exact ⟨0, by omega, rfl, rfl⟩
  case round =>
    obtain ⟨k, hk, rfl, rfl⟩ := hrel
    have hts := text_size f k
    by_cases hlt : k < (eachK f 5).length
    · obtain ⟨g, e0, q0⟩ := HL k hlt
      obtain ⟨x, hx⟩ : ∃ x, x = (eachK f 5).getD k 0 := ⟨_, rfl⟩
      rw [← hx] at q0
      have hns := name_size x
      by_cases hk0 : k = 0
      · have HT : Hid (textK f (k + 1) = textK f k ++ nameOf x) := by rw [Hid]; show (if k = 0 then textK f k else textK f k ++ ⟨#[32]⟩) ++ nameOf ((eachK f 5).getD k 0) = _; rw [if_pos hk0, hx]
        have hk1 : ¬ (0 : Int) < k := by omega
        clear hx hk0
        subst e0
        go_wp2_with (go_at_call 61; refine (rName_calls _ _).mono ?_; rintro e w1 ⟨rfl, rfl⟩)
        go_round
        case rel => exact ⟨k + 1, by omega, by go_num, by rw [HT.out]⟩
        case measure => simp [intOf]; omega
      · have HT : Hid (textK f (k + 1) = textK f k ++ ⟨#[32]⟩ ++ nameOf x) := by rw [Hid]; show (if k = 0 then textK f k else textK f k ++ ⟨#[32]⟩) ++ nameOf ((eachK f 5).getD k 0) = _; rw [if_neg hk0, hx]
        have hk1 : (0 : Int) < k := by omega
        clear hx hk0
        subst e0
        go_wp2_with (go_at_call 61; refine (rName_calls _ _).mono ?_; rintro e w1 ⟨rfl, rfl⟩)
        go_round
        case rel => exact ⟨k + 1, by omega, by go_num, by rw [HT.out]⟩
        case measure => simp [intOf]; omega
    · obtain rfl : k = (eachK f 5).length := by omega
      go_wp2
      go_ret
      rw [TE.out]
      exact ⟨rfl, hb⟩

set_option maxHeartbeats 400000 in
theorem rShow_calls (f : Int) (w : World) (hf : F f) :
    Calls Tryd.prog 33 #[.int .u8 f] w fun e w' => e = .returned (.string (showS f)) ∧ Below w.heap.size w w' := by
  cases hr : rightB f
  · have hV : Hid (showS f = ByteArray.empty) := by unfold showS; rw [Hid, hr]; rfl
    go_enter Tryd.func33, Tryd.ntmps33
    go_wp2_with (go_at_call 19; refine (rRight_calls _ _ hf).mono ?_; rintro e w ⟨rfl, rfl⟩)
    go_ret
    rw [hV.out]
    exact ⟨rfl, Below.refl _ _⟩
  · by_cases h0 : f = 0
    · have hV : Hid (showS f = noneS) := by unfold showS; rw [Hid, hr, if_pos rfl, if_pos h0]
      have h0' : (f == 0) = true := by simp [h0]
      clear h0
      go_enter Tryd.func33, Tryd.ntmps33
      go_wp2_with (go_at_call 19; refine (rRight_calls _ _ hf).mono ?_; rintro e w ⟨rfl, rfl⟩)
      go_ret
      rw [hV.out]
      exact ⟨rfl, Below.refl _ _⟩
    · have hV : showS f = joinedS f := by unfold showS; rw [hr, if_pos rfl, if_neg h0]
      rw [hV]
      exact rJoined_calls f w hf hr (by simp [h0])

set_option maxHeartbeats 1000000 in
theorem rParse_calls (s : ByteArray) (w : World) :
    Calls Tryd.prog 28 #[.string s] w fun e w' => e = .returned (.tuple #[.int .u8 (parseV s), .int .i64 (parseE s)]) ∧ Below w.heap.size w w' := by
  go_enter Tryd.func28, Tryd.ntmps28
  go_wp2
  go_loopw [4] (fun i wr => ∃ k : Nat, k ≤ 32 ∧ i = .int .u8 k ∧ findK s k = none ∧ Below w.heap.size w wr) (fun i _ => 32 - (intOf i).toNat)
  case atStart => exact ⟨0, by omega, rfl, rfl, Below.refl _ _⟩
  case round =>
    obtain ⟨k, hk, rfl, hn, hnx⟩ := hrel
    have HN : Hid (findK s k = none) := hn
    clear hn
    by_cases hlt : k < 32
    · have hF : F (k : Int) := by unfold F; omega
      cases hs : ((showS k).toList == s.toList)
      · have HM : Hid _ := findK_miss s k HN.out hs
        go_wp2_with (go_at_call 33; refine (rShow_calls _ _ hF).mono ?_; rintro e w1 ⟨rfl, hb1⟩)
        go_roundw
        case rel => exact ⟨k + 1, by omega, by go_num, HM.out, hnx.trans (hb1.mono hnx.size)⟩
        case measure => simp [intOf]; omega
      · have HM : Hid _ := findK_hit s k HN.out hs hlt
        have HV : Hid (parseV s = k) := by unfold parseV; rw [Hid, HM.out]; rfl
        have HE : Hid (parseE s = 0) := by unfold parseE; rw [Hid, HM.out]; rfl
        go_wp2_with (go_at_call 33; refine (rShow_calls _ _ hF).mono ?_; rintro e w1 ⟨rfl, hb1⟩)
        go_ret2
        rw [HV.out, HE.out]
        exact ⟨rfl, hnx.trans (hb1.mono hnx.size)⟩
    · obtain rfl : k = 32 := by omega
      have HV : Hid (parseV s = 0) := by unfold parseV; rw [Hid, HN.out]; rfl
      have HE : Hid (parseE s = 20) := by unfold parseE; rw [Hid, HN.out]; rfl
      go_wp2
      go_ret2
      rw [HV.out, HE.out]
      exact ⟨rfl, hnx⟩
end Go.Proofs.YtoamnimepkodeabDoor

/- The walk of the statement FlagsBack: it answers true for any byte and any text, where the names stand. -/
import Derived.Test.YtoamnimepkodeacDoorFBackP
import Derived.Deep.QuietTactic
import Derived.BigQuiet
namespace Go.Proofs.YtoamnimepkodeacDoor
open Go.RowKit

set_option maxRecDepth 100000 in
set_option maxHeartbeats 4000000 in
theorem back_true (f : Int) (s : ByteArray) (w : World) (hf : F f) (hN : Names w) (hr : rightB f = true) :
    Calls Tryd.prog 4 #[.int .u8 f, .string s] w fun e w' => e = .returned (.bool true) ∧ Below w.heap.size w w' := by
  obtain ⟨e1, e2⟩ := parse_show f hf
  rw [hr] at e1
  have e3 : (parseV (showS f) != f) = false := by rw [e2 hr]; simp
  clear e2
  have EO : Hid _ := each_ok f hf
  have AE : Hid _ := all_end f hf
  have PB : Hid _ := parse_back s
  have pf := parseV_F s
  have h5 := each_len f 5
  go_enter Tryd.func4, Tryd.ntmps4
  go_wp2_with fail
  refine (begins_calls _ hN).mono ?_
  rintro e w1 ⟨rfl, hb⟩
  have hN1 := hN.keep hb
  go_wp2_with fail
  refine (fShow_calls _ _ hf hN1).mono ?_
  rintro e w2 ⟨rfl, hb2⟩
  replace hN1 := hN1.keep hb2
  replace hb := fbelow_trans hb hb2
  clear hb2
  go_wp2_with fail
  refine (fParse_calls _ _ hN1).mono ?_
  rintro e w3 ⟨rfl, hb2⟩
  replace hN1 := hN1.keep hb2
  replace hb := fbelow_trans hb hb2
  clear hb2
  go_wp2_with fail
  refine (fRight_calls _ _).mono ?_
  rintro e w3 ⟨rfl, rfl⟩
  go_wp2_with fail
  refine (fEach_calls _ _).mono ?_
  rintro e w4 ⟨ao, cv, rfl, hown, hb2⟩
  replace hN1 := hN1.keep hb2
  replace hb := fbelow_trans hb hb2
  have HL : IsList w4 ao (eachK f 5) := isList_of hown
  clear hb2 hown e1 e3
  go_wp2_with fail
  go_loopw [8, 10] (fun v i wr => ∃ (k : Nat) (al : Int), k ≤ (eachK f 5).length ∧ i = .int .i64 k ∧ v = .int .u8 al ∧ al = allK f k ∧ IsList wr ao (eachK f 5) ∧ Names wr ∧ Below w.heap.size w wr) (fun _ i _ => (eachK f 5).length - (intOf i).toNat)
  case atStart => exact ⟨0, 0, by omega, rfl, rfl, rfl, HL, hN1, hb⟩
  case round =>
    obtain ⟨k, al, hk, rfl, rfl, ha, hL, hNr, hbr⟩ := hrel
    clear HL hN1 hb
    have HA : Hid (al = allK f k) := ha
    clear ha
    by_cases hlt : k < (eachK f 5).length
    · obtain ⟨g, hao, hc⟩ := hL k hlt
      obtain ⟨x, hx⟩ : ∃ x, x = (eachK f 5).getD k 0 := ⟨_, rfl⟩
      rw [← hx] at hc
      obtain ⟨x1, x2, x3, x4, x5⟩ := EO.out k hlt x al hx HA.out
      have HX5 : Hid (orV al x = allK f (k + 1)) := x5
      have y3 : (bits .and .u8 x al != 0) = false := by rw [x3]; rfl
      have y4 : (bits .and .u8 x (x - 1) != 0) = false := by rw [x4]; rfl
      have y2 : (x == 0) = false := by simp; omega
      clear hx x3 x4 x5
      subst hao
      go_wp2
      go_quiet (fail)
      go_wp2_with (go_at_call 9; refine (fJoin_calls _ _ _).mono ?_; rintro e w5 ⟨rfl, rfl⟩)
      go_roundw
      case rel => exact ⟨k + 1, orV al x, by omega, by go_num, rfl, HX5.out, hL, hNr, below_drewN hbr nq⟩
      case measure => simp [intOf]; omega
    · obtain rfl : k = (eachK f 5).length := by omega
      have AN : (al != andV f 31) = false := by rw [HA.out, AE.out]; simp
      clear hL
      rcases PB.out with ⟨p1, p2⟩ | ⟨p1, p2⟩
      · have q1 : (parseE s == 0) = true := by simp [p1]
        have q2 : ((showS (parseV s)).toList == s.toList) = true := p2
        clear p1 p2 PB
        go_wp2_with fail
        refine (fMeet_calls _ _ _).mono ?_
        rintro e wr ⟨rfl, rfl⟩
        go_wp2_with fail
        refine (fParse_calls _ _ hNr).mono ?_
        rintro e w6 ⟨rfl, hb6⟩
        replace hNr := hNr.keep hb6
        replace hbr := fbelow_trans hbr hb6
        clear hb6
        go_wp2_with fail
        refine (fShow_calls _ _ pf hNr).mono ?_
        rintro e w7 ⟨rfl, hb7⟩
        replace hbr := fbelow_trans hbr hb7
        clear hb7 hNr
        go_wp2_with fail
        go_ret
        exact ⟨rfl, hbr⟩
      · have q1 : (parseE s == 0) = false := by simp [p1]
        have q2 : (parseE s == 20) = true := by simp [p1]
        have q3 : (parseV s == 0) = true := by simp [p2]
        clear p1 p2 PB
        go_wp2_with fail
        refine (fMeet_calls _ _ _).mono ?_
        rintro e wr ⟨rfl, rfl⟩
        go_wp2_with fail
        refine (fParse_calls _ _ hNr).mono ?_
        rintro e w6 ⟨rfl, hb6⟩
        replace hbr := fbelow_trans hbr hb6
        clear hb6 hNr
        go_wp2_with fail
        go_ret
        exact ⟨rfl, hbr⟩

set_option maxRecDepth 100000 in
set_option maxHeartbeats 4000000 in
theorem back_false (f : Int) (s : ByteArray) (w : World) (hf : F f) (hN : Names w) (hr : rightB f = false) :
    Calls Tryd.prog 4 #[.int .u8 f, .string s] w fun e w' => e = .returned (.bool true) ∧ Below w.heap.size w w' := by
  obtain ⟨e1, e2⟩ := parse_show f hf
  rw [hr] at e1
  clear e2
  have EO : Hid _ := each_ok f hf
  have AE : Hid _ := all_end f hf
  have PB : Hid _ := parse_back s
  have pf := parseV_F s
  have h5 := each_len f 5
  go_enter Tryd.func4, Tryd.ntmps4
  go_wp2_with fail
  refine (begins_calls _ hN).mono ?_
  rintro e w1 ⟨rfl, hb⟩
  have hN1 := hN.keep hb
  go_wp2_with fail
  refine (fShow_calls _ _ hf hN1).mono ?_
  rintro e w2 ⟨rfl, hb2⟩
  replace hN1 := hN1.keep hb2
  replace hb := fbelow_trans hb hb2
  clear hb2
  go_wp2_with fail
  refine (fParse_calls _ _ hN1).mono ?_
  rintro e w3 ⟨rfl, hb2⟩
  replace hN1 := hN1.keep hb2
  replace hb := fbelow_trans hb hb2
  clear hb2
  go_wp2_with fail
  refine (fRight_calls _ _).mono ?_
  rintro e w3 ⟨rfl, rfl⟩
  go_wp2_with fail
  refine (fEach_calls _ _).mono ?_
  rintro e w4 ⟨ao, cv, rfl, hown, hb2⟩
  replace hN1 := hN1.keep hb2
  replace hb := fbelow_trans hb hb2
  have HL : IsList w4 ao (eachK f 5) := isList_of hown
  clear hb2 hown e1
  go_wp2_with fail
  go_loopw [8, 10] (fun v i wr => ∃ (k : Nat) (al : Int), k ≤ (eachK f 5).length ∧ i = .int .i64 k ∧ v = .int .u8 al ∧ al = allK f k ∧ IsList wr ao (eachK f 5) ∧ Names wr ∧ Below w.heap.size w wr) (fun _ i _ => (eachK f 5).length - (intOf i).toNat)
  case atStart => exact ⟨0, 0, by omega, rfl, rfl, rfl, HL, hN1, hb⟩
  case round =>
    obtain ⟨k, al, hk, rfl, rfl, ha, hL, hNr, hbr⟩ := hrel
    clear HL hN1 hb
    have HA : Hid (al = allK f k) := ha
    clear ha
    by_cases hlt : k < (eachK f 5).length
    · obtain ⟨g, hao, hc⟩ := hL k hlt
      obtain ⟨x, hx⟩ : ∃ x, x = (eachK f 5).getD k 0 := ⟨_, rfl⟩
      rw [← hx] at hc
      obtain ⟨x1, x2, x3, x4, x5⟩ := EO.out k hlt x al hx HA.out
      have HX5 : Hid (orV al x = allK f (k + 1)) := x5
      have y3 : (bits .and .u8 x al != 0) = false := by rw [x3]; rfl
      have y4 : (bits .and .u8 x (x - 1) != 0) = false := by rw [x4]; rfl
      have y2 : (x == 0) = false := by simp; omega
      clear hx x3 x4 x5
      subst hao
      go_wp2
      go_quiet (fail)
      go_wp2_with (go_at_call 9; refine (fJoin_calls _ _ _).mono ?_; rintro e w5 ⟨rfl, rfl⟩)
      go_roundw
      case rel => exact ⟨k + 1, orV al x, by omega, by go_num, rfl, HX5.out, hL, hNr, below_drewN hbr nq⟩
      case measure => simp [intOf]; omega
    · obtain rfl : k = (eachK f 5).length := by omega
      have AN : (al != andV f 31) = false := by rw [HA.out, AE.out]; simp
      clear hL
      rcases PB.out with ⟨p1, p2⟩ | ⟨p1, p2⟩
      · have q1 : (parseE s == 0) = true := by simp [p1]
        have q2 : ((showS (parseV s)).toList == s.toList) = true := p2
        clear p1 p2 PB
        go_wp2_with fail
        refine (fMeet_calls _ _ _).mono ?_
        rintro e wr ⟨rfl, rfl⟩
        go_wp2_with fail
        refine (fParse_calls _ _ hNr).mono ?_
        rintro e w6 ⟨rfl, hb6⟩
        replace hNr := hNr.keep hb6
        replace hbr := fbelow_trans hbr hb6
        clear hb6
        go_wp2_with fail
        refine (fShow_calls _ _ pf hNr).mono ?_
        rintro e w7 ⟨rfl, hb7⟩
        replace hbr := fbelow_trans hbr hb7
        clear hb7 hNr
        go_wp2_with fail
        go_ret
        exact ⟨rfl, hbr⟩
      · have q1 : (parseE s == 0) = false := by simp [p1]
        have q2 : (parseE s == 20) = true := by simp [p1]
        have q3 : (parseV s == 0) = true := by simp [p2]
        clear p1 p2 PB
        go_wp2_with fail
        refine (fMeet_calls _ _ _).mono ?_
        rintro e wr ⟨rfl, rfl⟩
        go_wp2_with fail
        refine (fParse_calls _ _ hNr).mono ?_
        rintro e w6 ⟨rfl, hb6⟩
        replace hbr := fbelow_trans hbr hb6
        clear hb6 hNr
        go_wp2_with fail
        go_ret
        exact ⟨rfl, hbr⟩

theorem flagsBack_walk (f : Int) (s : ByteArray) (w : World) (hf : F f) (_hs : s.size ≤ maxLen) (hN : Names w) :
    Calls Tryd.prog 4 #[.int .u8 f, .string s] w fun e w' => e = .returned (.bool true) ∧ Below w.heap.size w w' := by
  cases hr : rightB f
  · exact back_false f s w hf hN hr
  · exact back_true f s w hf hN hr
end Go.Proofs.YtoamnimepkodeacDoor

/- The walk of the statement FlagsTexts: it answers true for any byte and any text, where the names stand. -/
import Derived.Test.YtoamnimepkodeabDoorFTextsS
namespace Go.Proofs.YtoamnimepkodeabDoor
open Go.RowKit

set_option maxHeartbeats 2000000 in
theorem flagsTexts_walk (f : Int) (s : ByteArray) (w : World) (hf : F f) (_hs : s.size ≤ maxLen) (hN : Names w) :
    Calls Tryd.prog 6 #[.int .u8 f, .string s] w fun e w' => e = .returned (.bool true) ∧ Below w.heap.size w w' := by
  have h5 := each_len f 5
  go_enter Tryd.func6, Tryd.ntmps6
  go_wp2_with fail
  refine (fParse_calls _ _ hN).mono ?_
  rintro e w1 ⟨rfl, hb⟩
  have hN1 := hN.keep hb
  go_wp2_with fail
  refine (rParse_calls _ _).mono ?_
  rintro e w2 ⟨rfl, hb2⟩
  replace hN1 := hN1.keep hb2
  replace hb := fbelow_trans hb hb2
  clear hb2
  go_wp2_with fail
  refine (fEach_calls _ _).mono ?_
  rintro e w3 ⟨ao, cv, rfl, hown, hb2⟩
  replace hN1 := hN1.keep hb2
  replace hb := fbelow_trans hb hb2
  have HL : IsList w3 ao (eachK f 5) := isList_of hown
  clear hown hb2
  go_wp2_with fail
  refine (rEach_calls _ _ hf).mono ?_
  rintro e w4 ⟨ao2, cv2, rfl, hown, hb2⟩
  replace hN1 := hN1.keep hb2
  replace hb := fbelow_trans hb hb2
  replace HL := HL.keep hb2
  have HL2 : IsList w4 ao2 (eachK f 5) := isList_of hown
  clear hown hb2
  go_wp2_with fail
  refine (rFlags_calls _ _ _ _ _ _ HL HL2 h5).mono ?_
  rintro e w5 ⟨rfl, hb2⟩
  replace hN1 := hN1.keep hb2
  replace hb := fbelow_trans hb hb2
  clear HL HL2 hb2
  go_wp2_with fail
  refine (fShow_calls _ _ hf hN1).mono ?_
  rintro e w6 ⟨rfl, hb2⟩
  replace hN1 := hN1.keep hb2
  replace hb := fbelow_trans hb hb2
  clear hb2
  go_wp2_with fail
  refine (rShow_calls _ _ hf).mono ?_
  rintro e w7 ⟨rfl, hb2⟩
  replace hN1 := hN1.keep hb2
  replace hb := fbelow_trans hb hb2
  clear hb2
  go_wp2_with fail
  refine (begins_calls _ hN1).mono ?_
  rintro e w8 ⟨rfl, hb2⟩
  replace hb := fbelow_trans hb hb2
  clear hb2 hN1
  go_wp2_with fail
  go_ret
  exact ⟨rfl, hb⟩
end Go.Proofs.YtoamnimepkodeabDoor

/- Package special: the rows of functions. -/
import Derived.Test.YtkkccnpmcbpdnaaGreatDoorSPL0
namespace Go.Proofs.YtkkccnpmcbpdnaaGreatDoor
open Go.RowKit

set_option maxRecDepth 100000 in
set_option maxHeartbeats 4000000 in
theorem lPow_made (W : World) : Calls Tryz.prog 62 #[] W (ML W lPow) := by
  go_enter Tryz.func62, Tryz.ntmps62
  go_wp2_with fail
  refine Calls.mono (is_made _ _) ?_
  rintro r w0 ⟨G0, q0, rfl, h0, b0⟩
  have bb := b0
  clear b0
  go_wp2_with fail
  refine Calls.mono (ofY_made _ _ _ _ h0) ?_
  rintro r w1 ⟨G1, q1, rfl, h1, b1⟩
  replace h0 := h0.keep b1
  replace bb := below_trans bb b1
  clear b1
  go_wp2_with fail
  refine Calls.mono (both_made _ _ _ _ _ _ _ (tZero_is _) h1) ?_
  rintro r w2 ⟨G2, q2, rfl, h2, b2⟩
  replace h1 := h1.keep b2
  replace bb := below_trans bb b2
  clear b2
  go_wp2_with fail
  refine Calls.mono (told_made _ _ ⟨by decide, by decide⟩) ?_
  rintro r w3 ⟨G3, q3, rfl, h3, b3⟩
  replace h2 := h2.keep b3
  replace bb := below_trans bb b3
  clear b3
  go_wp2_with fail
  refine Calls.mono (below_made _ _ ⟨by decide, by decide⟩) ?_
  rintro r w4 ⟨G4, q4, rfl, h4, b4⟩
  replace h2 := h2.keep b4
  replace h3 := h3.keep b4
  replace bb := below_trans bb b4
  clear b4
  go_wp2_with fail
  refine Calls.mono (ofY_made _ _ _ _ h4) ?_
  rintro r w5 ⟨G5, q5, rfl, h5, b5⟩
  replace h2 := h2.keep b5
  replace h3 := h3.keep b5
  replace h4 := h4.keep b5
  replace bb := below_trans bb b5
  clear b5
  go_wp2_with fail
  refine Calls.mono (both_made _ _ _ _ _ _ _ (tZero_is _) h5) ?_
  rintro r w6 ⟨G6, q6, rfl, h6, b6⟩
  replace h2 := h2.keep b6
  replace h3 := h3.keep b6
  replace h5 := h5.keep b6
  replace bb := below_trans bb b6
  clear b6
  go_wp2_with fail
  refine Calls.mono (pole_made _ _ ⟨by decide, by decide⟩) ?_
  rintro r w7 ⟨G7, q7, rfl, h7, b7⟩
  replace h2 := h2.keep b7
  replace h3 := h3.keep b7
  replace h6 := h6.keep b7
  replace bb := below_trans bb b7
  clear b7
  go_wp2_with fail
  refine Calls.mono (signedOdd_made _ _ _ _ h7) ?_
  rintro r w8 ⟨G8, q8, rfl, h8, b8⟩
  replace h2 := h2.keep b8
  replace h3 := h3.keep b8
  replace h6 := h6.keep b8
  replace h7 := h7.keep b8
  replace bb := below_trans bb b8
  clear b8
  go_wp2_with fail
  refine Calls.mono (told_made _ _ ⟨by decide, by decide⟩) ?_
  rintro r w9 ⟨G9, q9, rfl, h9, b9⟩
  replace h2 := h2.keep b9
  replace h3 := h3.keep b9
  replace h6 := h6.keep b9
  replace h8 := h8.keep b9
  replace bb := below_trans bb b9
  clear b9
  go_wp2_with fail
  refine Calls.mono (signedOdd_made _ _ _ _ h9) ?_
  rintro r w10 ⟨G10, q10, rfl, h10, b10⟩
  replace h2 := h2.keep b10
  replace h3 := h3.keep b10
  replace h6 := h6.keep b10
  replace h8 := h8.keep b10
  replace h9 := h9.keep b10
  replace bb := below_trans bb b10
  clear b10
  go_wp2_with fail
  refine Calls.mono (ofY_made _ _ _ _ (tInf_is _)) ?_
  rintro r w11 ⟨G11, q11, rfl, h11, b11⟩
  replace h2 := h2.keep b11
  replace h3 := h3.keep b11
  replace h6 := h6.keep b11
  replace h8 := h8.keep b11
  replace h10 := h10.keep b11
  replace bb := below_trans bb b11
  clear b11
  go_wp2_with fail
  refine Calls.mono (is_made _ _) ?_
  rintro r w12 ⟨G12, q12, rfl, h12, b12⟩
  replace h2 := h2.keep b12
  replace h3 := h3.keep b12
  replace h6 := h6.keep b12
  replace h8 := h8.keep b12
  replace h10 := h10.keep b12
  replace h11 := h11.keep b12
  replace bb := below_trans bb b12
  clear b12
  go_wp2_with fail
  refine Calls.mono (both_made _ _ _ _ _ _ _ h11 h12) ?_
  rintro r w13 ⟨G13, q13, rfl, h13, b13⟩
  replace h2 := h2.keep b13
  replace h3 := h3.keep b13
  replace h6 := h6.keep b13
  replace h8 := h8.keep b13
  replace h10 := h10.keep b13
  replace h11 := h11.keep b13
  replace h12 := h12.keep b13
  replace bb := below_trans bb b13
  clear b13
  go_wp2_with fail
  refine Calls.mono (told_made _ _ ⟨by decide, by decide⟩) ?_
  rintro r w14 ⟨G14, q14, rfl, h14, b14⟩
  replace h2 := h2.keep b14
  replace h3 := h3.keep b14
  replace h6 := h6.keep b14
  replace h8 := h8.keep b14
  replace h10 := h10.keep b14
  replace h13 := h13.keep b14
  replace bb := below_trans bb b14
  clear b14
  go_wp2_with fail
  refine Calls.mono (ofY_made _ _ _ _ (tInf_is _)) ?_
  rintro r w15 ⟨G15, q15, rfl, h15, b15⟩
  replace h2 := h2.keep b15
  replace h3 := h3.keep b15
  replace h6 := h6.keep b15
  replace h8 := h8.keep b15
  replace h10 := h10.keep b15
  replace h13 := h13.keep b15
  replace h14 := h14.keep b15
  replace bb := below_trans bb b15
  clear b15
  go_wp2_with fail
  refine Calls.mono (both_made _ _ _ _ _ _ _ h15 (tGrow_is _)) ?_
  rintro r w16 ⟨G16, q16, rfl, h16, b16⟩
  replace h2 := h2.keep b16
  replace h3 := h3.keep b16
  replace h6 := h6.keep b16
  replace h8 := h8.keep b16
  replace h10 := h10.keep b16
  replace h13 := h13.keep b16
  replace h14 := h14.keep b16
  replace h15 := h15.keep b16
  replace bb := below_trans bb b16
  clear b16
  go_wp2_with fail
  refine Calls.mono (told_made _ _ ⟨by decide, by decide⟩) ?_
  rintro r w17 ⟨G17, q17, rfl, h17, b17⟩
  replace h2 := h2.keep b17
  replace h3 := h3.keep b17
  replace h6 := h6.keep b17
  replace h8 := h8.keep b17
  replace h10 := h10.keep b17
  replace h13 := h13.keep b17
  replace h14 := h14.keep b17
  replace h16 := h16.keep b17
  replace bb := below_trans bb b17
  clear b17
  go_wp2_with fail
  refine Calls.mono (ofY_made _ _ _ _ (tInf_is _)) ?_
  rintro r w18 ⟨G18, q18, rfl, h18, b18⟩
  replace h2 := h2.keep b18
  replace h3 := h3.keep b18
  replace h6 := h6.keep b18
  replace h8 := h8.keep b18
  replace h10 := h10.keep b18
  replace h13 := h13.keep b18
  replace h14 := h14.keep b18
  replace h16 := h16.keep b18
  replace h17 := h17.keep b18
  replace bb := below_trans bb b18
  clear b18
  go_wp2_with fail
  refine Calls.mono (told_made _ _ ⟨by decide, by decide⟩) ?_
  rintro r w19 ⟨G19, q19, rfl, h19, b19⟩
  replace h2 := h2.keep b19
  replace h3 := h3.keep b19
  replace h6 := h6.keep b19
  replace h8 := h8.keep b19
  replace h10 := h10.keep b19
  replace h13 := h13.keep b19
  replace h14 := h14.keep b19
  replace h16 := h16.keep b19
  replace h17 := h17.keep b19
  replace h18 := h18.keep b19
  replace bb := below_trans bb b19
  clear b19
  go_wp2_with fail
  refine Calls.mono (below_made _ _ ⟨by decide, by decide⟩) ?_
  rintro r w20 ⟨G20, q20, rfl, h20, b20⟩
  replace h2 := h2.keep b20
  replace h3 := h3.keep b20
  replace h6 := h6.keep b20
  replace h8 := h8.keep b20
  replace h10 := h10.keep b20
  replace h13 := h13.keep b20
  replace h14 := h14.keep b20
  replace h16 := h16.keep b20
  replace h17 := h17.keep b20
  replace h18 := h18.keep b20
  replace h19 := h19.keep b20
  replace bb := below_trans bb b20
  clear b20
  go_wp2_with fail
  refine Calls.mono (ofY_made _ _ _ _ h20) ?_
  rintro r w21 ⟨G21, q21, rfl, h21, b21⟩
  replace h2 := h2.keep b21
  replace h3 := h3.keep b21
  replace h6 := h6.keep b21
  replace h8 := h8.keep b21
  replace h10 := h10.keep b21
  replace h13 := h13.keep b21
  replace h14 := h14.keep b21
  replace h16 := h16.keep b21
  replace h17 := h17.keep b21
  replace h18 := h18.keep b21
  replace h19 := h19.keep b21
  replace h20 := h20.keep b21
  replace bb := below_trans bb b21
  clear b21
  go_wp2_with fail
  refine Calls.mono (both_made _ _ _ _ _ _ _ (tInf_is _) h21) ?_
  rintro r w22 ⟨G22, q22, rfl, h22, b22⟩
  replace h2 := h2.keep b22
  replace h3 := h3.keep b22
  replace h6 := h6.keep b22
  replace h8 := h8.keep b22
  replace h10 := h10.keep b22
  replace h13 := h13.keep b22
  replace h14 := h14.keep b22
  replace h16 := h16.keep b22
  replace h17 := h17.keep b22
  replace h18 := h18.keep b22
  replace h19 := h19.keep b22
  replace h21 := h21.keep b22
  replace bb := below_trans bb b22
  clear b22
  go_wp2_with fail
  refine Calls.mono (told_made _ _ ⟨by decide, by decide⟩) ?_
  rintro r w23 ⟨G23, q23, rfl, h23, b23⟩
  replace h2 := h2.keep b23
  replace h3 := h3.keep b23
  replace h6 := h6.keep b23
  replace h8 := h8.keep b23
  replace h10 := h10.keep b23
  replace h13 := h13.keep b23
  replace h14 := h14.keep b23
  replace h16 := h16.keep b23
  replace h17 := h17.keep b23
  replace h18 := h18.keep b23
  replace h19 := h19.keep b23
  replace h22 := h22.keep b23
  replace bb := below_trans bb b23
  clear b23
  go_wp2_with fail
  refine Calls.mono (signedOdd_made _ _ _ _ h23) ?_
  rintro r w24 ⟨G24, q24, rfl, h24, b24⟩
  replace h2 := h2.keep b24
  replace h3 := h3.keep b24
  replace h6 := h6.keep b24
  replace h8 := h8.keep b24
  replace h10 := h10.keep b24
  replace h13 := h13.keep b24
  replace h14 := h14.keep b24
  replace h16 := h16.keep b24
  replace h17 := h17.keep b24
  replace h18 := h18.keep b24
  replace h19 := h19.keep b24
  replace h22 := h22.keep b24
  replace h23 := h23.keep b24
  replace bb := below_trans bb b24
  clear b24
  go_wp2_with fail
  refine Calls.mono (told_made _ _ ⟨by decide, by decide⟩) ?_
  rintro r w25 ⟨G25, q25, rfl, h25, b25⟩
  replace h2 := h2.keep b25
  replace h3 := h3.keep b25
  replace h6 := h6.keep b25
  replace h8 := h8.keep b25
  replace h10 := h10.keep b25
  replace h13 := h13.keep b25
  replace h14 := h14.keep b25
  replace h16 := h16.keep b25
  replace h17 := h17.keep b25
  replace h18 := h18.keep b25
  replace h19 := h19.keep b25
  replace h22 := h22.keep b25
  replace h24 := h24.keep b25
  replace bb := below_trans bb b25
  clear b25
  go_wp2_with fail
  refine Calls.mono (signedOdd_made _ _ _ _ h25) ?_
  rintro r w26 ⟨G26, q26, rfl, h26, b26⟩
  replace h2 := h2.keep b26
  replace h3 := h3.keep b26
  replace h6 := h6.keep b26
  replace h8 := h8.keep b26
  replace h10 := h10.keep b26
  replace h13 := h13.keep b26
  replace h14 := h14.keep b26
  replace h16 := h16.keep b26
  replace h17 := h17.keep b26
  replace h18 := h18.keep b26
  replace h19 := h19.keep b26
  replace h22 := h22.keep b26
  replace h24 := h24.keep b26
  replace h25 := h25.keep b26
  replace bb := below_trans bb b26
  clear b26
  go_wp2_with fail
  refine Calls.mono (below_made _ _ ⟨by decide, by decide⟩) ?_
  rintro r w27 ⟨G27, q27, rfl, h27, b27⟩
  replace h2 := h2.keep b27
  replace h3 := h3.keep b27
  replace h6 := h6.keep b27
  replace h8 := h8.keep b27
  replace h10 := h10.keep b27
  replace h13 := h13.keep b27
  replace h14 := h14.keep b27
  replace h16 := h16.keep b27
  replace h17 := h17.keep b27
  replace h18 := h18.keep b27
  replace h19 := h19.keep b27
  replace h22 := h22.keep b27
  replace h24 := h24.keep b27
  replace h26 := h26.keep b27
  replace bb := below_trans bb b27
  clear b27
  go_wp2_with fail
  refine Calls.mono (ofY_made _ _ _ _ (tBroken_is _)) ?_
  rintro r w28 ⟨G28, q28, rfl, h28, b28⟩
  replace h2 := h2.keep b28
  replace h3 := h3.keep b28
  replace h6 := h6.keep b28
  replace h8 := h8.keep b28
  replace h10 := h10.keep b28
  replace h13 := h13.keep b28
  replace h14 := h14.keep b28
  replace h16 := h16.keep b28
  replace h17 := h17.keep b28
  replace h18 := h18.keep b28
  replace h19 := h19.keep b28
  replace h22 := h22.keep b28
  replace h24 := h24.keep b28
  replace h26 := h26.keep b28
  replace h27 := h27.keep b28
  replace bb := below_trans bb b28
  clear b28
  go_wp2_with fail
  refine Calls.mono (both_made _ _ _ _ _ _ _ h27 h28) ?_
  rintro r w29 ⟨G29, q29, rfl, h29, b29⟩
  replace h2 := h2.keep b29
  replace h3 := h3.keep b29
  replace h6 := h6.keep b29
  replace h8 := h8.keep b29
  replace h10 := h10.keep b29
  replace h13 := h13.keep b29
  replace h14 := h14.keep b29
  replace h16 := h16.keep b29
  replace h17 := h17.keep b29
  replace h18 := h18.keep b29
  replace h19 := h19.keep b29
  replace h22 := h22.keep b29
  replace h24 := h24.keep b29
  replace h26 := h26.keep b29
  replace h27 := h27.keep b29
  replace h28 := h28.keep b29
  replace bb := below_trans bb b29
  clear b29
  go_wp2_with fail
  go_ret
  exact ⟨_, 9, 9, _, rfl, rfl, isC_made _ _ _ 9 rfl, ⟨h2.keep (below_alloc _ _), h3.keep (below_alloc _ _), h6.keep (below_alloc _ _), h8.keep (below_alloc _ _), tZero_is _, h10.keep (below_alloc _ _), h13.keep (below_alloc _ _), h14.keep (below_alloc _ _), h16.keep (below_alloc _ _), h17.keep (below_alloc _ _), h18.keep (below_alloc _ _), h19.keep (below_alloc _ _), h22.keep (below_alloc _ _), h24.keep (below_alloc _ _), tInf_is _, h26.keep (below_alloc _ _), h29.keep (below_alloc _ _), aOutside_is _, trivial⟩, below_trans bb (below_alloc _ _)⟩
theorem lPow_cl : CL 62 lPow := ⟨Tryz.call62, fun W _ => lPow_made W⟩

end Go.Proofs.YtkkccnpmcbpdnaaGreatDoor

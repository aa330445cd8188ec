/- Package special: the rows of functions. -/
import Derived.Test.YtkkccnpmcbpdnaaGreatDoorSPL0
namespace Go.Proofs.YtkkccnpmcbpdnaaGreatDoor
open Go.RowKit

set_option maxRecDepth 100000 in
theorem lNil_made (W : World) : Calls Tryz.prog 58 #[] W (ML W []) := by
  go_enter Tryz.func58, Tryz.ntmps58
  go_wp2_with fail
  go_ret
  exact ⟨none, 0, 0, [], rfl, rfl, isC_nil _, trivial, Below.refl _ _⟩
theorem lNil_cl : CL 58 [] := ⟨Tryz.call58, fun W _ => lNil_made W⟩

set_option maxRecDepth 100000 in
set_option maxHeartbeats 4000000 in
theorem lExp_made (W : World) : Calls Tryz.prog 39 #[] W (ML W lExp) := by
  go_enter Tryz.func39, Tryz.ntmps39
  go_wp2_with fail
  refine Calls.mono (told_made _ _ ⟨by decide, by decide⟩) ?_
  rintro r w0 ⟨G0, q0, rfl, h0, b0⟩
  have bb := b0
  clear b0
  go_wp2_with fail
  refine Calls.mono (is_made _ _) ?_
  rintro r w1 ⟨G1, q1, rfl, h1, b1⟩
  replace h0 := h0.keep b1
  replace bb := below_trans bb b1
  clear b1
  go_wp2_with fail
  refine Calls.mono (told_made _ _ ⟨by decide, by decide⟩) ?_
  rintro r w2 ⟨G2, q2, rfl, h2, b2⟩
  replace h0 := h0.keep b2
  replace h1 := h1.keep b2
  replace bb := below_trans bb b2
  clear b2
  go_wp2_with fail
  refine Calls.mono (is_made _ _) ?_
  rintro r w3 ⟨G3, q3, rfl, h3, b3⟩
  replace h0 := h0.keep b3
  replace h1 := h1.keep b3
  replace h2 := h2.keep b3
  replace bb := below_trans bb b3
  clear b3
  go_wp2_with fail
  go_ret
  exact ⟨_, 3, 3, _, rfl, rfl, isC_made _ _ _ 3 rfl, ⟨tZero_is _, h0.keep (below_alloc _ _), h1.keep (below_alloc _ _), h2.keep (below_alloc _ _), h3.keep (below_alloc _ _), aItself_is _, trivial⟩, below_trans bb (below_alloc _ _)⟩
theorem lExp_cl : CL 39 lExp := ⟨Tryz.call39, fun W _ => lExp_made W⟩

set_option maxRecDepth 100000 in
set_option maxHeartbeats 4000000 in
theorem lExpm1_made (W : World) : Calls Tryz.prog 40 #[] W (ML W lExpm1) := by
  go_enter Tryz.func40, Tryz.ntmps40
  go_wp2_with fail
  refine Calls.mono (is_made _ _) ?_
  rintro r w0 ⟨G0, q0, rfl, h0, b0⟩
  have bb := b0
  clear b0
  go_wp2_with fail
  refine Calls.mono (told_made _ _ ⟨by decide, by decide⟩) ?_
  rintro r w1 ⟨G1, q1, rfl, h1, b1⟩
  replace h0 := h0.keep b1
  replace bb := below_trans bb b1
  clear b1
  go_wp2_with fail
  refine Calls.mono (is_made _ _) ?_
  rintro r w2 ⟨G2, q2, rfl, h2, b2⟩
  replace h0 := h0.keep b2
  replace h1 := h1.keep b2
  replace bb := below_trans bb b2
  clear b2
  go_wp2_with fail
  go_ret
  exact ⟨_, 3, 3, _, rfl, rfl, isC_made _ _ _ 3 rfl, ⟨tZero_is _, aItself_is _, h0.keep (below_alloc _ _), h1.keep (below_alloc _ _), h2.keep (below_alloc _ _), aItself_is _, trivial⟩, below_trans bb (below_alloc _ _)⟩
theorem lExpm1_cl : CL 40 lExpm1 := ⟨Tryz.call40, fun W _ => lExpm1_made W⟩

set_option maxRecDepth 100000 in
set_option maxHeartbeats 4000000 in
theorem lLog_made (W : World) : Calls Tryz.prog 41 #[] W (ML W lLog) := by
  go_enter Tryz.func41, Tryz.ntmps41
  go_wp2_with fail
  refine Calls.mono (pole_made _ _ ⟨by decide, by decide⟩) ?_
  rintro r w0 ⟨G0, q0, rfl, h0, b0⟩
  have bb := b0
  clear b0
  go_wp2_with fail
  refine Calls.mono (below_made _ _ ⟨by decide, by decide⟩) ?_
  rintro r w1 ⟨G1, q1, rfl, h1, b1⟩
  replace h0 := h0.keep b1
  replace bb := below_trans bb b1
  clear b1
  go_wp2_with fail
  refine Calls.mono (is_made _ _) ?_
  rintro r w2 ⟨G2, q2, rfl, h2, b2⟩
  replace h0 := h0.keep b2
  replace h1 := h1.keep b2
  replace bb := below_trans bb b2
  clear b2
  go_wp2_with fail
  refine Calls.mono (told_made _ _ ⟨by decide, by decide⟩) ?_
  rintro r w3 ⟨G3, q3, rfl, h3, b3⟩
  replace h0 := h0.keep b3
  replace h1 := h1.keep b3
  replace h2 := h2.keep b3
  replace bb := below_trans bb b3
  clear b3
  go_wp2_with fail
  refine Calls.mono (is_made _ _) ?_
  rintro r w4 ⟨G4, q4, rfl, h4, b4⟩
  replace h0 := h0.keep b4
  replace h1 := h1.keep b4
  replace h2 := h2.keep b4
  replace h3 := h3.keep b4
  replace bb := below_trans bb b4
  clear b4
  go_wp2_with fail
  go_ret
  exact ⟨_, 4, 4, _, rfl, rfl, isC_made _ _ _ 4 rfl, ⟨tZero_is _, h0.keep (below_alloc _ _), h1.keep (below_alloc _ _), aOutside_is _, h2.keep (below_alloc _ _), h3.keep (below_alloc _ _), h4.keep (below_alloc _ _), aItself_is _, trivial⟩, below_trans bb (below_alloc _ _)⟩
theorem lLog_cl : CL 41 lLog := ⟨Tryz.call41, fun W _ => lLog_made W⟩

set_option maxRecDepth 100000 in
set_option maxHeartbeats 4000000 in
theorem lLog1p_made (W : World) : Calls Tryz.prog 42 #[] W (ML W lLog1p) := by
  go_enter Tryz.func42, Tryz.ntmps42
  go_wp2_with fail
  refine Calls.mono (is_made _ _) ?_
  rintro r w0 ⟨G0, q0, rfl, h0, b0⟩
  have bb := b0
  clear b0
  go_wp2_with fail
  refine Calls.mono (pole_made _ _ ⟨by decide, by decide⟩) ?_
  rintro r w1 ⟨G1, q1, rfl, h1, b1⟩
  replace h0 := h0.keep b1
  replace bb := below_trans bb b1
  clear b1
  go_wp2_with fail
  refine Calls.mono (below_made _ _ ⟨by decide, by decide⟩) ?_
  rintro r w2 ⟨G2, q2, rfl, h2, b2⟩
  replace h0 := h0.keep b2
  replace h1 := h1.keep b2
  replace bb := below_trans bb b2
  clear b2
  go_wp2_with fail
  refine Calls.mono (is_made _ _) ?_
  rintro r w3 ⟨G3, q3, rfl, h3, b3⟩
  replace h0 := h0.keep b3
  replace h1 := h1.keep b3
  replace h2 := h2.keep b3
  replace bb := below_trans bb b3
  clear b3
  go_wp2_with fail
  go_ret
  exact ⟨_, 4, 4, _, rfl, rfl, isC_made _ _ _ 4 rfl, ⟨tZero_is _, aItself_is _, h0.keep (below_alloc _ _), h1.keep (below_alloc _ _), h2.keep (below_alloc _ _), aOutside_is _, h3.keep (below_alloc _ _), aItself_is _, trivial⟩, below_trans bb (below_alloc _ _)⟩
theorem lLog1p_cl : CL 42 lLog1p := ⟨Tryz.call42, fun W _ => lLog1p_made W⟩

set_option maxRecDepth 100000 in
set_option maxHeartbeats 4000000 in
theorem lSin_made (W : World) : Calls Tryz.prog 43 #[] W (ML W lSin) := by
  go_enter Tryz.func43, Tryz.ntmps43
  go_wp2_with fail
  go_ret
  exact ⟨_, 2, 2, _, rfl, rfl, isC_made _ _ _ 2 rfl, ⟨tZero_is _, aItself_is _, tInf_is _, aOutside_is _, trivial⟩, below_alloc _ _⟩
theorem lSin_cl : CL 43 lSin := ⟨Tryz.call43, fun W _ => lSin_made W⟩

set_option maxRecDepth 100000 in
set_option maxHeartbeats 4000000 in
theorem lCos_made (W : World) : Calls Tryz.prog 44 #[] W (ML W lCos) := by
  go_enter Tryz.func44, Tryz.ntmps44
  go_wp2_with fail
  refine Calls.mono (told_made _ _ ⟨by decide, by decide⟩) ?_
  rintro r w0 ⟨G0, q0, rfl, h0, b0⟩
  have bb := b0
  clear b0
  go_wp2_with fail
  go_ret
  exact ⟨_, 2, 2, _, rfl, rfl, isC_made _ _ _ 2 rfl, ⟨tZero_is _, h0.keep (below_alloc _ _), tInf_is _, aOutside_is _, trivial⟩, below_trans bb (below_alloc _ _)⟩
theorem lCos_cl : CL 44 lCos := ⟨Tryz.call44, fun W _ => lCos_made W⟩

set_option maxRecDepth 100000 in
set_option maxHeartbeats 4000000 in
theorem lSinpi_made (W : World) : Calls Tryz.prog 45 #[] W (ML W lSinpi) := by
  go_enter Tryz.func45, Tryz.ntmps45
  go_wp2_with fail
  refine Calls.mono (told_made _ _ ⟨by decide, by decide⟩) ?_
  rintro r w0 ⟨G0, q0, rfl, h0, b0⟩
  have bb := b0
  clear b0
  go_wp2_with fail
  refine Calls.mono (signed_made _ _ _ _ h0) ?_
  rintro r w1 ⟨G1, q1, rfl, h1, b1⟩
  replace h0 := h0.keep b1
  replace bb := below_trans bb b1
  clear b1
  go_wp2_with fail
  go_ret
  exact ⟨_, 2, 2, _, rfl, rfl, isC_made _ _ _ 2 rfl, ⟨tInf_is _, aOutside_is _, tWhole_is _, h1.keep (below_alloc _ _), trivial⟩, below_trans bb (below_alloc _ _)⟩
theorem lSinpi_cl : CL 45 lSinpi := ⟨Tryz.call45, fun W _ => lSinpi_made W⟩

set_option maxRecDepth 100000 in
set_option maxHeartbeats 4000000 in
theorem lCospi_made (W : World) : Calls Tryz.prog 46 #[] W (ML W lCospi) := by
  go_enter Tryz.func46, Tryz.ntmps46
  go_wp2_with fail
  refine Calls.mono (told_made _ _ ⟨by decide, by decide⟩) ?_
  rintro r w0 ⟨G0, q0, rfl, h0, b0⟩
  have bb := b0
  clear b0
  go_wp2_with fail
  go_ret
  exact ⟨_, 2, 2, _, rfl, rfl, isC_made _ _ _ 2 rfl, ⟨tInf_is _, aOutside_is _, tHalf_is _, h0.keep (below_alloc _ _), trivial⟩, below_trans bb (below_alloc _ _)⟩
theorem lCospi_cl : CL 46 lCospi := ⟨Tryz.call46, fun W _ => lCospi_made W⟩

set_option maxRecDepth 100000 in
set_option maxHeartbeats 4000000 in
theorem lTanpi_made (W : World) : Calls Tryz.prog 47 #[] W (ML W lTanpi) := by
  go_enter Tryz.func47, Tryz.ntmps47
  go_wp2_with fail
  refine Calls.mono (told_made _ _ ⟨by decide, by decide⟩) ?_
  rintro r w0 ⟨G0, q0, rfl, h0, b0⟩
  have bb := b0
  clear b0
  go_wp2_with fail
  refine Calls.mono (turnedIf_made _ _ _ _ _ _ _ (tOddPart_is _) h0) ?_
  rintro r w1 ⟨G1, q1, rfl, h1, b1⟩
  replace h0 := h0.keep b1
  replace bb := below_trans bb b1
  clear b1
  go_wp2_with fail
  refine Calls.mono (signed_made _ _ _ _ h1) ?_
  rintro r w2 ⟨G2, q2, rfl, h2, b2⟩
  replace h1 := h1.keep b2
  replace bb := below_trans bb b2
  clear b2
  go_wp2_with fail
  refine Calls.mono (pole_made _ _ ⟨by decide, by decide⟩) ?_
  rintro r w3 ⟨G3, q3, rfl, h3, b3⟩
  replace h2 := h2.keep b3
  replace bb := below_trans bb b3
  clear b3
  go_wp2_with fail
  refine Calls.mono (turnedIf_made _ _ _ _ _ _ _ (tOddPart_is _) h3) ?_
  rintro r w4 ⟨G4, q4, rfl, h4, b4⟩
  replace h2 := h2.keep b4
  replace h3 := h3.keep b4
  replace bb := below_trans bb b4
  clear b4
  go_wp2_with fail
  refine Calls.mono (signed_made _ _ _ _ h4) ?_
  rintro r w5 ⟨G5, q5, rfl, h5, b5⟩
  replace h2 := h2.keep b5
  replace h4 := h4.keep b5
  replace bb := below_trans bb b5
  clear b5
  go_wp2_with fail
  go_ret
  exact ⟨_, 3, 3, _, rfl, rfl, isC_made _ _ _ 3 rfl, ⟨tInf_is _, aOutside_is _, tWhole_is _, h2.keep (below_alloc _ _), tHalf_is _, h5.keep (below_alloc _ _), trivial⟩, below_trans bb (below_alloc _ _)⟩
theorem lTanpi_cl : CL 47 lTanpi := ⟨Tryz.call47, fun W _ => lTanpi_made W⟩

set_option maxRecDepth 100000 in
set_option maxHeartbeats 4000000 in
theorem lAsin_made (W : World) : Calls Tryz.prog 48 #[] W (ML W lAsin) := by
  go_enter Tryz.func48, Tryz.ntmps48
  go_wp2_with fail
  go_ret
  exact ⟨_, 2, 2, _, rfl, rfl, isC_made _ _ _ 2 rfl, ⟨tZero_is _, aItself_is _, tBeyond_is _, aOutside_is _, trivial⟩, below_alloc _ _⟩
theorem lAsin_cl : CL 48 lAsin := ⟨Tryz.call48, fun W _ => lAsin_made W⟩

set_option maxRecDepth 100000 in
set_option maxHeartbeats 4000000 in
theorem lAcos_made (W : World) : Calls Tryz.prog 49 #[] W (ML W lAcos) := by
  go_enter Tryz.func49, Tryz.ntmps49
  go_wp2_with fail
  refine Calls.mono (is_made _ _) ?_
  rintro r w0 ⟨G0, q0, rfl, h0, b0⟩
  have bb := b0
  clear b0
  go_wp2_with fail
  refine Calls.mono (told_made _ _ ⟨by decide, by decide⟩) ?_
  rintro r w1 ⟨G1, q1, rfl, h1, b1⟩
  replace h0 := h0.keep b1
  replace bb := below_trans bb b1
  clear b1
  go_wp2_with fail
  go_ret
  exact ⟨_, 2, 2, _, rfl, rfl, isC_made _ _ _ 2 rfl, ⟨h0.keep (below_alloc _ _), h1.keep (below_alloc _ _), tBeyond_is _, aOutside_is _, trivial⟩, below_trans bb (below_alloc _ _)⟩
theorem lAcos_cl : CL 49 lAcos := ⟨Tryz.call49, fun W _ => lAcos_made W⟩

set_option maxRecDepth 100000 in
set_option maxHeartbeats 4000000 in
theorem lAtan_made (W : World) (hM : Meas W) : Calls Tryz.prog 50 #[] W (ML W lAtan) := by
  have m0 := hM.1.2.1
  go_enter Tryz.func50, Tryz.ntmps50
  go_wp2_with fail
  refine Calls.mono (limit_made _ _ ⟨by decide, by decide⟩) ?_
  rintro r w0 ⟨G0, q0, rfl, h0, b0⟩
  replace m0 := pcell b0 m0
  have bb := b0
  clear b0
  go_wp2_with fail
  refine Calls.mono (signed_made _ _ _ _ h0) ?_
  rintro r w1 ⟨G1, q1, rfl, h1, b1⟩
  replace h0 := h0.keep b1
  replace m0 := pcell b1 m0
  replace bb := below_trans bb b1
  clear b1
  go_wp2_with fail
  go_ret
  exact ⟨_, 2, 2, _, rfl, rfl, isC_made _ _ _ 2 rfl, ⟨tZero_is _, aItself_is _, tInf_is _, h1.keep (below_alloc _ _), trivial⟩, below_trans bb (below_alloc _ _)⟩
theorem lAtan_cl : CL 50 lAtan := ⟨Tryz.call50, fun W h => lAtan_made W h⟩

set_option maxRecDepth 100000 in
set_option maxHeartbeats 4000000 in
theorem lAtanpi_made (W : World) (hM : Meas W) : Calls Tryz.prog 51 #[] W (ML W lAtanpi) := by
  have m0 := hM.2.2.1
  go_enter Tryz.func51, Tryz.ntmps51
  go_wp2_with fail
  refine Calls.mono (told_made _ _ ⟨by decide, by decide⟩) ?_
  rintro r w0 ⟨G0, q0, rfl, h0, b0⟩
  replace m0 := pcell b0 m0
  have bb := b0
  clear b0
  go_wp2_with fail
  refine Calls.mono (signed_made _ _ _ _ h0) ?_
  rintro r w1 ⟨G1, q1, rfl, h1, b1⟩
  replace h0 := h0.keep b1
  replace m0 := pcell b1 m0
  replace bb := below_trans bb b1
  clear b1
  go_wp2_with fail
  go_ret
  exact ⟨_, 2, 2, _, rfl, rfl, isC_made _ _ _ 2 rfl, ⟨tZero_is _, aItself_is _, tInf_is _, h1.keep (below_alloc _ _), trivial⟩, below_trans bb (below_alloc _ _)⟩
theorem lAtanpi_cl : CL 51 lAtanpi := ⟨Tryz.call51, fun W h => lAtanpi_made W h⟩

set_option maxRecDepth 100000 in
set_option maxHeartbeats 4000000 in
theorem lThem_made (W : World) : Calls Tryz.prog 52 #[] W (ML W lThem) := by
  go_enter Tryz.func52, Tryz.ntmps52
  go_wp2_with fail
  go_ret
  exact ⟨_, 2, 2, _, rfl, rfl, isC_made _ _ _ 2 rfl, ⟨tZero_is _, aItself_is _, tInf_is _, aItself_is _, trivial⟩, below_alloc _ _⟩
theorem lThem_cl : CL 52 lThem := ⟨Tryz.call52, fun W _ => lThem_made W⟩

set_option maxRecDepth 100000 in
set_option maxHeartbeats 4000000 in
theorem lCosh_made (W : World) : Calls Tryz.prog 53 #[] W (ML W lCosh) := by
  go_enter Tryz.func53, Tryz.ntmps53
  go_wp2_with fail
  refine Calls.mono (told_made _ _ ⟨by decide, by decide⟩) ?_
  rintro r w0 ⟨G0, q0, rfl, h0, b0⟩
  have bb := b0
  clear b0
  go_wp2_with fail
  refine Calls.mono (told_made _ _ ⟨by decide, by decide⟩) ?_
  rintro r w1 ⟨G1, q1, rfl, h1, b1⟩
  replace h0 := h0.keep b1
  replace bb := below_trans bb b1
  clear b1
  go_wp2_with fail
  go_ret
  exact ⟨_, 2, 2, _, rfl, rfl, isC_made _ _ _ 2 rfl, ⟨tZero_is _, h0.keep (below_alloc _ _), tInf_is _, h1.keep (below_alloc _ _), trivial⟩, below_trans bb (below_alloc _ _)⟩
theorem lCosh_cl : CL 53 lCosh := ⟨Tryz.call53, fun W _ => lCosh_made W⟩

set_option maxRecDepth 100000 in
set_option maxHeartbeats 4000000 in
theorem lTanh_made (W : World) : Calls Tryz.prog 54 #[] W (ML W lTanh) := by
  go_enter Tryz.func54, Tryz.ntmps54
  go_wp2_with fail
  refine Calls.mono (told_made _ _ ⟨by decide, by decide⟩) ?_
  rintro r w0 ⟨G0, q0, rfl, h0, b0⟩
  have bb := b0
  clear b0
  go_wp2_with fail
  refine Calls.mono (signed_made _ _ _ _ h0) ?_
  rintro r w1 ⟨G1, q1, rfl, h1, b1⟩
  replace h0 := h0.keep b1
  replace bb := below_trans bb b1
  clear b1
  go_wp2_with fail
  go_ret
  exact ⟨_, 2, 2, _, rfl, rfl, isC_made _ _ _ 2 rfl, ⟨tZero_is _, aItself_is _, tInf_is _, h1.keep (below_alloc _ _), trivial⟩, below_trans bb (below_alloc _ _)⟩
theorem lTanh_cl : CL 54 lTanh := ⟨Tryz.call54, fun W _ => lTanh_made W⟩

set_option maxRecDepth 100000 in
set_option maxHeartbeats 4000000 in
theorem lAcosh_made (W : World) : Calls Tryz.prog 55 #[] W (ML W lAcosh) := by
  go_enter Tryz.func55, Tryz.ntmps55
  go_wp2_with fail
  refine Calls.mono (below_made _ _ ⟨by decide, by decide⟩) ?_
  rintro r w0 ⟨G0, q0, rfl, h0, b0⟩
  have bb := b0
  clear b0
  go_wp2_with fail
  refine Calls.mono (is_made _ _) ?_
  rintro r w1 ⟨G1, q1, rfl, h1, b1⟩
  replace h0 := h0.keep b1
  replace bb := below_trans bb b1
  clear b1
  go_wp2_with fail
  refine Calls.mono (told_made _ _ ⟨by decide, by decide⟩) ?_
  rintro r w2 ⟨G2, q2, rfl, h2, b2⟩
  replace h0 := h0.keep b2
  replace h1 := h1.keep b2
  replace bb := below_trans bb b2
  clear b2
  go_wp2_with fail
  refine Calls.mono (is_made _ _) ?_
  rintro r w3 ⟨G3, q3, rfl, h3, b3⟩
  replace h0 := h0.keep b3
  replace h1 := h1.keep b3
  replace h2 := h2.keep b3
  replace bb := below_trans bb b3
  clear b3
  go_wp2_with fail
  go_ret
  exact ⟨_, 3, 3, _, rfl, rfl, isC_made _ _ _ 3 rfl, ⟨h0.keep (below_alloc _ _), aOutside_is _, h1.keep (below_alloc _ _), h2.keep (below_alloc _ _), h3.keep (below_alloc _ _), aItself_is _, trivial⟩, below_trans bb (below_alloc _ _)⟩
theorem lAcosh_cl : CL 55 lAcosh := ⟨Tryz.call55, fun W _ => lAcosh_made W⟩

set_option maxRecDepth 100000 in
set_option maxHeartbeats 4000000 in
theorem lAtanh_made (W : World) : Calls Tryz.prog 56 #[] W (ML W lAtanh) := by
  go_enter Tryz.func56, Tryz.ntmps56
  go_wp2_with fail
  refine Calls.mono (is_made _ _) ?_
  rintro r w0 ⟨G0, q0, rfl, h0, b0⟩
  have bb := b0
  clear b0
  go_wp2_with fail
  refine Calls.mono (pole_made _ _ ⟨by decide, by decide⟩) ?_
  rintro r w1 ⟨G1, q1, rfl, h1, b1⟩
  replace h0 := h0.keep b1
  replace bb := below_trans bb b1
  clear b1
  go_wp2_with fail
  refine Calls.mono (is_made _ _) ?_
  rintro r w2 ⟨G2, q2, rfl, h2, b2⟩
  replace h0 := h0.keep b2
  replace h1 := h1.keep b2
  replace bb := below_trans bb b2
  clear b2
  go_wp2_with fail
  refine Calls.mono (pole_made _ _ ⟨by decide, by decide⟩) ?_
  rintro r w3 ⟨G3, q3, rfl, h3, b3⟩
  replace h0 := h0.keep b3
  replace h1 := h1.keep b3
  replace h2 := h2.keep b3
  replace bb := below_trans bb b3
  clear b3
  go_wp2_with fail
  go_ret
  exact ⟨_, 4, 4, _, rfl, rfl, isC_made _ _ _ 4 rfl, ⟨tZero_is _, aItself_is _, h0.keep (below_alloc _ _), h1.keep (below_alloc _ _), h2.keep (below_alloc _ _), h3.keep (below_alloc _ _), tBeyond_is _, aOutside_is _, trivial⟩, below_trans bb (below_alloc _ _)⟩
theorem lAtanh_cl : CL 56 lAtanh := ⟨Tryz.call56, fun W _ => lAtanh_made W⟩

set_option maxRecDepth 100000 in
set_option maxHeartbeats 4000000 in
theorem lRsqrt_made (W : World) : Calls Tryz.prog 57 #[] W (ML W lRsqrt) := by
  go_enter Tryz.func57, Tryz.ntmps57
  go_wp2_with fail
  refine Calls.mono (pole_made _ _ ⟨by decide, by decide⟩) ?_
  rintro r w0 ⟨G0, q0, rfl, h0, b0⟩
  have bb := b0
  clear b0
  go_wp2_with fail
  refine Calls.mono (signed_made _ _ _ _ h0) ?_
  rintro r w1 ⟨G1, q1, rfl, h1, b1⟩
  replace h0 := h0.keep b1
  replace bb := below_trans bb b1
  clear b1
  go_wp2_with fail
  refine Calls.mono (below_made _ _ ⟨by decide, by decide⟩) ?_
  rintro r w2 ⟨G2, q2, rfl, h2, b2⟩
  replace h1 := h1.keep b2
  replace bb := below_trans bb b2
  clear b2
  go_wp2_with fail
  refine Calls.mono (is_made _ _) ?_
  rintro r w3 ⟨G3, q3, rfl, h3, b3⟩
  replace h1 := h1.keep b3
  replace h2 := h2.keep b3
  replace bb := below_trans bb b3
  clear b3
  go_wp2_with fail
  refine Calls.mono (told_made _ _ ⟨by decide, by decide⟩) ?_
  rintro r w4 ⟨G4, q4, rfl, h4, b4⟩
  replace h1 := h1.keep b4
  replace h2 := h2.keep b4
  replace h3 := h3.keep b4
  replace bb := below_trans bb b4
  clear b4
  go_wp2_with fail
  go_ret
  exact ⟨_, 3, 3, _, rfl, rfl, isC_made _ _ _ 3 rfl, ⟨tZero_is _, h1.keep (below_alloc _ _), h2.keep (below_alloc _ _), aOutside_is _, h3.keep (below_alloc _ _), h4.keep (below_alloc _ _), trivial⟩, below_trans bb (below_alloc _ _)⟩
theorem lRsqrt_cl : CL 57 lRsqrt := ⟨Tryz.call57, fun W _ => lRsqrt_made W⟩

set_option maxRecDepth 100000 in
set_option maxHeartbeats 4000000 in
theorem lAny_made (W : World) : Calls Tryz.prog 61 #[] W (ML W lAny) := by
  go_enter Tryz.func61, Tryz.ntmps61
  go_wp2_with fail
  refine Calls.mono (is_made _ _) ?_
  rintro r w0 ⟨G0, q0, rfl, h0, b0⟩
  have bb := b0
  clear b0
  go_wp2_with fail
  refine Calls.mono (told_made _ _ ⟨by decide, by decide⟩) ?_
  rintro r w1 ⟨G1, q1, rfl, h1, b1⟩
  replace h0 := h0.keep b1
  replace bb := below_trans bb b1
  clear b1
  go_wp2_with fail
  refine Calls.mono (ofY_made _ _ _ _ (tZero_is _)) ?_
  rintro r w2 ⟨G2, q2, rfl, h2, b2⟩
  replace h0 := h0.keep b2
  replace h1 := h1.keep b2
  replace bb := below_trans bb b2
  clear b2
  go_wp2_with fail
  refine Calls.mono (told_made _ _ ⟨by decide, by decide⟩) ?_
  rintro r w3 ⟨G3, q3, rfl, h3, b3⟩
  replace h0 := h0.keep b3
  replace h1 := h1.keep b3
  replace h2 := h2.keep b3
  replace bb := below_trans bb b3
  clear b3
  go_wp2_with fail
  go_ret
  exact ⟨_, 2, 2, _, rfl, rfl, isC_made _ _ _ 2 rfl, ⟨h0.keep (below_alloc _ _), h1.keep (below_alloc _ _), h2.keep (below_alloc _ _), h3.keep (below_alloc _ _), trivial⟩, below_trans bb (below_alloc _ _)⟩
theorem lAny_cl : CL 61 lAny := ⟨Tryz.call61, fun W _ => lAny_made W⟩

set_option maxRecDepth 100000 in
set_option maxHeartbeats 4000000 in
theorem lFar_made (W : World) : Calls Tryz.prog 63 #[] W (ML W lFar) := by
  go_enter Tryz.func63, Tryz.ntmps63
  go_wp2_with fail
  refine Calls.mono (either_made _ _ _ _ (tInf_is _)) ?_
  rintro r w0 ⟨G0, q0, rfl, h0, b0⟩
  have bb := b0
  clear b0
  go_wp2_with fail
  refine Calls.mono (told_made _ _ ⟨by decide, by decide⟩) ?_
  rintro r w1 ⟨G1, q1, rfl, h1, b1⟩
  replace h0 := h0.keep b1
  replace bb := below_trans bb b1
  clear b1
  go_wp2_with fail
  go_ret
  exact ⟨_, 1, 1, _, rfl, rfl, isC_made _ _ _ 1 rfl, ⟨h0.keep (below_alloc _ _), h1.keep (below_alloc _ _), trivial⟩, below_trans bb (below_alloc _ _)⟩
theorem lFar_cl : CL 63 lFar := ⟨Tryz.call63, fun W _ => lFar_made W⟩

end Go.Proofs.YtkkccnpmcbpdnaaGreatDoor

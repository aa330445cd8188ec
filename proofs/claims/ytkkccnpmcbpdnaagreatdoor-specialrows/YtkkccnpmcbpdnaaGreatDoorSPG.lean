/- Package special: the rows of an angle. -/
import Derived.Test.YtkkccnpmcbpdnaaGreatDoorSPL0
import Derived.Deep.RegionHeld3
namespace Go.Proofs.YtkkccnpmcbpdnaaGreatDoor
open Go.RowKit


set_option maxRecDepth 100000 in
set_option maxHeartbeats 16000000 in
theorem angle_made (q h t p : Int) (F : Nat) (tell : Int → An) (w : World) (uq : U q) (uh : U h) (ut : U t) (up : U p) (hF : Body F) (hT : ∀ b W, U b → Calls Tryz.prog F #[.int .u64 b] W (MA W (tell b))) :
    Calls Tryz.prog 94 #[.agg #[.int .u64 q, .int .u64 h, .int .u64 t, .int .u64 p], .func (.func F) #[] #[]] w (ML w (lAngle q h t p tell)) := by
  have bA := below_alloc w (.cells #[.int .u64 q, .int .u64 h, .int .u64 t, .int .u64 p] 87)
  have HT : Hid _ := hT
  have UQ : Hid _ := uq
  have UH : Hid _ := uh
  have UT : Hid _ := ut
  have UP : Hid _ := up
  have hB : ∀ (xs : Array Value) (w : World), Sem.run Tryz.prog (callFunc F xs) w = .ok (.enter F xs) w := hF
  clear hT uq uh ut up hF
  have k0 : (w.alloc (.cells #[.int .u64 q, .int .u64 h, .int .u64 t, .int .u64 p] 87)).cell? ⟨w.heap.size, 0, none⟩ = some (.int .u64 q) := by go_simp
  have k1 : (w.alloc (.cells #[.int .u64 q, .int .u64 h, .int .u64 t, .int .u64 p] 87)).cell? ⟨w.heap.size, 1, none⟩ = some (.int .u64 h) := by go_simp
  have k2 : (w.alloc (.cells #[.int .u64 q, .int .u64 h, .int .u64 t, .int .u64 p] 87)).cell? ⟨w.heap.size, 2, none⟩ = some (.int .u64 t) := by go_simp
  have k3 : (w.alloc (.cells #[.int .u64 q, .int .u64 h, .int .u64 t, .int .u64 p] 87)).cell? ⟨w.heap.size, 3, none⟩ = some (.int .u64 p) := by go_simp
  go_enter Tryz.func94, Tryz.ntmps94
  go_wp2_with fail
  generalize w.alloc (.cells #[.int .u64 q, .int .u64 h, .int .u64 t, .int .u64 p] 87) = w0 at *
  have bD : Below w0.heap.size w0 w0.drew := (Below.refl _ _).drew
  have bE := below_trans bA bD
  go_region_held3 (fun W => W.cell? ⟨w.heap.size, 0, none⟩ = some (.int .u64 q) ∧ W.cell? ⟨w.heap.size, 1, none⟩ = some (.int .u64 h) ∧ W.cell? ⟨w.heap.size, 2, none⟩ = some (.int .u64 t) ∧ W.cell? ⟨w.heap.size, 3, none⟩ = some (.int .u64 p))
    (first | (go_keep; done) | ((refine ⟨?_, ?_, ?_, ?_⟩ <;> (refine pcell bL ?_; go_keep)); done))
    (first
      | (have _q := h26; go_at_call 88; refine Calls.mono (signed_made _ _ _ _ h26) ?_; rintro r w27 ⟨G27, q27, rfl, h27, bL⟩; replace bb := below_trans bb bL; replace h2 := h2.keep bL; replace h4 := h4.keep bL; replace h5 := h5.keep bL; replace h7 := h7.keep bL; replace h10 := h10.keep bL; replace h12 := h12.keep bL; replace h15 := h15.keep bL; replace h17 := h17.keep bL; replace h19 := h19.keep bL; replace h21 := h21.keep bL; replace h23 := h23.keep bL; replace h25 := h25.keep bL)
      | (have _q := h25; refine Calls.mono (HT.out _ _ UP.out) ?_; rintro r w26 ⟨G26, q26, rfl, h26, bL⟩; replace bb := below_trans bb bL; replace h2 := h2.keep bL; replace h4 := h4.keep bL; replace h5 := h5.keep bL; replace h7 := h7.keep bL; replace h10 := h10.keep bL; replace h12 := h12.keep bL; replace h15 := h15.keep bL; replace h17 := h17.keep bL; replace h19 := h19.keep bL; replace h21 := h21.keep bL; replace h23 := h23.keep bL; replace h25 := h25.keep bL)
      | (have _q := h24; go_at_call 95; refine Calls.mono (ofY_made _ _ _ _ h24) ?_; rintro r w25 ⟨G25, q25, rfl, h25, bL⟩; replace bb := below_trans bb bL; replace h2 := h2.keep bL; replace h4 := h4.keep bL; replace h5 := h5.keep bL; replace h7 := h7.keep bL; replace h10 := h10.keep bL; replace h12 := h12.keep bL; replace h15 := h15.keep bL; replace h17 := h17.keep bL; replace h19 := h19.keep bL; replace h21 := h21.keep bL; replace h23 := h23.keep bL)
      | (have _q := h23; go_at_call 81; refine Calls.mono (is_made _ _) ?_; rintro r w24 ⟨G24, q24, rfl, h24, bL⟩; replace bb := below_trans bb bL; replace h2 := h2.keep bL; replace h4 := h4.keep bL; replace h5 := h5.keep bL; replace h7 := h7.keep bL; replace h10 := h10.keep bL; replace h12 := h12.keep bL; replace h15 := h15.keep bL; replace h17 := h17.keep bL; replace h19 := h19.keep bL; replace h21 := h21.keep bL; replace h23 := h23.keep bL)
      | (have _q := h22; go_at_call 88; refine Calls.mono (signed_made _ _ _ _ h22) ?_; rintro r w23 ⟨G23, q23, rfl, h23, bL⟩; replace bb := below_trans bb bL; replace h2 := h2.keep bL; replace h4 := h4.keep bL; replace h5 := h5.keep bL; replace h7 := h7.keep bL; replace h10 := h10.keep bL; replace h12 := h12.keep bL; replace h15 := h15.keep bL; replace h17 := h17.keep bL; replace h19 := h19.keep bL; replace h21 := h21.keep bL)
      | (have _q := h21; go_at_call 80; refine Calls.mono (told_made _ _ ⟨by decide, by decide⟩) ?_; rintro r w22 ⟨G22, q22, rfl, h22, bL⟩; replace bb := below_trans bb bL; replace h2 := h2.keep bL; replace h4 := h4.keep bL; replace h5 := h5.keep bL; replace h7 := h7.keep bL; replace h10 := h10.keep bL; replace h12 := h12.keep bL; replace h15 := h15.keep bL; replace h17 := h17.keep bL; replace h19 := h19.keep bL; replace h21 := h21.keep bL)
      | (have _q := h20; go_at_call 95; refine Calls.mono (ofY_made _ _ _ _ h20) ?_; rintro r w21 ⟨G21, q21, rfl, h21, bL⟩; replace bb := below_trans bb bL; replace h2 := h2.keep bL; replace h4 := h4.keep bL; replace h5 := h5.keep bL; replace h7 := h7.keep bL; replace h10 := h10.keep bL; replace h12 := h12.keep bL; replace h15 := h15.keep bL; replace h17 := h17.keep bL; replace h19 := h19.keep bL)
      | (have _q := h19; go_at_call 81; refine Calls.mono (is_made _ _) ?_; rintro r w20 ⟨G20, q20, rfl, h20, bL⟩; replace bb := below_trans bb bL; replace h2 := h2.keep bL; replace h4 := h4.keep bL; replace h5 := h5.keep bL; replace h7 := h7.keep bL; replace h10 := h10.keep bL; replace h12 := h12.keep bL; replace h15 := h15.keep bL; replace h17 := h17.keep bL; replace h19 := h19.keep bL)
      | (have _q := h18; go_at_call 88; refine Calls.mono (signed_made _ _ _ _ h18) ?_; rintro r w19 ⟨G19, q19, rfl, h19, bL⟩; replace bb := below_trans bb bL; replace h2 := h2.keep bL; replace h4 := h4.keep bL; replace h5 := h5.keep bL; replace h7 := h7.keep bL; replace h10 := h10.keep bL; replace h12 := h12.keep bL; replace h15 := h15.keep bL; replace h17 := h17.keep bL)
      | (have _q := h17; refine Calls.mono (HT.out _ _ UH.out) ?_; rintro r w18 ⟨G18, q18, rfl, h18, bL⟩; replace bb := below_trans bb bL; replace h2 := h2.keep bL; replace h4 := h4.keep bL; replace h5 := h5.keep bL; replace h7 := h7.keep bL; replace h10 := h10.keep bL; replace h12 := h12.keep bL; replace h15 := h15.keep bL; replace h17 := h17.keep bL)
      | (have _q := h16; go_at_call 88; refine Calls.mono (signed_made _ _ _ _ h16) ?_; rintro r w17 ⟨G17, q17, rfl, h17, bL⟩; replace bb := below_trans bb bL; replace h2 := h2.keep bL; replace h4 := h4.keep bL; replace h5 := h5.keep bL; replace h7 := h7.keep bL; replace h10 := h10.keep bL; replace h12 := h12.keep bL; replace h15 := h15.keep bL)
      | (have _q := h15; refine Calls.mono (HT.out _ _ UT.out) ?_; rintro r w16 ⟨G16, q16, rfl, h16, bL⟩; replace bb := below_trans bb bL; replace h2 := h2.keep bL; replace h4 := h4.keep bL; replace h5 := h5.keep bL; replace h7 := h7.keep bL; replace h10 := h10.keep bL; replace h12 := h12.keep bL; replace h15 := h15.keep bL)
      | (have _q := h14; go_at_call 96; refine Calls.mono (both_made _ _ _ _ tInf _ _ (tInf_is _) h14) ?_; rintro r w15 ⟨G15, q15, rfl, h15, bL⟩; replace bb := below_trans bb bL; replace h2 := h2.keep bL; replace h4 := h4.keep bL; replace h5 := h5.keep bL; replace h7 := h7.keep bL; replace h10 := h10.keep bL; replace h12 := h12.keep bL)
      | (have _q := h13; go_at_call 95; refine Calls.mono (ofY_made _ _ _ _ h13) ?_; rintro r w14 ⟨G14, q14, rfl, h14, bL⟩; replace bb := below_trans bb bL; replace h2 := h2.keep bL; replace h4 := h4.keep bL; replace h5 := h5.keep bL; replace h7 := h7.keep bL; replace h10 := h10.keep bL; replace h12 := h12.keep bL)
      | (have _q := h12; go_at_call 81; refine Calls.mono (is_made _ _) ?_; rintro r w13 ⟨G13, q13, rfl, h13, bL⟩; replace bb := below_trans bb bL; replace h2 := h2.keep bL; replace h4 := h4.keep bL; replace h5 := h5.keep bL; replace h7 := h7.keep bL; replace h10 := h10.keep bL; replace h12 := h12.keep bL)
      | (have _q := h11; go_at_call 88; refine Calls.mono (signed_made _ _ _ _ h11) ?_; rintro r w12 ⟨G12, q12, rfl, h12, bL⟩; replace bb := below_trans bb bL; replace h2 := h2.keep bL; replace h4 := h4.keep bL; replace h5 := h5.keep bL; replace h7 := h7.keep bL; replace h10 := h10.keep bL)
      | (have _q := h10; refine Calls.mono (HT.out _ _ UQ.out) ?_; rintro r w11 ⟨G11, q11, rfl, h11, bL⟩; replace bb := below_trans bb bL; replace h2 := h2.keep bL; replace h4 := h4.keep bL; replace h5 := h5.keep bL; replace h7 := h7.keep bL; replace h10 := h10.keep bL)
      | (have _q := h9; go_at_call 96; refine Calls.mono (both_made _ _ _ _ tInf _ _ (tInf_is _) h9) ?_; rintro r w10 ⟨G10, q10, rfl, h10, bL⟩; replace bb := below_trans bb bL; replace h2 := h2.keep bL; replace h4 := h4.keep bL; replace h5 := h5.keep bL; replace h7 := h7.keep bL)
      | (have _q := h8; go_at_call 95; refine Calls.mono (ofY_made _ _ _ _ h8) ?_; rintro r w9 ⟨G9, q9, rfl, h9, bL⟩; replace bb := below_trans bb bL; replace h2 := h2.keep bL; replace h4 := h4.keep bL; replace h5 := h5.keep bL; replace h7 := h7.keep bL)
      | (have _q := h7; go_at_call 81; refine Calls.mono (is_made _ _) ?_; rintro r w8 ⟨G8, q8, rfl, h8, bL⟩; replace bb := below_trans bb bL; replace h2 := h2.keep bL; replace h4 := h4.keep bL; replace h5 := h5.keep bL; replace h7 := h7.keep bL)
      | (have _q := h6; go_at_call 88; refine Calls.mono (signed_made _ _ _ _ h6) ?_; rintro r w7 ⟨G7, q7, rfl, h7, bL⟩; replace bb := below_trans bb bL; replace h2 := h2.keep bL; replace h4 := h4.keep bL; replace h5 := h5.keep bL)
      | (have _q := h5; refine Calls.mono (HT.out _ _ UH.out) ?_; rintro r w6 ⟨G6, q6, rfl, h6, bL⟩; replace bb := below_trans bb bL; replace h2 := h2.keep bL; replace h4 := h4.keep bL; replace h5 := h5.keep bL)
      | (have _q := h4; go_at_call 95; refine Calls.mono (ofY_made _ _ tZero _ (tZero_is _)) ?_; rintro r w5 ⟨G5, q5, rfl, h5, bL⟩; replace bb := below_trans bb bL; replace h2 := h2.keep bL; replace h4 := h4.keep bL)
      | (have _q := h3; go_at_call 88; refine Calls.mono (signed_made _ _ _ _ h3) ?_; rintro r w4 ⟨G4, q4, rfl, h4, bL⟩; replace bb := below_trans bb bL; replace h2 := h2.keep bL)
      | (have _q := h2; refine Calls.mono (HT.out _ _ UP.out) ?_; rintro r w3 ⟨G3, q3, rfl, h3, bL⟩; replace bb := below_trans bb bL; replace h2 := h2.keep bL)
      | (have _q := h1; go_at_call 96; refine Calls.mono (both_made _ _ _ _ tZero _ _ (tZero_is _) h1) ?_; rintro r w2 ⟨G2, q2, rfl, h2, bL⟩; replace bb := below_trans bb bL)
      | (go_at_call 95; refine Calls.mono (ofY_made _ _ tPlus _ (tPlus_is _)) ?_; rintro r w1 ⟨G1, q1, rfl, h1, bL⟩; have bb := below_trans bE bL))
  all_goals
    go_wp2_with fail
    go_ret
    exact ⟨_, 8, 8, _, rfl, rfl, isC_made _ _ _ 8 rfl, ⟨h2.keep (below_alloc _ _), aItself_is _, tZero_is _, h4.keep (below_alloc _ _), h5.keep (below_alloc _ _), h7.keep (below_alloc _ _), h10.keep (below_alloc _ _), h12.keep (below_alloc _ _), h15.keep (below_alloc _ _), h17.keep (below_alloc _ _), tInf_is _, h19.keep (below_alloc _ _), h21.keep (below_alloc _ _), h23.keep (below_alloc _ _), h25.keep (below_alloc _ _), h27.keep (below_alloc _ _), trivial⟩, below_trans bb (below_alloc _ _)⟩
end Go.Proofs.YtkkccnpmcbpdnaaGreatDoor

/- The document's Cbrt, Sqrt, Rsqrt: they answer as the program does. The document's Sqrt, Rsqrt: they answer as the program does. -/
import Derived.Test.YtfgemlgmhlidmaaGreatDoorADX
import Derived.Test.YtfgemlgmhlidmaaGreatDoorALX
import Derived.Test.YtfgemlgmhlidmaaGreatDoorTMS
import Derived.Test.YtfgemlgmhlidmaaGreatDoorTMQ

namespace Go.Proofs.YtfgemlgmhlidmaaGreatDoor
open Go.RowKit

theorem cls_cases (x : Int) (_ux : U x) : (finB x = false ∧ (classV x = 4 ∨ classV x = 5 ∨ classV x = 6)) ∨ (finB x = true ∧ (fromP x).2.1 = 0 ∧ classV x = 1) ∨ (finB x = true ∧ (fromP x).2.1 ≠ 0 ∧ (classV x = 2 ∨ classV x = 3)) := by
  have he := exp_bd x
  have hf := frac_bd x
  by_cases h : expV x = 2047
  · left
    refine ⟨by unfold finB; unfold expV at h; exact decide_eq_false (by omega), ?_⟩
    unfold classV
    rw [if_neg (by omega), if_neg (by omega)]
    by_cases c : fracV x = 0
    · rw [if_pos c]; omega
    · rw [if_neg c]
      by_cases d : 2251799813685248 ≤ fracV x
      · rw [if_pos d]; omega
      · rw [if_neg d]; omega
  · right
    have hfin : finB x = true := by unfold finB; unfold expV at h he; exact decide_eq_true (by omega)
    have hp : fromP x = formD (sgnB x) (countV x).toNat (unitV x) := by unfold fromP fromD; rw [if_pos hfin]
    by_cases c : countV x = 0
    · left
      refine ⟨hfin, by rw [hp, c]; rfl, ?_⟩
      unfold countV at c
      unfold classV
      by_cases d : expV x = 0
      · rw [if_pos d] at c ⊢; rw [if_pos c]
      · rw [if_neg d] at c; omega
    · right
      have hc0 : (countV x).toNat ≠ 0 := by
        have : 0 ≤ countV x := by unfold countV; split <;> omega
        omega
      refine ⟨hfin, by rw [hp]; exact form_nz _ _ hc0, ?_⟩
      unfold countV at c
      unfold classV
      by_cases d : expV x = 0
      · rw [if_pos d] at c ⊢; rw [if_neg c]; omega
      · rw [if_neg d, if_pos (by omega)]; omega

set_option maxRecDepth 100000 in
set_option maxHeartbeats 2000000 in
theorem dCbrt_calls (x : Int) (w : World) (hU : U x) :
    Calls Tryz.prog 11 #[.int .u64 x] w fun q w' => q = .returned (.tuple #[.agg #[.int .u64 (cbB x), .int .u8 (cbF x)], .int .i64 (lastE x)]) ∧ Below w.heap.size w w' := by
  have bA : Below w.heap.size w (w.alloc (.cells #[.int .u64 0, .int .u8 0] 25)) := below_one _ _
  have FX : Hid _ := fun W => qfrom_calls x W hU
  have CX : Hid _ := fun W => rClass_calls x W hU
  have z0 : (w.alloc (.cells #[.int .u64 0, .int .u8 0] 25)).cell? ⟨w.heap.size, 0, none⟩ = some (.int .u64 0) := by go_simp
  have z1 : (w.alloc (.cells #[.int .u64 0, .int .u8 0] 25)).cell? ⟨w.heap.size, 1, none⟩ = some (.int .u8 0) := by go_simp
  have f0 : (w.alloc (.cells #[.int .u64 0, .int .u8 0] 25)).frozen? ⟨w.heap.size, 0, none⟩ = false := by go_simp
  have f1 : (w.alloc (.cells #[.int .u64 0, .int .u8 0] 25)).frozen? ⟨w.heap.size, 1, none⟩ = false := by go_simp
  rcases cls_cases x hU with ⟨hf, hc⟩ | ⟨hf, h0, hc⟩ | ⟨hf, h0, hc⟩
  · have HE : Hid (cbB x = 0 ∧ cbF x = 0 ∧ lastE x = 5) := by
      obtain ⟨e1, e2⟩ := last_no hf
      refine ⟨?_, ?_, e1⟩
      · unfold cbB; rw [hf]; rfl
      · unfold cbF; rw [e2]; rfl
    rw [HE.out.1, HE.out.2.1, HE.out.2.2]
    clear FX hf HE
    generalize classV x = C at *
    rcases hc with rfl | rfl | rfl
    · skip
      go_enter Tryz.func11, Tryz.ntmps11
      go_wp2_with fail
      generalize w.alloc (.cells #[.int .u64 0, .int .u8 0] 25) = w0 at *
      refine Calls.mono (CX.out _) ?_
      rintro q w0 ⟨rfl, rfl⟩
      go_wp2_with fail
      exact bodyPost_ret (v := .tuple #[.agg #[.int .u64 (0), .int .u8 (0)], .int .i64 (5)]) (by simp [results, Tryz.results11, go_sem, z0, z1]) rfl ⟨rfl, by repeat (first | (with_reducible exact bA) | (with_reducible refine Below.setCell ?_ (by simp) _))⟩
    · skip
      go_enter Tryz.func11, Tryz.ntmps11
      go_wp2_with fail
      generalize w.alloc (.cells #[.int .u64 0, .int .u8 0] 25) = w0 at *
      refine Calls.mono (CX.out _) ?_
      rintro q w0 ⟨rfl, rfl⟩
      go_wp2_with fail
      exact bodyPost_ret (v := .tuple #[.agg #[.int .u64 (0), .int .u8 (0)], .int .i64 (5)]) (by simp [results, Tryz.results11, go_sem, z0, z1]) rfl ⟨rfl, by repeat (first | (with_reducible exact bA) | (with_reducible refine Below.setCell ?_ (by simp) _))⟩
    · skip
      go_enter Tryz.func11, Tryz.ntmps11
      go_wp2_with fail
      generalize w.alloc (.cells #[.int .u64 0, .int .u8 0] 25) = w0 at *
      refine Calls.mono (CX.out _) ?_
      rintro q w0 ⟨rfl, rfl⟩
      go_wp2_with fail
      exact bodyPost_ret (v := .tuple #[.agg #[.int .u64 (0), .int .u8 (0)], .int .i64 (5)]) (by simp [results, Tryz.results11, go_sem, z0, z1]) rfl ⟨rfl, by repeat (first | (with_reducible exact bA) | (with_reducible refine Below.setCell ?_ (by simp) _))⟩
  · have HE : Hid (cbB x = x ∧ cbF x = 0 ∧ lastE x = 0) := by
      refine ⟨?_, ?_, last_yes hf⟩
      · unfold cbB; rw [if_pos hf, if_pos h0]
      · unfold cbF; rw [if_pos h0]
    rw [HE.out.1, HE.out.2.1, HE.out.2.2]
    clear FX hf HE h0
    generalize classV x = C at *
    subst hc
    go_enter Tryz.func11, Tryz.ntmps11
    go_wp2_with fail
    generalize w.alloc (.cells #[.int .u64 0, .int .u8 0] 25) = w0 at *
    refine Calls.mono (CX.out _) ?_
    rintro q w0 ⟨rfl, rfl⟩
    go_wp2_with fail
    exact bodyPost_ret (v := .tuple #[.agg #[.int .u64 (x), .int .u8 (0)], .int .i64 (0)]) (by simp [results, Tryz.results11, go_sem, z0, z1]) rfl ⟨rfl, by repeat (first | (with_reducible exact bA) | (with_reducible refine Below.setCell ?_ (by simp) _))⟩
  · have HE : Hid (cbB x = nbR (fromP x).1 (ansM 3 (fromP x).2.1 (fromP x).2.2) (ansE 3 (fromP x).2.1 (fromP x).2.2) ∧ cbF x = flR (fromP x).1 (ansM 3 (fromP x).2.1 (fromP x).2.2) (ansE 3 (fromP x).2.1 (fromP x).2.2) ∧ lastE x = 0) := by
      refine ⟨?_, ?_, last_yes hf⟩
      · unfold cbB; rw [if_pos hf, if_neg h0]
      · unfold cbF; rw [if_neg h0]
    have RT : Hid _ := fun a n c W h hn => root3D_calls (fromP x).1 a n c (fromP x).2.1 (fromP x).2.2 W h hn h0 (by have := fa_bd x; omega) (by have := fa_bd x; omega) (fa_tp x)
    have HLn : Hid ((wordsOf (fromP x).2.1).length ≤ 1024) := (great_len _).1 (rightB_yes (fa_right x)).1
    rw [HE.out.1, HE.out.2.1, HE.out.2.2]
    rw [HE.out.2.2] at FX
    clear HE hf h0
    generalize nbR (fromP x).1 (ansM 3 (fromP x).2.1 (fromP x).2.2) (ansE 3 (fromP x).2.1 (fromP x).2.2) = BB at *
    generalize flR (fromP x).1 (ansM 3 (fromP x).2.1 (fromP x).2.2) (ansE 3 (fromP x).2.1 (fromP x).2.2) = FF at *
    generalize fromP x = p at *
    generalize classV x = C at *
    rcases hc with rfl | rfl
    · skip
      go_enter Tryz.func11, Tryz.ntmps11
      go_wp2_with fail
      generalize w.alloc (.cells #[.int .u64 0, .int .u8 0] 25) = w0 at *
      refine Calls.mono (CX.out _) ?_
      rintro q w0 ⟨rfl, rfl⟩
      go_wp2_with fail
      refine Calls.mono (FX.out _) ?_
      rintro q w1 ⟨_, rfl, ⟨a, n, c, rfl, HN, hO⟩, b1⟩
      have hn : n ≤ 1024 := by rw [HN.out]; exact HLn.out
      have b2 := nT b1 (below_one w1 (.cells #[.bool p.1, .slice a n c, .int .i64 p.2.2] 38))
      replace hO := hO.keep (below_one w1 (.cells #[.bool p.1, .slice a n c, .int .i64 p.2.2] 38))
      replace f0 := kF b2 z0 f0
      replace f1 := kF b2 z1 f1
      replace z0 := kC b2 z0
      replace z1 := kC b2 z1
      replace bA := nT bA b2
      have k0 : (w1.alloc (.cells #[.bool p.1, .slice a n c, .int .i64 p.2.2] 38)).cell? ⟨w1.heap.size, 0, none⟩ = some (.bool p.1) := by go_simp
      have k1 : (w1.alloc (.cells #[.bool p.1, .slice a n c, .int .i64 p.2.2] 38)).cell? ⟨w1.heap.size, 1, none⟩ = some (.slice a n c) := by go_simp
      have k2 : (w1.alloc (.cells #[.bool p.1, .slice a n c, .int .i64 p.2.2] 38)).cell? ⟨w1.heap.size, 2, none⟩ = some (.int .i64 p.2.2) := by go_simp
      clear b1 b2 FX HN
      go_wp2_with fail
      generalize w1.alloc (.cells #[.bool p.1, .slice a n c, .int .i64 p.2.2] 38) = w2 at *
      generalize w1.heap.size = D at *
      refine Calls.mono (RT.out a n c _ hO.1 hn) ?_
      rintro q w3 ⟨rfl, b1⟩
      replace f0 := kF b1 z0 f0
      replace f1 := kF b1 z1 f1
      replace z0 := kC b1 z0
      replace z1 := kC b1 z1
      replace bA := nT bA b1
      go_wp2_with fail
      exact bodyPost_ret (v := .tuple #[.agg #[.int .u64 (BB), .int .u8 (FF)], .int .i64 (0)]) (by simp [results, Tryz.results11, go_sem, z0, z1]) rfl ⟨rfl, by repeat (first | (with_reducible exact bA) | (with_reducible refine Below.setCell ?_ (by simp) _))⟩
    · skip
      go_enter Tryz.func11, Tryz.ntmps11
      go_wp2_with fail
      generalize w.alloc (.cells #[.int .u64 0, .int .u8 0] 25) = w0 at *
      refine Calls.mono (CX.out _) ?_
      rintro q w0 ⟨rfl, rfl⟩
      go_wp2_with fail
      refine Calls.mono (FX.out _) ?_
      rintro q w1 ⟨_, rfl, ⟨a, n, c, rfl, HN, hO⟩, b1⟩
      have hn : n ≤ 1024 := by rw [HN.out]; exact HLn.out
      have b2 := nT b1 (below_one w1 (.cells #[.bool p.1, .slice a n c, .int .i64 p.2.2] 38))
      replace hO := hO.keep (below_one w1 (.cells #[.bool p.1, .slice a n c, .int .i64 p.2.2] 38))
      replace f0 := kF b2 z0 f0
      replace f1 := kF b2 z1 f1
      replace z0 := kC b2 z0
      replace z1 := kC b2 z1
      replace bA := nT bA b2
      have k0 : (w1.alloc (.cells #[.bool p.1, .slice a n c, .int .i64 p.2.2] 38)).cell? ⟨w1.heap.size, 0, none⟩ = some (.bool p.1) := by go_simp
      have k1 : (w1.alloc (.cells #[.bool p.1, .slice a n c, .int .i64 p.2.2] 38)).cell? ⟨w1.heap.size, 1, none⟩ = some (.slice a n c) := by go_simp
      have k2 : (w1.alloc (.cells #[.bool p.1, .slice a n c, .int .i64 p.2.2] 38)).cell? ⟨w1.heap.size, 2, none⟩ = some (.int .i64 p.2.2) := by go_simp
      clear b1 b2 FX HN
      go_wp2_with fail
      generalize w1.alloc (.cells #[.bool p.1, .slice a n c, .int .i64 p.2.2] 38) = w2 at *
      generalize w1.heap.size = D at *
      refine Calls.mono (RT.out a n c _ hO.1 hn) ?_
      rintro q w3 ⟨rfl, b1⟩
      replace f0 := kF b1 z0 f0
      replace f1 := kF b1 z1 f1
      replace z0 := kC b1 z0
      replace z1 := kC b1 z1
      replace bA := nT bA b1
      go_wp2_with fail
      exact bodyPost_ret (v := .tuple #[.agg #[.int .u64 (BB), .int .u8 (FF)], .int .i64 (0)]) (by simp [results, Tryz.results11, go_sem, z0, z1]) rfl ⟨rfl, by repeat (first | (with_reducible exact bA) | (with_reducible refine Below.setCell ?_ (by simp) _))⟩

set_option maxRecDepth 100000 in
set_option maxHeartbeats 2000000 in
theorem dSqrt_calls (x : Int) (w : World) (hU : U x) :
    Calls Tryz.prog 13 #[.int .u64 x] w fun q w' => q = .returned (.tuple #[.agg #[.int .u64 (sqB x), .int .u8 (sqF x)], .int .i64 (sqE x)]) ∧ Below w.heap.size w w' := by
  have bA : Below w.heap.size w (w.alloc (.cells #[.int .u64 0, .int .u8 0] 25)) := below_one _ _
  have FX : Hid _ := fun W => qfrom_calls x W hU
  have CX : Hid _ := fun W => rClass_calls x W hU
  have z0 : (w.alloc (.cells #[.int .u64 0, .int .u8 0] 25)).cell? ⟨w.heap.size, 0, none⟩ = some (.int .u64 0) := by go_simp
  have z1 : (w.alloc (.cells #[.int .u64 0, .int .u8 0] 25)).cell? ⟨w.heap.size, 1, none⟩ = some (.int .u8 0) := by go_simp
  have f0 : (w.alloc (.cells #[.int .u64 0, .int .u8 0] 25)).frozen? ⟨w.heap.size, 0, none⟩ = false := by go_simp
  have f1 : (w.alloc (.cells #[.int .u64 0, .int .u8 0] 25)).frozen? ⟨w.heap.size, 1, none⟩ = false := by go_simp
  clear CX
  cases hf : finB x with
  | false =>
    have HE : Hid (sqB x = 0 ∧ sqF x = 0 ∧ sqE x = 5) := by
      have e : sqE x = 5 := by unfold sqE; rw [hf]; rfl
      refine ⟨?_, ?_, e⟩
      · unfold sqB; rw [e]; rfl
      · unfold sqF; rw [e]; rfl
    rw [HE.out.1, HE.out.2.1, HE.out.2.2]
    rw [(last_no hf).1] at FX
    clear hf HE
    generalize fromP x = p at *
    go_enter Tryz.func13, Tryz.ntmps13
    go_wp2_with fail
    generalize w.alloc (.cells #[.int .u64 0, .int .u8 0] 25) = w0 at *
    refine Calls.mono (FX.out _) ?_
    rintro q w1 ⟨_, rfl, ⟨a, n, c, rfl, HN, hO⟩, b1⟩
    have b2 := nT b1 (below_one w1 (.cells #[.bool p.1, .slice a n c, .int .i64 p.2.2] 38))
    replace f0 := kF b2 z0 f0
    replace f1 := kF b2 z1 f1
    replace z0 := kC b2 z0
    replace z1 := kC b2 z1
    replace bA := nT bA b2
    clear b1 b2 FX HN hO
    go_wp2_with fail
    exact bodyPost_ret (v := .tuple #[.agg #[.int .u64 (0), .int .u8 (0)], .int .i64 (5)]) (by simp [results, Tryz.results13, go_sem, z0, z1]) rfl ⟨rfl, by repeat (first | (with_reducible exact bA) | (with_reducible refine Below.setCell ?_ (by simp) _))⟩
  | true =>
    rw [last_yes hf] at FX
    have HLn : Hid ((wordsOf (fromP x).2.1).length ≤ 1024) := (great_len _).1 (rightB_yes (fa_right x)).1
    by_cases h0 : (fromP x).2.1 = 0
    · have hp : (fromP x).1 = false := by
        rcases fa_can x with q | q
        · rw [q]
        · rw [h0] at q; exact absurd q (by decide)
      have e0 : sqE x = 0 := by unfold sqE; rw [if_pos hf, hp]; rfl
      have HE : Hid (sqB x = x ∧ sqF x = 0) := by
        refine ⟨?_, ?_⟩
        · unfold sqB; rw [if_pos e0, if_pos h0]
        · unfold sqF; rw [if_pos e0, if_pos h0]
      rw [HE.out.1, HE.out.2, e0]
      have HS : Hid (sgnQ (fromP x).1 (fromP x).2.1 = 0 ∧ (fromP x).2.1 = 0) := ⟨by unfold sgnQ; rw [if_pos h0], h0⟩
      clear hf HE h0 hp e0
      generalize fromP x = p at *
      go_enter Tryz.func13, Tryz.ntmps13
      go_wp2_with fail
      generalize w.alloc (.cells #[.int .u64 0, .int .u8 0] 25) = w0 at *
      refine Calls.mono (FX.out _) ?_
      rintro q w1 ⟨_, rfl, ⟨a, n, c, rfl, HN, hO⟩, b1⟩
      have hn : n ≤ 1024 := by rw [HN.out]; exact HLn.out
      have b2 := nT b1 (below_one w1 (.cells #[.bool p.1, .slice a n c, .int .i64 p.2.2] 38))
      replace hO := hO.keep (below_one w1 (.cells #[.bool p.1, .slice a n c, .int .i64 p.2.2] 38))
      replace f0 := kF b2 z0 f0
      replace f1 := kF b2 z1 f1
      replace z0 := kC b2 z0
      replace z1 := kC b2 z1
      replace bA := nT bA b2
      have k0 : (w1.alloc (.cells #[.bool p.1, .slice a n c, .int .i64 p.2.2] 38)).cell? ⟨w1.heap.size, 0, none⟩ = some (.bool p.1) := by go_simp
      have k1 : (w1.alloc (.cells #[.bool p.1, .slice a n c, .int .i64 p.2.2] 38)).cell? ⟨w1.heap.size, 1, none⟩ = some (.slice a n c) := by go_simp
      have k2 : (w1.alloc (.cells #[.bool p.1, .slice a n c, .int .i64 p.2.2] 38)).cell? ⟨w1.heap.size, 2, none⟩ = some (.int .i64 p.2.2) := by go_simp
      clear b1 b2 FX HN
      have SG : Hid _ := qSign_calls p.1 a n c (wordsOf p.2.1) p.2.2 _ hO.1 (by omega)
      rw [val_words, HS.out.1] at SG
      go_wp2_with fail
      generalize w1.alloc (.cells #[.bool p.1, .slice a n c, .int .i64 p.2.2] 38) = w2 at *
      generalize w1.heap.size = D at *
      refine Calls.mono SG.out ?_
      rintro q w3 ⟨rfl, b1⟩
      clear SG
      replace f0 := kF b1 z0 f0
      replace f1 := kF b1 z1 f1
      replace z0 := kC b1 z0
      replace z1 := kC b1 z1
      replace k0 := kC b1 k0
      replace k1 := kC b1 k1
      replace k2 := kC b1 k2
      replace hO := hO.keep b1
      replace bA := nT bA b1
      clear b1
      have ZC : Hid _ := qZero_calls p.1 a n c (wordsOf p.2.1) p.2.2 _ hO.1 (by omega)
      rw [val_words, decide_eq_true HS.out.2] at ZC
      go_wp2_with fail
      refine Calls.mono ZC.out ?_
      rintro q w4 ⟨rfl, b1⟩
      replace f0 := kF b1 z0 f0
      replace f1 := kF b1 z1 f1
      replace z0 := kC b1 z0
      replace z1 := kC b1 z1
      replace bA := nT bA b1
      go_wp2_with fail
      exact bodyPost_ret (v := .tuple #[.agg #[.int .u64 (x), .int .u8 (0)], .int .i64 (0)]) (by simp [results, Tryz.results13, go_sem, z0, z1]) rfl ⟨rfl, by repeat (first | (with_reducible exact bA) | (with_reducible refine Below.setCell ?_ (by simp) _))⟩
    · rcases Bool.eq_false_or_eq_true (fromP x).1 with hs | hs
      · have e5 : sqE x = 5 := by unfold sqE; rw [if_pos hf, hs]; rfl
        have HE : Hid (sqB x = 0 ∧ sqF x = 0) := by
          refine ⟨?_, ?_⟩
          · unfold sqB; rw [e5]; rfl
          · unfold sqF; rw [e5]; rfl
        rw [HE.out.1, HE.out.2, e5]
        have HS : Hid (sgnQ (fromP x).1 (fromP x).2.1 = -1) := by rw [Hid]; unfold sgnQ; rw [if_neg h0, hs]; rfl
        clear hf HE h0 hs e5
        generalize fromP x = p at *
        go_enter Tryz.func13, Tryz.ntmps13
        go_wp2_with fail
        generalize w.alloc (.cells #[.int .u64 0, .int .u8 0] 25) = w0 at *
        refine Calls.mono (FX.out _) ?_
        rintro q w1 ⟨_, rfl, ⟨a, n, c, rfl, HN, hO⟩, b1⟩
        have hn : n ≤ 1024 := by rw [HN.out]; exact HLn.out
        have b2 := nT b1 (below_one w1 (.cells #[.bool p.1, .slice a n c, .int .i64 p.2.2] 38))
        replace hO := hO.keep (below_one w1 (.cells #[.bool p.1, .slice a n c, .int .i64 p.2.2] 38))
        replace f0 := kF b2 z0 f0
        replace f1 := kF b2 z1 f1
        replace z0 := kC b2 z0
        replace z1 := kC b2 z1
        replace bA := nT bA b2
        have k0 : (w1.alloc (.cells #[.bool p.1, .slice a n c, .int .i64 p.2.2] 38)).cell? ⟨w1.heap.size, 0, none⟩ = some (.bool p.1) := by go_simp
        have k1 : (w1.alloc (.cells #[.bool p.1, .slice a n c, .int .i64 p.2.2] 38)).cell? ⟨w1.heap.size, 1, none⟩ = some (.slice a n c) := by go_simp
        have k2 : (w1.alloc (.cells #[.bool p.1, .slice a n c, .int .i64 p.2.2] 38)).cell? ⟨w1.heap.size, 2, none⟩ = some (.int .i64 p.2.2) := by go_simp
        clear b1 b2 FX HN
        have SG : Hid _ := qSign_calls p.1 a n c (wordsOf p.2.1) p.2.2 _ hO.1 (by omega)
        rw [val_words, HS.out] at SG
        go_wp2_with fail
        generalize w1.alloc (.cells #[.bool p.1, .slice a n c, .int .i64 p.2.2] 38) = w2 at *
        generalize w1.heap.size = D at *
        refine Calls.mono SG.out ?_
        rintro q w3 ⟨rfl, b1⟩
        clear SG
        replace f0 := kF b1 z0 f0
        replace f1 := kF b1 z1 f1
        replace z0 := kC b1 z0
        replace z1 := kC b1 z1
        replace k0 := kC b1 k0
        replace k1 := kC b1 k1
        replace k2 := kC b1 k2
        replace hO := hO.keep b1
        replace bA := nT bA b1
        clear b1
        go_wp2_with fail
        exact bodyPost_ret (v := .tuple #[.agg #[.int .u64 (0), .int .u8 (0)], .int .i64 (5)]) (by simp [results, Tryz.results13, go_sem, z0, z1]) rfl ⟨rfl, by repeat (first | (with_reducible exact bA) | (with_reducible refine Below.setCell ?_ (by simp) _))⟩
      · have e0 : sqE x = 0 := by unfold sqE; rw [if_pos hf, hs]; rfl
        have HE : Hid (sqB x = nbR false (ansM 2 (fromP x).2.1 (fromP x).2.2) (ansE 2 (fromP x).2.1 (fromP x).2.2) ∧ sqF x = flR false (ansM 2 (fromP x).2.1 (fromP x).2.2) (ansE 2 (fromP x).2.1 (fromP x).2.2)) := by
          refine ⟨?_, ?_⟩
          · unfold sqB; rw [if_pos e0, if_neg h0]
          · unfold sqF; rw [if_pos e0, if_neg h0]
        have RT : Hid _ := fun a n c W h hn => root2D_calls (fromP x).1 a n c (fromP x).2.1 (fromP x).2.2 W h hn h0 (by have := fa_bd x; omega) (by have := fa_bd x; omega) (fa_tp x)
        have HS : Hid (sgnQ (fromP x).1 (fromP x).2.1 = 1 ∧ (fromP x).2.1 ≠ 0) := ⟨by unfold sgnQ; rw [if_neg h0, hs]; rfl, h0⟩
        have HP1 : Hid ((fromP x).1 = false) := hs
        rw [HE.out.1, HE.out.2, e0]
        simp only [hs] at RT
        clear HE hf h0 hs e0
        generalize nbR false (ansM 2 (fromP x).2.1 (fromP x).2.2) (ansE 2 (fromP x).2.1 (fromP x).2.2) = BB at *
        generalize flR false (ansM 2 (fromP x).2.1 (fromP x).2.2) (ansE 2 (fromP x).2.1 (fromP x).2.2) = FF at *
        generalize fromP x = p at *
        go_enter Tryz.func13, Tryz.ntmps13
        go_wp2_with fail
        generalize w.alloc (.cells #[.int .u64 0, .int .u8 0] 25) = w0 at *
        refine Calls.mono (FX.out _) ?_
        rintro q w1 ⟨_, rfl, ⟨a, n, c, rfl, HN, hO⟩, b1⟩
        have hn : n ≤ 1024 := by rw [HN.out]; exact HLn.out
        have b2 := nT b1 (below_one w1 (.cells #[.bool p.1, .slice a n c, .int .i64 p.2.2] 38))
        replace hO := hO.keep (below_one w1 (.cells #[.bool p.1, .slice a n c, .int .i64 p.2.2] 38))
        replace f0 := kF b2 z0 f0
        replace f1 := kF b2 z1 f1
        replace z0 := kC b2 z0
        replace z1 := kC b2 z1
        replace bA := nT bA b2
        have k0 : (w1.alloc (.cells #[.bool p.1, .slice a n c, .int .i64 p.2.2] 38)).cell? ⟨w1.heap.size, 0, none⟩ = some (.bool p.1) := by go_simp
        have k1 : (w1.alloc (.cells #[.bool p.1, .slice a n c, .int .i64 p.2.2] 38)).cell? ⟨w1.heap.size, 1, none⟩ = some (.slice a n c) := by go_simp
        have k2 : (w1.alloc (.cells #[.bool p.1, .slice a n c, .int .i64 p.2.2] 38)).cell? ⟨w1.heap.size, 2, none⟩ = some (.int .i64 p.2.2) := by go_simp
        clear b1 b2 FX HN
        have SG : Hid _ := qSign_calls p.1 a n c (wordsOf p.2.1) p.2.2 _ hO.1 (by omega)
        rw [val_words, HS.out.1] at SG
        go_wp2_with fail
        generalize w1.alloc (.cells #[.bool p.1, .slice a n c, .int .i64 p.2.2] 38) = w2 at *
        generalize w1.heap.size = D at *
        refine Calls.mono SG.out ?_
        rintro q w3 ⟨rfl, b1⟩
        clear SG
        replace f0 := kF b1 z0 f0
        replace f1 := kF b1 z1 f1
        replace z0 := kC b1 z0
        replace z1 := kC b1 z1
        replace k0 := kC b1 k0
        replace k1 := kC b1 k1
        replace k2 := kC b1 k2
        replace hO := hO.keep b1
        replace bA := nT bA b1
        clear b1
        have ZC : Hid _ := qZero_calls p.1 a n c (wordsOf p.2.1) p.2.2 _ hO.1 (by omega)
        rw [val_words, decide_eq_false HS.out.2] at ZC
        go_wp2_with fail
        refine Calls.mono ZC.out ?_
        rintro q w4 ⟨rfl, b1⟩
        clear ZC
        replace f0 := kF b1 z0 f0
        replace f1 := kF b1 z1 f1
        replace z0 := kC b1 z0
        replace z1 := kC b1 z1
        replace k0 := kC b1 k0
        replace k1 := kC b1 k1
        replace k2 := kC b1 k2
        replace hO := hO.keep b1
        replace bA := nT bA b1
        clear b1
        rw [HP1.out] at k0
        go_wp2_with fail
        refine Calls.mono (RT.out a n c _ hO.1 hn) ?_
        rintro q w5 ⟨rfl, b1⟩
        replace f0 := kF b1 z0 f0
        replace f1 := kF b1 z1 f1
        replace z0 := kC b1 z0
        replace z1 := kC b1 z1
        replace bA := nT bA b1
        go_wp2_with fail
        exact bodyPost_ret (v := .tuple #[.agg #[.int .u64 (BB), .int .u8 (FF)], .int .i64 (0)]) (by simp [results, Tryz.results13, go_sem, z0, z1]) rfl ⟨rfl, by repeat (first | (with_reducible exact bA) | (with_reducible refine Below.setCell ?_ (by simp) _))⟩

set_option maxRecDepth 100000 in
set_option maxHeartbeats 2000000 in
theorem dRsqrt_calls (x : Int) (w : World) (hU : U x) :
    Calls Tryz.prog 15 #[.int .u64 x] w fun q w' => q = .returned (.tuple #[.agg #[.int .u64 (rsB x), .int .u8 (rsF x)], .int .i64 (rsE x)]) ∧ Below w.heap.size w w' := by
  have bA : Below w.heap.size w (w.alloc (.cells #[.int .u64 0, .int .u8 0] 25)) := below_one _ _
  have FX : Hid _ := fun W => qfrom_calls x W hU
  have CX : Hid _ := fun W => rClass_calls x W hU
  have z0 : (w.alloc (.cells #[.int .u64 0, .int .u8 0] 25)).cell? ⟨w.heap.size, 0, none⟩ = some (.int .u64 0) := by go_simp
  have z1 : (w.alloc (.cells #[.int .u64 0, .int .u8 0] 25)).cell? ⟨w.heap.size, 1, none⟩ = some (.int .u8 0) := by go_simp
  have f0 : (w.alloc (.cells #[.int .u64 0, .int .u8 0] 25)).frozen? ⟨w.heap.size, 0, none⟩ = false := by go_simp
  have f1 : (w.alloc (.cells #[.int .u64 0, .int .u8 0] 25)).frozen? ⟨w.heap.size, 1, none⟩ = false := by go_simp
  clear CX
  cases hf : finB x with
  | false =>
    have HE : Hid (rsB x = 0 ∧ rsF x = 0 ∧ rsE x = 5) := by
      have e : rsE x = 5 := by unfold rsE; rw [(last_no hf).2]; exact if_pos (Or.inl rfl)
      refine ⟨?_, ?_, e⟩
      · unfold rsB; rw [e]; rfl
      · unfold rsF; rw [e]; rfl
    rw [HE.out.1, HE.out.2.1, HE.out.2.2]
    rw [(last_no hf).1] at FX
    clear hf HE
    generalize fromP x = p at *
    go_enter Tryz.func15, Tryz.ntmps15
    go_wp2_with fail
    generalize w.alloc (.cells #[.int .u64 0, .int .u8 0] 25) = w0 at *
    refine Calls.mono (FX.out _) ?_
    rintro q w1 ⟨_, rfl, ⟨a, n, c, rfl, HN, hO⟩, b1⟩
    have b2 := nT b1 (below_one w1 (.cells #[.bool p.1, .slice a n c, .int .i64 p.2.2] 38))
    replace f0 := kF b2 z0 f0
    replace f1 := kF b2 z1 f1
    replace z0 := kC b2 z0
    replace z1 := kC b2 z1
    replace bA := nT bA b2
    clear b1 b2 FX HN hO
    go_wp2_with fail
    exact bodyPost_ret (v := .tuple #[.agg #[.int .u64 (0), .int .u8 (0)], .int .i64 (5)]) (by simp [results, Tryz.results15, go_sem, z0, z1]) rfl ⟨rfl, by repeat (first | (with_reducible exact bA) | (with_reducible refine Below.setCell ?_ (by simp) _))⟩
  | true =>
    rw [last_yes hf] at FX
    have HLn : Hid ((wordsOf (fromP x).2.1).length ≤ 1024) := (great_len _).1 (rightB_yes (fa_right x)).1
    by_cases h5 : (fromP x).2.1 = 0 ∨ (fromP x).1 = true
    · have e5 : rsE x = 5 := by unfold rsE; exact if_pos h5
      have HE : Hid (rsB x = 0 ∧ rsF x = 0) := by
        refine ⟨?_, ?_⟩
        · unfold rsB; rw [e5]; rfl
        · unfold rsF; rw [e5]; rfl
      rw [HE.out.1, HE.out.2, e5]
      have hg : sgnQ (fromP x).1 (fromP x).2.1 = 0 ∨ sgnQ (fromP x).1 (fromP x).2.1 = -1 := by
        unfold sgnQ
        by_cases c : (fromP x).2.1 = 0
        · rw [if_pos c]; exact Or.inl rfl
        · rw [if_neg c]
          rcases h5 with q | q
          · exact absurd q c
          · rw [if_pos q]; exact Or.inr rfl
      clear hf HE h5 e5
      rcases hg with hg | hg
      · have HS : Hid _ := hg
        clear hg
        generalize fromP x = p at *
        go_enter Tryz.func15, Tryz.ntmps15
        go_wp2_with fail
        generalize w.alloc (.cells #[.int .u64 0, .int .u8 0] 25) = w0 at *
        refine Calls.mono (FX.out _) ?_
        rintro q w1 ⟨_, rfl, ⟨a, n, c, rfl, HN, hO⟩, b1⟩
        have hn : n ≤ 1024 := by rw [HN.out]; exact HLn.out
        have b2 := nT b1 (below_one w1 (.cells #[.bool p.1, .slice a n c, .int .i64 p.2.2] 38))
        replace hO := hO.keep (below_one w1 (.cells #[.bool p.1, .slice a n c, .int .i64 p.2.2] 38))
        replace f0 := kF b2 z0 f0
        replace f1 := kF b2 z1 f1
        replace z0 := kC b2 z0
        replace z1 := kC b2 z1
        replace bA := nT bA b2
        have k0 : (w1.alloc (.cells #[.bool p.1, .slice a n c, .int .i64 p.2.2] 38)).cell? ⟨w1.heap.size, 0, none⟩ = some (.bool p.1) := by go_simp
        have k1 : (w1.alloc (.cells #[.bool p.1, .slice a n c, .int .i64 p.2.2] 38)).cell? ⟨w1.heap.size, 1, none⟩ = some (.slice a n c) := by go_simp
        have k2 : (w1.alloc (.cells #[.bool p.1, .slice a n c, .int .i64 p.2.2] 38)).cell? ⟨w1.heap.size, 2, none⟩ = some (.int .i64 p.2.2) := by go_simp
        clear b1 b2 FX HN
        have SG : Hid _ := qSign_calls p.1 a n c (wordsOf p.2.1) p.2.2 _ hO.1 (by omega)
        rw [val_words, HS.out] at SG
        go_wp2_with fail
        generalize w1.alloc (.cells #[.bool p.1, .slice a n c, .int .i64 p.2.2] 38) = w2 at *
        generalize w1.heap.size = D at *
        refine Calls.mono SG.out ?_
        rintro q w3 ⟨rfl, b1⟩
        clear SG
        replace f0 := kF b1 z0 f0
        replace f1 := kF b1 z1 f1
        replace z0 := kC b1 z0
        replace z1 := kC b1 z1
        replace k0 := kC b1 k0
        replace k1 := kC b1 k1
        replace k2 := kC b1 k2
        replace hO := hO.keep b1
        replace bA := nT bA b1
        clear b1
        go_wp2_with fail
        exact bodyPost_ret (v := .tuple #[.agg #[.int .u64 (0), .int .u8 (0)], .int .i64 (5)]) (by simp [results, Tryz.results15, go_sem, z0, z1]) rfl ⟨rfl, by repeat (first | (with_reducible exact bA) | (with_reducible refine Below.setCell ?_ (by simp) _))⟩
      · have HS : Hid _ := hg
        clear hg
        generalize fromP x = p at *
        go_enter Tryz.func15, Tryz.ntmps15
        go_wp2_with fail
        generalize w.alloc (.cells #[.int .u64 0, .int .u8 0] 25) = w0 at *
        refine Calls.mono (FX.out _) ?_
        rintro q w1 ⟨_, rfl, ⟨a, n, c, rfl, HN, hO⟩, b1⟩
        have hn : n ≤ 1024 := by rw [HN.out]; exact HLn.out
        have b2 := nT b1 (below_one w1 (.cells #[.bool p.1, .slice a n c, .int .i64 p.2.2] 38))
        replace hO := hO.keep (below_one w1 (.cells #[.bool p.1, .slice a n c, .int .i64 p.2.2] 38))
        replace f0 := kF b2 z0 f0
        replace f1 := kF b2 z1 f1
        replace z0 := kC b2 z0
        replace z1 := kC b2 z1
        replace bA := nT bA b2
        have k0 : (w1.alloc (.cells #[.bool p.1, .slice a n c, .int .i64 p.2.2] 38)).cell? ⟨w1.heap.size, 0, none⟩ = some (.bool p.1) := by go_simp
        have k1 : (w1.alloc (.cells #[.bool p.1, .slice a n c, .int .i64 p.2.2] 38)).cell? ⟨w1.heap.size, 1, none⟩ = some (.slice a n c) := by go_simp
        have k2 : (w1.alloc (.cells #[.bool p.1, .slice a n c, .int .i64 p.2.2] 38)).cell? ⟨w1.heap.size, 2, none⟩ = some (.int .i64 p.2.2) := by go_simp
        clear b1 b2 FX HN
        have SG : Hid _ := qSign_calls p.1 a n c (wordsOf p.2.1) p.2.2 _ hO.1 (by omega)
        rw [val_words, HS.out] at SG
        go_wp2_with fail
        generalize w1.alloc (.cells #[.bool p.1, .slice a n c, .int .i64 p.2.2] 38) = w2 at *
        generalize w1.heap.size = D at *
        refine Calls.mono SG.out ?_
        rintro q w3 ⟨rfl, b1⟩
        clear SG
        replace f0 := kF b1 z0 f0
        replace f1 := kF b1 z1 f1
        replace z0 := kC b1 z0
        replace z1 := kC b1 z1
        replace k0 := kC b1 k0
        replace k1 := kC b1 k1
        replace k2 := kC b1 k2
        replace hO := hO.keep b1
        replace bA := nT bA b1
        clear b1
        go_wp2_with fail
        exact bodyPost_ret (v := .tuple #[.agg #[.int .u64 (0), .int .u8 (0)], .int .i64 (5)]) (by simp [results, Tryz.results15, go_sem, z0, z1]) rfl ⟨rfl, by repeat (first | (with_reducible exact bA) | (with_reducible refine Below.setCell ?_ (by simp) _))⟩
    · have h0 : (fromP x).2.1 ≠ 0 := fun q => h5 (Or.inl q)
      have hs : (fromP x).1 = false := by
        cases q : (fromP x).1 with
        | false => rfl
        | true => exact absurd (Or.inr q) h5
      have e0 : rsE x = 0 := by unfold rsE; exact if_neg h5
      have hbd := fa_bd x
      obtain ⟨d1, d2⟩ := di_all (fromP x).2.1 (fromP x).2.2 h0 (by omega) (fa_tp x) (by omega)
      have HE : Hid (rsB x = nbR false (invM (fromP x).2.1 (fromP x).2.2) (invE (fromP x).2.1 (fromP x).2.2) ∧ rsF x = flR false (invM (fromP x).2.1 (fromP x).2.2) (invE (fromP x).2.1 (fromP x).2.2)) := by
        refine ⟨?_, ?_⟩
        · unfold rsB; rw [if_pos e0]
        · unfold rsF; rw [if_pos e0]
      rw [HE.out.1, HE.out.2, e0, ← d1, ← d2]
      have HS : Hid (sgnQ (fromP x).1 (fromP x).2.1 = 1 ∧ (fromP x).2.1 ≠ 0) := ⟨by unfold sgnQ; rw [if_neg h0, hs]; rfl, h0⟩
      have hdm := di_mul (fromP x).2.1 (fromP x).2.2
      have hdn : (diN (fromP x).2.1 (fromP x).2.2 : Int) = 150 + (blen (fromP x).2.1 : Int) + (150 + (blen (fromP x).2.1 : Int) + (fromP x).2.2) % 2 := by unfold diN; omega
      obtain ⟨KK, hKK⟩ : ∃ KK : Nat, KK = 1000 := ⟨_, rfl⟩
      have hq : blen (2 ^ diN (fromP x).2.1 (fromP x).2.2) ≤ 1000 := by rw [← hKK]; exact (blen_le _ _).2 (Nat.pow_lt_pow_right (by decide) (by omega))
      have hqd : blen (2 ^ diN (fromP x).2.1 (fromP x).2.2 / (fromP x).2.1) ≤ 1000 := Nat.le_trans (blen_mono (Nat.div_le_self _ _)) hq
      have hqm : blen (2 ^ diN (fromP x).2.1 (fromP x).2.2 % (fromP x).2.1) ≤ 1000 := Nat.le_trans (blen_mono (Nat.mod_le _ _)) hq
      have hrt : blen (rt 2 (2 ^ diN (fromP x).2.1 (fromP x).2.2 / (fromP x).2.1)) ≤ 1000 := Nat.le_trans (blen_mono (rt_self (by decide))) hqd
      have hrl : blen (2 ^ diN (fromP x).2.1 (fromP x).2.2 / (fromP x).2.1 - rt 2 (2 ^ diN (fromP x).2.1 (fromP x).2.2 / (fromP x).2.1) ^ 2) ≤ 1000 := Nat.le_trans (blen_mono (Nat.sub_le _ _)) hqd
      have HQB : Hid _ := And.intro hq (And.intro hqd (And.intro hqm (And.intro hrt hrl)))
      have hdb : blen (diM (fromP x).2.1 (fromP x).2.2) ≤ 2000 := by
        unfold diM skA
        have := Bool.toNat_le (decide (2 ^ diN (fromP x).2.1 (fromP x).2.2 / (fromP x).2.1 - rt 2 (2 ^ diN (fromP x).2.1 (fromP x).2.2 / (fromP x).2.1) ^ 2 ≠ 0) || decide (2 ^ diN (fromP x).2.1 (fromP x).2.2 % (fromP x).2.1 ≠ 0))
        have hlt := lt_blen (rt 2 (2 ^ diN (fromP x).2.1 (fromP x).2.2 / (fromP x).2.1))
        refine Nat.le_trans ((blen_le _ (blen (rt 2 (2 ^ diN (fromP x).2.1 (fromP x).2.2 / (fromP x).2.1)) + 1)).2 ?_) (by omega)
        rw [Nat.pow_succ 2]
        omega
      have HFI : Hid _ := form_in false (diM (fromP x).2.1 (fromP x).2.2) (diE (fromP x).2.1 (fromP x).2.2 - 1) (by omega) (by omega) (by omega)
      have HDM : Hid (diM (fromP x).2.1 (fromP x).2.2 = skA (rt 2 (2 ^ diN (fromP x).2.1 (fromP x).2.2 / (fromP x).2.1)) (decide (2 ^ diN (fromP x).2.1 (fromP x).2.2 / (fromP x).2.1 - rt 2 (2 ^ diN (fromP x).2.1 (fromP x).2.2 / (fromP x).2.1) ^ 2 ≠ 0) || decide (2 ^ diN (fromP x).2.1 (fromP x).2.2 % (fromP x).2.1 ≠ 0))) := rfl
      have hLB : (blen (fromP x).2.1 : Int) ≤ 53 := by omega
      have hE1 : -1074 ≤ (fromP x).2.2 := hbd.2.1
      have hE2 : (fromP x).2.2 ≤ 1030 := hbd.2.2
      have HMUL : Hid (2 * diE (fromP x).2.1 (fromP x).2.2 = -(diN (fromP x).2.1 (fromP x).2.2 : Int) - (fromP x).2.2) := hdm
      have HDN : Hid ((diN (fromP x).2.1 (fromP x).2.2 : Int) = 150 + (blen (fromP x).2.1 : Int) + (150 + (blen (fromP x).2.1 : Int) + (fromP x).2.2) % 2) := hdn
      clear HE hf h0 hs e0 d1 d2 hq hqd hqm hrt hrl hdb hbd hdm hdn h5
      generalize diM (fromP x).2.1 (fromP x).2.2 = DM at *
      generalize diE (fromP x).2.1 (fromP x).2.2 = EE at *
      generalize diN (fromP x).2.1 (fromP x).2.2 = NN at *
      generalize fromP x = p at *
      go_enter Tryz.func15, Tryz.ntmps15
      go_wp2_with fail
      generalize w.alloc (.cells #[.int .u64 0, .int .u8 0] 25) = w0 at *
      refine Calls.mono (FX.out _) ?_
      rintro q w1 ⟨_, rfl, ⟨a, n, c, rfl, HN, hO⟩, b1⟩
      have hn : n ≤ 1024 := by rw [HN.out]; exact HLn.out
      have b2 := nT b1 (below_one w1 (.cells #[.bool p.1, .slice a n c, .int .i64 p.2.2] 38))
      replace hO := hO.keep (below_one w1 (.cells #[.bool p.1, .slice a n c, .int .i64 p.2.2] 38))
      replace f0 := kF b2 z0 f0
      replace f1 := kF b2 z1 f1
      replace z0 := kC b2 z0
      replace z1 := kC b2 z1
      replace bA := nT bA b2
      have k0 : (w1.alloc (.cells #[.bool p.1, .slice a n c, .int .i64 p.2.2] 38)).cell? ⟨w1.heap.size, 0, none⟩ = some (.bool p.1) := by go_simp
      have k1 : (w1.alloc (.cells #[.bool p.1, .slice a n c, .int .i64 p.2.2] 38)).cell? ⟨w1.heap.size, 1, none⟩ = some (.slice a n c) := by go_simp
      have k2 : (w1.alloc (.cells #[.bool p.1, .slice a n c, .int .i64 p.2.2] 38)).cell? ⟨w1.heap.size, 2, none⟩ = some (.int .i64 p.2.2) := by go_simp
      clear b1 b2 FX HN
      have SG : Hid _ := qSign_calls p.1 a n c (wordsOf p.2.1) p.2.2 _ hO.1 (by omega)
      rw [val_words, HS.out.1] at SG
      go_wp2_with fail
      generalize w1.alloc (.cells #[.bool p.1, .slice a n c, .int .i64 p.2.2] 38) = w2 at *
      generalize w1.heap.size = D at *
      refine Calls.mono SG.out ?_
      rintro q w3 ⟨rfl, b1⟩
      clear SG
      replace f0 := kF b1 z0 f0
      replace f1 := kF b1 z1 f1
      replace z0 := kC b1 z0
      replace z1 := kC b1 z1
      replace k0 := kC b1 k0
      replace k1 := kC b1 k1
      replace k2 := kC b1 k2
      replace hO := hO.keep b1
      replace bA := nT bA b1
      clear b1
      have LC : Hid _ := nLen_calls a n c (wordsOf p.2.1) w3 hO.1 (by omega)
      rw [val_words] at LC
      generalize hbl : blen p.2.1 = bl at *
      clear hbl
      go_wp2_with fail
      refine Calls.mono LC.out ?_
      rintro q w4 ⟨rfl, b1⟩
      clear LC
      replace f0 := kF b1 z0 f0
      replace f1 := kF b1 z1 f1
      replace z0 := kC b1 z0
      replace z1 := kC b1 z1
      replace k0 := kC b1 k0
      replace k1 := kC b1 k1
      replace k2 := kC b1 k2
      replace hO := hO.keep b1
      replace bA := nT bA b1
      clear b1
      have hNN : (NN : Int) ≤ 204 := by have := HDN.out; omega
      have hQ : (-(NN : Int) - p.2.2).tdiv 2 = EE := by
        rw [← HMUL.out, Int.mul_tdiv_cancel_left _ (by decide)]
      have hEE1 : -2000 ≤ EE := by have := HMUL.out; omega
      have hEE2 : EE ≤ 2000 := by have := HMUL.out; omega
      rcases (show (150 + (bl : Int) + p.2.2) % 2 = 0 ∨ (150 + (bl : Int) + p.2.2) % 2 = 1 by omega) with hp | hp
      · have hN : 150 + (bl : Int) = (NN : Int) := by have := HDN.out; omega
        have hr : ((NN : Int) + p.2.2).tmod 2 = 0 := (tmod_zero _ _).2 (by omega)
        clear hp HDN
        have bD : Below w4.heap.size w4 w4.drew := (Below.refl _ _).drew
        go_wp2_with fail
        go_region_with (first
            | (go_at_call 51; refine (aOf _).mono ?_; rintro q v1 ⟨a1, n1, c1, rfl, HN1, hO1, b1⟩; have bI := nT bD b1; have hn1 : n1 ≤ 1024 := len_bits HN1.out (show blen 1 ≤ 1 by decide +kernel) (by decide); have j1 := kC bI k1; clear b1)
            | (go_at_call 50; refine (aShl a1 n1 c1 NN 1 _ hO1.1 (by omega) (by omega)).mono ?_; rintro q v2 ⟨a2, n2, c2, rfl, HN2, hO2, b2⟩; replace bI := nT bI b2; replace j1 := kC b2 j1; clear b2)
            | (go_at_call 49; rw [Nat.one_mul] at HN2 hO2; have hn2 : n2 ≤ 1024 := len_bits HN2.out HQB.out.1 (by decide); have DC := nDiv_calls a2 a n2 c2 n c (wordsOf (2 ^ NN)) (wordsOf p.2.1) _ hO2.1 (hO.1.keep bI) (by omega) (by omega) (by rw [val_words]; have := HQB.out.1; omega) (by rw [val_words]; exact HS.out.2); rw [val_words, val_words] at DC; refine DC.mono ?_; rintro q v3 ⟨g1, g2, rfl, hA1, hA2, b3⟩; obtain ⟨a3, n3, c3, rfl, HN3, hn3, hO3⟩ := hA1.open (len_bits rfl HQB.out.2.1 (by decide)); obtain ⟨a4, n4, c4, rfl, HN4, hn4, hO4⟩ := hA2.open (len_bits rfl HQB.out.2.2.1 (by decide)); replace bI := nT bI b3; clear b3 hA1 hA2))
        all_goals
          have y2 := kC bI k2
          have x0 := kF bI z0 f0
          have x1 := kF bI z1 f1
          have y0 := kC bI z0
          have y1 := kC bI z1
          have bB := nT bA bI
          clear bI j1 hO1 hO2 HN1 HN2 bD
          have RC : Hid _ := nRoot2_calls a3 n3 c3 (wordsOf (2 ^ NN / p.2.1)) v3 hO3.1 (by omega) (by rw [val_words]; exact (great_not _).2 (by have := HQB.out.2.1; omega))
          rw [val_words] at RC
          go_wp2_with fail
          refine Calls.mono RC.out ?_
          rintro q v4 ⟨g1, g2, rfl, hA1, hA2, b3⟩
          obtain ⟨a5, n5, c5, rfl, HN5, hn5, hO5⟩ := hA1.open (len_bits rfl HQB.out.2.2.2.1 (by decide))
          obtain ⟨a6, n6, c6, rfl, HN6, hn6, hO6⟩ := hA2.open (len_bits rfl HQB.out.2.2.2.2 (by decide))
          replace x0 := kF b3 y0 x0
          replace x1 := kF b3 y1 x1
          replace y0 := kC b3 y0
          replace y1 := kC b3 y1
          replace y2 := kC b3 y2
          replace bB := nT bB b3
          clear RC hA1 hA2 b3 hO3 hO4 hO6
          have HMK : Hid (skA (rt 2 (2 ^ NN / p.2.1)) (decide (0 < n6) || decide (0 < n4)) = DM) := by rw [Hid, HDM.out, mark_len HN6.out, mark_len HN4.out]
          have SC : Hid _ := fun mk (hk : (decide (0 < n6) || decide (0 < n4)) = mk) => stickyD_calls false a5 n5 c5 (rt 2 (2 ^ NN / p.2.1)) mk EE v4 hO5.1 hn5 (by omega) (by omega) (by have := HQB.out.2.2.2.1; omega)
          clear hO5 HN5 HN4 HN6 HDM
          rcases Nat.eq_zero_or_pos n6 with hz | hz
          · have hz1 : ¬ (0 : Int) < (n6 : Int) := by omega
            have SK := SC.out (decide (0 < n4)) (by subst hz; simp)
            have HM2 : Hid (skA (rt 2 (2 ^ NN / p.2.1)) (decide (0 < n4)) = DM) := by rw [Hid, ← HMK.out]; subst hz; simp
            rw [HM2.out] at SK
            have SH : Hid _ := SK
            clear SC HMK HM2 SK
            go_wp2_with fail
            refine Calls.mono SH.out ?_
            rintro q v5 ⟨_, rfl, ⟨a7, n7, c7, rfl, HN7, hO7⟩, b3⟩
            clear SH
            replace x0 := kF b3 y0 x0
            replace x1 := kF b3 y1 x1
            replace y0 := kC b3 y0
            replace y1 := kC b3 y1
            replace bB := nT bB b3
            clear b3 y2
            have hn7 : n7 ≤ 1024 := by rw [HN7.out]; exact HFI.out.2.2
            have NC : Hid _ := roundD_calls (formD false DM (EE - 1)).1 a7 n7 c7 (wordsOf (formD false DM (EE - 1)).2.1) (formD false DM (EE - 1)).2.2 v5 hO7.1 (by omega) (by rw [val_words]; exact HFI.out.1) HFI.out.2.1
            rw [val_words] at NC
            clear hO7 HN7 hn7
            go_wp2_with fail
            refine Calls.mono NC.out ?_
            rintro q v6 ⟨rfl, b4⟩
            clear NC
            replace x0 := kF b4 y0 x0
            replace x1 := kF b4 y1 x1
            replace y0 := kC b4 y0
            replace y1 := kC b4 y1
            replace bB := nT bB b4
            clear b4
            go_wp2_with fail
            exact bodyPost_ret (v := .tuple #[.agg #[.int .u64 (nearB (formD false DM (EE - 1)).1 (formD false DM (EE - 1)).2.1 (formD false DM (EE - 1)).2.2), .int .u8 (flD (formD false DM (EE - 1)).2.1 (formD false DM (EE - 1)).2.2)], .int .i64 0]) (by simp [results, Tryz.results15, go_sem, y0, y1]) rfl ⟨rfl, by repeat (first | (with_reducible exact bB) | (with_reducible refine Below.setCell ?_ (by simp) _))⟩
          · have hz1 : (0 : Int) < (n6 : Int) := by omega
            have SK := SC.out true (by rw [decide_eq_true hz]; rfl)
            have HM2 : Hid (skA (rt 2 (2 ^ NN / p.2.1)) true = DM) := by rw [Hid, ← HMK.out, decide_eq_true hz]; rfl
            rw [HM2.out] at SK
            have SH : Hid _ := SK
            clear SC HMK HM2 SK
            go_wp2_with fail
            refine Calls.mono SH.out ?_
            rintro q v5 ⟨_, rfl, ⟨a7, n7, c7, rfl, HN7, hO7⟩, b3⟩
            clear SH
            replace x0 := kF b3 y0 x0
            replace x1 := kF b3 y1 x1
            replace y0 := kC b3 y0
            replace y1 := kC b3 y1
            replace bB := nT bB b3
            clear b3 y2
            have hn7 : n7 ≤ 1024 := by rw [HN7.out]; exact HFI.out.2.2
            have NC : Hid _ := roundD_calls (formD false DM (EE - 1)).1 a7 n7 c7 (wordsOf (formD false DM (EE - 1)).2.1) (formD false DM (EE - 1)).2.2 v5 hO7.1 (by omega) (by rw [val_words]; exact HFI.out.1) HFI.out.2.1
            rw [val_words] at NC
            clear hO7 HN7 hn7
            go_wp2_with fail
            refine Calls.mono NC.out ?_
            rintro q v6 ⟨rfl, b4⟩
            clear NC
            replace x0 := kF b4 y0 x0
            replace x1 := kF b4 y1 x1
            replace y0 := kC b4 y0
            replace y1 := kC b4 y1
            replace bB := nT bB b4
            clear b4
            go_wp2_with fail
            exact bodyPost_ret (v := .tuple #[.agg #[.int .u64 (nearB (formD false DM (EE - 1)).1 (formD false DM (EE - 1)).2.1 (formD false DM (EE - 1)).2.2), .int .u8 (flD (formD false DM (EE - 1)).2.1 (formD false DM (EE - 1)).2.2)], .int .i64 0]) (by simp [results, Tryz.results15, go_sem, y0, y1]) rfl ⟨rfl, by repeat (first | (with_reducible exact bB) | (with_reducible refine Below.setCell ?_ (by simp) _))⟩
      · obtain ⟨N0, hN0⟩ : ∃ N0 : Nat, 150 + (bl : Int) = (N0 : Int) := ⟨150 + bl, by omega⟩
        have hr : ¬ ((N0 : Int) + p.2.2).tmod 2 = 0 := fun q => by have := (tmod_zero _ _).1 q; omega
        have hN : (N0 : Int) + 1 = (NN : Int) := by have := HDN.out; omega
        have hNb : (N0 : Int) ≤ 300 := by omega
        clear hp HDN
        have bD : Below w4.heap.size w4 w4.drew := (Below.refl _ _).drew
        go_wp2_with fail
        go_region_with (first
            | (go_at_call 51; refine (aOf _).mono ?_; rintro q v1 ⟨a1, n1, c1, rfl, HN1, hO1, b1⟩; have bI := nT bD b1; have hn1 : n1 ≤ 1024 := len_bits HN1.out (show blen 1 ≤ 1 by decide +kernel) (by decide); have j1 := kC bI k1; clear b1)
            | (go_at_call 50; refine (aShl a1 n1 c1 NN 1 _ hO1.1 (by omega) (by omega)).mono ?_; rintro q v2 ⟨a2, n2, c2, rfl, HN2, hO2, b2⟩; replace bI := nT bI b2; replace j1 := kC b2 j1; clear b2)
            | (go_at_call 49; rw [Nat.one_mul] at HN2 hO2; have hn2 : n2 ≤ 1024 := len_bits HN2.out HQB.out.1 (by decide); have DC := nDiv_calls a2 a n2 c2 n c (wordsOf (2 ^ NN)) (wordsOf p.2.1) _ hO2.1 (hO.1.keep bI) (by omega) (by omega) (by rw [val_words]; have := HQB.out.1; omega) (by rw [val_words]; exact HS.out.2); rw [val_words, val_words] at DC; refine DC.mono ?_; rintro q v3 ⟨g1, g2, rfl, hA1, hA2, b3⟩; obtain ⟨a3, n3, c3, rfl, HN3, hn3, hO3⟩ := hA1.open (len_bits rfl HQB.out.2.1 (by decide)); obtain ⟨a4, n4, c4, rfl, HN4, hn4, hO4⟩ := hA2.open (len_bits rfl HQB.out.2.2.1 (by decide)); replace bI := nT bI b3; clear b3 hA1 hA2))
        all_goals
          have y2 := kC bI k2
          have x0 := kF bI z0 f0
          have x1 := kF bI z1 f1
          have y0 := kC bI z0
          have y1 := kC bI z1
          have bB := nT bA bI
          clear bI j1 hO1 hO2 HN1 HN2 bD
          have RC : Hid _ := nRoot2_calls a3 n3 c3 (wordsOf (2 ^ NN / p.2.1)) v3 hO3.1 (by omega) (by rw [val_words]; exact (great_not _).2 (by have := HQB.out.2.1; omega))
          rw [val_words] at RC
          go_wp2_with fail
          refine Calls.mono RC.out ?_
          rintro q v4 ⟨g1, g2, rfl, hA1, hA2, b3⟩
          obtain ⟨a5, n5, c5, rfl, HN5, hn5, hO5⟩ := hA1.open (len_bits rfl HQB.out.2.2.2.1 (by decide))
          obtain ⟨a6, n6, c6, rfl, HN6, hn6, hO6⟩ := hA2.open (len_bits rfl HQB.out.2.2.2.2 (by decide))
          replace x0 := kF b3 y0 x0
          replace x1 := kF b3 y1 x1
          replace y0 := kC b3 y0
          replace y1 := kC b3 y1
          replace y2 := kC b3 y2
          replace bB := nT bB b3
          clear RC hA1 hA2 b3 hO3 hO4 hO6
          have HMK : Hid (skA (rt 2 (2 ^ NN / p.2.1)) (decide (0 < n6) || decide (0 < n4)) = DM) := by rw [Hid, HDM.out, mark_len HN6.out, mark_len HN4.out]
          have SC : Hid _ := fun mk (hk : (decide (0 < n6) || decide (0 < n4)) = mk) => stickyD_calls false a5 n5 c5 (rt 2 (2 ^ NN / p.2.1)) mk EE v4 hO5.1 hn5 (by omega) (by omega) (by have := HQB.out.2.2.2.1; omega)
          clear hO5 HN5 HN4 HN6 HDM
          rcases Nat.eq_zero_or_pos n6 with hz | hz
          · have hz1 : ¬ (0 : Int) < (n6 : Int) := by omega
            have SK := SC.out (decide (0 < n4)) (by subst hz; simp)
            have HM2 : Hid (skA (rt 2 (2 ^ NN / p.2.1)) (decide (0 < n4)) = DM) := by rw [Hid, ← HMK.out]; subst hz; simp
            rw [HM2.out] at SK
            have SH : Hid _ := SK
            clear SC HMK HM2 SK
            go_wp2_with fail
            refine Calls.mono SH.out ?_
            rintro q v5 ⟨_, rfl, ⟨a7, n7, c7, rfl, HN7, hO7⟩, b3⟩
            clear SH
            replace x0 := kF b3 y0 x0
            replace x1 := kF b3 y1 x1
            replace y0 := kC b3 y0
            replace y1 := kC b3 y1
            replace bB := nT bB b3
            clear b3 y2
            have hn7 : n7 ≤ 1024 := by rw [HN7.out]; exact HFI.out.2.2
            have NC : Hid _ := roundD_calls (formD false DM (EE - 1)).1 a7 n7 c7 (wordsOf (formD false DM (EE - 1)).2.1) (formD false DM (EE - 1)).2.2 v5 hO7.1 (by omega) (by rw [val_words]; exact HFI.out.1) HFI.out.2.1
            rw [val_words] at NC
            clear hO7 HN7 hn7
            go_wp2_with fail
            refine Calls.mono NC.out ?_
            rintro q v6 ⟨rfl, b4⟩
            clear NC
            replace x0 := kF b4 y0 x0
            replace x1 := kF b4 y1 x1
            replace y0 := kC b4 y0
            replace y1 := kC b4 y1
            replace bB := nT bB b4
            clear b4
            go_wp2_with fail
            exact bodyPost_ret (v := .tuple #[.agg #[.int .u64 (nearB (formD false DM (EE - 1)).1 (formD false DM (EE - 1)).2.1 (formD false DM (EE - 1)).2.2), .int .u8 (flD (formD false DM (EE - 1)).2.1 (formD false DM (EE - 1)).2.2)], .int .i64 0]) (by simp [results, Tryz.results15, go_sem, y0, y1]) rfl ⟨rfl, by repeat (first | (with_reducible exact bB) | (with_reducible refine Below.setCell ?_ (by simp) _))⟩
          · have hz1 : (0 : Int) < (n6 : Int) := by omega
            have SK := SC.out true (by rw [decide_eq_true hz]; rfl)
            have HM2 : Hid (skA (rt 2 (2 ^ NN / p.2.1)) true = DM) := by rw [Hid, ← HMK.out, decide_eq_true hz]; rfl
            rw [HM2.out] at SK
            have SH : Hid _ := SK
            clear SC HMK HM2 SK
            go_wp2_with fail
            refine Calls.mono SH.out ?_
            rintro q v5 ⟨_, rfl, ⟨a7, n7, c7, rfl, HN7, hO7⟩, b3⟩
            clear SH
            replace x0 := kF b3 y0 x0
            replace x1 := kF b3 y1 x1
            replace y0 := kC b3 y0
            replace y1 := kC b3 y1
            replace bB := nT bB b3
            clear b3 y2
            have hn7 : n7 ≤ 1024 := by rw [HN7.out]; exact HFI.out.2.2
            have NC : Hid _ := roundD_calls (formD false DM (EE - 1)).1 a7 n7 c7 (wordsOf (formD false DM (EE - 1)).2.1) (formD false DM (EE - 1)).2.2 v5 hO7.1 (by omega) (by rw [val_words]; exact HFI.out.1) HFI.out.2.1
            rw [val_words] at NC
            clear hO7 HN7 hn7
            go_wp2_with fail
            refine Calls.mono NC.out ?_
            rintro q v6 ⟨rfl, b4⟩
            clear NC
            replace x0 := kF b4 y0 x0
            replace x1 := kF b4 y1 x1
            replace y0 := kC b4 y0
            replace y1 := kC b4 y1
            replace bB := nT bB b4
            clear b4
            go_wp2_with fail
            exact bodyPost_ret (v := .tuple #[.agg #[.int .u64 (nearB (formD false DM (EE - 1)).1 (formD false DM (EE - 1)).2.1 (formD false DM (EE - 1)).2.2), .int .u8 (flD (formD false DM (EE - 1)).2.1 (formD false DM (EE - 1)).2.2)], .int .i64 0]) (by simp [results, Tryz.results15, go_sem, y0, y1]) rfl ⟨rfl, by repeat (first | (with_reducible exact bB) | (with_reducible refine Below.setCell ?_ (by simp) _))⟩
end Go.Proofs.YtfgemlgmhlidmaaGreatDoor

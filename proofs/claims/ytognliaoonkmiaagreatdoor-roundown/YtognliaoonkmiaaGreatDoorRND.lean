/- The first question of round's statements. -/
import Derived.Test.YtognliaoonkmiaaGreatDoorRNC
import Derived.Laws.StructEq
namespace Go.Proofs.YtognliaoonkmiaaGreatDoor
open Go.RowKit

theorem rgreat_small (m : Nat) (h : m < 18446744073709551616) : greatB m = false := by
  refine (great_len _).2 (Nat.le_trans ((words_len 1 m).2 (by rw [Nat.pow_one]; exact h)) (by decide))
theorem rright_small (m : Nat) (e : Int) (h : m < 18446744073709551616) (he : -32768 ≤ e ∧ e ≤ 32768) : rightB m e = true := by
  unfold rightB inB
  rw [rgreat_small m h, decide_eq_true he]
  rfl
theorem risW_one (w : World) (b : Nat) (x : Int) (h0 : 0 ≤ x) (h1 : x ≤ 18446744073709551615) (hc : w.cell? ⟨b, 0, none⟩ = some (.int .u64 x)) : IsW w (some ⟨b, 0, none⟩) 1 1 [x] := by
  refine ⟨rfl, fun y hy => ?_, ⟨Nat.le_refl _, fun q => by cases q⟩, fun i hi => ?_⟩
  · rw [List.mem_singleton.1 hy]; exact ⟨h0, h1⟩
  · have : i = 0 := by omega
    subst this
    exact ⟨b, 0, rfl, World.block_lt_of_cell? _ _ hc, hc⟩
theorem tinyK (m : Nat) (e : Int) (b : Bool) (K : Nat) (hK : K = 32768) (he : -32768 ≤ e) (h : decide (m * 2 ^ (e + K).toNat < 18014398509481983 * 2 ^ (K - 1076)) = b) : tinyP m e = b := by
  rw [tiny_num m e K (by omega) he, h]
theorem live_a : nbR false 1 (-1075) = 0 ∧ flR false 1 (-1075) = 24 ∧ erR 1 (-1075) = 0 := by
  have hr := rright_small 1 (-1075) (by decide) (by decide)
  have ht : tinyP 1 (-1075) = true := tinyK _ _ _ _ rfl (by decide) (by decide +kernel)
  unfold nbR flR erR
  rw [hr, ht]
  decide +kernel
theorem live_b : nbR false 1 1024 = 9218868437227405312 ∧ flR false 1 1024 = 20 ∧ erR 1 1024 = 0 := by
  have hr := rright_small 1 1024 (by decide) (by decide)
  have ht : tinyP 1 1024 = false := tinyK _ _ _ _ rfl (by decide) (by decide +kernel)
  unfold nbR flR erR
  rw [hr, ht]
  decide +kernel
theorem live_c : nbR false 3 (-1) = 4609434218613702656 ∧ flR false 3 (-1) = 0 ∧ erR 3 (-1) = 0 := by
  have hr := rright_small 3 (-1) (by decide) (by decide)
  have ht : tinyP 3 (-1) = false := tinyK _ _ _ _ rfl (by decide) (by decide +kernel)
  unfold nbR flR erR
  rw [hr, ht]
  decide +kernel
theorem live_d : dcN false 1152921504606846977 (-60) false 36028797018963969 (-55) = 4607182418800017408 ∧ dcF false 1152921504606846977 (-60) false 36028797018963969 (-55) = 16 ∧ dcB false 1152921504606846977 (-60) false 36028797018963969 (-55) = true ∧ dcE false 1152921504606846977 (-60) false 36028797018963969 (-55) = 0 := by
  have h1 := rright_small 1152921504606846977 (-60) (by decide) (by decide)
  have h2 := rright_small 36028797018963969 (-55) (by decide) (by decide)
  have t1 : tinyP 1152921504606846977 (-60) = false := tinyK _ _ _ _ rfl (by decide) (by decide +kernel)
  have t2 : tinyP 36028797018963969 (-55) = false := tinyK _ _ _ _ rfl (by decide) (by decide +kernel)
  have hc : cmpD (formD false 1152921504606846977 (-60)) (formD false 36028797018963969 (-55)) = -1 := by
    rw [vI_cmp _ _ 60 (form_lo _ _ _ _ (by decide) (by decide)) (form_lo _ _ _ _ (by decide) (by decide)), vI_form _ _ _ _ (by decide), vI_form _ _ _ _ (by decide)]
    decide +kernel
  have hr : rtB false 1152921504606846977 (-60) false 36028797018963969 (-55) = true := by unfold rtB; rw [h1, h2, hc]; rfl
  have n1 : nearB false 1152921504606846977 (-60) = 4607182418800017408 := by decide +kernel
  have n2 : nearB false 36028797018963969 (-55) = 4607182418800017408 := by decide +kernel
  have hb : dcB false 1152921504606846977 (-60) false 36028797018963969 (-55) = true := by unfold dcB; rw [hr, n1, n2, t1, t2]; rfl
  unfold dcN dcF dcE
  rw [hb, hr, n1, t1]
  exact ⟨rfl, by decide +kernel, rfl, rfl⟩

set_option maxRecDepth 100000 in
set_option maxHeartbeats 1000000 in
theorem power_calls (e : Int) (w : World) :
    Calls Tryz.prog 42 #[.int .i64 e] w fun r w' => ∃ b, r = .returned (dyV false (some ⟨b, 0, none⟩) 1 1 e) ∧ w'.cell? ⟨b, 0, none⟩ = some (.int .u64 1) ∧ Below w.heap.size w w' := by
  go_enter Tryz.func42, Tryz.ntmps42
  go_wp2_with fail
  exact bodyPost_ret (v := dyV false (some ⟨w.heap.size + 1, 0, none⟩) 1 1 e) (by simp [results, Tryz.results42, go_sem]) rfl ⟨_, rfl, by go_simp, nT (below_one _ _) (below_one _ _)⟩

set_option maxRecDepth 100000 in
set_option maxHeartbeats 4000000 in
theorem rLives_calls (w : World) (hT : Tab w) :
    Calls Tryz.prog 11 #[] w fun r w' => r = .returned (.bool true) ∧ Below w.heap.size w w' := by
  obtain ⟨a1, a2, a3⟩ := live_a
  obtain ⟨b1, b2, b3⟩ := live_b
  obtain ⟨c1, c2, c3⟩ := live_c
  obtain ⟨d1, d2, d3, d4⟩ := live_d
  have HA : Hid _ := fun b w' (hc : w'.cell? ⟨b, 0, none⟩ = some (.int .u64 1)) t' => pNear_calls false (some ⟨b, 0, none⟩) 1 1 [1] (-1075) w' (risW_one w' b 1 (by decide) (by decide) hc) (by decide) t'
  have HB : Hid _ := fun b w' (hc : w'.cell? ⟨b, 0, none⟩ = some (.int .u64 1)) t' => pNear_calls false (some ⟨b, 0, none⟩) 1 1 [1] 1024 w' (risW_one w' b 1 (by decide) (by decide) hc) (by decide) t'
  have HC : Hid _ := fun b w' (hc : w'.cell? ⟨b, 0, none⟩ = some (.int .u64 3)) t' => pNear_calls false (some ⟨b, 0, none⟩) 1 1 [3] (-1) w' (risW_one w' b 3 (by decide) (by decide) hc) (by decide) t'
  have HD : Hid _ := fun b b' w' (hc : w'.cell? ⟨b, 0, none⟩ = some (.int .u64 1152921504606846977)) (hc' : w'.cell? ⟨b', 0, none⟩ = some (.int .u64 36028797018963969)) t' => pDecide_calls false (some ⟨b, 0, none⟩) 1 1 [1152921504606846977] (-60) false (some ⟨b', 0, none⟩) 1 1 [36028797018963969] (-55) w' (risW_one w' b _ (by decide) (by decide) hc) (by decide) (risW_one w' b' _ (by decide) (by decide) hc') (by decide) t'
  rw [show val [1] = 1 by decide, a1, a2, a3] at HA
  rw [show val [1] = 1 by decide, b1, b2, b3] at HB
  rw [show val [3] = 3 by decide, c1, c2, c3] at HC
  rw [show val [1152921504606846977] = 1152921504606846977 by decide, show val [36028797018963969] = 36028797018963969 by decide, d1, d2, d3, d4] at HD
  clear a1 a2 a3 b1 b2 b3 c1 c2 c3 d1 d2 d3 d4
  go_enter Tryz.func11, Tryz.ntmps11
  go_wp2_with fail
  refine Calls.mono (power_calls _ _) ?_
  rintro r w1 ⟨b, rfl, hc, bA⟩
  go_wp2_with fail
  refine Calls.mono (HA.out _ _ hc (hT.kept bA)) ?_
  rintro r w2 ⟨rfl, bN⟩
  replace bA := nT bA bN
  clear bN hc
  have bB := below_one w2 (.cells #[.int .u64 0, .int .u8 24] 31)
  have x0 : (w2.alloc (.cells #[.int .u64 0, .int .u8 24] 31)).cell? ⟨w2.heap.size, 0, none⟩ = some (.int .u64 0) := by go_simp
  have x1 : (w2.alloc (.cells #[.int .u64 0, .int .u8 24] 31)).cell? ⟨w2.heap.size, 1, none⟩ = some (.int .u8 24) := by go_simp
  replace bA := nT bA bB
  clear bB
  go_wp2_with fail
  generalize (w2.alloc (.cells #[.int .u64 0, .int .u8 24] 31)) = w3 at *
  refine Calls.mono (power_calls _ _) ?_
  rintro r w4 ⟨b, rfl, hc, bN⟩
  replace bA := nT bA bN
  replace x0 := kC bN x0
  replace x1 := kC bN x1
  clear bN
  go_wp2_with fail
  refine Calls.mono (HB.out _ _ hc (hT.kept bA)) ?_
  rintro r w5 ⟨rfl, bN⟩
  replace bA := nT bA bN
  replace x0 := kC bN x0
  replace x1 := kC bN x1
  clear bN hc
  have bB := below_one w5 (.cells #[.int .u64 9218868437227405312, .int .u8 20] 31)
  have y0 : (w5.alloc (.cells #[.int .u64 9218868437227405312, .int .u8 20] 31)).cell? ⟨w5.heap.size, 0, none⟩ = some (.int .u64 9218868437227405312) := by go_simp
  have y1 : (w5.alloc (.cells #[.int .u64 9218868437227405312, .int .u8 20] 31)).cell? ⟨w5.heap.size, 1, none⟩ = some (.int .u8 20) := by go_simp
  replace x0 := kC bB x0
  replace x1 := kC bB x1
  replace bA := nT bA bB
  clear bB
  have bC := below_one (w5.alloc (.cells #[.int .u64 9218868437227405312, .int .u8 20] 31)) (.cells #[.int .u64 3] 28)
  have hc : ((w5.alloc (.cells #[.int .u64 9218868437227405312, .int .u8 20] 31)).alloc (.cells #[.int .u64 3] 28)).cell? ⟨w5.heap.size + 1, 0, none⟩ = some (.int .u64 3) := by go_simp
  replace x0 := kC bC x0
  replace x1 := kC bC x1
  replace y0 := kC bC y0
  replace y1 := kC bC y1
  replace bA := nT bA bC
  clear bC
  go_wp2_with fail
  generalize ((w5.alloc (.cells #[.int .u64 9218868437227405312, .int .u8 20] 31)).alloc (.cells #[.int .u64 3] 28)) = w6 at *
  refine Calls.mono (HC.out _ _ hc (hT.kept bA)) ?_
  rintro r w7 ⟨rfl, bN⟩
  replace bA := nT bA bN
  replace x0 := kC bN x0
  replace x1 := kC bN x1
  replace y0 := kC bN y0
  replace y1 := kC bN y1
  clear bN hc
  have bB : Below w7.heap.size w7 (((w7.alloc (.cells #[.int .u64 4609434218613702656, .int .u8 0] 31)).alloc (.cells #[.int .u64 1152921504606846977] 28)).alloc (.cells #[.int .u64 36028797018963969] 28)) := nT (nT (below_one _ _) (below_one _ _)) (below_one _ _)
  have u0 : (((w7.alloc (.cells #[.int .u64 4609434218613702656, .int .u8 0] 31)).alloc (.cells #[.int .u64 1152921504606846977] 28)).alloc (.cells #[.int .u64 36028797018963969] 28)).cell? ⟨w7.heap.size, 0, none⟩ = some (.int .u64 4609434218613702656) := by go_simp
  have u1 : (((w7.alloc (.cells #[.int .u64 4609434218613702656, .int .u8 0] 31)).alloc (.cells #[.int .u64 1152921504606846977] 28)).alloc (.cells #[.int .u64 36028797018963969] 28)).cell? ⟨w7.heap.size, 1, none⟩ = some (.int .u8 0) := by go_simp
  have hc : (((w7.alloc (.cells #[.int .u64 4609434218613702656, .int .u8 0] 31)).alloc (.cells #[.int .u64 1152921504606846977] 28)).alloc (.cells #[.int .u64 36028797018963969] 28)).cell? ⟨w7.heap.size + 1, 0, none⟩ = some (.int .u64 1152921504606846977) := by go_simp
  have hd : (((w7.alloc (.cells #[.int .u64 4609434218613702656, .int .u8 0] 31)).alloc (.cells #[.int .u64 1152921504606846977] 28)).alloc (.cells #[.int .u64 36028797018963969] 28)).cell? ⟨w7.heap.size + 1 + 1, 0, none⟩ = some (.int .u64 36028797018963969) := by go_simp
  replace x0 := kC bB x0
  replace x1 := kC bB x1
  replace y0 := kC bB y0
  replace y1 := kC bB y1
  replace bA := nT bA bB
  clear bB
  go_wp2_with fail
  generalize (((w7.alloc (.cells #[.int .u64 4609434218613702656, .int .u8 0] 31)).alloc (.cells #[.int .u64 1152921504606846977] 28)).alloc (.cells #[.int .u64 36028797018963969] 28)) = w8 at *
  refine Calls.mono (HD.out _ _ _ hc hd (hT.kept bA)) ?_
  rintro r w9 ⟨rfl, bN⟩
  replace bA := nT bA bN
  replace x0 := kC bN x0
  replace x1 := kC bN x1
  replace y0 := kC bN y0
  replace y1 := kC bN y1
  replace u0 := kC bN u0
  replace u1 := kC bN u1
  clear bN hc hd HA HB HC HD
  have bB := below_one w9 (.cells #[.int .u64 4607182418800017408, .int .u8 16] 31)
  have v0 : (w9.alloc (.cells #[.int .u64 4607182418800017408, .int .u8 16] 31)).cell? ⟨w9.heap.size, 0, none⟩ = some (.int .u64 4607182418800017408) := by go_simp
  have v1 : (w9.alloc (.cells #[.int .u64 4607182418800017408, .int .u8 16] 31)).cell? ⟨w9.heap.size, 1, none⟩ = some (.int .u8 16) := by go_simp
  replace x0 := kC bB x0
  replace x1 := kC bB x1
  replace y0 := kC bB y0
  replace y1 := kC bB y1
  replace u0 := kC bB u0
  replace u1 := kC bB u1
  replace bA := nT bA bB
  clear bB
  go_wp2_with fail
  go_ret
  exact ⟨rfl, bA⟩
end Go.Proofs.YtognliaoonkmiaaGreatDoor

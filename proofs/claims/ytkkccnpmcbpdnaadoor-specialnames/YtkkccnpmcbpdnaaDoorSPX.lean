/- SpecialNames: the document's names, and the walk. -/
import Derived.Test.YtkkccnpmcbpdnaaDoorSPQ
namespace Go.Proofs.YtkkccnpmcbpdnaaDoor
open Go.RowKit

def nmA : Array Value := ((List.range 37).map fun j => Value.string (nmS j)).toArray
theorem nmA_at (w : World) (n : Nat) (h : n < 37) : (w.alloc (.cells nmA 9)).cell? ⟨w.heap.size, n, none⟩ = some (.string (nmS n)) := by
  rw [World.cell?_alloc_new]
  unfold nmA
  simp [h]

set_option maxRecDepth 100000 in
set_option maxHeartbeats 4000000 in
theorem rName_calls (f : Int) (w : World) (hf : 0 ≤ f ∧ f ≤ 255) :
    Calls Tryd.prog 11 #[.int .u8 f] w fun r w' => r = .returned (.string (nameV f)) ∧ Below w.heap.size w w' := by
  have bA := below_alloc w (.cells nmA 9)
  by_cases h37 : f < 37
  · obtain ⟨n, rfl⟩ := Int.eq_ofNat_of_zero_le hf.1
    have hn : n < 37 := by omega
    have hc := nmA_at w n hn
    have HE : Hid (nameV (n : Int) = nmS n) := by rw [Hid, nameV, if_pos h37]; rfl
    rw [HE.out]
    go_enter Tryd.func11, Tryd.ntmps11
    refine wp_seq (wp_region_pure [0] [] { tmps := #[.int .u8 (n : Int), undef, .string ⟨#[]⟩, undef, undef, undef, undef, undef, undef, undef, undef, undef, undef, undef], defers := [] } w (by kernel_rfl) (by kernel_rfl) ?_)
    change Code.wp _ _ _ _ _
    refine wp_seq (wp_region_pure [0, 1] [] { tmps := #[.int .u8 (n : Int), undef, .string ⟨#[]⟩, .slice (some ⟨w.heap.size, 0, none⟩) 37 37, .slice (some ⟨w.heap.size, 0, none⟩) 37 37, undef, undef, undef, undef, undef, undef, undef, undef, undef], defers := [] } (w.alloc (.cells nmA 9)) (by kernel_rfl) (by kernel_rfl) ?_)
    change Code.wp _ _ _ _ _
    generalize hW : w.alloc (.cells nmA 9) = w1 at *
    clear hW HE
    go_wp2_with fail
    go_ret
    exact ⟨rfl, bA⟩
  · have HE : Hid (nameV f = ⟨#[]⟩) := by rw [Hid, nameV, if_neg h37]
    rw [HE.out]
    go_enter Tryd.func11, Tryd.ntmps11
    refine wp_seq (wp_region_pure [0] [] { tmps := #[.int .u8 f, undef, .string ⟨#[]⟩, undef, undef, undef, undef, undef, undef, undef, undef, undef, undef, undef], defers := [] } w (by kernel_rfl) (by kernel_rfl) ?_)
    change Code.wp _ _ _ _ _
    refine wp_seq (wp_region_pure [0, 1] [] { tmps := #[.int .u8 f, undef, .string ⟨#[]⟩, .slice (some ⟨w.heap.size, 0, none⟩) 37 37, .slice (some ⟨w.heap.size, 0, none⟩) 37 37, undef, undef, undef, undef, undef, undef, undef, undef, undef], defers := [] } (w.alloc (.cells nmA 9)) (by kernel_rfl) (by kernel_rfl) ?_)
    change Code.wp _ _ _ _ _
    generalize hW : w.alloc (.cells nmA 9) = w1 at *
    clear hW HE
    go_wp2_with fail
    go_ret
    exact ⟨rfl, bA⟩

set_option maxRecDepth 100000 in
set_option maxHeartbeats 4000000 in
theorem rFind_calls (s : ByteArray) (w : World) :
    Calls Tryd.prog 9 #[.string s] w fun r w' => r = .returned (.tuple #[.int .u8 (findV s).1, .bool (findV s).2]) ∧ Below w.heap.size w w' := by
  go_enter Tryd.func9, Tryd.ntmps9
  go_wp2_with fail
  go_loopw [4] (fun f w' => ∃ k : Nat, 1 ≤ k ∧ k ≤ 37 ∧ f = .int .u8 k ∧ findV s = findL s (List.range' k (37 - k)) ∧ Below w.heap.size w w') (fun f _ => 37 - (intOf f).toNat)
  case atStart => exact ⟨1, by omega, by omega, rfl, rfl, Below.refl _ _⟩
  case round =>
    obtain ⟨k, hk1, hk2, rfl, hv, hb⟩ := hrel
    have HW : Hid (findV s = findL s (List.range' k (37 - k))) := hv
    clear hv
    by_cases hk : k = 37
    · subst hk
      have HE : Hid (findV s = (0, false)) := HW.out
      go_wp2_with fail
      go_ret2
      exact ⟨by rw [HE.out]; rfl, hb⟩
    · have hk3 : k < 37 := by omega
      have HE : Hid (findV s = if eqS s (nmS k) then ((k : Int), true) else findL s (List.range' (k + 1) (37 - (k + 1)))) := by
        rw [Hid, HW.out, show 37 - k = (37 - (k + 1)) + 1 by omega, List.range'_succ]
        rfl
      have RC : Hid _ := fun W => rName_calls (k : Int) W ⟨by omega, by omega⟩
      rw [show nameV (k : Int) = nmS k by unfold nameV; rw [if_pos (by omega)]; rfl] at RC
      have hl : ((nmS k).toList == s.toList) = eqS s (nmS k) := by
        rw [eqS_list]; unfold eqS
        rw [Bool.eq_iff_iff]; simp only [decide_eq_true_eq]; exact eq_comm
      generalize nmS k = t at *
      go_wp2_with fail
      refine Calls.mono (RC.out _) ?_
      rintro r w1 ⟨rfl, b1⟩
      replace hb := below_trans hb b1
      clear b1 RC
      cases he : eqS s t with
      | true =>
        rw [he] at HE hl
        have HF : Hid (findV s = ((k : Int), true)) := HE.out
        go_wp2_with fail
        go_ret2
        exact ⟨by rw [HF.out]; rfl, hb⟩
      | false =>
        rw [he] at HE hl
        have HF : Hid (findV s = findL s (List.range' (k + 1) (37 - (k + 1)))) := HE.out
        go_wp2_with fail
        go_roundw
        case rel => exact ⟨k + 1, by omega, by omega, by go_num, HF.out, hb⟩
        case measure => simp [intOf]; omega

set_option maxRecDepth 100000 in
set_option maxHeartbeats 4000000 in
theorem rArgs_calls (f : Int) (w : World) (hf : 0 ≤ f) : Calls Tryd.prog 13 #[.int .u8 f] w fun r w' => r = .returned (.int .i64 (argsV f)) ∧ w' = w := by
  have h4 : f ≤ 0 ∨ 37 ≤ f ∨ (¬ f ≤ 0 ∧ ¬ 37 ≤ f ∧ 33 ≤ f) ∨ (¬ f ≤ 0 ∧ ¬ 37 ≤ f ∧ ¬ 33 ≤ f) := by omega
  have HE : Hid (argsV f = if (1 ≤ f ∧ f ≤ 36) then (if (33 ≤ f ∧ f ≤ 36) then 2 else 1) else 0) := by
    rw [Hid]; unfold argsV isF isTwo
    simp only [decide_eq_true_eq]
  rcases h4 with c | c | ⟨c1, c2, c3⟩ | ⟨c1, c2, c3⟩
  · have HV : Hid (argsV f = 0) := by rw [Hid, HE.out, if_neg (by omega)]
    rw [HV.out]
    go_enter Tryd.func13, Tryd.ntmps13
    go_wp2_with fail
    go_ret
    exact ⟨rfl, rfl⟩
  · have HV : Hid (argsV f = 0) := by rw [Hid, HE.out, if_neg (by omega)]
    rw [HV.out]
    go_enter Tryd.func13, Tryd.ntmps13
    go_wp2_with fail
    go_ret
    exact ⟨rfl, rfl⟩
  · have HV : Hid (argsV f = 2) := by rw [Hid, HE.out, if_pos (by omega), if_pos (by omega)]
    rw [HV.out]
    go_enter Tryd.func13, Tryd.ntmps13
    go_wp2_with fail
    go_ret
    exact ⟨rfl, rfl⟩
  · have HV : Hid (argsV f = 1) := by rw [Hid, HE.out, if_pos (by omega), if_neg (by omega)]
    rw [HV.out]
    go_enter Tryd.func13, Tryd.ntmps13
    go_wp2_with fail
    go_ret
    exact ⟨rfl, rfl⟩

set_option maxRecDepth 100000 in
set_option maxHeartbeats 4000000 in
theorem specialNames_walk (f : Int) (s : ByteArray) (w : World) (hf : 0 ≤ f ∧ f ≤ 255) (hT : TabS w) :
    Calls Tryd.prog 3 #[.int .u8 f, .string s] w fun r w' => r = .returned (.bool true) ∧ Below w.heap.size w w' := by
  have HB : Hid _ := fun W (b : Below w.heap.size w W) => spBegins_calls W (hT.kept b)
  have A1 : Hid _ := fun W => argsN_calls f W hf.1
  have A2 : Hid _ := fun W => rArgs_calls f W hf.1
  have N1 : Hid _ := fun W (b : Below w.heap.size w W) => name_calls f W hf.1 (hT.kept b).2.2
  have N2 : Hid _ := fun W => rName_calls f W hf
  have F1 : Hid _ := find_calls s w hT.2.2
  have F2 : Hid _ := fun W => rFind_calls s W
  generalize argsV f = A at *
  generalize nameV f = n at *
  generalize findV s = V at *
  obtain ⟨V1, V2⟩ := V
  simp only at F1 F2
  have hn : (n.toList == n.toList) = true := by simp
  clear hT
  go_enter Tryd.func3, Tryd.ntmps3
  go_wp2_with fail
  refine Calls.mono F1.out ?_
  rintro r w1 ⟨rfl, bb⟩
  go_wp2_with fail
  refine Calls.mono (F2.out _) ?_
  rintro r w2 ⟨rfl, b1⟩
  replace bb := below_trans bb b1
  clear b1
  go_wp2_with fail
  refine Calls.mono (N1.out _ bb) ?_
  rintro r w2 ⟨rfl, rfl⟩
  go_wp2_with fail
  refine Calls.mono (N2.out _) ?_
  rintro r w3 ⟨rfl, b1⟩
  replace bb := below_trans bb b1
  clear b1
  go_wp2_with fail
  refine Calls.mono (A1.out _) ?_
  rintro r w4 ⟨rfl, b1⟩
  replace bb := below_trans bb b1
  clear b1
  go_wp2_with fail
  refine Calls.mono (A2.out _) ?_
  rintro r w4 ⟨rfl, rfl⟩
  go_wp2_with fail
  refine Calls.mono (HB.out _ bb) ?_
  rintro r w5 ⟨rfl, b1⟩
  replace bb := below_trans bb b1
  clear b1
  go_wp2_with fail
  go_ret
  exact ⟨rfl, bb⟩

end Go.Proofs.YtkkccnpmcbpdnaaDoor

/- The walk of AlgMirror. -/
import Derived.Test.YtfgemlgmhlidmaaGreatDoorALX
import Derived.Test.YtfgemlgmhlidmaaGreatDoorAMX
import Derived.BigQuiet
namespace Go.Proofs.YtfgemlgmhlidmaaGreatDoor
open Go.RowKit

theorem cb_U (x : Int) (h : U x) : U (cbB x) := by
  unfold cbB
  split
  · split
    · exact h
    · unfold nbR
      split
      · exact nearB_U _ _ _
      · exact ⟨by decide, by decide⟩
  · exact ⟨by decide, by decide⟩

set_option maxRecDepth 100000 in
set_option maxHeartbeats 4000000 in
theorem algMirror_walk (x y : Int) (w : World) (hx : U x) (hy : U y) (hT : Tab w) :
    Calls Tryz.prog 7 #[.int .u64 x, .int .u64 y] w fun q w' => q = .returned (.bool true) ∧ Below w.heap.size w w' := by
  have HL : Hid _ := alLives_calls w hT
  have C1 : Hid _ := fun W (t : Tab W) => cbrt_all x W hx t
  have C2 : Hid _ := fun W (t : Tab W) => cbrt_all (negV x) W (negV_U x) t
  have C3 : Hid _ := fun W (t : Tab W) => hypot_all x y W hx hy t
  have C4 : Hid _ := fun W (t : Tab W) => hypot_all y (negV x) W hy (negV_U x) t
  have C5 : Hid _ := fun W (t : Tab W) => hypot_all (negV y) x W (negV_U y) hx t
  obtain ⟨⟨m1, m2, m3⟩, ⟨m4, m5, m6⟩⟩ := hy_mirror x y hx hy
  simp only [m1, m2, m3] at C4
  simp only [m4, m5, m6] at C5
  have NX : Hid _ := fun W => neg_calls x W hx
  have NY : Hid _ := fun W => neg_calls y W hy
  obtain ⟨n1, n2⟩ := cb_mirror x hx
  simp only [n1] at C2
  clear m1 m2 m3 m4 m5 m6 n1
  generalize hyE x y = HE at *
  generalize hyB x y = HB at *
  generalize hyF x y = HF at *
  have hE : lastE x = 0 ∨ lastE x = 5 := by unfold lastE; split <;> simp
  have UA : U (cbB x) := cb_U x hx
  have NA : Hid _ := fun W => neg_calls (cbB x) W UA
  generalize negV y = ny at *
  clear UA hy hx
  rcases hE with hE | hE
  · obtain ⟨k1, k2⟩ := n2 hE
    rw [hE] at C1 C2
    rw [k1, k2] at C2
    clear n2 hE k1 k2
    generalize cbF x = F at *
    generalize cbB x = A at *
    generalize negV x = nx at *
    generalize negV A = B at *
    go_enter Tryz.func7, Tryz.ntmps7
    go_wp2_with fail
    refine Calls.mono HL.out ?_
    rintro q w1 ⟨rfl, bA⟩
    replace hT := hT.kept bA
    clear HL
    go_wp2_with fail
    refine Calls.mono (C1.out _ hT) ?_
    rintro q w2 ⟨rfl, b1⟩
    have b2 := nT b1 (below_one w2 (.cells #[.int .u64 (A), .int .u8 (F)] 25))
    replace hT := hT.kept b2
    replace bA := nT bA b2
    have a0 : (w2.alloc (.cells #[.int .u64 (A), .int .u8 (F)] 25)).cell? ⟨w2.heap.size, 0, none⟩ = some (.int .u64 (A)) := by go_simp
    have a1 : (w2.alloc (.cells #[.int .u64 (A), .int .u8 (F)] 25)).cell? ⟨w2.heap.size, 1, none⟩ = some (.int .u8 (F)) := by go_simp
    clear b1 b2
    clear C1
    go_wp2_with fail
    generalize w2.alloc (.cells #[.int .u64 (A), .int .u8 (F)] 25) = w3 at *
    generalize w2.heap.size = D1 at *
    refine Calls.mono (NX.out _) ?_
    rintro q w3 ⟨rfl, rfl⟩
    go_wp2_with fail
    refine Calls.mono (C2.out _ hT) ?_
    rintro q w4 ⟨rfl, b1⟩
    have b2 := nT b1 (below_one w4 (.cells #[.int .u64 (B), .int .u8 (F)] 25))
    replace hT := hT.kept b2
    replace bA := nT bA b2
    replace a0 := kC b2 a0
    replace a1 := kC b2 a1
    have c0 : (w4.alloc (.cells #[.int .u64 (B), .int .u8 (F)] 25)).cell? ⟨w4.heap.size, 0, none⟩ = some (.int .u64 (B)) := by go_simp
    have c1 : (w4.alloc (.cells #[.int .u64 (B), .int .u8 (F)] 25)).cell? ⟨w4.heap.size, 1, none⟩ = some (.int .u8 (F)) := by go_simp
    clear b1 b2
    clear C2
    go_wp2_with fail
    generalize w4.alloc (.cells #[.int .u64 (B), .int .u8 (F)] 25) = w5 at *
    generalize w4.heap.size = D2 at *
    go_quiet ((go_at_call 32; refine Calls.quiet_of_same (NA.out _)))
    have bQ : Below w5.heap.size w5 (w5.drewN nq) := below_drewN (Below.refl _ _) nq
    replace hT := hT.kept bQ
    replace bA := nT bA bQ
    clear a0 a1 c0 c1 bQ
    go_wp2_with fail
    refine Calls.mono (C3.out _ hT) ?_
    rintro q w7 ⟨rfl, b1⟩
    have b2 := nT b1 (below_one w7 (.cells #[.int .u64 (HB), .int .u8 (HF)] 25))
    replace hT := hT.kept b2
    replace bA := nT bA b2
    have a0 : (w7.alloc (.cells #[.int .u64 (HB), .int .u8 (HF)] 25)).cell? ⟨w7.heap.size, 0, none⟩ = some (.int .u64 (HB)) := by go_simp
    have a1 : (w7.alloc (.cells #[.int .u64 (HB), .int .u8 (HF)] 25)).cell? ⟨w7.heap.size, 1, none⟩ = some (.int .u8 (HF)) := by go_simp
    clear b1 b2
    clear C3
    go_wp2_with fail
    generalize w7.alloc (.cells #[.int .u64 (HB), .int .u8 (HF)] 25) = w8 at *
    generalize w7.heap.size = D3 at *
    refine Calls.mono (NX.out _) ?_
    rintro q w8 ⟨rfl, rfl⟩
    go_wp2_with fail
    refine Calls.mono (C4.out _ hT) ?_
    rintro q w9 ⟨rfl, b1⟩
    have b2 := nT b1 (below_one w9 (.cells #[.int .u64 (HB), .int .u8 (HF)] 25))
    replace hT := hT.kept b2
    replace bA := nT bA b2
    replace a0 := kC b2 a0
    replace a1 := kC b2 a1
    have c0 : (w9.alloc (.cells #[.int .u64 (HB), .int .u8 (HF)] 25)).cell? ⟨w9.heap.size, 0, none⟩ = some (.int .u64 (HB)) := by go_simp
    have c1 : (w9.alloc (.cells #[.int .u64 (HB), .int .u8 (HF)] 25)).cell? ⟨w9.heap.size, 1, none⟩ = some (.int .u8 (HF)) := by go_simp
    clear b1 b2
    clear C4
    go_wp2_with fail
    generalize w9.alloc (.cells #[.int .u64 (HB), .int .u8 (HF)] 25) = w10 at *
    generalize w9.heap.size = D4 at *
    refine Calls.mono (NY.out _) ?_
    rintro q w10 ⟨rfl, rfl⟩
    go_wp2_with fail
    refine Calls.mono (C5.out _ hT) ?_
    rintro q w11 ⟨rfl, b1⟩
    have b2 := nT b1 (below_one w11 (.cells #[.int .u64 (HB), .int .u8 (HF)] 25))
    replace hT := hT.kept b2
    replace bA := nT bA b2
    replace a0 := kC b2 a0
    replace a1 := kC b2 a1
    replace c0 := kC b2 c0
    replace c1 := kC b2 c1
    have e0 : (w11.alloc (.cells #[.int .u64 (HB), .int .u8 (HF)] 25)).cell? ⟨w11.heap.size, 0, none⟩ = some (.int .u64 (HB)) := by go_simp
    have e1 : (w11.alloc (.cells #[.int .u64 (HB), .int .u8 (HF)] 25)).cell? ⟨w11.heap.size, 1, none⟩ = some (.int .u8 (HF)) := by go_simp
    clear b1 b2
    clear C5
    go_wp2_with fail
    go_ret
    exact ⟨by simp, bA⟩
  · rw [hE] at C1 C2
    clear n2 hE
    generalize cbF x = F at *
    generalize cbB x = A at *
    generalize negV x = nx at *
    generalize cbB nx = B at *
    generalize cbF nx = G at *
    generalize negV A = nA at *
    go_enter Tryz.func7, Tryz.ntmps7
    go_wp2_with fail
    refine Calls.mono HL.out ?_
    rintro q w1 ⟨rfl, bA⟩
    replace hT := hT.kept bA
    clear HL
    go_wp2_with fail
    refine Calls.mono (C1.out _ hT) ?_
    rintro q w2 ⟨rfl, b1⟩
    have b2 := nT b1 (below_one w2 (.cells #[.int .u64 (A), .int .u8 (F)] 25))
    replace hT := hT.kept b2
    replace bA := nT bA b2
    have a0 : (w2.alloc (.cells #[.int .u64 (A), .int .u8 (F)] 25)).cell? ⟨w2.heap.size, 0, none⟩ = some (.int .u64 (A)) := by go_simp
    have a1 : (w2.alloc (.cells #[.int .u64 (A), .int .u8 (F)] 25)).cell? ⟨w2.heap.size, 1, none⟩ = some (.int .u8 (F)) := by go_simp
    clear b1 b2
    clear C1
    go_wp2_with fail
    generalize w2.alloc (.cells #[.int .u64 (A), .int .u8 (F)] 25) = w3 at *
    generalize w2.heap.size = D1 at *
    refine Calls.mono (NX.out _) ?_
    rintro q w3 ⟨rfl, rfl⟩
    go_wp2_with fail
    refine Calls.mono (C2.out _ hT) ?_
    rintro q w4 ⟨rfl, b1⟩
    have b2 := nT b1 (below_one w4 (.cells #[.int .u64 (B), .int .u8 (G)] 25))
    replace hT := hT.kept b2
    replace bA := nT bA b2
    replace a0 := kC b2 a0
    replace a1 := kC b2 a1
    have c0 : (w4.alloc (.cells #[.int .u64 (B), .int .u8 (G)] 25)).cell? ⟨w4.heap.size, 0, none⟩ = some (.int .u64 (B)) := by go_simp
    have c1 : (w4.alloc (.cells #[.int .u64 (B), .int .u8 (G)] 25)).cell? ⟨w4.heap.size, 1, none⟩ = some (.int .u8 (G)) := by go_simp
    clear b1 b2
    clear C2
    go_wp2_with fail
    generalize w4.alloc (.cells #[.int .u64 (B), .int .u8 (G)] 25) = w5 at *
    generalize w4.heap.size = D2 at *
    go_quiet ((go_at_call 32; refine Calls.quiet_of_same (NA.out _)))
    have bQ : Below w5.heap.size w5 (w5.drewN nq) := below_drewN (Below.refl _ _) nq
    replace hT := hT.kept bQ
    replace bA := nT bA bQ
    clear a0 a1 c0 c1 bQ
    go_wp2_with fail
    refine Calls.mono (C3.out _ hT) ?_
    rintro q w7 ⟨rfl, b1⟩
    have b2 := nT b1 (below_one w7 (.cells #[.int .u64 (HB), .int .u8 (HF)] 25))
    replace hT := hT.kept b2
    replace bA := nT bA b2
    have a0 : (w7.alloc (.cells #[.int .u64 (HB), .int .u8 (HF)] 25)).cell? ⟨w7.heap.size, 0, none⟩ = some (.int .u64 (HB)) := by go_simp
    have a1 : (w7.alloc (.cells #[.int .u64 (HB), .int .u8 (HF)] 25)).cell? ⟨w7.heap.size, 1, none⟩ = some (.int .u8 (HF)) := by go_simp
    clear b1 b2
    clear C3
    go_wp2_with fail
    generalize w7.alloc (.cells #[.int .u64 (HB), .int .u8 (HF)] 25) = w8 at *
    generalize w7.heap.size = D3 at *
    refine Calls.mono (NX.out _) ?_
    rintro q w8 ⟨rfl, rfl⟩
    go_wp2_with fail
    refine Calls.mono (C4.out _ hT) ?_
    rintro q w9 ⟨rfl, b1⟩
    have b2 := nT b1 (below_one w9 (.cells #[.int .u64 (HB), .int .u8 (HF)] 25))
    replace hT := hT.kept b2
    replace bA := nT bA b2
    replace a0 := kC b2 a0
    replace a1 := kC b2 a1
    have c0 : (w9.alloc (.cells #[.int .u64 (HB), .int .u8 (HF)] 25)).cell? ⟨w9.heap.size, 0, none⟩ = some (.int .u64 (HB)) := by go_simp
    have c1 : (w9.alloc (.cells #[.int .u64 (HB), .int .u8 (HF)] 25)).cell? ⟨w9.heap.size, 1, none⟩ = some (.int .u8 (HF)) := by go_simp
    clear b1 b2
    clear C4
    go_wp2_with fail
    generalize w9.alloc (.cells #[.int .u64 (HB), .int .u8 (HF)] 25) = w10 at *
    generalize w9.heap.size = D4 at *
    refine Calls.mono (NY.out _) ?_
    rintro q w10 ⟨rfl, rfl⟩
    go_wp2_with fail
    refine Calls.mono (C5.out _ hT) ?_
    rintro q w11 ⟨rfl, b1⟩
    have b2 := nT b1 (below_one w11 (.cells #[.int .u64 (HB), .int .u8 (HF)] 25))
    replace hT := hT.kept b2
    replace bA := nT bA b2
    replace a0 := kC b2 a0
    replace a1 := kC b2 a1
    replace c0 := kC b2 c0
    replace c1 := kC b2 c1
    have e0 : (w11.alloc (.cells #[.int .u64 (HB), .int .u8 (HF)] 25)).cell? ⟨w11.heap.size, 0, none⟩ = some (.int .u64 (HB)) := by go_simp
    have e1 : (w11.alloc (.cells #[.int .u64 (HB), .int .u8 (HF)] 25)).cell? ⟨w11.heap.size, 1, none⟩ = some (.int .u8 (HF)) := by go_simp
    clear b1 b2
    clear C5
    go_wp2_with fail
    go_ret
    exact ⟨by simp, bA⟩
end Go.Proofs.YtfgemlgmhlidmaaGreatDoor

/- The walk of AlgRoots. -/
import Derived.Test.YtfgemlgmhlidmaaGreatDoorALX
import Derived.Test.YtfgemlgmhlidmaaGreatDoorADY
namespace Go.Proofs.YtfgemlgmhlidmaaGreatDoor
open Go.RowKit

set_option maxRecDepth 100000 in
set_option maxHeartbeats 4000000 in
theorem algRoots_walk (x : Int) (w : World) (hx : U x) (hT : Tab w) :
    Calls Tryz.prog 3 #[.int .u64 x] w fun q w' => q = .returned (.bool true) ∧ Below w.heap.size w w' := by
  have HL : Hid _ := fun W (t : Tab W) => alLives_calls W t
  have C1 : Hid _ := fun W (t : Tab W) => cbrt_all x W hx t
  have C2 : Hid _ := fun W => dCbrt_calls x W hx
  have C3 : Hid _ := fun W (t : Tab W) => sqrtA_all x W hx t
  have C4 : Hid _ := fun W => dSqrt_calls x W hx
  have C5 : Hid _ := fun W (t : Tab W) => rsqrt_all x W hx t
  have C6 : Hid _ := fun W => dRsqrt_calls x W hx
  clear hx
  generalize cbB x = A1 at *
  generalize cbF x = F1 at *
  generalize lastE x = E1 at *
  generalize sqB x = A2 at *
  generalize sqF x = F2 at *
  generalize sqE x = E2 at *
  generalize rsB x = A3 at *
  generalize rsF x = F3 at *
  generalize rsE x = E3 at *
  have bA : Below w.heap.size w w := Below.refl _ _
  go_enter Tryz.func3, Tryz.ntmps3
  go_wp2_with fail
  refine Calls.mono (C1.out _ hT) ?_
  rintro q w2 ⟨rfl, b1⟩
  have b2 := nT b1 (below_one w2 (.cells #[.int .u64 (A1), .int .u8 (F1)] 25))
  replace hT := hT.kept b2
  replace bA := nT bA b2
  have a10 : (w2.alloc (.cells #[.int .u64 (A1), .int .u8 (F1)] 25)).cell? ⟨w2.heap.size, 0, none⟩ = some (.int .u64 (A1)) := by go_simp
  have a11 : (w2.alloc (.cells #[.int .u64 (A1), .int .u8 (F1)] 25)).cell? ⟨w2.heap.size, 1, none⟩ = some (.int .u8 (F1)) := by go_simp
  clear b1 b2 C1
  go_wp2_with fail
  generalize w2.alloc (.cells #[.int .u64 (A1), .int .u8 (F1)] 25) = w3 at *
  generalize w2.heap.size = D1 at *
  refine Calls.mono (C2.out _) ?_
  rintro q w4 ⟨rfl, b1⟩
  have b2 := nT b1 (below_one w4 (.cells #[.int .u64 (A1), .int .u8 (F1)] 25))
  replace hT := hT.kept b2
  replace bA := nT bA b2
  replace a10 := kC b2 a10
  replace a11 := kC b2 a11
  have a20 : (w4.alloc (.cells #[.int .u64 (A1), .int .u8 (F1)] 25)).cell? ⟨w4.heap.size, 0, none⟩ = some (.int .u64 (A1)) := by go_simp
  have a21 : (w4.alloc (.cells #[.int .u64 (A1), .int .u8 (F1)] 25)).cell? ⟨w4.heap.size, 1, none⟩ = some (.int .u8 (F1)) := by go_simp
  clear b1 b2 C2
  go_wp2_with fail
  generalize w4.alloc (.cells #[.int .u64 (A1), .int .u8 (F1)] 25) = w5 at *
  generalize w4.heap.size = D2 at *
  refine Calls.mono (C3.out _ hT) ?_
  rintro q w6 ⟨rfl, b1⟩
  have b2 := nT b1 (below_one w6 (.cells #[.int .u64 (A2), .int .u8 (F2)] 25))
  replace hT := hT.kept b2
  replace bA := nT bA b2
  replace a10 := kC b2 a10
  replace a11 := kC b2 a11
  replace a20 := kC b2 a20
  replace a21 := kC b2 a21
  have a30 : (w6.alloc (.cells #[.int .u64 (A2), .int .u8 (F2)] 25)).cell? ⟨w6.heap.size, 0, none⟩ = some (.int .u64 (A2)) := by go_simp
  have a31 : (w6.alloc (.cells #[.int .u64 (A2), .int .u8 (F2)] 25)).cell? ⟨w6.heap.size, 1, none⟩ = some (.int .u8 (F2)) := by go_simp
  clear b1 b2 C3
  go_wp2_with fail
  generalize w6.alloc (.cells #[.int .u64 (A2), .int .u8 (F2)] 25) = w7 at *
  generalize w6.heap.size = D3 at *
  refine Calls.mono (C4.out _) ?_
  rintro q w8 ⟨rfl, b1⟩
  have b2 := nT b1 (below_one w8 (.cells #[.int .u64 (A2), .int .u8 (F2)] 25))
  replace hT := hT.kept b2
  replace bA := nT bA b2
  replace a10 := kC b2 a10
  replace a11 := kC b2 a11
  replace a20 := kC b2 a20
  replace a21 := kC b2 a21
  replace a30 := kC b2 a30
  replace a31 := kC b2 a31
  have a40 : (w8.alloc (.cells #[.int .u64 (A2), .int .u8 (F2)] 25)).cell? ⟨w8.heap.size, 0, none⟩ = some (.int .u64 (A2)) := by go_simp
  have a41 : (w8.alloc (.cells #[.int .u64 (A2), .int .u8 (F2)] 25)).cell? ⟨w8.heap.size, 1, none⟩ = some (.int .u8 (F2)) := by go_simp
  clear b1 b2 C4
  go_wp2_with fail
  generalize w8.alloc (.cells #[.int .u64 (A2), .int .u8 (F2)] 25) = w9 at *
  generalize w8.heap.size = D4 at *
  refine Calls.mono (C5.out _ hT) ?_
  rintro q w10 ⟨rfl, b1⟩
  have b2 := nT b1 (below_one w10 (.cells #[.int .u64 (A3), .int .u8 (F3)] 25))
  replace hT := hT.kept b2
  replace bA := nT bA b2
  replace a10 := kC b2 a10
  replace a11 := kC b2 a11
  replace a20 := kC b2 a20
  replace a21 := kC b2 a21
  replace a30 := kC b2 a30
  replace a31 := kC b2 a31
  replace a40 := kC b2 a40
  replace a41 := kC b2 a41
  have a50 : (w10.alloc (.cells #[.int .u64 (A3), .int .u8 (F3)] 25)).cell? ⟨w10.heap.size, 0, none⟩ = some (.int .u64 (A3)) := by go_simp
  have a51 : (w10.alloc (.cells #[.int .u64 (A3), .int .u8 (F3)] 25)).cell? ⟨w10.heap.size, 1, none⟩ = some (.int .u8 (F3)) := by go_simp
  clear b1 b2 C5
  go_wp2_with fail
  generalize w10.alloc (.cells #[.int .u64 (A3), .int .u8 (F3)] 25) = w11 at *
  generalize w10.heap.size = D5 at *
  refine Calls.mono (C6.out _) ?_
  rintro q w12 ⟨rfl, b1⟩
  have b2 := nT b1 (below_one w12 (.cells #[.int .u64 (A3), .int .u8 (F3)] 25))
  replace hT := hT.kept b2
  replace bA := nT bA b2
  replace a10 := kC b2 a10
  replace a11 := kC b2 a11
  replace a20 := kC b2 a20
  replace a21 := kC b2 a21
  replace a30 := kC b2 a30
  replace a31 := kC b2 a31
  replace a40 := kC b2 a40
  replace a41 := kC b2 a41
  replace a50 := kC b2 a50
  replace a51 := kC b2 a51
  have a60 : (w12.alloc (.cells #[.int .u64 (A3), .int .u8 (F3)] 25)).cell? ⟨w12.heap.size, 0, none⟩ = some (.int .u64 (A3)) := by go_simp
  have a61 : (w12.alloc (.cells #[.int .u64 (A3), .int .u8 (F3)] 25)).cell? ⟨w12.heap.size, 1, none⟩ = some (.int .u8 (F3)) := by go_simp
  clear b1 b2 C6
  go_wp2_with fail
  generalize w12.alloc (.cells #[.int .u64 (A3), .int .u8 (F3)] 25) = w13 at *
  generalize w12.heap.size = D6 at *
  refine Calls.mono (HL.out _ hT) ?_
  rintro q w14 ⟨rfl, b1⟩
  replace bA := nT bA b1
  replace a10 := kC b1 a10
  replace a11 := kC b1 a11
  replace a20 := kC b1 a20
  replace a21 := kC b1 a21
  replace a30 := kC b1 a30
  replace a31 := kC b1 a31
  replace a40 := kC b1 a40
  replace a41 := kC b1 a41
  replace a50 := kC b1 a50
  replace a51 := kC b1 a51
  replace a60 := kC b1 a60
  replace a61 := kC b1 a61
  clear b1
  go_wp2_with fail
  go_ret
  exact ⟨by simp, bA⟩
end Go.Proofs.YtfgemlgmhlidmaaGreatDoor

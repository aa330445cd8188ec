/- SpecialFlags: the walk, of functions of two arguments. -/
import Derived.Test.YtkkccnpmcbpdnaaDoorSPQ
import Derived.Test.YtkkccnpmcbpdnaaDoorSPK2
namespace Go.Proofs.YtkkccnpmcbpdnaaDoor
open Go.RowKit

set_option maxRecDepth 100000 in
set_option maxHeartbeats 8000000 in
theorem flags_two (f x y R1 R2 R3 cx cy : Int) (w : World) (h : U x) (k : U y) (HB : Calls Tryd.prog 14 #[] w fun r w' => r = .returned (.bool true) ∧ Below w.heap.size w w')
    (S1 : ∀ W, Below w.heap.size w W → Calls Tryd.prog 15 #[.int .u8 f, .int .u64 x, .int .u64 y] W fun r w' => r = .returned (.tuple #[.agg #[.int .u64 R1, .int .u8 R2], .int .u8 R3, .int .i64 0]) ∧ Below W.heap.size W w')
    (AC : ∀ W, Calls Tryd.prog 12 #[.int .u8 f] W fun r w' => r = .returned (.int .i64 2) ∧ Below W.heap.size W w')
    (IC : ∀ W, Below w.heap.size w W → Calls Tryd.prog 17 #[.int .u8 f, .int .u64 x, .int .u64 y] W fun r w' => r = .returned (.bool (spIn f x y)) ∧ Below W.heap.size W w')
    (hcx : classV x = cx) (hcy : classV y = cy) (uR : U R1) (si fi : Bool) (hs : si = ((cx == 6) || (cy == 6))) (hfi : fi = (decide (cx < 4) && decide (cy < 4))) (hF : FlagR si fi (R1, R2, R3)) (hI : R3 = 0 → fi = true → spIn f x y = true) :
    Calls Tryd.prog 5 #[.int .u8 f, .int .u64 x, .int .u64 y] w fun r w' => r = .returned (.bool true) ∧ Below w.heap.size w w' := by
  have CX : Hid _ := fun W => class_calls x W h
  rw [hcx] at CX
  have CY : Hid _ := fun W => class_calls y W k
  rw [hcy] at CY
  have HU : Hid _ := uR
  have HI : Hid _ := hI
  replace S1 : Hid _ := S1
  replace AC : Hid _ := AC
  replace IC : Hid _ := IC
  replace HB : Hid _ := HB
  have hx3 : cx = 6 ∨ cx < 4 ∨ (¬ cx = 6 ∧ ¬ cx < 4) := by omega
  have hy3 : cy = 6 ∨ cy < 4 ∨ (¬ cy = 6 ∧ ¬ cy < 4) := by omega
  clear hcx hcy uR hI h k
  rcases hx3 with hx1 | hx1 | ⟨hx1, hx2⟩
  · subst hx1
    rcases hy3 with hy1 | hy1 | ⟨hy1, hy2⟩
    · subst hy1
      have e1 : si = true := by rw [hs]; first | rfl | (simp_all; done)
      have e2 : fi = false := by rw [hfi]; first | rfl | (simp <;> omega)
      subst e1 e2
      have HF : Hid _ := hF
      clear hF hs hfi
      go_enter Tryd.func5, Tryd.ntmps5
      go_wp2_with fail
      refine Calls.mono HB.out ?_
      rintro r w1 ⟨rfl, bb⟩
      go_wp2_with fail
      refine Calls.mono (S1.out _ bb) ?_
      rintro r w2 ⟨rfl, b1⟩
      have b2 := below_trans b1 (below_alloc w2 (.cells #[.int .u64 R1, .int .u8 R2] 33))
      have c0 : (w2.alloc (.cells #[.int .u64 R1, .int .u8 R2] 33)).cell? ⟨w2.heap.size, 0, none⟩ = some (.int .u64 R1) := by go_simp
      have c1 : (w2.alloc (.cells #[.int .u64 R1, .int .u8 R2] 33)).cell? ⟨w2.heap.size, 1, none⟩ = some (.int .u8 R2) := by go_simp
      replace bb := below_trans bb b2
      clear b1 b2
      go_wp2_with fail
      refine Calls.mono (CX.out _) ?_
      rintro r w3 ⟨rfl, b1⟩
      replace c0 := pcell b1 c0
      replace c1 := pcell b1 c1
      replace bb := below_trans bb b1
      clear b1
      go_wp2_with fail
      refine Calls.mono (CX.out _) ?_
      rintro r w4 ⟨rfl, b1⟩
      replace c0 := pcell b1 c0
      replace c1 := pcell b1 c1
      replace bb := below_trans bb b1
      clear b1
      go_wp2_with fail
      refine Calls.mono (AC.out _) ?_
      rintro r w5 ⟨rfl, b1⟩
      replace c0 := pcell b1 c0
      replace c1 := pcell b1 c1
      replace bb := below_trans bb b1
      clear b1
      rcases HF.out with ⟨k3, k1, k2, kf⟩ | ⟨k3, k1, k2, ks⟩ | ⟨k3, k1, k2, ks⟩ | ⟨k3, k1, k2, kf⟩ | ⟨k3, k2, k1⟩ | ⟨k3, k2, k1⟩
      · subst k3 k1 k2
        first
          | (exact absurd kf (by decide))
          | (go_wp2_with fail
             refine Calls.mono (IC.out _ bb) ?_
             rintro r wz ⟨rfl, bz⟩
             have HZ : Hid (spIn f x y = true) := HI.out (by first | rfl | trivial) (by first | rfl | trivial)
             go_wp2_with fail
             go_ret
             exact ⟨by rw [HZ.out]; rfl, below_trans bb bz⟩)
      · subst k3 k1
        have k2' : R2 = 1 := by first | (have := ks; simp_all; done) | (simpa using k2)
        subst k2'
        go_wp2_with fail
        go_ret
        exact ⟨rfl, bb⟩
      · subst k3 k1 k2
        first
          | (exact absurd ks (by decide))
          | (go_wp2_with fail
             go_ret
             exact ⟨rfl, bb⟩)
      · subst k3 k2
        first
          | (exact absurd kf (by decide))
          | (go_wp2_with fail
             refine Calls.mono (class_calls _ _ HU.out) ?_
             rintro r wz ⟨rfl, bz⟩
             replace c1 := pcell bz c1
             rw [k1]
             go_wp2_with fail
             go_ret
             exact ⟨rfl, below_trans bb bz⟩)
      · subst k3 k2
        go_wp2_with fail
        refine Calls.mono (class_calls _ _ HU.out) ?_
        rintro r wz ⟨rfl, bz⟩
        generalize classV R1 = C at *
        go_wp2_with fail
        go_ret
        exact ⟨by simp, below_trans bb bz⟩
      · subst k3 k2
        go_wp2_with fail
        refine Calls.mono (class_calls _ _ HU.out) ?_
        rintro r wz ⟨rfl, bz⟩
        rw [k1]
        go_wp2_with fail
        go_ret
        exact ⟨rfl, below_trans bb bz⟩
    · have gy : (cy == 6) = false := by simp; omega
      have e1 : si = true := by rw [hs]; first | rfl | (simp_all; done)
      have e2 : fi = false := by rw [hfi]; first | rfl | (simp <;> omega)
      subst e1 e2
      have HF : Hid _ := hF
      clear hF hs hfi
      go_enter Tryd.func5, Tryd.ntmps5
      go_wp2_with fail
      refine Calls.mono HB.out ?_
      rintro r w1 ⟨rfl, bb⟩
      go_wp2_with fail
      refine Calls.mono (S1.out _ bb) ?_
      rintro r w2 ⟨rfl, b1⟩
      have b2 := below_trans b1 (below_alloc w2 (.cells #[.int .u64 R1, .int .u8 R2] 33))
      have c0 : (w2.alloc (.cells #[.int .u64 R1, .int .u8 R2] 33)).cell? ⟨w2.heap.size, 0, none⟩ = some (.int .u64 R1) := by go_simp
      have c1 : (w2.alloc (.cells #[.int .u64 R1, .int .u8 R2] 33)).cell? ⟨w2.heap.size, 1, none⟩ = some (.int .u8 R2) := by go_simp
      replace bb := below_trans bb b2
      clear b1 b2
      go_wp2_with fail
      refine Calls.mono (CX.out _) ?_
      rintro r w3 ⟨rfl, b1⟩
      replace c0 := pcell b1 c0
      replace c1 := pcell b1 c1
      replace bb := below_trans bb b1
      clear b1
      go_wp2_with fail
      refine Calls.mono (CX.out _) ?_
      rintro r w4 ⟨rfl, b1⟩
      replace c0 := pcell b1 c0
      replace c1 := pcell b1 c1
      replace bb := below_trans bb b1
      clear b1
      go_wp2_with fail
      refine Calls.mono (AC.out _) ?_
      rintro r w5 ⟨rfl, b1⟩
      replace c0 := pcell b1 c0
      replace c1 := pcell b1 c1
      replace bb := below_trans bb b1
      clear b1
      rcases HF.out with ⟨k3, k1, k2, kf⟩ | ⟨k3, k1, k2, ks⟩ | ⟨k3, k1, k2, ks⟩ | ⟨k3, k1, k2, kf⟩ | ⟨k3, k2, k1⟩ | ⟨k3, k2, k1⟩
      · subst k3 k1 k2
        first
          | (exact absurd kf (by decide))
          | (go_wp2_with fail
             refine Calls.mono (IC.out _ bb) ?_
             rintro r wz ⟨rfl, bz⟩
             have HZ : Hid (spIn f x y = true) := HI.out (by first | rfl | trivial) (by first | rfl | trivial)
             go_wp2_with fail
             go_ret
             exact ⟨by rw [HZ.out]; rfl, below_trans bb bz⟩)
      · subst k3 k1
        have k2' : R2 = 1 := by first | (have := ks; simp_all; done) | (simpa using k2)
        subst k2'
        go_wp2_with fail
        go_ret
        exact ⟨rfl, bb⟩
      · subst k3 k1 k2
        first
          | (exact absurd ks (by decide))
          | (go_wp2_with fail
             go_ret
             exact ⟨rfl, bb⟩)
      · subst k3 k2
        first
          | (exact absurd kf (by decide))
          | (go_wp2_with fail
             refine Calls.mono (class_calls _ _ HU.out) ?_
             rintro r wz ⟨rfl, bz⟩
             replace c1 := pcell bz c1
             rw [k1]
             go_wp2_with fail
             go_ret
             exact ⟨rfl, below_trans bb bz⟩)
      · subst k3 k2
        go_wp2_with fail
        refine Calls.mono (class_calls _ _ HU.out) ?_
        rintro r wz ⟨rfl, bz⟩
        generalize classV R1 = C at *
        go_wp2_with fail
        go_ret
        exact ⟨by simp, below_trans bb bz⟩
      · subst k3 k2
        go_wp2_with fail
        refine Calls.mono (class_calls _ _ HU.out) ?_
        rintro r wz ⟨rfl, bz⟩
        rw [k1]
        go_wp2_with fail
        go_ret
        exact ⟨rfl, below_trans bb bz⟩
    · have gy : (cy == 6) = false := by simpa using hy1
      have gw : 4 ≤ cy := by omega
      have e1 : si = true := by rw [hs]; first | rfl | (simp_all; done)
      have e2 : fi = false := by rw [hfi]; first | rfl | (simp <;> omega)
      subst e1 e2
      have HF : Hid _ := hF
      clear hF hs hfi
      go_enter Tryd.func5, Tryd.ntmps5
      go_wp2_with fail
      refine Calls.mono HB.out ?_
      rintro r w1 ⟨rfl, bb⟩
      go_wp2_with fail
      refine Calls.mono (S1.out _ bb) ?_
      rintro r w2 ⟨rfl, b1⟩
      have b2 := below_trans b1 (below_alloc w2 (.cells #[.int .u64 R1, .int .u8 R2] 33))
      have c0 : (w2.alloc (.cells #[.int .u64 R1, .int .u8 R2] 33)).cell? ⟨w2.heap.size, 0, none⟩ = some (.int .u64 R1) := by go_simp
      have c1 : (w2.alloc (.cells #[.int .u64 R1, .int .u8 R2] 33)).cell? ⟨w2.heap.size, 1, none⟩ = some (.int .u8 R2) := by go_simp
      replace bb := below_trans bb b2
      clear b1 b2
      go_wp2_with fail
      refine Calls.mono (CX.out _) ?_
      rintro r w3 ⟨rfl, b1⟩
      replace c0 := pcell b1 c0
      replace c1 := pcell b1 c1
      replace bb := below_trans bb b1
      clear b1
      go_wp2_with fail
      refine Calls.mono (CX.out _) ?_
      rintro r w4 ⟨rfl, b1⟩
      replace c0 := pcell b1 c0
      replace c1 := pcell b1 c1
      replace bb := below_trans bb b1
      clear b1
      go_wp2_with fail
      refine Calls.mono (AC.out _) ?_
      rintro r w5 ⟨rfl, b1⟩
      replace c0 := pcell b1 c0
      replace c1 := pcell b1 c1
      replace bb := below_trans bb b1
      clear b1
      rcases HF.out with ⟨k3, k1, k2, kf⟩ | ⟨k3, k1, k2, ks⟩ | ⟨k3, k1, k2, ks⟩ | ⟨k3, k1, k2, kf⟩ | ⟨k3, k2, k1⟩ | ⟨k3, k2, k1⟩
      · subst k3 k1 k2
        first
          | (exact absurd kf (by decide))
          | (go_wp2_with fail
             refine Calls.mono (IC.out _ bb) ?_
             rintro r wz ⟨rfl, bz⟩
             have HZ : Hid (spIn f x y = true) := HI.out (by first | rfl | trivial) (by first | rfl | trivial)
             go_wp2_with fail
             go_ret
             exact ⟨by rw [HZ.out]; rfl, below_trans bb bz⟩)
      · subst k3 k1
        have k2' : R2 = 1 := by first | (have := ks; simp_all; done) | (simpa using k2)
        subst k2'
        go_wp2_with fail
        go_ret
        exact ⟨rfl, bb⟩
      · subst k3 k1 k2
        first
          | (exact absurd ks (by decide))
          | (go_wp2_with fail
             go_ret
             exact ⟨rfl, bb⟩)
      · subst k3 k2
        first
          | (exact absurd kf (by decide))
          | (go_wp2_with fail
             refine Calls.mono (class_calls _ _ HU.out) ?_
             rintro r wz ⟨rfl, bz⟩
             replace c1 := pcell bz c1
             rw [k1]
             go_wp2_with fail
             go_ret
             exact ⟨rfl, below_trans bb bz⟩)
      · subst k3 k2
        go_wp2_with fail
        refine Calls.mono (class_calls _ _ HU.out) ?_
        rintro r wz ⟨rfl, bz⟩
        generalize classV R1 = C at *
        go_wp2_with fail
        go_ret
        exact ⟨by simp, below_trans bb bz⟩
      · subst k3 k2
        go_wp2_with fail
        refine Calls.mono (class_calls _ _ HU.out) ?_
        rintro r wz ⟨rfl, bz⟩
        rw [k1]
        go_wp2_with fail
        go_ret
        exact ⟨rfl, below_trans bb bz⟩
  · have gx : (cx == 6) = false := by simp; omega
    rcases hy3 with hy1 | hy1 | ⟨hy1, hy2⟩
    · subst hy1
      have e1 : si = true := by rw [hs]; first | rfl | (simp_all; done)
      have e2 : fi = false := by rw [hfi]; first | rfl | (simp <;> omega)
      subst e1 e2
      have HF : Hid _ := hF
      clear hF hs hfi
      go_enter Tryd.func5, Tryd.ntmps5
      go_wp2_with fail
      refine Calls.mono HB.out ?_
      rintro r w1 ⟨rfl, bb⟩
      go_wp2_with fail
      refine Calls.mono (S1.out _ bb) ?_
      rintro r w2 ⟨rfl, b1⟩
      have b2 := below_trans b1 (below_alloc w2 (.cells #[.int .u64 R1, .int .u8 R2] 33))
      have c0 : (w2.alloc (.cells #[.int .u64 R1, .int .u8 R2] 33)).cell? ⟨w2.heap.size, 0, none⟩ = some (.int .u64 R1) := by go_simp
      have c1 : (w2.alloc (.cells #[.int .u64 R1, .int .u8 R2] 33)).cell? ⟨w2.heap.size, 1, none⟩ = some (.int .u8 R2) := by go_simp
      replace bb := below_trans bb b2
      clear b1 b2
      go_wp2_with fail
      refine Calls.mono (CX.out _) ?_
      rintro r w3 ⟨rfl, b1⟩
      replace c0 := pcell b1 c0
      replace c1 := pcell b1 c1
      replace bb := below_trans bb b1
      clear b1
      go_wp2_with fail
      refine Calls.mono (CX.out _) ?_
      rintro r w4 ⟨rfl, b1⟩
      replace c0 := pcell b1 c0
      replace c1 := pcell b1 c1
      replace bb := below_trans bb b1
      clear b1
      go_wp2_with fail
      refine Calls.mono (AC.out _) ?_
      rintro r w5 ⟨rfl, b1⟩
      replace c0 := pcell b1 c0
      replace c1 := pcell b1 c1
      replace bb := below_trans bb b1
      clear b1
      go_wp2_with fail
      refine Calls.mono (CY.out _) ?_
      rintro r w6 ⟨rfl, b1⟩
      replace c0 := pcell b1 c0
      replace c1 := pcell b1 c1
      replace bb := below_trans bb b1
      clear b1
      go_wp2_with fail
      refine Calls.mono (CY.out _) ?_
      rintro r w7 ⟨rfl, b1⟩
      replace c0 := pcell b1 c0
      replace c1 := pcell b1 c1
      replace bb := below_trans bb b1
      clear b1
      rcases HF.out with ⟨k3, k1, k2, kf⟩ | ⟨k3, k1, k2, ks⟩ | ⟨k3, k1, k2, ks⟩ | ⟨k3, k1, k2, kf⟩ | ⟨k3, k2, k1⟩ | ⟨k3, k2, k1⟩
      · subst k3 k1 k2
        first
          | (exact absurd kf (by decide))
          | (go_wp2_with fail
             refine Calls.mono (IC.out _ bb) ?_
             rintro r wz ⟨rfl, bz⟩
             have HZ : Hid (spIn f x y = true) := HI.out (by first | rfl | trivial) (by first | rfl | trivial)
             go_wp2_with fail
             go_ret
             exact ⟨by rw [HZ.out]; rfl, below_trans bb bz⟩)
      · subst k3 k1
        have k2' : R2 = 1 := by first | (have := ks; simp_all; done) | (simpa using k2)
        subst k2'
        go_wp2_with fail
        go_ret
        exact ⟨rfl, bb⟩
      · subst k3 k1 k2
        first
          | (exact absurd ks (by decide))
          | (go_wp2_with fail
             go_ret
             exact ⟨rfl, bb⟩)
      · subst k3 k2
        first
          | (exact absurd kf (by decide))
          | (go_wp2_with fail
             refine Calls.mono (class_calls _ _ HU.out) ?_
             rintro r wz ⟨rfl, bz⟩
             replace c1 := pcell bz c1
             rw [k1]
             go_wp2_with fail
             go_ret
             exact ⟨rfl, below_trans bb bz⟩)
      · subst k3 k2
        go_wp2_with fail
        refine Calls.mono (class_calls _ _ HU.out) ?_
        rintro r wz ⟨rfl, bz⟩
        generalize classV R1 = C at *
        go_wp2_with fail
        go_ret
        exact ⟨by simp, below_trans bb bz⟩
      · subst k3 k2
        go_wp2_with fail
        refine Calls.mono (class_calls _ _ HU.out) ?_
        rintro r wz ⟨rfl, bz⟩
        rw [k1]
        go_wp2_with fail
        go_ret
        exact ⟨rfl, below_trans bb bz⟩
    · have gy : (cy == 6) = false := by simp; omega
      have e1 : si = false := by rw [hs]; first | rfl | (simp_all; done)
      have e2 : fi = true := by rw [hfi]; first | rfl | (simp <;> omega)
      subst e1 e2
      have HF : Hid _ := hF
      clear hF hs hfi
      go_enter Tryd.func5, Tryd.ntmps5
      go_wp2_with fail
      refine Calls.mono HB.out ?_
      rintro r w1 ⟨rfl, bb⟩
      go_wp2_with fail
      refine Calls.mono (S1.out _ bb) ?_
      rintro r w2 ⟨rfl, b1⟩
      have b2 := below_trans b1 (below_alloc w2 (.cells #[.int .u64 R1, .int .u8 R2] 33))
      have c0 : (w2.alloc (.cells #[.int .u64 R1, .int .u8 R2] 33)).cell? ⟨w2.heap.size, 0, none⟩ = some (.int .u64 R1) := by go_simp
      have c1 : (w2.alloc (.cells #[.int .u64 R1, .int .u8 R2] 33)).cell? ⟨w2.heap.size, 1, none⟩ = some (.int .u8 R2) := by go_simp
      replace bb := below_trans bb b2
      clear b1 b2
      go_wp2_with fail
      refine Calls.mono (CX.out _) ?_
      rintro r w3 ⟨rfl, b1⟩
      replace c0 := pcell b1 c0
      replace c1 := pcell b1 c1
      replace bb := below_trans bb b1
      clear b1
      go_wp2_with fail
      refine Calls.mono (CX.out _) ?_
      rintro r w4 ⟨rfl, b1⟩
      replace c0 := pcell b1 c0
      replace c1 := pcell b1 c1
      replace bb := below_trans bb b1
      clear b1
      go_wp2_with fail
      refine Calls.mono (AC.out _) ?_
      rintro r w5 ⟨rfl, b1⟩
      replace c0 := pcell b1 c0
      replace c1 := pcell b1 c1
      replace bb := below_trans bb b1
      clear b1
      go_wp2_with fail
      refine Calls.mono (CY.out _) ?_
      rintro r w6 ⟨rfl, b1⟩
      replace c0 := pcell b1 c0
      replace c1 := pcell b1 c1
      replace bb := below_trans bb b1
      clear b1
      go_wp2_with fail
      refine Calls.mono (CY.out _) ?_
      rintro r w7 ⟨rfl, b1⟩
      replace c0 := pcell b1 c0
      replace c1 := pcell b1 c1
      replace bb := below_trans bb b1
      clear b1
      rcases HF.out with ⟨k3, k1, k2, kf⟩ | ⟨k3, k1, k2, ks⟩ | ⟨k3, k1, k2, ks⟩ | ⟨k3, k1, k2, kf⟩ | ⟨k3, k2, k1⟩ | ⟨k3, k2, k1⟩
      · subst k3 k1 k2
        first
          | (exact absurd kf (by decide))
          | (go_wp2_with fail
             refine Calls.mono (IC.out _ bb) ?_
             rintro r wz ⟨rfl, bz⟩
             have HZ : Hid (spIn f x y = true) := HI.out (by first | rfl | trivial) (by first | rfl | trivial)
             go_wp2_with fail
             go_ret
             exact ⟨by rw [HZ.out]; rfl, below_trans bb bz⟩)
      · subst k3 k1
        have k2' : R2 = 0 := by first | (have := ks; simp_all; done) | (simpa using k2)
        subst k2'
        go_wp2_with fail
        go_ret
        exact ⟨rfl, bb⟩
      · subst k3 k1 k2
        first
          | (exact absurd ks (by decide))
          | (go_wp2_with fail
             go_ret
             exact ⟨rfl, bb⟩)
      · subst k3 k2
        first
          | (exact absurd kf (by decide))
          | (go_wp2_with fail
             refine Calls.mono (class_calls _ _ HU.out) ?_
             rintro r wz ⟨rfl, bz⟩
             replace c1 := pcell bz c1
             rw [k1]
             go_wp2_with fail
             go_ret
             exact ⟨rfl, below_trans bb bz⟩)
      · subst k3 k2
        go_wp2_with fail
        refine Calls.mono (class_calls _ _ HU.out) ?_
        rintro r wz ⟨rfl, bz⟩
        generalize classV R1 = C at *
        go_wp2_with fail
        go_ret
        exact ⟨by simp, below_trans bb bz⟩
      · subst k3 k2
        go_wp2_with fail
        refine Calls.mono (class_calls _ _ HU.out) ?_
        rintro r wz ⟨rfl, bz⟩
        rw [k1]
        go_wp2_with fail
        go_ret
        exact ⟨rfl, below_trans bb bz⟩
    · have gy : (cy == 6) = false := by simpa using hy1
      have gw : 4 ≤ cy := by omega
      have e1 : si = false := by rw [hs]; first | rfl | (simp_all; done)
      have e2 : fi = false := by rw [hfi]; first | rfl | (simp <;> omega)
      subst e1 e2
      have HF : Hid _ := hF
      clear hF hs hfi
      go_enter Tryd.func5, Tryd.ntmps5
      go_wp2_with fail
      refine Calls.mono HB.out ?_
      rintro r w1 ⟨rfl, bb⟩
      go_wp2_with fail
      refine Calls.mono (S1.out _ bb) ?_
      rintro r w2 ⟨rfl, b1⟩
      have b2 := below_trans b1 (below_alloc w2 (.cells #[.int .u64 R1, .int .u8 R2] 33))
      have c0 : (w2.alloc (.cells #[.int .u64 R1, .int .u8 R2] 33)).cell? ⟨w2.heap.size, 0, none⟩ = some (.int .u64 R1) := by go_simp
      have c1 : (w2.alloc (.cells #[.int .u64 R1, .int .u8 R2] 33)).cell? ⟨w2.heap.size, 1, none⟩ = some (.int .u8 R2) := by go_simp
      replace bb := below_trans bb b2
      clear b1 b2
      go_wp2_with fail
      refine Calls.mono (CX.out _) ?_
      rintro r w3 ⟨rfl, b1⟩
      replace c0 := pcell b1 c0
      replace c1 := pcell b1 c1
      replace bb := below_trans bb b1
      clear b1
      go_wp2_with fail
      refine Calls.mono (CX.out _) ?_
      rintro r w4 ⟨rfl, b1⟩
      replace c0 := pcell b1 c0
      replace c1 := pcell b1 c1
      replace bb := below_trans bb b1
      clear b1
      go_wp2_with fail
      refine Calls.mono (AC.out _) ?_
      rintro r w5 ⟨rfl, b1⟩
      replace c0 := pcell b1 c0
      replace c1 := pcell b1 c1
      replace bb := below_trans bb b1
      clear b1
      go_wp2_with fail
      refine Calls.mono (CY.out _) ?_
      rintro r w6 ⟨rfl, b1⟩
      replace c0 := pcell b1 c0
      replace c1 := pcell b1 c1
      replace bb := below_trans bb b1
      clear b1
      go_wp2_with fail
      refine Calls.mono (CY.out _) ?_
      rintro r w7 ⟨rfl, b1⟩
      replace c0 := pcell b1 c0
      replace c1 := pcell b1 c1
      replace bb := below_trans bb b1
      clear b1
      rcases HF.out with ⟨k3, k1, k2, kf⟩ | ⟨k3, k1, k2, ks⟩ | ⟨k3, k1, k2, ks⟩ | ⟨k3, k1, k2, kf⟩ | ⟨k3, k2, k1⟩ | ⟨k3, k2, k1⟩
      · subst k3 k1 k2
        first
          | (exact absurd kf (by decide))
          | (go_wp2_with fail
             refine Calls.mono (IC.out _ bb) ?_
             rintro r wz ⟨rfl, bz⟩
             have HZ : Hid (spIn f x y = true) := HI.out (by first | rfl | trivial) (by first | rfl | trivial)
             go_wp2_with fail
             go_ret
             exact ⟨by rw [HZ.out]; rfl, below_trans bb bz⟩)
      · subst k3 k1
        have k2' : R2 = 0 := by first | (have := ks; simp_all; done) | (simpa using k2)
        subst k2'
        go_wp2_with fail
        go_ret
        exact ⟨rfl, bb⟩
      · subst k3 k1 k2
        first
          | (exact absurd ks (by decide))
          | (go_wp2_with fail
             go_ret
             exact ⟨rfl, bb⟩)
      · subst k3 k2
        first
          | (exact absurd kf (by decide))
          | (go_wp2_with fail
             refine Calls.mono (class_calls _ _ HU.out) ?_
             rintro r wz ⟨rfl, bz⟩
             replace c1 := pcell bz c1
             rw [k1]
             go_wp2_with fail
             go_ret
             exact ⟨rfl, below_trans bb bz⟩)
      · subst k3 k2
        go_wp2_with fail
        refine Calls.mono (class_calls _ _ HU.out) ?_
        rintro r wz ⟨rfl, bz⟩
        generalize classV R1 = C at *
        go_wp2_with fail
        go_ret
        exact ⟨by simp, below_trans bb bz⟩
      · subst k3 k2
        go_wp2_with fail
        refine Calls.mono (class_calls _ _ HU.out) ?_
        rintro r wz ⟨rfl, bz⟩
        rw [k1]
        go_wp2_with fail
        go_ret
        exact ⟨rfl, below_trans bb bz⟩
  · have gx : (cx == 6) = false := by simpa using hx1
    have gz : 4 ≤ cx := by omega
    rcases hy3 with hy1 | hy1 | ⟨hy1, hy2⟩
    · subst hy1
      have e1 : si = true := by rw [hs]; first | rfl | (simp_all; done)
      have e2 : fi = false := by rw [hfi]; first | rfl | (simp <;> omega)
      subst e1 e2
      have HF : Hid _ := hF
      clear hF hs hfi
      go_enter Tryd.func5, Tryd.ntmps5
      go_wp2_with fail
      refine Calls.mono HB.out ?_
      rintro r w1 ⟨rfl, bb⟩
      go_wp2_with fail
      refine Calls.mono (S1.out _ bb) ?_
      rintro r w2 ⟨rfl, b1⟩
      have b2 := below_trans b1 (below_alloc w2 (.cells #[.int .u64 R1, .int .u8 R2] 33))
      have c0 : (w2.alloc (.cells #[.int .u64 R1, .int .u8 R2] 33)).cell? ⟨w2.heap.size, 0, none⟩ = some (.int .u64 R1) := by go_simp
      have c1 : (w2.alloc (.cells #[.int .u64 R1, .int .u8 R2] 33)).cell? ⟨w2.heap.size, 1, none⟩ = some (.int .u8 R2) := by go_simp
      replace bb := below_trans bb b2
      clear b1 b2
      go_wp2_with fail
      refine Calls.mono (CX.out _) ?_
      rintro r w3 ⟨rfl, b1⟩
      replace c0 := pcell b1 c0
      replace c1 := pcell b1 c1
      replace bb := below_trans bb b1
      clear b1
      go_wp2_with fail
      refine Calls.mono (CX.out _) ?_
      rintro r w4 ⟨rfl, b1⟩
      replace c0 := pcell b1 c0
      replace c1 := pcell b1 c1
      replace bb := below_trans bb b1
      clear b1
      go_wp2_with fail
      refine Calls.mono (AC.out _) ?_
      rintro r w5 ⟨rfl, b1⟩
      replace c0 := pcell b1 c0
      replace c1 := pcell b1 c1
      replace bb := below_trans bb b1
      clear b1
      go_wp2_with fail
      refine Calls.mono (CY.out _) ?_
      rintro r w6 ⟨rfl, b1⟩
      replace c0 := pcell b1 c0
      replace c1 := pcell b1 c1
      replace bb := below_trans bb b1
      clear b1
      rcases HF.out with ⟨k3, k1, k2, kf⟩ | ⟨k3, k1, k2, ks⟩ | ⟨k3, k1, k2, ks⟩ | ⟨k3, k1, k2, kf⟩ | ⟨k3, k2, k1⟩ | ⟨k3, k2, k1⟩
      · subst k3 k1 k2
        first
          | (exact absurd kf (by decide))
          | (go_wp2_with fail
             refine Calls.mono (IC.out _ bb) ?_
             rintro r wz ⟨rfl, bz⟩
             have HZ : Hid (spIn f x y = true) := HI.out (by first | rfl | trivial) (by first | rfl | trivial)
             go_wp2_with fail
             go_ret
             exact ⟨by rw [HZ.out]; rfl, below_trans bb bz⟩)
      · subst k3 k1
        have k2' : R2 = 1 := by first | (have := ks; simp_all; done) | (simpa using k2)
        subst k2'
        go_wp2_with fail
        go_ret
        exact ⟨rfl, bb⟩
      · subst k3 k1 k2
        first
          | (exact absurd ks (by decide))
          | (go_wp2_with fail
             go_ret
             exact ⟨rfl, bb⟩)
      · subst k3 k2
        first
          | (exact absurd kf (by decide))
          | (go_wp2_with fail
             refine Calls.mono (class_calls _ _ HU.out) ?_
             rintro r wz ⟨rfl, bz⟩
             replace c1 := pcell bz c1
             rw [k1]
             go_wp2_with fail
             go_ret
             exact ⟨rfl, below_trans bb bz⟩)
      · subst k3 k2
        go_wp2_with fail
        refine Calls.mono (class_calls _ _ HU.out) ?_
        rintro r wz ⟨rfl, bz⟩
        generalize classV R1 = C at *
        go_wp2_with fail
        go_ret
        exact ⟨by simp, below_trans bb bz⟩
      · subst k3 k2
        go_wp2_with fail
        refine Calls.mono (class_calls _ _ HU.out) ?_
        rintro r wz ⟨rfl, bz⟩
        rw [k1]
        go_wp2_with fail
        go_ret
        exact ⟨rfl, below_trans bb bz⟩
    · have gy : (cy == 6) = false := by simp; omega
      have e1 : si = false := by rw [hs]; first | rfl | (simp_all; done)
      have e2 : fi = false := by rw [hfi]; first | rfl | (simp <;> omega)
      subst e1 e2
      have HF : Hid _ := hF
      clear hF hs hfi
      go_enter Tryd.func5, Tryd.ntmps5
      go_wp2_with fail
      refine Calls.mono HB.out ?_
      rintro r w1 ⟨rfl, bb⟩
      go_wp2_with fail
      refine Calls.mono (S1.out _ bb) ?_
      rintro r w2 ⟨rfl, b1⟩
      have b2 := below_trans b1 (below_alloc w2 (.cells #[.int .u64 R1, .int .u8 R2] 33))
      have c0 : (w2.alloc (.cells #[.int .u64 R1, .int .u8 R2] 33)).cell? ⟨w2.heap.size, 0, none⟩ = some (.int .u64 R1) := by go_simp
      have c1 : (w2.alloc (.cells #[.int .u64 R1, .int .u8 R2] 33)).cell? ⟨w2.heap.size, 1, none⟩ = some (.int .u8 R2) := by go_simp
      replace bb := below_trans bb b2
      clear b1 b2
      go_wp2_with fail
      refine Calls.mono (CX.out _) ?_
      rintro r w3 ⟨rfl, b1⟩
      replace c0 := pcell b1 c0
      replace c1 := pcell b1 c1
      replace bb := below_trans bb b1
      clear b1
      go_wp2_with fail
      refine Calls.mono (CX.out _) ?_
      rintro r w4 ⟨rfl, b1⟩
      replace c0 := pcell b1 c0
      replace c1 := pcell b1 c1
      replace bb := below_trans bb b1
      clear b1
      go_wp2_with fail
      refine Calls.mono (AC.out _) ?_
      rintro r w5 ⟨rfl, b1⟩
      replace c0 := pcell b1 c0
      replace c1 := pcell b1 c1
      replace bb := below_trans bb b1
      clear b1
      go_wp2_with fail
      refine Calls.mono (CY.out _) ?_
      rintro r w6 ⟨rfl, b1⟩
      replace c0 := pcell b1 c0
      replace c1 := pcell b1 c1
      replace bb := below_trans bb b1
      clear b1
      rcases HF.out with ⟨k3, k1, k2, kf⟩ | ⟨k3, k1, k2, ks⟩ | ⟨k3, k1, k2, ks⟩ | ⟨k3, k1, k2, kf⟩ | ⟨k3, k2, k1⟩ | ⟨k3, k2, k1⟩
      · subst k3 k1 k2
        first
          | (exact absurd kf (by decide))
          | (go_wp2_with fail
             refine Calls.mono (IC.out _ bb) ?_
             rintro r wz ⟨rfl, bz⟩
             have HZ : Hid (spIn f x y = true) := HI.out (by first | rfl | trivial) (by first | rfl | trivial)
             go_wp2_with fail
             go_ret
             exact ⟨by rw [HZ.out]; rfl, below_trans bb bz⟩)
      · subst k3 k1
        have k2' : R2 = 0 := by first | (have := ks; simp_all; done) | (simpa using k2)
        subst k2'
        go_wp2_with fail
        go_ret
        exact ⟨rfl, bb⟩
      · subst k3 k1 k2
        first
          | (exact absurd ks (by decide))
          | (go_wp2_with fail
             go_ret
             exact ⟨rfl, bb⟩)
      · subst k3 k2
        first
          | (exact absurd kf (by decide))
          | (go_wp2_with fail
             refine Calls.mono (class_calls _ _ HU.out) ?_
             rintro r wz ⟨rfl, bz⟩
             replace c1 := pcell bz c1
             rw [k1]
             go_wp2_with fail
             go_ret
             exact ⟨rfl, below_trans bb bz⟩)
      · subst k3 k2
        go_wp2_with fail
        refine Calls.mono (class_calls _ _ HU.out) ?_
        rintro r wz ⟨rfl, bz⟩
        generalize classV R1 = C at *
        go_wp2_with fail
        go_ret
        exact ⟨by simp, below_trans bb bz⟩
      · subst k3 k2
        go_wp2_with fail
        refine Calls.mono (class_calls _ _ HU.out) ?_
        rintro r wz ⟨rfl, bz⟩
        rw [k1]
        go_wp2_with fail
        go_ret
        exact ⟨rfl, below_trans bb bz⟩
    · have gy : (cy == 6) = false := by simpa using hy1
      have gw : 4 ≤ cy := by omega
      have e1 : si = false := by rw [hs]; first | rfl | (simp_all; done)
      have e2 : fi = false := by rw [hfi]; first | rfl | (simp <;> omega)
      subst e1 e2
      have HF : Hid _ := hF
      clear hF hs hfi
      go_enter Tryd.func5, Tryd.ntmps5
      go_wp2_with fail
      refine Calls.mono HB.out ?_
      rintro r w1 ⟨rfl, bb⟩
      go_wp2_with fail
      refine Calls.mono (S1.out _ bb) ?_
      rintro r w2 ⟨rfl, b1⟩
      have b2 := below_trans b1 (below_alloc w2 (.cells #[.int .u64 R1, .int .u8 R2] 33))
      have c0 : (w2.alloc (.cells #[.int .u64 R1, .int .u8 R2] 33)).cell? ⟨w2.heap.size, 0, none⟩ = some (.int .u64 R1) := by go_simp
      have c1 : (w2.alloc (.cells #[.int .u64 R1, .int .u8 R2] 33)).cell? ⟨w2.heap.size, 1, none⟩ = some (.int .u8 R2) := by go_simp
      replace bb := below_trans bb b2
      clear b1 b2
      go_wp2_with fail
      refine Calls.mono (CX.out _) ?_
      rintro r w3 ⟨rfl, b1⟩
      replace c0 := pcell b1 c0
      replace c1 := pcell b1 c1
      replace bb := below_trans bb b1
      clear b1
      go_wp2_with fail
      refine Calls.mono (CX.out _) ?_
      rintro r w4 ⟨rfl, b1⟩
      replace c0 := pcell b1 c0
      replace c1 := pcell b1 c1
      replace bb := below_trans bb b1
      clear b1
      go_wp2_with fail
      refine Calls.mono (AC.out _) ?_
      rintro r w5 ⟨rfl, b1⟩
      replace c0 := pcell b1 c0
      replace c1 := pcell b1 c1
      replace bb := below_trans bb b1
      clear b1
      go_wp2_with fail
      refine Calls.mono (CY.out _) ?_
      rintro r w6 ⟨rfl, b1⟩
      replace c0 := pcell b1 c0
      replace c1 := pcell b1 c1
      replace bb := below_trans bb b1
      clear b1
      rcases HF.out with ⟨k3, k1, k2, kf⟩ | ⟨k3, k1, k2, ks⟩ | ⟨k3, k1, k2, ks⟩ | ⟨k3, k1, k2, kf⟩ | ⟨k3, k2, k1⟩ | ⟨k3, k2, k1⟩
      · subst k3 k1 k2
        first
          | (exact absurd kf (by decide))
          | (go_wp2_with fail
             refine Calls.mono (IC.out _ bb) ?_
             rintro r wz ⟨rfl, bz⟩
             have HZ : Hid (spIn f x y = true) := HI.out (by first | rfl | trivial) (by first | rfl | trivial)
             go_wp2_with fail
             go_ret
             exact ⟨by rw [HZ.out]; rfl, below_trans bb bz⟩)
      · subst k3 k1
        have k2' : R2 = 0 := by first | (have := ks; simp_all; done) | (simpa using k2)
        subst k2'
        go_wp2_with fail
        go_ret
        exact ⟨rfl, bb⟩
      · subst k3 k1 k2
        first
          | (exact absurd ks (by decide))
          | (go_wp2_with fail
             go_ret
             exact ⟨rfl, bb⟩)
      · subst k3 k2
        first
          | (exact absurd kf (by decide))
          | (go_wp2_with fail
             refine Calls.mono (class_calls _ _ HU.out) ?_
             rintro r wz ⟨rfl, bz⟩
             replace c1 := pcell bz c1
             rw [k1]
             go_wp2_with fail
             go_ret
             exact ⟨rfl, below_trans bb bz⟩)
      · subst k3 k2
        go_wp2_with fail
        refine Calls.mono (class_calls _ _ HU.out) ?_
        rintro r wz ⟨rfl, bz⟩
        generalize classV R1 = C at *
        go_wp2_with fail
        go_ret
        exact ⟨by simp, below_trans bb bz⟩
      · subst k3 k2
        go_wp2_with fail
        refine Calls.mono (class_calls _ _ HU.out) ?_
        rintro r wz ⟨rfl, bz⟩
        rw [k1]
        go_wp2_with fail
        go_ret
        exact ⟨rfl, below_trans bb bz⟩
end Go.Proofs.YtkkccnpmcbpdnaaDoor

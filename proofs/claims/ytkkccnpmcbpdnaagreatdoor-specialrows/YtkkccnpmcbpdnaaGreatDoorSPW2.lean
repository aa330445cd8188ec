/- Package special: a whole number and a half, the part ahead of the point; growing; either. -/
import Derived.Test.YtkkccnpmcbpdnaaGreatDoorSPW1
import Derived.Deep.RegionWith
namespace Go.Proofs.YtkkccnpmcbpdnaaGreatDoor
open Go.RowKit

theorem joinE_two (e f : Int) : joinE e f = 0 ∨ joinE e f = 2 := by unfold joinE; split <;> simp
theorem lastE_two (x : Int) : lastE x = 0 ∨ lastE x = 5 := by unfold lastE; split <;> simp
theorem U_frac (x : Int) : U (fracV x) := by unfold U fracV; omega
theorem U_join (s : Bool) (e f : Int) (_h : U f) : U (joinV s e f) := by
  unfold joinV U at *
  rcases joinE_two e f with hj | hj
  · have hc : ¬ (e < 0 ∨ 2047 < e ∨ 4503599627370495 < f) := by intro c; unfold joinE at hj; rw [if_pos c] at hj; omega
    rw [if_pos hj]
    cases s <;> simp <;> omega
  · rw [hj]; simp

set_option maxRecDepth 100000 in
set_option maxHeartbeats 2000000 in
theorem tHalf_calls (x y : Int) (w : World) (h : U x) (hT : Tab w) :
    Calls Tryz.prog 89 #[.agg #[.int .u64 x, .int .u64 y]] w fun r w' => r = .returned (.bool (tHalf x y)) ∧ Below w.heap.size w w' := by
  have bb := below_alloc w (.cells #[.int .u64 x, .int .u64 y] 40)
  have hx := expV_bd x
  have HU := U_join (sgnB x) (expV x + 1) (fracV x) (U_frac x)
  have JC : Hid _ := fun W => join_calls (sgnB x) (expV x + 1) (fracV x) W (U_frac x)
  have HD : Hid (tHalf x y = ((joinE (expV x + 1) (fracV x) == 0) && oddB (joinV (sgnB x) (expV x + 1) (fracV x)))) := rfl
  rcases joinE_two (expV x + 1) (fracV x) with hj | hj
  · rw [hj] at JC HD
    generalize joinV (sgnB x) (expV x + 1) (fracV x) = V at *
    clear hj
    go_enter Tryz.func89, Tryz.ntmps89
    go_wp2_with fail
    refine Calls.mono (split_calls _ _ h) ?_
    rintro r w1 ⟨rfl, b1⟩
    replace bb := below_trans bb b1
    clear b1
    go_wp2_with fail
    refine Calls.mono (JC.out _) ?_
    rintro r w2 ⟨rfl, b2⟩
    replace bb := below_trans bb (below_trans (below_alloc _ _) b2)
    clear b2
    go_wp2_with fail
    refine Calls.mono (odd_calls _ _ HU (hT.kept bb)) ?_
    rintro r w3 ⟨rfl, b3⟩
    replace bb := below_trans bb b3
    go_wp2_with fail
    go_ret
    exact ⟨by rw [HD.out]; rfl, bb⟩
  · rw [hj] at JC HD
    generalize joinV (sgnB x) (expV x + 1) (fracV x) = V at *
    clear hj
    go_enter Tryz.func89, Tryz.ntmps89
    go_wp2_with fail
    refine Calls.mono (split_calls _ _ h) ?_
    rintro r w1 ⟨rfl, b1⟩
    replace bb := below_trans bb b1
    clear b1
    go_wp2_with fail
    refine Calls.mono (JC.out _) ?_
    rintro r w2 ⟨rfl, b2⟩
    replace bb := below_trans bb (below_trans (below_alloc _ _) b2)
    clear b2
    go_wp2_with fail
    go_ret
    exact ⟨by rw [HD.out]; rfl, bb⟩

set_option maxRecDepth 100000 in
set_option maxHeartbeats 2000000 in
theorem tOddPart_calls (x y : Int) (w : World) (h : U x) (hT : Tab w) :
    Calls Tryz.prog 91 #[.agg #[.int .u64 x, .int .u64 y]] w fun r w' => r = .returned (.bool (tOddPart x y)) ∧ Below w.heap.size w w' := by
  have bb := below_alloc w (.cells #[.int .u64 x, .int .u64 y] 40)
  have k0 : (w.alloc (.cells #[.int .u64 x, .int .u64 y] 40)).cell? ⟨w.heap.size, 0, none⟩ = some (.int .u64 x) := by go_simp
  have LC : Hid _ := fun W => last_calls x W h
  have HD : Hid (tOddPart x y = if (!(lastE x == 0) || decide (lastV x < -52)) = true then false else if lastV x < 0 then oddB (cutX x) else oddB x) := rfl
  rcases lastE_two x with hj | hj
  · rw [hj] at LC HD
    by_cases c1 : lastV x < -52
    · have HE : Hid (tOddPart x y = false) := by rw [Hid, HD.out]; simp [c1]
      clear HD
      generalize lastV x = L at *
      go_enter Tryz.func91, Tryz.ntmps91
      go_wp2_with fail
      refine Calls.mono (LC.out _) ?_
      rintro r w1 ⟨rfl, b1⟩
      replace bb := below_trans bb b1
      go_wp2_with fail
      go_ret
      exact ⟨by rw [HE.out]; rfl, bb⟩
    · have c1' : -52 ≤ lastV x := by omega
      by_cases c2 : lastV x < 0
      · have HE : Hid (tOddPart x y = oddB (cutX x)) := by rw [Hid, HD.out]; simp [c1, c2]
        obtain ⟨n, hn⟩ := Int.eq_ofNat_of_zero_le (show 0 ≤ -lastV x by omega)
        have hn2 : n ≤ 52 := by omega
        have hcut : cutX x = x / 2 ^ n * 2 ^ n := by unfold cutX; rw [hn]; rfl
        have hL : lastV x = -(n : Int) := by omega
        have hw : IntKind.u64.wrap (x / 2 ^ n * 2 ^ n) = cutX x := by
          rw [hcut, IntKind.wrap_u64]
          have h1 : 0 ≤ x / 2 ^ n * 2 ^ n := Int.mul_nonneg (Int.ediv_nonneg h.1 (Int.le_of_lt (Int.pow_pos (by decide)))) (Int.le_of_lt (Int.pow_pos (by decide)))
          have h2 : x / 2 ^ n * 2 ^ n ≤ x := Int.ediv_mul_le _ (Int.ne_of_gt (Int.pow_pos (by decide)))
          have h3 := h.2
          omega
        have HC : U (cutX x) := by
          rw [hcut]
          exact ⟨Int.mul_nonneg (Int.ediv_nonneg h.1 (Int.le_of_lt (Int.pow_pos (by decide)))) (Int.le_of_lt (Int.pow_pos (by decide))), Int.le_trans (Int.ediv_mul_le _ (Int.ne_of_gt (Int.pow_pos (by decide)))) h.2⟩
        have hn0 : 0 < n := by omega
        have hd1 : ¬ (52 < (n : Int)) := by omega
        rw [hL] at LC
        clear HD c1 c1' hL hn hcut c2
        go_enter Tryz.func91, Tryz.ntmps91
        go_wp2_with fail
        refine Calls.mono (LC.out _) ?_
        rintro r w1 ⟨rfl, b1⟩
        replace bb := below_trans bb b1
        replace k0 := pcell b1 k0
        clear b1
        go_wp2_with fail
        refine Calls.mono (odd_calls _ _ HC (hT.kept bb)) ?_
        rintro r w3 ⟨rfl, b3⟩
        replace bb := below_trans bb b3
        go_wp2_with fail
        go_ret
        exact ⟨by rw [HE.out]; rfl, bb⟩
      · have HE : Hid (tOddPart x y = oddB x) := by rw [Hid, HD.out]; simp [c1, c2]
        clear HD
        generalize lastV x = L at *
        go_enter Tryz.func91, Tryz.ntmps91
        go_wp2_with fail
        refine Calls.mono (LC.out _) ?_
        rintro r w1 ⟨rfl, b1⟩
        replace bb := below_trans bb b1
        replace k0 := pcell b1 k0
        clear b1
        go_wp2_with fail
        refine Calls.mono (odd_calls _ _ h (hT.kept bb)) ?_
        rintro r w3 ⟨rfl, b3⟩
        replace bb := below_trans bb b3
        go_wp2_with fail
        go_ret
        exact ⟨by rw [HE.out]; rfl, bb⟩
  · rw [hj] at LC HD
    have HE : Hid (tOddPart x y = false) := by rw [Hid, HD.out]; simp
    clear HD
    generalize lastV x = L at *
    go_enter Tryz.func91, Tryz.ntmps91
    go_wp2_with fail
    refine Calls.mono (LC.out _) ?_
    rintro r w1 ⟨rfl, b1⟩
    replace bb := below_trans bb b1
    go_wp2_with fail
    go_ret
    exact ⟨by rw [HE.out]; rfl, bb⟩

end Go.Proofs.YtkkccnpmcbpdnaaGreatDoor

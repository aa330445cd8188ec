/- The walks of a word's root. -/
import Derived.Test.YtfmjgagajlhfoaaGreatDoorNRt0
import Derived.Test.YtfmjgagajlhfoaaGreatDoorNTop
import Derived.Test.YtfmjgagajlhfoaaGreatDoorNPow
namespace Go.Proofs.YtfmjgagajlhfoaaGreatDoor
open Go.RowKit

theorem mul_parts (P r : Nat) : mL P r + 18446744073709551616 * mH P r = P * r := by unfold mL mH; omega
set_option maxRecDepth 100000 in
set_option maxHeartbeats 4000000 in
theorem powerAtMost_calls (r k W : Nat) (w : World) (hr : r < 18446744073709551616) (hW : W < 18446744073709551616) (hk : 2 ≤ k) (hk2 : k ≤ 100) :
    Calls Tryz.prog 76 #[.int .u64 (r : Int), .int .i64 (k : Int), .int .u64 (W : Int)] w fun e w' => e = .returned (.bool (decide (r ^ k ≤ W))) ∧ Below w.heap.size w w' := by
  have hb0 := below_one w (.cells #[.int .u64 (r : Int), .int .u64 0] 108)
  have H0 : Hid ((w.alloc (.cells #[.int .u64 (r : Int), .int .u64 0] 108)).cell? ⟨w.heap.size, 0, none⟩ = some (.int .u64 (r : Int)) ∧ (w.alloc (.cells #[.int .u64 (r : Int), .int .u64 0] 108)).cell? ⟨w.heap.size, 1, none⟩ = some (.int .u64 0) ∧ (w.alloc (.cells #[.int .u64 (r : Int), .int .u64 0] 108)).frozen? ⟨w.heap.size, 0, none⟩ = false ∧ (w.alloc (.cells #[.int .u64 (r : Int), .int .u64 0] 108)).frozen? ⟨w.heap.size, 1, none⟩ = false ∧ w.heap.size < (w.alloc (.cells #[.int .u64 (r : Int), .int .u64 0] 108)).heap.size) := ⟨by go_simp, by go_simp, by go_simp, by go_simp, by simp⟩
  go_enter Tryz.func76, Tryz.ntmps76
  go_wp2_with fail
  go_loopw [12] (fun vi wr => ∃ (i P : Nat), i ≤ k - 1 ∧ vi = .int .i64 i ∧ P < 18446744073709551616 ∧ Hid (P = r ^ (i + 1)) ∧ Hid (i = 0 ∨ P ≤ W) ∧ (wr.cell? ⟨w.heap.size, 0, none⟩ = some (.int .u64 (P : Int)) ∧ wr.cell? ⟨w.heap.size, 1, none⟩ = some (.int .u64 0) ∧ wr.frozen? ⟨w.heap.size, 0, none⟩ = false ∧ wr.frozen? ⟨w.heap.size, 1, none⟩ = false ∧ w.heap.size < wr.heap.size) ∧ Below w.heap.size w wr) (fun vi _ => k - 1 - (intOf vi).toNat)
  case atStart => exact ⟨0, r, by omega, rfl, hr, by rw [Hid, Nat.pow_one], Or.inl rfl, H0.out, hb0⟩
  case round =>
    obtain ⟨i, P, hi, rfl, hP, HP, HW, ⟨c0, c1, f0, f1, hsz⟩, hbr⟩ := hrel
    clear H0 hb0
    by_cases hlt : i < k - 1
    · have hm := mul_parts P r
      have HM : Hid (mL P r + 18446744073709551616 * mH P r = P * r) := hm
      have HP2 : Hid (P * r = r ^ (i + 1 + 1)) := by rw [Hid, Nat.pow_succ, HP.out]
      have PC : Hid _ := product_calls P r wr hP hr
      have hlo : mL P r < 18446744073709551616 := by unfold mL; exact Nat.mod_lt _ (by decide)
      generalize mL P r = lo at *
      generalize mH P r = hi2 at *
      clear hm
      go_wp2_with fail
      refine Calls.mono PC.out ?_
      rintro e w2 ⟨rfl, rfl⟩
      have hb2 := below_one wr (.cells #[.int .u64 (lo : Int), .int .u64 (hi2 : Int)] 108)
      have d0 := (hb2.cell (p := ⟨w.heap.size, 0, none⟩) hsz).trans c0
      have d1 := (hb2.cell (p := ⟨w.heap.size, 1, none⟩) hsz).trans c1
      have g0 := (hb2.frozen (p := ⟨w.heap.size, 0, none⟩) hsz).trans f0
      have g1 := (hb2.frozen (p := ⟨w.heap.size, 1, none⟩) hsz).trans f1
      have hs2 := Nat.lt_of_lt_of_le hsz hb2.size
      have hbr2 := nbelow_trans hbr hb2
      generalize wr.alloc (.cells #[.int .u64 (lo : Int), .int .u64 (hi2 : Int)] 108) = w2 at *
      clear c0 c1 f0 f1 hb2 PC hsz hbr
      go_wp2_with fail
      have k0 : ((w2.setCell ⟨w.heap.size, 0, none⟩ (.int .u64 (lo : Int))).setCell ⟨w.heap.size, 1, none⟩ (.int .u64 (hi2 : Int))).cell? ⟨w.heap.size, 0, none⟩ = some (.int .u64 (lo : Int)) := by go_simp
      have k1 : ((w2.setCell ⟨w.heap.size, 0, none⟩ (.int .u64 (lo : Int))).setCell ⟨w.heap.size, 1, none⟩ (.int .u64 (hi2 : Int))).cell? ⟨w.heap.size, 1, none⟩ = some (.int .u64 (hi2 : Int)) := by go_simp
      have l0 : ((w2.setCell ⟨w.heap.size, 0, none⟩ (.int .u64 (lo : Int))).setCell ⟨w.heap.size, 1, none⟩ (.int .u64 (hi2 : Int))).frozen? ⟨w.heap.size, 0, none⟩ = false := by go_simp
      have l1 : ((w2.setCell ⟨w.heap.size, 0, none⟩ (.int .u64 (lo : Int))).setCell ⟨w.heap.size, 1, none⟩ (.int .u64 (hi2 : Int))).frozen? ⟨w.heap.size, 1, none⟩ = false := by go_simp
      have hs3 : w.heap.size < ((w2.setCell ⟨w.heap.size, 0, none⟩ (.int .u64 (lo : Int))).setCell ⟨w.heap.size, 1, none⟩ (.int .u64 (hi2 : Int))).heap.size := by rw [World.size_setCell, World.size_setCell]; exact hs2
      have hb3 : Below w.heap.size w ((w2.setCell ⟨w.heap.size, 0, none⟩ (.int .u64 (lo : Int))).setCell ⟨w.heap.size, 1, none⟩ (.int .u64 (hi2 : Int))) := (hbr2.setCell (Nat.le_refl _) _).setCell (Nat.le_refl _) _
      generalize (w2.setCell ⟨w.heap.size, 0, none⟩ (.int .u64 (lo : Int))).setCell ⟨w.heap.size, 1, none⟩ (.int .u64 (hi2 : Int)) = w3 at *
      clear d0 d1 g0 g1 hs2 hbr2
      have AC : Hid _ := above_calls lo hi2 W 0 w3
      have hb4 : Below w3.heap.size w3 ((w3.alloc (.cells #[.int .u64 (lo : Int), .int .u64 (hi2 : Int)] 108)).alloc (.cells #[.int .u64 (W : Int), .int .u64 ((0 : Nat) : Int)] 108)) := nbelow_trans (below_one _ _) (below_one _ _)
      obtain ⟨B, hB⟩ : ∃ B, B = decide (0 < hi2 ∨ 0 = hi2 ∧ W < lo) := ⟨_, rfl⟩
      rw [← hB] at AC
      have HBB : Hid (B = true ↔ W < P * r) := by
        rw [Hid, hB, decide_eq_true_eq, ← HM.out]; omega
      clear hB
      refine Calls.mono AC.out ?_
      rintro e w4 ⟨rfl, rfl⟩
      have m0 := (hb4.cell (p := ⟨w.heap.size, 0, none⟩) hs3).trans k0
      have m1 := (hb4.cell (p := ⟨w.heap.size, 1, none⟩) hs3).trans k1
      have n0 := (hb4.frozen (p := ⟨w.heap.size, 0, none⟩) hs3).trans l0
      have n1 := (hb4.frozen (p := ⟨w.heap.size, 1, none⟩) hs3).trans l1
      have hs4 := Nat.lt_of_lt_of_le hs3 hb4.size
      have hbr4 := nbelow_trans hb3 hb4
      generalize (w3.alloc (.cells #[.int .u64 (lo : Int), .int .u64 (hi2 : Int)] 108)).alloc (.cells #[.int .u64 (W : Int), .int .u64 ((0 : Nat) : Int)] 108) = w4 at *
      clear k0 k1 l0 l1 hs3 hb3 hb4 AC
      cases B with
      | true =>
        have HR : Hid (decide (r ^ k ≤ W) = false) := by
          have h1 := HBB.out.1 rfl
          rw [HP2.out] at h1
          rw [Hid, decide_eq_false_iff_not]
          have hr0 : 0 < r := by
            rcases Nat.eq_zero_or_pos r with q | q
            · rw [q, Nat.zero_pow (by omega)] at h1; omega
            · exact q
          have h2 : r ^ (i + 1 + 1) ≤ r ^ k := Nat.pow_le_pow_right hr0 (by omega)
          omega
        clear HBB
        go_wp2_with fail
        go_ret
        exact ⟨nret_bool HR.out.symm, hbr4⟩
      | false =>
        have h1 : ¬ W < P * r := fun q => by have := HBB.out.2 q; cases this
        have hh : hi2 = 0 := by have := HM.out; omega
        subst hh
        have hl : lo = P * r := by have := HM.out; omega
        have HLW : Hid (lo ≤ W) := by rw [Hid]; omega
        have HLP : Hid (lo = r ^ (i + 1 + 1)) := by rw [Hid, hl]; exact HP2.out
        clear HBB h1 hl HM HP2 HP HW
        go_wp2_with fail
        refine ⟨⟨i + 1, lo, by omega, by go_num, hlo, HLP, Or.inr HLW.out, ⟨m0, m1, n0, n1, hs4⟩, hbr4⟩, by simp [intOf]; omega⟩
    · have HR : Hid (decide (r ^ k ≤ W) = true) := by
        rw [Hid, decide_eq_true_eq]
        have h1 := HP.out
        have h2 := HW.out
        rw [show i + 1 = k by omega] at h1
        rw [← h1]
        rcases h2 with q | q
        · omega
        · exact q
      go_wp2_with fail
      go_ret
      exact ⟨nret_bool HR.out.symm, hbr⟩

theorem rt_small {k W : Nat} (hk : k = 2 ∨ k = 3) (hW : W < 18446744073709551616) : rt k W < 4294967296 := by
  have h1 := (rt_spec k W (by omega)).1
  rcases Nat.lt_or_ge (rt k W) 4294967296 with q | q
  · exact q
  · exfalso
    have h2 := Nat.pow_le_pow_left q k
    rcases hk with rfl | rfl
    · have : (4294967296 : Nat) ^ 2 = 18446744073709551616 := by decide
      omega
    · have : 18446744073709551616 ≤ (4294967296 : Nat) ^ 3 := by decide
      omega
theorem wrap_pow (j : Nat) (hj : j < 64) : IntKind.u64.wrap (2 ^ j) = ((2 ^ j : Nat) : Int) := by
  have h : 2 ^ j < 2 ^ 64 := Nat.pow_lt_pow_right (by decide) hj
  have e : ((2 : Int) ^ j) = ((2 ^ j : Nat) : Int) := by rw [Int.natCast_pow]; rfl
  rw [e, IntKind.wrap_u64]
  have h64 : (2 : Nat) ^ 64 = 18446744073709551616 := by decide
  generalize 2 ^ j = p at h ⊢
  omega
theorem bits_or_high (r j : Nat) (hr : r < 4294967296) (hj : j < 32) (h : 2 ^ (j + 1) ∣ r) : bits BinOp.or IntKind.u64 (r : Int) ((2 ^ j : Nat) : Int) = ((r + 2 ^ j : Nat) : Int) := by
  have hp : 2 ^ j ≤ 2 ^ 31 := Nat.pow_le_pow_right (by decide) (by omega)
  have e31 : (2 : Nat) ^ 31 = 2147483648 := by decide
  have h1 : (BitVec.ofInt 64 (r : Int)).toNat = r := by
    rw [BitVec.ofInt_natCast, BitVec.toNat_ofNat]; exact Nat.mod_eq_of_lt (by omega)
  have h2 : (BitVec.ofInt 64 ((2 ^ j : Nat) : Int)).toNat = 2 ^ j := by
    rw [BitVec.ofInt_natCast, BitVec.toNat_ofNat]; exact Nat.mod_eq_of_lt (by omega)
  show IntKind.u64.wrap ((BitVec.ofInt 64 (r : Int) ||| BitVec.ofInt 64 ((2 ^ j : Nat) : Int)).toNat : Int) = _
  rw [BitVec.toNat_or, h1, h2, or_high r j h, IntKind.wrap_u64]
  omega

set_option maxRecDepth 100000 in
set_option maxHeartbeats 4000000 in
theorem wordRoot2_calls (W : Nat) (w : World) (hW : W < 18446744073709551616) :
    Calls Tryz.prog 52 #[.int .u64 (W : Int), .int .i64 2] w fun e w' => e = .returned (.int .u64 ((rt 2 W : Nat) : Int)) ∧ Below w.heap.size w w' := by
  have HS : Hid (∀ r j, RtInv 2 W r j → r < 4294967296) := fun r j q => Nat.lt_of_le_of_lt (q.le (by decide)) (rt_small (by decide) hW)
  have H0 : Hid (RtInv 2 W 0 32) := rt_start (by decide) (Nat.lt_of_lt_of_le hW (by decide))
  go_enter Tryz.func52, Tryz.ntmps52
  go_wp2_with fail
  go_loopw [5, 15] (fun vr vi wr => ∃ (i r : Nat), i ≤ 32 ∧ vi = .int .i64 i ∧ vr = .int .u64 r ∧ Hid (RtInv 2 W r (32 - i)) ∧ Below w.heap.size w wr) (fun _ vi _ => 32 - (intOf vi).toNat)
  case atStart => exact ⟨0, 0, by omega, rfl, rfl, H0, Below.refl _ _⟩
  case round =>
    obtain ⟨i, r, hi, rfl, rfl, HR, hbr⟩ := hrel
    clear H0
    by_cases hlt : i < 32
    · obtain ⟨j, hj⟩ : ∃ j, 32 - i = j + 1 := ⟨32 - i - 1, by omega⟩
      have hrs := HS.out r _ HR.out
      rw [hj] at HR
      have hp : 2 ^ j ≤ 2 ^ 31 := Nat.pow_le_pow_right (by decide) (by omega)
      have e31 : (2 : Nat) ^ 31 = 2147483648 := by decide
      have ho := bits_or_high r j hrs (by omega) HR.out.1
      have q1 : (32 : Int) - 1 - (i : Int) = (j : Int) := by omega
      have PC : Hid _ := powerAtMost_calls (r + 2 ^ j) 2 W wr (by omega) hW (by decide) (by decide)
      have HY : Hid ((r + 2 ^ j) ^ 2 ≤ W → RtInv 2 W (r + 2 ^ j) j) := rt_yes HR.out
      have HN : Hid (¬ (r + 2 ^ j) ^ 2 ≤ W → RtInv 2 W r j) := rt_no HR.out
      have HJ : Hid (32 - (i + 1) = j) := by rw [Hid]; omega
      have hz : (32 : Int) - 1 - (i : Int) < 64 := by omega
      have hz0 : (0 : Int) ≤ 32 - 1 - (i : Int) := by omega
      have hjj : j < 64 := by omega
      have s2 : IntKind.u64.wrap (2 ^ (31 - i)) = ((2 ^ j : Nat) : Int) := by rw [show 31 - i = j by omega]; exact wrap_pow j (by omega)
      obtain ⟨B, hB⟩ : ∃ B, B = decide ((r + 2 ^ j) ^ 2 ≤ W) := ⟨_, rfl⟩
      rw [← hB] at PC
      have HB : Hid (B = decide ((r + 2 ^ j) ^ 2 ≤ W)) := hB
      obtain ⟨m, hm⟩ : ∃ m, m = r + 2 ^ j := ⟨_, rfl⟩
      have hm2 : m ≤ 18446744073709551615 := by omega
      rw [← hm] at PC ho
      have HM : Hid (m = r + 2 ^ j) := hm
      generalize ((2 ^ j : Nat) : Int) = pj at *
      clear hp e31 hB hm HR
      go_wp2_with fail
      refine Calls.mono PC.out ?_
      rintro e w2 ⟨rfl, b2⟩
      have b3 := nbelow_trans hbr b2
      cases B with
      | true =>
        have h1 := HY.out (of_decide_eq_true HB.out.symm)
        rw [← HM.out] at h1
        have HH : Hid (RtInv 2 W m (32 - (i + 1))) := by rw [Hid, HJ.out]; exact h1
        clear h1 HB
        go_wp2_with fail
        refine ⟨⟨i + 1, m, by omega, by go_num, rfl, HH, b3⟩, by simp [intOf]; omega⟩
      | false =>
        have h1 := HN.out (of_decide_eq_false HB.out.symm)
        have HH : Hid (RtInv 2 W r (32 - (i + 1))) := by rw [Hid, HJ.out]; exact h1
        clear h1 HB
        go_wp2_with fail
        refine ⟨⟨i + 1, r, by omega, by go_num, rfl, HH, b3⟩, by simp [intOf]; omega⟩
    · have HE : Hid (r = rt 2 W) := rt_end (by decide) (by have := HR.out; rwa [show 32 - i = 0 by omega] at this)
      go_wp2_with fail
      go_ret
      exact ⟨nret_int (by rw [HE.out]), hbr⟩

set_option maxRecDepth 100000 in
set_option maxHeartbeats 4000000 in
theorem wordRoot3_calls (W : Nat) (w : World) (hW : W < 18446744073709551616) :
    Calls Tryz.prog 52 #[.int .u64 (W : Int), .int .i64 3] w fun e w' => e = .returned (.int .u64 ((rt 3 W : Nat) : Int)) ∧ Below w.heap.size w w' := by
  have HS : Hid (∀ r j, RtInv 3 W r j → r < 4294967296) := fun r j q => Nat.lt_of_le_of_lt (q.le (by decide)) (rt_small (by decide) hW)
  have H0 : Hid (RtInv 3 W 0 22) := rt_start (by decide) (Nat.lt_of_lt_of_le hW (by decide))
  go_enter Tryz.func52, Tryz.ntmps52
  go_wp2_with fail
  go_loopw [5, 15] (fun vr vi wr => ∃ (i r : Nat), i ≤ 22 ∧ vi = .int .i64 i ∧ vr = .int .u64 r ∧ Hid (RtInv 3 W r (22 - i)) ∧ Below w.heap.size w wr) (fun _ vi _ => 22 - (intOf vi).toNat)
  case atStart => exact ⟨0, 0, by omega, rfl, rfl, H0, Below.refl _ _⟩
  case round =>
    obtain ⟨i, r, hi, rfl, rfl, HR, hbr⟩ := hrel
    clear H0
    by_cases hlt : i < 22
    · obtain ⟨j, hj⟩ : ∃ j, 22 - i = j + 1 := ⟨22 - i - 1, by omega⟩
      have hrs := HS.out r _ HR.out
      rw [hj] at HR
      have hp : 2 ^ j ≤ 2 ^ 31 := Nat.pow_le_pow_right (by decide) (by omega)
      have e31 : (2 : Nat) ^ 31 = 2147483648 := by decide
      have ho := bits_or_high r j hrs (by omega) HR.out.1
      have q1 : (22 : Int) - 1 - (i : Int) = (j : Int) := by omega
      have PC : Hid _ := powerAtMost_calls (r + 2 ^ j) 3 W wr (by omega) hW (by decide) (by decide)
      have HY : Hid ((r + 2 ^ j) ^ 3 ≤ W → RtInv 3 W (r + 2 ^ j) j) := rt_yes HR.out
      have HN : Hid (¬ (r + 2 ^ j) ^ 3 ≤ W → RtInv 3 W r j) := rt_no HR.out
      have HJ : Hid (22 - (i + 1) = j) := by rw [Hid]; omega
      have hz : (22 : Int) - 1 - (i : Int) < 64 := by omega
      have hz0 : (0 : Int) ≤ 22 - 1 - (i : Int) := by omega
      have hjj : j < 64 := by omega
      have s2 : IntKind.u64.wrap (2 ^ (21 - i)) = ((2 ^ j : Nat) : Int) := by rw [show 21 - i = j by omega]; exact wrap_pow j (by omega)
      obtain ⟨B, hB⟩ : ∃ B, B = decide ((r + 2 ^ j) ^ 3 ≤ W) := ⟨_, rfl⟩
      rw [← hB] at PC
      have HB : Hid (B = decide ((r + 2 ^ j) ^ 3 ≤ W)) := hB
      obtain ⟨m, hm⟩ : ∃ m, m = r + 2 ^ j := ⟨_, rfl⟩
      have hm2 : m ≤ 18446744073709551615 := by omega
      rw [← hm] at PC ho
      have HM : Hid (m = r + 2 ^ j) := hm
      generalize ((2 ^ j : Nat) : Int) = pj at *
      clear hp e31 hB hm HR
      go_wp2_with fail
      refine Calls.mono PC.out ?_
      rintro e w2 ⟨rfl, b2⟩
      have b3 := nbelow_trans hbr b2
      cases B with
      | true =>
        have h1 := HY.out (of_decide_eq_true HB.out.symm)
        rw [← HM.out] at h1
        have HH : Hid (RtInv 3 W m (22 - (i + 1))) := by rw [Hid, HJ.out]; exact h1
        clear h1 HB
        go_wp2_with fail
        refine ⟨⟨i + 1, m, by omega, by go_num, rfl, HH, b3⟩, by simp [intOf]; omega⟩
      | false =>
        have h1 := HN.out (of_decide_eq_false HB.out.symm)
        have HH : Hid (RtInv 3 W r (22 - (i + 1))) := by rw [Hid, HJ.out]; exact h1
        clear h1 HB
        go_wp2_with fail
        refine ⟨⟨i + 1, r, by omega, by go_num, rfl, HH, b3⟩, by simp [intOf]; omega⟩
    · have HE : Hid (r = rt 3 W) := rt_end (by decide) (by have := HR.out; rwa [show 22 - i = 0 by omega] at this)
      go_wp2_with fail
      go_ret
      exact ⟨nret_int (by rw [HE.out]), hbr⟩

end Go.Proofs.YtfmjgagajlhfoaaGreatDoor

/- The fields of the float that a dyadic number is: pure part, and the walk of fields. -/
import Derived.Test.YtionhpedghmecaaGreatDoorTMS
namespace Go.Proofs.YtionhpedghmecaaGreatDoor
open Go.RowKit
theorem low_room {m j : Nat} (h : j + blen m ≤ 52) : m * 2 ^ j < 4503599627370496 := by
 have h1 := lt_blen m
 have h2 : m * 2 ^ j < 2 ^ blen m * 2 ^ j := Nat.mul_lt_mul_of_pos_right h1 (Nat.pow_pos (by decide))
 rw [← Nat.pow_add] at h2
 have h3 := Nat.pow_le_pow_right (show 0 < 2 by decide) (show blen m + j ≤ 52 by omega)
 have : (2 : Nat) ^ 52 = 4503599627370496 := rfl
 omega
theorem high_room {m j : Nat} (h0 : m ≠ 0) (h : j + blen m = 53) : 4503599627370496 ≤ m * 2 ^ j ∧ m * 2 ^ j < 9007199254740992 := by
 have h1 := lt_blen m
 have h2 : m * 2 ^ j < 2 ^ blen m * 2 ^ j := Nat.mul_lt_mul_of_pos_right h1 (Nat.pow_pos (by decide))
 have h4 := Nat.mul_le_mul_right (2 ^ j) (blen_ge m h0)
 have hp : blen m ≠ 0 := fun q => h0 ((blen_nil m).1 q)
 rw [← Nat.pow_add, show blen m + j = 53 by omega] at h2
 rw [← Nat.pow_add, show blen m - 1 + j = 52 by omega] at h4
 have : (2 : Nat) ^ 52 = 4503599627370496 := rfl
 have : (2 : Nat) ^ 53 = 9007199254740992 := rfl
 omega
theorem shl_nat {m j : Nat} (h : m * 2 ^ j < 18446744073709551616) : IntKind.u64.wrap ((m : Int) * 2 ^ j) = ((m * 2 ^ j : Nat) : Int) := by
 rw [mul_pow_cast, wrap_nat, Nat.mod_eq_of_lt h]
theorem andNot_hidden (y : Nat) (h1 : 4503599627370496 ≤ y) (h2 : y < 9007199254740992) : bits .andNot .u64 (y : Int) 4503599627370496 = ((y - 4503599627370496 : Nat) : Int) := by
 have h := u64_andNot_nat y 4503599627370496 (by omega) (by decide)
 obtain ⟨f, rfl⟩ : ∃ f, y = f + 4503599627370496 := ⟨y - 4503599627370496, by omega⟩
 have hf : f < 4503599627370496 := by omega
 have e : f ||| 4503599627370496 = f + 4503599627370496 := by
  have h2 := Nat.two_pow_add_eq_or_of_lt (i := 52) (b := f) (by omega) 1
  rw [Nat.mul_one] at h2
  rw [Nat.or_comm]
  have h3 : (2 : Nat) ^ 52 = 4503599627370496 := rfl
  rw [h3] at h2
  omega
 refine h.trans ?_
 rw [Nat.add_sub_cancel]
 refine congrArg Int.ofNat ?_
 rw [← e]
 apply Nat.eq_of_testBit_eq
 intro i
 have hM := Nat.testBit_two_pow_sub_succ (x := 4503599627370496) (n := 64) (by decide) i
 rw [show (2 : Nat) ^ 64 - (4503599627370496 + 1) = 18446744073709551615 - 4503599627370496 from by decide] at hM
 rw [Nat.testBit_and, Nat.testBit_or, hM]
 have hT : Nat.testBit 4503599627370496 i = decide (52 = i) := Nat.testBit_two_pow (n := 52) (m := i)
 rw [hT]
 by_cases hi : 52 = i
 ·subst hi
  rw [Nat.testBit_lt_two_pow (show f < 2 ^ 52 from hf)]
  rfl
 ·rw [decide_eq_false hi]
  by_cases h64 : i < 64
  ·rw [decide_eq_true h64]; simp
  ·rw [decide_eq_false h64, Nat.testBit_lt_two_pow (Nat.lt_of_lt_of_le hf (Nat.pow_le_pow_right (show 0 < 2 by decide) (show 52 ≤ i by omega)))]
   rfl
set_option maxRecDepth 100000 in
set_option maxHeartbeats 2000000 in
theorem fields_low (s : Bool) (b off c m : Nat) (e : Int) (w : World) (hI : IsW w (some ⟨b, off, none⟩) 1 c (wordsOf m)) (hc0 : w.cell? ⟨b, off, none⟩ = some (.int .u64 (m : Int))) (hg : greatB m = false) (j : Nat) (he : e = (j : Int) - 1074) (ht : j + blen m ≤ 52) :
  Calls Tryz.prog 155 #[numV s (some ⟨b, off, none⟩) 1 c e false] w fun r w' => r = .returned (.agg #[.bool s, .int .i64 0, .int .u64 ((m * 2 ^ j : Nat) : Int)]) ∧ Below w.heap.size w w' := by
 have hR : IntKind.u64.wrap ((m : Int) * 2 ^ j) = ((m * 2 ^ j : Nat) : Int) := shl_nat (by have := low_room ht; omega)
 generalize m * 2 ^ j = F at *
 have hb0 := nT (below_one w (.cells #[.bool s, .slice (some ⟨b, off, none⟩) 1 c, .int .i64 e, .bool false] 72)) (below_one _ (.cells #[.bool false, .int .i64 0, .int .u64 0] 46))
 have TC : Hid _ := fun w' q => top_calls s (some ⟨b, off, none⟩) 1 c m e false w' q (by omega) hg (by omega)
 subst he
 have hjb : j ≤ 52 := by omega
 have hjw : IntKind.i64.wrap (j : Int) = (j : Int) := by rw [IntKind.wrap_i64]; omega
 generalize blen m = bl at *
 have hc1 := kC hb0 hc0
 have f0 := kC hb0 hc0
 clear f0
 go_enter Tryz.func155, Tryz.ntmps155
 go_wp2_with fail
 refine Calls.mono (TC.out _ (hI.keep hb0)) ?_
 rintro r w1 ⟨rfl, hb1⟩
 have hb01 := nT hb0 hb1
 have hc2 := kC hb1 hc1
 have k0 : w1.cell? ⟨w.heap.size, 0, none⟩ = some (.bool s) := kC hb1 (by go_simp)
 have k1 : w1.cell? ⟨w.heap.size, 1, none⟩ = some (.slice (some ⟨b, off, none⟩) 1 c) := kC hb1 (by go_simp)
 have k2 : w1.cell? ⟨w.heap.size, 2, none⟩ = some (.int .i64 ((j : Int) - 1074)) := kC hb1 (by go_simp)
 have z0 : w1.cell? ⟨w.heap.size + 1, 0, none⟩ = some (.bool false) := kC hb1 (by go_simp)
 have z1 : w1.cell? ⟨w.heap.size + 1, 1, none⟩ = some (.int .i64 0) := kC hb1 (by go_simp)
 have z2 : w1.cell? ⟨w.heap.size + 1, 2, none⟩ = some (.int .u64 0) := kC hb1 (by go_simp)
 have y0 : w1.frozen? ⟨w.heap.size + 1, 0, none⟩ = false := kF hb1 (v := .bool false) (by go_simp) (by go_simp)
 have y1 : w1.frozen? ⟨w.heap.size + 1, 1, none⟩ = false := kF hb1 (v := .int .i64 0) (by go_simp) (by go_simp)
 have y2 : w1.frozen? ⟨w.heap.size + 1, 2, none⟩ = false := kF hb1 (v := .int .u64 0) (by go_simp) (by go_simp)
 have k3 : w1.cell? ⟨w.heap.size, 3, none⟩ = some (.bool false) := kC hb1 (by go_simp)
 clear hb1 hb0 hc1 hc0
 go_wp2_with fail
 go_region_with fail
 all_goals go_wp2_with fail
 all_goals refine bodyPost_ret (v := .agg #[.bool s, .int .i64 0, .int .u64 (F : Int)]) (by simp [results, Tryz.results155, go_sem, z0, z1, z2]) rfl ⟨rfl, ?_⟩
 all_goals repeat (first | exact hb01 | refine Below.drew ?_ | refine Below.setCell ?_ (by show w.heap.size ≤ w.heap.size + 1; omega) _)
end Go.Proofs.YtionhpedghmecaaGreatDoor

/- Package fixed: naturals at a fixed point: what its calls come to where nothing is too great. -/
import Derived.Test.YtkkldnnndlpblaaGreatDoorTME
namespace Go.Proofs.YtkkldnnndlpblaaGreatDoor
open Go.RowKit

theorem cf_great {n k : Nat} (h : n < 2 ^ k) (hk : k ≤ 65536) : greatB n = false := (great_not n).2 (Nat.le_trans ((blen_le n k).2 h) hk)
theorem cf_add {x y : Nat} (h : greatB (x + y) = false) : addR x y = (x + y, 0) := by
  unfold addR; rw [great_mono (Nat.le_add_right _ _) h, great_mono (Nat.le_add_left _ _) h, if_neg (by decide)]; exact fitR_no h
theorem cf_sub {x y : Nat} (h : greatB x = false) (hl : y ≤ x) : subR x y = (x - y, 0) := by
  unfold subR; rw [h, great_mono hl h, if_neg (by decide), if_neg (by omega)]
theorem cf_mul {x y : Nat} (h : greatB x = false) (h' : greatB y = false) (g : greatB (x * y) = false) : mulR x y = (x * y, 0) := by
  unfold mulR; rw [h, h', if_neg (by decide)]; exact fitR_no g
theorem cf_div {u v : Nat} (g : greatB u = false) (g' : greatB v = false) (h : v ≠ 0) : divE u v = 0 ∧ divQ u v = u / v ∧ divM u v = u % v := by
  unfold divE divQ divM
  rw [g, g']
  simp [h]
theorem cf_shl {r k : Nat} (g : greatB (r * 2 ^ k) = false) : shlR r (k : Int) = (r * 2 ^ k, 0) := by
  have g0 : greatB r = false := great_mono (Nat.le_mul_of_pos_right _ (Nat.two_pow_pos _)) g
  unfold shlR
  rw [g0, if_neg (by decide), if_neg (by omega)]
  by_cases z : r = 0
  · rw [if_pos z, z, Nat.zero_mul]
  · have := (great_not _).1 g
    rw [blen_mul r k z] at this
    rw [if_neg z, if_neg (by omega), Int.toNat_natCast]
theorem cf_shr {r k : Nat} (g : greatB r = false) : shrQ r (k : Int) = r / 2 ^ k ∧ shrE r (k : Int) = 0 := by
  unfold shrQ shrE
  rw [g, if_neg (by decide), if_neg (by omega), if_neg (by decide), if_neg (by omega), Int.toNat_natCast]
  exact ⟨rfl, rfl⟩
theorem cf_pow {u j : Nat} (g0 : greatB u = false) (g : greatB (u ^ j) = false) : powR u (j : Int) = (u ^ j, 0) := by
  rw [powR_fit g0]; exact fitR_no g

section
variable {a a' : Option Addr} {len cap len' cap' x y : Nat} {w : World}

set_option maxHeartbeats 1000000 in
theorem fPlus_calls (h : IsW w a len cap (wordsOf x)) (h' : IsW w a' len' cap' (wordsOf y)) (hm : len ≤ 1024) (hm' : len' ≤ 1024) (g : greatB (x + y) = false) :
    Calls Tryz.prog 68 #[.slice a len cap, .slice a' len' cap'] w fun e w' => ∃ (ao : Option Addr) (n c : Nat), e = .returned (.slice ao n c) ∧ n ≤ 1024 ∧ OwnW w.heap.size w' ao n c (wordsOf (x + y)) ∧ Below w.heap.size w w' := by
  have HM : Hid _ := add_eq h h' (by omega) (by omega) (r := x + y) (k := 0) (by rw [val_words, val_words]; exact cf_add g)
  clear h h' hm hm'
  go_enter Tryz.func68, Tryz.ntmps68
  go_wp2_with fail
  refine Calls.mono HM.out ?_
  rintro e w1 ⟨ao, n, c, rfl, _, hn, hO, bN⟩
  go_wp2_with fail
  go_ret
  exact ⟨ao, n, c, rfl, hn, hO, bN⟩

set_option maxHeartbeats 1000000 in
theorem fLess_calls (h : IsW w a len cap (wordsOf x)) (h' : IsW w a' len' cap' (wordsOf y)) (hm : len ≤ 1024) (hm' : len' ≤ 1024) (g : greatB x = false) (hl : y ≤ x) :
    Calls Tryz.prog 66 #[.slice a len cap, .slice a' len' cap'] w fun e w' => ∃ (ao : Option Addr) (n c : Nat), e = .returned (.slice ao n c) ∧ n ≤ 1024 ∧ OwnW w.heap.size w' ao n c (wordsOf (x - y)) ∧ Below w.heap.size w w' := by
  have HM : Hid _ := sub_eq h h' (by omega) (by omega) (r := x - y) (k := 0) (by rw [val_words, val_words]; exact cf_sub g hl)
  clear h h' hm hm'
  go_enter Tryz.func66, Tryz.ntmps66
  go_wp2_with fail
  refine Calls.mono HM.out ?_
  rintro e w1 ⟨ao, n, c, rfl, _, hn, hO, bN⟩
  go_wp2_with fail
  go_ret
  exact ⟨ao, n, c, rfl, hn, hO, bN⟩

set_option maxHeartbeats 1000000 in
theorem fTimes_calls (h : IsW w a len cap (wordsOf x)) (h' : IsW w a' len' cap' (wordsOf y)) (hm : len ≤ 1024) (hm' : len' ≤ 1024) (g0 : greatB x = false) (g1 : greatB y = false) (g : greatB (x * y) = false) :
    Calls Tryz.prog 85 #[.slice a len cap, .slice a' len' cap'] w fun e w' => ∃ (ao : Option Addr) (n c : Nat), e = .returned (.slice ao n c) ∧ n ≤ 1024 ∧ OwnW w.heap.size w' ao n c (wordsOf (x * y)) ∧ Below w.heap.size w w' := by
  have HM : Hid _ := mul_eq h h' (by omega) (by omega) (r := x * y) (k := 0) (by rw [val_words, val_words]; exact cf_mul g0 g1 g)
  clear h h' hm hm'
  go_enter Tryz.func85, Tryz.ntmps85
  go_wp2_with fail
  refine Calls.mono HM.out ?_
  rintro e w1 ⟨ao, n, c, rfl, _, hn, hO, bN⟩
  go_wp2_with fail
  go_ret
  exact ⟨ao, n, c, rfl, hn, hO, bN⟩

set_option maxHeartbeats 1000000 in
theorem fOver_calls (h : IsW w a len cap (wordsOf x)) (h' : IsW w a' len' cap' (wordsOf y)) (hm : len ≤ 1024) (hm' : len' ≤ 1024) (g0 : greatB x = false) (g1 : greatB y = false) (hy : y ≠ 0) :
    Calls Tryz.prog 103 #[.slice a len cap, .slice a' len' cap'] w fun e w' => ∃ (ao : Option Addr) (n c : Nat), e = .returned (.slice ao n c) ∧ n ≤ 1024 ∧ OwnW w.heap.size w' ao n c (wordsOf (x / y)) ∧ Below w.heap.size w w' := by
  have e := cf_div g0 g1 hy
  have HM : Hid _ := div_eq h h' (by omega) (by omega) (q := x / y) (r := x % y) (k := 0) (by rw [val_words, val_words]; exact e.2.1) (by rw [val_words, val_words]; exact e.2.2) (by rw [val_words, val_words]; exact e.1)
  clear h h' hm hm' e
  go_enter Tryz.func103, Tryz.ntmps103
  go_wp2_with fail
  refine Calls.mono HM.out ?_
  rintro e w1 ⟨ao, a2, n, c, n2, c2, rfl, _, hn, hO, _, _, _, bN⟩
  go_wp2_with fail
  go_ret
  exact ⟨ao, n, c, rfl, hn, hO, bN⟩

set_option maxHeartbeats 1000000 in
theorem fShl_calls {k : Nat} (h : IsW w a len cap (wordsOf x)) (hm : len ≤ 1024) (_hk : k ≤ 65536) (g : greatB (x * 2 ^ k) = false) :
    Calls Tryz.prog 84 #[.slice a len cap, .int .i64 (k : Int)] w fun e w' => ∃ (ao : Option Addr) (n c : Nat), e = .returned (.slice ao n c) ∧ n ≤ 1024 ∧ OwnW w.heap.size w' ao n c (wordsOf (x * 2 ^ k)) ∧ Below w.heap.size w w' := by
  have HM : Hid _ := shl_eq (i := (k : Int)) h (by omega) (r := x * 2 ^ k) (k := 0) (by rw [val_words]; exact cf_shl g)
  clear h hm
  go_enter Tryz.func84, Tryz.ntmps84
  go_wp2_with fail
  refine Calls.mono HM.out ?_
  rintro e w1 ⟨ao, n, c, rfl, _, hn, hO, bN⟩
  go_wp2_with fail
  go_ret
  exact ⟨ao, n, c, rfl, hn, hO, bN⟩

set_option maxHeartbeats 1000000 in
theorem fShr_calls {i : Int} {k : Nat} (h : IsW w a len cap (wordsOf x)) (hm : len ≤ 1024) (hk : k ≤ 65536) (hk0 : 1 ≤ k) (hi : i = -(k : Int)) (g : greatB x = false) :
    Calls Tryz.prog 84 #[.slice a len cap, .int .i64 i] w fun e w' => ∃ (ao : Option Addr) (n c : Nat), e = .returned (.slice ao n c) ∧ n ≤ 1024 ∧ OwnW w.heap.size w' ao n c (wordsOf (x / 2 ^ k)) ∧ Below w.heap.size w w' := by
  have HM : Hid _ := shr_eq (i := (k : Int)) h (by omega) (by omega) (r := x / 2 ^ k) (l := shrL (val (wordsOf x)) (k : Int)) (k := 0) (by rw [val_words]; exact (cf_shr g).1) rfl (by rw [val_words]; exact (cf_shr g).2)
  have i0 : ¬ 0 ≤ i := by omega
  have i1 : IntKind.i64.wrap (-i) = (k : Int) := by rw [hi, IntKind.wrap_i64]; omega
  clear h hm hi
  go_enter Tryz.func84, Tryz.ntmps84
  go_wp2_with fail
  refine Calls.mono HM.out ?_
  rintro e w1 ⟨ao, n, c, rfl, _, hn, hO, bN⟩
  go_wp2_with fail
  go_ret
  exact ⟨ao, n, c, rfl, hn, hO, bN⟩
end

set_option maxHeartbeats 1000000 in
theorem of_eq {x : Int} {w : World} (r : Nat) (h0 : x = (r : Int)) (h1 : r ≤ 18446744073709551615) :
    Calls Tryz.prog 43 #[.int .u64 x] w fun e w' => ∃ (ao : Option Addr) (n c : Nat), e = .returned (.slice ao n c) ∧ n ≤ 1024 ∧ OwnW w.heap.size w' ao n c (wordsOf r) ∧ Below w.heap.size w w' := by
  subst h0
  refine (of_calls (r : Int) w (by omega) (by omega)).mono ?_
  rintro e w' ⟨v, rfl, hA, hb⟩
  rw [Int.toNat_natCast] at hA
  obtain ⟨ao, n, c, rfl, _, hn, hO⟩ := hA.open ((great_len r).1 (cf_great (k := 64) (by omega) (by decide)))
  exact ⟨ao, n, c, rfl, hn, hO, hb⟩

set_option maxHeartbeats 1000000 in
theorem fOne_calls (k : Nat) (w : World) (hk : k ≤ 65535) :
    Calls Tryz.prog 47 #[.int .i64 (k : Int)] w fun e w' => ∃ (ao : Option Addr) (n c : Nat), e = .returned (.slice ao n c) ∧ n ≤ 1024 ∧ OwnW w.heap.size w' ao n c (wordsOf (2 ^ k)) ∧ Below w.heap.size w w' := by
  have g : greatB (1 * 2 ^ k) = false := by rw [Nat.one_mul]; exact cf_great (k := k + 1) (Nat.pow_lt_pow_right (by decide) (by omega)) (by omega)
  go_enter Tryz.func47, Tryz.ntmps47
  go_wp2_with fail
  refine Calls.mono (of_eq 1 rfl (by decide)) ?_
  rintro e w1 ⟨ao, n, c, rfl, hn, hO, b1⟩
  have HM : Hid _ := fShl_calls (k := k) hO.1 hn (by omega) g
  clear g
  go_wp2_with fail
  refine Calls.mono HM.out ?_
  rintro e w2 ⟨ao2, n2, c2, rfl, hn2, hO2, b2⟩
  go_wp2_with fail
  go_ret
  rw [Nat.one_mul] at hO2
  exact ⟨ao2, n2, c2, rfl, hn2, hO2.low b1.size, below_trans b1 b2⟩
end Go.Proofs.YtkkldnnndlpblaaGreatDoor

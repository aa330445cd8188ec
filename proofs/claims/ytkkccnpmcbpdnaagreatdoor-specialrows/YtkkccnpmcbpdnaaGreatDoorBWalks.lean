/- The walks of package bits: what each of its functions answers, for every uint64, in whatever memory. -/
import Derived.Test.YtkkccnpmcbpdnaaGreatDoorRows
import Derived.Test.YtkkccnpmcbpdnaaGreatDoorBits
import Derived.WalkKit
import Derived.WalkSpells
import Derived.WalkLawsBesides
namespace Go.Proofs.YtkkccnpmcbpdnaaGreatDoor
open Go.RowKit

/-- The table of math/bits in its variable. -/
def Tab (w : World) : Prop := 3 < w.heap.size ∧ ∀ j, j < 64 → w.cell? ⟨3, j, none⟩ = some (.int .u8 (Lib.deBruijn64tab.getD j 0))
theorem Tab.kept {w w' : World} (h : Tab w) (hb : Below w.heap.size w w') : Tab w' :=
  ⟨Nat.lt_of_lt_of_le h.1 hb.size, fun j hj => by rw [hb.cell (p := ⟨3, j, none⟩) h.1]; exact h.2 j hj⟩

theorem bcell {W w1 : World} (hb : Below W.heap.size W w1) : (∀ b o, b < W.heap.size → w1.cell? ⟨b, o, none⟩ = W.cell? ⟨b, o, none⟩) ∧ (∀ b o, b < W.heap.size → w1.frozen? ⟨b, o, none⟩ = W.frozen? ⟨b, o, none⟩) :=
  ⟨fun b o h => hb.cell (p := ⟨b, o, none⟩) h, fun b o h => hb.frozen (p := ⟨b, o, none⟩) h⟩
theorem below_trans {a b c : World} (h : Below a.heap.size a b) (k : Below b.heap.size b c) : Below a.heap.size a c := h.trans (k.mono h.size)
theorem below_alloc (w : World) (o : Obj) : Below w.heap.size w (w.alloc o) := (Below.refl _ _).alloc (Nat.le_refl _) o
theorem ret_int {k : IntKind} {a b : Int} (h : a = b) : Ending.returned (.int k a) = .returned (.int k b) := by rw [h]
theorem ret_bool {a b : Bool} (h : a = b) : Ending.returned (.bool a) = .returned (.bool b) := by rw [h]

set_option maxHeartbeats 400000 in
theorem neg_calls (x : Int) (w : World) (h : U x) :
    Calls Tryz.prog 116 #[.int .u64 x] w fun e w' => e = .returned (.int .u64 (negV x)) ∧ w' = w := by
  have e : Hid _ := xor_sign x h
  obtain ⟨h0, h1⟩ := h
  go_enter Tryz.func116, Tryz.ntmps116
  go_wp2
  go_ret
  exact ⟨ret_int e.out, rfl⟩

set_option maxHeartbeats 400000 in
theorem abs_calls (x : Int) (w : World) (h : U x) :
    Calls Tryz.prog 77 #[.int .u64 x] w fun e w' => e = .returned (.int .u64 (absV x)) ∧ w' = w := by
  have e : Hid _ := andNot_sign x h
  obtain ⟨h0, h1⟩ := h
  go_enter Tryz.func77, Tryz.ntmps77
  go_wp2
  go_ret
  exact ⟨ret_int e.out, rfl⟩

set_option maxHeartbeats 400000 in
theorem isNumber_calls (x : Int) (w : World) (h : U x) :
    Calls Tryz.prog 124 #[.int .u64 x] w fun e w' => e = .returned (.bool (numB x)) ∧ w' = w := by
  go_enter Tryz.func124, Tryz.ntmps124
  go_wp2_with (go_at_call 77; refine (abs_calls _ _ h).mono ?_; rintro e w' ⟨rfl, rfl⟩)
  go_ret
  exact ⟨rfl, rfl⟩

set_option maxHeartbeats 400000 in
theorem rung_calls (x : Int) (w : World) (h : U x) :
    Calls Tryz.prog 125 #[.int .u64 x] w fun e w' => e = .returned (.int .i64 (rungV x)) ∧ w' = w := by
  have hs := and_sign x h
  have ha := absV_bd x
  obtain ⟨h0, h1⟩ := id h
  by_cases c : 9223372036854775808 ≤ x
  · rw [if_pos c] at hs
    have ht : (bits .and .u64 x 9223372036854775808 != 0) = true := by rw [hs]; decide
    clear hs
    go_enter Tryz.func125, Tryz.ntmps125
    go_wp2_with (go_at_call 77; refine (abs_calls _ _ h).mono ?_; rintro e w' ⟨rfl, rfl⟩)
    go_ret
    refine ⟨ret_int ?_, rfl⟩
    unfold rungV absV
    omega
  · rw [if_neg c] at hs
    have ht : (bits .and .u64 x 9223372036854775808 != 0) = false := by rw [hs]; decide
    clear hs
    go_enter Tryz.func125, Tryz.ntmps125
    go_wp2_with (go_at_call 77; refine (abs_calls _ _ h).mono ?_; rintro e w' ⟨rfl, rfl⟩)
    go_ret
    refine ⟨ret_int ?_, rfl⟩
    unfold rungV
    omega

set_option maxHeartbeats 400000 in
theorem split_calls (x : Int) (w : World) (h : U x) :
    Calls Tryz.prog 105 #[.int .u64 x] w fun e w' => e = .returned (.agg #[.bool (sgnB x), .int .i64 (expV x), .int .u64 (fracV x)]) ∧ Below w.heap.size w w' := by
  have e1 : (bits .and .u64 x 9223372036854775808 != 0) = sgnB x := by
    rw [and_sign x h]; unfold sgnB; split <;> simp_all
  have e2 : wrap64 (bits .and .u64 (x / 4503599627370496) 2047) = expV x := by
    rw [and_exp x h]; have := expV_bd x; unfold wrap64; omega
  have e3 := and_frac x h
  have E1 := id (show Hid _ from e1); have E2 := id (show Hid _ from e2); have E3 := id (show Hid _ from e3)
  clear e1 e2 e3
  obtain ⟨h0, h1⟩ := h
  go_enter Tryz.func105, Tryz.ntmps105
  go_wp2
  simp only [E1.out, E2.out, E3.out]
  exact bodyPost_ret (v := .agg #[.bool (sgnB x), .int .i64 (expV x), .int .u64 (fracV x)]) (by simp [results, Tryz.results105, go_sem]) rfl ⟨rfl, below_alloc _ _⟩

set_option maxHeartbeats 400000 in
theorem class_calls (x : Int) (w : World) (h : U x) :
    Calls Tryz.prog 106 #[.int .u64 x] w fun e w' => e = .returned (.int .u8 (classV x)) ∧ Below w.heap.size w w' := by
  have hf := fracV_bd x
  have hq : (bits .and .u64 (fracV x) 2251799813685248 != 0) = decide (2251799813685248 ≤ fracV x) := by
    rw [and_quiet _ ⟨hf.1, by omega⟩ hf.2]; split <;> simp_all
  go_enter Tryz.func106, Tryz.ntmps106
  go_wp2_with (go_at_call 105; refine (split_calls _ _ h).mono ?_; rintro e w1 ⟨rfl, hb⟩)
  all_goals
    go_ret
    refine ⟨ret_int ?_, below_trans hb (below_alloc _ _)⟩
    unfold classV
    repeat' split
    all_goals first | rfl | (exfalso; simp_all <;> omega) | (exfalso; omega)

set_option maxHeartbeats 400000 in
theorem join_calls (s : Bool) (e f : Int) (w : World) (h2 : U f) :
    Calls Tryz.prog 113 #[.agg #[.bool s, .int .i64 e, .int .u64 f]] w fun r w' => r = .returned (.tuple #[.int .u64 (joinV s e f), .int .i64 (joinE e f)]) ∧ Below w.heap.size w w' := by
  by_cases c : e < 0 ∨ 2047 < e ∨ 4503599627370495 < f
  · have hE : Hid (joinE e f = 2) := by unfold joinE; rw [Hid, if_pos c]
    have hV : Hid (joinV s e f = 0) := by unfold joinV; rw [Hid, hE.out]; rfl
    obtain ⟨h0, h1⟩ := h2
    have hc : (decide (e < 0) || decide (2047 < e) || decide (4503599627370495 < f)) = true := by simp; omega
    by_cases c1 : e < 0
    all_goals by_cases c2 : 2047 < e
    all_goals by_cases c3 : 4503599627370495 < f
    all_goals first
      | omega
      | (go_enter Tryz.func113, Tryz.ntmps113
         go_wp2
         go_ret2
         rw [hE.out, hV.out]
         exact ⟨rfl, below_alloc _ _⟩)
  · obtain ⟨h0, h1⟩ := h2
    have c1 : 0 ≤ e := by omega
    have c2 : e ≤ 2047 := by omega
    have c3 : f ≤ 4503599627370495 := by omega
    have hE : Hid (joinE e f = 0) := by unfold joinE; rw [Hid, if_neg c]
    have hV : Hid (joinV s e f = (if s then 9223372036854775808 else 0) + e * 4503599627370496 + f) := by unfold joinV; rw [Hid, hE.out]; rfl
    have E1 : Hid _ := or_fields e f c1 c2 h0 c3
    have E2 : Hid _ := or_top (e * 4503599627370496 + f) (by omega) (by omega)
    clear c
    cases s
    · go_enter Tryz.func113, Tryz.ntmps113
      go_wp2
      go_ret2
      refine ⟨?_, below_alloc _ _⟩
      rw [hE.out, hV.out]
      simp [E1.out]
    · go_enter Tryz.func113, Tryz.ntmps113
      go_wp2
      go_ret2
      refine ⟨?_, below_alloc _ _⟩
      rw [hE.out, hV.out]
      simp [E1.out, E2.out]
      omega

set_option maxHeartbeats 400000 in
theorem less_calls (x y : Int) (w : World) (h : U x) (k : U y) :
    Calls Tryz.prog 110 #[.int .u64 x, .int .u64 y] w fun e w' => e = .returned (.bool (lessB x y)) ∧ w' = w := by
  by_cases c1 : numB x = true
  · by_cases c2 : numB y = true
    · have hV : Hid (lessB x y = decide (rungV x < rungV y)) := by unfold lessB; rw [Hid, c1, c2]; rfl
      go_enter Tryz.func110, Tryz.ntmps110
      go_wp2_with fail
      refine (isNumber_calls _ _ h).mono ?_
      rintro e w' ⟨rfl, rfl⟩
      go_wp2_with fail
      refine (isNumber_calls _ _ k).mono ?_
      rintro e w' ⟨rfl, rfl⟩
      go_wp2_with fail
      refine (rung_calls _ _ h).mono ?_
      rintro e w' ⟨rfl, rfl⟩
      go_wp2_with fail
      refine (rung_calls _ _ k).mono ?_
      rintro e w' ⟨rfl, rfl⟩
      go_wp2_with fail
      go_ret
      exact ⟨ret_bool hV.out.symm, rfl⟩
    · have c3 : numB y = false := by simpa using c2
      clear c2
      have hV : Hid (lessB x y = false) := by unfold lessB; rw [Hid, c3]; simp
      go_enter Tryz.func110, Tryz.ntmps110
      go_wp2_with fail
      refine (isNumber_calls _ _ h).mono ?_
      rintro e w' ⟨rfl, rfl⟩
      go_wp2_with fail
      refine (isNumber_calls _ _ k).mono ?_
      rintro e w' ⟨rfl, rfl⟩
      go_wp2_with fail
      go_ret
      exact ⟨ret_bool hV.out.symm, rfl⟩
  · have c3 : numB x = false := by simpa using c1
    clear c1
    have hV : Hid (lessB x y = false) := by unfold lessB; rw [Hid, c3]; simp
    go_enter Tryz.func110, Tryz.ntmps110
    go_wp2_with fail
    refine (isNumber_calls _ _ h).mono ?_
    rintro e w' ⟨rfl, rfl⟩
    go_wp2_with fail
    go_ret
    exact ⟨ret_bool hV.out.symm, rfl⟩

theorem rungV_bd (x : Int) (h : U x) : -9223372036854775807 ≤ rungV x ∧ rungV x ≤ 9223372036854775807 := by
  unfold U at h; unfold rungV; split <;> omega
theorem steps_wrap (a b : Int) (h : a ≤ b) (ha : -9223372036854775807 ≤ a) (hb : b ≤ 9223372036854775807) :
    IntKind.u64.wrap (IntKind.u64.wrap b - IntKind.u64.wrap a) = b - a := by
  simp only [IntKind.wrap_u64]; omega

theorem tz_key (x a : Nat) (hx : x < 18446744073709551616) (hx0 : x ≠ 0) (hlow : x &&& (18446744073709551616 - x) = a) :
    IntKind.u64.wrap (bits BinOp.and IntKind.u64 (x : Int) (IntKind.u64.wrap (-(x : Int))) * 285870213051353865) / 288230376151711744 = ((a * 285870213051353865 % 18446744073709551616 / 288230376151711744 : Nat) : Int) := by
  have e1 : IntKind.u64.wrap (-(x : Int)) = ((18446744073709551616 - x : Nat) : Int) := by rw [IntKind.wrap_u64]; omega
  rw [e1, u64_and_nat x _ hx (by omega), hlow, IntKind.wrap_u64]
  omega

set_option maxHeartbeats 1000000 in
theorem tz_core (x k idx : Nat) (w : World) (hx0 : ((x : Int) == 0) = false)
    (key : IntKind.u64.wrap (bits BinOp.and IntKind.u64 (x : Int) (IntKind.u64.wrap (-(x : Int))) * 285870213051353865) / 288230376151711744 = (idx : Int))
    (hi : idx < 64) (hk : k < 64) (hcell : w.cell? ⟨3, idx, none⟩ = some (.int .u8 k)) :
    Calls Tryz.prog 127 #[.int .u64 x] w fun e w' => e = .returned (.int .i64 k) ∧ w' = w := by
  go_enter Tryz.func127, Tryz.ntmps127
  go_wp2_with (simp only [key])
  go_ret
  exact ⟨rfl, rfl⟩

set_option maxHeartbeats 400000 in
theorem tz_calls (x : Int) (w : World) (h0 : 0 < x) (h1 : x ≤ 18446744073709551615) (hT : Tab w) :
    Calls Tryz.prog 127 #[.int .u64 x] w fun e w' => e = .returned (.int .i64 (tzV x)) ∧ w' = w := by
  obtain ⟨n, rfl⟩ := Int.eq_ofNat_of_zero_le (show 0 ≤ x by omega)
  have hn0 : n ≠ 0 := by omega
  obtain ⟨hlow, hk⟩ := Lib.lowest_bit 64 n hn0 (by have : (2 : Nat) ^ 64 = 18446744073709551616 := by decide
                                                   omega)
  obtain ⟨hi, htab⟩ := Lib.deBruijn64_at _ hk
  have hcell := hT.2 _ hi
  rw [htab] at hcell
  unfold tzV
  rw [Int.toNat_natCast]
  exact tz_core n _ _ w (by simp; omega) (tz_key n _ (by omega) hn0 hlow) hi hk hcell

set_option maxHeartbeats 400000 in
theorem units_calls (x : Int) (w : World) (h : U x) :
    Calls Tryz.prog 78 #[.int .u64 x] w fun e w' => e = .returned (.tuple #[.int .u64 (countV x), .int .i64 (unitV x)]) ∧ Below w.heap.size w w' := by
  have hf := fracV_bd x
  have hx := expV_bd x
  by_cases c : expV x = 0
  · have hE : Hid (unitV x = -1074) := by unfold unitV; rw [Hid, if_pos c]
    have hV : Hid (countV x = fracV x) := by unfold countV; rw [Hid, if_pos c]
    have c' : (expV x == 0) = true := by simp [c]
    clear c
    go_enter Tryz.func78, Tryz.ntmps78
    go_wp2_with (go_at_call 105; refine (split_calls _ _ h).mono ?_; rintro e w1 ⟨rfl, hb⟩)
    go_ret2
    rw [hE.out, hV.out]
    exact ⟨rfl, below_trans hb (below_alloc _ _)⟩
  · have hE : Hid (unitV x = expV x - 1075) := by unfold unitV; rw [Hid, if_neg c]
    have hV : Hid (countV x = fracV x + 4503599627370496) := by unfold countV; rw [Hid, if_neg c]
    have hO : Hid _ := or_hidden (fracV x) hf.1 hf.2
    have c' : (expV x == 0) = false := by simp [c]
    clear c
    go_enter Tryz.func78, Tryz.ntmps78
    go_wp2_with (go_at_call 105; refine (split_calls _ _ h).mono ?_; rintro e w1 ⟨rfl, hb⟩)
    go_region
    go_wp2
    go_ret2
    rw [hE.out, hV.out, ← hO.out]
    exact ⟨rfl, (below_trans hb (below_alloc _ _)).drew⟩
end Go.Proofs.YtkkccnpmcbpdnaaGreatDoor

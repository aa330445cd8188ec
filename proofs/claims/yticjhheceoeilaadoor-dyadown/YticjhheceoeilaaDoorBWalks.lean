/- The walks of package bits: what each of its functions answers, for every uint64, in whatever memory. -/
import Derived.Test.YticjhheceoeilaaDoorRows
import Derived.Test.YticjhheceoeilaaDoorBits
import Derived.WalkKit
import Derived.WalkSpells
import Derived.WalkLawsBesides
namespace Go.Proofs.YticjhheceoeilaaDoor
open Go.RowKit

/-- The table of math/bits in its variable. -/
def Tab (w : World) : Prop := 0 < w.heap.size ∧ ∀ j, j < 64 → w.cell? ⟨0, j, none⟩ = some (.int .u8 (Lib.deBruijn64tab.getD j 0))
theorem Tab.kept {w w' : World} (h : Tab w) (hb : Below w.heap.size w w') : Tab w' :=
  ⟨Nat.lt_of_lt_of_le h.1 hb.size, fun j hj => by rw [hb.cell (p := ⟨0, j, none⟩) h.1]; exact h.2 j hj⟩

theorem bcell {W w1 : World} (hb : Below W.heap.size W w1) : (∀ b o, b < W.heap.size → w1.cell? ⟨b, o, none⟩ = W.cell? ⟨b, o, none⟩) ∧ (∀ b o, b < W.heap.size → w1.frozen? ⟨b, o, none⟩ = W.frozen? ⟨b, o, none⟩) :=
  ⟨fun b o h => hb.cell (p := ⟨b, o, none⟩) h, fun b o h => hb.frozen (p := ⟨b, o, none⟩) h⟩
theorem below_trans {a b c : World} (h : Below a.heap.size a b) (k : Below b.heap.size b c) : Below a.heap.size a c := h.trans (k.mono h.size)
theorem below_alloc (w : World) (o : Obj) : Below w.heap.size w (w.alloc o) := (Below.refl _ _).alloc (Nat.le_refl _) o
theorem ret_int {k : IntKind} {a b : Int} (h : a = b) : Ending.returned (.int k a) = .returned (.int k b) := by rw [h]
theorem ret_bool {a b : Bool} (h : a = b) : Ending.returned (.bool a) = .returned (.bool b) := by rw [h]

set_option maxHeartbeats 400000 in
theorem abs_calls (x : Int) (w : World) (h : U x) :
    Calls Tryd.prog 70 #[.int .u64 x] w fun e w' => e = .returned (.int .u64 (absV x)) ∧ w' = w := by
  have e : Hid _ := andNot_sign x h
  obtain ⟨h0, h1⟩ := h
  go_enter Tryd.func70, Tryd.ntmps70
  go_wp2
  go_ret
  exact ⟨ret_int e.out, rfl⟩

set_option maxHeartbeats 400000 in
theorem split_calls (x : Int) (w : World) (h : U x) :
    Calls Tryd.prog 43 #[.int .u64 x] w fun e w' => e = .returned (.agg #[.bool (sgnB x), .int .i64 (expV x), .int .u64 (fracV x)]) ∧ Below w.heap.size w w' := by
  have e1 : (bits .and .u64 x 9223372036854775808 != 0) = sgnB x := by
    rw [and_sign x h]; unfold sgnB; split <;> simp_all
  have e2 : wrap64 (bits .and .u64 (x / 4503599627370496) 2047) = expV x := by
    rw [and_exp x h]; have := expV_bd x; unfold wrap64; omega
  have e3 := and_frac x h
  have E1 := id (show Hid _ from e1); have E2 := id (show Hid _ from e2); have E3 := id (show Hid _ from e3)
  clear e1 e2 e3
  obtain ⟨h0, h1⟩ := h
  go_enter Tryd.func43, Tryd.ntmps43
  go_wp2
  simp only [E1.out, E2.out, E3.out]
  exact bodyPost_ret (v := .agg #[.bool (sgnB x), .int .i64 (expV x), .int .u64 (fracV x)]) (by simp [results, Tryd.results43, go_sem]) rfl ⟨rfl, below_alloc _ _⟩

set_option maxHeartbeats 400000 in
theorem isNaN_calls (x : Int) (w : World) :
    Calls Tryd.prog 112 #[.int .u64 x] w fun e w' => e = .returned (.bool false) ∧ w' = w := by
  go_enter Tryd.func112, Tryd.ntmps112
  go_wp2
  go_ret
  exact ⟨ret_bool (by simp), rfl⟩

set_option maxHeartbeats 400000 in
theorem compare_calls (x y : Int) (w : World) :
    Calls Tryd.prog 106 #[.int .u64 x, .int .u64 y] w fun e w' => e = .returned (.int .i64 (cmpV x y)) ∧ w' = w := by
  by_cases c1 : x < y
  · have hV : Hid (cmpV x y = -1) := by unfold cmpV; rw [Hid, if_pos c1]
    go_enter Tryd.func106, Tryd.ntmps106
    go_wp2_with (go_at_call 112; refine (isNaN_calls _ _).mono ?_; rintro e w' ⟨rfl, rfl⟩)
    go_ret
    exact ⟨ret_int hV.out.symm, rfl⟩
  · by_cases c2 : y < x
    · have hV : Hid (cmpV x y = 1) := by unfold cmpV; rw [Hid, if_neg c1, if_pos c2]
      go_enter Tryd.func106, Tryd.ntmps106
      go_wp2_with (go_at_call 112; refine (isNaN_calls _ _).mono ?_; rintro e w' ⟨rfl, rfl⟩)
      go_ret
      exact ⟨ret_int hV.out.symm, rfl⟩
    · have hV : Hid (cmpV x y = 0) := by unfold cmpV; rw [Hid, if_neg c1, if_neg c2]
      go_enter Tryd.func106, Tryd.ntmps106
      go_wp2_with (go_at_call 112; refine (isNaN_calls _ _).mono ?_; rintro e w' ⟨rfl, rfl⟩)
      go_ret
      exact ⟨ret_int hV.out.symm, rfl⟩

theorem rungV_bd (x : Int) (h : U x) : -9223372036854775807 ≤ rungV x ∧ rungV x ≤ 9223372036854775807 := by
  unfold U at h; unfold rungV; split <;> omega
theorem steps_wrap (a b : Int) (h : a ≤ b) (ha : -9223372036854775807 ≤ a) (hb : b ≤ 9223372036854775807) :
    IntKind.u64.wrap (IntKind.u64.wrap b - IntKind.u64.wrap a) = b - a := by
  simp only [IntKind.wrap_u64]; omega

theorem tz_key (x a : Nat) (hx : x < 18446744073709551616) (hx0 : x ≠ 0) (hlow : x &&& (18446744073709551616 - x) = a) :
    IntKind.u64.wrap (bits BinOp.and IntKind.u64 (x : Int) (IntKind.u64.wrap (-(x : Int))) * 285870213051353865) / 288230376151711744 = ((a * 285870213051353865 % 18446744073709551616 / 288230376151711744 : Nat) : Int) := by
  have e1 : IntKind.u64.wrap (-(x : Int)) = ((18446744073709551616 - x : Nat) : Int) := by rw [IntKind.wrap_u64]; omega
  rw [e1, u64_and_nat x _ hx (by omega), hlow, IntKind.wrap_u64]
  omega

set_option maxHeartbeats 1000000 in
theorem tz_core (x k idx : Nat) (w : World) (hx0 : ((x : Int) == 0) = false)
    (key : IntKind.u64.wrap (bits BinOp.and IntKind.u64 (x : Int) (IntKind.u64.wrap (-(x : Int))) * 285870213051353865) / 288230376151711744 = (idx : Int))
    (hi : idx < 64) (hk : k < 64) (hcell : w.cell? ⟨0, idx, none⟩ = some (.int .u8 k)) :
    Calls Tryd.prog 76 #[.int .u64 x] w fun e w' => e = .returned (.int .i64 k) ∧ w' = w := by
  go_enter Tryd.func76, Tryd.ntmps76
  go_wp2_with (simp only [key])
  go_ret
  exact ⟨rfl, rfl⟩

set_option maxHeartbeats 400000 in
theorem tz_calls (x : Int) (w : World) (h0 : 0 < x) (h1 : x ≤ 18446744073709551615) (hT : Tab w) :
    Calls Tryd.prog 76 #[.int .u64 x] w fun e w' => e = .returned (.int .i64 (tzV x)) ∧ w' = w := by
  obtain ⟨n, rfl⟩ := Int.eq_ofNat_of_zero_le (show 0 ≤ x by omega)
  have hn0 : n ≠ 0 := by omega
  obtain ⟨hlow, hk⟩ := Lib.lowest_bit 64 n hn0 (by have : (2 : Nat) ^ 64 = 18446744073709551616 := by decide
                                                   omega)
  obtain ⟨hi, htab⟩ := Lib.deBruijn64_at _ hk
  have hcell := hT.2 _ hi
  rw [htab] at hcell
  unfold tzV
  rw [Int.toNat_natCast]
  exact tz_core n _ _ w (by simp; omega) (tz_key n _ (by omega) hn0 hlow) hi hk hcell

set_option maxHeartbeats 400000 in
theorem units_calls (x : Int) (w : World) (h : U x) :
    Calls Tryd.prog 71 #[.int .u64 x] w fun e w' => e = .returned (.tuple #[.int .u64 (countV x), .int .i64 (unitV x)]) ∧ Below w.heap.size w w' := by
  have hf := fracV_bd x
  have hx := expV_bd x
  by_cases c : expV x = 0
  · have hE : Hid (unitV x = -1074) := by unfold unitV; rw [Hid, if_pos c]
    have hV : Hid (countV x = fracV x) := by unfold countV; rw [Hid, if_pos c]
    have c' : (expV x == 0) = true := by simp [c]
    clear c
    go_enter Tryd.func71, Tryd.ntmps71
    go_wp2_with (go_at_call 43; refine (split_calls _ _ h).mono ?_; rintro e w1 ⟨rfl, hb⟩)
    go_ret2
    rw [hE.out, hV.out]
    exact ⟨rfl, below_trans hb (below_alloc _ _)⟩
  · have hE : Hid (unitV x = expV x - 1075) := by unfold unitV; rw [Hid, if_neg c]
    have hV : Hid (countV x = fracV x + 4503599627370496) := by unfold countV; rw [Hid, if_neg c]
    have hO : Hid _ := or_hidden (fracV x) hf.1 hf.2
    have c' : (expV x == 0) = false := by simp [c]
    clear c
    go_enter Tryd.func71, Tryd.ntmps71
    go_wp2_with (go_at_call 43; refine (split_calls _ _ h).mono ?_; rintro e w1 ⟨rfl, hb⟩)
    go_region
    go_wp2
    go_ret2
    rw [hE.out, hV.out, ← hO.out]
    exact ⟨rfl, (below_trans hb (below_alloc _ _)).drew⟩
end Go.Proofs.YticjhheceoeilaaDoor

/- The walk of guess: what the two top words of a divisor tell. -/
import Derived.Deep.LoopGhost
import Derived.Deep.RegionWith
import Derived.Deep.RegionHeld3
import Derived.Deep.DrawnRows
import Derived.Test.YtahpdcbmekgkfaaGreatDoorTMK
namespace Go.Proofs.YtahpdcbmekgkfaaGreatDoor
open Go.RowKit
theorem wrapI_small (n : Nat) (h : n ≤ 9223372036854775807) : IntKind.i64.wrap (n : Int) = (n : Int) := by
 unfold IntKind.wrap
 simp [IntKind.bits, IntKind.signed]
 omega
attribute [local go_sem ↓] Go.wp_at_zero Go.wp_at_succ
set_option maxRecDepth 100000 in
set_option maxHeartbeats 4000000 in
theorem guess_calls (ga oa gb ob n n1 n2 na ca cb : Nat) (an an1 an2 top next : Nat) (w : World) (e1 : n = n1 + 1) (e2 : n1 = n2 + 1) (hna : na = n + 1) (hn : n ≤ 17592186044416)
  (h0 : w.cell? ⟨ga, oa + n, none⟩ = some (.int .u64 (an : Int))) (h1 : w.cell? ⟨ga, oa + n1, none⟩ = some (.int .u64 (an1 : Int))) (h2 : w.cell? ⟨ga, oa + n2, none⟩ = some (.int .u64 (an2 : Int)))
  (h3 : w.cell? ⟨gb, ob + n1, none⟩ = some (.int .u64 (top : Int))) (h4 : w.cell? ⟨gb, ob + n2, none⟩ = some (.int .u64 (next : Int)))
  (b1 : an1 < 18446744073709551616) (b2 : an2 < 18446744073709551616) (b3 : top < 18446744073709551616) (b4 : next < 18446744073709551616) (b5 : 0 < top) (b6 : an ≤ top) :
  Calls Tryz.prog 227 #[.slice (some ⟨ga, oa, none⟩) na ca, .slice (some ⟨gb, ob, none⟩) n cb] w fun e w' => ∃ k : Nat, e = .returned (.int .u64 (k : Int)) ∧ k < 18446744073709551616 ∧ Hid (k * Top2 top next ≤ Top3 an an1 an2) ∧ Hid (∀ t, t < 18446744073709551616 → t * Top2 top next ≤ Top3 an an1 an2 → t ≤ k) ∧ Below w.heap.size w w' := by
 have q1 : (n : Int) - 1 = (n1 : Int) := by omega
 have q2 : (n : Int) - 2 = (n2 : Int) := by omega
 have g1 : n1 < n := by omega
 have g2 : n2 < n := by omega
 have g3 : n < na := by omega
 have g4 : n1 < na := by omega
 have g5 : n2 < na := by omega
 have hw1 : IntKind.i64.wrap ((n : Int) - 1) = (n1 : Int) := by rw [q1]; exact wrapI_small _ (by omega)
 have hw2 : IntKind.i64.wrap ((n : Int) - 2) = (n2 : Int) := by rw [q2]; exact wrapI_small _ (by omega)
 have hw3 : IntKind.i64.wrap (n1 : Int) = (n1 : Int) := wrapI_small _ (by omega)
 have hw4 : IntKind.i64.wrap (n2 : Int) = (n2 : Int) := wrapI_small _ (by omega)
 have i1 : (n1 : Int) < (na : Int) := by omega
 have i2 : (n2 : Int) < (na : Int) := by omega
 have i3 : (n : Int) < (na : Int) := by omega
 have HE : Hid (n = n1 + 1 ∧ n1 = n2 + 1 ∧ na = n + 1) := ⟨e1, e2, hna⟩
 clear e1 e2 hna
 go_enter Tryz.func227, Tryz.ntmps227
 go_wp2_with fail
 go_region
 go_wp2_with fail
 go_region_with (go_at_call 231; refine (ntop_calls an an1 top _ b6 b1 b3 b5).mono ?_; rintro e w2 ⟨q, r, b, rfl, HQ, bq, br, bb, hor, hb⟩)
 all_goals go_wp2_with fail
 all_goals
  have hb3 : Below w.heap.size w w2 := ((Below.refl _ _).drew.drew).trans hb
  clear hb
  go_simp
  go_loopg [8, 9, 10] q (fun g vq vr vb wr => ∃ (r b : Nat), g < 18446744073709551616 ∧ vq = .int .u64 (g : Int) ∧ vr = .int .u64 (r : Int) ∧ vb = .int .u64 (b : Int) ∧ r < 18446744073709551616 ∧ b ≤ 1 ∧ Hid (g * top + (r + 18446744073709551616 * b) = an * 18446744073709551616 + an1) ∧ Hid (∀ t, t < 18446744073709551616 → t * Top2 top next ≤ Top3 an an1 an2 → t ≤ g) ∧ Below w.heap.size w wr)
  case atStart => exact ⟨r, b, bq, rfl, rfl, rfl, br, bb, HQ, gs_start b2 HQ.out hor.out, hb3⟩
  case round =>
   clear HQ hor bq br bb hb3
   obtain ⟨r, b, hk, rfl, rfl, rfl, hr, hb, HQ, HT, hbr⟩ := hrel
   have c2 := carry_cell hbr h2
   have hne := World.new_ne wr _ c2
   by_cases hb0 : b = 0
   ·subst hb0
    by_cases hgt : r * 18446744073709551616 + an2 < gk * next
    ·have hdn := gs_down HQ.out HT.out hgt
     have hd : decide (r < mH gk next ∨ r = mH gk next ∧ an2 < mL gk next) = true := decide_eq_true ((guess_above gk next r an2 b2).2 hgt)
     have HD : Hid (∀ t, t < 18446744073709551616 → t * Top2 top next ≤ Top3 an an1 an2 → t ≤ gk - 1) := hdn.2
     have hk0 := hdn.1
     have hr2 : ∀ w, (callFunc 225 #[.int .u64 (r : Int), .int .u64 (top : Int), .int .u64 0]).run Tryz.prog w = .ok (.value (.tuple #[.int .u64 (((r + top) % 18446744073709551616 : Nat) : Int), .int .u64 (((r + top) / 18446744073709551616 : Nat) : Int)])) w := fun w => add64_run r top 0 (by decide) w
     obtain ⟨r', hr1⟩ : ∃ r', r' = (r + top) % 18446744073709551616 := ⟨_, rfl⟩
     obtain ⟨b', hb1⟩ : ∃ b', b' = (r + top) / 18446744073709551616 := ⟨_, rfl⟩
     rw [← hr1, ← hb1] at hr2
     obtain ⟨k', hk'⟩ : ∃ k', gk = k' + 1 := ⟨gk - 1, by omega⟩
     have hkw : IntKind.u64.wrap ((gk : Int) - 1) = (k' : Int) := by rw [IntKind.wrap_u64]; omega
     have hb1' : b' ≤ 1 := by omega
     have hr1' : r' < 18446744073709551616 := by omega
     have HN : Hid (k' * top + (r' + 18446744073709551616 * b') = an * 18446744073709551616 + an1) := by
      have e := HQ.out
      rw [hk', Nat.add_mul, Nat.one_mul] at e
      rw [Hid]
      generalize k' * top = x at *
      omega
     have HK : Hid (gk = k' + 1) := hk'
     clear hdn hgt hr1 hb1 hk'
     go_wp2_with fail
     go_region_held3 (fun w' => w'.cell? ⟨ga, oa + n2, none⟩ = some (.int .u64 (an2 : Int))) (first | (go_keep; done) | (refine carry_cell (W := wr) ?_ c2; repeat (first | exact Below.refl _ _ | apply Below.drew | refine Below.alloc ?_ (by simp; try omega) _))) (first
      | (go_at_call 213; refine (product_calls gk next _ hk b4).mono ?_; rintro e w4 ⟨rfl, rfl⟩)
      | (go_at_call 230; refine (above_calls _ _ _ _ _).mono ?_; rintro e w5 ⟨rfl, rfl⟩; rw [hd]))
     all_goals
      go_wp2_with fail
      go_roundg k'
      case measure => have := HK.out; omega
      case rel => exact ⟨r', b', by have := HK.out; omega, rfl, rfl, rfl, hr1', hb1', HN, fun t ht hl => by have := HD.out t ht hl; have := HK.out; omega, by
       repeat (first | exact hbr | apply Below.drew | refine Below.alloc ?_ (by have := hbr.size; simp; omega) _)⟩
    ·have hd : decide (r < mH gk next ∨ r = mH gk next ∧ an2 < mL gk next) = false := decide_eq_false (fun q => hgt ((guess_above gk next r an2 b2).1 q))
     have HX : Hid (gk * Top2 top next ≤ Top3 an an1 an2) := gs_end HQ.out (by simpa using hgt)
     clear hgt
     go_wp2_with fail
     go_region_held3 (fun w' => w'.cell? ⟨ga, oa + n2, none⟩ = some (.int .u64 (an2 : Int))) (first | (go_keep; done) | (refine carry_cell (W := wr) ?_ c2; repeat (first | exact Below.refl _ _ | apply Below.drew | refine Below.alloc ?_ (by simp; try omega) _))) (first
      | (go_at_call 213; refine (product_calls gk next _ hk b4).mono ?_; rintro e w4 ⟨rfl, rfl⟩)
      | (go_at_call 230; refine (above_calls _ _ _ _ _).mono ?_; rintro e w5 ⟨rfl, rfl⟩; rw [hd]))
     all_goals
      go_wp2_with fail
      go_ret
      exact ⟨gk, rfl, hk, HX, HT, by
       repeat (first | exact hbr | apply Below.drew | refine Below.alloc ?_ (by have := hbr.size; simp; omega) _)⟩
   ·have hb1 : b = 1 := by omega
    subst hb1
    have HX : Hid (gk * Top2 top next ≤ Top3 an an1 an2) := gs_end HQ.out (by
     have : gk * next ≤ 18446744073709551615 * 18446744073709551615 := Nat.mul_le_mul (by omega) (by omega)
     omega)
    go_wp2_with fail
    go_region
    go_wp2_with fail
    go_ret
    exact ⟨gk, rfl, hk, HX, HT, hbr.drew⟩
end Go.Proofs.YtahpdcbmekgkfaaGreatDoor

/- Pairs: differences; which are right. -/
import Derived.Test.YtckpfohfbfmmnaaDD2
import Derived.Test.YtckpfohfbfmmnaaEMod
import Derived.Deep.RegionWith
import Derived.Laws.BitsAllLaws
namespace Go.Proofs.Ytckpfohfbfmmnaa
open Go.RowKit EP
attribute [local go_sem] ran_store

set_option maxRecDepth 100000 in
set_option maxHeartbeats 2000000 in
theorem ddiff_calls (xh xl yh yl : Nat) (w : World) :
    Calls Try.prog 79 #[.agg #[.float .f64 xh, .float .f64 xl], .agg #[.float .f64 yh, .float .f64 yl]] w (Pr w (diffP xh xl yh yl)) := by
  go_enter Try.func79, Try.ntmps79
  go_wp2_with fail
  go_region_with (first
    | (go_at_call 59; refine (less_calls yh yl _).mono ?_; rintro e w1 ⟨nh, nl, rfl, b1, H1⟩; have N1 : nh = Op.negFloat .f64 yh ∧ nl = Op.negFloat .f64 yl := H1 _ rfl; clear H1; obtain ⟨rfl, rfl⟩ := N1; have m0 : w1.cell? ⟨w.heap.size, 0, none⟩ = some (.float .f64 xh) := pcarry b1 (by go_simp); have m1 : w1.cell? ⟨w.heap.size, 1, none⟩ = some (.float .f64 xl) := pcarry b1 (by go_simp); have m2 : w1.cell? ⟨w.heap.size + 1 + 1, 0, none⟩ = some (.float .f64 0) := pcarry b1 (by go_simp); have m3 : w1.cell? ⟨w.heap.size + 1 + 1, 1, none⟩ = some (.float .f64 0) := pcarry b1 (by go_simp); have k2 : w1.frozen? ⟨w.heap.size + 1 + 1, 0, none⟩ = false := pcarryF (v := .float .f64 0) b1 (by go_simp) (by go_simp); have k3 : w1.frozen? ⟨w.heap.size + 1 + 1, 1, none⟩ = false := pcarryF (v := .float .f64 0) b1 (by go_simp) (by go_simp); have bw1 : Below w.heap.size w w1 := Below.trans (by repeat (first | exact Below.refl _ _ | assumption | refine Below.drew ?_ | refine below_drewN ?_ _ | refine Below.alloc ?_ (by first | (simp; done) | (simp; omega) | omega) _)) (b1.mono (by first | (simp; done) | (simp; omega) | omega)); clear b1)
    | (go_at_call 72; refine (dsum_calls xh xl _ _ _).mono ?_; rintro e w2 ⟨s, t, rfl, b2, H2⟩; have n2 := pcarry b2 m2; have n3 := pcarry b2 m3; have l2 := pcarryF b2 m2 k2; have l3 := pcarryF b2 m3 k3; have bw2 : Below w.heap.size w w2 := bw1.trans (b2.mono bw1.size)))
  all_goals go_wp2_with fail
  all_goals exact bodyPost_ret (v := .agg #[.float .f64 s, .float .f64 t]) (by simp [results, Try.results79, go_sem, n2, n3]) rfl ⟨_, _, rfl, by repeat (first | exact Below.refl _ _ | assumption | refine below_drewN ?_ _ | refine Below.setCell ?_ (by first | (simp; done) | (simp; omega) | omega) _ | refine Below.alloc ?_ (by first | (simp; done) | (simp; omega) | omega) _), H2⟩

/-- The amount of a float, by its bits. -/
def absF (x : Nat) : Nat := x % 9223372036854775808
theorem andNot_sign (x : Nat) (hx : x < 18446744073709551616) : bits .andNot .u64 (x : Int) 9223372036854775808 = ((absF x : Nat) : Int) := by
  have h := u64_andNot_nat x 9223372036854775808 hx (by decide)
  have e : (18446744073709551615 - 9223372036854775808 : Nat) = 2 ^ 63 - 1 := by decide
  rw [e, Nat.and_two_pow_sub_one_eq_mod] at h
  exact h
theorem abits_run (x : Nat) (w : World) : (callFunc 29 #[.float .f64 x]).run Try.prog w = .ok (.value (.int .u64 (x : Int))) w := by
  rw [run_callFunc_extern (e := Extern.MathFloatBits.float64bits) Try.func29 (by kernel_rfl) (by kernel_rfl) (by kernel_rfl) (by kernel_rfl)]
  rfl
theorem afrom_run (x : Int) (w : World) : (callFunc 83 #[.int .u64 x]).run Try.prog w = .ok (.value (.float .f64 x.toNat)) w := by
  rw [run_callFunc_extern (e := Extern.MathFloatBits.float64frombits) Try.func83 (by kernel_rfl) (by kernel_rfl) (by kernel_rfl) (by kernel_rfl)]
  rfl

set_option maxRecDepth 100000 in
set_option maxHeartbeats 1000000 in
theorem mAbs_calls (x : Nat) (w : World) (hx : x < 18446744073709551616) :
    Calls Try.prog 74 #[.float .f64 x] w fun e w' => e = .returned (.float .f64 (absF x)) ∧ w' = w := by
  have f0 := abits_run
  have f1 := afrom_run
  have HA : Hid (bits .andNot .u64 (x : Int) 9223372036854775808 = ((absF x : Nat) : Int)) := andNot_sign x hx
  clear hx
  go_enter Try.func74, Try.ntmps74
  go_wp2_with fail
  go_ret
  rw [HA.out]
  exact ⟨rfl, rfl⟩

/-- 2^-300 at least; 2^300 at most; the sum is the first. -/
def le1 (y : Nat) : Bool := Ieee.double.order 3256102530588868608 y == some .lt || Ieee.double.order 3256102530588868608 y == some .eq
def le2 (y : Nat) : Bool := Ieee.double.order y 5958262307011166208 == some .lt || Ieee.double.order y 5958262307011166208 == some .eq
def sumEq (h l : Nat) : Bool := match Ieee.double.add h l with | some r => Ieee.double.order r h == some .eq | none => false
def rightP (h l : Nat) : Bool := if isZ h then isZ l else le1 (absF h) && (le2 (absF h) && sumEq h l)
theorem nan_order (x y c : Nat) (w : World) : Ieee.double.order ((Question.nanBits .f64 x y).cut (w.tape w.drawn (.nanBits .f64 x y))) c = none := by
  show Ieee.double.order ((w.tape w.drawn (.nanBits .f64 x y) % 2) * 2 ^ 63 + 0x7ff0000000000000 + 1 + (w.tape w.drawn (.nanBits .f64 x y) / 2) % (2 ^ 52 - 1)) c = none
  generalize w.tape w.drawn (.nanBits .f64 x y) = t
  have hr : ∃ f, Ieee.double.read ((t % 2) * 2 ^ 63 + 0x7ff0000000000000 + 1 + (t / 2) % (2 ^ 52 - 1)) = .nan (negB ((t % 2) * 2 ^ 63 + 0x7ff0000000000000 + 1 + (t / 2) % (2 ^ 52 - 1))) f := by
    have hm : ((t % 2) * 2 ^ 63 + 0x7ff0000000000000 + 1 + (t / 2) % (2 ^ 52 - 1)) % 9223372036854775808 = 9218868437227405313 + (t / 2) % 4503599627370495 := by omega
    have hs : Ieee.double.signWeight = 9223372036854775808 := by decide
    have hbi : Ieee.double.binade = 4503599627370496 := by decide
    have hir : Ieee.double.infRung = 9218868437227405312 := by decide
    unfold Ieee.Format.read
    dsimp only
    rw [hs, hbi, hir, hm]
    rw [if_neg (by omega), if_neg (by omega), if_neg (by omega)]
    exact ⟨_, rfl⟩
  obtain ⟨f, hr⟩ := hr
  unfold Ieee.Format.order
  rw [hr]
  rfl
theorem sumEq_fv (h l : Nat) (w : World) : (Ieee.double.order (fv .add h l w) h == some .eq) = sumEq h l := by
  unfold fv sumEq
  show (Ieee.double.order (match Ieee.double.add h l with | some r => r | none => _) h == some .eq) = _
  cases Ieee.double.add h l with
  | some r => rfl
  | none => simp only; rw [nan_order]; rfl
theorem R_zero (r : Nat) (h : R r = 0) : r = 0 := by
  unfold R at h
  split at h
  · exact h
  · have := pow2_pos (r / 4503599627370496 - 1)
    rcases Nat.mul_eq_zero.1 h with h | h <;> omega
theorem absF_zero (h : Nat) (hz : isZ h = true) : absF h = 0 := by
  obtain ⟨_, hv⟩ := zero_V h hz
  unfold V at hv
  have : R (h % 9223372036854775808) = 0 := by split at hv <;> omega
  exact R_zero _ this
theorem le1_zero : le1 0 = false := by decide +kernel

theorem or_no {o : Option Ordering} {a b : Ordering} (h : ¬ (o = some a ∨ o = some b)) : (o == some a || o == some b) = false := by
  rw [not_or] at h
  rw [beq_eq_false_iff_ne.2 h.1, beq_eq_false_iff_ne.2 h.2]; rfl

set_option maxRecDepth 100000 in
set_option maxHeartbeats 2000000 in
theorem dRight_calls (h l : Nat) (w : World) (hh : h < 18446744073709551616) :
    Calls Try.prog 57 #[.agg #[.float .f64 h, .float .f64 l]] w fun e w' => e = .returned (.bool (rightP h l)) ∧ Below w.heap.size w w' := by
  have r1 := ran_add Try.prog
  have q1 : ∀ x y w, (Op.equalIn 9999 22 (.float .f64 x) (.float .f64 y)).run Try.prog w = .ok (Ieee.double.order x y == some .eq) w := fun x y w => eqF Try.prog 22 9998 x y w Try.underlying22
  have HA : Hid _ := fun w => mAbs_calls h w hh
  have HS : Hid (∀ w, (FloatKind.f64.format.order (fv .add h l w) h == some .eq) = sumEq h l) := sumEq_fv h l
  have KEY : Hid (∀ w', Ending.returned (.bool (((FloatKind.f64.format.order 3256102530588868608 (absF h) == some .lt || FloatKind.f64.format.order 3256102530588868608 (absF h) == some .eq) && (FloatKind.f64.format.order (absF h) 5958262307011166208 == some .lt || FloatKind.f64.format.order (absF h) 5958262307011166208 == some .eq)) && (FloatKind.f64.format.order (fv .add h l w') h == some .eq))) = .returned (.bool ((le1 (absF h) && le2 (absF h)) && sumEq h l))) := fun w' => by rw [HS.out w']; rfl
  clear hh
  by_cases hb : isZ h = true ∧ isZ l = true
  · have z1 : (Ieee.double.order h 0 == some .eq) = true := hb.1
    have z2 : (Ieee.double.order l 0 == some .eq) = true := hb.2
    have HE : Hid (rightP h l = true) := by rw [Hid, rightP, if_pos hb.1]; exact hb.2
    clear hb
    go_enter Try.func57, Try.ntmps57
    go_wp2_with fail
    go_ret
    rw [HE.out]
    exact ⟨rfl, (Below.refl _ _).alloc (Nat.le_refl _) _⟩
  · have HE : Hid (rightP h l = ((le1 (absF h) && le2 (absF h)) && sumEq h l)) := by
      rw [Hid, rightP]
      cases hz : isZ h with
      | true =>
        rw [if_pos rfl, absF_zero h hz, le1_zero]
        cases hl : isZ l with
        | true => exact absurd ⟨hz, hl⟩ hb
        | false => rfl
      | false => rw [if_neg (by simp), Bool.and_assoc]
    cases hz : isZ h with
    | true =>
      have z1 : (Ieee.double.order h 0 == some .eq) = true := hz
      have z2 : (Ieee.double.order l 0 == some .eq) = false := by
        cases hl : isZ l with
        | true => exact absurd ⟨hz, hl⟩ hb
        | false => exact hl
      clear hb hz
      go_enter Try.func57, Try.ntmps57
      go_wp2_with fail
      refine Calls.mono (HA.out _) ?_
      rintro e w1 ⟨rfl, rfl⟩
      go_wp2_with fail
      all_goals go_ret
      · rw [HE.out]; exact ⟨KEY.out _, by repeat (first | exact Below.refl _ _ | assumption | refine below_drewN ?_ _ | refine Below.setCell ?_ (by first | (simp; done) | (simp; omega) | omega) _ | refine Below.alloc ?_ (by first | (simp; done) | (simp; omega) | omega) _)⟩
      · rename_i hno
        rw [HE.out, show le2 (absF h) = false from or_no hno, Bool.and_false, Bool.false_and]
        exact ⟨rfl, by repeat (first | exact Below.refl _ _ | assumption | refine below_drewN ?_ _ | refine Below.setCell ?_ (by first | (simp; done) | (simp; omega) | omega) _ | refine Below.alloc ?_ (by first | (simp; done) | (simp; omega) | omega) _)⟩
      · rename_i hno
        rw [HE.out, show le1 (absF h) = false from or_no hno, Bool.false_and, Bool.false_and]
        exact ⟨rfl, by repeat (first | exact Below.refl _ _ | assumption | refine below_drewN ?_ _ | refine Below.setCell ?_ (by first | (simp; done) | (simp; omega) | omega) _ | refine Below.alloc ?_ (by first | (simp; done) | (simp; omega) | omega) _)⟩
    | false =>
      have z1 : (Ieee.double.order h 0 == some .eq) = false := hz
      clear hb hz
      go_enter Try.func57, Try.ntmps57
      go_wp2_with fail
      refine Calls.mono (HA.out _) ?_
      rintro e w1 ⟨rfl, rfl⟩
      go_wp2_with fail
      all_goals go_ret
      · rw [HE.out]; exact ⟨KEY.out _, by repeat (first | exact Below.refl _ _ | assumption | refine below_drewN ?_ _ | refine Below.setCell ?_ (by first | (simp; done) | (simp; omega) | omega) _ | refine Below.alloc ?_ (by first | (simp; done) | (simp; omega) | omega) _)⟩
      · rename_i hno
        rw [HE.out, show le2 (absF h) = false from or_no hno, Bool.and_false, Bool.false_and]
        exact ⟨rfl, by repeat (first | exact Below.refl _ _ | assumption | refine below_drewN ?_ _ | refine Below.setCell ?_ (by first | (simp; done) | (simp; omega) | omega) _ | refine Below.alloc ?_ (by first | (simp; done) | (simp; omega) | omega) _)⟩
      · rename_i hno
        rw [HE.out, show le1 (absF h) = false from or_no hno, Bool.false_and, Bool.false_and]
        exact ⟨rfl, by repeat (first | exact Below.refl _ _ | assumption | refine below_drewN ?_ _ | refine Below.setCell ?_ (by first | (simp; done) | (simp; omega) | omega) _ | refine Below.alloc ?_ (by first | (simp; done) | (simp; omega) | omega) _)⟩
end Go.Proofs.Ytckpfohfbfmmnaa

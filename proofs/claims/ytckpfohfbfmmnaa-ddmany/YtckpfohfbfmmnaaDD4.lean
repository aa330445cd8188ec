/- Which pairs are right: the document's. -/
import Derived.Test.YtckpfohfbfmmnaaDD3
namespace Go.Proofs.Ytckpfohfbfmmnaa
open Go.RowKit EP
attribute [local go_sem] ran_store

theorem cmp_swapN (a b : Nat) : (compare a b).swap = compare b a := by
  show (compareOfLessAndEq a b).swap = compareOfLessAndEq b a
  unfold compareOfLessAndEq
  rcases Nat.lt_trichotomy a b with h | h | h
  · rw [if_pos h, if_neg (by omega), if_neg (by omega)]; rfl
  · subst h; rw [if_neg (by omega), if_pos rfl]; rfl
  · rw [if_neg (by omega), if_neg (by omega), if_pos h]; rfl
theorem cmp_swapI (a b : Int) : (compare a b).swap = compare b a := by
  show (compareOfLessAndEq a b).swap = compareOfLessAndEq b a
  unfold compareOfLessAndEq
  rcases Int.lt_trichotomy a b with h | h | h
  · rw [if_pos h, if_neg (by omega), if_neg (by omega)]; rfl
  · subst h; rw [if_neg (by omega), if_pos rfl]; rfl
  · rw [if_neg (by omega), if_neg (by omega), if_pos h]; rfl
theorem order_swap (x y : Nat) : Ieee.double.order y x = (Ieee.double.order x y).map Ordering.swap := by
  unfold Ieee.Format.order
  cases Ieee.double.read x with
  | nan s f => cases Ieee.double.read y <;> rfl
  | infinity s =>
    cases Ieee.double.read y with
    | nan t f => rfl
    | infinity t => show some _ = some _; rw [cmp_swapN]
    | number t n j => show some _ = some _; cases s <;> rfl
  | number s m i =>
    cases Ieee.double.read y with
    | nan t f => rfl
    | infinity t => show some _ = some _; cases t <;> rfl
    | number t n j =>
      show some _ = some _
      rw [cmp_swapI, Int.min_comm]
def ge1 (y : Nat) : Bool := Ieee.double.order y 3256102530588868608 == some .gt || Ieee.double.order y 3256102530588868608 == some .eq
theorem ge1_le1 (y : Nat) : ge1 y = le1 y := by
  unfold ge1 le1
  rw [order_swap 3256102530588868608 y]
  cases Ieee.double.order 3256102530588868608 y with
  | none => rfl
  | some o => cases o <;> rfl
theorem xor_sign (x : Nat) (h1 : 9223372036854775808 ≤ x) (h2 : x < 18446744073709551616) : Op.negFloat .f64 x = absF x := by
  obtain ⟨r, rfl⟩ : ∃ r, x = 2 ^ 63 + r := ⟨x - 2 ^ 63, by omega⟩
  have hr : r < 2 ^ 63 := by omega
  have ha : absF (2 ^ 63 + r) = r := by unfold absF; omega
  rw [ha]
  show (2 ^ 63 + r) ^^^ 2 ^ 63 = r
  refine Nat.eq_of_testBit_eq fun i => ?_
  rw [Nat.testBit_xor, Nat.testBit_two_pow]
  rcases Nat.lt_trichotomy i 63 with h | h | h
  · rw [Nat.testBit_two_pow_add_gt h, show decide (63 = i) = false from decide_eq_false (by omega), Bool.xor_false]
  · subst h; rw [Nat.testBit_two_pow_add_eq]; simp
  · have : (2 ^ 63 + r).testBit i = false := Nat.testBit_lt_two_pow (Nat.lt_of_lt_of_le (show 2 ^ 63 + r < 2 ^ 64 by omega) (Nat.pow_le_pow_right (by decide) (by omega)))
    have h3 : r.testBit i = false := Nat.testBit_lt_two_pow (Nat.lt_of_lt_of_le hr (Nat.pow_le_pow_right (by decide) (by omega)))
    rw [this, h3, show decide (63 = i) = false from decide_eq_false (by omega)]; rfl
theorem neg_of_lt (x : Nat) (hx : x < 18446744073709551616) (h : Ieee.double.order x 0 = some .lt) : 9223372036854775808 ≤ x := by
  refine Nat.le_of_not_lt fun hlt => ?_
  have hn : negB x = false := by unfold negB; rw [show x / 9223372036854775808 = 0 by omega]; rfl
  cases hf : finB x with
  | true =>
    have := order_lt_V x 0 hf (by decide) h
    have h0 : V 0 = 0 := by decide
    have h2 : V x = (R (x % 9223372036854775808) : Int) := by unfold V; rw [hn]; rfl
    rw [h0, h2] at this
    omega
  | false =>
    rcases order_wild x 0 hf (by decide) with k | k
    · rw [k] at h; cases h
    · rw [k, hn] at h; cases h
theorem pos_of_gt (x : Nat) (hx : x < 18446744073709551616) (h : Ieee.double.order x 0 = some .gt) : absF x = x := by
  unfold absF
  refine Nat.mod_eq_of_lt (Nat.lt_of_not_le fun hle => ?_)
  have hn : negB x = true := by unfold negB; rw [show x / 9223372036854775808 = 1 by omega]; rfl
  cases hf : finB x with
  | true =>
    have := order_gt_V x 0 hf (by decide) h
    have h0 : V 0 = 0 := by decide
    have h2 : V x = - (R (x % 9223372036854775808) : Int) := by unfold V; rw [hn]; rfl
    rw [h0, h2] at this
    omega
  | false =>
    rcases order_wild x 0 hf (by decide) with k | k
    · rw [k] at h; cases h
    · rw [k, hn] at h; cases h
theorem order_none (x c : Nat) (h : Ieee.double.order x 0 = none) : Ieee.double.order x c = none := by
  cases hf : finB x with
  | true => rw [order_fin x 0 hf (by decide)] at h; cases h
  | false =>
    rcases read_wild x hf with r | ⟨f, r⟩
    · obtain ⟨m, p, e, -⟩ := read_fin 0 (by decide)
      unfold Ieee.Format.order at h
      rw [r, e] at h; cases h
    · unfold Ieee.Format.order
      rw [r]; rfl
/-- Of what is no number: the bits without the sign are none, either. -/
theorem nan_abs (x : Nat) (h : Ieee.double.order x 0 = none) : le1 (absF x) = false := by
  cases hf : finB x with
  | true => rw [order_fin x 0 hf (by decide)] at h; cases h
  | false =>
    have hm : absF x % 9223372036854775808 = x % 9223372036854775808 := by unfold absF; omega
    have hr : ∃ s f, Ieee.double.read (absF x) = .nan s f := by
      have hi : x % 9223372036854775808 ≠ 9218868437227405312 := fun e => by
        have hs : Ieee.double.signWeight = 9223372036854775808 := by decide
        have hbi : Ieee.double.binade = 4503599627370496 := by decide
        have hir : Ieee.double.infRung = 9218868437227405312 := by decide
        have hread : Ieee.double.read x = .infinity (negB x) := by
          unfold Ieee.Format.read
          dsimp only
          rw [hs, hbi, hir, e]; rfl
        obtain ⟨m, p, e0, -⟩ := read_fin 0 (by decide)
        unfold Ieee.Format.order at h
        rw [hread, e0] at h; cases h
      have hf' : finB (absF x) = false := by unfold finB at hf ⊢; rw [hm]; exact hf
      rcases read_wild (absF x) hf' with r | ⟨f, r⟩
      · exfalso
        have hs : Ieee.double.signWeight = 9223372036854775808 := by decide
        have hbi : Ieee.double.binade = 4503599627370496 := by decide
        have hir : Ieee.double.infRung = 9218868437227405312 := by decide
        have h' : ¬ x % 9223372036854775808 < 9218868437227405312 := of_decide_eq_false hf
        unfold Ieee.Format.read at r
        dsimp only at r
        rw [hs, hbi, hir, hm] at r
        rw [if_neg (by omega), if_neg h', if_neg hi] at r
        cases r
      · exact ⟨_, f, r⟩
    obtain ⟨s, f, hr⟩ := hr
    have hn : Ieee.double.order 3256102530588868608 (absF x) = none := by
      obtain ⟨m, p, e0, -⟩ := read_fin 3256102530588868608 (by decide)
      unfold Ieee.Format.order
      rw [hr, e0]; rfl
    unfold le1
    rw [hn]; rfl

set_option maxRecDepth 100000 in
set_option maxHeartbeats 1000000 in
theorem power_m300 (w : World) : Calls Try.prog 55 #[.int .i64 (-300)] w fun e w' => e = .returned (.float .f64 3256102530588868608) ∧ w' = w := by
  have f1 := afrom_run
  go_enter Try.func55, Try.ntmps55
  go_wp2_with fail
  go_ret
  exact ⟨rfl, rfl⟩

set_option maxRecDepth 100000 in
set_option maxHeartbeats 1000000 in
theorem power_p300 (w : World) : Calls Try.prog 55 #[.int .i64 (300)] w fun e w' => e = .returned (.float .f64 5958262307011166208) ∧ w' = w := by
  have f1 := afrom_run
  go_enter Try.func55, Try.ntmps55
  go_wp2_with fail
  go_ret
  exact ⟨rfl, rfl⟩

set_option maxRecDepth 100000 in
set_option maxHeartbeats 1000000 in
theorem power_m80 (w : World) : Calls Try.prog 55 #[.int .i64 (-80)] w fun e w' => e = .returned (.float .f64 4246894448610377728) ∧ w' = w := by
  have f1 := afrom_run
  go_enter Try.func55, Try.ntmps55
  go_wp2_with fail
  go_ret
  exact ⟨rfl, rfl⟩

set_option maxRecDepth 100000 in
set_option maxHeartbeats 1000000 in
theorem power_p100 (w : World) : Calls Try.prog 55 #[.int .i64 (100)] w fun e w' => e = .returned (.float .f64 5057542381537067008) ∧ w' = w := by
  have f1 := afrom_run
  go_enter Try.func55, Try.ntmps55
  go_wp2_with fail
  go_ret
  exact ⟨rfl, rfl⟩

set_option maxRecDepth 100000 in
set_option maxHeartbeats 1000000 in
theorem power_p301 (w : World) : Calls Try.prog 55 #[.int .i64 (301)] w fun e w' => e = .returned (.float .f64 5962765906638536704) ∧ w' = w := by
  have f1 := afrom_run
  go_enter Try.func55, Try.ntmps55
  go_wp2_with fail
  go_ret
  exact ⟨rfl, rfl⟩

theorem isZ_abs (x : Nat) (hx : x < 18446744073709551616) (hz : isZ x = false) : isZ (absF x) = false := by
  cases h : isZ (absF x) with
  | false => rfl
  | true =>
    have h0 := absF_zero (absF x) h
    have : x = 0 ∨ x = 9223372036854775808 := by unfold absF at h0; omega
    rcases this with e | e
    · subst e; revert hz; decide +kernel
    · subst e; revert hz; decide +kernel

set_option maxRecDepth 100000 in
set_option maxHeartbeats 2000000 in
/-- The document's test of a float's size, of one that is not 0. -/
theorem rFloat_calls (x : Nat) (w : World) (hx : x < 18446744073709551616) (hz : isZ x = false) :
    Calls Try.prog 64 #[.float .f64 x] w fun e w' => e = .returned (.bool (le1 (absF x) && le2 (absF x))) ∧ w' = w := by
  have r5 := ran_neg Try.prog
  have hz' : (FloatKind.f64.format.order x 0 == some .eq) = false := hz
  cases ho : Ieee.double.order x 0 with
  | none =>
    have o1 : (FloatKind.f64.format.order x 0 == some .lt) = false := by rw [show FloatKind.f64.format.order x 0 = none from ho]; rfl
    have o2 : FloatKind.f64.format.order x 3256102530588868608 = none := order_none x _ ho
    have HE : Hid ((le1 (absF x) && le2 (absF x)) = false) := by rw [Hid, nan_abs x ho]; rfl
    clear ho hz
    go_enter Try.func64, Try.ntmps64
    go_wp2_with fail
    refine Calls.mono (power_m300 _) ?_
    rintro e w ⟨rfl, rfl⟩
    go_wp2_with fail
    go_ret
    rw [HE.out]
    exact ⟨rfl, rfl⟩
  | some o =>
    cases o with
    | eq => rw [isZ, ho] at hz; cases hz
    | lt =>
      have o1 : (FloatKind.f64.format.order x 0 == some .lt) = true := by rw [show FloatKind.f64.format.order x 0 = some .lt from ho]; rfl
      have hneg : Op.negFloat .f64 x = absF x := xor_sign x (neg_of_lt x hx ho) hx
      have hzz : (FloatKind.f64.format.order (absF x) 0 == some .eq) = false := isZ_abs x hx hz
      clear ho hz hx
      go_enter Try.func64, Try.ntmps64
      go_wp2_with fail
      refine Calls.mono (power_m300 _) ?_
      rintro e w ⟨rfl, rfl⟩
      go_wp2_with fail
      · rename_i hyes
        refine Calls.mono (power_p300 _) ?_
        rintro e w ⟨rfl, rfl⟩
        go_wp2_with fail
        go_ret
        rw [← ge1_le1]
        exact ⟨rfl, rfl⟩
      · rename_i hno
        go_ret
        rw [← ge1_le1, show ge1 (absF x) = false from or_no hno]
        exact ⟨rfl, rfl⟩
    | gt =>
      have o1 : (FloatKind.f64.format.order x 0 == some .lt) = false := by rw [show FloatKind.f64.format.order x 0 = some .gt from ho]; rfl
      have HX : Hid (absF x = x) := pos_of_gt x hx ho
      clear ho hz
      go_enter Try.func64, Try.ntmps64
      go_wp2_with fail
      refine Calls.mono (power_m300 _) ?_
      rintro e w ⟨rfl, rfl⟩
      go_wp2_with fail
      · rename_i hyes
        refine Calls.mono (power_p300 _) ?_
        rintro e w ⟨rfl, rfl⟩
        go_wp2_with fail
        go_ret
        rw [HX.out]; rw [← ge1_le1]
        exact ⟨rfl, rfl⟩
      · rename_i hno
        go_ret
        rw [HX.out]; rw [← ge1_le1, show ge1 x = false from or_no hno]
        exact ⟨rfl, rfl⟩

set_option maxRecDepth 100000 in
set_option maxHeartbeats 2000000 in
theorem rRight_calls (h l : Nat) (w : World) (hh : h < 18446744073709551616) :
    Calls Try.prog 37 #[.agg #[.float .f64 h, .float .f64 l]] w fun e w' => e = .returned (.bool (rightP h l)) ∧ Below w.heap.size w w' := by
  have r1 := ran_add Try.prog
  have r5 := conv_same
  have HS : Hid (∀ w, (FloatKind.f64.format.order (fv .add h l w) h == some .eq) = sumEq h l) := sumEq_fv h l
  cases hz : isZ h with
  | true =>
    have z1 : (FloatKind.f64.format.order h 0 == some .eq) = true := hz
    have HE : Hid (rightP h l = isZ l) := by rw [Hid, rightP, if_pos hz]
    clear hz
    go_enter Try.func37, Try.ntmps37
    go_wp2_with fail
    go_ret
    rw [HE.out]
    exact ⟨rfl, (Below.refl _ _).alloc (Nat.le_refl _) _⟩
  | false =>
    have z1 : (FloatKind.f64.format.order h 0 == some .eq) = false := hz
    have HF : Hid _ := fun w => rFloat_calls h w hh hz
    have HE : Hid (rightP h l = ((le1 (absF h) && le2 (absF h)) && sumEq h l)) := by rw [Hid, rightP, if_neg (by rw [hz]; simp), Bool.and_assoc]
    clear hz hh
    generalize (le1 (absF h) && le2 (absF h)) = q at *
    go_enter Try.func37, Try.ntmps37
    go_wp2_with fail
    refine Calls.mono (HF.out _) ?_
    rintro e w1 ⟨rfl, rfl⟩
    cases q with
    | false =>
      go_wp2_with fail
      go_ret
      rw [HE.out]
      exact ⟨rfl, (Below.refl _ _).alloc (Nat.le_refl _) _⟩
    | true =>
      have KEY : Hid (∀ w', Ending.returned (.bool (FloatKind.f64.format.order (fv .add h l w') h == some .eq)) = .returned (.bool (true && sumEq h l))) := fun w' => by rw [HS.out w', Bool.true_and]
      go_wp2_with fail
      go_ret
      rw [HE.out]
      exact ⟨KEY.out _, below_drewN ((Below.refl _ _).alloc (Nat.le_refl _) _) _⟩
end Go.Proofs.Ytckpfohfbfmmnaa

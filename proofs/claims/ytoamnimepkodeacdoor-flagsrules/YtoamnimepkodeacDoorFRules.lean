/- The walk of the statement FlagsRules: it answers true for any three bytes, where the names stand. -/
import Derived.Test.YtoamnimepkodeacDoorFBegins
namespace Go.Proofs.YtoamnimepkodeacDoor
open Go.RowKit

theorem nat_not (b i : Nat) (h : b < 256) : (255 - b).testBit i = (decide (i < 8) && !b.testBit i) := by
  have := Nat.testBit_two_pow_sub_succ (show b < 2 ^ 8 by omega) i
  rw [← this]; congr 1; omega
theorem nat_ext {a b : Nat} (h : ∀ i, a.testBit i = b.testBit i) : a = b := Nat.eq_of_testBit_eq h
theorem or_cm (f g : Int) (h : F f) (k : F g) : orV f g = orV g f := by rw [or_nat f g h k, or_nat g f k h, Nat.or_comm]
theorem and_cm (f g : Int) (h : F f) (k : F g) : andV f g = andV g f := by rw [and_nat f g h k, and_nat g f k h, Nat.and_comm]
theorem or_as (f g r : Int) (h : F f) (k : F g) (l : F r) : orV f (orV g r) = orV (orV f g) r := by
  rw [or_nat f _ h (or_F g r k l), or_nat _ r (or_F f g h k) l, or_nat g r k l, or_nat f g h k, Int.toNat_natCast, Int.toNat_natCast, Nat.or_assoc]
theorem and_as (f g r : Int) (h : F f) (k : F g) (l : F r) : andV f (andV g r) = andV (andV f g) r := by
  rw [and_nat f _ h (and_F g r k l), and_nat _ r (and_F f g h k) l, and_nat g r k l, and_nat f g h k, Int.toNat_natCast, Int.toNat_natCast, Nat.and_assoc]
theorem and_or (f g r : Int) (h : F f) (k : F g) (l : F r) : andV f (orV g r) = orV (andV f g) (andV f r) := by
  rw [and_nat f _ h (or_F g r k l), or_nat _ _ (and_F f g h k) (and_F f r h l), or_nat g r k l, and_nat f g h k, and_nat f r h l, Int.toNat_natCast, Int.toNat_natCast, Int.toNat_natCast, Nat.and_or_distrib_left]
theorem or_and (f g r : Int) (h : F f) (k : F g) (l : F r) : orV f (andV g r) = andV (orV f g) (orV f r) := by
  rw [or_nat f _ h (and_F g r k l), and_nat _ _ (or_F f g h k) (or_F f r h l), and_nat g r k l, or_nat f g h k, or_nat f r h l, Int.toNat_natCast, Int.toNat_natCast, Int.toNat_natCast, Nat.or_and_distrib_left]
theorem take_meet (f g : Int) (h : F f) (k : F g) : orV (takeV f g) (andV f g) = f := by
  rw [or_nat _ _ (take_F f g h k) (and_F f g h k), take_nat f g h k, and_nat f g h k, Int.toNat_natCast, Int.toNat_natCast]
  have : f.toNat &&& (255 - g.toNat) ||| f.toNat &&& g.toNat = f.toNat := by
    apply nat_ext
    intro i
    unfold F at h k
    rw [Nat.testBit_or, Nat.testBit_and, Nat.testBit_and, nat_not g.toNat i (by omega)]
    by_cases hi : i < 8
    · simp [hi]; cases f.toNat.testBit i <;> cases g.toNat.testBit i <;> rfl
    · rw [Nat.testBit_lt_two_pow (Nat.lt_of_lt_of_le (show f.toNat < 2 ^ 8 by omega) (Nat.pow_le_pow_right (by decide) (by omega)))]; simp
  rw [this]; unfold F at h; omega
theorem meet_take (f g : Int) (h : F f) (k : F g) : andV (takeV f g) g = 0 := by
  rw [and_nat _ _ (take_F f g h k) k, take_nat f g h k, Int.toNat_natCast]
  have : f.toNat &&& (255 - g.toNat) &&& g.toNat = 0 := by
    apply nat_ext
    intro i
    unfold F at h k
    rw [Nat.testBit_and, Nat.testBit_and, nat_not g.toNat i (by omega), Nat.zero_testBit]
    cases f.toNat.testBit i <;> cases g.toNat.testBit i <;> simp
  rw [this]; rfl
theorem has_join (f g : Int) (h : F f) (k : F g) : hasB f g = (orV f g == f) := by
  unfold hasB
  rw [take_nat g f k h, or_nat f g h k, Bool.eq_iff_iff, beq_iff_eq, beq_iff_eq]
  unfold F at h k
  constructor
  · intro e
    have e' : g.toNat &&& (255 - f.toNat) = 0 := by omega
    have : f.toNat ||| g.toNat = f.toNat := by
      apply nat_ext
      intro i
      have := congrArg (Nat.testBit · i) e'
      simp only [Nat.testBit_and, nat_not f.toNat i (by omega), Nat.zero_testBit] at this
      rw [Nat.testBit_or]
      by_cases hi : i < 8
      · simp [hi] at this
        cases hF : f.toNat.testBit i <;> cases hG : g.toNat.testBit i <;> simp_all
      · rw [Nat.testBit_lt_two_pow (Nat.lt_of_lt_of_le (show g.toNat < 2 ^ 8 by omega) (Nat.pow_le_pow_right (by decide) (by omega)))]; simp
    rw [this]; omega
  · intro e
    have e' : f.toNat ||| g.toNat = f.toNat := by omega
    have : g.toNat &&& (255 - f.toNat) = 0 := by
      apply nat_ext
      intro i
      have := congrArg (Nat.testBit · i) e'
      simp only [Nat.testBit_or] at this
      rw [Nat.testBit_and, nat_not f.toNat i (by omega), Nat.zero_testBit]
      cases hF : f.toNat.testBit i <;> cases hG : g.toNat.testBit i <;> simp_all
    rw [this]; rfl

set_option maxHeartbeats 1000000 in
theorem flagsRules_walk (f g r : Int) (w : World) (hf : F f) (hg : F g) (hr : F r) (hN : Names w) :
    Calls Tryd.prog 3 #[.int .u8 f, .int .u8 g, .int .u8 r] w fun e w' => e = .returned (.bool true) ∧ Below w.heap.size w w' := by
  have k1 : (orV f g != orV g f) = false := by rw [or_cm f g hf hg]; simp
  have k2 : (andV f g != andV g f) = false := by rw [and_cm f g hf hg]; simp
  have k3 : (orV f (orV g r) != orV (orV f g) r) = false := by rw [or_as f g r hf hg hr]; simp
  have k4 : (andV f (andV g r) != andV (andV f g) r) = false := by rw [and_as f g r hf hg hr]; simp
  have k5 : (andV f (orV g r) != orV (andV f g) (andV f r)) = false := by rw [and_or f g r hf hg hr]; simp
  have k6 : (orV f (andV g r) != andV (orV f g) (orV f r)) = false := by rw [or_and f g r hf hg hr]; simp
  have k7 : (orV (takeV f g) (andV f g) == f) = true := by rw [take_meet f g hf hg]; simp
  have k8 : (andV (takeV f g) g == 0) = true := by rw [meet_take f g hf hg]; simp
  have k9 := has_join f g hf hg
  go_enter Tryd.func3, Tryd.ntmps3
  go_wp2_with (first | (go_at_call 8; refine (begins_calls _ hN).mono ?_; rintro e w1 ⟨rfl, hb⟩) | (go_at_call 9; refine (fJoin_calls _ _ _).mono ?_; rintro e w' ⟨rfl, rfl⟩) | (go_at_call 10; refine (fMeet_calls _ _ _).mono ?_; rintro e w' ⟨rfl, rfl⟩) | (go_at_call 11; refine (fTake_calls _ _ _).mono ?_; rintro e w' ⟨rfl, rfl⟩) | (go_at_call 12; refine (fHas_calls _ _ _).mono ?_; rintro e w' ⟨rfl, rfl⟩))
  go_ret
  exact ⟨rfl, hb⟩
end Go.Proofs.YtoamnimepkodeacDoor

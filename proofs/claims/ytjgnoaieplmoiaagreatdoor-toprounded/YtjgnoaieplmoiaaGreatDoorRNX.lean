/- Rounding a dyadic number to the nearest binary64, in numbers: what the program's quarters tell and what the document's cut comes to are one. Tiny numbers: the program's question and the document's are one; the flags of a rounding. Package round: the walks of near.go that ask words alone. -/
import Derived.Test.YtjgnoaieplmoiaaGreatDoorTMB
import Derived.Test.YtjgnoaieplmoiaaGreatDoorDVal
import Derived.Deep.RegionWith
import Derived.BigQuiet

namespace Go.Proofs.YtjgnoaieplmoiaaGreatDoor
open Go.RowKit

/-- m divided by 2^k, rounded down (k of either sign), whether something is lost; the bit below, what lies below that; is it rounded up? -/
def fl2 (m : Nat) (k : Int) : Nat := if k ≤ 0 then m * 2 ^ (-k).toNat else m / 2 ^ k.toNat
def ls2 (m : Nat) (k : Int) : Bool := if k ≤ 0 then false else lostB m k.toNat
def half2 (m : Nat) (k : Int) : Bool := if k ≤ 0 then false else m.testBit (k.toNat - 1)
def over2 (m : Nat) (k : Int) : Bool := if k ≤ 0 then false else lostB m (k.toNat - 1)
def up2 (m : Nat) (k : Int) : Bool := half2 m k && (over2 m k || decide (fl2 m k % 2 = 1))
def rd2 (m : Nat) (k : Int) : Nat := fl2 m k + (up2 m k).toNat
def more2 (m : Nat) (k : Int) : Nat := if ls2 m (k - 2) = true then (fl2 m (k - 2) % 4) ||| 1 else fl2 m (k - 2) % 4

theorem mod_succ (m n : Nat) : m % 2 ^ (n + 1) = m % 2 ^ n + 2 ^ n * (m / 2 ^ n % 2) := Nat.mod_pow_succ
theorem div_succ (m n : Nat) : m / 2 ^ (n + 1) = m / 2 ^ n / 2 := by rw [Nat.pow_succ, Nat.div_div_eq_div_mul]
theorem lost_succ (m n : Nat) : lostB m (n + 1) = (lostB m n || decide (m / 2 ^ n % 2 = 1)) := by
  unfold lostB
  rw [mod_succ]
  have := Nat.two_pow_pos n
  have h2 : m / 2 ^ n % 2 = 0 ∨ m / 2 ^ n % 2 = 1 := by omega
  rcases h2 with h | h
  · rw [h]; simp
  · rw [h]
    have : m % 2 ^ n + 2 ^ n * 1 ≠ 0 := by omega
    rw [decide_eq_true this]; simp
theorem bit_div (m n : Nat) : m.testBit n = decide (m / 2 ^ n % 2 = 1) := Nat.testBit_eq_decide_div_mod_eq
theorem four_or (q : Nat) (h : q < 4) : q ||| 1 = q / 2 * 2 + 1 := by
  have : q = 0 ∨ q = 1 ∨ q = 2 ∨ q = 3 := by omega
  rcases this with e | e | e | e <;> (rw [e]; decide)
theorem more_half (m : Nat) (k : Int) : more2 m k = 2 * (half2 m k).toNat + (over2 m k).toNat := by
  by_cases h0 : k ≤ 0
  · unfold more2 ls2 half2 over2 fl2
    rw [if_pos (show k - 2 ≤ 0 by omega), if_pos (show k - 2 ≤ 0 by omega), if_pos h0, if_pos h0, if_neg (by decide)]
    rw [show (-(k - 2)).toNat = (-k).toNat + 2 by omega, Nat.pow_add, ← Nat.mul_assoc]
    simp
  · by_cases h1 : k = 1
    · subst h1
      unfold more2 ls2 half2 over2 fl2
      rw [if_pos (show (1 : Int) - 2 ≤ 0 by decide), if_pos (show (1 : Int) - 2 ≤ 0 by decide), if_neg (by decide), if_neg (by decide), if_neg (by decide)]
      rw [show (-(1 - 2) : Int).toNat = 1 by decide, show (1 : Int).toNat - 1 = 0 by decide, bit_div]
      have : lostB m 0 = false := by unfold lostB; simp [Nat.mod_one]
      rw [this, Nat.pow_zero, Nat.div_one]
      have h2 : m % 2 = 0 ∨ m % 2 = 1 := by omega
      rcases h2 with h | h <;> rw [h] <;> simp <;> omega
    · obtain ⟨n, hn⟩ : ∃ n : Nat, k = (n : Int) + 2 := ⟨(k - 2).toNat, by omega⟩
      subst hn
      have e2 : half2 m ((n : Int) + 2) = decide (m / 2 ^ n / 2 % 2 = 1) := by
        unfold half2
        rw [if_neg h0, show ((n : Int) + 2).toNat - 1 = n + 1 by omega, bit_div, div_succ]
      have e3 : over2 m ((n : Int) + 2) = (lostB m n || decide (m / 2 ^ n % 2 = 1)) := by
        unfold over2
        rw [if_neg h0, show ((n : Int) + 2).toNat - 1 = n + 1 by omega, lost_succ]
      have e1 : ls2 m ((n : Int) + 2 - 2) = lostB m n := by
        unfold ls2
        by_cases hz : n = 0
        · subst hz
          rw [if_pos (by decide)]
          unfold lostB; simp [Nat.mod_one]
        · rw [if_neg (by omega), show ((n : Int) + 2 - 2).toNat = n by omega]
      have e4 : fl2 m ((n : Int) + 2 - 2) = m / 2 ^ n := by
        unfold fl2
        by_cases hz : n = 0
        · subst hz
          rw [if_pos (by decide), show (-((0 : Nat) + 2 - 2 : Int)).toNat = 0 by decide]
          simp
        · rw [if_neg (by omega), show ((n : Int) + 2 - 2).toNat = n by omega]
      unfold more2
      rw [e1, e2, e3, e4]
      generalize m / 2 ^ n = q
      cases lostB m n with
      | true =>
        rw [if_pos rfl, four_or _ (Nat.mod_lt _ (by decide)), Bool.true_or]
        by_cases h : q / 2 % 2 = 1
        · rw [decide_eq_true h]; simp only [Bool.toNat_true]; omega
        · rw [decide_eq_false h]; simp only [Bool.toNat_true, Bool.toNat_false]; omega
      | false =>
        rw [if_neg (by decide), Bool.false_or]
        by_cases h : q / 2 % 2 = 1
        · rw [decide_eq_true h]
          by_cases g : q % 2 = 1
          · rw [decide_eq_true g]; simp only [Bool.toNat_true]; omega
          · rw [decide_eq_false g]; simp only [Bool.toNat_true, Bool.toNat_false]; omega
        · rw [decide_eq_false h]
          by_cases g : q % 2 = 1
          · rw [decide_eq_true g]; simp only [Bool.toNat_true, Bool.toNat_false]; omega
          · rw [decide_eq_false g]; simp only [Bool.toNat_false]; omega
theorem fl_four (m : Nat) (k : Int) : fl2 m (k - 2) / 4 = fl2 m k := by
  unfold fl2
  by_cases h0 : k ≤ 0
  · rw [if_pos (by omega), if_pos h0, show (-(k - 2)).toNat = (-k).toNat + 2 by omega, Nat.pow_add, ← Nat.mul_assoc]
    omega
  · rw [if_neg h0]
    by_cases h1 : k = 1
    · subst h1
      rw [if_pos (by decide), show (-(1 - 2) : Int).toNat = 1 by decide, show (1 : Int).toNat = 1 by decide]
      omega
    · by_cases h2 : k = 2
      · subst h2
        rw [if_pos (by decide), show (-(2 - 2) : Int).toNat = 0 by decide, show (2 : Int).toNat = 2 by decide]
        omega
      · rw [if_neg (by omega), Nat.div_div_eq_div_mul, show k.toNat = (k - 2).toNat + 2 by omega, Nat.pow_add]
theorem more_zero (m : Nat) (k : Int) : more2 m k = 0 ↔ ls2 m k = false := by
  rw [more_half]
  unfold half2 over2 ls2
  by_cases h0 : k ≤ 0
  · rw [if_pos h0, if_pos h0, if_pos h0]; simp
  · rw [if_neg h0, if_neg h0, if_neg h0]
    obtain ⟨n, hn⟩ : ∃ n : Nat, k.toNat = n + 1 := ⟨k.toNat - 1, by omega⟩
    rw [hn, show n + 1 - 1 = n by omega, lost_succ, bit_div]
    cases lostB m n <;> cases decide (m / 2 ^ n % 2 = 1) <;> simp
/-- how great the rounded-down part is -/
theorem fl_lt (m b : Nat) (k : Int) (h : (blen m : Int) ≤ b + k) : fl2 m k < 2 ^ b := by
  unfold fl2
  have hm := lt_blen m
  by_cases h0 : k ≤ 0
  · rw [if_pos h0]
    have e : 2 ^ b = 2 ^ (b - (-k).toNat) * 2 ^ (-k).toNat := by rw [← Nat.pow_add]; congr 1; omega
    rw [e]
    refine Nat.mul_lt_mul_of_pos_right ?_ (Nat.two_pow_pos _)
    exact Nat.lt_of_lt_of_le hm (Nat.pow_le_pow_right (by decide) (by omega))
  · rw [if_neg h0]
    rw [Nat.div_lt_iff_lt_mul (Nat.two_pow_pos _), ← Nat.pow_add]
    exact Nat.lt_of_lt_of_le hm (Nat.pow_le_pow_right (by decide) (by omega))
theorem fl_ge (m b : Nat) (k : Int) (h0 : m ≠ 0) (h : (b : Int) + k + 1 ≤ blen m) : 2 ^ b ≤ fl2 m k := by
  unfold fl2
  have hm := blen_ge m h0
  have hb : blen m ≠ 0 := fun q => h0 ((blen_nil m).1 q)
  by_cases hk : k ≤ 0
  · rw [if_pos hk]
    refine Nat.le_trans ?_ (Nat.mul_le_mul_right _ hm)
    rw [← Nat.pow_add]
    exact Nat.pow_le_pow_right (by decide) (by omega)
  · rw [if_neg hk]
    rw [Nat.le_div_iff_mul_le (Nat.two_pow_pos _), ← Nat.pow_add]
    exact Nat.le_trans (Nat.pow_le_pow_right (by decide) (by omega)) hm

/-- the number's top, the exponent of the last bit that is kept, the rounded amount (as a binary64's bits), is it exact? -/
def tpI (m : Nat) (e : Int) : Int := e + (blen m : Int) - 1
def lsI (m : Nat) (e : Int) : Int := if tpI m e - 52 < -1074 then -1074 else tpI m e - 52
def nearW (m : Nat) (e : Int) : Int := if m = 0 then 0 else if 1024 ≤ tpI m e then 9218868437227405312 else (lsI m e + 1074) * 4503599627370496 + (rd2 m (lsI m e - e) : Int)
def exactB (m : Nat) (e : Int) : Bool := if m = 0 then true else if 1024 ≤ tpI m e then false else !ls2 m (lsI m e - e)
theorem ls_low (m : Nat) (e : Int) : -1074 ≤ lsI m e := by unfold lsI; split <;> omega
theorem ls_top (m : Nat) (e : Int) (h : tpI m e < 1024) : lsI m e ≤ 971 := by unfold lsI; split <;> omega
theorem ls_bits (m : Nat) (e : Int) : (blen m : Int) ≤ 53 + (lsI m e - e) := by unfold lsI tpI; split <;> omega
theorem M_lt (m : Nat) (e : Int) : fl2 m (lsI m e - e) < 9007199254740992 := by
  have := fl_lt m 53 (lsI m e - e) (ls_bits m e)
  exact this
theorem M_ge (m : Nat) (e : Int) (h0 : m ≠ 0) (h : -1074 < lsI m e) : 4503599627370496 ≤ fl2 m (lsI m e - e) := by
  have := fl_ge m 52 (lsI m e - e) h0 (by unfold lsI tpI at *; split at h <;> (try split) <;> omega)
  exact this
theorem cnt_lt (m : Nat) (e : Int) : fl2 m (lsI m e - e - 2) < 36028797018963968 := by
  have := fl_lt m 55 (lsI m e - e - 2) (by have := ls_bits m e; omega)
  exact this
theorem nearW_bd (m : Nat) (e : Int) : 0 ≤ nearW m e ∧ nearW m e ≤ 9218868437227405312 := by
  unfold nearW
  split
  · omega
  · split
    · omega
    · rename_i h1 h2
      have a1 := ls_low m e
      have a2 := ls_top m e (by omega)
      have a3 := M_lt m e
      unfold rd2
      have : (up2 m (lsI m e - e)).toNat ≤ 1 := Bool.toNat_le _
      omega
/-- the bit that says whether a word is odd -/
theorem down_odd (m : Nat) (e : Int) (l : Int) : ((l + 1074) * 4503599627370496 + (fl2 m (l - e) : Int)) % 2 = (fl2 m (l - e) % 2 : Nat) := by omega
/-- what is chosen of the two neighbours -/
theorem choose_rd (m : Nat) (k : Int) : (more2 m k < 2 → rd2 m k = fl2 m k) ∧ (2 < more2 m k → rd2 m k = fl2 m k + 1) ∧ (more2 m k = 2 → rd2 m k = fl2 m k + fl2 m k % 2) := by
  rw [more_half]
  unfold rd2 up2
  have h2 : fl2 m k % 2 = 0 ∨ fl2 m k % 2 = 1 := by omega
  rcases h2 with h | h <;> rw [h] <;> cases half2 m k <;> cases over2 m k <;> simp
/-- sign and flags -/
def nearB (s : Bool) (m : Nat) (e : Int) : Int := if (s && decide (m ≠ 0)) = true then negV (nearW m e) else nearW m e
end Go.Proofs.YtjgnoaieplmoiaaGreatDoor

namespace Go.Proofs.YtjgnoaieplmoiaaGreatDoor
open Go.RowKit

/-- is a number below 2^-1022 - 2^-1076 in its amount? the program's question, the document's -/
def tinyP (m : Nat) (e : Int) : Bool := decide (cmpD (formD false m e) (formD false 18014398509481983 (-1076)) < 0)
def tinyQ (m : Nat) (e : Int) : Bool := if m = 0 then false else if -1022 < tpI m e + 1 then false else if tpI m e + 1 < -1022 then true else decide (blen (rd2 m (-1075 - e)) ≤ 53)
theorem cmp_neg (x y : Int) : (Lib.compareInt x y < 0) ↔ x < y := by
  unfold Lib.compareInt
  split
  · simp_all
  · split <;> simp_all
theorem form_lo (s : Bool) (m : Nat) (e K : Int) (h : K ≤ e) (h0 : K ≤ 0) : K ≤ (formD s m e).2.2 := by
  unfold formD
  split
  · exact h0
  · show K ≤ e + (tz m : Int); omega
theorem tiny_num (m : Nat) (e : Int) (K : Nat) (hK : 32768 ≤ K) (he : -32768 ≤ e) : tinyP m e = decide (m * 2 ^ (e + K).toNat < 18014398509481983 * 2 ^ (K - 1076)) := by
  unfold tinyP
  rw [vI_cmp _ _ K (form_lo _ _ _ _ (by omega) (by omega)) (form_lo _ _ _ _ (by omega) (by omega)), decide_eq_decide, cmp_neg]
  rw [vI_form _ _ _ _ (by omega), vI_form _ _ _ _ (by omega)]
  rw [show (e - -(K : Int)).toNat = (e + K).toNat by omega, show ((-1076 : Int) - -(K : Int)).toNat = K - 1076 by omega]
  unfold sI
  rw [if_neg (by decide)]
  omega
theorem tiny_same (m : Nat) (e : Int) (he : -32768 ≤ e) (h0 : m ≠ 0) : tinyP m e = tinyQ m e := by
  obtain ⟨K, hK⟩ : ∃ K : Nat, K = 32768 := ⟨_, rfl⟩
  rw [tiny_num m e K (by omega) he]
  unfold tinyQ
  rw [if_neg h0]
  have hb : blen m ≠ 0 := fun q => h0 ((blen_nil m).1 q)
  have hlo := blen_ge m h0
  have hhi := lt_blen m
  by_cases c1 : -1022 < tpI m e + 1
  · rw [if_pos c1]
    unfold tpI at c1
    refine decide_eq_false (Nat.not_lt.2 ?_)
    refine Nat.le_trans ?_ (Nat.mul_le_mul_right _ hlo)
    rw [← Nat.pow_add]
    refine Nat.le_trans (Nat.mul_le_mul_right _ (show 18014398509481983 ≤ 2 ^ 54 by decide)) ?_
    rw [← Nat.pow_add]
    exact Nat.pow_le_pow_right (by decide) (by omega)
  · rw [if_neg c1]
    by_cases c2 : tpI m e + 1 < -1022
    · rw [if_pos c2]
      unfold tpI at c2
      refine decide_eq_true ?_
      have h1 : m * 2 ^ (e + K).toNat < 2 ^ (blen m) * 2 ^ (e + K).toNat := Nat.mul_lt_mul_of_pos_right hhi (Nat.two_pow_pos _)
      rw [← Nat.pow_add] at h1
      refine Nat.lt_of_lt_of_le h1 (Nat.le_trans ?_ (Nat.mul_le_mul_right _ (show 2 ^ 53 ≤ 18014398509481983 by decide)))
      rw [← Nat.pow_add]
      exact Nat.pow_le_pow_right (by decide) (by omega)
    · rw [if_neg c2, decide_eq_decide]
      have ht : tpI m e = -1023 := by omega
      unfold tpI at ht
      have hq : blen (rd2 m (-1075 - e)) ≤ 53 ↔ rd2 m (-1075 - e) < 9007199254740992 := blen_le _ _
      rw [hq]
      have hf : fl2 m (-1075 - e) < 9007199254740992 := fl_lt m 53 (-1075 - e) (by omega)
      by_cases k0 : -1075 - e ≤ 0
      · have e1 : rd2 m (-1075 - e) = m * 2 ^ (e + 1075).toNat := by
          unfold rd2 up2 half2 fl2
          rw [if_pos k0, if_pos k0, show (-(-1075 - e)).toNat = (e + 1075).toNat by omega]
          simp
        have e2 : fl2 m (-1075 - e) = m * 2 ^ (e + 1075).toNat := by
          unfold fl2
          rw [if_pos k0, show (-(-1075 - e)).toNat = (e + 1075).toNat by omega]
        rw [e2] at hf
        rw [e1, show (e + K).toNat = (e + 1075).toNat + (K - 1075) by omega, Nat.pow_add, ← Nat.mul_assoc, show K - 1075 = (K - 1076) + 1 by omega, Nat.pow_succ, Nat.mul_comm (2 ^ (K - 1076)) 2, ← Nat.mul_assoc]
        refine ⟨fun _ => hf, fun _ => Nat.mul_lt_mul_of_pos_right (by omega) (Nat.two_pow_pos _)⟩
      · obtain ⟨n, hn⟩ : ∃ n : Nat, -1075 - e = (n : Int) + 1 := ⟨(-1075 - e - 1).toNat, by omega⟩
        rw [hn] at hf ⊢
        have f1 : fl2 m ((n : Int) + 1) = m / 2 ^ n / 2 := by
          unfold fl2
          rw [if_neg (by omega), show ((n : Int) + 1).toNat = n + 1 by omega, div_succ]
        have f2 : half2 m ((n : Int) + 1) = decide (m / 2 ^ n % 2 = 1) := by
          unfold half2
          rw [if_neg (by omega), show ((n : Int) + 1).toNat - 1 = n by omega, bit_div]
        have key : m / 2 ^ n < 18014398509481983 ↔ m < 18014398509481983 * 2 ^ n := Nat.div_lt_iff_lt_mul (Nat.two_pow_pos _)
        have e3 : m * 2 ^ (e + K).toNat < 18014398509481983 * 2 ^ (K - 1076) ↔ m < 18014398509481983 * 2 ^ n := by
          rw [show K - 1076 = n + (e + K).toNat by omega, Nat.pow_add, ← Nat.mul_assoc]
          exact Nat.mul_lt_mul_right (Nat.two_pow_pos _)
        rw [e3, ← key]
        unfold rd2 up2
        rw [f1] at hf ⊢
        rw [f2]
        generalize m / 2 ^ n = q at *
        by_cases g : q % 2 = 1
        · rw [decide_eq_true g]
          by_cases g2 : q / 2 % 2 = 1
          · rw [decide_eq_true g2]
            cases over2 m ((n : Int) + 1) <;> simp <;> omega
          · rw [decide_eq_false g2]
            cases over2 m ((n : Int) + 1) <;> simp <;> omega
        · rw [decide_eq_false g]
          simp
          omega
/-- what is rounded to an infinity is not tiny -/
theorem inf_tiny (m : Nat) (e : Int) (h : nearW m e = 9218868437227405312) : tinyQ m e = false := by
  unfold tinyQ
  split
  · rfl
  · rename_i h0
    rw [if_pos]
    unfold nearW at h
    rw [if_neg h0] at h
    split at h
    · omega
    · have a3 := M_lt m e
      unfold rd2 at h
      have : (up2 m (lsI m e - e)).toNat ≤ 1 := Bool.toNat_le _
      have : 1 ≤ lsI m e := by omega
      unfold lsI at this
      split at this <;> omega
/-- flags of a number that is rounded -/
def flagV (m : Nat) (e : Int) : Int := if exactB m e = true then 0 else if nearW m e = 9218868437227405312 then (if tinyP m e = true then 28 else 20) else (if tinyP m e = true then 24 else 16)
end Go.Proofs.YtjgnoaieplmoiaaGreatDoor

namespace Go.Proofs.YtjgnoaieplmoiaaGreatDoor
open Go.RowKit

theorem rbelow_drewN {B : Nat} {a w : World} (h : Below B a w) (n : Nat) : Below B a (w.drewN n) := h.trans ⟨rfl, rfl, rfl, Nat.le_refl _, fun _ _ => rfl⟩
theorem fl_shl (m : Nat) (n : Int) (hn : n < 0) (hg : greatB m = false) (hb : (blen m : Int) - n ≤ 60) : (shlR m (-n)).1 = fl2 m n := by
  have e2 : fl2 m n = m * 2 ^ (-n).toNat := by unfold fl2; rw [if_pos (by omega)]
  have a1 : ¬ greatB m = true := by rw [hg]; decide
  have a2 : ¬ -n < 0 := by omega
  have a3 : ¬ 65536 - (blen m : Int) < -n := by omega
  rw [e2]
  unfold shlR
  rw [if_neg a1, if_neg a2]
  by_cases h : m = 0
  · rw [if_pos h, h, Nat.zero_mul]
  · rw [if_neg h, if_neg a3]
theorem fl_shr (m : Nat) (n : Int) (hn : 0 ≤ n) (hg : greatB m = false) : shrQ m n = fl2 m n ∧ shrL m n = ls2 m n := by
  have a1 : ¬ greatB m = true := by rw [hg]; decide
  have a2 : ¬ n < 0 := by omega
  have e1 : shrQ m n = m / 2 ^ n.toNat := by unfold shrQ; rw [if_neg a1, if_neg a2]
  have e2 : shrL m n = lostB m n.toNat := by unfold shrL; rw [if_neg a1, if_neg a2]
  rw [e1, e2]
  unfold fl2 ls2
  by_cases h : n ≤ 0
  · have : n = 0 := by omega
    subst this
    rw [if_pos h, if_pos h]
    constructor
    · show m / 2 ^ 0 = m * 2 ^ 0; simp
    · show lostB m 0 = false; unfold lostB; simp [Nat.mod_one]
  · rw [if_neg h, if_neg h]; exact ⟨rfl, rfl⟩

set_option maxRecDepth 100000 in
set_option maxHeartbeats 1000000 in
theorem wider_calls (a : Option Addr) (len cap : Nat) (xs : List Int) (i : Int) (w : World) (h : IsW w a len cap xs) (hm : len ≤ 17592186044416) :
    Calls Tryz.prog 75 #[.slice a len cap, .int .i64 i] w fun e w' => ∃ v, e = .returned v ∧ NatAt w.heap.size w' v (shlR (val xs) i).1 ∧ Below w.heap.size w w' := by
  have HS : Hid _ := shl_calls a len cap xs i w h hm
  go_enter Tryz.func75, Tryz.ntmps75
  go_wp2_with fail
  refine Calls.mono HS.out ?_
  rintro e w1 ⟨v, rfl, hN, hb⟩
  obtain ⟨ao, n, c, rfl, hn, hO⟩ := hN
  have HN : Hid (n = (wordsOf (shlR (val xs) i).1).length) := hn
  clear hn
  go_wp2_with fail
  go_ret
  exact ⟨_, rfl, ⟨ao, n, c, rfl, HN.out, hO⟩, hb⟩

set_option maxRecDepth 100000 in
set_option maxHeartbeats 1000000 in
theorem scut_calls (b : Nat) (a : Option Addr) (len cap : Nat) (xs : List Int) (i : Int) (w : World) (h : IsW w a len cap xs) (hm : len ≤ 17592186044416) (hi : i ≤ 9223372036854775807) (c0 : w.cell? ⟨b, 0, none⟩ = some (.bool false)) (f0 : w.frozen? ⟨b, 0, none⟩ = false) :
    Calls Tryz.prog 74 #[.pointer (some ⟨b, 0, none⟩), .slice a len cap, .int .i64 i] w fun e w' => ∃ ao n c w1, e = .returned (.slice ao n c) ∧ Hid (n = (wordsOf (shrQ (val xs) i)).length) ∧ OwnW w.heap.size w1 ao n c (wordsOf (shrQ (val xs) i)) ∧ Below w.heap.size w w1 ∧ w1.cell? ⟨b, 0, none⟩ = some (.bool false) ∧ w' = w1.setCell ⟨b, 0, none⟩ (.bool (shrL (val xs) i)) := by
  have HS : Hid _ := shr_calls a len cap xs i w h hm hi
  go_enter Tryz.func74, Tryz.ntmps74
  go_wp2_with fail
  refine Calls.mono HS.out ?_
  rintro e w1 ⟨v, rfl, hN, hb⟩
  obtain ⟨ao, n, c, rfl, hn, hO⟩ := hN
  have HN : Hid (n = (wordsOf (shrQ (val xs) i)).length) := hn
  have c1 := dcarry_cell hb c0
  have f1 := dcarry_frozen hb c0 f0
  clear hn c0 f0 HS
  generalize hlo : shrL (val xs) i = lo at *
  have Hlo : Hid (shrL (val xs) i = lo) := hlo
  clear hlo
  go_wp2_with fail
  go_ret
  exact ⟨ao, n, c, w1, rfl, HN, hO, hb, c1, by rw [Hlo.out]⟩

theorem first_word (q : Nat) (h0 : q ≠ 0) (h : q < 18446744073709551616) (w : World) (a : Option Addr) (n c : Nat) (hI : IsW w a n c (wordsOf q)) (hn : n = (wordsOf q).length) : 0 < n ∧ ∃ b off, a = some ⟨b, off, none⟩ ∧ w.cell? ⟨b, off, none⟩ = some (.int .u64 (q : Int)) := by
  have hp : 0 < n := by
    rw [hn]
    refine Nat.pos_of_ne_zero fun e => h0 ((words_nil q).1 (List.length_eq_zero_iff.1 e))
  refine ⟨hp, ?_⟩
  obtain ⟨b, off, e1, -, e3⟩ := hI.2.2.2 0 hp
  refine ⟨b, off, e1, ?_⟩
  have hw : (wordsOf q).getD 0 0 = (q : Int) := by
    have h1 := words_get q 0
    rw [Nat.pow_zero, Nat.div_one, Nat.mod_eq_of_lt h] at h1
    have hU := hI.2.1
    have h2 : 0 ≤ (wordsOf q).getD 0 0 := by
      rw [List.getD_eq_getElem?_getD, List.getElem?_eq_getElem (by omega)]
      exact (hU _ (List.getElem_mem _)).1
    omega
  rw [← hw]; exact e3
theorem no_word (q : Nat) (h0 : q = 0) (n : Nat) (hn : n = (wordsOf q).length) : n = 0 := by rw [hn, h0, words_zero]; rfl

set_option maxRecDepth 100000 in
set_option maxHeartbeats 2000000 in
theorem quarters_neg (s : Bool) (a : Option Addr) (len cap : Nat) (xs : List Int) (e l : Int) (w : World) (h : IsW w a len cap xs) (hm : len ≤ 17592186044416) (hg : greatB (val xs) = false) (he : -32768 ≤ e ∧ e ≤ 32768) (hl : -1074 ≤ l ∧ l ≤ 971) (hb : (blen (val xs) : Int) ≤ 53 + (l - e)) (hn : l - 2 - e < 0) :
    Calls Tryz.prog 56 #[dyV s a len cap e, .int .i64 l] w fun r w' => r = .returned (.tuple #[.int .u64 (fl2 (val xs) (l - e - 2) : Int), .bool (ls2 (val xs) (l - e - 2))]) ∧ Below w.heap.size w w' := by
  have HW : Hid _ := fun w' (h' : IsW w' a len cap xs) => wider_calls a len cap xs (-(l - 2 - e)) w' h' hm
  rw [fl_shl _ _ hn hg (by omega), show l - 2 - e = l - e - 2 by omega] at HW
  have hq : fl2 (val xs) (l - e - 2) < 18446744073709551616 := Nat.lt_trans (fl_lt _ 55 _ (by omega)) (by decide)
  have Hls : Hid (ls2 (val xs) (l - e - 2) = false) := by rw [Hid]; unfold ls2; rw [if_pos (by omega)]
  have W1 : IntKind.i64.wrap (l - 2) = l - 2 := by rw [IntKind.wrap_i64]; omega
  have W2 : IntKind.i64.wrap (l - 2 - e) = l - e - 2 := by rw [IntKind.wrap_i64]; omega
  have W3 : IntKind.i64.wrap (-(l - e - 2)) = -(l - e - 2) := by rw [IntKind.wrap_i64]; omega
  have hn' : l - e - 2 < 0 := by omega
  generalize fl2 (val xs) (l - e - 2) = q at *
  generalize l - e - 2 = k at *
  clear hg he hl hb hn
  go_enter Tryz.func56, Tryz.ntmps56
  go_wp2_with fail
  refine Calls.mono (HW.out _ (h.keep (nbelow_trans (below_one _ _) (below_one _ _)))) ?_
  rintro r w1 ⟨v, rfl, ⟨ao, n, c, rfl, hN, hO⟩, bN⟩
  have bw : Below w.heap.size w w1 := nbelow_trans (nbelow_trans (below_one _ _) (below_one _ _)) bN
  have z0 : w1.cell? ⟨w.heap.size + 1, 0, none⟩ = some (.bool false) := dcarry_cell bN (by go_simp)
  clear bN HW
  by_cases h0 : q = 0
  · have hn0 := no_word q h0 n hN
    subst hn0 h0
    clear hN hO
    go_wp2_with fail
    go_quiet (fail)
    all_goals go_wp2_with fail
    all_goals go_ret2
    all_goals rw [Hls.out]
    all_goals exact ⟨by simp, by repeat (first | exact bw | refine Below.drew ?_ | refine rbelow_drewN ?_ _)⟩
  · obtain ⟨hp, b, off, rfl, hc⟩ := first_word q h0 hq w1 ao n c hO.1 hN
    have hpi : ((n : Int) > 0) := by omega
    have HN : Hid _ := hN
    clear hN hO
    go_wp2_with fail
    go_quiet (fail)
    all_goals go_wp2_with fail
    all_goals go_ret2
    all_goals rw [Hls.out]
    all_goals exact ⟨rfl, by repeat (first | exact bw | refine Below.drew ?_ | refine rbelow_drewN ?_ _)⟩
theorem isW_setB {w : World} {a : Option Addr} {n c : Nat} {xs : List Int} {p : Addr} {v x : Value} (h : IsW w a n c xs) (hp : w.cell? p = some x) (hx : ∀ (k : IntKind) (i : Int), x ≠ .int k i) : IsW (w.setCell p v) a n c xs := by
  obtain ⟨h1, h2, h4, h3⟩ := h
  refine ⟨h1, h2, h4, fun i hi => ?_⟩
  obtain ⟨b, off, e1, e2, e3⟩ := h3 i hi
  refine ⟨b, off, e1, by simpa using e2, ?_⟩
  rw [World.cell?_setCell_other _ _ _ _ (fun e => ?_)]
  · exact e3
  · rw [← e, hp] at e3
    exact hx _ _ (Option.some.inj e3)

set_option maxRecDepth 100000 in
set_option maxHeartbeats 2000000 in
theorem quarters_pos (s : Bool) (a : Option Addr) (len cap : Nat) (xs : List Int) (e l : Int) (w : World) (h : IsW w a len cap xs) (hm : len ≤ 17592186044416) (hg : greatB (val xs) = false) (he : -32768 ≤ e ∧ e ≤ 32768) (hl : -1074 ≤ l ∧ l ≤ 971) (hb : (blen (val xs) : Int) ≤ 53 + (l - e)) (hn : 0 ≤ l - 2 - e) :
    Calls Tryz.prog 56 #[dyV s a len cap e, .int .i64 l] w fun r w' => r = .returned (.tuple #[.int .u64 (fl2 (val xs) (l - e - 2) : Int), .bool (ls2 (val xs) (l - e - 2))]) ∧ Below w.heap.size w w' := by
  have HW : Hid _ := fun b w' (h' : IsW w' a len cap xs) c0 f0 => scut_calls b a len cap xs (l - 2 - e) w' h' hm (by omega) c0 f0
  obtain ⟨f1, f2⟩ := fl_shr (val xs) (l - 2 - e) hn hg
  rw [f1, f2, show l - 2 - e = l - e - 2 by omega] at HW
  have hq : fl2 (val xs) (l - e - 2) < 18446744073709551616 := Nat.lt_trans (fl_lt _ 55 _ (by omega)) (by decide)
  have W1 : IntKind.i64.wrap (l - 2) = l - 2 := by rw [IntKind.wrap_i64]; omega
  have W2 : IntKind.i64.wrap (l - 2 - e) = l - e - 2 := by rw [IntKind.wrap_i64]; omega
  have hn' : ¬ (l - e - 2 < 0) := by omega
  generalize fl2 (val xs) (l - e - 2) = q at *
  generalize ls2 (val xs) (l - e - 2) = lo at *
  generalize l - e - 2 = k at *
  clear hg he hl hb hn f1 f2
  go_enter Tryz.func56, Tryz.ntmps56
  go_wp2_with fail
  refine Calls.mono (HW.out (w.heap.size + 1) _ (h.keep (nbelow_trans (below_one _ _) (below_one _ _))) (by go_simp) (by go_simp)) ?_
  rintro r w2 ⟨ao, n, c, w1, rfl, hN, hO, bN, z1, rfl⟩
  have bw1 : Below w.heap.size w w1 := nbelow_trans (nbelow_trans (below_one _ _) (below_one _ _)) bN
  have hs1 : w.heap.size + 1 < w1.heap.size := World.block_lt_of_cell? _ _ z1
  have bw : Below w.heap.size w (w1.setCell ⟨w.heap.size + 1, 0, none⟩ (.bool lo)) := bw1.setCell (by simp) _
  have z0 : (w1.setCell ⟨w.heap.size + 1, 0, none⟩ (.bool lo)).cell? ⟨w.heap.size + 1, 0, none⟩ = some (.bool lo) := by go_simp
  have hO2 : IsW (w1.setCell ⟨w.heap.size + 1, 0, none⟩ (.bool lo)) ao n c (wordsOf q) := isW_setB hO.1 z1 (fun _ _ => by intro h; cases h)
  clear bN HW hO bw1 z1 hs1
  generalize (w1.setCell ⟨w.heap.size + 1, 0, none⟩ (.bool lo)) = w3 at *
  by_cases h0 : q = 0
  · have hn0 := no_word q h0 n hN.out
    subst hn0 h0
    clear hN hO2
    go_wp2_with fail
    go_quiet (fail)
    all_goals go_wp2_with fail
    all_goals go_ret2
    all_goals exact ⟨by simp, by repeat (first | exact bw | refine Below.drew ?_ | refine rbelow_drewN ?_ _)⟩
  · obtain ⟨hp, b, off, rfl, hc⟩ := first_word q h0 hq w3 ao n c hO2 hN.out
    have hpi : ((n : Int) > 0) := by omega
    clear hN hO2
    go_wp2_with fail
    go_quiet (fail)
    all_goals go_wp2_with fail
    all_goals go_ret2
    all_goals exact ⟨rfl, by repeat (first | exact bw | refine Below.drew ?_ | refine rbelow_drewN ?_ _)⟩

theorem quarters_calls (s : Bool) (a : Option Addr) (len cap : Nat) (xs : List Int) (e l : Int) (w : World) (h : IsW w a len cap xs) (hm : len ≤ 17592186044416) (hg : greatB (val xs) = false) (he : -32768 ≤ e ∧ e ≤ 32768) (hl : -1074 ≤ l ∧ l ≤ 971) (hb : (blen (val xs) : Int) ≤ 53 + (l - e)) :
    Calls Tryz.prog 56 #[dyV s a len cap e, .int .i64 l] w fun r w' => r = .returned (.tuple #[.int .u64 (fl2 (val xs) (l - e - 2) : Int), .bool (ls2 (val xs) (l - e - 2))]) ∧ Below w.heap.size w w' := by
  by_cases hn : l - 2 - e < 0
  · exact quarters_neg s a len cap xs e l w h hm hg he hl hb hn
  · exact quarters_pos s a len cap xs e l w h hm hg he hl hb (by omega)
end Go.Proofs.YtjgnoaieplmoiaaGreatDoor

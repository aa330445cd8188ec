/- Rounding a dyadic number to the nearest binary64, in numbers: what the program's quarters tell and what the document's cut comes to are one. -/
import Derived.Test.YtiipjkkfaplhnaaDoorTMB
namespace Go.Proofs.YtiipjkkfaplhnaaDoor
open Go.RowKit

/-- m divided by 2^k, rounded down (k of either sign), whether something is lost; the bit below, what lies below that; is it rounded up? -/
def fl2 (m : Nat) (k : Int) : Nat := if k ≤ 0 then m * 2 ^ (-k).toNat else m / 2 ^ k.toNat
def ls2 (m : Nat) (k : Int) : Bool := if k ≤ 0 then false else lostB m k.toNat
def half2 (m : Nat) (k : Int) : Bool := if k ≤ 0 then false else m.testBit (k.toNat - 1)
def over2 (m : Nat) (k : Int) : Bool := if k ≤ 0 then false else lostB m (k.toNat - 1)
def up2 (m : Nat) (k : Int) : Bool := half2 m k && (over2 m k || decide (fl2 m k % 2 = 1))
def rd2 (m : Nat) (k : Int) : Nat := fl2 m k + (up2 m k).toNat
def more2 (m : Nat) (k : Int) : Nat := if ls2 m (k - 2) = true then (fl2 m (k - 2) % 4) ||| 1 else fl2 m (k - 2) % 4

theorem mod_succ (m n : Nat) : m % 2 ^ (n + 1) = m % 2 ^ n + 2 ^ n * (m / 2 ^ n % 2) := Nat.mod_pow_succ
theorem div_succ (m n : Nat) : m / 2 ^ (n + 1) = m / 2 ^ n / 2 := by rw [Nat.pow_succ, Nat.div_div_eq_div_mul]
theorem lost_succ (m n : Nat) : lostB m (n + 1) = (lostB m n || decide (m / 2 ^ n % 2 = 1)) := by
  unfold lostB
  rw [mod_succ]
  have := Nat.two_pow_pos n
  have h2 : m / 2 ^ n % 2 = 0 ∨ m / 2 ^ n % 2 = 1 := by omega
  rcases h2 with h | h
  · rw [h]; simp
  · rw [h]
    have : m % 2 ^ n + 2 ^ n * 1 ≠ 0 := by omega
    rw [decide_eq_true this]; simp
theorem bit_div (m n : Nat) : m.testBit n = decide (m / 2 ^ n % 2 = 1) := Nat.testBit_eq_decide_div_mod_eq
theorem four_or (q : Nat) (h : q < 4) : q ||| 1 = q / 2 * 2 + 1 := by
  have : q = 0 ∨ q = 1 ∨ q = 2 ∨ q = 3 := by omega
  rcases this with e | e | e | e <;> (rw [e]; decide)
theorem more_half (m : Nat) (k : Int) : more2 m k = 2 * (half2 m k).toNat + (over2 m k).toNat := by
  by_cases h0 : k ≤ 0
  · unfold more2 ls2 half2 over2 fl2
    rw [if_pos (show k - 2 ≤ 0 by omega), if_pos (show k - 2 ≤ 0 by omega), if_pos h0, if_pos h0, if_neg (by decide)]
    rw [show (-(k - 2)).toNat = (-k).toNat + 2 by omega, Nat.pow_add, ← Nat.mul_assoc]
    simp
  · by_cases h1 : k = 1
    · subst h1
      unfold more2 ls2 half2 over2 fl2
      rw [if_pos (show (1 : Int) - 2 ≤ 0 by decide), if_pos (show (1 : Int) - 2 ≤ 0 by decide), if_neg (by decide), if_neg (by decide), if_neg (by decide)]
      rw [show (-(1 - 2) : Int).toNat = 1 by decide, show (1 : Int).toNat - 1 = 0 by decide, bit_div]
      have : lostB m 0 = false := by unfold lostB; simp [Nat.mod_one]
      rw [this, Nat.pow_zero, Nat.div_one]
      have h2 : m % 2 = 0 ∨ m % 2 = 1 := by omega
      rcases h2 with h | h <;> rw [h] <;> simp <;> omega
    · obtain ⟨n, hn⟩ : ∃ n : Nat, k = (n : Int) + 2 := ⟨(k - 2).toNat, by omega⟩
      subst hn
      have e2 : half2 m ((n : Int) + 2) = decide (m / 2 ^ n / 2 % 2 = 1) := by
        unfold half2
        rw [if_neg h0, show ((n : Int) + 2).toNat - 1 = n + 1 by omega, bit_div, div_succ]
      have e3 : over2 m ((n : Int) + 2) = (lostB m n || decide (m / 2 ^ n % 2 = 1)) := by
        unfold over2
        rw [if_neg h0, show ((n : Int) + 2).toNat - 1 = n + 1 by omega, lost_succ]
      have e1 : ls2 m ((n : Int) + 2 - 2) = lostB m n := by
        unfold ls2
        by_cases hz : n = 0
        · subst hz
          rw [if_pos (by decide)]
          unfold lostB; simp [Nat.mod_one]
        · rw [if_neg (by omega), show ((n : Int) + 2 - 2).toNat = n by omega]
      have e4 : fl2 m ((n : Int) + 2 - 2) = m / 2 ^ n := by
        unfold fl2
        by_cases hz : n = 0
        · subst hz
          rw [if_pos (by decide), show (-((0 : Nat) + 2 - 2 : Int)).toNat = 0 by decide]
          simp
        · rw [if_neg (by omega), show ((n : Int) + 2 - 2).toNat = n by omega]
      unfold more2
      rw [e1, e2, e3, e4]
      generalize m / 2 ^ n = q
      cases lostB m n with
      | true =>
        rw [if_pos rfl, four_or _ (Nat.mod_lt _ (by decide)), Bool.true_or]
        by_cases h : q / 2 % 2 = 1
        · rw [decide_eq_true h]; simp only [Bool.toNat_true]; omega
        · rw [decide_eq_false h]; simp only [Bool.toNat_true, Bool.toNat_false]; omega
      | false =>
        rw [if_neg (by decide), Bool.false_or]
        by_cases h : q / 2 % 2 = 1
        · rw [decide_eq_true h]
          by_cases g : q % 2 = 1
          · rw [decide_eq_true g]; simp only [Bool.toNat_true]; omega
          · rw [decide_eq_false g]; simp only [Bool.toNat_true, Bool.toNat_false]; omega
        · rw [decide_eq_false h]
          by_cases g : q % 2 = 1
          · rw [decide_eq_true g]; simp only [Bool.toNat_true, Bool.toNat_false]; omega
          · rw [decide_eq_false g]; simp only [Bool.toNat_false]; omega
theorem fl_four (m : Nat) (k : Int) : fl2 m (k - 2) / 4 = fl2 m k := by
  unfold fl2
  by_cases h0 : k ≤ 0
  · rw [if_pos (by omega), if_pos h0, show (-(k - 2)).toNat = (-k).toNat + 2 by omega, Nat.pow_add, ← Nat.mul_assoc]
    omega
  · rw [if_neg h0]
    by_cases h1 : k = 1
    · subst h1
      rw [if_pos (by decide), show (-(1 - 2) : Int).toNat = 1 by decide, show (1 : Int).toNat = 1 by decide]
      omega
    · by_cases h2 : k = 2
      · subst h2
        rw [if_pos (by decide), show (-(2 - 2) : Int).toNat = 0 by decide, show (2 : Int).toNat = 2 by decide]
        omega
      · rw [if_neg (by omega), Nat.div_div_eq_div_mul, show k.toNat = (k - 2).toNat + 2 by omega, Nat.pow_add]
theorem more_zero (m : Nat) (k : Int) : more2 m k = 0 ↔ ls2 m k = false := by
  rw [more_half]
  unfold half2 over2 ls2
  by_cases h0 : k ≤ 0
  · rw [if_pos h0, if_pos h0, if_pos h0]; simp
  · rw [if_neg h0, if_neg h0, if_neg h0]
    obtain ⟨n, hn⟩ : ∃ n : Nat, k.toNat = n + 1 := ⟨k.toNat - 1, by omega⟩
    rw [hn, show n + 1 - 1 = n by omega, lost_succ, bit_div]
    cases lostB m n <;> cases decide (m / 2 ^ n % 2 = 1) <;> simp
/-- how great the rounded-down part is -/
theorem fl_lt (m b : Nat) (k : Int) (h : (blen m : Int) ≤ b + k) : fl2 m k < 2 ^ b := by
  unfold fl2
  have hm := lt_blen m
  by_cases h0 : k ≤ 0
  · rw [if_pos h0]
    have e : 2 ^ b = 2 ^ (b - (-k).toNat) * 2 ^ (-k).toNat := by rw [← Nat.pow_add]; congr 1; omega
    rw [e]
    refine Nat.mul_lt_mul_of_pos_right ?_ (Nat.two_pow_pos _)
    exact Nat.lt_of_lt_of_le hm (Nat.pow_le_pow_right (by decide) (by omega))
  · rw [if_neg h0]
    rw [Nat.div_lt_iff_lt_mul (Nat.two_pow_pos _), ← Nat.pow_add]
    exact Nat.lt_of_lt_of_le hm (Nat.pow_le_pow_right (by decide) (by omega))
theorem fl_ge (m b : Nat) (k : Int) (h0 : m ≠ 0) (h : (b : Int) + k + 1 ≤ blen m) : 2 ^ b ≤ fl2 m k := by
  unfold fl2
  have hm := blen_ge m h0
  have hb : blen m ≠ 0 := fun q => h0 ((blen_nil m).1 q)
  by_cases hk : k ≤ 0
  · rw [if_pos hk]
    refine Nat.le_trans ?_ (Nat.mul_le_mul_right _ hm)
    rw [← Nat.pow_add]
    exact Nat.pow_le_pow_right (by decide) (by omega)
  · rw [if_neg hk]
    rw [Nat.le_div_iff_mul_le (Nat.two_pow_pos _), ← Nat.pow_add]
    exact Nat.le_trans (Nat.pow_le_pow_right (by decide) (by omega)) hm

/-- the number's top, the exponent of the last bit that is kept, the rounded amount (as a binary64's bits), is it exact? -/
def tpI (m : Nat) (e : Int) : Int := e + (blen m : Int) - 1
def lsI (m : Nat) (e : Int) : Int := if tpI m e - 52 < -1074 then -1074 else tpI m e - 52
def nearW (m : Nat) (e : Int) : Int := if m = 0 then 0 else if 1024 ≤ tpI m e then 9218868437227405312 else (lsI m e + 1074) * 4503599627370496 + (rd2 m (lsI m e - e) : Int)
def exactB (m : Nat) (e : Int) : Bool := if m = 0 then true else if 1024 ≤ tpI m e then false else !ls2 m (lsI m e - e)
theorem ls_low (m : Nat) (e : Int) : -1074 ≤ lsI m e := by unfold lsI; split <;> omega
theorem ls_top (m : Nat) (e : Int) (h : tpI m e < 1024) : lsI m e ≤ 971 := by unfold lsI; split <;> omega
theorem ls_bits (m : Nat) (e : Int) : (blen m : Int) ≤ 53 + (lsI m e - e) := by unfold lsI tpI; split <;> omega
theorem M_lt (m : Nat) (e : Int) : fl2 m (lsI m e - e) < 9007199254740992 := by
  have := fl_lt m 53 (lsI m e - e) (ls_bits m e)
  exact this
theorem M_ge (m : Nat) (e : Int) (h0 : m ≠ 0) (h : -1074 < lsI m e) : 4503599627370496 ≤ fl2 m (lsI m e - e) := by
  have := fl_ge m 52 (lsI m e - e) h0 (by unfold lsI tpI at *; split at h <;> (try split) <;> omega)
  exact this
theorem cnt_lt (m : Nat) (e : Int) : fl2 m (lsI m e - e - 2) < 36028797018963968 := by
  have := fl_lt m 55 (lsI m e - e - 2) (by have := ls_bits m e; omega)
  exact this
theorem nearW_bd (m : Nat) (e : Int) : 0 ≤ nearW m e ∧ nearW m e ≤ 9218868437227405312 := by
  unfold nearW
  split
  · omega
  · split
    · omega
    · rename_i h1 h2
      have a1 := ls_low m e
      have a2 := ls_top m e (by omega)
      have a3 := M_lt m e
      unfold rd2
      have : (up2 m (lsI m e - e)).toNat ≤ 1 := Bool.toNat_le _
      omega
/-- the bit that says whether a word is odd -/
theorem down_odd (m : Nat) (e : Int) (l : Int) : ((l + 1074) * 4503599627370496 + (fl2 m (l - e) : Int)) % 2 = (fl2 m (l - e) % 2 : Nat) := by omega
/-- what is chosen of the two neighbours -/
theorem choose_rd (m : Nat) (k : Int) : (more2 m k < 2 → rd2 m k = fl2 m k) ∧ (2 < more2 m k → rd2 m k = fl2 m k + 1) ∧ (more2 m k = 2 → rd2 m k = fl2 m k + fl2 m k % 2) := by
  rw [more_half]
  unfold rd2 up2
  have h2 : fl2 m k % 2 = 0 ∨ fl2 m k % 2 = 1 := by omega
  rcases h2 with h | h <;> rw [h] <;> cases half2 m k <;> cases over2 m k <;> simp
/-- sign and flags -/
def nearB (s : Bool) (m : Nat) (e : Int) : Int := if (s && decide (m ≠ 0)) = true then negV (nearW m e) else nearW m e
end Go.Proofs.YtiipjkkfaplhnaaDoor

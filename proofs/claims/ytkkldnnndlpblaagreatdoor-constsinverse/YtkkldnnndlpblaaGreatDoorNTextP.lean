/- Plain facts on a natural's decimal digits, nineteen at a time. -/
import Derived.Lib.ItoaNum
import Derived.Lib.Itoa
import Derived.Test.YtkkldnnndlpblaaGreatDoorTMA
namespace Go.Proofs.YtkkldnnndlpblaaGreatDoor
open Go.RowKit

/-- The digits, nineteen to a number, the lowest first. -/
def chunksOf (n : Nat) : List Nat := if n < 18446744073709551616 then [n] else n % 10000000000000000000 :: chunksOf (n / 10000000000000000000)
termination_by n
decreasing_by omega

theorem chunks_one {n : Nat} (h : n < 18446744073709551616) : chunksOf n = [n] := by rw [chunksOf, if_pos h]

theorem chunks_more {n : Nat} (h : ¬ n < 18446744073709551616) : chunksOf n = n % 10000000000000000000 :: chunksOf (n / 10000000000000000000) := by rw [chunksOf, if_neg h]

theorem chunks_ne (n : Nat) : chunksOf n ≠ [] := by
  by_cases h : n < 18446744073709551616
  · rw [chunks_one h]; simp
  · rw [chunks_more h]; simp

theorem chunks_lt (n : Nat) : ∀ x ∈ chunksOf n, x < 18446744073709551616 := by
  induction n using Nat.strongRecOn with
  | ind n ih =>
    by_cases h : n < 18446744073709551616
    · rw [chunks_one h]; intro x hx; simp at hx; omega
    · rw [chunks_more h]
      intro x hx
      rcases List.mem_cons.1 hx with e | e
      · rw [e]; have := Nat.mod_lt n (show 0 < 10000000000000000000 by decide); omega
      · exact ih _ (by omega) x e

theorem chunks_len (k : Nat) : ∀ n : Nat, n < 2 ^ (63 * k) → (chunksOf n).length ≤ k + 1 := by
  induction k with
  | zero => intro n hn; simp at hn; subst hn; rw [chunks_one (by decide)]; simp
  | succ k ih =>
    intro n hn
    by_cases h : n < 18446744073709551616
    · rw [chunks_one h]; simp
    · rw [chunks_more h, List.length_cons]
      have := ih (n / 10000000000000000000) (by
        rw [Nat.div_lt_iff_lt_mul (by decide)]
        rw [show 63 * (k + 1) = 63 * k + 63 by omega, Nat.pow_add] at hn
        have h2 : 2 ^ (63 * k) * 2 ^ 63 ≤ 2 ^ (63 * k) * 10000000000000000000 := Nat.mul_le_mul_left _ (by decide)
        exact Nat.lt_of_lt_of_le hn h2)
      omega

theorem chunks_len_b (k v : Nat) (h : blen v ≤ 63 * k) : (chunksOf v).length ≤ k + 1 := chunks_len k v ((blen_le v _).1 h)

/-- k digits of r, with noughts ahead. -/
def padk : Nat → Nat → List UInt8
  | 0, _ => []
  | k + 1, r => padk k (r / 10) ++ [UInt8.ofNat (48 + r % 10)]

theorem dec_big {u : Nat} (h : ¬ u < 10) : Lib.decDigits u = Lib.decDigits (u / 10) ++ [UInt8.ofNat (48 + u % 10)] := by rw [Lib.decDigits, dif_neg h]

theorem dec_small {u : Nat} (h : u < 10) : Lib.decDigits u = [UInt8.ofNat (48 + u)] := by rw [Lib.decDigits, dif_pos h]

theorem dec_pad (k : Nat) : ∀ q r : Nat, 0 < q → r < 10 ^ k → Lib.decDigits (q * 10 ^ k + r) = Lib.decDigits q ++ padk k r := by
  induction k with
  | zero => intro q r _ hr; simp at hr; subst hr; simp [padk]
  | succ k ih =>
    intro q r hq hr
    have hp : 0 < 10 ^ k := Nat.pow_pos (by decide)
    rw [Nat.pow_succ] at hr
    have e : q * 10 ^ (k + 1) = 10 * (q * 10 ^ k) := by rw [Nat.pow_succ, Nat.mul_comm (10 ^ k) 10, Nat.mul_left_comm]
    have h1 : 1 * 10 ^ k ≤ q * 10 ^ k := Nat.mul_le_mul_right _ hq
    rw [e, dec_big (by omega), show (10 * (q * 10 ^ k) + r) / 10 = q * 10 ^ k + r / 10 by omega, show (10 * (q * 10 ^ k) + r) % 10 = r % 10 by omega, ih q (r / 10) hq (by omega)]
    rw [padk, List.append_assoc]

theorem pad_zero (k : Nat) : padk k 0 = List.replicate k 48 := by
  induction k with
  | zero => rfl
  | succ k ih => rw [padk, Nat.zero_div, ih, List.replicate_succ']; rfl

theorem pad_dec (k : Nat) : ∀ r : Nat, r < 10 ^ k → 1 ≤ k → padk k r = List.replicate (k - Lib.nDigits r) 48 ++ Lib.decDigits r := by
  induction k with
  | zero => intro r _ h; omega
  | succ k ih =>
    intro r hr _
    rw [Nat.pow_succ] at hr
    by_cases h : r < 10
    · rw [padk, show r / 10 = 0 by omega, pad_zero, Lib.nDigits_small h, dec_small h, show r % 10 = r by omega, Nat.add_sub_cancel]
    · have hk : 1 ≤ k := by
        rcases Nat.eq_zero_or_pos k with h0 | h0
        · subst h0; simp at hr; omega
        · exact h0
      rw [padk, ih (r / 10) (by omega) hk, Lib.nDigits_big h, dec_big h, List.append_assoc, show k + 1 - (Lib.nDigits (r / 10) + 1) = k - Lib.nDigits (r / 10) by omega]

theorem nDigits_le (k r : Nat) (hr : r < 10 ^ k) (hk : 1 ≤ k) : Lib.nDigits r ≤ k := by
  rcases Nat.lt_or_ge k (Lib.nDigits r) with h | h
  · exfalso
    have h1 : 10 ^ k ≤ 10 ^ (Lib.nDigits r - 1) := Nat.pow_le_pow_right (by decide) (by omega)
    by_cases h10 : r < 10
    · rw [Lib.nDigits_small h10] at h; omega
    · have h2 : ∀ m u : Nat, Lib.nDigits u = m + 1 → 1 ≤ m → 10 ^ m ≤ u := fun m => by
        induction m with
        | zero => intro u _ h; omega
        | succ m ih =>
          intro u hu _
          have hub : ¬ u < 10 := fun q => by rw [Lib.nDigits_small q] at hu; omega
          rw [Lib.nDigits_big hub] at hu
          rcases Nat.eq_zero_or_pos m with h0 | h0
          · subst h0; simp; omega
          · have := ih (u / 10) (by omega) h0
            rw [Nat.pow_succ]; omega
      have := h2 (Lib.nDigits r - 1) r (by omega) (by omega)
      omega
  · exact h

/-- The text of a list of such numbers. -/
def textOf : List Nat → List UInt8
  | [] => []
  | [c] => Lib.decDigits c
  | c :: d :: L => textOf (d :: L) ++ (List.replicate (19 - Lib.nDigits c) 48 ++ Lib.decDigits c)

theorem textOf_cons (c : Nat) (L : List Nat) (h : L ≠ []) : textOf (c :: L) = textOf L ++ (List.replicate (19 - Lib.nDigits c) 48 ++ Lib.decDigits c) := by
  cases L with
  | nil => exact absurd rfl h
  | cons d L => rfl

theorem text_chunks (n : Nat) : textOf (chunksOf n) = Lib.decDigits n := by
  induction n using Nat.strongRecOn with
  | ind n ih =>
    by_cases h : n < 18446744073709551616
    · rw [chunks_one h]; rfl
    · rw [chunks_more h, textOf_cons _ _ (chunks_ne _), ih _ (by omega)]
      have hr := Nat.mod_lt n (show 0 < 10000000000000000000 by decide)
      rw [← pad_dec 19 _ hr (by decide), ← dec_pad 19 _ _ (by omega) hr]
      congr 1
      omega

end Go.Proofs.YtkkldnnndlpblaaGreatDoor

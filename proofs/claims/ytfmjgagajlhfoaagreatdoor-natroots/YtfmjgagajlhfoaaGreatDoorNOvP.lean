/- Plain facts on long division: what is guessed of a quotient's word, what is taken off, what is left. -/
import Derived.Test.YtfmjgagajlhfoaaGreatDoorNMul2
namespace Go.Proofs.YtfmjgagajlhfoaaGreatDoor
open Go.RowKit

theorem val_top3 (A : List Int) (n2 an an1 an2 : Nat) (hl : A.length = n2 + 3) (h0 : A.getD (n2 + 2) 0 = (an : Int)) (h1 : A.getD (n2 + 1) 0 = (an1 : Int)) (h2 : A.getD n2 0 = (an2 : Int)) :
    val A = ((an * 18446744073709551616 + an1) * 18446744073709551616 + an2) * 18446744073709551616 ^ n2 + low A n2 := by
  have e : val A = low A (n2 + 2 + 1) := (low_all A _ (by omega)).symm
  have e1 : low A (n2 + 2 + 1) = low A (n2 + 1 + 1) + 18446744073709551616 ^ (n2 + 2) * (A.getD (n2 + 2) 0).toNat := rfl
  have e2 : low A (n2 + 1 + 1) = low A (n2 + 1) + 18446744073709551616 ^ (n2 + 1) * (A.getD (n2 + 1) 0).toNat := rfl
  have e3 : low A (n2 + 1) = low A n2 + 18446744073709551616 ^ n2 * (A.getD n2 0).toNat := rfl
  rw [e, e1, e2, e3, h0, h1, h2, Int.toNat_natCast, Int.toNat_natCast, Int.toNat_natCast, Nat.pow_succ, Nat.pow_succ, Nat.pow_succ]
  generalize 18446744073709551616 ^ n2 = P
  rw [Nat.add_mul, Nat.add_mul, Nat.add_mul]
  have a1 : an * 18446744073709551616 * 18446744073709551616 * P = P * 18446744073709551616 * 18446744073709551616 * an := by
    rw [Nat.mul_comm _ P]; simp only [Nat.mul_assoc, Nat.mul_comm an]
  have a2 : an1 * 18446744073709551616 * P = P * 18446744073709551616 * an1 := by
    rw [Nat.mul_comm _ P]; simp only [Nat.mul_assoc, Nat.mul_comm an1]
  rw [a1, a2, Nat.mul_comm an2 P]
  omega
theorem val_top2 (A : List Int) (n2 top next : Nat) (hl : A.length = n2 + 2) (h1 : A.getD (n2 + 1) 0 = (top : Int)) (h2 : A.getD n2 0 = (next : Int)) :
    val A = (top * 18446744073709551616 + next) * 18446744073709551616 ^ n2 + low A n2 := by
  have e : val A = low A (n2 + 1 + 1) := (low_all A _ (by omega)).symm
  have e2 : low A (n2 + 1 + 1) = low A (n2 + 1) + 18446744073709551616 ^ (n2 + 1) * (A.getD (n2 + 1) 0).toNat := rfl
  have e3 : low A (n2 + 1) = low A n2 + 18446744073709551616 ^ n2 * (A.getD n2 0).toNat := rfl
  rw [e, e2, e3, h1, h2, Int.toNat_natCast, Int.toNat_natCast, Nat.pow_succ]
  generalize 18446744073709551616 ^ n2 = P
  rw [Nat.add_mul]
  have a2 : top * 18446744073709551616 * P = P * 18446744073709551616 * top := by
    rw [Nat.mul_comm _ P]; simp only [Nat.mul_assoc, Nat.mul_comm top]
  rw [a2, Nat.mul_comm next P]
  omega
/-- The guess is how often it goes, or one more. -/
theorem often_le (P A D T3 T2 al dl k : Nat) (hA : A = T3 * P + al) (hal : al < P) (hD : D = T2 * P + dl) (hdl : dl < P) (hk : k * T2 ≤ T3) (hkW : k < 18446744073709551616)
    (hT : ∀ t, t < 18446744073709551616 → t * T2 ≤ T3 → t ≤ k) (hlt : A < D * 18446744073709551616) (hWT : 18446744073709551616 ≤ T2) : A / D ≤ k ∧ k ≤ A / D + 1 := by
  have hDP : 18446744073709551616 * P ≤ D := by
    have := Nat.mul_le_mul_right P hWT; omega
  have hD0 : 0 < D := by omega
  have hq : A / D < 18446744073709551616 := by rw [Nat.div_lt_iff_lt_mul hD0, Nat.mul_comm]; exact hlt
  have hqD : A / D * D ≤ A := Nat.div_mul_le_self _ _
  constructor
  · refine hT _ hq ?_
    generalize A / D = q at *
    have h1 : q * T2 * P ≤ q * D := by rw [hD, Nat.mul_add, Nat.mul_assoc]; omega
    have h2 : q * T2 * P < (T3 + 1) * P := by rw [Nat.add_mul, Nat.one_mul]; omega
    have h3 := Nat.lt_of_mul_lt_mul_right h2
    omega
  · rcases Nat.eq_zero_or_pos k with h0 | h0
    · rw [h0]; exact Nat.zero_le _
    · obtain ⟨j, rfl⟩ : ∃ j, k = j + 1 := ⟨k - 1, by omega⟩
      have h1 : (j + 1) * T2 * P ≤ T3 * P := Nat.mul_le_mul_right P hk
      have h2 : (j + 1) * dl ≤ 18446744073709551616 * dl := Nat.mul_le_mul_right dl (by omega)
      have h3 : 18446744073709551616 * dl ≤ 18446744073709551616 * P := Nat.mul_le_mul_left _ (by omega)
      have h4 : (j + 1) * D = (j + 1) * T2 * P + (j + 1) * dl := by rw [hD, Nat.mul_add, Nat.mul_assoc]
      have h5 : (j + 1) * D = j * D + D := by rw [Nat.add_mul, Nat.one_mul]
      have h6 : j ≤ A / D := by
        rw [Nat.le_div_iff_mul_le hD0]
        generalize (j + 1) * D = x at *
        generalize (j + 1) * T2 * P = y at *
        generalize (j + 1) * dl = z at *
        generalize j * D = u at *
        omega
      omega
theorem top_word_le (n1 : Nat) (A ys : List Int) (an top : Nat) (hA : A.length = n1 + 2) (hy : ys.length = n1 + 1) (hU : AllU ys) (h0 : A.getD (n1 + 1) 0 = (an : Int)) (h1 : ys.getD n1 0 = (top : Int)) (hlt : val A < val ys * 18446744073709551616) : an ≤ top := by
  have e : val A = low A (n1 + 1 + 1) := (low_all A _ (by omega)).symm
  have e1 : low A (n1 + 1 + 1) = low A (n1 + 1) + 18446744073709551616 ^ (n1 + 1) * (A.getD (n1 + 1) 0).toNat := rfl
  have d : val ys = low ys (n1 + 1) := (low_all ys _ (by omega)).symm
  have d1 : low ys (n1 + 1) = low ys n1 + 18446744073709551616 ^ n1 * (ys.getD n1 0).toNat := rfl
  have d2 := low_lt ys hU n1
  rw [h0, Int.toNat_natCast, Nat.pow_succ] at e1
  rw [h1, Int.toNat_natCast] at d1
  rw [e, e1, d, d1] at hlt
  generalize 18446744073709551616 ^ n1 = P at *
  rcases Nat.lt_or_ge top an with q | q
  · exfalso
    have h3 : P * (top + 1) ≤ P * an := Nat.mul_le_mul_left P q
    have h4 : P * 18446744073709551616 * an = P * an * 18446744073709551616 := by rw [Nat.mul_assoc, Nat.mul_assoc, Nat.mul_comm an]
    rw [Nat.mul_add, Nat.mul_one] at h3
    rw [h4] at hlt
    generalize P * an = x at *
    generalize P * top = y at *
    omega
  · exact q
/-- Behind the guess: what was borrowed tells whether it was one too great. -/
theorem often_more {Wn A A' D S k an br q : Nat} (hA : A = A' + Wn * an) (hs : S + k * D = A' + Wn * br) (hS : S < Wn) (hq : q = A / D) (hk1 : k ≤ q + 1) (hbr : an < br) : k = q + 1 := by
  rcases Nat.lt_or_ge q k with h | h
  · omega
  · exfalso
    have h1 : k * D ≤ A := Nat.le_trans (Nat.mul_le_mul_right D h) (by rw [hq]; exact Nat.div_mul_le_self _ _)
    have h2 : Wn * (an + 1) ≤ Wn * br := Nat.mul_le_mul_left Wn hbr
    rw [Nat.mul_add, Nat.mul_one] at h2
    generalize Wn * an = x at *
    generalize Wn * br = y at *
    omega
theorem often_same {Wn A A' D S k an br q : Nat} (hA : A = A' + Wn * an) (hs : S + k * D = A' + Wn * br) (hq : q = A / D) (hD0 : 0 < D) (hk : q ≤ k) (hbr : br ≤ an) : k = q := by
  have h2 : Wn * br ≤ Wn * an := Nat.mul_le_mul_left Wn hbr
  have h1 : k ≤ q := by
    rw [hq, Nat.le_div_iff_mul_le hD0]; omega
  omega
theorem rest_same {Wn A A' D S an br q : Nat} (hA : A = A' + Wn * an) (hs : S + q * D = A' + Wn * br) (hq : q = A / D) (hD0 : 0 < D) (hDW : D ≤ Wn) (hbr : br ≤ an) : an = br ∧ S = A % D := by
  have h1 := Nat.div_add_mod A D
  have h2 := Nat.mod_lt A hD0
  rw [← hq, Nat.mul_comm] at h1
  obtain ⟨d, rfl⟩ : ∃ d, an = br + d := ⟨an - br, by omega⟩
  rw [Nat.mul_add] at hA
  have h3 : d = 0 := by
    rcases Nat.eq_zero_or_pos d with h | h
    · exact h
    · exfalso
      have h4 : Wn * 1 ≤ Wn * d := Nat.mul_le_mul_left Wn h
      generalize Wn * d = x at *
      generalize Wn * br = y at *
      generalize q * D = z at *
      omega
  subst h3
  refine ⟨rfl, ?_⟩
  generalize Wn * br = y at *
  generalize q * D = z at *
  omega
theorem rest_more {Wn A A' D S S2 an br cr q : Nat} (hA : A = A' + Wn * an) (hs : S + (q + 1) * D = A' + Wn * br) (hs2 : S2 + Wn * cr = S + 1 * D) (hS2 : S2 < Wn) (hq : q = A / D) (hD0 : 0 < D) (hDW : D ≤ Wn) : an + cr = br ∧ S2 = A % D := by
  have h1 := Nat.div_add_mod A D
  have h2 := Nat.mod_lt A hD0
  rw [← hq, Nat.mul_comm] at h1
  rw [Nat.add_mul, Nat.one_mul] at hs
  have h5 : A % D + Wn * br = S2 + Wn * (an + cr) := by
    rw [Nat.mul_add]
    generalize q * D = z at *
    omega
  have h6 : an + cr = br := by
    rcases Nat.lt_trichotomy (an + cr) br with h | h | h
    · exfalso
      have := Nat.mul_le_mul_left Wn h
      rw [Nat.mul_succ] at this
      omega
    · exact h
    · exfalso
      have := Nat.mul_le_mul_left Wn h
      rw [Nat.mul_succ] at this
      omega
  refine ⟨h6, ?_⟩
  rw [h6] at h5
  omega
/-- A round of long division. -/
theorem over_round (L S Q : List Int) (L0 D j n lq q : Nat) (hL : L.length = lq + n) (hj : j < lq) (hQ : Q.length = lq) (hD : D ≤ 18446744073709551616 ^ n) (hU : AllU L) (hD0 : 0 < D) (hSl : S.length = n + 1)
    (hlt : val L < D * 18446744073709551616 ^ (j + 1)) (hv : L0 = D * 18446744073709551616 ^ (j + 1) * val (Q.drop (j + 1)) + val L) :
    val ((L.drop j).take (n + 1)) < D * 18446744073709551616 ∧ (q = val ((L.drop j).take (n + 1)) / D → val S = val ((L.drop j).take (n + 1)) % D →
      val (spliceW L j S) < D * 18446744073709551616 ^ j ∧ L0 = D * 18446744073709551616 ^ j * val ((Q.set j (q : Int)).drop j) + val (spliceW L j S)) := by
  have e1 : L = L.take j ++ ((L.drop j).take (n + 1) ++ L.drop (j + (n + 1))) := by
    rw [← List.drop_drop, List.take_append_drop, List.take_append_drop]
  have e2 : val L = val (L.take j) + 18446744073709551616 ^ j * (val ((L.drop j).take (n + 1)) + 18446744073709551616 ^ (n + 1) * val (L.drop (j + (n + 1)))) := by
    conv => lhs; rw [e1]
    rw [val_append, val_append, List.length_take, List.length_take, List.length_drop, show min j L.length = j by omega, show min (n + 1) (L.length - j) = n + 1 by omega]
  have hlow : val (L.take j) < 18446744073709551616 ^ j := by
    have := val_lt (L.take j) (hU.take j)
    rw [List.length_take, show min j L.length = j by omega] at this; exact this
  have e3 := splice_val L j S (by omega)
  rw [hSl] at e3
  have e4 := drop_set_val Q j (q : Int) (by omega)
  rw [Int.toNat_natCast] at e4
  have hz : val (L.drop (j + (n + 1))) = 0 := by
    rcases Nat.eq_zero_or_pos (val (L.drop (j + (n + 1)))) with h | h
    · exact h
    · exfalso
      have h1 : 18446744073709551616 ^ (n + 1) * 1 ≤ 18446744073709551616 ^ (n + 1) * val (L.drop (j + (n + 1))) := Nat.mul_le_mul_left _ h
      have h2 : 18446744073709551616 ^ j * 18446744073709551616 ^ (n + 1) ≤ val L := by
        rw [e2]
        have := Nat.mul_le_mul_left (18446744073709551616 ^ j) (show 18446744073709551616 ^ (n + 1) ≤ val ((L.drop j).take (n + 1)) + 18446744073709551616 ^ (n + 1) * val (L.drop (j + (n + 1))) by omega)
        omega
      have h3 : D * 18446744073709551616 ^ (j + 1) ≤ 18446744073709551616 ^ n * 18446744073709551616 ^ (j + 1) := Nat.mul_le_mul_right _ hD
      rw [← Nat.pow_add] at h2 h3
      rw [show n + (j + 1) = j + (n + 1) by omega] at h3
      omega
  rw [hz, Nat.mul_zero, Nat.add_zero] at e2
  rw [Nat.pow_succ] at hlt hv
  generalize val ((L.drop j).take (n + 1)) = sg at *
  generalize 18446744073709551616 ^ j = P at *
  have hP : 0 < P := by omega
  constructor
  · have h1 : P * sg < P * (D * 18446744073709551616) := by
      have : P * (D * 18446744073709551616) = D * (P * 18446744073709551616) := Nat.mul_left_comm _ _ _
      omega
    exact Nat.lt_of_mul_lt_mul_left h1
  · intro hq hS
    have h1 := Nat.div_add_mod sg D
    have h2 := Nat.mod_lt sg hD0
    rw [← hq, ← hS] at h1
    rw [← hS] at h2
    have h3 : P * sg = P * (D * q) + P * val S := by rw [← h1, Nat.mul_add]
    have h4 : P * (val S + 1) ≤ P * D := Nat.mul_le_mul_left P h2
    rw [Nat.mul_add, Nat.mul_one] at h4
    constructor
    · rw [Nat.mul_comm D P]; omega
    · rw [e4, Nat.mul_add, hv]
      have h5 : D * P * q = P * (D * q) := by rw [Nat.mul_comm D P, Nat.mul_assoc]
      have h6 : D * (P * 18446744073709551616) * val (Q.drop (j + 1)) = D * P * (18446744073709551616 * val (Q.drop (j + 1))) := by rw [← Nat.mul_assoc, Nat.mul_assoc]
      rw [h5, h6]
      omega
theorem over_end (L Q : List Int) (u v s n lq : Nat) (hL : L.length = lq + n) (hv0 : 0 < v) (hD : v * 2 ^ s ≤ 18446744073709551616 ^ n) (hlt : val L < v * 2 ^ s) (hv : u * 2 ^ s = v * 2 ^ s * val Q + val L) :
    val Q = u / v ∧ val (L.take n) / 2 ^ s = u % v := by
  have hp : 0 < 2 ^ s := Nat.pow_pos (by decide)
  have e1 := val_split L n
  rw [show min n L.length = n by omega] at e1
  have hz : val (L.drop n) = 0 := by
    rcases Nat.eq_zero_or_pos (val (L.drop n)) with h | h
    · exact h
    · exfalso
      have h1 : 18446744073709551616 ^ n * 1 ≤ 18446744073709551616 ^ n * val (L.drop n) := Nat.mul_le_mul_left _ h
      omega
  rw [hz, Nat.mul_zero, Nat.add_zero] at e1
  rw [← e1]
  have h1 : u * 2 ^ s / (v * 2 ^ s) = val Q := by
    rw [hv, Nat.mul_add_div (Nat.mul_pos hv0 hp), Nat.div_eq_of_lt hlt, Nat.add_zero]
  have h2 : u * 2 ^ s % (v * 2 ^ s) = val L := by
    rw [hv, Nat.mul_add_mod, Nat.mod_eq_of_lt hlt]
  rw [Nat.mul_div_mul_right _ _ hp] at h1
  rw [Nat.mul_mod_mul_right] at h2
  refine ⟨h1.symm, ?_⟩
  rw [← h2, Nat.mul_div_cancel _ hp]
theorem over_start (u v s n la : Nat) (hu : u < 18446744073709551616 ^ la) (hv : 18446744073709551616 ^ (n - 1) ≤ v) (hn : 1 ≤ n) (hla : n ≤ la) : u * 2 ^ s < v * 2 ^ s * 18446744073709551616 ^ (la + 1 - n) := by
  have hp : 0 < 2 ^ s := Nat.pow_pos (by decide)
  have h1 : 18446744073709551616 ^ (n - 1) * 18446744073709551616 ^ (la + 1 - n) ≤ v * 18446744073709551616 ^ (la + 1 - n) := Nat.mul_le_mul_right _ hv
  rw [← Nat.pow_add, show n - 1 + (la + 1 - n) = la by omega] at h1
  have h2 : u * 2 ^ s < v * 18446744073709551616 ^ (la + 1 - n) * 2 ^ s := Nat.mul_lt_mul_of_pos_right (by omega) hp
  rw [Nat.mul_right_comm]
  exact h2
end Go.Proofs.YtfmjgagajlhfoaaGreatDoor

/- Plain facts on long division: what is guessed of a quotient's word, what is taken off, what is left. The walk of takeOften: a divisor taken off as often as it goes. The walk of long division. The calls of package nat where what they come to is known: products and quotients, beside what NEqA has. Package ival: a product that is not too great; a natural with words ahead, divided. -/
import Derived.Test.YtahpdcbmekgkfaaGreatDoorNMX
import Derived.Deep.RegionHeld3
import Derived.Deep.DrawnRows
import Derived.Test.YtahpdcbmekgkfaaGreatDoorNGuess
import Derived.Deep.LoopGhost
import Derived.Test.YtahpdcbmekgkfaaGreatDoorTMK
import Derived.Test.YtahpdcbmekgkfaaGreatDoorTMB
import Derived.Laws.CopyOwn
import Derived.Test.YtahpdcbmekgkfaaGreatDoorTMJ

namespace Go.Proofs.YtahpdcbmekgkfaaGreatDoor
open Go.RowKit
theorem val_top3 (A : List Int) (n2 an an1 an2 : Nat) (hl : A.length = n2 + 3) (h0 : A.getD (n2 + 2) 0 = (an : Int)) (h1 : A.getD (n2 + 1) 0 = (an1 : Int)) (h2 : A.getD n2 0 = (an2 : Int)) :
  val A = ((an * 18446744073709551616 + an1) * 18446744073709551616 + an2) * 18446744073709551616 ^ n2 + low A n2 := by
 have e : val A = low A (n2 + 2 + 1) := (low_all A _ (by omega)).symm
 have e1 : low A (n2 + 2 + 1) = low A (n2 + 1 + 1) + 18446744073709551616 ^ (n2 + 2) * (A.getD (n2 + 2) 0).toNat := rfl
 have e2 : low A (n2 + 1 + 1) = low A (n2 + 1) + 18446744073709551616 ^ (n2 + 1) * (A.getD (n2 + 1) 0).toNat := rfl
 have e3 : low A (n2 + 1) = low A n2 + 18446744073709551616 ^ n2 * (A.getD n2 0).toNat := rfl
 rw [e, e1, e2, e3, h0, h1, h2, Int.toNat_natCast, Int.toNat_natCast, Int.toNat_natCast, Nat.pow_succ, Nat.pow_succ, Nat.pow_succ]
 generalize 18446744073709551616 ^ n2 = P
 rw [Nat.add_mul, Nat.add_mul, Nat.add_mul]
 have a1 : an * 18446744073709551616 * 18446744073709551616 * P = P * 18446744073709551616 * 18446744073709551616 * an := by
  rw [Nat.mul_comm _ P]; simp only [Nat.mul_assoc, Nat.mul_comm an]
 have a2 : an1 * 18446744073709551616 * P = P * 18446744073709551616 * an1 := by
  rw [Nat.mul_comm _ P]; simp only [Nat.mul_assoc, Nat.mul_comm an1]
 rw [a1, a2, Nat.mul_comm an2 P]
 omega
theorem val_top2 (A : List Int) (n2 top next : Nat) (hl : A.length = n2 + 2) (h1 : A.getD (n2 + 1) 0 = (top : Int)) (h2 : A.getD n2 0 = (next : Int)) :
  val A = (top * 18446744073709551616 + next) * 18446744073709551616 ^ n2 + low A n2 := by
 have e : val A = low A (n2 + 1 + 1) := (low_all A _ (by omega)).symm
 have e2 : low A (n2 + 1 + 1) = low A (n2 + 1) + 18446744073709551616 ^ (n2 + 1) * (A.getD (n2 + 1) 0).toNat := rfl
 have e3 : low A (n2 + 1) = low A n2 + 18446744073709551616 ^ n2 * (A.getD n2 0).toNat := rfl
 rw [e, e2, e3, h1, h2, Int.toNat_natCast, Int.toNat_natCast, Nat.pow_succ]
 generalize 18446744073709551616 ^ n2 = P
 rw [Nat.add_mul]
 have a2 : top * 18446744073709551616 * P = P * 18446744073709551616 * top := by
  rw [Nat.mul_comm _ P]; simp only [Nat.mul_assoc, Nat.mul_comm top]
 rw [a2, Nat.mul_comm next P]
 omega
theorem often_le (P A D T3 T2 al dl k : Nat) (hA : A = T3 * P + al) (hal : al < P) (hD : D = T2 * P + dl) (hdl : dl < P) (hk : k * T2 ≤ T3) (hkW : k < 18446744073709551616)
  (hT : ∀ t, t < 18446744073709551616 → t * T2 ≤ T3 → t ≤ k) (hlt : A < D * 18446744073709551616) (hWT : 18446744073709551616 ≤ T2) : A / D ≤ k ∧ k ≤ A / D + 1 := by
 have hDP : 18446744073709551616 * P ≤ D := by
  have := Nat.mul_le_mul_right P hWT; omega
 have hD0 : 0 < D := by omega
 have hq : A / D < 18446744073709551616 := by rw [Nat.div_lt_iff_lt_mul hD0, Nat.mul_comm]; exact hlt
 have hqD : A / D * D ≤ A := Nat.div_mul_le_self _ _
 constructor
 ·refine hT _ hq ?_
  generalize A / D = q at *
  have h1 : q * T2 * P ≤ q * D := by rw [hD, Nat.mul_add, Nat.mul_assoc]; omega
  have h2 : q * T2 * P < (T3 + 1) * P := by rw [Nat.add_mul, Nat.one_mul]; omega
  have h3 := Nat.lt_of_mul_lt_mul_right h2
  omega
 ·rcases Nat.eq_zero_or_pos k with h0 | h0
  ·rw [h0]; exact Nat.zero_le _
  ·obtain ⟨j, rfl⟩ : ∃ j, k = j + 1 := ⟨k - 1, by omega⟩
   have h1 : (j + 1) * T2 * P ≤ T3 * P := Nat.mul_le_mul_right P hk
   have h2 : (j + 1) * dl ≤ 18446744073709551616 * dl := Nat.mul_le_mul_right dl (by omega)
   have h3 : 18446744073709551616 * dl ≤ 18446744073709551616 * P := Nat.mul_le_mul_left _ (by omega)
   have h4 : (j + 1) * D = (j + 1) * T2 * P + (j + 1) * dl := by rw [hD, Nat.mul_add, Nat.mul_assoc]
   have h5 : (j + 1) * D = j * D + D := by rw [Nat.add_mul, Nat.one_mul]
   have h6 : j ≤ A / D := by
    rw [Nat.le_div_iff_mul_le hD0]
    generalize (j + 1) * D = x at *
    generalize (j + 1) * T2 * P = y at *
    generalize (j + 1) * dl = z at *
    generalize j * D = u at *
    omega
   omega
theorem top_word_le (n1 : Nat) (A ys : List Int) (an top : Nat) (hA : A.length = n1 + 2) (hy : ys.length = n1 + 1) (hU : AllU ys) (h0 : A.getD (n1 + 1) 0 = (an : Int)) (h1 : ys.getD n1 0 = (top : Int)) (hlt : val A < val ys * 18446744073709551616) : an ≤ top := by
 have e : val A = low A (n1 + 1 + 1) := (low_all A _ (by omega)).symm
 have e1 : low A (n1 + 1 + 1) = low A (n1 + 1) + 18446744073709551616 ^ (n1 + 1) * (A.getD (n1 + 1) 0).toNat := rfl
 have d : val ys = low ys (n1 + 1) := (low_all ys _ (by omega)).symm
 have d1 : low ys (n1 + 1) = low ys n1 + 18446744073709551616 ^ n1 * (ys.getD n1 0).toNat := rfl
 have d2 := low_lt ys hU n1
 rw [h0, Int.toNat_natCast, Nat.pow_succ] at e1
 rw [h1, Int.toNat_natCast] at d1
 rw [e, e1, d, d1] at hlt
 generalize 18446744073709551616 ^ n1 = P at *
 rcases Nat.lt_or_ge top an with q | q
 ·exfalso
  have h3 : P * (top + 1) ≤ P * an := Nat.mul_le_mul_left P q
  have h4 : P * 18446744073709551616 * an = P * an * 18446744073709551616 := by rw [Nat.mul_assoc, Nat.mul_assoc, Nat.mul_comm an]
  rw [Nat.mul_add, Nat.mul_one] at h3
  rw [h4] at hlt
  generalize P * an = x at *
  generalize P * top = y at *
  omega
 ·exact q
theorem often_more {Wn A A' D S k an br q : Nat} (hA : A = A' + Wn * an) (hs : S + k * D = A' + Wn * br) (hS : S < Wn) (hq : q = A / D) (hk1 : k ≤ q + 1) (hbr : an < br) : k = q + 1 := by
 rcases Nat.lt_or_ge q k with h | h
 ·omega
 ·exfalso
  have h1 : k * D ≤ A := Nat.le_trans (Nat.mul_le_mul_right D h) (by rw [hq]; exact Nat.div_mul_le_self _ _)
  have h2 : Wn * (an + 1) ≤ Wn * br := Nat.mul_le_mul_left Wn hbr
  rw [Nat.mul_add, Nat.mul_one] at h2
  generalize Wn * an = x at *
  generalize Wn * br = y at *
  omega
theorem often_same {Wn A A' D S k an br q : Nat} (hA : A = A' + Wn * an) (hs : S + k * D = A' + Wn * br) (hq : q = A / D) (hD0 : 0 < D) (hk : q ≤ k) (hbr : br ≤ an) : k = q := by
 have h2 : Wn * br ≤ Wn * an := Nat.mul_le_mul_left Wn hbr
 have h1 : k ≤ q := by
  rw [hq, Nat.le_div_iff_mul_le hD0]; omega
 omega
theorem rest_same {Wn A A' D S an br q : Nat} (hA : A = A' + Wn * an) (hs : S + q * D = A' + Wn * br) (hq : q = A / D) (hD0 : 0 < D) (hDW : D ≤ Wn) (hbr : br ≤ an) : an = br ∧ S = A % D := by
 have h1 := Nat.div_add_mod A D
 have h2 := Nat.mod_lt A hD0
 rw [← hq, Nat.mul_comm] at h1
 obtain ⟨d, rfl⟩ : ∃ d, an = br + d := ⟨an - br, by omega⟩
 rw [Nat.mul_add] at hA
 have h3 : d = 0 := by
  rcases Nat.eq_zero_or_pos d with h | h
  ·exact h
  ·exfalso
   have h4 : Wn * 1 ≤ Wn * d := Nat.mul_le_mul_left Wn h
   generalize Wn * d = x at *
   generalize Wn * br = y at *
   generalize q * D = z at *
   omega
 subst h3
 refine ⟨rfl, ?_⟩
 generalize Wn * br = y at *
 generalize q * D = z at *
 omega
theorem rest_more {Wn A A' D S S2 an br cr q : Nat} (hA : A = A' + Wn * an) (hs : S + (q + 1) * D = A' + Wn * br) (hs2 : S2 + Wn * cr = S + 1 * D) (hS2 : S2 < Wn) (hq : q = A / D) (hD0 : 0 < D) (hDW : D ≤ Wn) : an + cr = br ∧ S2 = A % D := by
 have h1 := Nat.div_add_mod A D
 have h2 := Nat.mod_lt A hD0
 rw [← hq, Nat.mul_comm] at h1
 rw [Nat.add_mul, Nat.one_mul] at hs
 have h5 : A % D + Wn * br = S2 + Wn * (an + cr) := by
  rw [Nat.mul_add]
  generalize q * D = z at *
  omega
 have h6 : an + cr = br := by
  rcases Nat.lt_trichotomy (an + cr) br with h | h | h
  ·exfalso
   have := Nat.mul_le_mul_left Wn h
   rw [Nat.mul_succ] at this
   omega
  ·exact h
  ·exfalso
   have := Nat.mul_le_mul_left Wn h
   rw [Nat.mul_succ] at this
   omega
 refine ⟨h6, ?_⟩
 rw [h6] at h5
 omega
theorem over_round (L S Q : List Int) (L0 D j n lq q : Nat) (hL : L.length = lq + n) (hj : j < lq) (hQ : Q.length = lq) (hD : D ≤ 18446744073709551616 ^ n) (hU : AllU L) (hD0 : 0 < D) (hSl : S.length = n + 1)
  (hlt : val L < D * 18446744073709551616 ^ (j + 1)) (hv : L0 = D * 18446744073709551616 ^ (j + 1) * val (Q.drop (j + 1)) + val L) :
  val ((L.drop j).take (n + 1)) < D * 18446744073709551616 ∧ (q = val ((L.drop j).take (n + 1)) / D → val S = val ((L.drop j).take (n + 1)) % D →
   val (spliceW L j S) < D * 18446744073709551616 ^ j ∧ L0 = D * 18446744073709551616 ^ j * val ((Q.set j (q : Int)).drop j) + val (spliceW L j S)) := by
 have e1 : L = L.take j ++ ((L.drop j).take (n + 1) ++ L.drop (j + (n + 1))) := by
  rw [← List.drop_drop, List.take_append_drop, List.take_append_drop]
 have e2 : val L = val (L.take j) + 18446744073709551616 ^ j * (val ((L.drop j).take (n + 1)) + 18446744073709551616 ^ (n + 1) * val (L.drop (j + (n + 1)))) := by
  conv => lhs; rw [e1]
  rw [val_append, val_append, List.length_take, List.length_take, List.length_drop, show min j L.length = j by omega, show min (n + 1) (L.length - j) = n + 1 by omega]
 have hlow : val (L.take j) < 18446744073709551616 ^ j := by
  have := val_lt (L.take j) (hU.take j)
  rw [List.length_take, show min j L.length = j by omega] at this; exact this
 have e3 := splice_val L j S (by omega)
 rw [hSl] at e3
 have e4 := drop_set_val Q j (q : Int) (by omega)
 rw [Int.toNat_natCast] at e4
 have hz : val (L.drop (j + (n + 1))) = 0 := by
  rcases Nat.eq_zero_or_pos (val (L.drop (j + (n + 1)))) with h | h
  ·exact h
  ·exfalso
   have h1 : 18446744073709551616 ^ (n + 1) * 1 ≤ 18446744073709551616 ^ (n + 1) * val (L.drop (j + (n + 1))) := Nat.mul_le_mul_left _ h
   have h2 : 18446744073709551616 ^ j * 18446744073709551616 ^ (n + 1) ≤ val L := by
    rw [e2]
    have := Nat.mul_le_mul_left (18446744073709551616 ^ j) (show 18446744073709551616 ^ (n + 1) ≤ val ((L.drop j).take (n + 1)) + 18446744073709551616 ^ (n + 1) * val (L.drop (j + (n + 1))) by omega)
    omega
   have h3 : D * 18446744073709551616 ^ (j + 1) ≤ 18446744073709551616 ^ n * 18446744073709551616 ^ (j + 1) := Nat.mul_le_mul_right _ hD
   rw [← Nat.pow_add] at h2 h3
   rw [show n + (j + 1) = j + (n + 1) by omega] at h3
   omega
 rw [hz, Nat.mul_zero, Nat.add_zero] at e2
 rw [Nat.pow_succ] at hlt hv
 generalize val ((L.drop j).take (n + 1)) = sg at *
 generalize 18446744073709551616 ^ j = P at *
 have hP : 0 < P := by omega
 constructor
 ·have h1 : P * sg < P * (D * 18446744073709551616) := by
   have : P * (D * 18446744073709551616) = D * (P * 18446744073709551616) := Nat.mul_left_comm _ _ _
   omega
  exact Nat.lt_of_mul_lt_mul_left h1
 ·intro hq hS
  have h1 := Nat.div_add_mod sg D
  have h2 := Nat.mod_lt sg hD0
  rw [← hq, ← hS] at h1
  rw [← hS] at h2
  have h3 : P * sg = P * (D * q) + P * val S := by rw [← h1, Nat.mul_add]
  have h4 : P * (val S + 1) ≤ P * D := Nat.mul_le_mul_left P h2
  rw [Nat.mul_add, Nat.mul_one] at h4
  constructor
  ·rw [Nat.mul_comm D P]; omega
  ·rw [e4, Nat.mul_add, hv]
   have h5 : D * P * q = P * (D * q) := by rw [Nat.mul_comm D P, Nat.mul_assoc]
   have h6 : D * (P * 18446744073709551616) * val (Q.drop (j + 1)) = D * P * (18446744073709551616 * val (Q.drop (j + 1))) := by rw [← Nat.mul_assoc, Nat.mul_assoc]
   rw [h5, h6]
   omega
theorem over_end (L Q : List Int) (u v s n lq : Nat) (hL : L.length = lq + n) (hv0 : 0 < v) (hD : v * 2 ^ s ≤ 18446744073709551616 ^ n) (hlt : val L < v * 2 ^ s) (hv : u * 2 ^ s = v * 2 ^ s * val Q + val L) :
  val Q = u / v ∧ val (L.take n) / 2 ^ s = u % v := by
 have hp : 0 < 2 ^ s := Nat.pow_pos (by decide)
 have e1 := val_split L n
 rw [show min n L.length = n by omega] at e1
 have hz : val (L.drop n) = 0 := by
  rcases Nat.eq_zero_or_pos (val (L.drop n)) with h | h
  ·exact h
  ·exfalso
   have h1 : 18446744073709551616 ^ n * 1 ≤ 18446744073709551616 ^ n * val (L.drop n) := Nat.mul_le_mul_left _ h
   omega
 rw [hz, Nat.mul_zero, Nat.add_zero] at e1
 rw [← e1]
 have h1 : u * 2 ^ s / (v * 2 ^ s) = val Q := by
  rw [hv, Nat.mul_add_div (Nat.mul_pos hv0 hp), Nat.div_eq_of_lt hlt, Nat.add_zero]
 have h2 : u * 2 ^ s % (v * 2 ^ s) = val L := by
  rw [hv, Nat.mul_add_mod, Nat.mod_eq_of_lt hlt]
 rw [Nat.mul_div_mul_right _ _ hp] at h1
 rw [Nat.mul_mod_mul_right] at h2
 refine ⟨h1.symm, ?_⟩
 rw [← h2, Nat.mul_div_cancel _ hp]
theorem over_start (u v s n la : Nat) (hu : u < 18446744073709551616 ^ la) (hv : 18446744073709551616 ^ (n - 1) ≤ v) (hn : 1 ≤ n) (hla : n ≤ la) : u * 2 ^ s < v * 2 ^ s * 18446744073709551616 ^ (la + 1 - n) := by
 have hp : 0 < 2 ^ s := Nat.pow_pos (by decide)
 have h1 : 18446744073709551616 ^ (n - 1) * 18446744073709551616 ^ (la + 1 - n) ≤ v * 18446744073709551616 ^ (la + 1 - n) := Nat.mul_le_mul_right _ hv
 rw [← Nat.pow_add, show n - 1 + (la + 1 - n) = la by omega] at h1
 have h2 : u * 2 ^ s < v * 18446744073709551616 ^ (la + 1 - n) * 2 ^ s := Nat.mul_lt_mul_of_pos_right (by omega) hp
 rw [Nat.mul_right_comm]
 exact h2
end Go.Proofs.YtahpdcbmekgkfaaGreatDoor

namespace Go.Proofs.YtahpdcbmekgkfaaGreatDoor
open Go.RowKit
theorem own_pre {B g off : Nat} {w : World} {N c : Nat} {M : List Int} (h : OwnW B w (some ⟨g, off, none⟩) N c M) (n : Nat) (hn : n ≤ N) : OwnW B w (some ⟨g, off, none⟩) n c (M.take n) := by
 have hN := h.1.1
 refine ⟨⟨by rw [List.length_take]; omega, h.1.2.1.take n, ⟨by have := h.1.2.2.1.1; omega, fun e => by cases e⟩, fun j hj => ?_⟩, fun b o j e hj => h.2 b o j e (by omega)⟩
 obtain ⟨b, o, e1, e2, e3⟩ := h.1.2.2.2 j (by omega)
 refine ⟨b, o, e1, e2, ?_⟩
 rw [e3]
 simp only [List.getD, List.getElem?_take, hj, if_true]
theorem own_prejoin {B g off : Nat} {w w' : World} {N c : Nat} {M : List Int} (h : OwnW B w (some ⟨g, off, none⟩) N c M) (n : Nat) (S : List Int) (hn : n ≤ N) (hS : OwnW B w' (some ⟨g, off, none⟩) n c S) (hup : Upd g off n w w') : OwnW B w' (some ⟨g, off, none⟩) N c (spliceW M 0 S) := by
 have hN := h.1.1
 have hSn := hS.1.1
 refine ⟨⟨by rw [splice_len M 0 S (by omega)]; exact hN, splice_U h.1.2.1 hS.1.2.1 0, h.1.2.2.1, fun j hj => ?_⟩, fun b o j e hj => ?_⟩
 ·obtain ⟨b, o, e1, e2, e3⟩ := h.1.2.2.2 j hj
  simp only [Option.some.injEq, Addr.mk.injEq, and_true] at e1
  obtain ⟨rfl, rfl⟩ := e1
  refine ⟨g, off, rfl, Nat.lt_of_lt_of_le e2 hup.grown.size, ?_⟩
  rw [splice_get M 0 S (by omega), if_neg (by omega)]
  by_cases h2 : j < 0 + S.length
  ·rw [if_pos h2]
   obtain ⟨b', o', f1, _, f3⟩ := hS.1.2.2.2 j (by omega)
   simp only [Option.some.injEq, Addr.mk.injEq, and_true] at f1
   obtain ⟨rfl, rfl⟩ := f1
   exact f3
  ·rw [if_neg h2, hup.cell (off + j) (Or.inr (by omega))]; exact e3
 ·simp only [Option.some.injEq, Addr.mk.injEq, and_true] at e
  obtain ⟨rfl, rfl⟩ := e
  have := h.2 g off j rfl hj
  exact ⟨this.1, (hup.frozen (off + j)).trans this.2⟩
theorem Upd.wider {g off n m : Nat} {a b : World} (h : Upd g off n a b) (hm : n ≤ m) : Upd g off m a b := ⟨h.grown, fun o ho => h.cell o (by omega), h.frozen⟩
theorem Upd.after {g off n : Nat} {a b c : World} (h : Below a.heap.size a b) (hg : g < a.heap.size) (k : Upd g off n b c) : Upd g off n a c := ⟨(below_grown h _).trans k.grown, fun o ho => (k.cell o ho).trans (h.cell (p := ⟨g, o, none⟩) hg), fun o => (k.frozen o).trans (h.frozen (p := ⟨g, o, none⟩) hg)⟩
theorem wrap_dec (k q : Nat) (h : k = q + 1) (hk : k < 18446744073709551616) : IntKind.u64.wrap ((k : Int) - 1) = (q : Int) := by rw [IntKind.wrap_u64]; omega
theorem often_val (M S : List Int) (n x : Nat) (hM : M.length = n + 1) (hS : S.length = n) (hx : x = 0) : val ((spliceW M 0 S).set n (x : Int)) = val S := by
 have e1 := val_set (spliceW M 0 S) n (x : Int) (by rw [splice_len M 0 S (by omega)]; omega)
 have e2 := splice_val M 0 S (by omega)
 rw [splice_get M 0 S (by omega), if_neg (by omega), if_neg (by omega)] at e1
 have e3 : val M = val (M.take n) + 18446744073709551616 ^ n * (M.getD n 0).toNat := by
  have := val_take_succ M n (by omega)
  rw [List.take_of_length_le (by omega)] at this
  exact this
 rw [hS, List.drop_zero, Nat.pow_zero, Nat.one_mul, Nat.one_mul] at e2
 subst hx
 rw [Int.toNat_natCast, Nat.mul_zero, Nat.add_zero] at e1
 omega
theorem wrap_sum (an cr br : Nat) (h : an + cr = br) (hb : br < 18446744073709551616) : IntKind.u64.wrap ((an : Int) + (cr : Int)) = (br : Int) := by rw [IntKind.wrap_u64]; omega
theorem wrap_none (an br : Nat) (h : an = br) : IntKind.u64.wrap ((an : Int) - (br : Int)) = 0 := by rw [IntKind.wrap_u64]; omega
attribute [local go_sem ↓] Go.wp_at_zero Go.wp_at_succ
set_option maxRecDepth 100000 in
set_option maxHeartbeats 4000000 in
theorem takeOften_calls (B g off n n1 n2 na c cb : Nat) (b : Option Addr) (A ys : List Int) (w : World) (e1 : n = n1 + 1) (e2 : n1 = n2 + 1) (hna : na = n + 1) (hn : n ≤ 17592186044416) (h : OwnW B w (some ⟨g, off, none⟩) na c A) (hB : IsW w b n cb ys) (hbg : ∀ b' o, b = some ⟨b', o, none⟩ → b' ≠ g) (htop : 0 < ys.getD n1 0) (hlt : val A < val ys * 18446744073709551616) :
  Calls Tryz.prog 216 #[.slice (some ⟨g, off, none⟩) na c, .slice b n cb] w fun e w' => ∃ (S : List Int) (q : Nat), e = .returned (.int .u64 (q : Int)) ∧ q < 18446744073709551616 ∧ OwnW B w' (some ⟨g, off, none⟩) na c S ∧ q = val A / val ys ∧ val S = val A % val ys ∧ Upd g off na w w' := by
 have hAl : A.length = n2 + 3 := by have := h.1.1; omega
 have hyl : ys.length = n2 + 2 := by have := hB.1; omega
 obtain ⟨an, ha0, hanW⟩ := word_nat0 A h.1.2.1 n
 obtain ⟨an1, ha1, han1⟩ := word_nat0 A h.1.2.1 n1
 obtain ⟨an2, ha2, han2⟩ := word_nat0 A h.1.2.1 n2
 obtain ⟨top, ht, htW⟩ := word_nat0 ys hB.2.1 n1
 obtain ⟨next, hx, hxW⟩ := word_nat0 ys hB.2.1 n2
 obtain ⟨bb, bo, hbe, hbl, ct⟩ := hB.2.2.2 n1 (by omega)
 subst hbe
 obtain ⟨_, _, ee, _, cx⟩ := hB.2.2.2 n2 (by omega)
 simp only [Option.some.injEq, Addr.mk.injEq, and_true] at ee
 obtain ⟨rfl, rfl⟩ := ee
 obtain ⟨_, _, ee, hgl, c0⟩ := h.1.2.2.2 n (by omega)
 simp only [Option.some.injEq, Addr.mk.injEq, and_true] at ee
 obtain ⟨rfl, rfl⟩ := ee
 obtain ⟨_, _, ee, _, c1⟩ := h.1.2.2.2 n1 (by omega)
 simp only [Option.some.injEq, Addr.mk.injEq, and_true] at ee
 obtain ⟨rfl, rfl⟩ := ee
 obtain ⟨_, _, ee, _, c2⟩ := h.1.2.2.2 n2 (by omega)
 simp only [Option.some.injEq, Addr.mk.injEq, and_true] at ee
 obtain ⟨rfl, rfl⟩ := ee
 rw [ha0] at c0
 rw [ha1] at c1
 rw [ha2] at c2
 rw [ht] at ct htop
 rw [hx] at cx
 have hfz := (h.2 g off n rfl (by omega)).2
 have hle : an ≤ top := top_word_le n1 A ys an top (by omega) (by omega) hB.2.1 (by rw [← e1]; exact ha0) ht hlt
 have GC : Hid _ := guess_calls g off bb bo n n1 n2 na c cb an an1 an2 top next w e1 e2 hna hn c0 c1 c2 ct cx han1 han2 htW hxW (by omega) hle
 have hvA : val A = Top3 an an1 an2 * 18446744073709551616 ^ n2 + low A n2 := val_top3 A n2 an an1 an2 hAl (by rw [← show n = n2 + 2 by omega]; exact ha0) (by rw [← e2]; exact ha1) ha2
 have hvD : val ys = Top2 top next * 18446744073709551616 ^ n2 + low ys n2 := val_top2 ys n2 top next hyl (by rw [← e2]; exact ht) hx
 have hT2 : 18446744073709551616 ≤ Top2 top next := by
  have ht1 : 1 ≤ top := by omega
  have h3 := Nat.mul_le_mul_right 18446744073709551616 ht1
  rw [Nat.one_mul] at h3
  exact Nat.le_trans h3 (Nat.le_add_right _ _)
 have hD0 : 0 < val ys := by
  have : 1 * 1 ≤ Top2 top next * 18446744073709551616 ^ n2 := Nat.mul_le_mul (by omega) (Nat.pow_pos (by decide))
  omega
 have HB1 : Hid (∀ k, k < 18446744073709551616 → k * Top2 top next ≤ Top3 an an1 an2 → (∀ t, t < 18446744073709551616 → t * Top2 top next ≤ Top3 an an1 an2 → t ≤ k) → val A / val ys ≤ k ∧ k ≤ val A / val ys + 1) := fun k h1 h2 h3 =>
  often_le (18446744073709551616 ^ n2) (val A) (val ys) _ _ (low A n2) (low ys n2) k hvA (low_lt A h.1.2.1 n2) hvD (low_lt ys hB.2.1 n2) h2 h1 h3 hlt hT2
 have HA : Hid (val A = val (A.take n) + 18446744073709551616 ^ n * an) := by
  have := val_take_succ A n (by omega)
  rw [List.take_of_length_le (by omega), ha0, Int.toNat_natCast] at this
  exact this
 have HDW : Hid (val ys ≤ 18446744073709551616 ^ n) := by
  have := val_lt ys hB.2.1
  rw [hyl, ← show n = n2 + 2 by omega] at this
  rw [Hid]; omega
 have HD0 : Hid (0 < val ys) := hD0
 have HQ : Hid (val A / val ys < 18446744073709551616) := by rw [Hid, Nat.div_lt_iff_lt_mul hD0, Nat.mul_comm]; exact hlt
 have hcap : n ≤ c := by have := h.1.2.2.1.1; omega
 have i3 : (n : Int) < (na : Int) := by omega
 have HL : Hid (A.length = n + 1 ∧ na = n + 1) := ⟨by omega, hna⟩
 clear hvA hvD hT2 hD0 hlt ha0 ha1 ha2 ht hx hAl hyl e1 e2 hna c1 c2 ct cx hle htop
 go_enter Tryz.func216, Tryz.ntmps216
 go_wp2_with fail
 refine Calls.mono GC.out ?_
 rintro e w1 ⟨k, rfl, hk, HK1, HK2, hb1⟩
 have HKQ : Hid (val A / val ys ≤ k ∧ k ≤ val A / val ys + 1) := HB1.out k hk HK1.out HK2.out
 obtain ⟨q, hq⟩ : ∃ q, q = val A / val ys := ⟨_, rfl⟩
 rw [← hq] at HKQ HQ
 have HQQ : Hid (q = val A / val ys) := hq
 clear HK1 HK2 HB1 hq GC
 have h1 := h.keep hb1
 have hB1 := hB.keep hb1
 have c01 := carry_cell hb1 c0
 have hfz1 := carry_frozen hb1 c0 hfz
 have hgl1 : g < w1.heap.size := Nat.lt_of_lt_of_le hgl hb1.size
 clear c0 hfz h hB
 have TC : Hid _ := takeTimes_calls B g off n c cb (some ⟨bb, bo, none⟩) (A.take n) ys k w1 (own_pre h1 n (by omega)) hB1 hbg hn hk
 go_wp2_with fail
 refine Calls.mono TC.out ?_
 rintro e w2 ⟨S, br, rfl, hbr, hS, hsv, hup⟩
 have HSV : Hid (val S + k * val ys = val (A.take n) + 18446744073709551616 ^ n * br) := hsv
 have HSL : Hid (S.length = n) := hS.1.1.symm
 have HSLT : Hid (val S < 18446744073709551616 ^ n) := by
  have := val_lt S hS.1.2.1
  rw [HSL.out] at this; exact this
 have h2 := own_prejoin h1 n S (by omega) hS hup
 have c02 : w2.cell? ⟨g, off + n, none⟩ = some (.int .u64 (an : Int)) := (hup.cell (off + n) (Or.inr (Nat.le_refl _))).trans c01
 have hfz2 : w2.frozen? ⟨g, off + n, none⟩ = false := (hup.frozen _).trans hfz1
 have hup2 : Upd g off na w w2 := Upd.after hb1 hgl (hup.wider (by omega))
 have hgl2 : g < w2.heap.size := Nat.lt_of_lt_of_le hgl1 hup.grown.size
 have hB2 := hB1.grown hup.grown (fun b' o e => by simp only [Option.some.injEq, ne_eq]; exact hbg b' o e)
 clear hsv c01 hfz1 TC hup hb1 hgl hgl1 hB1 h1
 by_cases hgt : an < br
 ·have HKE : Hid (k = q + 1) := often_more HA.out HSV.out HSLT.out HQQ.out HKQ.out.2 hgt
  have hwd := wrap_dec k q HKE.out hk
  have hw0 := wrap_none br br rfl
  go_wp2_with fail
  clear hgt
  have HLT : Hid (∀ S' : List Int, AllU S' → S'.length = n → val S' < 18446744073709551616 ^ n) := fun S' h1 h2 => by have := val_lt S' h1; rw [h2] at this; exact this
  go_region_with (go_at_call 193; refine (addTimes_calls B g off n c cb (some ⟨bb, bo, none⟩) S ys 1 _ (hS.keep (Below.refl _ _).drew) (hB2.keep (Below.refl _ _).drew) hbg hn (by decide)).mono ?_; rintro e w3 ⟨S2, cr, rfl, hcr, hS2, hsv2, hup3⟩; have HR : Hid (an + cr = br ∧ val S2 = val A % val ys) := rest_more HA.out (HKE.out ▸ HSV.out) hsv2 (HLT.out S2 hS2.1.2.1 hS2.1.1.symm) HQQ.out HD0.out HDW.out; have hwa := wrap_sum an cr br HR.out.1 hbr; have c03 : w3.cell? ⟨g, off + n, none⟩ = some (.int .u64 (an : Int)) := (hup3.cell (off + n) (Or.inr (Nat.le_refl _))).trans c02; have hfz3 : w3.frozen? ⟨g, off + n, none⟩ = false := (hup3.frozen (off + n)).trans hfz2; clear hsv2)
  all_goals
   have HSL2 : Hid (S2.length = n) := hS2.1.1.symm
   have h3 := own_prejoin (h2.keep (Below.refl _ _).drew) n S2 (by omega) hS2 hup3
   have hup4 : Upd g off na w w3 := (hup2.below hgl2 (Below.refl _ _).drew).trans (hup3.wider (by omega))
   have h4 := h3.set (i := n) (by omega) (v := (br : Int)) (by omega) (by omega)
   have h5 := h4.set (i := n) (by omega) (v := ((0 : Nat) : Int)) (by omega) (by omega)
   have hup5 := (hup4.set (i := n) (by omega) (.int .u64 (br : Int))).set (i := n) (by omega) (.int .u64 ((0 : Nat) : Int))
   have HQL := HQ.out
   go_wp2_with fail
   go_ret
   exact ⟨_, q, rfl, HQL, h5, HQQ.out, by rw [List.set_set, often_val _ _ _ _ (by rw [splice_len _ _ _ (by rw [HL.out.1, HSL.out]; omega)]; exact HL.out.1) HSL2.out rfl]; exact HR.out.2, hup5⟩
 ·have HKE : Hid (k = q) := often_same HA.out HSV.out HQQ.out HD0.out HKQ.out.1 (by omega)
  have HR : Hid (an = br ∧ val S = val A % val ys) := rest_same HA.out (HKE.out ▸ HSV.out) HQQ.out HD0.out HDW.out (by omega)
  have hw0 := wrap_none an br HR.out.1
  have hO3 := h2.set (i := n) (by omega) (v := ((0 : Nat) : Int)) (by omega) (by omega)
  have hup3 := hup2.set (i := n) (by omega) (.int .u64 ((0 : Nat) : Int))
  have HQL := HQ.out
  go_wp2_with fail
  go_ret
  exact ⟨_, q, by rw [HKE.out]; rfl, HQL, hO3, HQQ.out, by rw [often_val _ _ _ _ HL.out.1 HSL.out rfl]; exact HR.out.2, hup3⟩
end Go.Proofs.YtahpdcbmekgkfaaGreatDoor

namespace Go.Proofs.YtahpdcbmekgkfaaGreatDoor
open Go.RowKit
theorem own_partO {B g off : Nat} {w : World} {N c : Nat} {M : List Int} (h : OwnW B w (some ⟨g, off, none⟩) N c M) (i n c' : Nat) (hi : i + n ≤ N) (hc : n ≤ c') : OwnW B w (some ⟨g, off + i, none⟩) n c' ((M.drop i).take n) := by
 have hN := h.1.1
 refine ⟨⟨by rw [List.length_take, List.length_drop]; omega, (h.1.2.1.drop i).take n, ⟨hc, fun e => by cases e⟩, fun j hj => ?_⟩, fun b o j e hj => ?_⟩
 ·obtain ⟨b, o, e1, e2, e3⟩ := h.1.2.2.2 (i + j) (by omega)
  simp only [Option.some.injEq, Addr.mk.injEq, and_true] at e1
  obtain ⟨rfl, rfl⟩ := e1
  refine ⟨g, off + i, rfl, e2, ?_⟩
  rw [← Nat.add_assoc] at e3
  rw [e3]
  simp only [List.getD, List.getElem?_take, hj, if_true, List.getElem?_drop]
 ·simp only [Option.some.injEq, Addr.mk.injEq, and_true] at e
  obtain ⟨rfl, rfl⟩ := e
  have := h.2 g off (i + j) rfl (by omega)
  rw [← Nat.add_assoc] at this; exact this
theorem own_joinO {B g off : Nat} {w w' : World} {N c : Nat} {M : List Int} (h : OwnW B w (some ⟨g, off, none⟩) N c M) (i n c' : Nat) (S : List Int) (hi : i + n ≤ N) (hS : OwnW B w' (some ⟨g, off + i, none⟩) n c' S) (hup : Upd g (off + i) n w w') : OwnW B w' (some ⟨g, off, none⟩) N c (spliceW M i S) := by
 have hN := h.1.1
 have hn := hS.1.1
 refine ⟨⟨by rw [splice_len M i S (by omega)]; exact hN, splice_U h.1.2.1 hS.1.2.1 i, h.1.2.2.1, fun j hj => ?_⟩, fun b o j e hj => ?_⟩
 ·obtain ⟨b, o, e1, e2, e3⟩ := h.1.2.2.2 j hj
  simp only [Option.some.injEq, Addr.mk.injEq, and_true] at e1
  obtain ⟨rfl, rfl⟩ := e1
  refine ⟨g, off, rfl, Nat.lt_of_lt_of_le e2 hup.grown.size, ?_⟩
  rw [splice_get M i S (by omega)]
  by_cases h1 : j < i
  ·rw [if_pos h1, hup.cell (off + j) (Or.inl (by omega))]; exact e3
  ·rw [if_neg h1]
   by_cases h2 : j < i + S.length
   ·rw [if_pos h2]
    obtain ⟨b', o', f1, _, f3⟩ := hS.1.2.2.2 (j - i) (by omega)
    simp only [Option.some.injEq, Addr.mk.injEq, and_true] at f1
    obtain ⟨rfl, rfl⟩ := f1
    rw [show off + i + (j - i) = off + j by omega] at f3
    exact f3
   ·rw [if_neg h2, hup.cell (off + j) (Or.inr (by omega))]; exact e3
 ·simp only [Option.some.injEq, Addr.mk.injEq, and_true] at e
  obtain ⟨rfl, rfl⟩ := e
  have := h.2 g off j rfl hj
  exact ⟨this.1, (hup.frozen (off + j)).trans this.2⟩
theorem shift_words (v m x : Nat) (hv : v ≠ 0) (hm : m = (wO v).length) (hx : ((wO v).getD (m - 1) 0).toNat = x) : (wO (v * 2 ^ (64 - blen x))).length = m := by
 have h1 := blen_top v hv
 rw [← hm, hx] at h1
 have hxl : blen x ≤ 64 := by
  rw [blen_le, ← hx]
  have := (words_U v).get (m - 1)
  have h64 : (2 : Nat) ^ 64 = 18446744073709551616 := rfl
  omega
 have hm0 : 0 < m := by
  rcases Nat.eq_zero_or_pos m with h | h
  ·exact absurd ((words_nil _).1 (List.length_eq_zero_iff.1 (by rw [← hm]; exact h))) hv
  ·exact h
 have h2 := blen_mul v (64 - blen x) hv
 rw [h1, show 64 - blen x + (64 * (m - 1) + blen x) = 64 * m by omega] at h2
 have a1 := words_len2 m (v * 2 ^ (64 - blen x))
 have a2 := words_len2 (m - 1) (v * 2 ^ (64 - blen x))
 rw [h2] at a1 a2
 omega
set_option maxRecDepth 100000 in
set_option maxHeartbeats 1000000 in
theorem over_long (u v : Nat) (hge : v ≤ u) (hvW : 18446744073709551616 ≤ v) : OverC u v := by
 intro a b n m w hA hB hn hm
 have hc : 0 ≤ cmpN u v := by unfold cmpN; rw [if_neg (by omega)]; split <;> omega
 have hv0 : v ≠ 0 := by omega
 have hm2 : 2 ≤ m := by
  rcases Nat.lt_or_ge m 2 with h | h
  ·exfalso
   have := (words_len 1 v).1 (by rw [← hB.1]; omega)
   omega
  ·exact h
 have hmn : m ≤ n := by
  have h1 := (words_len n v).2 (Nat.lt_of_le_of_lt hge ((words_len n u).1 (by rw [← hA.1]; omega)))
  rw [← hB.1] at h1; exact h1
 obtain ⟨m1, hm1⟩ : ∃ m1, m = m1 + 1 := ⟨m - 1, by omega⟩
 obtain ⟨m2, hm22⟩ : ∃ m2, m1 = m2 + 1 := ⟨m1 - 1, by omega⟩
 obtain ⟨x, hx, hxW⟩ := word_nat0 (wO v) (words_U v) m1
 obtain ⟨bb, bo, hbe, hbl, hbc⟩ := hB.2.2.2 m1 (by omega)
 subst hbe
 rw [hx] at hbc
 obtain ⟨s, hs⟩ : ∃ s, s = 64 - blen x := ⟨_, rfl⟩
 have hbx : blen x ≤ 64 := by rw [blen_le]; have : (2 : Nat) ^ 64 = 18446744073709551616 := rfl; omega
 have hx0 : 0 < blen x := by
  rcases Nat.eq_zero_or_pos (blen x) with h | h
  ·exfalso
   have h2 := words_last v hv0
   rw [← hB.1, hm1, Nat.add_sub_cancel, hx] at h2
   rw [blen_nil] at h
   omega
  ·exact h
 have qs : (64 : Int) - (Lib.bitLen x : Int) = (s : Int) := by rw [blen_lib x hxW]; omega
 have hs64 : s < 64 := by omega
 have HDL : Hid ((wO (v * 2 ^ s)).length = m) := by
  rw [Hid, hs]; exact shift_words v m x hv0 hB.1 (by rw [hm1, Nat.add_sub_cancel, hx, Int.toNat_natCast])
 have HDT : Hid (0 < (wO (v * 2 ^ s)).getD m1 0) := by
  have h1 := words_last (v * 2 ^ s) (Nat.mul_ne_zero hv0 (Nat.ne_of_gt (Nat.pow_pos (by decide))))
  rw [HDL.out, hm1, Nat.add_sub_cancel] at h1
  have h2 := (words_U (v * 2 ^ s)).get m1
  rw [Hid]; omega
 have HD0 : Hid (0 < v * 2 ^ s) := Nat.mul_pos (by omega) (Nat.pow_pos (by decide))
 have HDW : Hid (v * 2 ^ s ≤ 18446744073709551616 ^ m) := Nat.le_of_lt ((words_len m _).1 (by rw [HDL.out]; exact Nat.le_refl _))
 obtain ⟨lq, hlq⟩ : ∃ lq, lq = n + 1 - m := ⟨_, rfl⟩
 have HST : Hid (u * 2 ^ s < v * 2 ^ s * 18446744073709551616 ^ lq) := by
  rw [Hid, hlq]
  exact over_start u v s m n ((words_len n u).1 (by rw [← hA.1]; exact Nat.le_refl _)) (by
   rcases Nat.lt_or_ge v (18446744073709551616 ^ (m - 1)) with h | h
   ·exfalso
    have := (words_len (m - 1) v).2 h
    rw [← hB.1] at this; omega
   ·exact h) (by omega) hmn
 have qm : (m : Int) - 1 = (m1 : Int) := by omega
 have hne1 : ((m : Int) == 1) = false := by simp; omega
 have HV0 : Hid (0 < v) := by rw [Hid]; omega
 have AG : Hid _ := against_calls a (some ⟨bb, bo, none⟩) n m u v w hA hB (by omega) (by omega)
 have HMM : Hid (m = m1 + 1 ∧ m1 = m2 + 1 ∧ lq = n + 1 - m) := ⟨hm1, hm22, hlq⟩
 have im : (m1 : Int) < (m : Int) := by omega
 clear hge hvW hv0 hx hs hm1 hm22 hlq hx0 hbx
 go_enter Tryz.func196, Tryz.ntmps196
 go_wp2_with fail
 refine cM AG.out ?_
 rintro e w1 ⟨rfl, hb1⟩
 generalize cmpN u v = cc at hc ⊢
 have hA1 := hA.keep hb1
 have hB1 := hB.keep hb1
 have hbc1 := carry_cell hb1 hbc
 clear AG hA hB hbc hbl
 go_wp2_with fail
 refine cM (Tryz.bits_LeadingZeros64 _ _ (by omega) (by omega)) ?_
 rintro e w1 ⟨rfl, rfl⟩
 rw [Int.toNat_natCast, qs]
 clear qs hbc1 hxW
 go_wp2_with fail
 refine cM (left_calls (some ⟨bb, bo, none⟩) m s (wO v) w1 hB1 hm (by omega)) ?_
 rintro e w2 ⟨ao, k, M, rfl, hO2, hv2, hk2, hb2⟩
 rw [val_words] at hv2
 have HV2 : Hid (val M = v * 2 ^ s) := hv2
 have hk3 : k ≤ 1025 := by omega
 have hA2 := hA1.keep hb2
 clear hv2 hk2 hB1 hA1
 go_wp2_with fail
 refine cM (trimW_pack _ ao k k M w2 hO2 (by omega)) ?_
 rintro e w2 ⟨ad, md, rfl, hmd, hOd, rfl⟩
 rw [HV2.out] at hmd hOd
 rw [HDL.out] at hmd
 subst hmd
 clear HV2 hO2 hk3
 go_wp2_with fail
 refine cM (left_calls a n s (wO u) w2 hA2 hn (by omega)) ?_
 rintro e w3 ⟨al, kl, L0, rfl, hO3, hv3, hk3, hb3⟩
 rw [val_words] at hv3
 have HV3 : Hid (val L0 = u * 2 ^ s) := hv3
 have hkl : kl = n + 1 := by omega
 have hOd3 := hOd.keep hb3
 obtain ⟨g, off, hal, hgl, _⟩ := hO3.1.2.2.2 0 (by omega)
 subst hal
 have hgB : w2.heap.size ≤ g := (hO3.2 g off 0 rfl (by omega)).1
 obtain ⟨gd, od, had, hdl, _⟩ := hOd.1.2.2.2 0 (by omega)
 subst had
 have hgd : gd ≠ g := by omega
 have hgdq : gd ≠ w3.heap.size := by have := hb3.size; omega
 have q2 : (kl : Int) - (md : Int) = (lq : Int) := by have := HMM.out; omega
 have hlqb : lq ≤ 1024 := by have := HMM.out; omega
 have HKL : Hid (kl = lq + md) := by have := HMM.out; rw [Hid]; omega
 have hlq0 : 0 < lq := by have := HMM.out; omega
 obtain ⟨w4, hmk, hO4, hb4, hz4⟩ := make_words 136 words_T w3 lq (by omega)
 have hbase : Below w.heap.size w w4 := nT (nT (nT hb1 hb2) hb3) hb4
 have hO34 := hO3.keep hb4
 have hOd4 := hOd3.keep hb4
 have hgl4 : g < w4.heap.size := by omega
 have hwg : w.heap.size ≤ g := by have := hb1.size; have := hb2.size; omega
 have hwq : w.heap.size ≤ w3.heap.size := by omega
 clear hv3 hk3 hA2 hOd hOd3 hO3 hkl hb1 hb2 hb3 hb4 hdl
 go_wp2_with fail
 clear hmk q2
 have H0 : Hid (OwnW w2.heap.size w4 (some ⟨g, off, none⟩) kl kl L0 ∧ OwnW w3.heap.size w4 (some ⟨w3.heap.size, 0, none⟩) lq lq (zeros lq) ∧ IsW w4 (some ⟨gd, od, none⟩) md md (wO (v * 2 ^ s)) ∧ Below w.heap.size w w4) := ⟨hO34, hO4, hOd4.1, hbase⟩
 have hwqs : w3.heap.size < w4.heap.size := hz4
 clear hO34 hO4 hOd4 hbase hz4
 go_loopg [10] lq (fun j vi wr => ∃ (L Q : List Int), j ≤ lq ∧ vi = .int .i64 ((j : Int) - 1) ∧ Hid (val L < v * 2 ^ s * 18446744073709551616 ^ j) ∧ Hid (u * 2 ^ s = v * 2 ^ s * 18446744073709551616 ^ j * val (Q.drop j) + val L) ∧ OwnW w2.heap.size wr (some ⟨g, off, none⟩) kl kl L ∧ OwnW w3.heap.size wr (some ⟨w3.heap.size, 0, none⟩) lq lq Q ∧ IsW wr (some ⟨gd, od, none⟩) md md (wO (v * 2 ^ s)) ∧ Below w.heap.size w wr)
 case atStart => exact ⟨L0, zeros lq, Nat.le_refl _, rfl, by rw [Hid, HV3.out]; exact HST.out, by rw [Hid, HV3.out, List.drop_of_length_le (by rw [zeros_len]; exact Nat.le_refl _)]; simp [val], H0.out.1, H0.out.2.1, H0.out.2.2.1, H0.out.2.2.2⟩
 case round =>
  clear H0
  obtain ⟨L, Q, hj, rfl, HLT, HV, hOL, hOQ, hD, hbr⟩ := hrel
  have HLL : Hid (L.length = lq + md) := by rw [Hid, ← hOL.1.1]; exact HKL.out
  have HQL : Hid (Q.length = lq) := hOQ.1.1.symm
  cases gk with
  | zero =>
   have HE : Hid (val Q = u / v ∧ val (L.take md) / 2 ^ s = u % v) := over_end L Q u v s md lq HLL.out HV0.out HDW.out (by have := HLT.out; simpa using this) (by have := HV.out; simpa using this)
   have hkm : md ≤ kl := by have := HKL.out; omega
   go_wp2_with fail
   refine cM (trimW_pack _ (some ⟨g, off, none⟩) md kl (L.take md) wr (own_pre hOL md hkm) (by omega)) ?_
   rintro e wr ⟨ar, nr, rfl, hnr, hOr, rfl⟩
   have hnr2 : nr ≤ 1024 := by
    rw [hnr]
    have h1 := words_le (L.take md) (hOL.1.2.1.take md)
    rw [List.length_take] at h1
    omega
   clear hnr
   go_wp2_with fail
   refine cM (right_calls ar nr s _ wr hOr.1 hnr2 (by omega)) ?_
   rintro e w6 ⟨a6, k6, M6, rfl, hO6, hv6, hk6, hb6⟩
   rw [val_words] at hv6
   have HV6 : Hid (val M6 = u % v) := by rw [Hid, hv6]; exact HE.out.2
   have hwr : w.heap.size ≤ wr.heap.size := hbr.size
   clear hv6
   go_wp2_with fail
   go_ret2
   exact ⟨some ⟨w3.heap.size, 0, none⟩, a6, lq, lq, k6, k6, Q, M6, rfl, (hOQ.keep hb6).low hwq, HE.out.1, by omega, hO6.low hwr, HV6.out, by omega, nT hbr hb6⟩
  | succ j =>
   have hkl2 := HKL.out
   have hP := own_partO hOL j (md + 1) (kl - j) (by omega) (by omega)
   have OR : Hid _ := fun (S : List Int) (q : Nat) (hS : S.length = md + 1) => over_round L S Q (u * 2 ^ s) (v * 2 ^ s) j md lq q HLL.out (by omega) HQL.out HDW.out hOL.1.2.1 HD0.out hS HLT.out HV.out
   have hseg : val ((L.drop j).take (md + 1)) < v * 2 ^ s * 18446744073709551616 := (OR.out (zeros (md + 1)) 0 (zeros_len _)).1
   have TC : Hid _ := takeOften_calls w2.heap.size g (off + j) md m1 m2 (md + 1) (kl - j) md (some ⟨gd, od, none⟩) ((L.drop j).take (md + 1)) (wO (v * 2 ^ s)) wr HMM.out.1 HMM.out.2.1 rfl (by omega) hP hD (fun b' o e => by simp only [Option.some.injEq, Addr.mk.injEq, and_true] at e; rw [← e.1]; exact hgd) HDT.out (by rw [val_words]; exact hseg)
   have hup1 : j + md + 1 ≤ kl := by omega
   have hln : j + md + 1 - j = md + 1 := by omega
   have hjl : j < lq := by omega
   clear hP hseg hkl2
   go_wp2_with fail
   refine cM TC.out ?_
   rintro e w5 ⟨S, q, rfl, hq, hS, hqe, hSe, hup⟩
   rw [val_words] at hqe hSe
   have HR : Hid _ := (OR.out S q hS.1.1.symm).2 hqe hSe
   have hOL5 := own_joinO hOL j (md + 1) (kl - j) S (by omega) hS hup
   have hgq : g ≠ w3.heap.size := by omega
   have hOQ5 := hOQ.grown hup.grown (fun b' o e => by simp only [Option.some.injEq, Addr.mk.injEq, and_true] at e; simp only [Option.some.injEq, ne_eq]; rw [← e.1]; exact fun e2 => hgq e2.symm)
   have hD5 := hD.grown hup.grown (fun b' o e => by simp only [Option.some.injEq, Addr.mk.injEq, and_true] at e; simp only [Option.some.injEq, ne_eq]; rw [← e.1]; exact hgd)
   have hb5 : Below w.heap.size w w5 := hbr.grown hup.grown hbr.size (fun k e => by simp at e; omega)
   obtain ⟨_, _, e1, _, hcell⟩ := hOQ5.1.2.2.2 j hjl
   simp only [Option.some.injEq, Addr.mk.injEq, and_true] at e1
   obtain ⟨rfl, rfl⟩ := e1
   have hfz := (hOQ5.2 _ _ j rfl hjl).2
   have hOQ6 := hOQ5.set (i := j) hjl (v := (q : Int)) (by omega) (by omega)
   have hOL6 := hOL5.other ⟨w3.heap.size, 0 + j, none⟩ (.int .u64 (q : Int)) (fun b' o e => by simp only [Option.some.injEq, Addr.mk.injEq, and_true] at e; rw [← e.1]; exact fun e2 => hgq e2.symm)
   have hD6 := hD5.other ⟨w3.heap.size, 0 + j, none⟩ (.int .u64 (q : Int)) (fun b' o e => by simp only [Option.some.injEq, Addr.mk.injEq, and_true] at e; rw [← e.1]; exact fun e2 => hgdq e2.symm)
   rw [Nat.zero_add] at hcell hfz hOQ6 hOL6 hD6
   generalize Q.getD j 0 = oldq at hcell
   have HN : Hid (OwnW w2.heap.size (w5.setCell ⟨w3.heap.size, j, none⟩ (.int .u64 (q : Int))) (some ⟨g, off, none⟩) kl kl (spliceW L j S) ∧ OwnW w3.heap.size (w5.setCell ⟨w3.heap.size, j, none⟩ (.int .u64 (q : Int))) (some ⟨w3.heap.size, 0, none⟩) lq lq (Q.set j (q : Int)) ∧ IsW (w5.setCell ⟨w3.heap.size, j, none⟩ (.int .u64 (q : Int))) (some ⟨gd, od, none⟩) md md (wO (v * 2 ^ s)) ∧ Below w.heap.size w (w5.setCell ⟨w3.heap.size, j, none⟩ (.int .u64 (q : Int)))) := ⟨hOL6, hOQ6, hD6, hb5.setCell (by show w.heap.size ≤ w3.heap.size; exact hwq) _⟩
   clear hqe hSe hS hup hOL5 hOQ5 hD5 hb5 hOQ6 hOL6 hD6 hOL hOQ hD hbr TC OR
   go_wp2_with fail
   go_roundg j
   case measure => omega
   case rel => exact ⟨_, _, by omega, by go_num, HR.out.1, HR.out.2, HN.out.1, HN.out.2.1, HN.out.2.2.1, HN.out.2.2.2⟩
theorem over_any (u v : Nat) (hv : 0 < v) : OverC u v := by
 by_cases h1 : u < v
 ·exact over_small u v h1
 ·by_cases h2 : v < 18446744073709551616
  ·exact over_one u v hv h2
  ·exact over_long u v (by omega) (by omega)
end Go.Proofs.YtahpdcbmekgkfaaGreatDoor

namespace Go.Proofs.YtahpdcbmekgkfaaGreatDoor
open Go.RowKit
theorem mulR_len (u v : Nat) : (wO (mulR u v).1).length ≤ 1024 := by
 unfold mulR
 split
 ·exact zero_len
 ·exact fitR_len _
theorem div_len (u v : Nat) : (wO (divQ u v)).length ≤ 1024 ∧ (wO (divM u v)).length ≤ 1024 := by
 unfold divQ divM
 split
 ·exact ⟨zero_len, zero_len⟩
 ·rename_i h
  have h1 : greatB u = false := by
   rw [Bool.not_eq_true, Bool.or_eq_false_iff] at h; exact h.1
  split
  ·exact ⟨zero_len, zero_len⟩
  ·exact ⟨(great_len _).1 (great_mono (Nat.div_le_self _ _) h1), (great_len _).1 (great_mono (Nat.mod_le _ _) h1)⟩
section
variable {a a' : Option Addr} {len cap len' cap' : Nat} {xs ys : List Int} {w : World}
theorem mul_eq (h : IsW w a len cap xs) (h' : IsW w a' len' cap' ys) (hm : len ≤ 17592186044416) (hm' : len' ≤ 17592186044416) {r : Nat} {k : Int} (hr : mulR (val xs) (val ys) = (r, k)) :
  Calls Tryz.prog 132 #[.slice a len cap, .slice a' len' cap'] w fun e w' => ∃ (ao : Option Addr) (n c : Nat), e = .returned (.tuple #[.slice ao n c, .int .i64 k]) ∧ Hid (n = (wO r).length) ∧ n ≤ 1024 ∧ OwnW w.heap.size w' ao n c (wO r) ∧ Below w.heap.size w w' := by
 have hl := mulR_len (val xs) (val ys)
 refine Calls.mono (mul_calls a a' len cap len' cap' xs ys w h h' hm hm') ?_
 rw [hr] at hl ⊢
 rintro e w' ⟨v, rfl, hA, hb⟩
 obtain ⟨ao, n, c, rfl, h1, h2, h3⟩ := hA.open hl
 exact ⟨ao, n, c, rfl, h1, h2, h3, hb⟩
theorem div_eq (h : IsW w a len cap xs) (h' : IsW w a' len' cap' ys) (hm : len ≤ 17592186044416) (hm' : len' ≤ 17592186044416) {q r : Nat} {k : Int} (hr : divQ (val xs) (val ys) = q) (hr2 : divM (val xs) (val ys) = r) (hr3 : divE (val xs) (val ys) = k) :
  Calls Tryz.prog 166 #[.slice a len cap, .slice a' len' cap'] w fun e w' => ∃ (a1 a2 : Option Addr) (n1 c1 n2 c2 : Nat), e = .returned (.tuple #[.slice a1 n1 c1, .slice a2 n2 c2, .int .i64 k]) ∧ Hid (n1 = (wO q).length) ∧ n1 ≤ 1024 ∧ OwnW w.heap.size w' a1 n1 c1 (wO q) ∧ Hid (n2 = (wO r).length) ∧ n2 ≤ 1024 ∧ OwnW w.heap.size w' a2 n2 c2 (wO r) ∧ Below w.heap.size w w' := by
 have hl := div_len (val xs) (val ys)
 refine Calls.mono (div_calls a a' len cap len' cap' xs ys w h h' hm hm' (fun h => over_any _ _ (by omega))) ?_
 rw [hr, hr2] at hl ⊢
 rw [hr3]
 rintro e w' ⟨v, v', rfl, hA, hA', hb⟩
 obtain ⟨a1, n1, c1, rfl, h1, h2, h3⟩ := hA.open hl.1
 obtain ⟨a2, n2, c2, rfl, h4, h5, h6⟩ := hA'.open hl.2
 exact ⟨a1, a2, n1, c1, n2, c2, rfl, h1, h2, h3, h4, h5, h6, hb⟩
end
end Go.Proofs.YtahpdcbmekgkfaaGreatDoor

namespace Go.Proofs.YtahpdcbmekgkfaaGreatDoor
open Go.RowKit
set_option maxHeartbeats 8000000
set_option maxRecDepth 100000
theorem sub_fits {u : Nat} (g : greatB u = false) (h : 1 ≤ u) : subR u 1 = (u - 1, 0) := by
 have g1 : greatB 1 = false := great_mono h g
 unfold subR
 rw [g, g1, if_neg (by decide), if_neg (by omega)]
theorem shl_fits {r k : Nat} (g : greatB (r * 2 ^ k) = false) : shlR r (k : Int) = (r * 2 ^ k, 0) := by
 have g0 : greatB r = false := great_mono (Nat.le_mul_of_pos_right _ (Nat.two_pow_pos _)) g
 unfold shlR
 rw [g0, if_neg (by decide), if_neg (by omega)]
 by_cases z : r = 0
 ·rw [if_pos z, z, Nat.zero_mul]
 ·have := (great_not _).1 g
  rw [blen_mul r k z] at this
  rw [if_neg z, if_neg (by omega), Int.toNat_natCast]
theorem div_fit {u v : Nat} (g : (greatB u || greatB v) = false) (h : v ≠ 0) : divE u v = 0 ∧ divQ u v = u / v ∧ divM u v = u % v := by
 unfold divE divQ divM
 rw [g]
 simp [h]
theorem low_val {ys : List Int} (hu : AllU ys) {bl : Nat} (hl : bl = ys.length) (sp : Nat) : val (ys.take (min sp bl)) = val ys % 2 ^ (64 * sp) := by
 rw [← two64]
 have e := val_split ys (min sp bl)
 have l := val_lt (ys.take (min sp bl)) (hu.take _)
 rw [List.length_take] at l
 rcases Nat.le_total sp bl with q | q
 ·rw [Nat.min_eq_left q] at *
  rw [show min sp ys.length = sp by omega] at e l
  rw [e, Nat.add_mul_mod_self_left, Nat.mod_eq_of_lt l]
 ·rw [Nat.min_eq_right q, hl, List.take_length]
  have l2 := val_lt ys hu
  exact (Nat.mod_eq_of_lt (Nat.lt_of_lt_of_le l2 (Nat.pow_le_pow_right (by decide) (by omega)))).symm
theorem isW_take {w : World} {a : Option Addr} {len cap : Nat} {xs : List Int} (h : IsW w a len cap xs) (k : Nat) (hk : k ≤ len) : IsW w a k cap (xs.take k) := by
 obtain ⟨h1, h2, h3, h4⟩ := h
 refine ⟨by rw [List.length_take]; omega, h2.take k, ⟨by omega, h3.2⟩, fun i hi => ?_⟩
 obtain ⟨b, off, e, hb, hc⟩ := h4 i (by omega)
 refine ⟨b, off, e, hb, ?_⟩
 rw [hc]
 congr 2
 rw [List.getD_eq_getElem?_getD, List.getD_eq_getElem?_getD, List.getElem?_take, if_pos hi]
theorem row_own {B g n : Nat} {w : World} {L : List Int} (h : w.heap[g]? = some (.cells (L.map (Value.int .u64)).toArray 53 (0, 0))) (hB : B ≤ g) (hu : AllU L) (hn : n = L.length) : OwnW B w (some ⟨g, 0, none⟩) n n L := by
 have hg : g < w.heap.size := (Array.getElem?_eq_some_iff.1 h).1
 refine ⟨⟨hn, hu, ⟨Nat.le_refl _, fun q => by cases q⟩, fun i hi => ⟨g, 0, rfl, hg, ?_⟩⟩, fun b off i e hi => ?_⟩
 ·have hi2 : i < L.length := by omega
  simp [World.cell?, h, hi2, List.getD_eq_getElem?_getD]
 ·simp only [Option.some.injEq, Addr.mk.injEq, and_true] at e
  obtain ⟨rfl, rfl⟩ := e
  exact ⟨hB, by simp [World.frozen?, h]⟩
theorem copy_src {w : World} {bo oo n c : Nat} {WL : List Int} (h : IsW w (some ⟨bo, oo, none⟩) n c WL) : ∀ j v, (WL.map (Value.int .u64))[j]? = some v → w.cell? ((⟨bo, oo, none⟩ : Addr).add j) = some v := fun j v e => by
 have hadd : (⟨bo, oo, none⟩ : Addr).add j = ⟨bo, oo + j, none⟩ := by unfold Addr.add; split <;> simp_all
 rw [List.getElem?_map] at e
 obtain ⟨x, hx, rfl⟩ := Option.map_eq_some_iff.1 e
 have hj : j < WL.length := (List.getElem?_eq_some_iff.1 hx).1
 obtain ⟨b, off, e2, -, hc⟩ := h.2.2.2 j (by rw [h.1]; exact hj)
 simp only [Option.some.injEq, Addr.mk.injEq, and_true] at e2
 obtain ⟨rfl, rfl⟩ := e2
 rw [hadd, hc, List.getD_eq_getElem?_getD, hx]
 rfl
theorem copy_words (w : World) (g d n bo oo c : Nat) (ZS CS : List Value) (hg : w.heap[g]? = some (.cells ZS.toArray 53 (0, 0))) (hl : CS.length = n) (hsrc : ∀ j v, CS[j]? = some v → w.cell? ((⟨bo, oo, none⟩ : Addr).add j) = some v) (hfit : d + n ≤ ZS.length) (h1 : ∀ v ∈ CS, v.oneCell' = true) (B : Nat) (w0 : World) (hb : Below B w0 w) (hB : B ≤ g) :
  ∃ w', Sem.run Tryz.prog (Builtin.copy_ #[23, 23] 3 #[.slice (some ⟨g, d, none⟩) n n, .slice (some ⟨bo, oo, none⟩) n c]) w = .ok (.int .i64 (n : Int)) w' ∧ Hid (w'.heap[g]? = some (.cells (splice ZS d CS).toArray 53 (0, 0))) ∧ Below B w0 w' := by
 have hsz : (Tryz.prog.info? 53).map (·.size) = some 1 := by
  obtain ⟨i0, hi, _, hz1, _⟩ := info_parts word_info
  rw [hi]
  simp [hz1]
 subst hl
 have hr := run_copy_row (P := Tryz.prog) w 23 23 3 53 g d CS.length CS.length ⟨bo, oo, none⟩ CS.length c ZS.toArray 53 CS nat_T hsz hg (Nat.min_self _).symm hsrc (by simpa using hfit) h1
 refine ⟨_, by rw [hr]; rfl, ?_, below_setRow hb hB _⟩
 show _ = _
 simpa [splice] using setRow_heap w g _ _ 53 _ hg
theorem splice_zeros (d n : Nat) (WL : List Int) (h : WL.length = n) : splice ((zeros (d + n)).map (Value.int .u64)) d (WL.map (Value.int .u64)) = (zeros d ++ WL).map (Value.int .u64) := by
 unfold splice zeros
 rw [List.map_append, List.length_map, h]
 simp
theorem make_row (t : TypeId) (ht : Tryz.prog.underlying t = some (.slice 53)) (w : World) (n : Nat) (hn : n ≤ 17592186044416) :
  ∃ w1, (Instr.makeSlice t (.int .i64 (n : Int)) (.int .i64 (n : Int))).run Tryz.prog w = .ok (.slice (some ⟨w.heap.size, 0, none⟩) n n) w1 ∧ Hid (w1.heap[w.heap.size]? = some (.cells ((zeros n).map (Value.int .u64)).toArray 53 (0, 0))) ∧ Below w.heap.size w w1 ∧ w.heap.size < w1.heap.size := by
 obtain ⟨i0, hi, hz0, hz1, hz2⟩ := info_parts word_info
 obtain ⟨w', h1, h2, h3⟩ := run_make_full (P := Tryz.prog) w w.heap.size t 53 i0 (.int .u64 0) 1 ht hi hz0 hz1 .i64 .i64 n (by rw [hz2]; omega) (by unfold maxLen; omega) (Nat.le_refl _)
 have e : (madeCells (Value.int .u64 0).cells (n * 1)).toList = (zeros n).map (Value.int .u64) := by
  rw [show (Value.int .u64 0).cells = #[Value.int .u64 0] from rfl, toList_madeCells_one, Nat.mul_one, zeros, List.map_replicate]
 rcases h2.2 with ⟨e', _⟩ | ⟨g, cap, cur, e', _, hh, _, _, hc, ht'⟩
 ·cases e'
 ·simp only [Value.slice.injEq, Option.some.injEq, Addr.mk.injEq, and_true] at e'
  obtain ⟨rfl, _, rfl⟩ := e'
  rw [e, List.take_of_length_le (by rw [Array.length_toList, hc]; omega)] at ht'
  refine ⟨w', h1, ?_, (Below.refl _ _).grown h3 (Nat.le_refl _) (fun q hq => by cases hq), (Array.getElem?_eq_some_iff.1 hh).1⟩
  rw [Hid, hh, ← ht']
theorem itimes_calls (a : Option Addr) (len cap : Nat) (xs : List Int) (a' : Option Addr) (len' cap' : Nat) (ys : List Int) (r : Nat) (w : World) (h : IsW w a len cap xs) (hm : len ≤ 17592186044000) (h' : IsW w a' len' cap' ys) (hm' : len' ≤ 17592186044000) (hr : mulR (val xs) (val ys) = (r, 0)) :
  Calls Tryz.prog 163 #[.slice a len cap, .slice a' len' cap'] w fun e w' => ∃ (ao : Option Addr) (n c : Nat), e = .returned (.slice ao n c) ∧ Hid (n = (wO r).length) ∧ n ≤ 1024 ∧ OwnW w.heap.size w' ao n c (wO r) ∧ Below w.heap.size w w' := by
 have HM : Hid _ := mul_eq h h' (by omega) (by omega) hr
 clear h h' hm hm' hr
 go_enter Tryz.func163, Tryz.ntmps163
 go_wp2_with fail
 refine cM HM.out ?_
 rintro e w1 ⟨ao, n, c, rfl, HN, hn, hO, bN⟩
 go_wp2_with fail
 go_ret
 exact ⟨ao, n, c, rfl, HN, hn, hO, bN⟩
theorem divided_calls (a : Option Addr) (len cap : Nat) (xs : List Int) (ww : Nat) (b : Option Addr) (bl bc : Nat) (ys : List Int) (p : Nat) (w : World) (h : IsW w a len cap xs) (hm : len ≤ 17592186044000) (h' : IsW w b bl bc ys) (hm' : bl ≤ 17592186044000) (gA : greatB (val xs) = false) (gB : greatB (val ys) = false) (hA : val xs ≠ 0) (hB : val ys ≠ 0) (hp : p ≤ 8192) (hw : ww = quW (val xs) (val ys) p) :
  Calls Tryz.prog 135 #[.slice a len cap, .int .i64 (ww : Int), .slice b bl bc] w fun r w' => ∃ (ao : Option Addr) (n c : Nat), r = .returned (.tuple #[.slice ao n c, .bool (decide (quR (val xs) (val ys) p ≠ 0))]) ∧ n ≤ 1024 ∧ OwnW w.heap.size w' ao n c (wO (quQ (val xs) (val ys) p)) ∧ Below w.heap.size w w' := by
 have SF := spare_few (val xs) (val ys) p hA hB gA gB hp
 rw [← hw] at SF
 obtain ⟨la, hD0, hs1, hs2, hw2, hfew⟩ := SF
 have HSP : Hid (spW (val xs) ww = (wO (val xs)).length + ww - 1024) := by rw [Hid]; rfl
 have DS := div_spare (val xs * 2 ^ (64 * (ww - spW (val xs) ww))) (val ys) (2 ^ (64 * spW (val xs) ww)) (Nat.two_pow_pos _) hD0 (fun c => hfew (fun z => by rw [z] at c; simp [Nat.mod_one] at c))
 have hNN : val xs * 2 ^ (64 * (ww - spW (val xs) ww)) * 2 ^ (64 * spW (val xs) ww) = val xs * 2 ^ (64 * ww) := by
  rw [Nat.mul_assoc, ← Nat.pow_add, show 64 * (ww - spW (val xs) ww) + 64 * spW (val xs) ww = 64 * ww by omega]
 rw [hNN] at DS
 have eQ : quQ (val xs) (val ys) p = val xs * 2 ^ (64 * ww) / val ys := by unfold quQ; rw [← hw]
 have eR : quR (val xs) (val ys) p = val xs * 2 ^ (64 * ww) % val ys := by unfold quR; rw [← hw]
 rw [← eQ, ← eR] at DS
 have gX : greatB (val xs * 2 ^ (64 * (ww - spW (val xs) ww))) = false := by
  rw [great_not, blen_mul _ _ hA]
  have := (len_blen (val xs)).2
  have := HSP.out
  omega
 have gD : greatB (val ys / 2 ^ (64 * spW (val xs) ww)) = false := great_mono (Nat.div_le_self _ _) gB
 have hLv : val (ys.take (min (spW (val xs) ww) bl)) = val ys % 2 ^ (64 * spW (val xs) ww) := low_val h'.2.1 h'.1 _
 have fN : fitR (val xs) = (val xs, 0) := fitR_no gA
 have fS := shr_fit (j := 64 * spW (val xs) ww) gB
 have fD := div_fit (u := val xs * 2 ^ (64 * (ww - spW (val xs) ww))) (v := val ys / 2 ^ (64 * spW (val xs) ww)) (by rw [gX, gD]; rfl) hD0
 have hrl : val xs * 2 ^ (64 * (ww - spW (val xs) ww)) % (val ys / 2 ^ (64 * spW (val xs) ww)) * 2 ^ (64 * spW (val xs) ww) ≤ val ys := Nat.le_trans (Nat.mul_le_mul_right _ (Nat.le_of_lt (Nat.mod_lt _ (Nat.pos_of_ne_zero hD0)))) (Nat.div_mul_le_self _ _)
 have gR := great_mono hrl gB
 have fR : shlR (val xs * 2 ^ (64 * (ww - spW (val xs) ww)) % (val ys / 2 ^ (64 * spW (val xs) ww))) ((64 * spW (val xs) ww : Nat) : Int) = (val xs * 2 ^ (64 * (ww - spW (val xs) ww)) % (val ys / 2 ^ (64 * spW (val xs) ww)) * 2 ^ (64 * spW (val xs) ww), 0) := shl_fits gR
 have gQ : greatB (val xs * 2 ^ (64 * (ww - spW (val xs) ww)) / (val ys / 2 ^ (64 * spW (val xs) ww))) = false := great_mono (Nat.div_le_self _ _) gX
 have gL : greatB (val ys % 2 ^ (64 * spW (val xs) ww)) = false := great_mono (Nat.mod_le _ _) gB
 have hql : val xs * 2 ^ (64 * (ww - spW (val xs) ww)) / (val ys / 2 ^ (64 * spW (val xs) ww)) * (val ys % 2 ^ (64 * spW (val xs) ww)) ≤ val ys := by
  by_cases z : spW (val xs) ww = 0
  ·rw [z]; simp [Nat.mod_one]
  ·exact Nat.le_trans (Nat.mul_le_mul_left _ (Nat.le_of_lt (Nat.mod_lt _ (Nat.two_pow_pos _)))) (hfew z)
 have gM := great_mono hql gB
 have fM : mulR (val xs * 2 ^ (64 * (ww - spW (val xs) ww)) / (val ys / 2 ^ (64 * spW (val xs) ww))) (val ys % 2 ^ (64 * spW (val xs) ww)) = (val xs * 2 ^ (64 * (ww - spW (val xs) ww)) / (val ys / 2 ^ (64 * spW (val xs) ww)) * (val ys % 2 ^ (64 * spW (val xs) ww)), 0) := by rw [mulR_no (by rw [gQ, gL]; rfl), fitR_no gM]
 have hq1 : val xs * 2 ^ (64 * (ww - spW (val xs) ww)) % (val ys / 2 ^ (64 * spW (val xs) ww)) * 2 ^ (64 * spW (val xs) ww) < val xs * 2 ^ (64 * (ww - spW (val xs) ww)) / (val ys / 2 ^ (64 * spW (val xs) ww)) * (val ys % 2 ^ (64 * spW (val xs) ww)) → 1 ≤ val xs * 2 ^ (64 * (ww - spW (val xs) ww)) / (val ys / 2 ^ (64 * spW (val xs) ww)) := fun c => by
  rcases Nat.eq_zero_or_pos (val xs * 2 ^ (64 * (ww - spW (val xs) ww)) / (val ys / 2 ^ (64 * spW (val xs) ww))) with z | z
  ·rw [z, Nat.zero_mul] at c; omega
  ·exact z
 have hX2 : val (zeros (ww - spW (val xs) ww) ++ wO (val xs)) = val xs * 2 ^ (64 * (ww - spW (val xs) ww)) := by rw [val_append, val_zeros, zeros_len, val_words, Nat.zero_add, two64, Nat.mul_comm]
 generalize val xs * 2 ^ (64 * (ww - spW (val xs) ww)) = X at *
 generalize val ys / 2 ^ (64 * spW (val xs) ww) = D at *
 generalize hQ : X / D = q at *
 generalize hR : X % D = r at *
 generalize hL : val ys % 2 ^ (64 * spW (val xs) ww) = Lw at *
 generalize r * 2 ^ (64 * spW (val xs) ww) = rW at *
 generalize hK : q * Lw = qL at *
 generalize quQ (val xs) (val ys) p = QQ at *
 generalize hRR : quR (val xs) (val ys) p = RR at *
 have HX2 : Hid _ := hX2
 have HLv : Hid _ := hLv
 have HDS : Hid _ := DS
 have Hq1 : Hid _ := hq1
 have H1 : Hid _ := norm_eq2 h (by omega) fN
 have HI1 : Hid _ := fun w' (k : IsW w' b bl bc ys) => shr_eq (i := ((64 * spW (val xs) ww : Nat) : Int)) k (by omega) (by omega) fS.2.1 fS.2.2 fS.1
 have HI2 : Hid _ := fun w' a1 n1 c1 a2 n2 c2 (k : IsW w' a1 n1 c1 (zeros (ww - spW (val xs) ww) ++ wO (val xs))) (m1 : n1 ≤ 17592186044416) (k' : IsW w' a2 n2 c2 (wO D)) (m2 : n2 ≤ 17592186044416) => div_eq k k' m1 m2 (q := q) (r := r) (k := 0) (by rw [hX2, val_words]; exact fD.2.1) (by rw [hX2, val_words]; exact fD.2.2) (by rw [hX2, val_words]; exact fD.1)
 have HI3 : Hid _ := fun w' a1 n1 c1 (k : IsW w' a1 n1 c1 (wO r)) (m1 : n1 ≤ 17592186044416) => shl_eq (i := ((64 * spW (val xs) ww : Nat) : Int)) k m1 (r := rW) (k := 0) (by rw [val_words]; exact fR)
 have HI4 : Hid _ := fun w' a1 n1 c1 a2 n2 c2 (k : IsW w' a1 n1 c1 (wO q)) (m1 : n1 ≤ 17592186044000) (k' : IsW w' a2 n2 c2 (ys.take (min (spW (val xs) ww) bl))) (m2 : n2 ≤ 17592186044000) => itimes_calls a1 n1 c1 (wO q) a2 n2 c2 (ys.take (min (spW (val xs) ww) bl)) qL w' k m1 k' m2 (by rw [hLv, val_words]; exact fM)
 have HI5 : Hid _ := fun w' a1 n1 c1 a2 n2 c2 (k : IsW w' a1 n1 c1 (wO rW)) (m1 : n1 ≤ 17592186044416) (k' : IsW w' a2 n2 c2 (wO qL)) (m2 : n2 ≤ 17592186044416) => cmp_calls a1 a2 n1 c1 n2 c2 (wO rW) (wO qL) w' k k' m1 m2
 simp only [val_words] at HI5
 have gg : (greatB rW || greatB qL) = false := by rw [gR, gM]; rfl
 have HI6 : Hid _ := fun w' a1 n1 c1 a2 n2 c2 (k : IsW w' a1 n1 c1 (wO q)) (m1 : n1 ≤ 17592186044416) (k' : IsW w' a2 n2 c2 (wO 1)) (m2 : n2 ≤ 17592186044416) (z : 1 ≤ q) => sub_eq k k' m1 m2 (r := q - 1) (k := 0) (by rw [val_words, val_words]; exact sub_fits gQ z)
 clear fN fS fD fR fM gX gD gR gQ gL gM hql hrl hX2 hLv DS hq1 hNN eQ eR hD0 hfew hQ hR hL hK
 have hI := h
 have hJ := h'
 have bA := Below.refl w.heap.size w
 have hA0 := hA
 have hbl : 0 < bl := by
  rw [h'.1]
  exact Nat.pos_of_ne_zero (fun q => hB (by rw [List.eq_nil_of_length_eq_zero q]; rfl))
 clear h h' hA hB gA gB
 generalize hsp : spW (val xs) ww = sp at *
 generalize val ys = YY at *
 have HNZ : Hid (0 < (wO (val xs)).length) := by
  rw [Hid]
  exact Nat.pos_of_ne_zero (fun q => hA0 ((words_nil _).1 (List.eq_nil_of_length_eq_zero q)))
 clear hA0
 generalize hxx : wO (val xs) = WL at *
 clear hw hxx hsp
 go_enter Tryz.func135, Tryz.ntmps135
 go_wp2_with fail
 refine cM H1.out ?_
 rintro e1 w1 ⟨ao, n, c, rfl, HN, hn, hO, bN⟩
 clear H1 hI
 replace hJ := IsW.keep hJ bN
 replace bA := nT bA bN
 clear bN
 have HN2 : Hid (WL.length = n) := HN.out.symm
 obtain ⟨d, hd⟩ : ∃ d, ww = sp + d := ⟨ww - sp, by omega⟩
 have hsn : Hid (sp = n + ww - 1024) := by rw [Hid, HSP.out, HN2.out]
 have hn0 : 0 < n := by have := HNZ.out; rw [HN2.out] at this; exact this
 obtain ⟨bo, oo, rfl, -, -⟩ := hO.1.2.2.2 0 hn0
 obtain ⟨bb, ob, rfl, -, -⟩ := hJ.2.2.2 0 hbl
 obtain ⟨w2, hmk, hrow, bN, hz⟩ := make_row 23 nat_T w1 (d + n) (by omega)
 obtain ⟨mn, hmn⟩ : ∃ mn, mn = min sp bl := ⟨_, rfl⟩
 have Hmn : Hid (mn = min sp bl) := hmn
 have hm1 : mn ≤ bl := by omega
 have hm2 : mn ≤ bc := Nat.le_trans hm1 hJ.2.2.1.1
 clear hmn
 have u1 : IntKind.i64.wrap ((n : Int) + (ww : Int)) = (n : Int) + (ww : Int) := by rw [IntKind.wrap_i64]; omega
 have u2 : IntKind.i64.wrap ((n : Int) + (ww : Int) - 1024) = (n : Int) + (ww : Int) - 1024 := by rw [IntKind.wrap_i64]; omega
 have u3 : max (0 : Int) ((n : Int) + (ww : Int) - 1024) = (sp : Int) := by have := hsn.out; omega
 have u4 : IntKind.i64.wrap ((ww : Int) - (sp : Int)) = (d : Int) := by rw [IntKind.wrap_i64]; omega
 have u5 : IntKind.i64.wrap ((d : Int) + (n : Int)) = (d : Int) + (n : Int) := by rw [IntKind.wrap_i64]; omega
 rw [show ((d + n : Nat) : Int) = (d : Int) + (n : Int) by omega] at hmk
 have u6 : IntKind.i64.wrap (64 * (sp : Int)) = ((64 * sp : Nat) : Int) := by rw [IntKind.wrap_i64]; omega
 have u7 : min (sp : Int) (bl : Int) = (mn : Int) := by have := Hmn.out; omega
 have hdn : Hid (ww - sp = d) := by rw [Hid]; omega
 rw [hdn.out] at HX2 HI2
 have Hd : Hid (ww = sp + d) := hd
 have hd3 : d ≤ 1200 := by omega
 clear hd
 rw [← Hmn.out] at HI4
 obtain ⟨CS, hCS⟩ : ∃ CS, CS = WL.map (Value.int .u64) := ⟨_, rfl⟩
 obtain ⟨ZS, hZS⟩ : ∃ ZS, ZS = (zeros (d + n)).map (Value.int .u64) := ⟨_, rfl⟩
 have hsrc : Hid (∀ j v, CS[j]? = some v → w2.cell? ((⟨bo, oo, none⟩ : Addr).add j) = some v) := by rw [Hid, hCS]; exact copy_src (hO.1.keep bN)
 have hCl : Hid (CS.length = n) := by rw [Hid, hCS, List.length_map]; exact HN2.out
 have hZl : Hid (ZS.length = d + n) := by rw [Hid, hZS, List.length_map, zeros_len]
 have hC1 : Hid (∀ v ∈ CS, v.oneCell' = true) := by rw [Hid, hCS]; intro v hv; obtain ⟨x, -, rfl⟩ := List.mem_map.1 hv; rfl
 have hSp : Hid (splice ZS d CS = (zeros d ++ WL).map (Value.int .u64)) := by rw [Hid, hZS, hCS]; exact splice_zeros d n WL HN2.out
 rw [← hZS] at hrow
 clear hCS hZS
 obtain ⟨w3, hcp, hrow3, bN3⟩ := copy_words w2 w1.heap.size d n bo oo c ZS CS hrow.out hCl.out hsrc.out (by rw [hZl.out]; exact Nat.le_refl _) hC1.out w1.heap.size w1 bN (Nat.le_refl _)
 go_wp2_with fail
 clear hcp bN hrow hmk hsrc hCl hZl hC1 u1 u2 u3 u4 u5
 rw [hSp.out] at hrow3
 have hU : AllU (zeros d ++ WL) := fun x hx => by
  rcases List.mem_append.1 hx with q | q
  ·exact zeros_U d x q
  ·exact hO.1.2.1 x q
 have hV := row_own (B := w1.heap.size) hrow3.out (Nat.le_refl _) hU (n := d + n) (by rw [List.length_append, zeros_len, HN2.out])
 clear hrow3 hU hz hSp
 replace hV := hV.low bA.size
 replace hJ := IsW.keep hJ bN3
 replace hO := hO.keep bN3
 replace bA := nT bA bN3
 clear bN3
 refine cM (HI1.out _ hJ) ?_
 rintro r0 w4 ⟨a4, n4, c4, rfl, -, m4, h4, bN⟩
 have lw := bA.size
 replace h4 := h4.low lw
 clear lw
 replace hJ := IsW.keep hJ bN
 replace hO := hO.keep bN
 replace hV := hV.keep bN
 replace bA := nT bA bN
 clear bN
 clear HI1
 go_wp2_with fail
 refine cM (HI2.out _ _ _ _ _ _ _ hV.1 (by omega) h4.1 (by omega)) ?_
 rintro r0 w5 ⟨a5, a6, n5, c5, n6, c6, rfl, -, m5, h5, -, m6, h6, bN⟩
 replace h5 := h5.low bA.size
 replace h6 := h6.low bA.size
 clear HI2
 replace hJ := IsW.keep hJ bN
 replace hO := hO.keep bN
 replace hV := hV.keep bN
 replace h4 := h4.keep bN
 replace bA := nT bA bN
 clear bN
 go_wp2_with fail
 refine cM (HI3.out _ _ _ _ h6.1 (by omega)) ?_
 rintro r0 w6 ⟨a7, n7, c7, rfl, -, m7, h7, bN⟩
 have lw := bA.size
 replace h7 := h7.low lw
 clear lw
 replace hJ := IsW.keep hJ bN
 replace hO := hO.keep bN
 replace hV := hV.keep bN
 replace h4 := h4.keep bN
 replace h5 := h5.keep bN
 replace h6 := h6.keep bN
 replace bA := nT bA bN
 clear bN
 clear HI3
 go_wp2_with fail
 refine cM (HI4.out _ _ _ _ _ _ _ h5.1 (by omega) (isW_take hJ mn hm1) (by omega)) ?_
 rintro r0 w7 ⟨a8, n8, c8, rfl, -, m8, h8, bN⟩
 have lw := bA.size
 replace h8 := h8.low lw
 clear lw
 replace hJ := IsW.keep hJ bN
 replace hO := hO.keep bN
 replace hV := hV.keep bN
 replace h4 := h4.keep bN
 replace h5 := h5.keep bN
 replace h6 := h6.keep bN
 replace h7 := h7.keep bN
 replace bA := nT bA bN
 clear bN
 clear HI4
 go_wp2_with fail
 refine cM (HI5.out _ _ _ _ _ _ _ h7.1 (by omega) h8.1 (by omega)) ?_
 rintro r0 w8 ⟨-, e8, bN⟩
 rw [e8 gg]
 clear e8 HI5 gg
 replace hJ := IsW.keep hJ bN
 replace hO := hO.keep bN
 replace hV := hV.keep bN
 replace h4 := h4.keep bN
 replace h5 := h5.keep bN
 replace h6 := h6.keep bN
 replace h7 := h7.keep bN
 replace h8 := h8.keep bN
 replace bA := nT bA bN
 clear bN
 by_cases c : rW < qL
 ·have hc : cmpN rW qL = -1 := by unfold cmpN; rw [if_pos c]
  rw [hc]
  have hq := Hq1.out c
  have hE := HDS.out.1 c
  have HE : Hid _ := hE
  have HO1 : Hid _ := of_calls 1 w8 (by omega) (by omega)
  clear hE HDS Hq1 c hc
  go_wp2_with fail
  refine cM HO1.out ?_
  rintro r0 w9 ⟨v, rfl, hv, bN⟩
  obtain ⟨a9, n9, c9, rfl, -, m9, h9⟩ := hv.open (by rw [show (1 : Int).toNat = 1 from rfl, show wO 1 = [1] by decide +kernel]; decide)
  replace h5 := h5.keep bN
  replace bA := nT bA bN
  clear bN
  go_wp2_with fail
  refine cM (HI6.out _ _ _ _ _ _ _ h5.1 (by omega) h9.1 (by omega) hq) ?_
  rintro r0 w10 ⟨aa, na, ca, rfl, -, ma, ha, bN⟩
  replace ha := ha.low bA.size
  replace bA := nT bA bN
  have mh : Hid (na ≤ 1024) := ma
  clear bN ma HI6
  go_wp2_with fail
  go_ret2
  rw [HE.out.1, decide_eq_true HE.out.2]
  exact ⟨aa, na, ca, rfl, mh.out, ha, bA⟩
 have hE := HDS.out.2 c
 have HE : Hid _ := hE
 by_cases e : rW = qL
 ·have hc : cmpN rW qL = 0 := by unfold cmpN; rw [if_neg c, if_neg (by omega)]
  rw [hc]
  have HE2 : Hid (decide (RR ≠ 0) = false) := by rw [Hid]; exact decide_eq_false (fun q => q (HE.out.2.2 e))
  have mh : Hid (n5 ≤ 1024) := m5
  clear hE HDS Hq1 c hc e HI6
  go_wp2_with fail
  go_ret2
  rw [HE.out.1, HE2.out]
  exact ⟨a5, n5, c5, rfl, mh.out, h5, bA⟩
 ·have hc : cmpN rW qL = 1 := by unfold cmpN; rw [if_neg c, if_pos (by omega)]
  rw [hc]
  have HE2 : Hid (decide (RR ≠ 0) = true) := by rw [Hid]; exact decide_eq_true (fun q => e (HE.out.2.1 q))
  have mh : Hid (n5 ≤ 1024) := m5
  clear hE HDS Hq1 c hc e HI6
  go_wp2_with fail
  go_ret2
  rw [HE.out.1, HE2.out]
  exact ⟨a5, n5, c5, rfl, mh.out, h5, bA⟩
end Go.Proofs.YtahpdcbmekgkfaaGreatDoor

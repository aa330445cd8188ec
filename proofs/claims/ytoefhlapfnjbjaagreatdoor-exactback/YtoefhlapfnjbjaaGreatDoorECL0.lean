/- ExactBack: the logarithm of an exact power is its exponent (pure). -/
import Derived.Test.YtoefhlapfnjbjaaGreatDoorECX
import Derived.Test.YtoefhlapfnjbjaaGreatDoorXBC
namespace Go.Proofs.YtoefhlapfnjbjaaGreatDoor
open Go.RowKit

def bkX (n : Int) : Int := (toR (intD n).1 (intD n).2.1 (intD n).2.2).1
def bkD (f : Int) (n : Int) : E3 × Bool := exV f (bkX n)
def bkY (f : Int) (n : Int) : Int × Bool := toR (bkD f n).1.1 (bkD f n).1.2.1 (bkD f n).1.2.2
def uB (x : Int) : Bool := decide (0 ≤ x ∧ x ≤ 18446744073709551615)
def bkB (f g : Int) (n : Int) : Bool := uB (bkX n) && decide (exE f (bkX n) = 0) && (!((bkD f n).2 && (bkY f n).2) || (uB (bkY f n).1 && decide (exE g (bkY f n).1 = 0) && (exV g (bkY f n).1).2 && decide (cmpD (exV g (bkY f n).1).1 (intD n) = 0)))
def bk4 (n : Int) : Bool := bkB 2 8 n && bkB 3 9 n && bkB 5 11 n && bkB 6 12 n
theorem bk_0 : (List.range 128).all (fun i => bk4 ((i : Int) + (-1022))) = true := by decide +kernel
theorem bk_1 : (List.range 128).all (fun i => bk4 ((i : Int) + (-894))) = true := by decide +kernel
theorem bk_2 : (List.range 128).all (fun i => bk4 ((i : Int) + (-766))) = true := by decide +kernel
theorem bk_3 : (List.range 128).all (fun i => bk4 ((i : Int) + (-638))) = true := by decide +kernel
theorem bk_4 : (List.range 128).all (fun i => bk4 ((i : Int) + (-510))) = true := by decide +kernel
theorem bk_5 : (List.range 128).all (fun i => bk4 ((i : Int) + (-382))) = true := by decide +kernel
theorem bk_6 : (List.range 128).all (fun i => bk4 ((i : Int) + (-254))) = true := by decide +kernel
theorem bk_7 : (List.range 128).all (fun i => bk4 ((i : Int) + (-126))) = true := by decide +kernel
theorem bk_8 : (List.range 128).all (fun i => bk4 ((i : Int) + (2))) = true := by decide +kernel
theorem bk_9 : (List.range 128).all (fun i => bk4 ((i : Int) + (130))) = true := by decide +kernel
theorem bk_10 : (List.range 128).all (fun i => bk4 ((i : Int) + (258))) = true := by decide +kernel
theorem bk_11 : (List.range 128).all (fun i => bk4 ((i : Int) + (386))) = true := by decide +kernel
theorem bk_12 : (List.range 128).all (fun i => bk4 ((i : Int) + (514))) = true := by decide +kernel
theorem bk_13 : (List.range 128).all (fun i => bk4 ((i : Int) + (642))) = true := by decide +kernel
theorem bk_14 : (List.range 128).all (fun i => bk4 ((i : Int) + (770))) = true := by decide +kernel
theorem bk_15 : (List.range 128).all (fun i => bk4 ((i : Int) + (898))) = true := by decide +kernel
theorem bk_in {c : Int} (h : (List.range 128).all (fun i => bk4 ((i : Int) + c)) = true) (n : Int) (h1 : c ≤ n) (h2 : n < c + 128) : bk4 n = true := by
  have := List.all_eq_true.1 h (n - c).toNat (List.mem_range.2 (by omega))
  rw [show (((n - c).toNat : Int) + c) = n by omega] at this
  exact this
theorem bk_all (n : Int) (h1 : -1022 ≤ n) (h2 : n ≤ 1023) : bk4 n = true := by
  by_cases q0 : n < -894
  · exact bk_in bk_0 n (by omega) (by omega)
  by_cases q1 : n < -766
  · exact bk_in bk_1 n (by omega) (by omega)
  by_cases q2 : n < -638
  · exact bk_in bk_2 n (by omega) (by omega)
  by_cases q3 : n < -510
  · exact bk_in bk_3 n (by omega) (by omega)
  by_cases q4 : n < -382
  · exact bk_in bk_4 n (by omega) (by omega)
  by_cases q5 : n < -254
  · exact bk_in bk_5 n (by omega) (by omega)
  by_cases q6 : n < -126
  · exact bk_in bk_6 n (by omega) (by omega)
  by_cases q7 : n < 2
  · exact bk_in bk_7 n (by omega) (by omega)
  by_cases q8 : n < 130
  · exact bk_in bk_8 n (by omega) (by omega)
  by_cases q9 : n < 258
  · exact bk_in bk_9 n (by omega) (by omega)
  by_cases q10 : n < 386
  · exact bk_in bk_10 n (by omega) (by omega)
  by_cases q11 : n < 514
  · exact bk_in bk_11 n (by omega) (by omega)
  by_cases q12 : n < 642
  · exact bk_in bk_12 n (by omega) (by omega)
  by_cases q13 : n < 770
  · exact bk_in bk_13 n (by omega) (by omega)
  by_cases q14 : n < 898
  · exact bk_in bk_14 n (by omega) (by omega)
  by_cases q15 : n < 1026
  · exact bk_in bk_15 n (by omega) (by omega)
  omega
theorem u_ofB {x : Int} (h : uB x = true) : U x := by
  have h' : 0 ≤ x ∧ x ≤ 18446744073709551615 := of_decide_eq_true h
  exact ⟨h'.1, by have := h'.2; omega⟩
/-- what a pair of functions comes to, way by way -/
theorem bk_way {f g n : Int} (h : bkB f g n = true) : U (bkX n) ∧ exE f (bkX n) = 0 ∧ ((bkD f n).2 = false ∨ ((bkD f n).2 = true ∧ (bkY f n).2 = false) ∨ ((bkD f n).2 = true ∧ (bkY f n).2 = true ∧ U (bkY f n).1 ∧ exE g (bkY f n).1 = 0 ∧ (exV g (bkY f n).1).2 = true ∧ cmpD (exV g (bkY f n).1).1 (intD n) = 0)) := by
  unfold bkB at h
  rw [Bool.and_eq_true, Bool.and_eq_true] at h
  obtain ⟨⟨h1, h2⟩, h3⟩ := h
  refine ⟨u_ofB h1, of_decide_eq_true h2, ?_⟩
  cases hd : (bkD f n).2 with
  | false => exact .inl rfl
  | true =>
    cases hy : (bkY f n).2 with
    | false => exact .inr (.inl ⟨rfl, rfl⟩)
    | true =>
      rw [hd, hy] at h3
      simp only [Bool.and_self, Bool.not_true, Bool.false_or, Bool.and_eq_true, decide_eq_true_eq] at h3
      exact .inr (.inr ⟨rfl, rfl, u_ofB h3.1.1.1, h3.1.1.2, h3.1.2, h3.2⟩)
end Go.Proofs.YtoefhlapfnjbjaaGreatDoor

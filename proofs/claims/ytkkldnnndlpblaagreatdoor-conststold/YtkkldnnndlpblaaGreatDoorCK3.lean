/- The constants' enclosures lie in one another where they have far more bits. -/
import Derived.Test.YtkkldnnndlpblaaGreatDoorCK1
namespace Go.Proofs.YtkkldnnndlpblaaGreatDoor
namespace Ck

theorem d_nest (k w d : Nat) (h : base k = true) (hw : 40 ≤ w) (hd : 16 ≤ d) (hl : w + d ≤ 8500) : 2 ^ d * dLo k w ≤ dLo k (w + d) ∧ dHi k (w + d) ≤ 2 ^ d * dHi k w := by
  obtain ⟨_, _, a1, a2⟩ := d_in k w d h hw
  have hU := cU_le k (w + d)
  have h3 : 2 ^ 16 ≤ 2 ^ d := Nat.pow_le_pow_right (by decide) hd
  have e : (2 : Nat) ^ 16 = 65536 := by decide
  rw [e] at h3
  have e1 : dLo k (w + d) = cM k (w + d) - cU k (w + d) := rfl
  have e2 : dHi k (w + d) = cM k (w + d) + cU k (w + d) := rfl
  rw [e1, e2]
  generalize 2 ^ d * dLo k w = g1 at *
  generalize 2 ^ d * dHi k w = g2 at *
  generalize 2 ^ d = P at *
  omega
theorem e_nest (k w d : Nat) (h : base (if ov k = 0 then k else ov k) = true) (hw : 40 ≤ w) (hd : 16 ≤ d) (hl : w + d ≤ 8500) : 2 ^ d * eLo k w ≤ eLo k (w + d) ∧ eHi k (w + d) ≤ 2 ^ d * eHi k w := by
  unfold eLo eHi
  by_cases h0 : ov k = 0
  · rw [if_pos h0] at h
    rw [if_pos h0, if_pos h0, if_pos h0, if_pos h0]
    exact d_nest k w d h hw hd hl
  · rw [if_neg h0] at h
    rw [if_neg h0, if_neg h0, if_neg h0, if_neg h0]
    obtain ⟨n1, n2⟩ := d_nest (ov k) w d h hw hd hl
    have p1 := (lo_pos (ov k) w h hw).1
    have q1 : 0 < 2 ^ (w - 3) := Nat.pow_pos (by decide)
    have p2 := (lo_pos (ov k) (w + d) h (by omega)).1
    have q2 : 0 < 2 ^ (w + d - 3) := Nat.pow_pos (by decide)
    generalize ov k = j at *
    have hl0 : 0 < dLo j w := by omega
    have hl1 : 0 < dLo j (w + d) := by omega
    have hh0 : 0 < dHi j w := by unfold dLo dHi at *; omega
    have hh1 : 0 < dHi j (w + d) := by unfold dLo dHi at *; omega
    have P0 : 0 < 2 ^ d := Nat.pow_pos (by decide)
    have e : 2 ^ (2 * (w + d)) = 2 ^ d * (2 ^ d * 2 ^ (2 * w)) := by rw [← Nat.pow_add, ← Nat.pow_add]; congr 1; omega
    rw [e]
    generalize 2 ^ (2 * w) = X at *
    generalize 2 ^ d = P at *
    constructor
    · rw [Nat.le_div_iff_mul_le hh1]
      calc P * (X / dHi j w) * dHi j (w + d) ≤ P * (X / dHi j w) * (P * dHi j w) := Nat.mul_le_mul_left _ n2
        _ = P * (P * (X / dHi j w * dHi j w)) := by rw [Nat.mul_assoc, Nat.mul_left_comm (X / dHi j w)]
        _ ≤ P * (P * X) := Nat.mul_le_mul_left _ (Nat.mul_le_mul_left _ (Nat.div_mul_le_self _ _))
    · have h1 : P * (P * X) / dLo j (w + d) ≤ P * X / dLo j w := by
        calc P * (P * X) / dLo j (w + d) ≤ P * (P * X) / (P * dLo j w) := Nat.div_le_div_left n1 (Nat.mul_pos P0 hl0)
          _ = P * X / dLo j w := Nat.mul_div_mul_left _ _ P0
      have h2 : P * X / dLo j w + 1 ≤ P * (X / dLo j w) + P := ((floor_two X (dLo j w) P hl0).resolve_right (by omega)).2
      rw [Nat.mul_add, Nat.mul_one]
      omega
theorem told_nest (k w d F q : Nat) (h : base (if ov k = 0 then k else ov k) = true) (hw : 40 ≤ w) (hd : 16 ≤ d) (hl : w + d ≤ 8500) (hle : eLo k (w + d) ≤ eHi k (w + d)) (h1 : eLo k w * F / 2 ^ w = q) (h2 : eHi k w * F / 2 ^ w = q) : eLo k (w + d) * F / 2 ^ (w + d) = q ∧ eHi k (w + d) * F / 2 ^ (w + d) = q := by
  obtain ⟨n1, n2⟩ := e_nest k w d h hw hd hl
  have P0 : 0 < 2 ^ d := Nat.pow_pos (by decide)
  have Q0 : 0 < 2 ^ (w + d) := Nat.pow_pos (by decide)
  have a1 : q ≤ eLo k (w + d) * F / 2 ^ (w + d) := by
    rw [← h1, ← Nat.mul_div_mul_left _ _ P0, ← Nat.pow_add, Nat.add_comm d w, ← Nat.mul_assoc]
    exact Nat.div_le_div_right (Nat.mul_le_mul_right _ n1)
  have a2 : eHi k (w + d) * F / 2 ^ (w + d) ≤ q := by
    have e := Nat.mul_div_mul_left (eHi k w * F) (2 ^ w) P0
    rw [← Nat.pow_add, Nat.add_comm d w, ← Nat.mul_assoc] at e
    rw [← h2, ← e]
    exact Nat.div_le_div_right (Nat.mul_le_mul_right _ n2)
  have a3 : eLo k (w + d) * F / 2 ^ (w + d) ≤ eHi k (w + d) * F / 2 ^ (w + d) := Nat.div_le_div_right (Nat.mul_le_mul_right _ hle)
  omega
end Ck
end Go.Proofs.YtkkldnnndlpblaaGreatDoor

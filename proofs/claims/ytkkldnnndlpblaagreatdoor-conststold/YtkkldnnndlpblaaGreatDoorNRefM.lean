/- The walks of the document's products. -/
import Derived.Test.YtkkldnnndlpblaaGreatDoorTMC
import Derived.Test.YtkkldnnndlpblaaGreatDoorTMG
namespace Go.Proofs.YtkkldnnndlpblaaGreatDoor
open Go.RowKit

theorem half_parts (x y : Nat) : x * y = (x / 4294967296) * (y / 4294967296) * 18446744073709551616 + (x % 4294967296) * (y / 4294967296) * 4294967296 + (x / 4294967296) * (y % 4294967296) * 4294967296 + (x % 4294967296) * (y % 4294967296) := by
  have hx := Nat.div_add_mod x 4294967296
  have hy := Nat.div_add_mod y 4294967296
  conv => lhs; rw [← hx, ← hy]
  rw [Nat.add_mul, Nat.mul_add, Nat.mul_add]
  generalize x / 4294967296 = b
  generalize x % 4294967296 = a
  generalize y / 4294967296 = d
  generalize y % 4294967296 = c
  have e1 : 4294967296 * b * (4294967296 * d) = b * d * 18446744073709551616 := by rw [Nat.mul_mul_mul_comm, Nat.mul_comm (4294967296 * 4294967296)]
  have e2 : 4294967296 * b * c = b * c * 4294967296 := by rw [Nat.mul_assoc, Nat.mul_comm]
  have e3 : a * (4294967296 * d) = a * d * 4294967296 := by rw [Nat.mul_left_comm, Nat.mul_comm]
  rw [e1, e2, e3]; omega
theorem half_le (a c : Nat) (ha : a < 4294967296) (hc : c < 4294967296) : a * c ≤ 18446744065119617025 := by
  have := Nat.mul_le_mul (show a ≤ 4294967295 by omega) (show c ≤ 4294967295 by omega)
  omega

set_option maxRecDepth 100000 in
set_option maxHeartbeats 1000000 in
theorem nTimes_calls (x y : Nat) (w : World) (hx : x < 18446744073709551616) (hy : y < 18446744073709551616) :
    Calls Tryz.prog 97 #[.int .u64 (x : Int), .int .u64 (y : Int)] w fun e w' => e = .returned (.tuple #[.int .u64 (mL x y : Nat), .int .u64 (mH x y : Nat)]) ∧ w' = w := by
  have hxy := half_parts x y
  obtain ⟨a, ha⟩ : ∃ a, a = x % 4294967296 := ⟨_, rfl⟩
  obtain ⟨b, hb⟩ : ∃ b, b = x / 4294967296 := ⟨_, rfl⟩
  obtain ⟨c, hc⟩ : ∃ c, c = y % 4294967296 := ⟨_, rfl⟩
  obtain ⟨d, hd⟩ : ∃ d, d = y / 4294967296 := ⟨_, rfl⟩
  rw [← ha, ← hb, ← hc, ← hd] at hxy
  have r1 : (x : Int) % 4294967296 = (a : Int) := by omega
  have r2 : (x : Int) / 4294967296 = (b : Int) := by omega
  have r3 : (y : Int) % 4294967296 = (c : Int) := by omega
  have r4 : (y : Int) / 4294967296 = (d : Int) := by omega
  have l1 := half_le a c (by omega) (by omega)
  have l2 := half_le b c (by omega) (by omega)
  have l3 := half_le a d (by omega) (by omega)
  have l4 := half_le b d (by omega) (by omega)
  have r5 : IntKind.u64.wrap ((a : Int) * (c : Int)) = ((a * c : Nat) : Int) := by rw [mul_words a c (by omega)]
  have r6 : IntKind.u64.wrap ((b : Int) * (c : Int)) = ((b * c : Nat) : Int) := by rw [mul_words b c (by omega)]
  have r7 : IntKind.u64.wrap ((a : Int) * (d : Int)) = ((a * d : Nat) : Int) := by rw [mul_words a d (by omega)]
  have r8 : IntKind.u64.wrap ((b : Int) * (d : Int)) = ((b * d : Nat) : Int) := by rw [mul_words b d (by omega)]
  clear ha hb hc hd
  generalize a * c = p at *
  generalize b * c = q at *
  generalize a * d = s at *
  generalize b * d = t at *
  obtain ⟨md, hmd⟩ : ∃ m, m = q + p / 4294967296 := ⟨_, rfl⟩
  obtain ⟨o, ho⟩ : ∃ o, o = s + md % 4294967296 := ⟨_, rfl⟩
  have HL : Hid (p % 4294967296 + o % 4294967296 * 4294967296 = mL x y) := by rw [Hid, mL, hxy]; omega
  have HH : Hid (t + md / 4294967296 + o / 4294967296 = mH x y) := by rw [Hid, mH, hxy]; omega
  obtain ⟨pi, hpi⟩ : ∃ v : Int, v = (p : Int) := ⟨_, rfl⟩
  obtain ⟨qi, hqi⟩ : ∃ v : Int, v = (q : Int) := ⟨_, rfl⟩
  obtain ⟨si, hsi⟩ : ∃ v : Int, v = (s : Int) := ⟨_, rfl⟩
  obtain ⟨ti, hti⟩ : ∃ v : Int, v = (t : Int) := ⟨_, rfl⟩
  rw [← hpi] at r5
  rw [← hqi] at r6
  rw [← hsi] at r7
  rw [← hti] at r8
  have b1 : 0 ≤ pi ∧ pi ≤ 18446744065119617025 := by omega
  have b2 : 0 ≤ qi ∧ qi ≤ 18446744065119617025 := by omega
  have b3 : 0 ≤ si ∧ si ≤ 18446744065119617025 := by omega
  have b4 : 0 ≤ ti ∧ ti ≤ 18446744065119617025 := by omega
  have HI : Hid (pi = (p : Int) ∧ qi = (q : Int) ∧ si = (s : Int) ∧ ti = (t : Int) ∧ md = q + p / 4294967296 ∧ o = s + md % 4294967296) := ⟨hpi, hqi, hsi, hti, hmd, ho⟩
  have HB : Hid (t + md / 4294967296 + o / 4294967296 < 18446744073709551616) := by rw [HH.out]; exact mH_lt x y hx hy
  clear hpi hqi hsi hti hmd ho hxy l1 l2 l3 l4
  go_enter Tryz.func97, Tryz.ntmps97
  go_wp2_with fail
  go_ret2
  have hI := HI.out
  have h1 := HL.out
  have h2 := HH.out
  have h3 := HB.out
  refine ⟨nret_two ?_ ?_, rfl⟩
  · (try simp only [IntKind.wrap_u64]); omega
  · (try simp only [IntKind.wrap_u64]); omega
end Go.Proofs.YtkkldnnndlpblaaGreatDoor

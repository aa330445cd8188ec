/- EftOrder: moderate floats from below; a float as a dyadic number; the product. -/
import Derived.Test.YtjapgogiaklodaaGreatDoorTME
import Derived.Test.YtjapgogiaklodaaGreatDoorHFB
import Derived.Test.YtjapgogiaklodaaGreatDoorRDX
import Derived.Test.YtjapgogiaklodaaGreatDoorRD16
import Derived.Test.YtjapgogiaklodaaGreatDoorRD18
namespace Go.Proofs.YtjapgogiaklodaaGreatDoor
open Go.RowKit

namespace Fp
open EP
set_option maxHeartbeats 1000000 in
theorem moderate2_calls (a : Nat) (w : World) :
    Calls Tryz.prog 22 #[.float .f64 a] w fun e w' => ∃ b, e = .returned (.bool b) ∧ Dr w w' ∧ (b = true → bd a 1475 ∧ ∃ A i, Nm a A i) := by
  have r2 := run_sub Tryz.prog
  cases hz : isZ a with
  | true =>
    have hz' : (FloatKind.f64.format.order a 0 == some .eq) = true := hz
    have HB : Hid (bd a 1475 ∧ ∃ A i, Nm a A i) := by
      obtain ⟨h1, h2⟩ := zero_V a hz
      exact ⟨⟨h1, by rw [h2]; exact Nat.zero_le _⟩, norm_of a 674 rfl h1 (.inl h2)⟩
    clear hz
    go_enter Tryz.func22, Tryz.ntmps22
    go_wp2_with fail
    go_ret
    exact ⟨_, rfl, Dr.refl _, fun _ => HB.out⟩
  | false =>
    have hz' : (FloatKind.f64.format.order a 0 == some .eq) = false := hz
    clear hz
    by_cases hl : Ieee.double.order a 0 = some .lt
    · have hl' : (FloatKind.f64.format.order a 0 == some .lt) = true := by rw [show FloatKind.f64.format.order a 0 = some .lt from hl]; rfl
      have HL : Hid (Ieee.double.order a 0 = some .lt) := hl
      clear hl
      go_enter Tryz.func22, Tryz.ntmps22
      go_wp2_with fail
      all_goals go_ret
      · exact ⟨inB (fv .sub 0 a w), rfl, fw_dr _ _ _ _, fun h => by
          have hb := neg_in a w HL.out h
          exact ⟨hb, norm_of a 674 rfl hb.1 (.inr (neg_lo a 674 w rfl hb h))⟩⟩
      · skip
        exact ⟨_, rfl, fw_dr _ _ _ _, fun h => by simp at h⟩
    · have hl' : (FloatKind.f64.format.order a 0 == some .lt) = false := beq_eq_false_iff_ne.2 hl
      clear hl
      go_enter Tryz.func22, Tryz.ntmps22
      go_wp2_with fail
      all_goals go_ret
      · exact ⟨inB a, rfl, Dr.refl _, fun h => by
          have hb := in_bd a h
          exact ⟨hb.mono (by decide), norm_of a 674 rfl hb.1 (.inr (in_lo a 674 rfl h))⟩⟩
      · skip
        exact ⟨_, rfl, Dr.refl _, fun h => by simp at h⟩
end Fp

theorem u_nat {x : Nat} (h : x < 18446744073709551616) : U (x : Int) := by unfold U; omega
theorem fr_sz (x : Int) : blen (fromP x).2.1 ≤ 53 ∧ -10000000 ≤ (fromP x).2.2 ∧ (fromP x).2.2 ≤ 10000000 := by
  unfold fromP
  split
  · unfold fromD
    have h1 := frac_bd x
    have h2 := exp_bd x
    have hc : blen (countV x).toNat ≤ 53 := (blen_le _ 53).2 (by unfold countV; split <;> omega)
    have hu : -1074 ≤ unitV x ∧ unitV x ≤ 972 := by unfold unitV; split <;> omega
    refine ⟨Nat.le_trans (blen_mono (form_amount_le _ _ _)) hc, ?_⟩
    by_cases h0 : (countV x).toNat = 0
    · rw [h0, form_zero]; exact ⟨by decide, by decide⟩
    · rw [form_pos _ h0]
      have := tz_le_blen (countV x).toNat
      constructor
      · show _ ≤ unitV x + (tz (countV x).toNat : Int); omega
      · show unitV x + (tz (countV x).toNat : Int) ≤ _; omega
  · exact ⟨by decide, by decide, by decide⟩
theorem len_of_blen {n k : Nat} (h : blen n ≤ 64 * k) : (wordsOf n).length ≤ k := (words_len2 _ _).2 h

theorem nbits_run (x : Nat) (w : World) : (callFunc 25 #[.float .f64 x]).run Tryz.prog w = .ok (.value (.int .u64 (x : Int))) w := Fp.abits_run x w

theorem le_hid {a b c : Nat} (h : Hid (a ≤ b)) (k : b ≤ c) : Hid (a ≤ c) := Nat.le_trans h k

end Go.Proofs.YtjapgogiaklodaaGreatDoor

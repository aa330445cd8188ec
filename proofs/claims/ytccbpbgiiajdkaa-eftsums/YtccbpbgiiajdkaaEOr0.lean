/- EftOrder: moderate floats from below; a float as a dyadic number; the product. -/
import Derived.Test.YtccbpbgiiajdkaaTME
import Derived.Test.YtccbpbgiiajdkaaHFB
import Derived.Test.YtccbpbgiiajdkaaRD6
import Derived.Test.YtccbpbgiiajdkaaRD16
import Derived.Test.YtccbpbgiiajdkaaRD18
namespace Go.Proofs.Ytccbpbgiiajdkaa
open Go.RowKit

namespace Fp
open EP
set_option maxHeartbeats 1000000 in
theorem moderate2_calls (a : Nat) (w : World) :
    Calls Try.prog 6 #[.float .f64 a] w fun e w' => ∃ b, e = .returned (.bool b) ∧ Dr w w' ∧ (b = true → bd a 1475 ∧ ∃ A i, Nm a A i) := by
  have r2 := run_sub Try.prog
  cases hz : isZ a with
  | true =>
    have hz' : (FloatKind.f64.format.order a 0 == some .eq) = true := hz
    have HB : Hid (bd a 1475 ∧ ∃ A i, Nm a A i) := by
      obtain ⟨h1, h2⟩ := zero_V a hz
      exact ⟨⟨h1, by rw [h2]; exact Nat.zero_le _⟩, norm_of a 674 rfl h1 (.inl h2)⟩
    clear hz
    go_enter Try.func6, Try.ntmps6
    go_wp2_with fail
    go_ret
    exact ⟨_, rfl, Dr.refl _, fun _ => HB.out⟩
  | false =>
    have hz' : (FloatKind.f64.format.order a 0 == some .eq) = false := hz
    clear hz
    by_cases hl : Ieee.double.order a 0 = some .lt
    · have hl' : (FloatKind.f64.format.order a 0 == some .lt) = true := by rw [show FloatKind.f64.format.order a 0 = some .lt from hl]; rfl
      have HL : Hid (Ieee.double.order a 0 = some .lt) := hl
      clear hl
      go_enter Try.func6, Try.ntmps6
      go_wp2_with fail
      all_goals go_ret
      · exact ⟨inB (fv .sub 0 a w), rfl, fw_dr _ _ _ _, fun h => by
          have hb := neg_in a w HL.out h
          exact ⟨hb, norm_of a 674 rfl hb.1 (.inr (neg_lo a 674 w rfl hb h))⟩⟩
      · skip
        exact ⟨_, rfl, fw_dr _ _ _ _, fun h => by simp at h⟩
    · have hl' : (FloatKind.f64.format.order a 0 == some .lt) = false := beq_eq_false_iff_ne.2 hl
      clear hl
      go_enter Try.func6, Try.ntmps6
      go_wp2_with fail
      all_goals go_ret
      · exact ⟨inB a, rfl, Dr.refl _, fun h => by
          have hb := in_bd a h
          exact ⟨hb.mono (by decide), norm_of a 674 rfl hb.1 (.inr (in_lo a 674 rfl h))⟩⟩
      · skip
        exact ⟨_, rfl, Dr.refl _, fun h => by simp at h⟩
end Fp

theorem u_nat {x : Nat} (h : x < 18446744073709551616) : U (x : Int) := by unfold U; omega
theorem fr_sz (x : Int) : blen (fromP x).2.1 ≤ 53 ∧ -10000000 ≤ (fromP x).2.2 ∧ (fromP x).2.2 ≤ 10000000 := by
  unfold fromP
  split
  · unfold fromD
    have h1 := frac_bd x
    have h2 := exp_bd x
    have hc : blen (countV x).toNat ≤ 53 := (blen_le _ 53).2 (by unfold countV; split <;> omega)
    have hu : -1074 ≤ unitV x ∧ unitV x ≤ 972 := by unfold unitV; split <;> omega
    refine ⟨Nat.le_trans (blen_mono (form_amount_le _ _ _)) hc, ?_⟩
    by_cases h0 : (countV x).toNat = 0
    · rw [h0, form_zero]; exact ⟨by decide, by decide⟩
    · rw [form_pos _ h0]
      have := tz_le_blen (countV x).toNat
      constructor
      · show _ ≤ unitV x + (tz (countV x).toNat : Int); omega
      · show unitV x + (tz (countV x).toNat : Int) ≤ _; omega
  · exact ⟨by decide, by decide, by decide⟩
theorem len_of_blen {n k : Nat} (h : blen n ≤ 64 * k) : (wordsOf n).length ≤ k := (words_len2 _ _).2 h

theorem nbits_run (x : Nat) (w : World) : (callFunc 31 #[.float .f64 x]).run Try.prog w = .ok (.value (.int .u64 (x : Int))) w := Fp.abits_run x w

theorem le_hid {a b c : Nat} (h : Hid (a ≤ b)) (k : b ≤ c) : Hid (a ≤ c) := Nat.le_trans h k

set_option maxRecDepth 100000 in
set_option maxHeartbeats 2000000 in
theorem number_calls (x : Nat) (w : World) (hx : x < 18446744073709551616) :
    Calls Try.prog 13 #[.float .f64 x] w fun r w' => ∃ v', r = .returned v' ∧ DyQ w.heap.size w' v' (fromP (x : Int)) ∧ Below w.heap.size w w' := by
  have HF : Hid _ := fun w => qfrom_calls (x : Int) w (u_nat hx)
  have r1 := fun w => nbits_run x w
  clear hx
  have bw : Below w.heap.size w (w.alloc (.cells #[.bool false, .slice none 0 0, .int .i64 0] 32)) := below_one _ _
  have z0 : (w.alloc (.cells #[.bool false, .slice none 0 0, .int .i64 0] 32)).cell? ⟨w.heap.size, 0, none⟩ = some (.bool false) := by go_simp
  have z1 : (w.alloc (.cells #[.bool false, .slice none 0 0, .int .i64 0] 32)).cell? ⟨w.heap.size, 1, none⟩ = some (.slice none 0 0) := by go_simp
  have z2 : (w.alloc (.cells #[.bool false, .slice none 0 0, .int .i64 0] 32)).cell? ⟨w.heap.size, 2, none⟩ = some (.int .i64 0) := by go_simp
  have f0 : (w.alloc (.cells #[.bool false, .slice none 0 0, .int .i64 0] 32)).frozen? ⟨w.heap.size, 0, none⟩ = false := by go_simp
  have f1 : (w.alloc (.cells #[.bool false, .slice none 0 0, .int .i64 0] 32)).frozen? ⟨w.heap.size, 1, none⟩ = false := by go_simp
  have f2 : (w.alloc (.cells #[.bool false, .slice none 0 0, .int .i64 0] 32)).frozen? ⟨w.heap.size, 2, none⟩ = false := by go_simp
  have hs : Hid (w.heap.size + 1 ≤ (w.alloc (.cells #[.bool false, .slice none 0 0, .int .i64 0] 32)).heap.size) := by show w.heap.size + 1 ≤ _; simp
  go_enter Try.func13, Try.ntmps13
  go_wp2_with fail
  generalize (w.alloc (.cells #[.bool false, .slice none 0 0, .int .i64 0] 32)) = w0 at *
  refine Calls.mono (HF.out _) ?_
  rintro r w2 ⟨_, rfl, ⟨ah, nah, cah, rfl, HN, hO⟩, bN⟩
  replace f0 := dcarry_frozen bN z0 f0
  replace f1 := dcarry_frozen bN z1 f1
  replace f2 := dcarry_frozen bN z2 f2
  replace z0 := dcarry_cell bN z0
  replace z1 := dcarry_cell bN z1
  replace z2 := dcarry_cell bN z2
  replace bw := nbelow_trans bw bN
  replace hO := hO.low hs.out
  replace hs := le_hid hs bN.size
  clear bN
  have bA := below_one w2 (.cells #[.bool (fromP (x : Int)).1, .slice ah nah cah, .int .i64 (fromP (x : Int)).2.2] 32)
  replace f0 := dcarry_frozen bA z0 f0
  replace f1 := dcarry_frozen bA z1 f1
  replace f2 := dcarry_frozen bA z2 f2
  replace z0 := dcarry_cell bA z0
  replace z1 := dcarry_cell bA z1
  replace z2 := dcarry_cell bA z2
  replace bw := nbelow_trans bw bA
  replace hs := le_hid hs bA.size
  replace hO := hO.keep bA
  have h0 : (w2.alloc (.cells #[.bool (fromP (x : Int)).1, .slice ah nah cah, .int .i64 (fromP (x : Int)).2.2] 32)).cell? ⟨w2.heap.size, 0, none⟩ = some (.bool (fromP (x : Int)).1) := by go_simp
  have h1 : (w2.alloc (.cells #[.bool (fromP (x : Int)).1, .slice ah nah cah, .int .i64 (fromP (x : Int)).2.2] 32)).cell? ⟨w2.heap.size, 1, none⟩ = some (.slice ah nah cah) := by go_simp
  have h2 : (w2.alloc (.cells #[.bool (fromP (x : Int)).1, .slice ah nah cah, .int .i64 (fromP (x : Int)).2.2] 32)).cell? ⟨w2.heap.size, 2, none⟩ = some (.int .i64 (fromP (x : Int)).2.2) := by go_simp
  clear bA
  go_wp2_with fail
  generalize (w2.alloc (.cells #[.bool (fromP (x : Int)).1, .slice ah nah cah, .int .i64 (fromP (x : Int)).2.2] 32)) = w3 at *
  refine bodyPost_ret (v := dyV (fromP (x : Int)).1 ah nah cah (fromP (x : Int)).2.2) (by simp [results, Try.results13, go_sem, z0, z1, z2]) rfl ⟨_, rfl, ⟨ah, nah, cah, rfl, HN, (((hO.far _ _ (by show w.heap.size < _; omega)).far _ _ (by show w.heap.size < _; omega)).far _ _ (by show w.heap.size < _; omega)).low (by omega)⟩, ?_⟩
  repeat (first | exact bw | refine Below.setCell ?_ (by simp) _)
end Go.Proofs.Ytccbpbgiiajdkaa

/- The walk of math/bits.Div64: a quotient of two words by one. -/
import Derived.Test.YtfmjgagajlhfoaaDoorNDivP
import Derived.Test.YtfmjgagajlhfoaaDoorNShelf
import Derived.Test.YtfmjgagajlhfoaaDoorBWalks
import Derived.Test.YtfmjgagajlhfoaaDoorNRef
import Derived.BigRegion
namespace Go.Proofs.YtfmjgagajlhfoaaDoor
open Go.RowKit

theorem nret_two {k l : IntKind} {a b c d : Int} (h : a = b) (h' : c = d) : Ending.returned (.tuple #[.int k a, .int l c]) = .returned (.tuple #[.int k b, .int l d]) := by rw [h, h']

set_option maxRecDepth 100000 in
set_option maxHeartbeats 1000000 in
theorem div64_low (lo y : Nat) (w : World) (hl : lo < 18446744073709551616) (hy : y < 18446744073709551616) (h0 : 0 < y) :
    Calls Tryd.prog 65 #[.int .u64 0, .int .u64 (lo : Int), .int .u64 (y : Int)] w fun e w' => e = .returned (.tuple #[.int .u64 ((lo / y : Nat) : Int), .int .u64 ((lo % y : Nat) : Int)]) ∧ Below w.heap.size w w' := by
  have d0 : ((y : Int) == 0) = false := by simp; omega
  have hq : lo / y ≤ lo := Nat.div_le_self _ _
  have HQ : Hid (IntKind.u64.wrap ((lo : Int) / y) = ((lo / y : Nat) : Int)) := by
    rw [Hid, ← Int.natCast_ediv, wrap_small _ (by omega)]
  clear hq
  go_enter Tryd.func65, Tryd.ntmps65
  go_wp2_with fail
  go_quiet (fail)
  go_wp2_with fail
  go_ret2
  exact ⟨nret_two HQ.out (by rw [Int.natCast_emod]), below_drewN (Below.refl _ _) _⟩

set_option maxRecDepth 100000 in
set_option maxHeartbeats 8000000 in
theorem div64_high (hi lo y : Nat) (w : World) (hh : 0 < hi) (hl : lo < 18446744073709551616) (hy : y < 18446744073709551616) (h0 : hi < y) :
    Calls Tryd.prog 65 #[.int .u64 (hi : Int), .int .u64 (lo : Int), .int .u64 (y : Int)] w fun e w' => e = .returned (.tuple #[.int .u64 (((hi * 18446744073709551616 + lo) / y : Nat) : Int), .int .u64 (((hi * 18446744073709551616 + lo) % y : Nat) : Int)]) ∧ Below w.heap.size w w' := by
  have d0 : ((y : Int) == 0) = false := by simp; omega
  have d1 : ((hi : Int) == 0) = false := by simp; omega
  have HC := Tryd.bits_LeadingZeros64 (y : Int) w (by omega) (by omega)
  obtain ⟨s, hs, es, hY0, hY1⟩ := lead_shift y (by omega) hy
  rw [Int.toNat_natCast, es] at HC
  obtain ⟨Y, U, V, y1, y0, v1, v0, e1, e2, e3, e4, e5, e6, e7, hY, hy0, hy1, hy2, hv1, hv0, hU, hYy, hUV⟩ := div64_parts hi lo y s hl h0 hs hY0 hY1
  have hYl : Y < 18446744073709551616 := by rw [hYy]; exact hY1
  obtain ⟨q, r, e8, e9, hr, hG⟩ := digit_parts U v1 y1 y0 (by omega) hy0 hy1 hy2 hv1 (by rw [← hY]; exact hU)
  have HY : Hid (Y = y1 * 4294967296 + y0) := hY
  have HYy : Hid (Y = y * 2 ^ s) := hYy
  have HUV : Hid _ := hUV
  have HG : Hid _ := hG
  have HUY : Hid (U < Y) := hU
  have hq3 : q ≤ 4294967297 := hG.2.2
  have HB : Hid (y0 < 4294967296 ∧ 2147483648 ≤ y1 ∧ y1 < 4294967296 ∧ v1 < 4294967296 ∧ v0 < 4294967296 ∧ Y < 18446744073709551616 ∧ r < 4294967296) := ⟨hy0, hy1, hy2, hv1, hv0, hYl, hr⟩
  obtain ⟨Yi, hYi⟩ : ∃ x : Int, x = (Y : Int) := ⟨_, rfl⟩
  rw [← hYi] at e1 e4 e5
  obtain ⟨Ui, hUi⟩ : ∃ x : Int, x = (U : Int) := ⟨_, rfl⟩
  rw [← hUi] at e2 e8 e9
  obtain ⟨Vi, hVi⟩ : ∃ x : Int, x = (V : Int) := ⟨_, rfl⟩
  rw [← hVi] at e3 e6 e7
  obtain ⟨y1i, hy1i⟩ : ∃ x : Int, x = (y1 : Int) := ⟨_, rfl⟩
  rw [← hy1i] at e4 e8 e9
  obtain ⟨y0i, hy0i⟩ : ∃ x : Int, x = (y0 : Int) := ⟨_, rfl⟩
  rw [← hy0i] at e5
  obtain ⟨v1i, hv1i⟩ : ∃ x : Int, x = (v1 : Int) := ⟨_, rfl⟩
  rw [← hv1i] at e6
  obtain ⟨v0i, hv0i⟩ : ∃ x : Int, x = (v0 : Int) := ⟨_, rfl⟩
  rw [← hv0i] at e7
  obtain ⟨qi, hqi⟩ : ∃ x : Int, x = (q : Int) := ⟨_, rfl⟩
  rw [← hqi] at e8 e9
  obtain ⟨ri, hri⟩ : ∃ x : Int, x = (r : Int) := ⟨_, rfl⟩
  rw [← hri] at e9
  have bY : 9223372036854775808 ≤ Yi ∧ Yi ≤ 18446744073709551615 := by omega
  have bU : 0 ≤ Ui ∧ Ui ≤ 18446744073709551615 := by omega
  have by1 : 2147483648 ≤ y1i ∧ y1i ≤ 4294967295 := by omega
  have by0 : 0 ≤ y0i ∧ y0i ≤ 4294967295 := by omega
  have bv1 : 0 ≤ v1i ∧ v1i ≤ 4294967295 := by omega
  have bv0 : 0 ≤ v0i ∧ v0i ≤ 4294967295 := by omega
  have bV : 0 ≤ Vi ∧ Vi ≤ 18446744073709551615 := by omega
  have bq : 0 ≤ qi ∧ qi ≤ 4294967297 := by omega
  have br : 0 ≤ ri ∧ ri ≤ 4294967295 := by omega
  have HI : Hid (Yi = (Y : Int) ∧ Ui = (U : Int) ∧ y1i = (y1 : Int) ∧ y0i = (y0 : Int) ∧ v1i = (v1 : Int) ∧ v0i = (v0 : Int)) := ⟨hYi, hUi, hy1i, hy0i, hv1i, hv0i⟩
  have HQ0 : Hid (qi = (q : Int) ∧ ri = (r : Int)) := ⟨hqi, hri⟩
  have hnz : (y1i == 0) = false := by simp; omega
  clear es hY hYy hUV hG hU hY0 hY1 hYi hUi hVi hy1i hy0i hv1i hv0i hqi hri hy0 hy1 hy2 hv1 hv0 hYl hr hq3
  go_enter Tryd.func65, Tryd.ntmps65
  go_wp2_with fail
  refine Calls.mono HC ?_
  rintro e w ⟨rfl, rfl⟩
  clear HC
  go_wp2_with fail
  have E8 : Hid (Ui / y1i = qi) := e8
  clear e1 e2 e3 e4 e5 e6 e7 e8 e9 bV
  go_loop [15, 16] (fun vq vr => ∃ (qi ri : Int) (q r : Nat), vq = .int .u64 qi ∧ vr = .int .u64 ri ∧ Hid (qi = (q : Int) ∧ ri = (r : Int)) ∧ (0 ≤ qi ∧ qi ≤ 4294967297) ∧ (0 ≤ ri ∧ ri ≤ 4294967295) ∧ Hid (Guess U v1 y1 y0 q r)) (fun vq _ => (intOf vq).toNat)
  case atStart => exact ⟨qi, ri, _, _, (by first | rfl | rw [E8.out]), rfl, HQ0, bq, br, HG⟩
  case round =>
    clear bq br HQ0 HG E8
    obtain ⟨qi, ri, q, r, rfl, rfl, HQR, bq, br, HG⟩ := hrel
    obtain ⟨p, hpe⟩ : ∃ p : Nat, p = q * y0 := ⟨_, rfl⟩
    obtain ⟨pi, hpi⟩ : ∃ x : Int, x = (p : Int) := ⟨_, rfl⟩
    have hp : p ≤ 18446744073709551615 := by
      have h1 := HQR.out; have h2 := HB.out
      rw [hpe]; exact Nat.le_trans (Nat.mul_le_mul (show q ≤ 4294967297 by omega) (show y0 ≤ 4294967295 by omega)) (by decide)
    have e10 : IntKind.u64.wrap (qi * y0i) = pi := by rw [HQR.out.1, HI.out.2.2.2.1, hpi, mul_words q y0 (by omega), hpe]
    have bp : 0 ≤ pi ∧ pi ≤ 18446744073709551615 := by omega
    have HP : Hid (p = q * y0 ∧ pi = (p : Int)) := ⟨hpe, hpi⟩
    clear hpe hpi hp
    have HST : Hid (4294967296 ≤ qi ∨ 4294967296 * ri + v1i < pi → 1 ≤ q ∧ Guess U v1 y1 y0 (q - 1) (r + y1)) := fun hc => by
      have h1 := HQR.out; have h2 := HP.out; have h3 := HI.out; have h4 := HB.out
      exact guess_step U v1 y1 y0 q r (by omega) (by rw [← HY.out]; exact HUY.out) HG.out (by rw [← h2.1]; omega)
    by_cases hc : 4294967296 ≤ qi ∨ 4294967296 * ri + v1i < pi
    · obtain ⟨hq1, hG2⟩ := HST.out hc
      have HG2 : Hid (Guess U v1 y1 y0 (q - 1) (r + y1)) := hG2
      have hq1i : 1 ≤ qi := by have h1 := HQR.out; omega
      clear hG2 HST hq1
      by_cases hb : 4294967296 ≤ ri + y1i
      · have HQ2 : Hid (q - 1 = (U * 4294967296 + v1) / Y) := by
          have h1 := HQR.out; have h3 := HI.out; have h4 := HB.out
          rw [HY.out]; exact guess_break _ _ y1 y0 _ _ (by omega) (by omega) HG2.out (by omega) (by omega)
        obtain ⟨k1i, rfl⟩ : ∃ k, qi = k + 1 := ⟨qi - 1, by omega⟩
        obtain ⟨k1, rfl⟩ : ∃ k, q = k + 1 := ⟨q - 1, by have h1 := HQR.out; omega⟩
        have HK : Hid (k1i = (k1 : Int)) := by have h1 := HQR.out; rw [Hid]; omega
        have HQ2 : Hid (k1 = (U * 4294967296 + v1) / Y) := by have := HQ2.out; rwa [Nat.add_sub_cancel] at this
        clear HG HG2 HQR
        by_cases hq : 4294967296 ≤ k1i + 1
        · clear hc
          have hYp : 0 < Y := by have := HI.out; omega
          have hYl : Y < 18446744073709551616 := HB.out.2.2.2.2.2.1
          have hk1 : k1 < 4294967296 := by rw [HQ2.out, Nat.div_lt_iff_lt_mul hYp]; have h1 := HUY.out; have h2 := HB.out; omega
          have bk1 : 0 ≤ k1i ∧ k1i ≤ 4294967295 := by have := HK.out; omega
          have HQ1 : Hid (k1 = (U * 4294967296 + v1) / Y) := HQ2
          have HK1 : Hid (k1i = (k1 : Int)) := HK
          obtain ⟨R, hR⟩ : ∃ R : Nat, R = (U * 4294967296 + v1) % Y := ⟨_, rfl⟩
          obtain ⟨Ri, hRi⟩ : ∃ x : Int, x = (R : Int) := ⟨_, rfl⟩
          have hRY : R < Y := by rw [hR]; exact Nat.mod_lt _ hYp
          have e11 : IntKind.u64.wrap (IntKind.u64.wrap (IntKind.u64.wrap (Ui * 4294967296) + v1i) - IntKind.u64.wrap (k1i * Yi)) = Ri := by
            rw [hRi, hR, HK.out, HI.out.2.1, HI.out.2.2.2.2.1, HI.out.1]; exact digit_rest U v1 Y k1 hYp hYl HQ2.out
          have bR : 0 ≤ Ri ∧ Ri ≤ 18446744073709551615 := by omega
          have HR : Hid (R = (U * 4294967296 + v1) % Y ∧ Ri = (R : Int)) := ⟨hR, hRi⟩
          obtain ⟨q2, r2, e12, e13, hr2, hG3⟩ := digit_parts R v0 y1 y0 (by omega) HB.out.1 HB.out.2.1 HB.out.2.2.1 HB.out.2.2.2.2.1 (by rw [← HY.out]; exact hRY)
          obtain ⟨q2i, hq2i⟩ : ∃ x : Int, x = (q2 : Int) := ⟨_, rfl⟩
          obtain ⟨r2i, hr2i⟩ : ∃ x : Int, x = (r2 : Int) := ⟨_, rfl⟩
          rw [← hRi, ← HI.out.2.2.1, ← hq2i] at e12
          rw [← hRi, ← HI.out.2.2.1, ← hq2i, ← hr2i] at e13
          have bq2 : 0 ≤ q2i ∧ q2i ≤ 4294967297 := by have := hG3.2.2; omega
          have br2 : 0 ≤ r2i ∧ r2i ≤ 4294967295 := by omega
          have HQ3 : Hid (q2i = (q2 : Int) ∧ r2i = (r2 : Int)) := ⟨hq2i, hr2i⟩
          have HG3 : Hid (Guess R v0 y1 y0 q2 r2) := hG3
          have HRY : Hid (R < Y) := hRY
          have HYP : Hid (0 < Y ∧ Y < 18446744073709551616) := ⟨hYp, hYl⟩
          clear hG3 hRY hR hRi hq2i hr2i hr2 HQ2 HK hk1 hYp hYl
          go_wp2_with fail
          clear e10 HP bp
          go_loop [18, 16] (fun vq vr => ∃ (qi ri : Int) (q r : Nat), vq = .int .u64 qi ∧ vr = .int .u64 ri ∧ Hid (qi = (q : Int) ∧ ri = (r : Int)) ∧ (0 ≤ qi ∧ qi ≤ 4294967297) ∧ (0 ≤ ri ∧ ri ≤ 4294967295) ∧ Hid (Guess R v0 y1 y0 q r)) (fun vq _ => (intOf vq).toNat)
          case atStart => exact ⟨q2i, r2i, _, _, (by first | rfl | rw [e12]), rfl, HQ3, bq2, br2, HG3⟩
          case round =>
            clear e11 e12 e13 HG3 bq2 br2 HQ3
            obtain ⟨qi, ri, q, r, rfl, rfl, HQR, bq, br, HG⟩ := hrel
            obtain ⟨p, hpe⟩ : ∃ p : Nat, p = q * y0 := ⟨_, rfl⟩
            obtain ⟨pi, hpi⟩ : ∃ x : Int, x = (p : Int) := ⟨_, rfl⟩
            have hp : p ≤ 18446744073709551615 := by
              have h1 := HQR.out; have h2 := HB.out
              rw [hpe]; exact Nat.le_trans (Nat.mul_le_mul (show q ≤ 4294967297 by omega) (show y0 ≤ 4294967295 by omega)) (by decide)
            have e10 : IntKind.u64.wrap (qi * y0i) = pi := by rw [HQR.out.1, HI.out.2.2.2.1, hpi, mul_words q y0 (by omega), hpe]
            have bp : 0 ≤ pi ∧ pi ≤ 18446744073709551615 := by omega
            have HP : Hid (p = q * y0 ∧ pi = (p : Int)) := ⟨hpe, hpi⟩
            clear hpe hpi hp
            have HST : Hid (4294967296 ≤ qi ∨ 4294967296 * ri + v0i < pi → 1 ≤ q ∧ Guess R v0 y1 y0 (q - 1) (r + y1)) := fun hc => by
              have h1 := HQR.out; have h2 := HP.out; have h3 := HI.out; have h4 := HB.out
              exact guess_step R v0 y1 y0 q r (by omega) (by rw [← HY.out]; exact HRY.out) HG.out (by rw [← h2.1]; omega)
            by_cases hc : 4294967296 ≤ qi ∨ 4294967296 * ri + v0i < pi
            · obtain ⟨hq1, hG2⟩ := HST.out hc
              have HG2 : Hid (Guess R v0 y1 y0 (q - 1) (r + y1)) := hG2
              have hq1i : 1 ≤ qi := by have h1 := HQR.out; omega
              clear hG2 HST hq1
              by_cases hb : 4294967296 ≤ ri + y1i
              · have HQ2 : Hid (q - 1 = (R * 4294967296 + v0) / Y) := by
                  have h1 := HQR.out; have h3 := HI.out; have h4 := HB.out
                  rw [HY.out]; exact guess_break _ _ y1 y0 _ _ (by omega) (by omega) HG2.out (by omega) (by omega)
                obtain ⟨k2i, rfl⟩ : ∃ k, qi = k + 1 := ⟨qi - 1, by omega⟩
                obtain ⟨k2, rfl⟩ : ∃ k, q = k + 1 := ⟨q - 1, by have h1 := HQR.out; omega⟩
                have HK : Hid (k2i = (k2 : Int)) := by have h1 := HQR.out; rw [Hid]; omega
                have HQ2 : Hid (k2 = (R * 4294967296 + v0) / Y) := by have := HQ2.out; rwa [Nat.add_sub_cancel] at this
                clear HG HG2 HQR
                by_cases hq : 4294967296 ≤ k2i + 1
                · clear hc
                  have hk2 : k2 < 4294967296 := by rw [HQ2.out, Nat.div_lt_iff_lt_mul HYP.out.1]; have h1 := HRY.out; have h2 := HB.out; omega
                  have bk2 : 0 ≤ k2i ∧ k2i ≤ 4294967295 := by have := HK.out; omega
                  obtain ⟨T, hT⟩ : ∃ T : Nat, T = (R * 4294967296 + v0) % Y := ⟨_, rfl⟩
                  obtain ⟨Ti, hTi⟩ : ∃ x : Int, x = (T : Int) := ⟨_, rfl⟩
                  have e14 : IntKind.u64.wrap (IntKind.u64.wrap (IntKind.u64.wrap (Ri * 4294967296) + v0i) - IntKind.u64.wrap (k2i * Yi)) = Ti := by
                    rw [hTi, hT, HK.out, HR.out.2, HI.out.2.2.2.2.2, HI.out.1]; exact digit_rest R v0 Y k2 HYP.out.1 HYP.out.2 HQ2.out
                  have HT : Hid (T = (R * 4294967296 + v0) % Y ∧ Ti = (T : Int)) := ⟨hT, hTi⟩
                  have bT : 0 ≤ Ti := by omega
                  clear hT hTi hk2
                  go_wp2_with fail
                  go_ret2
                  obtain ⟨t1, t2⟩ := div64_end hi lo y s U v1 v0 Y k1 k2 (by omega) HYy.out HUV.out HQ1.out (by rw [← HR.out.1]; exact HQ2.out)
                  have t3 : T / 2 ^ s = (hi * 18446744073709551616 + lo) % y := by rw [← t2, ← HR.out.1, ← HT.out.1]
                  exact ⟨nret_two (by rw [HK1.out, HK.out]; exact end_quo _ _ _ _ _ t1) (by rw [HT.out.2, div_pow_cast]; exact end_rem _ _ _ _ t3), Below.refl _ _⟩
                · have hc2 : 4294967296 * ri + v0i < pi := by omega
                  clear hc
                  have hk2 : k2 < 4294967296 := by rw [HQ2.out, Nat.div_lt_iff_lt_mul HYP.out.1]; have h1 := HRY.out; have h2 := HB.out; omega
                  have bk2 : 0 ≤ k2i ∧ k2i ≤ 4294967295 := by have := HK.out; omega
                  obtain ⟨T, hT⟩ : ∃ T : Nat, T = (R * 4294967296 + v0) % Y := ⟨_, rfl⟩
                  obtain ⟨Ti, hTi⟩ : ∃ x : Int, x = (T : Int) := ⟨_, rfl⟩
                  have e14 : IntKind.u64.wrap (IntKind.u64.wrap (IntKind.u64.wrap (Ri * 4294967296) + v0i) - IntKind.u64.wrap (k2i * Yi)) = Ti := by
                    rw [hTi, hT, HK.out, HR.out.2, HI.out.2.2.2.2.2, HI.out.1]; exact digit_rest R v0 Y k2 HYP.out.1 HYP.out.2 HQ2.out
                  have HT : Hid (T = (R * 4294967296 + v0) % Y ∧ Ti = (T : Int)) := ⟨hT, hTi⟩
                  have bT : 0 ≤ Ti := by omega
                  clear hT hTi hk2
                  go_wp2_with fail
                  go_ret2
                  obtain ⟨t1, t2⟩ := div64_end hi lo y s U v1 v0 Y k1 k2 (by omega) HYy.out HUV.out HQ1.out (by rw [← HR.out.1]; exact HQ2.out)
                  have t3 : T / 2 ^ s = (hi * 18446744073709551616 + lo) % y := by rw [← t2, ← HR.out.1, ← HT.out.1]
                  exact ⟨nret_two (by rw [HK1.out, HK.out]; exact end_quo _ _ _ _ _ t1) (by rw [HT.out.2, div_pow_cast]; exact end_rem _ _ _ _ t3), Below.refl _ _⟩
              · have HNX : Hid (qi - 1 = ((q - 1 : Nat) : Int) ∧ ri + y1i = ((r + y1 : Nat) : Int)) := by have h1 := HQR.out; have h3 := HI.out; rw [Hid]; omega
                by_cases hq : 4294967296 ≤ qi
                · clear hc
                  go_wp2_with fail
                  go_round
                  case rel => exact ⟨qi - 1, ri + y1i, q - 1, r + y1, rfl, rfl, HNX, by omega, by omega, HG2⟩
                  case measure => simp [intOf]; omega
                · have hc2 : 4294967296 * ri + v0i < pi := by omega
                  clear hc
                  go_wp2_with fail
                  go_round
                  case rel => exact ⟨qi - 1, ri + y1i, q - 1, r + y1, rfl, rfl, HNX, by omega, by omega, HG2⟩
                  case measure => simp [intOf]; omega
            · have HQ2' : Hid (q = (R * 4294967296 + v0) / Y) := by
                have h1 := HQR.out; have h2 := HP.out; have h3 := HI.out; have h4 := HB.out
                rw [HY.out]; exact guess_end _ _ y1 y0 _ _ (by omega) HG.out (by rw [← h2.1]; omega)
              obtain ⟨k2, hke⟩ : ∃ k, k = q := ⟨_, rfl⟩
              obtain ⟨k2i, hkei⟩ : ∃ k, k = qi := ⟨_, rfl⟩
              have HQ2 : Hid (k2 = (R * 4294967296 + v0) / Y) := by rw [Hid, hke]; exact HQ2'
              have HK : Hid (k2i = (k2 : Int)) := by have h1 := HQR.out; rw [Hid]; omega
              have hq : qi < 4294967296 := by omega
              have hc2 : pi ≤ 4294967296 * ri + v0i := by omega
              clear hc HG HST HQ2' HQR
              subst hkei hke
              have hk2 : k2 < 4294967296 := by rw [HQ2.out, Nat.div_lt_iff_lt_mul HYP.out.1]; have h1 := HRY.out; have h2 := HB.out; omega
              have bk2 : 0 ≤ k2i ∧ k2i ≤ 4294967295 := by have := HK.out; omega
              obtain ⟨T, hT⟩ : ∃ T : Nat, T = (R * 4294967296 + v0) % Y := ⟨_, rfl⟩
              obtain ⟨Ti, hTi⟩ : ∃ x : Int, x = (T : Int) := ⟨_, rfl⟩
              have e14 : IntKind.u64.wrap (IntKind.u64.wrap (IntKind.u64.wrap (Ri * 4294967296) + v0i) - IntKind.u64.wrap (k2i * Yi)) = Ti := by
                rw [hTi, hT, HK.out, HR.out.2, HI.out.2.2.2.2.2, HI.out.1]; exact digit_rest R v0 Y k2 HYP.out.1 HYP.out.2 HQ2.out
              have HT : Hid (T = (R * 4294967296 + v0) % Y ∧ Ti = (T : Int)) := ⟨hT, hTi⟩
              have bT : 0 ≤ Ti := by omega
              clear hT hTi hk2
              go_wp2_with fail
              go_ret2
              obtain ⟨t1, t2⟩ := div64_end hi lo y s U v1 v0 Y k1 k2 (by omega) HYy.out HUV.out HQ1.out (by rw [← HR.out.1]; exact HQ2.out)
              have t3 : T / 2 ^ s = (hi * 18446744073709551616 + lo) % y := by rw [← t2, ← HR.out.1, ← HT.out.1]
              exact ⟨nret_two (by rw [HK1.out, HK.out]; exact end_quo _ _ _ _ _ t1) (by rw [HT.out.2, div_pow_cast]; exact end_rem _ _ _ _ t3), Below.refl _ _⟩
        · have hc2 : 4294967296 * ri + v1i < pi := by omega
          clear hc
          have hYp : 0 < Y := by have := HI.out; omega
          have hYl : Y < 18446744073709551616 := HB.out.2.2.2.2.2.1
          have hk1 : k1 < 4294967296 := by rw [HQ2.out, Nat.div_lt_iff_lt_mul hYp]; have h1 := HUY.out; have h2 := HB.out; omega
          have bk1 : 0 ≤ k1i ∧ k1i ≤ 4294967295 := by have := HK.out; omega
          have HQ1 : Hid (k1 = (U * 4294967296 + v1) / Y) := HQ2
          have HK1 : Hid (k1i = (k1 : Int)) := HK
          obtain ⟨R, hR⟩ : ∃ R : Nat, R = (U * 4294967296 + v1) % Y := ⟨_, rfl⟩
          obtain ⟨Ri, hRi⟩ : ∃ x : Int, x = (R : Int) := ⟨_, rfl⟩
          have hRY : R < Y := by rw [hR]; exact Nat.mod_lt _ hYp
          have e11 : IntKind.u64.wrap (IntKind.u64.wrap (IntKind.u64.wrap (Ui * 4294967296) + v1i) - IntKind.u64.wrap (k1i * Yi)) = Ri := by
            rw [hRi, hR, HK.out, HI.out.2.1, HI.out.2.2.2.2.1, HI.out.1]; exact digit_rest U v1 Y k1 hYp hYl HQ2.out
          have bR : 0 ≤ Ri ∧ Ri ≤ 18446744073709551615 := by omega
          have HR : Hid (R = (U * 4294967296 + v1) % Y ∧ Ri = (R : Int)) := ⟨hR, hRi⟩
          obtain ⟨q2, r2, e12, e13, hr2, hG3⟩ := digit_parts R v0 y1 y0 (by omega) HB.out.1 HB.out.2.1 HB.out.2.2.1 HB.out.2.2.2.2.1 (by rw [← HY.out]; exact hRY)
          obtain ⟨q2i, hq2i⟩ : ∃ x : Int, x = (q2 : Int) := ⟨_, rfl⟩
          obtain ⟨r2i, hr2i⟩ : ∃ x : Int, x = (r2 : Int) := ⟨_, rfl⟩
          rw [← hRi, ← HI.out.2.2.1, ← hq2i] at e12
          rw [← hRi, ← HI.out.2.2.1, ← hq2i, ← hr2i] at e13
          have bq2 : 0 ≤ q2i ∧ q2i ≤ 4294967297 := by have := hG3.2.2; omega
          have br2 : 0 ≤ r2i ∧ r2i ≤ 4294967295 := by omega
          have HQ3 : Hid (q2i = (q2 : Int) ∧ r2i = (r2 : Int)) := ⟨hq2i, hr2i⟩
          have HG3 : Hid (Guess R v0 y1 y0 q2 r2) := hG3
          have HRY : Hid (R < Y) := hRY
          have HYP : Hid (0 < Y ∧ Y < 18446744073709551616) := ⟨hYp, hYl⟩
          clear hG3 hRY hR hRi hq2i hr2i hr2 HQ2 HK hk1 hYp hYl
          go_wp2_with fail
          clear e10 HP bp
          go_loop [18, 16] (fun vq vr => ∃ (qi ri : Int) (q r : Nat), vq = .int .u64 qi ∧ vr = .int .u64 ri ∧ Hid (qi = (q : Int) ∧ ri = (r : Int)) ∧ (0 ≤ qi ∧ qi ≤ 4294967297) ∧ (0 ≤ ri ∧ ri ≤ 4294967295) ∧ Hid (Guess R v0 y1 y0 q r)) (fun vq _ => (intOf vq).toNat)
          case atStart => exact ⟨q2i, r2i, _, _, (by first | rfl | rw [e12]), rfl, HQ3, bq2, br2, HG3⟩
          case round =>
            clear e11 e12 e13 HG3 bq2 br2 HQ3
            obtain ⟨qi, ri, q, r, rfl, rfl, HQR, bq, br, HG⟩ := hrel
            obtain ⟨p, hpe⟩ : ∃ p : Nat, p = q * y0 := ⟨_, rfl⟩
            obtain ⟨pi, hpi⟩ : ∃ x : Int, x = (p : Int) := ⟨_, rfl⟩
            have hp : p ≤ 18446744073709551615 := by
              have h1 := HQR.out; have h2 := HB.out
              rw [hpe]; exact Nat.le_trans (Nat.mul_le_mul (show q ≤ 4294967297 by omega) (show y0 ≤ 4294967295 by omega)) (by decide)
            have e10 : IntKind.u64.wrap (qi * y0i) = pi := by rw [HQR.out.1, HI.out.2.2.2.1, hpi, mul_words q y0 (by omega), hpe]
            have bp : 0 ≤ pi ∧ pi ≤ 18446744073709551615 := by omega
            have HP : Hid (p = q * y0 ∧ pi = (p : Int)) := ⟨hpe, hpi⟩
            clear hpe hpi hp
            have HST : Hid (4294967296 ≤ qi ∨ 4294967296 * ri + v0i < pi → 1 ≤ q ∧ Guess R v0 y1 y0 (q - 1) (r + y1)) := fun hc => by
              have h1 := HQR.out; have h2 := HP.out; have h3 := HI.out; have h4 := HB.out
              exact guess_step R v0 y1 y0 q r (by omega) (by rw [← HY.out]; exact HRY.out) HG.out (by rw [← h2.1]; omega)
            by_cases hc : 4294967296 ≤ qi ∨ 4294967296 * ri + v0i < pi
            · obtain ⟨hq1, hG2⟩ := HST.out hc
              have HG2 : Hid (Guess R v0 y1 y0 (q - 1) (r + y1)) := hG2
              have hq1i : 1 ≤ qi := by have h1 := HQR.out; omega
              clear hG2 HST hq1
              by_cases hb : 4294967296 ≤ ri + y1i
              · have HQ2 : Hid (q - 1 = (R * 4294967296 + v0) / Y) := by
                  have h1 := HQR.out; have h3 := HI.out; have h4 := HB.out
                  rw [HY.out]; exact guess_break _ _ y1 y0 _ _ (by omega) (by omega) HG2.out (by omega) (by omega)
                obtain ⟨k2i, rfl⟩ : ∃ k, qi = k + 1 := ⟨qi - 1, by omega⟩
                obtain ⟨k2, rfl⟩ : ∃ k, q = k + 1 := ⟨q - 1, by have h1 := HQR.out; omega⟩
                have HK : Hid (k2i = (k2 : Int)) := by have h1 := HQR.out; rw [Hid]; omega
                have HQ2 : Hid (k2 = (R * 4294967296 + v0) / Y) := by have := HQ2.out; rwa [Nat.add_sub_cancel] at this
                clear HG HG2 HQR
                by_cases hq : 4294967296 ≤ k2i + 1
                · clear hc
                  have hk2 : k2 < 4294967296 := by rw [HQ2.out, Nat.div_lt_iff_lt_mul HYP.out.1]; have h1 := HRY.out; have h2 := HB.out; omega
                  have bk2 : 0 ≤ k2i ∧ k2i ≤ 4294967295 := by have := HK.out; omega
                  obtain ⟨T, hT⟩ : ∃ T : Nat, T = (R * 4294967296 + v0) % Y := ⟨_, rfl⟩
                  obtain ⟨Ti, hTi⟩ : ∃ x : Int, x = (T : Int) := ⟨_, rfl⟩
                  have e14 : IntKind.u64.wrap (IntKind.u64.wrap (IntKind.u64.wrap (Ri * 4294967296) + v0i) - IntKind.u64.wrap (k2i * Yi)) = Ti := by
                    rw [hTi, hT, HK.out, HR.out.2, HI.out.2.2.2.2.2, HI.out.1]; exact digit_rest R v0 Y k2 HYP.out.1 HYP.out.2 HQ2.out
                  have HT : Hid (T = (R * 4294967296 + v0) % Y ∧ Ti = (T : Int)) := ⟨hT, hTi⟩
                  have bT : 0 ≤ Ti := by omega
                  clear hT hTi hk2
                  go_wp2_with fail
                  go_ret2
                  obtain ⟨t1, t2⟩ := div64_end hi lo y s U v1 v0 Y k1 k2 (by omega) HYy.out HUV.out HQ1.out (by rw [← HR.out.1]; exact HQ2.out)
                  have t3 : T / 2 ^ s = (hi * 18446744073709551616 + lo) % y := by rw [← t2, ← HR.out.1, ← HT.out.1]
                  exact ⟨nret_two (by rw [HK1.out, HK.out]; exact end_quo _ _ _ _ _ t1) (by rw [HT.out.2, div_pow_cast]; exact end_rem _ _ _ _ t3), Below.refl _ _⟩
                · have hc2 : 4294967296 * ri + v0i < pi := by omega
                  clear hc
                  have hk2 : k2 < 4294967296 := by rw [HQ2.out, Nat.div_lt_iff_lt_mul HYP.out.1]; have h1 := HRY.out; have h2 := HB.out; omega
                  have bk2 : 0 ≤ k2i ∧ k2i ≤ 4294967295 := by have := HK.out; omega
                  obtain ⟨T, hT⟩ : ∃ T : Nat, T = (R * 4294967296 + v0) % Y := ⟨_, rfl⟩
                  obtain ⟨Ti, hTi⟩ : ∃ x : Int, x = (T : Int) := ⟨_, rfl⟩
                  have e14 : IntKind.u64.wrap (IntKind.u64.wrap (IntKind.u64.wrap (Ri * 4294967296) + v0i) - IntKind.u64.wrap (k2i * Yi)) = Ti := by
                    rw [hTi, hT, HK.out, HR.out.2, HI.out.2.2.2.2.2, HI.out.1]; exact digit_rest R v0 Y k2 HYP.out.1 HYP.out.2 HQ2.out
                  have HT : Hid (T = (R * 4294967296 + v0) % Y ∧ Ti = (T : Int)) := ⟨hT, hTi⟩
                  have bT : 0 ≤ Ti := by omega
                  clear hT hTi hk2
                  go_wp2_with fail
                  go_ret2
                  obtain ⟨t1, t2⟩ := div64_end hi lo y s U v1 v0 Y k1 k2 (by omega) HYy.out HUV.out HQ1.out (by rw [← HR.out.1]; exact HQ2.out)
                  have t3 : T / 2 ^ s = (hi * 18446744073709551616 + lo) % y := by rw [← t2, ← HR.out.1, ← HT.out.1]
                  exact ⟨nret_two (by rw [HK1.out, HK.out]; exact end_quo _ _ _ _ _ t1) (by rw [HT.out.2, div_pow_cast]; exact end_rem _ _ _ _ t3), Below.refl _ _⟩
              · have HNX : Hid (qi - 1 = ((q - 1 : Nat) : Int) ∧ ri + y1i = ((r + y1 : Nat) : Int)) := by have h1 := HQR.out; have h3 := HI.out; rw [Hid]; omega
                by_cases hq : 4294967296 ≤ qi
                · clear hc
                  go_wp2_with fail
                  go_round
                  case rel => exact ⟨qi - 1, ri + y1i, q - 1, r + y1, rfl, rfl, HNX, by omega, by omega, HG2⟩
                  case measure => simp [intOf]; omega
                · have hc2 : 4294967296 * ri + v0i < pi := by omega
                  clear hc
                  go_wp2_with fail
                  go_round
                  case rel => exact ⟨qi - 1, ri + y1i, q - 1, r + y1, rfl, rfl, HNX, by omega, by omega, HG2⟩
                  case measure => simp [intOf]; omega
            · have HQ2' : Hid (q = (R * 4294967296 + v0) / Y) := by
                have h1 := HQR.out; have h2 := HP.out; have h3 := HI.out; have h4 := HB.out
                rw [HY.out]; exact guess_end _ _ y1 y0 _ _ (by omega) HG.out (by rw [← h2.1]; omega)
              obtain ⟨k2, hke⟩ : ∃ k, k = q := ⟨_, rfl⟩
              obtain ⟨k2i, hkei⟩ : ∃ k, k = qi := ⟨_, rfl⟩
              have HQ2 : Hid (k2 = (R * 4294967296 + v0) / Y) := by rw [Hid, hke]; exact HQ2'
              have HK : Hid (k2i = (k2 : Int)) := by have h1 := HQR.out; rw [Hid]; omega
              have hq : qi < 4294967296 := by omega
              have hc2 : pi ≤ 4294967296 * ri + v0i := by omega
              clear hc HG HST HQ2' HQR
              subst hkei hke
              have hk2 : k2 < 4294967296 := by rw [HQ2.out, Nat.div_lt_iff_lt_mul HYP.out.1]; have h1 := HRY.out; have h2 := HB.out; omega
              have bk2 : 0 ≤ k2i ∧ k2i ≤ 4294967295 := by have := HK.out; omega
              obtain ⟨T, hT⟩ : ∃ T : Nat, T = (R * 4294967296 + v0) % Y := ⟨_, rfl⟩
              obtain ⟨Ti, hTi⟩ : ∃ x : Int, x = (T : Int) := ⟨_, rfl⟩
              have e14 : IntKind.u64.wrap (IntKind.u64.wrap (IntKind.u64.wrap (Ri * 4294967296) + v0i) - IntKind.u64.wrap (k2i * Yi)) = Ti := by
                rw [hTi, hT, HK.out, HR.out.2, HI.out.2.2.2.2.2, HI.out.1]; exact digit_rest R v0 Y k2 HYP.out.1 HYP.out.2 HQ2.out
              have HT : Hid (T = (R * 4294967296 + v0) % Y ∧ Ti = (T : Int)) := ⟨hT, hTi⟩
              have bT : 0 ≤ Ti := by omega
              clear hT hTi hk2
              go_wp2_with fail
              go_ret2
              obtain ⟨t1, t2⟩ := div64_end hi lo y s U v1 v0 Y k1 k2 (by omega) HYy.out HUV.out HQ1.out (by rw [← HR.out.1]; exact HQ2.out)
              have t3 : T / 2 ^ s = (hi * 18446744073709551616 + lo) % y := by rw [← t2, ← HR.out.1, ← HT.out.1]
              exact ⟨nret_two (by rw [HK1.out, HK.out]; exact end_quo _ _ _ _ _ t1) (by rw [HT.out.2, div_pow_cast]; exact end_rem _ _ _ _ t3), Below.refl _ _⟩
      · have HNX : Hid (qi - 1 = ((q - 1 : Nat) : Int) ∧ ri + y1i = ((r + y1 : Nat) : Int)) := by have h1 := HQR.out; have h3 := HI.out; rw [Hid]; omega
        by_cases hq : 4294967296 ≤ qi
        · clear hc
          go_wp2_with fail
          go_round
          case rel => exact ⟨qi - 1, ri + y1i, q - 1, r + y1, rfl, rfl, HNX, by omega, by omega, HG2⟩
          case measure => simp [intOf]; omega
        · have hc2 : 4294967296 * ri + v1i < pi := by omega
          clear hc
          go_wp2_with fail
          go_round
          case rel => exact ⟨qi - 1, ri + y1i, q - 1, r + y1, rfl, rfl, HNX, by omega, by omega, HG2⟩
          case measure => simp [intOf]; omega
    · have HQ2' : Hid (q = (U * 4294967296 + v1) / Y) := by
        have h1 := HQR.out; have h2 := HP.out; have h3 := HI.out; have h4 := HB.out
        rw [HY.out]; exact guess_end _ _ y1 y0 _ _ (by omega) HG.out (by rw [← h2.1]; omega)
      obtain ⟨k1, hke⟩ : ∃ k, k = q := ⟨_, rfl⟩
      obtain ⟨k1i, hkei⟩ : ∃ k, k = qi := ⟨_, rfl⟩
      have HQ2 : Hid (k1 = (U * 4294967296 + v1) / Y) := by rw [Hid, hke]; exact HQ2'
      have HK : Hid (k1i = (k1 : Int)) := by have h1 := HQR.out; rw [Hid]; omega
      have hq : qi < 4294967296 := by omega
      have hc2 : pi ≤ 4294967296 * ri + v1i := by omega
      clear hc HG HST HQ2' HQR
      subst hkei hke
      have hYp : 0 < Y := by have := HI.out; omega
      have hYl : Y < 18446744073709551616 := HB.out.2.2.2.2.2.1
      have hk1 : k1 < 4294967296 := by rw [HQ2.out, Nat.div_lt_iff_lt_mul hYp]; have h1 := HUY.out; have h2 := HB.out; omega
      have bk1 : 0 ≤ k1i ∧ k1i ≤ 4294967295 := by have := HK.out; omega
      have HQ1 : Hid (k1 = (U * 4294967296 + v1) / Y) := HQ2
      have HK1 : Hid (k1i = (k1 : Int)) := HK
      obtain ⟨R, hR⟩ : ∃ R : Nat, R = (U * 4294967296 + v1) % Y := ⟨_, rfl⟩
      obtain ⟨Ri, hRi⟩ : ∃ x : Int, x = (R : Int) := ⟨_, rfl⟩
      have hRY : R < Y := by rw [hR]; exact Nat.mod_lt _ hYp
      have e11 : IntKind.u64.wrap (IntKind.u64.wrap (IntKind.u64.wrap (Ui * 4294967296) + v1i) - IntKind.u64.wrap (k1i * Yi)) = Ri := by
        rw [hRi, hR, HK.out, HI.out.2.1, HI.out.2.2.2.2.1, HI.out.1]; exact digit_rest U v1 Y k1 hYp hYl HQ2.out
      have bR : 0 ≤ Ri ∧ Ri ≤ 18446744073709551615 := by omega
      have HR : Hid (R = (U * 4294967296 + v1) % Y ∧ Ri = (R : Int)) := ⟨hR, hRi⟩
      obtain ⟨q2, r2, e12, e13, hr2, hG3⟩ := digit_parts R v0 y1 y0 (by omega) HB.out.1 HB.out.2.1 HB.out.2.2.1 HB.out.2.2.2.2.1 (by rw [← HY.out]; exact hRY)
      obtain ⟨q2i, hq2i⟩ : ∃ x : Int, x = (q2 : Int) := ⟨_, rfl⟩
      obtain ⟨r2i, hr2i⟩ : ∃ x : Int, x = (r2 : Int) := ⟨_, rfl⟩
      rw [← hRi, ← HI.out.2.2.1, ← hq2i] at e12
      rw [← hRi, ← HI.out.2.2.1, ← hq2i, ← hr2i] at e13
      have bq2 : 0 ≤ q2i ∧ q2i ≤ 4294967297 := by have := hG3.2.2; omega
      have br2 : 0 ≤ r2i ∧ r2i ≤ 4294967295 := by omega
      have HQ3 : Hid (q2i = (q2 : Int) ∧ r2i = (r2 : Int)) := ⟨hq2i, hr2i⟩
      have HG3 : Hid (Guess R v0 y1 y0 q2 r2) := hG3
      have HRY : Hid (R < Y) := hRY
      have HYP : Hid (0 < Y ∧ Y < 18446744073709551616) := ⟨hYp, hYl⟩
      clear hG3 hRY hR hRi hq2i hr2i hr2 HQ2 HK hk1 hYp hYl
      go_wp2_with fail
      clear e10 HP bp
      go_loop [18, 16] (fun vq vr => ∃ (qi ri : Int) (q r : Nat), vq = .int .u64 qi ∧ vr = .int .u64 ri ∧ Hid (qi = (q : Int) ∧ ri = (r : Int)) ∧ (0 ≤ qi ∧ qi ≤ 4294967297) ∧ (0 ≤ ri ∧ ri ≤ 4294967295) ∧ Hid (Guess R v0 y1 y0 q r)) (fun vq _ => (intOf vq).toNat)
      case atStart => exact ⟨q2i, r2i, _, _, (by first | rfl | rw [e12]), rfl, HQ3, bq2, br2, HG3⟩
      case round =>
        clear e11 e12 e13 HG3 bq2 br2 HQ3
        obtain ⟨qi, ri, q, r, rfl, rfl, HQR, bq, br, HG⟩ := hrel
        obtain ⟨p, hpe⟩ : ∃ p : Nat, p = q * y0 := ⟨_, rfl⟩
        obtain ⟨pi, hpi⟩ : ∃ x : Int, x = (p : Int) := ⟨_, rfl⟩
        have hp : p ≤ 18446744073709551615 := by
          have h1 := HQR.out; have h2 := HB.out
          rw [hpe]; exact Nat.le_trans (Nat.mul_le_mul (show q ≤ 4294967297 by omega) (show y0 ≤ 4294967295 by omega)) (by decide)
        have e10 : IntKind.u64.wrap (qi * y0i) = pi := by rw [HQR.out.1, HI.out.2.2.2.1, hpi, mul_words q y0 (by omega), hpe]
        have bp : 0 ≤ pi ∧ pi ≤ 18446744073709551615 := by omega
        have HP : Hid (p = q * y0 ∧ pi = (p : Int)) := ⟨hpe, hpi⟩
        clear hpe hpi hp
        have HST : Hid (4294967296 ≤ qi ∨ 4294967296 * ri + v0i < pi → 1 ≤ q ∧ Guess R v0 y1 y0 (q - 1) (r + y1)) := fun hc => by
          have h1 := HQR.out; have h2 := HP.out; have h3 := HI.out; have h4 := HB.out
          exact guess_step R v0 y1 y0 q r (by omega) (by rw [← HY.out]; exact HRY.out) HG.out (by rw [← h2.1]; omega)
        by_cases hc : 4294967296 ≤ qi ∨ 4294967296 * ri + v0i < pi
        · obtain ⟨hq1, hG2⟩ := HST.out hc
          have HG2 : Hid (Guess R v0 y1 y0 (q - 1) (r + y1)) := hG2
          have hq1i : 1 ≤ qi := by have h1 := HQR.out; omega
          clear hG2 HST hq1
          by_cases hb : 4294967296 ≤ ri + y1i
          · have HQ2 : Hid (q - 1 = (R * 4294967296 + v0) / Y) := by
              have h1 := HQR.out; have h3 := HI.out; have h4 := HB.out
              rw [HY.out]; exact guess_break _ _ y1 y0 _ _ (by omega) (by omega) HG2.out (by omega) (by omega)
            obtain ⟨k2i, rfl⟩ : ∃ k, qi = k + 1 := ⟨qi - 1, by omega⟩
            obtain ⟨k2, rfl⟩ : ∃ k, q = k + 1 := ⟨q - 1, by have h1 := HQR.out; omega⟩
            have HK : Hid (k2i = (k2 : Int)) := by have h1 := HQR.out; rw [Hid]; omega
            have HQ2 : Hid (k2 = (R * 4294967296 + v0) / Y) := by have := HQ2.out; rwa [Nat.add_sub_cancel] at this
            clear HG HG2 HQR
            by_cases hq : 4294967296 ≤ k2i + 1
            · clear hc
              have hk2 : k2 < 4294967296 := by rw [HQ2.out, Nat.div_lt_iff_lt_mul HYP.out.1]; have h1 := HRY.out; have h2 := HB.out; omega
              have bk2 : 0 ≤ k2i ∧ k2i ≤ 4294967295 := by have := HK.out; omega
              obtain ⟨T, hT⟩ : ∃ T : Nat, T = (R * 4294967296 + v0) % Y := ⟨_, rfl⟩
              obtain ⟨Ti, hTi⟩ : ∃ x : Int, x = (T : Int) := ⟨_, rfl⟩
              have e14 : IntKind.u64.wrap (IntKind.u64.wrap (IntKind.u64.wrap (Ri * 4294967296) + v0i) - IntKind.u64.wrap (k2i * Yi)) = Ti := by
                rw [hTi, hT, HK.out, HR.out.2, HI.out.2.2.2.2.2, HI.out.1]; exact digit_rest R v0 Y k2 HYP.out.1 HYP.out.2 HQ2.out
              have HT : Hid (T = (R * 4294967296 + v0) % Y ∧ Ti = (T : Int)) := ⟨hT, hTi⟩
              have bT : 0 ≤ Ti := by omega
              clear hT hTi hk2
              go_wp2_with fail
              go_ret2
              obtain ⟨t1, t2⟩ := div64_end hi lo y s U v1 v0 Y k1 k2 (by omega) HYy.out HUV.out HQ1.out (by rw [← HR.out.1]; exact HQ2.out)
              have t3 : T / 2 ^ s = (hi * 18446744073709551616 + lo) % y := by rw [← t2, ← HR.out.1, ← HT.out.1]
              exact ⟨nret_two (by rw [HK1.out, HK.out]; exact end_quo _ _ _ _ _ t1) (by rw [HT.out.2, div_pow_cast]; exact end_rem _ _ _ _ t3), Below.refl _ _⟩
            · have hc2 : 4294967296 * ri + v0i < pi := by omega
              clear hc
              have hk2 : k2 < 4294967296 := by rw [HQ2.out, Nat.div_lt_iff_lt_mul HYP.out.1]; have h1 := HRY.out; have h2 := HB.out; omega
              have bk2 : 0 ≤ k2i ∧ k2i ≤ 4294967295 := by have := HK.out; omega
              obtain ⟨T, hT⟩ : ∃ T : Nat, T = (R * 4294967296 + v0) % Y := ⟨_, rfl⟩
              obtain ⟨Ti, hTi⟩ : ∃ x : Int, x = (T : Int) := ⟨_, rfl⟩
              have e14 : IntKind.u64.wrap (IntKind.u64.wrap (IntKind.u64.wrap (Ri * 4294967296) + v0i) - IntKind.u64.wrap (k2i * Yi)) = Ti := by
                rw [hTi, hT, HK.out, HR.out.2, HI.out.2.2.2.2.2, HI.out.1]; exact digit_rest R v0 Y k2 HYP.out.1 HYP.out.2 HQ2.out
              have HT : Hid (T = (R * 4294967296 + v0) % Y ∧ Ti = (T : Int)) := ⟨hT, hTi⟩
              have bT : 0 ≤ Ti := by omega
              clear hT hTi hk2
              go_wp2_with fail
              go_ret2
              obtain ⟨t1, t2⟩ := div64_end hi lo y s U v1 v0 Y k1 k2 (by omega) HYy.out HUV.out HQ1.out (by rw [← HR.out.1]; exact HQ2.out)
              have t3 : T / 2 ^ s = (hi * 18446744073709551616 + lo) % y := by rw [← t2, ← HR.out.1, ← HT.out.1]
              exact ⟨nret_two (by rw [HK1.out, HK.out]; exact end_quo _ _ _ _ _ t1) (by rw [HT.out.2, div_pow_cast]; exact end_rem _ _ _ _ t3), Below.refl _ _⟩
          · have HNX : Hid (qi - 1 = ((q - 1 : Nat) : Int) ∧ ri + y1i = ((r + y1 : Nat) : Int)) := by have h1 := HQR.out; have h3 := HI.out; rw [Hid]; omega
            by_cases hq : 4294967296 ≤ qi
            · clear hc
              go_wp2_with fail
              go_round
              case rel => exact ⟨qi - 1, ri + y1i, q - 1, r + y1, rfl, rfl, HNX, by omega, by omega, HG2⟩
              case measure => simp [intOf]; omega
            · have hc2 : 4294967296 * ri + v0i < pi := by omega
              clear hc
              go_wp2_with fail
              go_round
              case rel => exact ⟨qi - 1, ri + y1i, q - 1, r + y1, rfl, rfl, HNX, by omega, by omega, HG2⟩
              case measure => simp [intOf]; omega
        · have HQ2' : Hid (q = (R * 4294967296 + v0) / Y) := by
            have h1 := HQR.out; have h2 := HP.out; have h3 := HI.out; have h4 := HB.out
            rw [HY.out]; exact guess_end _ _ y1 y0 _ _ (by omega) HG.out (by rw [← h2.1]; omega)
          obtain ⟨k2, hke⟩ : ∃ k, k = q := ⟨_, rfl⟩
          obtain ⟨k2i, hkei⟩ : ∃ k, k = qi := ⟨_, rfl⟩
          have HQ2 : Hid (k2 = (R * 4294967296 + v0) / Y) := by rw [Hid, hke]; exact HQ2'
          have HK : Hid (k2i = (k2 : Int)) := by have h1 := HQR.out; rw [Hid]; omega
          have hq : qi < 4294967296 := by omega
          have hc2 : pi ≤ 4294967296 * ri + v0i := by omega
          clear hc HG HST HQ2' HQR
          subst hkei hke
          have hk2 : k2 < 4294967296 := by rw [HQ2.out, Nat.div_lt_iff_lt_mul HYP.out.1]; have h1 := HRY.out; have h2 := HB.out; omega
          have bk2 : 0 ≤ k2i ∧ k2i ≤ 4294967295 := by have := HK.out; omega
          obtain ⟨T, hT⟩ : ∃ T : Nat, T = (R * 4294967296 + v0) % Y := ⟨_, rfl⟩
          obtain ⟨Ti, hTi⟩ : ∃ x : Int, x = (T : Int) := ⟨_, rfl⟩
          have e14 : IntKind.u64.wrap (IntKind.u64.wrap (IntKind.u64.wrap (Ri * 4294967296) + v0i) - IntKind.u64.wrap (k2i * Yi)) = Ti := by
            rw [hTi, hT, HK.out, HR.out.2, HI.out.2.2.2.2.2, HI.out.1]; exact digit_rest R v0 Y k2 HYP.out.1 HYP.out.2 HQ2.out
          have HT : Hid (T = (R * 4294967296 + v0) % Y ∧ Ti = (T : Int)) := ⟨hT, hTi⟩
          have bT : 0 ≤ Ti := by omega
          clear hT hTi hk2
          go_wp2_with fail
          go_ret2
          obtain ⟨t1, t2⟩ := div64_end hi lo y s U v1 v0 Y k1 k2 (by omega) HYy.out HUV.out HQ1.out (by rw [← HR.out.1]; exact HQ2.out)
          have t3 : T / 2 ^ s = (hi * 18446744073709551616 + lo) % y := by rw [← t2, ← HR.out.1, ← HT.out.1]
          exact ⟨nret_two (by rw [HK1.out, HK.out]; exact end_quo _ _ _ _ _ t1) (by rw [HT.out.2, div_pow_cast]; exact end_rem _ _ _ _ t3), Below.refl _ _⟩
end Go.Proofs.YtfmjgagajlhfoaaDoor

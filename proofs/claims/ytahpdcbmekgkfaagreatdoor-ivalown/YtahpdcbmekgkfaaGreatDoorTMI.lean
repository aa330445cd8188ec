/- The walk of math/bits.Div64: a quotient of two words by one. The walk of the division of a natural by one word, in place. -/
import Derived.BigRegion
import Derived.Test.YtahpdcbmekgkfaaGreatDoorTMB
import Derived.Test.YtahpdcbmekgkfaaGreatDoorNShelf
import Derived.Test.YtahpdcbmekgkfaaGreatDoorTMA

namespace Go.Proofs.YtahpdcbmekgkfaaGreatDoor
open Go.RowKit
set_option maxHeartbeats 8000000
set_option maxRecDepth 100000
theorem nret_two {k l : IntKind} {a b c d : Int} (h : a = b) (h' : c = d) : Ending.returned (.tuple #[.int k a, .int l c]) = .returned (.tuple #[.int k b, .int l d]) := by rw [h, h']
theorem div64_low (lo y : Nat) (w : World) (hl : lo < 18446744073709551616) (hy : y < 18446744073709551616) (h0 : 0 < y) :
  Calls Tryz.prog 226 #[.int .u64 0, .int .u64 (lo : Int), .int .u64 (y : Int)] w fun e w' => e = .returned (.tuple #[.int .u64 ((lo / y : Nat) : Int), .int .u64 ((lo % y : Nat) : Int)]) ∧ Below w.heap.size w w' := by
 have d0 : ((y : Int) == 0) = false := by simp; omega
 have hq : lo / y ≤ lo := Nat.div_le_self _ _
 have HQ : Hid (IntKind.u64.wrap ((lo : Int) / y) = ((lo / y : Nat) : Int)) := by
  rw [Hid, ← Int.natCast_ediv, wrap_small _ (by omega)]
 clear hq
 go_enter Tryz.func226, Tryz.ntmps226
 go_wp2_with fail
 go_quiet (fail)
 go_wp2_with fail
 go_ret2
 exact ⟨nret_two HQ.out (by rw [Int.natCast_emod]), below_drewN (Below.refl _ _) _⟩
theorem div64_high (hi lo y : Nat) (w : World) (hh : 0 < hi) (hl : lo < 18446744073709551616) (hy : y < 18446744073709551616) (h0 : hi < y) :
  Calls Tryz.prog 226 #[.int .u64 (hi : Int), .int .u64 (lo : Int), .int .u64 (y : Int)] w fun e w' => e = .returned (.tuple #[.int .u64 (((hi * 18446744073709551616 + lo) / y : Nat) : Int), .int .u64 (((hi * 18446744073709551616 + lo) % y : Nat) : Int)]) ∧ Below w.heap.size w w' := by
 have d0 : ((y : Int) == 0) = false := by simp; omega
 have d1 : ((hi : Int) == 0) = false := by simp; omega
 have HC := Tryz.bits_LeadingZeros64 (y : Int) w (by omega) (by omega)
 obtain ⟨s, hs, es, hY0, hY1⟩ := lead_shift y (by omega) hy
 rw [Int.toNat_natCast, es] at HC
 obtain ⟨Y, U, V, y1, y0, v1, v0, e1, e2, e3, e4, e5, e6, e7, hY, hy0, hy1, hy2, hv1, hv0, hU, hYy, hUV⟩ := div64_parts hi lo y s hl h0 hs hY0 hY1
 have hYl : Y < 18446744073709551616 := by rw [hYy]; exact hY1
 obtain ⟨q, r, e8, e9, hr, hG⟩ := digit_parts U v1 y1 y0 (by omega) hy0 hy1 hy2 hv1 (by rw [← hY]; exact hU)
 have HY : Hid (Y = y1 * 4294967296 + y0) := hY
 have HYy : Hid (Y = y * 2 ^ s) := hYy
 have HUV : Hid _ := hUV
 have HG : Hid _ := hG
 have HUY : Hid (U < Y) := hU
 have hq3 : q ≤ 4294967297 := hG.2.2
 have HB : Hid (y0 < 4294967296 ∧ 2147483648 ≤ y1 ∧ y1 < 4294967296 ∧ v1 < 4294967296 ∧ v0 < 4294967296 ∧ Y < 18446744073709551616 ∧ r < 4294967296) := ⟨hy0, hy1, hy2, hv1, hv0, hYl, hr⟩
 obtain ⟨Yi, hYi⟩ : ∃ x : Int, x = (Y : Int) := ⟨_, rfl⟩
 rw [← hYi] at e1 e4 e5
 obtain ⟨Ui, hUi⟩ : ∃ x : Int, x = (U : Int) := ⟨_, rfl⟩
 rw [← hUi] at e2 e8 e9
 obtain ⟨Vi, hVi⟩ : ∃ x : Int, x = (V : Int) := ⟨_, rfl⟩
 rw [← hVi] at e3 e6 e7
 obtain ⟨y1i, hy1i⟩ : ∃ x : Int, x = (y1 : Int) := ⟨_, rfl⟩
 rw [← hy1i] at e4 e8 e9
 obtain ⟨y0i, hy0i⟩ : ∃ x : Int, x = (y0 : Int) := ⟨_, rfl⟩
 rw [← hy0i] at e5
 obtain ⟨v1i, hv1i⟩ : ∃ x : Int, x = (v1 : Int) := ⟨_, rfl⟩
 rw [← hv1i] at e6
 obtain ⟨v0i, hv0i⟩ : ∃ x : Int, x = (v0 : Int) := ⟨_, rfl⟩
 rw [← hv0i] at e7
 obtain ⟨qi, hqi⟩ : ∃ x : Int, x = (q : Int) := ⟨_, rfl⟩
 rw [← hqi] at e8 e9
 obtain ⟨ri, hri⟩ : ∃ x : Int, x = (r : Int) := ⟨_, rfl⟩
 rw [← hri] at e9
 have bY : 9223372036854775808 ≤ Yi ∧ Yi ≤ 18446744073709551615 := by omega
 have bU : 0 ≤ Ui ∧ Ui ≤ 18446744073709551615 := by omega
 have by1 : 2147483648 ≤ y1i ∧ y1i ≤ 4294967295 := by omega
 have by0 : 0 ≤ y0i ∧ y0i ≤ 4294967295 := by omega
 have bv1 : 0 ≤ v1i ∧ v1i ≤ 4294967295 := by omega
 have bv0 : 0 ≤ v0i ∧ v0i ≤ 4294967295 := by omega
 have bV : 0 ≤ Vi ∧ Vi ≤ 18446744073709551615 := by omega
 have bq : 0 ≤ qi ∧ qi ≤ 4294967297 := by omega
 have br : 0 ≤ ri ∧ ri ≤ 4294967295 := by omega
 have HI : Hid (Yi = (Y : Int) ∧ Ui = (U : Int) ∧ y1i = (y1 : Int) ∧ y0i = (y0 : Int) ∧ v1i = (v1 : Int) ∧ v0i = (v0 : Int)) := ⟨hYi, hUi, hy1i, hy0i, hv1i, hv0i⟩
 have HQ0 : Hid (qi = (q : Int) ∧ ri = (r : Int)) := ⟨hqi, hri⟩
 have hnz : (y1i == 0) = false := by simp; omega
 clear es hY hYy hUV hG hU hY0 hY1 hYi hUi hVi hy1i hy0i hv1i hv0i hqi hri hy0 hy1 hy2 hv1 hv0 hYl hr hq3
 go_enter Tryz.func226, Tryz.ntmps226
 go_wp2_with fail
 refine Calls.mono HC ?_
 rintro e w ⟨rfl, rfl⟩
 clear HC
 go_wp2_with fail
 have E8 : Hid (Ui / y1i = qi) := e8
 clear e1 e2 e3 e4 e5 e6 e7 e8 e9 bV
 go_loop [15, 16] (fun vq vr => ∃ (qi ri : Int) (q r : Nat), vq = .int .u64 qi ∧ vr = .int .u64 ri ∧ Hid (qi = (q : Int) ∧ ri = (r : Int)) ∧ (0 ≤ qi ∧ qi ≤ 4294967297) ∧ (0 ≤ ri ∧ ri ≤ 4294967295) ∧ Hid (Guess U v1 y1 y0 q r)) (fun vq _ => (intOf vq).toNat)
 case atStart => exact ⟨qi, ri, _, _, (by first | rfl | rw [E8.out]), rfl, HQ0, bq, br, HG⟩
 case round =>
  clear bq br HQ0 HG E8
  obtain ⟨qi, ri, q, r, rfl, rfl, HQR, bq, br, HG⟩ := hrel
  obtain ⟨p, hpe⟩ : ∃ p : Nat, p = q * y0 := ⟨_, rfl⟩
  obtain ⟨pi, hpi⟩ : ∃ x : Int, x = (p : Int) := ⟨_, rfl⟩
  have hp : p ≤ 18446744073709551615 := by
   have h1 := HQR.out; have h2 := HB.out
   rw [hpe]; exact Nat.le_trans (Nat.mul_le_mul (show q ≤ 4294967297 by omega) (show y0 ≤ 4294967295 by omega)) (by decide)
  have e10 : IntKind.u64.wrap (qi * y0i) = pi := by rw [HQR.out.1, HI.out.2.2.2.1, hpi, mul_words q y0 (by omega), hpe]
  have bp : 0 ≤ pi ∧ pi ≤ 18446744073709551615 := by omega
  have HP : Hid (p = q * y0 ∧ pi = (p : Int)) := ⟨hpe, hpi⟩
  clear hpe hpi hp
  have HST : Hid (4294967296 ≤ qi ∨ 4294967296 * ri + v1i < pi → 1 ≤ q ∧ Guess U v1 y1 y0 (q - 1) (r + y1)) := fun hc => by
   have h1 := HQR.out; have h2 := HP.out; have h3 := HI.out; have h4 := HB.out
   exact guess_step U v1 y1 y0 q r (by omega) (by rw [← HY.out]; exact HUY.out) HG.out (by rw [← h2.1]; omega)
  by_cases hc : 4294967296 ≤ qi ∨ 4294967296 * ri + v1i < pi
  ·obtain ⟨hq1, hG2⟩ := HST.out hc
   have HG2 : Hid (Guess U v1 y1 y0 (q - 1) (r + y1)) := hG2
   have hq1i : 1 ≤ qi := by have h1 := HQR.out; omega
   clear hG2 HST hq1
   by_cases hb : 4294967296 ≤ ri + y1i
   ·have HQ2 : Hid (q - 1 = (U * 4294967296 + v1) / Y) := by
     have h1 := HQR.out; have h3 := HI.out; have h4 := HB.out
     rw [HY.out]; exact guess_break _ _ y1 y0 _ _ (by omega) (by omega) HG2.out (by omega) (by omega)
    obtain ⟨k1i, rfl⟩ : ∃ k, qi = k + 1 := ⟨qi - 1, by omega⟩
    obtain ⟨k1, rfl⟩ : ∃ k, q = k + 1 := ⟨q - 1, by have h1 := HQR.out; omega⟩
    have HK : Hid (k1i = (k1 : Int)) := by have h1 := HQR.out; rw [Hid]; omega
    have HQ2 : Hid (k1 = (U * 4294967296 + v1) / Y) := by have := HQ2.out; rwa [Nat.add_sub_cancel] at this
    clear HG HG2 HQR
    by_cases hq : 4294967296 ≤ k1i + 1
    ·clear hc
     have hYp : 0 < Y := by have := HI.out; omega
     have hYl : Y < 18446744073709551616 := HB.out.2.2.2.2.2.1
     have hk1 : k1 < 4294967296 := by rw [HQ2.out, Nat.div_lt_iff_lt_mul hYp]; have h1 := HUY.out; have h2 := HB.out; omega
     have bk1 : 0 ≤ k1i ∧ k1i ≤ 4294967295 := by have := HK.out; omega
     have HQ1 : Hid (k1 = (U * 4294967296 + v1) / Y) := HQ2
     have HK1 : Hid (k1i = (k1 : Int)) := HK
     obtain ⟨R, hR⟩ : ∃ R : Nat, R = (U * 4294967296 + v1) % Y := ⟨_, rfl⟩
     obtain ⟨Ri, hRi⟩ : ∃ x : Int, x = (R : Int) := ⟨_, rfl⟩
     have hRY : R < Y := by rw [hR]; exact Nat.mod_lt _ hYp
     have e11 : IntKind.u64.wrap (IntKind.u64.wrap (IntKind.u64.wrap (Ui * 4294967296) + v1i) - IntKind.u64.wrap (k1i * Yi)) = Ri := by
      rw [hRi, hR, HK.out, HI.out.2.1, HI.out.2.2.2.2.1, HI.out.1]; exact digit_rest U v1 Y k1 hYp hYl HQ2.out
     have bR : 0 ≤ Ri ∧ Ri ≤ 18446744073709551615 := by omega
     have HR : Hid (R = (U * 4294967296 + v1) % Y ∧ Ri = (R : Int)) := ⟨hR, hRi⟩
     obtain ⟨q2, r2, e12, e13, hr2, hG3⟩ := digit_parts R v0 y1 y0 (by omega) HB.out.1 HB.out.2.1 HB.out.2.2.1 HB.out.2.2.2.2.1 (by rw [← HY.out]; exact hRY)
     obtain ⟨q2i, hq2i⟩ : ∃ x : Int, x = (q2 : Int) := ⟨_, rfl⟩
     obtain ⟨r2i, hr2i⟩ : ∃ x : Int, x = (r2 : Int) := ⟨_, rfl⟩
     rw [← hRi, ← HI.out.2.2.1, ← hq2i] at e12
     rw [← hRi, ← HI.out.2.2.1, ← hq2i, ← hr2i] at e13
     have bq2 : 0 ≤ q2i ∧ q2i ≤ 4294967297 := by have := hG3.2.2; omega
     have br2 : 0 ≤ r2i ∧ r2i ≤ 4294967295 := by omega
     have HQ3 : Hid (q2i = (q2 : Int) ∧ r2i = (r2 : Int)) := ⟨hq2i, hr2i⟩
     have HG3 : Hid (Guess R v0 y1 y0 q2 r2) := hG3
     have HRY : Hid (R < Y) := hRY
     have HYP : Hid (0 < Y ∧ Y < 18446744073709551616) := ⟨hYp, hYl⟩
     clear hG3 hRY hR hRi hq2i hr2i hr2 HQ2 HK hk1 hYp hYl
     go_wp2_with fail
     clear e10 HP bp
     go_loop [18, 16] (fun vq vr => ∃ (qi ri : Int) (q r : Nat), vq = .int .u64 qi ∧ vr = .int .u64 ri ∧ Hid (qi = (q : Int) ∧ ri = (r : Int)) ∧ (0 ≤ qi ∧ qi ≤ 4294967297) ∧ (0 ≤ ri ∧ ri ≤ 4294967295) ∧ Hid (Guess R v0 y1 y0 q r)) (fun vq _ => (intOf vq).toNat)
     case atStart => exact ⟨q2i, r2i, _, _, (by first | rfl | rw [e12]), rfl, HQ3, bq2, br2, HG3⟩
     case round =>
      clear e11 e12 e13 HG3 bq2 br2 HQ3
      obtain ⟨qi, ri, q, r, rfl, rfl, HQR, bq, br, HG⟩ := hrel
      obtain ⟨p, hpe⟩ : ∃ p : Nat, p = q * y0 := ⟨_, rfl⟩
      obtain ⟨pi, hpi⟩ : ∃ x : Int, x = (p : Int) := ⟨_, rfl⟩
      have hp : p ≤ 18446744073709551615 := by
       have h1 := HQR.out; have h2 := HB.out
       rw [hpe]; exact Nat.le_trans (Nat.mul_le_mul (show q ≤ 4294967297 by omega) (show y0 ≤ 4294967295 by omega)) (by decide)
      have e10 : IntKind.u64.wrap (qi * y0i) = pi := by rw [HQR.out.1, HI.out.2.2.2.1, hpi, mul_words q y0 (by omega), hpe]
      have bp : 0 ≤ pi ∧ pi ≤ 18446744073709551615 := by omega
      have HP : Hid (p = q * y0 ∧ pi = (p : Int)) := ⟨hpe, hpi⟩
      clear hpe hpi hp
      have HST : Hid (4294967296 ≤ qi ∨ 4294967296 * ri + v0i < pi → 1 ≤ q ∧ Guess R v0 y1 y0 (q - 1) (r + y1)) := fun hc => by
       have h1 := HQR.out; have h2 := HP.out; have h3 := HI.out; have h4 := HB.out
       exact guess_step R v0 y1 y0 q r (by omega) (by rw [← HY.out]; exact HRY.out) HG.out (by rw [← h2.1]; omega)
      by_cases hc : 4294967296 ≤ qi ∨ 4294967296 * ri + v0i < pi
      ·obtain ⟨hq1, hG2⟩ := HST.out hc
       have HG2 : Hid (Guess R v0 y1 y0 (q - 1) (r + y1)) := hG2
       have hq1i : 1 ≤ qi := by have h1 := HQR.out; omega
       clear hG2 HST hq1
       by_cases hb : 4294967296 ≤ ri + y1i
       ·have HQ2 : Hid (q - 1 = (R * 4294967296 + v0) / Y) := by
         have h1 := HQR.out; have h3 := HI.out; have h4 := HB.out
         rw [HY.out]; exact guess_break _ _ y1 y0 _ _ (by omega) (by omega) HG2.out (by omega) (by omega)
        obtain ⟨k2i, rfl⟩ : ∃ k, qi = k + 1 := ⟨qi - 1, by omega⟩
        obtain ⟨k2, rfl⟩ : ∃ k, q = k + 1 := ⟨q - 1, by have h1 := HQR.out; omega⟩
        have HK : Hid (k2i = (k2 : Int)) := by have h1 := HQR.out; rw [Hid]; omega
        have HQ2 : Hid (k2 = (R * 4294967296 + v0) / Y) := by have := HQ2.out; rwa [Nat.add_sub_cancel] at this
        clear HG HG2 HQR
        by_cases hq : 4294967296 ≤ k2i + 1
        ·clear hc
         have hk2 : k2 < 4294967296 := by rw [HQ2.out, Nat.div_lt_iff_lt_mul HYP.out.1]; have h1 := HRY.out; have h2 := HB.out; omega
         have bk2 : 0 ≤ k2i ∧ k2i ≤ 4294967295 := by have := HK.out; omega
         obtain ⟨T, hT⟩ : ∃ T : Nat, T = (R * 4294967296 + v0) % Y := ⟨_, rfl⟩
         obtain ⟨Ti, hTi⟩ : ∃ x : Int, x = (T : Int) := ⟨_, rfl⟩
         have e14 : IntKind.u64.wrap (IntKind.u64.wrap (IntKind.u64.wrap (Ri * 4294967296) + v0i) - IntKind.u64.wrap (k2i * Yi)) = Ti := by
          rw [hTi, hT, HK.out, HR.out.2, HI.out.2.2.2.2.2, HI.out.1]; exact digit_rest R v0 Y k2 HYP.out.1 HYP.out.2 HQ2.out
         have HT : Hid (T = (R * 4294967296 + v0) % Y ∧ Ti = (T : Int)) := ⟨hT, hTi⟩
         have bT : 0 ≤ Ti := by omega
         clear hT hTi hk2
         go_wp2_with fail
         go_ret2
         obtain ⟨t1, t2⟩ := div64_end hi lo y s U v1 v0 Y k1 k2 (by omega) HYy.out HUV.out HQ1.out (by rw [← HR.out.1]; exact HQ2.out)
         have t3 : T / 2 ^ s = (hi * 18446744073709551616 + lo) % y := by rw [← t2, ← HR.out.1, ← HT.out.1]
         exact ⟨nret_two (by rw [HK1.out, HK.out]; exact end_quo _ _ _ _ _ t1) (by rw [HT.out.2, div_pow_cast]; exact end_rem _ _ _ _ t3), Below.refl _ _⟩
        ·have hc2 : 4294967296 * ri + v0i < pi := by omega
         clear hc
         have hk2 : k2 < 4294967296 := by rw [HQ2.out, Nat.div_lt_iff_lt_mul HYP.out.1]; have h1 := HRY.out; have h2 := HB.out; omega
         have bk2 : 0 ≤ k2i ∧ k2i ≤ 4294967295 := by have := HK.out; omega
         obtain ⟨T, hT⟩ : ∃ T : Nat, T = (R * 4294967296 + v0) % Y := ⟨_, rfl⟩
         obtain ⟨Ti, hTi⟩ : ∃ x : Int, x = (T : Int) := ⟨_, rfl⟩
         have e14 : IntKind.u64.wrap (IntKind.u64.wrap (IntKind.u64.wrap (Ri * 4294967296) + v0i) - IntKind.u64.wrap (k2i * Yi)) = Ti := by
          rw [hTi, hT, HK.out, HR.out.2, HI.out.2.2.2.2.2, HI.out.1]; exact digit_rest R v0 Y k2 HYP.out.1 HYP.out.2 HQ2.out
         have HT : Hid (T = (R * 4294967296 + v0) % Y ∧ Ti = (T : Int)) := ⟨hT, hTi⟩
         have bT : 0 ≤ Ti := by omega
         clear hT hTi hk2
         go_wp2_with fail
         go_ret2
         obtain ⟨t1, t2⟩ := div64_end hi lo y s U v1 v0 Y k1 k2 (by omega) HYy.out HUV.out HQ1.out (by rw [← HR.out.1]; exact HQ2.out)
         have t3 : T / 2 ^ s = (hi * 18446744073709551616 + lo) % y := by rw [← t2, ← HR.out.1, ← HT.out.1]
         exact ⟨nret_two (by rw [HK1.out, HK.out]; exact end_quo _ _ _ _ _ t1) (by rw [HT.out.2, div_pow_cast]; exact end_rem _ _ _ _ t3), Below.refl _ _⟩
       ·have HNX : Hid (qi - 1 = ((q - 1 : Nat) : Int) ∧ ri + y1i = ((r + y1 : Nat) : Int)) := by have h1 := HQR.out; have h3 := HI.out; rw [Hid]; omega
        by_cases hq : 4294967296 ≤ qi
        ·clear hc
         go_wp2_with fail
         go_round
         case rel => exact ⟨qi - 1, ri + y1i, q - 1, r + y1, rfl, rfl, HNX, by omega, by omega, HG2⟩
         case measure => simp [intOf]; omega
        ·have hc2 : 4294967296 * ri + v0i < pi := by omega
         clear hc
         go_wp2_with fail
         go_round
         case rel => exact ⟨qi - 1, ri + y1i, q - 1, r + y1, rfl, rfl, HNX, by omega, by omega, HG2⟩
         case measure => simp [intOf]; omega
      ·have HQ2' : Hid (q = (R * 4294967296 + v0) / Y) := by
        have h1 := HQR.out; have h2 := HP.out; have h3 := HI.out; have h4 := HB.out
        rw [HY.out]; exact guess_end _ _ y1 y0 _ _ (by omega) HG.out (by rw [← h2.1]; omega)
       obtain ⟨k2, hke⟩ : ∃ k, k = q := ⟨_, rfl⟩
       obtain ⟨k2i, hkei⟩ : ∃ k, k = qi := ⟨_, rfl⟩
       have HQ2 : Hid (k2 = (R * 4294967296 + v0) / Y) := by rw [Hid, hke]; exact HQ2'
       have HK : Hid (k2i = (k2 : Int)) := by have h1 := HQR.out; rw [Hid]; omega
       have hq : qi < 4294967296 := by omega
       have hc2 : pi ≤ 4294967296 * ri + v0i := by omega
       clear hc HG HST HQ2' HQR
       subst hkei hke
       have hk2 : k2 < 4294967296 := by rw [HQ2.out, Nat.div_lt_iff_lt_mul HYP.out.1]; have h1 := HRY.out; have h2 := HB.out; omega
       have bk2 : 0 ≤ k2i ∧ k2i ≤ 4294967295 := by have := HK.out; omega
       obtain ⟨T, hT⟩ : ∃ T : Nat, T = (R * 4294967296 + v0) % Y := ⟨_, rfl⟩
       obtain ⟨Ti, hTi⟩ : ∃ x : Int, x = (T : Int) := ⟨_, rfl⟩
       have e14 : IntKind.u64.wrap (IntKind.u64.wrap (IntKind.u64.wrap (Ri * 4294967296) + v0i) - IntKind.u64.wrap (k2i * Yi)) = Ti := by
        rw [hTi, hT, HK.out, HR.out.2, HI.out.2.2.2.2.2, HI.out.1]; exact digit_rest R v0 Y k2 HYP.out.1 HYP.out.2 HQ2.out
       have HT : Hid (T = (R * 4294967296 + v0) % Y ∧ Ti = (T : Int)) := ⟨hT, hTi⟩
       have bT : 0 ≤ Ti := by omega
       clear hT hTi hk2
       go_wp2_with fail
       go_ret2
       obtain ⟨t1, t2⟩ := div64_end hi lo y s U v1 v0 Y k1 k2 (by omega) HYy.out HUV.out HQ1.out (by rw [← HR.out.1]; exact HQ2.out)
       have t3 : T / 2 ^ s = (hi * 18446744073709551616 + lo) % y := by rw [← t2, ← HR.out.1, ← HT.out.1]
       exact ⟨nret_two (by rw [HK1.out, HK.out]; exact end_quo _ _ _ _ _ t1) (by rw [HT.out.2, div_pow_cast]; exact end_rem _ _ _ _ t3), Below.refl _ _⟩
    ·have hc2 : 4294967296 * ri + v1i < pi := by omega
     clear hc
     have hYp : 0 < Y := by have := HI.out; omega
     have hYl : Y < 18446744073709551616 := HB.out.2.2.2.2.2.1
     have hk1 : k1 < 4294967296 := by rw [HQ2.out, Nat.div_lt_iff_lt_mul hYp]; have h1 := HUY.out; have h2 := HB.out; omega
     have bk1 : 0 ≤ k1i ∧ k1i ≤ 4294967295 := by have := HK.out; omega
     have HQ1 : Hid (k1 = (U * 4294967296 + v1) / Y) := HQ2
     have HK1 : Hid (k1i = (k1 : Int)) := HK
     obtain ⟨R, hR⟩ : ∃ R : Nat, R = (U * 4294967296 + v1) % Y := ⟨_, rfl⟩
     obtain ⟨Ri, hRi⟩ : ∃ x : Int, x = (R : Int) := ⟨_, rfl⟩
     have hRY : R < Y := by rw [hR]; exact Nat.mod_lt _ hYp
     have e11 : IntKind.u64.wrap (IntKind.u64.wrap (IntKind.u64.wrap (Ui * 4294967296) + v1i) - IntKind.u64.wrap (k1i * Yi)) = Ri := by
      rw [hRi, hR, HK.out, HI.out.2.1, HI.out.2.2.2.2.1, HI.out.1]; exact digit_rest U v1 Y k1 hYp hYl HQ2.out
     have bR : 0 ≤ Ri ∧ Ri ≤ 18446744073709551615 := by omega
     have HR : Hid (R = (U * 4294967296 + v1) % Y ∧ Ri = (R : Int)) := ⟨hR, hRi⟩
     obtain ⟨q2, r2, e12, e13, hr2, hG3⟩ := digit_parts R v0 y1 y0 (by omega) HB.out.1 HB.out.2.1 HB.out.2.2.1 HB.out.2.2.2.2.1 (by rw [← HY.out]; exact hRY)
     obtain ⟨q2i, hq2i⟩ : ∃ x : Int, x = (q2 : Int) := ⟨_, rfl⟩
     obtain ⟨r2i, hr2i⟩ : ∃ x : Int, x = (r2 : Int) := ⟨_, rfl⟩
     rw [← hRi, ← HI.out.2.2.1, ← hq2i] at e12
     rw [← hRi, ← HI.out.2.2.1, ← hq2i, ← hr2i] at e13
     have bq2 : 0 ≤ q2i ∧ q2i ≤ 4294967297 := by have := hG3.2.2; omega
     have br2 : 0 ≤ r2i ∧ r2i ≤ 4294967295 := by omega
     have HQ3 : Hid (q2i = (q2 : Int) ∧ r2i = (r2 : Int)) := ⟨hq2i, hr2i⟩
     have HG3 : Hid (Guess R v0 y1 y0 q2 r2) := hG3
     have HRY : Hid (R < Y) := hRY
     have HYP : Hid (0 < Y ∧ Y < 18446744073709551616) := ⟨hYp, hYl⟩
     clear hG3 hRY hR hRi hq2i hr2i hr2 HQ2 HK hk1 hYp hYl
     go_wp2_with fail
     clear e10 HP bp
     go_loop [18, 16] (fun vq vr => ∃ (qi ri : Int) (q r : Nat), vq = .int .u64 qi ∧ vr = .int .u64 ri ∧ Hid (qi = (q : Int) ∧ ri = (r : Int)) ∧ (0 ≤ qi ∧ qi ≤ 4294967297) ∧ (0 ≤ ri ∧ ri ≤ 4294967295) ∧ Hid (Guess R v0 y1 y0 q r)) (fun vq _ => (intOf vq).toNat)
     case atStart => exact ⟨q2i, r2i, _, _, (by first | rfl | rw [e12]), rfl, HQ3, bq2, br2, HG3⟩
     case round =>
      clear e11 e12 e13 HG3 bq2 br2 HQ3
      obtain ⟨qi, ri, q, r, rfl, rfl, HQR, bq, br, HG⟩ := hrel
      obtain ⟨p, hpe⟩ : ∃ p : Nat, p = q * y0 := ⟨_, rfl⟩
      obtain ⟨pi, hpi⟩ : ∃ x : Int, x = (p : Int) := ⟨_, rfl⟩
      have hp : p ≤ 18446744073709551615 := by
       have h1 := HQR.out; have h2 := HB.out
       rw [hpe]; exact Nat.le_trans (Nat.mul_le_mul (show q ≤ 4294967297 by omega) (show y0 ≤ 4294967295 by omega)) (by decide)
      have e10 : IntKind.u64.wrap (qi * y0i) = pi := by rw [HQR.out.1, HI.out.2.2.2.1, hpi, mul_words q y0 (by omega), hpe]
      have bp : 0 ≤ pi ∧ pi ≤ 18446744073709551615 := by omega
      have HP : Hid (p = q * y0 ∧ pi = (p : Int)) := ⟨hpe, hpi⟩
      clear hpe hpi hp
      have HST : Hid (4294967296 ≤ qi ∨ 4294967296 * ri + v0i < pi → 1 ≤ q ∧ Guess R v0 y1 y0 (q - 1) (r + y1)) := fun hc => by
       have h1 := HQR.out; have h2 := HP.out; have h3 := HI.out; have h4 := HB.out
       exact guess_step R v0 y1 y0 q r (by omega) (by rw [← HY.out]; exact HRY.out) HG.out (by rw [← h2.1]; omega)
      by_cases hc : 4294967296 ≤ qi ∨ 4294967296 * ri + v0i < pi
      ·obtain ⟨hq1, hG2⟩ := HST.out hc
       have HG2 : Hid (Guess R v0 y1 y0 (q - 1) (r + y1)) := hG2
       have hq1i : 1 ≤ qi := by have h1 := HQR.out; omega
       clear hG2 HST hq1
       by_cases hb : 4294967296 ≤ ri + y1i
       ·have HQ2 : Hid (q - 1 = (R * 4294967296 + v0) / Y) := by
         have h1 := HQR.out; have h3 := HI.out; have h4 := HB.out
         rw [HY.out]; exact guess_break _ _ y1 y0 _ _ (by omega) (by omega) HG2.out (by omega) (by omega)
        obtain ⟨k2i, rfl⟩ : ∃ k, qi = k + 1 := ⟨qi - 1, by omega⟩
        obtain ⟨k2, rfl⟩ : ∃ k, q = k + 1 := ⟨q - 1, by have h1 := HQR.out; omega⟩
        have HK : Hid (k2i = (k2 : Int)) := by have h1 := HQR.out; rw [Hid]; omega
        have HQ2 : Hid (k2 = (R * 4294967296 + v0) / Y) := by have := HQ2.out; rwa [Nat.add_sub_cancel] at this
        clear HG HG2 HQR
        by_cases hq : 4294967296 ≤ k2i + 1
        ·clear hc
         have hk2 : k2 < 4294967296 := by rw [HQ2.out, Nat.div_lt_iff_lt_mul HYP.out.1]; have h1 := HRY.out; have h2 := HB.out; omega
         have bk2 : 0 ≤ k2i ∧ k2i ≤ 4294967295 := by have := HK.out; omega
         obtain ⟨T, hT⟩ : ∃ T : Nat, T = (R * 4294967296 + v0) % Y := ⟨_, rfl⟩
         obtain ⟨Ti, hTi⟩ : ∃ x : Int, x = (T : Int) := ⟨_, rfl⟩
         have e14 : IntKind.u64.wrap (IntKind.u64.wrap (IntKind.u64.wrap (Ri * 4294967296) + v0i) - IntKind.u64.wrap (k2i * Yi)) = Ti := by
          rw [hTi, hT, HK.out, HR.out.2, HI.out.2.2.2.2.2, HI.out.1]; exact digit_rest R v0 Y k2 HYP.out.1 HYP.out.2 HQ2.out
         have HT : Hid (T = (R * 4294967296 + v0) % Y ∧ Ti = (T : Int)) := ⟨hT, hTi⟩
         have bT : 0 ≤ Ti := by omega
         clear hT hTi hk2
         go_wp2_with fail
         go_ret2
         obtain ⟨t1, t2⟩ := div64_end hi lo y s U v1 v0 Y k1 k2 (by omega) HYy.out HUV.out HQ1.out (by rw [← HR.out.1]; exact HQ2.out)
         have t3 : T / 2 ^ s = (hi * 18446744073709551616 + lo) % y := by rw [← t2, ← HR.out.1, ← HT.out.1]
         exact ⟨nret_two (by rw [HK1.out, HK.out]; exact end_quo _ _ _ _ _ t1) (by rw [HT.out.2, div_pow_cast]; exact end_rem _ _ _ _ t3), Below.refl _ _⟩
        ·have hc2 : 4294967296 * ri + v0i < pi := by omega
         clear hc
         have hk2 : k2 < 4294967296 := by rw [HQ2.out, Nat.div_lt_iff_lt_mul HYP.out.1]; have h1 := HRY.out; have h2 := HB.out; omega
         have bk2 : 0 ≤ k2i ∧ k2i ≤ 4294967295 := by have := HK.out; omega
         obtain ⟨T, hT⟩ : ∃ T : Nat, T = (R * 4294967296 + v0) % Y := ⟨_, rfl⟩
         obtain ⟨Ti, hTi⟩ : ∃ x : Int, x = (T : Int) := ⟨_, rfl⟩
         have e14 : IntKind.u64.wrap (IntKind.u64.wrap (IntKind.u64.wrap (Ri * 4294967296) + v0i) - IntKind.u64.wrap (k2i * Yi)) = Ti := by
          rw [hTi, hT, HK.out, HR.out.2, HI.out.2.2.2.2.2, HI.out.1]; exact digit_rest R v0 Y k2 HYP.out.1 HYP.out.2 HQ2.out
         have HT : Hid (T = (R * 4294967296 + v0) % Y ∧ Ti = (T : Int)) := ⟨hT, hTi⟩
         have bT : 0 ≤ Ti := by omega
         clear hT hTi hk2
         go_wp2_with fail
         go_ret2
         obtain ⟨t1, t2⟩ := div64_end hi lo y s U v1 v0 Y k1 k2 (by omega) HYy.out HUV.out HQ1.out (by rw [← HR.out.1]; exact HQ2.out)
         have t3 : T / 2 ^ s = (hi * 18446744073709551616 + lo) % y := by rw [← t2, ← HR.out.1, ← HT.out.1]
         exact ⟨nret_two (by rw [HK1.out, HK.out]; exact end_quo _ _ _ _ _ t1) (by rw [HT.out.2, div_pow_cast]; exact end_rem _ _ _ _ t3), Below.refl _ _⟩
       ·have HNX : Hid (qi - 1 = ((q - 1 : Nat) : Int) ∧ ri + y1i = ((r + y1 : Nat) : Int)) := by have h1 := HQR.out; have h3 := HI.out; rw [Hid]; omega
        by_cases hq : 4294967296 ≤ qi
        ·clear hc
         go_wp2_with fail
         go_round
         case rel => exact ⟨qi - 1, ri + y1i, q - 1, r + y1, rfl, rfl, HNX, by omega, by omega, HG2⟩
         case measure => simp [intOf]; omega
        ·have hc2 : 4294967296 * ri + v0i < pi := by omega
         clear hc
         go_wp2_with fail
         go_round
         case rel => exact ⟨qi - 1, ri + y1i, q - 1, r + y1, rfl, rfl, HNX, by omega, by omega, HG2⟩
         case measure => simp [intOf]; omega
      ·have HQ2' : Hid (q = (R * 4294967296 + v0) / Y) := by
        have h1 := HQR.out; have h2 := HP.out; have h3 := HI.out; have h4 := HB.out
        rw [HY.out]; exact guess_end _ _ y1 y0 _ _ (by omega) HG.out (by rw [← h2.1]; omega)
       obtain ⟨k2, hke⟩ : ∃ k, k = q := ⟨_, rfl⟩
       obtain ⟨k2i, hkei⟩ : ∃ k, k = qi := ⟨_, rfl⟩
       have HQ2 : Hid (k2 = (R * 4294967296 + v0) / Y) := by rw [Hid, hke]; exact HQ2'
       have HK : Hid (k2i = (k2 : Int)) := by have h1 := HQR.out; rw [Hid]; omega
       have hq : qi < 4294967296 := by omega
       have hc2 : pi ≤ 4294967296 * ri + v0i := by omega
       clear hc HG HST HQ2' HQR
       subst hkei hke
       have hk2 : k2 < 4294967296 := by rw [HQ2.out, Nat.div_lt_iff_lt_mul HYP.out.1]; have h1 := HRY.out; have h2 := HB.out; omega
       have bk2 : 0 ≤ k2i ∧ k2i ≤ 4294967295 := by have := HK.out; omega
       obtain ⟨T, hT⟩ : ∃ T : Nat, T = (R * 4294967296 + v0) % Y := ⟨_, rfl⟩
       obtain ⟨Ti, hTi⟩ : ∃ x : Int, x = (T : Int) := ⟨_, rfl⟩
       have e14 : IntKind.u64.wrap (IntKind.u64.wrap (IntKind.u64.wrap (Ri * 4294967296) + v0i) - IntKind.u64.wrap (k2i * Yi)) = Ti := by
        rw [hTi, hT, HK.out, HR.out.2, HI.out.2.2.2.2.2, HI.out.1]; exact digit_rest R v0 Y k2 HYP.out.1 HYP.out.2 HQ2.out
       have HT : Hid (T = (R * 4294967296 + v0) % Y ∧ Ti = (T : Int)) := ⟨hT, hTi⟩
       have bT : 0 ≤ Ti := by omega
       clear hT hTi hk2
       go_wp2_with fail
       go_ret2
       obtain ⟨t1, t2⟩ := div64_end hi lo y s U v1 v0 Y k1 k2 (by omega) HYy.out HUV.out HQ1.out (by rw [← HR.out.1]; exact HQ2.out)
       have t3 : T / 2 ^ s = (hi * 18446744073709551616 + lo) % y := by rw [← t2, ← HR.out.1, ← HT.out.1]
       exact ⟨nret_two (by rw [HK1.out, HK.out]; exact end_quo _ _ _ _ _ t1) (by rw [HT.out.2, div_pow_cast]; exact end_rem _ _ _ _ t3), Below.refl _ _⟩
   ·have HNX : Hid (qi - 1 = ((q - 1 : Nat) : Int) ∧ ri + y1i = ((r + y1 : Nat) : Int)) := by have h1 := HQR.out; have h3 := HI.out; rw [Hid]; omega
    by_cases hq : 4294967296 ≤ qi
    ·clear hc
     go_wp2_with fail
     go_round
     case rel => exact ⟨qi - 1, ri + y1i, q - 1, r + y1, rfl, rfl, HNX, by omega, by omega, HG2⟩
     case measure => simp [intOf]; omega
    ·have hc2 : 4294967296 * ri + v1i < pi := by omega
     clear hc
     go_wp2_with fail
     go_round
     case rel => exact ⟨qi - 1, ri + y1i, q - 1, r + y1, rfl, rfl, HNX, by omega, by omega, HG2⟩
     case measure => simp [intOf]; omega
  ·have HQ2' : Hid (q = (U * 4294967296 + v1) / Y) := by
    have h1 := HQR.out; have h2 := HP.out; have h3 := HI.out; have h4 := HB.out
    rw [HY.out]; exact guess_end _ _ y1 y0 _ _ (by omega) HG.out (by rw [← h2.1]; omega)
   obtain ⟨k1, hke⟩ : ∃ k, k = q := ⟨_, rfl⟩
   obtain ⟨k1i, hkei⟩ : ∃ k, k = qi := ⟨_, rfl⟩
   have HQ2 : Hid (k1 = (U * 4294967296 + v1) / Y) := by rw [Hid, hke]; exact HQ2'
   have HK : Hid (k1i = (k1 : Int)) := by have h1 := HQR.out; rw [Hid]; omega
   have hq : qi < 4294967296 := by omega
   have hc2 : pi ≤ 4294967296 * ri + v1i := by omega
   clear hc HG HST HQ2' HQR
   subst hkei hke
   have hYp : 0 < Y := by have := HI.out; omega
   have hYl : Y < 18446744073709551616 := HB.out.2.2.2.2.2.1
   have hk1 : k1 < 4294967296 := by rw [HQ2.out, Nat.div_lt_iff_lt_mul hYp]; have h1 := HUY.out; have h2 := HB.out; omega
   have bk1 : 0 ≤ k1i ∧ k1i ≤ 4294967295 := by have := HK.out; omega
   have HQ1 : Hid (k1 = (U * 4294967296 + v1) / Y) := HQ2
   have HK1 : Hid (k1i = (k1 : Int)) := HK
   obtain ⟨R, hR⟩ : ∃ R : Nat, R = (U * 4294967296 + v1) % Y := ⟨_, rfl⟩
   obtain ⟨Ri, hRi⟩ : ∃ x : Int, x = (R : Int) := ⟨_, rfl⟩
   have hRY : R < Y := by rw [hR]; exact Nat.mod_lt _ hYp
   have e11 : IntKind.u64.wrap (IntKind.u64.wrap (IntKind.u64.wrap (Ui * 4294967296) + v1i) - IntKind.u64.wrap (k1i * Yi)) = Ri := by
    rw [hRi, hR, HK.out, HI.out.2.1, HI.out.2.2.2.2.1, HI.out.1]; exact digit_rest U v1 Y k1 hYp hYl HQ2.out
   have bR : 0 ≤ Ri ∧ Ri ≤ 18446744073709551615 := by omega
   have HR : Hid (R = (U * 4294967296 + v1) % Y ∧ Ri = (R : Int)) := ⟨hR, hRi⟩
   obtain ⟨q2, r2, e12, e13, hr2, hG3⟩ := digit_parts R v0 y1 y0 (by omega) HB.out.1 HB.out.2.1 HB.out.2.2.1 HB.out.2.2.2.2.1 (by rw [← HY.out]; exact hRY)
   obtain ⟨q2i, hq2i⟩ : ∃ x : Int, x = (q2 : Int) := ⟨_, rfl⟩
   obtain ⟨r2i, hr2i⟩ : ∃ x : Int, x = (r2 : Int) := ⟨_, rfl⟩
   rw [← hRi, ← HI.out.2.2.1, ← hq2i] at e12
   rw [← hRi, ← HI.out.2.2.1, ← hq2i, ← hr2i] at e13
   have bq2 : 0 ≤ q2i ∧ q2i ≤ 4294967297 := by have := hG3.2.2; omega
   have br2 : 0 ≤ r2i ∧ r2i ≤ 4294967295 := by omega
   have HQ3 : Hid (q2i = (q2 : Int) ∧ r2i = (r2 : Int)) := ⟨hq2i, hr2i⟩
   have HG3 : Hid (Guess R v0 y1 y0 q2 r2) := hG3
   have HRY : Hid (R < Y) := hRY
   have HYP : Hid (0 < Y ∧ Y < 18446744073709551616) := ⟨hYp, hYl⟩
   clear hG3 hRY hR hRi hq2i hr2i hr2 HQ2 HK hk1 hYp hYl
   go_wp2_with fail
   clear e10 HP bp
   go_loop [18, 16] (fun vq vr => ∃ (qi ri : Int) (q r : Nat), vq = .int .u64 qi ∧ vr = .int .u64 ri ∧ Hid (qi = (q : Int) ∧ ri = (r : Int)) ∧ (0 ≤ qi ∧ qi ≤ 4294967297) ∧ (0 ≤ ri ∧ ri ≤ 4294967295) ∧ Hid (Guess R v0 y1 y0 q r)) (fun vq _ => (intOf vq).toNat)
   case atStart => exact ⟨q2i, r2i, _, _, (by first | rfl | rw [e12]), rfl, HQ3, bq2, br2, HG3⟩
   case round =>
    clear e11 e12 e13 HG3 bq2 br2 HQ3
    obtain ⟨qi, ri, q, r, rfl, rfl, HQR, bq, br, HG⟩ := hrel
    obtain ⟨p, hpe⟩ : ∃ p : Nat, p = q * y0 := ⟨_, rfl⟩
    obtain ⟨pi, hpi⟩ : ∃ x : Int, x = (p : Int) := ⟨_, rfl⟩
    have hp : p ≤ 18446744073709551615 := by
     have h1 := HQR.out; have h2 := HB.out
     rw [hpe]; exact Nat.le_trans (Nat.mul_le_mul (show q ≤ 4294967297 by omega) (show y0 ≤ 4294967295 by omega)) (by decide)
    have e10 : IntKind.u64.wrap (qi * y0i) = pi := by rw [HQR.out.1, HI.out.2.2.2.1, hpi, mul_words q y0 (by omega), hpe]
    have bp : 0 ≤ pi ∧ pi ≤ 18446744073709551615 := by omega
    have HP : Hid (p = q * y0 ∧ pi = (p : Int)) := ⟨hpe, hpi⟩
    clear hpe hpi hp
    have HST : Hid (4294967296 ≤ qi ∨ 4294967296 * ri + v0i < pi → 1 ≤ q ∧ Guess R v0 y1 y0 (q - 1) (r + y1)) := fun hc => by
     have h1 := HQR.out; have h2 := HP.out; have h3 := HI.out; have h4 := HB.out
     exact guess_step R v0 y1 y0 q r (by omega) (by rw [← HY.out]; exact HRY.out) HG.out (by rw [← h2.1]; omega)
    by_cases hc : 4294967296 ≤ qi ∨ 4294967296 * ri + v0i < pi
    ·obtain ⟨hq1, hG2⟩ := HST.out hc
     have HG2 : Hid (Guess R v0 y1 y0 (q - 1) (r + y1)) := hG2
     have hq1i : 1 ≤ qi := by have h1 := HQR.out; omega
     clear hG2 HST hq1
     by_cases hb : 4294967296 ≤ ri + y1i
     ·have HQ2 : Hid (q - 1 = (R * 4294967296 + v0) / Y) := by
       have h1 := HQR.out; have h3 := HI.out; have h4 := HB.out
       rw [HY.out]; exact guess_break _ _ y1 y0 _ _ (by omega) (by omega) HG2.out (by omega) (by omega)
      obtain ⟨k2i, rfl⟩ : ∃ k, qi = k + 1 := ⟨qi - 1, by omega⟩
      obtain ⟨k2, rfl⟩ : ∃ k, q = k + 1 := ⟨q - 1, by have h1 := HQR.out; omega⟩
      have HK : Hid (k2i = (k2 : Int)) := by have h1 := HQR.out; rw [Hid]; omega
      have HQ2 : Hid (k2 = (R * 4294967296 + v0) / Y) := by have := HQ2.out; rwa [Nat.add_sub_cancel] at this
      clear HG HG2 HQR
      by_cases hq : 4294967296 ≤ k2i + 1
      ·clear hc
       have hk2 : k2 < 4294967296 := by rw [HQ2.out, Nat.div_lt_iff_lt_mul HYP.out.1]; have h1 := HRY.out; have h2 := HB.out; omega
       have bk2 : 0 ≤ k2i ∧ k2i ≤ 4294967295 := by have := HK.out; omega
       obtain ⟨T, hT⟩ : ∃ T : Nat, T = (R * 4294967296 + v0) % Y := ⟨_, rfl⟩
       obtain ⟨Ti, hTi⟩ : ∃ x : Int, x = (T : Int) := ⟨_, rfl⟩
       have e14 : IntKind.u64.wrap (IntKind.u64.wrap (IntKind.u64.wrap (Ri * 4294967296) + v0i) - IntKind.u64.wrap (k2i * Yi)) = Ti := by
        rw [hTi, hT, HK.out, HR.out.2, HI.out.2.2.2.2.2, HI.out.1]; exact digit_rest R v0 Y k2 HYP.out.1 HYP.out.2 HQ2.out
       have HT : Hid (T = (R * 4294967296 + v0) % Y ∧ Ti = (T : Int)) := ⟨hT, hTi⟩
       have bT : 0 ≤ Ti := by omega
       clear hT hTi hk2
       go_wp2_with fail
       go_ret2
       obtain ⟨t1, t2⟩ := div64_end hi lo y s U v1 v0 Y k1 k2 (by omega) HYy.out HUV.out HQ1.out (by rw [← HR.out.1]; exact HQ2.out)
       have t3 : T / 2 ^ s = (hi * 18446744073709551616 + lo) % y := by rw [← t2, ← HR.out.1, ← HT.out.1]
       exact ⟨nret_two (by rw [HK1.out, HK.out]; exact end_quo _ _ _ _ _ t1) (by rw [HT.out.2, div_pow_cast]; exact end_rem _ _ _ _ t3), Below.refl _ _⟩
      ·have hc2 : 4294967296 * ri + v0i < pi := by omega
       clear hc
       have hk2 : k2 < 4294967296 := by rw [HQ2.out, Nat.div_lt_iff_lt_mul HYP.out.1]; have h1 := HRY.out; have h2 := HB.out; omega
       have bk2 : 0 ≤ k2i ∧ k2i ≤ 4294967295 := by have := HK.out; omega
       obtain ⟨T, hT⟩ : ∃ T : Nat, T = (R * 4294967296 + v0) % Y := ⟨_, rfl⟩
       obtain ⟨Ti, hTi⟩ : ∃ x : Int, x = (T : Int) := ⟨_, rfl⟩
       have e14 : IntKind.u64.wrap (IntKind.u64.wrap (IntKind.u64.wrap (Ri * 4294967296) + v0i) - IntKind.u64.wrap (k2i * Yi)) = Ti := by
        rw [hTi, hT, HK.out, HR.out.2, HI.out.2.2.2.2.2, HI.out.1]; exact digit_rest R v0 Y k2 HYP.out.1 HYP.out.2 HQ2.out
       have HT : Hid (T = (R * 4294967296 + v0) % Y ∧ Ti = (T : Int)) := ⟨hT, hTi⟩
       have bT : 0 ≤ Ti := by omega
       clear hT hTi hk2
       go_wp2_with fail
       go_ret2
       obtain ⟨t1, t2⟩ := div64_end hi lo y s U v1 v0 Y k1 k2 (by omega) HYy.out HUV.out HQ1.out (by rw [← HR.out.1]; exact HQ2.out)
       have t3 : T / 2 ^ s = (hi * 18446744073709551616 + lo) % y := by rw [← t2, ← HR.out.1, ← HT.out.1]
       exact ⟨nret_two (by rw [HK1.out, HK.out]; exact end_quo _ _ _ _ _ t1) (by rw [HT.out.2, div_pow_cast]; exact end_rem _ _ _ _ t3), Below.refl _ _⟩
     ·have HNX : Hid (qi - 1 = ((q - 1 : Nat) : Int) ∧ ri + y1i = ((r + y1 : Nat) : Int)) := by have h1 := HQR.out; have h3 := HI.out; rw [Hid]; omega
      by_cases hq : 4294967296 ≤ qi
      ·clear hc
       go_wp2_with fail
       go_round
       case rel => exact ⟨qi - 1, ri + y1i, q - 1, r + y1, rfl, rfl, HNX, by omega, by omega, HG2⟩
       case measure => simp [intOf]; omega
      ·have hc2 : 4294967296 * ri + v0i < pi := by omega
       clear hc
       go_wp2_with fail
       go_round
       case rel => exact ⟨qi - 1, ri + y1i, q - 1, r + y1, rfl, rfl, HNX, by omega, by omega, HG2⟩
       case measure => simp [intOf]; omega
    ·have HQ2' : Hid (q = (R * 4294967296 + v0) / Y) := by
      have h1 := HQR.out; have h2 := HP.out; have h3 := HI.out; have h4 := HB.out
      rw [HY.out]; exact guess_end _ _ y1 y0 _ _ (by omega) HG.out (by rw [← h2.1]; omega)
     obtain ⟨k2, hke⟩ : ∃ k, k = q := ⟨_, rfl⟩
     obtain ⟨k2i, hkei⟩ : ∃ k, k = qi := ⟨_, rfl⟩
     have HQ2 : Hid (k2 = (R * 4294967296 + v0) / Y) := by rw [Hid, hke]; exact HQ2'
     have HK : Hid (k2i = (k2 : Int)) := by have h1 := HQR.out; rw [Hid]; omega
     have hq : qi < 4294967296 := by omega
     have hc2 : pi ≤ 4294967296 * ri + v0i := by omega
     clear hc HG HST HQ2' HQR
     subst hkei hke
     have hk2 : k2 < 4294967296 := by rw [HQ2.out, Nat.div_lt_iff_lt_mul HYP.out.1]; have h1 := HRY.out; have h2 := HB.out; omega
     have bk2 : 0 ≤ k2i ∧ k2i ≤ 4294967295 := by have := HK.out; omega
     obtain ⟨T, hT⟩ : ∃ T : Nat, T = (R * 4294967296 + v0) % Y := ⟨_, rfl⟩
     obtain ⟨Ti, hTi⟩ : ∃ x : Int, x = (T : Int) := ⟨_, rfl⟩
     have e14 : IntKind.u64.wrap (IntKind.u64.wrap (IntKind.u64.wrap (Ri * 4294967296) + v0i) - IntKind.u64.wrap (k2i * Yi)) = Ti := by
      rw [hTi, hT, HK.out, HR.out.2, HI.out.2.2.2.2.2, HI.out.1]; exact digit_rest R v0 Y k2 HYP.out.1 HYP.out.2 HQ2.out
     have HT : Hid (T = (R * 4294967296 + v0) % Y ∧ Ti = (T : Int)) := ⟨hT, hTi⟩
     have bT : 0 ≤ Ti := by omega
     clear hT hTi hk2
     go_wp2_with fail
     go_ret2
     obtain ⟨t1, t2⟩ := div64_end hi lo y s U v1 v0 Y k1 k2 (by omega) HYy.out HUV.out HQ1.out (by rw [← HR.out.1]; exact HQ2.out)
     have t3 : T / 2 ^ s = (hi * 18446744073709551616 + lo) % y := by rw [← t2, ← HR.out.1, ← HT.out.1]
     exact ⟨nret_two (by rw [HK1.out, HK.out]; exact end_quo _ _ _ _ _ t1) (by rw [HT.out.2, div_pow_cast]; exact end_rem _ _ _ _ t3), Below.refl _ _⟩
theorem div64_calls (hi lo y : Nat) (w : World) (hl : lo < 18446744073709551616) (hy : y < 18446744073709551616) (h0 : hi < y) :
  Calls Tryz.prog 226 #[.int .u64 (hi : Int), .int .u64 (lo : Int), .int .u64 (y : Int)] w fun e w' => e = .returned (.tuple #[.int .u64 (((hi * 18446744073709551616 + lo) / y : Nat) : Int), .int .u64 (((hi * 18446744073709551616 + lo) % y : Nat) : Int)]) ∧ Below w.heap.size w w' := by
 rcases Nat.eq_zero_or_pos hi with h | h
 ·subst h
  have := div64_low lo y w hl hy h0
  rw [Nat.zero_mul, Nat.zero_add]
  exact this
 ·exact div64_high hi lo y w h hl hy h0
theorem below_grown {w w' : World} (h : Below w.heap.size w w') (row : Option Nat) : w.grownBy w' row := ⟨h.os, h.tape, h.output, h.size, fun k hk _ => h.block k hk⟩
theorem set_grown (w : World) (p : Addr) (u : Value) : w.grownBy (w.setCell p u) (some p.block) := ⟨rfl, rfl, rfl, by simp, fun k _ hne => Below.heap_setCell _ _ _ _ (fun e => hne (by rw [e]))⟩
theorem grown_refl (w : World) (row : Option Nat) : w.grownBy w row := ⟨rfl, rfl, rfl, Nat.le_refl _, fun _ _ _ => rfl⟩
theorem IsW.grown {w w' : World} {a : Option Addr} {len cap : Nat} {xs : List Int} {row : Option Nat} (h : IsW w a len cap xs) (hg : w.grownBy w' row) (hne : ∀ b off, a = some ⟨b, off, none⟩ → some b ≠ row) : IsW w' a len cap xs := by
 refine ⟨h.1, h.2.1, h.2.2.1, fun i hi => ?_⟩
 obtain ⟨b, off, e1, e2, e3⟩ := h.2.2.2 i hi
 exact ⟨b, off, e1, Nat.lt_of_lt_of_le e2 hg.size, hg.cell e3 (hne b off e1)⟩
theorem OwnW.grown {B : Nat} {w w' : World} {a : Option Addr} {len cap : Nat} {xs : List Int} {row : Option Nat} (h : OwnW B w a len cap xs) (hg : w.grownBy w' row) (hne : ∀ b off, a = some ⟨b, off, none⟩ → some b ≠ row) : OwnW B w' a len cap xs := by
 refine ⟨h.1.grown hg hne, fun b off i e hi => ?_⟩
 obtain ⟨b2, off2, e1, e2, _⟩ := h.1.2.2.2 i hi
 rw [e] at e1
 simp only [Option.some.injEq, Addr.mk.injEq, and_true] at e1
 obtain ⟨rfl, rfl⟩ := e1
 exact ⟨(h.2 b off i e hi).1, (World.frozen?_of_block (a := ⟨b, off + i, none⟩) (hg.block b e2 (hne b off e))).trans (h.2 b off i e hi).2⟩
theorem word_nat0 (xs : List Int) (h : AllU xs) (k : Nat) : ∃ x : Nat, xs.getD k 0 = (x : Int) ∧ x < 18446744073709551616 := by
 have := h.get k
 exact ⟨(xs.getD k 0).toNat, by omega, by omega⟩
theorem drop_val (xs : List Int) (k : Nat) (hk : k < xs.length) : val (xs.drop k) = (xs.getD k 0).toNat + 18446744073709551616 * val (xs.drop (k + 1)) := by
 rw [List.drop_eq_getElem_cons hk]
 show (xs[k]).toNat + _ = _
 simp [List.getD, hk]
theorem drop_set_val (M : List Int) (k : Nat) (v : Int) (hk : k < M.length) : val ((M.set k v).drop k) = v.toNat + 18446744073709551616 * val (M.drop (k + 1)) := by
 rw [drop_val _ k (by rw [List.length_set]; exact hk), getD_set M k k v hk, if_pos rfl]
 congr 3
 rw [List.drop_set, if_pos (by omega)]
theorem divBy_step (H D x r d : Nat) (hd : 0 < d) (hD : D = H / d) (hr : r = H % d) : (r * 18446744073709551616 + x) / d + 18446744073709551616 * D = (x + 18446744073709551616 * H) / d ∧ (r * 18446744073709551616 + x) % d = (x + 18446744073709551616 * H) % d := by
 have e := Nat.div_add_mod H d
 rw [← hD, ← hr] at e
 have e2 : x + 18446744073709551616 * H = (r * 18446744073709551616 + x) + d * (18446744073709551616 * D) := by
  rw [← e, Nat.mul_add, Nat.mul_left_comm]; omega
 rw [e2, Nat.add_mul_div_left _ _ hd, Nat.add_mul_mod_self_left]
 exact ⟨rfl, rfl⟩
theorem quo_word (r x d : Nat) (hr : r < d) (hx : x < 18446744073709551616) : (r * 18446744073709551616 + x) / d < 18446744073709551616 := by
 rw [Nat.div_lt_iff_lt_mul (by omega)]
 have := Nat.mul_le_mul_left 18446744073709551616 (show r + 1 ≤ d from hr)
 rw [Nat.mul_add] at this
 omega
set_option maxRecDepth 100000 in
set_option maxHeartbeats 1000000 in
theorem divideBy_calls (B g off : Nat) (n c d : Nat) (M0 : List Int) (w : World) (h : OwnW B w (some ⟨g, off, none⟩) n c M0) (hn : n ≤ 17592186044416) (hd : 0 < d) (hd2 : d < 18446744073709551616) :
  Calls Tryz.prog 215 #[.slice (some ⟨g, off, none⟩) n c, .int .u64 (d : Int)] w fun e w' => ∃ M, e = .returned (.int .u64 ((val M0 % d : Nat) : Int)) ∧ OwnW B w' (some ⟨g, off, none⟩) n c M ∧ val M = val M0 / d ∧ w.grownBy w' (some g) := by
 have HL0 : Hid (n = M0.length) := h.1.1
 have HU0 : Hid (AllU M0) := h.1.2.1
 go_enter Tryz.func215, Tryz.ntmps215
 go_wp2_with fail
 go_loopw [5, 6] (fun vr vi wr => ∃ (k : Nat) (M : List Int) (r : Nat), k ≤ n ∧ vi = .int .i64 ((k : Int) - 1) ∧ vr = .int .u64 (r : Int) ∧ r < d ∧ (∀ i, i < k → M.getD i 0 = M0.getD i 0) ∧ val (M.drop k) = val (M0.drop k) / d ∧ r = val (M0.drop k) % d ∧ OwnW B wr (some ⟨g, off, none⟩) n c M ∧ w.grownBy wr (some g)) (fun _ vi _ => (intOf vi + 1).toNat)
 case atStart => exact ⟨n, M0, 0, Nat.le_refl _, rfl, rfl, hd, (fun _ _ => rfl), by rw [HL0.out, List.drop_length]; simp [val], by rw [HL0.out, List.drop_length]; simp [val], h, grown_refl _ _⟩
 case round =>
  obtain ⟨k, M, r, hk, rfl, rfl, hr, hsame, hval, hrest, hO, hgr⟩ := hrel
  clear h
  have HS : Hid (∀ i, i < k → M.getD i 0 = M0.getD i 0) := hsame
  have HV : Hid (val (M.drop k) = val (M0.drop k) / d) := hval
  have HR : Hid (r = val (M0.drop k) % d) := hrest
  have HL : Hid (n = M.length) := hO.1.1
  clear hsame hval hrest
  cases k with
  | zero =>
   go_wp2_with fail
   go_ret
   have e1 := HV.out
   have e2 := HR.out
   rw [List.drop_zero] at e1 e2
   exact ⟨M, nret_int (by rw [e2]), hO, e1, hgr⟩
  | succ k =>
   obtain ⟨x, hx, hx1⟩ := word_nat0 M0 HU0.out k
   obtain ⟨_, _, e1, _, hcell⟩ := hO.1.2.2.2 k (by omega)
   simp only [Option.some.injEq, Addr.mk.injEq, and_true] at e1
   obtain ⟨rfl, rfl⟩ := e1
   have hfz := (hO.2 _ _ k rfl (by omega)).2
   rw [HS.out k (by omega), hx] at hcell
   have ek : (((k + 1 : Nat) : Int) - 1) = (k : Int) := by omega
   rw [ek]
   have HX : Hid (M0.getD k 0 = (x : Int)) := hx
   have hqw := quo_word r x d hr hx1
   have hrm := Nat.mod_lt (r * 18446744073709551616 + x) hd
   have hC := div64_calls r x d wr hx1 hd2 hr
   have HDS : Hid _ := divBy_step (val (M0.drop (k + 1))) (val (M.drop (k + 1))) x r d hd HV.out HR.out
   generalize (r * 18446744073709551616 + x) / d = q at *
   generalize (r * 18446744073709551616 + x) % d = r2 at *
   have HC : Hid _ := hC
   clear hx hC ek
   go_wp2_with fail
   refine Calls.mono HC.out ?_
   rintro e w2 ⟨rfl, hb2⟩
   have hg2 := below_grown hb2 (some g)
   have hcell2 : w2.cell? ⟨g, off + k, none⟩ = some (.int .u64 (x : Int)) := (hb2.cell (p := ⟨g, off + k, none⟩) (World.block_lt_of_cell? _ _ hcell)).trans hcell
   have hfz2 : w2.frozen? ⟨g, off + k, none⟩ = false := (hb2.frozen (p := ⟨g, off + k, none⟩) (World.block_lt_of_cell? _ _ hcell)).trans hfz
   have hO2 := hO.keep hb2
   clear hb2 hO hcell hfz HC
   go_wp2_with fail
   refine ⟨?_, by simp [intOf]⟩
   have h0 := HL.out
   have h1 := HL0.out
   have hO3 := hO2.set (i := k) (by omega) (v := (q : Int)) (by omega) (by omega)
   refine ⟨k, M.set k (q : Int), r2, by omega, rfl, rfl, hrm, fun i hi => ?_, ?_, ?_, hO3, (hgr.trans hg2).trans (set_grown _ _ _)⟩
   ·rw [getD_set M k i _ (by omega), if_neg (by omega)]; exact HS.out i (by omega)
   ·rw [drop_set_val M k _ (by omega), Int.toNat_natCast, HDS.out.1, drop_val M0 k (by omega), HX.out, Int.toNat_natCast]
   ·rw [HDS.out.2, drop_val M0 k (by omega), HX.out, Int.toNat_natCast]
end Go.Proofs.YtahpdcbmekgkfaaGreatDoor

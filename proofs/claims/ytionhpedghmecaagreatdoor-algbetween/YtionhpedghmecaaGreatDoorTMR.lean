/- The walks of the document's products. The walk of the document's Mul. The document's dyadic numbers: the product. The document's dyadic numbers: Add, Sub, Mul; the program's in the same words. -/
import Derived.Test.YtionhpedghmecaaGreatDoorNMX
import Derived.Test.YtionhpedghmecaaGreatDoorTMH
import Derived.Deep.LoopGhost
import Derived.Test.YtionhpedghmecaaGreatDoorRD13
import Derived.Test.YtionhpedghmecaaGreatDoorDTm1
import Derived.Test.YtionhpedghmecaaGreatDoorFX
import Derived.Test.YtionhpedghmecaaGreatDoorTMQ

namespace Go.Proofs.YtionhpedghmecaaGreatDoor
open Go.RowKit
theorem half_parts (x y : Nat) : x * y = (x / 4294967296) * (y / 4294967296) * 18446744073709551616 + (x % 4294967296) * (y / 4294967296) * 4294967296 + (x / 4294967296) * (y % 4294967296) * 4294967296 + (x % 4294967296) * (y % 4294967296) := by
 have hx := Nat.div_add_mod x 4294967296
 have hy := Nat.div_add_mod y 4294967296
 conv => lhs; rw [← hx, ← hy]
 rw [Nat.add_mul, Nat.mul_add, Nat.mul_add]
 generalize x / 4294967296 = b
 generalize x % 4294967296 = a
 generalize y / 4294967296 = d
 generalize y % 4294967296 = c
 have e1 : 4294967296 * b * (4294967296 * d) = b * d * 18446744073709551616 := by rw [Nat.mul_mul_mul_comm, Nat.mul_comm (4294967296 * 4294967296)]
 have e2 : 4294967296 * b * c = b * c * 4294967296 := by rw [Nat.mul_assoc, Nat.mul_comm]
 have e3 : a * (4294967296 * d) = a * d * 4294967296 := by rw [Nat.mul_left_comm, Nat.mul_comm]
 rw [e1, e2, e3]; omega
theorem half_le (a c : Nat) (ha : a < 4294967296) (hc : c < 4294967296) : a * c ≤ 18446744065119617025 := by
 have := Nat.mul_le_mul (show a ≤ 4294967295 by omega) (show c ≤ 4294967295 by omega)
 omega
set_option maxRecDepth 100000 in
set_option maxHeartbeats 1000000 in
theorem nTimes_calls (x y : Nat) (w : World) (hx : x < 18446744073709551616) (hy : y < 18446744073709551616) :
  Calls Tryz.prog 61 #[.int .u64 (x : Int), .int .u64 (y : Int)] w fun e w' => e = .returned (.tuple #[.int .u64 (mL x y : Nat), .int .u64 (mH x y : Nat)]) ∧ w' = w := by
 have hxy := half_parts x y
 obtain ⟨a, ha⟩ : ∃ a, a = x % 4294967296 := ⟨_, rfl⟩
 obtain ⟨b, hb⟩ : ∃ b, b = x / 4294967296 := ⟨_, rfl⟩
 obtain ⟨c, hc⟩ : ∃ c, c = y % 4294967296 := ⟨_, rfl⟩
 obtain ⟨d, hd⟩ : ∃ d, d = y / 4294967296 := ⟨_, rfl⟩
 rw [← ha, ← hb, ← hc, ← hd] at hxy
 have r1 : (x : Int) % 4294967296 = (a : Int) := by omega
 have r2 : (x : Int) / 4294967296 = (b : Int) := by omega
 have r3 : (y : Int) % 4294967296 = (c : Int) := by omega
 have r4 : (y : Int) / 4294967296 = (d : Int) := by omega
 have l1 := half_le a c (by omega) (by omega)
 have l2 := half_le b c (by omega) (by omega)
 have l3 := half_le a d (by omega) (by omega)
 have l4 := half_le b d (by omega) (by omega)
 have r5 : IntKind.u64.wrap ((a : Int) * (c : Int)) = ((a * c : Nat) : Int) := by rw [mul_words a c (by omega)]
 have r6 : IntKind.u64.wrap ((b : Int) * (c : Int)) = ((b * c : Nat) : Int) := by rw [mul_words b c (by omega)]
 have r7 : IntKind.u64.wrap ((a : Int) * (d : Int)) = ((a * d : Nat) : Int) := by rw [mul_words a d (by omega)]
 have r8 : IntKind.u64.wrap ((b : Int) * (d : Int)) = ((b * d : Nat) : Int) := by rw [mul_words b d (by omega)]
 clear ha hb hc hd
 generalize a * c = p at *
 generalize b * c = q at *
 generalize a * d = s at *
 generalize b * d = t at *
 obtain ⟨md, hmd⟩ : ∃ m, m = q + p / 4294967296 := ⟨_, rfl⟩
 obtain ⟨o, ho⟩ : ∃ o, o = s + md % 4294967296 := ⟨_, rfl⟩
 have HL : Hid (p % 4294967296 + o % 4294967296 * 4294967296 = mL x y) := by rw [Hid, mL, hxy]; omega
 have HH : Hid (t + md / 4294967296 + o / 4294967296 = mH x y) := by rw [Hid, mH, hxy]; omega
 obtain ⟨pi, hpi⟩ : ∃ v : Int, v = (p : Int) := ⟨_, rfl⟩
 obtain ⟨qi, hqi⟩ : ∃ v : Int, v = (q : Int) := ⟨_, rfl⟩
 obtain ⟨si, hsi⟩ : ∃ v : Int, v = (s : Int) := ⟨_, rfl⟩
 obtain ⟨ti, hti⟩ : ∃ v : Int, v = (t : Int) := ⟨_, rfl⟩
 rw [← hpi] at r5
 rw [← hqi] at r6
 rw [← hsi] at r7
 rw [← hti] at r8
 have b1 : 0 ≤ pi ∧ pi ≤ 18446744065119617025 := by omega
 have b2 : 0 ≤ qi ∧ qi ≤ 18446744065119617025 := by omega
 have b3 : 0 ≤ si ∧ si ≤ 18446744065119617025 := by omega
 have b4 : 0 ≤ ti ∧ ti ≤ 18446744065119617025 := by omega
 have HI : Hid (pi = (p : Int) ∧ qi = (q : Int) ∧ si = (s : Int) ∧ ti = (t : Int) ∧ md = q + p / 4294967296 ∧ o = s + md % 4294967296) := ⟨hpi, hqi, hsi, hti, hmd, ho⟩
 have HB : Hid (t + md / 4294967296 + o / 4294967296 < 18446744073709551616) := by rw [HH.out]; exact mH_lt x y hx hy
 clear hpi hqi hsi hti hmd ho hxy l1 l2 l3 l4
 go_enter Tryz.func61, Tryz.ntmps61
 go_wp2_with fail
 go_ret2
 have hI := HI.out
 have h1 := HL.out
 have h2 := HH.out
 have h3 := HB.out
 refine ⟨nret_two ?_ ?_, rfl⟩
 ·(try simp only [IntKind.wrap_u64]); omega
 ·(try simp only [IntKind.wrap_u64]); omega
end Go.Proofs.YtionhpedghmecaaGreatDoor

namespace Go.Proofs.YtionhpedghmecaaGreatDoor
open Go.RowKit
theorem mulIn_step (M M' Y : List Int) (i j x y c t0 t hi : Nat) (hl : i + j < M'.length) (h0 : M'.getD (i + j) 0 = (t0 : Int)) (hy : Y.getD j 0 = (y : Int))
  (hv : val M' + 18446744073709551616 ^ (i + j) * c = val M + 18446744073709551616 ^ i * (x * low Y j)) (hw : t + 18446744073709551616 * hi = x * y + t0 + c) :
  val (M'.set (i + j) (t : Int)) + 18446744073709551616 ^ (i + (j + 1)) * hi = val M + 18446744073709551616 ^ i * (x * low Y (j + 1)) := by
 have e1 := val_set M' (i + j) (t : Int) hl
 rw [h0, Int.toNat_natCast, Int.toNat_natCast] at e1
 have e2 : low Y (j + 1) = low Y j + 18446744073709551616 ^ j * y := by show low Y j + _ * (Y.getD j 0).toNat = _; rw [hy, Int.toNat_natCast]
 have e3 := congrArg (18446744073709551616 ^ (i + j) * ·) hw
 simp only [Nat.mul_add] at e3
 have e4 : 18446744073709551616 ^ i * (x * (18446744073709551616 ^ j * y)) = 18446744073709551616 ^ (i + j) * (x * y) := by
  rw [Nat.pow_add, Nat.mul_left_comm x, Nat.mul_assoc]
 have e5 : 18446744073709551616 ^ (i + (j + 1)) * hi = 18446744073709551616 ^ (i + j) * (18446744073709551616 * hi) := by
  rw [← Nat.add_assoc, Nat.pow_succ, Nat.mul_assoc]
 rw [e2, Nat.mul_add, Nat.mul_add, e4, e5]
 omega
theorem mulOut_step (M M' X : List Int) (i m x c V : Nat) (hl : i + m < M'.length) (h0 : M'.getD (i + m) 0 = 0) (hx : X.getD i 0 = (x : Int))
  (hM : val M = low X i * V) (hv : val M' + 18446744073709551616 ^ (i + m) * c = val M + 18446744073709551616 ^ i * (x * V)) :
  val (M'.set (i + m) (c : Int)) = low X (i + 1) * V := by
 have e1 := val_set M' (i + m) (c : Int) hl
 rw [h0, Int.toNat_natCast, Int.toNat_zero, Nat.mul_zero, Nat.add_zero] at e1
 have e3 : low X (i + 1) = low X i + 18446744073709551616 ^ i * x := by show low X i + _ * (X.getD i 0).toNat = _; rw [hx, Int.toNat_natCast]
 rw [e1, hv, e3, Nat.add_mul, hM, Nat.mul_assoc]
theorem mul_split (x y : Nat) (hx : x < 18446744073709551616) (hy : y < 18446744073709551616) : mL x y + 18446744073709551616 * mH x y = x * y ∧ mL x y < 18446744073709551616 ∧ mH x y ≤ 18446744073709551614 := by
 have h1 : x * y ≤ 18446744073709551615 * 18446744073709551615 := Nat.mul_le_mul (by omega) (by omega)
 unfold mL mH
 generalize x * y = p at *
 omega
set_option maxRecDepth 100000 in
set_option maxHeartbeats 4000000 in
theorem nMul_calls (a a' : Option Addr) (len cap len' cap' : Nat) (xs ys : List Int) (w : World) (h : IsW w a len cap xs) (h' : IsW w a' len' cap' ys) (hm : len ≤ 17592186044416) (hm' : len' ≤ 17592186044416)
  (hq : (wordsOf (val xs)).length + (wordsOf (val ys)).length ≤ 17592186044415) :
  Calls Tryz.prog 34 #[.slice a len cap, .slice a' len' cap'] w fun e w' => ∃ (ao : Option Addr) (cv : Nat), e = .returned (.slice ao (wordsOf (val xs * val ys)).length cv) ∧ Own w.heap.size w' ao cv (wordsOf (val xs * val ys)) ∧ Below w.heap.size w w' := by
 have C1 : Hid _ := nNorm_calls a len cap xs w h hm
 obtain ⟨X, hX⟩ : ∃ X, X = wordsOf (val xs) := ⟨_, rfl⟩
 obtain ⟨Y, hY⟩ : ∃ Y, Y = wordsOf (val ys) := ⟨_, rfl⟩
 obtain ⟨n, hn⟩ : ∃ n, n = X.length := ⟨_, rfl⟩
 obtain ⟨m, hm2⟩ : ∃ m, m = Y.length := ⟨_, rfl⟩
 have HQ : Hid (n + m ≤ 17592186044415) := by rw [Hid, hn, hm2, hX, hY]; exact hq
 have XU : Hid (AllU X) := by rw [hX]; exact words_U _
 have YU : Hid (AllU Y) := by rw [hY]; exact words_U _
 have VX : Hid (val X = val xs) := by rw [hX]; exact val_words _
 have VY : Hid (val Y = val ys) := by rw [hY]; exact val_words _
 have NX : Hid (n = X.length) := hn
 have NY : Hid (m = Y.length) := hm2
 have EX : Hid (X = wordsOf (val xs)) := hX
 have EY : Hid (Y = wordsOf (val ys)) := hY
 rw [← hX, ← hn] at C1
 clear hX hY hn hm2 hq h hm
 go_enter Tryz.func34, Tryz.ntmps34
 go_wp2_with fail
 refine Calls.mono C1.out ?_
 rintro e w1 ⟨a1, c1, rfl, hO1, hb1⟩
 have C2 : Hid _ := nNorm_calls a' len' cap' ys w1 (h'.keep hb1) hm'
 rw [← EY.out, ← NY.out] at C2
 have I1 := hO1.isW' XU.out NX.out.symm
 clear h' hm' hO1 C1
 go_wp2_with fail
 refine Calls.mono C2.out ?_
 rintro e w2 ⟨a2, c2, rfl, hO2, hb2⟩
 have I2 := hO2.isW' YU.out NY.out.symm
 have I1 := I1.keep hb2
 have hb12 := nT hb1 hb2
 have hq := HQ.out
 obtain ⟨w3, hmk, hO3, hb3, hz3⟩ := make_words 25 nat_T w2 (n + m + 1) (by omega)
 rw [show ((n + m + 1 : Nat) : Int) = (n : Int) + m + 1 by omega] at hmk
 clear hO2 C2 hb1 hb2
 go_wp2_with fail
 clear hmk
 have HZ0 : Hid (OwnW w2.heap.size w3 (some ⟨w2.heap.size, 0, none⟩) (n + m + 1) (n + m + 1) (zeros (n + m + 1)) ∧ Below w2.heap.size w2 w3) := ⟨hO3, hb3⟩
 clear hO3 hb3
 go_loopg [28] n (fun g vi wr => ∃ (i : Nat) (M : List Int), i ≤ n ∧ g = n - i ∧ vi = .int .i64 i ∧ Hid (∀ j, i + m ≤ j → M.getD j 0 = 0) ∧ Hid (val M = low X i * val Y) ∧ OwnW w2.heap.size wr (some ⟨w2.heap.size, 0, none⟩) (n + m + 1) (n + m + 1) M ∧ Below w2.heap.size w2 wr)
 case atStart => exact ⟨0, zeros (n + m + 1), by omega, rfl, rfl, fun j _ => zeros_get _ j, by rw [Hid, val_zeros]; simp [low], HZ0.out.1, HZ0.out.2⟩
 case round =>
  obtain ⟨i, M, hi, rfl, rfl, HZ, HV, hO, hbr⟩ := hrel
  clear HZ0 hz3
  by_cases hlt : i < n
  ·obtain ⟨ba, oa, hae, hal, hac⟩ := I1.2.2.2 i hlt
   obtain ⟨x, hx, hx1⟩ := word_nat0 X XU.out i
   have hac2 : wr.cell? ⟨ba, oa + i, none⟩ = some (.int .u64 (x : Int)) := by rw [← hx]; exact (hbr.cell (p := ⟨ba, oa + i, none⟩) hal).trans hac
   have HXX : Hid (X.getD i 0 = (x : Int)) := hx
   have I1' : Hid _ := I1
   subst hae
   have HM0 : Hid (OwnW w2.heap.size wr (some ⟨w2.heap.size, 0, none⟩) (n + m + 1) (n + m + 1) M ∧ Below w2.heap.size w2 wr) := ⟨hO, hbr⟩
   clear hx hac I1 hO hbr
   go_wp2_with fail
   clear hac2
   go_loopg [8, 35] m (fun g vc vj wi => ∃ (j c : Nat) (M' : List Int), j ≤ m ∧ g = m - j ∧ vj = .int .i64 j ∧ vc = .int .u64 (c : Int) ∧ c < 18446744073709551616 ∧ Hid (∀ k, i + m ≤ k → M'.getD k 0 = 0) ∧ Hid (val M' + 18446744073709551616 ^ (i + j) * c = val M + 18446744073709551616 ^ i * (x * low Y j)) ∧ OwnW w2.heap.size wi (some ⟨w2.heap.size, 0, none⟩) (n + m + 1) (n + m + 1) M' ∧ Below w2.heap.size w2 wi)
   case atStart => exact ⟨0, 0, M, by omega, rfl, rfl, rfl, by decide, HZ, by simp [Hid, low], HM0.out.1, HM0.out.2⟩
   case round =>
    obtain ⟨j, c, M', hj, rfl, rfl, rfl, hc, HZ', HV', hO, hbr⟩ := hrel
    have HML : Hid (n + m + 1 = M'.length) := hO.1.1
    clear HM0
    by_cases hjt : j < m
    ·obtain ⟨bb, ob, hbe, hbl, hbc⟩ := I2.2.2.2 j hjt
     obtain ⟨y, hy, hy1⟩ := word_nat0 Y YU.out j
     have hbc2 : wr.cell? ⟨bb, ob + j, none⟩ = some (.int .u64 (y : Int)) := by rw [← hy]; exact (hbr.cell (p := ⟨bb, ob + j, none⟩) hbl).trans hbc
     have HYY : Hid (Y.getD j 0 = (y : Int)) := hy
     have TC : Hid _ := nTimes_calls x y wr hx1 hy1
     obtain ⟨p1, p2, p3⟩ := mul_split x y hx1 hy1
     generalize mL x y = lo at *
     generalize mH x y = hh at *
     have HP : Hid (lo + 18446744073709551616 * hh = x * y) := p1
     obtain ⟨_, _, e1, hgl, hcell⟩ := hO.1.2.2.2 (i + j) (by omega)
     simp only [Option.some.injEq, Addr.mk.injEq, and_true] at e1
     obtain ⟨rfl, rfl⟩ := e1
     have hfz := (hO.2 _ _ (i + j) rfl (by omega)).2
     rw [Nat.zero_add] at hcell hfz
     obtain ⟨t0, ht0, ht1⟩ := word_nat0 M' hO.1.2.1 (i + j)
     rw [ht0] at hcell
     have HT0 : Hid (M'.getD (i + j) 0 = (t0 : Int)) := ht0
     subst hbe
     obtain ⟨s, hs⟩ : ∃ s, s = (t0 + lo) % 18446744073709551616 := ⟨_, rfl⟩
     obtain ⟨t, ht⟩ : ∃ t, t = (s + c) % 18446744073709551616 := ⟨_, rfl⟩
     have r1 : IntKind.u64.wrap ((t0 : Int) + (lo : Int)) = (s : Int) := by rw [IntKind.wrap_u64]; omega
     have r2 : IntKind.u64.wrap ((s : Int) + (c : Int)) = (t : Int) := by rw [IntKind.wrap_u64]; omega
     have HS : Hid (s = (t0 + lo) % 18446744073709551616 ∧ t = (s + c) % 18446744073709551616) := ⟨hs, ht⟩
     have b1 : s < 18446744073709551616 ∧ t < 18446744073709551616 := by omega
     have HO : Hid _ := hO.set (i := i + j) (by omega) (v := (t : Int)) (by omega) (by omega)
     rw [Nat.zero_add] at HO
     have HB : Hid (Below w2.heap.size w2 (wr.setCell ⟨w2.heap.size, i + j, none⟩ (.int .u64 (t : Int)))) := hbr.setCell (Nat.le_refl _) _
     clear hy hbc ht0 hs ht p1 hO
     obtain ⟨k1, hk1⟩ : ∃ k1 : Nat, (s < lo → k1 = 1) ∧ (¬ s < lo → k1 = 0) := by
      by_cases q : s < lo
      ·exact ⟨1, fun _ => rfl, fun q' => absurd q q'⟩
      ·exact ⟨0, fun q' => absurd q' q, fun _ => rfl⟩
     obtain ⟨k2, hk2⟩ : ∃ k2 : Nat, (t < c → k2 = 1) ∧ (¬ t < c → k2 = 0) := by
      by_cases q : t < c
      ·exact ⟨1, fun _ => rfl, fun q' => absurd q q'⟩
      ·exact ⟨0, fun q' => absurd q' q, fun _ => rfl⟩
     have HK : Hid (((s < lo → k1 = 1) ∧ (¬ s < lo → k1 = 0)) ∧ ((t < c → k2 = 1) ∧ (¬ t < c → k2 = 0))) := ⟨hk1, hk2⟩
     have HXY : Hid (x * y ≤ 18446744073709551615 * 18446744073709551615) := Nat.mul_le_mul (by omega) (by omega)
     have HC2 : Hid (t + 18446744073709551616 * (hh + k1 + k2) = x * y + t0 + c ∧ hh + k1 + k2 < 18446744073709551616) := by
      obtain ⟨hs, ht⟩ := HS.out
      have hp := HP.out
      have hxy := HXY.out
      rw [Hid]
      generalize x * y = p at *
      omega
     clear hk1 hk2
     by_cases q1 : s < lo <;> by_cases q2 : t < c
     all_goals
      go_wp2_with fail
      refine Calls.mono TC.out ?_
      rintro e wr ⟨rfl, rfl⟩
      go_wp2_with fail
      go_roundg (m - (j + 1))
      case measure => omega
      case rel =>
       obtain ⟨hk1, hk2⟩ := HK.out
       have hML := HML.out
       refine ⟨j + 1, hh + k1 + k2, M'.set (i + j) (t : Int), by omega, rfl, by go_num, ?_, HC2.out.2, ?_, ?_, HO.out, HB.out⟩
       ·have hc2 := HC2.out.2
        first
        | (congr 1; (try simp only [IntKind.wrap_u64]); omega)
        | (simp only [IntKind.wrap_u64, Value.int.injEq, true_and]; omega)
       ·intro k hk
        rw [getD_set _ _ _ _ (by omega), if_neg (by omega)]
        exact HZ'.out k hk
       ·exact mulIn_step M M' Y i j x y c t0 t _ (by omega) HT0.out HYY.out HV'.out HC2.out.1
    ·have hjm : j = m := by omega
     subst hjm
     have HE : Hid (low Y j = val Y) := low_all Y j (by have := NY.out; omega)
     obtain ⟨_, _, e1, hgl, hcell⟩ := hO.1.2.2.2 (i + j) (by omega)
     simp only [Option.some.injEq, Addr.mk.injEq, and_true] at e1
     obtain ⟨rfl, rfl⟩ := e1
     have hfz := (hO.2 _ _ (i + j) rfl (by omega)).2
     rw [Nat.zero_add] at hcell hfz
     generalize M'.getD (i + j) 0 = oldw at hcell
     have HO : Hid _ := hO.set (i := i + j) (by omega) (v := (c : Int)) (by omega) (by omega)
     rw [Nat.zero_add] at HO
     have HB : Hid (Below w2.heap.size w2 (wr.setCell ⟨w2.heap.size, i + j, none⟩ (.int .u64 (c : Int)))) := hbr.setCell (Nat.le_refl _) _
     clear hO
     go_wp2_with fail
     go_roundg (n - (i + 1))
     case measure => omega
     case rel =>
      have hML := HML.out
      refine ⟨i + 1, M'.set (i + j) (c : Int), by omega, rfl, by go_num, ?_, ?_, HO.out, HB.out⟩
      ·intro k hk
       rw [getD_set _ _ _ _ (by omega), if_neg (by omega)]
       exact HZ'.out k (by omega)
      ·have hv := HV'.out
       rw [HE.out] at hv
       exact mulOut_step M M' X i j x c (val Y) (by omega) (HZ'.out _ (by omega)) HXX.out HV.out hv
  ·have HE : Hid (low X i = val X) := low_all X i (by have := NX.out; omega)
   have NC : Hid _ := nNorm_calls (some ⟨w2.heap.size, 0, none⟩) (n + m + 1) (n + m + 1) M wr hO.1 (by omega)
   have ev : Hid (val M = val xs * val ys) := by rw [Hid, HV.out, HE.out, VX.out, VY.out]
   rw [ev.out] at NC
   clear hO
   go_wp2_with fail
   refine Calls.mono NC.out ?_
   rintro e w4 ⟨ao4, cv4, rfl, hO4, hb4⟩
   go_wp2_with fail
   go_ret
   have hb24 := hbr.trans (hb4.mono hbr.size)
   exact ⟨ao4, cv4, rfl, hO4.low (Nat.le_trans hb12.size hbr.size), nT hb12 hb24⟩
end Go.Proofs.YtionhpedghmecaaGreatDoor

namespace Go.Proofs.YtionhpedghmecaaGreatDoor
open Go.RowKit
theorem prod_words (u v : Nat) : (wordsOf (u * v)).length ≤ (wordsOf u).length + (wordsOf v).length := by
 refine (words_len2 _ _).2 ((blen_le _ _).2 ?_)
 have h1 := (blen_le _ _).1 ((words_len2 _ u).1 (Nat.le_refl _))
 have h2 := (blen_le _ _).1 ((words_len2 _ v).1 (Nat.le_refl _))
 have h3 := Nat.mul_lt_mul'' h1 h2
 rw [← Nat.pow_add] at h3
 rw [Nat.mul_add]
 exact h3
attribute [local go_sem ↓] Go.wp_at_zero Go.wp_at_succ
set_option maxRecDepth 100000 in
set_option maxHeartbeats 8000000 in
theorem qTimes_calls (s : Bool) (a : Option Addr) (len cap : Nat) (xs : List Int) (e : Int) (t : Bool) (b : Option Addr) (len' cap' : Nat) (ys : List Int) (f : Int) (w : World) (h : IsW w a len cap xs) (hm : len ≤ 17592186044000) (h' : IsW w b len' cap' ys) (hm' : len' ≤ 17592186044000) (he : -10000000 ≤ e ∧ e ≤ 10000000) (hf : -10000000 ≤ f ∧ f ≤ 10000000) (hbx : blen (val xs) ≤ 10000000) (hby : blen (val ys) ≤ 10000000) :
  Calls Tryz.prog 12 #[dyV s a len cap e, dyV t b len' cap' f] w fun r w' => ∃ v', r = .returned v' ∧ DyQ w.heap.size w' v' (mulD (formD s (val xs) e) (formD t (val ys) f)) ∧ Below w.heap.size w w' := by
 have HX : Hid _ := fun w' g => qOne_calls s a len cap xs e w' g hm (by omega)
 have HY : Hid _ := fun w' g => qOne_calls t b len' cap' ys f w' g hm' (by omega)
 have hxb : blen (formD s (val xs) e).2.1 ≤ 10000000 := Nat.le_trans (blen_mono (form_amount_le _ _ _)) hbx
 have hyb : blen (formD t (val ys) f).2.1 ≤ 10000000 := Nat.le_trans (blen_mono (form_amount_le _ _ _)) hby
 have hxe := form_expb s (val xs) e hbx he
 have hye := form_expb t (val ys) f hby hf
 clear hbx hby
 generalize formD s (val xs) e = x at *
 generalize formD t (val ys) f = y at *
 generalize hpp : mulD x y = p
 have HP : Hid _ := hpp
 clear hpp
 have H1 : Hid (IsW w a len cap xs) := h
 have H2 : Hid (IsW w b len' cap' ys) := h'
 clear hm hm' he hf h h'
 have bw0 : Below w.heap.size w (((w.alloc (.cells #[.bool s, .slice a len cap, .int .i64 e] 27)).alloc (.cells #[.bool t, .slice b len' cap', .int .i64 f] 27)).alloc (.cells #[.bool false, .slice none 0 0, .int .i64 0] 27)) := by repeat (first | exact Below.refl _ _ | refine bl_alloc ?_ _)
 obtain ⟨k0, k1, k2, k3, k4, k5⟩ := fX2 w s a len cap e t b len' cap' f
 obtain ⟨m0, m1, m2, f0, f1, f2⟩ := zero_dy (w := ((w.alloc (.cells #[.bool s, .slice a len cap, .int .i64 e] 27)).alloc (.cells #[.bool t, .slice b len' cap', .int .i64 f] 27))) (r := w.heap.size + 1 + 1) (W' := (((w.alloc (.cells #[.bool s, .slice a len cap, .int .i64 e] 27)).alloc (.cells #[.bool t, .slice b len' cap', .int .i64 f] 27)).alloc (.cells #[.bool false, .slice none 0 0, .int .i64 0] 27))) (Below.refl _ _) (by simp)
 have hs0 : (((w.alloc (.cells #[.bool s, .slice a len cap, .int .i64 e] 27)).alloc (.cells #[.bool t, .slice b len' cap', .int .i64 f] 27)).alloc (.cells #[.bool false, .slice none 0 0, .int .i64 0] 27)).heap.size = w.heap.size + 1 + 1 + 1 := by simp
 go_enter Tryz.func12, Tryz.ntmps12
 go_upto_region 1 with fail
 generalize (((w.alloc (.cells #[.bool s, .slice a len cap, .int .i64 e] 27)).alloc (.cells #[.bool t, .slice b len' cap', .int .i64 f] 27)).alloc (.cells #[.bool false, .slice none 0 0, .int .i64 0] 27)) = w0 at *
 go_cut [5, 6] from 7 to 10 (fun v5 v6 wx => ∃ X Y : Nat, v5 = .pointer (some ⟨X, 0, none⟩) ∧ v6 = .pointer (some ⟨Y, 0, none⟩) ∧ PlusR w0 wx X Y x y)
 case first =>
  have bw : Below w0.heap.size w0 w0.drew := (Below.refl _ _).drew
  refine wp_region_held (S := fun w' => Below w0.heap.size w0 w') (by kernel_rfl) ?_
  change wpAnyH _ _ _ _ _ _ _ _ (World.drew w0)
  generalize World.drew w0 = wd at *
  refine wpAnyH_take (i := 0) (v := .agg #[.bool s, .slice a len cap, .int .i64 e]) rfl (by kernel_rfl) (by kernel_rfl) (by kernel_rfl) (fun _ _ _ h => h) (Or.inl ⟨by rfl, ?y0⟩) bw ?r0
  case y0 =>
   intro ww hS
   have q0 := kC hS k0
   have q1 := kC hS k1
   have q2 := kC hS k2
   clear hS
   go_simp
  try simp only [Act.put, List.setIfInBounds_toArray]
  refine wpAnyH_take (i := 2) (v := .agg #[.bool t, .slice b len' cap', .int .i64 f]) rfl (by kernel_rfl) (by kernel_rfl) (by kernel_rfl) (fun _ _ _ h => h) (Or.inl ⟨by rfl, ?y1⟩) bw ?r1
  case y1 =>
   intro ww hS
   have q3 := kC hS k3
   have q4 := kC hS k4
   have q5 := kC hS k5
   clear hS
   go_simp
  try simp only [Act.put]
  refine wpAnyH_ready (rs := [1, 4, 5]) (by kernel_rfl) (by simp) ?_
  refine AllReadyH.cons rfl (fun K hK => ?_) (AllReadyH.cons rfl (fun K hK => ?_) (AllReadyH.cons rfl (fun K hK => ?_) (AllReadyH.nil)))
  ·go_simp
   refine Calls.mono (HX.out _ (H1.out.keep (nT bw0 bw))) ?_
   rintro r v1 ⟨_, rfl, ⟨a1, n1, c1, rfl, HN1, hO1⟩, bN⟩
   refine hK.out _ _ (nT bw bN) (fun _ => ?_)
   clear hK K
   have hP1 := hO1.low (B' := w0.heap.size) bw.size
   replace bw := nT bw bN
   clear bN hO1
   try simp only [Act.put, List.setIfInBounds_toArray, List.set_cons_zero, List.set_cons_succ]
   refine wpAnyH_ready (rs := [3, 4, 5]) (by kernel_rfl) (by simp) ?_
   refine AllReadyH.cons rfl (fun K hK => ?_) (AllReadyH.cons rfl (fun K hK => ?_) (AllReadyH.cons rfl (fun K hK => ?_) (AllReadyH.nil)))
   ·go_simp
    refine Calls.mono (HY.out _ (H2.out.keep (nT bw0 bw))) ?_
    rintro r v2 ⟨_, rfl, ⟨a2, n2, c2, rfl, HN2, hO2⟩, bN⟩
    refine hK.out _ _ (nT bw bN) (fun _ => ?_)
    clear hK K
    replace hP1 := hP1.keep bN
    have hP2 := hO2.low (B' := w0.heap.size) bw.size
    replace bw := nT bw bN
    clear bN hO2
    try simp only [Act.put, List.setIfInBounds_toArray, List.set_cons_zero, List.set_cons_succ]
    refine wpAnyH_ready (rs := [4, 5]) (by kernel_rfl) (by simp) ?_
    refine AllReadyH.cons rfl (fun K hK => ?_) (AllReadyH.cons rfl (fun K hK => ?_) (AllReadyH.nil))
    ·go_simp
     refine hK.out _ _ (bl_alloc bw _) (fun _ => ?_)
     clear hK K
     have bN := below_one v2 (.cells #[.bool false, .slice none 0 0, .int .i64 0] 27)
     replace hP1 := hP1.keep bN
     replace hP2 := hP2.keep bN
     obtain ⟨X0, X1, X2, X3, X4, X5⟩ := zero_dy (w := v2) (r := v2.heap.size) (W' := v2.alloc (.cells #[.bool false, .slice none 0 0, .int .i64 0] 27)) (Below.refl _ _) rfl
     have XL : w0.heap.size ≤ v2.heap.size := bw.size
     replace bw := bl_alloc bw (.cells #[.bool false, .slice none 0 0, .int .i64 0] 27)
     clear bN
     try simp only [Act.put, List.setIfInBounds_toArray, List.set_cons_zero, List.set_cons_succ]
     generalize v2.alloc (.cells #[.bool false, .slice none 0 0, .int .i64 0] 27) = v3 at *
     refine wpAnyH_ready (rs := [5]) (by kernel_rfl) (by simp) ?_
     refine AllReadyH.cons rfl (fun K hK => ?_) (AllReadyH.nil)
     ·go_simp
      refine hK.out _ _ (bl_alloc bw _) (fun _ => ?_)
      clear hK K
      have bN := below_one v3 (.cells #[.bool false, .slice none 0 0, .int .i64 0] 27)
      have ne1 : v2.heap.size ≠ v3.heap.size := Nat.ne_of_lt (World.block_lt_of_cell? _ _ X0)
      have ne2 := Ne.symm ne1
      replace X3 := kF bN X0 X3
      replace X4 := kF bN X1 X4
      replace X5 := kF bN X2 X5
      replace X0 := kC bN X0
      replace X1 := kC bN X1
      replace X2 := kC bN X2
      replace hP1 := hP1.keep bN
      replace hP2 := hP2.keep bN
      obtain ⟨Y0, Y1, Y2, Y3, Y4, Y5⟩ := zero_dy (w := v3) (r := v3.heap.size) (W' := v3.alloc (.cells #[.bool false, .slice none 0 0, .int .i64 0] 27)) (Below.refl _ _) rfl
      have YL : w0.heap.size ≤ v3.heap.size := bw.size
      replace bw := bl_alloc bw (.cells #[.bool false, .slice none 0 0, .int .i64 0] 27)
      clear bN
      try simp only [Act.put, List.setIfInBounds_toArray, List.set_cons_zero, List.set_cons_succ]
      generalize v3.alloc (.cells #[.bool false, .slice none 0 0, .int .i64 0] 27) = v4 at *
      refine wpAnyH_ready (rs := [6]) (by kernel_rfl) (by simp) ?_
      refine AllReadyH.cons rfl (fun K hK => ?_) (AllReadyH.nil)
      ·go_simp
       have bS : Below w0.heap.size w0 (((v4.setCell ⟨v2.heap.size, 0, none⟩ (.bool x.1)).setCell ⟨v2.heap.size, 1, none⟩ (.slice a1 n1 c1)).setCell ⟨v2.heap.size, 2, none⟩ (.int .i64 x.2.2)) := ((bw.setCell XL _).setCell XL _).setCell XL _
       refine hK.out _ _ bS (fun _ => ?_)
       clear hK K
       replace hP1 := hP1.set_dy _ _ _ _ _ _ (.bool x.1) (.slice a1 n1 c1) (.int .i64 x.2.2) X0 X1 X2
       replace hP2 := hP2.set_dy _ _ _ _ _ _ (.bool x.1) (.slice a1 n1 c1) (.int .i64 x.2.2) X0 X1 X2
       replace Y0 := set3_cell (v0 := .bool x.1) (v1 := .slice a1 n1 c1) (v2 := .int .i64 x.2.2) Y0 (r := v2.heap.size) (by first | exact ne1 | exact ne2)
       replace Y1 := set3_cell (v0 := .bool x.1) (v1 := .slice a1 n1 c1) (v2 := .int .i64 x.2.2) Y1 (r := v2.heap.size) (by first | exact ne1 | exact ne2)
       replace Y2 := set3_cell (v0 := .bool x.1) (v1 := .slice a1 n1 c1) (v2 := .int .i64 x.2.2) Y2 (r := v2.heap.size) (by first | exact ne1 | exact ne2)
       replace Y3 := set3_frozen (r := v2.heap.size) (v0 := .bool x.1) (v1 := .slice a1 n1 c1) (v2 := .int .i64 x.2.2) Y3
       replace Y4 := set3_frozen (r := v2.heap.size) (v0 := .bool x.1) (v1 := .slice a1 n1 c1) (v2 := .int .i64 x.2.2) Y4
       replace Y5 := set3_frozen (r := v2.heap.size) (v0 := .bool x.1) (v1 := .slice a1 n1 c1) (v2 := .int .i64 x.2.2) Y5
       obtain ⟨Z0, Z1, Z2⟩ := set3_same (r := v2.heap.size) (v0 := .bool x.1) (v1 := .slice a1 n1 c1) (v2 := .int .i64 x.2.2) X0 X1 X2
       clear X0 X1 X2 X3 X4 X5 bw
       try simp only [Act.put, List.setIfInBounds_toArray, List.set_cons_zero, List.set_cons_succ]
       generalize (((v4.setCell ⟨v2.heap.size, 0, none⟩ (.bool x.1)).setCell ⟨v2.heap.size, 1, none⟩ (.slice a1 n1 c1)).setCell ⟨v2.heap.size, 2, none⟩ (.int .i64 x.2.2)) = v5 at *
       have X0 := Z0
       have X1 := Z1
       have X2 := Z2
       have bw := bS
       clear Z0 Z1 Z2 bS
       refine wpAnyH_ready (rs := [7]) (by kernel_rfl) (by simp) ?_
       refine AllReadyH.cons rfl (fun K hK => ?_) (AllReadyH.nil)
       ·go_simp
        have bS : Below w0.heap.size w0 (((v5.setCell ⟨v3.heap.size, 0, none⟩ (.bool y.1)).setCell ⟨v3.heap.size, 1, none⟩ (.slice a2 n2 c2)).setCell ⟨v3.heap.size, 2, none⟩ (.int .i64 y.2.2)) := ((bw.setCell YL _).setCell YL _).setCell YL _
        refine hK.out _ _ bS (fun _ => ?_)
        clear hK K
        replace hP1 := hP1.set_dy _ _ _ _ _ _ (.bool y.1) (.slice a2 n2 c2) (.int .i64 y.2.2) Y0 Y1 Y2
        replace hP2 := hP2.set_dy _ _ _ _ _ _ (.bool y.1) (.slice a2 n2 c2) (.int .i64 y.2.2) Y0 Y1 Y2
        replace X0 := set3_cell (v0 := .bool y.1) (v1 := .slice a2 n2 c2) (v2 := .int .i64 y.2.2) X0 (r := v3.heap.size) (by first | exact ne1 | exact ne2)
        replace X1 := set3_cell (v0 := .bool y.1) (v1 := .slice a2 n2 c2) (v2 := .int .i64 y.2.2) X1 (r := v3.heap.size) (by first | exact ne1 | exact ne2)
        replace X2 := set3_cell (v0 := .bool y.1) (v1 := .slice a2 n2 c2) (v2 := .int .i64 y.2.2) X2 (r := v3.heap.size) (by first | exact ne1 | exact ne2)
        obtain ⟨Z0, Z1, Z2⟩ := set3_same (r := v3.heap.size) (v0 := .bool y.1) (v1 := .slice a2 n2 c2) (v2 := .int .i64 y.2.2) Y0 Y1 Y2
        clear Y0 Y1 Y2 Y3 Y4 Y5 bw
        try simp only [Act.put, List.setIfInBounds_toArray, List.set_cons_zero, List.set_cons_succ]
        generalize (((v5.setCell ⟨v3.heap.size, 0, none⟩ (.bool y.1)).setCell ⟨v3.heap.size, 1, none⟩ (.slice a2 n2 c2)).setCell ⟨v3.heap.size, 2, none⟩ (.int .i64 y.2.2)) = v6 at *
        have Y0 := Z0
        have Y1 := Z1
        have Y2 := Z2
        have bw := bS
        clear Z0 Z1 Z2 bS
        refine wpAnyH_done (by kernel_rfl) ?_ _
        go_wp2_with fail
        go_meet
        case rel => exact ⟨_, _, rfl, rfl, a1, n1, c1, a2, n2, c2, X0, X1, X2, Y0, Y1, Y2, HN1, HN2, hP1, hP2, bw, XL, YL⟩
    ·go_simp
     refine hK.out _ _ (bl_alloc bw _) (fun _ => ?_)
     clear hK K
     have bN := below_one v2 (.cells #[.bool false, .slice none 0 0, .int .i64 0] 27)
     replace hP1 := hP1.keep bN
     replace hP2 := hP2.keep bN
     obtain ⟨Y0, Y1, Y2, Y3, Y4, Y5⟩ := zero_dy (w := v2) (r := v2.heap.size) (W' := v2.alloc (.cells #[.bool false, .slice none 0 0, .int .i64 0] 27)) (Below.refl _ _) rfl
     have YL : w0.heap.size ≤ v2.heap.size := bw.size
     replace bw := bl_alloc bw (.cells #[.bool false, .slice none 0 0, .int .i64 0] 27)
     clear bN
     try simp only [Act.put, List.setIfInBounds_toArray, List.set_cons_zero, List.set_cons_succ]
     generalize v2.alloc (.cells #[.bool false, .slice none 0 0, .int .i64 0] 27) = v7 at *
     refine wpAnyH_ready (rs := [4]) (by kernel_rfl) (by simp) ?_
     refine AllReadyH.cons rfl (fun K hK => ?_) (AllReadyH.nil)
     ·go_simp
      refine hK.out _ _ (bl_alloc bw _) (fun _ => ?_)
      clear hK K
      have bN := below_one v7 (.cells #[.bool false, .slice none 0 0, .int .i64 0] 27)
      have ne1 : v2.heap.size ≠ v7.heap.size := Nat.ne_of_lt (World.block_lt_of_cell? _ _ Y0)
      have ne2 := Ne.symm ne1
      replace Y3 := kF bN Y0 Y3
      replace Y4 := kF bN Y1 Y4
      replace Y5 := kF bN Y2 Y5
      replace Y0 := kC bN Y0
      replace Y1 := kC bN Y1
      replace Y2 := kC bN Y2
      replace hP1 := hP1.keep bN
      replace hP2 := hP2.keep bN
      obtain ⟨X0, X1, X2, X3, X4, X5⟩ := zero_dy (w := v7) (r := v7.heap.size) (W' := v7.alloc (.cells #[.bool false, .slice none 0 0, .int .i64 0] 27)) (Below.refl _ _) rfl
      have XL : w0.heap.size ≤ v7.heap.size := bw.size
      replace bw := bl_alloc bw (.cells #[.bool false, .slice none 0 0, .int .i64 0] 27)
      clear bN
      try simp only [Act.put, List.setIfInBounds_toArray, List.set_cons_zero, List.set_cons_succ]
      generalize v7.alloc (.cells #[.bool false, .slice none 0 0, .int .i64 0] 27) = v8 at *
      refine wpAnyH_ready (rs := [6]) (by kernel_rfl) (by simp) ?_
      refine AllReadyH.cons rfl (fun K hK => ?_) (AllReadyH.nil)
      ·go_simp
       have bS : Below w0.heap.size w0 (((v8.setCell ⟨v7.heap.size, 0, none⟩ (.bool x.1)).setCell ⟨v7.heap.size, 1, none⟩ (.slice a1 n1 c1)).setCell ⟨v7.heap.size, 2, none⟩ (.int .i64 x.2.2)) := ((bw.setCell XL _).setCell XL _).setCell XL _
       refine hK.out _ _ bS (fun _ => ?_)
       clear hK K
       replace hP1 := hP1.set_dy _ _ _ _ _ _ (.bool x.1) (.slice a1 n1 c1) (.int .i64 x.2.2) X0 X1 X2
       replace hP2 := hP2.set_dy _ _ _ _ _ _ (.bool x.1) (.slice a1 n1 c1) (.int .i64 x.2.2) X0 X1 X2
       replace Y0 := set3_cell (v0 := .bool x.1) (v1 := .slice a1 n1 c1) (v2 := .int .i64 x.2.2) Y0 (r := v7.heap.size) (by first | exact ne1 | exact ne2)
       replace Y1 := set3_cell (v0 := .bool x.1) (v1 := .slice a1 n1 c1) (v2 := .int .i64 x.2.2) Y1 (r := v7.heap.size) (by first | exact ne1 | exact ne2)
       replace Y2 := set3_cell (v0 := .bool x.1) (v1 := .slice a1 n1 c1) (v2 := .int .i64 x.2.2) Y2 (r := v7.heap.size) (by first | exact ne1 | exact ne2)
       replace Y3 := set3_frozen (r := v7.heap.size) (v0 := .bool x.1) (v1 := .slice a1 n1 c1) (v2 := .int .i64 x.2.2) Y3
       replace Y4 := set3_frozen (r := v7.heap.size) (v0 := .bool x.1) (v1 := .slice a1 n1 c1) (v2 := .int .i64 x.2.2) Y4
       replace Y5 := set3_frozen (r := v7.heap.size) (v0 := .bool x.1) (v1 := .slice a1 n1 c1) (v2 := .int .i64 x.2.2) Y5
       obtain ⟨Z0, Z1, Z2⟩ := set3_same (r := v7.heap.size) (v0 := .bool x.1) (v1 := .slice a1 n1 c1) (v2 := .int .i64 x.2.2) X0 X1 X2
       clear X0 X1 X2 X3 X4 X5 bw
       try simp only [Act.put, List.setIfInBounds_toArray, List.set_cons_zero, List.set_cons_succ]
       generalize (((v8.setCell ⟨v7.heap.size, 0, none⟩ (.bool x.1)).setCell ⟨v7.heap.size, 1, none⟩ (.slice a1 n1 c1)).setCell ⟨v7.heap.size, 2, none⟩ (.int .i64 x.2.2)) = v9 at *
       have X0 := Z0
       have X1 := Z1
       have X2 := Z2
       have bw := bS
       clear Z0 Z1 Z2 bS
       refine wpAnyH_ready (rs := [7]) (by kernel_rfl) (by simp) ?_
       refine AllReadyH.cons rfl (fun K hK => ?_) (AllReadyH.nil)
       ·go_simp
        have bS : Below w0.heap.size w0 (((v9.setCell ⟨v2.heap.size, 0, none⟩ (.bool y.1)).setCell ⟨v2.heap.size, 1, none⟩ (.slice a2 n2 c2)).setCell ⟨v2.heap.size, 2, none⟩ (.int .i64 y.2.2)) := ((bw.setCell YL _).setCell YL _).setCell YL _
        refine hK.out _ _ bS (fun _ => ?_)
        clear hK K
        replace hP1 := hP1.set_dy _ _ _ _ _ _ (.bool y.1) (.slice a2 n2 c2) (.int .i64 y.2.2) Y0 Y1 Y2
        replace hP2 := hP2.set_dy _ _ _ _ _ _ (.bool y.1) (.slice a2 n2 c2) (.int .i64 y.2.2) Y0 Y1 Y2
        replace X0 := set3_cell (v0 := .bool y.1) (v1 := .slice a2 n2 c2) (v2 := .int .i64 y.2.2) X0 (r := v2.heap.size) (by first | exact ne1 | exact ne2)
        replace X1 := set3_cell (v0 := .bool y.1) (v1 := .slice a2 n2 c2) (v2 := .int .i64 y.2.2) X1 (r := v2.heap.size) (by first | exact ne1 | exact ne2)
        replace X2 := set3_cell (v0 := .bool y.1) (v1 := .slice a2 n2 c2) (v2 := .int .i64 y.2.2) X2 (r := v2.heap.size) (by first | exact ne1 | exact ne2)
        obtain ⟨Z0, Z1, Z2⟩ := set3_same (r := v2.heap.size) (v0 := .bool y.1) (v1 := .slice a2 n2 c2) (v2 := .int .i64 y.2.2) Y0 Y1 Y2
        clear Y0 Y1 Y2 Y3 Y4 Y5 bw
        try simp only [Act.put, List.setIfInBounds_toArray, List.set_cons_zero, List.set_cons_succ]
        generalize (((v9.setCell ⟨v2.heap.size, 0, none⟩ (.bool y.1)).setCell ⟨v2.heap.size, 1, none⟩ (.slice a2 n2 c2)).setCell ⟨v2.heap.size, 2, none⟩ (.int .i64 y.2.2)) = v10 at *
        have Y0 := Z0
        have Y1 := Z1
        have Y2 := Z2
        have bw := bS
        clear Z0 Z1 Z2 bS
        refine wpAnyH_done (by kernel_rfl) ?_ _
        go_wp2_with fail
        go_meet
        case rel => exact ⟨_, _, rfl, rfl, a1, n1, c1, a2, n2, c2, X0, X1, X2, Y0, Y1, Y2, HN1, HN2, hP1, hP2, bw, XL, YL⟩
   ·go_simp
    refine hK.out _ _ (bl_alloc bw _) (fun _ => ?_)
    clear hK K
    have bN := below_one v1 (.cells #[.bool false, .slice none 0 0, .int .i64 0] 27)
    replace hP1 := hP1.keep bN
    obtain ⟨X0, X1, X2, X3, X4, X5⟩ := zero_dy (w := v1) (r := v1.heap.size) (W' := v1.alloc (.cells #[.bool false, .slice none 0 0, .int .i64 0] 27)) (Below.refl _ _) rfl
    have XL : w0.heap.size ≤ v1.heap.size := bw.size
    replace bw := bl_alloc bw (.cells #[.bool false, .slice none 0 0, .int .i64 0] 27)
    clear bN
    try simp only [Act.put, List.setIfInBounds_toArray, List.set_cons_zero, List.set_cons_succ]
    generalize v1.alloc (.cells #[.bool false, .slice none 0 0, .int .i64 0] 27) = v11 at *
    refine wpAnyH_ready (rs := [3, 5]) (by kernel_rfl) (by simp) ?_
    refine AllReadyH.cons rfl (fun K hK => ?_) (AllReadyH.cons rfl (fun K hK => ?_) (AllReadyH.nil))
    ·go_simp
     refine Calls.mono (HY.out _ (H2.out.keep (nT bw0 bw))) ?_
     rintro r v12 ⟨_, rfl, ⟨a2, n2, c2, rfl, HN2, hO2⟩, bN⟩
     refine hK.out _ _ (nT bw bN) (fun _ => ?_)
     clear hK K
     replace X3 := kF bN X0 X3
     replace X4 := kF bN X1 X4
     replace X5 := kF bN X2 X5
     replace X0 := kC bN X0
     replace X1 := kC bN X1
     replace X2 := kC bN X2
     replace hP1 := hP1.keep bN
     have hP2 := hO2.low (B' := w0.heap.size) bw.size
     replace bw := nT bw bN
     clear bN hO2
     try simp only [Act.put, List.setIfInBounds_toArray, List.set_cons_zero, List.set_cons_succ]
     refine wpAnyH_ready (rs := [5]) (by kernel_rfl) (by simp) ?_
     refine AllReadyH.cons rfl (fun K hK => ?_) (AllReadyH.nil)
     ·go_simp
      refine hK.out _ _ (bl_alloc bw _) (fun _ => ?_)
      clear hK K
      have bN := below_one v12 (.cells #[.bool false, .slice none 0 0, .int .i64 0] 27)
      have ne1 : v1.heap.size ≠ v12.heap.size := Nat.ne_of_lt (World.block_lt_of_cell? _ _ X0)
      have ne2 := Ne.symm ne1
      replace X3 := kF bN X0 X3
      replace X4 := kF bN X1 X4
      replace X5 := kF bN X2 X5
      replace X0 := kC bN X0
      replace X1 := kC bN X1
      replace X2 := kC bN X2
      replace hP1 := hP1.keep bN
      replace hP2 := hP2.keep bN
      obtain ⟨Y0, Y1, Y2, Y3, Y4, Y5⟩ := zero_dy (w := v12) (r := v12.heap.size) (W' := v12.alloc (.cells #[.bool false, .slice none 0 0, .int .i64 0] 27)) (Below.refl _ _) rfl
      have YL : w0.heap.size ≤ v12.heap.size := bw.size
      replace bw := bl_alloc bw (.cells #[.bool false, .slice none 0 0, .int .i64 0] 27)
      clear bN
      try simp only [Act.put, List.setIfInBounds_toArray, List.set_cons_zero, List.set_cons_succ]
      generalize v12.alloc (.cells #[.bool false, .slice none 0 0, .int .i64 0] 27) = v13 at *
      refine wpAnyH_ready (rs := [6]) (by kernel_rfl) (by simp) ?_
      refine AllReadyH.cons rfl (fun K hK => ?_) (AllReadyH.nil)
      ·go_simp
       have bS : Below w0.heap.size w0 (((v13.setCell ⟨v1.heap.size, 0, none⟩ (.bool x.1)).setCell ⟨v1.heap.size, 1, none⟩ (.slice a1 n1 c1)).setCell ⟨v1.heap.size, 2, none⟩ (.int .i64 x.2.2)) := ((bw.setCell XL _).setCell XL _).setCell XL _
       refine hK.out _ _ bS (fun _ => ?_)
       clear hK K
       replace hP1 := hP1.set_dy _ _ _ _ _ _ (.bool x.1) (.slice a1 n1 c1) (.int .i64 x.2.2) X0 X1 X2
       replace hP2 := hP2.set_dy _ _ _ _ _ _ (.bool x.1) (.slice a1 n1 c1) (.int .i64 x.2.2) X0 X1 X2
       replace Y0 := set3_cell (v0 := .bool x.1) (v1 := .slice a1 n1 c1) (v2 := .int .i64 x.2.2) Y0 (r := v1.heap.size) (by first | exact ne1 | exact ne2)
       replace Y1 := set3_cell (v0 := .bool x.1) (v1 := .slice a1 n1 c1) (v2 := .int .i64 x.2.2) Y1 (r := v1.heap.size) (by first | exact ne1 | exact ne2)
       replace Y2 := set3_cell (v0 := .bool x.1) (v1 := .slice a1 n1 c1) (v2 := .int .i64 x.2.2) Y2 (r := v1.heap.size) (by first | exact ne1 | exact ne2)
       replace Y3 := set3_frozen (r := v1.heap.size) (v0 := .bool x.1) (v1 := .slice a1 n1 c1) (v2 := .int .i64 x.2.2) Y3
       replace Y4 := set3_frozen (r := v1.heap.size) (v0 := .bool x.1) (v1 := .slice a1 n1 c1) (v2 := .int .i64 x.2.2) Y4
       replace Y5 := set3_frozen (r := v1.heap.size) (v0 := .bool x.1) (v1 := .slice a1 n1 c1) (v2 := .int .i64 x.2.2) Y5
       obtain ⟨Z0, Z1, Z2⟩ := set3_same (r := v1.heap.size) (v0 := .bool x.1) (v1 := .slice a1 n1 c1) (v2 := .int .i64 x.2.2) X0 X1 X2
       clear X0 X1 X2 X3 X4 X5 bw
       try simp only [Act.put, List.setIfInBounds_toArray, List.set_cons_zero, List.set_cons_succ]
       generalize (((v13.setCell ⟨v1.heap.size, 0, none⟩ (.bool x.1)).setCell ⟨v1.heap.size, 1, none⟩ (.slice a1 n1 c1)).setCell ⟨v1.heap.size, 2, none⟩ (.int .i64 x.2.2)) = v14 at *
       have X0 := Z0
       have X1 := Z1
       have X2 := Z2
       have bw := bS
       clear Z0 Z1 Z2 bS
       refine wpAnyH_ready (rs := [7]) (by kernel_rfl) (by simp) ?_
       refine AllReadyH.cons rfl (fun K hK => ?_) (AllReadyH.nil)
       ·go_simp
        have bS : Below w0.heap.size w0 (((v14.setCell ⟨v12.heap.size, 0, none⟩ (.bool y.1)).setCell ⟨v12.heap.size, 1, none⟩ (.slice a2 n2 c2)).setCell ⟨v12.heap.size, 2, none⟩ (.int .i64 y.2.2)) := ((bw.setCell YL _).setCell YL _).setCell YL _
        refine hK.out _ _ bS (fun _ => ?_)
        clear hK K
        replace hP1 := hP1.set_dy _ _ _ _ _ _ (.bool y.1) (.slice a2 n2 c2) (.int .i64 y.2.2) Y0 Y1 Y2
        replace hP2 := hP2.set_dy _ _ _ _ _ _ (.bool y.1) (.slice a2 n2 c2) (.int .i64 y.2.2) Y0 Y1 Y2
        replace X0 := set3_cell (v0 := .bool y.1) (v1 := .slice a2 n2 c2) (v2 := .int .i64 y.2.2) X0 (r := v12.heap.size) (by first | exact ne1 | exact ne2)
        replace X1 := set3_cell (v0 := .bool y.1) (v1 := .slice a2 n2 c2) (v2 := .int .i64 y.2.2) X1 (r := v12.heap.size) (by first | exact ne1 | exact ne2)
        replace X2 := set3_cell (v0 := .bool y.1) (v1 := .slice a2 n2 c2) (v2 := .int .i64 y.2.2) X2 (r := v12.heap.size) (by first | exact ne1 | exact ne2)
        obtain ⟨Z0, Z1, Z2⟩ := set3_same (r := v12.heap.size) (v0 := .bool y.1) (v1 := .slice a2 n2 c2) (v2 := .int .i64 y.2.2) Y0 Y1 Y2
        clear Y0 Y1 Y2 Y3 Y4 Y5 bw
        try simp only [Act.put, List.setIfInBounds_toArray, List.set_cons_zero, List.set_cons_succ]
        generalize (((v14.setCell ⟨v12.heap.size, 0, none⟩ (.bool y.1)).setCell ⟨v12.heap.size, 1, none⟩ (.slice a2 n2 c2)).setCell ⟨v12.heap.size, 2, none⟩ (.int .i64 y.2.2)) = v15 at *
        have Y0 := Z0
        have Y1 := Z1
        have Y2 := Z2
        have bw := bS
        clear Z0 Z1 Z2 bS
        refine wpAnyH_done (by kernel_rfl) ?_ _
        go_wp2_with fail
        go_meet
        case rel => exact ⟨_, _, rfl, rfl, a1, n1, c1, a2, n2, c2, X0, X1, X2, Y0, Y1, Y2, HN1, HN2, hP1, hP2, bw, XL, YL⟩
    ·go_simp
     refine hK.out _ _ (bl_alloc bw _) (fun _ => ?_)
     clear hK K
     have bN := below_one v11 (.cells #[.bool false, .slice none 0 0, .int .i64 0] 27)
     have ne1 : v1.heap.size ≠ v11.heap.size := Nat.ne_of_lt (World.block_lt_of_cell? _ _ X0)
     have ne2 := Ne.symm ne1
     replace X3 := kF bN X0 X3
     replace X4 := kF bN X1 X4
     replace X5 := kF bN X2 X5
     replace X0 := kC bN X0
     replace X1 := kC bN X1
     replace X2 := kC bN X2
     replace hP1 := hP1.keep bN
     obtain ⟨Y0, Y1, Y2, Y3, Y4, Y5⟩ := zero_dy (w := v11) (r := v11.heap.size) (W' := v11.alloc (.cells #[.bool false, .slice none 0 0, .int .i64 0] 27)) (Below.refl _ _) rfl
     have YL : w0.heap.size ≤ v11.heap.size := bw.size
     replace bw := bl_alloc bw (.cells #[.bool false, .slice none 0 0, .int .i64 0] 27)
     clear bN
     try simp only [Act.put, List.setIfInBounds_toArray, List.set_cons_zero, List.set_cons_succ]
     generalize v11.alloc (.cells #[.bool false, .slice none 0 0, .int .i64 0] 27) = v16 at *
     refine wpAnyH_ready (rs := [3]) (by kernel_rfl) (by simp) ?_
     refine AllReadyH.cons rfl (fun K hK => ?_) (AllReadyH.nil)
     ·go_simp
      refine Calls.mono (HY.out _ (H2.out.keep (nT bw0 bw))) ?_
      rintro r v17 ⟨_, rfl, ⟨a2, n2, c2, rfl, HN2, hO2⟩, bN⟩
      refine hK.out _ _ (nT bw bN) (fun _ => ?_)
      clear hK K
      replace X3 := kF bN X0 X3
      replace X4 := kF bN X1 X4
      replace X5 := kF bN X2 X5
      replace X0 := kC bN X0
      replace X1 := kC bN X1
      replace X2 := kC bN X2
      replace Y3 := kF bN Y0 Y3
      replace Y4 := kF bN Y1 Y4
      replace Y5 := kF bN Y2 Y5
      replace Y0 := kC bN Y0
      replace Y1 := kC bN Y1
      replace Y2 := kC bN Y2
      replace hP1 := hP1.keep bN
      have hP2 := hO2.low (B' := w0.heap.size) bw.size
      replace bw := nT bw bN
      clear bN hO2
      try simp only [Act.put, List.setIfInBounds_toArray, List.set_cons_zero, List.set_cons_succ]
      refine wpAnyH_ready (rs := [6]) (by kernel_rfl) (by simp) ?_
      refine AllReadyH.cons rfl (fun K hK => ?_) (AllReadyH.nil)
      ·go_simp
       have bS : Below w0.heap.size w0 (((v17.setCell ⟨v1.heap.size, 0, none⟩ (.bool x.1)).setCell ⟨v1.heap.size, 1, none⟩ (.slice a1 n1 c1)).setCell ⟨v1.heap.size, 2, none⟩ (.int .i64 x.2.2)) := ((bw.setCell XL _).setCell XL _).setCell XL _
       refine hK.out _ _ bS (fun _ => ?_)
       clear hK K
       replace hP1 := hP1.set_dy _ _ _ _ _ _ (.bool x.1) (.slice a1 n1 c1) (.int .i64 x.2.2) X0 X1 X2
       replace hP2 := hP2.set_dy _ _ _ _ _ _ (.bool x.1) (.slice a1 n1 c1) (.int .i64 x.2.2) X0 X1 X2
       replace Y0 := set3_cell (v0 := .bool x.1) (v1 := .slice a1 n1 c1) (v2 := .int .i64 x.2.2) Y0 (r := v1.heap.size) (by first | exact ne1 | exact ne2)
       replace Y1 := set3_cell (v0 := .bool x.1) (v1 := .slice a1 n1 c1) (v2 := .int .i64 x.2.2) Y1 (r := v1.heap.size) (by first | exact ne1 | exact ne2)
       replace Y2 := set3_cell (v0 := .bool x.1) (v1 := .slice a1 n1 c1) (v2 := .int .i64 x.2.2) Y2 (r := v1.heap.size) (by first | exact ne1 | exact ne2)
       replace Y3 := set3_frozen (r := v1.heap.size) (v0 := .bool x.1) (v1 := .slice a1 n1 c1) (v2 := .int .i64 x.2.2) Y3
       replace Y4 := set3_frozen (r := v1.heap.size) (v0 := .bool x.1) (v1 := .slice a1 n1 c1) (v2 := .int .i64 x.2.2) Y4
       replace Y5 := set3_frozen (r := v1.heap.size) (v0 := .bool x.1) (v1 := .slice a1 n1 c1) (v2 := .int .i64 x.2.2) Y5
       obtain ⟨Z0, Z1, Z2⟩ := set3_same (r := v1.heap.size) (v0 := .bool x.1) (v1 := .slice a1 n1 c1) (v2 := .int .i64 x.2.2) X0 X1 X2
       clear X0 X1 X2 X3 X4 X5 bw
       try simp only [Act.put, List.setIfInBounds_toArray, List.set_cons_zero, List.set_cons_succ]
       generalize (((v17.setCell ⟨v1.heap.size, 0, none⟩ (.bool x.1)).setCell ⟨v1.heap.size, 1, none⟩ (.slice a1 n1 c1)).setCell ⟨v1.heap.size, 2, none⟩ (.int .i64 x.2.2)) = v18 at *
       have X0 := Z0
       have X1 := Z1
       have X2 := Z2
       have bw := bS
       clear Z0 Z1 Z2 bS
       refine wpAnyH_ready (rs := [7]) (by kernel_rfl) (by simp) ?_
       refine AllReadyH.cons rfl (fun K hK => ?_) (AllReadyH.nil)
       ·go_simp
        have bS : Below w0.heap.size w0 (((v18.setCell ⟨v11.heap.size, 0, none⟩ (.bool y.1)).setCell ⟨v11.heap.size, 1, none⟩ (.slice a2 n2 c2)).setCell ⟨v11.heap.size, 2, none⟩ (.int .i64 y.2.2)) := ((bw.setCell YL _).setCell YL _).setCell YL _
        refine hK.out _ _ bS (fun _ => ?_)
        clear hK K
        replace hP1 := hP1.set_dy _ _ _ _ _ _ (.bool y.1) (.slice a2 n2 c2) (.int .i64 y.2.2) Y0 Y1 Y2
        replace hP2 := hP2.set_dy _ _ _ _ _ _ (.bool y.1) (.slice a2 n2 c2) (.int .i64 y.2.2) Y0 Y1 Y2
        replace X0 := set3_cell (v0 := .bool y.1) (v1 := .slice a2 n2 c2) (v2 := .int .i64 y.2.2) X0 (r := v11.heap.size) (by first | exact ne1 | exact ne2)
        replace X1 := set3_cell (v0 := .bool y.1) (v1 := .slice a2 n2 c2) (v2 := .int .i64 y.2.2) X1 (r := v11.heap.size) (by first | exact ne1 | exact ne2)
        replace X2 := set3_cell (v0 := .bool y.1) (v1 := .slice a2 n2 c2) (v2 := .int .i64 y.2.2) X2 (r := v11.heap.size) (by first | exact ne1 | exact ne2)
        obtain ⟨Z0, Z1, Z2⟩ := set3_same (r := v11.heap.size) (v0 := .bool y.1) (v1 := .slice a2 n2 c2) (v2 := .int .i64 y.2.2) Y0 Y1 Y2
        clear Y0 Y1 Y2 Y3 Y4 Y5 bw
        try simp only [Act.put, List.setIfInBounds_toArray, List.set_cons_zero, List.set_cons_succ]
        generalize (((v18.setCell ⟨v11.heap.size, 0, none⟩ (.bool y.1)).setCell ⟨v11.heap.size, 1, none⟩ (.slice a2 n2 c2)).setCell ⟨v11.heap.size, 2, none⟩ (.int .i64 y.2.2)) = v19 at *
        have Y0 := Z0
        have Y1 := Z1
        have Y2 := Z2
        have bw := bS
        clear Z0 Z1 Z2 bS
        refine wpAnyH_done (by kernel_rfl) ?_ _
        go_wp2_with fail
        go_meet
        case rel => exact ⟨_, _, rfl, rfl, a1, n1, c1, a2, n2, c2, X0, X1, X2, Y0, Y1, Y2, HN1, HN2, hP1, hP2, bw, XL, YL⟩
   ·go_simp
    refine hK.out _ _ (bl_alloc bw _) (fun _ => ?_)
    clear hK K
    have bN := below_one v1 (.cells #[.bool false, .slice none 0 0, .int .i64 0] 27)
    replace hP1 := hP1.keep bN
    obtain ⟨Y0, Y1, Y2, Y3, Y4, Y5⟩ := zero_dy (w := v1) (r := v1.heap.size) (W' := v1.alloc (.cells #[.bool false, .slice none 0 0, .int .i64 0] 27)) (Below.refl _ _) rfl
    have YL : w0.heap.size ≤ v1.heap.size := bw.size
    replace bw := bl_alloc bw (.cells #[.bool false, .slice none 0 0, .int .i64 0] 27)
    clear bN
    try simp only [Act.put, List.setIfInBounds_toArray, List.set_cons_zero, List.set_cons_succ]
    generalize v1.alloc (.cells #[.bool false, .slice none 0 0, .int .i64 0] 27) = v20 at *
    refine wpAnyH_ready (rs := [3, 4]) (by kernel_rfl) (by simp) ?_
    refine AllReadyH.cons rfl (fun K hK => ?_) (AllReadyH.cons rfl (fun K hK => ?_) (AllReadyH.nil))
    ·go_simp
     refine Calls.mono (HY.out _ (H2.out.keep (nT bw0 bw))) ?_
     rintro r v21 ⟨_, rfl, ⟨a2, n2, c2, rfl, HN2, hO2⟩, bN⟩
     refine hK.out _ _ (nT bw bN) (fun _ => ?_)
     clear hK K
     replace Y3 := kF bN Y0 Y3
     replace Y4 := kF bN Y1 Y4
     replace Y5 := kF bN Y2 Y5
     replace Y0 := kC bN Y0
     replace Y1 := kC bN Y1
     replace Y2 := kC bN Y2
     replace hP1 := hP1.keep bN
     have hP2 := hO2.low (B' := w0.heap.size) bw.size
     replace bw := nT bw bN
     clear bN hO2
     try simp only [Act.put, List.setIfInBounds_toArray, List.set_cons_zero, List.set_cons_succ]
     refine wpAnyH_ready (rs := [4]) (by kernel_rfl) (by simp) ?_
     refine AllReadyH.cons rfl (fun K hK => ?_) (AllReadyH.nil)
     ·go_simp
      refine hK.out _ _ (bl_alloc bw _) (fun _ => ?_)
      clear hK K
      have bN := below_one v21 (.cells #[.bool false, .slice none 0 0, .int .i64 0] 27)
      have ne1 : v1.heap.size ≠ v21.heap.size := Nat.ne_of_lt (World.block_lt_of_cell? _ _ Y0)
      have ne2 := Ne.symm ne1
      replace Y3 := kF bN Y0 Y3
      replace Y4 := kF bN Y1 Y4
      replace Y5 := kF bN Y2 Y5
      replace Y0 := kC bN Y0
      replace Y1 := kC bN Y1
      replace Y2 := kC bN Y2
      replace hP1 := hP1.keep bN
      replace hP2 := hP2.keep bN
      obtain ⟨X0, X1, X2, X3, X4, X5⟩ := zero_dy (w := v21) (r := v21.heap.size) (W' := v21.alloc (.cells #[.bool false, .slice none 0 0, .int .i64 0] 27)) (Below.refl _ _) rfl
      have XL : w0.heap.size ≤ v21.heap.size := bw.size
      replace bw := bl_alloc bw (.cells #[.bool false, .slice none 0 0, .int .i64 0] 27)
      clear bN
      try simp only [Act.put, List.setIfInBounds_toArray, List.set_cons_zero, List.set_cons_succ]
      generalize v21.alloc (.cells #[.bool false, .slice none 0 0, .int .i64 0] 27) = v22 at *
      refine wpAnyH_ready (rs := [6]) (by kernel_rfl) (by simp) ?_
      refine AllReadyH.cons rfl (fun K hK => ?_) (AllReadyH.nil)
      ·go_simp
       have bS : Below w0.heap.size w0 (((v22.setCell ⟨v21.heap.size, 0, none⟩ (.bool x.1)).setCell ⟨v21.heap.size, 1, none⟩ (.slice a1 n1 c1)).setCell ⟨v21.heap.size, 2, none⟩ (.int .i64 x.2.2)) := ((bw.setCell XL _).setCell XL _).setCell XL _
       refine hK.out _ _ bS (fun _ => ?_)
       clear hK K
       replace hP1 := hP1.set_dy _ _ _ _ _ _ (.bool x.1) (.slice a1 n1 c1) (.int .i64 x.2.2) X0 X1 X2
       replace hP2 := hP2.set_dy _ _ _ _ _ _ (.bool x.1) (.slice a1 n1 c1) (.int .i64 x.2.2) X0 X1 X2
       replace Y0 := set3_cell (v0 := .bool x.1) (v1 := .slice a1 n1 c1) (v2 := .int .i64 x.2.2) Y0 (r := v21.heap.size) (by first | exact ne1 | exact ne2)
       replace Y1 := set3_cell (v0 := .bool x.1) (v1 := .slice a1 n1 c1) (v2 := .int .i64 x.2.2) Y1 (r := v21.heap.size) (by first | exact ne1 | exact ne2)
       replace Y2 := set3_cell (v0 := .bool x.1) (v1 := .slice a1 n1 c1) (v2 := .int .i64 x.2.2) Y2 (r := v21.heap.size) (by first | exact ne1 | exact ne2)
       replace Y3 := set3_frozen (r := v21.heap.size) (v0 := .bool x.1) (v1 := .slice a1 n1 c1) (v2 := .int .i64 x.2.2) Y3
       replace Y4 := set3_frozen (r := v21.heap.size) (v0 := .bool x.1) (v1 := .slice a1 n1 c1) (v2 := .int .i64 x.2.2) Y4
       replace Y5 := set3_frozen (r := v21.heap.size) (v0 := .bool x.1) (v1 := .slice a1 n1 c1) (v2 := .int .i64 x.2.2) Y5
       obtain ⟨Z0, Z1, Z2⟩ := set3_same (r := v21.heap.size) (v0 := .bool x.1) (v1 := .slice a1 n1 c1) (v2 := .int .i64 x.2.2) X0 X1 X2
       clear X0 X1 X2 X3 X4 X5 bw
       try simp only [Act.put, List.setIfInBounds_toArray, List.set_cons_zero, List.set_cons_succ]
       generalize (((v22.setCell ⟨v21.heap.size, 0, none⟩ (.bool x.1)).setCell ⟨v21.heap.size, 1, none⟩ (.slice a1 n1 c1)).setCell ⟨v21.heap.size, 2, none⟩ (.int .i64 x.2.2)) = v23 at *
       have X0 := Z0
       have X1 := Z1
       have X2 := Z2
       have bw := bS
       clear Z0 Z1 Z2 bS
       refine wpAnyH_ready (rs := [7]) (by kernel_rfl) (by simp) ?_
       refine AllReadyH.cons rfl (fun K hK => ?_) (AllReadyH.nil)
       ·go_simp
        have bS : Below w0.heap.size w0 (((v23.setCell ⟨v1.heap.size, 0, none⟩ (.bool y.1)).setCell ⟨v1.heap.size, 1, none⟩ (.slice a2 n2 c2)).setCell ⟨v1.heap.size, 2, none⟩ (.int .i64 y.2.2)) := ((bw.setCell YL _).setCell YL _).setCell YL _
        refine hK.out _ _ bS (fun _ => ?_)
        clear hK K
        replace hP1 := hP1.set_dy _ _ _ _ _ _ (.bool y.1) (.slice a2 n2 c2) (.int .i64 y.2.2) Y0 Y1 Y2
        replace hP2 := hP2.set_dy _ _ _ _ _ _ (.bool y.1) (.slice a2 n2 c2) (.int .i64 y.2.2) Y0 Y1 Y2
        replace X0 := set3_cell (v0 := .bool y.1) (v1 := .slice a2 n2 c2) (v2 := .int .i64 y.2.2) X0 (r := v1.heap.size) (by first | exact ne1 | exact ne2)
        replace X1 := set3_cell (v0 := .bool y.1) (v1 := .slice a2 n2 c2) (v2 := .int .i64 y.2.2) X1 (r := v1.heap.size) (by first | exact ne1 | exact ne2)
        replace X2 := set3_cell (v0 := .bool y.1) (v1 := .slice a2 n2 c2) (v2 := .int .i64 y.2.2) X2 (r := v1.heap.size) (by first | exact ne1 | exact ne2)
        obtain ⟨Z0, Z1, Z2⟩ := set3_same (r := v1.heap.size) (v0 := .bool y.1) (v1 := .slice a2 n2 c2) (v2 := .int .i64 y.2.2) Y0 Y1 Y2
        clear Y0 Y1 Y2 Y3 Y4 Y5 bw
        try simp only [Act.put, List.setIfInBounds_toArray, List.set_cons_zero, List.set_cons_succ]
        generalize (((v23.setCell ⟨v1.heap.size, 0, none⟩ (.bool y.1)).setCell ⟨v1.heap.size, 1, none⟩ (.slice a2 n2 c2)).setCell ⟨v1.heap.size, 2, none⟩ (.int .i64 y.2.2)) = v24 at *
        have Y0 := Z0
        have Y1 := Z1
        have Y2 := Z2
        have bw := bS
        clear Z0 Z1 Z2 bS
        refine wpAnyH_done (by kernel_rfl) ?_ _
        go_wp2_with fail
        go_meet
        case rel => exact ⟨_, _, rfl, rfl, a1, n1, c1, a2, n2, c2, X0, X1, X2, Y0, Y1, Y2, HN1, HN2, hP1, hP2, bw, XL, YL⟩
    ·go_simp
     refine hK.out _ _ (bl_alloc bw _) (fun _ => ?_)
     clear hK K
     have bN := below_one v20 (.cells #[.bool false, .slice none 0 0, .int .i64 0] 27)
     have ne1 : v1.heap.size ≠ v20.heap.size := Nat.ne_of_lt (World.block_lt_of_cell? _ _ Y0)
     have ne2 := Ne.symm ne1
     replace Y3 := kF bN Y0 Y3
     replace Y4 := kF bN Y1 Y4
     replace Y5 := kF bN Y2 Y5
     replace Y0 := kC bN Y0
     replace Y1 := kC bN Y1
     replace Y2 := kC bN Y2
     replace hP1 := hP1.keep bN
     obtain ⟨X0, X1, X2, X3, X4, X5⟩ := zero_dy (w := v20) (r := v20.heap.size) (W' := v20.alloc (.cells #[.bool false, .slice none 0 0, .int .i64 0] 27)) (Below.refl _ _) rfl
     have XL : w0.heap.size ≤ v20.heap.size := bw.size
     replace bw := bl_alloc bw (.cells #[.bool false, .slice none 0 0, .int .i64 0] 27)
     clear bN
     try simp only [Act.put, List.setIfInBounds_toArray, List.set_cons_zero, List.set_cons_succ]
     generalize v20.alloc (.cells #[.bool false, .slice none 0 0, .int .i64 0] 27) = v25 at *
     refine wpAnyH_ready (rs := [3]) (by kernel_rfl) (by simp) ?_
     refine AllReadyH.cons rfl (fun K hK => ?_) (AllReadyH.nil)
     ·go_simp
      refine Calls.mono (HY.out _ (H2.out.keep (nT bw0 bw))) ?_
      rintro r v26 ⟨_, rfl, ⟨a2, n2, c2, rfl, HN2, hO2⟩, bN⟩
      refine hK.out _ _ (nT bw bN) (fun _ => ?_)
      clear hK K
      replace X3 := kF bN X0 X3
      replace X4 := kF bN X1 X4
      replace X5 := kF bN X2 X5
      replace X0 := kC bN X0
      replace X1 := kC bN X1
      replace X2 := kC bN X2
      replace Y3 := kF bN Y0 Y3
      replace Y4 := kF bN Y1 Y4
      replace Y5 := kF bN Y2 Y5
      replace Y0 := kC bN Y0
      replace Y1 := kC bN Y1
      replace Y2 := kC bN Y2
      replace hP1 := hP1.keep bN
      have hP2 := hO2.low (B' := w0.heap.size) bw.size
      replace bw := nT bw bN
      clear bN hO2
      try simp only [Act.put, List.setIfInBounds_toArray, List.set_cons_zero, List.set_cons_succ]
      refine wpAnyH_ready (rs := [6]) (by kernel_rfl) (by simp) ?_
      refine AllReadyH.cons rfl (fun K hK => ?_) (AllReadyH.nil)
      ·go_simp
       have bS : Below w0.heap.size w0 (((v26.setCell ⟨v20.heap.size, 0, none⟩ (.bool x.1)).setCell ⟨v20.heap.size, 1, none⟩ (.slice a1 n1 c1)).setCell ⟨v20.heap.size, 2, none⟩ (.int .i64 x.2.2)) := ((bw.setCell XL _).setCell XL _).setCell XL _
       refine hK.out _ _ bS (fun _ => ?_)
       clear hK K
       replace hP1 := hP1.set_dy _ _ _ _ _ _ (.bool x.1) (.slice a1 n1 c1) (.int .i64 x.2.2) X0 X1 X2
       replace hP2 := hP2.set_dy _ _ _ _ _ _ (.bool x.1) (.slice a1 n1 c1) (.int .i64 x.2.2) X0 X1 X2
       replace Y0 := set3_cell (v0 := .bool x.1) (v1 := .slice a1 n1 c1) (v2 := .int .i64 x.2.2) Y0 (r := v20.heap.size) (by first | exact ne1 | exact ne2)
       replace Y1 := set3_cell (v0 := .bool x.1) (v1 := .slice a1 n1 c1) (v2 := .int .i64 x.2.2) Y1 (r := v20.heap.size) (by first | exact ne1 | exact ne2)
       replace Y2 := set3_cell (v0 := .bool x.1) (v1 := .slice a1 n1 c1) (v2 := .int .i64 x.2.2) Y2 (r := v20.heap.size) (by first | exact ne1 | exact ne2)
       replace Y3 := set3_frozen (r := v20.heap.size) (v0 := .bool x.1) (v1 := .slice a1 n1 c1) (v2 := .int .i64 x.2.2) Y3
       replace Y4 := set3_frozen (r := v20.heap.size) (v0 := .bool x.1) (v1 := .slice a1 n1 c1) (v2 := .int .i64 x.2.2) Y4
       replace Y5 := set3_frozen (r := v20.heap.size) (v0 := .bool x.1) (v1 := .slice a1 n1 c1) (v2 := .int .i64 x.2.2) Y5
       obtain ⟨Z0, Z1, Z2⟩ := set3_same (r := v20.heap.size) (v0 := .bool x.1) (v1 := .slice a1 n1 c1) (v2 := .int .i64 x.2.2) X0 X1 X2
       clear X0 X1 X2 X3 X4 X5 bw
       try simp only [Act.put, List.setIfInBounds_toArray, List.set_cons_zero, List.set_cons_succ]
       generalize (((v26.setCell ⟨v20.heap.size, 0, none⟩ (.bool x.1)).setCell ⟨v20.heap.size, 1, none⟩ (.slice a1 n1 c1)).setCell ⟨v20.heap.size, 2, none⟩ (.int .i64 x.2.2)) = v27 at *
       have X0 := Z0
       have X1 := Z1
       have X2 := Z2
       have bw := bS
       clear Z0 Z1 Z2 bS
       refine wpAnyH_ready (rs := [7]) (by kernel_rfl) (by simp) ?_
       refine AllReadyH.cons rfl (fun K hK => ?_) (AllReadyH.nil)
       ·go_simp
        have bS : Below w0.heap.size w0 (((v27.setCell ⟨v1.heap.size, 0, none⟩ (.bool y.1)).setCell ⟨v1.heap.size, 1, none⟩ (.slice a2 n2 c2)).setCell ⟨v1.heap.size, 2, none⟩ (.int .i64 y.2.2)) := ((bw.setCell YL _).setCell YL _).setCell YL _
        refine hK.out _ _ bS (fun _ => ?_)
        clear hK K
        replace hP1 := hP1.set_dy _ _ _ _ _ _ (.bool y.1) (.slice a2 n2 c2) (.int .i64 y.2.2) Y0 Y1 Y2
        replace hP2 := hP2.set_dy _ _ _ _ _ _ (.bool y.1) (.slice a2 n2 c2) (.int .i64 y.2.2) Y0 Y1 Y2
        replace X0 := set3_cell (v0 := .bool y.1) (v1 := .slice a2 n2 c2) (v2 := .int .i64 y.2.2) X0 (r := v1.heap.size) (by first | exact ne1 | exact ne2)
        replace X1 := set3_cell (v0 := .bool y.1) (v1 := .slice a2 n2 c2) (v2 := .int .i64 y.2.2) X1 (r := v1.heap.size) (by first | exact ne1 | exact ne2)
        replace X2 := set3_cell (v0 := .bool y.1) (v1 := .slice a2 n2 c2) (v2 := .int .i64 y.2.2) X2 (r := v1.heap.size) (by first | exact ne1 | exact ne2)
        obtain ⟨Z0, Z1, Z2⟩ := set3_same (r := v1.heap.size) (v0 := .bool y.1) (v1 := .slice a2 n2 c2) (v2 := .int .i64 y.2.2) Y0 Y1 Y2
        clear Y0 Y1 Y2 Y3 Y4 Y5 bw
        try simp only [Act.put, List.setIfInBounds_toArray, List.set_cons_zero, List.set_cons_succ]
        generalize (((v27.setCell ⟨v1.heap.size, 0, none⟩ (.bool y.1)).setCell ⟨v1.heap.size, 1, none⟩ (.slice a2 n2 c2)).setCell ⟨v1.heap.size, 2, none⟩ (.int .i64 y.2.2)) = v28 at *
        have Y0 := Z0
        have Y1 := Z1
        have Y2 := Z2
        have bw := bS
        clear Z0 Z1 Z2 bS
        refine wpAnyH_done (by kernel_rfl) ?_ _
        go_wp2_with fail
        go_meet
        case rel => exact ⟨_, _, rfl, rfl, a1, n1, c1, a2, n2, c2, X0, X1, X2, Y0, Y1, Y2, HN1, HN2, hP1, hP2, bw, XL, YL⟩
  ·go_simp
   refine hK.out _ _ (bl_alloc bw _) (fun _ => ?_)
   clear hK K
   have bN := below_one wd (.cells #[.bool false, .slice none 0 0, .int .i64 0] 27)
   obtain ⟨X0, X1, X2, X3, X4, X5⟩ := zero_dy (w := wd) (r := wd.heap.size) (W' := wd.alloc (.cells #[.bool false, .slice none 0 0, .int .i64 0] 27)) (Below.refl _ _) rfl
   have XL : w0.heap.size ≤ wd.heap.size := bw.size
   replace bw := bl_alloc bw (.cells #[.bool false, .slice none 0 0, .int .i64 0] 27)
   clear bN
   try simp only [Act.put, List.setIfInBounds_toArray, List.set_cons_zero, List.set_cons_succ]
   generalize wd.alloc (.cells #[.bool false, .slice none 0 0, .int .i64 0] 27) = v29 at *
   refine wpAnyH_ready (rs := [1, 5]) (by kernel_rfl) (by simp) ?_
   refine AllReadyH.cons rfl (fun K hK => ?_) (AllReadyH.cons rfl (fun K hK => ?_) (AllReadyH.nil))
   ·go_simp
    refine Calls.mono (HX.out _ (H1.out.keep (nT bw0 bw))) ?_
    rintro r v30 ⟨_, rfl, ⟨a1, n1, c1, rfl, HN1, hO1⟩, bN⟩
    refine hK.out _ _ (nT bw bN) (fun _ => ?_)
    clear hK K
    replace X3 := kF bN X0 X3
    replace X4 := kF bN X1 X4
    replace X5 := kF bN X2 X5
    replace X0 := kC bN X0
    replace X1 := kC bN X1
    replace X2 := kC bN X2
    have hP1 := hO1.low (B' := w0.heap.size) bw.size
    replace bw := nT bw bN
    clear bN hO1
    try simp only [Act.put, List.setIfInBounds_toArray, List.set_cons_zero, List.set_cons_succ]
    refine wpAnyH_ready (rs := [3, 5]) (by kernel_rfl) (by simp) ?_
    refine AllReadyH.cons rfl (fun K hK => ?_) (AllReadyH.cons rfl (fun K hK => ?_) (AllReadyH.nil))
    ·go_simp
     refine Calls.mono (HY.out _ (H2.out.keep (nT bw0 bw))) ?_
     rintro r v31 ⟨_, rfl, ⟨a2, n2, c2, rfl, HN2, hO2⟩, bN⟩
     refine hK.out _ _ (nT bw bN) (fun _ => ?_)
     clear hK K
     replace X3 := kF bN X0 X3
     replace X4 := kF bN X1 X4
     replace X5 := kF bN X2 X5
     replace X0 := kC bN X0
     replace X1 := kC bN X1
     replace X2 := kC bN X2
     replace hP1 := hP1.keep bN
     have hP2 := hO2.low (B' := w0.heap.size) bw.size
     replace bw := nT bw bN
     clear bN hO2
     try simp only [Act.put, List.setIfInBounds_toArray, List.set_cons_zero, List.set_cons_succ]
     refine wpAnyH_ready (rs := [5]) (by kernel_rfl) (by simp) ?_
     refine AllReadyH.cons rfl (fun K hK => ?_) (AllReadyH.nil)
     ·go_simp
      refine hK.out _ _ (bl_alloc bw _) (fun _ => ?_)
      clear hK K
      have bN := below_one v31 (.cells #[.bool false, .slice none 0 0, .int .i64 0] 27)
      have ne1 : wd.heap.size ≠ v31.heap.size := Nat.ne_of_lt (World.block_lt_of_cell? _ _ X0)
      have ne2 := Ne.symm ne1
      replace X3 := kF bN X0 X3
      replace X4 := kF bN X1 X4
      replace X5 := kF bN X2 X5
      replace X0 := kC bN X0
      replace X1 := kC bN X1
      replace X2 := kC bN X2
      replace hP1 := hP1.keep bN
      replace hP2 := hP2.keep bN
      obtain ⟨Y0, Y1, Y2, Y3, Y4, Y5⟩ := zero_dy (w := v31) (r := v31.heap.size) (W' := v31.alloc (.cells #[.bool false, .slice none 0 0, .int .i64 0] 27)) (Below.refl _ _) rfl
      have YL : w0.heap.size ≤ v31.heap.size := bw.size
      replace bw := bl_alloc bw (.cells #[.bool false, .slice none 0 0, .int .i64 0] 27)
      clear bN
      try simp only [Act.put, List.setIfInBounds_toArray, List.set_cons_zero, List.set_cons_succ]
      generalize v31.alloc (.cells #[.bool false, .slice none 0 0, .int .i64 0] 27) = v32 at *
      refine wpAnyH_ready (rs := [6]) (by kernel_rfl) (by simp) ?_
      refine AllReadyH.cons rfl (fun K hK => ?_) (AllReadyH.nil)
      ·go_simp
       have bS : Below w0.heap.size w0 (((v32.setCell ⟨wd.heap.size, 0, none⟩ (.bool x.1)).setCell ⟨wd.heap.size, 1, none⟩ (.slice a1 n1 c1)).setCell ⟨wd.heap.size, 2, none⟩ (.int .i64 x.2.2)) := ((bw.setCell XL _).setCell XL _).setCell XL _
       refine hK.out _ _ bS (fun _ => ?_)
       clear hK K
       replace hP1 := hP1.set_dy _ _ _ _ _ _ (.bool x.1) (.slice a1 n1 c1) (.int .i64 x.2.2) X0 X1 X2
       replace hP2 := hP2.set_dy _ _ _ _ _ _ (.bool x.1) (.slice a1 n1 c1) (.int .i64 x.2.2) X0 X1 X2
       replace Y0 := set3_cell (v0 := .bool x.1) (v1 := .slice a1 n1 c1) (v2 := .int .i64 x.2.2) Y0 (r := wd.heap.size) (by first | exact ne1 | exact ne2)
       replace Y1 := set3_cell (v0 := .bool x.1) (v1 := .slice a1 n1 c1) (v2 := .int .i64 x.2.2) Y1 (r := wd.heap.size) (by first | exact ne1 | exact ne2)
       replace Y2 := set3_cell (v0 := .bool x.1) (v1 := .slice a1 n1 c1) (v2 := .int .i64 x.2.2) Y2 (r := wd.heap.size) (by first | exact ne1 | exact ne2)
       replace Y3 := set3_frozen (r := wd.heap.size) (v0 := .bool x.1) (v1 := .slice a1 n1 c1) (v2 := .int .i64 x.2.2) Y3
       replace Y4 := set3_frozen (r := wd.heap.size) (v0 := .bool x.1) (v1 := .slice a1 n1 c1) (v2 := .int .i64 x.2.2) Y4
       replace Y5 := set3_frozen (r := wd.heap.size) (v0 := .bool x.1) (v1 := .slice a1 n1 c1) (v2 := .int .i64 x.2.2) Y5
       obtain ⟨Z0, Z1, Z2⟩ := set3_same (r := wd.heap.size) (v0 := .bool x.1) (v1 := .slice a1 n1 c1) (v2 := .int .i64 x.2.2) X0 X1 X2
       clear X0 X1 X2 X3 X4 X5 bw
       try simp only [Act.put, List.setIfInBounds_toArray, List.set_cons_zero, List.set_cons_succ]
       generalize (((v32.setCell ⟨wd.heap.size, 0, none⟩ (.bool x.1)).setCell ⟨wd.heap.size, 1, none⟩ (.slice a1 n1 c1)).setCell ⟨wd.heap.size, 2, none⟩ (.int .i64 x.2.2)) = v33 at *
       have X0 := Z0
       have X1 := Z1
       have X2 := Z2
       have bw := bS
       clear Z0 Z1 Z2 bS
       refine wpAnyH_ready (rs := [7]) (by kernel_rfl) (by simp) ?_
       refine AllReadyH.cons rfl (fun K hK => ?_) (AllReadyH.nil)
       ·go_simp
        have bS : Below w0.heap.size w0 (((v33.setCell ⟨v31.heap.size, 0, none⟩ (.bool y.1)).setCell ⟨v31.heap.size, 1, none⟩ (.slice a2 n2 c2)).setCell ⟨v31.heap.size, 2, none⟩ (.int .i64 y.2.2)) := ((bw.setCell YL _).setCell YL _).setCell YL _
        refine hK.out _ _ bS (fun _ => ?_)
        clear hK K
        replace hP1 := hP1.set_dy _ _ _ _ _ _ (.bool y.1) (.slice a2 n2 c2) (.int .i64 y.2.2) Y0 Y1 Y2
        replace hP2 := hP2.set_dy _ _ _ _ _ _ (.bool y.1) (.slice a2 n2 c2) (.int .i64 y.2.2) Y0 Y1 Y2
        replace X0 := set3_cell (v0 := .bool y.1) (v1 := .slice a2 n2 c2) (v2 := .int .i64 y.2.2) X0 (r := v31.heap.size) (by first | exact ne1 | exact ne2)
        replace X1 := set3_cell (v0 := .bool y.1) (v1 := .slice a2 n2 c2) (v2 := .int .i64 y.2.2) X1 (r := v31.heap.size) (by first | exact ne1 | exact ne2)
        replace X2 := set3_cell (v0 := .bool y.1) (v1 := .slice a2 n2 c2) (v2 := .int .i64 y.2.2) X2 (r := v31.heap.size) (by first | exact ne1 | exact ne2)
        obtain ⟨Z0, Z1, Z2⟩ := set3_same (r := v31.heap.size) (v0 := .bool y.1) (v1 := .slice a2 n2 c2) (v2 := .int .i64 y.2.2) Y0 Y1 Y2
        clear Y0 Y1 Y2 Y3 Y4 Y5 bw
        try simp only [Act.put, List.setIfInBounds_toArray, List.set_cons_zero, List.set_cons_succ]
        generalize (((v33.setCell ⟨v31.heap.size, 0, none⟩ (.bool y.1)).setCell ⟨v31.heap.size, 1, none⟩ (.slice a2 n2 c2)).setCell ⟨v31.heap.size, 2, none⟩ (.int .i64 y.2.2)) = v34 at *
        have Y0 := Z0
        have Y1 := Z1
        have Y2 := Z2
        have bw := bS
        clear Z0 Z1 Z2 bS
        refine wpAnyH_done (by kernel_rfl) ?_ _
        go_wp2_with fail
        go_meet
        case rel => exact ⟨_, _, rfl, rfl, a1, n1, c1, a2, n2, c2, X0, X1, X2, Y0, Y1, Y2, HN1, HN2, hP1, hP2, bw, XL, YL⟩
    ·go_simp
     refine hK.out _ _ (bl_alloc bw _) (fun _ => ?_)
     clear hK K
     have bN := below_one v30 (.cells #[.bool false, .slice none 0 0, .int .i64 0] 27)
     have ne1 : wd.heap.size ≠ v30.heap.size := Nat.ne_of_lt (World.block_lt_of_cell? _ _ X0)
     have ne2 := Ne.symm ne1
     replace X3 := kF bN X0 X3
     replace X4 := kF bN X1 X4
     replace X5 := kF bN X2 X5
     replace X0 := kC bN X0
     replace X1 := kC bN X1
     replace X2 := kC bN X2
     replace hP1 := hP1.keep bN
     obtain ⟨Y0, Y1, Y2, Y3, Y4, Y5⟩ := zero_dy (w := v30) (r := v30.heap.size) (W' := v30.alloc (.cells #[.bool false, .slice none 0 0, .int .i64 0] 27)) (Below.refl _ _) rfl
     have YL : w0.heap.size ≤ v30.heap.size := bw.size
     replace bw := bl_alloc bw (.cells #[.bool false, .slice none 0 0, .int .i64 0] 27)
     clear bN
     try simp only [Act.put, List.setIfInBounds_toArray, List.set_cons_zero, List.set_cons_succ]
     generalize v30.alloc (.cells #[.bool false, .slice none 0 0, .int .i64 0] 27) = v35 at *
     refine wpAnyH_ready (rs := [3]) (by kernel_rfl) (by simp) ?_
     refine AllReadyH.cons rfl (fun K hK => ?_) (AllReadyH.nil)
     ·go_simp
      refine Calls.mono (HY.out _ (H2.out.keep (nT bw0 bw))) ?_
      rintro r v36 ⟨_, rfl, ⟨a2, n2, c2, rfl, HN2, hO2⟩, bN⟩
      refine hK.out _ _ (nT bw bN) (fun _ => ?_)
      clear hK K
      replace X3 := kF bN X0 X3
      replace X4 := kF bN X1 X4
      replace X5 := kF bN X2 X5
      replace X0 := kC bN X0
      replace X1 := kC bN X1
      replace X2 := kC bN X2
      replace Y3 := kF bN Y0 Y3
      replace Y4 := kF bN Y1 Y4
      replace Y5 := kF bN Y2 Y5
      replace Y0 := kC bN Y0
      replace Y1 := kC bN Y1
      replace Y2 := kC bN Y2
      replace hP1 := hP1.keep bN
      have hP2 := hO2.low (B' := w0.heap.size) bw.size
      replace bw := nT bw bN
      clear bN hO2
      try simp only [Act.put, List.setIfInBounds_toArray, List.set_cons_zero, List.set_cons_succ]
      refine wpAnyH_ready (rs := [6]) (by kernel_rfl) (by simp) ?_
      refine AllReadyH.cons rfl (fun K hK => ?_) (AllReadyH.nil)
      ·go_simp
       have bS : Below w0.heap.size w0 (((v36.setCell ⟨wd.heap.size, 0, none⟩ (.bool x.1)).setCell ⟨wd.heap.size, 1, none⟩ (.slice a1 n1 c1)).setCell ⟨wd.heap.size, 2, none⟩ (.int .i64 x.2.2)) := ((bw.setCell XL _).setCell XL _).setCell XL _
       refine hK.out _ _ bS (fun _ => ?_)
       clear hK K
       replace hP1 := hP1.set_dy _ _ _ _ _ _ (.bool x.1) (.slice a1 n1 c1) (.int .i64 x.2.2) X0 X1 X2
       replace hP2 := hP2.set_dy _ _ _ _ _ _ (.bool x.1) (.slice a1 n1 c1) (.int .i64 x.2.2) X0 X1 X2
       replace Y0 := set3_cell (v0 := .bool x.1) (v1 := .slice a1 n1 c1) (v2 := .int .i64 x.2.2) Y0 (r := wd.heap.size) (by first | exact ne1 | exact ne2)
       replace Y1 := set3_cell (v0 := .bool x.1) (v1 := .slice a1 n1 c1) (v2 := .int .i64 x.2.2) Y1 (r := wd.heap.size) (by first | exact ne1 | exact ne2)
       replace Y2 := set3_cell (v0 := .bool x.1) (v1 := .slice a1 n1 c1) (v2 := .int .i64 x.2.2) Y2 (r := wd.heap.size) (by first | exact ne1 | exact ne2)
       replace Y3 := set3_frozen (r := wd.heap.size) (v0 := .bool x.1) (v1 := .slice a1 n1 c1) (v2 := .int .i64 x.2.2) Y3
       replace Y4 := set3_frozen (r := wd.heap.size) (v0 := .bool x.1) (v1 := .slice a1 n1 c1) (v2 := .int .i64 x.2.2) Y4
       replace Y5 := set3_frozen (r := wd.heap.size) (v0 := .bool x.1) (v1 := .slice a1 n1 c1) (v2 := .int .i64 x.2.2) Y5
       obtain ⟨Z0, Z1, Z2⟩ := set3_same (r := wd.heap.size) (v0 := .bool x.1) (v1 := .slice a1 n1 c1) (v2 := .int .i64 x.2.2) X0 X1 X2
       clear X0 X1 X2 X3 X4 X5 bw
       try simp only [Act.put, List.setIfInBounds_toArray, List.set_cons_zero, List.set_cons_succ]
       generalize (((v36.setCell ⟨wd.heap.size, 0, none⟩ (.bool x.1)).setCell ⟨wd.heap.size, 1, none⟩ (.slice a1 n1 c1)).setCell ⟨wd.heap.size, 2, none⟩ (.int .i64 x.2.2)) = v37 at *
       have X0 := Z0
       have X1 := Z1
       have X2 := Z2
       have bw := bS
       clear Z0 Z1 Z2 bS
       refine wpAnyH_ready (rs := [7]) (by kernel_rfl) (by simp) ?_
       refine AllReadyH.cons rfl (fun K hK => ?_) (AllReadyH.nil)
       ·go_simp
        have bS : Below w0.heap.size w0 (((v37.setCell ⟨v30.heap.size, 0, none⟩ (.bool y.1)).setCell ⟨v30.heap.size, 1, none⟩ (.slice a2 n2 c2)).setCell ⟨v30.heap.size, 2, none⟩ (.int .i64 y.2.2)) := ((bw.setCell YL _).setCell YL _).setCell YL _
        refine hK.out _ _ bS (fun _ => ?_)
        clear hK K
        replace hP1 := hP1.set_dy _ _ _ _ _ _ (.bool y.1) (.slice a2 n2 c2) (.int .i64 y.2.2) Y0 Y1 Y2
        replace hP2 := hP2.set_dy _ _ _ _ _ _ (.bool y.1) (.slice a2 n2 c2) (.int .i64 y.2.2) Y0 Y1 Y2
        replace X0 := set3_cell (v0 := .bool y.1) (v1 := .slice a2 n2 c2) (v2 := .int .i64 y.2.2) X0 (r := v30.heap.size) (by first | exact ne1 | exact ne2)
        replace X1 := set3_cell (v0 := .bool y.1) (v1 := .slice a2 n2 c2) (v2 := .int .i64 y.2.2) X1 (r := v30.heap.size) (by first | exact ne1 | exact ne2)
        replace X2 := set3_cell (v0 := .bool y.1) (v1 := .slice a2 n2 c2) (v2 := .int .i64 y.2.2) X2 (r := v30.heap.size) (by first | exact ne1 | exact ne2)
        obtain ⟨Z0, Z1, Z2⟩ := set3_same (r := v30.heap.size) (v0 := .bool y.1) (v1 := .slice a2 n2 c2) (v2 := .int .i64 y.2.2) Y0 Y1 Y2
        clear Y0 Y1 Y2 Y3 Y4 Y5 bw
        try simp only [Act.put, List.setIfInBounds_toArray, List.set_cons_zero, List.set_cons_succ]
        generalize (((v37.setCell ⟨v30.heap.size, 0, none⟩ (.bool y.1)).setCell ⟨v30.heap.size, 1, none⟩ (.slice a2 n2 c2)).setCell ⟨v30.heap.size, 2, none⟩ (.int .i64 y.2.2)) = v38 at *
        have Y0 := Z0
        have Y1 := Z1
        have Y2 := Z2
        have bw := bS
        clear Z0 Z1 Z2 bS
        refine wpAnyH_done (by kernel_rfl) ?_ _
        go_wp2_with fail
        go_meet
        case rel => exact ⟨_, _, rfl, rfl, a1, n1, c1, a2, n2, c2, X0, X1, X2, Y0, Y1, Y2, HN1, HN2, hP1, hP2, bw, XL, YL⟩
   ·go_simp
    refine hK.out _ _ (bl_alloc bw _) (fun _ => ?_)
    clear hK K
    have bN := below_one v29 (.cells #[.bool false, .slice none 0 0, .int .i64 0] 27)
    have ne1 : wd.heap.size ≠ v29.heap.size := Nat.ne_of_lt (World.block_lt_of_cell? _ _ X0)
    have ne2 := Ne.symm ne1
    replace X3 := kF bN X0 X3
    replace X4 := kF bN X1 X4
    replace X5 := kF bN X2 X5
    replace X0 := kC bN X0
    replace X1 := kC bN X1
    replace X2 := kC bN X2
    obtain ⟨Y0, Y1, Y2, Y3, Y4, Y5⟩ := zero_dy (w := v29) (r := v29.heap.size) (W' := v29.alloc (.cells #[.bool false, .slice none 0 0, .int .i64 0] 27)) (Below.refl _ _) rfl
    have YL : w0.heap.size ≤ v29.heap.size := bw.size
    replace bw := bl_alloc bw (.cells #[.bool false, .slice none 0 0, .int .i64 0] 27)
    clear bN
    try simp only [Act.put, List.setIfInBounds_toArray, List.set_cons_zero, List.set_cons_succ]
    generalize v29.alloc (.cells #[.bool false, .slice none 0 0, .int .i64 0] 27) = v39 at *
    refine wpAnyH_ready (rs := [1]) (by kernel_rfl) (by simp) ?_
    refine AllReadyH.cons rfl (fun K hK => ?_) (AllReadyH.nil)
    ·go_simp
     refine Calls.mono (HX.out _ (H1.out.keep (nT bw0 bw))) ?_
     rintro r v40 ⟨_, rfl, ⟨a1, n1, c1, rfl, HN1, hO1⟩, bN⟩
     refine hK.out _ _ (nT bw bN) (fun _ => ?_)
     clear hK K
     replace X3 := kF bN X0 X3
     replace X4 := kF bN X1 X4
     replace X5 := kF bN X2 X5
     replace X0 := kC bN X0
     replace X1 := kC bN X1
     replace X2 := kC bN X2
     replace Y3 := kF bN Y0 Y3
     replace Y4 := kF bN Y1 Y4
     replace Y5 := kF bN Y2 Y5
     replace Y0 := kC bN Y0
     replace Y1 := kC bN Y1
     replace Y2 := kC bN Y2
     have hP1 := hO1.low (B' := w0.heap.size) bw.size
     replace bw := nT bw bN
     clear bN hO1
     try simp only [Act.put, List.setIfInBounds_toArray, List.set_cons_zero, List.set_cons_succ]
     refine wpAnyH_ready (rs := [3]) (by kernel_rfl) (by simp) ?_
     refine AllReadyH.cons rfl (fun K hK => ?_) (AllReadyH.nil)
     ·go_simp
      refine Calls.mono (HY.out _ (H2.out.keep (nT bw0 bw))) ?_
      rintro r v41 ⟨_, rfl, ⟨a2, n2, c2, rfl, HN2, hO2⟩, bN⟩
      refine hK.out _ _ (nT bw bN) (fun _ => ?_)
      clear hK K
      replace X3 := kF bN X0 X3
      replace X4 := kF bN X1 X4
      replace X5 := kF bN X2 X5
      replace X0 := kC bN X0
      replace X1 := kC bN X1
      replace X2 := kC bN X2
      replace Y3 := kF bN Y0 Y3
      replace Y4 := kF bN Y1 Y4
      replace Y5 := kF bN Y2 Y5
      replace Y0 := kC bN Y0
      replace Y1 := kC bN Y1
      replace Y2 := kC bN Y2
      replace hP1 := hP1.keep bN
      have hP2 := hO2.low (B' := w0.heap.size) bw.size
      replace bw := nT bw bN
      clear bN hO2
      try simp only [Act.put, List.setIfInBounds_toArray, List.set_cons_zero, List.set_cons_succ]
      refine wpAnyH_ready (rs := [6]) (by kernel_rfl) (by simp) ?_
      refine AllReadyH.cons rfl (fun K hK => ?_) (AllReadyH.nil)
      ·go_simp
       have bS : Below w0.heap.size w0 (((v41.setCell ⟨wd.heap.size, 0, none⟩ (.bool x.1)).setCell ⟨wd.heap.size, 1, none⟩ (.slice a1 n1 c1)).setCell ⟨wd.heap.size, 2, none⟩ (.int .i64 x.2.2)) := ((bw.setCell XL _).setCell XL _).setCell XL _
       refine hK.out _ _ bS (fun _ => ?_)
       clear hK K
       replace hP1 := hP1.set_dy _ _ _ _ _ _ (.bool x.1) (.slice a1 n1 c1) (.int .i64 x.2.2) X0 X1 X2
       replace hP2 := hP2.set_dy _ _ _ _ _ _ (.bool x.1) (.slice a1 n1 c1) (.int .i64 x.2.2) X0 X1 X2
       replace Y0 := set3_cell (v0 := .bool x.1) (v1 := .slice a1 n1 c1) (v2 := .int .i64 x.2.2) Y0 (r := wd.heap.size) (by first | exact ne1 | exact ne2)
       replace Y1 := set3_cell (v0 := .bool x.1) (v1 := .slice a1 n1 c1) (v2 := .int .i64 x.2.2) Y1 (r := wd.heap.size) (by first | exact ne1 | exact ne2)
       replace Y2 := set3_cell (v0 := .bool x.1) (v1 := .slice a1 n1 c1) (v2 := .int .i64 x.2.2) Y2 (r := wd.heap.size) (by first | exact ne1 | exact ne2)
       replace Y3 := set3_frozen (r := wd.heap.size) (v0 := .bool x.1) (v1 := .slice a1 n1 c1) (v2 := .int .i64 x.2.2) Y3
       replace Y4 := set3_frozen (r := wd.heap.size) (v0 := .bool x.1) (v1 := .slice a1 n1 c1) (v2 := .int .i64 x.2.2) Y4
       replace Y5 := set3_frozen (r := wd.heap.size) (v0 := .bool x.1) (v1 := .slice a1 n1 c1) (v2 := .int .i64 x.2.2) Y5
       obtain ⟨Z0, Z1, Z2⟩ := set3_same (r := wd.heap.size) (v0 := .bool x.1) (v1 := .slice a1 n1 c1) (v2 := .int .i64 x.2.2) X0 X1 X2
       clear X0 X1 X2 X3 X4 X5 bw
       try simp only [Act.put, List.setIfInBounds_toArray, List.set_cons_zero, List.set_cons_succ]
       generalize (((v41.setCell ⟨wd.heap.size, 0, none⟩ (.bool x.1)).setCell ⟨wd.heap.size, 1, none⟩ (.slice a1 n1 c1)).setCell ⟨wd.heap.size, 2, none⟩ (.int .i64 x.2.2)) = v42 at *
       have X0 := Z0
       have X1 := Z1
       have X2 := Z2
       have bw := bS
       clear Z0 Z1 Z2 bS
       refine wpAnyH_ready (rs := [7]) (by kernel_rfl) (by simp) ?_
       refine AllReadyH.cons rfl (fun K hK => ?_) (AllReadyH.nil)
       ·go_simp
        have bS : Below w0.heap.size w0 (((v42.setCell ⟨v29.heap.size, 0, none⟩ (.bool y.1)).setCell ⟨v29.heap.size, 1, none⟩ (.slice a2 n2 c2)).setCell ⟨v29.heap.size, 2, none⟩ (.int .i64 y.2.2)) := ((bw.setCell YL _).setCell YL _).setCell YL _
        refine hK.out _ _ bS (fun _ => ?_)
        clear hK K
        replace hP1 := hP1.set_dy _ _ _ _ _ _ (.bool y.1) (.slice a2 n2 c2) (.int .i64 y.2.2) Y0 Y1 Y2
        replace hP2 := hP2.set_dy _ _ _ _ _ _ (.bool y.1) (.slice a2 n2 c2) (.int .i64 y.2.2) Y0 Y1 Y2
        replace X0 := set3_cell (v0 := .bool y.1) (v1 := .slice a2 n2 c2) (v2 := .int .i64 y.2.2) X0 (r := v29.heap.size) (by first | exact ne1 | exact ne2)
        replace X1 := set3_cell (v0 := .bool y.1) (v1 := .slice a2 n2 c2) (v2 := .int .i64 y.2.2) X1 (r := v29.heap.size) (by first | exact ne1 | exact ne2)
        replace X2 := set3_cell (v0 := .bool y.1) (v1 := .slice a2 n2 c2) (v2 := .int .i64 y.2.2) X2 (r := v29.heap.size) (by first | exact ne1 | exact ne2)
        obtain ⟨Z0, Z1, Z2⟩ := set3_same (r := v29.heap.size) (v0 := .bool y.1) (v1 := .slice a2 n2 c2) (v2 := .int .i64 y.2.2) Y0 Y1 Y2
        clear Y0 Y1 Y2 Y3 Y4 Y5 bw
        try simp only [Act.put, List.setIfInBounds_toArray, List.set_cons_zero, List.set_cons_succ]
        generalize (((v42.setCell ⟨v29.heap.size, 0, none⟩ (.bool y.1)).setCell ⟨v29.heap.size, 1, none⟩ (.slice a2 n2 c2)).setCell ⟨v29.heap.size, 2, none⟩ (.int .i64 y.2.2)) = v43 at *
        have Y0 := Z0
        have Y1 := Z1
        have Y2 := Z2
        have bw := bS
        clear Z0 Z1 Z2 bS
        refine wpAnyH_done (by kernel_rfl) ?_ _
        go_wp2_with fail
        go_meet
        case rel => exact ⟨_, _, rfl, rfl, a1, n1, c1, a2, n2, c2, X0, X1, X2, Y0, Y1, Y2, HN1, HN2, hP1, hP2, bw, XL, YL⟩
  ·go_simp
   refine hK.out _ _ (bl_alloc bw _) (fun _ => ?_)
   clear hK K
   have bN := below_one wd (.cells #[.bool false, .slice none 0 0, .int .i64 0] 27)
   obtain ⟨Y0, Y1, Y2, Y3, Y4, Y5⟩ := zero_dy (w := wd) (r := wd.heap.size) (W' := wd.alloc (.cells #[.bool false, .slice none 0 0, .int .i64 0] 27)) (Below.refl _ _) rfl
   have YL : w0.heap.size ≤ wd.heap.size := bw.size
   replace bw := bl_alloc bw (.cells #[.bool false, .slice none 0 0, .int .i64 0] 27)
   clear bN
   try simp only [Act.put, List.setIfInBounds_toArray, List.set_cons_zero, List.set_cons_succ]
   generalize wd.alloc (.cells #[.bool false, .slice none 0 0, .int .i64 0] 27) = v44 at *
   refine wpAnyH_ready (rs := [1, 4]) (by kernel_rfl) (by simp) ?_
   refine AllReadyH.cons rfl (fun K hK => ?_) (AllReadyH.cons rfl (fun K hK => ?_) (AllReadyH.nil))
   ·go_simp
    refine Calls.mono (HX.out _ (H1.out.keep (nT bw0 bw))) ?_
    rintro r v45 ⟨_, rfl, ⟨a1, n1, c1, rfl, HN1, hO1⟩, bN⟩
    refine hK.out _ _ (nT bw bN) (fun _ => ?_)
    clear hK K
    replace Y3 := kF bN Y0 Y3
    replace Y4 := kF bN Y1 Y4
    replace Y5 := kF bN Y2 Y5
    replace Y0 := kC bN Y0
    replace Y1 := kC bN Y1
    replace Y2 := kC bN Y2
    have hP1 := hO1.low (B' := w0.heap.size) bw.size
    replace bw := nT bw bN
    clear bN hO1
    try simp only [Act.put, List.setIfInBounds_toArray, List.set_cons_zero, List.set_cons_succ]
    refine wpAnyH_ready (rs := [3, 4]) (by kernel_rfl) (by simp) ?_
    refine AllReadyH.cons rfl (fun K hK => ?_) (AllReadyH.cons rfl (fun K hK => ?_) (AllReadyH.nil))
    ·go_simp
     refine Calls.mono (HY.out _ (H2.out.keep (nT bw0 bw))) ?_
     rintro r v46 ⟨_, rfl, ⟨a2, n2, c2, rfl, HN2, hO2⟩, bN⟩
     refine hK.out _ _ (nT bw bN) (fun _ => ?_)
     clear hK K
     replace Y3 := kF bN Y0 Y3
     replace Y4 := kF bN Y1 Y4
     replace Y5 := kF bN Y2 Y5
     replace Y0 := kC bN Y0
     replace Y1 := kC bN Y1
     replace Y2 := kC bN Y2
     replace hP1 := hP1.keep bN
     have hP2 := hO2.low (B' := w0.heap.size) bw.size
     replace bw := nT bw bN
     clear bN hO2
     try simp only [Act.put, List.setIfInBounds_toArray, List.set_cons_zero, List.set_cons_succ]
     refine wpAnyH_ready (rs := [4]) (by kernel_rfl) (by simp) ?_
     refine AllReadyH.cons rfl (fun K hK => ?_) (AllReadyH.nil)
     ·go_simp
      refine hK.out _ _ (bl_alloc bw _) (fun _ => ?_)
      clear hK K
      have bN := below_one v46 (.cells #[.bool false, .slice none 0 0, .int .i64 0] 27)
      have ne1 : wd.heap.size ≠ v46.heap.size := Nat.ne_of_lt (World.block_lt_of_cell? _ _ Y0)
      have ne2 := Ne.symm ne1
      replace Y3 := kF bN Y0 Y3
      replace Y4 := kF bN Y1 Y4
      replace Y5 := kF bN Y2 Y5
      replace Y0 := kC bN Y0
      replace Y1 := kC bN Y1
      replace Y2 := kC bN Y2
      replace hP1 := hP1.keep bN
      replace hP2 := hP2.keep bN
      obtain ⟨X0, X1, X2, X3, X4, X5⟩ := zero_dy (w := v46) (r := v46.heap.size) (W' := v46.alloc (.cells #[.bool false, .slice none 0 0, .int .i64 0] 27)) (Below.refl _ _) rfl
      have XL : w0.heap.size ≤ v46.heap.size := bw.size
      replace bw := bl_alloc bw (.cells #[.bool false, .slice none 0 0, .int .i64 0] 27)
      clear bN
      try simp only [Act.put, List.setIfInBounds_toArray, List.set_cons_zero, List.set_cons_succ]
      generalize v46.alloc (.cells #[.bool false, .slice none 0 0, .int .i64 0] 27) = v47 at *
      refine wpAnyH_ready (rs := [6]) (by kernel_rfl) (by simp) ?_
      refine AllReadyH.cons rfl (fun K hK => ?_) (AllReadyH.nil)
      ·go_simp
       have bS : Below w0.heap.size w0 (((v47.setCell ⟨v46.heap.size, 0, none⟩ (.bool x.1)).setCell ⟨v46.heap.size, 1, none⟩ (.slice a1 n1 c1)).setCell ⟨v46.heap.size, 2, none⟩ (.int .i64 x.2.2)) := ((bw.setCell XL _).setCell XL _).setCell XL _
       refine hK.out _ _ bS (fun _ => ?_)
       clear hK K
       replace hP1 := hP1.set_dy _ _ _ _ _ _ (.bool x.1) (.slice a1 n1 c1) (.int .i64 x.2.2) X0 X1 X2
       replace hP2 := hP2.set_dy _ _ _ _ _ _ (.bool x.1) (.slice a1 n1 c1) (.int .i64 x.2.2) X0 X1 X2
       replace Y0 := set3_cell (v0 := .bool x.1) (v1 := .slice a1 n1 c1) (v2 := .int .i64 x.2.2) Y0 (r := v46.heap.size) (by first | exact ne1 | exact ne2)
       replace Y1 := set3_cell (v0 := .bool x.1) (v1 := .slice a1 n1 c1) (v2 := .int .i64 x.2.2) Y1 (r := v46.heap.size) (by first | exact ne1 | exact ne2)
       replace Y2 := set3_cell (v0 := .bool x.1) (v1 := .slice a1 n1 c1) (v2 := .int .i64 x.2.2) Y2 (r := v46.heap.size) (by first | exact ne1 | exact ne2)
       replace Y3 := set3_frozen (r := v46.heap.size) (v0 := .bool x.1) (v1 := .slice a1 n1 c1) (v2 := .int .i64 x.2.2) Y3
       replace Y4 := set3_frozen (r := v46.heap.size) (v0 := .bool x.1) (v1 := .slice a1 n1 c1) (v2 := .int .i64 x.2.2) Y4
       replace Y5 := set3_frozen (r := v46.heap.size) (v0 := .bool x.1) (v1 := .slice a1 n1 c1) (v2 := .int .i64 x.2.2) Y5
       obtain ⟨Z0, Z1, Z2⟩ := set3_same (r := v46.heap.size) (v0 := .bool x.1) (v1 := .slice a1 n1 c1) (v2 := .int .i64 x.2.2) X0 X1 X2
       clear X0 X1 X2 X3 X4 X5 bw
       try simp only [Act.put, List.setIfInBounds_toArray, List.set_cons_zero, List.set_cons_succ]
       generalize (((v47.setCell ⟨v46.heap.size, 0, none⟩ (.bool x.1)).setCell ⟨v46.heap.size, 1, none⟩ (.slice a1 n1 c1)).setCell ⟨v46.heap.size, 2, none⟩ (.int .i64 x.2.2)) = v48 at *
       have X0 := Z0
       have X1 := Z1
       have X2 := Z2
       have bw := bS
       clear Z0 Z1 Z2 bS
       refine wpAnyH_ready (rs := [7]) (by kernel_rfl) (by simp) ?_
       refine AllReadyH.cons rfl (fun K hK => ?_) (AllReadyH.nil)
       ·go_simp
        have bS : Below w0.heap.size w0 (((v48.setCell ⟨wd.heap.size, 0, none⟩ (.bool y.1)).setCell ⟨wd.heap.size, 1, none⟩ (.slice a2 n2 c2)).setCell ⟨wd.heap.size, 2, none⟩ (.int .i64 y.2.2)) := ((bw.setCell YL _).setCell YL _).setCell YL _
        refine hK.out _ _ bS (fun _ => ?_)
        clear hK K
        replace hP1 := hP1.set_dy _ _ _ _ _ _ (.bool y.1) (.slice a2 n2 c2) (.int .i64 y.2.2) Y0 Y1 Y2
        replace hP2 := hP2.set_dy _ _ _ _ _ _ (.bool y.1) (.slice a2 n2 c2) (.int .i64 y.2.2) Y0 Y1 Y2
        replace X0 := set3_cell (v0 := .bool y.1) (v1 := .slice a2 n2 c2) (v2 := .int .i64 y.2.2) X0 (r := wd.heap.size) (by first | exact ne1 | exact ne2)
        replace X1 := set3_cell (v0 := .bool y.1) (v1 := .slice a2 n2 c2) (v2 := .int .i64 y.2.2) X1 (r := wd.heap.size) (by first | exact ne1 | exact ne2)
        replace X2 := set3_cell (v0 := .bool y.1) (v1 := .slice a2 n2 c2) (v2 := .int .i64 y.2.2) X2 (r := wd.heap.size) (by first | exact ne1 | exact ne2)
        obtain ⟨Z0, Z1, Z2⟩ := set3_same (r := wd.heap.size) (v0 := .bool y.1) (v1 := .slice a2 n2 c2) (v2 := .int .i64 y.2.2) Y0 Y1 Y2
        clear Y0 Y1 Y2 Y3 Y4 Y5 bw
        try simp only [Act.put, List.setIfInBounds_toArray, List.set_cons_zero, List.set_cons_succ]
        generalize (((v48.setCell ⟨wd.heap.size, 0, none⟩ (.bool y.1)).setCell ⟨wd.heap.size, 1, none⟩ (.slice a2 n2 c2)).setCell ⟨wd.heap.size, 2, none⟩ (.int .i64 y.2.2)) = v49 at *
        have Y0 := Z0
        have Y1 := Z1
        have Y2 := Z2
        have bw := bS
        clear Z0 Z1 Z2 bS
        refine wpAnyH_done (by kernel_rfl) ?_ _
        go_wp2_with fail
        go_meet
        case rel => exact ⟨_, _, rfl, rfl, a1, n1, c1, a2, n2, c2, X0, X1, X2, Y0, Y1, Y2, HN1, HN2, hP1, hP2, bw, XL, YL⟩
    ·go_simp
     refine hK.out _ _ (bl_alloc bw _) (fun _ => ?_)
     clear hK K
     have bN := below_one v45 (.cells #[.bool false, .slice none 0 0, .int .i64 0] 27)
     have ne1 : wd.heap.size ≠ v45.heap.size := Nat.ne_of_lt (World.block_lt_of_cell? _ _ Y0)
     have ne2 := Ne.symm ne1
     replace Y3 := kF bN Y0 Y3
     replace Y4 := kF bN Y1 Y4
     replace Y5 := kF bN Y2 Y5
     replace Y0 := kC bN Y0
     replace Y1 := kC bN Y1
     replace Y2 := kC bN Y2
     replace hP1 := hP1.keep bN
     obtain ⟨X0, X1, X2, X3, X4, X5⟩ := zero_dy (w := v45) (r := v45.heap.size) (W' := v45.alloc (.cells #[.bool false, .slice none 0 0, .int .i64 0] 27)) (Below.refl _ _) rfl
     have XL : w0.heap.size ≤ v45.heap.size := bw.size
     replace bw := bl_alloc bw (.cells #[.bool false, .slice none 0 0, .int .i64 0] 27)
     clear bN
     try simp only [Act.put, List.setIfInBounds_toArray, List.set_cons_zero, List.set_cons_succ]
     generalize v45.alloc (.cells #[.bool false, .slice none 0 0, .int .i64 0] 27) = v50 at *
     refine wpAnyH_ready (rs := [3]) (by kernel_rfl) (by simp) ?_
     refine AllReadyH.cons rfl (fun K hK => ?_) (AllReadyH.nil)
     ·go_simp
      refine Calls.mono (HY.out _ (H2.out.keep (nT bw0 bw))) ?_
      rintro r v51 ⟨_, rfl, ⟨a2, n2, c2, rfl, HN2, hO2⟩, bN⟩
      refine hK.out _ _ (nT bw bN) (fun _ => ?_)
      clear hK K
      replace X3 := kF bN X0 X3
      replace X4 := kF bN X1 X4
      replace X5 := kF bN X2 X5
      replace X0 := kC bN X0
      replace X1 := kC bN X1
      replace X2 := kC bN X2
      replace Y3 := kF bN Y0 Y3
      replace Y4 := kF bN Y1 Y4
      replace Y5 := kF bN Y2 Y5
      replace Y0 := kC bN Y0
      replace Y1 := kC bN Y1
      replace Y2 := kC bN Y2
      replace hP1 := hP1.keep bN
      have hP2 := hO2.low (B' := w0.heap.size) bw.size
      replace bw := nT bw bN
      clear bN hO2
      try simp only [Act.put, List.setIfInBounds_toArray, List.set_cons_zero, List.set_cons_succ]
      refine wpAnyH_ready (rs := [6]) (by kernel_rfl) (by simp) ?_
      refine AllReadyH.cons rfl (fun K hK => ?_) (AllReadyH.nil)
      ·go_simp
       have bS : Below w0.heap.size w0 (((v51.setCell ⟨v45.heap.size, 0, none⟩ (.bool x.1)).setCell ⟨v45.heap.size, 1, none⟩ (.slice a1 n1 c1)).setCell ⟨v45.heap.size, 2, none⟩ (.int .i64 x.2.2)) := ((bw.setCell XL _).setCell XL _).setCell XL _
       refine hK.out _ _ bS (fun _ => ?_)
       clear hK K
       replace hP1 := hP1.set_dy _ _ _ _ _ _ (.bool x.1) (.slice a1 n1 c1) (.int .i64 x.2.2) X0 X1 X2
       replace hP2 := hP2.set_dy _ _ _ _ _ _ (.bool x.1) (.slice a1 n1 c1) (.int .i64 x.2.2) X0 X1 X2
       replace Y0 := set3_cell (v0 := .bool x.1) (v1 := .slice a1 n1 c1) (v2 := .int .i64 x.2.2) Y0 (r := v45.heap.size) (by first | exact ne1 | exact ne2)
       replace Y1 := set3_cell (v0 := .bool x.1) (v1 := .slice a1 n1 c1) (v2 := .int .i64 x.2.2) Y1 (r := v45.heap.size) (by first | exact ne1 | exact ne2)
       replace Y2 := set3_cell (v0 := .bool x.1) (v1 := .slice a1 n1 c1) (v2 := .int .i64 x.2.2) Y2 (r := v45.heap.size) (by first | exact ne1 | exact ne2)
       replace Y3 := set3_frozen (r := v45.heap.size) (v0 := .bool x.1) (v1 := .slice a1 n1 c1) (v2 := .int .i64 x.2.2) Y3
       replace Y4 := set3_frozen (r := v45.heap.size) (v0 := .bool x.1) (v1 := .slice a1 n1 c1) (v2 := .int .i64 x.2.2) Y4
       replace Y5 := set3_frozen (r := v45.heap.size) (v0 := .bool x.1) (v1 := .slice a1 n1 c1) (v2 := .int .i64 x.2.2) Y5
       obtain ⟨Z0, Z1, Z2⟩ := set3_same (r := v45.heap.size) (v0 := .bool x.1) (v1 := .slice a1 n1 c1) (v2 := .int .i64 x.2.2) X0 X1 X2
       clear X0 X1 X2 X3 X4 X5 bw
       try simp only [Act.put, List.setIfInBounds_toArray, List.set_cons_zero, List.set_cons_succ]
       generalize (((v51.setCell ⟨v45.heap.size, 0, none⟩ (.bool x.1)).setCell ⟨v45.heap.size, 1, none⟩ (.slice a1 n1 c1)).setCell ⟨v45.heap.size, 2, none⟩ (.int .i64 x.2.2)) = v52 at *
       have X0 := Z0
       have X1 := Z1
       have X2 := Z2
       have bw := bS
       clear Z0 Z1 Z2 bS
       refine wpAnyH_ready (rs := [7]) (by kernel_rfl) (by simp) ?_
       refine AllReadyH.cons rfl (fun K hK => ?_) (AllReadyH.nil)
       ·go_simp
        have bS : Below w0.heap.size w0 (((v52.setCell ⟨wd.heap.size, 0, none⟩ (.bool y.1)).setCell ⟨wd.heap.size, 1, none⟩ (.slice a2 n2 c2)).setCell ⟨wd.heap.size, 2, none⟩ (.int .i64 y.2.2)) := ((bw.setCell YL _).setCell YL _).setCell YL _
        refine hK.out _ _ bS (fun _ => ?_)
        clear hK K
        replace hP1 := hP1.set_dy _ _ _ _ _ _ (.bool y.1) (.slice a2 n2 c2) (.int .i64 y.2.2) Y0 Y1 Y2
        replace hP2 := hP2.set_dy _ _ _ _ _ _ (.bool y.1) (.slice a2 n2 c2) (.int .i64 y.2.2) Y0 Y1 Y2
        replace X0 := set3_cell (v0 := .bool y.1) (v1 := .slice a2 n2 c2) (v2 := .int .i64 y.2.2) X0 (r := wd.heap.size) (by first | exact ne1 | exact ne2)
        replace X1 := set3_cell (v0 := .bool y.1) (v1 := .slice a2 n2 c2) (v2 := .int .i64 y.2.2) X1 (r := wd.heap.size) (by first | exact ne1 | exact ne2)
        replace X2 := set3_cell (v0 := .bool y.1) (v1 := .slice a2 n2 c2) (v2 := .int .i64 y.2.2) X2 (r := wd.heap.size) (by first | exact ne1 | exact ne2)
        obtain ⟨Z0, Z1, Z2⟩ := set3_same (r := wd.heap.size) (v0 := .bool y.1) (v1 := .slice a2 n2 c2) (v2 := .int .i64 y.2.2) Y0 Y1 Y2
        clear Y0 Y1 Y2 Y3 Y4 Y5 bw
        try simp only [Act.put, List.setIfInBounds_toArray, List.set_cons_zero, List.set_cons_succ]
        generalize (((v52.setCell ⟨wd.heap.size, 0, none⟩ (.bool y.1)).setCell ⟨wd.heap.size, 1, none⟩ (.slice a2 n2 c2)).setCell ⟨wd.heap.size, 2, none⟩ (.int .i64 y.2.2)) = v53 at *
        have Y0 := Z0
        have Y1 := Z1
        have Y2 := Z2
        have bw := bS
        clear Z0 Z1 Z2 bS
        refine wpAnyH_done (by kernel_rfl) ?_ _
        go_wp2_with fail
        go_meet
        case rel => exact ⟨_, _, rfl, rfl, a1, n1, c1, a2, n2, c2, X0, X1, X2, Y0, Y1, Y2, HN1, HN2, hP1, hP2, bw, XL, YL⟩
   ·go_simp
    refine hK.out _ _ (bl_alloc bw _) (fun _ => ?_)
    clear hK K
    have bN := below_one v44 (.cells #[.bool false, .slice none 0 0, .int .i64 0] 27)
    have ne1 : wd.heap.size ≠ v44.heap.size := Nat.ne_of_lt (World.block_lt_of_cell? _ _ Y0)
    have ne2 := Ne.symm ne1
    replace Y3 := kF bN Y0 Y3
    replace Y4 := kF bN Y1 Y4
    replace Y5 := kF bN Y2 Y5
    replace Y0 := kC bN Y0
    replace Y1 := kC bN Y1
    replace Y2 := kC bN Y2
    obtain ⟨X0, X1, X2, X3, X4, X5⟩ := zero_dy (w := v44) (r := v44.heap.size) (W' := v44.alloc (.cells #[.bool false, .slice none 0 0, .int .i64 0] 27)) (Below.refl _ _) rfl
    have XL : w0.heap.size ≤ v44.heap.size := bw.size
    replace bw := bl_alloc bw (.cells #[.bool false, .slice none 0 0, .int .i64 0] 27)
    clear bN
    try simp only [Act.put, List.setIfInBounds_toArray, List.set_cons_zero, List.set_cons_succ]
    generalize v44.alloc (.cells #[.bool false, .slice none 0 0, .int .i64 0] 27) = v54 at *
    refine wpAnyH_ready (rs := [1]) (by kernel_rfl) (by simp) ?_
    refine AllReadyH.cons rfl (fun K hK => ?_) (AllReadyH.nil)
    ·go_simp
     refine Calls.mono (HX.out _ (H1.out.keep (nT bw0 bw))) ?_
     rintro r v55 ⟨_, rfl, ⟨a1, n1, c1, rfl, HN1, hO1⟩, bN⟩
     refine hK.out _ _ (nT bw bN) (fun _ => ?_)
     clear hK K
     replace X3 := kF bN X0 X3
     replace X4 := kF bN X1 X4
     replace X5 := kF bN X2 X5
     replace X0 := kC bN X0
     replace X1 := kC bN X1
     replace X2 := kC bN X2
     replace Y3 := kF bN Y0 Y3
     replace Y4 := kF bN Y1 Y4
     replace Y5 := kF bN Y2 Y5
     replace Y0 := kC bN Y0
     replace Y1 := kC bN Y1
     replace Y2 := kC bN Y2
     have hP1 := hO1.low (B' := w0.heap.size) bw.size
     replace bw := nT bw bN
     clear bN hO1
     try simp only [Act.put, List.setIfInBounds_toArray, List.set_cons_zero, List.set_cons_succ]
     refine wpAnyH_ready (rs := [3]) (by kernel_rfl) (by simp) ?_
     refine AllReadyH.cons rfl (fun K hK => ?_) (AllReadyH.nil)
     ·go_simp
      refine Calls.mono (HY.out _ (H2.out.keep (nT bw0 bw))) ?_
      rintro r v56 ⟨_, rfl, ⟨a2, n2, c2, rfl, HN2, hO2⟩, bN⟩
      refine hK.out _ _ (nT bw bN) (fun _ => ?_)
      clear hK K
      replace X3 := kF bN X0 X3
      replace X4 := kF bN X1 X4
      replace X5 := kF bN X2 X5
      replace X0 := kC bN X0
      replace X1 := kC bN X1
      replace X2 := kC bN X2
      replace Y3 := kF bN Y0 Y3
      replace Y4 := kF bN Y1 Y4
      replace Y5 := kF bN Y2 Y5
      replace Y0 := kC bN Y0
      replace Y1 := kC bN Y1
      replace Y2 := kC bN Y2
      replace hP1 := hP1.keep bN
      have hP2 := hO2.low (B' := w0.heap.size) bw.size
      replace bw := nT bw bN
      clear bN hO2
      try simp only [Act.put, List.setIfInBounds_toArray, List.set_cons_zero, List.set_cons_succ]
      refine wpAnyH_ready (rs := [6]) (by kernel_rfl) (by simp) ?_
      refine AllReadyH.cons rfl (fun K hK => ?_) (AllReadyH.nil)
      ·go_simp
       have bS : Below w0.heap.size w0 (((v56.setCell ⟨v44.heap.size, 0, none⟩ (.bool x.1)).setCell ⟨v44.heap.size, 1, none⟩ (.slice a1 n1 c1)).setCell ⟨v44.heap.size, 2, none⟩ (.int .i64 x.2.2)) := ((bw.setCell XL _).setCell XL _).setCell XL _
       refine hK.out _ _ bS (fun _ => ?_)
       clear hK K
       replace hP1 := hP1.set_dy _ _ _ _ _ _ (.bool x.1) (.slice a1 n1 c1) (.int .i64 x.2.2) X0 X1 X2
       replace hP2 := hP2.set_dy _ _ _ _ _ _ (.bool x.1) (.slice a1 n1 c1) (.int .i64 x.2.2) X0 X1 X2
       replace Y0 := set3_cell (v0 := .bool x.1) (v1 := .slice a1 n1 c1) (v2 := .int .i64 x.2.2) Y0 (r := v44.heap.size) (by first | exact ne1 | exact ne2)
       replace Y1 := set3_cell (v0 := .bool x.1) (v1 := .slice a1 n1 c1) (v2 := .int .i64 x.2.2) Y1 (r := v44.heap.size) (by first | exact ne1 | exact ne2)
       replace Y2 := set3_cell (v0 := .bool x.1) (v1 := .slice a1 n1 c1) (v2 := .int .i64 x.2.2) Y2 (r := v44.heap.size) (by first | exact ne1 | exact ne2)
       replace Y3 := set3_frozen (r := v44.heap.size) (v0 := .bool x.1) (v1 := .slice a1 n1 c1) (v2 := .int .i64 x.2.2) Y3
       replace Y4 := set3_frozen (r := v44.heap.size) (v0 := .bool x.1) (v1 := .slice a1 n1 c1) (v2 := .int .i64 x.2.2) Y4
       replace Y5 := set3_frozen (r := v44.heap.size) (v0 := .bool x.1) (v1 := .slice a1 n1 c1) (v2 := .int .i64 x.2.2) Y5
       obtain ⟨Z0, Z1, Z2⟩ := set3_same (r := v44.heap.size) (v0 := .bool x.1) (v1 := .slice a1 n1 c1) (v2 := .int .i64 x.2.2) X0 X1 X2
       clear X0 X1 X2 X3 X4 X5 bw
       try simp only [Act.put, List.setIfInBounds_toArray, List.set_cons_zero, List.set_cons_succ]
       generalize (((v56.setCell ⟨v44.heap.size, 0, none⟩ (.bool x.1)).setCell ⟨v44.heap.size, 1, none⟩ (.slice a1 n1 c1)).setCell ⟨v44.heap.size, 2, none⟩ (.int .i64 x.2.2)) = v57 at *
       have X0 := Z0
       have X1 := Z1
       have X2 := Z2
       have bw := bS
       clear Z0 Z1 Z2 bS
       refine wpAnyH_ready (rs := [7]) (by kernel_rfl) (by simp) ?_
       refine AllReadyH.cons rfl (fun K hK => ?_) (AllReadyH.nil)
       ·go_simp
        have bS : Below w0.heap.size w0 (((v57.setCell ⟨wd.heap.size, 0, none⟩ (.bool y.1)).setCell ⟨wd.heap.size, 1, none⟩ (.slice a2 n2 c2)).setCell ⟨wd.heap.size, 2, none⟩ (.int .i64 y.2.2)) := ((bw.setCell YL _).setCell YL _).setCell YL _
        refine hK.out _ _ bS (fun _ => ?_)
        clear hK K
        replace hP1 := hP1.set_dy _ _ _ _ _ _ (.bool y.1) (.slice a2 n2 c2) (.int .i64 y.2.2) Y0 Y1 Y2
        replace hP2 := hP2.set_dy _ _ _ _ _ _ (.bool y.1) (.slice a2 n2 c2) (.int .i64 y.2.2) Y0 Y1 Y2
        replace X0 := set3_cell (v0 := .bool y.1) (v1 := .slice a2 n2 c2) (v2 := .int .i64 y.2.2) X0 (r := wd.heap.size) (by first | exact ne1 | exact ne2)
        replace X1 := set3_cell (v0 := .bool y.1) (v1 := .slice a2 n2 c2) (v2 := .int .i64 y.2.2) X1 (r := wd.heap.size) (by first | exact ne1 | exact ne2)
        replace X2 := set3_cell (v0 := .bool y.1) (v1 := .slice a2 n2 c2) (v2 := .int .i64 y.2.2) X2 (r := wd.heap.size) (by first | exact ne1 | exact ne2)
        obtain ⟨Z0, Z1, Z2⟩ := set3_same (r := wd.heap.size) (v0 := .bool y.1) (v1 := .slice a2 n2 c2) (v2 := .int .i64 y.2.2) Y0 Y1 Y2
        clear Y0 Y1 Y2 Y3 Y4 Y5 bw
        try simp only [Act.put, List.setIfInBounds_toArray, List.set_cons_zero, List.set_cons_succ]
        generalize (((v57.setCell ⟨wd.heap.size, 0, none⟩ (.bool y.1)).setCell ⟨wd.heap.size, 1, none⟩ (.slice a2 n2 c2)).setCell ⟨wd.heap.size, 2, none⟩ (.int .i64 y.2.2)) = v58 at *
        have Y0 := Z0
        have Y1 := Z1
        have Y2 := Z2
        have bw := bS
        clear Z0 Z1 Z2 bS
        refine wpAnyH_done (by kernel_rfl) ?_ _
        go_wp2_with fail
        go_meet
        case rel => exact ⟨_, _, rfl, rfl, a1, n1, c1, a2, n2, c2, X0, X1, X2, Y0, Y1, Y2, HN1, HN2, hP1, hP2, bw, XL, YL⟩
 case rest =>
  obtain ⟨X, Y, rfl, rfl, a1, n1, c1, a2, n2, c2, X0, X1, X2, Y0, Y1, Y2, HN1, HN2, hP1, hP2, bx, XL, YL⟩ := hcut
  replace f0 := kF bx m0 f0
  replace f1 := kF bx m1 f1
  replace f2 := kF bx m2 f2
  replace m0 := kC bx m0
  replace m1 := kC bx m1
  replace m2 := kC bx m2
  have bwx := nT bw0 bx
  have bxs : w0.heap.size ≤ wc.heap.size := bx.size
  have HS0 : Hid (w0.heap.size = w.heap.size + 1 + 1 + 1) := hs0
  have XN : X ≠ w.heap.size + 1 + 1 := by omega
  have YN : Y ≠ w.heap.size + 1 + 1 := by omega
  clear k0 k1 k2 k3 k4 k5 HX HY H1 H2 bw0 bx hs0 XL YL
  have hl1 : n1 ≤ 200000 := by rw [HN1.out]; exact (words_len2 _ _).2 (by omega)
  have hl2 : n2 ≤ 200000 := by rw [HN2.out]; exact (words_len2 _ _).2 (by omega)
  have hew : IntKind.i64.wrap (x.2.2 + y.2.2) = x.2.2 + y.2.2 := by rw [IntKind.wrap_i64]; omega
  have ML : Hid _ := fun w' g g' => nMul_calls a1 a2 n1 c1 n2 c2 (wordsOf x.2.1) (wordsOf y.2.1) w' g g' (by omega) (by omega) (by rw [val_words, val_words]; have := HN1.out; have := HN2.out; omega)
  rw [val_words, val_words] at ML
  have hpw := prod_words x.2.1 y.2.1
  have HF : Hid _ := fun a' c' w' g => qForm_calls (!(x.1 == y.1)) a' (wordsOf (x.2.1 * y.2.1)).length c' (wordsOf (x.2.1 * y.2.1)) (x.2.2 + y.2.2) w' g (by have := HN1.out; have := HN2.out; omega) (by omega)
  have hu : mulD x y = formD (!(x.1 == y.1)) (x.2.1 * y.2.1) (x.2.2 + y.2.2) := rfl
  rw [val_words, ← hu, HP.out] at HF
  have HW : Hid (AllU (wordsOf (x.2.1 * y.2.1))) := words_U _
  generalize x.2.1 * y.2.1 = R at *
  have HHP1 := hP1.1
  have HHP2 := hP2.1
  have bxs' : Hid (w0.heap.size ≤ wc.heap.size) := bxs
  clear HP hxb hyb hxe hye hl1 hl2 hpw hu hP1 hP2 HN1 HN2 bxs
  go_wp2_with fail
  have bw : Below wc.heap.size wc wc.drew := (Below.refl _ _).drew
  refine wp_region_held (S := fun w' => w'.cell? ⟨X, 0, none⟩ = some (.bool x.1) ∧ w'.cell? ⟨X, 1, none⟩ = some (.slice a1 n1 c1) ∧ w'.cell? ⟨X, 2, none⟩ = some (.int .i64 x.2.2) ∧ w'.cell? ⟨Y, 0, none⟩ = some (.bool y.1) ∧ w'.cell? ⟨Y, 1, none⟩ = some (.slice a2 n2 c2) ∧ w'.cell? ⟨Y, 2, none⟩ = some (.int .i64 y.2.2)) (by kernel_rfl) ?_
  change wpAnyH _ _ _ _ _ _ _ _ (World.drew wc)
  replace X0 := kC bw X0
  replace X1 := kC bw X1
  replace X2 := kC bw X2
  replace Y0 := kC bw Y0
  replace Y1 := kC bw Y1
  replace Y2 := kC bw Y2
  replace f0 := kF bw m0 f0
  replace f1 := kF bw m1 f1
  replace f2 := kF bw m2 f2
  replace m0 := kC bw m0
  replace m1 := kC bw m1
  replace m2 := kC bw m2
  replace HHP1 := HHP1.keep bw
  replace HHP2 := HHP2.keep bw
  generalize World.drew wc = wd at *
  refine wpAnyH_take (i := 0) (v := ?vt0) rfl (by kernel_rfl) (by kernel_rfl) (by kernel_rfl) (fun _ _ _ h => h) (Or.inl ⟨by rfl, ?yt0⟩) ⟨X0, X1, X2, Y0, Y1, Y2⟩ ?rt0
  case yt0 => (rintro ww ⟨q0, q1, q2, q3, q4, q5⟩; go_simp; try with_reducible rfl)
  try simp only [Act.put]
  refine wpAnyH_take (i := 1) (v := ?vt1) rfl (by kernel_rfl) (by kernel_rfl) (by kernel_rfl) (fun _ _ _ h => h) (Or.inl ⟨by rfl, ?yt1⟩) ⟨X0, X1, X2, Y0, Y1, Y2⟩ ?rt1
  case yt1 => (rintro ww ⟨q0, q1, q2, q3, q4, q5⟩; go_simp; try with_reducible rfl)
  try simp only [Act.put]
  refine wpAnyH_take (i := 2) (v := ?vt2) rfl (by kernel_rfl) (by kernel_rfl) (by kernel_rfl) (fun _ _ _ h => h) (Or.inl ⟨by rfl, ?yt2⟩) ⟨X0, X1, X2, Y0, Y1, Y2⟩ ?rt2
  case yt2 => (rintro ww ⟨q0, q1, q2, q3, q4, q5⟩; go_simp; try with_reducible rfl)
  try simp only [Act.put]
  refine wpAnyH_take (i := 3) (v := ?vt3) rfl (by kernel_rfl) (by kernel_rfl) (by kernel_rfl) (fun _ _ _ h => h) (Or.inl ⟨by rfl, ?yt3⟩) ⟨X0, X1, X2, Y0, Y1, Y2⟩ ?rt3
  case yt3 => (rintro ww ⟨q0, q1, q2, q3, q4, q5⟩; go_simp; try with_reducible rfl)
  try simp only [Act.put]
  refine wpAnyH_take (i := 4) (v := ?vt4) rfl (by kernel_rfl) (by kernel_rfl) (by kernel_rfl) (fun _ _ _ h => h) (Or.inl ⟨by rfl, ?yt4⟩) ⟨X0, X1, X2, Y0, Y1, Y2⟩ ?rt4
  case yt4 => (rintro ww ⟨q0, q1, q2, q3, q4, q5⟩; go_simp; try with_reducible rfl)
  try simp only [Act.put]
  refine wpAnyH_take (i := 5) (v := ?vt5) rfl (by kernel_rfl) (by kernel_rfl) (by kernel_rfl) (fun _ _ _ h => h) (Or.inl ⟨by rfl, ?yt5⟩) ⟨X0, X1, X2, Y0, Y1, Y2⟩ ?rt5
  case yt5 => (rintro ww ⟨q0, q1, q2, q3, q4, q5⟩; go_simp; try with_reducible rfl)
  try simp only [Act.put]
  refine wpAnyH_take (i := 6) (v := ?vt6) rfl (by kernel_rfl) (by kernel_rfl) (by kernel_rfl) (fun _ _ _ h => h) (Or.inl ⟨by rfl, ?yt6⟩) ⟨X0, X1, X2, Y0, Y1, Y2⟩ ?rt6
  case yt6 => (rintro ww ⟨q0, q1, q2, q3, q4, q5⟩; go_simp; try with_reducible rfl)
  try simp only [Act.put]
  refine wpAnyH_take (i := 7) (v := ?vt7) rfl (by kernel_rfl) (by kernel_rfl) (by kernel_rfl) (fun _ _ _ h => h) (Or.inl ⟨by rfl, ?yt7⟩) ⟨X0, X1, X2, Y0, Y1, Y2⟩ ?rt7
  case yt7 => (rintro ww ⟨q0, q1, q2, q3, q4, q5⟩; go_simp; try with_reducible rfl)
  try simp only [Act.put]
  refine wpAnyH_take (i := 8) (v := ?vt8) rfl (by kernel_rfl) (by kernel_rfl) (by kernel_rfl) (fun _ _ _ h => h) (Or.inl ⟨by rfl, ?yt8⟩) ⟨X0, X1, X2, Y0, Y1, Y2⟩ ?rt8
  case yt8 => (rintro ww ⟨q0, q1, q2, q3, q4, q5⟩; go_simp; try with_reducible rfl)
  try simp only [Act.put]
  refine wpAnyH_take (i := 10) (v := ?vt10) rfl (by kernel_rfl) (by kernel_rfl) (by kernel_rfl) (fun _ _ _ h => h) (Or.inl ⟨by rfl, ?yt10⟩) ⟨X0, X1, X2, Y0, Y1, Y2⟩ ?rt10
  case yt10 => (rintro ww ⟨q0, q1, q2, q3, q4, q5⟩; go_simp; try with_reducible rfl)
  try simp only [Act.put]
  refine wpAnyH_take (i := 11) (v := ?vt11) rfl (by kernel_rfl) (by kernel_rfl) (by kernel_rfl) (fun _ _ _ h => h) (Or.inl ⟨by rfl, ?yt11⟩) ⟨X0, X1, X2, Y0, Y1, Y2⟩ ?rt11
  case yt11 => (rintro ww ⟨q0, q1, q2, q3, q4, q5⟩; go_simp; try with_reducible rfl)
  try simp only [Act.put]
  refine wpAnyH_take (i := 12) (v := ?vt12) rfl (by kernel_rfl) (by kernel_rfl) (by kernel_rfl) (fun _ _ _ h => h) (Or.inl ⟨by rfl, ?yt12⟩) ⟨X0, X1, X2, Y0, Y1, Y2⟩ ?rt12
  case yt12 => (rintro ww ⟨q0, q1, q2, q3, q4, q5⟩; go_simp; try with_reducible rfl)
  try simp only [Act.put]
  refine wpAnyH_take (i := 13) (v := ?vt13) rfl (by kernel_rfl) (by kernel_rfl) (by kernel_rfl) (fun _ _ _ h => h) (Or.inl ⟨by rfl, ?yt13⟩) ⟨X0, X1, X2, Y0, Y1, Y2⟩ ?rt13
  case yt13 => (rintro ww ⟨q0, q1, q2, q3, q4, q5⟩; go_simp; try with_reducible rfl)
  try simp only [Act.put]
  refine wpAnyH_take (i := 14) (v := ?vt14) rfl (by kernel_rfl) (by kernel_rfl) (by kernel_rfl) (fun _ _ _ h => h) (Or.inl ⟨by rfl, ?yt14⟩) ⟨X0, X1, X2, Y0, Y1, Y2⟩ ?rt14
  case yt14 => (rintro ww ⟨q0, q1, q2, q3, q4, q5⟩; go_simp; try with_reducible rfl)
  try simp only [Act.put]
  refine wpAnyH_ready (rs := [9]) (by kernel_rfl) (by simp) ?_
  refine AllReadyH.cons rfl (fun K hK => ?_) AllReadyH.nil
  go_simp
  refine Calls.mono (ML.out _ HHP1 HHP2) ?_
  rintro r w6 ⟨a6, c6, rfl, hO6, b6⟩
  replace X0 := kC b6 X0
  replace X1 := kC b6 X1
  replace X2 := kC b6 X2
  replace Y0 := kC b6 Y0
  replace Y1 := kC b6 Y1
  replace Y2 := kC b6 Y2
  replace f0 := kF b6 m0 f0
  replace f1 := kF b6 m1 f1
  replace f2 := kF b6 m2 f2
  replace m0 := kC b6 m0
  replace m1 := kC b6 m1
  replace m2 := kC b6 m2
  refine hK.out _ _ ⟨X0, X1, X2, Y0, Y1, Y2⟩ (fun _ => ?_)
  clear hK K
  replace bw := nT bw b6
  have hI6 := hO6.isW HW.out
  clear b6 hO6
  try simp only [Act.put, List.setIfInBounds_toArray, List.set_cons_zero, List.set_cons_succ]
  refine wpAnyH_ready (rs := [15]) (by kernel_rfl) (by simp) ?_
  refine AllReadyH.cons rfl (fun K hK => ?_) AllReadyH.nil
  go_simp
  refine Calls.mono (HF.out _ _ _ hI6) ?_
  rintro r w9 ⟨_, rfl, ⟨a9, n9, c9, rfl, HN9, hO9⟩, b9⟩
  replace X0 := kC b9 X0
  replace X1 := kC b9 X1
  replace X2 := kC b9 X2
  replace Y0 := kC b9 Y0
  replace Y1 := kC b9 Y1
  replace Y2 := kC b9 Y2
  replace f0 := kF b9 m0 f0
  replace f1 := kF b9 m1 f1
  replace f2 := kF b9 m2 f2
  replace m0 := kC b9 m0
  replace m1 := kC b9 m1
  replace m2 := kC b9 m2
  refine hK.out _ _ ⟨X0, X1, X2, Y0, Y1, Y2⟩ (fun _ => ?_)
  clear hK K
  have hO9' := hO9.low (Nat.le_trans bxs'.out bw.size)
  replace bw := nT bw b9
  replace bwx := nT bwx bw
  clear b9 hO9 hI6
  try simp only [Act.put, List.setIfInBounds_toArray, List.set_cons_zero, List.set_cons_succ]
  refine wpAnyH_ready (rs := [16]) (by kernel_rfl) (by simp) ?_
  refine AllReadyH.cons rfl (fun K hK => ?_) AllReadyH.nil
  go_simp
  refine hK.out _ _ ⟨set3_cell X0 XN, set3_cell X1 XN, set3_cell X2 XN, set3_cell Y0 YN, set3_cell Y1 YN, set3_cell Y2 YN⟩ (fun _ => ?_)
  clear hK K
  try simp only [Act.put, List.setIfInBounds_toArray, List.set_cons_zero, List.set_cons_succ]
  refine wpAnyH_done (by kernel_rfl) ?_ _
  go_wp2_with fail
  refine bodyPost_ret (v := dyV p.1 a9 n9 c9 p.2.2) (by simp [results, Tryz.results12, go_sem, m0, m1, m2]) rfl ⟨_, rfl, ⟨a9, n9, c9, rfl, HN9, ((((hO9').far _ _ (by show w.heap.size + 1 + 1 < _; rw [HS0.out]; omega)).far _ _ (by show w.heap.size + 1 + 1 < _; rw [HS0.out]; omega)).far _ _ (by show w.heap.size + 1 + 1 < _; rw [HS0.out]; omega)).low (by rw [HS0.out]; omega)⟩, ((bwx.setCell (by show w.heap.size ≤ w.heap.size + 1 + 1; omega) _).setCell (by show w.heap.size ≤ w.heap.size + 1 + 1; omega) _).setCell (by show w.heap.size ≤ w.heap.size + 1 + 1; omega) _⟩
end Go.Proofs.YtionhpedghmecaaGreatDoor

namespace Go.Proofs.YtionhpedghmecaaGreatDoor
open Go.RowKit
def twE (b : Bool) (p : Bool × Nat × Int) : Int := if b = true then roomE p else 2
def twP (b : Bool) (p : Bool × Nat × Int) : Bool × Nat × Int := if b = true then roomP p else (false, 0, 0)
theorem form_turn (t : Bool) (m : Nat) (f : Int) : formD (!t) m f = negD (formD t m f) := by
 by_cases h0 : m = 0
 ·rw [h0, form_zero, form_zero]; rfl
 ·rw [form_pos _ h0, form_pos _ h0]
  have h1 := (odd_part h0).1
  have h2 : ¬ m / 2 ^ tz m = 0 := fun q => by rw [q] at h1; exact absurd h1 (by decide)
  unfold negD
  simp [h2]
theorem sumlen (x y : Bool × Nat × Int) (hx : blen x.2.1 ≤ 10000000) (hy : blen y.2.1 ≤ 10000000) (ex : -20000000 ≤ x.2.2 ∧ x.2.2 ≤ 20000000) (ey : -20000000 ≤ y.2.2 ∧ y.2.2 ≤ 20000000) : (wordsOf (sumD x y).2.1).length ≤ 2000001 := by
 have kx : (wordsOf x.2.1).length ≤ 200000 := (words_len2 _ _).2 (by omega)
 have ky : (wordsOf y.2.1).length ≤ 200000 := (words_len2 _ _).2 (by omega)
 by_cases h1 : x.2.1 = 0
 ·have : sumD x y = y := by unfold sumD; rw [if_pos h1]
  rw [this]; omega
 ·by_cases h2 : y.2.1 = 0
  ·have : sumD x y = x := by unfold sumD; rw [if_neg h1, if_pos h2]
   rw [this]; omega
  ·obtain ⟨ee, hee⟩ : ∃ ee : Int, min x.2.2 y.2.2 = ee := ⟨_, rfl⟩
   obtain ⟨i, hi⟩ : ∃ i : Nat, x.2.2 - ee = (i : Int) := ⟨(x.2.2 - ee).toNat, by omega⟩
   obtain ⟨j, hj⟩ : ∃ j : Nat, y.2.2 - ee = (j : Int) := ⟨(y.2.2 - ee).toNat, by omega⟩
   have hib : i ≤ 50000000 := by omega
   have hjb : j ≤ 50000000 := by omega
   have hMb : blen (x.2.1 * 2 ^ i) ≤ 60000000 := by rw [blen_mul _ _ h1]; omega
   have hNb : blen (y.2.1 * 2 ^ j) ≤ 60000000 := by rw [blen_mul _ _ h2]; omega
   have hMl : (wordsOf (x.2.1 * 2 ^ i)).length ≤ 1000000 := (words_len2 _ _).2 (by omega)
   have hNl : (wordsOf (y.2.1 * 2 ^ j)).length ≤ 1000000 := (words_len2 _ _).2 (by omega)
   have key : (sumD x y).2.1 ≤ x.2.1 * 2 ^ i + y.2.1 * 2 ^ j := by
    rw [plus_q x y h1 h2 ee hee i hi j hj]
    split
    ·exact form_amount_le _ _ _
    ·split
     ·exact Nat.le_trans (form_amount_le _ _ _) (by omega)
     ·exact Nat.le_trans (form_amount_le _ _ _) (by omega)
   have h3 := words_len_mono key
   have h4 := sum_wordsQ (x.2.1 * 2 ^ i) (y.2.1 * 2 ^ j)
   omega
theorem pAdd_calls (s : Bool) (a : Option Addr) (len cap : Nat) (xs : List Int) (e : Int) (t : Bool) (b : Option Addr) (len' cap' : Nat) (ys : List Int) (f : Int) (w : World) (h : IsW w a len cap xs) (hm : len ≤ 17592186044000) (h' : IsW w b len' cap' ys) (hm' : len' ≤ 17592186044000) (hT : Tab w) :
  Calls Tryz.prog 37 #[dyV s a len cap e, dyV t b len' cap' f] w fun r w' => ∃ v', r = .returned (.tuple #[v', .int .i64 (twE (rightB (val xs) e && rightB (val ys) f) (sumD (formD s (val xs) e) (formD t (val ys) f)))]) ∧ DyAt w.heap.size w' v' (twP (rightB (val xs) e && rightB (val ys) f) (sumD (formD s (val xs) e) (formD t (val ys) f))) ∧ Below w.heap.size w w' := by
 cases hr : (rightB (val xs) e && rightB (val ys) f) with
 | false =>
  refine (dadd_not s a len cap xs e t b len' cap' ys f w h (by omega) h' (by omega) hr).mono ?_
  rintro r w' ⟨rfl, hb⟩
  exact ⟨_, rfl, dyAt_zero _ _, hb⟩
 | true =>
  obtain ⟨r1, r2⟩ := Bool.and_eq_true_iff.1 hr
  exact dadd_yes s a len cap xs e t b len' cap' ys f w h (by omega) h' (by omega) hT r1 r2
theorem pMul_calls (s : Bool) (a : Option Addr) (len cap : Nat) (xs : List Int) (e : Int) (t : Bool) (b : Option Addr) (len' cap' : Nat) (ys : List Int) (f : Int) (w : World) (h : IsW w a len cap xs) (hm : len ≤ 17592186044000) (h' : IsW w b len' cap' ys) (hm' : len' ≤ 17592186044000) (hT : Tab w) :
  Calls Tryz.prog 64 #[dyV s a len cap e, dyV t b len' cap' f] w fun r w' => ∃ v', r = .returned (.tuple #[v', .int .i64 (twE (rightB (val xs) e && rightB (val ys) f) (mulD (formD s (val xs) e) (formD t (val ys) f)))]) ∧ DyAt w.heap.size w' v' (twP (rightB (val xs) e && rightB (val ys) f) (mulD (formD s (val xs) e) (formD t (val ys) f))) ∧ Below w.heap.size w w' := by
 cases hr : (rightB (val xs) e && rightB (val ys) f) with
 | false =>
  refine (dmul_not s a len cap xs e t b len' cap' ys f w h (by omega) h' (by omega) hr).mono ?_
  rintro r w' ⟨rfl, hb⟩
  exact ⟨_, rfl, dyAt_zero _ _, hb⟩
 | true =>
  obtain ⟨r1, r2⟩ := Bool.and_eq_true_iff.1 hr
  exact dmul_yes s a len cap xs e t b len' cap' ys f w h (by omega) h' (by omega) hT r1 r2
end Go.Proofs.YtionhpedghmecaaGreatDoor

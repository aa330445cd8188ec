/- The walks of the document's products. The walk of the document's Mul. -/
import Derived.Test.YtkkldnnndlpblaaGreatDoorTMC
import Derived.Test.YtkkldnnndlpblaaGreatDoorTMG
import Derived.Deep.LoopGhost

namespace Go.Proofs.YtkkldnnndlpblaaGreatDoor
open Go.RowKit

theorem half_parts (x y : Nat) : x * y = (x / 4294967296) * (y / 4294967296) * 18446744073709551616 + (x % 4294967296) * (y / 4294967296) * 4294967296 + (x / 4294967296) * (y % 4294967296) * 4294967296 + (x % 4294967296) * (y % 4294967296) := by
  have hx := Nat.div_add_mod x 4294967296
  have hy := Nat.div_add_mod y 4294967296
  conv => lhs; rw [← hx, ← hy]
  rw [Nat.add_mul, Nat.mul_add, Nat.mul_add]
  generalize x / 4294967296 = b
  generalize x % 4294967296 = a
  generalize y / 4294967296 = d
  generalize y % 4294967296 = c
  have e1 : 4294967296 * b * (4294967296 * d) = b * d * 18446744073709551616 := by rw [Nat.mul_mul_mul_comm, Nat.mul_comm (4294967296 * 4294967296)]
  have e2 : 4294967296 * b * c = b * c * 4294967296 := by rw [Nat.mul_assoc, Nat.mul_comm]
  have e3 : a * (4294967296 * d) = a * d * 4294967296 := by rw [Nat.mul_left_comm, Nat.mul_comm]
  rw [e1, e2, e3]; omega

theorem half_le (a c : Nat) (ha : a < 4294967296) (hc : c < 4294967296) : a * c ≤ 18446744065119617025 := by
  have := Nat.mul_le_mul (show a ≤ 4294967295 by omega) (show c ≤ 4294967295 by omega)
  omega

set_option maxRecDepth 100000 in
set_option maxHeartbeats 1000000 in
theorem nTimes_calls (x y : Nat) (w : World) (hx : x < 18446744073709551616) (hy : y < 18446744073709551616) :
    Calls Tryz.prog 97 #[.int .u64 (x : Int), .int .u64 (y : Int)] w fun e w' => e = .returned (.tuple #[.int .u64 (mL x y : Nat), .int .u64 (mH x y : Nat)]) ∧ w' = w := by
  have hxy := half_parts x y
  obtain ⟨a, ha⟩ : ∃ a, a = x % 4294967296 := ⟨_, rfl⟩
  obtain ⟨b, hb⟩ : ∃ b, b = x / 4294967296 := ⟨_, rfl⟩
  obtain ⟨c, hc⟩ : ∃ c, c = y % 4294967296 := ⟨_, rfl⟩
  obtain ⟨d, hd⟩ : ∃ d, d = y / 4294967296 := ⟨_, rfl⟩
  rw [← ha, ← hb, ← hc, ← hd] at hxy
  have r1 : (x : Int) % 4294967296 = (a : Int) := by omega
  have r2 : (x : Int) / 4294967296 = (b : Int) := by omega
  have r3 : (y : Int) % 4294967296 = (c : Int) := by omega
  have r4 : (y : Int) / 4294967296 = (d : Int) := by omega
  have l1 := half_le a c (by omega) (by omega)
  have l2 := half_le b c (by omega) (by omega)
  have l3 := half_le a d (by omega) (by omega)
  have l4 := half_le b d (by omega) (by omega)
  have r5 : IntKind.u64.wrap ((a : Int) * (c : Int)) = ((a * c : Nat) : Int) := by rw [mul_words a c (by omega)]
  have r6 : IntKind.u64.wrap ((b : Int) * (c : Int)) = ((b * c : Nat) : Int) := by rw [mul_words b c (by omega)]
  have r7 : IntKind.u64.wrap ((a : Int) * (d : Int)) = ((a * d : Nat) : Int) := by rw [mul_words a d (by omega)]
  have r8 : IntKind.u64.wrap ((b : Int) * (d : Int)) = ((b * d : Nat) : Int) := by rw [mul_words b d (by omega)]
  clear ha hb hc hd
  generalize a * c = p at *
  generalize b * c = q at *
  generalize a * d = s at *
  generalize b * d = t at *
  obtain ⟨md, hmd⟩ : ∃ m, m = q + p / 4294967296 := ⟨_, rfl⟩
  obtain ⟨o, ho⟩ : ∃ o, o = s + md % 4294967296 := ⟨_, rfl⟩
  have HL : Hid (p % 4294967296 + o % 4294967296 * 4294967296 = mL x y) := by rw [Hid, mL, hxy]; omega
  have HH : Hid (t + md / 4294967296 + o / 4294967296 = mH x y) := by rw [Hid, mH, hxy]; omega
  obtain ⟨pi, hpi⟩ : ∃ v : Int, v = (p : Int) := ⟨_, rfl⟩
  obtain ⟨qi, hqi⟩ : ∃ v : Int, v = (q : Int) := ⟨_, rfl⟩
  obtain ⟨si, hsi⟩ : ∃ v : Int, v = (s : Int) := ⟨_, rfl⟩
  obtain ⟨ti, hti⟩ : ∃ v : Int, v = (t : Int) := ⟨_, rfl⟩
  rw [← hpi] at r5
  rw [← hqi] at r6
  rw [← hsi] at r7
  rw [← hti] at r8
  have b1 : 0 ≤ pi ∧ pi ≤ 18446744065119617025 := by omega
  have b2 : 0 ≤ qi ∧ qi ≤ 18446744065119617025 := by omega
  have b3 : 0 ≤ si ∧ si ≤ 18446744065119617025 := by omega
  have b4 : 0 ≤ ti ∧ ti ≤ 18446744065119617025 := by omega
  have HI : Hid (pi = (p : Int) ∧ qi = (q : Int) ∧ si = (s : Int) ∧ ti = (t : Int) ∧ md = q + p / 4294967296 ∧ o = s + md % 4294967296) := ⟨hpi, hqi, hsi, hti, hmd, ho⟩
  have HB : Hid (t + md / 4294967296 + o / 4294967296 < 18446744073709551616) := by rw [HH.out]; exact mH_lt x y hx hy
  clear hpi hqi hsi hti hmd ho hxy l1 l2 l3 l4
  go_enter Tryz.func97, Tryz.ntmps97
  go_wp2_with fail
  go_ret2
  have hI := HI.out
  have h1 := HL.out
  have h2 := HH.out
  have h3 := HB.out
  refine ⟨nret_two ?_ ?_, rfl⟩
  · (try simp only [IntKind.wrap_u64]); omega
  · (try simp only [IntKind.wrap_u64]); omega


theorem mulIn_step (M M' Y : List Int) (i j x y c t0 t hi : Nat) (hl : i + j < M'.length) (h0 : M'.getD (i + j) 0 = (t0 : Int)) (hy : Y.getD j 0 = (y : Int))
    (hv : val M' + 18446744073709551616 ^ (i + j) * c = val M + 18446744073709551616 ^ i * (x * low Y j)) (hw : t + 18446744073709551616 * hi = x * y + t0 + c) :
    val (M'.set (i + j) (t : Int)) + 18446744073709551616 ^ (i + (j + 1)) * hi = val M + 18446744073709551616 ^ i * (x * low Y (j + 1)) := by
  have e1 := val_set M' (i + j) (t : Int) hl
  rw [h0, Int.toNat_natCast, Int.toNat_natCast] at e1
  have e2 : low Y (j + 1) = low Y j + 18446744073709551616 ^ j * y := by show low Y j + _ * (Y.getD j 0).toNat = _; rw [hy, Int.toNat_natCast]
  have e3 := congrArg (18446744073709551616 ^ (i + j) * ·) hw
  simp only [Nat.mul_add] at e3
  have e4 : 18446744073709551616 ^ i * (x * (18446744073709551616 ^ j * y)) = 18446744073709551616 ^ (i + j) * (x * y) := by
    rw [Nat.pow_add, Nat.mul_left_comm x, Nat.mul_assoc]
  have e5 : 18446744073709551616 ^ (i + (j + 1)) * hi = 18446744073709551616 ^ (i + j) * (18446744073709551616 * hi) := by
    rw [← Nat.add_assoc, Nat.pow_succ, Nat.mul_assoc]
  rw [e2, Nat.mul_add, Nat.mul_add, e4, e5]
  omega

theorem mulOut_step (M M' X : List Int) (i m x c V : Nat) (hl : i + m < M'.length) (h0 : M'.getD (i + m) 0 = 0) (hx : X.getD i 0 = (x : Int))
    (hM : val M = low X i * V) (hv : val M' + 18446744073709551616 ^ (i + m) * c = val M + 18446744073709551616 ^ i * (x * V)) :
    val (M'.set (i + m) (c : Int)) = low X (i + 1) * V := by
  have e1 := val_set M' (i + m) (c : Int) hl
  rw [h0, Int.toNat_natCast, Int.toNat_zero, Nat.mul_zero, Nat.add_zero] at e1
  have e3 : low X (i + 1) = low X i + 18446744073709551616 ^ i * x := by show low X i + _ * (X.getD i 0).toNat = _; rw [hx, Int.toNat_natCast]
  rw [e1, hv, e3, Nat.add_mul, hM, Nat.mul_assoc]

theorem mul_split (x y : Nat) (hx : x < 18446744073709551616) (hy : y < 18446744073709551616) : mL x y + 18446744073709551616 * mH x y = x * y ∧ mL x y < 18446744073709551616 ∧ mH x y ≤ 18446744073709551614 := by
  have h1 : x * y ≤ 18446744073709551615 * 18446744073709551615 := Nat.mul_le_mul (by omega) (by omega)
  unfold mL mH
  generalize x * y = p at *
  omega

set_option maxRecDepth 100000 in
set_option maxHeartbeats 4000000 in
theorem nMul_calls (a a' : Option Addr) (len cap len' cap' : Nat) (xs ys : List Int) (w : World) (h : IsW w a len cap xs) (h' : IsW w a' len' cap' ys) (hm : len ≤ 17592186044416) (hm' : len' ≤ 17592186044416)
    (hq : (wordsOf (val xs)).length + (wordsOf (val ys)).length ≤ 17592186044415) :
    Calls Tryz.prog 50 #[.slice a len cap, .slice a' len' cap'] w fun e w' => ∃ (ao : Option Addr) (cv : Nat), e = .returned (.slice ao (wordsOf (val xs * val ys)).length cv) ∧ Own w.heap.size w' ao cv (wordsOf (val xs * val ys)) ∧ Below w.heap.size w w' := by
  have C1 : Hid _ := nNorm_calls a len cap xs w h hm
  obtain ⟨X, hX⟩ : ∃ X, X = wordsOf (val xs) := ⟨_, rfl⟩
  obtain ⟨Y, hY⟩ : ∃ Y, Y = wordsOf (val ys) := ⟨_, rfl⟩
  obtain ⟨n, hn⟩ : ∃ n, n = X.length := ⟨_, rfl⟩
  obtain ⟨m, hm2⟩ : ∃ m, m = Y.length := ⟨_, rfl⟩
  have HQ : Hid (n + m ≤ 17592186044415) := by rw [Hid, hn, hm2, hX, hY]; exact hq
  have XU : Hid (AllU X) := by rw [hX]; exact words_U _
  have YU : Hid (AllU Y) := by rw [hY]; exact words_U _
  have VX : Hid (val X = val xs) := by rw [hX]; exact val_words _
  have VY : Hid (val Y = val ys) := by rw [hY]; exact val_words _
  have NX : Hid (n = X.length) := hn
  have NY : Hid (m = Y.length) := hm2
  have EX : Hid (X = wordsOf (val xs)) := hX
  have EY : Hid (Y = wordsOf (val ys)) := hY
  rw [← hX, ← hn] at C1
  clear hX hY hn hm2 hq h hm
  go_enter Tryz.func50, Tryz.ntmps50
  go_wp2_with fail
  refine Calls.mono C1.out ?_
  rintro e w1 ⟨a1, c1, rfl, hO1, hb1⟩
  have C2 : Hid _ := nNorm_calls a' len' cap' ys w1 (h'.keep hb1) hm'
  rw [← EY.out, ← NY.out] at C2
  have I1 := hO1.isW' XU.out NX.out.symm
  clear h' hm' hO1 C1
  go_wp2_with fail
  refine Calls.mono C2.out ?_
  rintro e w2 ⟨a2, c2, rfl, hO2, hb2⟩
  have I2 := hO2.isW' YU.out NY.out.symm
  have I1 := I1.keep hb2
  have hb12 := nbelow_trans hb1 hb2
  have hq := HQ.out
  obtain ⟨w3, hmk, hO3, hb3, hz3⟩ := make_words 24 nat_T w2 (n + m + 1) (by omega)
  rw [show ((n + m + 1 : Nat) : Int) = (n : Int) + m + 1 by omega] at hmk
  clear hO2 C2 hb1 hb2
  go_wp2_with fail
  clear hmk
  have HZ0 : Hid (OwnW w2.heap.size w3 (some ⟨w2.heap.size, 0, none⟩) (n + m + 1) (n + m + 1) (zeros (n + m + 1)) ∧ Below w2.heap.size w2 w3) := ⟨hO3, hb3⟩
  clear hO3 hb3
  go_loopg [28] n (fun g vi wr => ∃ (i : Nat) (M : List Int), i ≤ n ∧ g = n - i ∧ vi = .int .i64 i ∧ Hid (∀ j, i + m ≤ j → M.getD j 0 = 0) ∧ Hid (val M = low X i * val Y) ∧ OwnW w2.heap.size wr (some ⟨w2.heap.size, 0, none⟩) (n + m + 1) (n + m + 1) M ∧ Below w2.heap.size w2 wr)
  case atStart => exact ⟨0, zeros (n + m + 1), by omega, rfl, rfl, fun j _ => zeros_get _ j, by rw [Hid, val_zeros]; simp [low], HZ0.out.1, HZ0.out.2⟩
  case round =>
    obtain ⟨i, M, hi, rfl, rfl, HZ, HV, hO, hbr⟩ := hrel
    clear HZ0 hz3
    by_cases hlt : i < n
    · obtain ⟨ba, oa, hae, hal, hac⟩ := I1.2.2.2 i hlt
      obtain ⟨x, hx, hx1⟩ := word_nat0 X XU.out i
      have hac2 : wr.cell? ⟨ba, oa + i, none⟩ = some (.int .u64 (x : Int)) := by rw [← hx]; exact (hbr.cell (p := ⟨ba, oa + i, none⟩) hal).trans hac
      have HXX : Hid (X.getD i 0 = (x : Int)) := hx
      have I1' : Hid _ := I1
      subst hae
      have HM0 : Hid (OwnW w2.heap.size wr (some ⟨w2.heap.size, 0, none⟩) (n + m + 1) (n + m + 1) M ∧ Below w2.heap.size w2 wr) := ⟨hO, hbr⟩
      clear hx hac I1 hO hbr
      go_wp2_with fail
      clear hac2
      go_loopg [8, 35] m (fun g vc vj wi => ∃ (j c : Nat) (M' : List Int), j ≤ m ∧ g = m - j ∧ vj = .int .i64 j ∧ vc = .int .u64 (c : Int) ∧ c < 18446744073709551616 ∧ Hid (∀ k, i + m ≤ k → M'.getD k 0 = 0) ∧ Hid (val M' + 18446744073709551616 ^ (i + j) * c = val M + 18446744073709551616 ^ i * (x * low Y j)) ∧ OwnW w2.heap.size wi (some ⟨w2.heap.size, 0, none⟩) (n + m + 1) (n + m + 1) M' ∧ Below w2.heap.size w2 wi)
      case atStart => exact ⟨0, 0, M, by omega, rfl, rfl, rfl, by decide, HZ, by simp [Hid, low], HM0.out.1, HM0.out.2⟩
      case round =>
        obtain ⟨j, c, M', hj, rfl, rfl, rfl, hc, HZ', HV', hO, hbr⟩ := hrel
        have HML : Hid (n + m + 1 = M'.length) := hO.1.1
        clear HM0
        by_cases hjt : j < m
        · obtain ⟨bb, ob, hbe, hbl, hbc⟩ := I2.2.2.2 j hjt
          obtain ⟨y, hy, hy1⟩ := word_nat0 Y YU.out j
          have hbc2 : wr.cell? ⟨bb, ob + j, none⟩ = some (.int .u64 (y : Int)) := by rw [← hy]; exact (hbr.cell (p := ⟨bb, ob + j, none⟩) hbl).trans hbc
          have HYY : Hid (Y.getD j 0 = (y : Int)) := hy
          have TC : Hid _ := nTimes_calls x y wr hx1 hy1
          obtain ⟨p1, p2, p3⟩ := mul_split x y hx1 hy1
          generalize mL x y = lo at *
          generalize mH x y = hh at *
          have HP : Hid (lo + 18446744073709551616 * hh = x * y) := p1
          obtain ⟨_, _, e1, hgl, hcell⟩ := hO.1.2.2.2 (i + j) (by omega)
          simp only [Option.some.injEq, Addr.mk.injEq, and_true] at e1
          obtain ⟨rfl, rfl⟩ := e1
          have hfz := (hO.2 _ _ (i + j) rfl (by omega)).2
          rw [Nat.zero_add] at hcell hfz
          obtain ⟨t0, ht0, ht1⟩ := word_nat0 M' hO.1.2.1 (i + j)
          rw [ht0] at hcell
          have HT0 : Hid (M'.getD (i + j) 0 = (t0 : Int)) := ht0
          subst hbe
          obtain ⟨s, hs⟩ : ∃ s, s = (t0 + lo) % 18446744073709551616 := ⟨_, rfl⟩
          obtain ⟨t, ht⟩ : ∃ t, t = (s + c) % 18446744073709551616 := ⟨_, rfl⟩
          have r1 : IntKind.u64.wrap ((t0 : Int) + (lo : Int)) = (s : Int) := by rw [IntKind.wrap_u64]; omega
          have r2 : IntKind.u64.wrap ((s : Int) + (c : Int)) = (t : Int) := by rw [IntKind.wrap_u64]; omega
          have HS : Hid (s = (t0 + lo) % 18446744073709551616 ∧ t = (s + c) % 18446744073709551616) := ⟨hs, ht⟩
          have b1 : s < 18446744073709551616 ∧ t < 18446744073709551616 := by omega
          have HO : Hid _ := hO.set (i := i + j) (by omega) (v := (t : Int)) (by omega) (by omega)
          rw [Nat.zero_add] at HO
          have HB : Hid (Below w2.heap.size w2 (wr.setCell ⟨w2.heap.size, i + j, none⟩ (.int .u64 (t : Int)))) := hbr.setCell (Nat.le_refl _) _
          clear hy hbc ht0 hs ht p1 hO
          obtain ⟨k1, hk1⟩ : ∃ k1 : Nat, (s < lo → k1 = 1) ∧ (¬ s < lo → k1 = 0) := by
            by_cases q : s < lo
            · exact ⟨1, fun _ => rfl, fun q' => absurd q q'⟩
            · exact ⟨0, fun q' => absurd q' q, fun _ => rfl⟩
          obtain ⟨k2, hk2⟩ : ∃ k2 : Nat, (t < c → k2 = 1) ∧ (¬ t < c → k2 = 0) := by
            by_cases q : t < c
            · exact ⟨1, fun _ => rfl, fun q' => absurd q q'⟩
            · exact ⟨0, fun q' => absurd q' q, fun _ => rfl⟩
          have HK : Hid (((s < lo → k1 = 1) ∧ (¬ s < lo → k1 = 0)) ∧ ((t < c → k2 = 1) ∧ (¬ t < c → k2 = 0))) := ⟨hk1, hk2⟩
          have HXY : Hid (x * y ≤ 18446744073709551615 * 18446744073709551615) := Nat.mul_le_mul (by omega) (by omega)
          have HC2 : Hid (t + 18446744073709551616 * (hh + k1 + k2) = x * y + t0 + c ∧ hh + k1 + k2 < 18446744073709551616) := by
            obtain ⟨hs, ht⟩ := HS.out
            have hp := HP.out
            have hxy := HXY.out
            rw [Hid]
            generalize x * y = p at *
            omega
          clear hk1 hk2
          by_cases q1 : s < lo <;> by_cases q2 : t < c
          all_goals
            go_wp2_with fail
            refine Calls.mono TC.out ?_
            rintro e wr ⟨rfl, rfl⟩
            go_wp2_with fail
            go_roundg (m - (j + 1))
            case measure => omega
            case rel =>
              obtain ⟨hk1, hk2⟩ := HK.out
              have hML := HML.out
              refine ⟨j + 1, hh + k1 + k2, M'.set (i + j) (t : Int), by omega, rfl, by go_num, ?_, HC2.out.2, ?_, ?_, HO.out, HB.out⟩
              · have hc2 := HC2.out.2
                first
                | (congr 1; (try simp only [IntKind.wrap_u64]); omega)
                | (simp only [IntKind.wrap_u64, Value.int.injEq, true_and]; omega)
              · intro k hk
                rw [getD_set _ _ _ _ (by omega), if_neg (by omega)]
                exact HZ'.out k hk
              · exact mulIn_step M M' Y i j x y c t0 t _ (by omega) HT0.out HYY.out HV'.out HC2.out.1
        · have hjm : j = m := by omega
          subst hjm
          have HE : Hid (low Y j = val Y) := low_all Y j (by have := NY.out; omega)
          obtain ⟨_, _, e1, hgl, hcell⟩ := hO.1.2.2.2 (i + j) (by omega)
          simp only [Option.some.injEq, Addr.mk.injEq, and_true] at e1
          obtain ⟨rfl, rfl⟩ := e1
          have hfz := (hO.2 _ _ (i + j) rfl (by omega)).2
          rw [Nat.zero_add] at hcell hfz
          generalize M'.getD (i + j) 0 = oldw at hcell
          have HO : Hid _ := hO.set (i := i + j) (by omega) (v := (c : Int)) (by omega) (by omega)
          rw [Nat.zero_add] at HO
          have HB : Hid (Below w2.heap.size w2 (wr.setCell ⟨w2.heap.size, i + j, none⟩ (.int .u64 (c : Int)))) := hbr.setCell (Nat.le_refl _) _
          clear hO
          go_wp2_with fail
          go_roundg (n - (i + 1))
          case measure => omega
          case rel =>
            have hML := HML.out
            refine ⟨i + 1, M'.set (i + j) (c : Int), by omega, rfl, by go_num, ?_, ?_, HO.out, HB.out⟩
            · intro k hk
              rw [getD_set _ _ _ _ (by omega), if_neg (by omega)]
              exact HZ'.out k (by omega)
            · have hv := HV'.out
              rw [HE.out] at hv
              exact mulOut_step M M' X i j x c (val Y) (by omega) (HZ'.out _ (by omega)) HXX.out HV.out hv
    · have HE : Hid (low X i = val X) := low_all X i (by have := NX.out; omega)
      have NC : Hid _ := nNorm_calls (some ⟨w2.heap.size, 0, none⟩) (n + m + 1) (n + m + 1) M wr hO.1 (by omega)
      have ev : Hid (val M = val xs * val ys) := by rw [Hid, HV.out, HE.out, VX.out, VY.out]
      rw [ev.out] at NC
      clear hO
      go_wp2_with fail
      refine Calls.mono NC.out ?_
      rintro e w4 ⟨ao4, cv4, rfl, hO4, hb4⟩
      go_wp2_with fail
      go_ret
      have hb24 := hbr.trans (hb4.mono hbr.size)
      exact ⟨ao4, cv4, rfl, hO4.low (Nat.le_trans hb12.size hbr.size), nbelow_trans hb12 hb24⟩

end Go.Proofs.YtkkldnnndlpblaaGreatDoor

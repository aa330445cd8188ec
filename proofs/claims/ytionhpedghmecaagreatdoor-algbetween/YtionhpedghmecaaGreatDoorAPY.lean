/- What alg tells of a binary64, of squares and their sum: bounds and room; the answers (pure). Rounding turns no order about, and goes by the number alone (pure). What lies in one cell is rounded alike (pure). Rounding of numbers with their sign: order, less a number (pure). What alg's functions answer (pure). -/
import Derived.Test.YtionhpedghmecaaGreatDoorDVT
import Derived.Test.YtionhpedghmecaaGreatDoorTMS
import Derived.Test.YtionhpedghmecaaGreatDoorDTm1
import Derived.Test.YtionhpedghmecaaGreatDoorAPX
import Derived.Test.YtionhpedghmecaaGreatDoorRNV
import Derived.Test.YtionhpedghmecaaGreatDoorTMQ
import Derived.Test.YtionhpedghmecaaGreatDoorPAX

namespace Go.Proofs.YtionhpedghmecaaGreatDoor
open Go.RowKit
theorem fa_can (x : Int) : CanD (fromP x) := by
 unfold fromP
 split
 ·exact form_can _ _ _
 ·exact Or.inl rfl
theorem fa_cnt (x : Int) : (countV x).toNat < 2 ^ 53 := by
 have := frac_bd x
 unfold countV
 split <;> omega
theorem fa_unit (x : Int) : -1074 ≤ unitV x ∧ unitV x ≤ 972 := by
 have := exp_bd x
 unfold unitV
 split <;> omega
theorem fa_bd (x : Int) : blen (fromP x).2.1 ≤ 53 ∧ -1074 ≤ (fromP x).2.2 ∧ (fromP x).2.2 ≤ 1030 := by
 unfold fromP
 split
 ·unfold fromD
  have hc := (blen_le _ 53).2 (fa_cnt x)
  have hu := fa_unit x
  refine ⟨Nat.le_trans (blen_mono (form_amount_le _ _ _)) hc, form_lo _ _ _ _ hu.1 (by decide), ?_⟩
  by_cases h0 : (countV x).toNat = 0
  ·rw [h0, form_zero]; decide
  ·rw [form_pos _ h0]
   have := tz_le_blen (countV x).toNat
   show unitV x + (tz (countV x).toNat : Int) ≤ 1030
   omega
 ·exact ⟨by decide, by decide, by decide⟩
theorem fa_right (x : Int) : rightB (fromP x).2.1 (fromP x).2.2 = true := by
 have := fa_bd x
 unfold rightB inB
 rw [(great_not _).2 (by omega)]
 simp
 omega
theorem fa_units (x : Int) (K : Nat) (hK : 2157 ≤ K) : (vI (fromP x) (-1074)).natAbs < 2 ^ K := by
 have hb := fa_bd x
 have hl := lt_blen (fromP x).2.1
 unfold vI
 rw [Int.natAbs_mul, Int.natAbs_natCast]
 have h1 : (sI (fromP x).1).natAbs = 1 := by unfold sI; split <;> rfl
 rw [h1, Nat.one_mul]
 refine Nat.lt_of_lt_of_le (Nat.mul_lt_mul_of_pos_right hl (Nat.two_pow_pos _)) ?_
 rw [← Nat.pow_add]
 exact Nat.pow_le_pow_right (by decide) (by omega)
theorem sum_canA {x y : Bool × Nat × Int} (hx : CanD x) (hy : CanD y) : CanD (sumD x y) := by
 have ha : ∀ s A t b e, CanD (addHi s A t b e) := fun s A t b e => by
  unfold addHi
  split
  ·exact form_can _ _ _
  ·split <;> exact form_can _ _ _
 unfold sumD
 split
 ·exact hy
 ·split
  ·exact hx
  ·split <;> exact ha _ _ _ _ _
theorem units_bd {p : Bool × Nat × Int} (hc : CanD p) (E : Int) (K : Nat) (hE : E ≤ p.2.2) (hE0 : -30000 ≤ E ∧ E ≤ 0) (hK : (K : Int) + E ≤ 30000) (h : (vI p E).natAbs < 2 ^ K) :
  roomE p = 0 ∧ roomP p = p ∧ rightB p.2.1 p.2.2 = true ∧ (p.2.1 ≠ 0 → p.2.2 + (blen p.2.1 : Int) ≤ K + E) := by
 have h4 : (vI p E).natAbs = p.2.1 * 2 ^ (p.2.2 - E).toNat := by
  unfold vI
  rw [Int.natAbs_mul, Int.natAbs_natCast]
  have : (sI p.1).natAbs = 1 := by unfold sI; split <;> rfl
  rw [this, Nat.one_mul]
 rw [h4] at h
 have hb : p.2.1 ≠ 0 → (blen p.2.1 : Int) + (p.2.2 - E) ≤ K := fun h0 => by
  have q := (blen_le _ _).2 h
  rw [blen_mul _ _ h0] at q
  omega
 have key : greatB p.2.1 = false ∧ inB p.2.2 = true := by
  by_cases h0 : p.2.1 = 0
  ·have hp : p = (false, 0, 0) := by
    rcases hc with q | q
    ·exact q
    ·rw [h0] at q; exact absurd q (by decide)
   rw [hp]
   exact ⟨by decide +kernel, by decide⟩
  ·have := hb h0
   refine ⟨(great_not _).2 (by omega), ?_⟩
   unfold inB
   rw [decide_eq_true_eq]
   omega
 obtain ⟨r1, r2⟩ := room_yes key.1 key.2
 refine ⟨r1, r2, ?_, fun h0 => by have := hb h0; omega⟩
 unfold rightB
 rw [key.1, key.2]
 rfl
def sqD (x : Int) : Bool × Nat × Int := mulD (fromP x) (fromP x)
def hyD (x y : Int) : Bool × Nat × Int := sumD (sqD x) (sqD y)
theorem sq_can (x : Int) : CanD (sqD x) := form_can _ _ _
theorem sq_low (x : Int) : -2148 ≤ (sqD x).2.2 := by
 have h := mul_low (fromP x) (fromP x) (-1074) (-1074) (by decide) (fa_bd x).2.1 (fa_bd x).2.1
 rw [show (-1074 : Int) + -1074 = -2148 by decide] at h
 exact h
theorem sq_vI (x : Int) : vI (sqD x) (-2148) = vI (fromP x) (-1074) * vI (fromP x) (-1074) := by
 have h := vI_mul (fromP x) (fromP x) (-1074) (-1074) (fa_bd x).2.1 (fa_bd x).2.1
 rw [show (-1074 : Int) + -1074 = -2148 by decide] at h
 exact h
theorem sq_pos (x : Int) : 0 ≤ vI (sqD x) (-2148) := by
 rw [sq_vI]
 rcases Int.le_total 0 (vI (fromP x) (-1074)) with q | q
 ·exact Int.mul_nonneg q q
 ·exact Int.mul_nonneg_of_nonpos_of_nonpos q q
theorem sq_lt (x : Int) (K : Nat) (hK : K = 4314) : (vI (sqD x) (-2148)).natAbs < 2 ^ K := by
 obtain ⟨J, hJ⟩ : ∃ J : Nat, J = 2157 := ⟨_, rfl⟩
 have h := fa_units x J (by omega)
 rw [sq_vI, Int.natAbs_mul, show K = J + J by omega, Nat.pow_add]
 exact Nat.mul_lt_mul_of_le_of_lt (Nat.le_of_lt h) h (Nat.lt_of_le_of_lt (Nat.zero_le _) h)
theorem sq_room (x : Int) : roomE (sqD x) = 0 ∧ roomP (sqD x) = sqD x ∧ rightB (sqD x).2.1 (sqD x).2.2 = true := by
 obtain ⟨K, hK⟩ : ∃ K : Nat, K = 4314 := ⟨_, rfl⟩
 obtain ⟨a, b, c, _⟩ := units_bd (sq_can x) (-2148) K (sq_low x) (by decide) (by omega) (sq_lt x K hK)
 exact ⟨a, b, c⟩
theorem hy_can (x y : Int) : CanD (hyD x y) := sum_canA (sq_can x) (sq_can y)
theorem hy_low (x y : Int) : -2148 ≤ (hyD x y).2.2 := sum_low _ _ _ (by decide) (sq_low x) (sq_low y)
theorem hy_vI (x y : Int) : vI (hyD x y) (-2148) = vI (sqD x) (-2148) + vI (sqD y) (-2148) := vI_sum _ _ _ (sq_low x) (sq_low y)
theorem hy_room (x y : Int) : roomE (hyD x y) = 0 ∧ roomP (hyD x y) = hyD x y ∧ rightB (hyD x y).2.1 (hyD x y).2.2 = true ∧ ((hyD x y).2.1 ≠ 0 → (hyD x y).2.2 + (blen (hyD x y).2.1 : Int) ≤ 2200) ∧ (hyD x y).1 = false := by
 obtain ⟨K, hK⟩ : ∃ K : Nat, K = 4314 := ⟨_, rfl⟩
 have h1 := sq_lt x K hK
 have h2 := sq_lt y K hK
 have p1 := sq_pos x
 have p2 := sq_pos y
 have hv := hy_vI x y
 have hn : (vI (hyD x y) (-2148)).natAbs < 2 ^ (K + 1) := by
  rw [Nat.pow_succ]
  generalize 2 ^ K = B at *
  omega
 obtain ⟨a, b, c, d⟩ := units_bd (hy_can x y) (-2148) (K + 1) (hy_low x y) (by decide) (by omega) hn
 refine ⟨a, b, c, fun h => by have := d h; omega, ?_⟩
 rcases hy_can x y with q | q
 ·rw [q]
 ·cases hs : (hyD x y).1 with
  | false => rfl
  | true =>
   exfalso
   have h0 : 0 < (hyD x y).2.1 * 2 ^ ((hyD x y).2.2 - -2148).toNat := Nat.mul_pos (by omega) (Nat.two_pow_pos _)
   unfold vI at hv
   rw [hs] at hv
   have e1 : sI true = -1 := rfl
   rw [e1] at hv
   unfold vI at p1 p2
   omega
def hv (n d : Nat) : Nat := n / 2 ^ d + (decide (2 ^ d < 2 * (n % 2 ^ d)) || ((2 ^ d == 2 * (n % 2 ^ d)) && (n / 2 ^ d % 2 == 1))).toNat
theorem hv_exact (c k : Nat) : hv (c * 2 ^ k) k = c := by
 unfold hv
 have hp := Nat.two_pow_pos k
 rw [Nat.mul_mod_left, Nat.mul_div_cancel _ hp, decide_eq_false (by omega), beq_eq_false_iff_ne.2 (by omega)]
 rfl
theorem hv_scale (m d z : Nat) : hv (m * 2 ^ z) (d + z) = hv m d := by
 unfold hv
 have hz := Nat.two_pow_pos z
 rw [Nat.pow_add, Nat.mul_div_mul_right _ _ hz, Nat.mul_mod_mul_right]
 generalize m % 2 ^ d = r
 generalize 2 ^ d = g
 have e : 2 * (r * 2 ^ z) = 2 * r * 2 ^ z := by rw [Nat.mul_assoc]
 rw [e]
 have a1 : decide (g * 2 ^ z < 2 * r * 2 ^ z) = decide (g < 2 * r) := by
  rw [Bool.eq_iff_iff, decide_eq_true_eq, decide_eq_true_eq]
  exact Nat.mul_lt_mul_right hz
 have a2 : (g * 2 ^ z == 2 * r * 2 ^ z) = (g == 2 * r) := by
  rw [Bool.eq_iff_iff, beq_iff_eq, beq_iff_eq]
  exact ⟨fun h => Nat.eq_of_mul_eq_mul_right hz h, fun h => by rw [h]⟩
 rw [a1, a2]
theorem hv_half (n d : Nat) : 2 * (hv n d * 2 ^ d) ≤ 2 * n + 2 ^ d ∧ 2 * n ≤ 2 * (hv n d * 2 ^ d) + 2 ^ d := by
 unfold hv
 have hp := Nat.two_pow_pos d
 have e := Nat.div_add_mod n (2 ^ d)
 have hl := Nat.mod_lt n hp
 generalize n % 2 ^ d = r at *
 generalize n / 2 ^ d = q at *
 generalize 2 ^ d = g at *
 have e2 : q * g = g * q := Nat.mul_comm _ _
 cases hb : (decide (g < 2 * r) || ((g == 2 * r) && (q % 2 == 1))) with
 | true =>
  simp only [Bool.or_eq_true, decide_eq_true_eq, Bool.and_eq_true, beq_iff_eq] at hb
  rw [Bool.toNat_true, Nat.add_mul, e2]
  omega
 | false =>
  simp only [Bool.or_eq_false_iff, decide_eq_false_iff_not] at hb
  rw [Bool.toNat_false, Nat.add_zero, e2]
  omega
theorem rd_hv (m n : Nat) : rd2 m ((n : Int) + 1) = hv m (n + 1) := by
 unfold rd2 up2 half2 over2 fl2 hv
 rw [if_neg (by omega), if_neg (by omega), if_neg (by omega), show ((n : Int) + 1).toNat = n + 1 by omega, show n + 1 - 1 = n by omega, bit_div]
 congr 2
 unfold lostB
 rw [mod_succ m n]
 have h2 : m / 2 ^ n % 2 = 0 ∨ m / 2 ^ n % 2 = 1 := by omega
 have hp := Nat.two_pow_pos n
 have hl := Nat.mod_lt m hp
 rw [Nat.pow_succ]
 generalize m / (2 ^ n * 2) = q
 generalize m % 2 ^ n = r at *
 generalize 2 ^ n = g at *
 rcases h2 with h | h
 ·rw [h, Nat.mul_zero, Nat.add_zero, decide_eq_false (show ¬ 0 = 1 by decide), Bool.false_and, decide_eq_false (by omega), beq_eq_false_iff_ne.2 (by omega)]
  rfl
 ·rw [h, Nat.mul_one, decide_eq_true rfl, Bool.true_and]
  by_cases z : r = 0
  ·rw [z, decide_eq_false (show ¬ ((0 : Nat) ≠ 0) by decide), decide_eq_false (show ¬ g * 2 < 2 * (0 + g) by omega), beq_iff_eq.2 (show g * 2 = 2 * (0 + g) by omega), Bool.false_or, Bool.false_or, Bool.true_and]
   rw [Bool.eq_iff_iff, decide_eq_true_eq, beq_iff_eq]
  ·rw [decide_eq_true (show r ≠ 0 from z), decide_eq_true (show g * 2 < 2 * (r + g) by omega)]
   rfl
theorem rd_T (m : Nat) (e l : Int) (K : Nat) (he : -(K : Int) ≤ e) (hl : -(K : Int) ≤ l) : rd2 m (l - e) = hv (m * 2 ^ (e + K).toNat) (l + K).toNat := by
 by_cases h : l - e ≤ 0
 ·have e1 : rd2 m (l - e) = m * 2 ^ (e - l).toNat := by
   unfold rd2 up2 half2 fl2
   rw [if_pos h, if_pos h, show (-(l - e)).toNat = (e - l).toNat by omega]
   simp
  rw [e1, show (e + K).toNat = (e - l).toNat + (l + K).toNat by omega, Nat.pow_add, ← Nat.mul_assoc, hv_exact]
 ·obtain ⟨n, hn⟩ : ∃ n : Nat, l - e = (n : Int) + 1 := ⟨(l - e - 1).toNat, by omega⟩
  rw [hn, rd_hv, show (l + K).toNat = (n + 1) + (e + K).toNat by omega, hv_scale]
theorem ls_T (m : Nat) (e l : Int) (K : Nat) (he : -(K : Int) ≤ e) (hl : -(K : Int) ≤ l) : ls2 m (l - e) = lostB (m * 2 ^ (e + K).toNat) (l + K).toNat := by
 unfold ls2 lostB
 by_cases h : l - e ≤ 0
 ·rw [if_pos h, show (e + K).toNat = (e - l).toNat + (l + K).toNat by omega, Nat.pow_add, ← Nat.mul_assoc, Nat.mul_mod_left]
  simp
 ·rw [if_neg h, show (l + K).toNat = (l - e).toNat + (e + K).toNat by omega, Nat.pow_add, Nat.mul_mod_mul_right, decide_eq_decide]
  have := Nat.two_pow_pos (e + K).toNat
  constructor
  ·exact fun q z => q (by rcases Nat.mul_eq_zero.1 z with k | k; exact k; omega)
  ·exact fun q z => q (by rw [z, Nat.zero_mul])
theorem tp_T (m : Nat) (e : Int) (K : Nat) (he : -(K : Int) ≤ e) (h0 : m ≠ 0) : tpI m e = (blen (m * 2 ^ (e + K).toNat) : Int) - K - 1 := by
 have := blen_mul m (e + K).toNat h0
 unfold tpI
 omega
theorem cz_lost {z T T' : Nat} (h : CellZ z T T') (d : Nat) (hd : z ≤ d) : lostB T d = lostB T' d := by
 obtain ⟨j, rfl⟩ : ∃ j, d = z + j := ⟨d - z, by omega⟩
 unfold lostB
 rw [(cz_split T z j).2, (cz_split T' z j).2, h.1, decide_eq_decide]
 have h2 := h.2
 generalize T' / 2 ^ z % 2 ^ j * 2 ^ z = a at *
 omega
theorem cz_hv {z T T' : Nat} (h : CellZ z T T') (d : Nat) (hd : z < d) : hv T d = hv T' d := by
 obtain ⟨j, rfl⟩ : ∃ j, d = z + (j + 1) := ⟨d - z - 1, by omega⟩
 unfold hv
 rw [(cz_split T z (j + 1)).1, (cz_split T' z (j + 1)).1, (cz_split T z (j + 1)).2, (cz_split T' z (j + 1)).2, h.1]
 have h2 := h.2
 have hz := Nat.two_pow_pos z
 have l1 := Nat.mod_lt T hz
 have l2 := Nat.mod_lt T' hz
 have e : 2 ^ (z + (j + 1)) = 2 * (2 ^ j * 2 ^ z) := by rw [← Nat.pow_add, Nat.mul_comm 2, ← Nat.pow_succ]; congr 1; omega
 rw [e]
 generalize T' / 2 ^ z / 2 ^ (j + 1) % 2 = o
 generalize T' / 2 ^ z % 2 ^ (j + 1) = u
 generalize T % 2 ^ z = r at *
 generalize T' % 2 ^ z = r' at *
 generalize 2 ^ z = g at *
 generalize 2 ^ j = G
 congr 2
 rcases Nat.lt_trichotomy u G with q | q | q
 ·have : (u + 1) * g ≤ G * g := Nat.mul_le_mul_right _ q
  rw [Nat.add_mul, Nat.one_mul] at this
  rw [decide_eq_false (show ¬ 2 * (G * g) < 2 * (u * g + r) by omega), decide_eq_false (show ¬ 2 * (G * g) < 2 * (u * g + r') by omega), beq_eq_false_iff_ne.2 (show 2 * (G * g) ≠ 2 * (u * g + r) by omega), beq_eq_false_iff_ne.2 (show 2 * (G * g) ≠ 2 * (u * g + r') by omega)]
 ·subst q
  by_cases z0 : r = 0
  ·rw [z0, h2.1 z0]
  ·rw [decide_eq_true (show 2 * (u * g) < 2 * (u * g + r) by omega), decide_eq_true (show 2 * (u * g) < 2 * (u * g + r') by omega)]
   rfl
 ·have : (G + 1) * g ≤ u * g := Nat.mul_le_mul_right _ q
  rw [Nat.add_mul, Nat.one_mul] at this
  rw [decide_eq_true (show 2 * (G * g) < 2 * (u * g + r) by omega), decide_eq_true (show 2 * (G * g) < 2 * (u * g + r') by omega)]
  rfl
theorem cz_near (m : Nat) (e : Int) (m' : Nat) (e' : Int) (K z : Nat) (hK : 32768 ≤ K) (he : -32768 ≤ e) (he' : -32768 ≤ e') (h : CellZ z (m * 2 ^ (e + K).toNat) (m' * 2 ^ (e' + K).toNat)) (hb : 2 ^ 53 ≤ m * 2 ^ (e + K).toNat / 2 ^ z) :
  nearW m e = nearW m' e' ∧ exactB m e = exactB m' e' ∧ tinyP m e = tinyP m' e' ∧ m ≠ 0 ∧ m' ≠ 0 := by
 have hc0 : m * 2 ^ (e + K).toNat / 2 ^ z ≠ 0 := by have := Nat.two_pow_pos 53; omega
 have hc0' : m' * 2 ^ (e' + K).toNat / 2 ^ z ≠ 0 := by rw [← h.1]; exact hc0
 have h0 : m ≠ 0 := fun q => by rw [q, Nat.zero_mul, Nat.zero_div] at hc0; exact hc0 rfl
 have h0' : m' ≠ 0 := fun q => by rw [q, Nat.zero_mul, Nat.zero_div] at hc0'; exact hc0' rfl
 have t1 := tp_T m e K (by omega) h0
 have t2 := tp_T m' e' K (by omega) h0'
 have b1 := blen_cell _ z hc0
 have b2 := blen_cell _ z hc0'
 rw [← h.1] at b2
 have b3 : 53 < blen (m * 2 ^ (e + K).toNat / 2 ^ z) := by
  rcases Nat.lt_or_ge 53 (blen (m * 2 ^ (e + K).toNat / 2 ^ z)) with q | q
  ·exact q
  ·have := (blen_le _ _).1 q; omega
 have ht : tpI m e = tpI m' e' := by omega
 have hl : lsI m e = lsI m' e' := by unfold lsI; rw [ht]
 have l1 := ls_low m' e'
 have hz : z < (lsI m' e' + K).toNat := by
  have : tpI m' e' - 52 ≤ lsI m' e' := by unfold lsI; split <;> omega
  omega
 refine ⟨?_, ?_, ?_, h0, h0'⟩
 ·unfold nearW
  rw [if_neg h0, if_neg h0', ht, hl, rd_T m e _ K (by omega) (by omega), rd_T m' e' _ K (by omega) (by omega), cz_hv h _ hz]
 ·unfold exactB
  rw [if_neg h0, if_neg h0', ht, hl, ls_T m e _ K (by omega) (by omega), ls_T m' e' _ K (by omega) (by omega), cz_lost h _ (Nat.le_of_lt hz)]
 ·rw [tiny_num m e K hK he, tiny_num m' e' K hK he', decide_eq_decide]
  by_cases c : z ≤ K - 1076
  ·rw [show K - 1076 = (K - 1076 - z) + z by omega, Nat.pow_add, ← Nat.mul_assoc, ← Nat.div_lt_iff_lt_mul (Nat.two_pow_pos z), ← Nat.div_lt_iff_lt_mul (Nat.two_pow_pos z), h.1]
  ·have hbd : 18014398509481983 * 2 ^ (K - 1076) < 2 ^ 53 * 2 ^ z := by
    refine Nat.lt_of_lt_of_le (Nat.mul_lt_mul_of_pos_right (show 18014398509481983 < 2 ^ 54 by decide) (Nat.two_pow_pos _)) ?_
    rw [← Nat.pow_add, ← Nat.pow_add]
    exact Nat.pow_le_pow_right (by decide) (by omega)
   have q1 := Nat.div_mul_le_self (m * 2 ^ (e + K).toNat) (2 ^ z)
   have q2 := Nat.div_mul_le_self (m' * 2 ^ (e' + K).toNat) (2 ^ z)
   rw [← h.1] at q2
   have q3 := Nat.mul_le_mul_right (2 ^ z) hb
   constructor <;> intro <;> omega
theorem skA_near (s1 s2 j : Nat) (m1 m2 : Bool) (E : Int) (hE : -32768 ≤ E) (h : s1 = s2 / 2 ^ j) (hm : m1 = true ↔ (m2 = true ∨ s2 % 2 ^ j ≠ 0)) (hb : 2 ^ 53 ≤ s1) :
  nearW (skA s1 m1) (E + j) = nearW (skA s2 m2) E ∧ exactB (skA s1 m1) (E + j) = exactB (skA s2 m2) E ∧ tinyP (skA s1 m1) (E + j) = tinyP (skA s2 m2) E ∧ skA s1 m1 ≠ 0 ∧ skA s2 m2 ≠ 0 := by
 obtain ⟨K, hK⟩ : ∃ K : Nat, K = 32768 := ⟨_, rfl⟩
 have hc := skA_cell s1 s2 j (E + K).toNat m1 m2 h hm
 rw [show j + (E + K).toNat = (E + j + K).toNat by omega] at hc
 refine cz_near _ _ _ _ K _ (by omega) (by omega) hE hc ?_
 rw [show 2 ^ (j + 1 + (E + K).toNat) = 2 * 2 ^ (E + j + K).toNat by rw [show j + 1 + (E + K).toNat = (E + j + K).toNat + 1 by omega, Nat.pow_succ, Nat.mul_comm], Nat.mul_div_mul_right _ _ (Nat.two_pow_pos _)]
 have : skA s1 m1 / 2 = s1 := by unfold skA; have := Bool.toNat_le m1; omega
 omega
theorem near_num (s : Bool) (m : Nat) (e : Int) : numB (nearB s m e) = true ∧ rungV (nearB s m e) = sI s * nearW m e := by
 have hb := nearW_bd m e
 have hz : m = 0 → nearW m e = 0 := fun q => by unfold nearW; rw [if_pos q]
 unfold nearB
 by_cases h : (s && decide (m ≠ 0)) = true
 ·rw [if_pos h]
  simp only [Bool.and_eq_true, decide_eq_true_eq] at h
  rw [h.1]
  unfold numB rungV negV sI
  refine ⟨by simp; omega, ?_⟩
  rw [if_pos (by omega), if_pos rfl]
  omega
 ·rw [if_neg h]
  simp only [Bool.and_eq_true, decide_eq_true_eq, not_and, Decidable.not_not] at h
  refine ⟨by unfold numB; simp; omega, ?_⟩
  unfold rungV
  rw [if_neg (by omega)]
  unfold sI
  cases s with
  | true => rw [hz (h rfl)]; rfl
  | false => rw [if_neg (by decide)]; omega
theorem cmp_le (x y : Int) : Lib.compareInt x y ≤ 0 ↔ x ≤ y := by
 unfold Lib.compareInt
 split
 ·constructor <;> omega
 ·split <;> constructor <;> omega
def cbB (x : Int) : Int := if finB x = true then (if (fromP x).2.1 = 0 then x else nbR (fromP x).1 (ansM 3 (fromP x).2.1 (fromP x).2.2) (ansE 3 (fromP x).2.1 (fromP x).2.2)) else 0
def cbF (x : Int) : Int := if (fromP x).2.1 = 0 then 0 else flR (fromP x).1 (ansM 3 (fromP x).2.1 (fromP x).2.2) (ansE 3 (fromP x).2.1 (fromP x).2.2)
def sqE (x : Int) : Int := if finB x = true then (if (fromP x).1 = true then 5 else 0) else 5
def sqB (x : Int) : Int := if sqE x = 0 then (if (fromP x).2.1 = 0 then x else nbR false (ansM 2 (fromP x).2.1 (fromP x).2.2) (ansE 2 (fromP x).2.1 (fromP x).2.2)) else 0
def sqF (x : Int) : Int := if sqE x = 0 then (if (fromP x).2.1 = 0 then 0 else flR false (ansM 2 (fromP x).2.1 (fromP x).2.2) (ansE 2 (fromP x).2.1 (fromP x).2.2)) else 0
def rsE (x : Int) : Int := if (fromP x).2.1 = 0 ∨ (fromP x).1 = true then 5 else 0
def rsB (x : Int) : Int := if rsE x = 0 then nbR false (invM (fromP x).2.1 (fromP x).2.2) (invE (fromP x).2.1 (fromP x).2.2) else 0
def rsF (x : Int) : Int := if rsE x = 0 then flR false (invM (fromP x).2.1 (fromP x).2.2) (invE (fromP x).2.1 (fromP x).2.2) else 0
def hyE (x y : Int) : Int := if (finB x && finB y) = true then 0 else 5
def hyB (x y : Int) : Int := if hyE x y = 0 then (if (hyD x y).2.1 = 0 then 0 else nbR false (ansM 2 (hyD x y).2.1 (hyD x y).2.2) (ansE 2 (hyD x y).2.1 (hyD x y).2.2)) else 0
def hyF (x y : Int) : Int := if hyE x y = 0 then (if (hyD x y).2.1 = 0 then 0 else flR false (ansM 2 (hyD x y).2.1 (hyD x y).2.2) (ansE 2 (hyD x y).2.1 (hyD x y).2.2)) else 0
end Go.Proofs.YtionhpedghmecaaGreatDoor

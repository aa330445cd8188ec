/- Round the points of change: what lies in a binary64's cell is rounded to its lower or its upper end (pure). The point of change above a binary64, and what lies just beside it (pure). No neighbour is nearer than what a number is rounded to (pure). A binary64's own number is rounded to it; how far what is answered, and its neighbours, lie off (pure). Roots do not fall, reciprocals do not rise; a distance lies between the greater amount and both together (pure). The middle above a binary64 and the numbers beside it: what they are rounded to (pure). -/
import Derived.Test.YtionhpedghmecaaGreatDoorAPY
import Derived.Test.YtionhpedghmecaaGreatDoorRNV
import Derived.Test.YtionhpedghmecaaGreatDoorTMQ
import Derived.Test.YtionhpedghmecaaGreatDoorRD13
import Derived.Test.YtionhpedghmecaaGreatDoorTMS
import Derived.Test.YtionhpedghmecaaGreatDoorAMX

namespace Go.Proofs.YtionhpedghmecaaGreatDoor
open Go.RowKit
theorem hv_cell (c r d : Nat) (hr : r < 2 ^ d) : hv (c * 2 ^ d + r) d = c + (decide (2 ^ d < 2 * r) || ((2 ^ d == 2 * r) && (c % 2 == 1))).toNat := by
 have hp := Nat.two_pow_pos d
 have e1 : (c * 2 ^ d + r) / 2 ^ d = c := by
  rw [Nat.add_comm, Nat.add_mul_div_right _ _ hp, Nat.div_eq_of_lt hr, Nat.zero_add]
 have e2 : (c * 2 ^ d + r) % 2 ^ d = r := by
  rw [Nat.add_comm, Nat.add_mul_mod_self_right, Nat.mod_eq_of_lt hr]
 unfold hv
 rw [e1, e2]
theorem near_cell (m : Nat) (e : Int) (K : Nat) (hK : K = 32768) (he : -32768 ≤ e) (c k r : Nat) (hc : c < 9007199254740992) (hk : k = 0 ∨ 4503599627370496 ≤ c) (hk2 : k ≤ 2045) (hr : r < 2 ^ (k + (K - 1074))) (hT : m * 2 ^ (e + K).toNat = c * 2 ^ (k + (K - 1074)) + r) (hr0 : 0 < r) :
  nearW m e = (k : Int) * 4503599627370496 + ((c + (decide (2 ^ (k + (K - 1074)) < 2 * r) || ((2 ^ (k + (K - 1074)) == 2 * r) && (c % 2 == 1))).toNat : Nat) : Int) ∧ exactB m e = false ∧ m ≠ 0 := by
 have hm0 : m ≠ 0 := fun q => by rw [q, Nat.zero_mul] at hT; omega
 have tp := tp_T m e K (by omega) hm0
 have hp := Nat.two_pow_pos (k + (K - 1074))
 have up : m * 2 ^ (e + K).toNat < 2 ^ (53 + (k + (K - 1074))) := by
  rw [hT, Nat.pow_add 2 53]
  have h1 : (c + 1) * 2 ^ (k + (K - 1074)) ≤ 2 ^ 53 * 2 ^ (k + (K - 1074)) := Nat.mul_le_mul_right _ (show c + 1 ≤ 2 ^ 53 from by rw [show (2 : Nat) ^ 53 = 9007199254740992 by decide]; omega)
  rw [Nat.add_mul, Nat.one_mul] at h1
  omega
 have hb := (blen_le _ _).2 up
 have hl : lsI m e = (k : Int) - 1074 ∧ tpI m e < 1024 := by
  unfold lsI
  rcases hk with q | q
  ·subst q
   rw [tp]
   split <;> omega
  ·have lo : ¬ blen (m * 2 ^ (e + K).toNat) ≤ 52 + (k + (K - 1074)) := fun w => by
    have h2 := (blen_le _ _).1 w
    rw [hT, Nat.pow_add 2 52] at h2
    have h3 : 2 ^ 52 * 2 ^ (k + (K - 1074)) ≤ c * 2 ^ (k + (K - 1074)) := Nat.mul_le_mul_right _ (show 2 ^ 52 ≤ c from by rw [show (2 : Nat) ^ 52 = 4503599627370496 by decide]; omega)
    omega
   rw [tp]
   split <;> omega
 obtain ⟨hl, ht⟩ := hl
 refine ⟨?_, ?_, hm0⟩
 ·unfold nearW
  rw [if_neg hm0, if_neg (by omega), hl, rd_T m e _ K (by omega) (by omega), hT, show ((k : Int) - 1074 + K).toNat = k + (K - 1074) by omega, hv_cell c r _ hr]
  omega
 ·unfold exactB
  rw [if_neg hm0, if_neg (by omega), hl, ls_T m e _ K (by omega) (by omega), hT, show ((k : Int) - 1074 + K).toNat = k + (K - 1074) by omega]
  unfold lostB
  rw [Nat.add_comm, Nat.add_mul_mod_self_right, Nat.mod_eq_of_lt hr, decide_eq_true (by omega)]
  rfl
theorem val_pos (P : Bool × Nat × Int) (E : Int) (T : Nat) (h0 : 0 < T) (h : vI P E = (T : Int)) : P.1 = false ∧ P.2.1 * 2 ^ (P.2.2 - E).toNat = T := by
 unfold vI sI at h
 cases hs : P.1 with
 | true => rw [hs, if_pos rfl] at h; omega
 | false => rw [hs, if_neg (by decide)] at h; exact ⟨rfl, by omega⟩
theorem val_neg (P : Bool × Nat × Int) (E : Int) (T : Nat) (h0 : 0 < T) (h : vI P E = -(T : Int)) : P.1 = true ∧ P.2.1 * 2 ^ (P.2.2 - E).toNat = T := by
 unfold vI sI at h
 cases hs : P.1 with
 | true => rw [hs, if_pos rfl] at h; exact ⟨rfl, by omega⟩
 | false => rw [hs, if_neg (by decide)] at h; omega
theorem cell_pos (P : Bool × Nat × Int) (hr : rightB P.2.1 P.2.2 = true) (K : Nat) (hK : K = 32768) (c k r : Nat) (hc : c < 9007199254740992) (hk : k = 0 ∨ 4503599627370496 ≤ c) (hk2 : k ≤ 2045) (hr1 : r < 2 ^ (k + (K - 1074))) (hr0 : 0 < r) (h : vI P (-(K : Int)) = ((c * 2 ^ (k + (K - 1074)) + r : Nat) : Int)) :
  erR P.2.1 P.2.2 = 0 ∧ nbR P.1 P.2.1 P.2.2 = (k : Int) * 4503599627370496 + ((c + (decide (2 ^ (k + (K - 1074)) < 2 * r) || ((2 ^ (k + (K - 1074)) == 2 * r) && (c % 2 == 1))).toNat : Nat) : Int) ∧ exactB P.2.1 P.2.2 = false := by
 obtain ⟨v1, v2⟩ := val_pos P _ _ (by omega) h
 have he := (rightB_yes hr).2
 rw [show (P.2.2 - -(K : Int)).toNat = (P.2.2 + K).toNat by omega] at v2
 obtain ⟨n1, n2, n3⟩ := near_cell P.2.1 P.2.2 K hK he.1 c k r hc hk hk2 hr1 v2 hr0
 refine ⟨by unfold erR; rw [if_pos hr], ?_, n2⟩
 unfold nbR nearB
 rw [if_pos hr, v1, Bool.false_and, if_neg (by decide), n1]
theorem cell_neg (P : Bool × Nat × Int) (hr : rightB P.2.1 P.2.2 = true) (K : Nat) (hK : K = 32768) (c k r : Nat) (hc : c < 9007199254740992) (hk : k = 0 ∨ 4503599627370496 ≤ c) (hk2 : k ≤ 2045) (hr1 : r < 2 ^ (k + (K - 1074))) (hr0 : 0 < r) (h : vI P (-(K : Int)) = -((c * 2 ^ (k + (K - 1074)) + r : Nat) : Int)) :
  erR P.2.1 P.2.2 = 0 ∧ nbR P.1 P.2.1 P.2.2 = negV ((k : Int) * 4503599627370496 + ((c + (decide (2 ^ (k + (K - 1074)) < 2 * r) || ((2 ^ (k + (K - 1074)) == 2 * r) && (c % 2 == 1))).toNat : Nat) : Int)) ∧ exactB P.2.1 P.2.2 = false := by
 obtain ⟨v1, v2⟩ := val_neg P _ _ (by omega) h
 have he := (rightB_yes hr).2
 rw [show (P.2.2 - -(K : Int)).toNat = (P.2.2 + K).toNat by omega] at v2
 obtain ⟨n1, n2, n3⟩ := near_cell P.2.1 P.2.2 K hK he.1 c k r hc hk hk2 hr1 v2 hr0
 refine ⟨by unfold erR; rw [if_pos hr], ?_, n2⟩
 unfold nbR nearB
 rw [if_pos hr, v1, Bool.true_and, if_pos (decide_eq_true n3), n1]
def cK (V : Int) : Nat := (unitV V + 1074).toNat
def cC (V : Int) : Nat := (countV V).toNat
theorem cell_facts (V : Int) (h0 : 0 ≤ V) (h1 : V < 9218868437227405312) : cC V < 9007199254740992 ∧ (cK V = 0 ∨ 4503599627370496 ≤ cC V) ∧ cK V ≤ 2045 ∧ V = (cK V : Int) * 4503599627370496 + (cC V : Int) := by
 unfold cK cC unitV countV expV fracV
 split <;> omega
theorem cell_mod (x : Int) : cC (x % 9223372036854775808) = cC x ∧ cK (x % 9223372036854775808) = cK x := by
 have e1 : expV (x % 9223372036854775808) = expV x := by unfold expV; omega
 have e2 : fracV (x % 9223372036854775808) = fracV x := by unfold fracV; omega
 unfold cC cK countV unitV
 rw [e1, e2]
 exact ⟨rfl, rfl⟩
theorem cnt_of (V : Int) (E F : Nat) (hE : expV V = (E : Int)) (hF : fracV V = (F : Int)) : cC V = (if E = 0 then F else F + 4503599627370496) ∧ cK V = E - 1 := by
 unfold cC cK countV unitV
 rw [hE, hF]
 by_cases q : E = 0
 ·subst q
  exact ⟨by simp, by simp⟩
 ·have q' : ¬ (E : Int) = 0 := by omega
  rw [if_neg q', if_neg q', if_neg q]
  have e1 : (F : Int) + 4503599627370496 = ((F + 4503599627370496 : Nat) : Int) := by omega
  have e2 : (E : Int) - 1075 + 1074 = ((E - 1 : Nat) : Int) := by omega
  rw [e1, e2, Int.toNat_natCast, Int.toNat_natCast]
  exact ⟨rfl, rfl⟩
theorem next_parts (V : Int) (h0 : 0 ≤ V) (h1 : V < 9218868437227405312) : (fracV V + 1 < 4503599627370496 → expV (V + 1) = expV V ∧ fracV (V + 1) = fracV V + 1) ∧ (¬ fracV V + 1 < 4503599627370496 → expV (V + 1) = expV V + 1 ∧ fracV (V + 1) = 0 ∧ fracV V = 4503599627370495) ∧ 0 ≤ expV V ∧ 0 ≤ fracV V := by
 unfold expV fracV
 omega
theorem cell_step (E F z L : Nat) : (if E = 0 then F + 1 else F + 1 + L) * 2 ^ (E - 1 + z) = ((if E = 0 then F else F + L) + 1) * 2 ^ (E - 1 + z) := by
 by_cases q : E = 0
 ·rw [if_pos q, if_pos q]
 ·rw [if_neg q, if_neg q, Nat.add_right_comm F 1]
theorem cell_jump (E z L M : Nat) (h : L = M + 1) : (0 + L) * 2 ^ (E + 1 - 1 + z) = ((if E = 0 then M else M + L) + 1) * 2 ^ (E - 1 + z) := by
 subst h
 by_cases q : E = 0
 ·subst q
  rw [if_pos rfl, Nat.zero_add]
 ·rw [if_neg q, show E + 1 - 1 + z = (E - 1 + z) + 1 by omega, Nat.pow_succ, Nat.zero_add, Nat.mul_comm (2 ^ (E - 1 + z)) 2, ← Nat.mul_assoc]
  congr 1
  omega
theorem next_cell (V : Int) (h0 : 0 ≤ V) (h1 : V < 9218868437227405312) (z : Nat) : cC (V + 1) * 2 ^ (cK (V + 1) + z) = (cC V + 1) * 2 ^ (cK V + z) := by
 obtain ⟨n1, n2, n3, n4⟩ := next_parts V h0 h1
 obtain ⟨E, hE⟩ : ∃ E : Nat, expV V = (E : Int) := ⟨(expV V).toNat, by omega⟩
 obtain ⟨F, hF⟩ : ∃ F : Nat, fracV V = (F : Int) := ⟨(fracV V).toNat, by omega⟩
 have k0 := cnt_of V E F hE hF
 by_cases c : fracV V + 1 < 4503599627370496
 ·obtain ⟨a1, a2⟩ := n1 c
  have k1 := cnt_of (V + 1) E (F + 1) (by rw [a1, hE]) (by rw [a2, hF]; omega)
  rw [k0.1, k0.2, k1.1, k1.2]
  exact cell_step E F z 4503599627370496
 ·obtain ⟨a1, a2, a3⟩ := n2 c
  have k1 := cnt_of (V + 1) (E + 1) 0 (by rw [a1, hE]; omega) (by rw [a2]; rfl)
  have hF0 : F = 4503599627370495 := by omega
  subst hF0
  rw [k0.1, k0.2, k1.1, k1.2, if_neg (Nat.succ_ne_zero E)]
  exact cell_jump E z 4503599627370496 4503599627370495 rfl
theorem from_val (x : Int) (_ux : U x) (hx : finB x = true) (K : Nat) (hK : K = 32768) : vI (fromP x) (-(K : Int)) = sI (sgnB x) * ((cC x * 2 ^ (cK x + (K - 1074)) : Nat) : Int) := by
 unfold fromP
 rw [if_pos hx]
 unfold fromD
 have hu : -1074 ≤ unitV x := by unfold unitV expV; split <;> omega
 rw [vI_form _ _ _ _ (by omega)]
 unfold cC cK
 rw [show (unitV x - -(K : Int)).toNat = (unitV x + 1074).toNat + (K - 1074) by omega]
def upT (x : Int) : Bool × Nat × Int := if finB (upV x) = true then fromP (upV x) else (false, 1, 1024)
theorem sum_canP {x y : Bool × Nat × Int} (hx : CanD x) (hy : CanD y) : CanD (sumD x y) := by
 have ha : ∀ s A t b e, CanD (addHi s A t b e) := fun s A t b e => by
  unfold addHi
  split
  ·exact form_can _ _ _
  ·split <;> exact form_can _ _ _
 unfold sumD
 split
 ·exact hy
 ·split
  ·exact hx
  ·split <;> exact ha _ _ _ _ _
theorem from_can (x : Int) : CanD (fromP x) ∧ -1074 ≤ (fromP x).2.2 := by
 unfold fromP
 split
 ·refine ⟨form_can _ _ _, form_lo _ _ _ _ ?_ (by decide)⟩
  unfold unitV expV; split <;> omega
 ·exact ⟨.inl rfl, by decide⟩
theorem up_can (x : Int) : CanD (upT x) ∧ -1074 ≤ (upT x).2.2 := by
 unfold upT
 split
 ·exact from_can _
 ·exact ⟨.inr rfl, by decide⟩
theorem right_val (P : Bool × Nat × Int) (cP : CanD P) (K : Nat) (hK : K = 32768) (h1 : -4000 ≤ P.2.2) (h2 : (vI P (-(K : Int))).natAbs < 2 ^ (K + 2000)) : rightB P.2.1 P.2.2 = true := by
 have key : blen P.2.1 ≤ 65536 ∧ P.2.2 ≤ 32768 := by
  rcases cP with q | q
  ·rw [q]; exact ⟨by rw [blen_zero]; decide, by decide⟩
  ·have hm : P.2.1 ≠ 0 := by omega
   have hv : (vI P (-(K : Int))).natAbs = P.2.1 * 2 ^ (P.2.2 + K).toNat := by
    unfold vI sI
    rw [Int.natAbs_mul, show (P.2.2 - -(K : Int)).toNat = (P.2.2 + K).toNat by omega]
    rw [Int.natAbs_natCast]
    split <;> simp
   rw [hv] at h2
   have hb := (blen_le _ _).2 h2
   rw [blen_mul _ _ hm] at hb
   omega
 unfold rightB inB
 rw [(great_not _).2 key.1, decide_eq_true ⟨by omega, key.2⟩]
 rfl
def midQ (x : Int) : Bool × Nat × Int := formD (sumD (fromP x) (upT x)).1 (sumD (fromP x) (upT x)).2.1 ((sumD (fromP x) (upT x)).2.2 - 1)
theorem pow_halfR (k K : Nat) (hK : K = 32768) : 2 ^ (k + (K - 1074)) = 2 * 2 ^ (k + (K - 1075)) := by
 rw [show k + (K - 1074) = (k + (K - 1075)) + 1 by omega, Nat.pow_succ]; omega
theorem up_val (x : Int) (ux : U x) (hx : finB x = true) (K : Nat) (hK : K = 32768) :
  (¬ 9223372036854775808 < x → upV x = x % 9223372036854775808 + 1 ∧ vI (upT x) (-(K : Int)) = (((cC x + 1) * 2 ^ (cK x + (K - 1074)) : Nat) : Int)) ∧
  (9223372036854775808 < x → upV x = x - 1 ∧ vI (upT x) (-(K : Int)) = -((cC (x % 9223372036854775808 - 1) * 2 ^ (cK (x % 9223372036854775808 - 1) + (K - 1074)) : Nat) : Int)) := by
 obtain ⟨u0, u1⟩ := ux
 have hf : x % 9223372036854775808 < 9218868437227405312 := by unfold finB at hx; simpa using hx
 constructor
 ·intro h
  have hup : upV x = x % 9223372036854775808 + 1 := by
   unfold upV
   rw [if_neg (by omega)]
   split
   ·omega
   ·rw [if_neg (by omega)]; omega
  refine ⟨hup, ?_⟩
  have nc := next_cell (x % 9223372036854775808) (by omega) hf (K - 1074)
  rw [(cell_mod x).1, (cell_mod x).2, ← hup] at nc
  unfold upT
  by_cases q : finB (upV x) = true
  ·rw [if_pos q, from_val _ ⟨by omega, by omega⟩ q K hK, nc]
   unfold sgnB sI
   rw [decide_eq_false (by omega), if_neg (by decide)]
   omega
  ·rw [if_neg q]
   have hin : upV x = 9218868437227405312 := by
    unfold finB at q
    simp at q
    omega
   rw [← nc, hin]
   unfold vI sI
   have e1 : cC 9218868437227405312 = 4503599627370496 := by decide
   have e2 : cK 9218868437227405312 = 2046 := by decide
   rw [e1, e2]
   have e3 : (4503599627370496 : Nat) = 2 ^ 52 := by decide
   rw [e3, ← Nat.pow_add]
   show (if false = true then (-1 : Int) else 1) * ((1 * 2 ^ ((1024 : Int) - -(K : Int)).toNat : Nat) : Int) = _
   rw [show ((1024 : Int) - -(K : Int)).toNat = 52 + (2046 + (K - 1074)) by omega, if_neg (by decide), Nat.one_mul, Int.one_mul]
 ·intro h
  have hup : upV x = x - 1 := by
   unfold upV
   rw [if_neg (by omega), if_neg (by omega), if_pos (by omega)]
  refine ⟨hup, ?_⟩
  have q : finB (upV x) = true := by unfold finB; rw [hup]; exact decide_eq_true (by omega)
  unfold upT
  rw [if_pos q, from_val _ ⟨by omega, by omega⟩ q K hK, hup]
  have em : (x - 1) % 9223372036854775808 = x % 9223372036854775808 - 1 := by omega
  rw [← (cell_mod (x - 1)).1, ← (cell_mod (x - 1)).2, em]
  unfold sgnB sI
  rw [decide_eq_true (by omega), if_pos rfl]
  omega
theorem cell_of (V : Int) (k q : Nat) (hV : V = (k : Int) * 4503599627370496 + (q : Int)) (hq : q < 9007199254740992) (hk : k = 0 ∨ 4503599627370496 ≤ q) (hk2 : k ≤ 2045) : cC V = q ∧ cK V = k := by
 unfold cK cC unitV countV expV fracV
 split <;> omega
def cv (V : Int) (z : Nat) : Nat := cC V * 2 ^ (cK V + z)
theorem cv_next (V : Int) (h0 : 0 ≤ V) (h1 : V < 9218868437227405312) (z : Nat) : cv (V + 1) z = cv V z + 2 ^ (cK V + z) := by
 unfold cv
 rw [next_cell V h0 h1 z, Nat.add_mul, Nat.one_mul]
theorem cv_zero (z : Nat) : cv 0 z = 0 := by
 have := cell_of 0 0 0 (by omega) (by decide) (.inl rfl) (by decide)
 unfold cv
 rw [this.1, Nat.zero_mul]
theorem pow_le' (a b z : Nat) (h : a ≤ b) : 2 ^ (a + z) ≤ 2 ^ (b + z) := Nat.pow_le_pow_right (by decide) (by omega)
theorem one_more (q P : Nat) (h : q = 9007199254740992) : 4503599627370496 * (P * 2) = q * P := by subst h; omega
theorem near_parts (m : Nat) (e : Int) (K : Nat) (hK : K = 32768) (he : -32768 ≤ e) (h0 : m ≠ 0) (hi : nearW m e ≠ 9218868437227405312) :
  ∃ k q : Nat, nearW m e = (k : Int) * 4503599627370496 + (q : Int) ∧ q ≤ 9007199254740992 ∧ (k = 0 ∨ 4503599627370496 ≤ q) ∧ k ≤ 2045 ∧ cv (nearW m e) (K - 1074) = q * 2 ^ (k + (K - 1074)) ∧ q = hv (m * 2 ^ (e + K).toNat) (k + (K - 1074)) ∧ (k ≠ 0 → 4503599627370496 ≤ (m * 2 ^ (e + K).toNat) / 2 ^ (k + (K - 1074))) ∧ (exactB m e = true ↔ (m * 2 ^ (e + K).toNat) % 2 ^ (k + (K - 1074)) = 0) := by
 have hb := nearW_bd m e
 have ht : tpI m e < 1024 := by
  by_cases q : 1024 ≤ tpI m e
  ·exfalso; apply hi; unfold nearW; rw [if_neg h0, if_pos q]
  ·omega
 have l1 := ls_low m e
 have l2 := ls_top m e ht
 obtain ⟨k, hk⟩ : ∃ k : Nat, lsI m e = (k : Int) - 1074 := ⟨(lsI m e + 1074).toNat, by omega⟩
 have eW : nearW m e = (k : Int) * 4503599627370496 + (rd2 m (lsI m e - e) : Int) := by
  unfold nearW
  rw [if_neg h0, if_neg (by omega), show lsI m e + 1074 = (k : Int) by omega]
 have eq : rd2 m (lsI m e - e) = hv (m * 2 ^ (e + K).toNat) (k + (K - 1074)) := by
  rw [rd_T m e _ K (by omega) (by omega), hk, show ((k : Int) - 1074 + K).toNat = k + (K - 1074) by omega]
 have fl := M_lt m e
 have up : (up2 m (lsI m e - e)).toNat ≤ 1 := Bool.toNat_le _
 have q1 : rd2 m (lsI m e - e) ≤ 9007199254740992 := by unfold rd2; omega
 have q2 : k = 0 ∨ 4503599627370496 ≤ rd2 m (lsI m e - e) := by
  by_cases q : k = 0
  ·exact .inl q
  ·right
   have := M_ge m e h0 (by omega)
   unfold rd2
   omega
 have hx : exactB m e = true ↔ (m * 2 ^ (e + K).toNat) % 2 ^ (k + (K - 1074)) = 0 := by
  unfold exactB
  rw [if_neg h0, if_neg (by omega), ls_T m e _ K (by omega) (by omega), hk, show ((k : Int) - 1074 + K).toNat = k + (K - 1074) by omega]
  unfold lostB
  simp
 have hlow : k ≠ 0 → 4503599627370496 ≤ (m * 2 ^ (e + K).toNat) / 2 ^ (k + (K - 1074)) := fun hk0 => by
  have tp := tp_T m e K (by omega) h0
  have h1 : ¬ blen (m * 2 ^ (e + K).toNat) ≤ 52 + (k + (K - 1074)) := by
   unfold lsI at hk
   split at hk <;> omega
  have h2 : ¬ m * 2 ^ (e + K).toNat < 2 ^ (52 + (k + (K - 1074))) := fun q => h1 ((blen_le _ _).2 q)
  rw [Nat.pow_add 2 52, show (2 : Nat) ^ 52 = 4503599627370496 by decide] at h2
  exact (Nat.le_div_iff_mul_le (Nat.two_pow_pos _)).2 (by omega)
 have k2 : k ≤ 2045 := by omega
 obtain ⟨q, hq⟩ : ∃ q : Nat, q = hv (m * 2 ^ (e + K).toNat) (k + (K - 1074)) := ⟨_, rfl⟩
 rw [eq, ← hq] at eW q1 q2
 refine ⟨k, q, eW, q1, q2, k2, ?_, hq, hlow, hx⟩
 by_cases c : q < 9007199254740992
 ·have := cell_of (nearW m e) k q eW c q2 k2
  unfold cv
  rw [this.1, this.2]
 ·have c' : q = 9007199254740992 := by omega
  by_cases k3 : k ≤ 2044
  ·have := cell_of (nearW m e) (k + 1) 4503599627370496 (by rw [eW, c']; omega) (by decide) (.inr (Nat.le_refl _)) (by omega)
   unfold cv
   rw [this.1, this.2, show k + 1 + (K - 1074) = k + (K - 1074) + 1 by omega, Nat.pow_succ]
   exact one_more _ _ c'
  ·exfalso; apply hi; rw [eW, c']; omega
theorem ar_A (T q P V : Nat) (h : 2 * T ≤ 2 * (q * P) + P) (hV : P ≤ V) : 2 * T ≤ q * P + (q * P + V) := by omega
theorem ar_B (T q P V W : Nat) (h : 2 * (q * P) ≤ 2 * T + P) (hV : P ≤ V) (e : q * P = W + V) : W + q * P ≤ 2 * T := by omega
theorem ar_C (T c q P V W : Nat) (e : q * P = W + V) (h1 : q ≤ c) (h2 : c * P ≤ T) : W + q * P ≤ 2 * T := by
 have := Nat.mul_le_mul_right P h1
 omega
theorem near_gapN (m : Nat) (e : Int) (K : Nat) (hK : K = 32768) (he : -32768 ≤ e) (hi : nearW m e ≠ 9218868437227405312) :
  2 * (m * 2 ^ (e + K).toNat) ≤ cv (nearW m e) (K - 1074) + cv (nearW m e + 1) (K - 1074) ∧ (1 ≤ nearW m e → cv (nearW m e - 1) (K - 1074) + cv (nearW m e) (K - 1074) ≤ 2 * (m * 2 ^ (e + K).toNat)) := by
 by_cases h0 : m = 0
 ·have hW : nearW m e = 0 := by unfold nearW; rw [if_pos h0]
  rw [hW, h0]
  exact ⟨by omega, fun q => by omega⟩
 ·have hb := nearW_bd m e
  obtain ⟨k, q, eW, q1, q2, k2, eV, eq, hlow, _⟩ := near_parts m e K hK he h0 hi
  obtain ⟨v1, v2⟩ := hv_half (m * 2 ^ (e + K).toNat) (k + (K - 1074))
  rw [← eq] at v1 v2
  have nx := cv_next (nearW m e) hb.1 (by omega) (K - 1074)
  constructor
  ·rw [nx, eV]
   refine ar_A _ _ _ _ v2 ?_
   refine pow_le' _ _ _ ?_
   by_cases c : q < 9007199254740992
   ·exact Nat.le_of_eq (cell_of _ k q eW c q2 k2).2.symm
   ·have := cell_of (nearW m e) (k + 1) 4503599627370496 (by rw [eW]; omega) (by decide) (.inr (Nat.le_refl _)) (by omega)
    omega
  ·intro h1
   have pv := cv_next (nearW m e - 1) (by omega) (by omega) (K - 1074)
   rw [show nearW m e - 1 + 1 = nearW m e by omega, eV] at pv
   rw [eV]
   by_cases c : k = 0 ∨ 4503599627370496 < q
   ·refine ar_B _ _ _ _ _ v1 ?_ pv
    refine pow_le' _ _ _ ?_
    have := cell_of (nearW m e - 1) k (q - 1) (by omega) (by omega) (by omega) k2
    omega
   ·have hd := hlow (by omega)
    refine ar_C _ ((m * 2 ^ (e + K).toNat) / 2 ^ (k + (K - 1074))) _ _ _ _ pv (by omega) (Nat.div_mul_le_self _ _)
def rV (j : Int) (z : Nat) : Int := if 0 ≤ j then (cv j z : Int) else -(cv (-j) z : Int)
theorem near_gap (s : Bool) (m : Nat) (e : Int) (K : Nat) (hK : K = 32768) (he : -32768 ≤ e) (hi : nearW m e ≠ 9218868437227405312) :
  2 * (sI s * ((m * 2 ^ (e + K).toNat : Nat) : Int)) ≤ rV (sI s * nearW m e) (K - 1074) + rV (sI s * nearW m e + 1) (K - 1074) ∧ rV (sI s * nearW m e - 1) (K - 1074) + rV (sI s * nearW m e) (K - 1074) ≤ 2 * (sI s * ((m * 2 ^ (e + K).toNat : Nat) : Int)) := by
 obtain ⟨a, b⟩ := near_gapN m e K hK he hi
 have hb := nearW_bd m e
 have z0 := cv_zero (K - 1074)
 generalize nearW m e = W at *
 generalize m * 2 ^ (e + K).toNat = T at *
 generalize K - 1074 = z at *
 cases s with
 | false =>
  rw [show sI false = 1 from rfl, Int.one_mul, Int.one_mul]
  unfold rV
  rw [if_pos hb.1, if_pos (by omega)]
  refine ⟨by omega, ?_⟩
  split
  ·have := b (by omega); omega
  ·rw [show W = 0 by omega, z0]; omega
 | true =>
  rw [show sI true = -1 from rfl, show -1 * W = -W by omega]
  unfold rV
  rw [show -(-W) = W by omega, show -(-W - 1) = W + 1 by omega, show -(-W + 1) = W - 1 by omega, if_neg (show ¬ 0 ≤ -W - 1 by omega)]
  by_cases w0 : W = 0
  ·subst w0
   rw [show (-(0 : Int)) = 0 by omega, if_pos (Int.le_refl 0), z0, if_pos (by omega)]
   omega
  ·rw [if_neg (show ¬ 0 ≤ -W by omega)]
   have := b (by omega)
   split
   ·rw [show -W + 1 = W - 1 by omega]
    have : W - 1 = 0 := by omega
    rw [this, z0] at *
    omega
   ·omega
theorem from_rung (x : Int) (ux : U x) (hx : finB x = true) (K : Nat) (hK : K = 32768) : vI (fromP x) (-(K : Int)) = rV (rungV x) (K - 1074) := by
 rw [from_val x ux hx K hK]
 have hf : x % 9223372036854775808 < 9218868437227405312 := by unfold finB at hx; simpa using hx
 obtain ⟨u0, u1⟩ := ux
 have e := cell_mod x
 unfold rV rungV sgnB
 by_cases c : 9223372036854775808 ≤ x
 ·rw [if_pos c, decide_eq_true c, show sI true = -1 from rfl]
  rw [show x % 9223372036854775808 = x - 9223372036854775808 by omega] at e
  by_cases d : x = 9223372036854775808
  ·subst d
   rw [if_pos (by omega), show (9223372036854775808 : Int) - 9223372036854775808 = 0 by omega, cv_zero]
   have := cell_of 0 0 0 (by omega) (by decide) (.inl rfl) (by decide)
   rw [show (9223372036854775808 : Int) - 9223372036854775808 = 0 by omega] at e
   rw [← e.1, this.1, Nat.zero_mul]
   rfl
  ·rw [if_neg (by omega), show -(9223372036854775808 - x) = x - 9223372036854775808 by omega]
   unfold cv
   rw [e.1, e.2]
   omega
 ·rw [if_neg c, decide_eq_false c, show sI false = 1 from rfl, if_pos (by omega)]
  unfold cv
  omega
theorem up_rung (x : Int) (ux : U x) (hx : finB x = true) : rungV (upV x) = rungV x + 1 ∧ U (upV x) := by
 have hf : x % 9223372036854775808 < 9218868437227405312 := by unfold finB at hx; simpa using hx
 obtain ⟨u0, u1⟩ := ux
 have e : upV x = if x % 9223372036854775808 = 0 then 1 else if 9223372036854775808 ≤ x then x - 1 else x + 1 := by unfold upV; rw [if_neg (by omega)]
 rw [e]
 by_cases d : x % 9223372036854775808 = 0
 ·rw [if_pos d]
  refine ⟨?_, by unfold U; omega⟩
  unfold rungV
  split <;> split <;> omega
 ·rw [if_neg d]
  by_cases c : 9223372036854775808 ≤ x
  ·rw [if_pos c]
   refine ⟨?_, by unfold U; omega⟩
   unfold rungV
   rw [if_pos c]
   split <;> omega
  ·rw [if_neg c]
   refine ⟨?_, by unfold U; omega⟩
   unfold rungV
   rw [if_neg c]
   split <;> omega
theorem neg_rung (x : Int) (ux : U x) : rungV (negV x) = - rungV x ∧ U (negV x) ∧ finB (negV x) = finB x := by
 obtain ⟨u0, u1⟩ := ux
 have e : (negV x) % 9223372036854775808 = x % 9223372036854775808 := by unfold negV; omega
 refine ⟨?_, ?_, by unfold finB; rw [e]⟩
 ·unfold rungV negV
  by_cases c : 9223372036854775808 ≤ x
  ·rw [if_pos c]
   split <;> omega
  ·rw [if_neg c]
   split <;> omega
 ·unfold negV U; omega
theorem down_rung (x : Int) (ux : U x) (hx : finB x = true) : rungV (downV x) = rungV x - 1 ∧ U (downV x) := by
 obtain ⟨a, b, c⟩ := neg_rung x ux
 obtain ⟨d, f⟩ := up_rung (negV x) b (by rw [c, hx])
 obtain ⟨g, h, _⟩ := neg_rung (upV (negV x)) f
 unfold downV
 exact ⟨by rw [g, d, a]; omega, h⟩
theorem near_exact (m : Nat) (e : Int) (K : Nat) (hK : K = 32768) (he : -32768 ≤ e) (c k : Nat) (hc : c < 9007199254740992) (hk : k = 0 ∨ 4503599627370496 ≤ c) (hk2 : k ≤ 2045) (hT : m * 2 ^ (e + K).toNat = c * 2 ^ (k + (K - 1074))) (h0 : c ≠ 0) :
  nearW m e = (k : Int) * 4503599627370496 + (c : Int) ∧ exactB m e = true ∧ m ≠ 0 := by
 have hp := Nat.two_pow_pos (k + (K - 1074))
 have hm0 : m ≠ 0 := fun q => by
  rw [q, Nat.zero_mul] at hT
  rcases Nat.mul_eq_zero.1 hT.symm with z | z
  ·exact h0 z
  ·omega
 have tp := tp_T m e K (by omega) hm0
 have up : m * 2 ^ (e + K).toNat < 2 ^ (53 + (k + (K - 1074))) := by
  rw [hT, Nat.pow_add 2 53]
  exact Nat.mul_lt_mul_of_pos_right (by rw [show (2 : Nat) ^ 53 = 9007199254740992 by decide]; exact hc) hp
 have hb := (blen_le _ _).2 up
 have hl : lsI m e = (k : Int) - 1074 ∧ tpI m e < 1024 := by
  unfold lsI
  rcases hk with q | q
  ·subst q
   rw [tp]
   split <;> omega
  ·have lo : ¬ blen (m * 2 ^ (e + K).toNat) ≤ 52 + (k + (K - 1074)) := fun w => by
    have h2 := (blen_le _ _).1 w
    rw [hT, Nat.pow_add 2 52] at h2
    have h3 : 2 ^ 52 * 2 ^ (k + (K - 1074)) ≤ c * 2 ^ (k + (K - 1074)) := Nat.mul_le_mul_right _ (show 2 ^ 52 ≤ c from by rw [show (2 : Nat) ^ 52 = 4503599627370496 by decide]; omega)
    omega
   rw [tp]
   split <;> omega
 obtain ⟨hl, ht⟩ := hl
 refine ⟨?_, ?_, hm0⟩
 ·unfold nearW
  rw [if_neg hm0, if_neg (by omega), hl, rd_T m e _ K (by omega) (by omega), hT, show ((k : Int) - 1074 + K).toNat = k + (K - 1074) by omega, hv_exact]
  omega
 ·unfold exactB
  rw [if_neg hm0, if_neg (by omega), hl, ls_T m e _ K (by omega) (by omega), hT, show ((k : Int) - 1074 + K).toNat = k + (K - 1074) by omega]
  unfold lostB
  rw [Nat.mul_mod_left]
  rfl
theorem from_rightO (x : Int) (ux : U x) : rightB (fromP x).2.1 (fromP x).2.2 = true := by
 cases hx : finB x with
 | false => unfold fromP; rw [hx, if_neg (by decide)]; decide +kernel
 | true =>
  obtain ⟨K, hK⟩ : ∃ K : Nat, K = 32768 := ⟨_, rfl⟩
  have hf : x % 9223372036854775808 < 9218868437227405312 := by unfold finB at hx; simpa using hx
  have cf := cell_facts (x % 9223372036854775808) (by omega) hf
  rw [(cell_mod x).1, (cell_mod x).2] at cf
  refine right_val _ (from_can x).1 K hK (by have := (from_can x).2; omega) ?_
  rw [from_val x ux hx K hK]
  have ea : (sI (sgnB x) * ((cC x * 2 ^ (cK x + (K - 1074)) : Nat) : Int)).natAbs = cC x * 2 ^ (cK x + (K - 1074)) := by unfold sI; split <;> omega
  rw [ea]
  have h1 : cC x * 2 ^ (cK x + (K - 1074)) < 2 ^ 53 * 2 ^ (cK x + (K - 1074)) := Nat.mul_lt_mul_of_pos_right (by rw [show (2 : Nat) ^ 53 = 9007199254740992 by decide]; exact cf.1) (Nat.two_pow_pos _)
  rw [← Nat.pow_add] at h1
  exact Nat.lt_of_lt_of_le h1 (Nat.pow_le_pow_right (by decide) (by omega))
theorem near_own (x : Int) (ux : U x) (hx : finB x = true) : erR (fromP x).2.1 (fromP x).2.2 = 0 ∧ flR (fromP x).1 (fromP x).2.1 (fromP x).2.2 = 0 ∧ (nbR (fromP x).1 (fromP x).2.1 (fromP x).2.2 = x ∨ (x = 9223372036854775808 ∧ nbR (fromP x).1 (fromP x).2.1 (fromP x).2.2 = 0)) := by
 obtain ⟨K, hK⟩ : ∃ K : Nat, K = 32768 := ⟨_, rfl⟩
 have hr := from_rightO x ux
 have hv := from_val x ux hx K hK
 have hf : x % 9223372036854775808 < 9218868437227405312 := by unfold finB at hx; simpa using hx
 have cf := cell_facts (x % 9223372036854775808) (by omega) hf
 rw [(cell_mod x).1, (cell_mod x).2] at cf
 have he := (rightB_yes hr).2
 have u := ux
 obtain ⟨u0, u1⟩ := u
 refine ⟨by unfold erR; rw [if_pos hr], ?_⟩
 unfold flR nbR
 rw [if_pos hr, if_pos hr]
 by_cases c0 : cC x = 0
 ·have hV : x % 9223372036854775808 = 0 := by
   rcases cf.2.1 with q | q
   ·rw [q, c0] at cf; omega
   ·omega
  have hz : (fromP x) = (false, 0, 0) := by
   unfold fromP fromD
   rw [if_pos hx, show (countV x).toNat = 0 from c0, form_zero]
  rw [hz]
  have e1 : exactB 0 0 = true := rfl
  have e2 : nearB false 0 0 = 0 := rfl
  rw [e1, e2]
  refine ⟨rfl, ?_⟩
  by_cases q : x = 0
  ·exact .inl q.symm
  ·exact .inr ⟨by omega, rfl⟩
 ·generalize hP : fromP x = P at *
  have h2 : P.1 = sgnB x ∧ P.2.1 * 2 ^ (P.2.2 + K).toNat = cC x * 2 ^ (cK x + (K - 1074)) := by
   have pos : 0 < cC x * 2 ^ (cK x + (K - 1074)) := Nat.mul_pos (by omega) (Nat.two_pow_pos _)
   cases hs : sgnB x with
   | false =>
    rw [hs, show sI false = 1 from rfl, Int.one_mul] at hv
    obtain ⟨a, b⟩ := val_pos P _ _ pos hv
    exact ⟨a, by rw [← b, show P.2.2 - -(K : Int) = P.2.2 + K by omega]⟩
   | true =>
    rw [hs, show sI true = -1 from rfl, Int.neg_one_mul] at hv
    obtain ⟨a, b⟩ := val_neg P _ _ pos hv
    exact ⟨a, by rw [← b, show P.2.2 - -(K : Int) = P.2.2 + K by omega]⟩
  obtain ⟨a, b⟩ := h2
  obtain ⟨n1, n2, n3⟩ := near_exact P.2.1 P.2.2 K hK he.1 (cC x) (cK x) cf.1 cf.2.1 cf.2.2.1 b c0
  rw [n2, if_pos rfl]
  refine ⟨rfl, .inl ?_⟩
  unfold nearB
  rw [a, n1, ← cf.2.2.2]
  unfold sgnB negV
  by_cases q : 9223372036854775808 ≤ x
  ·rw [decide_eq_true q, Bool.true_and, if_pos (decide_eq_true n3)]; omega
  ·rw [decide_eq_false q, Bool.false_and, if_neg (by decide)]; omega
theorem own_rung (x : Int) (ux : U x) (hx : finB x = true) : rungV x = sI (fromP x).1 * nearW (fromP x).2.1 (fromP x).2.2 ∧ numB x = true := by
 obtain ⟨_, _, h⟩ := near_own x ux hx
 have hr := fa_right x
 unfold nbR at h
 rw [if_pos hr] at h
 have hn := near_num (fromP x).1 (fromP x).2.1 (fromP x).2.2
 have hb : numB x = true := by
  unfold finB at hx
  unfold numB
  rw [decide_eq_true_eq] at hx ⊢
  omega
 refine ⟨?_, hb⟩
 rcases h with q | ⟨q1, q2⟩
 ·rw [← hn.2, q]
 ·rw [← hn.2, q2, q1]; decide
def rtW (k m : Nat) (e : Int) : Int := if m = 0 then 0 else nearW (ansM k m e) (ansE k m e)
theorem near_rung (s : Bool) (m : Nat) (e : Int) (hr : rightB m e = true) : rungV (nbR s m e) = sI s * nearW m e := by
 unfold nbR
 rw [if_pos hr, (near_num s m e).2]
theorem zero_rung (x : Int) (ux : U x) (hx : finB x = true) (h : (fromP x).2.1 = 0) : rungV x = 0 := by
 rw [(own_rung x ux hx).1, h, show nearW 0 (fromP x).2.2 = 0 by unfold nearW; rfl, Int.mul_zero]
theorem cb_rung (x : Int) (ux : U x) (hx : finB x = true) : rungV (cbB x) = sI (fromP x).1 * rtW 3 (fromP x).2.1 (fromP x).2.2 := by
 unfold cbB rtW
 rw [if_pos hx]
 by_cases h0 : (fromP x).2.1 = 0
 ·rw [if_pos h0, if_pos h0, zero_rung x ux hx h0, Int.mul_zero]
 ·rw [if_neg h0, if_neg h0, near_rung _ _ _ (ans_right 3 _ _ (Or.inr rfl) h0 (fa_tp x)).1]
theorem sq_ok {x : Int} (h : sqE x = 0) : finB x = true ∧ (fromP x).1 = false := by
 unfold sqE at h
 by_cases q : finB x = true
 ·rw [if_pos q] at h
  refine ⟨q, ?_⟩
  cases c : (fromP x).1 with
  | false => rfl
  | true => rw [c] at h; cases h
 ·rw [if_neg q] at h; cases h
theorem sq_rung (x : Int) (ux : U x) (h : sqE x = 0) : rungV (sqB x) = rtW 2 (fromP x).2.1 (fromP x).2.2 := by
 unfold sqB rtW
 rw [if_pos h]
 by_cases h0 : (fromP x).2.1 = 0
 ·rw [if_pos h0, if_pos h0, zero_rung x ux (sq_ok h).1 h0]
 ·rw [if_neg h0, if_neg h0, near_rung _ _ _ (ans_right 2 _ _ (Or.inl rfl) h0 (fa_tp x)).1]
  show 1 * _ = _
  omega
theorem rs_ok {x : Int} (h : rsE x = 0) : finB x = true ∧ (fromP x).1 = false ∧ (fromP x).2.1 ≠ 0 := by
 unfold rsE at h
 by_cases q : (fromP x).2.1 = 0 ∨ (fromP x).1 = true
 ·rw [if_pos q] at h; cases h
 ·have q1 : (fromP x).2.1 ≠ 0 := fun c => q (Or.inl c)
  refine ⟨?_, ?_, q1⟩
  ·cases c : finB x with
   | true => rfl
   | false => rw [(last_no c).2] at q1; exact absurd rfl q1
  ·cases c : (fromP x).1 with
   | false => rfl
   | true => exact absurd (Or.inr c) q
theorem rs_rung (x : Int) (h : rsE x = 0) : rungV (rsB x) = nearW (invM (fromP x).2.1 (fromP x).2.2) (invE (fromP x).2.1 (fromP x).2.2) := by
 unfold rsB
 rw [if_pos h, near_rung _ _ _ (inv_right _ _ (rs_ok h).2.2 (fa_tp x)).1]
 show 1 * _ = _
 omega
theorem mid_low (x : Int) : -1074 ≤ (sumD (fromP x) (upT x)).2.2 := sum_low _ _ (-1074) (by decide) (from_can x).2 (up_can x).2
theorem mid_twice (x : Int) (K : Nat) (hK : K = 32768) : 2 * vI (midQ x) (-(K : Int)) = vI (fromP x) (-(K : Int)) + vI (upT x) (-(K : Int)) := by
 have hl := mid_low x
 have hs := vI_sum (fromP x) (upT x) (-(K : Int)) (by have := (from_can x).2; omega) (by have := (up_can x).2; omega)
 rw [← hs]
 unfold midQ
 rw [vI_form _ _ _ _ (by omega)]
 unfold vI
 generalize sumD (fromP x) (upT x) = S at *
 rw [show (S.2.2 - -(K : Int)).toNat = (S.2.2 - 1 - -(K : Int)).toNat + 1 by omega, Nat.pow_succ, ← Nat.mul_assoc]
 generalize S.2.1 * 2 ^ (S.2.2 - 1 - -(K : Int)).toNat = T
 unfold sI
 split <;> omega
theorem mid_can (x : Int) : CanD (midQ x) ∧ -1075 ≤ (midQ x).2.2 := ⟨form_can _ _ _, form_lo _ _ _ _ (by have := mid_low x; omega) (by decide)⟩
theorem half_a (v : Int) (P Q : Nat) (h : 2 * v = (P : Int) + ((P + 2 * Q : Nat) : Int)) : v = ((P + Q : Nat) : Int) := by omega
theorem half_b (v : Int) (P Q : Nat) (h : 2 * v = -1 * ((P + 2 * Q : Nat) : Int) + -(P : Int)) : v = -((P + Q : Nat) : Int) := by omega
theorem abs_a (v : Int) (A B : Nat) (e : v = (A : Int)) (h : A < B) : v.natAbs < B := by omega
theorem abs_b (v : Int) (A B : Nat) (e : v = -(A : Int)) (h : A < B) : v.natAbs < B := by omega
theorem two_a (v : Int) (P Q R : Nat) (e : v = ((P + Q : Nat) : Int) - (R : Int)) (h : R < Q) : v = ((P + (Q - R) : Nat) : Int) := by omega
theorem two_b (v : Int) (P Q R : Nat) (e : v = ((P + Q : Nat) : Int) + (R : Int)) : v = ((P + (Q + R) : Nat) : Int) := by omega
theorem two_c (v : Int) (P Q R : Nat) (e : v = -((P + Q : Nat) : Int) - (R : Int)) : v = -((P + (Q + R) : Nat) : Int) := by omega
theorem two_d (v : Int) (P Q R : Nat) (e : v = -((P + Q : Nat) : Int) + (R : Int)) (h : R < Q) : v = -((P + (Q - R) : Nat) : Int) := by omega
theorem mid_val (x : Int) (ux : U x) (hx : finB x = true) (K : Nat) (hK : K = 32768) :
  (¬ 9223372036854775808 < x → vI (midQ x) (-(K : Int)) = ((cC x * 2 ^ (cK x + (K - 1074)) + 2 ^ (cK x + (K - 1075)) : Nat) : Int)) ∧
  (9223372036854775808 < x → vI (midQ x) (-(K : Int)) = -((cC (x % 9223372036854775808 - 1) * 2 ^ (cK (x % 9223372036854775808 - 1) + (K - 1074)) + 2 ^ (cK (x % 9223372036854775808 - 1) + (K - 1075)) : Nat) : Int)) := by
 have h2 := mid_twice x K hK
 have hv := from_val x ux hx K hK
 obtain ⟨p1, p2⟩ := up_val x ux hx K hK
 have hf : x % 9223372036854775808 < 9218868437227405312 := by unfold finB at hx; simpa using hx
 obtain ⟨u0, u1⟩ := ux
 constructor
 ·intro h
  obtain ⟨-, q⟩ := p1 h
  rw [hv, q] at h2
  have ph := pow_halfR (cK x) K hK
  have hz : x = 9223372036854775808 → cC x = 0 := fun w => by rw [w]; decide
  have hsg : sI (sgnB x) * ((cC x * 2 ^ (cK x + (K - 1074)) : Nat) : Int) = ((cC x * 2 ^ (cK x + (K - 1074)) : Nat) : Int) := by
   by_cases w : x = 9223372036854775808
   ·rw [hz w, Nat.zero_mul]; simp
   ·unfold sgnB sI
    rw [decide_eq_false (by omega), if_neg (by decide), Int.one_mul]
  rw [hsg, Nat.add_mul, Nat.one_mul] at h2
  rw [ph] at h2 ⊢
  exact half_a _ _ _ h2
 ·intro h
  obtain ⟨-, q⟩ := p2 h
  have nc := next_cell (x % 9223372036854775808 - 1) (by omega) (by omega) (K - 1074)
  rw [show x % 9223372036854775808 - 1 + 1 = x % 9223372036854775808 by omega, (cell_mod x).1, (cell_mod x).2] at nc
  rw [hv, q, nc] at h2
  have ph := pow_halfR (cK (x % 9223372036854775808 - 1)) K hK
  have hsg : sI (sgnB x) = -1 := by unfold sgnB sI; rw [decide_eq_true (by omega), if_pos rfl]
  rw [hsg, Nat.add_mul, Nat.one_mul] at h2
  rw [ph] at h2 ⊢
  exact half_b _ _ _ h2
def pwD (n : Int) : Bool × Nat × Int := formD false 1 (-n)
theorem pw_is (n : Int) : pwD n = (false, 1, -n) := form_odd false rfl (-n)
def beD (x n : Int) : Bool × Nat × Int := sumD (midQ x) (negD (pwD n))
def abD (x n : Int) : Bool × Nat × Int := sumD (midQ x) (pwD n)
theorem pw_val (n : Int) (K : Nat) (hK : K = 32768) (hn : 1100 ≤ n ∧ n ≤ 3000) : vI (pwD n) (-(K : Int)) = ((2 ^ (K - n.toNat) : Nat) : Int) := by
 rw [pw_is]
 have e : (-n - -(K : Int)).toNat = K - n.toNat := by omega
 show (1 : Int) * ((1 * 2 ^ (-n - -(K : Int)).toNat : Nat) : Int) = _
 rw [e, Nat.one_mul, Int.one_mul]
theorem be_val (x n : Int) (K : Nat) (hK : K = 32768) (hn : 1100 ≤ n ∧ n ≤ 3000) : vI (beD x n) (-(K : Int)) = vI (midQ x) (-(K : Int)) - ((2 ^ (K - n.toNat) : Nat) : Int) ∧ vI (abD x n) (-(K : Int)) = vI (midQ x) (-(K : Int)) + ((2 ^ (K - n.toNat) : Nat) : Int) := by
 have hm := (mid_can x).2
 have hp := pw_is n
 unfold beD abD
 rw [vI_sum _ _ _ (by omega) (show -(K : Int) ≤ (negD (pwD n)).2.2 from by rw [hp]; show -(K : Int) ≤ -n; omega), vI_sum _ _ _ (by omega) (show -(K : Int) ≤ (pwD n).2.2 from by rw [hp]; show -(K : Int) ≤ -n; omega), vI_neg, pw_val n K hK hn]
 omega
theorem be_can (x n : Int) (hn : 1100 ≤ n ∧ n ≤ 3000) : (CanD (beD x n) ∧ -4000 ≤ (beD x n).2.2) ∧ (CanD (abD x n) ∧ -4000 ≤ (abD x n).2.2) := by
 have hm := mid_can x
 have hp := pw_is n
 have c1 : CanD (pwD n) := by rw [hp]; exact .inr rfl
 have c2 : CanD (negD (pwD n)) := by rw [hp]; exact .inr rfl
 refine ⟨⟨sum_canP hm.1 c2, ?_⟩, ⟨sum_canP hm.1 c1, ?_⟩⟩
 ·refine Int.le_trans (show -4000 ≤ -3000 by decide) (sum_low _ _ (-3000) (by decide) (by omega) ?_)
  rw [hp]; show -3000 ≤ -n; omega
 ·refine Int.le_trans (show -4000 ≤ -3000 by decide) (sum_low _ _ (-3000) (by decide) (by omega) ?_)
  rw [hp]; show -3000 ≤ -n; omega
theorem ar1 (P H Q B : Nat) (e : H = 2 * Q) (g : P + 2 * H < B) : P + Q < B := by omega
theorem ar2 (P H Q R B : Nat) (e : H = 2 * Q) (s : R < Q) (g : P + 2 * H < B) : P + (Q + R) < B := by omega
theorem ar3 (P H Q R B : Nat) (e : H = 2 * Q) (g : P + 2 * H < B) : P + (Q - R) < B := by omega
theorem ar4 (H Q : Nat) (e : H = 2 * Q) (q : 0 < Q) : Q < H ∧ ¬ H < 2 * Q := by omega
theorem ar5 (H Q R : Nat) (e : H = 2 * Q) (s : R < Q) (r : 0 < R) : Q + R < H ∧ 0 < Q + R ∧ H < 2 * (Q + R) ∧ Q - R < H ∧ 0 < Q - R ∧ ¬ H < 2 * (Q - R) ∧ H ≠ 2 * (Q - R) := by omega
theorem three (x n : Int) (ux : U x) (hx : finB x = true) (hn : 1100 ≤ n ∧ n ≤ 3000) :
  rightB (midQ x).2.1 (midQ x).2.2 = true ∧ rightB (beD x n).2.1 (beD x n).2.2 = true ∧ rightB (abD x n).2.1 (abD x n).2.2 = true ∧ exactB (midQ x).2.1 (midQ x).2.2 = false ∧
  nbR (abD x n).1 (abD x n).2.1 (abD x n).2.2 = upV x ∧ (nbR (beD x n).1 (beD x n).2.1 (beD x n).2.2 = x ∨ (x = 9223372036854775808 ∧ nbR (beD x n).1 (beD x n).2.1 (beD x n).2.2 = 0)) ∧
  (nbR (midQ x).1 (midQ x).2.1 (midQ x).2.2 = nbR (beD x n).1 (beD x n).2.1 (beD x n).2.2 ∨ nbR (midQ x).1 (midQ x).2.1 (midQ x).2.2 = nbR (abD x n).1 (abD x n).2.1 (abD x n).2.2) ∧ nbR (midQ x).1 (midQ x).2.1 (midQ x).2.2 % 2 = 0 := by
 obtain ⟨K, hK⟩ : ∃ K : Nat, K = 32768 := ⟨_, rfl⟩
 obtain ⟨b1, b2⟩ := be_val x n K hK hn
 obtain ⟨m1, m2⟩ := mid_val x ux hx K hK
 obtain ⟨⟨cb, lb⟩, ⟨ca, la⟩⟩ := be_can x n hn
 obtain ⟨cm, lm⟩ := mid_can x
 have hf : x % 9223372036854775808 < 9218868437227405312 := by unfold finB at hx; simpa using hx
 obtain ⟨p1, p2⟩ := up_val x ux hx K hK
 obtain ⟨u0, u1⟩ := ux
 have main : ∀ V : Int, 0 ≤ V → V < 9218868437227405312 → ∃ c k : Nat, c = cC V ∧ k = cK V ∧ c < 9007199254740992 ∧ (k = 0 ∨ 4503599627370496 ≤ c) ∧ k ≤ 2045 ∧ V = (k : Int) * 4503599627370496 + (c : Int) := fun V a b => ⟨_, _, rfl, rfl, cell_facts V a b⟩
 have small : ∀ k : Nat, 2 ^ (K - n.toNat) < 2 ^ (k + (K - 1075)) := fun k => Nat.pow_lt_pow_right (by decide) (by omega)
 have great : ∀ c k : Nat, c < 9007199254740992 → k ≤ 2045 → (c + 2) * 2 ^ (k + (K - 1074)) < 2 ^ (K + 2000) := fun c k hc hk => by
  have h1 : c + 2 < 2 ^ 54 := Nat.lt_of_lt_of_le (show c + 2 < 9007199254740994 by omega) (by decide)
  have h2 : (c + 2) * 2 ^ (k + (K - 1074)) < 2 ^ 54 * 2 ^ (k + (K - 1074)) := Nat.mul_lt_mul_of_pos_right h1 (Nat.two_pow_pos _)
  rw [← Nat.pow_add] at h2
  exact Nat.lt_of_lt_of_le h2 (Nat.pow_le_pow_right (by decide) (by omega))
 by_cases h : 9223372036854775808 < x
 ·have hm := m2 h
  obtain ⟨q1, -⟩ := p2 h
  obtain ⟨c, k, e1, e2, hc, hk, hk2, hV⟩ := main (x % 9223372036854775808 - 1) (by omega) (by omega)
  rw [← e1, ← e2] at hm
  have ph := pow_halfR k K hK
  have sm := small k
  obtain ⟨r1, r2⟩ := ar4 _ _ ph (Nat.two_pow_pos _)
  obtain ⟨s1, s2, s3, s4, s5, s6, s7⟩ := ar5 _ _ _ ph sm (Nat.two_pow_pos _)
  have gr := great c k hc hk2
  rw [hm] at b1 b2
  have e3 : (c + 2) * 2 ^ (k + (K - 1074)) = c * 2 ^ (k + (K - 1074)) + 2 * 2 ^ (k + (K - 1074)) := Nat.add_mul _ _ _
  rw [e3] at gr
  have vb := two_c _ _ _ _ b1
  have va := two_d _ _ _ _ b2 sm
  have rm := right_val (midQ x) cm K hK (by omega) (abs_b _ _ _ hm (ar1 _ _ _ _ ph gr))
  have rb := right_val (beD x n) cb K hK lb (abs_b _ _ _ vb (ar2 _ _ _ _ _ ph sm gr))
  have ra := right_val (abD x n) ca K hK la (abs_b _ _ _ va (ar3 _ _ _ _ _ ph gr))
  obtain ⟨-, nm, xm⟩ := cell_neg (midQ x) rm K hK c k _ hc hk hk2 r1 (Nat.two_pow_pos _) hm
  obtain ⟨-, nb, -⟩ := cell_neg (beD x n) rb K hK c k _ hc hk hk2 s1 s2 vb
  obtain ⟨-, na, -⟩ := cell_neg (abD x n) ra K hK c k _ hc hk hk2 s4 s5 va
  rw [decide_eq_false r2, beq_iff_eq.2 ph, Bool.false_or, Bool.true_and] at nm
  rw [decide_eq_true s3, Bool.true_or, Bool.toNat_true] at nb
  have hp := Nat.two_pow_pos (K - n.toNat)
  rw [decide_eq_false s6, beq_eq_false_iff_ne.2 s7, Bool.false_or, Bool.false_and, Bool.toNat_false] at na
  clear b1 b2 m1 m2 p1 p2 ph sm gr e3 vb va hm r1 r2 s1 s2 s3 s4 s5 s6 s7 hp
  refine ⟨rm, rb, ra, xm, ?_, .inl ?_, ?_, ?_⟩
  ·rw [na, q1]; unfold negV; omega
  ·rw [nb]; unfold negV; omega
  ·by_cases od : c % 2 = 1
   ·left; rw [nm, nb, beq_iff_eq.2 od, Bool.toNat_true]
   ·right; rw [nm, na, beq_eq_false_iff_ne.2 od, Bool.toNat_false]
  ·rw [nm]
   by_cases od : c % 2 = 1
   ·rw [beq_iff_eq.2 od, Bool.toNat_true]; unfold negV; omega
   ·rw [beq_eq_false_iff_ne.2 od, Bool.toNat_false]; unfold negV; omega
 ·have hm := m1 h
  obtain ⟨q1, -⟩ := p1 h
  obtain ⟨c, k, e1, e2, hc, hk, hk2, hV⟩ := main (x % 9223372036854775808) (by omega) (by omega)
  rw [(cell_mod x).1] at e1
  rw [(cell_mod x).2] at e2
  rw [← e1, ← e2] at hm
  have ph := pow_halfR k K hK
  have sm := small k
  obtain ⟨r1, r2⟩ := ar4 _ _ ph (Nat.two_pow_pos _)
  obtain ⟨s1, s2, s3, s4, s5, s6, s7⟩ := ar5 _ _ _ ph sm (Nat.two_pow_pos _)
  have gr := great c k hc hk2
  rw [hm] at b1 b2
  have e3 : (c + 2) * 2 ^ (k + (K - 1074)) = c * 2 ^ (k + (K - 1074)) + 2 * 2 ^ (k + (K - 1074)) := Nat.add_mul _ _ _
  rw [e3] at gr
  have vb := two_a _ _ _ _ b1 sm
  have va := two_b _ _ _ _ b2
  have rm := right_val (midQ x) cm K hK (by omega) (abs_a _ _ _ hm (ar1 _ _ _ _ ph gr))
  have rb := right_val (beD x n) cb K hK lb (abs_a _ _ _ vb (ar3 _ _ _ _ _ ph gr))
  have ra := right_val (abD x n) ca K hK la (abs_a _ _ _ va (ar2 _ _ _ _ _ ph sm gr))
  obtain ⟨-, nm, xm⟩ := cell_pos (midQ x) rm K hK c k _ hc hk hk2 r1 (Nat.two_pow_pos _) hm
  obtain ⟨-, nb, -⟩ := cell_pos (beD x n) rb K hK c k _ hc hk hk2 s4 s5 vb
  obtain ⟨-, na, -⟩ := cell_pos (abD x n) ra K hK c k _ hc hk hk2 s1 s2 va
  rw [decide_eq_false r2, beq_iff_eq.2 ph, Bool.false_or, Bool.true_and] at nm
  have hp := Nat.two_pow_pos (K - n.toNat)
  rw [decide_eq_true s3, Bool.true_or, Bool.toNat_true] at na
  rw [decide_eq_false s6, beq_eq_false_iff_ne.2 s7, Bool.false_or, Bool.false_and, Bool.toNat_false] at nb
  clear b1 b2 m1 m2 p1 p2 ph sm gr e3 vb va hm r1 r2 s1 s2 s3 s4 s5 s6 s7 hp
  refine ⟨rm, rb, ra, xm, ?_, ?_, ?_, ?_⟩
  ·rw [na, q1]; omega
  ·by_cases w : x = 9223372036854775808
   ·right; refine ⟨w, ?_⟩; rw [nb]; omega
   ·left; rw [nb]; omega
  ·by_cases od : c % 2 = 1
   ·right; rw [nm, na, beq_iff_eq.2 od, Bool.toNat_true]
   ·left; rw [nm, nb, beq_eq_false_iff_ne.2 od, Bool.toNat_false]
  ·rw [nm]
   by_cases od : c % 2 = 1
   ·rw [beq_iff_eq.2 od, Bool.toNat_true]; omega
   ·rw [beq_eq_false_iff_ne.2 od, Bool.toNat_false]; omega
end Go.Proofs.YtionhpedghmecaaGreatDoor

/- Rounding a dyadic number to the nearest binary64, in numbers: what the program's quarters tell and what the document's cut comes to are one. Numbers in units, and how many bits their roots have (pure). -/
import Derived.Test.YtionhpedghmecaaGreatDoorTMB
import Derived.Test.YtionhpedghmecaaGreatDoorAPX

namespace Go.Proofs.YtionhpedghmecaaGreatDoor
open Go.RowKit
def fl2 (m : Nat) (k : Int) : Nat := if k ≤ 0 then m * 2 ^ (-k).toNat else m / 2 ^ k.toNat
def ls2 (m : Nat) (k : Int) : Bool := if k ≤ 0 then false else lostB m k.toNat
def half2 (m : Nat) (k : Int) : Bool := if k ≤ 0 then false else m.testBit (k.toNat - 1)
def over2 (m : Nat) (k : Int) : Bool := if k ≤ 0 then false else lostB m (k.toNat - 1)
def up2 (m : Nat) (k : Int) : Bool := half2 m k && (over2 m k || decide (fl2 m k % 2 = 1))
def rd2 (m : Nat) (k : Int) : Nat := fl2 m k + (up2 m k).toNat
def more2 (m : Nat) (k : Int) : Nat := if ls2 m (k - 2) = true then (fl2 m (k - 2) % 4) ||| 1 else fl2 m (k - 2) % 4
theorem mod_succ (m n : Nat) : m % 2 ^ (n + 1) = m % 2 ^ n + 2 ^ n * (m / 2 ^ n % 2) := Nat.mod_pow_succ
theorem div_succ (m n : Nat) : m / 2 ^ (n + 1) = m / 2 ^ n / 2 := by rw [Nat.pow_succ, Nat.div_div_eq_div_mul]
theorem lost_succ (m n : Nat) : lostB m (n + 1) = (lostB m n || decide (m / 2 ^ n % 2 = 1)) := by
 unfold lostB
 rw [mod_succ]
 have := Nat.two_pow_pos n
 have h2 : m / 2 ^ n % 2 = 0 ∨ m / 2 ^ n % 2 = 1 := by omega
 rcases h2 with h | h
 ·rw [h]; simp
 ·rw [h]
  have : m % 2 ^ n + 2 ^ n * 1 ≠ 0 := by omega
  rw [decide_eq_true this]; simp
theorem bit_div (m n : Nat) : m.testBit n = decide (m / 2 ^ n % 2 = 1) := Nat.testBit_eq_decide_div_mod_eq
theorem four_or (q : Nat) (h : q < 4) : q ||| 1 = q / 2 * 2 + 1 := by
 have : q = 0 ∨ q = 1 ∨ q = 2 ∨ q = 3 := by omega
 rcases this with e | e | e | e <;> (rw [e]; decide)
theorem more_half (m : Nat) (k : Int) : more2 m k = 2 * (half2 m k).toNat + (over2 m k).toNat := by
 by_cases h0 : k ≤ 0
 ·unfold more2 ls2 half2 over2 fl2
  rw [if_pos (show k - 2 ≤ 0 by omega), if_pos (show k - 2 ≤ 0 by omega), if_pos h0, if_pos h0, if_neg (by decide)]
  rw [show (-(k - 2)).toNat = (-k).toNat + 2 by omega, Nat.pow_add, ← Nat.mul_assoc]
  simp
 ·by_cases h1 : k = 1
  ·subst h1
   unfold more2 ls2 half2 over2 fl2
   rw [if_pos (show (1 : Int) - 2 ≤ 0 by decide), if_pos (show (1 : Int) - 2 ≤ 0 by decide), if_neg (by decide), if_neg (by decide), if_neg (by decide)]
   rw [show (-(1 - 2) : Int).toNat = 1 by decide, show (1 : Int).toNat - 1 = 0 by decide, bit_div]
   have : lostB m 0 = false := by unfold lostB; simp [Nat.mod_one]
   rw [this, Nat.pow_zero, Nat.div_one]
   have h2 : m % 2 = 0 ∨ m % 2 = 1 := by omega
   rcases h2 with h | h <;> rw [h] <;> simp <;> omega
  ·obtain ⟨n, hn⟩ : ∃ n : Nat, k = (n : Int) + 2 := ⟨(k - 2).toNat, by omega⟩
   subst hn
   have e2 : half2 m ((n : Int) + 2) = decide (m / 2 ^ n / 2 % 2 = 1) := by
    unfold half2
    rw [if_neg h0, show ((n : Int) + 2).toNat - 1 = n + 1 by omega, bit_div, div_succ]
   have e3 : over2 m ((n : Int) + 2) = (lostB m n || decide (m / 2 ^ n % 2 = 1)) := by
    unfold over2
    rw [if_neg h0, show ((n : Int) + 2).toNat - 1 = n + 1 by omega, lost_succ]
   have e1 : ls2 m ((n : Int) + 2 - 2) = lostB m n := by
    unfold ls2
    by_cases hz : n = 0
    ·subst hz
     rw [if_pos (by decide)]
     unfold lostB; simp [Nat.mod_one]
    ·rw [if_neg (by omega), show ((n : Int) + 2 - 2).toNat = n by omega]
   have e4 : fl2 m ((n : Int) + 2 - 2) = m / 2 ^ n := by
    unfold fl2
    by_cases hz : n = 0
    ·subst hz
     rw [if_pos (by decide), show (-((0 : Nat) + 2 - 2 : Int)).toNat = 0 by decide]
     simp
    ·rw [if_neg (by omega), show ((n : Int) + 2 - 2).toNat = n by omega]
   unfold more2
   rw [e1, e2, e3, e4]
   generalize m / 2 ^ n = q
   cases lostB m n with
   | true =>
    rw [if_pos rfl, four_or _ (Nat.mod_lt _ (by decide)), Bool.true_or]
    by_cases h : q / 2 % 2 = 1
    ·rw [decide_eq_true h]; simp only [Bool.toNat_true]; omega
    ·rw [decide_eq_false h]; simp only [Bool.toNat_true, Bool.toNat_false]; omega
   | false =>
    rw [if_neg (by decide), Bool.false_or]
    by_cases h : q / 2 % 2 = 1
    ·rw [decide_eq_true h]
     by_cases g : q % 2 = 1
     ·rw [decide_eq_true g]; simp only [Bool.toNat_true]; omega
     ·rw [decide_eq_false g]; simp only [Bool.toNat_true, Bool.toNat_false]; omega
    ·rw [decide_eq_false h]
     by_cases g : q % 2 = 1
     ·rw [decide_eq_true g]; simp only [Bool.toNat_true, Bool.toNat_false]; omega
     ·rw [decide_eq_false g]; simp only [Bool.toNat_false]; omega
theorem fl_four (m : Nat) (k : Int) : fl2 m (k - 2) / 4 = fl2 m k := by
 unfold fl2
 by_cases h0 : k ≤ 0
 ·rw [if_pos (by omega), if_pos h0, show (-(k - 2)).toNat = (-k).toNat + 2 by omega, Nat.pow_add, ← Nat.mul_assoc]
  omega
 ·rw [if_neg h0]
  by_cases h1 : k = 1
  ·subst h1
   rw [if_pos (by decide), show (-(1 - 2) : Int).toNat = 1 by decide, show (1 : Int).toNat = 1 by decide]
   omega
  ·by_cases h2 : k = 2
   ·subst h2
    rw [if_pos (by decide), show (-(2 - 2) : Int).toNat = 0 by decide, show (2 : Int).toNat = 2 by decide]
    omega
   ·rw [if_neg (by omega), Nat.div_div_eq_div_mul, show k.toNat = (k - 2).toNat + 2 by omega, Nat.pow_add]
theorem more_zero (m : Nat) (k : Int) : more2 m k = 0 ↔ ls2 m k = false := by
 rw [more_half]
 unfold half2 over2 ls2
 by_cases h0 : k ≤ 0
 ·rw [if_pos h0, if_pos h0, if_pos h0]; simp
 ·rw [if_neg h0, if_neg h0, if_neg h0]
  obtain ⟨n, hn⟩ : ∃ n : Nat, k.toNat = n + 1 := ⟨k.toNat - 1, by omega⟩
  rw [hn, show n + 1 - 1 = n by omega, lost_succ, bit_div]
  cases lostB m n <;> cases decide (m / 2 ^ n % 2 = 1) <;> simp
theorem fl_lt (m b : Nat) (k : Int) (h : (blen m : Int) ≤ b + k) : fl2 m k < 2 ^ b := by
 unfold fl2
 have hm := lt_blen m
 by_cases h0 : k ≤ 0
 ·rw [if_pos h0]
  have e : 2 ^ b = 2 ^ (b - (-k).toNat) * 2 ^ (-k).toNat := by rw [← Nat.pow_add]; congr 1; omega
  rw [e]
  refine Nat.mul_lt_mul_of_pos_right ?_ (Nat.two_pow_pos _)
  exact Nat.lt_of_lt_of_le hm (Nat.pow_le_pow_right (by decide) (by omega))
 ·rw [if_neg h0]
  rw [Nat.div_lt_iff_lt_mul (Nat.two_pow_pos _), ← Nat.pow_add]
  exact Nat.lt_of_lt_of_le hm (Nat.pow_le_pow_right (by decide) (by omega))
theorem fl_ge (m b : Nat) (k : Int) (h0 : m ≠ 0) (h : (b : Int) + k + 1 ≤ blen m) : 2 ^ b ≤ fl2 m k := by
 unfold fl2
 have hm := blen_ge m h0
 have hb : blen m ≠ 0 := fun q => h0 ((blen_nil m).1 q)
 by_cases hk : k ≤ 0
 ·rw [if_pos hk]
  refine Nat.le_trans ?_ (Nat.mul_le_mul_right _ hm)
  rw [← Nat.pow_add]
  exact Nat.pow_le_pow_right (by decide) (by omega)
 ·rw [if_neg hk]
  rw [Nat.le_div_iff_mul_le (Nat.two_pow_pos _), ← Nat.pow_add]
  exact Nat.le_trans (Nat.pow_le_pow_right (by decide) (by omega)) hm
def tpI (m : Nat) (e : Int) : Int := e + (blen m : Int) - 1
def lsI (m : Nat) (e : Int) : Int := if tpI m e - 52 < -1074 then -1074 else tpI m e - 52
def nearW (m : Nat) (e : Int) : Int := if m = 0 then 0 else if 1024 ≤ tpI m e then 9218868437227405312 else (lsI m e + 1074) * 4503599627370496 + (rd2 m (lsI m e - e) : Int)
def exactB (m : Nat) (e : Int) : Bool := if m = 0 then true else if 1024 ≤ tpI m e then false else !ls2 m (lsI m e - e)
theorem ls_low (m : Nat) (e : Int) : -1074 ≤ lsI m e := by unfold lsI; split <;> omega
theorem ls_top (m : Nat) (e : Int) (h : tpI m e < 1024) : lsI m e ≤ 971 := by unfold lsI; split <;> omega
theorem ls_bits (m : Nat) (e : Int) : (blen m : Int) ≤ 53 + (lsI m e - e) := by unfold lsI tpI; split <;> omega
theorem M_lt (m : Nat) (e : Int) : fl2 m (lsI m e - e) < 9007199254740992 := by
 have := fl_lt m 53 (lsI m e - e) (ls_bits m e)
 exact this
theorem M_ge (m : Nat) (e : Int) (h0 : m ≠ 0) (h : -1074 < lsI m e) : 4503599627370496 ≤ fl2 m (lsI m e - e) := by
 have := fl_ge m 52 (lsI m e - e) h0 (by unfold lsI tpI at *; split at h <;> (try split) <;> omega)
 exact this
theorem cnt_lt (m : Nat) (e : Int) : fl2 m (lsI m e - e - 2) < 36028797018963968 := by
 have := fl_lt m 55 (lsI m e - e - 2) (by have := ls_bits m e; omega)
 exact this
theorem nearW_bd (m : Nat) (e : Int) : 0 ≤ nearW m e ∧ nearW m e ≤ 9218868437227405312 := by
 unfold nearW
 split
 ·omega
 ·split
  ·omega
  ·rename_i h1 h2
   have a1 := ls_low m e
   have a2 := ls_top m e (by omega)
   have a3 := M_lt m e
   unfold rd2
   have : (up2 m (lsI m e - e)).toNat ≤ 1 := Bool.toNat_le _
   omega
theorem choose_rd (m : Nat) (k : Int) : (more2 m k < 2 → rd2 m k = fl2 m k) ∧ (2 < more2 m k → rd2 m k = fl2 m k + 1) ∧ (more2 m k = 2 → rd2 m k = fl2 m k + fl2 m k % 2) := by
 rw [more_half]
 unfold rd2 up2
 have h2 : fl2 m k % 2 = 0 ∨ fl2 m k % 2 = 1 := by omega
 rcases h2 with h | h <;> rw [h] <;> cases half2 m k <;> cases over2 m k <;> simp
def nearB (s : Bool) (m : Nat) (e : Int) : Int := if (s && decide (m ≠ 0)) = true then negV (nearW m e) else nearW m e
def agP (m : Nat) (i : Int) : Nat := m * 2 ^ i.toNat
def agQ (i : Int) : Nat := 2 ^ (-i).toNat
def agA (m : Nat) (i : Int) : Nat := agP m i / agQ i
def agL (m : Nat) (i : Int) : Bool := decide (agP m i % agQ i ≠ 0)
theorem ag_neg {m : Nat} {i : Int} (h : i < 0) (hg : greatB m = false) : shrE m (-i) = 0 ∧ shrQ m (-i) = agA m i ∧ shrL m (-i) = agL m i := by
 obtain ⟨j, hj⟩ : ∃ j : Nat, -i = (j : Int) := ⟨(-i).toNat, by omega⟩
 have e : agP m i = m := by unfold agP; rw [show i.toNat = 0 by omega, Nat.pow_zero, Nat.mul_one]
 have e2 : agQ i = 2 ^ j := by unfold agQ; rw [hj, Int.toNat_natCast]
 rw [hj]
 obtain ⟨a, b, c⟩ := shr_fit (j := j) hg
 refine ⟨a, ?_, ?_⟩
 ·rw [b]; unfold agA; rw [e, e2]
 ·rw [c]; unfold agL lostB; rw [e, e2]
theorem ag_pos {m : Nat} {i : Int} (h : 0 ≤ i) (hg : greatB m = false) (h0 : m ≠ 0) (hf : i ≤ 65536 - (blen m : Int)) : shlR m i = (agA m i, 0) ∧ agL m i = false := by
 have e2 : agQ i = 1 := by unfold agQ; rw [show (-i).toNat = 0 by omega, Nat.pow_zero]
 refine ⟨?_, by unfold agL; rw [e2, Nat.mod_one]; rfl⟩
 rw [shlR_fit hg h h0 hf]; unfold agA agP; rw [e2, Nat.div_one]
def agN (k : Nat) (tp : Int) : Int := 64 * (k : Int) - tp - (64 * (k : Int) - tp).tmod k
def agX (k : Nat) (tp : Int) : Int := (-(agN k tp)).tdiv k
theorem agN_bd (k : Nat) (tp : Int) (hk : 0 < k) : 64 * (k : Int) - tp - agN k tp < k ∧ -(k : Int) < 64 * (k : Int) - tp - agN k tp := by
 have h1 : (64 * (k : Int) - tp).tmod k < k := Int.tmod_lt_of_pos _ (by omega)
 have h2 : -(k : Int) < (64 * (k : Int) - tp).tmod k := Int.lt_tmod_of_pos _ (by omega)
 unfold agN
 omega
theorem agX_mul (k : Nat) (tp : Int) : (k : Int) * agX k tp = - agN k tp := by
 unfold agX agN
 have h := Int.mul_tdiv_add_tmod (64 * (k : Int) - tp) k
 have hd : (k : Int) ∣ -(64 * (k : Int) - tp - (64 * (k : Int) - tp).tmod k) := ⟨-((64 * (k : Int) - tp).tdiv k), by rw [Int.mul_neg]; omega⟩
 exact Int.mul_tdiv_cancel' hd
theorem agA_blen (m : Nat) (i : Int) (h0 : m ≠ 0) (h : 0 < (blen m : Int) + i) : (blen (agA m i) : Int) = (blen m : Int) + i := by
 unfold agA agP agQ
 by_cases q : 0 ≤ i
 ·rw [show (-i).toNat = 0 by omega, Nat.pow_zero, Nat.div_one, blen_mul _ _ h0]
  omega
 ·rw [show i.toNat = 0 by omega, Nat.pow_zero, Nat.mul_one]
  have hn : m / 2 ^ (-i).toNat ≠ 0 := by
   have g := blen_ge m h0
   have : 2 ^ (-i).toNat ≤ m := Nat.le_trans (Nat.pow_le_pow_right (by decide) (by omega)) g
   have := Nat.div_pos this (Nat.two_pow_pos _)
   omega
  have := blen_cell m (-i).toNat hn
  omega
theorem rt_bd (k A : Nat) (hk : 0 < k) (h1 : 53 * k < blen A) (h2 : blen A ≤ 66 * k) : 2 ^ 53 ≤ rt k A ∧ blen (rt k A) ≤ 66 ∧ rt k A ≠ 0 := by
 have hA : A ≠ 0 := fun q => by rw [q, blen_zero] at h1; omega
 have a1 : 2 ^ 53 ≤ rt k A := by
  have hs := (rt_spec k A hk).2
  rcases Nat.lt_or_ge (rt k A) (2 ^ 53) with q | q
  ·exfalso
   have q2 : (rt k A + 1) ^ k ≤ (2 ^ 53) ^ k := Nat.pow_le_pow_left q k
   rw [← Nat.pow_mul] at q2
   have := blen_ge A hA
   have := Nat.pow_le_pow_right (show 0 < 2 by decide) (show 53 * k ≤ blen A - 1 by omega)
   omega
  ·exact q
 refine ⟨a1, (blen_le _ _).2 ?_, by have := Nat.two_pow_pos 53; omega⟩
 have hs := (rt_spec k A hk).1
 have hl := lt_blen A
 rcases Nat.lt_or_ge (rt k A) (2 ^ 66) with q | q
 ·exact q
 ·exfalso
  have q2 : (2 ^ 66) ^ k ≤ rt k A ^ k := Nat.pow_le_pow_left q k
  rw [← Nat.pow_mul] at q2
  have := Nat.pow_le_pow_right (show 0 < 2 by decide) h2
  omega
def ansI (k m : Nat) (e : Int) : Int := e + agN k (tpI m e)
def ansK (k A : Nat) (L : Bool) : Bool := L || decide (A - rt k A ^ k ≠ 0)
def ansM (k m : Nat) (e : Int) : Nat := skA (rt k (agA m (ansI k m e))) (ansK k (agA m (ansI k m e)) (agL m (ansI k m e)))
def ansE (k m : Nat) (e : Int) : Int := agX k (tpI m e) - 1
def invI (m : Nat) (e : Int) : Int := agN 2 (-(tpI m e)) - e
def invA (m : Nat) (e : Int) : Nat := 2 ^ (invI m e).toNat / m
def invL (m : Nat) (e : Int) : Bool := decide (2 ^ (invI m e).toNat % m ≠ 0)
def invM (m : Nat) (e : Int) : Nat := skA (rt 2 (invA m e)) (ansK 2 (invA m e) (invL m e))
def invE (m : Nat) (e : Int) : Int := agX 2 (-(tpI m e)) - 1
theorem ansI_bd (k m : Nat) (e : Int) (hk : k = 2 ∨ k = 3) : 64 * (k : Int) + 1 - k < (blen m : Int) + ansI k m e ∧ (blen m : Int) + ansI k m e < 64 * (k : Int) + 1 + k := by
 have := agN_bd k (tpI m e) (by omega)
 unfold ansI
 unfold tpI at *
 omega
theorem ansA_bd (k m : Nat) (e : Int) (hk : k = 2 ∨ k = 3) (h0 : m ≠ 0) : 53 * k < blen (agA m (ansI k m e)) ∧ blen (agA m (ansI k m e)) ≤ 66 * k := by
 have h := ansI_bd k m e hk
 have := agA_blen m (ansI k m e) h0 (by omega)
 omega
theorem invI_bd (m : Nat) (e : Int) : 125 < invI m e - (blen m : Int) ∧ invI m e - (blen m : Int) < 129 := by
 have := agN_bd 2 (-(tpI m e)) (by omega)
 unfold invI
 unfold tpI at *
 omega
theorem invA_bd (m : Nat) (e : Int) (h0 : m ≠ 0) : 53 * 2 < blen (invA m e) ∧ blen (invA m e) ≤ 66 * 2 := by
 have h := invI_bd m e
 have hb : blen m ≠ 0 := fun q => h0 ((blen_nil m).1 q)
 have l1 := lt_blen m
 have l2 := blen_ge m h0
 unfold invA
 have hp : 0 < m := by omega
 constructor
 ·rcases Nat.lt_or_ge (53 * 2) (blen (2 ^ (invI m e).toNat / m)) with q | q
  ·exact q
  ·exfalso
   have q2 := (blen_le _ _).1 q
   rw [Nat.div_lt_iff_lt_mul hp] at q2
   have q3 : 2 ^ (53 * 2) * m < 2 ^ (53 * 2) * 2 ^ blen m := Nat.mul_lt_mul_of_pos_left l1 (Nat.two_pow_pos _)
   rw [← Nat.pow_add] at q3
   have := Nat.pow_le_pow_right (show 0 < 2 by decide) (show 53 * 2 + blen m ≤ (invI m e).toNat by omega)
   omega
 ·refine (blen_le _ _).2 ?_
  rw [Nat.div_lt_iff_lt_mul hp]
  refine Nat.lt_of_lt_of_le ?_ (Nat.mul_le_mul_left _ l2)
  rw [← Nat.pow_add]
  exact Nat.pow_lt_pow_right (by decide) (by omega)
theorem skA_blen {s : Nat} (mk : Bool) (h : blen s ≤ 66) : blen (skA s mk) ≤ 67 := by
 have h1 := (blen_le _ _).1 h
 refine (blen_le _ _).2 ?_
 unfold skA
 have := Bool.toNat_le mk
 have e : (2 : Nat) ^ 67 = 2 * 2 ^ 66 := rfl
 omega
theorem sk_right {s : Nat} (mk : Bool) (E : Int) (h : blen s ≤ 66) (h1 : -32768 ≤ E) (h2 : E ≤ 32768) : rightB (skA s mk) E = true := by
 have := skA_blen mk h
 unfold rightB inB
 rw [(great_not _).2 (by omega)]
 simp
 omega
theorem agX_bd (k : Nat) (tp : Int) (hk : k = 2 ∨ k = 3) (ht : -5000 ≤ tp ∧ tp ≤ 5000) : -6000 ≤ agX k tp ∧ agX k tp ≤ 6000 := by
 have h1 := agN_bd k tp (by omega)
 have h2 := agX_mul k tp
 rcases hk with q | q <;> subst q <;> omega
theorem ansM_c (k m : Nat) (e : Int) (i : Int) (A r : Nat) (hk : 0 < k) (hi : ansI k m e = i) (hA : agA m i = A) (h1 : r ^ k ≤ A) (h2 : A < (r + 1) ^ k) : ansM k m e = skA r (agL m i || decide (A - r ^ k ≠ 0)) := by
 unfold ansM ansK
 rw [hi, hA, ← rt_unique hk h1 h2]
theorem invM_c (m : Nat) (e : Int) (A r : Nat) (hA : invA m e = A) (h1 : r ^ 2 ≤ A) (h2 : A < (r + 1) ^ 2) : invM m e = skA r (invL m e || decide (A - r ^ 2 ≠ 0)) := by
 unfold invM ansK
 rw [hA, ← rt_unique (by decide) h1 h2]
end Go.Proofs.YtionhpedghmecaaGreatDoor

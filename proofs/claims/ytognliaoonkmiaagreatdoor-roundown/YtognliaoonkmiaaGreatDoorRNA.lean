/- Package ulpref05: near as one; Near and Tiny; program and document round alike. -/
import Derived.Test.YtognliaoonkmiaaGreatDoorRN9
import Derived.Test.YtognliaoonkmiaaGreatDoorRNV
namespace Go.Proofs.YtognliaoonkmiaaGreatDoor
open Go.RowKit

def flD (m : Nat) (e : Int) : Int := if m = 0 then 0 else if nearW m e = 9218868437227405312 then 20 else if exactB m e = true then 0 else if tinyQ m e = true then 24 else 16
theorem rd_top (m : Nat) (e : Int) : rd2 m (lsI m e - e) ≤ 9007199254740992 := by
  have := M_lt m e
  unfold rd2
  have : (up2 m (lsI m e - e)).toNat ≤ 1 := Bool.toNat_le _
  omega
theorem up_lost (m : Nat) (k : Int) (h : ls2 m k = false) : up2 m k = false := by
  have := (more_zero m k).2 h
  rw [more_half] at this
  unfold up2
  cases hh : half2 m k with
  | false => rfl
  | true => rw [hh] at this; simp at this
theorem put_one (m : Nat) (e : Int) (h0 : m ≠ 0) (h1 : tpI m e < 1024) (h : ¬ 53 < blen (rd2 m (lsI m e - e))) : putV (rd2 m (lsI m e - e)) (lsI m e) = nearW m e ∧ nearW m e ≠ 9218868437227405312 := by
  have a1 := ls_low m e
  have a2 := ls_top m e h1
  have hq : rd2 m (lsI m e - e) < 9007199254740992 := (blen_le _ 53).1 (by omega)
  have hge : lsI m e = -1074 ∨ 4503599627370496 ≤ rd2 m (lsI m e - e) := by
    by_cases q : lsI m e = -1074
    · exact .inl q
    · right
      have := M_ge m e h0 (by omega)
      unfold rd2
      omega
  have hn : nearW m e = (lsI m e + 1074) * 4503599627370496 + (rd2 m (lsI m e - e) : Int) := by unfold nearW; rw [if_neg h0, if_neg (by omega)]
  rw [hn]
  unfold putV
  generalize rd2 m (lsI m e - e) = q at *
  generalize lsI m e = l at *
  constructor
  · by_cases c : q < 4503599627370496
    · rw [if_pos c]; omega
    · rw [if_neg c, if_neg (by omega)]; omega
  · omega
theorem put_two (m : Nat) (e : Int) (h0 : m ≠ 0) (h1 : tpI m e < 1024) (h : 53 < blen (rd2 m (lsI m e - e))) : putV (rd2 m (lsI m e - e) / 2) (lsI m e + 1) = nearW m e ∧ ls2 m (lsI m e - e) = true := by
  have a1 := ls_low m e
  have a2 := ls_top m e h1
  have hq := rd_top m e
  have hq2 : rd2 m (lsI m e - e) = 9007199254740992 := by
    have : ¬ rd2 m (lsI m e - e) < 9007199254740992 := fun q => by
      have : blen (rd2 m (lsI m e - e)) ≤ 53 := (blen_le _ 53).2 q
      omega
    omega
  have hn : nearW m e = (lsI m e + 1074) * 4503599627370496 + (rd2 m (lsI m e - e) : Int) := by unfold nearW; rw [if_neg h0, if_neg (by omega)]
  constructor
  · rw [hn, hq2]
    unfold putV
    rw [if_neg (by decide)]
    generalize lsI m e = l at *
    by_cases c : 971 < l + 1
    · rw [if_pos c]; omega
    · rw [if_neg c]; omega
  · cases hl : ls2 m (lsI m e - e) with
    | true => rfl
    | false =>
      have hu := up_lost m _ hl
      have hM := M_lt m e
      unfold rd2 at hq2
      rw [hu] at hq2
      simp at hq2
      omega
theorem near_low (m : Nat) (e : Int) (h0 : m ≠ 0) (h : tpI m e + 1 < -1074) : nearW m e = 0 ∧ exactB m e = false ∧ tinyQ m e = true := by
  have hl : lsI m e = -1074 := by unfold lsI; rw [if_pos (by omega)]
  have hb : blen m ≠ 0 := fun q => h0 ((blen_nil _).1 q)
  unfold tpI at h
  obtain ⟨n, hn⟩ : ∃ n : Nat, -1074 - e = (n : Int) + 1 := ⟨(-1074 - e - 1).toNat, by omega⟩
  have hm : m < 2 ^ n := (blen_le _ _).1 (by omega)
  have hm2 : m < 2 ^ (n + 1) := Nat.lt_of_lt_of_le hm (Nat.pow_le_pow_right (by decide) (by omega))
  refine ⟨?_, ?_, ?_⟩
  · unfold nearW
    rw [if_neg h0, if_neg (by unfold tpI; omega), hl, hn]
    have : rd2 m ((n : Int) + 1) = 0 := by
      unfold rd2 up2 half2 fl2
      rw [if_neg (by omega), if_neg (by omega), show ((n : Int) + 1).toNat = n + 1 by omega, show n + 1 - 1 = n by omega, bit_div, Nat.div_eq_of_lt hm2, Nat.div_eq_of_lt hm]
      rfl
    rw [this]; rfl
  · unfold exactB
    rw [if_neg h0, if_neg (by unfold tpI; omega), hl, hn]
    have : ls2 m ((n : Int) + 1) = true := by
      unfold ls2 lostB
      rw [if_neg (by omega), show ((n : Int) + 1).toNat = n + 1 by omega, Nat.mod_eq_of_lt hm2]
      exact decide_eq_true h0
    rw [this]; rfl
  · unfold tinyQ
    rw [if_neg h0, if_neg (by unfold tpI; omega), if_pos (by unfold tpI; omega)]
theorem dnear_calls (s : Bool) (a : Option Addr) (len cap : Nat) (xs : List Int) (e : Int) (w : World) (h : IsW w a len cap xs) (hm : len ≤ 17592186044000) (hg : greatB (val xs) = false) (he : -32768 ≤ e ∧ e ≤ 32768) :
    Calls Tryz.prog 21 #[dyV s a len cap e] w fun r w' => r = .returned (.agg #[.int .u64 (nearB s (val xs) e), .int .u8 (flD (val xs) e)]) ∧ Below w.heap.size w w' := by
  by_cases h0 : val xs = 0
  · have e1 : nearB s (val xs) e = 0 := by unfold nearB nearW; rw [h0]; simp
    have e2 : flD (val xs) e = 0 := by unfold flD; rw [if_pos h0]
    rw [e1, e2]
    exact dn_A_000 s a len cap xs e w h hm hg he h0
  · have eN : nearB s (val xs) e = if s = true then negV (nearW (val xs) e) else nearW (val xs) e := by
      unfold nearB
      cases s <;> simp [h0]
    by_cases k1 : 1024 < tpI (val xs) e + 1
    · have n1 : nearW (val xs) e = 9218868437227405312 := by unfold nearW; rw [if_neg h0, if_pos (by omega)]
      have e2 : flD (val xs) e = 20 := by unfold flD; rw [if_neg h0, if_pos n1]
      have ht : tinyQ (val xs) e = false := inf_tiny _ _ n1
      rw [eN, n1, e2]
      exact dn_B_101 s a len cap xs e w h hm hg he h0 k1 ht
    · by_cases k2 : tpI (val xs) e + 1 < -1074
      · obtain ⟨n1, n2, n3⟩ := near_low (val xs) e h0 k2
        have e2 : flD (val xs) e = 24 := by unfold flD; rw [if_neg h0, n1, if_neg (by decide), n2, n3]; rfl
        rw [eN, n1, e2]
        exact dn_C_110 s a len cap xs e w h hm hg he h0 k2 n3
      · have hU := (near_ch (val xs) e).2.2.2
        have hx : exactB (val xs) e = !ls2 (val xs) (lsI (val xs) e - e) := by unfold exactB; rw [if_neg h0, if_neg (by omega)]
        by_cases k3 : 53 < blen (rd2 (val xs) (lsI (val xs) e - e))
        · obtain ⟨p1, p2⟩ := put_two (val xs) e h0 (by omega) k3
          by_cases hi : nearW (val xs) e = 9218868437227405312
          · have ht : tinyQ (val xs) e = false := inf_tiny _ _ hi
            have e2 : flD (val xs) e = 20 := by unfold flD; rw [if_neg h0, if_pos hi]
            rw [eN, e2]
            exact dn_D2_101 s a len cap xs e w h hm hg he h0 k1 k2 k3 p2 ht _ p1 hi hU
          · cases ht : tinyQ (val xs) e with
            | true =>
              have e2 : flD (val xs) e = 24 := by unfold flD; rw [if_neg h0, if_neg hi, hx, p2, ht]; rfl
              rw [eN, e2]
              exact dn_D2_110 s a len cap xs e w h hm hg he h0 k1 k2 k3 p2 ht _ p1 hi hU
            | false =>
              have e2 : flD (val xs) e = 16 := by unfold flD; rw [if_neg h0, if_neg hi, hx, p2, ht]; rfl
              rw [eN, e2]
              exact dn_D2_100 s a len cap xs e w h hm hg he h0 k1 k2 k3 p2 ht _ p1 hi hU
        · obtain ⟨p1, hi⟩ := put_one (val xs) e h0 (by omega) k3
          cases hl : ls2 (val xs) (lsI (val xs) e - e) with
          | false =>
            have e2 : flD (val xs) e = 0 := by unfold flD; rw [if_neg h0, if_neg hi, hx, hl]; rfl
            rw [eN, e2]
            exact dn_D1_000 s a len cap xs e w h hm hg he h0 k1 k2 k3 hl _ p1 hi hU
          | true =>
            cases ht : tinyQ (val xs) e with
            | true =>
              have e2 : flD (val xs) e = 24 := by unfold flD; rw [if_neg h0, if_neg hi, hx, hl, ht]; rfl
              rw [eN, e2]
              exact dn_D1_110 s a len cap xs e w h hm hg he h0 k1 k2 k3 hl ht _ p1 hi hU
            | false =>
              have e2 : flD (val xs) e = 16 := by unfold flD; rw [if_neg h0, if_neg hi, hx, hl, ht]; rfl
              rw [eN, e2]
              exact dn_D1_100 s a len cap xs e w h hm hg he h0 k1 k2 k3 hl ht _ p1 hi hU
theorem abs_near (s : Bool) (m : Nat) (e : Int) : absV (nearB s m e) = nearW m e := by
  have hb := nearW_bd m e
  unfold nearB absV negV
  split <;> omega
theorem tiny_both (m : Nat) (e : Int) (he : -32768 ≤ e) : tinyQ m e = (decide (m ≠ 0) && tinyP m e) := by
  by_cases h0 : m = 0
  · unfold tinyQ; rw [if_pos h0]; simp [h0]
  · rw [tiny_same m e he h0]; simp [h0]

end Go.Proofs.YtognliaoonkmiaaGreatDoor

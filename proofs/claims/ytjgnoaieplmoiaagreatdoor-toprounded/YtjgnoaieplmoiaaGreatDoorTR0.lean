/- A number of a normal size, cut to 53 bits down and up, is what it is rounded to on one of the two sides (pure). -/
import Derived.Test.YtjgnoaieplmoiaaGreatDoorROX
import Derived.Test.YtjgnoaieplmoiaaGreatDoorDEx0
namespace Go.Proofs.YtjgnoaieplmoiaaGreatDoor
open Go.RowKit

/-- a number that is rounded exactly is told as that binary64 -/
theorem to_near (s : Bool) (m : Nat) (e : Int) (hr : rightB m e = true) (h0 : m ≠ 0) (hx : exactB m e = true) : toR s m e = (nearB s m e, true) := by
  obtain ⟨K, hK⟩ : ∃ K : Nat, K = 32768 := ⟨_, rfl⟩
  have he := (rightB_yes hr).2
  have hi : nearW m e ≠ 9218868437227405312 := fun q => by
    unfold exactB at hx
    rw [if_neg h0] at hx
    split at hx
    · cases hx
    · rename_i ht
      have hl : ls2 m (lsI m e - e) = false := by simpa using hx
      obtain ⟨k, w, eW, w1, w2, k2, -⟩ : ∃ k w : Nat, nearW m e = (k : Int) * 4503599627370496 + (w : Int) ∧ w ≤ 9007199254740992 ∧ (k = 0 ∨ 4503599627370496 ≤ w) ∧ k ≤ 2045 ∧ True := by
        refine ⟨(lsI m e + 1074).toNat, rd2 m (lsI m e - e), ?_, ?_, ?_, ?_, trivial⟩
        · have := ls_low m e
          unfold nearW
          rw [if_neg h0, if_neg ht, Int.toNat_of_nonneg (by omega)]
        · have := M_lt m e
          unfold rd2
          have : (up2 m (lsI m e - e)).toNat ≤ 1 := Bool.toNat_le _
          omega
        · by_cases q : (lsI m e + 1074).toNat = 0
          · exact .inl q
          · right
            have := M_ge m e h0 (by have := ls_low m e; omega)
            unfold rd2
            omega
        · have := ls_top m e (by omega); omega
      have w3 : rd2 m (lsI m e - e) = fl2 m (lsI m e - e) := by
        have hu : up2 m (lsI m e - e) = false := by
          have h1 := (more_zero m (lsI m e - e)).2 hl
          rw [more_half] at h1
          unfold up2
          cases hh : half2 m (lsI m e - e) with
          | false => rfl
          | true => rw [hh] at h1; simp at h1
        unfold rd2
        rw [hu]
        rfl
      have := M_lt m e
      have e2 : nearW m e = (lsI m e + 1074) * 4503599627370496 + (rd2 m (lsI m e - e) : Int) := by unfold nearW; rw [if_neg h0, if_neg ht]
      have := ls_top m e (by omega)
      omega
  have uR := nearB_U s m e
  have jn := (near_num s m e).2
  have bd := nearW_bd m e
  have rn := rung_num _ uR (by rw [jn]; unfold sI; split <;> omega)
  have hf : finB (nearB s m e) = true := rn.2.2 (by rw [jn]; unfold sI; split <;> omega)
  have hz := once_flag s m e hr hf
  rw [hx] at hz
  have hz' := of_decide_eq_true hz.symm
  have ly : -32768 ≤ (fromP (nearB s m e)).2.2 := by have := (from_can (nearB s m e)).2; omega
  have ld : -32768 ≤ (formD s m e).2.2 := form_lo _ _ _ _ (by omega) (by decide)
  have hv := (far_zero _ _ K hK ly ld).1 hz'
  have eF : fromP (nearB s m e) = formD s m e := vI_inj _ _ (from_can _).1 (form_can _ _ _) (-(K : Int)) (by omega) (by omega) hv
  have eF2 : fromD (nearB s m e) = formD s m e := by rw [← eF]; unfold fromP; rw [if_pos hf]
  have hc0 : (countV (nearB s m e)).toNat ≠ 0 := fun q => by
    have hz2 : fromD (nearB s m e) = (false, 0, 0) := by unfold fromD; rw [q, form_zero]
    rw [hz2] at eF2
    have h1 : (formD s m e).2.1 = 0 := by rw [← eF2]
    rw [form_pos s h0] at h1
    have := (odd_part h0).1
    simp only at h1
    omega
  have ht := to_from (nearB s m e) uR hf
  rw [if_neg hc0, eF2] at ht
  rw [← ht]
  have hr2 : rightB (formD s m e).2.1 (formD s m e).2.2 = true := by rw [← eF]; exact from_rightO _ uR
  have h02 : (formD s m e).2.1 ≠ 0 := fun q => by
    rw [form_pos s h0] at q
    have := (odd_part h0).1
    simp only at q
    omega
  have e1 : toR s m e = if toB (formD s m e) = true then (toV (formD s m e), true) else (0, false) := by unfold toR; rw [if_neg (by rw [hr]; decide), if_neg h0]
  have e2 : toR (formD s m e).1 (formD s m e).2.1 (formD s m e).2.2 = if toB (formD s m e) = true then (toV (formD s m e), true) else (0, false) := by
    unfold toR
    rw [if_neg (by rw [hr2]; decide), if_neg h02, form_of_can (form_can _ _ _)]
  rw [e1, e2]
theorem near_at (s : Bool) (m : Nat) (e : Int) (K : Nat) (hK : K = 32768) (hr : rightB m e = true) (k c : Nat) (hc : c ≤ 9007199254740992) (hc2 : 4503599627370496 ≤ c) (hk : k ≤ 2044) (hT : m * 2 ^ (e + K).toNat = c * 2 ^ (k + (K - 1074))) : m ≠ 0 ∧ exactB m e = true ∧ nearB s m e = if s = true then negV ((k : Int) * 4503599627370496 + (c : Int)) else (k : Int) * 4503599627370496 + (c : Int) := by
  have he := (rightB_yes hr).2
  have key : nearW m e = (k : Int) * 4503599627370496 + (c : Int) ∧ exactB m e = true ∧ m ≠ 0 := by
    by_cases q : c < 9007199254740992
    · exact near_exact m e K hK he.1 c k q (.inr hc2) (by omega) hT (by omega)
    · have hc' : c = 9007199254740992 := by omega
      have := near_exact m e K hK he.1 4503599627370496 (k + 1) (by decide) (.inr (Nat.le_refl _)) (by omega) (by rw [hT, hc', show k + 1 + (K - 1074) = k + (K - 1074) + 1 by omega, Nat.pow_succ]; exact (one_more _ _ rfl).symm) (by decide)
      exact ⟨by rw [this.1, hc']; omega, this.2⟩
  refine ⟨key.2.2, key.2.1, ?_⟩
  unfold nearB
  rw [key.1]
  cases s with
  | false => rfl
  | true => rw [Bool.true_and, if_pos (decide_eq_true key.2.2)]; rfl
theorem blen_lo (m : Nat) (h : m ≠ 0) : 2 ^ (blen m - 1) ≤ m := by
  have h1 : ¬ blen m ≤ blen m - 1 := by
    have : blen m ≠ 0 := fun q => h ((blen_nil _).1 q)
    omega
  have := mt (blen_le m (blen m - 1)).2 h1
  omega
theorem cut_each (s : Bool) (A k : Nat) (F : Int) (hF : F = (k : Int) - 1074) (hk : k ≤ 2044) (h1 : 4503599627370496 ≤ A) (h2 : A ≤ 9007199254740992) :
    roomE (formD s A F) = 0 ∧ roomP (formD s A F) = formD s A F ∧ toR (formD s A F).1 (formD s A F).2.1 (formD s A F).2.2 = (if s = true then negV ((k : Int) * 4503599627370496 + (A : Int)) else (k : Int) * 4503599627370496 + (A : Int), true) := by
  obtain ⟨K, hK⟩ : ∃ K : Nat, K = 32768 := ⟨_, rfl⟩
  have hA0 : A ≠ 0 := by omega
  have hbl : blen A ≤ 64 := (blen_le _ 64).2 (by rw [show (2 : Nat) ^ 64 = 18446744073709551616 by decide]; omega)
  have hz := tz_le_blen A
  have hr : rightB (formD s A F).2.1 (formD s A F).2.2 = true := by
    rw [form_pos s hA0]
    unfold rightB inB
    have g : greatB (A / 2 ^ tz A) = false := great_mono (Nat.div_le_self _ _) ((great_not _).2 (by omega))
    simp only
    rw [g, decide_eq_true (by omega)]
    rfl
  have hr' : roomB (formD s A F) = true := hr
  have hv := form_val s A F K hA0 (by omega)
  rw [show (F + (K : Int)).toNat = k + (K - 1074) by omega] at hv
  obtain ⟨n1, n2, n3⟩ := near_at s _ _ K hK hr k A h2 h1 hk hv
  have hs : (formD s A F).1 = s := by rw [form_pos s hA0]
  refine ⟨by unfold roomE; rw [if_pos hr'], by unfold roomP; rw [if_pos hr'], ?_⟩
  rw [hs, to_near s _ _ hr n1 n2, n3]
/-- what is asked of a number of a normal size -/
theorem cut_near (s : Bool) (m : Nat) (e : Int) (hr : rightB m e = true) (h0 : m ≠ 0) (h1 : -1022 ≤ e + (blen m : Int) - 1) (h2 : e + (blen m : Int) - 1 ≤ 1022) :
    (∀ up : Bool, roomE (cutD (formD s m e) 53 up) = 0 ∧ roomP (cutD (formD s m e) 53 up) = cutD (formD s m e) 53 up) ∧ ∃ x y : Int, toR (cutD (formD s m e) 53 false).1 (cutD (formD s m e) 53 false).2.1 (cutD (formD s m e) 53 false).2.2 = (x, true) ∧ toR (cutD (formD s m e) 53 true).1 (cutD (formD s m e) 53 true).2.1 (cutD (formD s m e) 53 true).2.2 = (y, true) ∧ (nearB s m e = x ∨ nearB s m e = y) := by
  obtain ⟨K, hK⟩ : ∃ K : Nat, K = 32768 := ⟨_, rfl⟩
  have he := (rightB_yes hr).2
  obtain ⟨k, hk⟩ : ∃ k : Nat, (k : Int) = e + (blen m : Int) - 1 + 1022 := ⟨(e + (blen m : Int) - 1 + 1022).toNat, by omega⟩
  have hk2 : k ≤ 2044 := by omega
  -- what the number is rounded to
  have hl : lsI m e = (k : Int) - 1074 := by unfold lsI tpI; split <;> omega
  have hW : nearW m e = (k : Int) * 4503599627370496 + (hv (m * 2 ^ (e + K).toNat) (k + (K - 1074)) : Int) := by
    unfold nearW
    rw [if_neg h0, if_neg (by unfold tpI; omega), rd_T m e _ K (by omega) (by omega), hl, show ((k : Int) - 1074 + K).toNat = k + (K - 1074) by omega]
    omega
  have hN : nearB s m e = if s = true then negV ((k : Int) * 4503599627370496 + (hv (m * 2 ^ (e + K).toNat) (k + (K - 1074)) : Int)) else (k : Int) * 4503599627370496 + (hv (m * 2 ^ (e + K).toNat) (k + (K - 1074)) : Int) := by
    unfold nearB
    rw [hW]
    cases s with
    | false => rfl
    | true => rw [Bool.true_and, if_pos (decide_eq_true h0)]; rfl
  -- its one form
  have fv := form_val s m e K h0 (by omega)
  have od := odd_part h0
  have hb := blen_mul (m / 2 ^ tz m) (tz m) (fun q => by rw [q] at od; omega)
  rw [od.2] at hb
  rw [form_pos s h0] at fv ⊢
  simp only at fv
  generalize hM : m / 2 ^ tz m = M at *
  have hE : e + (tz m : Int) = (k : Int) - 1021 - (blen M : Int) := by omega
  generalize e + (tz m : Int) = E at *
  have hM0 : M ≠ 0 := fun q => by rw [q] at od; omega
  have lo := blen_lo M hM0
  have hi := (blen_le M (blen M)).1 (Nat.le_refl _)
  have hn0 : blen M ≠ 0 := fun q => hM0 ((blen_nil _).1 q)
  have p52 : (2 : Nat) ^ 52 = 4503599627370496 := by decide
  have p53 : (2 : Nat) ^ 53 = 9007199254740992 := by decide
  by_cases c : blen M ≤ 53
  · obtain ⟨i, hi'⟩ : ∃ i, blen M + i = 53 := ⟨53 - blen M, by omega⟩
    have a1 : 4503599627370496 ≤ M * 2 ^ i := by
      have := Nat.mul_le_mul_right (2 ^ i) lo
      rw [← Nat.pow_add, show blen M - 1 + i = 52 by omega, p52] at this
      exact this
    have a2 : M * 2 ^ i ≤ 9007199254740992 := by
      have := Nat.mul_le_mul_right (2 ^ i) (Nat.le_of_lt hi)
      rw [← Nat.pow_add, hi', p53] at this
      exact this
    have eC : ∀ up, cutD (s, M, E) 53 up = formD s (M * 2 ^ i) ((k : Int) - 1074) := fun up => by
      unfold cutD
      rw [if_pos (show ((blen M : Nat) : Int) ≤ 53 by omega), form_shift, form_odd s od.1, show (k : Int) - 1074 + (i : Int) = E by omega]
    have eT : m * 2 ^ (e + K).toNat = M * 2 ^ i * 2 ^ (k + (K - 1074)) := by
      rw [← fv, Nat.mul_assoc, ← Nat.pow_add, show (E + (K : Int)).toNat = i + (k + (K - 1074)) by omega]
    rw [eT, hv_exact] at hN
    obtain ⟨r1, r2, r3⟩ := cut_each s (M * 2 ^ i) k _ rfl hk2 a1 a2
    refine ⟨fun up => by rw [eC]; exact ⟨r1, r2⟩, _, _, by rw [eC]; exact r3, by rw [eC]; exact r3, .inl hN⟩
  · obtain ⟨j, hj⟩ : ∃ j, blen M = 53 + j := ⟨blen M - 53, by omega⟩
    have a1 : 4503599627370496 ≤ M / 2 ^ j := by
      rw [hj, show 53 + j - 1 = 52 + j by omega, Nat.pow_add, p52] at lo
      exact (Nat.le_div_iff_mul_le (Nat.two_pow_pos _)).2 lo
    have a2 : M / 2 ^ j < 9007199254740992 := by
      rw [hj, Nat.pow_add, p53] at hi
      exact (Nat.div_lt_iff_lt_mul (Nat.two_pow_pos _)).2 hi
    have eT : m * 2 ^ (e + K).toNat / 2 ^ (k + (K - 1074)) = M / 2 ^ j := by
      rw [← fv, show k + (K - 1074) = j + (E + (K : Int)).toNat by omega, Nat.pow_add, Nat.mul_div_mul_right _ _ (Nat.two_pow_pos _)]
    have eC : ∀ up, cutD (s, M, E) 53 up = formD s (M / 2 ^ j + (if (!(up == s)) = true then 1 else 0)) ((k : Int) - 1074) := fun up => by
      unfold cutD
      rw [if_neg (show ¬ ((blen M : Nat) : Int) ≤ 53 by omega)]
      simp only
      rw [show (((blen M : Nat) : Int) - 53).toNat = j by omega, show E + (j : Int) = (k : Int) - 1074 by omega]
    have v1 := hv_le (m * 2 ^ (e + K).toNat) (k + (K - 1074))
    have v2 := hv_ge (m * 2 ^ (e + K).toNat) (k + (K - 1074))
    rw [eT] at v1 v2
    generalize hv (m * 2 ^ (e + K).toNat) (k + (K - 1074)) = h at *
    generalize M / 2 ^ j = q at *
    have f : ∀ up : Bool, 4503599627370496 ≤ q + (if (!(up == s)) = true then 1 else 0) ∧ q + (if (!(up == s)) = true then 1 else 0) ≤ 9007199254740992 := fun up => by split <;> omega
    have r := fun up => cut_each s (q + (if (!(up == s)) = true then 1 else 0)) k _ rfl hk2 (f up).1 (f up).2
    refine ⟨fun up => by rw [eC]; exact ⟨(r up).1, (r up).2.1⟩, _, _, by rw [eC]; exact (r false).2.2, by rw [eC]; exact (r true).2.2, ?_⟩
    rw [hN]
    by_cases hq : h = q
    · subst hq
      cases s
      · left; rfl
      · right; rfl
    · have hq' : h = q + 1 := by omega
      subst hq'
      cases s
      · right; rfl
      · left; rfl
end Go.Proofs.YtjgnoaieplmoiaaGreatDoor

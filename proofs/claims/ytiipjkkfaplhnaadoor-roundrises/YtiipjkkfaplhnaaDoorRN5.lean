/- Package ulpref05: cut to a whole number of so many units, ties to even. -/
import Derived.Test.YtiipjkkfaplhnaaDoorRN4
import Derived.Test.YtiipjkkfaplhnaaDoorNAdd
namespace Go.Proofs.YtiipjkkfaplhnaaDoor
open Go.RowKit

theorem one_len : (wordsOf 1).length = 1 := by decide +kernel
theorem low_over (m n : Nat) (h0 : m ≠ 0) : decide (tz m < n) = lostB m n := by
  unfold lostB
  rw [decide_eq_decide]
  obtain ⟨j, hj⟩ := ntz_spec m h0
  constructor
  · intro h q
    have hd : 2 ^ n ∣ m := Nat.dvd_of_mod_eq_zero q
    have : 2 ^ (tz m + 1) ∣ m := Nat.dvd_trans (Nat.pow_dvd_pow 2 h) hd
    generalize tz m = t at *
    rw [hj, Nat.pow_succ] at this
    have := Nat.dvd_of_mul_dvd_mul_left (Nat.two_pow_pos t) this
    omega
  · intro q
    refine Nat.lt_of_not_le fun h => q ?_
    refine Nat.mod_eq_zero_of_dvd (Nat.dvd_trans (Nat.pow_dvd_pow 2 h) ⟨2 * j + 1, hj⟩)
theorem rd_whole (m : Nat) (k : Int) (h : k ≤ 0) : rd2 m k = m * 2 ^ (-k).toNat ∧ ls2 m k = false := by
  unfold rd2 up2 half2 fl2 ls2
  rw [if_pos h, if_pos h, if_pos h]
  simp
theorem rd_same (m n : Nat) (h : lostB m (n + 1) = false) : rd2 m ((n : Int) + 1) = m / 2 ^ (n + 1) := by
  rw [lost_succ] at h
  simp only [Bool.or_eq_false_iff] at h
  unfold rd2 up2 half2 fl2
  rw [if_neg (by omega), if_neg (by omega), show ((n : Int) + 1).toNat = n + 1 by omega, show n + 1 - 1 = n by omega, bit_div, h.2]
  simp
theorem rd_cut (m n : Nat) (h0 : m ≠ 0) : rd2 m ((n : Int) + 1) = m / 2 ^ (n + 1) + (m.testBit n && (decide (tz m < n) || (m / 2 ^ (n + 1)).testBit 0)).toNat ∧ ls2 m ((n : Int) + 1) = lostB m (n + 1) := by
  have e1 : fl2 m ((n : Int) + 1) = m / 2 ^ (n + 1) := by unfold fl2; rw [if_neg (by omega), show ((n : Int) + 1).toNat = n + 1 by omega]
  constructor
  · unfold rd2 up2 half2 over2
    rw [e1, if_neg (by omega), if_neg (by omega), show ((n : Int) + 1).toNat - 1 = n by omega, low_over m n h0, bit_div (m / 2 ^ (n + 1)) 0, Nat.pow_zero, Nat.div_one]
  · unfold ls2
    rw [if_neg (by omega), show ((n : Int) + 1).toNat = n + 1 by omega]

set_option maxRecDepth 100000 in
set_option maxHeartbeats 2000000 in
theorem rcut_shl (a : Option Addr) (len cap : Nat) (xs : List Int) (e l : Int) (w : World) (h : IsW w a len cap xs) (hm : len ≤ 17592186044000) (_he : -40000 ≤ e ∧ e ≤ 40000) (_hl : -2000 ≤ l ∧ l ≤ 2000) (hs : e - l ≤ 63) (hk : l ≤ e) :
    Calls Tryd.prog 61 #[.slice a len cap, .int .i64 e, .int .i64 l] w fun r w' => ∃ v, r = .returned (.tuple #[v, .bool (ls2 (val xs) (l - e))]) ∧ NatAt w.heap.size w' v (rd2 (val xs) (l - e)) ∧ Below w.heap.size w w' := by
  obtain ⟨j, hj⟩ : ∃ j : Nat, e - l = (j : Int) := ⟨(e - l).toNat, by omega⟩
  have HS : Hid _ := nShl_calls a len cap j xs w h (by omega) (by omega)
  obtain ⟨r1, r2⟩ := rd_whole (val xs) (l - e) (by omega)
  rw [show (-(l - e)).toNat = j by omega] at r1
  have R1 : Hid _ := r1
  have R2 : Hid _ := r2
  have W1 : IntKind.i64.wrap (e - l) = (j : Int) := by rw [IntKind.wrap_i64]; omega
  clear r1 r2 hj _he _hl
  go_enter Tryd.func61, Tryd.ntmps61
  go_wp2_with fail
  refine Calls.mono HS.out ?_
  rintro r w1 ⟨ao, cv, rfl, hO, bN⟩
  go_wp2_with fail
  go_ret2
  rw [R1.out, R2.out]
  exact ⟨_, rfl, natAt_own hO rfl, bN⟩

set_option maxRecDepth 100000 in
set_option maxHeartbeats 2000000 in
theorem rcut_shr (a : Option Addr) (len cap : Nat) (xs : List Int) (e l : Int) (w : World) (h : IsW w a len cap xs) (hm : len ≤ 17592186044000) (he : -40000 ≤ e ∧ e ≤ 40000) (hl : -2000 ≤ l ∧ l ≤ 2000) (hk : ¬ l ≤ e) :
    Calls Tryd.prog 61 #[.slice a len cap, .int .i64 e, .int .i64 l] w fun r w' => ∃ v, r = .returned (.tuple #[v, .bool (ls2 (val xs) (l - e))]) ∧ NatAt w.heap.size w' v (rd2 (val xs) (l - e)) ∧ Below w.heap.size w w' := by
  obtain ⟨j, hj⟩ : ∃ j : Nat, l - e = (j : Int) + 1 := ⟨(l - e - 1).toNat, by omega⟩
  have HN : Hid _ := nNorm_calls a len cap xs w h (by omega)
  have W1 : IntKind.i64.wrap (l - e) = ((j + 1 : Nat) : Int) := by rw [IntKind.wrap_i64]; omega
  have W2 : IntKind.i64.wrap (((j + 1 : Nat) : Int) - 1) = (j : Int) := by rw [IntKind.wrap_i64]; omega
  have hkk : ¬ (l ≤ e) := hk
  have hjb : j ≤ 50000 := by omega
  rw [hj]
  have HS : Hid _ := fun a' n c w' (h' : IsW w' a' n c (wordsOf (val xs))) hn => nShr_calls a' n c (j + 1) (wordsOf (val xs)) w' h' (by omega) hn
  rw [val_words] at HS
  have HB : Hid _ := fun w' (h' : IsW w' a len cap xs) => nBit_calls a len cap xs j w' h' (by omega)
  have HL : Hid _ := fun w' (h' : IsW w' a len cap xs) => nLow_calls a len cap xs w' h' (by omega)
  have hln : (wordsOf (val xs)).length ≤ 17592186044000 := by
    have := words_le xs h.2.1
    have := h.1
    omega
  have HLN : Hid _ := hln
  have HI : Hid (IsW w a len cap xs) := h
  by_cases hlo : lostB (val xs) (j + 1) = false
  · have R1 : Hid _ := rd_same (val xs) j hlo
    have R2 : Hid (ls2 (val xs) ((j : Int) + 1) = false) := by rw [Hid]; unfold ls2; rw [if_neg (by omega), show ((j : Int) + 1).toNat = j + 1 by omega, hlo]
    rw [hlo] at HS
    clear hlo he hl hj hk HB HL hln
    generalize (j + 1 : Nat) = jj at *
    go_enter Tryd.func61, Tryd.ntmps61
    go_wp2_with fail
    refine Calls.mono HN.out ?_
    rintro r w1 ⟨ao, cv, rfl, hO, b1⟩
    go_wp2_with fail
    refine Calls.mono (HS.out _ _ _ _ (hO.isW (words_U _)) HLN.out) ?_
    rintro r w2 ⟨v, rfl, ⟨a2, n2, c2, rfl, hN2, hO2⟩, b2⟩
    have HN2 : Hid _ := hN2
    clear hN2
    go_wp2_with fail
    go_ret2
    rw [R1.out, R2.out]
    exact ⟨_, rfl, ⟨a2, n2, c2, rfl, HN2.out, hO2.low b1.size⟩, nbelow_trans b1 b2⟩
  · have hlo' : lostB (val xs) (j + 1) = true := by simpa using hlo
    have h0 : val xs ≠ 0 := fun q => by rw [q] at hlo'; unfold lostB at hlo'; simp at hlo'
    obtain ⟨r1, r2⟩ := rd_cut (val xs) j h0
    have R2 : Hid (ls2 (val xs) ((j : Int) + 1) = true) := r2.trans hlo'
    have R1 : Hid _ := r1
    have HQ : Hid _ := fun a' n c w' (h' : IsW w' a' n c (wordsOf (val xs / 2 ^ (j + 1)))) => nBit_calls a' n c (wordsOf (val xs / 2 ^ (j + 1))) 0 w' h' (by omega)
    have HA : Hid _ := fun a' n c a2 n2 c2 w' (h' : IsW w' a' n c (wordsOf (val xs / 2 ^ (j + 1)))) (h2 : IsW w' a2 n2 c2 (wordsOf 1)) hn hn2 => nAdd_calls a' a2 n c n2 c2 (wordsOf (val xs / 2 ^ (j + 1))) (wordsOf 1) w' h' h2 hn hn2
    have HO1 : Hid _ := fun w' => nOf_calls 1 w' (by decide) (by decide)
    change Hid (∀ w', Calls Tryd.prog 90 #[.int .u64 1] w' fun r w'' => ∃ (ao : Option Addr) (cv : Nat), r = .returned (.slice ao (wordsOf 1).length cv) ∧ Own w'.heap.size w'' ao cv (wordsOf 1) ∧ Below w'.heap.size w' w'') at HO1
    rw [val_words] at HQ HA
    rw [val_words] at HA
    rw [hlo'] at HS
    have hql : Hid ((wordsOf (val xs / 2 ^ (j + 1))).length ≤ 17592186044000) := by
      rw [Hid]
      refine Nat.le_trans ?_ hln
      exact (words_len2 _ _).2 (Nat.le_trans (blen_mono (Nat.div_le_self _ _)) ((words_len2 _ _).1 (Nat.le_refl _)))
    clear hlo hlo' he hl hj hk r1 r2 h0 hln
    generalize hb1 : (val xs).testBit j = t1 at *
    generalize hb2 : (val xs / 2 ^ (j + 1)).testBit 0 = t2 at *
    have ht3 : (decide ((tz (val xs) : Int) < (j : Int))) = decide (tz (val xs) < j) := by rw [decide_eq_decide]; omega
    generalize hb3 : decide (tz (val xs) < j) = t3 at *
    generalize val xs / 2 ^ (j + 1) = q at *
    generalize (j + 1 : Nat) = jj at *
    generalize (tz (val xs) : Int) = tl at *
    generalize ((j : Nat) : Int) = ji at *
    clear hb1 hb2 hb3
    cases t1 with
    | false =>
      go_enter Tryd.func61, Tryd.ntmps61
      go_wp2_with fail
      refine Calls.mono HN.out ?_
      rintro r w1 ⟨ao, cv, rfl, hO, b1⟩
      go_wp2_with fail
      refine Calls.mono (HS.out _ _ _ _ (hO.isW (words_U _)) HLN.out) ?_
      rintro r w2 ⟨v, rfl, ⟨a2, n2, c2, rfl, hN2, hO2⟩, b2⟩
      have HN2 : Hid _ := hN2
      clear hN2
      have bw := nbelow_trans b1 b2
      go_wp2_with fail
      refine Calls.mono (HB.out _ (IsW.keep HI.out bw)) ?_
      rintro r w2 ⟨rfl, rfl⟩
      go_wp2_with fail
      refine Calls.mono (HL.out _ (IsW.keep HI.out bw)) ?_
      rintro r w3 ⟨rfl, b3⟩
      go_wp2_with fail
      go_ret2
      rw [R1.out, R2.out]
      exact ⟨_, rfl, ⟨a2, n2, c2, rfl, HN2.out, (hO2.low b1.size).keep b3⟩, nbelow_trans bw b3⟩
    | true =>
      cases t3 with
      | true =>
        go_enter Tryd.func61, Tryd.ntmps61
        go_wp2_with fail
        refine Calls.mono HN.out ?_
        rintro r w1 ⟨ao, cv, rfl, hO, b1⟩
        go_wp2_with fail
        refine Calls.mono (HS.out _ _ _ _ (hO.isW (words_U _)) HLN.out) ?_
        rintro r w2 ⟨v, rfl, ⟨a2, n2, c2, rfl, hN2, hO2⟩, b2⟩
        have HN2 : Hid _ := hN2
        clear hN2
        have bw := nbelow_trans b1 b2
        go_wp2_with fail
        refine Calls.mono (HB.out _ (IsW.keep HI.out bw)) ?_
        rintro r w2 ⟨rfl, rfl⟩
        go_wp2_with fail
        refine Calls.mono (HL.out _ (IsW.keep HI.out bw)) ?_
        rintro r w3 ⟨rfl, b3⟩
        replace bw := nbelow_trans bw b3
        replace hO2 := (hO2.low b1.size).keep b3
        clear b1 b2 b3 hO
        go_wp2_with fail
        refine Calls.mono (HO1.out _) ?_
        rintro r w4 ⟨a4, c4, rfl, hO4, b4⟩
        go_wp2_with fail
        refine Calls.mono (HA.out _ _ _ _ _ _ _ (hO2.1.keep b4) (hO4.isW (words_U _)) (by rw [HN2.out]; have := hql.out; omega) (by have := one_len; omega)) ?_
        rintro r w5 ⟨a5, c5, rfl, hO5, b5⟩
        go_wp2_with fail
        go_ret2
        rw [R1.out, R2.out]
        exact ⟨_, rfl, (natAt_own hO5 rfl).low (Nat.le_trans bw.size b4.size), nbelow_trans (nbelow_trans bw b4) b5⟩
      | false =>
        cases t2 with
        | true =>
          go_enter Tryd.func61, Tryd.ntmps61
          go_wp2_with fail
          refine Calls.mono HN.out ?_
          rintro r w1 ⟨ao, cv, rfl, hO, b1⟩
          go_wp2_with fail
          refine Calls.mono (HS.out _ _ _ _ (hO.isW (words_U _)) HLN.out) ?_
          rintro r w2 ⟨v, rfl, ⟨a2, n2, c2, rfl, hN2, hO2⟩, b2⟩
          have HN2 : Hid _ := hN2
          clear hN2
          have bw := nbelow_trans b1 b2
          go_wp2_with fail
          refine Calls.mono (HB.out _ (IsW.keep HI.out bw)) ?_
          rintro r w2 ⟨rfl, rfl⟩
          go_wp2_with fail
          refine Calls.mono (HL.out _ (IsW.keep HI.out bw)) ?_
          rintro r w3 ⟨rfl, b3⟩
          replace bw := nbelow_trans bw b3
          replace hO2 := (hO2.low b1.size).keep b3
          clear b1 b2 b3 hO
          go_wp2_with fail
          refine Calls.mono (HQ.out _ _ _ _ hO2.1) ?_
          rintro r w3 ⟨rfl, rfl⟩
          go_wp2_with fail
          refine Calls.mono (HO1.out _) ?_
          rintro r w4 ⟨a4, c4, rfl, hO4, b4⟩
          go_wp2_with fail
          refine Calls.mono (HA.out _ _ _ _ _ _ _ (hO2.1.keep b4) (hO4.isW (words_U _)) (by rw [HN2.out]; have := hql.out; omega) (by have := one_len; omega)) ?_
          rintro r w5 ⟨a5, c5, rfl, hO5, b5⟩
          go_wp2_with fail
          go_ret2
          rw [R1.out, R2.out]
          exact ⟨_, rfl, (natAt_own hO5 rfl).low (Nat.le_trans bw.size b4.size), nbelow_trans (nbelow_trans bw b4) b5⟩
        | false =>
          go_enter Tryd.func61, Tryd.ntmps61
          go_wp2_with fail
          refine Calls.mono HN.out ?_
          rintro r w1 ⟨ao, cv, rfl, hO, b1⟩
          go_wp2_with fail
          refine Calls.mono (HS.out _ _ _ _ (hO.isW (words_U _)) HLN.out) ?_
          rintro r w2 ⟨v, rfl, ⟨a2, n2, c2, rfl, hN2, hO2⟩, b2⟩
          have HN2 : Hid _ := hN2
          clear hN2
          have bw := nbelow_trans b1 b2
          go_wp2_with fail
          refine Calls.mono (HB.out _ (IsW.keep HI.out bw)) ?_
          rintro r w2 ⟨rfl, rfl⟩
          go_wp2_with fail
          refine Calls.mono (HL.out _ (IsW.keep HI.out bw)) ?_
          rintro r w3 ⟨rfl, b3⟩
          replace bw := nbelow_trans bw b3
          replace hO2 := (hO2.low b1.size).keep b3
          clear b1 b2 b3 hO
          go_wp2_with fail
          refine Calls.mono (HQ.out _ _ _ _ hO2.1) ?_
          rintro r w3 ⟨rfl, rfl⟩
          go_wp2_with fail
          go_ret2
          rw [R1.out, R2.out]
          exact ⟨_, rfl, ⟨a2, n2, c2, rfl, HN2.out, hO2⟩, bw⟩
theorem rcut_calls (a : Option Addr) (len cap : Nat) (xs : List Int) (e l : Int) (w : World) (h : IsW w a len cap xs) (hm : len ≤ 17592186044000) (he : -40000 ≤ e ∧ e ≤ 40000) (hl : -2000 ≤ l ∧ l ≤ 2000) (hs : e - l ≤ 63) :
    Calls Tryd.prog 61 #[.slice a len cap, .int .i64 e, .int .i64 l] w fun r w' => ∃ v, r = .returned (.tuple #[v, .bool (ls2 (val xs) (l - e))]) ∧ NatAt w.heap.size w' v (rd2 (val xs) (l - e)) ∧ Below w.heap.size w w' := by
  by_cases hk : l ≤ e
  · exact rcut_shl a len cap xs e l w h hm he hl hs hk
  · exact rcut_shr a len cap xs e l w h hm he hl hk
end Go.Proofs.YtiipjkkfaplhnaaDoor

/- Package ulpref05: the document's rounding, cut, tiny. Package ulpref05: cut to a whole number of so many units, ties to even. Package ulpref05: tiny, put, near; Near and Tiny. -/
import Derived.Test.YtfgemlgmhlidmaaGreatDoorPAX
import Derived.Test.YtfgemlgmhlidmaaGreatDoorTMA
import Derived.Test.YtfgemlgmhlidmaaGreatDoorTMH
import Derived.Test.YtfgemlgmhlidmaaGreatDoorTMS
import Derived.Deep.RegionWith
import Derived.BigQuiet
import Derived.Test.YtfgemlgmhlidmaaGreatDoorFX
import Derived.Test.YtfgemlgmhlidmaaGreatDoorTMV
import Derived.Test.YtfgemlgmhlidmaaGreatDoorDVT

namespace Go.Proofs.YtfgemlgmhlidmaaGreatDoor
open Go.RowKit
set_option maxRecDepth 100000 in
set_option maxHeartbeats 1000000 in
theorem rtop_calls (s : Bool) (a : Option Addr) (len cap : Nat) (xs : List Int) (e : Int) (w : World) (h : IsW w a len cap xs) (hm : len ≤ 17592186044000) (hg : greatB (val xs) = false) (he : -32768 ≤ e ∧ e ≤ 32768) :
    Calls Tryz.prog 132 #[dyV s a len cap e] w fun r w' => r = .returned (.int .i64 (tpI (val xs) e + 1)) ∧ Below w.heap.size w w' := by
  have bA := below_one w (.cells #[.bool s, .slice a len cap, .int .i64 e] 38)
  have HL : Hid _ := fun w' (h' : IsW w' a len cap xs) => nLen_calls a len cap xs w' h' (by omega)
  have hbl := (great_not _).1 hg
  have W1 : IntKind.i64.wrap ((blen (val xs) : Int) + e) = tpI (val xs) e + 1 := by unfold tpI; rw [IntKind.wrap_i64]; omega
  generalize tpI (val xs) e + 1 = tp at *
  generalize (blen (val xs) : Int) = bl at *
  clear hg he hbl
  go_enter Tryz.func132, Tryz.ntmps132
  go_wp2_with fail
  have hI := h.keep bA
  obtain ⟨c1, c2⟩ := fX10 w s a len cap e
  generalize (w.alloc (.cells #[.bool s, .slice a len cap, .int .i64 e] 38)) = w0 at *
  go_region_with (go_at_call 48; refine (HL.out _ (IsW.keep hI (show Below w0.heap.size w0 _ from by repeat (first | exact Below.refl _ _ | refine Below.drew ?_ )))).mono ?_; rintro r w9 ⟨rfl, b9⟩; replace c1 := kC b9 (p := ⟨w.heap.size, 1, none⟩) (v := .slice a len cap) (by go_simp); replace c2 := kC b9 (p := ⟨w.heap.size, 2, none⟩) (v := .int .i64 e) (by go_simp); replace bA := nT (show Below w.heap.size w _ from by repeat (first | exact bA | refine Below.drew ?_ )) b9; clear b9)
  all_goals go_wp2_with fail
  all_goals go_ret
  all_goals exact ⟨rfl, by repeat (first | exact bA | refine Below.drew ?_)⟩
theorem one_len : (wordsOf 1).length = 1 := by decide +kernel
theorem low_over (m n : Nat) (h0 : m ≠ 0) : decide (tz m < n) = lostB m n := by
  unfold lostB
  rw [decide_eq_decide]
  obtain ⟨j, hj⟩ := ntz_spec m h0
  constructor
  · intro h q
    have hd : 2 ^ n ∣ m := Nat.dvd_of_mod_eq_zero q
    have : 2 ^ (tz m + 1) ∣ m := Nat.dvd_trans (Nat.pow_dvd_pow 2 h) hd
    generalize tz m = t at *
    rw [hj, Nat.pow_succ] at this
    have := Nat.dvd_of_mul_dvd_mul_left (Nat.two_pow_pos t) this
    omega
  · intro q
    refine Nat.lt_of_not_le fun h => q ?_
    refine Nat.mod_eq_zero_of_dvd (Nat.dvd_trans (Nat.pow_dvd_pow 2 h) ⟨2 * j + 1, hj⟩)
theorem rd_whole (m : Nat) (k : Int) (h : k ≤ 0) : rd2 m k = m * 2 ^ (-k).toNat ∧ ls2 m k = false := by
  unfold rd2 up2 half2 fl2 ls2
  rw [if_pos h, if_pos h, if_pos h]
  simp
theorem rd_same (m n : Nat) (h : lostB m (n + 1) = false) : rd2 m ((n : Int) + 1) = m / 2 ^ (n + 1) := by
  rw [lost_succ] at h
  simp only [Bool.or_eq_false_iff] at h
  unfold rd2 up2 half2 fl2
  rw [if_neg (by omega), if_neg (by omega), show ((n : Int) + 1).toNat = n + 1 by omega, show n + 1 - 1 = n by omega, bit_div, h.2]
  simp
theorem rd_cut (m n : Nat) (h0 : m ≠ 0) : rd2 m ((n : Int) + 1) = m / 2 ^ (n + 1) + (m.testBit n && (decide (tz m < n) || (m / 2 ^ (n + 1)).testBit 0)).toNat ∧ ls2 m ((n : Int) + 1) = lostB m (n + 1) := by
  have e1 : fl2 m ((n : Int) + 1) = m / 2 ^ (n + 1) := by unfold fl2; rw [if_neg (by omega), show ((n : Int) + 1).toNat = n + 1 by omega]
  constructor
  · unfold rd2 up2 half2 over2
    rw [e1, if_neg (by omega), if_neg (by omega), show ((n : Int) + 1).toNat - 1 = n by omega, low_over m n h0, bit_div (m / 2 ^ (n + 1)) 0, Nat.pow_zero, Nat.div_one]
  · unfold ls2
    rw [if_neg (by omega), show ((n : Int) + 1).toNat = n + 1 by omega]
set_option maxRecDepth 100000 in
set_option maxHeartbeats 2000000 in
theorem rcut_shl (a : Option Addr) (len cap : Nat) (xs : List Int) (e l : Int) (w : World) (h : IsW w a len cap xs) (hm : len ≤ 17592186044000) (_he : -40000 ≤ e ∧ e ≤ 40000) (_hl : -2000 ≤ l ∧ l ≤ 2000) (hs : e - l ≤ 63) (hk : l ≤ e) :
    Calls Tryz.prog 133 #[.slice a len cap, .int .i64 e, .int .i64 l] w fun r w' => ∃ v, r = .returned (.tuple #[v, .bool (ls2 (val xs) (l - e))]) ∧ NatAt w.heap.size w' v (rd2 (val xs) (l - e)) ∧ Below w.heap.size w w' := by
  obtain ⟨j, hj⟩ : ∃ j : Nat, e - l = (j : Int) := ⟨(e - l).toNat, by omega⟩
  have HS : Hid _ := nShl_calls a len cap j xs w h (by omega) (by omega)
  obtain ⟨r1, r2⟩ := rd_whole (val xs) (l - e) (by omega)
  rw [show (-(l - e)).toNat = j by omega] at r1
  have R1 : Hid _ := r1
  have R2 : Hid _ := r2
  have W1 : IntKind.i64.wrap (e - l) = (j : Int) := by rw [IntKind.wrap_i64]; omega
  clear r1 r2 hj _he _hl
  go_enter Tryz.func133, Tryz.ntmps133
  go_wp2_with fail
  refine Calls.mono HS.out ?_
  rintro r w1 ⟨ao, cv, rfl, hO, bN⟩
  go_wp2_with fail
  go_ret2
  rw [R1.out, R2.out]
  exact ⟨_, rfl, natAt_own hO rfl, bN⟩
set_option maxRecDepth 100000 in
set_option maxHeartbeats 2000000 in
theorem rcut_shr (a : Option Addr) (len cap : Nat) (xs : List Int) (e l : Int) (w : World) (h : IsW w a len cap xs) (hm : len ≤ 17592186044000) (he : -40000 ≤ e ∧ e ≤ 40000) (hl : -2000 ≤ l ∧ l ≤ 2000) (hk : ¬ l ≤ e) :
    Calls Tryz.prog 133 #[.slice a len cap, .int .i64 e, .int .i64 l] w fun r w' => ∃ v, r = .returned (.tuple #[v, .bool (ls2 (val xs) (l - e))]) ∧ NatAt w.heap.size w' v (rd2 (val xs) (l - e)) ∧ Below w.heap.size w w' := by
  obtain ⟨j, hj⟩ : ∃ j : Nat, l - e = (j : Int) + 1 := ⟨(l - e - 1).toNat, by omega⟩
  have HN : Hid _ := nNorm_calls a len cap xs w h (by omega)
  have W1 : IntKind.i64.wrap (l - e) = ((j + 1 : Nat) : Int) := by rw [IntKind.wrap_i64]; omega
  have W2 : IntKind.i64.wrap (((j + 1 : Nat) : Int) - 1) = (j : Int) := by rw [IntKind.wrap_i64]; omega
  have hkk : ¬ (l ≤ e) := hk
  have hjb : j ≤ 50000 := by omega
  rw [hj]
  have HS : Hid _ := fun a' n c w' (h' : IsW w' a' n c (wordsOf (val xs))) hn => nShr_calls a' n c (j + 1) (wordsOf (val xs)) w' h' (by omega) hn
  rw [val_words] at HS
  have HB : Hid _ := fun w' (h' : IsW w' a len cap xs) => nBit_calls a len cap xs j w' h' (by omega)
  have HL : Hid _ := fun w' (h' : IsW w' a len cap xs) => nLow_calls a len cap xs w' h' (by omega)
  have hln : (wordsOf (val xs)).length ≤ 17592186044000 := by
    have := words_le xs h.2.1
    have := h.1
    omega
  have HLN : Hid _ := hln
  have HI : Hid (IsW w a len cap xs) := h
  by_cases hlo : lostB (val xs) (j + 1) = false
  · have R1 : Hid _ := rd_same (val xs) j hlo
    have R2 : Hid (ls2 (val xs) ((j : Int) + 1) = false) := by rw [Hid]; unfold ls2; rw [if_neg (by omega), show ((j : Int) + 1).toNat = j + 1 by omega, hlo]
    rw [hlo] at HS
    clear hlo he hl hj hk HB HL hln
    generalize (j + 1 : Nat) = jj at *
    go_enter Tryz.func133, Tryz.ntmps133
    go_wp2_with fail
    refine Calls.mono HN.out ?_
    rintro r w1 ⟨ao, cv, rfl, hO, b1⟩
    go_wp2_with fail
    refine Calls.mono (HS.out _ _ _ _ (hO.isW (words_U _)) HLN.out) ?_
    rintro r w2 ⟨v, rfl, ⟨a2, n2, c2, rfl, hN2, hO2⟩, b2⟩
    have HN2 : Hid _ := hN2
    clear hN2
    go_wp2_with fail
    go_ret2
    rw [R1.out, R2.out]
    exact ⟨_, rfl, ⟨a2, n2, c2, rfl, HN2.out, hO2.low b1.size⟩, nT b1 b2⟩
  · have hlo' : lostB (val xs) (j + 1) = true := by simpa using hlo
    have h0 : val xs ≠ 0 := fun q => by rw [q] at hlo'; unfold lostB at hlo'; simp at hlo'
    obtain ⟨r1, r2⟩ := rd_cut (val xs) j h0
    have R2 : Hid (ls2 (val xs) ((j : Int) + 1) = true) := r2.trans hlo'
    have R1 : Hid _ := r1
    have HQ : Hid _ := fun a' n c w' (h' : IsW w' a' n c (wordsOf (val xs / 2 ^ (j + 1)))) => nBit_calls a' n c (wordsOf (val xs / 2 ^ (j + 1))) 0 w' h' (by omega)
    have HA : Hid _ := fun a' n c a2 n2 c2 w' (h' : IsW w' a' n c (wordsOf (val xs / 2 ^ (j + 1)))) (h2 : IsW w' a2 n2 c2 (wordsOf 1)) hn hn2 => nAdd_calls a' a2 n c n2 c2 (wordsOf (val xs / 2 ^ (j + 1))) (wordsOf 1) w' h' h2 hn hn2
    have HO1 : Hid _ := fun w' => nOf_calls 1 w' (by decide) (by decide)
    change Hid (∀ w', Calls Tryz.prog 51 #[.int .u64 1] w' fun r w'' => ∃ (ao : Option Addr) (cv : Nat), r = .returned (.slice ao (wordsOf 1).length cv) ∧ Own w'.heap.size w'' ao cv (wordsOf 1) ∧ Below w'.heap.size w' w'') at HO1
    rw [val_words] at HQ HA
    rw [val_words] at HA
    rw [hlo'] at HS
    have hql : Hid ((wordsOf (val xs / 2 ^ (j + 1))).length ≤ 17592186044000) := by
      rw [Hid]
      refine Nat.le_trans ?_ hln
      exact (words_len2 _ _).2 (Nat.le_trans (blen_mono (Nat.div_le_self _ _)) ((words_len2 _ _).1 (Nat.le_refl _)))
    clear hlo hlo' he hl hj hk r1 r2 h0 hln
    generalize hb1 : (val xs).testBit j = t1 at *
    generalize hb2 : (val xs / 2 ^ (j + 1)).testBit 0 = t2 at *
    have ht3 : (decide ((tz (val xs) : Int) < (j : Int))) = decide (tz (val xs) < j) := by rw [decide_eq_decide]; omega
    generalize hb3 : decide (tz (val xs) < j) = t3 at *
    generalize val xs / 2 ^ (j + 1) = q at *
    generalize (j + 1 : Nat) = jj at *
    generalize (tz (val xs) : Int) = tl at *
    generalize ((j : Nat) : Int) = ji at *
    clear hb1 hb2 hb3
    cases t1 with
    | false =>
      go_enter Tryz.func133, Tryz.ntmps133
      go_wp2_with fail
      refine Calls.mono HN.out ?_
      rintro r w1 ⟨ao, cv, rfl, hO, b1⟩
      go_wp2_with fail
      refine Calls.mono (HS.out _ _ _ _ (hO.isW (words_U _)) HLN.out) ?_
      rintro r w2 ⟨v, rfl, ⟨a2, n2, c2, rfl, hN2, hO2⟩, b2⟩
      have HN2 : Hid _ := hN2
      clear hN2
      have bw := nT b1 b2
      go_wp2_with fail
      refine Calls.mono (HB.out _ (IsW.keep HI.out bw)) ?_
      rintro r w2 ⟨rfl, rfl⟩
      go_wp2_with fail
      refine Calls.mono (HL.out _ (IsW.keep HI.out bw)) ?_
      rintro r w3 ⟨rfl, b3⟩
      go_wp2_with fail
      go_ret2
      rw [R1.out, R2.out]
      exact ⟨_, rfl, ⟨a2, n2, c2, rfl, HN2.out, (hO2.low b1.size).keep b3⟩, nT bw b3⟩
    | true =>
      cases t3 with
      | true =>
        go_enter Tryz.func133, Tryz.ntmps133
        go_wp2_with fail
        refine Calls.mono HN.out ?_
        rintro r w1 ⟨ao, cv, rfl, hO, b1⟩
        go_wp2_with fail
        refine Calls.mono (HS.out _ _ _ _ (hO.isW (words_U _)) HLN.out) ?_
        rintro r w2 ⟨v, rfl, ⟨a2, n2, c2, rfl, hN2, hO2⟩, b2⟩
        have HN2 : Hid _ := hN2
        clear hN2
        have bw := nT b1 b2
        go_wp2_with fail
        refine Calls.mono (HB.out _ (IsW.keep HI.out bw)) ?_
        rintro r w2 ⟨rfl, rfl⟩
        go_wp2_with fail
        refine Calls.mono (HL.out _ (IsW.keep HI.out bw)) ?_
        rintro r w3 ⟨rfl, b3⟩
        replace bw := nT bw b3
        replace hO2 := (hO2.low b1.size).keep b3
        clear b1 b2 b3 hO
        go_wp2_with fail
        refine Calls.mono (HO1.out _) ?_
        rintro r w4 ⟨a4, c4, rfl, hO4, b4⟩
        go_wp2_with fail
        refine Calls.mono (HA.out _ _ _ _ _ _ _ (hO2.1.keep b4) (hO4.isW (words_U _)) (by rw [HN2.out]; have := hql.out; omega) (by have := one_len; omega)) ?_
        rintro r w5 ⟨a5, c5, rfl, hO5, b5⟩
        go_wp2_with fail
        go_ret2
        rw [R1.out, R2.out]
        exact ⟨_, rfl, (natAt_own hO5 rfl).low (Nat.le_trans bw.size b4.size), nT (nT bw b4) b5⟩
      | false =>
        cases t2 with
        | true =>
          go_enter Tryz.func133, Tryz.ntmps133
          go_wp2_with fail
          refine Calls.mono HN.out ?_
          rintro r w1 ⟨ao, cv, rfl, hO, b1⟩
          go_wp2_with fail
          refine Calls.mono (HS.out _ _ _ _ (hO.isW (words_U _)) HLN.out) ?_
          rintro r w2 ⟨v, rfl, ⟨a2, n2, c2, rfl, hN2, hO2⟩, b2⟩
          have HN2 : Hid _ := hN2
          clear hN2
          have bw := nT b1 b2
          go_wp2_with fail
          refine Calls.mono (HB.out _ (IsW.keep HI.out bw)) ?_
          rintro r w2 ⟨rfl, rfl⟩
          go_wp2_with fail
          refine Calls.mono (HL.out _ (IsW.keep HI.out bw)) ?_
          rintro r w3 ⟨rfl, b3⟩
          replace bw := nT bw b3
          replace hO2 := (hO2.low b1.size).keep b3
          clear b1 b2 b3 hO
          go_wp2_with fail
          refine Calls.mono (HQ.out _ _ _ _ hO2.1) ?_
          rintro r w3 ⟨rfl, rfl⟩
          go_wp2_with fail
          refine Calls.mono (HO1.out _) ?_
          rintro r w4 ⟨a4, c4, rfl, hO4, b4⟩
          go_wp2_with fail
          refine Calls.mono (HA.out _ _ _ _ _ _ _ (hO2.1.keep b4) (hO4.isW (words_U _)) (by rw [HN2.out]; have := hql.out; omega) (by have := one_len; omega)) ?_
          rintro r w5 ⟨a5, c5, rfl, hO5, b5⟩
          go_wp2_with fail
          go_ret2
          rw [R1.out, R2.out]
          exact ⟨_, rfl, (natAt_own hO5 rfl).low (Nat.le_trans bw.size b4.size), nT (nT bw b4) b5⟩
        | false =>
          go_enter Tryz.func133, Tryz.ntmps133
          go_wp2_with fail
          refine Calls.mono HN.out ?_
          rintro r w1 ⟨ao, cv, rfl, hO, b1⟩
          go_wp2_with fail
          refine Calls.mono (HS.out _ _ _ _ (hO.isW (words_U _)) HLN.out) ?_
          rintro r w2 ⟨v, rfl, ⟨a2, n2, c2, rfl, hN2, hO2⟩, b2⟩
          have HN2 : Hid _ := hN2
          clear hN2
          have bw := nT b1 b2
          go_wp2_with fail
          refine Calls.mono (HB.out _ (IsW.keep HI.out bw)) ?_
          rintro r w2 ⟨rfl, rfl⟩
          go_wp2_with fail
          refine Calls.mono (HL.out _ (IsW.keep HI.out bw)) ?_
          rintro r w3 ⟨rfl, b3⟩
          replace bw := nT bw b3
          replace hO2 := (hO2.low b1.size).keep b3
          clear b1 b2 b3 hO
          go_wp2_with fail
          refine Calls.mono (HQ.out _ _ _ _ hO2.1) ?_
          rintro r w3 ⟨rfl, rfl⟩
          go_wp2_with fail
          go_ret2
          rw [R1.out, R2.out]
          exact ⟨_, rfl, ⟨a2, n2, c2, rfl, HN2.out, hO2⟩, bw⟩
theorem rcut_calls (a : Option Addr) (len cap : Nat) (xs : List Int) (e l : Int) (w : World) (h : IsW w a len cap xs) (hm : len ≤ 17592186044000) (he : -40000 ≤ e ∧ e ≤ 40000) (hl : -2000 ≤ l ∧ l ≤ 2000) (hs : e - l ≤ 63) :
    Calls Tryz.prog 133 #[.slice a len cap, .int .i64 e, .int .i64 l] w fun r w' => ∃ v, r = .returned (.tuple #[v, .bool (ls2 (val xs) (l - e))]) ∧ NatAt w.heap.size w' v (rd2 (val xs) (l - e)) ∧ Below w.heap.size w w' := by
  by_cases hk : l ≤ e
  · exact rcut_shl a len cap xs e l w h hm he hl hs hk
  · exact rcut_shr a len cap xs e l w h hm he hl hk
theorem rd_len (m : Nat) (k : Int) (b : Nat) (hb : b ≤ 60) (h : (blen m : Int) ≤ b + k) : rd2 m k < 18446744073709551616 ∧ (wordsOf (rd2 m k)).length ≤ 1 := by
  have h1 := fl_lt m b k h
  have h2 : 2 ^ b ≤ 2 ^ 60 := Nat.pow_le_pow_right (by decide) hb
  have h3 : rd2 m k < 18446744073709551616 := by
    unfold rd2
    have : (up2 m k).toNat ≤ 1 := Bool.toNat_le _
    have h4 : (2 : Nat) ^ 60 < 18446744073709551615 := by decide
    omega
  exact ⟨h3, (words_len 1 _).2 (by rw [Nat.pow_one]; exact h3)⟩
set_option maxRecDepth 100000 in
set_option maxHeartbeats 2000000 in
theorem rtiny_calls (s : Bool) (a : Option Addr) (len cap : Nat) (xs : List Int) (e : Int) (w : World) (h : IsW w a len cap xs) (hm : len ≤ 17592186044000) (hg : greatB (val xs) = false) (he : -32768 ≤ e ∧ e ≤ 32768) :
    Calls Tryz.prog 135 #[dyV s a len cap e] w fun r w' => r = .returned (.bool (tinyQ (val xs) e)) ∧ Below w.heap.size w w' := by
  have bA := below_one w (.cells #[.bool s, .slice a len cap, .int .i64 e] 38)
  have hI := h.keep bA
  have HL : Hid _ := nLen_calls a len cap xs _ hI (by omega)
  have HT : Hid _ := fun w' (h' : IsW w' a len cap xs) => rtop_calls s a len cap xs e w' h' (by omega) hg he
  have hbl := (great_not _).1 hg
  obtain ⟨c1, c2, c3⟩ := fX5 w s a len cap e
  by_cases h0 : val xs = 0
  · have e1 : Hid (tinyQ (val xs) e = false) := by rw [Hid]; unfold tinyQ; rw [if_pos h0]
    rw [h0, blen_zero] at HL
    clear h0 hg he hbl hI
    go_enter Tryz.func135, Tryz.ntmps135
    go_wp2_with fail
    generalize (w.alloc (.cells #[.bool s, .slice a len cap, .int .i64 e] 38)) = w0 at *
    refine Calls.mono HL.out ?_
    rintro r w1 ⟨rfl, b1⟩
    go_wp2_with fail
    go_ret
    rw [e1.out]
    exact ⟨rfl, nT bA b1⟩
  · have hz : ((blen (val xs) : Int) == 0) = false := by
      have : blen (val xs) ≠ 0 := fun q => h0 ((blen_nil _).1 q)
      simp; omega
    have hz' : (blen (val xs) : Int) ≠ 0 := by simpa using hz
    have HC : Hid (tpI (val xs) e + 1 = -1022 → ∀ w', IsW w' a len cap xs → Calls Tryz.prog 133 #[.slice a len cap, .int .i64 e, .int .i64 (-1075)] w' fun r w'' => ∃ v, r = .returned (.tuple #[v, .bool (ls2 (val xs) (-1075 - e))]) ∧ NatAt w'.heap.size w'' v (rd2 (val xs) (-1075 - e)) ∧ Below w'.heap.size w' w'') := fun q w' h' => rcut_calls a len cap xs e (-1075) w' h' hm (by omega) (by decide) (by unfold tpI at q; omega)
    have HR : Hid (tpI (val xs) e + 1 = -1022 → (wordsOf (rd2 (val xs) (-1075 - e))).length ≤ 1) := fun q => (rd_len _ _ 53 (by decide) (by unfold tpI at q; omega)).2
    have HE : Hid (tinyQ (val xs) e = if -1022 < tpI (val xs) e + 1 then false else if tpI (val xs) e + 1 < -1022 then true else decide (blen (rd2 (val xs) (-1075 - e)) ≤ 53)) := by rw [Hid]; unfold tinyQ; rw [if_neg h0]
    have W1 : IntKind.i64.wrap (-1022 - 53) = -1075 := by decide
    generalize tinyQ (val xs) e = ans at *
    generalize rd2 (val xs) (-1075 - e) = q at *
    generalize ls2 (val xs) (-1075 - e) = lo at *
    generalize tpI (val xs) e + 1 = tp at *
    generalize (blen (val xs) : Int) = bl at *
    clear h0 hg he hbl
    go_enter Tryz.func135, Tryz.ntmps135
    go_wp2_with fail
    generalize (w.alloc (.cells #[.bool s, .slice a len cap, .int .i64 e] 38)) = w0 at *
    refine Calls.mono HL.out ?_
    rintro r w1 ⟨rfl, b1⟩
    replace hI := hI.keep b1
    replace c1 := kC b1 c1
    replace c2 := kC b1 c2
    replace c3 := kC b1 c3
    replace bA := nT bA b1
    clear b1
    go_wp2_with fail
    refine Calls.mono (HT.out _ hI) ?_
    rintro r w2 ⟨rfl, b1⟩
    replace hI := hI.keep b1
    replace c1 := kC b1 c1
    replace c2 := kC b1 c2
    replace c3 := kC b1 c3
    replace bA := nT bA b1
    clear b1
    by_cases k1 : -1022 < tp
    · have e1 : Hid (ans = false) := by rw [Hid, HE.out, if_pos k1]
      go_wp2_with fail
      go_ret
      rw [e1.out]
      exact ⟨rfl, bA⟩
    · by_cases k2 : tp < -1022
      · have e1 : Hid (ans = true) := by rw [Hid, HE.out, if_neg k1, if_pos k2]
        go_wp2_with fail
        go_ret
        rw [e1.out]
        exact ⟨rfl, bA⟩
      · have e1 : Hid (ans = decide (blen q ≤ 53)) := by rw [Hid, HE.out, if_neg k1, if_neg k2]
        have ht : tp = -1022 := by omega
        subst ht
        have HC' : Hid _ := HC.out rfl
        have HR' : Hid _ := HR.out rfl
        clear HC HR HE k1 k2
        go_wp2_with fail
        refine Calls.mono (HC'.out _ hI) ?_
        rintro r w3 ⟨v, rfl, ⟨ao, n, c, rfl, hN, hO⟩, b1⟩
        have HN : Hid _ := hN
        replace bA := nT bA b1
        clear hN b1
        go_wp2_with fail
        refine Calls.mono (nLen_calls ao n c _ _ hO.1 (by have := HR'.out; have := HN.out; omega)) ?_
        rintro r w4 ⟨rfl, b1⟩
        rw [val_words]
        go_wp2_with fail
        go_ret
        rw [e1.out, show decide (blen q ≤ 53) = decide ((blen q : Int) ≤ 53) from by rw [decide_eq_decide]; omega]
        exact ⟨rfl, nT bA b1⟩
def putV (q : Nat) (l : Int) : Int := if q < 4503599627370496 then (q : Int) else if 971 < l then 9218868437227405312 else (l + 1075) * 4503599627370496 + q - 4503599627370496
set_option maxRecDepth 100000 in
set_option maxHeartbeats 2000000 in
theorem put_calls (ao : Option Addr) (n c q : Nat) (l : Int) (w : World) (hI : IsW w ao n c (wordsOf q)) (hq : q ≤ 9007199254740992) (hl : -1074 ≤ l ∧ l ≤ 1100) :
    Calls Tryz.prog 134 #[.slice ao n c, .int .i64 l] w fun r w' => r = .returned (.int .u64 (putV q l)) ∧ w' = w := by
  have hn := hI.1
  by_cases h0 : q = 0
  · have hn0 := no_word q h0 n hn
    subst h0 hn0
    have e1 : Hid (putV 0 l = 0) := by rw [Hid]; unfold putV; rw [if_pos (by decide)]; rfl
    clear hn hI
    go_enter Tryz.func134, Tryz.ntmps134
    go_wp2_with fail
    go_ret
    rw [e1.out]
    exact ⟨rfl, rfl⟩
  · obtain ⟨hp, b, off, rfl, hc⟩ := first_word q h0 (by omega) w ao n c hI hn
    have HN : Hid _ := hn
    clear hn hI
    by_cases h1 : q < 4503599627370496
    · have e1 : Hid (putV q l = (q : Int)) := by rw [Hid]; unfold putV; rw [if_pos h1]
      have h1' : (q : Int) < 4503599627370496 := by omega
      clear h1
      go_enter Tryz.func134, Tryz.ntmps134
      go_wp2_with fail
      go_ret
      rw [e1.out]
      exact ⟨rfl, rfl⟩
    · have h1' : ¬ (q : Int) < 4503599627370496 := by omega
      by_cases h2 : 971 < l
      · have e1 : Hid (putV q l = 9218868437227405312) := by rw [Hid]; unfold putV; rw [if_neg h1, if_pos h2]
        clear h1
        go_enter Tryz.func134, Tryz.ntmps134
        go_wp2_with fail
        go_ret
        rw [e1.out]
        exact ⟨rfl, rfl⟩
      · have e1 : Hid (putV q l = (l + 1075) * 4503599627370496 + q - 4503599627370496) := by rw [Hid]; unfold putV; rw [if_neg h1, if_neg h2]
        obtain ⟨L, hL⟩ : ∃ L : Int, l + 1075 = L := ⟨_, rfl⟩
        have W1 : IntKind.i64.wrap (l + 1075) = L := by rw [IntKind.wrap_i64]; omega
        have W2 : IntKind.u64.wrap L = L := by rw [IntKind.wrap_u64]; omega
        have W3 : IntKind.u64.wrap (L * 4503599627370496) = L * 4503599627370496 := by rw [IntKind.wrap_u64]; omega
        have W4 : IntKind.u64.wrap (L * 4503599627370496 + (q : Int)) = L * 4503599627370496 + (q : Int) := by rw [IntKind.wrap_u64]; omega
        have W5 : IntKind.u64.wrap (L * 4503599627370496 + (q : Int) - 4503599627370496) = L * 4503599627370496 + (q : Int) - 4503599627370496 := by rw [IntKind.wrap_u64]; omega
        rw [hL] at e1
        clear h1 hL
        go_enter Tryz.func134, Tryz.ntmps134
        go_wp2_with fail
        go_ret
        rw [e1.out]
        exact ⟨rfl, rfl⟩
end Go.Proofs.YtfgemlgmhlidmaaGreatDoor

/- The walk of the statement on roots between, texts back, lengths. -/
import Derived.Test.YtfmjgagajlhfoaaDoorNBt0
import Derived.Test.YtfmjgagajlhfoaaDoorNLives
namespace Go.Proofs.YtfmjgagajlhfoaaDoor
open Go.RowKit

set_option maxRecDepth 100000 in
set_option maxHeartbeats 8000000 in
theorem between_great (a : Option Addr) (len cap : Nat) (xs : List Int) (w : World) (hA : IsW w a len cap xs) (hm : len ≤ 17592186044000) (_hT : Tab w) (hP : TabP w) (hg : greatB (val xs) = true) :
    Calls Tryd.prog 4 #[.slice a len cap] w fun e w' => e = .returned (.bool true) ∧ Below w.heap.size w w' := by
  have HA : Hid (IsW w a len cap xs) := hA
  have SC : Hid (∀ W, Below w.heap.size w W → _) := fun W hW => sqrt_calls a len cap xs W (HA.out.keep hW) (by omega)
  have CC : Hid (∀ W, Below w.heap.size w W → _) := fun W hW => cbrt_calls a len cap xs W (HA.out.keep hW) (by omega)
  rw [(rt_great (k := 2) hg).2.2] at SC CC
  have LV : Hid _ := lives_calls w hP
  clear hA hP hg
  go_enter Tryd.func4, Tryd.ntmps4
  go_wp2_with fail
  refine Calls.mono LV.out ?_
  rintro e w1 ⟨rfl, b1⟩
  go_wp2_with fail
  refine Calls.mono (SC.out w1 b1) ?_
  rintro e w2 ⟨v, v', rfl, _, _, b2⟩
  have b12 := nbelow_trans b1 b2
  go_wp2_with fail
  refine Calls.mono (CC.out w2 b12) ?_
  rintro e w3 ⟨u, u', rfl, _, _, b3⟩
  go_wp2_with fail
  go_ret
  exact ⟨rfl, nbelow_trans b12 b3⟩

set_option maxRecDepth 100000 in
set_option maxHeartbeats 8000000 in
theorem between_fit (a : Option Addr) (len cap : Nat) (xs : List Int) (w : World) (hA : IsW w a len cap xs) (hm : len ≤ 17592186044000) (hT : Tab w) (hP : TabP w) (hg : greatB (val xs) = false) :
    Calls Tryd.prog 4 #[.slice a len cap] w fun e w' => e = .returned (.bool true) ∧ Below w.heap.size w w' := by
  have HA : Hid (IsW w a len cap xs) := hA
  have HP : Hid (TabP w) := hP
  have HT : Hid (Tab w) := hT
  have hbl : blen (val xs) ≤ 65536 := (great_not _).1 hg
  have SC : Hid (∀ W, Below w.heap.size w W → _) := fun W hW => sqrt_calls a len cap xs W (HA.out.keep hW) (by omega)
  have CC : Hid (∀ W, Below w.heap.size w W → _) := fun W hW => cbrt_calls a len cap xs W (HA.out.keep hW) (by omega)
  rw [(rt_fit (k := 2) hg).1, (rt_fit (k := 2) hg).2.1, (rt_fit (k := 2) hg).2.2] at SC
  rw [(rt_fit (k := 3) hg).1, (rt_fit (k := 3) hg).2.1, (rt_fit (k := 3) hg).2.2] at CC
  have L2 : Hid _ := rt_lens (k := 2) (u := val xs) (by decide)
  have L3 : Hid _ := rt_lens (k := 3) (u := val xs) (by decide)
  rw [(rt_fit (k := 2) hg).1, (rt_fit (k := 2) hg).2.1] at L2
  rw [(rt_fit (k := 3) hg).1, (rt_fit (k := 3) hg).2.1] at L3
  have HF : Hid _ := fitR_no hg
  have N2 : Hid _ := root_next (k := 2) (by decide) hg
  have N3 : Hid _ := root_next (k := 3) (by decide) hg
  have P2 : Hid _ := root_pow (k := 2) (by decide) hg
  have P3 : Hid _ := root_pow (k := 3) (by decide) hg
  have B2 : Hid _ := root_back (k := 2) (by decide) hg
  have B3 : Hid _ := root_back (k := 3) (by decide) hg
  obtain ⟨u2, e2, U2, hu2, hw2⟩ := root_up (k := 2) (by decide) hg
  obtain ⟨u3, e3, U3, hu3, hw3⟩ := root_up (k := 3) (by decide) hg
  have HU2 : Hid ((e2 = 3 ∧ u2 = 0) ∨ (e2 = 0 ∧ cmpN u2 (val xs) = 1)) := hu2
  have HU3 : Hid ((e3 = 3 ∧ u3 = 0) ∨ (e3 = 0 ∧ cmpN u3 (val xs) = 1)) := hu3
  have HW : Hid ((wordsOf u2).length ≤ 1024 ∧ (wordsOf u3).length ≤ 1024) := ⟨hw2, hw3⟩
  have HUU2 : Hid _ := U2
  have HUU3 : Hid _ := U3
  clear hu2 hu3 hw2 hw3 U2 U3
  have TC : Hid (∀ W, Below w.heap.size w W → Calls Tryd.prog 5 #[.slice a len cap] W fun e w' => e = .returned (.tuple #[.string ⟨(Lib.decDigits (val xs)).toArray⟩, .int .i64 0]) ∧ Below W.heap.size W w') := fun W hW => Calls.mono (text_calls a len cap xs W (HA.out.keep hW) (by omega) (HP.out.kept hW)) (fun e w' h => ⟨h.2.1 hg, h.2.2⟩)
  have LC : Hid (∀ W, Below w.heap.size w W → Calls Tryd.prog 18 #[.slice a len cap] W fun e w' => e = .returned (.tuple #[.int .i64 (blen (val xs)), .int .i64 0]) ∧ Below W.heap.size W w') := fun W hW => Calls.mono (len_calls a len cap xs W (HA.out.keep hW) (by omega)) (fun e w' h => ⟨h.2.1 hg, h.2.2⟩)
  have WC : Hid (∀ W, Below w.heap.size w W → Calls Tryd.prog 19 #[.slice a len cap] W fun e w' => e = .returned (.tuple #[.int .i64 (tz (val xs)), .int .i64 0]) ∧ Below W.heap.size W w') := fun W hW => Calls.mono (low_calls a len cap xs W (HA.out.keep hW) (by omega) (HT.out.kept hW)) (fun e w' h => ⟨h.2.1 hg, h.2.2⟩)
  have BC : Hid (∀ W (i : Nat), i ≤ 65536 → Below w.heap.size w W → Calls Tryd.prog 20 #[.slice a len cap, .int .i64 (i : Int)] W fun e w' => e = .returned (.tuple #[.bool ((val xs).testBit i), .int .i64 0]) ∧ Below W.heap.size W w') := fun W i hi hW => Calls.mono (bit_calls a len cap xs (i : Int) W (HA.out.keep hW) (by omega) (by omega)) (fun e w' h => ⟨by have := h.2.2.1 hg (by omega); rwa [Int.toNat_natCast] at this, h.2.2.2⟩)
  have PD : Hid _ := par_dec (val xs)
  have TB : Hid _ := top_bit (val xs)
  have ZB : Hid (val xs ≠ 0 → (val xs).testBit (tz (val xs)) = true ∧ tz (val xs) < blen (val xs)) := fun q => ⟨(tz_bit _ q).1, tz_below _ q⟩
  have Z0 : Hid (val xs = 0 → tz (val xs) = 0 ∧ blen (val xs) = 0 ∧ (wordsOf (val xs)).length = 0) := fun q => by rw [q, tz_zero, blen_zero, words_zero]; exact ⟨rfl, rfl, rfl⟩
  have hvl : (wordsOf (val xs)).length ≤ 1024 := (great_len _).1 hg
  have NC : Hid (∀ W, Below w.heap.size w W → _) := fun W hW => norm_eq2 (HA.out.keep hW) (show len ≤ 17592186044416 by omega) HF.out
  have HVN : Hid ((wordsOf (val xs)).length ≠ 0 → val xs ≠ 0) := fun q e => q (by rw [e, words_zero]; rfl)
  obtain ⟨T, hTT⟩ : ∃ T : ByteArray, T = ⟨(Lib.decDigits (val xs)).toArray⟩ := ⟨_, rfl⟩
  rw [← hTT] at TC
  have HTT : Hid (T.data.toList = Lib.decDigits (val xs)) := by rw [Hid, hTT]
  have HTS : Hid (T.size = (Lib.decDigits (val xs)).length) := by rw [hTT]; rfl
  generalize rt 2 (val xs) = r2 at *
  generalize rt 3 (val xs) = r3 at *
  obtain ⟨V, hV⟩ : ∃ V, V = val xs := ⟨_, rfl⟩
  rw [← hV] at SC CC HF B2 B3 HU2 HU3 LC WC BC PD TB ZB Z0 hvl NC HVN HTT HTS L2 L3 hbl
  clear hA hP hT hg hV hTT HA
  have b0 : Below w.heap.size w w := Below.refl _ _
  go_enter Tryd.func4, Tryd.ntmps4
  go_wp2_with fail
  refine Calls.mono (lives_calls w HP.out) ?_
  rintro e w1 ⟨rfl, b⟩
  have b1 := nbelow_trans b0 b
  clear b b0 
  go_wp2_with fail
  refine Calls.mono (SC.out w1 b1) ?_
  rintro e w2 ⟨v, v', rfl, ⟨a2, n2, c2, rfl, hn, hO⟩, ⟨d2, p2, t2, rfl, hp, hQ⟩, b⟩
  have b2 := nbelow_trans b1 b
  have hn2 : n2 ≤ 1024 := by rw [hn]; exact L2.out.1
  have hp2 : p2 ≤ 1024 := by rw [hp]; exact L2.out.2
  have I2 := hO.1
  have K2 := hQ.1
  clear b b1 hn hp hO hQ SC
  go_wp2_with fail
  refine Calls.mono (CC.out w2 b2) ?_
  rintro e w3 ⟨v, v', rfl, ⟨a3, n3, c3, rfl, hn, hO⟩, ⟨d3, p3, t3, rfl, hp, hQ⟩, b⟩
  have b3 := nbelow_trans b2 b
  replace I2 := I2.keep b
  replace K2 := K2.keep b
  have hn3 : n3 ≤ 1024 := by rw [hn]; exact L3.out.1
  have hp3 : p3 ≤ 1024 := by rw [hp]; exact L3.out.2
  have I3 := hO.1
  have K3 := hQ.1
  clear b b2 hn hp hO hQ CC
  go_wp2_with fail
  refine Calls.mono (NC.out w3 b3) ?_
  rintro e w4 ⟨a4, n4, c4, rfl, H4, hn4, hO, b⟩
  have b4 := nbelow_trans b3 b
  replace I2 := I2.keep b
  replace K2 := K2.keep b
  replace I3 := I3.keep b
  replace K3 := K3.keep b
  have I4 := hO.1
  clear b b3 hO
  go_wp2_with fail
  have bz := below_one w4 (.cells #[.int .u64 1] 39)
  have hr : addR (val (wordsOf r2)) (val [(1 : Int)]) = (r2 + 1, 0) := by rw [val_words]; exact N2.out
  refine Calls.mono (add_eq (I2.keep bz) (lit1_isW 1 39 w4 _ rfl (by decide) (by decide)) (by omega) (by decide) hr) ?_
  rintro e w5 ⟨a5, n5, c5, rfl, H5, hn5, hO, b⟩
  replace b := nbelow_trans bz b
  have b5 := nbelow_trans b4 b
  replace I2 := I2.keep b
  replace K2 := K2.keep b
  replace I3 := I3.keep b
  replace K3 := K3.keep b
  replace I4 := I4.keep b
  have I5 := hO.1
  clear b b4 hO bz hr
  go_wp2_with fail
  have bz := below_one w5 (.cells #[.int .u64 1] 39)
  have hr : addR (val (wordsOf r3)) (val [(1 : Int)]) = (r3 + 1, 0) := by rw [val_words]; exact N3.out
  refine Calls.mono (add_eq (I3.keep bz) (lit1_isW 1 39 w5 _ rfl (by decide) (by decide)) (by omega) (by decide) hr) ?_
  rintro e w6 ⟨a6, n6, c6, rfl, H6, hn6, hO, b⟩
  replace b := nbelow_trans bz b
  have b6 := nbelow_trans b5 b
  replace I2 := I2.keep b
  replace K2 := K2.keep b
  replace I3 := I3.keep b
  replace K3 := K3.keep b
  replace I4 := I4.keep b
  replace I5 := I5.keep b
  have I6 := hO.1
  clear b b5 hO bz hr
  have hr : powR (val (wordsOf r2)) 2 = (r2 ^ 2, 0) := by rw [val_words]; exact P2.out
  go_wp2_with fail
  refine Calls.mono (pow_eq I2 (by omega) (by decide) hr) ?_
  rintro e w7 ⟨a7, n7, c7, rfl, H7, hn7, hO, b⟩
  have b7 := nbelow_trans b6 b
  replace I2 := I2.keep b
  replace K2 := K2.keep b
  replace I3 := I3.keep b
  replace K3 := K3.keep b
  replace I4 := I4.keep b
  replace I5 := I5.keep b
  replace I6 := I6.keep b
  have I7 := hO.1
  clear b b6 hO hr
  have hr : powR (val (wordsOf r3)) 3 = (r3 ^ 3, 0) := by rw [val_words]; exact P3.out
  go_wp2_with fail
  refine Calls.mono (pow_eq I3 (by omega) (by decide) hr) ?_
  rintro e w8 ⟨a8, n8, c8, rfl, H8, hn8, hO, b⟩
  have b8 := nbelow_trans b7 b
  replace I2 := I2.keep b
  replace K2 := K2.keep b
  replace I3 := I3.keep b
  replace K3 := K3.keep b
  replace I4 := I4.keep b
  replace I5 := I5.keep b
  replace I6 := I6.keep b
  replace I7 := I7.keep b
  have I8 := hO.1
  clear b b7 hO hr
  have hr : powR (val (wordsOf (r2 + 1))) 2 = (u2, e2) := by rw [val_words]; exact HUU2.out
  go_wp2_with fail
  refine Calls.mono (pow_eq I5 (by omega) (by decide) hr) ?_
  rintro e w9 ⟨a9, n9, c9, rfl, H9, hn9, hO, b⟩
  have b9 := nbelow_trans b8 b
  replace I2 := I2.keep b
  replace K2 := K2.keep b
  replace I3 := I3.keep b
  replace K3 := K3.keep b
  replace I4 := I4.keep b
  replace I5 := I5.keep b
  replace I6 := I6.keep b
  replace I7 := I7.keep b
  replace I8 := I8.keep b
  have I9 := hO.1
  clear b b8 hO hr
  have hr : powR (val (wordsOf (r3 + 1))) 3 = (u3, e3) := by rw [val_words]; exact HUU3.out
  go_wp2_with fail
  refine Calls.mono (pow_eq I6 (by omega) (by decide) hr) ?_
  rintro e w10 ⟨a10, n10, c10, rfl, H10, hn10, hO, b⟩
  have b10 := nbelow_trans b9 b
  replace I2 := I2.keep b
  replace K2 := K2.keep b
  replace I3 := I3.keep b
  replace K3 := K3.keep b
  replace I4 := I4.keep b
  replace I5 := I5.keep b
  replace I6 := I6.keep b
  replace I7 := I7.keep b
  replace I8 := I8.keep b
  replace I9 := I9.keep b
  have I10 := hO.1
  clear b b9 hO hr
  have hr : addR (val (wordsOf (r2 ^ 2))) (val (wordsOf (V - r2 ^ 2))) = (V, 0) := by rw [val_words, val_words]; exact B2.out
  go_wp2_with fail
  refine Calls.mono (add_eq I7 K2 (by omega) (by omega) hr) ?_
  rintro e w11 ⟨a11, n11, c11, rfl, H11, hn11, hO, b⟩
  have b11 := nbelow_trans b10 b
  replace I2 := I2.keep b
  replace K2 := K2.keep b
  replace I3 := I3.keep b
  replace K3 := K3.keep b
  replace I4 := I4.keep b
  replace I5 := I5.keep b
  replace I6 := I6.keep b
  replace I7 := I7.keep b
  replace I8 := I8.keep b
  replace I9 := I9.keep b
  replace I10 := I10.keep b
  have I11 := hO.1
  clear b b10 hO hr
  have hr : addR (val (wordsOf (r3 ^ 3))) (val (wordsOf (V - r3 ^ 3))) = (V, 0) := by rw [val_words, val_words]; exact B3.out
  go_wp2_with fail
  refine Calls.mono (add_eq I8 K3 (by omega) (by omega) hr) ?_
  rintro e w12 ⟨a12, n12, c12, rfl, H12, hn12, hO, b⟩
  have b12 := nbelow_trans b11 b
  replace I2 := I2.keep b
  replace K2 := K2.keep b
  replace I3 := I3.keep b
  replace K3 := K3.keep b
  replace I4 := I4.keep b
  replace I5 := I5.keep b
  replace I6 := I6.keep b
  replace I7 := I7.keep b
  replace I8 := I8.keep b
  replace I9 := I9.keep b
  replace I10 := I10.keep b
  replace I11 := I11.keep b
  have I12 := hO.1
  clear b b11 hO hr
  clear I2 K2 I3 K3 I5 I6 I7 I8 N2 N3 P2 P3 B2 B3 HUU2 HUU3 L2 L3
  go_wp2_with fail
  refine Calls.mono (nSame_calls _ _ _ _ _ _ _ _ _ I11 I4 (by omega) (by omega)) ?_
  rintro e w13 ⟨rfl, b⟩
  have b13 := nbelow_trans b12 b
  replace I4 := I4.keep b
  replace I9 := I9.keep b
  replace I10 := I10.keep b
  replace I12 := I12.keep b
  rw [show decide (wordsOf V = wordsOf V) = true by simp]
  clear b b12 I11
  go_wp2_with fail
  refine Calls.mono (nSame_calls _ _ _ _ _ _ _ _ _ I12 I4 (by omega) (by omega)) ?_
  rintro e w14 ⟨rfl, b⟩
  have b14 := nbelow_trans b13 b
  replace I4 := I4.keep b
  replace I9 := I9.keep b
  replace I10 := I10.keep b
  rw [show decide (wordsOf V = wordsOf V) = true by simp]
  clear b b13 I12
  have hV4 : n4 = (wordsOf V).length := H4.out
  have HN4 : Hid (n4 = (wordsOf V).length) := hV4
  clear hV4
  have C2 : Hid _ := nCmp_calls _ _ _ _ _ _ _ _ _ I9 I4 (by omega) (by omega)
  have C3 : Hid _ := nCmp_calls _ _ _ _ _ _ _ _ _ I10 I4 (by omega) (by omega)
  rw [val_words, val_words] at C2 C3
  have hc2 : (e2 = 3 ∧ True) ∨ (e2 = 0 ∧ cmpN u2 V = 1) := HU2.out.imp (fun q => ⟨q.1, trivial⟩) id
  have hc3 : (e3 = 3 ∧ True) ∨ (e3 = 0 ∧ cmpN u3 V = 1) := HU3.out.imp (fun q => ⟨q.1, trivial⟩) id
  clear HU2 HU3 I9 I10
  rcases hc2 with hc2 | hc2 <;> rcases hc3 with hc3 | hc3
  · obtain ⟨rfl, hx2⟩ := hc2
    obtain ⟨rfl, hx3⟩ := hc3
    have HX2 : Hid _ := hx2
    have HX3 : Hid _ := hx3
    clear hx2 hx3
    clear C2 C3
    go_wp2_with fail
    refine Calls.mono (TC.out w14 b14) ?_
    rintro e w15 ⟨rfl, b⟩
    have b15 := nbelow_trans b14 b
    replace I4 := I4.keep b
    clear b b14 TC
    by_cases hts : T.size ≤ 4096
    · have PC : Hid _ := parse_calls T w15
      rw [HTT.out, (PD.out (by rw [← HTS.out]; exact hts)).1, (PD.out (by rw [← HTS.out]; exact hts)).2.1, (PD.out (by rw [← HTS.out]; exact hts)).2.2] at PC
      go_wp2_with fail
      refine Calls.mono (PC.out) ?_
      rintro e w16 ⟨v, rfl, ⟨a20, n20, c20, rfl, hn, hO⟩, b⟩
      have b16 := nbelow_trans b15 b
      replace I4 := I4.keep b
      have hn20 : n20 ≤ 1024 := by rw [hn]; exact hvl
      have J := hO.1
      clear b b15 hn hO PC
      go_wp2_with fail
      refine Calls.mono (nSame_calls _ _ _ _ _ _ _ _ _ J I4 (by omega) (by omega)) ?_
      rintro e w17 ⟨rfl, b⟩
      have b17 := nbelow_trans b16 b
      replace I4 := I4.keep b
      rw [show decide (wordsOf V = wordsOf V) = true by simp]
      clear b b16 J
      clear I4
      go_wp2_with fail
      refine Calls.mono (LC.out w17 b17) ?_
      rintro e w18 ⟨rfl, b⟩
      have b18 := nbelow_trans b17 b
      clear b b17 LC
      go_wp2_with fail
      refine Calls.mono (WC.out w18 b18) ?_
      rintro e w19 ⟨rfl, b⟩
      have b19 := nbelow_trans b18 b
      clear b b18 WC
      have D1 : Hid _ := BC.out w19 (blen V) hbl b19
      rw [TB.out] at D1
      go_wp2_with fail
      refine Calls.mono (D1.out) ?_
      rintro e w20 ⟨rfl, b⟩
      have b20 := nbelow_trans b19 b
      clear b b19 D1
      by_cases hz : V = 0
      · obtain ⟨z1, z2, z3⟩ := Z0.out hz
        have hn0 : n4 = 0 := by rw [HN4.out]; exact z3
        rw [z1, z2]
        have D2 : Hid _ := BC.out w20 0 (by decide) b20
        subst hn0
        generalize V.testBit 0 = fb at D2
        clear hz z1 z2 z3 HN4 ZB
        go_wp2_with fail
        refine Calls.mono (D2.out) ?_
        rintro e w21 ⟨rfl, b⟩
        have b21 := nbelow_trans b20 b
        clear b b20 D2
        go_wp2_with fail
        go_ret
        exact ⟨nret_bool (by simp), b21⟩
      · obtain ⟨z1, z2⟩ := ZB.out hz
        have D2 : Hid _ := BC.out w20 (tz V) (by omega) b20
        rw [z1] at D2
        have hn0 : ((n4 : Int) == 0) = false := by
          have h1 := HN4.out
          have h2 : n4 ≠ 0 := fun q => hz ((words_nil V).1 (List.length_eq_zero_iff.1 (by rw [← h1]; exact q)))
          simp; omega
        have hz2 : ((tz V : Nat) : Int) < ((blen V : Nat) : Int) := by omega
        generalize tz V = tv at *
        generalize blen V = bv at *
        clear hz z1 HN4 ZB Z0
        go_wp2_with fail
        refine Calls.mono (D2.out) ?_
        rintro e w21 ⟨rfl, b⟩
        have b21 := nbelow_trans b20 b
        clear b b20 D2
        go_wp2_with fail
        go_ret
        exact ⟨nret_bool (by simp), b21⟩
    · clear I4
      go_wp2_with fail
      refine Calls.mono (LC.out w15 b15) ?_
      rintro e w16 ⟨rfl, b⟩
      have b16 := nbelow_trans b15 b
      clear b b15 LC
      go_wp2_with fail
      refine Calls.mono (WC.out w16 b16) ?_
      rintro e w17 ⟨rfl, b⟩
      have b17 := nbelow_trans b16 b
      clear b b16 WC
      have D1 : Hid _ := BC.out w17 (blen V) hbl b17
      rw [TB.out] at D1
      go_wp2_with fail
      refine Calls.mono (D1.out) ?_
      rintro e w18 ⟨rfl, b⟩
      have b18 := nbelow_trans b17 b
      clear b b17 D1
      by_cases hz : V = 0
      · obtain ⟨z1, z2, z3⟩ := Z0.out hz
        have hn0 : n4 = 0 := by rw [HN4.out]; exact z3
        rw [z1, z2]
        have D2 : Hid _ := BC.out w18 0 (by decide) b18
        subst hn0
        generalize V.testBit 0 = fb at D2
        clear hz z1 z2 z3 HN4 ZB
        go_wp2_with fail
        refine Calls.mono (D2.out) ?_
        rintro e w19 ⟨rfl, b⟩
        have b19 := nbelow_trans b18 b
        clear b b18 D2
        go_wp2_with fail
        go_ret
        exact ⟨nret_bool (by simp), b19⟩
      · obtain ⟨z1, z2⟩ := ZB.out hz
        have D2 : Hid _ := BC.out w18 (tz V) (by omega) b18
        rw [z1] at D2
        have hn0 : ((n4 : Int) == 0) = false := by
          have h1 := HN4.out
          have h2 : n4 ≠ 0 := fun q => hz ((words_nil V).1 (List.length_eq_zero_iff.1 (by rw [← h1]; exact q)))
          simp; omega
        have hz2 : ((tz V : Nat) : Int) < ((blen V : Nat) : Int) := by omega
        generalize tz V = tv at *
        generalize blen V = bv at *
        clear hz z1 HN4 ZB Z0
        go_wp2_with fail
        refine Calls.mono (D2.out) ?_
        rintro e w19 ⟨rfl, b⟩
        have b19 := nbelow_trans b18 b
        clear b b18 D2
        go_wp2_with fail
        go_ret
        exact ⟨nret_bool (by simp), b19⟩
  · obtain ⟨rfl, hx2⟩ := hc2
    obtain ⟨rfl, hx3⟩ := hc3
    have HX2 : Hid _ := hx2
    have HX3 : Hid _ := hx3
    clear hx2 hx3
    rw [HX3.out] at C3
    go_wp2_with fail
    refine Calls.mono C3.out ?_
    rintro e w14 ⟨rfl, rfl⟩
    clear C2 C3
    go_wp2_with fail
    refine Calls.mono (TC.out w14 b14) ?_
    rintro e w15 ⟨rfl, b⟩
    have b15 := nbelow_trans b14 b
    replace I4 := I4.keep b
    clear b b14 TC
    by_cases hts : T.size ≤ 4096
    · have PC : Hid _ := parse_calls T w15
      rw [HTT.out, (PD.out (by rw [← HTS.out]; exact hts)).1, (PD.out (by rw [← HTS.out]; exact hts)).2.1, (PD.out (by rw [← HTS.out]; exact hts)).2.2] at PC
      go_wp2_with fail
      refine Calls.mono (PC.out) ?_
      rintro e w16 ⟨v, rfl, ⟨a20, n20, c20, rfl, hn, hO⟩, b⟩
      have b16 := nbelow_trans b15 b
      replace I4 := I4.keep b
      have hn20 : n20 ≤ 1024 := by rw [hn]; exact hvl
      have J := hO.1
      clear b b15 hn hO PC
      go_wp2_with fail
      refine Calls.mono (nSame_calls _ _ _ _ _ _ _ _ _ J I4 (by omega) (by omega)) ?_
      rintro e w17 ⟨rfl, b⟩
      have b17 := nbelow_trans b16 b
      replace I4 := I4.keep b
      rw [show decide (wordsOf V = wordsOf V) = true by simp]
      clear b b16 J
      clear I4
      go_wp2_with fail
      refine Calls.mono (LC.out w17 b17) ?_
      rintro e w18 ⟨rfl, b⟩
      have b18 := nbelow_trans b17 b
      clear b b17 LC
      go_wp2_with fail
      refine Calls.mono (WC.out w18 b18) ?_
      rintro e w19 ⟨rfl, b⟩
      have b19 := nbelow_trans b18 b
      clear b b18 WC
      have D1 : Hid _ := BC.out w19 (blen V) hbl b19
      rw [TB.out] at D1
      go_wp2_with fail
      refine Calls.mono (D1.out) ?_
      rintro e w20 ⟨rfl, b⟩
      have b20 := nbelow_trans b19 b
      clear b b19 D1
      by_cases hz : V = 0
      · obtain ⟨z1, z2, z3⟩ := Z0.out hz
        have hn0 : n4 = 0 := by rw [HN4.out]; exact z3
        rw [z1, z2]
        have D2 : Hid _ := BC.out w20 0 (by decide) b20
        subst hn0
        generalize V.testBit 0 = fb at D2
        clear hz z1 z2 z3 HN4 ZB
        go_wp2_with fail
        refine Calls.mono (D2.out) ?_
        rintro e w21 ⟨rfl, b⟩
        have b21 := nbelow_trans b20 b
        clear b b20 D2
        go_wp2_with fail
        go_ret
        exact ⟨nret_bool (by simp), b21⟩
      · obtain ⟨z1, z2⟩ := ZB.out hz
        have D2 : Hid _ := BC.out w20 (tz V) (by omega) b20
        rw [z1] at D2
        have hn0 : ((n4 : Int) == 0) = false := by
          have h1 := HN4.out
          have h2 : n4 ≠ 0 := fun q => hz ((words_nil V).1 (List.length_eq_zero_iff.1 (by rw [← h1]; exact q)))
          simp; omega
        have hz2 : ((tz V : Nat) : Int) < ((blen V : Nat) : Int) := by omega
        generalize tz V = tv at *
        generalize blen V = bv at *
        clear hz z1 HN4 ZB Z0
        go_wp2_with fail
        refine Calls.mono (D2.out) ?_
        rintro e w21 ⟨rfl, b⟩
        have b21 := nbelow_trans b20 b
        clear b b20 D2
        go_wp2_with fail
        go_ret
        exact ⟨nret_bool (by simp), b21⟩
    · clear I4
      go_wp2_with fail
      refine Calls.mono (LC.out w15 b15) ?_
      rintro e w16 ⟨rfl, b⟩
      have b16 := nbelow_trans b15 b
      clear b b15 LC
      go_wp2_with fail
      refine Calls.mono (WC.out w16 b16) ?_
      rintro e w17 ⟨rfl, b⟩
      have b17 := nbelow_trans b16 b
      clear b b16 WC
      have D1 : Hid _ := BC.out w17 (blen V) hbl b17
      rw [TB.out] at D1
      go_wp2_with fail
      refine Calls.mono (D1.out) ?_
      rintro e w18 ⟨rfl, b⟩
      have b18 := nbelow_trans b17 b
      clear b b17 D1
      by_cases hz : V = 0
      · obtain ⟨z1, z2, z3⟩ := Z0.out hz
        have hn0 : n4 = 0 := by rw [HN4.out]; exact z3
        rw [z1, z2]
        have D2 : Hid _ := BC.out w18 0 (by decide) b18
        subst hn0
        generalize V.testBit 0 = fb at D2
        clear hz z1 z2 z3 HN4 ZB
        go_wp2_with fail
        refine Calls.mono (D2.out) ?_
        rintro e w19 ⟨rfl, b⟩
        have b19 := nbelow_trans b18 b
        clear b b18 D2
        go_wp2_with fail
        go_ret
        exact ⟨nret_bool (by simp), b19⟩
      · obtain ⟨z1, z2⟩ := ZB.out hz
        have D2 : Hid _ := BC.out w18 (tz V) (by omega) b18
        rw [z1] at D2
        have hn0 : ((n4 : Int) == 0) = false := by
          have h1 := HN4.out
          have h2 : n4 ≠ 0 := fun q => hz ((words_nil V).1 (List.length_eq_zero_iff.1 (by rw [← h1]; exact q)))
          simp; omega
        have hz2 : ((tz V : Nat) : Int) < ((blen V : Nat) : Int) := by omega
        generalize tz V = tv at *
        generalize blen V = bv at *
        clear hz z1 HN4 ZB Z0
        go_wp2_with fail
        refine Calls.mono (D2.out) ?_
        rintro e w19 ⟨rfl, b⟩
        have b19 := nbelow_trans b18 b
        clear b b18 D2
        go_wp2_with fail
        go_ret
        exact ⟨nret_bool (by simp), b19⟩
  · obtain ⟨rfl, hx2⟩ := hc2
    obtain ⟨rfl, hx3⟩ := hc3
    have HX2 : Hid _ := hx2
    have HX3 : Hid _ := hx3
    clear hx2 hx3
    rw [HX2.out] at C2
    go_wp2_with fail
    refine Calls.mono C2.out ?_
    rintro e w14 ⟨rfl, rfl⟩
    clear C2 C3
    go_wp2_with fail
    refine Calls.mono (TC.out w14 b14) ?_
    rintro e w15 ⟨rfl, b⟩
    have b15 := nbelow_trans b14 b
    replace I4 := I4.keep b
    clear b b14 TC
    by_cases hts : T.size ≤ 4096
    · have PC : Hid _ := parse_calls T w15
      rw [HTT.out, (PD.out (by rw [← HTS.out]; exact hts)).1, (PD.out (by rw [← HTS.out]; exact hts)).2.1, (PD.out (by rw [← HTS.out]; exact hts)).2.2] at PC
      go_wp2_with fail
      refine Calls.mono (PC.out) ?_
      rintro e w16 ⟨v, rfl, ⟨a20, n20, c20, rfl, hn, hO⟩, b⟩
      have b16 := nbelow_trans b15 b
      replace I4 := I4.keep b
      have hn20 : n20 ≤ 1024 := by rw [hn]; exact hvl
      have J := hO.1
      clear b b15 hn hO PC
      go_wp2_with fail
      refine Calls.mono (nSame_calls _ _ _ _ _ _ _ _ _ J I4 (by omega) (by omega)) ?_
      rintro e w17 ⟨rfl, b⟩
      have b17 := nbelow_trans b16 b
      replace I4 := I4.keep b
      rw [show decide (wordsOf V = wordsOf V) = true by simp]
      clear b b16 J
      clear I4
      go_wp2_with fail
      refine Calls.mono (LC.out w17 b17) ?_
      rintro e w18 ⟨rfl, b⟩
      have b18 := nbelow_trans b17 b
      clear b b17 LC
      go_wp2_with fail
      refine Calls.mono (WC.out w18 b18) ?_
      rintro e w19 ⟨rfl, b⟩
      have b19 := nbelow_trans b18 b
      clear b b18 WC
      have D1 : Hid _ := BC.out w19 (blen V) hbl b19
      rw [TB.out] at D1
      go_wp2_with fail
      refine Calls.mono (D1.out) ?_
      rintro e w20 ⟨rfl, b⟩
      have b20 := nbelow_trans b19 b
      clear b b19 D1
      by_cases hz : V = 0
      · obtain ⟨z1, z2, z3⟩ := Z0.out hz
        have hn0 : n4 = 0 := by rw [HN4.out]; exact z3
        rw [z1, z2]
        have D2 : Hid _ := BC.out w20 0 (by decide) b20
        subst hn0
        generalize V.testBit 0 = fb at D2
        clear hz z1 z2 z3 HN4 ZB
        go_wp2_with fail
        refine Calls.mono (D2.out) ?_
        rintro e w21 ⟨rfl, b⟩
        have b21 := nbelow_trans b20 b
        clear b b20 D2
        go_wp2_with fail
        go_ret
        exact ⟨nret_bool (by simp), b21⟩
      · obtain ⟨z1, z2⟩ := ZB.out hz
        have D2 : Hid _ := BC.out w20 (tz V) (by omega) b20
        rw [z1] at D2
        have hn0 : ((n4 : Int) == 0) = false := by
          have h1 := HN4.out
          have h2 : n4 ≠ 0 := fun q => hz ((words_nil V).1 (List.length_eq_zero_iff.1 (by rw [← h1]; exact q)))
          simp; omega
        have hz2 : ((tz V : Nat) : Int) < ((blen V : Nat) : Int) := by omega
        generalize tz V = tv at *
        generalize blen V = bv at *
        clear hz z1 HN4 ZB Z0
        go_wp2_with fail
        refine Calls.mono (D2.out) ?_
        rintro e w21 ⟨rfl, b⟩
        have b21 := nbelow_trans b20 b
        clear b b20 D2
        go_wp2_with fail
        go_ret
        exact ⟨nret_bool (by simp), b21⟩
    · clear I4
      go_wp2_with fail
      refine Calls.mono (LC.out w15 b15) ?_
      rintro e w16 ⟨rfl, b⟩
      have b16 := nbelow_trans b15 b
      clear b b15 LC
      go_wp2_with fail
      refine Calls.mono (WC.out w16 b16) ?_
      rintro e w17 ⟨rfl, b⟩
      have b17 := nbelow_trans b16 b
      clear b b16 WC
      have D1 : Hid _ := BC.out w17 (blen V) hbl b17
      rw [TB.out] at D1
      go_wp2_with fail
      refine Calls.mono (D1.out) ?_
      rintro e w18 ⟨rfl, b⟩
      have b18 := nbelow_trans b17 b
      clear b b17 D1
      by_cases hz : V = 0
      · obtain ⟨z1, z2, z3⟩ := Z0.out hz
        have hn0 : n4 = 0 := by rw [HN4.out]; exact z3
        rw [z1, z2]
        have D2 : Hid _ := BC.out w18 0 (by decide) b18
        subst hn0
        generalize V.testBit 0 = fb at D2
        clear hz z1 z2 z3 HN4 ZB
        go_wp2_with fail
        refine Calls.mono (D2.out) ?_
        rintro e w19 ⟨rfl, b⟩
        have b19 := nbelow_trans b18 b
        clear b b18 D2
        go_wp2_with fail
        go_ret
        exact ⟨nret_bool (by simp), b19⟩
      · obtain ⟨z1, z2⟩ := ZB.out hz
        have D2 : Hid _ := BC.out w18 (tz V) (by omega) b18
        rw [z1] at D2
        have hn0 : ((n4 : Int) == 0) = false := by
          have h1 := HN4.out
          have h2 : n4 ≠ 0 := fun q => hz ((words_nil V).1 (List.length_eq_zero_iff.1 (by rw [← h1]; exact q)))
          simp; omega
        have hz2 : ((tz V : Nat) : Int) < ((blen V : Nat) : Int) := by omega
        generalize tz V = tv at *
        generalize blen V = bv at *
        clear hz z1 HN4 ZB Z0
        go_wp2_with fail
        refine Calls.mono (D2.out) ?_
        rintro e w19 ⟨rfl, b⟩
        have b19 := nbelow_trans b18 b
        clear b b18 D2
        go_wp2_with fail
        go_ret
        exact ⟨nret_bool (by simp), b19⟩
  · obtain ⟨rfl, hx2⟩ := hc2
    obtain ⟨rfl, hx3⟩ := hc3
    have HX2 : Hid _ := hx2
    have HX3 : Hid _ := hx3
    clear hx2 hx3
    rw [HX2.out] at C2
    rw [HX3.out] at C3
    go_wp2_with fail
    refine Calls.mono C2.out ?_
    rintro e w14 ⟨rfl, rfl⟩
    go_wp2_with fail
    refine Calls.mono C3.out ?_
    rintro e w14 ⟨rfl, rfl⟩
    clear C2 C3
    go_wp2_with fail
    refine Calls.mono (TC.out w14 b14) ?_
    rintro e w15 ⟨rfl, b⟩
    have b15 := nbelow_trans b14 b
    replace I4 := I4.keep b
    clear b b14 TC
    by_cases hts : T.size ≤ 4096
    · have PC : Hid _ := parse_calls T w15
      rw [HTT.out, (PD.out (by rw [← HTS.out]; exact hts)).1, (PD.out (by rw [← HTS.out]; exact hts)).2.1, (PD.out (by rw [← HTS.out]; exact hts)).2.2] at PC
      go_wp2_with fail
      refine Calls.mono (PC.out) ?_
      rintro e w16 ⟨v, rfl, ⟨a20, n20, c20, rfl, hn, hO⟩, b⟩
      have b16 := nbelow_trans b15 b
      replace I4 := I4.keep b
      have hn20 : n20 ≤ 1024 := by rw [hn]; exact hvl
      have J := hO.1
      clear b b15 hn hO PC
      go_wp2_with fail
      refine Calls.mono (nSame_calls _ _ _ _ _ _ _ _ _ J I4 (by omega) (by omega)) ?_
      rintro e w17 ⟨rfl, b⟩
      have b17 := nbelow_trans b16 b
      replace I4 := I4.keep b
      rw [show decide (wordsOf V = wordsOf V) = true by simp]
      clear b b16 J
      clear I4
      go_wp2_with fail
      refine Calls.mono (LC.out w17 b17) ?_
      rintro e w18 ⟨rfl, b⟩
      have b18 := nbelow_trans b17 b
      clear b b17 LC
      go_wp2_with fail
      refine Calls.mono (WC.out w18 b18) ?_
      rintro e w19 ⟨rfl, b⟩
      have b19 := nbelow_trans b18 b
      clear b b18 WC
      have D1 : Hid _ := BC.out w19 (blen V) hbl b19
      rw [TB.out] at D1
      go_wp2_with fail
      refine Calls.mono (D1.out) ?_
      rintro e w20 ⟨rfl, b⟩
      have b20 := nbelow_trans b19 b
      clear b b19 D1
      by_cases hz : V = 0
      · obtain ⟨z1, z2, z3⟩ := Z0.out hz
        have hn0 : n4 = 0 := by rw [HN4.out]; exact z3
        rw [z1, z2]
        have D2 : Hid _ := BC.out w20 0 (by decide) b20
        subst hn0
        generalize V.testBit 0 = fb at D2
        clear hz z1 z2 z3 HN4 ZB
        go_wp2_with fail
        refine Calls.mono (D2.out) ?_
        rintro e w21 ⟨rfl, b⟩
        have b21 := nbelow_trans b20 b
        clear b b20 D2
        go_wp2_with fail
        go_ret
        exact ⟨nret_bool (by simp), b21⟩
      · obtain ⟨z1, z2⟩ := ZB.out hz
        have D2 : Hid _ := BC.out w20 (tz V) (by omega) b20
        rw [z1] at D2
        have hn0 : ((n4 : Int) == 0) = false := by
          have h1 := HN4.out
          have h2 : n4 ≠ 0 := fun q => hz ((words_nil V).1 (List.length_eq_zero_iff.1 (by rw [← h1]; exact q)))
          simp; omega
        have hz2 : ((tz V : Nat) : Int) < ((blen V : Nat) : Int) := by omega
        generalize tz V = tv at *
        generalize blen V = bv at *
        clear hz z1 HN4 ZB Z0
        go_wp2_with fail
        refine Calls.mono (D2.out) ?_
        rintro e w21 ⟨rfl, b⟩
        have b21 := nbelow_trans b20 b
        clear b b20 D2
        go_wp2_with fail
        go_ret
        exact ⟨nret_bool (by simp), b21⟩
    · clear I4
      go_wp2_with fail
      refine Calls.mono (LC.out w15 b15) ?_
      rintro e w16 ⟨rfl, b⟩
      have b16 := nbelow_trans b15 b
      clear b b15 LC
      go_wp2_with fail
      refine Calls.mono (WC.out w16 b16) ?_
      rintro e w17 ⟨rfl, b⟩
      have b17 := nbelow_trans b16 b
      clear b b16 WC
      have D1 : Hid _ := BC.out w17 (blen V) hbl b17
      rw [TB.out] at D1
      go_wp2_with fail
      refine Calls.mono (D1.out) ?_
      rintro e w18 ⟨rfl, b⟩
      have b18 := nbelow_trans b17 b
      clear b b17 D1
      by_cases hz : V = 0
      · obtain ⟨z1, z2, z3⟩ := Z0.out hz
        have hn0 : n4 = 0 := by rw [HN4.out]; exact z3
        rw [z1, z2]
        have D2 : Hid _ := BC.out w18 0 (by decide) b18
        subst hn0
        generalize V.testBit 0 = fb at D2
        clear hz z1 z2 z3 HN4 ZB
        go_wp2_with fail
        refine Calls.mono (D2.out) ?_
        rintro e w19 ⟨rfl, b⟩
        have b19 := nbelow_trans b18 b
        clear b b18 D2
        go_wp2_with fail
        go_ret
        exact ⟨nret_bool (by simp), b19⟩
      · obtain ⟨z1, z2⟩ := ZB.out hz
        have D2 : Hid _ := BC.out w18 (tz V) (by omega) b18
        rw [z1] at D2
        have hn0 : ((n4 : Int) == 0) = false := by
          have h1 := HN4.out
          have h2 : n4 ≠ 0 := fun q => hz ((words_nil V).1 (List.length_eq_zero_iff.1 (by rw [← h1]; exact q)))
          simp; omega
        have hz2 : ((tz V : Nat) : Int) < ((blen V : Nat) : Int) := by omega
        generalize tz V = tv at *
        generalize blen V = bv at *
        clear hz z1 HN4 ZB Z0
        go_wp2_with fail
        refine Calls.mono (D2.out) ?_
        rintro e w19 ⟨rfl, b⟩
        have b19 := nbelow_trans b18 b
        clear b b18 D2
        go_wp2_with fail
        go_ret
        exact ⟨nret_bool (by simp), b19⟩

theorem natBetween_walk (a : Option Addr) (len cap : Nat) (xs : List Int) (w : World) (hA : IsW w a len cap xs) (hm : len ≤ 17592186044000) (hT : Tab w) (hP : TabP w) :
    Calls Tryd.prog 4 #[.slice a len cap] w fun e w' => e = .returned (.bool true) ∧ Below w.heap.size w w' := by
  cases hg : greatB (val xs) with
  | true => exact between_great a len cap xs w hA hm hT hP hg
  | false => exact between_fit a len cap xs w hA hm hT hP hg
end Go.Proofs.YtfmjgagajlhfoaaDoor

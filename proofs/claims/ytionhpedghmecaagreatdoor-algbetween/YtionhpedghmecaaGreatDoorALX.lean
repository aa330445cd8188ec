/- Package alg: Cbrt, Sqrt, Rsqrt, Hypot as they are called. Package alg: squares, Hypot as it is called. What the document gives of alg: the statements' first question. -/
import Derived.Test.YtionhpedghmecaaGreatDoorAL2
import Derived.Test.YtionhpedghmecaaGreatDoorAPY
import Derived.Test.YtionhpedghmecaaGreatDoorTMR
import Derived.Test.YtionhpedghmecaaGreatDoorTMF
import Derived.Test.YtionhpedghmecaaGreatDoorFX

namespace Go.Proofs.YtionhpedghmecaaGreatDoor
open Go.RowKit
theorem er_zero {m : Nat} {e : Int} (h : rightB m e = true) : erR m e = 0 := by unfold erR; rw [if_pos h]
theorem tpV_ok {m : Nat} {e : Int} (h : rightB m e = true) (h0 : m ≠ 0) : tpV m e = tpI m e := by unfold tpV ftE tpI; rw [if_pos h, if_neg h0, if_pos rfl]
theorem last_yes {x : Int} (h : finB x = true) : lastE x = 0 := by unfold lastE; rw [h]; rfl
theorem last_no {x : Int} (h : finB x = false) : lastE x = 5 ∧ fromP x = (false, 0, 0) := by unfold lastE fromP; rw [h]; exact ⟨rfl, rfl⟩
set_option maxRecDepth 100000 in
set_option maxHeartbeats 2000000 in
theorem cbrt_all (x : Int) (w : World) (hU : U x) (hT : Tab w) :
  Calls Tryz.prog 7 #[.int .u64 x] w fun q w' => q = .returned (.tuple #[.agg #[.int .u64 (cbB x), .int .u8 (cbF x)], .int .i64 (lastE x)]) ∧ Below w.heap.size w w' := by
 have bA : Below w.heap.size w (w.alloc (.cells #[.int .u64 0, .int .u8 0] 34)) := below_one _ _
 have hT0 := hT.kept bA
 have HC : Hid _ := pfrom_calls x _ hU hT0
 obtain ⟨z0, z1, f0, f1⟩ := fX9 w
 have HU : Hid (U x) := hU
 clear hU hT
 cases hf : finB x with
 | false =>
  have HE : Hid (lastE x = 5 ∧ cbB x = 0 ∧ cbF x = 0) := by
   obtain ⟨e1, e2⟩ := last_no hf
   refine ⟨e1, ?_, ?_⟩
   ·unfold cbB; rw [hf]; rfl
   ·unfold cbF; rw [e2]; rfl
  rw [HE.out.1, HE.out.2.1, HE.out.2.2]
  rw [HE.out.1] at HC
  clear hf HE
  generalize fromP x = p at *
  go_enter Tryz.func7, Tryz.ntmps7
  go_wp2_with fail
  generalize (w.alloc (.cells #[.int .u64 0, .int .u8 0] 34)) = w0 at *
  refine Calls.mono HC.out ?_
  rintro q w1 ⟨_, rfl, ⟨ao, n, c, rfl, HN, hn, hO⟩, b1⟩
  clear HC
  replace f0 := kF b1 z0 f0
  replace f1 := kF b1 z1 f1
  replace z0 := kC b1 z0
  replace z1 := kC b1 z1
  replace hT0 := hT0.kept b1
  replace bA := nT bA b1
  clear b1
  have bD : Below w1.heap.size w1 (w1.alloc (.cells #[.bool p.1, .slice ao n c, .int .i64 p.2.2] 27)) := below_one _ _
  obtain ⟨k0, k1, k2⟩ := fX10 w1 p ao n c
  replace f0 := kF bD z0 f0
  replace f1 := kF bD z1 f1
  replace z0 := kC bD z0
  replace z1 := kC bD z1
  replace hO := hO.keep bD
  replace hT0 := hT0.kept bD
  replace bA := nT bA bD
  clear hO HN hn k0 k1 k2 bD
  go_wp2_with fail
  exact bodyPost_ret (v := .tuple #[.agg #[.int .u64 (0), .int .u8 (0)], .int .i64 (5)]) (by simp [results, Tryz.results7, go_sem, z0, z1]) rfl ⟨rfl, by repeat (first | (with_reducible exact bA) | (with_reducible refine Below.setCell ?_ (by simp) _))⟩
 | true =>
  have HR : Hid (rightB (fromP x).2.1 (fromP x).2.2 = true) := fa_right x
  have HB : Hid _ := fa_bd x
  have e1 := last_yes hf
  rw [e1] at HC ⊢
  have HQ : Hid ((fromP x).2.1 = 0 → cbB x = x ∧ cbF x = 0) := fun h => by unfold cbB cbF; rw [hf, h]; exact ⟨rfl, rfl⟩
  have HS : Hid ((fromP x).2.1 ≠ 0 → cbB x = nbR (fromP x).1 (ansM 3 (fromP x).2.1 (fromP x).2.2) (ansE 3 (fromP x).2.1 (fromP x).2.2) ∧ cbF x = flR (fromP x).1 (ansM 3 (fromP x).2.1 (fromP x).2.2) (ansE 3 (fromP x).2.1 (fromP x).2.2)) := fun h => by unfold cbB cbF; rw [if_pos hf, if_neg h, if_neg h]; exact ⟨rfl, rfl⟩
  clear hf e1
  generalize cbB x = B0 at *
  generalize cbF x = F0 at *
  generalize fromP x = p at *
  go_enter Tryz.func7, Tryz.ntmps7
  go_wp2_with fail
  generalize (w.alloc (.cells #[.int .u64 0, .int .u8 0] 34)) = w0 at *
  refine Calls.mono HC.out ?_
  rintro q w1 ⟨_, rfl, ⟨ao, n, c, rfl, HN, hn, hO⟩, b1⟩
  clear HC
  replace f0 := kF b1 z0 f0
  replace f1 := kF b1 z1 f1
  replace z0 := kC b1 z0
  replace z1 := kC b1 z1
  replace hT0 := hT0.kept b1
  replace bA := nT bA b1
  clear b1
  have bD : Below w1.heap.size w1 (w1.alloc (.cells #[.bool p.1, .slice ao n c, .int .i64 p.2.2] 27)) := below_one _ _
  obtain ⟨k0, k1, k2⟩ := fX10 w1 p ao n c
  replace f0 := kF bD z0 f0
  replace f1 := kF bD z1 f1
  replace z0 := kC bD z0
  replace z1 := kC bD z1
  replace hO := hO.keep bD
  replace hT0 := hT0.kept bD
  replace bA := nT bA bD
  have ZC : Hid _ := dzero_calls p.1 ao n c (wordsOf p.2.1) p.2.2 _ hO.1 (by omega) hT0
  rw [val_words, HR.out, Bool.true_and] at ZC
  by_cases h0 : p.2.1 = 0
  ·obtain ⟨q1, q2⟩ := HQ.out h0
   subst q2
   have HB0 : Hid (B0 = x) := q1
   rw [decide_eq_true h0] at ZC
   clear q1 HQ HS h0
   go_wp2_with fail
   generalize hw2 : w1.alloc (.cells #[.bool p.1, .slice ao n c, .int .i64 p.2.2] 27) = w2 at *
   generalize w1.heap.size = D at *
   refine Calls.mono ZC.out ?_
   rintro q w3 ⟨rfl, b3⟩
   clear ZC hw2 bD
   replace f0 := kF b3 z0 f0
   replace f1 := kF b3 z1 f1
   replace z0 := kC b3 z0
   replace z1 := kC b3 z1
   replace k0 := kC b3 k0
   replace k1 := kC b3 k1
   replace k2 := kC b3 k2
   replace hO := hO.keep b3
   replace hT0 := hT0.kept b3
   replace bA := nT bA b3
   clear b3
   clear hO HN hn hT0 k0 k1 k2
   go_wp2_with fail
   exact bodyPost_ret (v := .tuple #[.agg #[.int .u64 (x), .int .u8 (0)], .int .i64 (0)]) (by simp [results, Tryz.results7, go_sem, z0, z1]) rfl ⟨by rw [HB0.out], by repeat (first | (with_reducible exact bA) | (with_reducible refine Below.setCell ?_ (by simp) _))⟩
  ·obtain ⟨q1, q2⟩ := HS.out h0
   subst q1 q2
   rw [decide_eq_false h0] at ZC
   clear HQ HS
   go_wp2_with fail
   generalize hw2 : w1.alloc (.cells #[.bool p.1, .slice ao n c, .int .i64 p.2.2] 27) = w2 at *
   generalize w1.heap.size = D at *
   refine Calls.mono ZC.out ?_
   rintro q w3 ⟨rfl, b3⟩
   clear ZC hw2 bD
   replace f0 := kF b3 z0 f0
   replace f1 := kF b3 z1 f1
   replace z0 := kC b3 z0
   replace z1 := kC b3 z1
   replace k0 := kC b3 k0
   replace k1 := kC b3 k1
   replace k2 := kC b3 k2
   replace hO := hO.keep b3
   replace hT0 := hT0.kept b3
   replace bA := nT bA b3
   clear b3
   have AC : Hid _ := alAmount_calls p.1 ao n c (wordsOf p.2.1) p.2.2 (tpI p.2.1 p.2.2) w3 hO.1 (by omega) hT0 (by rw [val_words]; exact tpV_ok HR.out h0) (by have := HB.out; unfold tpI; omega)
   go_wp2_with fail
   refine Calls.mono AC.out ?_
   rintro q w4 ⟨rfl, d0, d1, d2, b4⟩
   clear AC
   replace f0 := kF b4 z0 f0
   replace f1 := kF b4 z1 f1
   replace z0 := kC b4 z0
   replace z1 := kC b4 z1
   replace k0 := kC b4 k0
   replace hO := hO.keep b4
   replace hT0 := hT0.kept b4
   replace bA := nT bA b4
   clear b4
   have hbl := ansI_bd 3 p.2.1 p.2.2 (Or.inr rfl)
   have hab := ansA_bd 3 p.2.1 p.2.2 (Or.inr rfl) h0
   have UU := units_am w3.heap.size ao n c (wordsOf p.2.1) p.2.2 (agN 3 (tpI p.2.1 p.2.2)) w4 hO.1 (by omega) (by rw [val_words]; exact (rightB_yes HR.out).1) (by rw [val_words]; exact h0) d1 d2 (by have := HB.out; unfold ansI at hbl; omega) (by rw [val_words]; unfold ansI at hbl; omega)
   rw [val_words] at UU
   have ht : -5000 ≤ tpI p.2.1 p.2.2 ∧ tpI p.2.1 p.2.2 ≤ 5000 := by have := HB.out; unfold tpI; omega
   have SC : Hid _ := shift_am3 w3.heap.size (tpI p.2.1 p.2.2) _ _ w4 (by omega) (by omega) UU
   have HX : Hid (erR (ansM 3 p.2.1 p.2.2) (ansE 3 p.2.1 p.2.2) = 0) := er_zero (sk_right _ _ (rt_bd 3 _ (by decide) hab.1 hab.2).2.1 (by have := agX_bd 3 _ (Or.inr rfl) ht; unfold ansE; omega) (by have := agX_bd 3 _ (Or.inr rfl) ht; unfold ansE; omega))
   have HMM : Hid (ansM 3 p.2.1 p.2.2 = skA (rt 3 (agA p.2.1 (ansI 3 p.2.1 p.2.2))) (ansK 3 (agA p.2.1 (ansI 3 p.2.1 p.2.2)) (agL p.2.1 (ansI 3 p.2.1 p.2.2))) ∧ ansE 3 p.2.1 p.2.2 = agX 3 (tpI p.2.1 p.2.2) - 1) := ⟨rfl, rfl⟩
   unfold ansM ansE at HX
   change Hid (Calls _ _ _ _ fun r w' => ∃ (ao : Option Addr) (n c : Nat), r = .returned (.tuple #[.slice ao n c, .int .i64 (agN 3 (tpI p.2.1 p.2.2)), .bool (agL p.2.1 (ansI 3 p.2.1 p.2.2))]) ∧ Hid (n = (wordsOf (agA p.2.1 (ansI 3 p.2.1 p.2.2))).length) ∧ n ≤ 1024 ∧ OwnW w4.heap.size w' ao n c (wordsOf (agA p.2.1 (ansI 3 p.2.1 p.2.2))) ∧ Below w4.heap.size w4 w') at SC
   generalize agA p.2.1 (ansI 3 p.2.1 p.2.2) = A at *
   generalize agL p.2.1 (ansI 3 p.2.1 p.2.2) = L at *
   have HBd : Hid _ := rt_bd 3 A (by decide) hab.1 hab.2
   have HF := rt_ok (k := 3) (A := A) (by omega)
   have HL := rt_len (k := 3) (A := A) (by decide) (by omega)
   have hN1 := agN_bd 3 (tpI p.2.1 p.2.2) (by decide)
   have hx := agX_bd 3 (tpI p.2.1 p.2.2) (Or.inr rfl) ht
   have hx1 : -100000 ≤ agX 3 (tpI p.2.1 p.2.2) := by omega
   have hx2 : agX 3 (tpI p.2.1 p.2.2) ≤ 100000 := by omega
   have hq : (-(agN 3 (tpI p.2.1 p.2.2))).tdiv 3 = agX 3 (tpI p.2.1 p.2.2) := rfl
   have hn1 : -10000 ≤ agN 3 (tpI p.2.1 p.2.2) := by omega
   have hn2 : agN 3 (tpI p.2.1 p.2.2) ≤ 10000 := by omega
   clear UU hbl hab hN1 hx ht h0 HB HR d0 d1 d2 hO HN hn k1 k2
   generalize agX 3 (tpI p.2.1 p.2.2) = EX at *
   generalize agN 3 (tpI p.2.1 p.2.2) = N at *
   generalize tpI p.2.1 p.2.2 = tp at *
   go_wp2_with fail
   refine Calls.mono SC.out ?_
   rintro q w1' ⟨ao, n, c, rfl, HN, hn, hO, b1⟩
   clear SC
   replace f0 := kF b1 z0 f0
   replace f1 := kF b1 z1 f1
   replace z0 := kC b1 z0
   replace z1 := kC b1 z1
   replace k0 := kC b1 k0
   replace hT0 := hT0.kept b1
   replace bA := nT bA b1
   clear b1
   have HB := HBd
   have TC : Hid _ := teller_calls p.1 EX L w1'
   go_wp2_with fail
   refine Calls.mono TC.out ?_
   rintro q w2 ⟨X', Y', Z', rfl, cX, cY, cZ, b2⟩
   clear TC
   replace f0 := kF b2 z0 f0
   replace f1 := kF b2 z1 f1
   replace z0 := kC b2 z0
   replace z1 := kC b2 z1
   replace hO := hO.keep b2
   replace hT0 := hT0.kept b2
   replace bA := nT bA b2
   clear b2
   have RC : Hid _ := cbrt_calls ao n c (wordsOf A) w2 hO.1 (by omega)
   rw [val_words, HF.out.1, HF.out.2.1, HF.out.2.2] at RC
   go_wp2_with fail
   refine Calls.mono RC.out ?_
   rintro q w3 ⟨v1, v2, rfl, hA1, hA2, b3⟩
   obtain ⟨a3, n3, c3, rfl, HN3, hn3, hO3⟩ := hA1.open HL.out.1
   obtain ⟨a4, n4, c4, rfl, HN4, hn4, hO4⟩ := hA2.open HL.out.2
   clear RC hA1 hA2
   replace f0 := kF b3 z0 f0
   replace f1 := kF b3 z1 f1
   replace z0 := kC b3 z0
   replace z1 := kC b3 z1
   replace cX := kC b3 cX
   replace cY := kC b3 cY
   replace cZ := kC b3 cZ
   replace hT0 := hT0.kept b3
   replace bA := nT bA b3
   clear b3 hO HN hn
   have LC : Hid _ := tellA_calls X' Y' Z' p.1 L EX a3 n3 c3 (rt 3 A) a4 n4 c4 w3 hO3.1 hn3 HB.out.2.2 (by have := HB.out.2.1; omega) hT0 cX cY cZ hx1 hx2 (ansK 3 A L) (mark_eq HN4.out)
   clear hO3 hO4 HN3 HN4 hn3 hn4 cX cY cZ hT0
   go_wp2_with fail
   refine Calls.mono LC.out ?_
   rintro q w4 ⟨rfl, b4⟩
   clear LC
   replace f0 := kF b4 z0 f0
   replace f1 := kF b4 z1 f1
   replace z0 := kC b4 z0
   replace z1 := kC b4 z1
   replace bA := nT bA b4
   clear b4
   go_wp2_with fail
   rw [HX.out]
   exact bodyPost_ret (v := .tuple #[.agg #[.int .u64 (nbR p.1 (skA (rt 3 A) (ansK 3 A L)) (EX - 1)), .int .u8 (flR p.1 (skA (rt 3 A) (ansK 3 A L)) (EX - 1))], .int .i64 (0)]) (by simp [results, Tryz.results7, go_sem, z0, z1]) rfl ⟨by rw [HMM.out.1, HMM.out.2], by repeat (first | (with_reducible exact bA) | (with_reducible refine Below.setCell ?_ (by simp) _))⟩
set_option maxRecDepth 100000 in
set_option maxHeartbeats 2000000 in
theorem sqrtA_all (x : Int) (w : World) (hU : U x) (hT : Tab w) :
  Calls Tryz.prog 11 #[.int .u64 x] w fun q w' => q = .returned (.tuple #[.agg #[.int .u64 (sqB x), .int .u8 (sqF x)], .int .i64 (sqE x)]) ∧ Below w.heap.size w w' := by
 have bA : Below w.heap.size w (w.alloc (.cells #[.int .u64 0, .int .u8 0] 34)) := below_one _ _
 have hT0 := hT.kept bA
 have HC : Hid _ := pfrom_calls x _ hU hT0
 obtain ⟨z0, z1, f0, f1⟩ := fX9 w
 have HU : Hid (U x) := hU
 clear hU hT
 cases hf : finB x with
 | false =>
  have HE : Hid (lastE x = 5 ∧ sqE x = 5 ∧ sqB x = 0 ∧ sqF x = 0) := by
   have e : sqE x = 5 := by unfold sqE; rw [hf]; rfl
   refine ⟨(last_no hf).1, e, ?_, ?_⟩
   ·unfold sqB; rw [e]; rfl
   ·unfold sqF; rw [e]; rfl
  rw [HE.out.2.1, HE.out.2.2.1, HE.out.2.2.2]
  rw [HE.out.1] at HC
  clear hf HE
  generalize fromP x = p at *
  go_enter Tryz.func11, Tryz.ntmps11
  go_wp2_with fail
  generalize (w.alloc (.cells #[.int .u64 0, .int .u8 0] 34)) = w0 at *
  refine Calls.mono HC.out ?_
  rintro q w1 ⟨_, rfl, ⟨ao, n, c, rfl, HN, hn, hO⟩, b1⟩
  clear HC
  replace f0 := kF b1 z0 f0
  replace f1 := kF b1 z1 f1
  replace z0 := kC b1 z0
  replace z1 := kC b1 z1
  replace hT0 := hT0.kept b1
  replace bA := nT bA b1
  clear b1
  have bD : Below w1.heap.size w1 (w1.alloc (.cells #[.bool p.1, .slice ao n c, .int .i64 p.2.2] 27)) := below_one _ _
  obtain ⟨k0, k1, k2⟩ := fX10 w1 p ao n c
  replace f0 := kF bD z0 f0
  replace f1 := kF bD z1 f1
  replace z0 := kC bD z0
  replace z1 := kC bD z1
  replace hO := hO.keep bD
  replace hT0 := hT0.kept bD
  replace bA := nT bA bD
  clear hO HN hn k0 k1 k2 bD
  go_wp2_with fail
  exact bodyPost_ret (v := .tuple #[.agg #[.int .u64 (0), .int .u8 (0)], .int .i64 (5)]) (by simp [results, Tryz.results11, go_sem, z0, z1]) rfl ⟨rfl, by repeat (first | (with_reducible exact bA) | (with_reducible refine Below.setCell ?_ (by simp) _))⟩
 | true =>
  have HR : Hid (rightB (fromP x).2.1 (fromP x).2.2 = true) := fa_right x
  have HB : Hid _ := fa_bd x
  have e1 := last_yes hf
  rw [e1] at HC
  have hE : sqE x = if (fromP x).1 = true then 5 else 0 := by unfold sqE; rw [if_pos hf]
  have HQ : Hid ((fromP x).2.1 = 0 → sqE x = 0 ∧ sqB x = x ∧ sqF x = 0) := fun h => by
   have hp : (fromP x).1 = false := by
    rcases fa_can x with q | q
    ·rw [q]
    ·rw [h] at q; exact absurd q (by decide)
   have e0 : sqE x = 0 := by rw [hE, hp]; rfl
   refine ⟨e0, ?_, ?_⟩
   ·unfold sqB; rw [if_pos e0, if_pos h]
   ·unfold sqF; rw [if_pos e0, if_pos h]
  have HM : Hid ((fromP x).1 = true → sqE x = 5 ∧ sqB x = 0 ∧ sqF x = 0) := fun h => by
   have e5 : sqE x = 5 := by rw [hE, h]; rfl
   refine ⟨e5, ?_, ?_⟩
   ·unfold sqB; rw [e5]; rfl
   ·unfold sqF; rw [e5]; rfl
  have HS : Hid ((fromP x).2.1 ≠ 0 → (fromP x).1 = false → sqE x = 0 ∧ sqB x = nbR false (ansM 2 (fromP x).2.1 (fromP x).2.2) (ansE 2 (fromP x).2.1 (fromP x).2.2) ∧ sqF x = flR false (ansM 2 (fromP x).2.1 (fromP x).2.2) (ansE 2 (fromP x).2.1 (fromP x).2.2)) := fun h hp => by
   have e0 : sqE x = 0 := by rw [hE, hp]; rfl
   refine ⟨e0, ?_, ?_⟩
   ·unfold sqB; rw [if_pos e0, if_neg h]
   ·unfold sqF; rw [if_pos e0, if_neg h]
  clear hf e1 hE
  generalize sqB x = B0 at *
  generalize sqF x = F0 at *
  generalize sqE x = E0 at *
  generalize fromP x = p at *
  go_enter Tryz.func11, Tryz.ntmps11
  go_wp2_with fail
  generalize (w.alloc (.cells #[.int .u64 0, .int .u8 0] 34)) = w0 at *
  refine Calls.mono HC.out ?_
  rintro q w1 ⟨_, rfl, ⟨ao, n, c, rfl, HN, hn, hO⟩, b1⟩
  clear HC
  replace f0 := kF b1 z0 f0
  replace f1 := kF b1 z1 f1
  replace z0 := kC b1 z0
  replace z1 := kC b1 z1
  replace hT0 := hT0.kept b1
  replace bA := nT bA b1
  clear b1
  have bD : Below w1.heap.size w1 (w1.alloc (.cells #[.bool p.1, .slice ao n c, .int .i64 p.2.2] 27)) := below_one _ _
  obtain ⟨k0, k1, k2⟩ := fX10 w1 p ao n c
  replace f0 := kF bD z0 f0
  replace f1 := kF bD z1 f1
  replace z0 := kC bD z0
  replace z1 := kC bD z1
  replace hO := hO.keep bD
  replace hT0 := hT0.kept bD
  replace bA := nT bA bD
  have ZC : Hid _ := dzero_calls p.1 ao n c (wordsOf p.2.1) p.2.2 _ hO.1 (by omega) hT0
  rw [val_words, HR.out, Bool.true_and] at ZC
  by_cases h0 : p.2.1 = 0
  ·obtain ⟨q0, q1, q2⟩ := HQ.out h0
   subst q0 q2
   have HB0 : Hid (B0 = x) := q1
   rw [decide_eq_true h0] at ZC
   clear q1 HQ HS HM h0
   go_wp2_with fail
   generalize hw2 : w1.alloc (.cells #[.bool p.1, .slice ao n c, .int .i64 p.2.2] 27) = w2 at *
   generalize w1.heap.size = D at *
   refine Calls.mono ZC.out ?_
   rintro q w3 ⟨rfl, b3⟩
   clear ZC hw2 bD
   replace f0 := kF b3 z0 f0
   replace f1 := kF b3 z1 f1
   replace z0 := kC b3 z0
   replace z1 := kC b3 z1
   replace k0 := kC b3 k0
   replace k1 := kC b3 k1
   replace k2 := kC b3 k2
   replace hO := hO.keep b3
   replace hT0 := hT0.kept b3
   replace bA := nT bA b3
   clear b3
   clear hO HN hn hT0 k0 k1 k2
   go_wp2_with fail
   exact bodyPost_ret (v := .tuple #[.agg #[.int .u64 (x), .int .u8 (0)], .int .i64 (0)]) (by simp [results, Tryz.results11, go_sem, z0, z1]) rfl ⟨by rw [HB0.out], by repeat (first | (with_reducible exact bA) | (with_reducible refine Below.setCell ?_ (by simp) _))⟩
  ·rw [decide_eq_false h0] at ZC
   rcases Bool.eq_false_or_eq_true p.1 with hs | hs
   ·have HSg : Hid (p.1 = true) := hs
    obtain ⟨q0, q1, q2⟩ := HM.out hs
    subst q0 q1 q2
    clear HQ HS HM h0 hs
    go_wp2_with fail
    generalize hw2 : w1.alloc (.cells #[.bool p.1, .slice ao n c, .int .i64 p.2.2] 27) = w2 at *
    generalize w1.heap.size = D at *
    refine Calls.mono ZC.out ?_
    rintro q w3 ⟨rfl, b3⟩
    clear ZC hw2 bD
    replace f0 := kF b3 z0 f0
    replace f1 := kF b3 z1 f1
    replace z0 := kC b3 z0
    replace z1 := kC b3 z1
    replace k0 := kC b3 k0
    replace k1 := kC b3 k1
    replace k2 := kC b3 k2
    replace hO := hO.keep b3
    replace hT0 := hT0.kept b3
    replace bA := nT bA b3
    clear b3
    rw [HSg.out] at k0
    clear hO HN hn hT0 k1 k2
    go_wp2_with fail
    exact bodyPost_ret (v := .tuple #[.agg #[.int .u64 (0), .int .u8 (0)], .int .i64 (5)]) (by simp [results, Tryz.results11, go_sem, z0, z1]) rfl ⟨rfl, by repeat (first | (with_reducible exact bA) | (with_reducible refine Below.setCell ?_ (by simp) _))⟩
   ·have HSg : Hid (p.1 = false) := hs
    obtain ⟨q0, q1, q2⟩ := HS.out h0 hs
    subst q0 q1 q2
    clear HQ HS HM hs
    go_wp2_with fail
    generalize hw2 : w1.alloc (.cells #[.bool p.1, .slice ao n c, .int .i64 p.2.2] 27) = w2 at *
    generalize w1.heap.size = D at *
    refine Calls.mono ZC.out ?_
    rintro q w3 ⟨rfl, b3⟩
    clear ZC hw2 bD
    replace f0 := kF b3 z0 f0
    replace f1 := kF b3 z1 f1
    replace z0 := kC b3 z0
    replace z1 := kC b3 z1
    replace k0 := kC b3 k0
    replace k1 := kC b3 k1
    replace k2 := kC b3 k2
    replace hO := hO.keep b3
    replace hT0 := hT0.kept b3
    replace bA := nT bA b3
    clear b3
    rw [HSg.out] at k0
    have AC : Hid _ := alAmount_calls p.1 ao n c (wordsOf p.2.1) p.2.2 (tpI p.2.1 p.2.2) w3 hO.1 (by omega) hT0 (by rw [val_words]; exact tpV_ok HR.out h0) (by have := HB.out; unfold tpI; omega)
    rw [HSg.out] at AC
    go_wp2_with fail
    refine Calls.mono AC.out ?_
    rintro q w4 ⟨rfl, d0, d1, d2, b4⟩
    clear AC
    replace f0 := kF b4 z0 f0
    replace f1 := kF b4 z1 f1
    replace z0 := kC b4 z0
    replace z1 := kC b4 z1
    replace k0 := kC b4 k0
    replace hO := hO.keep b4
    replace hT0 := hT0.kept b4
    replace bA := nT bA b4
    clear b4
    have hbl := ansI_bd 2 p.2.1 p.2.2 (Or.inl rfl)
    have hab := ansA_bd 2 p.2.1 p.2.2 (Or.inl rfl) h0
    have UU := units_am w3.heap.size ao n c (wordsOf p.2.1) p.2.2 (agN 2 (tpI p.2.1 p.2.2)) w4 hO.1 (by omega) (by rw [val_words]; exact (rightB_yes HR.out).1) (by rw [val_words]; exact h0) d1 d2 (by have := HB.out; unfold ansI at hbl; omega) (by rw [val_words]; unfold ansI at hbl; omega)
    rw [val_words] at UU
    have ht : -5000 ≤ tpI p.2.1 p.2.2 ∧ tpI p.2.1 p.2.2 ≤ 5000 := by have := HB.out; unfold tpI; omega
    have SC : Hid _ := sroot_am w3.heap.size (tpI p.2.1 p.2.2) _ _ w4 ht UU hab.1 hab.2 hT0
    have HX : Hid (erR (ansM 2 p.2.1 p.2.2) (ansE 2 p.2.1 p.2.2) = 0) := er_zero (sk_right _ _ (rt_bd 2 _ (by decide) hab.1 hab.2).2.1 (by have := agX_bd 2 _ (Or.inl rfl) ht; unfold ansE; omega) (by have := agX_bd 2 _ (Or.inl rfl) ht; unfold ansE; omega))
    change Hid (Calls _ _ _ _ fun q w' => q = .returned (.tuple #[.agg #[.int .u64 (nbR false (ansM 2 p.2.1 p.2.2) (ansE 2 p.2.1 p.2.2)), .int .u8 (flR false (ansM 2 p.2.1 p.2.2) (ansE 2 p.2.1 p.2.2))], .int .i64 (erR (ansM 2 p.2.1 p.2.2) (ansE 2 p.2.1 p.2.2))]) ∧ Below w4.heap.size w4 w') at SC
    rw [HX.out] at SC
    clear UU hbl hab ht h0 HB HR d0 d1 d2 hO HN hn HX
    go_wp2_with fail
    refine Calls.mono SC.out ?_
    rintro q w5 ⟨rfl, b5⟩
    clear SC
    replace f0 := kF b5 z0 f0
    replace f1 := kF b5 z1 f1
    replace z0 := kC b5 z0
    replace z1 := kC b5 z1
    replace bA := nT bA b5
    clear b5
    go_wp2_with fail
    exact bodyPost_ret (v := .tuple #[.agg #[.int .u64 (nbR false (ansM 2 p.2.1 p.2.2) (ansE 2 p.2.1 p.2.2)), .int .u8 (flR false (ansM 2 p.2.1 p.2.2) (ansE 2 p.2.1 p.2.2))], .int .i64 (0)]) (by simp [results, Tryz.results11, go_sem, z0, z1]) rfl ⟨rfl, by repeat (first | (with_reducible exact bA) | (with_reducible refine Below.setCell ?_ (by simp) _))⟩
set_option maxRecDepth 100000 in
set_option maxHeartbeats 2000000 in
theorem rsqrt_all (x : Int) (w : World) (hU : U x) (hT : Tab w) :
  Calls Tryz.prog 13 #[.int .u64 x] w fun q w' => q = .returned (.tuple #[.agg #[.int .u64 (rsB x), .int .u8 (rsF x)], .int .i64 (rsE x)]) ∧ Below w.heap.size w w' := by
 have bA : Below w.heap.size w (w.alloc (.cells #[.int .u64 0, .int .u8 0] 34)) := below_one _ _
 have hT0 := hT.kept bA
 have HC : Hid _ := pfrom_calls x _ hU hT0
 obtain ⟨z0, z1, f0, f1⟩ := fX9 w
 have HU : Hid (U x) := hU
 clear hU hT
 cases hf : finB x with
 | false =>
  have HE : Hid (lastE x = 5 ∧ rsE x = 5 ∧ rsB x = 0 ∧ rsF x = 0) := by
   have e : rsE x = 5 := by unfold rsE; rw [(last_no hf).2]; exact if_pos (Or.inl rfl)
   refine ⟨(last_no hf).1, e, ?_, ?_⟩
   ·unfold rsB; rw [e]; rfl
   ·unfold rsF; rw [e]; rfl
  rw [HE.out.2.1, HE.out.2.2.1, HE.out.2.2.2]
  rw [HE.out.1] at HC
  clear hf HE
  generalize fromP x = p at *
  go_enter Tryz.func13, Tryz.ntmps13
  go_wp2_with fail
  generalize (w.alloc (.cells #[.int .u64 0, .int .u8 0] 34)) = w0 at *
  refine Calls.mono HC.out ?_
  rintro q w1 ⟨_, rfl, ⟨ao, n, c, rfl, HN, hn, hO⟩, b1⟩
  clear HC
  replace f0 := kF b1 z0 f0
  replace f1 := kF b1 z1 f1
  replace z0 := kC b1 z0
  replace z1 := kC b1 z1
  replace hT0 := hT0.kept b1
  replace bA := nT bA b1
  clear b1
  have bD : Below w1.heap.size w1 (w1.alloc (.cells #[.bool p.1, .slice ao n c, .int .i64 p.2.2] 27)) := below_one _ _
  obtain ⟨k0, k1, k2⟩ := fX10 w1 p ao n c
  replace f0 := kF bD z0 f0
  replace f1 := kF bD z1 f1
  replace z0 := kC bD z0
  replace z1 := kC bD z1
  replace hO := hO.keep bD
  replace hT0 := hT0.kept bD
  replace bA := nT bA bD
  clear hO HN hn k0 k1 k2 bD
  go_wp2_with fail
  exact bodyPost_ret (v := .tuple #[.agg #[.int .u64 (0), .int .u8 (0)], .int .i64 (5)]) (by simp [results, Tryz.results13, go_sem, z0, z1]) rfl ⟨rfl, by repeat (first | (with_reducible exact bA) | (with_reducible refine Below.setCell ?_ (by simp) _))⟩
 | true =>
  have HR : Hid (rightB (fromP x).2.1 (fromP x).2.2 = true) := fa_right x
  have HB : Hid _ := fa_bd x
  have e1 := last_yes hf
  rw [e1] at HC
  have HM : Hid (((fromP x).2.1 = 0 ∨ (fromP x).1 = true) → rsE x = 5 ∧ rsB x = 0 ∧ rsF x = 0) := fun h => by
   have e5 : rsE x = 5 := by unfold rsE; exact if_pos h
   refine ⟨e5, ?_, ?_⟩
   ·unfold rsB; rw [e5]; rfl
   ·unfold rsF; rw [e5]; rfl
  have HS : Hid ((fromP x).2.1 ≠ 0 → (fromP x).1 = false → rsE x = 0 ∧ rsB x = nbR false (invM (fromP x).2.1 (fromP x).2.2) (invE (fromP x).2.1 (fromP x).2.2) ∧ rsF x = flR false (invM (fromP x).2.1 (fromP x).2.2) (invE (fromP x).2.1 (fromP x).2.2)) := fun h hp => by
   have e0 : rsE x = 0 := by unfold rsE; exact if_neg (fun q => by rcases q with q | q; exact h q; rw [hp] at q; cases q)
   refine ⟨e0, ?_, ?_⟩
   ·unfold rsB; rw [if_pos e0]
   ·unfold rsF; rw [if_pos e0]
  clear hf e1
  generalize rsB x = B0 at *
  generalize rsF x = F0 at *
  generalize rsE x = E0 at *
  generalize fromP x = p at *
  go_enter Tryz.func13, Tryz.ntmps13
  go_wp2_with fail
  generalize (w.alloc (.cells #[.int .u64 0, .int .u8 0] 34)) = w0 at *
  refine Calls.mono HC.out ?_
  rintro q w1 ⟨_, rfl, ⟨ao, n, c, rfl, HN, hn, hO⟩, b1⟩
  clear HC
  replace f0 := kF b1 z0 f0
  replace f1 := kF b1 z1 f1
  replace z0 := kC b1 z0
  replace z1 := kC b1 z1
  replace hT0 := hT0.kept b1
  replace bA := nT bA b1
  clear b1
  have bD : Below w1.heap.size w1 (w1.alloc (.cells #[.bool p.1, .slice ao n c, .int .i64 p.2.2] 27)) := below_one _ _
  obtain ⟨k0, k1, k2⟩ := fX10 w1 p ao n c
  replace f0 := kF bD z0 f0
  replace f1 := kF bD z1 f1
  replace z0 := kC bD z0
  replace z1 := kC bD z1
  replace hO := hO.keep bD
  replace hT0 := hT0.kept bD
  replace bA := nT bA bD
  have ZC : Hid _ := dzero_calls p.1 ao n c (wordsOf p.2.1) p.2.2 _ hO.1 (by omega) hT0
  rw [val_words, HR.out, Bool.true_and] at ZC
  by_cases h0 : p.2.1 = 0
  ·obtain ⟨q0, q1, q2⟩ := HM.out (Or.inl h0)
   subst q0 q1 q2
   rw [decide_eq_true h0] at ZC
   clear HS HM h0
   go_wp2_with fail
   generalize hw2 : w1.alloc (.cells #[.bool p.1, .slice ao n c, .int .i64 p.2.2] 27) = w2 at *
   generalize w1.heap.size = D at *
   refine Calls.mono ZC.out ?_
   rintro q w3 ⟨rfl, b3⟩
   clear ZC hw2 bD
   replace f0 := kF b3 z0 f0
   replace f1 := kF b3 z1 f1
   replace z0 := kC b3 z0
   replace z1 := kC b3 z1
   replace k0 := kC b3 k0
   replace k1 := kC b3 k1
   replace k2 := kC b3 k2
   replace hO := hO.keep b3
   replace hT0 := hT0.kept b3
   replace bA := nT bA b3
   clear b3
   clear hO HN hn hT0 k1 k2
   go_wp2_with fail
   exact bodyPost_ret (v := .tuple #[.agg #[.int .u64 (0), .int .u8 (0)], .int .i64 (5)]) (by simp [results, Tryz.results13, go_sem, z0, z1]) rfl ⟨rfl, by repeat (first | (with_reducible exact bA) | (with_reducible refine Below.setCell ?_ (by simp) _))⟩
  ·rw [decide_eq_false h0] at ZC
   rcases Bool.eq_false_or_eq_true p.1 with hs | hs
   ·have HSg : Hid (p.1 = true) := hs
    obtain ⟨q0, q1, q2⟩ := HM.out (Or.inr hs)
    subst q0 q1 q2
    clear HS HM h0 hs
    go_wp2_with fail
    generalize hw2 : w1.alloc (.cells #[.bool p.1, .slice ao n c, .int .i64 p.2.2] 27) = w2 at *
    generalize w1.heap.size = D at *
    refine Calls.mono ZC.out ?_
    rintro q w3 ⟨rfl, b3⟩
    clear ZC hw2 bD
    replace f0 := kF b3 z0 f0
    replace f1 := kF b3 z1 f1
    replace z0 := kC b3 z0
    replace z1 := kC b3 z1
    replace k0 := kC b3 k0
    replace k1 := kC b3 k1
    replace k2 := kC b3 k2
    replace hO := hO.keep b3
    replace hT0 := hT0.kept b3
    replace bA := nT bA b3
    clear b3
    rw [HSg.out] at k0
    clear hO HN hn hT0 k1 k2
    go_wp2_with fail
    exact bodyPost_ret (v := .tuple #[.agg #[.int .u64 (0), .int .u8 (0)], .int .i64 (5)]) (by simp [results, Tryz.results13, go_sem, z0, z1]) rfl ⟨rfl, by repeat (first | (with_reducible exact bA) | (with_reducible refine Below.setCell ?_ (by simp) _))⟩
   ·have HSg : Hid (p.1 = false) := hs
    obtain ⟨q0, q1, q2⟩ := HS.out h0 hs
    subst q0 q1 q2
    clear HS HM hs
    go_wp2_with fail
    generalize hw2 : w1.alloc (.cells #[.bool p.1, .slice ao n c, .int .i64 p.2.2] 27) = w2 at *
    generalize w1.heap.size = D at *
    refine Calls.mono ZC.out ?_
    rintro q w3 ⟨rfl, b3⟩
    clear ZC hw2 bD
    replace f0 := kF b3 z0 f0
    replace f1 := kF b3 z1 f1
    replace z0 := kC b3 z0
    replace z1 := kC b3 z1
    replace k0 := kC b3 k0
    replace k1 := kC b3 k1
    replace k2 := kC b3 k2
    replace hO := hO.keep b3
    replace hT0 := hT0.kept b3
    replace bA := nT bA b3
    clear b3
    rw [HSg.out] at k0
    have AC : Hid _ := alInverse_calls p.1 ao n c (wordsOf p.2.1) p.2.2 (tpI p.2.1 p.2.2) w3 hO.1 (by omega) hT0 (by rw [val_words]; exact tpV_ok HR.out h0) (by have := HB.out; unfold tpI; omega)
    rw [HSg.out] at AC
    go_wp2_with fail
    refine Calls.mono AC.out ?_
    rintro q w4 ⟨rfl, d0, d1, d2, b4⟩
    clear AC
    replace f0 := kF b4 z0 f0
    replace f1 := kF b4 z1 f1
    replace z0 := kC b4 z0
    replace z1 := kC b4 z1
    replace k0 := kC b4 k0
    replace hO := hO.keep b4
    replace hT0 := hT0.kept b4
    replace bA := nT bA b4
    clear b4
    have hbl := invI_bd p.2.1 p.2.2
    have hab := invA_bd p.2.1 p.2.2 h0
    have UU := units_in w3.heap.size ao n c p.2.1 p.2.2 (agN 2 (-(tpI p.2.1 p.2.2))) w4 hO.1 hn h0 (by have h := Nat.lt_of_lt_of_le (lt_blen p.2.1) (Nat.pow_le_pow_right (show 0 < 2 by decide) (show blen p.2.1 ≤ 64 by have := HB.out.1; omega)); simpa using h) d1 d2 (by unfold invI at hbl; omega) (by have := HB.out; unfold invI at hbl; omega)
    have ht : -5000 ≤ -(tpI p.2.1 p.2.2) ∧ -(tpI p.2.1 p.2.2) ≤ 5000 := by have := HB.out; unfold tpI; omega
    have SC : Hid _ := sroot_in w3.heap.size (-(tpI p.2.1 p.2.2)) _ _ w4 ht UU hab.1 hab.2 hT0
    have HX : Hid (erR (invM p.2.1 p.2.2) (invE p.2.1 p.2.2) = 0) := er_zero (sk_right _ _ (rt_bd 2 _ (by decide) hab.1 hab.2).2.1 (by have := agX_bd 2 _ (Or.inl rfl) ht; unfold invE; omega) (by have := agX_bd 2 _ (Or.inl rfl) ht; unfold invE; omega))
    change Hid (Calls _ _ _ _ fun q w' => q = .returned (.tuple #[.agg #[.int .u64 (nbR false (invM p.2.1 p.2.2) (invE p.2.1 p.2.2)), .int .u8 (flR false (invM p.2.1 p.2.2) (invE p.2.1 p.2.2))], .int .i64 (erR (invM p.2.1 p.2.2) (invE p.2.1 p.2.2))]) ∧ Below w4.heap.size w4 w') at SC
    rw [HX.out] at SC
    clear UU hbl hab ht h0 HB HR d0 d1 d2 hO HN hn HX
    go_wp2_with fail
    refine Calls.mono SC.out ?_
    rintro q w5 ⟨rfl, b5⟩
    clear SC
    replace f0 := kF b5 z0 f0
    replace f1 := kF b5 z1 f1
    replace z0 := kC b5 z0
    replace z1 := kC b5 z1
    replace bA := nT bA b5
    clear b5
    go_wp2_with fail
    exact bodyPost_ret (v := .tuple #[.agg #[.int .u64 (nbR false (invM p.2.1 p.2.2) (invE p.2.1 p.2.2)), .int .u8 (flR false (invM p.2.1 p.2.2) (invE p.2.1 p.2.2))], .int .i64 (0)]) (by simp [results, Tryz.results13, go_sem, z0, z1]) rfl ⟨rfl, by repeat (first | (with_reducible exact bA) | (with_reducible refine Below.setCell ?_ (by simp) _))⟩
theorem sq_tw (x : Int) : Hid (twE (rightB (fromP x).2.1 (fromP x).2.2 && rightB (fromP x).2.1 (fromP x).2.2) (mulD (formD (fromP x).1 (fromP x).2.1 (fromP x).2.2) (formD (fromP x).1 (fromP x).2.1 (fromP x).2.2)) = 0 ∧ twP (rightB (fromP x).2.1 (fromP x).2.2 && rightB (fromP x).2.1 (fromP x).2.2) (mulD (formD (fromP x).1 (fromP x).2.1 (fromP x).2.2) (formD (fromP x).1 (fromP x).2.1 (fromP x).2.2)) = sqD x) := by
 rw [fa_right, form_of_can (fa_can x)]
 obtain ⟨a, b, _⟩ := sq_room x
 exact ⟨a, b⟩
theorem hy_tw (x y : Int) : Hid (twE (rightB (sqD x).2.1 (sqD x).2.2 && rightB (sqD y).2.1 (sqD y).2.2) (sumD (formD (sqD x).1 (sqD x).2.1 (sqD x).2.2) (formD (sqD y).1 (sqD y).2.1 (sqD y).2.2)) = 0 ∧ twP (rightB (sqD x).2.1 (sqD x).2.2 && rightB (sqD y).2.1 (sqD y).2.2) (sumD (formD (sqD x).1 (sqD x).2.1 (sqD x).2.2) (formD (sqD y).1 (sqD y).2.1 (sqD y).2.2)) = hyD x y) := by
 rw [(sq_room x).2.2, (sq_room y).2.2, form_of_can (sq_can x), form_of_can (sq_can y)]
 obtain ⟨a, b, _⟩ := hy_room x y
 exact ⟨a, b⟩
set_option maxRecDepth 100000 in
set_option maxHeartbeats 2000000 in
theorem square_calls (x : Int) (w : World) (hU : U x) (hT : Tab w) :
  Calls Tryz.prog 36 #[.int .u64 x] w fun q w' => ∃ v', q = .returned (.tuple #[v', .int .i64 (lastE x)]) ∧ DyAt w.heap.size w' v' (sqD x) ∧ Below w.heap.size w w' := by
 have bA : Below w.heap.size w (w.alloc (.cells #[.bool false, .slice none 0 0, .int .i64 0] 27)) := below_one _ _
 have hT0 := hT.kept bA
 have HC : Hid _ := pfrom_calls x _ hU hT0
 have lz : w.heap.size < (w.alloc (.cells #[.bool false, .slice none 0 0, .int .i64 0] 27)).heap.size := by simp
 have z0 : (w.alloc (.cells #[.bool false, .slice none 0 0, .int .i64 0] 27)).cell? ⟨w.heap.size, 0, none⟩ = some (.bool false) := by go_simp
 have z1 : (w.alloc (.cells #[.bool false, .slice none 0 0, .int .i64 0] 27)).cell? ⟨w.heap.size, 1, none⟩ = some (.slice none 0 0) := by go_simp
 have z2 : (w.alloc (.cells #[.bool false, .slice none 0 0, .int .i64 0] 27)).cell? ⟨w.heap.size, 2, none⟩ = some (.int .i64 0) := by go_simp
 have f0 : (w.alloc (.cells #[.bool false, .slice none 0 0, .int .i64 0] 27)).frozen? ⟨w.heap.size, 0, none⟩ = false := by go_simp
 have f1 : (w.alloc (.cells #[.bool false, .slice none 0 0, .int .i64 0] 27)).frozen? ⟨w.heap.size, 1, none⟩ = false := by go_simp
 have f2 : (w.alloc (.cells #[.bool false, .slice none 0 0, .int .i64 0] 27)).frozen? ⟨w.heap.size, 2, none⟩ = false := by go_simp
 clear hU hT
 cases hf : finB x with
 | false =>
  have HE : Hid (sqD x = (false, 0, 0)) := by unfold sqD; rw [(last_no hf).2]; rfl
  rw [(last_no hf).1] at HC ⊢
  rw [HE.out]
  clear hf HE
  generalize fromP x = p at *
  go_enter Tryz.func36, Tryz.ntmps36
  go_wp2_with fail
  generalize (w.alloc (.cells #[.bool false, .slice none 0 0, .int .i64 0] 27)) = w0 at *
  refine Calls.mono HC.out ?_
  rintro q w1 ⟨_, rfl, ⟨ao, n, c, rfl, HN, hn, hO⟩, b1⟩
  clear HC
  replace f0 := kF b1 z0 f0
  replace f1 := kF b1 z1 f1
  replace f2 := kF b1 z2 f2
  replace z0 := kC b1 z0
  replace z1 := kC b1 z1
  replace z2 := kC b1 z2
  replace bA := nT bA b1
  clear b1
  have bD : Below w1.heap.size w1 (w1.alloc (.cells #[.bool p.1, .slice ao n c, .int .i64 p.2.2] 27)) := below_one _ _
  replace f0 := kF bD z0 f0
  replace f1 := kF bD z1 f1
  replace f2 := kF bD z2 f2
  replace z0 := kC bD z0
  replace z1 := kC bD z1
  replace z2 := kC bD z2
  replace bA := nT bA bD
  clear hO HN hn hT0 bD
  go_wp2_with fail
  exact bodyPost_ret (v := .tuple #[dyV false none 0 0 0, .int .i64 5]) (by simp [results, Tryz.results36, go_sem, z0, z1, z2]) rfl ⟨_, rfl, dyAt_zero _ _, by repeat (first | (with_reducible exact bA) | (with_reducible refine Below.alloc ?_ (by have := bA.size; simp; try omega) _) | (with_reducible refine Below.setCell ?_ (by simp) _))⟩
 | true =>
  have HW := sq_tw x
  rw [last_yes hf] at HC ⊢
  generalize sqD x = s0 at *
  generalize fromP x = p at *
  clear hf
  go_enter Tryz.func36, Tryz.ntmps36
  go_wp2_with fail
  generalize (w.alloc (.cells #[.bool false, .slice none 0 0, .int .i64 0] 27)) = w0 at *
  refine Calls.mono HC.out ?_
  rintro q w1 ⟨_, rfl, ⟨ao, n, c, rfl, HN, hn, hO⟩, b1⟩
  clear HC
  replace f0 := kF b1 z0 f0
  replace f1 := kF b1 z1 f1
  replace f2 := kF b1 z2 f2
  replace z0 := kC b1 z0
  replace z1 := kC b1 z1
  replace z2 := kC b1 z2
  replace hT0 := hT0.kept b1
  replace bA := nT bA b1
  replace lz := Nat.lt_of_lt_of_le lz b1.size
  clear b1
  have bD : Below w1.heap.size w1 (w1.alloc (.cells #[.bool p.1, .slice ao n c, .int .i64 p.2.2] 27)) := below_one _ _
  obtain ⟨k0, k1, k2⟩ := fX10 w1 p ao n c
  replace f0 := kF bD z0 f0
  replace f1 := kF bD z1 f1
  replace f2 := kF bD z2 f2
  replace z0 := kC bD z0
  replace z1 := kC bD z1
  replace z2 := kC bD z2
  replace hO := hO.keep bD
  replace hT0 := hT0.kept bD
  replace bA := nT bA bD
  replace lz := Nat.lt_of_lt_of_le lz bD.size
  have MC : Hid _ := pMul_calls p.1 ao n c (wordsOf p.2.1) p.2.2 p.1 ao n c (wordsOf p.2.1) p.2.2 _ hO.1 (by omega) hO.1 (by omega) hT0
  rw [val_words, HW.out.1, HW.out.2] at MC
  clear HW hO HN hn hT0 bD
  go_wp2_with fail
  generalize w1.alloc (.cells #[.bool p.1, .slice ao n c, .int .i64 p.2.2] 27) = w2 at *
  refine Calls.mono MC.out ?_
  rintro q w3 ⟨_, rfl, ⟨a3, n3, c3, rfl, HN3, hn3, hO3⟩, b3⟩
  clear MC
  replace f0 := kF b3 z0 f0
  replace f1 := kF b3 z1 f1
  replace f2 := kF b3 z2 f2
  replace z0 := kC b3 z0
  replace z1 := kC b3 z1
  replace z2 := kC b3 z2
  replace bA := nT bA b3
  clear b3
  go_wp2_with fail
  exact bodyPost_ret (v := .tuple #[dyV s0.1 a3 n3 c3 s0.2.2, .int .i64 0]) (by simp [results, Tryz.results36, go_sem, z0, z1, z2]) rfl ⟨_, rfl, ⟨a3, n3, c3, rfl, HN3, hn3, (((hO3.far _ _ (by show w.heap.size < _; exact lz)).far _ _ (by show w.heap.size < _; exact lz)).far _ _ (by show w.heap.size < _; exact lz)).low (Nat.le_of_lt lz)⟩, by repeat (first | (with_reducible exact bA) | (with_reducible refine Below.setCell ?_ (by simp) _))⟩
set_option maxRecDepth 100000 in
set_option maxHeartbeats 4000000 in
theorem hypot_all (x y : Int) (w : World) (hU : U x) (hV : U y) (hT : Tab w) :
  Calls Tryz.prog 15 #[.int .u64 x, .int .u64 y] w fun q w' => q = .returned (.tuple #[.agg #[.int .u64 (hyB x y), .int .u8 (hyF x y)], .int .i64 (hyE x y)]) ∧ Below w.heap.size w w' := by
 have bA : Below w.heap.size w (w.alloc (.cells #[.int .u64 0, .int .u8 0] 34)) := below_one _ _
 have hT0 := hT.kept bA
 have HC : Hid _ := square_calls x _ hU hT0
 obtain ⟨z0, z1, f0, f1⟩ := fX9 w
 have HV : Hid (U y) := hV
 have HY : Hid _ := fun W (t : Tab W) => square_calls y W hV t
 clear hU hT hV
 cases hf : finB x with
 | false =>
  have HE : Hid (hyE x y = 5 ∧ hyB x y = 0 ∧ hyF x y = 0) := by
   have e : hyE x y = 5 := by unfold hyE; rw [hf]; rfl
   refine ⟨e, ?_, ?_⟩
   ·unfold hyB; rw [e]; rfl
   ·unfold hyF; rw [e]; rfl
  rw [HE.out.1, HE.out.2.1, HE.out.2.2]
  rw [(last_no hf).1] at HC
  clear hf HE HY
  generalize sqD x = p1 at *
  go_enter Tryz.func15, Tryz.ntmps15
  go_wp2_with fail
  generalize (w.alloc (.cells #[.int .u64 0, .int .u8 0] 34)) = w0 at *
  refine Calls.mono HC.out ?_
  rintro q w1 ⟨_, rfl, ⟨a1, n1, c1, rfl, HN1, hn1, hO1⟩, b1⟩
  clear HC
  replace f0 := kF b1 z0 f0
  replace f1 := kF b1 z1 f1
  replace z0 := kC b1 z0
  replace z1 := kC b1 z1
  replace hT0 := hT0.kept b1
  replace bA := nT bA b1
  clear b1
  have bD : Below w1.heap.size w1 (w1.alloc (.cells #[.bool p1.1, .slice a1 n1 c1, .int .i64 p1.2.2] 27)) := below_one _ _
  obtain ⟨k0, k1, k2⟩ := fX10 w1 p1 a1 n1 c1
  replace f0 := kF bD z0 f0
  replace f1 := kF bD z1 f1
  replace z0 := kC bD z0
  replace z1 := kC bD z1
  replace hO1 := hO1.keep bD
  replace hT0 := hT0.kept bD
  replace bA := nT bA bD
  clear bD
  clear hO1 HN1 hn1 hT0 k0 k1 k2
  go_wp2_with fail
  exact bodyPost_ret (v := .tuple #[.agg #[.int .u64 (0), .int .u8 (0)], .int .i64 (5)]) (by simp [results, Tryz.results15, go_sem, z0, z1]) rfl ⟨rfl, by repeat (first | (with_reducible exact bA) | (with_reducible refine Below.setCell ?_ (by simp) _))⟩
 | true =>
  rw [last_yes hf] at HC
  cases hg : finB y with
  | false =>
   have HE : Hid (hyE x y = 5 ∧ hyB x y = 0 ∧ hyF x y = 0) := by
    have e : hyE x y = 5 := by unfold hyE; rw [hf, hg]; rfl
    refine ⟨e, ?_, ?_⟩
    ·unfold hyB; rw [e]; rfl
    ·unfold hyF; rw [e]; rfl
   rw [HE.out.1, HE.out.2.1, HE.out.2.2]
   rw [(last_no hg).1] at HY
   clear hf hg HE
   generalize sqD x = p1 at *
   generalize sqD y = p2 at *
   go_enter Tryz.func15, Tryz.ntmps15
   go_wp2_with fail
   generalize (w.alloc (.cells #[.int .u64 0, .int .u8 0] 34)) = w0 at *
   refine Calls.mono HC.out ?_
   rintro q w1 ⟨_, rfl, ⟨a1, n1, c1, rfl, HN1, hn1, hO1⟩, b1⟩
   clear HC
   replace f0 := kF b1 z0 f0
   replace f1 := kF b1 z1 f1
   replace z0 := kC b1 z0
   replace z1 := kC b1 z1
   replace hT0 := hT0.kept b1
   replace bA := nT bA b1
   clear b1
   have bD : Below w1.heap.size w1 (w1.alloc (.cells #[.bool p1.1, .slice a1 n1 c1, .int .i64 p1.2.2] 27)) := below_one _ _
   obtain ⟨k0, k1, k2⟩ := fX10 w1 p1 a1 n1 c1
   replace f0 := kF bD z0 f0
   replace f1 := kF bD z1 f1
   replace z0 := kC bD z0
   replace z1 := kC bD z1
   replace hO1 := hO1.keep bD
   replace hT0 := hT0.kept bD
   replace bA := nT bA bD
   clear bD
   have YC : Hid _ := HY.out _ hT0
   go_wp2_with fail
   generalize w1.alloc (.cells #[.bool p1.1, .slice a1 n1 c1, .int .i64 p1.2.2] 27) = w2 at *
   generalize w1.heap.size = D1 at *
   refine Calls.mono YC.out ?_
   rintro q w3 ⟨_, rfl, ⟨a2, n2, c2, rfl, HN2, hn2, hO2⟩, b1⟩
   clear YC HY
   replace f0 := kF b1 z0 f0
   replace f1 := kF b1 z1 f1
   replace z0 := kC b1 z0
   replace z1 := kC b1 z1
   replace k0 := kC b1 k0
   replace k1 := kC b1 k1
   replace k2 := kC b1 k2
   replace hT0 := hT0.kept b1
   replace bA := nT bA b1
   replace hO1 := hO1.keep b1
   clear b1
   have bD : Below w3.heap.size w3 (w3.alloc (.cells #[.bool p2.1, .slice a2 n2 c2, .int .i64 p2.2.2] 27)) := below_one _ _
   obtain ⟨j0, j1, j2⟩ := fX10 w3 p2 a2 n2 c2
   replace f0 := kF bD z0 f0
   replace f1 := kF bD z1 f1
   replace z0 := kC bD z0
   replace z1 := kC bD z1
   replace k0 := kC bD k0
   replace k1 := kC bD k1
   replace k2 := kC bD k2
   replace hO1 := hO1.keep bD
   replace hO2 := hO2.keep bD
   replace hT0 := hT0.kept bD
   replace bA := nT bA bD
   clear bD
   clear hO1 HN1 hn1 hO2 HN2 hn2 hT0 k0 k1 k2 j0 j1 j2
   go_wp2_with fail
   exact bodyPost_ret (v := .tuple #[.agg #[.int .u64 (0), .int .u8 (0)], .int .i64 (5)]) (by simp [results, Tryz.results15, go_sem, z0, z1]) rfl ⟨rfl, by repeat (first | (with_reducible exact bA) | (with_reducible refine Below.setCell ?_ (by simp) _))⟩
  | true =>
   rw [last_yes hg] at HY
   have e0 : hyE x y = 0 := by unfold hyE; rw [hf, hg]; rfl
   have HW := hy_tw x y
   have HRB := hy_room x y
   have HR : Hid (rightB (hyD x y).2.1 (hyD x y).2.2 = true) := HRB.2.2.1
   have HB : Hid (-2148 ≤ (hyD x y).2.2 ∧ ((hyD x y).2.1 ≠ 0 → (hyD x y).2.2 + (blen (hyD x y).2.1 : Int) ≤ 2200)) := ⟨hy_low x y, HRB.2.2.2.1⟩
   have HP : Hid ((hyD x y).1 = false) := HRB.2.2.2.2
   have HQ : Hid ((hyD x y).2.1 = 0 → hyB x y = 0 ∧ hyF x y = 0) := fun h => by unfold hyB hyF; rw [if_pos e0, if_pos e0, if_pos h, if_pos h]; exact ⟨rfl, rfl⟩
   have HS : Hid ((hyD x y).2.1 ≠ 0 → hyB x y = nbR false (ansM 2 (hyD x y).2.1 (hyD x y).2.2) (ansE 2 (hyD x y).2.1 (hyD x y).2.2) ∧ hyF x y = flR false (ansM 2 (hyD x y).2.1 (hyD x y).2.2) (ansE 2 (hyD x y).2.1 (hyD x y).2.2)) := fun h => by unfold hyB hyF; rw [if_pos e0, if_pos e0, if_neg h, if_neg h]; exact ⟨rfl, rfl⟩
   rw [e0]
   clear hf hg e0 HRB
   generalize hyB x y = B0 at *
   generalize hyF x y = F0 at *
   generalize hyD x y = p3 at *
   generalize sqD x = p1 at *
   generalize sqD y = p2 at *
   go_enter Tryz.func15, Tryz.ntmps15
   go_wp2_with fail
   generalize (w.alloc (.cells #[.int .u64 0, .int .u8 0] 34)) = w0 at *
   refine Calls.mono HC.out ?_
   rintro q w1 ⟨_, rfl, ⟨a1, n1, c1, rfl, HN1, hn1, hO1⟩, b1⟩
   clear HC
   replace f0 := kF b1 z0 f0
   replace f1 := kF b1 z1 f1
   replace z0 := kC b1 z0
   replace z1 := kC b1 z1
   replace hT0 := hT0.kept b1
   replace bA := nT bA b1
   clear b1
   have bD : Below w1.heap.size w1 (w1.alloc (.cells #[.bool p1.1, .slice a1 n1 c1, .int .i64 p1.2.2] 27)) := below_one _ _
   obtain ⟨k0, k1, k2⟩ := fX10 w1 p1 a1 n1 c1
   replace f0 := kF bD z0 f0
   replace f1 := kF bD z1 f1
   replace z0 := kC bD z0
   replace z1 := kC bD z1
   replace hO1 := hO1.keep bD
   replace hT0 := hT0.kept bD
   replace bA := nT bA bD
   clear bD
   have YC : Hid _ := HY.out _ hT0
   go_wp2_with fail
   generalize w1.alloc (.cells #[.bool p1.1, .slice a1 n1 c1, .int .i64 p1.2.2] 27) = w2 at *
   generalize w1.heap.size = D1 at *
   refine Calls.mono YC.out ?_
   rintro q w3 ⟨_, rfl, ⟨a2, n2, c2, rfl, HN2, hn2, hO2⟩, b1⟩
   clear YC HY
   replace f0 := kF b1 z0 f0
   replace f1 := kF b1 z1 f1
   replace z0 := kC b1 z0
   replace z1 := kC b1 z1
   replace k0 := kC b1 k0
   replace k1 := kC b1 k1
   replace k2 := kC b1 k2
   replace hT0 := hT0.kept b1
   replace bA := nT bA b1
   replace hO1 := hO1.keep b1
   clear b1
   have bD : Below w3.heap.size w3 (w3.alloc (.cells #[.bool p2.1, .slice a2 n2 c2, .int .i64 p2.2.2] 27)) := below_one _ _
   obtain ⟨j0, j1, j2⟩ := fX10 w3 p2 a2 n2 c2
   replace f0 := kF bD z0 f0
   replace f1 := kF bD z1 f1
   replace z0 := kC bD z0
   replace z1 := kC bD z1
   replace k0 := kC bD k0
   replace k1 := kC bD k1
   replace k2 := kC bD k2
   replace hO1 := hO1.keep bD
   replace hO2 := hO2.keep bD
   replace hT0 := hT0.kept bD
   replace bA := nT bA bD
   clear bD
   have SA : Hid _ := pAdd_calls p1.1 a1 n1 c1 (wordsOf p1.2.1) p1.2.2 p2.1 a2 n2 c2 (wordsOf p2.2.1) p2.2.2 _ hO1.1 (by omega) hO2.1 (by omega) hT0
   rw [val_words, val_words, HW.out.1, HW.out.2] at SA
   clear HW hO1 hO2 HN1 HN2
   go_wp2_with fail
   generalize w3.alloc (.cells #[.bool p2.1, .slice a2 n2 c2, .int .i64 p2.2.2] 27) = w4 at *
   generalize w3.heap.size = D2 at *
   refine Calls.mono SA.out ?_
   rintro q w5 ⟨_, rfl, ⟨ao, n, c, rfl, HN, hn, hO⟩, b1⟩
   clear SA k0 k1 k2 j0 j1 j2
   replace f0 := kF b1 z0 f0
   replace f1 := kF b1 z1 f1
   replace z0 := kC b1 z0
   replace z1 := kC b1 z1
   replace hT0 := hT0.kept b1
   replace bA := nT bA b1
   clear b1
   have bD : Below w5.heap.size w5 (w5.alloc (.cells #[.bool p3.1, .slice ao n c, .int .i64 p3.2.2] 27)) := below_one _ _
   obtain ⟨k0, k1, k2⟩ := fX10 w5 p3 ao n c
   replace f0 := kF bD z0 f0
   replace f1 := kF bD z1 f1
   replace z0 := kC bD z0
   replace z1 := kC bD z1
   replace hO := hO.keep bD
   replace hT0 := hT0.kept bD
   replace bA := nT bA bD
   have ZC : Hid _ := dzero_calls p3.1 ao n c (wordsOf p3.2.1) p3.2.2 _ hO.1 (by omega) hT0
   rw [val_words, HR.out, Bool.true_and] at ZC
   clear bD
   by_cases h0 : p3.2.1 = 0
   ·obtain ⟨q1, q2⟩ := HQ.out h0
    subst q1 q2
    rw [decide_eq_true h0] at ZC
    clear HQ HS h0 HP HB HR
    go_wp2_with fail
    generalize w5.alloc (.cells #[.bool p3.1, .slice ao n c, .int .i64 p3.2.2] 27) = w6 at *
    generalize w5.heap.size = D3 at *
    refine Calls.mono ZC.out ?_
    rintro q w3 ⟨rfl, b3⟩
    clear ZC
    replace f0 := kF b3 z0 f0
    replace f1 := kF b3 z1 f1
    replace z0 := kC b3 z0
    replace z1 := kC b3 z1
    replace k0 := kC b3 k0
    replace k1 := kC b3 k1
    replace k2 := kC b3 k2
    replace hO := hO.keep b3
    replace hT0 := hT0.kept b3
    replace bA := nT bA b3
    clear b3
    clear hO HN hn hT0 k0 k1 k2
    go_wp2_with fail
    exact bodyPost_ret (v := .tuple #[.agg #[.int .u64 (0), .int .u8 (0)], .int .i64 (0)]) (by simp [results, Tryz.results15, go_sem, z0, z1]) rfl ⟨rfl, by repeat (first | (with_reducible exact bA) | (with_reducible refine Below.setCell ?_ (by simp) _))⟩
   ·obtain ⟨q1, q2⟩ := HS.out h0
    subst q1 q2
    rw [decide_eq_false h0] at ZC
    clear HQ HS HP
    have HB2 : Hid (-2148 ≤ p3.2.2 ∧ p3.2.2 + (blen p3.2.1 : Int) ≤ 2200) := ⟨HB.out.1, HB.out.2 h0⟩
    clear HB
    have HB := HB2
    clear HB2
    go_wp2_with fail
    generalize w5.alloc (.cells #[.bool p3.1, .slice ao n c, .int .i64 p3.2.2] 27) = w6 at *
    generalize w5.heap.size = D3 at *
    refine Calls.mono ZC.out ?_
    rintro q w3 ⟨rfl, b3⟩
    clear ZC
    replace f0 := kF b3 z0 f0
    replace f1 := kF b3 z1 f1
    replace z0 := kC b3 z0
    replace z1 := kC b3 z1
    replace k0 := kC b3 k0
    replace k1 := kC b3 k1
    replace k2 := kC b3 k2
    replace hO := hO.keep b3
    replace hT0 := hT0.kept b3
    replace bA := nT bA b3
    clear b3
    have AC : Hid _ := alAmount_calls p3.1 ao n c (wordsOf p3.2.1) p3.2.2 (tpI p3.2.1 p3.2.2) w3 hO.1 (by omega) hT0 (by rw [val_words]; exact tpV_ok HR.out h0) (by have := HB.out; unfold tpI; omega)
    go_wp2_with fail
    refine Calls.mono AC.out ?_
    rintro q w4 ⟨rfl, d0, d1, d2, b4⟩
    clear AC
    replace f0 := kF b4 z0 f0
    replace f1 := kF b4 z1 f1
    replace z0 := kC b4 z0
    replace z1 := kC b4 z1
    replace k0 := kC b4 k0
    replace hO := hO.keep b4
    replace hT0 := hT0.kept b4
    replace bA := nT bA b4
    clear b4
    have hbl := ansI_bd 2 p3.2.1 p3.2.2 (Or.inl rfl)
    have hab := ansA_bd 2 p3.2.1 p3.2.2 (Or.inl rfl) h0
    have UU := units_am w3.heap.size ao n c (wordsOf p3.2.1) p3.2.2 (agN 2 (tpI p3.2.1 p3.2.2)) w4 hO.1 (by omega) (by rw [val_words]; exact (rightB_yes HR.out).1) (by rw [val_words]; exact h0) d1 d2 (by have := HB.out; unfold ansI at hbl; omega) (by rw [val_words]; unfold ansI at hbl; omega)
    rw [val_words] at UU
    have ht : -5000 ≤ tpI p3.2.1 p3.2.2 ∧ tpI p3.2.1 p3.2.2 ≤ 5000 := by have := HB.out; unfold tpI; omega
    have SC : Hid _ := sroot_am w3.heap.size (tpI p3.2.1 p3.2.2) _ _ w4 ht UU hab.1 hab.2 hT0
    have HX : Hid (erR (ansM 2 p3.2.1 p3.2.2) (ansE 2 p3.2.1 p3.2.2) = 0) := er_zero (sk_right _ _ (rt_bd 2 _ (by decide) hab.1 hab.2).2.1 (by have := agX_bd 2 _ (Or.inl rfl) ht; unfold ansE; omega) (by have := agX_bd 2 _ (Or.inl rfl) ht; unfold ansE; omega))
    change Hid (Calls _ _ _ _ fun q w' => q = .returned (.tuple #[.agg #[.int .u64 (nbR false (ansM 2 p3.2.1 p3.2.2) (ansE 2 p3.2.1 p3.2.2)), .int .u8 (flR false (ansM 2 p3.2.1 p3.2.2) (ansE 2 p3.2.1 p3.2.2))], .int .i64 (erR (ansM 2 p3.2.1 p3.2.2) (ansE 2 p3.2.1 p3.2.2))]) ∧ Below w4.heap.size w4 w') at SC
    rw [HX.out] at SC
    clear UU hbl hab ht h0 HB HR d0 d1 d2 hO HN hn HX
    go_wp2_with fail
    refine Calls.mono SC.out ?_
    rintro q w5 ⟨rfl, b5⟩
    clear SC
    replace f0 := kF b5 z0 f0
    replace f1 := kF b5 z1 f1
    replace z0 := kC b5 z0
    replace z1 := kC b5 z1
    replace bA := nT bA b5
    clear b5
    go_wp2_with fail
    exact bodyPost_ret (v := .tuple #[.agg #[.int .u64 (nbR false (ansM 2 p3.2.1 p3.2.2) (ansE 2 p3.2.1 p3.2.2)), .int .u8 (flR false (ansM 2 p3.2.1 p3.2.2) (ansE 2 p3.2.1 p3.2.2))], .int .i64 (0)]) (by simp [results, Tryz.results15, go_sem, z0, z1]) rfl ⟨rfl, by repeat (first | (with_reducible exact bA) | (with_reducible refine Below.setCell ?_ (by simp) _))⟩
theorem fr_8 : fromP 4620693217682128896 = (false, 1, 3) := by decide +kernel
theorem fr_1 : fromP 1 = (false, 1, -1074) := by decide +kernel
theorem fr_2 : fromP 4611686018427387904 = (false, 1, 1) := by decide +kernel
theorem hy_34 : hyD 4613937818241073152 4616189618054758400 = (false, 25, 0) := by decide +kernel
theorem lv_cb : cbB 4620693217682128896 = 4611686018427387904 ∧ cbF 4620693217682128896 = 0 ∧ lastE 4620693217682128896 = 0 := by
 have h : ansM 3 1 3 = 36893488147419103232 := by
  rw [ansM_c 3 1 3 192 (2 ^ 192) 18446744073709551616 (by decide) (by decide +kernel) (by decide +kernel) (by decide +kernel) (by decide +kernel)]
  decide +kernel
 refine ⟨?_, ?_, by decide +kernel⟩
 ·unfold cbB; rw [fr_8, if_pos (by decide +kernel), if_neg (by decide), h]; decide +kernel
 ·unfold cbF; rw [fr_8, if_neg (by decide), h]; decide +kernel
theorem lv_rs : rsB 1 = 7025615418697973760 ∧ rsF 1 = 0 ∧ rsE 1 = 0 := by
 have h : invM 1 (-1074) = 36893488147419103232 := by
  rw [invM_c 1 (-1074) (2 ^ 128) 18446744073709551616 (by decide +kernel) (by decide +kernel) (by decide +kernel)]
  decide +kernel
 have e : rsE 1 = 0 := by unfold rsE; rw [fr_1]; decide
 refine ⟨?_, ?_, e⟩
 ·unfold rsB; rw [if_pos e, fr_1, h]; decide +kernel
 ·unfold rsF; rw [if_pos e, fr_1, h]; decide +kernel
theorem lv_hy : hyB 4613937818241073152 4616189618054758400 = 4617315517961601024 ∧ hyF 4613937818241073152 4616189618054758400 = 0 ∧ hyE 4613937818241073152 4616189618054758400 = 0 := by
 have h : ansM 2 25 0 = 46116860184273879040 := by
  rw [ansM_c 2 25 0 124 (25 * 2 ^ 124) 23058430092136939520 (by decide) (by decide +kernel) (by decide +kernel) (by decide +kernel) (by decide +kernel)]
  decide +kernel
 have e : hyE 4613937818241073152 4616189618054758400 = 0 := by decide +kernel
 refine ⟨?_, ?_, e⟩
 ·unfold hyB; rw [if_pos e, hy_34, if_neg (by decide), h]; decide +kernel
 ·unfold hyF; rw [if_pos e, hy_34, if_neg (by decide), h]; decide +kernel
theorem lv_sq : sqB 4611686018427387904 = 4609047870845172685 ∧ sqF 4611686018427387904 = 16 ∧ sqE 4611686018427387904 = 0 := by
 have h : ansM 2 1 1 = 26087635650665564425 := by
  rw [ansM_c 2 1 1 127 (2 ^ 127) 13043817825332782212 (by decide) (by decide +kernel) (by decide +kernel) (by decide +kernel) (by decide +kernel)]
  decide +kernel
 have e : sqE 4611686018427387904 = 0 := by unfold sqE; rw [fr_2]; decide
 refine ⟨?_, ?_, e⟩
 ·unfold sqB; rw [if_pos e, fr_2, if_neg (by decide), h]; decide +kernel
 ·unfold sqF; rw [if_pos e, fr_2, if_neg (by decide), h]; decide +kernel
set_option maxRecDepth 100000 in
set_option maxHeartbeats 2000000 in
theorem alLives_calls (w : World) (hT : Tab w) :
  Calls Tryz.prog 4 #[] w fun r w' => r = .returned (.bool true) ∧ Below w.heap.size w w' := by
 have C1 : Hid _ := cbrt_all 4620693217682128896 w ⟨by decide, by decide⟩ hT
 have C2 : Hid _ := fun W (t : Tab W) => rsqrt_all 1 W ⟨by decide, by decide⟩ t
 have C3 : Hid _ := fun W (t : Tab W) => hypot_all 4613937818241073152 4616189618054758400 W ⟨by decide, by decide⟩ ⟨by decide, by decide⟩ t
 have C4 : Hid _ := fun W (t : Tab W) => sqrtA_all 4611686018427387904 W ⟨by decide, by decide⟩ t
 rw [lv_cb.1, lv_cb.2.1, lv_cb.2.2] at C1
 simp only [lv_rs.1, lv_rs.2.1, lv_rs.2.2] at C2
 simp only [lv_hy.1, lv_hy.2.1, lv_hy.2.2] at C3
 simp only [lv_sq.1, lv_sq.2.1, lv_sq.2.2] at C4
 go_enter Tryz.func4, Tryz.ntmps4
 go_wp2_with fail
 refine Calls.mono C1.out ?_
 rintro q w1 ⟨rfl, b1⟩
 have bA := nT b1 (below_one w1 (.cells #[.int .u64 4611686018427387904, .int .u8 0] 34))
 have hT1 := hT.kept bA
 have a0 : (w1.alloc (.cells #[.int .u64 4611686018427387904, .int .u8 0] 34)).cell? ⟨w1.heap.size, 0, none⟩ = some (.int .u64 4611686018427387904) := by go_simp
 have a1 : (w1.alloc (.cells #[.int .u64 4611686018427387904, .int .u8 0] 34)).cell? ⟨w1.heap.size, 1, none⟩ = some (.int .u8 0) := by go_simp
 clear C1 hT b1
 go_wp2_with fail
 generalize w1.alloc (.cells #[.int .u64 4611686018427387904, .int .u8 0] 34) = w2 at *
 generalize w1.heap.size = D1 at *
 refine Calls.mono (C2.out _ hT1) ?_
 rintro q w3 ⟨rfl, b1⟩
 have b2 := nT b1 (below_one w3 (.cells #[.int .u64 7025615418697973760, .int .u8 0] 34))
 replace hT1 := hT1.kept b2
 replace bA := nT bA b2
 replace a0 := kC b2 a0
 replace a1 := kC b2 a1
 have c0 : (w3.alloc (.cells #[.int .u64 7025615418697973760, .int .u8 0] 34)).cell? ⟨w3.heap.size, 0, none⟩ = some (.int .u64 7025615418697973760) := by go_simp
 have c1 : (w3.alloc (.cells #[.int .u64 7025615418697973760, .int .u8 0] 34)).cell? ⟨w3.heap.size, 1, none⟩ = some (.int .u8 0) := by go_simp
 clear C2 b1 b2
 go_wp2_with fail
 generalize w3.alloc (.cells #[.int .u64 7025615418697973760, .int .u8 0] 34) = w4 at *
 generalize w3.heap.size = D2 at *
 refine Calls.mono (C3.out _ hT1) ?_
 rintro q w5 ⟨rfl, b1⟩
 have b2 := nT b1 (below_one w5 (.cells #[.int .u64 4617315517961601024, .int .u8 0] 34))
 replace hT1 := hT1.kept b2
 replace bA := nT bA b2
 replace a0 := kC b2 a0
 replace a1 := kC b2 a1
 replace c0 := kC b2 c0
 replace c1 := kC b2 c1
 have d0 : (w5.alloc (.cells #[.int .u64 4617315517961601024, .int .u8 0] 34)).cell? ⟨w5.heap.size, 0, none⟩ = some (.int .u64 4617315517961601024) := by go_simp
 have d1 : (w5.alloc (.cells #[.int .u64 4617315517961601024, .int .u8 0] 34)).cell? ⟨w5.heap.size, 1, none⟩ = some (.int .u8 0) := by go_simp
 clear C3 b1 b2
 go_wp2_with fail
 generalize w5.alloc (.cells #[.int .u64 4617315517961601024, .int .u8 0] 34) = w6 at *
 generalize w5.heap.size = D3 at *
 refine Calls.mono (C4.out _ hT1) ?_
 rintro q w7 ⟨rfl, b1⟩
 have b2 := nT b1 (below_one w7 (.cells #[.int .u64 4609047870845172685, .int .u8 16] 34))
 replace bA := nT bA b2
 replace a0 := kC b2 a0
 replace a1 := kC b2 a1
 replace c0 := kC b2 c0
 replace c1 := kC b2 c1
 replace d0 := kC b2 d0
 replace d1 := kC b2 d1
 have e0 : (w7.alloc (.cells #[.int .u64 4609047870845172685, .int .u8 16] 34)).cell? ⟨w7.heap.size, 0, none⟩ = some (.int .u64 4609047870845172685) := by go_simp
 have e1 : (w7.alloc (.cells #[.int .u64 4609047870845172685, .int .u8 16] 34)).cell? ⟨w7.heap.size, 1, none⟩ = some (.int .u8 16) := by go_simp
 clear C4 b1 b2 hT1
 go_wp2_with fail
 go_ret
 exact ⟨rfl, bA⟩
end Go.Proofs.YtionhpedghmecaaGreatDoor

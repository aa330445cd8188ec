/- The walk of AlgScaled. -/
import Derived.Test.YtfgemlgmhlidmaaGreatDoorALX
import Derived.Test.YtfgemlgmhlidmaaGreatDoorASX
import Derived.Test.YtfgemlgmhlidmaaGreatDoorRDX
import Derived.Test.YtfgemlgmhlidmaaGreatDoorTMQ
import Derived.Test.YtfgemlgmhlidmaaGreatDoorTMS
import Derived.Deep.CutRange
namespace Go.Proofs.YtfgemlgmhlidmaaGreatDoor
open Go.RowKit

theorem cbA_U (x : Int) (h : U x) : U (cbB x) := by
 unfold cbB
 split
 ·split
  ·exact h
  ·unfold nbR
   split
   ·exact nearB_U _ _ _
   ·exact ⟨by decide, by decide⟩
 ·exact ⟨by decide, by decide⟩
theorem toR_U (s : Bool) (m : Nat) (e : Int) (hr : rightB m e = true) (h0 : m ≠ 0) : U (toR s m e).1 := by
 cases h : (toR s m e).2 with
 | true => rw [(toA_yes s m e hr h0 h).1]; exact nearB_U _ _ _
 | false =>
  have hx := to_exact s m e hr
  have : (toR s m e).1 = 0 := by
   unfold toR at h ⊢
   rw [if_neg (by rw [hr]; decide), if_neg h0] at h ⊢
   by_cases c : toB (formD s m e) = true
   ·rw [if_pos c] at h; cases h
   ·rw [if_neg c]
  rw [this]
  exact ⟨by decide, by decide⟩
theorem up_iff (x n : Int) (ux : U x) (hx : 1 ≤ expV x ∧ expV x ≤ 2046) (hn : -100 ≤ n ∧ n ≤ 100) : ((toR (fromP x).1 (fromP x).2.1 ((fromP x).2.2 + n)).2 = true ∧ classV (toR (fromP x).1 (fromP x).2.1 ((fromP x).2.2 + n)).1 = 3) ↔ NormT x n := by
 constructor
 ·rintro ⟨h1, h2⟩; exact up_only x n hx hn h1 h2
 ·intro h; rw [up_to x n ux h]; exact ⟨rfl, (up_from x n ux h).2.1⟩
set_option maxRecDepth 100000 in
set_option maxHeartbeats 4000000 in
theorem algTwice_calls (x n : Int) (w : World) (hU : U x) (hn1 : -100 ≤ n) (hn2 : n ≤ 100) :
  Calls Tryz.prog 33 #[.int .u64 x, .int .i64 n] w fun r w' => ∃ (y : Int) (b : Bool), r = .returned (.tuple #[.int .u64 y, .bool b]) ∧ U y ∧ Hid (b = true ↔ NormT x n) ∧ Hid (b = true → y = upN x n) ∧ Below w.heap.size w w' := by
 have FX : Hid _ := qfrom_calls x w hU
 have CX : Hid _ := fun W => rClass_calls x W hU
 cases hf : finB x with
 | false =>
  have HN : Hid (¬ NormT x n) := fun q => by have := norm_fin q.1; rw [hf] at this; cases this
  rw [(last_no hf).1] at FX
  generalize fromP x = p at *
  clear hf CX hn1 hn2
  go_enter Tryz.func33, Tryz.ntmps33
  go_wp2_with fail
  refine Calls.mono FX.out ?_
  rintro q w2 ⟨_, rfl, ⟨a, l, c, rfl, HL, hO⟩, b1⟩
  have bA := nT b1 (below_one w2 (.cells #[.bool p.1, .slice a l c, .int .i64 p.2.2] 38))
  go_wp2_with fail
  go_ret2
  exact ⟨0, false, rfl, ⟨by decide, by decide⟩, ⟨fun q => (by cases q), fun q => absurd q HN.out⟩, fun q => (by cases q), bA⟩
 | true =>
  rw [last_yes hf] at FX
  by_cases hc : classV x = 3
  ·have hx := cls_norm.1 hc
   have h0 := (norm_tp hx).2
   have hbd := fa_bd x
   have hr : rightB (fromP x).2.1 ((fromP x).2.2 + n) = true := by
    unfold rightB inB
    rw [(great_not _).2 (by omega)]
    simp
    omega
   have HI : Hid _ := up_iff x n hU hx ⟨hn1, hn2⟩
   have HY : Hid (NormT x n → (toR (fromP x).1 (fromP x).2.1 ((fromP x).2.2 + n)).1 = upN x n) := fun q => by rw [up_to x n hU q]
   have HTU : Hid _ := toR_U (fromP x).1 _ _ hr h0
   have HFm : Hid (formD (fromP x).1 (fromP x).2.1 ((fromP x).2.2 + n) = ((fromP x).1, (fromP x).2.1, (fromP x).2.2 + n)) := form_odd _ (fa_odd x h0) _
   have HLn : Hid ((wordsOf (fromP x).2.1).length ≤ 1024) := (great_len _).1 (rightB_yes hr).1
   have HB : Hid _ := hbd
   simp only [hc] at CX
   clear hf hc hx h0 hr hbd
   have HTo : Hid (∀ a l c W, IsW W a l c (wordsOf (fromP x).2.1) → l ≤ 1024 → Calls Tryz.prog 30 #[dyV (fromP x).1 a l c ((fromP x).2.2 + n)] W fun r w' => r = .returned (.tuple #[.int .u64 (toR (fromP x).1 (fromP x).2.1 ((fromP x).2.2 + n)).1, .bool (toR (fromP x).1 (fromP x).2.1 ((fromP x).2.2 + n)).2]) ∧ Below W.heap.size W w') := fun a l c W g hl => by
    have := qto_calls (fromP x).1 a l c (wordsOf (fromP x).2.1) ((fromP x).2.2 + n) W g (by omega)
    rwa [val_words] at this
   generalize toR (fromP x).1 (fromP x).2.1 ((fromP x).2.2 + n) = r3 at *
   obtain ⟨y3, i3⟩ := r3
   change Hid ((i3 = true ∧ classV y3 = 3) ↔ NormT x n) at HI
   change Hid (NormT x n → y3 = upN x n) at HY
   change Hid (U y3) at HTU
   change Hid (∀ a l c W, _ → _ → Calls _ _ _ W fun r w' => r = .returned (.tuple #[.int .u64 y3, .bool i3]) ∧ _) at HTo
   generalize fromP x = p at *
   go_enter Tryz.func33, Tryz.ntmps33
   go_wp2_with fail
   refine Calls.mono FX.out ?_
   rintro q w2 ⟨_, rfl, ⟨a, l, c, rfl, HL, hO⟩, b1⟩
   have hl : l ≤ 1024 := by rw [HL.out]; exact HLn.out
   have bA := nT b1 (below_one w2 (.cells #[.bool p.1, .slice a l c, .int .i64 p.2.2] 38))
   have k0 : (w2.alloc (.cells #[.bool p.1, .slice a l c, .int .i64 p.2.2] 38)).cell? ⟨w2.heap.size, 0, none⟩ = some (.bool p.1) := by go_simp
   have k1 : (w2.alloc (.cells #[.bool p.1, .slice a l c, .int .i64 p.2.2] 38)).cell? ⟨w2.heap.size, 1, none⟩ = some (.slice a l c) := by go_simp
   have k2 : (w2.alloc (.cells #[.bool p.1, .slice a l c, .int .i64 p.2.2] 38)).cell? ⟨w2.heap.size, 2, none⟩ = some (.int .i64 p.2.2) := by go_simp
   replace hO := hO.keep (below_one w2 (.cells #[.bool p.1, .slice a l c, .int .i64 p.2.2] 38))
   clear b1 FX HL
   go_wp2_with fail
   generalize w2.alloc (.cells #[.bool p.1, .slice a l c, .int .i64 p.2.2] 38) = w3 at *
   generalize w2.heap.size = D at *
   refine Calls.mono (CX.out _) ?_
   rintro q w3 ⟨rfl, rfl⟩
   have TC : Hid _ := qTwice_calls p.1 a l c (wordsOf p.2.1) p.2.2 n w3 hO.1 (by omega) ⟨by have := HB.out; omega, by omega, by omega⟩
   rw [val_words, HFm.out] at TC
   clear CX
   go_wp2_with fail
   refine Calls.mono TC.out ?_
   rintro q w4 ⟨_, rfl, ⟨a2, l2, c2, rfl, HL2, hO2⟩, b2⟩
   have hl2 : l2 ≤ 1024 := by rw [HL2.out]; exact HLn.out
   replace bA := nT bA b2
   clear TC b2 HL2 hO k0 k1 k2
   have TT : Hid _ := HTo.out a2 l2 c2 w4 hO2.1 hl2
   clear hO2 HTo hl hl2
   cases i3 with
   | false =>
    go_wp2_with fail
    refine Calls.mono TT.out ?_
    rintro q w5 ⟨rfl, b2⟩
    replace bA := nT bA b2
    go_wp2_with fail
    go_ret2
    exact ⟨y3, false, rfl, HTU.out, ⟨fun q => (by cases q), fun q => (by have := (HI.out.2 q).1; cases this)⟩, fun q => (by cases q), bA⟩
   | true =>
    have CY : Hid _ := fun W => rClass_calls y3 W HTU.out
    go_wp2_with fail
    refine Calls.mono TT.out ?_
    rintro q w5 ⟨rfl, b2⟩
    replace bA := nT bA b2
    clear TT b2
    go_wp2_with fail
    refine Calls.mono (CY.out _) ?_
    rintro q w5 ⟨rfl, rfl⟩
    go_wp2_with fail
    go_ret2
    refine ⟨y3, (classV y3 == 3), rfl, HTU.out, ⟨fun q => HI.out.1 ⟨(by first | rfl | trivial), by simpa using q⟩, fun q => by simpa using (HI.out.2 q).2⟩, fun q => HY.out (HI.out.1 ⟨(by first | rfl | trivial), by simpa using q⟩), bA⟩
  ·have HN : Hid (¬ NormT x n) := fun q => hc (cls_norm.2 q.1)
   have c1 : (classV x == 3) = false := beq_eq_false_iff_ne.2 hc
   have c2 : ¬ classV x = 3 := hc
   generalize classV x = C at *
   generalize fromP x = p at *
   clear hf hn1 hn2 hc
   go_enter Tryz.func33, Tryz.ntmps33
   go_wp2_with fail
   refine Calls.mono FX.out ?_
   rintro q w2 ⟨_, rfl, ⟨a, l, c, rfl, HL, hO⟩, b1⟩
   have bA := nT b1 (below_one w2 (.cells #[.bool p.1, .slice a l c, .int .i64 p.2.2] 38))
   go_wp2_with fail
   refine Calls.mono (CX.out _) ?_
   rintro q w3 ⟨rfl, rfl⟩
   go_wp2_with fail
   go_ret2
   exact ⟨0, false, rfl, ⟨by decide, by decide⟩, ⟨fun q => (by cases q), fun q => absurd q HN.out⟩, fun q => (by cases q), bA⟩
set_option maxRecDepth 100000 in
set_option maxHeartbeats 8000000 in
theorem algScaled_walk (x y : Int) (w : World) (hx : U x) (hy : U y) (hTw : Tab w) :
  Calls Tryz.prog 8 #[.int .u64 x, .int .u64 y] w fun q w' => q = .returned (.bool true) ∧ Below w.heap.size w w' := by
 have HL : Hid _ := alLives_calls w hTw
 have T3 : Hid _ := fun W => algTwice_calls x 3 W hx (by decide) (by decide)
 have T2 : Hid _ := fun W => algTwice_calls x 2 W hx (by decide) (by decide)
 have TX : Hid _ := fun W => algTwice_calls x 1 W hx (by decide) (by decide)
 have TY : Hid _ := fun W => algTwice_calls y 1 W hy (by decide) (by decide)
 have TA : Hid _ := fun W => algTwice_calls (cbB x) 1 W (cbA_U x hx) (by decide) (by decide)
 have TR : Hid _ := fun W => algTwice_calls (rsB x) (-1) W (by unfold rsB nbR; split; (split; exact nearB_U _ _ _; exact ⟨by decide, by decide⟩); exact ⟨by decide, by decide⟩) (by decide) (by decide)
 have TH : Hid _ := fun W => algTwice_calls (hyB x y) 1 W (by unfold hyB nbR; split; (split; exact ⟨by decide, by decide⟩; (split; exact nearB_U _ _ _; exact ⟨by decide, by decide⟩)); exact ⟨by decide, by decide⟩) (by decide) (by decide)
 have C1 : Hid _ := fun W (t : Tab W) => cbrt_all x W hx t
 have C2 : Hid (∀ z, U z → ∀ W, Tab W → Calls Tryz.prog 10 #[.int .u64 z] W fun q w' => q = .returned (.tuple #[.agg #[.int .u64 (cbB z), .int .u8 (cbF z)], .int .i64 (lastE z)]) ∧ Below W.heap.size W w') := fun z u W t => cbrt_all z W u t
 have R1 : Hid _ := fun W (t : Tab W) => rsqrt_all x W hx t
 have R2 : Hid (∀ z, U z → ∀ W, Tab W → Calls Tryz.prog 14 #[.int .u64 z] W fun q w' => q = .returned (.tuple #[.agg #[.int .u64 (rsB z), .int .u8 (rsF z)], .int .i64 (rsE z)]) ∧ Below W.heap.size W w') := fun z u W t => rsqrt_all z W u t
 have H1 : Hid _ := fun W (t : Tab W) => hypot_all x y W hx hy t
 have H2 : Hid (∀ u v, U u → U v → ∀ W, Tab W → Calls Tryz.prog 17 #[.int .u64 u, .int .u64 v] W fun q w' => q = .returned (.tuple #[.agg #[.int .u64 (hyB u v), .int .u8 (hyF u v)], .int .i64 (hyE u v)]) ∧ Below W.heap.size W w') := fun u v a b W t => hypot_all u v W a b t
 have S3 : Hid _ := fun h => cb_scaled x hx h
 have S2 : Hid _ := fun h q => rs_scaled x hx h q
 have S1 : Hid _ := fun a b c => hy_scaled x y hx hy a b c
 have HE5 : Hid (hyE x y = 0 ∨ hyE x y = 5) := by rw [Hid]; unfold hyE; split <;> simp
 generalize hyB x y = HB at *
 generalize hyF x y = HF at *
 generalize hyE x y = HE at *
 clear hx hy
 go_enter Tryz.func8, Tryz.ntmps8
 go_wp2_with fail
 refine Calls.mono HL.out ?_
 rintro q w1 ⟨rfl, bA⟩
 have hT := hTw.kept bA
 clear HL
 go_wp2_with fail
 refine Calls.mono (T3.out _) ?_
 rintro q w2 ⟨z3, i3, rfl, Uz3, I3, Y3, b1⟩
 replace bA := nT bA b1
 replace hT := hT.kept b1
 clear b1
 go_upto_if 35 with fail
 go_cut [7, 8, 9, 10, 11, 12] from 36 to 69 (fun _ _ _ _ _ _ wx => Below w2.heap.size w2 wx)
 case first =>
  have bA : Below w2.heap.size w2 w2 := Below.refl _ _
  cases i3 with
  | false =>
   go_wp2_with fail
   go_meet
   exact bA
  | true =>
   obtain ⟨s1, s2, s3, s4, s5⟩ := S3.out (I3.out.1 rfl)
   have hz := Y3.out rfl
   subst hz
   have D1 : Hid _ := C2.out _ Uz3
   rw [s2, s4, s5] at D1
   rw [s1] at C1
   have HNm : Hid _ := s3
   clear s1 s2 s3 s4 s5 Uz3 I3 Y3
   generalize cbB x = A at *
   generalize cbF x = F at *
   go_wp2_with fail
   refine Calls.mono (C1.out _ hT) ?_
   rintro q v1 ⟨rfl, b1⟩
   have b2 := nT b1 (below_one v1 (.cells #[.int .u64 (A), .int .u8 (F)] 25))
   replace bA := nT bA b2
   replace hT := hT.kept b2
   have a0 : (v1.alloc (.cells #[.int .u64 (A), .int .u8 (F)] 25)).cell? ⟨v1.heap.size, 0, none⟩ = some (.int .u64 (A)) := by go_simp
   have a1 : (v1.alloc (.cells #[.int .u64 (A), .int .u8 (F)] 25)).cell? ⟨v1.heap.size, 1, none⟩ = some (.int .u8 (F)) := by go_simp
   clear b1 b2
   go_wp2_with fail
   generalize v1.alloc (.cells #[.int .u64 (A), .int .u8 (F)] 25) = v2 at *
   generalize v1.heap.size = E1 at *
   refine Calls.mono (D1.out _ hT) ?_
   rintro q v3 ⟨rfl, b1⟩
   have b2 := nT b1 (below_one v3 (.cells #[.int .u64 (upN A 1), .int .u8 (F)] 25))
   replace bA := nT bA b2
   replace hT := hT.kept b2
   replace a0 := kC b2 a0
   replace a1 := kC b2 a1
   have c0 : (v3.alloc (.cells #[.int .u64 (upN A 1), .int .u8 (F)] 25)).cell? ⟨v3.heap.size, 0, none⟩ = some (.int .u64 (upN A 1)) := by go_simp
   have c1 : (v3.alloc (.cells #[.int .u64 (upN A 1), .int .u8 (F)] 25)).cell? ⟨v3.heap.size, 1, none⟩ = some (.int .u8 (F)) := by go_simp
   clear b1 b2
   go_wp2_with fail
   generalize v3.alloc (.cells #[.int .u64 (upN A 1), .int .u8 (F)] 25) = v4 at *
   generalize v3.heap.size = E2 at *
   refine Calls.mono (TA.out _) ?_
   rintro q v5 ⟨ya, ia, rfl, Uya, IA, YA, b1⟩
   replace bA := nT bA b1
   replace hT := hT.kept b1
   replace a0 := kC b1 a0
   replace a1 := kC b1 a1
   replace c0 := kC b1 c0
   replace c1 := kC b1 c1
   clear b1
   have hia := IA.out.2 HNm.out
   have hya := YA.out hia
   subst hia hya
   go_wp2_with fail
   go_meet
   exact bA
 case rest =>
 replace bA := nT bA hcut
 replace hT := hT.kept hcut
 clear hcut T3 S3 C1 C2 TA I3 Y3
 go_wp2_with fail
 refine Calls.mono (T2.out _) ?_
 rintro q w3 ⟨z2, i2, rfl, Uz2, I2, Y2, b1⟩
 replace bA := nT bA b1
 replace hT := hT.kept b1
 clear b1
 go_upto_region 11 with fail
 go_cut [79] from 75 to 79 (fun v wx => ∃ bb : Bool, v = .bool bb ∧ wx = w3 ∧ Hid (bb = true → i2 = true ∧ x < 9223372036854775808))
 case first =>
  cases i2 with
  | false =>
   go_wp2_with fail
   go_meet
   exact ⟨false, rfl, rfl, fun q => by cases q⟩
  | true =>
   rcases Int.lt_or_le x 9223372036854775808 with c | c
   ·go_wp2_with fail
    go_meet
    first | exact ⟨true, rfl, rfl, fun _ => ⟨by first | rfl | trivial, c⟩⟩ | exact ⟨_, rfl, rfl, fun _ => ⟨by first | rfl | trivial, c⟩⟩
   ·go_wp2_with fail
    go_meet
    exact ⟨_, rfl, rfl, fun q => absurd (of_decide_eq_true q) (by omega)⟩
 case rest =>
 obtain ⟨bb, rfl, rfl, HBB⟩ := hcut
 go_upto_if 79 with fail
 go_cut [13, 14, 15, 16, 17, 18] from 80 to 113 (fun _ _ _ _ _ _ wx => Below wc.heap.size wc wx)
 case first =>
  have bA : Below wc.heap.size wc wc := Below.refl _ _
  cases bb with
  | false =>
   go_wp2_with fail
   go_meet
   exact bA
  | true =>
   obtain ⟨hi, hxx⟩ := HBB.out rfl
   obtain ⟨s1, s2, s3, s4, s5⟩ := S2.out (I2.out.1 hi) hxx
   have hz := Y2.out hi
   subst hz
   have D1 : Hid _ := R2.out _ Uz2
   rw [s2, s4, s5] at D1
   rw [s1] at R1
   have HNm : Hid _ := s3
   clear s1 s2 s3 s4 s5 Uz2 I2 Y2 HBB hxx hi
   generalize rsB x = A at *
   generalize rsF x = F at *
   go_wp2_with fail
   refine Calls.mono (R1.out _ hT) ?_
   rintro q v1 ⟨rfl, b1⟩
   have b2 := nT b1 (below_one v1 (.cells #[.int .u64 (A), .int .u8 (F)] 25))
   replace bA := nT bA b2
   replace hT := hT.kept b2
   have a0 : (v1.alloc (.cells #[.int .u64 (A), .int .u8 (F)] 25)).cell? ⟨v1.heap.size, 0, none⟩ = some (.int .u64 (A)) := by go_simp
   have a1 : (v1.alloc (.cells #[.int .u64 (A), .int .u8 (F)] 25)).cell? ⟨v1.heap.size, 1, none⟩ = some (.int .u8 (F)) := by go_simp
   clear b1 b2
   go_wp2_with fail
   generalize v1.alloc (.cells #[.int .u64 (A), .int .u8 (F)] 25) = v2 at *
   generalize v1.heap.size = E1 at *
   refine Calls.mono (D1.out _ hT) ?_
   rintro q v3 ⟨rfl, b1⟩
   have b2 := nT b1 (below_one v3 (.cells #[.int .u64 (upN A (-1)), .int .u8 (F)] 25))
   replace bA := nT bA b2
   replace hT := hT.kept b2
   replace a0 := kC b2 a0
   replace a1 := kC b2 a1
   have c0 : (v3.alloc (.cells #[.int .u64 (upN A (-1)), .int .u8 (F)] 25)).cell? ⟨v3.heap.size, 0, none⟩ = some (.int .u64 (upN A (-1))) := by go_simp
   have c1 : (v3.alloc (.cells #[.int .u64 (upN A (-1)), .int .u8 (F)] 25)).cell? ⟨v3.heap.size, 1, none⟩ = some (.int .u8 (F)) := by go_simp
   clear b1 b2
   go_wp2_with fail
   generalize v3.alloc (.cells #[.int .u64 (upN A (-1)), .int .u8 (F)] 25) = v4 at *
   generalize v3.heap.size = E2 at *
   refine Calls.mono (TR.out _) ?_
   rintro q v5 ⟨ya, ia, rfl, Uya, IA, YA, b1⟩
   replace bA := nT bA b1
   replace hT := hT.kept b1
   replace a0 := kC b1 a0
   replace a1 := kC b1 a1
   replace c0 := kC b1 c0
   replace c1 := kC b1 c1
   clear b1
   have hia := IA.out.2 HNm.out
   have hya := YA.out hia
   subst hia hya
   go_wp2_with fail
   go_meet
   exact bA
 case rest =>
 replace bA := nT bA hcut
 replace hT := hT.kept hcut
 clear hcut T2 S2 R1 R2 TR I2 Y2 HBB
 go_wp2_with fail
 refine Calls.mono (TX.out _) ?_
 rintro q w4 ⟨u1, ix, rfl, Uu1, IX, YX, b1⟩
 replace bA := nT bA b1
 replace hT := hT.kept b1
 clear b1
 go_wp2_with fail
 refine Calls.mono (TY.out _) ?_
 rintro q w5 ⟨u2, iy, rfl, Uu2, IY, YY, b1⟩
 replace bA := nT bA b1
 replace hT := hT.kept b1
 clear b1
 go_wp2_with fail
 refine Calls.mono (H1.out _ hT) ?_
 rintro q w6 ⟨rfl, b1⟩
 have b2 := nT b1 (below_one w6 (.cells #[.int .u64 (HB), .int .u8 (HF)] 25))
 replace bA := nT bA b2
 replace hT := hT.kept b2
 have a0 : (w6.alloc (.cells #[.int .u64 (HB), .int .u8 (HF)] 25)).cell? ⟨w6.heap.size, 0, none⟩ = some (.int .u64 (HB)) := by go_simp
 have a1 : (w6.alloc (.cells #[.int .u64 (HB), .int .u8 (HF)] 25)).cell? ⟨w6.heap.size, 1, none⟩ = some (.int .u8 (HF)) := by go_simp
 clear b1 b2
 go_wp2_with fail
 generalize w6.alloc (.cells #[.int .u64 (HB), .int .u8 (HF)] 25) = w7 at *
 generalize w6.heap.size = E1 at *
 have D2 : Hid _ := H2.out _ _ Uu1 Uu2
 generalize hB2 : hyB u1 u2 = B2 at *
 generalize hF2 : hyF u1 u2 = F2 at *
 generalize hE2 : hyE u1 u2 = W2 at *
 have HB2 : Hid (hyB u1 u2 = B2 ∧ hyF u1 u2 = F2 ∧ hyE u1 u2 = W2) := ⟨hB2, hF2, hE2⟩
 clear hB2 hF2 hE2 H2
 refine Calls.mono (D2.out _ hT) ?_
 rintro q w8 ⟨rfl, b1⟩
 have b2 := nT b1 (below_one w8 (.cells #[.int .u64 (B2), .int .u8 (F2)] 25))
 replace bA := nT bA b2
 replace hT := hT.kept b2
 replace a0 := kC b2 a0
 replace a1 := kC b2 a1
 have c0 : (w8.alloc (.cells #[.int .u64 (B2), .int .u8 (F2)] 25)).cell? ⟨w8.heap.size, 0, none⟩ = some (.int .u64 (B2)) := by go_simp
 have c1 : (w8.alloc (.cells #[.int .u64 (B2), .int .u8 (F2)] 25)).cell? ⟨w8.heap.size, 1, none⟩ = some (.int .u8 (F2)) := by go_simp
 clear b1 b2
 go_wp2_with fail
 generalize w8.alloc (.cells #[.int .u64 (B2), .int .u8 (F2)] 25) = w9 at *
 generalize w8.heap.size = E2 at *
 refine Calls.mono (TH.out _) ?_
 rintro q w10 ⟨ch, fi, rfl, Uch, IH, YH, b1⟩
 replace bA := nT bA b1
 replace hT := hT.kept b1
 replace a0 := kC b1 a0
 replace a1 := kC b1 a1
 replace c0 := kC b1 c0
 replace c1 := kC b1 c1
 clear b1
 clear hT hTw
 cases ix with
 | false =>
  go_wp2_with fail
  go_ret
  exact ⟨rfl, bA⟩
 | true =>
  cases iy with
  | false =>
   go_wp2_with fail
   go_ret
   exact ⟨rfl, bA⟩
  | true =>
   rcases HE5.out with qe | qe
   ·subst qe
    cases fi with
    | false =>
     go_wp2_with fail
     go_ret
     exact ⟨rfl, bA⟩
    | true =>
     obtain ⟨s1, s2, s3⟩ := S1.out (IX.out.1 rfl) (IY.out.1 rfl) (IH.out.1 rfl)
     have hx1 := YX.out rfl
     have hy1 := YY.out rfl
     have hh1 := YH.out rfl
     obtain ⟨g1, g2, g3⟩ := HB2.out
     rw [hx1, hy1, s2, ← hh1] at g1
     rw [hx1, hy1, s3] at g2
     rw [hx1, hy1, s1] at g3
     clear s1 s2 s3 hx1 hy1 hh1 HB2
     subst g1 g2 g3
     go_wp2_with fail
     go_ret
     exact ⟨rfl, bA⟩
   ·subst qe
    go_wp2_with fail
    go_ret
    exact ⟨rfl, bA⟩
end Go.Proofs.YtfgemlgmhlidmaaGreatDoor

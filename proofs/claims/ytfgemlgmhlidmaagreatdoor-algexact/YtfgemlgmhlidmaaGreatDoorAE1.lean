/- The walk of AlgExact. -/
import Derived.Test.YtfgemlgmhlidmaaGreatDoorALX
import Derived.Test.YtfgemlgmhlidmaaGreatDoorAE0
import Derived.Test.YtfgemlgmhlidmaaGreatDoorRDX
import Derived.Test.YtfgemlgmhlidmaaGreatDoorTMR
import Derived.Test.YtfgemlgmhlidmaaGreatDoorTMS
import Derived.Deep.CutRange
import Derived.BigQuiet
namespace Go.Proofs.YtfgemlgmhlidmaaGreatDoor
open Go.RowKit

theorem len_of {p : Bool × Nat × Int} {B : Nat} (hb : blen p.2.1 ≤ B) (hB : B ≤ 60000) : (wordsOf p.2.1).length ≤ 1024 := (great_len _).1 ((great_not _).2 (by omega))

set_option maxRecDepth 100000 in
set_option maxHeartbeats 2000000 in
theorem cube_calls (p : Bool × Nat × Int) (a : Option Addr) (n c : Nat) (w : World) (h : IsW w a n c (wordsOf p.2.1)) (hn : n ≤ 1024) (hc : CanD p) (hb : blen p.2.1 ≤ 60) (he : -1100 ≤ p.2.2 ∧ p.2.2 ≤ 1100) (hb2 : blen (mulD p p).2.1 ≤ 200) (he2 : -5000 ≤ (mulD p p).2.2 ∧ (mulD p p).2.2 ≤ 5000) :
    Calls Tryz.prog 27 #[dyV p.1 a n c p.2.2] w fun r w' => ∃ v', r = .returned v' ∧ DyQ w.heap.size w' v' (mulD p (mulD p p)) ∧ Below w.heap.size w w' := by
  have bA : Below w.heap.size w ((w.alloc (.cells #[.bool p.1, .slice a n c, .int .i64 p.2.2] 38)).alloc (.cells #[.bool false, .slice none 0 0, .int .i64 0] 38)) := nT (below_one _ _) (below_one _ _)
  have hI := h.keep bA
  have IC : Hid (∀ W, IsW W a n c (wordsOf p.2.1) → Calls Tryz.prog 28 #[dyV p.1 a n c p.2.2, dyV p.1 a n c p.2.2] W fun r w' => ∃ v', r = .returned v' ∧ DyQ W.heap.size w' v' (mulD p p) ∧ Below W.heap.size W w') := fun W g => by
    have := qTimes_calls p.1 a n c (wordsOf p.2.1) p.2.2 p.1 a n c (wordsOf p.2.1) p.2.2 W g (by omega) g (by omega) (by omega) (by omega) (by rw [val_words]; omega) (by rw [val_words]; omega)
    rwa [val_words, form_of_can hc] at this
  have OC : Hid (∀ W a1 n1 c1, IsW W a n c (wordsOf p.2.1) → IsW W a1 n1 c1 (wordsOf (mulD p p).2.1) → n1 = (wordsOf (mulD p p).2.1).length → Calls Tryz.prog 28 #[dyV p.1 a n c p.2.2, dyV (mulD p p).1 a1 n1 c1 (mulD p p).2.2] W fun r w' => ∃ v', r = .returned v' ∧ DyQ W.heap.size w' v' (mulD p (mulD p p)) ∧ Below W.heap.size W w') := fun W a1 n1 c1 g g1 hn1 => by
    have hl := len_of hb2 (by decide)
    have := qTimes_calls p.1 a n c (wordsOf p.2.1) p.2.2 (mulD p p).1 a1 n1 c1 (wordsOf (mulD p p).2.1) (mulD p p).2.2 W g (by omega) g1 (by omega) (by omega) (by omega) (by rw [val_words]; omega) (by rw [val_words]; omega)
    have hcan : CanD (mulD p p) := form_can _ _ _
    rwa [val_words, val_words, form_of_can hc, form_of_can hcan] at this
  generalize mulD p (mulD p p) = q3 at *
  generalize mulD p p = q2 at *
  have k0 : ((w.alloc (.cells #[.bool p.1, .slice a n c, .int .i64 p.2.2] 38)).alloc (.cells #[.bool false, .slice none 0 0, .int .i64 0] 38)).cell? ⟨w.heap.size, 0, none⟩ = some (.bool p.1) := by go_simp
  have k1 : ((w.alloc (.cells #[.bool p.1, .slice a n c, .int .i64 p.2.2] 38)).alloc (.cells #[.bool false, .slice none 0 0, .int .i64 0] 38)).cell? ⟨w.heap.size, 1, none⟩ = some (.slice a n c) := by go_simp
  have k2 : ((w.alloc (.cells #[.bool p.1, .slice a n c, .int .i64 p.2.2] 38)).alloc (.cells #[.bool false, .slice none 0 0, .int .i64 0] 38)).cell? ⟨w.heap.size, 2, none⟩ = some (.int .i64 p.2.2) := by go_simp
  have z0 : ((w.alloc (.cells #[.bool p.1, .slice a n c, .int .i64 p.2.2] 38)).alloc (.cells #[.bool false, .slice none 0 0, .int .i64 0] 38)).cell? ⟨w.heap.size + 1, 0, none⟩ = some (.bool false) := by go_simp
  have z1 : ((w.alloc (.cells #[.bool p.1, .slice a n c, .int .i64 p.2.2] 38)).alloc (.cells #[.bool false, .slice none 0 0, .int .i64 0] 38)).cell? ⟨w.heap.size + 1, 1, none⟩ = some (.slice none 0 0) := by go_simp
  have z2 : ((w.alloc (.cells #[.bool p.1, .slice a n c, .int .i64 p.2.2] 38)).alloc (.cells #[.bool false, .slice none 0 0, .int .i64 0] 38)).cell? ⟨w.heap.size + 1, 2, none⟩ = some (.int .i64 0) := by go_simp
  have f0 : ((w.alloc (.cells #[.bool p.1, .slice a n c, .int .i64 p.2.2] 38)).alloc (.cells #[.bool false, .slice none 0 0, .int .i64 0] 38)).frozen? ⟨w.heap.size + 1, 0, none⟩ = false := by go_simp
  have f1 : ((w.alloc (.cells #[.bool p.1, .slice a n c, .int .i64 p.2.2] 38)).alloc (.cells #[.bool false, .slice none 0 0, .int .i64 0] 38)).frozen? ⟨w.heap.size + 1, 1, none⟩ = false := by go_simp
  have f2 : ((w.alloc (.cells #[.bool p.1, .slice a n c, .int .i64 p.2.2] 38)).alloc (.cells #[.bool false, .slice none 0 0, .int .i64 0] 38)).frozen? ⟨w.heap.size + 1, 2, none⟩ = false := by go_simp
  have lz : w.heap.size + 1 < ((w.alloc (.cells #[.bool p.1, .slice a n c, .int .i64 p.2.2] 38)).alloc (.cells #[.bool false, .slice none 0 0, .int .i64 0] 38)).heap.size := by simp
  clear h hn hc hb he hb2 he2
  go_enter Tryz.func27, Tryz.ntmps27
  go_wp2_with fail
  generalize ((w.alloc (.cells #[.bool p.1, .slice a n c, .int .i64 p.2.2] 38)).alloc (.cells #[.bool false, .slice none 0 0, .int .i64 0] 38)) = w0 at *
  have bD : Below w0.heap.size w0 w0.drew := (Below.refl _ _).drew
  go_region_with (first
      | (go_at_call 28; refine calls_guard #[dyV p.1 a n c p.2.2, dyV p.1 a n c p.2.2] ?_ ?_; (focus rfl); refine (IC.out _ (hI.keep bD)).mono ?_; rintro r w1 ⟨_, rfl, ⟨a1, n1, c1, rfl, HN1, hO1⟩, b1⟩; have bI := nT bD b1; clear b1; have hJ := hI.keep bI; have j0 := kC bI k0; have j1 := kC bI k1; have j2 := kC bI k2; have g0 := kF bI z0 f0; have g1 := kF bI z1 f1; have g2 := kF bI z2 f2; have y0 := kC bI z0; have y1 := kC bI z1; have y2 := kC bI z2; have bB := nT bA bI; have lw := Nat.lt_of_lt_of_le lz bI.size; clear bI)
      | (go_at_call 28; refine calls_guard #[dyV p.1 a n c p.2.2, dyV q2.1 a1 n1 c1 q2.2.2] ?_ ?_; (focus rfl); refine (OC.out _ a1 n1 c1 hJ hO1.1 HN1.out).mono ?_; rintro r w2 ⟨_, rfl, ⟨a2, n2, c2, rfl, HN2, hO2⟩, b2⟩; replace g0 := kF b2 y0 g0; replace g1 := kF b2 y1 g1; replace g2 := kF b2 y2 g2; replace y0 := kC b2 y0; replace y1 := kC b2 y1; replace y2 := kC b2 y2; replace bB := nT bB b2; clear b2))
  all_goals
    go_wp2_with fail
    refine bodyPost_ret (v := dyV q3.1 a2 n2 c2 q3.2.2) (by simp [results, Tryz.results27, go_sem, y0, y1, y2]) rfl ⟨_, rfl, ⟨a2, n2, c2, rfl, HN2, (((hO2.far _ _ (by show w.heap.size + 1 < _; exact lw)).far _ _ (by show w.heap.size + 1 < _; exact lw)).far _ _ (by show w.heap.size + 1 < _; exact lw)).low (Nat.le_of_lt (Nat.lt_of_succ_lt lw))⟩, by repeat (first | (with_reducible exact bB) | (with_reducible refine Below.setCell ?_ (by simp) _))⟩

theorem sqD_bd (x : Int) (h0 : (fromP x).2.1 ≠ 0) : blen (sqD x).2.1 ≤ 200 ∧ -5000 ≤ (sqD x).2.2 ∧ (sqD x).2.2 ≤ 5000 ∧ rightB (sqD x).2.1 (sqD x).2.2 = true := by
  have hb := fa_bd x
  have h2 : blen ((fromP x).2.1 ^ 2) ≤ 60 * 2 := by
    refine (blen_le _ _).2 ?_
    rw [Nat.pow_mul]
    exact Nat.pow_lt_pow_left ((blen_le _ 60).1 (by omega)) (by omega)
  have hr := (sq_room x).2.2
  rw [sq_form x h0] at hr ⊢
  exact ⟨by show blen ((fromP x).2.1 ^ 2) ≤ 200; omega, by show -5000 ≤ ((2 : Nat) : Int) * (fromP x).2.2; omega, by show ((2 : Nat) : Int) * (fromP x).2.2 ≤ 5000; omega, hr⟩
theorem cuD_len (x : Int) (h0 : (fromP x).2.1 ≠ 0) : (wordsOf (cuD x).2.1).length ≤ 1024 := by
  have hb := fa_bd x
  have hr := (pow_tp 3 (fromP x).2.1 (fromP x).2.2 (Or.inr rfl) h0 (by omega) (by omega)).2.1
  rw [cu_form x h0]
  exact (great_len _).1 (rightB_yes hr).1

set_option maxRecDepth 100000 in
set_option maxHeartbeats 8000000 in
theorem algExact_walk (x e : Int) (w : World) (hx : U x) (he : -9223372036854775808 ≤ e ∧ e ≤ 9223372036854775807) (hTw : Tab w) :
    Calls Tryz.prog 6 #[.int .u64 x, .int .i64 e] w fun q w' => q = .returned (.bool true) ∧ Below w.heap.size w w' := by
  have HL : Hid _ := alLives_calls w hTw
  have FX : Hid _ := fun W => qfrom_calls x W hx
  cases hf : finB x with
  | false =>
    rw [(last_no hf).1] at FX
    generalize fromP x = p at *
    clear hf he
    go_enter Tryz.func6, Tryz.ntmps6
    go_wp2_with fail
    refine Calls.mono HL.out ?_
    rintro q w1 ⟨rfl, bA⟩
    go_wp2_with fail
    refine Calls.mono (FX.out _) ?_
    rintro q w2 ⟨_, rfl, ⟨a, n, c, rfl, HN, hO⟩, b1⟩
    replace bA := nT (nT bA b1) (below_one w2 (.cells #[.bool p.1, .slice a n c, .int .i64 p.2.2] 38))
    go_wp2_with fail
    go_ret
    exact ⟨rfl, bA⟩
  | true =>
    rw [last_yes hf] at FX
    have HLn : Hid ((wordsOf (fromP x).2.1).length ≤ 1024) := (great_len _).1 (rightB_yes (fa_right x)).1
    by_cases h0 : (fromP x).2.1 = 0
    · have HZ : Hid ((fromP x).2.1 = 0) := h0
      generalize fromP x = p at *
      clear hf he h0
      go_enter Tryz.func6, Tryz.ntmps6
      go_wp2_with fail
      refine Calls.mono HL.out ?_
      rintro q w1 ⟨rfl, bA⟩
      go_wp2_with fail
      refine Calls.mono (FX.out _) ?_
      rintro q w2 ⟨_, rfl, ⟨a, n, c, rfl, HN, hO⟩, b1⟩
      have hn : n ≤ 1024 := by rw [HN.out]; exact HLn.out
      replace bA := nT (nT bA b1) (below_one w2 (.cells #[.bool p.1, .slice a n c, .int .i64 p.2.2] 38))
      replace hO := hO.keep (below_one w2 (.cells #[.bool p.1, .slice a n c, .int .i64 p.2.2] 38))
      have ZC : Hid _ := qZero_calls p.1 a n c (wordsOf p.2.1) p.2.2 _ hO.1 (by omega)
      rw [val_words, decide_eq_true HZ.out] at ZC
      clear hO HN hn
      go_wp2_with fail
      refine Calls.mono ZC.out ?_
      rintro q w3 ⟨rfl, b2⟩
      replace bA := nT bA b2
      go_wp2_with fail
      go_ret
      exact ⟨rfl, bA⟩
    · have HZ : Hid ((fromP x).2.1 ≠ 0) := h0
      have HCB : Hid _ := cube_back x hx hf h0
      have HSB : Hid _ := square_back x hx hf h0
      have hbd := fa_bd x
      have hsb := sqD_bd x h0
      have HCU : Hid (∀ a n c W, IsW W a n c (wordsOf (fromP x).2.1) → n ≤ 1024 → Calls Tryz.prog 27 #[dyV (fromP x).1 a n c (fromP x).2.2] W fun r w' => ∃ v', r = .returned v' ∧ DyQ W.heap.size w' v' (cuD x) ∧ Below W.heap.size W w') := fun a n c W g hn => cube_calls (fromP x) a n c W g hn (fa_can x) (by omega) (by omega) hsb.1 ⟨hsb.2.1, hsb.2.2.1⟩
      have HTM : Hid (∀ a n c W, IsW W a n c (wordsOf (fromP x).2.1) → n ≤ 1024 → Calls Tryz.prog 28 #[dyV (fromP x).1 a n c (fromP x).2.2, dyV (fromP x).1 a n c (fromP x).2.2] W fun r w' => ∃ v', r = .returned v' ∧ DyQ W.heap.size w' v' (sqD x) ∧ Below W.heap.size W w') := fun a n c W g hn => by
        have := qTimes_calls (fromP x).1 a n c (wordsOf (fromP x).2.1) (fromP x).2.2 (fromP x).1 a n c (wordsOf (fromP x).2.1) (fromP x).2.2 W g (by omega) g (by omega) (by omega) (by omega) (by rw [val_words]; omega) (by rw [val_words]; omega)
        rwa [val_words, form_of_can (fa_can x)] at this
      have HL3 : Hid _ := cuD_len x h0
      have HL2 : Hid ((wordsOf (sqD x).2.1).length ≤ 1024) := (great_len _).1 (rightB_yes hsb.2.2.2).1
      have AX : Hid _ := fun W => abs_calls x W hx
      have HT1 : Hid (∀ y, U y → ∀ W, Tab W → Calls Tryz.prog 10 #[.int .u64 y] W fun q w' => q = .returned (.tuple #[.agg #[.int .u64 (cbB y), .int .u8 (cbF y)], .int .i64 (lastE y)]) ∧ Below W.heap.size W w') := fun y u W t => cbrt_all y W u t
      have HT2 : Hid (∀ y, U y → ∀ W, Tab W → Calls Tryz.prog 12 #[.int .u64 y] W fun q w' => q = .returned (.tuple #[.agg #[.int .u64 (sqB y), .int .u8 (sqF y)], .int .i64 (sqE y)]) ∧ Below W.heap.size W w') := fun y u W t => sqrtA_all y W u t
      clear hbd hsb hf h0
      generalize sqD x = p2 at *
      generalize cuD x = p3 at *
      generalize fromP x = p at *
      generalize absV x = ax at *
      go_enter Tryz.func6, Tryz.ntmps6
      go_wp2_with fail
      refine Calls.mono HL.out ?_
      rintro q w1 ⟨rfl, bA⟩
      have hT := hTw.kept bA
      clear HL
      go_wp2_with fail
      refine Calls.mono (FX.out _) ?_
      rintro q w2 ⟨_, rfl, ⟨a, n, c, rfl, HN, hO⟩, b1⟩
      have hn : n ≤ 1024 := by rw [HN.out]; exact HLn.out
      have b2 := nT b1 (below_one w2 (.cells #[.bool p.1, .slice a n c, .int .i64 p.2.2] 38))
      replace bA := nT bA b2
      replace hT := hT.kept b2
      replace hO := hO.keep (below_one w2 (.cells #[.bool p.1, .slice a n c, .int .i64 p.2.2] 38))
      have k0 : (w2.alloc (.cells #[.bool p.1, .slice a n c, .int .i64 p.2.2] 38)).cell? ⟨w2.heap.size, 0, none⟩ = some (.bool p.1) := by go_simp
      have k1 : (w2.alloc (.cells #[.bool p.1, .slice a n c, .int .i64 p.2.2] 38)).cell? ⟨w2.heap.size, 1, none⟩ = some (.slice a n c) := by go_simp
      have k2 : (w2.alloc (.cells #[.bool p.1, .slice a n c, .int .i64 p.2.2] 38)).cell? ⟨w2.heap.size, 2, none⟩ = some (.int .i64 p.2.2) := by go_simp
      have ZC : Hid _ := qZero_calls p.1 a n c (wordsOf p.2.1) p.2.2 _ hO.1 (by omega)
      rw [val_words, decide_eq_false HZ.out] at ZC
      clear HN b1 b2 FX
      go_wp2_with fail
      generalize w2.alloc (.cells #[.bool p.1, .slice a n c, .int .i64 p.2.2] 38) = w3 at *
      generalize w2.heap.size = D at *
      refine Calls.mono ZC.out ?_
      rintro q w4 ⟨rfl, b2⟩
      clear ZC
      replace bA := nT bA b2
      replace hT := hT.kept b2
      replace hO := hO.keep b2
      replace k0 := kC b2 k0
      replace k1 := kC b2 k1
      replace k2 := kC b2 k2
      clear b2
      go_wp2_with fail
      refine Calls.mono (HCU.out a n c _ hO.1 hn) ?_
      rintro q w5 ⟨_, rfl, ⟨a3, n3, c3, rfl, HN3, hO3⟩, b2⟩
      replace bA := nT bA b2
      replace hT := hT.kept b2
      replace hO := hO.keep b2
      replace k0 := kC b2 k0
      replace k1 := kC b2 k1
      replace k2 := kC b2 k2
      clear b2 HCU
      have hn3 : n3 ≤ 1024 := by rw [HN3.out]; exact HL3.out
      have TC : Hid _ := qto_calls p3.1 a3 n3 c3 (wordsOf p3.2.1) p3.2.2 w5 hO3.1 (by omega)
      rw [val_words] at TC
      clear hO3 HN3 hn3
      generalize toR p3.1 p3.2.1 p3.2.2 = r3 at *
      obtain ⟨y3, i3⟩ := r3
      change Hid (i3 = true → U y3 ∧ lastE y3 = 0 ∧ cbB y3 = x ∧ cbF y3 = 0) at HCB
      change Hid (Calls _ _ _ _ fun r w' => r = .returned (.tuple #[.int .u64 y3, .bool i3]) ∧ _) at TC
      go_wp2_with fail
      refine Calls.mono TC.out ?_
      rintro q w6 ⟨rfl, b2⟩
      replace bA := nT bA b2
      replace hT := hT.kept b2
      replace hO := hO.keep b2
      replace k0 := kC b2 k0
      replace k1 := kC b2 k1
      replace k2 := kC b2 k2
      clear b2 TC
      go_upto_if 39 with fail
      go_cut [9, 10] from 40 to 52 (fun _ _ wx => Below w6.heap.size w6 wx)
      case first =>
        cases i3 with
        | true =>
          obtain ⟨u1, u2, u3, u4⟩ := HCB.out rfl
          have CC : Hid _ := HT1.out _ u1 w6 hT
          rw [u2, u3, u4] at CC
          clear u1 u2 u3 u4
          go_wp2_with fail
          refine Calls.mono CC.out ?_
          rintro q v1 ⟨rfl, b2⟩
          have b3 := nT b2 (below_one v1 (.cells #[.int .u64 (x), .int .u8 (0)] 25))
          have m0 : (v1.alloc (.cells #[.int .u64 (x), .int .u8 (0)] 25)).cell? ⟨v1.heap.size, 0, none⟩ = some (.int .u64 x) := by go_simp
          have m1 : (v1.alloc (.cells #[.int .u64 (x), .int .u8 (0)] 25)).cell? ⟨v1.heap.size, 1, none⟩ = some (.int .u8 0) := by go_simp
          go_wp2_with fail
          go_meet
          exact b3
        | false =>
          go_wp2_with fail
          go_meet
          exact Below.refl _ _
      case rest =>
      have b2 := hcut
      replace bA := nT bA b2
      replace hT := hT.kept b2
      replace hO := hO.keep b2
      replace k0 := kC b2 k0
      replace k1 := kC b2 k1
      replace k2 := kC b2 k2
      clear b2 hcut HCB HT1 HL3
      go_wp2_with fail
      refine Calls.mono (HTM.out a n c _ hO.1 hn) ?_
      rintro q w7 ⟨_, rfl, ⟨a3, n3, c3, rfl, HN3, hO3⟩, b2⟩
      replace bA := nT bA b2
      replace hT := hT.kept b2
      clear b2 HTM k0 k1 k2 hO hn
      have hn3 : n3 ≤ 1024 := by rw [HN3.out]; exact HL2.out
      have TC : Hid _ := qto_calls p2.1 a3 n3 c3 (wordsOf p2.2.1) p2.2.2 w7 hO3.1 (by omega)
      rw [val_words] at TC
      clear hO3 HN3 hn3
      generalize toR p2.1 p2.2.1 p2.2.2 = r2 at *
      obtain ⟨y2, i2⟩ := r2
      change Hid (i2 = true → U y2 ∧ sqE y2 = 0 ∧ sqB y2 = ax ∧ sqF y2 = 0) at HSB
      change Hid (Calls _ _ _ _ fun r w' => r = .returned (.tuple #[.int .u64 y2, .bool i2]) ∧ _) at TC
      go_wp2_with fail
      refine Calls.mono TC.out ?_
      rintro q w8 ⟨rfl, b2⟩
      replace bA := nT bA b2
      replace hT := hT.kept b2
      clear b2 TC
      go_upto_if 60 with fail
      go_cut [11, 12] from 61 to 74 (fun _ _ wx => Below w8.heap.size w8 wx)
      case first =>
        cases i2 with
        | true =>
          obtain ⟨u1, u2, u3, u4⟩ := HSB.out rfl
          have CC : Hid _ := HT2.out _ u1 w8 hT
          rw [u2, u3, u4] at CC
          clear u1 u2 u3 u4
          go_wp2_with fail
          refine Calls.mono CC.out ?_
          rintro q v1 ⟨rfl, b2⟩
          have b3 := nT b2 (below_one v1 (.cells #[.int .u64 (ax), .int .u8 (0)] 25))
          have m0 : (v1.alloc (.cells #[.int .u64 (ax), .int .u8 (0)] 25)).cell? ⟨v1.heap.size, 0, none⟩ = some (.int .u64 ax) := by go_simp
          have m1 : (v1.alloc (.cells #[.int .u64 (ax), .int .u8 (0)] 25)).cell? ⟨v1.heap.size, 1, none⟩ = some (.int .u8 0) := by go_simp
          clear b2
          go_wp2_with fail
          generalize v1.alloc (.cells #[.int .u64 (ax), .int .u8 (0)] 25) = v2 at *
          generalize v1.heap.size = D2 at *
          go_quiet ((go_at_call 31; refine Calls.quiet_of_same (AX.out _)))
          have bQ : Below v2.heap.size v2 (v2.drewN nq) := below_drewN (Below.refl _ _) nq
          replace b3 := nT b3 bQ
          go_wp2_with fail
          go_meet
          exact b3
        | false =>
          go_wp2_with fail
          go_meet
          exact Below.refl _ _
      case rest =>
      have b2 := hcut
      replace bA := nT bA b2
      replace hT := hT.kept b2
      clear b2 hcut HSB HT2 HL2 AX
      rcases Int.lt_or_le e (-1000) with c1 | c1
      · go_wp2_with fail
        go_ret
        exact ⟨rfl, bA⟩
      rcases Int.lt_or_le 1000 e with c2 | c2
      · go_wp2_with fail
        go_ret
        exact ⟨rfl, bA⟩
      obtain ⟨t3, x3, _, _⟩ := small_to 3 e (Or.inl rfl) ⟨c1, c2⟩
      obtain ⟨t4, x4, _, _⟩ := small_to 4 e (Or.inr (Or.inl rfl)) ⟨c1, c2⟩
      obtain ⟨t5, x5, _, _⟩ := small_to 5 e (Or.inr (Or.inr rfl)) ⟨c1, c2⟩
      obtain ⟨y1, y2, y3⟩ := three_four e ⟨c1, c2⟩
      have HH : Hid _ := fun W (t : Tab W) => hypot_all (nearB false 3 e) (nearB false 4 e) W x3 x4 t
      simp only [y1, y2, y3] at HH
      clear y1 y2 y3 x3 x4 x5
      have T3 : Hid (∀ W : World, Calls Tryz.prog 30 #[dyV false (some ⟨W.heap.size, 0, none⟩) 1 1 e] (W.alloc (.cells #[.int .u64 3] 22)) fun r w' => r = .returned (.tuple #[.int .u64 (nearB false 3 e), .bool true]) ∧ Below (W.alloc (.cells #[.int .u64 3] 22)).heap.size (W.alloc (.cells #[.int .u64 3] 22)) w') := fun W => by
        have := qto_calls false (some ⟨W.heap.size, 0, none⟩) 1 1 [((3 : Nat) : Int)] e (W.alloc (.cells #[.int .u64 ((3 : Nat) : Int)] 22)) (isW_one W _ 3 22 rfl (by decide)) (by decide)
        rw [show val [((3 : Nat) : Int)] = 3 from rfl, t3] at this
        exact this
      have T4 : Hid (∀ W : World, Calls Tryz.prog 30 #[dyV false (some ⟨W.heap.size, 0, none⟩) 1 1 e] (W.alloc (.cells #[.int .u64 4] 22)) fun r w' => r = .returned (.tuple #[.int .u64 (nearB false 4 e), .bool true]) ∧ Below (W.alloc (.cells #[.int .u64 4] 22)).heap.size (W.alloc (.cells #[.int .u64 4] 22)) w') := fun W => by
        have := qto_calls false (some ⟨W.heap.size, 0, none⟩) 1 1 [((4 : Nat) : Int)] e (W.alloc (.cells #[.int .u64 ((4 : Nat) : Int)] 22)) (isW_one W _ 4 22 rfl (by decide)) (by decide)
        rw [show val [((4 : Nat) : Int)] = 4 from rfl, t4] at this
        exact this
      have T5 : Hid (∀ W : World, Calls Tryz.prog 30 #[dyV false (some ⟨W.heap.size, 0, none⟩) 1 1 e] (W.alloc (.cells #[.int .u64 5] 22)) fun r w' => r = .returned (.tuple #[.int .u64 (nearB false 5 e), .bool true]) ∧ Below (W.alloc (.cells #[.int .u64 5] 22)).heap.size (W.alloc (.cells #[.int .u64 5] 22)) w') := fun W => by
        have := qto_calls false (some ⟨W.heap.size, 0, none⟩) 1 1 [((5 : Nat) : Int)] e (W.alloc (.cells #[.int .u64 ((5 : Nat) : Int)] 22)) (isW_one W _ 5 22 rfl (by decide)) (by decide)
        rw [show val [((5 : Nat) : Int)] = 5 from rfl, t5] at this
        exact this
      clear t3 t4 t5
      generalize nearB false 3 e = N3 at *
      generalize nearB false 4 e = N4 at *
      generalize nearB false 5 e = N5 at *
      go_wp2_with fail
      refine Calls.mono (T3.out _) ?_
      rintro q wt3 ⟨rfl, b2⟩
      replace b2 := nT (below_one _ (.cells #[.int .u64 3] 22)) b2
      replace bA := nT bA b2
      replace hT := hT.kept b2
      clear b2 T3
      go_wp2_with fail
      refine Calls.mono (T4.out _) ?_
      rintro q wt4 ⟨rfl, b2⟩
      replace b2 := nT (below_one _ (.cells #[.int .u64 4] 22)) b2
      replace bA := nT bA b2
      replace hT := hT.kept b2
      clear b2 T4
      go_wp2_with fail
      refine Calls.mono (T5.out _) ?_
      rintro q wt5 ⟨rfl, b2⟩
      replace b2 := nT (below_one _ (.cells #[.int .u64 5] 22)) b2
      replace bA := nT bA b2
      replace hT := hT.kept b2
      clear b2 T5
      go_wp2_with fail
      refine Calls.mono (HH.out _ hT) ?_
      rintro q wh ⟨rfl, b2⟩
      have b3 := nT b2 (below_one wh (.cells #[.int .u64 (N5), .int .u8 (0)] 25))
      have m0 : (wh.alloc (.cells #[.int .u64 (N5), .int .u8 (0)] 25)).cell? ⟨wh.heap.size, 0, none⟩ = some (.int .u64 N5) := by go_simp
      have m1 : (wh.alloc (.cells #[.int .u64 (N5), .int .u8 (0)] 25)).cell? ⟨wh.heap.size, 1, none⟩ = some (.int .u8 0) := by go_simp
      replace bA := nT bA b3
      go_wp2_with fail
      go_ret
      exact ⟨rfl, bA⟩
end Go.Proofs.YtfgemlgmhlidmaaGreatDoor

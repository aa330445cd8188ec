/- The statement DyadShifts. -/
import Derived.Test.YtblcddcecmbkbaaDoorDBeg
import Derived.Test.YtblcddcecmbkbaaDoorRDE
import Derived.Test.YtblcddcecmbkbaaDoorRDG
import Derived.Test.YtblcddcecmbkbaaDoorRDA
namespace Go.Proofs.YtblcddcecmbkbaaDoor
open Go.RowKit

theorem sh_ok {s : Bool} {m : Nat} {e n : Int} (h : shE s m e n = 0) : rightB m e = true ∧ (-65536 ≤ n ∧ n ≤ 65536) ∧ roomE (formD s m (e + n)) = 0 ∧ shP s m e n = formD s m (e + n) ∧ roomB (formD s m (e + n)) = true := by
  cases hb : shB m e n with
  | false => rw [(sh_no hb).1] at h; exact absurd h (by decide)
  | true =>
    obtain ⟨e1, e2⟩ := sh_yes (s := s) hb
    rw [e1] at h
    have hr : roomB (formD s m (e + n)) = true := by
      unfold roomE at h
      cases q : roomB (formD s m (e + n)) with
      | true => rfl
      | false => rw [q, if_neg (by decide)] at h; exact absurd h (by decide)
    unfold shB at hb
    rw [Bool.and_eq_true] at hb
    refine ⟨hb.1, of_decide_eq_true hb.2, h, ?_, hr⟩
    rw [e2]; unfold roomP; rw [hr, if_pos rfl]
theorem sh_bad {s : Bool} {m : Nat} {e n : Int} (h : shE s m e n ≠ 0) : (shP s m e n).2.1 = 0 := by
  cases hb : shB m e n with
  | false => rw [(sh_no hb).2]
  | true =>
    obtain ⟨e1, e2⟩ := sh_yes (s := s) hb
    rw [e1] at h
    rw [e2]
    unfold roomE at h
    unfold roomP
    cases q : roomB (formD s m (e + n)) with
    | true => rw [q, if_pos rfl] at h; exact absurd rfl h
    | false => rfl
theorem form_back (s : Bool) (m : Nat) (e n : Int) : formD (formD s m (e + n)).1 (formD s m (e + n)).2.1 ((formD s m (e + n)).2.2 + -n) = formD s m e := by
  by_cases h0 : m = 0
  · rw [h0, form_zero, form_zero, form_zero]
  · rw [form_pos s h0, form_odd s (odd_part h0).1, form_pos s h0]
    show (s, _, e + n + (tz m : Int) + -n) = (s, _, e + (tz m : Int))
    rw [show e + n + (tz m : Int) + -n = e + (tz m : Int) by omega]
theorem sh_back {s : Bool} {m : Nat} {e n : Int} (h : shE s m e n = 0) : shE (formD s m (e + n)).1 (formD s m (e + n)).2.1 (formD s m (e + n)).2.2 (-n) = canE s m e ∧ shP (formD s m (e + n)).1 (formD s m (e + n)).2.1 (formD s m (e + n)).2.2 (-n) = canP s m e := by
  obtain ⟨h1, h2, -, -, h5⟩ := sh_ok h
  have hb : shB (formD s m (e + n)).2.1 (formD s m (e + n)).2.2 (-n) = true := by
    unfold shB
    rw [show rightB (formD s m (e + n)).2.1 (formD s m (e + n)).2.2 = roomB (formD s m (e + n)) from rfl, h5, decide_eq_true (by omega)]
    rfl
  obtain ⟨e1, e2⟩ := sh_yes (s := (formD s m (e + n)).1) hb
  obtain ⟨c1, c2⟩ := canE_yes (s := s) h1
  rw [e1, e2, c1, c2, form_back]
  exact ⟨rfl, rfl⟩
theorem tz_one : tz 1 = 0 := by
  have h := (odd_part (m := 1) (by decide)).2
  rcases Nat.eq_zero_or_pos (tz 1) with q | q
  · exact q
  · have h1 : 2 ^ 1 ≤ 2 ^ tz 1 := Nat.pow_le_pow_right (by decide) q
    rw [Nat.div_eq_of_lt (by omega), Nat.zero_mul] at h
    exact absurd h (by decide)
theorem mul_two (s : Bool) (m : Nat) (e n : Int) : mulD (formD s m e) (formD false 1 n) = formD s m (e + n) := by
  have h1 : formD false 1 n = (false, 1, n) := form_odd false (m := 1) (by decide) n
  rw [h1]
  unfold mulD
  by_cases h0 : m = 0
  · rw [h0, form_zero, form_zero]
    show formD _ (0 * 1) _ = _
    rw [Nat.zero_mul, form_zero]
  · rw [form_pos s h0, form_pos s h0]
    show formD (!(s == false)) (m / 2 ^ tz m * 1) (e + (tz m : Int) + n) = _
    rw [Nat.mul_one, form_odd _ (odd_part h0).1]
    have e1 : (!(s == false)) = s := by cases s <;> rfl
    rw [e1, show e + (tz m : Int) + n = e + n + (tz m : Int) by omega]
theorem form_len (s : Bool) {m : Nat} {e : Int} (h : greatB m = false) : (wordsOf (formD s m e).2.1).length ≤ 1024 := (words_len2 1024 _).2 (by have := (great_not _).1 (great_mono (form_amount_le s m e) h); omega)

set_option maxRecDepth 100000 in
set_option maxHeartbeats 4000000 in
theorem dsh_no (s : Bool) (a : Option Addr) (len cap : Nat) (xs : List Int) (e : Int) (i : Int) (w : World) (h : IsW w a len cap xs) (hm : len ≤ 17592186044000) (_hi : -9223372036854775808 ≤ i ∧ i ≤ 9223372036854775807) (hT : Tab w) (hE : shE s (val xs) e i ≠ 0) :
    Calls Tryd.prog 4 #[dyV s a len cap e, .int .i64 i] w fun r w' => r = .returned (.bool true) ∧ Below w.heap.size w w' := by
  have hT0 : Hid (∀ w', Below w.heap.size w w' → Tab w') := fun w' hb => hT.kept hb
  have H1 : Hid (IsW w a len cap xs) := h
  have HS : Hid _ := fun W g t => pShift_calls s a len cap xs e i W g (by omega) t
  have HX : Hid _ := sh_bad hE
  generalize shP s (val xs) e i = p1 at *
  generalize shE s (val xs) e i = e1 at *
  have hb : (e1 == 0) = false := by simp [hE]
  clear h hm hT
  have bw : Below w.heap.size w (w.alloc (.cells #[.bool s, .slice a len cap, .int .i64 e] 25)) := below_one _ _
  have D0 : (w.alloc (.cells #[.bool s, .slice a len cap, .int .i64 e] 25)).cell? ⟨w.heap.size, 0, none⟩ = some (.bool s) := by go_simp
  have D1 : (w.alloc (.cells #[.bool s, .slice a len cap, .int .i64 e] 25)).cell? ⟨w.heap.size, 1, none⟩ = some (.slice a len cap) := by go_simp
  have D2 : (w.alloc (.cells #[.bool s, .slice a len cap, .int .i64 e] 25)).cell? ⟨w.heap.size, 2, none⟩ = some (.int .i64 e) := by go_simp
  go_enter Tryd.func4, Tryd.ntmps4
  go_wp2_with fail
  generalize (w.alloc (.cells #[.bool s, .slice a len cap, .int .i64 e] 25)) = w0 at *
  refine Calls.mono (dyBegins_calls _ (hT0.out _ bw)) ?_
  rintro r w1 ⟨rfl, bN⟩
  replace D0 := dcarry_cell bN D0
  replace D1 := dcarry_cell bN D1
  replace D2 := dcarry_cell bN D2
  replace bw := nbelow_trans bw bN
  clear bN
  go_wp2_with fail
  refine Calls.mono (HS.out _ (H1.out.keep bw) (hT0.out _ bw)) ?_
  rintro r w2 ⟨_, rfl, ⟨a2, n2, c2, rfl, HN2, hn2, hO2⟩, bN⟩
  replace D0 := dcarry_cell bN D0
  replace D1 := dcarry_cell bN D1
  replace D2 := dcarry_cell bN D2
  replace bw := nbelow_trans bw bN
  have hz : n2 = 0 := by rw [HN2.out, HX.out, words_zero]; rfl
  subst hz
  clear HN2 hn2
  have bA := below_one w2 (.cells #[.bool p1.1, .slice a2 0 c2, .int .i64 p1.2.2] 25)
  replace bw := nbelow_trans bw bA
  clear bA bN hO2
  go_wp2_with fail
  go_ret
  exact ⟨rfl, bw⟩

theorem one_isW (w : World) : IsW (w.alloc (.cells #[.int .u64 1] 42)) (some ⟨w.heap.size, 0, none⟩) 1 1 (wordsOf 1) := by
  have e1 : wordsOf 1 = [1] := by unfold wordsOf; simp [wordsOf]
  rw [e1]
  refine ⟨rfl, ?_, ⟨Nat.le_refl _, fun q => by cases q⟩, fun j hj => ?_⟩
  · intro x hx; simp at hx; subst hx; exact ⟨by decide, by decide⟩
  · obtain rfl : j = 0 := by omega
    exact ⟨w.heap.size, 0, rfl, by simp, by go_simp⟩

set_option maxRecDepth 100000 in
set_option maxHeartbeats 4000000 in
theorem dsh_small_ok (s : Bool) (a : Option Addr) (len cap : Nat) (xs : List Int) (e : Int) (i : Int) (w : World) (h : IsW w a len cap xs) (hm : len ≤ 17592186044000) (_hi : -9223372036854775808 ≤ i ∧ i ≤ 9223372036854775807) (hT : Tab w) (hE : shE s (val xs) e i = 0) (hcz : canE s (val xs) e = 0) (hsm : -32768 ≤ i ∧ i ≤ 32768) :
    Calls Tryd.prog 4 #[dyV s a len cap e, .int .i64 i] w fun r w' => r = .returned (.bool true) ∧ Below w.heap.size w w' := by
  have hT0 : Hid (∀ w', Below w.heap.size w w' → Tab w') := fun w' hb => hT.kept hb
  have H1 : Hid (IsW w a len cap xs) := h
  have HS : Hid _ := fun W g t => pShift_calls s a len cap xs e i W g (by omega) t
  obtain ⟨hr, hn, hrm, hp1, hroom⟩ := sh_ok hE
  obtain ⟨hb1, hb2⟩ := sh_back hE
  rw [hE, hp1] at HS
  have hgA : greatB (formD s (val xs) (e + i)).2.1 = false := by unfold roomB at hroom; simp at hroom; exact hroom.1
  have HB : Hid _ := fun a' n' c' W g (q : n' ≤ 1024) t => pShift_calls (formD s (val xs) (e + i)).1 a' n' c' (wordsOf (formD s (val xs) (e + i)).2.1) (formD s (val xs) (e + i)).2.2 (-i) W g (by omega) t
  rw [val_words, hb1, hb2] at HB
  have HC : Hid _ := fun W g t => pCanon_calls s a len cap xs e W g (by omega) t
  have hwn : IntKind.i64.wrap (-i) = -i := by rw [IntKind.wrap_i64]; omega
  rw [hcz] at HB HC
  have hr1 : rightB 1 i = true := by unfold rightB inB; rw [great_one, decide_eq_true (show -32768 ≤ i ∧ i ≤ 32768 by omega)]; rfl
  have HM : Hid _ := fun b' W g g' t => dmul_yes s a len cap xs e false b' 1 1 (wordsOf 1) i W g (by omega) g' (by omega) t hr (by rw [val_words]; exact hr1)
  rw [val_words, mul_two, hrm, (room_yes hgA (by unfold roomB at hroom; simp at hroom; exact hroom.2)).2] at HM
  have hs1 : ¬ i < -32768 := by omega
  have hs2 : ¬ 32768 < i := by omega
  generalize canP s (val xs) e = cp at *
  generalize (formD s (val xs) (e + i)) = x at *
  have HSC : Hid _ := fun a1 n1 c1 a2 n2 c2 w' g q1 g2 q2 => qSame_calls cp.1 a1 n1 c1 (wordsOf cp.2.1) cp.2.2 cp.1 a2 n2 c2 (wordsOf cp.2.1) cp.2.2 w' g q1 g2 q2
  rw [sameB_self] at HSC
  have HSX : Hid _ := fun a1 n1 c1 a2 n2 c2 w' g q1 g2 q2 => qSame_calls x.1 a1 n1 c1 (wordsOf x.2.1) x.2.2 x.1 a2 n2 c2 (wordsOf x.2.1) x.2.2 w' g q1 g2 q2
  rw [sameB_self] at HSX
  clear hsm h hm hT hr hn hrm hp1 hroom hb1 hb2 hgA hE
  have bw : Below w.heap.size w (w.alloc (.cells #[.bool s, .slice a len cap, .int .i64 e] 25)) := below_one _ _
  have D0 : (w.alloc (.cells #[.bool s, .slice a len cap, .int .i64 e] 25)).cell? ⟨w.heap.size, 0, none⟩ = some (.bool s) := by go_simp
  have D1 : (w.alloc (.cells #[.bool s, .slice a len cap, .int .i64 e] 25)).cell? ⟨w.heap.size, 1, none⟩ = some (.slice a len cap) := by go_simp
  have D2 : (w.alloc (.cells #[.bool s, .slice a len cap, .int .i64 e] 25)).cell? ⟨w.heap.size, 2, none⟩ = some (.int .i64 e) := by go_simp
  go_enter Tryd.func4, Tryd.ntmps4
  go_wp2_with fail
  generalize (w.alloc (.cells #[.bool s, .slice a len cap, .int .i64 e] 25)) = w0 at *
  refine Calls.mono (dyBegins_calls _ (hT0.out _ bw)) ?_
  rintro r w1 ⟨rfl, bN⟩
  replace D0 := dcarry_cell bN D0
  replace D1 := dcarry_cell bN D1
  replace D2 := dcarry_cell bN D2
  replace bw := nbelow_trans bw bN
  clear bN
  go_wp2_with fail
  refine Calls.mono (HS.out _ (H1.out.keep bw) (hT0.out _ bw)) ?_
  rintro r w2 ⟨_, rfl, ⟨a2, n2, c2, rfl, HN2, hn2, hO2⟩, bN⟩
  replace D0 := dcarry_cell bN D0
  replace D1 := dcarry_cell bN D1
  replace D2 := dcarry_cell bN D2
  replace bw := nbelow_trans bw bN
  have bA := below_one w2 (.cells #[.bool x.1, .slice a2 n2 c2, .int .i64 x.2.2] 25)
  have AI := hO2.1.keep bA
  replace D0 := dcarry_cell bA D0
  replace D1 := dcarry_cell bA D1
  replace D2 := dcarry_cell bA D2
  have A0 : (w2.alloc (.cells #[.bool x.1, .slice a2 n2 c2, .int .i64 x.2.2] 25)).cell? ⟨w2.heap.size, 0, none⟩ = some (.bool x.1) := by go_simp
  have A1 : (w2.alloc (.cells #[.bool x.1, .slice a2 n2 c2, .int .i64 x.2.2] 25)).cell? ⟨w2.heap.size, 1, none⟩ = some (.slice a2 n2 c2) := by go_simp
  have A2 : (w2.alloc (.cells #[.bool x.1, .slice a2 n2 c2, .int .i64 x.2.2] 25)).cell? ⟨w2.heap.size, 2, none⟩ = some (.int .i64 x.2.2) := by go_simp
  replace bw := nbelow_trans bw bA
  clear bA bN hO2
  go_wp2_with fail
  generalize w2.alloc (.cells #[.bool x.1, .slice a2 n2 c2, .int .i64 x.2.2] 25) = w3 at *
  refine Calls.mono (HB.out _ _ _ _ AI hn2 (hT0.out _ bw)) ?_
  rintro r w4 ⟨_, rfl, ⟨a4, n4, c4, rfl, HN4, hn4, hO4⟩, bN⟩
  replace D0 := dcarry_cell bN D0
  replace D1 := dcarry_cell bN D1
  replace D2 := dcarry_cell bN D2
  replace A0 := dcarry_cell bN A0
  replace A1 := dcarry_cell bN A1
  replace A2 := dcarry_cell bN A2
  replace AI := AI.keep bN
  replace bw := nbelow_trans bw bN
  have bA := below_one w4 (.cells #[.bool cp.1, .slice a4 n4 c4, .int .i64 cp.2.2] 25)
  have BI := hO4.1.keep bA
  replace D0 := dcarry_cell bA D0
  replace D1 := dcarry_cell bA D1
  replace D2 := dcarry_cell bA D2
  replace A0 := dcarry_cell bA A0
  replace A1 := dcarry_cell bA A1
  replace A2 := dcarry_cell bA A2
  replace AI := AI.keep bA
  have B0 : (w4.alloc (.cells #[.bool cp.1, .slice a4 n4 c4, .int .i64 cp.2.2] 25)).cell? ⟨w4.heap.size, 0, none⟩ = some (.bool cp.1) := by go_simp
  have B1 : (w4.alloc (.cells #[.bool cp.1, .slice a4 n4 c4, .int .i64 cp.2.2] 25)).cell? ⟨w4.heap.size, 1, none⟩ = some (.slice a4 n4 c4) := by go_simp
  have B2 : (w4.alloc (.cells #[.bool cp.1, .slice a4 n4 c4, .int .i64 cp.2.2] 25)).cell? ⟨w4.heap.size, 2, none⟩ = some (.int .i64 cp.2.2) := by go_simp
  replace bw := nbelow_trans bw bA
  clear bA bN hO4
  go_wp2_with fail
  generalize w4.alloc (.cells #[.bool cp.1, .slice a4 n4 c4, .int .i64 cp.2.2] 25) = w5 at *
  refine Calls.mono (HC.out _ (H1.out.keep bw) (hT0.out _ bw)) ?_
  rintro r w6 ⟨_, rfl, ⟨a6, n6, c6, rfl, HN6, hn6, hO6⟩, bN⟩
  replace D0 := dcarry_cell bN D0
  replace D1 := dcarry_cell bN D1
  replace D2 := dcarry_cell bN D2
  replace A0 := dcarry_cell bN A0
  replace A1 := dcarry_cell bN A1
  replace A2 := dcarry_cell bN A2
  replace AI := AI.keep bN
  replace B0 := dcarry_cell bN B0
  replace B1 := dcarry_cell bN B1
  replace B2 := dcarry_cell bN B2
  replace BI := BI.keep bN
  replace bw := nbelow_trans bw bN
  have bA := below_one w6 (.cells #[.bool cp.1, .slice a6 n6 c6, .int .i64 cp.2.2] 25)
  have CI := hO6.1.keep bA
  replace D0 := dcarry_cell bA D0
  replace D1 := dcarry_cell bA D1
  replace D2 := dcarry_cell bA D2
  replace A0 := dcarry_cell bA A0
  replace A1 := dcarry_cell bA A1
  replace A2 := dcarry_cell bA A2
  replace AI := AI.keep bA
  replace B0 := dcarry_cell bA B0
  replace B1 := dcarry_cell bA B1
  replace B2 := dcarry_cell bA B2
  replace BI := BI.keep bA
  have C0 : (w6.alloc (.cells #[.bool cp.1, .slice a6 n6 c6, .int .i64 cp.2.2] 25)).cell? ⟨w6.heap.size, 0, none⟩ = some (.bool cp.1) := by go_simp
  have C1 : (w6.alloc (.cells #[.bool cp.1, .slice a6 n6 c6, .int .i64 cp.2.2] 25)).cell? ⟨w6.heap.size, 1, none⟩ = some (.slice a6 n6 c6) := by go_simp
  have C2 : (w6.alloc (.cells #[.bool cp.1, .slice a6 n6 c6, .int .i64 cp.2.2] 25)).cell? ⟨w6.heap.size, 2, none⟩ = some (.int .i64 cp.2.2) := by go_simp
  replace bw := nbelow_trans bw bA
  clear bA bN hO6
  go_wp2_with fail
  generalize w6.alloc (.cells #[.bool cp.1, .slice a6 n6 c6, .int .i64 cp.2.2] 25) = w7 at *
  refine Calls.mono (HSC.out _ _ _ _ _ _ _ BI (by omega) CI (by omega)) ?_
  rintro r w8 ⟨rfl, bN⟩
  replace D0 := dcarry_cell bN D0
  replace D1 := dcarry_cell bN D1
  replace D2 := dcarry_cell bN D2
  replace A0 := dcarry_cell bN A0
  replace A1 := dcarry_cell bN A1
  replace A2 := dcarry_cell bN A2
  replace AI := AI.keep bN
  replace B0 := dcarry_cell bN B0
  replace B1 := dcarry_cell bN B1
  replace B2 := dcarry_cell bN B2
  replace BI := BI.keep bN
  replace C0 := dcarry_cell bN C0
  replace C1 := dcarry_cell bN C1
  replace C2 := dcarry_cell bN C2
  replace CI := CI.keep bN
  replace bw := nbelow_trans bw bN
  clear bN
  clear B0 B1 B2 BI C0 C1 C2 CI
  go_wp2_with fail
  have bA := below_one w8 (.cells #[.int .u64 1] 42)
  have hOne : IsW (w8.alloc (.cells #[.int .u64 1] 42)) (some ⟨w8.heap.size, 0, none⟩) 1 1 (wordsOf 1) := one_isW _
  replace D0 := dcarry_cell bA D0
  replace D1 := dcarry_cell bA D1
  replace D2 := dcarry_cell bA D2
  replace A0 := dcarry_cell bA A0
  replace A1 := dcarry_cell bA A1
  replace A2 := dcarry_cell bA A2
  replace AI := AI.keep bA
  replace bw := nbelow_trans bw bA
  clear bA
  generalize w8.alloc (.cells #[.int .u64 1] 42) = w9 at *
  refine Calls.mono (HM.out _ _ (H1.out.keep bw) hOne (hT0.out _ bw)) ?_
  rintro r w10 ⟨_, rfl, ⟨a10, n10, c10, rfl, HN10, hn10, hO10⟩, bN⟩
  replace D0 := dcarry_cell bN D0
  replace D1 := dcarry_cell bN D1
  replace D2 := dcarry_cell bN D2
  replace A0 := dcarry_cell bN A0
  replace A1 := dcarry_cell bN A1
  replace A2 := dcarry_cell bN A2
  replace AI := AI.keep bN
  replace bw := nbelow_trans bw bN
  have bA := below_one w10 (.cells #[.bool x.1, .slice a10 n10 c10, .int .i64 x.2.2] 25)
  have MI := hO10.1.keep bA
  replace D0 := dcarry_cell bA D0
  replace D1 := dcarry_cell bA D1
  replace D2 := dcarry_cell bA D2
  replace A0 := dcarry_cell bA A0
  replace A1 := dcarry_cell bA A1
  replace A2 := dcarry_cell bA A2
  replace AI := AI.keep bA
  have M0 : (w10.alloc (.cells #[.bool x.1, .slice a10 n10 c10, .int .i64 x.2.2] 25)).cell? ⟨w10.heap.size, 0, none⟩ = some (.bool x.1) := by go_simp
  have M1 : (w10.alloc (.cells #[.bool x.1, .slice a10 n10 c10, .int .i64 x.2.2] 25)).cell? ⟨w10.heap.size, 1, none⟩ = some (.slice a10 n10 c10) := by go_simp
  have M2 : (w10.alloc (.cells #[.bool x.1, .slice a10 n10 c10, .int .i64 x.2.2] 25)).cell? ⟨w10.heap.size, 2, none⟩ = some (.int .i64 x.2.2) := by go_simp
  replace bw := nbelow_trans bw bA
  clear bA bN hO10
  go_wp2_with fail
  generalize w10.alloc (.cells #[.bool x.1, .slice a10 n10 c10, .int .i64 x.2.2] 25) = w11 at *
  refine Calls.mono (HSX.out _ _ _ _ _ _ _ MI (by omega) AI (by omega)) ?_
  rintro r w12 ⟨rfl, bN⟩
  replace D0 := dcarry_cell bN D0
  replace D1 := dcarry_cell bN D1
  replace D2 := dcarry_cell bN D2
  replace A0 := dcarry_cell bN A0
  replace A1 := dcarry_cell bN A1
  replace A2 := dcarry_cell bN A2
  replace AI := AI.keep bN
  replace M0 := dcarry_cell bN M0
  replace M1 := dcarry_cell bN M1
  replace M2 := dcarry_cell bN M2
  replace MI := MI.keep bN
  replace bw := nbelow_trans bw bN
  clear bN A0 A1 A2 AI M0 M1 M2 MI D0 D1 D2
  go_wp2_with fail
  go_ret
  exact ⟨rfl, bw⟩

set_option maxRecDepth 100000 in
set_option maxHeartbeats 4000000 in
theorem dsh_small_no (s : Bool) (a : Option Addr) (len cap : Nat) (xs : List Int) (e : Int) (i : Int) (w : World) (h : IsW w a len cap xs) (hm : len ≤ 17592186044000) (_hi : -9223372036854775808 ≤ i ∧ i ≤ 9223372036854775807) (hT : Tab w) (hE : shE s (val xs) e i = 0) (hcz : canE s (val xs) e ≠ 0) (hsm : -32768 ≤ i ∧ i ≤ 32768) :
    Calls Tryd.prog 4 #[dyV s a len cap e, .int .i64 i] w fun r w' => r = .returned (.bool true) ∧ Below w.heap.size w w' := by
  have hT0 : Hid (∀ w', Below w.heap.size w w' → Tab w') := fun w' hb => hT.kept hb
  have H1 : Hid (IsW w a len cap xs) := h
  have HS : Hid _ := fun W g t => pShift_calls s a len cap xs e i W g (by omega) t
  obtain ⟨hr, hn, hrm, hp1, hroom⟩ := sh_ok hE
  obtain ⟨hb1, hb2⟩ := sh_back hE
  rw [hE, hp1] at HS
  have hgA : greatB (formD s (val xs) (e + i)).2.1 = false := by unfold roomB at hroom; simp at hroom; exact hroom.1
  have HB : Hid _ := fun a' n' c' W g (q : n' ≤ 1024) t => pShift_calls (formD s (val xs) (e + i)).1 a' n' c' (wordsOf (formD s (val xs) (e + i)).2.1) (formD s (val xs) (e + i)).2.2 (-i) W g (by omega) t
  rw [val_words, hb1, hb2] at HB
  have HC : Hid _ := fun W g t => pCanon_calls s a len cap xs e W g (by omega) t
  have hwn : IntKind.i64.wrap (-i) = -i := by rw [IntKind.wrap_i64]; omega
  have hcb : (canE s (val xs) e == 0) = false := by simp [hcz]
  have hr1 : rightB 1 i = true := by unfold rightB inB; rw [great_one, decide_eq_true (show -32768 ≤ i ∧ i ≤ 32768 by omega)]; rfl
  have HM : Hid _ := fun b' W g g' t => dmul_yes s a len cap xs e false b' 1 1 (wordsOf 1) i W g (by omega) g' (by omega) t hr (by rw [val_words]; exact hr1)
  rw [val_words, mul_two, hrm, (room_yes hgA (by unfold roomB at hroom; simp at hroom; exact hroom.2)).2] at HM
  have hs1 : ¬ i < -32768 := by omega
  have hs2 : ¬ 32768 < i := by omega
  generalize canP s (val xs) e = cp at *
  generalize canE s (val xs) e = ce at *
  generalize (formD s (val xs) (e + i)) = x at *
  have HSC : Hid _ := fun a1 n1 c1 a2 n2 c2 w' g q1 g2 q2 => qSame_calls cp.1 a1 n1 c1 (wordsOf cp.2.1) cp.2.2 cp.1 a2 n2 c2 (wordsOf cp.2.1) cp.2.2 w' g q1 g2 q2
  rw [sameB_self] at HSC
  have HSX : Hid _ := fun a1 n1 c1 a2 n2 c2 w' g q1 g2 q2 => qSame_calls x.1 a1 n1 c1 (wordsOf x.2.1) x.2.2 x.1 a2 n2 c2 (wordsOf x.2.1) x.2.2 w' g q1 g2 q2
  rw [sameB_self] at HSX
  clear hsm h hm hT hr hn hrm hp1 hroom hb1 hb2 hgA hE
  have bw : Below w.heap.size w (w.alloc (.cells #[.bool s, .slice a len cap, .int .i64 e] 25)) := below_one _ _
  have D0 : (w.alloc (.cells #[.bool s, .slice a len cap, .int .i64 e] 25)).cell? ⟨w.heap.size, 0, none⟩ = some (.bool s) := by go_simp
  have D1 : (w.alloc (.cells #[.bool s, .slice a len cap, .int .i64 e] 25)).cell? ⟨w.heap.size, 1, none⟩ = some (.slice a len cap) := by go_simp
  have D2 : (w.alloc (.cells #[.bool s, .slice a len cap, .int .i64 e] 25)).cell? ⟨w.heap.size, 2, none⟩ = some (.int .i64 e) := by go_simp
  go_enter Tryd.func4, Tryd.ntmps4
  go_wp2_with fail
  generalize (w.alloc (.cells #[.bool s, .slice a len cap, .int .i64 e] 25)) = w0 at *
  refine Calls.mono (dyBegins_calls _ (hT0.out _ bw)) ?_
  rintro r w1 ⟨rfl, bN⟩
  replace D0 := dcarry_cell bN D0
  replace D1 := dcarry_cell bN D1
  replace D2 := dcarry_cell bN D2
  replace bw := nbelow_trans bw bN
  clear bN
  go_wp2_with fail
  refine Calls.mono (HS.out _ (H1.out.keep bw) (hT0.out _ bw)) ?_
  rintro r w2 ⟨_, rfl, ⟨a2, n2, c2, rfl, HN2, hn2, hO2⟩, bN⟩
  replace D0 := dcarry_cell bN D0
  replace D1 := dcarry_cell bN D1
  replace D2 := dcarry_cell bN D2
  replace bw := nbelow_trans bw bN
  have bA := below_one w2 (.cells #[.bool x.1, .slice a2 n2 c2, .int .i64 x.2.2] 25)
  have AI := hO2.1.keep bA
  replace D0 := dcarry_cell bA D0
  replace D1 := dcarry_cell bA D1
  replace D2 := dcarry_cell bA D2
  have A0 : (w2.alloc (.cells #[.bool x.1, .slice a2 n2 c2, .int .i64 x.2.2] 25)).cell? ⟨w2.heap.size, 0, none⟩ = some (.bool x.1) := by go_simp
  have A1 : (w2.alloc (.cells #[.bool x.1, .slice a2 n2 c2, .int .i64 x.2.2] 25)).cell? ⟨w2.heap.size, 1, none⟩ = some (.slice a2 n2 c2) := by go_simp
  have A2 : (w2.alloc (.cells #[.bool x.1, .slice a2 n2 c2, .int .i64 x.2.2] 25)).cell? ⟨w2.heap.size, 2, none⟩ = some (.int .i64 x.2.2) := by go_simp
  replace bw := nbelow_trans bw bA
  clear bA bN hO2
  go_wp2_with fail
  generalize w2.alloc (.cells #[.bool x.1, .slice a2 n2 c2, .int .i64 x.2.2] 25) = w3 at *
  refine Calls.mono (HB.out _ _ _ _ AI hn2 (hT0.out _ bw)) ?_
  rintro r w4 ⟨_, rfl, ⟨a4, n4, c4, rfl, HN4, hn4, hO4⟩, bN⟩
  replace D0 := dcarry_cell bN D0
  replace D1 := dcarry_cell bN D1
  replace D2 := dcarry_cell bN D2
  replace A0 := dcarry_cell bN A0
  replace A1 := dcarry_cell bN A1
  replace A2 := dcarry_cell bN A2
  replace AI := AI.keep bN
  replace bw := nbelow_trans bw bN
  have bA := below_one w4 (.cells #[.bool cp.1, .slice a4 n4 c4, .int .i64 cp.2.2] 25)
  have BI := hO4.1.keep bA
  replace D0 := dcarry_cell bA D0
  replace D1 := dcarry_cell bA D1
  replace D2 := dcarry_cell bA D2
  replace A0 := dcarry_cell bA A0
  replace A1 := dcarry_cell bA A1
  replace A2 := dcarry_cell bA A2
  replace AI := AI.keep bA
  have B0 : (w4.alloc (.cells #[.bool cp.1, .slice a4 n4 c4, .int .i64 cp.2.2] 25)).cell? ⟨w4.heap.size, 0, none⟩ = some (.bool cp.1) := by go_simp
  have B1 : (w4.alloc (.cells #[.bool cp.1, .slice a4 n4 c4, .int .i64 cp.2.2] 25)).cell? ⟨w4.heap.size, 1, none⟩ = some (.slice a4 n4 c4) := by go_simp
  have B2 : (w4.alloc (.cells #[.bool cp.1, .slice a4 n4 c4, .int .i64 cp.2.2] 25)).cell? ⟨w4.heap.size, 2, none⟩ = some (.int .i64 cp.2.2) := by go_simp
  replace bw := nbelow_trans bw bA
  clear bA bN hO4
  go_wp2_with fail
  generalize w4.alloc (.cells #[.bool cp.1, .slice a4 n4 c4, .int .i64 cp.2.2] 25) = w5 at *
  refine Calls.mono (HC.out _ (H1.out.keep bw) (hT0.out _ bw)) ?_
  rintro r w6 ⟨_, rfl, ⟨a6, n6, c6, rfl, HN6, hn6, hO6⟩, bN⟩
  replace D0 := dcarry_cell bN D0
  replace D1 := dcarry_cell bN D1
  replace D2 := dcarry_cell bN D2
  replace A0 := dcarry_cell bN A0
  replace A1 := dcarry_cell bN A1
  replace A2 := dcarry_cell bN A2
  replace AI := AI.keep bN
  replace B0 := dcarry_cell bN B0
  replace B1 := dcarry_cell bN B1
  replace B2 := dcarry_cell bN B2
  replace BI := BI.keep bN
  replace bw := nbelow_trans bw bN
  have bA := below_one w6 (.cells #[.bool cp.1, .slice a6 n6 c6, .int .i64 cp.2.2] 25)
  have CI := hO6.1.keep bA
  replace D0 := dcarry_cell bA D0
  replace D1 := dcarry_cell bA D1
  replace D2 := dcarry_cell bA D2
  replace A0 := dcarry_cell bA A0
  replace A1 := dcarry_cell bA A1
  replace A2 := dcarry_cell bA A2
  replace AI := AI.keep bA
  replace B0 := dcarry_cell bA B0
  replace B1 := dcarry_cell bA B1
  replace B2 := dcarry_cell bA B2
  replace BI := BI.keep bA
  have C0 : (w6.alloc (.cells #[.bool cp.1, .slice a6 n6 c6, .int .i64 cp.2.2] 25)).cell? ⟨w6.heap.size, 0, none⟩ = some (.bool cp.1) := by go_simp
  have C1 : (w6.alloc (.cells #[.bool cp.1, .slice a6 n6 c6, .int .i64 cp.2.2] 25)).cell? ⟨w6.heap.size, 1, none⟩ = some (.slice a6 n6 c6) := by go_simp
  have C2 : (w6.alloc (.cells #[.bool cp.1, .slice a6 n6 c6, .int .i64 cp.2.2] 25)).cell? ⟨w6.heap.size, 2, none⟩ = some (.int .i64 cp.2.2) := by go_simp
  replace bw := nbelow_trans bw bA
  clear bA bN hO6
  go_wp2_with fail
  have hOne := one_isW (w6.alloc (.cells #[.bool cp.1, .slice a6 n6 c6, .int .i64 cp.2.2] 25))
  rw [World.size_alloc] at hOne
  generalize w6.alloc (.cells #[.bool cp.1, .slice a6 n6 c6, .int .i64 cp.2.2] 25) = w7 at *
  clear B0 B1 B2 BI C0 C1 C2 CI
  have bA := below_one w7 (.cells #[.int .u64 1] 42)
  replace D0 := dcarry_cell bA D0
  replace D1 := dcarry_cell bA D1
  replace D2 := dcarry_cell bA D2
  replace A0 := dcarry_cell bA A0
  replace A1 := dcarry_cell bA A1
  replace A2 := dcarry_cell bA A2
  replace AI := AI.keep bA
  replace bw := nbelow_trans bw bA
  clear bA
  generalize w7.alloc (.cells #[.int .u64 1] 42) = w9 at *
  refine Calls.mono (HM.out _ _ (H1.out.keep bw) hOne (hT0.out _ bw)) ?_
  rintro r w10 ⟨_, rfl, ⟨a10, n10, c10, rfl, HN10, hn10, hO10⟩, bN⟩
  replace D0 := dcarry_cell bN D0
  replace D1 := dcarry_cell bN D1
  replace D2 := dcarry_cell bN D2
  replace A0 := dcarry_cell bN A0
  replace A1 := dcarry_cell bN A1
  replace A2 := dcarry_cell bN A2
  replace AI := AI.keep bN
  replace bw := nbelow_trans bw bN
  have bA := below_one w10 (.cells #[.bool x.1, .slice a10 n10 c10, .int .i64 x.2.2] 25)
  have MI := hO10.1.keep bA
  replace D0 := dcarry_cell bA D0
  replace D1 := dcarry_cell bA D1
  replace D2 := dcarry_cell bA D2
  replace A0 := dcarry_cell bA A0
  replace A1 := dcarry_cell bA A1
  replace A2 := dcarry_cell bA A2
  replace AI := AI.keep bA
  have M0 : (w10.alloc (.cells #[.bool x.1, .slice a10 n10 c10, .int .i64 x.2.2] 25)).cell? ⟨w10.heap.size, 0, none⟩ = some (.bool x.1) := by go_simp
  have M1 : (w10.alloc (.cells #[.bool x.1, .slice a10 n10 c10, .int .i64 x.2.2] 25)).cell? ⟨w10.heap.size, 1, none⟩ = some (.slice a10 n10 c10) := by go_simp
  have M2 : (w10.alloc (.cells #[.bool x.1, .slice a10 n10 c10, .int .i64 x.2.2] 25)).cell? ⟨w10.heap.size, 2, none⟩ = some (.int .i64 x.2.2) := by go_simp
  replace bw := nbelow_trans bw bA
  clear bA bN hO10
  go_wp2_with fail
  generalize w10.alloc (.cells #[.bool x.1, .slice a10 n10 c10, .int .i64 x.2.2] 25) = w11 at *
  refine Calls.mono (HSX.out _ _ _ _ _ _ _ MI (by omega) AI (by omega)) ?_
  rintro r w12 ⟨rfl, bN⟩
  replace D0 := dcarry_cell bN D0
  replace D1 := dcarry_cell bN D1
  replace D2 := dcarry_cell bN D2
  replace A0 := dcarry_cell bN A0
  replace A1 := dcarry_cell bN A1
  replace A2 := dcarry_cell bN A2
  replace AI := AI.keep bN
  replace M0 := dcarry_cell bN M0
  replace M1 := dcarry_cell bN M1
  replace M2 := dcarry_cell bN M2
  replace MI := MI.keep bN
  replace bw := nbelow_trans bw bN
  clear bN A0 A1 A2 AI M0 M1 M2 MI D0 D1 D2
  go_wp2_with fail
  go_ret
  exact ⟨rfl, bw⟩

set_option maxRecDepth 100000 in
set_option maxHeartbeats 4000000 in
theorem dsh_low_ok (s : Bool) (a : Option Addr) (len cap : Nat) (xs : List Int) (e : Int) (i : Int) (w : World) (h : IsW w a len cap xs) (hm : len ≤ 17592186044000) (_hi : -9223372036854775808 ≤ i ∧ i ≤ 9223372036854775807) (hT : Tab w) (hE : shE s (val xs) e i = 0) (hcz : canE s (val xs) e = 0) (hbg : i < -32768) :
    Calls Tryd.prog 4 #[dyV s a len cap e, .int .i64 i] w fun r w' => r = .returned (.bool true) ∧ Below w.heap.size w w' := by
  have hT0 : Hid (∀ w', Below w.heap.size w w' → Tab w') := fun w' hb => hT.kept hb
  have H1 : Hid (IsW w a len cap xs) := h
  have HS : Hid _ := fun W g t => pShift_calls s a len cap xs e i W g (by omega) t
  obtain ⟨hr, hn, hrm, hp1, hroom⟩ := sh_ok hE
  obtain ⟨hb1, hb2⟩ := sh_back hE
  rw [hE, hp1] at HS
  have HB : Hid _ := fun a' n' c' W g (q : n' ≤ 1024) t => pShift_calls (formD s (val xs) (e + i)).1 a' n' c' (wordsOf (formD s (val xs) (e + i)).2.1) (formD s (val xs) (e + i)).2.2 (-i) W g (by omega) t
  rw [val_words, hb1, hb2] at HB
  have HC : Hid _ := fun W g t => pCanon_calls s a len cap xs e W g (by omega) t
  have hwn : IntKind.i64.wrap (-i) = -i := by rw [IntKind.wrap_i64]; omega
  rw [hcz] at HB HC
  generalize canP s (val xs) e = cp at *
  generalize (formD s (val xs) (e + i)) = x at *
  have HSC : Hid _ := fun a1 n1 c1 a2 n2 c2 w' g q1 g2 q2 => qSame_calls cp.1 a1 n1 c1 (wordsOf cp.2.1) cp.2.2 cp.1 a2 n2 c2 (wordsOf cp.2.1) cp.2.2 w' g q1 g2 q2
  rw [sameB_self] at HSC
  clear h hm hT hr hn hrm hp1 hroom hb1 hb2 hE
  have bw : Below w.heap.size w (w.alloc (.cells #[.bool s, .slice a len cap, .int .i64 e] 25)) := below_one _ _
  have D0 : (w.alloc (.cells #[.bool s, .slice a len cap, .int .i64 e] 25)).cell? ⟨w.heap.size, 0, none⟩ = some (.bool s) := by go_simp
  have D1 : (w.alloc (.cells #[.bool s, .slice a len cap, .int .i64 e] 25)).cell? ⟨w.heap.size, 1, none⟩ = some (.slice a len cap) := by go_simp
  have D2 : (w.alloc (.cells #[.bool s, .slice a len cap, .int .i64 e] 25)).cell? ⟨w.heap.size, 2, none⟩ = some (.int .i64 e) := by go_simp
  go_enter Tryd.func4, Tryd.ntmps4
  go_wp2_with fail
  generalize (w.alloc (.cells #[.bool s, .slice a len cap, .int .i64 e] 25)) = w0 at *
  refine Calls.mono (dyBegins_calls _ (hT0.out _ bw)) ?_
  rintro r w1 ⟨rfl, bN⟩
  replace D0 := dcarry_cell bN D0
  replace D1 := dcarry_cell bN D1
  replace D2 := dcarry_cell bN D2
  replace bw := nbelow_trans bw bN
  clear bN
  go_wp2_with fail
  refine Calls.mono (HS.out _ (H1.out.keep bw) (hT0.out _ bw)) ?_
  rintro r w2 ⟨_, rfl, ⟨a2, n2, c2, rfl, HN2, hn2, hO2⟩, bN⟩
  replace D0 := dcarry_cell bN D0
  replace D1 := dcarry_cell bN D1
  replace D2 := dcarry_cell bN D2
  replace bw := nbelow_trans bw bN
  have bA := below_one w2 (.cells #[.bool x.1, .slice a2 n2 c2, .int .i64 x.2.2] 25)
  have AI := hO2.1.keep bA
  replace D0 := dcarry_cell bA D0
  replace D1 := dcarry_cell bA D1
  replace D2 := dcarry_cell bA D2
  have A0 : (w2.alloc (.cells #[.bool x.1, .slice a2 n2 c2, .int .i64 x.2.2] 25)).cell? ⟨w2.heap.size, 0, none⟩ = some (.bool x.1) := by go_simp
  have A1 : (w2.alloc (.cells #[.bool x.1, .slice a2 n2 c2, .int .i64 x.2.2] 25)).cell? ⟨w2.heap.size, 1, none⟩ = some (.slice a2 n2 c2) := by go_simp
  have A2 : (w2.alloc (.cells #[.bool x.1, .slice a2 n2 c2, .int .i64 x.2.2] 25)).cell? ⟨w2.heap.size, 2, none⟩ = some (.int .i64 x.2.2) := by go_simp
  replace bw := nbelow_trans bw bA
  clear bA bN hO2
  go_wp2_with fail
  generalize w2.alloc (.cells #[.bool x.1, .slice a2 n2 c2, .int .i64 x.2.2] 25) = w3 at *
  refine Calls.mono (HB.out _ _ _ _ AI hn2 (hT0.out _ bw)) ?_
  rintro r w4 ⟨_, rfl, ⟨a4, n4, c4, rfl, HN4, hn4, hO4⟩, bN⟩
  replace D0 := dcarry_cell bN D0
  replace D1 := dcarry_cell bN D1
  replace D2 := dcarry_cell bN D2
  replace A0 := dcarry_cell bN A0
  replace A1 := dcarry_cell bN A1
  replace A2 := dcarry_cell bN A2
  replace AI := AI.keep bN
  replace bw := nbelow_trans bw bN
  have bA := below_one w4 (.cells #[.bool cp.1, .slice a4 n4 c4, .int .i64 cp.2.2] 25)
  have BI := hO4.1.keep bA
  replace D0 := dcarry_cell bA D0
  replace D1 := dcarry_cell bA D1
  replace D2 := dcarry_cell bA D2
  replace A0 := dcarry_cell bA A0
  replace A1 := dcarry_cell bA A1
  replace A2 := dcarry_cell bA A2
  replace AI := AI.keep bA
  have B0 : (w4.alloc (.cells #[.bool cp.1, .slice a4 n4 c4, .int .i64 cp.2.2] 25)).cell? ⟨w4.heap.size, 0, none⟩ = some (.bool cp.1) := by go_simp
  have B1 : (w4.alloc (.cells #[.bool cp.1, .slice a4 n4 c4, .int .i64 cp.2.2] 25)).cell? ⟨w4.heap.size, 1, none⟩ = some (.slice a4 n4 c4) := by go_simp
  have B2 : (w4.alloc (.cells #[.bool cp.1, .slice a4 n4 c4, .int .i64 cp.2.2] 25)).cell? ⟨w4.heap.size, 2, none⟩ = some (.int .i64 cp.2.2) := by go_simp
  replace bw := nbelow_trans bw bA
  clear bA bN hO4
  go_wp2_with fail
  generalize w4.alloc (.cells #[.bool cp.1, .slice a4 n4 c4, .int .i64 cp.2.2] 25) = w5 at *
  refine Calls.mono (HC.out _ (H1.out.keep bw) (hT0.out _ bw)) ?_
  rintro r w6 ⟨_, rfl, ⟨a6, n6, c6, rfl, HN6, hn6, hO6⟩, bN⟩
  replace D0 := dcarry_cell bN D0
  replace D1 := dcarry_cell bN D1
  replace D2 := dcarry_cell bN D2
  replace A0 := dcarry_cell bN A0
  replace A1 := dcarry_cell bN A1
  replace A2 := dcarry_cell bN A2
  replace AI := AI.keep bN
  replace B0 := dcarry_cell bN B0
  replace B1 := dcarry_cell bN B1
  replace B2 := dcarry_cell bN B2
  replace BI := BI.keep bN
  replace bw := nbelow_trans bw bN
  have bA := below_one w6 (.cells #[.bool cp.1, .slice a6 n6 c6, .int .i64 cp.2.2] 25)
  have CI := hO6.1.keep bA
  replace D0 := dcarry_cell bA D0
  replace D1 := dcarry_cell bA D1
  replace D2 := dcarry_cell bA D2
  replace A0 := dcarry_cell bA A0
  replace A1 := dcarry_cell bA A1
  replace A2 := dcarry_cell bA A2
  replace AI := AI.keep bA
  replace B0 := dcarry_cell bA B0
  replace B1 := dcarry_cell bA B1
  replace B2 := dcarry_cell bA B2
  replace BI := BI.keep bA
  have C0 : (w6.alloc (.cells #[.bool cp.1, .slice a6 n6 c6, .int .i64 cp.2.2] 25)).cell? ⟨w6.heap.size, 0, none⟩ = some (.bool cp.1) := by go_simp
  have C1 : (w6.alloc (.cells #[.bool cp.1, .slice a6 n6 c6, .int .i64 cp.2.2] 25)).cell? ⟨w6.heap.size, 1, none⟩ = some (.slice a6 n6 c6) := by go_simp
  have C2 : (w6.alloc (.cells #[.bool cp.1, .slice a6 n6 c6, .int .i64 cp.2.2] 25)).cell? ⟨w6.heap.size, 2, none⟩ = some (.int .i64 cp.2.2) := by go_simp
  replace bw := nbelow_trans bw bA
  clear bA bN hO6
  go_wp2_with fail
  generalize w6.alloc (.cells #[.bool cp.1, .slice a6 n6 c6, .int .i64 cp.2.2] 25) = w7 at *
  refine Calls.mono (HSC.out _ _ _ _ _ _ _ BI (by omega) CI (by omega)) ?_
  rintro r w8 ⟨rfl, bN⟩
  replace D0 := dcarry_cell bN D0
  replace D1 := dcarry_cell bN D1
  replace D2 := dcarry_cell bN D2
  replace A0 := dcarry_cell bN A0
  replace A1 := dcarry_cell bN A1
  replace A2 := dcarry_cell bN A2
  replace AI := AI.keep bN
  replace B0 := dcarry_cell bN B0
  replace B1 := dcarry_cell bN B1
  replace B2 := dcarry_cell bN B2
  replace BI := BI.keep bN
  replace C0 := dcarry_cell bN C0
  replace C1 := dcarry_cell bN C1
  replace C2 := dcarry_cell bN C2
  replace CI := CI.keep bN
  replace bw := nbelow_trans bw bN
  clear bN
  go_wp2_with fail
  go_ret
  exact ⟨rfl, bw⟩

set_option maxRecDepth 100000 in
set_option maxHeartbeats 4000000 in
theorem dsh_low_no (s : Bool) (a : Option Addr) (len cap : Nat) (xs : List Int) (e : Int) (i : Int) (w : World) (h : IsW w a len cap xs) (hm : len ≤ 17592186044000) (_hi : -9223372036854775808 ≤ i ∧ i ≤ 9223372036854775807) (hT : Tab w) (hE : shE s (val xs) e i = 0) (hcz : canE s (val xs) e ≠ 0) (hbg : i < -32768) :
    Calls Tryd.prog 4 #[dyV s a len cap e, .int .i64 i] w fun r w' => r = .returned (.bool true) ∧ Below w.heap.size w w' := by
  have hT0 : Hid (∀ w', Below w.heap.size w w' → Tab w') := fun w' hb => hT.kept hb
  have H1 : Hid (IsW w a len cap xs) := h
  have HS : Hid _ := fun W g t => pShift_calls s a len cap xs e i W g (by omega) t
  obtain ⟨hr, hn, hrm, hp1, hroom⟩ := sh_ok hE
  obtain ⟨hb1, hb2⟩ := sh_back hE
  rw [hE, hp1] at HS
  have HB : Hid _ := fun a' n' c' W g (q : n' ≤ 1024) t => pShift_calls (formD s (val xs) (e + i)).1 a' n' c' (wordsOf (formD s (val xs) (e + i)).2.1) (formD s (val xs) (e + i)).2.2 (-i) W g (by omega) t
  rw [val_words, hb1, hb2] at HB
  have HC : Hid _ := fun W g t => pCanon_calls s a len cap xs e W g (by omega) t
  have hwn : IntKind.i64.wrap (-i) = -i := by rw [IntKind.wrap_i64]; omega
  have hcb : (canE s (val xs) e == 0) = false := by simp [hcz]
  generalize canP s (val xs) e = cp at *
  generalize canE s (val xs) e = ce at *
  generalize (formD s (val xs) (e + i)) = x at *
  have HSC : Hid _ := fun a1 n1 c1 a2 n2 c2 w' g q1 g2 q2 => qSame_calls cp.1 a1 n1 c1 (wordsOf cp.2.1) cp.2.2 cp.1 a2 n2 c2 (wordsOf cp.2.1) cp.2.2 w' g q1 g2 q2
  rw [sameB_self] at HSC
  clear h hm hT hr hn hrm hp1 hroom hb1 hb2 hE
  have bw : Below w.heap.size w (w.alloc (.cells #[.bool s, .slice a len cap, .int .i64 e] 25)) := below_one _ _
  have D0 : (w.alloc (.cells #[.bool s, .slice a len cap, .int .i64 e] 25)).cell? ⟨w.heap.size, 0, none⟩ = some (.bool s) := by go_simp
  have D1 : (w.alloc (.cells #[.bool s, .slice a len cap, .int .i64 e] 25)).cell? ⟨w.heap.size, 1, none⟩ = some (.slice a len cap) := by go_simp
  have D2 : (w.alloc (.cells #[.bool s, .slice a len cap, .int .i64 e] 25)).cell? ⟨w.heap.size, 2, none⟩ = some (.int .i64 e) := by go_simp
  go_enter Tryd.func4, Tryd.ntmps4
  go_wp2_with fail
  generalize (w.alloc (.cells #[.bool s, .slice a len cap, .int .i64 e] 25)) = w0 at *
  refine Calls.mono (dyBegins_calls _ (hT0.out _ bw)) ?_
  rintro r w1 ⟨rfl, bN⟩
  replace D0 := dcarry_cell bN D0
  replace D1 := dcarry_cell bN D1
  replace D2 := dcarry_cell bN D2
  replace bw := nbelow_trans bw bN
  clear bN
  go_wp2_with fail
  refine Calls.mono (HS.out _ (H1.out.keep bw) (hT0.out _ bw)) ?_
  rintro r w2 ⟨_, rfl, ⟨a2, n2, c2, rfl, HN2, hn2, hO2⟩, bN⟩
  replace D0 := dcarry_cell bN D0
  replace D1 := dcarry_cell bN D1
  replace D2 := dcarry_cell bN D2
  replace bw := nbelow_trans bw bN
  have bA := below_one w2 (.cells #[.bool x.1, .slice a2 n2 c2, .int .i64 x.2.2] 25)
  have AI := hO2.1.keep bA
  replace D0 := dcarry_cell bA D0
  replace D1 := dcarry_cell bA D1
  replace D2 := dcarry_cell bA D2
  have A0 : (w2.alloc (.cells #[.bool x.1, .slice a2 n2 c2, .int .i64 x.2.2] 25)).cell? ⟨w2.heap.size, 0, none⟩ = some (.bool x.1) := by go_simp
  have A1 : (w2.alloc (.cells #[.bool x.1, .slice a2 n2 c2, .int .i64 x.2.2] 25)).cell? ⟨w2.heap.size, 1, none⟩ = some (.slice a2 n2 c2) := by go_simp
  have A2 : (w2.alloc (.cells #[.bool x.1, .slice a2 n2 c2, .int .i64 x.2.2] 25)).cell? ⟨w2.heap.size, 2, none⟩ = some (.int .i64 x.2.2) := by go_simp
  replace bw := nbelow_trans bw bA
  clear bA bN hO2
  go_wp2_with fail
  generalize w2.alloc (.cells #[.bool x.1, .slice a2 n2 c2, .int .i64 x.2.2] 25) = w3 at *
  refine Calls.mono (HB.out _ _ _ _ AI hn2 (hT0.out _ bw)) ?_
  rintro r w4 ⟨_, rfl, ⟨a4, n4, c4, rfl, HN4, hn4, hO4⟩, bN⟩
  replace D0 := dcarry_cell bN D0
  replace D1 := dcarry_cell bN D1
  replace D2 := dcarry_cell bN D2
  replace A0 := dcarry_cell bN A0
  replace A1 := dcarry_cell bN A1
  replace A2 := dcarry_cell bN A2
  replace AI := AI.keep bN
  replace bw := nbelow_trans bw bN
  have bA := below_one w4 (.cells #[.bool cp.1, .slice a4 n4 c4, .int .i64 cp.2.2] 25)
  have BI := hO4.1.keep bA
  replace D0 := dcarry_cell bA D0
  replace D1 := dcarry_cell bA D1
  replace D2 := dcarry_cell bA D2
  replace A0 := dcarry_cell bA A0
  replace A1 := dcarry_cell bA A1
  replace A2 := dcarry_cell bA A2
  replace AI := AI.keep bA
  have B0 : (w4.alloc (.cells #[.bool cp.1, .slice a4 n4 c4, .int .i64 cp.2.2] 25)).cell? ⟨w4.heap.size, 0, none⟩ = some (.bool cp.1) := by go_simp
  have B1 : (w4.alloc (.cells #[.bool cp.1, .slice a4 n4 c4, .int .i64 cp.2.2] 25)).cell? ⟨w4.heap.size, 1, none⟩ = some (.slice a4 n4 c4) := by go_simp
  have B2 : (w4.alloc (.cells #[.bool cp.1, .slice a4 n4 c4, .int .i64 cp.2.2] 25)).cell? ⟨w4.heap.size, 2, none⟩ = some (.int .i64 cp.2.2) := by go_simp
  replace bw := nbelow_trans bw bA
  clear bA bN hO4
  go_wp2_with fail
  generalize w4.alloc (.cells #[.bool cp.1, .slice a4 n4 c4, .int .i64 cp.2.2] 25) = w5 at *
  refine Calls.mono (HC.out _ (H1.out.keep bw) (hT0.out _ bw)) ?_
  rintro r w6 ⟨_, rfl, ⟨a6, n6, c6, rfl, HN6, hn6, hO6⟩, bN⟩
  replace D0 := dcarry_cell bN D0
  replace D1 := dcarry_cell bN D1
  replace D2 := dcarry_cell bN D2
  replace A0 := dcarry_cell bN A0
  replace A1 := dcarry_cell bN A1
  replace A2 := dcarry_cell bN A2
  replace AI := AI.keep bN
  replace B0 := dcarry_cell bN B0
  replace B1 := dcarry_cell bN B1
  replace B2 := dcarry_cell bN B2
  replace BI := BI.keep bN
  replace bw := nbelow_trans bw bN
  have bA := below_one w6 (.cells #[.bool cp.1, .slice a6 n6 c6, .int .i64 cp.2.2] 25)
  have CI := hO6.1.keep bA
  replace D0 := dcarry_cell bA D0
  replace D1 := dcarry_cell bA D1
  replace D2 := dcarry_cell bA D2
  replace A0 := dcarry_cell bA A0
  replace A1 := dcarry_cell bA A1
  replace A2 := dcarry_cell bA A2
  replace AI := AI.keep bA
  replace B0 := dcarry_cell bA B0
  replace B1 := dcarry_cell bA B1
  replace B2 := dcarry_cell bA B2
  replace BI := BI.keep bA
  have C0 : (w6.alloc (.cells #[.bool cp.1, .slice a6 n6 c6, .int .i64 cp.2.2] 25)).cell? ⟨w6.heap.size, 0, none⟩ = some (.bool cp.1) := by go_simp
  have C1 : (w6.alloc (.cells #[.bool cp.1, .slice a6 n6 c6, .int .i64 cp.2.2] 25)).cell? ⟨w6.heap.size, 1, none⟩ = some (.slice a6 n6 c6) := by go_simp
  have C2 : (w6.alloc (.cells #[.bool cp.1, .slice a6 n6 c6, .int .i64 cp.2.2] 25)).cell? ⟨w6.heap.size, 2, none⟩ = some (.int .i64 cp.2.2) := by go_simp
  replace bw := nbelow_trans bw bA
  clear bA bN hO6
  go_wp2_with fail
  generalize w6.alloc (.cells #[.bool cp.1, .slice a6 n6 c6, .int .i64 cp.2.2] 25) = w7 at *
  go_ret
  exact ⟨rfl, bw⟩

set_option maxRecDepth 100000 in
set_option maxHeartbeats 4000000 in
theorem dsh_high_ok (s : Bool) (a : Option Addr) (len cap : Nat) (xs : List Int) (e : Int) (i : Int) (w : World) (h : IsW w a len cap xs) (hm : len ≤ 17592186044000) (_hi : -9223372036854775808 ≤ i ∧ i ≤ 9223372036854775807) (hT : Tab w) (hE : shE s (val xs) e i = 0) (hcz : canE s (val xs) e = 0) (hbg : 32768 < i) :
    Calls Tryd.prog 4 #[dyV s a len cap e, .int .i64 i] w fun r w' => r = .returned (.bool true) ∧ Below w.heap.size w w' := by
  have hT0 : Hid (∀ w', Below w.heap.size w w' → Tab w') := fun w' hb => hT.kept hb
  have H1 : Hid (IsW w a len cap xs) := h
  have HS : Hid _ := fun W g t => pShift_calls s a len cap xs e i W g (by omega) t
  obtain ⟨hr, hn, hrm, hp1, hroom⟩ := sh_ok hE
  obtain ⟨hb1, hb2⟩ := sh_back hE
  rw [hE, hp1] at HS
  have HB : Hid _ := fun a' n' c' W g (q : n' ≤ 1024) t => pShift_calls (formD s (val xs) (e + i)).1 a' n' c' (wordsOf (formD s (val xs) (e + i)).2.1) (formD s (val xs) (e + i)).2.2 (-i) W g (by omega) t
  rw [val_words, hb1, hb2] at HB
  have HC : Hid _ := fun W g t => pCanon_calls s a len cap xs e W g (by omega) t
  have hwn : IntKind.i64.wrap (-i) = -i := by rw [IntKind.wrap_i64]; omega
  rw [hcz] at HB HC
  have hs1 : ¬ i < -32768 := by omega
  generalize canP s (val xs) e = cp at *
  generalize (formD s (val xs) (e + i)) = x at *
  have HSC : Hid _ := fun a1 n1 c1 a2 n2 c2 w' g q1 g2 q2 => qSame_calls cp.1 a1 n1 c1 (wordsOf cp.2.1) cp.2.2 cp.1 a2 n2 c2 (wordsOf cp.2.1) cp.2.2 w' g q1 g2 q2
  rw [sameB_self] at HSC
  clear h hm hT hr hn hrm hp1 hroom hb1 hb2 hE
  have bw : Below w.heap.size w (w.alloc (.cells #[.bool s, .slice a len cap, .int .i64 e] 25)) := below_one _ _
  have D0 : (w.alloc (.cells #[.bool s, .slice a len cap, .int .i64 e] 25)).cell? ⟨w.heap.size, 0, none⟩ = some (.bool s) := by go_simp
  have D1 : (w.alloc (.cells #[.bool s, .slice a len cap, .int .i64 e] 25)).cell? ⟨w.heap.size, 1, none⟩ = some (.slice a len cap) := by go_simp
  have D2 : (w.alloc (.cells #[.bool s, .slice a len cap, .int .i64 e] 25)).cell? ⟨w.heap.size, 2, none⟩ = some (.int .i64 e) := by go_simp
  go_enter Tryd.func4, Tryd.ntmps4
  go_wp2_with fail
  generalize (w.alloc (.cells #[.bool s, .slice a len cap, .int .i64 e] 25)) = w0 at *
  refine Calls.mono (dyBegins_calls _ (hT0.out _ bw)) ?_
  rintro r w1 ⟨rfl, bN⟩
  replace D0 := dcarry_cell bN D0
  replace D1 := dcarry_cell bN D1
  replace D2 := dcarry_cell bN D2
  replace bw := nbelow_trans bw bN
  clear bN
  go_wp2_with fail
  refine Calls.mono (HS.out _ (H1.out.keep bw) (hT0.out _ bw)) ?_
  rintro r w2 ⟨_, rfl, ⟨a2, n2, c2, rfl, HN2, hn2, hO2⟩, bN⟩
  replace D0 := dcarry_cell bN D0
  replace D1 := dcarry_cell bN D1
  replace D2 := dcarry_cell bN D2
  replace bw := nbelow_trans bw bN
  have bA := below_one w2 (.cells #[.bool x.1, .slice a2 n2 c2, .int .i64 x.2.2] 25)
  have AI := hO2.1.keep bA
  replace D0 := dcarry_cell bA D0
  replace D1 := dcarry_cell bA D1
  replace D2 := dcarry_cell bA D2
  have A0 : (w2.alloc (.cells #[.bool x.1, .slice a2 n2 c2, .int .i64 x.2.2] 25)).cell? ⟨w2.heap.size, 0, none⟩ = some (.bool x.1) := by go_simp
  have A1 : (w2.alloc (.cells #[.bool x.1, .slice a2 n2 c2, .int .i64 x.2.2] 25)).cell? ⟨w2.heap.size, 1, none⟩ = some (.slice a2 n2 c2) := by go_simp
  have A2 : (w2.alloc (.cells #[.bool x.1, .slice a2 n2 c2, .int .i64 x.2.2] 25)).cell? ⟨w2.heap.size, 2, none⟩ = some (.int .i64 x.2.2) := by go_simp
  replace bw := nbelow_trans bw bA
  clear bA bN hO2
  go_wp2_with fail
  generalize w2.alloc (.cells #[.bool x.1, .slice a2 n2 c2, .int .i64 x.2.2] 25) = w3 at *
  refine Calls.mono (HB.out _ _ _ _ AI hn2 (hT0.out _ bw)) ?_
  rintro r w4 ⟨_, rfl, ⟨a4, n4, c4, rfl, HN4, hn4, hO4⟩, bN⟩
  replace D0 := dcarry_cell bN D0
  replace D1 := dcarry_cell bN D1
  replace D2 := dcarry_cell bN D2
  replace A0 := dcarry_cell bN A0
  replace A1 := dcarry_cell bN A1
  replace A2 := dcarry_cell bN A2
  replace AI := AI.keep bN
  replace bw := nbelow_trans bw bN
  have bA := below_one w4 (.cells #[.bool cp.1, .slice a4 n4 c4, .int .i64 cp.2.2] 25)
  have BI := hO4.1.keep bA
  replace D0 := dcarry_cell bA D0
  replace D1 := dcarry_cell bA D1
  replace D2 := dcarry_cell bA D2
  replace A0 := dcarry_cell bA A0
  replace A1 := dcarry_cell bA A1
  replace A2 := dcarry_cell bA A2
  replace AI := AI.keep bA
  have B0 : (w4.alloc (.cells #[.bool cp.1, .slice a4 n4 c4, .int .i64 cp.2.2] 25)).cell? ⟨w4.heap.size, 0, none⟩ = some (.bool cp.1) := by go_simp
  have B1 : (w4.alloc (.cells #[.bool cp.1, .slice a4 n4 c4, .int .i64 cp.2.2] 25)).cell? ⟨w4.heap.size, 1, none⟩ = some (.slice a4 n4 c4) := by go_simp
  have B2 : (w4.alloc (.cells #[.bool cp.1, .slice a4 n4 c4, .int .i64 cp.2.2] 25)).cell? ⟨w4.heap.size, 2, none⟩ = some (.int .i64 cp.2.2) := by go_simp
  replace bw := nbelow_trans bw bA
  clear bA bN hO4
  go_wp2_with fail
  generalize w4.alloc (.cells #[.bool cp.1, .slice a4 n4 c4, .int .i64 cp.2.2] 25) = w5 at *
  refine Calls.mono (HC.out _ (H1.out.keep bw) (hT0.out _ bw)) ?_
  rintro r w6 ⟨_, rfl, ⟨a6, n6, c6, rfl, HN6, hn6, hO6⟩, bN⟩
  replace D0 := dcarry_cell bN D0
  replace D1 := dcarry_cell bN D1
  replace D2 := dcarry_cell bN D2
  replace A0 := dcarry_cell bN A0
  replace A1 := dcarry_cell bN A1
  replace A2 := dcarry_cell bN A2
  replace AI := AI.keep bN
  replace B0 := dcarry_cell bN B0
  replace B1 := dcarry_cell bN B1
  replace B2 := dcarry_cell bN B2
  replace BI := BI.keep bN
  replace bw := nbelow_trans bw bN
  have bA := below_one w6 (.cells #[.bool cp.1, .slice a6 n6 c6, .int .i64 cp.2.2] 25)
  have CI := hO6.1.keep bA
  replace D0 := dcarry_cell bA D0
  replace D1 := dcarry_cell bA D1
  replace D2 := dcarry_cell bA D2
  replace A0 := dcarry_cell bA A0
  replace A1 := dcarry_cell bA A1
  replace A2 := dcarry_cell bA A2
  replace AI := AI.keep bA
  replace B0 := dcarry_cell bA B0
  replace B1 := dcarry_cell bA B1
  replace B2 := dcarry_cell bA B2
  replace BI := BI.keep bA
  have C0 : (w6.alloc (.cells #[.bool cp.1, .slice a6 n6 c6, .int .i64 cp.2.2] 25)).cell? ⟨w6.heap.size, 0, none⟩ = some (.bool cp.1) := by go_simp
  have C1 : (w6.alloc (.cells #[.bool cp.1, .slice a6 n6 c6, .int .i64 cp.2.2] 25)).cell? ⟨w6.heap.size, 1, none⟩ = some (.slice a6 n6 c6) := by go_simp
  have C2 : (w6.alloc (.cells #[.bool cp.1, .slice a6 n6 c6, .int .i64 cp.2.2] 25)).cell? ⟨w6.heap.size, 2, none⟩ = some (.int .i64 cp.2.2) := by go_simp
  replace bw := nbelow_trans bw bA
  clear bA bN hO6
  go_wp2_with fail
  generalize w6.alloc (.cells #[.bool cp.1, .slice a6 n6 c6, .int .i64 cp.2.2] 25) = w7 at *
  refine Calls.mono (HSC.out _ _ _ _ _ _ _ BI (by omega) CI (by omega)) ?_
  rintro r w8 ⟨rfl, bN⟩
  replace D0 := dcarry_cell bN D0
  replace D1 := dcarry_cell bN D1
  replace D2 := dcarry_cell bN D2
  replace A0 := dcarry_cell bN A0
  replace A1 := dcarry_cell bN A1
  replace A2 := dcarry_cell bN A2
  replace AI := AI.keep bN
  replace B0 := dcarry_cell bN B0
  replace B1 := dcarry_cell bN B1
  replace B2 := dcarry_cell bN B2
  replace BI := BI.keep bN
  replace C0 := dcarry_cell bN C0
  replace C1 := dcarry_cell bN C1
  replace C2 := dcarry_cell bN C2
  replace CI := CI.keep bN
  replace bw := nbelow_trans bw bN
  clear bN
  go_wp2_with fail
  go_ret
  exact ⟨rfl, bw⟩

set_option maxRecDepth 100000 in
set_option maxHeartbeats 4000000 in
theorem dsh_high_no (s : Bool) (a : Option Addr) (len cap : Nat) (xs : List Int) (e : Int) (i : Int) (w : World) (h : IsW w a len cap xs) (hm : len ≤ 17592186044000) (_hi : -9223372036854775808 ≤ i ∧ i ≤ 9223372036854775807) (hT : Tab w) (hE : shE s (val xs) e i = 0) (hcz : canE s (val xs) e ≠ 0) (hbg : 32768 < i) :
    Calls Tryd.prog 4 #[dyV s a len cap e, .int .i64 i] w fun r w' => r = .returned (.bool true) ∧ Below w.heap.size w w' := by
  have hT0 : Hid (∀ w', Below w.heap.size w w' → Tab w') := fun w' hb => hT.kept hb
  have H1 : Hid (IsW w a len cap xs) := h
  have HS : Hid _ := fun W g t => pShift_calls s a len cap xs e i W g (by omega) t
  obtain ⟨hr, hn, hrm, hp1, hroom⟩ := sh_ok hE
  obtain ⟨hb1, hb2⟩ := sh_back hE
  rw [hE, hp1] at HS
  have HB : Hid _ := fun a' n' c' W g (q : n' ≤ 1024) t => pShift_calls (formD s (val xs) (e + i)).1 a' n' c' (wordsOf (formD s (val xs) (e + i)).2.1) (formD s (val xs) (e + i)).2.2 (-i) W g (by omega) t
  rw [val_words, hb1, hb2] at HB
  have HC : Hid _ := fun W g t => pCanon_calls s a len cap xs e W g (by omega) t
  have hwn : IntKind.i64.wrap (-i) = -i := by rw [IntKind.wrap_i64]; omega
  have hcb : (canE s (val xs) e == 0) = false := by simp [hcz]
  have hs1 : ¬ i < -32768 := by omega
  generalize canP s (val xs) e = cp at *
  generalize canE s (val xs) e = ce at *
  generalize (formD s (val xs) (e + i)) = x at *
  have HSC : Hid _ := fun a1 n1 c1 a2 n2 c2 w' g q1 g2 q2 => qSame_calls cp.1 a1 n1 c1 (wordsOf cp.2.1) cp.2.2 cp.1 a2 n2 c2 (wordsOf cp.2.1) cp.2.2 w' g q1 g2 q2
  rw [sameB_self] at HSC
  clear h hm hT hr hn hrm hp1 hroom hb1 hb2 hE
  have bw : Below w.heap.size w (w.alloc (.cells #[.bool s, .slice a len cap, .int .i64 e] 25)) := below_one _ _
  have D0 : (w.alloc (.cells #[.bool s, .slice a len cap, .int .i64 e] 25)).cell? ⟨w.heap.size, 0, none⟩ = some (.bool s) := by go_simp
  have D1 : (w.alloc (.cells #[.bool s, .slice a len cap, .int .i64 e] 25)).cell? ⟨w.heap.size, 1, none⟩ = some (.slice a len cap) := by go_simp
  have D2 : (w.alloc (.cells #[.bool s, .slice a len cap, .int .i64 e] 25)).cell? ⟨w.heap.size, 2, none⟩ = some (.int .i64 e) := by go_simp
  go_enter Tryd.func4, Tryd.ntmps4
  go_wp2_with fail
  generalize (w.alloc (.cells #[.bool s, .slice a len cap, .int .i64 e] 25)) = w0 at *
  refine Calls.mono (dyBegins_calls _ (hT0.out _ bw)) ?_
  rintro r w1 ⟨rfl, bN⟩
  replace D0 := dcarry_cell bN D0
  replace D1 := dcarry_cell bN D1
  replace D2 := dcarry_cell bN D2
  replace bw := nbelow_trans bw bN
  clear bN
  go_wp2_with fail
  refine Calls.mono (HS.out _ (H1.out.keep bw) (hT0.out _ bw)) ?_
  rintro r w2 ⟨_, rfl, ⟨a2, n2, c2, rfl, HN2, hn2, hO2⟩, bN⟩
  replace D0 := dcarry_cell bN D0
  replace D1 := dcarry_cell bN D1
  replace D2 := dcarry_cell bN D2
  replace bw := nbelow_trans bw bN
  have bA := below_one w2 (.cells #[.bool x.1, .slice a2 n2 c2, .int .i64 x.2.2] 25)
  have AI := hO2.1.keep bA
  replace D0 := dcarry_cell bA D0
  replace D1 := dcarry_cell bA D1
  replace D2 := dcarry_cell bA D2
  have A0 : (w2.alloc (.cells #[.bool x.1, .slice a2 n2 c2, .int .i64 x.2.2] 25)).cell? ⟨w2.heap.size, 0, none⟩ = some (.bool x.1) := by go_simp
  have A1 : (w2.alloc (.cells #[.bool x.1, .slice a2 n2 c2, .int .i64 x.2.2] 25)).cell? ⟨w2.heap.size, 1, none⟩ = some (.slice a2 n2 c2) := by go_simp
  have A2 : (w2.alloc (.cells #[.bool x.1, .slice a2 n2 c2, .int .i64 x.2.2] 25)).cell? ⟨w2.heap.size, 2, none⟩ = some (.int .i64 x.2.2) := by go_simp
  replace bw := nbelow_trans bw bA
  clear bA bN hO2
  go_wp2_with fail
  generalize w2.alloc (.cells #[.bool x.1, .slice a2 n2 c2, .int .i64 x.2.2] 25) = w3 at *
  refine Calls.mono (HB.out _ _ _ _ AI hn2 (hT0.out _ bw)) ?_
  rintro r w4 ⟨_, rfl, ⟨a4, n4, c4, rfl, HN4, hn4, hO4⟩, bN⟩
  replace D0 := dcarry_cell bN D0
  replace D1 := dcarry_cell bN D1
  replace D2 := dcarry_cell bN D2
  replace A0 := dcarry_cell bN A0
  replace A1 := dcarry_cell bN A1
  replace A2 := dcarry_cell bN A2
  replace AI := AI.keep bN
  replace bw := nbelow_trans bw bN
  have bA := below_one w4 (.cells #[.bool cp.1, .slice a4 n4 c4, .int .i64 cp.2.2] 25)
  have BI := hO4.1.keep bA
  replace D0 := dcarry_cell bA D0
  replace D1 := dcarry_cell bA D1
  replace D2 := dcarry_cell bA D2
  replace A0 := dcarry_cell bA A0
  replace A1 := dcarry_cell bA A1
  replace A2 := dcarry_cell bA A2
  replace AI := AI.keep bA
  have B0 : (w4.alloc (.cells #[.bool cp.1, .slice a4 n4 c4, .int .i64 cp.2.2] 25)).cell? ⟨w4.heap.size, 0, none⟩ = some (.bool cp.1) := by go_simp
  have B1 : (w4.alloc (.cells #[.bool cp.1, .slice a4 n4 c4, .int .i64 cp.2.2] 25)).cell? ⟨w4.heap.size, 1, none⟩ = some (.slice a4 n4 c4) := by go_simp
  have B2 : (w4.alloc (.cells #[.bool cp.1, .slice a4 n4 c4, .int .i64 cp.2.2] 25)).cell? ⟨w4.heap.size, 2, none⟩ = some (.int .i64 cp.2.2) := by go_simp
  replace bw := nbelow_trans bw bA
  clear bA bN hO4
  go_wp2_with fail
  generalize w4.alloc (.cells #[.bool cp.1, .slice a4 n4 c4, .int .i64 cp.2.2] 25) = w5 at *
  refine Calls.mono (HC.out _ (H1.out.keep bw) (hT0.out _ bw)) ?_
  rintro r w6 ⟨_, rfl, ⟨a6, n6, c6, rfl, HN6, hn6, hO6⟩, bN⟩
  replace D0 := dcarry_cell bN D0
  replace D1 := dcarry_cell bN D1
  replace D2 := dcarry_cell bN D2
  replace A0 := dcarry_cell bN A0
  replace A1 := dcarry_cell bN A1
  replace A2 := dcarry_cell bN A2
  replace AI := AI.keep bN
  replace B0 := dcarry_cell bN B0
  replace B1 := dcarry_cell bN B1
  replace B2 := dcarry_cell bN B2
  replace BI := BI.keep bN
  replace bw := nbelow_trans bw bN
  have bA := below_one w6 (.cells #[.bool cp.1, .slice a6 n6 c6, .int .i64 cp.2.2] 25)
  have CI := hO6.1.keep bA
  replace D0 := dcarry_cell bA D0
  replace D1 := dcarry_cell bA D1
  replace D2 := dcarry_cell bA D2
  replace A0 := dcarry_cell bA A0
  replace A1 := dcarry_cell bA A1
  replace A2 := dcarry_cell bA A2
  replace AI := AI.keep bA
  replace B0 := dcarry_cell bA B0
  replace B1 := dcarry_cell bA B1
  replace B2 := dcarry_cell bA B2
  replace BI := BI.keep bA
  have C0 : (w6.alloc (.cells #[.bool cp.1, .slice a6 n6 c6, .int .i64 cp.2.2] 25)).cell? ⟨w6.heap.size, 0, none⟩ = some (.bool cp.1) := by go_simp
  have C1 : (w6.alloc (.cells #[.bool cp.1, .slice a6 n6 c6, .int .i64 cp.2.2] 25)).cell? ⟨w6.heap.size, 1, none⟩ = some (.slice a6 n6 c6) := by go_simp
  have C2 : (w6.alloc (.cells #[.bool cp.1, .slice a6 n6 c6, .int .i64 cp.2.2] 25)).cell? ⟨w6.heap.size, 2, none⟩ = some (.int .i64 cp.2.2) := by go_simp
  replace bw := nbelow_trans bw bA
  clear bA bN hO6
  go_wp2_with fail
  generalize w6.alloc (.cells #[.bool cp.1, .slice a6 n6 c6, .int .i64 cp.2.2] 25) = w7 at *
  go_ret
  exact ⟨rfl, bw⟩

theorem dyadShifts_walk (s : Bool) (a : Option Addr) (len cap : Nat) (xs : List Int) (e : Int) (i : Int) (w : World) (h : IsW w a len cap xs) (hm : len ≤ 17592186044000) (_he : -9223372036854775808 ≤ e ∧ e ≤ 9223372036854775807) (hi : -9223372036854775808 ≤ i ∧ i ≤ 9223372036854775807) (hT : Tab w) :
    Calls Tryd.prog 4 #[dyV s a len cap e, .int .i64 i] w fun r w' => r = .returned (.bool true) ∧ Below w.heap.size w w' := by
  by_cases hE : shE s (val xs) e i = 0
  · by_cases hc : canE s (val xs) e = 0
    · by_cases h1 : i < -32768
      · exact dsh_low_ok s a len cap xs e i w h hm hi hT hE hc h1
      · by_cases h2 : 32768 < i
        · exact dsh_high_ok s a len cap xs e i w h hm hi hT hE hc h2
        · exact dsh_small_ok s a len cap xs e i w h hm hi hT hE hc (by omega)
    · by_cases h1 : i < -32768
      · exact dsh_low_no s a len cap xs e i w h hm hi hT hE hc h1
      · by_cases h2 : 32768 < i
        · exact dsh_high_no s a len cap xs e i w h hm hi hT hE hc h2
        · exact dsh_small_no s a len cap xs e i w h hm hi hT hE hc (by omega)
  · exact dsh_no s a len cap xs e i w h hm hi hT hE
end Go.Proofs.YtblcddcecmbkbaaDoor

/- The statement DyadForms. -/
import Derived.Test.YtcoeaanhjclgbaaDoorDBeg
namespace Go.Proofs.YtcoeaanhjclgbaaDoor
open Go.RowKit

set_option maxRecDepth 100000 in
set_option maxHeartbeats 4000000 in
theorem dyadForms_walk (s : Bool) (a : Option Addr) (len cap : Nat) (xs : List Int) (e : Int) (w : World) (h : IsW w a len cap xs) (hm : len ≤ 17592186044000) (_he : -9223372036854775808 ≤ e ∧ e ≤ 9223372036854775807) (hT : Tab w) :
    Calls Tryd.prog 3 #[dyV s a len cap e] w fun r w' => r = .returned (.bool true) ∧ Below w.heap.size w w' := by
  have hT0 : Hid (∀ w', Below w.heap.size w w' → Tab w') := fun w' hb => hT.kept hb
  have HC : Hid _ := fun w' g => qCopy_calls s a len cap xs e w' g (by omega)
  have HP : Hid _ := fun ga gc w' g t => pCanon_calls s ga len gc xs e w' g (by omega) t
  have HQ : Hid _ := fun w' g => qCanon_calls s a len cap xs e w' g hm
  have HR : Hid _ := fun w' g => qRight_calls s a len cap xs e w' g (by omega)
  have HK : Hid _ := fun w' g => check_calls s a len cap xs e w' g (by omega)
  have HZ : Hid _ := fun w' g t => dzero_calls s a len cap xs e w' g (by omega) t
  have HY : Hid _ := fun w' g => qZero_calls s a len cap xs e w' g (by omega)
  have HS2 : Hid _ := fun ga gc w' g g2 => qSame_calls s ga len gc xs e s a len cap xs e w' g (by omega) g2 (by omega)
  rw [sameB_self] at HS2
  have hwl : (wordsOf (canP s (val xs) e).2.1).length ≤ 17592186044416 := by
    unfold canP roomP
    have h1 := words_form_len s xs e h.2.1
    have h2 := h.1
    split
    · split
      · omega
      · show (wordsOf 0).length ≤ _
        rw [words_zero]; decide
    · show (wordsOf 0).length ≤ _
      rw [words_zero]; decide
  have HS1 : Hid _ := fun a1 n1 c1 a2 n2 c2 w' g q1 g2 q2 => qSame_calls (canP s (val xs) e).1 a1 n1 c1 (wordsOf (canP s (val xs) e).2.1) (canP s (val xs) e).2.2 (canP s (val xs) e).1 a2 n2 c2 (wordsOf (canP s (val xs) e).2.1) (canP s (val xs) e).2.2 w' g q1 g2 q2
  rw [sameB_self] at HS1
  have HWL : Hid _ := hwl
  have HM : Hid (len ≤ 17592186044000) := hm
  clear hm hT hwl
  generalize canE s (val xs) e = cE at *
  generalize canP s (val xs) e = cP at *
  generalize decide (val xs = 0) = z at *
  generalize rightB (val xs) e = rb at *
  have b0 := below_one w (.cells #[.bool s, .slice a len cap, .int .i64 e] 25)
  have D0 : (w.alloc (.cells #[.bool s, .slice a len cap, .int .i64 e] 25)).cell? ⟨w.heap.size, 0, none⟩ = some (.bool s) := by go_simp
  have D1 : (w.alloc (.cells #[.bool s, .slice a len cap, .int .i64 e] 25)).cell? ⟨w.heap.size, 1, none⟩ = some (.slice a len cap) := by go_simp
  have D2 : (w.alloc (.cells #[.bool s, .slice a len cap, .int .i64 e] 25)).cell? ⟨w.heap.size, 2, none⟩ = some (.int .i64 e) := by go_simp
  have DI := h.keep b0
  clear h
  go_enter Tryd.func3, Tryd.ntmps3
  go_wp2_with fail
  generalize w.alloc (.cells #[.bool s, .slice a len cap, .int .i64 e] 25) = w0 at *
  refine Calls.mono (HC.out _ DI) ?_
  rintro r w1 ⟨ga, gc, rfl, hOg, b1⟩
  replace D0 := dcarry_cell b1 D0
  replace D1 := dcarry_cell b1 D1
  replace D2 := dcarry_cell b1 D2
  replace DI := DI.keep b1
  have bw1 := nbelow_trans b0 b1
  have hIg := hOg.1
  clear hOg b1 b0
  have bA := below_one w1 (.cells #[.bool s, .slice ga len gc, .int .i64 e] 25)
  replace D0 := dcarry_cell bA D0
  replace D1 := dcarry_cell bA D1
  replace D2 := dcarry_cell bA D2
  replace DI := DI.keep bA
  have G0 : (w1.alloc (.cells #[.bool s, .slice ga len gc, .int .i64 e] 25)).cell? ⟨w1.heap.size, 0, none⟩ = some (.bool s) := by go_simp
  have G1 : (w1.alloc (.cells #[.bool s, .slice ga len gc, .int .i64 e] 25)).cell? ⟨w1.heap.size, 1, none⟩ = some (.slice ga len gc) := by go_simp
  have G2 : (w1.alloc (.cells #[.bool s, .slice ga len gc, .int .i64 e] 25)).cell? ⟨w1.heap.size, 2, none⟩ = some (.int .i64 e) := by go_simp
  have GI := hIg.keep bA
  have bw2 := nbelow_trans bw1 bA
  clear bA bw1 hIg
  go_wp2_with fail
  generalize w1.alloc (.cells #[.bool s, .slice ga len gc, .int .i64 e] 25) = w2 at *
  refine Calls.mono (HP.out _ _ _ GI (hT0.out _ bw2)) ?_
  rintro r w3 ⟨_, rfl, ⟨a3, n3, c3, rfl, HN3, hn3, hO3⟩, b3⟩
  replace D0 := dcarry_cell b3 D0
  replace D1 := dcarry_cell b3 D1
  replace D2 := dcarry_cell b3 D2
  replace DI := DI.keep b3
  replace G0 := dcarry_cell b3 G0
  replace G1 := dcarry_cell b3 G1
  replace G2 := dcarry_cell b3 G2
  replace GI := GI.keep b3
  have bw3 := nbelow_trans bw2 b3
  have hI3 := hO3.1
  clear hO3 b3 bw2 HN3
  have bA := below_one w3 (.cells #[.bool cP.1, .slice a3 n3 c3, .int .i64 cP.2.2] 25)
  replace D0 := dcarry_cell bA D0
  replace D1 := dcarry_cell bA D1
  replace D2 := dcarry_cell bA D2
  replace DI := DI.keep bA
  replace G0 := dcarry_cell bA G0
  replace G1 := dcarry_cell bA G1
  replace G2 := dcarry_cell bA G2
  replace GI := GI.keep bA
  have A0 : (w3.alloc (.cells #[.bool cP.1, .slice a3 n3 c3, .int .i64 cP.2.2] 25)).cell? ⟨w3.heap.size, 0, none⟩ = some (.bool cP.1) := by go_simp
  have A1 : (w3.alloc (.cells #[.bool cP.1, .slice a3 n3 c3, .int .i64 cP.2.2] 25)).cell? ⟨w3.heap.size, 1, none⟩ = some (.slice a3 n3 c3) := by go_simp
  have A2 : (w3.alloc (.cells #[.bool cP.1, .slice a3 n3 c3, .int .i64 cP.2.2] 25)).cell? ⟨w3.heap.size, 2, none⟩ = some (.int .i64 cP.2.2) := by go_simp
  have AI := hI3.keep bA
  have bw4 := nbelow_trans bw3 bA
  clear bA bw3 hI3
  go_wp2_with fail
  generalize w3.alloc (.cells #[.bool cP.1, .slice a3 n3 c3, .int .i64 cP.2.2] 25) = w4 at *
  refine Calls.mono (HQ.out _ DI) ?_
  rintro r w5 ⟨_, rfl, ⟨a5, n5, c5, rfl, HN5, hO5⟩, b5⟩
  replace D0 := dcarry_cell b5 D0
  replace D1 := dcarry_cell b5 D1
  replace D2 := dcarry_cell b5 D2
  replace DI := DI.keep b5
  replace G0 := dcarry_cell b5 G0
  replace G1 := dcarry_cell b5 G1
  replace G2 := dcarry_cell b5 G2
  replace GI := GI.keep b5
  replace A0 := dcarry_cell b5 A0
  replace A1 := dcarry_cell b5 A1
  replace A2 := dcarry_cell b5 A2
  replace AI := AI.keep b5
  have bw5 := nbelow_trans bw4 b5
  have hI5 := hO5.1
  clear hO5 b5 bw4
  have HN5' : Hid (n5 ≤ 17592186044416) := by rw [Hid, HN5.out]; exact HWL.out
  clear HN5
  have bA := below_one w5 (.cells #[.bool cP.1, .slice a5 n5 c5, .int .i64 cP.2.2] 25)
  replace D0 := dcarry_cell bA D0
  replace D1 := dcarry_cell bA D1
  replace D2 := dcarry_cell bA D2
  replace DI := DI.keep bA
  replace G0 := dcarry_cell bA G0
  replace G1 := dcarry_cell bA G1
  replace G2 := dcarry_cell bA G2
  replace GI := GI.keep bA
  replace A0 := dcarry_cell bA A0
  replace A1 := dcarry_cell bA A1
  replace A2 := dcarry_cell bA A2
  replace AI := AI.keep bA
  have B0 : (w5.alloc (.cells #[.bool cP.1, .slice a5 n5 c5, .int .i64 cP.2.2] 25)).cell? ⟨w5.heap.size, 0, none⟩ = some (.bool cP.1) := by go_simp
  have B1 : (w5.alloc (.cells #[.bool cP.1, .slice a5 n5 c5, .int .i64 cP.2.2] 25)).cell? ⟨w5.heap.size, 1, none⟩ = some (.slice a5 n5 c5) := by go_simp
  have B2 : (w5.alloc (.cells #[.bool cP.1, .slice a5 n5 c5, .int .i64 cP.2.2] 25)).cell? ⟨w5.heap.size, 2, none⟩ = some (.int .i64 cP.2.2) := by go_simp
  have BI := hI5.keep bA
  have bw6 := nbelow_trans bw5 bA
  clear bA bw5 hI5
  go_wp2_with fail
  generalize w5.alloc (.cells #[.bool cP.1, .slice a5 n5 c5, .int .i64 cP.2.2] 25) = w6 at *
  refine Calls.mono (HR.out _ DI) ?_
  rintro r w7 ⟨rfl, b7⟩
  replace D0 := dcarry_cell b7 D0
  replace D1 := dcarry_cell b7 D1
  replace D2 := dcarry_cell b7 D2
  replace DI := DI.keep b7
  replace G0 := dcarry_cell b7 G0
  replace G1 := dcarry_cell b7 G1
  replace G2 := dcarry_cell b7 G2
  replace GI := GI.keep b7
  replace A0 := dcarry_cell b7 A0
  replace A1 := dcarry_cell b7 A1
  replace A2 := dcarry_cell b7 A2
  replace AI := AI.keep b7
  replace B0 := dcarry_cell b7 B0
  replace B1 := dcarry_cell b7 B1
  replace B2 := dcarry_cell b7 B2
  replace BI := BI.keep b7
  have bw7 := nbelow_trans bw6 b7
  clear b7 bw6
  go_wp2_with fail
  refine Calls.mono (HS1.out _ _ _ _ _ _ _ AI (by omega) BI HN5'.out) ?_
  rintro r w8 ⟨rfl, b8⟩
  clear A0 A1 A2 AI
  clear B0 B1 B2 BI
  replace D0 := dcarry_cell b8 D0
  replace D1 := dcarry_cell b8 D1
  replace D2 := dcarry_cell b8 D2
  replace DI := DI.keep b8
  replace G0 := dcarry_cell b8 G0
  replace G1 := dcarry_cell b8 G1
  replace G2 := dcarry_cell b8 G2
  replace GI := GI.keep b8
  have bw8 := nbelow_trans bw7 b8
  clear b8 bw7
  cases rb with
  | true =>
    go_wp2_with fail
    refine Calls.mono (HK.out _ DI) ?_
    rintro r w9 ⟨rfl, b9⟩
    replace D0 := dcarry_cell b9 D0
    replace D1 := dcarry_cell b9 D1
    replace D2 := dcarry_cell b9 D2
    replace DI := DI.keep b9
    replace G0 := dcarry_cell b9 G0
    replace G1 := dcarry_cell b9 G1
    replace G2 := dcarry_cell b9 G2
    replace GI := GI.keep b9
    have bw9 := nbelow_trans bw8 b9
    clear b9 bw8
    go_wp2_with fail
    refine Calls.mono (HZ.out _ DI (hT0.out _ bw9)) ?_
    rintro r w10 ⟨rfl, b10⟩
    replace D0 := dcarry_cell b10 D0
    replace D1 := dcarry_cell b10 D1
    replace D2 := dcarry_cell b10 D2
    replace DI := DI.keep b10
    replace G0 := dcarry_cell b10 G0
    replace G1 := dcarry_cell b10 G1
    replace G2 := dcarry_cell b10 G2
    replace GI := GI.keep b10
    have bw10 := nbelow_trans bw9 b10
    clear b10 bw9
    go_wp2_with fail
    refine Calls.mono (HY.out _ DI) ?_
    rintro r w11 ⟨rfl, b11⟩
    replace D0 := dcarry_cell b11 D0
    replace D1 := dcarry_cell b11 D1
    replace D2 := dcarry_cell b11 D2
    replace DI := DI.keep b11
    replace G0 := dcarry_cell b11 G0
    replace G1 := dcarry_cell b11 G1
    replace G2 := dcarry_cell b11 G2
    replace GI := GI.keep b11
    have bw11 := nbelow_trans bw10 b11
    clear b11 bw10
    go_wp2_with fail
    refine Calls.mono (HS2.out _ _ _ GI DI) ?_
    rintro r w12 ⟨rfl, b12⟩
    replace D0 := dcarry_cell b12 D0
    replace D1 := dcarry_cell b12 D1
    replace D2 := dcarry_cell b12 D2
    replace DI := DI.keep b12
    replace G0 := dcarry_cell b12 G0
    replace G1 := dcarry_cell b12 G1
    replace G2 := dcarry_cell b12 G2
    replace GI := GI.keep b12
    have bw12 := nbelow_trans bw11 b12
    clear b12 bw11
    go_wp2_with fail
    refine Calls.mono (dyBegins_calls _ (hT0.out _ bw12)) ?_
    rintro r w13 ⟨rfl, b13⟩
    replace D0 := dcarry_cell b13 D0
    replace D1 := dcarry_cell b13 D1
    replace D2 := dcarry_cell b13 D2
    replace DI := DI.keep b13
    replace G0 := dcarry_cell b13 G0
    replace G1 := dcarry_cell b13 G1
    replace G2 := dcarry_cell b13 G2
    replace GI := GI.keep b13
    have bw13 := nbelow_trans bw12 b13
    clear b13 bw12
    go_wp2_with fail
    go_ret
    exact ⟨rfl, bw13⟩
  | false =>
    go_wp2_with fail
    refine Calls.mono (HK.out _ DI) ?_
    rintro r w9 ⟨rfl, b9⟩
    replace D0 := dcarry_cell b9 D0
    replace D1 := dcarry_cell b9 D1
    replace D2 := dcarry_cell b9 D2
    replace DI := DI.keep b9
    replace G0 := dcarry_cell b9 G0
    replace G1 := dcarry_cell b9 G1
    replace G2 := dcarry_cell b9 G2
    replace GI := GI.keep b9
    have bw9 := nbelow_trans bw8 b9
    clear b9 bw8
    go_wp2_with fail
    refine Calls.mono (HK.out _ DI) ?_
    rintro r w10 ⟨rfl, b10⟩
    replace D0 := dcarry_cell b10 D0
    replace D1 := dcarry_cell b10 D1
    replace D2 := dcarry_cell b10 D2
    replace DI := DI.keep b10
    replace G0 := dcarry_cell b10 G0
    replace G1 := dcarry_cell b10 G1
    replace G2 := dcarry_cell b10 G2
    replace GI := GI.keep b10
    have bw10 := nbelow_trans bw9 b10
    clear b10 bw9
    go_wp2_with fail
    refine Calls.mono (HZ.out _ DI (hT0.out _ bw10)) ?_
    rintro r w11 ⟨rfl, b11⟩
    replace D0 := dcarry_cell b11 D0
    replace D1 := dcarry_cell b11 D1
    replace D2 := dcarry_cell b11 D2
    replace DI := DI.keep b11
    replace G0 := dcarry_cell b11 G0
    replace G1 := dcarry_cell b11 G1
    replace G2 := dcarry_cell b11 G2
    replace GI := GI.keep b11
    have bw11 := nbelow_trans bw10 b11
    clear b11 bw10
    go_wp2_with fail
    refine Calls.mono (HS2.out _ _ _ GI DI) ?_
    rintro r w12 ⟨rfl, b12⟩
    replace D0 := dcarry_cell b12 D0
    replace D1 := dcarry_cell b12 D1
    replace D2 := dcarry_cell b12 D2
    replace DI := DI.keep b12
    replace G0 := dcarry_cell b12 G0
    replace G1 := dcarry_cell b12 G1
    replace G2 := dcarry_cell b12 G2
    replace GI := GI.keep b12
    have bw12 := nbelow_trans bw11 b12
    clear b12 bw11
    go_wp2_with fail
    refine Calls.mono (dyBegins_calls _ (hT0.out _ bw12)) ?_
    rintro r w13 ⟨rfl, b13⟩
    replace D0 := dcarry_cell b13 D0
    replace D1 := dcarry_cell b13 D1
    replace D2 := dcarry_cell b13 D2
    replace DI := DI.keep b13
    replace G0 := dcarry_cell b13 G0
    replace G1 := dcarry_cell b13 G1
    replace G2 := dcarry_cell b13 G2
    replace GI := GI.keep b13
    have bw13 := nbelow_trans bw12 b13
    clear b13 bw12
    go_wp2_with fail
    go_ret
    exact ⟨rfl, bw13⟩
end Go.Proofs.YtcoeaanhjclgbaaDoor

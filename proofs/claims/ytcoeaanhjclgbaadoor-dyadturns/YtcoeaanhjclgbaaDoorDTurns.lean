/- The statement DyadTurns. -/
import Derived.Test.YtcoeaanhjclgbaaDoorDBeg
import Derived.Test.YtcoeaanhjclgbaaDoorRD4
import Derived.Deep.RegionWith
namespace Go.Proofs.YtcoeaanhjclgbaaDoor
open Go.RowKit

attribute [local go_sem ↓] Go.wp_at_zero Go.wp_at_succ

theorem words_can_len (s : Bool) (xs : List Int) (e : Int) (hU : AllU xs) : (wordsOf (canP s (val xs) e).2.1).length ≤ xs.length := by
  unfold canP roomP
  have h1 := words_form_len s xs e hU
  split
  · split
    · exact h1
    · show (wordsOf 0).length ≤ _
      rw [words_zero]; exact Nat.zero_le _
  · show (wordsOf 0).length ≤ _
    rw [words_zero]; exact Nat.zero_le _
theorem words_sh_len (s : Bool) (xs : List Int) (e i : Int) (hU : AllU xs) : (wordsOf (shP s (val xs) e i).2.1).length ≤ xs.length := by
  unfold shP roomP
  have h1 := words_form_len s xs (e + i) hU
  split
  · split
    · exact h1
    · show (wordsOf 0).length ≤ _
      rw [words_zero]; exact Nat.zero_le _
  · show (wordsOf 0).length ≤ _
    rw [words_zero]; exact Nat.zero_le _
theorem canP_exp (s : Bool) (m : Nat) (e : Int) : -4611686018427387904 ≤ (canP s m e).2.2 ∧ (canP s m e).2.2 ≤ 4611686018427387904 := by
  unfold canP roomP
  split
  · split
    · rename_i h1 h2
      have := form_bounds s m e h1
      omega
    · exact ⟨by decide, by decide⟩
  · exact ⟨by decide, by decide⟩
theorem sameQ (p : Bool × Nat × Int) (a1 : Option Addr) (n1 c1 : Nat) (a2 : Option Addr) (n2 c2 : Nat) (w : World) (h1 : IsW w a1 n1 c1 (wordsOf p.2.1)) (q1 : n1 ≤ 17592186044416) (h2 : IsW w a2 n2 c2 (wordsOf p.2.1)) (q2 : n2 ≤ 17592186044416) :
    Calls Tryd.prog 11 #[dyV p.1 a1 n1 c1 p.2.2, dyV p.1 a2 n2 c2 p.2.2] w fun r w' => r = .returned (.bool true) ∧ Below w.heap.size w w' := by
  have := qSame_calls p.1 a1 n1 c1 (wordsOf p.2.1) p.2.2 p.1 a2 n2 c2 (wordsOf p.2.1) p.2.2 w h1 q1 h2 q2
  rw [sameB_self] at this; exact this

set_option maxRecDepth 100000 in
set_option maxHeartbeats 8000000 in
theorem dyadTurns_walk (s : Bool) (a : Option Addr) (len cap : Nat) (xs : List Int) (e : Int) (i : Int) (w : World) (h : IsW w a len cap xs) (hm : len ≤ 17592186044000) (_he : -9223372036854775808 ≤ e ∧ e ≤ 9223372036854775807) (_hi : -9223372036854775808 ≤ i ∧ i ≤ 9223372036854775807) (hT : Tab w) :
    Calls Tryd.prog 5 #[dyV s a len cap e, .int .i64 i] w fun r w' => r = .returned (.bool true) ∧ Below w.heap.size w w' := by
  have hT0 : Hid (∀ w', Below w.heap.size w w' → Tab w') := fun w' hb => hT.kept hb
  have HQ : Hid _ := fun w' g => qCanon_calls s a len cap xs e w' g hm
  have HN : Hid _ := fun w' g t => pNeg_calls s a len cap xs e w' g (by omega) t
  have HA : Hid (∀ w', IsW w' a len cap xs → Tab w' → Calls Tryd.prog 24 #[dyV s a len cap e] w' fun r w'' => ∃ v', r = .returned (.tuple #[v', .int .i64 (canE s (val xs) e)]) ∧ DyAt w'.heap.size w'' v' (false, (canP s (val xs) e).2.1, (canP s (val xs) e).2.2) ∧ Below w'.heap.size w' w'') := fun w' g t => pAbs_calls s a len cap xs e w' g (by omega) t
  have HS : Hid _ := fun w' g t => pShift_calls s a len cap xs e i w' g (by omega) t
  have HY : Hid _ := fun w' g => qShift_calls s a len cap xs e i w' g hm
  have hl1 := words_can_len s xs e h.2.1
  have hl2 := words_sh_len s xs e i h.2.1
  have hlx := h.1
  have HL1 : Hid ((wordsOf (canP s (val xs) e).2.1).length ≤ 17592186044000) := by rw [Hid]; omega
  have HL2 : Hid ((wordsOf (shP s (val xs) e i).2.1).length ≤ 17592186044000) := by rw [Hid]; omega
  have HCE : Hid _ := canP_exp s (val xs) e
  have HCN : Hid _ := neg_can (canP_can s (val xs) e)
  have HNG : Hid (ngP s (val xs) e = if canE s (val xs) e = 0 then negD (canP s (val xs) e) else (false, 0, 0)) := rfl
  clear hl1 hl2 hlx hT
  have hH := h
  generalize ngP s (val xs) e = nP at *
  generalize canE s (val xs) e = cE at *
  generalize canP s (val xs) e = cP at *
  generalize shE s (val xs) e i = sE at *
  generalize shP s (val xs) e i = sP at *
  have b0 := below_one w (.cells #[.bool s, .slice a len cap, .int .i64 e] 25)
  have D0 : (w.alloc (.cells #[.bool s, .slice a len cap, .int .i64 e] 25)).cell? ⟨w.heap.size, 0, none⟩ = some (.bool s) := by go_simp
  have D1 : (w.alloc (.cells #[.bool s, .slice a len cap, .int .i64 e] 25)).cell? ⟨w.heap.size, 1, none⟩ = some (.slice a len cap) := by go_simp
  have D2 : (w.alloc (.cells #[.bool s, .slice a len cap, .int .i64 e] 25)).cell? ⟨w.heap.size, 2, none⟩ = some (.int .i64 e) := by go_simp
  have HH : Hid (IsW w a len cap xs) := h
  clear h hH
  go_enter Tryd.func5, Tryd.ntmps5
  go_wp2_with fail
  have hz0 : w.heap.size + 1 ≤ (w.alloc (.cells #[.bool s, .slice a len cap, .int .i64 e] 25)).heap.size := by simp
  generalize w.alloc (.cells #[.bool s, .slice a len cap, .int .i64 e] 25) = w0 at *
  have HZ0 : Hid (w.heap.size + 1 ≤ w0.heap.size) := hz0
  clear hz0
  refine Calls.mono (HQ.out _ (HH.out.keep b0)) ?_
  rintro r w1 ⟨_, rfl, ⟨a1, n1, c1, rfl, HN1, hO1⟩, b1⟩
  have HI1 : Hid (IsW w1 a1 n1 c1 (wordsOf cP.2.1)) := hO1.1
  have hD1 := nbelow_trans b0 b1
  have HZ1 : Hid (w.heap.size + 1 ≤ w1.heap.size) := Nat.le_trans HZ0.out b1.size
  have hDC : w.heap.size ≠ w1.heap.size := by have := HZ1.out; omega
  have HNL1 : Hid (n1 ≤ 17592186044000) := by rw [Hid, HN1.out]; exact HL1.out
  replace D0 := dcarry_cell b1 D0
  replace D1 := dcarry_cell b1 D1
  replace D2 := dcarry_cell b1 D2
  have bA := below_one w1 (.cells #[.bool cP.1, .slice a1 n1 c1, .int .i64 cP.2.2] 25)
  replace D0 := dcarry_cell bA D0
  replace D1 := dcarry_cell bA D1
  replace D2 := dcarry_cell bA D2
  have C0 : (w1.alloc (.cells #[.bool cP.1, .slice a1 n1 c1, .int .i64 cP.2.2] 25)).cell? ⟨w1.heap.size, 0, none⟩ = some (.bool cP.1) := by go_simp
  have C1 : (w1.alloc (.cells #[.bool cP.1, .slice a1 n1 c1, .int .i64 cP.2.2] 25)).cell? ⟨w1.heap.size, 1, none⟩ = some (.slice a1 n1 c1) := by go_simp
  have C2 : (w1.alloc (.cells #[.bool cP.1, .slice a1 n1 c1, .int .i64 cP.2.2] 25)).cell? ⟨w1.heap.size, 2, none⟩ = some (.int .i64 cP.2.2) := by go_simp
  have F0 : (w1.alloc (.cells #[.bool cP.1, .slice a1 n1 c1, .int .i64 cP.2.2] 25)).frozen? ⟨w1.heap.size, 0, none⟩ = false := by go_simp
  have hD2 := nbelow_trans hD1 bA
  have hC2 := bA
  clear hO1 b1 b0 hD1 bA
  go_wp2_with fail
  have hz2 : w1.heap.size + 1 ≤ (w1.alloc (.cells #[.bool cP.1, .slice a1 n1 c1, .int .i64 cP.2.2] 25)).heap.size := by simp
  generalize w1.alloc (.cells #[.bool cP.1, .slice a1 n1 c1, .int .i64 cP.2.2] 25) = w2 at *
  have HZ2 : Hid (w1.heap.size + 1 ≤ w2.heap.size) := hz2
  clear hz2
  refine Calls.mono (HN.out _ (HH.out.keep hD2) (hT0.out _ hD2)) ?_
  rintro r w3 ⟨_, rfl, ⟨a3, n3, c3, rfl, HN3, hn3, hO3⟩, b3⟩
  have HI3 : Hid (IsW w3 a3 n3 c3 (wordsOf nP.2.1)) := hO3.1
  replace F0 := dcarry_frozen b3 C0 F0
  replace D0 := dcarry_cell b3 D0
  replace D1 := dcarry_cell b3 D1
  replace D2 := dcarry_cell b3 D2
  replace C0 := dcarry_cell b3 C0
  replace C1 := dcarry_cell b3 C1
  replace C2 := dcarry_cell b3 C2
  have hD3 := nbelow_trans hD2 b3
  have hC3 := nbelow_trans hC2 b3
  have HZ3 : Hid (w1.heap.size + 1 ≤ w3.heap.size) := Nat.le_trans HZ2.out b3.size
  have hCX : w1.heap.size ≠ w3.heap.size := by have := HZ3.out; omega
  have hDX : w.heap.size ≠ w3.heap.size := by have := HZ3.out; have := HZ1.out; omega
  have bA := below_one w3 (.cells #[.bool nP.1, .slice a3 n3 c3, .int .i64 nP.2.2] 25)
  replace F0 := dcarry_frozen bA C0 F0
  replace D0 := dcarry_cell bA D0
  replace D1 := dcarry_cell bA D1
  replace D2 := dcarry_cell bA D2
  replace C0 := dcarry_cell bA C0
  replace C1 := dcarry_cell bA C1
  replace C2 := dcarry_cell bA C2
  have X0 : (w3.alloc (.cells #[.bool nP.1, .slice a3 n3 c3, .int .i64 nP.2.2] 25)).cell? ⟨w3.heap.size, 0, none⟩ = some (.bool nP.1) := by go_simp
  have G0 : (w3.alloc (.cells #[.bool nP.1, .slice a3 n3 c3, .int .i64 nP.2.2] 25)).frozen? ⟨w3.heap.size, 0, none⟩ = false := by go_simp
  have X1 : (w3.alloc (.cells #[.bool nP.1, .slice a3 n3 c3, .int .i64 nP.2.2] 25)).cell? ⟨w3.heap.size, 1, none⟩ = some (.slice a3 n3 c3) := by go_simp
  have G1 : (w3.alloc (.cells #[.bool nP.1, .slice a3 n3 c3, .int .i64 nP.2.2] 25)).frozen? ⟨w3.heap.size, 1, none⟩ = false := by go_simp
  have X2 : (w3.alloc (.cells #[.bool nP.1, .slice a3 n3 c3, .int .i64 nP.2.2] 25)).cell? ⟨w3.heap.size, 2, none⟩ = some (.int .i64 nP.2.2) := by go_simp
  have G2 : (w3.alloc (.cells #[.bool nP.1, .slice a3 n3 c3, .int .i64 nP.2.2] 25)).frozen? ⟨w3.heap.size, 2, none⟩ = false := by go_simp
  have hD4 := nbelow_trans hD3 bA
  have hC4 := nbelow_trans hC3 bA
  have hX4 := bA
  clear hO3 b3 hD3 hC3 hD2 hC2 bA
  go_wp2_with fail
  have hz4 : w3.heap.size + 1 ≤ (w3.alloc (.cells #[.bool nP.1, .slice a3 n3 c3, .int .i64 nP.2.2] 25)).heap.size := by simp
  generalize w3.alloc (.cells #[.bool nP.1, .slice a3 n3 c3, .int .i64 nP.2.2] 25) = w4 at *
  have HZ4 : Hid (w3.heap.size + 1 ≤ w4.heap.size) := hz4
  clear hz4
  have PK : Hid ((w4.cell? ⟨w.heap.size, 0, none⟩ = some (.bool s) ∧ w4.cell? ⟨w.heap.size, 1, none⟩ = some (.slice a len cap) ∧ w4.cell? ⟨w.heap.size, 2, none⟩ = some (.int .i64 e)) ∧ w4.frozen? ⟨w1.heap.size, 0, none⟩ = false ∧ w4.frozen? ⟨w3.heap.size, 0, none⟩ = false ∧ w4.frozen? ⟨w3.heap.size, 1, none⟩ = false ∧ w4.frozen? ⟨w3.heap.size, 2, none⟩ = false) := ⟨⟨D0, D1, D2⟩, F0, G0, G1, G2⟩
  have HB4 : Hid (Below w.heap.size w w4 ∧ Below w1.heap.size w1 w4 ∧ Below w3.heap.size w3 w4) := ⟨hD4, hC4, hX4⟩
  have HNE : Hid (w.heap.size ≠ w1.heap.size ∧ w1.heap.size ≠ w3.heap.size ∧ w.heap.size ≠ w3.heap.size) := ⟨hDC, hCX, hDX⟩
  have CH0 : Hid (w4.cell? ⟨w1.heap.size, 0, none⟩ = some (.bool cP.1)) := C0
  have CH1 : Hid (w4.cell? ⟨w1.heap.size, 1, none⟩ = some (.slice a1 n1 c1)) := C1
  have CH2 : Hid (w4.cell? ⟨w1.heap.size, 2, none⟩ = some (.int .i64 cP.2.2)) := C2
  have XH0 : Hid (w4.cell? ⟨w3.heap.size, 0, none⟩ = some (.bool nP.1)) := X0
  have XH1 : Hid (w4.cell? ⟨w3.heap.size, 1, none⟩ = some (.slice a3 n3 c3)) := X1
  have XH2 : Hid (w4.cell? ⟨w3.heap.size, 2, none⟩ = some (.int .i64 nP.2.2)) := X2
  have bR : Below w4.heap.size w4 w4 := Below.refl _ _
  clear D0 D1 D2 F0 G0 G1 G2 hD4 hC4 hX4 hDC hCX hDX
  by_cases hE : cE = 0
  · subst hE
    have hnP := HNG.out
    rw [if_pos rfl] at hnP
    have HM : Hid _ := fun w' g => qNeg_calls cP.1 a1 n1 c1 (wordsOf cP.2.1) cP.2.2 w' g HNL1.out HCE.out
    rw [val_words, HCN.out, ← hnP] at HM
    have HL3 : Hid ((wordsOf nP.2.1).length ≤ 17592186044000) := by rw [Hid, hnP]; exact HL1.out
    clear hnP HNG HCN
    refine wp_region_any (by kernel_rfl) ?_
    change wpAny _ _ _ _ _ _ _ (World.drew _)
    refine wpAny_take (i := 0) (v := ?v0) rfl (by kernel_rfl) (by kernel_rfl) (by kernel_rfl) (fun _ _ _ h => h) (Or.inl ⟨by rfl, ?y0⟩) ?r0
    case y0 => (intro ww; go_simp; try with_reducible rfl)
    refine wpAny_take (i := 1) (v := ?v1) rfl (by kernel_rfl) (by kernel_rfl) (by kernel_rfl) (fun _ _ _ h => h) (Or.inl ⟨by rfl, ?y1⟩) ?r1
    case y1 => (intro ww; go_simp; try with_reducible rfl)
    refine wpAny_take (i := 2) (v := ?v2) rfl (by kernel_rfl) (by kernel_rfl) (by kernel_rfl) (fun _ _ _ h => h) (Or.inl ⟨by rfl, ?y2⟩) ?r2
    case y2 => (intro ww; go_simp; try with_reducible rfl)
    refine wpAny_take (i := 3) (v := ?v3) rfl (by kernel_rfl) (by kernel_rfl) (by kernel_rfl) (fun _ _ _ h => h) (Or.inl ⟨by rfl, ?y3⟩) ?r3
    case y3 => (intro ww; go_simp; try with_reducible rfl)
    refine wpAny_take (i := 4) (v := ?v4) rfl (by kernel_rfl) (by kernel_rfl) (by kernel_rfl) (fun _ _ _ h => h) (Or.inl ⟨by rfl, ?y4⟩) ?r4
    case y4 => (intro ww; go_simp; try with_reducible rfl)
    refine wpAny_take (i := 5) (v := ?v5) rfl (by kernel_rfl) (by kernel_rfl) (by kernel_rfl) (fun _ _ _ h => h) (Or.inl ⟨by rfl, ?y5⟩) ?r5
    case y5 => (intro ww; go_simp; try with_reducible rfl)
    refine wpAny_take (i := 6) (v := ?v6) rfl (by kernel_rfl) (by kernel_rfl) (by kernel_rfl) (fun _ _ _ h => h) (Or.inl ⟨by rfl, ?y6⟩) ?r6
    case y6 => (intro ww; go_simp; try with_reducible rfl)
    refine wpAny_ready (rs := [7, 8]) ?_ ?_ ?_; (focus kernel_rfl); (focus simp); refine AllReady.cons rfl (fun K hK => ?_) (AllReady.cons rfl (fun K hK => ?_) AllReady.nil)
    all_goals (go_simp; refine hK _ _ ?_; clear hK K)
    focus ((refine wpAny_ready (rs := [8]) ?_ ?_ ?_; (focus kernel_rfl); (focus simp); refine AllReady.cons rfl (fun K hK => ?_) AllReady.nil; go_simp; refine hK _ _ ?_; clear hK K); (refine wpAny_ready (rs := [9]) ?_ ?_ ?_; (focus kernel_rfl); (focus simp); refine AllReady.cons rfl (fun K hK => ?_) AllReady.nil; go_simp; go_wp2_with ((go_at_call 23; go_must (refine (HM.out _ (HI1.out.keep (nbelow_trans HB4.out.2.1 (by repeat (first | exact bR | refine Below.drew ?_))))).mono ?_; rintro r w9 ⟨_, rfl, ⟨a9, n9, c9, rfl, HN9, hO9⟩, b9⟩; have HI9 : Hid (IsW w9 a9 n9 c9 (wordsOf nP.2.1)) := hO9.1; replace bR := nbelow_trans (show Below w4.heap.size w4 _ from by repeat (first | exact bR | refine Below.drew ?_)) b9; replace C0 := dcarry_cell bR CH0.out; replace C1 := dcarry_cell bR CH1.out; replace C2 := dcarry_cell bR CH2.out; replace X0 := dcarry_cell bR XH0.out; replace X1 := dcarry_cell bR XH1.out; replace X2 := dcarry_cell bR XH2.out; clear b9 hO9)))))
    rotate_left
    focus (refine wpAny_ready (rs := [7, 9]) ?_ ?_ ?_; (focus kernel_rfl); (focus simp); refine AllReady.cons rfl (fun K hK => ?_) (AllReady.cons rfl (fun K hK => ?_) AllReady.nil))
    focus (go_simp; refine hK _ _ ?_; clear hK K; (refine wpAny_ready (rs := [9]) ?_ ?_ ?_; (focus kernel_rfl); (focus simp); refine AllReady.cons rfl (fun K hK => ?_) AllReady.nil; go_simp; go_wp2_with ((go_at_call 23; go_must (refine (HM.out _ (HI1.out.keep (nbelow_trans HB4.out.2.1 (by repeat (first | exact bR | refine Below.drew ?_))))).mono ?_; rintro r w9 ⟨_, rfl, ⟨a9, n9, c9, rfl, HN9, hO9⟩, b9⟩; have HI9 : Hid (IsW w9 a9 n9 c9 (wordsOf nP.2.1)) := hO9.1; replace bR := nbelow_trans (show Below w4.heap.size w4 _ from by repeat (first | exact bR | refine Below.drew ?_)) b9; replace C0 := dcarry_cell bR CH0.out; replace C1 := dcarry_cell bR CH1.out; replace C2 := dcarry_cell bR CH2.out; replace X0 := dcarry_cell bR XH0.out; replace X1 := dcarry_cell bR XH1.out; replace X2 := dcarry_cell bR XH2.out; clear b9 hO9)))))
    rotate_left
    focus (go_simp; go_wp2_with ((go_at_call 23; go_must (refine (HM.out _ (HI1.out.keep (nbelow_trans HB4.out.2.1 (by repeat (first | exact bR | refine Below.drew ?_))))).mono ?_; rintro r w9 ⟨_, rfl, ⟨a9, n9, c9, rfl, HN9, hO9⟩, b9⟩; have HI9 : Hid (IsW w9 a9 n9 c9 (wordsOf nP.2.1)) := hO9.1; replace bR := nbelow_trans (show Below w4.heap.size w4 _ from by repeat (first | exact bR | refine Below.drew ?_)) b9; replace C0 := dcarry_cell bR CH0.out; replace C1 := dcarry_cell bR CH1.out; replace C2 := dcarry_cell bR CH2.out; replace X0 := dcarry_cell bR XH0.out; replace X1 := dcarry_cell bR XH1.out; replace X2 := dcarry_cell bR XH2.out; clear b9 hO9))); (refine wpAny_ready (rs := [7]) ?_ ?_ ?_; (focus kernel_rfl); (focus simp); refine AllReady.cons rfl (fun K hK => ?_) AllReady.nil; go_simp; refine hK _ _ ?_; clear hK K))
    rotate_left
    all_goals (refine wpAny_ready (rs := [10]) ?_ ?_ ?_; (focus kernel_rfl); (focus simp); refine AllReady.cons rfl (fun K hK => ?_) AllReady.nil; go_simp; go_wp2_with ((go_at_call 11; go_must (refine (sameQ nP a3 n3 c3 a9 n9 c9 _ (HI3.out.keep (nbelow_trans HB4.out.2.2 (by repeat (first | exact bR | refine Below.drew ?_)))) (by omega) (HI9.out.keep (by repeat (first | exact Below.refl _ _ | refine Below.drew ?_))) (by have h1 := HN9.out; have h2 := HL3.out; omega)).mono ?_; rintro r w9 ⟨rfl, b9⟩; replace bR := nbelow_trans (show Below w4.heap.size w4 _ from by repeat (first | exact bR | refine Below.drew ?_)) b9; replace C0 := dcarry_cell bR CH0.out; replace C1 := dcarry_cell bR CH1.out; replace C2 := dcarry_cell bR CH2.out; replace X0 := dcarry_cell bR XH0.out; replace X1 := dcarry_cell bR XH1.out; replace X2 := dcarry_cell bR XH2.out; clear b9))))
    all_goals (refine wpAny_ready (rs := [11]) ?_ ?_ ?_; (focus kernel_rfl); (focus simp); refine AllReady.cons rfl (fun K hK => ?_) AllReady.nil; go_simp; refine hK _ _ ?_; clear hK K)
    all_goals (refine wpAny_ready (rs := [12]) ?_ ?_ ?_; (focus kernel_rfl); (focus simp); refine AllReady.cons rfl (fun K hK => ?_) AllReady.nil; go_simp; refine hK _ _ ?_; clear hK K)
    all_goals (refine wpAny_ready (rs := [13]) ?_ ?_ ?_; (focus kernel_rfl); (focus simp); refine AllReady.cons rfl (fun K hK => ?_) AllReady.nil; go_simp; refine hK _ _ ?_; clear hK K)
    all_goals (refine wpAny_ready (rs := [14]) ?_ ?_ ?_; (focus kernel_rfl); (focus simp); refine AllReady.cons rfl (fun K hK => ?_) AllReady.nil; go_simp; refine hK _ _ ?_; clear hK K)
    all_goals (refine wpAny_ready (rs := [15]) ?_ ?_ ?_; (focus kernel_rfl); (focus simp); refine AllReady.cons rfl (fun K hK => ?_) AllReady.nil; go_simp; refine hK _ _ ?_; clear hK K)
    all_goals (refine wpAny_ready (rs := [16]) ?_ ?_ ?_; (focus kernel_rfl); (focus simp); refine AllReady.cons rfl (fun K hK => ?_) AllReady.nil; go_simp; refine hK _ _ ?_; clear hK K)
    all_goals (refine wpAny_ready (rs := [17]) ?_ ?_ ?_; (focus kernel_rfl); (focus simp); refine AllReady.cons rfl (fun K hK => ?_) AllReady.nil; go_simp; refine hK _ _ ?_; clear hK K)
    all_goals (refine wpAny_ready (rs := [18, 19]) ?_ ?_ ?_; (focus kernel_rfl); (focus simp); refine AllReady.cons rfl (fun K hK => ?_) (AllReady.cons rfl (fun K hK => ?_) AllReady.nil))
    all_goals (go_simp; refine hK _ _ ?_; clear hK K)
    focus (refine wpAny_ready (rs := [19]) ?_ ?_ ?_; (focus kernel_rfl); (focus simp); refine AllReady.cons rfl (fun K hK => ?_) AllReady.nil; go_simp; refine hK _ _ ?_; clear hK K)
    rotate_left
    focus (refine wpAny_ready (rs := [18]) ?_ ?_ ?_; (focus kernel_rfl); (focus simp); refine AllReady.cons rfl (fun K hK => ?_) AllReady.nil; go_simp; refine hK _ _ ?_; clear hK K)
    rotate_left
    focus (refine wpAny_ready (rs := [19]) ?_ ?_ ?_; (focus kernel_rfl); (focus simp); refine AllReady.cons rfl (fun K hK => ?_) AllReady.nil; go_simp; refine hK _ _ ?_; clear hK K)
    rotate_left
    focus (refine wpAny_ready (rs := [18]) ?_ ?_ ?_; (focus kernel_rfl); (focus simp); refine AllReady.cons rfl (fun K hK => ?_) AllReady.nil; go_simp; refine hK _ _ ?_; clear hK K)
    rotate_left
    focus (refine wpAny_ready (rs := [19]) ?_ ?_ ?_; (focus kernel_rfl); (focus simp); refine AllReady.cons rfl (fun K hK => ?_) AllReady.nil; go_simp; refine hK _ _ ?_; clear hK K)
    rotate_left
    focus (refine wpAny_ready (rs := [18]) ?_ ?_ ?_; (focus kernel_rfl); (focus simp); refine AllReady.cons rfl (fun K hK => ?_) AllReady.nil; go_simp; refine hK _ _ ?_; clear hK K)
    rotate_left
    all_goals (refine wpAny_ready (rs := [20]) ?_ ?_ ?_; (focus kernel_rfl); (focus simp); refine AllReady.cons rfl (fun K hK => ?_) AllReady.nil; go_simp; refine hK _ _ ?_; clear hK K)
    all_goals (refine wpAny_ready (rs := [21]) ?_ ?_ ?_; (focus kernel_rfl); (focus simp); refine AllReady.cons rfl (fun K hK => ?_) AllReady.nil; go_simp; refine hK _ _ ?_; clear hK K)
    all_goals (refine wpAny_ready (rs := [22]) ?_ ?_ ?_; (focus kernel_rfl); (focus simp); refine AllReady.cons rfl (fun K hK => ?_) AllReady.nil; go_simp; refine hK _ _ ?_; clear hK K)
    all_goals (refine wpAny_ready (rs := [23]) ?_ ?_ ?_; (focus kernel_rfl); (focus simp); refine AllReady.cons rfl (fun K hK => ?_) AllReady.nil; go_simp; refine hK _ _ ?_; clear hK K)
    all_goals refine wpAny_done (by kernel_rfl) ?_ _
    all_goals
      obtain ⟨⟨D0, D1, D2⟩, F0, G0, G1, G2⟩ := PK.out
      obtain ⟨hDC, hCX, hDX⟩ := HNE.out
      replace F0 := dcarry_frozen bR CH0.out F0
      replace G0 := dcarry_frozen bR XH0.out G0
      replace G1 := dcarry_frozen bR XH1.out G1
      replace G2 := dcarry_frozen bR XH2.out G2
      replace D0 := dcarry_cell bR D0
      replace D1 := dcarry_cell bR D1
      replace D2 := dcarry_cell bR D2
      have hD9 := nbelow_trans HB4.out.1 bR
      have hC9 := nbelow_trans HB4.out.2.1 bR
      have HZ9 : Hid (w3.heap.size + 1 ≤ w9.heap.size) := Nat.le_trans HZ4.out bR.size
      have HZC : Hid (w1.heap.size + 1 ≤ w9.heap.size) := by rw [Hid]; have := HZ9.out; have := HZ3.out; omega
      clear bR
      go_wp2_with fail
      refine Calls.mono (HA.out _ (HH.out.keep hD9) (hT0.out _ hD9)) ?_
      rintro r w10 ⟨_, rfl, ⟨a10, n10, c10, rfl, HN10, hn10, hO10⟩, b10⟩
      replace F0 := dcarry_frozen b10 C0 F0
      replace G0 := dcarry_frozen b10 X0 G0
      replace G1 := dcarry_frozen b10 X1 G1
      replace G2 := dcarry_frozen b10 X2 G2
      replace D0 := dcarry_cell b10 D0
      replace D1 := dcarry_cell b10 D1
      replace D2 := dcarry_cell b10 D2
      replace C0 := dcarry_cell b10 C0
      replace C1 := dcarry_cell b10 C1
      replace C2 := dcarry_cell b10 C2
      replace X0 := dcarry_cell b10 X0
      replace X1 := dcarry_cell b10 X1
      replace X2 := dcarry_cell b10 X2
      have hD10 := nbelow_trans hD9 b10
      have hC10 := nbelow_trans hC9 b10
      have hO10b : OwnW w9.heap.size w10 a10 n10 c10 (wordsOf cP.2.1) := hO10
      clear b10 hO10 hD9 hC9
      have hO7 : OwnW w9.heap.size ((((w10.setCell ⟨w3.heap.size, 0, none⟩ (.bool false)).setCell ⟨w3.heap.size, 1, none⟩ (.slice a10 n10 c10)).setCell ⟨w3.heap.size, 2, none⟩ (.int .i64 cP.2.2)).setCell ⟨w1.heap.size, 0, none⟩ (.bool false)) a10 n10 c10 (wordsOf cP.2.1) := (((hO10b.far _ _ (show w3.heap.size < _ from HZ9.out)).far _ _ (show w3.heap.size < _ from HZ9.out)).far _ _ (show w3.heap.size < _ from HZ9.out)).far _ _ (show w1.heap.size < _ from HZC.out)
      have hC7 : Below w1.heap.size w1 ((((w10.setCell ⟨w3.heap.size, 0, none⟩ (.bool false)).setCell ⟨w3.heap.size, 1, none⟩ (.slice a10 n10 c10)).setCell ⟨w3.heap.size, 2, none⟩ (.int .i64 cP.2.2)).setCell ⟨w1.heap.size, 0, none⟩ (.bool false)) := (((hC10.setCell (show w1.heap.size ≤ w3.heap.size by have := HZ3.out; omega) _).setCell (show w1.heap.size ≤ w3.heap.size by have := HZ3.out; omega) _).setCell (show w1.heap.size ≤ w3.heap.size by have := HZ3.out; omega) _).setCell (show w1.heap.size ≤ w1.heap.size from Nat.le_refl _) _
      have hD7 : Below w.heap.size w ((((w10.setCell ⟨w3.heap.size, 0, none⟩ (.bool false)).setCell ⟨w3.heap.size, 1, none⟩ (.slice a10 n10 c10)).setCell ⟨w3.heap.size, 2, none⟩ (.int .i64 cP.2.2)).setCell ⟨w1.heap.size, 0, none⟩ (.bool false)) := (((hD10.setCell (show w.heap.size ≤ w3.heap.size by have := HZ3.out; have := HZ1.out; omega) _).setCell (show w.heap.size ≤ w3.heap.size by have := HZ3.out; have := HZ1.out; omega) _).setCell (show w.heap.size ≤ w3.heap.size by have := HZ3.out; have := HZ1.out; omega) _).setCell (show w.heap.size ≤ w1.heap.size by have := HZ1.out; omega) _
      have U0 : ((((w10.setCell ⟨w3.heap.size, 0, none⟩ (.bool false)).setCell ⟨w3.heap.size, 1, none⟩ (.slice a10 n10 c10)).setCell ⟨w3.heap.size, 2, none⟩ (.int .i64 cP.2.2)).setCell ⟨w1.heap.size, 0, none⟩ (.bool false)).cell? ⟨w.heap.size, 0, none⟩ = some (.bool s) := by go_simp
      have U1 : ((((w10.setCell ⟨w3.heap.size, 0, none⟩ (.bool false)).setCell ⟨w3.heap.size, 1, none⟩ (.slice a10 n10 c10)).setCell ⟨w3.heap.size, 2, none⟩ (.int .i64 cP.2.2)).setCell ⟨w1.heap.size, 0, none⟩ (.bool false)).cell? ⟨w.heap.size, 1, none⟩ = some (.slice a len cap) := by go_simp
      have U2 : ((((w10.setCell ⟨w3.heap.size, 0, none⟩ (.bool false)).setCell ⟨w3.heap.size, 1, none⟩ (.slice a10 n10 c10)).setCell ⟨w3.heap.size, 2, none⟩ (.int .i64 cP.2.2)).setCell ⟨w1.heap.size, 0, none⟩ (.bool false)).cell? ⟨w.heap.size, 2, none⟩ = some (.int .i64 e) := by go_simp
      have V0 : ((((w10.setCell ⟨w3.heap.size, 0, none⟩ (.bool false)).setCell ⟨w3.heap.size, 1, none⟩ (.slice a10 n10 c10)).setCell ⟨w3.heap.size, 2, none⟩ (.int .i64 cP.2.2)).setCell ⟨w1.heap.size, 0, none⟩ (.bool false)).cell? ⟨w3.heap.size, 0, none⟩ = some (.bool false) := by go_simp
      have V1 : ((((w10.setCell ⟨w3.heap.size, 0, none⟩ (.bool false)).setCell ⟨w3.heap.size, 1, none⟩ (.slice a10 n10 c10)).setCell ⟨w3.heap.size, 2, none⟩ (.int .i64 cP.2.2)).setCell ⟨w1.heap.size, 0, none⟩ (.bool false)).cell? ⟨w3.heap.size, 1, none⟩ = some (.slice a10 n10 c10) := by go_simp
      have V2 : ((((w10.setCell ⟨w3.heap.size, 0, none⟩ (.bool false)).setCell ⟨w3.heap.size, 1, none⟩ (.slice a10 n10 c10)).setCell ⟨w3.heap.size, 2, none⟩ (.int .i64 cP.2.2)).setCell ⟨w1.heap.size, 0, none⟩ (.bool false)).cell? ⟨w3.heap.size, 2, none⟩ = some (.int .i64 cP.2.2) := by go_simp
      have L0 : ((((w10.setCell ⟨w3.heap.size, 0, none⟩ (.bool false)).setCell ⟨w3.heap.size, 1, none⟩ (.slice a10 n10 c10)).setCell ⟨w3.heap.size, 2, none⟩ (.int .i64 cP.2.2)).setCell ⟨w1.heap.size, 0, none⟩ (.bool false)).frozen? ⟨w3.heap.size, 0, none⟩ = false := by go_simp
      have L1 : ((((w10.setCell ⟨w3.heap.size, 0, none⟩ (.bool false)).setCell ⟨w3.heap.size, 1, none⟩ (.slice a10 n10 c10)).setCell ⟨w3.heap.size, 2, none⟩ (.int .i64 cP.2.2)).setCell ⟨w1.heap.size, 0, none⟩ (.bool false)).frozen? ⟨w3.heap.size, 1, none⟩ = false := by go_simp
      have L2 : ((((w10.setCell ⟨w3.heap.size, 0, none⟩ (.bool false)).setCell ⟨w3.heap.size, 1, none⟩ (.slice a10 n10 c10)).setCell ⟨w3.heap.size, 2, none⟩ (.int .i64 cP.2.2)).setCell ⟨w1.heap.size, 0, none⟩ (.bool false)).frozen? ⟨w3.heap.size, 2, none⟩ = false := by go_simp
      have HI1b : Hid _ := HI1.out.keep hC7
      clear hC10 hD10 hO10b
      go_wp2_with fail
      refine Calls.mono (sameQ (false, cP.2.1, cP.2.2) a10 n10 c10 a1 n1 c1 _ hO7.1 (by omega) (HI1.out.keep hC7) (by have := HNL1.out; omega)) ?_
      rintro r w11 ⟨rfl, b11⟩
      replace L0 := dcarry_frozen b11 V0 L0
      replace L1 := dcarry_frozen b11 V1 L1
      replace L2 := dcarry_frozen b11 V2 L2
      replace U0 := dcarry_cell b11 U0
      replace U1 := dcarry_cell b11 U1
      replace U2 := dcarry_cell b11 U2
      replace V0 := dcarry_cell b11 V0
      replace V1 := dcarry_cell b11 V1
      replace V2 := dcarry_cell b11 V2
      have hD11 := nbelow_trans hD7 b11
      have HZ11 : Hid (w3.heap.size + 1 ≤ w11.heap.size) := by rw [Hid]; have h1 := b11.size; have h2 := World.block_lt_of_cell? _ _ X0; simp at h1 h2; omega
      clear b11 hD7 hC7 hO7 HI1b D0 D1 D2 C0 C1 C2 X0 X1 X2 F0 G0 G1 G2
      go_wp2_with fail
      refine Calls.mono (HS.out _ (HH.out.keep hD11) (hT0.out _ hD11)) ?_
      rintro r w12 ⟨_, rfl, ⟨a12, n12, c12, rfl, HN12, hn12, hO12⟩, b12⟩
      replace L0 := dcarry_frozen b12 V0 L0
      replace L1 := dcarry_frozen b12 V1 L1
      replace L2 := dcarry_frozen b12 V2 L2
      replace U0 := dcarry_cell b12 U0
      replace U1 := dcarry_cell b12 U1
      replace U2 := dcarry_cell b12 U2
      replace V0 := dcarry_cell b12 V0
      replace V1 := dcarry_cell b12 V1
      replace V2 := dcarry_cell b12 V2
      have hD12 := nbelow_trans hD11 b12
      have hO12b : OwnW w11.heap.size (((w12.setCell ⟨w3.heap.size, 0, none⟩ (.bool sP.1)).setCell ⟨w3.heap.size, 1, none⟩ (.slice a12 n12 c12)).setCell ⟨w3.heap.size, 2, none⟩ (.int .i64 sP.2.2)) a12 n12 c12 (wordsOf sP.2.1) := ((hO12.far _ _ (show w3.heap.size < _ from HZ11.out)).far _ _ (show w3.heap.size < _ from HZ11.out)).far _ _ (show w3.heap.size < _ from HZ11.out)
      have hD12b : Below w.heap.size w (((w12.setCell ⟨w3.heap.size, 0, none⟩ (.bool sP.1)).setCell ⟨w3.heap.size, 1, none⟩ (.slice a12 n12 c12)).setCell ⟨w3.heap.size, 2, none⟩ (.int .i64 sP.2.2)) := ((hD12.setCell (show w.heap.size ≤ w3.heap.size by have := HZ3.out; have := HZ1.out; omega) _).setCell (show w.heap.size ≤ w3.heap.size by have := HZ3.out; have := HZ1.out; omega) _).setCell (show w.heap.size ≤ w3.heap.size by have := HZ3.out; have := HZ1.out; omega) _
      have M0 : (((w12.setCell ⟨w3.heap.size, 0, none⟩ (.bool sP.1)).setCell ⟨w3.heap.size, 1, none⟩ (.slice a12 n12 c12)).setCell ⟨w3.heap.size, 2, none⟩ (.int .i64 sP.2.2)).cell? ⟨w3.heap.size, 0, none⟩ = some (.bool sP.1) := by go_simp
      have M1 : (((w12.setCell ⟨w3.heap.size, 0, none⟩ (.bool sP.1)).setCell ⟨w3.heap.size, 1, none⟩ (.slice a12 n12 c12)).setCell ⟨w3.heap.size, 2, none⟩ (.int .i64 sP.2.2)).cell? ⟨w3.heap.size, 1, none⟩ = some (.slice a12 n12 c12) := by go_simp
      have M2 : (((w12.setCell ⟨w3.heap.size, 0, none⟩ (.bool sP.1)).setCell ⟨w3.heap.size, 1, none⟩ (.slice a12 n12 c12)).setCell ⟨w3.heap.size, 2, none⟩ (.int .i64 sP.2.2)).cell? ⟨w3.heap.size, 2, none⟩ = some (.int .i64 sP.2.2) := by go_simp
      clear hO12 hD12 hD11 b12
      go_wp2_with fail
      refine Calls.mono (HY.out _ (HH.out.keep hD12b)) ?_
      rintro r w13 ⟨_, rfl, ⟨a13, n13, c13, rfl, HN13, hO13⟩, b13⟩
      replace M0 := dcarry_cell b13 M0
      replace M1 := dcarry_cell b13 M1
      replace M2 := dcarry_cell b13 M2
      have HI12 : Hid (IsW w13 a12 n12 c12 (wordsOf sP.2.1)) := hO12b.1.keep b13
      have HI13 : Hid (IsW w13 a13 n13 c13 (wordsOf sP.2.1)) := hO13.1
      have hD13 := nbelow_trans hD12b b13
      have bA := below_one w13 (.cells #[.bool sP.1, .slice a13 n13 c13, .int .i64 sP.2.2] 25)
      replace M0 := dcarry_cell bA M0
      replace M1 := dcarry_cell bA M1
      replace M2 := dcarry_cell bA M2
      have hD14 := nbelow_trans hD13 bA
      clear hO12b hO13 b13 hD12b hD13 U0 U1 U2 V0 V1 V2 L0 L1 L2
      go_wp2_with fail
      refine Calls.mono (sameQ sP a12 n12 c12 a13 n13 c13 _ (HI12.out.keep bA) (by omega) (HI13.out.keep bA) (by have h1 := HN13.out; have h2 := HL2.out; omega)) ?_
      rintro r w15 ⟨rfl, b15⟩
      have hD15 := nbelow_trans hD14 b15
      clear b15 hD14 bA M0 M1 M2
      go_wp2_with fail
      refine Calls.mono (dyBegins_calls _ (hT0.out _ hD15)) ?_
      rintro r w16 ⟨rfl, b16⟩
      have hD16 := nbelow_trans hD15 b16
      go_wp2_with fail
      go_ret
      exact ⟨rfl, hD16⟩
  · have hnP := HNG.out
    rw [if_neg hE] at hnP
    subst hnP
    have q1 : (cE == 0) = false := by simpa using hE
    have q2 : (cE != 0) = true := by simpa using hE
    clear HNG HCN hE
    refine wp_region_any (by kernel_rfl) ?_
    change wpAny _ _ _ _ _ _ _ (World.drew _)
    refine wpAny_take (i := 0) (v := ?vb0) rfl (by kernel_rfl) (by kernel_rfl) (by kernel_rfl) (fun _ _ _ h => h) (Or.inl ⟨by rfl, ?yb0⟩) ?rb0
    case yb0 => (intro ww; go_simp; try with_reducible rfl)
    refine wpAny_take (i := 1) (v := ?vb1) rfl (by kernel_rfl) (by kernel_rfl) (by kernel_rfl) (fun _ _ _ h => h) (Or.inl ⟨by rfl, ?yb1⟩) ?rb1
    case yb1 => (intro ww; go_simp; try with_reducible rfl)
    refine wpAny_take (i := 2) (v := ?vb2) rfl (by kernel_rfl) (by kernel_rfl) (by kernel_rfl) (fun _ _ _ h => h) (Or.inl ⟨by rfl, ?yb2⟩) ?rb2
    case yb2 => (intro ww; go_simp; try with_reducible rfl)
    refine wpAny_take (i := 3) (v := ?vb3) rfl (by kernel_rfl) (by kernel_rfl) (by kernel_rfl) (fun _ _ _ h => h) (Or.inl ⟨by rfl, ?yb3⟩) ?rb3
    case yb3 => (intro ww; go_simp; try with_reducible rfl)
    refine wpAny_take (i := 4) (v := ?vb4) rfl (by kernel_rfl) (by kernel_rfl) (by kernel_rfl) (fun _ _ _ h => h) (Or.inl ⟨by rfl, ?yb4⟩) ?rb4
    case yb4 => (intro ww; go_simp; try with_reducible rfl)
    refine wpAny_take (i := 5) (v := ?vb5) rfl (by kernel_rfl) (by kernel_rfl) (by kernel_rfl) (fun _ _ _ h => h) (Or.inl ⟨by rfl, ?yb5⟩) ?rb5
    case yb5 => (intro ww; go_simp; try with_reducible rfl)
    refine wpAny_take (i := 6) (v := ?vb6) rfl (by kernel_rfl) (by kernel_rfl) (by kernel_rfl) (fun _ _ _ h => h) (Or.inl ⟨by rfl, ?yb6⟩) ?rb6
    case yb6 => (intro ww; go_simp; try with_reducible rfl)
    refine wpAny_ready (rs := [7, 8]) ?_ ?_ ?_; (focus kernel_rfl); (focus simp); refine AllReady.cons rfl (fun K hK => ?_) (AllReady.cons rfl (fun K hK => ?_) AllReady.nil)
    all_goals (go_simp; refine hK _ _ ?_; clear hK K)
    focus ((refine wpAny_ready (rs := [8]) ?_ ?_ ?_; (focus kernel_rfl); (focus simp); refine AllReady.cons rfl (fun K hK => ?_) AllReady.nil; go_simp; refine hK _ _ ?_; clear hK K); (refine wpAny_ready (rs := [9]) ?_ ?_ ?_; (focus kernel_rfl); (focus simp); refine AllReady.cons rfl (fun K hK => ?_) AllReady.nil; go_simp; refine hK _ _ ?_; clear hK K))
    rotate_left
    focus (refine wpAny_ready (rs := [7, 9]) ?_ ?_ ?_; (focus kernel_rfl); (focus simp); refine AllReady.cons rfl (fun K hK => ?_) (AllReady.cons rfl (fun K hK => ?_) AllReady.nil))
    focus (go_simp; refine hK _ _ ?_; clear hK K; (refine wpAny_ready (rs := [9]) ?_ ?_ ?_; (focus kernel_rfl); (focus simp); refine AllReady.cons rfl (fun K hK => ?_) AllReady.nil; go_simp; refine hK _ _ ?_; clear hK K))
    rotate_left
    focus (go_simp; refine hK _ _ ?_; clear hK K; (refine wpAny_ready (rs := [7]) ?_ ?_ ?_; (focus kernel_rfl); (focus simp); refine AllReady.cons rfl (fun K hK => ?_) AllReady.nil; go_simp; refine hK _ _ ?_; clear hK K))
    rotate_left
    all_goals (refine wpAny_ready (rs := [10]) ?_ ?_ ?_; (focus kernel_rfl); (focus simp); refine AllReady.cons rfl (fun K hK => ?_) AllReady.nil; go_simp; refine hK _ _ ?_; clear hK K)
    all_goals (refine wpAny_ready (rs := [11]) ?_ ?_ ?_; (focus kernel_rfl); (focus simp); refine AllReady.cons rfl (fun K hK => ?_) AllReady.nil; go_simp; refine hK _ _ ?_; clear hK K)
    all_goals (refine wpAny_ready (rs := [12]) ?_ ?_ ?_; (focus kernel_rfl); (focus simp); refine AllReady.cons rfl (fun K hK => ?_) AllReady.nil; go_simp; refine hK _ _ ?_; clear hK K)
    all_goals (refine wpAny_ready (rs := [13]) ?_ ?_ ?_; (focus kernel_rfl); (focus simp); refine AllReady.cons rfl (fun K hK => ?_) AllReady.nil; go_simp; refine hK _ _ ?_; clear hK K)
    all_goals (refine wpAny_ready (rs := [14]) ?_ ?_ ?_; (focus kernel_rfl); (focus simp); refine AllReady.cons rfl (fun K hK => ?_) AllReady.nil; go_simp; refine hK _ _ ?_; clear hK K)
    all_goals (refine wpAny_ready (rs := [15]) ?_ ?_ ?_; (focus kernel_rfl); (focus simp); refine AllReady.cons rfl (fun K hK => ?_) AllReady.nil; go_simp; refine hK _ _ ?_; clear hK K)
    all_goals (refine wpAny_ready (rs := [16]) ?_ ?_ ?_; (focus kernel_rfl); (focus simp); refine AllReady.cons rfl (fun K hK => ?_) AllReady.nil; go_simp; refine hK _ _ ?_; clear hK K)
    all_goals (refine wpAny_ready (rs := [17]) ?_ ?_ ?_; (focus kernel_rfl); (focus simp); refine AllReady.cons rfl (fun K hK => ?_) AllReady.nil; go_simp; refine hK _ _ ?_; clear hK K)
    all_goals (refine wpAny_ready (rs := [18, 19]) ?_ ?_ ?_; (focus kernel_rfl); (focus simp); refine AllReady.cons rfl (fun K hK => ?_) (AllReady.cons rfl (fun K hK => ?_) AllReady.nil))
    all_goals (go_simp; refine hK _ _ ?_; clear hK K)
    focus (refine wpAny_ready (rs := [19]) ?_ ?_ ?_; (focus kernel_rfl); (focus simp); refine AllReady.cons rfl (fun K hK => ?_) AllReady.nil; go_simp; refine hK _ _ ?_; clear hK K)
    rotate_left
    focus (refine wpAny_ready (rs := [18]) ?_ ?_ ?_; (focus kernel_rfl); (focus simp); refine AllReady.cons rfl (fun K hK => ?_) AllReady.nil; go_simp; refine hK _ _ ?_; clear hK K)
    rotate_left
    focus (refine wpAny_ready (rs := [19]) ?_ ?_ ?_; (focus kernel_rfl); (focus simp); refine AllReady.cons rfl (fun K hK => ?_) AllReady.nil; go_simp; refine hK _ _ ?_; clear hK K)
    rotate_left
    focus (refine wpAny_ready (rs := [18]) ?_ ?_ ?_; (focus kernel_rfl); (focus simp); refine AllReady.cons rfl (fun K hK => ?_) AllReady.nil; go_simp; refine hK _ _ ?_; clear hK K)
    rotate_left
    focus (refine wpAny_ready (rs := [19]) ?_ ?_ ?_; (focus kernel_rfl); (focus simp); refine AllReady.cons rfl (fun K hK => ?_) AllReady.nil; go_simp; refine hK _ _ ?_; clear hK K)
    rotate_left
    focus (refine wpAny_ready (rs := [18]) ?_ ?_ ?_; (focus kernel_rfl); (focus simp); refine AllReady.cons rfl (fun K hK => ?_) AllReady.nil; go_simp; refine hK _ _ ?_; clear hK K)
    rotate_left
    all_goals (refine wpAny_ready (rs := [20]) ?_ ?_ ?_; (focus kernel_rfl); (focus simp); refine AllReady.cons rfl (fun K hK => ?_) AllReady.nil; go_simp; go_wp2_with ((go_at_call 11; go_must (refine (sameQ (false, 0, 0) a3 n3 c3 none 0 0 _ (HI3.out.keep (nbelow_trans HB4.out.2.2 (by repeat (first | exact bR | refine Below.drew ?_)))) (by omega) (by show IsW _ none 0 0 (wordsOf 0); rw [words_zero]; exact isW_nil _) (by decide)).mono ?_; rintro r w9 ⟨rfl, b9⟩; replace bR := nbelow_trans (show Below w4.heap.size w4 _ from by repeat (first | exact bR | refine Below.drew ?_)) b9; replace C0 := dcarry_cell bR CH0.out; replace C1 := dcarry_cell bR CH1.out; replace C2 := dcarry_cell bR CH2.out; replace X0 := dcarry_cell bR XH0.out; replace X1 := dcarry_cell bR XH1.out; replace X2 := dcarry_cell bR XH2.out; clear b9))))
    all_goals (refine wpAny_ready (rs := [21]) ?_ ?_ ?_; (focus kernel_rfl); (focus simp); refine AllReady.cons rfl (fun K hK => ?_) AllReady.nil; go_simp; refine hK _ _ ?_; clear hK K)
    all_goals (refine wpAny_ready (rs := [22]) ?_ ?_ ?_; (focus kernel_rfl); (focus simp); refine AllReady.cons rfl (fun K hK => ?_) AllReady.nil; go_simp; refine hK _ _ ?_; clear hK K)
    all_goals (refine wpAny_ready (rs := [23]) ?_ ?_ ?_; (focus kernel_rfl); (focus simp); refine AllReady.cons rfl (fun K hK => ?_) AllReady.nil; go_simp; refine hK _ _ ?_; clear hK K)
    all_goals refine wpAny_done (by kernel_rfl) ?_ _
    all_goals
      obtain ⟨⟨D0, D1, D2⟩, F0, G0, G1, G2⟩ := PK.out
      obtain ⟨hDC, hCX, hDX⟩ := HNE.out
      replace F0 := dcarry_frozen bR CH0.out F0
      replace G0 := dcarry_frozen bR XH0.out G0
      replace G1 := dcarry_frozen bR XH1.out G1
      replace G2 := dcarry_frozen bR XH2.out G2
      replace D0 := dcarry_cell bR D0
      replace D1 := dcarry_cell bR D1
      replace D2 := dcarry_cell bR D2
      have hD9 := nbelow_trans HB4.out.1 bR
      have hC9 := nbelow_trans HB4.out.2.1 bR
      have HZ9 : Hid (w3.heap.size + 1 ≤ w9.heap.size) := Nat.le_trans HZ4.out bR.size
      have HZC : Hid (w1.heap.size + 1 ≤ w9.heap.size) := by rw [Hid]; have := HZ9.out; have := HZ3.out; omega
      clear bR
      go_wp2_with fail
      refine Calls.mono (HA.out _ (HH.out.keep hD9) (hT0.out _ hD9)) ?_
      rintro r w10 ⟨_, rfl, ⟨a10, n10, c10, rfl, HN10, hn10, hO10⟩, b10⟩
      replace F0 := dcarry_frozen b10 C0 F0
      replace G0 := dcarry_frozen b10 X0 G0
      replace G1 := dcarry_frozen b10 X1 G1
      replace G2 := dcarry_frozen b10 X2 G2
      replace D0 := dcarry_cell b10 D0
      replace D1 := dcarry_cell b10 D1
      replace D2 := dcarry_cell b10 D2
      replace C0 := dcarry_cell b10 C0
      replace C1 := dcarry_cell b10 C1
      replace C2 := dcarry_cell b10 C2
      replace X0 := dcarry_cell b10 X0
      replace X1 := dcarry_cell b10 X1
      replace X2 := dcarry_cell b10 X2
      have hD10 := nbelow_trans hD9 b10
      have hC10 := nbelow_trans hC9 b10
      have hO10b : OwnW w9.heap.size w10 a10 n10 c10 (wordsOf cP.2.1) := hO10
      clear b10 hO10 hD9 hC9
      have hO7 : OwnW w9.heap.size ((((w10.setCell ⟨w3.heap.size, 0, none⟩ (.bool false)).setCell ⟨w3.heap.size, 1, none⟩ (.slice a10 n10 c10)).setCell ⟨w3.heap.size, 2, none⟩ (.int .i64 cP.2.2)).setCell ⟨w1.heap.size, 0, none⟩ (.bool false)) a10 n10 c10 (wordsOf cP.2.1) := (((hO10b.far _ _ (show w3.heap.size < _ from HZ9.out)).far _ _ (show w3.heap.size < _ from HZ9.out)).far _ _ (show w3.heap.size < _ from HZ9.out)).far _ _ (show w1.heap.size < _ from HZC.out)
      have hC7 : Below w1.heap.size w1 ((((w10.setCell ⟨w3.heap.size, 0, none⟩ (.bool false)).setCell ⟨w3.heap.size, 1, none⟩ (.slice a10 n10 c10)).setCell ⟨w3.heap.size, 2, none⟩ (.int .i64 cP.2.2)).setCell ⟨w1.heap.size, 0, none⟩ (.bool false)) := (((hC10.setCell (show w1.heap.size ≤ w3.heap.size by have := HZ3.out; omega) _).setCell (show w1.heap.size ≤ w3.heap.size by have := HZ3.out; omega) _).setCell (show w1.heap.size ≤ w3.heap.size by have := HZ3.out; omega) _).setCell (show w1.heap.size ≤ w1.heap.size from Nat.le_refl _) _
      have hD7 : Below w.heap.size w ((((w10.setCell ⟨w3.heap.size, 0, none⟩ (.bool false)).setCell ⟨w3.heap.size, 1, none⟩ (.slice a10 n10 c10)).setCell ⟨w3.heap.size, 2, none⟩ (.int .i64 cP.2.2)).setCell ⟨w1.heap.size, 0, none⟩ (.bool false)) := (((hD10.setCell (show w.heap.size ≤ w3.heap.size by have := HZ3.out; have := HZ1.out; omega) _).setCell (show w.heap.size ≤ w3.heap.size by have := HZ3.out; have := HZ1.out; omega) _).setCell (show w.heap.size ≤ w3.heap.size by have := HZ3.out; have := HZ1.out; omega) _).setCell (show w.heap.size ≤ w1.heap.size by have := HZ1.out; omega) _
      have U0 : ((((w10.setCell ⟨w3.heap.size, 0, none⟩ (.bool false)).setCell ⟨w3.heap.size, 1, none⟩ (.slice a10 n10 c10)).setCell ⟨w3.heap.size, 2, none⟩ (.int .i64 cP.2.2)).setCell ⟨w1.heap.size, 0, none⟩ (.bool false)).cell? ⟨w.heap.size, 0, none⟩ = some (.bool s) := by go_simp
      have U1 : ((((w10.setCell ⟨w3.heap.size, 0, none⟩ (.bool false)).setCell ⟨w3.heap.size, 1, none⟩ (.slice a10 n10 c10)).setCell ⟨w3.heap.size, 2, none⟩ (.int .i64 cP.2.2)).setCell ⟨w1.heap.size, 0, none⟩ (.bool false)).cell? ⟨w.heap.size, 1, none⟩ = some (.slice a len cap) := by go_simp
      have U2 : ((((w10.setCell ⟨w3.heap.size, 0, none⟩ (.bool false)).setCell ⟨w3.heap.size, 1, none⟩ (.slice a10 n10 c10)).setCell ⟨w3.heap.size, 2, none⟩ (.int .i64 cP.2.2)).setCell ⟨w1.heap.size, 0, none⟩ (.bool false)).cell? ⟨w.heap.size, 2, none⟩ = some (.int .i64 e) := by go_simp
      have V0 : ((((w10.setCell ⟨w3.heap.size, 0, none⟩ (.bool false)).setCell ⟨w3.heap.size, 1, none⟩ (.slice a10 n10 c10)).setCell ⟨w3.heap.size, 2, none⟩ (.int .i64 cP.2.2)).setCell ⟨w1.heap.size, 0, none⟩ (.bool false)).cell? ⟨w3.heap.size, 0, none⟩ = some (.bool false) := by go_simp
      have V1 : ((((w10.setCell ⟨w3.heap.size, 0, none⟩ (.bool false)).setCell ⟨w3.heap.size, 1, none⟩ (.slice a10 n10 c10)).setCell ⟨w3.heap.size, 2, none⟩ (.int .i64 cP.2.2)).setCell ⟨w1.heap.size, 0, none⟩ (.bool false)).cell? ⟨w3.heap.size, 1, none⟩ = some (.slice a10 n10 c10) := by go_simp
      have V2 : ((((w10.setCell ⟨w3.heap.size, 0, none⟩ (.bool false)).setCell ⟨w3.heap.size, 1, none⟩ (.slice a10 n10 c10)).setCell ⟨w3.heap.size, 2, none⟩ (.int .i64 cP.2.2)).setCell ⟨w1.heap.size, 0, none⟩ (.bool false)).cell? ⟨w3.heap.size, 2, none⟩ = some (.int .i64 cP.2.2) := by go_simp
      have L0 : ((((w10.setCell ⟨w3.heap.size, 0, none⟩ (.bool false)).setCell ⟨w3.heap.size, 1, none⟩ (.slice a10 n10 c10)).setCell ⟨w3.heap.size, 2, none⟩ (.int .i64 cP.2.2)).setCell ⟨w1.heap.size, 0, none⟩ (.bool false)).frozen? ⟨w3.heap.size, 0, none⟩ = false := by go_simp
      have L1 : ((((w10.setCell ⟨w3.heap.size, 0, none⟩ (.bool false)).setCell ⟨w3.heap.size, 1, none⟩ (.slice a10 n10 c10)).setCell ⟨w3.heap.size, 2, none⟩ (.int .i64 cP.2.2)).setCell ⟨w1.heap.size, 0, none⟩ (.bool false)).frozen? ⟨w3.heap.size, 1, none⟩ = false := by go_simp
      have L2 : ((((w10.setCell ⟨w3.heap.size, 0, none⟩ (.bool false)).setCell ⟨w3.heap.size, 1, none⟩ (.slice a10 n10 c10)).setCell ⟨w3.heap.size, 2, none⟩ (.int .i64 cP.2.2)).setCell ⟨w1.heap.size, 0, none⟩ (.bool false)).frozen? ⟨w3.heap.size, 2, none⟩ = false := by go_simp
      have HI1b : Hid _ := HI1.out.keep hC7
      clear hC10 hD10 hO10b
      go_wp2_with fail
      refine Calls.mono (sameQ (false, cP.2.1, cP.2.2) a10 n10 c10 a1 n1 c1 _ hO7.1 (by omega) (HI1.out.keep hC7) (by have := HNL1.out; omega)) ?_
      rintro r w11 ⟨rfl, b11⟩
      replace L0 := dcarry_frozen b11 V0 L0
      replace L1 := dcarry_frozen b11 V1 L1
      replace L2 := dcarry_frozen b11 V2 L2
      replace U0 := dcarry_cell b11 U0
      replace U1 := dcarry_cell b11 U1
      replace U2 := dcarry_cell b11 U2
      replace V0 := dcarry_cell b11 V0
      replace V1 := dcarry_cell b11 V1
      replace V2 := dcarry_cell b11 V2
      have hD11 := nbelow_trans hD7 b11
      have HZ11 : Hid (w3.heap.size + 1 ≤ w11.heap.size) := by rw [Hid]; have h1 := b11.size; have h2 := World.block_lt_of_cell? _ _ X0; simp at h1 h2; omega
      clear b11 hD7 hC7 hO7 HI1b D0 D1 D2 C0 C1 C2 X0 X1 X2 F0 G0 G1 G2
      go_wp2_with fail
      refine Calls.mono (HS.out _ (HH.out.keep hD11) (hT0.out _ hD11)) ?_
      rintro r w12 ⟨_, rfl, ⟨a12, n12, c12, rfl, HN12, hn12, hO12⟩, b12⟩
      replace L0 := dcarry_frozen b12 V0 L0
      replace L1 := dcarry_frozen b12 V1 L1
      replace L2 := dcarry_frozen b12 V2 L2
      replace U0 := dcarry_cell b12 U0
      replace U1 := dcarry_cell b12 U1
      replace U2 := dcarry_cell b12 U2
      replace V0 := dcarry_cell b12 V0
      replace V1 := dcarry_cell b12 V1
      replace V2 := dcarry_cell b12 V2
      have hD12 := nbelow_trans hD11 b12
      have hO12b : OwnW w11.heap.size (((w12.setCell ⟨w3.heap.size, 0, none⟩ (.bool sP.1)).setCell ⟨w3.heap.size, 1, none⟩ (.slice a12 n12 c12)).setCell ⟨w3.heap.size, 2, none⟩ (.int .i64 sP.2.2)) a12 n12 c12 (wordsOf sP.2.1) := ((hO12.far _ _ (show w3.heap.size < _ from HZ11.out)).far _ _ (show w3.heap.size < _ from HZ11.out)).far _ _ (show w3.heap.size < _ from HZ11.out)
      have hD12b : Below w.heap.size w (((w12.setCell ⟨w3.heap.size, 0, none⟩ (.bool sP.1)).setCell ⟨w3.heap.size, 1, none⟩ (.slice a12 n12 c12)).setCell ⟨w3.heap.size, 2, none⟩ (.int .i64 sP.2.2)) := ((hD12.setCell (show w.heap.size ≤ w3.heap.size by have := HZ3.out; have := HZ1.out; omega) _).setCell (show w.heap.size ≤ w3.heap.size by have := HZ3.out; have := HZ1.out; omega) _).setCell (show w.heap.size ≤ w3.heap.size by have := HZ3.out; have := HZ1.out; omega) _
      have M0 : (((w12.setCell ⟨w3.heap.size, 0, none⟩ (.bool sP.1)).setCell ⟨w3.heap.size, 1, none⟩ (.slice a12 n12 c12)).setCell ⟨w3.heap.size, 2, none⟩ (.int .i64 sP.2.2)).cell? ⟨w3.heap.size, 0, none⟩ = some (.bool sP.1) := by go_simp
      have M1 : (((w12.setCell ⟨w3.heap.size, 0, none⟩ (.bool sP.1)).setCell ⟨w3.heap.size, 1, none⟩ (.slice a12 n12 c12)).setCell ⟨w3.heap.size, 2, none⟩ (.int .i64 sP.2.2)).cell? ⟨w3.heap.size, 1, none⟩ = some (.slice a12 n12 c12) := by go_simp
      have M2 : (((w12.setCell ⟨w3.heap.size, 0, none⟩ (.bool sP.1)).setCell ⟨w3.heap.size, 1, none⟩ (.slice a12 n12 c12)).setCell ⟨w3.heap.size, 2, none⟩ (.int .i64 sP.2.2)).cell? ⟨w3.heap.size, 2, none⟩ = some (.int .i64 sP.2.2) := by go_simp
      clear hO12 hD12 hD11 b12
      go_wp2_with fail
      refine Calls.mono (HY.out _ (HH.out.keep hD12b)) ?_
      rintro r w13 ⟨_, rfl, ⟨a13, n13, c13, rfl, HN13, hO13⟩, b13⟩
      replace M0 := dcarry_cell b13 M0
      replace M1 := dcarry_cell b13 M1
      replace M2 := dcarry_cell b13 M2
      have HI12 : Hid (IsW w13 a12 n12 c12 (wordsOf sP.2.1)) := hO12b.1.keep b13
      have HI13 : Hid (IsW w13 a13 n13 c13 (wordsOf sP.2.1)) := hO13.1
      have hD13 := nbelow_trans hD12b b13
      have bA := below_one w13 (.cells #[.bool sP.1, .slice a13 n13 c13, .int .i64 sP.2.2] 25)
      replace M0 := dcarry_cell bA M0
      replace M1 := dcarry_cell bA M1
      replace M2 := dcarry_cell bA M2
      have hD14 := nbelow_trans hD13 bA
      clear hO12b hO13 b13 hD12b hD13 U0 U1 U2 V0 V1 V2 L0 L1 L2
      go_wp2_with fail
      refine Calls.mono (sameQ sP a12 n12 c12 a13 n13 c13 _ (HI12.out.keep bA) (by omega) (HI13.out.keep bA) (by have h1 := HN13.out; have h2 := HL2.out; omega)) ?_
      rintro r w15 ⟨rfl, b15⟩
      have hD15 := nbelow_trans hD14 b15
      clear b15 hD14 bA M0 M1 M2
      go_wp2_with fail
      refine Calls.mono (dyBegins_calls _ (hT0.out _ hD15)) ?_
      rintro r w16 ⟨rfl, b16⟩
      have hD16 := nbelow_trans hD15 b16
      go_wp2_with fail
      go_ret
      exact ⟨rfl, hD16⟩
end Go.Proofs.YtcoeaanhjclgbaaDoor

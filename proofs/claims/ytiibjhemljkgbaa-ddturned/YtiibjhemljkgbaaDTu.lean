/- The statement DdTurned. -/
import Derived.Test.YtiibjhemljkgbaaDT2
import Derived.Test.YtiibjhemljkgbaaETa
import Derived.Deep.RegionHeld3
import Derived.Deep.RegionWith
import Derived.Deep.CutRange
namespace Go.Proofs.Ytiibjhemljkgbaa.Fp
open Go.RowKit EP
attribute [local go_sem] ran_store

theorem lex_neg (h l h' l' : Nat) (hh : h < 18446744073709551616) (hl : l < 18446744073709551616) (hh' : h' < 18446744073709551616) (hl' : l' < 18446744073709551616) : lexI (Op.negFloat .f64 h) (Op.negFloat .f64 l) (Op.negFloat .f64 h') (Op.negFloat .f64 l') = - lexI h l h' l' := by
  unfold lexI
  rw [(neg_V h hh).1, (neg_V l hl).1, (neg_V h' hh').1, (neg_V l' hl').1]
  have c : ∀ x y : Int, Lib.compareInt (-x) (-y) = - Lib.compareInt x y := fun x y => by
    unfold Lib.compareInt
    rcases Int.lt_trichotomy x y with k | k | k
    · rw [if_neg (by omega), if_pos (by omega), if_pos k]; rfl
    · rw [if_neg (by omega), if_neg (by omega), if_neg (by omega), if_neg (by omega)]; rfl
    · rw [if_pos (by omega), if_neg (by omega), if_pos k]
  rw [c, c]
  by_cases z : Lib.compareInt (V h) (V h') = 0
  · rw [if_neg (by omega), if_neg (by omega)]
  · rw [if_pos (by omega), if_pos z]

theorem add_good (xh xl yh yl s t : Nat) (hx : xh < 18446744073709551616) (hy : yh < 18446744073709551616) (r1 : rightP xh xl = true) (r2 : rightP yh yl = true) (e : sumP xh xl yh yl = some (s, t)) (w : World) :
    Calls Try.prog 6 #[.agg #[.float .f64 xh, .float .f64 xl], .agg #[.float .f64 yh, .float .f64 yl]] w fun r w' => r = .returned (.tuple #[.agg #[.float .f64 s, .float .f64 t], .int .i64 0]) ∧ Below w.heap.size w w' := by
  refine (dAdd_calls xh xl yh yl w hx hy).mono ?_
  rw [r1, r2]
  rintro r w' ⟨s', t', rfl, hb, H1, -⟩
  obtain ⟨rfl, rfl⟩ := H1 rfl _ e
  exact ⟨rfl, hb⟩
theorem mul_good (xh xl yh yl s t : Nat) (hx : xh < 18446744073709551616) (hy : yh < 18446744073709551616) (r1 : rightP xh xl = true) (r2 : rightP yh yl = true) (e : prodP xh xl yh yl = some (s, t)) (w : World) :
    Calls Try.prog 7 #[.agg #[.float .f64 xh, .float .f64 xl], .agg #[.float .f64 yh, .float .f64 yl]] w fun r w' => r = .returned (.tuple #[.agg #[.float .f64 s, .float .f64 t], .int .i64 0]) ∧ Below w.heap.size w w' := by
  refine (dMul_calls xh xl yh yl w hx hy).mono ?_
  rw [r1, r2]
  rintro r w' ⟨s', t', rfl, hb, H1, -⟩
  obtain ⟨rfl, rfl⟩ := H1 rfl _ e
  exact ⟨rfl, hb⟩
theorem sub_good (xh xl yh yl s t : Nat) (hx : xh < 18446744073709551616) (hy : yh < 18446744073709551616) (r1 : rightP xh xl = true) (r2 : rightP yh yl = true) (e : diffP xh xl yh yl = some (s, t)) (w : World) :
    Calls Try.prog 9 #[.agg #[.float .f64 xh, .float .f64 xl], .agg #[.float .f64 yh, .float .f64 yl]] w fun r w' => r = .returned (.tuple #[.agg #[.float .f64 s, .float .f64 t], .int .i64 0]) ∧ Below w.heap.size w w' := by
  refine (dSub_calls xh xl yh yl w hx hy).mono ?_
  rw [r1, r2]
  rintro r w' ⟨s', t', rfl, hb, H1, -⟩
  obtain ⟨rfl, rfl⟩ := H1 rfl _ e
  exact ⟨rfl, hb⟩
theorem lex_small (h l h' l' : Nat) : -1 ≤ lexI h l h' l' ∧ lexI h l h' l' ≤ 1 := by
  unfold lexI Lib.compareInt
  repeat' split
  all_goals omega

theorem wrap_small (c : Int) (h : -1 ≤ c ∧ c ≤ 1) : IntKind.i64.wrap c = c := by
  have : c = -1 ∨ c = 0 ∨ c = 1 := by omega
  rcases this with e | e | e <;> (rw [e]; decide)

set_option maxRecDepth 100000 in
set_option maxHeartbeats 8000000 in
theorem turn_x (h l h' l' : Nat) (w : World) (hh : h < 18446744073709551616) (_hl : l < 18446744073709551616) (_hh' : h' < 18446744073709551616) (_hl' : l' < 18446744073709551616) (ra : rightP h l = false) :
    Calls Try.prog 3 #[.agg #[.float .f64 h, .float .f64 l], .agg #[.float .f64 h', .float .f64 l']] w fun r w' => r = .returned (.bool true) ∧ Below w.heap.size w w' := by
  have HR : Hid _ := fun w => dRight_calls h l w hh
  rw [ra] at HR
  clear hh _hl _hh' _hl' ra
  have bw : Below w.heap.size w ((w.alloc (.cells #[.float .f64 h, .float .f64 l] 24)).alloc (.cells #[.float .f64 h', .float .f64 l'] 24)) := ebelow_trans (below_alloc1 _ _) (below_alloc1 _ _)
  have a0 : ((w.alloc (.cells #[.float .f64 h, .float .f64 l] 24)).alloc (.cells #[.float .f64 h', .float .f64 l'] 24)).cell? ⟨w.heap.size, 0, none⟩ = some (.float .f64 h) := by go_simp
  have a1 : ((w.alloc (.cells #[.float .f64 h, .float .f64 l] 24)).alloc (.cells #[.float .f64 h', .float .f64 l'] 24)).cell? ⟨w.heap.size, 1, none⟩ = some (.float .f64 l) := by go_simp
  have b0 : ((w.alloc (.cells #[.float .f64 h, .float .f64 l] 24)).alloc (.cells #[.float .f64 h', .float .f64 l'] 24)).cell? ⟨w.heap.size + 1, 0, none⟩ = some (.float .f64 h') := by go_simp
  have b1 : ((w.alloc (.cells #[.float .f64 h, .float .f64 l] 24)).alloc (.cells #[.float .f64 h', .float .f64 l'] 24)).cell? ⟨w.heap.size + 1, 1, none⟩ = some (.float .f64 l') := by go_simp
  go_enter Try.func3, Try.ntmps3
  go_wp2_with fail
  generalize ((w.alloc (.cells #[.float .f64 h, .float .f64 l] 24)).alloc (.cells #[.float .f64 h', .float .f64 l'] 24)) = w0 at *
  refine Calls.mono (dBegins_calls _) ?_
  rintro r w1 ⟨rfl, bN⟩
  replace a0 := pcarry bN a0
  replace a1 := pcarry bN a1
  replace b0 := pcarry bN b0
  replace b1 := pcarry bN b1
  replace bw := ebelow_trans bw bN
  clear bN
  go_wp2_with fail
  refine Calls.mono (HR.out _) ?_
  rintro r w2 ⟨rfl, bN⟩
  replace a0 := pcarry bN a0
  replace a1 := pcarry bN a1
  replace b0 := pcarry bN b0
  replace b1 := pcarry bN b1
  replace bw := ebelow_trans bw bN
  clear bN
  go_wp2_with fail
  go_ret
  exact ⟨rfl, bw⟩

set_option maxRecDepth 100000 in
set_option maxHeartbeats 8000000 in
theorem turn_y (h l h' l' : Nat) (w : World) (hh : h < 18446744073709551616) (_hl : l < 18446744073709551616) (hh' : h' < 18446744073709551616) (_hl' : l' < 18446744073709551616) (ra : rightP h l = true) (rb : rightP h' l' = false) :
    Calls Try.prog 3 #[.agg #[.float .f64 h, .float .f64 l], .agg #[.float .f64 h', .float .f64 l']] w fun r w' => r = .returned (.bool true) ∧ Below w.heap.size w w' := by
  have HR : Hid _ := fun w => dRight_calls h l w hh
  rw [ra] at HR
  have HS : Hid _ := fun w => dRight_calls h' l' w hh'
  rw [rb] at HS
  clear hh _hl hh' _hl' ra rb
  have bw : Below w.heap.size w ((w.alloc (.cells #[.float .f64 h, .float .f64 l] 24)).alloc (.cells #[.float .f64 h', .float .f64 l'] 24)) := ebelow_trans (below_alloc1 _ _) (below_alloc1 _ _)
  have a0 : ((w.alloc (.cells #[.float .f64 h, .float .f64 l] 24)).alloc (.cells #[.float .f64 h', .float .f64 l'] 24)).cell? ⟨w.heap.size, 0, none⟩ = some (.float .f64 h) := by go_simp
  have a1 : ((w.alloc (.cells #[.float .f64 h, .float .f64 l] 24)).alloc (.cells #[.float .f64 h', .float .f64 l'] 24)).cell? ⟨w.heap.size, 1, none⟩ = some (.float .f64 l) := by go_simp
  have b0 : ((w.alloc (.cells #[.float .f64 h, .float .f64 l] 24)).alloc (.cells #[.float .f64 h', .float .f64 l'] 24)).cell? ⟨w.heap.size + 1, 0, none⟩ = some (.float .f64 h') := by go_simp
  have b1 : ((w.alloc (.cells #[.float .f64 h, .float .f64 l] 24)).alloc (.cells #[.float .f64 h', .float .f64 l'] 24)).cell? ⟨w.heap.size + 1, 1, none⟩ = some (.float .f64 l') := by go_simp
  go_enter Try.func3, Try.ntmps3
  go_wp2_with fail
  generalize ((w.alloc (.cells #[.float .f64 h, .float .f64 l] 24)).alloc (.cells #[.float .f64 h', .float .f64 l'] 24)) = w0 at *
  refine Calls.mono (dBegins_calls _) ?_
  rintro r w1 ⟨rfl, bN⟩
  replace a0 := pcarry bN a0
  replace a1 := pcarry bN a1
  replace b0 := pcarry bN b0
  replace b1 := pcarry bN b1
  replace bw := ebelow_trans bw bN
  clear bN
  go_wp2_with fail
  refine Calls.mono (HR.out _) ?_
  rintro r w2 ⟨rfl, bN⟩
  replace a0 := pcarry bN a0
  replace a1 := pcarry bN a1
  replace b0 := pcarry bN b0
  replace b1 := pcarry bN b1
  replace bw := ebelow_trans bw bN
  clear bN
  go_wp2_with fail
  refine Calls.mono (HS.out _) ?_
  rintro r w3 ⟨rfl, bN⟩
  replace bw := ebelow_trans bw bN
  clear bN
  go_wp2_with fail
  go_ret
  exact ⟨rfl, bw⟩

set_option maxRecDepth 100000 in
set_option maxHeartbeats 8000000 in
theorem turn_z (h l h' l' : Nat) (w : World) (hh : h < 18446744073709551616) (hl : l < 18446744073709551616) (hh' : h' < 18446744073709551616) (hl' : l' < 18446744073709551616) (ra : rightP h l = true) (rb : rightP h' l' = true) :
    Calls Try.prog 3 #[.agg #[.float .f64 h, .float .f64 l], .agg #[.float .f64 h', .float .f64 l']] w fun r w' => r = .returned (.bool true) ∧ Below w.heap.size w w' := by
  have HR : Hid _ := fun w => dRight_calls h l w hh
  rw [ra] at HR
  have HS : Hid _ := fun w => dRight_calls h' l' w hh'
  rw [rb] at HS
  obtain ⟨s1, s2, t1, t2, u1, u2, z1, z2, e1, e2, e3, e4, q1, q2, q3, q4, q5, q6⟩ := turned_sum h l h' l' hh hl hh' hl' ra rb
  obtain ⟨p1, p2, g1, g2, v1, v2, e5, e6, e7, q7, q8, q9, q10⟩ := turned_prod h l h' l' hh hl ra rb
  have na := right_neg h l hh hl ra
  have nb := right_neg h' l' hh' hl' rb
  have lh := (neg_V h hh).2.2
  have ll := (neg_V l hl).2.2
  have lh' := (neg_V h' hh').2.2
  have H1 : Hid _ := fun w => add_good h l h' l' s1 s2 hh hh' ra rb e1 w
  have H2 : Hid _ := fun w => add_good h' l' h l t1 t2 hh' hh rb ra e2 w
  have H3 : Hid _ := fun w => mul_good h l h' l' p1 p2 hh hh' ra rb e5 w
  have H4 : Hid _ := fun w => mul_good h' l' h l g1 g2 hh' hh rb ra e6 w
  have H5 : Hid _ := fun w => dneg_good h l w hh ra
  have H6 : Hid _ := fun w => dneg_good h' l' w hh' rb
  have H7 : Hid _ := fun w => add_good (ngF h) (ngF l) (ngF h') (ngF l') u1 u2 lh lh' na nb e3 w
  have H8 : Hid _ := fun w => mul_good (ngF h) (ngF l) h' l' v1 v2 lh hh' na rb e7 w
  have H9 : Hid _ := fun w => sub_good h l h l z1 z2 hh hh ra ra e4 w
  have HA : Hid _ := fun w => dcmp_good h l h' l' w hh hh' ra rb
  have HB : Hid _ := fun w => dcmp_good (ngF h) (ngF l) (ngF h') (ngF l') w lh lh' na nb
  have hn : lexI (ngF h) (ngF l) (ngF h') (ngF l') = - lexI h l h' l' := lex_neg h l h' l' hh hl hh' hl'
  rw [hn] at HB
  have hsm := lex_small h l h' l'
  generalize lexI h l h' l' = c at *
  have hc : IntKind.i64.wrap c = c := wrap_small c hsm
  have Q1 : Hid _ := fun w => rSame_yes s1 s2 t1 t2 w q1 q2
  have Q2 : Hid _ := fun w => rSame_yes p1 p2 g1 g2 w q7 q8
  have Q3 : Hid _ := fun w => rless_calls s1 s2 w
  have Q4 : Hid _ := fun w => rSame_yes u1 u2 (ngF s1) (ngF s2) w q3 q4
  have Q5 : Hid _ := fun w => rless_calls p1 p2 w
  have Q6 : Hid _ := fun w => rSame_yes v1 v2 (ngF p1) (ngF p2) w q9 q10
  have Q7 : Hid _ := fun w => rSame_yes z1 z2 0 0 w q5 q6
  clear e1 e2 e3 e4 e5 e6 e7 q1 q2 q3 q4 q5 q6 q7 q8 q9 q10 na nb lh ll lh' hn hsm ra rb hh hl hh' hl'
  generalize ngF h = nh at *
  generalize ngF l = nl at *
  generalize ngF h' = nh' at *
  generalize ngF l' = nl' at *
  generalize ngF s1 = ns1 at *
  generalize ngF s2 = ns2 at *
  generalize ngF p1 = np1 at *
  generalize ngF p2 = np2 at *
  have bw : Below w.heap.size w ((w.alloc (.cells #[.float .f64 h, .float .f64 l] 24)).alloc (.cells #[.float .f64 h', .float .f64 l'] 24)) := ebelow_trans (below_alloc1 _ _) (below_alloc1 _ _)
  have a0 : ((w.alloc (.cells #[.float .f64 h, .float .f64 l] 24)).alloc (.cells #[.float .f64 h', .float .f64 l'] 24)).cell? ⟨w.heap.size, 0, none⟩ = some (.float .f64 h) := by go_simp
  have a1 : ((w.alloc (.cells #[.float .f64 h, .float .f64 l] 24)).alloc (.cells #[.float .f64 h', .float .f64 l'] 24)).cell? ⟨w.heap.size, 1, none⟩ = some (.float .f64 l) := by go_simp
  have b0 : ((w.alloc (.cells #[.float .f64 h, .float .f64 l] 24)).alloc (.cells #[.float .f64 h', .float .f64 l'] 24)).cell? ⟨w.heap.size + 1, 0, none⟩ = some (.float .f64 h') := by go_simp
  have b1 : ((w.alloc (.cells #[.float .f64 h, .float .f64 l] 24)).alloc (.cells #[.float .f64 h', .float .f64 l'] 24)).cell? ⟨w.heap.size + 1, 1, none⟩ = some (.float .f64 l') := by go_simp
  go_enter Try.func3, Try.ntmps3
  go_wp2_with fail
  generalize ((w.alloc (.cells #[.float .f64 h, .float .f64 l] 24)).alloc (.cells #[.float .f64 h', .float .f64 l'] 24)) = w0 at *
  refine Calls.mono (dBegins_calls _) ?_
  rintro r w1 ⟨rfl, bN⟩
  replace a0 := pcarry bN a0
  replace a1 := pcarry bN a1
  replace b0 := pcarry bN b0
  replace b1 := pcarry bN b1
  replace bw := ebelow_trans bw bN
  clear bN
  go_wp2_with fail
  refine Calls.mono (HR.out _) ?_
  rintro r w2 ⟨rfl, bN⟩
  replace a0 := pcarry bN a0
  replace a1 := pcarry bN a1
  replace b0 := pcarry bN b0
  replace b1 := pcarry bN b1
  replace bw := ebelow_trans bw bN
  clear bN
  go_wp2_with fail
  refine Calls.mono (HS.out _) ?_
  rintro r w3 ⟨rfl, bN⟩
  replace a0 := pcarry bN a0
  replace a1 := pcarry bN a1
  replace b0 := pcarry bN b0
  replace b1 := pcarry bN b1
  replace bw := ebelow_trans bw bN
  clear bN
  go_wp2_with fail
  refine Calls.mono (H1.out _) ?_
  rintro r w4 ⟨rfl, bN⟩
  replace a0 := pcarry bN a0
  replace a1 := pcarry bN a1
  replace b0 := pcarry bN b0
  replace b1 := pcarry bN b1
  replace bw := ebelow_trans bw bN
  clear bN
  have bA := below_alloc1 w4 (.cells #[.float .f64 s1, .float .f64 s2] 24)
  replace a0 := pcarry bA a0
  replace a1 := pcarry bA a1
  replace b0 := pcarry bA b0
  replace b1 := pcarry bA b1
  replace bw := ebelow_trans bw bA
  clear bA
  have sc0 : (w4.alloc (.cells #[.float .f64 s1, .float .f64 s2] 24)).cell? ⟨w4.heap.size, 0, none⟩ = some (.float .f64 s1) := by go_simp
  have sc1 : (w4.alloc (.cells #[.float .f64 s1, .float .f64 s2] 24)).cell? ⟨w4.heap.size, 1, none⟩ = some (.float .f64 s2) := by go_simp
  go_wp2_with fail
  generalize (w4.alloc (.cells #[.float .f64 s1, .float .f64 s2] 24)) = w5 at *
  refine Calls.mono (H2.out _) ?_
  rintro r w6 ⟨rfl, bN⟩
  replace a0 := pcarry bN a0
  replace a1 := pcarry bN a1
  replace b0 := pcarry bN b0
  replace b1 := pcarry bN b1
  replace sc0 := pcarry bN sc0
  replace sc1 := pcarry bN sc1
  replace bw := ebelow_trans bw bN
  clear bN
  have bA := below_alloc1 w6 (.cells #[.float .f64 t1, .float .f64 t2] 24)
  replace a0 := pcarry bA a0
  replace a1 := pcarry bA a1
  replace b0 := pcarry bA b0
  replace b1 := pcarry bA b1
  replace sc0 := pcarry bA sc0
  replace sc1 := pcarry bA sc1
  replace bw := ebelow_trans bw bA
  clear bA
  have tc0 : (w6.alloc (.cells #[.float .f64 t1, .float .f64 t2] 24)).cell? ⟨w6.heap.size, 0, none⟩ = some (.float .f64 t1) := by go_simp
  have tc1 : (w6.alloc (.cells #[.float .f64 t1, .float .f64 t2] 24)).cell? ⟨w6.heap.size, 1, none⟩ = some (.float .f64 t2) := by go_simp
  go_wp2_with fail
  generalize (w6.alloc (.cells #[.float .f64 t1, .float .f64 t2] 24)) = w7 at *
  refine Calls.mono (H3.out _) ?_
  rintro r w8 ⟨rfl, bN⟩
  replace a0 := pcarry bN a0
  replace a1 := pcarry bN a1
  replace b0 := pcarry bN b0
  replace b1 := pcarry bN b1
  replace sc0 := pcarry bN sc0
  replace sc1 := pcarry bN sc1
  replace tc0 := pcarry bN tc0
  replace tc1 := pcarry bN tc1
  replace bw := ebelow_trans bw bN
  clear bN
  have bA := below_alloc1 w8 (.cells #[.float .f64 p1, .float .f64 p2] 24)
  replace a0 := pcarry bA a0
  replace a1 := pcarry bA a1
  replace b0 := pcarry bA b0
  replace b1 := pcarry bA b1
  replace sc0 := pcarry bA sc0
  replace sc1 := pcarry bA sc1
  replace tc0 := pcarry bA tc0
  replace tc1 := pcarry bA tc1
  replace bw := ebelow_trans bw bA
  clear bA
  have pc0 : (w8.alloc (.cells #[.float .f64 p1, .float .f64 p2] 24)).cell? ⟨w8.heap.size, 0, none⟩ = some (.float .f64 p1) := by go_simp
  have pc1 : (w8.alloc (.cells #[.float .f64 p1, .float .f64 p2] 24)).cell? ⟨w8.heap.size, 1, none⟩ = some (.float .f64 p2) := by go_simp
  go_wp2_with fail
  generalize (w8.alloc (.cells #[.float .f64 p1, .float .f64 p2] 24)) = w9 at *
  refine Calls.mono (H4.out _) ?_
  rintro r w10 ⟨rfl, bN⟩
  replace a0 := pcarry bN a0
  replace a1 := pcarry bN a1
  replace b0 := pcarry bN b0
  replace b1 := pcarry bN b1
  replace sc0 := pcarry bN sc0
  replace sc1 := pcarry bN sc1
  replace tc0 := pcarry bN tc0
  replace tc1 := pcarry bN tc1
  replace pc0 := pcarry bN pc0
  replace pc1 := pcarry bN pc1
  replace bw := ebelow_trans bw bN
  clear bN
  have bA := below_alloc1 w10 (.cells #[.float .f64 g1, .float .f64 g2] 24)
  replace a0 := pcarry bA a0
  replace a1 := pcarry bA a1
  replace b0 := pcarry bA b0
  replace b1 := pcarry bA b1
  replace sc0 := pcarry bA sc0
  replace sc1 := pcarry bA sc1
  replace tc0 := pcarry bA tc0
  replace tc1 := pcarry bA tc1
  replace pc0 := pcarry bA pc0
  replace pc1 := pcarry bA pc1
  replace bw := ebelow_trans bw bA
  clear bA
  have gc0 : (w10.alloc (.cells #[.float .f64 g1, .float .f64 g2] 24)).cell? ⟨w10.heap.size, 0, none⟩ = some (.float .f64 g1) := by go_simp
  have gc1 : (w10.alloc (.cells #[.float .f64 g1, .float .f64 g2] 24)).cell? ⟨w10.heap.size, 1, none⟩ = some (.float .f64 g2) := by go_simp
  go_wp2_with fail
  generalize (w10.alloc (.cells #[.float .f64 g1, .float .f64 g2] 24)) = w11 at *
  refine Calls.mono (H5.out _) ?_
  rintro r w12 ⟨rfl, bN⟩
  replace a0 := pcarry bN a0
  replace a1 := pcarry bN a1
  replace b0 := pcarry bN b0
  replace b1 := pcarry bN b1
  replace sc0 := pcarry bN sc0
  replace sc1 := pcarry bN sc1
  replace tc0 := pcarry bN tc0
  replace tc1 := pcarry bN tc1
  replace pc0 := pcarry bN pc0
  replace pc1 := pcarry bN pc1
  replace gc0 := pcarry bN gc0
  replace gc1 := pcarry bN gc1
  replace bw := ebelow_trans bw bN
  clear bN
  have bA := below_alloc1 w12 (.cells #[.float .f64 nh, .float .f64 nl] 24)
  replace a0 := pcarry bA a0
  replace a1 := pcarry bA a1
  replace b0 := pcarry bA b0
  replace b1 := pcarry bA b1
  replace sc0 := pcarry bA sc0
  replace sc1 := pcarry bA sc1
  replace tc0 := pcarry bA tc0
  replace tc1 := pcarry bA tc1
  replace pc0 := pcarry bA pc0
  replace pc1 := pcarry bA pc1
  replace gc0 := pcarry bA gc0
  replace gc1 := pcarry bA gc1
  replace bw := ebelow_trans bw bA
  clear bA
  have xc0 : (w12.alloc (.cells #[.float .f64 nh, .float .f64 nl] 24)).cell? ⟨w12.heap.size, 0, none⟩ = some (.float .f64 nh) := by go_simp
  have xc1 : (w12.alloc (.cells #[.float .f64 nh, .float .f64 nl] 24)).cell? ⟨w12.heap.size, 1, none⟩ = some (.float .f64 nl) := by go_simp
  go_wp2_with fail
  generalize (w12.alloc (.cells #[.float .f64 nh, .float .f64 nl] 24)) = w13 at *
  refine Calls.mono (H6.out _) ?_
  rintro r w14 ⟨rfl, bN⟩
  replace a0 := pcarry bN a0
  replace a1 := pcarry bN a1
  replace b0 := pcarry bN b0
  replace b1 := pcarry bN b1
  replace sc0 := pcarry bN sc0
  replace sc1 := pcarry bN sc1
  replace tc0 := pcarry bN tc0
  replace tc1 := pcarry bN tc1
  replace pc0 := pcarry bN pc0
  replace pc1 := pcarry bN pc1
  replace gc0 := pcarry bN gc0
  replace gc1 := pcarry bN gc1
  replace xc0 := pcarry bN xc0
  replace xc1 := pcarry bN xc1
  replace bw := ebelow_trans bw bN
  clear bN
  have bA := below_alloc1 w14 (.cells #[.float .f64 nh', .float .f64 nl'] 24)
  replace a0 := pcarry bA a0
  replace a1 := pcarry bA a1
  replace b0 := pcarry bA b0
  replace b1 := pcarry bA b1
  replace sc0 := pcarry bA sc0
  replace sc1 := pcarry bA sc1
  replace tc0 := pcarry bA tc0
  replace tc1 := pcarry bA tc1
  replace pc0 := pcarry bA pc0
  replace pc1 := pcarry bA pc1
  replace gc0 := pcarry bA gc0
  replace gc1 := pcarry bA gc1
  replace xc0 := pcarry bA xc0
  replace xc1 := pcarry bA xc1
  replace bw := ebelow_trans bw bA
  clear bA
  have yc0 : (w14.alloc (.cells #[.float .f64 nh', .float .f64 nl'] 24)).cell? ⟨w14.heap.size, 0, none⟩ = some (.float .f64 nh') := by go_simp
  have yc1 : (w14.alloc (.cells #[.float .f64 nh', .float .f64 nl'] 24)).cell? ⟨w14.heap.size, 1, none⟩ = some (.float .f64 nl') := by go_simp
  go_wp2_with fail
  generalize (w14.alloc (.cells #[.float .f64 nh', .float .f64 nl'] 24)) = w15 at *
  refine Calls.mono (H7.out _) ?_
  rintro r w16 ⟨rfl, bN⟩
  replace a0 := pcarry bN a0
  replace a1 := pcarry bN a1
  replace b0 := pcarry bN b0
  replace b1 := pcarry bN b1
  replace sc0 := pcarry bN sc0
  replace sc1 := pcarry bN sc1
  replace tc0 := pcarry bN tc0
  replace tc1 := pcarry bN tc1
  replace pc0 := pcarry bN pc0
  replace pc1 := pcarry bN pc1
  replace gc0 := pcarry bN gc0
  replace gc1 := pcarry bN gc1
  replace xc0 := pcarry bN xc0
  replace xc1 := pcarry bN xc1
  replace yc0 := pcarry bN yc0
  replace yc1 := pcarry bN yc1
  replace bw := ebelow_trans bw bN
  clear bN
  have bA := below_alloc1 w16 (.cells #[.float .f64 u1, .float .f64 u2] 24)
  replace a0 := pcarry bA a0
  replace a1 := pcarry bA a1
  replace b0 := pcarry bA b0
  replace b1 := pcarry bA b1
  replace sc0 := pcarry bA sc0
  replace sc1 := pcarry bA sc1
  replace tc0 := pcarry bA tc0
  replace tc1 := pcarry bA tc1
  replace pc0 := pcarry bA pc0
  replace pc1 := pcarry bA pc1
  replace gc0 := pcarry bA gc0
  replace gc1 := pcarry bA gc1
  replace xc0 := pcarry bA xc0
  replace xc1 := pcarry bA xc1
  replace yc0 := pcarry bA yc0
  replace yc1 := pcarry bA yc1
  replace bw := ebelow_trans bw bA
  clear bA
  have uc0 : (w16.alloc (.cells #[.float .f64 u1, .float .f64 u2] 24)).cell? ⟨w16.heap.size, 0, none⟩ = some (.float .f64 u1) := by go_simp
  have uc1 : (w16.alloc (.cells #[.float .f64 u1, .float .f64 u2] 24)).cell? ⟨w16.heap.size, 1, none⟩ = some (.float .f64 u2) := by go_simp
  go_wp2_with fail
  generalize (w16.alloc (.cells #[.float .f64 u1, .float .f64 u2] 24)) = w17 at *
  refine Calls.mono (H8.out _) ?_
  rintro r w18 ⟨rfl, bN⟩
  replace a0 := pcarry bN a0
  replace a1 := pcarry bN a1
  replace b0 := pcarry bN b0
  replace b1 := pcarry bN b1
  replace sc0 := pcarry bN sc0
  replace sc1 := pcarry bN sc1
  replace tc0 := pcarry bN tc0
  replace tc1 := pcarry bN tc1
  replace pc0 := pcarry bN pc0
  replace pc1 := pcarry bN pc1
  replace gc0 := pcarry bN gc0
  replace gc1 := pcarry bN gc1
  replace xc0 := pcarry bN xc0
  replace xc1 := pcarry bN xc1
  replace yc0 := pcarry bN yc0
  replace yc1 := pcarry bN yc1
  replace uc0 := pcarry bN uc0
  replace uc1 := pcarry bN uc1
  replace bw := ebelow_trans bw bN
  clear bN
  have bA := below_alloc1 w18 (.cells #[.float .f64 v1, .float .f64 v2] 24)
  replace a0 := pcarry bA a0
  replace a1 := pcarry bA a1
  replace b0 := pcarry bA b0
  replace b1 := pcarry bA b1
  replace sc0 := pcarry bA sc0
  replace sc1 := pcarry bA sc1
  replace tc0 := pcarry bA tc0
  replace tc1 := pcarry bA tc1
  replace pc0 := pcarry bA pc0
  replace pc1 := pcarry bA pc1
  replace gc0 := pcarry bA gc0
  replace gc1 := pcarry bA gc1
  replace xc0 := pcarry bA xc0
  replace xc1 := pcarry bA xc1
  replace yc0 := pcarry bA yc0
  replace yc1 := pcarry bA yc1
  replace uc0 := pcarry bA uc0
  replace uc1 := pcarry bA uc1
  replace bw := ebelow_trans bw bA
  clear bA
  have vc0 : (w18.alloc (.cells #[.float .f64 v1, .float .f64 v2] 24)).cell? ⟨w18.heap.size, 0, none⟩ = some (.float .f64 v1) := by go_simp
  have vc1 : (w18.alloc (.cells #[.float .f64 v1, .float .f64 v2] 24)).cell? ⟨w18.heap.size, 1, none⟩ = some (.float .f64 v2) := by go_simp
  go_wp2_with fail
  generalize (w18.alloc (.cells #[.float .f64 v1, .float .f64 v2] 24)) = w19 at *
  refine Calls.mono (H9.out _) ?_
  rintro r w20 ⟨rfl, bN⟩
  replace a0 := pcarry bN a0
  replace a1 := pcarry bN a1
  replace b0 := pcarry bN b0
  replace b1 := pcarry bN b1
  replace sc0 := pcarry bN sc0
  replace sc1 := pcarry bN sc1
  replace tc0 := pcarry bN tc0
  replace tc1 := pcarry bN tc1
  replace pc0 := pcarry bN pc0
  replace pc1 := pcarry bN pc1
  replace gc0 := pcarry bN gc0
  replace gc1 := pcarry bN gc1
  replace xc0 := pcarry bN xc0
  replace xc1 := pcarry bN xc1
  replace yc0 := pcarry bN yc0
  replace yc1 := pcarry bN yc1
  replace uc0 := pcarry bN uc0
  replace uc1 := pcarry bN uc1
  replace vc0 := pcarry bN vc0
  replace vc1 := pcarry bN vc1
  replace bw := ebelow_trans bw bN
  clear bN
  have bA := below_alloc1 w20 (.cells #[.float .f64 z1, .float .f64 z2] 24)
  replace a0 := pcarry bA a0
  replace a1 := pcarry bA a1
  replace b0 := pcarry bA b0
  replace b1 := pcarry bA b1
  replace sc0 := pcarry bA sc0
  replace sc1 := pcarry bA sc1
  replace tc0 := pcarry bA tc0
  replace tc1 := pcarry bA tc1
  replace pc0 := pcarry bA pc0
  replace pc1 := pcarry bA pc1
  replace gc0 := pcarry bA gc0
  replace gc1 := pcarry bA gc1
  replace xc0 := pcarry bA xc0
  replace xc1 := pcarry bA xc1
  replace yc0 := pcarry bA yc0
  replace yc1 := pcarry bA yc1
  replace uc0 := pcarry bA uc0
  replace uc1 := pcarry bA uc1
  replace vc0 := pcarry bA vc0
  replace vc1 := pcarry bA vc1
  replace bw := ebelow_trans bw bA
  clear bA
  have zc0 : (w20.alloc (.cells #[.float .f64 z1, .float .f64 z2] 24)).cell? ⟨w20.heap.size, 0, none⟩ = some (.float .f64 z1) := by go_simp
  have zc1 : (w20.alloc (.cells #[.float .f64 z1, .float .f64 z2] 24)).cell? ⟨w20.heap.size, 1, none⟩ = some (.float .f64 z2) := by go_simp
  go_wp2_with fail
  generalize (w20.alloc (.cells #[.float .f64 z1, .float .f64 z2] 24)) = w21 at *
  refine Calls.mono (HA.out _) ?_
  rintro r w22 ⟨rfl, bN⟩
  replace a0 := pcarry bN a0
  replace a1 := pcarry bN a1
  replace b0 := pcarry bN b0
  replace b1 := pcarry bN b1
  replace sc0 := pcarry bN sc0
  replace sc1 := pcarry bN sc1
  replace tc0 := pcarry bN tc0
  replace tc1 := pcarry bN tc1
  replace pc0 := pcarry bN pc0
  replace pc1 := pcarry bN pc1
  replace gc0 := pcarry bN gc0
  replace gc1 := pcarry bN gc1
  replace xc0 := pcarry bN xc0
  replace xc1 := pcarry bN xc1
  replace yc0 := pcarry bN yc0
  replace yc1 := pcarry bN yc1
  replace uc0 := pcarry bN uc0
  replace uc1 := pcarry bN uc1
  replace vc0 := pcarry bN vc0
  replace vc1 := pcarry bN vc1
  replace zc0 := pcarry bN zc0
  replace zc1 := pcarry bN zc1
  replace bw := ebelow_trans bw bN
  clear bN
  go_wp2_with fail
  refine Calls.mono (HB.out _) ?_
  rintro r w23 ⟨rfl, bN⟩
  replace a0 := pcarry bN a0
  replace a1 := pcarry bN a1
  replace b0 := pcarry bN b0
  replace b1 := pcarry bN b1
  replace sc0 := pcarry bN sc0
  replace sc1 := pcarry bN sc1
  replace tc0 := pcarry bN tc0
  replace tc1 := pcarry bN tc1
  replace pc0 := pcarry bN pc0
  replace pc1 := pcarry bN pc1
  replace gc0 := pcarry bN gc0
  replace gc1 := pcarry bN gc1
  replace xc0 := pcarry bN xc0
  replace xc1 := pcarry bN xc1
  replace yc0 := pcarry bN yc0
  replace yc1 := pcarry bN yc1
  replace uc0 := pcarry bN uc0
  replace uc1 := pcarry bN uc1
  replace vc0 := pcarry bN vc0
  replace vc1 := pcarry bN vc1
  replace zc0 := pcarry bN zc0
  replace zc1 := pcarry bN zc1
  replace bw := ebelow_trans bw bN
  clear bN
  go_upto_region 16 with fail
  have R : Below w23.heap.size w23 (World.drew w23) := (Below.refl _ _).drew
  refine wp_region_held (S := fun w' => Below w23.heap.size w23 w') (by kernel_rfl) ?_
  change wpAnyH _ _ _ _ _ _ _ _ (World.drew w23)
  generalize World.drew w23 = wd at R ⊢
  refine wpAnyH_take (i := 0) (oi := { dst := some 101, op := Op.load 24 (Operand.tmp 5), type := 24, pos := "own.go:103", after := #[], guard := none }) (v := .agg #[.float .f64 s1, .float .f64 s2]) rfl (by kernel_rfl) (by kernel_rfl) (by kernel_rfl) (fun _ _ _ h => h) (Or.inl ⟨by rfl, ?y1⟩) R ?r1
  case y1 => (intro ww hS; have qsc0 := pcarry hS sc0; have qsc1 := pcarry hS sc1; clear hS; go_simp; try with_reducible rfl)
  try simp only [Act.put, List.setIfInBounds_toArray, List.set_cons_zero, List.set_cons_succ]
  refine wpAnyH_take (i := 1) (oi := { dst := some 102, op := Op.load 24 (Operand.tmp 7), type := 24, pos := "own.go:103", after := #[], guard := none }) (v := .agg #[.float .f64 t1, .float .f64 t2]) rfl (by kernel_rfl) (by kernel_rfl) (by kernel_rfl) (fun _ _ _ h => h) (Or.inl ⟨by rfl, ?y2⟩) R ?r2
  case y2 => (intro ww hS; have qtc0 := pcarry hS tc0; have qtc1 := pcarry hS tc1; clear hS; go_simp; try with_reducible rfl)
  try simp only [Act.put, List.setIfInBounds_toArray, List.set_cons_zero, List.set_cons_succ]
  refine wpAnyH_ready (rs := [2]) (by kernel_rfl) (by simp) ?_
  refine AllReadyH.cons rfl (fun K hK => ?_) AllReadyH.nil
  go_simp
  refine Calls.mono (Q1.out _) ?_
  rintro r y1 ⟨rfl, bN⟩
  replace R := ebelow_trans R bN
  clear bN
  refine hK.out _ _ R (fun _ => ?_)
  clear hK K
  try simp only [Act.put, List.setIfInBounds_toArray, List.set_cons_zero, List.set_cons_succ]
  refine wpAnyH_take (i := 3) (oi := { dst := some 104, op := Op.move (Operand.tmp 103), type := 4, pos := "own.go:103", after := #[{ on := 2, ground := Ground.data }, { on := 2, ground := Ground.chain }], guard := none }) (v := .bool true) rfl (by kernel_rfl) (by kernel_rfl) (by kernel_rfl) (fun _ _ _ h => h) (Or.inl ⟨by rfl, ?y3⟩) R ?r3
  case y3 => (intro ww hS; clear hS; go_simp; try with_reducible rfl)
  try simp only [Act.put, List.setIfInBounds_toArray, List.set_cons_zero, List.set_cons_succ]
  refine wpAnyH_take (i := 4) (oi := { dst := some 105, op := Op.load 24 (Operand.tmp 9), type := 24, pos := "own.go:103", after := #[{ on := 3, ground := Ground.guard }], guard := some (3, true) }) (v := .agg #[.float .f64 p1, .float .f64 p2]) rfl (by kernel_rfl) (by kernel_rfl) (by kernel_rfl) (fun _ _ _ h => h) (Or.inl ⟨by rfl, ?y4⟩) R ?r4
  case y4 => (intro ww hS; have qpc0 := pcarry hS pc0; have qpc1 := pcarry hS pc1; clear hS; go_simp; try with_reducible rfl)
  try simp only [Act.put, List.setIfInBounds_toArray, List.set_cons_zero, List.set_cons_succ]
  refine wpAnyH_take (i := 5) (oi := { dst := some 106, op := Op.load 24 (Operand.tmp 11), type := 24, pos := "own.go:103", after := #[{ on := 3, ground := Ground.guard }], guard := some (3, true) }) (v := .agg #[.float .f64 g1, .float .f64 g2]) rfl (by kernel_rfl) (by kernel_rfl) (by kernel_rfl) (fun _ _ _ h => h) (Or.inl ⟨by rfl, ?y5⟩) R ?r5
  case y5 => (intro ww hS; have qgc0 := pcarry hS gc0; have qgc1 := pcarry hS gc1; clear hS; go_simp; try with_reducible rfl)
  try simp only [Act.put, List.setIfInBounds_toArray, List.set_cons_zero, List.set_cons_succ]
  refine wpAnyH_ready (rs := [6]) (by kernel_rfl) (by simp) ?_
  refine AllReadyH.cons rfl (fun K hK => ?_) AllReadyH.nil
  go_simp
  refine Calls.mono (Q2.out _) ?_
  rintro r y2 ⟨rfl, bN⟩
  replace R := ebelow_trans R bN
  clear bN
  refine hK.out _ _ R (fun _ => ?_)
  clear hK K
  try simp only [Act.put, List.setIfInBounds_toArray, List.set_cons_zero, List.set_cons_succ]
  refine wpAnyH_take (i := 7) (oi := { dst := some 108, op := Op.pick (Operand.tmp 104) (Operand.tmp 107) (Operand.const (Value.bool false)), type := 4, pos := "own.go:103", after := #[{ on := 3, ground := Ground.data }, { on := 6, ground := Ground.data }], guard := none }) (v := .bool true) rfl (by kernel_rfl) (by kernel_rfl) (by kernel_rfl) (fun _ _ _ h => h) (Or.inl ⟨by rfl, ?y6⟩) R ?r6
  case y6 => (intro ww hS; clear hS; go_simp; try with_reducible rfl)
  try simp only [Act.put, List.setIfInBounds_toArray, List.set_cons_zero, List.set_cons_succ]
  refine wpAnyH_take (i := 8) (oi := { dst := some 109, op := Op.move (Operand.tmp 108), type := 4, pos := "own.go:103", after := #[{ on := 7, ground := Ground.data }, { on := 6, ground := Ground.chain }], guard := none }) (v := .bool true) rfl (by kernel_rfl) (by kernel_rfl) (by kernel_rfl) (fun _ _ _ h => h) (Or.inl ⟨by rfl, ?y7⟩) R ?r7
  case y7 => (intro ww hS; clear hS; go_simp; try with_reducible rfl)
  try simp only [Act.put, List.setIfInBounds_toArray, List.set_cons_zero, List.set_cons_succ]
  refine wpAnyH_take (i := 9) (oi := { dst := some 110, op := Op.load 24 (Operand.tmp 17), type := 24, pos := "own.go:103", after := #[{ on := 8, ground := Ground.guard }], guard := some (8, true) }) (v := .agg #[.float .f64 u1, .float .f64 u2]) rfl (by kernel_rfl) (by kernel_rfl) (by kernel_rfl) (fun _ _ _ h => h) (Or.inl ⟨by rfl, ?y8⟩) R ?r8
  case y8 => (intro ww hS; have quc0 := pcarry hS uc0; have quc1 := pcarry hS uc1; clear hS; go_simp; try with_reducible rfl)
  try simp only [Act.put, List.setIfInBounds_toArray, List.set_cons_zero, List.set_cons_succ]
  refine wpAnyH_take (i := 10) (oi := { dst := some 111, op := Op.load 24 (Operand.tmp 5), type := 24, pos := "own.go:103", after := #[{ on := 8, ground := Ground.guard }], guard := some (8, true) }) (v := .agg #[.float .f64 s1, .float .f64 s2]) rfl (by kernel_rfl) (by kernel_rfl) (by kernel_rfl) (fun _ _ _ h => h) (Or.inl ⟨by rfl, ?y9⟩) R ?r9
  case y9 => (intro ww hS; have qsc0 := pcarry hS sc0; have qsc1 := pcarry hS sc1; clear hS; go_simp; try with_reducible rfl)
  try simp only [Act.put, List.setIfInBounds_toArray, List.set_cons_zero, List.set_cons_succ]
  refine wpAnyH_ready (rs := [11]) (by kernel_rfl) (by simp) ?_
  refine AllReadyH.cons rfl (fun K hK => ?_) AllReadyH.nil
  go_simp
  refine Calls.mono (Q3.out _) ?_
  rintro r y3 ⟨rfl, bN⟩
  replace R := ebelow_trans R bN
  clear bN
  refine hK.out _ _ R (fun _ => ?_)
  clear hK K
  try simp only [Act.put, List.setIfInBounds_toArray, List.set_cons_zero, List.set_cons_succ]
  refine wpAnyH_ready (rs := [12]) (by kernel_rfl) (by simp) ?_
  refine AllReadyH.cons rfl (fun K hK => ?_) AllReadyH.nil
  go_simp
  refine Calls.mono (Q4.out _) ?_
  rintro r y4 ⟨rfl, bN⟩
  replace R := ebelow_trans R bN
  clear bN
  refine hK.out _ _ R (fun _ => ?_)
  clear hK K
  try simp only [Act.put, List.setIfInBounds_toArray, List.set_cons_zero, List.set_cons_succ]
  refine wpAnyH_take (i := 13) (oi := { dst := some 114, op := Op.pick (Operand.tmp 109) (Operand.tmp 113) (Operand.const (Value.bool false)), type := 4, pos := "own.go:103", after := #[{ on := 8, ground := Ground.data }, { on := 12, ground := Ground.data }], guard := none }) (v := .bool true) rfl (by kernel_rfl) (by kernel_rfl) (by kernel_rfl) (fun _ _ _ h => h) (Or.inl ⟨by rfl, ?y10⟩) R ?r10
  case y10 => (intro ww hS; clear hS; go_simp; try with_reducible rfl)
  try simp only [Act.put, List.setIfInBounds_toArray, List.set_cons_zero, List.set_cons_succ]
  refine wpAnyH_take (i := 14) (oi := { dst := some 115, op := Op.move (Operand.tmp 114), type := 4, pos := "own.go:103", after := #[{ on := 13, ground := Ground.data }, { on := 12, ground := Ground.chain }], guard := none }) (v := .bool true) rfl (by kernel_rfl) (by kernel_rfl) (by kernel_rfl) (fun _ _ _ h => h) (Or.inl ⟨by rfl, ?y11⟩) R ?r11
  case y11 => (intro ww hS; clear hS; go_simp; try with_reducible rfl)
  try simp only [Act.put, List.setIfInBounds_toArray, List.set_cons_zero, List.set_cons_succ]
  refine wpAnyH_take (i := 15) (oi := { dst := some 116, op := Op.load 24 (Operand.tmp 19), type := 24, pos := "own.go:103", after := #[{ on := 14, ground := Ground.guard }], guard := some (14, true) }) (v := .agg #[.float .f64 v1, .float .f64 v2]) rfl (by kernel_rfl) (by kernel_rfl) (by kernel_rfl) (fun _ _ _ h => h) (Or.inl ⟨by rfl, ?y12⟩) R ?r12
  case y12 => (intro ww hS; have qvc0 := pcarry hS vc0; have qvc1 := pcarry hS vc1; clear hS; go_simp; try with_reducible rfl)
  try simp only [Act.put, List.setIfInBounds_toArray, List.set_cons_zero, List.set_cons_succ]
  refine wpAnyH_take (i := 16) (oi := { dst := some 117, op := Op.load 24 (Operand.tmp 9), type := 24, pos := "own.go:103", after := #[{ on := 14, ground := Ground.guard }], guard := some (14, true) }) (v := .agg #[.float .f64 p1, .float .f64 p2]) rfl (by kernel_rfl) (by kernel_rfl) (by kernel_rfl) (fun _ _ _ h => h) (Or.inl ⟨by rfl, ?y13⟩) R ?r13
  case y13 => (intro ww hS; have qpc0 := pcarry hS pc0; have qpc1 := pcarry hS pc1; clear hS; go_simp; try with_reducible rfl)
  try simp only [Act.put, List.setIfInBounds_toArray, List.set_cons_zero, List.set_cons_succ]
  refine wpAnyH_ready (rs := [17]) (by kernel_rfl) (by simp) ?_
  refine AllReadyH.cons rfl (fun K hK => ?_) AllReadyH.nil
  go_simp
  refine Calls.mono (Q5.out _) ?_
  rintro r y5 ⟨rfl, bN⟩
  replace R := ebelow_trans R bN
  clear bN
  refine hK.out _ _ R (fun _ => ?_)
  clear hK K
  try simp only [Act.put, List.setIfInBounds_toArray, List.set_cons_zero, List.set_cons_succ]
  refine wpAnyH_ready (rs := [18]) (by kernel_rfl) (by simp) ?_
  refine AllReadyH.cons rfl (fun K hK => ?_) AllReadyH.nil
  go_simp
  refine Calls.mono (Q6.out _) ?_
  rintro r y6 ⟨rfl, bN⟩
  replace R := ebelow_trans R bN
  clear bN
  refine hK.out _ _ R (fun _ => ?_)
  clear hK K
  try simp only [Act.put, List.setIfInBounds_toArray, List.set_cons_zero, List.set_cons_succ]
  refine wpAnyH_take (i := 19) (oi := { dst := some 120, op := Op.pick (Operand.tmp 115) (Operand.tmp 119) (Operand.const (Value.bool false)), type := 4, pos := "own.go:103", after := #[{ on := 14, ground := Ground.data }, { on := 18, ground := Ground.data }], guard := none }) (v := .bool true) rfl (by kernel_rfl) (by kernel_rfl) (by kernel_rfl) (fun _ _ _ h => h) (Or.inl ⟨by rfl, ?y14⟩) R ?r14
  case y14 => (intro ww hS; clear hS; go_simp; try with_reducible rfl)
  try simp only [Act.put, List.setIfInBounds_toArray, List.set_cons_zero, List.set_cons_succ]
  refine wpAnyH_take (i := 20) (oi := { dst := some 121, op := Op.move (Operand.tmp 120), type := 4, pos := "own.go:103", after := #[{ on := 19, ground := Ground.data }, { on := 18, ground := Ground.chain }], guard := none }) (v := .bool true) rfl (by kernel_rfl) (by kernel_rfl) (by kernel_rfl) (fun _ _ _ h => h) (Or.inl ⟨by rfl, ?y15⟩) R ?r15
  case y15 => (intro ww hS; clear hS; go_simp; try with_reducible rfl)
  try simp only [Act.put, List.setIfInBounds_toArray, List.set_cons_zero, List.set_cons_succ]
  refine wpAnyH_take (i := 21) (oi := { dst := some 122, op := Op.load 24 (Operand.tmp 21), type := 24, pos := "own.go:103", after := #[{ on := 20, ground := Ground.guard }], guard := some (20, true) }) (v := .agg #[.float .f64 z1, .float .f64 z2]) rfl (by kernel_rfl) (by kernel_rfl) (by kernel_rfl) (fun _ _ _ h => h) (Or.inl ⟨by rfl, ?y16⟩) R ?r16
  case y16 => (intro ww hS; have qzc0 := pcarry hS zc0; have qzc1 := pcarry hS zc1; clear hS; go_simp; try with_reducible rfl)
  try simp only [Act.put, List.setIfInBounds_toArray, List.set_cons_zero, List.set_cons_succ]
  refine wpAnyH_take (i := 22) (oi := { dst := some 123, op := Op.build 24 #[], type := 24, pos := "own.go:103", after := #[{ on := 20, ground := Ground.guard }], guard := some (20, true) }) (v := .agg #[.float .f64 0, .float .f64 0]) rfl (by kernel_rfl) (by kernel_rfl) (by kernel_rfl) (fun _ _ _ h => h) (Or.inl ⟨by rfl, ?y17⟩) R ?r17
  case y17 => (intro ww hS; clear hS; go_simp; try with_reducible rfl)
  try simp only [Act.put, List.setIfInBounds_toArray, List.set_cons_zero, List.set_cons_succ]
  refine wpAnyH_ready (rs := [23]) (by kernel_rfl) (by simp) ?_
  refine AllReadyH.cons rfl (fun K hK => ?_) AllReadyH.nil
  go_simp
  refine Calls.mono (Q7.out _) ?_
  rintro r y7 ⟨rfl, bN⟩
  replace R := ebelow_trans R bN
  clear bN
  refine hK.out _ _ R (fun _ => ?_)
  clear hK K
  try simp only [Act.put, List.setIfInBounds_toArray, List.set_cons_zero, List.set_cons_succ]
  refine wpAnyH_take (i := 24) (oi := { dst := some 125, op := Op.pick (Operand.tmp 121) (Operand.tmp 124) (Operand.const (Value.bool false)), type := 4, pos := "own.go:103", after := #[{ on := 20, ground := Ground.data }, { on := 23, ground := Ground.data }], guard := none }) (v := .bool true) rfl (by kernel_rfl) (by kernel_rfl) (by kernel_rfl) (fun _ _ _ h => h) (Or.inl ⟨by rfl, ?y18⟩) R ?r18
  case y18 => (intro ww hS; clear hS; go_simp; try with_reducible rfl)
  try simp only [Act.put, List.setIfInBounds_toArray, List.set_cons_zero, List.set_cons_succ]
  refine wpAnyH_take (i := 25) (oi := { dst := some 126, op := Op.move (Operand.tmp 125), type := 4, pos := "own.go:103", after := #[{ on := 24, ground := Ground.data }, { on := 23, ground := Ground.chain }], guard := none }) (v := .bool true) rfl (by kernel_rfl) (by kernel_rfl) (by kernel_rfl) (fun _ _ _ h => h) (Or.inl ⟨by rfl, ?y19⟩) R ?r19
  case y19 => (intro ww hS; clear hS; go_simp; try with_reducible rfl)
  try simp only [Act.put, List.setIfInBounds_toArray, List.set_cons_zero, List.set_cons_succ]
  refine wpAnyH_take (i := 26) (oi := { dst := some 127, op := Op.move (Operand.tmp 24), type := 27, pos := "own.go:103", after := #[{ on := 25, ground := Ground.guard }], guard := some (25, true) }) (v := .int .i64 0) rfl (by kernel_rfl) (by kernel_rfl) (by kernel_rfl) (fun _ _ _ h => h) (Or.inl ⟨by rfl, ?y20⟩) R ?r20
  case y20 => (intro ww hS; clear hS; go_simp; try with_reducible rfl)
  try simp only [Act.put, List.setIfInBounds_toArray, List.set_cons_zero, List.set_cons_succ]
  refine wpAnyH_take (i := 27) (oi := { dst := some 128, op := Op.binOp BinOp.eql 27 (Operand.tmp 127) (Operand.const (Value.int IntKind.i64 0)) 27, type := 4, pos := "own.go:103", after := #[{ on := 26, ground := Ground.data }, { on := 25, ground := Ground.guard }], guard := some (25, true) }) (v := .bool true) rfl (by kernel_rfl) (by kernel_rfl) (by kernel_rfl) (fun _ _ _ h => h) (Or.inl ⟨by rfl, ?y21⟩) R ?r21
  case y21 => (intro ww hS; clear hS; go_simp; try with_reducible rfl)
  try simp only [Act.put, List.setIfInBounds_toArray, List.set_cons_zero, List.set_cons_succ]
  refine wpAnyH_take (i := 28) (oi := { dst := some 129, op := Op.pick (Operand.tmp 126) (Operand.tmp 128) (Operand.const (Value.bool false)), type := 4, pos := "own.go:103", after := #[{ on := 25, ground := Ground.data }, { on := 27, ground := Ground.data }], guard := none }) (v := .bool true) rfl (by kernel_rfl) (by kernel_rfl) (by kernel_rfl) (fun _ _ _ h => h) (Or.inl ⟨by rfl, ?y22⟩) R ?r22
  case y22 => (intro ww hS; clear hS; go_simp; try with_reducible rfl)
  try simp only [Act.put, List.setIfInBounds_toArray, List.set_cons_zero, List.set_cons_succ]
  refine wpAnyH_take (i := 29) (oi := { dst := some 130, op := Op.move (Operand.tmp 129), type := 4, pos := "own.go:103", after := #[{ on := 28, ground := Ground.data }, { on := 25, ground := Ground.chain }], guard := none }) (v := .bool true) rfl (by kernel_rfl) (by kernel_rfl) (by kernel_rfl) (fun _ _ _ h => h) (Or.inl ⟨by rfl, ?y23⟩) R ?r23
  case y23 => (intro ww hS; clear hS; go_simp; try with_reducible rfl)
  try simp only [Act.put, List.setIfInBounds_toArray, List.set_cons_zero, List.set_cons_succ]
  refine wpAnyH_take (i := 30) (oi := { dst := some 131, op := Op.move (Operand.tmp 26), type := 27, pos := "own.go:103", after := #[{ on := 29, ground := Ground.guard }], guard := some (29, true) }) (v := .int .i64 0) rfl (by kernel_rfl) (by kernel_rfl) (by kernel_rfl) (fun _ _ _ h => h) (Or.inl ⟨by rfl, ?y24⟩) R ?r24
  case y24 => (intro ww hS; clear hS; go_simp; try with_reducible rfl)
  try simp only [Act.put, List.setIfInBounds_toArray, List.set_cons_zero, List.set_cons_succ]
  refine wpAnyH_take (i := 31) (oi := { dst := some 132, op := Op.binOp BinOp.eql 27 (Operand.tmp 131) (Operand.const (Value.int IntKind.i64 0)) 27, type := 4, pos := "own.go:103", after := #[{ on := 30, ground := Ground.data }, { on := 29, ground := Ground.guard }], guard := some (29, true) }) (v := .bool true) rfl (by kernel_rfl) (by kernel_rfl) (by kernel_rfl) (fun _ _ _ h => h) (Or.inl ⟨by rfl, ?y25⟩) R ?r25
  case y25 => (intro ww hS; clear hS; go_simp; try with_reducible rfl)
  try simp only [Act.put, List.setIfInBounds_toArray, List.set_cons_zero, List.set_cons_succ]
  refine wpAnyH_take (i := 32) (oi := { dst := some 133, op := Op.pick (Operand.tmp 130) (Operand.tmp 132) (Operand.const (Value.bool false)), type := 4, pos := "own.go:103", after := #[{ on := 29, ground := Ground.data }, { on := 31, ground := Ground.data }], guard := none }) (v := .bool true) rfl (by kernel_rfl) (by kernel_rfl) (by kernel_rfl) (fun _ _ _ h => h) (Or.inl ⟨by rfl, ?y26⟩) R ?r26
  case y26 => (intro ww hS; clear hS; go_simp; try with_reducible rfl)
  try simp only [Act.put, List.setIfInBounds_toArray, List.set_cons_zero, List.set_cons_succ]
  refine wpAnyH_take (i := 33) (oi := { dst := some 134, op := Op.move (Operand.tmp 133), type := 4, pos := "own.go:103", after := #[{ on := 32, ground := Ground.data }, { on := 29, ground := Ground.chain }], guard := none }) (v := .bool true) rfl (by kernel_rfl) (by kernel_rfl) (by kernel_rfl) (fun _ _ _ h => h) (Or.inl ⟨by rfl, ?y27⟩) R ?r27
  case y27 => (intro ww hS; clear hS; go_simp; try with_reducible rfl)
  try simp only [Act.put, List.setIfInBounds_toArray, List.set_cons_zero, List.set_cons_succ]
  refine wpAnyH_take (i := 34) (oi := { dst := some 135, op := Op.move (Operand.tmp 23), type := 3, pos := "own.go:103", after := #[{ on := 33, ground := Ground.guard }], guard := some (33, true) }) (v := .int .i64 c) rfl (by kernel_rfl) (by kernel_rfl) (by kernel_rfl) (fun _ _ _ h => h) (Or.inl ⟨by rfl, ?y28⟩) R ?r28
  case y28 => (intro ww hS; clear hS; go_simp; try with_reducible rfl)
  try simp only [Act.put, List.setIfInBounds_toArray, List.set_cons_zero, List.set_cons_succ]
  refine wpAnyH_take (i := 35) (oi := { dst := some 136, op := Op.move (Operand.tmp 25), type := 3, pos := "own.go:103", after := #[{ on := 33, ground := Ground.guard }], guard := some (33, true) }) (v := .int .i64 (-c)) rfl (by kernel_rfl) (by kernel_rfl) (by kernel_rfl) (fun _ _ _ h => h) (Or.inl ⟨by rfl, ?y29⟩) R ?r29
  case y29 => (intro ww hS; clear hS; go_simp; try with_reducible rfl)
  try simp only [Act.put, List.setIfInBounds_toArray, List.set_cons_zero, List.set_cons_succ]
  refine wpAnyH_take (i := 36) (oi := { dst := some 137, op := Op.unOp UnOp.neg 3 (Operand.tmp 136), type := 3, pos := "own.go:103", after := #[{ on := 35, ground := Ground.data }, { on := 33, ground := Ground.guard }], guard := some (33, true) }) (v := .int .i64 c) rfl (by kernel_rfl) (by kernel_rfl) (by kernel_rfl) (fun _ _ _ h => h) (Or.inl ⟨by rfl, ?y30⟩) R ?r30
  case y30 => (intro ww hS; clear hS; go_simp; try with_reducible rfl)
  try simp only [Act.put, List.setIfInBounds_toArray, List.set_cons_zero, List.set_cons_succ]
  refine wpAnyH_take (i := 37) (oi := { dst := some 138, op := Op.binOp BinOp.eql 3 (Operand.tmp 135) (Operand.tmp 137) 3, type := 4, pos := "own.go:103", after := #[{ on := 34, ground := Ground.data }, { on := 36, ground := Ground.data }, { on := 33, ground := Ground.guard }], guard := some (33, true) }) (v := .bool true) rfl (by kernel_rfl) (by kernel_rfl) (by kernel_rfl) (fun _ _ _ h => h) (Or.inl ⟨by rfl, ?y31⟩) R ?r31
  case y31 => (intro ww hS; clear hS; go_simp; try with_reducible rfl)
  try simp only [Act.put, List.setIfInBounds_toArray, List.set_cons_zero, List.set_cons_succ]
  refine wpAnyH_take (i := 38) (oi := { dst := some 139, op := Op.pick (Operand.tmp 134) (Operand.tmp 138) (Operand.const (Value.bool false)), type := 4, pos := "own.go:103", after := #[{ on := 33, ground := Ground.data }, { on := 37, ground := Ground.data }], guard := none }) (v := .bool true) rfl (by kernel_rfl) (by kernel_rfl) (by kernel_rfl) (fun _ _ _ h => h) (Or.inl ⟨by rfl, ?y32⟩) R ?r32
  case y32 => (intro ww hS; clear hS; go_simp; try with_reducible rfl)
  try simp only [Act.put, List.setIfInBounds_toArray, List.set_cons_zero, List.set_cons_succ]
  refine wpAnyH_ready (rs := [39]) (by kernel_rfl) (by simp) ?_
  refine AllReadyH.cons rfl (fun K hK => ?_) AllReadyH.nil
  go_simp
  refine hK.out _ _ R (fun _ => ?_)
  clear hK K
  try simp only [Act.put, List.setIfInBounds_toArray, List.set_cons_zero, List.set_cons_succ]
  refine wpAnyH_done (by kernel_rfl) ?_ _
  replace bw := ebelow_trans bw R
  clear R
  go_wp2_with fail
  go_ret
  exact ⟨rfl, bw⟩

theorem ddTurned_walk (h l h' l' : Nat) (w : World) (hh : h < 18446744073709551616) (hl : l < 18446744073709551616) (hh' : h' < 18446744073709551616) (hl' : l' < 18446744073709551616) :
    Calls Try.prog 3 #[.agg #[.float .f64 h, .float .f64 l], .agg #[.float .f64 h', .float .f64 l']] w fun r w' => r = .returned (.bool true) ∧ Below w.heap.size w w' := by
  cases ra : rightP h l with
  | false => exact turn_x h l h' l' w hh hl hh' hl' ra
  | true =>
    cases rb : rightP h' l' with
    | false => exact turn_y h l h' l' w hh hl hh' hl' ra rb
    | true => exact turn_z h l h' l' w hh hl hh' hl' ra rb
end Go.Proofs.Ytiibjhemljkgbaa.Fp
namespace Go.Proofs.Ytiibjhemljkgbaa
open Go.RowKit
theorem ddTurned_walk (h l h' l' : Nat) (w : World) (hh : h < 18446744073709551616) (hl : l < 18446744073709551616) (hh' : h' < 18446744073709551616) (hl' : l' < 18446744073709551616) :
    Calls Try.prog 3 #[.agg #[.float .f64 h, .float .f64 l], .agg #[.float .f64 h', .float .f64 l']] w fun r w' => r = .returned (.bool true) ∧ Below w.heap.size w w' := Fp.ddTurned_walk h l h' l' w hh hl hh' hl'
end Go.Proofs.Ytiibjhemljkgbaa

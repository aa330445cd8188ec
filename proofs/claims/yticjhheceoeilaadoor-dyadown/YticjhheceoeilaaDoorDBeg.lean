/- The first question of dyad's statements. -/
import Derived.Test.YticjhheceoeilaaDoorPFA
import Derived.Test.YticjhheceoeilaaDoorRDA
import Derived.Test.YticjhheceoeilaaDoorDGA
import Derived.Test.YticjhheceoeilaaDoorDCmp2
namespace Go.Proofs.YticjhheceoeilaaDoor
open Go.RowKit

theorem words_one (n : Nat) (h0 : n ≠ 0) (h : n < 18446744073709551616) : wordsOf n = [(n : Int)] := by
  rw [wordsOf, dif_neg h0, Nat.div_eq_of_lt h, words_zero, Nat.mod_eq_of_lt h]
theorem isW_one (w : World) (B : Nat) (x : Nat) (t : TypeId) (hB : w.heap.size = B) (hx : x < 18446744073709551616) : IsW (w.alloc (.cells #[.int .u64 (x : Int)] t)) (some ⟨B, 0, none⟩) 1 1 [(x : Int)] := by
  subst hB
  refine ⟨rfl, fun y hy => by simp at hy; omega, ⟨Nat.le_refl _, fun e => by cases e⟩, fun i hi => ?_⟩
  refine ⟨w.heap.size, 0, rfl, by simp, ?_⟩
  match i, hi with
  | 0, _ => first | (simp; done) | (go_simp; done) | rfl
theorem great_small (m : Nat) (h : m < 18446744073709551616) : greatB m = false := (great_not m).2 (by have := (blen_le m 64).2 (by have : (2 : Nat) ^ 64 = 18446744073709551616 := rfl; omega); omega)
theorem right_small (m : Nat) (e : Int) (h : m < 18446744073709551616) (he : -32768 ≤ e ∧ e ≤ 32768) : rightB m e = true := by
  rw [rightB_fit (great_small m h)]; unfold inB; exact decide_eq_true he
theorem room_small (s : Bool) (m : Nat) (e : Int) (h : m < 18446744073709551616) (he : -32768 ≤ e ∧ e ≤ 32768) : roomE (s, m, e) = 0 ∧ roomP (s, m, e) = (s, m, e) := room_yes (great_small m h) (by unfold inB; exact decide_eq_true he)
theorem bl11 : blen 11 = 4 := by decide +kernel
theorem bg1 : intD 11 = (false, 11, 0) := form_odd false (by decide) 0
theorem bg2 : cutD (false, 11, 0) 2 false = (false, 1, 3) := by
  unfold cutD
  rw [bl11, if_neg (by decide)]
  show formD false (1 * 2 ^ 1) 2 = _
  rw [form_shift]; exact form_odd false (by decide) _
theorem bg3 : cutD (false, 11, 0) 2 true = (false, 3, 2) := by
  unfold cutD
  rw [bl11, if_neg (by decide)]
  exact form_odd false (by decide) _
theorem bg4 : fromP 4609434218613702656 = (false, 3, -1) := by
  have h1 : finB 4609434218613702656 = true := by decide
  have h2 : sgnB 4609434218613702656 = false := by decide
  have h3 : (countV 4609434218613702656).toNat = 3 * 2 ^ 51 := by decide
  have h4 : unitV 4609434218613702656 = -52 := by decide
  unfold fromP fromD
  rw [if_pos h1, h2, h3, h4, form_shift]; exact form_odd false (by decide) _
theorem bg5 : sumD (false, 1, 3) (false, 3, 2) = (false, 5, 2) := by
  unfold sumD
  rw [if_neg (by decide), if_neg (by decide), if_neg (by decide)]
  unfold addHi
  exact form_odd (m := 5) false (by decide) 2
theorem bg6 : cmpD (false, 1, 3) (false, 3, 2) = -1 := by decide +kernel
theorem bg7 : lastE 4609434218613702656 = 0 := by decide

theorem bInt (w : World) (hT : Tab w) : Calls Tryd.prog 20 #[.int .i64 11] w fun r w' => ∃ v', r = .returned v' ∧ DyAt w.heap.size w' v' (false, 11, 0) ∧ Below w.heap.size w w' := by
  have := dint_calls 11 (by decide) w hT
  rw [bg1] at this; exact this

theorem bCutL (a : Option Addr) (n c : Nat) (w : World) (h : IsW w a n c (wordsOf 11)) (hn : n ≤ 1024) (hT : Tab w) : Calls Tryd.prog 16 #[dyV false a n c 0, .int .i64 2, .bool false] w fun r w' => ∃ v', r = .returned (.tuple #[v', .int .i64 0]) ∧ DyAt w.heap.size w' v' (false, 1, 3) ∧ Below w.heap.size w w' := by
  have := dcut_yes false a n c (wordsOf 11) 0 2 false w h (by omega) hT (by decide) (by rw [val_words]; exact right_small 11 0 (by decide) (by decide))
  rw [val_words, form_odd false (by decide) 0, bg2, (room_small _ _ _ (by decide) (by decide)).1, (room_small _ _ _ (by decide) (by decide)).2] at this
  exact this

theorem bCutH (a : Option Addr) (n c : Nat) (w : World) (h : IsW w a n c (wordsOf 11)) (hn : n ≤ 1024) (hT : Tab w) : Calls Tryd.prog 16 #[dyV false a n c 0, .int .i64 2, .bool true] w fun r w' => ∃ v', r = .returned (.tuple #[v', .int .i64 0]) ∧ DyAt w.heap.size w' v' (false, 3, 2) ∧ Below w.heap.size w w' := by
  have := dcut_yes false a n c (wordsOf 11) 0 2 true w h (by omega) hT (by decide) (by rw [val_words]; exact right_small 11 0 (by decide) (by decide))
  rw [val_words, form_odd false (by decide) 0, bg3, (room_small _ _ _ (by decide) (by decide)).1, (room_small _ _ _ (by decide) (by decide)).2] at this
  exact this

theorem bFrom (w : World) (hT : Tab w) : Calls Tryd.prog 21 #[.int .u64 4609434218613702656] w fun r w' => ∃ v', r = .returned (.tuple #[v', .int .i64 0]) ∧ DyAt w.heap.size w' v' (false, 3, -1) ∧ Below w.heap.size w w' := by
  have := pfrom_calls 4609434218613702656 w ⟨by decide, by decide⟩ hT
  rw [bg7, bg4] at this; exact this
theorem bAdd (a : Option Addr) (n c : Nat) (a' : Option Addr) (n' c' : Nat) (w : World) (h : IsW w a n c (wordsOf 1)) (hn : n ≤ 1024) (h' : IsW w a' n' c' (wordsOf 3)) (hn' : n' ≤ 1024) (hT : Tab w) : Calls Tryd.prog 15 #[dyV false a n c 3, dyV false a' n' c' 2] w fun r w' => ∃ v', r = .returned (.tuple #[v', .int .i64 0]) ∧ DyAt w.heap.size w' v' (false, 5, 2) ∧ Below w.heap.size w w' := by
  have := dadd_yes false a n c (wordsOf 1) 3 false a' n' c' (wordsOf 3) 2 w h (by omega) h' (by omega) hT (by rw [val_words]; exact right_small 1 3 (by decide) (by decide)) (by rw [val_words]; exact right_small 3 2 (by decide) (by decide))
  rw [val_words, val_words, form_odd false (by decide) 3, form_odd false (by decide) 2, bg5, (room_small _ _ _ (by decide) (by decide)).1, (room_small _ _ _ (by decide) (by decide)).2] at this
  exact this
theorem bCmp (a : Option Addr) (n c : Nat) (a' : Option Addr) (n' c' : Nat) (w : World) (h : IsW w a n c (wordsOf 1)) (hn : n ≤ 1024) (h' : IsW w a' n' c' (wordsOf 3)) (hn' : n' ≤ 1024) (hT : Tab w) : Calls Tryd.prog 12 #[dyV false a n c 3, dyV false a' n' c' 2] w fun r w' => r = .returned (.tuple #[.int .i64 (-1), .int .i64 0]) ∧ Below w.heap.size w w' := by
  have := dcmp_yes false a n c (wordsOf 1) 3 false a' n' c' (wordsOf 3) 2 w h (by omega) h' (by omega) hT (by rw [val_words]; exact right_small 1 3 (by decide) (by decide)) (by rw [val_words]; exact right_small 3 2 (by decide) (by decide))
  rw [val_words, val_words, form_odd false (by decide) 3, form_odd false (by decide) 2, bg6] at this
  exact this
theorem bSame (m : Nat) (e : Int) (h0 : m ≠ 0) (hm : m < 18446744073709551616) (a : Option Addr) (n c B : Nat) (w : World) (hB : w.heap.size = B) (t : TypeId) (h : IsW w a n c (wordsOf m)) (hn : n ≤ 1024) : Calls Tryd.prog 6 #[dyV false a n c e, dyV false (some ⟨B, 0, none⟩) 1 1 e] (w.alloc (.cells #[.int .u64 (m : Int)] t)) fun r w' => r = .returned (.bool true) ∧ Below w.heap.size w w' := by
  have := qSame_calls false a n c (wordsOf m) e false (some ⟨B, 0, none⟩) 1 1 [(m : Int)] e (w.alloc (.cells #[.int .u64 (m : Int)] t)) (h.keep (below_one _ _)) (by omega) (isW_one w B m t hB hm) (by omega)
  rw [words_one m h0 hm, sameB_self] at this
  refine this.mono ?_
  rintro r w' ⟨rfl, hb⟩
  exact ⟨rfl, nbelow_trans (below_one _ _) hb⟩

set_option maxRecDepth 100000 in
set_option maxHeartbeats 4000000 in
theorem dyBegins_calls (w : World) (hT : Tab w) :
    Calls Tryd.prog 5 #[] w fun r w' => r = .returned (.bool true) ∧ Below w.heap.size w w' := by
  have hT0 : Hid (∀ w', Below w.heap.size w w' → Tab w') := fun w' hb => hT.kept hb
  clear hT
  go_enter Tryd.func5, Tryd.ntmps5
  go_wp2_with fail
  refine Calls.mono (bInt _ (hT0.out _ (Below.refl _ _))) ?_
  rintro r w1 ⟨_, rfl, ⟨a1, n1, c1, rfl, HN1, hn1, hO1⟩, b1⟩
  have hI1 := hO1.1
  clear hO1
  go_wp2_with fail
  refine Calls.mono (bCutL a1 n1 c1 w1 hI1 hn1 (hT0.out _ b1)) ?_
  rintro r w2 ⟨_, rfl, ⟨a2, n2, c2, rfl, HN2, hn2, hO2⟩, b2⟩
  have hI2 := hO2.1
  have bw2 := nbelow_trans b1 b2
  clear hO2 b1 b2 hI1 HN1
  have bA := below_one w2 (.cells #[.bool false, .slice a2 n2 c2, .int .i64 3] 25)
  go_wp2_with fail
  refine Calls.mono (bInt _ (hT0.out _ (nbelow_trans bw2 bA))) ?_
  rintro r w3 ⟨_, rfl, ⟨a3, n3, c3, rfl, HN3, hn3, hO3⟩, b3⟩
  have X0 : w3.cell? ⟨w2.heap.size, 0, none⟩ = some (.bool false) := dcarry_cell b3 (by go_simp)
  have X1 : w3.cell? ⟨w2.heap.size, 1, none⟩ = some (.slice a2 n2 c2) := dcarry_cell b3 (by go_simp)
  have X2 : w3.cell? ⟨w2.heap.size, 2, none⟩ = some (.int .i64 3) := dcarry_cell b3 (by go_simp)
  have b23 := nbelow_trans bA b3
  have XI := hI2.keep b23
  have bw3 := nbelow_trans bw2 b23
  have hI3 := hO3.1
  clear hO3 b3 bA hI2 bw2 b23 HN3
  go_wp2_with fail
  refine Calls.mono (bCutH a3 n3 c3 w3 hI3 hn3 (hT0.out _ bw3)) ?_
  rintro r w4 ⟨_, rfl, ⟨a4, n4, c4, rfl, HN4, hn4, hO4⟩, b4⟩
  replace X0 := dcarry_cell b4 X0
  replace X1 := dcarry_cell b4 X1
  replace X2 := dcarry_cell b4 X2
  replace XI := XI.keep b4
  have bw4 := nbelow_trans bw3 b4
  have hI4 := hO4.1
  clear hO4 b4 hI3 bw3 HN4
  have bA := below_one w4 (.cells #[.bool false, .slice a4 n4 c4, .int .i64 2] 25)
  go_wp2_with fail
  refine Calls.mono (bFrom _ (hT0.out _ (nbelow_trans bw4 bA))) ?_
  rintro r w5 ⟨_, rfl, ⟨a5, n5, c5, rfl, HN5, hn5, hO5⟩, b5⟩
  have Y0 : w5.cell? ⟨w4.heap.size, 0, none⟩ = some (.bool false) := dcarry_cell b5 (by go_simp)
  have Y1 : w5.cell? ⟨w4.heap.size, 1, none⟩ = some (.slice a4 n4 c4) := dcarry_cell b5 (by go_simp)
  have Y2 : w5.cell? ⟨w4.heap.size, 2, none⟩ = some (.int .i64 2) := dcarry_cell b5 (by go_simp)
  have b45 := nbelow_trans bA b5
  have YI := hI4.keep b45
  replace X0 := dcarry_cell b45 X0
  replace X1 := dcarry_cell b45 X1
  replace X2 := dcarry_cell b45 X2
  replace XI := XI.keep b45
  have bw5 := nbelow_trans bw4 b45
  have hI5 := hO5.1
  clear hO5 b5 bA hI4 bw4 b45 HN5
  have bA := below_one w5 (.cells #[.bool false, .slice a5 n5 c5, .int .i64 (-1)] 25)
  replace X0 := dcarry_cell bA X0
  replace X1 := dcarry_cell bA X1
  replace X2 := dcarry_cell bA X2
  replace XI := XI.keep bA
  replace Y0 := dcarry_cell bA Y0
  replace Y1 := dcarry_cell bA Y1
  replace Y2 := dcarry_cell bA Y2
  replace YI := YI.keep bA
  have Z0 : (w5.alloc (.cells #[.bool false, .slice a5 n5 c5, .int .i64 (-1)] 25)).cell? ⟨w5.heap.size, 0, none⟩ = some (.bool false) := by go_simp
  have Z1 : (w5.alloc (.cells #[.bool false, .slice a5 n5 c5, .int .i64 (-1)] 25)).cell? ⟨w5.heap.size, 1, none⟩ = some (.slice a5 n5 c5) := by go_simp
  have Z2 : (w5.alloc (.cells #[.bool false, .slice a5 n5 c5, .int .i64 (-1)] 25)).cell? ⟨w5.heap.size, 2, none⟩ = some (.int .i64 (-1)) := by go_simp
  have ZI := hI5.keep bA
  have bw5' := nbelow_trans bw5 bA
  clear bw5 bA hI5
  go_wp2_with fail
  generalize w5.alloc (.cells #[.bool false, .slice a5 n5 c5, .int .i64 (-1)] 25) = w6 at *
  refine Calls.mono (bAdd a2 n2 c2 a4 n4 c4 w6 XI hn2 YI hn4 (hT0.out _ bw5')) ?_
  rintro r w7 ⟨_, rfl, ⟨a7, n7, c7, rfl, HN7, hn7, hO7⟩, b7⟩
  replace X0 := dcarry_cell b7 X0
  replace X1 := dcarry_cell b7 X1
  replace X2 := dcarry_cell b7 X2
  replace XI := XI.keep b7
  replace Y0 := dcarry_cell b7 Y0
  replace Y1 := dcarry_cell b7 Y1
  replace Y2 := dcarry_cell b7 Y2
  replace YI := YI.keep b7
  replace Z0 := dcarry_cell b7 Z0
  replace Z1 := dcarry_cell b7 Z1
  replace Z2 := dcarry_cell b7 Z2
  replace ZI := ZI.keep b7
  have bw7 := nbelow_trans bw5' b7
  have hI7 := hO7.1
  clear hO7 b7 bw5' HN7
  have bA := below_one w7 (.cells #[.bool false, .slice a7 n7 c7, .int .i64 2] 25)
  replace X0 := dcarry_cell bA X0
  replace X1 := dcarry_cell bA X1
  replace X2 := dcarry_cell bA X2
  replace XI := XI.keep bA
  replace Y0 := dcarry_cell bA Y0
  replace Y1 := dcarry_cell bA Y1
  replace Y2 := dcarry_cell bA Y2
  replace YI := YI.keep bA
  replace Z0 := dcarry_cell bA Z0
  replace Z1 := dcarry_cell bA Z1
  replace Z2 := dcarry_cell bA Z2
  replace ZI := ZI.keep bA
  have S0 : (w7.alloc (.cells #[.bool false, .slice a7 n7 c7, .int .i64 2] 25)).cell? ⟨w7.heap.size, 0, none⟩ = some (.bool false) := by go_simp
  have S1 : (w7.alloc (.cells #[.bool false, .slice a7 n7 c7, .int .i64 2] 25)).cell? ⟨w7.heap.size, 1, none⟩ = some (.slice a7 n7 c7) := by go_simp
  have S2 : (w7.alloc (.cells #[.bool false, .slice a7 n7 c7, .int .i64 2] 25)).cell? ⟨w7.heap.size, 2, none⟩ = some (.int .i64 2) := by go_simp
  have SI := hI7.keep bA
  have bw8 := nbelow_trans bw7 bA
  clear bw7 bA hI7
  go_wp2_with fail
  generalize w7.alloc (.cells #[.bool false, .slice a7 n7 c7, .int .i64 2] 25) = w8 at *
  refine Calls.mono (bCmp a2 n2 c2 a4 n4 c4 w8 XI hn2 YI hn4 (hT0.out _ bw8)) ?_
  rintro r w9 ⟨rfl, b9⟩
  replace X0 := dcarry_cell b9 X0
  replace X1 := dcarry_cell b9 X1
  replace X2 := dcarry_cell b9 X2
  replace XI := XI.keep b9
  replace Y0 := dcarry_cell b9 Y0
  replace Y1 := dcarry_cell b9 Y1
  replace Y2 := dcarry_cell b9 Y2
  replace YI := YI.keep b9
  replace Z0 := dcarry_cell b9 Z0
  replace Z1 := dcarry_cell b9 Z1
  replace Z2 := dcarry_cell b9 Z2
  replace ZI := ZI.keep b9
  replace S0 := dcarry_cell b9 S0
  replace S1 := dcarry_cell b9 S1
  replace S2 := dcarry_cell b9 S2
  replace SI := SI.keep b9
  have bw9 := nbelow_trans bw8 b9
  clear b9 bw8
  go_wp2_with fail
  refine Calls.mono (bSame 1 3 (by decide) (by decide) a2 n2 c2 _ w9 rfl _ XI hn2) ?_
  rintro r w10 ⟨rfl, b10⟩
  clear X0 X1 X2 XI
  replace Y0 := dcarry_cell b10 Y0
  replace Y1 := dcarry_cell b10 Y1
  replace Y2 := dcarry_cell b10 Y2
  replace YI := YI.keep b10
  replace Z0 := dcarry_cell b10 Z0
  replace Z1 := dcarry_cell b10 Z1
  replace Z2 := dcarry_cell b10 Z2
  replace ZI := ZI.keep b10
  replace S0 := dcarry_cell b10 S0
  replace S1 := dcarry_cell b10 S1
  replace S2 := dcarry_cell b10 S2
  replace SI := SI.keep b10
  have bw10 := nbelow_trans bw9 b10
  clear b10 bw9
  go_wp2_with fail
  refine Calls.mono (bSame 3 2 (by decide) (by decide) a4 n4 c4 _ w10 rfl _ YI hn4) ?_
  rintro r w11 ⟨rfl, b11⟩
  clear Y0 Y1 Y2 YI
  replace Z0 := dcarry_cell b11 Z0
  replace Z1 := dcarry_cell b11 Z1
  replace Z2 := dcarry_cell b11 Z2
  replace ZI := ZI.keep b11
  replace S0 := dcarry_cell b11 S0
  replace S1 := dcarry_cell b11 S1
  replace S2 := dcarry_cell b11 S2
  replace SI := SI.keep b11
  have bw11 := nbelow_trans bw10 b11
  clear b11 bw10
  go_wp2_with fail
  refine Calls.mono (bSame 3 (-1) (by decide) (by decide) a5 n5 c5 _ w11 rfl _ ZI hn5) ?_
  rintro r w12 ⟨rfl, b12⟩
  clear Z0 Z1 Z2 ZI
  replace S0 := dcarry_cell b12 S0
  replace S1 := dcarry_cell b12 S1
  replace S2 := dcarry_cell b12 S2
  replace SI := SI.keep b12
  have bw12 := nbelow_trans bw11 b12
  clear b12 bw11
  go_wp2_with fail
  refine Calls.mono (bSame 5 2 (by decide) (by decide) a7 n7 c7 _ w12 rfl _ SI hn7) ?_
  rintro r w13 ⟨rfl, b13⟩
  clear S0 S1 S2 SI
  have bw13 := nbelow_trans bw12 b13
  clear b13 bw12
  go_wp2_with fail
  go_ret
  exact ⟨rfl, bw13⟩
end Go.Proofs.YticjhheceoeilaaDoor

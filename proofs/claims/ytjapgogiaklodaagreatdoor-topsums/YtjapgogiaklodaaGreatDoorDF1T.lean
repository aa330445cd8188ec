/- What a pair is: the program's Value, the document's Exact; a float as a pair. -/
import Derived.Test.YtjapgogiaklodaaGreatDoorDF0T
import Derived.Test.YtjapgogiaklodaaGreatDoorTMC
import Derived.Test.YtjapgogiaklodaaGreatDoorRDX
import Derived.Test.YtjapgogiaklodaaGreatDoorRD13
import Derived.Test.YtjapgogiaklodaaGreatDoorHFB
namespace Go.Proofs.YtjapgogiaklodaaGreatDoor
open Go.RowKit

def valP (h l : Nat) : Bool × Nat × Int := if Fp.rightP h l = true then sumD (fromP (h : Int)) (fromP (l : Int)) else (false, 0, 0)
theorem U_nat {x : Nat} (h : x < 18446744073709551616) : U (x : Int) := by unfold U; omega

theorem le_hid {a b c : Nat} (h : Hid (a ≤ b)) (k : b ≤ c) : Hid (a ≤ c) := Nat.le_trans h k

theorem fr_len (x : Int) : (wordsOf (fromP x).2.1).length ≤ 1024 := by
  have := fr_right x
  exact (words_len2 _ _).2 ((great_not _).1 (rightB_yes this).1)

set_option maxRecDepth 100000 in
set_option maxHeartbeats 2000000 in
theorem dvalue_bad (h l : Nat) (w : World) (hh : h < 18446744073709551616) (hr : Fp.rightP h l = false) :
    Calls Tryz.prog 7 #[.agg #[.float .f64 h, .float .f64 l]] w fun r w' => r = .returned (.tuple #[dyV false none 0 0 0, .int .i64 2]) ∧ Below w.heap.size w w' := by
  have HR : Hid _ := fun w => Fp.dRight_calls h l w hh
  rw [hr] at HR
  clear hh hr
  have bw : Below w.heap.size w ((w.alloc (.cells #[.float .f64 h, .float .f64 l] 26)).alloc (.cells #[.bool false, .slice none 0 0, .int .i64 0] 34)) := nbelow_trans (below_one _ _) (below_one _ _)
  have p0 : ((w.alloc (.cells #[.float .f64 h, .float .f64 l] 26)).alloc (.cells #[.bool false, .slice none 0 0, .int .i64 0] 34)).cell? ⟨w.heap.size, 0, none⟩ = some (.float .f64 h) := by go_simp
  have p1 : ((w.alloc (.cells #[.float .f64 h, .float .f64 l] 26)).alloc (.cells #[.bool false, .slice none 0 0, .int .i64 0] 34)).cell? ⟨w.heap.size, 1, none⟩ = some (.float .f64 l) := by go_simp
  have z0 : ((w.alloc (.cells #[.float .f64 h, .float .f64 l] 26)).alloc (.cells #[.bool false, .slice none 0 0, .int .i64 0] 34)).cell? ⟨w.heap.size + 1, 0, none⟩ = some (.bool false) := by go_simp
  have z1 : ((w.alloc (.cells #[.float .f64 h, .float .f64 l] 26)).alloc (.cells #[.bool false, .slice none 0 0, .int .i64 0] 34)).cell? ⟨w.heap.size + 1, 1, none⟩ = some (.slice none 0 0) := by go_simp
  have z2 : ((w.alloc (.cells #[.float .f64 h, .float .f64 l] 26)).alloc (.cells #[.bool false, .slice none 0 0, .int .i64 0] 34)).cell? ⟨w.heap.size + 1, 2, none⟩ = some (.int .i64 0) := by go_simp
  have f0 : ((w.alloc (.cells #[.float .f64 h, .float .f64 l] 26)).alloc (.cells #[.bool false, .slice none 0 0, .int .i64 0] 34)).frozen? ⟨w.heap.size + 1, 0, none⟩ = false := by go_simp
  have f1 : ((w.alloc (.cells #[.float .f64 h, .float .f64 l] 26)).alloc (.cells #[.bool false, .slice none 0 0, .int .i64 0] 34)).frozen? ⟨w.heap.size + 1, 1, none⟩ = false := by go_simp
  have f2 : ((w.alloc (.cells #[.float .f64 h, .float .f64 l] 26)).alloc (.cells #[.bool false, .slice none 0 0, .int .i64 0] 34)).frozen? ⟨w.heap.size + 1, 2, none⟩ = false := by go_simp
  have hs : Hid (w.heap.size + 2 ≤ ((w.alloc (.cells #[.float .f64 h, .float .f64 l] 26)).alloc (.cells #[.bool false, .slice none 0 0, .int .i64 0] 34)).heap.size) := by show w.heap.size + 2 ≤ _; simp
  go_enter Tryz.func7, Tryz.ntmps7
  go_wp2_with fail
  generalize ((w.alloc (.cells #[.float .f64 h, .float .f64 l] 26)).alloc (.cells #[.bool false, .slice none 0 0, .int .i64 0] 34)) = w0 at *
  refine Calls.mono (HR.out _) ?_
  rintro r w1 ⟨rfl, bN⟩
  replace f0 := dcarry_frozen bN z0 f0
  replace f1 := dcarry_frozen bN z1 f1
  replace f2 := dcarry_frozen bN z2 f2
  replace p0 := dcarry_cell bN p0
  replace p1 := dcarry_cell bN p1
  replace z0 := dcarry_cell bN z0
  replace z1 := dcarry_cell bN z1
  replace z2 := dcarry_cell bN z2
  replace bw := nbelow_trans bw bN
  replace hs := le_hid hs bN.size
  clear bN
  go_wp2_with fail
  refine bodyPost_ret (v := .tuple #[dyV false none 0 0 0, .int .i64 2]) (by simp [results, Tryz.results7, go_sem, z0, z1, z2]) rfl ⟨rfl, ?_⟩
  repeat (first | exact bw | refine Below.setCell ?_ (by simp) _)

set_option maxRecDepth 100000 in
set_option maxHeartbeats 2000000 in
theorem dvalue_good (h l : Nat) (w : World) (hh : h < 18446744073709551616) (hl : l < 18446744073709551616) (hr : Fp.rightP h l = true) (hT : Tab w) :
    Calls Tryz.prog 7 #[.agg #[.float .f64 h, .float .f64 l]] w fun r w' => ∃ v', r = .returned (.tuple #[v', .int .i64 0]) ∧ DyAt w.heap.size w' v' (sumD (fromP (h : Int)) (fromP (l : Int))) ∧ Below w.heap.size w w' := by
  have HR : Hid _ := fun w => Fp.dRight_calls h l w hh
  rw [hr] at HR
  have q0 := Fp.abits_run
  have Hh : Hid (U (h : Int)) := U_nat hh
  have Hl : Hid (U (l : Int)) := U_nat hl
  have HT : Hid (∀ w', Below w.heap.size w w' → Tab w') := fun w' hb => hT.kept hb
  have HAdd : Hid (∀ a n c b m d W, n ≤ 1024 → m ≤ 1024 → IsW W a n c (wordsOf (fromP (h : Int)).2.1) → IsW W b m d (wordsOf (fromP (l : Int)).2.1) → Tab W → Calls Tryz.prog 26 #[dyV (fromP (h : Int)).1 a n c (fromP (h : Int)).2.2, dyV (fromP (l : Int)).1 b m d (fromP (l : Int)).2.2] W fun r w' => ∃ v', r = .returned (.tuple #[v', .int .i64 0]) ∧ DyAt W.heap.size w' v' (sumD (fromP (h : Int)) (fromP (l : Int))) ∧ Below W.heap.size W w') := fun a n c b m d W i j p q T => by
    have := dadd_yes (fromP (h : Int)).1 a n c (wordsOf (fromP (h : Int)).2.1) (fromP (h : Int)).2.2 (fromP (l : Int)).1 b m d (wordsOf (fromP (l : Int)).2.1) (fromP (l : Int)).2.2 W p (by omega) q (by omega) T (by rw [val_words]; exact fr_right _) (by rw [val_words]; exact fr_right _)
    rw [val_words, val_words, form_of_can (fr_can _), form_of_can (fr_can _), (fr_sum_room _ _).1, (fr_sum_room _ _).2] at this
    exact this
  clear hh hl hr hT
  have bw : Below w.heap.size w ((w.alloc (.cells #[.float .f64 h, .float .f64 l] 26)).alloc (.cells #[.bool false, .slice none 0 0, .int .i64 0] 34)) := nbelow_trans (below_one _ _) (below_one _ _)
  have p0 : ((w.alloc (.cells #[.float .f64 h, .float .f64 l] 26)).alloc (.cells #[.bool false, .slice none 0 0, .int .i64 0] 34)).cell? ⟨w.heap.size, 0, none⟩ = some (.float .f64 h) := by go_simp
  have p1 : ((w.alloc (.cells #[.float .f64 h, .float .f64 l] 26)).alloc (.cells #[.bool false, .slice none 0 0, .int .i64 0] 34)).cell? ⟨w.heap.size, 1, none⟩ = some (.float .f64 l) := by go_simp
  have z0 : ((w.alloc (.cells #[.float .f64 h, .float .f64 l] 26)).alloc (.cells #[.bool false, .slice none 0 0, .int .i64 0] 34)).cell? ⟨w.heap.size + 1, 0, none⟩ = some (.bool false) := by go_simp
  have z1 : ((w.alloc (.cells #[.float .f64 h, .float .f64 l] 26)).alloc (.cells #[.bool false, .slice none 0 0, .int .i64 0] 34)).cell? ⟨w.heap.size + 1, 1, none⟩ = some (.slice none 0 0) := by go_simp
  have z2 : ((w.alloc (.cells #[.float .f64 h, .float .f64 l] 26)).alloc (.cells #[.bool false, .slice none 0 0, .int .i64 0] 34)).cell? ⟨w.heap.size + 1, 2, none⟩ = some (.int .i64 0) := by go_simp
  have f0 : ((w.alloc (.cells #[.float .f64 h, .float .f64 l] 26)).alloc (.cells #[.bool false, .slice none 0 0, .int .i64 0] 34)).frozen? ⟨w.heap.size + 1, 0, none⟩ = false := by go_simp
  have f1 : ((w.alloc (.cells #[.float .f64 h, .float .f64 l] 26)).alloc (.cells #[.bool false, .slice none 0 0, .int .i64 0] 34)).frozen? ⟨w.heap.size + 1, 1, none⟩ = false := by go_simp
  have f2 : ((w.alloc (.cells #[.float .f64 h, .float .f64 l] 26)).alloc (.cells #[.bool false, .slice none 0 0, .int .i64 0] 34)).frozen? ⟨w.heap.size + 1, 2, none⟩ = false := by go_simp
  have hs : Hid (w.heap.size + 2 ≤ ((w.alloc (.cells #[.float .f64 h, .float .f64 l] 26)).alloc (.cells #[.bool false, .slice none 0 0, .int .i64 0] 34)).heap.size) := by show w.heap.size + 2 ≤ _; simp
  go_enter Tryz.func7, Tryz.ntmps7
  go_wp2_with fail
  generalize ((w.alloc (.cells #[.float .f64 h, .float .f64 l] 26)).alloc (.cells #[.bool false, .slice none 0 0, .int .i64 0] 34)) = w0 at *
  refine Calls.mono (HR.out _) ?_
  rintro r w1 ⟨rfl, bN⟩
  replace f0 := dcarry_frozen bN z0 f0
  replace f1 := dcarry_frozen bN z1 f1
  replace f2 := dcarry_frozen bN z2 f2
  replace p0 := dcarry_cell bN p0
  replace p1 := dcarry_cell bN p1
  replace z0 := dcarry_cell bN z0
  replace z1 := dcarry_cell bN z1
  replace z2 := dcarry_cell bN z2
  replace bw := nbelow_trans bw bN
  replace hs := le_hid hs bN.size
  clear bN
  go_wp2_with fail
  refine Calls.mono (pfrom_calls (h : Int) _ Hh.out (HT.out _ bw)) ?_
  rintro r w2 ⟨_, rfl, ⟨ah, nah, cah, rfl, HN, hn, hO⟩, bN⟩
  replace f0 := dcarry_frozen bN z0 f0
  replace f1 := dcarry_frozen bN z1 f1
  replace f2 := dcarry_frozen bN z2 f2
  replace p0 := dcarry_cell bN p0
  replace p1 := dcarry_cell bN p1
  replace z0 := dcarry_cell bN z0
  replace z1 := dcarry_cell bN z1
  replace z2 := dcarry_cell bN z2
  replace bw := nbelow_trans bw bN
  replace hs := le_hid hs bN.size
  have hnah := hn
  clear hn
  have Ih := hO.1
  clear hO HN bN
  have bA := below_one w2 (.cells #[.bool (fromP (h : Int)).1, .slice ah nah cah, .int .i64 (fromP (h : Int)).2.2] 34)
  replace f0 := dcarry_frozen bA z0 f0
  replace f1 := dcarry_frozen bA z1 f1
  replace f2 := dcarry_frozen bA z2 f2
  replace p0 := dcarry_cell bA p0
  replace p1 := dcarry_cell bA p1
  replace z0 := dcarry_cell bA z0
  replace z1 := dcarry_cell bA z1
  replace z2 := dcarry_cell bA z2
  replace Ih := Ih.keep bA
  replace bw := nbelow_trans bw bA
  replace hs := le_hid hs bA.size
  have h0 : (w2.alloc (.cells #[.bool (fromP (h : Int)).1, .slice ah nah cah, .int .i64 (fromP (h : Int)).2.2] 34)).cell? ⟨w2.heap.size, 0, none⟩ = some (.bool (fromP (h : Int)).1) := by go_simp
  have h1 : (w2.alloc (.cells #[.bool (fromP (h : Int)).1, .slice ah nah cah, .int .i64 (fromP (h : Int)).2.2] 34)).cell? ⟨w2.heap.size, 1, none⟩ = some (.slice ah nah cah) := by go_simp
  have h2 : (w2.alloc (.cells #[.bool (fromP (h : Int)).1, .slice ah nah cah, .int .i64 (fromP (h : Int)).2.2] 34)).cell? ⟨w2.heap.size, 2, none⟩ = some (.int .i64 (fromP (h : Int)).2.2) := by go_simp
  clear bA
  go_wp2_with fail
  generalize (w2.alloc (.cells #[.bool (fromP (h : Int)).1, .slice ah nah cah, .int .i64 (fromP (h : Int)).2.2] 34)) = w3 at *
  refine Calls.mono (pfrom_calls (l : Int) _ Hl.out (HT.out _ bw)) ?_
  rintro r w4 ⟨_, rfl, ⟨al, nal, cal, rfl, HN, hn, hO⟩, bN⟩
  replace f0 := dcarry_frozen bN z0 f0
  replace f1 := dcarry_frozen bN z1 f1
  replace f2 := dcarry_frozen bN z2 f2
  replace p0 := dcarry_cell bN p0
  replace p1 := dcarry_cell bN p1
  replace z0 := dcarry_cell bN z0
  replace z1 := dcarry_cell bN z1
  replace z2 := dcarry_cell bN z2
  replace h0 := dcarry_cell bN h0
  replace h1 := dcarry_cell bN h1
  replace h2 := dcarry_cell bN h2
  replace Ih := Ih.keep bN
  replace bw := nbelow_trans bw bN
  replace hs := le_hid hs bN.size
  have hnal := hn
  clear hn
  have Il := hO.1
  clear hO HN bN
  have bA := below_one w4 (.cells #[.bool (fromP (l : Int)).1, .slice al nal cal, .int .i64 (fromP (l : Int)).2.2] 34)
  replace f0 := dcarry_frozen bA z0 f0
  replace f1 := dcarry_frozen bA z1 f1
  replace f2 := dcarry_frozen bA z2 f2
  replace p0 := dcarry_cell bA p0
  replace p1 := dcarry_cell bA p1
  replace z0 := dcarry_cell bA z0
  replace z1 := dcarry_cell bA z1
  replace z2 := dcarry_cell bA z2
  replace h0 := dcarry_cell bA h0
  replace h1 := dcarry_cell bA h1
  replace h2 := dcarry_cell bA h2
  replace Ih := Ih.keep bA
  replace Il := Il.keep bA
  replace bw := nbelow_trans bw bA
  replace hs := le_hid hs bA.size
  have l0 : (w4.alloc (.cells #[.bool (fromP (l : Int)).1, .slice al nal cal, .int .i64 (fromP (l : Int)).2.2] 34)).cell? ⟨w4.heap.size, 0, none⟩ = some (.bool (fromP (l : Int)).1) := by go_simp
  have l1 : (w4.alloc (.cells #[.bool (fromP (l : Int)).1, .slice al nal cal, .int .i64 (fromP (l : Int)).2.2] 34)).cell? ⟨w4.heap.size, 1, none⟩ = some (.slice al nal cal) := by go_simp
  have l2 : (w4.alloc (.cells #[.bool (fromP (l : Int)).1, .slice al nal cal, .int .i64 (fromP (l : Int)).2.2] 34)).cell? ⟨w4.heap.size, 2, none⟩ = some (.int .i64 (fromP (l : Int)).2.2) := by go_simp
  clear bA
  go_wp2_with fail
  generalize (w4.alloc (.cells #[.bool (fromP (l : Int)).1, .slice al nal cal, .int .i64 (fromP (l : Int)).2.2] 34)) = w5 at *
  refine Calls.mono (HAdd.out _ _ _ _ _ _ _ hnah hnal Ih Il (HT.out _ bw)) ?_
  rintro r w6 ⟨_, rfl, ⟨ar, nr, cr, rfl, HN, hnr, hOr⟩, bN⟩
  have hsz := hs.out
  have hlow : w.heap.size + 2 ≤ w5.heap.size := hsz
  replace f0 := dcarry_frozen bN z0 f0
  replace f1 := dcarry_frozen bN z1 f1
  replace f2 := dcarry_frozen bN z2 f2
  replace p0 := dcarry_cell bN p0
  replace p1 := dcarry_cell bN p1
  replace z0 := dcarry_cell bN z0
  replace z1 := dcarry_cell bN z1
  replace z2 := dcarry_cell bN z2
  replace bw := nbelow_trans bw bN
  replace hs := le_hid hs bN.size
  clear bN hsz
  have hOr' := hOr.low hlow
  clear hOr hlow
  go_wp2_with fail
  refine bodyPost_ret (v := .tuple #[dyV (sumD (fromP (h : Int)) (fromP (l : Int))).1 ar nr cr (sumD (fromP (h : Int)) (fromP (l : Int))).2.2, .int .i64 0]) (by simp [results, Tryz.results7, go_sem, z0, z1, z2]) rfl ⟨_, rfl, ⟨ar, nr, cr, rfl, HN, hnr, ?_⟩, ?_⟩
  · exact (((hOr'.far _ _ (by simp)).far _ _ (by simp)).far _ _ (by simp)).low (by omega)
  · repeat (first | exact bw | refine Below.setCell ?_ (by simp) _)


attribute [local go_sem] Fp.ran_store

end Go.Proofs.YtjapgogiaklodaaGreatDoor

/- What a pair is: the program's Value, the document's Exact; a float as a pair. -/
import Derived.Test.YtlbaphijmonjoaaDF0T
import Derived.Test.YtlbaphijmonjoaaTMC
import Derived.Test.YtlbaphijmonjoaaRD6
import Derived.Test.YtlbaphijmonjoaaRD13
import Derived.Test.YtlbaphijmonjoaaHFB
namespace Go.Proofs.Ytlbaphijmonjoaa
open Go.RowKit

def valP (h l : Nat) : Bool × Nat × Int := if Fp.rightP h l = true then sumD (fromP (h : Int)) (fromP (l : Int)) else (false, 0, 0)
theorem U_nat {x : Nat} (h : x < 18446744073709551616) : U (x : Int) := by unfold U; omega

theorem le_hid {a b c : Nat} (h : Hid (a ≤ b)) (k : b ≤ c) : Hid (a ≤ c) := Nat.le_trans h k

theorem fr_len (x : Int) : (wordsOf (fromP x).2.1).length ≤ 1024 := by
  have := fr_right x
  exact (words_len2 _ _).2 ((great_not _).1 (rightB_yes this).1)

set_option maxRecDepth 100000 in
set_option maxHeartbeats 2000000 in
theorem rexact_calls (h l : Nat) (w : World) (hh : h < 18446744073709551616) (hl : l < 18446744073709551616) :
    Calls Try.prog 7 #[.agg #[.float .f64 h, .float .f64 l]] w fun r w' => ∃ v', r = .returned v' ∧ DyQ w.heap.size w' v' (sumD (fromP (h : Int)) (fromP (l : Int))) ∧ Below w.heap.size w w' := by
  have q0 := Fp.abits_run
  have Hh : Hid (U (h : Int)) := U_nat hh
  have Hl : Hid (U (l : Int)) := U_nat hl
  have HAdd : Hid (∀ a n c b m d W, n ≤ 1024 → m ≤ 1024 → IsW W a n c (wordsOf (fromP (h : Int)).2.1) → IsW W b m d (wordsOf (fromP (l : Int)).2.1) → Calls Try.prog 12 #[dyV (fromP (h : Int)).1 a n c (fromP (h : Int)).2.2, dyV (fromP (l : Int)).1 b m d (fromP (l : Int)).2.2] W fun r w' => ∃ v', r = .returned v' ∧ DyQ W.heap.size w' v' (sumD (fromP (h : Int)) (fromP (l : Int))) ∧ Below W.heap.size W w') := fun a n c b m d W i j p q => by
    have g1 := rightB_yes (fr_right (h : Int))
    have g2 := rightB_yes (fr_right (l : Int))
    have b1 := (great_not _).1 g1.1
    have b2 := (great_not _).1 g2.1
    have := qPlus_calls (fromP (h : Int)).1 a n c (wordsOf (fromP (h : Int)).2.1) (fromP (h : Int)).2.2 (fromP (l : Int)).1 b m d (wordsOf (fromP (l : Int)).2.1) (fromP (l : Int)).2.2 W p (by omega) q (by omega) (by omega) (by omega) (by rw [val_words]; omega) (by rw [val_words]; omega)
    rw [val_words, val_words, form_of_can (fr_can _), form_of_can (fr_can _)] at this
    exact this
  clear hh hl
  have bw : Below w.heap.size w ((w.alloc (.cells #[.float .f64 h, .float .f64 l] 24)).alloc (.cells #[.bool false, .slice none 0 0, .int .i64 0] 30)) := nbelow_trans (below_one _ _) (below_one _ _)
  have p0 : ((w.alloc (.cells #[.float .f64 h, .float .f64 l] 24)).alloc (.cells #[.bool false, .slice none 0 0, .int .i64 0] 30)).cell? ⟨w.heap.size, 0, none⟩ = some (.float .f64 h) := by go_simp
  have p1 : ((w.alloc (.cells #[.float .f64 h, .float .f64 l] 24)).alloc (.cells #[.bool false, .slice none 0 0, .int .i64 0] 30)).cell? ⟨w.heap.size, 1, none⟩ = some (.float .f64 l) := by go_simp
  have z0 : ((w.alloc (.cells #[.float .f64 h, .float .f64 l] 24)).alloc (.cells #[.bool false, .slice none 0 0, .int .i64 0] 30)).cell? ⟨w.heap.size + 1, 0, none⟩ = some (.bool false) := by go_simp
  have z1 : ((w.alloc (.cells #[.float .f64 h, .float .f64 l] 24)).alloc (.cells #[.bool false, .slice none 0 0, .int .i64 0] 30)).cell? ⟨w.heap.size + 1, 1, none⟩ = some (.slice none 0 0) := by go_simp
  have z2 : ((w.alloc (.cells #[.float .f64 h, .float .f64 l] 24)).alloc (.cells #[.bool false, .slice none 0 0, .int .i64 0] 30)).cell? ⟨w.heap.size + 1, 2, none⟩ = some (.int .i64 0) := by go_simp
  have f0 : ((w.alloc (.cells #[.float .f64 h, .float .f64 l] 24)).alloc (.cells #[.bool false, .slice none 0 0, .int .i64 0] 30)).frozen? ⟨w.heap.size + 1, 0, none⟩ = false := by go_simp
  have f1 : ((w.alloc (.cells #[.float .f64 h, .float .f64 l] 24)).alloc (.cells #[.bool false, .slice none 0 0, .int .i64 0] 30)).frozen? ⟨w.heap.size + 1, 1, none⟩ = false := by go_simp
  have f2 : ((w.alloc (.cells #[.float .f64 h, .float .f64 l] 24)).alloc (.cells #[.bool false, .slice none 0 0, .int .i64 0] 30)).frozen? ⟨w.heap.size + 1, 2, none⟩ = false := by go_simp
  have hs : Hid (w.heap.size + 2 ≤ ((w.alloc (.cells #[.float .f64 h, .float .f64 l] 24)).alloc (.cells #[.bool false, .slice none 0 0, .int .i64 0] 30)).heap.size) := by show w.heap.size + 2 ≤ _; simp
  go_enter Try.func7, Try.ntmps7
  go_wp2_with fail
  generalize ((w.alloc (.cells #[.float .f64 h, .float .f64 l] 24)).alloc (.cells #[.bool false, .slice none 0 0, .int .i64 0] 30)) = w0 at *
  refine Calls.mono (qfrom_calls (h : Int) _ Hh.out) ?_
  rintro r w2 ⟨_, rfl, ⟨ah, nah, cah, rfl, HN, hO⟩, bN⟩
  replace f0 := dcarry_frozen bN z0 f0
  replace f1 := dcarry_frozen bN z1 f1
  replace f2 := dcarry_frozen bN z2 f2
  replace p0 := dcarry_cell bN p0
  replace p1 := dcarry_cell bN p1
  replace z0 := dcarry_cell bN z0
  replace z1 := dcarry_cell bN z1
  replace z2 := dcarry_cell bN z2
  replace bw := nbelow_trans bw bN
  replace hs := le_hid hs bN.size
  have hnah : nah ≤ 1024 := by rw [HN.out]; exact fr_len _
  have Ih := hO.1
  clear hO HN bN
  have bA := below_one w2 (.cells #[.bool (fromP (h : Int)).1, .slice ah nah cah, .int .i64 (fromP (h : Int)).2.2] 30)
  replace f0 := dcarry_frozen bA z0 f0
  replace f1 := dcarry_frozen bA z1 f1
  replace f2 := dcarry_frozen bA z2 f2
  replace p0 := dcarry_cell bA p0
  replace p1 := dcarry_cell bA p1
  replace z0 := dcarry_cell bA z0
  replace z1 := dcarry_cell bA z1
  replace z2 := dcarry_cell bA z2
  replace Ih := Ih.keep bA
  replace bw := nbelow_trans bw bA
  replace hs := le_hid hs bA.size
  have h0 : (w2.alloc (.cells #[.bool (fromP (h : Int)).1, .slice ah nah cah, .int .i64 (fromP (h : Int)).2.2] 30)).cell? ⟨w2.heap.size, 0, none⟩ = some (.bool (fromP (h : Int)).1) := by go_simp
  have h1 : (w2.alloc (.cells #[.bool (fromP (h : Int)).1, .slice ah nah cah, .int .i64 (fromP (h : Int)).2.2] 30)).cell? ⟨w2.heap.size, 1, none⟩ = some (.slice ah nah cah) := by go_simp
  have h2 : (w2.alloc (.cells #[.bool (fromP (h : Int)).1, .slice ah nah cah, .int .i64 (fromP (h : Int)).2.2] 30)).cell? ⟨w2.heap.size, 2, none⟩ = some (.int .i64 (fromP (h : Int)).2.2) := by go_simp
  clear bA
  go_wp2_with fail
  generalize (w2.alloc (.cells #[.bool (fromP (h : Int)).1, .slice ah nah cah, .int .i64 (fromP (h : Int)).2.2] 30)) = w3 at *
  refine Calls.mono (qfrom_calls (l : Int) _ Hl.out) ?_
  rintro r w4 ⟨_, rfl, ⟨al, nal, cal, rfl, HN, hO⟩, bN⟩
  replace f0 := dcarry_frozen bN z0 f0
  replace f1 := dcarry_frozen bN z1 f1
  replace f2 := dcarry_frozen bN z2 f2
  replace p0 := dcarry_cell bN p0
  replace p1 := dcarry_cell bN p1
  replace z0 := dcarry_cell bN z0
  replace z1 := dcarry_cell bN z1
  replace z2 := dcarry_cell bN z2
  replace h0 := dcarry_cell bN h0
  replace h1 := dcarry_cell bN h1
  replace h2 := dcarry_cell bN h2
  replace Ih := Ih.keep bN
  replace bw := nbelow_trans bw bN
  replace hs := le_hid hs bN.size
  have hnal : nal ≤ 1024 := by rw [HN.out]; exact fr_len _
  have Il := hO.1
  clear hO HN bN
  have bA := below_one w4 (.cells #[.bool (fromP (l : Int)).1, .slice al nal cal, .int .i64 (fromP (l : Int)).2.2] 30)
  replace f0 := dcarry_frozen bA z0 f0
  replace f1 := dcarry_frozen bA z1 f1
  replace f2 := dcarry_frozen bA z2 f2
  replace p0 := dcarry_cell bA p0
  replace p1 := dcarry_cell bA p1
  replace z0 := dcarry_cell bA z0
  replace z1 := dcarry_cell bA z1
  replace z2 := dcarry_cell bA z2
  replace h0 := dcarry_cell bA h0
  replace h1 := dcarry_cell bA h1
  replace h2 := dcarry_cell bA h2
  replace Ih := Ih.keep bA
  replace Il := Il.keep bA
  replace bw := nbelow_trans bw bA
  replace hs := le_hid hs bA.size
  have l0 : (w4.alloc (.cells #[.bool (fromP (l : Int)).1, .slice al nal cal, .int .i64 (fromP (l : Int)).2.2] 30)).cell? ⟨w4.heap.size, 0, none⟩ = some (.bool (fromP (l : Int)).1) := by go_simp
  have l1 : (w4.alloc (.cells #[.bool (fromP (l : Int)).1, .slice al nal cal, .int .i64 (fromP (l : Int)).2.2] 30)).cell? ⟨w4.heap.size, 1, none⟩ = some (.slice al nal cal) := by go_simp
  have l2 : (w4.alloc (.cells #[.bool (fromP (l : Int)).1, .slice al nal cal, .int .i64 (fromP (l : Int)).2.2] 30)).cell? ⟨w4.heap.size, 2, none⟩ = some (.int .i64 (fromP (l : Int)).2.2) := by go_simp
  clear bA
  go_wp2_with fail
  generalize (w4.alloc (.cells #[.bool (fromP (l : Int)).1, .slice al nal cal, .int .i64 (fromP (l : Int)).2.2] 30)) = w5 at *
  refine Calls.mono (HAdd.out _ _ _ _ _ _ _ hnah hnal Ih Il) ?_
  rintro r w6 ⟨_, rfl, ⟨ar, nr, cr, rfl, HN, hOr⟩, bN⟩
  have hsz := hs.out
  have hlow : w.heap.size + 2 ≤ w5.heap.size := hsz
  replace f0 := dcarry_frozen bN z0 f0
  replace f1 := dcarry_frozen bN z1 f1
  replace f2 := dcarry_frozen bN z2 f2
  replace p0 := dcarry_cell bN p0
  replace p1 := dcarry_cell bN p1
  replace z0 := dcarry_cell bN z0
  replace z1 := dcarry_cell bN z1
  replace z2 := dcarry_cell bN z2
  replace bw := nbelow_trans bw bN
  replace hs := le_hid hs bN.size
  clear bN hsz
  have hOr' := hOr.low hlow
  clear hOr hlow
  go_wp2_with fail
  refine bodyPost_ret (v := dyV (sumD (fromP (h : Int)) (fromP (l : Int))).1 ar nr cr (sumD (fromP (h : Int)) (fromP (l : Int))).2.2) (by simp [results, Try.results7, go_sem, z0, z1, z2]) rfl ⟨_, rfl, ⟨ar, nr, cr, rfl, HN, ?_⟩, ?_⟩
  · exact (((hOr'.far _ _ (by simp)).far _ _ (by simp)).far _ _ (by simp)).low (by omega)
  · repeat (first | exact bw | refine Below.setCell ?_ (by simp) _)

attribute [local go_sem] Fp.ran_store

set_option maxRecDepth 100000 in
set_option maxHeartbeats 2000000 in
theorem dof_good (x : Nat) (w : World) (hx : x < 18446744073709551616) (hr : Fp.rightP x 0 = true) :
    Calls Try.prog 21 #[.float .f64 x] w fun e w' => e = .returned (.tuple #[.agg #[.float .f64 x, .float .f64 0], .int .i64 0]) ∧ Below w.heap.size w w' := by
  have HA : Hid _ := fun w => Fp.wrong_calls x w hx
  rw [hr] at HA
  clear hx hr
  go_enter Try.func21, Try.ntmps21
  go_wp2_with fail
  refine Calls.mono (HA.out _) ?_
  rintro e w1 ⟨rfl, hb1⟩
  have m0 : w1.cell? ⟨w.heap.size, 0, none⟩ = some (.float .f64 0) := dcarry_cell hb1 (by go_simp)
  have m1 : w1.cell? ⟨w.heap.size, 1, none⟩ = some (.float .f64 0) := dcarry_cell hb1 (by go_simp)
  have k0 : w1.frozen? ⟨w.heap.size, 0, none⟩ = false := dcarry_frozen (v := .float .f64 0) hb1 (by go_simp) (by go_simp)
  have k1 : w1.frozen? ⟨w.heap.size, 1, none⟩ = false := dcarry_frozen (v := .float .f64 0) hb1 (by go_simp) (by go_simp)
  have b1 := nbelow_trans (below_one _ _) hb1
  clear hb1
  go_wp2_with fail
  exact bodyPost_ret (v := .tuple #[.agg #[.float .f64 x, .float .f64 0], .int .i64 0]) (by simp [results, Try.results21, go_sem, m0, m1]) rfl ⟨rfl, by repeat (first | exact b1 | refine Below.setCell ?_ (by simp) _)⟩
end Go.Proofs.Ytlbaphijmonjoaa

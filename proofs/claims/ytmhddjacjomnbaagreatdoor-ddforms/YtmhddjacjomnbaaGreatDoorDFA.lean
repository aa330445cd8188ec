/- What two floats are together, as dyadic numbers: it has room. What a pair is: the program's Value, the document's Exact; a float as a pair. -/
import Derived.Test.YtmhddjacjomnbaaGreatDoorDValU
import Derived.Test.YtmhddjacjomnbaaGreatDoorPFA
import Derived.Test.YtmhddjacjomnbaaGreatDoorDGA
import Derived.Test.YtmhddjacjomnbaaGreatDoorRDN
import Derived.Test.YtmhddjacjomnbaaGreatDoorRD13
import Derived.Test.YtmhddjacjomnbaaGreatDoorHFB
namespace Go.Proofs.YtmhddjacjomnbaaGreatDoor

section
open Go.RowKit

theorem fr_can (x : Int) : CanD (fromP x) := by
  unfold fromP
  split
  · exact form_can _ _ _
  · exact Or.inl rfl
theorem cnt_lt (x : Int) : (countV x).toNat < 2 ^ 53 := by
  have := frac_bd x
  unfold countV
  split <;> omega
theorem unit_bd (x : Int) : -1074 ≤ unitV x ∧ unitV x ≤ 972 := by
  have := exp_bd x
  unfold unitV
  split <;> omega
theorem form_lo (s : Bool) (m : Nat) (e E : Int) (hE : E ≤ 0) (h : E ≤ e) : E ≤ (formD s m e).2.2 := by
  by_cases h0 : m = 0
  · rw [h0, form_zero]; exact hE
  · rw [form_pos s h0]; show E ≤ e + (tz m : Int); omega
theorem fr_low (x : Int) : -1074 ≤ (fromP x).2.2 := by
  unfold fromP
  split
  · exact form_lo _ _ _ _ (by decide) (unit_bd x).1
  · decide
theorem fr_right (x : Int) : rightB (fromP x).2.1 (fromP x).2.2 = true := by
  have hl := fr_low x
  have hb : blen (fromP x).2.1 ≤ 53 ∧ (fromP x).2.2 ≤ 1025 := by
    unfold fromP
    split
    · unfold fromD
      have hc := (blen_le _ 53).2 (cnt_lt x)
      refine ⟨Nat.le_trans (blen_mono (form_amount_le _ _ _)) hc, ?_⟩
      by_cases h0 : (countV x).toNat = 0
      · rw [h0, form_zero]; decide
      · rw [form_pos _ h0]
        have := unit_bd x
        have := tz_le_blen (countV x).toNat
        show unitV x + (tz (countV x).toNat : Int) ≤ 1025
        omega
    · exact ⟨by decide, by decide⟩
  unfold rightB inB
  rw [(great_not _).2 (by omega)]
  simp
  omega
theorem pow_two_lt {m i K : Nat} (hm : m < 2 ^ 53) (hi : i + 53 ≤ K) : m * 2 ^ i < 2 ^ K := by
  have h1 : m * 2 ^ i < 2 ^ 53 * 2 ^ i := Nat.mul_lt_mul_of_pos_right hm (Nat.two_pow_pos _)
  rw [← Nat.pow_add] at h1
  exact Nat.lt_of_lt_of_le h1 (Nat.pow_le_pow_right (by decide) (by omega))
theorem fr_units (x : Int) (K : Nat) (hK : 2099 ≤ K) : (vI (fromP x) (-1074)).natAbs < 2 ^ K := by
  unfold fromP
  split
  · unfold fromD
    have hu := unit_bd x
    rw [vI_form _ _ _ _ hu.1, Int.natAbs_mul]
    have h1 : (sI (sgnB x)).natAbs = 1 := by unfold sI; split <;> rfl
    rw [h1, Nat.one_mul, Int.natAbs_natCast]
    exact pow_two_lt (cnt_lt x) (by omega)
  · rw [vI_zero rfl]
    exact Nat.two_pow_pos _
theorem sum_canF {x y : Bool × Nat × Int} (hx : CanD x) (hy : CanD y) : CanD (sumD x y) := by
  have ha : ∀ s A t b e, CanD (addHi s A t b e) := fun s A t b e => by
    unfold addHi
    split
    · exact form_can _ _ _
    · split <;> exact form_can _ _ _
  unfold sumD
  split
  · exact hy
  · split
    · exact hx
    · split <;> exact ha _ _ _ _ _
theorem fr_sum_room (x y : Int) : roomE (sumD (fromP x) (fromP y)) = 0 ∧ roomP (sumD (fromP x) (fromP y)) = sumD (fromP x) (fromP y) := by
  obtain ⟨K, hK⟩ : ∃ K : Nat, K = 2099 := ⟨_, rfl⟩
  have h1 := fr_units x K (by omega)
  have h2 := fr_units y K (by omega)
  have hs := vI_sum (fromP x) (fromP y) (-1074) (fr_low x) (fr_low y)
  have hlo := sum_low (fromP x) (fromP y) (-1074) (by decide) (fr_low x) (fr_low y)
  have hc := sum_canF (fr_can x) (fr_can y)
  generalize sumD (fromP x) (fromP y) = p at *
  have h3 : (vI p (-1074)).natAbs < 2 ^ (K + 1) := by
    rw [hs, Nat.pow_succ]
    generalize 2 ^ K = B at *
    omega
  have h4 : (vI p (-1074)).natAbs = p.2.1 * 2 ^ (p.2.2 - -1074).toNat := by
    unfold vI
    rw [Int.natAbs_mul, Int.natAbs_natCast]
    have : (sI p.1).natAbs = 1 := by unfold sI; split <;> rfl
    rw [this, Nat.one_mul]
  rw [h4] at h3
  have h5 : p.2.1 < 2 ^ (K + 1) := Nat.lt_of_le_of_lt (Nat.le_mul_of_pos_right _ (Nat.two_pow_pos _)) h3
  have h6 := (blen_le _ _).2 h5
  by_cases h0 : p.2.1 = 0
  · have hp : p = (false, 0, 0) := by
      rcases hc with q | q
      · exact q
      · rw [h0] at q; exact absurd q (by decide)
    rw [hp]
    exact room_yes (p := (false, 0, 0)) (by decide +kernel) (by decide)
  · have h7 : 2 ^ (p.2.2 - -1074).toNat < 2 ^ (K + 1) := Nat.lt_of_le_of_lt (Nat.le_mul_of_pos_left _ (Nat.pos_of_ne_zero h0)) h3
    have h8 := (Nat.pow_lt_pow_iff_right (by decide : 1 < 2)).1 h7
    refine room_yes ((great_not _).2 (by omega)) ?_
    unfold inB
    rw [decide_eq_true_eq]
    omega

end

section
open Go.RowKit

def valP (h l : Nat) : Bool × Nat × Int := if Fp.rightP h l = true then sumD (fromP (h : Int)) (fromP (l : Int)) else (false, 0, 0)
theorem U_nat {x : Nat} (h : x < 18446744073709551616) : U (x : Int) := by unfold U; omega

theorem le_hid {a b c : Nat} (h : Hid (a ≤ b)) (k : b ≤ c) : Hid (a ≤ c) := Nat.le_trans h k

theorem fr_len (x : Int) : (wordsOf (fromP x).2.1).length ≤ 1024 := by
  have := fr_right x
  exact (words_len2 _ _).2 ((great_not _).1 (rightB_yes this).1)

set_option maxRecDepth 100000 in
set_option maxHeartbeats 2000000 in
theorem dvalue_bad (h l : Nat) (w : World) (hh : h < 18446744073709551616) (hr : Fp.rightP h l = false) :
    Calls Tryz.prog 5 #[.agg #[.float .f64 h, .float .f64 l]] w fun r w' => r = .returned (.tuple #[dyV false none 0 0 0, .int .i64 2]) ∧ Below w.heap.size w w' := by
  have HR : Hid _ := fun w => Fp.dRight_calls h l w hh
  rw [hr] at HR
  clear hh hr
  have bw : Below w.heap.size w ((w.alloc (.cells #[.float .f64 h, .float .f64 l] 24)).alloc (.cells #[.bool false, .slice none 0 0, .int .i64 0] 29)) := nbelow_trans (below_one _ _) (below_one _ _)
  have p0 : ((w.alloc (.cells #[.float .f64 h, .float .f64 l] 24)).alloc (.cells #[.bool false, .slice none 0 0, .int .i64 0] 29)).cell? ⟨w.heap.size, 0, none⟩ = some (.float .f64 h) := by go_simp
  have p1 : ((w.alloc (.cells #[.float .f64 h, .float .f64 l] 24)).alloc (.cells #[.bool false, .slice none 0 0, .int .i64 0] 29)).cell? ⟨w.heap.size, 1, none⟩ = some (.float .f64 l) := by go_simp
  have z0 : ((w.alloc (.cells #[.float .f64 h, .float .f64 l] 24)).alloc (.cells #[.bool false, .slice none 0 0, .int .i64 0] 29)).cell? ⟨w.heap.size + 1, 0, none⟩ = some (.bool false) := by go_simp
  have z1 : ((w.alloc (.cells #[.float .f64 h, .float .f64 l] 24)).alloc (.cells #[.bool false, .slice none 0 0, .int .i64 0] 29)).cell? ⟨w.heap.size + 1, 1, none⟩ = some (.slice none 0 0) := by go_simp
  have z2 : ((w.alloc (.cells #[.float .f64 h, .float .f64 l] 24)).alloc (.cells #[.bool false, .slice none 0 0, .int .i64 0] 29)).cell? ⟨w.heap.size + 1, 2, none⟩ = some (.int .i64 0) := by go_simp
  have f0 : ((w.alloc (.cells #[.float .f64 h, .float .f64 l] 24)).alloc (.cells #[.bool false, .slice none 0 0, .int .i64 0] 29)).frozen? ⟨w.heap.size + 1, 0, none⟩ = false := by go_simp
  have f1 : ((w.alloc (.cells #[.float .f64 h, .float .f64 l] 24)).alloc (.cells #[.bool false, .slice none 0 0, .int .i64 0] 29)).frozen? ⟨w.heap.size + 1, 1, none⟩ = false := by go_simp
  have f2 : ((w.alloc (.cells #[.float .f64 h, .float .f64 l] 24)).alloc (.cells #[.bool false, .slice none 0 0, .int .i64 0] 29)).frozen? ⟨w.heap.size + 1, 2, none⟩ = false := by go_simp
  have hs : Hid (w.heap.size + 2 ≤ ((w.alloc (.cells #[.float .f64 h, .float .f64 l] 24)).alloc (.cells #[.bool false, .slice none 0 0, .int .i64 0] 29)).heap.size) := by show w.heap.size + 2 ≤ _; simp
  go_enter Tryz.func5, Tryz.ntmps5
  go_wp2_with fail
  generalize ((w.alloc (.cells #[.float .f64 h, .float .f64 l] 24)).alloc (.cells #[.bool false, .slice none 0 0, .int .i64 0] 29)) = w0 at *
  refine Calls.mono (HR.out _) ?_
  rintro r w1 ⟨rfl, bN⟩
  replace f0 := dcarry_frozen bN z0 f0
  replace f1 := dcarry_frozen bN z1 f1
  replace f2 := dcarry_frozen bN z2 f2
  replace p0 := dcarry_cell bN p0
  replace p1 := dcarry_cell bN p1
  replace z0 := dcarry_cell bN z0
  replace z1 := dcarry_cell bN z1
  replace z2 := dcarry_cell bN z2
  replace bw := nbelow_trans bw bN
  replace hs := le_hid hs bN.size
  clear bN
  go_wp2_with fail
  refine bodyPost_ret (v := .tuple #[dyV false none 0 0 0, .int .i64 2]) (by simp [results, Tryz.results5, go_sem, z0, z1, z2]) rfl ⟨rfl, ?_⟩
  repeat (first | exact bw | refine Below.setCell ?_ (by simp) _)

set_option maxRecDepth 100000 in
set_option maxHeartbeats 2000000 in
theorem dvalue_good (h l : Nat) (w : World) (hh : h < 18446744073709551616) (hl : l < 18446744073709551616) (hr : Fp.rightP h l = true) (hT : Tab w) :
    Calls Tryz.prog 5 #[.agg #[.float .f64 h, .float .f64 l]] w fun r w' => ∃ v', r = .returned (.tuple #[v', .int .i64 0]) ∧ DyAt w.heap.size w' v' (sumD (fromP (h : Int)) (fromP (l : Int))) ∧ Below w.heap.size w w' := by
  have HR : Hid _ := fun w => Fp.dRight_calls h l w hh
  rw [hr] at HR
  have q0 := Fp.abits_run
  have Hh : Hid (U (h : Int)) := U_nat hh
  have Hl : Hid (U (l : Int)) := U_nat hl
  have HT : Hid (∀ w', Below w.heap.size w w' → Tab w') := fun w' hb => hT.kept hb
  have HAdd : Hid (∀ a n c b m d W, n ≤ 1024 → m ≤ 1024 → IsW W a n c (wordsOf (fromP (h : Int)).2.1) → IsW W b m d (wordsOf (fromP (l : Int)).2.1) → Tab W → Calls Tryz.prog 15 #[dyV (fromP (h : Int)).1 a n c (fromP (h : Int)).2.2, dyV (fromP (l : Int)).1 b m d (fromP (l : Int)).2.2] W fun r w' => ∃ v', r = .returned (.tuple #[v', .int .i64 0]) ∧ DyAt W.heap.size w' v' (sumD (fromP (h : Int)) (fromP (l : Int))) ∧ Below W.heap.size W w') := fun a n c b m d W i j p q T => by
    have := dadd_yes (fromP (h : Int)).1 a n c (wordsOf (fromP (h : Int)).2.1) (fromP (h : Int)).2.2 (fromP (l : Int)).1 b m d (wordsOf (fromP (l : Int)).2.1) (fromP (l : Int)).2.2 W p (by omega) q (by omega) T (by rw [val_words]; exact fr_right _) (by rw [val_words]; exact fr_right _)
    rw [val_words, val_words, form_of_can (fr_can _), form_of_can (fr_can _), (fr_sum_room _ _).1, (fr_sum_room _ _).2] at this
    exact this
  clear hh hl hr hT
  have bw : Below w.heap.size w ((w.alloc (.cells #[.float .f64 h, .float .f64 l] 24)).alloc (.cells #[.bool false, .slice none 0 0, .int .i64 0] 29)) := nbelow_trans (below_one _ _) (below_one _ _)
  have p0 : ((w.alloc (.cells #[.float .f64 h, .float .f64 l] 24)).alloc (.cells #[.bool false, .slice none 0 0, .int .i64 0] 29)).cell? ⟨w.heap.size, 0, none⟩ = some (.float .f64 h) := by go_simp
  have p1 : ((w.alloc (.cells #[.float .f64 h, .float .f64 l] 24)).alloc (.cells #[.bool false, .slice none 0 0, .int .i64 0] 29)).cell? ⟨w.heap.size, 1, none⟩ = some (.float .f64 l) := by go_simp
  have z0 : ((w.alloc (.cells #[.float .f64 h, .float .f64 l] 24)).alloc (.cells #[.bool false, .slice none 0 0, .int .i64 0] 29)).cell? ⟨w.heap.size + 1, 0, none⟩ = some (.bool false) := by go_simp
  have z1 : ((w.alloc (.cells #[.float .f64 h, .float .f64 l] 24)).alloc (.cells #[.bool false, .slice none 0 0, .int .i64 0] 29)).cell? ⟨w.heap.size + 1, 1, none⟩ = some (.slice none 0 0) := by go_simp
  have z2 : ((w.alloc (.cells #[.float .f64 h, .float .f64 l] 24)).alloc (.cells #[.bool false, .slice none 0 0, .int .i64 0] 29)).cell? ⟨w.heap.size + 1, 2, none⟩ = some (.int .i64 0) := by go_simp
  have f0 : ((w.alloc (.cells #[.float .f64 h, .float .f64 l] 24)).alloc (.cells #[.bool false, .slice none 0 0, .int .i64 0] 29)).frozen? ⟨w.heap.size + 1, 0, none⟩ = false := by go_simp
  have f1 : ((w.alloc (.cells #[.float .f64 h, .float .f64 l] 24)).alloc (.cells #[.bool false, .slice none 0 0, .int .i64 0] 29)).frozen? ⟨w.heap.size + 1, 1, none⟩ = false := by go_simp
  have f2 : ((w.alloc (.cells #[.float .f64 h, .float .f64 l] 24)).alloc (.cells #[.bool false, .slice none 0 0, .int .i64 0] 29)).frozen? ⟨w.heap.size + 1, 2, none⟩ = false := by go_simp
  have hs : Hid (w.heap.size + 2 ≤ ((w.alloc (.cells #[.float .f64 h, .float .f64 l] 24)).alloc (.cells #[.bool false, .slice none 0 0, .int .i64 0] 29)).heap.size) := by show w.heap.size + 2 ≤ _; simp
  go_enter Tryz.func5, Tryz.ntmps5
  go_wp2_with fail
  generalize ((w.alloc (.cells #[.float .f64 h, .float .f64 l] 24)).alloc (.cells #[.bool false, .slice none 0 0, .int .i64 0] 29)) = w0 at *
  refine Calls.mono (HR.out _) ?_
  rintro r w1 ⟨rfl, bN⟩
  replace f0 := dcarry_frozen bN z0 f0
  replace f1 := dcarry_frozen bN z1 f1
  replace f2 := dcarry_frozen bN z2 f2
  replace p0 := dcarry_cell bN p0
  replace p1 := dcarry_cell bN p1
  replace z0 := dcarry_cell bN z0
  replace z1 := dcarry_cell bN z1
  replace z2 := dcarry_cell bN z2
  replace bw := nbelow_trans bw bN
  replace hs := le_hid hs bN.size
  clear bN
  go_wp2_with fail
  refine Calls.mono (pfrom_calls (h : Int) _ Hh.out (HT.out _ bw)) ?_
  rintro r w2 ⟨_, rfl, ⟨ah, nah, cah, rfl, HN, hn, hO⟩, bN⟩
  replace f0 := dcarry_frozen bN z0 f0
  replace f1 := dcarry_frozen bN z1 f1
  replace f2 := dcarry_frozen bN z2 f2
  replace p0 := dcarry_cell bN p0
  replace p1 := dcarry_cell bN p1
  replace z0 := dcarry_cell bN z0
  replace z1 := dcarry_cell bN z1
  replace z2 := dcarry_cell bN z2
  replace bw := nbelow_trans bw bN
  replace hs := le_hid hs bN.size
  have hnah := hn
  clear hn
  have Ih := hO.1
  clear hO HN bN
  have bA := below_one w2 (.cells #[.bool (fromP (h : Int)).1, .slice ah nah cah, .int .i64 (fromP (h : Int)).2.2] 29)
  replace f0 := dcarry_frozen bA z0 f0
  replace f1 := dcarry_frozen bA z1 f1
  replace f2 := dcarry_frozen bA z2 f2
  replace p0 := dcarry_cell bA p0
  replace p1 := dcarry_cell bA p1
  replace z0 := dcarry_cell bA z0
  replace z1 := dcarry_cell bA z1
  replace z2 := dcarry_cell bA z2
  replace Ih := Ih.keep bA
  replace bw := nbelow_trans bw bA
  replace hs := le_hid hs bA.size
  have h0 : (w2.alloc (.cells #[.bool (fromP (h : Int)).1, .slice ah nah cah, .int .i64 (fromP (h : Int)).2.2] 29)).cell? ⟨w2.heap.size, 0, none⟩ = some (.bool (fromP (h : Int)).1) := by go_simp
  have h1 : (w2.alloc (.cells #[.bool (fromP (h : Int)).1, .slice ah nah cah, .int .i64 (fromP (h : Int)).2.2] 29)).cell? ⟨w2.heap.size, 1, none⟩ = some (.slice ah nah cah) := by go_simp
  have h2 : (w2.alloc (.cells #[.bool (fromP (h : Int)).1, .slice ah nah cah, .int .i64 (fromP (h : Int)).2.2] 29)).cell? ⟨w2.heap.size, 2, none⟩ = some (.int .i64 (fromP (h : Int)).2.2) := by go_simp
  clear bA
  go_wp2_with fail
  generalize (w2.alloc (.cells #[.bool (fromP (h : Int)).1, .slice ah nah cah, .int .i64 (fromP (h : Int)).2.2] 29)) = w3 at *
  refine Calls.mono (pfrom_calls (l : Int) _ Hl.out (HT.out _ bw)) ?_
  rintro r w4 ⟨_, rfl, ⟨al, nal, cal, rfl, HN, hn, hO⟩, bN⟩
  replace f0 := dcarry_frozen bN z0 f0
  replace f1 := dcarry_frozen bN z1 f1
  replace f2 := dcarry_frozen bN z2 f2
  replace p0 := dcarry_cell bN p0
  replace p1 := dcarry_cell bN p1
  replace z0 := dcarry_cell bN z0
  replace z1 := dcarry_cell bN z1
  replace z2 := dcarry_cell bN z2
  replace h0 := dcarry_cell bN h0
  replace h1 := dcarry_cell bN h1
  replace h2 := dcarry_cell bN h2
  replace Ih := Ih.keep bN
  replace bw := nbelow_trans bw bN
  replace hs := le_hid hs bN.size
  have hnal := hn
  clear hn
  have Il := hO.1
  clear hO HN bN
  have bA := below_one w4 (.cells #[.bool (fromP (l : Int)).1, .slice al nal cal, .int .i64 (fromP (l : Int)).2.2] 29)
  replace f0 := dcarry_frozen bA z0 f0
  replace f1 := dcarry_frozen bA z1 f1
  replace f2 := dcarry_frozen bA z2 f2
  replace p0 := dcarry_cell bA p0
  replace p1 := dcarry_cell bA p1
  replace z0 := dcarry_cell bA z0
  replace z1 := dcarry_cell bA z1
  replace z2 := dcarry_cell bA z2
  replace h0 := dcarry_cell bA h0
  replace h1 := dcarry_cell bA h1
  replace h2 := dcarry_cell bA h2
  replace Ih := Ih.keep bA
  replace Il := Il.keep bA
  replace bw := nbelow_trans bw bA
  replace hs := le_hid hs bA.size
  have l0 : (w4.alloc (.cells #[.bool (fromP (l : Int)).1, .slice al nal cal, .int .i64 (fromP (l : Int)).2.2] 29)).cell? ⟨w4.heap.size, 0, none⟩ = some (.bool (fromP (l : Int)).1) := by go_simp
  have l1 : (w4.alloc (.cells #[.bool (fromP (l : Int)).1, .slice al nal cal, .int .i64 (fromP (l : Int)).2.2] 29)).cell? ⟨w4.heap.size, 1, none⟩ = some (.slice al nal cal) := by go_simp
  have l2 : (w4.alloc (.cells #[.bool (fromP (l : Int)).1, .slice al nal cal, .int .i64 (fromP (l : Int)).2.2] 29)).cell? ⟨w4.heap.size, 2, none⟩ = some (.int .i64 (fromP (l : Int)).2.2) := by go_simp
  clear bA
  go_wp2_with fail
  generalize (w4.alloc (.cells #[.bool (fromP (l : Int)).1, .slice al nal cal, .int .i64 (fromP (l : Int)).2.2] 29)) = w5 at *
  refine Calls.mono (HAdd.out _ _ _ _ _ _ _ hnah hnal Ih Il (HT.out _ bw)) ?_
  rintro r w6 ⟨_, rfl, ⟨ar, nr, cr, rfl, HN, hnr, hOr⟩, bN⟩
  have hsz := hs.out
  have hlow : w.heap.size + 2 ≤ w5.heap.size := hsz
  replace f0 := dcarry_frozen bN z0 f0
  replace f1 := dcarry_frozen bN z1 f1
  replace f2 := dcarry_frozen bN z2 f2
  replace p0 := dcarry_cell bN p0
  replace p1 := dcarry_cell bN p1
  replace z0 := dcarry_cell bN z0
  replace z1 := dcarry_cell bN z1
  replace z2 := dcarry_cell bN z2
  replace bw := nbelow_trans bw bN
  replace hs := le_hid hs bN.size
  clear bN hsz
  have hOr' := hOr.low hlow
  clear hOr hlow
  go_wp2_with fail
  refine bodyPost_ret (v := .tuple #[dyV (sumD (fromP (h : Int)) (fromP (l : Int))).1 ar nr cr (sumD (fromP (h : Int)) (fromP (l : Int))).2.2, .int .i64 0]) (by simp [results, Tryz.results5, go_sem, z0, z1, z2]) rfl ⟨_, rfl, ⟨ar, nr, cr, rfl, HN, hnr, ?_⟩, ?_⟩
  · exact (((hOr'.far _ _ (by simp)).far _ _ (by simp)).far _ _ (by simp)).low (by omega)
  · repeat (first | exact bw | refine Below.setCell ?_ (by simp) _)

set_option maxRecDepth 100000 in
set_option maxHeartbeats 2000000 in
theorem rexact_calls (h l : Nat) (w : World) (hh : h < 18446744073709551616) (hl : l < 18446744073709551616) :
    Calls Tryz.prog 10 #[.agg #[.float .f64 h, .float .f64 l]] w fun r w' => ∃ v', r = .returned v' ∧ DyQ w.heap.size w' v' (sumD (fromP (h : Int)) (fromP (l : Int))) ∧ Below w.heap.size w w' := by
  have q0 := Fp.abits_run
  have Hh : Hid (U (h : Int)) := U_nat hh
  have Hl : Hid (U (l : Int)) := U_nat hl
  have HAdd : Hid (∀ a n c b m d W, n ≤ 1024 → m ≤ 1024 → IsW W a n c (wordsOf (fromP (h : Int)).2.1) → IsW W b m d (wordsOf (fromP (l : Int)).2.1) → Calls Tryz.prog 23 #[dyV (fromP (h : Int)).1 a n c (fromP (h : Int)).2.2, dyV (fromP (l : Int)).1 b m d (fromP (l : Int)).2.2] W fun r w' => ∃ v', r = .returned v' ∧ DyQ W.heap.size w' v' (sumD (fromP (h : Int)) (fromP (l : Int))) ∧ Below W.heap.size W w') := fun a n c b m d W i j p q => by
    have g1 := rightB_yes (fr_right (h : Int))
    have g2 := rightB_yes (fr_right (l : Int))
    have b1 := (great_not _).1 g1.1
    have b2 := (great_not _).1 g2.1
    have := qPlus_calls (fromP (h : Int)).1 a n c (wordsOf (fromP (h : Int)).2.1) (fromP (h : Int)).2.2 (fromP (l : Int)).1 b m d (wordsOf (fromP (l : Int)).2.1) (fromP (l : Int)).2.2 W p (by omega) q (by omega) (by omega) (by omega) (by rw [val_words]; omega) (by rw [val_words]; omega)
    rw [val_words, val_words, form_of_can (fr_can _), form_of_can (fr_can _)] at this
    exact this
  clear hh hl
  have bw : Below w.heap.size w ((w.alloc (.cells #[.float .f64 h, .float .f64 l] 24)).alloc (.cells #[.bool false, .slice none 0 0, .int .i64 0] 29)) := nbelow_trans (below_one _ _) (below_one _ _)
  have p0 : ((w.alloc (.cells #[.float .f64 h, .float .f64 l] 24)).alloc (.cells #[.bool false, .slice none 0 0, .int .i64 0] 29)).cell? ⟨w.heap.size, 0, none⟩ = some (.float .f64 h) := by go_simp
  have p1 : ((w.alloc (.cells #[.float .f64 h, .float .f64 l] 24)).alloc (.cells #[.bool false, .slice none 0 0, .int .i64 0] 29)).cell? ⟨w.heap.size, 1, none⟩ = some (.float .f64 l) := by go_simp
  have z0 : ((w.alloc (.cells #[.float .f64 h, .float .f64 l] 24)).alloc (.cells #[.bool false, .slice none 0 0, .int .i64 0] 29)).cell? ⟨w.heap.size + 1, 0, none⟩ = some (.bool false) := by go_simp
  have z1 : ((w.alloc (.cells #[.float .f64 h, .float .f64 l] 24)).alloc (.cells #[.bool false, .slice none 0 0, .int .i64 0] 29)).cell? ⟨w.heap.size + 1, 1, none⟩ = some (.slice none 0 0) := by go_simp
  have z2 : ((w.alloc (.cells #[.float .f64 h, .float .f64 l] 24)).alloc (.cells #[.bool false, .slice none 0 0, .int .i64 0] 29)).cell? ⟨w.heap.size + 1, 2, none⟩ = some (.int .i64 0) := by go_simp
  have f0 : ((w.alloc (.cells #[.float .f64 h, .float .f64 l] 24)).alloc (.cells #[.bool false, .slice none 0 0, .int .i64 0] 29)).frozen? ⟨w.heap.size + 1, 0, none⟩ = false := by go_simp
  have f1 : ((w.alloc (.cells #[.float .f64 h, .float .f64 l] 24)).alloc (.cells #[.bool false, .slice none 0 0, .int .i64 0] 29)).frozen? ⟨w.heap.size + 1, 1, none⟩ = false := by go_simp
  have f2 : ((w.alloc (.cells #[.float .f64 h, .float .f64 l] 24)).alloc (.cells #[.bool false, .slice none 0 0, .int .i64 0] 29)).frozen? ⟨w.heap.size + 1, 2, none⟩ = false := by go_simp
  have hs : Hid (w.heap.size + 2 ≤ ((w.alloc (.cells #[.float .f64 h, .float .f64 l] 24)).alloc (.cells #[.bool false, .slice none 0 0, .int .i64 0] 29)).heap.size) := by show w.heap.size + 2 ≤ _; simp
  go_enter Tryz.func10, Tryz.ntmps10
  go_wp2_with fail
  generalize ((w.alloc (.cells #[.float .f64 h, .float .f64 l] 24)).alloc (.cells #[.bool false, .slice none 0 0, .int .i64 0] 29)) = w0 at *
  refine Calls.mono (qfrom_calls (h : Int) _ Hh.out) ?_
  rintro r w2 ⟨_, rfl, ⟨ah, nah, cah, rfl, HN, hO⟩, bN⟩
  replace f0 := dcarry_frozen bN z0 f0
  replace f1 := dcarry_frozen bN z1 f1
  replace f2 := dcarry_frozen bN z2 f2
  replace p0 := dcarry_cell bN p0
  replace p1 := dcarry_cell bN p1
  replace z0 := dcarry_cell bN z0
  replace z1 := dcarry_cell bN z1
  replace z2 := dcarry_cell bN z2
  replace bw := nbelow_trans bw bN
  replace hs := le_hid hs bN.size
  have hnah : nah ≤ 1024 := by rw [HN.out]; exact fr_len _
  have Ih := hO.1
  clear hO HN bN
  have bA := below_one w2 (.cells #[.bool (fromP (h : Int)).1, .slice ah nah cah, .int .i64 (fromP (h : Int)).2.2] 29)
  replace f0 := dcarry_frozen bA z0 f0
  replace f1 := dcarry_frozen bA z1 f1
  replace f2 := dcarry_frozen bA z2 f2
  replace p0 := dcarry_cell bA p0
  replace p1 := dcarry_cell bA p1
  replace z0 := dcarry_cell bA z0
  replace z1 := dcarry_cell bA z1
  replace z2 := dcarry_cell bA z2
  replace Ih := Ih.keep bA
  replace bw := nbelow_trans bw bA
  replace hs := le_hid hs bA.size
  have h0 : (w2.alloc (.cells #[.bool (fromP (h : Int)).1, .slice ah nah cah, .int .i64 (fromP (h : Int)).2.2] 29)).cell? ⟨w2.heap.size, 0, none⟩ = some (.bool (fromP (h : Int)).1) := by go_simp
  have h1 : (w2.alloc (.cells #[.bool (fromP (h : Int)).1, .slice ah nah cah, .int .i64 (fromP (h : Int)).2.2] 29)).cell? ⟨w2.heap.size, 1, none⟩ = some (.slice ah nah cah) := by go_simp
  have h2 : (w2.alloc (.cells #[.bool (fromP (h : Int)).1, .slice ah nah cah, .int .i64 (fromP (h : Int)).2.2] 29)).cell? ⟨w2.heap.size, 2, none⟩ = some (.int .i64 (fromP (h : Int)).2.2) := by go_simp
  clear bA
  go_wp2_with fail
  generalize (w2.alloc (.cells #[.bool (fromP (h : Int)).1, .slice ah nah cah, .int .i64 (fromP (h : Int)).2.2] 29)) = w3 at *
  refine Calls.mono (qfrom_calls (l : Int) _ Hl.out) ?_
  rintro r w4 ⟨_, rfl, ⟨al, nal, cal, rfl, HN, hO⟩, bN⟩
  replace f0 := dcarry_frozen bN z0 f0
  replace f1 := dcarry_frozen bN z1 f1
  replace f2 := dcarry_frozen bN z2 f2
  replace p0 := dcarry_cell bN p0
  replace p1 := dcarry_cell bN p1
  replace z0 := dcarry_cell bN z0
  replace z1 := dcarry_cell bN z1
  replace z2 := dcarry_cell bN z2
  replace h0 := dcarry_cell bN h0
  replace h1 := dcarry_cell bN h1
  replace h2 := dcarry_cell bN h2
  replace Ih := Ih.keep bN
  replace bw := nbelow_trans bw bN
  replace hs := le_hid hs bN.size
  have hnal : nal ≤ 1024 := by rw [HN.out]; exact fr_len _
  have Il := hO.1
  clear hO HN bN
  have bA := below_one w4 (.cells #[.bool (fromP (l : Int)).1, .slice al nal cal, .int .i64 (fromP (l : Int)).2.2] 29)
  replace f0 := dcarry_frozen bA z0 f0
  replace f1 := dcarry_frozen bA z1 f1
  replace f2 := dcarry_frozen bA z2 f2
  replace p0 := dcarry_cell bA p0
  replace p1 := dcarry_cell bA p1
  replace z0 := dcarry_cell bA z0
  replace z1 := dcarry_cell bA z1
  replace z2 := dcarry_cell bA z2
  replace h0 := dcarry_cell bA h0
  replace h1 := dcarry_cell bA h1
  replace h2 := dcarry_cell bA h2
  replace Ih := Ih.keep bA
  replace Il := Il.keep bA
  replace bw := nbelow_trans bw bA
  replace hs := le_hid hs bA.size
  have l0 : (w4.alloc (.cells #[.bool (fromP (l : Int)).1, .slice al nal cal, .int .i64 (fromP (l : Int)).2.2] 29)).cell? ⟨w4.heap.size, 0, none⟩ = some (.bool (fromP (l : Int)).1) := by go_simp
  have l1 : (w4.alloc (.cells #[.bool (fromP (l : Int)).1, .slice al nal cal, .int .i64 (fromP (l : Int)).2.2] 29)).cell? ⟨w4.heap.size, 1, none⟩ = some (.slice al nal cal) := by go_simp
  have l2 : (w4.alloc (.cells #[.bool (fromP (l : Int)).1, .slice al nal cal, .int .i64 (fromP (l : Int)).2.2] 29)).cell? ⟨w4.heap.size, 2, none⟩ = some (.int .i64 (fromP (l : Int)).2.2) := by go_simp
  clear bA
  go_wp2_with fail
  generalize (w4.alloc (.cells #[.bool (fromP (l : Int)).1, .slice al nal cal, .int .i64 (fromP (l : Int)).2.2] 29)) = w5 at *
  refine Calls.mono (HAdd.out _ _ _ _ _ _ _ hnah hnal Ih Il) ?_
  rintro r w6 ⟨_, rfl, ⟨ar, nr, cr, rfl, HN, hOr⟩, bN⟩
  have hsz := hs.out
  have hlow : w.heap.size + 2 ≤ w5.heap.size := hsz
  replace f0 := dcarry_frozen bN z0 f0
  replace f1 := dcarry_frozen bN z1 f1
  replace f2 := dcarry_frozen bN z2 f2
  replace p0 := dcarry_cell bN p0
  replace p1 := dcarry_cell bN p1
  replace z0 := dcarry_cell bN z0
  replace z1 := dcarry_cell bN z1
  replace z2 := dcarry_cell bN z2
  replace bw := nbelow_trans bw bN
  replace hs := le_hid hs bN.size
  clear bN hsz
  have hOr' := hOr.low hlow
  clear hOr hlow
  go_wp2_with fail
  refine bodyPost_ret (v := dyV (sumD (fromP (h : Int)) (fromP (l : Int))).1 ar nr cr (sumD (fromP (h : Int)) (fromP (l : Int))).2.2) (by simp [results, Tryz.results10, go_sem, z0, z1, z2]) rfl ⟨_, rfl, ⟨ar, nr, cr, rfl, HN, ?_⟩, ?_⟩
  · exact (((hOr'.far _ _ (by simp)).far _ _ (by simp)).far _ _ (by simp)).low (by omega)
  · repeat (first | exact bw | refine Below.setCell ?_ (by simp) _)

attribute [local go_sem] Fp.ran_store

set_option maxRecDepth 100000 in
set_option maxHeartbeats 2000000 in
theorem dof_good (x : Nat) (w : World) (hx : x < 18446744073709551616) (hr : Fp.rightP x 0 = true) :
    Calls Tryz.prog 6 #[.float .f64 x] w fun e w' => e = .returned (.tuple #[.agg #[.float .f64 x, .float .f64 0], .int .i64 0]) ∧ Below w.heap.size w w' := by
  have HA : Hid _ := fun w => Fp.wrong_calls x w hx
  rw [hr] at HA
  clear hx hr
  go_enter Tryz.func6, Tryz.ntmps6
  go_wp2_with fail
  refine Calls.mono (HA.out _) ?_
  rintro e w1 ⟨rfl, hb1⟩
  have m0 : w1.cell? ⟨w.heap.size, 0, none⟩ = some (.float .f64 0) := dcarry_cell hb1 (by go_simp)
  have m1 : w1.cell? ⟨w.heap.size, 1, none⟩ = some (.float .f64 0) := dcarry_cell hb1 (by go_simp)
  have k0 : w1.frozen? ⟨w.heap.size, 0, none⟩ = false := dcarry_frozen (v := .float .f64 0) hb1 (by go_simp) (by go_simp)
  have k1 : w1.frozen? ⟨w.heap.size, 1, none⟩ = false := dcarry_frozen (v := .float .f64 0) hb1 (by go_simp) (by go_simp)
  have b1 := nbelow_trans (below_one _ _) hb1
  clear hb1
  go_wp2_with fail
  exact bodyPost_ret (v := .tuple #[.agg #[.float .f64 x, .float .f64 0], .int .i64 0]) (by simp [results, Tryz.results6, go_sem, m0, m1]) rfl ⟨rfl, by repeat (first | exact b1 | refine Below.setCell ?_ (by simp) _)⟩

end

end Go.Proofs.YtmhddjacjomnbaaGreatDoor

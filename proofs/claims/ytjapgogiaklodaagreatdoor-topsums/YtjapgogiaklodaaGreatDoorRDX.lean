/- The document's dyadic numbers, fifth part: From, Int. The document's dyadic numbers, sixth part: From whole, Int. -/
import Derived.Test.YtjapgogiaklodaaGreatDoorRD3
import Derived.Test.YtjapgogiaklodaaGreatDoorPFA
import Derived.Test.YtjapgogiaklodaaGreatDoorRWX
import Derived.Test.YtjapgogiaklodaaGreatDoorTMC

namespace Go.Proofs.YtjapgogiaklodaaGreatDoor
open Go.RowKit

set_option maxRecDepth 100000 in
set_option maxHeartbeats 4000000 in
theorem qfrom_end (x : Int) (w : World) (hU : U x) (hf : finB x = true) (g : Nat) (hg : g ≤ 18446744073709551615) (hc : (countV x).toNat = g) (f : Nat) (hF : fracV x = (f : Int)) (he : (expV x = 0 ∧ f = g) ∨ (0 < expV x ∧ (f : Int) + 4503599627370496 = (g : Int))) :
    Calls Tryz.prog 34 #[.int .u64 x] w fun r w' => ∃ v', r = .returned (.tuple #[v', .int .i64 (lastE x)]) ∧ DyQ w.heap.size w' v' (fromP x) ∧ Below w.heap.size w w' := by
  have HE : Hid (lastE x = 0) := by rw [Hid, lastE, hf]; rfl
  have HP : Hid (fromP x = formD (sgnB x) g (unitV x)) := by rw [Hid, fromP, hf, if_pos rfl, fromD, hc]
  have hub : -4611686018427387904 ≤ unitV x ∧ unitV x ≤ 4611686018427387904 := by have := exp_bd x; unfold unitV; split <;> omega
  have hb0 := below_one w (.cells #[.bool false, .slice none 0 0, .int .i64 0] 34)
  have FC : Hid _ := rFinite_calls x (w.alloc (.cells #[.bool false, .slice none 0 0, .int .i64 0] 34)) hU
  rw [hf] at FC
  have SC : Hid _ := fun w' => rSplit_calls x w' hU
  rw [hF] at SC
  rw [HE.out, HP.out]
  have HO : Hid _ := fun w' => nOf_calls (g : Int) w' (by omega) (by omega)
  rw [Int.toNat_natCast] at HO
  have hgl : (wordsOf g).length ≤ 1 := (words_len 1 g).2 (by omega)
  have HK : Hid _ := fun a c w' q1 => qForm_calls (sgnB x) a (wordsOf g).length c (wordsOf g) (unitV x) w' q1 (by omega) hub
  rw [val_words] at HK
  have hexb := exp_bd x
  have huv : unitV x = if expV x = 0 then -1074 else expV x - 1075 := rfl
  clear hc hF HP HE hub hU hf hgl
  generalize sgnB x = s at *
  generalize expV x = ex at *
  rcases he with ⟨rfl, rfl⟩ | ⟨he, ho⟩
  · rw [if_pos rfl] at huv
    rw [huv] at HK ⊢
    clear huv hexb
    generalize formD s f (-1074) = p at *
    go_enter Tryz.func34, Tryz.ntmps34
    go_wp2_with fail
    refine Calls.mono FC.out ?_
    rintro r w1 ⟨rfl, rfl⟩
    go_wp2_with fail
    refine Calls.mono (SC.out _) ?_
    rintro r w2 ⟨rfl, hb2⟩
    have hb02 := nbelow_trans hb0 hb2
    have hb2F := below_one w2 (.cells #[.bool s, .int .i64 0, .int .u64 (f : Int)] 78)
    have hb1F := nbelow_trans hb2 hb2F
    have hb0F := nbelow_trans hb02 hb2F
    obtain ⟨m0, m1, m2, f0, f1, f2⟩ := zero_dy (r := w.heap.size) hb1F rfl
    have fc : (w2.alloc (.cells #[.bool s, .int .i64 0, .int .u64 (f : Int)] 78)).cell? ⟨w2.heap.size, 0, none⟩ = some (.bool s) := by go_simp
    have HWS : Hid (w.heap.size < w2.heap.size) := by rw [Hid]; have := hb2.size; simp at this; omega
    clear hb2 hb02 hb1F hb2F
    go_wp2_with fail
    generalize w2.alloc (.cells #[.bool s, .int .i64 0, .int .u64 (f : Int)] 78) = W at *
    have HSW : Hid (w.heap.size < W.heap.size) := by rw [Hid]; have := HWS.out; have := World.block_lt_of_cell? _ _ fc; simp at this; omega
    go_region_with (first
      | (go_at_call 41; refine (HO.out _).mono ?_; rintro r w3 ⟨a3, c3, rfl, hO3, hb3⟩; replace f0 := dcarry_frozen hb3 m0 f0; replace f1 := dcarry_frozen hb3 m1 f1; replace f2 := dcarry_frozen hb3 m2 f2; replace m0 := dcarry_cell hb3 m0; replace m1 := dcarry_cell hb3 m1; replace m2 := dcarry_cell hb3 m2; replace fc := dcarry_cell hb3 fc; have HI3 : Hid (IsW w3 a3 (wordsOf f).length c3 (wordsOf f)) := hO3.isW (words_U _); replace hb0F := nbelow_trans (show Below w.heap.size w _ from by repeat (first | exact hb0F | refine Below.drew ?_)) hb3; have HS3 : Hid (w.heap.size < w3.heap.size) := Nat.lt_of_lt_of_le HSW.out hb3.size; clear hb3 hO3)
      | (go_at_call 30; refine (HK.out a3 c3 _ (HI3.out.keep (by repeat (first | exact Below.refl _ _ | refine Below.drew ?_)))).mono ?_; rintro r w4 ⟨_, rfl, ⟨a4, n4, c4, rfl, HN4, hO4⟩, hb4⟩; replace f0 := dcarry_frozen hb4 m0 f0; replace f1 := dcarry_frozen hb4 m1 f1; replace f2 := dcarry_frozen hb4 m2 f2; replace m0 := dcarry_cell hb4 m0; replace m1 := dcarry_cell hb4 m1; replace m2 := dcarry_cell hb4 m2; replace hb0F := nbelow_trans (show Below w.heap.size w _ from by repeat (first | exact hb0F | refine Below.drew ?_)) hb4; have hO4' : OwnW (w.heap.size + 1) w4 a4 n4 c4 (wordsOf p.2.1) := hO4.low (by have := HS3.out; first | omega | (simp; omega)); clear hb4 hO4))
    all_goals go_wp2_with fail
    all_goals refine bodyPost_ret (v := .tuple #[dyV p.1 a4 n4 c4 p.2.2, .int .i64 0]) (by simp [results, Tryz.results34, go_sem, m0, m1, m2]) rfl ⟨_, rfl, ⟨a4, n4, c4, rfl, HN4, ?_⟩, ?_⟩
    all_goals first
      | exact (((hO4'.far _ _ (by simp)).far _ _ (by simp)).far _ _ (by simp)).low (by omega)
      | exact ((hb0F.setCell (Nat.le_refl _) _).setCell (Nat.le_refl _) _).setCell (Nat.le_refl _) _
  · rw [if_neg (by omega)] at huv
    rw [huv] at HK ⊢
    clear huv
    obtain ⟨hx1, hx2⟩ := hexb
    have hof : IntKind.u64.wrap ((f : Int) + 4503599627370496) = (g : Int) := by rw [ho, IntKind.wrap_u64]; omega
    have hgg : (0 : Int) ≤ (g : Int) ∧ (g : Int) ≤ 18446744073709551615 := by omega
    generalize formD s g (ex - 1075) = p at *
    go_enter Tryz.func34, Tryz.ntmps34
    go_wp2_with fail
    refine Calls.mono FC.out ?_
    rintro r w1 ⟨rfl, rfl⟩
    go_wp2_with fail
    refine Calls.mono (SC.out _) ?_
    rintro r w2 ⟨rfl, hb2⟩
    have hb02 := nbelow_trans hb0 hb2
    have hb2F := below_one w2 (.cells #[.bool s, .int .i64 ex, .int .u64 (f : Int)] 78)
    have hb1F := nbelow_trans hb2 hb2F
    have hb0F := nbelow_trans hb02 hb2F
    obtain ⟨m0, m1, m2, f0, f1, f2⟩ := zero_dy (r := w.heap.size) hb1F rfl
    have fc : (w2.alloc (.cells #[.bool s, .int .i64 ex, .int .u64 (f : Int)] 78)).cell? ⟨w2.heap.size, 0, none⟩ = some (.bool s) := by go_simp
    have HWS : Hid (w.heap.size < w2.heap.size) := by rw [Hid]; have := hb2.size; simp at this; omega
    clear hb2 hb02 hb1F hb2F
    go_wp2_with fail
    generalize w2.alloc (.cells #[.bool s, .int .i64 ex, .int .u64 (f : Int)] 78) = W at *
    have HSW : Hid (w.heap.size < W.heap.size) := by rw [Hid]; have := HWS.out; have := World.block_lt_of_cell? _ _ fc; simp at this; omega
    go_region_with (first
      | (go_at_call 41; refine (HO.out _).mono ?_; rintro r w3 ⟨a3, c3, rfl, hO3, hb3⟩; replace f0 := dcarry_frozen hb3 m0 f0; replace f1 := dcarry_frozen hb3 m1 f1; replace f2 := dcarry_frozen hb3 m2 f2; replace m0 := dcarry_cell hb3 m0; replace m1 := dcarry_cell hb3 m1; replace m2 := dcarry_cell hb3 m2; replace fc := dcarry_cell hb3 fc; have HI3 : Hid (IsW w3 a3 (wordsOf g).length c3 (wordsOf g)) := hO3.isW (words_U _); replace hb0F := nbelow_trans (show Below w.heap.size w _ from by repeat (first | exact hb0F | refine Below.drew ?_)) hb3; have HS3 : Hid (w.heap.size < w3.heap.size) := Nat.lt_of_lt_of_le HSW.out hb3.size; clear hb3 hO3)
      | (go_at_call 30; refine (HK.out a3 c3 _ (HI3.out.keep (by repeat (first | exact Below.refl _ _ | refine Below.drew ?_)))).mono ?_; rintro r w4 ⟨_, rfl, ⟨a4, n4, c4, rfl, HN4, hO4⟩, hb4⟩; replace f0 := dcarry_frozen hb4 m0 f0; replace f1 := dcarry_frozen hb4 m1 f1; replace f2 := dcarry_frozen hb4 m2 f2; replace m0 := dcarry_cell hb4 m0; replace m1 := dcarry_cell hb4 m1; replace m2 := dcarry_cell hb4 m2; replace hb0F := nbelow_trans (show Below w.heap.size w _ from by repeat (first | exact hb0F | refine Below.drew ?_)) hb4; have hO4' : OwnW (w.heap.size + 1) w4 a4 n4 c4 (wordsOf p.2.1) := hO4.low (by have := HS3.out; first | omega | (simp; omega)); clear hb4 hO4))
    all_goals go_wp2_with fail
    all_goals refine bodyPost_ret (v := .tuple #[dyV p.1 a4 n4 c4 p.2.2, .int .i64 0]) (by simp [results, Tryz.results34, go_sem, m0, m1, m2]) rfl ⟨_, rfl, ⟨a4, n4, c4, rfl, HN4, ?_⟩, ?_⟩
    all_goals first
      | exact (((hO4'.far _ _ (by simp)).far _ _ (by simp)).far _ _ (by simp)).low (by omega)
      | exact ((hb0F.setCell (Nat.le_refl _) _).setCell (Nat.le_refl _) _).setCell (Nat.le_refl _) _
end Go.Proofs.YtjapgogiaklodaaGreatDoor

namespace Go.Proofs.YtjapgogiaklodaaGreatDoor
open Go.RowKit

set_option maxRecDepth 100000 in
set_option maxHeartbeats 1000000 in
theorem qfrom_bad (x : Int) (w : World) (hU : U x) (hf : finB x = false) :
    Calls Tryz.prog 34 #[.int .u64 x] w fun r w' => r = .returned (.tuple #[dyV false none 0 0 0, .int .i64 5]) ∧ Below w.heap.size w w' := by
  have hb0 := below_one w (.cells #[.bool false, .slice none 0 0, .int .i64 0] 34)
  have FC : Hid _ := rFinite_calls x (w.alloc (.cells #[.bool false, .slice none 0 0, .int .i64 0] 34)) hU
  rw [hf] at FC
  obtain ⟨m0, m1, m2, f0, f1, f2⟩ := zero_dy (r := w.heap.size) (Below.refl _ (w.alloc (.cells #[.bool false, .slice none 0 0, .int .i64 0] 34))) rfl
  clear hU hf
  go_enter Tryz.func34, Tryz.ntmps34
  go_wp2_with fail
  refine Calls.mono FC.out ?_
  rintro r w1 ⟨rfl, rfl⟩
  go_wp2_with fail
  exact bodyPost_ret (v := .tuple #[dyV false none 0 0 0, .int .i64 5]) (by simp [results, Tryz.results34, go_sem, m0, m1, m2]) rfl ⟨rfl, hb0⟩
theorem qfrom_calls (x : Int) (w : World) (hU : U x) :
    Calls Tryz.prog 34 #[.int .u64 x] w fun r w' => ∃ v', r = .returned (.tuple #[v', .int .i64 (lastE x)]) ∧ DyQ w.heap.size w' v' (fromP x) ∧ Below w.heap.size w w' := by
  cases hf : finB x with
  | false =>
    have e1 : lastE x = 5 := by unfold lastE; rw [hf]; rfl
    have e2 : fromP x = (false, 0, 0) := by unfold fromP; rw [hf]; rfl
    rw [e1, e2]
    refine (qfrom_bad x w hU hf).mono ?_
    rintro r w' ⟨rfl, hb⟩
    exact ⟨_, rfl, dyQ_zero _ _, hb⟩
  | true =>
    have h1 := frac_bd x
    have h2 := exp_bd x
    by_cases he : expV x = 0
    · exact qfrom_end x w hU hf (fracV x).toNat (by omega) (by unfold countV; rw [if_pos he]) (fracV x).toNat (by omega) (Or.inl ⟨he, rfl⟩)
    · exact qfrom_end x w hU hf ((fracV x).toNat + 4503599627370496) (by omega) (by unfold countV; rw [if_neg he]; omega) (fracV x).toNat (by omega) (Or.inr ⟨by omega, by omega⟩)

set_option maxRecDepth 100000 in
set_option maxHeartbeats 4000000 in
theorem qint_end (s : Bool) (j : Nat) (hj : j ≤ 18446744073709551615) (w : World) (i : Int) (hi : -9223372036854775808 ≤ i ∧ i ≤ 9223372036854775807) (hs : decide (i < 0) = s) (hc : (s = false ∧ i = (j : Int)) ∨ (s = true ∧ i = -(j : Int))) :
    Calls Tryz.prog 14 #[.int .i64 i] w fun r w' => ∃ v', r = .returned v' ∧ DyQ w.heap.size w' v' (formD s j 0) ∧ Below w.heap.size w w' := by
  have hb0 := below_one w (.cells #[.bool false, .slice none 0 0, .int .i64 0] 34)
  obtain ⟨hi1, hi2⟩ := hi
  have HO : Hid _ := fun w' => nOf_calls (j : Int) w' (by omega) (by omega)
  rw [Int.toNat_natCast] at HO
  have hgl : (wordsOf j).length ≤ 1 := (words_len 1 j).2 (by omega)
  have HK : Hid _ := fun a c w' q1 => qForm_calls s a (wordsOf j).length c (wordsOf j) 0 w' q1 (by omega) (by omega)
  rw [val_words] at HK
  clear hgl
  have hjj : (0 : Int) ≤ (j : Int) ∧ (j : Int) ≤ 18446744073709551615 := by omega
  generalize formD s j 0 = p at *
  rcases hc with ⟨rfl, rfl⟩ | ⟨rfl, rfl⟩
  · have hlt : ¬ (j : Int) < 0 := by omega
    have q3 : IntKind.u64.wrap (j : Int) = (j : Int) := by rw [IntKind.wrap_u64]; omega
    go_enter Tryz.func14, Tryz.ntmps14
    go_wp2_with fail
    refine Calls.mono (HO.out _) ?_
    rintro r w1 ⟨a1, c1, rfl, hO1, hb1⟩
    have hb01 := nbelow_trans hb0 hb1
    have HI1 : IsW w1 a1 (wordsOf j).length c1 (wordsOf j) := hO1.isW (words_U _)
    clear hO1
    go_wp2_with fail
    refine Calls.mono (HK.out a1 c1 _ HI1) ?_
    rintro r w2 ⟨_, rfl, ⟨a2, n2, c2, rfl, HN2, hO2⟩, hb2⟩
    have hb12 := nbelow_trans hb1 hb2
    have hb02 := nbelow_trans hb01 hb2
    have hsz : w.heap.size + 1 ≤ w1.heap.size := by have := hb1.size; simp at this; omega
    obtain ⟨m0, m1, m2, f0, f1, f2⟩ := zero_dy (r := w.heap.size) hb12 rfl
    have hO2' : OwnW (w.heap.size + 1) w2 a2 n2 c2 (wordsOf p.2.1) := hO2.low hsz
    clear hb1 hb2 hO2 HI1 HK HO
    go_wp2_with fail
    refine bodyPost_ret (v := dyV p.1 a2 n2 c2 p.2.2) (by simp [results, Tryz.results14, go_sem, m0, m1, m2]) rfl ⟨_, rfl, ⟨a2, n2, c2, rfl, HN2, ?_⟩, ?_⟩
    · exact (((hO2'.far _ _ (by simp)).far _ _ (by simp)).far _ _ (by simp)).low (by omega)
    · exact ((hb02.setCell (Nat.le_refl _) _).setCell (Nat.le_refl _) _).setCell (Nat.le_refl _) _
  · have hlt : -(j : Int) < 0 := by simpa using hs
    have q1 : IntKind.u64.wrap (-(j : Int)) = 18446744073709551616 - (j : Int) := by rw [IntKind.wrap_u64]; omega
    have q2 : IntKind.u64.wrap (-(18446744073709551616 - (j : Int))) = (j : Int) := by rw [IntKind.wrap_u64]; omega
    have q4 : IntKind.u64.wrap (0 - (18446744073709551616 - (j : Int))) = (j : Int) := by rw [IntKind.wrap_u64]; omega
    go_enter Tryz.func14, Tryz.ntmps14
    go_wp2_with fail
    refine Calls.mono (HO.out _) ?_
    rintro r w1 ⟨a1, c1, rfl, hO1, hb1⟩
    have hb01 := nbelow_trans hb0 hb1
    have HI1 : IsW w1 a1 (wordsOf j).length c1 (wordsOf j) := hO1.isW (words_U _)
    clear hO1
    go_wp2_with fail
    refine Calls.mono (HK.out a1 c1 _ HI1) ?_
    rintro r w2 ⟨_, rfl, ⟨a2, n2, c2, rfl, HN2, hO2⟩, hb2⟩
    have hb12 := nbelow_trans hb1 hb2
    have hb02 := nbelow_trans hb01 hb2
    have hsz : w.heap.size + 1 ≤ w1.heap.size := by have := hb1.size; simp at this; omega
    obtain ⟨m0, m1, m2, f0, f1, f2⟩ := zero_dy (r := w.heap.size) hb12 rfl
    have hO2' : OwnW (w.heap.size + 1) w2 a2 n2 c2 (wordsOf p.2.1) := hO2.low hsz
    clear hb1 hb2 hO2 HI1 HK HO
    go_wp2_with fail
    refine bodyPost_ret (v := dyV p.1 a2 n2 c2 p.2.2) (by simp [results, Tryz.results14, go_sem, m0, m1, m2]) rfl ⟨_, rfl, ⟨a2, n2, c2, rfl, HN2, ?_⟩, ?_⟩
    · exact (((hO2'.far _ _ (by simp)).far _ _ (by simp)).far _ _ (by simp)).low (by omega)
    · exact ((hb02.setCell (Nat.le_refl _) _).setCell (Nat.le_refl _) _).setCell (Nat.le_refl _) _
theorem qint_calls (i : Int) (hi : -9223372036854775808 ≤ i ∧ i ≤ 9223372036854775807) (w : World) :
    Calls Tryz.prog 14 #[.int .i64 i] w fun r w' => ∃ v', r = .returned v' ∧ DyQ w.heap.size w' v' (intD i) ∧ Below w.heap.size w w' := by
  unfold intD
  by_cases h : i < 0
  · rw [decide_eq_true h]
    exact qint_end true i.natAbs (by omega) w i hi (decide_eq_true h) (Or.inr ⟨rfl, by omega⟩)
  · rw [decide_eq_false h]
    exact qint_end false i.natAbs (by omega) w i hi (decide_eq_false h) (Or.inl ⟨rfl, by omega⟩)
end Go.Proofs.YtjapgogiaklodaaGreatDoor

/- The document's dyadic numbers, fifth part: From, Int. -/
import Derived.Test.YtlbaphijmonjoaaRD3
import Derived.Test.YtlbaphijmonjoaaPFrom2
import Derived.Test.YtlbaphijmonjoaaRWalks2
import Derived.Test.YtlbaphijmonjoaaTMC
namespace Go.Proofs.Ytlbaphijmonjoaa
open Go.RowKit

set_option maxRecDepth 100000 in
set_option maxHeartbeats 4000000 in
theorem qfrom_end (x : Int) (w : World) (hU : U x) (hf : finB x = true) (g : Nat) (hg : g ≤ 18446744073709551615) (hc : (countV x).toNat = g) (f : Nat) (hF : fracV x = (f : Int)) (he : (expV x = 0 ∧ f = g) ∨ (0 < expV x ∧ (f : Int) + 4503599627370496 = (g : Int))) :
    Calls Try.prog 23 #[.int .u64 x] w fun r w' => ∃ v', r = .returned (.tuple #[v', .int .i64 (lastE x)]) ∧ DyQ w.heap.size w' v' (fromP x) ∧ Below w.heap.size w w' := by
  have HE : Hid (lastE x = 0) := by rw [Hid, lastE, hf]; rfl
  have HP : Hid (fromP x = formD (sgnB x) g (unitV x)) := by rw [Hid, fromP, hf, if_pos rfl, fromD, hc]
  have hub : -4611686018427387904 ≤ unitV x ∧ unitV x ≤ 4611686018427387904 := by have := exp_bd x; unfold unitV; split <;> omega
  have hb0 := below_one w (.cells #[.bool false, .slice none 0 0, .int .i64 0] 30)
  have FC : Hid _ := rFinite_calls x (w.alloc (.cells #[.bool false, .slice none 0 0, .int .i64 0] 30)) hU
  rw [hf] at FC
  have SC : Hid _ := fun w' => rSplit_calls x w' hU
  rw [hF] at SC
  rw [HE.out, HP.out]
  have HO : Hid _ := fun w' => nOf_calls (g : Int) w' (by omega) (by omega)
  rw [Int.toNat_natCast] at HO
  have hgl : (wordsOf g).length ≤ 1 := (words_len 1 g).2 (by omega)
  have HK : Hid _ := fun a c w' q1 => qForm_calls (sgnB x) a (wordsOf g).length c (wordsOf g) (unitV x) w' q1 (by omega) hub
  rw [val_words] at HK
  have hexb := exp_bd x
  have huv : unitV x = if expV x = 0 then -1074 else expV x - 1075 := rfl
  clear hc hF HP HE hub hU hf hgl
  generalize sgnB x = s at *
  generalize expV x = ex at *
  rcases he with ⟨rfl, rfl⟩ | ⟨he, ho⟩
  · rw [if_pos rfl] at huv
    rw [huv] at HK ⊢
    clear huv hexb
    generalize formD s f (-1074) = p at *
    go_enter Try.func23, Try.ntmps23
    go_wp2_with fail
    refine Calls.mono FC.out ?_
    rintro r w1 ⟨rfl, rfl⟩
    go_wp2_with fail
    refine Calls.mono (SC.out _) ?_
    rintro r w2 ⟨rfl, hb2⟩
    have hb02 := nbelow_trans hb0 hb2
    have hb2F := below_one w2 (.cells #[.bool s, .int .i64 0, .int .u64 (f : Int)] 68)
    have hb1F := nbelow_trans hb2 hb2F
    have hb0F := nbelow_trans hb02 hb2F
    obtain ⟨m0, m1, m2, f0, f1, f2⟩ := zero_dy (r := w.heap.size) hb1F rfl
    have fc : (w2.alloc (.cells #[.bool s, .int .i64 0, .int .u64 (f : Int)] 68)).cell? ⟨w2.heap.size, 0, none⟩ = some (.bool s) := by go_simp
    have HWS : Hid (w.heap.size < w2.heap.size) := by rw [Hid]; have := hb2.size; simp at this; omega
    clear hb2 hb02 hb1F hb2F
    go_wp2_with fail
    generalize w2.alloc (.cells #[.bool s, .int .i64 0, .int .u64 (f : Int)] 68) = W at *
    have HSW : Hid (w.heap.size < W.heap.size) := by rw [Hid]; have := HWS.out; have := World.block_lt_of_cell? _ _ fc; simp at this; omega
    go_region_with (first
      | (go_at_call 42; refine (HO.out _).mono ?_; rintro r w3 ⟨a3, c3, rfl, hO3, hb3⟩; replace f0 := dcarry_frozen hb3 m0 f0; replace f1 := dcarry_frozen hb3 m1 f1; replace f2 := dcarry_frozen hb3 m2 f2; replace m0 := dcarry_cell hb3 m0; replace m1 := dcarry_cell hb3 m1; replace m2 := dcarry_cell hb3 m2; replace fc := dcarry_cell hb3 fc; have HI3 : Hid (IsW w3 a3 (wordsOf f).length c3 (wordsOf f)) := hO3.isW (words_U _); replace hb0F := nbelow_trans (show Below w.heap.size w _ from by repeat (first | exact hb0F | refine Below.drew ?_)) hb3; have HS3 : Hid (w.heap.size < w3.heap.size) := Nat.lt_of_lt_of_le HSW.out hb3.size; clear hb3 hO3)
      | (go_at_call 31; refine (HK.out a3 c3 _ (HI3.out.keep (by repeat (first | exact Below.refl _ _ | refine Below.drew ?_)))).mono ?_; rintro r w4 ⟨_, rfl, ⟨a4, n4, c4, rfl, HN4, hO4⟩, hb4⟩; replace f0 := dcarry_frozen hb4 m0 f0; replace f1 := dcarry_frozen hb4 m1 f1; replace f2 := dcarry_frozen hb4 m2 f2; replace m0 := dcarry_cell hb4 m0; replace m1 := dcarry_cell hb4 m1; replace m2 := dcarry_cell hb4 m2; replace hb0F := nbelow_trans (show Below w.heap.size w _ from by repeat (first | exact hb0F | refine Below.drew ?_)) hb4; have hO4' : OwnW (w.heap.size + 1) w4 a4 n4 c4 (wordsOf p.2.1) := hO4.low (by have := HS3.out; first | omega | (simp; omega)); clear hb4 hO4))
    all_goals go_wp2_with fail
    all_goals refine bodyPost_ret (v := .tuple #[dyV p.1 a4 n4 c4 p.2.2, .int .i64 0]) (by simp [results, Try.results23, go_sem, m0, m1, m2]) rfl ⟨_, rfl, ⟨a4, n4, c4, rfl, HN4, ?_⟩, ?_⟩
    all_goals first
      | exact (((hO4'.far _ _ (by simp)).far _ _ (by simp)).far _ _ (by simp)).low (by omega)
      | exact ((hb0F.setCell (Nat.le_refl _) _).setCell (Nat.le_refl _) _).setCell (Nat.le_refl _) _
  · rw [if_neg (by omega)] at huv
    rw [huv] at HK ⊢
    clear huv
    obtain ⟨hx1, hx2⟩ := hexb
    have hof : IntKind.u64.wrap ((f : Int) + 4503599627370496) = (g : Int) := by rw [ho, IntKind.wrap_u64]; omega
    have hgg : (0 : Int) ≤ (g : Int) ∧ (g : Int) ≤ 18446744073709551615 := by omega
    generalize formD s g (ex - 1075) = p at *
    go_enter Try.func23, Try.ntmps23
    go_wp2_with fail
    refine Calls.mono FC.out ?_
    rintro r w1 ⟨rfl, rfl⟩
    go_wp2_with fail
    refine Calls.mono (SC.out _) ?_
    rintro r w2 ⟨rfl, hb2⟩
    have hb02 := nbelow_trans hb0 hb2
    have hb2F := below_one w2 (.cells #[.bool s, .int .i64 ex, .int .u64 (f : Int)] 68)
    have hb1F := nbelow_trans hb2 hb2F
    have hb0F := nbelow_trans hb02 hb2F
    obtain ⟨m0, m1, m2, f0, f1, f2⟩ := zero_dy (r := w.heap.size) hb1F rfl
    have fc : (w2.alloc (.cells #[.bool s, .int .i64 ex, .int .u64 (f : Int)] 68)).cell? ⟨w2.heap.size, 0, none⟩ = some (.bool s) := by go_simp
    have HWS : Hid (w.heap.size < w2.heap.size) := by rw [Hid]; have := hb2.size; simp at this; omega
    clear hb2 hb02 hb1F hb2F
    go_wp2_with fail
    generalize w2.alloc (.cells #[.bool s, .int .i64 ex, .int .u64 (f : Int)] 68) = W at *
    have HSW : Hid (w.heap.size < W.heap.size) := by rw [Hid]; have := HWS.out; have := World.block_lt_of_cell? _ _ fc; simp at this; omega
    go_region_with (first
      | (go_at_call 42; refine (HO.out _).mono ?_; rintro r w3 ⟨a3, c3, rfl, hO3, hb3⟩; replace f0 := dcarry_frozen hb3 m0 f0; replace f1 := dcarry_frozen hb3 m1 f1; replace f2 := dcarry_frozen hb3 m2 f2; replace m0 := dcarry_cell hb3 m0; replace m1 := dcarry_cell hb3 m1; replace m2 := dcarry_cell hb3 m2; replace fc := dcarry_cell hb3 fc; have HI3 : Hid (IsW w3 a3 (wordsOf g).length c3 (wordsOf g)) := hO3.isW (words_U _); replace hb0F := nbelow_trans (show Below w.heap.size w _ from by repeat (first | exact hb0F | refine Below.drew ?_)) hb3; have HS3 : Hid (w.heap.size < w3.heap.size) := Nat.lt_of_lt_of_le HSW.out hb3.size; clear hb3 hO3)
      | (go_at_call 31; refine (HK.out a3 c3 _ (HI3.out.keep (by repeat (first | exact Below.refl _ _ | refine Below.drew ?_)))).mono ?_; rintro r w4 ⟨_, rfl, ⟨a4, n4, c4, rfl, HN4, hO4⟩, hb4⟩; replace f0 := dcarry_frozen hb4 m0 f0; replace f1 := dcarry_frozen hb4 m1 f1; replace f2 := dcarry_frozen hb4 m2 f2; replace m0 := dcarry_cell hb4 m0; replace m1 := dcarry_cell hb4 m1; replace m2 := dcarry_cell hb4 m2; replace hb0F := nbelow_trans (show Below w.heap.size w _ from by repeat (first | exact hb0F | refine Below.drew ?_)) hb4; have hO4' : OwnW (w.heap.size + 1) w4 a4 n4 c4 (wordsOf p.2.1) := hO4.low (by have := HS3.out; first | omega | (simp; omega)); clear hb4 hO4))
    all_goals go_wp2_with fail
    all_goals refine bodyPost_ret (v := .tuple #[dyV p.1 a4 n4 c4 p.2.2, .int .i64 0]) (by simp [results, Try.results23, go_sem, m0, m1, m2]) rfl ⟨_, rfl, ⟨a4, n4, c4, rfl, HN4, ?_⟩, ?_⟩
    all_goals first
      | exact (((hO4'.far _ _ (by simp)).far _ _ (by simp)).far _ _ (by simp)).low (by omega)
      | exact ((hb0F.setCell (Nat.le_refl _) _).setCell (Nat.le_refl _) _).setCell (Nat.le_refl _) _
end Go.Proofs.Ytlbaphijmonjoaa

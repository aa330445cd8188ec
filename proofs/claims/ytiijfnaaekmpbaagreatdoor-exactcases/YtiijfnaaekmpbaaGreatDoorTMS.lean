/- The walks of package bits, second part (lowest bits, whole and odd numbers), and of the statements' own helpers 'lives' and 'isNumber'. The program's dyadic number of a float's bits. The program's dyadic number of a float's bits, whole. The walks of the document's answers for layer 1 (package ulpref01): each answers what the like function of package bits does, for every uint64. The walks of the document's answers for layer 1, second part: classes, fields, last bits, whole and odd numbers (their loops). The document's dyadic numbers, fifth part: From, Int. The document's dyadic numbers, sixth part: From whole, Int. -/
import Derived.Test.YtiijfnaaekmpbaaGreatDoorTMB
import Derived.Test.YtiijfnaaekmpbaaGreatDoorTMD
import Derived.Deep.RegionWith
import Derived.Test.YtiijfnaaekmpbaaGreatDoorTMH
import Derived.Test.YtiijfnaaekmpbaaGreatDoorTMF

namespace Go.Proofs.YtiijfnaaekmpbaaGreatDoor
open Go.RowKit
set_option maxHeartbeats 400000 in
theorem last_calls (x : Int) (w : World) (h : U x) :
  Calls Tryz.prog 59 #[.int .u64 x] w fun e w' => e = .returned (.tuple #[.int .i64 (lastV x), .int .i64 (lastE x)]) ∧ Below w.heap.size w w' := by
 by_cases c : absV x < 9218868437227405312
 ·have hF : Hid (finB x = true) := by unfold finB; rw [Hid]; simpa [absV] using c
  have hE : Hid (lastE x = 0) := by unfold lastE; rw [Hid, hF.out]; rfl
  have hV : Hid (lastV x = unitV x) := by unfold lastV; rw [Hid, hF.out]; rfl
  go_enter Tryz.func59, Tryz.ntmps59
  go_wp2_with fail
  refine (abs_calls _ _ h).mono ?_
  rintro e w1 ⟨rfl, rfl⟩
  go_wp2_with fail
  refine (units_calls _ _ h).mono ?_
  rintro e w1 ⟨rfl, hb⟩
  go_wp2_with fail
  go_ret2
  rw [hE.out, hV.out]
  exact ⟨rfl, hb⟩
 ·have hF : Hid (finB x = false) := by unfold finB; rw [Hid]; simpa [absV] using c
  have hE : Hid (lastE x = 5) := by unfold lastE; rw [Hid, hF.out]; rfl
  have hV : Hid (lastV x = 0) := by unfold lastV; rw [Hid, hF.out]; rfl
  go_enter Tryz.func59, Tryz.ntmps59
  go_wp2_with fail
  refine (abs_calls _ _ h).mono ?_
  rintro e w1 ⟨rfl, rfl⟩
  go_wp2_with fail
  go_ret2
  rw [hE.out, hV.out]
  exact ⟨rfl, Below.refl _ _⟩
def fromD (x : Int) : Bool × Nat × Int := formD (sgnB x) (countV x).toNat (unitV x)
def fromP (x : Int) : Bool × Nat × Int := if finB x = true then fromD x else (false, 0, 0)
theorem frac_bd (x : Int) : 0 ≤ fracV x ∧ fracV x < 4503599627370496 := by unfold fracV; omega
theorem exp_bd (x : Int) : 0 ≤ expV x ∧ expV x < 2048 := by unfold expV; omega
theorem or_hiddenN (f : Nat) (hf : f < 4503599627370496) : bits .or .u64 (f : Int) 4503599627370496 = ((f + 4503599627370496 : Nat) : Int) := by
 have h := u64_or_nat f 4503599627370496 (by omega) (by decide)
 have e : f ||| 4503599627370496 = f + 4503599627370496 := by
  have h2 := Nat.two_pow_add_eq_or_of_lt (i := 52) (b := f) (by omega) 1
  rw [Nat.mul_one] at h2
  rw [Nat.or_comm]
  have h3 : (2 : Nat) ^ 52 = 4503599627370496 := rfl
  rw [h3] at h2
  omega
 rw [e] at h
 exact h
set_option maxRecDepth 100000 in
set_option maxHeartbeats 4000000 in
theorem pfrom_end (x : Int) (w : World) (hU : U x) (hT : Tab w) (hf : finB x = true) (g : Nat) (hg : g ≤ 18446744073709551615) (hc : (countV x).toNat = g) (f : Nat) (hF : fracV x = (f : Int)) (he : (expV x = 0 ∧ f = g) ∨ (expV x ≠ 0 ∧ bits .or .u64 (f : Int) 4503599627370496 = (g : Int))) :
  Calls Tryz.prog 27 #[.int .u64 x] w fun r w' => ∃ v', r = .returned (.tuple #[v', .int .i64 (lastE x)]) ∧ DyAt w.heap.size w' v' (fromP x) ∧ Below w.heap.size w w' := by
 have HE : Hid (lastE x = 0) := by rw [Hid, lastE, hf]; rfl
 have HP : Hid (fromP x = formD (sgnB x) g (unitV x)) := by rw [Hid, fromP, hf, if_pos rfl, fromD, hc]
 have HG : Hid (greatB g = false) := (great_not g).2 (by have := (blen_le g 64).2 (by have : (2 : Nat) ^ 64 = 18446744073709551616 := rfl; omega); omega)
 have HCG : Hid (canG (sgnB x) g (unitV x) = formD (sgnB x) g (unitV x)) := canG_no HG.out
 have hub : -4611686018427387904 ≤ unitV x ∧ unitV x ≤ 4611686018427387904 := by have := exp_bd x; unfold unitV; split <;> omega
 have HUB : Hid _ := hub
 have hb0 := below_one w (.cells #[.bool false, .slice none 0 0, .int .i64 0] 27)
 have LC : Hid _ := last_calls x (w.alloc (.cells #[.bool false, .slice none 0 0, .int .i64 0] 27)) hU
 have hlv : lastV x = unitV x := by unfold lastV; rw [hf]; rfl
 rw [HE.out, hlv] at LC
 have SC : Hid _ := fun w' => split_calls x w' hU
 rw [hF] at SC
 rw [HE.out, HP.out]
 have HO : Hid _ := fun w' => of_eq g w' hg
 have HK : Hid (∀ a n c w', IsW w' a n c (wO g) → n ≤ 1024 → Tab w' → _) := fun a n c w' q1 q2 q3 => canonical_calls (sgnB x) a n c (wO g) (unitV x) w' q1 (by omega) q3
 rw [val_words, HCG.out] at HK
 clear hc hF hlv HP HE hub hU hf HCG HG
 generalize unitV x = u at *
 generalize sgnB x = s at *
 generalize formD s g u = p at *
 rcases he with ⟨he, rfl⟩ | ⟨he, ho⟩
 ·rw [he] at SC
  clear he
  go_enter Tryz.func27, Tryz.ntmps27
  go_wp2_with fail
  refine cM LC.out ?_
  rintro r w1 ⟨rfl, hb1⟩
  have hb01 := nT hb0 hb1
  go_wp2_with fail
  refine cM (SC.out _) ?_
  rintro r w2 ⟨rfl, hb2⟩
  have hb12 := nT hb1 hb2
  have hb02 := nT hb01 hb2
  have hb2F := below_one w2 (.cells #[.bool s, .int .i64 0, .int .u64 (f : Int)] 77)
  have hb1F := nT hb12 hb2F
  have hb0F := nT hb02 hb2F
  obtain ⟨m0, m1, m2, f0, f1, f2⟩ := zero_dy (r := w.heap.size) hb1F rfl
  have fc : (w2.alloc (.cells #[.bool s, .int .i64 0, .int .u64 (f : Int)] 77)).cell? ⟨w2.heap.size, 0, none⟩ = some (.bool s) := by go_simp
  have HT2 : Hid (Tab (w2.alloc (.cells #[.bool s, .int .i64 0, .int .u64 (f : Int)] 77))) := hT.kept hb0F
  have HWS : Hid (w.heap.size < w2.heap.size) := by rw [Hid]; have := hb12.size; simp at this; omega
  clear hb1 hb2 hb12 hb02 hb01 hb1F hb2F
  go_wp2_with fail
  generalize w2.alloc (.cells #[.bool s, .int .i64 0, .int .u64 (f : Int)] 77) = W at *
  have HSW : Hid (w.heap.size < W.heap.size) := by rw [Hid]; have := HWS.out; have := World.block_lt_of_cell? _ _ fc; simp at this; omega
  go_region_with (first
   | (go_at_call 62; go_must (refine (HO.out _).mono ?_; rintro r w3 ⟨a3, n3, c3, rfl, HN3, hn3, hO3, hb3⟩; replace f0 : w3.frozen? ⟨w.heap.size, 0, none⟩ = false := kF hb3 (v := .bool false) (by go_simp) (by go_simp); replace f1 : w3.frozen? ⟨w.heap.size, 1, none⟩ = false := kF hb3 (v := .slice none 0 0) (by go_simp) (by go_simp); replace f2 : w3.frozen? ⟨w.heap.size, 2, none⟩ = false := kF hb3 (v := .int .i64 0) (by go_simp) (by go_simp); replace m0 : w3.cell? ⟨w.heap.size, 0, none⟩ = some (.bool false) := kC hb3 (by go_simp); replace m1 : w3.cell? ⟨w.heap.size, 1, none⟩ = some (.slice none 0 0) := kC hb3 (by go_simp); replace m2 : w3.cell? ⟨w.heap.size, 2, none⟩ = some (.int .i64 0) := kC hb3 (by go_simp); replace fc : w3.cell? ⟨w2.heap.size, 0, none⟩ = some (.bool s) := kC hb3 (by go_simp); replace hb0F := nT (show Below w.heap.size w _ from by repeat (first | exact hb0F | refine Below.drew ?_)) hb3; have HT3 : Hid (Tab w3) := hT.kept hb0F; have HS3 : Hid (w.heap.size < w3.heap.size) := Nat.lt_of_lt_of_le HSW.out (by have := hb3.size; simpa using this); clear hb3))
   | (go_at_call 61; refine (HK.out a3 n3 c3 _ (hO3.1.keep (by repeat (first | exact Below.refl _ _ | refine Below.drew ?_))) hn3 (HT3.out.kept (by repeat (first | exact Below.refl _ _ | refine Below.drew ?_)))).mono ?_; rintro r w4 ⟨a4, n4, c4, e4, rfl, HE4, HN4, HZ4, hn4, hO4, hb4⟩; obtain rfl := HE4.out HUB.out.1 HUB.out.2; replace f0 : w4.frozen? ⟨w.heap.size, 0, none⟩ = false := kF hb4 (v := .bool false) (by go_simp) (by go_simp); replace f1 : w4.frozen? ⟨w.heap.size, 1, none⟩ = false := kF hb4 (v := .slice none 0 0) (by go_simp) (by go_simp); replace f2 : w4.frozen? ⟨w.heap.size, 2, none⟩ = false := kF hb4 (v := .int .i64 0) (by go_simp) (by go_simp); replace m0 : w4.cell? ⟨w.heap.size, 0, none⟩ = some (.bool false) := kC hb4 (by go_simp); replace m1 : w4.cell? ⟨w.heap.size, 1, none⟩ = some (.slice none 0 0) := kC hb4 (by go_simp); replace m2 : w4.cell? ⟨w.heap.size, 2, none⟩ = some (.int .i64 0) := kC hb4 (by go_simp); replace hb0F := nT (show Below w.heap.size w _ from by repeat (first | exact hb0F | refine Below.drew ?_)) hb4; have HS4 : Hid (w.heap.size < w4.heap.size) := Nat.lt_of_lt_of_le HS3.out (by have := hb4.size; simpa using this); clear hb4 HE4)
   | (go_at_call 63; refine (told_calls w3.heap.size _ p _ ⟨a4, n4, c4, rfl, HN4, HZ4, hn4, (OwnW.keep hO4 (by repeat (first | exact Below.refl _ _ | refine Below.drew ?_)))⟩).mono ?_; rintro r w5 ⟨v5, rfl, ⟨a5, n5, c5, rfl, HN5, hn5, hO5⟩, hb5⟩; replace f0 : w5.frozen? ⟨w.heap.size, 0, none⟩ = false := kF hb5 (v := .bool false) (by go_simp) (by go_simp); replace f1 : w5.frozen? ⟨w.heap.size, 1, none⟩ = false := kF hb5 (v := .slice none 0 0) (by go_simp) (by go_simp); replace f2 : w5.frozen? ⟨w.heap.size, 2, none⟩ = false := kF hb5 (v := .int .i64 0) (by go_simp) (by go_simp); replace m0 : w5.cell? ⟨w.heap.size, 0, none⟩ = some (.bool false) := kC hb5 (by go_simp); replace m1 : w5.cell? ⟨w.heap.size, 1, none⟩ = some (.slice none 0 0) := kC hb5 (by go_simp); replace m2 : w5.cell? ⟨w.heap.size, 2, none⟩ = some (.int .i64 0) := kC hb5 (by go_simp); replace hb0F := nT (show Below w.heap.size w _ from by repeat (first | exact hb0F | refine Below.drew ?_)) hb5; have hO5' : OwnW (w.heap.size + 1) w5 a5 n5 c5 (wO p.2.1) := hO5.low (by have := HS4.out; first | omega | (simp; omega)); clear hb5 hO5))
  all_goals go_wp2_with fail
  all_goals refine bodyPost_ret (v := .tuple #[dyV p.1 a5 n5 c5 p.2.2, .int .i64 0]) (by simp [results, Tryz.results27, go_sem, m0, m1, m2]) rfl ⟨_, rfl, ⟨a5, n5, c5, rfl, HN5, hn5, ?_⟩, ?_⟩
  all_goals first
   | exact (((hO5'.far _ _ (by simp)).far _ _ (by simp)).far _ _ (by simp)).low (by omega)
   | exact ((hb0F.setCell (Nat.le_refl _) _).setCell (Nat.le_refl _) _).setCell (Nat.le_refl _) _
 ·generalize expV x = ex at *
  have hne : (ex == 0) = false := by simpa using he
  go_enter Tryz.func27, Tryz.ntmps27
  go_wp2_with fail
  refine cM LC.out ?_
  rintro r w1 ⟨rfl, hb1⟩
  have hb01 := nT hb0 hb1
  go_wp2_with fail
  refine cM (SC.out _) ?_
  rintro r w2 ⟨rfl, hb2⟩
  have hb12 := nT hb1 hb2
  have hb02 := nT hb01 hb2
  have hb2F := below_one w2 (.cells #[.bool s, .int .i64 ex, .int .u64 (f : Int)] 77)
  have hb1F := nT hb12 hb2F
  have hb0F := nT hb02 hb2F
  obtain ⟨m0, m1, m2, f0, f1, f2⟩ := zero_dy (r := w.heap.size) hb1F rfl
  have fc : (w2.alloc (.cells #[.bool s, .int .i64 ex, .int .u64 (f : Int)] 77)).cell? ⟨w2.heap.size, 0, none⟩ = some (.bool s) := by go_simp
  have HT2 : Hid (Tab (w2.alloc (.cells #[.bool s, .int .i64 ex, .int .u64 (f : Int)] 77))) := hT.kept hb0F
  have HWS : Hid (w.heap.size < w2.heap.size) := by rw [Hid]; have := hb12.size; simp at this; omega
  clear hb1 hb2 hb12 hb02 hb01 hb1F hb2F
  go_wp2_with fail
  generalize w2.alloc (.cells #[.bool s, .int .i64 ex, .int .u64 (f : Int)] 77) = W at *
  have HSW : Hid (w.heap.size < W.heap.size) := by rw [Hid]; have := HWS.out; have := World.block_lt_of_cell? _ _ fc; simp at this; omega
  go_region_with (first
   | (go_at_call 62; go_must (refine (HO.out _).mono ?_; rintro r w3 ⟨a3, n3, c3, rfl, HN3, hn3, hO3, hb3⟩; replace f0 : w3.frozen? ⟨w.heap.size, 0, none⟩ = false := kF hb3 (v := .bool false) (by go_simp) (by go_simp); replace f1 : w3.frozen? ⟨w.heap.size, 1, none⟩ = false := kF hb3 (v := .slice none 0 0) (by go_simp) (by go_simp); replace f2 : w3.frozen? ⟨w.heap.size, 2, none⟩ = false := kF hb3 (v := .int .i64 0) (by go_simp) (by go_simp); replace m0 : w3.cell? ⟨w.heap.size, 0, none⟩ = some (.bool false) := kC hb3 (by go_simp); replace m1 : w3.cell? ⟨w.heap.size, 1, none⟩ = some (.slice none 0 0) := kC hb3 (by go_simp); replace m2 : w3.cell? ⟨w.heap.size, 2, none⟩ = some (.int .i64 0) := kC hb3 (by go_simp); replace fc : w3.cell? ⟨w2.heap.size, 0, none⟩ = some (.bool s) := kC hb3 (by go_simp); replace hb0F := nT (show Below w.heap.size w _ from by repeat (first | exact hb0F | refine Below.drew ?_)) hb3; have HT3 : Hid (Tab w3) := hT.kept hb0F; have HS3 : Hid (w.heap.size < w3.heap.size) := Nat.lt_of_lt_of_le HSW.out (by have := hb3.size; simpa using this); clear hb3))
   | (go_at_call 61; refine (HK.out a3 n3 c3 _ (hO3.1.keep (by repeat (first | exact Below.refl _ _ | refine Below.drew ?_))) hn3 (HT3.out.kept (by repeat (first | exact Below.refl _ _ | refine Below.drew ?_)))).mono ?_; rintro r w4 ⟨a4, n4, c4, e4, rfl, HE4, HN4, HZ4, hn4, hO4, hb4⟩; obtain rfl := HE4.out HUB.out.1 HUB.out.2; replace f0 : w4.frozen? ⟨w.heap.size, 0, none⟩ = false := kF hb4 (v := .bool false) (by go_simp) (by go_simp); replace f1 : w4.frozen? ⟨w.heap.size, 1, none⟩ = false := kF hb4 (v := .slice none 0 0) (by go_simp) (by go_simp); replace f2 : w4.frozen? ⟨w.heap.size, 2, none⟩ = false := kF hb4 (v := .int .i64 0) (by go_simp) (by go_simp); replace m0 : w4.cell? ⟨w.heap.size, 0, none⟩ = some (.bool false) := kC hb4 (by go_simp); replace m1 : w4.cell? ⟨w.heap.size, 1, none⟩ = some (.slice none 0 0) := kC hb4 (by go_simp); replace m2 : w4.cell? ⟨w.heap.size, 2, none⟩ = some (.int .i64 0) := kC hb4 (by go_simp); replace hb0F := nT (show Below w.heap.size w _ from by repeat (first | exact hb0F | refine Below.drew ?_)) hb4; have HS4 : Hid (w.heap.size < w4.heap.size) := Nat.lt_of_lt_of_le HS3.out (by have := hb4.size; simpa using this); clear hb4 HE4)
   | (go_at_call 63; refine (told_calls w3.heap.size _ p _ ⟨a4, n4, c4, rfl, HN4, HZ4, hn4, (OwnW.keep hO4 (by repeat (first | exact Below.refl _ _ | refine Below.drew ?_)))⟩).mono ?_; rintro r w5 ⟨v5, rfl, ⟨a5, n5, c5, rfl, HN5, hn5, hO5⟩, hb5⟩; replace f0 : w5.frozen? ⟨w.heap.size, 0, none⟩ = false := kF hb5 (v := .bool false) (by go_simp) (by go_simp); replace f1 : w5.frozen? ⟨w.heap.size, 1, none⟩ = false := kF hb5 (v := .slice none 0 0) (by go_simp) (by go_simp); replace f2 : w5.frozen? ⟨w.heap.size, 2, none⟩ = false := kF hb5 (v := .int .i64 0) (by go_simp) (by go_simp); replace m0 : w5.cell? ⟨w.heap.size, 0, none⟩ = some (.bool false) := kC hb5 (by go_simp); replace m1 : w5.cell? ⟨w.heap.size, 1, none⟩ = some (.slice none 0 0) := kC hb5 (by go_simp); replace m2 : w5.cell? ⟨w.heap.size, 2, none⟩ = some (.int .i64 0) := kC hb5 (by go_simp); replace hb0F := nT (show Below w.heap.size w _ from by repeat (first | exact hb0F | refine Below.drew ?_)) hb5; have hO5' : OwnW (w.heap.size + 1) w5 a5 n5 c5 (wO p.2.1) := hO5.low (by have := HS4.out; first | omega | (simp; omega)); clear hb5 hO5))
  all_goals go_wp2_with fail
  all_goals refine bodyPost_ret (v := .tuple #[dyV p.1 a5 n5 c5 p.2.2, .int .i64 0]) (by simp [results, Tryz.results27, go_sem, m0, m1, m2]) rfl ⟨_, rfl, ⟨a5, n5, c5, rfl, HN5, hn5, ?_⟩, ?_⟩
  all_goals first
   | exact (((hO5'.far _ _ (by simp)).far _ _ (by simp)).far _ _ (by simp)).low (by omega)
   | exact ((hb0F.setCell (Nat.le_refl _) _).setCell (Nat.le_refl _) _).setCell (Nat.le_refl _) _
set_option maxRecDepth 100000 in
set_option maxHeartbeats 1000000 in
theorem pfrom_bad (x : Int) (w : World) (hU : U x) (hf : finB x = false) :
  Calls Tryz.prog 27 #[.int .u64 x] w fun r w' => r = .returned (.tuple #[dyV false none 0 0 0, .int .i64 5]) ∧ Below w.heap.size w w' := by
 have hb0 := below_one w (.cells #[.bool false, .slice none 0 0, .int .i64 0] 27)
 have LC : Hid _ := last_calls x (w.alloc (.cells #[.bool false, .slice none 0 0, .int .i64 0] 27)) hU
 have e1 : lastE x = 5 := by unfold lastE; rw [hf]; rfl
 rw [e1] at LC
 clear e1 hU hf
 go_enter Tryz.func27, Tryz.ntmps27
 go_wp2_with fail
 refine Calls.mono LC.out ?_
 rintro r w1 ⟨rfl, hb1⟩
 obtain ⟨m0, m1, m2, f0, f1, f2⟩ := zero_dy (r := w.heap.size) hb1 rfl
 have hb01 := nT hb0 hb1
 clear hb1
 go_wp2_with fail
 exact bodyPost_ret (v := .tuple #[dyV false none 0 0 0, .int .i64 5]) (by simp [results, Tryz.results27, go_sem, m0, m1, m2]) rfl ⟨rfl, ((hb01.setCell (Nat.le_refl _) _).setCell (Nat.le_refl _) _).setCell (Nat.le_refl _) _⟩
theorem pfrom_calls (x : Int) (w : World) (hU : U x) (hT : Tab w) :
  Calls Tryz.prog 27 #[.int .u64 x] w fun r w' => ∃ v', r = .returned (.tuple #[v', .int .i64 (lastE x)]) ∧ DyAt w.heap.size w' v' (fromP x) ∧ Below w.heap.size w w' := by
 cases hf : finB x with
 | false =>
  have e1 : lastE x = 5 := by unfold lastE; rw [hf]; rfl
  have e2 : fromP x = (false, 0, 0) := by unfold fromP; rw [hf]; rfl
  rw [e1, e2]
  refine (pfrom_bad x w hU hf).mono ?_
  rintro r w' ⟨rfl, hb⟩
  exact ⟨_, rfl, dyAt_zero _ _, hb⟩
 | true =>
  have h1 := frac_bd x
  by_cases he : expV x = 0
  ·refine pfrom_end x w hU hT hf (fracV x).toNat (by omega) (by unfold countV; rw [if_pos he]) (fracV x).toNat (by omega) (Or.inl ⟨he, rfl⟩)
  ·refine pfrom_end x w hU hT hf ((fracV x).toNat + 4503599627370496) (by omega) (by unfold countV; rw [if_neg he]; omega) (fracV x).toNat (by omega) (Or.inr ⟨he, or_hiddenN _ (by omega)⟩)
set_option maxHeartbeats 400000
theorem rFinite_calls (x : Int) (w : World) (h : U x) :
  Calls Tryz.prog 24 #[.int .u64 x] w fun e w' => e = .returned (.bool (finB x)) ∧ w' = w := by
 obtain ⟨h0, h1⟩ := h
 go_enter Tryz.func24, Tryz.ntmps24
 go_wp2
 go_ret
 exact ⟨rfl, rfl⟩
theorem rAbs_calls (x : Int) (w : World) (h : U x) :
  Calls Tryz.prog 32 #[.int .u64 x] w fun e w' => e = .returned (.int .u64 (absV x)) ∧ w' = w := by
 obtain ⟨h0, h1⟩ := h
 go_enter Tryz.func32, Tryz.ntmps32
 go_wp2
 go_ret
 exact ⟨rfl, rfl⟩
set_option maxHeartbeats 400000 in
theorem rSplit_calls (x : Int) (w : World) (h : U x) :
  Calls Tryz.prog 48 #[.int .u64 x] w fun e w' => e = .returned (.agg #[.bool (sgnB x), .int .i64 (expV x), .int .u64 (fracV x)]) ∧ Below w.heap.size w w' := by
 have hx := expV_bd x
 obtain ⟨h0, h1⟩ := h
 go_enter Tryz.func48, Tryz.ntmps48
 go_wp2
 exact bodyPost_ret (v := .agg #[.bool (sgnB x), .int .i64 (expV x), .int .u64 (fracV x)]) (by simp [results, Tryz.results48, go_sem, sgnB, expV, fracV]) rfl ⟨rfl, below_alloc _ _⟩
/-! ### powers of two -/
theorem two_pow_pos (k : Nat) : (0 : Int) < 2 ^ k := Int.pow_pos (by decide)
set_option maxRecDepth 100000 in
set_option maxHeartbeats 4000000 in
theorem qfrom_end (x : Int) (w : World) (hU : U x) (hf : finB x = true) (g : Nat) (hg : g ≤ 18446744073709551615) (hc : (countV x).toNat = g) (f : Nat) (hF : fracV x = (f : Int)) (he : (expV x = 0 ∧ f = g) ∨ (0 < expV x ∧ (f : Int) + 4503599627370496 = (g : Int))) :
  Calls Tryz.prog 20 #[.int .u64 x] w fun r w' => ∃ v', r = .returned (.tuple #[v', .int .i64 (lastE x)]) ∧ DyQ w.heap.size w' v' (fromP x) ∧ Below w.heap.size w w' := by
 have HE : Hid (lastE x = 0) := by rw [Hid, lastE, hf]; rfl
 have HP : Hid (fromP x = formD (sgnB x) g (unitV x)) := by rw [Hid, fromP, hf, if_pos rfl, fromD, hc]
 have hub : -4611686018427387904 ≤ unitV x ∧ unitV x ≤ 4611686018427387904 := by have := exp_bd x; unfold unitV; split <;> omega
 have hb0 := below_one w (.cells #[.bool false, .slice none 0 0, .int .i64 0] 27)
 have FC : Hid _ := rFinite_calls x (w.alloc (.cells #[.bool false, .slice none 0 0, .int .i64 0] 27)) hU
 rw [hf] at FC
 have SC : Hid _ := fun w' => rSplit_calls x w' hU
 rw [hF] at SC
 rw [HE.out, HP.out]
 have HO : Hid _ := fun w' => nOf_calls (g : Int) w' (by omega) (by omega)
 rw [Int.toNat_natCast] at HO
 have hgl : (wO g).length ≤ 1 := (words_len 1 g).2 (by omega)
 have HK : Hid _ := fun a c w' q1 => qForm_calls (sgnB x) a (wO g).length c (wO g) (unitV x) w' q1 (by omega) hub
 rw [val_words] at HK
 have hexb := exp_bd x
 have huv : unitV x = if expV x = 0 then -1074 else expV x - 1075 := rfl
 clear hc hF HP HE hub hU hf hgl
 generalize sgnB x = s at *
 generalize expV x = ex at *
 rcases he with ⟨rfl, rfl⟩ | ⟨he, ho⟩
 ·rw [if_pos rfl] at huv
  rw [huv] at HK ⊢
  clear huv hexb
  generalize formD s f (-1074) = p at *
  go_enter Tryz.func20, Tryz.ntmps20
  go_wp2_with fail
  refine cM FC.out ?_
  rintro r w1 ⟨rfl, rfl⟩
  go_wp2_with fail
  refine cM (SC.out _) ?_
  rintro r w2 ⟨rfl, hb2⟩
  have hb02 := nT hb0 hb2
  have hb2F := below_one w2 (.cells #[.bool s, .int .i64 0, .int .u64 (f : Int)] 77)
  have hb1F := nT hb2 hb2F
  have hb0F := nT hb02 hb2F
  obtain ⟨m0, m1, m2, f0, f1, f2⟩ := zero_dy (r := w.heap.size) hb1F rfl
  have fc : (w2.alloc (.cells #[.bool s, .int .i64 0, .int .u64 (f : Int)] 77)).cell? ⟨w2.heap.size, 0, none⟩ = some (.bool s) := by go_simp
  have HWS : Hid (w.heap.size < w2.heap.size) := by rw [Hid]; have := hb2.size; simp at this; omega
  clear hb2 hb02 hb1F hb2F
  go_wp2_with fail
  generalize w2.alloc (.cells #[.bool s, .int .i64 0, .int .u64 (f : Int)] 77) = W at *
  have HSW : Hid (w.heap.size < W.heap.size) := by rw [Hid]; have := HWS.out; have := World.block_lt_of_cell? _ _ fc; simp at this; omega
  go_region_with (first
   | (go_at_call 50; refine (HO.out _).mono ?_; rintro r w3 ⟨a3, c3, rfl, hO3, hb3⟩; replace f0 := kF hb3 m0 f0; replace f1 := kF hb3 m1 f1; replace f2 := kF hb3 m2 f2; replace m0 := kC hb3 m0; replace m1 := kC hb3 m1; replace m2 := kC hb3 m2; replace fc := kC hb3 fc; have HI3 : Hid (IsW w3 a3 (wO f).length c3 (wO f)) := hO3.isW (words_U _); replace hb0F := nT (show Below w.heap.size w _ from by repeat (first | exact hb0F | refine Below.drew ?_)) hb3; have HS3 : Hid (w.heap.size < w3.heap.size) := Nat.lt_of_lt_of_le HSW.out hb3.size; clear hb3 hO3)
   | (go_at_call 49; refine (HK.out a3 c3 _ (HI3.out.keep (by repeat (first | exact Below.refl _ _ | refine Below.drew ?_)))).mono ?_; rintro r w4 ⟨_, rfl, ⟨a4, n4, c4, rfl, HN4, hO4⟩, hb4⟩; replace f0 := kF hb4 m0 f0; replace f1 := kF hb4 m1 f1; replace f2 := kF hb4 m2 f2; replace m0 := kC hb4 m0; replace m1 := kC hb4 m1; replace m2 := kC hb4 m2; replace hb0F := nT (show Below w.heap.size w _ from by repeat (first | exact hb0F | refine Below.drew ?_)) hb4; have hO4' : OwnW (w.heap.size + 1) w4 a4 n4 c4 (wO p.2.1) := hO4.low (by have := HS3.out; first | omega | (simp; omega)); clear hb4 hO4))
  all_goals go_wp2_with fail
  all_goals refine bodyPost_ret (v := .tuple #[dyV p.1 a4 n4 c4 p.2.2, .int .i64 0]) (by simp [results, Tryz.results20, go_sem, m0, m1, m2]) rfl ⟨_, rfl, ⟨a4, n4, c4, rfl, HN4, ?_⟩, ?_⟩
  all_goals first
   | exact (((hO4'.far _ _ (by simp)).far _ _ (by simp)).far _ _ (by simp)).low (by omega)
   | exact ((hb0F.setCell (Nat.le_refl _) _).setCell (Nat.le_refl _) _).setCell (Nat.le_refl _) _
 ·rw [if_neg (by omega)] at huv
  rw [huv] at HK ⊢
  clear huv
  obtain ⟨hx1, hx2⟩ := hexb
  have hof : IntKind.u64.wrap ((f : Int) + 4503599627370496) = (g : Int) := by rw [ho, IntKind.wrap_u64]; omega
  have hgg : (0 : Int) ≤ (g : Int) ∧ (g : Int) ≤ 18446744073709551615 := by omega
  generalize formD s g (ex - 1075) = p at *
  go_enter Tryz.func20, Tryz.ntmps20
  go_wp2_with fail
  refine cM FC.out ?_
  rintro r w1 ⟨rfl, rfl⟩
  go_wp2_with fail
  refine cM (SC.out _) ?_
  rintro r w2 ⟨rfl, hb2⟩
  have hb02 := nT hb0 hb2
  have hb2F := below_one w2 (.cells #[.bool s, .int .i64 ex, .int .u64 (f : Int)] 77)
  have hb1F := nT hb2 hb2F
  have hb0F := nT hb02 hb2F
  obtain ⟨m0, m1, m2, f0, f1, f2⟩ := zero_dy (r := w.heap.size) hb1F rfl
  have fc : (w2.alloc (.cells #[.bool s, .int .i64 ex, .int .u64 (f : Int)] 77)).cell? ⟨w2.heap.size, 0, none⟩ = some (.bool s) := by go_simp
  have HWS : Hid (w.heap.size < w2.heap.size) := by rw [Hid]; have := hb2.size; simp at this; omega
  clear hb2 hb02 hb1F hb2F
  go_wp2_with fail
  generalize w2.alloc (.cells #[.bool s, .int .i64 ex, .int .u64 (f : Int)] 77) = W at *
  have HSW : Hid (w.heap.size < W.heap.size) := by rw [Hid]; have := HWS.out; have := World.block_lt_of_cell? _ _ fc; simp at this; omega
  go_region_with (first
   | (go_at_call 50; refine (HO.out _).mono ?_; rintro r w3 ⟨a3, c3, rfl, hO3, hb3⟩; replace f0 := kF hb3 m0 f0; replace f1 := kF hb3 m1 f1; replace f2 := kF hb3 m2 f2; replace m0 := kC hb3 m0; replace m1 := kC hb3 m1; replace m2 := kC hb3 m2; replace fc := kC hb3 fc; have HI3 : Hid (IsW w3 a3 (wO g).length c3 (wO g)) := hO3.isW (words_U _); replace hb0F := nT (show Below w.heap.size w _ from by repeat (first | exact hb0F | refine Below.drew ?_)) hb3; have HS3 : Hid (w.heap.size < w3.heap.size) := Nat.lt_of_lt_of_le HSW.out hb3.size; clear hb3 hO3)
   | (go_at_call 49; refine (HK.out a3 c3 _ (HI3.out.keep (by repeat (first | exact Below.refl _ _ | refine Below.drew ?_)))).mono ?_; rintro r w4 ⟨_, rfl, ⟨a4, n4, c4, rfl, HN4, hO4⟩, hb4⟩; replace f0 := kF hb4 m0 f0; replace f1 := kF hb4 m1 f1; replace f2 := kF hb4 m2 f2; replace m0 := kC hb4 m0; replace m1 := kC hb4 m1; replace m2 := kC hb4 m2; replace hb0F := nT (show Below w.heap.size w _ from by repeat (first | exact hb0F | refine Below.drew ?_)) hb4; have hO4' : OwnW (w.heap.size + 1) w4 a4 n4 c4 (wO p.2.1) := hO4.low (by have := HS3.out; first | omega | (simp; omega)); clear hb4 hO4))
  all_goals go_wp2_with fail
  all_goals refine bodyPost_ret (v := .tuple #[dyV p.1 a4 n4 c4 p.2.2, .int .i64 0]) (by simp [results, Tryz.results20, go_sem, m0, m1, m2]) rfl ⟨_, rfl, ⟨a4, n4, c4, rfl, HN4, ?_⟩, ?_⟩
  all_goals first
   | exact (((hO4'.far _ _ (by simp)).far _ _ (by simp)).far _ _ (by simp)).low (by omega)
   | exact ((hb0F.setCell (Nat.le_refl _) _).setCell (Nat.le_refl _) _).setCell (Nat.le_refl _) _
set_option maxHeartbeats 4000000
set_option maxRecDepth 100000
theorem qfrom_bad (x : Int) (w : World) (hU : U x) (hf : finB x = false) :
  Calls Tryz.prog 20 #[.int .u64 x] w fun r w' => r = .returned (.tuple #[dyV false none 0 0 0, .int .i64 5]) ∧ Below w.heap.size w w' := by
 have hb0 := below_one w (.cells #[.bool false, .slice none 0 0, .int .i64 0] 27)
 have FC : Hid _ := rFinite_calls x (w.alloc (.cells #[.bool false, .slice none 0 0, .int .i64 0] 27)) hU
 rw [hf] at FC
 obtain ⟨m0, m1, m2, f0, f1, f2⟩ := zero_dy (r := w.heap.size) (Below.refl _ (w.alloc (.cells #[.bool false, .slice none 0 0, .int .i64 0] 27))) rfl
 clear hU hf
 go_enter Tryz.func20, Tryz.ntmps20
 go_wp2_with fail
 refine cM FC.out ?_
 rintro r w1 ⟨rfl, rfl⟩
 go_wp2_with fail
 exact bodyPost_ret (v := .tuple #[dyV false none 0 0 0, .int .i64 5]) (by simp [results, Tryz.results20, go_sem, m0, m1, m2]) rfl ⟨rfl, hb0⟩
theorem qfrom_calls (x : Int) (w : World) (hU : U x) :
  Calls Tryz.prog 20 #[.int .u64 x] w fun r w' => ∃ v', r = .returned (.tuple #[v', .int .i64 (lastE x)]) ∧ DyQ w.heap.size w' v' (fromP x) ∧ Below w.heap.size w w' := by
 cases hf : finB x with
 | false =>
  have e1 : lastE x = 5 := by unfold lastE; rw [hf]; rfl
  have e2 : fromP x = (false, 0, 0) := by unfold fromP; rw [hf]; rfl
  rw [e1, e2]
  refine (qfrom_bad x w hU hf).mono ?_
  rintro r w' ⟨rfl, hb⟩
  exact ⟨_, rfl, dyQ_zero _ _, hb⟩
 | true =>
  have h1 := frac_bd x
  have h2 := exp_bd x
  by_cases he : expV x = 0
  ·exact qfrom_end x w hU hf (fracV x).toNat (by omega) (by unfold countV; rw [if_pos he]) (fracV x).toNat (by omega) (Or.inl ⟨he, rfl⟩)
  ·exact qfrom_end x w hU hf ((fracV x).toNat + 4503599627370496) (by omega) (by unfold countV; rw [if_neg he]; omega) (fracV x).toNat (by omega) (Or.inr ⟨by omega, by omega⟩)
theorem qint_end (s : Bool) (j : Nat) (hj : j ≤ 18446744073709551615) (w : World) (i : Int) (hi : -9223372036854775808 ≤ i ∧ i ≤ 9223372036854775807) (hs : decide (i < 0) = s) (hc : (s = false ∧ i = (j : Int)) ∨ (s = true ∧ i = -(j : Int))) :
  Calls Tryz.prog 22 #[.int .i64 i] w fun r w' => ∃ v', r = .returned v' ∧ DyQ w.heap.size w' v' (formD s j 0) ∧ Below w.heap.size w w' := by
 have hb0 := below_one w (.cells #[.bool false, .slice none 0 0, .int .i64 0] 27)
 obtain ⟨hi1, hi2⟩ := hi
 have HO : Hid _ := fun w' => nOf_calls (j : Int) w' (by omega) (by omega)
 rw [Int.toNat_natCast] at HO
 have hgl : (wO j).length ≤ 1 := (words_len 1 j).2 (by omega)
 have HK : Hid _ := fun a c w' q1 => qForm_calls s a (wO j).length c (wO j) 0 w' q1 (by omega) (by omega)
 rw [val_words] at HK
 clear hgl
 have hjj : (0 : Int) ≤ (j : Int) ∧ (j : Int) ≤ 18446744073709551615 := by omega
 generalize formD s j 0 = p at *
 rcases hc with ⟨rfl, rfl⟩ | ⟨rfl, rfl⟩
 ·have hlt : ¬ (j : Int) < 0 := by omega
  have q3 : IntKind.u64.wrap (j : Int) = (j : Int) := by rw [IntKind.wrap_u64]; omega
  go_enter Tryz.func22, Tryz.ntmps22
  go_wp2_with fail
  refine cM (HO.out _) ?_
  rintro r w1 ⟨a1, c1, rfl, hO1, hb1⟩
  have hb01 := nT hb0 hb1
  have HI1 : IsW w1 a1 (wO j).length c1 (wO j) := hO1.isW (words_U _)
  clear hO1
  go_wp2_with fail
  refine cM (HK.out a1 c1 _ HI1) ?_
  rintro r w2 ⟨_, rfl, ⟨a2, n2, c2, rfl, HN2, hO2⟩, hb2⟩
  have hb12 := nT hb1 hb2
  have hb02 := nT hb01 hb2
  have hsz : w.heap.size + 1 ≤ w1.heap.size := by have := hb1.size; simp at this; omega
  obtain ⟨m0, m1, m2, f0, f1, f2⟩ := zero_dy (r := w.heap.size) hb12 rfl
  have hO2' : OwnW (w.heap.size + 1) w2 a2 n2 c2 (wO p.2.1) := hO2.low hsz
  clear hb1 hb2 hO2 HI1 HK HO
  go_wp2_with fail
  refine bodyPost_ret (v := dyV p.1 a2 n2 c2 p.2.2) (by simp [results, Tryz.results22, go_sem, m0, m1, m2]) rfl ⟨_, rfl, ⟨a2, n2, c2, rfl, HN2, ?_⟩, ?_⟩
  ·exact (((hO2'.far _ _ (by simp)).far _ _ (by simp)).far _ _ (by simp)).low (by omega)
  ·exact ((hb02.setCell (Nat.le_refl _) _).setCell (Nat.le_refl _) _).setCell (Nat.le_refl _) _
 ·have hlt : -(j : Int) < 0 := by simpa using hs
  have q1 : IntKind.u64.wrap (-(j : Int)) = 18446744073709551616 - (j : Int) := by rw [IntKind.wrap_u64]; omega
  have q2 : IntKind.u64.wrap (-(18446744073709551616 - (j : Int))) = (j : Int) := by rw [IntKind.wrap_u64]; omega
  have q4 : IntKind.u64.wrap (0 - (18446744073709551616 - (j : Int))) = (j : Int) := by rw [IntKind.wrap_u64]; omega
  go_enter Tryz.func22, Tryz.ntmps22
  go_wp2_with fail
  refine cM (HO.out _) ?_
  rintro r w1 ⟨a1, c1, rfl, hO1, hb1⟩
  have hb01 := nT hb0 hb1
  have HI1 : IsW w1 a1 (wO j).length c1 (wO j) := hO1.isW (words_U _)
  clear hO1
  go_wp2_with fail
  refine cM (HK.out a1 c1 _ HI1) ?_
  rintro r w2 ⟨_, rfl, ⟨a2, n2, c2, rfl, HN2, hO2⟩, hb2⟩
  have hb12 := nT hb1 hb2
  have hb02 := nT hb01 hb2
  have hsz : w.heap.size + 1 ≤ w1.heap.size := by have := hb1.size; simp at this; omega
  obtain ⟨m0, m1, m2, f0, f1, f2⟩ := zero_dy (r := w.heap.size) hb12 rfl
  have hO2' : OwnW (w.heap.size + 1) w2 a2 n2 c2 (wO p.2.1) := hO2.low hsz
  clear hb1 hb2 hO2 HI1 HK HO
  go_wp2_with fail
  refine bodyPost_ret (v := dyV p.1 a2 n2 c2 p.2.2) (by simp [results, Tryz.results22, go_sem, m0, m1, m2]) rfl ⟨_, rfl, ⟨a2, n2, c2, rfl, HN2, ?_⟩, ?_⟩
  ·exact (((hO2'.far _ _ (by simp)).far _ _ (by simp)).far _ _ (by simp)).low (by omega)
  ·exact ((hb02.setCell (Nat.le_refl _) _).setCell (Nat.le_refl _) _).setCell (Nat.le_refl _) _
theorem qint_calls (i : Int) (hi : -9223372036854775808 ≤ i ∧ i ≤ 9223372036854775807) (w : World) :
  Calls Tryz.prog 22 #[.int .i64 i] w fun r w' => ∃ v', r = .returned v' ∧ DyQ w.heap.size w' v' (intD i) ∧ Below w.heap.size w w' := by
 unfold intD
 by_cases h : i < 0
 ·rw [decide_eq_true h]
  exact qint_end true i.natAbs (by omega) w i hi (decide_eq_true h) (Or.inr ⟨rfl, by omega⟩)
 ·rw [decide_eq_false h]
  exact qint_end false i.natAbs (by omega) w i hi (decide_eq_false h) (Or.inl ⟨rfl, by omega⟩)
end Go.Proofs.YtiijfnaaekmpbaaGreatDoor

/- The walk of fields, the normal ones. -/
import Derived.Test.YtionhpedghmecaaGreatDoorDTo1
namespace Go.Proofs.YtionhpedghmecaaGreatDoor
open Go.RowKit
set_option maxRecDepth 100000 in
set_option maxHeartbeats 8000000 in
theorem fields_high (s : Bool) (b off c m : Nat) (e : Int) (w : World) (hI : IsW w (some ⟨b, off, none⟩) 1 c (wordsOf m)) (hc0 : w.cell? ⟨b, off, none⟩ = some (.int .u64 (m : Int))) (hg : greatB m = false) (h0 : m ≠ 0) (j : Nat) (he : -1100 ≤ e ∧ e ≤ 1100) (ht : -1022 ≤ e + (blen m : Int) - 1) (hj : j + blen m = 53) :
  Calls Tryz.prog 155 #[numV s (some ⟨b, off, none⟩) 1 c e false] w fun r w' => r = .returned (.agg #[.bool s, .int .i64 (e + (blen m : Int) - 1 + 1023), .int .u64 ((m * 2 ^ j - 4503599627370496 : Nat) : Int)]) ∧ Below w.heap.size w w' := by
 have hroom := high_room h0 hj
 have hR : IntKind.u64.wrap ((m : Int) * 2 ^ j) = ((m * 2 ^ j : Nat) : Int) := shl_nat (by omega)
 have hN := andNot_hidden _ hroom.1 hroom.2
 generalize m * 2 ^ j - 4503599627370496 = G at *
 generalize m * 2 ^ j = F at *
 have hb0 := nT (below_one w (.cells #[.bool s, .slice (some ⟨b, off, none⟩) 1 c, .int .i64 e, .bool false] 72)) (below_one _ (.cells #[.bool false, .int .i64 0, .int .u64 0] 46))
 have TC : Hid _ := fun w' q => top_calls s (some ⟨b, off, none⟩) 1 c m e false w' q (by omega) hg (by omega)
 have SC : Hid _ := fun w' q => size_calls s (some ⟨b, off, none⟩) 1 c m e false w' q (by omega) hg
 have hbl : blen m ≤ 53 := by omega
 generalize blen m = bl at *
 have hjb : j ≤ 53 := by omega
 have hjs : (53 : Int) - (bl : Int) = (j : Int) := by omega
 have hjw : IntKind.i64.wrap (j : Int) = (j : Int) := by rw [IntKind.wrap_i64]; omega
 obtain ⟨he1, he2⟩ := he
 have hww : IntKind.i64.wrap (e + (bl : Int) - 1 + 1023) = e + (bl : Int) - 1 + 1023 := by rw [IntKind.wrap_i64]; omega
 obtain ⟨hm1, hm2⟩ := hroom
 have hc1 := kC hb0 hc0
 go_enter Tryz.func155, Tryz.ntmps155
 go_wp2_with fail
 refine Calls.mono (TC.out _ (hI.keep hb0)) ?_
 rintro r w1 ⟨rfl, hb1⟩
 have hb01 := nT hb0 hb1
 have hc2 := kC hb1 hc1
 have k0 : w1.cell? ⟨w.heap.size, 0, none⟩ = some (.bool s) := kC hb1 (by go_simp)
 have k1 : w1.cell? ⟨w.heap.size, 1, none⟩ = some (.slice (some ⟨b, off, none⟩) 1 c) := kC hb1 (by go_simp)
 have k2 : w1.cell? ⟨w.heap.size, 2, none⟩ = some (.int .i64 (e)) := kC hb1 (by go_simp)
 have z0 : w1.cell? ⟨w.heap.size + 1, 0, none⟩ = some (.bool false) := kC hb1 (by go_simp)
 have z1 : w1.cell? ⟨w.heap.size + 1, 1, none⟩ = some (.int .i64 0) := kC hb1 (by go_simp)
 have z2 : w1.cell? ⟨w.heap.size + 1, 2, none⟩ = some (.int .u64 0) := kC hb1 (by go_simp)
 have y0 : w1.frozen? ⟨w.heap.size + 1, 0, none⟩ = false := kF hb1 (v := .bool false) (by go_simp) (by go_simp)
 have y1 : w1.frozen? ⟨w.heap.size + 1, 1, none⟩ = false := kF hb1 (v := .int .i64 0) (by go_simp) (by go_simp)
 have y2 : w1.frozen? ⟨w.heap.size + 1, 2, none⟩ = false := kF hb1 (v := .int .u64 0) (by go_simp) (by go_simp)
 have k3 : w1.cell? ⟨w.heap.size, 3, none⟩ = some (.bool false) := kC hb1 (by go_simp)
 have hI1 := hI.keep hb01
 clear hb1 hb0 hc1 hc0 hI
 go_wp2_with fail
 go_region_with (go_at_call 111; refine (SC.out _ (hI1.keep (by repeat (first | exact Below.refl _ _ | refine Below.drew ?_)))).mono ?_; rintro r w2 ⟨rfl, hb2⟩; replace y0 := kF hb2 z0 y0; replace y1 := kF hb2 z1 y1; replace y2 := kF hb2 z2 y2; replace z0 := kC hb2 z0; replace z1 := kC hb2 z1; replace z2 := kC hb2 z2; replace k0 := kC hb2 k0; replace k1 := kC hb2 k1; replace k2 := kC hb2 k2; replace k3 := kC hb2 k3; replace hc2 := kC hb2 hc2; replace hI1 := (hI1.keep (show Below _ _ _ from by repeat (first | exact Below.refl _ _ | refine Below.drew ?_))).keep hb2; replace hb01 := nT (show Below w.heap.size w _ from by repeat (first | exact hb01 | refine Below.drew ?_)) hb2; clear hb2)
 all_goals go_wp2_with fail
 all_goals go_region_with (go_at_call 78; refine (TC.out _ (hI1.keep (by repeat (first | exact Below.refl _ _ | refine Below.drew ?_)))).mono ?_; rintro r w3 ⟨rfl, hb3⟩; replace y0 := kF hb3 z0 y0; replace y1 := kF hb3 z1 y1; replace y2 := kF hb3 z2 y2; replace z0 := kC hb3 z0; replace z1 := kC hb3 z1; replace z2 := kC hb3 z2; replace k0 := kC hb3 k0; replace k1 := kC hb3 k1; replace k2 := kC hb3 k2; replace k3 := kC hb3 k3; replace hc2 := kC hb3 hc2; replace hI1 := (hI1.keep (show Below _ _ _ from by repeat (first | exact Below.refl _ _ | refine Below.drew ?_))).keep hb3; replace hb01 := nT (show Below w.heap.size w _ from by repeat (first | exact hb01 | refine Below.drew ?_)) hb3; clear hb3)
 all_goals go_wp2_with fail
 all_goals refine bodyPost_ret (v := .agg #[.bool s, .int .i64 (e + (bl : Int) - 1 + 1023), .int .u64 (G : Int)]) (by simp [results, Tryz.results155, go_sem, z0, z1, z2]) rfl ⟨rfl, ?_⟩
 all_goals repeat (first | exact hb01 | refine Below.drew ?_ | refine Below.setCell ?_ (by show w.heap.size ≤ w.heap.size + 1; omega) _)
end Go.Proofs.YtionhpedghmecaaGreatDoor

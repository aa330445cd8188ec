/- Package ulpref05: near, path by path. Package ulpref05: near as one; Near and Tiny; program and document round alike. -/
import Derived.Test.YtfgemlgmhlidmaaGreatDoorRNW
import Derived.Test.YtfgemlgmhlidmaaGreatDoorRNV

namespace Go.Proofs.YtfgemlgmhlidmaaGreatDoor
open Go.RowKit
theorem near0 (s : Bool) (a : Option Addr) (len cap : Nat) (e : Int) (w : World) : Below w.heap.size w (((w.alloc (.cells #[.bool s, .slice a len cap, .int .i64 e] 38)).alloc (.cells #[.int .u64 0, .int .u8 0] 25)).alloc (.cells #[.int .u64 0, .int .u8 0] 25)) ∧ (((w.alloc (.cells #[.bool s, .slice a len cap, .int .i64 e] 38)).alloc (.cells #[.int .u64 0, .int .u8 0] 25)).alloc (.cells #[.int .u64 0, .int .u8 0] 25)).cell? ⟨w.heap.size, 0, none⟩ = some (.bool s) ∧ (((w.alloc (.cells #[.bool s, .slice a len cap, .int .i64 e] 38)).alloc (.cells #[.int .u64 0, .int .u8 0] 25)).alloc (.cells #[.int .u64 0, .int .u8 0] 25)).cell? ⟨w.heap.size, 1, none⟩ = some (.slice a len cap) ∧ (((w.alloc (.cells #[.bool s, .slice a len cap, .int .i64 e] 38)).alloc (.cells #[.int .u64 0, .int .u8 0] 25)).alloc (.cells #[.int .u64 0, .int .u8 0] 25)).cell? ⟨w.heap.size, 2, none⟩ = some (.int .i64 e) ∧ (((w.alloc (.cells #[.bool s, .slice a len cap, .int .i64 e] 38)).alloc (.cells #[.int .u64 0, .int .u8 0] 25)).alloc (.cells #[.int .u64 0, .int .u8 0] 25)).cell? ⟨w.heap.size + 1, 0, none⟩ = some (.int .u64 0) ∧ (((w.alloc (.cells #[.bool s, .slice a len cap, .int .i64 e] 38)).alloc (.cells #[.int .u64 0, .int .u8 0] 25)).alloc (.cells #[.int .u64 0, .int .u8 0] 25)).cell? ⟨w.heap.size + 1, 1, none⟩ = some (.int .u8 0) ∧ (((w.alloc (.cells #[.bool s, .slice a len cap, .int .i64 e] 38)).alloc (.cells #[.int .u64 0, .int .u8 0] 25)).alloc (.cells #[.int .u64 0, .int .u8 0] 25)).frozen? ⟨w.heap.size + 1, 0, none⟩ = false ∧ (((w.alloc (.cells #[.bool s, .slice a len cap, .int .i64 e] 38)).alloc (.cells #[.int .u64 0, .int .u8 0] 25)).alloc (.cells #[.int .u64 0, .int .u8 0] 25)).frozen? ⟨w.heap.size + 1, 1, none⟩ = false ∧ (((w.alloc (.cells #[.bool s, .slice a len cap, .int .i64 e] 38)).alloc (.cells #[.int .u64 0, .int .u8 0] 25)).alloc (.cells #[.int .u64 0, .int .u8 0] 25)).cell? ⟨w.heap.size + 1 + 1, 0, none⟩ = some (.int .u64 0) ∧ (((w.alloc (.cells #[.bool s, .slice a len cap, .int .i64 e] 38)).alloc (.cells #[.int .u64 0, .int .u8 0] 25)).alloc (.cells #[.int .u64 0, .int .u8 0] 25)).cell? ⟨w.heap.size + 1 + 1, 1, none⟩ = some (.int .u8 0) ∧ (((w.alloc (.cells #[.bool s, .slice a len cap, .int .i64 e] 38)).alloc (.cells #[.int .u64 0, .int .u8 0] 25)).alloc (.cells #[.int .u64 0, .int .u8 0] 25)).frozen? ⟨w.heap.size + 1 + 1, 0, none⟩ = false ∧ (((w.alloc (.cells #[.bool s, .slice a len cap, .int .i64 e] 38)).alloc (.cells #[.int .u64 0, .int .u8 0] 25)).alloc (.cells #[.int .u64 0, .int .u8 0] 25)).frozen? ⟨w.heap.size + 1 + 1, 1, none⟩ = false :=
 ⟨nT (nT (below_one _ _) (below_one _ _)) (below_one _ _), by go_simp, by go_simp, by go_simp, by go_simp, by go_simp, by go_simp, by go_simp, by go_simp, by go_simp, by go_simp, by go_simp⟩
set_option maxRecDepth 100000 in
set_option maxHeartbeats 4000000 in
theorem dn_A_000 (s : Bool) (a : Option Addr) (len cap : Nat) (xs : List Int) (e : Int) (w : World) (h : IsW w a len cap xs) (hm : len ≤ 17592186044000) (_hg : greatB (val xs) = false) (_he : -32768 ≤ e ∧ e ≤ 32768) (h0 : val xs = 0) :
  Calls Tryz.prog 98 #[dyV s a len cap e] w fun r w' => r = .returned (.agg #[.int .u64 0, .int .u8 0]) ∧ Below w.heap.size w w' := by
 have h00 : IsW w a len cap xs := h
 have HL : Hid _ := fun w' (h' : IsW w' a len cap xs) => nLen_calls a len cap xs w' h' (by omega)
 rw [h0, blen_zero] at HL
 clear h0 _hg _he
 obtain ⟨bA, c1, c2, c3, z0, z1, f0, f1, r0, r1, g0, g1⟩ := near0 s a len cap e w
 have hI := h.keep bA
 clear h
 go_enter Tryz.func98, Tryz.ntmps98
 go_wp2_with fail
 generalize (((w.alloc (.cells #[.bool s, .slice a len cap, .int .i64 e] 38)).alloc (.cells #[.int .u64 0, .int .u8 0] 25)).alloc (.cells #[.int .u64 0, .int .u8 0] 25)) = w0 at *
 refine Calls.mono (HL.out _ hI) ?_
 rintro r w1 ⟨rfl, bN⟩
 replace f0 := kF bN z0 f0
 replace f1 := kF bN z1 f1
 replace g0 := kF bN r0 g0
 replace g1 := kF bN r1 g1
 replace c1 := kC bN c1
 replace c2 := kC bN c2
 replace c3 := kC bN c3
 replace z0 := kC bN z0
 replace z1 := kC bN z1
 replace r0 := kC bN r0
 replace r1 := kC bN r1
 replace hI := IsW.keep hI bN
 replace bA := nT bA bN
 clear bN
 go_wp2_with fail
 exact bodyPost_ret (v := .agg #[.int .u64 0, .int .u8 0]) (by simp [results, Tryz.results98, go_sem, z0, z1]) rfl ⟨rfl, by repeat (first | exact bA | refine Below.setCell ?_ (by first | (show w.heap.size ≤ w.heap.size + 1; omega) | (show w.heap.size ≤ w.heap.size + 1 + 1; omega)) _)⟩
set_option maxRecDepth 100000 in
set_option maxHeartbeats 4000000 in
theorem dn_B_101 (s : Bool) (a : Option Addr) (len cap : Nat) (xs : List Int) (e : Int) (w : World) (h : IsW w a len cap xs) (hm : len ≤ 17592186044000) (hg : greatB (val xs) = false) (he : -32768 ≤ e ∧ e ≤ 32768) (h0 : val xs ≠ 0) (k1 : 1024 < tpI (val xs) e + 1) (hty : tinyQ (val xs) e = false) :
  Calls Tryz.prog 98 #[dyV s a len cap e] w fun r w' => r = .returned (.agg #[.int .u64 (if s = true then negV 9218868437227405312 else 9218868437227405312), .int .u8 20]) ∧ Below w.heap.size w w' := by
 have h00 : IsW w a len cap xs := h
 have HL : Hid _ := fun w' (h' : IsW w' a len cap xs) => nLen_calls a len cap xs w' h' (by omega)
 have HT : Hid _ := fun w' (h' : IsW w' a len cap xs) => rtop_calls s a len cap xs e w' h' (by omega) hg he
 have HTi : Hid _ := fun w' (h' : IsW w' a len cap xs) => rtiny_calls s a len cap xs e w' h' hm hg he
 have o8 : bits .or .u8 16 8 = 24 := by decide +kernel
 have hbl := (great_not _).1 hg
 have htb : Hid (-32769 ≤ tpI (val xs) e ∧ tpI (val xs) e ≤ 98304) := by rw [Hid]; unfold tpI; omega
 have hz : ((blen (val xs) : Int) == 0) = false := by
  have : blen (val xs) ≠ 0 := fun q => h0 ((blen_nil _).1 q)
  simp; omega
 have hz' : (blen (val xs) : Int) ≠ 0 := by simpa using hz
 rw [hty] at HTi
 have HN : Hid _ := fun w => rNeg_calls 9218868437227405312 w ⟨by decide, by decide⟩
 have W1 : IntKind.i64.wrap (tpI (val xs) e + 1 - 53) = tpI (val xs) e - 52 := by have := htb.out; rw [IntKind.wrap_i64]; omega
 generalize tpI (val xs) e + 1 = tp at *
 generalize tpI (val xs) e - 52 = l0 at *
 generalize (blen (val xs) : Int) = bl at *
 generalize tinyQ (val xs) e = tq at *
 clear h0 hg he hbl hty
 obtain ⟨bA, c1, c2, c3, z0, z1, f0, f1, r0, r1, g0, g1⟩ := near0 s a len cap e w
 have hI := h.keep bA
 clear h
 go_enter Tryz.func98, Tryz.ntmps98
 go_wp2_with fail
 generalize (((w.alloc (.cells #[.bool s, .slice a len cap, .int .i64 e] 38)).alloc (.cells #[.int .u64 0, .int .u8 0] 25)).alloc (.cells #[.int .u64 0, .int .u8 0] 25)) = w0 at *
 refine Calls.mono (HL.out _ hI) ?_
 rintro r w1 ⟨rfl, bN⟩
 replace f0 := kF bN z0 f0
 replace f1 := kF bN z1 f1
 replace g0 := kF bN r0 g0
 replace g1 := kF bN r1 g1
 replace c1 := kC bN c1
 replace c2 := kC bN c2
 replace c3 := kC bN c3
 replace z0 := kC bN z0
 replace z1 := kC bN z1
 replace r0 := kC bN r0
 replace r1 := kC bN r1
 replace hI := IsW.keep hI bN
 replace bA := nT bA bN
 clear bN
 go_wp2_with fail
 refine Calls.mono (HT.out _ hI) ?_
 rintro r w2 ⟨rfl, bN⟩
 replace f0 := kF bN z0 f0
 replace f1 := kF bN z1 f1
 replace g0 := kF bN r0 g0
 replace g1 := kF bN r1 g1
 replace c1 := kC bN c1
 replace c2 := kC bN c2
 replace c3 := kC bN c3
 replace z0 := kC bN z0
 replace z1 := kC bN z1
 replace r0 := kC bN r0
 replace r1 := kC bN r1
 replace hI := IsW.keep hI bN
 replace bA := nT bA bN
 clear bN
 go_wp2_with fail
 refine Calls.mono (HT.out _ hI) ?_
 rintro r w3 ⟨rfl, bN⟩
 replace f0 := kF bN z0 f0
 replace f1 := kF bN z1 f1
 replace g0 := kF bN r0 g0
 replace g1 := kF bN r1 g1
 replace c1 := kC bN c1
 replace c2 := kC bN c2
 replace c3 := kC bN c3
 replace z0 := kC bN z0
 replace z1 := kC bN z1
 replace r0 := kC bN r0
 replace r1 := kC bN r1
 replace hI := IsW.keep hI bN
 replace bA := nT bA bN
 clear bN
 go_wp2_with fail
 have bS : Below (w.heap.size + 1 + 1) w3 ((w3.setCell ⟨w.heap.size + 1 + 1, 0, none⟩ (.int .u64 9218868437227405312)).setCell ⟨w.heap.size + 1 + 1, 1, none⟩ (.int .u8 16)) := (((Below.refl _ _).setCell (p := ⟨w.heap.size + 1 + 1, 0, none⟩) (Nat.le_refl _) _).setCell (p := ⟨w.heap.size + 1 + 1, 1, none⟩) (Nat.le_refl _) _)
 replace c1 := (bS.cell (p := ⟨w.heap.size, 0, none⟩) (show w.heap.size < w.heap.size + 1 + 1 by omega)).trans c1
 replace c2 := (bS.cell (p := ⟨w.heap.size, 1, none⟩) (show w.heap.size < w.heap.size + 1 + 1 by omega)).trans c2
 replace c3 := (bS.cell (p := ⟨w.heap.size, 2, none⟩) (show w.heap.size < w.heap.size + 1 + 1 by omega)).trans c3
 replace f0 := (bS.frozen (p := ⟨w.heap.size + 1, 0, none⟩) (show w.heap.size + 1 < w.heap.size + 1 + 1 by omega)).trans f0
 replace z0 := (bS.cell (p := ⟨w.heap.size + 1, 0, none⟩) (show w.heap.size + 1 < w.heap.size + 1 + 1 by omega)).trans z0
 replace f1 := (bS.frozen (p := ⟨w.heap.size + 1, 1, none⟩) (show w.heap.size + 1 < w.heap.size + 1 + 1 by omega)).trans f1
 replace z1 := (bS.cell (p := ⟨w.heap.size + 1, 1, none⟩) (show w.heap.size + 1 < w.heap.size + 1 + 1 by omega)).trans z1
 have nr0 : ((w3.setCell ⟨w.heap.size + 1 + 1, 0, none⟩ (.int .u64 9218868437227405312)).setCell ⟨w.heap.size + 1 + 1, 1, none⟩ (.int .u8 16)).cell? ⟨w.heap.size + 1 + 1, 0, none⟩ = some (.int .u64 9218868437227405312) := by go_simp
 have nr1 : ((w3.setCell ⟨w.heap.size + 1 + 1, 0, none⟩ (.int .u64 9218868437227405312)).setCell ⟨w.heap.size + 1 + 1, 1, none⟩ (.int .u8 16)).cell? ⟨w.heap.size + 1 + 1, 1, none⟩ = some (.int .u8 16) := by go_simp
 have ng0 : ((w3.setCell ⟨w.heap.size + 1 + 1, 0, none⟩ (.int .u64 9218868437227405312)).setCell ⟨w.heap.size + 1 + 1, 1, none⟩ (.int .u8 16)).frozen? ⟨w.heap.size + 1 + 1, 0, none⟩ = false := by go_simp
 have ng1 : ((w3.setCell ⟨w.heap.size + 1 + 1, 0, none⟩ (.int .u64 9218868437227405312)).setCell ⟨w.heap.size + 1 + 1, 1, none⟩ (.int .u8 16)).frozen? ⟨w.heap.size + 1 + 1, 1, none⟩ = false := by go_simp
 have nbA : Below w.heap.size w ((w3.setCell ⟨w.heap.size + 1 + 1, 0, none⟩ (.int .u64 9218868437227405312)).setCell ⟨w.heap.size + 1 + 1, 1, none⟩ (.int .u8 16)) := Below.setCell (Below.setCell (bA) (show w.heap.size ≤ w.heap.size + 1 + 1 by omega) _) (show w.heap.size ≤ w.heap.size + 1 + 1 by omega) _
 replace hI := IsW.keep h00 nbA
 clear bS r0 r1 g0 g1 bA
 generalize ((w3.setCell ⟨w.heap.size + 1 + 1, 0, none⟩ (.int .u64 9218868437227405312)).setCell ⟨w.heap.size + 1 + 1, 1, none⟩ (.int .u8 16)) = w4 at *
 have r0 := nr0
 have r1 := nr1
 have g0 := ng0
 have g1 := ng1
 have bA := nbA
 clear nr0 nr1 ng0 ng1 nbA
 refine Calls.mono (HTi.out _ hI) ?_
 rintro r w5 ⟨rfl, bN⟩
 replace f0 := kF bN z0 f0
 replace f1 := kF bN z1 f1
 replace g0 := kF bN r0 g0
 replace g1 := kF bN r1 g1
 replace c1 := kC bN c1
 replace c2 := kC bN c2
 replace c3 := kC bN c3
 replace z0 := kC bN z0
 replace z1 := kC bN z1
 replace r0 := kC bN r0
 replace r1 := kC bN r1
 replace hI := IsW.keep hI bN
 replace bA := nT bA bN
 clear bN
 cases s
 ·go_wp2_with fail
  exact bodyPost_ret (v := .agg #[.int .u64 9218868437227405312, .int .u8 20]) (by simp [results, Tryz.results98, go_sem, z0, z1]) rfl ⟨rfl, by repeat (first | exact bA | refine Below.setCell ?_ (by first | (show w.heap.size ≤ w.heap.size + 1; omega) | (show w.heap.size ≤ w.heap.size + 1 + 1; omega)) _)⟩
 ·go_wp2_with fail
  refine Calls.mono (HN.out _) ?_
  rintro r wz ⟨rfl, rfl⟩
  go_wp2_with fail
  exact bodyPost_ret (v := .agg #[.int .u64 (negV 9218868437227405312), .int .u8 20]) (by simp [results, Tryz.results98, go_sem, z0, z1]) rfl ⟨rfl, by repeat (first | exact bA | refine Below.setCell ?_ (by first | (show w.heap.size ≤ w.heap.size + 1; omega) | (show w.heap.size ≤ w.heap.size + 1 + 1; omega)) _)⟩
set_option maxRecDepth 100000 in
set_option maxHeartbeats 4000000 in
theorem dn_C_110 (s : Bool) (a : Option Addr) (len cap : Nat) (xs : List Int) (e : Int) (w : World) (h : IsW w a len cap xs) (hm : len ≤ 17592186044000) (hg : greatB (val xs) = false) (he : -32768 ≤ e ∧ e ≤ 32768) (h0 : val xs ≠ 0) (k2 : tpI (val xs) e + 1 < -1074) (hty : tinyQ (val xs) e = true) :
  Calls Tryz.prog 98 #[dyV s a len cap e] w fun r w' => r = .returned (.agg #[.int .u64 (if s = true then negV 0 else 0), .int .u8 24]) ∧ Below w.heap.size w w' := by
 have h00 : IsW w a len cap xs := h
 have HL : Hid _ := fun w' (h' : IsW w' a len cap xs) => nLen_calls a len cap xs w' h' (by omega)
 have HT : Hid _ := fun w' (h' : IsW w' a len cap xs) => rtop_calls s a len cap xs e w' h' (by omega) hg he
 have HTi : Hid _ := fun w' (h' : IsW w' a len cap xs) => rtiny_calls s a len cap xs e w' h' hm hg he
 have o8 : bits .or .u8 16 8 = 24 := by decide +kernel
 have hbl := (great_not _).1 hg
 have htb : Hid (-32769 ≤ tpI (val xs) e ∧ tpI (val xs) e ≤ 98304) := by rw [Hid]; unfold tpI; omega
 have hz : ((blen (val xs) : Int) == 0) = false := by
  have : blen (val xs) ≠ 0 := fun q => h0 ((blen_nil _).1 q)
  simp; omega
 have hz' : (blen (val xs) : Int) ≠ 0 := by simpa using hz
 rw [hty] at HTi
 have HN : Hid _ := fun w => rNeg_calls 0 w ⟨by decide, by decide⟩
 have W1 : IntKind.i64.wrap (tpI (val xs) e + 1 - 53) = tpI (val xs) e - 52 := by have := htb.out; rw [IntKind.wrap_i64]; omega
 have k1 : ¬ (1024 < tpI (val xs) e + 1) := by omega
 generalize tpI (val xs) e + 1 = tp at *
 generalize tpI (val xs) e - 52 = l0 at *
 generalize (blen (val xs) : Int) = bl at *
 generalize tinyQ (val xs) e = tq at *
 clear h0 hg he hbl hty
 obtain ⟨bA, c1, c2, c3, z0, z1, f0, f1, r0, r1, g0, g1⟩ := near0 s a len cap e w
 have hI := h.keep bA
 clear h
 go_enter Tryz.func98, Tryz.ntmps98
 go_wp2_with fail
 generalize (((w.alloc (.cells #[.bool s, .slice a len cap, .int .i64 e] 38)).alloc (.cells #[.int .u64 0, .int .u8 0] 25)).alloc (.cells #[.int .u64 0, .int .u8 0] 25)) = w0 at *
 refine Calls.mono (HL.out _ hI) ?_
 rintro r w1 ⟨rfl, bN⟩
 replace f0 := kF bN z0 f0
 replace f1 := kF bN z1 f1
 replace g0 := kF bN r0 g0
 replace g1 := kF bN r1 g1
 replace c1 := kC bN c1
 replace c2 := kC bN c2
 replace c3 := kC bN c3
 replace z0 := kC bN z0
 replace z1 := kC bN z1
 replace r0 := kC bN r0
 replace r1 := kC bN r1
 replace hI := IsW.keep hI bN
 replace bA := nT bA bN
 clear bN
 go_wp2_with fail
 refine Calls.mono (HT.out _ hI) ?_
 rintro r w2 ⟨rfl, bN⟩
 replace f0 := kF bN z0 f0
 replace f1 := kF bN z1 f1
 replace g0 := kF bN r0 g0
 replace g1 := kF bN r1 g1
 replace c1 := kC bN c1
 replace c2 := kC bN c2
 replace c3 := kC bN c3
 replace z0 := kC bN z0
 replace z1 := kC bN z1
 replace r0 := kC bN r0
 replace r1 := kC bN r1
 replace hI := IsW.keep hI bN
 replace bA := nT bA bN
 clear bN
 go_wp2_with fail
 refine Calls.mono (HT.out _ hI) ?_
 rintro r w3 ⟨rfl, bN⟩
 replace f0 := kF bN z0 f0
 replace f1 := kF bN z1 f1
 replace g0 := kF bN r0 g0
 replace g1 := kF bN r1 g1
 replace c1 := kC bN c1
 replace c2 := kC bN c2
 replace c3 := kC bN c3
 replace z0 := kC bN z0
 replace z1 := kC bN z1
 replace r0 := kC bN r0
 replace r1 := kC bN r1
 replace hI := IsW.keep hI bN
 replace bA := nT bA bN
 clear bN
 go_wp2_with fail
 refine Calls.mono (HT.out _ hI) ?_
 rintro r w4 ⟨rfl, bN⟩
 replace f0 := kF bN z0 f0
 replace f1 := kF bN z1 f1
 replace g0 := kF bN r0 g0
 replace g1 := kF bN r1 g1
 replace c1 := kC bN c1
 replace c2 := kC bN c2
 replace c3 := kC bN c3
 replace z0 := kC bN z0
 replace z1 := kC bN z1
 replace r0 := kC bN r0
 replace r1 := kC bN r1
 replace hI := IsW.keep hI bN
 replace bA := nT bA bN
 clear bN
 go_wp2_with fail
 have bS : Below (w.heap.size + 1 + 1) w4 ((w4.setCell ⟨w.heap.size + 1 + 1, 0, none⟩ (.int .u64 0)).setCell ⟨w.heap.size + 1 + 1, 1, none⟩ (.int .u8 16)) := (((Below.refl _ _).setCell (p := ⟨w.heap.size + 1 + 1, 0, none⟩) (Nat.le_refl _) _).setCell (p := ⟨w.heap.size + 1 + 1, 1, none⟩) (Nat.le_refl _) _)
 replace c1 := (bS.cell (p := ⟨w.heap.size, 0, none⟩) (show w.heap.size < w.heap.size + 1 + 1 by omega)).trans c1
 replace c2 := (bS.cell (p := ⟨w.heap.size, 1, none⟩) (show w.heap.size < w.heap.size + 1 + 1 by omega)).trans c2
 replace c3 := (bS.cell (p := ⟨w.heap.size, 2, none⟩) (show w.heap.size < w.heap.size + 1 + 1 by omega)).trans c3
 replace f0 := (bS.frozen (p := ⟨w.heap.size + 1, 0, none⟩) (show w.heap.size + 1 < w.heap.size + 1 + 1 by omega)).trans f0
 replace z0 := (bS.cell (p := ⟨w.heap.size + 1, 0, none⟩) (show w.heap.size + 1 < w.heap.size + 1 + 1 by omega)).trans z0
 replace f1 := (bS.frozen (p := ⟨w.heap.size + 1, 1, none⟩) (show w.heap.size + 1 < w.heap.size + 1 + 1 by omega)).trans f1
 replace z1 := (bS.cell (p := ⟨w.heap.size + 1, 1, none⟩) (show w.heap.size + 1 < w.heap.size + 1 + 1 by omega)).trans z1
 have nr0 : ((w4.setCell ⟨w.heap.size + 1 + 1, 0, none⟩ (.int .u64 0)).setCell ⟨w.heap.size + 1 + 1, 1, none⟩ (.int .u8 16)).cell? ⟨w.heap.size + 1 + 1, 0, none⟩ = some (.int .u64 0) := by go_simp
 have nr1 : ((w4.setCell ⟨w.heap.size + 1 + 1, 0, none⟩ (.int .u64 0)).setCell ⟨w.heap.size + 1 + 1, 1, none⟩ (.int .u8 16)).cell? ⟨w.heap.size + 1 + 1, 1, none⟩ = some (.int .u8 16) := by go_simp
 have ng0 : ((w4.setCell ⟨w.heap.size + 1 + 1, 0, none⟩ (.int .u64 0)).setCell ⟨w.heap.size + 1 + 1, 1, none⟩ (.int .u8 16)).frozen? ⟨w.heap.size + 1 + 1, 0, none⟩ = false := by go_simp
 have ng1 : ((w4.setCell ⟨w.heap.size + 1 + 1, 0, none⟩ (.int .u64 0)).setCell ⟨w.heap.size + 1 + 1, 1, none⟩ (.int .u8 16)).frozen? ⟨w.heap.size + 1 + 1, 1, none⟩ = false := by go_simp
 have nbA : Below w.heap.size w ((w4.setCell ⟨w.heap.size + 1 + 1, 0, none⟩ (.int .u64 0)).setCell ⟨w.heap.size + 1 + 1, 1, none⟩ (.int .u8 16)) := Below.setCell (Below.setCell (bA) (show w.heap.size ≤ w.heap.size + 1 + 1 by omega) _) (show w.heap.size ≤ w.heap.size + 1 + 1 by omega) _
 replace hI := IsW.keep h00 nbA
 clear bS r0 r1 g0 g1 bA
 generalize ((w4.setCell ⟨w.heap.size + 1 + 1, 0, none⟩ (.int .u64 0)).setCell ⟨w.heap.size + 1 + 1, 1, none⟩ (.int .u8 16)) = w5 at *
 have r0 := nr0
 have r1 := nr1
 have g0 := ng0
 have g1 := ng1
 have bA := nbA
 clear nr0 nr1 ng0 ng1 nbA
 refine Calls.mono (HTi.out _ hI) ?_
 rintro r w6 ⟨rfl, bN⟩
 replace f0 := kF bN z0 f0
 replace f1 := kF bN z1 f1
 replace g0 := kF bN r0 g0
 replace g1 := kF bN r1 g1
 replace c1 := kC bN c1
 replace c2 := kC bN c2
 replace c3 := kC bN c3
 replace z0 := kC bN z0
 replace z1 := kC bN z1
 replace r0 := kC bN r0
 replace r1 := kC bN r1
 replace hI := IsW.keep hI bN
 replace bA := nT bA bN
 clear bN
 cases s
 ·go_wp2_with fail
  exact bodyPost_ret (v := .agg #[.int .u64 0, .int .u8 24]) (by simp [results, Tryz.results98, go_sem, z0, z1]) rfl ⟨rfl, by repeat (first | exact bA | refine Below.setCell ?_ (by first | (show w.heap.size ≤ w.heap.size + 1; omega) | (show w.heap.size ≤ w.heap.size + 1 + 1; omega)) _)⟩
 ·go_wp2_with fail
  refine Calls.mono (HN.out _) ?_
  rintro r wz ⟨rfl, rfl⟩
  go_wp2_with fail
  exact bodyPost_ret (v := .agg #[.int .u64 (negV 0), .int .u8 24]) (by simp [results, Tryz.results98, go_sem, z0, z1]) rfl ⟨rfl, by repeat (first | exact bA | refine Below.setCell ?_ (by first | (show w.heap.size ≤ w.heap.size + 1; omega) | (show w.heap.size ≤ w.heap.size + 1 + 1; omega)) _)⟩
set_option maxRecDepth 100000 in
set_option maxHeartbeats 4000000 in
theorem dn_D1_000 (s : Bool) (a : Option Addr) (len cap : Nat) (xs : List Int) (e : Int) (w : World) (h : IsW w a len cap xs) (hm : len ≤ 17592186044000) (hg : greatB (val xs) = false) (he : -32768 ≤ e ∧ e ≤ 32768) (h0 : val xs ≠ 0) (k1 : ¬ (1024 < tpI (val xs) e + 1)) (k2 : ¬ (tpI (val xs) e + 1 < -1074)) (k3 : ¬ (53 < blen (rd2 (val xs) (lsI (val xs) e - e)))) (hlo : ls2 (val xs) (lsI (val xs) e - e) = false) (B : Int) (hB : putV (rd2 (val xs) (lsI (val xs) e - e)) (lsI (val xs) e) = B) (hi : B ≠ 9218868437227405312) (hU : U B) :
  Calls Tryz.prog 98 #[dyV s a len cap e] w fun r w' => r = .returned (.agg #[.int .u64 (if s = true then negV B else B), .int .u8 0]) ∧ Below w.heap.size w w' := by
 have h00 : IsW w a len cap xs := h
 have HL : Hid _ := fun w' (h' : IsW w' a len cap xs) => nLen_calls a len cap xs w' h' (by omega)
 have HT : Hid _ := fun w' (h' : IsW w' a len cap xs) => rtop_calls s a len cap xs e w' h' (by omega) hg he
 have HTi : Hid _ := fun w' (h' : IsW w' a len cap xs) => rtiny_calls s a len cap xs e w' h' hm hg he
 have o8 : bits .or .u8 16 8 = 24 := by decide +kernel
 have hbl := (great_not _).1 hg
 have htb : Hid (-32769 ≤ tpI (val xs) e ∧ tpI (val xs) e ≤ 98304) := by rw [Hid]; unfold tpI; omega
 have hz : ((blen (val xs) : Int) == 0) = false := by
  have : blen (val xs) ≠ 0 := fun q => h0 ((blen_nil _).1 q)
  simp; omega
 have hz' : (blen (val xs) : Int) ≠ 0 := by simpa using hz
 have l1 := ls_low (val xs) e
 have l2 := ls_top (val xs) e (by omega)
 have l3 := ls_bits (val xs) e
 have hM := M_lt (val xs) e
 have hq : rd2 (val xs) (lsI (val xs) e - e) ≤ 9007199254740992 := by
  unfold rd2
  have : (up2 (val xs) (lsI (val xs) e - e)).toNat ≤ 1 := Bool.toNat_le _
  omega
 have hql := (rd_len (val xs) (lsI (val xs) e - e) 53 (by decide) l3).2
 have HC : Hid _ := fun w' (h' : IsW w' a len cap xs) => rcut_calls a len cap xs e (lsI (val xs) e) w' h' hm (by omega) (by omega) (by omega)
 rw [hlo] at HC
 have HN : Hid _ := fun w => rNeg_calls B w hU
 have W1 : IntKind.i64.wrap (tpI (val xs) e + 1 - 53) = tpI (val xs) e - 52 := by have := htb.out; rw [IntKind.wrap_i64]; omega
 have hls : max (tpI (val xs) e - 52) (-1074) = lsI (val xs) e := by unfold lsI; split <;> omega
 have W2 : IntKind.i64.wrap (lsI (val xs) e + 1) = lsI (val xs) e + 1 := by rw [IntKind.wrap_i64]; omega
 have HLq : Hid _ := fun ao n c w' (h' : IsW w' ao n c (wordsOf (rd2 (val xs) (lsI (val xs) e - e)))) hn => nLen_calls ao n c (wordsOf (rd2 (val xs) (lsI (val xs) e - e))) w' h' hn
 rw [val_words] at HLq
 have HP : Hid _ := fun ao n c w' (h' : IsW w' ao n c (wordsOf (rd2 (val xs) (lsI (val xs) e - e)))) => put_calls ao n c _ (lsI (val xs) e) w' h' hq (by omega)
 have k3' : ¬ (53 : Int) < (blen (rd2 (val xs) (lsI (val xs) e - e)) : Int) := by omega
 rw [hB] at HP
 have Hql : Hid _ := hql
 clear hB k3 hlo l1 l2 l3 hM hq hql hU
 generalize rd2 (val xs) (lsI (val xs) e - e) = q at *
 generalize lsI (val xs) e = l at *
 generalize tpI (val xs) e + 1 = tp at *
 generalize tpI (val xs) e - 52 = l0 at *
 generalize (blen (val xs) : Int) = bl at *
 clear h0 hg he hbl
 obtain ⟨bA, c1, c2, c3, z0, z1, f0, f1, r0, r1, g0, g1⟩ := near0 s a len cap e w
 have hI := h.keep bA
 clear h
 go_enter Tryz.func98, Tryz.ntmps98
 go_wp2_with fail
 generalize (((w.alloc (.cells #[.bool s, .slice a len cap, .int .i64 e] 38)).alloc (.cells #[.int .u64 0, .int .u8 0] 25)).alloc (.cells #[.int .u64 0, .int .u8 0] 25)) = w0 at *
 refine Calls.mono (HL.out _ hI) ?_
 rintro r w1 ⟨rfl, bN⟩
 replace f0 := kF bN z0 f0
 replace f1 := kF bN z1 f1
 replace g0 := kF bN r0 g0
 replace g1 := kF bN r1 g1
 replace c1 := kC bN c1
 replace c2 := kC bN c2
 replace c3 := kC bN c3
 replace z0 := kC bN z0
 replace z1 := kC bN z1
 replace r0 := kC bN r0
 replace r1 := kC bN r1
 replace hI := IsW.keep hI bN
 replace bA := nT bA bN
 clear bN
 go_wp2_with fail
 refine Calls.mono (HT.out _ hI) ?_
 rintro r w2 ⟨rfl, bN⟩
 replace f0 := kF bN z0 f0
 replace f1 := kF bN z1 f1
 replace g0 := kF bN r0 g0
 replace g1 := kF bN r1 g1
 replace c1 := kC bN c1
 replace c2 := kC bN c2
 replace c3 := kC bN c3
 replace z0 := kC bN z0
 replace z1 := kC bN z1
 replace r0 := kC bN r0
 replace r1 := kC bN r1
 replace hI := IsW.keep hI bN
 replace bA := nT bA bN
 clear bN
 go_wp2_with fail
 refine Calls.mono (HT.out _ hI) ?_
 rintro r w3 ⟨rfl, bN⟩
 replace f0 := kF bN z0 f0
 replace f1 := kF bN z1 f1
 replace g0 := kF bN r0 g0
 replace g1 := kF bN r1 g1
 replace c1 := kC bN c1
 replace c2 := kC bN c2
 replace c3 := kC bN c3
 replace z0 := kC bN z0
 replace z1 := kC bN z1
 replace r0 := kC bN r0
 replace r1 := kC bN r1
 replace hI := IsW.keep hI bN
 replace bA := nT bA bN
 clear bN
 go_wp2_with fail
 refine Calls.mono (HT.out _ hI) ?_
 rintro r w4 ⟨rfl, bN⟩
 replace f0 := kF bN z0 f0
 replace f1 := kF bN z1 f1
 replace g0 := kF bN r0 g0
 replace g1 := kF bN r1 g1
 replace c1 := kC bN c1
 replace c2 := kC bN c2
 replace c3 := kC bN c3
 replace z0 := kC bN z0
 replace z1 := kC bN z1
 replace r0 := kC bN r0
 replace r1 := kC bN r1
 replace hI := IsW.keep hI bN
 replace bA := nT bA bN
 clear bN
 go_wp2_with fail
 refine Calls.mono (HC.out _ hI) ?_
 rintro r w5 ⟨v, rfl, ⟨ao, n, c, rfl, hN, hO⟩, bN⟩
 have HNq : Hid _ := hN
 have hOI := hO.1
 clear hN hO
 replace f0 := kF bN z0 f0
 replace f1 := kF bN z1 f1
 replace g0 := kF bN r0 g0
 replace g1 := kF bN r1 g1
 replace c1 := kC bN c1
 replace c2 := kC bN c2
 replace c3 := kC bN c3
 replace z0 := kC bN z0
 replace z1 := kC bN z1
 replace r0 := kC bN r0
 replace r1 := kC bN r1
 replace hI := IsW.keep hI bN
 replace bA := nT bA bN
 clear bN
 go_wp2_with fail
 refine Calls.mono (HLq.out _ _ _ _ hOI (by have := Hql.out; have := HNq.out; omega)) ?_
 rintro r w6 ⟨rfl, bN⟩
 replace hOI := IsW.keep hOI bN
 replace f0 := kF bN z0 f0
 replace f1 := kF bN z1 f1
 replace g0 := kF bN r0 g0
 replace g1 := kF bN r1 g1
 replace c1 := kC bN c1
 replace c2 := kC bN c2
 replace c3 := kC bN c3
 replace z0 := kC bN z0
 replace z1 := kC bN z1
 replace r0 := kC bN r0
 replace r1 := kC bN r1
 replace hI := IsW.keep hI bN
 replace bA := nT bA bN
 clear bN
 go_wp2_with fail
 refine Calls.mono (HP.out _ _ _ _ hOI) ?_
 rintro r wy ⟨rfl, rfl⟩
 cases s
 ·go_wp2_with fail
  exact bodyPost_ret (v := .agg #[.int .u64 B, .int .u8 0]) (by simp [results, Tryz.results98, go_sem, z0, z1]) rfl ⟨rfl, by repeat (first | exact bA | refine Below.setCell ?_ (by first | (show w.heap.size ≤ w.heap.size + 1; omega) | (show w.heap.size ≤ w.heap.size + 1 + 1; omega)) _)⟩
 ·go_wp2_with fail
  refine Calls.mono (HN.out _) ?_
  rintro r wz ⟨rfl, rfl⟩
  go_wp2_with fail
  exact bodyPost_ret (v := .agg #[.int .u64 (negV B), .int .u8 0]) (by simp [results, Tryz.results98, go_sem, z0, z1]) rfl ⟨rfl, by repeat (first | exact bA | refine Below.setCell ?_ (by first | (show w.heap.size ≤ w.heap.size + 1; omega) | (show w.heap.size ≤ w.heap.size + 1 + 1; omega)) _)⟩
set_option maxRecDepth 100000 in
set_option maxHeartbeats 4000000 in
theorem dn_D1_110 (s : Bool) (a : Option Addr) (len cap : Nat) (xs : List Int) (e : Int) (w : World) (h : IsW w a len cap xs) (hm : len ≤ 17592186044000) (hg : greatB (val xs) = false) (he : -32768 ≤ e ∧ e ≤ 32768) (h0 : val xs ≠ 0) (k1 : ¬ (1024 < tpI (val xs) e + 1)) (k2 : ¬ (tpI (val xs) e + 1 < -1074)) (k3 : ¬ (53 < blen (rd2 (val xs) (lsI (val xs) e - e)))) (hlo : ls2 (val xs) (lsI (val xs) e - e) = true) (hty : tinyQ (val xs) e = true) (B : Int) (hB : putV (rd2 (val xs) (lsI (val xs) e - e)) (lsI (val xs) e) = B) (hi : B ≠ 9218868437227405312) (hU : U B) :
  Calls Tryz.prog 98 #[dyV s a len cap e] w fun r w' => r = .returned (.agg #[.int .u64 (if s = true then negV B else B), .int .u8 24]) ∧ Below w.heap.size w w' := by
 have h00 : IsW w a len cap xs := h
 have HL : Hid _ := fun w' (h' : IsW w' a len cap xs) => nLen_calls a len cap xs w' h' (by omega)
 have HT : Hid _ := fun w' (h' : IsW w' a len cap xs) => rtop_calls s a len cap xs e w' h' (by omega) hg he
 have HTi : Hid _ := fun w' (h' : IsW w' a len cap xs) => rtiny_calls s a len cap xs e w' h' hm hg he
 have o8 : bits .or .u8 16 8 = 24 := by decide +kernel
 have hbl := (great_not _).1 hg
 have htb : Hid (-32769 ≤ tpI (val xs) e ∧ tpI (val xs) e ≤ 98304) := by rw [Hid]; unfold tpI; omega
 have hz : ((blen (val xs) : Int) == 0) = false := by
  have : blen (val xs) ≠ 0 := fun q => h0 ((blen_nil _).1 q)
  simp; omega
 have hz' : (blen (val xs) : Int) ≠ 0 := by simpa using hz
 rw [hty] at HTi
 have l1 := ls_low (val xs) e
 have l2 := ls_top (val xs) e (by omega)
 have l3 := ls_bits (val xs) e
 have hM := M_lt (val xs) e
 have hq : rd2 (val xs) (lsI (val xs) e - e) ≤ 9007199254740992 := by
  unfold rd2
  have : (up2 (val xs) (lsI (val xs) e - e)).toNat ≤ 1 := Bool.toNat_le _
  omega
 have hql := (rd_len (val xs) (lsI (val xs) e - e) 53 (by decide) l3).2
 have HC : Hid _ := fun w' (h' : IsW w' a len cap xs) => rcut_calls a len cap xs e (lsI (val xs) e) w' h' hm (by omega) (by omega) (by omega)
 rw [hlo] at HC
 have HN : Hid _ := fun w => rNeg_calls B w hU
 have W1 : IntKind.i64.wrap (tpI (val xs) e + 1 - 53) = tpI (val xs) e - 52 := by have := htb.out; rw [IntKind.wrap_i64]; omega
 have hls : max (tpI (val xs) e - 52) (-1074) = lsI (val xs) e := by unfold lsI; split <;> omega
 have W2 : IntKind.i64.wrap (lsI (val xs) e + 1) = lsI (val xs) e + 1 := by rw [IntKind.wrap_i64]; omega
 have HLq : Hid _ := fun ao n c w' (h' : IsW w' ao n c (wordsOf (rd2 (val xs) (lsI (val xs) e - e)))) hn => nLen_calls ao n c (wordsOf (rd2 (val xs) (lsI (val xs) e - e))) w' h' hn
 rw [val_words] at HLq
 have HP : Hid _ := fun ao n c w' (h' : IsW w' ao n c (wordsOf (rd2 (val xs) (lsI (val xs) e - e)))) => put_calls ao n c _ (lsI (val xs) e) w' h' hq (by omega)
 have k3' : ¬ (53 : Int) < (blen (rd2 (val xs) (lsI (val xs) e - e)) : Int) := by omega
 rw [hB] at HP
 have Hql : Hid _ := hql
 clear hB k3 hlo l1 l2 l3 hM hq hql hU hty
 generalize rd2 (val xs) (lsI (val xs) e - e) = q at *
 generalize lsI (val xs) e = l at *
 generalize tpI (val xs) e + 1 = tp at *
 generalize tpI (val xs) e - 52 = l0 at *
 generalize (blen (val xs) : Int) = bl at *
 clear h0 hg he hbl
 generalize tinyQ (val xs) e = tq at *
 obtain ⟨bA, c1, c2, c3, z0, z1, f0, f1, r0, r1, g0, g1⟩ := near0 s a len cap e w
 have hI := h.keep bA
 clear h
 go_enter Tryz.func98, Tryz.ntmps98
 go_wp2_with fail
 generalize (((w.alloc (.cells #[.bool s, .slice a len cap, .int .i64 e] 38)).alloc (.cells #[.int .u64 0, .int .u8 0] 25)).alloc (.cells #[.int .u64 0, .int .u8 0] 25)) = w0 at *
 refine Calls.mono (HL.out _ hI) ?_
 rintro r w1 ⟨rfl, bN⟩
 replace f0 := kF bN z0 f0
 replace f1 := kF bN z1 f1
 replace g0 := kF bN r0 g0
 replace g1 := kF bN r1 g1
 replace c1 := kC bN c1
 replace c2 := kC bN c2
 replace c3 := kC bN c3
 replace z0 := kC bN z0
 replace z1 := kC bN z1
 replace r0 := kC bN r0
 replace r1 := kC bN r1
 replace hI := IsW.keep hI bN
 replace bA := nT bA bN
 clear bN
 go_wp2_with fail
 refine Calls.mono (HT.out _ hI) ?_
 rintro r w2 ⟨rfl, bN⟩
 replace f0 := kF bN z0 f0
 replace f1 := kF bN z1 f1
 replace g0 := kF bN r0 g0
 replace g1 := kF bN r1 g1
 replace c1 := kC bN c1
 replace c2 := kC bN c2
 replace c3 := kC bN c3
 replace z0 := kC bN z0
 replace z1 := kC bN z1
 replace r0 := kC bN r0
 replace r1 := kC bN r1
 replace hI := IsW.keep hI bN
 replace bA := nT bA bN
 clear bN
 go_wp2_with fail
 refine Calls.mono (HT.out _ hI) ?_
 rintro r w3 ⟨rfl, bN⟩
 replace f0 := kF bN z0 f0
 replace f1 := kF bN z1 f1
 replace g0 := kF bN r0 g0
 replace g1 := kF bN r1 g1
 replace c1 := kC bN c1
 replace c2 := kC bN c2
 replace c3 := kC bN c3
 replace z0 := kC bN z0
 replace z1 := kC bN z1
 replace r0 := kC bN r0
 replace r1 := kC bN r1
 replace hI := IsW.keep hI bN
 replace bA := nT bA bN
 clear bN
 go_wp2_with fail
 refine Calls.mono (HT.out _ hI) ?_
 rintro r w4 ⟨rfl, bN⟩
 replace f0 := kF bN z0 f0
 replace f1 := kF bN z1 f1
 replace g0 := kF bN r0 g0
 replace g1 := kF bN r1 g1
 replace c1 := kC bN c1
 replace c2 := kC bN c2
 replace c3 := kC bN c3
 replace z0 := kC bN z0
 replace z1 := kC bN z1
 replace r0 := kC bN r0
 replace r1 := kC bN r1
 replace hI := IsW.keep hI bN
 replace bA := nT bA bN
 clear bN
 go_wp2_with fail
 refine Calls.mono (HC.out _ hI) ?_
 rintro r w5 ⟨v, rfl, ⟨ao, n, c, rfl, hN, hO⟩, bN⟩
 have HNq : Hid _ := hN
 have hOI := hO.1
 clear hN hO
 replace f0 := kF bN z0 f0
 replace f1 := kF bN z1 f1
 replace g0 := kF bN r0 g0
 replace g1 := kF bN r1 g1
 replace c1 := kC bN c1
 replace c2 := kC bN c2
 replace c3 := kC bN c3
 replace z0 := kC bN z0
 replace z1 := kC bN z1
 replace r0 := kC bN r0
 replace r1 := kC bN r1
 replace hI := IsW.keep hI bN
 replace bA := nT bA bN
 clear bN
 go_wp2_with fail
 refine Calls.mono (HLq.out _ _ _ _ hOI (by have := Hql.out; have := HNq.out; omega)) ?_
 rintro r w6 ⟨rfl, bN⟩
 replace hOI := IsW.keep hOI bN
 replace f0 := kF bN z0 f0
 replace f1 := kF bN z1 f1
 replace g0 := kF bN r0 g0
 replace g1 := kF bN r1 g1
 replace c1 := kC bN c1
 replace c2 := kC bN c2
 replace c3 := kC bN c3
 replace z0 := kC bN z0
 replace z1 := kC bN z1
 replace r0 := kC bN r0
 replace r1 := kC bN r1
 replace hI := IsW.keep hI bN
 replace bA := nT bA bN
 clear bN
 go_wp2_with fail
 refine Calls.mono (HP.out _ _ _ _ hOI) ?_
 rintro r wy ⟨rfl, rfl⟩
 go_wp2_with fail
 have bS : Below (w.heap.size + 1 + 1) wy ((wy.setCell ⟨w.heap.size + 1 + 1, 0, none⟩ (.int .u64 B)).setCell ⟨w.heap.size + 1 + 1, 1, none⟩ (.int .u8 16)) := (((Below.refl _ _).setCell (p := ⟨w.heap.size + 1 + 1, 0, none⟩) (Nat.le_refl _) _).setCell (p := ⟨w.heap.size + 1 + 1, 1, none⟩) (Nat.le_refl _) _)
 replace c1 := (bS.cell (p := ⟨w.heap.size, 0, none⟩) (show w.heap.size < w.heap.size + 1 + 1 by omega)).trans c1
 replace c2 := (bS.cell (p := ⟨w.heap.size, 1, none⟩) (show w.heap.size < w.heap.size + 1 + 1 by omega)).trans c2
 replace c3 := (bS.cell (p := ⟨w.heap.size, 2, none⟩) (show w.heap.size < w.heap.size + 1 + 1 by omega)).trans c3
 replace f0 := (bS.frozen (p := ⟨w.heap.size + 1, 0, none⟩) (show w.heap.size + 1 < w.heap.size + 1 + 1 by omega)).trans f0
 replace z0 := (bS.cell (p := ⟨w.heap.size + 1, 0, none⟩) (show w.heap.size + 1 < w.heap.size + 1 + 1 by omega)).trans z0
 replace f1 := (bS.frozen (p := ⟨w.heap.size + 1, 1, none⟩) (show w.heap.size + 1 < w.heap.size + 1 + 1 by omega)).trans f1
 replace z1 := (bS.cell (p := ⟨w.heap.size + 1, 1, none⟩) (show w.heap.size + 1 < w.heap.size + 1 + 1 by omega)).trans z1
 have nr0 : ((wy.setCell ⟨w.heap.size + 1 + 1, 0, none⟩ (.int .u64 B)).setCell ⟨w.heap.size + 1 + 1, 1, none⟩ (.int .u8 16)).cell? ⟨w.heap.size + 1 + 1, 0, none⟩ = some (.int .u64 B) := by go_simp
 have nr1 : ((wy.setCell ⟨w.heap.size + 1 + 1, 0, none⟩ (.int .u64 B)).setCell ⟨w.heap.size + 1 + 1, 1, none⟩ (.int .u8 16)).cell? ⟨w.heap.size + 1 + 1, 1, none⟩ = some (.int .u8 16) := by go_simp
 have ng0 : ((wy.setCell ⟨w.heap.size + 1 + 1, 0, none⟩ (.int .u64 B)).setCell ⟨w.heap.size + 1 + 1, 1, none⟩ (.int .u8 16)).frozen? ⟨w.heap.size + 1 + 1, 0, none⟩ = false := by go_simp
 have ng1 : ((wy.setCell ⟨w.heap.size + 1 + 1, 0, none⟩ (.int .u64 B)).setCell ⟨w.heap.size + 1 + 1, 1, none⟩ (.int .u8 16)).frozen? ⟨w.heap.size + 1 + 1, 1, none⟩ = false := by go_simp
 have nbA : Below w.heap.size w ((wy.setCell ⟨w.heap.size + 1 + 1, 0, none⟩ (.int .u64 B)).setCell ⟨w.heap.size + 1 + 1, 1, none⟩ (.int .u8 16)) := Below.setCell (Below.setCell (bA) (show w.heap.size ≤ w.heap.size + 1 + 1 by omega) _) (show w.heap.size ≤ w.heap.size + 1 + 1 by omega) _
 replace hI := IsW.keep h00 nbA
 clear bS r0 r1 g0 g1 bA
 generalize ((wy.setCell ⟨w.heap.size + 1 + 1, 0, none⟩ (.int .u64 B)).setCell ⟨w.heap.size + 1 + 1, 1, none⟩ (.int .u8 16)) = w7 at *
 have r0 := nr0
 have r1 := nr1
 have g0 := ng0
 have g1 := ng1
 have bA := nbA
 clear nr0 nr1 ng0 ng1 nbA
 refine Calls.mono (HTi.out _ hI) ?_
 rintro r w8 ⟨rfl, bN⟩
 replace f0 := kF bN z0 f0
 replace f1 := kF bN z1 f1
 replace g0 := kF bN r0 g0
 replace g1 := kF bN r1 g1
 replace c1 := kC bN c1
 replace c2 := kC bN c2
 replace c3 := kC bN c3
 replace z0 := kC bN z0
 replace z1 := kC bN z1
 replace r0 := kC bN r0
 replace r1 := kC bN r1
 replace hI := IsW.keep hI bN
 replace bA := nT bA bN
 clear bN
 cases s
 ·go_wp2_with fail
  exact bodyPost_ret (v := .agg #[.int .u64 B, .int .u8 24]) (by simp [results, Tryz.results98, go_sem, z0, z1]) rfl ⟨rfl, by repeat (first | exact bA | refine Below.setCell ?_ (by first | (show w.heap.size ≤ w.heap.size + 1; omega) | (show w.heap.size ≤ w.heap.size + 1 + 1; omega)) _)⟩
 ·go_wp2_with fail
  refine Calls.mono (HN.out _) ?_
  rintro r wz ⟨rfl, rfl⟩
  go_wp2_with fail
  exact bodyPost_ret (v := .agg #[.int .u64 (negV B), .int .u8 24]) (by simp [results, Tryz.results98, go_sem, z0, z1]) rfl ⟨rfl, by repeat (first | exact bA | refine Below.setCell ?_ (by first | (show w.heap.size ≤ w.heap.size + 1; omega) | (show w.heap.size ≤ w.heap.size + 1 + 1; omega)) _)⟩
set_option maxRecDepth 100000 in
set_option maxHeartbeats 4000000 in
theorem dn_D1_100 (s : Bool) (a : Option Addr) (len cap : Nat) (xs : List Int) (e : Int) (w : World) (h : IsW w a len cap xs) (hm : len ≤ 17592186044000) (hg : greatB (val xs) = false) (he : -32768 ≤ e ∧ e ≤ 32768) (h0 : val xs ≠ 0) (k1 : ¬ (1024 < tpI (val xs) e + 1)) (k2 : ¬ (tpI (val xs) e + 1 < -1074)) (k3 : ¬ (53 < blen (rd2 (val xs) (lsI (val xs) e - e)))) (hlo : ls2 (val xs) (lsI (val xs) e - e) = true) (hty : tinyQ (val xs) e = false) (B : Int) (hB : putV (rd2 (val xs) (lsI (val xs) e - e)) (lsI (val xs) e) = B) (hi : B ≠ 9218868437227405312) (hU : U B) :
  Calls Tryz.prog 98 #[dyV s a len cap e] w fun r w' => r = .returned (.agg #[.int .u64 (if s = true then negV B else B), .int .u8 16]) ∧ Below w.heap.size w w' := by
 have h00 : IsW w a len cap xs := h
 have HL : Hid _ := fun w' (h' : IsW w' a len cap xs) => nLen_calls a len cap xs w' h' (by omega)
 have HT : Hid _ := fun w' (h' : IsW w' a len cap xs) => rtop_calls s a len cap xs e w' h' (by omega) hg he
 have HTi : Hid _ := fun w' (h' : IsW w' a len cap xs) => rtiny_calls s a len cap xs e w' h' hm hg he
 have o8 : bits .or .u8 16 8 = 24 := by decide +kernel
 have hbl := (great_not _).1 hg
 have htb : Hid (-32769 ≤ tpI (val xs) e ∧ tpI (val xs) e ≤ 98304) := by rw [Hid]; unfold tpI; omega
 have hz : ((blen (val xs) : Int) == 0) = false := by
  have : blen (val xs) ≠ 0 := fun q => h0 ((blen_nil _).1 q)
  simp; omega
 have hz' : (blen (val xs) : Int) ≠ 0 := by simpa using hz
 rw [hty] at HTi
 have l1 := ls_low (val xs) e
 have l2 := ls_top (val xs) e (by omega)
 have l3 := ls_bits (val xs) e
 have hM := M_lt (val xs) e
 have hq : rd2 (val xs) (lsI (val xs) e - e) ≤ 9007199254740992 := by
  unfold rd2
  have : (up2 (val xs) (lsI (val xs) e - e)).toNat ≤ 1 := Bool.toNat_le _
  omega
 have hql := (rd_len (val xs) (lsI (val xs) e - e) 53 (by decide) l3).2
 have HC : Hid _ := fun w' (h' : IsW w' a len cap xs) => rcut_calls a len cap xs e (lsI (val xs) e) w' h' hm (by omega) (by omega) (by omega)
 rw [hlo] at HC
 have HN : Hid _ := fun w => rNeg_calls B w hU
 have W1 : IntKind.i64.wrap (tpI (val xs) e + 1 - 53) = tpI (val xs) e - 52 := by have := htb.out; rw [IntKind.wrap_i64]; omega
 have hls : max (tpI (val xs) e - 52) (-1074) = lsI (val xs) e := by unfold lsI; split <;> omega
 have W2 : IntKind.i64.wrap (lsI (val xs) e + 1) = lsI (val xs) e + 1 := by rw [IntKind.wrap_i64]; omega
 have HLq : Hid _ := fun ao n c w' (h' : IsW w' ao n c (wordsOf (rd2 (val xs) (lsI (val xs) e - e)))) hn => nLen_calls ao n c (wordsOf (rd2 (val xs) (lsI (val xs) e - e))) w' h' hn
 rw [val_words] at HLq
 have HP : Hid _ := fun ao n c w' (h' : IsW w' ao n c (wordsOf (rd2 (val xs) (lsI (val xs) e - e)))) => put_calls ao n c _ (lsI (val xs) e) w' h' hq (by omega)
 have k3' : ¬ (53 : Int) < (blen (rd2 (val xs) (lsI (val xs) e - e)) : Int) := by omega
 rw [hB] at HP
 have Hql : Hid _ := hql
 clear hB k3 hlo l1 l2 l3 hM hq hql hU hty
 generalize rd2 (val xs) (lsI (val xs) e - e) = q at *
 generalize lsI (val xs) e = l at *
 generalize tpI (val xs) e + 1 = tp at *
 generalize tpI (val xs) e - 52 = l0 at *
 generalize (blen (val xs) : Int) = bl at *
 clear h0 hg he hbl
 generalize tinyQ (val xs) e = tq at *
 obtain ⟨bA, c1, c2, c3, z0, z1, f0, f1, r0, r1, g0, g1⟩ := near0 s a len cap e w
 have hI := h.keep bA
 clear h
 go_enter Tryz.func98, Tryz.ntmps98
 go_wp2_with fail
 generalize (((w.alloc (.cells #[.bool s, .slice a len cap, .int .i64 e] 38)).alloc (.cells #[.int .u64 0, .int .u8 0] 25)).alloc (.cells #[.int .u64 0, .int .u8 0] 25)) = w0 at *
 refine Calls.mono (HL.out _ hI) ?_
 rintro r w1 ⟨rfl, bN⟩
 replace f0 := kF bN z0 f0
 replace f1 := kF bN z1 f1
 replace g0 := kF bN r0 g0
 replace g1 := kF bN r1 g1
 replace c1 := kC bN c1
 replace c2 := kC bN c2
 replace c3 := kC bN c3
 replace z0 := kC bN z0
 replace z1 := kC bN z1
 replace r0 := kC bN r0
 replace r1 := kC bN r1
 replace hI := IsW.keep hI bN
 replace bA := nT bA bN
 clear bN
 go_wp2_with fail
 refine Calls.mono (HT.out _ hI) ?_
 rintro r w2 ⟨rfl, bN⟩
 replace f0 := kF bN z0 f0
 replace f1 := kF bN z1 f1
 replace g0 := kF bN r0 g0
 replace g1 := kF bN r1 g1
 replace c1 := kC bN c1
 replace c2 := kC bN c2
 replace c3 := kC bN c3
 replace z0 := kC bN z0
 replace z1 := kC bN z1
 replace r0 := kC bN r0
 replace r1 := kC bN r1
 replace hI := IsW.keep hI bN
 replace bA := nT bA bN
 clear bN
 go_wp2_with fail
 refine Calls.mono (HT.out _ hI) ?_
 rintro r w3 ⟨rfl, bN⟩
 replace f0 := kF bN z0 f0
 replace f1 := kF bN z1 f1
 replace g0 := kF bN r0 g0
 replace g1 := kF bN r1 g1
 replace c1 := kC bN c1
 replace c2 := kC bN c2
 replace c3 := kC bN c3
 replace z0 := kC bN z0
 replace z1 := kC bN z1
 replace r0 := kC bN r0
 replace r1 := kC bN r1
 replace hI := IsW.keep hI bN
 replace bA := nT bA bN
 clear bN
 go_wp2_with fail
 refine Calls.mono (HT.out _ hI) ?_
 rintro r w4 ⟨rfl, bN⟩
 replace f0 := kF bN z0 f0
 replace f1 := kF bN z1 f1
 replace g0 := kF bN r0 g0
 replace g1 := kF bN r1 g1
 replace c1 := kC bN c1
 replace c2 := kC bN c2
 replace c3 := kC bN c3
 replace z0 := kC bN z0
 replace z1 := kC bN z1
 replace r0 := kC bN r0
 replace r1 := kC bN r1
 replace hI := IsW.keep hI bN
 replace bA := nT bA bN
 clear bN
 go_wp2_with fail
 refine Calls.mono (HC.out _ hI) ?_
 rintro r w5 ⟨v, rfl, ⟨ao, n, c, rfl, hN, hO⟩, bN⟩
 have HNq : Hid _ := hN
 have hOI := hO.1
 clear hN hO
 replace f0 := kF bN z0 f0
 replace f1 := kF bN z1 f1
 replace g0 := kF bN r0 g0
 replace g1 := kF bN r1 g1
 replace c1 := kC bN c1
 replace c2 := kC bN c2
 replace c3 := kC bN c3
 replace z0 := kC bN z0
 replace z1 := kC bN z1
 replace r0 := kC bN r0
 replace r1 := kC bN r1
 replace hI := IsW.keep hI bN
 replace bA := nT bA bN
 clear bN
 go_wp2_with fail
 refine Calls.mono (HLq.out _ _ _ _ hOI (by have := Hql.out; have := HNq.out; omega)) ?_
 rintro r w6 ⟨rfl, bN⟩
 replace hOI := IsW.keep hOI bN
 replace f0 := kF bN z0 f0
 replace f1 := kF bN z1 f1
 replace g0 := kF bN r0 g0
 replace g1 := kF bN r1 g1
 replace c1 := kC bN c1
 replace c2 := kC bN c2
 replace c3 := kC bN c3
 replace z0 := kC bN z0
 replace z1 := kC bN z1
 replace r0 := kC bN r0
 replace r1 := kC bN r1
 replace hI := IsW.keep hI bN
 replace bA := nT bA bN
 clear bN
 go_wp2_with fail
 refine Calls.mono (HP.out _ _ _ _ hOI) ?_
 rintro r wy ⟨rfl, rfl⟩
 go_wp2_with fail
 have bS : Below (w.heap.size + 1 + 1) wy ((wy.setCell ⟨w.heap.size + 1 + 1, 0, none⟩ (.int .u64 B)).setCell ⟨w.heap.size + 1 + 1, 1, none⟩ (.int .u8 16)) := (((Below.refl _ _).setCell (p := ⟨w.heap.size + 1 + 1, 0, none⟩) (Nat.le_refl _) _).setCell (p := ⟨w.heap.size + 1 + 1, 1, none⟩) (Nat.le_refl _) _)
 replace c1 := (bS.cell (p := ⟨w.heap.size, 0, none⟩) (show w.heap.size < w.heap.size + 1 + 1 by omega)).trans c1
 replace c2 := (bS.cell (p := ⟨w.heap.size, 1, none⟩) (show w.heap.size < w.heap.size + 1 + 1 by omega)).trans c2
 replace c3 := (bS.cell (p := ⟨w.heap.size, 2, none⟩) (show w.heap.size < w.heap.size + 1 + 1 by omega)).trans c3
 replace f0 := (bS.frozen (p := ⟨w.heap.size + 1, 0, none⟩) (show w.heap.size + 1 < w.heap.size + 1 + 1 by omega)).trans f0
 replace z0 := (bS.cell (p := ⟨w.heap.size + 1, 0, none⟩) (show w.heap.size + 1 < w.heap.size + 1 + 1 by omega)).trans z0
 replace f1 := (bS.frozen (p := ⟨w.heap.size + 1, 1, none⟩) (show w.heap.size + 1 < w.heap.size + 1 + 1 by omega)).trans f1
 replace z1 := (bS.cell (p := ⟨w.heap.size + 1, 1, none⟩) (show w.heap.size + 1 < w.heap.size + 1 + 1 by omega)).trans z1
 have nr0 : ((wy.setCell ⟨w.heap.size + 1 + 1, 0, none⟩ (.int .u64 B)).setCell ⟨w.heap.size + 1 + 1, 1, none⟩ (.int .u8 16)).cell? ⟨w.heap.size + 1 + 1, 0, none⟩ = some (.int .u64 B) := by go_simp
 have nr1 : ((wy.setCell ⟨w.heap.size + 1 + 1, 0, none⟩ (.int .u64 B)).setCell ⟨w.heap.size + 1 + 1, 1, none⟩ (.int .u8 16)).cell? ⟨w.heap.size + 1 + 1, 1, none⟩ = some (.int .u8 16) := by go_simp
 have ng0 : ((wy.setCell ⟨w.heap.size + 1 + 1, 0, none⟩ (.int .u64 B)).setCell ⟨w.heap.size + 1 + 1, 1, none⟩ (.int .u8 16)).frozen? ⟨w.heap.size + 1 + 1, 0, none⟩ = false := by go_simp
 have ng1 : ((wy.setCell ⟨w.heap.size + 1 + 1, 0, none⟩ (.int .u64 B)).setCell ⟨w.heap.size + 1 + 1, 1, none⟩ (.int .u8 16)).frozen? ⟨w.heap.size + 1 + 1, 1, none⟩ = false := by go_simp
 have nbA : Below w.heap.size w ((wy.setCell ⟨w.heap.size + 1 + 1, 0, none⟩ (.int .u64 B)).setCell ⟨w.heap.size + 1 + 1, 1, none⟩ (.int .u8 16)) := Below.setCell (Below.setCell (bA) (show w.heap.size ≤ w.heap.size + 1 + 1 by omega) _) (show w.heap.size ≤ w.heap.size + 1 + 1 by omega) _
 replace hI := IsW.keep h00 nbA
 clear bS r0 r1 g0 g1 bA
 generalize ((wy.setCell ⟨w.heap.size + 1 + 1, 0, none⟩ (.int .u64 B)).setCell ⟨w.heap.size + 1 + 1, 1, none⟩ (.int .u8 16)) = w7 at *
 have r0 := nr0
 have r1 := nr1
 have g0 := ng0
 have g1 := ng1
 have bA := nbA
 clear nr0 nr1 ng0 ng1 nbA
 refine Calls.mono (HTi.out _ hI) ?_
 rintro r w8 ⟨rfl, bN⟩
 replace f0 := kF bN z0 f0
 replace f1 := kF bN z1 f1
 replace g0 := kF bN r0 g0
 replace g1 := kF bN r1 g1
 replace c1 := kC bN c1
 replace c2 := kC bN c2
 replace c3 := kC bN c3
 replace z0 := kC bN z0
 replace z1 := kC bN z1
 replace r0 := kC bN r0
 replace r1 := kC bN r1
 replace hI := IsW.keep hI bN
 replace bA := nT bA bN
 clear bN
 cases s
 ·go_wp2_with fail
  exact bodyPost_ret (v := .agg #[.int .u64 B, .int .u8 16]) (by simp [results, Tryz.results98, go_sem, z0, z1]) rfl ⟨rfl, by repeat (first | exact bA | refine Below.setCell ?_ (by first | (show w.heap.size ≤ w.heap.size + 1; omega) | (show w.heap.size ≤ w.heap.size + 1 + 1; omega)) _)⟩
 ·go_wp2_with fail
  refine Calls.mono (HN.out _) ?_
  rintro r wz ⟨rfl, rfl⟩
  go_wp2_with fail
  exact bodyPost_ret (v := .agg #[.int .u64 (negV B), .int .u8 16]) (by simp [results, Tryz.results98, go_sem, z0, z1]) rfl ⟨rfl, by repeat (first | exact bA | refine Below.setCell ?_ (by first | (show w.heap.size ≤ w.heap.size + 1; omega) | (show w.heap.size ≤ w.heap.size + 1 + 1; omega)) _)⟩
set_option maxRecDepth 100000 in
set_option maxHeartbeats 4000000 in
theorem dn_D2_110 (s : Bool) (a : Option Addr) (len cap : Nat) (xs : List Int) (e : Int) (w : World) (h : IsW w a len cap xs) (hm : len ≤ 17592186044000) (hg : greatB (val xs) = false) (he : -32768 ≤ e ∧ e ≤ 32768) (h0 : val xs ≠ 0) (k1 : ¬ (1024 < tpI (val xs) e + 1)) (k2 : ¬ (tpI (val xs) e + 1 < -1074)) (k3 : 53 < blen (rd2 (val xs) (lsI (val xs) e - e))) (hlo : ls2 (val xs) (lsI (val xs) e - e) = true) (hty : tinyQ (val xs) e = true) (B : Int) (hB : putV (rd2 (val xs) (lsI (val xs) e - e) / 2) (lsI (val xs) e + 1) = B) (hi : B ≠ 9218868437227405312) (hU : U B) :
  Calls Tryz.prog 98 #[dyV s a len cap e] w fun r w' => r = .returned (.agg #[.int .u64 (if s = true then negV B else B), .int .u8 24]) ∧ Below w.heap.size w w' := by
 have h00 : IsW w a len cap xs := h
 have HL : Hid _ := fun w' (h' : IsW w' a len cap xs) => nLen_calls a len cap xs w' h' (by omega)
 have HT : Hid _ := fun w' (h' : IsW w' a len cap xs) => rtop_calls s a len cap xs e w' h' (by omega) hg he
 have HTi : Hid _ := fun w' (h' : IsW w' a len cap xs) => rtiny_calls s a len cap xs e w' h' hm hg he
 have o8 : bits .or .u8 16 8 = 24 := by decide +kernel
 have hbl := (great_not _).1 hg
 have htb : Hid (-32769 ≤ tpI (val xs) e ∧ tpI (val xs) e ≤ 98304) := by rw [Hid]; unfold tpI; omega
 have hz : ((blen (val xs) : Int) == 0) = false := by
  have : blen (val xs) ≠ 0 := fun q => h0 ((blen_nil _).1 q)
  simp; omega
 have hz' : (blen (val xs) : Int) ≠ 0 := by simpa using hz
 rw [hty] at HTi
 have l1 := ls_low (val xs) e
 have l2 := ls_top (val xs) e (by omega)
 have l3 := ls_bits (val xs) e
 have hM := M_lt (val xs) e
 have hq : rd2 (val xs) (lsI (val xs) e - e) ≤ 9007199254740992 := by
  unfold rd2
  have : (up2 (val xs) (lsI (val xs) e - e)).toNat ≤ 1 := Bool.toNat_le _
  omega
 have hql := (rd_len (val xs) (lsI (val xs) e - e) 53 (by decide) l3).2
 have HC : Hid _ := fun w' (h' : IsW w' a len cap xs) => rcut_calls a len cap xs e (lsI (val xs) e) w' h' hm (by omega) (by omega) (by omega)
 rw [hlo] at HC
 have HN : Hid _ := fun w => rNeg_calls B w hU
 have W1 : IntKind.i64.wrap (tpI (val xs) e + 1 - 53) = tpI (val xs) e - 52 := by have := htb.out; rw [IntKind.wrap_i64]; omega
 have hls : max (tpI (val xs) e - 52) (-1074) = lsI (val xs) e := by unfold lsI; split <;> omega
 have W2 : IntKind.i64.wrap (lsI (val xs) e + 1) = lsI (val xs) e + 1 := by rw [IntKind.wrap_i64]; omega
 have HLq : Hid _ := fun ao n c w' (h' : IsW w' ao n c (wordsOf (rd2 (val xs) (lsI (val xs) e - e)))) hn => nLen_calls ao n c (wordsOf (rd2 (val xs) (lsI (val xs) e - e))) w' h' hn
 rw [val_words] at HLq
 have HSq : Hid _ := fun ao n c w' (h' : IsW w' ao n c (wordsOf (rd2 (val xs) (lsI (val xs) e - e)))) hn => nShr_calls ao n c 1 (wordsOf (rd2 (val xs) (lsI (val xs) e - e))) w' h' (by decide) hn
 rw [val_words] at HSq
 have HP : Hid _ := fun ao n c w' (h' : IsW w' ao n c (wordsOf (rd2 (val xs) (lsI (val xs) e - e) / 2))) => put_calls ao n c _ (lsI (val xs) e + 1) w' h' (by omega) (by omega)
 have k3' : (53 : Int) < (blen (rd2 (val xs) (lsI (val xs) e - e)) : Int) := by omega
 rw [hB] at HP
 have Hql : Hid _ := hql
 clear hB k3 hlo l1 l2 l3 hM hq hql hU hty
 generalize rd2 (val xs) (lsI (val xs) e - e) = q at *
 generalize lsI (val xs) e = l at *
 generalize tpI (val xs) e + 1 = tp at *
 generalize tpI (val xs) e - 52 = l0 at *
 generalize (blen (val xs) : Int) = bl at *
 clear h0 hg he hbl
 generalize tinyQ (val xs) e = tq at *
 obtain ⟨bA, c1, c2, c3, z0, z1, f0, f1, r0, r1, g0, g1⟩ := near0 s a len cap e w
 have hI := h.keep bA
 clear h
 go_enter Tryz.func98, Tryz.ntmps98
 go_wp2_with fail
 generalize (((w.alloc (.cells #[.bool s, .slice a len cap, .int .i64 e] 38)).alloc (.cells #[.int .u64 0, .int .u8 0] 25)).alloc (.cells #[.int .u64 0, .int .u8 0] 25)) = w0 at *
 refine Calls.mono (HL.out _ hI) ?_
 rintro r w1 ⟨rfl, bN⟩
 replace f0 := kF bN z0 f0
 replace f1 := kF bN z1 f1
 replace g0 := kF bN r0 g0
 replace g1 := kF bN r1 g1
 replace c1 := kC bN c1
 replace c2 := kC bN c2
 replace c3 := kC bN c3
 replace z0 := kC bN z0
 replace z1 := kC bN z1
 replace r0 := kC bN r0
 replace r1 := kC bN r1
 replace hI := IsW.keep hI bN
 replace bA := nT bA bN
 clear bN
 go_wp2_with fail
 refine Calls.mono (HT.out _ hI) ?_
 rintro r w2 ⟨rfl, bN⟩
 replace f0 := kF bN z0 f0
 replace f1 := kF bN z1 f1
 replace g0 := kF bN r0 g0
 replace g1 := kF bN r1 g1
 replace c1 := kC bN c1
 replace c2 := kC bN c2
 replace c3 := kC bN c3
 replace z0 := kC bN z0
 replace z1 := kC bN z1
 replace r0 := kC bN r0
 replace r1 := kC bN r1
 replace hI := IsW.keep hI bN
 replace bA := nT bA bN
 clear bN
 go_wp2_with fail
 refine Calls.mono (HT.out _ hI) ?_
 rintro r w3 ⟨rfl, bN⟩
 replace f0 := kF bN z0 f0
 replace f1 := kF bN z1 f1
 replace g0 := kF bN r0 g0
 replace g1 := kF bN r1 g1
 replace c1 := kC bN c1
 replace c2 := kC bN c2
 replace c3 := kC bN c3
 replace z0 := kC bN z0
 replace z1 := kC bN z1
 replace r0 := kC bN r0
 replace r1 := kC bN r1
 replace hI := IsW.keep hI bN
 replace bA := nT bA bN
 clear bN
 go_wp2_with fail
 refine Calls.mono (HT.out _ hI) ?_
 rintro r w4 ⟨rfl, bN⟩
 replace f0 := kF bN z0 f0
 replace f1 := kF bN z1 f1
 replace g0 := kF bN r0 g0
 replace g1 := kF bN r1 g1
 replace c1 := kC bN c1
 replace c2 := kC bN c2
 replace c3 := kC bN c3
 replace z0 := kC bN z0
 replace z1 := kC bN z1
 replace r0 := kC bN r0
 replace r1 := kC bN r1
 replace hI := IsW.keep hI bN
 replace bA := nT bA bN
 clear bN
 go_wp2_with fail
 refine Calls.mono (HC.out _ hI) ?_
 rintro r w5 ⟨v, rfl, ⟨ao, n, c, rfl, hN, hO⟩, bN⟩
 have HNq : Hid _ := hN
 have hOI := hO.1
 clear hN hO
 replace f0 := kF bN z0 f0
 replace f1 := kF bN z1 f1
 replace g0 := kF bN r0 g0
 replace g1 := kF bN r1 g1
 replace c1 := kC bN c1
 replace c2 := kC bN c2
 replace c3 := kC bN c3
 replace z0 := kC bN z0
 replace z1 := kC bN z1
 replace r0 := kC bN r0
 replace r1 := kC bN r1
 replace hI := IsW.keep hI bN
 replace bA := nT bA bN
 clear bN
 go_wp2_with fail
 refine Calls.mono (HLq.out _ _ _ _ hOI (by have := Hql.out; have := HNq.out; omega)) ?_
 rintro r w6 ⟨rfl, bN⟩
 replace hOI := IsW.keep hOI bN
 replace f0 := kF bN z0 f0
 replace f1 := kF bN z1 f1
 replace g0 := kF bN r0 g0
 replace g1 := kF bN r1 g1
 replace c1 := kC bN c1
 replace c2 := kC bN c2
 replace c3 := kC bN c3
 replace z0 := kC bN z0
 replace z1 := kC bN z1
 replace r0 := kC bN r0
 replace r1 := kC bN r1
 replace hI := IsW.keep hI bN
 replace bA := nT bA bN
 clear bN
 go_wp2_with fail
 refine Calls.mono (HSq.out _ _ _ _ hOI (by have := Hql.out; have := HNq.out; omega)) ?_
 rintro r w7 ⟨v, rfl, ⟨ap, n2, c2_, rfl, hN2, hO2⟩, bN⟩
 have HNp : Hid _ := hN2
 have hOJ := hO2.1
 clear hN2 hO2
 replace f0 := kF bN z0 f0
 replace f1 := kF bN z1 f1
 replace g0 := kF bN r0 g0
 replace g1 := kF bN r1 g1
 replace c1 := kC bN c1
 replace c2 := kC bN c2
 replace c3 := kC bN c3
 replace z0 := kC bN z0
 replace z1 := kC bN z1
 replace r0 := kC bN r0
 replace r1 := kC bN r1
 replace hI := IsW.keep hI bN
 replace bA := nT bA bN
 clear bN
 go_wp2_with fail
 refine Calls.mono (HP.out _ _ _ _ hOJ) ?_
 rintro r wy ⟨rfl, rfl⟩
 go_wp2_with fail
 have bS : Below (w.heap.size + 1 + 1) wy ((wy.setCell ⟨w.heap.size + 1 + 1, 0, none⟩ (.int .u64 B)).setCell ⟨w.heap.size + 1 + 1, 1, none⟩ (.int .u8 16)) := (((Below.refl _ _).setCell (p := ⟨w.heap.size + 1 + 1, 0, none⟩) (Nat.le_refl _) _).setCell (p := ⟨w.heap.size + 1 + 1, 1, none⟩) (Nat.le_refl _) _)
 replace c1 := (bS.cell (p := ⟨w.heap.size, 0, none⟩) (show w.heap.size < w.heap.size + 1 + 1 by omega)).trans c1
 replace c2 := (bS.cell (p := ⟨w.heap.size, 1, none⟩) (show w.heap.size < w.heap.size + 1 + 1 by omega)).trans c2
 replace c3 := (bS.cell (p := ⟨w.heap.size, 2, none⟩) (show w.heap.size < w.heap.size + 1 + 1 by omega)).trans c3
 replace f0 := (bS.frozen (p := ⟨w.heap.size + 1, 0, none⟩) (show w.heap.size + 1 < w.heap.size + 1 + 1 by omega)).trans f0
 replace z0 := (bS.cell (p := ⟨w.heap.size + 1, 0, none⟩) (show w.heap.size + 1 < w.heap.size + 1 + 1 by omega)).trans z0
 replace f1 := (bS.frozen (p := ⟨w.heap.size + 1, 1, none⟩) (show w.heap.size + 1 < w.heap.size + 1 + 1 by omega)).trans f1
 replace z1 := (bS.cell (p := ⟨w.heap.size + 1, 1, none⟩) (show w.heap.size + 1 < w.heap.size + 1 + 1 by omega)).trans z1
 have nr0 : ((wy.setCell ⟨w.heap.size + 1 + 1, 0, none⟩ (.int .u64 B)).setCell ⟨w.heap.size + 1 + 1, 1, none⟩ (.int .u8 16)).cell? ⟨w.heap.size + 1 + 1, 0, none⟩ = some (.int .u64 B) := by go_simp
 have nr1 : ((wy.setCell ⟨w.heap.size + 1 + 1, 0, none⟩ (.int .u64 B)).setCell ⟨w.heap.size + 1 + 1, 1, none⟩ (.int .u8 16)).cell? ⟨w.heap.size + 1 + 1, 1, none⟩ = some (.int .u8 16) := by go_simp
 have ng0 : ((wy.setCell ⟨w.heap.size + 1 + 1, 0, none⟩ (.int .u64 B)).setCell ⟨w.heap.size + 1 + 1, 1, none⟩ (.int .u8 16)).frozen? ⟨w.heap.size + 1 + 1, 0, none⟩ = false := by go_simp
 have ng1 : ((wy.setCell ⟨w.heap.size + 1 + 1, 0, none⟩ (.int .u64 B)).setCell ⟨w.heap.size + 1 + 1, 1, none⟩ (.int .u8 16)).frozen? ⟨w.heap.size + 1 + 1, 1, none⟩ = false := by go_simp
 have nbA : Below w.heap.size w ((wy.setCell ⟨w.heap.size + 1 + 1, 0, none⟩ (.int .u64 B)).setCell ⟨w.heap.size + 1 + 1, 1, none⟩ (.int .u8 16)) := Below.setCell (Below.setCell (bA) (show w.heap.size ≤ w.heap.size + 1 + 1 by omega) _) (show w.heap.size ≤ w.heap.size + 1 + 1 by omega) _
 replace hI := IsW.keep h00 nbA
 clear bS r0 r1 g0 g1 bA
 generalize ((wy.setCell ⟨w.heap.size + 1 + 1, 0, none⟩ (.int .u64 B)).setCell ⟨w.heap.size + 1 + 1, 1, none⟩ (.int .u8 16)) = w8 at *
 have r0 := nr0
 have r1 := nr1
 have g0 := ng0
 have g1 := ng1
 have bA := nbA
 clear nr0 nr1 ng0 ng1 nbA
 refine Calls.mono (HTi.out _ hI) ?_
 rintro r w9 ⟨rfl, bN⟩
 replace f0 := kF bN z0 f0
 replace f1 := kF bN z1 f1
 replace g0 := kF bN r0 g0
 replace g1 := kF bN r1 g1
 replace c1 := kC bN c1
 replace c2 := kC bN c2
 replace c3 := kC bN c3
 replace z0 := kC bN z0
 replace z1 := kC bN z1
 replace r0 := kC bN r0
 replace r1 := kC bN r1
 replace hI := IsW.keep hI bN
 replace bA := nT bA bN
 clear bN
 cases s
 ·go_wp2_with fail
  exact bodyPost_ret (v := .agg #[.int .u64 B, .int .u8 24]) (by simp [results, Tryz.results98, go_sem, z0, z1]) rfl ⟨rfl, by repeat (first | exact bA | refine Below.setCell ?_ (by first | (show w.heap.size ≤ w.heap.size + 1; omega) | (show w.heap.size ≤ w.heap.size + 1 + 1; omega)) _)⟩
 ·go_wp2_with fail
  refine Calls.mono (HN.out _) ?_
  rintro r wz ⟨rfl, rfl⟩
  go_wp2_with fail
  exact bodyPost_ret (v := .agg #[.int .u64 (negV B), .int .u8 24]) (by simp [results, Tryz.results98, go_sem, z0, z1]) rfl ⟨rfl, by repeat (first | exact bA | refine Below.setCell ?_ (by first | (show w.heap.size ≤ w.heap.size + 1; omega) | (show w.heap.size ≤ w.heap.size + 1 + 1; omega)) _)⟩
set_option maxRecDepth 100000 in
set_option maxHeartbeats 4000000 in
theorem dn_D2_100 (s : Bool) (a : Option Addr) (len cap : Nat) (xs : List Int) (e : Int) (w : World) (h : IsW w a len cap xs) (hm : len ≤ 17592186044000) (hg : greatB (val xs) = false) (he : -32768 ≤ e ∧ e ≤ 32768) (h0 : val xs ≠ 0) (k1 : ¬ (1024 < tpI (val xs) e + 1)) (k2 : ¬ (tpI (val xs) e + 1 < -1074)) (k3 : 53 < blen (rd2 (val xs) (lsI (val xs) e - e))) (hlo : ls2 (val xs) (lsI (val xs) e - e) = true) (hty : tinyQ (val xs) e = false) (B : Int) (hB : putV (rd2 (val xs) (lsI (val xs) e - e) / 2) (lsI (val xs) e + 1) = B) (hi : B ≠ 9218868437227405312) (hU : U B) :
  Calls Tryz.prog 98 #[dyV s a len cap e] w fun r w' => r = .returned (.agg #[.int .u64 (if s = true then negV B else B), .int .u8 16]) ∧ Below w.heap.size w w' := by
 have h00 : IsW w a len cap xs := h
 have HL : Hid _ := fun w' (h' : IsW w' a len cap xs) => nLen_calls a len cap xs w' h' (by omega)
 have HT : Hid _ := fun w' (h' : IsW w' a len cap xs) => rtop_calls s a len cap xs e w' h' (by omega) hg he
 have HTi : Hid _ := fun w' (h' : IsW w' a len cap xs) => rtiny_calls s a len cap xs e w' h' hm hg he
 have o8 : bits .or .u8 16 8 = 24 := by decide +kernel
 have hbl := (great_not _).1 hg
 have htb : Hid (-32769 ≤ tpI (val xs) e ∧ tpI (val xs) e ≤ 98304) := by rw [Hid]; unfold tpI; omega
 have hz : ((blen (val xs) : Int) == 0) = false := by
  have : blen (val xs) ≠ 0 := fun q => h0 ((blen_nil _).1 q)
  simp; omega
 have hz' : (blen (val xs) : Int) ≠ 0 := by simpa using hz
 rw [hty] at HTi
 have l1 := ls_low (val xs) e
 have l2 := ls_top (val xs) e (by omega)
 have l3 := ls_bits (val xs) e
 have hM := M_lt (val xs) e
 have hq : rd2 (val xs) (lsI (val xs) e - e) ≤ 9007199254740992 := by
  unfold rd2
  have : (up2 (val xs) (lsI (val xs) e - e)).toNat ≤ 1 := Bool.toNat_le _
  omega
 have hql := (rd_len (val xs) (lsI (val xs) e - e) 53 (by decide) l3).2
 have HC : Hid _ := fun w' (h' : IsW w' a len cap xs) => rcut_calls a len cap xs e (lsI (val xs) e) w' h' hm (by omega) (by omega) (by omega)
 rw [hlo] at HC
 have HN : Hid _ := fun w => rNeg_calls B w hU
 have W1 : IntKind.i64.wrap (tpI (val xs) e + 1 - 53) = tpI (val xs) e - 52 := by have := htb.out; rw [IntKind.wrap_i64]; omega
 have hls : max (tpI (val xs) e - 52) (-1074) = lsI (val xs) e := by unfold lsI; split <;> omega
 have W2 : IntKind.i64.wrap (lsI (val xs) e + 1) = lsI (val xs) e + 1 := by rw [IntKind.wrap_i64]; omega
 have HLq : Hid _ := fun ao n c w' (h' : IsW w' ao n c (wordsOf (rd2 (val xs) (lsI (val xs) e - e)))) hn => nLen_calls ao n c (wordsOf (rd2 (val xs) (lsI (val xs) e - e))) w' h' hn
 rw [val_words] at HLq
 have HSq : Hid _ := fun ao n c w' (h' : IsW w' ao n c (wordsOf (rd2 (val xs) (lsI (val xs) e - e)))) hn => nShr_calls ao n c 1 (wordsOf (rd2 (val xs) (lsI (val xs) e - e))) w' h' (by decide) hn
 rw [val_words] at HSq
 have HP : Hid _ := fun ao n c w' (h' : IsW w' ao n c (wordsOf (rd2 (val xs) (lsI (val xs) e - e) / 2))) => put_calls ao n c _ (lsI (val xs) e + 1) w' h' (by omega) (by omega)
 have k3' : (53 : Int) < (blen (rd2 (val xs) (lsI (val xs) e - e)) : Int) := by omega
 rw [hB] at HP
 have Hql : Hid _ := hql
 clear hB k3 hlo l1 l2 l3 hM hq hql hU hty
 generalize rd2 (val xs) (lsI (val xs) e - e) = q at *
 generalize lsI (val xs) e = l at *
 generalize tpI (val xs) e + 1 = tp at *
 generalize tpI (val xs) e - 52 = l0 at *
 generalize (blen (val xs) : Int) = bl at *
 clear h0 hg he hbl
 generalize tinyQ (val xs) e = tq at *
 obtain ⟨bA, c1, c2, c3, z0, z1, f0, f1, r0, r1, g0, g1⟩ := near0 s a len cap e w
 have hI := h.keep bA
 clear h
 go_enter Tryz.func98, Tryz.ntmps98
 go_wp2_with fail
 generalize (((w.alloc (.cells #[.bool s, .slice a len cap, .int .i64 e] 38)).alloc (.cells #[.int .u64 0, .int .u8 0] 25)).alloc (.cells #[.int .u64 0, .int .u8 0] 25)) = w0 at *
 refine Calls.mono (HL.out _ hI) ?_
 rintro r w1 ⟨rfl, bN⟩
 replace f0 := kF bN z0 f0
 replace f1 := kF bN z1 f1
 replace g0 := kF bN r0 g0
 replace g1 := kF bN r1 g1
 replace c1 := kC bN c1
 replace c2 := kC bN c2
 replace c3 := kC bN c3
 replace z0 := kC bN z0
 replace z1 := kC bN z1
 replace r0 := kC bN r0
 replace r1 := kC bN r1
 replace hI := IsW.keep hI bN
 replace bA := nT bA bN
 clear bN
 go_wp2_with fail
 refine Calls.mono (HT.out _ hI) ?_
 rintro r w2 ⟨rfl, bN⟩
 replace f0 := kF bN z0 f0
 replace f1 := kF bN z1 f1
 replace g0 := kF bN r0 g0
 replace g1 := kF bN r1 g1
 replace c1 := kC bN c1
 replace c2 := kC bN c2
 replace c3 := kC bN c3
 replace z0 := kC bN z0
 replace z1 := kC bN z1
 replace r0 := kC bN r0
 replace r1 := kC bN r1
 replace hI := IsW.keep hI bN
 replace bA := nT bA bN
 clear bN
 go_wp2_with fail
 refine Calls.mono (HT.out _ hI) ?_
 rintro r w3 ⟨rfl, bN⟩
 replace f0 := kF bN z0 f0
 replace f1 := kF bN z1 f1
 replace g0 := kF bN r0 g0
 replace g1 := kF bN r1 g1
 replace c1 := kC bN c1
 replace c2 := kC bN c2
 replace c3 := kC bN c3
 replace z0 := kC bN z0
 replace z1 := kC bN z1
 replace r0 := kC bN r0
 replace r1 := kC bN r1
 replace hI := IsW.keep hI bN
 replace bA := nT bA bN
 clear bN
 go_wp2_with fail
 refine Calls.mono (HT.out _ hI) ?_
 rintro r w4 ⟨rfl, bN⟩
 replace f0 := kF bN z0 f0
 replace f1 := kF bN z1 f1
 replace g0 := kF bN r0 g0
 replace g1 := kF bN r1 g1
 replace c1 := kC bN c1
 replace c2 := kC bN c2
 replace c3 := kC bN c3
 replace z0 := kC bN z0
 replace z1 := kC bN z1
 replace r0 := kC bN r0
 replace r1 := kC bN r1
 replace hI := IsW.keep hI bN
 replace bA := nT bA bN
 clear bN
 go_wp2_with fail
 refine Calls.mono (HC.out _ hI) ?_
 rintro r w5 ⟨v, rfl, ⟨ao, n, c, rfl, hN, hO⟩, bN⟩
 have HNq : Hid _ := hN
 have hOI := hO.1
 clear hN hO
 replace f0 := kF bN z0 f0
 replace f1 := kF bN z1 f1
 replace g0 := kF bN r0 g0
 replace g1 := kF bN r1 g1
 replace c1 := kC bN c1
 replace c2 := kC bN c2
 replace c3 := kC bN c3
 replace z0 := kC bN z0
 replace z1 := kC bN z1
 replace r0 := kC bN r0
 replace r1 := kC bN r1
 replace hI := IsW.keep hI bN
 replace bA := nT bA bN
 clear bN
 go_wp2_with fail
 refine Calls.mono (HLq.out _ _ _ _ hOI (by have := Hql.out; have := HNq.out; omega)) ?_
 rintro r w6 ⟨rfl, bN⟩
 replace hOI := IsW.keep hOI bN
 replace f0 := kF bN z0 f0
 replace f1 := kF bN z1 f1
 replace g0 := kF bN r0 g0
 replace g1 := kF bN r1 g1
 replace c1 := kC bN c1
 replace c2 := kC bN c2
 replace c3 := kC bN c3
 replace z0 := kC bN z0
 replace z1 := kC bN z1
 replace r0 := kC bN r0
 replace r1 := kC bN r1
 replace hI := IsW.keep hI bN
 replace bA := nT bA bN
 clear bN
 go_wp2_with fail
 refine Calls.mono (HSq.out _ _ _ _ hOI (by have := Hql.out; have := HNq.out; omega)) ?_
 rintro r w7 ⟨v, rfl, ⟨ap, n2, c2_, rfl, hN2, hO2⟩, bN⟩
 have HNp : Hid _ := hN2
 have hOJ := hO2.1
 clear hN2 hO2
 replace f0 := kF bN z0 f0
 replace f1 := kF bN z1 f1
 replace g0 := kF bN r0 g0
 replace g1 := kF bN r1 g1
 replace c1 := kC bN c1
 replace c2 := kC bN c2
 replace c3 := kC bN c3
 replace z0 := kC bN z0
 replace z1 := kC bN z1
 replace r0 := kC bN r0
 replace r1 := kC bN r1
 replace hI := IsW.keep hI bN
 replace bA := nT bA bN
 clear bN
 go_wp2_with fail
 refine Calls.mono (HP.out _ _ _ _ hOJ) ?_
 rintro r wy ⟨rfl, rfl⟩
 go_wp2_with fail
 have bS : Below (w.heap.size + 1 + 1) wy ((wy.setCell ⟨w.heap.size + 1 + 1, 0, none⟩ (.int .u64 B)).setCell ⟨w.heap.size + 1 + 1, 1, none⟩ (.int .u8 16)) := (((Below.refl _ _).setCell (p := ⟨w.heap.size + 1 + 1, 0, none⟩) (Nat.le_refl _) _).setCell (p := ⟨w.heap.size + 1 + 1, 1, none⟩) (Nat.le_refl _) _)
 replace c1 := (bS.cell (p := ⟨w.heap.size, 0, none⟩) (show w.heap.size < w.heap.size + 1 + 1 by omega)).trans c1
 replace c2 := (bS.cell (p := ⟨w.heap.size, 1, none⟩) (show w.heap.size < w.heap.size + 1 + 1 by omega)).trans c2
 replace c3 := (bS.cell (p := ⟨w.heap.size, 2, none⟩) (show w.heap.size < w.heap.size + 1 + 1 by omega)).trans c3
 replace f0 := (bS.frozen (p := ⟨w.heap.size + 1, 0, none⟩) (show w.heap.size + 1 < w.heap.size + 1 + 1 by omega)).trans f0
 replace z0 := (bS.cell (p := ⟨w.heap.size + 1, 0, none⟩) (show w.heap.size + 1 < w.heap.size + 1 + 1 by omega)).trans z0
 replace f1 := (bS.frozen (p := ⟨w.heap.size + 1, 1, none⟩) (show w.heap.size + 1 < w.heap.size + 1 + 1 by omega)).trans f1
 replace z1 := (bS.cell (p := ⟨w.heap.size + 1, 1, none⟩) (show w.heap.size + 1 < w.heap.size + 1 + 1 by omega)).trans z1
 have nr0 : ((wy.setCell ⟨w.heap.size + 1 + 1, 0, none⟩ (.int .u64 B)).setCell ⟨w.heap.size + 1 + 1, 1, none⟩ (.int .u8 16)).cell? ⟨w.heap.size + 1 + 1, 0, none⟩ = some (.int .u64 B) := by go_simp
 have nr1 : ((wy.setCell ⟨w.heap.size + 1 + 1, 0, none⟩ (.int .u64 B)).setCell ⟨w.heap.size + 1 + 1, 1, none⟩ (.int .u8 16)).cell? ⟨w.heap.size + 1 + 1, 1, none⟩ = some (.int .u8 16) := by go_simp
 have ng0 : ((wy.setCell ⟨w.heap.size + 1 + 1, 0, none⟩ (.int .u64 B)).setCell ⟨w.heap.size + 1 + 1, 1, none⟩ (.int .u8 16)).frozen? ⟨w.heap.size + 1 + 1, 0, none⟩ = false := by go_simp
 have ng1 : ((wy.setCell ⟨w.heap.size + 1 + 1, 0, none⟩ (.int .u64 B)).setCell ⟨w.heap.size + 1 + 1, 1, none⟩ (.int .u8 16)).frozen? ⟨w.heap.size + 1 + 1, 1, none⟩ = false := by go_simp
 have nbA : Below w.heap.size w ((wy.setCell ⟨w.heap.size + 1 + 1, 0, none⟩ (.int .u64 B)).setCell ⟨w.heap.size + 1 + 1, 1, none⟩ (.int .u8 16)) := Below.setCell (Below.setCell (bA) (show w.heap.size ≤ w.heap.size + 1 + 1 by omega) _) (show w.heap.size ≤ w.heap.size + 1 + 1 by omega) _
 replace hI := IsW.keep h00 nbA
 clear bS r0 r1 g0 g1 bA
 generalize ((wy.setCell ⟨w.heap.size + 1 + 1, 0, none⟩ (.int .u64 B)).setCell ⟨w.heap.size + 1 + 1, 1, none⟩ (.int .u8 16)) = w8 at *
 have r0 := nr0
 have r1 := nr1
 have g0 := ng0
 have g1 := ng1
 have bA := nbA
 clear nr0 nr1 ng0 ng1 nbA
 refine Calls.mono (HTi.out _ hI) ?_
 rintro r w9 ⟨rfl, bN⟩
 replace f0 := kF bN z0 f0
 replace f1 := kF bN z1 f1
 replace g0 := kF bN r0 g0
 replace g1 := kF bN r1 g1
 replace c1 := kC bN c1
 replace c2 := kC bN c2
 replace c3 := kC bN c3
 replace z0 := kC bN z0
 replace z1 := kC bN z1
 replace r0 := kC bN r0
 replace r1 := kC bN r1
 replace hI := IsW.keep hI bN
 replace bA := nT bA bN
 clear bN
 cases s
 ·go_wp2_with fail
  exact bodyPost_ret (v := .agg #[.int .u64 B, .int .u8 16]) (by simp [results, Tryz.results98, go_sem, z0, z1]) rfl ⟨rfl, by repeat (first | exact bA | refine Below.setCell ?_ (by first | (show w.heap.size ≤ w.heap.size + 1; omega) | (show w.heap.size ≤ w.heap.size + 1 + 1; omega)) _)⟩
 ·go_wp2_with fail
  refine Calls.mono (HN.out _) ?_
  rintro r wz ⟨rfl, rfl⟩
  go_wp2_with fail
  exact bodyPost_ret (v := .agg #[.int .u64 (negV B), .int .u8 16]) (by simp [results, Tryz.results98, go_sem, z0, z1]) rfl ⟨rfl, by repeat (first | exact bA | refine Below.setCell ?_ (by first | (show w.heap.size ≤ w.heap.size + 1; omega) | (show w.heap.size ≤ w.heap.size + 1 + 1; omega)) _)⟩
set_option maxRecDepth 100000 in
set_option maxHeartbeats 4000000 in
theorem dn_D2_101 (s : Bool) (a : Option Addr) (len cap : Nat) (xs : List Int) (e : Int) (w : World) (h : IsW w a len cap xs) (hm : len ≤ 17592186044000) (hg : greatB (val xs) = false) (he : -32768 ≤ e ∧ e ≤ 32768) (h0 : val xs ≠ 0) (k1 : ¬ (1024 < tpI (val xs) e + 1)) (k2 : ¬ (tpI (val xs) e + 1 < -1074)) (k3 : 53 < blen (rd2 (val xs) (lsI (val xs) e - e))) (hlo : ls2 (val xs) (lsI (val xs) e - e) = true) (hty : tinyQ (val xs) e = false) (B : Int) (hB : putV (rd2 (val xs) (lsI (val xs) e - e) / 2) (lsI (val xs) e + 1) = B) (hi : B = 9218868437227405312) (hU : U B) :
  Calls Tryz.prog 98 #[dyV s a len cap e] w fun r w' => r = .returned (.agg #[.int .u64 (if s = true then negV B else B), .int .u8 20]) ∧ Below w.heap.size w w' := by
 have h00 : IsW w a len cap xs := h
 have HL : Hid _ := fun w' (h' : IsW w' a len cap xs) => nLen_calls a len cap xs w' h' (by omega)
 have HT : Hid _ := fun w' (h' : IsW w' a len cap xs) => rtop_calls s a len cap xs e w' h' (by omega) hg he
 have HTi : Hid _ := fun w' (h' : IsW w' a len cap xs) => rtiny_calls s a len cap xs e w' h' hm hg he
 have o8 : bits .or .u8 16 8 = 24 := by decide +kernel
 have hbl := (great_not _).1 hg
 have htb : Hid (-32769 ≤ tpI (val xs) e ∧ tpI (val xs) e ≤ 98304) := by rw [Hid]; unfold tpI; omega
 have hz : ((blen (val xs) : Int) == 0) = false := by
  have : blen (val xs) ≠ 0 := fun q => h0 ((blen_nil _).1 q)
  simp; omega
 have hz' : (blen (val xs) : Int) ≠ 0 := by simpa using hz
 rw [hty] at HTi
 have l1 := ls_low (val xs) e
 have l2 := ls_top (val xs) e (by omega)
 have l3 := ls_bits (val xs) e
 have hM := M_lt (val xs) e
 have hq : rd2 (val xs) (lsI (val xs) e - e) ≤ 9007199254740992 := by
  unfold rd2
  have : (up2 (val xs) (lsI (val xs) e - e)).toNat ≤ 1 := Bool.toNat_le _
  omega
 have hql := (rd_len (val xs) (lsI (val xs) e - e) 53 (by decide) l3).2
 have HC : Hid _ := fun w' (h' : IsW w' a len cap xs) => rcut_calls a len cap xs e (lsI (val xs) e) w' h' hm (by omega) (by omega) (by omega)
 rw [hlo] at HC
 have HN : Hid _ := fun w => rNeg_calls B w hU
 have W1 : IntKind.i64.wrap (tpI (val xs) e + 1 - 53) = tpI (val xs) e - 52 := by have := htb.out; rw [IntKind.wrap_i64]; omega
 have hls : max (tpI (val xs) e - 52) (-1074) = lsI (val xs) e := by unfold lsI; split <;> omega
 have W2 : IntKind.i64.wrap (lsI (val xs) e + 1) = lsI (val xs) e + 1 := by rw [IntKind.wrap_i64]; omega
 have HLq : Hid _ := fun ao n c w' (h' : IsW w' ao n c (wordsOf (rd2 (val xs) (lsI (val xs) e - e)))) hn => nLen_calls ao n c (wordsOf (rd2 (val xs) (lsI (val xs) e - e))) w' h' hn
 rw [val_words] at HLq
 have HSq : Hid _ := fun ao n c w' (h' : IsW w' ao n c (wordsOf (rd2 (val xs) (lsI (val xs) e - e)))) hn => nShr_calls ao n c 1 (wordsOf (rd2 (val xs) (lsI (val xs) e - e))) w' h' (by decide) hn
 rw [val_words] at HSq
 have HP : Hid _ := fun ao n c w' (h' : IsW w' ao n c (wordsOf (rd2 (val xs) (lsI (val xs) e - e) / 2))) => put_calls ao n c _ (lsI (val xs) e + 1) w' h' (by omega) (by omega)
 have k3' : (53 : Int) < (blen (rd2 (val xs) (lsI (val xs) e - e)) : Int) := by omega
 rw [hB] at HP
 have Hql : Hid _ := hql
 clear hB k3 hlo l1 l2 l3 hM hq hql hU hty
 generalize rd2 (val xs) (lsI (val xs) e - e) = q at *
 generalize lsI (val xs) e = l at *
 generalize tpI (val xs) e + 1 = tp at *
 generalize tpI (val xs) e - 52 = l0 at *
 generalize (blen (val xs) : Int) = bl at *
 clear h0 hg he hbl
 generalize tinyQ (val xs) e = tq at *
 subst hi
 obtain ⟨bA, c1, c2, c3, z0, z1, f0, f1, r0, r1, g0, g1⟩ := near0 s a len cap e w
 have hI := h.keep bA
 clear h
 go_enter Tryz.func98, Tryz.ntmps98
 go_wp2_with fail
 generalize (((w.alloc (.cells #[.bool s, .slice a len cap, .int .i64 e] 38)).alloc (.cells #[.int .u64 0, .int .u8 0] 25)).alloc (.cells #[.int .u64 0, .int .u8 0] 25)) = w0 at *
 refine Calls.mono (HL.out _ hI) ?_
 rintro r w1 ⟨rfl, bN⟩
 replace f0 := kF bN z0 f0
 replace f1 := kF bN z1 f1
 replace g0 := kF bN r0 g0
 replace g1 := kF bN r1 g1
 replace c1 := kC bN c1
 replace c2 := kC bN c2
 replace c3 := kC bN c3
 replace z0 := kC bN z0
 replace z1 := kC bN z1
 replace r0 := kC bN r0
 replace r1 := kC bN r1
 replace hI := IsW.keep hI bN
 replace bA := nT bA bN
 clear bN
 go_wp2_with fail
 refine Calls.mono (HT.out _ hI) ?_
 rintro r w2 ⟨rfl, bN⟩
 replace f0 := kF bN z0 f0
 replace f1 := kF bN z1 f1
 replace g0 := kF bN r0 g0
 replace g1 := kF bN r1 g1
 replace c1 := kC bN c1
 replace c2 := kC bN c2
 replace c3 := kC bN c3
 replace z0 := kC bN z0
 replace z1 := kC bN z1
 replace r0 := kC bN r0
 replace r1 := kC bN r1
 replace hI := IsW.keep hI bN
 replace bA := nT bA bN
 clear bN
 go_wp2_with fail
 refine Calls.mono (HT.out _ hI) ?_
 rintro r w3 ⟨rfl, bN⟩
 replace f0 := kF bN z0 f0
 replace f1 := kF bN z1 f1
 replace g0 := kF bN r0 g0
 replace g1 := kF bN r1 g1
 replace c1 := kC bN c1
 replace c2 := kC bN c2
 replace c3 := kC bN c3
 replace z0 := kC bN z0
 replace z1 := kC bN z1
 replace r0 := kC bN r0
 replace r1 := kC bN r1
 replace hI := IsW.keep hI bN
 replace bA := nT bA bN
 clear bN
 go_wp2_with fail
 refine Calls.mono (HT.out _ hI) ?_
 rintro r w4 ⟨rfl, bN⟩
 replace f0 := kF bN z0 f0
 replace f1 := kF bN z1 f1
 replace g0 := kF bN r0 g0
 replace g1 := kF bN r1 g1
 replace c1 := kC bN c1
 replace c2 := kC bN c2
 replace c3 := kC bN c3
 replace z0 := kC bN z0
 replace z1 := kC bN z1
 replace r0 := kC bN r0
 replace r1 := kC bN r1
 replace hI := IsW.keep hI bN
 replace bA := nT bA bN
 clear bN
 go_wp2_with fail
 refine Calls.mono (HC.out _ hI) ?_
 rintro r w5 ⟨v, rfl, ⟨ao, n, c, rfl, hN, hO⟩, bN⟩
 have HNq : Hid _ := hN
 have hOI := hO.1
 clear hN hO
 replace f0 := kF bN z0 f0
 replace f1 := kF bN z1 f1
 replace g0 := kF bN r0 g0
 replace g1 := kF bN r1 g1
 replace c1 := kC bN c1
 replace c2 := kC bN c2
 replace c3 := kC bN c3
 replace z0 := kC bN z0
 replace z1 := kC bN z1
 replace r0 := kC bN r0
 replace r1 := kC bN r1
 replace hI := IsW.keep hI bN
 replace bA := nT bA bN
 clear bN
 go_wp2_with fail
 refine Calls.mono (HLq.out _ _ _ _ hOI (by have := Hql.out; have := HNq.out; omega)) ?_
 rintro r w6 ⟨rfl, bN⟩
 replace hOI := IsW.keep hOI bN
 replace f0 := kF bN z0 f0
 replace f1 := kF bN z1 f1
 replace g0 := kF bN r0 g0
 replace g1 := kF bN r1 g1
 replace c1 := kC bN c1
 replace c2 := kC bN c2
 replace c3 := kC bN c3
 replace z0 := kC bN z0
 replace z1 := kC bN z1
 replace r0 := kC bN r0
 replace r1 := kC bN r1
 replace hI := IsW.keep hI bN
 replace bA := nT bA bN
 clear bN
 go_wp2_with fail
 refine Calls.mono (HSq.out _ _ _ _ hOI (by have := Hql.out; have := HNq.out; omega)) ?_
 rintro r w7 ⟨v, rfl, ⟨ap, n2, c2_, rfl, hN2, hO2⟩, bN⟩
 have HNp : Hid _ := hN2
 have hOJ := hO2.1
 clear hN2 hO2
 replace f0 := kF bN z0 f0
 replace f1 := kF bN z1 f1
 replace g0 := kF bN r0 g0
 replace g1 := kF bN r1 g1
 replace c1 := kC bN c1
 replace c2 := kC bN c2
 replace c3 := kC bN c3
 replace z0 := kC bN z0
 replace z1 := kC bN z1
 replace r0 := kC bN r0
 replace r1 := kC bN r1
 replace hI := IsW.keep hI bN
 replace bA := nT bA bN
 clear bN
 go_wp2_with fail
 refine Calls.mono (HP.out _ _ _ _ hOJ) ?_
 rintro r wy ⟨rfl, rfl⟩
 go_wp2_with fail
 have bS : Below (w.heap.size + 1 + 1) wy ((wy.setCell ⟨w.heap.size + 1 + 1, 0, none⟩ (.int .u64 9218868437227405312)).setCell ⟨w.heap.size + 1 + 1, 1, none⟩ (.int .u8 16)) := (((Below.refl _ _).setCell (p := ⟨w.heap.size + 1 + 1, 0, none⟩) (Nat.le_refl _) _).setCell (p := ⟨w.heap.size + 1 + 1, 1, none⟩) (Nat.le_refl _) _)
 replace c1 := (bS.cell (p := ⟨w.heap.size, 0, none⟩) (show w.heap.size < w.heap.size + 1 + 1 by omega)).trans c1
 replace c2 := (bS.cell (p := ⟨w.heap.size, 1, none⟩) (show w.heap.size < w.heap.size + 1 + 1 by omega)).trans c2
 replace c3 := (bS.cell (p := ⟨w.heap.size, 2, none⟩) (show w.heap.size < w.heap.size + 1 + 1 by omega)).trans c3
 replace f0 := (bS.frozen (p := ⟨w.heap.size + 1, 0, none⟩) (show w.heap.size + 1 < w.heap.size + 1 + 1 by omega)).trans f0
 replace z0 := (bS.cell (p := ⟨w.heap.size + 1, 0, none⟩) (show w.heap.size + 1 < w.heap.size + 1 + 1 by omega)).trans z0
 replace f1 := (bS.frozen (p := ⟨w.heap.size + 1, 1, none⟩) (show w.heap.size + 1 < w.heap.size + 1 + 1 by omega)).trans f1
 replace z1 := (bS.cell (p := ⟨w.heap.size + 1, 1, none⟩) (show w.heap.size + 1 < w.heap.size + 1 + 1 by omega)).trans z1
 have nr0 : ((wy.setCell ⟨w.heap.size + 1 + 1, 0, none⟩ (.int .u64 9218868437227405312)).setCell ⟨w.heap.size + 1 + 1, 1, none⟩ (.int .u8 16)).cell? ⟨w.heap.size + 1 + 1, 0, none⟩ = some (.int .u64 9218868437227405312) := by go_simp
 have nr1 : ((wy.setCell ⟨w.heap.size + 1 + 1, 0, none⟩ (.int .u64 9218868437227405312)).setCell ⟨w.heap.size + 1 + 1, 1, none⟩ (.int .u8 16)).cell? ⟨w.heap.size + 1 + 1, 1, none⟩ = some (.int .u8 16) := by go_simp
 have ng0 : ((wy.setCell ⟨w.heap.size + 1 + 1, 0, none⟩ (.int .u64 9218868437227405312)).setCell ⟨w.heap.size + 1 + 1, 1, none⟩ (.int .u8 16)).frozen? ⟨w.heap.size + 1 + 1, 0, none⟩ = false := by go_simp
 have ng1 : ((wy.setCell ⟨w.heap.size + 1 + 1, 0, none⟩ (.int .u64 9218868437227405312)).setCell ⟨w.heap.size + 1 + 1, 1, none⟩ (.int .u8 16)).frozen? ⟨w.heap.size + 1 + 1, 1, none⟩ = false := by go_simp
 have nbA : Below w.heap.size w ((wy.setCell ⟨w.heap.size + 1 + 1, 0, none⟩ (.int .u64 9218868437227405312)).setCell ⟨w.heap.size + 1 + 1, 1, none⟩ (.int .u8 16)) := Below.setCell (Below.setCell (bA) (show w.heap.size ≤ w.heap.size + 1 + 1 by omega) _) (show w.heap.size ≤ w.heap.size + 1 + 1 by omega) _
 replace hI := IsW.keep h00 nbA
 clear bS r0 r1 g0 g1 bA
 generalize ((wy.setCell ⟨w.heap.size + 1 + 1, 0, none⟩ (.int .u64 9218868437227405312)).setCell ⟨w.heap.size + 1 + 1, 1, none⟩ (.int .u8 16)) = w8 at *
 have r0 := nr0
 have r1 := nr1
 have g0 := ng0
 have g1 := ng1
 have bA := nbA
 clear nr0 nr1 ng0 ng1 nbA
 refine Calls.mono (HTi.out _ hI) ?_
 rintro r w9 ⟨rfl, bN⟩
 replace f0 := kF bN z0 f0
 replace f1 := kF bN z1 f1
 replace g0 := kF bN r0 g0
 replace g1 := kF bN r1 g1
 replace c1 := kC bN c1
 replace c2 := kC bN c2
 replace c3 := kC bN c3
 replace z0 := kC bN z0
 replace z1 := kC bN z1
 replace r0 := kC bN r0
 replace r1 := kC bN r1
 replace hI := IsW.keep hI bN
 replace bA := nT bA bN
 clear bN
 cases s
 ·go_wp2_with fail
  exact bodyPost_ret (v := .agg #[.int .u64 9218868437227405312, .int .u8 20]) (by simp [results, Tryz.results98, go_sem, z0, z1]) rfl ⟨rfl, by repeat (first | exact bA | refine Below.setCell ?_ (by first | (show w.heap.size ≤ w.heap.size + 1; omega) | (show w.heap.size ≤ w.heap.size + 1 + 1; omega)) _)⟩
 ·go_wp2_with fail
  refine Calls.mono (HN.out _) ?_
  rintro r wz ⟨rfl, rfl⟩
  go_wp2_with fail
  exact bodyPost_ret (v := .agg #[.int .u64 (negV 9218868437227405312), .int .u8 20]) (by simp [results, Tryz.results98, go_sem, z0, z1]) rfl ⟨rfl, by repeat (first | exact bA | refine Below.setCell ?_ (by first | (show w.heap.size ≤ w.heap.size + 1; omega) | (show w.heap.size ≤ w.heap.size + 1 + 1; omega)) _)⟩
def flD (m : Nat) (e : Int) : Int := if m = 0 then 0 else if nearW m e = 9218868437227405312 then 20 else if exactB m e = true then 0 else if tinyQ m e = true then 24 else 16
theorem rd_top (m : Nat) (e : Int) : rd2 m (lsI m e - e) ≤ 9007199254740992 := by
  have := M_lt m e
  unfold rd2
  have : (up2 m (lsI m e - e)).toNat ≤ 1 := Bool.toNat_le _
  omega
theorem up_lost (m : Nat) (k : Int) (h : ls2 m k = false) : up2 m k = false := by
  have := (more_zero m k).2 h
  rw [more_half] at this
  unfold up2
  cases hh : half2 m k with
  | false => rfl
  | true => rw [hh] at this; simp at this
theorem put_one (m : Nat) (e : Int) (h0 : m ≠ 0) (h1 : tpI m e < 1024) (h : ¬ 53 < blen (rd2 m (lsI m e - e))) : putV (rd2 m (lsI m e - e)) (lsI m e) = nearW m e ∧ nearW m e ≠ 9218868437227405312 := by
  have a1 := ls_low m e
  have a2 := ls_top m e h1
  have hq : rd2 m (lsI m e - e) < 9007199254740992 := (blen_le _ 53).1 (by omega)
  have hge : lsI m e = -1074 ∨ 4503599627370496 ≤ rd2 m (lsI m e - e) := by
    by_cases q : lsI m e = -1074
    · exact .inl q
    · right
      have := M_ge m e h0 (by omega)
      unfold rd2
      omega
  have hn : nearW m e = (lsI m e + 1074) * 4503599627370496 + (rd2 m (lsI m e - e) : Int) := by unfold nearW; rw [if_neg h0, if_neg (by omega)]
  rw [hn]
  unfold putV
  generalize rd2 m (lsI m e - e) = q at *
  generalize lsI m e = l at *
  constructor
  · by_cases c : q < 4503599627370496
    · rw [if_pos c]; omega
    · rw [if_neg c, if_neg (by omega)]; omega
  · omega
theorem put_two (m : Nat) (e : Int) (h0 : m ≠ 0) (h1 : tpI m e < 1024) (h : 53 < blen (rd2 m (lsI m e - e))) : putV (rd2 m (lsI m e - e) / 2) (lsI m e + 1) = nearW m e ∧ ls2 m (lsI m e - e) = true := by
  have a1 := ls_low m e
  have a2 := ls_top m e h1
  have hq := rd_top m e
  have hq2 : rd2 m (lsI m e - e) = 9007199254740992 := by
    have : ¬ rd2 m (lsI m e - e) < 9007199254740992 := fun q => by
      have : blen (rd2 m (lsI m e - e)) ≤ 53 := (blen_le _ 53).2 q
      omega
    omega
  have hn : nearW m e = (lsI m e + 1074) * 4503599627370496 + (rd2 m (lsI m e - e) : Int) := by unfold nearW; rw [if_neg h0, if_neg (by omega)]
  constructor
  · rw [hn, hq2]
    unfold putV
    rw [if_neg (by decide)]
    generalize lsI m e = l at *
    by_cases c : 971 < l + 1
    · rw [if_pos c]; omega
    · rw [if_neg c]; omega
  · cases hl : ls2 m (lsI m e - e) with
    | true => rfl
    | false =>
      have hu := up_lost m _ hl
      have hM := M_lt m e
      unfold rd2 at hq2
      rw [hu] at hq2
      simp at hq2
      omega
theorem near_low (m : Nat) (e : Int) (h0 : m ≠ 0) (h : tpI m e + 1 < -1074) : nearW m e = 0 ∧ exactB m e = false ∧ tinyQ m e = true := by
  have hl : lsI m e = -1074 := by unfold lsI; rw [if_pos (by omega)]
  have hb : blen m ≠ 0 := fun q => h0 ((blen_nil _).1 q)
  unfold tpI at h
  obtain ⟨n, hn⟩ : ∃ n : Nat, -1074 - e = (n : Int) + 1 := ⟨(-1074 - e - 1).toNat, by omega⟩
  have hm : m < 2 ^ n := (blen_le _ _).1 (by omega)
  have hm2 : m < 2 ^ (n + 1) := Nat.lt_of_lt_of_le hm (Nat.pow_le_pow_right (by decide) (by omega))
  refine ⟨?_, ?_, ?_⟩
  · unfold nearW
    rw [if_neg h0, if_neg (by unfold tpI; omega), hl, hn]
    have : rd2 m ((n : Int) + 1) = 0 := by
      unfold rd2 up2 half2 fl2
      rw [if_neg (by omega), if_neg (by omega), show ((n : Int) + 1).toNat = n + 1 by omega, show n + 1 - 1 = n by omega, bit_div, Nat.div_eq_of_lt hm2, Nat.div_eq_of_lt hm]
      rfl
    rw [this]; rfl
  · unfold exactB
    rw [if_neg h0, if_neg (by unfold tpI; omega), hl, hn]
    have : ls2 m ((n : Int) + 1) = true := by
      unfold ls2 lostB
      rw [if_neg (by omega), show ((n : Int) + 1).toNat = n + 1 by omega, Nat.mod_eq_of_lt hm2]
      exact decide_eq_true h0
    rw [this]; rfl
  · unfold tinyQ
    rw [if_neg h0, if_neg (by unfold tpI; omega), if_pos (by unfold tpI; omega)]
theorem dnear_calls (s : Bool) (a : Option Addr) (len cap : Nat) (xs : List Int) (e : Int) (w : World) (h : IsW w a len cap xs) (hm : len ≤ 17592186044000) (hg : greatB (val xs) = false) (he : -32768 ≤ e ∧ e ≤ 32768) :
    Calls Tryz.prog 98 #[dyV s a len cap e] w fun r w' => r = .returned (.agg #[.int .u64 (nearB s (val xs) e), .int .u8 (flD (val xs) e)]) ∧ Below w.heap.size w w' := by
  by_cases h0 : val xs = 0
  · have e1 : nearB s (val xs) e = 0 := by unfold nearB nearW; rw [h0]; simp
    have e2 : flD (val xs) e = 0 := by unfold flD; rw [if_pos h0]
    rw [e1, e2]
    exact dn_A_000 s a len cap xs e w h hm hg he h0
  · have eN : nearB s (val xs) e = if s = true then negV (nearW (val xs) e) else nearW (val xs) e := by
      unfold nearB
      cases s <;> simp [h0]
    by_cases k1 : 1024 < tpI (val xs) e + 1
    · have n1 : nearW (val xs) e = 9218868437227405312 := by unfold nearW; rw [if_neg h0, if_pos (by omega)]
      have e2 : flD (val xs) e = 20 := by unfold flD; rw [if_neg h0, if_pos n1]
      have ht : tinyQ (val xs) e = false := inf_tiny _ _ n1
      rw [eN, n1, e2]
      exact dn_B_101 s a len cap xs e w h hm hg he h0 k1 ht
    · by_cases k2 : tpI (val xs) e + 1 < -1074
      · obtain ⟨n1, n2, n3⟩ := near_low (val xs) e h0 k2
        have e2 : flD (val xs) e = 24 := by unfold flD; rw [if_neg h0, n1, if_neg (by decide), n2, n3]; rfl
        rw [eN, n1, e2]
        exact dn_C_110 s a len cap xs e w h hm hg he h0 k2 n3
      · have hU := (near_ch (val xs) e).2.2.2
        have hx : exactB (val xs) e = !ls2 (val xs) (lsI (val xs) e - e) := by unfold exactB; rw [if_neg h0, if_neg (by omega)]
        by_cases k3 : 53 < blen (rd2 (val xs) (lsI (val xs) e - e))
        · obtain ⟨p1, p2⟩ := put_two (val xs) e h0 (by omega) k3
          by_cases hi : nearW (val xs) e = 9218868437227405312
          · have ht : tinyQ (val xs) e = false := inf_tiny _ _ hi
            have e2 : flD (val xs) e = 20 := by unfold flD; rw [if_neg h0, if_pos hi]
            rw [eN, e2]
            exact dn_D2_101 s a len cap xs e w h hm hg he h0 k1 k2 k3 p2 ht _ p1 hi hU
          · cases ht : tinyQ (val xs) e with
            | true =>
              have e2 : flD (val xs) e = 24 := by unfold flD; rw [if_neg h0, if_neg hi, hx, p2, ht]; rfl
              rw [eN, e2]
              exact dn_D2_110 s a len cap xs e w h hm hg he h0 k1 k2 k3 p2 ht _ p1 hi hU
            | false =>
              have e2 : flD (val xs) e = 16 := by unfold flD; rw [if_neg h0, if_neg hi, hx, p2, ht]; rfl
              rw [eN, e2]
              exact dn_D2_100 s a len cap xs e w h hm hg he h0 k1 k2 k3 p2 ht _ p1 hi hU
        · obtain ⟨p1, hi⟩ := put_one (val xs) e h0 (by omega) k3
          cases hl : ls2 (val xs) (lsI (val xs) e - e) with
          | false =>
            have e2 : flD (val xs) e = 0 := by unfold flD; rw [if_neg h0, if_neg hi, hx, hl]; rfl
            rw [eN, e2]
            exact dn_D1_000 s a len cap xs e w h hm hg he h0 k1 k2 k3 hl _ p1 hi hU
          | true =>
            cases ht : tinyQ (val xs) e with
            | true =>
              have e2 : flD (val xs) e = 24 := by unfold flD; rw [if_neg h0, if_neg hi, hx, hl, ht]; rfl
              rw [eN, e2]
              exact dn_D1_110 s a len cap xs e w h hm hg he h0 k1 k2 k3 hl ht _ p1 hi hU
            | false =>
              have e2 : flD (val xs) e = 16 := by unfold flD; rw [if_neg h0, if_neg hi, hx, hl, ht]; rfl
              rw [eN, e2]
              exact dn_D1_100 s a len cap xs e w h hm hg he h0 k1 k2 k3 hl ht _ p1 hi hU
theorem abs_near (s : Bool) (m : Nat) (e : Int) : absV (nearB s m e) = nearW m e := by
  have hb := nearW_bd m e
  unfold nearB absV negV
  split <;> omega
theorem exact_fin (m : Nat) (e : Int) (h0 : m ≠ 0) (h : exactB m e = true) : nearW m e ≠ 9218868437227405312 := by
  unfold exactB at h
  rw [if_neg h0] at h
  split at h
  · cases h
  · rename_i h1
    have hu := up_lost m (lsI m e - e) (by simpa using h)
    have a2 := ls_top m e (by omega)
    have hM := M_lt m e
    unfold nearW
    rw [if_neg h0, if_neg h1]
    unfold rd2
    rw [hu]
    simp
    omega
theorem fl_same (s : Bool) (m : Nat) (e : Int) (he : -32768 ≤ e) : flD m e = if exactB m e = true then 0 else inxF (nearB s m e) (tinyP m e) := by
  by_cases h0 : m = 0
  · unfold flD exactB; rw [if_pos h0, if_pos h0]; rfl
  · unfold flD inxF
    rw [if_neg h0, abs_near, tiny_same m e he h0]
    cases hx : exactB m e with
    | true => rw [if_neg (exact_fin m e h0 hx)]; rfl
    | false =>
      by_cases hi : nearW m e = 9218868437227405312
      · rw [if_pos hi, if_pos hi, inf_tiny m e hi]; rfl
      · rw [if_neg hi, if_neg hi]
end Go.Proofs.YtfgemlgmhlidmaaGreatDoor

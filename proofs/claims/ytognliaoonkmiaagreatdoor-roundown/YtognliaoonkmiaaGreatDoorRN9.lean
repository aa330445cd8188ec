/- Package ulpref05: near, path by path. -/
import Derived.Test.YtognliaoonkmiaaGreatDoorRNZ
namespace Go.Proofs.YtognliaoonkmiaaGreatDoor
open Go.RowKit

theorem near0 (s : Bool) (a : Option Addr) (len cap : Nat) (e : Int) (w : World) : Below w.heap.size w (((w.alloc (.cells #[.bool s, .slice a len cap, .int .i64 e] 25)).alloc (.cells #[.int .u64 0, .int .u8 0] 31)).alloc (.cells #[.int .u64 0, .int .u8 0] 31)) ∧ (((w.alloc (.cells #[.bool s, .slice a len cap, .int .i64 e] 25)).alloc (.cells #[.int .u64 0, .int .u8 0] 31)).alloc (.cells #[.int .u64 0, .int .u8 0] 31)).cell? ⟨w.heap.size, 0, none⟩ = some (.bool s) ∧ (((w.alloc (.cells #[.bool s, .slice a len cap, .int .i64 e] 25)).alloc (.cells #[.int .u64 0, .int .u8 0] 31)).alloc (.cells #[.int .u64 0, .int .u8 0] 31)).cell? ⟨w.heap.size, 1, none⟩ = some (.slice a len cap) ∧ (((w.alloc (.cells #[.bool s, .slice a len cap, .int .i64 e] 25)).alloc (.cells #[.int .u64 0, .int .u8 0] 31)).alloc (.cells #[.int .u64 0, .int .u8 0] 31)).cell? ⟨w.heap.size, 2, none⟩ = some (.int .i64 e) ∧ (((w.alloc (.cells #[.bool s, .slice a len cap, .int .i64 e] 25)).alloc (.cells #[.int .u64 0, .int .u8 0] 31)).alloc (.cells #[.int .u64 0, .int .u8 0] 31)).cell? ⟨w.heap.size + 1, 0, none⟩ = some (.int .u64 0) ∧ (((w.alloc (.cells #[.bool s, .slice a len cap, .int .i64 e] 25)).alloc (.cells #[.int .u64 0, .int .u8 0] 31)).alloc (.cells #[.int .u64 0, .int .u8 0] 31)).cell? ⟨w.heap.size + 1, 1, none⟩ = some (.int .u8 0) ∧ (((w.alloc (.cells #[.bool s, .slice a len cap, .int .i64 e] 25)).alloc (.cells #[.int .u64 0, .int .u8 0] 31)).alloc (.cells #[.int .u64 0, .int .u8 0] 31)).frozen? ⟨w.heap.size + 1, 0, none⟩ = false ∧ (((w.alloc (.cells #[.bool s, .slice a len cap, .int .i64 e] 25)).alloc (.cells #[.int .u64 0, .int .u8 0] 31)).alloc (.cells #[.int .u64 0, .int .u8 0] 31)).frozen? ⟨w.heap.size + 1, 1, none⟩ = false ∧ (((w.alloc (.cells #[.bool s, .slice a len cap, .int .i64 e] 25)).alloc (.cells #[.int .u64 0, .int .u8 0] 31)).alloc (.cells #[.int .u64 0, .int .u8 0] 31)).cell? ⟨w.heap.size + 1 + 1, 0, none⟩ = some (.int .u64 0) ∧ (((w.alloc (.cells #[.bool s, .slice a len cap, .int .i64 e] 25)).alloc (.cells #[.int .u64 0, .int .u8 0] 31)).alloc (.cells #[.int .u64 0, .int .u8 0] 31)).cell? ⟨w.heap.size + 1 + 1, 1, none⟩ = some (.int .u8 0) ∧ (((w.alloc (.cells #[.bool s, .slice a len cap, .int .i64 e] 25)).alloc (.cells #[.int .u64 0, .int .u8 0] 31)).alloc (.cells #[.int .u64 0, .int .u8 0] 31)).frozen? ⟨w.heap.size + 1 + 1, 0, none⟩ = false ∧ (((w.alloc (.cells #[.bool s, .slice a len cap, .int .i64 e] 25)).alloc (.cells #[.int .u64 0, .int .u8 0] 31)).alloc (.cells #[.int .u64 0, .int .u8 0] 31)).frozen? ⟨w.heap.size + 1 + 1, 1, none⟩ = false :=
  ⟨nT (nT (below_one _ _) (below_one _ _)) (below_one _ _), by go_simp, by go_simp, by go_simp, by go_simp, by go_simp, by go_simp, by go_simp, by go_simp, by go_simp, by go_simp, by go_simp⟩

set_option maxRecDepth 100000 in
set_option maxHeartbeats 4000000 in
theorem dn_A_000 (s : Bool) (a : Option Addr) (len cap : Nat) (xs : List Int) (e : Int) (w : World) (h : IsW w a len cap xs) (hm : len ≤ 17592186044000) (_hg : greatB (val xs) = false) (_he : -32768 ≤ e ∧ e ≤ 32768) (h0 : val xs = 0) :
    Calls Tryz.prog 21 #[dyV s a len cap e] w fun r w' => r = .returned (.agg #[.int .u64 0, .int .u8 0]) ∧ Below w.heap.size w w' := by
  have h00 : IsW w a len cap xs := h
  have HL : Hid _ := fun w' (h' : IsW w' a len cap xs) => nLen_calls a len cap xs w' h' (by omega)
  rw [h0, blen_zero] at HL
  clear h0 _hg _he
  obtain ⟨bA, c1, c2, c3, z0, z1, f0, f1, r0, r1, g0, g1⟩ := near0 s a len cap e w
  have hI := h.keep bA
  clear h
  go_enter Tryz.func21, Tryz.ntmps21
  go_wp2_with fail
  generalize (((w.alloc (.cells #[.bool s, .slice a len cap, .int .i64 e] 25)).alloc (.cells #[.int .u64 0, .int .u8 0] 31)).alloc (.cells #[.int .u64 0, .int .u8 0] 31)) = w0 at *
  refine Calls.mono (HL.out _ hI) ?_
  rintro r w1 ⟨rfl, bN⟩
  replace f0 := kF bN z0 f0
  replace f1 := kF bN z1 f1
  replace g0 := kF bN r0 g0
  replace g1 := kF bN r1 g1
  replace c1 := kC bN c1
  replace c2 := kC bN c2
  replace c3 := kC bN c3
  replace z0 := kC bN z0
  replace z1 := kC bN z1
  replace r0 := kC bN r0
  replace r1 := kC bN r1
  replace hI := IsW.keep hI bN
  replace bA := nT bA bN
  clear bN
  go_wp2_with fail
  exact bodyPost_ret (v := .agg #[.int .u64 0, .int .u8 0]) (by simp [results, Tryz.results21, go_sem, z0, z1]) rfl ⟨rfl, by repeat (first | exact bA | refine Below.setCell ?_ (by first | (show w.heap.size ≤ w.heap.size + 1; omega) | (show w.heap.size ≤ w.heap.size + 1 + 1; omega)) _)⟩

set_option maxRecDepth 100000 in
set_option maxHeartbeats 4000000 in
theorem dn_B_101 (s : Bool) (a : Option Addr) (len cap : Nat) (xs : List Int) (e : Int) (w : World) (h : IsW w a len cap xs) (hm : len ≤ 17592186044000) (hg : greatB (val xs) = false) (he : -32768 ≤ e ∧ e ≤ 32768) (h0 : val xs ≠ 0) (k1 : 1024 < tpI (val xs) e + 1) (hty : tinyQ (val xs) e = false) :
    Calls Tryz.prog 21 #[dyV s a len cap e] w fun r w' => r = .returned (.agg #[.int .u64 (if s = true then negV 9218868437227405312 else 9218868437227405312), .int .u8 20]) ∧ Below w.heap.size w w' := by
  have h00 : IsW w a len cap xs := h
  have HL : Hid _ := fun w' (h' : IsW w' a len cap xs) => nLen_calls a len cap xs w' h' (by omega)
  have HT : Hid _ := fun w' (h' : IsW w' a len cap xs) => rtop_calls s a len cap xs e w' h' (by omega) hg he
  have HTi : Hid _ := fun w' (h' : IsW w' a len cap xs) => rtiny_calls s a len cap xs e w' h' hm hg he
  have o8 : bits .or .u8 16 8 = 24 := by decide +kernel
  have hbl := (great_not _).1 hg
  have htb : Hid (-32769 ≤ tpI (val xs) e ∧ tpI (val xs) e ≤ 98304) := by rw [Hid]; unfold tpI; omega
  have hz : ((blen (val xs) : Int) == 0) = false := by
    have : blen (val xs) ≠ 0 := fun q => h0 ((blen_nil _).1 q)
    simp; omega
  have hz' : (blen (val xs) : Int) ≠ 0 := by simpa using hz
  rw [hty] at HTi
  have HN : Hid _ := fun w => rNeg_calls 9218868437227405312 w ⟨by decide, by decide⟩
  have W1 : IntKind.i64.wrap (tpI (val xs) e + 1 - 53) = tpI (val xs) e - 52 := by have := htb.out; rw [IntKind.wrap_i64]; omega
  generalize tpI (val xs) e + 1 = tp at *
  generalize tpI (val xs) e - 52 = l0 at *
  generalize (blen (val xs) : Int) = bl at *
  generalize tinyQ (val xs) e = tq at *
  clear h0 hg he hbl hty
  obtain ⟨bA, c1, c2, c3, z0, z1, f0, f1, r0, r1, g0, g1⟩ := near0 s a len cap e w
  have hI := h.keep bA
  clear h
  go_enter Tryz.func21, Tryz.ntmps21
  go_wp2_with fail
  generalize (((w.alloc (.cells #[.bool s, .slice a len cap, .int .i64 e] 25)).alloc (.cells #[.int .u64 0, .int .u8 0] 31)).alloc (.cells #[.int .u64 0, .int .u8 0] 31)) = w0 at *
  refine Calls.mono (HL.out _ hI) ?_
  rintro r w1 ⟨rfl, bN⟩
  replace f0 := kF bN z0 f0
  replace f1 := kF bN z1 f1
  replace g0 := kF bN r0 g0
  replace g1 := kF bN r1 g1
  replace c1 := kC bN c1
  replace c2 := kC bN c2
  replace c3 := kC bN c3
  replace z0 := kC bN z0
  replace z1 := kC bN z1
  replace r0 := kC bN r0
  replace r1 := kC bN r1
  replace hI := IsW.keep hI bN
  replace bA := nT bA bN
  clear bN
  go_wp2_with fail
  refine Calls.mono (HT.out _ hI) ?_
  rintro r w2 ⟨rfl, bN⟩
  replace f0 := kF bN z0 f0
  replace f1 := kF bN z1 f1
  replace g0 := kF bN r0 g0
  replace g1 := kF bN r1 g1
  replace c1 := kC bN c1
  replace c2 := kC bN c2
  replace c3 := kC bN c3
  replace z0 := kC bN z0
  replace z1 := kC bN z1
  replace r0 := kC bN r0
  replace r1 := kC bN r1
  replace hI := IsW.keep hI bN
  replace bA := nT bA bN
  clear bN
  go_wp2_with fail
  refine Calls.mono (HT.out _ hI) ?_
  rintro r w3 ⟨rfl, bN⟩
  replace f0 := kF bN z0 f0
  replace f1 := kF bN z1 f1
  replace g0 := kF bN r0 g0
  replace g1 := kF bN r1 g1
  replace c1 := kC bN c1
  replace c2 := kC bN c2
  replace c3 := kC bN c3
  replace z0 := kC bN z0
  replace z1 := kC bN z1
  replace r0 := kC bN r0
  replace r1 := kC bN r1
  replace hI := IsW.keep hI bN
  replace bA := nT bA bN
  clear bN
  go_wp2_with fail
  have bS : Below (w.heap.size + 1 + 1) w3 ((w3.setCell ⟨w.heap.size + 1 + 1, 0, none⟩ (.int .u64 9218868437227405312)).setCell ⟨w.heap.size + 1 + 1, 1, none⟩ (.int .u8 16)) := (((Below.refl _ _).setCell (p := ⟨w.heap.size + 1 + 1, 0, none⟩) (Nat.le_refl _) _).setCell (p := ⟨w.heap.size + 1 + 1, 1, none⟩) (Nat.le_refl _) _)
  replace c1 := (bS.cell (p := ⟨w.heap.size, 0, none⟩) (show w.heap.size < w.heap.size + 1 + 1 by omega)).trans c1
  replace c2 := (bS.cell (p := ⟨w.heap.size, 1, none⟩) (show w.heap.size < w.heap.size + 1 + 1 by omega)).trans c2
  replace c3 := (bS.cell (p := ⟨w.heap.size, 2, none⟩) (show w.heap.size < w.heap.size + 1 + 1 by omega)).trans c3
  replace f0 := (bS.frozen (p := ⟨w.heap.size + 1, 0, none⟩) (show w.heap.size + 1 < w.heap.size + 1 + 1 by omega)).trans f0
  replace z0 := (bS.cell (p := ⟨w.heap.size + 1, 0, none⟩) (show w.heap.size + 1 < w.heap.size + 1 + 1 by omega)).trans z0
  replace f1 := (bS.frozen (p := ⟨w.heap.size + 1, 1, none⟩) (show w.heap.size + 1 < w.heap.size + 1 + 1 by omega)).trans f1
  replace z1 := (bS.cell (p := ⟨w.heap.size + 1, 1, none⟩) (show w.heap.size + 1 < w.heap.size + 1 + 1 by omega)).trans z1
  have nr0 : ((w3.setCell ⟨w.heap.size + 1 + 1, 0, none⟩ (.int .u64 9218868437227405312)).setCell ⟨w.heap.size + 1 + 1, 1, none⟩ (.int .u8 16)).cell? ⟨w.heap.size + 1 + 1, 0, none⟩ = some (.int .u64 9218868437227405312) := by go_simp
  have nr1 : ((w3.setCell ⟨w.heap.size + 1 + 1, 0, none⟩ (.int .u64 9218868437227405312)).setCell ⟨w.heap.size + 1 + 1, 1, none⟩ (.int .u8 16)).cell? ⟨w.heap.size + 1 + 1, 1, none⟩ = some (.int .u8 16) := by go_simp
  have ng0 : ((w3.setCell ⟨w.heap.size + 1 + 1, 0, none⟩ (.int .u64 9218868437227405312)).setCell ⟨w.heap.size + 1 + 1, 1, none⟩ (.int .u8 16)).frozen? ⟨w.heap.size + 1 + 1, 0, none⟩ = false := by go_simp
  have ng1 : ((w3.setCell ⟨w.heap.size + 1 + 1, 0, none⟩ (.int .u64 9218868437227405312)).setCell ⟨w.heap.size + 1 + 1, 1, none⟩ (.int .u8 16)).frozen? ⟨w.heap.size + 1 + 1, 1, none⟩ = false := by go_simp
  have nbA : Below w.heap.size w ((w3.setCell ⟨w.heap.size + 1 + 1, 0, none⟩ (.int .u64 9218868437227405312)).setCell ⟨w.heap.size + 1 + 1, 1, none⟩ (.int .u8 16)) := Below.setCell (Below.setCell (bA) (show w.heap.size ≤ w.heap.size + 1 + 1 by omega) _) (show w.heap.size ≤ w.heap.size + 1 + 1 by omega) _
  replace hI := IsW.keep h00 nbA
  clear bS r0 r1 g0 g1 bA
  generalize ((w3.setCell ⟨w.heap.size + 1 + 1, 0, none⟩ (.int .u64 9218868437227405312)).setCell ⟨w.heap.size + 1 + 1, 1, none⟩ (.int .u8 16)) = w4 at *
  have r0 := nr0
  have r1 := nr1
  have g0 := ng0
  have g1 := ng1
  have bA := nbA
  clear nr0 nr1 ng0 ng1 nbA
  refine Calls.mono (HTi.out _ hI) ?_
  rintro r w5 ⟨rfl, bN⟩
  replace f0 := kF bN z0 f0
  replace f1 := kF bN z1 f1
  replace g0 := kF bN r0 g0
  replace g1 := kF bN r1 g1
  replace c1 := kC bN c1
  replace c2 := kC bN c2
  replace c3 := kC bN c3
  replace z0 := kC bN z0
  replace z1 := kC bN z1
  replace r0 := kC bN r0
  replace r1 := kC bN r1
  replace hI := IsW.keep hI bN
  replace bA := nT bA bN
  clear bN
  cases s
  · go_wp2_with fail
    exact bodyPost_ret (v := .agg #[.int .u64 9218868437227405312, .int .u8 20]) (by simp [results, Tryz.results21, go_sem, z0, z1]) rfl ⟨rfl, by repeat (first | exact bA | refine Below.setCell ?_ (by first | (show w.heap.size ≤ w.heap.size + 1; omega) | (show w.heap.size ≤ w.heap.size + 1 + 1; omega)) _)⟩
  · go_wp2_with fail
    refine Calls.mono (HN.out _) ?_
    rintro r wz ⟨rfl, rfl⟩
    go_wp2_with fail
    exact bodyPost_ret (v := .agg #[.int .u64 (negV 9218868437227405312), .int .u8 20]) (by simp [results, Tryz.results21, go_sem, z0, z1]) rfl ⟨rfl, by repeat (first | exact bA | refine Below.setCell ?_ (by first | (show w.heap.size ≤ w.heap.size + 1; omega) | (show w.heap.size ≤ w.heap.size + 1 + 1; omega)) _)⟩

set_option maxRecDepth 100000 in
set_option maxHeartbeats 4000000 in
theorem dn_C_110 (s : Bool) (a : Option Addr) (len cap : Nat) (xs : List Int) (e : Int) (w : World) (h : IsW w a len cap xs) (hm : len ≤ 17592186044000) (hg : greatB (val xs) = false) (he : -32768 ≤ e ∧ e ≤ 32768) (h0 : val xs ≠ 0) (k2 : tpI (val xs) e + 1 < -1074) (hty : tinyQ (val xs) e = true) :
    Calls Tryz.prog 21 #[dyV s a len cap e] w fun r w' => r = .returned (.agg #[.int .u64 (if s = true then negV 0 else 0), .int .u8 24]) ∧ Below w.heap.size w w' := by
  have h00 : IsW w a len cap xs := h
  have HL : Hid _ := fun w' (h' : IsW w' a len cap xs) => nLen_calls a len cap xs w' h' (by omega)
  have HT : Hid _ := fun w' (h' : IsW w' a len cap xs) => rtop_calls s a len cap xs e w' h' (by omega) hg he
  have HTi : Hid _ := fun w' (h' : IsW w' a len cap xs) => rtiny_calls s a len cap xs e w' h' hm hg he
  have o8 : bits .or .u8 16 8 = 24 := by decide +kernel
  have hbl := (great_not _).1 hg
  have htb : Hid (-32769 ≤ tpI (val xs) e ∧ tpI (val xs) e ≤ 98304) := by rw [Hid]; unfold tpI; omega
  have hz : ((blen (val xs) : Int) == 0) = false := by
    have : blen (val xs) ≠ 0 := fun q => h0 ((blen_nil _).1 q)
    simp; omega
  have hz' : (blen (val xs) : Int) ≠ 0 := by simpa using hz
  rw [hty] at HTi
  have HN : Hid _ := fun w => rNeg_calls 0 w ⟨by decide, by decide⟩
  have W1 : IntKind.i64.wrap (tpI (val xs) e + 1 - 53) = tpI (val xs) e - 52 := by have := htb.out; rw [IntKind.wrap_i64]; omega
  have k1 : ¬ (1024 < tpI (val xs) e + 1) := by omega
  generalize tpI (val xs) e + 1 = tp at *
  generalize tpI (val xs) e - 52 = l0 at *
  generalize (blen (val xs) : Int) = bl at *
  generalize tinyQ (val xs) e = tq at *
  clear h0 hg he hbl hty
  obtain ⟨bA, c1, c2, c3, z0, z1, f0, f1, r0, r1, g0, g1⟩ := near0 s a len cap e w
  have hI := h.keep bA
  clear h
  go_enter Tryz.func21, Tryz.ntmps21
  go_wp2_with fail
  generalize (((w.alloc (.cells #[.bool s, .slice a len cap, .int .i64 e] 25)).alloc (.cells #[.int .u64 0, .int .u8 0] 31)).alloc (.cells #[.int .u64 0, .int .u8 0] 31)) = w0 at *
  refine Calls.mono (HL.out _ hI) ?_
  rintro r w1 ⟨rfl, bN⟩
  replace f0 := kF bN z0 f0
  replace f1 := kF bN z1 f1
  replace g0 := kF bN r0 g0
  replace g1 := kF bN r1 g1
  replace c1 := kC bN c1
  replace c2 := kC bN c2
  replace c3 := kC bN c3
  replace z0 := kC bN z0
  replace z1 := kC bN z1
  replace r0 := kC bN r0
  replace r1 := kC bN r1
  replace hI := IsW.keep hI bN
  replace bA := nT bA bN
  clear bN
  go_wp2_with fail
  refine Calls.mono (HT.out _ hI) ?_
  rintro r w2 ⟨rfl, bN⟩
  replace f0 := kF bN z0 f0
  replace f1 := kF bN z1 f1
  replace g0 := kF bN r0 g0
  replace g1 := kF bN r1 g1
  replace c1 := kC bN c1
  replace c2 := kC bN c2
  replace c3 := kC bN c3
  replace z0 := kC bN z0
  replace z1 := kC bN z1
  replace r0 := kC bN r0
  replace r1 := kC bN r1
  replace hI := IsW.keep hI bN
  replace bA := nT bA bN
  clear bN
  go_wp2_with fail
  refine Calls.mono (HT.out _ hI) ?_
  rintro r w3 ⟨rfl, bN⟩
  replace f0 := kF bN z0 f0
  replace f1 := kF bN z1 f1
  replace g0 := kF bN r0 g0
  replace g1 := kF bN r1 g1
  replace c1 := kC bN c1
  replace c2 := kC bN c2
  replace c3 := kC bN c3
  replace z0 := kC bN z0
  replace z1 := kC bN z1
  replace r0 := kC bN r0
  replace r1 := kC bN r1
  replace hI := IsW.keep hI bN
  replace bA := nT bA bN
  clear bN
  go_wp2_with fail
  refine Calls.mono (HT.out _ hI) ?_
  rintro r w4 ⟨rfl, bN⟩
  replace f0 := kF bN z0 f0
  replace f1 := kF bN z1 f1
  replace g0 := kF bN r0 g0
  replace g1 := kF bN r1 g1
  replace c1 := kC bN c1
  replace c2 := kC bN c2
  replace c3 := kC bN c3
  replace z0 := kC bN z0
  replace z1 := kC bN z1
  replace r0 := kC bN r0
  replace r1 := kC bN r1
  replace hI := IsW.keep hI bN
  replace bA := nT bA bN
  clear bN
  go_wp2_with fail
  have bS : Below (w.heap.size + 1 + 1) w4 ((w4.setCell ⟨w.heap.size + 1 + 1, 0, none⟩ (.int .u64 0)).setCell ⟨w.heap.size + 1 + 1, 1, none⟩ (.int .u8 16)) := (((Below.refl _ _).setCell (p := ⟨w.heap.size + 1 + 1, 0, none⟩) (Nat.le_refl _) _).setCell (p := ⟨w.heap.size + 1 + 1, 1, none⟩) (Nat.le_refl _) _)
  replace c1 := (bS.cell (p := ⟨w.heap.size, 0, none⟩) (show w.heap.size < w.heap.size + 1 + 1 by omega)).trans c1
  replace c2 := (bS.cell (p := ⟨w.heap.size, 1, none⟩) (show w.heap.size < w.heap.size + 1 + 1 by omega)).trans c2
  replace c3 := (bS.cell (p := ⟨w.heap.size, 2, none⟩) (show w.heap.size < w.heap.size + 1 + 1 by omega)).trans c3
  replace f0 := (bS.frozen (p := ⟨w.heap.size + 1, 0, none⟩) (show w.heap.size + 1 < w.heap.size + 1 + 1 by omega)).trans f0
  replace z0 := (bS.cell (p := ⟨w.heap.size + 1, 0, none⟩) (show w.heap.size + 1 < w.heap.size + 1 + 1 by omega)).trans z0
  replace f1 := (bS.frozen (p := ⟨w.heap.size + 1, 1, none⟩) (show w.heap.size + 1 < w.heap.size + 1 + 1 by omega)).trans f1
  replace z1 := (bS.cell (p := ⟨w.heap.size + 1, 1, none⟩) (show w.heap.size + 1 < w.heap.size + 1 + 1 by omega)).trans z1
  have nr0 : ((w4.setCell ⟨w.heap.size + 1 + 1, 0, none⟩ (.int .u64 0)).setCell ⟨w.heap.size + 1 + 1, 1, none⟩ (.int .u8 16)).cell? ⟨w.heap.size + 1 + 1, 0, none⟩ = some (.int .u64 0) := by go_simp
  have nr1 : ((w4.setCell ⟨w.heap.size + 1 + 1, 0, none⟩ (.int .u64 0)).setCell ⟨w.heap.size + 1 + 1, 1, none⟩ (.int .u8 16)).cell? ⟨w.heap.size + 1 + 1, 1, none⟩ = some (.int .u8 16) := by go_simp
  have ng0 : ((w4.setCell ⟨w.heap.size + 1 + 1, 0, none⟩ (.int .u64 0)).setCell ⟨w.heap.size + 1 + 1, 1, none⟩ (.int .u8 16)).frozen? ⟨w.heap.size + 1 + 1, 0, none⟩ = false := by go_simp
  have ng1 : ((w4.setCell ⟨w.heap.size + 1 + 1, 0, none⟩ (.int .u64 0)).setCell ⟨w.heap.size + 1 + 1, 1, none⟩ (.int .u8 16)).frozen? ⟨w.heap.size + 1 + 1, 1, none⟩ = false := by go_simp
  have nbA : Below w.heap.size w ((w4.setCell ⟨w.heap.size + 1 + 1, 0, none⟩ (.int .u64 0)).setCell ⟨w.heap.size + 1 + 1, 1, none⟩ (.int .u8 16)) := Below.setCell (Below.setCell (bA) (show w.heap.size ≤ w.heap.size + 1 + 1 by omega) _) (show w.heap.size ≤ w.heap.size + 1 + 1 by omega) _
  replace hI := IsW.keep h00 nbA
  clear bS r0 r1 g0 g1 bA
  generalize ((w4.setCell ⟨w.heap.size + 1 + 1, 0, none⟩ (.int .u64 0)).setCell ⟨w.heap.size + 1 + 1, 1, none⟩ (.int .u8 16)) = w5 at *
  have r0 := nr0
  have r1 := nr1
  have g0 := ng0
  have g1 := ng1
  have bA := nbA
  clear nr0 nr1 ng0 ng1 nbA
  refine Calls.mono (HTi.out _ hI) ?_
  rintro r w6 ⟨rfl, bN⟩
  replace f0 := kF bN z0 f0
  replace f1 := kF bN z1 f1
  replace g0 := kF bN r0 g0
  replace g1 := kF bN r1 g1
  replace c1 := kC bN c1
  replace c2 := kC bN c2
  replace c3 := kC bN c3
  replace z0 := kC bN z0
  replace z1 := kC bN z1
  replace r0 := kC bN r0
  replace r1 := kC bN r1
  replace hI := IsW.keep hI bN
  replace bA := nT bA bN
  clear bN
  cases s
  · go_wp2_with fail
    exact bodyPost_ret (v := .agg #[.int .u64 0, .int .u8 24]) (by simp [results, Tryz.results21, go_sem, z0, z1]) rfl ⟨rfl, by repeat (first | exact bA | refine Below.setCell ?_ (by first | (show w.heap.size ≤ w.heap.size + 1; omega) | (show w.heap.size ≤ w.heap.size + 1 + 1; omega)) _)⟩
  · go_wp2_with fail
    refine Calls.mono (HN.out _) ?_
    rintro r wz ⟨rfl, rfl⟩
    go_wp2_with fail
    exact bodyPost_ret (v := .agg #[.int .u64 (negV 0), .int .u8 24]) (by simp [results, Tryz.results21, go_sem, z0, z1]) rfl ⟨rfl, by repeat (first | exact bA | refine Below.setCell ?_ (by first | (show w.heap.size ≤ w.heap.size + 1; omega) | (show w.heap.size ≤ w.heap.size + 1 + 1; omega)) _)⟩

set_option maxRecDepth 100000 in
set_option maxHeartbeats 4000000 in
theorem dn_D1_000 (s : Bool) (a : Option Addr) (len cap : Nat) (xs : List Int) (e : Int) (w : World) (h : IsW w a len cap xs) (hm : len ≤ 17592186044000) (hg : greatB (val xs) = false) (he : -32768 ≤ e ∧ e ≤ 32768) (h0 : val xs ≠ 0) (k1 : ¬ (1024 < tpI (val xs) e + 1)) (k2 : ¬ (tpI (val xs) e + 1 < -1074)) (k3 : ¬ (53 < blen (rd2 (val xs) (lsI (val xs) e - e)))) (hlo : ls2 (val xs) (lsI (val xs) e - e) = false) (B : Int) (hB : putV (rd2 (val xs) (lsI (val xs) e - e)) (lsI (val xs) e) = B) (hi : B ≠ 9218868437227405312) (hU : U B) :
    Calls Tryz.prog 21 #[dyV s a len cap e] w fun r w' => r = .returned (.agg #[.int .u64 (if s = true then negV B else B), .int .u8 0]) ∧ Below w.heap.size w w' := by
  have h00 : IsW w a len cap xs := h
  have HL : Hid _ := fun w' (h' : IsW w' a len cap xs) => nLen_calls a len cap xs w' h' (by omega)
  have HT : Hid _ := fun w' (h' : IsW w' a len cap xs) => rtop_calls s a len cap xs e w' h' (by omega) hg he
  have HTi : Hid _ := fun w' (h' : IsW w' a len cap xs) => rtiny_calls s a len cap xs e w' h' hm hg he
  have o8 : bits .or .u8 16 8 = 24 := by decide +kernel
  have hbl := (great_not _).1 hg
  have htb : Hid (-32769 ≤ tpI (val xs) e ∧ tpI (val xs) e ≤ 98304) := by rw [Hid]; unfold tpI; omega
  have hz : ((blen (val xs) : Int) == 0) = false := by
    have : blen (val xs) ≠ 0 := fun q => h0 ((blen_nil _).1 q)
    simp; omega
  have hz' : (blen (val xs) : Int) ≠ 0 := by simpa using hz
  have l1 := ls_low (val xs) e
  have l2 := ls_top (val xs) e (by omega)
  have l3 := ls_bits (val xs) e
  have hM := M_lt (val xs) e
  have hq : rd2 (val xs) (lsI (val xs) e - e) ≤ 9007199254740992 := by
    unfold rd2
    have : (up2 (val xs) (lsI (val xs) e - e)).toNat ≤ 1 := Bool.toNat_le _
    omega
  have hql := (rd_len (val xs) (lsI (val xs) e - e) 53 (by decide) l3).2
  have HC : Hid _ := fun w' (h' : IsW w' a len cap xs) => rcut_calls a len cap xs e (lsI (val xs) e) w' h' hm (by omega) (by omega) (by omega)
  rw [hlo] at HC
  have HN : Hid _ := fun w => rNeg_calls B w hU
  have W1 : IntKind.i64.wrap (tpI (val xs) e + 1 - 53) = tpI (val xs) e - 52 := by have := htb.out; rw [IntKind.wrap_i64]; omega
  have hls : max (tpI (val xs) e - 52) (-1074) = lsI (val xs) e := by unfold lsI; split <;> omega
  have W2 : IntKind.i64.wrap (lsI (val xs) e + 1) = lsI (val xs) e + 1 := by rw [IntKind.wrap_i64]; omega
  have HLq : Hid _ := fun ao n c w' (h' : IsW w' ao n c (wordsOf (rd2 (val xs) (lsI (val xs) e - e)))) hn => nLen_calls ao n c (wordsOf (rd2 (val xs) (lsI (val xs) e - e))) w' h' hn
  rw [val_words] at HLq
  have HP : Hid _ := fun ao n c w' (h' : IsW w' ao n c (wordsOf (rd2 (val xs) (lsI (val xs) e - e)))) => put_calls ao n c _ (lsI (val xs) e) w' h' hq (by omega)
  have k3' : ¬ (53 : Int) < (blen (rd2 (val xs) (lsI (val xs) e - e)) : Int) := by omega
  rw [hB] at HP
  have Hql : Hid _ := hql
  clear hB k3 hlo l1 l2 l3 hM hq hql hU
  generalize rd2 (val xs) (lsI (val xs) e - e) = q at *
  generalize lsI (val xs) e = l at *
  generalize tpI (val xs) e + 1 = tp at *
  generalize tpI (val xs) e - 52 = l0 at *
  generalize (blen (val xs) : Int) = bl at *
  clear h0 hg he hbl
  obtain ⟨bA, c1, c2, c3, z0, z1, f0, f1, r0, r1, g0, g1⟩ := near0 s a len cap e w
  have hI := h.keep bA
  clear h
  go_enter Tryz.func21, Tryz.ntmps21
  go_wp2_with fail
  generalize (((w.alloc (.cells #[.bool s, .slice a len cap, .int .i64 e] 25)).alloc (.cells #[.int .u64 0, .int .u8 0] 31)).alloc (.cells #[.int .u64 0, .int .u8 0] 31)) = w0 at *
  refine Calls.mono (HL.out _ hI) ?_
  rintro r w1 ⟨rfl, bN⟩
  replace f0 := kF bN z0 f0
  replace f1 := kF bN z1 f1
  replace g0 := kF bN r0 g0
  replace g1 := kF bN r1 g1
  replace c1 := kC bN c1
  replace c2 := kC bN c2
  replace c3 := kC bN c3
  replace z0 := kC bN z0
  replace z1 := kC bN z1
  replace r0 := kC bN r0
  replace r1 := kC bN r1
  replace hI := IsW.keep hI bN
  replace bA := nT bA bN
  clear bN
  go_wp2_with fail
  refine Calls.mono (HT.out _ hI) ?_
  rintro r w2 ⟨rfl, bN⟩
  replace f0 := kF bN z0 f0
  replace f1 := kF bN z1 f1
  replace g0 := kF bN r0 g0
  replace g1 := kF bN r1 g1
  replace c1 := kC bN c1
  replace c2 := kC bN c2
  replace c3 := kC bN c3
  replace z0 := kC bN z0
  replace z1 := kC bN z1
  replace r0 := kC bN r0
  replace r1 := kC bN r1
  replace hI := IsW.keep hI bN
  replace bA := nT bA bN
  clear bN
  go_wp2_with fail
  refine Calls.mono (HT.out _ hI) ?_
  rintro r w3 ⟨rfl, bN⟩
  replace f0 := kF bN z0 f0
  replace f1 := kF bN z1 f1
  replace g0 := kF bN r0 g0
  replace g1 := kF bN r1 g1
  replace c1 := kC bN c1
  replace c2 := kC bN c2
  replace c3 := kC bN c3
  replace z0 := kC bN z0
  replace z1 := kC bN z1
  replace r0 := kC bN r0
  replace r1 := kC bN r1
  replace hI := IsW.keep hI bN
  replace bA := nT bA bN
  clear bN
  go_wp2_with fail
  refine Calls.mono (HT.out _ hI) ?_
  rintro r w4 ⟨rfl, bN⟩
  replace f0 := kF bN z0 f0
  replace f1 := kF bN z1 f1
  replace g0 := kF bN r0 g0
  replace g1 := kF bN r1 g1
  replace c1 := kC bN c1
  replace c2 := kC bN c2
  replace c3 := kC bN c3
  replace z0 := kC bN z0
  replace z1 := kC bN z1
  replace r0 := kC bN r0
  replace r1 := kC bN r1
  replace hI := IsW.keep hI bN
  replace bA := nT bA bN
  clear bN
  go_wp2_with fail
  refine Calls.mono (HC.out _ hI) ?_
  rintro r w5 ⟨v, rfl, ⟨ao, n, c, rfl, hN, hO⟩, bN⟩
  have HNq : Hid _ := hN
  have hOI := hO.1
  clear hN hO
  replace f0 := kF bN z0 f0
  replace f1 := kF bN z1 f1
  replace g0 := kF bN r0 g0
  replace g1 := kF bN r1 g1
  replace c1 := kC bN c1
  replace c2 := kC bN c2
  replace c3 := kC bN c3
  replace z0 := kC bN z0
  replace z1 := kC bN z1
  replace r0 := kC bN r0
  replace r1 := kC bN r1
  replace hI := IsW.keep hI bN
  replace bA := nT bA bN
  clear bN
  go_wp2_with fail
  refine Calls.mono (HLq.out _ _ _ _ hOI (by have := Hql.out; have := HNq.out; omega)) ?_
  rintro r w6 ⟨rfl, bN⟩
  replace hOI := IsW.keep hOI bN
  replace f0 := kF bN z0 f0
  replace f1 := kF bN z1 f1
  replace g0 := kF bN r0 g0
  replace g1 := kF bN r1 g1
  replace c1 := kC bN c1
  replace c2 := kC bN c2
  replace c3 := kC bN c3
  replace z0 := kC bN z0
  replace z1 := kC bN z1
  replace r0 := kC bN r0
  replace r1 := kC bN r1
  replace hI := IsW.keep hI bN
  replace bA := nT bA bN
  clear bN
  go_wp2_with fail
  refine Calls.mono (HP.out _ _ _ _ hOI) ?_
  rintro r wy ⟨rfl, rfl⟩
  cases s
  · go_wp2_with fail
    exact bodyPost_ret (v := .agg #[.int .u64 B, .int .u8 0]) (by simp [results, Tryz.results21, go_sem, z0, z1]) rfl ⟨rfl, by repeat (first | exact bA | refine Below.setCell ?_ (by first | (show w.heap.size ≤ w.heap.size + 1; omega) | (show w.heap.size ≤ w.heap.size + 1 + 1; omega)) _)⟩
  · go_wp2_with fail
    refine Calls.mono (HN.out _) ?_
    rintro r wz ⟨rfl, rfl⟩
    go_wp2_with fail
    exact bodyPost_ret (v := .agg #[.int .u64 (negV B), .int .u8 0]) (by simp [results, Tryz.results21, go_sem, z0, z1]) rfl ⟨rfl, by repeat (first | exact bA | refine Below.setCell ?_ (by first | (show w.heap.size ≤ w.heap.size + 1; omega) | (show w.heap.size ≤ w.heap.size + 1 + 1; omega)) _)⟩

set_option maxRecDepth 100000 in
set_option maxHeartbeats 4000000 in
theorem dn_D1_110 (s : Bool) (a : Option Addr) (len cap : Nat) (xs : List Int) (e : Int) (w : World) (h : IsW w a len cap xs) (hm : len ≤ 17592186044000) (hg : greatB (val xs) = false) (he : -32768 ≤ e ∧ e ≤ 32768) (h0 : val xs ≠ 0) (k1 : ¬ (1024 < tpI (val xs) e + 1)) (k2 : ¬ (tpI (val xs) e + 1 < -1074)) (k3 : ¬ (53 < blen (rd2 (val xs) (lsI (val xs) e - e)))) (hlo : ls2 (val xs) (lsI (val xs) e - e) = true) (hty : tinyQ (val xs) e = true) (B : Int) (hB : putV (rd2 (val xs) (lsI (val xs) e - e)) (lsI (val xs) e) = B) (hi : B ≠ 9218868437227405312) (hU : U B) :
    Calls Tryz.prog 21 #[dyV s a len cap e] w fun r w' => r = .returned (.agg #[.int .u64 (if s = true then negV B else B), .int .u8 24]) ∧ Below w.heap.size w w' := by
  have h00 : IsW w a len cap xs := h
  have HL : Hid _ := fun w' (h' : IsW w' a len cap xs) => nLen_calls a len cap xs w' h' (by omega)
  have HT : Hid _ := fun w' (h' : IsW w' a len cap xs) => rtop_calls s a len cap xs e w' h' (by omega) hg he
  have HTi : Hid _ := fun w' (h' : IsW w' a len cap xs) => rtiny_calls s a len cap xs e w' h' hm hg he
  have o8 : bits .or .u8 16 8 = 24 := by decide +kernel
  have hbl := (great_not _).1 hg
  have htb : Hid (-32769 ≤ tpI (val xs) e ∧ tpI (val xs) e ≤ 98304) := by rw [Hid]; unfold tpI; omega
  have hz : ((blen (val xs) : Int) == 0) = false := by
    have : blen (val xs) ≠ 0 := fun q => h0 ((blen_nil _).1 q)
    simp; omega
  have hz' : (blen (val xs) : Int) ≠ 0 := by simpa using hz
  rw [hty] at HTi
  have l1 := ls_low (val xs) e
  have l2 := ls_top (val xs) e (by omega)
  have l3 := ls_bits (val xs) e
  have hM := M_lt (val xs) e
  have hq : rd2 (val xs) (lsI (val xs) e - e) ≤ 9007199254740992 := by
    unfold rd2
    have : (up2 (val xs) (lsI (val xs) e - e)).toNat ≤ 1 := Bool.toNat_le _
    omega
  have hql := (rd_len (val xs) (lsI (val xs) e - e) 53 (by decide) l3).2
  have HC : Hid _ := fun w' (h' : IsW w' a len cap xs) => rcut_calls a len cap xs e (lsI (val xs) e) w' h' hm (by omega) (by omega) (by omega)
  rw [hlo] at HC
  have HN : Hid _ := fun w => rNeg_calls B w hU
  have W1 : IntKind.i64.wrap (tpI (val xs) e + 1 - 53) = tpI (val xs) e - 52 := by have := htb.out; rw [IntKind.wrap_i64]; omega
  have hls : max (tpI (val xs) e - 52) (-1074) = lsI (val xs) e := by unfold lsI; split <;> omega
  have W2 : IntKind.i64.wrap (lsI (val xs) e + 1) = lsI (val xs) e + 1 := by rw [IntKind.wrap_i64]; omega
  have HLq : Hid _ := fun ao n c w' (h' : IsW w' ao n c (wordsOf (rd2 (val xs) (lsI (val xs) e - e)))) hn => nLen_calls ao n c (wordsOf (rd2 (val xs) (lsI (val xs) e - e))) w' h' hn
  rw [val_words] at HLq
  have HP : Hid _ := fun ao n c w' (h' : IsW w' ao n c (wordsOf (rd2 (val xs) (lsI (val xs) e - e)))) => put_calls ao n c _ (lsI (val xs) e) w' h' hq (by omega)
  have k3' : ¬ (53 : Int) < (blen (rd2 (val xs) (lsI (val xs) e - e)) : Int) := by omega
  rw [hB] at HP
  have Hql : Hid _ := hql
  clear hB k3 hlo l1 l2 l3 hM hq hql hU hty
  generalize rd2 (val xs) (lsI (val xs) e - e) = q at *
  generalize lsI (val xs) e = l at *
  generalize tpI (val xs) e + 1 = tp at *
  generalize tpI (val xs) e - 52 = l0 at *
  generalize (blen (val xs) : Int) = bl at *
  clear h0 hg he hbl
  generalize tinyQ (val xs) e = tq at *
  obtain ⟨bA, c1, c2, c3, z0, z1, f0, f1, r0, r1, g0, g1⟩ := near0 s a len cap e w
  have hI := h.keep bA
  clear h
  go_enter Tryz.func21, Tryz.ntmps21
  go_wp2_with fail
  generalize (((w.alloc (.cells #[.bool s, .slice a len cap, .int .i64 e] 25)).alloc (.cells #[.int .u64 0, .int .u8 0] 31)).alloc (.cells #[.int .u64 0, .int .u8 0] 31)) = w0 at *
  refine Calls.mono (HL.out _ hI) ?_
  rintro r w1 ⟨rfl, bN⟩
  replace f0 := kF bN z0 f0
  replace f1 := kF bN z1 f1
  replace g0 := kF bN r0 g0
  replace g1 := kF bN r1 g1
  replace c1 := kC bN c1
  replace c2 := kC bN c2
  replace c3 := kC bN c3
  replace z0 := kC bN z0
  replace z1 := kC bN z1
  replace r0 := kC bN r0
  replace r1 := kC bN r1
  replace hI := IsW.keep hI bN
  replace bA := nT bA bN
  clear bN
  go_wp2_with fail
  refine Calls.mono (HT.out _ hI) ?_
  rintro r w2 ⟨rfl, bN⟩
  replace f0 := kF bN z0 f0
  replace f1 := kF bN z1 f1
  replace g0 := kF bN r0 g0
  replace g1 := kF bN r1 g1
  replace c1 := kC bN c1
  replace c2 := kC bN c2
  replace c3 := kC bN c3
  replace z0 := kC bN z0
  replace z1 := kC bN z1
  replace r0 := kC bN r0
  replace r1 := kC bN r1
  replace hI := IsW.keep hI bN
  replace bA := nT bA bN
  clear bN
  go_wp2_with fail
  refine Calls.mono (HT.out _ hI) ?_
  rintro r w3 ⟨rfl, bN⟩
  replace f0 := kF bN z0 f0
  replace f1 := kF bN z1 f1
  replace g0 := kF bN r0 g0
  replace g1 := kF bN r1 g1
  replace c1 := kC bN c1
  replace c2 := kC bN c2
  replace c3 := kC bN c3
  replace z0 := kC bN z0
  replace z1 := kC bN z1
  replace r0 := kC bN r0
  replace r1 := kC bN r1
  replace hI := IsW.keep hI bN
  replace bA := nT bA bN
  clear bN
  go_wp2_with fail
  refine Calls.mono (HT.out _ hI) ?_
  rintro r w4 ⟨rfl, bN⟩
  replace f0 := kF bN z0 f0
  replace f1 := kF bN z1 f1
  replace g0 := kF bN r0 g0
  replace g1 := kF bN r1 g1
  replace c1 := kC bN c1
  replace c2 := kC bN c2
  replace c3 := kC bN c3
  replace z0 := kC bN z0
  replace z1 := kC bN z1
  replace r0 := kC bN r0
  replace r1 := kC bN r1
  replace hI := IsW.keep hI bN
  replace bA := nT bA bN
  clear bN
  go_wp2_with fail
  refine Calls.mono (HC.out _ hI) ?_
  rintro r w5 ⟨v, rfl, ⟨ao, n, c, rfl, hN, hO⟩, bN⟩
  have HNq : Hid _ := hN
  have hOI := hO.1
  clear hN hO
  replace f0 := kF bN z0 f0
  replace f1 := kF bN z1 f1
  replace g0 := kF bN r0 g0
  replace g1 := kF bN r1 g1
  replace c1 := kC bN c1
  replace c2 := kC bN c2
  replace c3 := kC bN c3
  replace z0 := kC bN z0
  replace z1 := kC bN z1
  replace r0 := kC bN r0
  replace r1 := kC bN r1
  replace hI := IsW.keep hI bN
  replace bA := nT bA bN
  clear bN
  go_wp2_with fail
  refine Calls.mono (HLq.out _ _ _ _ hOI (by have := Hql.out; have := HNq.out; omega)) ?_
  rintro r w6 ⟨rfl, bN⟩
  replace hOI := IsW.keep hOI bN
  replace f0 := kF bN z0 f0
  replace f1 := kF bN z1 f1
  replace g0 := kF bN r0 g0
  replace g1 := kF bN r1 g1
  replace c1 := kC bN c1
  replace c2 := kC bN c2
  replace c3 := kC bN c3
  replace z0 := kC bN z0
  replace z1 := kC bN z1
  replace r0 := kC bN r0
  replace r1 := kC bN r1
  replace hI := IsW.keep hI bN
  replace bA := nT bA bN
  clear bN
  go_wp2_with fail
  refine Calls.mono (HP.out _ _ _ _ hOI) ?_
  rintro r wy ⟨rfl, rfl⟩
  go_wp2_with fail
  have bS : Below (w.heap.size + 1 + 1) wy ((wy.setCell ⟨w.heap.size + 1 + 1, 0, none⟩ (.int .u64 B)).setCell ⟨w.heap.size + 1 + 1, 1, none⟩ (.int .u8 16)) := (((Below.refl _ _).setCell (p := ⟨w.heap.size + 1 + 1, 0, none⟩) (Nat.le_refl _) _).setCell (p := ⟨w.heap.size + 1 + 1, 1, none⟩) (Nat.le_refl _) _)
  replace c1 := (bS.cell (p := ⟨w.heap.size, 0, none⟩) (show w.heap.size < w.heap.size + 1 + 1 by omega)).trans c1
  replace c2 := (bS.cell (p := ⟨w.heap.size, 1, none⟩) (show w.heap.size < w.heap.size + 1 + 1 by omega)).trans c2
  replace c3 := (bS.cell (p := ⟨w.heap.size, 2, none⟩) (show w.heap.size < w.heap.size + 1 + 1 by omega)).trans c3
  replace f0 := (bS.frozen (p := ⟨w.heap.size + 1, 0, none⟩) (show w.heap.size + 1 < w.heap.size + 1 + 1 by omega)).trans f0
  replace z0 := (bS.cell (p := ⟨w.heap.size + 1, 0, none⟩) (show w.heap.size + 1 < w.heap.size + 1 + 1 by omega)).trans z0
  replace f1 := (bS.frozen (p := ⟨w.heap.size + 1, 1, none⟩) (show w.heap.size + 1 < w.heap.size + 1 + 1 by omega)).trans f1
  replace z1 := (bS.cell (p := ⟨w.heap.size + 1, 1, none⟩) (show w.heap.size + 1 < w.heap.size + 1 + 1 by omega)).trans z1
  have nr0 : ((wy.setCell ⟨w.heap.size + 1 + 1, 0, none⟩ (.int .u64 B)).setCell ⟨w.heap.size + 1 + 1, 1, none⟩ (.int .u8 16)).cell? ⟨w.heap.size + 1 + 1, 0, none⟩ = some (.int .u64 B) := by go_simp
  have nr1 : ((wy.setCell ⟨w.heap.size + 1 + 1, 0, none⟩ (.int .u64 B)).setCell ⟨w.heap.size + 1 + 1, 1, none⟩ (.int .u8 16)).cell? ⟨w.heap.size + 1 + 1, 1, none⟩ = some (.int .u8 16) := by go_simp
  have ng0 : ((wy.setCell ⟨w.heap.size + 1 + 1, 0, none⟩ (.int .u64 B)).setCell ⟨w.heap.size + 1 + 1, 1, none⟩ (.int .u8 16)).frozen? ⟨w.heap.size + 1 + 1, 0, none⟩ = false := by go_simp
  have ng1 : ((wy.setCell ⟨w.heap.size + 1 + 1, 0, none⟩ (.int .u64 B)).setCell ⟨w.heap.size + 1 + 1, 1, none⟩ (.int .u8 16)).frozen? ⟨w.heap.size + 1 + 1, 1, none⟩ = false := by go_simp
  have nbA : Below w.heap.size w ((wy.setCell ⟨w.heap.size + 1 + 1, 0, none⟩ (.int .u64 B)).setCell ⟨w.heap.size + 1 + 1, 1, none⟩ (.int .u8 16)) := Below.setCell (Below.setCell (bA) (show w.heap.size ≤ w.heap.size + 1 + 1 by omega) _) (show w.heap.size ≤ w.heap.size + 1 + 1 by omega) _
  replace hI := IsW.keep h00 nbA
  clear bS r0 r1 g0 g1 bA
  generalize ((wy.setCell ⟨w.heap.size + 1 + 1, 0, none⟩ (.int .u64 B)).setCell ⟨w.heap.size + 1 + 1, 1, none⟩ (.int .u8 16)) = w7 at *
  have r0 := nr0
  have r1 := nr1
  have g0 := ng0
  have g1 := ng1
  have bA := nbA
  clear nr0 nr1 ng0 ng1 nbA
  refine Calls.mono (HTi.out _ hI) ?_
  rintro r w8 ⟨rfl, bN⟩
  replace f0 := kF bN z0 f0
  replace f1 := kF bN z1 f1
  replace g0 := kF bN r0 g0
  replace g1 := kF bN r1 g1
  replace c1 := kC bN c1
  replace c2 := kC bN c2
  replace c3 := kC bN c3
  replace z0 := kC bN z0
  replace z1 := kC bN z1
  replace r0 := kC bN r0
  replace r1 := kC bN r1
  replace hI := IsW.keep hI bN
  replace bA := nT bA bN
  clear bN
  cases s
  · go_wp2_with fail
    exact bodyPost_ret (v := .agg #[.int .u64 B, .int .u8 24]) (by simp [results, Tryz.results21, go_sem, z0, z1]) rfl ⟨rfl, by repeat (first | exact bA | refine Below.setCell ?_ (by first | (show w.heap.size ≤ w.heap.size + 1; omega) | (show w.heap.size ≤ w.heap.size + 1 + 1; omega)) _)⟩
  · go_wp2_with fail
    refine Calls.mono (HN.out _) ?_
    rintro r wz ⟨rfl, rfl⟩
    go_wp2_with fail
    exact bodyPost_ret (v := .agg #[.int .u64 (negV B), .int .u8 24]) (by simp [results, Tryz.results21, go_sem, z0, z1]) rfl ⟨rfl, by repeat (first | exact bA | refine Below.setCell ?_ (by first | (show w.heap.size ≤ w.heap.size + 1; omega) | (show w.heap.size ≤ w.heap.size + 1 + 1; omega)) _)⟩

set_option maxRecDepth 100000 in
set_option maxHeartbeats 4000000 in
theorem dn_D1_100 (s : Bool) (a : Option Addr) (len cap : Nat) (xs : List Int) (e : Int) (w : World) (h : IsW w a len cap xs) (hm : len ≤ 17592186044000) (hg : greatB (val xs) = false) (he : -32768 ≤ e ∧ e ≤ 32768) (h0 : val xs ≠ 0) (k1 : ¬ (1024 < tpI (val xs) e + 1)) (k2 : ¬ (tpI (val xs) e + 1 < -1074)) (k3 : ¬ (53 < blen (rd2 (val xs) (lsI (val xs) e - e)))) (hlo : ls2 (val xs) (lsI (val xs) e - e) = true) (hty : tinyQ (val xs) e = false) (B : Int) (hB : putV (rd2 (val xs) (lsI (val xs) e - e)) (lsI (val xs) e) = B) (hi : B ≠ 9218868437227405312) (hU : U B) :
    Calls Tryz.prog 21 #[dyV s a len cap e] w fun r w' => r = .returned (.agg #[.int .u64 (if s = true then negV B else B), .int .u8 16]) ∧ Below w.heap.size w w' := by
  have h00 : IsW w a len cap xs := h
  have HL : Hid _ := fun w' (h' : IsW w' a len cap xs) => nLen_calls a len cap xs w' h' (by omega)
  have HT : Hid _ := fun w' (h' : IsW w' a len cap xs) => rtop_calls s a len cap xs e w' h' (by omega) hg he
  have HTi : Hid _ := fun w' (h' : IsW w' a len cap xs) => rtiny_calls s a len cap xs e w' h' hm hg he
  have o8 : bits .or .u8 16 8 = 24 := by decide +kernel
  have hbl := (great_not _).1 hg
  have htb : Hid (-32769 ≤ tpI (val xs) e ∧ tpI (val xs) e ≤ 98304) := by rw [Hid]; unfold tpI; omega
  have hz : ((blen (val xs) : Int) == 0) = false := by
    have : blen (val xs) ≠ 0 := fun q => h0 ((blen_nil _).1 q)
    simp; omega
  have hz' : (blen (val xs) : Int) ≠ 0 := by simpa using hz
  rw [hty] at HTi
  have l1 := ls_low (val xs) e
  have l2 := ls_top (val xs) e (by omega)
  have l3 := ls_bits (val xs) e
  have hM := M_lt (val xs) e
  have hq : rd2 (val xs) (lsI (val xs) e - e) ≤ 9007199254740992 := by
    unfold rd2
    have : (up2 (val xs) (lsI (val xs) e - e)).toNat ≤ 1 := Bool.toNat_le _
    omega
  have hql := (rd_len (val xs) (lsI (val xs) e - e) 53 (by decide) l3).2
  have HC : Hid _ := fun w' (h' : IsW w' a len cap xs) => rcut_calls a len cap xs e (lsI (val xs) e) w' h' hm (by omega) (by omega) (by omega)
  rw [hlo] at HC
  have HN : Hid _ := fun w => rNeg_calls B w hU
  have W1 : IntKind.i64.wrap (tpI (val xs) e + 1 - 53) = tpI (val xs) e - 52 := by have := htb.out; rw [IntKind.wrap_i64]; omega
  have hls : max (tpI (val xs) e - 52) (-1074) = lsI (val xs) e := by unfold lsI; split <;> omega
  have W2 : IntKind.i64.wrap (lsI (val xs) e + 1) = lsI (val xs) e + 1 := by rw [IntKind.wrap_i64]; omega
  have HLq : Hid _ := fun ao n c w' (h' : IsW w' ao n c (wordsOf (rd2 (val xs) (lsI (val xs) e - e)))) hn => nLen_calls ao n c (wordsOf (rd2 (val xs) (lsI (val xs) e - e))) w' h' hn
  rw [val_words] at HLq
  have HP : Hid _ := fun ao n c w' (h' : IsW w' ao n c (wordsOf (rd2 (val xs) (lsI (val xs) e - e)))) => put_calls ao n c _ (lsI (val xs) e) w' h' hq (by omega)
  have k3' : ¬ (53 : Int) < (blen (rd2 (val xs) (lsI (val xs) e - e)) : Int) := by omega
  rw [hB] at HP
  have Hql : Hid _ := hql
  clear hB k3 hlo l1 l2 l3 hM hq hql hU hty
  generalize rd2 (val xs) (lsI (val xs) e - e) = q at *
  generalize lsI (val xs) e = l at *
  generalize tpI (val xs) e + 1 = tp at *
  generalize tpI (val xs) e - 52 = l0 at *
  generalize (blen (val xs) : Int) = bl at *
  clear h0 hg he hbl
  generalize tinyQ (val xs) e = tq at *
  obtain ⟨bA, c1, c2, c3, z0, z1, f0, f1, r0, r1, g0, g1⟩ := near0 s a len cap e w
  have hI := h.keep bA
  clear h
  go_enter Tryz.func21, Tryz.ntmps21
  go_wp2_with fail
  generalize (((w.alloc (.cells #[.bool s, .slice a len cap, .int .i64 e] 25)).alloc (.cells #[.int .u64 0, .int .u8 0] 31)).alloc (.cells #[.int .u64 0, .int .u8 0] 31)) = w0 at *
  refine Calls.mono (HL.out _ hI) ?_
  rintro r w1 ⟨rfl, bN⟩
  replace f0 := kF bN z0 f0
  replace f1 := kF bN z1 f1
  replace g0 := kF bN r0 g0
  replace g1 := kF bN r1 g1
  replace c1 := kC bN c1
  replace c2 := kC bN c2
  replace c3 := kC bN c3
  replace z0 := kC bN z0
  replace z1 := kC bN z1
  replace r0 := kC bN r0
  replace r1 := kC bN r1
  replace hI := IsW.keep hI bN
  replace bA := nT bA bN
  clear bN
  go_wp2_with fail
  refine Calls.mono (HT.out _ hI) ?_
  rintro r w2 ⟨rfl, bN⟩
  replace f0 := kF bN z0 f0
  replace f1 := kF bN z1 f1
  replace g0 := kF bN r0 g0
  replace g1 := kF bN r1 g1
  replace c1 := kC bN c1
  replace c2 := kC bN c2
  replace c3 := kC bN c3
  replace z0 := kC bN z0
  replace z1 := kC bN z1
  replace r0 := kC bN r0
  replace r1 := kC bN r1
  replace hI := IsW.keep hI bN
  replace bA := nT bA bN
  clear bN
  go_wp2_with fail
  refine Calls.mono (HT.out _ hI) ?_
  rintro r w3 ⟨rfl, bN⟩
  replace f0 := kF bN z0 f0
  replace f1 := kF bN z1 f1
  replace g0 := kF bN r0 g0
  replace g1 := kF bN r1 g1
  replace c1 := kC bN c1
  replace c2 := kC bN c2
  replace c3 := kC bN c3
  replace z0 := kC bN z0
  replace z1 := kC bN z1
  replace r0 := kC bN r0
  replace r1 := kC bN r1
  replace hI := IsW.keep hI bN
  replace bA := nT bA bN
  clear bN
  go_wp2_with fail
  refine Calls.mono (HT.out _ hI) ?_
  rintro r w4 ⟨rfl, bN⟩
  replace f0 := kF bN z0 f0
  replace f1 := kF bN z1 f1
  replace g0 := kF bN r0 g0
  replace g1 := kF bN r1 g1
  replace c1 := kC bN c1
  replace c2 := kC bN c2
  replace c3 := kC bN c3
  replace z0 := kC bN z0
  replace z1 := kC bN z1
  replace r0 := kC bN r0
  replace r1 := kC bN r1
  replace hI := IsW.keep hI bN
  replace bA := nT bA bN
  clear bN
  go_wp2_with fail
  refine Calls.mono (HC.out _ hI) ?_
  rintro r w5 ⟨v, rfl, ⟨ao, n, c, rfl, hN, hO⟩, bN⟩
  have HNq : Hid _ := hN
  have hOI := hO.1
  clear hN hO
  replace f0 := kF bN z0 f0
  replace f1 := kF bN z1 f1
  replace g0 := kF bN r0 g0
  replace g1 := kF bN r1 g1
  replace c1 := kC bN c1
  replace c2 := kC bN c2
  replace c3 := kC bN c3
  replace z0 := kC bN z0
  replace z1 := kC bN z1
  replace r0 := kC bN r0
  replace r1 := kC bN r1
  replace hI := IsW.keep hI bN
  replace bA := nT bA bN
  clear bN
  go_wp2_with fail
  refine Calls.mono (HLq.out _ _ _ _ hOI (by have := Hql.out; have := HNq.out; omega)) ?_
  rintro r w6 ⟨rfl, bN⟩
  replace hOI := IsW.keep hOI bN
  replace f0 := kF bN z0 f0
  replace f1 := kF bN z1 f1
  replace g0 := kF bN r0 g0
  replace g1 := kF bN r1 g1
  replace c1 := kC bN c1
  replace c2 := kC bN c2
  replace c3 := kC bN c3
  replace z0 := kC bN z0
  replace z1 := kC bN z1
  replace r0 := kC bN r0
  replace r1 := kC bN r1
  replace hI := IsW.keep hI bN
  replace bA := nT bA bN
  clear bN
  go_wp2_with fail
  refine Calls.mono (HP.out _ _ _ _ hOI) ?_
  rintro r wy ⟨rfl, rfl⟩
  go_wp2_with fail
  have bS : Below (w.heap.size + 1 + 1) wy ((wy.setCell ⟨w.heap.size + 1 + 1, 0, none⟩ (.int .u64 B)).setCell ⟨w.heap.size + 1 + 1, 1, none⟩ (.int .u8 16)) := (((Below.refl _ _).setCell (p := ⟨w.heap.size + 1 + 1, 0, none⟩) (Nat.le_refl _) _).setCell (p := ⟨w.heap.size + 1 + 1, 1, none⟩) (Nat.le_refl _) _)
  replace c1 := (bS.cell (p := ⟨w.heap.size, 0, none⟩) (show w.heap.size < w.heap.size + 1 + 1 by omega)).trans c1
  replace c2 := (bS.cell (p := ⟨w.heap.size, 1, none⟩) (show w.heap.size < w.heap.size + 1 + 1 by omega)).trans c2
  replace c3 := (bS.cell (p := ⟨w.heap.size, 2, none⟩) (show w.heap.size < w.heap.size + 1 + 1 by omega)).trans c3
  replace f0 := (bS.frozen (p := ⟨w.heap.size + 1, 0, none⟩) (show w.heap.size + 1 < w.heap.size + 1 + 1 by omega)).trans f0
  replace z0 := (bS.cell (p := ⟨w.heap.size + 1, 0, none⟩) (show w.heap.size + 1 < w.heap.size + 1 + 1 by omega)).trans z0
  replace f1 := (bS.frozen (p := ⟨w.heap.size + 1, 1, none⟩) (show w.heap.size + 1 < w.heap.size + 1 + 1 by omega)).trans f1
  replace z1 := (bS.cell (p := ⟨w.heap.size + 1, 1, none⟩) (show w.heap.size + 1 < w.heap.size + 1 + 1 by omega)).trans z1
  have nr0 : ((wy.setCell ⟨w.heap.size + 1 + 1, 0, none⟩ (.int .u64 B)).setCell ⟨w.heap.size + 1 + 1, 1, none⟩ (.int .u8 16)).cell? ⟨w.heap.size + 1 + 1, 0, none⟩ = some (.int .u64 B) := by go_simp
  have nr1 : ((wy.setCell ⟨w.heap.size + 1 + 1, 0, none⟩ (.int .u64 B)).setCell ⟨w.heap.size + 1 + 1, 1, none⟩ (.int .u8 16)).cell? ⟨w.heap.size + 1 + 1, 1, none⟩ = some (.int .u8 16) := by go_simp
  have ng0 : ((wy.setCell ⟨w.heap.size + 1 + 1, 0, none⟩ (.int .u64 B)).setCell ⟨w.heap.size + 1 + 1, 1, none⟩ (.int .u8 16)).frozen? ⟨w.heap.size + 1 + 1, 0, none⟩ = false := by go_simp
  have ng1 : ((wy.setCell ⟨w.heap.size + 1 + 1, 0, none⟩ (.int .u64 B)).setCell ⟨w.heap.size + 1 + 1, 1, none⟩ (.int .u8 16)).frozen? ⟨w.heap.size + 1 + 1, 1, none⟩ = false := by go_simp
  have nbA : Below w.heap.size w ((wy.setCell ⟨w.heap.size + 1 + 1, 0, none⟩ (.int .u64 B)).setCell ⟨w.heap.size + 1 + 1, 1, none⟩ (.int .u8 16)) := Below.setCell (Below.setCell (bA) (show w.heap.size ≤ w.heap.size + 1 + 1 by omega) _) (show w.heap.size ≤ w.heap.size + 1 + 1 by omega) _
  replace hI := IsW.keep h00 nbA
  clear bS r0 r1 g0 g1 bA
  generalize ((wy.setCell ⟨w.heap.size + 1 + 1, 0, none⟩ (.int .u64 B)).setCell ⟨w.heap.size + 1 + 1, 1, none⟩ (.int .u8 16)) = w7 at *
  have r0 := nr0
  have r1 := nr1
  have g0 := ng0
  have g1 := ng1
  have bA := nbA
  clear nr0 nr1 ng0 ng1 nbA
  refine Calls.mono (HTi.out _ hI) ?_
  rintro r w8 ⟨rfl, bN⟩
  replace f0 := kF bN z0 f0
  replace f1 := kF bN z1 f1
  replace g0 := kF bN r0 g0
  replace g1 := kF bN r1 g1
  replace c1 := kC bN c1
  replace c2 := kC bN c2
  replace c3 := kC bN c3
  replace z0 := kC bN z0
  replace z1 := kC bN z1
  replace r0 := kC bN r0
  replace r1 := kC bN r1
  replace hI := IsW.keep hI bN
  replace bA := nT bA bN
  clear bN
  cases s
  · go_wp2_with fail
    exact bodyPost_ret (v := .agg #[.int .u64 B, .int .u8 16]) (by simp [results, Tryz.results21, go_sem, z0, z1]) rfl ⟨rfl, by repeat (first | exact bA | refine Below.setCell ?_ (by first | (show w.heap.size ≤ w.heap.size + 1; omega) | (show w.heap.size ≤ w.heap.size + 1 + 1; omega)) _)⟩
  · go_wp2_with fail
    refine Calls.mono (HN.out _) ?_
    rintro r wz ⟨rfl, rfl⟩
    go_wp2_with fail
    exact bodyPost_ret (v := .agg #[.int .u64 (negV B), .int .u8 16]) (by simp [results, Tryz.results21, go_sem, z0, z1]) rfl ⟨rfl, by repeat (first | exact bA | refine Below.setCell ?_ (by first | (show w.heap.size ≤ w.heap.size + 1; omega) | (show w.heap.size ≤ w.heap.size + 1 + 1; omega)) _)⟩

set_option maxRecDepth 100000 in
set_option maxHeartbeats 4000000 in
theorem dn_D2_110 (s : Bool) (a : Option Addr) (len cap : Nat) (xs : List Int) (e : Int) (w : World) (h : IsW w a len cap xs) (hm : len ≤ 17592186044000) (hg : greatB (val xs) = false) (he : -32768 ≤ e ∧ e ≤ 32768) (h0 : val xs ≠ 0) (k1 : ¬ (1024 < tpI (val xs) e + 1)) (k2 : ¬ (tpI (val xs) e + 1 < -1074)) (k3 : 53 < blen (rd2 (val xs) (lsI (val xs) e - e))) (hlo : ls2 (val xs) (lsI (val xs) e - e) = true) (hty : tinyQ (val xs) e = true) (B : Int) (hB : putV (rd2 (val xs) (lsI (val xs) e - e) / 2) (lsI (val xs) e + 1) = B) (hi : B ≠ 9218868437227405312) (hU : U B) :
    Calls Tryz.prog 21 #[dyV s a len cap e] w fun r w' => r = .returned (.agg #[.int .u64 (if s = true then negV B else B), .int .u8 24]) ∧ Below w.heap.size w w' := by
  have h00 : IsW w a len cap xs := h
  have HL : Hid _ := fun w' (h' : IsW w' a len cap xs) => nLen_calls a len cap xs w' h' (by omega)
  have HT : Hid _ := fun w' (h' : IsW w' a len cap xs) => rtop_calls s a len cap xs e w' h' (by omega) hg he
  have HTi : Hid _ := fun w' (h' : IsW w' a len cap xs) => rtiny_calls s a len cap xs e w' h' hm hg he
  have o8 : bits .or .u8 16 8 = 24 := by decide +kernel
  have hbl := (great_not _).1 hg
  have htb : Hid (-32769 ≤ tpI (val xs) e ∧ tpI (val xs) e ≤ 98304) := by rw [Hid]; unfold tpI; omega
  have hz : ((blen (val xs) : Int) == 0) = false := by
    have : blen (val xs) ≠ 0 := fun q => h0 ((blen_nil _).1 q)
    simp; omega
  have hz' : (blen (val xs) : Int) ≠ 0 := by simpa using hz
  rw [hty] at HTi
  have l1 := ls_low (val xs) e
  have l2 := ls_top (val xs) e (by omega)
  have l3 := ls_bits (val xs) e
  have hM := M_lt (val xs) e
  have hq : rd2 (val xs) (lsI (val xs) e - e) ≤ 9007199254740992 := by
    unfold rd2
    have : (up2 (val xs) (lsI (val xs) e - e)).toNat ≤ 1 := Bool.toNat_le _
    omega
  have hql := (rd_len (val xs) (lsI (val xs) e - e) 53 (by decide) l3).2
  have HC : Hid _ := fun w' (h' : IsW w' a len cap xs) => rcut_calls a len cap xs e (lsI (val xs) e) w' h' hm (by omega) (by omega) (by omega)
  rw [hlo] at HC
  have HN : Hid _ := fun w => rNeg_calls B w hU
  have W1 : IntKind.i64.wrap (tpI (val xs) e + 1 - 53) = tpI (val xs) e - 52 := by have := htb.out; rw [IntKind.wrap_i64]; omega
  have hls : max (tpI (val xs) e - 52) (-1074) = lsI (val xs) e := by unfold lsI; split <;> omega
  have W2 : IntKind.i64.wrap (lsI (val xs) e + 1) = lsI (val xs) e + 1 := by rw [IntKind.wrap_i64]; omega
  have HLq : Hid _ := fun ao n c w' (h' : IsW w' ao n c (wordsOf (rd2 (val xs) (lsI (val xs) e - e)))) hn => nLen_calls ao n c (wordsOf (rd2 (val xs) (lsI (val xs) e - e))) w' h' hn
  rw [val_words] at HLq
  have HSq : Hid _ := fun ao n c w' (h' : IsW w' ao n c (wordsOf (rd2 (val xs) (lsI (val xs) e - e)))) hn => nShr_calls ao n c 1 (wordsOf (rd2 (val xs) (lsI (val xs) e - e))) w' h' (by decide) hn
  rw [val_words] at HSq
  have HP : Hid _ := fun ao n c w' (h' : IsW w' ao n c (wordsOf (rd2 (val xs) (lsI (val xs) e - e) / 2))) => put_calls ao n c _ (lsI (val xs) e + 1) w' h' (by omega) (by omega)
  have k3' : (53 : Int) < (blen (rd2 (val xs) (lsI (val xs) e - e)) : Int) := by omega
  rw [hB] at HP
  have Hql : Hid _ := hql
  clear hB k3 hlo l1 l2 l3 hM hq hql hU hty
  generalize rd2 (val xs) (lsI (val xs) e - e) = q at *
  generalize lsI (val xs) e = l at *
  generalize tpI (val xs) e + 1 = tp at *
  generalize tpI (val xs) e - 52 = l0 at *
  generalize (blen (val xs) : Int) = bl at *
  clear h0 hg he hbl
  generalize tinyQ (val xs) e = tq at *
  obtain ⟨bA, c1, c2, c3, z0, z1, f0, f1, r0, r1, g0, g1⟩ := near0 s a len cap e w
  have hI := h.keep bA
  clear h
  go_enter Tryz.func21, Tryz.ntmps21
  go_wp2_with fail
  generalize (((w.alloc (.cells #[.bool s, .slice a len cap, .int .i64 e] 25)).alloc (.cells #[.int .u64 0, .int .u8 0] 31)).alloc (.cells #[.int .u64 0, .int .u8 0] 31)) = w0 at *
  refine Calls.mono (HL.out _ hI) ?_
  rintro r w1 ⟨rfl, bN⟩
  replace f0 := kF bN z0 f0
  replace f1 := kF bN z1 f1
  replace g0 := kF bN r0 g0
  replace g1 := kF bN r1 g1
  replace c1 := kC bN c1
  replace c2 := kC bN c2
  replace c3 := kC bN c3
  replace z0 := kC bN z0
  replace z1 := kC bN z1
  replace r0 := kC bN r0
  replace r1 := kC bN r1
  replace hI := IsW.keep hI bN
  replace bA := nT bA bN
  clear bN
  go_wp2_with fail
  refine Calls.mono (HT.out _ hI) ?_
  rintro r w2 ⟨rfl, bN⟩
  replace f0 := kF bN z0 f0
  replace f1 := kF bN z1 f1
  replace g0 := kF bN r0 g0
  replace g1 := kF bN r1 g1
  replace c1 := kC bN c1
  replace c2 := kC bN c2
  replace c3 := kC bN c3
  replace z0 := kC bN z0
  replace z1 := kC bN z1
  replace r0 := kC bN r0
  replace r1 := kC bN r1
  replace hI := IsW.keep hI bN
  replace bA := nT bA bN
  clear bN
  go_wp2_with fail
  refine Calls.mono (HT.out _ hI) ?_
  rintro r w3 ⟨rfl, bN⟩
  replace f0 := kF bN z0 f0
  replace f1 := kF bN z1 f1
  replace g0 := kF bN r0 g0
  replace g1 := kF bN r1 g1
  replace c1 := kC bN c1
  replace c2 := kC bN c2
  replace c3 := kC bN c3
  replace z0 := kC bN z0
  replace z1 := kC bN z1
  replace r0 := kC bN r0
  replace r1 := kC bN r1
  replace hI := IsW.keep hI bN
  replace bA := nT bA bN
  clear bN
  go_wp2_with fail
  refine Calls.mono (HT.out _ hI) ?_
  rintro r w4 ⟨rfl, bN⟩
  replace f0 := kF bN z0 f0
  replace f1 := kF bN z1 f1
  replace g0 := kF bN r0 g0
  replace g1 := kF bN r1 g1
  replace c1 := kC bN c1
  replace c2 := kC bN c2
  replace c3 := kC bN c3
  replace z0 := kC bN z0
  replace z1 := kC bN z1
  replace r0 := kC bN r0
  replace r1 := kC bN r1
  replace hI := IsW.keep hI bN
  replace bA := nT bA bN
  clear bN
  go_wp2_with fail
  refine Calls.mono (HC.out _ hI) ?_
  rintro r w5 ⟨v, rfl, ⟨ao, n, c, rfl, hN, hO⟩, bN⟩
  have HNq : Hid _ := hN
  have hOI := hO.1
  clear hN hO
  replace f0 := kF bN z0 f0
  replace f1 := kF bN z1 f1
  replace g0 := kF bN r0 g0
  replace g1 := kF bN r1 g1
  replace c1 := kC bN c1
  replace c2 := kC bN c2
  replace c3 := kC bN c3
  replace z0 := kC bN z0
  replace z1 := kC bN z1
  replace r0 := kC bN r0
  replace r1 := kC bN r1
  replace hI := IsW.keep hI bN
  replace bA := nT bA bN
  clear bN
  go_wp2_with fail
  refine Calls.mono (HLq.out _ _ _ _ hOI (by have := Hql.out; have := HNq.out; omega)) ?_
  rintro r w6 ⟨rfl, bN⟩
  replace hOI := IsW.keep hOI bN
  replace f0 := kF bN z0 f0
  replace f1 := kF bN z1 f1
  replace g0 := kF bN r0 g0
  replace g1 := kF bN r1 g1
  replace c1 := kC bN c1
  replace c2 := kC bN c2
  replace c3 := kC bN c3
  replace z0 := kC bN z0
  replace z1 := kC bN z1
  replace r0 := kC bN r0
  replace r1 := kC bN r1
  replace hI := IsW.keep hI bN
  replace bA := nT bA bN
  clear bN
  go_wp2_with fail
  refine Calls.mono (HSq.out _ _ _ _ hOI (by have := Hql.out; have := HNq.out; omega)) ?_
  rintro r w7 ⟨v, rfl, ⟨ap, n2, c2_, rfl, hN2, hO2⟩, bN⟩
  have HNp : Hid _ := hN2
  have hOJ := hO2.1
  clear hN2 hO2
  replace f0 := kF bN z0 f0
  replace f1 := kF bN z1 f1
  replace g0 := kF bN r0 g0
  replace g1 := kF bN r1 g1
  replace c1 := kC bN c1
  replace c2 := kC bN c2
  replace c3 := kC bN c3
  replace z0 := kC bN z0
  replace z1 := kC bN z1
  replace r0 := kC bN r0
  replace r1 := kC bN r1
  replace hI := IsW.keep hI bN
  replace bA := nT bA bN
  clear bN
  go_wp2_with fail
  refine Calls.mono (HP.out _ _ _ _ hOJ) ?_
  rintro r wy ⟨rfl, rfl⟩
  go_wp2_with fail
  have bS : Below (w.heap.size + 1 + 1) wy ((wy.setCell ⟨w.heap.size + 1 + 1, 0, none⟩ (.int .u64 B)).setCell ⟨w.heap.size + 1 + 1, 1, none⟩ (.int .u8 16)) := (((Below.refl _ _).setCell (p := ⟨w.heap.size + 1 + 1, 0, none⟩) (Nat.le_refl _) _).setCell (p := ⟨w.heap.size + 1 + 1, 1, none⟩) (Nat.le_refl _) _)
  replace c1 := (bS.cell (p := ⟨w.heap.size, 0, none⟩) (show w.heap.size < w.heap.size + 1 + 1 by omega)).trans c1
  replace c2 := (bS.cell (p := ⟨w.heap.size, 1, none⟩) (show w.heap.size < w.heap.size + 1 + 1 by omega)).trans c2
  replace c3 := (bS.cell (p := ⟨w.heap.size, 2, none⟩) (show w.heap.size < w.heap.size + 1 + 1 by omega)).trans c3
  replace f0 := (bS.frozen (p := ⟨w.heap.size + 1, 0, none⟩) (show w.heap.size + 1 < w.heap.size + 1 + 1 by omega)).trans f0
  replace z0 := (bS.cell (p := ⟨w.heap.size + 1, 0, none⟩) (show w.heap.size + 1 < w.heap.size + 1 + 1 by omega)).trans z0
  replace f1 := (bS.frozen (p := ⟨w.heap.size + 1, 1, none⟩) (show w.heap.size + 1 < w.heap.size + 1 + 1 by omega)).trans f1
  replace z1 := (bS.cell (p := ⟨w.heap.size + 1, 1, none⟩) (show w.heap.size + 1 < w.heap.size + 1 + 1 by omega)).trans z1
  have nr0 : ((wy.setCell ⟨w.heap.size + 1 + 1, 0, none⟩ (.int .u64 B)).setCell ⟨w.heap.size + 1 + 1, 1, none⟩ (.int .u8 16)).cell? ⟨w.heap.size + 1 + 1, 0, none⟩ = some (.int .u64 B) := by go_simp
  have nr1 : ((wy.setCell ⟨w.heap.size + 1 + 1, 0, none⟩ (.int .u64 B)).setCell ⟨w.heap.size + 1 + 1, 1, none⟩ (.int .u8 16)).cell? ⟨w.heap.size + 1 + 1, 1, none⟩ = some (.int .u8 16) := by go_simp
  have ng0 : ((wy.setCell ⟨w.heap.size + 1 + 1, 0, none⟩ (.int .u64 B)).setCell ⟨w.heap.size + 1 + 1, 1, none⟩ (.int .u8 16)).frozen? ⟨w.heap.size + 1 + 1, 0, none⟩ = false := by go_simp
  have ng1 : ((wy.setCell ⟨w.heap.size + 1 + 1, 0, none⟩ (.int .u64 B)).setCell ⟨w.heap.size + 1 + 1, 1, none⟩ (.int .u8 16)).frozen? ⟨w.heap.size + 1 + 1, 1, none⟩ = false := by go_simp
  have nbA : Below w.heap.size w ((wy.setCell ⟨w.heap.size + 1 + 1, 0, none⟩ (.int .u64 B)).setCell ⟨w.heap.size + 1 + 1, 1, none⟩ (.int .u8 16)) := Below.setCell (Below.setCell (bA) (show w.heap.size ≤ w.heap.size + 1 + 1 by omega) _) (show w.heap.size ≤ w.heap.size + 1 + 1 by omega) _
  replace hI := IsW.keep h00 nbA
  clear bS r0 r1 g0 g1 bA
  generalize ((wy.setCell ⟨w.heap.size + 1 + 1, 0, none⟩ (.int .u64 B)).setCell ⟨w.heap.size + 1 + 1, 1, none⟩ (.int .u8 16)) = w8 at *
  have r0 := nr0
  have r1 := nr1
  have g0 := ng0
  have g1 := ng1
  have bA := nbA
  clear nr0 nr1 ng0 ng1 nbA
  refine Calls.mono (HTi.out _ hI) ?_
  rintro r w9 ⟨rfl, bN⟩
  replace f0 := kF bN z0 f0
  replace f1 := kF bN z1 f1
  replace g0 := kF bN r0 g0
  replace g1 := kF bN r1 g1
  replace c1 := kC bN c1
  replace c2 := kC bN c2
  replace c3 := kC bN c3
  replace z0 := kC bN z0
  replace z1 := kC bN z1
  replace r0 := kC bN r0
  replace r1 := kC bN r1
  replace hI := IsW.keep hI bN
  replace bA := nT bA bN
  clear bN
  cases s
  · go_wp2_with fail
    exact bodyPost_ret (v := .agg #[.int .u64 B, .int .u8 24]) (by simp [results, Tryz.results21, go_sem, z0, z1]) rfl ⟨rfl, by repeat (first | exact bA | refine Below.setCell ?_ (by first | (show w.heap.size ≤ w.heap.size + 1; omega) | (show w.heap.size ≤ w.heap.size + 1 + 1; omega)) _)⟩
  · go_wp2_with fail
    refine Calls.mono (HN.out _) ?_
    rintro r wz ⟨rfl, rfl⟩
    go_wp2_with fail
    exact bodyPost_ret (v := .agg #[.int .u64 (negV B), .int .u8 24]) (by simp [results, Tryz.results21, go_sem, z0, z1]) rfl ⟨rfl, by repeat (first | exact bA | refine Below.setCell ?_ (by first | (show w.heap.size ≤ w.heap.size + 1; omega) | (show w.heap.size ≤ w.heap.size + 1 + 1; omega)) _)⟩

set_option maxRecDepth 100000 in
set_option maxHeartbeats 4000000 in
theorem dn_D2_100 (s : Bool) (a : Option Addr) (len cap : Nat) (xs : List Int) (e : Int) (w : World) (h : IsW w a len cap xs) (hm : len ≤ 17592186044000) (hg : greatB (val xs) = false) (he : -32768 ≤ e ∧ e ≤ 32768) (h0 : val xs ≠ 0) (k1 : ¬ (1024 < tpI (val xs) e + 1)) (k2 : ¬ (tpI (val xs) e + 1 < -1074)) (k3 : 53 < blen (rd2 (val xs) (lsI (val xs) e - e))) (hlo : ls2 (val xs) (lsI (val xs) e - e) = true) (hty : tinyQ (val xs) e = false) (B : Int) (hB : putV (rd2 (val xs) (lsI (val xs) e - e) / 2) (lsI (val xs) e + 1) = B) (hi : B ≠ 9218868437227405312) (hU : U B) :
    Calls Tryz.prog 21 #[dyV s a len cap e] w fun r w' => r = .returned (.agg #[.int .u64 (if s = true then negV B else B), .int .u8 16]) ∧ Below w.heap.size w w' := by
  have h00 : IsW w a len cap xs := h
  have HL : Hid _ := fun w' (h' : IsW w' a len cap xs) => nLen_calls a len cap xs w' h' (by omega)
  have HT : Hid _ := fun w' (h' : IsW w' a len cap xs) => rtop_calls s a len cap xs e w' h' (by omega) hg he
  have HTi : Hid _ := fun w' (h' : IsW w' a len cap xs) => rtiny_calls s a len cap xs e w' h' hm hg he
  have o8 : bits .or .u8 16 8 = 24 := by decide +kernel
  have hbl := (great_not _).1 hg
  have htb : Hid (-32769 ≤ tpI (val xs) e ∧ tpI (val xs) e ≤ 98304) := by rw [Hid]; unfold tpI; omega
  have hz : ((blen (val xs) : Int) == 0) = false := by
    have : blen (val xs) ≠ 0 := fun q => h0 ((blen_nil _).1 q)
    simp; omega
  have hz' : (blen (val xs) : Int) ≠ 0 := by simpa using hz
  rw [hty] at HTi
  have l1 := ls_low (val xs) e
  have l2 := ls_top (val xs) e (by omega)
  have l3 := ls_bits (val xs) e
  have hM := M_lt (val xs) e
  have hq : rd2 (val xs) (lsI (val xs) e - e) ≤ 9007199254740992 := by
    unfold rd2
    have : (up2 (val xs) (lsI (val xs) e - e)).toNat ≤ 1 := Bool.toNat_le _
    omega
  have hql := (rd_len (val xs) (lsI (val xs) e - e) 53 (by decide) l3).2
  have HC : Hid _ := fun w' (h' : IsW w' a len cap xs) => rcut_calls a len cap xs e (lsI (val xs) e) w' h' hm (by omega) (by omega) (by omega)
  rw [hlo] at HC
  have HN : Hid _ := fun w => rNeg_calls B w hU
  have W1 : IntKind.i64.wrap (tpI (val xs) e + 1 - 53) = tpI (val xs) e - 52 := by have := htb.out; rw [IntKind.wrap_i64]; omega
  have hls : max (tpI (val xs) e - 52) (-1074) = lsI (val xs) e := by unfold lsI; split <;> omega
  have W2 : IntKind.i64.wrap (lsI (val xs) e + 1) = lsI (val xs) e + 1 := by rw [IntKind.wrap_i64]; omega
  have HLq : Hid _ := fun ao n c w' (h' : IsW w' ao n c (wordsOf (rd2 (val xs) (lsI (val xs) e - e)))) hn => nLen_calls ao n c (wordsOf (rd2 (val xs) (lsI (val xs) e - e))) w' h' hn
  rw [val_words] at HLq
  have HSq : Hid _ := fun ao n c w' (h' : IsW w' ao n c (wordsOf (rd2 (val xs) (lsI (val xs) e - e)))) hn => nShr_calls ao n c 1 (wordsOf (rd2 (val xs) (lsI (val xs) e - e))) w' h' (by decide) hn
  rw [val_words] at HSq
  have HP : Hid _ := fun ao n c w' (h' : IsW w' ao n c (wordsOf (rd2 (val xs) (lsI (val xs) e - e) / 2))) => put_calls ao n c _ (lsI (val xs) e + 1) w' h' (by omega) (by omega)
  have k3' : (53 : Int) < (blen (rd2 (val xs) (lsI (val xs) e - e)) : Int) := by omega
  rw [hB] at HP
  have Hql : Hid _ := hql
  clear hB k3 hlo l1 l2 l3 hM hq hql hU hty
  generalize rd2 (val xs) (lsI (val xs) e - e) = q at *
  generalize lsI (val xs) e = l at *
  generalize tpI (val xs) e + 1 = tp at *
  generalize tpI (val xs) e - 52 = l0 at *
  generalize (blen (val xs) : Int) = bl at *
  clear h0 hg he hbl
  generalize tinyQ (val xs) e = tq at *
  obtain ⟨bA, c1, c2, c3, z0, z1, f0, f1, r0, r1, g0, g1⟩ := near0 s a len cap e w
  have hI := h.keep bA
  clear h
  go_enter Tryz.func21, Tryz.ntmps21
  go_wp2_with fail
  generalize (((w.alloc (.cells #[.bool s, .slice a len cap, .int .i64 e] 25)).alloc (.cells #[.int .u64 0, .int .u8 0] 31)).alloc (.cells #[.int .u64 0, .int .u8 0] 31)) = w0 at *
  refine Calls.mono (HL.out _ hI) ?_
  rintro r w1 ⟨rfl, bN⟩
  replace f0 := kF bN z0 f0
  replace f1 := kF bN z1 f1
  replace g0 := kF bN r0 g0
  replace g1 := kF bN r1 g1
  replace c1 := kC bN c1
  replace c2 := kC bN c2
  replace c3 := kC bN c3
  replace z0 := kC bN z0
  replace z1 := kC bN z1
  replace r0 := kC bN r0
  replace r1 := kC bN r1
  replace hI := IsW.keep hI bN
  replace bA := nT bA bN
  clear bN
  go_wp2_with fail
  refine Calls.mono (HT.out _ hI) ?_
  rintro r w2 ⟨rfl, bN⟩
  replace f0 := kF bN z0 f0
  replace f1 := kF bN z1 f1
  replace g0 := kF bN r0 g0
  replace g1 := kF bN r1 g1
  replace c1 := kC bN c1
  replace c2 := kC bN c2
  replace c3 := kC bN c3
  replace z0 := kC bN z0
  replace z1 := kC bN z1
  replace r0 := kC bN r0
  replace r1 := kC bN r1
  replace hI := IsW.keep hI bN
  replace bA := nT bA bN
  clear bN
  go_wp2_with fail
  refine Calls.mono (HT.out _ hI) ?_
  rintro r w3 ⟨rfl, bN⟩
  replace f0 := kF bN z0 f0
  replace f1 := kF bN z1 f1
  replace g0 := kF bN r0 g0
  replace g1 := kF bN r1 g1
  replace c1 := kC bN c1
  replace c2 := kC bN c2
  replace c3 := kC bN c3
  replace z0 := kC bN z0
  replace z1 := kC bN z1
  replace r0 := kC bN r0
  replace r1 := kC bN r1
  replace hI := IsW.keep hI bN
  replace bA := nT bA bN
  clear bN
  go_wp2_with fail
  refine Calls.mono (HT.out _ hI) ?_
  rintro r w4 ⟨rfl, bN⟩
  replace f0 := kF bN z0 f0
  replace f1 := kF bN z1 f1
  replace g0 := kF bN r0 g0
  replace g1 := kF bN r1 g1
  replace c1 := kC bN c1
  replace c2 := kC bN c2
  replace c3 := kC bN c3
  replace z0 := kC bN z0
  replace z1 := kC bN z1
  replace r0 := kC bN r0
  replace r1 := kC bN r1
  replace hI := IsW.keep hI bN
  replace bA := nT bA bN
  clear bN
  go_wp2_with fail
  refine Calls.mono (HC.out _ hI) ?_
  rintro r w5 ⟨v, rfl, ⟨ao, n, c, rfl, hN, hO⟩, bN⟩
  have HNq : Hid _ := hN
  have hOI := hO.1
  clear hN hO
  replace f0 := kF bN z0 f0
  replace f1 := kF bN z1 f1
  replace g0 := kF bN r0 g0
  replace g1 := kF bN r1 g1
  replace c1 := kC bN c1
  replace c2 := kC bN c2
  replace c3 := kC bN c3
  replace z0 := kC bN z0
  replace z1 := kC bN z1
  replace r0 := kC bN r0
  replace r1 := kC bN r1
  replace hI := IsW.keep hI bN
  replace bA := nT bA bN
  clear bN
  go_wp2_with fail
  refine Calls.mono (HLq.out _ _ _ _ hOI (by have := Hql.out; have := HNq.out; omega)) ?_
  rintro r w6 ⟨rfl, bN⟩
  replace hOI := IsW.keep hOI bN
  replace f0 := kF bN z0 f0
  replace f1 := kF bN z1 f1
  replace g0 := kF bN r0 g0
  replace g1 := kF bN r1 g1
  replace c1 := kC bN c1
  replace c2 := kC bN c2
  replace c3 := kC bN c3
  replace z0 := kC bN z0
  replace z1 := kC bN z1
  replace r0 := kC bN r0
  replace r1 := kC bN r1
  replace hI := IsW.keep hI bN
  replace bA := nT bA bN
  clear bN
  go_wp2_with fail
  refine Calls.mono (HSq.out _ _ _ _ hOI (by have := Hql.out; have := HNq.out; omega)) ?_
  rintro r w7 ⟨v, rfl, ⟨ap, n2, c2_, rfl, hN2, hO2⟩, bN⟩
  have HNp : Hid _ := hN2
  have hOJ := hO2.1
  clear hN2 hO2
  replace f0 := kF bN z0 f0
  replace f1 := kF bN z1 f1
  replace g0 := kF bN r0 g0
  replace g1 := kF bN r1 g1
  replace c1 := kC bN c1
  replace c2 := kC bN c2
  replace c3 := kC bN c3
  replace z0 := kC bN z0
  replace z1 := kC bN z1
  replace r0 := kC bN r0
  replace r1 := kC bN r1
  replace hI := IsW.keep hI bN
  replace bA := nT bA bN
  clear bN
  go_wp2_with fail
  refine Calls.mono (HP.out _ _ _ _ hOJ) ?_
  rintro r wy ⟨rfl, rfl⟩
  go_wp2_with fail
  have bS : Below (w.heap.size + 1 + 1) wy ((wy.setCell ⟨w.heap.size + 1 + 1, 0, none⟩ (.int .u64 B)).setCell ⟨w.heap.size + 1 + 1, 1, none⟩ (.int .u8 16)) := (((Below.refl _ _).setCell (p := ⟨w.heap.size + 1 + 1, 0, none⟩) (Nat.le_refl _) _).setCell (p := ⟨w.heap.size + 1 + 1, 1, none⟩) (Nat.le_refl _) _)
  replace c1 := (bS.cell (p := ⟨w.heap.size, 0, none⟩) (show w.heap.size < w.heap.size + 1 + 1 by omega)).trans c1
  replace c2 := (bS.cell (p := ⟨w.heap.size, 1, none⟩) (show w.heap.size < w.heap.size + 1 + 1 by omega)).trans c2
  replace c3 := (bS.cell (p := ⟨w.heap.size, 2, none⟩) (show w.heap.size < w.heap.size + 1 + 1 by omega)).trans c3
  replace f0 := (bS.frozen (p := ⟨w.heap.size + 1, 0, none⟩) (show w.heap.size + 1 < w.heap.size + 1 + 1 by omega)).trans f0
  replace z0 := (bS.cell (p := ⟨w.heap.size + 1, 0, none⟩) (show w.heap.size + 1 < w.heap.size + 1 + 1 by omega)).trans z0
  replace f1 := (bS.frozen (p := ⟨w.heap.size + 1, 1, none⟩) (show w.heap.size + 1 < w.heap.size + 1 + 1 by omega)).trans f1
  replace z1 := (bS.cell (p := ⟨w.heap.size + 1, 1, none⟩) (show w.heap.size + 1 < w.heap.size + 1 + 1 by omega)).trans z1
  have nr0 : ((wy.setCell ⟨w.heap.size + 1 + 1, 0, none⟩ (.int .u64 B)).setCell ⟨w.heap.size + 1 + 1, 1, none⟩ (.int .u8 16)).cell? ⟨w.heap.size + 1 + 1, 0, none⟩ = some (.int .u64 B) := by go_simp
  have nr1 : ((wy.setCell ⟨w.heap.size + 1 + 1, 0, none⟩ (.int .u64 B)).setCell ⟨w.heap.size + 1 + 1, 1, none⟩ (.int .u8 16)).cell? ⟨w.heap.size + 1 + 1, 1, none⟩ = some (.int .u8 16) := by go_simp
  have ng0 : ((wy.setCell ⟨w.heap.size + 1 + 1, 0, none⟩ (.int .u64 B)).setCell ⟨w.heap.size + 1 + 1, 1, none⟩ (.int .u8 16)).frozen? ⟨w.heap.size + 1 + 1, 0, none⟩ = false := by go_simp
  have ng1 : ((wy.setCell ⟨w.heap.size + 1 + 1, 0, none⟩ (.int .u64 B)).setCell ⟨w.heap.size + 1 + 1, 1, none⟩ (.int .u8 16)).frozen? ⟨w.heap.size + 1 + 1, 1, none⟩ = false := by go_simp
  have nbA : Below w.heap.size w ((wy.setCell ⟨w.heap.size + 1 + 1, 0, none⟩ (.int .u64 B)).setCell ⟨w.heap.size + 1 + 1, 1, none⟩ (.int .u8 16)) := Below.setCell (Below.setCell (bA) (show w.heap.size ≤ w.heap.size + 1 + 1 by omega) _) (show w.heap.size ≤ w.heap.size + 1 + 1 by omega) _
  replace hI := IsW.keep h00 nbA
  clear bS r0 r1 g0 g1 bA
  generalize ((wy.setCell ⟨w.heap.size + 1 + 1, 0, none⟩ (.int .u64 B)).setCell ⟨w.heap.size + 1 + 1, 1, none⟩ (.int .u8 16)) = w8 at *
  have r0 := nr0
  have r1 := nr1
  have g0 := ng0
  have g1 := ng1
  have bA := nbA
  clear nr0 nr1 ng0 ng1 nbA
  refine Calls.mono (HTi.out _ hI) ?_
  rintro r w9 ⟨rfl, bN⟩
  replace f0 := kF bN z0 f0
  replace f1 := kF bN z1 f1
  replace g0 := kF bN r0 g0
  replace g1 := kF bN r1 g1
  replace c1 := kC bN c1
  replace c2 := kC bN c2
  replace c3 := kC bN c3
  replace z0 := kC bN z0
  replace z1 := kC bN z1
  replace r0 := kC bN r0
  replace r1 := kC bN r1
  replace hI := IsW.keep hI bN
  replace bA := nT bA bN
  clear bN
  cases s
  · go_wp2_with fail
    exact bodyPost_ret (v := .agg #[.int .u64 B, .int .u8 16]) (by simp [results, Tryz.results21, go_sem, z0, z1]) rfl ⟨rfl, by repeat (first | exact bA | refine Below.setCell ?_ (by first | (show w.heap.size ≤ w.heap.size + 1; omega) | (show w.heap.size ≤ w.heap.size + 1 + 1; omega)) _)⟩
  · go_wp2_with fail
    refine Calls.mono (HN.out _) ?_
    rintro r wz ⟨rfl, rfl⟩
    go_wp2_with fail
    exact bodyPost_ret (v := .agg #[.int .u64 (negV B), .int .u8 16]) (by simp [results, Tryz.results21, go_sem, z0, z1]) rfl ⟨rfl, by repeat (first | exact bA | refine Below.setCell ?_ (by first | (show w.heap.size ≤ w.heap.size + 1; omega) | (show w.heap.size ≤ w.heap.size + 1 + 1; omega)) _)⟩

set_option maxRecDepth 100000 in
set_option maxHeartbeats 4000000 in
theorem dn_D2_101 (s : Bool) (a : Option Addr) (len cap : Nat) (xs : List Int) (e : Int) (w : World) (h : IsW w a len cap xs) (hm : len ≤ 17592186044000) (hg : greatB (val xs) = false) (he : -32768 ≤ e ∧ e ≤ 32768) (h0 : val xs ≠ 0) (k1 : ¬ (1024 < tpI (val xs) e + 1)) (k2 : ¬ (tpI (val xs) e + 1 < -1074)) (k3 : 53 < blen (rd2 (val xs) (lsI (val xs) e - e))) (hlo : ls2 (val xs) (lsI (val xs) e - e) = true) (hty : tinyQ (val xs) e = false) (B : Int) (hB : putV (rd2 (val xs) (lsI (val xs) e - e) / 2) (lsI (val xs) e + 1) = B) (hi : B = 9218868437227405312) (hU : U B) :
    Calls Tryz.prog 21 #[dyV s a len cap e] w fun r w' => r = .returned (.agg #[.int .u64 (if s = true then negV B else B), .int .u8 20]) ∧ Below w.heap.size w w' := by
  have h00 : IsW w a len cap xs := h
  have HL : Hid _ := fun w' (h' : IsW w' a len cap xs) => nLen_calls a len cap xs w' h' (by omega)
  have HT : Hid _ := fun w' (h' : IsW w' a len cap xs) => rtop_calls s a len cap xs e w' h' (by omega) hg he
  have HTi : Hid _ := fun w' (h' : IsW w' a len cap xs) => rtiny_calls s a len cap xs e w' h' hm hg he
  have o8 : bits .or .u8 16 8 = 24 := by decide +kernel
  have hbl := (great_not _).1 hg
  have htb : Hid (-32769 ≤ tpI (val xs) e ∧ tpI (val xs) e ≤ 98304) := by rw [Hid]; unfold tpI; omega
  have hz : ((blen (val xs) : Int) == 0) = false := by
    have : blen (val xs) ≠ 0 := fun q => h0 ((blen_nil _).1 q)
    simp; omega
  have hz' : (blen (val xs) : Int) ≠ 0 := by simpa using hz
  rw [hty] at HTi
  have l1 := ls_low (val xs) e
  have l2 := ls_top (val xs) e (by omega)
  have l3 := ls_bits (val xs) e
  have hM := M_lt (val xs) e
  have hq : rd2 (val xs) (lsI (val xs) e - e) ≤ 9007199254740992 := by
    unfold rd2
    have : (up2 (val xs) (lsI (val xs) e - e)).toNat ≤ 1 := Bool.toNat_le _
    omega
  have hql := (rd_len (val xs) (lsI (val xs) e - e) 53 (by decide) l3).2
  have HC : Hid _ := fun w' (h' : IsW w' a len cap xs) => rcut_calls a len cap xs e (lsI (val xs) e) w' h' hm (by omega) (by omega) (by omega)
  rw [hlo] at HC
  have HN : Hid _ := fun w => rNeg_calls B w hU
  have W1 : IntKind.i64.wrap (tpI (val xs) e + 1 - 53) = tpI (val xs) e - 52 := by have := htb.out; rw [IntKind.wrap_i64]; omega
  have hls : max (tpI (val xs) e - 52) (-1074) = lsI (val xs) e := by unfold lsI; split <;> omega
  have W2 : IntKind.i64.wrap (lsI (val xs) e + 1) = lsI (val xs) e + 1 := by rw [IntKind.wrap_i64]; omega
  have HLq : Hid _ := fun ao n c w' (h' : IsW w' ao n c (wordsOf (rd2 (val xs) (lsI (val xs) e - e)))) hn => nLen_calls ao n c (wordsOf (rd2 (val xs) (lsI (val xs) e - e))) w' h' hn
  rw [val_words] at HLq
  have HSq : Hid _ := fun ao n c w' (h' : IsW w' ao n c (wordsOf (rd2 (val xs) (lsI (val xs) e - e)))) hn => nShr_calls ao n c 1 (wordsOf (rd2 (val xs) (lsI (val xs) e - e))) w' h' (by decide) hn
  rw [val_words] at HSq
  have HP : Hid _ := fun ao n c w' (h' : IsW w' ao n c (wordsOf (rd2 (val xs) (lsI (val xs) e - e) / 2))) => put_calls ao n c _ (lsI (val xs) e + 1) w' h' (by omega) (by omega)
  have k3' : (53 : Int) < (blen (rd2 (val xs) (lsI (val xs) e - e)) : Int) := by omega
  rw [hB] at HP
  have Hql : Hid _ := hql
  clear hB k3 hlo l1 l2 l3 hM hq hql hU hty
  generalize rd2 (val xs) (lsI (val xs) e - e) = q at *
  generalize lsI (val xs) e = l at *
  generalize tpI (val xs) e + 1 = tp at *
  generalize tpI (val xs) e - 52 = l0 at *
  generalize (blen (val xs) : Int) = bl at *
  clear h0 hg he hbl
  generalize tinyQ (val xs) e = tq at *
  subst hi
  obtain ⟨bA, c1, c2, c3, z0, z1, f0, f1, r0, r1, g0, g1⟩ := near0 s a len cap e w
  have hI := h.keep bA
  clear h
  go_enter Tryz.func21, Tryz.ntmps21
  go_wp2_with fail
  generalize (((w.alloc (.cells #[.bool s, .slice a len cap, .int .i64 e] 25)).alloc (.cells #[.int .u64 0, .int .u8 0] 31)).alloc (.cells #[.int .u64 0, .int .u8 0] 31)) = w0 at *
  refine Calls.mono (HL.out _ hI) ?_
  rintro r w1 ⟨rfl, bN⟩
  replace f0 := kF bN z0 f0
  replace f1 := kF bN z1 f1
  replace g0 := kF bN r0 g0
  replace g1 := kF bN r1 g1
  replace c1 := kC bN c1
  replace c2 := kC bN c2
  replace c3 := kC bN c3
  replace z0 := kC bN z0
  replace z1 := kC bN z1
  replace r0 := kC bN r0
  replace r1 := kC bN r1
  replace hI := IsW.keep hI bN
  replace bA := nT bA bN
  clear bN
  go_wp2_with fail
  refine Calls.mono (HT.out _ hI) ?_
  rintro r w2 ⟨rfl, bN⟩
  replace f0 := kF bN z0 f0
  replace f1 := kF bN z1 f1
  replace g0 := kF bN r0 g0
  replace g1 := kF bN r1 g1
  replace c1 := kC bN c1
  replace c2 := kC bN c2
  replace c3 := kC bN c3
  replace z0 := kC bN z0
  replace z1 := kC bN z1
  replace r0 := kC bN r0
  replace r1 := kC bN r1
  replace hI := IsW.keep hI bN
  replace bA := nT bA bN
  clear bN
  go_wp2_with fail
  refine Calls.mono (HT.out _ hI) ?_
  rintro r w3 ⟨rfl, bN⟩
  replace f0 := kF bN z0 f0
  replace f1 := kF bN z1 f1
  replace g0 := kF bN r0 g0
  replace g1 := kF bN r1 g1
  replace c1 := kC bN c1
  replace c2 := kC bN c2
  replace c3 := kC bN c3
  replace z0 := kC bN z0
  replace z1 := kC bN z1
  replace r0 := kC bN r0
  replace r1 := kC bN r1
  replace hI := IsW.keep hI bN
  replace bA := nT bA bN
  clear bN
  go_wp2_with fail
  refine Calls.mono (HT.out _ hI) ?_
  rintro r w4 ⟨rfl, bN⟩
  replace f0 := kF bN z0 f0
  replace f1 := kF bN z1 f1
  replace g0 := kF bN r0 g0
  replace g1 := kF bN r1 g1
  replace c1 := kC bN c1
  replace c2 := kC bN c2
  replace c3 := kC bN c3
  replace z0 := kC bN z0
  replace z1 := kC bN z1
  replace r0 := kC bN r0
  replace r1 := kC bN r1
  replace hI := IsW.keep hI bN
  replace bA := nT bA bN
  clear bN
  go_wp2_with fail
  refine Calls.mono (HC.out _ hI) ?_
  rintro r w5 ⟨v, rfl, ⟨ao, n, c, rfl, hN, hO⟩, bN⟩
  have HNq : Hid _ := hN
  have hOI := hO.1
  clear hN hO
  replace f0 := kF bN z0 f0
  replace f1 := kF bN z1 f1
  replace g0 := kF bN r0 g0
  replace g1 := kF bN r1 g1
  replace c1 := kC bN c1
  replace c2 := kC bN c2
  replace c3 := kC bN c3
  replace z0 := kC bN z0
  replace z1 := kC bN z1
  replace r0 := kC bN r0
  replace r1 := kC bN r1
  replace hI := IsW.keep hI bN
  replace bA := nT bA bN
  clear bN
  go_wp2_with fail
  refine Calls.mono (HLq.out _ _ _ _ hOI (by have := Hql.out; have := HNq.out; omega)) ?_
  rintro r w6 ⟨rfl, bN⟩
  replace hOI := IsW.keep hOI bN
  replace f0 := kF bN z0 f0
  replace f1 := kF bN z1 f1
  replace g0 := kF bN r0 g0
  replace g1 := kF bN r1 g1
  replace c1 := kC bN c1
  replace c2 := kC bN c2
  replace c3 := kC bN c3
  replace z0 := kC bN z0
  replace z1 := kC bN z1
  replace r0 := kC bN r0
  replace r1 := kC bN r1
  replace hI := IsW.keep hI bN
  replace bA := nT bA bN
  clear bN
  go_wp2_with fail
  refine Calls.mono (HSq.out _ _ _ _ hOI (by have := Hql.out; have := HNq.out; omega)) ?_
  rintro r w7 ⟨v, rfl, ⟨ap, n2, c2_, rfl, hN2, hO2⟩, bN⟩
  have HNp : Hid _ := hN2
  have hOJ := hO2.1
  clear hN2 hO2
  replace f0 := kF bN z0 f0
  replace f1 := kF bN z1 f1
  replace g0 := kF bN r0 g0
  replace g1 := kF bN r1 g1
  replace c1 := kC bN c1
  replace c2 := kC bN c2
  replace c3 := kC bN c3
  replace z0 := kC bN z0
  replace z1 := kC bN z1
  replace r0 := kC bN r0
  replace r1 := kC bN r1
  replace hI := IsW.keep hI bN
  replace bA := nT bA bN
  clear bN
  go_wp2_with fail
  refine Calls.mono (HP.out _ _ _ _ hOJ) ?_
  rintro r wy ⟨rfl, rfl⟩
  go_wp2_with fail
  have bS : Below (w.heap.size + 1 + 1) wy ((wy.setCell ⟨w.heap.size + 1 + 1, 0, none⟩ (.int .u64 9218868437227405312)).setCell ⟨w.heap.size + 1 + 1, 1, none⟩ (.int .u8 16)) := (((Below.refl _ _).setCell (p := ⟨w.heap.size + 1 + 1, 0, none⟩) (Nat.le_refl _) _).setCell (p := ⟨w.heap.size + 1 + 1, 1, none⟩) (Nat.le_refl _) _)
  replace c1 := (bS.cell (p := ⟨w.heap.size, 0, none⟩) (show w.heap.size < w.heap.size + 1 + 1 by omega)).trans c1
  replace c2 := (bS.cell (p := ⟨w.heap.size, 1, none⟩) (show w.heap.size < w.heap.size + 1 + 1 by omega)).trans c2
  replace c3 := (bS.cell (p := ⟨w.heap.size, 2, none⟩) (show w.heap.size < w.heap.size + 1 + 1 by omega)).trans c3
  replace f0 := (bS.frozen (p := ⟨w.heap.size + 1, 0, none⟩) (show w.heap.size + 1 < w.heap.size + 1 + 1 by omega)).trans f0
  replace z0 := (bS.cell (p := ⟨w.heap.size + 1, 0, none⟩) (show w.heap.size + 1 < w.heap.size + 1 + 1 by omega)).trans z0
  replace f1 := (bS.frozen (p := ⟨w.heap.size + 1, 1, none⟩) (show w.heap.size + 1 < w.heap.size + 1 + 1 by omega)).trans f1
  replace z1 := (bS.cell (p := ⟨w.heap.size + 1, 1, none⟩) (show w.heap.size + 1 < w.heap.size + 1 + 1 by omega)).trans z1
  have nr0 : ((wy.setCell ⟨w.heap.size + 1 + 1, 0, none⟩ (.int .u64 9218868437227405312)).setCell ⟨w.heap.size + 1 + 1, 1, none⟩ (.int .u8 16)).cell? ⟨w.heap.size + 1 + 1, 0, none⟩ = some (.int .u64 9218868437227405312) := by go_simp
  have nr1 : ((wy.setCell ⟨w.heap.size + 1 + 1, 0, none⟩ (.int .u64 9218868437227405312)).setCell ⟨w.heap.size + 1 + 1, 1, none⟩ (.int .u8 16)).cell? ⟨w.heap.size + 1 + 1, 1, none⟩ = some (.int .u8 16) := by go_simp
  have ng0 : ((wy.setCell ⟨w.heap.size + 1 + 1, 0, none⟩ (.int .u64 9218868437227405312)).setCell ⟨w.heap.size + 1 + 1, 1, none⟩ (.int .u8 16)).frozen? ⟨w.heap.size + 1 + 1, 0, none⟩ = false := by go_simp
  have ng1 : ((wy.setCell ⟨w.heap.size + 1 + 1, 0, none⟩ (.int .u64 9218868437227405312)).setCell ⟨w.heap.size + 1 + 1, 1, none⟩ (.int .u8 16)).frozen? ⟨w.heap.size + 1 + 1, 1, none⟩ = false := by go_simp
  have nbA : Below w.heap.size w ((wy.setCell ⟨w.heap.size + 1 + 1, 0, none⟩ (.int .u64 9218868437227405312)).setCell ⟨w.heap.size + 1 + 1, 1, none⟩ (.int .u8 16)) := Below.setCell (Below.setCell (bA) (show w.heap.size ≤ w.heap.size + 1 + 1 by omega) _) (show w.heap.size ≤ w.heap.size + 1 + 1 by omega) _
  replace hI := IsW.keep h00 nbA
  clear bS r0 r1 g0 g1 bA
  generalize ((wy.setCell ⟨w.heap.size + 1 + 1, 0, none⟩ (.int .u64 9218868437227405312)).setCell ⟨w.heap.size + 1 + 1, 1, none⟩ (.int .u8 16)) = w8 at *
  have r0 := nr0
  have r1 := nr1
  have g0 := ng0
  have g1 := ng1
  have bA := nbA
  clear nr0 nr1 ng0 ng1 nbA
  refine Calls.mono (HTi.out _ hI) ?_
  rintro r w9 ⟨rfl, bN⟩
  replace f0 := kF bN z0 f0
  replace f1 := kF bN z1 f1
  replace g0 := kF bN r0 g0
  replace g1 := kF bN r1 g1
  replace c1 := kC bN c1
  replace c2 := kC bN c2
  replace c3 := kC bN c3
  replace z0 := kC bN z0
  replace z1 := kC bN z1
  replace r0 := kC bN r0
  replace r1 := kC bN r1
  replace hI := IsW.keep hI bN
  replace bA := nT bA bN
  clear bN
  cases s
  · go_wp2_with fail
    exact bodyPost_ret (v := .agg #[.int .u64 9218868437227405312, .int .u8 20]) (by simp [results, Tryz.results21, go_sem, z0, z1]) rfl ⟨rfl, by repeat (first | exact bA | refine Below.setCell ?_ (by first | (show w.heap.size ≤ w.heap.size + 1; omega) | (show w.heap.size ≤ w.heap.size + 1 + 1; omega)) _)⟩
  · go_wp2_with fail
    refine Calls.mono (HN.out _) ?_
    rintro r wz ⟨rfl, rfl⟩
    go_wp2_with fail
    exact bodyPost_ret (v := .agg #[.int .u64 (negV 9218868437227405312), .int .u8 20]) (by simp [results, Tryz.results21, go_sem, z0, z1]) rfl ⟨rfl, by repeat (first | exact bA | refine Below.setCell ?_ (by first | (show w.heap.size ≤ w.heap.size + 1; omega) | (show w.heap.size ≤ w.heap.size + 1 + 1; omega)) _)⟩

end Go.Proofs.YtognliaoonkmiaaGreatDoor

/- The walk of the statement on expansions. -/
import Derived.Test.YtccbpbgiiajdkaaEUb
namespace Go.Proofs.Ytccbpbgiiajdkaa
open Go.RowKit

attribute [local go_sem ↓] Go.wp_at_zero Go.wp_at_succ

namespace Fp
open EP
theorem mem_getD (xs : List Nat) (x : Nat) (h : x ∈ xs) : ∃ i, i < xs.length ∧ xs.getD i 0 = x := by
  obtain ⟨i, hi, e⟩ := List.getElem_of_mem h
  exact ⟨i, hi, by simp [List.getD, hi, e]⟩
theorem getD_mem (xs : List Nat) (i : Nat) (h : i < xs.length) : xs.getD i 0 ∈ xs := by
  have e : xs.getD i 0 = xs[i] := by simp [List.getD, h]
  rw [e]; exact List.getElem_mem h
theorem tot_le (M : Nat) : ∀ xs : List Nat, (∀ x ∈ xs, amt x ≤ M) → tot xs ≤ xs.length * M
  | [], _ => by simp [tot]
  | x :: l, h => by
    have h1 := tot_le M l (fun y hy => h y (List.mem_cons_of_mem _ hy))
    have h2 := h x (List.mem_cons_self ..)
    simp only [tot, List.length_cons]
    rw [Nat.add_mul, Nat.one_mul]; omega
/-- What Sum, Grow and Scale make of a moderate list, all at once. -/
theorem sums_all (xs : List Nat) (b K : Nat) (hK : K = 3000) (hl : xs.length ≤ 32) (hx : ∀ x ∈ xs, (bd x 1475 ∧ ∃ A i, Nm x A i) ∧ x < 18446744073709551616) (hb : bd b 1475) (Nb : ∃ A i, Nm b A i) (hbw : b < 18446744073709551616) :
    ∃ R C Gw, growB [] xs = some R ∧ scaleO xs b [] = some C ∧ growO xs b = some Gw ∧
      (R.length ≤ 32 ∧ (∀ x ∈ R, x < 18446744073709551616 ∧ EP.finB x = true) ∧ tot R < 2 ^ K ∧ sv R = sv xs ∧ sgnF (lastF R) = if sv xs < 0 then -1 else if 0 < sv xs then 1 else 0) ∧
      (C.length ≤ 64 ∧ (∀ x ∈ C, x < 18446744073709551616 ∧ EP.finB x = true) ∧ tot C < 2 ^ K ∧ ∀ D : Nat, D = 1074 → sv C * ((2 ^ D : Nat) : Int) = sv xs * V b) ∧
      (Gw.length ≤ 33 ∧ (∀ x ∈ Gw, x < 18446744073709551616 ∧ EP.finB x = true) ∧ tot Gw < 2 ^ K ∧ sv Gw = sv xs + V b) ∧ tot xs < 2 ^ K ∧ (V b).natAbs < 2 ^ K := by
  have h75 : ∀ n k : Nat, n < k → 2 ^ n < 2 ^ k := fun n k h => Nat.pow_lt_pow_right (by decide) h
  obtain ⟨M, hM⟩ : ∃ M, M = 1475 := ⟨_, rfl⟩
  have hxa : ∀ x ∈ xs, amt x ≤ 2 ^ M := fun x h => by rw [hM]; exact (hx x h).1.1.2
  have hba : amt b ≤ 2 ^ M := by rw [hM]; exact hb.2
  have ht : tot xs ≤ 32 * 2 ^ M := Nat.le_trans (tot_le _ xs hxa) (Nat.mul_le_mul_right _ hl)
  have e6 : 2 ^ (M + 6) = 64 * 2 ^ M := by rw [Nat.pow_add, Nat.mul_comm]
  have hp := pow2_pos M
  obtain ⟨R, r1, r2, r3, r4, r5, r6, r7⟩ := growB_ex xs [] M okL_nil (by simp [tot]) (fun x h => ⟨(hx x h).1.1.1, hxa x h⟩) (by omega) (by simp; omega)
  obtain ⟨Gw, g1, g2, g3, g4, g5, _, g7⟩ := growO_ex xs b (M + 6) (by omega) (by omega) (fun x h => (hx x h).1.1.1) hb.1 (by omega)
  obtain ⟨Z, hZ⟩ : ∃ Z, Z = 1878 := ⟨_, rfl⟩
  obtain ⟨C, c1, c2, c3, c4, c5, c6⟩ := scaleO_ex b Z hZ hb Nb xs [] Z (Nat.le_refl _) okL_nil (by simp [tot]) (fun x h => (hx x h).1) (by omega) (by simp; omega)
  refine ⟨R, C, Gw, r1, c1, g1, ⟨by simp at r4; omega, fun x h => ⟨r7 (fun y hy => (hx y hy).2) okW_nil x h, (r2 x h).1⟩, ?_, by rw [r5]; simp only [sv]; omega, ?_⟩, ⟨by simp at c3; omega, fun x h => ⟨c5 okW_nil x h, (c2 x h).1⟩, ?_, fun D hD => ?_⟩, ⟨by omega, fun x h => ⟨g7 hbw x h, (g2 x h).1⟩, ?_, by rw [g5]; omega⟩, ?_, ?_⟩
  · exact Nat.lt_of_le_of_lt r3 (h75 _ _ (by omega))
  · rw [last_sign R r2 (r6 trivial), show sv R = sv xs by rw [r5]; simp only [sv]; omega]
  · exact Nat.lt_of_le_of_lt c4 (h75 _ _ (by omega))
  · rw [c6 D hD]; simp only [sv]; rw [Int.zero_mul, Int.zero_add, Int.mul_comm]
  · have h1 := h75 (M + 7) K (by omega)
    have e7 : 2 ^ (M + 7) = 128 * 2 ^ M := by rw [Nat.pow_add, Nat.mul_comm]
    omega
  · have := h75 (M + 6) K (by omega); omega
  · have h1 := h75 M K (by omega)
    show amt b < _
    omega
end Fp

theorem blen_mul_le (x y : Nat) : blen (x * y) ≤ blen x + blen y := by
  rw [blen_le, Nat.pow_add]
  exact Nat.mul_lt_mul'' (lt_blen x) (lt_blen y)
theorem mul_sz (u v : Int) (K : Nat) (hu : u.natAbs < 2 ^ K) (hv : v.natAbs < 2 ^ K) : blen (mulD (dyU u) (dyU v)).2.1 ≤ 2 * K ∧ -2148 ≤ (mulD (dyU u) (dyU v)).2.2 ∧ (mulD (dyU u) (dyU v)).2.2 ≤ 4 * (K : Int) := by
  obtain ⟨s1, s2, s3⟩ := dyU_sz u K hu
  obtain ⟨t1, t2, t3⟩ := dyU_sz v K hv
  have h1 := blen_mul_le (dyU u).2.1 (dyU v).2.1
  have h2 := mul_low (dyU u) (dyU v) (-1074) (-1074) (by decide) s2 t2
  refine ⟨?_, by omega, ?_⟩
  · unfold mulD
    exact Nat.le_trans (blen_mono (form_amount_le _ _ _)) (by omega)
  · unfold mulD
    by_cases h0 : (dyU u).2.1 * (dyU v).2.1 = 0
    · rw [h0, form_zero]; show (0 : Int) ≤ _; omega
    · rw [form_pos _ h0]
      have := tz_le_blen ((dyU u).2.1 * (dyU v).2.1)
      show (dyU u).2.2 + (dyU v).2.2 + (tz ((dyU u).2.1 * (dyU v).2.1) : Int) ≤ _
      omega

set_option maxRecDepth 100000 in
set_option maxHeartbeats 8000000 in
theorem eftSums_walk (a : Option Addr) (len cap : Nat) (xs : List Nat) (b : Nat) (w : World) (h : Fp.IsF w a len cap xs) (hsm : Fp.smallFs xs) (hm : len ≤ 17592186044000) (hbw : b < 18446744073709551616) :
    Calls Try.prog 3 #[.slice a len cap, .float .f64 b] w fun e w' => e = .returned (.bool true) ∧ Below w.heap.size w w' := by
  have HSM : Hid (Fp.smallFs xs) := hsm
  have HLL : Hid (len = xs.length) := h.1
  clear hsm
  go_enter Try.func3, Try.ntmps3
  go_wp2_with fail
  refine Calls.mono (Fp.eLives_calls w) ?_
  rintro e w1 ⟨rfl, bB⟩
  have FX := h.keep bB
  clear h
  go_wp2_with fail
  refine Calls.mono (Fp.moderates2_calls a len cap 32 xs w1 FX hm) ?_
  rintro e w2 ⟨t, rfl, d2, H2⟩
  have d2b := d2.below w1.heap.size
  have HM : Hid (t = true → len ≤ 32 ∧ ∀ i, i < len → (EP.bd (xs.getD i 0) 1475 ∧ ∃ A i', Fp.Nm (xs.getD i 0) A i')) := H2
  replace FX := FX.keep d2b
  replace bB := nbelow_trans bB d2b
  clear H2 d2 d2b
  cases t with
  | false =>
    go_wp2_with fail
    go_ret
    exact ⟨rfl, bB⟩
  | true =>
    go_wp2_with fail
    refine Calls.mono (Fp.moderate2_calls b w2) ?_
    rintro e w3 ⟨t, rfl, d3, H3⟩
    have d3b := d3.below w2.heap.size
    have HMB : Hid (t = true → EP.bd b 1475 ∧ ∃ A i, Fp.Nm b A i) := H3
    replace FX := FX.keep d3b
    replace bB := nbelow_trans bB d3b
    clear H3 d3 d3b
    cases t with
    | false =>
      go_wp2_with fail
      go_ret
      exact ⟨rfl, bB⟩
    | true =>
      obtain ⟨m1, m2⟩ := HM.out (by first | rfl | trivial)
      obtain ⟨n1, n2⟩ := HMB.out (by first | rfl | trivial)
      obtain ⟨KB, hK⟩ : ∃ KB, KB = 3000 := ⟨_, rfl⟩
      have hK2 : KB ≤ 60000 := by omega
      obtain ⟨R, C, Gw, g1, g2, g3, ⟨r1, r2, r3, r4, r5⟩, ⟨c1, c2, c3, c4⟩, ⟨q1, q2, q3, q4⟩, t1, t2⟩ := Fp.sums_all xs b KB hK (by rw [← HLL.out]; exact m1) (fun x hx => by
        obtain ⟨i, hi, e⟩ := Fp.mem_getD xs x hx
        have h1 := m2 i (by rw [HLL.out]; exact hi)
        have h2 := HSM.out i
        rw [e] at h1 h2
        exact ⟨h1, h2⟩) n1 n2 hbw
      have HG : Hid (Fp.growB [] xs = some R ∧ Fp.scaleO xs b [] = some C ∧ Fp.growO xs b = some Gw) := ⟨g1, g2, g3⟩
      have HRR : Hid ((∀ i, i < R.length → R.getD i 0 < 18446744073709551616 ∧ EP.finB (R.getD i 0) = true) ∧ Fp.tot R < 2 ^ KB ∧ Fp.sv R = Fp.sv xs ∧ Fp.sgnF (Fp.lastF R) = if Fp.sv xs < 0 then -1 else if 0 < Fp.sv xs then 1 else 0) := ⟨fun i hi => r2 _ (Fp.getD_mem R i hi), r3, r4, r5⟩
      have HCC : Hid ((∀ i, i < C.length → C.getD i 0 < 18446744073709551616 ∧ EP.finB (C.getD i 0) = true) ∧ Fp.tot C < 2 ^ KB ∧ ∀ D : Nat, D = 1074 → Fp.sv C * ((2 ^ D : Nat) : Int) = Fp.sv xs * EP.V b) := ⟨fun i hi => c2 _ (Fp.getD_mem C i hi), c3, c4⟩
      have HGG : Hid ((∀ i, i < Gw.length → Gw.getD i 0 < 18446744073709551616 ∧ EP.finB (Gw.getD i 0) = true) ∧ Fp.tot Gw < 2 ^ KB ∧ Fp.sv Gw = Fp.sv xs + EP.V b) := ⟨fun i hi => q2 _ (Fp.getD_mem Gw i hi), q3, q4⟩
      have HXX : Hid (∀ i, i < len → xs.getD i 0 < 18446744073709551616 ∧ EP.finB (xs.getD i 0) = true ∧ (EP.V (xs.getD i 0)).natAbs < 2 ^ KB) := fun i hi => ⟨HSM.out i, (m2 i hi).1.1, Nat.lt_of_le_of_lt (Fp.tot_mem xs _ (Fp.getD_mem xs i (by rw [← HLL.out]; exact hi))) t1⟩
      have HT : Hid (Fp.tot xs < 2 ^ KB ∧ (Fp.sv xs).natAbs < 2 ^ KB ∧ (EP.V b).natAbs < 2 ^ KB) := ⟨t1, Nat.lt_of_le_of_lt (Fp.sv_abs xs) t1, t2⟩
      have HBW : Hid (b < 18446744073709551616 ∧ EP.finB b = true) := ⟨hbw, n1.1⟩
      clear g1 g2 g3 r2 r3 r4 r5 c2 c3 c4 q2 q3 q4 t1 t2 m2 n1 n2 HM HMB HSM hK
      obtain ⟨S, hS⟩ : ∃ S, S = Fp.sv xs := ⟨_, rfl⟩
      rw [← hS] at HRR HCC HGG HT
      have HSX : Hid (S = Fp.sv xs) := hS
      clear hS hbw
      go_wp2_with fail
      refine Calls.mono (Fp.sum_calls a len cap xs w3 FX (by omega)) ?_
      rintro e wS ⟨aS, cS, RS, rfl, hO, hl, bS, HE⟩
      have eR := HE _ HG.out.1
      rw [eR] at hO ⊢
      have FS := hO.isF
      replace FX := FX.keep bS
      replace bB := nbelow_trans bB bS
      clear hO hl HE eR bS
      go_wp2_with fail
      refine Calls.mono (Fp.scale_calls a len cap xs b wS FX (by omega)) ?_
      rintro e wC ⟨aC, cC, RC, rfl, hO, hl, bC, HE⟩
      have eR := HE _ HG.out.2.1
      rw [eR] at hO ⊢
      have FC := hO.isF
      replace FX := FX.keep bC
      replace FS := FS.keep bC
      replace bB := nbelow_trans bB bC
      clear hO hl HE eR bC
      go_wp2_with fail
      refine Calls.mono (Fp.grow_calls a len cap xs b wC FX (by omega)) ?_
      rintro e wG ⟨aG, cG, RG, rfl, hO, hl, bG, HE⟩
      have eR := HE _ HG.out.2.2
      rw [eR] at hO ⊢
      have FG := hO.isF
      replace FX := FX.keep bG
      replace FS := FS.keep bG
      replace FC := FC.keep bG
      replace bB := nbelow_trans bB bG
      clear hO hl HE eR bG
      have AC : Hid _ := all_calls a len cap xs wG KB hK2 FX (by omega) (fun i hi => ⟨(HXX.out i hi).1, (HXX.out i hi).2.1⟩) HT.out.1
      rw [← HSX.out] at AC
      go_wp2_with fail
      refine Calls.mono AC.out ?_
      rintro e wA ⟨_, rfl, ⟨ad, nd, cd, rfl, HND, hOD⟩, bA⟩
      have IW := hOD.1
      have hnd : nd ≤ 1024 := by
        rw [HND.out]
        have h1 := (dyU_sz S KB HT.out.2.1).1
        exact (words_len2 _ _).2 (by omega)
      replace FX := FX.keep bA
      replace FS := FS.keep bA
      replace FC := FC.keep bA
      replace FG := FG.keep bA
      replace bB := nbelow_trans bB bA
      clear AC hOD HND bA
      have bZ := below_one wA (.cells #[.bool (dyU S).1, .slice ad nd cd, .int .i64 (dyU S).2.2] 32)
      have k0 : (wA.alloc (.cells #[.bool (dyU S).1, .slice ad nd cd, .int .i64 (dyU S).2.2] 32)).cell? ⟨wA.heap.size, 0, none⟩ = some (.bool (dyU S).1) := by go_simp
      have k1 : (wA.alloc (.cells #[.bool (dyU S).1, .slice ad nd cd, .int .i64 (dyU S).2.2] 32)).cell? ⟨wA.heap.size, 1, none⟩ = some (.slice ad nd cd) := by go_simp
      have k2 : (wA.alloc (.cells #[.bool (dyU S).1, .slice ad nd cd, .int .i64 (dyU S).2.2] 32)).cell? ⟨wA.heap.size, 2, none⟩ = some (.int .i64 (dyU S).2.2) := by go_simp
      replace FX := FX.keep bZ
      replace FS := FS.keep bZ
      replace FC := FC.keep bZ
      replace FG := FG.keep bZ
      replace IW := IW.keep bZ
      replace bB := nbelow_trans bB bZ
      clear bZ
      go_upto_region 9 with fail
      generalize wA.alloc (.cells #[.bool (dyU S).1, .slice ad nd cd, .int .i64 (dyU S).2.2] 32) = w8 at *
      generalize wA.heap.size = D at *
      have bw : Below w8.heap.size w8 w8.drew := (Below.refl _ _).drew
      refine wp_region_held (S := fun w' => w'.cell? ⟨D, 0, none⟩ = some (.bool (dyU S).1) ∧ w'.cell? ⟨D, 1, none⟩ = some (.slice ad nd cd) ∧ w'.cell? ⟨D, 2, none⟩ = some (.int .i64 (dyU S).2.2)) (by kernel_rfl) ?_
      change wpAnyH _ _ _ _ _ _ _ _ (World.drew w8)
      have hsg : sgnQ (dyU S).1 (dyU S).2.1 = Fp.sgnF (Fp.lastF R) := by rw [HRR.out.2.2.2, dyU_sgn]
      have HSG : Hid (sgnQ (dyU S).1 (dyU S).2.1 = Fp.sgnF (Fp.lastF R)) := hsg
      clear hsg
      replace k0 := dcarry_cell bw k0
      replace k1 := dcarry_cell bw k1
      replace k2 := dcarry_cell bw k2
      replace FX := FX.keep bw
      replace FS := FS.keep bw
      replace FC := FC.keep bw
      replace FG := FG.keep bw
      replace IW := IW.keep bw
      replace bB := nbelow_trans bB bw
      have HSS := And.intro k0 (And.intro k1 k2)
      clear bw
      generalize World.drew w8 = wd at *
      refine wpAnyH_take (i := 0) (v := .slice aS R.length cS) rfl (by kernel_rfl) (by kernel_rfl) (by kernel_rfl) (fun _ _ _ h => h) (Or.inl ⟨by rfl, ?y0p⟩) HSS ?r0p
      case y0p => (rintro ww ⟨q0, q1, q2⟩; go_simp)
      try simp only [Act.put]
      refine wpAnyH_take (i := 2) (v := .agg #[.bool (dyU S).1, .slice ad nd cd, .int .i64 (dyU S).2.2]) rfl (by kernel_rfl) (by kernel_rfl) (by kernel_rfl) (fun _ _ _ h => h) (Or.inl ⟨by rfl, ?y2p⟩) HSS ?r2p
      case y2p => (rintro ww ⟨q0, q1, q2⟩; go_simp)
      try simp only [Act.put]
      refine wpAnyH_ready (rs := [1]) (by kernel_rfl) (by simp) ?_
      refine AllReadyH.cons rfl (fun K hK => ?_) AllReadyH.nil
      go_simp
      refine Calls.mono (all_calls aS R.length cS R _ KB hK2 FS (by omega) HRR.out.1 HRR.out.2.1) ?_
      rintro e wn ⟨_, rfl, ⟨a1, n1, c1, rfl, HN1, hO1⟩, bn⟩
      replace k0 := dcarry_cell bn k0
      replace k1 := dcarry_cell bn k1
      replace k2 := dcarry_cell bn k2
      replace FX := FX.keep bn
      replace FS := FS.keep bn
      replace FC := FC.keep bn
      replace FG := FG.keep bn
      replace IW := IW.keep bn
      replace bB := nbelow_trans bB bn
      have HSS := And.intro k0 (And.intro k1 k2)
      have J1 := hO1.1
      rw [HRR.out.2.2.1] at J1 HN1 ⊢
      have hn1 : n1 ≤ 1024 := by
        rw [HN1.out]
        have h1 := (dyU_sz S KB HT.out.2.1).1
        exact (words_len2 _ _).2 (by omega)
      clear hO1 bn HN1
      refine hK.out _ _ HSS (fun _ => ?_)
      clear hK K
      try simp only [Act.put, List.setIfInBounds_toArray, List.set_cons_zero, List.set_cons_succ]
      refine wpAnyH_ready (rs := [3]) (by kernel_rfl) (by simp) ?_
      refine AllReadyH.cons rfl (fun K hK => ?_) AllReadyH.nil
      go_simp
      refine Calls.mono (sameQ (dyU S) a1 n1 c1 ad nd cd _ J1 (by omega) IW (by omega)) ?_
      rintro e wn ⟨rfl, bn⟩
      replace k0 := dcarry_cell bn k0
      replace k1 := dcarry_cell bn k1
      replace k2 := dcarry_cell bn k2
      replace FX := FX.keep bn
      replace FS := FS.keep bn
      replace FC := FC.keep bn
      replace FG := FG.keep bn
      replace IW := IW.keep bn
      replace bB := nbelow_trans bB bn
      have HSS := And.intro k0 (And.intro k1 k2)
      clear bn J1
      refine hK.out _ _ HSS (fun _ => ?_)
      clear hK K
      try simp only [Act.put, List.setIfInBounds_toArray, List.set_cons_zero, List.set_cons_succ]
      refine wpAnyH_take (i := 4) (v := .bool false) rfl (by kernel_rfl) (by kernel_rfl) (by kernel_rfl) (fun _ _ _ h => h) (Or.inl ⟨by rfl, ?y4p⟩) HSS ?r4p
      case y4p => (rintro ww ⟨q0, q1, q2⟩; go_simp)
      try simp only [Act.put]
      refine wpAnyH_take (i := 5) (v := .bool false) rfl (by kernel_rfl) (by kernel_rfl) (by kernel_rfl) (fun _ _ _ h => h) (Or.inl ⟨by rfl, ?y5p⟩) HSS ?r5p
      case y5p => (rintro ww ⟨q0, q1, q2⟩; go_simp)
      try simp only [Act.put]
      refine wpAnyH_take (i := 6) (v := .slice aG Gw.length cG) rfl (by kernel_rfl) (by kernel_rfl) (by kernel_rfl) (fun _ _ _ h => h) (Or.inl ⟨by rfl, ?y6p⟩) HSS ?r6p
      case y6p => (rintro ww ⟨q0, q1, q2⟩; go_simp)
      try simp only [Act.put]
      refine wpAnyH_take (i := 8) (v := .agg #[.bool (dyU S).1, .slice ad nd cd, .int .i64 (dyU S).2.2]) rfl (by kernel_rfl) (by kernel_rfl) (by kernel_rfl) (fun _ _ _ h => h) (Or.inl ⟨by rfl, ?y8p⟩) HSS ?r8p
      case y8p => (rintro ww ⟨q0, q1, q2⟩; go_simp)
      try simp only [Act.put]
      refine wpAnyH_take (i := 9) (v := .float .f64 b) rfl (by kernel_rfl) (by kernel_rfl) (by kernel_rfl) (fun _ _ _ h => h) (Or.inl ⟨by rfl, ?y9p⟩) HSS ?r9p
      case y9p => (rintro ww ⟨q0, q1, q2⟩; go_simp)
      try simp only [Act.put]
      refine wpAnyH_ready (rs := [7]) (by kernel_rfl) (by simp) ?_
      refine AllReadyH.cons rfl (fun K hK => ?_) AllReadyH.nil
      go_simp
      refine Calls.mono (all_calls aG Gw.length cG Gw _ KB hK2 FG (by omega) HGG.out.1 HGG.out.2.1) ?_
      rintro e wn ⟨_, rfl, ⟨a2, n2, c2, rfl, HN2, hO2⟩, bn⟩
      replace k0 := dcarry_cell bn k0
      replace k1 := dcarry_cell bn k1
      replace k2 := dcarry_cell bn k2
      replace FX := FX.keep bn
      replace FS := FS.keep bn
      replace FC := FC.keep bn
      replace FG := FG.keep bn
      replace IW := IW.keep bn
      replace bB := nbelow_trans bB bn
      have HSS := And.intro k0 (And.intro k1 k2)
      have J2 := hO2.1
      have hn2 : n2 ≤ 1024 := by
        rw [HN2.out]
        have h1 := (dyU_sz (Fp.sv Gw) KB (Nat.lt_of_le_of_lt (Fp.sv_abs Gw) HGG.out.2.1)).1
        exact (words_len2 _ _).2 (by omega)
      rw [HGG.out.2.2] at J2 ⊢
      clear hO2 bn HN2
      refine hK.out _ _ HSS (fun _ => ?_)
      clear hK K
      try simp only [Act.put, List.setIfInBounds_toArray, List.set_cons_zero, List.set_cons_succ]
      refine wpAnyH_ready (rs := [10]) (by kernel_rfl) (by simp) ?_
      refine AllReadyH.cons rfl (fun K hK => ?_) AllReadyH.nil
      go_simp
      refine Calls.mono (unumber_calls b _ HBW.out.1 HBW.out.2) ?_
      rintro e wn ⟨_, rfl, ⟨a3, n3, c3, rfl, HN3, hO3⟩, bn⟩
      replace k0 := dcarry_cell bn k0
      replace k1 := dcarry_cell bn k1
      replace k2 := dcarry_cell bn k2
      replace FX := FX.keep bn
      replace FS := FS.keep bn
      replace FC := FC.keep bn
      replace FG := FG.keep bn
      replace IW := IW.keep bn
      replace bB := nbelow_trans bB bn
      have HSS := And.intro k0 (And.intro k1 k2)
      have J3 := hO3.1
      replace J2 := J2.keep bn
      clear hO3 bn HN3
      refine hK.out _ _ HSS (fun _ => ?_)
      clear hK K
      try simp only [Act.put, List.setIfInBounds_toArray, List.set_cons_zero, List.set_cons_succ]
      refine wpAnyH_ready (rs := [11]) (by kernel_rfl) (by simp) ?_
      refine AllReadyH.cons rfl (fun K hK => ?_) AllReadyH.nil
      go_simp
      refine Calls.mono (uplus_calls S (EP.V b) KB HT.out.2.1 HT.out.2.2 hK2 ad a3 nd cd n3 c3 _ IW J3) ?_
      rintro e wn ⟨_, rfl, ⟨a4, n4, c4, rfl, HN4, hO4⟩, bn⟩
      replace k0 := dcarry_cell bn k0
      replace k1 := dcarry_cell bn k1
      replace k2 := dcarry_cell bn k2
      replace FX := FX.keep bn
      replace FS := FS.keep bn
      replace FC := FC.keep bn
      replace FG := FG.keep bn
      replace IW := IW.keep bn
      replace bB := nbelow_trans bB bn
      have HSS := And.intro k0 (And.intro k1 k2)
      have J4 := hO4.1
      replace J2 := J2.keep bn
      have hn4 : n4 ≤ 1024 := by
        rw [HN4.out]
        have h1 := (dyU_sz (S + EP.V b) KB (by rw [← HGG.out.2.2]; exact Nat.lt_of_le_of_lt (Fp.sv_abs Gw) HGG.out.2.1)).1
        exact (words_len2 _ _).2 (by omega)
      clear hO4 bn HN4 J3
      refine hK.out _ _ HSS (fun _ => ?_)
      clear hK K
      try simp only [Act.put, List.setIfInBounds_toArray, List.set_cons_zero, List.set_cons_succ]
      refine wpAnyH_ready (rs := [12]) (by kernel_rfl) (by simp) ?_
      refine AllReadyH.cons rfl (fun K hK => ?_) AllReadyH.nil
      go_simp
      refine Calls.mono (sameQ (dyU (S + EP.V b)) a2 n2 c2 a4 n4 c4 _ J2 (by omega) J4 (by omega)) ?_
      rintro e wn ⟨rfl, bn⟩
      replace k0 := dcarry_cell bn k0
      replace k1 := dcarry_cell bn k1
      replace k2 := dcarry_cell bn k2
      replace FX := FX.keep bn
      replace FS := FS.keep bn
      replace FC := FC.keep bn
      replace FG := FG.keep bn
      replace IW := IW.keep bn
      replace bB := nbelow_trans bB bn
      have HSS := And.intro k0 (And.intro k1 k2)
      clear bn J2 J4
      refine hK.out _ _ HSS (fun _ => ?_)
      clear hK K
      try simp only [Act.put, List.setIfInBounds_toArray, List.set_cons_zero, List.set_cons_succ]
      refine wpAnyH_take (i := 13) (v := .bool false) rfl (by kernel_rfl) (by kernel_rfl) (by kernel_rfl) (fun _ _ _ h => h) (Or.inl ⟨by rfl, ?y13p⟩) HSS ?r13p
      case y13p => (rintro ww ⟨q0, q1, q2⟩; go_simp)
      try simp only [Act.put]
      refine wpAnyH_take (i := 14) (v := .bool false) rfl (by kernel_rfl) (by kernel_rfl) (by kernel_rfl) (fun _ _ _ h => h) (Or.inl ⟨by rfl, ?y14p⟩) HSS ?r14p
      case y14p => (rintro ww ⟨q0, q1, q2⟩; go_simp)
      try simp only [Act.put]
      refine wpAnyH_take (i := 15) (v := .bool false) rfl (by kernel_rfl) (by kernel_rfl) (by kernel_rfl) (fun _ _ _ h => h) (Or.inl ⟨by rfl, ?y15p⟩) HSS ?r15p
      case y15p => (rintro ww ⟨q0, q1, q2⟩; go_simp)
      try simp only [Act.put]
      refine wpAnyH_take (i := 16) (v := .slice aS R.length cS) rfl (by kernel_rfl) (by kernel_rfl) (by kernel_rfl) (fun _ _ _ h => h) (Or.inl ⟨by rfl, ?y16p⟩) HSS ?r16p
      case y16p => (rintro ww ⟨q0, q1, q2⟩; go_simp)
      try simp only [Act.put]
      refine wpAnyH_take (i := 18) (v := .agg #[.bool (dyU S).1, .slice ad nd cd, .int .i64 (dyU S).2.2]) rfl (by kernel_rfl) (by kernel_rfl) (by kernel_rfl) (fun _ _ _ h => h) (Or.inl ⟨by rfl, ?y18p⟩) HSS ?r18p
      case y18p => (rintro ww ⟨q0, q1, q2⟩; go_simp)
      try simp only [Act.put]
      refine wpAnyH_ready (rs := [17]) (by kernel_rfl) (by simp) ?_
      refine AllReadyH.cons rfl (fun K hK => ?_) AllReadyH.nil
      go_simp
      refine Calls.mono (Fp.sign_calls aS R.length cS R _ FS (by omega)) ?_
      rintro e wn ⟨rfl, rfl⟩
      refine hK.out _ _ HSS (fun _ => ?_)
      clear hK K
      try simp only [Act.put, List.setIfInBounds_toArray, List.set_cons_zero, List.set_cons_succ]
      refine wpAnyH_ready (rs := [19]) (by kernel_rfl) (by simp) ?_
      refine AllReadyH.cons rfl (fun K hK => ?_) AllReadyH.nil
      go_simp
      refine Calls.mono (qSign_calls (dyU S).1 ad nd cd (wordsOf (dyU S).2.1) (dyU S).2.2 _ IW (by omega)) ?_
      rintro e wn ⟨rfl, bn⟩
      replace k0 := dcarry_cell bn k0
      replace k1 := dcarry_cell bn k1
      replace k2 := dcarry_cell bn k2
      replace FX := FX.keep bn
      replace FS := FS.keep bn
      replace FC := FC.keep bn
      replace FG := FG.keep bn
      replace IW := IW.keep bn
      replace bB := nbelow_trans bB bn
      have HSS := And.intro k0 (And.intro k1 k2)
      rw [val_words, HSG.out]
      clear bn
      refine hK.out _ _ HSS (fun _ => ?_)
      clear hK K
      try simp only [Act.put, List.setIfInBounds_toArray, List.set_cons_zero, List.set_cons_succ]
      generalize Fp.sgnF (Fp.lastF R) = sg at *
      refine wpAnyH_ready (rs := [20]) (by kernel_rfl) (by simp) ?_
      refine AllReadyH.cons rfl (fun K hK => ?_) AllReadyH.nil
      go_simp
      refine hK.out _ _ HSS (fun _ => ?_)
      clear hK K
      try simp only [Act.put, List.setIfInBounds_toArray, List.set_cons_zero, List.set_cons_succ]
      refine wpAnyH_ready (rs := [21]) (by kernel_rfl) (by simp) ?_
      refine AllReadyH.cons rfl (fun K hK => ?_) AllReadyH.nil
      go_simp
      refine hK.out _ _ HSS (fun _ => ?_)
      clear hK K
      try simp only [Act.put, List.setIfInBounds_toArray, List.set_cons_zero, List.set_cons_succ]
      refine wpAnyH_done (by kernel_rfl) ?_ _
      have H0 : Hid ((wn.cell? ⟨D, 0, none⟩ = some (.bool (dyU S).1) ∧ wn.cell? ⟨D, 1, none⟩ = some (.slice ad nd cd) ∧ wn.cell? ⟨D, 2, none⟩ = some (.int .i64 (dyU S).2.2)) ∧ IsW wn ad nd cd (wordsOf (dyU S).2.1) ∧ Fp.IsF wn a len cap xs ∧ Fp.IsF wn aC C.length cC C ∧ Below w.heap.size w wn) := ⟨HSS, IW, FX, FC, bB⟩
      clear k0 k1 k2 FX FS FC FG IW bB HSS HRR HSG HGG HG
      go_wp2_with fail
      go_loopw [56] (fun vi wr => ∃ k : Nat, k ≤ len ∧ vi = .int .i64 k ∧ Hid ((wr.cell? ⟨D, 0, none⟩ = some (.bool (dyU S).1) ∧ wr.cell? ⟨D, 1, none⟩ = some (.slice ad nd cd) ∧ wr.cell? ⟨D, 2, none⟩ = some (.int .i64 (dyU S).2.2)) ∧ IsW wr ad nd cd (wordsOf (dyU S).2.1) ∧ Fp.IsF wr a len cap xs ∧ Fp.IsF wr aC C.length cC C ∧ Below w.heap.size w wr)) (fun vi _ => len - (intOf vi).toNat)
      case atStart => exact ⟨0, Nat.zero_le _, rfl, H0⟩
      case round =>
        clear H0
        obtain ⟨k, hk, rfl, HI⟩ := hrel
        obtain ⟨⟨k0, k1, k2⟩, IW, FX, FC, bB⟩ := HI.out
        clear HI
        by_cases hlt : k < len
        · obtain ⟨bb, off, hae, hbl, hc⟩ := FX.2.2 k hlt
          have hx := HXX.out k hlt
          obtain ⟨x, hxe⟩ : ∃ x, x = xs.getD k 0 := ⟨_, rfl⟩
          rw [← hxe] at hc hx
          have HX : Hid (x < 18446744073709551616 ∧ EP.finB x = true ∧ (EP.V x).natAbs < 2 ^ KB) := hx
          have FXH : Hid (Fp.IsF wr a len cap xs) := FX
          subst hae
          clear hxe hx FX
          go_wp2_with fail
          refine Calls.mono (unumber_calls x wr HX.out.1 HX.out.2.1) ?_
          rintro e w2 ⟨_, rfl, ⟨a2, n2, c2, rfl, HN2, hO2⟩, b2⟩
          have J2 := hO2.1
          clear HN2 hO2 hc hbl
          go_wp2_with fail
          refine Calls.mono (unumber_calls b w2 HBW.out.1 HBW.out.2) ?_
          rintro e w3 ⟨_, rfl, ⟨a3, n3, c3, rfl, HN3, hO3⟩, b3⟩
          have J3 := hO3.1
          replace J2 := J2.keep b3
          have b23 := nbelow_trans b2 b3
          clear HN3 hO3 b2 b3
          go_wp2_with fail
          refine Calls.mono (utimes_calls (EP.V x) (EP.V b) KB HX.out.2.2 HT.out.2.2 hK2 a2 a3 n2 c2 n3 c3 w3 J2 J3) ?_
          rintro e w4 ⟨_, rfl, ⟨a4, n4, c4, rfl, HN4, hO4⟩, b4⟩
          have hsz := mul_sz (EP.V x) (EP.V b) KB HX.out.2.2 HT.out.2.2
          obtain ⟨P, hP⟩ : ∃ P, P = mulD (dyU (EP.V x)) (dyU (EP.V b)) := ⟨_, rfl⟩
          rw [← hP] at HN4 hO4 hsz ⊢
          have b24 := nbelow_trans b23 b4
          have bZ := below_one w4 (.cells #[.bool P.1, .slice a4 n4 c4, .int .i64 P.2.2] 32)
          have J4 := hO4.1.keep bZ
          have b25 := nbelow_trans b24 bZ
          have h0 : (w4.alloc (.cells #[.bool P.1, .slice a4 n4 c4, .int .i64 P.2.2] 32)).cell? ⟨w4.heap.size, 0, none⟩ = some (.bool P.1) := by go_simp
          have h1 : (w4.alloc (.cells #[.bool P.1, .slice a4 n4 c4, .int .i64 P.2.2] 32)).cell? ⟨w4.heap.size, 1, none⟩ = some (.slice a4 n4 c4) := by go_simp
          have h2 : (w4.alloc (.cells #[.bool P.1, .slice a4 n4 c4, .int .i64 P.2.2] 32)).cell? ⟨w4.heap.size, 2, none⟩ = some (.int .i64 P.2.2) := by go_simp
          have hn4 : n4 ≤ 4096 := by rw [HN4.out]; exact (words_len2 _ _).2 (by omega)
          have TC : Hid _ := qTop_calls P.1 a4 n4 c4 (wordsOf P.2.1) P.2.2 _ J4 (by omega) (by omega) (by rw [val_words]; omega)
          rw [val_words] at TC
          have hTb : -3000 ≤ P.2.2 + (blen P.2.1 : Int) - 1 ∧ P.2.2 + (blen P.2.1 : Int) - 1 ≤ 1000000 := by omega
          generalize P.2.2 + (blen P.2.1 : Int) - 1 = T at *
          clear hP hO4 HN4 b23 b24 b4 J2 J3 bZ hsz
          go_wp2_with fail
          generalize w4.alloc (.cells #[.bool P.1, .slice a4 n4 c4, .int .i64 P.2.2] 32) = w5 at *
          generalize w4.heap.size = Q at *
          refine Calls.mono TC.out ?_
          rintro e w6 ⟨rfl, b6⟩
          replace J4 := J4.keep b6
          have b26 := nbelow_trans b25 b6
          replace h1 := dcarry_cell b6 h1
          clear TC h0 h2 b25 b6
          have HNX : Hid ((w6.cell? ⟨D, 0, none⟩ = some (.bool (dyU S).1) ∧ w6.cell? ⟨D, 1, none⟩ = some (.slice ad nd cd) ∧ w6.cell? ⟨D, 2, none⟩ = some (.int .i64 (dyU S).2.2)) ∧ IsW w6 ad nd cd (wordsOf (dyU S).2.1) ∧ Fp.IsF w6 (some ⟨bb, off, none⟩) len cap xs ∧ Fp.IsF w6 aC C.length cC C ∧ Below w.heap.size w w6) := ⟨⟨dcarry_cell b26 k0, dcarry_cell b26 k1, dcarry_cell b26 k2⟩, IW.keep b26, Fp.IsF.keep FXH.out b26, FC.keep b26, nbelow_trans bB b26⟩
          clear k0 k1 k2 IW FC bB b26 FXH
          by_cases hT : T < -900
          · have LC : Hid _ := nLen_calls a4 n4 c4 (wordsOf P.2.1) w6 J4 (by omega)
            rw [val_words] at LC
            go_wp2_with fail
            refine Calls.mono LC.out ?_
            rintro e w7 ⟨rfl, b7⟩
            have HNY : Hid ((w7.cell? ⟨D, 0, none⟩ = some (.bool (dyU S).1) ∧ w7.cell? ⟨D, 1, none⟩ = some (.slice ad nd cd) ∧ w7.cell? ⟨D, 2, none⟩ = some (.int .i64 (dyU S).2.2)) ∧ IsW w7 ad nd cd (wordsOf (dyU S).2.1) ∧ Fp.IsF w7 (some ⟨bb, off, none⟩) len cap xs ∧ Fp.IsF w7 aC C.length cC C ∧ Below w.heap.size w w7) := ⟨⟨dcarry_cell b7 HNX.out.1.1, dcarry_cell b7 HNX.out.1.2.1, dcarry_cell b7 HNX.out.1.2.2⟩, IsW.keep HNX.out.2.1 b7, Fp.IsF.keep HNX.out.2.2.1 b7, Fp.IsF.keep HNX.out.2.2.2.1 b7, nbelow_trans HNX.out.2.2.2.2 b7⟩
            clear LC HNX b7 h1
            by_cases hL : 0 < blen P.2.1
            · go_wp2_with fail
              go_ret
              exact ⟨rfl, HNY.out.2.2.2.2⟩
            · have hL0 : blen P.2.1 = 0 := by omega
              go_wp2_with fail
              exact ⟨⟨k + 1, by omega, by go_num, HNY⟩, by simp [intOf]; omega⟩
          · go_wp2_with fail
            exact ⟨⟨k + 1, by omega, by go_num, HNX⟩, by simp [intOf]; omega⟩
        · skip
          go_upto_region 18 with fail
          have bw : Below wr.heap.size wr wr.drew := (Below.refl _ _).drew
          refine wp_region_held (S := fun w' => w'.cell? ⟨D, 0, none⟩ = some (.bool (dyU S).1) ∧ w'.cell? ⟨D, 1, none⟩ = some (.slice ad nd cd) ∧ w'.cell? ⟨D, 2, none⟩ = some (.int .i64 (dyU S).2.2)) (by kernel_rfl) ?_
          change wpAnyH _ _ _ _ _ _ _ _ (World.drew wr)
          replace k0 := dcarry_cell bw k0
          replace k1 := dcarry_cell bw k1
          replace k2 := dcarry_cell bw k2
          replace IW := IW.keep bw
          replace FC := FC.keep bw
          replace bB := nbelow_trans bB bw
          have HSS := And.intro k0 (And.intro k1 k2)
          clear bw
          generalize World.drew wr = wd at *
          refine wpAnyH_take (i := 0) (v := .slice aC C.length cC) rfl (by kernel_rfl) (by kernel_rfl) (by kernel_rfl) (fun _ _ _ h => h) (Or.inl ⟨by rfl, ?y0z⟩) HSS ?r0z
          case y0z => (rintro ww ⟨q0, q1, q2⟩; go_simp)
          try simp only [Act.put]
          refine wpAnyH_take (i := 2) (v := .agg #[.bool (dyU S).1, .slice ad nd cd, .int .i64 (dyU S).2.2]) rfl (by kernel_rfl) (by kernel_rfl) (by kernel_rfl) (fun _ _ _ h => h) (Or.inl ⟨by rfl, ?y2z⟩) HSS ?r2z
          case y2z => (rintro ww ⟨q0, q1, q2⟩; go_simp)
          try simp only [Act.put]
          refine wpAnyH_take (i := 3) (v := .float .f64 b) rfl (by kernel_rfl) (by kernel_rfl) (by kernel_rfl) (fun _ _ _ h => h) (Or.inl ⟨by rfl, ?y3z⟩) HSS ?r3z
          case y3z => (rintro ww ⟨q0, q1, q2⟩; go_simp)
          try simp only [Act.put]
          refine wpAnyH_ready (rs := [1]) (by kernel_rfl) (by simp) ?_
          refine AllReadyH.cons rfl (fun K hK => ?_) AllReadyH.nil
          go_simp
          refine Calls.mono (all_calls aC C.length cC C _ KB hK2 FC (by omega) HCC.out.1 HCC.out.2.1) ?_
          rintro e wn ⟨_, rfl, ⟨a5, n5, c5, rfl, HN5, hO5⟩, bn⟩
          replace k0 := dcarry_cell bn k0
          replace k1 := dcarry_cell bn k1
          replace k2 := dcarry_cell bn k2
          replace IW := IW.keep bn
          replace FC := FC.keep bn
          replace bB := nbelow_trans bB bn
          have HSS := And.intro k0 (And.intro k1 k2)
          have J5 := hO5.1
          have hn5 : n5 ≤ 1024 := by
            rw [HN5.out]
            have h1 := (dyU_sz (Fp.sv C) KB (Nat.lt_of_le_of_lt (Fp.sv_abs C) HCC.out.2.1)).1
            exact (words_len2 _ _).2 (by omega)
          clear hO5 bn HN5
          refine hK.out _ _ HSS (fun _ => ?_)
          clear hK K
          try simp only [Act.put, List.setIfInBounds_toArray, List.set_cons_zero, List.set_cons_succ]
          refine wpAnyH_ready (rs := [4]) (by kernel_rfl) (by simp) ?_
          refine AllReadyH.cons rfl (fun K hK => ?_) AllReadyH.nil
          go_simp
          refine Calls.mono (unumber_calls b _ HBW.out.1 HBW.out.2) ?_
          rintro e wn ⟨_, rfl, ⟨a6, n6, c6, rfl, HN6, hO6⟩, bn⟩
          replace k0 := dcarry_cell bn k0
          replace k1 := dcarry_cell bn k1
          replace k2 := dcarry_cell bn k2
          replace IW := IW.keep bn
          replace FC := FC.keep bn
          replace bB := nbelow_trans bB bn
          have HSS := And.intro k0 (And.intro k1 k2)
          have J6 := hO6.1
          replace J5 := J5.keep bn
          clear hO6 bn HN6
          refine hK.out _ _ HSS (fun _ => ?_)
          clear hK K
          try simp only [Act.put, List.setIfInBounds_toArray, List.set_cons_zero, List.set_cons_succ]
          refine wpAnyH_ready (rs := [5]) (by kernel_rfl) (by simp) ?_
          refine AllReadyH.cons rfl (fun K hK => ?_) AllReadyH.nil
          go_simp
          refine Calls.mono (utimes_calls S (EP.V b) KB HT.out.2.1 HT.out.2.2 hK2 ad a6 nd cd n6 c6 _ IW J6) ?_
          rintro e wn ⟨_, rfl, ⟨a7, n7, c7, rfl, HN7, hO7⟩, bn⟩
          replace k0 := dcarry_cell bn k0
          replace k1 := dcarry_cell bn k1
          replace k2 := dcarry_cell bn k2
          replace IW := IW.keep bn
          replace FC := FC.keep bn
          replace bB := nbelow_trans bB bn
          have HSS := And.intro k0 (And.intro k1 k2)
          rw [dyU_mul (Fp.sv C) S (EP.V b) HCC.out.2.2] at hO7 HN7 ⊢
          have J7 := hO7.1
          replace J5 := J5.keep bn
          have hn7 : n7 ≤ 1024 := by
            rw [HN7.out]
            have h1 := (dyU_sz (Fp.sv C) KB (Nat.lt_of_le_of_lt (Fp.sv_abs C) HCC.out.2.1)).1
            exact (words_len2 _ _).2 (by omega)
          clear hO7 bn HN7 J6
          refine hK.out _ _ HSS (fun _ => ?_)
          clear hK K
          try simp only [Act.put, List.setIfInBounds_toArray, List.set_cons_zero, List.set_cons_succ]
          refine wpAnyH_ready (rs := [6]) (by kernel_rfl) (by simp) ?_
          refine AllReadyH.cons rfl (fun K hK => ?_) AllReadyH.nil
          go_simp
          refine Calls.mono (sameQ (dyU (Fp.sv C)) a5 n5 c5 a7 n7 c7 _ J5 (by omega) J7 (by omega)) ?_
          rintro e wn ⟨rfl, bn⟩
          replace k0 := dcarry_cell bn k0
          replace k1 := dcarry_cell bn k1
          replace k2 := dcarry_cell bn k2
          replace IW := IW.keep bn
          replace FC := FC.keep bn
          replace bB := nbelow_trans bB bn
          have HSS := And.intro k0 (And.intro k1 k2)
          clear bn J5 J7
          refine hK.out _ _ HSS (fun _ => ?_)
          clear hK K
          try simp only [Act.put, List.setIfInBounds_toArray, List.set_cons_zero, List.set_cons_succ]
          refine wpAnyH_ready (rs := [7]) (by kernel_rfl) (by simp) ?_
          refine AllReadyH.cons rfl (fun K hK => ?_) AllReadyH.nil
          go_simp
          refine hK.out _ _ HSS (fun _ => ?_)
          clear hK K
          try simp only [Act.put, List.setIfInBounds_toArray, List.set_cons_zero, List.set_cons_succ]
          refine wpAnyH_done (by kernel_rfl) ?_ _
          go_wp2_with fail
          go_ret
          exact ⟨rfl, bB⟩
end Go.Proofs.Ytccbpbgiiajdkaa

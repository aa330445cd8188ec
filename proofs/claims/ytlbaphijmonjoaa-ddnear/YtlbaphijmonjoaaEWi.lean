/- The statement on sums, products and quotients of pairs: how near they lie. -/
import Derived.Test.YtlbaphijmonjoaaEWX
import Derived.Test.YtlbaphijmonjoaaEWh
namespace Go.Proofs.Ytlbaphijmonjoaa
open Go.RowKit

attribute [local go_sem ↓] Go.wp_at_zero Go.wp_at_succ
attribute [local go_sem] Fp.ran_store

namespace Fp
open EP
theorem mul_lt2 {u v : Int} {a K : Nat} (hu : u.natAbs < 2 ^ a) (hv : v.natAbs < 2 ^ a) (h : a + a ≤ K) : (u * v).natAbs < 2 ^ K := by
  rw [Int.natAbs_mul]
  refine Nat.lt_of_lt_of_le (Nat.mul_lt_mul'' hu hv) ?_
  rw [← Nat.pow_add]
  exact Nat.pow_le_pow_right (by decide) h
theorem two_bd {s t n a : Nat} (hs : bd s n) (ht : bd t n) (h : n + 2 ≤ a) : (V s + V t).natAbs < 2 ^ a := by
  have h1 := hs.2
  have h2 := ht.2
  have h3 : 4 * 2 ^ n ≤ 2 ^ a := by
    rw [show (4 : Nat) = 2 ^ 2 by decide, ← Nat.pow_add]
    exact Nat.pow_le_pow_right (by decide) (by omega)
  have h4 := Nat.two_pow_pos n
  omega
theorem sub_lt {u v : Int} {a K : Nat} (hu : u.natAbs < 2 ^ a) (hv : v.natAbs < 2 ^ a) (h : a + 1 ≤ K) : (u - v).natAbs < 2 ^ K ∧ (u + v).natAbs < 2 ^ K := by
  have h3 : 2 * 2 ^ a ≤ 2 ^ K := by rw [← Nat.pow_succ']; exact Nat.pow_le_pow_right (by decide) h
  omega
theorem up_lt {u : Int} {a K : Nat} (hu : u.natAbs < 2 ^ a) (h : a ≤ K) : u.natAbs < 2 ^ K := Nat.lt_of_lt_of_le hu (Nat.pow_le_pow_right (by decide) h)
theorem shl_le {u v : Nat} (h : 5070602400912917605986812821504 * u ≤ v) : u * 2 ^ 102 ≤ v := by
  rw [show (2 : Nat) ^ 102 = 5070602400912917605986812821504 by decide, Nat.mul_comm]; exact h
end Fp

set_option maxRecDepth 100000 in
set_option maxHeartbeats 16000000 in
theorem ddNear_walk (xh xl yh yl : Nat) (w : World) (wxh : xh < 18446744073709551616) (wxl : xl < 18446744073709551616) (wyh : yh < 18446744073709551616) (wyl : yl < 18446744073709551616) :
    Calls Try.prog 3 #[.agg #[.float .f64 xh, .float .f64 xl], .agg #[.float .f64 yh, .float .f64 yl]] w fun e w' => e = .returned (.bool true) ∧ Below w.heap.size w w' := by
  have HW : Hid (xh < 18446744073709551616 ∧ xl < 18446744073709551616 ∧ yh < 18446744073709551616 ∧ yl < 18446744073709551616) := ⟨wxh, wxl, wyh, wyl⟩
  clear wxh wxl wyh wyl
  have bB : Below w.heap.size w ((w.alloc (.cells #[.float .f64 xh, .float .f64 xl] 24)).alloc (.cells #[.float .f64 yh, .float .f64 yl] 24)) := nbelow_trans (below_one _ _) (below_one _ _)
  have a0 : ((w.alloc (.cells #[.float .f64 xh, .float .f64 xl] 24)).alloc (.cells #[.float .f64 yh, .float .f64 yl] 24)).cell? ⟨w.heap.size, 0, none⟩ = some (.float .f64 xh) := by go_simp
  have a1 : ((w.alloc (.cells #[.float .f64 xh, .float .f64 xl] 24)).alloc (.cells #[.float .f64 yh, .float .f64 yl] 24)).cell? ⟨w.heap.size, 1, none⟩ = some (.float .f64 xl) := by go_simp
  have b0 : ((w.alloc (.cells #[.float .f64 xh, .float .f64 xl] 24)).alloc (.cells #[.float .f64 yh, .float .f64 yl] 24)).cell? ⟨w.heap.size + 1, 0, none⟩ = some (.float .f64 yh) := by go_simp
  have b1 : ((w.alloc (.cells #[.float .f64 xh, .float .f64 xl] 24)).alloc (.cells #[.float .f64 yh, .float .f64 yl] 24)).cell? ⟨w.heap.size + 1, 1, none⟩ = some (.float .f64 yl) := by go_simp
  go_enter Try.func3, Try.ntmps3
  go_wp2_with fail
  generalize ((w.alloc (.cells #[.float .f64 xh, .float .f64 xl] 24)).alloc (.cells #[.float .f64 yh, .float .f64 yl] 24)) = w0 at *
  refine Calls.mono (Fp.dBegins_calls _) ?_
  rintro e w1 ⟨rfl, bn⟩
  replace a0 := dcarry_cell bn a0
  replace a1 := dcarry_cell bn a1
  replace b0 := dcarry_cell bn b0
  replace b1 := dcarry_cell bn b1
  replace bB := nbelow_trans bB bn
  clear bn
  go_wp2_with fail
  refine Calls.mono (Fp.dRight_calls xh xl _ HW.out.1) ?_
  rintro e w2 ⟨rfl, bn⟩
  replace a0 := dcarry_cell bn a0
  replace a1 := dcarry_cell bn a1
  replace b0 := dcarry_cell bn b0
  replace b1 := dcarry_cell bn b1
  replace bB := nbelow_trans bB bn
  clear bn
  cases hr1 : Fp.rightP xh xl with
  | false =>
    go_wp2_with fail
    go_ret
    exact ⟨rfl, bB⟩
  | true =>
    go_wp2_with fail
    refine Calls.mono (Fp.dRight_calls yh yl _ HW.out.2.2.1) ?_
    rintro e w3 ⟨rfl, bn⟩
    replace a0 := dcarry_cell bn a0
    replace a1 := dcarry_cell bn a1
    replace b0 := dcarry_cell bn b0
    replace b1 := dcarry_cell bn b1
    replace bB := nbelow_trans bB bn
    clear bn
    cases hr2 : Fp.rightP yh yl with
    | false =>
      go_wp2_with fail
      go_ret
      exact ⟨rfl, bB⟩
    | true =>
      obtain ⟨D, hD⟩ : ∃ D : Nat, D = 1074 := ⟨_, rfl⟩
      obtain ⟨K, hK⟩ : ∃ K : Nat, K = 4000 := ⟨_, rfl⟩
      obtain ⟨x1, x2, -, -⟩ := Fp.right_form xh xl hr1
      obtain ⟨y1, y2, -, yz⟩ := Fp.right_form yh yl hr2
      obtain ⟨⟨s1, t1, n1, k1⟩, ⟨s2, t2, n2, k2⟩, ⟨s3, t3, n3, k3⟩, k4⟩ := Fp.near_all xh xl yh yl D hD HW.out.2.2.1 HW.out.2.2.2 hr1 hr2
      have HR : Hid ((Fp.rightP yh yl && Fp.rightP xh xl) = true) := by rw [Hid, hr1, hr2]; rfl
      have HFX : Hid (EP.finB xh = true ∧ EP.finB xl = true ∧ EP.finB yh = true ∧ EP.finB yl = true) := ⟨x1.1, x2.1, y1.1, y2.1⟩
      obtain ⟨a9, h9⟩ : ∃ a : Nat, a = 1850 := ⟨_, rfl⟩
      have uH : (EP.V xh + EP.V xl).natAbs < 2 ^ a9 := Fp.two_bd x1 x2 (by omega)
      have uX : (EP.V yh + EP.V yl).natAbs < 2 ^ a9 := Fp.two_bd y1 y2 (by omega)
      have uP : ∀ s t, EP.bd s 1800 → EP.bd t 1800 → (EP.V s + EP.V t).natAbs < 2 ^ a9 := fun s t i j => Fp.two_bd i j (by omega)
      have uD : (((2 ^ D : Nat) : Int)).natAbs < 2 ^ a9 := by rw [Int.natAbs_natCast]; exact Nat.pow_lt_pow_right (by decide) (by omega)
      have HQ : Hid (Fp.isZ yh = false → ∃ s t, Fp.NearP (Fp.quoP xh xl yh yl) s t ∧ ((EP.V s + EP.V t) * (EP.V yh + EP.V yl) - (EP.V xh + EP.V xl) * ((2 ^ D : Nat) : Int)).natAbs * 2 ^ 102 ≤ ((EP.V xh + EP.V xl) * ((2 ^ D : Nat) : Int)).natAbs ∧ (EP.V s + EP.V t).natAbs < 2 ^ K ∧ ((EP.V s + EP.V t) * (EP.V yh + EP.V yl)).natAbs < 2 ^ K ∧ ((EP.V s + EP.V t) * (EP.V yh + EP.V yl) - (EP.V xh + EP.V xl) * ((2 ^ D : Nat) : Int)).natAbs < 2 ^ K) := fun z => by
        obtain ⟨s, t, n, k⟩ := k4 z
        have u := uP s t n.2.1 n.2.2.1
        exact ⟨s, t, n, Fp.shl_le k, Fp.up_lt u (by omega), Fp.mul_lt2 u uX (by omega), (Fp.sub_lt (Fp.mul_lt2 (K := 3990) u uX (by omega)) (Fp.mul_lt2 (K := 3990) uH uD (by omega)) (by omega)).1⟩
      have v1 := uP s1 t1 n1.2.1 n1.2.2.1
      have v2 := uP s2 t2 n2.2.1 n2.2.2.1
      have v3 := uP s3 t3 n3.2.1 n3.2.2.1
      have c1 := Fp.sub_lt uH uX (Nat.le_refl _)
      have HN1 : Hid (Fp.NearP (Fp.sumP xh xl yh yl) s1 t1 ∧ Fp.NearP (Fp.diffP xh xl yh yl) s2 t2 ∧ Fp.NearP (Fp.prodP xh xl yh yl) s3 t3) := ⟨n1, n2, n3⟩
      have HS : Hid ((EP.V xh + EP.V xl).natAbs < 2 ^ K ∧ (EP.V yh + EP.V yl).natAbs < 2 ^ K ∧ (EP.V s1 + EP.V t1).natAbs < 2 ^ K ∧ (EP.V s2 + EP.V t2).natAbs < 2 ^ K ∧ (EP.V s3 + EP.V t3).natAbs < 2 ^ K) := ⟨Fp.up_lt uH (by omega), Fp.up_lt uX (by omega), Fp.up_lt v1 (by omega), Fp.up_lt v2 (by omega), Fp.up_lt v3 (by omega)⟩
      have HK1 : Hid ((EP.V s1 + EP.V t1 - (EP.V xh + EP.V xl + (EP.V yh + EP.V yl))).natAbs * 2 ^ 102 ≤ (EP.V xh + EP.V xl + (EP.V yh + EP.V yl)).natAbs ∧ (EP.V s1 + EP.V t1 - (EP.V xh + EP.V xl + (EP.V yh + EP.V yl))).natAbs < 2 ^ K ∧ (EP.V xh + EP.V xl + (EP.V yh + EP.V yl)).natAbs < 2 ^ K) := ⟨Fp.shl_le k1, (Fp.sub_lt (Fp.up_lt v1 (Nat.le_succ a9)) c1.2 (by omega)).1, Fp.up_lt c1.2 (by omega)⟩
      have HK2 : Hid ((EP.V s2 + EP.V t2 - (EP.V xh + EP.V xl - (EP.V yh + EP.V yl))).natAbs * 2 ^ 102 ≤ (EP.V xh + EP.V xl - (EP.V yh + EP.V yl)).natAbs ∧ (EP.V s2 + EP.V t2 - (EP.V xh + EP.V xl - (EP.V yh + EP.V yl))).natAbs < 2 ^ K ∧ (EP.V xh + EP.V xl - (EP.V yh + EP.V yl)).natAbs < 2 ^ K) := ⟨Fp.shl_le k2, (Fp.sub_lt (Fp.up_lt v2 (Nat.le_succ a9)) c1.1 (by omega)).1, Fp.up_lt c1.1 (by omega)⟩
      have HK3 : Hid (((EP.V s3 + EP.V t3) * ((2 ^ D : Nat) : Int) - (EP.V xh + EP.V xl) * (EP.V yh + EP.V yl)).natAbs * 2 ^ 102 ≤ ((EP.V xh + EP.V xl) * (EP.V yh + EP.V yl)).natAbs ∧ ((EP.V s3 + EP.V t3) * ((2 ^ D : Nat) : Int) - (EP.V xh + EP.V xl) * (EP.V yh + EP.V yl)).natAbs < 2 ^ K ∧ ((EP.V xh + EP.V xl) * (EP.V yh + EP.V yl)).natAbs < 2 ^ K ∧ ((EP.V s3 + EP.V t3) * ((2 ^ D : Nat) : Int)).natAbs < 2 ^ K ∧ ((EP.V xh + EP.V xl) * ((2 ^ D : Nat) : Int)).natAbs < 2 ^ K) := ⟨Fp.shl_le k3, (Fp.sub_lt (Fp.mul_lt2 (K := 3990) v3 uD (by omega)) (Fp.mul_lt2 (K := 3990) uH uX (by omega)) (by omega)).1, Fp.mul_lt2 uH uX (by omega), Fp.mul_lt2 v3 uD (by omega), Fp.mul_lt2 uH uD (by omega)⟩
      have hK2 : K ≤ 4000 := by omega
      have HD : Hid (D = 1074) := hD
      have HYZ : Hid (Fp.isZ yh = true → Fp.isZ yl = true) := by
        rw [Hid]
        intro z
        unfold Fp.rightP at hr2
        rw [z, if_pos rfl] at hr2
        exact hr2
      have HR1 : Hid (Fp.rightP xh xl = true) := hr1
      clear x1 x2 y1 y2 yz k1 k2 k3 k4 uH uX uP uD v1 v2 v3 c1 n1 n2 n3 hD hK h9 hr1 hr2
      obtain ⟨H, hH⟩ : ∃ H, H = EP.V xh + EP.V xl := ⟨_, rfl⟩
      obtain ⟨X, hX⟩ : ∃ X, X = EP.V yh + EP.V yl := ⟨_, rfl⟩
      have XH : Hid (∀ W, _) := fun W => uexact_calls xh xl W HW.out.1 HW.out.2.1 HFX.out.1 HFX.out.2.1
      have XX : Hid (∀ W, _) := fun W => uexact_calls yh yl W HW.out.2.2.1 HW.out.2.2.2 HFX.out.2.2.1 HFX.out.2.2.2
      rw [← hH] at XH HS HK1 HK2 HK3 HQ
      rw [← hX] at XX HS HK1 HK2 HK3 HQ
      clear hH hX
      go_wp2_with fail
      refine Calls.mono (XH.out _) ?_
      rintro e w4 ⟨_, rfl, ⟨aH, nH, cH, rfl, HNH, hOH⟩, bn⟩
      have IH := hOH.1
      clear hOH HNH
      replace a0 := dcarry_cell bn a0
      replace a1 := dcarry_cell bn a1
      replace b0 := dcarry_cell bn b0
      replace b1 := dcarry_cell bn b1
      replace bB := nbelow_trans bB bn
      clear bn
      have bA := below_one w4 (.cells #[.bool (dyU H).1, .slice aH nH cH, .int .i64 (dyU H).2.2] 30)
      replace a0 := dcarry_cell bA a0
      replace a1 := dcarry_cell bA a1
      replace b0 := dcarry_cell bA b0
      replace b1 := dcarry_cell bA b1
      replace IH := IH.keep bA
      replace bB := nbelow_trans bB bA
      clear bA
      have h0 : (w4.alloc (.cells #[.bool (dyU H).1, .slice aH nH cH, .int .i64 (dyU H).2.2] 30)).cell? ⟨w4.heap.size, 0, none⟩ = some (.bool (dyU H).1) := by go_simp
      have h1 : (w4.alloc (.cells #[.bool (dyU H).1, .slice aH nH cH, .int .i64 (dyU H).2.2] 30)).cell? ⟨w4.heap.size, 1, none⟩ = some (.slice aH nH cH) := by go_simp
      have h2 : (w4.alloc (.cells #[.bool (dyU H).1, .slice aH nH cH, .int .i64 (dyU H).2.2] 30)).cell? ⟨w4.heap.size, 2, none⟩ = some (.int .i64 (dyU H).2.2) := by go_simp
      go_wp2_with fail
      generalize (w4.alloc (.cells #[.bool (dyU H).1, .slice aH nH cH, .int .i64 (dyU H).2.2] 30)) = w5 at *
      refine Calls.mono (XX.out _) ?_
      rintro e w6 ⟨_, rfl, ⟨aX, nX, cX, rfl, HNX, hOX⟩, bn⟩
      have IX := hOX.1
      clear hOX HNX
      replace a0 := dcarry_cell bn a0
      replace a1 := dcarry_cell bn a1
      replace b0 := dcarry_cell bn b0
      replace b1 := dcarry_cell bn b1
      replace h0 := dcarry_cell bn h0
      replace h1 := dcarry_cell bn h1
      replace h2 := dcarry_cell bn h2
      replace IH := IH.keep bn
      replace bB := nbelow_trans bB bn
      clear bn
      have bA := below_one w6 (.cells #[.bool (dyU X).1, .slice aX nX cX, .int .i64 (dyU X).2.2] 30)
      replace a0 := dcarry_cell bA a0
      replace a1 := dcarry_cell bA a1
      replace b0 := dcarry_cell bA b0
      replace b1 := dcarry_cell bA b1
      replace h0 := dcarry_cell bA h0
      replace h1 := dcarry_cell bA h1
      replace h2 := dcarry_cell bA h2
      replace IH := IH.keep bA
      replace IX := IX.keep bA
      replace bB := nbelow_trans bB bA
      clear bA
      have x0 : (w6.alloc (.cells #[.bool (dyU X).1, .slice aX nX cX, .int .i64 (dyU X).2.2] 30)).cell? ⟨w6.heap.size, 0, none⟩ = some (.bool (dyU X).1) := by go_simp
      have x1 : (w6.alloc (.cells #[.bool (dyU X).1, .slice aX nX cX, .int .i64 (dyU X).2.2] 30)).cell? ⟨w6.heap.size, 1, none⟩ = some (.slice aX nX cX) := by go_simp
      have x2 : (w6.alloc (.cells #[.bool (dyU X).1, .slice aX nX cX, .int .i64 (dyU X).2.2] 30)).cell? ⟨w6.heap.size, 2, none⟩ = some (.int .i64 (dyU X).2.2) := by go_simp
      go_wp2_with fail
      generalize (w6.alloc (.cells #[.bool (dyU X).1, .slice aX nX cX, .int .i64 (dyU X).2.2] 30)) = w7 at *
      refine Calls.mono (Fp.dAdd_calls xh xl yh yl _ HW.out.1 HW.out.2.2.1) ?_
      rintro e w8 ⟨sa, ta, rfl, bn, A, Z⟩
      rw [show sa = s1 from (A HR.out _ HN1.out.1.1).1, show ta = t1 from (A HR.out _ HN1.out.1.1).2, HR.out]
      clear A Z
      replace a0 := dcarry_cell bn a0
      replace a1 := dcarry_cell bn a1
      replace b0 := dcarry_cell bn b0
      replace b1 := dcarry_cell bn b1
      replace h0 := dcarry_cell bn h0
      replace h1 := dcarry_cell bn h1
      replace h2 := dcarry_cell bn h2
      replace x0 := dcarry_cell bn x0
      replace x1 := dcarry_cell bn x1
      replace x2 := dcarry_cell bn x2
      replace IH := IH.keep bn
      replace IX := IX.keep bn
      replace bB := nbelow_trans bB bn
      clear bn
      have bA := below_one w8 (.cells #[.float .f64 s1, .float .f64 t1] 24)
      replace a0 := dcarry_cell bA a0
      replace a1 := dcarry_cell bA a1
      replace b0 := dcarry_cell bA b0
      replace b1 := dcarry_cell bA b1
      replace h0 := dcarry_cell bA h0
      replace h1 := dcarry_cell bA h1
      replace h2 := dcarry_cell bA h2
      replace x0 := dcarry_cell bA x0
      replace x1 := dcarry_cell bA x1
      replace x2 := dcarry_cell bA x2
      replace IH := IH.keep bA
      replace IX := IX.keep bA
      replace bB := nbelow_trans bB bA
      clear bA
      have p0 : (w8.alloc (.cells #[.float .f64 s1, .float .f64 t1] 24)).cell? ⟨w8.heap.size, 0, none⟩ = some (.float .f64 s1) := by go_simp
      have p1 : (w8.alloc (.cells #[.float .f64 s1, .float .f64 t1] 24)).cell? ⟨w8.heap.size, 1, none⟩ = some (.float .f64 t1) := by go_simp
      go_wp2_with fail
      generalize (w8.alloc (.cells #[.float .f64 s1, .float .f64 t1] 24)) = w9 at *
      refine Calls.mono (Fp.dSub_calls xh xl yh yl _ HW.out.1 HW.out.2.2.1) ?_
      rintro e w10 ⟨sa, ta, rfl, bn, A, Z⟩
      rw [show sa = s2 from (A HR.out _ HN1.out.2.1.1).1, show ta = t2 from (A HR.out _ HN1.out.2.1.1).2, HR.out]
      clear A Z
      replace a0 := dcarry_cell bn a0
      replace a1 := dcarry_cell bn a1
      replace b0 := dcarry_cell bn b0
      replace b1 := dcarry_cell bn b1
      replace h0 := dcarry_cell bn h0
      replace h1 := dcarry_cell bn h1
      replace h2 := dcarry_cell bn h2
      replace x0 := dcarry_cell bn x0
      replace x1 := dcarry_cell bn x1
      replace x2 := dcarry_cell bn x2
      replace p0 := dcarry_cell bn p0
      replace p1 := dcarry_cell bn p1
      replace IH := IH.keep bn
      replace IX := IX.keep bn
      replace bB := nbelow_trans bB bn
      clear bn
      have bA := below_one w10 (.cells #[.float .f64 s2, .float .f64 t2] 24)
      replace a0 := dcarry_cell bA a0
      replace a1 := dcarry_cell bA a1
      replace b0 := dcarry_cell bA b0
      replace b1 := dcarry_cell bA b1
      replace h0 := dcarry_cell bA h0
      replace h1 := dcarry_cell bA h1
      replace h2 := dcarry_cell bA h2
      replace x0 := dcarry_cell bA x0
      replace x1 := dcarry_cell bA x1
      replace x2 := dcarry_cell bA x2
      replace p0 := dcarry_cell bA p0
      replace p1 := dcarry_cell bA p1
      replace IH := IH.keep bA
      replace IX := IX.keep bA
      replace bB := nbelow_trans bB bA
      clear bA
      have q0 : (w10.alloc (.cells #[.float .f64 s2, .float .f64 t2] 24)).cell? ⟨w10.heap.size, 0, none⟩ = some (.float .f64 s2) := by go_simp
      have q1 : (w10.alloc (.cells #[.float .f64 s2, .float .f64 t2] 24)).cell? ⟨w10.heap.size, 1, none⟩ = some (.float .f64 t2) := by go_simp
      go_wp2_with fail
      generalize (w10.alloc (.cells #[.float .f64 s2, .float .f64 t2] 24)) = w11 at *
      refine Calls.mono (Fp.dMul_calls xh xl yh yl _ HW.out.1 HW.out.2.2.1) ?_
      rintro e w12 ⟨sa, ta, rfl, bn, A, Z⟩
      rw [show sa = s3 from (A HR.out _ HN1.out.2.2.1).1, show ta = t3 from (A HR.out _ HN1.out.2.2.1).2, HR.out]
      clear A Z
      replace a0 := dcarry_cell bn a0
      replace a1 := dcarry_cell bn a1
      replace b0 := dcarry_cell bn b0
      replace b1 := dcarry_cell bn b1
      replace h0 := dcarry_cell bn h0
      replace h1 := dcarry_cell bn h1
      replace h2 := dcarry_cell bn h2
      replace x0 := dcarry_cell bn x0
      replace x1 := dcarry_cell bn x1
      replace x2 := dcarry_cell bn x2
      replace p0 := dcarry_cell bn p0
      replace p1 := dcarry_cell bn p1
      replace q0 := dcarry_cell bn q0
      replace q1 := dcarry_cell bn q1
      replace IH := IH.keep bn
      replace IX := IX.keep bn
      replace bB := nbelow_trans bB bn
      clear bn
      have bA := below_one w12 (.cells #[.float .f64 s3, .float .f64 t3] 24)
      replace a0 := dcarry_cell bA a0
      replace a1 := dcarry_cell bA a1
      replace b0 := dcarry_cell bA b0
      replace b1 := dcarry_cell bA b1
      replace h0 := dcarry_cell bA h0
      replace h1 := dcarry_cell bA h1
      replace h2 := dcarry_cell bA h2
      replace x0 := dcarry_cell bA x0
      replace x1 := dcarry_cell bA x1
      replace x2 := dcarry_cell bA x2
      replace p0 := dcarry_cell bA p0
      replace p1 := dcarry_cell bA p1
      replace q0 := dcarry_cell bA q0
      replace q1 := dcarry_cell bA q1
      replace IH := IH.keep bA
      replace IX := IX.keep bA
      replace bB := nbelow_trans bB bA
      clear bA
      have r0 : (w12.alloc (.cells #[.float .f64 s3, .float .f64 t3] 24)).cell? ⟨w12.heap.size, 0, none⟩ = some (.float .f64 s3) := by go_simp
      have r1 : (w12.alloc (.cells #[.float .f64 s3, .float .f64 t3] 24)).cell? ⟨w12.heap.size, 1, none⟩ = some (.float .f64 t3) := by go_simp
      go_wp2_with fail
      generalize (w12.alloc (.cells #[.float .f64 s3, .float .f64 t3] 24)) = w13 at *
      refine Calls.mono (Fp.finite_calls s1 t1 1800 _ HN1.out.1.2.2.2.1 HN1.out.1.2.2.2.2.1 HN1.out.1.2.1 HN1.out.1.2.2.1 (by decide) HN1.out.1.2.2.2.2.2) ?_
      rintro e w14 ⟨rfl, bn⟩
      replace a0 := dcarry_cell bn a0
      replace a1 := dcarry_cell bn a1
      replace b0 := dcarry_cell bn b0
      replace b1 := dcarry_cell bn b1
      replace h0 := dcarry_cell bn h0
      replace h1 := dcarry_cell bn h1
      replace h2 := dcarry_cell bn h2
      replace x0 := dcarry_cell bn x0
      replace x1 := dcarry_cell bn x1
      replace x2 := dcarry_cell bn x2
      replace p0 := dcarry_cell bn p0
      replace p1 := dcarry_cell bn p1
      replace q0 := dcarry_cell bn q0
      replace q1 := dcarry_cell bn q1
      replace r0 := dcarry_cell bn r0
      replace r1 := dcarry_cell bn r1
      replace IH := IH.keep bn
      replace IX := IX.keep bn
      replace bB := nbelow_trans bB bn
      clear bn
      go_wp2_with fail
      refine Calls.mono (Fp.finite_calls s2 t2 1800 _ HN1.out.2.1.2.2.2.1 HN1.out.2.1.2.2.2.2.1 HN1.out.2.1.2.1 HN1.out.2.1.2.2.1 (by decide) HN1.out.2.1.2.2.2.2.2) ?_
      rintro e w15 ⟨rfl, bn⟩
      replace a0 := dcarry_cell bn a0
      replace a1 := dcarry_cell bn a1
      replace b0 := dcarry_cell bn b0
      replace b1 := dcarry_cell bn b1
      replace h0 := dcarry_cell bn h0
      replace h1 := dcarry_cell bn h1
      replace h2 := dcarry_cell bn h2
      replace x0 := dcarry_cell bn x0
      replace x1 := dcarry_cell bn x1
      replace x2 := dcarry_cell bn x2
      replace p0 := dcarry_cell bn p0
      replace p1 := dcarry_cell bn p1
      replace q0 := dcarry_cell bn q0
      replace q1 := dcarry_cell bn q1
      replace r0 := dcarry_cell bn r0
      replace r1 := dcarry_cell bn r1
      replace IH := IH.keep bn
      replace IX := IX.keep bn
      replace bB := nbelow_trans bB bn
      clear bn
      go_wp2_with fail
      refine Calls.mono (Fp.finite_calls s3 t3 1800 _ HN1.out.2.2.2.2.2.1 HN1.out.2.2.2.2.2.2.1 HN1.out.2.2.2.1 HN1.out.2.2.2.2.1 (by decide) HN1.out.2.2.2.2.2.2.2) ?_
      rintro e w16 ⟨rfl, bn⟩
      replace a0 := dcarry_cell bn a0
      replace a1 := dcarry_cell bn a1
      replace b0 := dcarry_cell bn b0
      replace b1 := dcarry_cell bn b1
      replace h0 := dcarry_cell bn h0
      replace h1 := dcarry_cell bn h1
      replace h2 := dcarry_cell bn h2
      replace x0 := dcarry_cell bn x0
      replace x1 := dcarry_cell bn x1
      replace x2 := dcarry_cell bn x2
      replace p0 := dcarry_cell bn p0
      replace p1 := dcarry_cell bn p1
      replace q0 := dcarry_cell bn q0
      replace q1 := dcarry_cell bn q1
      replace r0 := dcarry_cell bn r0
      replace r1 := dcarry_cell bn r1
      replace IH := IH.keep bn
      replace IX := IX.keep bn
      replace bB := nbelow_trans bB bn
      clear bn
      go_wp2_with fail
      refine Calls.mono (uplus_calls H X K HS.out.1 HS.out.2.1 (by omega) aH aX nH cH nX cX _ IH IX) ?_
      rintro e w17 ⟨_, rfl, ⟨aS, nS, cS, rfl, HNS, hOS⟩, bn⟩
      have IS := hOS.1
      clear hOS HNS
      replace a0 := dcarry_cell bn a0
      replace a1 := dcarry_cell bn a1
      replace b0 := dcarry_cell bn b0
      replace b1 := dcarry_cell bn b1
      replace h0 := dcarry_cell bn h0
      replace h1 := dcarry_cell bn h1
      replace h2 := dcarry_cell bn h2
      replace x0 := dcarry_cell bn x0
      replace x1 := dcarry_cell bn x1
      replace x2 := dcarry_cell bn x2
      replace p0 := dcarry_cell bn p0
      replace p1 := dcarry_cell bn p1
      replace q0 := dcarry_cell bn q0
      replace q1 := dcarry_cell bn q1
      replace r0 := dcarry_cell bn r0
      replace r1 := dcarry_cell bn r1
      replace IH := IH.keep bn
      replace IX := IX.keep bn
      replace bB := nbelow_trans bB bn
      clear bn
      have bA := below_one w17 (.cells #[.bool (dyU (H + X)).1, .slice aS nS cS, .int .i64 (dyU (H + X)).2.2] 30)
      replace a0 := dcarry_cell bA a0
      replace a1 := dcarry_cell bA a1
      replace b0 := dcarry_cell bA b0
      replace b1 := dcarry_cell bA b1
      replace h0 := dcarry_cell bA h0
      replace h1 := dcarry_cell bA h1
      replace h2 := dcarry_cell bA h2
      replace x0 := dcarry_cell bA x0
      replace x1 := dcarry_cell bA x1
      replace x2 := dcarry_cell bA x2
      replace p0 := dcarry_cell bA p0
      replace p1 := dcarry_cell bA p1
      replace q0 := dcarry_cell bA q0
      replace q1 := dcarry_cell bA q1
      replace r0 := dcarry_cell bA r0
      replace r1 := dcarry_cell bA r1
      replace IH := IH.keep bA
      replace IX := IX.keep bA
      replace IS := IS.keep bA
      replace bB := nbelow_trans bB bA
      clear bA
      have m0 : (w17.alloc (.cells #[.bool (dyU (H + X)).1, .slice aS nS cS, .int .i64 (dyU (H + X)).2.2] 30)).cell? ⟨w17.heap.size, 0, none⟩ = some (.bool (dyU (H + X)).1) := by go_simp
      have m1 : (w17.alloc (.cells #[.bool (dyU (H + X)).1, .slice aS nS cS, .int .i64 (dyU (H + X)).2.2] 30)).cell? ⟨w17.heap.size, 1, none⟩ = some (.slice aS nS cS) := by go_simp
      have m2 : (w17.alloc (.cells #[.bool (dyU (H + X)).1, .slice aS nS cS, .int .i64 (dyU (H + X)).2.2] 30)).cell? ⟨w17.heap.size, 2, none⟩ = some (.int .i64 (dyU (H + X)).2.2) := by go_simp
      go_wp2_with fail
      generalize (w17.alloc (.cells #[.bool (dyU (H + X)).1, .slice aS nS cS, .int .i64 (dyU (H + X)).2.2] 30)) = w18 at *
      refine Calls.mono (uless_calls H X K HS.out.1 HS.out.2.1 (by omega) aH aX nH cH nX cX _ IH IX) ?_
      rintro e w19 ⟨_, rfl, ⟨aD, nD, cD, rfl, HND, hOD⟩, bn⟩
      have ID := hOD.1
      clear hOD HND
      replace a0 := dcarry_cell bn a0
      replace a1 := dcarry_cell bn a1
      replace b0 := dcarry_cell bn b0
      replace b1 := dcarry_cell bn b1
      replace h0 := dcarry_cell bn h0
      replace h1 := dcarry_cell bn h1
      replace h2 := dcarry_cell bn h2
      replace x0 := dcarry_cell bn x0
      replace x1 := dcarry_cell bn x1
      replace x2 := dcarry_cell bn x2
      replace p0 := dcarry_cell bn p0
      replace p1 := dcarry_cell bn p1
      replace q0 := dcarry_cell bn q0
      replace q1 := dcarry_cell bn q1
      replace r0 := dcarry_cell bn r0
      replace r1 := dcarry_cell bn r1
      replace m0 := dcarry_cell bn m0
      replace m1 := dcarry_cell bn m1
      replace m2 := dcarry_cell bn m2
      replace IH := IH.keep bn
      replace IX := IX.keep bn
      replace IS := IS.keep bn
      replace bB := nbelow_trans bB bn
      clear bn
      have bA := below_one w19 (.cells #[.bool (dyU (H - X)).1, .slice aD nD cD, .int .i64 (dyU (H - X)).2.2] 30)
      replace a0 := dcarry_cell bA a0
      replace a1 := dcarry_cell bA a1
      replace b0 := dcarry_cell bA b0
      replace b1 := dcarry_cell bA b1
      replace h0 := dcarry_cell bA h0
      replace h1 := dcarry_cell bA h1
      replace h2 := dcarry_cell bA h2
      replace x0 := dcarry_cell bA x0
      replace x1 := dcarry_cell bA x1
      replace x2 := dcarry_cell bA x2
      replace p0 := dcarry_cell bA p0
      replace p1 := dcarry_cell bA p1
      replace q0 := dcarry_cell bA q0
      replace q1 := dcarry_cell bA q1
      replace r0 := dcarry_cell bA r0
      replace r1 := dcarry_cell bA r1
      replace m0 := dcarry_cell bA m0
      replace m1 := dcarry_cell bA m1
      replace m2 := dcarry_cell bA m2
      replace IH := IH.keep bA
      replace IX := IX.keep bA
      replace IS := IS.keep bA
      replace ID := ID.keep bA
      replace bB := nbelow_trans bB bA
      clear bA
      have d0 : (w19.alloc (.cells #[.bool (dyU (H - X)).1, .slice aD nD cD, .int .i64 (dyU (H - X)).2.2] 30)).cell? ⟨w19.heap.size, 0, none⟩ = some (.bool (dyU (H - X)).1) := by go_simp
      have d1 : (w19.alloc (.cells #[.bool (dyU (H - X)).1, .slice aD nD cD, .int .i64 (dyU (H - X)).2.2] 30)).cell? ⟨w19.heap.size, 1, none⟩ = some (.slice aD nD cD) := by go_simp
      have d2 : (w19.alloc (.cells #[.bool (dyU (H - X)).1, .slice aD nD cD, .int .i64 (dyU (H - X)).2.2] 30)).cell? ⟨w19.heap.size, 2, none⟩ = some (.int .i64 (dyU (H - X)).2.2) := by go_simp
      go_wp2_with fail
      generalize (w19.alloc (.cells #[.bool (dyU (H - X)).1, .slice aD nD cD, .int .i64 (dyU (H - X)).2.2] 30)) = w20 at *
      refine Calls.mono (utimesT_calls H X K HS.out.1 HS.out.2.1 (by omega) aH aX nH cH nX cX _ IH IX) ?_
      rintro e w21 ⟨_, rfl, ⟨aT, nT, cT, rfl, HNT, hOT⟩, bn⟩
      have IT := hOT.1
      clear hOT HNT
      replace a0 := dcarry_cell bn a0
      replace a1 := dcarry_cell bn a1
      replace b0 := dcarry_cell bn b0
      replace b1 := dcarry_cell bn b1
      replace h0 := dcarry_cell bn h0
      replace h1 := dcarry_cell bn h1
      replace h2 := dcarry_cell bn h2
      replace x0 := dcarry_cell bn x0
      replace x1 := dcarry_cell bn x1
      replace x2 := dcarry_cell bn x2
      replace p0 := dcarry_cell bn p0
      replace p1 := dcarry_cell bn p1
      replace q0 := dcarry_cell bn q0
      replace q1 := dcarry_cell bn q1
      replace r0 := dcarry_cell bn r0
      replace r1 := dcarry_cell bn r1
      replace m0 := dcarry_cell bn m0
      replace m1 := dcarry_cell bn m1
      replace m2 := dcarry_cell bn m2
      replace d0 := dcarry_cell bn d0
      replace d1 := dcarry_cell bn d1
      replace d2 := dcarry_cell bn d2
      replace IH := IH.keep bn
      replace IX := IX.keep bn
      replace IS := IS.keep bn
      replace ID := ID.keep bn
      replace bB := nbelow_trans bB bn
      clear bn
      have bA := below_one w21 (.cells #[.bool (dyT (H * X)).1, .slice aT nT cT, .int .i64 (dyT (H * X)).2.2] 30)
      replace a0 := dcarry_cell bA a0
      replace a1 := dcarry_cell bA a1
      replace b0 := dcarry_cell bA b0
      replace b1 := dcarry_cell bA b1
      replace h0 := dcarry_cell bA h0
      replace h1 := dcarry_cell bA h1
      replace h2 := dcarry_cell bA h2
      replace x0 := dcarry_cell bA x0
      replace x1 := dcarry_cell bA x1
      replace x2 := dcarry_cell bA x2
      replace p0 := dcarry_cell bA p0
      replace p1 := dcarry_cell bA p1
      replace q0 := dcarry_cell bA q0
      replace q1 := dcarry_cell bA q1
      replace r0 := dcarry_cell bA r0
      replace r1 := dcarry_cell bA r1
      replace m0 := dcarry_cell bA m0
      replace m1 := dcarry_cell bA m1
      replace m2 := dcarry_cell bA m2
      replace d0 := dcarry_cell bA d0
      replace d1 := dcarry_cell bA d1
      replace d2 := dcarry_cell bA d2
      replace IH := IH.keep bA
      replace IX := IX.keep bA
      replace IS := IS.keep bA
      replace ID := ID.keep bA
      replace IT := IT.keep bA
      replace bB := nbelow_trans bB bA
      clear bA
      have tt0 : (w21.alloc (.cells #[.bool (dyT (H * X)).1, .slice aT nT cT, .int .i64 (dyT (H * X)).2.2] 30)).cell? ⟨w21.heap.size, 0, none⟩ = some (.bool (dyT (H * X)).1) := by go_simp
      have tt1 : (w21.alloc (.cells #[.bool (dyT (H * X)).1, .slice aT nT cT, .int .i64 (dyT (H * X)).2.2] 30)).cell? ⟨w21.heap.size, 1, none⟩ = some (.slice aT nT cT) := by go_simp
      have tt2 : (w21.alloc (.cells #[.bool (dyT (H * X)).1, .slice aT nT cT, .int .i64 (dyT (H * X)).2.2] 30)).cell? ⟨w21.heap.size, 2, none⟩ = some (.int .i64 (dyT (H * X)).2.2) := by go_simp
      go_upto_region 15 with fail
      generalize (w21.alloc (.cells #[.bool (dyT (H * X)).1, .slice aT nT cT, .int .i64 (dyT (H * X)).2.2] 30)) = w22 at *
      have bw : Below w22.heap.size w22 w22.drew := (Below.refl _ _).drew
      refine wp_region_held (S := fun w' => Below w22.heap.size w22 w') (by kernel_rfl) ?_
      change wpAnyH _ _ _ _ _ _ _ _ (World.drew w22)
      generalize World.drew w22 = wd at bw ⊢
      refine wpAnyH_take (i := 0) (v := .agg #[.float .f64 s1, .float .f64 t1]) rfl (by kernel_rfl) (by kernel_rfl) (by kernel_rfl) (fun _ _ _ h => h) (Or.inl ⟨by rfl, ?y1⟩) bw ?r1
      case y1 => (intro ww hS; have qp0 := dcarry_cell hS p0; have qp1 := dcarry_cell hS p1; clear hS; go_simp)
      try simp only [Act.put, List.setIfInBounds_toArray]
      refine wpAnyH_take (i := 2) (v := .agg #[.bool (dyU (H + X)).1, .slice aS nS cS, .int .i64 (dyU (H + X)).2.2]) rfl (by kernel_rfl) (by kernel_rfl) (by kernel_rfl) (fun _ _ _ h => h) (Or.inl ⟨by rfl, ?y2⟩) bw ?r2
      case y2 => (intro ww hS; have qm0 := dcarry_cell hS m0; have qm1 := dcarry_cell hS m1; have qm2 := dcarry_cell hS m2; clear hS; go_simp)
      try simp only [Act.put]
      refine wpAnyH_take (i := 4) (v := .agg #[.bool (dyU (H + X)).1, .slice aS nS cS, .int .i64 (dyU (H + X)).2.2]) rfl (by kernel_rfl) (by kernel_rfl) (by kernel_rfl) (fun _ _ _ h => h) (Or.inl ⟨by rfl, ?y3⟩) bw ?r3
      case y3 => (intro ww hS; have qm0 := dcarry_cell hS m0; have qm1 := dcarry_cell hS m1; have qm2 := dcarry_cell hS m2; clear hS; go_simp)
      try simp only [Act.put]
      refine wpAnyH_ready (rs := [1]) (by kernel_rfl) (by simp) ?_
      refine AllReadyH.cons rfl (fun KK hK => ?_) AllReadyH.nil
      go_simp
      refine Calls.mono (uexact_calls s1 t1 _ HN1.out.1.2.2.2.1 HN1.out.1.2.2.2.2.1 HN1.out.1.2.1.1 HN1.out.1.2.2.1.1) ?_
      rintro e u1 ⟨_, rfl, ⟨aj, nj, cj, rfl, HNj, hOj⟩, bn⟩
      replace bw := nbelow_trans bw bn
      clear bn
      have Jj := hOj.1
      clear hOj HNj
      refine hK.out _ _ bw (fun _ => ?_)
      clear hK KK
      try simp only [Act.put, List.setIfInBounds_toArray, List.set_cons_zero, List.set_cons_succ]
      refine wpAnyH_ready (rs := [3]) (by kernel_rfl) (by simp) ?_
      refine AllReadyH.cons rfl (fun KK hK => ?_) AllReadyH.nil
      go_simp
      refine Calls.mono (uless_calls (EP.V s1 + EP.V t1) (H + X) K HS.out.2.2.1 HK1.out.2.2 (by omega) aj aS nj cj nS cS _ Jj (IS.keep bw)) ?_
      rintro e u2 ⟨_, rfl, ⟨ak, nk, ck, rfl, HNk, hOk⟩, bn⟩
      replace bw := nbelow_trans bw bn
      clear bn
      have Jk := hOk.1
      clear hOk HNk Jj
      refine hK.out _ _ bw (fun _ => ?_)
      clear hK KK
      try simp only [Act.put, List.setIfInBounds_toArray, List.set_cons_zero, List.set_cons_succ]
      refine wpAnyH_ready (rs := [5]) (by kernel_rfl) (by simp) ?_
      refine AllReadyH.cons rfl (fun KK hK => ?_) AllReadyH.nil
      go_simp
      refine Calls.mono (within_calls ((EP.V s1 + EP.V t1) - (H + X)) (H + X) 102 K (-102) (by decide) (by decide) HK1.out.2.1 HK1.out.2.2 (by omega) ak aS nk ck nS cS _ Jk (IS.keep bw) HK1.out.1) ?_
      rintro e u3 ⟨rfl, bn⟩
      replace bw := nbelow_trans bw bn
      clear bn
      clear Jk
      refine hK.out _ _ bw (fun _ => ?_)
      clear hK KK
      try simp only [Act.put, List.setIfInBounds_toArray, List.set_cons_zero, List.set_cons_succ]
      refine wpAnyH_take (i := 6) (v := .bool false) rfl (by kernel_rfl) (by kernel_rfl) (by kernel_rfl) (fun _ _ _ h => h) (Or.inl ⟨by rfl, ?y4⟩) bw ?r4
      case y4 => (intro ww hS; clear hS; go_simp)
      try simp only [Act.put]
      refine wpAnyH_take (i := 7) (v := .bool false) rfl (by kernel_rfl) (by kernel_rfl) (by kernel_rfl) (fun _ _ _ h => h) (Or.inl ⟨by rfl, ?y5⟩) bw ?r5
      case y5 => (intro ww hS; clear hS; go_simp)
      try simp only [Act.put]
      refine wpAnyH_take (i := 8) (v := .agg #[.float .f64 s2, .float .f64 t2]) rfl (by kernel_rfl) (by kernel_rfl) (by kernel_rfl) (fun _ _ _ h => h) (Or.inl ⟨by rfl, ?y6⟩) bw ?r6
      case y6 => (intro ww hS; have qq0 := dcarry_cell hS q0; have qq1 := dcarry_cell hS q1; clear hS; go_simp)
      try simp only [Act.put]
      refine wpAnyH_take (i := 10) (v := .agg #[.bool (dyU (H - X)).1, .slice aD nD cD, .int .i64 (dyU (H - X)).2.2]) rfl (by kernel_rfl) (by kernel_rfl) (by kernel_rfl) (fun _ _ _ h => h) (Or.inl ⟨by rfl, ?y7⟩) bw ?r7
      case y7 => (intro ww hS; have qd0 := dcarry_cell hS d0; have qd1 := dcarry_cell hS d1; have qd2 := dcarry_cell hS d2; clear hS; go_simp)
      try simp only [Act.put]
      refine wpAnyH_take (i := 12) (v := .agg #[.bool (dyU (H - X)).1, .slice aD nD cD, .int .i64 (dyU (H - X)).2.2]) rfl (by kernel_rfl) (by kernel_rfl) (by kernel_rfl) (fun _ _ _ h => h) (Or.inl ⟨by rfl, ?y8⟩) bw ?r8
      case y8 => (intro ww hS; have qd0 := dcarry_cell hS d0; have qd1 := dcarry_cell hS d1; have qd2 := dcarry_cell hS d2; clear hS; go_simp)
      try simp only [Act.put]
      refine wpAnyH_ready (rs := [9]) (by kernel_rfl) (by simp) ?_
      refine AllReadyH.cons rfl (fun KK hK => ?_) AllReadyH.nil
      go_simp
      refine Calls.mono (uexact_calls s2 t2 _ HN1.out.2.1.2.2.2.1 HN1.out.2.1.2.2.2.2.1 HN1.out.2.1.2.1.1 HN1.out.2.1.2.2.1.1) ?_
      rintro e u4 ⟨_, rfl, ⟨aj, nj, cj, rfl, HNj, hOj⟩, bn⟩
      replace bw := nbelow_trans bw bn
      clear bn
      have Jj := hOj.1
      clear hOj HNj
      refine hK.out _ _ bw (fun _ => ?_)
      clear hK KK
      try simp only [Act.put, List.setIfInBounds_toArray, List.set_cons_zero, List.set_cons_succ]
      refine wpAnyH_ready (rs := [11]) (by kernel_rfl) (by simp) ?_
      refine AllReadyH.cons rfl (fun KK hK => ?_) AllReadyH.nil
      go_simp
      refine Calls.mono (uless_calls (EP.V s2 + EP.V t2) (H - X) K HS.out.2.2.2.1 HK2.out.2.2 (by omega) aj aD nj cj nD cD _ Jj (ID.keep bw)) ?_
      rintro e u5 ⟨_, rfl, ⟨ak, nk, ck, rfl, HNk, hOk⟩, bn⟩
      replace bw := nbelow_trans bw bn
      clear bn
      have Jk := hOk.1
      clear hOk HNk Jj
      refine hK.out _ _ bw (fun _ => ?_)
      clear hK KK
      try simp only [Act.put, List.setIfInBounds_toArray, List.set_cons_zero, List.set_cons_succ]
      refine wpAnyH_ready (rs := [13]) (by kernel_rfl) (by simp) ?_
      refine AllReadyH.cons rfl (fun KK hK => ?_) AllReadyH.nil
      go_simp
      refine Calls.mono (within_calls ((EP.V s2 + EP.V t2) - (H - X)) (H - X) 102 K (-102) (by decide) (by decide) HK2.out.2.1 HK2.out.2.2 (by omega) ak aD nk ck nD cD _ Jk (ID.keep bw) HK2.out.1) ?_
      rintro e u6 ⟨rfl, bn⟩
      replace bw := nbelow_trans bw bn
      clear bn
      clear Jk
      refine hK.out _ _ bw (fun _ => ?_)
      clear hK KK
      try simp only [Act.put, List.setIfInBounds_toArray, List.set_cons_zero, List.set_cons_succ]
      refine wpAnyH_take (i := 14) (v := .bool false) rfl (by kernel_rfl) (by kernel_rfl) (by kernel_rfl) (fun _ _ _ h => h) (Or.inl ⟨by rfl, ?y9⟩) bw ?r9
      case y9 => (intro ww hS; clear hS; go_simp)
      try simp only [Act.put]
      refine wpAnyH_take (i := 15) (v := .bool false) rfl (by kernel_rfl) (by kernel_rfl) (by kernel_rfl) (fun _ _ _ h => h) (Or.inl ⟨by rfl, ?y10⟩) bw ?r10
      case y10 => (intro ww hS; clear hS; go_simp)
      try simp only [Act.put]
      refine wpAnyH_take (i := 16) (v := .bool false) rfl (by kernel_rfl) (by kernel_rfl) (by kernel_rfl) (fun _ _ _ h => h) (Or.inl ⟨by rfl, ?y11⟩) bw ?r11
      case y11 => (intro ww hS; clear hS; go_simp)
      try simp only [Act.put]
      refine wpAnyH_take (i := 17) (v := .agg #[.float .f64 s3, .float .f64 t3]) rfl (by kernel_rfl) (by kernel_rfl) (by kernel_rfl) (fun _ _ _ h => h) (Or.inl ⟨by rfl, ?y12⟩) bw ?r12
      case y12 => (intro ww hS; have qr0 := dcarry_cell hS r0; have qr1 := dcarry_cell hS r1; clear hS; go_simp)
      try simp only [Act.put]
      refine wpAnyH_take (i := 19) (v := .agg #[.bool (dyT (H * X)).1, .slice aT nT cT, .int .i64 (dyT (H * X)).2.2]) rfl (by kernel_rfl) (by kernel_rfl) (by kernel_rfl) (fun _ _ _ h => h) (Or.inl ⟨by rfl, ?y13⟩) bw ?r13
      case y13 => (intro ww hS; have qtt0 := dcarry_cell hS tt0; have qtt1 := dcarry_cell hS tt1; have qtt2 := dcarry_cell hS tt2; clear hS; go_simp)
      try simp only [Act.put]
      refine wpAnyH_take (i := 21) (v := .agg #[.bool (dyT (H * X)).1, .slice aT nT cT, .int .i64 (dyT (H * X)).2.2]) rfl (by kernel_rfl) (by kernel_rfl) (by kernel_rfl) (fun _ _ _ h => h) (Or.inl ⟨by rfl, ?y14⟩) bw ?r14
      case y14 => (intro ww hS; have qtt0 := dcarry_cell hS tt0; have qtt1 := dcarry_cell hS tt1; have qtt2 := dcarry_cell hS tt2; clear hS; go_simp)
      try simp only [Act.put]
      have XC : Hid (∀ W, _) := fun W => uexact_calls s3 t3 W HN1.out.2.2.2.2.2.1 HN1.out.2.2.2.2.2.2.1 HN1.out.2.2.2.1.1 HN1.out.2.2.2.2.1.1
      rw [dyT_of_U (EP.V s3 + EP.V t3) D HD.out] at XC
      refine wpAnyH_ready (rs := [18]) (by kernel_rfl) (by simp) ?_
      refine AllReadyH.cons rfl (fun KK hK => ?_) AllReadyH.nil
      go_simp
      refine Calls.mono (XC.out _) ?_
      rintro e u7 ⟨_, rfl, ⟨aj, nj, cj, rfl, HNj, hOj⟩, bn⟩
      replace bw := nbelow_trans bw bn
      clear bn
      have Jj := hOj.1
      clear hOj HNj XC
      refine hK.out _ _ bw (fun _ => ?_)
      clear hK KK
      try simp only [Act.put, List.setIfInBounds_toArray, List.set_cons_zero, List.set_cons_succ]
      refine wpAnyH_ready (rs := [20]) (by kernel_rfl) (by simp) ?_
      refine AllReadyH.cons rfl (fun KK hK => ?_) AllReadyH.nil
      go_simp
      refine Calls.mono (tless_calls ((EP.V s3 + EP.V t3) * ((2 ^ D : Nat) : Int)) (H * X) K HK3.out.2.2.2.1 HK3.out.2.2.1 (by omega) aj aT nj cj nT cT _ Jj (IT.keep bw)) ?_
      rintro e u8 ⟨_, rfl, ⟨ak, nk, ck, rfl, HNk, hOk⟩, bn⟩
      replace bw := nbelow_trans bw bn
      clear bn
      have Jk := hOk.1
      clear hOk HNk Jj
      refine hK.out _ _ bw (fun _ => ?_)
      clear hK KK
      try simp only [Act.put, List.setIfInBounds_toArray, List.set_cons_zero, List.set_cons_succ]
      refine wpAnyH_ready (rs := [22]) (by kernel_rfl) (by simp) ?_
      refine AllReadyH.cons rfl (fun KK hK => ?_) AllReadyH.nil
      go_simp
      refine Calls.mono (withinT_calls (((EP.V s3 + EP.V t3) * ((2 ^ D : Nat) : Int)) - H * X) (H * X) 102 K (-102) (by decide) (by decide) HK3.out.2.1 HK3.out.2.2.1 (by omega) ak aT nk ck nT cT _ Jk (IT.keep bw) HK3.out.1) ?_
      rintro e u9 ⟨rfl, bn⟩
      replace bw := nbelow_trans bw bn
      clear bn
      clear Jk
      refine hK.out _ _ bw (fun _ => ?_)
      clear hK KK
      try simp only [Act.put, List.setIfInBounds_toArray, List.set_cons_zero, List.set_cons_succ]
      refine wpAnyH_ready (rs := [23]) (by kernel_rfl) (by simp) ?_
      refine AllReadyH.cons rfl (fun KK hK => ?_) AllReadyH.nil
      go_simp
      refine hK.out _ _ bw (fun _ => ?_)
      clear hK KK
      try simp only [Act.put, List.setIfInBounds_toArray, List.set_cons_zero, List.set_cons_succ]
      refine wpAnyH_ready (rs := [24]) (by kernel_rfl) (by simp) ?_
      refine AllReadyH.cons rfl (fun KK hK => ?_) AllReadyH.nil
      go_simp
      refine hK.out _ _ bw (fun _ => ?_)
      clear hK KK
      try simp only [Act.put, List.setIfInBounds_toArray, List.set_cons_zero, List.set_cons_succ]
      refine wpAnyH_done (by kernel_rfl) ?_ _
      replace a0 := dcarry_cell bw a0
      replace a1 := dcarry_cell bw a1
      replace b0 := dcarry_cell bw b0
      replace b1 := dcarry_cell bw b1
      replace h0 := dcarry_cell bw h0
      replace h1 := dcarry_cell bw h1
      replace h2 := dcarry_cell bw h2
      replace x0 := dcarry_cell bw x0
      replace x1 := dcarry_cell bw x1
      replace x2 := dcarry_cell bw x2
      replace IH := IH.keep bw
      replace IX := IX.keep bw
      replace bB := nbelow_trans bB bw
      clear bw p0 p1 q0 q1 r0 r1 m0 m1 m2 d0 d1 d2 tt0 tt1 tt2 IS ID IT
      cases hz : Fp.isZ yh with
      | true =>
        have hz' : (FloatKind.f64.format.order yh 0 == some .eq) = true := hz
        have hyl := HYZ.out hz
        go_wp2_with fail
        refine Calls.mono (Fp.dDiv_zero xh xl yh yl _ HW.out.1 HW.out.2.2.1 HR1.out hz hyl) ?_
        rintro e wz ⟨rfl, bn⟩
        replace a0 := dcarry_cell bn a0
        replace a1 := dcarry_cell bn a1
        replace b0 := dcarry_cell bn b0
        replace b1 := dcarry_cell bn b1
        replace h0 := dcarry_cell bn h0
        replace h1 := dcarry_cell bn h1
        replace h2 := dcarry_cell bn h2
        replace x0 := dcarry_cell bn x0
        replace x1 := dcarry_cell bn x1
        replace x2 := dcarry_cell bn x2
        replace IH := IH.keep bn
        replace IX := IX.keep bn
        replace bB := nbelow_trans bB bn
        clear bn
        have bA := below_one wz (.cells #[.float .f64 0, .float .f64 0] 24)
        replace a0 := dcarry_cell bA a0
        replace a1 := dcarry_cell bA a1
        replace b0 := dcarry_cell bA b0
        replace b1 := dcarry_cell bA b1
        replace h0 := dcarry_cell bA h0
        replace h1 := dcarry_cell bA h1
        replace h2 := dcarry_cell bA h2
        replace x0 := dcarry_cell bA x0
        replace x1 := dcarry_cell bA x1
        replace x2 := dcarry_cell bA x2
        replace IH := IH.keep bA
        replace IX := IX.keep bA
        replace bB := nbelow_trans bB bA
        clear bA
        have z0 : (wz.alloc (.cells #[.float .f64 0, .float .f64 0] 24)).cell? ⟨wz.heap.size, 0, none⟩ = some (.float .f64 0) := by go_simp
        have z1 : (wz.alloc (.cells #[.float .f64 0, .float .f64 0] 24)).cell? ⟨wz.heap.size, 1, none⟩ = some (.float .f64 0) := by go_simp
        go_wp2_with fail
        go_ret
        exact ⟨rfl, bB⟩
      | false =>
        obtain ⟨s4, t4, n4, k4, k5, k6, k7⟩ := HQ.out hz
        have HN4 : Hid (Fp.NearP (Fp.quoP xh xl yh yl) s4 t4) := n4
        have HK4 : Hid (((EP.V s4 + EP.V t4) * X - H * ((2 ^ D : Nat) : Int)).natAbs * 2 ^ 102 ≤ (H * ((2 ^ D : Nat) : Int)).natAbs ∧ (EP.V s4 + EP.V t4).natAbs < 2 ^ K ∧ ((EP.V s4 + EP.V t4) * X).natAbs < 2 ^ K ∧ ((EP.V s4 + EP.V t4) * X - H * ((2 ^ D : Nat) : Int)).natAbs < 2 ^ K) := ⟨k4, k5, k6, k7⟩
        clear n4 k4 k5 k6 k7
        go_wp2_with fail
        refine Calls.mono (Fp.dDiv_nz xh xl yh yl _ HW.out.1 HW.out.2.2.1 HR1.out hz) ?_
        rintro e w23 ⟨sa, ta, rfl, bn, A, Z⟩
        rw [show sa = s4 from (A HR.out _ HN4.out.1).1, show ta = t4 from (A HR.out _ HN4.out.1).2, HR.out]
        clear A Z
        replace a0 := dcarry_cell bn a0
        replace a1 := dcarry_cell bn a1
        replace b0 := dcarry_cell bn b0
        replace b1 := dcarry_cell bn b1
        replace h0 := dcarry_cell bn h0
        replace h1 := dcarry_cell bn h1
        replace h2 := dcarry_cell bn h2
        replace x0 := dcarry_cell bn x0
        replace x1 := dcarry_cell bn x1
        replace x2 := dcarry_cell bn x2
        replace IH := IH.keep bn
        replace IX := IX.keep bn
        replace bB := nbelow_trans bB bn
        clear bn
        have bA := below_one w23 (.cells #[.float .f64 s4, .float .f64 t4] 24)
        replace a0 := dcarry_cell bA a0
        replace a1 := dcarry_cell bA a1
        replace b0 := dcarry_cell bA b0
        replace b1 := dcarry_cell bA b1
        replace h0 := dcarry_cell bA h0
        replace h1 := dcarry_cell bA h1
        replace h2 := dcarry_cell bA h2
        replace x0 := dcarry_cell bA x0
        replace x1 := dcarry_cell bA x1
        replace x2 := dcarry_cell bA x2
        replace IH := IH.keep bA
        replace IX := IX.keep bA
        replace bB := nbelow_trans bB bA
        clear bA
        have o0 : (w23.alloc (.cells #[.float .f64 s4, .float .f64 t4] 24)).cell? ⟨w23.heap.size, 0, none⟩ = some (.float .f64 s4) := by go_simp
        have o1 : (w23.alloc (.cells #[.float .f64 s4, .float .f64 t4] 24)).cell? ⟨w23.heap.size, 1, none⟩ = some (.float .f64 t4) := by go_simp
        go_upto_region 20 with fail
        generalize (w23.alloc (.cells #[.float .f64 s4, .float .f64 t4] 24)) = w24 at *
        go_cut [18] from 125 to 128 (fun va wx => ∃ (Xb : Nat) (ao : Option Addr) (n c : Nat), va = .pointer (some ⟨Xb, 0, none⟩) ∧ wx.cell? ⟨Xb, 0, none⟩ = some (.bool (dyT ((EP.V s4 + EP.V t4) * X)).1) ∧ wx.cell? ⟨Xb, 1, none⟩ = some (.slice ao n c) ∧ wx.cell? ⟨Xb, 2, none⟩ = some (.int .i64 (dyT ((EP.V s4 + EP.V t4) * X)).2.2) ∧ IsW wx ao n c (wordsOf (dyT ((EP.V s4 + EP.V t4) * X)).2.1) ∧ Below w24.heap.size w24 wx)
        case first =>
          have bw : Below w24.heap.size w24 w24.drew := (Below.refl _ _).drew
          refine wp_region_held (S := fun w' => Below w24.heap.size w24 w') (by kernel_rfl) ?_
          change wpAnyH _ _ _ _ _ _ _ _ (World.drew w24)
          generalize World.drew w24 = wd at bw ⊢
          refine wpAnyH_take (i := 0) (v := .agg #[.float .f64 s4, .float .f64 t4]) rfl (by kernel_rfl) (by kernel_rfl) (by kernel_rfl) (fun _ _ _ h => h) (Or.inl ⟨by rfl, ?y15⟩) bw ?r15
          case y15 => (intro ww hS; have qo0 := dcarry_cell hS o0; have qo1 := dcarry_cell hS o1; clear hS; go_simp)
          try simp only [Act.put, List.setIfInBounds_toArray]
          refine wpAnyH_take (i := 2) (v := .agg #[.bool (dyU X).1, .slice aX nX cX, .int .i64 (dyU X).2.2]) rfl (by kernel_rfl) (by kernel_rfl) (by kernel_rfl) (fun _ _ _ h => h) (Or.inl ⟨by rfl, ?y16⟩) bw ?r16
          case y16 => (intro ww hS; have qx0 := dcarry_cell hS x0; have qx1 := dcarry_cell hS x1; have qx2 := dcarry_cell hS x2; clear hS; go_simp)
          try simp only [Act.put]
          refine wpAnyH_ready (rs := [1, 4]) (by kernel_rfl) (by simp) ?_
          refine AllReadyH.cons rfl (fun KK hK => ?_) (AllReadyH.cons rfl (fun KK hK => ?_) (AllReadyH.nil))
          · go_simp
            refine Calls.mono (uexact_calls s4 t4 _ HN4.out.2.2.2.1 HN4.out.2.2.2.2.1 HN4.out.2.1.1 HN4.out.2.2.1.1) ?_
            rintro r v10 ⟨_, rfl, ⟨au, nu, cu, rfl, HNu, hOu⟩, bN⟩
            refine hK.out _ _ (nbelow_trans bw bN) (fun _ => ?_)
            clear hK KK
            have Iu := hOu.1
            replace bw := nbelow_trans bw bN
            clear bN hOu HNu
            try simp only [Act.put, List.setIfInBounds_toArray, List.set_cons_zero, List.set_cons_succ]
            refine wpAnyH_ready (rs := [3, 4]) (by kernel_rfl) (by simp) ?_
            refine AllReadyH.cons rfl (fun KK hK => ?_) (AllReadyH.cons rfl (fun KK hK => ?_) (AllReadyH.nil))
            · go_simp
              refine Calls.mono (utimesT_calls (EP.V s4 + EP.V t4) X K HK4.out.2.1 HS.out.2.1 (by omega) au aX nu cu nX cX _ Iu (IX.keep bw)) ?_
              rintro r v11 ⟨_, rfl, ⟨az, nz, cz, rfl, HNz, hOz⟩, bN⟩
              refine hK.out _ _ (nbelow_trans bw bN) (fun _ => ?_)
              clear hK KK
              have Iz := hOz.1
              have Hw0 : Hid (∀ b off i, az = some ⟨b, off, none⟩ → i < nz → b < v11.heap.size) := fun b off i e hi => by
                obtain ⟨b2, off2, q1, q2, -⟩ := Iz.2.2.2 i hi
                rw [e] at q1
                cases q1
                exact q2
              replace bw := nbelow_trans bw bN
              clear bN hOz HNz
              try simp only [Act.put, List.setIfInBounds_toArray, List.set_cons_zero, List.set_cons_succ]
              refine wpAnyH_ready (rs := [4]) (by kernel_rfl) (by simp) ?_
              refine AllReadyH.cons rfl (fun KK hK => ?_) (AllReadyH.nil)
              go_simp
              refine hK.out _ _ (bl_alloc bw _) (fun _ => ?_)
              clear hK KK
              have bN := below_one v11 (.cells #[.bool false, .slice none 0 0, .int .i64 0] 30)
              replace Iz := Iz.keep bN
              have Hw : Hid (∀ b off i, az = some ⟨b, off, none⟩ → i < nz → b < v11.heap.size) := Hw0
              obtain ⟨X0, X1, X2, X3, X4, X5⟩ := zero_dy (w := v11) (r := v11.heap.size) (W' := v11.alloc (.cells #[.bool false, .slice none 0 0, .int .i64 0] 30)) (Below.refl _ _) rfl
              have XL : w24.heap.size ≤ v11.heap.size := bw.size
              replace bw := bl_alloc bw (.cells #[.bool false, .slice none 0 0, .int .i64 0] 30)
              clear bN
              try simp only [Act.put, List.setIfInBounds_toArray, List.set_cons_zero, List.set_cons_succ]
              generalize v11.alloc (.cells #[.bool false, .slice none 0 0, .int .i64 0] 30) = v12 at *
              refine wpAnyH_ready (rs := [5]) (by kernel_rfl) (by simp) ?_
              refine AllReadyH.cons rfl (fun KK hK => ?_) (AllReadyH.nil)
              go_simp
              have bS : Below w24.heap.size w24 (((v12.setCell ⟨v11.heap.size, 0, none⟩ (.bool (dyT ((EP.V s4 + EP.V t4) * X)).1)).setCell ⟨v11.heap.size, 1, none⟩ (.slice az nz cz)).setCell ⟨v11.heap.size, 2, none⟩ (.int .i64 (dyT ((EP.V s4 + EP.V t4) * X)).2.2)) := ((bw.setCell XL _).setCell XL _).setCell XL _
              refine hK.out _ _ bS (fun _ => ?_)
              clear hK KK
              replace Iz := isW_at (isW_at (isW_at Iz ⟨v11.heap.size, 0, none⟩ (.bool (dyT ((EP.V s4 + EP.V t4) * X)).1) (fun b off i e hi => by first | exact HX.out b off i e hi | (have := Hw.out b off i e hi; exact Nat.ne_of_gt this))) ⟨v11.heap.size, 1, none⟩ (.slice az nz cz) (fun b off i e hi => by first | exact HX.out b off i e hi | (have := Hw.out b off i e hi; exact Nat.ne_of_gt this))) ⟨v11.heap.size, 2, none⟩ (.int .i64 (dyT ((EP.V s4 + EP.V t4) * X)).2.2) (fun b off i e hi => by first | exact HX.out b off i e hi | (have := Hw.out b off i e hi; exact Nat.ne_of_gt this))
              have Z0 : (((v12.setCell ⟨v11.heap.size, 0, none⟩ (.bool (dyT ((EP.V s4 + EP.V t4) * X)).1)).setCell ⟨v11.heap.size, 1, none⟩ (.slice az nz cz)).setCell ⟨v11.heap.size, 2, none⟩ (.int .i64 (dyT ((EP.V s4 + EP.V t4) * X)).2.2)).cell? ⟨v11.heap.size, 0, none⟩ = some (.bool (dyT ((EP.V s4 + EP.V t4) * X)).1) := by go_simp
              have Z1 : (((v12.setCell ⟨v11.heap.size, 0, none⟩ (.bool (dyT ((EP.V s4 + EP.V t4) * X)).1)).setCell ⟨v11.heap.size, 1, none⟩ (.slice az nz cz)).setCell ⟨v11.heap.size, 2, none⟩ (.int .i64 (dyT ((EP.V s4 + EP.V t4) * X)).2.2)).cell? ⟨v11.heap.size, 1, none⟩ = some (.slice az nz cz) := by go_simp
              have Z2 : (((v12.setCell ⟨v11.heap.size, 0, none⟩ (.bool (dyT ((EP.V s4 + EP.V t4) * X)).1)).setCell ⟨v11.heap.size, 1, none⟩ (.slice az nz cz)).setCell ⟨v11.heap.size, 2, none⟩ (.int .i64 (dyT ((EP.V s4 + EP.V t4) * X)).2.2)).cell? ⟨v11.heap.size, 2, none⟩ = some (.int .i64 (dyT ((EP.V s4 + EP.V t4) * X)).2.2) := by go_simp
              clear X0 X1 X2 X3 X4 X5 bw XL
              try simp only [Act.put, List.setIfInBounds_toArray, List.set_cons_zero, List.set_cons_succ]
              generalize (((v12.setCell ⟨v11.heap.size, 0, none⟩ (.bool (dyT ((EP.V s4 + EP.V t4) * X)).1)).setCell ⟨v11.heap.size, 1, none⟩ (.slice az nz cz)).setCell ⟨v11.heap.size, 2, none⟩ (.int .i64 (dyT ((EP.V s4 + EP.V t4) * X)).2.2)) = v13 at *
              have X0 := Z0
              have X1 := Z1
              have X2 := Z2
              have bw := bS
              clear Z0 Z1 Z2 bS
              refine wpAnyH_done (by kernel_rfl) ?_ _
              go_wp2_with fail
              go_meet
              exact ⟨_, _, _, _, rfl, X0, X1, X2, Iz, bw⟩
            · go_simp
              refine hK.out _ _ (bl_alloc bw _) (fun _ => ?_)
              clear hK KK
              have bN := below_one v10 (.cells #[.bool false, .slice none 0 0, .int .i64 0] 30)
              replace Iu := Iu.keep bN
              obtain ⟨X0, X1, X2, X3, X4, X5⟩ := zero_dy (w := v10) (r := v10.heap.size) (W' := v10.alloc (.cells #[.bool false, .slice none 0 0, .int .i64 0] 30)) (Below.refl _ _) rfl
              have XL : w24.heap.size ≤ v10.heap.size := bw.size
              replace bw := bl_alloc bw (.cells #[.bool false, .slice none 0 0, .int .i64 0] 30)
              clear bN
              try simp only [Act.put, List.setIfInBounds_toArray, List.set_cons_zero, List.set_cons_succ]
              generalize v10.alloc (.cells #[.bool false, .slice none 0 0, .int .i64 0] 30) = v14 at *
              refine wpAnyH_ready (rs := [3]) (by kernel_rfl) (by simp) ?_
              refine AllReadyH.cons rfl (fun KK hK => ?_) (AllReadyH.nil)
              go_simp
              refine Calls.mono (utimesT_calls (EP.V s4 + EP.V t4) X K HK4.out.2.1 HS.out.2.1 (by omega) au aX nu cu nX cX _ Iu (IX.keep bw)) ?_
              rintro r v15 ⟨_, rfl, ⟨az, nz, cz, rfl, HNz, hOz⟩, bN⟩
              refine hK.out _ _ (nbelow_trans bw bN) (fun _ => ?_)
              clear hK KK
              have Iz := hOz.1
              have Hw0 : Hid (∀ b off i, az = some ⟨b, off, none⟩ → i < nz → b < v15.heap.size) := fun b off i e hi => by
                obtain ⟨b2, off2, q1, q2, -⟩ := Iz.2.2.2 i hi
                rw [e] at q1
                cases q1
                exact q2
              have HX : Hid (∀ b off i, az = some ⟨b, off, none⟩ → i < nz → v10.heap.size ≠ b) := fun b off i e hi => by
                have h1 := (hOz.2 b off i e hi).1
                have h2 : v10.heap.size < v14.heap.size := World.block_lt_of_cell? _ _ X0
                omega
              replace X3 := dcarry_frozen bN X0 X3
              replace X4 := dcarry_frozen bN X1 X4
              replace X5 := dcarry_frozen bN X2 X5
              replace X0 := dcarry_cell bN X0
              replace X1 := dcarry_cell bN X1
              replace X2 := dcarry_cell bN X2
              replace bw := nbelow_trans bw bN
              clear bN hOz HNz
              try simp only [Act.put, List.setIfInBounds_toArray, List.set_cons_zero, List.set_cons_succ]
              refine wpAnyH_ready (rs := [5]) (by kernel_rfl) (by simp) ?_
              refine AllReadyH.cons rfl (fun KK hK => ?_) (AllReadyH.nil)
              go_simp
              have bS : Below w24.heap.size w24 (((v15.setCell ⟨v10.heap.size, 0, none⟩ (.bool (dyT ((EP.V s4 + EP.V t4) * X)).1)).setCell ⟨v10.heap.size, 1, none⟩ (.slice az nz cz)).setCell ⟨v10.heap.size, 2, none⟩ (.int .i64 (dyT ((EP.V s4 + EP.V t4) * X)).2.2)) := ((bw.setCell XL _).setCell XL _).setCell XL _
              refine hK.out _ _ bS (fun _ => ?_)
              clear hK KK
              replace Iz := isW_at (isW_at (isW_at Iz ⟨v10.heap.size, 0, none⟩ (.bool (dyT ((EP.V s4 + EP.V t4) * X)).1) (fun b off i e hi => by first | exact HX.out b off i e hi | (have := Hw.out b off i e hi; exact Nat.ne_of_gt this))) ⟨v10.heap.size, 1, none⟩ (.slice az nz cz) (fun b off i e hi => by first | exact HX.out b off i e hi | (have := Hw.out b off i e hi; exact Nat.ne_of_gt this))) ⟨v10.heap.size, 2, none⟩ (.int .i64 (dyT ((EP.V s4 + EP.V t4) * X)).2.2) (fun b off i e hi => by first | exact HX.out b off i e hi | (have := Hw.out b off i e hi; exact Nat.ne_of_gt this))
              have Z0 : (((v15.setCell ⟨v10.heap.size, 0, none⟩ (.bool (dyT ((EP.V s4 + EP.V t4) * X)).1)).setCell ⟨v10.heap.size, 1, none⟩ (.slice az nz cz)).setCell ⟨v10.heap.size, 2, none⟩ (.int .i64 (dyT ((EP.V s4 + EP.V t4) * X)).2.2)).cell? ⟨v10.heap.size, 0, none⟩ = some (.bool (dyT ((EP.V s4 + EP.V t4) * X)).1) := by go_simp
              have Z1 : (((v15.setCell ⟨v10.heap.size, 0, none⟩ (.bool (dyT ((EP.V s4 + EP.V t4) * X)).1)).setCell ⟨v10.heap.size, 1, none⟩ (.slice az nz cz)).setCell ⟨v10.heap.size, 2, none⟩ (.int .i64 (dyT ((EP.V s4 + EP.V t4) * X)).2.2)).cell? ⟨v10.heap.size, 1, none⟩ = some (.slice az nz cz) := by go_simp
              have Z2 : (((v15.setCell ⟨v10.heap.size, 0, none⟩ (.bool (dyT ((EP.V s4 + EP.V t4) * X)).1)).setCell ⟨v10.heap.size, 1, none⟩ (.slice az nz cz)).setCell ⟨v10.heap.size, 2, none⟩ (.int .i64 (dyT ((EP.V s4 + EP.V t4) * X)).2.2)).cell? ⟨v10.heap.size, 2, none⟩ = some (.int .i64 (dyT ((EP.V s4 + EP.V t4) * X)).2.2) := by go_simp
              clear X0 X1 X2 X3 X4 X5 bw XL
              try simp only [Act.put, List.setIfInBounds_toArray, List.set_cons_zero, List.set_cons_succ]
              generalize (((v15.setCell ⟨v10.heap.size, 0, none⟩ (.bool (dyT ((EP.V s4 + EP.V t4) * X)).1)).setCell ⟨v10.heap.size, 1, none⟩ (.slice az nz cz)).setCell ⟨v10.heap.size, 2, none⟩ (.int .i64 (dyT ((EP.V s4 + EP.V t4) * X)).2.2)) = v16 at *
              have X0 := Z0
              have X1 := Z1
              have X2 := Z2
              have bw := bS
              clear Z0 Z1 Z2 bS
              refine wpAnyH_done (by kernel_rfl) ?_ _
              go_wp2_with fail
              go_meet
              exact ⟨_, _, _, _, rfl, X0, X1, X2, Iz, bw⟩
          · go_simp
            refine hK.out _ _ (bl_alloc bw _) (fun _ => ?_)
            clear hK KK
            have bN := below_one wd (.cells #[.bool false, .slice none 0 0, .int .i64 0] 30)
            obtain ⟨X0, X1, X2, X3, X4, X5⟩ := zero_dy (w := wd) (r := wd.heap.size) (W' := wd.alloc (.cells #[.bool false, .slice none 0 0, .int .i64 0] 30)) (Below.refl _ _) rfl
            have XL : w24.heap.size ≤ wd.heap.size := bw.size
            replace bw := bl_alloc bw (.cells #[.bool false, .slice none 0 0, .int .i64 0] 30)
            clear bN
            try simp only [Act.put, List.setIfInBounds_toArray, List.set_cons_zero, List.set_cons_succ]
            generalize wd.alloc (.cells #[.bool false, .slice none 0 0, .int .i64 0] 30) = v17 at *
            refine wpAnyH_ready (rs := [1]) (by kernel_rfl) (by simp) ?_
            refine AllReadyH.cons rfl (fun KK hK => ?_) (AllReadyH.nil)
            go_simp
            refine Calls.mono (uexact_calls s4 t4 _ HN4.out.2.2.2.1 HN4.out.2.2.2.2.1 HN4.out.2.1.1 HN4.out.2.2.1.1) ?_
            rintro r v18 ⟨_, rfl, ⟨au, nu, cu, rfl, HNu, hOu⟩, bN⟩
            refine hK.out _ _ (nbelow_trans bw bN) (fun _ => ?_)
            clear hK KK
            have Iu := hOu.1
            replace X3 := dcarry_frozen bN X0 X3
            replace X4 := dcarry_frozen bN X1 X4
            replace X5 := dcarry_frozen bN X2 X5
            replace X0 := dcarry_cell bN X0
            replace X1 := dcarry_cell bN X1
            replace X2 := dcarry_cell bN X2
            replace bw := nbelow_trans bw bN
            clear bN hOu HNu
            try simp only [Act.put, List.setIfInBounds_toArray, List.set_cons_zero, List.set_cons_succ]
            refine wpAnyH_ready (rs := [3]) (by kernel_rfl) (by simp) ?_
            refine AllReadyH.cons rfl (fun KK hK => ?_) (AllReadyH.nil)
            go_simp
            refine Calls.mono (utimesT_calls (EP.V s4 + EP.V t4) X K HK4.out.2.1 HS.out.2.1 (by omega) au aX nu cu nX cX _ Iu (IX.keep bw)) ?_
            rintro r v19 ⟨_, rfl, ⟨az, nz, cz, rfl, HNz, hOz⟩, bN⟩
            refine hK.out _ _ (nbelow_trans bw bN) (fun _ => ?_)
            clear hK KK
            have Iz := hOz.1
            have Hw0 : Hid (∀ b off i, az = some ⟨b, off, none⟩ → i < nz → b < v19.heap.size) := fun b off i e hi => by
              obtain ⟨b2, off2, q1, q2, -⟩ := Iz.2.2.2 i hi
              rw [e] at q1
              cases q1
              exact q2
            have HX : Hid (∀ b off i, az = some ⟨b, off, none⟩ → i < nz → wd.heap.size ≠ b) := fun b off i e hi => by
              have h1 := (hOz.2 b off i e hi).1
              have h2 : wd.heap.size < v18.heap.size := World.block_lt_of_cell? _ _ X0
              omega
            replace X3 := dcarry_frozen bN X0 X3
            replace X4 := dcarry_frozen bN X1 X4
            replace X5 := dcarry_frozen bN X2 X5
            replace X0 := dcarry_cell bN X0
            replace X1 := dcarry_cell bN X1
            replace X2 := dcarry_cell bN X2
            replace bw := nbelow_trans bw bN
            clear bN hOz HNz
            try simp only [Act.put, List.setIfInBounds_toArray, List.set_cons_zero, List.set_cons_succ]
            refine wpAnyH_ready (rs := [5]) (by kernel_rfl) (by simp) ?_
            refine AllReadyH.cons rfl (fun KK hK => ?_) (AllReadyH.nil)
            go_simp
            have bS : Below w24.heap.size w24 (((v19.setCell ⟨wd.heap.size, 0, none⟩ (.bool (dyT ((EP.V s4 + EP.V t4) * X)).1)).setCell ⟨wd.heap.size, 1, none⟩ (.slice az nz cz)).setCell ⟨wd.heap.size, 2, none⟩ (.int .i64 (dyT ((EP.V s4 + EP.V t4) * X)).2.2)) := ((bw.setCell XL _).setCell XL _).setCell XL _
            refine hK.out _ _ bS (fun _ => ?_)
            clear hK KK
            replace Iz := isW_at (isW_at (isW_at Iz ⟨wd.heap.size, 0, none⟩ (.bool (dyT ((EP.V s4 + EP.V t4) * X)).1) (fun b off i e hi => by first | exact HX.out b off i e hi | (have := Hw.out b off i e hi; exact Nat.ne_of_gt this))) ⟨wd.heap.size, 1, none⟩ (.slice az nz cz) (fun b off i e hi => by first | exact HX.out b off i e hi | (have := Hw.out b off i e hi; exact Nat.ne_of_gt this))) ⟨wd.heap.size, 2, none⟩ (.int .i64 (dyT ((EP.V s4 + EP.V t4) * X)).2.2) (fun b off i e hi => by first | exact HX.out b off i e hi | (have := Hw.out b off i e hi; exact Nat.ne_of_gt this))
            have Z0 : (((v19.setCell ⟨wd.heap.size, 0, none⟩ (.bool (dyT ((EP.V s4 + EP.V t4) * X)).1)).setCell ⟨wd.heap.size, 1, none⟩ (.slice az nz cz)).setCell ⟨wd.heap.size, 2, none⟩ (.int .i64 (dyT ((EP.V s4 + EP.V t4) * X)).2.2)).cell? ⟨wd.heap.size, 0, none⟩ = some (.bool (dyT ((EP.V s4 + EP.V t4) * X)).1) := by go_simp
            have Z1 : (((v19.setCell ⟨wd.heap.size, 0, none⟩ (.bool (dyT ((EP.V s4 + EP.V t4) * X)).1)).setCell ⟨wd.heap.size, 1, none⟩ (.slice az nz cz)).setCell ⟨wd.heap.size, 2, none⟩ (.int .i64 (dyT ((EP.V s4 + EP.V t4) * X)).2.2)).cell? ⟨wd.heap.size, 1, none⟩ = some (.slice az nz cz) := by go_simp
            have Z2 : (((v19.setCell ⟨wd.heap.size, 0, none⟩ (.bool (dyT ((EP.V s4 + EP.V t4) * X)).1)).setCell ⟨wd.heap.size, 1, none⟩ (.slice az nz cz)).setCell ⟨wd.heap.size, 2, none⟩ (.int .i64 (dyT ((EP.V s4 + EP.V t4) * X)).2.2)).cell? ⟨wd.heap.size, 2, none⟩ = some (.int .i64 (dyT ((EP.V s4 + EP.V t4) * X)).2.2) := by go_simp
            clear X0 X1 X2 X3 X4 X5 bw XL
            try simp only [Act.put, List.setIfInBounds_toArray, List.set_cons_zero, List.set_cons_succ]
            generalize (((v19.setCell ⟨wd.heap.size, 0, none⟩ (.bool (dyT ((EP.V s4 + EP.V t4) * X)).1)).setCell ⟨wd.heap.size, 1, none⟩ (.slice az nz cz)).setCell ⟨wd.heap.size, 2, none⟩ (.int .i64 (dyT ((EP.V s4 + EP.V t4) * X)).2.2)) = v20 at *
            have X0 := Z0
            have X1 := Z1
            have X2 := Z2
            have bw := bS
            clear Z0 Z1 Z2 bS
            refine wpAnyH_done (by kernel_rfl) ?_ _
            go_wp2_with fail
            go_meet
            exact ⟨_, _, _, _, rfl, X0, X1, X2, Iz, bw⟩
        case rest =>
          obtain ⟨Xb, aQ, nQ, cQ, rfl, g0, g1, g2, IQ, bn⟩ := hcut
          replace a0 := dcarry_cell bn a0
          replace a1 := dcarry_cell bn a1
          replace b0 := dcarry_cell bn b0
          replace b1 := dcarry_cell bn b1
          replace h0 := dcarry_cell bn h0
          replace h1 := dcarry_cell bn h1
          replace h2 := dcarry_cell bn h2
          replace x0 := dcarry_cell bn x0
          replace x1 := dcarry_cell bn x1
          replace x2 := dcarry_cell bn x2
          replace o0 := dcarry_cell bn o0
          replace o1 := dcarry_cell bn o1
          replace IH := IH.keep bn
          replace IX := IX.keep bn
          replace bB := nbelow_trans bB bn
          clear bn
          rw [dyT_of_U H D HD.out] at h0 h2 IH
          clear a0 a1 b0 b1 x0 x1 x2 IX
          go_upto_region 21 with fail
          have bw : Below wc.heap.size wc wc.drew := (Below.refl _ _).drew
          refine wp_region_held (S := fun w' => Below wc.heap.size wc w') (by kernel_rfl) ?_
          change wpAnyH _ _ _ _ _ _ _ _ (World.drew wc)
          generalize World.drew wc = wd at bw ⊢
          refine wpAnyH_take (i := 0) (v := .agg #[.float .f64 s4, .float .f64 t4]) rfl (by kernel_rfl) (by kernel_rfl) (by kernel_rfl) (fun _ _ _ h => h) (Or.inl ⟨by rfl, ?y17⟩) bw ?r17
          case y17 => (intro ww hS; have qo0 := dcarry_cell hS o0; have qo1 := dcarry_cell hS o1; clear hS; go_simp)
          try simp only [Act.put, List.setIfInBounds_toArray]
          refine wpAnyH_ready (rs := [1]) (by kernel_rfl) (by simp) ?_
          refine AllReadyH.cons rfl (fun KK hK => ?_) AllReadyH.nil
          go_simp
          refine Calls.mono (Fp.finite_calls s4 t4 1800 _ HN4.out.2.2.2.1 HN4.out.2.2.2.2.1 HN4.out.2.1 HN4.out.2.2.1 (by decide) HN4.out.2.2.2.2.2) ?_
          rintro e u21 ⟨rfl, bn⟩
          replace bw := nbelow_trans bw bn
          clear bn
          refine hK.out _ _ bw (fun _ => ?_)
          clear hK KK
          try simp only [Act.put, List.setIfInBounds_toArray, List.set_cons_zero, List.set_cons_succ]
          refine wpAnyH_take (i := 2) (v := .bool true) rfl (by kernel_rfl) (by kernel_rfl) (by kernel_rfl) (fun _ _ _ h => h) (Or.inl ⟨by rfl, ?y18⟩) bw ?r18
          case y18 => (intro ww hS; clear hS; go_simp)
          try simp only [Act.put]
          refine wpAnyH_take (i := 3) (v := .agg #[.bool (dyT ((EP.V s4 + EP.V t4) * X)).1, .slice aQ nQ cQ, .int .i64 (dyT ((EP.V s4 + EP.V t4) * X)).2.2]) rfl (by kernel_rfl) (by kernel_rfl) (by kernel_rfl) (fun _ _ _ h => h) (Or.inl ⟨by rfl, ?y19⟩) bw ?r19
          case y19 => (intro ww hS; have qg0 := dcarry_cell hS g0; have qg1 := dcarry_cell hS g1; have qg2 := dcarry_cell hS g2; clear hS; go_simp)
          try simp only [Act.put]
          refine wpAnyH_take (i := 4) (v := .agg #[.bool (dyT (H * ((2 ^ D : Nat) : Int))).1, .slice aH nH cH, .int .i64 (dyT (H * ((2 ^ D : Nat) : Int))).2.2]) rfl (by kernel_rfl) (by kernel_rfl) (by kernel_rfl) (fun _ _ _ h => h) (Or.inl ⟨by rfl, ?y20⟩) bw ?r20
          case y20 => (intro ww hS; have qh0 := dcarry_cell hS h0; have qh1 := dcarry_cell hS h1; have qh2 := dcarry_cell hS h2; clear hS; go_simp)
          try simp only [Act.put]
          refine wpAnyH_take (i := 6) (v := .agg #[.bool (dyT (H * ((2 ^ D : Nat) : Int))).1, .slice aH nH cH, .int .i64 (dyT (H * ((2 ^ D : Nat) : Int))).2.2]) rfl (by kernel_rfl) (by kernel_rfl) (by kernel_rfl) (fun _ _ _ h => h) (Or.inl ⟨by rfl, ?y21⟩) bw ?r21
          case y21 => (intro ww hS; have qh0 := dcarry_cell hS h0; have qh1 := dcarry_cell hS h1; have qh2 := dcarry_cell hS h2; clear hS; go_simp)
          try simp only [Act.put]
          refine wpAnyH_ready (rs := [5]) (by kernel_rfl) (by simp) ?_
          refine AllReadyH.cons rfl (fun KK hK => ?_) AllReadyH.nil
          go_simp
          refine Calls.mono (tless_calls ((EP.V s4 + EP.V t4) * X) (H * ((2 ^ D : Nat) : Int)) K HK4.out.2.2.1 HK3.out.2.2.2.2 (by omega) aQ aH nQ cQ nH cH _ (IQ.keep bw) (IH.keep bw)) ?_
          rintro e u22 ⟨_, rfl, ⟨ak, nk, ck, rfl, HNk, hOk⟩, bn⟩
          replace bw := nbelow_trans bw bn
          clear bn
          have Jk := hOk.1
          clear hOk HNk
          refine hK.out _ _ bw (fun _ => ?_)
          clear hK KK
          try simp only [Act.put, List.setIfInBounds_toArray, List.set_cons_zero, List.set_cons_succ]
          refine wpAnyH_ready (rs := [7]) (by kernel_rfl) (by simp) ?_
          refine AllReadyH.cons rfl (fun KK hK => ?_) AllReadyH.nil
          go_simp
          refine Calls.mono (withinT_calls ((EP.V s4 + EP.V t4) * X - H * ((2 ^ D : Nat) : Int)) (H * ((2 ^ D : Nat) : Int)) 102 K (-102) (by decide) (by decide) HK4.out.2.2.2 HK3.out.2.2.2.2 (by omega) ak aH nk ck nH cH _ Jk (IH.keep bw) HK4.out.1) ?_
          rintro e u23 ⟨rfl, bn⟩
          replace bw := nbelow_trans bw bn
          clear bn
          clear Jk
          refine hK.out _ _ bw (fun _ => ?_)
          clear hK KK
          try simp only [Act.put, List.setIfInBounds_toArray, List.set_cons_zero, List.set_cons_succ]
          refine wpAnyH_ready (rs := [8]) (by kernel_rfl) (by simp) ?_
          refine AllReadyH.cons rfl (fun KK hK => ?_) AllReadyH.nil
          go_simp
          refine hK.out _ _ bw (fun _ => ?_)
          clear hK KK
          try simp only [Act.put, List.setIfInBounds_toArray, List.set_cons_zero, List.set_cons_succ]
          refine wpAnyH_ready (rs := [9]) (by kernel_rfl) (by simp) ?_
          refine AllReadyH.cons rfl (fun KK hK => ?_) AllReadyH.nil
          go_simp
          refine hK.out _ _ bw (fun _ => ?_)
          clear hK KK
          try simp only [Act.put, List.setIfInBounds_toArray, List.set_cons_zero, List.set_cons_succ]
          refine wpAnyH_done (by kernel_rfl) ?_ _
          go_wp2_with fail
          go_ret
          exact ⟨rfl, nbelow_trans bB bw⟩
end Go.Proofs.Ytlbaphijmonjoaa

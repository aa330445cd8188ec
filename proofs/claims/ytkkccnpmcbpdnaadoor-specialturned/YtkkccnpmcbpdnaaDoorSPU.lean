/- SpecialTurned: the walk. -/
import Derived.Test.YtkkccnpmcbpdnaaDoorSPQ
import Derived.Test.YtkkccnpmcbpdnaaDoorSPP
namespace Go.Proofs.YtkkccnpmcbpdnaaDoor
open Go.RowKit

theorem turn_rows (f x y : Int) (hf : f = 33 ∨ f = 34) (h : U x) : TurnR (spV f x y) (spV f (negV x) y) := by
  rcases hf with rfl | rfl
  · exact turn_angle _ _ _ _ 16 5 x y h ⟨by decide, by decide⟩ ⟨by decide, by decide⟩ ⟨by decide, by decide⟩ ⟨by decide, by decide⟩ (by decide) (by decide)
  · exact turn_angle _ _ _ _ 0 4 x y h ⟨by decide, by decide⟩ ⟨by decide, by decide⟩ ⟨by decide, by decide⟩ ⟨by decide, by decide⟩ (by decide) (by decide)

set_option maxRecDepth 100000 in
set_option maxHeartbeats 8000000 in
theorem specialTurned_walk (x y : Int) (w : World) (h : U x) (k : U y) (hT : TabS w) :
    Calls Tryd.prog 7 #[.int .u64 x, .int .u64 y] w fun r w' => r = .returned (.bool true) ∧ Below w.heap.size w w' := by
  have HB : Hid _ := spBegins_calls w hT
  have hx := xor_sign x h
  have S1 : Hid _ := fun W (b : Below w.heap.size w W) => sp_any 36 x y W (by decide) h k (hT.kept b)
  have S2 : Hid _ := fun W (b : Below w.heap.size w W) => sp_any 36 y x W (by decide) k h (hT.kept b)
  have S3 : Hid _ := fun W (b : Below w.heap.size w W) => sp_any 36 (negV x) y W (by decide) (U_neg x h) k (hT.kept b)
  have HA : Hid _ := fun (f : Int) (hf : f = 33 ∨ f = 34) W (b : Below w.heap.size w W) => sp_any f x y W (by omega) h k (hT.kept b)
  have HC : Hid _ := fun (f : Int) (hf : f = 33 ∨ f = 34) W (b : Below w.heap.size w W) => sp_any f (negV x) y W (by omega) (U_neg x h) k (hT.kept b)
  have HR : Hid _ := fun (f : Int) (hf : f = 33 ∨ f = 34) => turn_rows f x y hf h
  have HU : Hid _ := fun (f : Int) => spV_U f (negV x) y (U_neg x h) k
  have e1 : spV 36 y x = spV 36 x y := hyp_swap y x
  have e2 : spV 36 (negV x) y = spV 36 x y := (hyp_neg x y h).symm
  rw [e1] at S2
  rw [e2] at S3
  rw [show spE 36 = 0 from rfl] at S1 S2 S3
  generalize spV 36 x y = R at *
  obtain ⟨R1, R2, R3⟩ := R
  simp only at S1 S2 S3
  clear e1 e2 hT
  go_enter Tryd.func7, Tryd.ntmps7
  go_wp2_with fail
  refine Calls.mono HB.out ?_
  rintro r w1 ⟨rfl, bb⟩
  go_wp2_with fail
  refine Calls.mono (S1.out _ bb) ?_
  rintro r w2 ⟨rfl, b1⟩
  have b2 := below_trans b1 (below_alloc w2 (.cells #[.int .u64 R1, .int .u8 R2] 33))
  have c0 : (w2.alloc (.cells #[.int .u64 R1, .int .u8 R2] 33)).cell? ⟨w2.heap.size, 0, none⟩ = some (.int .u64 R1) := by go_simp
  have c1 : (w2.alloc (.cells #[.int .u64 R1, .int .u8 R2] 33)).cell? ⟨w2.heap.size, 1, none⟩ = some (.int .u8 R2) := by go_simp
  replace bb := below_trans bb b2
  clear b1 b2 S1
  go_wp2_with fail
  refine Calls.mono (S2.out _ bb) ?_
  rintro r w3 ⟨rfl, b1⟩
  have b2 := below_trans b1 (below_alloc w3 (.cells #[.int .u64 R1, .int .u8 R2] 33))
  have d0 : (w3.alloc (.cells #[.int .u64 R1, .int .u8 R2] 33)).cell? ⟨w3.heap.size, 0, none⟩ = some (.int .u64 R1) := by go_simp
  have d1 : (w3.alloc (.cells #[.int .u64 R1, .int .u8 R2] 33)).cell? ⟨w3.heap.size, 1, none⟩ = some (.int .u8 R2) := by go_simp
  replace c0 := pcell b2 c0
  replace c1 := pcell b2 c1
  replace bb := below_trans bb b2
  clear b1 b2 S2
  go_wp2_with fail
  refine Calls.mono (S3.out _ bb) ?_
  rintro r w4 ⟨rfl, b1⟩
  have b2 := below_trans b1 (below_alloc w4 (.cells #[.int .u64 R1, .int .u8 R2] 33))
  have g0 : (w4.alloc (.cells #[.int .u64 R1, .int .u8 R2] 33)).cell? ⟨w4.heap.size, 0, none⟩ = some (.int .u64 R1) := by go_simp
  have g1 : (w4.alloc (.cells #[.int .u64 R1, .int .u8 R2] 33)).cell? ⟨w4.heap.size, 1, none⟩ = some (.int .u8 R2) := by go_simp
  replace c0 := pcell b2 c0
  replace c1 := pcell b2 c1
  replace d0 := pcell b2 d0
  replace d1 := pcell b2 d1
  replace bb := below_trans bb b2
  clear b1 b2 S3
  go_wp2_with fail
  go_loopw [14, 15, 16, 17, 18, 19, 20] (fun f _ _ _ _ _ _ wr => ∃ k : Nat, 33 ≤ k ∧ k ≤ 35 ∧ f = .int .u8 k ∧ Below w.heap.size w wr) (fun f _ _ _ _ _ _ _ => 35 - (intOf f).toNat)
  case atStart => exact ⟨33, by omega, by omega, rfl, bb⟩
  case round =>
    obtain ⟨n, hn1, hn2, rfl, hb⟩ := hrel
    clear c0 c1 d0 d1 g0 g1 bb
    by_cases hn : n = 35
    · subst hn
      go_wp2_with fail
      go_ret
      exact ⟨rfl, hb⟩
    · have hn3 : n ≤ 34 := by omega
      have hf : (n : Int) = 33 ∨ (n : Int) = 34 := by omega
      have A1 : Hid _ := HA.out n hf
      have A2 : Hid _ := HC.out n hf
      have hr := HR.out n hf
      have hu := HU.out (n : Int)
      have e0 : spE (n : Int) = 0 := by rcases hf with e | e <;> rw [e] <;> rfl
      rw [e0] at A1 A2
      generalize spV (n : Int) x y = R at *
      generalize spV (n : Int) (negV x) y = S at *
      obtain ⟨P1, P2, P3⟩ := R
      obtain ⟨Q1, Q2, Q3⟩ := S
      obtain ⟨f1, f2, f3⟩ := hr
      simp only [Prod.mk.injEq] at f1 f2 f3 A1 A2 hu
      obtain ⟨rfl, rfl⟩ := f1
      have hq := xor_sign Q1 hu
      have HE : Hid ((P3 = 0 ∨ P3 = 1) ∧ P1 = Q1 ∨ ((P3 == 0) = false ∧ (P3 == 1) = false) ∧ P1 = negV Q1) := by
        rw [Hid]
        by_cases c : P3 = 0 ∨ P3 = 1
        · exact Or.inl ⟨c, f2 c⟩
        · exact Or.inr ⟨⟨by simpa using fun e => c (Or.inl e), by simpa using fun e => c (Or.inr e)⟩, f3 c⟩
      clear f2 f3 e0 hu hf
      go_wp2_with fail
      refine Calls.mono (A1.out _ hb) ?_
      rintro r v1 ⟨rfl, b1⟩
      have b2 := below_trans b1 (below_alloc v1 (.cells #[.int .u64 P1, .int .u8 P2] 33))
      have c0 : (v1.alloc (.cells #[.int .u64 P1, .int .u8 P2] 33)).cell? ⟨v1.heap.size, 0, none⟩ = some (.int .u64 P1) := by go_simp
      have c1 : (v1.alloc (.cells #[.int .u64 P1, .int .u8 P2] 33)).cell? ⟨v1.heap.size, 1, none⟩ = some (.int .u8 P2) := by go_simp
      replace hb := below_trans hb b2
      clear b1 b2 A1
      go_wp2_with fail
      refine Calls.mono (A2.out _ hb) ?_
      rintro r v2 ⟨rfl, b1⟩
      have b2 := below_trans b1 (below_alloc v2 (.cells #[.int .u64 Q1, .int .u8 P2] 33))
      have d0 : (v2.alloc (.cells #[.int .u64 Q1, .int .u8 P2] 33)).cell? ⟨v2.heap.size, 0, none⟩ = some (.int .u64 Q1) := by go_simp
      have d1 : (v2.alloc (.cells #[.int .u64 Q1, .int .u8 P2] 33)).cell? ⟨v2.heap.size, 1, none⟩ = some (.int .u8 P2) := by go_simp
      replace c0 := pcell b2 c0
      replace c1 := pcell b2 c1
      replace hb := below_trans hb b2
      clear b1 b2 A2
      rcases HE.out with ⟨hc, he⟩ | ⟨⟨hc1, hc2⟩, he⟩
      · subst he
        rcases hc with rfl | rfl
        all_goals
          go_wp2_with fail
          go_roundw
          case rel => exact ⟨n + 1, by omega, by omega, by go_num, hb⟩
          case measure => simp [intOf]; omega
      · subst he
        go_wp2_with fail
        go_roundw
        case rel => exact ⟨n + 1, by omega, by omega, by go_num, hb⟩
        case measure => simp [intOf]; omega
end Go.Proofs.YtkkccnpmcbpdnaaDoor

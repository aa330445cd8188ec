/- SpecialOdd: the walk. -/
import Derived.Test.YtkkccnpmcbpdnaaDoorSPQ
import Derived.Test.YtkkccnpmcbpdnaaDoorSPP
namespace Go.Proofs.YtkkccnpmcbpdnaaDoor
open Go.RowKit

def oddF (f : Int) : Bool := (f == 13) || (f == 15) || (f == 16) || (f == 18) || (f == 19) || (f == 21) || (f == 22) || (f == 24) || (f == 25) || (f == 27) || (f == 28) || (f == 30) || (f == 31)
theorem oddF_cases (f : Int) (h : oddF f = true) : f = 13 ∨ f = 15 ∨ f = 16 ∨ f = 18 ∨ f = 19 ∨ f = 21 ∨ f = 22 ∨ f = 24 ∨ f = 25 ∨ f = 27 ∨ f = 28 ∨ f = 30 ∨ f = 31 := by
  unfold oddF at h
  simpa [or_assoc] using h
theorem odd_rows (f x y : Int) (hf : oddF f = true) (h : U x) : OddR (spV f x y) (spV f (negV x) y) ∧ spE f = 0 := by
  rcases oddF_cases f hf with rfl | rfl | rfl | rfl | rfl | rfl | rfl | rfl | rfl | rfl | rfl | rfl | rfl
  · exact ⟨odd_lists lSin x h (odd_sin x h), rfl⟩
  · exact ⟨odd_lists lSin x h (odd_sin x h), rfl⟩
  · exact ⟨odd_lists lSinpi x h (odd_sinpi x h), rfl⟩
  · exact ⟨odd_lists lTanpi x h (odd_tanpi x h), rfl⟩
  · exact ⟨odd_lists lAsin x h (odd_asin x h), rfl⟩
  · exact ⟨odd_lists lAtan x h (odd_atan x h), rfl⟩
  · exact ⟨odd_lists lAsin x h (odd_asin x h), rfl⟩
  · exact ⟨odd_lists lAtanpi x h (odd_atanpi x h), rfl⟩
  · exact ⟨odd_lists lThem x h (odd_them x h), rfl⟩
  · exact ⟨odd_lists lTanh x h (odd_tanh x h), rfl⟩
  · exact ⟨odd_lists lThem x h (odd_them x h), rfl⟩
  · exact ⟨odd_atanh x h, rfl⟩
  · exact ⟨odd_lists lThem x h (odd_them x h), rfl⟩

set_option maxRecDepth 100000 in
set_option maxHeartbeats 4000000 in
theorem oddF_calls (f : Int) (w : World) : Calls Tryd.prog 18 #[.int .u8 f] w fun r w' => r = .returned (.bool (oddF f)) ∧ w' = w := by
  cases ho : oddF f with
  | true =>
    rcases oddF_cases f ho with rfl | rfl | rfl | rfl | rfl | rfl | rfl | rfl | rfl | rfl | rfl | rfl | rfl
    all_goals
      go_enter Tryd.func18, Tryd.ntmps18
      go_wp2_with fail
      go_ret
      exact ⟨rfl, rfl⟩
  | false =>
    unfold oddF at ho
    simp only [Bool.or_eq_false_iff] at ho
    obtain ⟨⟨⟨⟨⟨⟨⟨⟨⟨⟨⟨⟨h1, h2⟩, h3⟩, h4⟩, h5⟩, h6⟩, h7⟩, h8⟩, h9⟩, h10⟩, h11⟩, h12⟩, h13⟩ := ho
    go_enter Tryd.func18, Tryd.ntmps18
    go_wp2_with fail
    go_ret
    exact ⟨rfl, rfl⟩

set_option maxRecDepth 100000 in
set_option maxHeartbeats 4000000 in
theorem specialOdd_walk (f x y : Int) (w : World) (hf : 0 ≤ f ∧ f ≤ 255) (h : U x) (k : U y) (hT : TabS w) :
    Calls Tryd.prog 6 #[.int .u8 f, .int .u64 x, .int .u64 y] w fun r w' => r = .returned (.bool true) ∧ Below w.heap.size w w' := by
  have HB : Hid _ := spBegins_calls w hT
  have OC : Hid _ := fun W => oddF_calls f W
  have S1 : Hid _ := fun W (b : Below w.heap.size w W) => sp_any f x y W hf.1 h k (hT.kept b)
  have S2 : Hid _ := fun W (b : Below w.heap.size w W) => sp_any f (negV x) y W hf.1 (U_neg x h) k (hT.kept b)
  have hx := xor_sign x h
  cases ho : oddF f with
  | false =>
    rw [ho] at OC
    go_enter Tryd.func6, Tryd.ntmps6
    go_wp2_with fail
    refine Calls.mono HB.out ?_
    rintro r w1 ⟨rfl, bb⟩
    go_wp2_with fail
    refine Calls.mono (OC.out _) ?_
    rintro r w1 ⟨rfl, rfl⟩
    go_wp2_with fail
    go_ret
    exact ⟨rfl, bb⟩
  | true =>
    rw [ho] at OC
    obtain ⟨⟨e1, e2, e3⟩, e4⟩ := odd_rows f x y ho h
    have US : U (spV f (negV x) y).1 := spV_U f (negV x) y (U_neg x h) k
    rw [e4] at S1 S2
    generalize spV f x y = R at *
    generalize spV f (negV x) y = S at *
    obtain ⟨R1, R2, R3⟩ := R
    obtain ⟨Q1, Q2, Q3⟩ := S
    simp only [Prod.mk.injEq] at e1 e2 e3 S1 S2 US
    obtain ⟨rfl, rfl⟩ := e1
    have hq := xor_sign Q1 US
    have HE : Hid ((R3 = 0 ∨ R1 = 9221120237041090560) ∧ R1 = Q1 ∨ ((R3 == 0) = false ∧ (R1 == 9221120237041090560) = false) ∧ R1 = negV Q1) := by
      rw [Hid]
      by_cases c : R3 = 0 ∨ R1 = 9221120237041090560
      · exact Or.inl ⟨c, e2 c⟩
      · exact Or.inr ⟨⟨by simpa using fun e => c (Or.inl e), by simpa using fun e => c (Or.inr e)⟩, e3 c⟩
    clear e2 e3 e4 US
    have main : ∀ (B : Bool), B = true → Calls Tryd.prog 6 #[.int .u8 f, .int .u64 x, .int .u64 y] w fun r w' => r = .returned (.bool B) ∧ Below w.heap.size w w' := by
      intro B hB
      have HQ : Hid (B = true) := hB
      clear hB
      go_enter Tryd.func6, Tryd.ntmps6
      go_wp2_with fail
      refine Calls.mono HB.out ?_
      rintro r w1 ⟨rfl, bb⟩
      go_wp2_with fail
      refine Calls.mono (OC.out _) ?_
      rintro r w1 ⟨rfl, rfl⟩
      go_wp2_with fail
      refine Calls.mono (S1.out _ bb) ?_
      rintro r w2 ⟨rfl, b1⟩
      have b2 := below_alloc w2 (.cells #[.int .u64 R1, .int .u8 R2] 33)
      have c0 : (w2.alloc (.cells #[.int .u64 R1, .int .u8 R2] 33)).cell? ⟨w2.heap.size, 0, none⟩ = some (.int .u64 R1) := by go_simp
      have c1 : (w2.alloc (.cells #[.int .u64 R1, .int .u8 R2] 33)).cell? ⟨w2.heap.size, 1, none⟩ = some (.int .u8 R2) := by go_simp
      replace bb := below_trans bb (below_trans b1 b2)
      clear b1 b2 S1
      go_wp2_with fail
      refine Calls.mono (S2.out _ bb) ?_
      rintro r w3 ⟨rfl, b1⟩
      have b2 := below_trans b1 (below_alloc w3 (.cells #[.int .u64 Q1, .int .u8 R2] 33))
      have d0 : (w3.alloc (.cells #[.int .u64 Q1, .int .u8 R2] 33)).cell? ⟨w3.heap.size, 0, none⟩ = some (.int .u64 Q1) := by go_simp
      have d1 : (w3.alloc (.cells #[.int .u64 Q1, .int .u8 R2] 33)).cell? ⟨w3.heap.size, 1, none⟩ = some (.int .u8 R2) := by go_simp
      replace c0 := pcell b2 c0
      replace c1 := pcell b2 c1
      replace bb := below_trans bb b2
      clear b1 b2 S2 hx
      rcases HE.out with ⟨hc, he⟩ | ⟨⟨hc1, hc2⟩, he⟩
      · subst he
        rcases hc with rfl | rfl
        · go_wp2_with fail
          go_ret
          exact ⟨by rw [HQ.out]; rfl, bb⟩
        · go_wp2_with fail
          all_goals
            go_ret
            exact ⟨by rw [HQ.out]; rfl, bb⟩
      · have HN : Hid (R1 = negV Q1) := he
        clear he
        go_wp2_with fail
        go_ret
        refine ⟨ret_bool ?_, bb⟩
        rw [HQ.out, HN.out]
        simp
    exact main true rfl
end Go.Proofs.YtkkccnpmcbpdnaaDoor

/- Package special: a function's lines in their order. -/
import Derived.Test.YtkkccnpmcbpdnaaGreatDoorSPC
namespace Go.Proofs.YtkkccnpmcbpdnaaGreatDoor
open Go.RowKit

theorem withN_app (la lb : List Li) : withN la lb = [(tEither tSignal, aInvalid)] ++ la ++ [(tEither tQuiet, aNoNumber)] ++ lb := by
  unfold withN
  simp only [List.append_assoc, List.cons_append, List.nil_append]

set_option maxRecDepth 100000 in
set_option maxHeartbeats 4000000 in
theorem withNaN_calls (a1 a2 : Option Addr) (n1 c1 n2 c2 : Nat) (v1 v2 : List Value) (la lb : List Li) (w : World) (h1 : IsC w a1 n1 c1 v1) (h2 : IsC w a2 n2 c2 v2) (g1 : Fit w v1 la) (g2 : Fit w v2 lb) (e1 : n1 = la.length) (e2 : n2 = lb.length) (m1 : n1 ≤ 64) (m2 : n2 ≤ 64) :
    Calls Tryz.prog 144 #[.slice a1 n1 c1, .slice a2 n2 c2] w (ML w (withN la lb)) := by
  have HE : Hid (n1 = la.length ∧ n2 = lb.length) := ⟨e1, e2⟩
  clear e1 e2
  go_enter Tryz.func144, Tryz.ntmps144
  go_wp2_with fail
  refine (either_made _ _ tSignal _ (tSignal_is _)).mono ?_
  rintro r w1 ⟨G1, q1, rfl, t1, b1⟩
  have bX := below_alloc w1 (.cells #[.func (.func G1) #[] q1, .func (.func 147) #[] #[]] 60)
  have i1 := isC_made w1 #[.func (.func G1) #[] q1, .func (.func 147) #[] #[]] 60 1 rfl
  have f1 : Fit (w1.alloc (.cells #[.func (.func G1) #[] q1, .func (.func 147) #[] #[]] 60)) [.func (.func G1) #[] q1, .func (.func 147) #[] #[]] [(tEither tSignal, aInvalid)] := ⟨t1.keep bX, aInvalid_is _, trivial⟩
  replace h1 := (h1.keep b1).keep bX
  replace h2 := (h2.keep b1).keep bX
  replace g1 := (g1.keep b1).keep bX
  replace g2 := (g2.keep b1).keep bX
  have bb := below_trans b1 bX
  clear b1 bX t1
  go_wp2_with fail
  generalize hs1 : w1.heap.size = B1 at *
  generalize w1.alloc (.cells #[.func (.func G1) #[] q1, .func (.func 147) #[] #[]] 60) = w2 at *
  clear hs1
  refine (either_made _ _ tQuiet _ (tQuiet_is _)).mono ?_
  rintro r w3 ⟨G2, q2, rfl, t2, b2⟩
  have bX := below_alloc w3 (.cells #[.func (.func G2) #[] q2, .func (.func 149) #[] #[]] 60)
  have i2 := isC_made w3 #[.func (.func G2) #[] q2, .func (.func 149) #[] #[]] 60 1 rfl
  have f2 : Fit (w3.alloc (.cells #[.func (.func G2) #[] q2, .func (.func 149) #[] #[]] 60)) [.func (.func G2) #[] q2, .func (.func 149) #[] #[]] [(tEither tQuiet, aNoNumber)] := ⟨t2.keep bX, aNoNumber_is _, trivial⟩
  replace h1 := (h1.keep b2).keep bX
  replace h2 := (h2.keep b2).keep bX
  replace g1 := (g1.keep b2).keep bX
  replace g2 := (g2.keep b2).keep bX
  replace i1 := (i1.keep b2).keep bX
  replace f1 := (f1.keep b2).keep bX
  replace bb := below_trans (below_trans bb b2) bX
  clear b2 bX t2
  go_wp2_with fail
  generalize hs3 : w3.heap.size = B3 at *
  have hs4 : (w3.alloc (.cells #[.func (.func G2) #[] q2, .func (.func 149) #[] #[]] 60)).heap.size = B3 + 1 := by rw [← hs3]; simp
  generalize w3.alloc (.cells #[.func (.func G2) #[] q2, .func (.func 149) #[] #[]] 60) = w4 at *
  have bY := below_alloc w4 (.cells #[.slice (some ⟨B1, 0, none⟩) 1 1, .slice a1 n1 c1, .slice (some ⟨B3, 0, none⟩) 1 1, .slice a2 n2 c2] 53)
  refine (concat4_calls (B3 + 1) (some ⟨B1, 0, none⟩) a1 (some ⟨B3, 0, none⟩) a2 1 n1 1 n2 1 c1 1 c2 _ v1 _ v2 _ (by rw [← hs4]; go_simp) (by rw [← hs4]; go_simp) (by rw [← hs4]; go_simp) (by rw [← hs4]; go_simp) (i1.keep bY) (h1.keep bY) (i2.keep bY) (h2.keep bY) f1.one g1.one f2.one g2.one (by omega) m1 (by omega) m2).mono ?_
  rintro r w5 ⟨a, cv, rfl, hC, b5⟩
  have bZ := below_trans bY b5
  go_wp2_with fail
  go_ret
  refine ⟨a, _, cv, _, rfl, ?_, hC, ?_, below_trans bb bZ⟩
  · obtain ⟨e1, e2⟩ := HE.out
    rw [withN_app]
    simp only [List.length_append, List.length_cons, List.length_nil]
    omega
  · rw [withN_app]
    exact ((g2.keep bZ).app ((f2.keep bZ).app ((g1.keep bZ).app (f1.keep bZ))))

set_option maxRecDepth 100000 in
set_option maxHeartbeats 4000000 in
theorem inOrder_one (F : Nat) (ls : List Li) (w : World) (hF : CL F ls) (hM : Meas w) (hl : ls.length ≤ 64) :
    Calls Tryz.prog 143 #[.agg #[.func (.func F) #[] #[]]] w (ML w (withN [] ls)) := by
  have bA := below_alloc w (.cells #[.func (.func F) #[] #[]] 73)
  have C : Hid _ := hF.2 _ (hM.kept bA)
  have hB : ∀ (xs : Array Value) (w : World), Sem.run Tryz.prog (callFunc F xs) w = .ok (.enter F xs) w := hF.1
  clear hF
  go_enter Tryz.func143, Tryz.ntmps143
  go_wp2_with fail
  refine Calls.mono C.out ?_
  rintro r w1 ⟨a, n, c, vs, rfl, hn, hI, hf, b1⟩
  have HN : Hid (n = ls.length) := hn
  clear hn
  go_wp2_with fail
  refine Calls.mono (withNaN_calls none a 0 0 n c [] vs [] ls w1 (isC_nil _) hI trivial hf rfl HN.out (by omega) (by rw [HN.out]; exact hl)) ?_
  rintro r w2 ⟨a2, n2, c2, v2, rfl, h1, h2, h3, h4⟩
  have H1 : Hid _ := h1
  clear h1
  go_wp2_with fail
  go_ret
  exact ⟨a2, n2, c2, v2, rfl, H1.out, h2, h3, below_trans (below_trans bA b1) h4⟩

set_option maxRecDepth 100000 in
set_option maxHeartbeats 4000000 in
theorem inOrder_two (F G : Nat) (la ls : List Li) (w : World) (hF : CL F la) (hG : CL G ls) (hM : Meas w) (hl : la.length ≤ 64) (hk : ls.length ≤ 64) :
    Calls Tryz.prog 151 #[.agg #[.func (.func F) #[] #[], .func (.func G) #[] #[]]] w (ML w (withN la ls)) := by
  have bA := below_alloc w (.cells #[.func (.func F) #[] #[], .func (.func G) #[] #[]] 75)
  have k0 : (w.alloc (.cells #[.func (.func F) #[] #[], .func (.func G) #[] #[]] 75)).cell? ⟨w.heap.size, 0, none⟩ = some (.func (.func F) #[] #[]) := by go_simp
  have k1 : (w.alloc (.cells #[.func (.func F) #[] #[], .func (.func G) #[] #[]] 75)).cell? ⟨w.heap.size, 1, none⟩ = some (.func (.func G) #[] #[]) := by go_simp
  have C : Hid _ := fun W (b : Below w.heap.size w W) => hF.2 W (hM.kept b)
  have D : Hid _ := fun W (b : Below w.heap.size w W) => hG.2 W (hM.kept b)
  have hB : ∀ (xs : Array Value) (w : World), Sem.run Tryz.prog (callFunc F xs) w = .ok (.enter F xs) w := hF.1
  have hB' : ∀ (xs : Array Value) (w : World), Sem.run Tryz.prog (callFunc G xs) w = .ok (.enter G xs) w := hG.1
  clear hF hG
  go_enter Tryz.func151, Tryz.ntmps151
  go_wp2_with fail
  generalize w.alloc (.cells #[.func (.func F) #[] #[], .func (.func G) #[] #[]] 75) = w0 at *
  have bD : Below w0.heap.size w0 w0.drew := (Below.refl _ _).drew
  have bE := below_trans bA bD
  go_region_with (first
      | (go_at_call 144; refine Calls.mono (withNaN_calls a a2 n c n2 c2 vs v2 la ls _ (hI.keep b2) hI2 (hf.keep b2) hf2 HN.out HN2.out (by rw [HN.out]; exact hl) (by rw [HN2.out]; exact hk)) ?_; rintro r w3 ⟨a3, n3, c3, v3, rfl, h1, h2, h3, b3⟩; have H1 : Hid _ := h1; clear h1; have bF := below_trans bC b3; clear b3)
      | (refine Calls.mono (C.out _ bE) ?_; rintro r w1 ⟨a, n, c, vs, rfl, hn, hI, hf, b1⟩; have HN : Hid (n = la.length) := hn; clear hn; have j1 := pcell (below_trans bD b1) k1; have bB := below_trans bE b1; clear b1)
      | (refine Calls.mono (D.out _ bB) ?_; rintro r w2 ⟨a2, n2, c2, v2, rfl, hn2, hI2, hf2, b2⟩; have HN2 : Hid (n2 = ls.length) := hn2; clear hn2; have bC := below_trans bB b2))
  all_goals
    go_wp2_with fail
    go_ret
    exact ⟨a3, n3, c3, v3, rfl, H1.out, h2, h3, bF⟩
end Go.Proofs.YtkkccnpmcbpdnaaGreatDoor

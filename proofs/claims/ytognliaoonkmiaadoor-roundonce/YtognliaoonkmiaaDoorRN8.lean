/- Package round: Near and Tiny as they are called. -/
import Derived.Test.YtognliaoonkmiaaDoorRN7
namespace Go.Proofs.YtognliaoonkmiaaDoor
open Go.RowKit

/-- what Near answers: bits, flags, error; what Tiny answers -/
def nbR (s : Bool) (m : Nat) (e : Int) : Int := if rightB m e = true then nearB s m e else 0
def flR (s : Bool) (m : Nat) (e : Int) : Int := if rightB m e = true then (if exactB m e = true then 0 else inxF (nearB s m e) (tinyP m e)) else 0
def erR (m : Nat) (e : Int) : Int := if rightB m e = true then 0 else 2
def tyR (m : Nat) (e : Int) : Bool := rightB m e && (decide (m ≠ 0) && tinyP m e)
theorem nearB_U (s : Bool) (m : Nat) (e : Int) : U (nearB s m e) := by
  unfold nearB
  split
  · exact neg_U _
  · exact (near_ch m e).2.2.2

set_option maxRecDepth 100000 in
set_option maxHeartbeats 2000000 in
theorem pNear_calls (s : Bool) (a : Option Addr) (len cap : Nat) (xs : List Int) (e : Int) (w : World) (h : IsW w a len cap xs) (hm : len ≤ 17592186044000) (hT : Tab w) :
    Calls Tryd.prog 6 #[dyV s a len cap e] w fun r w' => r = .returned (.tuple #[.agg #[.int .u64 (nbR s (val xs) e), .int .u8 (flR s (val xs) e)], .int .i64 (erR (val xs) e)]) ∧ Below w.heap.size w w' := by
  have bA : Below w.heap.size w ((w.alloc (.cells #[.bool s, .slice a len cap, .int .i64 e] 26)).alloc (.cells #[.int .u64 0, .int .u8 0] 33)) := nbelow_trans (below_one _ _) (below_one _ _)
  have hI := h.keep bA
  have hT0 := hT.kept bA
  have HC : Hid _ := check_calls s a len cap xs e _ hI (by omega)
  have c1 : ((w.alloc (.cells #[.bool s, .slice a len cap, .int .i64 e] 26)).alloc (.cells #[.int .u64 0, .int .u8 0] 33)).cell? ⟨w.heap.size, 0, none⟩ = some (.bool s) := by go_simp
  have c2 : ((w.alloc (.cells #[.bool s, .slice a len cap, .int .i64 e] 26)).alloc (.cells #[.int .u64 0, .int .u8 0] 33)).cell? ⟨w.heap.size, 1, none⟩ = some (.slice a len cap) := by go_simp
  have c3 : ((w.alloc (.cells #[.bool s, .slice a len cap, .int .i64 e] 26)).alloc (.cells #[.int .u64 0, .int .u8 0] 33)).cell? ⟨w.heap.size, 2, none⟩ = some (.int .i64 e) := by go_simp
  have z0 : ((w.alloc (.cells #[.bool s, .slice a len cap, .int .i64 e] 26)).alloc (.cells #[.int .u64 0, .int .u8 0] 33)).cell? ⟨w.heap.size + 1, 0, none⟩ = some (.int .u64 0) := by go_simp
  have z1 : ((w.alloc (.cells #[.bool s, .slice a len cap, .int .i64 e] 26)).alloc (.cells #[.int .u64 0, .int .u8 0] 33)).cell? ⟨w.heap.size + 1, 1, none⟩ = some (.int .u8 0) := by go_simp
  have f0 : ((w.alloc (.cells #[.bool s, .slice a len cap, .int .i64 e] 26)).alloc (.cells #[.int .u64 0, .int .u8 0] 33)).frozen? ⟨w.heap.size + 1, 0, none⟩ = false := by go_simp
  have f1 : ((w.alloc (.cells #[.bool s, .slice a len cap, .int .i64 e] 26)).alloc (.cells #[.int .u64 0, .int .u8 0] 33)).frozen? ⟨w.heap.size + 1, 1, none⟩ = false := by go_simp
  cases hr : rightB (val xs) e with
  | false =>
    rw [hr] at HC
    change Hid (Calls _ _ _ _ fun r w' => r = .returned (.int .i64 2) ∧ _) at HC
    have e1 : Hid (nbR s (val xs) e = 0) := by rw [Hid]; unfold nbR; rw [hr]; rfl
    have e2 : Hid (flR s (val xs) e = 0) := by rw [Hid]; unfold flR; rw [hr]; rfl
    have e3 : Hid (erR (val xs) e = 2) := by rw [Hid]; unfold erR; rw [hr]; rfl
    clear hr h hT
    go_enter Tryd.func6, Tryd.ntmps6
    go_wp2_with fail
    generalize ((w.alloc (.cells #[.bool s, .slice a len cap, .int .i64 e] 26)).alloc (.cells #[.int .u64 0, .int .u8 0] 33)) = w0 at *
    refine Calls.mono HC.out ?_
    rintro r w1 ⟨rfl, bN⟩
    replace f0 := dcarry_frozen bN z0 f0
    replace f1 := dcarry_frozen bN z1 f1
    replace z0 := dcarry_cell bN z0
    replace z1 := dcarry_cell bN z1
    replace bA := nbelow_trans bA bN
    clear bN
    go_wp2_with fail
    rw [e1.out, e2.out, e3.out]
    exact bodyPost_ret (v := .tuple #[.agg #[.int .u64 0, .int .u8 0], .int .i64 2]) (by simp [results, Tryd.results6, go_sem, z0, z1]) rfl ⟨rfl, by repeat (first | exact bA | refine Below.setCell ?_ (by simp) _)⟩
  | true =>
    rw [hr] at HC
    change Hid (Calls _ _ _ _ fun r w' => r = .returned (.int .i64 0) ∧ _) at HC
    have HN : Hid _ := fun w' (h' : IsW w' a len cap xs) t' => nearest_calls s a len cap xs e w' h' hm t' hr
    have e1 : Hid (nbR s (val xs) e = nearB s (val xs) e) := by rw [Hid]; unfold nbR; rw [hr]; rfl
    have e3 : Hid (erR (val xs) e = 0) := by rw [Hid]; unfold erR; rw [hr]; rfl
    have hU := nearB_U s (val xs) e
    have HTi : Hid _ := fun w' (h' : IsW w' a len cap xs) t' => tiny_calls s a len cap xs e w' h' hm t' hr
    have HX : Hid _ := fun w' => inexact_calls (nearB s (val xs) e) (tinyP (val xs) e) w' hU
    cases hx : exactB (val xs) e with
    | true =>
      have e2 : Hid (flR s (val xs) e = 0) := by rw [Hid]; unfold flR; rw [hr, hx]; rfl
      rw [hx] at HN
      generalize nearB s (val xs) e = nb at *
      clear hr h hT hx HTi HX hU
      go_enter Tryd.func6, Tryd.ntmps6
      go_wp2_with fail
      generalize ((w.alloc (.cells #[.bool s, .slice a len cap, .int .i64 e] 26)).alloc (.cells #[.int .u64 0, .int .u8 0] 33)) = w0 at *
      refine Calls.mono HC.out ?_
      rintro r w1 ⟨rfl, bN⟩
      replace f0 := dcarry_frozen bN z0 f0
      replace f1 := dcarry_frozen bN z1 f1
      replace z0 := dcarry_cell bN z0
      replace z1 := dcarry_cell bN z1
      replace c1 := dcarry_cell bN c1
      replace c2 := dcarry_cell bN c2
      replace c3 := dcarry_cell bN c3
      replace hI := hI.keep bN
      replace hT0 := hT0.kept bN
      replace bA := nbelow_trans bA bN
      clear bN
      go_wp2_with fail
      refine Calls.mono (HN.out _ hI hT0) ?_
      rintro r w2 ⟨rfl, bN⟩
      replace f0 := dcarry_frozen bN z0 f0
      replace f1 := dcarry_frozen bN z1 f1
      replace z0 := dcarry_cell bN z0
      replace z1 := dcarry_cell bN z1
      replace c1 := dcarry_cell bN c1
      replace c2 := dcarry_cell bN c2
      replace c3 := dcarry_cell bN c3
      replace hI := hI.keep bN
      replace hT0 := hT0.kept bN
      replace bA := nbelow_trans bA bN
      clear bN
      go_wp2_with fail
      rw [e1.out, e2.out, e3.out]
      exact bodyPost_ret (v := .tuple #[.agg #[.int .u64 nb, .int .u8 0], .int .i64 0]) (by simp [results, Tryd.results6, go_sem, z0, z1]) rfl ⟨rfl, by repeat (first | exact bA | refine Below.setCell ?_ (by simp) _)⟩
    | false =>
      have e2 : Hid (flR s (val xs) e = inxF (nearB s (val xs) e) (tinyP (val xs) e)) := by rw [Hid]; unfold flR; rw [hr, hx]; rfl
      rw [hx] at HN
      generalize inxF (nearB s (val xs) e) (tinyP (val xs) e) = fx at *
      generalize nearB s (val xs) e = nb at *
      generalize tinyP (val xs) e = ty at *
      clear hr h hT hx hU
      go_enter Tryd.func6, Tryd.ntmps6
      go_wp2_with fail
      generalize ((w.alloc (.cells #[.bool s, .slice a len cap, .int .i64 e] 26)).alloc (.cells #[.int .u64 0, .int .u8 0] 33)) = w0 at *
      refine Calls.mono HC.out ?_
      rintro r w1 ⟨rfl, bN⟩
      replace f0 := dcarry_frozen bN z0 f0
      replace f1 := dcarry_frozen bN z1 f1
      replace z0 := dcarry_cell bN z0
      replace z1 := dcarry_cell bN z1
      replace c1 := dcarry_cell bN c1
      replace c2 := dcarry_cell bN c2
      replace c3 := dcarry_cell bN c3
      replace hI := hI.keep bN
      replace hT0 := hT0.kept bN
      replace bA := nbelow_trans bA bN
      clear bN
      go_wp2_with fail
      refine Calls.mono (HN.out _ hI hT0) ?_
      rintro r w2 ⟨rfl, bN⟩
      replace f0 := dcarry_frozen bN z0 f0
      replace f1 := dcarry_frozen bN z1 f1
      replace z0 := dcarry_cell bN z0
      replace z1 := dcarry_cell bN z1
      replace c1 := dcarry_cell bN c1
      replace c2 := dcarry_cell bN c2
      replace c3 := dcarry_cell bN c3
      replace hI := hI.keep bN
      replace hT0 := hT0.kept bN
      replace bA := nbelow_trans bA bN
      clear bN
      go_wp2_with fail
      refine Calls.mono (HTi.out _ hI hT0) ?_
      rintro r w3 ⟨rfl, bN⟩
      replace f0 := dcarry_frozen bN z0 f0
      replace f1 := dcarry_frozen bN z1 f1
      replace z0 := dcarry_cell bN z0
      replace z1 := dcarry_cell bN z1
      replace c1 := dcarry_cell bN c1
      replace c2 := dcarry_cell bN c2
      replace c3 := dcarry_cell bN c3
      replace hI := hI.keep bN
      replace hT0 := hT0.kept bN
      replace bA := nbelow_trans bA bN
      clear bN
      go_wp2_with fail
      refine Calls.mono (HX.out _) ?_
      rintro r w4 ⟨rfl, bN⟩
      replace f0 := dcarry_frozen bN z0 f0
      replace f1 := dcarry_frozen bN z1 f1
      replace z0 := dcarry_cell bN z0
      replace z1 := dcarry_cell bN z1
      replace c1 := dcarry_cell bN c1
      replace c2 := dcarry_cell bN c2
      replace c3 := dcarry_cell bN c3
      replace hI := hI.keep bN
      replace hT0 := hT0.kept bN
      replace bA := nbelow_trans bA bN
      clear bN
      go_wp2_with fail
      rw [e1.out, e2.out, e3.out]
      exact bodyPost_ret (v := .tuple #[.agg #[.int .u64 nb, .int .u8 fx], .int .i64 0]) (by simp [results, Tryd.results6, go_sem, z0, z1]) rfl ⟨rfl, by repeat (first | exact bA | refine Below.setCell ?_ (by simp) _)⟩

end Go.Proofs.YtognliaoonkmiaaDoor

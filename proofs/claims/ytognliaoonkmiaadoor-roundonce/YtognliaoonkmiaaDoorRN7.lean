/- Package round: tiny, Near and Tiny as they are called. -/
import Derived.Test.YtognliaoonkmiaaDoorRN3
import Derived.Test.YtognliaoonkmiaaDoorRNX
namespace Go.Proofs.YtognliaoonkmiaaDoor
open Go.RowKit

theorem right_lim : rightB 18014398509481983 (-1076) = true := by
  have h : blen 18014398509481983 ≤ 54 := (blen_le _ _).2 (by decide)
  have : greatB 18014398509481983 = false := (great_not _).2 (by omega)
  unfold rightB inB
  rw [this]
  rfl

set_option maxRecDepth 100000 in
set_option maxHeartbeats 4000000 in
theorem tiny_calls (s : Bool) (a : Option Addr) (len cap : Nat) (xs : List Int) (e : Int) (w : World) (h : IsW w a len cap xs) (hm : len ≤ 17592186044000) (hT : Tab w) (hr : rightB (val xs) e = true) :
    Calls Tryd.prog 23 #[dyV s a len cap e] w fun r w' => r = .returned (.bool (tinyP (val xs) e)) ∧ Below w.heap.size w w' := by
  have bA : Below w.heap.size w (w.alloc (.cells #[.bool false, .slice a len cap, .int .i64 e] 26)) := below_one w _
  have hI := h.keep bA
  have hT0 := hT.kept bA
  have HO : Hid _ := fun w => of_eq 18014398509481983 w (by decide)
  have HC : Hid _ := fun (ao : Option Addr) (n c : Nat) w' (h' : IsW w' a len cap xs) (h2 : IsW w' ao n c (wordsOf 18014398509481983)) hn t' => dcmp_yes false a len cap xs e false ao n c (wordsOf 18014398509481983) (-1076) w' h' (by omega) h2 hn t' hr (by rw [val_words]; exact right_lim)
  rw [val_words] at HC
  have hP : Hid (tinyP (val xs) e = decide (cmpD (formD false (val xs) e) (formD false 18014398509481983 (-1076)) < 0)) := rfl
  generalize tinyP (val xs) e = ans at *
  generalize cmpD (formD false (val xs) e) (formD false 18014398509481983 (-1076)) = cc at *
  have c1 : (w.alloc (.cells #[.bool false, .slice a len cap, .int .i64 e] 26)).cell? ⟨w.heap.size, 0, none⟩ = some (.bool false) := by go_simp
  have c2 : (w.alloc (.cells #[.bool false, .slice a len cap, .int .i64 e] 26)).cell? ⟨w.heap.size, 1, none⟩ = some (.slice a len cap) := by go_simp
  have c3 : (w.alloc (.cells #[.bool false, .slice a len cap, .int .i64 e] 26)).cell? ⟨w.heap.size, 2, none⟩ = some (.int .i64 e) := by go_simp
  clear hr h hT
  go_enter Tryd.func23, Tryd.ntmps23
  go_upto_region 2 with fail
  generalize (w.alloc (.cells #[.bool false, .slice a len cap, .int .i64 e] 26)) = w0 at *
  go_region_with (first
    | (go_at_call 18; refine (HO.out _).mono ?_; rintro r w9 ⟨ao, n, c, rfl, hN, hn, hO, b9⟩; have hOI := hO.1; clear hO hN; replace c1 := dcarry_cell b9 (p := ⟨w.heap.size, 0, none⟩) (v := .bool false) (by go_simp); replace c2 := dcarry_cell b9 (p := ⟨w.heap.size, 1, none⟩) (v := .slice a len cap) (by go_simp); replace c3 := dcarry_cell b9 (p := ⟨w.heap.size, 2, none⟩) (v := .int .i64 e) (by go_simp); replace bA := nbelow_trans (show Below w.heap.size w _ from by repeat (first | exact bA | refine Below.drew ?_ )) b9; replace hI := IsW.keep (IsW.keep hI (show Below w0.heap.size w0 _ from by repeat (first | exact Below.refl _ _ | refine Below.drew ?_ ))) b9; replace hT0 := Tab.kept (Tab.kept hT0 (show Below w0.heap.size w0 _ from by repeat (first | exact Below.refl _ _ | refine Below.drew ?_ ))) b9; clear b9)
    | (go_at_call 40; refine (HC.out _ _ _ _ (by first | exact hI | exact IsW.keep hI ((Below.refl _ _).drew)) (by first | exact hOI | exact IsW.keep hOI ((Below.refl _ _).drew)) (by omega) (by first | exact hT0 | exact Tab.kept hT0 ((Below.refl _ _).drew))).mono ?_; rintro r w10 ⟨rfl, b9⟩; replace bA := nbelow_trans (show Below w.heap.size w _ from by repeat (first | exact bA | refine Below.drew ?_ )) b9; clear b9))
  all_goals go_wp2_with fail
  all_goals go_ret
  all_goals rw [hP.out]
  all_goals exact ⟨rfl, by repeat (first | exact bA | refine Below.drew ?_)⟩
end Go.Proofs.YtognliaoonkmiaaDoor

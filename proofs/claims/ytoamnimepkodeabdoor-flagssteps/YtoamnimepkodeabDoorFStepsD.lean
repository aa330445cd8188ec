/- The walk of the document's Do: what a step does to an environment that is a plain value. -/
import Derived.Test.YtoamnimepkodeabDoorFSteps
namespace Go.Proofs.YtoamnimepkodeabDoor
open Go.RowKit

theorem three_kept {w w1 : World} {a0 a1 b0 b1 c0 c1 : Value} {t t' t'' : TypeId}
    (h : Below (((w.alloc (.cells #[a0, a1] t)).alloc (.cells #[b0, b1] t')).alloc (.cells #[c0, c1] t'')).heap.size (((w.alloc (.cells #[a0, a1] t)).alloc (.cells #[b0, b1] t')).alloc (.cells #[c0, c1] t'')) w1) :
    (w1.cell? ⟨w.heap.size, 0, none⟩ = some a0 ∧ w1.cell? ⟨w.heap.size, 1, none⟩ = some a1 ∧ w1.frozen? ⟨w.heap.size, 0, none⟩ = false ∧ w1.frozen? ⟨w.heap.size, 1, none⟩ = false) ∧
    (w1.cell? ⟨w.heap.size + 2, 0, none⟩ = some c0 ∧ w1.cell? ⟨w.heap.size + 2, 1, none⟩ = some c1 ∧ w1.frozen? ⟨w.heap.size + 2, 0, none⟩ = false ∧ w1.frozen? ⟨w.heap.size + 2, 1, none⟩ = false) ∧ Below w.heap.size w w1 := by
  refine ⟨⟨?_, ?_, ?_, ?_⟩, ⟨?_, ?_, ?_, ?_⟩, ?_⟩
  · rw [h.cell (p := ⟨w.heap.size, 0, none⟩) (by simp; omega)]; go_simp
  · rw [h.cell (p := ⟨w.heap.size, 1, none⟩) (by simp; omega)]; go_simp
  · rw [h.frozen (p := ⟨w.heap.size, 0, none⟩) (by simp; omega)]; go_simp
  · rw [h.frozen (p := ⟨w.heap.size, 1, none⟩) (by simp; omega)]; go_simp
  · rw [h.cell (p := ⟨w.heap.size + 2, 0, none⟩) (by simp)]; go_simp
  · rw [h.cell (p := ⟨w.heap.size + 2, 1, none⟩) (by simp)]; go_simp
  · rw [h.frozen (p := ⟨w.heap.size + 2, 0, none⟩) (by simp)]; go_simp
  · rw [h.frozen (p := ⟨w.heap.size + 2, 1, none⟩) (by simp)]; go_simp
  · exact ((two_allocs w _ _).alloc (by simp; omega) _).trans (h.mono (by simp; omega))
theorem three_allocs (w : World) (o1 o2 o3 : Obj) : Below w.heap.size w (((w.alloc o1).alloc o2).alloc o3) := (two_allocs w o1 o2).alloc (by simp; omega) o3

set_option maxHeartbeats 1000000 in
theorem rDo1 (fl m f : Int) (w : World) (hf : F f) (hr : rightB f = true) :
    Calls Tryd.prog 36 #[.agg #[.int .u8 fl, .int .u8 m], .agg #[.int .u8 1, .int .u8 f]] w fun e w' => e = .returned (.tuple #[.agg #[.int .u8 (orV fl f), .int .u8 (rmV m f)], .int .u8 0, .int .i64 0]) ∧ Below w.heap.size w w' := by
  go_enter Tryd.func36, Tryd.ntmps36
  go_wp2_with (first | (go_at_call 19; refine (rRight_calls _ _ hf).mono ?_; rintro e w1 ⟨rfl, hw1⟩; subst hw1) | (go_at_call 62; refine (rRaise_calls _ _ _ _ hf).mono ?_; rintro e w1 ⟨rfl, hb⟩; obtain ⟨⟨x1, x2, x3, x4⟩, ⟨y1, y2, y3, y4⟩, hb1⟩ := three_kept hb; clear hb))
  exact bodyPost_ret (v := .tuple #[.agg #[.int .u8 (orV fl f), .int .u8 (rmV m f)], .int .u8 0, .int .i64 0]) (by simp [results, Tryd.results36, go_sem, y1, y2]) rfl ⟨rfl, (((hb1.setCell (Nat.le_refl _) _).setCell (Nat.le_refl _) _).setCell (by simp; omega) _).setCell (by simp; omega) _⟩

set_option maxHeartbeats 1000000 in
theorem rDo3 (fl m f : Int) (w : World) (hf : F f) (hr : rightB f = true) :
    Calls Tryd.prog 36 #[.agg #[.int .u8 fl, .int .u8 m], .agg #[.int .u8 3, .int .u8 f]] w fun e w' => e = .returned (.tuple #[.agg #[.int .u8 (takeV fl f), .int .u8 m], .int .u8 0, .int .i64 0]) ∧ Below w.heap.size w w' := by
  go_enter Tryd.func36, Tryd.ntmps36
  go_wp2_with (first | (go_at_call 19; refine (rRight_calls _ _ hf).mono ?_; rintro e w1 ⟨rfl, hw1⟩; subst hw1) | (go_at_call 63; refine (rClear_calls _ _ _ _).mono ?_; rintro e w1 ⟨rfl, hb⟩; obtain ⟨⟨x1, x2, x3, x4⟩, ⟨y1, y2, y3, y4⟩, hb1⟩ := three_kept hb; clear hb))
  exact bodyPost_ret (v := .tuple #[.agg #[.int .u8 (takeV fl f), .int .u8 m], .int .u8 0, .int .i64 0]) (by simp [results, Tryd.results36, go_sem, y1, y2]) rfl ⟨rfl, (((hb1.setCell (Nat.le_refl _) _).setCell (Nat.le_refl _) _).setCell (by simp; omega) _).setCell (by simp; omega) _⟩

set_option maxHeartbeats 1000000 in
theorem rDo2 (fl m f : Int) (w : World) (hf : F f) (hr : rightB f = true) :
    Calls Tryd.prog 36 #[.agg #[.int .u8 fl, .int .u8 m], .agg #[.int .u8 2, .int .u8 f]] w fun e w' => e = .returned (.tuple #[.agg #[.int .u8 fl, .int .u8 m], .int .u8 (andV fl f), .int .i64 0]) ∧ Below w.heap.size w w' := by
  go_enter Tryd.func36, Tryd.ntmps36
  go_wp2_with (go_at_call 19; refine (rRight_calls _ _ hf).mono ?_; rintro e w1 ⟨rfl, hw1⟩; subst hw1)
  exact bodyPost_ret (v := .tuple #[.agg #[.int .u8 fl, .int .u8 m], .int .u8 (andV fl f), .int .i64 0]) (by simp [results, Tryd.results36, go_sem, andV]) rfl ⟨rfl, three_allocs _ _ _ _⟩

set_option maxHeartbeats 1000000 in
theorem rDo4 (fl m f : Int) (w : World) :
    Calls Tryd.prog 36 #[.agg #[.int .u8 fl, .int .u8 m], .agg #[.int .u8 4, .int .u8 f]] w fun e w' => e = .returned (.tuple #[.agg #[.int .u8 0, .int .u8 m], .int .u8 fl, .int .i64 0]) ∧ Below w.heap.size w w' := by
  go_enter Tryd.func36, Tryd.ntmps36
  go_wp2
  exact bodyPost_ret (v := .tuple #[.agg #[.int .u8 0, .int .u8 m], .int .u8 fl, .int .i64 0]) (by simp [results, Tryd.results36, go_sem]) rfl ⟨rfl, three_allocs _ _ _ _⟩

set_option maxHeartbeats 1000000 in
theorem rDo5 (fl m f : Int) (w : World) (hf : F f) (hr : rightB f = true) :
    Calls Tryd.prog 36 #[.agg #[.int .u8 fl, .int .u8 m], .agg #[.int .u8 5, .int .u8 f]] w fun e w' => e = .returned (.tuple #[.agg #[.int .u8 f, .int .u8 m], .int .u8 0, .int .i64 0]) ∧ Below w.heap.size w w' := by
  go_enter Tryd.func36, Tryd.ntmps36
  go_wp2_with (go_at_call 19; refine (rRight_calls _ _ hf).mono ?_; rintro e w1 ⟨rfl, hw1⟩; subst hw1)
  exact bodyPost_ret (v := .tuple #[.agg #[.int .u8 f, .int .u8 m], .int .u8 0, .int .i64 0]) (by simp [results, Tryd.results36, go_sem]) rfl ⟨rfl, three_allocs _ _ _ _⟩

set_option maxHeartbeats 1000000 in
theorem rDo6 (fl m f : Int) (w : World) (hf : F f) (hr : rightB f = true) :
    Calls Tryd.prog 36 #[.agg #[.int .u8 fl, .int .u8 m], .agg #[.int .u8 6, .int .u8 f]] w fun e w' => e = .returned (.tuple #[.agg #[.int .u8 (orV fl f), .int .u8 m], .int .u8 0, .int .i64 0]) ∧ Below w.heap.size w w' := by
  go_enter Tryd.func36, Tryd.ntmps36
  go_wp2_with (go_at_call 19; refine (rRight_calls _ _ hf).mono ?_; rintro e w1 ⟨rfl, hw1⟩; subst hw1)
  exact bodyPost_ret (v := .tuple #[.agg #[.int .u8 (orV fl f), .int .u8 m], .int .u8 0, .int .i64 0]) (by simp [results, Tryd.results36, go_sem, orV]) rfl ⟨rfl, three_allocs _ _ _ _⟩

set_option maxHeartbeats 1000000 in
theorem rDo7 (fl m f : Int) (w : World) :
    Calls Tryd.prog 36 #[.agg #[.int .u8 fl, .int .u8 m], .agg #[.int .u8 7, .int .u8 f]] w fun e w' => e = .returned (.tuple #[.agg #[.int .u8 fl, .int .u8 0], .int .u8 0, .int .i64 0]) ∧ Below w.heap.size w w' := by
  go_enter Tryd.func36, Tryd.ntmps36
  go_wp2
  exact bodyPost_ret (v := .tuple #[.agg #[.int .u8 fl, .int .u8 0], .int .u8 0, .int .i64 0]) (by simp [results, Tryd.results36, go_sem]) rfl ⟨rfl, three_allocs _ _ _ _⟩

set_option maxHeartbeats 1000000 in
theorem rDo1w (fl m f : Int) (w : World) (hf : F f) (hr : rightB f = false) :
    Calls Tryd.prog 36 #[.agg #[.int .u8 fl, .int .u8 m], .agg #[.int .u8 1, .int .u8 f]] w fun e w' => e = .returned (.tuple #[.agg #[.int .u8 fl, .int .u8 m], .int .u8 0, .int .i64 20]) ∧ Below w.heap.size w w' := by
  go_enter Tryd.func36, Tryd.ntmps36
  go_wp2_with (go_at_call 19; refine (rRight_calls _ _ hf).mono ?_; rintro e w1 ⟨rfl, hw1⟩; subst hw1)
  exact bodyPost_ret (v := .tuple #[.agg #[.int .u8 fl, .int .u8 m], .int .u8 0, .int .i64 20]) (by simp [results, Tryd.results36, go_sem]) rfl ⟨rfl, three_allocs _ _ _ _⟩

set_option maxHeartbeats 1000000 in
theorem rDo2w (fl m f : Int) (w : World) (hf : F f) (hr : rightB f = false) :
    Calls Tryd.prog 36 #[.agg #[.int .u8 fl, .int .u8 m], .agg #[.int .u8 2, .int .u8 f]] w fun e w' => e = .returned (.tuple #[.agg #[.int .u8 fl, .int .u8 m], .int .u8 0, .int .i64 20]) ∧ Below w.heap.size w w' := by
  go_enter Tryd.func36, Tryd.ntmps36
  go_wp2_with (go_at_call 19; refine (rRight_calls _ _ hf).mono ?_; rintro e w1 ⟨rfl, hw1⟩; subst hw1)
  exact bodyPost_ret (v := .tuple #[.agg #[.int .u8 fl, .int .u8 m], .int .u8 0, .int .i64 20]) (by simp [results, Tryd.results36, go_sem]) rfl ⟨rfl, three_allocs _ _ _ _⟩

set_option maxHeartbeats 1000000 in
theorem rDo3w (fl m f : Int) (w : World) (hf : F f) (hr : rightB f = false) :
    Calls Tryd.prog 36 #[.agg #[.int .u8 fl, .int .u8 m], .agg #[.int .u8 3, .int .u8 f]] w fun e w' => e = .returned (.tuple #[.agg #[.int .u8 fl, .int .u8 m], .int .u8 0, .int .i64 20]) ∧ Below w.heap.size w w' := by
  go_enter Tryd.func36, Tryd.ntmps36
  go_wp2_with (go_at_call 19; refine (rRight_calls _ _ hf).mono ?_; rintro e w1 ⟨rfl, hw1⟩; subst hw1)
  exact bodyPost_ret (v := .tuple #[.agg #[.int .u8 fl, .int .u8 m], .int .u8 0, .int .i64 20]) (by simp [results, Tryd.results36, go_sem]) rfl ⟨rfl, three_allocs _ _ _ _⟩

set_option maxHeartbeats 1000000 in
theorem rDo5w (fl m f : Int) (w : World) (hf : F f) (hr : rightB f = false) :
    Calls Tryd.prog 36 #[.agg #[.int .u8 fl, .int .u8 m], .agg #[.int .u8 5, .int .u8 f]] w fun e w' => e = .returned (.tuple #[.agg #[.int .u8 fl, .int .u8 m], .int .u8 0, .int .i64 20]) ∧ Below w.heap.size w w' := by
  go_enter Tryd.func36, Tryd.ntmps36
  go_wp2_with (go_at_call 19; refine (rRight_calls _ _ hf).mono ?_; rintro e w1 ⟨rfl, hw1⟩; subst hw1)
  exact bodyPost_ret (v := .tuple #[.agg #[.int .u8 fl, .int .u8 m], .int .u8 0, .int .i64 20]) (by simp [results, Tryd.results36, go_sem]) rfl ⟨rfl, three_allocs _ _ _ _⟩

set_option maxHeartbeats 1000000 in
theorem rDo6w (fl m f : Int) (w : World) (hf : F f) (hr : rightB f = false) :
    Calls Tryd.prog 36 #[.agg #[.int .u8 fl, .int .u8 m], .agg #[.int .u8 6, .int .u8 f]] w fun e w' => e = .returned (.tuple #[.agg #[.int .u8 fl, .int .u8 m], .int .u8 0, .int .i64 20]) ∧ Below w.heap.size w w' := by
  go_enter Tryd.func36, Tryd.ntmps36
  go_wp2_with (go_at_call 19; refine (rRight_calls _ _ hf).mono ?_; rintro e w1 ⟨rfl, hw1⟩; subst hw1)
  exact bodyPost_ret (v := .tuple #[.agg #[.int .u8 fl, .int .u8 m], .int .u8 0, .int .i64 20]) (by simp [results, Tryd.results36, go_sem]) rfl ⟨rfl, three_allocs _ _ _ _⟩

set_option maxHeartbeats 1000000 in
theorem rDoBad (fl m k f : Int) (w : World) (hk : ¬ (1 ≤ k ∧ k ≤ 7)) :
    Calls Tryd.prog 36 #[.agg #[.int .u8 fl, .int .u8 m], .agg #[.int .u8 k, .int .u8 f]] w fun e w' => e = .returned (.tuple #[.agg #[.int .u8 fl, .int .u8 m], .int .u8 0, .int .i64 2]) ∧ Below w.heap.size w w' := by
  by_cases c : k ≤ 0
  · clear hk
    go_enter Tryd.func36, Tryd.ntmps36
    go_wp2
    exact bodyPost_ret (v := .tuple #[.agg #[.int .u8 fl, .int .u8 m], .int .u8 0, .int .i64 2]) (by simp [results, Tryd.results36, go_sem]) rfl ⟨rfl, three_allocs _ _ _ _⟩
  · have c8 : 8 ≤ k := by omega
    clear hk
    go_enter Tryd.func36, Tryd.ntmps36
    go_wp2
    exact bodyPost_ret (v := .tuple #[.agg #[.int .u8 fl, .int .u8 m], .int .u8 0, .int .i64 2]) (by simp [results, Tryd.results36, go_sem]) rfl ⟨rfl, three_allocs _ _ _ _⟩

theorem rDo_calls (fl m k f : Int) (w : World) (hf : F f) :
    Calls Tryd.prog 36 #[.agg #[.int .u8 fl, .int .u8 m], .agg #[.int .u8 k, .int .u8 f]] w fun e w' => e = .returned (.tuple #[.agg #[.int .u8 (doFl fl k f), .int .u8 (doM m k f)], .int .u8 (doGot fl k f), .int .i64 (doErr k f)]) ∧ Below w.heap.size w w' := by
  rcases (show k = 1 ∨ k = 2 ∨ k = 3 ∨ k = 4 ∨ k = 5 ∨ k = 6 ∨ k = 7 ∨ ¬ (1 ≤ k ∧ k ≤ 7) from by omega) with rfl | rfl | rfl | rfl | rfl | rfl | rfl | hk
  · cases hr : rightB f
    · have h := rDo1w fl m f w hf hr
      simpa [doFl, doM, doGot, doErr, updV, raiseM, refV, hr] using h
    · have h := rDo1 fl m f w hf hr
      simpa [doFl, doM, doGot, doErr, updV, raiseM, refV, hr, rmV] using h
  · cases hr : rightB f
    · have h := rDo2w fl m f w hf hr
      simpa [doFl, doM, doGot, doErr, testV, refV, hr] using h
    · have h := rDo2 fl m f w hf hr
      simpa [doFl, doM, doGot, doErr, testV, refV, hr] using h
  · cases hr : rightB f
    · have h := rDo3w fl m f w hf hr
      simpa [doFl, doM, doGot, doErr, clrV, refV, hr] using h
    · have h := rDo3 fl m f w hf hr
      simpa [doFl, doM, doGot, doErr, clrV, refV, hr] using h
  · have h := rDo4 fl m f w
    simpa [doFl, doM, doGot, doErr] using h
  · cases hr : rightB f
    · have h := rDo5w fl m f w hf hr
      simpa [doFl, doM, doGot, doErr, setV, refV, hr] using h
    · have h := rDo5 fl m f w hf hr
      simpa [doFl, doM, doGot, doErr, setV, refV, hr] using h
  · cases hr : rightB f
    · have h := rDo6w fl m f w hf hr
      simpa [doFl, doM, doGot, doErr, updV, refV, hr] using h
    · have h := rDo6 fl m f w hf hr
      simpa [doFl, doM, doGot, doErr, updV, refV, hr] using h
  · have h := rDo7 fl m f w
    simpa [doFl, doM, doGot, doErr] using h
  · have h := rDoBad fl m k f w hk
    have e1 : doFl fl k f = fl := by unfold doFl; rw [if_neg (by omega), if_neg (by omega), if_neg (by omega), if_neg (by omega), if_neg (by omega)]
    have e2 : doM m k f = m := by unfold doM; rw [if_neg (by omega), if_neg (by omega)]
    have e3 : doGot fl k f = 0 := by unfold doGot; rw [if_neg (by omega), if_neg (by omega)]
    have e4 : doErr k f = 2 := by unfold doErr; rw [if_neg (by omega), if_neg (by omega)]
    rw [e1, e2, e3, e4]
    exact h
end Go.Proofs.YtoamnimepkodeabDoor

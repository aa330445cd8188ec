/- Add, Sub, Mul, Div as they are called. -/
import Derived.Test.YtckpfohfbfmmnaaDD5
namespace Go.Proofs.Ytckpfohfbfmmnaa
open Go.RowKit EP
attribute [local go_sem] ran_store

set_option maxRecDepth 100000 in
set_option maxHeartbeats 4000000 in
theorem dAdd_calls (xh xl yh yl : Nat) (w : World) (hx : xh < 18446744073709551616) (hy : yh < 18446744073709551616) :
    Calls Try.prog 48 #[.agg #[.float .f64 xh, .float .f64 xl], .agg #[.float .f64 yh, .float .f64 yl]] w (AnsP w (rightP yh yl && rightP xh xl) (sumP xh xl yh yl)) := by
  have HD : Hid _ := fun b w => done_sum b xh xl yh yl w hx hy
  clear hx hy
  generalize (rightP yh yl && rightP xh xl) = ok at *
  go_enter Try.func48, Try.ntmps48
  go_wp2_with fail
  refine Calls.mono (HD.out _ _ (by go_simp) (by go_simp)) ?_
  rintro e w1 ⟨s, t, rfl, b1, H1, Z1⟩
  have m0 : w1.cell? ⟨w.heap.size + 1 + 1, 0, none⟩ = some (.float .f64 0) := pcarry b1 (by first | exact r0 | go_simp)
  have m1 : w1.cell? ⟨w.heap.size + 1 + 1, 1, none⟩ = some (.float .f64 0) := pcarry b1 (by first | exact r1 | go_simp)
  have k0 : w1.frozen? ⟨w.heap.size + 1 + 1, 0, none⟩ = false := pcarryF (v := .float .f64 0) b1 (by first | exact r0 | go_simp) (by first | exact u0 | go_simp)
  have k1 : w1.frozen? ⟨w.heap.size + 1 + 1, 1, none⟩ = false := pcarryF (v := .float .f64 0) b1 (by first | exact r1 | go_simp) (by first | exact u1 | go_simp)
  have bw1 : Below w.heap.size w w1 := Below.trans (by repeat (first | exact Below.refl _ _ | assumption | refine below_drewN ?_ _ | refine Below.setCell ?_ (by first | (simp; done) | (simp; omega) | omega) _ | refine Below.alloc ?_ (by first | (simp; done) | (simp; omega) | omega) _)) (b1.mono (by first | (simp; done) | (simp; omega) | omega))
  have bs1 := bw1.size
  have HH : Hid ((ok = true → ∀ p, sumP xh xl yh yl = some p → s = p.1 ∧ t = p.2) ∧ (ok = false → s = 0 ∧ t = 0)) := ⟨H1, Z1⟩
  clear b1 H1 Z1
  go_wp2_with fail
  refine bodyPost_ret (v := .tuple #[.agg #[.float .f64 s, .float .f64 t], .int .i64 (errI ok)]) (by simp [results, Try.results48, go_sem, m0, m1]) rfl ⟨s, t, rfl, by repeat (first | exact Below.refl _ _ | assumption | refine below_drewN ?_ _ | refine Below.setCell ?_ (by first | (simp; done) | (simp; omega) | omega) _ | refine Below.alloc ?_ (by first | (simp; done) | (simp; omega) | omega) _), HH.out.1, HH.out.2⟩

set_option maxRecDepth 100000 in
set_option maxHeartbeats 4000000 in
theorem dSub_calls (xh xl yh yl : Nat) (w : World) (hx : xh < 18446744073709551616) (hy : yh < 18446744073709551616) :
    Calls Try.prog 49 #[.agg #[.float .f64 xh, .float .f64 xl], .agg #[.float .f64 yh, .float .f64 yl]] w (AnsP w (rightP yh yl && rightP xh xl) (diffP xh xl yh yl)) := by
  have HD : Hid _ := fun b w => done_difference b xh xl yh yl w hx hy
  clear hx hy
  generalize (rightP yh yl && rightP xh xl) = ok at *
  go_enter Try.func49, Try.ntmps49
  go_wp2_with fail
  refine Calls.mono (HD.out _ _ (by go_simp) (by go_simp)) ?_
  rintro e w1 ⟨s, t, rfl, b1, H1, Z1⟩
  have m0 : w1.cell? ⟨w.heap.size + 1 + 1, 0, none⟩ = some (.float .f64 0) := pcarry b1 (by first | exact r0 | go_simp)
  have m1 : w1.cell? ⟨w.heap.size + 1 + 1, 1, none⟩ = some (.float .f64 0) := pcarry b1 (by first | exact r1 | go_simp)
  have k0 : w1.frozen? ⟨w.heap.size + 1 + 1, 0, none⟩ = false := pcarryF (v := .float .f64 0) b1 (by first | exact r0 | go_simp) (by first | exact u0 | go_simp)
  have k1 : w1.frozen? ⟨w.heap.size + 1 + 1, 1, none⟩ = false := pcarryF (v := .float .f64 0) b1 (by first | exact r1 | go_simp) (by first | exact u1 | go_simp)
  have bw1 : Below w.heap.size w w1 := Below.trans (by repeat (first | exact Below.refl _ _ | assumption | refine below_drewN ?_ _ | refine Below.setCell ?_ (by first | (simp; done) | (simp; omega) | omega) _ | refine Below.alloc ?_ (by first | (simp; done) | (simp; omega) | omega) _)) (b1.mono (by first | (simp; done) | (simp; omega) | omega))
  have bs1 := bw1.size
  have HH : Hid ((ok = true → ∀ p, diffP xh xl yh yl = some p → s = p.1 ∧ t = p.2) ∧ (ok = false → s = 0 ∧ t = 0)) := ⟨H1, Z1⟩
  clear b1 H1 Z1
  go_wp2_with fail
  refine bodyPost_ret (v := .tuple #[.agg #[.float .f64 s, .float .f64 t], .int .i64 (errI ok)]) (by simp [results, Try.results49, go_sem, m0, m1]) rfl ⟨s, t, rfl, by repeat (first | exact Below.refl _ _ | assumption | refine below_drewN ?_ _ | refine Below.setCell ?_ (by first | (simp; done) | (simp; omega) | omega) _ | refine Below.alloc ?_ (by first | (simp; done) | (simp; omega) | omega) _), HH.out.1, HH.out.2⟩

set_option maxRecDepth 100000 in
set_option maxHeartbeats 4000000 in
theorem dMul_calls (xh xl yh yl : Nat) (w : World) (hx : xh < 18446744073709551616) (hy : yh < 18446744073709551616) :
    Calls Try.prog 50 #[.agg #[.float .f64 xh, .float .f64 xl], .agg #[.float .f64 yh, .float .f64 yl]] w (AnsP w (rightP yh yl && rightP xh xl) (prodP xh xl yh yl)) := by
  have HD : Hid _ := fun b w => done_product b xh xl yh yl w hx hy
  clear hx hy
  generalize (rightP yh yl && rightP xh xl) = ok at *
  go_enter Try.func50, Try.ntmps50
  go_wp2_with fail
  refine Calls.mono (HD.out _ _ (by go_simp) (by go_simp)) ?_
  rintro e w1 ⟨s, t, rfl, b1, H1, Z1⟩
  have m0 : w1.cell? ⟨w.heap.size + 1 + 1, 0, none⟩ = some (.float .f64 0) := pcarry b1 (by first | exact r0 | go_simp)
  have m1 : w1.cell? ⟨w.heap.size + 1 + 1, 1, none⟩ = some (.float .f64 0) := pcarry b1 (by first | exact r1 | go_simp)
  have k0 : w1.frozen? ⟨w.heap.size + 1 + 1, 0, none⟩ = false := pcarryF (v := .float .f64 0) b1 (by first | exact r0 | go_simp) (by first | exact u0 | go_simp)
  have k1 : w1.frozen? ⟨w.heap.size + 1 + 1, 1, none⟩ = false := pcarryF (v := .float .f64 0) b1 (by first | exact r1 | go_simp) (by first | exact u1 | go_simp)
  have bw1 : Below w.heap.size w w1 := Below.trans (by repeat (first | exact Below.refl _ _ | assumption | refine below_drewN ?_ _ | refine Below.setCell ?_ (by first | (simp; done) | (simp; omega) | omega) _ | refine Below.alloc ?_ (by first | (simp; done) | (simp; omega) | omega) _)) (b1.mono (by first | (simp; done) | (simp; omega) | omega))
  have bs1 := bw1.size
  have HH : Hid ((ok = true → ∀ p, prodP xh xl yh yl = some p → s = p.1 ∧ t = p.2) ∧ (ok = false → s = 0 ∧ t = 0)) := ⟨H1, Z1⟩
  clear b1 H1 Z1
  go_wp2_with fail
  refine bodyPost_ret (v := .tuple #[.agg #[.float .f64 s, .float .f64 t], .int .i64 (errI ok)]) (by simp [results, Try.results50, go_sem, m0, m1]) rfl ⟨s, t, rfl, by repeat (first | exact Below.refl _ _ | assumption | refine below_drewN ?_ _ | refine Below.setCell ?_ (by first | (simp; done) | (simp; omega) | omega) _ | refine Below.alloc ?_ (by first | (simp; done) | (simp; omega) | omega) _), HH.out.1, HH.out.2⟩
end Go.Proofs.Ytckpfohfbfmmnaa

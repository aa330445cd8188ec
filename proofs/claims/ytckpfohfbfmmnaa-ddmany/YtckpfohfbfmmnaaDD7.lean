/- The document's sums, differences, products and quotients of pairs (Two); are two pairs the same? -/
import Derived.Test.YtckpfohfbfmmnaaDD6
namespace Go.Proofs.Ytckpfohfbfmmnaa
open Go.RowKit EP
attribute [local go_sem] ran_store

set_option maxRecDepth 100000 in
set_option maxHeartbeats 1000000 in
theorem rSame_calls (xh xl yh yl : Nat) (w : World) :
    Calls Try.prog 32 #[.agg #[.float .f64 xh, .float .f64 xl], .agg #[.float .f64 yh, .float .f64 yl]] w fun e w' => ∃ b, e = .returned (.bool b) ∧ Below w.heap.size w w' ∧ (Ieee.double.order xh yh = some .eq → Ieee.double.order xl yl = some .eq → b = true) := by
  cases h1 : (Ieee.double.order xh yh == some .eq) with
  | false =>
    have z1 : (FloatKind.f64.format.order xh yh == some .eq) = false := h1
    have HN : Hid (¬ Ieee.double.order xh yh = some .eq) := beq_eq_false_iff_ne.1 h1
    clear h1
    go_enter Try.func32, Try.ntmps32
    go_wp2_with fail
    go_ret
    exact ⟨_, rfl, by repeat (first | exact Below.refl _ _ | assumption | refine Below.drew ?_ | refine below_drewN ?_ _ | refine Below.setCell ?_ (by first | (simp; done) | (simp; omega) | omega) _ | refine Below.alloc ?_ (by first | (simp; done) | (simp; omega) | omega) _), fun h => absurd h HN.out⟩
  | true =>
    have z1 : (FloatKind.f64.format.order xh yh == some .eq) = true := h1
    clear h1
    go_enter Try.func32, Try.ntmps32
    go_wp2_with fail
    go_ret
    exact ⟨_, rfl, by repeat (first | exact Below.refl _ _ | assumption | refine Below.drew ?_ | refine below_drewN ?_ _ | refine Below.setCell ?_ (by first | (simp; done) | (simp; omega) | omega) _ | refine Below.alloc ?_ (by first | (simp; done) | (simp; omega) | omega) _), fun _ h => beq_iff_eq.2 h⟩

set_option maxRecDepth 100000 in
set_option maxHeartbeats 4000000 in
theorem rTwo0_calls (xh xl yh yl : Nat) (w : World) (hx : xh < 18446744073709551616) (hy : yh < 18446744073709551616) :
    Calls Try.prog 31 #[.int .i64 0, .agg #[.float .f64 xh, .float .f64 xl], .agg #[.float .f64 yh, .float .f64 yl]] w (AnsP w (rightP xh xl && rightP yh yl) (sumP xh xl yh yl)) := by
  have HA : Hid _ := fun w => rRight_calls xh xl w hx
  have HB : Hid _ := fun w => rRight_calls yh yl w hy
  clear hx hy
  generalize rightP xh xl = q1 at *
  generalize rightP yh yl = q2 at *
  go_enter Try.func31, Try.ntmps31
  go_wp2_with fail
  refine Calls.mono (HA.out _) ?_
  rintro e w1 ⟨rfl, b1⟩
  have m100 : w1.cell? ⟨w.heap.size, 0, none⟩ = some (.float .f64 xh) := pcarry b1 (by first | exact m000 | go_simp)
  have k100 : w1.frozen? ⟨w.heap.size, 0, none⟩ = false := pcarryF (v := .float .f64 xh) b1 (by first | exact m000 | go_simp) (by first | exact k000 | go_simp)
  have m101 : w1.cell? ⟨w.heap.size, 1, none⟩ = some (.float .f64 xl) := pcarry b1 (by first | exact m001 | go_simp)
  have k101 : w1.frozen? ⟨w.heap.size, 1, none⟩ = false := pcarryF (v := .float .f64 xl) b1 (by first | exact m001 | go_simp) (by first | exact k001 | go_simp)
  have m110 : w1.cell? ⟨w.heap.size + 1, 0, none⟩ = some (.float .f64 yh) := pcarry b1 (by first | exact m010 | go_simp)
  have k110 : w1.frozen? ⟨w.heap.size + 1, 0, none⟩ = false := pcarryF (v := .float .f64 yh) b1 (by first | exact m010 | go_simp) (by first | exact k010 | go_simp)
  have m111 : w1.cell? ⟨w.heap.size + 1, 1, none⟩ = some (.float .f64 yl) := pcarry b1 (by first | exact m011 | go_simp)
  have k111 : w1.frozen? ⟨w.heap.size + 1, 1, none⟩ = false := pcarryF (v := .float .f64 yl) b1 (by first | exact m011 | go_simp) (by first | exact k011 | go_simp)
  have m120 : w1.cell? ⟨w.heap.size + 1 + 1, 0, none⟩ = some (.float .f64 0) := pcarry b1 (by first | exact m020 | go_simp)
  have k120 : w1.frozen? ⟨w.heap.size + 1 + 1, 0, none⟩ = false := pcarryF (v := .float .f64 0) b1 (by first | exact m020 | go_simp) (by first | exact k020 | go_simp)
  have m121 : w1.cell? ⟨w.heap.size + 1 + 1, 1, none⟩ = some (.float .f64 0) := pcarry b1 (by first | exact m021 | go_simp)
  have k121 : w1.frozen? ⟨w.heap.size + 1 + 1, 1, none⟩ = false := pcarryF (v := .float .f64 0) b1 (by first | exact m021 | go_simp) (by first | exact k021 | go_simp)
  have bw1 : Below w.heap.size w w1 := Below.trans (by repeat (first | exact Below.refl _ _ | assumption | refine Below.drew ?_ | refine below_drewN ?_ _ | refine Below.setCell ?_ (by first | (simp; done) | (simp; omega) | omega) _ | refine Below.alloc ?_ (by first | (simp; done) | (simp; omega) | omega) _)) (b1.mono (by first | (simp; done) | (simp; omega) | omega))
  have bs1 := bw1.size
  clear b1
  cases q1 with
  | false =>
    go_wp2_with fail
    refine bodyPost_ret (v := .tuple #[.agg #[.float .f64 0, .float .f64 0], .int .i64 2]) (by simp [results, Try.results31, go_sem, m120, m121]) rfl ⟨0, 0, rfl, by repeat (first | exact Below.refl _ _ | assumption | refine Below.drew ?_ | refine below_drewN ?_ _ | refine Below.setCell ?_ (by first | (simp; done) | (simp; omega) | omega) _ | refine Below.alloc ?_ (by first | (simp; done) | (simp; omega) | omega) _), (fun h => by cases h), (fun _ => ⟨rfl, rfl⟩)⟩
  | true =>
  go_wp2_with fail
  refine Calls.mono (HB.out _) ?_
  rintro e w2 ⟨rfl, b2⟩
  have m200 : w2.cell? ⟨w.heap.size, 0, none⟩ = some (.float .f64 xh) := pcarry b2 (by first | exact m100 | go_simp)
  have k200 : w2.frozen? ⟨w.heap.size, 0, none⟩ = false := pcarryF (v := .float .f64 xh) b2 (by first | exact m100 | go_simp) (by first | exact k100 | go_simp)
  have m201 : w2.cell? ⟨w.heap.size, 1, none⟩ = some (.float .f64 xl) := pcarry b2 (by first | exact m101 | go_simp)
  have k201 : w2.frozen? ⟨w.heap.size, 1, none⟩ = false := pcarryF (v := .float .f64 xl) b2 (by first | exact m101 | go_simp) (by first | exact k101 | go_simp)
  have m210 : w2.cell? ⟨w.heap.size + 1, 0, none⟩ = some (.float .f64 yh) := pcarry b2 (by first | exact m110 | go_simp)
  have k210 : w2.frozen? ⟨w.heap.size + 1, 0, none⟩ = false := pcarryF (v := .float .f64 yh) b2 (by first | exact m110 | go_simp) (by first | exact k110 | go_simp)
  have m211 : w2.cell? ⟨w.heap.size + 1, 1, none⟩ = some (.float .f64 yl) := pcarry b2 (by first | exact m111 | go_simp)
  have k211 : w2.frozen? ⟨w.heap.size + 1, 1, none⟩ = false := pcarryF (v := .float .f64 yl) b2 (by first | exact m111 | go_simp) (by first | exact k111 | go_simp)
  have m220 : w2.cell? ⟨w.heap.size + 1 + 1, 0, none⟩ = some (.float .f64 0) := pcarry b2 (by first | exact m120 | go_simp)
  have k220 : w2.frozen? ⟨w.heap.size + 1 + 1, 0, none⟩ = false := pcarryF (v := .float .f64 0) b2 (by first | exact m120 | go_simp) (by first | exact k120 | go_simp)
  have m221 : w2.cell? ⟨w.heap.size + 1 + 1, 1, none⟩ = some (.float .f64 0) := pcarry b2 (by first | exact m121 | go_simp)
  have k221 : w2.frozen? ⟨w.heap.size + 1 + 1, 1, none⟩ = false := pcarryF (v := .float .f64 0) b2 (by first | exact m121 | go_simp) (by first | exact k121 | go_simp)
  have bw2 : Below w.heap.size w w2 := Below.trans (by repeat (first | exact Below.refl _ _ | assumption | refine Below.drew ?_ | refine below_drewN ?_ _ | refine Below.setCell ?_ (by first | (simp; done) | (simp; omega) | omega) _ | refine Below.alloc ?_ (by first | (simp; done) | (simp; omega) | omega) _)) (b2.mono (by first | (simp; done) | (simp; omega) | omega))
  have bs2 := bw2.size
  clear b2
  clear m100 k100 m101 k101 m110 k110 m111 k111 m120 k120 m121 k121
  cases q2 with
  | false =>
    go_wp2_with fail
    refine bodyPost_ret (v := .tuple #[.agg #[.float .f64 0, .float .f64 0], .int .i64 2]) (by simp [results, Try.results31, go_sem, m220, m221]) rfl ⟨0, 0, rfl, by repeat (first | exact Below.refl _ _ | assumption | refine Below.drew ?_ | refine below_drewN ?_ _ | refine Below.setCell ?_ (by first | (simp; done) | (simp; omega) | omega) _ | refine Below.alloc ?_ (by first | (simp; done) | (simp; omega) | omega) _), (fun h => by cases h), (fun _ => ⟨rfl, rfl⟩)⟩
  | true =>
  go_wp2_with fail
  refine Calls.mono (rPlus_calls xh xl yh yl _) ?_
  rintro e w3 ⟨s, t, rfl, b3, H3⟩
  have m300 : w3.cell? ⟨w.heap.size, 0, none⟩ = some (.float .f64 xh) := pcarry b3 (by first | exact m200 | go_simp)
  have k300 : w3.frozen? ⟨w.heap.size, 0, none⟩ = false := pcarryF (v := .float .f64 xh) b3 (by first | exact m200 | go_simp) (by first | exact k200 | go_simp)
  have m301 : w3.cell? ⟨w.heap.size, 1, none⟩ = some (.float .f64 xl) := pcarry b3 (by first | exact m201 | go_simp)
  have k301 : w3.frozen? ⟨w.heap.size, 1, none⟩ = false := pcarryF (v := .float .f64 xl) b3 (by first | exact m201 | go_simp) (by first | exact k201 | go_simp)
  have m310 : w3.cell? ⟨w.heap.size + 1, 0, none⟩ = some (.float .f64 yh) := pcarry b3 (by first | exact m210 | go_simp)
  have k310 : w3.frozen? ⟨w.heap.size + 1, 0, none⟩ = false := pcarryF (v := .float .f64 yh) b3 (by first | exact m210 | go_simp) (by first | exact k210 | go_simp)
  have m311 : w3.cell? ⟨w.heap.size + 1, 1, none⟩ = some (.float .f64 yl) := pcarry b3 (by first | exact m211 | go_simp)
  have k311 : w3.frozen? ⟨w.heap.size + 1, 1, none⟩ = false := pcarryF (v := .float .f64 yl) b3 (by first | exact m211 | go_simp) (by first | exact k211 | go_simp)
  have m320 : w3.cell? ⟨w.heap.size + 1 + 1, 0, none⟩ = some (.float .f64 0) := pcarry b3 (by first | exact m220 | go_simp)
  have k320 : w3.frozen? ⟨w.heap.size + 1 + 1, 0, none⟩ = false := pcarryF (v := .float .f64 0) b3 (by first | exact m220 | go_simp) (by first | exact k220 | go_simp)
  have m321 : w3.cell? ⟨w.heap.size + 1 + 1, 1, none⟩ = some (.float .f64 0) := pcarry b3 (by first | exact m221 | go_simp)
  have k321 : w3.frozen? ⟨w.heap.size + 1 + 1, 1, none⟩ = false := pcarryF (v := .float .f64 0) b3 (by first | exact m221 | go_simp) (by first | exact k221 | go_simp)
  have bw3 : Below w.heap.size w w3 := Below.trans (by repeat (first | exact Below.refl _ _ | assumption | refine Below.drew ?_ | refine below_drewN ?_ _ | refine Below.setCell ?_ (by first | (simp; done) | (simp; omega) | omega) _ | refine Below.alloc ?_ (by first | (simp; done) | (simp; omega) | omega) _)) (b3.mono (by first | (simp; done) | (simp; omega) | omega))
  have bs3 := bw3.size
  clear b3
  clear m200 k200 m201 k201 m210 k210 m211 k211 m220 k220 m221 k221
  have H3' : Hid (∀ p, sumP xh xl yh yl = some p → s = p.1 ∧ t = p.2) := H3
  clear H3
  go_wp2_with fail
  refine bodyPost_ret (v := .tuple #[.agg #[.float .f64 s, .float .f64 t], .int .i64 0]) (by simp [results, Try.results31, go_sem, m320, m321]) rfl ⟨s, t, rfl, by repeat (first | exact Below.refl _ _ | assumption | refine Below.drew ?_ | refine below_drewN ?_ _ | refine Below.setCell ?_ (by first | (simp; done) | (simp; omega) | omega) _ | refine Below.alloc ?_ (by first | (simp; done) | (simp; omega) | omega) _), (fun _ => H3'.out), (fun h => by cases h)⟩

set_option maxRecDepth 100000 in
set_option maxHeartbeats 4000000 in
theorem rTwo2_calls (xh xl yh yl : Nat) (w : World) (hx : xh < 18446744073709551616) (hy : yh < 18446744073709551616) :
    Calls Try.prog 31 #[.int .i64 2, .agg #[.float .f64 xh, .float .f64 xl], .agg #[.float .f64 yh, .float .f64 yl]] w (AnsP w (rightP xh xl && rightP yh yl) (prodP xh xl yh yl)) := by
  have HA : Hid _ := fun w => rRight_calls xh xl w hx
  have HB : Hid _ := fun w => rRight_calls yh yl w hy
  clear hx hy
  generalize rightP xh xl = q1 at *
  generalize rightP yh yl = q2 at *
  go_enter Try.func31, Try.ntmps31
  go_wp2_with fail
  refine Calls.mono (HA.out _) ?_
  rintro e w1 ⟨rfl, b1⟩
  have m100 : w1.cell? ⟨w.heap.size, 0, none⟩ = some (.float .f64 xh) := pcarry b1 (by first | exact m000 | go_simp)
  have k100 : w1.frozen? ⟨w.heap.size, 0, none⟩ = false := pcarryF (v := .float .f64 xh) b1 (by first | exact m000 | go_simp) (by first | exact k000 | go_simp)
  have m101 : w1.cell? ⟨w.heap.size, 1, none⟩ = some (.float .f64 xl) := pcarry b1 (by first | exact m001 | go_simp)
  have k101 : w1.frozen? ⟨w.heap.size, 1, none⟩ = false := pcarryF (v := .float .f64 xl) b1 (by first | exact m001 | go_simp) (by first | exact k001 | go_simp)
  have m110 : w1.cell? ⟨w.heap.size + 1, 0, none⟩ = some (.float .f64 yh) := pcarry b1 (by first | exact m010 | go_simp)
  have k110 : w1.frozen? ⟨w.heap.size + 1, 0, none⟩ = false := pcarryF (v := .float .f64 yh) b1 (by first | exact m010 | go_simp) (by first | exact k010 | go_simp)
  have m111 : w1.cell? ⟨w.heap.size + 1, 1, none⟩ = some (.float .f64 yl) := pcarry b1 (by first | exact m011 | go_simp)
  have k111 : w1.frozen? ⟨w.heap.size + 1, 1, none⟩ = false := pcarryF (v := .float .f64 yl) b1 (by first | exact m011 | go_simp) (by first | exact k011 | go_simp)
  have m120 : w1.cell? ⟨w.heap.size + 1 + 1, 0, none⟩ = some (.float .f64 0) := pcarry b1 (by first | exact m020 | go_simp)
  have k120 : w1.frozen? ⟨w.heap.size + 1 + 1, 0, none⟩ = false := pcarryF (v := .float .f64 0) b1 (by first | exact m020 | go_simp) (by first | exact k020 | go_simp)
  have m121 : w1.cell? ⟨w.heap.size + 1 + 1, 1, none⟩ = some (.float .f64 0) := pcarry b1 (by first | exact m021 | go_simp)
  have k121 : w1.frozen? ⟨w.heap.size + 1 + 1, 1, none⟩ = false := pcarryF (v := .float .f64 0) b1 (by first | exact m021 | go_simp) (by first | exact k021 | go_simp)
  have bw1 : Below w.heap.size w w1 := Below.trans (by repeat (first | exact Below.refl _ _ | assumption | refine Below.drew ?_ | refine below_drewN ?_ _ | refine Below.setCell ?_ (by first | (simp; done) | (simp; omega) | omega) _ | refine Below.alloc ?_ (by first | (simp; done) | (simp; omega) | omega) _)) (b1.mono (by first | (simp; done) | (simp; omega) | omega))
  have bs1 := bw1.size
  clear b1
  cases q1 with
  | false =>
    go_wp2_with fail
    refine bodyPost_ret (v := .tuple #[.agg #[.float .f64 0, .float .f64 0], .int .i64 2]) (by simp [results, Try.results31, go_sem, m120, m121]) rfl ⟨0, 0, rfl, by repeat (first | exact Below.refl _ _ | assumption | refine Below.drew ?_ | refine below_drewN ?_ _ | refine Below.setCell ?_ (by first | (simp; done) | (simp; omega) | omega) _ | refine Below.alloc ?_ (by first | (simp; done) | (simp; omega) | omega) _), (fun h => by cases h), (fun _ => ⟨rfl, rfl⟩)⟩
  | true =>
  go_wp2_with fail
  refine Calls.mono (HB.out _) ?_
  rintro e w2 ⟨rfl, b2⟩
  have m200 : w2.cell? ⟨w.heap.size, 0, none⟩ = some (.float .f64 xh) := pcarry b2 (by first | exact m100 | go_simp)
  have k200 : w2.frozen? ⟨w.heap.size, 0, none⟩ = false := pcarryF (v := .float .f64 xh) b2 (by first | exact m100 | go_simp) (by first | exact k100 | go_simp)
  have m201 : w2.cell? ⟨w.heap.size, 1, none⟩ = some (.float .f64 xl) := pcarry b2 (by first | exact m101 | go_simp)
  have k201 : w2.frozen? ⟨w.heap.size, 1, none⟩ = false := pcarryF (v := .float .f64 xl) b2 (by first | exact m101 | go_simp) (by first | exact k101 | go_simp)
  have m210 : w2.cell? ⟨w.heap.size + 1, 0, none⟩ = some (.float .f64 yh) := pcarry b2 (by first | exact m110 | go_simp)
  have k210 : w2.frozen? ⟨w.heap.size + 1, 0, none⟩ = false := pcarryF (v := .float .f64 yh) b2 (by first | exact m110 | go_simp) (by first | exact k110 | go_simp)
  have m211 : w2.cell? ⟨w.heap.size + 1, 1, none⟩ = some (.float .f64 yl) := pcarry b2 (by first | exact m111 | go_simp)
  have k211 : w2.frozen? ⟨w.heap.size + 1, 1, none⟩ = false := pcarryF (v := .float .f64 yl) b2 (by first | exact m111 | go_simp) (by first | exact k111 | go_simp)
  have m220 : w2.cell? ⟨w.heap.size + 1 + 1, 0, none⟩ = some (.float .f64 0) := pcarry b2 (by first | exact m120 | go_simp)
  have k220 : w2.frozen? ⟨w.heap.size + 1 + 1, 0, none⟩ = false := pcarryF (v := .float .f64 0) b2 (by first | exact m120 | go_simp) (by first | exact k120 | go_simp)
  have m221 : w2.cell? ⟨w.heap.size + 1 + 1, 1, none⟩ = some (.float .f64 0) := pcarry b2 (by first | exact m121 | go_simp)
  have k221 : w2.frozen? ⟨w.heap.size + 1 + 1, 1, none⟩ = false := pcarryF (v := .float .f64 0) b2 (by first | exact m121 | go_simp) (by first | exact k121 | go_simp)
  have bw2 : Below w.heap.size w w2 := Below.trans (by repeat (first | exact Below.refl _ _ | assumption | refine Below.drew ?_ | refine below_drewN ?_ _ | refine Below.setCell ?_ (by first | (simp; done) | (simp; omega) | omega) _ | refine Below.alloc ?_ (by first | (simp; done) | (simp; omega) | omega) _)) (b2.mono (by first | (simp; done) | (simp; omega) | omega))
  have bs2 := bw2.size
  clear b2
  clear m100 k100 m101 k101 m110 k110 m111 k111 m120 k120 m121 k121
  cases q2 with
  | false =>
    go_wp2_with fail
    refine bodyPost_ret (v := .tuple #[.agg #[.float .f64 0, .float .f64 0], .int .i64 2]) (by simp [results, Try.results31, go_sem, m220, m221]) rfl ⟨0, 0, rfl, by repeat (first | exact Below.refl _ _ | assumption | refine Below.drew ?_ | refine below_drewN ?_ _ | refine Below.setCell ?_ (by first | (simp; done) | (simp; omega) | omega) _ | refine Below.alloc ?_ (by first | (simp; done) | (simp; omega) | omega) _), (fun h => by cases h), (fun _ => ⟨rfl, rfl⟩)⟩
  | true =>
  go_wp2_with fail
  refine Calls.mono (rTimes_calls xh xl yh yl _) ?_
  rintro e w3 ⟨s, t, rfl, b3, H3⟩
  have m300 : w3.cell? ⟨w.heap.size, 0, none⟩ = some (.float .f64 xh) := pcarry b3 (by first | exact m200 | go_simp)
  have k300 : w3.frozen? ⟨w.heap.size, 0, none⟩ = false := pcarryF (v := .float .f64 xh) b3 (by first | exact m200 | go_simp) (by first | exact k200 | go_simp)
  have m301 : w3.cell? ⟨w.heap.size, 1, none⟩ = some (.float .f64 xl) := pcarry b3 (by first | exact m201 | go_simp)
  have k301 : w3.frozen? ⟨w.heap.size, 1, none⟩ = false := pcarryF (v := .float .f64 xl) b3 (by first | exact m201 | go_simp) (by first | exact k201 | go_simp)
  have m310 : w3.cell? ⟨w.heap.size + 1, 0, none⟩ = some (.float .f64 yh) := pcarry b3 (by first | exact m210 | go_simp)
  have k310 : w3.frozen? ⟨w.heap.size + 1, 0, none⟩ = false := pcarryF (v := .float .f64 yh) b3 (by first | exact m210 | go_simp) (by first | exact k210 | go_simp)
  have m311 : w3.cell? ⟨w.heap.size + 1, 1, none⟩ = some (.float .f64 yl) := pcarry b3 (by first | exact m211 | go_simp)
  have k311 : w3.frozen? ⟨w.heap.size + 1, 1, none⟩ = false := pcarryF (v := .float .f64 yl) b3 (by first | exact m211 | go_simp) (by first | exact k211 | go_simp)
  have m320 : w3.cell? ⟨w.heap.size + 1 + 1, 0, none⟩ = some (.float .f64 0) := pcarry b3 (by first | exact m220 | go_simp)
  have k320 : w3.frozen? ⟨w.heap.size + 1 + 1, 0, none⟩ = false := pcarryF (v := .float .f64 0) b3 (by first | exact m220 | go_simp) (by first | exact k220 | go_simp)
  have m321 : w3.cell? ⟨w.heap.size + 1 + 1, 1, none⟩ = some (.float .f64 0) := pcarry b3 (by first | exact m221 | go_simp)
  have k321 : w3.frozen? ⟨w.heap.size + 1 + 1, 1, none⟩ = false := pcarryF (v := .float .f64 0) b3 (by first | exact m221 | go_simp) (by first | exact k221 | go_simp)
  have bw3 : Below w.heap.size w w3 := Below.trans (by repeat (first | exact Below.refl _ _ | assumption | refine Below.drew ?_ | refine below_drewN ?_ _ | refine Below.setCell ?_ (by first | (simp; done) | (simp; omega) | omega) _ | refine Below.alloc ?_ (by first | (simp; done) | (simp; omega) | omega) _)) (b3.mono (by first | (simp; done) | (simp; omega) | omega))
  have bs3 := bw3.size
  clear b3
  clear m200 k200 m201 k201 m210 k210 m211 k211 m220 k220 m221 k221
  have H3' : Hid (∀ p, prodP xh xl yh yl = some p → s = p.1 ∧ t = p.2) := H3
  clear H3
  go_wp2_with fail
  refine bodyPost_ret (v := .tuple #[.agg #[.float .f64 s, .float .f64 t], .int .i64 0]) (by simp [results, Try.results31, go_sem, m320, m321]) rfl ⟨s, t, rfl, by repeat (first | exact Below.refl _ _ | assumption | refine Below.drew ?_ | refine below_drewN ?_ _ | refine Below.setCell ?_ (by first | (simp; done) | (simp; omega) | omega) _ | refine Below.alloc ?_ (by first | (simp; done) | (simp; omega) | omega) _), (fun _ => H3'.out), (fun h => by cases h)⟩
end Go.Proofs.Ytckpfohfbfmmnaa

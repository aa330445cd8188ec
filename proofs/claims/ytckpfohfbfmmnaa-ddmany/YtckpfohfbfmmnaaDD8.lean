/- The document's differences and quotients of pairs (Two); Div. -/
import Derived.Test.YtckpfohfbfmmnaaDD7
namespace Go.Proofs.Ytckpfohfbfmmnaa
open Go.RowKit EP
attribute [local go_sem] ran_store

set_option maxRecDepth 100000 in
set_option maxHeartbeats 4000000 in
theorem rTwo1_calls (xh xl yh yl : Nat) (w : World) (hx : xh < 18446744073709551616) (hy : yh < 18446744073709551616) :
    Calls Try.prog 31 #[.int .i64 1, .agg #[.float .f64 xh, .float .f64 xl], .agg #[.float .f64 yh, .float .f64 yl]] w (AnsP w (rightP xh xl && rightP yh yl) (diffP xh xl yh yl)) := by
  have HA : Hid _ := fun w => rRight_calls xh xl w hx
  have HB : Hid _ := fun w => rRight_calls yh yl w hy
  clear hx hy
  generalize rightP xh xl = q1 at *
  generalize rightP yh yl = q2 at *
  go_enter Try.func31, Try.ntmps31
  go_wp2_with fail
  refine Calls.mono (HA.out _) ?_
  rintro e w1 ⟨rfl, b1⟩
  have m100 : w1.cell? ⟨w.heap.size, 0, none⟩ = some (.float .f64 xh) := pcarry b1 (by first | exact m000 | go_simp)
  have k100 : w1.frozen? ⟨w.heap.size, 0, none⟩ = false := pcarryF (v := .float .f64 xh) b1 (by first | exact m000 | go_simp) (by first | exact k000 | go_simp)
  have m101 : w1.cell? ⟨w.heap.size, 1, none⟩ = some (.float .f64 xl) := pcarry b1 (by first | exact m001 | go_simp)
  have k101 : w1.frozen? ⟨w.heap.size, 1, none⟩ = false := pcarryF (v := .float .f64 xl) b1 (by first | exact m001 | go_simp) (by first | exact k001 | go_simp)
  have m110 : w1.cell? ⟨w.heap.size + 1, 0, none⟩ = some (.float .f64 yh) := pcarry b1 (by first | exact m010 | go_simp)
  have k110 : w1.frozen? ⟨w.heap.size + 1, 0, none⟩ = false := pcarryF (v := .float .f64 yh) b1 (by first | exact m010 | go_simp) (by first | exact k010 | go_simp)
  have m111 : w1.cell? ⟨w.heap.size + 1, 1, none⟩ = some (.float .f64 yl) := pcarry b1 (by first | exact m011 | go_simp)
  have k111 : w1.frozen? ⟨w.heap.size + 1, 1, none⟩ = false := pcarryF (v := .float .f64 yl) b1 (by first | exact m011 | go_simp) (by first | exact k011 | go_simp)
  have m120 : w1.cell? ⟨w.heap.size + 1 + 1, 0, none⟩ = some (.float .f64 0) := pcarry b1 (by first | exact m020 | go_simp)
  have k120 : w1.frozen? ⟨w.heap.size + 1 + 1, 0, none⟩ = false := pcarryF (v := .float .f64 0) b1 (by first | exact m020 | go_simp) (by first | exact k020 | go_simp)
  have m121 : w1.cell? ⟨w.heap.size + 1 + 1, 1, none⟩ = some (.float .f64 0) := pcarry b1 (by first | exact m021 | go_simp)
  have k121 : w1.frozen? ⟨w.heap.size + 1 + 1, 1, none⟩ = false := pcarryF (v := .float .f64 0) b1 (by first | exact m021 | go_simp) (by first | exact k021 | go_simp)
  have bw1 : Below w.heap.size w w1 := Below.trans (by repeat (first | exact Below.refl _ _ | assumption | refine Below.drew ?_ | refine below_drewN ?_ _ | refine Below.setCell ?_ (by first | (simp; done) | (simp; omega) | omega) _ | refine Below.alloc ?_ (by first | (simp; done) | (simp; omega) | omega) _)) (b1.mono (by first | (simp; done) | (simp; omega) | omega))
  have bs1 := bw1.size
  clear b1
  cases q1 with
  | false =>
    go_wp2_with fail
    refine bodyPost_ret (v := .tuple #[.agg #[.float .f64 0, .float .f64 0], .int .i64 2]) (by simp [results, Try.results31, go_sem, m120, m121]) rfl ⟨0, 0, rfl, by repeat (first | exact Below.refl _ _ | assumption | refine Below.drew ?_ | refine below_drewN ?_ _ | refine Below.setCell ?_ (by first | (simp; done) | (simp; omega) | omega) _ | refine Below.alloc ?_ (by first | (simp; done) | (simp; omega) | omega) _), (fun h => by cases h), (fun _ => ⟨rfl, rfl⟩)⟩
  | true =>
  go_wp2_with fail
  refine Calls.mono (HB.out _) ?_
  rintro e w2 ⟨rfl, b2⟩
  have m200 : w2.cell? ⟨w.heap.size, 0, none⟩ = some (.float .f64 xh) := pcarry b2 (by first | exact m100 | go_simp)
  have k200 : w2.frozen? ⟨w.heap.size, 0, none⟩ = false := pcarryF (v := .float .f64 xh) b2 (by first | exact m100 | go_simp) (by first | exact k100 | go_simp)
  have m201 : w2.cell? ⟨w.heap.size, 1, none⟩ = some (.float .f64 xl) := pcarry b2 (by first | exact m101 | go_simp)
  have k201 : w2.frozen? ⟨w.heap.size, 1, none⟩ = false := pcarryF (v := .float .f64 xl) b2 (by first | exact m101 | go_simp) (by first | exact k101 | go_simp)
  have m210 : w2.cell? ⟨w.heap.size + 1, 0, none⟩ = some (.float .f64 yh) := pcarry b2 (by first | exact m110 | go_simp)
  have k210 : w2.frozen? ⟨w.heap.size + 1, 0, none⟩ = false := pcarryF (v := .float .f64 yh) b2 (by first | exact m110 | go_simp) (by first | exact k110 | go_simp)
  have m211 : w2.cell? ⟨w.heap.size + 1, 1, none⟩ = some (.float .f64 yl) := pcarry b2 (by first | exact m111 | go_simp)
  have k211 : w2.frozen? ⟨w.heap.size + 1, 1, none⟩ = false := pcarryF (v := .float .f64 yl) b2 (by first | exact m111 | go_simp) (by first | exact k111 | go_simp)
  have m220 : w2.cell? ⟨w.heap.size + 1 + 1, 0, none⟩ = some (.float .f64 0) := pcarry b2 (by first | exact m120 | go_simp)
  have k220 : w2.frozen? ⟨w.heap.size + 1 + 1, 0, none⟩ = false := pcarryF (v := .float .f64 0) b2 (by first | exact m120 | go_simp) (by first | exact k120 | go_simp)
  have m221 : w2.cell? ⟨w.heap.size + 1 + 1, 1, none⟩ = some (.float .f64 0) := pcarry b2 (by first | exact m121 | go_simp)
  have k221 : w2.frozen? ⟨w.heap.size + 1 + 1, 1, none⟩ = false := pcarryF (v := .float .f64 0) b2 (by first | exact m121 | go_simp) (by first | exact k121 | go_simp)
  have bw2 : Below w.heap.size w w2 := Below.trans (by repeat (first | exact Below.refl _ _ | assumption | refine Below.drew ?_ | refine below_drewN ?_ _ | refine Below.setCell ?_ (by first | (simp; done) | (simp; omega) | omega) _ | refine Below.alloc ?_ (by first | (simp; done) | (simp; omega) | omega) _)) (b2.mono (by first | (simp; done) | (simp; omega) | omega))
  have bs2 := bw2.size
  clear b2
  clear m100 k100 m101 k101 m110 k110 m111 k111 m120 k120 m121 k121
  cases q2 with
  | false =>
    go_wp2_with fail
    refine bodyPost_ret (v := .tuple #[.agg #[.float .f64 0, .float .f64 0], .int .i64 2]) (by simp [results, Try.results31, go_sem, m220, m221]) rfl ⟨0, 0, rfl, by repeat (first | exact Below.refl _ _ | assumption | refine Below.drew ?_ | refine below_drewN ?_ _ | refine Below.setCell ?_ (by first | (simp; done) | (simp; omega) | omega) _ | refine Below.alloc ?_ (by first | (simp; done) | (simp; omega) | omega) _), (fun h => by cases h), (fun _ => ⟨rfl, rfl⟩)⟩
  | true =>
  go_wp2_with fail
  go_region_with (first
    | (go_at_call 38; refine (rLess_calls yh yl _).mono ?_; rintro e w3 ⟨nh, nl, rfl, b3, H3⟩; have N3 : nh = Op.negFloat .f64 yh ∧ nl = Op.negFloat .f64 yl := H3 _ rfl; clear H3; obtain ⟨rfl, rfl⟩ := N3; have m300 : w3.cell? ⟨w.heap.size, 0, none⟩ = some (.float .f64 xh) := pcarry b3 (by go_simp); have k300 : w3.frozen? ⟨w.heap.size, 0, none⟩ = false := pcarryF (v := .float .f64 xh) b3 (by go_simp) (by go_simp); have m301 : w3.cell? ⟨w.heap.size, 1, none⟩ = some (.float .f64 xl) := pcarry b3 (by go_simp); have k301 : w3.frozen? ⟨w.heap.size, 1, none⟩ = false := pcarryF (v := .float .f64 xl) b3 (by go_simp) (by go_simp); have m310 : w3.cell? ⟨w.heap.size + 1, 0, none⟩ = some (.float .f64 yh) := pcarry b3 (by go_simp); have k310 : w3.frozen? ⟨w.heap.size + 1, 0, none⟩ = false := pcarryF (v := .float .f64 yh) b3 (by go_simp) (by go_simp); have m311 : w3.cell? ⟨w.heap.size + 1, 1, none⟩ = some (.float .f64 yl) := pcarry b3 (by go_simp); have k311 : w3.frozen? ⟨w.heap.size + 1, 1, none⟩ = false := pcarryF (v := .float .f64 yl) b3 (by go_simp) (by go_simp); have m320 : w3.cell? ⟨w.heap.size + 1 + 1, 0, none⟩ = some (.float .f64 0) := pcarry b3 (by go_simp); have k320 : w3.frozen? ⟨w.heap.size + 1 + 1, 0, none⟩ = false := pcarryF (v := .float .f64 0) b3 (by go_simp) (by go_simp); have m321 : w3.cell? ⟨w.heap.size + 1 + 1, 1, none⟩ = some (.float .f64 0) := pcarry b3 (by go_simp); have k321 : w3.frozen? ⟨w.heap.size + 1 + 1, 1, none⟩ = false := pcarryF (v := .float .f64 0) b3 (by go_simp) (by go_simp); have bw3 : Below w.heap.size w w3 := Below.trans (by repeat (first | exact Below.refl _ _ | assumption | refine Below.drew ?_ | refine below_drewN ?_ _ | refine Below.setCell ?_ (by first | (simp; done) | (simp; omega) | omega) _ | refine Below.alloc ?_ (by first | (simp; done) | (simp; omega) | omega) _)) (b3.mono (by first | (simp; done) | (simp; omega) | omega)); have bs3 := bw3.size)
    | (go_at_call 52; refine (rPlus_calls xh xl _ _ _).mono ?_; rintro e w4 ⟨s, t, rfl, b4, H4⟩; have m400 : w4.cell? ⟨w.heap.size, 0, none⟩ = some (.float .f64 xh) := pcarry b4 (by go_simp); have k400 : w4.frozen? ⟨w.heap.size, 0, none⟩ = false := pcarryF (v := .float .f64 xh) b4 (by go_simp) (by go_simp); have m401 : w4.cell? ⟨w.heap.size, 1, none⟩ = some (.float .f64 xl) := pcarry b4 (by go_simp); have k401 : w4.frozen? ⟨w.heap.size, 1, none⟩ = false := pcarryF (v := .float .f64 xl) b4 (by go_simp) (by go_simp); have m410 : w4.cell? ⟨w.heap.size + 1, 0, none⟩ = some (.float .f64 yh) := pcarry b4 (by go_simp); have k410 : w4.frozen? ⟨w.heap.size + 1, 0, none⟩ = false := pcarryF (v := .float .f64 yh) b4 (by go_simp) (by go_simp); have m411 : w4.cell? ⟨w.heap.size + 1, 1, none⟩ = some (.float .f64 yl) := pcarry b4 (by go_simp); have k411 : w4.frozen? ⟨w.heap.size + 1, 1, none⟩ = false := pcarryF (v := .float .f64 yl) b4 (by go_simp) (by go_simp); have m420 : w4.cell? ⟨w.heap.size + 1 + 1, 0, none⟩ = some (.float .f64 0) := pcarry b4 (by go_simp); have k420 : w4.frozen? ⟨w.heap.size + 1 + 1, 0, none⟩ = false := pcarryF (v := .float .f64 0) b4 (by go_simp) (by go_simp); have m421 : w4.cell? ⟨w.heap.size + 1 + 1, 1, none⟩ = some (.float .f64 0) := pcarry b4 (by go_simp); have k421 : w4.frozen? ⟨w.heap.size + 1 + 1, 1, none⟩ = false := pcarryF (v := .float .f64 0) b4 (by go_simp) (by go_simp); have bw4 : Below w.heap.size w w4 := Below.trans (by repeat (first | exact Below.refl _ _ | assumption | refine Below.drew ?_ | refine below_drewN ?_ _ | refine Below.setCell ?_ (by first | (simp; done) | (simp; omega) | omega) _ | refine Below.alloc ?_ (by first | (simp; done) | (simp; omega) | omega) _)) (b4.mono (by first | (simp; done) | (simp; omega) | omega)); have bs4 := bw4.size))
  all_goals go_wp2_with fail
  all_goals exact bodyPost_ret (v := .tuple #[.agg #[.float .f64 s, .float .f64 t], .int .i64 0]) (by simp [results, Try.results31, go_sem, m420, m421]) rfl ⟨s, t, rfl, by repeat (first | exact Below.refl _ _ | assumption | refine Below.drew ?_ | refine below_drewN ?_ _ | refine Below.setCell ?_ (by first | (simp; done) | (simp; omega) | omega) _ | refine Below.alloc ?_ (by first | (simp; done) | (simp; omega) | omega) _), (fun _ => H4), (fun h => by cases h)⟩

set_option maxRecDepth 100000 in
set_option maxHeartbeats 4000000 in
theorem rTwo3_calls (xh xl yh yl : Nat) (w : World) (hx : xh < 18446744073709551616) (hy : yh < 18446744073709551616) (hz : isZ yh = false) :
    Calls Try.prog 31 #[.int .i64 3, .agg #[.float .f64 xh, .float .f64 xl], .agg #[.float .f64 yh, .float .f64 yl]] w (AnsP w (rightP xh xl && rightP yh yl) (quoP xh xl yh yl)) := by
  have HA : Hid _ := fun w => rRight_calls xh xl w hx
  have HB : Hid _ := fun w => rRight_calls yh yl w hy
  have z1 : (FloatKind.f64.format.order yh 0 == some .eq) = false := hz
  clear hz
  clear hx hy
  generalize rightP xh xl = q1 at *
  generalize rightP yh yl = q2 at *
  go_enter Try.func31, Try.ntmps31
  go_wp2_with fail
  refine Calls.mono (HA.out _) ?_
  rintro e w1 ⟨rfl, b1⟩
  have m100 : w1.cell? ⟨w.heap.size, 0, none⟩ = some (.float .f64 xh) := pcarry b1 (by first | exact m000 | go_simp)
  have k100 : w1.frozen? ⟨w.heap.size, 0, none⟩ = false := pcarryF (v := .float .f64 xh) b1 (by first | exact m000 | go_simp) (by first | exact k000 | go_simp)
  have m101 : w1.cell? ⟨w.heap.size, 1, none⟩ = some (.float .f64 xl) := pcarry b1 (by first | exact m001 | go_simp)
  have k101 : w1.frozen? ⟨w.heap.size, 1, none⟩ = false := pcarryF (v := .float .f64 xl) b1 (by first | exact m001 | go_simp) (by first | exact k001 | go_simp)
  have m110 : w1.cell? ⟨w.heap.size + 1, 0, none⟩ = some (.float .f64 yh) := pcarry b1 (by first | exact m010 | go_simp)
  have k110 : w1.frozen? ⟨w.heap.size + 1, 0, none⟩ = false := pcarryF (v := .float .f64 yh) b1 (by first | exact m010 | go_simp) (by first | exact k010 | go_simp)
  have m111 : w1.cell? ⟨w.heap.size + 1, 1, none⟩ = some (.float .f64 yl) := pcarry b1 (by first | exact m011 | go_simp)
  have k111 : w1.frozen? ⟨w.heap.size + 1, 1, none⟩ = false := pcarryF (v := .float .f64 yl) b1 (by first | exact m011 | go_simp) (by first | exact k011 | go_simp)
  have m120 : w1.cell? ⟨w.heap.size + 1 + 1, 0, none⟩ = some (.float .f64 0) := pcarry b1 (by first | exact m020 | go_simp)
  have k120 : w1.frozen? ⟨w.heap.size + 1 + 1, 0, none⟩ = false := pcarryF (v := .float .f64 0) b1 (by first | exact m020 | go_simp) (by first | exact k020 | go_simp)
  have m121 : w1.cell? ⟨w.heap.size + 1 + 1, 1, none⟩ = some (.float .f64 0) := pcarry b1 (by first | exact m021 | go_simp)
  have k121 : w1.frozen? ⟨w.heap.size + 1 + 1, 1, none⟩ = false := pcarryF (v := .float .f64 0) b1 (by first | exact m021 | go_simp) (by first | exact k021 | go_simp)
  have bw1 : Below w.heap.size w w1 := Below.trans (by repeat (first | exact Below.refl _ _ | assumption | refine Below.drew ?_ | refine below_drewN ?_ _ | refine Below.setCell ?_ (by first | (simp; done) | (simp; omega) | omega) _ | refine Below.alloc ?_ (by first | (simp; done) | (simp; omega) | omega) _)) (b1.mono (by first | (simp; done) | (simp; omega) | omega))
  have bs1 := bw1.size
  clear b1
  cases q1 with
  | false =>
    go_wp2_with fail
    refine bodyPost_ret (v := .tuple #[.agg #[.float .f64 0, .float .f64 0], .int .i64 2]) (by simp [results, Try.results31, go_sem, m120, m121]) rfl ⟨0, 0, rfl, by repeat (first | exact Below.refl _ _ | assumption | refine Below.drew ?_ | refine below_drewN ?_ _ | refine Below.setCell ?_ (by first | (simp; done) | (simp; omega) | omega) _ | refine Below.alloc ?_ (by first | (simp; done) | (simp; omega) | omega) _), (fun h => by cases h), (fun _ => ⟨rfl, rfl⟩)⟩
  | true =>
  go_wp2_with fail
  refine Calls.mono (HB.out _) ?_
  rintro e w2 ⟨rfl, b2⟩
  have m200 : w2.cell? ⟨w.heap.size, 0, none⟩ = some (.float .f64 xh) := pcarry b2 (by first | exact m100 | go_simp)
  have k200 : w2.frozen? ⟨w.heap.size, 0, none⟩ = false := pcarryF (v := .float .f64 xh) b2 (by first | exact m100 | go_simp) (by first | exact k100 | go_simp)
  have m201 : w2.cell? ⟨w.heap.size, 1, none⟩ = some (.float .f64 xl) := pcarry b2 (by first | exact m101 | go_simp)
  have k201 : w2.frozen? ⟨w.heap.size, 1, none⟩ = false := pcarryF (v := .float .f64 xl) b2 (by first | exact m101 | go_simp) (by first | exact k101 | go_simp)
  have m210 : w2.cell? ⟨w.heap.size + 1, 0, none⟩ = some (.float .f64 yh) := pcarry b2 (by first | exact m110 | go_simp)
  have k210 : w2.frozen? ⟨w.heap.size + 1, 0, none⟩ = false := pcarryF (v := .float .f64 yh) b2 (by first | exact m110 | go_simp) (by first | exact k110 | go_simp)
  have m211 : w2.cell? ⟨w.heap.size + 1, 1, none⟩ = some (.float .f64 yl) := pcarry b2 (by first | exact m111 | go_simp)
  have k211 : w2.frozen? ⟨w.heap.size + 1, 1, none⟩ = false := pcarryF (v := .float .f64 yl) b2 (by first | exact m111 | go_simp) (by first | exact k111 | go_simp)
  have m220 : w2.cell? ⟨w.heap.size + 1 + 1, 0, none⟩ = some (.float .f64 0) := pcarry b2 (by first | exact m120 | go_simp)
  have k220 : w2.frozen? ⟨w.heap.size + 1 + 1, 0, none⟩ = false := pcarryF (v := .float .f64 0) b2 (by first | exact m120 | go_simp) (by first | exact k120 | go_simp)
  have m221 : w2.cell? ⟨w.heap.size + 1 + 1, 1, none⟩ = some (.float .f64 0) := pcarry b2 (by first | exact m121 | go_simp)
  have k221 : w2.frozen? ⟨w.heap.size + 1 + 1, 1, none⟩ = false := pcarryF (v := .float .f64 0) b2 (by first | exact m121 | go_simp) (by first | exact k121 | go_simp)
  have bw2 : Below w.heap.size w w2 := Below.trans (by repeat (first | exact Below.refl _ _ | assumption | refine Below.drew ?_ | refine below_drewN ?_ _ | refine Below.setCell ?_ (by first | (simp; done) | (simp; omega) | omega) _ | refine Below.alloc ?_ (by first | (simp; done) | (simp; omega) | omega) _)) (b2.mono (by first | (simp; done) | (simp; omega) | omega))
  have bs2 := bw2.size
  clear b2
  clear m100 k100 m101 k101 m110 k110 m111 k111 m120 k120 m121 k121
  cases q2 with
  | false =>
    go_wp2_with fail
    refine bodyPost_ret (v := .tuple #[.agg #[.float .f64 0, .float .f64 0], .int .i64 2]) (by simp [results, Try.results31, go_sem, m220, m221]) rfl ⟨0, 0, rfl, by repeat (first | exact Below.refl _ _ | assumption | refine Below.drew ?_ | refine below_drewN ?_ _ | refine Below.setCell ?_ (by first | (simp; done) | (simp; omega) | omega) _ | refine Below.alloc ?_ (by first | (simp; done) | (simp; omega) | omega) _), (fun h => by cases h), (fun _ => ⟨rfl, rfl⟩)⟩
  | true =>
  go_wp2_with fail
  refine Calls.mono (rOver_calls xh xl yh yl _) ?_
  rintro e w3 ⟨s, t, rfl, b3, H3⟩
  have m300 : w3.cell? ⟨w.heap.size, 0, none⟩ = some (.float .f64 xh) := pcarry b3 (by first | exact m200 | go_simp)
  have k300 : w3.frozen? ⟨w.heap.size, 0, none⟩ = false := pcarryF (v := .float .f64 xh) b3 (by first | exact m200 | go_simp) (by first | exact k200 | go_simp)
  have m301 : w3.cell? ⟨w.heap.size, 1, none⟩ = some (.float .f64 xl) := pcarry b3 (by first | exact m201 | go_simp)
  have k301 : w3.frozen? ⟨w.heap.size, 1, none⟩ = false := pcarryF (v := .float .f64 xl) b3 (by first | exact m201 | go_simp) (by first | exact k201 | go_simp)
  have m310 : w3.cell? ⟨w.heap.size + 1, 0, none⟩ = some (.float .f64 yh) := pcarry b3 (by first | exact m210 | go_simp)
  have k310 : w3.frozen? ⟨w.heap.size + 1, 0, none⟩ = false := pcarryF (v := .float .f64 yh) b3 (by first | exact m210 | go_simp) (by first | exact k210 | go_simp)
  have m311 : w3.cell? ⟨w.heap.size + 1, 1, none⟩ = some (.float .f64 yl) := pcarry b3 (by first | exact m211 | go_simp)
  have k311 : w3.frozen? ⟨w.heap.size + 1, 1, none⟩ = false := pcarryF (v := .float .f64 yl) b3 (by first | exact m211 | go_simp) (by first | exact k211 | go_simp)
  have m320 : w3.cell? ⟨w.heap.size + 1 + 1, 0, none⟩ = some (.float .f64 0) := pcarry b3 (by first | exact m220 | go_simp)
  have k320 : w3.frozen? ⟨w.heap.size + 1 + 1, 0, none⟩ = false := pcarryF (v := .float .f64 0) b3 (by first | exact m220 | go_simp) (by first | exact k220 | go_simp)
  have m321 : w3.cell? ⟨w.heap.size + 1 + 1, 1, none⟩ = some (.float .f64 0) := pcarry b3 (by first | exact m221 | go_simp)
  have k321 : w3.frozen? ⟨w.heap.size + 1 + 1, 1, none⟩ = false := pcarryF (v := .float .f64 0) b3 (by first | exact m221 | go_simp) (by first | exact k221 | go_simp)
  have bw3 : Below w.heap.size w w3 := Below.trans (by repeat (first | exact Below.refl _ _ | assumption | refine Below.drew ?_ | refine below_drewN ?_ _ | refine Below.setCell ?_ (by first | (simp; done) | (simp; omega) | omega) _ | refine Below.alloc ?_ (by first | (simp; done) | (simp; omega) | omega) _)) (b3.mono (by first | (simp; done) | (simp; omega) | omega))
  have bs3 := bw3.size
  clear b3
  clear m200 k200 m201 k201 m210 k210 m211 k211 m220 k220 m221 k221
  have H3' : Hid (∀ p, quoP xh xl yh yl = some p → s = p.1 ∧ t = p.2) := H3
  clear H3
  go_wp2_with fail
  refine bodyPost_ret (v := .tuple #[.agg #[.float .f64 s, .float .f64 t], .int .i64 0]) (by simp [results, Try.results31, go_sem, m320, m321]) rfl ⟨s, t, rfl, by repeat (first | exact Below.refl _ _ | assumption | refine Below.drew ?_ | refine below_drewN ?_ _ | refine Below.setCell ?_ (by first | (simp; done) | (simp; omega) | omega) _ | refine Below.alloc ?_ (by first | (simp; done) | (simp; omega) | omega) _), (fun _ => H3'.out), (fun h => by cases h)⟩

set_option maxRecDepth 100000 in
set_option maxHeartbeats 4000000 in
theorem rTwo3z_calls (xh xl yh yl : Nat) (w : World) (hx : xh < 18446744073709551616) (hy : yh < 18446744073709551616) (h1 : rightP xh xl = true) (h2 : rightP yh yl = true) (hz : isZ yh = true) :
    Calls Try.prog 31 #[.int .i64 3, .agg #[.float .f64 xh, .float .f64 xl], .agg #[.float .f64 yh, .float .f64 yl]] w fun e w' => e = .returned (.tuple #[.agg #[.float .f64 0, .float .f64 0], .int .i64 30]) ∧ Below w.heap.size w w' := by
  have HA : Hid _ := fun w => rRight_calls xh xl w hx
  have HB : Hid _ := fun w => rRight_calls yh yl w hy
  have z1 : (FloatKind.f64.format.order yh 0 == some .eq) = true := hz
  rw [h1] at HA
  rw [h2] at HB
  clear hz h1 h2
  clear hx hy
  go_enter Try.func31, Try.ntmps31
  go_wp2_with fail
  refine Calls.mono (HA.out _) ?_
  rintro e w1 ⟨rfl, b1⟩
  have m100 : w1.cell? ⟨w.heap.size, 0, none⟩ = some (.float .f64 xh) := pcarry b1 (by first | exact m000 | go_simp)
  have k100 : w1.frozen? ⟨w.heap.size, 0, none⟩ = false := pcarryF (v := .float .f64 xh) b1 (by first | exact m000 | go_simp) (by first | exact k000 | go_simp)
  have m101 : w1.cell? ⟨w.heap.size, 1, none⟩ = some (.float .f64 xl) := pcarry b1 (by first | exact m001 | go_simp)
  have k101 : w1.frozen? ⟨w.heap.size, 1, none⟩ = false := pcarryF (v := .float .f64 xl) b1 (by first | exact m001 | go_simp) (by first | exact k001 | go_simp)
  have m110 : w1.cell? ⟨w.heap.size + 1, 0, none⟩ = some (.float .f64 yh) := pcarry b1 (by first | exact m010 | go_simp)
  have k110 : w1.frozen? ⟨w.heap.size + 1, 0, none⟩ = false := pcarryF (v := .float .f64 yh) b1 (by first | exact m010 | go_simp) (by first | exact k010 | go_simp)
  have m111 : w1.cell? ⟨w.heap.size + 1, 1, none⟩ = some (.float .f64 yl) := pcarry b1 (by first | exact m011 | go_simp)
  have k111 : w1.frozen? ⟨w.heap.size + 1, 1, none⟩ = false := pcarryF (v := .float .f64 yl) b1 (by first | exact m011 | go_simp) (by first | exact k011 | go_simp)
  have m120 : w1.cell? ⟨w.heap.size + 1 + 1, 0, none⟩ = some (.float .f64 0) := pcarry b1 (by first | exact m020 | go_simp)
  have k120 : w1.frozen? ⟨w.heap.size + 1 + 1, 0, none⟩ = false := pcarryF (v := .float .f64 0) b1 (by first | exact m020 | go_simp) (by first | exact k020 | go_simp)
  have m121 : w1.cell? ⟨w.heap.size + 1 + 1, 1, none⟩ = some (.float .f64 0) := pcarry b1 (by first | exact m021 | go_simp)
  have k121 : w1.frozen? ⟨w.heap.size + 1 + 1, 1, none⟩ = false := pcarryF (v := .float .f64 0) b1 (by first | exact m021 | go_simp) (by first | exact k021 | go_simp)
  have bw1 : Below w.heap.size w w1 := Below.trans (by repeat (first | exact Below.refl _ _ | assumption | refine Below.drew ?_ | refine below_drewN ?_ _ | refine Below.setCell ?_ (by first | (simp; done) | (simp; omega) | omega) _ | refine Below.alloc ?_ (by first | (simp; done) | (simp; omega) | omega) _)) (b1.mono (by first | (simp; done) | (simp; omega) | omega))
  have bs1 := bw1.size
  clear b1
  go_wp2_with fail
  refine Calls.mono (HB.out _) ?_
  rintro e w2 ⟨rfl, b2⟩
  have m200 : w2.cell? ⟨w.heap.size, 0, none⟩ = some (.float .f64 xh) := pcarry b2 (by first | exact m100 | go_simp)
  have k200 : w2.frozen? ⟨w.heap.size, 0, none⟩ = false := pcarryF (v := .float .f64 xh) b2 (by first | exact m100 | go_simp) (by first | exact k100 | go_simp)
  have m201 : w2.cell? ⟨w.heap.size, 1, none⟩ = some (.float .f64 xl) := pcarry b2 (by first | exact m101 | go_simp)
  have k201 : w2.frozen? ⟨w.heap.size, 1, none⟩ = false := pcarryF (v := .float .f64 xl) b2 (by first | exact m101 | go_simp) (by first | exact k101 | go_simp)
  have m210 : w2.cell? ⟨w.heap.size + 1, 0, none⟩ = some (.float .f64 yh) := pcarry b2 (by first | exact m110 | go_simp)
  have k210 : w2.frozen? ⟨w.heap.size + 1, 0, none⟩ = false := pcarryF (v := .float .f64 yh) b2 (by first | exact m110 | go_simp) (by first | exact k110 | go_simp)
  have m211 : w2.cell? ⟨w.heap.size + 1, 1, none⟩ = some (.float .f64 yl) := pcarry b2 (by first | exact m111 | go_simp)
  have k211 : w2.frozen? ⟨w.heap.size + 1, 1, none⟩ = false := pcarryF (v := .float .f64 yl) b2 (by first | exact m111 | go_simp) (by first | exact k111 | go_simp)
  have m220 : w2.cell? ⟨w.heap.size + 1 + 1, 0, none⟩ = some (.float .f64 0) := pcarry b2 (by first | exact m120 | go_simp)
  have k220 : w2.frozen? ⟨w.heap.size + 1 + 1, 0, none⟩ = false := pcarryF (v := .float .f64 0) b2 (by first | exact m120 | go_simp) (by first | exact k120 | go_simp)
  have m221 : w2.cell? ⟨w.heap.size + 1 + 1, 1, none⟩ = some (.float .f64 0) := pcarry b2 (by first | exact m121 | go_simp)
  have k221 : w2.frozen? ⟨w.heap.size + 1 + 1, 1, none⟩ = false := pcarryF (v := .float .f64 0) b2 (by first | exact m121 | go_simp) (by first | exact k121 | go_simp)
  have bw2 : Below w.heap.size w w2 := Below.trans (by repeat (first | exact Below.refl _ _ | assumption | refine Below.drew ?_ | refine below_drewN ?_ _ | refine Below.setCell ?_ (by first | (simp; done) | (simp; omega) | omega) _ | refine Below.alloc ?_ (by first | (simp; done) | (simp; omega) | omega) _)) (b2.mono (by first | (simp; done) | (simp; omega) | omega))
  have bs2 := bw2.size
  clear b2
  clear m100 k100 m101 k101 m110 k110 m111 k111 m120 k120 m121 k121
  go_wp2_with fail
  exact bodyPost_ret (v := .tuple #[.agg #[.float .f64 0, .float .f64 0], .int .i64 30]) (by simp [results, Try.results31, go_sem, m220, m221]) rfl ⟨rfl, by repeat (first | exact Below.refl _ _ | assumption | refine Below.drew ?_ | refine below_drewN ?_ _ | refine Below.setCell ?_ (by first | (simp; done) | (simp; omega) | omega) _ | refine Below.alloc ?_ (by first | (simp; done) | (simp; omega) | omega) _)⟩

set_option maxRecDepth 100000 in
set_option maxHeartbeats 4000000 in
theorem rTwo3b_calls (xh xl yh yl : Nat) (w : World) (hx : xh < 18446744073709551616) (hy : yh < 18446744073709551616) (hb : (rightP xh xl && rightP yh yl) = false) :
    Calls Try.prog 31 #[.int .i64 3, .agg #[.float .f64 xh, .float .f64 xl], .agg #[.float .f64 yh, .float .f64 yl]] w fun e w' => e = .returned (.tuple #[.agg #[.float .f64 0, .float .f64 0], .int .i64 2]) ∧ Below w.heap.size w w' := by
  have HA : Hid _ := fun w => rRight_calls xh xl w hx
  have HB : Hid _ := fun w => rRight_calls yh yl w hy
  clear hx hy
  generalize rightP xh xl = q1 at *
  generalize rightP yh yl = q2 at *
  go_enter Try.func31, Try.ntmps31
  go_wp2_with fail
  refine Calls.mono (HA.out _) ?_
  rintro e w1 ⟨rfl, b1⟩
  have m100 : w1.cell? ⟨w.heap.size, 0, none⟩ = some (.float .f64 xh) := pcarry b1 (by first | exact m000 | go_simp)
  have k100 : w1.frozen? ⟨w.heap.size, 0, none⟩ = false := pcarryF (v := .float .f64 xh) b1 (by first | exact m000 | go_simp) (by first | exact k000 | go_simp)
  have m101 : w1.cell? ⟨w.heap.size, 1, none⟩ = some (.float .f64 xl) := pcarry b1 (by first | exact m001 | go_simp)
  have k101 : w1.frozen? ⟨w.heap.size, 1, none⟩ = false := pcarryF (v := .float .f64 xl) b1 (by first | exact m001 | go_simp) (by first | exact k001 | go_simp)
  have m110 : w1.cell? ⟨w.heap.size + 1, 0, none⟩ = some (.float .f64 yh) := pcarry b1 (by first | exact m010 | go_simp)
  have k110 : w1.frozen? ⟨w.heap.size + 1, 0, none⟩ = false := pcarryF (v := .float .f64 yh) b1 (by first | exact m010 | go_simp) (by first | exact k010 | go_simp)
  have m111 : w1.cell? ⟨w.heap.size + 1, 1, none⟩ = some (.float .f64 yl) := pcarry b1 (by first | exact m011 | go_simp)
  have k111 : w1.frozen? ⟨w.heap.size + 1, 1, none⟩ = false := pcarryF (v := .float .f64 yl) b1 (by first | exact m011 | go_simp) (by first | exact k011 | go_simp)
  have m120 : w1.cell? ⟨w.heap.size + 1 + 1, 0, none⟩ = some (.float .f64 0) := pcarry b1 (by first | exact m020 | go_simp)
  have k120 : w1.frozen? ⟨w.heap.size + 1 + 1, 0, none⟩ = false := pcarryF (v := .float .f64 0) b1 (by first | exact m020 | go_simp) (by first | exact k020 | go_simp)
  have m121 : w1.cell? ⟨w.heap.size + 1 + 1, 1, none⟩ = some (.float .f64 0) := pcarry b1 (by first | exact m021 | go_simp)
  have k121 : w1.frozen? ⟨w.heap.size + 1 + 1, 1, none⟩ = false := pcarryF (v := .float .f64 0) b1 (by first | exact m021 | go_simp) (by first | exact k021 | go_simp)
  have bw1 : Below w.heap.size w w1 := Below.trans (by repeat (first | exact Below.refl _ _ | assumption | refine Below.drew ?_ | refine below_drewN ?_ _ | refine Below.setCell ?_ (by first | (simp; done) | (simp; omega) | omega) _ | refine Below.alloc ?_ (by first | (simp; done) | (simp; omega) | omega) _)) (b1.mono (by first | (simp; done) | (simp; omega) | omega))
  have bs1 := bw1.size
  clear b1
  cases q1 with
  | false =>
    go_wp2_with fail
    exact bodyPost_ret (v := .tuple #[.agg #[.float .f64 0, .float .f64 0], .int .i64 2]) (by simp [results, Try.results31, go_sem, m120, m121]) rfl ⟨rfl, by repeat (first | exact Below.refl _ _ | assumption | refine Below.drew ?_ | refine below_drewN ?_ _ | refine Below.setCell ?_ (by first | (simp; done) | (simp; omega) | omega) _ | refine Below.alloc ?_ (by first | (simp; done) | (simp; omega) | omega) _)⟩
  | true =>
  obtain rfl : q2 = false := by simpa using hb
  clear hb
  go_wp2_with fail
  refine Calls.mono (HB.out _) ?_
  rintro e w2 ⟨rfl, b2⟩
  have m200 : w2.cell? ⟨w.heap.size, 0, none⟩ = some (.float .f64 xh) := pcarry b2 (by first | exact m100 | go_simp)
  have k200 : w2.frozen? ⟨w.heap.size, 0, none⟩ = false := pcarryF (v := .float .f64 xh) b2 (by first | exact m100 | go_simp) (by first | exact k100 | go_simp)
  have m201 : w2.cell? ⟨w.heap.size, 1, none⟩ = some (.float .f64 xl) := pcarry b2 (by first | exact m101 | go_simp)
  have k201 : w2.frozen? ⟨w.heap.size, 1, none⟩ = false := pcarryF (v := .float .f64 xl) b2 (by first | exact m101 | go_simp) (by first | exact k101 | go_simp)
  have m210 : w2.cell? ⟨w.heap.size + 1, 0, none⟩ = some (.float .f64 yh) := pcarry b2 (by first | exact m110 | go_simp)
  have k210 : w2.frozen? ⟨w.heap.size + 1, 0, none⟩ = false := pcarryF (v := .float .f64 yh) b2 (by first | exact m110 | go_simp) (by first | exact k110 | go_simp)
  have m211 : w2.cell? ⟨w.heap.size + 1, 1, none⟩ = some (.float .f64 yl) := pcarry b2 (by first | exact m111 | go_simp)
  have k211 : w2.frozen? ⟨w.heap.size + 1, 1, none⟩ = false := pcarryF (v := .float .f64 yl) b2 (by first | exact m111 | go_simp) (by first | exact k111 | go_simp)
  have m220 : w2.cell? ⟨w.heap.size + 1 + 1, 0, none⟩ = some (.float .f64 0) := pcarry b2 (by first | exact m120 | go_simp)
  have k220 : w2.frozen? ⟨w.heap.size + 1 + 1, 0, none⟩ = false := pcarryF (v := .float .f64 0) b2 (by first | exact m120 | go_simp) (by first | exact k120 | go_simp)
  have m221 : w2.cell? ⟨w.heap.size + 1 + 1, 1, none⟩ = some (.float .f64 0) := pcarry b2 (by first | exact m121 | go_simp)
  have k221 : w2.frozen? ⟨w.heap.size + 1 + 1, 1, none⟩ = false := pcarryF (v := .float .f64 0) b2 (by first | exact m121 | go_simp) (by first | exact k121 | go_simp)
  have bw2 : Below w.heap.size w w2 := Below.trans (by repeat (first | exact Below.refl _ _ | assumption | refine Below.drew ?_ | refine below_drewN ?_ _ | refine Below.setCell ?_ (by first | (simp; done) | (simp; omega) | omega) _ | refine Below.alloc ?_ (by first | (simp; done) | (simp; omega) | omega) _)) (b2.mono (by first | (simp; done) | (simp; omega) | omega))
  have bs2 := bw2.size
  clear b2
  clear m100 k100 m101 k101 m110 k110 m111 k111 m120 k120 m121 k121
  go_wp2_with fail
  exact bodyPost_ret (v := .tuple #[.agg #[.float .f64 0, .float .f64 0], .int .i64 2]) (by simp [results, Try.results31, go_sem, m220, m221]) rfl ⟨rfl, by repeat (first | exact Below.refl _ _ | assumption | refine Below.drew ?_ | refine below_drewN ?_ _ | refine Below.setCell ?_ (by first | (simp; done) | (simp; omega) | omega) _ | refine Below.alloc ?_ (by first | (simp; done) | (simp; omega) | omega) _)⟩

set_option maxRecDepth 100000 in
set_option maxHeartbeats 4000000 in
theorem dDiv_zero (xh xl yh yl : Nat) (w : World) (hx : xh < 18446744073709551616) (hy : yh < 18446744073709551616) (h1 : rightP xh xl = true) (z1 : isZ yh = true) (z2 : isZ yl = true) :
    Calls Try.prog 51 #[.agg #[.float .f64 xh, .float .f64 xl], .agg #[.float .f64 yh, .float .f64 yl]] w fun e w' => e = .returned (.tuple #[.agg #[.float .f64 0, .float .f64 0], .int .i64 30]) ∧ Below w.heap.size w w' := by
  have HA : Hid _ := fun w => dRight_calls xh xl w hx
  have HD : Hid _ := fun b w => done_quotient b xh xl yh yl w hx hy
  have q1 : ∀ x y w, (Op.equalIn 9999 22 (.float .f64 x) (.float .f64 y)).run Try.prog w = .ok (Ieee.double.order x y == some .eq) w := fun x y w => eqF Try.prog 22 9998 x y w Try.underlying22
  clear hx hy
  rw [h1] at HA
  have e1 : (Ieee.double.order yh 0 == some .eq) = true := z1
  have e2 : (Ieee.double.order yl 0 == some .eq) = true := z2
  clear h1 z1 z2 HD
  go_enter Try.func51, Try.ntmps51
  go_wp2_with fail
  refine Calls.mono (HA.out _) ?_
  rintro e w1 ⟨rfl, b1⟩
  have m100 : w1.cell? ⟨w.heap.size, 0, none⟩ = some (.float .f64 xh) := pcarry b1 (by first | exact m000 | go_simp)
  have k100 : w1.frozen? ⟨w.heap.size, 0, none⟩ = false := pcarryF (v := .float .f64 xh) b1 (by first | exact m000 | go_simp) (by first | exact k000 | go_simp)
  have m101 : w1.cell? ⟨w.heap.size, 1, none⟩ = some (.float .f64 xl) := pcarry b1 (by first | exact m001 | go_simp)
  have k101 : w1.frozen? ⟨w.heap.size, 1, none⟩ = false := pcarryF (v := .float .f64 xl) b1 (by first | exact m001 | go_simp) (by first | exact k001 | go_simp)
  have m110 : w1.cell? ⟨w.heap.size + 1, 0, none⟩ = some (.float .f64 yh) := pcarry b1 (by first | exact m010 | go_simp)
  have k110 : w1.frozen? ⟨w.heap.size + 1, 0, none⟩ = false := pcarryF (v := .float .f64 yh) b1 (by first | exact m010 | go_simp) (by first | exact k010 | go_simp)
  have m111 : w1.cell? ⟨w.heap.size + 1, 1, none⟩ = some (.float .f64 yl) := pcarry b1 (by first | exact m011 | go_simp)
  have k111 : w1.frozen? ⟨w.heap.size + 1, 1, none⟩ = false := pcarryF (v := .float .f64 yl) b1 (by first | exact m011 | go_simp) (by first | exact k011 | go_simp)
  have m120 : w1.cell? ⟨w.heap.size + 1 + 1, 0, none⟩ = some (.float .f64 0) := pcarry b1 (by first | exact m020 | go_simp)
  have k120 : w1.frozen? ⟨w.heap.size + 1 + 1, 0, none⟩ = false := pcarryF (v := .float .f64 0) b1 (by first | exact m020 | go_simp) (by first | exact k020 | go_simp)
  have m121 : w1.cell? ⟨w.heap.size + 1 + 1, 1, none⟩ = some (.float .f64 0) := pcarry b1 (by first | exact m021 | go_simp)
  have k121 : w1.frozen? ⟨w.heap.size + 1 + 1, 1, none⟩ = false := pcarryF (v := .float .f64 0) b1 (by first | exact m021 | go_simp) (by first | exact k021 | go_simp)
  have bw1 : Below w.heap.size w w1 := Below.trans (by repeat (first | exact Below.refl _ _ | assumption | refine Below.drew ?_ | refine below_drewN ?_ _ | refine Below.setCell ?_ (by first | (simp; done) | (simp; omega) | omega) _ | refine Below.alloc ?_ (by first | (simp; done) | (simp; omega) | omega) _)) (b1.mono (by first | (simp; done) | (simp; omega) | omega))
  have bs1 := bw1.size
  clear b1
  go_wp2_with fail
  exact bodyPost_ret (v := .tuple #[.agg #[.float .f64 0, .float .f64 0], .int .i64 30]) (by simp [results, Try.results51, go_sem, m120, m121]) rfl ⟨rfl, by repeat (first | exact Below.refl _ _ | assumption | refine Below.drew ?_ | refine below_drewN ?_ _ | refine Below.setCell ?_ (by first | (simp; done) | (simp; omega) | omega) _ | refine Below.alloc ?_ (by first | (simp; done) | (simp; omega) | omega) _)⟩

set_option maxRecDepth 100000 in
set_option maxHeartbeats 4000000 in
theorem dDiv_bad (xh xl yh yl : Nat) (w : World) (hx : xh < 18446744073709551616) (hy : yh < 18446744073709551616) (h1 : rightP xh xl = false) :
    Calls Try.prog 51 #[.agg #[.float .f64 xh, .float .f64 xl], .agg #[.float .f64 yh, .float .f64 yl]] w (AnsP w (rightP yh yl && rightP xh xl) (quoP xh xl yh yl)) := by
  have HA : Hid _ := fun w => dRight_calls xh xl w hx
  have HD : Hid _ := fun b w => done_quotient b xh xl yh yl w hx hy
  have q1 : ∀ x y w, (Op.equalIn 9999 22 (.float .f64 x) (.float .f64 y)).run Try.prog w = .ok (Ieee.double.order x y == some .eq) w := fun x y w => eqF Try.prog 22 9998 x y w Try.underlying22
  clear hx hy
  generalize (rightP yh yl && rightP xh xl) = ok at *
  rw [h1] at HA
  clear h1
  go_enter Try.func51, Try.ntmps51
  go_wp2_with fail
  refine Calls.mono (HA.out _) ?_
  rintro e w1 ⟨rfl, b1⟩
  have m100 : w1.cell? ⟨w.heap.size, 0, none⟩ = some (.float .f64 xh) := pcarry b1 (by first | exact m000 | go_simp)
  have k100 : w1.frozen? ⟨w.heap.size, 0, none⟩ = false := pcarryF (v := .float .f64 xh) b1 (by first | exact m000 | go_simp) (by first | exact k000 | go_simp)
  have m101 : w1.cell? ⟨w.heap.size, 1, none⟩ = some (.float .f64 xl) := pcarry b1 (by first | exact m001 | go_simp)
  have k101 : w1.frozen? ⟨w.heap.size, 1, none⟩ = false := pcarryF (v := .float .f64 xl) b1 (by first | exact m001 | go_simp) (by first | exact k001 | go_simp)
  have m110 : w1.cell? ⟨w.heap.size + 1, 0, none⟩ = some (.float .f64 yh) := pcarry b1 (by first | exact m010 | go_simp)
  have k110 : w1.frozen? ⟨w.heap.size + 1, 0, none⟩ = false := pcarryF (v := .float .f64 yh) b1 (by first | exact m010 | go_simp) (by first | exact k010 | go_simp)
  have m111 : w1.cell? ⟨w.heap.size + 1, 1, none⟩ = some (.float .f64 yl) := pcarry b1 (by first | exact m011 | go_simp)
  have k111 : w1.frozen? ⟨w.heap.size + 1, 1, none⟩ = false := pcarryF (v := .float .f64 yl) b1 (by first | exact m011 | go_simp) (by first | exact k011 | go_simp)
  have m120 : w1.cell? ⟨w.heap.size + 1 + 1, 0, none⟩ = some (.float .f64 0) := pcarry b1 (by first | exact m020 | go_simp)
  have k120 : w1.frozen? ⟨w.heap.size + 1 + 1, 0, none⟩ = false := pcarryF (v := .float .f64 0) b1 (by first | exact m020 | go_simp) (by first | exact k020 | go_simp)
  have m121 : w1.cell? ⟨w.heap.size + 1 + 1, 1, none⟩ = some (.float .f64 0) := pcarry b1 (by first | exact m021 | go_simp)
  have k121 : w1.frozen? ⟨w.heap.size + 1 + 1, 1, none⟩ = false := pcarryF (v := .float .f64 0) b1 (by first | exact m021 | go_simp) (by first | exact k021 | go_simp)
  have bw1 : Below w.heap.size w w1 := Below.trans (by repeat (first | exact Below.refl _ _ | assumption | refine Below.drew ?_ | refine below_drewN ?_ _ | refine Below.setCell ?_ (by first | (simp; done) | (simp; omega) | omega) _ | refine Below.alloc ?_ (by first | (simp; done) | (simp; omega) | omega) _)) (b1.mono (by first | (simp; done) | (simp; omega) | omega))
  have bs1 := bw1.size
  clear b1
  have q20 : ∀ ob, (w1.alloc ob).cell? ⟨w.heap.size + 1 + 1, 0, none⟩ = some (.float .f64 0) := fun ob => pcarry (below_alloc1' _ ob) m120
  have q21 : ∀ ob, (w1.alloc ob).cell? ⟨w.heap.size + 1 + 1, 1, none⟩ = some (.float .f64 0) := fun ob => pcarry (below_alloc1' _ ob) m121
  have u20 : ∀ ob, (w1.alloc ob).frozen? ⟨w.heap.size + 1 + 1, 0, none⟩ = false := fun ob => pcarryF (below_alloc1' _ ob) m120 k120
  have u21 : ∀ ob, (w1.alloc ob).frozen? ⟨w.heap.size + 1 + 1, 1, none⟩ = false := fun ob => pcarryF (below_alloc1' _ ob) m121 k121
  go_wp2_with fail
  refine Calls.mono (HD.out _ _ (by go_simp) (by go_simp)) ?_
  rintro e w2 ⟨s, t, rfl, b2, H2, Z2⟩
  have n0 : w2.cell? ⟨w.heap.size + 1 + 1, 0, none⟩ = some (.float .f64 0) := pcarry b2 (by first | exact q20 _ | go_simp)
  have n1 : w2.cell? ⟨w.heap.size + 1 + 1, 1, none⟩ = some (.float .f64 0) := pcarry b2 (by first | exact q21 _ | go_simp)
  have l0 : w2.frozen? ⟨w.heap.size + 1 + 1, 0, none⟩ = false := pcarryF (v := .float .f64 0) b2 (by first | exact q20 _ | go_simp) (by first | exact u20 _ | go_simp)
  have l1 : w2.frozen? ⟨w.heap.size + 1 + 1, 1, none⟩ = false := pcarryF (v := .float .f64 0) b2 (by first | exact q21 _ | go_simp) (by first | exact u21 _ | go_simp)
  have bw2 : Below w.heap.size w w2 := Below.trans (by repeat (first | exact Below.refl _ _ | assumption | refine Below.drew ?_ | refine below_drewN ?_ _ | refine Below.setCell ?_ (by first | (simp; done) | (simp; omega) | omega) _ | refine Below.alloc ?_ (by first | (simp; done) | (simp; omega) | omega) _)) (b2.mono (by first | (simp; done) | (simp; omega) | omega))
  have bs2 := bw2.size
  have HH : Hid ((ok = true → ∀ p, quoP xh xl yh yl = some p → s = p.1 ∧ t = p.2) ∧ (ok = false → s = 0 ∧ t = 0)) := ⟨H2, Z2⟩
  clear b2 H2 Z2
  go_wp2_with fail
  exact bodyPost_ret (v := .tuple #[.agg #[.float .f64 s, .float .f64 t], .int .i64 (errI ok)]) (by simp [results, Try.results51, go_sem, n0, n1]) rfl ⟨s, t, rfl, by repeat (first | exact Below.refl _ _ | assumption | refine Below.drew ?_ | refine below_drewN ?_ _ | refine Below.setCell ?_ (by first | (simp; done) | (simp; omega) | omega) _ | refine Below.alloc ?_ (by first | (simp; done) | (simp; omega) | omega) _), HH.out.1, HH.out.2⟩

set_option maxRecDepth 100000 in
set_option maxHeartbeats 4000000 in
theorem dDiv_nz (xh xl yh yl : Nat) (w : World) (hx : xh < 18446744073709551616) (hy : yh < 18446744073709551616) (h1 : rightP xh xl = true) (z1 : isZ yh = false) :
    Calls Try.prog 51 #[.agg #[.float .f64 xh, .float .f64 xl], .agg #[.float .f64 yh, .float .f64 yl]] w (AnsP w (rightP yh yl && rightP xh xl) (quoP xh xl yh yl)) := by
  have HA : Hid _ := fun w => dRight_calls xh xl w hx
  have HD : Hid _ := fun b w => done_quotient b xh xl yh yl w hx hy
  have q1 : ∀ x y w, (Op.equalIn 9999 22 (.float .f64 x) (.float .f64 y)).run Try.prog w = .ok (Ieee.double.order x y == some .eq) w := fun x y w => eqF Try.prog 22 9998 x y w Try.underlying22
  clear hx hy
  generalize (rightP yh yl && rightP xh xl) = ok at *
  rw [h1] at HA
  have e1 : (Ieee.double.order yh 0 == some .eq) = false := z1
  clear h1 z1
  go_enter Try.func51, Try.ntmps51
  go_wp2_with fail
  refine Calls.mono (HA.out _) ?_
  rintro e w1 ⟨rfl, b1⟩
  have m100 : w1.cell? ⟨w.heap.size, 0, none⟩ = some (.float .f64 xh) := pcarry b1 (by first | exact m000 | go_simp)
  have k100 : w1.frozen? ⟨w.heap.size, 0, none⟩ = false := pcarryF (v := .float .f64 xh) b1 (by first | exact m000 | go_simp) (by first | exact k000 | go_simp)
  have m101 : w1.cell? ⟨w.heap.size, 1, none⟩ = some (.float .f64 xl) := pcarry b1 (by first | exact m001 | go_simp)
  have k101 : w1.frozen? ⟨w.heap.size, 1, none⟩ = false := pcarryF (v := .float .f64 xl) b1 (by first | exact m001 | go_simp) (by first | exact k001 | go_simp)
  have m110 : w1.cell? ⟨w.heap.size + 1, 0, none⟩ = some (.float .f64 yh) := pcarry b1 (by first | exact m010 | go_simp)
  have k110 : w1.frozen? ⟨w.heap.size + 1, 0, none⟩ = false := pcarryF (v := .float .f64 yh) b1 (by first | exact m010 | go_simp) (by first | exact k010 | go_simp)
  have m111 : w1.cell? ⟨w.heap.size + 1, 1, none⟩ = some (.float .f64 yl) := pcarry b1 (by first | exact m011 | go_simp)
  have k111 : w1.frozen? ⟨w.heap.size + 1, 1, none⟩ = false := pcarryF (v := .float .f64 yl) b1 (by first | exact m011 | go_simp) (by first | exact k011 | go_simp)
  have m120 : w1.cell? ⟨w.heap.size + 1 + 1, 0, none⟩ = some (.float .f64 0) := pcarry b1 (by first | exact m020 | go_simp)
  have k120 : w1.frozen? ⟨w.heap.size + 1 + 1, 0, none⟩ = false := pcarryF (v := .float .f64 0) b1 (by first | exact m020 | go_simp) (by first | exact k020 | go_simp)
  have m121 : w1.cell? ⟨w.heap.size + 1 + 1, 1, none⟩ = some (.float .f64 0) := pcarry b1 (by first | exact m021 | go_simp)
  have k121 : w1.frozen? ⟨w.heap.size + 1 + 1, 1, none⟩ = false := pcarryF (v := .float .f64 0) b1 (by first | exact m021 | go_simp) (by first | exact k021 | go_simp)
  have bw1 : Below w.heap.size w w1 := Below.trans (by repeat (first | exact Below.refl _ _ | assumption | refine Below.drew ?_ | refine below_drewN ?_ _ | refine Below.setCell ?_ (by first | (simp; done) | (simp; omega) | omega) _ | refine Below.alloc ?_ (by first | (simp; done) | (simp; omega) | omega) _)) (b1.mono (by first | (simp; done) | (simp; omega) | omega))
  have bs1 := bw1.size
  clear b1
  have q20 : ∀ ob, (w1.alloc ob).cell? ⟨w.heap.size + 1 + 1, 0, none⟩ = some (.float .f64 0) := fun ob => pcarry (below_alloc1' _ ob) m120
  have q21 : ∀ ob, (w1.alloc ob).cell? ⟨w.heap.size + 1 + 1, 1, none⟩ = some (.float .f64 0) := fun ob => pcarry (below_alloc1' _ ob) m121
  have u20 : ∀ ob, (w1.alloc ob).frozen? ⟨w.heap.size + 1 + 1, 0, none⟩ = false := fun ob => pcarryF (below_alloc1' _ ob) m120 k120
  have u21 : ∀ ob, (w1.alloc ob).frozen? ⟨w.heap.size + 1 + 1, 1, none⟩ = false := fun ob => pcarryF (below_alloc1' _ ob) m121 k121
  go_wp2_with fail
  refine Calls.mono (HD.out _ _ (by go_simp) (by go_simp)) ?_
  rintro e w2 ⟨s, t, rfl, b2, H2, Z2⟩
  have n0 : w2.cell? ⟨w.heap.size + 1 + 1, 0, none⟩ = some (.float .f64 0) := pcarry b2 (by first | exact q20 _ | go_simp)
  have n1 : w2.cell? ⟨w.heap.size + 1 + 1, 1, none⟩ = some (.float .f64 0) := pcarry b2 (by first | exact q21 _ | go_simp)
  have l0 : w2.frozen? ⟨w.heap.size + 1 + 1, 0, none⟩ = false := pcarryF (v := .float .f64 0) b2 (by first | exact q20 _ | go_simp) (by first | exact u20 _ | go_simp)
  have l1 : w2.frozen? ⟨w.heap.size + 1 + 1, 1, none⟩ = false := pcarryF (v := .float .f64 0) b2 (by first | exact q21 _ | go_simp) (by first | exact u21 _ | go_simp)
  have bw2 : Below w.heap.size w w2 := Below.trans (by repeat (first | exact Below.refl _ _ | assumption | refine Below.drew ?_ | refine below_drewN ?_ _ | refine Below.setCell ?_ (by first | (simp; done) | (simp; omega) | omega) _ | refine Below.alloc ?_ (by first | (simp; done) | (simp; omega) | omega) _)) (b2.mono (by first | (simp; done) | (simp; omega) | omega))
  have bs2 := bw2.size
  have HH : Hid ((ok = true → ∀ p, quoP xh xl yh yl = some p → s = p.1 ∧ t = p.2) ∧ (ok = false → s = 0 ∧ t = 0)) := ⟨H2, Z2⟩
  clear b2 H2 Z2
  go_wp2_with fail
  exact bodyPost_ret (v := .tuple #[.agg #[.float .f64 s, .float .f64 t], .int .i64 (errI ok)]) (by simp [results, Try.results51, go_sem, n0, n1]) rfl ⟨s, t, rfl, by repeat (first | exact Below.refl _ _ | assumption | refine Below.drew ?_ | refine below_drewN ?_ _ | refine Below.setCell ?_ (by first | (simp; done) | (simp; omega) | omega) _ | refine Below.alloc ?_ (by first | (simp; done) | (simp; omega) | omega) _), HH.out.1, HH.out.2⟩

set_option maxRecDepth 100000 in
set_option maxHeartbeats 4000000 in
theorem dDiv_nl (xh xl yh yl : Nat) (w : World) (hx : xh < 18446744073709551616) (hy : yh < 18446744073709551616) (h1 : rightP xh xl = true) (z1 : isZ yh = true) (z2 : isZ yl = false) :
    Calls Try.prog 51 #[.agg #[.float .f64 xh, .float .f64 xl], .agg #[.float .f64 yh, .float .f64 yl]] w (AnsP w (rightP yh yl && rightP xh xl) (quoP xh xl yh yl)) := by
  have HA : Hid _ := fun w => dRight_calls xh xl w hx
  have HD : Hid _ := fun b w => done_quotient b xh xl yh yl w hx hy
  have q1 : ∀ x y w, (Op.equalIn 9999 22 (.float .f64 x) (.float .f64 y)).run Try.prog w = .ok (Ieee.double.order x y == some .eq) w := fun x y w => eqF Try.prog 22 9998 x y w Try.underlying22
  clear hx hy
  generalize (rightP yh yl && rightP xh xl) = ok at *
  rw [h1] at HA
  have e1 : (Ieee.double.order yh 0 == some .eq) = true := z1
  have e2 : (Ieee.double.order yl 0 == some .eq) = false := z2
  clear h1 z1 z2
  go_enter Try.func51, Try.ntmps51
  go_wp2_with fail
  refine Calls.mono (HA.out _) ?_
  rintro e w1 ⟨rfl, b1⟩
  have m100 : w1.cell? ⟨w.heap.size, 0, none⟩ = some (.float .f64 xh) := pcarry b1 (by first | exact m000 | go_simp)
  have k100 : w1.frozen? ⟨w.heap.size, 0, none⟩ = false := pcarryF (v := .float .f64 xh) b1 (by first | exact m000 | go_simp) (by first | exact k000 | go_simp)
  have m101 : w1.cell? ⟨w.heap.size, 1, none⟩ = some (.float .f64 xl) := pcarry b1 (by first | exact m001 | go_simp)
  have k101 : w1.frozen? ⟨w.heap.size, 1, none⟩ = false := pcarryF (v := .float .f64 xl) b1 (by first | exact m001 | go_simp) (by first | exact k001 | go_simp)
  have m110 : w1.cell? ⟨w.heap.size + 1, 0, none⟩ = some (.float .f64 yh) := pcarry b1 (by first | exact m010 | go_simp)
  have k110 : w1.frozen? ⟨w.heap.size + 1, 0, none⟩ = false := pcarryF (v := .float .f64 yh) b1 (by first | exact m010 | go_simp) (by first | exact k010 | go_simp)
  have m111 : w1.cell? ⟨w.heap.size + 1, 1, none⟩ = some (.float .f64 yl) := pcarry b1 (by first | exact m011 | go_simp)
  have k111 : w1.frozen? ⟨w.heap.size + 1, 1, none⟩ = false := pcarryF (v := .float .f64 yl) b1 (by first | exact m011 | go_simp) (by first | exact k011 | go_simp)
  have m120 : w1.cell? ⟨w.heap.size + 1 + 1, 0, none⟩ = some (.float .f64 0) := pcarry b1 (by first | exact m020 | go_simp)
  have k120 : w1.frozen? ⟨w.heap.size + 1 + 1, 0, none⟩ = false := pcarryF (v := .float .f64 0) b1 (by first | exact m020 | go_simp) (by first | exact k020 | go_simp)
  have m121 : w1.cell? ⟨w.heap.size + 1 + 1, 1, none⟩ = some (.float .f64 0) := pcarry b1 (by first | exact m021 | go_simp)
  have k121 : w1.frozen? ⟨w.heap.size + 1 + 1, 1, none⟩ = false := pcarryF (v := .float .f64 0) b1 (by first | exact m021 | go_simp) (by first | exact k021 | go_simp)
  have bw1 : Below w.heap.size w w1 := Below.trans (by repeat (first | exact Below.refl _ _ | assumption | refine Below.drew ?_ | refine below_drewN ?_ _ | refine Below.setCell ?_ (by first | (simp; done) | (simp; omega) | omega) _ | refine Below.alloc ?_ (by first | (simp; done) | (simp; omega) | omega) _)) (b1.mono (by first | (simp; done) | (simp; omega) | omega))
  have bs1 := bw1.size
  clear b1
  have q20 : ∀ ob, (w1.alloc ob).cell? ⟨w.heap.size + 1 + 1, 0, none⟩ = some (.float .f64 0) := fun ob => pcarry (below_alloc1' _ ob) m120
  have q21 : ∀ ob, (w1.alloc ob).cell? ⟨w.heap.size + 1 + 1, 1, none⟩ = some (.float .f64 0) := fun ob => pcarry (below_alloc1' _ ob) m121
  have u20 : ∀ ob, (w1.alloc ob).frozen? ⟨w.heap.size + 1 + 1, 0, none⟩ = false := fun ob => pcarryF (below_alloc1' _ ob) m120 k120
  have u21 : ∀ ob, (w1.alloc ob).frozen? ⟨w.heap.size + 1 + 1, 1, none⟩ = false := fun ob => pcarryF (below_alloc1' _ ob) m121 k121
  go_wp2_with fail
  refine Calls.mono (HD.out _ _ (by go_simp) (by go_simp)) ?_
  rintro e w2 ⟨s, t, rfl, b2, H2, Z2⟩
  have n0 : w2.cell? ⟨w.heap.size + 1 + 1, 0, none⟩ = some (.float .f64 0) := pcarry b2 (by first | exact q20 _ | go_simp)
  have n1 : w2.cell? ⟨w.heap.size + 1 + 1, 1, none⟩ = some (.float .f64 0) := pcarry b2 (by first | exact q21 _ | go_simp)
  have l0 : w2.frozen? ⟨w.heap.size + 1 + 1, 0, none⟩ = false := pcarryF (v := .float .f64 0) b2 (by first | exact q20 _ | go_simp) (by first | exact u20 _ | go_simp)
  have l1 : w2.frozen? ⟨w.heap.size + 1 + 1, 1, none⟩ = false := pcarryF (v := .float .f64 0) b2 (by first | exact q21 _ | go_simp) (by first | exact u21 _ | go_simp)
  have bw2 : Below w.heap.size w w2 := Below.trans (by repeat (first | exact Below.refl _ _ | assumption | refine Below.drew ?_ | refine below_drewN ?_ _ | refine Below.setCell ?_ (by first | (simp; done) | (simp; omega) | omega) _ | refine Below.alloc ?_ (by first | (simp; done) | (simp; omega) | omega) _)) (b2.mono (by first | (simp; done) | (simp; omega) | omega))
  have bs2 := bw2.size
  have HH : Hid ((ok = true → ∀ p, quoP xh xl yh yl = some p → s = p.1 ∧ t = p.2) ∧ (ok = false → s = 0 ∧ t = 0)) := ⟨H2, Z2⟩
  clear b2 H2 Z2
  go_wp2_with fail
  exact bodyPost_ret (v := .tuple #[.agg #[.float .f64 s, .float .f64 t], .int .i64 (errI ok)]) (by simp [results, Try.results51, go_sem, n0, n1]) rfl ⟨s, t, rfl, by repeat (first | exact Below.refl _ _ | assumption | refine Below.drew ?_ | refine below_drewN ?_ _ | refine Below.setCell ?_ (by first | (simp; done) | (simp; omega) | omega) _ | refine Below.alloc ?_ (by first | (simp; done) | (simp; omega) | omega) _), HH.out.1, HH.out.2⟩
end Go.Proofs.Ytckpfohfbfmmnaa

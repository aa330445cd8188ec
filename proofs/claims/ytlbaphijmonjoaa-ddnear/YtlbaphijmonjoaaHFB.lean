/- Pairs: what a step makes of two that are right. Add, Sub, Mul, Div as they are called. The document's sums, differences, products and quotients of pairs (Two); are two pairs the same? The document's differences and quotients of pairs (Two); Div. The walks of eft's lists: growBy, Sum, Scale, Sign. Lists of floats that may be added: wrong, slices.IndexFunc, slices.ContainsFunc, slices.Grow of nil. slices.Concat of two lists of floats; check. gathered by sums; dd.Sum; dd.Of. The first question of eft's statements, and the statement EftSteps. The first question of dd's statements. -/
import Derived.Test.YtlbaphijmonjoaaHFA
import Derived.Lib.AppendZerosOnto
import Derived.Lib.Walk
import Derived.Deep.RegionWith
namespace Go.Proofs.Ytlbaphijmonjoaa.Fp

section

open Go.RowKit EP
attribute [local go_sem] ran_store


theorem below_alloc1' (w : World) (o : Obj) : Below w.heap.size w (w.alloc o) := (Below.refl _ _).alloc (Nat.le_refl _) o

set_option maxRecDepth 100000 in
set_option maxHeartbeats 2000000 in
theorem right_one (b h l : Nat) (w : World) (hh : h < 18446744073709551616) (c0 : w.cell? ⟨b, 0, none⟩ = some (.float .f64 h)) (c1 : w.cell? ⟨b, 1, none⟩ = some (.float .f64 l)) :
    Calls Try.prog 47 #[.slice (some ⟨b, 0, none⟩) 1 1] w fun e w' => e = .returned (.bool (rightP h l)) ∧ Below w.heap.size w w' := by
  have HA : Hid _ := fun w => dRight_calls h l w hh
  clear hh
  go_enter Try.func47, Try.ntmps47
  go_wp2_with fail
  go_loopw [7] (fun i wr => (i = .int .i64 0 ∧ wr = w) ∨ (i = .int .i64 1 ∧ rightP h l = true ∧ Below w.heap.size w wr)) (fun i _ => 1 - (intOf i).toNat)
  case atStart => exact .inl ⟨rfl, rfl⟩
  case round =>
    rcases hrel with ⟨rfl, rfl⟩ | ⟨rfl, hr, hb⟩
    · go_wp2_with fail
      refine Calls.mono (HA.out _) ?_
      rintro e w1 ⟨rfl, b1⟩
      have b2 : Below wr.heap.size wr w1 := ebelow_trans (below_alloc1' _ _) b1
      cases hq : rightP h l with
      | false =>
        go_wp2_with fail
        go_ret
        rw [hq]
        exact ⟨rfl, b2⟩
      | true =>
        go_wp2_with fail
        go_round
        case rel => exact .inr ⟨rfl, hq, b2⟩
        case measure => simp [intOf]
    · have HR : Hid (rightP h l = true) := hr
      clear hr
      go_wp2_with fail
      go_ret
      rw [HR.out]
      exact ⟨rfl, hb⟩

/-- What two pairs that are right come to; else two noughts and ErrRange. -/
def errI (ok : Bool) : Int := if ok then 0 else 2
def AnsP (w : World) (ok : Bool) (o : Option (Nat × Nat)) (e : Ending) (w' : World) : Prop :=
  ∃ s t, e = .returned (.tuple #[.agg #[.float .f64 s, .float .f64 t], .int .i64 (errI ok)]) ∧ Below w.heap.size w w' ∧ (ok = true → ∀ p, o = some p → s = p.1 ∧ t = p.2) ∧ (ok = false → s = 0 ∧ t = 0)

set_option maxRecDepth 100000 in
set_option maxHeartbeats 4000000 in
theorem done_sum (b xh xl yh yl : Nat) (w : World) (hx : xh < 18446744073709551616) (hy : yh < 18446744073709551616) (c0 : w.cell? ⟨b, 0, none⟩ = some (.float .f64 xh)) (c1 : w.cell? ⟨b, 1, none⟩ = some (.float .f64 xl)) :
    Calls Try.prog 25 #[.func (.func 26) #[.agg #[.float .f64 xh, .float .f64 xl]] #[], .agg #[.float .f64 yh, .float .f64 yl], .slice (some ⟨b, 0, none⟩) 1 1] w (AnsP w (rightP yh yl && rightP xh xl) (sumP xh xl yh yl)) := by
  have HA : Hid _ := fun w => dRight_calls yh yl w hy
  have HB : Hid (∀ w', Below w.heap.size w w' → Calls Try.prog 47 #[.slice (some ⟨b, 0, none⟩) 1 1] w' fun e w'' => e = .returned (.bool (rightP xh xl)) ∧ Below w'.heap.size w' w'') := fun w' hb => right_one b xh xl w' hx (pcarry hb c0) (pcarry hb c1)
  clear hx hy c0 c1
  generalize rightP yh yl = q1 at *
  generalize rightP xh xl = q2 at *
  go_enter Try.func25, Try.ntmps25
  go_wp2_with fail
  refine Calls.mono (HA.out _) ?_
  rintro e w1 ⟨rfl, b1⟩
  have m100 : w1.cell? ⟨w.heap.size, 0, none⟩ = some (.float .f64 yh) := pcarry b1 (by first | exact m000 | go_simp)
  have k100 : w1.frozen? ⟨w.heap.size, 0, none⟩ = false := pcarryF (v := .float .f64 yh) b1 (by first | exact m000 | go_simp) (by first | exact k000 | go_simp)
  have m101 : w1.cell? ⟨w.heap.size, 1, none⟩ = some (.float .f64 yl) := pcarry b1 (by first | exact m001 | go_simp)
  have k101 : w1.frozen? ⟨w.heap.size, 1, none⟩ = false := pcarryF (v := .float .f64 yl) b1 (by first | exact m001 | go_simp) (by first | exact k001 | go_simp)
  have m110 : w1.cell? ⟨w.heap.size + 1, 0, none⟩ = some (.float .f64 0) := pcarry b1 (by first | exact m010 | go_simp)
  have k110 : w1.frozen? ⟨w.heap.size + 1, 0, none⟩ = false := pcarryF (v := .float .f64 0) b1 (by first | exact m010 | go_simp) (by first | exact k010 | go_simp)
  have m111 : w1.cell? ⟨w.heap.size + 1, 1, none⟩ = some (.float .f64 0) := pcarry b1 (by first | exact m011 | go_simp)
  have k111 : w1.frozen? ⟨w.heap.size + 1, 1, none⟩ = false := pcarryF (v := .float .f64 0) b1 (by first | exact m011 | go_simp) (by first | exact k011 | go_simp)
  have bw1 : Below w.heap.size w w1 := Below.trans (by repeat (first | exact Below.refl _ _ | assumption | refine below_drewN ?_ _ | refine Below.setCell ?_ (by first | (simp; done) | (simp; omega) | omega) _ | refine Below.alloc ?_ (by first | (simp; done) | (simp; omega) | omega) _)) (b1.mono (by first | (simp; done) | (simp; omega) | omega))
  have bs1 := bw1.size
  clear b1
  cases q1 with
  | false =>
    go_wp2_with fail
    refine bodyPost_ret (v := .tuple #[.agg #[.float .f64 0, .float .f64 0], .int .i64 2]) (by simp [results, Try.results25, go_sem, m110, m111]) rfl ⟨0, 0, rfl, by repeat (first | exact Below.refl _ _ | assumption | refine below_drewN ?_ _ | refine Below.setCell ?_ (by first | (simp; done) | (simp; omega) | omega) _ | refine Below.alloc ?_ (by first | (simp; done) | (simp; omega) | omega) _), (fun h => by cases h), (fun _ => ⟨rfl, rfl⟩)⟩
  | true =>
  go_wp2_with fail
  refine Calls.mono (HB.out _ bw1) ?_
  rintro e w2 ⟨rfl, b2⟩
  have m200 : w2.cell? ⟨w.heap.size, 0, none⟩ = some (.float .f64 yh) := pcarry b2 (by first | exact m100 | go_simp)
  have k200 : w2.frozen? ⟨w.heap.size, 0, none⟩ = false := pcarryF (v := .float .f64 yh) b2 (by first | exact m100 | go_simp) (by first | exact k100 | go_simp)
  have m201 : w2.cell? ⟨w.heap.size, 1, none⟩ = some (.float .f64 yl) := pcarry b2 (by first | exact m101 | go_simp)
  have k201 : w2.frozen? ⟨w.heap.size, 1, none⟩ = false := pcarryF (v := .float .f64 yl) b2 (by first | exact m101 | go_simp) (by first | exact k101 | go_simp)
  have m210 : w2.cell? ⟨w.heap.size + 1, 0, none⟩ = some (.float .f64 0) := pcarry b2 (by first | exact m110 | go_simp)
  have k210 : w2.frozen? ⟨w.heap.size + 1, 0, none⟩ = false := pcarryF (v := .float .f64 0) b2 (by first | exact m110 | go_simp) (by first | exact k110 | go_simp)
  have m211 : w2.cell? ⟨w.heap.size + 1, 1, none⟩ = some (.float .f64 0) := pcarry b2 (by first | exact m111 | go_simp)
  have k211 : w2.frozen? ⟨w.heap.size + 1, 1, none⟩ = false := pcarryF (v := .float .f64 0) b2 (by first | exact m111 | go_simp) (by first | exact k111 | go_simp)
  have bw2 : Below w.heap.size w w2 := bw1.trans (b2.mono bs1)
  have bs2 := bw2.size
  clear m100 k100 m101 k101 m110 k110 m111 k111
  clear b2
  cases q2 with
  | false =>
    go_wp2_with fail
    refine bodyPost_ret (v := .tuple #[.agg #[.float .f64 0, .float .f64 0], .int .i64 2]) (by simp [results, Try.results25, go_sem, m210, m211]) rfl ⟨0, 0, rfl, by repeat (first | exact Below.refl _ _ | assumption | refine below_drewN ?_ _ | refine Below.setCell ?_ (by first | (simp; done) | (simp; omega) | omega) _ | refine Below.alloc ?_ (by first | (simp; done) | (simp; omega) | omega) _), (fun h => by cases h), (fun _ => ⟨rfl, rfl⟩)⟩
  | true =>
  go_wp2_with fail
  refine Calls.mono (dsum_calls xh xl yh yl _) ?_
  rintro e w3 ⟨s, t, rfl, b3, H3⟩
  have m300 : w3.cell? ⟨w.heap.size, 0, none⟩ = some (.float .f64 yh) := pcarry b3 (by first | exact m200 | go_simp)
  have k300 : w3.frozen? ⟨w.heap.size, 0, none⟩ = false := pcarryF (v := .float .f64 yh) b3 (by first | exact m200 | go_simp) (by first | exact k200 | go_simp)
  have m301 : w3.cell? ⟨w.heap.size, 1, none⟩ = some (.float .f64 yl) := pcarry b3 (by first | exact m201 | go_simp)
  have k301 : w3.frozen? ⟨w.heap.size, 1, none⟩ = false := pcarryF (v := .float .f64 yl) b3 (by first | exact m201 | go_simp) (by first | exact k201 | go_simp)
  have m310 : w3.cell? ⟨w.heap.size + 1, 0, none⟩ = some (.float .f64 0) := pcarry b3 (by first | exact m210 | go_simp)
  have k310 : w3.frozen? ⟨w.heap.size + 1, 0, none⟩ = false := pcarryF (v := .float .f64 0) b3 (by first | exact m210 | go_simp) (by first | exact k210 | go_simp)
  have m311 : w3.cell? ⟨w.heap.size + 1, 1, none⟩ = some (.float .f64 0) := pcarry b3 (by first | exact m211 | go_simp)
  have k311 : w3.frozen? ⟨w.heap.size + 1, 1, none⟩ = false := pcarryF (v := .float .f64 0) b3 (by first | exact m211 | go_simp) (by first | exact k211 | go_simp)
  have bw3 : Below w.heap.size w w3 := bw2.trans (b3.mono bs2)
  have bs3 := bw3.size
  clear m200 k200 m201 k201 m210 k210 m211 k211
  clear b3
  have H3' : Hid (∀ p, sumP xh xl yh yl = some p → s = p.1 ∧ t = p.2) := H3
  clear H3
  go_wp2_with fail
  refine bodyPost_ret (v := .tuple #[.agg #[.float .f64 s, .float .f64 t], .int .i64 0]) (by simp [results, Try.results25, go_sem, m310, m311]) rfl ⟨s, t, rfl, by repeat (first | exact Below.refl _ _ | assumption | refine below_drewN ?_ _ | refine Below.setCell ?_ (by first | (simp; done) | (simp; omega) | omega) _ | refine Below.alloc ?_ (by first | (simp; done) | (simp; omega) | omega) _), (fun _ => H3'.out), (fun h => by cases h)⟩

set_option maxRecDepth 100000 in
set_option maxHeartbeats 4000000 in
theorem done_difference (b xh xl yh yl : Nat) (w : World) (hx : xh < 18446744073709551616) (hy : yh < 18446744073709551616) (c0 : w.cell? ⟨b, 0, none⟩ = some (.float .f64 xh)) (c1 : w.cell? ⟨b, 1, none⟩ = some (.float .f64 xl)) :
    Calls Try.prog 25 #[.func (.func 27) #[.agg #[.float .f64 xh, .float .f64 xl]] #[], .agg #[.float .f64 yh, .float .f64 yl], .slice (some ⟨b, 0, none⟩) 1 1] w (AnsP w (rightP yh yl && rightP xh xl) (diffP xh xl yh yl)) := by
  have HA : Hid _ := fun w => dRight_calls yh yl w hy
  have HB : Hid (∀ w', Below w.heap.size w w' → Calls Try.prog 47 #[.slice (some ⟨b, 0, none⟩) 1 1] w' fun e w'' => e = .returned (.bool (rightP xh xl)) ∧ Below w'.heap.size w' w'') := fun w' hb => right_one b xh xl w' hx (pcarry hb c0) (pcarry hb c1)
  clear hx hy c0 c1
  generalize rightP yh yl = q1 at *
  generalize rightP xh xl = q2 at *
  go_enter Try.func25, Try.ntmps25
  go_wp2_with fail
  refine Calls.mono (HA.out _) ?_
  rintro e w1 ⟨rfl, b1⟩
  have m100 : w1.cell? ⟨w.heap.size, 0, none⟩ = some (.float .f64 yh) := pcarry b1 (by first | exact m000 | go_simp)
  have k100 : w1.frozen? ⟨w.heap.size, 0, none⟩ = false := pcarryF (v := .float .f64 yh) b1 (by first | exact m000 | go_simp) (by first | exact k000 | go_simp)
  have m101 : w1.cell? ⟨w.heap.size, 1, none⟩ = some (.float .f64 yl) := pcarry b1 (by first | exact m001 | go_simp)
  have k101 : w1.frozen? ⟨w.heap.size, 1, none⟩ = false := pcarryF (v := .float .f64 yl) b1 (by first | exact m001 | go_simp) (by first | exact k001 | go_simp)
  have m110 : w1.cell? ⟨w.heap.size + 1, 0, none⟩ = some (.float .f64 0) := pcarry b1 (by first | exact m010 | go_simp)
  have k110 : w1.frozen? ⟨w.heap.size + 1, 0, none⟩ = false := pcarryF (v := .float .f64 0) b1 (by first | exact m010 | go_simp) (by first | exact k010 | go_simp)
  have m111 : w1.cell? ⟨w.heap.size + 1, 1, none⟩ = some (.float .f64 0) := pcarry b1 (by first | exact m011 | go_simp)
  have k111 : w1.frozen? ⟨w.heap.size + 1, 1, none⟩ = false := pcarryF (v := .float .f64 0) b1 (by first | exact m011 | go_simp) (by first | exact k011 | go_simp)
  have bw1 : Below w.heap.size w w1 := Below.trans (by repeat (first | exact Below.refl _ _ | assumption | refine below_drewN ?_ _ | refine Below.setCell ?_ (by first | (simp; done) | (simp; omega) | omega) _ | refine Below.alloc ?_ (by first | (simp; done) | (simp; omega) | omega) _)) (b1.mono (by first | (simp; done) | (simp; omega) | omega))
  have bs1 := bw1.size
  clear b1
  cases q1 with
  | false =>
    go_wp2_with fail
    refine bodyPost_ret (v := .tuple #[.agg #[.float .f64 0, .float .f64 0], .int .i64 2]) (by simp [results, Try.results25, go_sem, m110, m111]) rfl ⟨0, 0, rfl, by repeat (first | exact Below.refl _ _ | assumption | refine below_drewN ?_ _ | refine Below.setCell ?_ (by first | (simp; done) | (simp; omega) | omega) _ | refine Below.alloc ?_ (by first | (simp; done) | (simp; omega) | omega) _), (fun h => by cases h), (fun _ => ⟨rfl, rfl⟩)⟩
  | true =>
  go_wp2_with fail
  refine Calls.mono (HB.out _ bw1) ?_
  rintro e w2 ⟨rfl, b2⟩
  have m200 : w2.cell? ⟨w.heap.size, 0, none⟩ = some (.float .f64 yh) := pcarry b2 (by first | exact m100 | go_simp)
  have k200 : w2.frozen? ⟨w.heap.size, 0, none⟩ = false := pcarryF (v := .float .f64 yh) b2 (by first | exact m100 | go_simp) (by first | exact k100 | go_simp)
  have m201 : w2.cell? ⟨w.heap.size, 1, none⟩ = some (.float .f64 yl) := pcarry b2 (by first | exact m101 | go_simp)
  have k201 : w2.frozen? ⟨w.heap.size, 1, none⟩ = false := pcarryF (v := .float .f64 yl) b2 (by first | exact m101 | go_simp) (by first | exact k101 | go_simp)
  have m210 : w2.cell? ⟨w.heap.size + 1, 0, none⟩ = some (.float .f64 0) := pcarry b2 (by first | exact m110 | go_simp)
  have k210 : w2.frozen? ⟨w.heap.size + 1, 0, none⟩ = false := pcarryF (v := .float .f64 0) b2 (by first | exact m110 | go_simp) (by first | exact k110 | go_simp)
  have m211 : w2.cell? ⟨w.heap.size + 1, 1, none⟩ = some (.float .f64 0) := pcarry b2 (by first | exact m111 | go_simp)
  have k211 : w2.frozen? ⟨w.heap.size + 1, 1, none⟩ = false := pcarryF (v := .float .f64 0) b2 (by first | exact m111 | go_simp) (by first | exact k111 | go_simp)
  have bw2 : Below w.heap.size w w2 := bw1.trans (b2.mono bs1)
  have bs2 := bw2.size
  clear m100 k100 m101 k101 m110 k110 m111 k111
  clear b2
  cases q2 with
  | false =>
    go_wp2_with fail
    refine bodyPost_ret (v := .tuple #[.agg #[.float .f64 0, .float .f64 0], .int .i64 2]) (by simp [results, Try.results25, go_sem, m210, m211]) rfl ⟨0, 0, rfl, by repeat (first | exact Below.refl _ _ | assumption | refine below_drewN ?_ _ | refine Below.setCell ?_ (by first | (simp; done) | (simp; omega) | omega) _ | refine Below.alloc ?_ (by first | (simp; done) | (simp; omega) | omega) _), (fun h => by cases h), (fun _ => ⟨rfl, rfl⟩)⟩
  | true =>
  go_wp2_with fail
  refine Calls.mono (ddiff_calls xh xl yh yl _) ?_
  rintro e w3 ⟨s, t, rfl, b3, H3⟩
  have m300 : w3.cell? ⟨w.heap.size, 0, none⟩ = some (.float .f64 yh) := pcarry b3 (by first | exact m200 | go_simp)
  have k300 : w3.frozen? ⟨w.heap.size, 0, none⟩ = false := pcarryF (v := .float .f64 yh) b3 (by first | exact m200 | go_simp) (by first | exact k200 | go_simp)
  have m301 : w3.cell? ⟨w.heap.size, 1, none⟩ = some (.float .f64 yl) := pcarry b3 (by first | exact m201 | go_simp)
  have k301 : w3.frozen? ⟨w.heap.size, 1, none⟩ = false := pcarryF (v := .float .f64 yl) b3 (by first | exact m201 | go_simp) (by first | exact k201 | go_simp)
  have m310 : w3.cell? ⟨w.heap.size + 1, 0, none⟩ = some (.float .f64 0) := pcarry b3 (by first | exact m210 | go_simp)
  have k310 : w3.frozen? ⟨w.heap.size + 1, 0, none⟩ = false := pcarryF (v := .float .f64 0) b3 (by first | exact m210 | go_simp) (by first | exact k210 | go_simp)
  have m311 : w3.cell? ⟨w.heap.size + 1, 1, none⟩ = some (.float .f64 0) := pcarry b3 (by first | exact m211 | go_simp)
  have k311 : w3.frozen? ⟨w.heap.size + 1, 1, none⟩ = false := pcarryF (v := .float .f64 0) b3 (by first | exact m211 | go_simp) (by first | exact k211 | go_simp)
  have bw3 : Below w.heap.size w w3 := bw2.trans (b3.mono bs2)
  have bs3 := bw3.size
  clear m200 k200 m201 k201 m210 k210 m211 k211
  clear b3
  have H3' : Hid (∀ p, diffP xh xl yh yl = some p → s = p.1 ∧ t = p.2) := H3
  clear H3
  go_wp2_with fail
  refine bodyPost_ret (v := .tuple #[.agg #[.float .f64 s, .float .f64 t], .int .i64 0]) (by simp [results, Try.results25, go_sem, m310, m311]) rfl ⟨s, t, rfl, by repeat (first | exact Below.refl _ _ | assumption | refine below_drewN ?_ _ | refine Below.setCell ?_ (by first | (simp; done) | (simp; omega) | omega) _ | refine Below.alloc ?_ (by first | (simp; done) | (simp; omega) | omega) _), (fun _ => H3'.out), (fun h => by cases h)⟩

set_option maxRecDepth 100000 in
set_option maxHeartbeats 4000000 in
theorem done_product (b xh xl yh yl : Nat) (w : World) (hx : xh < 18446744073709551616) (hy : yh < 18446744073709551616) (c0 : w.cell? ⟨b, 0, none⟩ = some (.float .f64 xh)) (c1 : w.cell? ⟨b, 1, none⟩ = some (.float .f64 xl)) :
    Calls Try.prog 25 #[.func (.func 28) #[.agg #[.float .f64 xh, .float .f64 xl]] #[], .agg #[.float .f64 yh, .float .f64 yl], .slice (some ⟨b, 0, none⟩) 1 1] w (AnsP w (rightP yh yl && rightP xh xl) (prodP xh xl yh yl)) := by
  have HA : Hid _ := fun w => dRight_calls yh yl w hy
  have HB : Hid (∀ w', Below w.heap.size w w' → Calls Try.prog 47 #[.slice (some ⟨b, 0, none⟩) 1 1] w' fun e w'' => e = .returned (.bool (rightP xh xl)) ∧ Below w'.heap.size w' w'') := fun w' hb => right_one b xh xl w' hx (pcarry hb c0) (pcarry hb c1)
  clear hx hy c0 c1
  generalize rightP yh yl = q1 at *
  generalize rightP xh xl = q2 at *
  go_enter Try.func25, Try.ntmps25
  go_wp2_with fail
  refine Calls.mono (HA.out _) ?_
  rintro e w1 ⟨rfl, b1⟩
  have m100 : w1.cell? ⟨w.heap.size, 0, none⟩ = some (.float .f64 yh) := pcarry b1 (by first | exact m000 | go_simp)
  have k100 : w1.frozen? ⟨w.heap.size, 0, none⟩ = false := pcarryF (v := .float .f64 yh) b1 (by first | exact m000 | go_simp) (by first | exact k000 | go_simp)
  have m101 : w1.cell? ⟨w.heap.size, 1, none⟩ = some (.float .f64 yl) := pcarry b1 (by first | exact m001 | go_simp)
  have k101 : w1.frozen? ⟨w.heap.size, 1, none⟩ = false := pcarryF (v := .float .f64 yl) b1 (by first | exact m001 | go_simp) (by first | exact k001 | go_simp)
  have m110 : w1.cell? ⟨w.heap.size + 1, 0, none⟩ = some (.float .f64 0) := pcarry b1 (by first | exact m010 | go_simp)
  have k110 : w1.frozen? ⟨w.heap.size + 1, 0, none⟩ = false := pcarryF (v := .float .f64 0) b1 (by first | exact m010 | go_simp) (by first | exact k010 | go_simp)
  have m111 : w1.cell? ⟨w.heap.size + 1, 1, none⟩ = some (.float .f64 0) := pcarry b1 (by first | exact m011 | go_simp)
  have k111 : w1.frozen? ⟨w.heap.size + 1, 1, none⟩ = false := pcarryF (v := .float .f64 0) b1 (by first | exact m011 | go_simp) (by first | exact k011 | go_simp)
  have bw1 : Below w.heap.size w w1 := Below.trans (by repeat (first | exact Below.refl _ _ | assumption | refine below_drewN ?_ _ | refine Below.setCell ?_ (by first | (simp; done) | (simp; omega) | omega) _ | refine Below.alloc ?_ (by first | (simp; done) | (simp; omega) | omega) _)) (b1.mono (by first | (simp; done) | (simp; omega) | omega))
  have bs1 := bw1.size
  clear b1
  cases q1 with
  | false =>
    go_wp2_with fail
    refine bodyPost_ret (v := .tuple #[.agg #[.float .f64 0, .float .f64 0], .int .i64 2]) (by simp [results, Try.results25, go_sem, m110, m111]) rfl ⟨0, 0, rfl, by repeat (first | exact Below.refl _ _ | assumption | refine below_drewN ?_ _ | refine Below.setCell ?_ (by first | (simp; done) | (simp; omega) | omega) _ | refine Below.alloc ?_ (by first | (simp; done) | (simp; omega) | omega) _), (fun h => by cases h), (fun _ => ⟨rfl, rfl⟩)⟩
  | true =>
  go_wp2_with fail
  refine Calls.mono (HB.out _ bw1) ?_
  rintro e w2 ⟨rfl, b2⟩
  have m200 : w2.cell? ⟨w.heap.size, 0, none⟩ = some (.float .f64 yh) := pcarry b2 (by first | exact m100 | go_simp)
  have k200 : w2.frozen? ⟨w.heap.size, 0, none⟩ = false := pcarryF (v := .float .f64 yh) b2 (by first | exact m100 | go_simp) (by first | exact k100 | go_simp)
  have m201 : w2.cell? ⟨w.heap.size, 1, none⟩ = some (.float .f64 yl) := pcarry b2 (by first | exact m101 | go_simp)
  have k201 : w2.frozen? ⟨w.heap.size, 1, none⟩ = false := pcarryF (v := .float .f64 yl) b2 (by first | exact m101 | go_simp) (by first | exact k101 | go_simp)
  have m210 : w2.cell? ⟨w.heap.size + 1, 0, none⟩ = some (.float .f64 0) := pcarry b2 (by first | exact m110 | go_simp)
  have k210 : w2.frozen? ⟨w.heap.size + 1, 0, none⟩ = false := pcarryF (v := .float .f64 0) b2 (by first | exact m110 | go_simp) (by first | exact k110 | go_simp)
  have m211 : w2.cell? ⟨w.heap.size + 1, 1, none⟩ = some (.float .f64 0) := pcarry b2 (by first | exact m111 | go_simp)
  have k211 : w2.frozen? ⟨w.heap.size + 1, 1, none⟩ = false := pcarryF (v := .float .f64 0) b2 (by first | exact m111 | go_simp) (by first | exact k111 | go_simp)
  have bw2 : Below w.heap.size w w2 := bw1.trans (b2.mono bs1)
  have bs2 := bw2.size
  clear m100 k100 m101 k101 m110 k110 m111 k111
  clear b2
  cases q2 with
  | false =>
    go_wp2_with fail
    refine bodyPost_ret (v := .tuple #[.agg #[.float .f64 0, .float .f64 0], .int .i64 2]) (by simp [results, Try.results25, go_sem, m210, m211]) rfl ⟨0, 0, rfl, by repeat (first | exact Below.refl _ _ | assumption | refine below_drewN ?_ _ | refine Below.setCell ?_ (by first | (simp; done) | (simp; omega) | omega) _ | refine Below.alloc ?_ (by first | (simp; done) | (simp; omega) | omega) _), (fun h => by cases h), (fun _ => ⟨rfl, rfl⟩)⟩
  | true =>
  go_wp2_with fail
  refine Calls.mono (dprod_calls xh xl yh yl _) ?_
  rintro e w3 ⟨s, t, rfl, b3, H3⟩
  have m300 : w3.cell? ⟨w.heap.size, 0, none⟩ = some (.float .f64 yh) := pcarry b3 (by first | exact m200 | go_simp)
  have k300 : w3.frozen? ⟨w.heap.size, 0, none⟩ = false := pcarryF (v := .float .f64 yh) b3 (by first | exact m200 | go_simp) (by first | exact k200 | go_simp)
  have m301 : w3.cell? ⟨w.heap.size, 1, none⟩ = some (.float .f64 yl) := pcarry b3 (by first | exact m201 | go_simp)
  have k301 : w3.frozen? ⟨w.heap.size, 1, none⟩ = false := pcarryF (v := .float .f64 yl) b3 (by first | exact m201 | go_simp) (by first | exact k201 | go_simp)
  have m310 : w3.cell? ⟨w.heap.size + 1, 0, none⟩ = some (.float .f64 0) := pcarry b3 (by first | exact m210 | go_simp)
  have k310 : w3.frozen? ⟨w.heap.size + 1, 0, none⟩ = false := pcarryF (v := .float .f64 0) b3 (by first | exact m210 | go_simp) (by first | exact k210 | go_simp)
  have m311 : w3.cell? ⟨w.heap.size + 1, 1, none⟩ = some (.float .f64 0) := pcarry b3 (by first | exact m211 | go_simp)
  have k311 : w3.frozen? ⟨w.heap.size + 1, 1, none⟩ = false := pcarryF (v := .float .f64 0) b3 (by first | exact m211 | go_simp) (by first | exact k211 | go_simp)
  have bw3 : Below w.heap.size w w3 := bw2.trans (b3.mono bs2)
  have bs3 := bw3.size
  clear m200 k200 m201 k201 m210 k210 m211 k211
  clear b3
  have H3' : Hid (∀ p, prodP xh xl yh yl = some p → s = p.1 ∧ t = p.2) := H3
  clear H3
  go_wp2_with fail
  refine bodyPost_ret (v := .tuple #[.agg #[.float .f64 s, .float .f64 t], .int .i64 0]) (by simp [results, Try.results25, go_sem, m310, m311]) rfl ⟨s, t, rfl, by repeat (first | exact Below.refl _ _ | assumption | refine below_drewN ?_ _ | refine Below.setCell ?_ (by first | (simp; done) | (simp; omega) | omega) _ | refine Below.alloc ?_ (by first | (simp; done) | (simp; omega) | omega) _), (fun _ => H3'.out), (fun h => by cases h)⟩

set_option maxRecDepth 100000 in
set_option maxHeartbeats 4000000 in
theorem done_quotient (b xh xl yh yl : Nat) (w : World) (hx : xh < 18446744073709551616) (hy : yh < 18446744073709551616) (c0 : w.cell? ⟨b, 0, none⟩ = some (.float .f64 xh)) (c1 : w.cell? ⟨b, 1, none⟩ = some (.float .f64 xl)) :
    Calls Try.prog 25 #[.func (.func 39) #[.agg #[.float .f64 xh, .float .f64 xl]] #[], .agg #[.float .f64 yh, .float .f64 yl], .slice (some ⟨b, 0, none⟩) 1 1] w (AnsP w (rightP yh yl && rightP xh xl) (quoP xh xl yh yl)) := by
  have HA : Hid _ := fun w => dRight_calls yh yl w hy
  have HB : Hid (∀ w', Below w.heap.size w w' → Calls Try.prog 47 #[.slice (some ⟨b, 0, none⟩) 1 1] w' fun e w'' => e = .returned (.bool (rightP xh xl)) ∧ Below w'.heap.size w' w'') := fun w' hb => right_one b xh xl w' hx (pcarry hb c0) (pcarry hb c1)
  clear hx hy c0 c1
  generalize rightP yh yl = q1 at *
  generalize rightP xh xl = q2 at *
  go_enter Try.func25, Try.ntmps25
  go_wp2_with fail
  refine Calls.mono (HA.out _) ?_
  rintro e w1 ⟨rfl, b1⟩
  have m100 : w1.cell? ⟨w.heap.size, 0, none⟩ = some (.float .f64 yh) := pcarry b1 (by first | exact m000 | go_simp)
  have k100 : w1.frozen? ⟨w.heap.size, 0, none⟩ = false := pcarryF (v := .float .f64 yh) b1 (by first | exact m000 | go_simp) (by first | exact k000 | go_simp)
  have m101 : w1.cell? ⟨w.heap.size, 1, none⟩ = some (.float .f64 yl) := pcarry b1 (by first | exact m001 | go_simp)
  have k101 : w1.frozen? ⟨w.heap.size, 1, none⟩ = false := pcarryF (v := .float .f64 yl) b1 (by first | exact m001 | go_simp) (by first | exact k001 | go_simp)
  have m110 : w1.cell? ⟨w.heap.size + 1, 0, none⟩ = some (.float .f64 0) := pcarry b1 (by first | exact m010 | go_simp)
  have k110 : w1.frozen? ⟨w.heap.size + 1, 0, none⟩ = false := pcarryF (v := .float .f64 0) b1 (by first | exact m010 | go_simp) (by first | exact k010 | go_simp)
  have m111 : w1.cell? ⟨w.heap.size + 1, 1, none⟩ = some (.float .f64 0) := pcarry b1 (by first | exact m011 | go_simp)
  have k111 : w1.frozen? ⟨w.heap.size + 1, 1, none⟩ = false := pcarryF (v := .float .f64 0) b1 (by first | exact m011 | go_simp) (by first | exact k011 | go_simp)
  have bw1 : Below w.heap.size w w1 := Below.trans (by repeat (first | exact Below.refl _ _ | assumption | refine below_drewN ?_ _ | refine Below.setCell ?_ (by first | (simp; done) | (simp; omega) | omega) _ | refine Below.alloc ?_ (by first | (simp; done) | (simp; omega) | omega) _)) (b1.mono (by first | (simp; done) | (simp; omega) | omega))
  have bs1 := bw1.size
  clear b1
  cases q1 with
  | false =>
    go_wp2_with fail
    refine bodyPost_ret (v := .tuple #[.agg #[.float .f64 0, .float .f64 0], .int .i64 2]) (by simp [results, Try.results25, go_sem, m110, m111]) rfl ⟨0, 0, rfl, by repeat (first | exact Below.refl _ _ | assumption | refine below_drewN ?_ _ | refine Below.setCell ?_ (by first | (simp; done) | (simp; omega) | omega) _ | refine Below.alloc ?_ (by first | (simp; done) | (simp; omega) | omega) _), (fun h => by cases h), (fun _ => ⟨rfl, rfl⟩)⟩
  | true =>
  go_wp2_with fail
  refine Calls.mono (HB.out _ bw1) ?_
  rintro e w2 ⟨rfl, b2⟩
  have m200 : w2.cell? ⟨w.heap.size, 0, none⟩ = some (.float .f64 yh) := pcarry b2 (by first | exact m100 | go_simp)
  have k200 : w2.frozen? ⟨w.heap.size, 0, none⟩ = false := pcarryF (v := .float .f64 yh) b2 (by first | exact m100 | go_simp) (by first | exact k100 | go_simp)
  have m201 : w2.cell? ⟨w.heap.size, 1, none⟩ = some (.float .f64 yl) := pcarry b2 (by first | exact m101 | go_simp)
  have k201 : w2.frozen? ⟨w.heap.size, 1, none⟩ = false := pcarryF (v := .float .f64 yl) b2 (by first | exact m101 | go_simp) (by first | exact k101 | go_simp)
  have m210 : w2.cell? ⟨w.heap.size + 1, 0, none⟩ = some (.float .f64 0) := pcarry b2 (by first | exact m110 | go_simp)
  have k210 : w2.frozen? ⟨w.heap.size + 1, 0, none⟩ = false := pcarryF (v := .float .f64 0) b2 (by first | exact m110 | go_simp) (by first | exact k110 | go_simp)
  have m211 : w2.cell? ⟨w.heap.size + 1, 1, none⟩ = some (.float .f64 0) := pcarry b2 (by first | exact m111 | go_simp)
  have k211 : w2.frozen? ⟨w.heap.size + 1, 1, none⟩ = false := pcarryF (v := .float .f64 0) b2 (by first | exact m111 | go_simp) (by first | exact k111 | go_simp)
  have bw2 : Below w.heap.size w w2 := bw1.trans (b2.mono bs1)
  have bs2 := bw2.size
  clear m100 k100 m101 k101 m110 k110 m111 k111
  clear b2
  cases q2 with
  | false =>
    go_wp2_with fail
    refine bodyPost_ret (v := .tuple #[.agg #[.float .f64 0, .float .f64 0], .int .i64 2]) (by simp [results, Try.results25, go_sem, m210, m211]) rfl ⟨0, 0, rfl, by repeat (first | exact Below.refl _ _ | assumption | refine below_drewN ?_ _ | refine Below.setCell ?_ (by first | (simp; done) | (simp; omega) | omega) _ | refine Below.alloc ?_ (by first | (simp; done) | (simp; omega) | omega) _), (fun h => by cases h), (fun _ => ⟨rfl, rfl⟩)⟩
  | true =>
  go_wp2_with fail
  refine Calls.mono (dquo_calls xh xl yh yl _) ?_
  rintro e w3 ⟨s, t, rfl, b3, H3⟩
  have m300 : w3.cell? ⟨w.heap.size, 0, none⟩ = some (.float .f64 yh) := pcarry b3 (by first | exact m200 | go_simp)
  have k300 : w3.frozen? ⟨w.heap.size, 0, none⟩ = false := pcarryF (v := .float .f64 yh) b3 (by first | exact m200 | go_simp) (by first | exact k200 | go_simp)
  have m301 : w3.cell? ⟨w.heap.size, 1, none⟩ = some (.float .f64 yl) := pcarry b3 (by first | exact m201 | go_simp)
  have k301 : w3.frozen? ⟨w.heap.size, 1, none⟩ = false := pcarryF (v := .float .f64 yl) b3 (by first | exact m201 | go_simp) (by first | exact k201 | go_simp)
  have m310 : w3.cell? ⟨w.heap.size + 1, 0, none⟩ = some (.float .f64 0) := pcarry b3 (by first | exact m210 | go_simp)
  have k310 : w3.frozen? ⟨w.heap.size + 1, 0, none⟩ = false := pcarryF (v := .float .f64 0) b3 (by first | exact m210 | go_simp) (by first | exact k210 | go_simp)
  have m311 : w3.cell? ⟨w.heap.size + 1, 1, none⟩ = some (.float .f64 0) := pcarry b3 (by first | exact m211 | go_simp)
  have k311 : w3.frozen? ⟨w.heap.size + 1, 1, none⟩ = false := pcarryF (v := .float .f64 0) b3 (by first | exact m211 | go_simp) (by first | exact k211 | go_simp)
  have bw3 : Below w.heap.size w w3 := bw2.trans (b3.mono bs2)
  have bs3 := bw3.size
  clear m200 k200 m201 k201 m210 k210 m211 k211
  clear b3
  have H3' : Hid (∀ p, quoP xh xl yh yl = some p → s = p.1 ∧ t = p.2) := H3
  clear H3
  go_wp2_with fail
  refine bodyPost_ret (v := .tuple #[.agg #[.float .f64 s, .float .f64 t], .int .i64 0]) (by simp [results, Try.results25, go_sem, m310, m311]) rfl ⟨s, t, rfl, by repeat (first | exact Below.refl _ _ | assumption | refine below_drewN ?_ _ | refine Below.setCell ?_ (by first | (simp; done) | (simp; omega) | omega) _ | refine Below.alloc ?_ (by first | (simp; done) | (simp; omega) | omega) _), (fun _ => H3'.out), (fun h => by cases h)⟩

end

section

open Go.RowKit EP
attribute [local go_sem] ran_store


set_option maxRecDepth 100000 in
set_option maxHeartbeats 4000000 in
theorem dAdd_calls (xh xl yh yl : Nat) (w : World) (hx : xh < 18446744073709551616) (hy : yh < 18446744073709551616) :
    Calls Try.prog 8 #[.agg #[.float .f64 xh, .float .f64 xl], .agg #[.float .f64 yh, .float .f64 yl]] w (AnsP w (rightP yh yl && rightP xh xl) (sumP xh xl yh yl)) := by
  have HD : Hid _ := fun b w => done_sum b xh xl yh yl w hx hy
  clear hx hy
  generalize (rightP yh yl && rightP xh xl) = ok at *
  go_enter Try.func8, Try.ntmps8
  go_wp2_with fail
  refine Calls.mono (HD.out _ _ (by go_simp) (by go_simp)) ?_
  rintro e w1 ⟨s, t, rfl, b1, H1, Z1⟩
  have m0 : w1.cell? ⟨w.heap.size + 1 + 1, 0, none⟩ = some (.float .f64 0) := pcarry b1 (by first | exact r0 | go_simp)
  have m1 : w1.cell? ⟨w.heap.size + 1 + 1, 1, none⟩ = some (.float .f64 0) := pcarry b1 (by first | exact r1 | go_simp)
  have k0 : w1.frozen? ⟨w.heap.size + 1 + 1, 0, none⟩ = false := pcarryF (v := .float .f64 0) b1 (by first | exact r0 | go_simp) (by first | exact u0 | go_simp)
  have k1 : w1.frozen? ⟨w.heap.size + 1 + 1, 1, none⟩ = false := pcarryF (v := .float .f64 0) b1 (by first | exact r1 | go_simp) (by first | exact u1 | go_simp)
  have bw1 : Below w.heap.size w w1 := Below.trans (by repeat (first | exact Below.refl _ _ | assumption | refine below_drewN ?_ _ | refine Below.setCell ?_ (by first | (simp; done) | (simp; omega) | omega) _ | refine Below.alloc ?_ (by first | (simp; done) | (simp; omega) | omega) _)) (b1.mono (by first | (simp; done) | (simp; omega) | omega))
  have bs1 := bw1.size
  have HH : Hid ((ok = true → ∀ p, sumP xh xl yh yl = some p → s = p.1 ∧ t = p.2) ∧ (ok = false → s = 0 ∧ t = 0)) := ⟨H1, Z1⟩
  clear b1 H1 Z1
  go_wp2_with fail
  refine bodyPost_ret (v := .tuple #[.agg #[.float .f64 s, .float .f64 t], .int .i64 (errI ok)]) (by simp [results, Try.results8, go_sem, m0, m1]) rfl ⟨s, t, rfl, by repeat (first | exact Below.refl _ _ | assumption | refine below_drewN ?_ _ | refine Below.setCell ?_ (by first | (simp; done) | (simp; omega) | omega) _ | refine Below.alloc ?_ (by first | (simp; done) | (simp; omega) | omega) _), HH.out.1, HH.out.2⟩

set_option maxRecDepth 100000 in
set_option maxHeartbeats 4000000 in
theorem dSub_calls (xh xl yh yl : Nat) (w : World) (hx : xh < 18446744073709551616) (hy : yh < 18446744073709551616) :
    Calls Try.prog 9 #[.agg #[.float .f64 xh, .float .f64 xl], .agg #[.float .f64 yh, .float .f64 yl]] w (AnsP w (rightP yh yl && rightP xh xl) (diffP xh xl yh yl)) := by
  have HD : Hid _ := fun b w => done_difference b xh xl yh yl w hx hy
  clear hx hy
  generalize (rightP yh yl && rightP xh xl) = ok at *
  go_enter Try.func9, Try.ntmps9
  go_wp2_with fail
  refine Calls.mono (HD.out _ _ (by go_simp) (by go_simp)) ?_
  rintro e w1 ⟨s, t, rfl, b1, H1, Z1⟩
  have m0 : w1.cell? ⟨w.heap.size + 1 + 1, 0, none⟩ = some (.float .f64 0) := pcarry b1 (by first | exact r0 | go_simp)
  have m1 : w1.cell? ⟨w.heap.size + 1 + 1, 1, none⟩ = some (.float .f64 0) := pcarry b1 (by first | exact r1 | go_simp)
  have k0 : w1.frozen? ⟨w.heap.size + 1 + 1, 0, none⟩ = false := pcarryF (v := .float .f64 0) b1 (by first | exact r0 | go_simp) (by first | exact u0 | go_simp)
  have k1 : w1.frozen? ⟨w.heap.size + 1 + 1, 1, none⟩ = false := pcarryF (v := .float .f64 0) b1 (by first | exact r1 | go_simp) (by first | exact u1 | go_simp)
  have bw1 : Below w.heap.size w w1 := Below.trans (by repeat (first | exact Below.refl _ _ | assumption | refine below_drewN ?_ _ | refine Below.setCell ?_ (by first | (simp; done) | (simp; omega) | omega) _ | refine Below.alloc ?_ (by first | (simp; done) | (simp; omega) | omega) _)) (b1.mono (by first | (simp; done) | (simp; omega) | omega))
  have bs1 := bw1.size
  have HH : Hid ((ok = true → ∀ p, diffP xh xl yh yl = some p → s = p.1 ∧ t = p.2) ∧ (ok = false → s = 0 ∧ t = 0)) := ⟨H1, Z1⟩
  clear b1 H1 Z1
  go_wp2_with fail
  refine bodyPost_ret (v := .tuple #[.agg #[.float .f64 s, .float .f64 t], .int .i64 (errI ok)]) (by simp [results, Try.results9, go_sem, m0, m1]) rfl ⟨s, t, rfl, by repeat (first | exact Below.refl _ _ | assumption | refine below_drewN ?_ _ | refine Below.setCell ?_ (by first | (simp; done) | (simp; omega) | omega) _ | refine Below.alloc ?_ (by first | (simp; done) | (simp; omega) | omega) _), HH.out.1, HH.out.2⟩

set_option maxRecDepth 100000 in
set_option maxHeartbeats 4000000 in
theorem dMul_calls (xh xl yh yl : Nat) (w : World) (hx : xh < 18446744073709551616) (hy : yh < 18446744073709551616) :
    Calls Try.prog 10 #[.agg #[.float .f64 xh, .float .f64 xl], .agg #[.float .f64 yh, .float .f64 yl]] w (AnsP w (rightP yh yl && rightP xh xl) (prodP xh xl yh yl)) := by
  have HD : Hid _ := fun b w => done_product b xh xl yh yl w hx hy
  clear hx hy
  generalize (rightP yh yl && rightP xh xl) = ok at *
  go_enter Try.func10, Try.ntmps10
  go_wp2_with fail
  refine Calls.mono (HD.out _ _ (by go_simp) (by go_simp)) ?_
  rintro e w1 ⟨s, t, rfl, b1, H1, Z1⟩
  have m0 : w1.cell? ⟨w.heap.size + 1 + 1, 0, none⟩ = some (.float .f64 0) := pcarry b1 (by first | exact r0 | go_simp)
  have m1 : w1.cell? ⟨w.heap.size + 1 + 1, 1, none⟩ = some (.float .f64 0) := pcarry b1 (by first | exact r1 | go_simp)
  have k0 : w1.frozen? ⟨w.heap.size + 1 + 1, 0, none⟩ = false := pcarryF (v := .float .f64 0) b1 (by first | exact r0 | go_simp) (by first | exact u0 | go_simp)
  have k1 : w1.frozen? ⟨w.heap.size + 1 + 1, 1, none⟩ = false := pcarryF (v := .float .f64 0) b1 (by first | exact r1 | go_simp) (by first | exact u1 | go_simp)
  have bw1 : Below w.heap.size w w1 := Below.trans (by repeat (first | exact Below.refl _ _ | assumption | refine below_drewN ?_ _ | refine Below.setCell ?_ (by first | (simp; done) | (simp; omega) | omega) _ | refine Below.alloc ?_ (by first | (simp; done) | (simp; omega) | omega) _)) (b1.mono (by first | (simp; done) | (simp; omega) | omega))
  have bs1 := bw1.size
  have HH : Hid ((ok = true → ∀ p, prodP xh xl yh yl = some p → s = p.1 ∧ t = p.2) ∧ (ok = false → s = 0 ∧ t = 0)) := ⟨H1, Z1⟩
  clear b1 H1 Z1
  go_wp2_with fail
  refine bodyPost_ret (v := .tuple #[.agg #[.float .f64 s, .float .f64 t], .int .i64 (errI ok)]) (by simp [results, Try.results10, go_sem, m0, m1]) rfl ⟨s, t, rfl, by repeat (first | exact Below.refl _ _ | assumption | refine below_drewN ?_ _ | refine Below.setCell ?_ (by first | (simp; done) | (simp; omega) | omega) _ | refine Below.alloc ?_ (by first | (simp; done) | (simp; omega) | omega) _), HH.out.1, HH.out.2⟩

end

section

open Go.RowKit EP
attribute [local go_sem] ran_store


set_option maxRecDepth 100000 in
set_option maxHeartbeats 1000000 in
theorem rSame_calls (xh xl yh yl : Nat) (w : World) :
    Calls Try.prog 18 #[.agg #[.float .f64 xh, .float .f64 xl], .agg #[.float .f64 yh, .float .f64 yl]] w fun e w' => ∃ b, e = .returned (.bool b) ∧ Below w.heap.size w w' ∧ (Ieee.double.order xh yh = some .eq → Ieee.double.order xl yl = some .eq → b = true) := by
  cases h1 : (Ieee.double.order xh yh == some .eq) with
  | false =>
    have z1 : (FloatKind.f64.format.order xh yh == some .eq) = false := h1
    have HN : Hid (¬ Ieee.double.order xh yh = some .eq) := beq_eq_false_iff_ne.1 h1
    clear h1
    go_enter Try.func18, Try.ntmps18
    go_wp2_with fail
    go_ret
    exact ⟨_, rfl, by repeat (first | exact Below.refl _ _ | assumption | refine Below.drew ?_ | refine below_drewN ?_ _ | refine Below.setCell ?_ (by first | (simp; done) | (simp; omega) | omega) _ | refine Below.alloc ?_ (by first | (simp; done) | (simp; omega) | omega) _), fun h => absurd h HN.out⟩
  | true =>
    have z1 : (FloatKind.f64.format.order xh yh == some .eq) = true := h1
    clear h1
    go_enter Try.func18, Try.ntmps18
    go_wp2_with fail
    go_ret
    exact ⟨_, rfl, by repeat (first | exact Below.refl _ _ | assumption | refine Below.drew ?_ | refine below_drewN ?_ _ | refine Below.setCell ?_ (by first | (simp; done) | (simp; omega) | omega) _ | refine Below.alloc ?_ (by first | (simp; done) | (simp; omega) | omega) _), fun _ h => beq_iff_eq.2 h⟩



end

section

open Go.RowKit EP
attribute [local go_sem] ran_store






set_option maxRecDepth 100000 in
set_option maxHeartbeats 4000000 in
theorem dDiv_zero (xh xl yh yl : Nat) (w : World) (hx : xh < 18446744073709551616) (hy : yh < 18446744073709551616) (h1 : rightP xh xl = true) (z1 : isZ yh = true) (z2 : isZ yl = true) :
    Calls Try.prog 16 #[.agg #[.float .f64 xh, .float .f64 xl], .agg #[.float .f64 yh, .float .f64 yl]] w fun e w' => e = .returned (.tuple #[.agg #[.float .f64 0, .float .f64 0], .int .i64 30]) ∧ Below w.heap.size w w' := by
  have HA : Hid _ := fun w => dRight_calls xh xl w hx
  have HD : Hid _ := fun b w => done_quotient b xh xl yh yl w hx hy
  have q1 : ∀ x y w, (Op.equalIn 9999 22 (.float .f64 x) (.float .f64 y)).run Try.prog w = .ok (Ieee.double.order x y == some .eq) w := fun x y w => eqF Try.prog 22 9998 x y w Try.underlying22
  clear hx hy
  rw [h1] at HA
  have e1 : (Ieee.double.order yh 0 == some .eq) = true := z1
  have e2 : (Ieee.double.order yl 0 == some .eq) = true := z2
  clear h1 z1 z2 HD
  go_enter Try.func16, Try.ntmps16
  go_wp2_with fail
  refine Calls.mono (HA.out _) ?_
  rintro e w1 ⟨rfl, b1⟩
  have m100 : w1.cell? ⟨w.heap.size, 0, none⟩ = some (.float .f64 xh) := pcarry b1 (by first | exact m000 | go_simp)
  have k100 : w1.frozen? ⟨w.heap.size, 0, none⟩ = false := pcarryF (v := .float .f64 xh) b1 (by first | exact m000 | go_simp) (by first | exact k000 | go_simp)
  have m101 : w1.cell? ⟨w.heap.size, 1, none⟩ = some (.float .f64 xl) := pcarry b1 (by first | exact m001 | go_simp)
  have k101 : w1.frozen? ⟨w.heap.size, 1, none⟩ = false := pcarryF (v := .float .f64 xl) b1 (by first | exact m001 | go_simp) (by first | exact k001 | go_simp)
  have m110 : w1.cell? ⟨w.heap.size + 1, 0, none⟩ = some (.float .f64 yh) := pcarry b1 (by first | exact m010 | go_simp)
  have k110 : w1.frozen? ⟨w.heap.size + 1, 0, none⟩ = false := pcarryF (v := .float .f64 yh) b1 (by first | exact m010 | go_simp) (by first | exact k010 | go_simp)
  have m111 : w1.cell? ⟨w.heap.size + 1, 1, none⟩ = some (.float .f64 yl) := pcarry b1 (by first | exact m011 | go_simp)
  have k111 : w1.frozen? ⟨w.heap.size + 1, 1, none⟩ = false := pcarryF (v := .float .f64 yl) b1 (by first | exact m011 | go_simp) (by first | exact k011 | go_simp)
  have m120 : w1.cell? ⟨w.heap.size + 1 + 1, 0, none⟩ = some (.float .f64 0) := pcarry b1 (by first | exact m020 | go_simp)
  have k120 : w1.frozen? ⟨w.heap.size + 1 + 1, 0, none⟩ = false := pcarryF (v := .float .f64 0) b1 (by first | exact m020 | go_simp) (by first | exact k020 | go_simp)
  have m121 : w1.cell? ⟨w.heap.size + 1 + 1, 1, none⟩ = some (.float .f64 0) := pcarry b1 (by first | exact m021 | go_simp)
  have k121 : w1.frozen? ⟨w.heap.size + 1 + 1, 1, none⟩ = false := pcarryF (v := .float .f64 0) b1 (by first | exact m021 | go_simp) (by first | exact k021 | go_simp)
  have bw1 : Below w.heap.size w w1 := Below.trans (by repeat (first | exact Below.refl _ _ | assumption | refine Below.drew ?_ | refine below_drewN ?_ _ | refine Below.setCell ?_ (by first | (simp; done) | (simp; omega) | omega) _ | refine Below.alloc ?_ (by first | (simp; done) | (simp; omega) | omega) _)) (b1.mono (by first | (simp; done) | (simp; omega) | omega))
  have bs1 := bw1.size
  clear b1
  go_wp2_with fail
  exact bodyPost_ret (v := .tuple #[.agg #[.float .f64 0, .float .f64 0], .int .i64 30]) (by simp [results, Try.results16, go_sem, m120, m121]) rfl ⟨rfl, by repeat (first | exact Below.refl _ _ | assumption | refine Below.drew ?_ | refine below_drewN ?_ _ | refine Below.setCell ?_ (by first | (simp; done) | (simp; omega) | omega) _ | refine Below.alloc ?_ (by first | (simp; done) | (simp; omega) | omega) _)⟩

set_option maxRecDepth 100000 in
set_option maxHeartbeats 4000000 in
theorem dDiv_bad (xh xl yh yl : Nat) (w : World) (hx : xh < 18446744073709551616) (hy : yh < 18446744073709551616) (h1 : rightP xh xl = false) :
    Calls Try.prog 16 #[.agg #[.float .f64 xh, .float .f64 xl], .agg #[.float .f64 yh, .float .f64 yl]] w (AnsP w (rightP yh yl && rightP xh xl) (quoP xh xl yh yl)) := by
  have HA : Hid _ := fun w => dRight_calls xh xl w hx
  have HD : Hid _ := fun b w => done_quotient b xh xl yh yl w hx hy
  have q1 : ∀ x y w, (Op.equalIn 9999 22 (.float .f64 x) (.float .f64 y)).run Try.prog w = .ok (Ieee.double.order x y == some .eq) w := fun x y w => eqF Try.prog 22 9998 x y w Try.underlying22
  clear hx hy
  generalize (rightP yh yl && rightP xh xl) = ok at *
  rw [h1] at HA
  clear h1
  go_enter Try.func16, Try.ntmps16
  go_wp2_with fail
  refine Calls.mono (HA.out _) ?_
  rintro e w1 ⟨rfl, b1⟩
  have m100 : w1.cell? ⟨w.heap.size, 0, none⟩ = some (.float .f64 xh) := pcarry b1 (by first | exact m000 | go_simp)
  have k100 : w1.frozen? ⟨w.heap.size, 0, none⟩ = false := pcarryF (v := .float .f64 xh) b1 (by first | exact m000 | go_simp) (by first | exact k000 | go_simp)
  have m101 : w1.cell? ⟨w.heap.size, 1, none⟩ = some (.float .f64 xl) := pcarry b1 (by first | exact m001 | go_simp)
  have k101 : w1.frozen? ⟨w.heap.size, 1, none⟩ = false := pcarryF (v := .float .f64 xl) b1 (by first | exact m001 | go_simp) (by first | exact k001 | go_simp)
  have m110 : w1.cell? ⟨w.heap.size + 1, 0, none⟩ = some (.float .f64 yh) := pcarry b1 (by first | exact m010 | go_simp)
  have k110 : w1.frozen? ⟨w.heap.size + 1, 0, none⟩ = false := pcarryF (v := .float .f64 yh) b1 (by first | exact m010 | go_simp) (by first | exact k010 | go_simp)
  have m111 : w1.cell? ⟨w.heap.size + 1, 1, none⟩ = some (.float .f64 yl) := pcarry b1 (by first | exact m011 | go_simp)
  have k111 : w1.frozen? ⟨w.heap.size + 1, 1, none⟩ = false := pcarryF (v := .float .f64 yl) b1 (by first | exact m011 | go_simp) (by first | exact k011 | go_simp)
  have m120 : w1.cell? ⟨w.heap.size + 1 + 1, 0, none⟩ = some (.float .f64 0) := pcarry b1 (by first | exact m020 | go_simp)
  have k120 : w1.frozen? ⟨w.heap.size + 1 + 1, 0, none⟩ = false := pcarryF (v := .float .f64 0) b1 (by first | exact m020 | go_simp) (by first | exact k020 | go_simp)
  have m121 : w1.cell? ⟨w.heap.size + 1 + 1, 1, none⟩ = some (.float .f64 0) := pcarry b1 (by first | exact m021 | go_simp)
  have k121 : w1.frozen? ⟨w.heap.size + 1 + 1, 1, none⟩ = false := pcarryF (v := .float .f64 0) b1 (by first | exact m021 | go_simp) (by first | exact k021 | go_simp)
  have bw1 : Below w.heap.size w w1 := Below.trans (by repeat (first | exact Below.refl _ _ | assumption | refine Below.drew ?_ | refine below_drewN ?_ _ | refine Below.setCell ?_ (by first | (simp; done) | (simp; omega) | omega) _ | refine Below.alloc ?_ (by first | (simp; done) | (simp; omega) | omega) _)) (b1.mono (by first | (simp; done) | (simp; omega) | omega))
  have bs1 := bw1.size
  clear b1
  have q20 : ∀ ob, (w1.alloc ob).cell? ⟨w.heap.size + 1 + 1, 0, none⟩ = some (.float .f64 0) := fun ob => pcarry (below_alloc1' _ ob) m120
  have q21 : ∀ ob, (w1.alloc ob).cell? ⟨w.heap.size + 1 + 1, 1, none⟩ = some (.float .f64 0) := fun ob => pcarry (below_alloc1' _ ob) m121
  have u20 : ∀ ob, (w1.alloc ob).frozen? ⟨w.heap.size + 1 + 1, 0, none⟩ = false := fun ob => pcarryF (below_alloc1' _ ob) m120 k120
  have u21 : ∀ ob, (w1.alloc ob).frozen? ⟨w.heap.size + 1 + 1, 1, none⟩ = false := fun ob => pcarryF (below_alloc1' _ ob) m121 k121
  go_wp2_with fail
  refine Calls.mono (HD.out _ _ (by go_simp) (by go_simp)) ?_
  rintro e w2 ⟨s, t, rfl, b2, H2, Z2⟩
  have n0 : w2.cell? ⟨w.heap.size + 1 + 1, 0, none⟩ = some (.float .f64 0) := pcarry b2 (by first | exact q20 _ | go_simp)
  have n1 : w2.cell? ⟨w.heap.size + 1 + 1, 1, none⟩ = some (.float .f64 0) := pcarry b2 (by first | exact q21 _ | go_simp)
  have l0 : w2.frozen? ⟨w.heap.size + 1 + 1, 0, none⟩ = false := pcarryF (v := .float .f64 0) b2 (by first | exact q20 _ | go_simp) (by first | exact u20 _ | go_simp)
  have l1 : w2.frozen? ⟨w.heap.size + 1 + 1, 1, none⟩ = false := pcarryF (v := .float .f64 0) b2 (by first | exact q21 _ | go_simp) (by first | exact u21 _ | go_simp)
  have bw2 : Below w.heap.size w w2 := Below.trans (by repeat (first | exact Below.refl _ _ | assumption | refine Below.drew ?_ | refine below_drewN ?_ _ | refine Below.setCell ?_ (by first | (simp; done) | (simp; omega) | omega) _ | refine Below.alloc ?_ (by first | (simp; done) | (simp; omega) | omega) _)) (b2.mono (by first | (simp; done) | (simp; omega) | omega))
  have bs2 := bw2.size
  have HH : Hid ((ok = true → ∀ p, quoP xh xl yh yl = some p → s = p.1 ∧ t = p.2) ∧ (ok = false → s = 0 ∧ t = 0)) := ⟨H2, Z2⟩
  clear b2 H2 Z2
  go_wp2_with fail
  exact bodyPost_ret (v := .tuple #[.agg #[.float .f64 s, .float .f64 t], .int .i64 (errI ok)]) (by simp [results, Try.results16, go_sem, n0, n1]) rfl ⟨s, t, rfl, by repeat (first | exact Below.refl _ _ | assumption | refine Below.drew ?_ | refine below_drewN ?_ _ | refine Below.setCell ?_ (by first | (simp; done) | (simp; omega) | omega) _ | refine Below.alloc ?_ (by first | (simp; done) | (simp; omega) | omega) _), HH.out.1, HH.out.2⟩

set_option maxRecDepth 100000 in
set_option maxHeartbeats 4000000 in
theorem dDiv_nz (xh xl yh yl : Nat) (w : World) (hx : xh < 18446744073709551616) (hy : yh < 18446744073709551616) (h1 : rightP xh xl = true) (z1 : isZ yh = false) :
    Calls Try.prog 16 #[.agg #[.float .f64 xh, .float .f64 xl], .agg #[.float .f64 yh, .float .f64 yl]] w (AnsP w (rightP yh yl && rightP xh xl) (quoP xh xl yh yl)) := by
  have HA : Hid _ := fun w => dRight_calls xh xl w hx
  have HD : Hid _ := fun b w => done_quotient b xh xl yh yl w hx hy
  have q1 : ∀ x y w, (Op.equalIn 9999 22 (.float .f64 x) (.float .f64 y)).run Try.prog w = .ok (Ieee.double.order x y == some .eq) w := fun x y w => eqF Try.prog 22 9998 x y w Try.underlying22
  clear hx hy
  generalize (rightP yh yl && rightP xh xl) = ok at *
  rw [h1] at HA
  have e1 : (Ieee.double.order yh 0 == some .eq) = false := z1
  clear h1 z1
  go_enter Try.func16, Try.ntmps16
  go_wp2_with fail
  refine Calls.mono (HA.out _) ?_
  rintro e w1 ⟨rfl, b1⟩
  have m100 : w1.cell? ⟨w.heap.size, 0, none⟩ = some (.float .f64 xh) := pcarry b1 (by first | exact m000 | go_simp)
  have k100 : w1.frozen? ⟨w.heap.size, 0, none⟩ = false := pcarryF (v := .float .f64 xh) b1 (by first | exact m000 | go_simp) (by first | exact k000 | go_simp)
  have m101 : w1.cell? ⟨w.heap.size, 1, none⟩ = some (.float .f64 xl) := pcarry b1 (by first | exact m001 | go_simp)
  have k101 : w1.frozen? ⟨w.heap.size, 1, none⟩ = false := pcarryF (v := .float .f64 xl) b1 (by first | exact m001 | go_simp) (by first | exact k001 | go_simp)
  have m110 : w1.cell? ⟨w.heap.size + 1, 0, none⟩ = some (.float .f64 yh) := pcarry b1 (by first | exact m010 | go_simp)
  have k110 : w1.frozen? ⟨w.heap.size + 1, 0, none⟩ = false := pcarryF (v := .float .f64 yh) b1 (by first | exact m010 | go_simp) (by first | exact k010 | go_simp)
  have m111 : w1.cell? ⟨w.heap.size + 1, 1, none⟩ = some (.float .f64 yl) := pcarry b1 (by first | exact m011 | go_simp)
  have k111 : w1.frozen? ⟨w.heap.size + 1, 1, none⟩ = false := pcarryF (v := .float .f64 yl) b1 (by first | exact m011 | go_simp) (by first | exact k011 | go_simp)
  have m120 : w1.cell? ⟨w.heap.size + 1 + 1, 0, none⟩ = some (.float .f64 0) := pcarry b1 (by first | exact m020 | go_simp)
  have k120 : w1.frozen? ⟨w.heap.size + 1 + 1, 0, none⟩ = false := pcarryF (v := .float .f64 0) b1 (by first | exact m020 | go_simp) (by first | exact k020 | go_simp)
  have m121 : w1.cell? ⟨w.heap.size + 1 + 1, 1, none⟩ = some (.float .f64 0) := pcarry b1 (by first | exact m021 | go_simp)
  have k121 : w1.frozen? ⟨w.heap.size + 1 + 1, 1, none⟩ = false := pcarryF (v := .float .f64 0) b1 (by first | exact m021 | go_simp) (by first | exact k021 | go_simp)
  have bw1 : Below w.heap.size w w1 := Below.trans (by repeat (first | exact Below.refl _ _ | assumption | refine Below.drew ?_ | refine below_drewN ?_ _ | refine Below.setCell ?_ (by first | (simp; done) | (simp; omega) | omega) _ | refine Below.alloc ?_ (by first | (simp; done) | (simp; omega) | omega) _)) (b1.mono (by first | (simp; done) | (simp; omega) | omega))
  have bs1 := bw1.size
  clear b1
  have q20 : ∀ ob, (w1.alloc ob).cell? ⟨w.heap.size + 1 + 1, 0, none⟩ = some (.float .f64 0) := fun ob => pcarry (below_alloc1' _ ob) m120
  have q21 : ∀ ob, (w1.alloc ob).cell? ⟨w.heap.size + 1 + 1, 1, none⟩ = some (.float .f64 0) := fun ob => pcarry (below_alloc1' _ ob) m121
  have u20 : ∀ ob, (w1.alloc ob).frozen? ⟨w.heap.size + 1 + 1, 0, none⟩ = false := fun ob => pcarryF (below_alloc1' _ ob) m120 k120
  have u21 : ∀ ob, (w1.alloc ob).frozen? ⟨w.heap.size + 1 + 1, 1, none⟩ = false := fun ob => pcarryF (below_alloc1' _ ob) m121 k121
  go_wp2_with fail
  refine Calls.mono (HD.out _ _ (by go_simp) (by go_simp)) ?_
  rintro e w2 ⟨s, t, rfl, b2, H2, Z2⟩
  have n0 : w2.cell? ⟨w.heap.size + 1 + 1, 0, none⟩ = some (.float .f64 0) := pcarry b2 (by first | exact q20 _ | go_simp)
  have n1 : w2.cell? ⟨w.heap.size + 1 + 1, 1, none⟩ = some (.float .f64 0) := pcarry b2 (by first | exact q21 _ | go_simp)
  have l0 : w2.frozen? ⟨w.heap.size + 1 + 1, 0, none⟩ = false := pcarryF (v := .float .f64 0) b2 (by first | exact q20 _ | go_simp) (by first | exact u20 _ | go_simp)
  have l1 : w2.frozen? ⟨w.heap.size + 1 + 1, 1, none⟩ = false := pcarryF (v := .float .f64 0) b2 (by first | exact q21 _ | go_simp) (by first | exact u21 _ | go_simp)
  have bw2 : Below w.heap.size w w2 := Below.trans (by repeat (first | exact Below.refl _ _ | assumption | refine Below.drew ?_ | refine below_drewN ?_ _ | refine Below.setCell ?_ (by first | (simp; done) | (simp; omega) | omega) _ | refine Below.alloc ?_ (by first | (simp; done) | (simp; omega) | omega) _)) (b2.mono (by first | (simp; done) | (simp; omega) | omega))
  have bs2 := bw2.size
  have HH : Hid ((ok = true → ∀ p, quoP xh xl yh yl = some p → s = p.1 ∧ t = p.2) ∧ (ok = false → s = 0 ∧ t = 0)) := ⟨H2, Z2⟩
  clear b2 H2 Z2
  go_wp2_with fail
  exact bodyPost_ret (v := .tuple #[.agg #[.float .f64 s, .float .f64 t], .int .i64 (errI ok)]) (by simp [results, Try.results16, go_sem, n0, n1]) rfl ⟨s, t, rfl, by repeat (first | exact Below.refl _ _ | assumption | refine Below.drew ?_ | refine below_drewN ?_ _ | refine Below.setCell ?_ (by first | (simp; done) | (simp; omega) | omega) _ | refine Below.alloc ?_ (by first | (simp; done) | (simp; omega) | omega) _), HH.out.1, HH.out.2⟩

set_option maxRecDepth 100000 in
set_option maxHeartbeats 4000000 in
theorem dDiv_nl (xh xl yh yl : Nat) (w : World) (hx : xh < 18446744073709551616) (hy : yh < 18446744073709551616) (h1 : rightP xh xl = true) (z1 : isZ yh = true) (z2 : isZ yl = false) :
    Calls Try.prog 16 #[.agg #[.float .f64 xh, .float .f64 xl], .agg #[.float .f64 yh, .float .f64 yl]] w (AnsP w (rightP yh yl && rightP xh xl) (quoP xh xl yh yl)) := by
  have HA : Hid _ := fun w => dRight_calls xh xl w hx
  have HD : Hid _ := fun b w => done_quotient b xh xl yh yl w hx hy
  have q1 : ∀ x y w, (Op.equalIn 9999 22 (.float .f64 x) (.float .f64 y)).run Try.prog w = .ok (Ieee.double.order x y == some .eq) w := fun x y w => eqF Try.prog 22 9998 x y w Try.underlying22
  clear hx hy
  generalize (rightP yh yl && rightP xh xl) = ok at *
  rw [h1] at HA
  have e1 : (Ieee.double.order yh 0 == some .eq) = true := z1
  have e2 : (Ieee.double.order yl 0 == some .eq) = false := z2
  clear h1 z1 z2
  go_enter Try.func16, Try.ntmps16
  go_wp2_with fail
  refine Calls.mono (HA.out _) ?_
  rintro e w1 ⟨rfl, b1⟩
  have m100 : w1.cell? ⟨w.heap.size, 0, none⟩ = some (.float .f64 xh) := pcarry b1 (by first | exact m000 | go_simp)
  have k100 : w1.frozen? ⟨w.heap.size, 0, none⟩ = false := pcarryF (v := .float .f64 xh) b1 (by first | exact m000 | go_simp) (by first | exact k000 | go_simp)
  have m101 : w1.cell? ⟨w.heap.size, 1, none⟩ = some (.float .f64 xl) := pcarry b1 (by first | exact m001 | go_simp)
  have k101 : w1.frozen? ⟨w.heap.size, 1, none⟩ = false := pcarryF (v := .float .f64 xl) b1 (by first | exact m001 | go_simp) (by first | exact k001 | go_simp)
  have m110 : w1.cell? ⟨w.heap.size + 1, 0, none⟩ = some (.float .f64 yh) := pcarry b1 (by first | exact m010 | go_simp)
  have k110 : w1.frozen? ⟨w.heap.size + 1, 0, none⟩ = false := pcarryF (v := .float .f64 yh) b1 (by first | exact m010 | go_simp) (by first | exact k010 | go_simp)
  have m111 : w1.cell? ⟨w.heap.size + 1, 1, none⟩ = some (.float .f64 yl) := pcarry b1 (by first | exact m011 | go_simp)
  have k111 : w1.frozen? ⟨w.heap.size + 1, 1, none⟩ = false := pcarryF (v := .float .f64 yl) b1 (by first | exact m011 | go_simp) (by first | exact k011 | go_simp)
  have m120 : w1.cell? ⟨w.heap.size + 1 + 1, 0, none⟩ = some (.float .f64 0) := pcarry b1 (by first | exact m020 | go_simp)
  have k120 : w1.frozen? ⟨w.heap.size + 1 + 1, 0, none⟩ = false := pcarryF (v := .float .f64 0) b1 (by first | exact m020 | go_simp) (by first | exact k020 | go_simp)
  have m121 : w1.cell? ⟨w.heap.size + 1 + 1, 1, none⟩ = some (.float .f64 0) := pcarry b1 (by first | exact m021 | go_simp)
  have k121 : w1.frozen? ⟨w.heap.size + 1 + 1, 1, none⟩ = false := pcarryF (v := .float .f64 0) b1 (by first | exact m021 | go_simp) (by first | exact k021 | go_simp)
  have bw1 : Below w.heap.size w w1 := Below.trans (by repeat (first | exact Below.refl _ _ | assumption | refine Below.drew ?_ | refine below_drewN ?_ _ | refine Below.setCell ?_ (by first | (simp; done) | (simp; omega) | omega) _ | refine Below.alloc ?_ (by first | (simp; done) | (simp; omega) | omega) _)) (b1.mono (by first | (simp; done) | (simp; omega) | omega))
  have bs1 := bw1.size
  clear b1
  have q20 : ∀ ob, (w1.alloc ob).cell? ⟨w.heap.size + 1 + 1, 0, none⟩ = some (.float .f64 0) := fun ob => pcarry (below_alloc1' _ ob) m120
  have q21 : ∀ ob, (w1.alloc ob).cell? ⟨w.heap.size + 1 + 1, 1, none⟩ = some (.float .f64 0) := fun ob => pcarry (below_alloc1' _ ob) m121
  have u20 : ∀ ob, (w1.alloc ob).frozen? ⟨w.heap.size + 1 + 1, 0, none⟩ = false := fun ob => pcarryF (below_alloc1' _ ob) m120 k120
  have u21 : ∀ ob, (w1.alloc ob).frozen? ⟨w.heap.size + 1 + 1, 1, none⟩ = false := fun ob => pcarryF (below_alloc1' _ ob) m121 k121
  go_wp2_with fail
  refine Calls.mono (HD.out _ _ (by go_simp) (by go_simp)) ?_
  rintro e w2 ⟨s, t, rfl, b2, H2, Z2⟩
  have n0 : w2.cell? ⟨w.heap.size + 1 + 1, 0, none⟩ = some (.float .f64 0) := pcarry b2 (by first | exact q20 _ | go_simp)
  have n1 : w2.cell? ⟨w.heap.size + 1 + 1, 1, none⟩ = some (.float .f64 0) := pcarry b2 (by first | exact q21 _ | go_simp)
  have l0 : w2.frozen? ⟨w.heap.size + 1 + 1, 0, none⟩ = false := pcarryF (v := .float .f64 0) b2 (by first | exact q20 _ | go_simp) (by first | exact u20 _ | go_simp)
  have l1 : w2.frozen? ⟨w.heap.size + 1 + 1, 1, none⟩ = false := pcarryF (v := .float .f64 0) b2 (by first | exact q21 _ | go_simp) (by first | exact u21 _ | go_simp)
  have bw2 : Below w.heap.size w w2 := Below.trans (by repeat (first | exact Below.refl _ _ | assumption | refine Below.drew ?_ | refine below_drewN ?_ _ | refine Below.setCell ?_ (by first | (simp; done) | (simp; omega) | omega) _ | refine Below.alloc ?_ (by first | (simp; done) | (simp; omega) | omega) _)) (b2.mono (by first | (simp; done) | (simp; omega) | omega))
  have bs2 := bw2.size
  have HH : Hid ((ok = true → ∀ p, quoP xh xl yh yl = some p → s = p.1 ∧ t = p.2) ∧ (ok = false → s = 0 ∧ t = 0)) := ⟨H2, Z2⟩
  clear b2 H2 Z2
  go_wp2_with fail
  exact bodyPost_ret (v := .tuple #[.agg #[.float .f64 s, .float .f64 t], .int .i64 (errI ok)]) (by simp [results, Try.results16, go_sem, n0, n1]) rfl ⟨s, t, rfl, by repeat (first | exact Below.refl _ _ | assumption | refine Below.drew ?_ | refine below_drewN ?_ _ | refine Below.setCell ?_ (by first | (simp; done) | (simp; omega) | omega) _ | refine Below.alloc ?_ (by first | (simp; done) | (simp; omega) | omega) _), HH.out.1, HH.out.2⟩

end

section

open Go.RowKit EP


/-- Float by float, as long as there is a number. -/
def growB : List Nat → List Nat → Option (List Nat)
  | L, [] => some L
  | L, y :: ys => (if finB (lastF L) then growO L y else none).bind fun r => growB r ys
def scaleO : List Nat → Nat → List Nat → Option (List Nat)
  | [], _, L => some L
  | x :: l, b, L => (twoProdO b x).bind fun p => (growB L [p.2, p.1]).bind fun r => scaleO l b r
theorem isF_two (w : World) (x y : Nat) (t : TypeId) : IsF (w.alloc (.cells #[.float .f64 x, .float .f64 y] t)) (some ⟨w.heap.size, 0, none⟩) 2 2 [x, y] := by
  refine ⟨rfl, ⟨Nat.le_refl _, fun e => by cases e⟩, fun i hi => ?_⟩
  refine ⟨w.heap.size, 0, rfl, by simp, ?_⟩
  match i, hi with
  | 0, _ => first | (simp; done) | (simp [World.cell?]; done) | (go_simp; done) | rfl
  | 1, _ => first | (simp; done) | (simp [World.cell?]; done) | (go_simp; done) | rfl
theorem below_alloc1 (w : World) (o : Obj) : Below w.heap.size w (w.alloc o) := (Below.refl _ _).alloc (Nat.le_refl _) o




/-- The sign of a float. -/
def sgnF (x : Nat) : Int := if Ieee.double.order x 0 = some .lt then -1 else if Ieee.double.order x 0 = some .gt then 1 else 0


end

section

open Go.RowKit EP
attribute [local go_sem] ran_store


set_option maxRecDepth 100000 in
set_option maxHeartbeats 1000000 in
theorem wrong_calls (x : Nat) (w : World) (hx : x < 18446744073709551616) :
    Calls Try.prog 44 #[.float .f64 x] w fun e w' => e = .returned (.bool (!rightP x 0)) ∧ Below w.heap.size w w' := by
  have HA : Hid _ := fun w => dRight_calls x 0 w hx
  clear hx
  generalize rightP x 0 = r at *
  go_enter Try.func44, Try.ntmps44
  go_wp2_with fail
  refine Calls.mono (HA.out _) ?_
  rintro e w1 ⟨rfl, b1⟩
  go_wp2_with fail
  go_ret
  exact ⟨rfl, b1⟩

/-- Are all right? -/
def okFs (xs : List Nat) : Bool := xs.all fun x => rightP x 0
def smallFs (xs : List Nat) : Prop := ∀ i, xs.getD i 0 < 18446744073709551616
theorem okFs_all (xs : List Nat) : okFs xs = true ↔ ∀ i, i < xs.length → rightP (xs.getD i 0) 0 = true := by
  unfold okFs
  rw [List.all_eq_true]
  constructor
  · intro h i hi
    have : xs.getD i 0 = xs[i] := by simp [List.getD, hi]
    rw [this]
    exact h _ (List.getElem_mem hi)
  · intro h x hx
    obtain ⟨i, hi, rfl⟩ := List.getElem_of_mem hx
    have := h i hi
    simpa [List.getD, hi] using this

set_option maxRecDepth 100000 in
set_option maxHeartbeats 2000000 in
theorem idx_calls (a : Option Addr) (len cap : Nat) (xs : List Nat) (w : World) (h : IsF w a len cap xs) (hs : smallFs xs) (hm : len ≤ 17592186044416) :
    Calls Try.prog 67 #[.slice a len cap, .func (.func 44) #[] #[]] w fun e w' => ∃ k : Int, e = .returned (.int .i64 k) ∧ Below w.heap.size w w' ∧ decide (0 ≤ k) = !okFs xs := by
  have HL : Hid (len = xs.length) := h.1
  have hcap := h.2.1.1
  go_enter Try.func67, Try.ntmps67
  go_wp2_with fail
  go_loopw [5, 8] (fun _ i wr => ∃ k : Nat, k ≤ len ∧ i = .int .i64 k ∧ Below w.heap.size w wr ∧ ∀ j, j < k → rightP (xs.getD j 0) 0 = true) (fun _ i _ => len - (intOf i).toNat)
  case atStart => exact ⟨0, by omega, rfl, Below.refl _ _, fun j hj => absurd hj (Nat.not_lt_zero _)⟩
  case round =>
    obtain ⟨k, hk, rfl, hbr, hrel⟩ := hrel
    have HR : Hid (∀ j, j < k → rightP (xs.getD j 0) 0 = true) := hrel
    clear hrel
    by_cases hlt : k < len
    · obtain ⟨bb, off, rfl, hbl, hc⟩ := (h.keep hbr).2.2 k hlt
      obtain ⟨x, hx⟩ : ∃ x, x = xs.getD k 0 := ⟨_, rfl⟩
      rw [← hx] at hc
      have HX : Hid (x = xs.getD k 0) := hx
      have HW : Hid _ := fun w => wrong_calls x w (by rw [hx]; exact hs k)
      clear hx
      cases hr : rightP x 0 with
      | true =>
        rw [hr] at HW
        go_wp2_with fail
        refine Calls.mono (HW.out _) ?_
        rintro e w2 ⟨rfl, hb2⟩
        have hb2' := ebelow_trans hbr hb2
        clear hb2
        go_wp2_with fail
        go_round
        case rel =>
          refine ⟨k + 1, by omega, by go_num, hb2', fun j hj => ?_⟩
          by_cases e : j = k
          · subst e; rw [← HX.out]; exact hr
          · exact HR.out j (by omega)
        case measure => simp [intOf]; omega
      | false =>
        rw [hr] at HW
        go_wp2_with fail
        refine Calls.mono (HW.out _) ?_
        rintro e w2 ⟨rfl, hb2⟩
        have hb2' := ebelow_trans hbr hb2
        clear hb2
        go_wp2_with fail
        go_ret
        refine ⟨_, rfl, hb2', ?_⟩
        have h1 : okFs xs = false := by
          cases ho : okFs xs with
          | false => rfl
          | true =>
            have := (okFs_all xs).1 ho k (by rw [← HL.out]; exact hlt)
            rw [← HX.out, hr] at this; cases this
        rw [h1]
        exact decide_eq_true (by omega)
    · have hkl : k = len := by omega
      subst hkl
      go_wp2_with fail
      go_ret
      refine ⟨_, rfl, hbr, ?_⟩
      rw [(okFs_all xs).2 (fun i hi => HR.out i (by rw [HL.out]; exact hi))]
      rfl

set_option maxRecDepth 100000 in
set_option maxHeartbeats 1000000 in
theorem contains_calls (a : Option Addr) (len cap : Nat) (xs : List Nat) (w : World) (h : IsF w a len cap xs) (hs : smallFs xs) (hm : len ≤ 17592186044416) :
    Calls Try.prog 61 #[.slice a len cap, .func (.func 44) #[] #[]] w fun e w' => e = .returned (.bool (!okFs xs)) ∧ Below w.heap.size w w' := by
  have HA : Hid _ := idx_calls a len cap xs w h hs hm
  clear h hs hm
  generalize okFs xs = r at *
  go_enter Try.func61, Try.ntmps61
  go_wp2_with fail
  refine Calls.mono HA.out ?_
  rintro e w1 ⟨k, rfl, b1, H1⟩
  have H1' : Hid (decide (0 ≤ k) = !r) := H1
  clear H1
  go_wp2_with fail
  go_ret
  exact ⟨by rw [← H1'.out]; rfl, b1⟩

set_option maxRecDepth 100000 in
set_option maxHeartbeats 2000000 in
theorem grow0_calls (n : Nat) (w : World) (hn : n ≤ 4096) :
    Calls Try.prog 68 #[.slice none 0 0, .int .i64 (n : Int)] w fun e w' => ∃ a cv, e = .returned (.slice a 0 cv) ∧ OwF w.heap.size w' a cv [] ∧ Below w.heap.size w w' := by
  obtain ⟨i0, hi, hz0, hz1, hz2⟩ := info_parts float_info
  by_cases h0 : n = 0
  · subst h0
    go_enter Try.func68, Try.ntmps68
    go_wp2_with fail
    go_ret
    exact ⟨none, 0, rfl, owF_nil _ _, Below.refl _ _⟩
  · have hpos : (0 : Int) < (n : Int) := by omega
    have hold : (Builtin.firstCells i0.size 0 (.slice none 0 0)).run Try.prog w.drew = .ok ([] : List Value).toArray w.drew := run_firstCells_none w.drew i0.size 0 0 0
    have hrz : ∀ ty, _ := fun ty => Lib.run_append_grow_zeros w 38 3 ty 22 i0 (.float .f64 0) .i64 .i64 Try.underlying38 Try.underlying3 hi hz0 none 0 0 [] hold n (by omega) (by rw [hz1]; decide) (by omega) (by omega) (by rw [hz2]; omega) (by rw [hz2]; exact growslice_fits (by omega) (by omega))
    rw [Nat.zero_add] at hrz
    obtain ⟨G, hG⟩ : ∃ G, G = grownCap w n 0 22 := ⟨_, rfl⟩
    have hGn : n ≤ grownCap w n 0 22 := grownCap_ge w _ _ _
    have hG63 := grownCap_le_maxLen w n 0 22 (by unfold maxLen; omega)
    rw [← hG] at hrz hGn hG63
    have hsz : (([] : List Value).toArray ++ Builtin.zeroCells (Value.float .f64 0).cells n ++ Builtin.zeroCells (Value.float .f64 0).cells (G - n)).size = G * 1 := by
      simp [Builtin.zeroCells, Value.cells]
      omega
    generalize ([] : List Value).toArray ++ Builtin.zeroCells (Value.float .f64 0).cells n ++ Builtin.zeroCells (Value.float .f64 0).cells (G - n) = X at *
    have hO : OwF w.heap.size (w.drew.alloc (.cells X 22)) (some ⟨w.heap.size, 0, none⟩) G [] := World.ownsRow_made w.drew X G (Nat.le_refl _) hG63 hsz
    clear hsz hG hold
    unfold maxLen at hG63
    go_enter Try.func68, Try.ntmps68
    go_wp2_with (at_builtin; refine Lib.wpList_append_run _ rfl _ _ _ _ rfl _ _ rfl rfl _ _ (hrz _) ?_)
    all_goals (go_ret; exact ⟨_, _, rfl, hO, (Below.refl _ _).drew.alloc (Nat.le_refl _) _⟩)

theorem isF_news' {w : World} {ad : Addr} {n c : Nat} {xs : List Nat} (h : IsF w (some ad) n c xs) : ∀ j u, (xs.map (Value.float .f64))[j]? = some u → w.cell? (ad.add j) = some u := by
  intro j u hj
  have hjl : j < n := by
    have := (List.getElem?_eq_some_iff.1 hj).1
    simp at this; have := h.1; omega
  obtain ⟨b2, off2, e2, _, q2⟩ := h.2.2 j hjl
  simp only [Option.some.injEq] at e2
  subst e2
  have hu : u = .float .f64 (xs.getD j 0) := by
    simp only [List.getElem?_map] at hj
    have hj2 : xs[j]? = some (xs.getD j 0) := by
      rw [List.getElem?_eq_getElem (by have := h.1; omega)]; simp [List.getD, show j < xs.length by have := h.1; omega]
    rw [hj2] at hj
    simpa using hj.symm
  rw [hu]
  by_cases h0 : j = 0
  · subst h0; simpa [Addr.add] using q2
  · simpa [Addr.add, h0] using q2

/-- An append of a whole list, nil or not, behind a row of the call's own. -/
theorem app_isF {w : World} {ops : Array Oper} {rest : List Oper} {o : Oper} {act : Act} {Q : Exit → Act → World → Prop} (hgd : o.guard = none) (s x : Operand)
    (ho : o.op = .call { callee := .builtin .append, args := #[s, x], argTypes := #[38, 38] })
    (B : Nat) (ao : Option Addr) (cv : Nat) (L : List Nat) (hs : act.eval s = .slice ao L.length cv) (hown : OwF B w ao cv L)
    (bo : Option Addr) (m c : Nat) (ys : List Nat) (hx : act.eval x = .slice bo m c) (hF : IsF w bo m c ys) (hm : L.length + m ≤ 17592186044416) (hB : B ≤ w.heap.size)
    (h : ∀ a' cv' w', OwF B w' a' cv' (L ++ ys) → Below B w w' → wpList Try.prog ops Q rest (act.put o.dst (.slice a' (L ++ ys).length cv')) w') : wpList Try.prog ops Q (o :: rest) act w := by
  obtain ⟨i0, hi, hz0, hz1, hz2⟩ := info_parts float_info
  cases bo with
  | none =>
    have hc0 := hF.2.1.2 rfl
    have hm0 : m = 0 := by have := hF.2.1.1; omega
    have hy : ys = [] := List.length_eq_zero_iff.1 (by rw [← hF.1]; exact hm0)
    subst hc0 hm0 hy
    refine wpList_append_own_none hgd s x _ ho B 22 i0 1 Try.underlying38 hi _ _ _ hs hown hx ?_
    have := h ao cv w (by rw [List.append_nil]; exact hown) (Below.refl _ _)
    rw [List.append_nil] at this
    exact this
  | some ad =>
    refine wpList_append_own w hgd s x _ ho B 22 i0 (.float .f64 0) 1 8 Try.underlying38 hi hz0 hz1 hz2 rfl (by decide) _ _ _ hs hown ad m c (ys.map (Value.float .f64)) hx (by rw [List.length_map, ← hF.1, Nat.mul_one]) (isF_news' hF) (fun u hu => by simp only [List.mem_map] at hu; obtain ⟨y, _, rfl⟩ := hu; rfl) (by unfold maxLen; omega) (by omega) hB ?_
    intro v' w' hown' hgrow _
    have hb : Below B w w' := (Below.refl B w).grown hgrow hB (fun q hq => (hown.lt q hq).1)
    have hlen : (L ++ ys).length = L.length + m := by rw [List.length_append, hF.1]
    obtain ⟨a', cv', hv⟩ : ∃ a' cv', v' = .slice a' (L.length + m) cv' := by
      rcases hown'.2 with ⟨e1, e2⟩ | ⟨g, cap, _, e1, _⟩
      · exact ⟨none, 0, by rw [e1, e2]⟩
      · exact ⟨_, cap, e1⟩
    subst hv
    have hO : OwF B w' a' cv' (L ++ ys) := by
      unfold OwF
      rw [hlen, List.map_append]
      exact hown'
    have := h a' cv' w' hO hb
    rw [hlen] at this
    exact this

end

section

open Go.RowKit EP
attribute [local go_sem] ran_store


def catL (xs ys : List Nat) (k : Nat) : List Nat := if k = 0 then [] else if k = 1 then xs else xs ++ ys
def catN (m n k : Nat) : Nat := if k = 0 then 0 else if k = 1 then m else m + n

set_option maxRecDepth 100000 in
set_option maxHeartbeats 4000000 in
theorem concat_calls (b : Nat) (a1 a2 : Option Addr) (n1 n2 c1 c2 : Nat) (xs ys : List Nat) (w : World) (hc0 : w.cell? ⟨b, 0, none⟩ = some (.slice a1 n1 c1)) (hc1 : w.cell? ⟨b, 1, none⟩ = some (.slice a2 n2 c2)) (h1 : IsF w a1 n1 c1 xs) (h2 : IsF w a2 n2 c2 ys) (hm1 : n1 ≤ 2048) (hm2 : n2 ≤ 2048) :
    Calls Try.prog 62 #[.slice (some ⟨b, 0, none⟩) 2 2] w fun e w' => ∃ a cv, e = .returned (.slice a (xs ++ ys).length cv) ∧ OwF w.heap.size w' a cv (xs ++ ys) ∧ Below w.heap.size w w' := by
  have HG : Hid _ := fun (n : Nat) (hn : n ≤ 4096) w => grow0_calls n w hn
  have HL1 : Hid (n1 = xs.length) := h1.1
  have HL2 : Hid (n2 = ys.length) := h2.1
  go_enter Try.func62, Try.ntmps62
  go_wp2_with fail
  go_loop [3, 5, 11] (fun sz _ i => ∃ k : Nat, k ≤ 2 ∧ i = .int .i64 k ∧ sz = .int .i64 (catN n1 n2 k : Nat)) (fun _ _ i => 2 - (intOf i).toNat)
  case atStart => exact ⟨0, by omega, rfl, rfl⟩
  case round =>
    obtain ⟨k, hk, rfl, rfl⟩ := hrel
    rcases (show k = 0 ∨ k = 1 ∨ k = 2 by omega) with rfl | rfl | rfl
    · have e0 : catN n1 n2 0 = 0 := rfl
      rw [e0]
      go_wp2_with fail
      go_round
      case rel => exact ⟨1, by omega, by go_num, by show Value.int _ _ = Value.int _ ((n1 : Nat) : Int); go_num⟩
      case measure => simp [intOf]
    · have e0 : catN n1 n2 1 = n1 := rfl
      rw [e0]
      go_wp2_with fail
      go_round
      case rel => exact ⟨2, by omega, by go_num, by show Value.int _ _ = Value.int _ ((n1 + n2 : Nat) : Int); go_num⟩
      case measure => simp [intOf]
    · have e0 : catN n1 n2 2 = n1 + n2 := rfl
      rw [e0]
      go_wp2_with fail
      refine Calls.mono (HG.out (n1 + n2) (by omega) _) ?_
      rintro e w1 ⟨ag, cg, rfl, hO1, hb1⟩
      go_wp2_with fail
      go_loopw [6, 8, 27] (fun nv _ i wr => ∃ (k : Nat) (ao : Option Addr) (cp : Nat), k ≤ 2 ∧ i = .int .i64 k ∧ nv = .slice ao (catL xs ys k).length cp ∧ OwF w.heap.size wr ao cp (catL xs ys k) ∧ Below w.heap.size w wr) (fun _ _ i _ => 2 - (intOf i).toNat)
      case atStart => exact ⟨0, ag, cg, by omega, rfl, rfl, hO1, hb1⟩
      case round =>
        obtain ⟨k, ao, cp, hk, rfl, rfl, hO, hbr⟩ := hrel
        have m0 := pcarry hbr hc0
        have m1 := pcarry hbr hc1
        have g1 := h1.keep hbr
        have g2 := h2.keep hbr
        have HS : Hid (w.heap.size ≤ wr.heap.size) := hbr.size
        clear hb1 hc0 hc1 h1 h2 hO1
        rcases (show k = 0 ∨ k = 1 ∨ k = 2 by omega) with rfl | rfl | rfl
        · have e0 : catL xs ys 0 = [] := rfl
          rw [e0] at hO ⊢
          go_wp2_with (at_builtin; refine app_isF rfl _ _ rfl w.heap.size ao cp [] rfl hO a1 n1 c1 xs rfl g1 (by simp; omega) HS.out ?_; intro a3 c3 w3 hO3 hb3)
          go_round
          case rel => exact ⟨1, a3, c3, by omega, by go_num, rfl, hO3, hbr.trans hb3⟩
          case measure => simp [intOf]
        · have e0 : catL xs ys 1 = xs := rfl
          rw [e0] at hO ⊢
          go_wp2_with (at_builtin; refine app_isF rfl _ _ rfl w.heap.size ao cp xs rfl hO a2 n2 c2 ys rfl g2 (by rw [← HL1.out]; omega) HS.out ?_; intro a3 c3 w3 hO3 hb3)
          go_round
          case rel => exact ⟨2, a3, c3, by omega, by go_num, by simp [catL], hO3, hbr.trans hb3⟩
          case measure => simp [intOf]
        · have e0 : catL xs ys 2 = xs ++ ys := rfl
          rw [e0] at hO ⊢
          go_wp2_with fail
          go_ret
          exact ⟨ao, cp, rfl, hO, hbr⟩

theorem smallFs_app {xs ys : List Nat} (hx : smallFs xs) (hy : smallFs ys) : smallFs (xs ++ ys) := by
  intro i
  by_cases h : i < xs.length
  · have := hx i
    rw [List.getD_eq_getElem?_getD] at this ⊢
    rw [List.getElem?_append_left h]; exact this
  · have := hy (i - xs.length)
    rw [List.getD_eq_getElem?_getD] at this ⊢
    rw [List.getElem?_append_right (by omega)]; exact this
theorem okFs_app (xs ys : List Nat) : okFs (xs ++ ys) = (okFs xs && okFs ys) := by unfold okFs; rw [List.all_append]
def checkE (xs ys : List Nat) : Int := if 1024 < xs.length then 3 else if okFs xs && okFs ys then 0 else 2

set_option maxRecDepth 100000 in
set_option maxHeartbeats 2000000 in
theorem check_calls (a1 a2 : Option Addr) (n1 n2 c1 c2 : Nat) (xs ys : List Nat) (w : World) (h1 : IsF w a1 n1 c1 xs) (h2 : IsF w a2 n2 c2 ys) (hm1 : n1 ≤ 17592186044416) (hm2 : n2 ≤ 1) (s1 : smallFs xs) (s2 : smallFs ys) :
    Calls Try.prog 40 #[.slice a1 n1 c1, .slice a2 n2 c2] w fun e w' => e = .returned (.int .i64 (checkE xs ys)) ∧ Below w.heap.size w w' := by
  have hcap1 := h1.2.1.1
  by_cases hl : 1024 < n1
  · have HE : Hid (checkE xs ys = 3) := by rw [Hid, checkE, if_pos (by rw [← h1.1]; exact hl)]
    clear h1 h2 s1 s2
    go_enter Try.func40, Try.ntmps40
    go_wp2_with fail
    go_ret
    rw [HE.out]
    exact ⟨rfl, Below.refl _ _⟩
  · have HE : Hid (checkE xs ys = if okFs (xs ++ ys) then 0 else 2) := by rw [Hid, checkE, if_neg (by rw [← h1.1]; exact hl), okFs_app]
    have HC : Hid _ := fun b w' c0 c1' g1 g2 => concat_calls b a1 a2 n1 n2 c1 c2 xs ys w' c0 c1' g1 g2 (by omega) (by omega)
    have hzl : (xs ++ ys).length ≤ 17592186044416 := by rw [List.length_append, ← h1.1, ← h2.1]; omega
    have hzs := smallFs_app s1 s2
    generalize xs ++ ys = zs at *
    have HK : Hid _ := fun a c w' g => contains_calls a zs.length c zs w' g hzs hzl
    clear hzs hzl
    have hcap2 := h2.2.1.1
    go_enter Try.func40, Try.ntmps40
    go_wp2_with fail
    refine Calls.mono (HC.out _ _ (by go_simp) (by go_simp) (h1.keep (by repeat (first | exact Below.refl _ _ | refine Below.alloc ?_ (by simp) _))) (h2.keep (by repeat (first | exact Below.refl _ _ | refine Below.alloc ?_ (by simp) _)))) ?_
    rintro e w1 ⟨a3, c3, rfl, hO, hb1⟩
    have b1 : Below w.heap.size w w1 := Below.trans (by repeat (first | exact Below.refl _ _ | refine Below.alloc ?_ (by simp) _)) (hb1.mono (by simp))
    have hF := hO.isF
    clear hb1 hO
    go_wp2_with fail
    refine Calls.mono (HK.out _ _ _ hF) ?_
    rintro e w2 ⟨rfl, hb2⟩
    have b2 := ebelow_trans b1 hb2
    cases hok : okFs zs with
    | true =>
      go_wp2_with fail
      go_ret
      rw [HE.out, hok]
      exact ⟨rfl, b2⟩
    | false =>
      go_wp2_with fail
      go_ret
      rw [HE.out, hok]
      exact ⟨rfl, b2⟩

end

section

open Go.RowKit EP
attribute [local go_sem] ran_store


def foldS : List Nat → Nat → Nat → Option (Nat × Nat)
  | [], s, t => some (s, t)
  | x :: l, s, t => (sumP s t x 0).bind fun p => foldS l p.1 p.2

set_option maxRecDepth 100000 in
set_option maxHeartbeats 4000000 in
theorem gath_sum (a : Option Addr) (len cap : Nat) (xs : List Nat) (w : World) (h : IsF w a len cap xs) (hm : len ≤ 17592186044416) :
    Calls Try.prog 41 #[.slice a len cap, .func (.func 26) #[] #[]] w (Pr w (foldS xs 0 0)) := by
  have HL : Hid (len = xs.length) := h.1
  have hcap := h.2.1.1
  go_enter Try.func41, Try.ntmps41
  go_wp2_with fail
  go_loopw [7, 10] (fun _ i wr => ∃ (k s t : Nat), k ≤ len ∧ i = .int .i64 k ∧ wr.cell? ⟨w.heap.size + 1, 0, none⟩ = some (.float .f64 s) ∧ wr.cell? ⟨w.heap.size + 1, 1, none⟩ = some (.float .f64 t) ∧ wr.frozen? ⟨w.heap.size + 1, 0, none⟩ = false ∧ wr.frozen? ⟨w.heap.size + 1, 1, none⟩ = false ∧ wr.cell? ⟨w.heap.size, 0, none⟩ = some (.float .f64 0) ∧ wr.cell? ⟨w.heap.size, 1, none⟩ = some (.float .f64 0) ∧ wr.frozen? ⟨w.heap.size, 0, none⟩ = false ∧ wr.frozen? ⟨w.heap.size, 1, none⟩ = false ∧ Below w.heap.size w wr ∧ w.heap.size + 2 ≤ wr.heap.size ∧ ∀ r, foldS xs 0 0 = some r → foldS (xs.drop k) s t = some r) (fun _ i _ => len - (intOf i).toNat)
  case atStart => exact ⟨0, 0, 0, by omega, rfl, by go_simp, by go_simp, by go_simp, by go_simp, by go_simp, by go_simp, by go_simp, by go_simp, by repeat (first | exact Below.refl _ _ | refine Below.alloc ?_ (by simp) _), by simp, fun r hr => hr⟩
  case round =>
    obtain ⟨k, s, t, hk, rfl, m0, m1, f0, f1, z0, z1, g0, g1, hbr, hsz, hrel⟩ := hrel
    have HR : Hid (∀ r, foldS xs 0 0 = some r → foldS (xs.drop k) s t = some r) := hrel
    have HZ : Hid (w.heap.size + 2 ≤ wr.heap.size) := hsz
    clear hrel
    by_cases hlt : k < len
    · obtain ⟨bb, off, rfl, hbl, hc⟩ := (h.keep hbr).2.2 k hlt
      obtain ⟨x, hx⟩ : ∃ x, x = xs.getD k 0 := ⟨_, rfl⟩
      rw [← hx] at hc
      have HX : Hid (xs.drop k = x :: xs.drop (k + 1)) := by rw [Hid, hx]; exact drop_cons xs k (by rw [← HL.out]; exact hlt)
      clear hx
      go_wp2_with fail
      refine Calls.mono (dsum_calls s t x 0 _) ?_
      rintro e w2 ⟨p, q, rfl, b2, H2⟩
      have n0 := pcarry b2 m0
      have n1 := pcarry b2 m1
      have h0 := pcarryF b2 m0 f0
      have h1 := pcarryF b2 m1 f1
      have y0 := pcarry b2 z0
      have y1 := pcarry b2 z1
      have i0 := pcarryF b2 z0 g0
      have i1 := pcarryF b2 z1 g1
      have bw := ebelow_trans hbr b2
      have HZ2 : Hid (w.heap.size + 2 ≤ w2.heap.size) := Nat.le_trans HZ.out b2.size
      have H2' : Hid (∀ r, sumP s t x 0 = some r → p = r.1 ∧ q = r.2) := H2
      clear b2 H2 m0 m1 f0 f1 z0 z1 g0 g1 hsz
      go_wp2_with fail
      go_round
      case rel =>
        refine ⟨k + 1, p, q, by omega, by go_num, by go_simp, by go_simp, by go_simp, by go_simp, by go_simp, by go_simp, by go_simp, by go_simp, ?_, by have := HZ2.out; simp; omega, fun r hr => ?_⟩
        · repeat (first | exact Below.refl _ _ | assumption | refine below_drewN ?_ _ | refine Below.setCell ?_ (by first | (simp; done) | (simp; omega) | omega) _ | refine Below.alloc ?_ (by first | (simp; done) | (simp; omega) | omega) _)
        · have h1 := HR.out r hr
          rw [HX.out] at h1
          obtain ⟨p', e1, e2⟩ := Option.bind_eq_some_iff.1 h1
          obtain ⟨rfl, rfl⟩ := H2'.out p' e1
          exact e2
      case measure => simp [intOf]; omega
    · have hkl : k = len := by omega
      subst hkl
      go_wp2_with fail
      refine bodyPost_ret (v := .agg #[.float .f64 s, .float .f64 t]) (by simp [results, Try.results41, go_sem, z0, z1]) rfl ⟨s, t, rfl, by repeat (first | exact Below.refl _ _ | assumption | refine below_drewN ?_ _ | refine Below.setCell ?_ (by first | (simp; done) | (simp; omega) | omega) _ | refine Below.alloc ?_ (by first | (simp; done) | (simp; omega) | omega) _), fun r hr => ?_⟩
      have h1 := HR.out r hr
      rw [show xs.drop k = [] from List.drop_eq_nil_iff.2 (by rw [HL.out]; exact Nat.le_refl _)] at h1
      obtain rfl := Option.some.inj h1
      exact ⟨rfl, rfl⟩

def AnsS (w : World) (why : Int) (o : Option (Nat × Nat)) (e : Ending) (w' : World) : Prop :=
  ∃ s t, e = .returned (.tuple #[.agg #[.float .f64 s, .float .f64 t], .int .i64 why]) ∧ Below w.heap.size w w' ∧ (why = 0 → ∀ p, o = some p → s = p.1 ∧ t = p.2) ∧ (why ≠ 0 → s = 0 ∧ t = 0)

theorem smallFs_nil : smallFs [] := fun i => by simp
theorem isF_none (w : World) : IsF w none 0 0 [] := ⟨rfl, ⟨Nat.le_refl _, fun _ => rfl⟩, fun i hi => by omega⟩
theorem checkE_cases (xs ys : List Nat) : checkE xs ys = 0 ∨ checkE xs ys = 2 ∨ checkE xs ys = 3 := by
  unfold checkE; split
  · exact .inr (.inr rfl)
  · split
    · exact .inl rfl
    · exact .inr (.inl rfl)

set_option maxRecDepth 100000 in
set_option maxHeartbeats 2000000 in
theorem dSum_calls (a : Option Addr) (len cap : Nat) (xs : List Nat) (w : World) (h : IsF w a len cap xs) (hm : len ≤ 17592186044416) (hs : smallFs xs) :
    Calls Try.prog 17 #[.slice a len cap] w (AnsS w (checkE xs []) (foldS xs 0 0)) := by
  have HC : Hid _ := fun w' g => check_calls a none len 0 cap 0 xs [] w' g (isF_none _) hm (by omega) hs smallFs_nil
  have HG : Hid _ := fun w' g => gath_sum a len cap xs w' g hm
  have HE : Hid _ := checkE_cases xs []
  clear hs hm
  generalize checkE xs [] = E at *
  rcases HE.out with rfl | rfl | rfl
  · go_enter Try.func17, Try.ntmps17
    go_wp2_with fail
    refine Calls.mono (HC.out _ (h.keep (below_alloc1 _ _))) ?_
    rintro e w1 ⟨rfl, hb1⟩
    have m0 : w1.cell? ⟨w.heap.size, 0, none⟩ = some (.float .f64 0) := pcarry hb1 (by go_simp)
    have m1 : w1.cell? ⟨w.heap.size, 1, none⟩ = some (.float .f64 0) := pcarry hb1 (by go_simp)
    have k0 : w1.frozen? ⟨w.heap.size, 0, none⟩ = false := pcarryF (v := .float .f64 0) hb1 (by go_simp) (by go_simp)
    have k1 : w1.frozen? ⟨w.heap.size, 1, none⟩ = false := pcarryF (v := .float .f64 0) hb1 (by go_simp) (by go_simp)
    have b1 := ebelow_trans (below_alloc1 _ _) hb1
    clear hb1
    go_wp2_with fail
    refine Calls.mono (HG.out _ (h.keep b1)) ?_
    rintro e w2 ⟨s, t, rfl, hb2, H2⟩
    have n0 := pcarry hb2 m0
    have n1 := pcarry hb2 m1
    have l0 := pcarryF hb2 m0 k0
    have l1 := pcarryF hb2 m1 k1
    have b2 := ebelow_trans b1 hb2
    clear hb2 m0 m1 k0 k1
    have H2' : Hid (∀ p, foldS xs 0 0 = some p → s = p.1 ∧ t = p.2) := H2
    clear H2
    go_wp2_with fail
    exact bodyPost_ret (v := .tuple #[.agg #[.float .f64 s, .float .f64 t], .int .i64 0]) (by simp [results, Try.results17, go_sem, n0, n1]) rfl ⟨s, t, rfl, by repeat (first | exact Below.refl _ _ | assumption | refine below_drewN ?_ _ | refine Below.setCell ?_ (by first | (simp; done) | (simp; omega) | omega) _ | refine Below.alloc ?_ (by first | (simp; done) | (simp; omega) | omega) _), fun _ => H2'.out, fun e => absurd rfl e⟩
  all_goals
    go_enter Try.func17, Try.ntmps17
    go_wp2_with fail
    refine Calls.mono (HC.out _ (h.keep (below_alloc1 _ _))) ?_
    rintro e w1 ⟨rfl, hb1⟩
    have m0 : w1.cell? ⟨w.heap.size, 0, none⟩ = some (.float .f64 0) := pcarry hb1 (by go_simp)
    have m1 : w1.cell? ⟨w.heap.size, 1, none⟩ = some (.float .f64 0) := pcarry hb1 (by go_simp)
    have k0 : w1.frozen? ⟨w.heap.size, 0, none⟩ = false := pcarryF (v := .float .f64 0) hb1 (by go_simp) (by go_simp)
    have k1 : w1.frozen? ⟨w.heap.size, 1, none⟩ = false := pcarryF (v := .float .f64 0) hb1 (by go_simp) (by go_simp)
    have b1 := ebelow_trans (below_alloc1 _ _) hb1
    clear hb1
    go_wp2_with fail
    first
    | exact bodyPost_ret (v := .tuple #[.agg #[.float .f64 0, .float .f64 0], .int .i64 2]) (by simp [results, Try.results17, go_sem, m0, m1]) rfl ⟨0, 0, rfl, by repeat (first | exact Below.refl _ _ | assumption | refine below_drewN ?_ _ | refine Below.setCell ?_ (by first | (simp; done) | (simp; omega) | omega) _ | refine Below.alloc ?_ (by first | (simp; done) | (simp; omega) | omega) _), fun e => absurd e (by decide), fun _ => ⟨rfl, rfl⟩⟩
    | exact bodyPost_ret (v := .tuple #[.agg #[.float .f64 0, .float .f64 0], .int .i64 3]) (by simp [results, Try.results17, go_sem, m0, m1]) rfl ⟨0, 0, rfl, by repeat (first | exact Below.refl _ _ | assumption | refine below_drewN ?_ _ | refine Below.setCell ?_ (by first | (simp; done) | (simp; omega) | omega) _ | refine Below.alloc ?_ (by first | (simp; done) | (simp; omega) | omega) _), fun e => absurd e (by decide), fun _ => ⟨rfl, rfl⟩⟩

set_option maxRecDepth 100000 in
set_option maxHeartbeats 2000000 in
theorem dOf_bad (x : Nat) (w : World) (hx : x < 18446744073709551616) (hr : rightP x 0 = false) :
    Calls Try.prog 21 #[.float .f64 x] w fun e w' => e = .returned (.tuple #[.agg #[.float .f64 0, .float .f64 0], .int .i64 2]) ∧ Below w.heap.size w w' := by
  have HA : Hid _ := fun w => wrong_calls x w hx
  rw [hr] at HA
  clear hx hr
  go_enter Try.func21, Try.ntmps21
  go_wp2_with fail
  refine Calls.mono (HA.out _) ?_
  rintro e w1 ⟨rfl, hb1⟩
  have m0 : w1.cell? ⟨w.heap.size, 0, none⟩ = some (.float .f64 0) := pcarry hb1 (by go_simp)
  have m1 : w1.cell? ⟨w.heap.size, 1, none⟩ = some (.float .f64 0) := pcarry hb1 (by go_simp)
  have k0 : w1.frozen? ⟨w.heap.size, 0, none⟩ = false := pcarryF (v := .float .f64 0) hb1 (by go_simp) (by go_simp)
  have k1 : w1.frozen? ⟨w.heap.size, 1, none⟩ = false := pcarryF (v := .float .f64 0) hb1 (by go_simp) (by go_simp)
  have b1 := ebelow_trans (below_alloc1 _ _) hb1
  clear hb1
  go_wp2_with fail
  exact bodyPost_ret (v := .tuple #[.agg #[.float .f64 0, .float .f64 0], .int .i64 2]) (by simp [results, Try.results21, go_sem, m0, m1]) rfl ⟨rfl, by repeat (first | exact Below.refl _ _ | assumption | refine below_drewN ?_ _ | refine Below.setCell ?_ (by first | (simp; done) | (simp; omega) | omega) _ | refine Below.alloc ?_ (by first | (simp; done) | (simp; omega) | omega) _)⟩

end

section

open Go.RowKit EP


theorem isF_three (w : World) (x y z : Nat) (t : TypeId) : IsF (w.alloc (.cells #[.float .f64 x, .float .f64 y, .float .f64 z] t)) (some ⟨w.heap.size, 0, none⟩) 3 3 [x, y, z] := by
  refine ⟨rfl, ⟨Nat.le_refl _, fun e => by cases e⟩, fun i hi => ?_⟩
  refine ⟨w.heap.size, 0, rfl, by simp, ?_⟩
  match i, hi with
  | 0, _ => first | (simp; done) | (simp [World.cell?]; done) | (go_simp; done) | rfl
  | 1, _ => first | (simp; done) | (simp [World.cell?]; done) | (go_simp; done) | rfl
  | 2, _ => first | (simp; done) | (simp [World.cell?]; done) | (go_simp; done) | rfl
theorem live_sum : twoSumO 4845873199050653696 4607182418800017408 = some (4845873199050653696, 4607182418800017408) := by decide +kernel
theorem live_prod : twoProdO 4728779608772575232 4728779608772575232 = some (4850376798745133056, 4607182418800017408) := by decide +kernel
theorem live_list : growB [] [4607182418800017408, 4877398396442247168, 14100770433297022976] = some [4607182418800017408] := by decide +kernel
theorem live_sign : sgnF (lastF [4607182418800017408]) = 1 := by decide +kernel



end

section

open Go.RowKit EP
attribute [local go_sem] ran_store


set_option maxRecDepth 100000 in
set_option maxHeartbeats 1000000 in
theorem rSame_yes (xh xl yh yl : Nat) (w : World) (h1 : Ieee.double.order xh yh = some .eq) (h2 : Ieee.double.order xl yl = some .eq) :
    Calls Try.prog 18 #[.agg #[.float .f64 xh, .float .f64 xl], .agg #[.float .f64 yh, .float .f64 yl]] w fun e w' => e = .returned (.bool true) ∧ Below w.heap.size w w' := by
  refine (rSame_calls xh xl yh yl w).mono ?_
  rintro e w' ⟨b, rfl, hb, H⟩
  rw [H h1 h2]
  exact ⟨rfl, hb⟩
theorem dlive1 : sumP 4607182418800017408 0 4246894448610377728 0 = some (4607182418800017408, 4246894448610377728) := by decide +kernel
theorem dlive2 : foldS [5057542381537067008, 4607182418800017408, 14280914418391842816] 0 0 = some (4607182418800017408, 0) := by decide +kernel
theorem dlive3 : checkE [5057542381537067008, 4607182418800017408, 14280914418391842816] [] = 0 := by decide +kernel
theorem dlive4 : (rightP 4246894448610377728 0 && rightP 4607182418800017408 0) = true := by decide +kernel
theorem dlive5 : rightP 5962765906638536704 0 = false := by decide +kernel
theorem dlive6 : rightP 4607182418800017408 4607182418800017408 = false := by decide +kernel
theorem dlive7 : smallFs [5057542381537067008, 4607182418800017408, 14280914418391842816] := by
  intro i
  match i with
  | 0 => decide
  | 1 => decide
  | 2 => decide
  | i + 3 => simp

theorem dlive8 : Op.negFloat .f64 5057542381537067008 = 14280914418391842816 := by decide +kernel
theorem begins_add (w : World) : Calls Try.prog 8 #[.agg #[.float .f64 4607182418800017408, .float .f64 0], .agg #[.float .f64 4246894448610377728, .float .f64 0]] w fun e w' => e = .returned (.tuple #[.agg #[.float .f64 4607182418800017408, .float .f64 4246894448610377728], .int .i64 0]) ∧ Below w.heap.size w w' := by
  refine (dAdd_calls 4607182418800017408 0 4246894448610377728 0 w (by decide) (by decide)).mono ?_
  rintro e w' ⟨s, t, rfl, hb, H1, -⟩
  obtain ⟨rfl, rfl⟩ := H1 dlive4 _ dlive1
  rw [dlive4]
  exact ⟨rfl, hb⟩
theorem begins_sum (a : Option Addr) (w : World) (h : IsF w a 3 3 [5057542381537067008, 4607182418800017408, 14280914418391842816]) : Calls Try.prog 17 #[.slice a 3 3] w fun e w' => e = .returned (.tuple #[.agg #[.float .f64 4607182418800017408, .float .f64 0], .int .i64 0]) ∧ Below w.heap.size w w' := by
  refine (dSum_calls a 3 3 _ w h (by decide) dlive7).mono ?_
  rw [dlive3]
  rintro e w' ⟨s, t, rfl, hb, H1, -⟩
  obtain ⟨rfl, rfl⟩ := H1 rfl _ dlive2
  exact ⟨rfl, hb⟩
theorem begins_right (w : World) : Calls Try.prog 6 #[.agg #[.float .f64 4607182418800017408, .float .f64 4607182418800017408]] w fun e w' => e = .returned (.bool false) ∧ Below w.heap.size w w' := by
  refine (dRight_calls 4607182418800017408 4607182418800017408 w (by decide)).mono ?_
  rw [dlive6]
  exact fun e w' h => h

theorem isF_three' (w : World) (B x y z : Nat) (t : TypeId) (hB : w.heap.size = B) : IsF (w.alloc (.cells #[.float .f64 x, .float .f64 y, .float .f64 z] t)) (some ⟨B, 0, none⟩) 3 3 [x, y, z] := hB ▸ isF_three w x y z t

set_option maxRecDepth 100000 in
set_option maxHeartbeats 4000000 in
theorem dBegins_calls (w : World) :
    Calls Try.prog 5 #[] w fun e w' => e = .returned (.bool true) ∧ Below w.heap.size w w' := by
  have r5 := ran_neg Try.prog
  have n8 := dlive8
  go_enter Try.func5, Try.ntmps5
  go_wp2_with fail
  refine Calls.mono (power_m80 _) ?_
  rintro e w ⟨rfl, rfl⟩
  go_wp2_with fail
  refine Calls.mono (begins_add _) ?_
  rintro e w1 ⟨rfl, b1⟩
  go_wp2_with fail
  refine Calls.mono (power_p100 _) ?_
  rintro e w2 ⟨rfl, rfl⟩
  go_wp2_with fail
  refine Calls.mono (power_p100 _) ?_
  rintro e w2 ⟨rfl, rfl⟩
  go_wp2_with fail
  refine Calls.mono (begins_sum _ _ (isF_three' _ _ _ _ _ _ (by simp))) ?_
  rintro e w3 ⟨rfl, b3⟩
  have c0 : w3.cell? ⟨w1.heap.size, 0, none⟩ = some (.float .f64 4607182418800017408) := pcarry b3 (by go_simp)
  have c1 : w3.cell? ⟨w1.heap.size, 1, none⟩ = some (.float .f64 4246894448610377728) := pcarry b3 (by go_simp)
  have bw : Below w.heap.size w w3 := Below.trans (by repeat (first | exact Below.refl _ _ | assumption | refine below_drewN ?_ _ | refine Below.setCell ?_ (by have := b1.size; first | (simp; done) | (simp; omega) | omega) _ | refine Below.alloc ?_ (by have := b1.size; first | (simp; done) | (simp; omega) | omega) _)) (b3.mono (by have := b1.size; first | (simp; done) | (simp; omega) | omega))
  have HS : Hid (w.heap.size ≤ w3.heap.size) := bw.size
  have HS1 : Hid (w1.heap.size + 2 ≤ w3.heap.size) := by have := b3.size; rw [Hid]; simp at this; omega
  clear b1 b3
  go_wp2_with fail
  refine Calls.mono (power_p301 _) ?_
  rintro e w4 ⟨rfl, rfl⟩
  go_wp2_with fail
  refine Calls.mono (dOf_bad _ _ (by decide) dlive5) ?_
  rintro e w5 ⟨rfl, b5⟩
  have d0 : w5.cell? ⟨w1.heap.size, 0, none⟩ = some (.float .f64 4607182418800017408) := pcarry b5 (pcarry (below_alloc1 _ _) c0)
  have d1 : w5.cell? ⟨w1.heap.size, 1, none⟩ = some (.float .f64 4246894448610377728) := pcarry b5 (pcarry (below_alloc1 _ _) c1)
  have e0 : w5.cell? ⟨w3.heap.size, 0, none⟩ = some (.float .f64 4607182418800017408) := pcarry b5 (by go_simp)
  have e1 : w5.cell? ⟨w3.heap.size, 1, none⟩ = some (.float .f64 0) := pcarry b5 (by go_simp)
  have bw5 : Below w.heap.size w w5 := Below.trans (by repeat (first | exact Below.refl _ _ | assumption | refine below_drewN ?_ _ | refine Below.setCell ?_ (by have := HS.out; first | (simp; done) | (simp; omega) | omega) _ | refine Below.alloc ?_ (by have := HS.out; first | (simp; done) | (simp; omega) | omega) _)) (b5.mono (by have := HS.out; first | (simp; done) | (simp; omega) | omega))
  clear b5 bw c0 c1 HS1 HS
  have HS : Hid (w.heap.size ≤ w5.heap.size) := bw5.size
  go_wp2_with fail
  have bw : Below w.heap.size w (w5.alloc (.cells #[.float .f64 0, .float .f64 0] 24)) := Below.alloc bw5 HS.out _
  have f0 : (w5.alloc (.cells #[.float .f64 0, .float .f64 0] 24)).cell? ⟨w1.heap.size, 0, none⟩ = some (.float .f64 4607182418800017408) := pcarry (below_alloc1 _ _) d0
  have f1 : (w5.alloc (.cells #[.float .f64 0, .float .f64 0] 24)).cell? ⟨w1.heap.size, 1, none⟩ = some (.float .f64 4246894448610377728) := pcarry (below_alloc1 _ _) d1
  have g0 : (w5.alloc (.cells #[.float .f64 0, .float .f64 0] 24)).cell? ⟨w3.heap.size, 0, none⟩ = some (.float .f64 4607182418800017408) := pcarry (below_alloc1 _ _) e0
  have g1 : (w5.alloc (.cells #[.float .f64 0, .float .f64 0] 24)).cell? ⟨w3.heap.size, 1, none⟩ = some (.float .f64 0) := pcarry (below_alloc1 _ _) e1
  generalize w5.alloc (.cells #[.float .f64 0, .float .f64 0] 24) = w6 at *
  clear d0 d1 e0 e1 HS bw5
  go_region_with (first
    | (go_at_call 20; refine (power_m80 _).mono ?_; rintro e w9 ⟨rfl, rfl⟩)
    | (go_at_call 18; refine (rSame_yes _ _ _ _ _ (by decide +kernel) (by decide +kernel)).mono ?_; rintro e w9 ⟨rfl, b9⟩; replace f0 := pcarry b9 (v := .float .f64 4607182418800017408) (p := ⟨w1.heap.size, 0, none⟩) (by go_simp); replace f1 := pcarry b9 (v := .float .f64 4246894448610377728) (p := ⟨w1.heap.size, 1, none⟩) (by go_simp); replace g0 := pcarry b9 (v := .float .f64 4607182418800017408) (p := ⟨w3.heap.size, 0, none⟩) (by go_simp); replace g1 := pcarry b9 (v := .float .f64 0) (p := ⟨w3.heap.size, 1, none⟩) (by go_simp); replace bw := ebelow_trans (show Below w.heap.size w _ from by repeat (first | exact bw | refine Below.drew ?_ | refine below_drewN ?_ _)) b9; clear b9)
    | (go_at_call 6; refine (begins_right _).mono ?_; rintro e w9 ⟨rfl, b9⟩; replace bw := ebelow_trans (show Below w.heap.size w _ from by repeat (first | exact bw | refine Below.drew ?_ | refine below_drewN ?_ _)) b9; clear b9))
  all_goals go_wp2_with fail
  all_goals go_ret
  all_goals exact ⟨rfl, by repeat (first | exact bw | refine Below.drew ?_ | refine below_drewN ?_ _)⟩

end

end Go.Proofs.Ytlbaphijmonjoaa.Fp

/- Pairs: what a step makes of two that are right. -/
import Derived.Test.YtckpfohfbfmmnaaDD4
namespace Go.Proofs.Ytckpfohfbfmmnaa
open Go.RowKit EP
attribute [local go_sem] ran_store

theorem below_alloc1' (w : World) (o : Obj) : Below w.heap.size w (w.alloc o) := (Below.refl _ _).alloc (Nat.le_refl _) o

set_option maxRecDepth 100000 in
set_option maxHeartbeats 2000000 in
theorem right_one (b h l : Nat) (w : World) (hh : h < 18446744073709551616) (c0 : w.cell? ⟨b, 0, none⟩ = some (.float .f64 h)) (c1 : w.cell? ⟨b, 1, none⟩ = some (.float .f64 l)) :
    Calls Try.prog 61 #[.slice (some ⟨b, 0, none⟩) 1 1] w fun e w' => e = .returned (.bool (rightP h l)) ∧ Below w.heap.size w w' := by
  have HA : Hid _ := fun w => dRight_calls h l w hh
  clear hh
  go_enter Try.func61, Try.ntmps61
  go_wp2_with fail
  go_loopw [7] (fun i wr => (i = .int .i64 0 ∧ wr = w) ∨ (i = .int .i64 1 ∧ rightP h l = true ∧ Below w.heap.size w wr)) (fun i _ => 1 - (intOf i).toNat)
  case atStart => exact .inl ⟨rfl, rfl⟩
  case round =>
    rcases hrel with ⟨rfl, rfl⟩ | ⟨rfl, hr, hb⟩
    · go_wp2_with fail
      refine Calls.mono (HA.out _) ?_
      rintro e w1 ⟨rfl, b1⟩
      have b2 : Below wr.heap.size wr w1 := ebelow_trans (below_alloc1' _ _) b1
      cases hq : rightP h l with
      | false =>
        go_wp2_with fail
        go_ret
        rw [hq]
        exact ⟨rfl, b2⟩
      | true =>
        go_wp2_with fail
        go_round
        case rel => exact .inr ⟨rfl, hq, b2⟩
        case measure => simp [intOf]
    · have HR : Hid (rightP h l = true) := hr
      clear hr
      go_wp2_with fail
      go_ret
      rw [HR.out]
      exact ⟨rfl, hb⟩

/-- What two pairs that are right come to; else two noughts and ErrRange. -/
def errI (ok : Bool) : Int := if ok then 0 else 2
def AnsP (w : World) (ok : Bool) (o : Option (Nat × Nat)) (e : Ending) (w' : World) : Prop :=
  ∃ s t, e = .returned (.tuple #[.agg #[.float .f64 s, .float .f64 t], .int .i64 (errI ok)]) ∧ Below w.heap.size w w' ∧ (ok = true → ∀ p, o = some p → s = p.1 ∧ t = p.2) ∧ (ok = false → s = 0 ∧ t = 0)

set_option maxRecDepth 100000 in
set_option maxHeartbeats 4000000 in
theorem done_sum (b xh xl yh yl : Nat) (w : World) (hx : xh < 18446744073709551616) (hy : yh < 18446744073709551616) (c0 : w.cell? ⟨b, 0, none⟩ = some (.float .f64 xh)) (c1 : w.cell? ⟨b, 1, none⟩ = some (.float .f64 xl)) :
    Calls Try.prog 58 #[.func (.func 72) #[.agg #[.float .f64 xh, .float .f64 xl]] #[], .agg #[.float .f64 yh, .float .f64 yl], .slice (some ⟨b, 0, none⟩) 1 1] w (AnsP w (rightP yh yl && rightP xh xl) (sumP xh xl yh yl)) := by
  have HA : Hid _ := fun w => dRight_calls yh yl w hy
  have HB : Hid (∀ w', Below w.heap.size w w' → Calls Try.prog 61 #[.slice (some ⟨b, 0, none⟩) 1 1] w' fun e w'' => e = .returned (.bool (rightP xh xl)) ∧ Below w'.heap.size w' w'') := fun w' hb => right_one b xh xl w' hx (pcarry hb c0) (pcarry hb c1)
  clear hx hy c0 c1
  generalize rightP yh yl = q1 at *
  generalize rightP xh xl = q2 at *
  go_enter Try.func58, Try.ntmps58
  go_wp2_with fail
  refine Calls.mono (HA.out _) ?_
  rintro e w1 ⟨rfl, b1⟩
  have m100 : w1.cell? ⟨w.heap.size, 0, none⟩ = some (.float .f64 yh) := pcarry b1 (by first | exact m000 | go_simp)
  have k100 : w1.frozen? ⟨w.heap.size, 0, none⟩ = false := pcarryF (v := .float .f64 yh) b1 (by first | exact m000 | go_simp) (by first | exact k000 | go_simp)
  have m101 : w1.cell? ⟨w.heap.size, 1, none⟩ = some (.float .f64 yl) := pcarry b1 (by first | exact m001 | go_simp)
  have k101 : w1.frozen? ⟨w.heap.size, 1, none⟩ = false := pcarryF (v := .float .f64 yl) b1 (by first | exact m001 | go_simp) (by first | exact k001 | go_simp)
  have m110 : w1.cell? ⟨w.heap.size + 1, 0, none⟩ = some (.float .f64 0) := pcarry b1 (by first | exact m010 | go_simp)
  have k110 : w1.frozen? ⟨w.heap.size + 1, 0, none⟩ = false := pcarryF (v := .float .f64 0) b1 (by first | exact m010 | go_simp) (by first | exact k010 | go_simp)
  have m111 : w1.cell? ⟨w.heap.size + 1, 1, none⟩ = some (.float .f64 0) := pcarry b1 (by first | exact m011 | go_simp)
  have k111 : w1.frozen? ⟨w.heap.size + 1, 1, none⟩ = false := pcarryF (v := .float .f64 0) b1 (by first | exact m011 | go_simp) (by first | exact k011 | go_simp)
  have bw1 : Below w.heap.size w w1 := Below.trans (by repeat (first | exact Below.refl _ _ | assumption | refine below_drewN ?_ _ | refine Below.setCell ?_ (by first | (simp; done) | (simp; omega) | omega) _ | refine Below.alloc ?_ (by first | (simp; done) | (simp; omega) | omega) _)) (b1.mono (by first | (simp; done) | (simp; omega) | omega))
  have bs1 := bw1.size
  clear b1
  cases q1 with
  | false =>
    go_wp2_with fail
    refine bodyPost_ret (v := .tuple #[.agg #[.float .f64 0, .float .f64 0], .int .i64 2]) (by simp [results, Try.results58, go_sem, m110, m111]) rfl ⟨0, 0, rfl, by repeat (first | exact Below.refl _ _ | assumption | refine below_drewN ?_ _ | refine Below.setCell ?_ (by first | (simp; done) | (simp; omega) | omega) _ | refine Below.alloc ?_ (by first | (simp; done) | (simp; omega) | omega) _), (fun h => by cases h), (fun _ => ⟨rfl, rfl⟩)⟩
  | true =>
  go_wp2_with fail
  refine Calls.mono (HB.out _ bw1) ?_
  rintro e w2 ⟨rfl, b2⟩
  have m200 : w2.cell? ⟨w.heap.size, 0, none⟩ = some (.float .f64 yh) := pcarry b2 (by first | exact m100 | go_simp)
  have k200 : w2.frozen? ⟨w.heap.size, 0, none⟩ = false := pcarryF (v := .float .f64 yh) b2 (by first | exact m100 | go_simp) (by first | exact k100 | go_simp)
  have m201 : w2.cell? ⟨w.heap.size, 1, none⟩ = some (.float .f64 yl) := pcarry b2 (by first | exact m101 | go_simp)
  have k201 : w2.frozen? ⟨w.heap.size, 1, none⟩ = false := pcarryF (v := .float .f64 yl) b2 (by first | exact m101 | go_simp) (by first | exact k101 | go_simp)
  have m210 : w2.cell? ⟨w.heap.size + 1, 0, none⟩ = some (.float .f64 0) := pcarry b2 (by first | exact m110 | go_simp)
  have k210 : w2.frozen? ⟨w.heap.size + 1, 0, none⟩ = false := pcarryF (v := .float .f64 0) b2 (by first | exact m110 | go_simp) (by first | exact k110 | go_simp)
  have m211 : w2.cell? ⟨w.heap.size + 1, 1, none⟩ = some (.float .f64 0) := pcarry b2 (by first | exact m111 | go_simp)
  have k211 : w2.frozen? ⟨w.heap.size + 1, 1, none⟩ = false := pcarryF (v := .float .f64 0) b2 (by first | exact m111 | go_simp) (by first | exact k111 | go_simp)
  have bw2 : Below w.heap.size w w2 := bw1.trans (b2.mono bs1)
  have bs2 := bw2.size
  clear m100 k100 m101 k101 m110 k110 m111 k111
  clear b2
  cases q2 with
  | false =>
    go_wp2_with fail
    refine bodyPost_ret (v := .tuple #[.agg #[.float .f64 0, .float .f64 0], .int .i64 2]) (by simp [results, Try.results58, go_sem, m210, m211]) rfl ⟨0, 0, rfl, by repeat (first | exact Below.refl _ _ | assumption | refine below_drewN ?_ _ | refine Below.setCell ?_ (by first | (simp; done) | (simp; omega) | omega) _ | refine Below.alloc ?_ (by first | (simp; done) | (simp; omega) | omega) _), (fun h => by cases h), (fun _ => ⟨rfl, rfl⟩)⟩
  | true =>
  go_wp2_with fail
  refine Calls.mono (dsum_calls xh xl yh yl _) ?_
  rintro e w3 ⟨s, t, rfl, b3, H3⟩
  have m300 : w3.cell? ⟨w.heap.size, 0, none⟩ = some (.float .f64 yh) := pcarry b3 (by first | exact m200 | go_simp)
  have k300 : w3.frozen? ⟨w.heap.size, 0, none⟩ = false := pcarryF (v := .float .f64 yh) b3 (by first | exact m200 | go_simp) (by first | exact k200 | go_simp)
  have m301 : w3.cell? ⟨w.heap.size, 1, none⟩ = some (.float .f64 yl) := pcarry b3 (by first | exact m201 | go_simp)
  have k301 : w3.frozen? ⟨w.heap.size, 1, none⟩ = false := pcarryF (v := .float .f64 yl) b3 (by first | exact m201 | go_simp) (by first | exact k201 | go_simp)
  have m310 : w3.cell? ⟨w.heap.size + 1, 0, none⟩ = some (.float .f64 0) := pcarry b3 (by first | exact m210 | go_simp)
  have k310 : w3.frozen? ⟨w.heap.size + 1, 0, none⟩ = false := pcarryF (v := .float .f64 0) b3 (by first | exact m210 | go_simp) (by first | exact k210 | go_simp)
  have m311 : w3.cell? ⟨w.heap.size + 1, 1, none⟩ = some (.float .f64 0) := pcarry b3 (by first | exact m211 | go_simp)
  have k311 : w3.frozen? ⟨w.heap.size + 1, 1, none⟩ = false := pcarryF (v := .float .f64 0) b3 (by first | exact m211 | go_simp) (by first | exact k211 | go_simp)
  have bw3 : Below w.heap.size w w3 := bw2.trans (b3.mono bs2)
  have bs3 := bw3.size
  clear m200 k200 m201 k201 m210 k210 m211 k211
  clear b3
  have H3' : Hid (∀ p, sumP xh xl yh yl = some p → s = p.1 ∧ t = p.2) := H3
  clear H3
  go_wp2_with fail
  refine bodyPost_ret (v := .tuple #[.agg #[.float .f64 s, .float .f64 t], .int .i64 0]) (by simp [results, Try.results58, go_sem, m310, m311]) rfl ⟨s, t, rfl, by repeat (first | exact Below.refl _ _ | assumption | refine below_drewN ?_ _ | refine Below.setCell ?_ (by first | (simp; done) | (simp; omega) | omega) _ | refine Below.alloc ?_ (by first | (simp; done) | (simp; omega) | omega) _), (fun _ => H3'.out), (fun h => by cases h)⟩

set_option maxRecDepth 100000 in
set_option maxHeartbeats 4000000 in
theorem done_difference (b xh xl yh yl : Nat) (w : World) (hx : xh < 18446744073709551616) (hy : yh < 18446744073709551616) (c0 : w.cell? ⟨b, 0, none⟩ = some (.float .f64 xh)) (c1 : w.cell? ⟨b, 1, none⟩ = some (.float .f64 xl)) :
    Calls Try.prog 58 #[.func (.func 79) #[.agg #[.float .f64 xh, .float .f64 xl]] #[], .agg #[.float .f64 yh, .float .f64 yl], .slice (some ⟨b, 0, none⟩) 1 1] w (AnsP w (rightP yh yl && rightP xh xl) (diffP xh xl yh yl)) := by
  have HA : Hid _ := fun w => dRight_calls yh yl w hy
  have HB : Hid (∀ w', Below w.heap.size w w' → Calls Try.prog 61 #[.slice (some ⟨b, 0, none⟩) 1 1] w' fun e w'' => e = .returned (.bool (rightP xh xl)) ∧ Below w'.heap.size w' w'') := fun w' hb => right_one b xh xl w' hx (pcarry hb c0) (pcarry hb c1)
  clear hx hy c0 c1
  generalize rightP yh yl = q1 at *
  generalize rightP xh xl = q2 at *
  go_enter Try.func58, Try.ntmps58
  go_wp2_with fail
  refine Calls.mono (HA.out _) ?_
  rintro e w1 ⟨rfl, b1⟩
  have m100 : w1.cell? ⟨w.heap.size, 0, none⟩ = some (.float .f64 yh) := pcarry b1 (by first | exact m000 | go_simp)
  have k100 : w1.frozen? ⟨w.heap.size, 0, none⟩ = false := pcarryF (v := .float .f64 yh) b1 (by first | exact m000 | go_simp) (by first | exact k000 | go_simp)
  have m101 : w1.cell? ⟨w.heap.size, 1, none⟩ = some (.float .f64 yl) := pcarry b1 (by first | exact m001 | go_simp)
  have k101 : w1.frozen? ⟨w.heap.size, 1, none⟩ = false := pcarryF (v := .float .f64 yl) b1 (by first | exact m001 | go_simp) (by first | exact k001 | go_simp)
  have m110 : w1.cell? ⟨w.heap.size + 1, 0, none⟩ = some (.float .f64 0) := pcarry b1 (by first | exact m010 | go_simp)
  have k110 : w1.frozen? ⟨w.heap.size + 1, 0, none⟩ = false := pcarryF (v := .float .f64 0) b1 (by first | exact m010 | go_simp) (by first | exact k010 | go_simp)
  have m111 : w1.cell? ⟨w.heap.size + 1, 1, none⟩ = some (.float .f64 0) := pcarry b1 (by first | exact m011 | go_simp)
  have k111 : w1.frozen? ⟨w.heap.size + 1, 1, none⟩ = false := pcarryF (v := .float .f64 0) b1 (by first | exact m011 | go_simp) (by first | exact k011 | go_simp)
  have bw1 : Below w.heap.size w w1 := Below.trans (by repeat (first | exact Below.refl _ _ | assumption | refine below_drewN ?_ _ | refine Below.setCell ?_ (by first | (simp; done) | (simp; omega) | omega) _ | refine Below.alloc ?_ (by first | (simp; done) | (simp; omega) | omega) _)) (b1.mono (by first | (simp; done) | (simp; omega) | omega))
  have bs1 := bw1.size
  clear b1
  cases q1 with
  | false =>
    go_wp2_with fail
    refine bodyPost_ret (v := .tuple #[.agg #[.float .f64 0, .float .f64 0], .int .i64 2]) (by simp [results, Try.results58, go_sem, m110, m111]) rfl ⟨0, 0, rfl, by repeat (first | exact Below.refl _ _ | assumption | refine below_drewN ?_ _ | refine Below.setCell ?_ (by first | (simp; done) | (simp; omega) | omega) _ | refine Below.alloc ?_ (by first | (simp; done) | (simp; omega) | omega) _), (fun h => by cases h), (fun _ => ⟨rfl, rfl⟩)⟩
  | true =>
  go_wp2_with fail
  refine Calls.mono (HB.out _ bw1) ?_
  rintro e w2 ⟨rfl, b2⟩
  have m200 : w2.cell? ⟨w.heap.size, 0, none⟩ = some (.float .f64 yh) := pcarry b2 (by first | exact m100 | go_simp)
  have k200 : w2.frozen? ⟨w.heap.size, 0, none⟩ = false := pcarryF (v := .float .f64 yh) b2 (by first | exact m100 | go_simp) (by first | exact k100 | go_simp)
  have m201 : w2.cell? ⟨w.heap.size, 1, none⟩ = some (.float .f64 yl) := pcarry b2 (by first | exact m101 | go_simp)
  have k201 : w2.frozen? ⟨w.heap.size, 1, none⟩ = false := pcarryF (v := .float .f64 yl) b2 (by first | exact m101 | go_simp) (by first | exact k101 | go_simp)
  have m210 : w2.cell? ⟨w.heap.size + 1, 0, none⟩ = some (.float .f64 0) := pcarry b2 (by first | exact m110 | go_simp)
  have k210 : w2.frozen? ⟨w.heap.size + 1, 0, none⟩ = false := pcarryF (v := .float .f64 0) b2 (by first | exact m110 | go_simp) (by first | exact k110 | go_simp)
  have m211 : w2.cell? ⟨w.heap.size + 1, 1, none⟩ = some (.float .f64 0) := pcarry b2 (by first | exact m111 | go_simp)
  have k211 : w2.frozen? ⟨w.heap.size + 1, 1, none⟩ = false := pcarryF (v := .float .f64 0) b2 (by first | exact m111 | go_simp) (by first | exact k111 | go_simp)
  have bw2 : Below w.heap.size w w2 := bw1.trans (b2.mono bs1)
  have bs2 := bw2.size
  clear m100 k100 m101 k101 m110 k110 m111 k111
  clear b2
  cases q2 with
  | false =>
    go_wp2_with fail
    refine bodyPost_ret (v := .tuple #[.agg #[.float .f64 0, .float .f64 0], .int .i64 2]) (by simp [results, Try.results58, go_sem, m210, m211]) rfl ⟨0, 0, rfl, by repeat (first | exact Below.refl _ _ | assumption | refine below_drewN ?_ _ | refine Below.setCell ?_ (by first | (simp; done) | (simp; omega) | omega) _ | refine Below.alloc ?_ (by first | (simp; done) | (simp; omega) | omega) _), (fun h => by cases h), (fun _ => ⟨rfl, rfl⟩)⟩
  | true =>
  go_wp2_with fail
  refine Calls.mono (ddiff_calls xh xl yh yl _) ?_
  rintro e w3 ⟨s, t, rfl, b3, H3⟩
  have m300 : w3.cell? ⟨w.heap.size, 0, none⟩ = some (.float .f64 yh) := pcarry b3 (by first | exact m200 | go_simp)
  have k300 : w3.frozen? ⟨w.heap.size, 0, none⟩ = false := pcarryF (v := .float .f64 yh) b3 (by first | exact m200 | go_simp) (by first | exact k200 | go_simp)
  have m301 : w3.cell? ⟨w.heap.size, 1, none⟩ = some (.float .f64 yl) := pcarry b3 (by first | exact m201 | go_simp)
  have k301 : w3.frozen? ⟨w.heap.size, 1, none⟩ = false := pcarryF (v := .float .f64 yl) b3 (by first | exact m201 | go_simp) (by first | exact k201 | go_simp)
  have m310 : w3.cell? ⟨w.heap.size + 1, 0, none⟩ = some (.float .f64 0) := pcarry b3 (by first | exact m210 | go_simp)
  have k310 : w3.frozen? ⟨w.heap.size + 1, 0, none⟩ = false := pcarryF (v := .float .f64 0) b3 (by first | exact m210 | go_simp) (by first | exact k210 | go_simp)
  have m311 : w3.cell? ⟨w.heap.size + 1, 1, none⟩ = some (.float .f64 0) := pcarry b3 (by first | exact m211 | go_simp)
  have k311 : w3.frozen? ⟨w.heap.size + 1, 1, none⟩ = false := pcarryF (v := .float .f64 0) b3 (by first | exact m211 | go_simp) (by first | exact k211 | go_simp)
  have bw3 : Below w.heap.size w w3 := bw2.trans (b3.mono bs2)
  have bs3 := bw3.size
  clear m200 k200 m201 k201 m210 k210 m211 k211
  clear b3
  have H3' : Hid (∀ p, diffP xh xl yh yl = some p → s = p.1 ∧ t = p.2) := H3
  clear H3
  go_wp2_with fail
  refine bodyPost_ret (v := .tuple #[.agg #[.float .f64 s, .float .f64 t], .int .i64 0]) (by simp [results, Try.results58, go_sem, m310, m311]) rfl ⟨s, t, rfl, by repeat (first | exact Below.refl _ _ | assumption | refine below_drewN ?_ _ | refine Below.setCell ?_ (by first | (simp; done) | (simp; omega) | omega) _ | refine Below.alloc ?_ (by first | (simp; done) | (simp; omega) | omega) _), (fun _ => H3'.out), (fun h => by cases h)⟩

set_option maxRecDepth 100000 in
set_option maxHeartbeats 4000000 in
theorem done_product (b xh xl yh yl : Nat) (w : World) (hx : xh < 18446744073709551616) (hy : yh < 18446744073709551616) (c0 : w.cell? ⟨b, 0, none⟩ = some (.float .f64 xh)) (c1 : w.cell? ⟨b, 1, none⟩ = some (.float .f64 xl)) :
    Calls Try.prog 58 #[.func (.func 80) #[.agg #[.float .f64 xh, .float .f64 xl]] #[], .agg #[.float .f64 yh, .float .f64 yl], .slice (some ⟨b, 0, none⟩) 1 1] w (AnsP w (rightP yh yl && rightP xh xl) (prodP xh xl yh yl)) := by
  have HA : Hid _ := fun w => dRight_calls yh yl w hy
  have HB : Hid (∀ w', Below w.heap.size w w' → Calls Try.prog 61 #[.slice (some ⟨b, 0, none⟩) 1 1] w' fun e w'' => e = .returned (.bool (rightP xh xl)) ∧ Below w'.heap.size w' w'') := fun w' hb => right_one b xh xl w' hx (pcarry hb c0) (pcarry hb c1)
  clear hx hy c0 c1
  generalize rightP yh yl = q1 at *
  generalize rightP xh xl = q2 at *
  go_enter Try.func58, Try.ntmps58
  go_wp2_with fail
  refine Calls.mono (HA.out _) ?_
  rintro e w1 ⟨rfl, b1⟩
  have m100 : w1.cell? ⟨w.heap.size, 0, none⟩ = some (.float .f64 yh) := pcarry b1 (by first | exact m000 | go_simp)
  have k100 : w1.frozen? ⟨w.heap.size, 0, none⟩ = false := pcarryF (v := .float .f64 yh) b1 (by first | exact m000 | go_simp) (by first | exact k000 | go_simp)
  have m101 : w1.cell? ⟨w.heap.size, 1, none⟩ = some (.float .f64 yl) := pcarry b1 (by first | exact m001 | go_simp)
  have k101 : w1.frozen? ⟨w.heap.size, 1, none⟩ = false := pcarryF (v := .float .f64 yl) b1 (by first | exact m001 | go_simp) (by first | exact k001 | go_simp)
  have m110 : w1.cell? ⟨w.heap.size + 1, 0, none⟩ = some (.float .f64 0) := pcarry b1 (by first | exact m010 | go_simp)
  have k110 : w1.frozen? ⟨w.heap.size + 1, 0, none⟩ = false := pcarryF (v := .float .f64 0) b1 (by first | exact m010 | go_simp) (by first | exact k010 | go_simp)
  have m111 : w1.cell? ⟨w.heap.size + 1, 1, none⟩ = some (.float .f64 0) := pcarry b1 (by first | exact m011 | go_simp)
  have k111 : w1.frozen? ⟨w.heap.size + 1, 1, none⟩ = false := pcarryF (v := .float .f64 0) b1 (by first | exact m011 | go_simp) (by first | exact k011 | go_simp)
  have bw1 : Below w.heap.size w w1 := Below.trans (by repeat (first | exact Below.refl _ _ | assumption | refine below_drewN ?_ _ | refine Below.setCell ?_ (by first | (simp; done) | (simp; omega) | omega) _ | refine Below.alloc ?_ (by first | (simp; done) | (simp; omega) | omega) _)) (b1.mono (by first | (simp; done) | (simp; omega) | omega))
  have bs1 := bw1.size
  clear b1
  cases q1 with
  | false =>
    go_wp2_with fail
    refine bodyPost_ret (v := .tuple #[.agg #[.float .f64 0, .float .f64 0], .int .i64 2]) (by simp [results, Try.results58, go_sem, m110, m111]) rfl ⟨0, 0, rfl, by repeat (first | exact Below.refl _ _ | assumption | refine below_drewN ?_ _ | refine Below.setCell ?_ (by first | (simp; done) | (simp; omega) | omega) _ | refine Below.alloc ?_ (by first | (simp; done) | (simp; omega) | omega) _), (fun h => by cases h), (fun _ => ⟨rfl, rfl⟩)⟩
  | true =>
  go_wp2_with fail
  refine Calls.mono (HB.out _ bw1) ?_
  rintro e w2 ⟨rfl, b2⟩
  have m200 : w2.cell? ⟨w.heap.size, 0, none⟩ = some (.float .f64 yh) := pcarry b2 (by first | exact m100 | go_simp)
  have k200 : w2.frozen? ⟨w.heap.size, 0, none⟩ = false := pcarryF (v := .float .f64 yh) b2 (by first | exact m100 | go_simp) (by first | exact k100 | go_simp)
  have m201 : w2.cell? ⟨w.heap.size, 1, none⟩ = some (.float .f64 yl) := pcarry b2 (by first | exact m101 | go_simp)
  have k201 : w2.frozen? ⟨w.heap.size, 1, none⟩ = false := pcarryF (v := .float .f64 yl) b2 (by first | exact m101 | go_simp) (by first | exact k101 | go_simp)
  have m210 : w2.cell? ⟨w.heap.size + 1, 0, none⟩ = some (.float .f64 0) := pcarry b2 (by first | exact m110 | go_simp)
  have k210 : w2.frozen? ⟨w.heap.size + 1, 0, none⟩ = false := pcarryF (v := .float .f64 0) b2 (by first | exact m110 | go_simp) (by first | exact k110 | go_simp)
  have m211 : w2.cell? ⟨w.heap.size + 1, 1, none⟩ = some (.float .f64 0) := pcarry b2 (by first | exact m111 | go_simp)
  have k211 : w2.frozen? ⟨w.heap.size + 1, 1, none⟩ = false := pcarryF (v := .float .f64 0) b2 (by first | exact m111 | go_simp) (by first | exact k111 | go_simp)
  have bw2 : Below w.heap.size w w2 := bw1.trans (b2.mono bs1)
  have bs2 := bw2.size
  clear m100 k100 m101 k101 m110 k110 m111 k111
  clear b2
  cases q2 with
  | false =>
    go_wp2_with fail
    refine bodyPost_ret (v := .tuple #[.agg #[.float .f64 0, .float .f64 0], .int .i64 2]) (by simp [results, Try.results58, go_sem, m210, m211]) rfl ⟨0, 0, rfl, by repeat (first | exact Below.refl _ _ | assumption | refine below_drewN ?_ _ | refine Below.setCell ?_ (by first | (simp; done) | (simp; omega) | omega) _ | refine Below.alloc ?_ (by first | (simp; done) | (simp; omega) | omega) _), (fun h => by cases h), (fun _ => ⟨rfl, rfl⟩)⟩
  | true =>
  go_wp2_with fail
  refine Calls.mono (dprod_calls xh xl yh yl _) ?_
  rintro e w3 ⟨s, t, rfl, b3, H3⟩
  have m300 : w3.cell? ⟨w.heap.size, 0, none⟩ = some (.float .f64 yh) := pcarry b3 (by first | exact m200 | go_simp)
  have k300 : w3.frozen? ⟨w.heap.size, 0, none⟩ = false := pcarryF (v := .float .f64 yh) b3 (by first | exact m200 | go_simp) (by first | exact k200 | go_simp)
  have m301 : w3.cell? ⟨w.heap.size, 1, none⟩ = some (.float .f64 yl) := pcarry b3 (by first | exact m201 | go_simp)
  have k301 : w3.frozen? ⟨w.heap.size, 1, none⟩ = false := pcarryF (v := .float .f64 yl) b3 (by first | exact m201 | go_simp) (by first | exact k201 | go_simp)
  have m310 : w3.cell? ⟨w.heap.size + 1, 0, none⟩ = some (.float .f64 0) := pcarry b3 (by first | exact m210 | go_simp)
  have k310 : w3.frozen? ⟨w.heap.size + 1, 0, none⟩ = false := pcarryF (v := .float .f64 0) b3 (by first | exact m210 | go_simp) (by first | exact k210 | go_simp)
  have m311 : w3.cell? ⟨w.heap.size + 1, 1, none⟩ = some (.float .f64 0) := pcarry b3 (by first | exact m211 | go_simp)
  have k311 : w3.frozen? ⟨w.heap.size + 1, 1, none⟩ = false := pcarryF (v := .float .f64 0) b3 (by first | exact m211 | go_simp) (by first | exact k211 | go_simp)
  have bw3 : Below w.heap.size w w3 := bw2.trans (b3.mono bs2)
  have bs3 := bw3.size
  clear m200 k200 m201 k201 m210 k210 m211 k211
  clear b3
  have H3' : Hid (∀ p, prodP xh xl yh yl = some p → s = p.1 ∧ t = p.2) := H3
  clear H3
  go_wp2_with fail
  refine bodyPost_ret (v := .tuple #[.agg #[.float .f64 s, .float .f64 t], .int .i64 0]) (by simp [results, Try.results58, go_sem, m310, m311]) rfl ⟨s, t, rfl, by repeat (first | exact Below.refl _ _ | assumption | refine below_drewN ?_ _ | refine Below.setCell ?_ (by first | (simp; done) | (simp; omega) | omega) _ | refine Below.alloc ?_ (by first | (simp; done) | (simp; omega) | omega) _), (fun _ => H3'.out), (fun h => by cases h)⟩

set_option maxRecDepth 100000 in
set_option maxHeartbeats 4000000 in
theorem done_quotient (b xh xl yh yl : Nat) (w : World) (hx : xh < 18446744073709551616) (hy : yh < 18446744073709551616) (c0 : w.cell? ⟨b, 0, none⟩ = some (.float .f64 xh)) (c1 : w.cell? ⟨b, 1, none⟩ = some (.float .f64 xl)) :
    Calls Try.prog 58 #[.func (.func 81) #[.agg #[.float .f64 xh, .float .f64 xl]] #[], .agg #[.float .f64 yh, .float .f64 yl], .slice (some ⟨b, 0, none⟩) 1 1] w (AnsP w (rightP yh yl && rightP xh xl) (quoP xh xl yh yl)) := by
  have HA : Hid _ := fun w => dRight_calls yh yl w hy
  have HB : Hid (∀ w', Below w.heap.size w w' → Calls Try.prog 61 #[.slice (some ⟨b, 0, none⟩) 1 1] w' fun e w'' => e = .returned (.bool (rightP xh xl)) ∧ Below w'.heap.size w' w'') := fun w' hb => right_one b xh xl w' hx (pcarry hb c0) (pcarry hb c1)
  clear hx hy c0 c1
  generalize rightP yh yl = q1 at *
  generalize rightP xh xl = q2 at *
  go_enter Try.func58, Try.ntmps58
  go_wp2_with fail
  refine Calls.mono (HA.out _) ?_
  rintro e w1 ⟨rfl, b1⟩
  have m100 : w1.cell? ⟨w.heap.size, 0, none⟩ = some (.float .f64 yh) := pcarry b1 (by first | exact m000 | go_simp)
  have k100 : w1.frozen? ⟨w.heap.size, 0, none⟩ = false := pcarryF (v := .float .f64 yh) b1 (by first | exact m000 | go_simp) (by first | exact k000 | go_simp)
  have m101 : w1.cell? ⟨w.heap.size, 1, none⟩ = some (.float .f64 yl) := pcarry b1 (by first | exact m001 | go_simp)
  have k101 : w1.frozen? ⟨w.heap.size, 1, none⟩ = false := pcarryF (v := .float .f64 yl) b1 (by first | exact m001 | go_simp) (by first | exact k001 | go_simp)
  have m110 : w1.cell? ⟨w.heap.size + 1, 0, none⟩ = some (.float .f64 0) := pcarry b1 (by first | exact m010 | go_simp)
  have k110 : w1.frozen? ⟨w.heap.size + 1, 0, none⟩ = false := pcarryF (v := .float .f64 0) b1 (by first | exact m010 | go_simp) (by first | exact k010 | go_simp)
  have m111 : w1.cell? ⟨w.heap.size + 1, 1, none⟩ = some (.float .f64 0) := pcarry b1 (by first | exact m011 | go_simp)
  have k111 : w1.frozen? ⟨w.heap.size + 1, 1, none⟩ = false := pcarryF (v := .float .f64 0) b1 (by first | exact m011 | go_simp) (by first | exact k011 | go_simp)
  have bw1 : Below w.heap.size w w1 := Below.trans (by repeat (first | exact Below.refl _ _ | assumption | refine below_drewN ?_ _ | refine Below.setCell ?_ (by first | (simp; done) | (simp; omega) | omega) _ | refine Below.alloc ?_ (by first | (simp; done) | (simp; omega) | omega) _)) (b1.mono (by first | (simp; done) | (simp; omega) | omega))
  have bs1 := bw1.size
  clear b1
  cases q1 with
  | false =>
    go_wp2_with fail
    refine bodyPost_ret (v := .tuple #[.agg #[.float .f64 0, .float .f64 0], .int .i64 2]) (by simp [results, Try.results58, go_sem, m110, m111]) rfl ⟨0, 0, rfl, by repeat (first | exact Below.refl _ _ | assumption | refine below_drewN ?_ _ | refine Below.setCell ?_ (by first | (simp; done) | (simp; omega) | omega) _ | refine Below.alloc ?_ (by first | (simp; done) | (simp; omega) | omega) _), (fun h => by cases h), (fun _ => ⟨rfl, rfl⟩)⟩
  | true =>
  go_wp2_with fail
  refine Calls.mono (HB.out _ bw1) ?_
  rintro e w2 ⟨rfl, b2⟩
  have m200 : w2.cell? ⟨w.heap.size, 0, none⟩ = some (.float .f64 yh) := pcarry b2 (by first | exact m100 | go_simp)
  have k200 : w2.frozen? ⟨w.heap.size, 0, none⟩ = false := pcarryF (v := .float .f64 yh) b2 (by first | exact m100 | go_simp) (by first | exact k100 | go_simp)
  have m201 : w2.cell? ⟨w.heap.size, 1, none⟩ = some (.float .f64 yl) := pcarry b2 (by first | exact m101 | go_simp)
  have k201 : w2.frozen? ⟨w.heap.size, 1, none⟩ = false := pcarryF (v := .float .f64 yl) b2 (by first | exact m101 | go_simp) (by first | exact k101 | go_simp)
  have m210 : w2.cell? ⟨w.heap.size + 1, 0, none⟩ = some (.float .f64 0) := pcarry b2 (by first | exact m110 | go_simp)
  have k210 : w2.frozen? ⟨w.heap.size + 1, 0, none⟩ = false := pcarryF (v := .float .f64 0) b2 (by first | exact m110 | go_simp) (by first | exact k110 | go_simp)
  have m211 : w2.cell? ⟨w.heap.size + 1, 1, none⟩ = some (.float .f64 0) := pcarry b2 (by first | exact m111 | go_simp)
  have k211 : w2.frozen? ⟨w.heap.size + 1, 1, none⟩ = false := pcarryF (v := .float .f64 0) b2 (by first | exact m111 | go_simp) (by first | exact k111 | go_simp)
  have bw2 : Below w.heap.size w w2 := bw1.trans (b2.mono bs1)
  have bs2 := bw2.size
  clear m100 k100 m101 k101 m110 k110 m111 k111
  clear b2
  cases q2 with
  | false =>
    go_wp2_with fail
    refine bodyPost_ret (v := .tuple #[.agg #[.float .f64 0, .float .f64 0], .int .i64 2]) (by simp [results, Try.results58, go_sem, m210, m211]) rfl ⟨0, 0, rfl, by repeat (first | exact Below.refl _ _ | assumption | refine below_drewN ?_ _ | refine Below.setCell ?_ (by first | (simp; done) | (simp; omega) | omega) _ | refine Below.alloc ?_ (by first | (simp; done) | (simp; omega) | omega) _), (fun h => by cases h), (fun _ => ⟨rfl, rfl⟩)⟩
  | true =>
  go_wp2_with fail
  refine Calls.mono (dquo_calls xh xl yh yl _) ?_
  rintro e w3 ⟨s, t, rfl, b3, H3⟩
  have m300 : w3.cell? ⟨w.heap.size, 0, none⟩ = some (.float .f64 yh) := pcarry b3 (by first | exact m200 | go_simp)
  have k300 : w3.frozen? ⟨w.heap.size, 0, none⟩ = false := pcarryF (v := .float .f64 yh) b3 (by first | exact m200 | go_simp) (by first | exact k200 | go_simp)
  have m301 : w3.cell? ⟨w.heap.size, 1, none⟩ = some (.float .f64 yl) := pcarry b3 (by first | exact m201 | go_simp)
  have k301 : w3.frozen? ⟨w.heap.size, 1, none⟩ = false := pcarryF (v := .float .f64 yl) b3 (by first | exact m201 | go_simp) (by first | exact k201 | go_simp)
  have m310 : w3.cell? ⟨w.heap.size + 1, 0, none⟩ = some (.float .f64 0) := pcarry b3 (by first | exact m210 | go_simp)
  have k310 : w3.frozen? ⟨w.heap.size + 1, 0, none⟩ = false := pcarryF (v := .float .f64 0) b3 (by first | exact m210 | go_simp) (by first | exact k210 | go_simp)
  have m311 : w3.cell? ⟨w.heap.size + 1, 1, none⟩ = some (.float .f64 0) := pcarry b3 (by first | exact m211 | go_simp)
  have k311 : w3.frozen? ⟨w.heap.size + 1, 1, none⟩ = false := pcarryF (v := .float .f64 0) b3 (by first | exact m211 | go_simp) (by first | exact k211 | go_simp)
  have bw3 : Below w.heap.size w w3 := bw2.trans (b3.mono bs2)
  have bs3 := bw3.size
  clear m200 k200 m201 k201 m210 k210 m211 k211
  clear b3
  have H3' : Hid (∀ p, quoP xh xl yh yl = some p → s = p.1 ∧ t = p.2) := H3
  clear H3
  go_wp2_with fail
  refine bodyPost_ret (v := .tuple #[.agg #[.float .f64 s, .float .f64 t], .int .i64 0]) (by simp [results, Try.results58, go_sem, m310, m311]) rfl ⟨s, t, rfl, by repeat (first | exact Below.refl _ _ | assumption | refine below_drewN ?_ _ | refine Below.setCell ?_ (by first | (simp; done) | (simp; omega) | omega) _ | refine Below.alloc ?_ (by first | (simp; done) | (simp; omega) | omega) _), (fun _ => H3'.out), (fun h => by cases h)⟩
end Go.Proofs.Ytckpfohfbfmmnaa

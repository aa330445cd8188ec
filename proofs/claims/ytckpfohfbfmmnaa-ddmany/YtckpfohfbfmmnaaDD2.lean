/- The other steps of the books, of program (dd) and document (ulpref08). -/
import Derived.Test.YtckpfohfbfmmnaaDD1
namespace Go.Proofs.Ytckpfohfbfmmnaa
open Go.RowKit EP
attribute [local go_sem] ran_store

set_option maxRecDepth 100000 in
set_option maxHeartbeats 2000000 in
theorem dprod_calls (xh xl yh yl : Nat) (w : World) :
    Calls Try.prog 80 #[.agg #[.float .f64 xh, .float .f64 xl], .agg #[.float .f64 yh, .float .f64 yl]] w (Pr w (prodP xh xl yh yl)) := by
  have r1 := ran_add Try.prog
  have r2 := ran_sub Try.prog
  have r3 := ran_mul Try.prog
  have r4 := ran_quo Try.prog
  have r5 := conv_same
  go_enter Try.func80, Try.ntmps80
  go_wp2_with fail
  refine Calls.mono (twoProd_calls xh yh _) ?_
  rintro e w1 ⟨c, e0, rfl, d1, H1⟩
  obtain ⟨n1, rfl⟩ := d1.ex
  clear d1
  have H1' : Hid (∀ p, twoProdO xh yh = some p → c = p.1 ∧ e0 = p.2) := H1
  clear H1
  go_wp2_with fail
  refine Calls.mono (dfast_calls c _ _) ?_
  rintro e w2 ⟨s, t, rfl, b2, H2⟩
  have m200 : w2.cell? ⟨w.heap.size, 0, none⟩ = some (.float .f64 xh) := pcarry b2 (by go_simp)
  have k200 : w2.frozen? ⟨w.heap.size, 0, none⟩ = false := pcarryF (v := .float .f64 xh) b2 (by go_simp) (by go_simp)
  have m201 : w2.cell? ⟨w.heap.size, 1, none⟩ = some (.float .f64 xl) := pcarry b2 (by go_simp)
  have k201 : w2.frozen? ⟨w.heap.size, 1, none⟩ = false := pcarryF (v := .float .f64 xl) b2 (by go_simp) (by go_simp)
  have m210 : w2.cell? ⟨w.heap.size + 1, 0, none⟩ = some (.float .f64 yh) := pcarry b2 (by go_simp)
  have k210 : w2.frozen? ⟨w.heap.size + 1, 0, none⟩ = false := pcarryF (v := .float .f64 yh) b2 (by go_simp) (by go_simp)
  have m211 : w2.cell? ⟨w.heap.size + 1, 1, none⟩ = some (.float .f64 yl) := pcarry b2 (by go_simp)
  have k211 : w2.frozen? ⟨w.heap.size + 1, 1, none⟩ = false := pcarryF (v := .float .f64 yl) b2 (by go_simp) (by go_simp)
  have m220 : w2.cell? ⟨w.heap.size + 1 + 1, 0, none⟩ = some (.float .f64 0) := pcarry b2 (by go_simp)
  have k220 : w2.frozen? ⟨w.heap.size + 1 + 1, 0, none⟩ = false := pcarryF (v := .float .f64 0) b2 (by go_simp) (by go_simp)
  have m221 : w2.cell? ⟨w.heap.size + 1 + 1, 1, none⟩ = some (.float .f64 0) := pcarry b2 (by go_simp)
  have k221 : w2.frozen? ⟨w.heap.size + 1 + 1, 1, none⟩ = false := pcarryF (v := .float .f64 0) b2 (by go_simp) (by go_simp)
  have bw2 : Below w.heap.size w w2 := Below.trans (by repeat (first | exact Below.refl _ _ | assumption | refine below_drewN ?_ _ | refine Below.setCell ?_ (by first | (simp; done) | (simp; omega) | omega) _ | refine Below.alloc ?_ (by first | (simp; done) | (simp; omega) | omega) _)) (b2.mono (by first | (simp; done) | (simp; omega) | omega))
  have bs2 := bw2.size
  have bz2 : Hid (w.heap.size + 3 ≤ w2.heap.size) := by rw [Hid]; have h1 := b2.size; simp at h1; omega
  clear b2
  have H2' : Hid (∀ p, fastO c _ = some p → s = p.1 ∧ t = p.2) := H2
  clear H2
  go_wp2_with fail
  refine bodyPost_ret (v := .agg #[.float .f64 s, .float .f64 t]) (by simp [results, Try.results80, go_sem, m220, m221]) rfl ⟨_, _, rfl, by repeat (first | exact Below.refl _ _ | assumption | refine below_drewN ?_ _ | refine Below.setCell ?_ (by first | (simp; done) | (simp; omega) | omega) _ | refine Below.alloc ?_ (by first | (simp; done) | (simp; omega) | omega) _), ?_⟩
  intro p hp
  simp only [prodP, Option.bind_eq_some_iff] at hp
  obtain ⟨ce, e1, f, e2, g, e3, h, e4, i, e5, e6⟩ := hp
  obtain ⟨rfl, rfl⟩ := H1'.out _ e1
  exact H2'.out _ (by simp only [fv_eq e2, fv_eq e3, fv_eq e4, fv_eq e5]; exact e6)

set_option maxRecDepth 100000 in
set_option maxHeartbeats 2000000 in
theorem dby_calls (xh xl k : Nat) (w : World) :
    Calls Try.prog 76 #[.agg #[.float .f64 xh, .float .f64 xl], .float .f64 k] w (Pr w (byP xh xl k)) := by
  have r1 := ran_add Try.prog
  have r2 := ran_sub Try.prog
  have r3 := ran_mul Try.prog
  have r4 := ran_quo Try.prog
  have r5 := conv_same
  go_enter Try.func76, Try.ntmps76
  go_wp2_with fail
  refine Calls.mono (twoProd_calls xh k _) ?_
  rintro e w1 ⟨c, e0, rfl, d1, H1⟩
  obtain ⟨n1, rfl⟩ := d1.ex
  clear d1
  have H1' : Hid (∀ p, twoProdO xh k = some p → c = p.1 ∧ e0 = p.2) := H1
  clear H1
  go_wp2_with fail
  refine Calls.mono (fast_calls c _ _) ?_
  rintro e w2 ⟨a, b, rfl, d2, H2⟩
  obtain ⟨n2, rfl⟩ := d2.ex
  clear d2
  have H2' : Hid (∀ p, fastO c _ = some p → a = p.1 ∧ b = p.2) := H2
  clear H2
  go_wp2_with fail
  refine Calls.mono (dfast_calls a _ _) ?_
  rintro e w3 ⟨s, t, rfl, b3, H3⟩
  have m300 : w3.cell? ⟨w.heap.size, 0, none⟩ = some (.float .f64 xh) := pcarry b3 (by go_simp)
  have k300 : w3.frozen? ⟨w.heap.size, 0, none⟩ = false := pcarryF (v := .float .f64 xh) b3 (by go_simp) (by go_simp)
  have m301 : w3.cell? ⟨w.heap.size, 1, none⟩ = some (.float .f64 xl) := pcarry b3 (by go_simp)
  have k301 : w3.frozen? ⟨w.heap.size, 1, none⟩ = false := pcarryF (v := .float .f64 xl) b3 (by go_simp) (by go_simp)
  have m310 : w3.cell? ⟨w.heap.size + 1, 0, none⟩ = some (.float .f64 0) := pcarry b3 (by go_simp)
  have k310 : w3.frozen? ⟨w.heap.size + 1, 0, none⟩ = false := pcarryF (v := .float .f64 0) b3 (by go_simp) (by go_simp)
  have m311 : w3.cell? ⟨w.heap.size + 1, 1, none⟩ = some (.float .f64 0) := pcarry b3 (by go_simp)
  have k311 : w3.frozen? ⟨w.heap.size + 1, 1, none⟩ = false := pcarryF (v := .float .f64 0) b3 (by go_simp) (by go_simp)
  have bw3 : Below w.heap.size w w3 := Below.trans (by repeat (first | exact Below.refl _ _ | assumption | refine below_drewN ?_ _ | refine Below.setCell ?_ (by first | (simp; done) | (simp; omega) | omega) _ | refine Below.alloc ?_ (by first | (simp; done) | (simp; omega) | omega) _)) (b3.mono (by first | (simp; done) | (simp; omega) | omega))
  have bs3 := bw3.size
  have bz3 : Hid (w.heap.size + 2 ≤ w3.heap.size) := by rw [Hid]; have h1 := b3.size; simp at h1; omega
  clear b3
  have H3' : Hid (∀ p, fastO a _ = some p → s = p.1 ∧ t = p.2) := H3
  clear H3
  go_wp2_with fail
  refine bodyPost_ret (v := .agg #[.float .f64 s, .float .f64 t]) (by simp [results, Try.results76, go_sem, m310, m311]) rfl ⟨_, _, rfl, by repeat (first | exact Below.refl _ _ | assumption | refine below_drewN ?_ _ | refine Below.setCell ?_ (by first | (simp; done) | (simp; omega) | omega) _ | refine Below.alloc ?_ (by first | (simp; done) | (simp; omega) | omega) _), ?_⟩
  intro p hp
  simp only [byP, Option.bind_eq_some_iff] at hp
  obtain ⟨ce, e1, f, e2, ab, e3, d, e4, e5⟩ := hp
  obtain ⟨rfl, rfl⟩ := H1'.out _ e1
  obtain ⟨rfl, rfl⟩ := H2'.out _ (by simp only [fv_eq e2]; exact e3)
  exact H3'.out _ (by simp only [fv_eq e4]; exact e5)

set_option maxRecDepth 100000 in
set_option maxHeartbeats 2000000 in
theorem dquo_calls (xh xl yh yl : Nat) (w : World) :
    Calls Try.prog 81 #[.agg #[.float .f64 xh, .float .f64 xl], .agg #[.float .f64 yh, .float .f64 yl]] w (Pr w (quoP xh xl yh yl)) := by
  have r1 := ran_add Try.prog
  have r2 := ran_sub Try.prog
  have r3 := ran_mul Try.prog
  have r4 := ran_quo Try.prog
  have r5 := conv_same
  go_enter Try.func81, Try.ntmps81
  go_wp2_with fail
  refine Calls.mono (dby_calls yh yl _ _) ?_
  rintro e w1 ⟨rh, rl, rfl, b1, H1⟩
  have m100 : w1.cell? ⟨w.heap.size, 0, none⟩ = some (.float .f64 xh) := pcarry b1 (by go_simp)
  have k100 : w1.frozen? ⟨w.heap.size, 0, none⟩ = false := pcarryF (v := .float .f64 xh) b1 (by go_simp) (by go_simp)
  have m101 : w1.cell? ⟨w.heap.size, 1, none⟩ = some (.float .f64 xl) := pcarry b1 (by go_simp)
  have k101 : w1.frozen? ⟨w.heap.size, 1, none⟩ = false := pcarryF (v := .float .f64 xl) b1 (by go_simp) (by go_simp)
  have m110 : w1.cell? ⟨w.heap.size + 1, 0, none⟩ = some (.float .f64 yh) := pcarry b1 (by go_simp)
  have k110 : w1.frozen? ⟨w.heap.size + 1, 0, none⟩ = false := pcarryF (v := .float .f64 yh) b1 (by go_simp) (by go_simp)
  have m111 : w1.cell? ⟨w.heap.size + 1, 1, none⟩ = some (.float .f64 yl) := pcarry b1 (by go_simp)
  have k111 : w1.frozen? ⟨w.heap.size + 1, 1, none⟩ = false := pcarryF (v := .float .f64 yl) b1 (by go_simp) (by go_simp)
  have m120 : w1.cell? ⟨w.heap.size + 1 + 1, 0, none⟩ = some (.float .f64 0) := pcarry b1 (by go_simp)
  have k120 : w1.frozen? ⟨w.heap.size + 1 + 1, 0, none⟩ = false := pcarryF (v := .float .f64 0) b1 (by go_simp) (by go_simp)
  have m121 : w1.cell? ⟨w.heap.size + 1 + 1, 1, none⟩ = some (.float .f64 0) := pcarry b1 (by go_simp)
  have k121 : w1.frozen? ⟨w.heap.size + 1 + 1, 1, none⟩ = false := pcarryF (v := .float .f64 0) b1 (by go_simp) (by go_simp)
  have bw1 : Below w.heap.size w w1 := Below.trans (by repeat (first | exact Below.refl _ _ | assumption | refine below_drewN ?_ _ | refine Below.setCell ?_ (by first | (simp; done) | (simp; omega) | omega) _ | refine Below.alloc ?_ (by first | (simp; done) | (simp; omega) | omega) _)) (b1.mono (by first | (simp; done) | (simp; omega) | omega))
  have bs1 := bw1.size
  have bz1 : Hid (w.heap.size + 3 ≤ w1.heap.size) := by rw [Hid]; have h1 := b1.size; simp at h1; omega
  clear b1
  have q100 : ∀ ob, (w1.alloc ob).cell? ⟨w.heap.size, 0, none⟩ = some (.float .f64 xh) := fun ob => pcarry ((Below.refl _ _).alloc (Nat.le_refl _) ob) m100
  have z100 : ∀ ob, (w1.alloc ob).frozen? ⟨w.heap.size, 0, none⟩ = false := fun ob => pcarryF ((Below.refl _ _).alloc (Nat.le_refl _) ob) m100 k100
  have q101 : ∀ ob, (w1.alloc ob).cell? ⟨w.heap.size, 1, none⟩ = some (.float .f64 xl) := fun ob => pcarry ((Below.refl _ _).alloc (Nat.le_refl _) ob) m101
  have z101 : ∀ ob, (w1.alloc ob).frozen? ⟨w.heap.size, 1, none⟩ = false := fun ob => pcarryF ((Below.refl _ _).alloc (Nat.le_refl _) ob) m101 k101
  have q110 : ∀ ob, (w1.alloc ob).cell? ⟨w.heap.size + 1, 0, none⟩ = some (.float .f64 yh) := fun ob => pcarry ((Below.refl _ _).alloc (Nat.le_refl _) ob) m110
  have z110 : ∀ ob, (w1.alloc ob).frozen? ⟨w.heap.size + 1, 0, none⟩ = false := fun ob => pcarryF ((Below.refl _ _).alloc (Nat.le_refl _) ob) m110 k110
  have q111 : ∀ ob, (w1.alloc ob).cell? ⟨w.heap.size + 1, 1, none⟩ = some (.float .f64 yl) := fun ob => pcarry ((Below.refl _ _).alloc (Nat.le_refl _) ob) m111
  have z111 : ∀ ob, (w1.alloc ob).frozen? ⟨w.heap.size + 1, 1, none⟩ = false := fun ob => pcarryF ((Below.refl _ _).alloc (Nat.le_refl _) ob) m111 k111
  have q120 : ∀ ob, (w1.alloc ob).cell? ⟨w.heap.size + 1 + 1, 0, none⟩ = some (.float .f64 0) := fun ob => pcarry ((Below.refl _ _).alloc (Nat.le_refl _) ob) m120
  have z120 : ∀ ob, (w1.alloc ob).frozen? ⟨w.heap.size + 1 + 1, 0, none⟩ = false := fun ob => pcarryF ((Below.refl _ _).alloc (Nat.le_refl _) ob) m120 k120
  have q121 : ∀ ob, (w1.alloc ob).cell? ⟨w.heap.size + 1 + 1, 1, none⟩ = some (.float .f64 0) := fun ob => pcarry ((Below.refl _ _).alloc (Nat.le_refl _) ob) m121
  have z121 : ∀ ob, (w1.alloc ob).frozen? ⟨w.heap.size + 1 + 1, 1, none⟩ = false := fun ob => pcarryF ((Below.refl _ _).alloc (Nat.le_refl _) ob) m121 k121
  have H1' : Hid (∀ p, byP yh yl _ = some p → rh = p.1 ∧ rl = p.2) := H1
  clear H1
  go_wp2_with fail
  refine Calls.mono (dfast_calls _ _ _) ?_
  rintro e w2 ⟨s, t, rfl, b2, H2⟩
  have m200 : w2.cell? ⟨w.heap.size, 0, none⟩ = some (.float .f64 xh) := pcarry b2 (by go_simp)
  have k200 : w2.frozen? ⟨w.heap.size, 0, none⟩ = false := pcarryF (v := .float .f64 xh) b2 (by go_simp) (by go_simp)
  have m201 : w2.cell? ⟨w.heap.size, 1, none⟩ = some (.float .f64 xl) := pcarry b2 (by go_simp)
  have k201 : w2.frozen? ⟨w.heap.size, 1, none⟩ = false := pcarryF (v := .float .f64 xl) b2 (by go_simp) (by go_simp)
  have m210 : w2.cell? ⟨w.heap.size + 1, 0, none⟩ = some (.float .f64 yh) := pcarry b2 (by go_simp)
  have k210 : w2.frozen? ⟨w.heap.size + 1, 0, none⟩ = false := pcarryF (v := .float .f64 yh) b2 (by go_simp) (by go_simp)
  have m211 : w2.cell? ⟨w.heap.size + 1, 1, none⟩ = some (.float .f64 yl) := pcarry b2 (by go_simp)
  have k211 : w2.frozen? ⟨w.heap.size + 1, 1, none⟩ = false := pcarryF (v := .float .f64 yl) b2 (by go_simp) (by go_simp)
  have m220 : w2.cell? ⟨w.heap.size + 1 + 1, 0, none⟩ = some (.float .f64 0) := pcarry b2 (by go_simp)
  have k220 : w2.frozen? ⟨w.heap.size + 1 + 1, 0, none⟩ = false := pcarryF (v := .float .f64 0) b2 (by go_simp) (by go_simp)
  have m221 : w2.cell? ⟨w.heap.size + 1 + 1, 1, none⟩ = some (.float .f64 0) := pcarry b2 (by go_simp)
  have k221 : w2.frozen? ⟨w.heap.size + 1 + 1, 1, none⟩ = false := pcarryF (v := .float .f64 0) b2 (by go_simp) (by go_simp)
  have bw2 : Below w.heap.size w w2 := Below.trans (by repeat (first | exact Below.refl _ _ | assumption | refine below_drewN ?_ _ | refine Below.setCell ?_ (by first | (simp; done) | (simp; omega) | omega) _ | refine Below.alloc ?_ (by first | (simp; done) | (simp; omega) | omega) _)) (b2.mono (by have := bw1.size; first | (simp; done) | (simp; omega) | omega))
  have bs2 := bw2.size
  have bz2 : Hid (w.heap.size + 3 ≤ w2.heap.size) := by rw [Hid]; have h1 := b2.size; have h2 := bz1.out; simp at h1; omega
  clear b2
  clear m100 k100 q100 z100 m101 k101 q101 z101 m110 k110 q110 z110 m111 k111 q111 z111 m120 k120 q120 z120 m121 k121 q121 z121
  have H2' : Hid (∀ p, fastO _ _ = some p → s = p.1 ∧ t = p.2) := H2
  clear H2
  go_wp2_with fail
  refine bodyPost_ret (v := .agg #[.float .f64 s, .float .f64 t]) (by simp [results, Try.results81, go_sem, m220, m221]) rfl ⟨_, _, rfl, by repeat (first | exact Below.refl _ _ | assumption | refine below_drewN ?_ _ | refine Below.setCell ?_ (by first | (simp; done) | (simp; omega) | omega) _ | refine Below.alloc ?_ (by first | (simp; done) | (simp; omega) | omega) _), ?_⟩
  intro p hp
  simp only [quoP, Option.bind_eq_some_iff] at hp
  obtain ⟨q, e1, r, e2, a, e3, b, e4, c, e5, d, e6, e7⟩ := hp
  obtain ⟨rfl, rfl⟩ := H1'.out _ (by simp only [fv_eq e1]; exact e2)
  exact H2'.out _ (by simp only [fv_eq e1, fv_eq e3, fv_eq e4, fv_eq e5, fv_eq e6]; exact e7)

def diffP (xh xl yh yl : Nat) : Option (Nat × Nat) := sumP xh xl (Op.negFloat .f64 yh) (Op.negFloat .f64 yl)

set_option maxRecDepth 100000 in
set_option maxHeartbeats 1000000 in
theorem rLess_calls (h l : Nat) (w : World) :
    Calls Try.prog 38 #[.agg #[.float .f64 h, .float .f64 l]] w (Pr w (some (Op.negFloat .f64 h, Op.negFloat .f64 l))) := by
  have r5 := ran_neg Try.prog
  go_enter Try.func38, Try.ntmps38
  go_wp2_with fail
  exact bodyPost_ret (v := .agg #[.float .f64 (Op.negFloat .f64 h), .float .f64 (Op.negFloat .f64 l)]) (by simp [results, Try.results38, go_sem]) rfl ⟨_, _, rfl, by repeat (first | exact Below.refl _ _ | refine Below.alloc ?_ (by simp; try omega) _), fun p hp => by cases hp; exact ⟨rfl, rfl⟩⟩

set_option maxRecDepth 100000 in
set_option maxHeartbeats 1000000 in
theorem pFast_calls (h l : Nat) (w : World) :
    Calls Try.prog 82 #[.float .f64 h, .float .f64 l] w (Pr w (fastO h l)) := by
  go_enter Try.func82, Try.ntmps82
  go_wp2_with fail
  refine Calls.mono (rFast_calls h l _) ?_
  rintro e w1 ⟨s, t, rfl, d1, H1⟩
  obtain ⟨n1, rfl⟩ := d1.ex
  clear d1
  go_wp2_with fail
  refine bodyPost_ret (v := .agg #[.float .f64 s, .float .f64 t]) (by simp [results, Try.results82, go_sem]) rfl ⟨_, _, rfl, ?_, H1⟩
  repeat (first | exact Below.refl _ _ | assumption | refine below_drewN ?_ _ | refine Below.setCell ?_ (by first | (simp; done) | (simp; omega) | omega) _ | refine Below.alloc ?_ (by first | (simp; done) | (simp; omega) | omega) _)

set_option maxRecDepth 100000 in
set_option maxHeartbeats 2000000 in
theorem rPlus_calls (xh xl yh yl : Nat) (w : World) :
    Calls Try.prog 52 #[.agg #[.float .f64 xh, .float .f64 xl], .agg #[.float .f64 yh, .float .f64 yl]] w (Pr w (sumP xh xl yh yl)) := by
  have r1 := ran_add Try.prog
  have r2 := ran_sub Try.prog
  have r3 := ran_mul Try.prog
  have r4 := ran_quo Try.prog
  have r5 := conv_same
  go_enter Try.func52, Try.ntmps52
  go_wp2_with fail
  refine Calls.mono (rTwoSum_calls xh yh _) ?_
  rintro e w1 ⟨s, t, rfl, d1, H1⟩
  obtain ⟨n1, rfl⟩ := d1.ex
  clear d1
  have H1' : Hid (∀ p, twoSumO xh yh = some p → s = p.1 ∧ t = p.2) := H1
  clear H1
  go_wp2_with fail
  refine Calls.mono (rTwoSum_calls xl yl _) ?_
  rintro e w2 ⟨u, v, rfl, d2, H2⟩
  obtain ⟨n2, rfl⟩ := d2.ex
  clear d2
  have H2' : Hid (∀ p, twoSumO xl yl = some p → u = p.1 ∧ v = p.2) := H2
  clear H2
  go_wp2_with fail
  refine Calls.mono (pFast_calls s _ _) ?_
  rintro e w3 ⟨a, b, rfl, b3, H3⟩
  have m300 : w3.cell? ⟨w.heap.size, 0, none⟩ = some (.float .f64 xh) := pcarry b3 (by go_simp)
  have k300 : w3.frozen? ⟨w.heap.size, 0, none⟩ = false := pcarryF (v := .float .f64 xh) b3 (by go_simp) (by go_simp)
  have m301 : w3.cell? ⟨w.heap.size, 1, none⟩ = some (.float .f64 xl) := pcarry b3 (by go_simp)
  have k301 : w3.frozen? ⟨w.heap.size, 1, none⟩ = false := pcarryF (v := .float .f64 xl) b3 (by go_simp) (by go_simp)
  have m310 : w3.cell? ⟨w.heap.size + 1, 0, none⟩ = some (.float .f64 yh) := pcarry b3 (by go_simp)
  have k310 : w3.frozen? ⟨w.heap.size + 1, 0, none⟩ = false := pcarryF (v := .float .f64 yh) b3 (by go_simp) (by go_simp)
  have m311 : w3.cell? ⟨w.heap.size + 1, 1, none⟩ = some (.float .f64 yl) := pcarry b3 (by go_simp)
  have k311 : w3.frozen? ⟨w.heap.size + 1, 1, none⟩ = false := pcarryF (v := .float .f64 yl) b3 (by go_simp) (by go_simp)
  have m320 : w3.cell? ⟨w.heap.size + 1 + 1, 0, none⟩ = some (.float .f64 0) := pcarry b3 (by go_simp)
  have k320 : w3.frozen? ⟨w.heap.size + 1 + 1, 0, none⟩ = false := pcarryF (v := .float .f64 0) b3 (by go_simp) (by go_simp)
  have m321 : w3.cell? ⟨w.heap.size + 1 + 1, 1, none⟩ = some (.float .f64 0) := pcarry b3 (by go_simp)
  have k321 : w3.frozen? ⟨w.heap.size + 1 + 1, 1, none⟩ = false := pcarryF (v := .float .f64 0) b3 (by go_simp) (by go_simp)
  have bw3 : Below w.heap.size w w3 := Below.trans (by repeat (first | exact Below.refl _ _ | assumption | refine below_drewN ?_ _ | refine Below.setCell ?_ (by first | (simp; done) | (simp; omega) | omega) _ | refine Below.alloc ?_ (by first | (simp; done) | (simp; omega) | omega) _)) (b3.mono (by first | (simp; done) | (simp; omega) | omega))
  have bs3 := bw3.size
  have bz3 : Hid (w.heap.size + 3 ≤ w3.heap.size) := by rw [Hid]; have h1 := b3.size; simp at h1; omega
  clear b3
  have q300 : ∀ ob, (w3.alloc ob).cell? ⟨w.heap.size, 0, none⟩ = some (.float .f64 xh) := fun ob => pcarry ((Below.refl _ _).alloc (Nat.le_refl _) ob) m300
  have z300 : ∀ ob, (w3.alloc ob).frozen? ⟨w.heap.size, 0, none⟩ = false := fun ob => pcarryF ((Below.refl _ _).alloc (Nat.le_refl _) ob) m300 k300
  have q301 : ∀ ob, (w3.alloc ob).cell? ⟨w.heap.size, 1, none⟩ = some (.float .f64 xl) := fun ob => pcarry ((Below.refl _ _).alloc (Nat.le_refl _) ob) m301
  have z301 : ∀ ob, (w3.alloc ob).frozen? ⟨w.heap.size, 1, none⟩ = false := fun ob => pcarryF ((Below.refl _ _).alloc (Nat.le_refl _) ob) m301 k301
  have q310 : ∀ ob, (w3.alloc ob).cell? ⟨w.heap.size + 1, 0, none⟩ = some (.float .f64 yh) := fun ob => pcarry ((Below.refl _ _).alloc (Nat.le_refl _) ob) m310
  have z310 : ∀ ob, (w3.alloc ob).frozen? ⟨w.heap.size + 1, 0, none⟩ = false := fun ob => pcarryF ((Below.refl _ _).alloc (Nat.le_refl _) ob) m310 k310
  have q311 : ∀ ob, (w3.alloc ob).cell? ⟨w.heap.size + 1, 1, none⟩ = some (.float .f64 yl) := fun ob => pcarry ((Below.refl _ _).alloc (Nat.le_refl _) ob) m311
  have z311 : ∀ ob, (w3.alloc ob).frozen? ⟨w.heap.size + 1, 1, none⟩ = false := fun ob => pcarryF ((Below.refl _ _).alloc (Nat.le_refl _) ob) m311 k311
  have q320 : ∀ ob, (w3.alloc ob).cell? ⟨w.heap.size + 1 + 1, 0, none⟩ = some (.float .f64 0) := fun ob => pcarry ((Below.refl _ _).alloc (Nat.le_refl _) ob) m320
  have z320 : ∀ ob, (w3.alloc ob).frozen? ⟨w.heap.size + 1 + 1, 0, none⟩ = false := fun ob => pcarryF ((Below.refl _ _).alloc (Nat.le_refl _) ob) m320 k320
  have q321 : ∀ ob, (w3.alloc ob).cell? ⟨w.heap.size + 1 + 1, 1, none⟩ = some (.float .f64 0) := fun ob => pcarry ((Below.refl _ _).alloc (Nat.le_refl _) ob) m321
  have z321 : ∀ ob, (w3.alloc ob).frozen? ⟨w.heap.size + 1 + 1, 1, none⟩ = false := fun ob => pcarryF ((Below.refl _ _).alloc (Nat.le_refl _) ob) m321 k321
  have H3' : Hid (∀ p, fastO s _ = some p → a = p.1 ∧ b = p.2) := H3
  clear H3
  go_wp2_with fail
  refine Calls.mono (pFast_calls a _ _) ?_
  rintro e w4 ⟨x, y, rfl, b4, H4⟩
  have m400 : w4.cell? ⟨w.heap.size, 0, none⟩ = some (.float .f64 xh) := pcarry b4 (by go_simp)
  have k400 : w4.frozen? ⟨w.heap.size, 0, none⟩ = false := pcarryF (v := .float .f64 xh) b4 (by go_simp) (by go_simp)
  have m401 : w4.cell? ⟨w.heap.size, 1, none⟩ = some (.float .f64 xl) := pcarry b4 (by go_simp)
  have k401 : w4.frozen? ⟨w.heap.size, 1, none⟩ = false := pcarryF (v := .float .f64 xl) b4 (by go_simp) (by go_simp)
  have m410 : w4.cell? ⟨w.heap.size + 1, 0, none⟩ = some (.float .f64 yh) := pcarry b4 (by go_simp)
  have k410 : w4.frozen? ⟨w.heap.size + 1, 0, none⟩ = false := pcarryF (v := .float .f64 yh) b4 (by go_simp) (by go_simp)
  have m411 : w4.cell? ⟨w.heap.size + 1, 1, none⟩ = some (.float .f64 yl) := pcarry b4 (by go_simp)
  have k411 : w4.frozen? ⟨w.heap.size + 1, 1, none⟩ = false := pcarryF (v := .float .f64 yl) b4 (by go_simp) (by go_simp)
  have m420 : w4.cell? ⟨w.heap.size + 1 + 1, 0, none⟩ = some (.float .f64 0) := pcarry b4 (by go_simp)
  have k420 : w4.frozen? ⟨w.heap.size + 1 + 1, 0, none⟩ = false := pcarryF (v := .float .f64 0) b4 (by go_simp) (by go_simp)
  have m421 : w4.cell? ⟨w.heap.size + 1 + 1, 1, none⟩ = some (.float .f64 0) := pcarry b4 (by go_simp)
  have k421 : w4.frozen? ⟨w.heap.size + 1 + 1, 1, none⟩ = false := pcarryF (v := .float .f64 0) b4 (by go_simp) (by go_simp)
  have bw4 : Below w.heap.size w w4 := Below.trans (by repeat (first | exact Below.refl _ _ | assumption | refine below_drewN ?_ _ | refine Below.setCell ?_ (by first | (simp; done) | (simp; omega) | omega) _ | refine Below.alloc ?_ (by first | (simp; done) | (simp; omega) | omega) _)) (b4.mono (by have := bw3.size; first | (simp; done) | (simp; omega) | omega))
  have bs4 := bw4.size
  have bz4 : Hid (w.heap.size + 3 ≤ w4.heap.size) := by rw [Hid]; have h1 := b4.size; have h2 := bz3.out; simp at h1; omega
  clear b4
  clear m300 k300 q300 z300 m301 k301 q301 z301 m310 k310 q310 z310 m311 k311 q311 z311 m320 k320 q320 z320 m321 k321 q321 z321
  have H4' : Hid (∀ p, fastO a _ = some p → x = p.1 ∧ y = p.2) := H4
  clear H4
  go_wp2_with fail
  refine bodyPost_ret (v := .agg #[.float .f64 x, .float .f64 y]) (by simp [results, Try.results52, go_sem, m420, m421]) rfl ⟨_, _, rfl, by repeat (first | exact Below.refl _ _ | assumption | refine below_drewN ?_ _ | refine Below.setCell ?_ (by first | (simp; done) | (simp; omega) | omega) _ | refine Below.alloc ?_ (by first | (simp; done) | (simp; omega) | omega) _), ?_⟩
  intro p hp
  simp only [sumP, Option.bind_eq_some_iff] at hp
  obtain ⟨st, e1, uv, e2, c, e3, ab, e4, d, e5, e6⟩ := hp
  obtain ⟨rfl, rfl⟩ := H1'.out _ e1
  obtain ⟨rfl, rfl⟩ := H2'.out _ e2
  obtain ⟨rfl, rfl⟩ := H3'.out _ (by simp only [fv_eq e3]; exact e4)
  exact H4'.out _ (by simp only [fv_eq e5]; exact e6)

set_option maxRecDepth 100000 in
set_option maxHeartbeats 2000000 in
theorem rTimes_calls (xh xl yh yl : Nat) (w : World) :
    Calls Try.prog 53 #[.agg #[.float .f64 xh, .float .f64 xl], .agg #[.float .f64 yh, .float .f64 yl]] w (Pr w (prodP xh xl yh yl)) := by
  have r1 := ran_add Try.prog
  have r2 := ran_sub Try.prog
  have r3 := ran_mul Try.prog
  have r4 := ran_quo Try.prog
  have r5 := conv_same
  go_enter Try.func53, Try.ntmps53
  go_wp2_with fail
  refine Calls.mono (rTwoProd_calls xh yh _) ?_
  rintro e w1 ⟨c, e0, rfl, d1, H1⟩
  obtain ⟨n1, rfl⟩ := d1.ex
  clear d1
  have H1' : Hid (∀ p, twoProdO xh yh = some p → c = p.1 ∧ e0 = p.2) := H1
  clear H1
  go_wp2_with fail
  refine Calls.mono (pFast_calls c _ _) ?_
  rintro e w2 ⟨s, t, rfl, b2, H2⟩
  have m200 : w2.cell? ⟨w.heap.size, 0, none⟩ = some (.float .f64 xh) := pcarry b2 (by go_simp)
  have k200 : w2.frozen? ⟨w.heap.size, 0, none⟩ = false := pcarryF (v := .float .f64 xh) b2 (by go_simp) (by go_simp)
  have m201 : w2.cell? ⟨w.heap.size, 1, none⟩ = some (.float .f64 xl) := pcarry b2 (by go_simp)
  have k201 : w2.frozen? ⟨w.heap.size, 1, none⟩ = false := pcarryF (v := .float .f64 xl) b2 (by go_simp) (by go_simp)
  have m210 : w2.cell? ⟨w.heap.size + 1, 0, none⟩ = some (.float .f64 yh) := pcarry b2 (by go_simp)
  have k210 : w2.frozen? ⟨w.heap.size + 1, 0, none⟩ = false := pcarryF (v := .float .f64 yh) b2 (by go_simp) (by go_simp)
  have m211 : w2.cell? ⟨w.heap.size + 1, 1, none⟩ = some (.float .f64 yl) := pcarry b2 (by go_simp)
  have k211 : w2.frozen? ⟨w.heap.size + 1, 1, none⟩ = false := pcarryF (v := .float .f64 yl) b2 (by go_simp) (by go_simp)
  have m220 : w2.cell? ⟨w.heap.size + 1 + 1, 0, none⟩ = some (.float .f64 0) := pcarry b2 (by go_simp)
  have k220 : w2.frozen? ⟨w.heap.size + 1 + 1, 0, none⟩ = false := pcarryF (v := .float .f64 0) b2 (by go_simp) (by go_simp)
  have m221 : w2.cell? ⟨w.heap.size + 1 + 1, 1, none⟩ = some (.float .f64 0) := pcarry b2 (by go_simp)
  have k221 : w2.frozen? ⟨w.heap.size + 1 + 1, 1, none⟩ = false := pcarryF (v := .float .f64 0) b2 (by go_simp) (by go_simp)
  have bw2 : Below w.heap.size w w2 := Below.trans (by repeat (first | exact Below.refl _ _ | assumption | refine below_drewN ?_ _ | refine Below.setCell ?_ (by first | (simp; done) | (simp; omega) | omega) _ | refine Below.alloc ?_ (by first | (simp; done) | (simp; omega) | omega) _)) (b2.mono (by first | (simp; done) | (simp; omega) | omega))
  have bs2 := bw2.size
  have bz2 : Hid (w.heap.size + 3 ≤ w2.heap.size) := by rw [Hid]; have h1 := b2.size; simp at h1; omega
  clear b2
  have H2' : Hid (∀ p, fastO c _ = some p → s = p.1 ∧ t = p.2) := H2
  clear H2
  go_wp2_with fail
  refine bodyPost_ret (v := .agg #[.float .f64 s, .float .f64 t]) (by simp [results, Try.results53, go_sem, m220, m221]) rfl ⟨_, _, rfl, by repeat (first | exact Below.refl _ _ | assumption | refine below_drewN ?_ _ | refine Below.setCell ?_ (by first | (simp; done) | (simp; omega) | omega) _ | refine Below.alloc ?_ (by first | (simp; done) | (simp; omega) | omega) _), ?_⟩
  intro p hp
  simp only [prodP, Option.bind_eq_some_iff] at hp
  obtain ⟨ce, e1, f, e2, g, e3, h, e4, i, e5, e6⟩ := hp
  obtain ⟨rfl, rfl⟩ := H1'.out _ e1
  exact H2'.out _ (by simp only [fv_eq e2, fv_eq e3, fv_eq e4, fv_eq e5]; exact e6)

set_option maxRecDepth 100000 in
set_option maxHeartbeats 2000000 in
theorem rBy_calls (xh xl k : Nat) (w : World) :
    Calls Try.prog 77 #[.agg #[.float .f64 xh, .float .f64 xl], .float .f64 k] w (Pr w (byP xh xl k)) := by
  have r1 := ran_add Try.prog
  have r2 := ran_sub Try.prog
  have r3 := ran_mul Try.prog
  have r4 := ran_quo Try.prog
  have r5 := conv_same
  go_enter Try.func77, Try.ntmps77
  go_wp2_with fail
  refine Calls.mono (rTwoProd_calls xh k _) ?_
  rintro e w1 ⟨c, e0, rfl, d1, H1⟩
  obtain ⟨n1, rfl⟩ := d1.ex
  clear d1
  have H1' : Hid (∀ p, twoProdO xh k = some p → c = p.1 ∧ e0 = p.2) := H1
  clear H1
  go_wp2_with fail
  refine Calls.mono (pFast_calls c _ _) ?_
  rintro e w2 ⟨a, b, rfl, b2, H2⟩
  have m200 : w2.cell? ⟨w.heap.size, 0, none⟩ = some (.float .f64 xh) := pcarry b2 (by go_simp)
  have k200 : w2.frozen? ⟨w.heap.size, 0, none⟩ = false := pcarryF (v := .float .f64 xh) b2 (by go_simp) (by go_simp)
  have m201 : w2.cell? ⟨w.heap.size, 1, none⟩ = some (.float .f64 xl) := pcarry b2 (by go_simp)
  have k201 : w2.frozen? ⟨w.heap.size, 1, none⟩ = false := pcarryF (v := .float .f64 xl) b2 (by go_simp) (by go_simp)
  have m210 : w2.cell? ⟨w.heap.size + 1, 0, none⟩ = some (.float .f64 0) := pcarry b2 (by go_simp)
  have k210 : w2.frozen? ⟨w.heap.size + 1, 0, none⟩ = false := pcarryF (v := .float .f64 0) b2 (by go_simp) (by go_simp)
  have m211 : w2.cell? ⟨w.heap.size + 1, 1, none⟩ = some (.float .f64 0) := pcarry b2 (by go_simp)
  have k211 : w2.frozen? ⟨w.heap.size + 1, 1, none⟩ = false := pcarryF (v := .float .f64 0) b2 (by go_simp) (by go_simp)
  have bw2 : Below w.heap.size w w2 := Below.trans (by repeat (first | exact Below.refl _ _ | assumption | refine below_drewN ?_ _ | refine Below.setCell ?_ (by first | (simp; done) | (simp; omega) | omega) _ | refine Below.alloc ?_ (by first | (simp; done) | (simp; omega) | omega) _)) (b2.mono (by first | (simp; done) | (simp; omega) | omega))
  have bs2 := bw2.size
  have bz2 : Hid (w.heap.size + 2 ≤ w2.heap.size) := by rw [Hid]; have h1 := b2.size; simp at h1; omega
  clear b2
  have q200 : ∀ ob, (w2.alloc ob).cell? ⟨w.heap.size, 0, none⟩ = some (.float .f64 xh) := fun ob => pcarry ((Below.refl _ _).alloc (Nat.le_refl _) ob) m200
  have z200 : ∀ ob, (w2.alloc ob).frozen? ⟨w.heap.size, 0, none⟩ = false := fun ob => pcarryF ((Below.refl _ _).alloc (Nat.le_refl _) ob) m200 k200
  have q201 : ∀ ob, (w2.alloc ob).cell? ⟨w.heap.size, 1, none⟩ = some (.float .f64 xl) := fun ob => pcarry ((Below.refl _ _).alloc (Nat.le_refl _) ob) m201
  have z201 : ∀ ob, (w2.alloc ob).frozen? ⟨w.heap.size, 1, none⟩ = false := fun ob => pcarryF ((Below.refl _ _).alloc (Nat.le_refl _) ob) m201 k201
  have q210 : ∀ ob, (w2.alloc ob).cell? ⟨w.heap.size + 1, 0, none⟩ = some (.float .f64 0) := fun ob => pcarry ((Below.refl _ _).alloc (Nat.le_refl _) ob) m210
  have z210 : ∀ ob, (w2.alloc ob).frozen? ⟨w.heap.size + 1, 0, none⟩ = false := fun ob => pcarryF ((Below.refl _ _).alloc (Nat.le_refl _) ob) m210 k210
  have q211 : ∀ ob, (w2.alloc ob).cell? ⟨w.heap.size + 1, 1, none⟩ = some (.float .f64 0) := fun ob => pcarry ((Below.refl _ _).alloc (Nat.le_refl _) ob) m211
  have z211 : ∀ ob, (w2.alloc ob).frozen? ⟨w.heap.size + 1, 1, none⟩ = false := fun ob => pcarryF ((Below.refl _ _).alloc (Nat.le_refl _) ob) m211 k211
  have H2' : Hid (∀ p, fastO c _ = some p → a = p.1 ∧ b = p.2) := H2
  clear H2
  go_wp2_with fail
  refine Calls.mono (pFast_calls a _ _) ?_
  rintro e w3 ⟨s, t, rfl, b3, H3⟩
  have m300 : w3.cell? ⟨w.heap.size, 0, none⟩ = some (.float .f64 xh) := pcarry b3 (by go_simp)
  have k300 : w3.frozen? ⟨w.heap.size, 0, none⟩ = false := pcarryF (v := .float .f64 xh) b3 (by go_simp) (by go_simp)
  have m301 : w3.cell? ⟨w.heap.size, 1, none⟩ = some (.float .f64 xl) := pcarry b3 (by go_simp)
  have k301 : w3.frozen? ⟨w.heap.size, 1, none⟩ = false := pcarryF (v := .float .f64 xl) b3 (by go_simp) (by go_simp)
  have m310 : w3.cell? ⟨w.heap.size + 1, 0, none⟩ = some (.float .f64 0) := pcarry b3 (by go_simp)
  have k310 : w3.frozen? ⟨w.heap.size + 1, 0, none⟩ = false := pcarryF (v := .float .f64 0) b3 (by go_simp) (by go_simp)
  have m311 : w3.cell? ⟨w.heap.size + 1, 1, none⟩ = some (.float .f64 0) := pcarry b3 (by go_simp)
  have k311 : w3.frozen? ⟨w.heap.size + 1, 1, none⟩ = false := pcarryF (v := .float .f64 0) b3 (by go_simp) (by go_simp)
  have bw3 : Below w.heap.size w w3 := Below.trans (by repeat (first | exact Below.refl _ _ | assumption | refine below_drewN ?_ _ | refine Below.setCell ?_ (by first | (simp; done) | (simp; omega) | omega) _ | refine Below.alloc ?_ (by first | (simp; done) | (simp; omega) | omega) _)) (b3.mono (by have := bw2.size; first | (simp; done) | (simp; omega) | omega))
  have bs3 := bw3.size
  have bz3 : Hid (w.heap.size + 2 ≤ w3.heap.size) := by rw [Hid]; have h1 := b3.size; have h2 := bz2.out; simp at h1; omega
  clear b3
  clear m200 k200 q200 z200 m201 k201 q201 z201 m210 k210 q210 z210 m211 k211 q211 z211
  have H3' : Hid (∀ p, fastO a _ = some p → s = p.1 ∧ t = p.2) := H3
  clear H3
  go_wp2_with fail
  refine bodyPost_ret (v := .agg #[.float .f64 s, .float .f64 t]) (by simp [results, Try.results77, go_sem, m310, m311]) rfl ⟨_, _, rfl, by repeat (first | exact Below.refl _ _ | assumption | refine below_drewN ?_ _ | refine Below.setCell ?_ (by first | (simp; done) | (simp; omega) | omega) _ | refine Below.alloc ?_ (by first | (simp; done) | (simp; omega) | omega) _), ?_⟩
  intro p hp
  simp only [byP, Option.bind_eq_some_iff] at hp
  obtain ⟨ce, e1, f, e2, ab, e3, d, e4, e5⟩ := hp
  obtain ⟨rfl, rfl⟩ := H1'.out _ e1
  obtain ⟨rfl, rfl⟩ := H2'.out _ (by simp only [fv_eq e2]; exact e3)
  exact H3'.out _ (by simp only [fv_eq e4]; exact e5)

set_option maxRecDepth 100000 in
set_option maxHeartbeats 2000000 in
theorem rOver_calls (xh xl yh yl : Nat) (w : World) :
    Calls Try.prog 54 #[.agg #[.float .f64 xh, .float .f64 xl], .agg #[.float .f64 yh, .float .f64 yl]] w (Pr w (quoP xh xl yh yl)) := by
  have r1 := ran_add Try.prog
  have r2 := ran_sub Try.prog
  have r3 := ran_mul Try.prog
  have r4 := ran_quo Try.prog
  have r5 := conv_same
  go_enter Try.func54, Try.ntmps54
  go_wp2_with fail
  refine Calls.mono (rBy_calls yh yl _ _) ?_
  rintro e w1 ⟨rh, rl, rfl, b1, H1⟩
  have m100 : w1.cell? ⟨w.heap.size, 0, none⟩ = some (.float .f64 xh) := pcarry b1 (by go_simp)
  have k100 : w1.frozen? ⟨w.heap.size, 0, none⟩ = false := pcarryF (v := .float .f64 xh) b1 (by go_simp) (by go_simp)
  have m101 : w1.cell? ⟨w.heap.size, 1, none⟩ = some (.float .f64 xl) := pcarry b1 (by go_simp)
  have k101 : w1.frozen? ⟨w.heap.size, 1, none⟩ = false := pcarryF (v := .float .f64 xl) b1 (by go_simp) (by go_simp)
  have m110 : w1.cell? ⟨w.heap.size + 1, 0, none⟩ = some (.float .f64 yh) := pcarry b1 (by go_simp)
  have k110 : w1.frozen? ⟨w.heap.size + 1, 0, none⟩ = false := pcarryF (v := .float .f64 yh) b1 (by go_simp) (by go_simp)
  have m111 : w1.cell? ⟨w.heap.size + 1, 1, none⟩ = some (.float .f64 yl) := pcarry b1 (by go_simp)
  have k111 : w1.frozen? ⟨w.heap.size + 1, 1, none⟩ = false := pcarryF (v := .float .f64 yl) b1 (by go_simp) (by go_simp)
  have m120 : w1.cell? ⟨w.heap.size + 1 + 1, 0, none⟩ = some (.float .f64 0) := pcarry b1 (by go_simp)
  have k120 : w1.frozen? ⟨w.heap.size + 1 + 1, 0, none⟩ = false := pcarryF (v := .float .f64 0) b1 (by go_simp) (by go_simp)
  have m121 : w1.cell? ⟨w.heap.size + 1 + 1, 1, none⟩ = some (.float .f64 0) := pcarry b1 (by go_simp)
  have k121 : w1.frozen? ⟨w.heap.size + 1 + 1, 1, none⟩ = false := pcarryF (v := .float .f64 0) b1 (by go_simp) (by go_simp)
  have bw1 : Below w.heap.size w w1 := Below.trans (by repeat (first | exact Below.refl _ _ | assumption | refine below_drewN ?_ _ | refine Below.setCell ?_ (by first | (simp; done) | (simp; omega) | omega) _ | refine Below.alloc ?_ (by first | (simp; done) | (simp; omega) | omega) _)) (b1.mono (by first | (simp; done) | (simp; omega) | omega))
  have bs1 := bw1.size
  have bz1 : Hid (w.heap.size + 3 ≤ w1.heap.size) := by rw [Hid]; have h1 := b1.size; simp at h1; omega
  clear b1
  have q100 : ∀ ob, (w1.alloc ob).cell? ⟨w.heap.size, 0, none⟩ = some (.float .f64 xh) := fun ob => pcarry ((Below.refl _ _).alloc (Nat.le_refl _) ob) m100
  have z100 : ∀ ob, (w1.alloc ob).frozen? ⟨w.heap.size, 0, none⟩ = false := fun ob => pcarryF ((Below.refl _ _).alloc (Nat.le_refl _) ob) m100 k100
  have q101 : ∀ ob, (w1.alloc ob).cell? ⟨w.heap.size, 1, none⟩ = some (.float .f64 xl) := fun ob => pcarry ((Below.refl _ _).alloc (Nat.le_refl _) ob) m101
  have z101 : ∀ ob, (w1.alloc ob).frozen? ⟨w.heap.size, 1, none⟩ = false := fun ob => pcarryF ((Below.refl _ _).alloc (Nat.le_refl _) ob) m101 k101
  have q110 : ∀ ob, (w1.alloc ob).cell? ⟨w.heap.size + 1, 0, none⟩ = some (.float .f64 yh) := fun ob => pcarry ((Below.refl _ _).alloc (Nat.le_refl _) ob) m110
  have z110 : ∀ ob, (w1.alloc ob).frozen? ⟨w.heap.size + 1, 0, none⟩ = false := fun ob => pcarryF ((Below.refl _ _).alloc (Nat.le_refl _) ob) m110 k110
  have q111 : ∀ ob, (w1.alloc ob).cell? ⟨w.heap.size + 1, 1, none⟩ = some (.float .f64 yl) := fun ob => pcarry ((Below.refl _ _).alloc (Nat.le_refl _) ob) m111
  have z111 : ∀ ob, (w1.alloc ob).frozen? ⟨w.heap.size + 1, 1, none⟩ = false := fun ob => pcarryF ((Below.refl _ _).alloc (Nat.le_refl _) ob) m111 k111
  have q120 : ∀ ob, (w1.alloc ob).cell? ⟨w.heap.size + 1 + 1, 0, none⟩ = some (.float .f64 0) := fun ob => pcarry ((Below.refl _ _).alloc (Nat.le_refl _) ob) m120
  have z120 : ∀ ob, (w1.alloc ob).frozen? ⟨w.heap.size + 1 + 1, 0, none⟩ = false := fun ob => pcarryF ((Below.refl _ _).alloc (Nat.le_refl _) ob) m120 k120
  have q121 : ∀ ob, (w1.alloc ob).cell? ⟨w.heap.size + 1 + 1, 1, none⟩ = some (.float .f64 0) := fun ob => pcarry ((Below.refl _ _).alloc (Nat.le_refl _) ob) m121
  have z121 : ∀ ob, (w1.alloc ob).frozen? ⟨w.heap.size + 1 + 1, 1, none⟩ = false := fun ob => pcarryF ((Below.refl _ _).alloc (Nat.le_refl _) ob) m121 k121
  have H1' : Hid (∀ p, byP yh yl _ = some p → rh = p.1 ∧ rl = p.2) := H1
  clear H1
  go_wp2_with fail
  refine Calls.mono (pFast_calls _ _ _) ?_
  rintro e w2 ⟨s, t, rfl, b2, H2⟩
  have m200 : w2.cell? ⟨w.heap.size, 0, none⟩ = some (.float .f64 xh) := pcarry b2 (by go_simp)
  have k200 : w2.frozen? ⟨w.heap.size, 0, none⟩ = false := pcarryF (v := .float .f64 xh) b2 (by go_simp) (by go_simp)
  have m201 : w2.cell? ⟨w.heap.size, 1, none⟩ = some (.float .f64 xl) := pcarry b2 (by go_simp)
  have k201 : w2.frozen? ⟨w.heap.size, 1, none⟩ = false := pcarryF (v := .float .f64 xl) b2 (by go_simp) (by go_simp)
  have m210 : w2.cell? ⟨w.heap.size + 1, 0, none⟩ = some (.float .f64 yh) := pcarry b2 (by go_simp)
  have k210 : w2.frozen? ⟨w.heap.size + 1, 0, none⟩ = false := pcarryF (v := .float .f64 yh) b2 (by go_simp) (by go_simp)
  have m211 : w2.cell? ⟨w.heap.size + 1, 1, none⟩ = some (.float .f64 yl) := pcarry b2 (by go_simp)
  have k211 : w2.frozen? ⟨w.heap.size + 1, 1, none⟩ = false := pcarryF (v := .float .f64 yl) b2 (by go_simp) (by go_simp)
  have m220 : w2.cell? ⟨w.heap.size + 1 + 1, 0, none⟩ = some (.float .f64 0) := pcarry b2 (by go_simp)
  have k220 : w2.frozen? ⟨w.heap.size + 1 + 1, 0, none⟩ = false := pcarryF (v := .float .f64 0) b2 (by go_simp) (by go_simp)
  have m221 : w2.cell? ⟨w.heap.size + 1 + 1, 1, none⟩ = some (.float .f64 0) := pcarry b2 (by go_simp)
  have k221 : w2.frozen? ⟨w.heap.size + 1 + 1, 1, none⟩ = false := pcarryF (v := .float .f64 0) b2 (by go_simp) (by go_simp)
  have bw2 : Below w.heap.size w w2 := Below.trans (by repeat (first | exact Below.refl _ _ | assumption | refine below_drewN ?_ _ | refine Below.setCell ?_ (by first | (simp; done) | (simp; omega) | omega) _ | refine Below.alloc ?_ (by first | (simp; done) | (simp; omega) | omega) _)) (b2.mono (by have := bw1.size; first | (simp; done) | (simp; omega) | omega))
  have bs2 := bw2.size
  have bz2 : Hid (w.heap.size + 3 ≤ w2.heap.size) := by rw [Hid]; have h1 := b2.size; have h2 := bz1.out; simp at h1; omega
  clear b2
  clear m100 k100 q100 z100 m101 k101 q101 z101 m110 k110 q110 z110 m111 k111 q111 z111 m120 k120 q120 z120 m121 k121 q121 z121
  have H2' : Hid (∀ p, fastO _ _ = some p → s = p.1 ∧ t = p.2) := H2
  clear H2
  go_wp2_with fail
  refine bodyPost_ret (v := .agg #[.float .f64 s, .float .f64 t]) (by simp [results, Try.results54, go_sem, m220, m221]) rfl ⟨_, _, rfl, by repeat (first | exact Below.refl _ _ | assumption | refine below_drewN ?_ _ | refine Below.setCell ?_ (by first | (simp; done) | (simp; omega) | omega) _ | refine Below.alloc ?_ (by first | (simp; done) | (simp; omega) | omega) _), ?_⟩
  intro p hp
  simp only [quoP, Option.bind_eq_some_iff] at hp
  obtain ⟨q, e1, r, e2, a, e3, b, e4, c, e5, d, e6, e7⟩ := hp
  obtain ⟨rfl, rfl⟩ := H1'.out _ (by simp only [fv_eq e1]; exact e2)
  exact H2'.out _ (by simp only [fv_eq e1, fv_eq e3, fv_eq e4, fv_eq e5, fv_eq e6]; exact e7)

end Go.Proofs.Ytckpfohfbfmmnaa

/- What is reckoned of two pairs, by its number, of program and document; the statement DdTwos. -/
import Derived.Test.YtckpfohfbfmmnaaDS4
import Derived.Test.YtckpfohfbfmmnaaDDD
namespace Go.Proofs.Ytckpfohfbfmmnaa
open Go.RowKit EP
attribute [local go_sem] ran_store

theorem ansS_of (w : World) (ok : Bool) (o : Option (Nat × Nat)) (e : Ending) (w' : World) (h : AnsP w ok o e w') : AnsS w (errI ok) o e w' := by
  obtain ⟨s, t, h1, h2, h3, h4⟩ := h
  refine ⟨s, t, h1, h2, fun h => h3 ?_, fun h => h4 ?_⟩
  · cases ok with
    | true => rfl
    | false => exact absurd h (by decide)
  · cases ok with
    | true => exact absurd rfl h
    | false => rfl
def whyT (k xh xl yh yl : Nat) : Int := if rightP xh xl && rightP yh yl then (if k = 3 && isZ yh then 30 else 0) else 2
def optT (k xh xl yh yl : Nat) : Option (Nat × Nat) := if k = 0 then sumP xh xl yh yl else if k = 1 then diffP xh xl yh yl else if k = 2 then prodP xh xl yh yl else quoP xh xl yh yl
theorem whyT_few (k xh xl yh yl : Nat) (hk : k ≠ 3) : whyT k xh xl yh yl = errI (rightP xh xl && rightP yh yl) := by
  unfold whyT errI
  rw [show decide (k = 3) = false from decide_eq_false hk, Bool.false_and]
  cases rightP xh xl && rightP yh yl <;> rfl
theorem whyT_bad (k xh xl yh yl : Nat) (h : (rightP xh xl && rightP yh yl) = false) : whyT k xh xl yh yl = 2 := by
  unfold whyT; rw [h]; rfl
theorem whyT_quo (xh xl yh yl : Nat) (h : isZ yh = false) : whyT 3 xh xl yh yl = errI (rightP xh xl && rightP yh yl) := by
  unfold whyT errI
  rw [h, Bool.and_false]
  cases rightP xh xl && rightP yh yl <;> rfl
theorem whyT_zero (xh xl yh yl : Nat) (h : isZ yh = true) (h1 : rightP xh xl = true) (h2 : rightP yh yl = true) : whyT 3 xh xl yh yl = 30 := by
  unfold whyT; rw [h, h1, h2]; rfl
theorem zero_right (yh yl : Nat) (h : isZ yh = true) : rightP yh yl = isZ yl := by unfold rightP; rw [if_pos h]
theorem ansS_err {w : World} {why : Int} {o : Option (Nat × Nat)} {e : Ending} {w' : World} (h0 : why ≠ 0) (h : e = .returned (.tuple #[.agg #[.float .f64 0, .float .f64 0], .int .i64 why]) ∧ Below w.heap.size w w') : AnsS w why o e w' :=
  ⟨0, 0, h.1, h.2, fun e => absurd e h0, fun _ => ⟨rfl, rfl⟩⟩
theorem dDiv_S (xh xl yh yl : Nat) (w : World) (hx : xh < 18446744073709551616) (hy : yh < 18446744073709551616) :
    Calls Try.prog 51 #[.agg #[.float .f64 xh, .float .f64 xl], .agg #[.float .f64 yh, .float .f64 yl]] w (AnsS w (whyT 3 xh xl yh yl) (quoP xh xl yh yl)) := by
  cases h1 : rightP xh xl with
  | false =>
    refine (dDiv_bad xh xl yh yl w hx hy h1).mono fun e w' h => ?_
    have h' := ansS_of _ _ _ _ _ h
    rw [h1, Bool.and_false] at h'
    rw [whyT_bad 3 xh xl yh yl (by rw [h1]; rfl)]
    exact h'
  | true =>
    cases z1 : isZ yh with
    | false =>
      refine (dDiv_nz xh xl yh yl w hx hy h1 z1).mono fun e w' h => ?_
      have h' := ansS_of _ _ _ _ _ h
      rw [whyT_quo xh xl yh yl z1, Bool.and_comm]
      exact h'
    | true =>
      cases z2 : isZ yl with
      | false =>
        refine (dDiv_nl xh xl yh yl w hx hy h1 z1 z2).mono fun e w' h => ?_
        have h' := ansS_of _ _ _ _ _ h
        have h3 : rightP yh yl = false := (zero_right yh yl z1).trans z2
        rw [h3, Bool.false_and] at h'
        rw [whyT_bad 3 xh xl yh yl (by rw [h3, Bool.and_false])]
        exact h'
      | true =>
        refine (dDiv_zero xh xl yh yl w hx hy h1 z1 z2).mono fun e w' h => ?_
        rw [whyT_zero xh xl yh yl z1 h1 ((zero_right yh yl z1).trans z2)]
        exact ansS_err (by decide) h
theorem rDiv_S (xh xl yh yl : Nat) (w : World) (hx : xh < 18446744073709551616) (hy : yh < 18446744073709551616) :
    Calls Try.prog 31 #[.int .i64 3, .agg #[.float .f64 xh, .float .f64 xl], .agg #[.float .f64 yh, .float .f64 yl]] w (AnsS w (whyT 3 xh xl yh yl) (quoP xh xl yh yl)) := by
  cases hb : (rightP xh xl && rightP yh yl) with
  | false =>
    refine (rTwo3b_calls xh xl yh yl w hx hy hb).mono fun e w' h => ?_
    rw [whyT_bad 3 xh xl yh yl hb]
    exact ansS_err (by decide) h
  | true =>
    have h12 := Bool.and_eq_true_iff.1 hb
    cases z1 : isZ yh with
    | false =>
      refine (rTwo3_calls xh xl yh yl w hx hy z1).mono fun e w' h => ?_
      rw [whyT_quo xh xl yh yl z1]
      exact ansS_of _ _ _ _ _ h
    | true =>
      refine (rTwo3z_calls xh xl yh yl w hx hy h12.1 h12.2 z1).mono fun e w' h => ?_
      rw [whyT_zero xh xl yh yl z1 h12.1 h12.2]
      exact ansS_err (by decide) h

set_option maxRecDepth 100000 in
set_option maxHeartbeats 2000000 in
theorem ptwo0_calls (xh xl yh yl : Nat) (w : World) (hx : xh < 18446744073709551616) (hy : yh < 18446744073709551616) :
    Calls Try.prog 30 #[.int .i64 0, .agg #[.float .f64 xh, .float .f64 xl], .agg #[.float .f64 yh, .float .f64 yl]] w (AnsS w (whyT 0 xh xl yh yl) (optT 0 xh xl yh yl)) := by
  have HD : Hid (∀ w, Calls Try.prog 48 #[.agg #[.float .f64 xh, .float .f64 xl], .agg #[.float .f64 yh, .float .f64 yl]] w (AnsS w (whyT 0 xh xl yh yl) (optT 0 xh xl yh yl))) := fun w => by
    refine (dAdd_calls xh xl yh yl w hx hy).mono fun e w1 h => ?_
    rw [whyT_few _ _ _ _ _ (by decide), Bool.and_comm]
    exact ansS_of _ _ _ _ _ h
  clear hx hy
  generalize whyT 0 xh xl yh yl = why at *
  generalize optT 0 xh xl yh yl = o at *
  go_enter Try.func30, Try.ntmps30
  go_wp2_with fail
  refine Calls.mono (HD.out _) ?_
  rintro e w1 ⟨s, t, rfl, b1, H1, Z1⟩
  have m0 : w1.cell? ⟨w.heap.size + 1 + 1, 0, none⟩ = some (.float .f64 0) := pcarry b1 (by go_simp)
  have m1 : w1.cell? ⟨w.heap.size + 1 + 1, 1, none⟩ = some (.float .f64 0) := pcarry b1 (by go_simp)
  have k0 : w1.frozen? ⟨w.heap.size + 1 + 1, 0, none⟩ = false := pcarryF (v := .float .f64 0) b1 (by go_simp) (by go_simp)
  have k1 : w1.frozen? ⟨w.heap.size + 1 + 1, 1, none⟩ = false := pcarryF (v := .float .f64 0) b1 (by go_simp) (by go_simp)
  have bw1 : Below w.heap.size w w1 := Below.trans (by repeat (first | exact Below.refl _ _ | assumption | refine below_drewN ?_ _ | refine Below.setCell ?_ (by first | (simp; done) | (simp; omega) | omega) _ | refine Below.alloc ?_ (by first | (simp; done) | (simp; omega) | omega) _)) (b1.mono (by first | (simp; done) | (simp; omega) | omega))
  have bs1 := bw1.size
  have HH : Hid ((why = 0 → ∀ p, o = some p → s = p.1 ∧ t = p.2) ∧ (why ≠ 0 → s = 0 ∧ t = 0)) := ⟨H1, Z1⟩
  clear b1 H1 Z1
  go_wp2_with fail
  exact bodyPost_ret (v := .tuple #[.agg #[.float .f64 s, .float .f64 t], .int .i64 why]) (by simp [results, Try.results30, go_sem, m0, m1]) rfl ⟨s, t, rfl, by repeat (first | exact Below.refl _ _ | assumption | refine below_drewN ?_ _ | refine Below.setCell ?_ (by first | (simp; done) | (simp; omega) | omega) _ | refine Below.alloc ?_ (by first | (simp; done) | (simp; omega) | omega) _), HH.out.1, HH.out.2⟩

set_option maxRecDepth 100000 in
set_option maxHeartbeats 2000000 in
theorem ptwo1_calls (xh xl yh yl : Nat) (w : World) (hx : xh < 18446744073709551616) (hy : yh < 18446744073709551616) :
    Calls Try.prog 30 #[.int .i64 1, .agg #[.float .f64 xh, .float .f64 xl], .agg #[.float .f64 yh, .float .f64 yl]] w (AnsS w (whyT 1 xh xl yh yl) (optT 1 xh xl yh yl)) := by
  have HD : Hid (∀ w, Calls Try.prog 49 #[.agg #[.float .f64 xh, .float .f64 xl], .agg #[.float .f64 yh, .float .f64 yl]] w (AnsS w (whyT 1 xh xl yh yl) (optT 1 xh xl yh yl))) := fun w => by
    refine (dSub_calls xh xl yh yl w hx hy).mono fun e w1 h => ?_
    rw [whyT_few _ _ _ _ _ (by decide), Bool.and_comm]
    exact ansS_of _ _ _ _ _ h
  clear hx hy
  generalize whyT 1 xh xl yh yl = why at *
  generalize optT 1 xh xl yh yl = o at *
  go_enter Try.func30, Try.ntmps30
  go_wp2_with fail
  refine Calls.mono (HD.out _) ?_
  rintro e w1 ⟨s, t, rfl, b1, H1, Z1⟩
  have m0 : w1.cell? ⟨w.heap.size + 1 + 1, 0, none⟩ = some (.float .f64 0) := pcarry b1 (by go_simp)
  have m1 : w1.cell? ⟨w.heap.size + 1 + 1, 1, none⟩ = some (.float .f64 0) := pcarry b1 (by go_simp)
  have k0 : w1.frozen? ⟨w.heap.size + 1 + 1, 0, none⟩ = false := pcarryF (v := .float .f64 0) b1 (by go_simp) (by go_simp)
  have k1 : w1.frozen? ⟨w.heap.size + 1 + 1, 1, none⟩ = false := pcarryF (v := .float .f64 0) b1 (by go_simp) (by go_simp)
  have bw1 : Below w.heap.size w w1 := Below.trans (by repeat (first | exact Below.refl _ _ | assumption | refine below_drewN ?_ _ | refine Below.setCell ?_ (by first | (simp; done) | (simp; omega) | omega) _ | refine Below.alloc ?_ (by first | (simp; done) | (simp; omega) | omega) _)) (b1.mono (by first | (simp; done) | (simp; omega) | omega))
  have bs1 := bw1.size
  have HH : Hid ((why = 0 → ∀ p, o = some p → s = p.1 ∧ t = p.2) ∧ (why ≠ 0 → s = 0 ∧ t = 0)) := ⟨H1, Z1⟩
  clear b1 H1 Z1
  go_wp2_with fail
  exact bodyPost_ret (v := .tuple #[.agg #[.float .f64 s, .float .f64 t], .int .i64 why]) (by simp [results, Try.results30, go_sem, m0, m1]) rfl ⟨s, t, rfl, by repeat (first | exact Below.refl _ _ | assumption | refine below_drewN ?_ _ | refine Below.setCell ?_ (by first | (simp; done) | (simp; omega) | omega) _ | refine Below.alloc ?_ (by first | (simp; done) | (simp; omega) | omega) _), HH.out.1, HH.out.2⟩

set_option maxRecDepth 100000 in
set_option maxHeartbeats 2000000 in
theorem ptwo2_calls (xh xl yh yl : Nat) (w : World) (hx : xh < 18446744073709551616) (hy : yh < 18446744073709551616) :
    Calls Try.prog 30 #[.int .i64 2, .agg #[.float .f64 xh, .float .f64 xl], .agg #[.float .f64 yh, .float .f64 yl]] w (AnsS w (whyT 2 xh xl yh yl) (optT 2 xh xl yh yl)) := by
  have HD : Hid (∀ w, Calls Try.prog 50 #[.agg #[.float .f64 xh, .float .f64 xl], .agg #[.float .f64 yh, .float .f64 yl]] w (AnsS w (whyT 2 xh xl yh yl) (optT 2 xh xl yh yl))) := fun w => by
    refine (dMul_calls xh xl yh yl w hx hy).mono fun e w1 h => ?_
    rw [whyT_few _ _ _ _ _ (by decide), Bool.and_comm]
    exact ansS_of _ _ _ _ _ h
  clear hx hy
  generalize whyT 2 xh xl yh yl = why at *
  generalize optT 2 xh xl yh yl = o at *
  go_enter Try.func30, Try.ntmps30
  go_wp2_with fail
  refine Calls.mono (HD.out _) ?_
  rintro e w1 ⟨s, t, rfl, b1, H1, Z1⟩
  have m0 : w1.cell? ⟨w.heap.size + 1 + 1, 0, none⟩ = some (.float .f64 0) := pcarry b1 (by go_simp)
  have m1 : w1.cell? ⟨w.heap.size + 1 + 1, 1, none⟩ = some (.float .f64 0) := pcarry b1 (by go_simp)
  have k0 : w1.frozen? ⟨w.heap.size + 1 + 1, 0, none⟩ = false := pcarryF (v := .float .f64 0) b1 (by go_simp) (by go_simp)
  have k1 : w1.frozen? ⟨w.heap.size + 1 + 1, 1, none⟩ = false := pcarryF (v := .float .f64 0) b1 (by go_simp) (by go_simp)
  have bw1 : Below w.heap.size w w1 := Below.trans (by repeat (first | exact Below.refl _ _ | assumption | refine below_drewN ?_ _ | refine Below.setCell ?_ (by first | (simp; done) | (simp; omega) | omega) _ | refine Below.alloc ?_ (by first | (simp; done) | (simp; omega) | omega) _)) (b1.mono (by first | (simp; done) | (simp; omega) | omega))
  have bs1 := bw1.size
  have HH : Hid ((why = 0 → ∀ p, o = some p → s = p.1 ∧ t = p.2) ∧ (why ≠ 0 → s = 0 ∧ t = 0)) := ⟨H1, Z1⟩
  clear b1 H1 Z1
  go_wp2_with fail
  exact bodyPost_ret (v := .tuple #[.agg #[.float .f64 s, .float .f64 t], .int .i64 why]) (by simp [results, Try.results30, go_sem, m0, m1]) rfl ⟨s, t, rfl, by repeat (first | exact Below.refl _ _ | assumption | refine below_drewN ?_ _ | refine Below.setCell ?_ (by first | (simp; done) | (simp; omega) | omega) _ | refine Below.alloc ?_ (by first | (simp; done) | (simp; omega) | omega) _), HH.out.1, HH.out.2⟩

set_option maxRecDepth 100000 in
set_option maxHeartbeats 2000000 in
theorem ptwo3_calls (xh xl yh yl : Nat) (w : World) (hx : xh < 18446744073709551616) (hy : yh < 18446744073709551616) :
    Calls Try.prog 30 #[.int .i64 3, .agg #[.float .f64 xh, .float .f64 xl], .agg #[.float .f64 yh, .float .f64 yl]] w (AnsS w (whyT 3 xh xl yh yl) (optT 3 xh xl yh yl)) := by
  have HD : Hid (∀ w, Calls Try.prog 51 #[.agg #[.float .f64 xh, .float .f64 xl], .agg #[.float .f64 yh, .float .f64 yl]] w (AnsS w (whyT 3 xh xl yh yl) (optT 3 xh xl yh yl))) := fun w => by
    exact dDiv_S xh xl yh yl w hx hy
  clear hx hy
  generalize whyT 3 xh xl yh yl = why at *
  generalize optT 3 xh xl yh yl = o at *
  go_enter Try.func30, Try.ntmps30
  go_wp2_with fail
  refine Calls.mono (HD.out _) ?_
  rintro e w1 ⟨s, t, rfl, b1, H1, Z1⟩
  have m0 : w1.cell? ⟨w.heap.size + 1 + 1, 0, none⟩ = some (.float .f64 0) := pcarry b1 (by go_simp)
  have m1 : w1.cell? ⟨w.heap.size + 1 + 1, 1, none⟩ = some (.float .f64 0) := pcarry b1 (by go_simp)
  have k0 : w1.frozen? ⟨w.heap.size + 1 + 1, 0, none⟩ = false := pcarryF (v := .float .f64 0) b1 (by go_simp) (by go_simp)
  have k1 : w1.frozen? ⟨w.heap.size + 1 + 1, 1, none⟩ = false := pcarryF (v := .float .f64 0) b1 (by go_simp) (by go_simp)
  have bw1 : Below w.heap.size w w1 := Below.trans (by repeat (first | exact Below.refl _ _ | assumption | refine below_drewN ?_ _ | refine Below.setCell ?_ (by first | (simp; done) | (simp; omega) | omega) _ | refine Below.alloc ?_ (by first | (simp; done) | (simp; omega) | omega) _)) (b1.mono (by first | (simp; done) | (simp; omega) | omega))
  have bs1 := bw1.size
  have HH : Hid ((why = 0 → ∀ p, o = some p → s = p.1 ∧ t = p.2) ∧ (why ≠ 0 → s = 0 ∧ t = 0)) := ⟨H1, Z1⟩
  clear b1 H1 Z1
  go_wp2_with fail
  exact bodyPost_ret (v := .tuple #[.agg #[.float .f64 s, .float .f64 t], .int .i64 why]) (by simp [results, Try.results30, go_sem, m0, m1]) rfl ⟨s, t, rfl, by repeat (first | exact Below.refl _ _ | assumption | refine below_drewN ?_ _ | refine Below.setCell ?_ (by first | (simp; done) | (simp; omega) | omega) _ | refine Below.alloc ?_ (by first | (simp; done) | (simp; omega) | omega) _), HH.out.1, HH.out.2⟩

theorem ptwo_any (k xh xl yh yl : Nat) (w : World) (hk : k < 4) (hx : xh < 18446744073709551616) (hy : yh < 18446744073709551616) :
    Calls Try.prog 30 #[.int .i64 (k : Int), .agg #[.float .f64 xh, .float .f64 xl], .agg #[.float .f64 yh, .float .f64 yl]] w (AnsS w (whyT k xh xl yh yl) (optT k xh xl yh yl)) := by
  rcases (show k = 0 ∨ k = 1 ∨ k = 2 ∨ k = 3 by omega) with rfl | rfl | rfl | rfl
  · exact ptwo0_calls xh xl yh yl w hx hy
  · exact ptwo1_calls xh xl yh yl w hx hy
  · exact ptwo2_calls xh xl yh yl w hx hy
  · exact ptwo3_calls xh xl yh yl w hx hy
theorem rtwo_any (k xh xl yh yl : Nat) (w : World) (hk : k < 4) (hx : xh < 18446744073709551616) (hy : yh < 18446744073709551616) :
    Calls Try.prog 31 #[.int .i64 (k : Int), .agg #[.float .f64 xh, .float .f64 xl], .agg #[.float .f64 yh, .float .f64 yl]] w (AnsS w (whyT k xh xl yh yl) (optT k xh xl yh yl)) := by
  rcases (show k = 0 ∨ k = 1 ∨ k = 2 ∨ k = 3 by omega) with rfl | rfl | rfl | rfl
  · refine (rTwo0_calls xh xl yh yl w hx hy).mono fun e w1 h => ?_
    rw [whyT_few _ _ _ _ _ (by decide)]
    exact ansS_of _ _ _ _ _ h
  · refine (rTwo1_calls xh xl yh yl w hx hy).mono fun e w1 h => ?_
    rw [whyT_few _ _ _ _ _ (by decide)]
    exact ansS_of _ _ _ _ _ h
  · refine (rTwo2_calls xh xl yh yl w hx hy).mono fun e w1 h => ?_
    rw [whyT_few _ _ _ _ _ (by decide)]
    exact ansS_of _ _ _ _ _ h
  · exact rDiv_S xh xl yh yl w hx hy
theorem optT_fin (k xh xl yh yl : Nat) (hk4 : k < 4) (hy : yh < 18446744073709551616) (hl : yl < 18446744073709551616) (h : whyT k xh xl yh yl = 0) : ∃ s t, optT k xh xl yh yl = some (s, t) ∧ finB s = true ∧ finB t = true := by
  have hb : (rightP xh xl && rightP yh yl) = true := by
    cases hb : (rightP xh xl && rightP yh yl) with
    | true => rfl
    | false => rw [whyT_bad k xh xl yh yl hb] at h; exact absurd h (by decide)
  have h12 := Bool.and_eq_true_iff.1 hb
  have px := right_PB xh xl h12.1
  have py := right_PB yh yl h12.2
  unfold optT
  by_cases k0 : k = 0
  · rw [if_pos k0]; exact sum_bd px.hi px.lo py.hi py.lo
  · rw [if_neg k0]
    by_cases k1 : k = 1
    · rw [if_pos k1]; exact sum_bd px.hi px.lo (bd_neg hy py.hi) (bd_neg hl py.lo)
    · rw [if_neg k1]
      by_cases k2 : k = 2
      · rw [if_pos k2]; exact prod_bd px.hi px.lo py.hi py.lo
      · rw [if_neg k2]
        by_cases k3 : k = 3
        · subst k3
          refine quo_bd px py ?_
          cases hz : isZ yh with
          | false => rfl
          | true => rw [whyT_zero xh xl yh yl hz h12.1 h12.2] at h; exact absurd h (by decide)
        · exact absurd hk4 (by omega)
theorem ans_same (why : Int) (o : Option (Nat × Nat)) (s t s' t' : Nat) (hf : why = 0 → ∃ s t, o = some (s, t) ∧ finB s = true ∧ finB t = true) (h1 : why = 0 → ∀ p, o = some p → s = p.1 ∧ t = p.2) (h2 : why ≠ 0 → s = 0 ∧ t = 0) (h3 : why = 0 → ∀ p, o = some p → s' = p.1 ∧ t' = p.2) (h4 : why ≠ 0 → s' = 0 ∧ t' = 0) :
    Ieee.double.order s s' = some .eq ∧ Ieee.double.order t t' = some .eq := by
  by_cases h : why = 0
  · obtain ⟨p, q, e, f1, f2⟩ := hf h
    obtain ⟨rfl, rfl⟩ := h1 h _ e
    obtain ⟨rfl, rfl⟩ := h3 h _ e
    exact ⟨order_refl _ f1, order_refl _ f2⟩
  · obtain ⟨rfl, rfl⟩ := h2 h
    obtain ⟨rfl, rfl⟩ := h4 h
    exact ⟨by decide +kernel, by decide +kernel⟩

set_option maxRecDepth 100000 in
set_option maxHeartbeats 4000000 in
theorem ddTwos_walk (xh xl yh yl : Nat) (w : World) (hx : xh < 18446744073709551616) (hy : yh < 18446744073709551616) (hl : yl < 18446744073709551616) :
    Calls Try.prog 6 #[.agg #[.float .f64 xh, .float .f64 xl], .agg #[.float .f64 yh, .float .f64 yl]] w fun e w' => e = .returned (.bool true) ∧ Below w.heap.size w w' := by
  have HP : Hid _ := fun k w hk => ptwo_any k xh xl yh yl w hk hx hy
  have HR : Hid _ := fun k w hk => rtwo_any k xh xl yh yl w hk hx hy
  have HF : Hid _ := fun k (h : k < 4) => optT_fin k xh xl yh yl h hy hl
  clear hx hy hl
  go_enter Try.func6, Try.ntmps6
  go_wp2_with fail
  go_loopw [5, 6, 7, 8, 9] (fun i _ _ _ _ wr => ∃ k : Nat, k ≤ 4 ∧ i = .int .i64 k ∧ wr.cell? ⟨w.heap.size, 0, none⟩ = some (.float .f64 xh) ∧ wr.cell? ⟨w.heap.size, 1, none⟩ = some (.float .f64 xl) ∧ wr.cell? ⟨w.heap.size + 1, 0, none⟩ = some (.float .f64 yh) ∧ wr.cell? ⟨w.heap.size + 1, 1, none⟩ = some (.float .f64 yl) ∧ Below w.heap.size w wr ∧ Hid (w.heap.size + 2 ≤ wr.heap.size)) (fun i _ _ _ _ _ => 4 - (intOf i).toNat)
  case atStart => exact ⟨0, by omega, rfl, by go_simp, by go_simp, by go_simp, by go_simp, by repeat (first | exact Below.refl _ _ | refine Below.alloc ?_ (by simp) _), by rw [Hid]; simp⟩
  case round =>
    obtain ⟨k, hk, rfl, m0, m1, n0, n1, hbr, HZ⟩ := hrel
    by_cases hlt : k < 4
    · have HF' := HF.out k hlt
      have HP' : Hid _ := fun w => HP.out k w hlt
      have HR' : Hid _ := fun w => HR.out k w hlt
      clear HP HR HF
      generalize whyT k xh xl yh yl = why at *
      generalize optT k xh xl yh yl = o at *
      have HF : Hid (why = 0 → ∃ s t, o = some (s, t) ∧ finB s = true ∧ finB t = true) := HF'
      clear HF'
      go_wp2_with fail
      refine Calls.mono (HP'.out _) ?_
      rintro e w1 ⟨s, t, rfl, b1, H1, Z1⟩
      have HH : Hid ((why = 0 → ∀ p, o = some p → s = p.1 ∧ t = p.2) ∧ (why ≠ 0 → s = 0 ∧ t = 0)) := ⟨H1, Z1⟩
      replace m0 := pcarry b1 m0
      replace m1 := pcarry b1 m1
      replace n0 := pcarry b1 n0
      replace n1 := pcarry b1 n1
      replace hbr := ebelow_trans hbr b1
      replace HZ : Hid (w.heap.size + 2 ≤ w1.heap.size) := Nat.le_trans HZ.out b1.size
      clear b1 H1 Z1
      have p0 := pcarry (below_alloc1 w1 (.cells #[.float .f64 s, .float .f64 t] 39)) m0
      have p1 := pcarry (below_alloc1 w1 (.cells #[.float .f64 s, .float .f64 t] 39)) m1
      have q0 := pcarry (below_alloc1 w1 (.cells #[.float .f64 s, .float .f64 t] 39)) n0
      have q1 := pcarry (below_alloc1 w1 (.cells #[.float .f64 s, .float .f64 t] 39)) n1
      go_wp2_with fail
      refine Calls.mono (HR'.out _) ?_
      rintro e w2 ⟨s', t', rfl, b2, H2, Z2⟩
      have HH2 : Hid ((why = 0 → ∀ p, o = some p → s' = p.1 ∧ t' = p.2) ∧ (why ≠ 0 → s' = 0 ∧ t' = 0)) := ⟨H2, Z2⟩
      replace m0 := pcarry b2 p0
      replace m1 := pcarry b2 p1
      replace n0 := pcarry b2 q0
      replace n1 := pcarry b2 q1
      have u0 : w2.cell? ⟨w1.heap.size, 0, none⟩ = some (.float .f64 s) := pcarry b2 (by go_simp)
      have u1 : w2.cell? ⟨w1.heap.size, 1, none⟩ = some (.float .f64 t) := pcarry b2 (by go_simp)
      replace hbr : Below w.heap.size w w2 := hbr.trans ((ebelow_trans (below_alloc1 _ _) b2).mono hbr.size)
      have HZ1 : Hid (w1.heap.size + 1 ≤ w2.heap.size) := by have := b2.size; rw [Hid]; simp at this; omega
      replace HZ : Hid (w.heap.size + 2 ≤ w2.heap.size) := by have h1 := HZ.out; have h2 := HZ1.out; rw [Hid]; omega
      clear b2 H2 Z2 p0 p1 q0 q1
      obtain ⟨o1, o2⟩ := ans_same why o s t s' t' HF.out HH.out.1 HH.out.2 HH2.out.1 HH2.out.2
      have HO : Hid _ := fun w => rSame_yes s t s' t' w o1 o2
      clear o1 o2
      have v0 := pcarry (below_alloc1 w2 (.cells #[.float .f64 s', .float .f64 t'] 39)) u0
      have v1 := pcarry (below_alloc1 w2 (.cells #[.float .f64 s', .float .f64 t'] 39)) u1
      go_wp2_with fail
      refine Calls.mono (HO.out _) ?_
      rintro e w3 ⟨rfl, b3⟩
      have hb3 := ebelow_trans (below_alloc1 _ _) b3
      replace m0 := pcarry hb3 m0
      replace m1 := pcarry hb3 m1
      replace n0 := pcarry hb3 n0
      replace n1 := pcarry hb3 n1
      replace hbr := ebelow_trans hbr hb3
      replace HZ : Hid (w.heap.size + 2 ≤ w3.heap.size) := Nat.le_trans HZ.out hb3.size
      clear hb3 b3 u0 u1 v0 v1 HZ1
      go_wp2_with fail
      go_round
      case rel => exact ⟨k + 1, by omega, by go_num, m0, m1, n0, n1, hbr, HZ⟩
      case measure => simp [intOf]; omega
    · have hk4 : k = 4 := by omega
      subst hk4
      go_wp2_with fail
      refine Calls.mono (dBegins_calls _) ?_
      rintro e w2 ⟨rfl, b2⟩
      go_wp2_with fail
      go_ret
      exact ⟨rfl, ebelow_trans hbr b2⟩
end Go.Proofs.Ytckpfohfbfmmnaa

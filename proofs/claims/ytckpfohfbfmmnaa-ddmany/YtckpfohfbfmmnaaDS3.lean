/- gathered by sums; dd.Sum; dd.Of. -/
import Derived.Test.YtckpfohfbfmmnaaDS2
namespace Go.Proofs.Ytckpfohfbfmmnaa
open Go.RowKit EP
attribute [local go_sem] ran_store

def foldS : List Nat → Nat → Nat → Option (Nat × Nat)
  | [], s, t => some (s, t)
  | x :: l, s, t => (sumP s t x 0).bind fun p => foldS l p.1 p.2

set_option maxRecDepth 100000 in
set_option maxHeartbeats 4000000 in
theorem gath_sum (a : Option Addr) (len cap : Nat) (xs : List Nat) (w : World) (h : IsF w a len cap xs) (hm : len ≤ 17592186044416) :
    Calls Try.prog 71 #[.slice a len cap, .func (.func 72) #[] #[]] w (Pr w (foldS xs 0 0)) := by
  have HL : Hid (len = xs.length) := h.1
  have hcap := h.2.1.1
  go_enter Try.func71, Try.ntmps71
  go_wp2_with fail
  go_loopw [7, 10] (fun _ i wr => ∃ (k s t : Nat), k ≤ len ∧ i = .int .i64 k ∧ wr.cell? ⟨w.heap.size + 1, 0, none⟩ = some (.float .f64 s) ∧ wr.cell? ⟨w.heap.size + 1, 1, none⟩ = some (.float .f64 t) ∧ wr.frozen? ⟨w.heap.size + 1, 0, none⟩ = false ∧ wr.frozen? ⟨w.heap.size + 1, 1, none⟩ = false ∧ wr.cell? ⟨w.heap.size, 0, none⟩ = some (.float .f64 0) ∧ wr.cell? ⟨w.heap.size, 1, none⟩ = some (.float .f64 0) ∧ wr.frozen? ⟨w.heap.size, 0, none⟩ = false ∧ wr.frozen? ⟨w.heap.size, 1, none⟩ = false ∧ Below w.heap.size w wr ∧ w.heap.size + 2 ≤ wr.heap.size ∧ ∀ r, foldS xs 0 0 = some r → foldS (xs.drop k) s t = some r) (fun _ i _ => len - (intOf i).toNat)
  case atStart => exact ⟨0, 0, 0, by omega, rfl, by go_simp, by go_simp, by go_simp, by go_simp, by go_simp, by go_simp, by go_simp, by go_simp, by repeat (first | exact Below.refl _ _ | refine Below.alloc ?_ (by simp) _), by simp, fun r hr => hr⟩
  case round =>
    obtain ⟨k, s, t, hk, rfl, m0, m1, f0, f1, z0, z1, g0, g1, hbr, hsz, hrel⟩ := hrel
    have HR : Hid (∀ r, foldS xs 0 0 = some r → foldS (xs.drop k) s t = some r) := hrel
    have HZ : Hid (w.heap.size + 2 ≤ wr.heap.size) := hsz
    clear hrel
    by_cases hlt : k < len
    · obtain ⟨bb, off, rfl, hbl, hc⟩ := (h.keep hbr).2.2 k hlt
      obtain ⟨x, hx⟩ : ∃ x, x = xs.getD k 0 := ⟨_, rfl⟩
      rw [← hx] at hc
      have HX : Hid (xs.drop k = x :: xs.drop (k + 1)) := by rw [Hid, hx]; exact drop_cons xs k (by rw [← HL.out]; exact hlt)
      clear hx
      go_wp2_with fail
      refine Calls.mono (dsum_calls s t x 0 _) ?_
      rintro e w2 ⟨p, q, rfl, b2, H2⟩
      have n0 := pcarry b2 m0
      have n1 := pcarry b2 m1
      have h0 := pcarryF b2 m0 f0
      have h1 := pcarryF b2 m1 f1
      have y0 := pcarry b2 z0
      have y1 := pcarry b2 z1
      have i0 := pcarryF b2 z0 g0
      have i1 := pcarryF b2 z1 g1
      have bw := ebelow_trans hbr b2
      have HZ2 : Hid (w.heap.size + 2 ≤ w2.heap.size) := Nat.le_trans HZ.out b2.size
      have H2' : Hid (∀ r, sumP s t x 0 = some r → p = r.1 ∧ q = r.2) := H2
      clear b2 H2 m0 m1 f0 f1 z0 z1 g0 g1 hsz
      go_wp2_with fail
      go_round
      case rel =>
        refine ⟨k + 1, p, q, by omega, by go_num, by go_simp, by go_simp, by go_simp, by go_simp, by go_simp, by go_simp, by go_simp, by go_simp, ?_, by have := HZ2.out; simp; omega, fun r hr => ?_⟩
        · repeat (first | exact Below.refl _ _ | assumption | refine below_drewN ?_ _ | refine Below.setCell ?_ (by first | (simp; done) | (simp; omega) | omega) _ | refine Below.alloc ?_ (by first | (simp; done) | (simp; omega) | omega) _)
        · have h1 := HR.out r hr
          rw [HX.out] at h1
          obtain ⟨p', e1, e2⟩ := Option.bind_eq_some_iff.1 h1
          obtain ⟨rfl, rfl⟩ := H2'.out p' e1
          exact e2
      case measure => simp [intOf]; omega
    · have hkl : k = len := by omega
      subst hkl
      go_wp2_with fail
      refine bodyPost_ret (v := .agg #[.float .f64 s, .float .f64 t]) (by simp [results, Try.results71, go_sem, z0, z1]) rfl ⟨s, t, rfl, by repeat (first | exact Below.refl _ _ | assumption | refine below_drewN ?_ _ | refine Below.setCell ?_ (by first | (simp; done) | (simp; omega) | omega) _ | refine Below.alloc ?_ (by first | (simp; done) | (simp; omega) | omega) _), fun r hr => ?_⟩
      have h1 := HR.out r hr
      rw [show xs.drop k = [] from List.drop_eq_nil_iff.2 (by rw [HL.out]; exact Nat.le_refl _)] at h1
      obtain rfl := Option.some.inj h1
      exact ⟨rfl, rfl⟩

def AnsS (w : World) (why : Int) (o : Option (Nat × Nat)) (e : Ending) (w' : World) : Prop :=
  ∃ s t, e = .returned (.tuple #[.agg #[.float .f64 s, .float .f64 t], .int .i64 why]) ∧ Below w.heap.size w w' ∧ (why = 0 → ∀ p, o = some p → s = p.1 ∧ t = p.2) ∧ (why ≠ 0 → s = 0 ∧ t = 0)

theorem smallFs_nil : smallFs [] := fun i => by simp
theorem isF_none (w : World) : IsF w none 0 0 [] := ⟨rfl, ⟨Nat.le_refl _, fun _ => rfl⟩, fun i hi => by omega⟩
theorem checkE_cases (xs ys : List Nat) : checkE xs ys = 0 ∨ checkE xs ys = 2 ∨ checkE xs ys = 3 := by
  unfold checkE; split
  · exact .inr (.inr rfl)
  · split
    · exact .inl rfl
    · exact .inr (.inl rfl)

set_option maxRecDepth 100000 in
set_option maxHeartbeats 2000000 in
theorem dSum_calls (a : Option Addr) (len cap : Nat) (xs : List Nat) (w : World) (h : IsF w a len cap xs) (hm : len ≤ 17592186044416) (hs : smallFs xs) :
    Calls Try.prog 41 #[.slice a len cap] w (AnsS w (checkE xs []) (foldS xs 0 0)) := by
  have HC : Hid _ := fun w' g => check_calls a none len 0 cap 0 xs [] w' g (isF_none _) hm (by omega) hs smallFs_nil
  have HG : Hid _ := fun w' g => gath_sum a len cap xs w' g hm
  have HE : Hid _ := checkE_cases xs []
  clear hs hm
  generalize checkE xs [] = E at *
  rcases HE.out with rfl | rfl | rfl
  · go_enter Try.func41, Try.ntmps41
    go_wp2_with fail
    refine Calls.mono (HC.out _ (h.keep (below_alloc1 _ _))) ?_
    rintro e w1 ⟨rfl, hb1⟩
    have m0 : w1.cell? ⟨w.heap.size, 0, none⟩ = some (.float .f64 0) := pcarry hb1 (by go_simp)
    have m1 : w1.cell? ⟨w.heap.size, 1, none⟩ = some (.float .f64 0) := pcarry hb1 (by go_simp)
    have k0 : w1.frozen? ⟨w.heap.size, 0, none⟩ = false := pcarryF (v := .float .f64 0) hb1 (by go_simp) (by go_simp)
    have k1 : w1.frozen? ⟨w.heap.size, 1, none⟩ = false := pcarryF (v := .float .f64 0) hb1 (by go_simp) (by go_simp)
    have b1 := ebelow_trans (below_alloc1 _ _) hb1
    clear hb1
    go_wp2_with fail
    refine Calls.mono (HG.out _ (h.keep b1)) ?_
    rintro e w2 ⟨s, t, rfl, hb2, H2⟩
    have n0 := pcarry hb2 m0
    have n1 := pcarry hb2 m1
    have l0 := pcarryF hb2 m0 k0
    have l1 := pcarryF hb2 m1 k1
    have b2 := ebelow_trans b1 hb2
    clear hb2 m0 m1 k0 k1
    have H2' : Hid (∀ p, foldS xs 0 0 = some p → s = p.1 ∧ t = p.2) := H2
    clear H2
    go_wp2_with fail
    exact bodyPost_ret (v := .tuple #[.agg #[.float .f64 s, .float .f64 t], .int .i64 0]) (by simp [results, Try.results41, go_sem, n0, n1]) rfl ⟨s, t, rfl, by repeat (first | exact Below.refl _ _ | assumption | refine below_drewN ?_ _ | refine Below.setCell ?_ (by first | (simp; done) | (simp; omega) | omega) _ | refine Below.alloc ?_ (by first | (simp; done) | (simp; omega) | omega) _), fun _ => H2'.out, fun e => absurd rfl e⟩
  all_goals
    go_enter Try.func41, Try.ntmps41
    go_wp2_with fail
    refine Calls.mono (HC.out _ (h.keep (below_alloc1 _ _))) ?_
    rintro e w1 ⟨rfl, hb1⟩
    have m0 : w1.cell? ⟨w.heap.size, 0, none⟩ = some (.float .f64 0) := pcarry hb1 (by go_simp)
    have m1 : w1.cell? ⟨w.heap.size, 1, none⟩ = some (.float .f64 0) := pcarry hb1 (by go_simp)
    have k0 : w1.frozen? ⟨w.heap.size, 0, none⟩ = false := pcarryF (v := .float .f64 0) hb1 (by go_simp) (by go_simp)
    have k1 : w1.frozen? ⟨w.heap.size, 1, none⟩ = false := pcarryF (v := .float .f64 0) hb1 (by go_simp) (by go_simp)
    have b1 := ebelow_trans (below_alloc1 _ _) hb1
    clear hb1
    go_wp2_with fail
    first
    | exact bodyPost_ret (v := .tuple #[.agg #[.float .f64 0, .float .f64 0], .int .i64 2]) (by simp [results, Try.results41, go_sem, m0, m1]) rfl ⟨0, 0, rfl, by repeat (first | exact Below.refl _ _ | assumption | refine below_drewN ?_ _ | refine Below.setCell ?_ (by first | (simp; done) | (simp; omega) | omega) _ | refine Below.alloc ?_ (by first | (simp; done) | (simp; omega) | omega) _), fun e => absurd e (by decide), fun _ => ⟨rfl, rfl⟩⟩
    | exact bodyPost_ret (v := .tuple #[.agg #[.float .f64 0, .float .f64 0], .int .i64 3]) (by simp [results, Try.results41, go_sem, m0, m1]) rfl ⟨0, 0, rfl, by repeat (first | exact Below.refl _ _ | assumption | refine below_drewN ?_ _ | refine Below.setCell ?_ (by first | (simp; done) | (simp; omega) | omega) _ | refine Below.alloc ?_ (by first | (simp; done) | (simp; omega) | omega) _), fun e => absurd e (by decide), fun _ => ⟨rfl, rfl⟩⟩

set_option maxRecDepth 100000 in
set_option maxHeartbeats 2000000 in
theorem dOf_bad (x : Nat) (w : World) (hx : x < 18446744073709551616) (hr : rightP x 0 = false) :
    Calls Try.prog 56 #[.float .f64 x] w fun e w' => e = .returned (.tuple #[.agg #[.float .f64 0, .float .f64 0], .int .i64 2]) ∧ Below w.heap.size w w' := by
  have HA : Hid _ := fun w => wrong_calls x w hx
  rw [hr] at HA
  clear hx hr
  go_enter Try.func56, Try.ntmps56
  go_wp2_with fail
  refine Calls.mono (HA.out _) ?_
  rintro e w1 ⟨rfl, hb1⟩
  have m0 : w1.cell? ⟨w.heap.size, 0, none⟩ = some (.float .f64 0) := pcarry hb1 (by go_simp)
  have m1 : w1.cell? ⟨w.heap.size, 1, none⟩ = some (.float .f64 0) := pcarry hb1 (by go_simp)
  have k0 : w1.frozen? ⟨w.heap.size, 0, none⟩ = false := pcarryF (v := .float .f64 0) hb1 (by go_simp) (by go_simp)
  have k1 : w1.frozen? ⟨w.heap.size, 1, none⟩ = false := pcarryF (v := .float .f64 0) hb1 (by go_simp) (by go_simp)
  have b1 := ebelow_trans (below_alloc1 _ _) hb1
  clear hb1
  go_wp2_with fail
  exact bodyPost_ret (v := .tuple #[.agg #[.float .f64 0, .float .f64 0], .int .i64 2]) (by simp [results, Try.results56, go_sem, m0, m1]) rfl ⟨rfl, by repeat (first | exact Below.refl _ _ | assumption | refine below_drewN ?_ _ | refine Below.setCell ?_ (by first | (simp; done) | (simp; omega) | omega) _ | refine Below.alloc ?_ (by first | (simp; done) | (simp; omega) | omega) _)⟩
end Go.Proofs.Ytckpfohfbfmmnaa

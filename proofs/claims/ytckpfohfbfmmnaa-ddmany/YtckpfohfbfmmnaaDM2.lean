/- The document's sums of many floats. -/
import Derived.Test.YtckpfohfbfmmnaaDM1
import Derived.Test.YtckpfohfbfmmnaaDL3
import Derived.Deep.RegionWith
namespace Go.Proofs.Ytckpfohfbfmmnaa
open Go.RowKit EP
attribute [local go_sem] ran_store

set_option maxRecDepth 100000 in
set_option maxHeartbeats 1000000 in
theorem rFloat_any (x : Nat) (w : World) (hx : x < 18446744073709551616) :
    Calls Try.prog 64 #[.float .f64 x] w fun e w' => e = .returned (.bool (rightP x 0)) ∧ w' = w := by
  rw [right0]
  cases hz : isZ x with
  | false =>
    have : fltB x = (le1 (absF x) && le2 (absF x)) := by unfold fltB; rw [hz, if_neg (by simp)]
    rw [this]
    exact rFloat_calls x w hx hz
  | true =>
    have HE : Hid (fltB x = true) := by rw [Hid, fltB, hz, if_pos rfl]
    have hz' : (FloatKind.f64.format.order x 0 == some .eq) = true := hz
    have o1 : (FloatKind.f64.format.order x 0 == some .lt) = false := by rw [show FloatKind.f64.format.order x 0 = some .eq from eq_of_beq hz]; rfl
    clear hz
    go_enter Try.func64, Try.ntmps64
    go_wp2_with fail
    go_ret
    rw [HE.out]
    exact ⟨rfl, rfl⟩

set_option maxRecDepth 100000 in
set_option maxHeartbeats 2000000 in
theorem rFloats_calls (a : Option Addr) (len cap : Nat) (xs : List Nat) (w : World) (h : IsF w a len cap xs) (hs : smallFs xs) (hm : len ≤ 17592186044416) :
    Calls Try.prog 73 #[.slice a len cap] w fun e w' => e = .returned (.int .i64 (checkE xs [])) ∧ w' = w := by
  have HL : Hid (len = xs.length) := h.1
  have hcap := h.2.1.1
  by_cases hl : 1024 < len
  · have HE : Hid (checkE xs [] = 3) := by rw [Hid, checkE, if_pos (by rw [← h.1]; exact hl)]
    clear h hs
    go_enter Try.func73, Try.ntmps73
    go_wp2_with fail
    go_ret
    rw [HE.out]
    exact ⟨rfl, rfl⟩
  · have HE : Hid (checkE xs [] = if okFs xs then 0 else 2) := by rw [Hid, checkE, if_neg (by rw [← h.1]; exact hl), show okFs [] = true from rfl, Bool.and_true]
    go_enter Try.func73, Try.ntmps73
    go_wp2_with fail
    go_loop [3] (fun i => ∃ k : Nat, k ≤ len ∧ i = .int .i64 k ∧ ∀ j, j < k → rightP (xs.getD j 0) 0 = true) (fun i => len - (intOf i).toNat)
    case atStart => exact ⟨0, by omega, rfl, fun j hj => absurd hj (Nat.not_lt_zero _)⟩
    case round =>
      obtain ⟨k, hk, rfl, hrel⟩ := hrel
      have HR : Hid (∀ j, j < k → rightP (xs.getD j 0) 0 = true) := hrel
      clear hrel
      by_cases hlt : k < len
      · obtain ⟨bb, off, rfl, hbl, hc⟩ := h.2.2 k hlt
        obtain ⟨x, hx⟩ : ∃ x, x = xs.getD k 0 := ⟨_, rfl⟩
        rw [← hx] at hc
        have HX : Hid (x = xs.getD k 0) := hx
        have HW : Hid _ := fun w => rFloat_any x w (by rw [hx]; exact hs k)
        clear hx
        cases hr : rightP x 0 with
        | true =>
          rw [hr] at HW
          go_wp2_with fail
          refine Calls.mono (HW.out _) ?_
          rintro e w ⟨rfl, rfl⟩
          go_wp2_with fail
          go_round
          case rel =>
            refine ⟨k + 1, by omega, by go_num, fun j hj => ?_⟩
            by_cases e : j = k
            · subst e; rw [← HX.out]; exact hr
            · exact HR.out j (by omega)
          case measure => simp [intOf]; omega
        | false =>
          rw [hr] at HW
          go_wp2_with fail
          refine Calls.mono (HW.out _) ?_
          rintro e w ⟨rfl, rfl⟩
          go_wp2_with fail
          go_ret
          have h1 : okFs xs = false := by
            cases ho : okFs xs with
            | false => rfl
            | true =>
              have := (okFs_all xs).1 ho k (by rw [← HL.out]; exact hlt)
              rw [← HX.out, hr] at this; cases this
          rw [HE.out, h1]
          exact ⟨rfl, rfl⟩
      · have hkl : k = len := by omega
        subst hkl
        go_wp2_with fail
        go_ret
        rw [HE.out, (okFs_all xs).2 (fun i hi => HR.out i (by rw [HL.out]; exact hi))]
        exact ⟨rfl, rfl⟩

set_option maxRecDepth 100000 in
set_option maxHeartbeats 4000000 in
theorem rSum_calls (a : Option Addr) (len cap : Nat) (xs : List Nat) (w : World) (h : IsF w a len cap xs) (hm : len ≤ 17592186044416) (hs : smallFs xs) :
    Calls Try.prog 42 #[.slice a len cap] w (AnsS w (checkE xs []) (foldS xs 0 0)) := by
  have HC : Hid _ := fun w' g => rFloats_calls a len cap xs w' g hs hm
  have HE : Hid _ := checkE_cases xs []
  have HL : Hid (len = xs.length) := h.1
  have hcap := h.2.1.1
  have b0 := below_alloc1 w (.cells #[.float .f64 0, .float .f64 0] 39)
  clear hs
  generalize checkE xs [] = E at *
  rcases HE.out with rfl | rfl | rfl
  · go_enter Try.func42, Try.ntmps42
    go_wp2_with fail
    refine Calls.mono (HC.out _ (h.keep b0)) ?_
    rintro e w1 ⟨rfl, rfl⟩
    go_wp2_with fail
    go_loopw [6] (fun i wr => ∃ (k s t : Nat), k ≤ len ∧ i = .int .i64 k ∧ wr.cell? ⟨w.heap.size + 1, 0, none⟩ = some (.float .f64 s) ∧ wr.cell? ⟨w.heap.size + 1, 1, none⟩ = some (.float .f64 t) ∧ wr.frozen? ⟨w.heap.size + 1, 0, none⟩ = false ∧ wr.frozen? ⟨w.heap.size + 1, 1, none⟩ = false ∧ wr.cell? ⟨w.heap.size, 0, none⟩ = some (.float .f64 0) ∧ wr.cell? ⟨w.heap.size, 1, none⟩ = some (.float .f64 0) ∧ wr.frozen? ⟨w.heap.size, 0, none⟩ = false ∧ wr.frozen? ⟨w.heap.size, 1, none⟩ = false ∧ Below w.heap.size w wr ∧ Hid (w.heap.size + 2 ≤ wr.heap.size) ∧ Hid (∀ r, foldS xs 0 0 = some r → foldS (xs.drop k) s t = some r)) (fun i _ => len - (intOf i).toNat)
    case atStart => exact ⟨0, 0, 0, by omega, rfl, by go_simp, by go_simp, by go_simp, by go_simp, by go_simp, by go_simp, by go_simp, by go_simp, by repeat (first | exact Below.refl _ _ | refine Below.alloc ?_ (by simp) _), by rw [Hid]; simp, fun r hr => hr⟩
    case round =>
      obtain ⟨k, s, t, hk, rfl, m0, m1, f0, f1, z0, z1, g0, g1, hbr, HZ, HR⟩ := hrel
      by_cases hlt : k < len
      · obtain ⟨bb, off, rfl, hbl, hc⟩ := (h.keep hbr).2.2 k hlt
        obtain ⟨x, hx⟩ : ∃ x, x = xs.getD k 0 := ⟨_, rfl⟩
        rw [← hx] at hc
        have HX : Hid (xs.drop k = x :: xs.drop (k + 1)) := by rw [Hid, hx]; exact drop_cons xs k (by rw [← HL.out]; exact hlt)
        clear hx
        go_wp2_with fail
        go_region_with (first
          | (go_at_call 52; refine (rPlus_calls s t x 0 _).mono ?_; rintro e w2 ⟨p, q, rfl, b2, H2⟩; have n0 : w2.cell? ⟨w.heap.size + 1, 0, none⟩ = some (.float .f64 s) := pcarry b2 (by go_simp); have n1 : w2.cell? ⟨w.heap.size + 1, 1, none⟩ = some (.float .f64 t) := pcarry b2 (by go_simp); have h0 : w2.frozen? ⟨w.heap.size + 1, 0, none⟩ = false := pcarryF (v := .float .f64 s) b2 (by go_simp) (by go_simp); have h1 : w2.frozen? ⟨w.heap.size + 1, 1, none⟩ = false := pcarryF (v := .float .f64 t) b2 (by go_simp) (by go_simp); have y0 : w2.cell? ⟨w.heap.size, 0, none⟩ = some (.float .f64 0) := pcarry b2 (by go_simp); have y1 : w2.cell? ⟨w.heap.size, 1, none⟩ = some (.float .f64 0) := pcarry b2 (by go_simp); have i0 : w2.frozen? ⟨w.heap.size, 0, none⟩ = false := pcarryF (v := .float .f64 0) b2 (by go_simp) (by go_simp); have i1 : w2.frozen? ⟨w.heap.size, 1, none⟩ = false := pcarryF (v := .float .f64 0) b2 (by go_simp) (by go_simp); have bw := ebelow_trans (show Below w.heap.size w _ from by repeat (first | exact hbr | refine Below.drew ?_ | refine below_drewN ?_ _)) b2; have HZ2 : Hid (w.heap.size + 2 ≤ w2.heap.size) := Nat.le_trans HZ.out b2.size; have H2' : Hid (∀ r, sumP s t x 0 = some r → p = r.1 ∧ q = r.2) := H2; clear b2 H2 m0 m1 f0 f1 z0 z1 g0 g1))
        all_goals go_wp2_with fail
        all_goals go_round
        all_goals first
          | (refine ⟨k + 1, p, q, by omega, by go_num, by go_simp, by go_simp, by go_simp, by go_simp, by go_simp, by go_simp, by go_simp, by go_simp, ?_, by have := HZ2.out; rw [Hid]; simp; omega, fun r hr => ?_⟩
             · repeat (first | exact Below.refl _ _ | assumption | refine Below.drew ?_ | refine below_drewN ?_ _ | refine Below.setCell ?_ (by first | (simp; done) | (simp; omega) | omega) _ | refine Below.alloc ?_ (by first | (simp; done) | (simp; omega) | omega) _)
             · have h1 := HR.out r hr
               rw [HX.out] at h1
               obtain ⟨p', e1, e2⟩ := Option.bind_eq_some_iff.1 h1
               obtain ⟨rfl, rfl⟩ := H2'.out p' e1
               exact e2)
          | (simp [intOf]; omega)
      · have hkl : k = len := by omega
        subst hkl
        go_wp2_with fail
        refine bodyPost_ret (v := .tuple #[.agg #[.float .f64 s, .float .f64 t], .int .i64 0]) (by simp [results, Try.results42, go_sem, z0, z1]) rfl ⟨s, t, rfl, by repeat (first | exact Below.refl _ _ | assumption | refine below_drewN ?_ _ | refine Below.setCell ?_ (by first | (simp; done) | (simp; omega) | omega) _ | refine Below.alloc ?_ (by first | (simp; done) | (simp; omega) | omega) _), fun _ r hr => ?_, fun e => absurd rfl e⟩
        have h1 := HR.out r hr
        rw [show xs.drop k = [] from List.drop_eq_nil_iff.2 (by rw [HL.out]; exact Nat.le_refl _)] at h1
        obtain rfl := Option.some.inj h1
        exact ⟨rfl, rfl⟩
  all_goals
    go_enter Try.func42, Try.ntmps42
    go_wp2_with fail
    refine Calls.mono (HC.out _ (h.keep b0)) ?_
    rintro e w1 ⟨rfl, rfl⟩
    go_wp2_with fail
    first
    | exact bodyPost_ret (v := .tuple #[.agg #[.float .f64 0, .float .f64 0], .int .i64 2]) (by simp [results, Try.results42, go_sem]) rfl ⟨0, 0, rfl, by repeat (first | exact Below.refl _ _ | assumption | refine below_drewN ?_ _ | refine Below.setCell ?_ (by first | (simp; done) | (simp; omega) | omega) _ | refine Below.alloc ?_ (by first | (simp; done) | (simp; omega) | omega) _), fun e => absurd e (by decide), fun _ => ⟨rfl, rfl⟩⟩
    | exact bodyPost_ret (v := .tuple #[.agg #[.float .f64 0, .float .f64 0], .int .i64 3]) (by simp [results, Try.results42, go_sem]) rfl ⟨0, 0, rfl, by repeat (first | exact Below.refl _ _ | assumption | refine below_drewN ?_ _ | refine Below.setCell ?_ (by first | (simp; done) | (simp; omega) | omega) _ | refine Below.alloc ?_ (by first | (simp; done) | (simp; omega) | omega) _), fun e => absurd e (by decide), fun _ => ⟨rfl, rfl⟩⟩
end Go.Proofs.Ytckpfohfbfmmnaa

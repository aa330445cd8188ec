/- Polynomials by pairs: program. -/
import Derived.Test.YtckpfohfbfmmnaaDM2
namespace Go.Proofs.Ytckpfohfbfmmnaa
open Go.RowKit EP
attribute [local go_sem] ran_store

def stepY (k s t c d : Nat) : Option (Nat × Nat) := (byP s t k).bind fun r => sumP r.1 r.2 c d

set_option maxRecDepth 100000 in
set_option maxHeartbeats 2000000 in
theorem poly1_calls (b x s t c d : Nat) (w : World) (hc : w.cell? ⟨b, 0, none⟩ = some (.float .f64 x)) :
    Calls Try.prog 75 #[.agg #[.float .f64 s, .float .f64 t], .agg #[.float .f64 c, .float .f64 d], .pointer (some ⟨b, 0, none⟩)] w (Pr w (stepY x s t c d)) := by
  have b0 : Below w.heap.size w (((w.alloc (.cells #[.float .f64 s, .float .f64 t] 66)).alloc (.cells #[.float .f64 c, .float .f64 d] 66)).alloc (.cells #[.float .f64 0, .float .f64 0] 66)) := by repeat (first | exact Below.refl _ _ | refine Below.alloc ?_ (by simp; try omega) _)
  have c0 := pcarry b0 hc
  have c1 : (((w.alloc (.cells #[.float .f64 s, .float .f64 t] 66)).alloc (.cells #[.float .f64 c, .float .f64 d] 66)).alloc (.cells #[.float .f64 0, .float .f64 0] 66)).cell? ⟨w.heap.size, 0, none⟩ = some (.float .f64 s) := by go_simp
  have c2 : (((w.alloc (.cells #[.float .f64 s, .float .f64 t] 66)).alloc (.cells #[.float .f64 c, .float .f64 d] 66)).alloc (.cells #[.float .f64 0, .float .f64 0] 66)).cell? ⟨w.heap.size, 1, none⟩ = some (.float .f64 t) := by go_simp
  have c3 : (((w.alloc (.cells #[.float .f64 s, .float .f64 t] 66)).alloc (.cells #[.float .f64 c, .float .f64 d] 66)).alloc (.cells #[.float .f64 0, .float .f64 0] 66)).cell? ⟨w.heap.size + 1, 0, none⟩ = some (.float .f64 c) := by go_simp
  have c4 : (((w.alloc (.cells #[.float .f64 s, .float .f64 t] 66)).alloc (.cells #[.float .f64 c, .float .f64 d] 66)).alloc (.cells #[.float .f64 0, .float .f64 0] 66)).cell? ⟨w.heap.size + 1, 1, none⟩ = some (.float .f64 d) := by go_simp
  have c5 : (((w.alloc (.cells #[.float .f64 s, .float .f64 t] 66)).alloc (.cells #[.float .f64 c, .float .f64 d] 66)).alloc (.cells #[.float .f64 0, .float .f64 0] 66)).cell? ⟨w.heap.size + 1 + 1, 0, none⟩ = some (.float .f64 0) := by go_simp
  have c6 : (((w.alloc (.cells #[.float .f64 s, .float .f64 t] 66)).alloc (.cells #[.float .f64 c, .float .f64 d] 66)).alloc (.cells #[.float .f64 0, .float .f64 0] 66)).cell? ⟨w.heap.size + 1 + 1, 1, none⟩ = some (.float .f64 0) := by go_simp
  have f5 : (((w.alloc (.cells #[.float .f64 s, .float .f64 t] 66)).alloc (.cells #[.float .f64 c, .float .f64 d] 66)).alloc (.cells #[.float .f64 0, .float .f64 0] 66)).frozen? ⟨w.heap.size + 1 + 1, 0, none⟩ = false := by go_simp
  have f6 : (((w.alloc (.cells #[.float .f64 s, .float .f64 t] 66)).alloc (.cells #[.float .f64 c, .float .f64 d] 66)).alloc (.cells #[.float .f64 0, .float .f64 0] 66)).frozen? ⟨w.heap.size + 1 + 1, 1, none⟩ = false := by go_simp
  clear hc
  go_enter Try.func75, Try.ntmps75
  go_wp2_with fail
  generalize ((w.alloc (.cells #[.float .f64 s, .float .f64 t] 66)).alloc (.cells #[.float .f64 c, .float .f64 d] 66)).alloc (.cells #[.float .f64 0, .float .f64 0] 66) = W3 at *
  go_region_with (first
    | (go_at_call 76; refine (dby_calls s t x _).mono ?_; rintro e w1 ⟨nh, nl, rfl, d1, H1⟩; have H1' : Hid (∀ p, byP s t x = some p → nh = p.1 ∧ nl = p.2) := H1; clear H1; have m0 : w1.cell? ⟨w.heap.size + 1, 0, none⟩ = some (.float .f64 c) := pcarry d1 (by go_simp); have m1 : w1.cell? ⟨w.heap.size + 1, 1, none⟩ = some (.float .f64 d) := pcarry d1 (by go_simp); have m2 : w1.cell? ⟨w.heap.size + 1 + 1, 0, none⟩ = some (.float .f64 0) := pcarry d1 (by go_simp); have m3 : w1.cell? ⟨w.heap.size + 1 + 1, 1, none⟩ = some (.float .f64 0) := pcarry d1 (by go_simp); have k2 : w1.frozen? ⟨w.heap.size + 1 + 1, 0, none⟩ = false := pcarryF (v := .float .f64 0) d1 (by go_simp) (by go_simp); have k3 : w1.frozen? ⟨w.heap.size + 1 + 1, 1, none⟩ = false := pcarryF (v := .float .f64 0) d1 (by go_simp) (by go_simp); have bw1 : Below w.heap.size w w1 := ebelow_trans (show Below w.heap.size w _ from by repeat (first | exact b0 | refine Below.drew ?_ | refine below_drewN ?_ _)) d1; clear d1)
    | (go_at_call 72; refine (dsum_calls nh nl c d _).mono ?_; rintro e w2 ⟨p, q, rfl, d2, H2⟩; have n2 : w2.cell? ⟨w.heap.size + 1 + 1, 0, none⟩ = some (.float .f64 0) := pcarry d2 (by go_simp); have n3 : w2.cell? ⟨w.heap.size + 1 + 1, 1, none⟩ = some (.float .f64 0) := pcarry d2 (by go_simp); have l2 : w2.frozen? ⟨w.heap.size + 1 + 1, 0, none⟩ = false := pcarryF (v := .float .f64 0) d2 (by go_simp) (by go_simp); have l3 : w2.frozen? ⟨w.heap.size + 1 + 1, 1, none⟩ = false := pcarryF (v := .float .f64 0) d2 (by go_simp) (by go_simp); have bw2 : Below w.heap.size w w2 := ebelow_trans (show Below w.heap.size w _ from by repeat (first | exact bw1 | refine Below.drew ?_ | refine below_drewN ?_ _)) d2; have H2' : Hid (∀ r, sumP nh nl c d = some r → p = r.1 ∧ q = r.2) := H2; clear H2 d2))
  all_goals go_wp2_with fail
  all_goals refine bodyPost_ret (v := .agg #[.float .f64 p, .float .f64 q]) (by simp [results, Try.results75, go_sem, n2, n3]) rfl ⟨_, _, rfl, by repeat (first | exact Below.refl _ _ | assumption | refine below_drewN ?_ _ | refine Below.setCell ?_ (by first | (simp; done) | (simp; omega) | omega) _ | refine Below.alloc ?_ (by first | (simp; done) | (simp; omega) | omega) _), ?_⟩
  all_goals
    intro z hz
    obtain ⟨r, e1, e2⟩ := Option.bind_eq_some_iff.1 hz
    obtain ⟨rfl, rfl⟩ := H1'.out r e1
    exact H2'.out z e2

theorem foldY_step (K x : Nat) (l : List Nat) (s t : Nat) : foldY K (x :: l) s t = (stepY K s t x 0).bind fun p => foldY K l p.1 p.2 := by
  show (byP s t K).bind _ = _
  unfold stepY
  cases byP s t K <;> rfl

set_option maxRecDepth 100000 in
set_option maxHeartbeats 4000000 in
theorem gath_poly (b K : Nat) (a : Option Addr) (len cap : Nat) (xs : List Nat) (w : World) (hK : w.cell? ⟨b, 0, none⟩ = some (.float .f64 K)) (h : IsF w a len cap xs) (hm : len ≤ 17592186044416) :
    Calls Try.prog 71 #[.slice a len cap, .func (.func 75) #[] #[.pointer (some ⟨b, 0, none⟩)]] w (Pr w (foldY K xs 0 0)) := by
  have HL : Hid (len = xs.length) := h.1
  have hcap := h.2.1.1
  go_enter Try.func71, Try.ntmps71
  go_wp2_with fail
  go_loopw [7, 10] (fun _ i wr => ∃ (k s t : Nat), k ≤ len ∧ i = .int .i64 k ∧ wr.cell? ⟨w.heap.size + 1, 0, none⟩ = some (.float .f64 s) ∧ wr.cell? ⟨w.heap.size + 1, 1, none⟩ = some (.float .f64 t) ∧ wr.frozen? ⟨w.heap.size + 1, 0, none⟩ = false ∧ wr.frozen? ⟨w.heap.size + 1, 1, none⟩ = false ∧ wr.cell? ⟨w.heap.size, 0, none⟩ = some (.float .f64 0) ∧ wr.cell? ⟨w.heap.size, 1, none⟩ = some (.float .f64 0) ∧ wr.frozen? ⟨w.heap.size, 0, none⟩ = false ∧ wr.frozen? ⟨w.heap.size, 1, none⟩ = false ∧ Below w.heap.size w wr ∧ w.heap.size + 2 ≤ wr.heap.size ∧ ∀ r, foldY K xs 0 0 = some r → foldY K (xs.drop k) s t = some r) (fun _ i _ => len - (intOf i).toNat)
  case atStart => exact ⟨0, 0, 0, by omega, rfl, by go_simp, by go_simp, by go_simp, by go_simp, by go_simp, by go_simp, by go_simp, by go_simp, by repeat (first | exact Below.refl _ _ | refine Below.alloc ?_ (by simp) _), by simp, fun r hr => hr⟩
  case round =>
    obtain ⟨k, s, t, hk, rfl, m0, m1, f0, f1, z0, z1, g0, g1, hbr, hsz, hrel⟩ := hrel
    have HR : Hid (∀ r, foldY K xs 0 0 = some r → foldY K (xs.drop k) s t = some r) := hrel
    have HZ : Hid (w.heap.size + 2 ≤ wr.heap.size) := hsz
    have HK : Hid _ := pcarry hbr hK
    clear hrel
    by_cases hlt : k < len
    · obtain ⟨bb, off, rfl, hbl, hc⟩ := (h.keep hbr).2.2 k hlt
      obtain ⟨x, hx⟩ : ∃ x, x = xs.getD k 0 := ⟨_, rfl⟩
      rw [← hx] at hc
      have HX : Hid (xs.drop k = x :: xs.drop (k + 1)) := by rw [Hid, hx]; exact drop_cons xs k (by rw [← HL.out]; exact hlt)
      clear hx
      go_wp2_with fail
      refine Calls.mono (poly1_calls b K s t x 0 _ HK.out) ?_
      rintro e w2 ⟨p, q, rfl, b2, H2⟩
      have n0 := pcarry b2 m0
      have n1 := pcarry b2 m1
      have h0 := pcarryF b2 m0 f0
      have h1 := pcarryF b2 m1 f1
      have y0 := pcarry b2 z0
      have y1 := pcarry b2 z1
      have i0 := pcarryF b2 z0 g0
      have i1 := pcarryF b2 z1 g1
      have bw := ebelow_trans hbr b2
      have HZ2 : Hid (w.heap.size + 2 ≤ w2.heap.size) := Nat.le_trans HZ.out b2.size
      have H2' : Hid (∀ r, stepY K s t x 0 = some r → p = r.1 ∧ q = r.2) := H2
      clear b2 H2 m0 m1 f0 f1 z0 z1 g0 g1 hsz HK
      go_wp2_with fail
      go_round
      case rel =>
        refine ⟨k + 1, p, q, by omega, by go_num, by go_simp, by go_simp, by go_simp, by go_simp, by go_simp, by go_simp, by go_simp, by go_simp, ?_, by have := HZ2.out; simp; omega, fun r hr => ?_⟩
        · repeat (first | exact Below.refl _ _ | assumption | refine below_drewN ?_ _ | refine Below.setCell ?_ (by first | (simp; done) | (simp; omega) | omega) _ | refine Below.alloc ?_ (by first | (simp; done) | (simp; omega) | omega) _)
        · have h1 := HR.out r hr
          rw [HX.out, foldY_step] at h1
          obtain ⟨p', e1, e2⟩ := Option.bind_eq_some_iff.1 h1
          obtain ⟨rfl, rfl⟩ := H2'.out p' e1
          exact e2
      case measure => simp [intOf]; omega
    · have hkl : k = len := by omega
      subst hkl
      go_wp2_with fail
      refine bodyPost_ret (v := .agg #[.float .f64 s, .float .f64 t]) (by simp [results, Try.results71, go_sem, z0, z1]) rfl ⟨s, t, rfl, by repeat (first | exact Below.refl _ _ | assumption | refine below_drewN ?_ _ | refine Below.setCell ?_ (by first | (simp; done) | (simp; omega) | omega) _ | refine Below.alloc ?_ (by first | (simp; done) | (simp; omega) | omega) _), fun r hr => ?_⟩
      have h1 := HR.out r hr
      rw [show xs.drop k = [] from List.drop_eq_nil_iff.2 (by rw [HL.out]; exact Nat.le_refl _)] at h1
      obtain rfl := Option.some.inj h1
      exact ⟨rfl, rfl⟩

/-- greater than 1 in amount -/
def gt1 (x : Nat) : Bool := Ieee.double.order (absF x) 4607182418800017408 == some .gt
def polyE (xs : List Nat) (x : Nat) : Int := if checkE xs [x] = 0 then (if gt1 x then 2 else 0) else checkE xs [x]
theorem isF_one (w : World) (B x : Nat) (t : TypeId) (hB : w.heap.size = B) : IsF (w.alloc (.cells #[.float .f64 x] t)) (some ⟨B, 0, none⟩) 1 1 [x] := by
  subst hB
  refine ⟨rfl, ⟨Nat.le_refl _, fun e => by cases e⟩, fun i hi => ?_⟩
  refine ⟨w.heap.size, 0, rfl, by simp, ?_⟩
  match i, hi with
  | 0, _ => first | (simp; done) | (simp [World.cell?]; done) | (go_simp; done) | rfl
theorem smallFs_one {x : Nat} (hx : x < 18446744073709551616) : smallFs [x] := fun i => by
  match i with
  | 0 => exact hx
  | i + 1 => simp

set_option maxRecDepth 100000 in
set_option maxHeartbeats 2000000 in
theorem dPoly_calls (a : Option Addr) (len cap : Nat) (xs : List Nat) (x : Nat) (w : World) (h : IsF w a len cap xs) (hm : len ≤ 17592186044416) (hs : smallFs xs) (hx : x < 18446744073709551616) :
    Calls Try.prog 43 #[.slice a len cap, .float .f64 x] w (AnsS w (polyE xs x) (foldY x xs 0 0)) := by
  have hmf : ∀ (fn : Fn) (first cap : Array Value) (w : World), (Instr.makeFunc fn first cap).run Try.prog w = .ok (.func fn first cap) w := fun _ _ _ _ => rfl
  have HC : Hid _ := fun a2 w' g g2 => check_calls a a2 len 1 cap 1 xs [x] w' g g2 hm (by omega) hs (smallFs_one hx)
  have HA : Hid _ := fun w => mAbs_calls x w hx
  have HG : Hid _ := fun b w' hK g => gath_poly b x a len cap xs w' hK g hm
  have HE : Hid _ := checkE_cases xs [x]
  have b0 : Below w.heap.size w (((w.alloc (.cells #[.float .f64 x] 22)).alloc (.cells #[.float .f64 0, .float .f64 0] 39)).alloc (.cells #[.float .f64 x] 22)) := by repeat (first | exact Below.refl _ _ | refine Below.alloc ?_ (by simp; try omega) _)
  have HPE : Hid (polyE xs x = if checkE xs [x] = 0 then (if gt1 x then 2 else 0) else checkE xs [x]) := rfl
  clear hs hm hx
  generalize polyE xs x = PE at *
  generalize checkE xs [x] = E at *
  rcases HE.out with rfl | rfl | rfl
  · cases hg : gt1 x with
    | true =>
      obtain rfl : PE = 2 := by rw [HPE.out, if_pos rfl, hg]; rfl
      have hg' : (FloatKind.f64.format.order (absF x) 4607182418800017408 == some .gt) = true := hg
      clear hg HPE
      go_enter Try.func43, Try.ntmps43
      go_wp2_with fail
      refine Calls.mono (HC.out _ _ (h.keep b0) (isF_one _ _ _ _ (by simp))) ?_
      rintro e w1 ⟨rfl, hb1⟩
      have m0 : w1.cell? ⟨w.heap.size + 1, 0, none⟩ = some (.float .f64 0) := pcarry hb1 (by go_simp)
      have m1 : w1.cell? ⟨w.heap.size + 1, 1, none⟩ = some (.float .f64 0) := pcarry hb1 (by go_simp)
      have k0 : w1.frozen? ⟨w.heap.size + 1, 0, none⟩ = false := pcarryF (v := .float .f64 0) hb1 (by go_simp) (by go_simp)
      have k1 : w1.frozen? ⟨w.heap.size + 1, 1, none⟩ = false := pcarryF (v := .float .f64 0) hb1 (by go_simp) (by go_simp)
      have n0 : w1.cell? ⟨w.heap.size, 0, none⟩ = some (.float .f64 x) := pcarry hb1 (by go_simp)
      have b1 := ebelow_trans b0 hb1
      clear hb1
      go_wp2_with fail
      refine Calls.mono (HA.out _) ?_
      rintro e w1 ⟨rfl, rfl⟩
      go_wp2_with fail
      exact bodyPost_ret (v := .tuple #[.agg #[.float .f64 0, .float .f64 0], .int .i64 2]) (by simp [results, Try.results43, go_sem, m0, m1]) rfl ⟨0, 0, rfl, by repeat (first | exact Below.refl _ _ | assumption | refine below_drewN ?_ _ | refine Below.setCell ?_ (by first | (simp; done) | (simp; omega) | omega) _ | refine Below.alloc ?_ (by first | (simp; done) | (simp; omega) | omega) _), fun e => absurd e (by decide), fun _ => ⟨rfl, rfl⟩⟩
    | false =>
      obtain rfl : PE = 0 := by rw [HPE.out, if_pos rfl, hg]; rfl
      have hg' : (FloatKind.f64.format.order (absF x) 4607182418800017408 == some .gt) = false := hg
      clear hg HPE
      go_enter Try.func43, Try.ntmps43
      go_wp2_with fail
      refine Calls.mono (HC.out _ _ (h.keep b0) (isF_one _ _ _ _ (by simp))) ?_
      rintro e w1 ⟨rfl, hb1⟩
      have m0 : w1.cell? ⟨w.heap.size + 1, 0, none⟩ = some (.float .f64 0) := pcarry hb1 (by go_simp)
      have m1 : w1.cell? ⟨w.heap.size + 1, 1, none⟩ = some (.float .f64 0) := pcarry hb1 (by go_simp)
      have k0 : w1.frozen? ⟨w.heap.size + 1, 0, none⟩ = false := pcarryF (v := .float .f64 0) hb1 (by go_simp) (by go_simp)
      have k1 : w1.frozen? ⟨w.heap.size + 1, 1, none⟩ = false := pcarryF (v := .float .f64 0) hb1 (by go_simp) (by go_simp)
      have n0 : w1.cell? ⟨w.heap.size, 0, none⟩ = some (.float .f64 x) := pcarry hb1 (by go_simp)
      have b1 := ebelow_trans b0 hb1
      clear hb1
      go_wp2_with fail
      refine Calls.mono (HA.out _) ?_
      rintro e w1 ⟨rfl, rfl⟩
      go_wp2_with fail
      refine Calls.mono (HG.out _ _ n0 (h.keep b1)) ?_
      rintro e w2 ⟨s, t, rfl, hb2, H2⟩
      have p0 := pcarry hb2 m0
      have p1 := pcarry hb2 m1
      have l0 := pcarryF hb2 m0 k0
      have l1 := pcarryF hb2 m1 k1
      have b2 := ebelow_trans b1 hb2
      clear hb2 m0 m1 k0 k1
      have H2' : Hid (∀ p, foldY x xs 0 0 = some p → s = p.1 ∧ t = p.2) := H2
      clear H2
      go_wp2_with fail
      exact bodyPost_ret (v := .tuple #[.agg #[.float .f64 s, .float .f64 t], .int .i64 0]) (by simp [results, Try.results43, go_sem, p0, p1]) rfl ⟨s, t, rfl, by repeat (first | exact Below.refl _ _ | assumption | refine below_drewN ?_ _ | refine Below.setCell ?_ (by first | (simp; done) | (simp; omega) | omega) _ | refine Below.alloc ?_ (by first | (simp; done) | (simp; omega) | omega) _), fun _ => H2'.out, fun e => absurd rfl e⟩
  all_goals
    obtain rfl := HPE.out
    clear HPE
    go_enter Try.func43, Try.ntmps43
    go_wp2_with fail
    refine Calls.mono (HC.out _ _ (h.keep b0) (isF_one _ _ _ _ (by simp))) ?_
    rintro e w1 ⟨rfl, hb1⟩
    have m0 : w1.cell? ⟨w.heap.size + 1, 0, none⟩ = some (.float .f64 0) := pcarry hb1 (by go_simp)
    have m1 : w1.cell? ⟨w.heap.size + 1, 1, none⟩ = some (.float .f64 0) := pcarry hb1 (by go_simp)
    have k0 : w1.frozen? ⟨w.heap.size + 1, 0, none⟩ = false := pcarryF (v := .float .f64 0) hb1 (by go_simp) (by go_simp)
    have k1 : w1.frozen? ⟨w.heap.size + 1, 1, none⟩ = false := pcarryF (v := .float .f64 0) hb1 (by go_simp) (by go_simp)
    have b1 := ebelow_trans b0 hb1
    clear hb1
    go_wp2_with fail
    first
    | exact bodyPost_ret (v := .tuple #[.agg #[.float .f64 0, .float .f64 0], .int .i64 2]) (by simp [results, Try.results43, go_sem, m0, m1]) rfl ⟨0, 0, rfl, by repeat (first | exact Below.refl _ _ | assumption | refine below_drewN ?_ _ | refine Below.setCell ?_ (by first | (simp; done) | (simp; omega) | omega) _ | refine Below.alloc ?_ (by first | (simp; done) | (simp; omega) | omega) _), fun e => absurd e (by decide), fun _ => ⟨rfl, rfl⟩⟩
    | exact bodyPost_ret (v := .tuple #[.agg #[.float .f64 0, .float .f64 0], .int .i64 3]) (by simp [results, Try.results43, go_sem, m0, m1]) rfl ⟨0, 0, rfl, by repeat (first | exact Below.refl _ _ | assumption | refine below_drewN ?_ _ | refine Below.setCell ?_ (by first | (simp; done) | (simp; omega) | omega) _ | refine Below.alloc ?_ (by first | (simp; done) | (simp; omega) | omega) _), fun e => absurd e (by decide), fun _ => ⟨rfl, rfl⟩⟩
end Go.Proofs.Ytckpfohfbfmmnaa

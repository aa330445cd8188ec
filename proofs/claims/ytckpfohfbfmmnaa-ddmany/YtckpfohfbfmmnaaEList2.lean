/- The walks of eft's lists: growBy, Sum, Scale, Sign. -/
import Derived.Test.YtckpfohfbfmmnaaEList
namespace Go.Proofs.Ytckpfohfbfmmnaa
open Go.RowKit EP

/-- Float by float, as long as there is a number. -/
def growB : List Nat → List Nat → Option (List Nat)
  | L, [] => some L
  | L, y :: ys => (if finB (lastF L) then growO L y else none).bind fun r => growB r ys
def scaleO : List Nat → Nat → List Nat → Option (List Nat)
  | [], _, L => some L
  | x :: l, b, L => (twoProdO b x).bind fun p => (growB L [p.2, p.1]).bind fun r => scaleO l b r
theorem isF_two (w : World) (x y : Nat) (t : TypeId) : IsF (w.alloc (.cells #[.float .f64 x, .float .f64 y] t)) (some ⟨w.heap.size, 0, none⟩) 2 2 [x, y] := by
  refine ⟨rfl, ⟨Nat.le_refl _, fun e => by cases e⟩, fun i hi => ?_⟩
  refine ⟨w.heap.size, 0, rfl, by simp, ?_⟩
  match i, hi with
  | 0, _ => first | (simp; done) | (simp [World.cell?]; done) | (go_simp; done) | rfl
  | 1, _ => first | (simp; done) | (simp [World.cell?]; done) | (go_simp; done) | rfl
theorem below_alloc1 (w : World) (o : Obj) : Below w.heap.size w (w.alloc o) := (Below.refl _ _).alloc (Nat.le_refl _) o

set_option maxRecDepth 100000 in
set_option maxHeartbeats 4000000 in
theorem growBy_calls (B : Nat) (a : Option Addr) (cv : Nat) (L0 : List Nat) (a' : Option Addr) (len' cap' : Nat) (ys : List Nat) (w : World) (h0 : OwF B w a cv L0) (hB : B ≤ w.heap.size) (h : IsF w a' len' cap' ys) (hm : L0.length + len' ≤ 17592186043000) :
    Calls Try.prog 46 #[.slice a L0.length cv, .slice a' len' cap'] w fun e w' => ∃ (a2 : Option Addr) (cv2 : Nat) (R : List Nat), e = .returned (.slice a2 R.length cv2) ∧ OwF B w' a2 cv2 R ∧ R.length ≤ L0.length + len' ∧ Below w.heap.size w w' ∧ ∀ r, growB L0 ys = some r → R = r := by
  have HL : Hid (len' = ys.length) := h.1
  have hcap := h.2.1.1
  go_enter Try.func46, Try.ntmps46
  go_wp2_with fail
  go_loopw [0, 9] (fun lv i wr => ∃ (k : Nat) (L : List Nat) (ao : Option Addr) (cp : Nat), k ≤ len' ∧ i = .int .i64 k ∧ lv = .slice ao L.length cp ∧ L.length ≤ L0.length + k ∧ OwF B wr ao cp L ∧ Below w.heap.size w wr ∧ ∀ r, growB L0 ys = some r → growB L (ys.drop k) = some r) (fun _ i _ => len' - (intOf i).toNat)
  case atStart => exact ⟨0, L0, _, _, by omega, rfl, rfl, by omega, h0, Below.refl _ _, fun r hr => hr⟩
  case round =>
    obtain ⟨k, L, ao, cp, hk, rfl, rfl, hLk, hO, hbr, hrel⟩ := hrel
    have HR : Hid (∀ r, growB L0 ys = some r → growB L (ys.drop k) = some r) := hrel
    clear hrel
    by_cases hlt : k < len'
    · obtain ⟨bb, off, rfl, hbl, hc⟩ := (h.keep hbr).2.2 k hlt
      obtain ⟨x, hx⟩ : ∃ x, x = ys.getD k 0 := ⟨_, rfl⟩
      rw [← hx] at hc
      have HX : Hid (ys.drop k = x :: ys.drop (k + 1)) := by rw [Hid, hx]; exact drop_cons ys k (by rw [← HL.out]; exact hlt)
      have HS : Hid (w.heap.size ≤ wr.heap.size) := hbr.size
      clear hx
      go_wp2_with fail
      refine Calls.mono (last_calls ao L.length cp L wr hO.isF (by omega)) ?_
      rintro e wr ⟨rfl, rfl⟩
      go_wp2_with fail
      refine Calls.mono (finite_calls (lastF L) wr) ?_
      rintro e w2 ⟨t, rfl, d2, H2⟩
      have hb2 : Below w.heap.size w w2 := hbr.trans (d2.below _)
      have hO2 : OwF B w2 ao cp L := by obtain ⟨n, rfl⟩ := d2; exact hO
      have HS2 : Hid (w.heap.size ≤ w2.heap.size) := by rw [Hid, d2.heap]; exact HS.out
      have H2' : Hid (finB (lastF L) = true → t = true) := H2
      clear H2
      cases t with
      | false =>
        have HF : Hid (finB (lastF L) = false) := by
          rw [Hid]
          cases hf : finB (lastF L) with
          | false => rfl
          | true => cases H2'.out hf
        go_wp2_with fail
        go_ret
        refine ⟨ao, cp, L, rfl, hO2, by omega, hb2, fun r hr => ?_⟩
        have h1 := HR.out r hr
        rw [HX.out] at h1
        have h2 : (if finB (lastF L) then growO L x else none).bind (fun r => growB r (ys.drop (k + 1))) = some r := h1
        rw [HF.out] at h2
        cases h2
      | true =>
        go_wp2_with fail
        refine Calls.mono (grow_calls ao L.length cp L x w2 hO2.isF (by omega)) ?_
        rintro e w3 ⟨a3, c3, R, rfl, hO3, hl3, hb3, H3⟩
        have H3' : Hid (∀ r, growO L x = some r → R = r) := H3
        clear H3
        go_wp2_with fail
        go_round
        case rel =>
          refine ⟨k + 1, R, a3, c3, by omega, by go_num, rfl, by omega, hO3.low (Nat.le_trans hB HS2.out), hb2.trans (hb3.mono HS2.out), fun r hr => ?_⟩
          have h1 := HR.out r hr
          rw [HX.out] at h1
          have h2 : (if finB (lastF L) then growO L x else none).bind (fun r => growB r (ys.drop (k + 1))) = some r := h1
          obtain ⟨p, e1, e2⟩ := Option.bind_eq_some_iff.1 h2
          split at e1
          · obtain rfl := H3'.out p e1
            exact e2
          · cases e1
        case measure => simp [intOf]; omega
    · have hkl : k = len' := by omega
      subst hkl
      go_wp2_with fail
      go_ret
      refine ⟨ao, cp, L, rfl, hO, by omega, hbr, fun r hr => ?_⟩
      have h1 := HR.out r hr
      rw [show ys.drop k = [] from List.drop_eq_nil_iff.2 (by rw [HL.out]; exact Nat.le_refl _)] at h1
      exact Option.some.inj h1

set_option maxHeartbeats 1000000 in
theorem sum_calls (a : Option Addr) (len cap : Nat) (xs : List Nat) (w : World) (h : IsF w a len cap xs) (hm : len ≤ 17592186043000) :
    Calls Try.prog 20 #[.slice a len cap] w fun e w' => ∃ (a2 : Option Addr) (cv2 : Nat) (R : List Nat), e = .returned (.slice a2 R.length cv2) ∧ OwF w.heap.size w' a2 cv2 R ∧ R.length ≤ len ∧ Below w.heap.size w w' ∧ ∀ r, growB [] xs = some r → R = r := by
  have H : Hid _ := growBy_calls w.heap.size none 0 [] a len cap xs w (owF_nil _ _) (Nat.le_refl _) h (by simp; omega)
  go_enter Try.func20, Try.ntmps20
  go_wp2_with fail
  refine Calls.mono H.out ?_
  rintro e w2 ⟨a2, c2, R, rfl, hO, hl, hb, hr⟩
  go_wp2_with fail
  go_ret
  exact ⟨a2, c2, R, rfl, hO, by simpa using hl, hb, hr⟩

set_option maxRecDepth 100000 in
set_option maxHeartbeats 4000000 in
theorem scale_calls (a : Option Addr) (len cap : Nat) (xs : List Nat) (b : Nat) (w : World) (h : IsF w a len cap xs) (hm : len ≤ 8796093021000) :
    Calls Try.prog 21 #[.slice a len cap, .float .f64 b] w fun e w' => ∃ (a2 : Option Addr) (cv2 : Nat) (R : List Nat), e = .returned (.slice a2 R.length cv2) ∧ OwF w.heap.size w' a2 cv2 R ∧ R.length ≤ 2 * len ∧ Below w.heap.size w w' ∧ ∀ r, scaleO xs b [] = some r → R = r := by
  have HL : Hid (len = xs.length) := h.1
  have hcap := h.2.1.1
  go_enter Try.func21, Try.ntmps21
  go_wp2_with fail
  go_loopw [5, 12] (fun lv i wr => ∃ (k : Nat) (L : List Nat) (ao : Option Addr) (cp : Nat), k ≤ len ∧ i = .int .i64 k ∧ lv = .slice ao L.length cp ∧ L.length ≤ 2 * k ∧ OwF w.heap.size wr ao cp L ∧ Below w.heap.size w wr ∧ ∀ r, scaleO xs b [] = some r → scaleO (xs.drop k) b L = some r) (fun _ i _ => len - (intOf i).toNat)
  case atStart => exact ⟨0, [], none, 0, by omega, rfl, rfl, by simp, owF_nil _ _, Below.refl _ _, fun r hr => hr⟩
  case round =>
    obtain ⟨k, L, ao, cp, hk, rfl, rfl, hLk, hO, hbr, hrel⟩ := hrel
    have HR : Hid (∀ r, scaleO xs b [] = some r → scaleO (xs.drop k) b L = some r) := hrel
    clear hrel
    by_cases hlt : k < len
    · obtain ⟨bb, off, rfl, hbl, hc⟩ := (h.keep hbr).2.2 k hlt
      obtain ⟨x, hx⟩ : ∃ x, x = xs.getD k 0 := ⟨_, rfl⟩
      rw [← hx] at hc
      have HX : Hid (xs.drop k = x :: xs.drop (k + 1)) := by rw [Hid, hx]; exact drop_cons xs k (by rw [← HL.out]; exact hlt)
      have HS : Hid (w.heap.size ≤ wr.heap.size) := hbr.size
      clear hx
      go_wp2_with fail
      refine Calls.mono (twoProd_calls b x wr) ?_
      rintro e w2 ⟨s, t, rfl, d2, H2⟩
      have hb2 : Below w.heap.size w w2 := hbr.trans (d2.below _)
      have hO2 : OwF w.heap.size w2 ao cp L := by obtain ⟨n, rfl⟩ := d2; exact hO
      have HS2 : Hid (w.heap.size ≤ w2.heap.size) := by rw [Hid, d2.heap]; exact HS.out
      have H2' : Hid (∀ p, twoProdO b x = some p → s = p.1 ∧ t = p.2) := H2
      clear H2
      go_wp2_with fail
      refine Calls.mono (growBy_calls w.heap.size ao cp L _ 2 2 [t, s] _ (World.ownsRow.alloc hO2 _) (by simp; have := HS2.out; omega) (isF_two w2 t s _) (by omega)) ?_
      rintro e w3 ⟨a3, c3, R, rfl, hO3, hl3, hb3, H3⟩
      have H3' : Hid (∀ r, growB L [t, s] = some r → R = r) := H3
      have hb4 : Below w.heap.size w w3 := hb2.trans ((ebelow_trans (below_alloc1 _ _) hb3).mono HS2.out)
      clear H3 hb3
      go_wp2_with fail
      go_round
      case rel =>
        refine ⟨k + 1, R, a3, c3, by omega, by go_num, rfl, by omega, hO3, hb4, fun r hr => ?_⟩
        have h1 := HR.out r hr
        rw [HX.out] at h1
        obtain ⟨p, e1, e2⟩ := Option.bind_eq_some_iff.1 h1
        obtain ⟨rfl, rfl⟩ := H2'.out p e1
        obtain ⟨q, e3, e4⟩ := Option.bind_eq_some_iff.1 e2
        obtain rfl := H3'.out q e3
        exact e4
      case measure => simp [intOf]; omega
    · have hkl : k = len := by omega
      subst hkl
      go_wp2_with fail
      go_ret
      refine ⟨ao, cp, L, rfl, hO, by omega, hbr, fun r hr => ?_⟩
      have h1 := HR.out r hr
      rw [show xs.drop k = [] from List.drop_eq_nil_iff.2 (by rw [HL.out]; exact Nat.le_refl _)] at h1
      exact Option.some.inj h1

/-- The sign of a float. -/
def sgnF (x : Nat) : Int := if Ieee.double.order x 0 = some .lt then -1 else if Ieee.double.order x 0 = some .gt then 1 else 0

set_option maxHeartbeats 1000000 in
theorem sign_calls (a : Option Addr) (len cap : Nat) (xs : List Nat) (w : World) (h : IsF w a len cap xs) (hm : len ≤ 17592186043000) :
    Calls Try.prog 22 #[.slice a len cap] w fun e w' => e = .returned (.int .i64 (sgnF (lastF xs))) ∧ w' = w := by
  have H : Hid _ := last_calls a len cap xs w h (by omega)
  by_cases h1 : Ieee.double.order (lastF xs) 0 = some .lt
  · have e1 : (FloatKind.f64.format.order (lastF xs) 0 == some .lt) = true := by rw [show FloatKind.f64.format.order (lastF xs) 0 = some .lt from h1]; rfl
    have HE : Hid (sgnF (lastF xs) = -1) := by rw [Hid, sgnF, if_pos h1]
    clear h1
    go_enter Try.func22, Try.ntmps22
    go_wp2_with fail
    refine Calls.mono H.out ?_
    rintro e w ⟨rfl, rfl⟩
    go_wp2_with fail
    go_ret
    rw [HE.out]
    exact ⟨rfl, rfl⟩
  · have e1 : (FloatKind.f64.format.order (lastF xs) 0 == some .lt) = false := beq_eq_false_iff_ne.2 h1
    by_cases h2 : Ieee.double.order (lastF xs) 0 = some .gt
    · have e2 : (FloatKind.f64.format.order (lastF xs) 0 == some .gt) = true := by rw [show FloatKind.f64.format.order (lastF xs) 0 = some .gt from h2]; rfl
      have HE : Hid (sgnF (lastF xs) = 1) := by rw [Hid, sgnF, if_neg h1, if_pos h2]
      clear h1 h2
      go_enter Try.func22, Try.ntmps22
      go_wp2_with fail
      refine Calls.mono H.out ?_
      rintro e w ⟨rfl, rfl⟩
      go_wp2_with fail
      go_ret
      rw [HE.out]
      exact ⟨rfl, rfl⟩
    · have e2 : (FloatKind.f64.format.order (lastF xs) 0 == some .gt) = false := beq_eq_false_iff_ne.2 h2
      have HE : Hid (sgnF (lastF xs) = 0) := by rw [Hid, sgnF, if_neg h1, if_neg h2]
      clear h1 h2
      go_enter Try.func22, Try.ntmps22
      go_wp2_with fail
      refine Calls.mono H.out ?_
      rintro e w ⟨rfl, rfl⟩
      go_wp2_with fail
      go_ret
      rw [HE.out]
      exact ⟨rfl, rfl⟩
end Go.Proofs.Ytckpfohfbfmmnaa

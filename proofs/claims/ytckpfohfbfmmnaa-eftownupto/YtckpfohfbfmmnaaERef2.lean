/- The walks of the document's sums and products of expansions (ulpref07: Sum, Scale, Same) and of the statements' own sign. -/
import Derived.Test.YtckpfohfbfmmnaaERef
import Derived.Test.YtckpfohfbfmmnaaETot
namespace Go.Proofs.Ytckpfohfbfmmnaa
open Go.RowKit EP

set_option maxRecDepth 100000 in
set_option maxHeartbeats 4000000 in
theorem rSum_calls (a : Option Addr) (len cap : Nat) (xs : List Nat) (w : World) (h : IsF w a len cap xs) (hm : len ≤ 17592186042000) :
    Calls Try.prog 24 #[.slice a len cap] w fun e w' => ∃ (a2 : Option Addr) (cv2 : Nat) (R : List Nat), e = .returned (.slice a2 R.length cv2) ∧ OwF w.heap.size w' a2 cv2 R ∧ R.length ≤ len ∧ Below w.heap.size w w' ∧ ∀ r, growB [] xs = some r → R = r := by
  have HL : Hid (len = xs.length) := h.1
  have hcap := h.2.1.1
  go_enter Try.func24, Try.ntmps24
  go_wp2_with fail
  go_loopw [3, 8] (fun lv i wr => ∃ (k : Nat) (L : List Nat) (ao : Option Addr) (cp : Nat), k ≤ len ∧ i = .int .i64 k ∧ lv = .slice ao L.length cp ∧ L.length ≤ k ∧ OwF w.heap.size wr ao cp L ∧ Below w.heap.size w wr ∧ ∀ r, growB [] xs = some r → growB L (xs.drop k) = some r) (fun _ i _ => len - (intOf i).toNat)
  case atStart => exact ⟨0, [], none, 0, by omega, rfl, rfl, by simp, owF_nil _ _, Below.refl _ _, fun r hr => hr⟩
  case round =>
    obtain ⟨k, L, ao, cp, hk, rfl, rfl, hLk, hO, hbr, hrel⟩ := hrel
    have HR : Hid (∀ r, growB [] xs = some r → growB L (xs.drop k) = some r) := hrel
    clear hrel
    by_cases hlt : k < len
    · obtain ⟨bb, off, rfl, hbl, hc⟩ := (h.keep hbr).2.2 k hlt
      obtain ⟨x, hx⟩ : ∃ x, x = xs.getD k 0 := ⟨_, rfl⟩
      rw [← hx] at hc
      have HX : Hid (xs.drop k = x :: xs.drop (k + 1)) := by rw [Hid, hx]; exact drop_cons xs k (by rw [← HL.out]; exact hlt)
      have HS : Hid (w.heap.size ≤ wr.heap.size) := hbr.size
      clear hx
      go_wp2_with fail
      refine Calls.mono (rGrow_calls ao L.length cp L x wr hO.isF (by omega)) ?_
      rintro e w3 ⟨a3, c3, R, rfl, hO3, hl3, hb3, H3⟩
      have H3' : Hid (∀ r, growO L x = some r → R = r) := H3
      clear H3
      go_wp2_with fail
      go_round
      case rel =>
        refine ⟨k + 1, R, a3, c3, by omega, by go_num, rfl, by omega, hO3.low HS.out, hbr.trans (hb3.mono HS.out), fun r hr => ?_⟩
        have h1 := HR.out r hr
        rw [HX.out] at h1
        have h2 : (if finB (lastF L) then growO L x else none).bind (fun r => growB r (xs.drop (k + 1))) = some r := h1
        obtain ⟨p, e1, e2⟩ := Option.bind_eq_some_iff.1 h2
        split at e1
        · obtain rfl := H3'.out p e1
          exact e2
        · cases e1
      case measure => simp [intOf]; omega
    · have hkl : k = len := by omega
      subst hkl
      go_wp2_with fail
      go_ret
      refine ⟨ao, cp, L, rfl, hO, by omega, hbr, fun r hr => ?_⟩
      have h1 := HR.out r hr
      rw [show xs.drop k = [] from List.drop_eq_nil_iff.2 (by rw [HL.out]; exact Nat.le_refl _)] at h1
      exact Option.some.inj h1

theorem growB_two {L : List Nat} {x y : Nat} {r : List Nat} (h : growB L [x, y] = some r) : ∃ p, growO L x = some p ∧ growO p y = some r := by
  have h2 : (if finB (lastF L) then growO L x else none).bind (fun r => growB r [y]) = some r := h
  obtain ⟨p, e1, e2⟩ := Option.bind_eq_some_iff.1 h2
  split at e1
  · refine ⟨p, e1, ?_⟩
    have h3 : (if finB (lastF p) then growO p y else none).bind (fun r => growB r []) = some r := e2
    obtain ⟨q, e3, e4⟩ := Option.bind_eq_some_iff.1 h3
    split at e3
    · obtain rfl := Option.some.inj e4
      exact e3
    · cases e3
  · cases e1

set_option maxRecDepth 100000 in
set_option maxHeartbeats 4000000 in
theorem rScale_calls (a : Option Addr) (len cap : Nat) (xs : List Nat) (b : Nat) (w : World) (h : IsF w a len cap xs) (hm : len ≤ 8796093021000) :
    Calls Try.prog 28 #[.slice a len cap, .float .f64 b] w fun e w' => ∃ (a2 : Option Addr) (cv2 : Nat) (R : List Nat), e = .returned (.slice a2 R.length cv2) ∧ OwF w.heap.size w' a2 cv2 R ∧ R.length ≤ 2 * len ∧ Below w.heap.size w w' ∧ ∀ r, scaleO xs b [] = some r → R = r := by
  have HL : Hid (len = xs.length) := h.1
  have hcap := h.2.1.1
  go_enter Try.func28, Try.ntmps28
  go_wp2_with fail
  go_loopw [5, 12] (fun lv i wr => ∃ (k : Nat) (L : List Nat) (ao : Option Addr) (cp : Nat), k ≤ len ∧ i = .int .i64 k ∧ lv = .slice ao L.length cp ∧ L.length ≤ 2 * k ∧ OwF w.heap.size wr ao cp L ∧ Below w.heap.size w wr ∧ ∀ r, scaleO xs b [] = some r → scaleO (xs.drop k) b L = some r) (fun _ i _ => len - (intOf i).toNat)
  case atStart => exact ⟨0, [], none, 0, by omega, rfl, rfl, by simp, owF_nil _ _, Below.refl _ _, fun r hr => hr⟩
  case round =>
    obtain ⟨k, L, ao, cp, hk, rfl, rfl, hLk, hO, hbr, hrel⟩ := hrel
    have HR : Hid (∀ r, scaleO xs b [] = some r → scaleO (xs.drop k) b L = some r) := hrel
    clear hrel
    by_cases hlt : k < len
    · obtain ⟨bb, off, rfl, hbl, hc⟩ := (h.keep hbr).2.2 k hlt
      obtain ⟨x, hx⟩ : ∃ x, x = xs.getD k 0 := ⟨_, rfl⟩
      rw [← hx] at hc
      have HX : Hid (xs.drop k = x :: xs.drop (k + 1)) := by rw [Hid, hx]; exact drop_cons xs k (by rw [← HL.out]; exact hlt)
      have HS : Hid (w.heap.size ≤ wr.heap.size) := hbr.size
      clear hx
      go_wp2_with fail
      refine Calls.mono (rTwoProd_calls b x wr) ?_
      rintro e w2 ⟨s, t, rfl, d2, H2⟩
      have hb2 : Below w.heap.size w w2 := hbr.trans (d2.below _)
      have hO2 : OwF w.heap.size w2 ao cp L := by obtain ⟨n, rfl⟩ := d2; exact hO
      have HS2 : Hid (w.heap.size ≤ w2.heap.size) := by rw [Hid, d2.heap]; exact HS.out
      have H2' : Hid (∀ p, twoProdO b x = some p → s = p.1 ∧ t = p.2) := H2
      clear H2
      go_wp2_with fail
      refine Calls.mono (rGrow_calls ao L.length cp L t w2 hO2.isF (by omega)) ?_
      rintro e w3 ⟨a3, c3, R, rfl, hO3, hl3, hb3, H3⟩
      have H3' : Hid (∀ r, growO L t = some r → R = r) := H3
      have HS3 : Hid (w.heap.size ≤ w3.heap.size) := Nat.le_trans HS2.out hb3.size
      have hb3' : Below w.heap.size w w3 := hb2.trans (hb3.mono HS2.out)
      clear H3 hb3
      go_wp2_with fail
      refine Calls.mono (rGrow_calls a3 R.length c3 R s w3 hO3.isF (by omega)) ?_
      rintro e w4 ⟨a4, c4, R4, rfl, hO4, hl4, hb4, H4⟩
      have H4' : Hid (∀ r, growO R s = some r → R4 = r) := H4
      clear H4
      go_wp2_with fail
      go_round
      case rel =>
        refine ⟨k + 1, R4, a4, c4, by omega, by go_num, rfl, by omega, hO4.low HS3.out, hb3'.trans (hb4.mono HS3.out), fun r hr => ?_⟩
        have h1 := HR.out r hr
        rw [HX.out] at h1
        obtain ⟨p, e1, e2⟩ := Option.bind_eq_some_iff.1 h1
        obtain ⟨rfl, rfl⟩ := H2'.out p e1
        obtain ⟨q, e3, e4⟩ := Option.bind_eq_some_iff.1 e2
        obtain ⟨z, e5, e6⟩ := growB_two e3
        obtain rfl := H3'.out z e5
        obtain rfl := H4'.out q e6
        exact e4
      case measure => simp [intOf]; omega
    · have hkl : k = len := by omega
      subst hkl
      go_wp2_with fail
      go_ret
      refine ⟨ao, cp, L, rfl, hO, by omega, hbr, fun r hr => ?_⟩
      have h1 := HR.out r hr
      rw [show xs.drop k = [] from List.drop_eq_nil_iff.2 (by rw [HL.out]; exact Nat.le_refl _)] at h1
      exact Option.some.inj h1

set_option maxRecDepth 100000 in
set_option maxHeartbeats 2000000 in
theorem eSame_calls (a : Option Addr) (len cap : Nat) (a' : Option Addr) (cap' : Nat) (xs : List Nat) (w : World) (h : IsF w a len cap xs) (h' : IsF w a' len cap' xs) (hm : len ≤ 17592186043000) (hf : ∀ i, i < len → finB (xs.getD i 0) = true) :
    Calls Try.prog 25 #[.slice a len cap, .slice a' len cap'] w fun e w' => e = .returned (.bool true) ∧ Dr w w' := by
  have hcap := h.2.1.1
  have hcap' := h'.2.1.1
  have HF : Hid (∀ i, i < len → finB (xs.getD i 0) = true) := hf
  clear hf
  go_enter Try.func25, Try.ntmps25
  go_wp2_with fail
  go_loopw [13] (fun i wr => ∃ k : Nat, k ≤ len ∧ i = .int .i64 k ∧ Dr w wr) (fun i _ => len - (intOf i).toNat)
  case atStart => exact ⟨0, by omega, rfl, Dr.refl _⟩
  case round =>
    obtain ⟨k, hk, rfl, hd⟩ := hrel
    by_cases hlt : k < len
    · obtain ⟨bb, off, rfl, hbl, hc⟩ := (h.keep (hd.below _)).2.2 k hlt
      obtain ⟨bb', off', rfl, hbl', hc'⟩ := (h'.keep (hd.below _)).2.2 k hlt
      have hx := HF.out k hlt
      generalize xs.getD k 0 = x at *
      have o1 : (FloatKind.f64.format.order x x == some .eq) = true := beq_iff_eq.2 (order_refl x hx)
      have o2 : (FloatKind.f64.format.order x x != some .eq) = false := by rw [bne, o1]; rfl
      go_wp2
      go_quiet (fail)
      go_wp2
      go_roundw
      case rel => exact ⟨k + 1, by omega, by go_num, hd.trans ⟨nq, rfl⟩⟩
      case measure => simp [intOf]; omega
    · have hkl : k = len := by omega
      subst hkl
      go_wp2_with fail
      go_ret
      exact ⟨rfl, hd⟩

set_option maxHeartbeats 1000000 in
theorem lSign_calls (a : Option Addr) (len cap : Nat) (xs : List Nat) (w : World) (h : IsF w a len cap xs) (hm : len ≤ 17592186043000) (hok : okL xs) :
    Calls Try.prog 27 #[.slice a len cap] w fun e w' => e = .returned (.int .i64 (sgnF (lastF xs))) ∧ w' = w := by
  cases len with
  | zero =>
    have hx : xs = [] := List.length_eq_zero_iff.1 h.1.symm
    subst hx
    have HE : Hid (sgnF (lastF []) = 0) := by rw [Hid]; decide +kernel
    go_enter Try.func27, Try.ntmps27
    go_wp2_with fail
    go_ret
    rw [HE.out]
    exact ⟨rfl, rfl⟩
  | succ m =>
    obtain ⟨b, off, rfl, _, hc⟩ := h.2.2 m (by omega)
    have HX : Hid (xs.getD m 0 = lastF xs) := by rw [Hid, lastF, ← h.1]; rfl
    have hmem : lastF xs ∈ xs := by
      have hl : m < xs.length := by have := h.1; omega
      rw [← HX.out, show xs.getD m 0 = xs[m] by simp [List.getD, hl]]
      exact List.getElem_mem hl
    obtain ⟨fx, zx⟩ := hok _ hmem
    rw [HX.out] at hc
    have hcap := h.2.1.1
    generalize lastF xs = x at *
    have hz : ¬ Ieee.double.order x 0 = some .eq := fun e => by rw [isZ, e] at zx; cases zx
    have ho := order_fin x 0 fx (by decide)
    clear HX hmem zx
    by_cases h1 : Ieee.double.order x 0 = some .lt
    · have e1 : (FloatKind.f64.format.order x 0 == some .lt) = true := by rw [show FloatKind.f64.format.order x 0 = some .lt from h1]; rfl
      have HE : Hid (sgnF x = -1) := by rw [Hid, sgnF, if_pos h1]
      clear h1 hz ho
      go_enter Try.func27, Try.ntmps27
      go_wp2_with fail
      go_ret
      rw [HE.out]
      exact ⟨rfl, rfl⟩
    · have e1 : (FloatKind.f64.format.order x 0 == some .lt) = false := beq_eq_false_iff_ne.2 h1
      have h2 : Ieee.double.order x 0 = some .gt := by
        rw [ho] at h1 hz ⊢
        cases hc : compare (V x) (V 0) with
        | lt => rw [hc] at h1; exact absurd rfl h1
        | eq => rw [hc] at hz; exact absurd rfl hz
        | gt => rfl
      have HE : Hid (sgnF x = 1) := by rw [Hid, sgnF, if_neg h1, if_pos h2]
      clear h1 hz ho h2
      go_enter Try.func27, Try.ntmps27
      go_wp2_with fail
      go_ret
      rw [HE.out]
      exact ⟨rfl, rfl⟩
end Go.Proofs.Ytckpfohfbfmmnaa

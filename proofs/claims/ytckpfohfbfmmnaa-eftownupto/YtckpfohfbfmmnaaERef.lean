/- The walks of the document's lists (ulpref07): Grow, Sum, Scale, Same; the statements' own sign. -/
import Derived.Test.YtckpfohfbfmmnaaEList2
namespace Go.Proofs.Ytckpfohfbfmmnaa
open Go.RowKit EP

set_option maxRecDepth 100000 in
set_option maxHeartbeats 4000000 in
theorem rGrow_calls (a : Option Addr) (len cap : Nat) (xs : List Nat) (b : Nat) (w : World) (h : IsF w a len cap xs) (hm : len ≤ 17592186043000) :
    Calls Try.prog 26 #[.slice a len cap, .float .f64 b] w fun e w' => ∃ (a' : Option Addr) (cv' : Nat) (L : List Nat), e = .returned (.slice a' L.length cv') ∧ OwF w.heap.size w' a' cv' L ∧ L.length ≤ len + 1 ∧ Below w.heap.size w w' ∧ ∀ r, growO xs b = some r → L = r := by
  obtain ⟨i0, hi, hz0, hz1, hz2⟩ := info_parts float_info
  have HL : Hid (len = xs.length) := h.1
  have hcap := h.2.1.1
  go_enter Try.func26, Try.ntmps26
  go_wp2_with fail
  go_loopw [5, 6, 14] (fun gv qv i wr => ∃ (k q : Nat) (L : List Nat) (ao : Option Addr) (cp : Nat), k ≤ len ∧ i = .int .i64 k ∧ qv = .float .f64 q ∧ gv = .slice ao L.length cp ∧ L.length ≤ k ∧ OwF w.heap.size wr ao cp L ∧ Below w.heap.size w wr ∧ ∀ r, growL xs b [] = some r → growL (xs.drop k) q L = some r) (fun _ _ i _ => len - (intOf i).toNat)
  case atStart => exact ⟨0, b, [], none, 0, by omega, rfl, rfl, rfl, by simp, owF_nil _ _, Below.refl _ _, fun r hr => hr⟩
  case round =>
    obtain ⟨k, q, L, ao, cp, hk, rfl, rfl, rfl, hLk, hO, hbr, hrel⟩ := hrel
    have HR : Hid (∀ r, growL xs b [] = some r → growL (xs.drop k) q L = some r) := hrel
    clear hrel
    have HS : Hid (w.heap.size ≤ wr.heap.size) := hbr.size
    by_cases hlt : k < len
    · obtain ⟨bb, off, rfl, hbl, hc⟩ := (h.keep hbr).2.2 k hlt
      obtain ⟨x, hx⟩ : ∃ x, x = xs.getD k 0 := ⟨_, rfl⟩
      rw [← hx] at hc
      have HX : Hid (xs.drop k = x :: xs.drop (k + 1)) := by rw [Hid, hx]; exact drop_cons xs k (by rw [← HL.out]; exact hlt)
      clear hx
      go_wp2_with fail
      refine Calls.mono (rTwoSum_calls q x wr) ?_
      rintro e w2 ⟨s, t, rfl, d2, H2⟩
      have hb2 : Below w.heap.size w w2 := hbr.trans (d2.below _)
      have hO2 : OwF w.heap.size w2 ao cp L := by obtain ⟨n, rfl⟩ := d2; exact hO
      have HS2 : Hid (w.heap.size ≤ w2.heap.size) := by rw [Hid, d2.heap]; exact HS.out
      have H2' : Hid (∀ p, twoSumO q x = some p → s = p.1 ∧ t = p.2) := H2
      clear H2
      cases hz : isZ t with
      | true =>
        have hz' : (FloatKind.f64.format.order t 0 == some .eq) = true := hz
        have hz'' : (FloatKind.f64.format.order t 0 != some .eq) = false := by rw [bne, hz']; rfl
        have HBE : Hid (beh L t = L) := by rw [Hid, beh, hz]; rfl
        clear hz
        go_wp2_with fail
        go_round
        case rel =>
          refine ⟨k + 1, s, L, ao, cp, by omega, by go_num, rfl, rfl, by omega, hO2, hb2, fun r hr => ?_⟩
          have h1 := HR.out r hr
          rw [HX.out] at h1
          obtain ⟨p, e1, e2⟩ := Option.bind_eq_some_iff.1 h1
          obtain ⟨rfl, rfl⟩ := H2'.out p e1
          rw [HBE.out] at e2
          exact e2
        case measure => simp [intOf]; omega
      | false =>
        have hz' : (FloatKind.f64.format.order t 0 == some .eq) = false := hz
        have hz'' : (FloatKind.f64.format.order t 0 != some .eq) = true := by rw [bne, hz']; rfl
        have HBE : Hid (beh L t = L ++ [t]) := by rw [Hid, beh, hz]; rfl
        clear hz
        have hown := hO2
        unfold OwF at hown
        go_wp2_with (at_builtin; refine wpList_append_own _ rfl _ _ 29 rfl w.heap.size 22 i0 (.float .f64 0) 1 8 Try.underlying29 hi hz0 hz1 hz2 rfl (by decide) _ _ _ rfl (hown.alloc _) ⟨w2.heap.size, 0, none⟩ 1 1 [_] rfl rfl (cell_one_new _ _ _) (fun x hx => by simp at hx; subst hx; rfl) (by unfold maxLen; omega) (by omega) (by have := HS2.out; simp; omega) ?_; intro v' w3 hown' hgrow3 hnil3)
        obtain ⟨g3, cap3, hv3, hO3⟩ := owF_snoc hown'
        subst hv3
        have hb3 : Below w.heap.size w w3 := (hb2.alloc HS2.out _).grown hgrow3 (by simp; have := HS2.out; omega) (fun q hq => (hown.lt q hq).1)
        clear hgrow3 hnil3 hown'
        refine ⟨?_, by simp [intOf]; omega⟩
        refine ⟨k + 1, s, L ++ [t], _, cap3, by omega, by go_num, rfl, by rw [List.length_append]; rfl, by rw [List.length_append]; simp; omega, hO3, hb3, fun r hr => ?_⟩
        have h1 := HR.out r hr
        rw [HX.out] at h1
        obtain ⟨p, e1, e2⟩ := Option.bind_eq_some_iff.1 h1
        obtain ⟨rfl, rfl⟩ := H2'.out p e1
        rw [HBE.out] at e2
        exact e2
    · have hkl : k = len := by omega
      subst hkl
      have HE : Hid (∀ r, growO xs b = some r → beh L q = r) := fun r hr => by
        unfold growO at hr
        cases hg : growL xs b [] with
        | none => rw [hg] at hr; cases hr
        | some p =>
          rw [hg] at hr
          have h1 := HR.out p hg
          rw [show xs.drop k = [] from List.drop_eq_nil_iff.2 (by rw [HL.out]; exact Nat.le_refl _)] at h1
          obtain rfl := Option.some.inj h1
          exact Option.some.inj hr
      cases hz : isZ q with
      | true =>
        have hz' : (FloatKind.f64.format.order q 0 == some .eq) = true := hz
        have hz'' : (FloatKind.f64.format.order q 0 != some .eq) = false := by rw [bne, hz']; rfl
        have HBE : Hid (beh L q = L) := by rw [Hid, beh, hz]; rfl
        clear hz
        go_wp2_with fail
        go_ret
        exact ⟨ao, cp, L, rfl, hO, by omega, hbr, fun r hr => by rw [← HBE.out]; exact HE.out r hr⟩
      | false =>
        have hz' : (FloatKind.f64.format.order q 0 == some .eq) = false := hz
        have hz'' : (FloatKind.f64.format.order q 0 != some .eq) = true := by rw [bne, hz']; rfl
        have HBE : Hid (beh L q = L ++ [q]) := by rw [Hid, beh, hz]; rfl
        clear hz
        have hown := hO
        unfold OwF at hown
        go_wp2_with (at_builtin; refine wpList_append_own _ rfl _ _ 29 rfl w.heap.size 22 i0 (.float .f64 0) 1 8 Try.underlying29 hi hz0 hz1 hz2 rfl (by decide) _ _ _ rfl (hown.alloc _) ⟨wr.heap.size, 0, none⟩ 1 1 [_] rfl rfl (cell_one_new _ _ _) (fun x hx => by simp at hx; subst hx; rfl) (by unfold maxLen; omega) (by omega) (by have := HS.out; simp; omega) ?_; intro v' w3 hown' hgrow3 hnil3)
        obtain ⟨g3, cap3, hv3, hO3⟩ := owF_snoc hown'
        subst hv3
        have hb3 : Below w.heap.size w w3 := (hbr.alloc HS.out _).grown hgrow3 (by simp; have := HS.out; omega) (fun q hq => (hown.lt q hq).1)
        clear hgrow3 hnil3 hown'
        go_ret
        exact ⟨_, _, L ++ [q], by rw [List.length_append]; rfl, hO3, by rw [List.length_append]; simp; omega, hb3, fun r hr => by rw [← HBE.out]; exact HE.out r hr⟩
end Go.Proofs.Ytckpfohfbfmmnaa

/- The statement DdMany. -/
import Derived.Test.YtckpfohfbfmmnaaDM4
import Derived.Test.YtckpfohfbfmmnaaDS5
namespace Go.Proofs.Ytckpfohfbfmmnaa
open Go.RowKit EP
attribute [local go_sem] ran_store

theorem owF_lit (w : World) (k : Nat) (hk : k = w.heap.size) : OwF k (w.alloc (.cells #[] 22)) (some ⟨k, 0, none⟩) 0 [] := by
  subst hk
  exact ⟨rfl, Or.inr ⟨w.heap.size, 0, #[], rfl, Nat.le_refl _, heap_alloc_new _ _, Nat.le_refl _, by unfold maxLen; omega, rfl, rfl⟩⟩
theorem app_new {w : World} {ops : Array Oper} {rest : List Oper} {o : Oper} {act : Act} {Q : Exit → Act → World → Prop} (hgd : o.guard = none) (s x : Operand)
    (ho : o.op = .call { callee := .builtin .append, args := #[s, x], argTypes := #[29, 29] })
    (k : Nat) (w0 : World) (hw : w = w0.alloc (.cells #[] 22)) (hk : k = w0.heap.size) (hs : act.eval s = .slice (some ⟨k, 0, none⟩) 0 0)
    (bo : Option Addr) (m c : Nat) (ys : List Nat) (hx : act.eval x = .slice bo m c) (hF : IsF w0 bo m c ys) (hm : m ≤ 17592186044416)
    (h : ∀ a' cv' w', IsF w' a' m cv' ys → Below w0.heap.size w0 w' → wpList Try.prog ops Q rest (act.put o.dst (.slice a' m cv')) w') : wpList Try.prog ops Q (o :: rest) act w := by
  subst hw
  refine app_isF hgd s x ho w0.heap.size (some ⟨k, 0, none⟩) 0 [] hs (by rw [hk]; exact owF_lit w0 _ rfl) bo m c ys hx (hF.keep (below_alloc1 _ _)) (by simp; omega) (by simp) ?_
  intro a' cv' w' hO hb
  have hI := hO.isF
  rw [List.nil_append] at hI ⊢
  rw [← hF.1] at hI ⊢
  exact h a' cv' w' hI ((below_alloc1 w0 _).trans hb)
theorem all_fin {xs : List Nat} (h : checkE xs [] = 0) : ∀ x ∈ xs, finB x = true ∧ amt x ≤ 2 ^ 1374 := by
  obtain ⟨-, ho, -⟩ := checkE_0 h
  intro x hx
  have := List.all_eq_true.1 ho x hx
  have hp := right_PB x 0 this
  exact ⟨hp.1, hp.2.2.1⟩
theorem foldS_ok {xs : List Nat} (h : checkE xs [] = 0) : ∃ s t, foldS xs 0 0 = some (s, t) ∧ finB s = true ∧ finB t = true := by
  obtain ⟨hl, -, -⟩ := checkE_0 h
  obtain ⟨m, hm⟩ : ∃ m, m = 1374 := ⟨_, rfl⟩
  have ha := all_fin h
  rw [← hm] at ha
  exact foldS_fin (2 ^ m) m (by omega) (Nat.le_refl _) xs 0 0 0 ha zero_fin zero_fin (by omega) (by rw [zero_amt]; unfold leE; omega)
theorem polyE_0 {xs : List Nat} {x : Nat} (h : polyE xs x = 0) : checkE xs [] = 0 ∧ rightP x 0 = true ∧ gt1 x = false := by
  rcases checkE_cases xs [] with hE | hE | hE
  · cases hr : rightP x 0 with
    | false => rw [polyE_bad hE hr] at h; exact absurd h (by decide)
    | true =>
      rw [polyE_ok hE hr] at h
      cases hg : gt1 x with
      | true => rw [hg] at h; exact absurd h (by decide)
      | false => exact ⟨hE, rfl, rfl⟩
  · rw [polyE_2 hE] at h; exact absurd h (by decide)
  · rw [polyE_3 hE] at h; exact absurd h (by decide)
theorem foldY_ok {xs : List Nat} {x : Nat} (h : polyE xs x = 0) : ∃ s t, foldY x xs 0 0 = some (s, t) ∧ finB s = true ∧ finB t = true := by
  obtain ⟨hE, hr, hg⟩ := polyE_0 h
  obtain ⟨hl, -, -⟩ := checkE_0 hE
  have fx := (right_PB x 0 hr).1
  obtain ⟨m, hm⟩ : ∃ m, m = 1374 := ⟨_, rfl⟩
  have ha := all_fin hE
  rw [← hm] at ha
  have h16 : 16 ≤ 2 ^ m := pow_le2 4 m (by omega)
  exact foldY_fin x (2 ^ m) (m + 1) (by omega) (by rw [Nat.pow_succ]; omega) fx (amt_le1 x fx hg) xs 0 0 0 ha zero_fin zero_fin (by omega) (by rw [zero_amt]; unfold leE; omega)

set_option maxRecDepth 100000 in
set_option maxHeartbeats 8000000 in
theorem ddMany_walk (a : Option Addr) (len cap : Nat) (xs : List Nat) (x : Nat) (w : World) (h : IsF w a len cap xs) (hm : len ≤ 17592186044416) (hs : smallFs xs) (hx : x < 18446744073709551616) :
    Calls Try.prog 8 #[.slice a len cap, .float .f64 x] w fun e w' => e = .returned (.bool true) ∧ Below w.heap.size w w' := by
  have HP1 : Hid _ := fun a' c' w' g => dSum_calls a' len c' xs w' g hm hs
  have HR1 : Hid _ := fun w' g => rSum_calls a len cap xs w' g hm hs
  have HP2 : Hid _ := fun a' c' w' g => dPoly_calls a' len c' xs x w' g hm hs hx
  have HR2 : Hid _ := fun w' g => rPoly_calls a len cap xs x w' g hm hs hx
  have HF1 : Hid (checkE xs [] = 0 → ∃ s t, foldS xs 0 0 = some (s, t) ∧ finB s = true ∧ finB t = true) := foldS_ok
  have HF2 : Hid (polyE xs x = 0 → ∃ s t, foldY x xs 0 0 = some (s, t) ∧ finB s = true ∧ finB t = true) := foldY_ok
  generalize checkE xs [] = E1 at *
  generalize polyE xs x = E2 at *
  generalize foldS xs 0 0 = o1 at *
  generalize foldY x xs 0 0 = o2 at *
  have hcap := h.2.1.1
  clear hs hx
  go_enter Try.func8, Try.ntmps8
  go_wp2_with (at_builtin; refine app_new rfl _ _ rfl w.heap.size w rfl rfl rfl a len cap xs rfl h hm ?_; intro ag cg wg hIg hbg)
  refine Calls.mono (HP1.out _ _ _ hIg) ?_
  rintro e w1 ⟨s1, t1, rfl, d1, A1, Z1⟩
  have b1 := ebelow_trans hbg d1
  have A1' : Hid ((E1 = 0 → ∀ p, o1 = some p → s1 = p.1 ∧ t1 = p.2) ∧ (E1 ≠ 0 → s1 = 0 ∧ t1 = 0)) := ⟨A1, Z1⟩
  have hI1 := hIg.keep d1
  clear d1 A1 Z1 hIg hbg
  have bA := below_alloc1 w1 (.cells #[.float .f64 s1, .float .f64 t1] 39)
  go_wp2_with fail
  refine Calls.mono (HR1.out _ ((h.keep b1).keep bA)) ?_
  rintro e w2 ⟨s2, t2, rfl, d2, A2, Z2⟩
  have A2' : Hid ((E1 = 0 → ∀ p, o1 = some p → s2 = p.1 ∧ t2 = p.2) ∧ (E1 ≠ 0 → s2 = 0 ∧ t2 = 0)) := ⟨A2, Z2⟩
  have c0 : w2.cell? ⟨w1.heap.size, 0, none⟩ = some (.float .f64 s1) := pcarry d2 (by go_simp)
  have c1 : w2.cell? ⟨w1.heap.size, 1, none⟩ = some (.float .f64 t1) := pcarry d2 (by go_simp)
  have d12 := ebelow_trans bA d2
  have hI2 := hI1.keep d12
  have b2 := ebelow_trans b1 d12
  clear d2 A2 Z2 hI1 b1 d12 bA
  have bA := below_alloc1 w2 (.cells #[.float .f64 s2, .float .f64 t2] 39)
  go_wp2_with fail
  refine Calls.mono (HP2.out _ _ _ (hI2.keep bA)) ?_
  rintro e w3 ⟨s3, t3, rfl, d3, A3, Z3⟩
  have A3' : Hid ((E2 = 0 → ∀ p, o2 = some p → s3 = p.1 ∧ t3 = p.2) ∧ (E2 ≠ 0 → s3 = 0 ∧ t3 = 0)) := ⟨A3, Z3⟩
  have e0 : w3.cell? ⟨w2.heap.size, 0, none⟩ = some (.float .f64 s2) := pcarry d3 (by go_simp)
  have e1 : w3.cell? ⟨w2.heap.size, 1, none⟩ = some (.float .f64 t2) := pcarry d3 (by go_simp)
  have d23 := ebelow_trans bA d3
  replace c0 := pcarry d23 c0
  replace c1 := pcarry d23 c1
  have hI3 := hI2.keep d23
  have b3 := ebelow_trans b2 d23
  clear d3 A3 Z3 hI2 b2 d23 bA
  have bA := below_alloc1 w3 (.cells #[.float .f64 s3, .float .f64 t3] 39)
  go_wp2_with fail
  refine Calls.mono (HR2.out _ ((h.keep b3).keep bA)) ?_
  rintro e w4 ⟨s4, t4, rfl, d4, A4, Z4⟩
  have A4' : Hid ((E2 = 0 → ∀ p, o2 = some p → s4 = p.1 ∧ t4 = p.2) ∧ (E2 ≠ 0 → s4 = 0 ∧ t4 = 0)) := ⟨A4, Z4⟩
  have f0 : w4.cell? ⟨w3.heap.size, 0, none⟩ = some (.float .f64 s3) := pcarry d4 (by go_simp)
  have f1 : w4.cell? ⟨w3.heap.size, 1, none⟩ = some (.float .f64 t3) := pcarry d4 (by go_simp)
  have d34 := ebelow_trans bA d4
  have hI4 := hI3.keep d34
  have b4 := ebelow_trans b3 d34
  have h4 := h.keep b4
  replace c0 := pcarry d34 c0
  replace c1 := pcarry d34 c1
  replace e0 := pcarry d34 e0
  replace e1 := pcarry d34 e1
  clear d4 A4 Z4 hI3 b3 d34 bA h
  obtain ⟨q1, q2⟩ := ans_same E1 o1 s1 t1 s2 t2 HF1.out A1'.out.1 A1'.out.2 A2'.out.1 A2'.out.2
  obtain ⟨q3, q4⟩ := ans_same E2 o2 s3 t3 s4 t4 HF2.out A3'.out.1 A3'.out.2 A4'.out.1 A4'.out.2
  have HS1 : Hid _ := fun w => rSame_yes s1 t1 s2 t2 w q1 q2
  have HS2 : Hid _ := fun w => rSame_yes s3 t3 s4 t4 w q3 q4
  clear q1 q2 q3 q4 A1' A2' A3' A4' HF1 HF2 HP1 HP2 HR1 HR2
  have bA := below_alloc1 w4 (.cells #[.float .f64 s4, .float .f64 t4] 39)
  go_wp2_with fail
  have k0 := pcarry bA c0
  have k1 := pcarry bA c1
  have l0 := pcarry bA e0
  have l1 := pcarry bA e1
  have n0 := pcarry bA f0
  have n1 := pcarry bA f1
  have p0 : (w4.alloc (.cells #[.float .f64 s4, .float .f64 t4] 39)).cell? ⟨w4.heap.size, 0, none⟩ = some (.float .f64 s4) := by go_simp
  have p1 : (w4.alloc (.cells #[.float .f64 s4, .float .f64 t4] 39)).cell? ⟨w4.heap.size, 1, none⟩ = some (.float .f64 t4) := by go_simp
  have hI5 := hI4.keep bA
  have h5 := h4.keep bA
  have b5 := ebelow_trans b4 bA
  clear c0 c1 e0 e1 f0 f1 hI4 h4 b4 bA
  generalize w4.alloc (.cells #[.float .f64 s4, .float .f64 t4] 39) = w5 at *
  go_loopw [14] (fun i wx => ∃ k : Nat, k ≤ len ∧ i = .int .i64 k ∧ Dr w5 wx) (fun i _ => len - (intOf i).toNat)
  case atStart => exact ⟨0, by omega, rfl, Dr.refl _⟩
  case round =>
    obtain ⟨k, hk, rfl, hd⟩ := hrel
    by_cases hlt : k < len
    · obtain ⟨bb, off, g1, hbl, hc⟩ := (hI5.keep (hd.below _)).2.2 k hlt
      obtain ⟨bb', off', g2, hbl', hc'⟩ := (h5.keep (hd.below _)).2.2 k hlt
      subst g1 g2
      have hcap1 := hI5.2.1.1
      generalize xs.getD k 0 = y at *
      cases hy : (FloatKind.f64.format.order y y == some .eq) with
      | true =>
        have o2 : (FloatKind.f64.format.order y y != some .eq) = false := by rw [bne, hy]; rfl
        go_wp2
        go_quiet (fail)
        go_wp2
        go_roundw
        case rel => exact ⟨k + 1, by omega, by go_num, hd.trans ⟨nq, rfl⟩⟩
        case measure => simp [intOf]; omega
      | false =>
        have o2 : (FloatKind.f64.format.order y y != some .eq) = true := by rw [bne, hy]; rfl
        go_wp2
        go_quiet (fail)
        go_wp2
        go_roundw
        case rel => exact ⟨k + 1, by omega, by go_num, hd.trans ⟨nq, rfl⟩⟩
        case measure => simp [intOf]; omega
    · have hb6 := hd.below w5.heap.size
      replace k0 := pcarry hb6 k0
      replace k1 := pcarry hb6 k1
      replace l0 := pcarry hb6 l0
      replace l1 := pcarry hb6 l1
      replace n0 := pcarry hb6 n0
      replace n1 := pcarry hb6 n1
      replace p0 := pcarry hb6 p0
      replace p1 := pcarry hb6 p1
      replace b5 := ebelow_trans b5 hb6
      clear hb6 hd hI5 h5
      go_wp2_with fail
      refine Calls.mono (HS1.out _) ?_
      rintro e w6 ⟨rfl, b6⟩
      replace n0 := pcarry b6 n0
      replace n1 := pcarry b6 n1
      replace p0 := pcarry b6 p0
      replace p1 := pcarry b6 p1
      replace b5 := ebelow_trans b5 b6
      clear b6 k0 k1 l0 l1
      go_wp2_with fail
      refine Calls.mono (HS2.out _) ?_
      rintro e w7 ⟨rfl, b7⟩
      replace b5 := ebelow_trans b5 b7
      clear b7
      go_wp2_with fail
      refine Calls.mono (dBegins_calls _) ?_
      rintro e w8 ⟨rfl, b8⟩
      replace b5 := ebelow_trans b5 b8
      go_wp2_with fail
      go_ret
      exact ⟨rfl, b5⟩
end Go.Proofs.Ytckpfohfbfmmnaa

/- The statement RoundRises. -/
import Derived.Test.YtiipjkkfaplhnaaDoorRM0
import Derived.Test.YtiipjkkfaplhnaaDoorRND
import Derived.Test.YtiipjkkfaplhnaaDoorRDG
import Derived.Test.YtiipjkkfaplhnaaDoorRDE
namespace Go.Proofs.YtiipjkkfaplhnaaDoor
open Go.RowKit

theorem near_num (s : Bool) (m : Nat) (e : Int) : numB (nearB s m e) = true ∧ rungV (nearB s m e) = sI s * nearW m e := by
  have hb := nearW_bd m e
  have hz : m = 0 → nearW m e = 0 := fun q => by unfold nearW; rw [if_pos q]
  unfold nearB
  by_cases h : (s && decide (m ≠ 0)) = true
  · rw [if_pos h]
    simp only [Bool.and_eq_true, decide_eq_true_eq] at h
    rw [h.1]
    unfold numB rungV negV sI
    refine ⟨by simp; omega, ?_⟩
    rw [if_pos (by omega), if_pos rfl]
    omega
  · rw [if_neg h]
    simp only [Bool.and_eq_true, decide_eq_true_eq, not_and, Decidable.not_not] at h
    refine ⟨by unfold numB; simp; omega, ?_⟩
    unfold rungV
    rw [if_neg (by omega)]
    unfold sI
    cases s with
    | true => rw [hz (h rfl)]; rfl
    | false => rw [if_neg (by decide)]; omega
theorem cmp_le (x y : Int) : Lib.compareInt x y ≤ 0 ↔ x ≤ y := by
  unfold Lib.compareInt
  split
  · constructor <;> omega
  · split <;> constructor <;> omega
/-- of a no greater number what it is rounded to is no greater -/
theorem near_le (s : Bool) (m : Nat) (e : Int) (t : Bool) (m' : Nat) (f : Int) (he : -32768 ≤ e) (hf : -32768 ≤ f) (h : cmpD (formD s m e) (formD t m' f) ≤ 0) : rungV (nearB s m e) ≤ rungV (nearB t m' f) := by
  obtain ⟨K, hK⟩ : ∃ K : Nat, K = 32768 := ⟨_, rfl⟩
  rw [vI_cmp _ _ K (form_lo _ _ _ _ (by omega) (by omega)) (form_lo _ _ _ _ (by omega) (by omega)), cmp_le, vI_form _ _ _ _ (by omega), vI_form _ _ _ _ (by omega)] at h
  rw [(near_num s m e).2, (near_num t m' f).2]
  rw [show (e - -(K : Int)).toNat = (e + K).toNat by omega, show (f - -(K : Int)).toNat = (f + K).toNat by omega] at h
  have b1 := nearW_bd m e
  have b2 := nearW_bd m' f
  have k1 := near_mono m e m' f K (by omega) he hf
  have k2 := near_mono m' f m e K (by omega) hf he
  have k3 := near_mono m e 0 0 K (by omega) he (by decide)
  have k4 := near_mono m' f 0 0 K (by omega) hf (by decide)
  rw [Nat.zero_mul, show nearW 0 0 = 0 by decide] at k3 k4
  generalize m * 2 ^ (e + K).toNat = T at *
  generalize m' * 2 ^ (f + K).toNat = T' at *
  unfold sI at *
  cases s <;> cases t <;> simp at h ⊢
  · have := k1 (by omega); omega
  · have := k3 (by omega); have := k4 (by omega); omega
  · omega
  · have := k2 (by omega); omega
theorem not_less (s : Bool) (m : Nat) (e : Int) (t : Bool) (m' : Nat) (f : Int) (he : -32768 ≤ e) (hf : -32768 ≤ f) (h : cmpD (formD s m e) (formD t m' f) ≤ 0) : lessB (nearB t m' f) (nearB s m e) = false := by
  have := near_le s m e t m' f he hf h
  unfold lessB
  rw [decide_eq_false (by omega)]
  simp
theorem form_val (s : Bool) (m : Nat) (e : Int) (K : Nat) (h0 : m ≠ 0) (he : -(K : Int) ≤ e) : (formD s m e).2.1 * 2 ^ ((formD s m e).2.2 + K).toNat = m * 2 ^ (e + K).toNat := by
  have h1 := vI_form false m e (-(K : Int)) he
  unfold vI sI at h1
  have hs : formD s m e = (s, (formD false m e).2.1, (formD false m e).2.2) := by rw [form_pos _ h0, form_pos _ h0]
  have hs0 : (formD false m e).1 = false := by rw [form_pos _ h0]
  rw [hs0] at h1
  simp at h1
  rw [hs]
  show (formD false m e).2.1 * 2 ^ ((formD false m e).2.2 + K).toNat = _
  rw [show ((formD false m e).2.2 + (K : Int)).toNat = ((formD false m e).2.2 + (K : Int)).toNat from rfl]
  have h2 := h1
  exact_mod_cast h2
/-- what is rounded of less a number -/
theorem near_turn (s : Bool) (m : Nat) (e : Int) (hr : rightB m e = true) (hc : canE s m e = 0) :
    erR (ngP s m e).2.1 (ngP s m e).2.2 = 0 ∧ flR (ngP s m e).1 (ngP s m e).2.1 (ngP s m e).2.2 = flR s m e ∧ (m = 0 → nbR (ngP s m e).1 (ngP s m e).2.1 (ngP s m e).2.2 = 0) ∧ (m ≠ 0 → nbR (ngP s m e).1 (ngP s m e).2.1 (ngP s m e).2.2 = negV (nbR s m e)) := by
  obtain ⟨hg, he⟩ := rightB_yes hr
  have c1 := canE_yes (s := s) hr
  have hroom : roomB (formD s m e) = true := by
    rw [c1.1] at hc
    unfold roomE at hc
    split at hc
    · assumption
    · cases hc
  have hp : ngP s m e = negD (formD s m e) := by
    unfold ngP
    rw [if_pos hc, c1.2]
    unfold roomP
    rw [if_pos hroom]
  have hr2 : rightB (formD s m e).2.1 (formD s m e).2.2 = true := hroom
  have hr3 : rightB (negD (formD s m e)).2.1 (negD (formD s m e)).2.2 = true := hroom
  obtain ⟨-, hf⟩ := rightB_yes hr2
  rw [hp]
  by_cases h0 : m = 0
  · have hz : formD s m e = (false, 0, 0) := by rw [h0]; exact form_zero s e
    rw [hz] at hr3 ⊢
    refine ⟨by unfold erR; rw [if_pos hr3], ?_, fun _ => ?_, fun q => absurd h0 q⟩
    · unfold flR
      rw [if_pos hr3, if_pos hr]
      have x1 : exactB (negD (false, 0, 0)).2.1 (negD (false, 0, 0)).2.2 = true := by decide
      have x2 : exactB m e = true := by unfold exactB; rw [if_pos h0]
      rw [if_pos x1, if_pos x2]
    · unfold nbR
      rw [if_pos hr3]
      decide
  · obtain ⟨K, hK⟩ : ∃ K : Nat, K = 32768 := ⟨_, rfl⟩
    obtain ⟨n1, n2, n3⟩ := near_same (formD s m e).2.1 (formD s m e).2.2 m e K (by omega) (by omega) (by omega) (form_val s m e K h0 (by omega))
    have hm0 : (formD s m e).2.1 ≠ 0 := fun q => h0 (n3.1 q)
    have hs : (formD s m e).1 = s := by rw [form_pos _ h0]
    have hng : (negD (formD s m e)).1 = !s := by unfold negD; rw [hs, decide_eq_false hm0]; simp
    have ht : tinyP (formD s m e).2.1 (formD s m e).2.2 = tinyP m e := by
      unfold tinyP
      have : formD false (formD s m e).2.1 (formD s m e).2.2 = formD false m e := by
        have q := form_of_can (form_can false m e)
        rw [form_pos s h0, form_pos false h0]
        rw [form_pos false h0] at q
        exact q
      rw [this]
    have hb : nearB (!s) (formD s m e).2.1 (formD s m e).2.2 = negV (nearB s m e) := by
      have w := nearW_bd m e
      unfold nearB
      rw [n1, decide_eq_true hm0, decide_eq_true (show m ≠ 0 from h0)]
      cases s
      · simp
      · simp; unfold negV; omega
    refine ⟨by unfold erR; rw [if_pos hr3], ?_, fun q => absurd q h0, fun _ => ?_⟩
    · unfold flR
      rw [if_pos hr3, if_pos hr, hng]
      show (if exactB (formD s m e).2.1 (formD s m e).2.2 = true then 0 else inxF (nearB (!s) (formD s m e).2.1 (formD s m e).2.2) (tinyP (formD s m e).2.1 (formD s m e).2.2)) = _
      rw [n2, ht, hb]
      unfold inxF
      rw [show absV (negV (nearB s m e)) = absV (nearB s m e) from by have := nearB_U s m e; unfold absV negV; unfold U at this; omega]
    · unfold nbR
      rw [if_pos hr3, if_pos hr, hng]
      exact hb

set_option maxRecDepth 100000 in
set_option maxHeartbeats 4000000 in
theorem ri_x (s : Bool) (a : Option Addr) (len cap : Nat) (xs : List Int) (e : Int) (s' : Bool) (a' : Option Addr) (len' cap' : Nat) (ys : List Int) (e' : Int) (w : World) (h : IsW w a len cap xs) (hm : len ≤ 17592186044000) (h' : IsW w a' len' cap' ys) (hm' : len' ≤ 17592186044000) (hT : Tab w) (ra : rightB (val xs) e = false) :
    Calls Tryd.prog 5 #[dyV s a len cap e, dyV s' a' len' cap' e'] w fun r w' => r = .returned (.bool true) ∧ Below w.heap.size w w' := by
  have H1 : Hid _ := fun w' (g : IsW w' a len cap xs) t' => pNear_calls s a len cap xs e w' g hm t'
  have H2 : Hid _ := fun w' (g : IsW w' a' len' cap' ys) t' => pNear_calls s' a' len' cap' ys e' w' g hm' t'
  have e1 : erR (val xs) e = 2 := by unfold erR; rw [ra]; rfl
  rw [e1] at H1
  clear e1 ra
  generalize erR (val ys) e' = r2 at *
  generalize nbR s (val xs) e = n1 at *
  generalize flR s (val xs) e = x1 at *
  generalize nbR s' (val ys) e' = n2 at *
  generalize flR s' (val ys) e' = x2 at *
  have bA : Below w.heap.size w ((w.alloc (.cells #[.bool s, .slice a len cap, .int .i64 e] 25)).alloc (.cells #[.bool s', .slice a' len' cap', .int .i64 e'] 25)) := nbelow_trans (below_one _ _) (below_one _ _)
  have hI := h.keep bA
  have hJ := h'.keep bA
  have hT0 := hT.kept bA
  have c0 : ((w.alloc (.cells #[.bool s, .slice a len cap, .int .i64 e] 25)).alloc (.cells #[.bool s', .slice a' len' cap', .int .i64 e'] 25)).cell? ⟨w.heap.size, 0, none⟩ = some (.bool s) := by go_simp
  have c1 : ((w.alloc (.cells #[.bool s, .slice a len cap, .int .i64 e] 25)).alloc (.cells #[.bool s', .slice a' len' cap', .int .i64 e'] 25)).cell? ⟨w.heap.size, 1, none⟩ = some (.slice a len cap) := by go_simp
  have c2 : ((w.alloc (.cells #[.bool s, .slice a len cap, .int .i64 e] 25)).alloc (.cells #[.bool s', .slice a' len' cap', .int .i64 e'] 25)).cell? ⟨w.heap.size, 2, none⟩ = some (.int .i64 e) := by go_simp
  have d0 : ((w.alloc (.cells #[.bool s, .slice a len cap, .int .i64 e] 25)).alloc (.cells #[.bool s', .slice a' len' cap', .int .i64 e'] 25)).cell? ⟨w.heap.size + 1, 0, none⟩ = some (.bool s') := by go_simp
  have d1 : ((w.alloc (.cells #[.bool s, .slice a len cap, .int .i64 e] 25)).alloc (.cells #[.bool s', .slice a' len' cap', .int .i64 e'] 25)).cell? ⟨w.heap.size + 1, 1, none⟩ = some (.slice a' len' cap') := by go_simp
  have d2 : ((w.alloc (.cells #[.bool s, .slice a len cap, .int .i64 e] 25)).alloc (.cells #[.bool s', .slice a' len' cap', .int .i64 e'] 25)).cell? ⟨w.heap.size + 1, 2, none⟩ = some (.int .i64 e') := by go_simp
  clear h h' hT
  go_enter Tryd.func5, Tryd.ntmps5
  go_wp2_with fail
  generalize ((w.alloc (.cells #[.bool s, .slice a len cap, .int .i64 e] 25)).alloc (.cells #[.bool s', .slice a' len' cap', .int .i64 e'] 25)) = w1 at *
  refine Calls.mono (rLives_calls _ hT0) ?_
  rintro r w2 ⟨rfl, bN⟩
  replace c0 := dcarry_cell bN c0
  replace c1 := dcarry_cell bN c1
  replace c2 := dcarry_cell bN c2
  replace d0 := dcarry_cell bN d0
  replace d1 := dcarry_cell bN d1
  replace d2 := dcarry_cell bN d2
  replace hI := IsW.keep hI bN
  replace hJ := IsW.keep hJ bN
  replace hT0 := hT0.kept bN
  replace bA := nbelow_trans bA bN
  clear bN
  go_wp2_with fail
  refine Calls.mono (H1.out _ hI hT0) ?_
  rintro r w3 ⟨rfl, bN⟩
  replace c0 := dcarry_cell bN c0
  replace c1 := dcarry_cell bN c1
  replace c2 := dcarry_cell bN c2
  replace d0 := dcarry_cell bN d0
  replace d1 := dcarry_cell bN d1
  replace d2 := dcarry_cell bN d2
  replace hI := IsW.keep hI bN
  replace hJ := IsW.keep hJ bN
  replace hT0 := hT0.kept bN
  replace bA := nbelow_trans bA bN
  clear bN
  have bB := below_one w3 (.cells #[.int .u64 n1, .int .u8 x1] 29)
  have p0 : (w3.alloc (.cells #[.int .u64 n1, .int .u8 x1] 29)).cell? ⟨w3.heap.size, 0, none⟩ = some (.int .u64 n1) := by go_simp
  have p1 : (w3.alloc (.cells #[.int .u64 n1, .int .u8 x1] 29)).cell? ⟨w3.heap.size, 1, none⟩ = some (.int .u8 x1) := by go_simp
  replace c0 := dcarry_cell bB c0
  replace c1 := dcarry_cell bB c1
  replace c2 := dcarry_cell bB c2
  replace d0 := dcarry_cell bB d0
  replace d1 := dcarry_cell bB d1
  replace d2 := dcarry_cell bB d2
  replace hI := IsW.keep hI bB
  replace hJ := IsW.keep hJ bB
  replace hT0 := hT0.kept bB
  replace bA := nbelow_trans bA bB
  clear bB
  go_wp2_with fail
  generalize (w3.alloc (.cells #[.int .u64 n1, .int .u8 x1] 29)) = w4 at *
  refine Calls.mono (H2.out _ hJ hT0) ?_
  rintro r w5 ⟨rfl, bN⟩
  replace c0 := dcarry_cell bN c0
  replace c1 := dcarry_cell bN c1
  replace c2 := dcarry_cell bN c2
  replace d0 := dcarry_cell bN d0
  replace d1 := dcarry_cell bN d1
  replace d2 := dcarry_cell bN d2
  replace p0 := dcarry_cell bN p0
  replace p1 := dcarry_cell bN p1
  replace hI := IsW.keep hI bN
  replace hJ := IsW.keep hJ bN
  replace hT0 := hT0.kept bN
  replace bA := nbelow_trans bA bN
  clear bN
  have bB := below_one w5 (.cells #[.int .u64 n2, .int .u8 x2] 29)
  have q0 : (w5.alloc (.cells #[.int .u64 n2, .int .u8 x2] 29)).cell? ⟨w5.heap.size, 0, none⟩ = some (.int .u64 n2) := by go_simp
  have q1 : (w5.alloc (.cells #[.int .u64 n2, .int .u8 x2] 29)).cell? ⟨w5.heap.size, 1, none⟩ = some (.int .u8 x2) := by go_simp
  replace c0 := dcarry_cell bB c0
  replace c1 := dcarry_cell bB c1
  replace c2 := dcarry_cell bB c2
  replace d0 := dcarry_cell bB d0
  replace d1 := dcarry_cell bB d1
  replace d2 := dcarry_cell bB d2
  replace p0 := dcarry_cell bB p0
  replace p1 := dcarry_cell bB p1
  replace hI := IsW.keep hI bB
  replace hJ := IsW.keep hJ bB
  replace hT0 := hT0.kept bB
  replace bA := nbelow_trans bA bB
  clear bB
  go_wp2_with fail
  go_ret
  exact ⟨rfl, bA⟩

set_option maxRecDepth 100000 in
set_option maxHeartbeats 4000000 in
theorem ri_y (s : Bool) (a : Option Addr) (len cap : Nat) (xs : List Int) (e : Int) (s' : Bool) (a' : Option Addr) (len' cap' : Nat) (ys : List Int) (e' : Int) (w : World) (h : IsW w a len cap xs) (hm : len ≤ 17592186044000) (h' : IsW w a' len' cap' ys) (hm' : len' ≤ 17592186044000) (hT : Tab w) (ra : rightB (val xs) e = true) (rb : rightB (val ys) e' = false) :
    Calls Tryd.prog 5 #[dyV s a len cap e, dyV s' a' len' cap' e'] w fun r w' => r = .returned (.bool true) ∧ Below w.heap.size w w' := by
  have H1 : Hid _ := fun w' (g : IsW w' a len cap xs) t' => pNear_calls s a len cap xs e w' g hm t'
  have H2 : Hid _ := fun w' (g : IsW w' a' len' cap' ys) t' => pNear_calls s' a' len' cap' ys e' w' g hm' t'
  have e1 : erR (val xs) e = 0 := by unfold erR; rw [ra]; rfl
  have e2 : erR (val ys) e' = 2 := by unfold erR; rw [rb]; rfl
  rw [e1] at H1
  rw [e2] at H2
  clear e1 e2 ra rb
  generalize nbR s (val xs) e = n1 at *
  generalize flR s (val xs) e = x1 at *
  generalize nbR s' (val ys) e' = n2 at *
  generalize flR s' (val ys) e' = x2 at *
  have bA : Below w.heap.size w ((w.alloc (.cells #[.bool s, .slice a len cap, .int .i64 e] 25)).alloc (.cells #[.bool s', .slice a' len' cap', .int .i64 e'] 25)) := nbelow_trans (below_one _ _) (below_one _ _)
  have hI := h.keep bA
  have hJ := h'.keep bA
  have hT0 := hT.kept bA
  have c0 : ((w.alloc (.cells #[.bool s, .slice a len cap, .int .i64 e] 25)).alloc (.cells #[.bool s', .slice a' len' cap', .int .i64 e'] 25)).cell? ⟨w.heap.size, 0, none⟩ = some (.bool s) := by go_simp
  have c1 : ((w.alloc (.cells #[.bool s, .slice a len cap, .int .i64 e] 25)).alloc (.cells #[.bool s', .slice a' len' cap', .int .i64 e'] 25)).cell? ⟨w.heap.size, 1, none⟩ = some (.slice a len cap) := by go_simp
  have c2 : ((w.alloc (.cells #[.bool s, .slice a len cap, .int .i64 e] 25)).alloc (.cells #[.bool s', .slice a' len' cap', .int .i64 e'] 25)).cell? ⟨w.heap.size, 2, none⟩ = some (.int .i64 e) := by go_simp
  have d0 : ((w.alloc (.cells #[.bool s, .slice a len cap, .int .i64 e] 25)).alloc (.cells #[.bool s', .slice a' len' cap', .int .i64 e'] 25)).cell? ⟨w.heap.size + 1, 0, none⟩ = some (.bool s') := by go_simp
  have d1 : ((w.alloc (.cells #[.bool s, .slice a len cap, .int .i64 e] 25)).alloc (.cells #[.bool s', .slice a' len' cap', .int .i64 e'] 25)).cell? ⟨w.heap.size + 1, 1, none⟩ = some (.slice a' len' cap') := by go_simp
  have d2 : ((w.alloc (.cells #[.bool s, .slice a len cap, .int .i64 e] 25)).alloc (.cells #[.bool s', .slice a' len' cap', .int .i64 e'] 25)).cell? ⟨w.heap.size + 1, 2, none⟩ = some (.int .i64 e') := by go_simp
  clear h h' hT
  go_enter Tryd.func5, Tryd.ntmps5
  go_wp2_with fail
  generalize ((w.alloc (.cells #[.bool s, .slice a len cap, .int .i64 e] 25)).alloc (.cells #[.bool s', .slice a' len' cap', .int .i64 e'] 25)) = w1 at *
  refine Calls.mono (rLives_calls _ hT0) ?_
  rintro r w2 ⟨rfl, bN⟩
  replace c0 := dcarry_cell bN c0
  replace c1 := dcarry_cell bN c1
  replace c2 := dcarry_cell bN c2
  replace d0 := dcarry_cell bN d0
  replace d1 := dcarry_cell bN d1
  replace d2 := dcarry_cell bN d2
  replace hI := IsW.keep hI bN
  replace hJ := IsW.keep hJ bN
  replace hT0 := hT0.kept bN
  replace bA := nbelow_trans bA bN
  clear bN
  go_wp2_with fail
  refine Calls.mono (H1.out _ hI hT0) ?_
  rintro r w3 ⟨rfl, bN⟩
  replace c0 := dcarry_cell bN c0
  replace c1 := dcarry_cell bN c1
  replace c2 := dcarry_cell bN c2
  replace d0 := dcarry_cell bN d0
  replace d1 := dcarry_cell bN d1
  replace d2 := dcarry_cell bN d2
  replace hI := IsW.keep hI bN
  replace hJ := IsW.keep hJ bN
  replace hT0 := hT0.kept bN
  replace bA := nbelow_trans bA bN
  clear bN
  have bB := below_one w3 (.cells #[.int .u64 n1, .int .u8 x1] 29)
  have p0 : (w3.alloc (.cells #[.int .u64 n1, .int .u8 x1] 29)).cell? ⟨w3.heap.size, 0, none⟩ = some (.int .u64 n1) := by go_simp
  have p1 : (w3.alloc (.cells #[.int .u64 n1, .int .u8 x1] 29)).cell? ⟨w3.heap.size, 1, none⟩ = some (.int .u8 x1) := by go_simp
  replace c0 := dcarry_cell bB c0
  replace c1 := dcarry_cell bB c1
  replace c2 := dcarry_cell bB c2
  replace d0 := dcarry_cell bB d0
  replace d1 := dcarry_cell bB d1
  replace d2 := dcarry_cell bB d2
  replace hI := IsW.keep hI bB
  replace hJ := IsW.keep hJ bB
  replace hT0 := hT0.kept bB
  replace bA := nbelow_trans bA bB
  clear bB
  go_wp2_with fail
  generalize (w3.alloc (.cells #[.int .u64 n1, .int .u8 x1] 29)) = w4 at *
  refine Calls.mono (H2.out _ hJ hT0) ?_
  rintro r w5 ⟨rfl, bN⟩
  replace c0 := dcarry_cell bN c0
  replace c1 := dcarry_cell bN c1
  replace c2 := dcarry_cell bN c2
  replace d0 := dcarry_cell bN d0
  replace d1 := dcarry_cell bN d1
  replace d2 := dcarry_cell bN d2
  replace p0 := dcarry_cell bN p0
  replace p1 := dcarry_cell bN p1
  replace hI := IsW.keep hI bN
  replace hJ := IsW.keep hJ bN
  replace hT0 := hT0.kept bN
  replace bA := nbelow_trans bA bN
  clear bN
  have bB := below_one w5 (.cells #[.int .u64 n2, .int .u8 x2] 29)
  have q0 : (w5.alloc (.cells #[.int .u64 n2, .int .u8 x2] 29)).cell? ⟨w5.heap.size, 0, none⟩ = some (.int .u64 n2) := by go_simp
  have q1 : (w5.alloc (.cells #[.int .u64 n2, .int .u8 x2] 29)).cell? ⟨w5.heap.size, 1, none⟩ = some (.int .u8 x2) := by go_simp
  replace c0 := dcarry_cell bB c0
  replace c1 := dcarry_cell bB c1
  replace c2 := dcarry_cell bB c2
  replace d0 := dcarry_cell bB d0
  replace d1 := dcarry_cell bB d1
  replace d2 := dcarry_cell bB d2
  replace p0 := dcarry_cell bB p0
  replace p1 := dcarry_cell bB p1
  replace hI := IsW.keep hI bB
  replace hJ := IsW.keep hJ bB
  replace hT0 := hT0.kept bB
  replace bA := nbelow_trans bA bB
  clear bB
  go_wp2_with fail
  go_ret
  exact ⟨rfl, bA⟩

set_option maxRecDepth 100000 in
set_option maxHeartbeats 4000000 in
theorem ri_100 (s : Bool) (a : Option Addr) (len cap : Nat) (xs : List Int) (e : Int) (s' : Bool) (a' : Option Addr) (len' cap' : Nat) (ys : List Int) (e' : Int) (w : World) (h : IsW w a len cap xs) (hm : len ≤ 17592186044000) (h' : IsW w a' len' cap' ys) (hm' : len' ≤ 17592186044000) (hT : Tab w) (ra : rightB (val xs) e = true) (rb : rightB (val ys) e' = true) (hc : cmpD (formD s (val xs) e) (formD s' (val ys) e') ≤ 0) (hn : canE s (val xs) e ≠ 0) :
    Calls Tryd.prog 5 #[dyV s a len cap e, dyV s' a' len' cap' e'] w fun r w' => r = .returned (.bool true) ∧ Below w.heap.size w w' := by
  have H1 : Hid _ := fun w' (g : IsW w' a len cap xs) t' => pNear_calls s a len cap xs e w' g hm t'
  have H2 : Hid _ := fun w' (g : IsW w' a' len' cap' ys) t' => pNear_calls s' a' len' cap' ys e' w' g hm' t'
  have e1 : erR (val xs) e = 0 := by unfold erR; rw [ra]; rfl
  have e2 : erR (val ys) e' = 0 := by unfold erR; rw [rb]; rfl
  rw [e1] at H1
  rw [e2] at H2
  obtain ⟨ga, ha⟩ := rightB_yes ra
  obtain ⟨gb, hb⟩ := rightB_yes rb
  have la := (great_not _).1 ga
  have lb := (great_not _).1 gb
  have HO : Hid _ := fun w' (g : IsW w' a len cap xs) (g' : IsW w' a' len' cap' ys) => qOrder_calls s a len cap xs e s' a' len' cap' ys e' w' g hm g' hm' (by omega) (by omega) (by omega) (by omega)
  have b1 : nbR s (val xs) e = nearB s (val xs) e := by unfold nbR; rw [if_pos ra]
  have b2 : nbR s' (val ys) e' = nearB s' (val ys) e' := by unfold nbR; rw [if_pos rb]
  have u1 : U (nbR s (val xs) e) := by rw [b1]; exact nearB_U _ _ _
  have u2 : U (nbR s' (val ys) e') := by rw [b2]; exact nearB_U _ _ _
  have HL : Hid _ := fun w' => less_calls (nbR s' (val ys) e') (nbR s (val xs) e) w' u2 u1
  rw [b1, b2, not_less s (val xs) e s' (val ys) e' ha.1 hb.1 hc, ← b1, ← b2] at HL
  have HN : Hid _ := fun w' (g : IsW w' a len cap xs) t' => pNeg_calls s a len cap xs e w' g (by omega) t'
  generalize canE s (val xs) e = cE at *
  clear b1 b2 u1 u2 e1 e2 ga ha gb hb la lb ra rb
  generalize nbR s (val xs) e = n1 at *
  generalize flR s (val xs) e = x1 at *
  generalize nbR s' (val ys) e' = n2 at *
  generalize flR s' (val ys) e' = x2 at *
  generalize cmpD (formD s (val xs) e) (formD s' (val ys) e') = cc at *
  generalize ngP s (val xs) e = P at *
  have bA : Below w.heap.size w ((w.alloc (.cells #[.bool s, .slice a len cap, .int .i64 e] 25)).alloc (.cells #[.bool s', .slice a' len' cap', .int .i64 e'] 25)) := nbelow_trans (below_one _ _) (below_one _ _)
  have hI := h.keep bA
  have hJ := h'.keep bA
  have hT0 := hT.kept bA
  have c0 : ((w.alloc (.cells #[.bool s, .slice a len cap, .int .i64 e] 25)).alloc (.cells #[.bool s', .slice a' len' cap', .int .i64 e'] 25)).cell? ⟨w.heap.size, 0, none⟩ = some (.bool s) := by go_simp
  have c1 : ((w.alloc (.cells #[.bool s, .slice a len cap, .int .i64 e] 25)).alloc (.cells #[.bool s', .slice a' len' cap', .int .i64 e'] 25)).cell? ⟨w.heap.size, 1, none⟩ = some (.slice a len cap) := by go_simp
  have c2 : ((w.alloc (.cells #[.bool s, .slice a len cap, .int .i64 e] 25)).alloc (.cells #[.bool s', .slice a' len' cap', .int .i64 e'] 25)).cell? ⟨w.heap.size, 2, none⟩ = some (.int .i64 e) := by go_simp
  have d0 : ((w.alloc (.cells #[.bool s, .slice a len cap, .int .i64 e] 25)).alloc (.cells #[.bool s', .slice a' len' cap', .int .i64 e'] 25)).cell? ⟨w.heap.size + 1, 0, none⟩ = some (.bool s') := by go_simp
  have d1 : ((w.alloc (.cells #[.bool s, .slice a len cap, .int .i64 e] 25)).alloc (.cells #[.bool s', .slice a' len' cap', .int .i64 e'] 25)).cell? ⟨w.heap.size + 1, 1, none⟩ = some (.slice a' len' cap') := by go_simp
  have d2 : ((w.alloc (.cells #[.bool s, .slice a len cap, .int .i64 e] 25)).alloc (.cells #[.bool s', .slice a' len' cap', .int .i64 e'] 25)).cell? ⟨w.heap.size + 1, 2, none⟩ = some (.int .i64 e') := by go_simp
  clear h h' hT
  go_enter Tryd.func5, Tryd.ntmps5
  go_wp2_with fail
  generalize ((w.alloc (.cells #[.bool s, .slice a len cap, .int .i64 e] 25)).alloc (.cells #[.bool s', .slice a' len' cap', .int .i64 e'] 25)) = w1 at *
  refine Calls.mono (rLives_calls _ hT0) ?_
  rintro r w2 ⟨rfl, bN⟩
  replace c0 := dcarry_cell bN c0
  replace c1 := dcarry_cell bN c1
  replace c2 := dcarry_cell bN c2
  replace d0 := dcarry_cell bN d0
  replace d1 := dcarry_cell bN d1
  replace d2 := dcarry_cell bN d2
  replace hI := IsW.keep hI bN
  replace hJ := IsW.keep hJ bN
  replace hT0 := hT0.kept bN
  replace bA := nbelow_trans bA bN
  clear bN
  go_wp2_with fail
  refine Calls.mono (H1.out _ hI hT0) ?_
  rintro r w3 ⟨rfl, bN⟩
  replace c0 := dcarry_cell bN c0
  replace c1 := dcarry_cell bN c1
  replace c2 := dcarry_cell bN c2
  replace d0 := dcarry_cell bN d0
  replace d1 := dcarry_cell bN d1
  replace d2 := dcarry_cell bN d2
  replace hI := IsW.keep hI bN
  replace hJ := IsW.keep hJ bN
  replace hT0 := hT0.kept bN
  replace bA := nbelow_trans bA bN
  clear bN
  have bB := below_one w3 (.cells #[.int .u64 n1, .int .u8 x1] 29)
  have p0 : (w3.alloc (.cells #[.int .u64 n1, .int .u8 x1] 29)).cell? ⟨w3.heap.size, 0, none⟩ = some (.int .u64 n1) := by go_simp
  have p1 : (w3.alloc (.cells #[.int .u64 n1, .int .u8 x1] 29)).cell? ⟨w3.heap.size, 1, none⟩ = some (.int .u8 x1) := by go_simp
  replace c0 := dcarry_cell bB c0
  replace c1 := dcarry_cell bB c1
  replace c2 := dcarry_cell bB c2
  replace d0 := dcarry_cell bB d0
  replace d1 := dcarry_cell bB d1
  replace d2 := dcarry_cell bB d2
  replace hI := IsW.keep hI bB
  replace hJ := IsW.keep hJ bB
  replace hT0 := hT0.kept bB
  replace bA := nbelow_trans bA bB
  clear bB
  go_wp2_with fail
  generalize (w3.alloc (.cells #[.int .u64 n1, .int .u8 x1] 29)) = w4 at *
  refine Calls.mono (H2.out _ hJ hT0) ?_
  rintro r w5 ⟨rfl, bN⟩
  replace c0 := dcarry_cell bN c0
  replace c1 := dcarry_cell bN c1
  replace c2 := dcarry_cell bN c2
  replace d0 := dcarry_cell bN d0
  replace d1 := dcarry_cell bN d1
  replace d2 := dcarry_cell bN d2
  replace p0 := dcarry_cell bN p0
  replace p1 := dcarry_cell bN p1
  replace hI := IsW.keep hI bN
  replace hJ := IsW.keep hJ bN
  replace hT0 := hT0.kept bN
  replace bA := nbelow_trans bA bN
  clear bN
  have bB := below_one w5 (.cells #[.int .u64 n2, .int .u8 x2] 29)
  have q0 : (w5.alloc (.cells #[.int .u64 n2, .int .u8 x2] 29)).cell? ⟨w5.heap.size, 0, none⟩ = some (.int .u64 n2) := by go_simp
  have q1 : (w5.alloc (.cells #[.int .u64 n2, .int .u8 x2] 29)).cell? ⟨w5.heap.size, 1, none⟩ = some (.int .u8 x2) := by go_simp
  replace c0 := dcarry_cell bB c0
  replace c1 := dcarry_cell bB c1
  replace c2 := dcarry_cell bB c2
  replace d0 := dcarry_cell bB d0
  replace d1 := dcarry_cell bB d1
  replace d2 := dcarry_cell bB d2
  replace p0 := dcarry_cell bB p0
  replace p1 := dcarry_cell bB p1
  replace hI := IsW.keep hI bB
  replace hJ := IsW.keep hJ bB
  replace hT0 := hT0.kept bB
  replace bA := nbelow_trans bA bB
  clear bB
  go_wp2_with fail
  generalize (w5.alloc (.cells #[.int .u64 n2, .int .u8 x2] 29)) = w6 at *
  refine Calls.mono (HO.out _ hI hJ) ?_
  rintro r w7 ⟨rfl, bN⟩
  replace c0 := dcarry_cell bN c0
  replace c1 := dcarry_cell bN c1
  replace c2 := dcarry_cell bN c2
  replace d0 := dcarry_cell bN d0
  replace d1 := dcarry_cell bN d1
  replace d2 := dcarry_cell bN d2
  replace p0 := dcarry_cell bN p0
  replace p1 := dcarry_cell bN p1
  replace q0 := dcarry_cell bN q0
  replace q1 := dcarry_cell bN q1
  replace hI := IsW.keep hI bN
  replace hJ := IsW.keep hJ bN
  replace hT0 := hT0.kept bN
  replace bA := nbelow_trans bA bN
  clear bN
  go_wp2_with fail
  refine Calls.mono (HL.out _) ?_
  rintro r wx ⟨rfl, rfl⟩
  go_wp2_with fail
  refine Calls.mono (HN.out _ hI hT0) ?_
  rintro r w8 ⟨v, rfl, ⟨ao, no, co, rfl, hno, hle, hOw⟩, bN⟩
  have HNo : Hid _ := hno
  have hO0 := hOw.1
  clear hno hOw
  replace c0 := dcarry_cell bN c0
  replace c1 := dcarry_cell bN c1
  replace c2 := dcarry_cell bN c2
  replace d0 := dcarry_cell bN d0
  replace d1 := dcarry_cell bN d1
  replace d2 := dcarry_cell bN d2
  replace p0 := dcarry_cell bN p0
  replace p1 := dcarry_cell bN p1
  replace q0 := dcarry_cell bN q0
  replace q1 := dcarry_cell bN q1
  replace hI := IsW.keep hI bN
  replace hJ := IsW.keep hJ bN
  replace hT0 := hT0.kept bN
  replace bA := nbelow_trans bA bN
  clear bN
  go_wp2_with fail
  go_ret
  exact ⟨rfl, by repeat (first | exact bA | refine nbelow_trans ?_ (below_one _ _))⟩

set_option maxRecDepth 100000 in
set_option maxHeartbeats 4000000 in
theorem ri_111 (s : Bool) (a : Option Addr) (len cap : Nat) (xs : List Int) (e : Int) (s' : Bool) (a' : Option Addr) (len' cap' : Nat) (ys : List Int) (e' : Int) (w : World) (h : IsW w a len cap xs) (hm : len ≤ 17592186044000) (h' : IsW w a' len' cap' ys) (hm' : len' ≤ 17592186044000) (hT : Tab w) (ra : rightB (val xs) e = true) (rb : rightB (val ys) e' = true) (hc : cmpD (formD s (val xs) e) (formD s' (val ys) e') ≤ 0) (hn : canE s (val xs) e = 0) (hz : val xs = 0) :
    Calls Tryd.prog 5 #[dyV s a len cap e, dyV s' a' len' cap' e'] w fun r w' => r = .returned (.bool true) ∧ Below w.heap.size w w' := by
  have H1 : Hid _ := fun w' (g : IsW w' a len cap xs) t' => pNear_calls s a len cap xs e w' g hm t'
  have H2 : Hid _ := fun w' (g : IsW w' a' len' cap' ys) t' => pNear_calls s' a' len' cap' ys e' w' g hm' t'
  have e1 : erR (val xs) e = 0 := by unfold erR; rw [ra]; rfl
  have e2 : erR (val ys) e' = 0 := by unfold erR; rw [rb]; rfl
  rw [e1] at H1
  rw [e2] at H2
  obtain ⟨ga, ha⟩ := rightB_yes ra
  obtain ⟨gb, hb⟩ := rightB_yes rb
  have la := (great_not _).1 ga
  have lb := (great_not _).1 gb
  have HO : Hid _ := fun w' (g : IsW w' a len cap xs) (g' : IsW w' a' len' cap' ys) => qOrder_calls s a len cap xs e s' a' len' cap' ys e' w' g hm g' hm' (by omega) (by omega) (by omega) (by omega)
  have b1 : nbR s (val xs) e = nearB s (val xs) e := by unfold nbR; rw [if_pos ra]
  have b2 : nbR s' (val ys) e' = nearB s' (val ys) e' := by unfold nbR; rw [if_pos rb]
  have u1 : U (nbR s (val xs) e) := by rw [b1]; exact nearB_U _ _ _
  have u2 : U (nbR s' (val ys) e') := by rw [b2]; exact nearB_U _ _ _
  have HL : Hid _ := fun w' => less_calls (nbR s' (val ys) e') (nbR s (val xs) e) w' u2 u1
  rw [b1, b2, not_less s (val xs) e s' (val ys) e' ha.1 hb.1 hc, ← b1, ← b2] at HL
  have HN : Hid _ := fun w' (g : IsW w' a len cap xs) t' => pNeg_calls s a len cap xs e w' g (by omega) t'
  rw [hn] at HN
  obtain ⟨t1, t2, t3, t4⟩ := near_turn s (val xs) e ra hn
  have H3 : Hid _ := fun (ao : Option Addr) (n c : Nat) w' (g : IsW w' ao n c (wordsOf (ngP s (val xs) e).2.1)) hn t' => pNear_calls (ngP s (val xs) e).1 ao n c (wordsOf (ngP s (val xs) e).2.1) (ngP s (val xs) e).2.2 w' g hn t'
  rw [val_words, t1, t2] at H3
  have HZ : Hid _ := fun w' (g : IsW w' a len cap xs) => qZero_calls s a len cap xs e w' g (by omega)
  have HM : Hid _ := fun w' => neg_calls (nbR s (val xs) e) w' u1
  rw [decide_eq_true hz] at HZ
  rw [t3 hz] at H3
  clear b1 b2 u1 u2 e1 e2 ga ha gb hb la lb ra rb t1 t2 t3 t4 hz hn
  generalize nbR s (val xs) e = n1 at *
  generalize flR s (val xs) e = x1 at *
  generalize nbR s' (val ys) e' = n2 at *
  generalize flR s' (val ys) e' = x2 at *
  generalize cmpD (formD s (val xs) e) (formD s' (val ys) e') = cc at *
  generalize ngP s (val xs) e = P at *
  have bA : Below w.heap.size w ((w.alloc (.cells #[.bool s, .slice a len cap, .int .i64 e] 25)).alloc (.cells #[.bool s', .slice a' len' cap', .int .i64 e'] 25)) := nbelow_trans (below_one _ _) (below_one _ _)
  have hI := h.keep bA
  have hJ := h'.keep bA
  have hT0 := hT.kept bA
  have c0 : ((w.alloc (.cells #[.bool s, .slice a len cap, .int .i64 e] 25)).alloc (.cells #[.bool s', .slice a' len' cap', .int .i64 e'] 25)).cell? ⟨w.heap.size, 0, none⟩ = some (.bool s) := by go_simp
  have c1 : ((w.alloc (.cells #[.bool s, .slice a len cap, .int .i64 e] 25)).alloc (.cells #[.bool s', .slice a' len' cap', .int .i64 e'] 25)).cell? ⟨w.heap.size, 1, none⟩ = some (.slice a len cap) := by go_simp
  have c2 : ((w.alloc (.cells #[.bool s, .slice a len cap, .int .i64 e] 25)).alloc (.cells #[.bool s', .slice a' len' cap', .int .i64 e'] 25)).cell? ⟨w.heap.size, 2, none⟩ = some (.int .i64 e) := by go_simp
  have d0 : ((w.alloc (.cells #[.bool s, .slice a len cap, .int .i64 e] 25)).alloc (.cells #[.bool s', .slice a' len' cap', .int .i64 e'] 25)).cell? ⟨w.heap.size + 1, 0, none⟩ = some (.bool s') := by go_simp
  have d1 : ((w.alloc (.cells #[.bool s, .slice a len cap, .int .i64 e] 25)).alloc (.cells #[.bool s', .slice a' len' cap', .int .i64 e'] 25)).cell? ⟨w.heap.size + 1, 1, none⟩ = some (.slice a' len' cap') := by go_simp
  have d2 : ((w.alloc (.cells #[.bool s, .slice a len cap, .int .i64 e] 25)).alloc (.cells #[.bool s', .slice a' len' cap', .int .i64 e'] 25)).cell? ⟨w.heap.size + 1, 2, none⟩ = some (.int .i64 e') := by go_simp
  clear h h' hT
  go_enter Tryd.func5, Tryd.ntmps5
  go_wp2_with fail
  generalize ((w.alloc (.cells #[.bool s, .slice a len cap, .int .i64 e] 25)).alloc (.cells #[.bool s', .slice a' len' cap', .int .i64 e'] 25)) = w1 at *
  refine Calls.mono (rLives_calls _ hT0) ?_
  rintro r w2 ⟨rfl, bN⟩
  replace c0 := dcarry_cell bN c0
  replace c1 := dcarry_cell bN c1
  replace c2 := dcarry_cell bN c2
  replace d0 := dcarry_cell bN d0
  replace d1 := dcarry_cell bN d1
  replace d2 := dcarry_cell bN d2
  replace hI := IsW.keep hI bN
  replace hJ := IsW.keep hJ bN
  replace hT0 := hT0.kept bN
  replace bA := nbelow_trans bA bN
  clear bN
  go_wp2_with fail
  refine Calls.mono (H1.out _ hI hT0) ?_
  rintro r w3 ⟨rfl, bN⟩
  replace c0 := dcarry_cell bN c0
  replace c1 := dcarry_cell bN c1
  replace c2 := dcarry_cell bN c2
  replace d0 := dcarry_cell bN d0
  replace d1 := dcarry_cell bN d1
  replace d2 := dcarry_cell bN d2
  replace hI := IsW.keep hI bN
  replace hJ := IsW.keep hJ bN
  replace hT0 := hT0.kept bN
  replace bA := nbelow_trans bA bN
  clear bN
  have bB := below_one w3 (.cells #[.int .u64 n1, .int .u8 x1] 29)
  have p0 : (w3.alloc (.cells #[.int .u64 n1, .int .u8 x1] 29)).cell? ⟨w3.heap.size, 0, none⟩ = some (.int .u64 n1) := by go_simp
  have p1 : (w3.alloc (.cells #[.int .u64 n1, .int .u8 x1] 29)).cell? ⟨w3.heap.size, 1, none⟩ = some (.int .u8 x1) := by go_simp
  replace c0 := dcarry_cell bB c0
  replace c1 := dcarry_cell bB c1
  replace c2 := dcarry_cell bB c2
  replace d0 := dcarry_cell bB d0
  replace d1 := dcarry_cell bB d1
  replace d2 := dcarry_cell bB d2
  replace hI := IsW.keep hI bB
  replace hJ := IsW.keep hJ bB
  replace hT0 := hT0.kept bB
  replace bA := nbelow_trans bA bB
  clear bB
  go_wp2_with fail
  generalize (w3.alloc (.cells #[.int .u64 n1, .int .u8 x1] 29)) = w4 at *
  refine Calls.mono (H2.out _ hJ hT0) ?_
  rintro r w5 ⟨rfl, bN⟩
  replace c0 := dcarry_cell bN c0
  replace c1 := dcarry_cell bN c1
  replace c2 := dcarry_cell bN c2
  replace d0 := dcarry_cell bN d0
  replace d1 := dcarry_cell bN d1
  replace d2 := dcarry_cell bN d2
  replace p0 := dcarry_cell bN p0
  replace p1 := dcarry_cell bN p1
  replace hI := IsW.keep hI bN
  replace hJ := IsW.keep hJ bN
  replace hT0 := hT0.kept bN
  replace bA := nbelow_trans bA bN
  clear bN
  have bB := below_one w5 (.cells #[.int .u64 n2, .int .u8 x2] 29)
  have q0 : (w5.alloc (.cells #[.int .u64 n2, .int .u8 x2] 29)).cell? ⟨w5.heap.size, 0, none⟩ = some (.int .u64 n2) := by go_simp
  have q1 : (w5.alloc (.cells #[.int .u64 n2, .int .u8 x2] 29)).cell? ⟨w5.heap.size, 1, none⟩ = some (.int .u8 x2) := by go_simp
  replace c0 := dcarry_cell bB c0
  replace c1 := dcarry_cell bB c1
  replace c2 := dcarry_cell bB c2
  replace d0 := dcarry_cell bB d0
  replace d1 := dcarry_cell bB d1
  replace d2 := dcarry_cell bB d2
  replace p0 := dcarry_cell bB p0
  replace p1 := dcarry_cell bB p1
  replace hI := IsW.keep hI bB
  replace hJ := IsW.keep hJ bB
  replace hT0 := hT0.kept bB
  replace bA := nbelow_trans bA bB
  clear bB
  go_wp2_with fail
  generalize (w5.alloc (.cells #[.int .u64 n2, .int .u8 x2] 29)) = w6 at *
  refine Calls.mono (HO.out _ hI hJ) ?_
  rintro r w7 ⟨rfl, bN⟩
  replace c0 := dcarry_cell bN c0
  replace c1 := dcarry_cell bN c1
  replace c2 := dcarry_cell bN c2
  replace d0 := dcarry_cell bN d0
  replace d1 := dcarry_cell bN d1
  replace d2 := dcarry_cell bN d2
  replace p0 := dcarry_cell bN p0
  replace p1 := dcarry_cell bN p1
  replace q0 := dcarry_cell bN q0
  replace q1 := dcarry_cell bN q1
  replace hI := IsW.keep hI bN
  replace hJ := IsW.keep hJ bN
  replace hT0 := hT0.kept bN
  replace bA := nbelow_trans bA bN
  clear bN
  go_wp2_with fail
  refine Calls.mono (HL.out _) ?_
  rintro r wx ⟨rfl, rfl⟩
  go_wp2_with fail
  refine Calls.mono (HN.out _ hI hT0) ?_
  rintro r w8 ⟨v, rfl, ⟨ao, no, co, rfl, hno, hle, hOw⟩, bN⟩
  have HNo : Hid _ := hno
  have hO0 := hOw.1
  clear hno hOw
  replace c0 := dcarry_cell bN c0
  replace c1 := dcarry_cell bN c1
  replace c2 := dcarry_cell bN c2
  replace d0 := dcarry_cell bN d0
  replace d1 := dcarry_cell bN d1
  replace d2 := dcarry_cell bN d2
  replace p0 := dcarry_cell bN p0
  replace p1 := dcarry_cell bN p1
  replace q0 := dcarry_cell bN q0
  replace q1 := dcarry_cell bN q1
  replace hI := IsW.keep hI bN
  replace hJ := IsW.keep hJ bN
  replace hT0 := hT0.kept bN
  replace bA := nbelow_trans bA bN
  clear bN
  have hO := hO0
  clear hO0
  have bB := below_one w8 (.cells #[.bool P.1, .slice ao no co, .int .i64 P.2.2] 25)
  have v0 : (w8.alloc (.cells #[.bool P.1, .slice ao no co, .int .i64 P.2.2] 25)).cell? ⟨w8.heap.size, 0, none⟩ = some (.bool P.1) := by go_simp
  have v1 : (w8.alloc (.cells #[.bool P.1, .slice ao no co, .int .i64 P.2.2] 25)).cell? ⟨w8.heap.size, 1, none⟩ = some (.slice ao no co) := by go_simp
  have v2 : (w8.alloc (.cells #[.bool P.1, .slice ao no co, .int .i64 P.2.2] 25)).cell? ⟨w8.heap.size, 2, none⟩ = some (.int .i64 P.2.2) := by go_simp
  replace c0 := dcarry_cell bB c0
  replace c1 := dcarry_cell bB c1
  replace c2 := dcarry_cell bB c2
  replace d0 := dcarry_cell bB d0
  replace d1 := dcarry_cell bB d1
  replace d2 := dcarry_cell bB d2
  replace p0 := dcarry_cell bB p0
  replace p1 := dcarry_cell bB p1
  replace q0 := dcarry_cell bB q0
  replace q1 := dcarry_cell bB q1
  replace hI := IsW.keep hI bB
  replace hJ := IsW.keep hJ bB
  replace hT0 := hT0.kept bB
  replace bA := nbelow_trans bA bB
  replace hO := IsW.keep hO bB
  clear bB
  go_wp2_with fail
  generalize (w8.alloc (.cells #[.bool P.1, .slice ao no co, .int .i64 P.2.2] 25)) = w9 at *
  refine Calls.mono (H3.out _ _ _ _ hO (by omega) hT0) ?_
  rintro r w10 ⟨rfl, bN⟩
  replace c0 := dcarry_cell bN c0
  replace c1 := dcarry_cell bN c1
  replace c2 := dcarry_cell bN c2
  replace d0 := dcarry_cell bN d0
  replace d1 := dcarry_cell bN d1
  replace d2 := dcarry_cell bN d2
  replace p0 := dcarry_cell bN p0
  replace p1 := dcarry_cell bN p1
  replace q0 := dcarry_cell bN q0
  replace q1 := dcarry_cell bN q1
  replace v0 := dcarry_cell bN v0
  replace v1 := dcarry_cell bN v1
  replace v2 := dcarry_cell bN v2
  replace hI := IsW.keep hI bN
  replace hJ := IsW.keep hJ bN
  replace hT0 := hT0.kept bN
  replace bA := nbelow_trans bA bN
  replace hO := IsW.keep hO bN
  clear bN
  have bB := below_one w10 (.cells #[.int .u64 0, .int .u8 x1] 29)
  have y0 : (w10.alloc (.cells #[.int .u64 0, .int .u8 x1] 29)).cell? ⟨w10.heap.size, 0, none⟩ = some (.int .u64 0) := by go_simp
  have y1 : (w10.alloc (.cells #[.int .u64 0, .int .u8 x1] 29)).cell? ⟨w10.heap.size, 1, none⟩ = some (.int .u8 x1) := by go_simp
  replace c0 := dcarry_cell bB c0
  replace c1 := dcarry_cell bB c1
  replace c2 := dcarry_cell bB c2
  replace d0 := dcarry_cell bB d0
  replace d1 := dcarry_cell bB d1
  replace d2 := dcarry_cell bB d2
  replace p0 := dcarry_cell bB p0
  replace p1 := dcarry_cell bB p1
  replace q0 := dcarry_cell bB q0
  replace q1 := dcarry_cell bB q1
  replace v0 := dcarry_cell bB v0
  replace v1 := dcarry_cell bB v1
  replace v2 := dcarry_cell bB v2
  replace hI := IsW.keep hI bB
  replace hJ := IsW.keep hJ bB
  replace hT0 := hT0.kept bB
  replace bA := nbelow_trans bA bB
  replace hO := IsW.keep hO bB
  clear bB
  go_upto_region 13 with fail
  generalize (w10.alloc (.cells #[.int .u64 0, .int .u8 x1] 29)) = w11 at *
  have R : Below w11.heap.size w11 (World.drew w11) := (Below.refl _ _).drew
  refine wp_region_held (S := fun w' => Below w11.heap.size w11 w') (by kernel_rfl) ?_
  change wpAnyH _ _ _ _ _ _ _ _ (World.drew w11)
  generalize World.drew w11 = wd at R ⊢
  refine wpAnyH_take (i := 0) (oi := { dst := some 52, op := Op.move (Operand.tmp 8), type := 30, pos := "law.go:103", after := #[], guard := none }) (v := .int .i64 0) rfl (by kernel_rfl) (by kernel_rfl) (by kernel_rfl) (fun _ _ _ h => h) (Or.inl ⟨by rfl, ?y1⟩) R ?r1
  case y1 => (intro ww hS; clear hS; go_simp; try with_reducible rfl)
  try simp only [Act.put, List.setIfInBounds_toArray, List.set_cons_zero, List.set_cons_succ]
  refine wpAnyH_take (i := 1) (oi := { dst := some 53, op := Op.binOp BinOp.eql 30 (Operand.tmp 52) (Operand.const (Value.int IntKind.i64 0)) 30, type := 4, pos := "law.go:103", after := #[{ on := 0, ground := Ground.data }], guard := none }) (v := .bool true) rfl (by kernel_rfl) (by kernel_rfl) (by kernel_rfl) (fun _ _ _ h => h) (Or.inl ⟨by rfl, ?y2⟩) R ?r2
  case y2 => (intro ww hS; clear hS; go_simp; try with_reducible rfl)
  try simp only [Act.put, List.setIfInBounds_toArray, List.set_cons_zero, List.set_cons_succ]
  refine wpAnyH_take (i := 2) (oi := { dst := some 54, op := Op.move (Operand.tmp 53), type := 4, pos := "law.go:103", after := #[{ on := 1, ground := Ground.data }], guard := none }) (v := .bool true) rfl (by kernel_rfl) (by kernel_rfl) (by kernel_rfl) (fun _ _ _ h => h) (Or.inl ⟨by rfl, ?y3⟩) R ?r3
  case y3 => (intro ww hS; clear hS; go_simp; try with_reducible rfl)
  try simp only [Act.put, List.setIfInBounds_toArray, List.set_cons_zero, List.set_cons_succ]
  refine wpAnyH_take (i := 3) (oi := { dst := some 55, op := Op.fieldAddr 29 (Operand.tmp 10) 1, type := 0, pos := "law.go:103", after := #[{ on := 2, ground := Ground.guard }], guard := some (2, true) }) (v := ?v4) rfl (by kernel_rfl) (by kernel_rfl) (by kernel_rfl) (fun _ _ _ h => h) (Or.inl ⟨by rfl, ?y4⟩) R ?r4
  case y4 => (intro ww hS; clear hS; go_simp; try with_reducible rfl)
  try simp only [Act.put, List.setIfInBounds_toArray, List.set_cons_zero, List.set_cons_succ]
  refine wpAnyH_take (i := 4) (oi := { dst := some 56, op := Op.load 27 (Operand.tmp 55), type := 27, pos := "law.go:103", after := #[{ on := 3, ground := Ground.data }, { on := 2, ground := Ground.guard }], guard := some (2, true) }) (v := .int .u8 x1) rfl (by kernel_rfl) (by kernel_rfl) (by kernel_rfl) (fun _ _ _ h => h) (Or.inl ⟨by rfl, ?y5⟩) R ?r5
  case y5 => (intro ww hS; have qy1 := dcarry_cell hS y1; clear hS; go_simp; try with_reducible rfl)
  try simp only [Act.put, List.setIfInBounds_toArray, List.set_cons_zero, List.set_cons_succ]
  refine wpAnyH_take (i := 5) (oi := { dst := some 57, op := Op.fieldAddr 29 (Operand.tmp 5) 1, type := 0, pos := "law.go:103", after := #[{ on := 2, ground := Ground.guard }], guard := some (2, true) }) (v := ?v6) rfl (by kernel_rfl) (by kernel_rfl) (by kernel_rfl) (fun _ _ _ h => h) (Or.inl ⟨by rfl, ?y6⟩) R ?r6
  case y6 => (intro ww hS; clear hS; go_simp; try with_reducible rfl)
  try simp only [Act.put, List.setIfInBounds_toArray, List.set_cons_zero, List.set_cons_succ]
  refine wpAnyH_take (i := 6) (oi := { dst := some 58, op := Op.load 27 (Operand.tmp 57), type := 27, pos := "law.go:103", after := #[{ on := 5, ground := Ground.data }, { on := 2, ground := Ground.guard }], guard := some (2, true) }) (v := .int .u8 x1) rfl (by kernel_rfl) (by kernel_rfl) (by kernel_rfl) (fun _ _ _ h => h) (Or.inl ⟨by rfl, ?y7⟩) R ?r7
  case y7 => (intro ww hS; have qp1 := dcarry_cell hS p1; clear hS; go_simp; try with_reducible rfl)
  try simp only [Act.put, List.setIfInBounds_toArray, List.set_cons_zero, List.set_cons_succ]
  refine wpAnyH_take (i := 7) (oi := { dst := some 59, op := Op.binOp BinOp.eql 27 (Operand.tmp 56) (Operand.tmp 58) 27, type := 4, pos := "law.go:103", after := #[{ on := 4, ground := Ground.data }, { on := 6, ground := Ground.data }, { on := 2, ground := Ground.guard }], guard := some (2, true) }) (v := .bool true) rfl (by kernel_rfl) (by kernel_rfl) (by kernel_rfl) (fun _ _ _ h => h) (Or.inl ⟨by rfl, ?y8⟩) R ?r8
  case y8 => (intro ww hS; clear hS; go_simp; try with_reducible rfl)
  try simp only [Act.put, List.setIfInBounds_toArray, List.set_cons_zero, List.set_cons_succ]
  refine wpAnyH_take (i := 8) (oi := { dst := some 60, op := Op.pick (Operand.tmp 54) (Operand.tmp 59) (Operand.const (Value.bool false)), type := 4, pos := "law.go:103", after := #[{ on := 2, ground := Ground.data }, { on := 7, ground := Ground.data }], guard := none }) (v := .bool true) rfl (by kernel_rfl) (by kernel_rfl) (by kernel_rfl) (fun _ _ _ h => h) (Or.inl ⟨by rfl, ?y9⟩) R ?r9
  case y9 => (intro ww hS; clear hS; go_simp; try with_reducible rfl)
  try simp only [Act.put, List.setIfInBounds_toArray, List.set_cons_zero, List.set_cons_succ]
  refine wpAnyH_take (i := 9) (oi := { dst := some 61, op := Op.move (Operand.tmp 60), type := 4, pos := "law.go:103", after := #[{ on := 8, ground := Ground.data }, { on := 2, ground := Ground.chain }], guard := none }) (v := .bool true) rfl (by kernel_rfl) (by kernel_rfl) (by kernel_rfl) (fun _ _ _ h => h) (Or.inl ⟨by rfl, ?y10⟩) R ?r10
  case y10 => (intro ww hS; clear hS; go_simp; try with_reducible rfl)
  try simp only [Act.put, List.setIfInBounds_toArray, List.set_cons_zero, List.set_cons_succ]
  refine wpAnyH_take (i := 10) (oi := { dst := some 62, op := Op.load 25 (Operand.tmp 2), type := 25, pos := "law.go:103", after := #[{ on := 9, ground := Ground.guard }], guard := some (9, true) }) (v := dyV s a len cap e) rfl (by kernel_rfl) (by kernel_rfl) (by kernel_rfl) (fun _ _ _ h => h) (Or.inl ⟨by rfl, ?y11⟩) R ?r11
  case y11 => (intro ww hS; have qc0 := dcarry_cell hS c0; have qc1 := dcarry_cell hS c1; have qc2 := dcarry_cell hS c2; clear hS; go_simp; try with_reducible rfl)
  try simp only [Act.put, List.setIfInBounds_toArray, List.set_cons_zero, List.set_cons_succ]
  refine wpAnyH_ready (rs := [11]) (by kernel_rfl) (by simp) ?_
  refine AllReadyH.cons rfl (fun K hK => ?_) AllReadyH.nil
  go_simp
  refine Calls.mono (HZ.out _ (IsW.keep hI R)) ?_
  rintro r wz ⟨rfl, bN⟩
  replace R := nbelow_trans R bN
  clear bN
  refine hK.out _ _ R (fun _ => ?_)
  clear hK K
  try simp only [Act.put, List.setIfInBounds_toArray, List.set_cons_zero, List.set_cons_succ]
  refine wpAnyH_take (i := 12) (oi := { dst := some 64, op := Op.move (Operand.tmp 63), type := 4, pos := "law.go:103", after := #[{ on := 11, ground := Ground.data }, { on := 11, ground := Ground.chain }, { on := 9, ground := Ground.guard }], guard := some (9, true) }) (v := .bool true) rfl (by kernel_rfl) (by kernel_rfl) (by kernel_rfl) (fun _ _ _ h => h) (Or.inl ⟨by rfl, ?y12⟩) R ?r12
  case y12 => (intro ww hS; clear hS; go_simp; try with_reducible rfl)
  try simp only [Act.put, List.setIfInBounds_toArray, List.set_cons_zero, List.set_cons_succ]
  refine wpAnyH_take (i := 13) (oi := { dst := some 65, op := Op.fieldAddr 29 (Operand.tmp 10) 0, type := 0, pos := "law.go:103", after := #[{ on := 12, ground := Ground.guard }], guard := some (12, true) }) (v := ?v13) rfl (by kernel_rfl) (by kernel_rfl) (by kernel_rfl) (fun _ _ _ h => h) (Or.inl ⟨by rfl, ?y13⟩) R ?r13
  case y13 => (intro ww hS; clear hS; go_simp; try with_reducible rfl)
  try simp only [Act.put, List.setIfInBounds_toArray, List.set_cons_zero, List.set_cons_succ]
  refine wpAnyH_take (i := 14) (oi := { dst := some 66, op := Op.load 26 (Operand.tmp 65), type := 26, pos := "law.go:103", after := #[{ on := 13, ground := Ground.data }, { on := 12, ground := Ground.guard }], guard := some (12, true) }) (v := .int .u64 0) rfl (by kernel_rfl) (by kernel_rfl) (by kernel_rfl) (fun _ _ _ h => h) (Or.inl ⟨by rfl, ?y14⟩) R ?r14
  case y14 => (intro ww hS; have qy0 := dcarry_cell hS y0; clear hS; go_simp; try with_reducible rfl)
  try simp only [Act.put, List.setIfInBounds_toArray, List.set_cons_zero, List.set_cons_succ]
  refine wpAnyH_take (i := 15) (oi := { dst := some 67, op := Op.binOp BinOp.eql 26 (Operand.tmp 66) (Operand.const (Value.int IntKind.u64 0)) 26, type := 4, pos := "law.go:103", after := #[{ on := 14, ground := Ground.data }, { on := 12, ground := Ground.guard }], guard := some (12, true) }) (v := .bool true) rfl (by kernel_rfl) (by kernel_rfl) (by kernel_rfl) (fun _ _ _ h => h) (Or.inl ⟨by rfl, ?y15⟩) R ?r15
  case y15 => (intro ww hS; clear hS; go_simp; try with_reducible rfl)
  try simp only [Act.put, List.setIfInBounds_toArray, List.set_cons_zero, List.set_cons_succ]
  refine wpAnyH_take (i := 16) (oi := { dst := some 68, op := Op.pick (Operand.tmp 64) (Operand.tmp 67) (Operand.const (Value.bool false)), type := 4, pos := "law.go:103", after := #[{ on := 12, ground := Ground.data }, { on := 15, ground := Ground.data }, { on := 9, ground := Ground.guard }], guard := some (9, true) }) (v := .bool true) rfl (by kernel_rfl) (by kernel_rfl) (by kernel_rfl) (fun _ _ _ h => h) (Or.inl ⟨by rfl, ?y16⟩) R ?r16
  case y16 => (intro ww hS; clear hS; go_simp; try with_reducible rfl)
  try simp only [Act.put, List.setIfInBounds_toArray, List.set_cons_zero, List.set_cons_succ]
  refine wpAnyH_take (i := 17) (oi := { dst := some 69, op := Op.move (Operand.tmp 68), type := 4, pos := "law.go:103", after := #[{ on := 16, ground := Ground.data }, { on := 12, ground := Ground.chain }, { on := 9, ground := Ground.guard }], guard := some (9, true) }) (v := .bool true) rfl (by kernel_rfl) (by kernel_rfl) (by kernel_rfl) (fun _ _ _ h => h) (Or.inl ⟨by rfl, ?y17⟩) R ?r17
  case y17 => (intro ww hS; clear hS; go_simp; try with_reducible rfl)
  try simp only [Act.put, List.setIfInBounds_toArray, List.set_cons_zero, List.set_cons_succ]
  refine wpAnyH_take (i := 18) (oi := { dst := some 70, op := Op.fieldAddr 29 (Operand.tmp 10) 0, type := 0, pos := "law.go:103", after := #[{ on := 17, ground := Ground.guard }], guard := some (17, false) }) (v := undef) rfl (by kernel_rfl) (by kernel_rfl) (by kernel_rfl) (fun _ _ _ h => h) (Or.inr ⟨by rfl, rfl⟩) R ?r18
  try simp only [Act.put, List.setIfInBounds_toArray, List.set_cons_zero, List.set_cons_succ]
  refine wpAnyH_take (i := 19) (oi := { dst := some 71, op := Op.load 26 (Operand.tmp 70), type := 26, pos := "law.go:103", after := #[{ on := 18, ground := Ground.data }, { on := 17, ground := Ground.guard }], guard := some (17, false) }) (v := undef) rfl (by kernel_rfl) (by kernel_rfl) (by kernel_rfl) (fun _ _ _ h => h) (Or.inr ⟨by rfl, rfl⟩) R ?r19
  try simp only [Act.put, List.setIfInBounds_toArray, List.set_cons_zero, List.set_cons_succ]
  refine wpAnyH_take (i := 20) (oi := { dst := some 72, op := Op.fieldAddr 29 (Operand.tmp 5) 0, type := 0, pos := "law.go:103", after := #[{ on := 17, ground := Ground.guard }], guard := some (17, false) }) (v := undef) rfl (by kernel_rfl) (by kernel_rfl) (by kernel_rfl) (fun _ _ _ h => h) (Or.inr ⟨by rfl, rfl⟩) R ?r20
  try simp only [Act.put, List.setIfInBounds_toArray, List.set_cons_zero, List.set_cons_succ]
  refine wpAnyH_take (i := 21) (oi := { dst := some 73, op := Op.load 26 (Operand.tmp 72), type := 26, pos := "law.go:103", after := #[{ on := 20, ground := Ground.data }, { on := 17, ground := Ground.guard }], guard := some (17, false) }) (v := undef) rfl (by kernel_rfl) (by kernel_rfl) (by kernel_rfl) (fun _ _ _ h => h) (Or.inr ⟨by rfl, rfl⟩) R ?r21
  try simp only [Act.put, List.setIfInBounds_toArray, List.set_cons_zero, List.set_cons_succ]
  refine wpAnyH_ready (rs := [22]) (by kernel_rfl) (by simp) ?_
  refine AllReadyH.cons rfl (fun K hK => ?_) AllReadyH.nil
  go_simp
  refine hK.out _ _ R (fun _ => ?_)
  clear hK K
  try simp only [Act.put, List.setIfInBounds_toArray, List.set_cons_zero, List.set_cons_succ]
  refine wpAnyH_take (i := 23) (oi := { dst := some 75, op := Op.binOp BinOp.eql 26 (Operand.tmp 71) (Operand.tmp 74) 26, type := 4, pos := "law.go:103", after := #[{ on := 19, ground := Ground.data }, { on := 22, ground := Ground.data }, { on := 17, ground := Ground.guard }], guard := some (17, false) }) (v := undef) rfl (by kernel_rfl) (by kernel_rfl) (by kernel_rfl) (fun _ _ _ h => h) (Or.inr ⟨by rfl, rfl⟩) R ?r22
  try simp only [Act.put, List.setIfInBounds_toArray, List.set_cons_zero, List.set_cons_succ]
  refine wpAnyH_take (i := 24) (oi := { dst := some 76, op := Op.pick (Operand.tmp 69) (Operand.const (Value.bool true)) (Operand.tmp 75), type := 4, pos := "law.go:103", after := #[{ on := 17, ground := Ground.data }, { on := 23, ground := Ground.data }, { on := 9, ground := Ground.guard }], guard := some (9, true) }) (v := .bool true) rfl (by kernel_rfl) (by kernel_rfl) (by kernel_rfl) (fun _ _ _ h => h) (Or.inl ⟨by rfl, ?y23⟩) R ?r23
  case y23 => (intro ww hS; clear hS; go_simp; try with_reducible rfl)
  try simp only [Act.put, List.setIfInBounds_toArray, List.set_cons_zero, List.set_cons_succ]
  refine wpAnyH_take (i := 25) (oi := { dst := some 77, op := Op.pick (Operand.tmp 61) (Operand.tmp 76) (Operand.const (Value.bool false)), type := 4, pos := "law.go:103", after := #[{ on := 9, ground := Ground.data }, { on := 24, ground := Ground.data }], guard := none }) (v := .bool true) rfl (by kernel_rfl) (by kernel_rfl) (by kernel_rfl) (fun _ _ _ h => h) (Or.inl ⟨by rfl, ?y24⟩) R ?r24
  case y24 => (intro ww hS; clear hS; go_simp; try with_reducible rfl)
  try simp only [Act.put, List.setIfInBounds_toArray, List.set_cons_zero, List.set_cons_succ]
  refine wpAnyH_ready (rs := [26]) (by kernel_rfl) (by simp) ?_
  refine AllReadyH.cons rfl (fun K hK => ?_) AllReadyH.nil
  go_simp
  refine hK.out _ _ R (fun _ => ?_)
  clear hK K
  try simp only [Act.put, List.setIfInBounds_toArray, List.set_cons_zero, List.set_cons_succ]
  refine wpAnyH_done (by kernel_rfl) ?_ _
  replace bA := nbelow_trans bA R
  clear R
  go_wp2_with fail
  go_ret
  exact ⟨rfl, bA⟩

set_option maxRecDepth 100000 in
set_option maxHeartbeats 4000000 in
theorem ri_110 (s : Bool) (a : Option Addr) (len cap : Nat) (xs : List Int) (e : Int) (s' : Bool) (a' : Option Addr) (len' cap' : Nat) (ys : List Int) (e' : Int) (w : World) (h : IsW w a len cap xs) (hm : len ≤ 17592186044000) (h' : IsW w a' len' cap' ys) (hm' : len' ≤ 17592186044000) (hT : Tab w) (ra : rightB (val xs) e = true) (rb : rightB (val ys) e' = true) (hc : cmpD (formD s (val xs) e) (formD s' (val ys) e') ≤ 0) (hn : canE s (val xs) e = 0) (hz : ¬ val xs = 0) :
    Calls Tryd.prog 5 #[dyV s a len cap e, dyV s' a' len' cap' e'] w fun r w' => r = .returned (.bool true) ∧ Below w.heap.size w w' := by
  have H1 : Hid _ := fun w' (g : IsW w' a len cap xs) t' => pNear_calls s a len cap xs e w' g hm t'
  have H2 : Hid _ := fun w' (g : IsW w' a' len' cap' ys) t' => pNear_calls s' a' len' cap' ys e' w' g hm' t'
  have e1 : erR (val xs) e = 0 := by unfold erR; rw [ra]; rfl
  have e2 : erR (val ys) e' = 0 := by unfold erR; rw [rb]; rfl
  rw [e1] at H1
  rw [e2] at H2
  obtain ⟨ga, ha⟩ := rightB_yes ra
  obtain ⟨gb, hb⟩ := rightB_yes rb
  have la := (great_not _).1 ga
  have lb := (great_not _).1 gb
  have HO : Hid _ := fun w' (g : IsW w' a len cap xs) (g' : IsW w' a' len' cap' ys) => qOrder_calls s a len cap xs e s' a' len' cap' ys e' w' g hm g' hm' (by omega) (by omega) (by omega) (by omega)
  have b1 : nbR s (val xs) e = nearB s (val xs) e := by unfold nbR; rw [if_pos ra]
  have b2 : nbR s' (val ys) e' = nearB s' (val ys) e' := by unfold nbR; rw [if_pos rb]
  have u1 : U (nbR s (val xs) e) := by rw [b1]; exact nearB_U _ _ _
  have u2 : U (nbR s' (val ys) e') := by rw [b2]; exact nearB_U _ _ _
  have HL : Hid _ := fun w' => less_calls (nbR s' (val ys) e') (nbR s (val xs) e) w' u2 u1
  rw [b1, b2, not_less s (val xs) e s' (val ys) e' ha.1 hb.1 hc, ← b1, ← b2] at HL
  have HN : Hid _ := fun w' (g : IsW w' a len cap xs) t' => pNeg_calls s a len cap xs e w' g (by omega) t'
  rw [hn] at HN
  obtain ⟨t1, t2, t3, t4⟩ := near_turn s (val xs) e ra hn
  have H3 : Hid _ := fun (ao : Option Addr) (n c : Nat) w' (g : IsW w' ao n c (wordsOf (ngP s (val xs) e).2.1)) hn t' => pNear_calls (ngP s (val xs) e).1 ao n c (wordsOf (ngP s (val xs) e).2.1) (ngP s (val xs) e).2.2 w' g hn t'
  rw [val_words, t1, t2] at H3
  have HZ : Hid _ := fun w' (g : IsW w' a len cap xs) => qZero_calls s a len cap xs e w' g (by omega)
  have HM : Hid _ := fun w' => neg_calls (nbR s (val xs) e) w' u1
  rw [decide_eq_false hz] at HZ
  rw [t4 hz] at H3
  clear b1 b2 u1 u2 e1 e2 ga ha gb hb la lb ra rb t1 t2 t3 t4 hz hn
  generalize nbR s (val xs) e = n1 at *
  generalize flR s (val xs) e = x1 at *
  generalize nbR s' (val ys) e' = n2 at *
  generalize flR s' (val ys) e' = x2 at *
  generalize cmpD (formD s (val xs) e) (formD s' (val ys) e') = cc at *
  generalize ngP s (val xs) e = P at *
  generalize negV n1 = m1 at *
  have bA : Below w.heap.size w ((w.alloc (.cells #[.bool s, .slice a len cap, .int .i64 e] 25)).alloc (.cells #[.bool s', .slice a' len' cap', .int .i64 e'] 25)) := nbelow_trans (below_one _ _) (below_one _ _)
  have hI := h.keep bA
  have hJ := h'.keep bA
  have hT0 := hT.kept bA
  have c0 : ((w.alloc (.cells #[.bool s, .slice a len cap, .int .i64 e] 25)).alloc (.cells #[.bool s', .slice a' len' cap', .int .i64 e'] 25)).cell? ⟨w.heap.size, 0, none⟩ = some (.bool s) := by go_simp
  have c1 : ((w.alloc (.cells #[.bool s, .slice a len cap, .int .i64 e] 25)).alloc (.cells #[.bool s', .slice a' len' cap', .int .i64 e'] 25)).cell? ⟨w.heap.size, 1, none⟩ = some (.slice a len cap) := by go_simp
  have c2 : ((w.alloc (.cells #[.bool s, .slice a len cap, .int .i64 e] 25)).alloc (.cells #[.bool s', .slice a' len' cap', .int .i64 e'] 25)).cell? ⟨w.heap.size, 2, none⟩ = some (.int .i64 e) := by go_simp
  have d0 : ((w.alloc (.cells #[.bool s, .slice a len cap, .int .i64 e] 25)).alloc (.cells #[.bool s', .slice a' len' cap', .int .i64 e'] 25)).cell? ⟨w.heap.size + 1, 0, none⟩ = some (.bool s') := by go_simp
  have d1 : ((w.alloc (.cells #[.bool s, .slice a len cap, .int .i64 e] 25)).alloc (.cells #[.bool s', .slice a' len' cap', .int .i64 e'] 25)).cell? ⟨w.heap.size + 1, 1, none⟩ = some (.slice a' len' cap') := by go_simp
  have d2 : ((w.alloc (.cells #[.bool s, .slice a len cap, .int .i64 e] 25)).alloc (.cells #[.bool s', .slice a' len' cap', .int .i64 e'] 25)).cell? ⟨w.heap.size + 1, 2, none⟩ = some (.int .i64 e') := by go_simp
  clear h h' hT
  go_enter Tryd.func5, Tryd.ntmps5
  go_wp2_with fail
  generalize ((w.alloc (.cells #[.bool s, .slice a len cap, .int .i64 e] 25)).alloc (.cells #[.bool s', .slice a' len' cap', .int .i64 e'] 25)) = w1 at *
  refine Calls.mono (rLives_calls _ hT0) ?_
  rintro r w2 ⟨rfl, bN⟩
  replace c0 := dcarry_cell bN c0
  replace c1 := dcarry_cell bN c1
  replace c2 := dcarry_cell bN c2
  replace d0 := dcarry_cell bN d0
  replace d1 := dcarry_cell bN d1
  replace d2 := dcarry_cell bN d2
  replace hI := IsW.keep hI bN
  replace hJ := IsW.keep hJ bN
  replace hT0 := hT0.kept bN
  replace bA := nbelow_trans bA bN
  clear bN
  go_wp2_with fail
  refine Calls.mono (H1.out _ hI hT0) ?_
  rintro r w3 ⟨rfl, bN⟩
  replace c0 := dcarry_cell bN c0
  replace c1 := dcarry_cell bN c1
  replace c2 := dcarry_cell bN c2
  replace d0 := dcarry_cell bN d0
  replace d1 := dcarry_cell bN d1
  replace d2 := dcarry_cell bN d2
  replace hI := IsW.keep hI bN
  replace hJ := IsW.keep hJ bN
  replace hT0 := hT0.kept bN
  replace bA := nbelow_trans bA bN
  clear bN
  have bB := below_one w3 (.cells #[.int .u64 n1, .int .u8 x1] 29)
  have p0 : (w3.alloc (.cells #[.int .u64 n1, .int .u8 x1] 29)).cell? ⟨w3.heap.size, 0, none⟩ = some (.int .u64 n1) := by go_simp
  have p1 : (w3.alloc (.cells #[.int .u64 n1, .int .u8 x1] 29)).cell? ⟨w3.heap.size, 1, none⟩ = some (.int .u8 x1) := by go_simp
  replace c0 := dcarry_cell bB c0
  replace c1 := dcarry_cell bB c1
  replace c2 := dcarry_cell bB c2
  replace d0 := dcarry_cell bB d0
  replace d1 := dcarry_cell bB d1
  replace d2 := dcarry_cell bB d2
  replace hI := IsW.keep hI bB
  replace hJ := IsW.keep hJ bB
  replace hT0 := hT0.kept bB
  replace bA := nbelow_trans bA bB
  clear bB
  go_wp2_with fail
  generalize (w3.alloc (.cells #[.int .u64 n1, .int .u8 x1] 29)) = w4 at *
  refine Calls.mono (H2.out _ hJ hT0) ?_
  rintro r w5 ⟨rfl, bN⟩
  replace c0 := dcarry_cell bN c0
  replace c1 := dcarry_cell bN c1
  replace c2 := dcarry_cell bN c2
  replace d0 := dcarry_cell bN d0
  replace d1 := dcarry_cell bN d1
  replace d2 := dcarry_cell bN d2
  replace p0 := dcarry_cell bN p0
  replace p1 := dcarry_cell bN p1
  replace hI := IsW.keep hI bN
  replace hJ := IsW.keep hJ bN
  replace hT0 := hT0.kept bN
  replace bA := nbelow_trans bA bN
  clear bN
  have bB := below_one w5 (.cells #[.int .u64 n2, .int .u8 x2] 29)
  have q0 : (w5.alloc (.cells #[.int .u64 n2, .int .u8 x2] 29)).cell? ⟨w5.heap.size, 0, none⟩ = some (.int .u64 n2) := by go_simp
  have q1 : (w5.alloc (.cells #[.int .u64 n2, .int .u8 x2] 29)).cell? ⟨w5.heap.size, 1, none⟩ = some (.int .u8 x2) := by go_simp
  replace c0 := dcarry_cell bB c0
  replace c1 := dcarry_cell bB c1
  replace c2 := dcarry_cell bB c2
  replace d0 := dcarry_cell bB d0
  replace d1 := dcarry_cell bB d1
  replace d2 := dcarry_cell bB d2
  replace p0 := dcarry_cell bB p0
  replace p1 := dcarry_cell bB p1
  replace hI := IsW.keep hI bB
  replace hJ := IsW.keep hJ bB
  replace hT0 := hT0.kept bB
  replace bA := nbelow_trans bA bB
  clear bB
  go_wp2_with fail
  generalize (w5.alloc (.cells #[.int .u64 n2, .int .u8 x2] 29)) = w6 at *
  refine Calls.mono (HO.out _ hI hJ) ?_
  rintro r w7 ⟨rfl, bN⟩
  replace c0 := dcarry_cell bN c0
  replace c1 := dcarry_cell bN c1
  replace c2 := dcarry_cell bN c2
  replace d0 := dcarry_cell bN d0
  replace d1 := dcarry_cell bN d1
  replace d2 := dcarry_cell bN d2
  replace p0 := dcarry_cell bN p0
  replace p1 := dcarry_cell bN p1
  replace q0 := dcarry_cell bN q0
  replace q1 := dcarry_cell bN q1
  replace hI := IsW.keep hI bN
  replace hJ := IsW.keep hJ bN
  replace hT0 := hT0.kept bN
  replace bA := nbelow_trans bA bN
  clear bN
  go_wp2_with fail
  refine Calls.mono (HL.out _) ?_
  rintro r wx ⟨rfl, rfl⟩
  go_wp2_with fail
  refine Calls.mono (HN.out _ hI hT0) ?_
  rintro r w8 ⟨v, rfl, ⟨ao, no, co, rfl, hno, hle, hOw⟩, bN⟩
  have HNo : Hid _ := hno
  have hO0 := hOw.1
  clear hno hOw
  replace c0 := dcarry_cell bN c0
  replace c1 := dcarry_cell bN c1
  replace c2 := dcarry_cell bN c2
  replace d0 := dcarry_cell bN d0
  replace d1 := dcarry_cell bN d1
  replace d2 := dcarry_cell bN d2
  replace p0 := dcarry_cell bN p0
  replace p1 := dcarry_cell bN p1
  replace q0 := dcarry_cell bN q0
  replace q1 := dcarry_cell bN q1
  replace hI := IsW.keep hI bN
  replace hJ := IsW.keep hJ bN
  replace hT0 := hT0.kept bN
  replace bA := nbelow_trans bA bN
  clear bN
  have hO := hO0
  clear hO0
  have bB := below_one w8 (.cells #[.bool P.1, .slice ao no co, .int .i64 P.2.2] 25)
  have v0 : (w8.alloc (.cells #[.bool P.1, .slice ao no co, .int .i64 P.2.2] 25)).cell? ⟨w8.heap.size, 0, none⟩ = some (.bool P.1) := by go_simp
  have v1 : (w8.alloc (.cells #[.bool P.1, .slice ao no co, .int .i64 P.2.2] 25)).cell? ⟨w8.heap.size, 1, none⟩ = some (.slice ao no co) := by go_simp
  have v2 : (w8.alloc (.cells #[.bool P.1, .slice ao no co, .int .i64 P.2.2] 25)).cell? ⟨w8.heap.size, 2, none⟩ = some (.int .i64 P.2.2) := by go_simp
  replace c0 := dcarry_cell bB c0
  replace c1 := dcarry_cell bB c1
  replace c2 := dcarry_cell bB c2
  replace d0 := dcarry_cell bB d0
  replace d1 := dcarry_cell bB d1
  replace d2 := dcarry_cell bB d2
  replace p0 := dcarry_cell bB p0
  replace p1 := dcarry_cell bB p1
  replace q0 := dcarry_cell bB q0
  replace q1 := dcarry_cell bB q1
  replace hI := IsW.keep hI bB
  replace hJ := IsW.keep hJ bB
  replace hT0 := hT0.kept bB
  replace bA := nbelow_trans bA bB
  replace hO := IsW.keep hO bB
  clear bB
  go_wp2_with fail
  generalize (w8.alloc (.cells #[.bool P.1, .slice ao no co, .int .i64 P.2.2] 25)) = w9 at *
  refine Calls.mono (H3.out _ _ _ _ hO (by omega) hT0) ?_
  rintro r w10 ⟨rfl, bN⟩
  replace c0 := dcarry_cell bN c0
  replace c1 := dcarry_cell bN c1
  replace c2 := dcarry_cell bN c2
  replace d0 := dcarry_cell bN d0
  replace d1 := dcarry_cell bN d1
  replace d2 := dcarry_cell bN d2
  replace p0 := dcarry_cell bN p0
  replace p1 := dcarry_cell bN p1
  replace q0 := dcarry_cell bN q0
  replace q1 := dcarry_cell bN q1
  replace v0 := dcarry_cell bN v0
  replace v1 := dcarry_cell bN v1
  replace v2 := dcarry_cell bN v2
  replace hI := IsW.keep hI bN
  replace hJ := IsW.keep hJ bN
  replace hT0 := hT0.kept bN
  replace bA := nbelow_trans bA bN
  replace hO := IsW.keep hO bN
  clear bN
  have bB := below_one w10 (.cells #[.int .u64 m1, .int .u8 x1] 29)
  have y0 : (w10.alloc (.cells #[.int .u64 m1, .int .u8 x1] 29)).cell? ⟨w10.heap.size, 0, none⟩ = some (.int .u64 m1) := by go_simp
  have y1 : (w10.alloc (.cells #[.int .u64 m1, .int .u8 x1] 29)).cell? ⟨w10.heap.size, 1, none⟩ = some (.int .u8 x1) := by go_simp
  replace c0 := dcarry_cell bB c0
  replace c1 := dcarry_cell bB c1
  replace c2 := dcarry_cell bB c2
  replace d0 := dcarry_cell bB d0
  replace d1 := dcarry_cell bB d1
  replace d2 := dcarry_cell bB d2
  replace p0 := dcarry_cell bB p0
  replace p1 := dcarry_cell bB p1
  replace q0 := dcarry_cell bB q0
  replace q1 := dcarry_cell bB q1
  replace v0 := dcarry_cell bB v0
  replace v1 := dcarry_cell bB v1
  replace v2 := dcarry_cell bB v2
  replace hI := IsW.keep hI bB
  replace hJ := IsW.keep hJ bB
  replace hT0 := hT0.kept bB
  replace bA := nbelow_trans bA bB
  replace hO := IsW.keep hO bB
  clear bB
  go_upto_region 13 with fail
  generalize (w10.alloc (.cells #[.int .u64 m1, .int .u8 x1] 29)) = w11 at *
  have R : Below w11.heap.size w11 (World.drew w11) := (Below.refl _ _).drew
  refine wp_region_held (S := fun w' => Below w11.heap.size w11 w') (by kernel_rfl) ?_
  change wpAnyH _ _ _ _ _ _ _ _ (World.drew w11)
  generalize World.drew w11 = wd at R ⊢
  refine wpAnyH_take (i := 0) (oi := { dst := some 52, op := Op.move (Operand.tmp 8), type := 30, pos := "law.go:103", after := #[], guard := none }) (v := .int .i64 0) rfl (by kernel_rfl) (by kernel_rfl) (by kernel_rfl) (fun _ _ _ h => h) (Or.inl ⟨by rfl, ?y1⟩) R ?r1
  case y1 => (intro ww hS; clear hS; go_simp; try with_reducible rfl)
  try simp only [Act.put, List.setIfInBounds_toArray, List.set_cons_zero, List.set_cons_succ]
  refine wpAnyH_take (i := 1) (oi := { dst := some 53, op := Op.binOp BinOp.eql 30 (Operand.tmp 52) (Operand.const (Value.int IntKind.i64 0)) 30, type := 4, pos := "law.go:103", after := #[{ on := 0, ground := Ground.data }], guard := none }) (v := .bool true) rfl (by kernel_rfl) (by kernel_rfl) (by kernel_rfl) (fun _ _ _ h => h) (Or.inl ⟨by rfl, ?y2⟩) R ?r2
  case y2 => (intro ww hS; clear hS; go_simp; try with_reducible rfl)
  try simp only [Act.put, List.setIfInBounds_toArray, List.set_cons_zero, List.set_cons_succ]
  refine wpAnyH_take (i := 2) (oi := { dst := some 54, op := Op.move (Operand.tmp 53), type := 4, pos := "law.go:103", after := #[{ on := 1, ground := Ground.data }], guard := none }) (v := .bool true) rfl (by kernel_rfl) (by kernel_rfl) (by kernel_rfl) (fun _ _ _ h => h) (Or.inl ⟨by rfl, ?y3⟩) R ?r3
  case y3 => (intro ww hS; clear hS; go_simp; try with_reducible rfl)
  try simp only [Act.put, List.setIfInBounds_toArray, List.set_cons_zero, List.set_cons_succ]
  refine wpAnyH_take (i := 3) (oi := { dst := some 55, op := Op.fieldAddr 29 (Operand.tmp 10) 1, type := 0, pos := "law.go:103", after := #[{ on := 2, ground := Ground.guard }], guard := some (2, true) }) (v := ?v4) rfl (by kernel_rfl) (by kernel_rfl) (by kernel_rfl) (fun _ _ _ h => h) (Or.inl ⟨by rfl, ?y4⟩) R ?r4
  case y4 => (intro ww hS; clear hS; go_simp; try with_reducible rfl)
  try simp only [Act.put, List.setIfInBounds_toArray, List.set_cons_zero, List.set_cons_succ]
  refine wpAnyH_take (i := 4) (oi := { dst := some 56, op := Op.load 27 (Operand.tmp 55), type := 27, pos := "law.go:103", after := #[{ on := 3, ground := Ground.data }, { on := 2, ground := Ground.guard }], guard := some (2, true) }) (v := .int .u8 x1) rfl (by kernel_rfl) (by kernel_rfl) (by kernel_rfl) (fun _ _ _ h => h) (Or.inl ⟨by rfl, ?y5⟩) R ?r5
  case y5 => (intro ww hS; have qy1 := dcarry_cell hS y1; clear hS; go_simp; try with_reducible rfl)
  try simp only [Act.put, List.setIfInBounds_toArray, List.set_cons_zero, List.set_cons_succ]
  refine wpAnyH_take (i := 5) (oi := { dst := some 57, op := Op.fieldAddr 29 (Operand.tmp 5) 1, type := 0, pos := "law.go:103", after := #[{ on := 2, ground := Ground.guard }], guard := some (2, true) }) (v := ?v6) rfl (by kernel_rfl) (by kernel_rfl) (by kernel_rfl) (fun _ _ _ h => h) (Or.inl ⟨by rfl, ?y6⟩) R ?r6
  case y6 => (intro ww hS; clear hS; go_simp; try with_reducible rfl)
  try simp only [Act.put, List.setIfInBounds_toArray, List.set_cons_zero, List.set_cons_succ]
  refine wpAnyH_take (i := 6) (oi := { dst := some 58, op := Op.load 27 (Operand.tmp 57), type := 27, pos := "law.go:103", after := #[{ on := 5, ground := Ground.data }, { on := 2, ground := Ground.guard }], guard := some (2, true) }) (v := .int .u8 x1) rfl (by kernel_rfl) (by kernel_rfl) (by kernel_rfl) (fun _ _ _ h => h) (Or.inl ⟨by rfl, ?y7⟩) R ?r7
  case y7 => (intro ww hS; have qp1 := dcarry_cell hS p1; clear hS; go_simp; try with_reducible rfl)
  try simp only [Act.put, List.setIfInBounds_toArray, List.set_cons_zero, List.set_cons_succ]
  refine wpAnyH_take (i := 7) (oi := { dst := some 59, op := Op.binOp BinOp.eql 27 (Operand.tmp 56) (Operand.tmp 58) 27, type := 4, pos := "law.go:103", after := #[{ on := 4, ground := Ground.data }, { on := 6, ground := Ground.data }, { on := 2, ground := Ground.guard }], guard := some (2, true) }) (v := .bool true) rfl (by kernel_rfl) (by kernel_rfl) (by kernel_rfl) (fun _ _ _ h => h) (Or.inl ⟨by rfl, ?y8⟩) R ?r8
  case y8 => (intro ww hS; clear hS; go_simp; try with_reducible rfl)
  try simp only [Act.put, List.setIfInBounds_toArray, List.set_cons_zero, List.set_cons_succ]
  refine wpAnyH_take (i := 8) (oi := { dst := some 60, op := Op.pick (Operand.tmp 54) (Operand.tmp 59) (Operand.const (Value.bool false)), type := 4, pos := "law.go:103", after := #[{ on := 2, ground := Ground.data }, { on := 7, ground := Ground.data }], guard := none }) (v := .bool true) rfl (by kernel_rfl) (by kernel_rfl) (by kernel_rfl) (fun _ _ _ h => h) (Or.inl ⟨by rfl, ?y9⟩) R ?r9
  case y9 => (intro ww hS; clear hS; go_simp; try with_reducible rfl)
  try simp only [Act.put, List.setIfInBounds_toArray, List.set_cons_zero, List.set_cons_succ]
  refine wpAnyH_take (i := 9) (oi := { dst := some 61, op := Op.move (Operand.tmp 60), type := 4, pos := "law.go:103", after := #[{ on := 8, ground := Ground.data }, { on := 2, ground := Ground.chain }], guard := none }) (v := .bool true) rfl (by kernel_rfl) (by kernel_rfl) (by kernel_rfl) (fun _ _ _ h => h) (Or.inl ⟨by rfl, ?y10⟩) R ?r10
  case y10 => (intro ww hS; clear hS; go_simp; try with_reducible rfl)
  try simp only [Act.put, List.setIfInBounds_toArray, List.set_cons_zero, List.set_cons_succ]
  refine wpAnyH_take (i := 10) (oi := { dst := some 62, op := Op.load 25 (Operand.tmp 2), type := 25, pos := "law.go:103", after := #[{ on := 9, ground := Ground.guard }], guard := some (9, true) }) (v := dyV s a len cap e) rfl (by kernel_rfl) (by kernel_rfl) (by kernel_rfl) (fun _ _ _ h => h) (Or.inl ⟨by rfl, ?y11⟩) R ?r11
  case y11 => (intro ww hS; have qc0 := dcarry_cell hS c0; have qc1 := dcarry_cell hS c1; have qc2 := dcarry_cell hS c2; clear hS; go_simp; try with_reducible rfl)
  try simp only [Act.put, List.setIfInBounds_toArray, List.set_cons_zero, List.set_cons_succ]
  refine wpAnyH_ready (rs := [11]) (by kernel_rfl) (by simp) ?_
  refine AllReadyH.cons rfl (fun K hK => ?_) AllReadyH.nil
  go_simp
  refine Calls.mono (HZ.out _ (IsW.keep hI R)) ?_
  rintro r wz ⟨rfl, bN⟩
  replace R := nbelow_trans R bN
  clear bN
  refine hK.out _ _ R (fun _ => ?_)
  clear hK K
  try simp only [Act.put, List.setIfInBounds_toArray, List.set_cons_zero, List.set_cons_succ]
  refine wpAnyH_take (i := 12) (oi := { dst := some 64, op := Op.move (Operand.tmp 63), type := 4, pos := "law.go:103", after := #[{ on := 11, ground := Ground.data }, { on := 11, ground := Ground.chain }, { on := 9, ground := Ground.guard }], guard := some (9, true) }) (v := .bool false) rfl (by kernel_rfl) (by kernel_rfl) (by kernel_rfl) (fun _ _ _ h => h) (Or.inl ⟨by rfl, ?y12⟩) R ?r12
  case y12 => (intro ww hS; clear hS; go_simp; try with_reducible rfl)
  try simp only [Act.put, List.setIfInBounds_toArray, List.set_cons_zero, List.set_cons_succ]
  refine wpAnyH_take (i := 13) (oi := { dst := some 65, op := Op.fieldAddr 29 (Operand.tmp 10) 0, type := 0, pos := "law.go:103", after := #[{ on := 12, ground := Ground.guard }], guard := some (12, true) }) (v := undef) rfl (by kernel_rfl) (by kernel_rfl) (by kernel_rfl) (fun _ _ _ h => h) (Or.inr ⟨by rfl, rfl⟩) R ?r13
  try simp only [Act.put, List.setIfInBounds_toArray, List.set_cons_zero, List.set_cons_succ]
  refine wpAnyH_take (i := 14) (oi := { dst := some 66, op := Op.load 26 (Operand.tmp 65), type := 26, pos := "law.go:103", after := #[{ on := 13, ground := Ground.data }, { on := 12, ground := Ground.guard }], guard := some (12, true) }) (v := undef) rfl (by kernel_rfl) (by kernel_rfl) (by kernel_rfl) (fun _ _ _ h => h) (Or.inr ⟨by rfl, rfl⟩) R ?r14
  try simp only [Act.put, List.setIfInBounds_toArray, List.set_cons_zero, List.set_cons_succ]
  refine wpAnyH_take (i := 15) (oi := { dst := some 67, op := Op.binOp BinOp.eql 26 (Operand.tmp 66) (Operand.const (Value.int IntKind.u64 0)) 26, type := 4, pos := "law.go:103", after := #[{ on := 14, ground := Ground.data }, { on := 12, ground := Ground.guard }], guard := some (12, true) }) (v := undef) rfl (by kernel_rfl) (by kernel_rfl) (by kernel_rfl) (fun _ _ _ h => h) (Or.inr ⟨by rfl, rfl⟩) R ?r15
  try simp only [Act.put, List.setIfInBounds_toArray, List.set_cons_zero, List.set_cons_succ]
  refine wpAnyH_take (i := 16) (oi := { dst := some 68, op := Op.pick (Operand.tmp 64) (Operand.tmp 67) (Operand.const (Value.bool false)), type := 4, pos := "law.go:103", after := #[{ on := 12, ground := Ground.data }, { on := 15, ground := Ground.data }, { on := 9, ground := Ground.guard }], guard := some (9, true) }) (v := .bool false) rfl (by kernel_rfl) (by kernel_rfl) (by kernel_rfl) (fun _ _ _ h => h) (Or.inl ⟨by rfl, ?y16⟩) R ?r16
  case y16 => (intro ww hS; clear hS; go_simp; try with_reducible rfl)
  try simp only [Act.put, List.setIfInBounds_toArray, List.set_cons_zero, List.set_cons_succ]
  refine wpAnyH_take (i := 17) (oi := { dst := some 69, op := Op.move (Operand.tmp 68), type := 4, pos := "law.go:103", after := #[{ on := 16, ground := Ground.data }, { on := 12, ground := Ground.chain }, { on := 9, ground := Ground.guard }], guard := some (9, true) }) (v := .bool false) rfl (by kernel_rfl) (by kernel_rfl) (by kernel_rfl) (fun _ _ _ h => h) (Or.inl ⟨by rfl, ?y17⟩) R ?r17
  case y17 => (intro ww hS; clear hS; go_simp; try with_reducible rfl)
  try simp only [Act.put, List.setIfInBounds_toArray, List.set_cons_zero, List.set_cons_succ]
  refine wpAnyH_take (i := 18) (oi := { dst := some 70, op := Op.fieldAddr 29 (Operand.tmp 10) 0, type := 0, pos := "law.go:103", after := #[{ on := 17, ground := Ground.guard }], guard := some (17, false) }) (v := ?v18) rfl (by kernel_rfl) (by kernel_rfl) (by kernel_rfl) (fun _ _ _ h => h) (Or.inl ⟨by rfl, ?y18⟩) R ?r18
  case y18 => (intro ww hS; clear hS; go_simp; try with_reducible rfl)
  try simp only [Act.put, List.setIfInBounds_toArray, List.set_cons_zero, List.set_cons_succ]
  refine wpAnyH_take (i := 19) (oi := { dst := some 71, op := Op.load 26 (Operand.tmp 70), type := 26, pos := "law.go:103", after := #[{ on := 18, ground := Ground.data }, { on := 17, ground := Ground.guard }], guard := some (17, false) }) (v := .int .u64 m1) rfl (by kernel_rfl) (by kernel_rfl) (by kernel_rfl) (fun _ _ _ h => h) (Or.inl ⟨by rfl, ?y19⟩) R ?r19
  case y19 => (intro ww hS; have qy0 := dcarry_cell hS y0; clear hS; go_simp; try with_reducible rfl)
  try simp only [Act.put, List.setIfInBounds_toArray, List.set_cons_zero, List.set_cons_succ]
  refine wpAnyH_take (i := 20) (oi := { dst := some 72, op := Op.fieldAddr 29 (Operand.tmp 5) 0, type := 0, pos := "law.go:103", after := #[{ on := 17, ground := Ground.guard }], guard := some (17, false) }) (v := ?v20) rfl (by kernel_rfl) (by kernel_rfl) (by kernel_rfl) (fun _ _ _ h => h) (Or.inl ⟨by rfl, ?y20⟩) R ?r20
  case y20 => (intro ww hS; clear hS; go_simp; try with_reducible rfl)
  try simp only [Act.put, List.setIfInBounds_toArray, List.set_cons_zero, List.set_cons_succ]
  refine wpAnyH_take (i := 21) (oi := { dst := some 73, op := Op.load 26 (Operand.tmp 72), type := 26, pos := "law.go:103", after := #[{ on := 20, ground := Ground.data }, { on := 17, ground := Ground.guard }], guard := some (17, false) }) (v := .int .u64 n1) rfl (by kernel_rfl) (by kernel_rfl) (by kernel_rfl) (fun _ _ _ h => h) (Or.inl ⟨by rfl, ?y21⟩) R ?r21
  case y21 => (intro ww hS; have qp0 := dcarry_cell hS p0; clear hS; go_simp; try with_reducible rfl)
  try simp only [Act.put, List.setIfInBounds_toArray, List.set_cons_zero, List.set_cons_succ]
  refine wpAnyH_ready (rs := [22]) (by kernel_rfl) (by simp) ?_
  refine AllReadyH.cons rfl (fun K hK => ?_) AllReadyH.nil
  go_simp
  refine Calls.mono (HM.out _) ?_
  rintro r wm ⟨rfl, rfl⟩
  refine hK.out _ _ R (fun _ => ?_)
  clear hK K
  try simp only [Act.put, List.setIfInBounds_toArray, List.set_cons_zero, List.set_cons_succ]
  refine wpAnyH_take (i := 23) (oi := { dst := some 75, op := Op.binOp BinOp.eql 26 (Operand.tmp 71) (Operand.tmp 74) 26, type := 4, pos := "law.go:103", after := #[{ on := 19, ground := Ground.data }, { on := 22, ground := Ground.data }, { on := 17, ground := Ground.guard }], guard := some (17, false) }) (v := .bool true) rfl (by kernel_rfl) (by kernel_rfl) (by kernel_rfl) (fun _ _ _ h => h) (Or.inl ⟨by rfl, ?y22⟩) R ?r22
  case y22 => (intro ww hS; clear hS; go_simp; try with_reducible rfl)
  try simp only [Act.put, List.setIfInBounds_toArray, List.set_cons_zero, List.set_cons_succ]
  refine wpAnyH_take (i := 24) (oi := { dst := some 76, op := Op.pick (Operand.tmp 69) (Operand.const (Value.bool true)) (Operand.tmp 75), type := 4, pos := "law.go:103", after := #[{ on := 17, ground := Ground.data }, { on := 23, ground := Ground.data }, { on := 9, ground := Ground.guard }], guard := some (9, true) }) (v := .bool true) rfl (by kernel_rfl) (by kernel_rfl) (by kernel_rfl) (fun _ _ _ h => h) (Or.inl ⟨by rfl, ?y23⟩) R ?r23
  case y23 => (intro ww hS; clear hS; go_simp; try with_reducible rfl)
  try simp only [Act.put, List.setIfInBounds_toArray, List.set_cons_zero, List.set_cons_succ]
  refine wpAnyH_take (i := 25) (oi := { dst := some 77, op := Op.pick (Operand.tmp 61) (Operand.tmp 76) (Operand.const (Value.bool false)), type := 4, pos := "law.go:103", after := #[{ on := 9, ground := Ground.data }, { on := 24, ground := Ground.data }], guard := none }) (v := .bool true) rfl (by kernel_rfl) (by kernel_rfl) (by kernel_rfl) (fun _ _ _ h => h) (Or.inl ⟨by rfl, ?y24⟩) R ?r24
  case y24 => (intro ww hS; clear hS; go_simp; try with_reducible rfl)
  try simp only [Act.put, List.setIfInBounds_toArray, List.set_cons_zero, List.set_cons_succ]
  refine wpAnyH_ready (rs := [26]) (by kernel_rfl) (by simp) ?_
  refine AllReadyH.cons rfl (fun K hK => ?_) AllReadyH.nil
  go_simp
  refine hK.out _ _ R (fun _ => ?_)
  clear hK K
  try simp only [Act.put, List.setIfInBounds_toArray, List.set_cons_zero, List.set_cons_succ]
  refine wpAnyH_done (by kernel_rfl) ?_ _
  replace bA := nbelow_trans bA R
  clear R
  go_wp2_with fail
  go_ret
  exact ⟨rfl, bA⟩

set_option maxRecDepth 100000 in
set_option maxHeartbeats 4000000 in
theorem ri_000 (s : Bool) (a : Option Addr) (len cap : Nat) (xs : List Int) (e : Int) (s' : Bool) (a' : Option Addr) (len' cap' : Nat) (ys : List Int) (e' : Int) (w : World) (h : IsW w a len cap xs) (hm : len ≤ 17592186044000) (h' : IsW w a' len' cap' ys) (hm' : len' ≤ 17592186044000) (hT : Tab w) (ra : rightB (val xs) e = true) (rb : rightB (val ys) e' = true) (hc : ¬ cmpD (formD s (val xs) e) (formD s' (val ys) e') ≤ 0) (hn : canE s (val xs) e ≠ 0) :
    Calls Tryd.prog 5 #[dyV s a len cap e, dyV s' a' len' cap' e'] w fun r w' => r = .returned (.bool true) ∧ Below w.heap.size w w' := by
  have H1 : Hid _ := fun w' (g : IsW w' a len cap xs) t' => pNear_calls s a len cap xs e w' g hm t'
  have H2 : Hid _ := fun w' (g : IsW w' a' len' cap' ys) t' => pNear_calls s' a' len' cap' ys e' w' g hm' t'
  have e1 : erR (val xs) e = 0 := by unfold erR; rw [ra]; rfl
  have e2 : erR (val ys) e' = 0 := by unfold erR; rw [rb]; rfl
  rw [e1] at H1
  rw [e2] at H2
  obtain ⟨ga, ha⟩ := rightB_yes ra
  obtain ⟨gb, hb⟩ := rightB_yes rb
  have la := (great_not _).1 ga
  have lb := (great_not _).1 gb
  have HO : Hid _ := fun w' (g : IsW w' a len cap xs) (g' : IsW w' a' len' cap' ys) => qOrder_calls s a len cap xs e s' a' len' cap' ys e' w' g hm g' hm' (by omega) (by omega) (by omega) (by omega)
  have b1 : nbR s (val xs) e = nearB s (val xs) e := by unfold nbR; rw [if_pos ra]
  have b2 : nbR s' (val ys) e' = nearB s' (val ys) e' := by unfold nbR; rw [if_pos rb]
  have u1 : U (nbR s (val xs) e) := by rw [b1]; exact nearB_U _ _ _
  have u2 : U (nbR s' (val ys) e') := by rw [b2]; exact nearB_U _ _ _
  have HN : Hid _ := fun w' (g : IsW w' a len cap xs) t' => pNeg_calls s a len cap xs e w' g (by omega) t'
  generalize canE s (val xs) e = cE at *
  clear b1 b2 u1 u2 e1 e2 ga ha gb hb la lb ra rb
  generalize nbR s (val xs) e = n1 at *
  generalize flR s (val xs) e = x1 at *
  generalize nbR s' (val ys) e' = n2 at *
  generalize flR s' (val ys) e' = x2 at *
  generalize cmpD (formD s (val xs) e) (formD s' (val ys) e') = cc at *
  generalize ngP s (val xs) e = P at *
  have bA : Below w.heap.size w ((w.alloc (.cells #[.bool s, .slice a len cap, .int .i64 e] 25)).alloc (.cells #[.bool s', .slice a' len' cap', .int .i64 e'] 25)) := nbelow_trans (below_one _ _) (below_one _ _)
  have hI := h.keep bA
  have hJ := h'.keep bA
  have hT0 := hT.kept bA
  have c0 : ((w.alloc (.cells #[.bool s, .slice a len cap, .int .i64 e] 25)).alloc (.cells #[.bool s', .slice a' len' cap', .int .i64 e'] 25)).cell? ⟨w.heap.size, 0, none⟩ = some (.bool s) := by go_simp
  have c1 : ((w.alloc (.cells #[.bool s, .slice a len cap, .int .i64 e] 25)).alloc (.cells #[.bool s', .slice a' len' cap', .int .i64 e'] 25)).cell? ⟨w.heap.size, 1, none⟩ = some (.slice a len cap) := by go_simp
  have c2 : ((w.alloc (.cells #[.bool s, .slice a len cap, .int .i64 e] 25)).alloc (.cells #[.bool s', .slice a' len' cap', .int .i64 e'] 25)).cell? ⟨w.heap.size, 2, none⟩ = some (.int .i64 e) := by go_simp
  have d0 : ((w.alloc (.cells #[.bool s, .slice a len cap, .int .i64 e] 25)).alloc (.cells #[.bool s', .slice a' len' cap', .int .i64 e'] 25)).cell? ⟨w.heap.size + 1, 0, none⟩ = some (.bool s') := by go_simp
  have d1 : ((w.alloc (.cells #[.bool s, .slice a len cap, .int .i64 e] 25)).alloc (.cells #[.bool s', .slice a' len' cap', .int .i64 e'] 25)).cell? ⟨w.heap.size + 1, 1, none⟩ = some (.slice a' len' cap') := by go_simp
  have d2 : ((w.alloc (.cells #[.bool s, .slice a len cap, .int .i64 e] 25)).alloc (.cells #[.bool s', .slice a' len' cap', .int .i64 e'] 25)).cell? ⟨w.heap.size + 1, 2, none⟩ = some (.int .i64 e') := by go_simp
  clear h h' hT
  go_enter Tryd.func5, Tryd.ntmps5
  go_wp2_with fail
  generalize ((w.alloc (.cells #[.bool s, .slice a len cap, .int .i64 e] 25)).alloc (.cells #[.bool s', .slice a' len' cap', .int .i64 e'] 25)) = w1 at *
  refine Calls.mono (rLives_calls _ hT0) ?_
  rintro r w2 ⟨rfl, bN⟩
  replace c0 := dcarry_cell bN c0
  replace c1 := dcarry_cell bN c1
  replace c2 := dcarry_cell bN c2
  replace d0 := dcarry_cell bN d0
  replace d1 := dcarry_cell bN d1
  replace d2 := dcarry_cell bN d2
  replace hI := IsW.keep hI bN
  replace hJ := IsW.keep hJ bN
  replace hT0 := hT0.kept bN
  replace bA := nbelow_trans bA bN
  clear bN
  go_wp2_with fail
  refine Calls.mono (H1.out _ hI hT0) ?_
  rintro r w3 ⟨rfl, bN⟩
  replace c0 := dcarry_cell bN c0
  replace c1 := dcarry_cell bN c1
  replace c2 := dcarry_cell bN c2
  replace d0 := dcarry_cell bN d0
  replace d1 := dcarry_cell bN d1
  replace d2 := dcarry_cell bN d2
  replace hI := IsW.keep hI bN
  replace hJ := IsW.keep hJ bN
  replace hT0 := hT0.kept bN
  replace bA := nbelow_trans bA bN
  clear bN
  have bB := below_one w3 (.cells #[.int .u64 n1, .int .u8 x1] 29)
  have p0 : (w3.alloc (.cells #[.int .u64 n1, .int .u8 x1] 29)).cell? ⟨w3.heap.size, 0, none⟩ = some (.int .u64 n1) := by go_simp
  have p1 : (w3.alloc (.cells #[.int .u64 n1, .int .u8 x1] 29)).cell? ⟨w3.heap.size, 1, none⟩ = some (.int .u8 x1) := by go_simp
  replace c0 := dcarry_cell bB c0
  replace c1 := dcarry_cell bB c1
  replace c2 := dcarry_cell bB c2
  replace d0 := dcarry_cell bB d0
  replace d1 := dcarry_cell bB d1
  replace d2 := dcarry_cell bB d2
  replace hI := IsW.keep hI bB
  replace hJ := IsW.keep hJ bB
  replace hT0 := hT0.kept bB
  replace bA := nbelow_trans bA bB
  clear bB
  go_wp2_with fail
  generalize (w3.alloc (.cells #[.int .u64 n1, .int .u8 x1] 29)) = w4 at *
  refine Calls.mono (H2.out _ hJ hT0) ?_
  rintro r w5 ⟨rfl, bN⟩
  replace c0 := dcarry_cell bN c0
  replace c1 := dcarry_cell bN c1
  replace c2 := dcarry_cell bN c2
  replace d0 := dcarry_cell bN d0
  replace d1 := dcarry_cell bN d1
  replace d2 := dcarry_cell bN d2
  replace p0 := dcarry_cell bN p0
  replace p1 := dcarry_cell bN p1
  replace hI := IsW.keep hI bN
  replace hJ := IsW.keep hJ bN
  replace hT0 := hT0.kept bN
  replace bA := nbelow_trans bA bN
  clear bN
  have bB := below_one w5 (.cells #[.int .u64 n2, .int .u8 x2] 29)
  have q0 : (w5.alloc (.cells #[.int .u64 n2, .int .u8 x2] 29)).cell? ⟨w5.heap.size, 0, none⟩ = some (.int .u64 n2) := by go_simp
  have q1 : (w5.alloc (.cells #[.int .u64 n2, .int .u8 x2] 29)).cell? ⟨w5.heap.size, 1, none⟩ = some (.int .u8 x2) := by go_simp
  replace c0 := dcarry_cell bB c0
  replace c1 := dcarry_cell bB c1
  replace c2 := dcarry_cell bB c2
  replace d0 := dcarry_cell bB d0
  replace d1 := dcarry_cell bB d1
  replace d2 := dcarry_cell bB d2
  replace p0 := dcarry_cell bB p0
  replace p1 := dcarry_cell bB p1
  replace hI := IsW.keep hI bB
  replace hJ := IsW.keep hJ bB
  replace hT0 := hT0.kept bB
  replace bA := nbelow_trans bA bB
  clear bB
  go_wp2_with fail
  generalize (w5.alloc (.cells #[.int .u64 n2, .int .u8 x2] 29)) = w6 at *
  refine Calls.mono (HO.out _ hI hJ) ?_
  rintro r w7 ⟨rfl, bN⟩
  replace c0 := dcarry_cell bN c0
  replace c1 := dcarry_cell bN c1
  replace c2 := dcarry_cell bN c2
  replace d0 := dcarry_cell bN d0
  replace d1 := dcarry_cell bN d1
  replace d2 := dcarry_cell bN d2
  replace p0 := dcarry_cell bN p0
  replace p1 := dcarry_cell bN p1
  replace q0 := dcarry_cell bN q0
  replace q1 := dcarry_cell bN q1
  replace hI := IsW.keep hI bN
  replace hJ := IsW.keep hJ bN
  replace hT0 := hT0.kept bN
  replace bA := nbelow_trans bA bN
  clear bN
  go_wp2_with fail
  refine Calls.mono (HN.out _ hI hT0) ?_
  rintro r w8 ⟨v, rfl, ⟨ao, no, co, rfl, hno, hle, hOw⟩, bN⟩
  have HNo : Hid _ := hno
  have hO0 := hOw.1
  clear hno hOw
  replace c0 := dcarry_cell bN c0
  replace c1 := dcarry_cell bN c1
  replace c2 := dcarry_cell bN c2
  replace d0 := dcarry_cell bN d0
  replace d1 := dcarry_cell bN d1
  replace d2 := dcarry_cell bN d2
  replace p0 := dcarry_cell bN p0
  replace p1 := dcarry_cell bN p1
  replace q0 := dcarry_cell bN q0
  replace q1 := dcarry_cell bN q1
  replace hI := IsW.keep hI bN
  replace hJ := IsW.keep hJ bN
  replace hT0 := hT0.kept bN
  replace bA := nbelow_trans bA bN
  clear bN
  go_wp2_with fail
  go_ret
  exact ⟨rfl, by repeat (first | exact bA | refine nbelow_trans ?_ (below_one _ _))⟩

set_option maxRecDepth 100000 in
set_option maxHeartbeats 4000000 in
theorem ri_011 (s : Bool) (a : Option Addr) (len cap : Nat) (xs : List Int) (e : Int) (s' : Bool) (a' : Option Addr) (len' cap' : Nat) (ys : List Int) (e' : Int) (w : World) (h : IsW w a len cap xs) (hm : len ≤ 17592186044000) (h' : IsW w a' len' cap' ys) (hm' : len' ≤ 17592186044000) (hT : Tab w) (ra : rightB (val xs) e = true) (rb : rightB (val ys) e' = true) (hc : ¬ cmpD (formD s (val xs) e) (formD s' (val ys) e') ≤ 0) (hn : canE s (val xs) e = 0) (hz : val xs = 0) :
    Calls Tryd.prog 5 #[dyV s a len cap e, dyV s' a' len' cap' e'] w fun r w' => r = .returned (.bool true) ∧ Below w.heap.size w w' := by
  have H1 : Hid _ := fun w' (g : IsW w' a len cap xs) t' => pNear_calls s a len cap xs e w' g hm t'
  have H2 : Hid _ := fun w' (g : IsW w' a' len' cap' ys) t' => pNear_calls s' a' len' cap' ys e' w' g hm' t'
  have e1 : erR (val xs) e = 0 := by unfold erR; rw [ra]; rfl
  have e2 : erR (val ys) e' = 0 := by unfold erR; rw [rb]; rfl
  rw [e1] at H1
  rw [e2] at H2
  obtain ⟨ga, ha⟩ := rightB_yes ra
  obtain ⟨gb, hb⟩ := rightB_yes rb
  have la := (great_not _).1 ga
  have lb := (great_not _).1 gb
  have HO : Hid _ := fun w' (g : IsW w' a len cap xs) (g' : IsW w' a' len' cap' ys) => qOrder_calls s a len cap xs e s' a' len' cap' ys e' w' g hm g' hm' (by omega) (by omega) (by omega) (by omega)
  have b1 : nbR s (val xs) e = nearB s (val xs) e := by unfold nbR; rw [if_pos ra]
  have b2 : nbR s' (val ys) e' = nearB s' (val ys) e' := by unfold nbR; rw [if_pos rb]
  have u1 : U (nbR s (val xs) e) := by rw [b1]; exact nearB_U _ _ _
  have u2 : U (nbR s' (val ys) e') := by rw [b2]; exact nearB_U _ _ _
  have HN : Hid _ := fun w' (g : IsW w' a len cap xs) t' => pNeg_calls s a len cap xs e w' g (by omega) t'
  rw [hn] at HN
  obtain ⟨t1, t2, t3, t4⟩ := near_turn s (val xs) e ra hn
  have H3 : Hid _ := fun (ao : Option Addr) (n c : Nat) w' (g : IsW w' ao n c (wordsOf (ngP s (val xs) e).2.1)) hn t' => pNear_calls (ngP s (val xs) e).1 ao n c (wordsOf (ngP s (val xs) e).2.1) (ngP s (val xs) e).2.2 w' g hn t'
  rw [val_words, t1, t2] at H3
  have HZ : Hid _ := fun w' (g : IsW w' a len cap xs) => qZero_calls s a len cap xs e w' g (by omega)
  have HM : Hid _ := fun w' => neg_calls (nbR s (val xs) e) w' u1
  rw [decide_eq_true hz] at HZ
  rw [t3 hz] at H3
  clear b1 b2 u1 u2 e1 e2 ga ha gb hb la lb ra rb t1 t2 t3 t4 hz hn
  generalize nbR s (val xs) e = n1 at *
  generalize flR s (val xs) e = x1 at *
  generalize nbR s' (val ys) e' = n2 at *
  generalize flR s' (val ys) e' = x2 at *
  generalize cmpD (formD s (val xs) e) (formD s' (val ys) e') = cc at *
  generalize ngP s (val xs) e = P at *
  have bA : Below w.heap.size w ((w.alloc (.cells #[.bool s, .slice a len cap, .int .i64 e] 25)).alloc (.cells #[.bool s', .slice a' len' cap', .int .i64 e'] 25)) := nbelow_trans (below_one _ _) (below_one _ _)
  have hI := h.keep bA
  have hJ := h'.keep bA
  have hT0 := hT.kept bA
  have c0 : ((w.alloc (.cells #[.bool s, .slice a len cap, .int .i64 e] 25)).alloc (.cells #[.bool s', .slice a' len' cap', .int .i64 e'] 25)).cell? ⟨w.heap.size, 0, none⟩ = some (.bool s) := by go_simp
  have c1 : ((w.alloc (.cells #[.bool s, .slice a len cap, .int .i64 e] 25)).alloc (.cells #[.bool s', .slice a' len' cap', .int .i64 e'] 25)).cell? ⟨w.heap.size, 1, none⟩ = some (.slice a len cap) := by go_simp
  have c2 : ((w.alloc (.cells #[.bool s, .slice a len cap, .int .i64 e] 25)).alloc (.cells #[.bool s', .slice a' len' cap', .int .i64 e'] 25)).cell? ⟨w.heap.size, 2, none⟩ = some (.int .i64 e) := by go_simp
  have d0 : ((w.alloc (.cells #[.bool s, .slice a len cap, .int .i64 e] 25)).alloc (.cells #[.bool s', .slice a' len' cap', .int .i64 e'] 25)).cell? ⟨w.heap.size + 1, 0, none⟩ = some (.bool s') := by go_simp
  have d1 : ((w.alloc (.cells #[.bool s, .slice a len cap, .int .i64 e] 25)).alloc (.cells #[.bool s', .slice a' len' cap', .int .i64 e'] 25)).cell? ⟨w.heap.size + 1, 1, none⟩ = some (.slice a' len' cap') := by go_simp
  have d2 : ((w.alloc (.cells #[.bool s, .slice a len cap, .int .i64 e] 25)).alloc (.cells #[.bool s', .slice a' len' cap', .int .i64 e'] 25)).cell? ⟨w.heap.size + 1, 2, none⟩ = some (.int .i64 e') := by go_simp
  clear h h' hT
  go_enter Tryd.func5, Tryd.ntmps5
  go_wp2_with fail
  generalize ((w.alloc (.cells #[.bool s, .slice a len cap, .int .i64 e] 25)).alloc (.cells #[.bool s', .slice a' len' cap', .int .i64 e'] 25)) = w1 at *
  refine Calls.mono (rLives_calls _ hT0) ?_
  rintro r w2 ⟨rfl, bN⟩
  replace c0 := dcarry_cell bN c0
  replace c1 := dcarry_cell bN c1
  replace c2 := dcarry_cell bN c2
  replace d0 := dcarry_cell bN d0
  replace d1 := dcarry_cell bN d1
  replace d2 := dcarry_cell bN d2
  replace hI := IsW.keep hI bN
  replace hJ := IsW.keep hJ bN
  replace hT0 := hT0.kept bN
  replace bA := nbelow_trans bA bN
  clear bN
  go_wp2_with fail
  refine Calls.mono (H1.out _ hI hT0) ?_
  rintro r w3 ⟨rfl, bN⟩
  replace c0 := dcarry_cell bN c0
  replace c1 := dcarry_cell bN c1
  replace c2 := dcarry_cell bN c2
  replace d0 := dcarry_cell bN d0
  replace d1 := dcarry_cell bN d1
  replace d2 := dcarry_cell bN d2
  replace hI := IsW.keep hI bN
  replace hJ := IsW.keep hJ bN
  replace hT0 := hT0.kept bN
  replace bA := nbelow_trans bA bN
  clear bN
  have bB := below_one w3 (.cells #[.int .u64 n1, .int .u8 x1] 29)
  have p0 : (w3.alloc (.cells #[.int .u64 n1, .int .u8 x1] 29)).cell? ⟨w3.heap.size, 0, none⟩ = some (.int .u64 n1) := by go_simp
  have p1 : (w3.alloc (.cells #[.int .u64 n1, .int .u8 x1] 29)).cell? ⟨w3.heap.size, 1, none⟩ = some (.int .u8 x1) := by go_simp
  replace c0 := dcarry_cell bB c0
  replace c1 := dcarry_cell bB c1
  replace c2 := dcarry_cell bB c2
  replace d0 := dcarry_cell bB d0
  replace d1 := dcarry_cell bB d1
  replace d2 := dcarry_cell bB d2
  replace hI := IsW.keep hI bB
  replace hJ := IsW.keep hJ bB
  replace hT0 := hT0.kept bB
  replace bA := nbelow_trans bA bB
  clear bB
  go_wp2_with fail
  generalize (w3.alloc (.cells #[.int .u64 n1, .int .u8 x1] 29)) = w4 at *
  refine Calls.mono (H2.out _ hJ hT0) ?_
  rintro r w5 ⟨rfl, bN⟩
  replace c0 := dcarry_cell bN c0
  replace c1 := dcarry_cell bN c1
  replace c2 := dcarry_cell bN c2
  replace d0 := dcarry_cell bN d0
  replace d1 := dcarry_cell bN d1
  replace d2 := dcarry_cell bN d2
  replace p0 := dcarry_cell bN p0
  replace p1 := dcarry_cell bN p1
  replace hI := IsW.keep hI bN
  replace hJ := IsW.keep hJ bN
  replace hT0 := hT0.kept bN
  replace bA := nbelow_trans bA bN
  clear bN
  have bB := below_one w5 (.cells #[.int .u64 n2, .int .u8 x2] 29)
  have q0 : (w5.alloc (.cells #[.int .u64 n2, .int .u8 x2] 29)).cell? ⟨w5.heap.size, 0, none⟩ = some (.int .u64 n2) := by go_simp
  have q1 : (w5.alloc (.cells #[.int .u64 n2, .int .u8 x2] 29)).cell? ⟨w5.heap.size, 1, none⟩ = some (.int .u8 x2) := by go_simp
  replace c0 := dcarry_cell bB c0
  replace c1 := dcarry_cell bB c1
  replace c2 := dcarry_cell bB c2
  replace d0 := dcarry_cell bB d0
  replace d1 := dcarry_cell bB d1
  replace d2 := dcarry_cell bB d2
  replace p0 := dcarry_cell bB p0
  replace p1 := dcarry_cell bB p1
  replace hI := IsW.keep hI bB
  replace hJ := IsW.keep hJ bB
  replace hT0 := hT0.kept bB
  replace bA := nbelow_trans bA bB
  clear bB
  go_wp2_with fail
  generalize (w5.alloc (.cells #[.int .u64 n2, .int .u8 x2] 29)) = w6 at *
  refine Calls.mono (HO.out _ hI hJ) ?_
  rintro r w7 ⟨rfl, bN⟩
  replace c0 := dcarry_cell bN c0
  replace c1 := dcarry_cell bN c1
  replace c2 := dcarry_cell bN c2
  replace d0 := dcarry_cell bN d0
  replace d1 := dcarry_cell bN d1
  replace d2 := dcarry_cell bN d2
  replace p0 := dcarry_cell bN p0
  replace p1 := dcarry_cell bN p1
  replace q0 := dcarry_cell bN q0
  replace q1 := dcarry_cell bN q1
  replace hI := IsW.keep hI bN
  replace hJ := IsW.keep hJ bN
  replace hT0 := hT0.kept bN
  replace bA := nbelow_trans bA bN
  clear bN
  go_wp2_with fail
  refine Calls.mono (HN.out _ hI hT0) ?_
  rintro r w8 ⟨v, rfl, ⟨ao, no, co, rfl, hno, hle, hOw⟩, bN⟩
  have HNo : Hid _ := hno
  have hO0 := hOw.1
  clear hno hOw
  replace c0 := dcarry_cell bN c0
  replace c1 := dcarry_cell bN c1
  replace c2 := dcarry_cell bN c2
  replace d0 := dcarry_cell bN d0
  replace d1 := dcarry_cell bN d1
  replace d2 := dcarry_cell bN d2
  replace p0 := dcarry_cell bN p0
  replace p1 := dcarry_cell bN p1
  replace q0 := dcarry_cell bN q0
  replace q1 := dcarry_cell bN q1
  replace hI := IsW.keep hI bN
  replace hJ := IsW.keep hJ bN
  replace hT0 := hT0.kept bN
  replace bA := nbelow_trans bA bN
  clear bN
  have hO := hO0
  clear hO0
  have bB := below_one w8 (.cells #[.bool P.1, .slice ao no co, .int .i64 P.2.2] 25)
  have v0 : (w8.alloc (.cells #[.bool P.1, .slice ao no co, .int .i64 P.2.2] 25)).cell? ⟨w8.heap.size, 0, none⟩ = some (.bool P.1) := by go_simp
  have v1 : (w8.alloc (.cells #[.bool P.1, .slice ao no co, .int .i64 P.2.2] 25)).cell? ⟨w8.heap.size, 1, none⟩ = some (.slice ao no co) := by go_simp
  have v2 : (w8.alloc (.cells #[.bool P.1, .slice ao no co, .int .i64 P.2.2] 25)).cell? ⟨w8.heap.size, 2, none⟩ = some (.int .i64 P.2.2) := by go_simp
  replace c0 := dcarry_cell bB c0
  replace c1 := dcarry_cell bB c1
  replace c2 := dcarry_cell bB c2
  replace d0 := dcarry_cell bB d0
  replace d1 := dcarry_cell bB d1
  replace d2 := dcarry_cell bB d2
  replace p0 := dcarry_cell bB p0
  replace p1 := dcarry_cell bB p1
  replace q0 := dcarry_cell bB q0
  replace q1 := dcarry_cell bB q1
  replace hI := IsW.keep hI bB
  replace hJ := IsW.keep hJ bB
  replace hT0 := hT0.kept bB
  replace bA := nbelow_trans bA bB
  replace hO := IsW.keep hO bB
  clear bB
  go_wp2_with fail
  generalize (w8.alloc (.cells #[.bool P.1, .slice ao no co, .int .i64 P.2.2] 25)) = w9 at *
  refine Calls.mono (H3.out _ _ _ _ hO (by omega) hT0) ?_
  rintro r w10 ⟨rfl, bN⟩
  replace c0 := dcarry_cell bN c0
  replace c1 := dcarry_cell bN c1
  replace c2 := dcarry_cell bN c2
  replace d0 := dcarry_cell bN d0
  replace d1 := dcarry_cell bN d1
  replace d2 := dcarry_cell bN d2
  replace p0 := dcarry_cell bN p0
  replace p1 := dcarry_cell bN p1
  replace q0 := dcarry_cell bN q0
  replace q1 := dcarry_cell bN q1
  replace v0 := dcarry_cell bN v0
  replace v1 := dcarry_cell bN v1
  replace v2 := dcarry_cell bN v2
  replace hI := IsW.keep hI bN
  replace hJ := IsW.keep hJ bN
  replace hT0 := hT0.kept bN
  replace bA := nbelow_trans bA bN
  replace hO := IsW.keep hO bN
  clear bN
  have bB := below_one w10 (.cells #[.int .u64 0, .int .u8 x1] 29)
  have y0 : (w10.alloc (.cells #[.int .u64 0, .int .u8 x1] 29)).cell? ⟨w10.heap.size, 0, none⟩ = some (.int .u64 0) := by go_simp
  have y1 : (w10.alloc (.cells #[.int .u64 0, .int .u8 x1] 29)).cell? ⟨w10.heap.size, 1, none⟩ = some (.int .u8 x1) := by go_simp
  replace c0 := dcarry_cell bB c0
  replace c1 := dcarry_cell bB c1
  replace c2 := dcarry_cell bB c2
  replace d0 := dcarry_cell bB d0
  replace d1 := dcarry_cell bB d1
  replace d2 := dcarry_cell bB d2
  replace p0 := dcarry_cell bB p0
  replace p1 := dcarry_cell bB p1
  replace q0 := dcarry_cell bB q0
  replace q1 := dcarry_cell bB q1
  replace v0 := dcarry_cell bB v0
  replace v1 := dcarry_cell bB v1
  replace v2 := dcarry_cell bB v2
  replace hI := IsW.keep hI bB
  replace hJ := IsW.keep hJ bB
  replace hT0 := hT0.kept bB
  replace bA := nbelow_trans bA bB
  replace hO := IsW.keep hO bB
  clear bB
  go_upto_region 13 with fail
  generalize (w10.alloc (.cells #[.int .u64 0, .int .u8 x1] 29)) = w11 at *
  have R : Below w11.heap.size w11 (World.drew w11) := (Below.refl _ _).drew
  refine wp_region_held (S := fun w' => Below w11.heap.size w11 w') (by kernel_rfl) ?_
  change wpAnyH _ _ _ _ _ _ _ _ (World.drew w11)
  generalize World.drew w11 = wd at R ⊢
  refine wpAnyH_take (i := 0) (oi := { dst := some 52, op := Op.move (Operand.tmp 8), type := 30, pos := "law.go:103", after := #[], guard := none }) (v := .int .i64 0) rfl (by kernel_rfl) (by kernel_rfl) (by kernel_rfl) (fun _ _ _ h => h) (Or.inl ⟨by rfl, ?y1⟩) R ?r1
  case y1 => (intro ww hS; clear hS; go_simp; try with_reducible rfl)
  try simp only [Act.put, List.setIfInBounds_toArray, List.set_cons_zero, List.set_cons_succ]
  refine wpAnyH_take (i := 1) (oi := { dst := some 53, op := Op.binOp BinOp.eql 30 (Operand.tmp 52) (Operand.const (Value.int IntKind.i64 0)) 30, type := 4, pos := "law.go:103", after := #[{ on := 0, ground := Ground.data }], guard := none }) (v := .bool true) rfl (by kernel_rfl) (by kernel_rfl) (by kernel_rfl) (fun _ _ _ h => h) (Or.inl ⟨by rfl, ?y2⟩) R ?r2
  case y2 => (intro ww hS; clear hS; go_simp; try with_reducible rfl)
  try simp only [Act.put, List.setIfInBounds_toArray, List.set_cons_zero, List.set_cons_succ]
  refine wpAnyH_take (i := 2) (oi := { dst := some 54, op := Op.move (Operand.tmp 53), type := 4, pos := "law.go:103", after := #[{ on := 1, ground := Ground.data }], guard := none }) (v := .bool true) rfl (by kernel_rfl) (by kernel_rfl) (by kernel_rfl) (fun _ _ _ h => h) (Or.inl ⟨by rfl, ?y3⟩) R ?r3
  case y3 => (intro ww hS; clear hS; go_simp; try with_reducible rfl)
  try simp only [Act.put, List.setIfInBounds_toArray, List.set_cons_zero, List.set_cons_succ]
  refine wpAnyH_take (i := 3) (oi := { dst := some 55, op := Op.fieldAddr 29 (Operand.tmp 10) 1, type := 0, pos := "law.go:103", after := #[{ on := 2, ground := Ground.guard }], guard := some (2, true) }) (v := ?v4) rfl (by kernel_rfl) (by kernel_rfl) (by kernel_rfl) (fun _ _ _ h => h) (Or.inl ⟨by rfl, ?y4⟩) R ?r4
  case y4 => (intro ww hS; clear hS; go_simp; try with_reducible rfl)
  try simp only [Act.put, List.setIfInBounds_toArray, List.set_cons_zero, List.set_cons_succ]
  refine wpAnyH_take (i := 4) (oi := { dst := some 56, op := Op.load 27 (Operand.tmp 55), type := 27, pos := "law.go:103", after := #[{ on := 3, ground := Ground.data }, { on := 2, ground := Ground.guard }], guard := some (2, true) }) (v := .int .u8 x1) rfl (by kernel_rfl) (by kernel_rfl) (by kernel_rfl) (fun _ _ _ h => h) (Or.inl ⟨by rfl, ?y5⟩) R ?r5
  case y5 => (intro ww hS; have qy1 := dcarry_cell hS y1; clear hS; go_simp; try with_reducible rfl)
  try simp only [Act.put, List.setIfInBounds_toArray, List.set_cons_zero, List.set_cons_succ]
  refine wpAnyH_take (i := 5) (oi := { dst := some 57, op := Op.fieldAddr 29 (Operand.tmp 5) 1, type := 0, pos := "law.go:103", after := #[{ on := 2, ground := Ground.guard }], guard := some (2, true) }) (v := ?v6) rfl (by kernel_rfl) (by kernel_rfl) (by kernel_rfl) (fun _ _ _ h => h) (Or.inl ⟨by rfl, ?y6⟩) R ?r6
  case y6 => (intro ww hS; clear hS; go_simp; try with_reducible rfl)
  try simp only [Act.put, List.setIfInBounds_toArray, List.set_cons_zero, List.set_cons_succ]
  refine wpAnyH_take (i := 6) (oi := { dst := some 58, op := Op.load 27 (Operand.tmp 57), type := 27, pos := "law.go:103", after := #[{ on := 5, ground := Ground.data }, { on := 2, ground := Ground.guard }], guard := some (2, true) }) (v := .int .u8 x1) rfl (by kernel_rfl) (by kernel_rfl) (by kernel_rfl) (fun _ _ _ h => h) (Or.inl ⟨by rfl, ?y7⟩) R ?r7
  case y7 => (intro ww hS; have qp1 := dcarry_cell hS p1; clear hS; go_simp; try with_reducible rfl)
  try simp only [Act.put, List.setIfInBounds_toArray, List.set_cons_zero, List.set_cons_succ]
  refine wpAnyH_take (i := 7) (oi := { dst := some 59, op := Op.binOp BinOp.eql 27 (Operand.tmp 56) (Operand.tmp 58) 27, type := 4, pos := "law.go:103", after := #[{ on := 4, ground := Ground.data }, { on := 6, ground := Ground.data }, { on := 2, ground := Ground.guard }], guard := some (2, true) }) (v := .bool true) rfl (by kernel_rfl) (by kernel_rfl) (by kernel_rfl) (fun _ _ _ h => h) (Or.inl ⟨by rfl, ?y8⟩) R ?r8
  case y8 => (intro ww hS; clear hS; go_simp; try with_reducible rfl)
  try simp only [Act.put, List.setIfInBounds_toArray, List.set_cons_zero, List.set_cons_succ]
  refine wpAnyH_take (i := 8) (oi := { dst := some 60, op := Op.pick (Operand.tmp 54) (Operand.tmp 59) (Operand.const (Value.bool false)), type := 4, pos := "law.go:103", after := #[{ on := 2, ground := Ground.data }, { on := 7, ground := Ground.data }], guard := none }) (v := .bool true) rfl (by kernel_rfl) (by kernel_rfl) (by kernel_rfl) (fun _ _ _ h => h) (Or.inl ⟨by rfl, ?y9⟩) R ?r9
  case y9 => (intro ww hS; clear hS; go_simp; try with_reducible rfl)
  try simp only [Act.put, List.setIfInBounds_toArray, List.set_cons_zero, List.set_cons_succ]
  refine wpAnyH_take (i := 9) (oi := { dst := some 61, op := Op.move (Operand.tmp 60), type := 4, pos := "law.go:103", after := #[{ on := 8, ground := Ground.data }, { on := 2, ground := Ground.chain }], guard := none }) (v := .bool true) rfl (by kernel_rfl) (by kernel_rfl) (by kernel_rfl) (fun _ _ _ h => h) (Or.inl ⟨by rfl, ?y10⟩) R ?r10
  case y10 => (intro ww hS; clear hS; go_simp; try with_reducible rfl)
  try simp only [Act.put, List.setIfInBounds_toArray, List.set_cons_zero, List.set_cons_succ]
  refine wpAnyH_take (i := 10) (oi := { dst := some 62, op := Op.load 25 (Operand.tmp 2), type := 25, pos := "law.go:103", after := #[{ on := 9, ground := Ground.guard }], guard := some (9, true) }) (v := dyV s a len cap e) rfl (by kernel_rfl) (by kernel_rfl) (by kernel_rfl) (fun _ _ _ h => h) (Or.inl ⟨by rfl, ?y11⟩) R ?r11
  case y11 => (intro ww hS; have qc0 := dcarry_cell hS c0; have qc1 := dcarry_cell hS c1; have qc2 := dcarry_cell hS c2; clear hS; go_simp; try with_reducible rfl)
  try simp only [Act.put, List.setIfInBounds_toArray, List.set_cons_zero, List.set_cons_succ]
  refine wpAnyH_ready (rs := [11]) (by kernel_rfl) (by simp) ?_
  refine AllReadyH.cons rfl (fun K hK => ?_) AllReadyH.nil
  go_simp
  refine Calls.mono (HZ.out _ (IsW.keep hI R)) ?_
  rintro r wz ⟨rfl, bN⟩
  replace R := nbelow_trans R bN
  clear bN
  refine hK.out _ _ R (fun _ => ?_)
  clear hK K
  try simp only [Act.put, List.setIfInBounds_toArray, List.set_cons_zero, List.set_cons_succ]
  refine wpAnyH_take (i := 12) (oi := { dst := some 64, op := Op.move (Operand.tmp 63), type := 4, pos := "law.go:103", after := #[{ on := 11, ground := Ground.data }, { on := 11, ground := Ground.chain }, { on := 9, ground := Ground.guard }], guard := some (9, true) }) (v := .bool true) rfl (by kernel_rfl) (by kernel_rfl) (by kernel_rfl) (fun _ _ _ h => h) (Or.inl ⟨by rfl, ?y12⟩) R ?r12
  case y12 => (intro ww hS; clear hS; go_simp; try with_reducible rfl)
  try simp only [Act.put, List.setIfInBounds_toArray, List.set_cons_zero, List.set_cons_succ]
  refine wpAnyH_take (i := 13) (oi := { dst := some 65, op := Op.fieldAddr 29 (Operand.tmp 10) 0, type := 0, pos := "law.go:103", after := #[{ on := 12, ground := Ground.guard }], guard := some (12, true) }) (v := ?v13) rfl (by kernel_rfl) (by kernel_rfl) (by kernel_rfl) (fun _ _ _ h => h) (Or.inl ⟨by rfl, ?y13⟩) R ?r13
  case y13 => (intro ww hS; clear hS; go_simp; try with_reducible rfl)
  try simp only [Act.put, List.setIfInBounds_toArray, List.set_cons_zero, List.set_cons_succ]
  refine wpAnyH_take (i := 14) (oi := { dst := some 66, op := Op.load 26 (Operand.tmp 65), type := 26, pos := "law.go:103", after := #[{ on := 13, ground := Ground.data }, { on := 12, ground := Ground.guard }], guard := some (12, true) }) (v := .int .u64 0) rfl (by kernel_rfl) (by kernel_rfl) (by kernel_rfl) (fun _ _ _ h => h) (Or.inl ⟨by rfl, ?y14⟩) R ?r14
  case y14 => (intro ww hS; have qy0 := dcarry_cell hS y0; clear hS; go_simp; try with_reducible rfl)
  try simp only [Act.put, List.setIfInBounds_toArray, List.set_cons_zero, List.set_cons_succ]
  refine wpAnyH_take (i := 15) (oi := { dst := some 67, op := Op.binOp BinOp.eql 26 (Operand.tmp 66) (Operand.const (Value.int IntKind.u64 0)) 26, type := 4, pos := "law.go:103", after := #[{ on := 14, ground := Ground.data }, { on := 12, ground := Ground.guard }], guard := some (12, true) }) (v := .bool true) rfl (by kernel_rfl) (by kernel_rfl) (by kernel_rfl) (fun _ _ _ h => h) (Or.inl ⟨by rfl, ?y15⟩) R ?r15
  case y15 => (intro ww hS; clear hS; go_simp; try with_reducible rfl)
  try simp only [Act.put, List.setIfInBounds_toArray, List.set_cons_zero, List.set_cons_succ]
  refine wpAnyH_take (i := 16) (oi := { dst := some 68, op := Op.pick (Operand.tmp 64) (Operand.tmp 67) (Operand.const (Value.bool false)), type := 4, pos := "law.go:103", after := #[{ on := 12, ground := Ground.data }, { on := 15, ground := Ground.data }, { on := 9, ground := Ground.guard }], guard := some (9, true) }) (v := .bool true) rfl (by kernel_rfl) (by kernel_rfl) (by kernel_rfl) (fun _ _ _ h => h) (Or.inl ⟨by rfl, ?y16⟩) R ?r16
  case y16 => (intro ww hS; clear hS; go_simp; try with_reducible rfl)
  try simp only [Act.put, List.setIfInBounds_toArray, List.set_cons_zero, List.set_cons_succ]
  refine wpAnyH_take (i := 17) (oi := { dst := some 69, op := Op.move (Operand.tmp 68), type := 4, pos := "law.go:103", after := #[{ on := 16, ground := Ground.data }, { on := 12, ground := Ground.chain }, { on := 9, ground := Ground.guard }], guard := some (9, true) }) (v := .bool true) rfl (by kernel_rfl) (by kernel_rfl) (by kernel_rfl) (fun _ _ _ h => h) (Or.inl ⟨by rfl, ?y17⟩) R ?r17
  case y17 => (intro ww hS; clear hS; go_simp; try with_reducible rfl)
  try simp only [Act.put, List.setIfInBounds_toArray, List.set_cons_zero, List.set_cons_succ]
  refine wpAnyH_take (i := 18) (oi := { dst := some 70, op := Op.fieldAddr 29 (Operand.tmp 10) 0, type := 0, pos := "law.go:103", after := #[{ on := 17, ground := Ground.guard }], guard := some (17, false) }) (v := undef) rfl (by kernel_rfl) (by kernel_rfl) (by kernel_rfl) (fun _ _ _ h => h) (Or.inr ⟨by rfl, rfl⟩) R ?r18
  try simp only [Act.put, List.setIfInBounds_toArray, List.set_cons_zero, List.set_cons_succ]
  refine wpAnyH_take (i := 19) (oi := { dst := some 71, op := Op.load 26 (Operand.tmp 70), type := 26, pos := "law.go:103", after := #[{ on := 18, ground := Ground.data }, { on := 17, ground := Ground.guard }], guard := some (17, false) }) (v := undef) rfl (by kernel_rfl) (by kernel_rfl) (by kernel_rfl) (fun _ _ _ h => h) (Or.inr ⟨by rfl, rfl⟩) R ?r19
  try simp only [Act.put, List.setIfInBounds_toArray, List.set_cons_zero, List.set_cons_succ]
  refine wpAnyH_take (i := 20) (oi := { dst := some 72, op := Op.fieldAddr 29 (Operand.tmp 5) 0, type := 0, pos := "law.go:103", after := #[{ on := 17, ground := Ground.guard }], guard := some (17, false) }) (v := undef) rfl (by kernel_rfl) (by kernel_rfl) (by kernel_rfl) (fun _ _ _ h => h) (Or.inr ⟨by rfl, rfl⟩) R ?r20
  try simp only [Act.put, List.setIfInBounds_toArray, List.set_cons_zero, List.set_cons_succ]
  refine wpAnyH_take (i := 21) (oi := { dst := some 73, op := Op.load 26 (Operand.tmp 72), type := 26, pos := "law.go:103", after := #[{ on := 20, ground := Ground.data }, { on := 17, ground := Ground.guard }], guard := some (17, false) }) (v := undef) rfl (by kernel_rfl) (by kernel_rfl) (by kernel_rfl) (fun _ _ _ h => h) (Or.inr ⟨by rfl, rfl⟩) R ?r21
  try simp only [Act.put, List.setIfInBounds_toArray, List.set_cons_zero, List.set_cons_succ]
  refine wpAnyH_ready (rs := [22]) (by kernel_rfl) (by simp) ?_
  refine AllReadyH.cons rfl (fun K hK => ?_) AllReadyH.nil
  go_simp
  refine hK.out _ _ R (fun _ => ?_)
  clear hK K
  try simp only [Act.put, List.setIfInBounds_toArray, List.set_cons_zero, List.set_cons_succ]
  refine wpAnyH_take (i := 23) (oi := { dst := some 75, op := Op.binOp BinOp.eql 26 (Operand.tmp 71) (Operand.tmp 74) 26, type := 4, pos := "law.go:103", after := #[{ on := 19, ground := Ground.data }, { on := 22, ground := Ground.data }, { on := 17, ground := Ground.guard }], guard := some (17, false) }) (v := undef) rfl (by kernel_rfl) (by kernel_rfl) (by kernel_rfl) (fun _ _ _ h => h) (Or.inr ⟨by rfl, rfl⟩) R ?r22
  try simp only [Act.put, List.setIfInBounds_toArray, List.set_cons_zero, List.set_cons_succ]
  refine wpAnyH_take (i := 24) (oi := { dst := some 76, op := Op.pick (Operand.tmp 69) (Operand.const (Value.bool true)) (Operand.tmp 75), type := 4, pos := "law.go:103", after := #[{ on := 17, ground := Ground.data }, { on := 23, ground := Ground.data }, { on := 9, ground := Ground.guard }], guard := some (9, true) }) (v := .bool true) rfl (by kernel_rfl) (by kernel_rfl) (by kernel_rfl) (fun _ _ _ h => h) (Or.inl ⟨by rfl, ?y23⟩) R ?r23
  case y23 => (intro ww hS; clear hS; go_simp; try with_reducible rfl)
  try simp only [Act.put, List.setIfInBounds_toArray, List.set_cons_zero, List.set_cons_succ]
  refine wpAnyH_take (i := 25) (oi := { dst := some 77, op := Op.pick (Operand.tmp 61) (Operand.tmp 76) (Operand.const (Value.bool false)), type := 4, pos := "law.go:103", after := #[{ on := 9, ground := Ground.data }, { on := 24, ground := Ground.data }], guard := none }) (v := .bool true) rfl (by kernel_rfl) (by kernel_rfl) (by kernel_rfl) (fun _ _ _ h => h) (Or.inl ⟨by rfl, ?y24⟩) R ?r24
  case y24 => (intro ww hS; clear hS; go_simp; try with_reducible rfl)
  try simp only [Act.put, List.setIfInBounds_toArray, List.set_cons_zero, List.set_cons_succ]
  refine wpAnyH_ready (rs := [26]) (by kernel_rfl) (by simp) ?_
  refine AllReadyH.cons rfl (fun K hK => ?_) AllReadyH.nil
  go_simp
  refine hK.out _ _ R (fun _ => ?_)
  clear hK K
  try simp only [Act.put, List.setIfInBounds_toArray, List.set_cons_zero, List.set_cons_succ]
  refine wpAnyH_done (by kernel_rfl) ?_ _
  replace bA := nbelow_trans bA R
  clear R
  go_wp2_with fail
  go_ret
  exact ⟨rfl, bA⟩

set_option maxRecDepth 100000 in
set_option maxHeartbeats 4000000 in
theorem ri_010 (s : Bool) (a : Option Addr) (len cap : Nat) (xs : List Int) (e : Int) (s' : Bool) (a' : Option Addr) (len' cap' : Nat) (ys : List Int) (e' : Int) (w : World) (h : IsW w a len cap xs) (hm : len ≤ 17592186044000) (h' : IsW w a' len' cap' ys) (hm' : len' ≤ 17592186044000) (hT : Tab w) (ra : rightB (val xs) e = true) (rb : rightB (val ys) e' = true) (hc : ¬ cmpD (formD s (val xs) e) (formD s' (val ys) e') ≤ 0) (hn : canE s (val xs) e = 0) (hz : ¬ val xs = 0) :
    Calls Tryd.prog 5 #[dyV s a len cap e, dyV s' a' len' cap' e'] w fun r w' => r = .returned (.bool true) ∧ Below w.heap.size w w' := by
  have H1 : Hid _ := fun w' (g : IsW w' a len cap xs) t' => pNear_calls s a len cap xs e w' g hm t'
  have H2 : Hid _ := fun w' (g : IsW w' a' len' cap' ys) t' => pNear_calls s' a' len' cap' ys e' w' g hm' t'
  have e1 : erR (val xs) e = 0 := by unfold erR; rw [ra]; rfl
  have e2 : erR (val ys) e' = 0 := by unfold erR; rw [rb]; rfl
  rw [e1] at H1
  rw [e2] at H2
  obtain ⟨ga, ha⟩ := rightB_yes ra
  obtain ⟨gb, hb⟩ := rightB_yes rb
  have la := (great_not _).1 ga
  have lb := (great_not _).1 gb
  have HO : Hid _ := fun w' (g : IsW w' a len cap xs) (g' : IsW w' a' len' cap' ys) => qOrder_calls s a len cap xs e s' a' len' cap' ys e' w' g hm g' hm' (by omega) (by omega) (by omega) (by omega)
  have b1 : nbR s (val xs) e = nearB s (val xs) e := by unfold nbR; rw [if_pos ra]
  have b2 : nbR s' (val ys) e' = nearB s' (val ys) e' := by unfold nbR; rw [if_pos rb]
  have u1 : U (nbR s (val xs) e) := by rw [b1]; exact nearB_U _ _ _
  have u2 : U (nbR s' (val ys) e') := by rw [b2]; exact nearB_U _ _ _
  have HN : Hid _ := fun w' (g : IsW w' a len cap xs) t' => pNeg_calls s a len cap xs e w' g (by omega) t'
  rw [hn] at HN
  obtain ⟨t1, t2, t3, t4⟩ := near_turn s (val xs) e ra hn
  have H3 : Hid _ := fun (ao : Option Addr) (n c : Nat) w' (g : IsW w' ao n c (wordsOf (ngP s (val xs) e).2.1)) hn t' => pNear_calls (ngP s (val xs) e).1 ao n c (wordsOf (ngP s (val xs) e).2.1) (ngP s (val xs) e).2.2 w' g hn t'
  rw [val_words, t1, t2] at H3
  have HZ : Hid _ := fun w' (g : IsW w' a len cap xs) => qZero_calls s a len cap xs e w' g (by omega)
  have HM : Hid _ := fun w' => neg_calls (nbR s (val xs) e) w' u1
  rw [decide_eq_false hz] at HZ
  rw [t4 hz] at H3
  clear b1 b2 u1 u2 e1 e2 ga ha gb hb la lb ra rb t1 t2 t3 t4 hz hn
  generalize nbR s (val xs) e = n1 at *
  generalize flR s (val xs) e = x1 at *
  generalize nbR s' (val ys) e' = n2 at *
  generalize flR s' (val ys) e' = x2 at *
  generalize cmpD (formD s (val xs) e) (formD s' (val ys) e') = cc at *
  generalize ngP s (val xs) e = P at *
  generalize negV n1 = m1 at *
  have bA : Below w.heap.size w ((w.alloc (.cells #[.bool s, .slice a len cap, .int .i64 e] 25)).alloc (.cells #[.bool s', .slice a' len' cap', .int .i64 e'] 25)) := nbelow_trans (below_one _ _) (below_one _ _)
  have hI := h.keep bA
  have hJ := h'.keep bA
  have hT0 := hT.kept bA
  have c0 : ((w.alloc (.cells #[.bool s, .slice a len cap, .int .i64 e] 25)).alloc (.cells #[.bool s', .slice a' len' cap', .int .i64 e'] 25)).cell? ⟨w.heap.size, 0, none⟩ = some (.bool s) := by go_simp
  have c1 : ((w.alloc (.cells #[.bool s, .slice a len cap, .int .i64 e] 25)).alloc (.cells #[.bool s', .slice a' len' cap', .int .i64 e'] 25)).cell? ⟨w.heap.size, 1, none⟩ = some (.slice a len cap) := by go_simp
  have c2 : ((w.alloc (.cells #[.bool s, .slice a len cap, .int .i64 e] 25)).alloc (.cells #[.bool s', .slice a' len' cap', .int .i64 e'] 25)).cell? ⟨w.heap.size, 2, none⟩ = some (.int .i64 e) := by go_simp
  have d0 : ((w.alloc (.cells #[.bool s, .slice a len cap, .int .i64 e] 25)).alloc (.cells #[.bool s', .slice a' len' cap', .int .i64 e'] 25)).cell? ⟨w.heap.size + 1, 0, none⟩ = some (.bool s') := by go_simp
  have d1 : ((w.alloc (.cells #[.bool s, .slice a len cap, .int .i64 e] 25)).alloc (.cells #[.bool s', .slice a' len' cap', .int .i64 e'] 25)).cell? ⟨w.heap.size + 1, 1, none⟩ = some (.slice a' len' cap') := by go_simp
  have d2 : ((w.alloc (.cells #[.bool s, .slice a len cap, .int .i64 e] 25)).alloc (.cells #[.bool s', .slice a' len' cap', .int .i64 e'] 25)).cell? ⟨w.heap.size + 1, 2, none⟩ = some (.int .i64 e') := by go_simp
  clear h h' hT
  go_enter Tryd.func5, Tryd.ntmps5
  go_wp2_with fail
  generalize ((w.alloc (.cells #[.bool s, .slice a len cap, .int .i64 e] 25)).alloc (.cells #[.bool s', .slice a' len' cap', .int .i64 e'] 25)) = w1 at *
  refine Calls.mono (rLives_calls _ hT0) ?_
  rintro r w2 ⟨rfl, bN⟩
  replace c0 := dcarry_cell bN c0
  replace c1 := dcarry_cell bN c1
  replace c2 := dcarry_cell bN c2
  replace d0 := dcarry_cell bN d0
  replace d1 := dcarry_cell bN d1
  replace d2 := dcarry_cell bN d2
  replace hI := IsW.keep hI bN
  replace hJ := IsW.keep hJ bN
  replace hT0 := hT0.kept bN
  replace bA := nbelow_trans bA bN
  clear bN
  go_wp2_with fail
  refine Calls.mono (H1.out _ hI hT0) ?_
  rintro r w3 ⟨rfl, bN⟩
  replace c0 := dcarry_cell bN c0
  replace c1 := dcarry_cell bN c1
  replace c2 := dcarry_cell bN c2
  replace d0 := dcarry_cell bN d0
  replace d1 := dcarry_cell bN d1
  replace d2 := dcarry_cell bN d2
  replace hI := IsW.keep hI bN
  replace hJ := IsW.keep hJ bN
  replace hT0 := hT0.kept bN
  replace bA := nbelow_trans bA bN
  clear bN
  have bB := below_one w3 (.cells #[.int .u64 n1, .int .u8 x1] 29)
  have p0 : (w3.alloc (.cells #[.int .u64 n1, .int .u8 x1] 29)).cell? ⟨w3.heap.size, 0, none⟩ = some (.int .u64 n1) := by go_simp
  have p1 : (w3.alloc (.cells #[.int .u64 n1, .int .u8 x1] 29)).cell? ⟨w3.heap.size, 1, none⟩ = some (.int .u8 x1) := by go_simp
  replace c0 := dcarry_cell bB c0
  replace c1 := dcarry_cell bB c1
  replace c2 := dcarry_cell bB c2
  replace d0 := dcarry_cell bB d0
  replace d1 := dcarry_cell bB d1
  replace d2 := dcarry_cell bB d2
  replace hI := IsW.keep hI bB
  replace hJ := IsW.keep hJ bB
  replace hT0 := hT0.kept bB
  replace bA := nbelow_trans bA bB
  clear bB
  go_wp2_with fail
  generalize (w3.alloc (.cells #[.int .u64 n1, .int .u8 x1] 29)) = w4 at *
  refine Calls.mono (H2.out _ hJ hT0) ?_
  rintro r w5 ⟨rfl, bN⟩
  replace c0 := dcarry_cell bN c0
  replace c1 := dcarry_cell bN c1
  replace c2 := dcarry_cell bN c2
  replace d0 := dcarry_cell bN d0
  replace d1 := dcarry_cell bN d1
  replace d2 := dcarry_cell bN d2
  replace p0 := dcarry_cell bN p0
  replace p1 := dcarry_cell bN p1
  replace hI := IsW.keep hI bN
  replace hJ := IsW.keep hJ bN
  replace hT0 := hT0.kept bN
  replace bA := nbelow_trans bA bN
  clear bN
  have bB := below_one w5 (.cells #[.int .u64 n2, .int .u8 x2] 29)
  have q0 : (w5.alloc (.cells #[.int .u64 n2, .int .u8 x2] 29)).cell? ⟨w5.heap.size, 0, none⟩ = some (.int .u64 n2) := by go_simp
  have q1 : (w5.alloc (.cells #[.int .u64 n2, .int .u8 x2] 29)).cell? ⟨w5.heap.size, 1, none⟩ = some (.int .u8 x2) := by go_simp
  replace c0 := dcarry_cell bB c0
  replace c1 := dcarry_cell bB c1
  replace c2 := dcarry_cell bB c2
  replace d0 := dcarry_cell bB d0
  replace d1 := dcarry_cell bB d1
  replace d2 := dcarry_cell bB d2
  replace p0 := dcarry_cell bB p0
  replace p1 := dcarry_cell bB p1
  replace hI := IsW.keep hI bB
  replace hJ := IsW.keep hJ bB
  replace hT0 := hT0.kept bB
  replace bA := nbelow_trans bA bB
  clear bB
  go_wp2_with fail
  generalize (w5.alloc (.cells #[.int .u64 n2, .int .u8 x2] 29)) = w6 at *
  refine Calls.mono (HO.out _ hI hJ) ?_
  rintro r w7 ⟨rfl, bN⟩
  replace c0 := dcarry_cell bN c0
  replace c1 := dcarry_cell bN c1
  replace c2 := dcarry_cell bN c2
  replace d0 := dcarry_cell bN d0
  replace d1 := dcarry_cell bN d1
  replace d2 := dcarry_cell bN d2
  replace p0 := dcarry_cell bN p0
  replace p1 := dcarry_cell bN p1
  replace q0 := dcarry_cell bN q0
  replace q1 := dcarry_cell bN q1
  replace hI := IsW.keep hI bN
  replace hJ := IsW.keep hJ bN
  replace hT0 := hT0.kept bN
  replace bA := nbelow_trans bA bN
  clear bN
  go_wp2_with fail
  refine Calls.mono (HN.out _ hI hT0) ?_
  rintro r w8 ⟨v, rfl, ⟨ao, no, co, rfl, hno, hle, hOw⟩, bN⟩
  have HNo : Hid _ := hno
  have hO0 := hOw.1
  clear hno hOw
  replace c0 := dcarry_cell bN c0
  replace c1 := dcarry_cell bN c1
  replace c2 := dcarry_cell bN c2
  replace d0 := dcarry_cell bN d0
  replace d1 := dcarry_cell bN d1
  replace d2 := dcarry_cell bN d2
  replace p0 := dcarry_cell bN p0
  replace p1 := dcarry_cell bN p1
  replace q0 := dcarry_cell bN q0
  replace q1 := dcarry_cell bN q1
  replace hI := IsW.keep hI bN
  replace hJ := IsW.keep hJ bN
  replace hT0 := hT0.kept bN
  replace bA := nbelow_trans bA bN
  clear bN
  have hO := hO0
  clear hO0
  have bB := below_one w8 (.cells #[.bool P.1, .slice ao no co, .int .i64 P.2.2] 25)
  have v0 : (w8.alloc (.cells #[.bool P.1, .slice ao no co, .int .i64 P.2.2] 25)).cell? ⟨w8.heap.size, 0, none⟩ = some (.bool P.1) := by go_simp
  have v1 : (w8.alloc (.cells #[.bool P.1, .slice ao no co, .int .i64 P.2.2] 25)).cell? ⟨w8.heap.size, 1, none⟩ = some (.slice ao no co) := by go_simp
  have v2 : (w8.alloc (.cells #[.bool P.1, .slice ao no co, .int .i64 P.2.2] 25)).cell? ⟨w8.heap.size, 2, none⟩ = some (.int .i64 P.2.2) := by go_simp
  replace c0 := dcarry_cell bB c0
  replace c1 := dcarry_cell bB c1
  replace c2 := dcarry_cell bB c2
  replace d0 := dcarry_cell bB d0
  replace d1 := dcarry_cell bB d1
  replace d2 := dcarry_cell bB d2
  replace p0 := dcarry_cell bB p0
  replace p1 := dcarry_cell bB p1
  replace q0 := dcarry_cell bB q0
  replace q1 := dcarry_cell bB q1
  replace hI := IsW.keep hI bB
  replace hJ := IsW.keep hJ bB
  replace hT0 := hT0.kept bB
  replace bA := nbelow_trans bA bB
  replace hO := IsW.keep hO bB
  clear bB
  go_wp2_with fail
  generalize (w8.alloc (.cells #[.bool P.1, .slice ao no co, .int .i64 P.2.2] 25)) = w9 at *
  refine Calls.mono (H3.out _ _ _ _ hO (by omega) hT0) ?_
  rintro r w10 ⟨rfl, bN⟩
  replace c0 := dcarry_cell bN c0
  replace c1 := dcarry_cell bN c1
  replace c2 := dcarry_cell bN c2
  replace d0 := dcarry_cell bN d0
  replace d1 := dcarry_cell bN d1
  replace d2 := dcarry_cell bN d2
  replace p0 := dcarry_cell bN p0
  replace p1 := dcarry_cell bN p1
  replace q0 := dcarry_cell bN q0
  replace q1 := dcarry_cell bN q1
  replace v0 := dcarry_cell bN v0
  replace v1 := dcarry_cell bN v1
  replace v2 := dcarry_cell bN v2
  replace hI := IsW.keep hI bN
  replace hJ := IsW.keep hJ bN
  replace hT0 := hT0.kept bN
  replace bA := nbelow_trans bA bN
  replace hO := IsW.keep hO bN
  clear bN
  have bB := below_one w10 (.cells #[.int .u64 m1, .int .u8 x1] 29)
  have y0 : (w10.alloc (.cells #[.int .u64 m1, .int .u8 x1] 29)).cell? ⟨w10.heap.size, 0, none⟩ = some (.int .u64 m1) := by go_simp
  have y1 : (w10.alloc (.cells #[.int .u64 m1, .int .u8 x1] 29)).cell? ⟨w10.heap.size, 1, none⟩ = some (.int .u8 x1) := by go_simp
  replace c0 := dcarry_cell bB c0
  replace c1 := dcarry_cell bB c1
  replace c2 := dcarry_cell bB c2
  replace d0 := dcarry_cell bB d0
  replace d1 := dcarry_cell bB d1
  replace d2 := dcarry_cell bB d2
  replace p0 := dcarry_cell bB p0
  replace p1 := dcarry_cell bB p1
  replace q0 := dcarry_cell bB q0
  replace q1 := dcarry_cell bB q1
  replace v0 := dcarry_cell bB v0
  replace v1 := dcarry_cell bB v1
  replace v2 := dcarry_cell bB v2
  replace hI := IsW.keep hI bB
  replace hJ := IsW.keep hJ bB
  replace hT0 := hT0.kept bB
  replace bA := nbelow_trans bA bB
  replace hO := IsW.keep hO bB
  clear bB
  go_upto_region 13 with fail
  generalize (w10.alloc (.cells #[.int .u64 m1, .int .u8 x1] 29)) = w11 at *
  have R : Below w11.heap.size w11 (World.drew w11) := (Below.refl _ _).drew
  refine wp_region_held (S := fun w' => Below w11.heap.size w11 w') (by kernel_rfl) ?_
  change wpAnyH _ _ _ _ _ _ _ _ (World.drew w11)
  generalize World.drew w11 = wd at R ⊢
  refine wpAnyH_take (i := 0) (oi := { dst := some 52, op := Op.move (Operand.tmp 8), type := 30, pos := "law.go:103", after := #[], guard := none }) (v := .int .i64 0) rfl (by kernel_rfl) (by kernel_rfl) (by kernel_rfl) (fun _ _ _ h => h) (Or.inl ⟨by rfl, ?y1⟩) R ?r1
  case y1 => (intro ww hS; clear hS; go_simp; try with_reducible rfl)
  try simp only [Act.put, List.setIfInBounds_toArray, List.set_cons_zero, List.set_cons_succ]
  refine wpAnyH_take (i := 1) (oi := { dst := some 53, op := Op.binOp BinOp.eql 30 (Operand.tmp 52) (Operand.const (Value.int IntKind.i64 0)) 30, type := 4, pos := "law.go:103", after := #[{ on := 0, ground := Ground.data }], guard := none }) (v := .bool true) rfl (by kernel_rfl) (by kernel_rfl) (by kernel_rfl) (fun _ _ _ h => h) (Or.inl ⟨by rfl, ?y2⟩) R ?r2
  case y2 => (intro ww hS; clear hS; go_simp; try with_reducible rfl)
  try simp only [Act.put, List.setIfInBounds_toArray, List.set_cons_zero, List.set_cons_succ]
  refine wpAnyH_take (i := 2) (oi := { dst := some 54, op := Op.move (Operand.tmp 53), type := 4, pos := "law.go:103", after := #[{ on := 1, ground := Ground.data }], guard := none }) (v := .bool true) rfl (by kernel_rfl) (by kernel_rfl) (by kernel_rfl) (fun _ _ _ h => h) (Or.inl ⟨by rfl, ?y3⟩) R ?r3
  case y3 => (intro ww hS; clear hS; go_simp; try with_reducible rfl)
  try simp only [Act.put, List.setIfInBounds_toArray, List.set_cons_zero, List.set_cons_succ]
  refine wpAnyH_take (i := 3) (oi := { dst := some 55, op := Op.fieldAddr 29 (Operand.tmp 10) 1, type := 0, pos := "law.go:103", after := #[{ on := 2, ground := Ground.guard }], guard := some (2, true) }) (v := ?v4) rfl (by kernel_rfl) (by kernel_rfl) (by kernel_rfl) (fun _ _ _ h => h) (Or.inl ⟨by rfl, ?y4⟩) R ?r4
  case y4 => (intro ww hS; clear hS; go_simp; try with_reducible rfl)
  try simp only [Act.put, List.setIfInBounds_toArray, List.set_cons_zero, List.set_cons_succ]
  refine wpAnyH_take (i := 4) (oi := { dst := some 56, op := Op.load 27 (Operand.tmp 55), type := 27, pos := "law.go:103", after := #[{ on := 3, ground := Ground.data }, { on := 2, ground := Ground.guard }], guard := some (2, true) }) (v := .int .u8 x1) rfl (by kernel_rfl) (by kernel_rfl) (by kernel_rfl) (fun _ _ _ h => h) (Or.inl ⟨by rfl, ?y5⟩) R ?r5
  case y5 => (intro ww hS; have qy1 := dcarry_cell hS y1; clear hS; go_simp; try with_reducible rfl)
  try simp only [Act.put, List.setIfInBounds_toArray, List.set_cons_zero, List.set_cons_succ]
  refine wpAnyH_take (i := 5) (oi := { dst := some 57, op := Op.fieldAddr 29 (Operand.tmp 5) 1, type := 0, pos := "law.go:103", after := #[{ on := 2, ground := Ground.guard }], guard := some (2, true) }) (v := ?v6) rfl (by kernel_rfl) (by kernel_rfl) (by kernel_rfl) (fun _ _ _ h => h) (Or.inl ⟨by rfl, ?y6⟩) R ?r6
  case y6 => (intro ww hS; clear hS; go_simp; try with_reducible rfl)
  try simp only [Act.put, List.setIfInBounds_toArray, List.set_cons_zero, List.set_cons_succ]
  refine wpAnyH_take (i := 6) (oi := { dst := some 58, op := Op.load 27 (Operand.tmp 57), type := 27, pos := "law.go:103", after := #[{ on := 5, ground := Ground.data }, { on := 2, ground := Ground.guard }], guard := some (2, true) }) (v := .int .u8 x1) rfl (by kernel_rfl) (by kernel_rfl) (by kernel_rfl) (fun _ _ _ h => h) (Or.inl ⟨by rfl, ?y7⟩) R ?r7
  case y7 => (intro ww hS; have qp1 := dcarry_cell hS p1; clear hS; go_simp; try with_reducible rfl)
  try simp only [Act.put, List.setIfInBounds_toArray, List.set_cons_zero, List.set_cons_succ]
  refine wpAnyH_take (i := 7) (oi := { dst := some 59, op := Op.binOp BinOp.eql 27 (Operand.tmp 56) (Operand.tmp 58) 27, type := 4, pos := "law.go:103", after := #[{ on := 4, ground := Ground.data }, { on := 6, ground := Ground.data }, { on := 2, ground := Ground.guard }], guard := some (2, true) }) (v := .bool true) rfl (by kernel_rfl) (by kernel_rfl) (by kernel_rfl) (fun _ _ _ h => h) (Or.inl ⟨by rfl, ?y8⟩) R ?r8
  case y8 => (intro ww hS; clear hS; go_simp; try with_reducible rfl)
  try simp only [Act.put, List.setIfInBounds_toArray, List.set_cons_zero, List.set_cons_succ]
  refine wpAnyH_take (i := 8) (oi := { dst := some 60, op := Op.pick (Operand.tmp 54) (Operand.tmp 59) (Operand.const (Value.bool false)), type := 4, pos := "law.go:103", after := #[{ on := 2, ground := Ground.data }, { on := 7, ground := Ground.data }], guard := none }) (v := .bool true) rfl (by kernel_rfl) (by kernel_rfl) (by kernel_rfl) (fun _ _ _ h => h) (Or.inl ⟨by rfl, ?y9⟩) R ?r9
  case y9 => (intro ww hS; clear hS; go_simp; try with_reducible rfl)
  try simp only [Act.put, List.setIfInBounds_toArray, List.set_cons_zero, List.set_cons_succ]
  refine wpAnyH_take (i := 9) (oi := { dst := some 61, op := Op.move (Operand.tmp 60), type := 4, pos := "law.go:103", after := #[{ on := 8, ground := Ground.data }, { on := 2, ground := Ground.chain }], guard := none }) (v := .bool true) rfl (by kernel_rfl) (by kernel_rfl) (by kernel_rfl) (fun _ _ _ h => h) (Or.inl ⟨by rfl, ?y10⟩) R ?r10
  case y10 => (intro ww hS; clear hS; go_simp; try with_reducible rfl)
  try simp only [Act.put, List.setIfInBounds_toArray, List.set_cons_zero, List.set_cons_succ]
  refine wpAnyH_take (i := 10) (oi := { dst := some 62, op := Op.load 25 (Operand.tmp 2), type := 25, pos := "law.go:103", after := #[{ on := 9, ground := Ground.guard }], guard := some (9, true) }) (v := dyV s a len cap e) rfl (by kernel_rfl) (by kernel_rfl) (by kernel_rfl) (fun _ _ _ h => h) (Or.inl ⟨by rfl, ?y11⟩) R ?r11
  case y11 => (intro ww hS; have qc0 := dcarry_cell hS c0; have qc1 := dcarry_cell hS c1; have qc2 := dcarry_cell hS c2; clear hS; go_simp; try with_reducible rfl)
  try simp only [Act.put, List.setIfInBounds_toArray, List.set_cons_zero, List.set_cons_succ]
  refine wpAnyH_ready (rs := [11]) (by kernel_rfl) (by simp) ?_
  refine AllReadyH.cons rfl (fun K hK => ?_) AllReadyH.nil
  go_simp
  refine Calls.mono (HZ.out _ (IsW.keep hI R)) ?_
  rintro r wz ⟨rfl, bN⟩
  replace R := nbelow_trans R bN
  clear bN
  refine hK.out _ _ R (fun _ => ?_)
  clear hK K
  try simp only [Act.put, List.setIfInBounds_toArray, List.set_cons_zero, List.set_cons_succ]
  refine wpAnyH_take (i := 12) (oi := { dst := some 64, op := Op.move (Operand.tmp 63), type := 4, pos := "law.go:103", after := #[{ on := 11, ground := Ground.data }, { on := 11, ground := Ground.chain }, { on := 9, ground := Ground.guard }], guard := some (9, true) }) (v := .bool false) rfl (by kernel_rfl) (by kernel_rfl) (by kernel_rfl) (fun _ _ _ h => h) (Or.inl ⟨by rfl, ?y12⟩) R ?r12
  case y12 => (intro ww hS; clear hS; go_simp; try with_reducible rfl)
  try simp only [Act.put, List.setIfInBounds_toArray, List.set_cons_zero, List.set_cons_succ]
  refine wpAnyH_take (i := 13) (oi := { dst := some 65, op := Op.fieldAddr 29 (Operand.tmp 10) 0, type := 0, pos := "law.go:103", after := #[{ on := 12, ground := Ground.guard }], guard := some (12, true) }) (v := undef) rfl (by kernel_rfl) (by kernel_rfl) (by kernel_rfl) (fun _ _ _ h => h) (Or.inr ⟨by rfl, rfl⟩) R ?r13
  try simp only [Act.put, List.setIfInBounds_toArray, List.set_cons_zero, List.set_cons_succ]
  refine wpAnyH_take (i := 14) (oi := { dst := some 66, op := Op.load 26 (Operand.tmp 65), type := 26, pos := "law.go:103", after := #[{ on := 13, ground := Ground.data }, { on := 12, ground := Ground.guard }], guard := some (12, true) }) (v := undef) rfl (by kernel_rfl) (by kernel_rfl) (by kernel_rfl) (fun _ _ _ h => h) (Or.inr ⟨by rfl, rfl⟩) R ?r14
  try simp only [Act.put, List.setIfInBounds_toArray, List.set_cons_zero, List.set_cons_succ]
  refine wpAnyH_take (i := 15) (oi := { dst := some 67, op := Op.binOp BinOp.eql 26 (Operand.tmp 66) (Operand.const (Value.int IntKind.u64 0)) 26, type := 4, pos := "law.go:103", after := #[{ on := 14, ground := Ground.data }, { on := 12, ground := Ground.guard }], guard := some (12, true) }) (v := undef) rfl (by kernel_rfl) (by kernel_rfl) (by kernel_rfl) (fun _ _ _ h => h) (Or.inr ⟨by rfl, rfl⟩) R ?r15
  try simp only [Act.put, List.setIfInBounds_toArray, List.set_cons_zero, List.set_cons_succ]
  refine wpAnyH_take (i := 16) (oi := { dst := some 68, op := Op.pick (Operand.tmp 64) (Operand.tmp 67) (Operand.const (Value.bool false)), type := 4, pos := "law.go:103", after := #[{ on := 12, ground := Ground.data }, { on := 15, ground := Ground.data }, { on := 9, ground := Ground.guard }], guard := some (9, true) }) (v := .bool false) rfl (by kernel_rfl) (by kernel_rfl) (by kernel_rfl) (fun _ _ _ h => h) (Or.inl ⟨by rfl, ?y16⟩) R ?r16
  case y16 => (intro ww hS; clear hS; go_simp; try with_reducible rfl)
  try simp only [Act.put, List.setIfInBounds_toArray, List.set_cons_zero, List.set_cons_succ]
  refine wpAnyH_take (i := 17) (oi := { dst := some 69, op := Op.move (Operand.tmp 68), type := 4, pos := "law.go:103", after := #[{ on := 16, ground := Ground.data }, { on := 12, ground := Ground.chain }, { on := 9, ground := Ground.guard }], guard := some (9, true) }) (v := .bool false) rfl (by kernel_rfl) (by kernel_rfl) (by kernel_rfl) (fun _ _ _ h => h) (Or.inl ⟨by rfl, ?y17⟩) R ?r17
  case y17 => (intro ww hS; clear hS; go_simp; try with_reducible rfl)
  try simp only [Act.put, List.setIfInBounds_toArray, List.set_cons_zero, List.set_cons_succ]
  refine wpAnyH_take (i := 18) (oi := { dst := some 70, op := Op.fieldAddr 29 (Operand.tmp 10) 0, type := 0, pos := "law.go:103", after := #[{ on := 17, ground := Ground.guard }], guard := some (17, false) }) (v := ?v18) rfl (by kernel_rfl) (by kernel_rfl) (by kernel_rfl) (fun _ _ _ h => h) (Or.inl ⟨by rfl, ?y18⟩) R ?r18
  case y18 => (intro ww hS; clear hS; go_simp; try with_reducible rfl)
  try simp only [Act.put, List.setIfInBounds_toArray, List.set_cons_zero, List.set_cons_succ]
  refine wpAnyH_take (i := 19) (oi := { dst := some 71, op := Op.load 26 (Operand.tmp 70), type := 26, pos := "law.go:103", after := #[{ on := 18, ground := Ground.data }, { on := 17, ground := Ground.guard }], guard := some (17, false) }) (v := .int .u64 m1) rfl (by kernel_rfl) (by kernel_rfl) (by kernel_rfl) (fun _ _ _ h => h) (Or.inl ⟨by rfl, ?y19⟩) R ?r19
  case y19 => (intro ww hS; have qy0 := dcarry_cell hS y0; clear hS; go_simp; try with_reducible rfl)
  try simp only [Act.put, List.setIfInBounds_toArray, List.set_cons_zero, List.set_cons_succ]
  refine wpAnyH_take (i := 20) (oi := { dst := some 72, op := Op.fieldAddr 29 (Operand.tmp 5) 0, type := 0, pos := "law.go:103", after := #[{ on := 17, ground := Ground.guard }], guard := some (17, false) }) (v := ?v20) rfl (by kernel_rfl) (by kernel_rfl) (by kernel_rfl) (fun _ _ _ h => h) (Or.inl ⟨by rfl, ?y20⟩) R ?r20
  case y20 => (intro ww hS; clear hS; go_simp; try with_reducible rfl)
  try simp only [Act.put, List.setIfInBounds_toArray, List.set_cons_zero, List.set_cons_succ]
  refine wpAnyH_take (i := 21) (oi := { dst := some 73, op := Op.load 26 (Operand.tmp 72), type := 26, pos := "law.go:103", after := #[{ on := 20, ground := Ground.data }, { on := 17, ground := Ground.guard }], guard := some (17, false) }) (v := .int .u64 n1) rfl (by kernel_rfl) (by kernel_rfl) (by kernel_rfl) (fun _ _ _ h => h) (Or.inl ⟨by rfl, ?y21⟩) R ?r21
  case y21 => (intro ww hS; have qp0 := dcarry_cell hS p0; clear hS; go_simp; try with_reducible rfl)
  try simp only [Act.put, List.setIfInBounds_toArray, List.set_cons_zero, List.set_cons_succ]
  refine wpAnyH_ready (rs := [22]) (by kernel_rfl) (by simp) ?_
  refine AllReadyH.cons rfl (fun K hK => ?_) AllReadyH.nil
  go_simp
  refine Calls.mono (HM.out _) ?_
  rintro r wm ⟨rfl, rfl⟩
  refine hK.out _ _ R (fun _ => ?_)
  clear hK K
  try simp only [Act.put, List.setIfInBounds_toArray, List.set_cons_zero, List.set_cons_succ]
  refine wpAnyH_take (i := 23) (oi := { dst := some 75, op := Op.binOp BinOp.eql 26 (Operand.tmp 71) (Operand.tmp 74) 26, type := 4, pos := "law.go:103", after := #[{ on := 19, ground := Ground.data }, { on := 22, ground := Ground.data }, { on := 17, ground := Ground.guard }], guard := some (17, false) }) (v := .bool true) rfl (by kernel_rfl) (by kernel_rfl) (by kernel_rfl) (fun _ _ _ h => h) (Or.inl ⟨by rfl, ?y22⟩) R ?r22
  case y22 => (intro ww hS; clear hS; go_simp; try with_reducible rfl)
  try simp only [Act.put, List.setIfInBounds_toArray, List.set_cons_zero, List.set_cons_succ]
  refine wpAnyH_take (i := 24) (oi := { dst := some 76, op := Op.pick (Operand.tmp 69) (Operand.const (Value.bool true)) (Operand.tmp 75), type := 4, pos := "law.go:103", after := #[{ on := 17, ground := Ground.data }, { on := 23, ground := Ground.data }, { on := 9, ground := Ground.guard }], guard := some (9, true) }) (v := .bool true) rfl (by kernel_rfl) (by kernel_rfl) (by kernel_rfl) (fun _ _ _ h => h) (Or.inl ⟨by rfl, ?y23⟩) R ?r23
  case y23 => (intro ww hS; clear hS; go_simp; try with_reducible rfl)
  try simp only [Act.put, List.setIfInBounds_toArray, List.set_cons_zero, List.set_cons_succ]
  refine wpAnyH_take (i := 25) (oi := { dst := some 77, op := Op.pick (Operand.tmp 61) (Operand.tmp 76) (Operand.const (Value.bool false)), type := 4, pos := "law.go:103", after := #[{ on := 9, ground := Ground.data }, { on := 24, ground := Ground.data }], guard := none }) (v := .bool true) rfl (by kernel_rfl) (by kernel_rfl) (by kernel_rfl) (fun _ _ _ h => h) (Or.inl ⟨by rfl, ?y24⟩) R ?r24
  case y24 => (intro ww hS; clear hS; go_simp; try with_reducible rfl)
  try simp only [Act.put, List.setIfInBounds_toArray, List.set_cons_zero, List.set_cons_succ]
  refine wpAnyH_ready (rs := [26]) (by kernel_rfl) (by simp) ?_
  refine AllReadyH.cons rfl (fun K hK => ?_) AllReadyH.nil
  go_simp
  refine hK.out _ _ R (fun _ => ?_)
  clear hK K
  try simp only [Act.put, List.setIfInBounds_toArray, List.set_cons_zero, List.set_cons_succ]
  refine wpAnyH_done (by kernel_rfl) ?_ _
  replace bA := nbelow_trans bA R
  clear R
  go_wp2_with fail
  go_ret
  exact ⟨rfl, bA⟩

theorem roundRises_walk (s : Bool) (a : Option Addr) (len cap : Nat) (xs : List Int) (e : Int) (s' : Bool) (a' : Option Addr) (len' cap' : Nat) (ys : List Int) (e' : Int) (w : World) (h : IsW w a len cap xs) (hm : len ≤ 17592186044000) (_he : -9223372036854775808 ≤ e ∧ e ≤ 9223372036854775807) (h' : IsW w a' len' cap' ys) (hm' : len' ≤ 17592186044000) (_hf : -9223372036854775808 ≤ e' ∧ e' ≤ 9223372036854775807) (hT : Tab w) :
    Calls Tryd.prog 5 #[dyV s a len cap e, dyV s' a' len' cap' e'] w fun r w' => r = .returned (.bool true) ∧ Below w.heap.size w w' := by
  cases ra : rightB (val xs) e with
  | false => exact ri_x s a len cap xs e s' a' len' cap' ys e' w h hm h' hm' hT ra
  | true =>
    cases rb : rightB (val ys) e' with
    | false => exact ri_y s a len cap xs e s' a' len' cap' ys e' w h hm h' hm' hT ra rb
    | true =>
      by_cases hc : cmpD (formD s (val xs) e) (formD s' (val ys) e') ≤ 0
      · by_cases hn : canE s (val xs) e = 0
        · by_cases hz : val xs = 0
          · exact ri_111 s a len cap xs e s' a' len' cap' ys e' w h hm h' hm' hT ra rb hc hn hz
          · exact ri_110 s a len cap xs e s' a' len' cap' ys e' w h hm h' hm' hT ra rb hc hn hz
        · exact ri_100 s a len cap xs e s' a' len' cap' ys e' w h hm h' hm' hT ra rb hc hn
      · by_cases hn : canE s (val xs) e = 0
        · by_cases hz : val xs = 0
          · exact ri_011 s a len cap xs e s' a' len' cap' ys e' w h hm h' hm' hT ra rb hc hn hz
          · exact ri_010 s a len cap xs e s' a' len' cap' ys e' w h hm h' hm' hT ra rb hc hn hz
        · exact ri_000 s a len cap xs e s' a' len' cap' ys e' w h hm h' hm' hT ra rb hc hn
end Go.Proofs.YtiipjkkfaplhnaaDoor

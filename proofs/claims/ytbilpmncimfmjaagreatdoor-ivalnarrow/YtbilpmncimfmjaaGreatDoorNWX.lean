/- What is narrow to so many bits is so to fewer (pure). Package ival: littleApart. Package ival: Narrow. -/
import Derived.Test.YtbilpmncimfmjaaGreatDoorTMO
import Derived.Test.YtbilpmncimfmjaaGreatDoorTMR
import Derived.Test.YtbilpmncimfmjaaGreatDoorTMJ

namespace Go.Proofs.YtbilpmncimfmjaaGreatDoor
open Go.RowKit

theorem form_loN (s : Bool) (m : Nat) (e K : Int) (h : K ≤ e) (h0 : K ≤ 0) : K ≤ (formD s m e).2.2 := by
  unfold formD
  split
  · exact h0
  · show K ≤ e + (tz m : Int); omega
theorem cmpI_le (a b : Int) : Lib.compareInt a b ≤ 0 ↔ a ≤ b := by
  unfold Lib.compareInt
  split
  · constructor <;> intro <;> omega
  · split
    · constructor <;> intro <;> omega
    · constructor <;> intro <;> omega
/-- a number, shifted up by fewer bits, is no greater, if it is not below 0; else it is below all that are not -/
theorem shift_le (s : Bool) (m : Nat) (e q p : Int) (n : Nat) (f : Int) (hqp : q ≤ p) (h : cmpD (formD s m (e + p)) (formD false n f) ≤ 0) : cmpD (formD s m (e + q)) (formD false n f) ≤ 0 := by
  obtain ⟨K, hK⟩ : ∃ K : Nat, K = e.natAbs + q.natAbs + p.natAbs + f.natAbs := ⟨_, rfl⟩
  have l1 : -(K : Int) ≤ (formD s m (e + p)).2.2 := form_loN _ _ _ _ (by omega) (by omega)
  have l2 : -(K : Int) ≤ (formD s m (e + q)).2.2 := form_loN _ _ _ _ (by omega) (by omega)
  have l3 : -(K : Int) ≤ (formD false n f).2.2 := form_loN _ _ _ _ (by omega) (by omega)
  rw [vI_cmp _ _ K l1 l3, cmpI_le, vI_form _ _ _ _ (by omega), vI_form _ _ _ _ (by omega)] at h
  rw [vI_cmp _ _ K l2 l3, cmpI_le, vI_form _ _ _ _ (by omega), vI_form _ _ _ _ (by omega)]
  have hm : m * 2 ^ (e + q - -(K : Int)).toNat ≤ m * 2 ^ (e + p - -(K : Int)).toNat := Nat.mul_le_mul_left _ (Nat.pow_le_pow_right (by decide) (by omega))
  generalize m * 2 ^ (e + q - -(K : Int)).toNat = A at *
  generalize m * 2 ^ (e + p - -(K : Int)).toNat = B at *
  generalize n * 2 ^ (f - -(K : Int)).toNat = C at *
  cases s with
  | false => rw [show sI false = 1 from rfl] at *; omega
  | true => rw [show sI false = 1 from rfl, show sI true = -1 from rfl] at *; omega
/-- how far both are lifted -/
def liL (n : Nat) (f : Int) : Int := 32769 - f - (blen n : Int)
def liR (m : Nat) (e : Int) (n : Nat) (f : Int) : Bool := rightB n (f + liL n f) && rightB m (e + liL n f)
def liS (m : Nat) (e : Int) (n : Nat) (f : Int) : Bool × Nat × Int := sumD (formD false n (f + liL n f)) (negD (formD false m (e + liL n f)))
/-- do near (m, e) and far (n, f) lie little apart -/
def liB (m : Nat) (e : Int) (n : Nat) (f p : Int) : Bool := decide (twE (liR m e n f) (liS m e n f) = 0) && decide (cmpD (formD (twP (liR m e n f) (liS m e n f)).1 (twP (liR m e n f) (liS m e n f)).2.1 ((twP (liR m e n f) (liS m e n f)).2.2 + min p 131073)) (formD false m (e + liL n f)) ≤ 0)
theorem liB_less (m : Nat) (e : Int) (n : Nat) (f p q : Int) (hq : q ≤ p) (h : liB m e n f p = true) : liB m e n f q = true := by
  unfold liB at *
  rw [Bool.and_eq_true] at *
  refine ⟨h.1, decide_eq_true ?_⟩
  exact shift_le _ _ _ _ _ _ _ (by omega) (of_decide_eq_true h.2)
/-- is an interval narrow -/
def nwB (s : Bool) (m : Nat) (e : Int) (t : Bool) (n : Nat) (f p : Int) : Bool :=
  sgB s m e t n f && decide (0 ≤ p) && (decide (sgV s m e t n f = 0) || (if sgV s m e t n f < 0 then liB n f m e p else liB m e n f p))
theorem nwB_less (s : Bool) (m : Nat) (e : Int) (t : Bool) (n : Nat) (f p q : Int) (h0 : 0 ≤ q) (hq : q ≤ p) (h : nwB s m e t n f p = true) : nwB s m e t n f q = true ∧ sgB s m e t n f = true := by
  unfold nwB at *
  rw [Bool.and_eq_true, Bool.and_eq_true, Bool.or_eq_true] at *
  obtain ⟨⟨h1, _⟩, h3⟩ := h
  refine ⟨⟨⟨h1, decide_eq_true h0⟩, ?_⟩, h1⟩
  rcases h3 with h3 | h3
  · exact Or.inl h3
  · right
    split
    · rename_i c
      rw [if_pos c] at h3
      exact liB_less _ _ _ _ _ _ hq h3
    · rename_i c
      rw [if_neg c] at h3
      exact liB_less _ _ _ _ _ _ hq h3

theorem tw_ok {b : Bool} {p : Bool × Nat × Int} (h : twE b p = 0) : greatB (twP b p).2.1 = false ∧ -32768 ≤ (twP b p).2.2 ∧ (twP b p).2.2 ≤ 32768 := by
  unfold twE at h
  unfold twP
  cases b with
  | false => cases h
  | true =>
    rw [if_pos rfl] at h ⊢
    have hr : rightB p.2.1 p.2.2 = true := by
      cases q : rightB p.2.1 p.2.2 with
      | true => rfl
      | false => change (if rightB p.2.1 p.2.2 = true then (0 : Int) else 3) = 0 at h; rw [q] at h; cases h
    have hp : roomP p = p := by change (if rightB p.2.1 p.2.2 = true then p else (false, 0, 0)) = p; rw [hr]; rfl
    rw [hp]
    exact rightB_yes hr

set_option maxRecDepth 100000 in
set_option maxHeartbeats 4000000 in
theorem little_calls (a : Option Addr) (n c : Nat) (xs : List Int) (e : Int) (b : Option Addr) (m d : Nat) (ys : List Int) (f p : Int) (w : World) (h : IsW w a n c xs) (hm : n ≤ 17592186044000) (hg : greatB (val xs) = false) (he : -32768 ≤ e ∧ e ≤ 32768) (h' : IsW w b m d ys) (hm' : m ≤ 17592186044000) (hg' : greatB (val ys) = false) (hf : -32768 ≤ f ∧ f ≤ 32768) (hp : 0 ≤ p) (hT : Tab w) :
    Calls Tryz.prog 12 #[dyV false a n c e, dyV false b m d f, .int .i64 p] w fun r w' => r = .returned (.bool (liB (val xs) e (val ys) f p)) ∧ Below w.heap.size w w' := by
  have bA : Below w.heap.size w ((w.alloc (.cells #[.bool false, .slice a n c, .int .i64 e] 25)).alloc (.cells #[.bool false, .slice b m d, .int .i64 f] 25)) := nT (below_one _ _) (below_one _ _)
  have l2 := (great_not _).1 hg'
  have HB : Hid _ := fun W (k : IsW W b m d ys) => bitLen_calls b m d ys W k hm' hg'
  obtain ⟨L, hL⟩ : ∃ L : Int, liL (val ys) f = L := ⟨_, rfl⟩
  obtain ⟨E1, hE1⟩ : ∃ E1 : Int, e + L = E1 := ⟨_, rfl⟩
  obtain ⟨F1, hF1⟩ : ∃ F1 : Int, f + L = F1 := ⟨_, rfl⟩
  have hR : liR (val xs) e (val ys) f = (rightB (val ys) F1 && rightB (val xs) E1) := by unfold liR; rw [hL, hE1, hF1]
  have hS : liS (val xs) e (val ys) f = sumD (formD false (val ys) F1) (negD (formD false (val xs) E1)) := by unfold liS; rw [hL, hE1, hF1]
  have hB : liB (val xs) e (val ys) f p = (decide (twE (rightB (val ys) F1 && rightB (val xs) E1) (sumD (formD false (val ys) F1) (negD (formD false (val xs) E1))) = 0) && decide (cmpD (formD (twP (rightB (val ys) F1 && rightB (val xs) E1) (sumD (formD false (val ys) F1) (negD (formD false (val xs) E1)))).1 (twP (rightB (val ys) F1 && rightB (val xs) E1) (sumD (formD false (val ys) F1) (negD (formD false (val xs) E1)))).2.1 ((twP (rightB (val ys) F1 && rightB (val xs) E1) (sumD (formD false (val ys) F1) (negD (formD false (val xs) E1)))).2.2 + min p 131073)) (formD false (val xs) E1) ≤ 0)) := by unfold liB; rw [hR, hS, hL, hE1]
  unfold liL at hL
  have v1 : IntKind.i64.wrap (32769 - f) = 32769 - f := by rw [IntKind.wrap_i64]; omega
  have v2 : IntKind.i64.wrap (32769 - f - (blen (val ys) : Int)) = L := by rw [IntKind.wrap_i64]; omega
  have v3 : IntKind.i64.wrap (e + L) = E1 := by rw [IntKind.wrap_i64]; omega
  have v4 : IntKind.i64.wrap (f + L) = F1 := by rw [IntKind.wrap_i64]; omega
  have bl : -200000 ≤ E1 ∧ E1 ≤ 200000 := by omega
  have HV : Hid _ := hB
  have HS : Hid _ := fun W (k : IsW W a n c xs) (k' : IsW W b m d ys) (t : Tab W) => pSub_calls false b m d ys F1 false a n c xs E1 W k' hm' k hm t
  have HK : Hid _ := fun q => tw_ok (b := (rightB (val ys) F1 && rightB (val xs) E1)) (p := sumD (formD false (val ys) F1) (negD (formD false (val xs) E1))) q
  have HA : Hid (∀ (s : Bool) (a2 : Option Addr) (n2 c2 M : Nat) (E : Int) (W : World), IsW W a2 n2 c2 (wordsOf M) → n2 ≤ 1024 → greatB M = false → (-200000 ≤ E ∧ E ≤ 200000) → IsW W a n c xs → Tab W → Calls Tryz.prog 24 #[dyV s a2 n2 c2 E, dyV false a n c E1] W fun r w' => r = .returned (.int .i64 (cmpD (formD s M E) (formD false (val xs) E1))) ∧ Below W.heap.size W w') := fun s a2 n2 c2 M E W k hn hg2 hE k' t => by
    have := iagainst_calls s a2 n2 c2 (wordsOf M) E false a n c xs E1 W k (by omega) (by rw [val_words]; exact hg2) k' hm hg (by omega) (by omega) t
    rwa [val_words] at this
  generalize twE (rightB (val ys) F1 && rightB (val xs) E1) (sumD (formD false (val ys) F1) (negD (formD false (val xs) E1))) = E at *
  generalize twP (rightB (val ys) F1 && rightB (val xs) E1) (sumD (formD false (val ys) F1) (negD (formD false (val xs) E1))) = D at *
  generalize liB (val xs) e (val ys) f p = B at *
  generalize (blen (val ys) : Int) = bY at *
  clear hL hE1 hF1 hR hS hB bl
  have H0 : Hid (IsW w a n c xs) := h
  have H1 : Hid (IsW w b m d ys) := h'
  replace h := h.keep bA
  replace h' := h'.keep bA
  have HTw : Hid (Tab w) := hT
  have c0 : ((w.alloc (.cells #[.bool false, .slice a n c, .int .i64 e] 25)).alloc (.cells #[.bool false, .slice b m d, .int .i64 f] 25)).cell? ⟨w.heap.size, 0, none⟩ = some (.bool false) := by go_simp
  have c1 : ((w.alloc (.cells #[.bool false, .slice a n c, .int .i64 e] 25)).alloc (.cells #[.bool false, .slice b m d, .int .i64 f] 25)).cell? ⟨w.heap.size, 1, none⟩ = some (.slice a n c) := by go_simp
  have c2 : ((w.alloc (.cells #[.bool false, .slice a n c, .int .i64 e] 25)).alloc (.cells #[.bool false, .slice b m d, .int .i64 f] 25)).cell? ⟨w.heap.size, 2, none⟩ = some (.int .i64 e) := by go_simp
  have d0 : ((w.alloc (.cells #[.bool false, .slice a n c, .int .i64 e] 25)).alloc (.cells #[.bool false, .slice b m d, .int .i64 f] 25)).cell? ⟨w.heap.size + 1, 0, none⟩ = some (.bool false) := by go_simp
  have d1 : ((w.alloc (.cells #[.bool false, .slice a n c, .int .i64 e] 25)).alloc (.cells #[.bool false, .slice b m d, .int .i64 f] 25)).cell? ⟨w.heap.size + 1, 1, none⟩ = some (.slice b m d) := by go_simp
  have d2 : ((w.alloc (.cells #[.bool false, .slice a n c, .int .i64 e] 25)).alloc (.cells #[.bool false, .slice b m d, .int .i64 f] 25)).cell? ⟨w.heap.size + 1, 2, none⟩ = some (.int .i64 f) := by go_simp
  have k1 : ((w.alloc (.cells #[.bool false, .slice a n c, .int .i64 e] 25)).alloc (.cells #[.bool false, .slice b m d, .int .i64 f] 25)).frozen? ⟨w.heap.size, 2, none⟩ = false := by go_simp
  have k2 : ((w.alloc (.cells #[.bool false, .slice a n c, .int .i64 e] 25)).alloc (.cells #[.bool false, .slice b m d, .int .i64 f] 25)).frozen? ⟨w.heap.size + 1, 2, none⟩ = false := by go_simp
  clear hm hm' hg hg' he hf hT l2
  go_enter Tryz.func12, Tryz.ntmps12
  go_wp2_with fail
  generalize ((w.alloc (.cells #[.bool false, .slice a n c, .int .i64 e] 25)).alloc (.cells #[.bool false, .slice b m d, .int .i64 f] 25)) = w0 at *
  have bD : Below w0.heap.size w0 w0.drew := (Below.refl _ _).drew
  go_region_held3 (fun W => W.cell? ⟨w.heap.size + 1, 1, none⟩ = some (.slice b m d) ∧ W.cell? ⟨w.heap.size + 1, 2, none⟩ = some (.int .i64 f))
    (first | (go_keep; done) | ((refine ⟨?_, ?_⟩ <;> (refine kC bL ?_; go_keep)); done))
    (first
      | (go_at_call 22; refine (HB.out _ (h'.keep bD)).mono ?_; rintro r w1 ⟨rfl, bL⟩; have bN := nT bD bL))
  all_goals
    replace k1 := kF bN c2 k1
    replace k2 := kF bN d2 k2
    replace c0 := kC bN c0
    replace c1 := kC bN c1
    replace c2 := kC bN c2
    replace d0 := kC bN d0
    replace d1 := kC bN d1
    replace d2 := kC bN d2
    replace h := h.keep bN
    replace h' := h'.keep bN
    replace bA := nT bA bN
    clear bN bL
    have i1 := isW_set1I (isW_set1I h ⟨w.heap.size, 2, none⟩ _ (.int .i64 E1) c2 (fun _ q => by cases q)) ⟨w.heap.size + 1, 2, none⟩ _ (.int .i64 F1) ((World.cell?_setCell_other _ _ _ _ (by simp)).trans d2) (fun _ q => by cases q)
    have i2 := isW_set1I (isW_set1I h' ⟨w.heap.size, 2, none⟩ _ (.int .i64 E1) c2 (fun _ q => by cases q)) ⟨w.heap.size + 1, 2, none⟩ _ (.int .i64 F1) ((World.cell?_setCell_other _ _ _ _ (by simp)).trans d2) (fun _ q => by cases q)
    have bF := (bA.setCell (p := ⟨w.heap.size, 2, none⟩) (Nat.le_refl _) (.int .i64 E1)).setCell (p := ⟨w.heap.size + 1, 2, none⟩) (Nat.le_succ _) (.int .i64 F1)
    have t0 := HTw.out.kept bF
    go_wp2_with fail
    refine Calls.mono (HS.out _ i1 i2 t0) ?_
    rintro r w3 ⟨_, rfl, ⟨a2, n2, c3, rfl, HN2, hn2, hO2⟩, bN⟩
    have e0 : (((w1.setCell ⟨w.heap.size, 2, none⟩ (.int .i64 E1)).setCell ⟨w.heap.size + 1, 2, none⟩ (.int .i64 F1))).cell? ⟨w.heap.size, 0, none⟩ = some (.bool false) := (World.cell?_setCell_other _ _ _ _ (by simp)).trans ((World.cell?_setCell_other _ _ _ _ (by simp)).trans c0)
    have e1 : (((w1.setCell ⟨w.heap.size, 2, none⟩ (.int .i64 E1)).setCell ⟨w.heap.size + 1, 2, none⟩ (.int .i64 F1))).cell? ⟨w.heap.size, 1, none⟩ = some (.slice a n c) := (World.cell?_setCell_other _ _ _ _ (by simp)).trans ((World.cell?_setCell_other _ _ _ _ (by simp)).trans c1)
    have e2 : (((w1.setCell ⟨w.heap.size, 2, none⟩ (.int .i64 E1)).setCell ⟨w.heap.size + 1, 2, none⟩ (.int .i64 F1))).cell? ⟨w.heap.size, 2, none⟩ = some (.int .i64 E1) := (World.cell?_setCell_other _ _ _ _ (by simp)).trans (World.cell?_setCell_same _ _ _ c2)
    replace e0 := kC bN e0
    replace e1 := kC bN e1
    replace e2 := kC bN e2
    replace i1 := i1.keep bN
    replace bF := nT bF bN
    have t1 := t0.kept bN
    clear t0 i2 c0 c1 c2 d0 d1 d2 k1 k2 h h' bN bA HS HB
    by_cases q : E = 0
    · obtain ⟨g1, g2, g3⟩ := HK.out q
      rw [decide_eq_true q, Bool.true_and] at HV
      subst q
      have u1 : IntKind.i64.wrap (D.2.2 + min p 131073) = D.2.2 + min p 131073 := by rw [IntKind.wrap_i64]; omega
      have hE : -200000 ≤ D.2.2 + min p 131073 ∧ D.2.2 + min p 131073 ≤ 200000 := by omega
      have ne : w.heap.size ≠ w3.heap.size := Nat.ne_of_lt (World.block_lt_of_cell? _ _ e0)
      have ne' : w3.heap.size ≠ w.heap.size := Ne.symm ne
      have bN := below_one w3 (.cells #[.bool D.1, .slice a2 n2 c3, .int .i64 (D.2.2 + min p 131073)] 25)
      have x0 := kC bN e0
      have x1 := kC bN e1
      have x2 := kC bN e2
      have j1 := i1.keep bN
      have j2 := hO2.1.keep bN
      replace bF := nT bF bN
      have t2 := HTw.out.kept bF
      clear bN HK t1
      go_wp2_with fail
      refine Calls.mono (HA.out _ _ _ _ _ _ _ j2 hn2 g1 hE j1 t2) ?_
      rintro r w5 ⟨rfl, bN⟩
      replace bF := nT bF bN
      go_wp2_with fail
      go_ret
      exact ⟨by rw [HV.out]; rfl, bF⟩
    · rw [decide_eq_false q, Bool.false_and] at HV
      have q' : (E == 0) = false := beq_eq_false_iff_ne.2 q
      have bN := below_one w3 (.cells #[.bool D.1, .slice a2 n2 c3, .int .i64 D.2.2] 25)
      replace bF := nT bF bN
      clear bN HK
      go_wp2_with fail
      go_ret
      exact ⟨by rw [HV.out]; rfl, bF⟩

theorem sg_ok {s : Bool} {m : Nat} {e : Int} {t : Bool} {n : Nat} {f : Int} (h : sgB s m e t n f = true) : (greatB m = false ∧ -32768 ≤ e ∧ e ≤ 32768) ∧ (greatB n = false ∧ -32768 ≤ f ∧ f ≤ 32768) := by
  unfold sgB at h
  have h1 := (of_decide_eq_true h).1
  unfold rtI at h1
  rw [Bool.and_eq_true, Bool.and_eq_true] at h1
  exact ⟨rightB_yes h1.1.1, rightB_yes h1.1.2⟩
theorem sg_three (s : Bool) (m : Nat) (e : Int) (t : Bool) (n : Nat) (f : Int) : sgV s m e t n f = 0 ∨ sgV s m e t n f = 1 ∨ sgV s m e t n f = -1 := by
  have key : ∀ q : Bool × Nat × Int, sgnD q = 0 ∨ sgnD q = 1 ∨ sgnD q = -1 := fun q => by
    unfold sgnD
    by_cases c : q.2.1 = 0
    · left; rw [if_pos c]
    · by_cases k : q.1 = true
      · right; right; rw [if_neg c, if_pos k]
      · right; left; rw [if_neg c, if_neg k]
  unfold sgV
  by_cases c : rtI s m e t n f = true ∧ sgnD (formD s m e) = sgnD (formD t n f)
  · rw [if_pos c]; exact key _
  · rw [if_neg c]; left; rfl

set_option maxRecDepth 100000 in
set_option maxHeartbeats 4000000 in
theorem narrow_not (s : Bool) (a : Option Addr) (len cap : Nat) (xs : List Int) (e : Int) (t : Bool) (b : Option Addr) (bl bc : Nat) (ys : List Int) (f p : Int) (w : World) (h : IsW w a len cap xs) (hm : len ≤ 17592186044000) (h' : IsW w b bl bc ys) (hm' : bl ≤ 17592186044000) (hT : Tab w) (hn : (sgB s (val xs) e t (val ys) f && decide (0 ≤ p)) = false) :
    Calls Tryz.prog 5 #[ivI s a len cap e t b bl bc f, .int .i64 p] w fun r w' => r = .returned (.bool (nwB s (val xs) e t (val ys) f p)) ∧ Below w.heap.size w w' := by
  have bA : Below w.heap.size w (w.alloc (.cells #[.bool s, .slice a len cap, .int .i64 e, .bool t, .slice b bl bc, .int .i64 f] 27)) := below_one _ _
  have HS : Hid _ := ivSign_calls s a len cap xs e t b bl bc ys f (w.alloc (.cells #[.bool s, .slice a len cap, .int .i64 e, .bool t, .slice b bl bc, .int .i64 f] 27)) (h.keep bA) hm (h'.keep bA) hm' (hT.kept bA)
  have c0 : (w.alloc (.cells #[.bool s, .slice a len cap, .int .i64 e, .bool t, .slice b bl bc, .int .i64 f] 27)).cell? ⟨w.heap.size, 0, none⟩ = some (.bool s) := by go_simp
  have c1 : (w.alloc (.cells #[.bool s, .slice a len cap, .int .i64 e, .bool t, .slice b bl bc, .int .i64 f] 27)).cell? ⟨w.heap.size, 1, none⟩ = some (.slice a len cap) := by go_simp
  have c2 : (w.alloc (.cells #[.bool s, .slice a len cap, .int .i64 e, .bool t, .slice b bl bc, .int .i64 f] 27)).cell? ⟨w.heap.size, 2, none⟩ = some (.int .i64 e) := by go_simp
  have c3 : (w.alloc (.cells #[.bool s, .slice a len cap, .int .i64 e, .bool t, .slice b bl bc, .int .i64 f] 27)).cell? ⟨w.heap.size, 3, none⟩ = some (.bool t) := by go_simp
  have c4 : (w.alloc (.cells #[.bool s, .slice a len cap, .int .i64 e, .bool t, .slice b bl bc, .int .i64 f] 27)).cell? ⟨w.heap.size, 4, none⟩ = some (.slice b bl bc) := by go_simp
  have c5 : (w.alloc (.cells #[.bool s, .slice a len cap, .int .i64 e, .bool t, .slice b bl bc, .int .i64 f] 27)).cell? ⟨w.heap.size, 5, none⟩ = some (.int .i64 f) := by go_simp
  have HV : Hid (nwB s (val xs) e t (val ys) f p = false) := by show _ = _; unfold nwB; rw [hn]; rfl
  generalize nwB s (val xs) e t (val ys) f p = B at *
  generalize sgV s (val xs) e t (val ys) f = v at *
  cases hb : sgB s (val xs) e t (val ys) f with
  | false =>
    rw [hb] at HS
    clear hn hb
    go_enter Tryz.func5, Tryz.ntmps5
    go_wp2_with fail
    refine Calls.mono HS.out ?_
    rintro r w1 ⟨rfl, bN⟩
    replace bA := nT bA bN
    go_wp2_with fail
    go_ret
    exact ⟨by rw [HV.out]; rfl, bA⟩
  | true =>
    rw [hb] at HS
    have hp : p < 0 := by rw [hb, Bool.true_and] at hn; have := of_decide_eq_false hn; omega
    clear hn hb
    go_enter Tryz.func5, Tryz.ntmps5
    go_wp2_with fail
    refine Calls.mono HS.out ?_
    rintro r w1 ⟨rfl, bN⟩
    replace bA := nT bA bN
    go_wp2_with fail
    go_ret
    exact ⟨by rw [HV.out]; rfl, bA⟩

set_option maxRecDepth 100000 in
set_option maxHeartbeats 4000000 in
theorem narrow_z (s : Bool) (a : Option Addr) (len cap : Nat) (xs : List Int) (e : Int) (t : Bool) (b : Option Addr) (bl bc : Nat) (ys : List Int) (f p : Int) (w : World) (h : IsW w a len cap xs) (hm : len ≤ 17592186044000) (h' : IsW w b bl bc ys) (hm' : bl ≤ 17592186044000) (hT : Tab w) (hb : sgB s (val xs) e t (val ys) f = true) (hp : 0 ≤ p) (hv : sgV s (val xs) e t (val ys) f = 0) :
    Calls Tryz.prog 5 #[ivI s a len cap e t b bl bc f, .int .i64 p] w fun r w' => r = .returned (.bool (nwB s (val xs) e t (val ys) f p)) ∧ Below w.heap.size w w' := by
  have bA : Below w.heap.size w (w.alloc (.cells #[.bool s, .slice a len cap, .int .i64 e, .bool t, .slice b bl bc, .int .i64 f] 27)) := below_one _ _
  have HS : Hid _ := ivSign_calls s a len cap xs e t b bl bc ys f (w.alloc (.cells #[.bool s, .slice a len cap, .int .i64 e, .bool t, .slice b bl bc, .int .i64 f] 27)) (h.keep bA) hm (h'.keep bA) hm' (hT.kept bA)
  have c0 : (w.alloc (.cells #[.bool s, .slice a len cap, .int .i64 e, .bool t, .slice b bl bc, .int .i64 f] 27)).cell? ⟨w.heap.size, 0, none⟩ = some (.bool s) := by go_simp
  have c1 : (w.alloc (.cells #[.bool s, .slice a len cap, .int .i64 e, .bool t, .slice b bl bc, .int .i64 f] 27)).cell? ⟨w.heap.size, 1, none⟩ = some (.slice a len cap) := by go_simp
  have c2 : (w.alloc (.cells #[.bool s, .slice a len cap, .int .i64 e, .bool t, .slice b bl bc, .int .i64 f] 27)).cell? ⟨w.heap.size, 2, none⟩ = some (.int .i64 e) := by go_simp
  have c3 : (w.alloc (.cells #[.bool s, .slice a len cap, .int .i64 e, .bool t, .slice b bl bc, .int .i64 f] 27)).cell? ⟨w.heap.size, 3, none⟩ = some (.bool t) := by go_simp
  have c4 : (w.alloc (.cells #[.bool s, .slice a len cap, .int .i64 e, .bool t, .slice b bl bc, .int .i64 f] 27)).cell? ⟨w.heap.size, 4, none⟩ = some (.slice b bl bc) := by go_simp
  have c5 : (w.alloc (.cells #[.bool s, .slice a len cap, .int .i64 e, .bool t, .slice b bl bc, .int .i64 f] 27)).cell? ⟨w.heap.size, 5, none⟩ = some (.int .i64 f) := by go_simp
  obtain ⟨⟨g1, g2⟩, ⟨g3, g4⟩⟩ := sg_ok hb
  have HV : Hid (nwB s (val xs) e t (val ys) f p = true) := by show _ = _; unfold nwB; rw [hb, hv, decide_eq_true hp]; simp
  rw [hb, hv] at HS
  generalize nwB s (val xs) e t (val ys) f p = B at *
  have np : ¬ p < 0 := by omega
  clear hb hv g1 g2 g3 g4
  replace h := h.keep bA
  replace h' := h'.keep bA
  have HTw : Hid (Tab w) := hT
  clear hT
  go_enter Tryz.func5, Tryz.ntmps5
  go_wp2_with fail
  refine Calls.mono HS.out ?_
  generalize (w.alloc (.cells #[.bool s, .slice a len cap, .int .i64 e, .bool t, .slice b bl bc, .int .i64 f] 27)) = w0 at *
  rintro r w1 ⟨rfl, bN⟩
  replace bA := nT bA bN
  replace h := h.keep bN
  replace h' := h'.keep bN
  replace c0 := kC bN c0
  replace c1 := kC bN c1
  replace c2 := kC bN c2
  replace c3 := kC bN c3
  replace c4 := kC bN c4
  replace c5 := kC bN c5
  clear bN HS
  go_wp2_with fail
  generalize hA : w.heap.size = A at c0 c1 c2 c3 c4 c5 ⊢
  have lA : A < w1.heap.size := World.block_lt_of_cell? _ _ c0
  refine wp_region_held (S := fun W => W.cell? ⟨A, 0, none⟩ = some (.bool s) ∧ W.cell? ⟨A, 1, none⟩ = some (.slice a len cap) ∧ W.cell? ⟨A, 2, none⟩ = some (.int .i64 e) ∧ W.cell? ⟨A, 3, none⟩ = some (.bool t) ∧ W.cell? ⟨A, 4, none⟩ = some (.slice b bl bc) ∧ W.cell? ⟨A, 5, none⟩ = some (.int .i64 f)) (by kernel_rfl) ?_
  change wpAnyH _ _ _ _ _ _ _ _ (World.drew w1)
  have bD : Below w1.heap.size w1 w1.drew := (Below.refl _ _).drew
  replace c0 := kC bD c0
  replace c1 := kC bD c1
  replace c2 := kC bD c2
  replace c3 := kC bD c3
  replace c4 := kC bD c4
  replace c5 := kC bD c5
  generalize World.drew w1 = wd at *
  refine wpAnyH_take (i := 0) (oi := { dst := some 20, op := Op.fieldAddr 27 (Operand.tmp 2) 0, type := 0, pos := "ival.go:89", after := #[], guard := none }) (v := .pointer (some ⟨A, 0, none⟩)) rfl (by kernel_rfl) (by kernel_rfl) (by kernel_rfl) (fun _ _ _ h => h) (Or.inl ⟨by rfl, ?y0⟩) ⟨c0, c1, c2, c3, c4, c5⟩ ?r0
  case y0 => (intro ww hS; obtain ⟨c0, c1, c2, c3, c4, c5⟩ := hS; go_simp; try with_reducible rfl)
  try simp only [Act.put, List.setIfInBounds_toArray, List.set_cons_zero, List.set_cons_succ]
  refine wpAnyH_take (i := 1) (oi := { dst := some 21, op := Op.load 25 (Operand.tmp 20), type := 25, pos := "ival.go:89", after := #[{ on := 0, ground := Ground.data }], guard := none }) (v := .agg #[.bool s, .slice a len cap, .int .i64 e]) rfl (by kernel_rfl) (by kernel_rfl) (by kernel_rfl) (fun _ _ _ h => h) (Or.inl ⟨by rfl, ?y1⟩) ⟨c0, c1, c2, c3, c4, c5⟩ ?r1
  case y1 => (intro ww hS; obtain ⟨c0, c1, c2, c3, c4, c5⟩ := hS; go_simp; try with_reducible rfl)
  try simp only [Act.put, List.setIfInBounds_toArray, List.set_cons_zero, List.set_cons_succ]
  refine wpAnyH_take (i := 2) (oi := { dst := some 22, op := Op.fieldAddr 27 (Operand.tmp 2) 1, type := 0, pos := "ival.go:89", after := #[{ on := 6, ground := Ground.gcOnly Departure.lateStores }], guard := none }) (v := .pointer (some ⟨A, 3, none⟩)) rfl (by kernel_rfl) (by kernel_rfl) (by kernel_rfl) (fun _ _ _ h => h) (Or.inl ⟨by rfl, ?y2⟩) ⟨c0, c1, c2, c3, c4, c5⟩ ?r2
  case y2 => (intro ww hS; obtain ⟨c0, c1, c2, c3, c4, c5⟩ := hS; go_simp; try with_reducible rfl)
  try simp only [Act.put, List.setIfInBounds_toArray, List.set_cons_zero, List.set_cons_succ]
  refine wpAnyH_take (i := 3) (oi := { dst := some 23, op := Op.load 25 (Operand.tmp 22), type := 25, pos := "ival.go:89", after := #[{ on := 2, ground := Ground.data }, { on := 6, ground := Ground.gcOnly Departure.lateStores }], guard := none }) (v := .agg #[.bool t, .slice b bl bc, .int .i64 f]) rfl (by kernel_rfl) (by kernel_rfl) (by kernel_rfl) (fun _ _ _ h => h) (Or.inl ⟨by rfl, ?y3⟩) ⟨c0, c1, c2, c3, c4, c5⟩ ?r3
  case y3 => (intro ww hS; obtain ⟨c0, c1, c2, c3, c4, c5⟩ := hS; go_simp; try with_reducible rfl)
  try simp only [Act.put, List.setIfInBounds_toArray, List.set_cons_zero, List.set_cons_succ]
  have hX : w1.heap.size ≤ wd.heap.size := bD.size
  refine wpAnyH_ready (rs := [4, 5]) (by kernel_rfl) (by simp) ?_
  refine AllReadyH.cons rfl (fun K hK => ?_) (AllReadyH.cons rfl (fun K hK => ?_) AllReadyH.nil)
  · go_simp
    have b1 := below_one wd (.cells #[.bool false, .slice none 0 0, .int .i64 0] 25)
    replace c0 := kC b1 c0
    replace c1 := kC b1 c1
    replace c2 := kC b1 c2
    replace c3 := kC b1 c3
    replace c4 := kC b1 c4
    replace c5 := kC b1 c5
    refine hK.out _ _ ⟨c0, c1, c2, c3, c4, c5⟩ (fun _ => ?_)
    clear hK K
    refine wpAnyH_ready (rs := [5]) (by kernel_rfl) (by simp) ?_
    refine AllReadyH.cons rfl (fun K hK => ?_) AllReadyH.nil
    go_simp
    have b2 := below_one (wd.alloc (.cells #[.bool false, .slice none 0 0, .int .i64 0] 25)) (.cells #[.bool false, .slice none 0 0, .int .i64 0] 25)
    replace c0 := kC b2 c0
    replace c1 := kC b2 c1
    replace c2 := kC b2 c2
    replace c3 := kC b2 c3
    replace c4 := kC b2 c4
    replace c5 := kC b2 c5
    refine hK.out _ _ ⟨c0, c1, c2, c3, c4, c5⟩ (fun _ => ?_)
    clear hK K
    have n0 : ((wd.alloc (.cells #[.bool false, .slice none 0 0, .int .i64 0] 25)).alloc (.cells #[.bool false, .slice none 0 0, .int .i64 0] 25)).cell? ⟨wd.heap.size, 0, none⟩ = some (.bool false) := by go_simp
    have nf0 : ((wd.alloc (.cells #[.bool false, .slice none 0 0, .int .i64 0] 25)).alloc (.cells #[.bool false, .slice none 0 0, .int .i64 0] 25)).frozen? ⟨wd.heap.size, 0, none⟩ = false := by go_simp
    have n1 : ((wd.alloc (.cells #[.bool false, .slice none 0 0, .int .i64 0] 25)).alloc (.cells #[.bool false, .slice none 0 0, .int .i64 0] 25)).cell? ⟨wd.heap.size, 1, none⟩ = some (.slice none 0 0) := by go_simp
    have nf1 : ((wd.alloc (.cells #[.bool false, .slice none 0 0, .int .i64 0] 25)).alloc (.cells #[.bool false, .slice none 0 0, .int .i64 0] 25)).frozen? ⟨wd.heap.size, 1, none⟩ = false := by go_simp
    have n2 : ((wd.alloc (.cells #[.bool false, .slice none 0 0, .int .i64 0] 25)).alloc (.cells #[.bool false, .slice none 0 0, .int .i64 0] 25)).cell? ⟨wd.heap.size, 2, none⟩ = some (.int .i64 0) := by go_simp
    have nf2 : ((wd.alloc (.cells #[.bool false, .slice none 0 0, .int .i64 0] 25)).alloc (.cells #[.bool false, .slice none 0 0, .int .i64 0] 25)).frozen? ⟨wd.heap.size, 2, none⟩ = false := by go_simp
    have m0 : ((wd.alloc (.cells #[.bool false, .slice none 0 0, .int .i64 0] 25)).alloc (.cells #[.bool false, .slice none 0 0, .int .i64 0] 25)).cell? ⟨wd.heap.size + 1, 0, none⟩ = some (.bool false) := by go_simp
    have mf0 : ((wd.alloc (.cells #[.bool false, .slice none 0 0, .int .i64 0] 25)).alloc (.cells #[.bool false, .slice none 0 0, .int .i64 0] 25)).frozen? ⟨wd.heap.size + 1, 0, none⟩ = false := by go_simp
    have m1 : ((wd.alloc (.cells #[.bool false, .slice none 0 0, .int .i64 0] 25)).alloc (.cells #[.bool false, .slice none 0 0, .int .i64 0] 25)).cell? ⟨wd.heap.size + 1, 1, none⟩ = some (.slice none 0 0) := by go_simp
    have mf1 : ((wd.alloc (.cells #[.bool false, .slice none 0 0, .int .i64 0] 25)).alloc (.cells #[.bool false, .slice none 0 0, .int .i64 0] 25)).frozen? ⟨wd.heap.size + 1, 1, none⟩ = false := by go_simp
    have m2 : ((wd.alloc (.cells #[.bool false, .slice none 0 0, .int .i64 0] 25)).alloc (.cells #[.bool false, .slice none 0 0, .int .i64 0] 25)).cell? ⟨wd.heap.size + 1, 2, none⟩ = some (.int .i64 0) := by go_simp
    have mf2 : ((wd.alloc (.cells #[.bool false, .slice none 0 0, .int .i64 0] 25)).alloc (.cells #[.bool false, .slice none 0 0, .int .i64 0] 25)).frozen? ⟨wd.heap.size + 1, 2, none⟩ = false := by go_simp
    have bB := nT bD (nT b1 b2)
    clear b1 b2 bD
    generalize ((wd.alloc (.cells #[.bool false, .slice none 0 0, .int .i64 0] 25)).alloc (.cells #[.bool false, .slice none 0 0, .int .i64 0] 25)) = v0 at *
    generalize wd.heap.size = X at *
    have nA : A ≠ X := by omega
    have nB : A ≠ X + 1 := by omega
    refine wpAnyH_ready (rs := [6]) (by kernel_rfl) (by simp) ?_
    refine AllReadyH.cons rfl (fun K hK => ?_) AllReadyH.nil
    go_simp
    replace c0 := set3_cell (r := X) (v0 := .bool s) (v1 := .slice a len cap) (v2 := .int .i64 e) c0 nA
    replace c1 := set3_cell (r := X) (v0 := .bool s) (v1 := .slice a len cap) (v2 := .int .i64 e) c1 nA
    replace c2 := set3_cell (r := X) (v0 := .bool s) (v1 := .slice a len cap) (v2 := .int .i64 e) c2 nA
    replace c3 := set3_cell (r := X) (v0 := .bool s) (v1 := .slice a len cap) (v2 := .int .i64 e) c3 nA
    replace c4 := set3_cell (r := X) (v0 := .bool s) (v1 := .slice a len cap) (v2 := .int .i64 e) c4 nA
    replace c5 := set3_cell (r := X) (v0 := .bool s) (v1 := .slice a len cap) (v2 := .int .i64 e) c5 nA
    replace m0 := set3_cell (r := X) (v0 := .bool s) (v1 := .slice a len cap) (v2 := .int .i64 e) m0 (by omega)
    replace m1 := set3_cell (r := X) (v0 := .bool s) (v1 := .slice a len cap) (v2 := .int .i64 e) m1 (by omega)
    replace m2 := set3_cell (r := X) (v0 := .bool s) (v1 := .slice a len cap) (v2 := .int .i64 e) m2 (by omega)
    replace nf0 := set3_frozen (r := X) (v0 := .bool s) (v1 := .slice a len cap) (v2 := .int .i64 e) nf0
    replace nf1 := set3_frozen (r := X) (v0 := .bool s) (v1 := .slice a len cap) (v2 := .int .i64 e) nf1
    replace nf2 := set3_frozen (r := X) (v0 := .bool s) (v1 := .slice a len cap) (v2 := .int .i64 e) nf2
    replace mf0 := set3_frozen (r := X) (v0 := .bool s) (v1 := .slice a len cap) (v2 := .int .i64 e) mf0
    replace mf1 := set3_frozen (r := X) (v0 := .bool s) (v1 := .slice a len cap) (v2 := .int .i64 e) mf1
    replace mf2 := set3_frozen (r := X) (v0 := .bool s) (v1 := .slice a len cap) (v2 := .int .i64 e) mf2
    obtain ⟨n0, n1, n2⟩ := set3_same (v0 := .bool s) (v1 := .slice a len cap) (v2 := .int .i64 e) n0 n1 n2
    refine hK.out _ _ ⟨c0, c1, c2, c3, c4, c5⟩ (fun _ => ?_)
    clear hK K
    replace bB := (((bB.setCell (p := ⟨X, 0, none⟩) hX (.bool s)).setCell (p := ⟨X, 1, none⟩) hX (.slice a len cap)).setCell (p := ⟨X, 2, none⟩) hX (.int .i64 e))
    generalize (((v0.setCell ⟨X, 0, none⟩ (.bool s)).setCell ⟨X, 1, none⟩ (.slice a len cap)).setCell ⟨X, 2, none⟩ (.int .i64 e)) = v1 at *
    refine wpAnyH_ready (rs := [7]) (by kernel_rfl) (by simp) ?_
    refine AllReadyH.cons rfl (fun K hK => ?_) AllReadyH.nil
    go_simp
    replace c0 := set3_cell (r := X + 1) (v0 := .bool t) (v1 := .slice b bl bc) (v2 := .int .i64 f) c0 nB
    replace c1 := set3_cell (r := X + 1) (v0 := .bool t) (v1 := .slice b bl bc) (v2 := .int .i64 f) c1 nB
    replace c2 := set3_cell (r := X + 1) (v0 := .bool t) (v1 := .slice b bl bc) (v2 := .int .i64 f) c2 nB
    replace c3 := set3_cell (r := X + 1) (v0 := .bool t) (v1 := .slice b bl bc) (v2 := .int .i64 f) c3 nB
    replace c4 := set3_cell (r := X + 1) (v0 := .bool t) (v1 := .slice b bl bc) (v2 := .int .i64 f) c4 nB
    replace c5 := set3_cell (r := X + 1) (v0 := .bool t) (v1 := .slice b bl bc) (v2 := .int .i64 f) c5 nB
    replace n0 := set3_cell (r := X + 1) (v0 := .bool t) (v1 := .slice b bl bc) (v2 := .int .i64 f) n0 (by omega)
    replace n1 := set3_cell (r := X + 1) (v0 := .bool t) (v1 := .slice b bl bc) (v2 := .int .i64 f) n1 (by omega)
    replace n2 := set3_cell (r := X + 1) (v0 := .bool t) (v1 := .slice b bl bc) (v2 := .int .i64 f) n2 (by omega)
    replace nf0 := set3_frozen (r := X + 1) (v0 := .bool t) (v1 := .slice b bl bc) (v2 := .int .i64 f) nf0
    replace nf1 := set3_frozen (r := X + 1) (v0 := .bool t) (v1 := .slice b bl bc) (v2 := .int .i64 f) nf1
    replace nf2 := set3_frozen (r := X + 1) (v0 := .bool t) (v1 := .slice b bl bc) (v2 := .int .i64 f) nf2
    replace mf0 := set3_frozen (r := X + 1) (v0 := .bool t) (v1 := .slice b bl bc) (v2 := .int .i64 f) mf0
    replace mf1 := set3_frozen (r := X + 1) (v0 := .bool t) (v1 := .slice b bl bc) (v2 := .int .i64 f) mf1
    replace mf2 := set3_frozen (r := X + 1) (v0 := .bool t) (v1 := .slice b bl bc) (v2 := .int .i64 f) mf2
    obtain ⟨m0, m1, m2⟩ := set3_same (v0 := .bool t) (v1 := .slice b bl bc) (v2 := .int .i64 f) m0 m1 m2
    refine hK.out _ _ ⟨c0, c1, c2, c3, c4, c5⟩ (fun _ => ?_)
    clear hK K
    replace bB := (((bB.setCell (p := ⟨X + 1, 0, none⟩) (Nat.le_succ_of_le hX) (.bool t)).setCell (p := ⟨X + 1, 1, none⟩) (Nat.le_succ_of_le hX) (.slice b bl bc)).setCell (p := ⟨X + 1, 2, none⟩) (Nat.le_succ_of_le hX) (.int .i64 f))
    generalize (((v1.setCell ⟨X + 1, 0, none⟩ (.bool t)).setCell ⟨X + 1, 1, none⟩ (.slice b bl bc)).setCell ⟨X + 1, 2, none⟩ (.int .i64 f)) = v2 at *
    refine wpAnyH_done (by kernel_rfl) ?_ _
    try simp only [Act.put, List.setIfInBounds_toArray, List.set_cons_zero, List.set_cons_succ]
    clear c0 c1 c2 c3 c4 c5
    go_wp2_with fail
    go_ret
    refine ⟨by rw [HV.out]; rfl, nT bA ?_⟩
    repeat (first | (with_reducible exact bB) | (with_reducible refine Below.setCell ?_ (by first | exact hX | exact Nat.le_succ_of_le hX) _))
  · go_simp
    have b1 := below_one wd (.cells #[.bool false, .slice none 0 0, .int .i64 0] 25)
    replace c0 := kC b1 c0
    replace c1 := kC b1 c1
    replace c2 := kC b1 c2
    replace c3 := kC b1 c3
    replace c4 := kC b1 c4
    replace c5 := kC b1 c5
    refine hK.out _ _ ⟨c0, c1, c2, c3, c4, c5⟩ (fun _ => ?_)
    clear hK K
    refine wpAnyH_ready (rs := [4]) (by kernel_rfl) (by simp) ?_
    refine AllReadyH.cons rfl (fun K hK => ?_) AllReadyH.nil
    go_simp
    have b2 := below_one (wd.alloc (.cells #[.bool false, .slice none 0 0, .int .i64 0] 25)) (.cells #[.bool false, .slice none 0 0, .int .i64 0] 25)
    replace c0 := kC b2 c0
    replace c1 := kC b2 c1
    replace c2 := kC b2 c2
    replace c3 := kC b2 c3
    replace c4 := kC b2 c4
    replace c5 := kC b2 c5
    refine hK.out _ _ ⟨c0, c1, c2, c3, c4, c5⟩ (fun _ => ?_)
    clear hK K
    have n0 : ((wd.alloc (.cells #[.bool false, .slice none 0 0, .int .i64 0] 25)).alloc (.cells #[.bool false, .slice none 0 0, .int .i64 0] 25)).cell? ⟨wd.heap.size + 1, 0, none⟩ = some (.bool false) := by go_simp
    have nf0 : ((wd.alloc (.cells #[.bool false, .slice none 0 0, .int .i64 0] 25)).alloc (.cells #[.bool false, .slice none 0 0, .int .i64 0] 25)).frozen? ⟨wd.heap.size + 1, 0, none⟩ = false := by go_simp
    have n1 : ((wd.alloc (.cells #[.bool false, .slice none 0 0, .int .i64 0] 25)).alloc (.cells #[.bool false, .slice none 0 0, .int .i64 0] 25)).cell? ⟨wd.heap.size + 1, 1, none⟩ = some (.slice none 0 0) := by go_simp
    have nf1 : ((wd.alloc (.cells #[.bool false, .slice none 0 0, .int .i64 0] 25)).alloc (.cells #[.bool false, .slice none 0 0, .int .i64 0] 25)).frozen? ⟨wd.heap.size + 1, 1, none⟩ = false := by go_simp
    have n2 : ((wd.alloc (.cells #[.bool false, .slice none 0 0, .int .i64 0] 25)).alloc (.cells #[.bool false, .slice none 0 0, .int .i64 0] 25)).cell? ⟨wd.heap.size + 1, 2, none⟩ = some (.int .i64 0) := by go_simp
    have nf2 : ((wd.alloc (.cells #[.bool false, .slice none 0 0, .int .i64 0] 25)).alloc (.cells #[.bool false, .slice none 0 0, .int .i64 0] 25)).frozen? ⟨wd.heap.size + 1, 2, none⟩ = false := by go_simp
    have m0 : ((wd.alloc (.cells #[.bool false, .slice none 0 0, .int .i64 0] 25)).alloc (.cells #[.bool false, .slice none 0 0, .int .i64 0] 25)).cell? ⟨wd.heap.size, 0, none⟩ = some (.bool false) := by go_simp
    have mf0 : ((wd.alloc (.cells #[.bool false, .slice none 0 0, .int .i64 0] 25)).alloc (.cells #[.bool false, .slice none 0 0, .int .i64 0] 25)).frozen? ⟨wd.heap.size, 0, none⟩ = false := by go_simp
    have m1 : ((wd.alloc (.cells #[.bool false, .slice none 0 0, .int .i64 0] 25)).alloc (.cells #[.bool false, .slice none 0 0, .int .i64 0] 25)).cell? ⟨wd.heap.size, 1, none⟩ = some (.slice none 0 0) := by go_simp
    have mf1 : ((wd.alloc (.cells #[.bool false, .slice none 0 0, .int .i64 0] 25)).alloc (.cells #[.bool false, .slice none 0 0, .int .i64 0] 25)).frozen? ⟨wd.heap.size, 1, none⟩ = false := by go_simp
    have m2 : ((wd.alloc (.cells #[.bool false, .slice none 0 0, .int .i64 0] 25)).alloc (.cells #[.bool false, .slice none 0 0, .int .i64 0] 25)).cell? ⟨wd.heap.size, 2, none⟩ = some (.int .i64 0) := by go_simp
    have mf2 : ((wd.alloc (.cells #[.bool false, .slice none 0 0, .int .i64 0] 25)).alloc (.cells #[.bool false, .slice none 0 0, .int .i64 0] 25)).frozen? ⟨wd.heap.size, 2, none⟩ = false := by go_simp
    have bB := nT bD (nT b1 b2)
    clear b1 b2 bD
    generalize ((wd.alloc (.cells #[.bool false, .slice none 0 0, .int .i64 0] 25)).alloc (.cells #[.bool false, .slice none 0 0, .int .i64 0] 25)) = v0 at *
    generalize wd.heap.size = X at *
    have nA : A ≠ X := by omega
    have nB : A ≠ X + 1 := by omega
    refine wpAnyH_ready (rs := [6]) (by kernel_rfl) (by simp) ?_
    refine AllReadyH.cons rfl (fun K hK => ?_) AllReadyH.nil
    go_simp
    replace c0 := set3_cell (r := X + 1) (v0 := .bool s) (v1 := .slice a len cap) (v2 := .int .i64 e) c0 nB
    replace c1 := set3_cell (r := X + 1) (v0 := .bool s) (v1 := .slice a len cap) (v2 := .int .i64 e) c1 nB
    replace c2 := set3_cell (r := X + 1) (v0 := .bool s) (v1 := .slice a len cap) (v2 := .int .i64 e) c2 nB
    replace c3 := set3_cell (r := X + 1) (v0 := .bool s) (v1 := .slice a len cap) (v2 := .int .i64 e) c3 nB
    replace c4 := set3_cell (r := X + 1) (v0 := .bool s) (v1 := .slice a len cap) (v2 := .int .i64 e) c4 nB
    replace c5 := set3_cell (r := X + 1) (v0 := .bool s) (v1 := .slice a len cap) (v2 := .int .i64 e) c5 nB
    replace m0 := set3_cell (r := X + 1) (v0 := .bool s) (v1 := .slice a len cap) (v2 := .int .i64 e) m0 (by omega)
    replace m1 := set3_cell (r := X + 1) (v0 := .bool s) (v1 := .slice a len cap) (v2 := .int .i64 e) m1 (by omega)
    replace m2 := set3_cell (r := X + 1) (v0 := .bool s) (v1 := .slice a len cap) (v2 := .int .i64 e) m2 (by omega)
    replace nf0 := set3_frozen (r := X + 1) (v0 := .bool s) (v1 := .slice a len cap) (v2 := .int .i64 e) nf0
    replace nf1 := set3_frozen (r := X + 1) (v0 := .bool s) (v1 := .slice a len cap) (v2 := .int .i64 e) nf1
    replace nf2 := set3_frozen (r := X + 1) (v0 := .bool s) (v1 := .slice a len cap) (v2 := .int .i64 e) nf2
    replace mf0 := set3_frozen (r := X + 1) (v0 := .bool s) (v1 := .slice a len cap) (v2 := .int .i64 e) mf0
    replace mf1 := set3_frozen (r := X + 1) (v0 := .bool s) (v1 := .slice a len cap) (v2 := .int .i64 e) mf1
    replace mf2 := set3_frozen (r := X + 1) (v0 := .bool s) (v1 := .slice a len cap) (v2 := .int .i64 e) mf2
    obtain ⟨n0, n1, n2⟩ := set3_same (v0 := .bool s) (v1 := .slice a len cap) (v2 := .int .i64 e) n0 n1 n2
    refine hK.out _ _ ⟨c0, c1, c2, c3, c4, c5⟩ (fun _ => ?_)
    clear hK K
    replace bB := (((bB.setCell (p := ⟨X + 1, 0, none⟩) (Nat.le_succ_of_le hX) (.bool s)).setCell (p := ⟨X + 1, 1, none⟩) (Nat.le_succ_of_le hX) (.slice a len cap)).setCell (p := ⟨X + 1, 2, none⟩) (Nat.le_succ_of_le hX) (.int .i64 e))
    generalize (((v0.setCell ⟨X + 1, 0, none⟩ (.bool s)).setCell ⟨X + 1, 1, none⟩ (.slice a len cap)).setCell ⟨X + 1, 2, none⟩ (.int .i64 e)) = v1 at *
    refine wpAnyH_ready (rs := [7]) (by kernel_rfl) (by simp) ?_
    refine AllReadyH.cons rfl (fun K hK => ?_) AllReadyH.nil
    go_simp
    replace c0 := set3_cell (r := X) (v0 := .bool t) (v1 := .slice b bl bc) (v2 := .int .i64 f) c0 nA
    replace c1 := set3_cell (r := X) (v0 := .bool t) (v1 := .slice b bl bc) (v2 := .int .i64 f) c1 nA
    replace c2 := set3_cell (r := X) (v0 := .bool t) (v1 := .slice b bl bc) (v2 := .int .i64 f) c2 nA
    replace c3 := set3_cell (r := X) (v0 := .bool t) (v1 := .slice b bl bc) (v2 := .int .i64 f) c3 nA
    replace c4 := set3_cell (r := X) (v0 := .bool t) (v1 := .slice b bl bc) (v2 := .int .i64 f) c4 nA
    replace c5 := set3_cell (r := X) (v0 := .bool t) (v1 := .slice b bl bc) (v2 := .int .i64 f) c5 nA
    replace n0 := set3_cell (r := X) (v0 := .bool t) (v1 := .slice b bl bc) (v2 := .int .i64 f) n0 (by omega)
    replace n1 := set3_cell (r := X) (v0 := .bool t) (v1 := .slice b bl bc) (v2 := .int .i64 f) n1 (by omega)
    replace n2 := set3_cell (r := X) (v0 := .bool t) (v1 := .slice b bl bc) (v2 := .int .i64 f) n2 (by omega)
    replace nf0 := set3_frozen (r := X) (v0 := .bool t) (v1 := .slice b bl bc) (v2 := .int .i64 f) nf0
    replace nf1 := set3_frozen (r := X) (v0 := .bool t) (v1 := .slice b bl bc) (v2 := .int .i64 f) nf1
    replace nf2 := set3_frozen (r := X) (v0 := .bool t) (v1 := .slice b bl bc) (v2 := .int .i64 f) nf2
    replace mf0 := set3_frozen (r := X) (v0 := .bool t) (v1 := .slice b bl bc) (v2 := .int .i64 f) mf0
    replace mf1 := set3_frozen (r := X) (v0 := .bool t) (v1 := .slice b bl bc) (v2 := .int .i64 f) mf1
    replace mf2 := set3_frozen (r := X) (v0 := .bool t) (v1 := .slice b bl bc) (v2 := .int .i64 f) mf2
    obtain ⟨m0, m1, m2⟩ := set3_same (v0 := .bool t) (v1 := .slice b bl bc) (v2 := .int .i64 f) m0 m1 m2
    refine hK.out _ _ ⟨c0, c1, c2, c3, c4, c5⟩ (fun _ => ?_)
    clear hK K
    replace bB := (((bB.setCell (p := ⟨X, 0, none⟩) hX (.bool t)).setCell (p := ⟨X, 1, none⟩) hX (.slice b bl bc)).setCell (p := ⟨X, 2, none⟩) hX (.int .i64 f))
    generalize (((v1.setCell ⟨X, 0, none⟩ (.bool t)).setCell ⟨X, 1, none⟩ (.slice b bl bc)).setCell ⟨X, 2, none⟩ (.int .i64 f)) = v2 at *
    refine wpAnyH_done (by kernel_rfl) ?_ _
    try simp only [Act.put, List.setIfInBounds_toArray, List.set_cons_zero, List.set_cons_succ]
    clear c0 c1 c2 c3 c4 c5
    go_wp2_with fail
    go_ret
    refine ⟨by rw [HV.out]; rfl, nT bA ?_⟩
    repeat (first | (with_reducible exact bB) | (with_reducible refine Below.setCell ?_ (by first | exact hX | exact Nat.le_succ_of_le hX) _))

set_option maxRecDepth 100000 in
set_option maxHeartbeats 4000000 in
theorem narrow_p (s : Bool) (a : Option Addr) (len cap : Nat) (xs : List Int) (e : Int) (t : Bool) (b : Option Addr) (bl bc : Nat) (ys : List Int) (f p : Int) (w : World) (h : IsW w a len cap xs) (hm : len ≤ 17592186044000) (h' : IsW w b bl bc ys) (hm' : bl ≤ 17592186044000) (hT : Tab w) (hb : sgB s (val xs) e t (val ys) f = true) (hp : 0 ≤ p) (hv : sgV s (val xs) e t (val ys) f = 1) :
    Calls Tryz.prog 5 #[ivI s a len cap e t b bl bc f, .int .i64 p] w fun r w' => r = .returned (.bool (nwB s (val xs) e t (val ys) f p)) ∧ Below w.heap.size w w' := by
  have bA : Below w.heap.size w (w.alloc (.cells #[.bool s, .slice a len cap, .int .i64 e, .bool t, .slice b bl bc, .int .i64 f] 27)) := below_one _ _
  have HS : Hid _ := ivSign_calls s a len cap xs e t b bl bc ys f (w.alloc (.cells #[.bool s, .slice a len cap, .int .i64 e, .bool t, .slice b bl bc, .int .i64 f] 27)) (h.keep bA) hm (h'.keep bA) hm' (hT.kept bA)
  have c0 : (w.alloc (.cells #[.bool s, .slice a len cap, .int .i64 e, .bool t, .slice b bl bc, .int .i64 f] 27)).cell? ⟨w.heap.size, 0, none⟩ = some (.bool s) := by go_simp
  have c1 : (w.alloc (.cells #[.bool s, .slice a len cap, .int .i64 e, .bool t, .slice b bl bc, .int .i64 f] 27)).cell? ⟨w.heap.size, 1, none⟩ = some (.slice a len cap) := by go_simp
  have c2 : (w.alloc (.cells #[.bool s, .slice a len cap, .int .i64 e, .bool t, .slice b bl bc, .int .i64 f] 27)).cell? ⟨w.heap.size, 2, none⟩ = some (.int .i64 e) := by go_simp
  have c3 : (w.alloc (.cells #[.bool s, .slice a len cap, .int .i64 e, .bool t, .slice b bl bc, .int .i64 f] 27)).cell? ⟨w.heap.size, 3, none⟩ = some (.bool t) := by go_simp
  have c4 : (w.alloc (.cells #[.bool s, .slice a len cap, .int .i64 e, .bool t, .slice b bl bc, .int .i64 f] 27)).cell? ⟨w.heap.size, 4, none⟩ = some (.slice b bl bc) := by go_simp
  have c5 : (w.alloc (.cells #[.bool s, .slice a len cap, .int .i64 e, .bool t, .slice b bl bc, .int .i64 f] 27)).cell? ⟨w.heap.size, 5, none⟩ = some (.int .i64 f) := by go_simp
  obtain ⟨⟨g1, g2⟩, ⟨g3, g4⟩⟩ := sg_ok hb
  have HV : Hid (nwB s (val xs) e t (val ys) f p = liB (val xs) e (val ys) f p) := by show _ = _; unfold nwB; rw [hb, hv, decide_eq_true hp]; simp
  rw [hb, hv] at HS
  have HL : Hid (∀ W, IsW W a len cap xs → IsW W b bl bc ys → Tab W → Calls Tryz.prog 12 #[dyV false a len cap e, dyV false b bl bc f, .int .i64 p] W fun r w' => r = .returned (.bool (liB (val xs) e (val ys) f p)) ∧ Below W.heap.size W w') := fun W k k' q => little_calls a len cap xs e b bl bc ys f p W k hm g1 g2 k' hm' g3 g4 hp q
  generalize liB (val xs) e (val ys) f p = R at *
  generalize nwB s (val xs) e t (val ys) f p = B at *
  have np : ¬ p < 0 := by omega
  clear hb hv g1 g2 g3 g4
  replace h := h.keep bA
  replace h' := h'.keep bA
  have HTw : Hid (Tab w) := hT
  clear hT
  go_enter Tryz.func5, Tryz.ntmps5
  go_wp2_with fail
  refine Calls.mono HS.out ?_
  generalize (w.alloc (.cells #[.bool s, .slice a len cap, .int .i64 e, .bool t, .slice b bl bc, .int .i64 f] 27)) = w0 at *
  rintro r w1 ⟨rfl, bN⟩
  replace bA := nT bA bN
  replace h := h.keep bN
  replace h' := h'.keep bN
  replace c0 := kC bN c0
  replace c1 := kC bN c1
  replace c2 := kC bN c2
  replace c3 := kC bN c3
  replace c4 := kC bN c4
  replace c5 := kC bN c5
  clear bN HS
  go_wp2_with fail
  generalize hA : w.heap.size = A at c0 c1 c2 c3 c4 c5 ⊢
  have lA : A < w1.heap.size := World.block_lt_of_cell? _ _ c0
  refine wp_region_held (S := fun W => W.cell? ⟨A, 0, none⟩ = some (.bool s) ∧ W.cell? ⟨A, 1, none⟩ = some (.slice a len cap) ∧ W.cell? ⟨A, 2, none⟩ = some (.int .i64 e) ∧ W.cell? ⟨A, 3, none⟩ = some (.bool t) ∧ W.cell? ⟨A, 4, none⟩ = some (.slice b bl bc) ∧ W.cell? ⟨A, 5, none⟩ = some (.int .i64 f)) (by kernel_rfl) ?_
  change wpAnyH _ _ _ _ _ _ _ _ (World.drew w1)
  have bD : Below w1.heap.size w1 w1.drew := (Below.refl _ _).drew
  replace c0 := kC bD c0
  replace c1 := kC bD c1
  replace c2 := kC bD c2
  replace c3 := kC bD c3
  replace c4 := kC bD c4
  replace c5 := kC bD c5
  generalize World.drew w1 = wd at *
  refine wpAnyH_take (i := 0) (oi := { dst := some 20, op := Op.fieldAddr 27 (Operand.tmp 2) 0, type := 0, pos := "ival.go:89", after := #[], guard := none }) (v := .pointer (some ⟨A, 0, none⟩)) rfl (by kernel_rfl) (by kernel_rfl) (by kernel_rfl) (fun _ _ _ h => h) (Or.inl ⟨by rfl, ?y0⟩) ⟨c0, c1, c2, c3, c4, c5⟩ ?r0
  case y0 => (intro ww hS; obtain ⟨c0, c1, c2, c3, c4, c5⟩ := hS; go_simp; try with_reducible rfl)
  try simp only [Act.put, List.setIfInBounds_toArray, List.set_cons_zero, List.set_cons_succ]
  refine wpAnyH_take (i := 1) (oi := { dst := some 21, op := Op.load 25 (Operand.tmp 20), type := 25, pos := "ival.go:89", after := #[{ on := 0, ground := Ground.data }], guard := none }) (v := .agg #[.bool s, .slice a len cap, .int .i64 e]) rfl (by kernel_rfl) (by kernel_rfl) (by kernel_rfl) (fun _ _ _ h => h) (Or.inl ⟨by rfl, ?y1⟩) ⟨c0, c1, c2, c3, c4, c5⟩ ?r1
  case y1 => (intro ww hS; obtain ⟨c0, c1, c2, c3, c4, c5⟩ := hS; go_simp; try with_reducible rfl)
  try simp only [Act.put, List.setIfInBounds_toArray, List.set_cons_zero, List.set_cons_succ]
  refine wpAnyH_take (i := 2) (oi := { dst := some 22, op := Op.fieldAddr 27 (Operand.tmp 2) 1, type := 0, pos := "ival.go:89", after := #[{ on := 6, ground := Ground.gcOnly Departure.lateStores }], guard := none }) (v := .pointer (some ⟨A, 3, none⟩)) rfl (by kernel_rfl) (by kernel_rfl) (by kernel_rfl) (fun _ _ _ h => h) (Or.inl ⟨by rfl, ?y2⟩) ⟨c0, c1, c2, c3, c4, c5⟩ ?r2
  case y2 => (intro ww hS; obtain ⟨c0, c1, c2, c3, c4, c5⟩ := hS; go_simp; try with_reducible rfl)
  try simp only [Act.put, List.setIfInBounds_toArray, List.set_cons_zero, List.set_cons_succ]
  refine wpAnyH_take (i := 3) (oi := { dst := some 23, op := Op.load 25 (Operand.tmp 22), type := 25, pos := "ival.go:89", after := #[{ on := 2, ground := Ground.data }, { on := 6, ground := Ground.gcOnly Departure.lateStores }], guard := none }) (v := .agg #[.bool t, .slice b bl bc, .int .i64 f]) rfl (by kernel_rfl) (by kernel_rfl) (by kernel_rfl) (fun _ _ _ h => h) (Or.inl ⟨by rfl, ?y3⟩) ⟨c0, c1, c2, c3, c4, c5⟩ ?r3
  case y3 => (intro ww hS; obtain ⟨c0, c1, c2, c3, c4, c5⟩ := hS; go_simp; try with_reducible rfl)
  try simp only [Act.put, List.setIfInBounds_toArray, List.set_cons_zero, List.set_cons_succ]
  have hX : w1.heap.size ≤ wd.heap.size := bD.size
  refine wpAnyH_ready (rs := [4, 5]) (by kernel_rfl) (by simp) ?_
  refine AllReadyH.cons rfl (fun K hK => ?_) (AllReadyH.cons rfl (fun K hK => ?_) AllReadyH.nil)
  · go_simp
    have b1 := below_one wd (.cells #[.bool false, .slice none 0 0, .int .i64 0] 25)
    replace c0 := kC b1 c0
    replace c1 := kC b1 c1
    replace c2 := kC b1 c2
    replace c3 := kC b1 c3
    replace c4 := kC b1 c4
    replace c5 := kC b1 c5
    refine hK.out _ _ ⟨c0, c1, c2, c3, c4, c5⟩ (fun _ => ?_)
    clear hK K
    refine wpAnyH_ready (rs := [5]) (by kernel_rfl) (by simp) ?_
    refine AllReadyH.cons rfl (fun K hK => ?_) AllReadyH.nil
    go_simp
    have b2 := below_one (wd.alloc (.cells #[.bool false, .slice none 0 0, .int .i64 0] 25)) (.cells #[.bool false, .slice none 0 0, .int .i64 0] 25)
    replace c0 := kC b2 c0
    replace c1 := kC b2 c1
    replace c2 := kC b2 c2
    replace c3 := kC b2 c3
    replace c4 := kC b2 c4
    replace c5 := kC b2 c5
    refine hK.out _ _ ⟨c0, c1, c2, c3, c4, c5⟩ (fun _ => ?_)
    clear hK K
    have n0 : ((wd.alloc (.cells #[.bool false, .slice none 0 0, .int .i64 0] 25)).alloc (.cells #[.bool false, .slice none 0 0, .int .i64 0] 25)).cell? ⟨wd.heap.size, 0, none⟩ = some (.bool false) := by go_simp
    have nf0 : ((wd.alloc (.cells #[.bool false, .slice none 0 0, .int .i64 0] 25)).alloc (.cells #[.bool false, .slice none 0 0, .int .i64 0] 25)).frozen? ⟨wd.heap.size, 0, none⟩ = false := by go_simp
    have n1 : ((wd.alloc (.cells #[.bool false, .slice none 0 0, .int .i64 0] 25)).alloc (.cells #[.bool false, .slice none 0 0, .int .i64 0] 25)).cell? ⟨wd.heap.size, 1, none⟩ = some (.slice none 0 0) := by go_simp
    have nf1 : ((wd.alloc (.cells #[.bool false, .slice none 0 0, .int .i64 0] 25)).alloc (.cells #[.bool false, .slice none 0 0, .int .i64 0] 25)).frozen? ⟨wd.heap.size, 1, none⟩ = false := by go_simp
    have n2 : ((wd.alloc (.cells #[.bool false, .slice none 0 0, .int .i64 0] 25)).alloc (.cells #[.bool false, .slice none 0 0, .int .i64 0] 25)).cell? ⟨wd.heap.size, 2, none⟩ = some (.int .i64 0) := by go_simp
    have nf2 : ((wd.alloc (.cells #[.bool false, .slice none 0 0, .int .i64 0] 25)).alloc (.cells #[.bool false, .slice none 0 0, .int .i64 0] 25)).frozen? ⟨wd.heap.size, 2, none⟩ = false := by go_simp
    have m0 : ((wd.alloc (.cells #[.bool false, .slice none 0 0, .int .i64 0] 25)).alloc (.cells #[.bool false, .slice none 0 0, .int .i64 0] 25)).cell? ⟨wd.heap.size + 1, 0, none⟩ = some (.bool false) := by go_simp
    have mf0 : ((wd.alloc (.cells #[.bool false, .slice none 0 0, .int .i64 0] 25)).alloc (.cells #[.bool false, .slice none 0 0, .int .i64 0] 25)).frozen? ⟨wd.heap.size + 1, 0, none⟩ = false := by go_simp
    have m1 : ((wd.alloc (.cells #[.bool false, .slice none 0 0, .int .i64 0] 25)).alloc (.cells #[.bool false, .slice none 0 0, .int .i64 0] 25)).cell? ⟨wd.heap.size + 1, 1, none⟩ = some (.slice none 0 0) := by go_simp
    have mf1 : ((wd.alloc (.cells #[.bool false, .slice none 0 0, .int .i64 0] 25)).alloc (.cells #[.bool false, .slice none 0 0, .int .i64 0] 25)).frozen? ⟨wd.heap.size + 1, 1, none⟩ = false := by go_simp
    have m2 : ((wd.alloc (.cells #[.bool false, .slice none 0 0, .int .i64 0] 25)).alloc (.cells #[.bool false, .slice none 0 0, .int .i64 0] 25)).cell? ⟨wd.heap.size + 1, 2, none⟩ = some (.int .i64 0) := by go_simp
    have mf2 : ((wd.alloc (.cells #[.bool false, .slice none 0 0, .int .i64 0] 25)).alloc (.cells #[.bool false, .slice none 0 0, .int .i64 0] 25)).frozen? ⟨wd.heap.size + 1, 2, none⟩ = false := by go_simp
    have bB := nT bD (nT b1 b2)
    clear b1 b2 bD
    generalize ((wd.alloc (.cells #[.bool false, .slice none 0 0, .int .i64 0] 25)).alloc (.cells #[.bool false, .slice none 0 0, .int .i64 0] 25)) = v0 at *
    generalize wd.heap.size = X at *
    have nA : A ≠ X := by omega
    have nB : A ≠ X + 1 := by omega
    refine wpAnyH_ready (rs := [6]) (by kernel_rfl) (by simp) ?_
    refine AllReadyH.cons rfl (fun K hK => ?_) AllReadyH.nil
    go_simp
    replace c0 := set3_cell (r := X) (v0 := .bool s) (v1 := .slice a len cap) (v2 := .int .i64 e) c0 nA
    replace c1 := set3_cell (r := X) (v0 := .bool s) (v1 := .slice a len cap) (v2 := .int .i64 e) c1 nA
    replace c2 := set3_cell (r := X) (v0 := .bool s) (v1 := .slice a len cap) (v2 := .int .i64 e) c2 nA
    replace c3 := set3_cell (r := X) (v0 := .bool s) (v1 := .slice a len cap) (v2 := .int .i64 e) c3 nA
    replace c4 := set3_cell (r := X) (v0 := .bool s) (v1 := .slice a len cap) (v2 := .int .i64 e) c4 nA
    replace c5 := set3_cell (r := X) (v0 := .bool s) (v1 := .slice a len cap) (v2 := .int .i64 e) c5 nA
    replace m0 := set3_cell (r := X) (v0 := .bool s) (v1 := .slice a len cap) (v2 := .int .i64 e) m0 (by omega)
    replace m1 := set3_cell (r := X) (v0 := .bool s) (v1 := .slice a len cap) (v2 := .int .i64 e) m1 (by omega)
    replace m2 := set3_cell (r := X) (v0 := .bool s) (v1 := .slice a len cap) (v2 := .int .i64 e) m2 (by omega)
    replace nf0 := set3_frozen (r := X) (v0 := .bool s) (v1 := .slice a len cap) (v2 := .int .i64 e) nf0
    replace nf1 := set3_frozen (r := X) (v0 := .bool s) (v1 := .slice a len cap) (v2 := .int .i64 e) nf1
    replace nf2 := set3_frozen (r := X) (v0 := .bool s) (v1 := .slice a len cap) (v2 := .int .i64 e) nf2
    replace mf0 := set3_frozen (r := X) (v0 := .bool s) (v1 := .slice a len cap) (v2 := .int .i64 e) mf0
    replace mf1 := set3_frozen (r := X) (v0 := .bool s) (v1 := .slice a len cap) (v2 := .int .i64 e) mf1
    replace mf2 := set3_frozen (r := X) (v0 := .bool s) (v1 := .slice a len cap) (v2 := .int .i64 e) mf2
    obtain ⟨n0, n1, n2⟩ := set3_same (v0 := .bool s) (v1 := .slice a len cap) (v2 := .int .i64 e) n0 n1 n2
    refine hK.out _ _ ⟨c0, c1, c2, c3, c4, c5⟩ (fun _ => ?_)
    clear hK K
    replace bB := (((bB.setCell (p := ⟨X, 0, none⟩) hX (.bool s)).setCell (p := ⟨X, 1, none⟩) hX (.slice a len cap)).setCell (p := ⟨X, 2, none⟩) hX (.int .i64 e))
    generalize (((v0.setCell ⟨X, 0, none⟩ (.bool s)).setCell ⟨X, 1, none⟩ (.slice a len cap)).setCell ⟨X, 2, none⟩ (.int .i64 e)) = v1 at *
    refine wpAnyH_ready (rs := [7]) (by kernel_rfl) (by simp) ?_
    refine AllReadyH.cons rfl (fun K hK => ?_) AllReadyH.nil
    go_simp
    replace c0 := set3_cell (r := X + 1) (v0 := .bool t) (v1 := .slice b bl bc) (v2 := .int .i64 f) c0 nB
    replace c1 := set3_cell (r := X + 1) (v0 := .bool t) (v1 := .slice b bl bc) (v2 := .int .i64 f) c1 nB
    replace c2 := set3_cell (r := X + 1) (v0 := .bool t) (v1 := .slice b bl bc) (v2 := .int .i64 f) c2 nB
    replace c3 := set3_cell (r := X + 1) (v0 := .bool t) (v1 := .slice b bl bc) (v2 := .int .i64 f) c3 nB
    replace c4 := set3_cell (r := X + 1) (v0 := .bool t) (v1 := .slice b bl bc) (v2 := .int .i64 f) c4 nB
    replace c5 := set3_cell (r := X + 1) (v0 := .bool t) (v1 := .slice b bl bc) (v2 := .int .i64 f) c5 nB
    replace n0 := set3_cell (r := X + 1) (v0 := .bool t) (v1 := .slice b bl bc) (v2 := .int .i64 f) n0 (by omega)
    replace n1 := set3_cell (r := X + 1) (v0 := .bool t) (v1 := .slice b bl bc) (v2 := .int .i64 f) n1 (by omega)
    replace n2 := set3_cell (r := X + 1) (v0 := .bool t) (v1 := .slice b bl bc) (v2 := .int .i64 f) n2 (by omega)
    replace nf0 := set3_frozen (r := X + 1) (v0 := .bool t) (v1 := .slice b bl bc) (v2 := .int .i64 f) nf0
    replace nf1 := set3_frozen (r := X + 1) (v0 := .bool t) (v1 := .slice b bl bc) (v2 := .int .i64 f) nf1
    replace nf2 := set3_frozen (r := X + 1) (v0 := .bool t) (v1 := .slice b bl bc) (v2 := .int .i64 f) nf2
    replace mf0 := set3_frozen (r := X + 1) (v0 := .bool t) (v1 := .slice b bl bc) (v2 := .int .i64 f) mf0
    replace mf1 := set3_frozen (r := X + 1) (v0 := .bool t) (v1 := .slice b bl bc) (v2 := .int .i64 f) mf1
    replace mf2 := set3_frozen (r := X + 1) (v0 := .bool t) (v1 := .slice b bl bc) (v2 := .int .i64 f) mf2
    obtain ⟨m0, m1, m2⟩ := set3_same (v0 := .bool t) (v1 := .slice b bl bc) (v2 := .int .i64 f) m0 m1 m2
    refine hK.out _ _ ⟨c0, c1, c2, c3, c4, c5⟩ (fun _ => ?_)
    clear hK K
    replace bB := (((bB.setCell (p := ⟨X + 1, 0, none⟩) (Nat.le_succ_of_le hX) (.bool t)).setCell (p := ⟨X + 1, 1, none⟩) (Nat.le_succ_of_le hX) (.slice b bl bc)).setCell (p := ⟨X + 1, 2, none⟩) (Nat.le_succ_of_le hX) (.int .i64 f))
    generalize (((v1.setCell ⟨X + 1, 0, none⟩ (.bool t)).setCell ⟨X + 1, 1, none⟩ (.slice b bl bc)).setCell ⟨X + 1, 2, none⟩ (.int .i64 f)) = v2 at *
    refine wpAnyH_done (by kernel_rfl) ?_ _
    try simp only [Act.put, List.setIfInBounds_toArray, List.set_cons_zero, List.set_cons_succ]
    clear c0 c1 c2 c3 c4 c5
    go_wp2_with fail
    refine Calls.mono (HL.out _ (IsW.keep h ?bS) (IsW.keep h' ?bS) (HTw.out.kept (nT bA ?bS))) ?_
    case bS => repeat (first | (with_reducible exact bB) | (with_reducible refine Below.setCell ?_ (by first | exact hX | exact Nat.le_succ_of_le hX) _))
    rintro r w9 ⟨rfl, bN⟩
    go_wp2_with fail
    go_ret
    refine ⟨by rw [HV.out]; rfl, nT bA (nT ?_ bN)⟩
    repeat (first | (with_reducible exact bB) | (with_reducible refine Below.setCell ?_ (by first | exact hX | exact Nat.le_succ_of_le hX) _))
  · go_simp
    have b1 := below_one wd (.cells #[.bool false, .slice none 0 0, .int .i64 0] 25)
    replace c0 := kC b1 c0
    replace c1 := kC b1 c1
    replace c2 := kC b1 c2
    replace c3 := kC b1 c3
    replace c4 := kC b1 c4
    replace c5 := kC b1 c5
    refine hK.out _ _ ⟨c0, c1, c2, c3, c4, c5⟩ (fun _ => ?_)
    clear hK K
    refine wpAnyH_ready (rs := [4]) (by kernel_rfl) (by simp) ?_
    refine AllReadyH.cons rfl (fun K hK => ?_) AllReadyH.nil
    go_simp
    have b2 := below_one (wd.alloc (.cells #[.bool false, .slice none 0 0, .int .i64 0] 25)) (.cells #[.bool false, .slice none 0 0, .int .i64 0] 25)
    replace c0 := kC b2 c0
    replace c1 := kC b2 c1
    replace c2 := kC b2 c2
    replace c3 := kC b2 c3
    replace c4 := kC b2 c4
    replace c5 := kC b2 c5
    refine hK.out _ _ ⟨c0, c1, c2, c3, c4, c5⟩ (fun _ => ?_)
    clear hK K
    have n0 : ((wd.alloc (.cells #[.bool false, .slice none 0 0, .int .i64 0] 25)).alloc (.cells #[.bool false, .slice none 0 0, .int .i64 0] 25)).cell? ⟨wd.heap.size + 1, 0, none⟩ = some (.bool false) := by go_simp
    have nf0 : ((wd.alloc (.cells #[.bool false, .slice none 0 0, .int .i64 0] 25)).alloc (.cells #[.bool false, .slice none 0 0, .int .i64 0] 25)).frozen? ⟨wd.heap.size + 1, 0, none⟩ = false := by go_simp
    have n1 : ((wd.alloc (.cells #[.bool false, .slice none 0 0, .int .i64 0] 25)).alloc (.cells #[.bool false, .slice none 0 0, .int .i64 0] 25)).cell? ⟨wd.heap.size + 1, 1, none⟩ = some (.slice none 0 0) := by go_simp
    have nf1 : ((wd.alloc (.cells #[.bool false, .slice none 0 0, .int .i64 0] 25)).alloc (.cells #[.bool false, .slice none 0 0, .int .i64 0] 25)).frozen? ⟨wd.heap.size + 1, 1, none⟩ = false := by go_simp
    have n2 : ((wd.alloc (.cells #[.bool false, .slice none 0 0, .int .i64 0] 25)).alloc (.cells #[.bool false, .slice none 0 0, .int .i64 0] 25)).cell? ⟨wd.heap.size + 1, 2, none⟩ = some (.int .i64 0) := by go_simp
    have nf2 : ((wd.alloc (.cells #[.bool false, .slice none 0 0, .int .i64 0] 25)).alloc (.cells #[.bool false, .slice none 0 0, .int .i64 0] 25)).frozen? ⟨wd.heap.size + 1, 2, none⟩ = false := by go_simp
    have m0 : ((wd.alloc (.cells #[.bool false, .slice none 0 0, .int .i64 0] 25)).alloc (.cells #[.bool false, .slice none 0 0, .int .i64 0] 25)).cell? ⟨wd.heap.size, 0, none⟩ = some (.bool false) := by go_simp
    have mf0 : ((wd.alloc (.cells #[.bool false, .slice none 0 0, .int .i64 0] 25)).alloc (.cells #[.bool false, .slice none 0 0, .int .i64 0] 25)).frozen? ⟨wd.heap.size, 0, none⟩ = false := by go_simp
    have m1 : ((wd.alloc (.cells #[.bool false, .slice none 0 0, .int .i64 0] 25)).alloc (.cells #[.bool false, .slice none 0 0, .int .i64 0] 25)).cell? ⟨wd.heap.size, 1, none⟩ = some (.slice none 0 0) := by go_simp
    have mf1 : ((wd.alloc (.cells #[.bool false, .slice none 0 0, .int .i64 0] 25)).alloc (.cells #[.bool false, .slice none 0 0, .int .i64 0] 25)).frozen? ⟨wd.heap.size, 1, none⟩ = false := by go_simp
    have m2 : ((wd.alloc (.cells #[.bool false, .slice none 0 0, .int .i64 0] 25)).alloc (.cells #[.bool false, .slice none 0 0, .int .i64 0] 25)).cell? ⟨wd.heap.size, 2, none⟩ = some (.int .i64 0) := by go_simp
    have mf2 : ((wd.alloc (.cells #[.bool false, .slice none 0 0, .int .i64 0] 25)).alloc (.cells #[.bool false, .slice none 0 0, .int .i64 0] 25)).frozen? ⟨wd.heap.size, 2, none⟩ = false := by go_simp
    have bB := nT bD (nT b1 b2)
    clear b1 b2 bD
    generalize ((wd.alloc (.cells #[.bool false, .slice none 0 0, .int .i64 0] 25)).alloc (.cells #[.bool false, .slice none 0 0, .int .i64 0] 25)) = v0 at *
    generalize wd.heap.size = X at *
    have nA : A ≠ X := by omega
    have nB : A ≠ X + 1 := by omega
    refine wpAnyH_ready (rs := [6]) (by kernel_rfl) (by simp) ?_
    refine AllReadyH.cons rfl (fun K hK => ?_) AllReadyH.nil
    go_simp
    replace c0 := set3_cell (r := X + 1) (v0 := .bool s) (v1 := .slice a len cap) (v2 := .int .i64 e) c0 nB
    replace c1 := set3_cell (r := X + 1) (v0 := .bool s) (v1 := .slice a len cap) (v2 := .int .i64 e) c1 nB
    replace c2 := set3_cell (r := X + 1) (v0 := .bool s) (v1 := .slice a len cap) (v2 := .int .i64 e) c2 nB
    replace c3 := set3_cell (r := X + 1) (v0 := .bool s) (v1 := .slice a len cap) (v2 := .int .i64 e) c3 nB
    replace c4 := set3_cell (r := X + 1) (v0 := .bool s) (v1 := .slice a len cap) (v2 := .int .i64 e) c4 nB
    replace c5 := set3_cell (r := X + 1) (v0 := .bool s) (v1 := .slice a len cap) (v2 := .int .i64 e) c5 nB
    replace m0 := set3_cell (r := X + 1) (v0 := .bool s) (v1 := .slice a len cap) (v2 := .int .i64 e) m0 (by omega)
    replace m1 := set3_cell (r := X + 1) (v0 := .bool s) (v1 := .slice a len cap) (v2 := .int .i64 e) m1 (by omega)
    replace m2 := set3_cell (r := X + 1) (v0 := .bool s) (v1 := .slice a len cap) (v2 := .int .i64 e) m2 (by omega)
    replace nf0 := set3_frozen (r := X + 1) (v0 := .bool s) (v1 := .slice a len cap) (v2 := .int .i64 e) nf0
    replace nf1 := set3_frozen (r := X + 1) (v0 := .bool s) (v1 := .slice a len cap) (v2 := .int .i64 e) nf1
    replace nf2 := set3_frozen (r := X + 1) (v0 := .bool s) (v1 := .slice a len cap) (v2 := .int .i64 e) nf2
    replace mf0 := set3_frozen (r := X + 1) (v0 := .bool s) (v1 := .slice a len cap) (v2 := .int .i64 e) mf0
    replace mf1 := set3_frozen (r := X + 1) (v0 := .bool s) (v1 := .slice a len cap) (v2 := .int .i64 e) mf1
    replace mf2 := set3_frozen (r := X + 1) (v0 := .bool s) (v1 := .slice a len cap) (v2 := .int .i64 e) mf2
    obtain ⟨n0, n1, n2⟩ := set3_same (v0 := .bool s) (v1 := .slice a len cap) (v2 := .int .i64 e) n0 n1 n2
    refine hK.out _ _ ⟨c0, c1, c2, c3, c4, c5⟩ (fun _ => ?_)
    clear hK K
    replace bB := (((bB.setCell (p := ⟨X + 1, 0, none⟩) (Nat.le_succ_of_le hX) (.bool s)).setCell (p := ⟨X + 1, 1, none⟩) (Nat.le_succ_of_le hX) (.slice a len cap)).setCell (p := ⟨X + 1, 2, none⟩) (Nat.le_succ_of_le hX) (.int .i64 e))
    generalize (((v0.setCell ⟨X + 1, 0, none⟩ (.bool s)).setCell ⟨X + 1, 1, none⟩ (.slice a len cap)).setCell ⟨X + 1, 2, none⟩ (.int .i64 e)) = v1 at *
    refine wpAnyH_ready (rs := [7]) (by kernel_rfl) (by simp) ?_
    refine AllReadyH.cons rfl (fun K hK => ?_) AllReadyH.nil
    go_simp
    replace c0 := set3_cell (r := X) (v0 := .bool t) (v1 := .slice b bl bc) (v2 := .int .i64 f) c0 nA
    replace c1 := set3_cell (r := X) (v0 := .bool t) (v1 := .slice b bl bc) (v2 := .int .i64 f) c1 nA
    replace c2 := set3_cell (r := X) (v0 := .bool t) (v1 := .slice b bl bc) (v2 := .int .i64 f) c2 nA
    replace c3 := set3_cell (r := X) (v0 := .bool t) (v1 := .slice b bl bc) (v2 := .int .i64 f) c3 nA
    replace c4 := set3_cell (r := X) (v0 := .bool t) (v1 := .slice b bl bc) (v2 := .int .i64 f) c4 nA
    replace c5 := set3_cell (r := X) (v0 := .bool t) (v1 := .slice b bl bc) (v2 := .int .i64 f) c5 nA
    replace n0 := set3_cell (r := X) (v0 := .bool t) (v1 := .slice b bl bc) (v2 := .int .i64 f) n0 (by omega)
    replace n1 := set3_cell (r := X) (v0 := .bool t) (v1 := .slice b bl bc) (v2 := .int .i64 f) n1 (by omega)
    replace n2 := set3_cell (r := X) (v0 := .bool t) (v1 := .slice b bl bc) (v2 := .int .i64 f) n2 (by omega)
    replace nf0 := set3_frozen (r := X) (v0 := .bool t) (v1 := .slice b bl bc) (v2 := .int .i64 f) nf0
    replace nf1 := set3_frozen (r := X) (v0 := .bool t) (v1 := .slice b bl bc) (v2 := .int .i64 f) nf1
    replace nf2 := set3_frozen (r := X) (v0 := .bool t) (v1 := .slice b bl bc) (v2 := .int .i64 f) nf2
    replace mf0 := set3_frozen (r := X) (v0 := .bool t) (v1 := .slice b bl bc) (v2 := .int .i64 f) mf0
    replace mf1 := set3_frozen (r := X) (v0 := .bool t) (v1 := .slice b bl bc) (v2 := .int .i64 f) mf1
    replace mf2 := set3_frozen (r := X) (v0 := .bool t) (v1 := .slice b bl bc) (v2 := .int .i64 f) mf2
    obtain ⟨m0, m1, m2⟩ := set3_same (v0 := .bool t) (v1 := .slice b bl bc) (v2 := .int .i64 f) m0 m1 m2
    refine hK.out _ _ ⟨c0, c1, c2, c3, c4, c5⟩ (fun _ => ?_)
    clear hK K
    replace bB := (((bB.setCell (p := ⟨X, 0, none⟩) hX (.bool t)).setCell (p := ⟨X, 1, none⟩) hX (.slice b bl bc)).setCell (p := ⟨X, 2, none⟩) hX (.int .i64 f))
    generalize (((v1.setCell ⟨X, 0, none⟩ (.bool t)).setCell ⟨X, 1, none⟩ (.slice b bl bc)).setCell ⟨X, 2, none⟩ (.int .i64 f)) = v2 at *
    refine wpAnyH_done (by kernel_rfl) ?_ _
    try simp only [Act.put, List.setIfInBounds_toArray, List.set_cons_zero, List.set_cons_succ]
    clear c0 c1 c2 c3 c4 c5
    go_wp2_with fail
    refine Calls.mono (HL.out _ (IsW.keep h ?bS) (IsW.keep h' ?bS) (HTw.out.kept (nT bA ?bS))) ?_
    case bS => repeat (first | (with_reducible exact bB) | (with_reducible refine Below.setCell ?_ (by first | exact hX | exact Nat.le_succ_of_le hX) _))
    rintro r w9 ⟨rfl, bN⟩
    go_wp2_with fail
    go_ret
    refine ⟨by rw [HV.out]; rfl, nT bA (nT ?_ bN)⟩
    repeat (first | (with_reducible exact bB) | (with_reducible refine Below.setCell ?_ (by first | exact hX | exact Nat.le_succ_of_le hX) _))

set_option maxRecDepth 100000 in
set_option maxHeartbeats 4000000 in
theorem narrow_m (s : Bool) (a : Option Addr) (len cap : Nat) (xs : List Int) (e : Int) (t : Bool) (b : Option Addr) (bl bc : Nat) (ys : List Int) (f p : Int) (w : World) (h : IsW w a len cap xs) (hm : len ≤ 17592186044000) (h' : IsW w b bl bc ys) (hm' : bl ≤ 17592186044000) (hT : Tab w) (hb : sgB s (val xs) e t (val ys) f = true) (hp : 0 ≤ p) (hv : sgV s (val xs) e t (val ys) f = -1) :
    Calls Tryz.prog 5 #[ivI s a len cap e t b bl bc f, .int .i64 p] w fun r w' => r = .returned (.bool (nwB s (val xs) e t (val ys) f p)) ∧ Below w.heap.size w w' := by
  have bA : Below w.heap.size w (w.alloc (.cells #[.bool s, .slice a len cap, .int .i64 e, .bool t, .slice b bl bc, .int .i64 f] 27)) := below_one _ _
  have HS : Hid _ := ivSign_calls s a len cap xs e t b bl bc ys f (w.alloc (.cells #[.bool s, .slice a len cap, .int .i64 e, .bool t, .slice b bl bc, .int .i64 f] 27)) (h.keep bA) hm (h'.keep bA) hm' (hT.kept bA)
  have c0 : (w.alloc (.cells #[.bool s, .slice a len cap, .int .i64 e, .bool t, .slice b bl bc, .int .i64 f] 27)).cell? ⟨w.heap.size, 0, none⟩ = some (.bool s) := by go_simp
  have c1 : (w.alloc (.cells #[.bool s, .slice a len cap, .int .i64 e, .bool t, .slice b bl bc, .int .i64 f] 27)).cell? ⟨w.heap.size, 1, none⟩ = some (.slice a len cap) := by go_simp
  have c2 : (w.alloc (.cells #[.bool s, .slice a len cap, .int .i64 e, .bool t, .slice b bl bc, .int .i64 f] 27)).cell? ⟨w.heap.size, 2, none⟩ = some (.int .i64 e) := by go_simp
  have c3 : (w.alloc (.cells #[.bool s, .slice a len cap, .int .i64 e, .bool t, .slice b bl bc, .int .i64 f] 27)).cell? ⟨w.heap.size, 3, none⟩ = some (.bool t) := by go_simp
  have c4 : (w.alloc (.cells #[.bool s, .slice a len cap, .int .i64 e, .bool t, .slice b bl bc, .int .i64 f] 27)).cell? ⟨w.heap.size, 4, none⟩ = some (.slice b bl bc) := by go_simp
  have c5 : (w.alloc (.cells #[.bool s, .slice a len cap, .int .i64 e, .bool t, .slice b bl bc, .int .i64 f] 27)).cell? ⟨w.heap.size, 5, none⟩ = some (.int .i64 f) := by go_simp
  obtain ⟨⟨g1, g2⟩, ⟨g3, g4⟩⟩ := sg_ok hb
  have HV : Hid (nwB s (val xs) e t (val ys) f p = liB (val ys) f (val xs) e p) := by show _ = _; unfold nwB; rw [hb, hv, decide_eq_true hp]; simp
  rw [hb, hv] at HS
  have HL : Hid (∀ W, IsW W b bl bc ys → IsW W a len cap xs → Tab W → Calls Tryz.prog 12 #[dyV false b bl bc f, dyV false a len cap e, .int .i64 p] W fun r w' => r = .returned (.bool (liB (val ys) f (val xs) e p)) ∧ Below W.heap.size W w') := fun W k k' q => little_calls b bl bc ys f a len cap xs e p W k hm' g3 g4 k' hm g1 g2 hp q
  generalize liB (val ys) f (val xs) e p = R at *
  generalize nwB s (val xs) e t (val ys) f p = B at *
  have np : ¬ p < 0 := by omega
  clear hb hv g1 g2 g3 g4
  replace h := h.keep bA
  replace h' := h'.keep bA
  have HTw : Hid (Tab w) := hT
  clear hT
  go_enter Tryz.func5, Tryz.ntmps5
  go_wp2_with fail
  refine Calls.mono HS.out ?_
  generalize (w.alloc (.cells #[.bool s, .slice a len cap, .int .i64 e, .bool t, .slice b bl bc, .int .i64 f] 27)) = w0 at *
  rintro r w1 ⟨rfl, bN⟩
  replace bA := nT bA bN
  replace h := h.keep bN
  replace h' := h'.keep bN
  replace c0 := kC bN c0
  replace c1 := kC bN c1
  replace c2 := kC bN c2
  replace c3 := kC bN c3
  replace c4 := kC bN c4
  replace c5 := kC bN c5
  clear bN HS
  go_wp2_with fail
  generalize hA : w.heap.size = A at c0 c1 c2 c3 c4 c5 ⊢
  have lA : A < w1.heap.size := World.block_lt_of_cell? _ _ c0
  refine wp_region_held (S := fun W => W.cell? ⟨A, 0, none⟩ = some (.bool s) ∧ W.cell? ⟨A, 1, none⟩ = some (.slice a len cap) ∧ W.cell? ⟨A, 2, none⟩ = some (.int .i64 e) ∧ W.cell? ⟨A, 3, none⟩ = some (.bool t) ∧ W.cell? ⟨A, 4, none⟩ = some (.slice b bl bc) ∧ W.cell? ⟨A, 5, none⟩ = some (.int .i64 f)) (by kernel_rfl) ?_
  change wpAnyH _ _ _ _ _ _ _ _ (World.drew w1)
  have bD : Below w1.heap.size w1 w1.drew := (Below.refl _ _).drew
  replace c0 := kC bD c0
  replace c1 := kC bD c1
  replace c2 := kC bD c2
  replace c3 := kC bD c3
  replace c4 := kC bD c4
  replace c5 := kC bD c5
  generalize World.drew w1 = wd at *
  refine wpAnyH_take (i := 0) (oi := { dst := some 20, op := Op.fieldAddr 27 (Operand.tmp 2) 0, type := 0, pos := "ival.go:89", after := #[], guard := none }) (v := .pointer (some ⟨A, 0, none⟩)) rfl (by kernel_rfl) (by kernel_rfl) (by kernel_rfl) (fun _ _ _ h => h) (Or.inl ⟨by rfl, ?y0⟩) ⟨c0, c1, c2, c3, c4, c5⟩ ?r0
  case y0 => (intro ww hS; obtain ⟨c0, c1, c2, c3, c4, c5⟩ := hS; go_simp; try with_reducible rfl)
  try simp only [Act.put, List.setIfInBounds_toArray, List.set_cons_zero, List.set_cons_succ]
  refine wpAnyH_take (i := 1) (oi := { dst := some 21, op := Op.load 25 (Operand.tmp 20), type := 25, pos := "ival.go:89", after := #[{ on := 0, ground := Ground.data }], guard := none }) (v := .agg #[.bool s, .slice a len cap, .int .i64 e]) rfl (by kernel_rfl) (by kernel_rfl) (by kernel_rfl) (fun _ _ _ h => h) (Or.inl ⟨by rfl, ?y1⟩) ⟨c0, c1, c2, c3, c4, c5⟩ ?r1
  case y1 => (intro ww hS; obtain ⟨c0, c1, c2, c3, c4, c5⟩ := hS; go_simp; try with_reducible rfl)
  try simp only [Act.put, List.setIfInBounds_toArray, List.set_cons_zero, List.set_cons_succ]
  refine wpAnyH_take (i := 2) (oi := { dst := some 22, op := Op.fieldAddr 27 (Operand.tmp 2) 1, type := 0, pos := "ival.go:89", after := #[{ on := 6, ground := Ground.gcOnly Departure.lateStores }], guard := none }) (v := .pointer (some ⟨A, 3, none⟩)) rfl (by kernel_rfl) (by kernel_rfl) (by kernel_rfl) (fun _ _ _ h => h) (Or.inl ⟨by rfl, ?y2⟩) ⟨c0, c1, c2, c3, c4, c5⟩ ?r2
  case y2 => (intro ww hS; obtain ⟨c0, c1, c2, c3, c4, c5⟩ := hS; go_simp; try with_reducible rfl)
  try simp only [Act.put, List.setIfInBounds_toArray, List.set_cons_zero, List.set_cons_succ]
  refine wpAnyH_take (i := 3) (oi := { dst := some 23, op := Op.load 25 (Operand.tmp 22), type := 25, pos := "ival.go:89", after := #[{ on := 2, ground := Ground.data }, { on := 6, ground := Ground.gcOnly Departure.lateStores }], guard := none }) (v := .agg #[.bool t, .slice b bl bc, .int .i64 f]) rfl (by kernel_rfl) (by kernel_rfl) (by kernel_rfl) (fun _ _ _ h => h) (Or.inl ⟨by rfl, ?y3⟩) ⟨c0, c1, c2, c3, c4, c5⟩ ?r3
  case y3 => (intro ww hS; obtain ⟨c0, c1, c2, c3, c4, c5⟩ := hS; go_simp; try with_reducible rfl)
  try simp only [Act.put, List.setIfInBounds_toArray, List.set_cons_zero, List.set_cons_succ]
  have hX : w1.heap.size ≤ wd.heap.size := bD.size
  refine wpAnyH_ready (rs := [4, 5]) (by kernel_rfl) (by simp) ?_
  refine AllReadyH.cons rfl (fun K hK => ?_) (AllReadyH.cons rfl (fun K hK => ?_) AllReadyH.nil)
  · go_simp
    have b1 := below_one wd (.cells #[.bool false, .slice none 0 0, .int .i64 0] 25)
    replace c0 := kC b1 c0
    replace c1 := kC b1 c1
    replace c2 := kC b1 c2
    replace c3 := kC b1 c3
    replace c4 := kC b1 c4
    replace c5 := kC b1 c5
    refine hK.out _ _ ⟨c0, c1, c2, c3, c4, c5⟩ (fun _ => ?_)
    clear hK K
    refine wpAnyH_ready (rs := [5]) (by kernel_rfl) (by simp) ?_
    refine AllReadyH.cons rfl (fun K hK => ?_) AllReadyH.nil
    go_simp
    have b2 := below_one (wd.alloc (.cells #[.bool false, .slice none 0 0, .int .i64 0] 25)) (.cells #[.bool false, .slice none 0 0, .int .i64 0] 25)
    replace c0 := kC b2 c0
    replace c1 := kC b2 c1
    replace c2 := kC b2 c2
    replace c3 := kC b2 c3
    replace c4 := kC b2 c4
    replace c5 := kC b2 c5
    refine hK.out _ _ ⟨c0, c1, c2, c3, c4, c5⟩ (fun _ => ?_)
    clear hK K
    have n0 : ((wd.alloc (.cells #[.bool false, .slice none 0 0, .int .i64 0] 25)).alloc (.cells #[.bool false, .slice none 0 0, .int .i64 0] 25)).cell? ⟨wd.heap.size, 0, none⟩ = some (.bool false) := by go_simp
    have nf0 : ((wd.alloc (.cells #[.bool false, .slice none 0 0, .int .i64 0] 25)).alloc (.cells #[.bool false, .slice none 0 0, .int .i64 0] 25)).frozen? ⟨wd.heap.size, 0, none⟩ = false := by go_simp
    have n1 : ((wd.alloc (.cells #[.bool false, .slice none 0 0, .int .i64 0] 25)).alloc (.cells #[.bool false, .slice none 0 0, .int .i64 0] 25)).cell? ⟨wd.heap.size, 1, none⟩ = some (.slice none 0 0) := by go_simp
    have nf1 : ((wd.alloc (.cells #[.bool false, .slice none 0 0, .int .i64 0] 25)).alloc (.cells #[.bool false, .slice none 0 0, .int .i64 0] 25)).frozen? ⟨wd.heap.size, 1, none⟩ = false := by go_simp
    have n2 : ((wd.alloc (.cells #[.bool false, .slice none 0 0, .int .i64 0] 25)).alloc (.cells #[.bool false, .slice none 0 0, .int .i64 0] 25)).cell? ⟨wd.heap.size, 2, none⟩ = some (.int .i64 0) := by go_simp
    have nf2 : ((wd.alloc (.cells #[.bool false, .slice none 0 0, .int .i64 0] 25)).alloc (.cells #[.bool false, .slice none 0 0, .int .i64 0] 25)).frozen? ⟨wd.heap.size, 2, none⟩ = false := by go_simp
    have m0 : ((wd.alloc (.cells #[.bool false, .slice none 0 0, .int .i64 0] 25)).alloc (.cells #[.bool false, .slice none 0 0, .int .i64 0] 25)).cell? ⟨wd.heap.size + 1, 0, none⟩ = some (.bool false) := by go_simp
    have mf0 : ((wd.alloc (.cells #[.bool false, .slice none 0 0, .int .i64 0] 25)).alloc (.cells #[.bool false, .slice none 0 0, .int .i64 0] 25)).frozen? ⟨wd.heap.size + 1, 0, none⟩ = false := by go_simp
    have m1 : ((wd.alloc (.cells #[.bool false, .slice none 0 0, .int .i64 0] 25)).alloc (.cells #[.bool false, .slice none 0 0, .int .i64 0] 25)).cell? ⟨wd.heap.size + 1, 1, none⟩ = some (.slice none 0 0) := by go_simp
    have mf1 : ((wd.alloc (.cells #[.bool false, .slice none 0 0, .int .i64 0] 25)).alloc (.cells #[.bool false, .slice none 0 0, .int .i64 0] 25)).frozen? ⟨wd.heap.size + 1, 1, none⟩ = false := by go_simp
    have m2 : ((wd.alloc (.cells #[.bool false, .slice none 0 0, .int .i64 0] 25)).alloc (.cells #[.bool false, .slice none 0 0, .int .i64 0] 25)).cell? ⟨wd.heap.size + 1, 2, none⟩ = some (.int .i64 0) := by go_simp
    have mf2 : ((wd.alloc (.cells #[.bool false, .slice none 0 0, .int .i64 0] 25)).alloc (.cells #[.bool false, .slice none 0 0, .int .i64 0] 25)).frozen? ⟨wd.heap.size + 1, 2, none⟩ = false := by go_simp
    have bB := nT bD (nT b1 b2)
    clear b1 b2 bD
    generalize ((wd.alloc (.cells #[.bool false, .slice none 0 0, .int .i64 0] 25)).alloc (.cells #[.bool false, .slice none 0 0, .int .i64 0] 25)) = v0 at *
    generalize wd.heap.size = X at *
    have nA : A ≠ X := by omega
    have nB : A ≠ X + 1 := by omega
    refine wpAnyH_ready (rs := [6]) (by kernel_rfl) (by simp) ?_
    refine AllReadyH.cons rfl (fun K hK => ?_) AllReadyH.nil
    go_simp
    replace c0 := set3_cell (r := X) (v0 := .bool s) (v1 := .slice a len cap) (v2 := .int .i64 e) c0 nA
    replace c1 := set3_cell (r := X) (v0 := .bool s) (v1 := .slice a len cap) (v2 := .int .i64 e) c1 nA
    replace c2 := set3_cell (r := X) (v0 := .bool s) (v1 := .slice a len cap) (v2 := .int .i64 e) c2 nA
    replace c3 := set3_cell (r := X) (v0 := .bool s) (v1 := .slice a len cap) (v2 := .int .i64 e) c3 nA
    replace c4 := set3_cell (r := X) (v0 := .bool s) (v1 := .slice a len cap) (v2 := .int .i64 e) c4 nA
    replace c5 := set3_cell (r := X) (v0 := .bool s) (v1 := .slice a len cap) (v2 := .int .i64 e) c5 nA
    replace m0 := set3_cell (r := X) (v0 := .bool s) (v1 := .slice a len cap) (v2 := .int .i64 e) m0 (by omega)
    replace m1 := set3_cell (r := X) (v0 := .bool s) (v1 := .slice a len cap) (v2 := .int .i64 e) m1 (by omega)
    replace m2 := set3_cell (r := X) (v0 := .bool s) (v1 := .slice a len cap) (v2 := .int .i64 e) m2 (by omega)
    replace nf0 := set3_frozen (r := X) (v0 := .bool s) (v1 := .slice a len cap) (v2 := .int .i64 e) nf0
    replace nf1 := set3_frozen (r := X) (v0 := .bool s) (v1 := .slice a len cap) (v2 := .int .i64 e) nf1
    replace nf2 := set3_frozen (r := X) (v0 := .bool s) (v1 := .slice a len cap) (v2 := .int .i64 e) nf2
    replace mf0 := set3_frozen (r := X) (v0 := .bool s) (v1 := .slice a len cap) (v2 := .int .i64 e) mf0
    replace mf1 := set3_frozen (r := X) (v0 := .bool s) (v1 := .slice a len cap) (v2 := .int .i64 e) mf1
    replace mf2 := set3_frozen (r := X) (v0 := .bool s) (v1 := .slice a len cap) (v2 := .int .i64 e) mf2
    obtain ⟨n0, n1, n2⟩ := set3_same (v0 := .bool s) (v1 := .slice a len cap) (v2 := .int .i64 e) n0 n1 n2
    refine hK.out _ _ ⟨c0, c1, c2, c3, c4, c5⟩ (fun _ => ?_)
    clear hK K
    replace bB := (((bB.setCell (p := ⟨X, 0, none⟩) hX (.bool s)).setCell (p := ⟨X, 1, none⟩) hX (.slice a len cap)).setCell (p := ⟨X, 2, none⟩) hX (.int .i64 e))
    generalize (((v0.setCell ⟨X, 0, none⟩ (.bool s)).setCell ⟨X, 1, none⟩ (.slice a len cap)).setCell ⟨X, 2, none⟩ (.int .i64 e)) = v1 at *
    refine wpAnyH_ready (rs := [7]) (by kernel_rfl) (by simp) ?_
    refine AllReadyH.cons rfl (fun K hK => ?_) AllReadyH.nil
    go_simp
    replace c0 := set3_cell (r := X + 1) (v0 := .bool t) (v1 := .slice b bl bc) (v2 := .int .i64 f) c0 nB
    replace c1 := set3_cell (r := X + 1) (v0 := .bool t) (v1 := .slice b bl bc) (v2 := .int .i64 f) c1 nB
    replace c2 := set3_cell (r := X + 1) (v0 := .bool t) (v1 := .slice b bl bc) (v2 := .int .i64 f) c2 nB
    replace c3 := set3_cell (r := X + 1) (v0 := .bool t) (v1 := .slice b bl bc) (v2 := .int .i64 f) c3 nB
    replace c4 := set3_cell (r := X + 1) (v0 := .bool t) (v1 := .slice b bl bc) (v2 := .int .i64 f) c4 nB
    replace c5 := set3_cell (r := X + 1) (v0 := .bool t) (v1 := .slice b bl bc) (v2 := .int .i64 f) c5 nB
    replace n0 := set3_cell (r := X + 1) (v0 := .bool t) (v1 := .slice b bl bc) (v2 := .int .i64 f) n0 (by omega)
    replace n1 := set3_cell (r := X + 1) (v0 := .bool t) (v1 := .slice b bl bc) (v2 := .int .i64 f) n1 (by omega)
    replace n2 := set3_cell (r := X + 1) (v0 := .bool t) (v1 := .slice b bl bc) (v2 := .int .i64 f) n2 (by omega)
    replace nf0 := set3_frozen (r := X + 1) (v0 := .bool t) (v1 := .slice b bl bc) (v2 := .int .i64 f) nf0
    replace nf1 := set3_frozen (r := X + 1) (v0 := .bool t) (v1 := .slice b bl bc) (v2 := .int .i64 f) nf1
    replace nf2 := set3_frozen (r := X + 1) (v0 := .bool t) (v1 := .slice b bl bc) (v2 := .int .i64 f) nf2
    replace mf0 := set3_frozen (r := X + 1) (v0 := .bool t) (v1 := .slice b bl bc) (v2 := .int .i64 f) mf0
    replace mf1 := set3_frozen (r := X + 1) (v0 := .bool t) (v1 := .slice b bl bc) (v2 := .int .i64 f) mf1
    replace mf2 := set3_frozen (r := X + 1) (v0 := .bool t) (v1 := .slice b bl bc) (v2 := .int .i64 f) mf2
    obtain ⟨m0, m1, m2⟩ := set3_same (v0 := .bool t) (v1 := .slice b bl bc) (v2 := .int .i64 f) m0 m1 m2
    refine hK.out _ _ ⟨c0, c1, c2, c3, c4, c5⟩ (fun _ => ?_)
    clear hK K
    replace bB := (((bB.setCell (p := ⟨X + 1, 0, none⟩) (Nat.le_succ_of_le hX) (.bool t)).setCell (p := ⟨X + 1, 1, none⟩) (Nat.le_succ_of_le hX) (.slice b bl bc)).setCell (p := ⟨X + 1, 2, none⟩) (Nat.le_succ_of_le hX) (.int .i64 f))
    generalize (((v1.setCell ⟨X + 1, 0, none⟩ (.bool t)).setCell ⟨X + 1, 1, none⟩ (.slice b bl bc)).setCell ⟨X + 1, 2, none⟩ (.int .i64 f)) = v2 at *
    refine wpAnyH_done (by kernel_rfl) ?_ _
    try simp only [Act.put, List.setIfInBounds_toArray, List.set_cons_zero, List.set_cons_succ]
    clear c0 c1 c2 c3 c4 c5
    go_upto_region 7 with fail
    replace m0 := set3_cell (r := X) (v0 := .bool t) (v1 := .slice b bl bc) (v2 := .int .i64 f) m0 (by omega)
    replace m1 := set3_cell (r := X) (v0 := .bool t) (v1 := .slice b bl bc) (v2 := .int .i64 f) m1 (by omega)
    replace m2 := set3_cell (r := X) (v0 := .bool t) (v1 := .slice b bl bc) (v2 := .int .i64 f) m2 (by omega)
    replace nf0 := set3_frozen (r := X) (v0 := .bool t) (v1 := .slice b bl bc) (v2 := .int .i64 f) nf0
    replace nf1 := set3_frozen (r := X) (v0 := .bool t) (v1 := .slice b bl bc) (v2 := .int .i64 f) nf1
    replace nf2 := set3_frozen (r := X) (v0 := .bool t) (v1 := .slice b bl bc) (v2 := .int .i64 f) nf2
    replace mf0 := set3_frozen (r := X) (v0 := .bool t) (v1 := .slice b bl bc) (v2 := .int .i64 f) mf0
    replace mf1 := set3_frozen (r := X) (v0 := .bool t) (v1 := .slice b bl bc) (v2 := .int .i64 f) mf1
    replace mf2 := set3_frozen (r := X) (v0 := .bool t) (v1 := .slice b bl bc) (v2 := .int .i64 f) mf2
    obtain ⟨n0, n1, n2⟩ := set3_same (v0 := .bool t) (v1 := .slice b bl bc) (v2 := .int .i64 f) n0 n1 n2
    replace bB := (((bB.setCell (p := ⟨X, 0, none⟩) hX (.bool t)).setCell (p := ⟨X, 1, none⟩) hX (.slice b bl bc)).setCell (p := ⟨X, 2, none⟩) hX (.int .i64 f))
    generalize (((v2.setCell ⟨X, 0, none⟩ (.bool t)).setCell ⟨X, 1, none⟩ (.slice b bl bc)).setCell ⟨X, 2, none⟩ (.int .i64 f)) = v3 at *
    replace n0 := set3_cell (r := X + 1) (v0 := .bool s) (v1 := .slice a len cap) (v2 := .int .i64 e) n0 (by omega)
    replace n1 := set3_cell (r := X + 1) (v0 := .bool s) (v1 := .slice a len cap) (v2 := .int .i64 e) n1 (by omega)
    replace n2 := set3_cell (r := X + 1) (v0 := .bool s) (v1 := .slice a len cap) (v2 := .int .i64 e) n2 (by omega)
    replace nf0 := set3_frozen (r := X + 1) (v0 := .bool s) (v1 := .slice a len cap) (v2 := .int .i64 e) nf0
    replace nf1 := set3_frozen (r := X + 1) (v0 := .bool s) (v1 := .slice a len cap) (v2 := .int .i64 e) nf1
    replace nf2 := set3_frozen (r := X + 1) (v0 := .bool s) (v1 := .slice a len cap) (v2 := .int .i64 e) nf2
    replace mf0 := set3_frozen (r := X + 1) (v0 := .bool s) (v1 := .slice a len cap) (v2 := .int .i64 e) mf0
    replace mf1 := set3_frozen (r := X + 1) (v0 := .bool s) (v1 := .slice a len cap) (v2 := .int .i64 e) mf1
    replace mf2 := set3_frozen (r := X + 1) (v0 := .bool s) (v1 := .slice a len cap) (v2 := .int .i64 e) mf2
    obtain ⟨m0, m1, m2⟩ := set3_same (v0 := .bool s) (v1 := .slice a len cap) (v2 := .int .i64 e) m0 m1 m2
    replace bB := (((bB.setCell (p := ⟨X + 1, 0, none⟩) (Nat.le_succ_of_le hX) (.bool s)).setCell (p := ⟨X + 1, 1, none⟩) (Nat.le_succ_of_le hX) (.slice a len cap)).setCell (p := ⟨X + 1, 2, none⟩) (Nat.le_succ_of_le hX) (.int .i64 e))
    generalize (((v3.setCell ⟨X + 1, 0, none⟩ (.bool s)).setCell ⟨X + 1, 1, none⟩ (.slice a len cap)).setCell ⟨X + 1, 2, none⟩ (.int .i64 e)) = v4 at *
    go_wp2_with fail
    refine Calls.mono (HL.out _ (IsW.keep h' ?bS) (IsW.keep h ?bS) (HTw.out.kept (nT bA ?bS))) ?_
    case bS => repeat (first | (with_reducible exact bB) | (with_reducible refine Below.setCell ?_ (by first | exact hX | exact Nat.le_succ_of_le hX) _))
    rintro r w9 ⟨rfl, bN⟩
    go_wp2_with fail
    go_ret
    refine ⟨by rw [HV.out]; rfl, nT bA (nT ?_ bN)⟩
    repeat (first | (with_reducible exact bB) | (with_reducible refine Below.setCell ?_ (by first | exact hX | exact Nat.le_succ_of_le hX) _))
  · go_simp
    have b1 := below_one wd (.cells #[.bool false, .slice none 0 0, .int .i64 0] 25)
    replace c0 := kC b1 c0
    replace c1 := kC b1 c1
    replace c2 := kC b1 c2
    replace c3 := kC b1 c3
    replace c4 := kC b1 c4
    replace c5 := kC b1 c5
    refine hK.out _ _ ⟨c0, c1, c2, c3, c4, c5⟩ (fun _ => ?_)
    clear hK K
    refine wpAnyH_ready (rs := [4]) (by kernel_rfl) (by simp) ?_
    refine AllReadyH.cons rfl (fun K hK => ?_) AllReadyH.nil
    go_simp
    have b2 := below_one (wd.alloc (.cells #[.bool false, .slice none 0 0, .int .i64 0] 25)) (.cells #[.bool false, .slice none 0 0, .int .i64 0] 25)
    replace c0 := kC b2 c0
    replace c1 := kC b2 c1
    replace c2 := kC b2 c2
    replace c3 := kC b2 c3
    replace c4 := kC b2 c4
    replace c5 := kC b2 c5
    refine hK.out _ _ ⟨c0, c1, c2, c3, c4, c5⟩ (fun _ => ?_)
    clear hK K
    have n0 : ((wd.alloc (.cells #[.bool false, .slice none 0 0, .int .i64 0] 25)).alloc (.cells #[.bool false, .slice none 0 0, .int .i64 0] 25)).cell? ⟨wd.heap.size + 1, 0, none⟩ = some (.bool false) := by go_simp
    have nf0 : ((wd.alloc (.cells #[.bool false, .slice none 0 0, .int .i64 0] 25)).alloc (.cells #[.bool false, .slice none 0 0, .int .i64 0] 25)).frozen? ⟨wd.heap.size + 1, 0, none⟩ = false := by go_simp
    have n1 : ((wd.alloc (.cells #[.bool false, .slice none 0 0, .int .i64 0] 25)).alloc (.cells #[.bool false, .slice none 0 0, .int .i64 0] 25)).cell? ⟨wd.heap.size + 1, 1, none⟩ = some (.slice none 0 0) := by go_simp
    have nf1 : ((wd.alloc (.cells #[.bool false, .slice none 0 0, .int .i64 0] 25)).alloc (.cells #[.bool false, .slice none 0 0, .int .i64 0] 25)).frozen? ⟨wd.heap.size + 1, 1, none⟩ = false := by go_simp
    have n2 : ((wd.alloc (.cells #[.bool false, .slice none 0 0, .int .i64 0] 25)).alloc (.cells #[.bool false, .slice none 0 0, .int .i64 0] 25)).cell? ⟨wd.heap.size + 1, 2, none⟩ = some (.int .i64 0) := by go_simp
    have nf2 : ((wd.alloc (.cells #[.bool false, .slice none 0 0, .int .i64 0] 25)).alloc (.cells #[.bool false, .slice none 0 0, .int .i64 0] 25)).frozen? ⟨wd.heap.size + 1, 2, none⟩ = false := by go_simp
    have m0 : ((wd.alloc (.cells #[.bool false, .slice none 0 0, .int .i64 0] 25)).alloc (.cells #[.bool false, .slice none 0 0, .int .i64 0] 25)).cell? ⟨wd.heap.size, 0, none⟩ = some (.bool false) := by go_simp
    have mf0 : ((wd.alloc (.cells #[.bool false, .slice none 0 0, .int .i64 0] 25)).alloc (.cells #[.bool false, .slice none 0 0, .int .i64 0] 25)).frozen? ⟨wd.heap.size, 0, none⟩ = false := by go_simp
    have m1 : ((wd.alloc (.cells #[.bool false, .slice none 0 0, .int .i64 0] 25)).alloc (.cells #[.bool false, .slice none 0 0, .int .i64 0] 25)).cell? ⟨wd.heap.size, 1, none⟩ = some (.slice none 0 0) := by go_simp
    have mf1 : ((wd.alloc (.cells #[.bool false, .slice none 0 0, .int .i64 0] 25)).alloc (.cells #[.bool false, .slice none 0 0, .int .i64 0] 25)).frozen? ⟨wd.heap.size, 1, none⟩ = false := by go_simp
    have m2 : ((wd.alloc (.cells #[.bool false, .slice none 0 0, .int .i64 0] 25)).alloc (.cells #[.bool false, .slice none 0 0, .int .i64 0] 25)).cell? ⟨wd.heap.size, 2, none⟩ = some (.int .i64 0) := by go_simp
    have mf2 : ((wd.alloc (.cells #[.bool false, .slice none 0 0, .int .i64 0] 25)).alloc (.cells #[.bool false, .slice none 0 0, .int .i64 0] 25)).frozen? ⟨wd.heap.size, 2, none⟩ = false := by go_simp
    have bB := nT bD (nT b1 b2)
    clear b1 b2 bD
    generalize ((wd.alloc (.cells #[.bool false, .slice none 0 0, .int .i64 0] 25)).alloc (.cells #[.bool false, .slice none 0 0, .int .i64 0] 25)) = v0 at *
    generalize wd.heap.size = X at *
    have nA : A ≠ X := by omega
    have nB : A ≠ X + 1 := by omega
    refine wpAnyH_ready (rs := [6]) (by kernel_rfl) (by simp) ?_
    refine AllReadyH.cons rfl (fun K hK => ?_) AllReadyH.nil
    go_simp
    replace c0 := set3_cell (r := X + 1) (v0 := .bool s) (v1 := .slice a len cap) (v2 := .int .i64 e) c0 nB
    replace c1 := set3_cell (r := X + 1) (v0 := .bool s) (v1 := .slice a len cap) (v2 := .int .i64 e) c1 nB
    replace c2 := set3_cell (r := X + 1) (v0 := .bool s) (v1 := .slice a len cap) (v2 := .int .i64 e) c2 nB
    replace c3 := set3_cell (r := X + 1) (v0 := .bool s) (v1 := .slice a len cap) (v2 := .int .i64 e) c3 nB
    replace c4 := set3_cell (r := X + 1) (v0 := .bool s) (v1 := .slice a len cap) (v2 := .int .i64 e) c4 nB
    replace c5 := set3_cell (r := X + 1) (v0 := .bool s) (v1 := .slice a len cap) (v2 := .int .i64 e) c5 nB
    replace m0 := set3_cell (r := X + 1) (v0 := .bool s) (v1 := .slice a len cap) (v2 := .int .i64 e) m0 (by omega)
    replace m1 := set3_cell (r := X + 1) (v0 := .bool s) (v1 := .slice a len cap) (v2 := .int .i64 e) m1 (by omega)
    replace m2 := set3_cell (r := X + 1) (v0 := .bool s) (v1 := .slice a len cap) (v2 := .int .i64 e) m2 (by omega)
    replace nf0 := set3_frozen (r := X + 1) (v0 := .bool s) (v1 := .slice a len cap) (v2 := .int .i64 e) nf0
    replace nf1 := set3_frozen (r := X + 1) (v0 := .bool s) (v1 := .slice a len cap) (v2 := .int .i64 e) nf1
    replace nf2 := set3_frozen (r := X + 1) (v0 := .bool s) (v1 := .slice a len cap) (v2 := .int .i64 e) nf2
    replace mf0 := set3_frozen (r := X + 1) (v0 := .bool s) (v1 := .slice a len cap) (v2 := .int .i64 e) mf0
    replace mf1 := set3_frozen (r := X + 1) (v0 := .bool s) (v1 := .slice a len cap) (v2 := .int .i64 e) mf1
    replace mf2 := set3_frozen (r := X + 1) (v0 := .bool s) (v1 := .slice a len cap) (v2 := .int .i64 e) mf2
    obtain ⟨n0, n1, n2⟩ := set3_same (v0 := .bool s) (v1 := .slice a len cap) (v2 := .int .i64 e) n0 n1 n2
    refine hK.out _ _ ⟨c0, c1, c2, c3, c4, c5⟩ (fun _ => ?_)
    clear hK K
    replace bB := (((bB.setCell (p := ⟨X + 1, 0, none⟩) (Nat.le_succ_of_le hX) (.bool s)).setCell (p := ⟨X + 1, 1, none⟩) (Nat.le_succ_of_le hX) (.slice a len cap)).setCell (p := ⟨X + 1, 2, none⟩) (Nat.le_succ_of_le hX) (.int .i64 e))
    generalize (((v0.setCell ⟨X + 1, 0, none⟩ (.bool s)).setCell ⟨X + 1, 1, none⟩ (.slice a len cap)).setCell ⟨X + 1, 2, none⟩ (.int .i64 e)) = v1 at *
    refine wpAnyH_ready (rs := [7]) (by kernel_rfl) (by simp) ?_
    refine AllReadyH.cons rfl (fun K hK => ?_) AllReadyH.nil
    go_simp
    replace c0 := set3_cell (r := X) (v0 := .bool t) (v1 := .slice b bl bc) (v2 := .int .i64 f) c0 nA
    replace c1 := set3_cell (r := X) (v0 := .bool t) (v1 := .slice b bl bc) (v2 := .int .i64 f) c1 nA
    replace c2 := set3_cell (r := X) (v0 := .bool t) (v1 := .slice b bl bc) (v2 := .int .i64 f) c2 nA
    replace c3 := set3_cell (r := X) (v0 := .bool t) (v1 := .slice b bl bc) (v2 := .int .i64 f) c3 nA
    replace c4 := set3_cell (r := X) (v0 := .bool t) (v1 := .slice b bl bc) (v2 := .int .i64 f) c4 nA
    replace c5 := set3_cell (r := X) (v0 := .bool t) (v1 := .slice b bl bc) (v2 := .int .i64 f) c5 nA
    replace n0 := set3_cell (r := X) (v0 := .bool t) (v1 := .slice b bl bc) (v2 := .int .i64 f) n0 (by omega)
    replace n1 := set3_cell (r := X) (v0 := .bool t) (v1 := .slice b bl bc) (v2 := .int .i64 f) n1 (by omega)
    replace n2 := set3_cell (r := X) (v0 := .bool t) (v1 := .slice b bl bc) (v2 := .int .i64 f) n2 (by omega)
    replace nf0 := set3_frozen (r := X) (v0 := .bool t) (v1 := .slice b bl bc) (v2 := .int .i64 f) nf0
    replace nf1 := set3_frozen (r := X) (v0 := .bool t) (v1 := .slice b bl bc) (v2 := .int .i64 f) nf1
    replace nf2 := set3_frozen (r := X) (v0 := .bool t) (v1 := .slice b bl bc) (v2 := .int .i64 f) nf2
    replace mf0 := set3_frozen (r := X) (v0 := .bool t) (v1 := .slice b bl bc) (v2 := .int .i64 f) mf0
    replace mf1 := set3_frozen (r := X) (v0 := .bool t) (v1 := .slice b bl bc) (v2 := .int .i64 f) mf1
    replace mf2 := set3_frozen (r := X) (v0 := .bool t) (v1 := .slice b bl bc) (v2 := .int .i64 f) mf2
    obtain ⟨m0, m1, m2⟩ := set3_same (v0 := .bool t) (v1 := .slice b bl bc) (v2 := .int .i64 f) m0 m1 m2
    refine hK.out _ _ ⟨c0, c1, c2, c3, c4, c5⟩ (fun _ => ?_)
    clear hK K
    replace bB := (((bB.setCell (p := ⟨X, 0, none⟩) hX (.bool t)).setCell (p := ⟨X, 1, none⟩) hX (.slice b bl bc)).setCell (p := ⟨X, 2, none⟩) hX (.int .i64 f))
    generalize (((v1.setCell ⟨X, 0, none⟩ (.bool t)).setCell ⟨X, 1, none⟩ (.slice b bl bc)).setCell ⟨X, 2, none⟩ (.int .i64 f)) = v2 at *
    refine wpAnyH_done (by kernel_rfl) ?_ _
    try simp only [Act.put, List.setIfInBounds_toArray, List.set_cons_zero, List.set_cons_succ]
    clear c0 c1 c2 c3 c4 c5
    go_upto_region 7 with fail
    replace m0 := set3_cell (r := X + 1) (v0 := .bool t) (v1 := .slice b bl bc) (v2 := .int .i64 f) m0 (by omega)
    replace m1 := set3_cell (r := X + 1) (v0 := .bool t) (v1 := .slice b bl bc) (v2 := .int .i64 f) m1 (by omega)
    replace m2 := set3_cell (r := X + 1) (v0 := .bool t) (v1 := .slice b bl bc) (v2 := .int .i64 f) m2 (by omega)
    replace nf0 := set3_frozen (r := X + 1) (v0 := .bool t) (v1 := .slice b bl bc) (v2 := .int .i64 f) nf0
    replace nf1 := set3_frozen (r := X + 1) (v0 := .bool t) (v1 := .slice b bl bc) (v2 := .int .i64 f) nf1
    replace nf2 := set3_frozen (r := X + 1) (v0 := .bool t) (v1 := .slice b bl bc) (v2 := .int .i64 f) nf2
    replace mf0 := set3_frozen (r := X + 1) (v0 := .bool t) (v1 := .slice b bl bc) (v2 := .int .i64 f) mf0
    replace mf1 := set3_frozen (r := X + 1) (v0 := .bool t) (v1 := .slice b bl bc) (v2 := .int .i64 f) mf1
    replace mf2 := set3_frozen (r := X + 1) (v0 := .bool t) (v1 := .slice b bl bc) (v2 := .int .i64 f) mf2
    obtain ⟨n0, n1, n2⟩ := set3_same (v0 := .bool t) (v1 := .slice b bl bc) (v2 := .int .i64 f) n0 n1 n2
    replace bB := (((bB.setCell (p := ⟨X + 1, 0, none⟩) (Nat.le_succ_of_le hX) (.bool t)).setCell (p := ⟨X + 1, 1, none⟩) (Nat.le_succ_of_le hX) (.slice b bl bc)).setCell (p := ⟨X + 1, 2, none⟩) (Nat.le_succ_of_le hX) (.int .i64 f))
    generalize (((v2.setCell ⟨X + 1, 0, none⟩ (.bool t)).setCell ⟨X + 1, 1, none⟩ (.slice b bl bc)).setCell ⟨X + 1, 2, none⟩ (.int .i64 f)) = v3 at *
    replace n0 := set3_cell (r := X) (v0 := .bool s) (v1 := .slice a len cap) (v2 := .int .i64 e) n0 (by omega)
    replace n1 := set3_cell (r := X) (v0 := .bool s) (v1 := .slice a len cap) (v2 := .int .i64 e) n1 (by omega)
    replace n2 := set3_cell (r := X) (v0 := .bool s) (v1 := .slice a len cap) (v2 := .int .i64 e) n2 (by omega)
    replace nf0 := set3_frozen (r := X) (v0 := .bool s) (v1 := .slice a len cap) (v2 := .int .i64 e) nf0
    replace nf1 := set3_frozen (r := X) (v0 := .bool s) (v1 := .slice a len cap) (v2 := .int .i64 e) nf1
    replace nf2 := set3_frozen (r := X) (v0 := .bool s) (v1 := .slice a len cap) (v2 := .int .i64 e) nf2
    replace mf0 := set3_frozen (r := X) (v0 := .bool s) (v1 := .slice a len cap) (v2 := .int .i64 e) mf0
    replace mf1 := set3_frozen (r := X) (v0 := .bool s) (v1 := .slice a len cap) (v2 := .int .i64 e) mf1
    replace mf2 := set3_frozen (r := X) (v0 := .bool s) (v1 := .slice a len cap) (v2 := .int .i64 e) mf2
    obtain ⟨m0, m1, m2⟩ := set3_same (v0 := .bool s) (v1 := .slice a len cap) (v2 := .int .i64 e) m0 m1 m2
    replace bB := (((bB.setCell (p := ⟨X, 0, none⟩) hX (.bool s)).setCell (p := ⟨X, 1, none⟩) hX (.slice a len cap)).setCell (p := ⟨X, 2, none⟩) hX (.int .i64 e))
    generalize (((v3.setCell ⟨X, 0, none⟩ (.bool s)).setCell ⟨X, 1, none⟩ (.slice a len cap)).setCell ⟨X, 2, none⟩ (.int .i64 e)) = v4 at *
    go_wp2_with fail
    refine Calls.mono (HL.out _ (IsW.keep h' ?bS) (IsW.keep h ?bS) (HTw.out.kept (nT bA ?bS))) ?_
    case bS => repeat (first | (with_reducible exact bB) | (with_reducible refine Below.setCell ?_ (by first | exact hX | exact Nat.le_succ_of_le hX) _))
    rintro r w9 ⟨rfl, bN⟩
    go_wp2_with fail
    go_ret
    refine ⟨by rw [HV.out]; rfl, nT bA (nT ?_ bN)⟩
    repeat (first | (with_reducible exact bB) | (with_reducible refine Below.setCell ?_ (by first | exact hX | exact Nat.le_succ_of_le hX) _))

theorem narrow_calls (s : Bool) (a : Option Addr) (len cap : Nat) (xs : List Int) (e : Int) (t : Bool) (b : Option Addr) (bl bc : Nat) (ys : List Int) (f p : Int) (w : World) (h : IsW w a len cap xs) (hm : len ≤ 17592186044000) (h' : IsW w b bl bc ys) (hm' : bl ≤ 17592186044000) (hT : Tab w) :
    Calls Tryz.prog 5 #[ivI s a len cap e t b bl bc f, .int .i64 p] w fun r w' => r = .returned (.bool (nwB s (val xs) e t (val ys) f p)) ∧ Below w.heap.size w w' := by
  cases hn : (sgB s (val xs) e t (val ys) f && decide (0 ≤ p)) with
  | false => exact narrow_not s a len cap xs e t b bl bc ys f p w h hm h' hm' hT hn
  | true =>
    rw [Bool.and_eq_true, decide_eq_true_eq] at hn
    rcases sg_three s (val xs) e t (val ys) f with q | q | q
    · exact narrow_z s a len cap xs e t b bl bc ys f p w h hm h' hm' hT hn.1 hn.2 q
    · exact narrow_p s a len cap xs e t b bl bc ys f p w h hm h' hm' hT hn.1 hn.2 q
    · exact narrow_m s a len cap xs e t b bl bc ys f p w h hm h' hm' hT hn.1 hn.2 q
end Go.Proofs.YtbilpmncimfmjaaGreatDoor

/- What is narrow to so many bits is so to fewer (pure). Package ival: littleApart. Package ival: Narrow. -/
import Derived.Test.YtbhneifafnoaiaaGreatDoorTMO
import Derived.Test.YtbhneifafnoaiaaGreatDoorTMR
import Derived.Test.YtbhneifafnoaiaaGreatDoorTMJ
import Derived.Test.YtbhneifafnoaiaaGreatDoorCR
import Derived.Test.YtbhneifafnoaiaaGreatDoorCR2
import Derived.Test.YtbhneifafnoaiaaGreatDoorAL
import Derived.Test.YtbhneifafnoaiaaGreatDoorFX

namespace Go.Proofs.YtbhneifafnoaiaaGreatDoor
open Go.RowKit
theorem form_loN (s : Bool) (m : Nat) (e K : Int) (h : K ≤ e) (h0 : K ≤ 0) : K ≤ (formD s m e).2.2 := by
 unfold formD
 split
 ·exact h0
 ·show K ≤ e + (tz m : Int); omega
theorem cmpI_le (a b : Int) : Lib.compareInt a b ≤ 0 ↔ a ≤ b := by
 unfold Lib.compareInt
 split
 ·constructor <;> intro <;> omega
 ·split
  ·constructor <;> intro <;> omega
  ·constructor <;> intro <;> omega
def liL (n : Nat) (f : Int) : Int := 32769 - f - (blen n : Int)
def liR (m : Nat) (e : Int) (n : Nat) (f : Int) : Bool := rightB n (f + liL n f) && rightB m (e + liL n f)
def liS (m : Nat) (e : Int) (n : Nat) (f : Int) : Bool × Nat × Int := sumD (formD false n (f + liL n f)) (negD (formD false m (e + liL n f)))
def liB (m : Nat) (e : Int) (n : Nat) (f p : Int) : Bool := decide (twE (liR m e n f) (liS m e n f) = 0) && decide (cmpD (formD (twP (liR m e n f) (liS m e n f)).1 (twP (liR m e n f) (liS m e n f)).2.1 ((twP (liR m e n f) (liS m e n f)).2.2 + min p 131073)) (formD false m (e + liL n f)) ≤ 0)
def nwB (s : Bool) (m : Nat) (e : Int) (t : Bool) (n : Nat) (f p : Int) : Bool :=
 sgB s m e t n f && decide (0 ≤ p) && (decide (sgV s m e t n f = 0) || (if sgV s m e t n f < 0 then liB n f m e p else liB m e n f p))
theorem tw_ok {b : Bool} {p : Bool × Nat × Int} (h : twE b p = 0) : greatB (twP b p).2.1 = false ∧ -32768 ≤ (twP b p).2.2 ∧ (twP b p).2.2 ≤ 32768 := by
 unfold twE at h
 unfold twP
 cases b with
 | false => cases h
 | true =>
  rw [if_pos rfl] at h ⊢
  have hr : rightB p.2.1 p.2.2 = true := by
   cases q : rightB p.2.1 p.2.2 with
   | true => rfl
   | false => change (if rightB p.2.1 p.2.2 = true then (0 : Int) else 3) = 0 at h; rw [q] at h; cases h
  have hp : roomP p = p := by change (if rightB p.2.1 p.2.2 = true then p else (false, 0, 0)) = p; rw [hr]; rfl
  rw [hp]
  exact rightB_yes hr
set_option maxRecDepth 100000 in
set_option maxHeartbeats 4000000 in
theorem little_calls (a : Option Addr) (n c : Nat) (xs : List Int) (e : Int) (b : Option Addr) (m d : Nat) (ys : List Int) (f p : Int) (w : World) (h : IsW w a n c xs) (hm : n ≤ 17592186044000) (hg : greatB (val xs) = false) (he : -32768 ≤ e ∧ e ≤ 32768) (h' : IsW w b m d ys) (hm' : m ≤ 17592186044000) (hg' : greatB (val ys) = false) (hf : -32768 ≤ f ∧ f ≤ 32768) (hp : 0 ≤ p) (hT : Tab w) :
  Calls Tryz.prog 22 #[dyV false a n c e, dyV false b m d f, .int .i64 p] w fun r w' => r = .returned (.bool (liB (val xs) e (val ys) f p)) ∧ Below w.heap.size w w' := by
 have bA : Below w.heap.size w ((w.alloc (.cells #[.bool false, .slice a n c, .int .i64 e] 25)).alloc (.cells #[.bool false, .slice b m d, .int .i64 f] 25)) := nT (below_one _ _) (below_one _ _)
 have l2 := (great_not _).1 hg'
 have HB : Hid _ := fun W (k : IsW W b m d ys) => bitLen_calls b m d ys W k hm' hg'
 obtain ⟨L, hL⟩ : ∃ L : Int, liL (val ys) f = L := ⟨_, rfl⟩
 obtain ⟨E1, hE1⟩ : ∃ E1 : Int, e + L = E1 := ⟨_, rfl⟩
 obtain ⟨F1, hF1⟩ : ∃ F1 : Int, f + L = F1 := ⟨_, rfl⟩
 have hR : liR (val xs) e (val ys) f = (rightB (val ys) F1 && rightB (val xs) E1) := by unfold liR; rw [hL, hE1, hF1]
 have hS : liS (val xs) e (val ys) f = sumD (formD false (val ys) F1) (negD (formD false (val xs) E1)) := by unfold liS; rw [hL, hE1, hF1]
 have hB : liB (val xs) e (val ys) f p = (decide (twE (rightB (val ys) F1 && rightB (val xs) E1) (sumD (formD false (val ys) F1) (negD (formD false (val xs) E1))) = 0) && decide (cmpD (formD (twP (rightB (val ys) F1 && rightB (val xs) E1) (sumD (formD false (val ys) F1) (negD (formD false (val xs) E1)))).1 (twP (rightB (val ys) F1 && rightB (val xs) E1) (sumD (formD false (val ys) F1) (negD (formD false (val xs) E1)))).2.1 ((twP (rightB (val ys) F1 && rightB (val xs) E1) (sumD (formD false (val ys) F1) (negD (formD false (val xs) E1)))).2.2 + min p 131073)) (formD false (val xs) E1) ≤ 0)) := by unfold liB; rw [hR, hS, hL, hE1]
 unfold liL at hL
 have v1 : IntKind.i64.wrap (32769 - f) = 32769 - f := by rw [IntKind.wrap_i64]; omega
 have v2 : IntKind.i64.wrap (32769 - f - (blen (val ys) : Int)) = L := by rw [IntKind.wrap_i64]; omega
 have v3 : IntKind.i64.wrap (e + L) = E1 := by rw [IntKind.wrap_i64]; omega
 have v4 : IntKind.i64.wrap (f + L) = F1 := by rw [IntKind.wrap_i64]; omega
 have bl : -200000 ≤ E1 ∧ E1 ≤ 200000 := by omega
 have HV : Hid _ := hB
 have HS : Hid _ := fun W (k : IsW W a n c xs) (k' : IsW W b m d ys) (t : Tab W) => pSub_calls false b m d ys F1 false a n c xs E1 W k' hm' k hm t
 have HK : Hid _ := fun q => tw_ok (b := (rightB (val ys) F1 && rightB (val xs) E1)) (p := sumD (formD false (val ys) F1) (negD (formD false (val xs) E1))) q
 have HA : Hid (∀ (s : Bool) (a2 : Option Addr) (n2 c2 M : Nat) (E : Int) (W : World), IsW W a2 n2 c2 (wO M) → n2 ≤ 1024 → greatB M = false → (-200000 ≤ E ∧ E ≤ 200000) → IsW W a n c xs → Tab W → Calls Tryz.prog 36 #[dyV s a2 n2 c2 E, dyV false a n c E1] W fun r w' => r = .returned (.int .i64 (cmpD (formD s M E) (formD false (val xs) E1))) ∧ Below W.heap.size W w') := fun s a2 n2 c2 M E W k hn hg2 hE k' t => by
  have := iagainst_calls s a2 n2 c2 (wO M) E false a n c xs E1 W k (by omega) (by rw [val_words]; exact hg2) k' hm hg (by omega) (by omega) t
  rwa [val_words] at this
 generalize twE (rightB (val ys) F1 && rightB (val xs) E1) (sumD (formD false (val ys) F1) (negD (formD false (val xs) E1))) = E at *
 generalize twP (rightB (val ys) F1 && rightB (val xs) E1) (sumD (formD false (val ys) F1) (negD (formD false (val xs) E1))) = D at *
 generalize liB (val xs) e (val ys) f p = B at *
 generalize (blen (val ys) : Int) = bY at *
 clear hL hE1 hF1 hR hS hB bl
 have H0 : Hid (IsW w a n c xs) := h
 have H1 : Hid (IsW w b m d ys) := h'
 replace h := h.keep bA
 replace h' := h'.keep bA
 have HTw : Hid (Tab w) := hT
 have c0 : ((w.alloc (.cells #[.bool false, .slice a n c, .int .i64 e] 25)).alloc (.cells #[.bool false, .slice b m d, .int .i64 f] 25)).cell? ⟨w.heap.size, 0, none⟩ = some (.bool false) := by go_simp
 have c1 : ((w.alloc (.cells #[.bool false, .slice a n c, .int .i64 e] 25)).alloc (.cells #[.bool false, .slice b m d, .int .i64 f] 25)).cell? ⟨w.heap.size, 1, none⟩ = some (.slice a n c) := by go_simp
 have c2 : ((w.alloc (.cells #[.bool false, .slice a n c, .int .i64 e] 25)).alloc (.cells #[.bool false, .slice b m d, .int .i64 f] 25)).cell? ⟨w.heap.size, 2, none⟩ = some (.int .i64 e) := by go_simp
 have d0 : ((w.alloc (.cells #[.bool false, .slice a n c, .int .i64 e] 25)).alloc (.cells #[.bool false, .slice b m d, .int .i64 f] 25)).cell? ⟨w.heap.size + 1, 0, none⟩ = some (.bool false) := by go_simp
 have d1 : ((w.alloc (.cells #[.bool false, .slice a n c, .int .i64 e] 25)).alloc (.cells #[.bool false, .slice b m d, .int .i64 f] 25)).cell? ⟨w.heap.size + 1, 1, none⟩ = some (.slice b m d) := by go_simp
 have d2 : ((w.alloc (.cells #[.bool false, .slice a n c, .int .i64 e] 25)).alloc (.cells #[.bool false, .slice b m d, .int .i64 f] 25)).cell? ⟨w.heap.size + 1, 2, none⟩ = some (.int .i64 f) := by go_simp
 have k1 : ((w.alloc (.cells #[.bool false, .slice a n c, .int .i64 e] 25)).alloc (.cells #[.bool false, .slice b m d, .int .i64 f] 25)).frozen? ⟨w.heap.size, 2, none⟩ = false := by go_simp
 have k2 : ((w.alloc (.cells #[.bool false, .slice a n c, .int .i64 e] 25)).alloc (.cells #[.bool false, .slice b m d, .int .i64 f] 25)).frozen? ⟨w.heap.size + 1, 2, none⟩ = false := by go_simp
 clear hm hm' hg hg' he hf hT l2
 go_enter Tryz.func22, Tryz.ntmps22
 go_wp2_with fail
 generalize ((w.alloc (.cells #[.bool false, .slice a n c, .int .i64 e] 25)).alloc (.cells #[.bool false, .slice b m d, .int .i64 f] 25)) = w0 at *
 have bD : Below w0.heap.size w0 w0.drew := (Below.refl _ _).drew
 go_region_held3 (fun W => W.cell? ⟨w.heap.size + 1, 1, none⟩ = some (.slice b m d) ∧ W.cell? ⟨w.heap.size + 1, 2, none⟩ = some (.int .i64 f))
  (first | (go_keep; done) | ((refine ⟨?_, ?_⟩ <;> (refine kC bL ?_; go_keep)); done))
  (first
   | (go_at_call 31; refine (HB.out _ (h'.keep bD)).mono ?_; rintro r w1 ⟨rfl, bL⟩; have bN := nT bD bL))
 all_goals
  replace k1 := kF bN c2 k1
  replace c2 := kC bN c2
  replace k2 := kF bN d2 k2
  replace d2 := kC bN d2
  revert c0 c1 d0; refine cc3 bN ?_; intro c0 c1 d0
  replace d1 := kC bN d1
  replace h := h.keep bN
  replace h' := h'.keep bN
  replace bA := nT bA bN
  clear bN bL
  have i1 := isW_set1I (isW_set1I h ⟨w.heap.size, 2, none⟩ _ (.int .i64 E1) c2 (fun _ q => by cases q)) ⟨w.heap.size + 1, 2, none⟩ _ (.int .i64 F1) ((World.cell?_setCell_other _ _ _ _ (by simp)).trans d2) (fun _ q => by cases q)
  have i2 := isW_set1I (isW_set1I h' ⟨w.heap.size, 2, none⟩ _ (.int .i64 E1) c2 (fun _ q => by cases q)) ⟨w.heap.size + 1, 2, none⟩ _ (.int .i64 F1) ((World.cell?_setCell_other _ _ _ _ (by simp)).trans d2) (fun _ q => by cases q)
  have bF := (bA.setCell (p := ⟨w.heap.size, 2, none⟩) (Nat.le_refl _) (.int .i64 E1)).setCell (p := ⟨w.heap.size + 1, 2, none⟩) (Nat.le_succ _) (.int .i64 F1)
  have t0 := HTw.out.kept bF
  go_wp2_with fail
  refine Calls.mono (HS.out _ i1 i2 t0) ?_
  rintro r w3 ⟨_, rfl, ⟨a2, n2, c3, rfl, HN2, hn2, hO2⟩, bN⟩
  have e0 : (((w1.setCell ⟨w.heap.size, 2, none⟩ (.int .i64 E1)).setCell ⟨w.heap.size + 1, 2, none⟩ (.int .i64 F1))).cell? ⟨w.heap.size, 0, none⟩ = some (.bool false) := (World.cell?_setCell_other _ _ _ _ (by simp)).trans ((World.cell?_setCell_other _ _ _ _ (by simp)).trans c0)
  have e1 : (((w1.setCell ⟨w.heap.size, 2, none⟩ (.int .i64 E1)).setCell ⟨w.heap.size + 1, 2, none⟩ (.int .i64 F1))).cell? ⟨w.heap.size, 1, none⟩ = some (.slice a n c) := (World.cell?_setCell_other _ _ _ _ (by simp)).trans ((World.cell?_setCell_other _ _ _ _ (by simp)).trans c1)
  have e2 : (((w1.setCell ⟨w.heap.size, 2, none⟩ (.int .i64 E1)).setCell ⟨w.heap.size + 1, 2, none⟩ (.int .i64 F1))).cell? ⟨w.heap.size, 2, none⟩ = some (.int .i64 E1) := (World.cell?_setCell_other _ _ _ _ (by simp)).trans (World.cell?_setCell_same _ _ _ c2)
  revert e0 e1 e2; refine cc3 bN ?_; intro e0 e1 e2
  replace i1 := i1.keep bN
  replace bF := nT bF bN
  have t1 := t0.kept bN
  clear t0 i2 c0 c1 c2 d0 d1 d2 k1 k2 h h' bN bA HS HB
  by_cases q : E = 0
  ·obtain ⟨g1, g2, g3⟩ := HK.out q
   rw [decide_eq_true q, Bool.true_and] at HV
   subst q
   have u1 : IntKind.i64.wrap (D.2.2 + min p 131073) = D.2.2 + min p 131073 := by rw [IntKind.wrap_i64]; omega
   have hE : -200000 ≤ D.2.2 + min p 131073 ∧ D.2.2 + min p 131073 ≤ 200000 := by omega
   have ne : w.heap.size ≠ w3.heap.size := Nat.ne_of_lt (World.block_lt_of_cell? _ _ e0)
   have ne' : w3.heap.size ≠ w.heap.size := Ne.symm ne
   have bN := below_one w3 (.cells #[.bool D.1, .slice a2 n2 c3, .int .i64 (D.2.2 + min p 131073)] 25)
   have x0 := kC bN e0
   have x1 := kC bN e1
   have x2 := kC bN e2
   have j1 := i1.keep bN
   have j2 := hO2.1.keep bN
   replace bF := nT bF bN
   have t2 := HTw.out.kept bF
   clear bN HK t1
   go_wp2_with fail
   refine Calls.mono (HA.out _ _ _ _ _ _ _ j2 hn2 g1 hE j1 t2) ?_
   rintro r w5 ⟨rfl, bN⟩
   replace bF := nT bF bN
   go_wp2_with fail
   go_ret
   exact ⟨by rw [HV.out]; rfl, bF⟩
  ·rw [decide_eq_false q, Bool.false_and] at HV
   have q' : (E == 0) = false := beq_eq_false_iff_ne.2 q
   have bN := below_one w3 (.cells #[.bool D.1, .slice a2 n2 c3, .int .i64 D.2.2] 25)
   replace bF := nT bF bN
   clear bN HK
   go_wp2_with fail
   go_ret
   exact ⟨by rw [HV.out]; rfl, bF⟩
theorem sg_ok {s : Bool} {m : Nat} {e : Int} {t : Bool} {n : Nat} {f : Int} (h : sgB s m e t n f = true) : (greatB m = false ∧ -32768 ≤ e ∧ e ≤ 32768) ∧ (greatB n = false ∧ -32768 ≤ f ∧ f ≤ 32768) := by
 unfold sgB at h
 have h1 := (of_decide_eq_true h).1
 unfold rtI at h1
 rw [Bool.and_eq_true, Bool.and_eq_true] at h1
 exact ⟨rightB_yes h1.1.1, rightB_yes h1.1.2⟩
theorem two_new (w : World) : ((w.alloc (.cells #[.bool false, .slice none 0 0, .int .i64 0] 25)).alloc (.cells #[.bool false, .slice none 0 0, .int .i64 0] 25)).cell? ⟨w.heap.size, 0, none⟩ = some (.bool false) ∧ ((w.alloc (.cells #[.bool false, .slice none 0 0, .int .i64 0] 25)).alloc (.cells #[.bool false, .slice none 0 0, .int .i64 0] 25)).cell? ⟨w.heap.size, 1, none⟩ = some (.slice none 0 0) ∧ ((w.alloc (.cells #[.bool false, .slice none 0 0, .int .i64 0] 25)).alloc (.cells #[.bool false, .slice none 0 0, .int .i64 0] 25)).cell? ⟨w.heap.size, 2, none⟩ = some (.int .i64 0) ∧ ((w.alloc (.cells #[.bool false, .slice none 0 0, .int .i64 0] 25)).alloc (.cells #[.bool false, .slice none 0 0, .int .i64 0] 25)).frozen? ⟨w.heap.size, 0, none⟩ = false ∧ ((w.alloc (.cells #[.bool false, .slice none 0 0, .int .i64 0] 25)).alloc (.cells #[.bool false, .slice none 0 0, .int .i64 0] 25)).frozen? ⟨w.heap.size, 1, none⟩ = false ∧ ((w.alloc (.cells #[.bool false, .slice none 0 0, .int .i64 0] 25)).alloc (.cells #[.bool false, .slice none 0 0, .int .i64 0] 25)).frozen? ⟨w.heap.size, 2, none⟩ = false ∧ ((w.alloc (.cells #[.bool false, .slice none 0 0, .int .i64 0] 25)).alloc (.cells #[.bool false, .slice none 0 0, .int .i64 0] 25)).cell? ⟨w.heap.size + 1, 0, none⟩ = some (.bool false) ∧ ((w.alloc (.cells #[.bool false, .slice none 0 0, .int .i64 0] 25)).alloc (.cells #[.bool false, .slice none 0 0, .int .i64 0] 25)).cell? ⟨w.heap.size + 1, 1, none⟩ = some (.slice none 0 0) ∧ ((w.alloc (.cells #[.bool false, .slice none 0 0, .int .i64 0] 25)).alloc (.cells #[.bool false, .slice none 0 0, .int .i64 0] 25)).cell? ⟨w.heap.size + 1, 2, none⟩ = some (.int .i64 0) ∧ ((w.alloc (.cells #[.bool false, .slice none 0 0, .int .i64 0] 25)).alloc (.cells #[.bool false, .slice none 0 0, .int .i64 0] 25)).frozen? ⟨w.heap.size + 1, 0, none⟩ = false ∧ ((w.alloc (.cells #[.bool false, .slice none 0 0, .int .i64 0] 25)).alloc (.cells #[.bool false, .slice none 0 0, .int .i64 0] 25)).frozen? ⟨w.heap.size + 1, 1, none⟩ = false ∧ ((w.alloc (.cells #[.bool false, .slice none 0 0, .int .i64 0] 25)).alloc (.cells #[.bool false, .slice none 0 0, .int .i64 0] 25)).frozen? ⟨w.heap.size + 1, 2, none⟩ = false := by
 refine ⟨?_, ?_, ?_, ?_, ?_, ?_, ?_, ?_, ?_, ?_, ?_, ?_⟩ <;> go_simp
theorem sg_three (s : Bool) (m : Nat) (e : Int) (t : Bool) (n : Nat) (f : Int) : sgV s m e t n f = 0 ∨ sgV s m e t n f = 1 ∨ sgV s m e t n f = -1 := by
 have key : ∀ q : Bool × Nat × Int, sgnD q = 0 ∨ sgnD q = 1 ∨ sgnD q = -1 := fun q => by
  unfold sgnD
  by_cases c : q.2.1 = 0
  ·left; rw [if_pos c]
  ·by_cases k : q.1 = true
   ·right; right; rw [if_neg c, if_pos k]
   ·right; left; rw [if_neg c, if_neg k]
 unfold sgV
 by_cases c : rtI s m e t n f = true ∧ sgnD (formD s m e) = sgnD (formD t n f)
 ·rw [if_pos c]; exact key _
 ·rw [if_neg c]; left; rfl
set_option maxRecDepth 100000 in
set_option maxHeartbeats 4000000 in
theorem narrow_not (s : Bool) (a : Option Addr) (len cap : Nat) (xs : List Int) (e : Int) (t : Bool) (b : Option Addr) (bl bc : Nat) (ys : List Int) (f p : Int) (w : World) (h : IsW w a len cap xs) (hm : len ≤ 17592186044000) (h' : IsW w b bl bc ys) (hm' : bl ≤ 17592186044000) (hT : Tab w) (hn : (sgB s (val xs) e t (val ys) f && decide (0 ≤ p)) = false) :
  Calls Tryz.prog 12 #[ivI s a len cap e t b bl bc f, .int .i64 p] w fun r w' => r = .returned (.bool (nwB s (val xs) e t (val ys) f p)) ∧ Below w.heap.size w w' := by
 have bA : Below w.heap.size w (w.alloc (.cells #[.bool s, .slice a len cap, .int .i64 e, .bool t, .slice b bl bc, .int .i64 f] 27)) := below_one _ _
 have HS : Hid _ := ivSign_calls s a len cap xs e t b bl bc ys f (w.alloc (.cells #[.bool s, .slice a len cap, .int .i64 e, .bool t, .slice b bl bc, .int .i64 f] 27)) (h.keep bA) hm (h'.keep bA) hm' (hT.kept bA)
 obtain ⟨c0, c1, c2, c3, c4, c5⟩ := fX4 w s a len cap e t b bl bc f _ rfl
 have HV : Hid (nwB s (val xs) e t (val ys) f p = false) := by show _ = _; unfold nwB; rw [hn]; rfl
 generalize nwB s (val xs) e t (val ys) f p = B at *
 generalize sgV s (val xs) e t (val ys) f = v at *
 cases hb : sgB s (val xs) e t (val ys) f with
 | false =>
  rw [hb] at HS
  clear hn hb
  go_enter Tryz.func12, Tryz.ntmps12
  go_wp2_with fail
  refine Calls.mono HS.out ?_
  rintro r w1 ⟨rfl, bN⟩
  replace bA := nT bA bN
  go_wp2_with fail
  go_ret
  exact ⟨by rw [HV.out]; rfl, bA⟩
 | true =>
  rw [hb] at HS
  have hp : p < 0 := by rw [hb, Bool.true_and] at hn; have := of_decide_eq_false hn; omega
  clear hn hb
  go_enter Tryz.func12, Tryz.ntmps12
  go_wp2_with fail
  refine Calls.mono HS.out ?_
  rintro r w1 ⟨rfl, bN⟩
  replace bA := nT bA bN
  go_wp2_with fail
  go_ret
  exact ⟨by rw [HV.out]; rfl, bA⟩
set_option maxRecDepth 100000 in
set_option maxHeartbeats 8000000 in
theorem narrow_yes (s : Bool) (a : Option Addr) (len cap : Nat) (xs : List Int) (e : Int) (t : Bool) (b : Option Addr) (bl bc : Nat) (ys : List Int) (f p : Int) (w : World) (h : IsW w a len cap xs) (hm : len ≤ 17592186044000) (h' : IsW w b bl bc ys) (hm' : bl ≤ 17592186044000) (hT : Tab w) (hb : sgB s (val xs) e t (val ys) f = true) (hp : 0 ≤ p) :
  Calls Tryz.prog 12 #[ivI s a len cap e t b bl bc f, .int .i64 p] w fun r w' => r = .returned (.bool (nwB s (val xs) e t (val ys) f p)) ∧ Below w.heap.size w w' := by
 have bA : Below w.heap.size w (w.alloc (.cells #[.bool s, .slice a len cap, .int .i64 e, .bool t, .slice b bl bc, .int .i64 f] 27)) := below_one _ _
 have HS : Hid _ := ivSign_calls s a len cap xs e t b bl bc ys f (w.alloc (.cells #[.bool s, .slice a len cap, .int .i64 e, .bool t, .slice b bl bc, .int .i64 f] 27)) (h.keep bA) hm (h'.keep bA) hm' (hT.kept bA)
 obtain ⟨c0, c1, c2, c3, c4, c5⟩ := fX4 w s a len cap e t b bl bc f _ rfl
 obtain ⟨⟨g1, g2⟩, ⟨g3, g4⟩⟩ := sg_ok hb
 have H3 : Hid _ := sg_three s (val xs) e t (val ys) f
 have HV : Hid (∀ v : Int, sgV s (val xs) e t (val ys) f = v → nwB s (val xs) e t (val ys) f p = (decide (v = 0) || (if v < 0 then liB (val ys) f (val xs) e p else liB (val xs) e (val ys) f p))) := fun v q => by unfold nwB; rw [hb, q, decide_eq_true hp]; rfl
 have L1 : Hid (∀ W, IsW W a len cap xs → IsW W b bl bc ys → Tab W → Calls Tryz.prog 22 #[dyV false a len cap e, dyV false b bl bc f, .int .i64 p] W fun r w' => r = .returned (.bool (liB (val xs) e (val ys) f p)) ∧ Below W.heap.size W w') := fun W k k' q => little_calls a len cap xs e b bl bc ys f p W k hm g1 g2 k' hm' g3 g4 hp q
 have L2 : Hid (∀ W, IsW W a len cap xs → IsW W b bl bc ys → Tab W → Calls Tryz.prog 22 #[dyV false b bl bc f, dyV false a len cap e, .int .i64 p] W fun r w' => r = .returned (.bool (liB (val ys) f (val xs) e p)) ∧ Below W.heap.size W w') := fun W k k' q => little_calls b bl bc ys f a len cap xs e p W k' hm' g3 g4 k hm g1 g2 hp q
 rw [hb] at HS
 generalize liB (val xs) e (val ys) f p = B1 at *
 generalize liB (val ys) f (val xs) e p = B2 at *
 generalize nwB s (val xs) e t (val ys) f p = B at *
 generalize sgV s (val xs) e t (val ys) f = v at *
 replace HV : Hid _ := HV.out v rfl
 have np : ¬ p < 0 := by omega
 clear hb g1 g2 g3 g4
 replace h := h.keep bA
 replace h' := h'.keep bA
 have HTw : Hid (Tab w) := hT
 clear hT
 go_enter Tryz.func12, Tryz.ntmps12
 go_wp2_with fail
 refine Calls.mono HS.out ?_
 generalize (w.alloc (.cells #[.bool s, .slice a len cap, .int .i64 e, .bool t, .slice b bl bc, .int .i64 f] 27)) = w0 at *
 rintro r w1 ⟨rfl, bN⟩
 replace bA := nT bA bN
 replace h := h.keep bN
 replace h' := h'.keep bN
 revert c0 c1 c2 c3 c4 c5; refine cc6 bN ?_; intro c0 c1 c2 c3 c4 c5
 clear bN HS
 go_wp2_with fail
 generalize hA : w.heap.size = A at c0 c1 c2 c3 c4 c5 ⊢
 have lA : A < w1.heap.size := World.block_lt_of_cell? _ _ c0
 refine wp_region_held (S := fun W => W.cell? ⟨A, 0, none⟩ = some (.bool s) ∧ W.cell? ⟨A, 1, none⟩ = some (.slice a len cap) ∧ W.cell? ⟨A, 2, none⟩ = some (.int .i64 e) ∧ W.cell? ⟨A, 3, none⟩ = some (.bool t) ∧ W.cell? ⟨A, 4, none⟩ = some (.slice b bl bc) ∧ W.cell? ⟨A, 5, none⟩ = some (.int .i64 f)) (by kernel_rfl) ?_
 change wpAnyH _ _ _ _ _ _ _ _ (World.drew w1)
 have bD : Below w1.heap.size w1 w1.drew := (Below.refl _ _).drew
 revert c0 c1 c2 c3 c4 c5; refine cc6 bD ?_; intro c0 c1 c2 c3 c4 c5
 generalize World.drew w1 = wd at *
 refine wpAnyH_take (i := 0) (oi := { dst := some 20, op := Op.fieldAddr 27 (Operand.tmp 2) 0, type := 0, pos := "ival.go:89", after := #[], guard := none }) (v := .pointer (some ⟨A, 0, none⟩)) rfl (by kernel_rfl) (by kernel_rfl) (by kernel_rfl) (fun _ _ _ h => h) (Or.inl ⟨by rfl, ?y0⟩) ⟨c0, c1, c2, c3, c4, c5⟩ ?r0
 case y0 => (intro ww hS; obtain ⟨c0, c1, c2, c3, c4, c5⟩ := hS; go_simp; try with_reducible rfl)
 try simp only [Act.put, sA, sZ, sS]
 refine wpAnyH_take (i := 1) (oi := { dst := some 21, op := Op.load 25 (Operand.tmp 20), type := 25, pos := "ival.go:89", after := #[{ on := 0, ground := Ground.data }], guard := none }) (v := .agg #[.bool s, .slice a len cap, .int .i64 e]) rfl (by kernel_rfl) (by kernel_rfl) (by kernel_rfl) (fun _ _ _ h => h) (Or.inl ⟨by rfl, ?y1⟩) ⟨c0, c1, c2, c3, c4, c5⟩ ?r1
 case y1 => (intro ww hS; obtain ⟨c0, c1, c2, c3, c4, c5⟩ := hS; go_simp; try with_reducible rfl)
 try simp only [Act.put, sA, sZ, sS]
 refine wpAnyH_take (i := 2) (oi := { dst := some 22, op := Op.fieldAddr 27 (Operand.tmp 2) 1, type := 0, pos := "ival.go:89", after := #[{ on := 6, ground := Ground.gcOnly Departure.lateStores }], guard := none }) (v := .pointer (some ⟨A, 3, none⟩)) rfl (by kernel_rfl) (by kernel_rfl) (by kernel_rfl) (fun _ _ _ h => h) (Or.inl ⟨by rfl, ?y2⟩) ⟨c0, c1, c2, c3, c4, c5⟩ ?r2
 case y2 => (intro ww hS; obtain ⟨c0, c1, c2, c3, c4, c5⟩ := hS; go_simp; try with_reducible rfl)
 try simp only [Act.put, sA, sZ, sS]
 refine wpAnyH_take (i := 3) (oi := { dst := some 23, op := Op.load 25 (Operand.tmp 22), type := 25, pos := "ival.go:89", after := #[{ on := 2, ground := Ground.data }, { on := 6, ground := Ground.gcOnly Departure.lateStores }], guard := none }) (v := .agg #[.bool t, .slice b bl bc, .int .i64 f]) rfl (by kernel_rfl) (by kernel_rfl) (by kernel_rfl) (fun _ _ _ h => h) (Or.inl ⟨by rfl, ?y3⟩) ⟨c0, c1, c2, c3, c4, c5⟩ ?r3
 case y3 => (intro ww hS; obtain ⟨c0, c1, c2, c3, c4, c5⟩ := hS; go_simp; try with_reducible rfl)
 try simp only [Act.put, sA, sZ, sS]
 have hX : w1.heap.size ≤ wd.heap.size := bD.size
 refine rd2 4 5 (by kernel_rfl) rfl rfl (fun K hK => ?_) fun K hK => ?_
 ·go_simp
  have b1 := below_one wd (.cells #[.bool false, .slice none 0 0, .int .i64 0] 25)
  revert c0 c1 c2 c3 c4 c5; refine cc6 b1 ?_; intro c0 c1 c2 c3 c4 c5
  refine hK.out _ _ ⟨c0, c1, c2, c3, c4, c5⟩ (fun _ => ?_)
  clear hK K
  refine rd1 5 (by kernel_rfl) rfl fun K hK => ?_
  go_simp
  have b2 := below_one (wd.alloc (.cells #[.bool false, .slice none 0 0, .int .i64 0] 25)) (.cells #[.bool false, .slice none 0 0, .int .i64 0] 25)
  revert c0 c1 c2 c3 c4 c5; refine cc6 b2 ?_; intro c0 c1 c2 c3 c4 c5
  refine hK.out _ _ ⟨c0, c1, c2, c3, c4, c5⟩ (fun _ => ?_)
  clear hK K
  obtain ⟨x0, x1, x2, xf0, xf1, xf2, y0, y1, y2, yf0, yf1, yf2⟩ := two_new wd
  have bB := nT bD (nT b1 b2)
  clear b1 b2 bD
  generalize ((wd.alloc (.cells #[.bool false, .slice none 0 0, .int .i64 0] 25)).alloc (.cells #[.bool false, .slice none 0 0, .int .i64 0] 25)) = v0 at *
  generalize wd.heap.size = X at *
  have nA : A ≠ X := by omega
  have nB : A ≠ X + 1 := by omega
  refine rd1 6 (by kernel_rfl) rfl fun K hK => ?_
  go_simp
  replace c0 := set3_cell (r := X) (v0 := .bool s) (v1 := .slice a len cap) (v2 := .int .i64 e) c0 nA
  replace c1 := set3_cell (r := X) (v0 := .bool s) (v1 := .slice a len cap) (v2 := .int .i64 e) c1 nA
  replace c2 := set3_cell (r := X) (v0 := .bool s) (v1 := .slice a len cap) (v2 := .int .i64 e) c2 nA
  replace c3 := set3_cell (r := X) (v0 := .bool s) (v1 := .slice a len cap) (v2 := .int .i64 e) c3 nA
  replace c4 := set3_cell (r := X) (v0 := .bool s) (v1 := .slice a len cap) (v2 := .int .i64 e) c4 nA
  replace c5 := set3_cell (r := X) (v0 := .bool s) (v1 := .slice a len cap) (v2 := .int .i64 e) c5 nA
  replace y0 := set3_cell (r := X) (v0 := .bool s) (v1 := .slice a len cap) (v2 := .int .i64 e) y0 (by omega)
  replace y1 := set3_cell (r := X) (v0 := .bool s) (v1 := .slice a len cap) (v2 := .int .i64 e) y1 (by omega)
  replace y2 := set3_cell (r := X) (v0 := .bool s) (v1 := .slice a len cap) (v2 := .int .i64 e) y2 (by omega)
  replace xf0 := set3_frozen (r := X) (v0 := .bool s) (v1 := .slice a len cap) (v2 := .int .i64 e) xf0
  replace xf1 := set3_frozen (r := X) (v0 := .bool s) (v1 := .slice a len cap) (v2 := .int .i64 e) xf1
  replace xf2 := set3_frozen (r := X) (v0 := .bool s) (v1 := .slice a len cap) (v2 := .int .i64 e) xf2
  replace yf0 := set3_frozen (r := X) (v0 := .bool s) (v1 := .slice a len cap) (v2 := .int .i64 e) yf0
  replace yf1 := set3_frozen (r := X) (v0 := .bool s) (v1 := .slice a len cap) (v2 := .int .i64 e) yf1
  replace yf2 := set3_frozen (r := X) (v0 := .bool s) (v1 := .slice a len cap) (v2 := .int .i64 e) yf2
  obtain ⟨x0, x1, x2⟩ := set3_same (v0 := .bool s) (v1 := .slice a len cap) (v2 := .int .i64 e) x0 x1 x2
  replace bB := (((bB.setCell (p := ⟨X, 0, none⟩) hX (.bool s)).setCell (p := ⟨X, 1, none⟩) hX (.slice a len cap)).setCell (p := ⟨X, 2, none⟩) hX (.int .i64 e))
  refine hK.out _ _ ⟨c0, c1, c2, c3, c4, c5⟩ (fun _ => ?_)
  clear hK K
  generalize (((v0.setCell ⟨X, 0, none⟩ (.bool s)).setCell ⟨X, 1, none⟩ (.slice a len cap)).setCell ⟨X, 2, none⟩ (.int .i64 e)) = v1 at *
  refine rd1 7 (by kernel_rfl) rfl fun K hK => ?_
  go_simp
  replace c0 := set3_cell (r := X + 1) (v0 := .bool t) (v1 := .slice b bl bc) (v2 := .int .i64 f) c0 nB
  replace c1 := set3_cell (r := X + 1) (v0 := .bool t) (v1 := .slice b bl bc) (v2 := .int .i64 f) c1 nB
  replace c2 := set3_cell (r := X + 1) (v0 := .bool t) (v1 := .slice b bl bc) (v2 := .int .i64 f) c2 nB
  replace c3 := set3_cell (r := X + 1) (v0 := .bool t) (v1 := .slice b bl bc) (v2 := .int .i64 f) c3 nB
  replace c4 := set3_cell (r := X + 1) (v0 := .bool t) (v1 := .slice b bl bc) (v2 := .int .i64 f) c4 nB
  replace c5 := set3_cell (r := X + 1) (v0 := .bool t) (v1 := .slice b bl bc) (v2 := .int .i64 f) c5 nB
  replace x0 := set3_cell (r := X + 1) (v0 := .bool t) (v1 := .slice b bl bc) (v2 := .int .i64 f) x0 (by omega)
  replace x1 := set3_cell (r := X + 1) (v0 := .bool t) (v1 := .slice b bl bc) (v2 := .int .i64 f) x1 (by omega)
  replace x2 := set3_cell (r := X + 1) (v0 := .bool t) (v1 := .slice b bl bc) (v2 := .int .i64 f) x2 (by omega)
  replace xf0 := set3_frozen (r := X + 1) (v0 := .bool t) (v1 := .slice b bl bc) (v2 := .int .i64 f) xf0
  replace xf1 := set3_frozen (r := X + 1) (v0 := .bool t) (v1 := .slice b bl bc) (v2 := .int .i64 f) xf1
  replace xf2 := set3_frozen (r := X + 1) (v0 := .bool t) (v1 := .slice b bl bc) (v2 := .int .i64 f) xf2
  replace yf0 := set3_frozen (r := X + 1) (v0 := .bool t) (v1 := .slice b bl bc) (v2 := .int .i64 f) yf0
  replace yf1 := set3_frozen (r := X + 1) (v0 := .bool t) (v1 := .slice b bl bc) (v2 := .int .i64 f) yf1
  replace yf2 := set3_frozen (r := X + 1) (v0 := .bool t) (v1 := .slice b bl bc) (v2 := .int .i64 f) yf2
  obtain ⟨y0, y1, y2⟩ := set3_same (v0 := .bool t) (v1 := .slice b bl bc) (v2 := .int .i64 f) y0 y1 y2
  replace bB := (((bB.setCell (p := ⟨X + 1, 0, none⟩) (Nat.le_succ_of_le hX) (.bool t)).setCell (p := ⟨X + 1, 1, none⟩) (Nat.le_succ_of_le hX) (.slice b bl bc)).setCell (p := ⟨X + 1, 2, none⟩) (Nat.le_succ_of_le hX) (.int .i64 f))
  refine hK.out _ _ ⟨c0, c1, c2, c3, c4, c5⟩ (fun _ => ?_)
  clear hK K
  generalize (((v1.setCell ⟨X + 1, 0, none⟩ (.bool t)).setCell ⟨X + 1, 1, none⟩ (.slice b bl bc)).setCell ⟨X + 1, 2, none⟩ (.int .i64 f)) = v2 at *
  refine wpAnyH_done (by kernel_rfl) ?_ _
  try simp only [Act.put, sA, sZ, sS]
  clear c0 c1 c2 c3 c4 c5
  rcases H3.out with z | z | z <;> subst z
  ·clear H3
   go_wp2_with fail
   go_ret
   subst hA
   refine ⟨by rw [HV.out]; rfl, nT bA ?_⟩
   repeat (first | (with_reducible exact bB) | (with_reducible refine Below.setCell ?_ (by first | exact hX | exact Nat.le_succ_of_le hX) _))
  ·clear H3
   go_wp2_with fail
   refine Calls.mono (L1.out _ (IsW.keep h ?bS) (IsW.keep h' ?bS) (HTw.out.kept (nT bA ?bS))) ?_
   case bS => repeat (first | (with_reducible exact bB) | (with_reducible refine Below.setCell ?_ (by first | exact hX | exact Nat.le_succ_of_le hX) _))
   rintro r w9 ⟨rfl, bN⟩
   go_wp2_with fail
   go_ret
   refine ⟨by rw [HV.out]; rfl, nT bA (nT ?_ bN)⟩
   repeat (first | (with_reducible exact bB) | (with_reducible refine Below.setCell ?_ (by first | exact hX | exact Nat.le_succ_of_le hX) _))
  ·clear H3
   go_upto_region 7 with fail
   replace y0 := set3_cell (r := X) (v0 := .bool t) (v1 := .slice b bl bc) (v2 := .int .i64 f) y0 (by omega)
   replace y1 := set3_cell (r := X) (v0 := .bool t) (v1 := .slice b bl bc) (v2 := .int .i64 f) y1 (by omega)
   replace y2 := set3_cell (r := X) (v0 := .bool t) (v1 := .slice b bl bc) (v2 := .int .i64 f) y2 (by omega)
   replace xf0 := set3_frozen (r := X) (v0 := .bool t) (v1 := .slice b bl bc) (v2 := .int .i64 f) xf0
   replace xf1 := set3_frozen (r := X) (v0 := .bool t) (v1 := .slice b bl bc) (v2 := .int .i64 f) xf1
   replace xf2 := set3_frozen (r := X) (v0 := .bool t) (v1 := .slice b bl bc) (v2 := .int .i64 f) xf2
   replace yf0 := set3_frozen (r := X) (v0 := .bool t) (v1 := .slice b bl bc) (v2 := .int .i64 f) yf0
   replace yf1 := set3_frozen (r := X) (v0 := .bool t) (v1 := .slice b bl bc) (v2 := .int .i64 f) yf1
   replace yf2 := set3_frozen (r := X) (v0 := .bool t) (v1 := .slice b bl bc) (v2 := .int .i64 f) yf2
   obtain ⟨x0, x1, x2⟩ := set3_same (v0 := .bool t) (v1 := .slice b bl bc) (v2 := .int .i64 f) x0 x1 x2
   replace bB := (((bB.setCell (p := ⟨X, 0, none⟩) hX (.bool t)).setCell (p := ⟨X, 1, none⟩) hX (.slice b bl bc)).setCell (p := ⟨X, 2, none⟩) hX (.int .i64 f))
   generalize (((v2.setCell ⟨X, 0, none⟩ (.bool t)).setCell ⟨X, 1, none⟩ (.slice b bl bc)).setCell ⟨X, 2, none⟩ (.int .i64 f)) = v3 at *
   replace x0 := set3_cell (r := X + 1) (v0 := .bool s) (v1 := .slice a len cap) (v2 := .int .i64 e) x0 (by omega)
   replace x1 := set3_cell (r := X + 1) (v0 := .bool s) (v1 := .slice a len cap) (v2 := .int .i64 e) x1 (by omega)
   replace x2 := set3_cell (r := X + 1) (v0 := .bool s) (v1 := .slice a len cap) (v2 := .int .i64 e) x2 (by omega)
   replace xf0 := set3_frozen (r := X + 1) (v0 := .bool s) (v1 := .slice a len cap) (v2 := .int .i64 e) xf0
   replace xf1 := set3_frozen (r := X + 1) (v0 := .bool s) (v1 := .slice a len cap) (v2 := .int .i64 e) xf1
   replace xf2 := set3_frozen (r := X + 1) (v0 := .bool s) (v1 := .slice a len cap) (v2 := .int .i64 e) xf2
   replace yf0 := set3_frozen (r := X + 1) (v0 := .bool s) (v1 := .slice a len cap) (v2 := .int .i64 e) yf0
   replace yf1 := set3_frozen (r := X + 1) (v0 := .bool s) (v1 := .slice a len cap) (v2 := .int .i64 e) yf1
   replace yf2 := set3_frozen (r := X + 1) (v0 := .bool s) (v1 := .slice a len cap) (v2 := .int .i64 e) yf2
   obtain ⟨y0, y1, y2⟩ := set3_same (v0 := .bool s) (v1 := .slice a len cap) (v2 := .int .i64 e) y0 y1 y2
   replace bB := (((bB.setCell (p := ⟨X + 1, 0, none⟩) (Nat.le_succ_of_le hX) (.bool s)).setCell (p := ⟨X + 1, 1, none⟩) (Nat.le_succ_of_le hX) (.slice a len cap)).setCell (p := ⟨X + 1, 2, none⟩) (Nat.le_succ_of_le hX) (.int .i64 e))
   generalize (((v3.setCell ⟨X + 1, 0, none⟩ (.bool s)).setCell ⟨X + 1, 1, none⟩ (.slice a len cap)).setCell ⟨X + 1, 2, none⟩ (.int .i64 e)) = v4 at *
   go_wp2_with fail
   refine Calls.mono (L2.out _ (IsW.keep h ?bS) (IsW.keep h' ?bS) (HTw.out.kept (nT bA ?bS))) ?_
   case bS => repeat (first | (with_reducible exact bB) | (with_reducible refine Below.setCell ?_ (by first | exact hX | exact Nat.le_succ_of_le hX) _))
   rintro r w9 ⟨rfl, bN⟩
   go_wp2_with fail
   go_ret
   refine ⟨by rw [HV.out]; rfl, nT bA (nT ?_ bN)⟩
   repeat (first | (with_reducible exact bB) | (with_reducible refine Below.setCell ?_ (by first | exact hX | exact Nat.le_succ_of_le hX) _))
 ·go_simp
  have b1 := below_one wd (.cells #[.bool false, .slice none 0 0, .int .i64 0] 25)
  revert c0 c1 c2 c3 c4 c5; refine cc6 b1 ?_; intro c0 c1 c2 c3 c4 c5
  refine hK.out _ _ ⟨c0, c1, c2, c3, c4, c5⟩ (fun _ => ?_)
  clear hK K
  refine rd1 4 (by kernel_rfl) rfl fun K hK => ?_
  go_simp
  have b2 := below_one (wd.alloc (.cells #[.bool false, .slice none 0 0, .int .i64 0] 25)) (.cells #[.bool false, .slice none 0 0, .int .i64 0] 25)
  revert c0 c1 c2 c3 c4 c5; refine cc6 b2 ?_; intro c0 c1 c2 c3 c4 c5
  refine hK.out _ _ ⟨c0, c1, c2, c3, c4, c5⟩ (fun _ => ?_)
  clear hK K
  obtain ⟨x0, x1, x2, xf0, xf1, xf2, y0, y1, y2, yf0, yf1, yf2⟩ := two_new wd
  have bB := nT bD (nT b1 b2)
  clear b1 b2 bD
  generalize ((wd.alloc (.cells #[.bool false, .slice none 0 0, .int .i64 0] 25)).alloc (.cells #[.bool false, .slice none 0 0, .int .i64 0] 25)) = v0 at *
  generalize wd.heap.size = X at *
  have nA : A ≠ X := by omega
  have nB : A ≠ X + 1 := by omega
  refine rd1 6 (by kernel_rfl) rfl fun K hK => ?_
  go_simp
  replace c0 := set3_cell (r := X + 1) (v0 := .bool s) (v1 := .slice a len cap) (v2 := .int .i64 e) c0 nB
  replace c1 := set3_cell (r := X + 1) (v0 := .bool s) (v1 := .slice a len cap) (v2 := .int .i64 e) c1 nB
  replace c2 := set3_cell (r := X + 1) (v0 := .bool s) (v1 := .slice a len cap) (v2 := .int .i64 e) c2 nB
  replace c3 := set3_cell (r := X + 1) (v0 := .bool s) (v1 := .slice a len cap) (v2 := .int .i64 e) c3 nB
  replace c4 := set3_cell (r := X + 1) (v0 := .bool s) (v1 := .slice a len cap) (v2 := .int .i64 e) c4 nB
  replace c5 := set3_cell (r := X + 1) (v0 := .bool s) (v1 := .slice a len cap) (v2 := .int .i64 e) c5 nB
  replace x0 := set3_cell (r := X + 1) (v0 := .bool s) (v1 := .slice a len cap) (v2 := .int .i64 e) x0 (by omega)
  replace x1 := set3_cell (r := X + 1) (v0 := .bool s) (v1 := .slice a len cap) (v2 := .int .i64 e) x1 (by omega)
  replace x2 := set3_cell (r := X + 1) (v0 := .bool s) (v1 := .slice a len cap) (v2 := .int .i64 e) x2 (by omega)
  replace xf0 := set3_frozen (r := X + 1) (v0 := .bool s) (v1 := .slice a len cap) (v2 := .int .i64 e) xf0
  replace xf1 := set3_frozen (r := X + 1) (v0 := .bool s) (v1 := .slice a len cap) (v2 := .int .i64 e) xf1
  replace xf2 := set3_frozen (r := X + 1) (v0 := .bool s) (v1 := .slice a len cap) (v2 := .int .i64 e) xf2
  replace yf0 := set3_frozen (r := X + 1) (v0 := .bool s) (v1 := .slice a len cap) (v2 := .int .i64 e) yf0
  replace yf1 := set3_frozen (r := X + 1) (v0 := .bool s) (v1 := .slice a len cap) (v2 := .int .i64 e) yf1
  replace yf2 := set3_frozen (r := X + 1) (v0 := .bool s) (v1 := .slice a len cap) (v2 := .int .i64 e) yf2
  obtain ⟨y0, y1, y2⟩ := set3_same (v0 := .bool s) (v1 := .slice a len cap) (v2 := .int .i64 e) y0 y1 y2
  replace bB := (((bB.setCell (p := ⟨X + 1, 0, none⟩) (Nat.le_succ_of_le hX) (.bool s)).setCell (p := ⟨X + 1, 1, none⟩) (Nat.le_succ_of_le hX) (.slice a len cap)).setCell (p := ⟨X + 1, 2, none⟩) (Nat.le_succ_of_le hX) (.int .i64 e))
  refine hK.out _ _ ⟨c0, c1, c2, c3, c4, c5⟩ (fun _ => ?_)
  clear hK K
  generalize (((v0.setCell ⟨X + 1, 0, none⟩ (.bool s)).setCell ⟨X + 1, 1, none⟩ (.slice a len cap)).setCell ⟨X + 1, 2, none⟩ (.int .i64 e)) = v1 at *
  refine rd1 7 (by kernel_rfl) rfl fun K hK => ?_
  go_simp
  replace c0 := set3_cell (r := X) (v0 := .bool t) (v1 := .slice b bl bc) (v2 := .int .i64 f) c0 nA
  replace c1 := set3_cell (r := X) (v0 := .bool t) (v1 := .slice b bl bc) (v2 := .int .i64 f) c1 nA
  replace c2 := set3_cell (r := X) (v0 := .bool t) (v1 := .slice b bl bc) (v2 := .int .i64 f) c2 nA
  replace c3 := set3_cell (r := X) (v0 := .bool t) (v1 := .slice b bl bc) (v2 := .int .i64 f) c3 nA
  replace c4 := set3_cell (r := X) (v0 := .bool t) (v1 := .slice b bl bc) (v2 := .int .i64 f) c4 nA
  replace c5 := set3_cell (r := X) (v0 := .bool t) (v1 := .slice b bl bc) (v2 := .int .i64 f) c5 nA
  replace y0 := set3_cell (r := X) (v0 := .bool t) (v1 := .slice b bl bc) (v2 := .int .i64 f) y0 (by omega)
  replace y1 := set3_cell (r := X) (v0 := .bool t) (v1 := .slice b bl bc) (v2 := .int .i64 f) y1 (by omega)
  replace y2 := set3_cell (r := X) (v0 := .bool t) (v1 := .slice b bl bc) (v2 := .int .i64 f) y2 (by omega)
  replace xf0 := set3_frozen (r := X) (v0 := .bool t) (v1 := .slice b bl bc) (v2 := .int .i64 f) xf0
  replace xf1 := set3_frozen (r := X) (v0 := .bool t) (v1 := .slice b bl bc) (v2 := .int .i64 f) xf1
  replace xf2 := set3_frozen (r := X) (v0 := .bool t) (v1 := .slice b bl bc) (v2 := .int .i64 f) xf2
  replace yf0 := set3_frozen (r := X) (v0 := .bool t) (v1 := .slice b bl bc) (v2 := .int .i64 f) yf0
  replace yf1 := set3_frozen (r := X) (v0 := .bool t) (v1 := .slice b bl bc) (v2 := .int .i64 f) yf1
  replace yf2 := set3_frozen (r := X) (v0 := .bool t) (v1 := .slice b bl bc) (v2 := .int .i64 f) yf2
  obtain ⟨x0, x1, x2⟩ := set3_same (v0 := .bool t) (v1 := .slice b bl bc) (v2 := .int .i64 f) x0 x1 x2
  replace bB := (((bB.setCell (p := ⟨X, 0, none⟩) hX (.bool t)).setCell (p := ⟨X, 1, none⟩) hX (.slice b bl bc)).setCell (p := ⟨X, 2, none⟩) hX (.int .i64 f))
  refine hK.out _ _ ⟨c0, c1, c2, c3, c4, c5⟩ (fun _ => ?_)
  clear hK K
  generalize (((v1.setCell ⟨X, 0, none⟩ (.bool t)).setCell ⟨X, 1, none⟩ (.slice b bl bc)).setCell ⟨X, 2, none⟩ (.int .i64 f)) = v2 at *
  refine wpAnyH_done (by kernel_rfl) ?_ _
  try simp only [Act.put, sA, sZ, sS]
  clear c0 c1 c2 c3 c4 c5
  rcases H3.out with z | z | z <;> subst z
  ·clear H3
   go_wp2_with fail
   go_ret
   subst hA
   refine ⟨by rw [HV.out]; rfl, nT bA ?_⟩
   repeat (first | (with_reducible exact bB) | (with_reducible refine Below.setCell ?_ (by first | exact hX | exact Nat.le_succ_of_le hX) _))
  ·clear H3
   go_wp2_with fail
   refine Calls.mono (L1.out _ (IsW.keep h ?bS) (IsW.keep h' ?bS) (HTw.out.kept (nT bA ?bS))) ?_
   case bS => repeat (first | (with_reducible exact bB) | (with_reducible refine Below.setCell ?_ (by first | exact hX | exact Nat.le_succ_of_le hX) _))
   rintro r w9 ⟨rfl, bN⟩
   go_wp2_with fail
   go_ret
   refine ⟨by rw [HV.out]; rfl, nT bA (nT ?_ bN)⟩
   repeat (first | (with_reducible exact bB) | (with_reducible refine Below.setCell ?_ (by first | exact hX | exact Nat.le_succ_of_le hX) _))
  ·clear H3
   go_upto_region 7 with fail
   replace x0 := set3_cell (r := X + 1) (v0 := .bool t) (v1 := .slice b bl bc) (v2 := .int .i64 f) x0 (by omega)
   replace x1 := set3_cell (r := X + 1) (v0 := .bool t) (v1 := .slice b bl bc) (v2 := .int .i64 f) x1 (by omega)
   replace x2 := set3_cell (r := X + 1) (v0 := .bool t) (v1 := .slice b bl bc) (v2 := .int .i64 f) x2 (by omega)
   replace xf0 := set3_frozen (r := X + 1) (v0 := .bool t) (v1 := .slice b bl bc) (v2 := .int .i64 f) xf0
   replace xf1 := set3_frozen (r := X + 1) (v0 := .bool t) (v1 := .slice b bl bc) (v2 := .int .i64 f) xf1
   replace xf2 := set3_frozen (r := X + 1) (v0 := .bool t) (v1 := .slice b bl bc) (v2 := .int .i64 f) xf2
   replace yf0 := set3_frozen (r := X + 1) (v0 := .bool t) (v1 := .slice b bl bc) (v2 := .int .i64 f) yf0
   replace yf1 := set3_frozen (r := X + 1) (v0 := .bool t) (v1 := .slice b bl bc) (v2 := .int .i64 f) yf1
   replace yf2 := set3_frozen (r := X + 1) (v0 := .bool t) (v1 := .slice b bl bc) (v2 := .int .i64 f) yf2
   obtain ⟨y0, y1, y2⟩ := set3_same (v0 := .bool t) (v1 := .slice b bl bc) (v2 := .int .i64 f) y0 y1 y2
   replace bB := (((bB.setCell (p := ⟨X + 1, 0, none⟩) (Nat.le_succ_of_le hX) (.bool t)).setCell (p := ⟨X + 1, 1, none⟩) (Nat.le_succ_of_le hX) (.slice b bl bc)).setCell (p := ⟨X + 1, 2, none⟩) (Nat.le_succ_of_le hX) (.int .i64 f))
   generalize (((v2.setCell ⟨X + 1, 0, none⟩ (.bool t)).setCell ⟨X + 1, 1, none⟩ (.slice b bl bc)).setCell ⟨X + 1, 2, none⟩ (.int .i64 f)) = v3 at *
   replace y0 := set3_cell (r := X) (v0 := .bool s) (v1 := .slice a len cap) (v2 := .int .i64 e) y0 (by omega)
   replace y1 := set3_cell (r := X) (v0 := .bool s) (v1 := .slice a len cap) (v2 := .int .i64 e) y1 (by omega)
   replace y2 := set3_cell (r := X) (v0 := .bool s) (v1 := .slice a len cap) (v2 := .int .i64 e) y2 (by omega)
   replace xf0 := set3_frozen (r := X) (v0 := .bool s) (v1 := .slice a len cap) (v2 := .int .i64 e) xf0
   replace xf1 := set3_frozen (r := X) (v0 := .bool s) (v1 := .slice a len cap) (v2 := .int .i64 e) xf1
   replace xf2 := set3_frozen (r := X) (v0 := .bool s) (v1 := .slice a len cap) (v2 := .int .i64 e) xf2
   replace yf0 := set3_frozen (r := X) (v0 := .bool s) (v1 := .slice a len cap) (v2 := .int .i64 e) yf0
   replace yf1 := set3_frozen (r := X) (v0 := .bool s) (v1 := .slice a len cap) (v2 := .int .i64 e) yf1
   replace yf2 := set3_frozen (r := X) (v0 := .bool s) (v1 := .slice a len cap) (v2 := .int .i64 e) yf2
   obtain ⟨x0, x1, x2⟩ := set3_same (v0 := .bool s) (v1 := .slice a len cap) (v2 := .int .i64 e) x0 x1 x2
   replace bB := (((bB.setCell (p := ⟨X, 0, none⟩) hX (.bool s)).setCell (p := ⟨X, 1, none⟩) hX (.slice a len cap)).setCell (p := ⟨X, 2, none⟩) hX (.int .i64 e))
   generalize (((v3.setCell ⟨X, 0, none⟩ (.bool s)).setCell ⟨X, 1, none⟩ (.slice a len cap)).setCell ⟨X, 2, none⟩ (.int .i64 e)) = v4 at *
   go_wp2_with fail
   refine Calls.mono (L2.out _ (IsW.keep h ?bS) (IsW.keep h' ?bS) (HTw.out.kept (nT bA ?bS))) ?_
   case bS => repeat (first | (with_reducible exact bB) | (with_reducible refine Below.setCell ?_ (by first | exact hX | exact Nat.le_succ_of_le hX) _))
   rintro r w9 ⟨rfl, bN⟩
   go_wp2_with fail
   go_ret
   refine ⟨by rw [HV.out]; rfl, nT bA (nT ?_ bN)⟩
   repeat (first | (with_reducible exact bB) | (with_reducible refine Below.setCell ?_ (by first | exact hX | exact Nat.le_succ_of_le hX) _))
theorem narrow_calls (s : Bool) (a : Option Addr) (len cap : Nat) (xs : List Int) (e : Int) (t : Bool) (b : Option Addr) (bl bc : Nat) (ys : List Int) (f p : Int) (w : World) (h : IsW w a len cap xs) (hm : len ≤ 17592186044000) (h' : IsW w b bl bc ys) (hm' : bl ≤ 17592186044000) (hT : Tab w) :
  Calls Tryz.prog 12 #[ivI s a len cap e t b bl bc f, .int .i64 p] w fun r w' => r = .returned (.bool (nwB s (val xs) e t (val ys) f p)) ∧ Below w.heap.size w w' := by
 cases hn : (sgB s (val xs) e t (val ys) f && decide (0 ≤ p)) with
 | false => exact narrow_not s a len cap xs e t b bl bc ys f p w h hm h' hm' hT hn
 | true =>
  rw [Bool.and_eq_true, decide_eq_true_eq] at hn
  exact narrow_yes s a len cap xs e t b bl bc ys f p w h hm h' hm' hT hn.1 hn.2
end Go.Proofs.YtbhneifafnoaiaaGreatDoor

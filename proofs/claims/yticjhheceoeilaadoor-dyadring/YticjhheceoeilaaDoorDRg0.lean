/- DyadRing, in numbers: sums and products are a ring's. -/
import Derived.Test.YticjhheceoeilaaDoorDVal
import Derived.Test.YticjhheceoeilaaDoorRDG
import Derived.Test.YticjhheceoeilaaDoorRDA
namespace Go.Proofs.YticjhheceoeilaaDoor
open Go.RowKit

abbrev Tri := Bool × Nat × Int
theorem sum_canR {x y : Tri} (hx : CanD x) (hy : CanD y) : CanD (sumD x y) := by
  have ha : ∀ s A t b e, CanD (addHi s A t b e) := fun s A t b e => by
    unfold addHi
    split
    · exact form_can _ _ _
    · split <;> exact form_can _ _ _
  unfold sumD
  split
  · exact hy
  · split
    · exact hx
    · split <;> exact ha _ _ _ _ _
theorem mul_canR (x y : Tri) : CanD (mulD x y) := form_can _ _ _
theorem low_of (x y z : Tri) : ∃ E : Int, E ≤ 0 ∧ E ≤ x.2.2 ∧ E ≤ y.2.2 ∧ E ≤ z.2.2 := ⟨-((x.2.2.natAbs + y.2.2.natAbs + z.2.2.natAbs : Nat) : Int), by omega, by omega, by omega, by omega⟩

theorem sum_assocR (x y z : Tri) (cx : CanD x) (cy : CanD y) (cz : CanD z) : sumD x (sumD y z) = sumD (sumD x y) z := by
  obtain ⟨E, h0, hx, hy, hz⟩ := low_of x y z
  have l1 := sum_low y z E h0 hy hz
  have l2 := sum_low x y E h0 hx hy
  refine vI_inj _ _ (sum_canR cx (sum_canR cy cz)) (sum_canR (sum_canR cx cy) cz) E (sum_low _ _ E h0 hx l1) (sum_low _ _ E h0 l2 hz) ?_
  rw [vI_sum _ _ E hx l1, vI_sum _ _ E hy hz, vI_sum _ _ E l2 hz, vI_sum _ _ E hx hy, Int.add_assoc]
theorem sum_commR (x y : Tri) (cx : CanD x) (cy : CanD y) : sumD x y = sumD y x := by
  obtain ⟨E, h0, hx, hy, -⟩ := low_of x y x
  refine vI_inj _ _ (sum_canR cx cy) (sum_canR cy cx) E (sum_low _ _ E h0 hx hy) (sum_low _ _ E h0 hy hx) ?_
  rw [vI_sum _ _ E hx hy, vI_sum _ _ E hy hx, Int.add_comm]
theorem mul_assocR (x y z : Tri) : mulD x (mulD y z) = mulD (mulD x y) z := by
  obtain ⟨E, h0, hx, hy, hz⟩ := low_of x y z
  have l1 := mul_low y z E E (by omega) hy hz
  have l2 := mul_low x y E E (by omega) hx hy
  refine vI_inj _ _ (mul_canR _ _) (mul_canR _ _) (E + (E + E)) (mul_low _ _ E (E + E) (by omega) hx l1) ?_ ?_
  · have := mul_low _ _ (E + E) E (by omega) l2 hz
    omega
  · rw [vI_mul _ _ E (E + E) hx l1, vI_mul _ _ E E hy hz, show E + (E + E) = E + E + E by omega, vI_mul _ _ (E + E) E l2 hz, vI_mul _ _ E E hx hy, Int.mul_assoc]
theorem mul_commR (x y : Tri) : mulD x y = mulD y x := by
  unfold mulD
  rw [Nat.mul_comm, Int.add_comm]
  congr 2
  cases x.1 <;> cases y.1 <;> rfl
theorem mul_sumR (x y z : Tri) : mulD x (sumD y z) = sumD (mulD x y) (mulD x z) := by
  obtain ⟨E, h0, hx, hy, hz⟩ := low_of x y z
  have l1 := sum_low y z E h0 hy hz
  have l2 := mul_low x y E E (by omega) hx hy
  have l3 := mul_low x z E E (by omega) hx hz
  refine vI_inj _ _ (mul_canR _ _) (sum_canR (mul_canR _ _) (mul_canR _ _)) (E + E) (mul_low _ _ E E (by omega) hx l1) (sum_low _ _ (E + E) (by omega) l2 l3) ?_
  rw [vI_mul _ _ E E hx l1, vI_sum _ _ E hy hz, vI_sum _ _ (E + E) l2 l3, vI_mul _ _ E E hx hy, vI_mul _ _ E E hx hz, Int.mul_add]
theorem neg_low {y : Tri} {E : Int} (h : E ≤ y.2.2) : E ≤ (negD y).2.2 := h
theorem sub_backR (x y : Tri) (cx : CanD x) (cy : CanD y) : sumD (sumD x (negD y)) y = x := by
  obtain ⟨E, h0, hx, hy, -⟩ := low_of x y x
  have l1 := sum_low x (negD y) E h0 hx (neg_low hy)
  refine vI_inj _ _ (sum_canR (sum_canR cx (negD_canon cy)) cy) cx E (sum_low _ _ E h0 l1 hy) hx ?_
  rw [vI_sum _ _ E l1 hy, vI_sum _ _ E hx (neg_low hy), vI_neg]
  omega
theorem sgn_vI (x : Tri) (E : Int) : sgnQ x.1 x.2.1 = Lib.compareInt (vI x E) 0 := by
  by_cases h : x.2.1 = 0
  · rw [vI_zero h, h]; rfl
  · have hp : ((x.2.1 * 2 ^ (x.2.2 - E).toNat : Nat) : Int) > 0 := by
      have := Nat.mul_pos (Nat.pos_of_ne_zero h) (Nat.two_pow_pos (x.2.2 - E).toNat)
      omega
    unfold sgnQ vI sI Lib.compareInt
    rw [if_neg h]
    generalize x.2.1 * 2 ^ (x.2.2 - E).toNat = B at *
    cases x.1 <;> simp <;> omega
theorem cmp_subR (x y : Tri) : cmpD x y = sgnQ (sumD x (negD y)).1 (sumD x (negD y)).2.1 := by
  have hx : -((x.2.2.natAbs + y.2.2.natAbs : Nat) : Int) ≤ x.2.2 := by omega
  have hy : -((x.2.2.natAbs + y.2.2.natAbs : Nat) : Int) ≤ y.2.2 := by omega
  rw [vI_cmp x y _ hx hy, sgn_vI _ (-((x.2.2.natAbs + y.2.2.natAbs : Nat) : Int)), vI_sum _ _ _ hx (neg_low hy), vI_neg]
  generalize vI x _ = A
  generalize vI y _ = B
  unfold Lib.compareInt
  (repeat' split) <;> omega

/-- What an asker of two numbers gets: any numbers, right or not. -/
def fm (x : Tri) : Tri := formD x.1 x.2.1 x.2.2
def rt (x : Tri) : Bool := rightB x.2.1 x.2.2
def subD (x y : Tri) : Tri := sumD x (negD y)
def opE (F : Tri → Tri → Tri) (x y : Tri) : Int := twE (rt x && rt y) (F (fm x) (fm y))
def opP (F : Tri → Tri → Tri) (x y : Tri) : Tri := twP (rt x && rt y) (F (fm x) (fm y))
def cnE (x : Tri) : Int := canE x.1 x.2.1 x.2.2
def cnP (x : Tri) : Tri := canP x.1 x.2.1 x.2.2
def smB (p q : Tri) : Bool := sameB p.1 p.2.2 (wordsOf p.2.1) q.1 q.2.2 (wordsOf q.2.1)
def stk (k e : Int) : Int := if k = 0 then e else k
theorem smB_self (p : Tri) : smB p p = true := sameB_self _ _ _
theorem smB_of {p q : Tri} (h : p = q) : smB p q = true := h ▸ smB_self p
theorem stk_zero {k e : Int} (h : stk k e = 0) : k = 0 ∧ e = 0 := by
  unfold stk at h
  split at h
  · exact ⟨by assumption, h⟩
  · exact absurd h (by assumption)
theorem op_ok {F : Tri → Tri → Tri} {x y : Tri} (h : opE F x y = 0) : rt x = true ∧ rt y = true ∧ opP F x y = F (fm x) (fm y) := by
  unfold opE at h
  unfold opP
  cases h1 : (rt x && rt y) with
  | false => rw [h1] at h; exact absurd (show (2 : Int) = 0 from h) (by decide)
  | true =>
    rw [h1] at h
    obtain ⟨r1, r2⟩ := Bool.and_eq_true_iff.1 h1
    refine ⟨r1, r2, ?_⟩
    have h2 : roomE (F (fm x) (fm y)) = 0 := h
    show roomP (F (fm x) (fm y)) = _
    unfold roomE at h2
    unfold roomP
    split at h2
    · rw [if_pos (by assumption)]
    · exact absurd h2 (by decide)
theorem fm_of {x : Tri} (h : CanD x) : fm x = x := form_of_can h
theorem fm_can (x : Tri) : CanD (fm x) := form_can _ _ _
theorem cn_ok {x : Tri} (h : cnE x = 0) : rt x = true ∧ cnP x = fm x := by
  unfold cnE canE at h
  unfold cnP canP
  split at h
  · rename_i hr
    refine ⟨hr, ?_⟩
    rw [if_pos hr]
    have h2 : roomE (fm x) = 0 := h
    show roomP (fm x) = _
    unfold roomE at h2
    unfold roomP
    split at h2
    · rw [if_pos (by assumption)]
    · exact absurd h2 (by decide)
  · exact absurd h (by decide)

/-- a + (b + d) and (a + b) + d. -/
theorem ring_sum {a b d : Tri} (e1 : opE sumD b d = 0) (e2 : opE sumD a (opP sumD b d) = 0) (e3 : opE sumD a b = 0) (e4 : opE sumD (opP sumD a b) d = 0) : smB (opP sumD a (opP sumD b d)) (opP sumD (opP sumD a b) d) = true := by
  refine smB_of ?_
  rw [(op_ok e2).2.2, (op_ok e4).2.2, (op_ok e1).2.2, (op_ok e3).2.2, fm_of (sum_canR (fm_can _) (fm_can _)), fm_of (sum_canR (fm_can _) (fm_can _))]
  exact sum_assocR _ _ _ (fm_can _) (fm_can _) (fm_can _)
theorem ring_sum2 {a b : Tri} (e1 : opE sumD a b = 0) (e2 : opE sumD b a = 0) : smB (opP sumD a b) (opP sumD b a) = true := by
  refine smB_of ?_
  rw [(op_ok e1).2.2, (op_ok e2).2.2]
  exact sum_commR _ _ (fm_can _) (fm_can _)
theorem ring_mul {a b d : Tri} (e1 : opE mulD b d = 0) (e2 : opE mulD a (opP mulD b d) = 0) (e3 : opE mulD a b = 0) (e4 : opE mulD (opP mulD a b) d = 0) : smB (opP mulD a (opP mulD b d)) (opP mulD (opP mulD a b) d) = true := by
  refine smB_of ?_
  rw [(op_ok e2).2.2, (op_ok e4).2.2, (op_ok e1).2.2, (op_ok e3).2.2, fm_of (mul_canR _ _), fm_of (mul_canR _ _)]
  exact mul_assocR _ _ _
theorem ring_mul2 {a b : Tri} (e1 : opE mulD a b = 0) (e2 : opE mulD b a = 0) : smB (opP mulD a b) (opP mulD b a) = true := by
  refine smB_of ?_
  rw [(op_ok e1).2.2, (op_ok e2).2.2]
  exact mul_commR _ _
theorem ring_over {a b d : Tri} (e1 : opE sumD b d = 0) (e2 : opE mulD a (opP sumD b d) = 0) (e3 : opE mulD a b = 0) (e4 : opE mulD a d = 0) (e5 : opE sumD (opP mulD a b) (opP mulD a d) = 0) : smB (opP mulD a (opP sumD b d)) (opP sumD (opP mulD a b) (opP mulD a d)) = true := by
  refine smB_of ?_
  rw [(op_ok e2).2.2, (op_ok e5).2.2, (op_ok e1).2.2, (op_ok e3).2.2, (op_ok e4).2.2, fm_of (sum_canR (fm_can _) (fm_can _)), fm_of (mul_canR _ _), fm_of (mul_canR _ _)]
  exact mul_sumR _ _ _
theorem ring_back {a b : Tri} (e1 : opE subD a b = 0) (e2 : opE sumD (opP subD a b) b = 0) (e3 : cnE a = 0) : smB (opP sumD (opP subD a b) b) (cnP a) = true := by
  refine smB_of ?_
  rw [(op_ok e2).2.2, (op_ok e1).2.2, (cn_ok e3).2, fm_of (show CanD (subD (fm a) (fm b)) from sum_canR (fm_can _) (negD_canon (fm_can _)))]
  exact sub_backR _ _ (fm_can _) (fm_can _)
theorem ring_cmp {a b : Tri} (e1 : opE subD a b = 0) : cmE (rt a && rt b) = 0 ∧ cmV (rt a && rt b) (fm a) (fm b) = sgnQ (opP subD a b).1 (opP subD a b).2.1 := by
  obtain ⟨h1, h2, h3⟩ := op_ok e1
  rw [h1, h2, h3]
  exact ⟨rfl, cmp_subR _ _⟩
end Go.Proofs.YticjhheceoeilaaDoor

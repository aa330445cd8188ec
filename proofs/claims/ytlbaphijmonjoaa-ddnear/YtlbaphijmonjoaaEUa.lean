/- Expansions are exact; no two floats of one have bits in common, so that the last one has the sign of all. -/
import Derived.Test.YtlbaphijmonjoaaEXa
namespace Go.Proofs.Ytlbaphijmonjoaa.Fp
open EP Ieee

/-- What the floats of a list are together, in least units. -/
def sv : List Nat → Int
  | [] => 0
  | x :: l => V x + sv l
theorem sv_snoc (L : List Nat) (x : Nat) : sv (L ++ [x]) = sv L + V x := by
  induction L with
  | nil => simp [sv]
  | cons y l ih => simp only [List.cons_append, sv, ih]; omega
theorem sv_beh (L : List Nat) (x : Nat) : sv (beh L x) = sv L + V x := by
  cases hz : isZ x with
  | true =>
    have e : beh L x = L := by rw [beh, hz]; rfl
    rw [e, (zero_V x hz).2]; omega
  | false =>
    have e : beh L x = L ++ [x] := by rw [beh, hz]; rfl
    rw [e, sv_snoc]
theorem sv_abs (L : List Nat) : (sv L).natAbs ≤ tot L := by
  induction L with
  | nil => simp [sv, tot]
  | cons y l ih => simp only [sv, tot, amt]; omega
theorem G_mult {j : Nat} {E : Int} (h : Dv j E) : Dv j (G E) := by
  by_cases hk : j ≤ kk E
  · exact (G_dv E).low hk
  · have h1 := kk_lt E
    rw [p53] at h1
    have h2 : 9007199254740992 * 2 ^ kk E ≤ 9007199254740992 * 2 ^ j := Nat.mul_le_mul_left _ (Nat.pow_le_pow_right (by decide) (by omega))
    rw [G_fix (fl_dv_of j h (by omega))]; exact h
theorem fl_of_dv {j : Nat} {E : Int} (h : Dv j E) (hk : kk E ≤ j) : Fl E := by
  have h1 := kk_lt E
  rw [p53] at h1
  have h2 : 9007199254740992 * 2 ^ kk E ≤ 9007199254740992 * 2 ^ j := Nat.mul_le_mul_left _ (Nat.pow_le_pow_right (by decide) hk)
  exact fl_dv_of j h (by omega)
theorem twoSum_E {a b s t n : Nat} (ha : bd a n) (hb : bd b n) (hn : n ≤ 2080) (h : twoSumO a b = some (s, t)) : V s = G (V a + V b) ∧ V t = V a + V b - V s ∧ s < 18446744073709551616 ∧ t < 18446744073709551616 := by
  obtain ⟨s', t', e, _, _, g1, g2, g3, g4⟩ := twoSum_W ha hb hn
  rw [h] at e
  have e' := Option.some.inj e
  rw [Prod.mk.injEq] at e'
  rw [e'.1, e'.2]
  exact ⟨g1, g2, g3, g4⟩
theorem V_zero : V 0 = 0 := by decide
theorem not_zero {x : Nat} (fx : EP.finB x = true) (hz : isZ x = false) : V x ≠ 0 := fun h => by
  have := eq_of_V (y := 0) fx (by decide) (by rw [h, V_zero])
  unfold isZ at hz
  rw [this] at hz; cases hz
/-- Words of floats. -/
def okW (L : List Nat) : Prop := ∀ x ∈ L, x < 18446744073709551616
theorem okW_nil : okW [] := fun x hx => by cases hx
theorem okW_beh {L : List Nat} {x : Nat} (h : okW L) (hx : x < 18446744073709551616) : okW (beh L x) := by
  unfold beh
  split
  · exact h
  · intro y hy
    rcases List.mem_append.1 hy with q | q
    · exact h y q
    · obtain rfl : y = x := by simpa using q
      exact hx
/-- No two floats have bits in common: each one's last bit lies above all that were before it. -/
def noA : Nat → List Nat → Prop
  | _, [] => True
  | T, x :: l => (∃ k, Dv k (V x) ∧ T < 2 ^ k) ∧ noA (T + amt x) l
theorem noA_snoc : ∀ (L : List Nat) (T x : Nat), noA T L → (∃ k, Dv k (V x) ∧ T + tot L < 2 ^ k) → noA T (L ++ [x])
  | [], T, x, _, h => ⟨by simpa [tot] using h, trivial⟩
  | y :: l, T, x, h, k => by
    refine ⟨h.1, noA_snoc l _ x h.2 ?_⟩
    simp only [tot] at k
    rw [Nat.add_assoc]; exact k
theorem noA_last : ∀ (L : List Nat) (T x : Nat), noA T (L ++ [x]) → ∃ k, Dv k (V x) ∧ T + tot L < 2 ^ k
  | [], T, x, h => by simpa [tot] using h.1
  | y :: l, T, x, h => by
    have := noA_last l _ x h.2
    simp only [tot]
    rw [← Nat.add_assoc]; exact this
theorem half_lt (u K : Nat) (h : u < K) : 2 * 2 ^ u ≤ 2 ^ K := by
  have := Nat.pow_le_pow_right (n := 2) (by decide) (show u + 1 ≤ K from h)
  rw [Nat.pow_succ] at this; omega
/-- One step of Grow. -/
theorem grow_step (q x s t A : Nat) (L : List Nat) (fq : EP.finB q = true) (fx : EP.finB x = true) (ft : EP.finB t = true) (hs : V s = G (V q + V x)) (ht : V t = V q + V x - V s)
    (hx : ∃ k, Dv k (V x) ∧ A < 2 ^ k) (hL : noA 0 L) (hA : tot L ≤ A) (hq : ∃ K, Dv K (V q) ∧ tot L < 2 ^ K) :
    noA 0 (beh L t) ∧ tot (beh L t) ≤ A + amt x ∧ ∃ K, Dv K (V s) ∧ tot (beh L t) < 2 ^ K := by
  obtain ⟨k, dk, hk⟩ := hx
  obtain ⟨K, dK, hK⟩ := hq
  have de : Dv (min K k) (V q + V x) := (dK.low (Nat.min_le_left _ _)).add (dk.low (Nat.min_le_right _ _))
  have hlt : tot L < 2 ^ (min K k) := by
    rcases Nat.le_total K k with h | h
    · rw [Nat.min_eq_left h]; exact hK
    · rw [Nat.min_eq_right h]; omega
  have ds : Dv (min K k) (V s) := by rw [hs]; exact G_mult de
  have dt : Dv (min K k) (V t) := by rw [ht]; exact de.sub ds
  have hle : amt t ≤ amt x := by
    have := (err_le (V q) (V x) (V_fl q fq) (V_fl x fx)).2
    unfold amt
    rw [ht, hs]; exact this
  cases hz : isZ t with
  | true =>
    have e : beh L t = L := by rw [beh, hz]; rfl
    rw [e]
    exact ⟨hL, by omega, _, ds, hlt⟩
  | false =>
    have e : beh L t = L ++ [t] := by rw [beh, hz]; rfl
    rw [e, tot_snoc]
    have hne := not_zero ft hz
    refine ⟨noA_snoc L 0 t hL ⟨_, dt, by omega⟩, by omega, kk (V q + V x), by rw [hs]; exact G_dv _, ?_⟩
    have h1 : min K k < kk (V q + V x) := by
      rcases Nat.lt_or_ge (min K k) (kk (V q + V x)) with h | h
      · exact h
      · exfalso
        have := G_fix (fl_of_dv de h)
        rw [ht, hs, this] at hne
        exact hne (by omega)
    have h2 := G_half (V q + V x)
    have h3 := half_lt _ _ h1
    have h4 : amt t = (G (V q + V x) - (V q + V x)).natAbs := by unfold amt; rw [ht, hs]; omega
    rw [← h4] at h2
    generalize 2 ^ min K k = P at *
    generalize 2 ^ kk (V q + V x) = Q at *
    omega
theorem growL_ex (T0 n : Nat) (hn : n ≤ 2078) (h0 : T0 ≤ 2 ^ n) : ∀ (l : List Nat) (q : Nat) (L : List Nat) (k A : Nat), EP.finB q = true → (∀ x ∈ l, EP.finB x = true) → okL L → k + l.length ≤ 1099511627776 → (amt q + tot l + tot L) * 1125899906842624 ≤ (1125899906842624 + 2 * k) * T0 →
    ∃ q' L', growL l q L = some (q', L') ∧ EP.finB q' = true ∧ okL L' ∧ amt q' + tot L' ≤ 2 * T0 ∧ V q' + sv L' = V q + sv l + sv L ∧
      (noA A l → noA 0 L → tot L ≤ A → (∃ K, Dv K (V q) ∧ tot L < 2 ^ K) → noA 0 L' ∧ ∃ K, Dv K (V q') ∧ tot L' < 2 ^ K) ∧ (q < 18446744073709551616 → okW L → q' < 18446744073709551616 ∧ okW L') := by
  intro l
  induction l with
  | nil =>
    intro q L k A hq _ hL hk h
    refine ⟨q, L, rfl, hq, hL, ?_, by simp only [sv]; omega, (fun _ h1 _ h2 => ⟨h1, h2⟩), fun h1 h2 => ⟨h1, h2⟩⟩
    simp only [tot, List.length_nil] at h hk
    have h2 := grow_top k _ T0 (by omega) h
    omega
  | cons x l ih =>
    intro q L k A hq hl hL hk h
    simp only [tot, List.length_cons] at h hk
    have h2 := grow_top k _ T0 (by omega) h
    have hx := hl x (List.mem_cons_self ..)
    have hp : 2 * T0 ≤ 2 ^ (n + 1) := by rw [Nat.pow_succ]; omega
    obtain ⟨s, t, e, fs, ft, hb⟩ := twoSum_tot q x (n + 1) hq hx (by omega) (by omega)
    have bq : bd q (n + 1) := ⟨hq, by show amt q ≤ _; omega⟩
    have bx : bd x (n + 1) := ⟨hx, by show amt x ≤ _; omega⟩
    obtain ⟨v1, v2, v3, v4⟩ := twoSum_E bq bx (by omega) e
    obtain ⟨ok', et⟩ := beh_ok (L := L) hL ft
    have h3 : 1125899906842624 * (amt s + tot l + tot (beh L t)) ≤ 1125899906842625 * (amt q + (amt x + tot l) + tot L) := by rw [et]; omega
    have h4 := grow_lin k _ _ T0 (by omega) h h3
    obtain ⟨q', L', e', r1, r2, r3, r4, r5, r6⟩ := ih s (beh L t) (k + 1) (A + amt x) fs (fun y hy => hl y (List.mem_cons_of_mem _ hy)) ok' (by omega) h4
    refine ⟨q', L', ?_, r1, r2, r3, ?_, (fun n1 n2 n3 n4 => ?_), fun _ h2 => r6 v3 (okW_beh h2 v4)⟩
    · show (twoSumO q x).bind _ = _
      rw [e]
      exact e'
    · rw [r4, sv_beh]; simp only [sv]; omega
    · obtain ⟨g1, g2, g3⟩ := grow_step q x s t A L hq hx ft v1 v2 n1.1 n2 n3 n4
      exact r5 n1.2 g1 g2 g3
theorem noA_beh {L : List Nat} {q : Nat} (h : noA 0 L) (hq : ∃ K, Dv K (V q) ∧ tot L < 2 ^ K) : noA 0 (beh L q) := by
  unfold beh
  split
  · exact h
  · obtain ⟨K, h1, h2⟩ := hq
    exact noA_snoc L 0 q h ⟨K, h1, by omega⟩
theorem growO_ex (l : List Nat) (b n : Nat) (hn : n ≤ 2078) (h0 : amt b + tot l ≤ 2 ^ n) (hl : ∀ x ∈ l, EP.finB x = true) (hb : EP.finB b = true) (hk : l.length ≤ 1099511627776) :
    ∃ R, growO l b = some R ∧ okL R ∧ tot R ≤ 2 * (amt b + tot l) ∧ R.length ≤ l.length + 1 ∧ sv R = V b + sv l ∧ (noA 0 l → noA 0 R) ∧ (b < 18446744073709551616 → okW R) := by
  obtain ⟨q', L', e, h1, h2, h3, h4, h5, h6⟩ := growL_ex (amt b + tot l) n hn h0 l b [] 0 0 hb hl okL_nil (by omega) (by simp only [tot]; omega)
  obtain ⟨o1, o2⟩ := beh_ok h2 h1
  have hlen := growL_len l b [] _ e
  have hbl := beh_len L' q'
  refine ⟨beh L' q', ?_, o1, by omega, by simp at hlen; omega, ?_, (fun q => ?_), fun q => okW_beh (h6 q okW_nil).2 (h6 q okW_nil).1⟩
  · unfold growO
    rw [e]; rfl
  · rw [sv_beh]; simp only [sv] at h4; omega
  · obtain ⟨g1, g2⟩ := h5 q trivial (Nat.le_refl _) ⟨0, Int.one_dvd _, by simp [tot]⟩
    exact noA_beh g1 g2
theorem growB_ex : ∀ (ys L : List Nat) (n : Nat), okL L → tot L ≤ 2 ^ n → (∀ y ∈ ys, EP.finB y = true ∧ amt y ≤ 2 ^ n) → n + 2 * ys.length ≤ 2077 → L.length + ys.length ≤ 1099511627776 →
    ∃ R, growB L ys = some R ∧ okL R ∧ tot R ≤ 2 ^ (n + 2 * ys.length) ∧ R.length ≤ L.length + ys.length ∧ sv R = sv L + sv ys ∧ (noA 0 L → noA 0 R) ∧ (okW ys → okW L → okW R) := by
  intro ys
  induction ys with
  | nil => intro L n hL ht _ _ _; exact ⟨L, rfl, hL, by simpa using ht, by simp, by simp only [sv]; omega, (fun h => h), fun _ h => h⟩
  | cons y ys ih =>
    intro L n hL ht hy hn hk
    simp only [List.length_cons] at hn hk ⊢
    obtain ⟨fy, ay⟩ := hy y (List.mem_cons_self ..)
    obtain ⟨R, e1, o1, t1, l1, s1, n1, w1⟩ := growO_ex L y (n + 1) (by omega) (by rw [Nat.pow_succ]; omega) (fun x hx => (hL x hx).1) fy (by omega)
    have ht1 : tot R ≤ 2 ^ (n + 2) := by rw [Nat.pow_add]; omega
    have hmono : 2 ^ n ≤ 2 ^ (n + 2) := Nat.pow_le_pow_right (by decide) (by omega)
    obtain ⟨R', e2, o2, t2, l2, s2, n2, w2⟩ := ih R (n + 2) o1 ht1 (fun z hz => ⟨(hy z (List.mem_cons_of_mem _ hz)).1, Nat.le_trans (hy z (List.mem_cons_of_mem _ hz)).2 hmono⟩) (by omega) (by omega)
    refine ⟨R', ?_, o2, by rw [show n + 2 * (ys.length + 1) = n + 2 + 2 * ys.length by omega]; exact t2, by omega, by rw [s2, s1]; simp only [sv]; omega, (fun h => n2 (n1 h)), fun h1 h2 => w2 (fun z hz => h1 z (List.mem_cons_of_mem _ hz)) (w1 (h1 y (List.mem_cons_self ..)))⟩
    show (if EP.finB (lastF L) then growO L y else none).bind _ = _
    rw [last_fin hL, if_pos rfl, e1]
    exact e2
/-- The last float has the sign of all. -/
theorem last_sign (R : List Nat) (ho : okL R) (hn : noA 0 R) : sgnF (lastF R) = if sv R < 0 then -1 else if 0 < sv R then 1 else 0 := by
  rcases List.eq_nil_or_concat R with h | ⟨L, x, h⟩
  · subst h; decide
  · rw [List.concat_eq_append] at h
    subst h
    have fx := (ho x (by simp)).1
    have hz := not_zero fx (ho x (by simp)).2
    obtain ⟨k, d, hk⟩ := noA_last L 0 x hn
    have hl : lastF (L ++ [x]) = x := by unfold lastF; simp [List.getD]
    rw [hl, sv_snoc]
    have h1 := sv_abs L
    have h2 : 2 ^ k ≤ (V x).natAbs := by
      rcases Nat.lt_or_ge (V x).natAbs (2 ^ k) with q | q
      · exact absurd (small_zero d q) hz
      · exact q
    have ho2 := order_fin x 0 fx (by decide)
    rw [V_zero] at ho2
    unfold sgnF
    rw [ho2]
    generalize 2 ^ k = P at *
    rcases Int.lt_trichotomy (V x) 0 with q | q | q
    · rw [show compare (V x) 0 = .lt from Int.compare_eq_lt.2 q, if_pos rfl, if_pos (by omega)]
    · exact absurd q hz
    · rw [show compare (V x) 0 = .gt from Int.compare_eq_gt.2 q, if_neg (by simp), if_pos rfl, if_neg (by omega), if_pos (by omega)]
theorem prod_small (A B : Int) : (A * B - G (A * B)).natAbs ≤ (A * B).natAbs := by
  have := near_fl (A * B) 0 fl_zero
  rw [Int.sub_zero] at this; exact this
theorem scaleO_ex (b n0 : Nat) (hn0 : n0 = 1878) (hb : bd b 1475) (Nb : ∃ A i, Nm b A i) : ∀ (l L : List Nat) (n : Nat), n0 ≤ n → okL L → tot L ≤ 2 ^ n → (∀ x ∈ l, bd x 1475 ∧ ∃ A i, Nm x A i) → n + 4 * l.length ≤ 2070 → L.length + 2 * l.length ≤ 1099511627776 →
    ∃ R, scaleO l b L = some R ∧ okL R ∧ R.length ≤ L.length + 2 * l.length ∧ tot R ≤ 2 ^ (n + 4 * l.length) ∧ (okW L → okW R) ∧ ∀ D : Nat, D = 1074 → sv R * ((2 ^ D : Nat) : Int) = sv L * ((2 ^ D : Nat) : Int) + V b * sv l := by
  obtain ⟨B, j, hB⟩ := Nb
  intro l
  induction l with
  | nil => intro L n _ hL ht _ _ _; exact ⟨L, rfl, hL, by simp, by simpa using ht, (fun h => h), fun D _ => by simp only [sv]; omega⟩
  | cons x l ih =>
    intro L n h0 hL ht hx hn hk
    simp only [List.length_cons] at hn hk
    obtain ⟨bx, A, i, hA⟩ := hx x (List.mem_cons_self ..)
    have hi := hA.2.2
    have hj := hB.2.2
    obtain ⟨p, e, e1, bp, be, v1, v2, v3, v4⟩ := twoProd_W (k := 1876) (K := j + i - 1074) hb bx (by decide) (by decide) hB hA (by omega)
    have bp' : bd p n := bp.mono (by omega)
    have hprod : ∀ D : Nat, D = 1074 → (V p + V e) * ((2 ^ D : Nat) : Int) = V b * V x := fun D hD => by
      rw [v1, v2, ← Int.add_mul, show G (B * A) + (B * A - G (B * A)) = B * A by omega, hB.1, hA.1]
      exact (scale2 B A j i (j + i - 1074) D (by omega)).symm
    have be' : bd e n := by
      refine ⟨be.1, ?_⟩
      have hs := prod_small B A
      have hG : (V e).natAbs ≤ (V p).natAbs + (V e).natAbs := by omega
      have he2 : (V e).natAbs ≤ (V p + V e).natAbs := by
        rw [v1, v2, ← Int.add_mul, show G (B * A) + (B * A - G (B * A)) = B * A by omega, Int.natAbs_mul, Int.natAbs_mul]
        exact Nat.mul_le_mul_right _ hs
      have h5 := hprod 1074 rfl
      obtain ⟨D, hD⟩ : ∃ D, D = 1074 := ⟨_, rfl⟩
      rw [← hD] at h5
      have h6 := congrArg Int.natAbs h5
      rw [Int.natAbs_mul, Int.natAbs_mul, Int.natAbs_natCast] at h6
      have h7 := Nat.mul_le_mul hb.2 bx.2
      rw [← h6] at h7
      obtain ⟨M, hM⟩ : ∃ M, M = 1475 := ⟨_, rfl⟩
      obtain ⟨Z, hZ⟩ : ∃ Z, Z = 1876 := ⟨_, rfl⟩
      rw [← hM, ← Nat.pow_add, show M + M = Z + D by omega, Nat.pow_add] at h7
      have h8 := Nat.le_of_mul_le_mul_right h7 (pow2_pos D)
      exact Nat.le_trans he2 (Nat.le_trans h8 (Nat.pow_le_pow_right (by decide) (by omega)))
    obtain ⟨R, e2, o2, t2, l2, s2, _, w2⟩ := growB_ex [e, p] L n hL ht (fun y hy => by
      rcases List.mem_cons.1 hy with h | h
      · subst h; exact ⟨be'.1, be'.2⟩
      · obtain rfl : y = p := by simpa using h
        exact ⟨bp'.1, bp'.2⟩) (by simp; omega) (by simp; omega)
    simp only [List.length_cons, List.length_nil] at t2 l2
    obtain ⟨R', e3, o3, l3, t3, w3, s3⟩ := ih R (n + 4) (by omega) o2 t2 (fun y hy => hx y (List.mem_cons_of_mem _ hy)) (by omega) (by omega)
    refine ⟨R', ?_, o3, by simp only [List.length_cons]; omega, by rw [List.length_cons, show n + 4 * (l.length + 1) = n + 4 + 4 * l.length by omega]; exact t3, (fun h => w3 (w2 (fun z hz => by
      rcases List.mem_cons.1 hz with q | q
      · subst q; exact v4
      · obtain rfl : z = p := by simpa using q
        exact v3) h)), fun D hD => ?_⟩
    · show (twoProdO b x).bind _ = _
      rw [e1]
      show (growB L [e, p]).bind _ = _
      rw [e2]
      exact e3
    · rw [s3 D hD, s2]
      have := hprod D hD
      simp only [sv]
      rw [Int.mul_add, ← this]
      simp only [Int.add_mul, Int.add_zero]
      omega
end Go.Proofs.Ytlbaphijmonjoaa.Fp

/- How far the sum of two pairs lies off: at most 2^-102 of the exact sum. How far the product of two pairs lies off: at most 2^-102 of the exact product. How far a quotient of floats lies off: rounded once where it is not too small; by a little more than that in general. A quotient of pairs: products of a pair by a float; the roundings of a quotient as amounts. How far the quotient of two pairs lies off: what it is times the divisor lies off by at most 2^-102 of what was divided. The quotient of two pairs: its floats, in their one form, near the exact quotient. Right pairs: sums, differences, products and quotients, all that is known of them. -/
import Derived.Test.YtlbaphijmonjoaaEVa

namespace Go.Proofs.Ytlbaphijmonjoaa.Fp
open EP Ieee

/-- A sum less the smaller of the two is a float, too, where the smaller one is a multiple of the greater one's last bit. -/
theorem fast_dv (a b : Int) (hb : Fl b) (d1 : Dv (kk b) a) (h : a.natAbs ≤ b.natAbs) : Fl (G (a + b) - a) := by
  have d2 := fl_dv hb
  have l2 := kk_lt b
  by_cases hk : kk (a + b) ≤ kk b
  · rw [G_fix (fl_sum_low d1 d2 hk), show a + b - a = b by omega]
    exact hb
  · have ls : kk (a + b) ≤ kk b + 1 := by
      refine Nat.le_of_not_lt fun q => ?_
      have h1 := kk_ge (a + b) (by omega)
      have h2 := Nat.pow_le_pow_right (n := 2) (by decide) (show 53 + kk b + 1 ≤ 52 + kk (a + b) by omega)
      rw [Nat.pow_succ] at h2
      omega
    have hh := G_half (a + b)
    have hp : 2 ^ kk (a + b) ≤ 2 * 2 ^ kk b := by rw [← Nat.pow_succ']; exact Nat.pow_le_pow_right (by decide) (by omega)
    have tg := top_gap d2 l2
    refine fl_dv_of (kk b) (((G_dv _).low (by omega)).sub d1) ?_
    rw [← p53]
    generalize 2 ^ (53 + kk b) = P at *
    generalize 2 ^ kk b = g at *
    generalize 2 ^ kk (a + b) = g' at *
    omega
theorem fast_U {a b n : Nat} (ha : bd a n) (hb : bd b n) (hn : n ≤ 2080) : ∃ s t, fastO a b = some (s, t) ∧ bd s (n + 2) ∧ bd t (n + 6) ∧ V s = G (V a + V b) ∧ (Fl (G (V a + V b) - V a) → V t = V a + V b - V s) ∧ s < 18446744073709551616 ∧ t < 18446744073709551616 := by
  obtain ⟨s, e1, q1, b1, g1⟩ := fo_G_add ha hb (by omega)
  obtain ⟨x, e2, q2, b2, g2⟩ := fo_G_sub b1 (ha.mono (by omega)) (by omega)
  obtain ⟨t, e3, q3, b3, g3⟩ := fo_G_sub (hb.mono (by omega)) b2 (by omega)
  refine ⟨s, t, by simp only [fastO, e1, e2, e3, Option.bind_some], b1, b3, g1, fun h => ?_, q1, q3⟩
  rw [g3, g2, g1, G_fix h, show V b - (G (V a + V b) - V a) = V a + V b - G (V a + V b) by omega, G_fix (err_fl _ _ (V_fl a ha.1) (V_fl b hb.1))]
theorem kk_leW {x : Int} {m : Nat} (h : x.natAbs < 2 ^ (53 + m)) : kk x ≤ m := by
  refine Nat.le_of_not_lt fun q => ?_
  have h1 := kk_ge x (by omega)
  have h2 := Nat.pow_le_pow_right (n := 2) (by decide) (show 53 + m ≤ 52 + kk x by omega)
  omega
/-- Of two floats whose sum is no float, the second is at most twice the sum. -/
theorem far_sum (S u : Int) (fS : Fl S) (fu : Fl u) (h : ¬ Fl (S + u)) : u.natAbs ≤ 2 * (S + u).natAbs := by
  refine Nat.le_of_not_lt fun q => h ?_
  by_cases hu : 0 ≤ u
  · by_cases h2 : -S ≤ u
    · have := sterbenz u (-S) fu (fl_neg fS) (by omega) h2 (by omega)
      rwa [show u - -S = S + u by omega] at this
    · have := sterbenz (-S) u (fl_neg fS) fu hu (by omega) (by omega)
      have := fl_neg this
      rwa [show -(-S - u) = S + u by omega] at this
  · by_cases h2 : S ≤ -u
    · have := sterbenz (-u) S (fl_neg fu) fS (by omega) h2 (by omega)
      have := fl_neg this
      rwa [show -(-u - S) = S + u by omega] at this
    · have := sterbenz S (-u) fS (fl_neg fu) (by omega) (by omega) (by omega)
      rwa [show S - -u = S + u by omega] at this
/-- The four roundings of a sum of pairs, as amounts. -/
theorem dw_amounts (S L s t u v c a b d : Int) (es : s = G S) (et : t = S - s) (eu : u = G L) (ev : v = L - u) (ec : c = G (t + u)) (ea : a = G (s + c)) (eb : b = s + c - a) (ed : d = G (v + b)) :
    9007199254740992 * t.natAbs ≤ S.natAbs ∧ 9007199254740992 * v.natAbs ≤ L.natAbs ∧ u.natAbs ≤ L.natAbs + v.natAbs ∧ 9007199254740992 * (c - (t + u)).natAbs ≤ t.natAbs + u.natAbs ∧
      (s + c).natAbs ≤ S.natAbs + u.natAbs + (c - (t + u)).natAbs ∧ S.natAbs ≤ (s + c).natAbs + u.natAbs + (c - (t + u)).natAbs ∧ 9007199254740992 * b.natAbs ≤ (s + c).natAbs ∧ 9007199254740992 * (d - (v + b)).natAbs ≤ v.natAbs + b.natAbs ∧
      (a + d - (S + L)).natAbs ≤ (c - (t + u)).natAbs + (d - (v + b)).natAbs := by
  have r1 := G_rel S
  have r2 := G_rel L
  have r3 := G_rel (t + u)
  have r4 := G_rel (s + c)
  have r5 := G_rel (v + b)
  rw [← es] at r1
  rw [← eu] at r2
  rw [← ec] at r3
  rw [← ea] at r4
  rw [← ed] at r5
  clear es eu ec ea ed
  refine ⟨?_, ?_, ?_, ?_, ?_, ?_, ?_, ?_, ?_⟩
  · clear r2 r3 r4 r5; omega
  · clear r1 r3 r4 r5; omega
  · clear r1 r2 r3 r4 r5; omega
  · clear r1 r2 r4 r5; omega
  · clear r1 r2 r3 r4 r5; omega
  · clear r1 r2 r3 r4 r5; omega
  · clear r1 r2 r3 r5; omega
  · clear r1 r2 r3 r4; omega
  · clear r1 r2 r3 r4 r5; omega
theorem dw_core (h l x y : Int) (fh : Fl h) (fl : Fl l) (fx : Fl x) (fy : Fl y) (hr : G (h + l) = h) (hr' : G (x + y) = x) (hk : kk x ≤ kk h) (s t u v c a b d : Int)
    (es : s = G (h + x)) (et : t = h + x - s) (eu : u = G (l + y)) (ev : v = l + y - u) (ec : c = G (t + u)) (ea : a = G (s + c)) (eb : b = s + c - a) (ed : d = G (v + b)) :
    Fl (G (s + c) - s) ∧ Fl (G (a + d) - a) ∧ 5070602400912917605986812821504 * (a + d - (h + x + (l + y))).natAbs ≤ (h + x + (l + y)).natAbs := by
  have hl := lo_half h l fl hr
  have hy := lo_half x y fy hr'
  have hg : 2 ^ kk x ≤ 2 ^ kk h := Nat.pow_le_pow_right (by decide) hk
  have hL : (l + y).natAbs ≤ 2 ^ kk h := by omega
  obtain ⟨m1, m2, m3, m4, m5, m6, m7, m8, m9⟩ := dw_amounts (h + x) (l + y) s t u v c a b d es et eu ev ec ea eb ed
  have fs : Fl s := by rw [es]; exact G_fl _
  have fc : Fl c := by rw [ec]; exact G_fl _
  have fa : Fl a := by rw [ea]; exact G_fl _
  have fd : Fl d := by rw [ed]; exact G_fl _
  have fu : Fl u := by rw [eu]; exact G_fl _
  have fv : Fl v := by rw [ev, eu]; exact err_fl l y fl fy
  by_cases hA : 1125899906842624 * 2 ^ kk h ≤ (h + x).natAbs
  · have n1 : c.natAbs ≤ s.natAbs := by
      have q1 : c.natAbs ≤ t.natAbs + u.natAbs + (c - (t + u)).natAbs := by clear m1 m2 m3 m4 m5 m6 m7 m8 m9 hA hL hl hy hg; omega
      have q2 : (h + x).natAbs ≤ s.natAbs + t.natAbs := by clear m1 m2 m3 m4 m5 m6 m7 m8 m9 hA hL hl hy hg q1; omega
      clear hl hy hg
      generalize 2 ^ kk h = g at *
      generalize (l + y).natAbs = NL at *
      generalize (h + x).natAbs = NS at *
      generalize (c - (t + u)).natAbs = A1 at *
      generalize (s + c).natAbs = Nsc at *
      generalize t.natAbs = Nt at *
      generalize u.natAbs = Nu at *
      generalize v.natAbs = Nv at *
      generalize c.natAbs = Nc at *
      generalize s.natAbs = Ns at *
      clear m5 m6 m7 m8 m9
      omega
    have n2 : d.natAbs ≤ a.natAbs := by
      have q1 : d.natAbs ≤ v.natAbs + b.natAbs + (d - (v + b)).natAbs := by clear m1 m2 m3 m4 m5 m6 m7 m8 m9 hA hL hl hy hg n1; omega
      have q2 : (s + c).natAbs ≤ a.natAbs + b.natAbs := by clear m1 m2 m3 m4 m5 m6 m7 m8 m9 hA hL hl hy hg n1 q1; omega
      clear hl hy hg n1
      generalize 2 ^ kk h = g at *
      generalize (l + y).natAbs = NL at *
      generalize (h + x).natAbs = NS at *
      generalize (c - (t + u)).natAbs = A1 at *
      generalize (d - (v + b)).natAbs = A2 at *
      generalize (s + c).natAbs = Nsc at *
      generalize t.natAbs = Nt at *
      generalize u.natAbs = Nu at *
      generalize v.natAbs = Nv at *
      generalize b.natAbs = Nb at *
      generalize a.natAbs = Na at *
      generalize d.natAbs = Nd at *
      clear m9
      omega
    refine ⟨fast_exact s c fs fc n1, fast_exact a d fa fd n2, ?_⟩
    have q1 : (h + x).natAbs ≤ (h + x + (l + y)).natAbs + (l + y).natAbs := by clear m1 m2 m3 m4 m5 m6 m7 m8 m9 hA hL hl hy hg n1 n2; omega
    clear hl hy hg n1 n2
    generalize 2 ^ kk h = g at *
    generalize (a + d - (h + x + (l + y))).natAbs = Er at *
    generalize (h + x + (l + y)).natAbs = Tt at *
    generalize (l + y).natAbs = NL at *
    generalize (h + x).natAbs = NS at *
    generalize (c - (t + u)).natAbs = A1 at *
    generalize (d - (v + b)).natAbs = A2 at *
    generalize (s + c).natAbs = Nsc at *
    generalize t.natAbs = Nt at *
    generalize u.natAbs = Nu at *
    generalize v.natAbs = Nv at *
    generalize b.natAbs = Nb at *
    omega
  · have hm : kk h ≤ kk x + 1 := by
      refine Nat.le_of_not_lt fun q => ?_
      have h1 := kk_ge h (by omega)
      have h2 := kk_lt x
      have h3 : 2 ^ (53 + kk x) ≤ 2 ^ (51 + kk h) := Nat.pow_le_pow_right (by decide) (by omega)
      rw [Nat.pow_add 2 51, show (2 : Nat) ^ 51 = 2251799813685248 by decide] at h3
      rw [Nat.pow_add, show (2 : Nat) ^ 52 = 4503599627370496 by decide] at h1
      clear m1 m2 m3 m4 m5 m6 m7 m8 m9 hL hl hy hg
      generalize 2 ^ (53 + kk x) = P at *
      generalize 2 ^ kk h = g at *
      omega
    have hg2 : 2 ^ kk h ≤ 2 * 2 ^ kk x := by rw [← Nat.pow_succ']; exact Nat.pow_le_pow_right (by decide) hm
    have dS : Dv (kk x) (h + x) := ((fl_dv fh).low hk).add (fl_dv fx)
    have fS : Fl (h + x) := fl_dv_of (kk x) dS (by
      clear m1 m2 m3 m4 m5 m6 m7 m8 m9 hL hl hy
      generalize 2 ^ kk x = g' at *
      generalize 2 ^ kk h = g at *
      omega)
    have e1 : s = h + x := by rw [es]; exact G_fix fS
    have e2 : t = 0 := by rw [et, e1]; omega
    have e3 : c = u := by rw [ec, e2, Int.zero_add]; exact G_fix fu
    have dL : kk (l + y) ≤ kk x := kk_leW (by
      rw [p53]
      clear m1 m2 m3 m4 m5 m6 m7 m8 m9 hl hy hA
      have := Nat.two_pow_pos (kk x)
      generalize 2 ^ kk x = g' at *
      generalize 2 ^ kk h = g at *
      omega)
    have du : Dv (kk (l + y)) u := by rw [eu]; exact G_dv _
    have dSu : Dv (kk (l + y)) (s + c) := by rw [e1, e3]; exact (dS.low dL).add du
    have ku : kk u ≤ kk x := kk_leW (by
      rw [p53]
      clear m1 m4 m5 m6 m7 m8 m9 hl hy hA
      have := Nat.two_pow_pos (kk x)
      generalize 2 ^ kk x = g' at *
      generalize 2 ^ kk h = g at *
      generalize (l + y).natAbs = NL at *
      generalize u.natAbs = Nu at *
      generalize v.natAbs = Nv at *
      omega)
    have F1 : Fl (G (s + c) - s) := by
      rw [e3]
      by_cases q : u.natAbs ≤ s.natAbs
      · exact fast_exact s u fs fu q
      · exact fast_dv s u fu (by rw [e1]; exact dS.low ku) (by omega)
    have hv := G_half (l + y)
    rw [← eu, show u - (l + y) = -v by omega, Int.natAbs_neg] at hv
    have hfar : s + c = 0 ∨ 2 * v.natAbs ≤ (s + c).natAbs := by
      by_cases q : s + c = 0
      · exact .inl q
      · refine .inr (Nat.le_trans hv ?_)
        rcases Nat.lt_or_ge (s + c).natAbs (2 ^ kk (l + y)) with q2 | q2
        · exact absurd (small_zero dSu q2) q
        · exact q2
    have F2 : Fl (G (a + d) - a) := by
      rcases hfar with q | q
      · have ha : a = 0 := by rw [ea, q]; exact G_zero
        rw [ha, Int.zero_add, G_fix fd, Int.sub_zero]; exact fd
      · refine fast_exact a d fa fd ?_
        have q1 : d.natAbs ≤ v.natAbs + b.natAbs + (d - (v + b)).natAbs := by clear m1 m2 m3 m4 m5 m6 m7 m8 m9 hA hL hl hy hg q hv; omega
        have q2 : (s + c).natAbs ≤ a.natAbs + b.natAbs := by clear m1 m2 m3 m4 m5 m6 m7 m8 m9 hA hL hl hy hg q hv q1; omega
        clear m1 m2 m3 m4 m5 m6 m9 hl hy hg hL hA hv hg2
        generalize (d - (v + b)).natAbs = A2 at *
        generalize (s + c).natAbs = Nsc at *
        generalize v.natAbs = Nv at *
        generalize b.natAbs = Nb at *
        generalize a.natAbs = Na at *
        generalize d.natAbs = Nd at *
        omega
    refine ⟨F1, F2, ?_⟩
    by_cases hf : Fl (s + c)
    · have hb0 : b = 0 := by rw [eb, ea, G_fix hf]; omega
      have hd0 : d = v := by rw [ed, hb0, Int.add_zero]; exact G_fix fv
      have : a + d - (h + x + (l + y)) = 0 := by rw [hd0]; omega
      rw [this]; simp
    · have hfs := far_sum s u fs fu (by rw [← e3]; exact hf)
      rw [← e3] at hfs
      have q1 : (s + c).natAbs ≤ (h + x + (l + y)).natAbs + v.natAbs := by rw [e1, e3, ev]; clear m1 m2 m3 m4 m5 m6 m7 m8 m9 hA hL hl hy hg hv hfs hg2; omega
      have q2 : (a + d - (h + x + (l + y))).natAbs ≤ (d - (v + b)).natAbs := by
        have : a + d - (h + x + (l + y)) = d - (v + b) := by rw [eb, e1, e3, ev]; omega
        rw [this]; exact Nat.le_refl _
      have q3 : (l + y).natAbs ≤ u.natAbs + v.natAbs := by clear m1 m2 m3 m4 m5 m6 m7 m8 m9 hA hL hl hy hg hv hfs hg2 q1 q2; omega
      rw [e3] at hfs
      rw [e3] at m7 q1
      clear m1 m3 m4 m5 m6 m9 hl hy hg hL hA hv hg2 hfar
      generalize (a + d - (h + x + (l + y))).natAbs = Er at *
      generalize (h + x + (l + y)).natAbs = Tt at *
      generalize (l + y).natAbs = NL at *
      generalize (d - (v + b)).natAbs = A2 at *
      generalize (s + u).natAbs = Nsc at *
      generalize u.natAbs = Nu at *
      generalize v.natAbs = Nv at *
      generalize b.natAbs = Nb at *
      omega
/-- The sum of two right pairs: its floats, in their one form, near the exact sum. -/
theorem sumP_two {h l x y n : Nat} (hn : n ≤ 2030) (bh : bd h n) (bl : bd l n) (bx : bd x n) (by' : bd y n) (hr : G (V h + V l) = V h) (hr' : G (V x + V y) = V x) :
    ∃ p q, sumP h l x y = some (p, q) ∧ bd p (n + 22) ∧ bd q (n + 26) ∧ p < 18446744073709551616 ∧ q < 18446744073709551616 ∧ G (V p + V q) = V p ∧
      5070602400912917605986812821504 * (V p + V q - (V h + V l + (V x + V y))).natAbs ≤ (V h + V l + (V x + V y)).natAbs := by
  obtain ⟨s, t, e1, bs, bt, v1, v2, -, -⟩ := twoSum_W bh bx (by omega)
  obtain ⟨u, v, e2, bu, bv, v3, v4, -, -⟩ := twoSum_W bl by' (by omega)
  obtain ⟨c, e3, -, bc, v5⟩ := fo_G_add bt (bu.mono (show n + 2 ≤ n + 10 by omega)) (by omega)
  obtain ⟨a, b, e4, ba, bb, v6, v7, -, -⟩ := fast_U (bs.mono (show n + 2 ≤ n + 12 by omega)) bc (by omega)
  obtain ⟨d, e5, -, bd', v8⟩ := fo_G_add (bv.mono (show n + 10 ≤ n + 18 by omega)) (bb.mono (show n + 12 + 6 ≤ n + 18 by omega)) (by omega)
  obtain ⟨p, q, e6, bp, bq, v9, v10, w1, w2⟩ := fast_U (ba.mono (show n + 12 + 2 ≤ n + 20 by omega)) (bd'.mono (show n + 18 + 2 ≤ n + 20 by omega)) (by omega)
  have key : Fl (G (V s + V c) - V s) ∧ (V b = V s + V c - V a → Fl (G (V a + V d) - V a) ∧ 5070602400912917605986812821504 * (V a + V d - (V h + V x + (V l + V y))).natAbs ≤ (V h + V x + (V l + V y)).natAbs) := by
    have fh := V_fl h bh.1
    have fl := V_fl l bl.1
    have fx := V_fl x bx.1
    have fy := V_fl y by'.1
    rcases Nat.le_total (kk (V x)) (kk (V h)) with hk | hk
    · have F := dw_core (V h) (V l) (V x) (V y) fh fl fx fy hr hr' hk (V s) (V t) (V u) (V v) (V c) (V a) (V s + V c - V a) (G (V v + (V s + V c - V a))) v1 v2 v3 v4 v5 v6 rfl rfl
      refine ⟨F.1, fun e => ?_⟩
      rw [v8, e]
      exact F.2
    · have F := dw_core (V x) (V y) (V h) (V l) fx fy fh fl hr' hr hk (V s) (V t) (V u) (V v) (V c) (V a) (V s + V c - V a) (G (V v + (V s + V c - V a))) (by rw [Int.add_comm]; exact v1) (by rw [Int.add_comm (V x)]; exact v2) (by rw [Int.add_comm]; exact v3) (by rw [Int.add_comm (V y)]; exact v4) v5 v6 rfl rfl
      refine ⟨F.1, fun e => ?_⟩
      rw [v8, e, Int.add_comm (V h) (V x), Int.add_comm (V l) (V y)]
      exact F.2
  have v7 := v7 key.1
  obtain ⟨k1, k2⟩ := key.2 (by rw [v7])
  have v10 := v10 k1
  have hpq : V p + V q = V a + V d := by omega
  refine ⟨p, q, by simp only [sumP, e1, e2, e3, e4, e5, e6, Option.bind_some], bp, bq, w1, w2, by rw [hpq]; exact v9.symm, ?_⟩
  rw [hpq, show V h + V l + (V x + V y) = V h + V x + (V l + V y) by omega]
  exact k2
end Go.Proofs.Ytlbaphijmonjoaa.Fp

namespace Go.Proofs.Ytlbaphijmonjoaa.Fp
open EP Ieee

theorem sign_mulW (x y : Bool) (u v : Int) (a b : Nat) (hu : u = if x then - (a : Int) else (a : Int)) (hv : v = if y then - (b : Int) else (b : Int)) : u * v = if (x ^^ y) then - ((a * b : Nat) : Int) else ((a * b : Nat) : Int) := by
  subst hu hv
  cases x <;> cases y <;> simp [Int.mul_neg, Int.neg_mul]
theorem sign_nearW (s : Bool) (r M d : Nat) (h1 : 9007199254740992 * (r * d) ≤ 9007199254740992 * M + M + 4503599627370496 * d) (h2 : 9007199254740992 * M ≤ 9007199254740992 * (r * d) + M + 4503599627370496 * d) (v P : Int) (hv : v = if s then - (r : Int) else (r : Int)) (hP : P = if s then - (M : Int) else (M : Int)) : 9007199254740992 * (v * (d : Int) - P).natAbs ≤ P.natAbs + 4503599627370496 * d := by
  subst hv hP
  have e : ((r * d : Nat) : Int) = (r : Int) * (d : Int) := by simp
  cases s
  · simp only [Bool.false_eq_true, if_false]
    rw [← e]
    generalize r * d = q at *
    omega
  · simp only [if_true]
    rw [Int.neg_mul, ← e]
    generalize r * d = q at *
    omega
/-- A product of floats: off by at most 2^-53 of it, and half a least unit. -/
theorem mul_nearW {a b i j k : Nat} (ha : bd a i) (hb : bd b j) (hk : i + j = k + 1074) (hn : k ≤ 2090) (D : Nat) (hD : D = 1074) :
    ∃ r, fo .mul a b = some r ∧ r < 18446744073709551616 ∧ bd r (k + 1) ∧ 9007199254740992 * (V r * ((2 ^ D : Nat) : Int) - V a * V b).natAbs ≤ (V a * V b).natAbs + 4503599627370496 * 2 ^ D := by
  obtain ⟨r0, e0, h1, h2⟩ := mul_bd ha hb hk hn
  obtain ⟨N, hN⟩ : ∃ N : Nat, N = 2097 := ⟨_, rfl⟩
  have hE : (V a * V b).natAbs < 2 ^ (N + D) := by
    have h3 : (V a * V b).natAbs ≤ 2 ^ (i + j) := by rw [Int.natAbs_mul, Nat.pow_add]; exact Nat.mul_le_mul ha.2 hb.2
    exact Nat.lt_of_le_of_lt h3 (Nat.pow_lt_pow_right (by decide) (by omega))
  obtain ⟨m, p, e1, e2, -⟩ := read_fin a ha.1
  obtain ⟨n, q, e3, e4, -⟩ := read_fin b hb.1
  have va := V_mk a m p e2
  have vb := V_mk b n q e4
  have hA : (V a).natAbs = m * 2 ^ p := by rw [va]; split <;> simp only [Int.natAbs_neg, Int.natAbs_natCast]
  have hB : (V b).natAbs = n * 2 ^ q := by rw [vb]; split <;> simp only [Int.natAbs_neg, Int.natAbs_natCast]
  have hM : m * n * 2 ^ (p + q) = (V a * V b).natAbs := by
    rw [Int.natAbs_mul, hA, hB, Nat.pow_add]
    rw [Nat.mul_assoc m n, Nat.mul_assoc m (2 ^ p), Nat.mul_left_comm n]
  obtain ⟨f1, f2, r, f3, f4, f5, -⟩ := near_V (negB a ^^ negB b) (m * n) (-1074 + (p : Int) + (-1074 + (q : Int))) D (p + q) N hN (by rw [hD]; omega) (by rw [hM]; exact hE)
  have hm : Ieee.double.mul a b = some (Ieee.double.nearest (negB a ^^ negB b) (m * n) (-1074 + (p : Int) + (-1074 + (q : Int)))) := by
    unfold Ieee.Format.mul
    rw [e1, e3]
    rfl
  obtain rfl := Option.some.inj (e0.symm.trans hm)
  refine ⟨_, ?_, h1, h2, ?_⟩
  · show (double.mul a b).bind _ = _
    rw [e0]; show (if EP.finB _ then some _ else none) = _; rw [if_pos f1]
  · have hP := sign_mulW (negB a) (negB b) (V a) (V b) _ _ va vb
    have hM2 : m * 2 ^ p * (n * 2 ^ q) = m * n * 2 ^ (p + q) := by rw [hM, Int.natAbs_mul, hA, hB]
    rw [hM2] at hP
    exact sign_nearW _ r _ _ f4 f5 _ _ f3 hP
theorem lo_rel (h l : Int) (fl : Fl l) (hr : G (h + l) = h) : 9007199254740992 * l.natAbs ≤ h.natAbs := by
  have h1 := lo_half h l fl hr
  by_cases hk : kk h = 0
  · rw [hk] at h1
    have : l.natAbs = 0 := by simp at h1; omega
    omega
  · have h2 := kk_ge h (by omega)
    rw [Nat.pow_add, show (2 : Nat) ^ 52 = 4503599627370496 by decide] at h2
    generalize 2 ^ kk h = g at *
    omega
/-- The roundings of a product of pairs, as amounts. -/
theorem dw_prod (X0 X1 X2 X3 C E F G' H I : Int) (d : Nat) (a1 : 9007199254740992 * X1.natAbs ≤ X0.natAbs) (a2 : 9007199254740992 * X2.natAbs ≤ X0.natAbs) (a3 : 9007199254740992 * X3.natAbs ≤ X1.natAbs)
    (b1 : 9007199254740992 * (F - X1).natAbs ≤ X1.natAbs + 4503599627370496 * d) (b2 : 9007199254740992 * (G' - X2).natAbs ≤ X2.natAbs + 4503599627370496 * d) (b3 : 9007199254740992 * (H - (F + G')).natAbs ≤ (F + G').natAbs) (b4 : C + E = X0) (b5 : 9007199254740992 * E.natAbs ≤ X0.natAbs) (b6 : 9007199254740992 * (I - (E + H)).natAbs ≤ (E + H).natAbs)
    (hb : 1606938044258990275541962092341162602522202993782792835301376 * d ≤ X0.natAbs) :
    I.natAbs ≤ C.natAbs ∧ 5070602400912917605986812821504 * (C + I - (X0 + X1 + X2 + X3)).natAbs ≤ (X0 + X1 + X2 + X3).natAbs := by
  have c1 : (F + G').natAbs ≤ X1.natAbs + X2.natAbs + (F - X1).natAbs + (G' - X2).natAbs := by clear a1 a2 a3 b1 b2 b3 b4 b5 b6 hb; omega
  have c2 : (E + H).natAbs ≤ E.natAbs + (F + G').natAbs + (H - (F + G')).natAbs := by clear a1 a2 a3 b1 b2 b3 b4 b5 b6 hb c1; omega
  have c3 : I.natAbs ≤ (E + H).natAbs + (I - (E + H)).natAbs := by clear a1 a2 a3 b1 b2 b3 b4 b5 b6 hb c1 c2; omega
  have c4 : X0.natAbs ≤ C.natAbs + E.natAbs := by clear a1 a2 a3 b1 b2 b3 b5 b6 hb c1 c2 c3; omega
  have c5 : (C + I - (X0 + X1 + X2 + X3)).natAbs ≤ (I - (E + H)).natAbs + (H - (F + G')).natAbs + (F - X1).natAbs + (G' - X2).natAbs + X3.natAbs := by clear a1 a2 a3 b1 b2 b3 b5 b6 hb c1 c2 c3 c4; omega
  have c6 : X0.natAbs ≤ (X0 + X1 + X2 + X3).natAbs + X1.natAbs + X2.natAbs + X3.natAbs := by clear a1 a2 a3 b1 b2 b3 b4 b5 b6 hb c1 c2 c3 c4 c5; omega
  clear b4
  generalize (C + I - (X0 + X1 + X2 + X3)).natAbs = Er at *
  generalize (X0 + X1 + X2 + X3).natAbs = Tt at *
  generalize (I - (E + H)).natAbs = Ai at *
  generalize (H - (F + G')).natAbs = Ah at *
  generalize (F - X1).natAbs = Af at *
  generalize (G' - X2).natAbs = Ag at *
  generalize (F + G').natAbs = Nfg at *
  generalize (E + H).natAbs = Neh at *
  generalize X0.natAbs = N0 at *
  generalize X1.natAbs = N1 at *
  generalize X2.natAbs = N2 at *
  generalize X3.natAbs = N3 at *
  generalize E.natAbs = Ne at *
  generalize I.natAbs = Ni at *
  generalize C.natAbs = Nc at *
  constructor
  · clear c5 c6; omega
  · clear c3 c4; omega
theorem rel_scale (u v : Int) (d : Nat) (h : 9007199254740992 * (u - v).natAbs ≤ v.natAbs) : 9007199254740992 * (u * (d : Int) - v * (d : Int)).natAbs ≤ (v * (d : Int)).natAbs := by
  rw [← Int.sub_mul, Int.natAbs_mul, Int.natAbs_mul, Int.natAbs_natCast, ← Nat.mul_assoc]
  exact Nat.mul_le_mul_right _ h
theorem rel_mul {l h : Int} (x : Int) (hh : 9007199254740992 * l.natAbs ≤ h.natAbs) : 9007199254740992 * (l * x).natAbs ≤ (h * x).natAbs := by
  rw [Int.natAbs_mul, Int.natAbs_mul, ← Nat.mul_assoc]
  exact Nat.mul_le_mul_right _ hh
/-- The product of two pairs: its floats, in their one form, near the exact product. -/
theorem prodP_two {h l x y : Nat} (D : Nat) (hD : D = 1074) (bh : bd h 1374) (bl : bd l 1374) (bx : bd x 1374) (by' : bd y 1374) (hr : G (V h + V l) = V h) (hr' : G (V x + V y) = V x) (hz : V h = 0 ∨ 2 ^ 774 ≤ (V h).natAbs) (hz' : V x = 0 ∨ 2 ^ 774 ≤ (V x).natAbs) :
    ∃ p q, prodP h l x y = some (p, q) ∧ bd p 1800 ∧ bd q 1800 ∧ p < 18446744073709551616 ∧ q < 18446744073709551616 ∧ G (V p + V q) = V p ∧
      5070602400912917605986812821504 * ((V p + V q) * ((2 ^ D : Nat) : Int) - (V h + V l) * (V x + V y)).natAbs ≤ ((V h + V l) * (V x + V y)).natAbs := by
  obtain ⟨E7, hE7⟩ : ∃ E7, E7 = 774 := ⟨_, rfl⟩
  rw [← hE7] at hz hz'
  have up : ∀ z : Int, (z = 0 ∨ 2 ^ E7 ≤ z.natAbs) → ∀ Y : Nat, Y = 674 → z = 0 ∨ 2 ^ Y ≤ z.natAbs := fun z q Y hY => q.imp id (Nat.le_trans (Nat.pow_le_pow_right (by decide) (by omega)))
  obtain ⟨X6, hX6⟩ : ∃ X6, X6 = 674 := ⟨_, rfl⟩
  obtain ⟨A, i, nA⟩ := norm_of h X6 hX6 bh.1 (up _ hz X6 hX6)
  obtain ⟨B, j, nB⟩ := norm_of x X6 hX6 bx.1 (up _ hz' X6 hX6)
  obtain ⟨K, hK⟩ : ∃ K, i + j = K + 1074 := ⟨i + j - 1074, by have := nA.2.2; have := nB.2.2; omega⟩
  obtain ⟨c, e, e1, bc, be, v1, v2, -, -⟩ := twoProd_W (k := 1674) bh bx rfl (by decide) nA nB hK
  obtain ⟨f, e2, -, bf, v3⟩ := mul_nearW (k := 1674) bh by' rfl (by decide) D hD
  obtain ⟨g, e3, -, bg, v4⟩ := mul_nearW (k := 1674) bl bx rfl (by decide) D hD
  obtain ⟨m, e4, -, bm, v5⟩ := fo_G_add bf bg (by decide)
  obtain ⟨n, e5, -, bn, v6⟩ := fo_G_add (be.mono (show 1674 + 80 ≤ 1754 by decide)) (bm.mono (show 1674 + 1 + 2 ≤ 1754 by decide)) (by decide)
  obtain ⟨p, q, e6, bp, bq, v7, v8, w1, w2⟩ := fast_U (bc.mono (show 1674 + 1 ≤ 1756 by decide)) bn (by decide)
  have hprod : (V c + V e) * ((2 ^ D : Nat) : Int) = V h * V x := by
    rw [v1, v2, ← Int.add_mul, show G (A * B) + (A * B - G (A * B)) = A * B by omega, nA.1, nB.1]
    exact (scale2 A B i j K D (by omega)).symm
  have hec : 9007199254740992 * (V e).natAbs ≤ (V c + V e).natAbs := by
    have hg := G_rel (A * B)
    rw [v1, v2, ← Int.add_mul, show G (A * B) + (A * B - G (A * B)) = A * B by omega, Int.natAbs_mul, Int.natAbs_mul, ← Nat.mul_assoc, show (A * B - G (A * B)).natAbs = (G (A * B) - A * B).natAbs by omega]
    exact Nat.mul_le_mul_right _ hg
  have r1 := lo_rel (V h) (V l) (V_fl l bl.1) hr
  have r2 := lo_rel (V x) (V y) (V_fl y by'.1) hr'
  have g5 := G_rel (V f + V g)
  have g6 := G_rel (V e + V m)
  rw [← v5] at g5
  rw [← v6] at g6
  have hdp : 0 < 2 ^ D := Nat.two_pow_pos D
  have key : (V n).natAbs ≤ (V c).natAbs ∧ 5070602400912917605986812821504 * ((V c + V n) * ((2 ^ D : Nat) : Int) - (V h + V l) * (V x + V y)).natAbs ≤ ((V h + V l) * (V x + V y)).natAbs := by
    have hX : (V h + V l) * (V x + V y) = V h * V x + V h * V y + V l * V x + V l * V y := by
      rw [Int.add_mul, Int.mul_add, Int.mul_add]; omega
    by_cases h0 : V h * V x = 0
    · have hall : V h * V y = 0 ∧ V l * V x = 0 ∧ V l * V y = 0 := by
        rcases Int.mul_eq_zero.1 h0 with q0 | q0
        · have hl0 : V l = 0 := by rw [q0] at r1; simp at r1; omega
          rw [q0, hl0]; simp
        · have hy0 : V y = 0 := by rw [q0] at r2; simp at r2; omega
          rw [q0, hy0]; simp
      obtain ⟨z1, z2, z3⟩ := hall
      have hce : V c + V e = 0 := by
        rw [h0] at hprod
        rcases Int.mul_eq_zero.1 hprod with q0 | q0
        · exact q0
        · omega
      have he0 : V e = 0 := by rw [hce] at hec; simp at hec; omega
      have hc0 : V c = 0 := by omega
      have zf : ∀ u : Int, 9007199254740992 * (u * ((2 ^ D : Nat) : Int) - 0).natAbs ≤ (0 : Int).natAbs + 4503599627370496 * 2 ^ D → u = 0 := fun u hu => by
        rw [Int.sub_zero, Int.natAbs_mul, Int.natAbs_natCast] at hu
        simp only [Int.natAbs_zero, Nat.zero_add] at hu
        rcases Nat.eq_zero_or_pos u.natAbs with q0 | q0
        · omega
        · have : 1 * 2 ^ D ≤ u.natAbs * 2 ^ D := Nat.mul_le_mul_right _ q0
          generalize u.natAbs * 2 ^ D = Z at *
          generalize 2 ^ D = d at *
          omega
      rw [z1] at v3
      rw [z2] at v4
      have hf0 := zf _ v3
      have hg0 := zf _ v4
      have hm0 : V m = 0 := by rw [v5, hf0, hg0]; exact G_zero
      have hn0 : V n = 0 := by rw [v6, he0, hm0]; exact G_zero
      rw [hn0, hc0, hX, h0, z1, z2, z3]
      exact ⟨Nat.le_refl _, by simp⟩
    · have hbig : 1606938044258990275541962092341162602522202993782792835301376 * 2 ^ D ≤ (V h * V x).natAbs := by
        have q1 := hz.resolve_left (fun q0 => h0 (by rw [q0, Int.zero_mul]))
        have q2 := hz'.resolve_left (fun q0 => h0 (by rw [q0, Int.mul_zero]))
        rw [Int.natAbs_mul]
        refine Nat.le_trans ?_ (Nat.mul_le_mul q1 q2)
        rw [← Nat.pow_add, show (1606938044258990275541962092341162602522202993782792835301376 : Nat) = 2 ^ 200 by decide, ← Nat.pow_add]
        exact Nat.pow_le_pow_right (by decide) (by omega)
      have F := dw_prod (V h * V x) (V h * V y) (V l * V x) (V l * V y) (V c * ((2 ^ D : Nat) : Int)) (V e * ((2 ^ D : Nat) : Int)) (V f * ((2 ^ D : Nat) : Int)) (V g * ((2 ^ D : Nat) : Int)) (V m * ((2 ^ D : Nat) : Int)) (V n * ((2 ^ D : Nat) : Int)) (2 ^ D)
        (by have := rel_mul (V h) r2; rwa [Int.mul_comm (V y), Int.mul_comm (V x)] at this) (rel_mul (V x) r1) (rel_mul (V y) r1) v3 v4
        (by have := rel_scale (V m) (V f + V g) (2 ^ D) g5; rwa [Int.add_mul] at this) (by rw [← Int.add_mul]; exact hprod)
        (by rw [← hprod, Int.natAbs_mul, Int.natAbs_mul, ← Nat.mul_assoc]; exact Nat.mul_le_mul_right _ hec)
        (by have := rel_scale (V n) (V e + V m) (2 ^ D) g6; rwa [Int.add_mul] at this) hbig
      refine ⟨?_, ?_⟩
      · have := F.1
        rw [Int.natAbs_mul, Int.natAbs_mul, Int.natAbs_natCast] at this
        exact Nat.le_of_mul_le_mul_right this hdp
      · rw [hX, Int.add_mul]; exact F.2
  have v8 := v8 (fast_exact (V c) (V n) (V_fl c bc.1) (V_fl n bn.1) key.1)
  have hpq : V p + V q = V c + V n := by omega
  refine ⟨p, q, by simp only [prodP, e1, e2, e3, e4, e5, e6, Option.bind_some], bp.mono (by decide), bq.mono (by decide), w1, w2, by rw [hpq]; exact v7.symm, ?_⟩
  rw [hpq]
  exact key.2
end Go.Proofs.Ytlbaphijmonjoaa.Fp

namespace Go.Proofs.Ytlbaphijmonjoaa.Fp
open EP Ieee

/-- An odd number of units, at least 54 bits above them: what is lost in rounding leaves room for a whole unit. -/
theorem odd_room (mag P : Nat) (ho : mag % 2 = 1) (hm : 18014398509481984 ≤ mag) : 2 * (G ((mag * 2 ^ P : Nat) : Int) - ((mag * 2 ^ P : Nat) : Int)).natAbs + 2 * 2 ^ P ≤ 2 ^ kk ((mag * 2 ^ P : Nat) : Int) := by
  obtain ⟨T, hT⟩ : ∃ T : Int, T = ((mag * 2 ^ P : Nat) : Int) := ⟨_, rfl⟩
  rw [← hT]
  have hk : P + 2 ≤ kk T := by
    refine Nat.le_of_not_lt fun q => ?_
    have h1 := kk_lt T
    have h2 : 2 ^ (53 + kk T) ≤ 2 ^ (54 + P) := Nat.pow_le_pow_right (by decide) (by omega)
    rw [Nat.pow_add 2 54 P, show (2 : Nat) ^ 54 = 18014398509481984 by decide] at h2
    have h3 : 18014398509481984 * 2 ^ P ≤ mag * 2 ^ P := Nat.mul_le_mul_right _ hm
    rw [hT, Int.natAbs_natCast] at h1
    rw [← hT] at h1
    omega
  obtain ⟨j, hj⟩ : ∃ j, kk T = j + 2 + P := ⟨kk T - 2 - P, by omega⟩
  have hG := G_half T
  obtain ⟨z, hz⟩ := G_dv T
  rw [hj] at hz hG ⊢
  have hg := Nat.two_pow_pos P
  have e2 : (2 : Nat) ^ (j + 2 + P) = 4 * 2 ^ j * 2 ^ P := by rw [Nat.pow_add, Nat.pow_add]; rw [Nat.mul_comm (2 ^ j)]
  rw [e2] at hz hG ⊢
  have e3 : G T - T = (4 * (((2 ^ j : Nat) : Int) * z) - (mag : Int)) * ((2 ^ P : Nat) : Int) := by
    rw [hz, hT, Int.sub_mul]
    congr 1
    · rw [Int.natCast_mul, Int.natCast_mul]
      rw [Int.mul_assoc 4, Int.mul_assoc, Int.mul_assoc, Int.mul_assoc, Int.mul_comm ((2 ^ P : Nat) : Int) z]
      rfl
  rw [e3, Int.natAbs_mul, Int.natAbs_natCast, ← Nat.mul_assoc] at hG
  rw [e3, Int.natAbs_mul, Int.natAbs_natCast, ← Nat.mul_assoc, ← Nat.add_mul]
  have h4 := Nat.le_of_mul_le_mul_right hG hg
  refine Nat.mul_le_mul_right _ ?_
  generalize ((2 ^ j : Nat) : Int) * z = w at *
  generalize 2 ^ j = v at *
  omega
theorem kk_rel (T : Int) (h : 0 < kk T) : 4503599627370496 * 2 ^ kk T ≤ T.natAbs := by
  have := kk_ge T h
  rwa [Nat.pow_add, show (2 : Nat) ^ 52 = 4503599627370496 by decide] at this
/-- The quotient's digits: what they are off. -/
theorem quot_off (M n : Nat) (hn : 0 < n) : (((2 * (M / n) + (M % n != 0).toNat) * n : Nat) : Int) - 2 * (M : Int) = 0 ∨ ((2 * (M / n) + (M % n != 0).toNat) % 2 = 1 ∧ ((((2 * (M / n) + (M % n != 0).toNat) * n : Nat) : Int) - 2 * (M : Int)).natAbs ≤ n) := by
  have h := Nat.div_add_mod M n
  have hlt := Nat.mod_lt M hn
  by_cases h0 : M % n = 0
  · left
    have e : (M % n != 0).toNat = 0 := by rw [h0]; rfl
    rw [e, Nat.add_zero, Nat.mul_assoc, Nat.mul_comm (M / n)]
    omega
  · right
    have e : (M % n != 0).toNat = 1 := by rw [show (M % n != 0) = true by simpa using h0]; rfl
    rw [e]
    refine ⟨by omega, ?_⟩
    rw [Nat.add_mul, Nat.one_mul, Nat.mul_assoc, Nat.mul_comm (M / n)]
    omega
theorem quot_many (m n : Nat) (hm : m ≠ 0) (hm2 : m < 9007199254740992) : 9007199254740992 * n ≤ m * 2 ^ (54 + n.log2 - m.log2) := by
  have h1 : n < 2 ^ (n.log2 + 1) := Nat.lt_log2_self
  have h2 : 2 ^ m.log2 ≤ m := Nat.log2_self_le hm
  have h5 : m.log2 < 53 := (Nat.log2_lt hm).2 hm2
  have h3 : 9007199254740992 * 2 ^ (n.log2 + 1) = 2 ^ m.log2 * 2 ^ (54 + n.log2 - m.log2) := by
    rw [← Nat.pow_add, show (9007199254740992 : Nat) = 2 ^ 53 by decide, ← Nat.pow_add]
    congr 1
    omega
  refine Nat.le_trans (Nat.mul_le_mul_left _ (Nat.le_of_lt h1)) ?_
  rw [h3]
  exact Nat.mul_le_mul_right _ h2
/-- The exact quotient against the digits: all in one unit. -/
theorem quo_lin (T gT : Int) (b ad g : Nat) (h1 : (T * (b : Int) - (ad : Int)) = 0 ∧ 9007199254740992 * (gT - T).natAbs ≤ T.natAbs ∨ (T * (b : Int) - (ad : Int)).natAbs ≤ g * b ∧ 9007199254740992 * ((gT - T).natAbs + g) ≤ T.natAbs) :
    10141204801825835211973625643008 * (gT * (b : Int) - (ad : Int)).natAbs ≤ 1125899906842625 * ad := by
  have e : gT * (b : Int) - (ad : Int) = (gT - T) * (b : Int) + (T * (b : Int) - (ad : Int)) := by rw [Int.sub_mul]; omega
  have tri : (gT * (b : Int) - (ad : Int)).natAbs ≤ (gT - T).natAbs * b + (T * (b : Int) - (ad : Int)).natAbs := by
    rw [e]
    refine Nat.le_trans (Int.natAbs_add_le _ _) ?_
    rw [Int.natAbs_mul, Int.natAbs_natCast]
    exact Nat.le_refl _
  have hTb : T.natAbs * b = (T * (b : Int)).natAbs := by rw [Int.natAbs_mul, Int.natAbs_natCast]
  rcases h1 with ⟨z, h2⟩ | ⟨z, h2⟩
  · have h3 := Nat.mul_le_mul_right b h2
    rw [Nat.mul_assoc, hTb] at h3
    generalize (gT - T).natAbs * b = x at *
    generalize T * (b : Int) = y at *
    omega
  · have h3 := Nat.mul_le_mul_right b h2
    rw [Nat.mul_assoc, Nat.add_mul, hTb] at h3
    generalize (gT - T).natAbs * b = x at *
    generalize g * b = gb at *
    generalize T * (b : Int) = y at *
    omega
set_option maxRecDepth 20000 in
/-- A quotient of floats that are not too small: rounded once. -/
theorem quo_tight (x y N D : Nat) (hN : N = 2097) (hD : D = 1074) (fx : EP.finB x = true) (fy : EP.finB y = true) (X7 X13 : Nat) (hX7 : X7 = 774) (hX13 : X13 = 1374) (hx : 2 ^ X7 ≤ (V x).natAbs) (hx' : (V x).natAbs ≤ 2 ^ X13) (hy : 2 ^ X7 ≤ (V y).natAbs) (hy' : (V y).natAbs ≤ 2 ^ X13) :
    ∃ r, fo .quo x y = some r ∧ r < 18446744073709551616 ∧ EP.finB r = true ∧ 10141204801825835211973625643008 * (V r * V y - V x * ((2 ^ D : Nat) : Int)).natAbs ≤ 1125899906842625 * ((V x).natAbs * 2 ^ D) := by
  obtain ⟨m, p, e1, e2, -⟩ := read_fin x fx
  obtain ⟨n, q, e3, e4, -⟩ := read_fin y fy
  have vx := V_mk x m p e2
  have vy := V_mk y n q e4
  have hX : (V x).natAbs = m * 2 ^ p := by rw [vx]; split <;> simp only [Int.natAbs_neg, Int.natAbs_natCast]
  have hY : (V y).natAbs = n * 2 ^ q := by rw [vy]; split <;> simp only [Int.natAbs_neg, Int.natAbs_natCast]
  have m53 := read_fin2 x fx m p e1
  have n53 := read_fin2 y fy n q e3
  have hp7 := Nat.two_pow_pos X7
  have hm : m ≠ 0 := fun e => by rw [hX, e, Nat.zero_mul] at hx; omega
  have hn : n ≠ 0 := fun e => by rw [hY, e, Nat.zero_mul] at hy; omega
  have hfb : Ieee.double.fractionBits + 2 = 54 := by decide
  obtain ⟨k, hk⟩ : ∃ k, k = 54 + n.log2 - m.log2 := ⟨_, rfl⟩
  have lm : m.log2 < 53 := (Nat.log2_lt hm).2 m53
  have ln : n.log2 < 53 := (Nat.log2_lt hn).2 n53
  have hpp : X7 ≤ p + m.log2 + 1 := by
    refine Nat.le_of_not_lt fun z => ?_
    have h1 : m < 2 ^ (m.log2 + 1) := Nat.lt_log2_self
    have h2 : m * 2 ^ p < 2 ^ (m.log2 + 1) * 2 ^ p := Nat.mul_lt_mul_of_pos_right h1 (Nat.two_pow_pos p)
    rw [← Nat.pow_add] at h2
    have h3 : 2 ^ (m.log2 + 1 + p) ≤ 2 ^ X7 := Nat.pow_le_pow_right (by decide) (by omega)
    omega
  have hqq : q + n.log2 ≤ X13 := by
    refine Nat.le_of_not_lt fun z => ?_
    have h1 : 2 ^ n.log2 ≤ n := Nat.log2_self_le hn
    have h2 : 2 ^ n.log2 * 2 ^ q ≤ n * 2 ^ q := Nat.mul_le_mul_right _ h1
    rw [← Nat.pow_add] at h2
    have h3 : 2 ^ X13 < 2 ^ (n.log2 + q) := Nat.pow_lt_pow_right (by decide) (by omega)
    omega
  obtain ⟨P, hP⟩ : ∃ P, p + D = P + q + k + 1 := ⟨p + D - q - k - 1, by omega⟩
  obtain ⟨M, hM⟩ : ∃ M, M = m * 2 ^ k := ⟨_, rfl⟩
  have hmany : 9007199254740992 * n ≤ M := by rw [hM, hk]; exact quot_many m n hm m53
  obtain ⟨mag, hmag⟩ : ∃ mag, mag = 2 * (M / n) + (M % n != 0).toNat := ⟨_, rfl⟩
  have hbig : 18014398509481984 ≤ mag := by
    have : 9007199254740992 ≤ M / n := (Nat.le_div_iff_mul_le (by omega)).2 hmany
    omega
  have hoff := quot_off M n (by omega)
  rw [← hmag] at hoff
  have hq : Ieee.double.div x y = some (Ieee.double.nearest (negB x ^^ negB y) mag (-1074 + (P : Int))) := by
    unfold Ieee.Format.div
    rw [e1, e3, hfb]
    unfold Ieee.Datum.quotient
    dsimp only
    rw [if_neg hn, Nat.shiftLeft_eq, ← hk, ← hM, ← hmag, show -1074 + (p : Int) - (-1074 + (q : Int)) - (k : Int) - 1 = -1074 + (P : Int) by omega]
    rfl
  -- the digits in least units
  have hTb : mag * 2 ^ P * (V y).natAbs = mag * n * 2 ^ (P + q) := by rw [hY, Nat.pow_add, Nat.mul_assoc, Nat.mul_assoc, Nat.mul_left_comm (2 ^ P)]
  have had : (V x).natAbs * 2 ^ D = 2 * M * 2 ^ (P + q) := by
    rw [hX, hM, Nat.mul_assoc, ← Nat.pow_add, hP, show P + q + k + 1 = k + (P + q) + 1 by omega, Nat.pow_succ, Nat.pow_add 2 k]
    rw [Nat.mul_comm 2, Nat.mul_assoc m, Nat.mul_assoc m]
    congr 1
    rw [Nat.mul_right_comm]
  have hMp : mag * 2 ^ P < 2 ^ N := by
    have h1 : mag ≤ 3 * M := by
      have h2 : mag * n ≤ 3 * M := by
        rcases hoff with z | ⟨-, z⟩ <;> omega
      exact Nat.le_trans (Nat.le_mul_of_pos_right mag (by omega)) h2
    have h3 : M < 2 ^ (53 + k) := by rw [hM, Nat.pow_add]; exact Nat.mul_lt_mul_of_pos_right m53 (Nat.two_pow_pos k)
    have h4 : mag < 2 ^ (55 + k) := by
      have : (2 : Nat) ^ (55 + k) = 4 * 2 ^ (53 + k) := by rw [show 55 + k = (53 + k) + 2 by omega, Nat.pow_add, Nat.mul_comm]
      omega
    have h5 : mag * 2 ^ P < 2 ^ (55 + k) * 2 ^ P := Nat.mul_lt_mul_of_pos_right h4 (Nat.two_pow_pos P)
    rw [← Nat.pow_add] at h5
    refine Nat.lt_of_lt_of_le h5 (Nat.pow_le_pow_right (by decide) ?_)
    have hpx : p + m.log2 ≤ X13 := by
      refine Nat.le_of_not_lt fun z => ?_
      have h1 : 2 ^ m.log2 ≤ m := Nat.log2_self_le hm
      have h2 : 2 ^ m.log2 * 2 ^ p ≤ m * 2 ^ p := Nat.mul_le_mul_right _ h1
      rw [← Nat.pow_add] at h2
      have h3 : 2 ^ X13 < 2 ^ (m.log2 + p) := Nat.pow_lt_pow_right (by decide) (by omega)
      omega
    have hqy : X7 ≤ q + n.log2 + 1 := by
      refine Nat.le_of_not_lt fun z => ?_
      have h1 : n < 2 ^ (n.log2 + 1) := Nat.lt_log2_self
      have h2 : n * 2 ^ q < 2 ^ (n.log2 + 1) * 2 ^ q := Nat.mul_lt_mul_of_pos_right h1 (Nat.two_pow_pos q)
      rw [← Nat.pow_add] at h2
      have h3 : 2 ^ (n.log2 + 1 + q) ≤ 2 ^ X7 := Nat.pow_le_pow_right (by decide) (by omega)
      omega
    omega
  obtain ⟨f1, f2, -⟩ := near_V (negB x ^^ negB y) mag (-1074 + (P : Int)) 0 P N hN (by omega) (by rw [Nat.add_zero]; exact hMp)
  have hmag0 : mag ≠ 0 := by omega
  rw [nearest_rn _ _ _ hmag0] at hq f1 f2
  obtain ⟨T, hT⟩ : ∃ T : Int, T = ((mag * 2 ^ P : Nat) : Int) := ⟨_, rfl⟩
  have hV : V (double.word (negB x ^^ negB y) (min (rn (mag * 2 ^ P)) 9218868437227405312)) = if (negB x ^^ negB y) then - G T else G T := by
    by_cases hi : rn (mag * 2 ^ P) < 9218868437227405312
    · rw [Nat.min_eq_left (by omega), (word_V (negB x ^^ negB y) _ hi).2.1]
      unfold G
      rw [if_neg (show ¬ T < 0 by omega), show T.natAbs = mag * 2 ^ P by rw [hT, Int.natAbs_natCast]]
    · rw [Nat.min_eq_right (by omega)] at f1
      exfalso
      revert f1
      cases (negB x ^^ negB y) <;> decide
  refine ⟨_, ?_, f2, f1, ?_⟩
  · show (double.div x y).bind _ = _
    rw [hq]; show (if EP.finB _ then some _ else none) = _; rw [if_pos f1]
  · have hcore := quo_lin T (G T) (V y).natAbs ((V x).natAbs * 2 ^ D) (2 ^ P) (by
      rw [hT, ← Int.natCast_mul, hTb, had]
      rcases hoff with z | ⟨ho, z⟩
      · left
        refine ⟨?_, ?_⟩
        · have : mag * n = 2 * M := by omega
          rw [this]; omega
        · have := G_rel ((mag * 2 ^ P : Nat) : Int)
          exact this
      · right
        refine ⟨?_, ?_⟩
        · have e : ((mag * n * 2 ^ (P + q) : Nat) : Int) - ((2 * M * 2 ^ (P + q) : Nat) : Int) = (((mag * n : Nat) : Int) - 2 * (M : Int)) * ((2 ^ (P + q) : Nat) : Int) := by
            rw [Int.natCast_mul (mag * n), Int.natCast_mul (2 * M), Int.sub_mul]
            rfl
          rw [e, Int.natAbs_mul, Int.natAbs_natCast, hY, ← Nat.mul_assoc, Nat.mul_comm (2 ^ P) n, Nat.mul_assoc n, ← Nat.pow_add]
          exact Nat.mul_le_mul_right _ z
        · have h1 := odd_room mag P ho hbig
          have h2 := kk_rel ((mag * 2 ^ P : Nat) : Int) (by
            refine Nat.pos_of_ne_zero fun z0 => ?_
            rw [z0] at h1
            have := Nat.two_pow_pos P
            simp at h1
            omega)
          generalize 2 ^ kk ((mag * 2 ^ P : Nat) : Int) = Z at *
          generalize ((mag * 2 ^ P : Nat) : Int) = T' at *
          omega)
    rw [hV]
    have hsx : V x = if negB x then -((V x).natAbs : Int) else ((V x).natAbs : Int) := by rw [hX]; exact vx
    have hsy : V y = if negB y then -((V y).natAbs : Int) else ((V y).natAbs : Int) := by rw [hY]; exact vy
    generalize (V x).natAbs = ax at *
    generalize (V y).natAbs = ay at *
    rw [hsx, hsy]
    refine Nat.le_trans (Nat.mul_le_mul_left _ (Nat.le_of_eq ?_)) hcore
    rw [Int.natCast_mul ax]
    generalize ((2 ^ D : Nat) : Int) = d at *
    cases negB x <;> cases negB y <;> simp only [Bool.false_xor, Bool.true_xor, Bool.not_false, Bool.not_true, Bool.false_eq_true, if_true, if_false, Int.neg_mul, Int.mul_neg, Int.neg_neg] <;> omega
end Go.Proofs.Ytlbaphijmonjoaa.Fp

namespace Go.Proofs.Ytlbaphijmonjoaa.Fp
open EP Ieee

/-- A float as a number of 53 bits times a power of 2 (or 0). -/
def Nm2 (a : Nat) (A : Int) (i : Nat) : Prop := V a = A * ((2 ^ i : Nat) : Int) ∧ (A = 0 ∨ (4503599627370496 ≤ A.natAbs ∧ A.natAbs < 9007199254740992)) ∧ 100 ≤ i
theorem norm2_of (a X : Nat) (hX : 152 ≤ X) (fa : EP.finB a = true) (h : 2 ^ X ≤ (V a).natAbs) : ∃ A i, Nm2 a A i ∧ X ≤ i + 52 ∧ (V a).natAbs < 2 ^ (53 + i) := by
  have hk : X ≤ kk (V a) + 52 := by
    have h1 := kk_lt (V a)
    refine Nat.le_of_not_lt fun q => ?_
    have h2 : 2 ^ (53 + kk (V a)) ≤ 2 ^ X := Nat.pow_le_pow_right (by decide) (by omega)
    omega
  obtain ⟨A, hA⟩ := fl_dv (V_fl a fa)
  have h1 := kk_lt (V a)
  have h2 := kk_ge (V a) (by omega)
  have h0 := h1
  generalize kk (V a) = i at *
  have hp := pow2_pos i
  have e : (V a).natAbs = A.natAbs * 2 ^ i := by rw [hA, Int.natAbs_mul, Int.natAbs_natCast, Nat.mul_comm]
  rw [e, p53] at h1
  rw [e, Nat.pow_add, show (2 : Nat) ^ 52 = 4503599627370496 by decide] at h2
  exact ⟨A, i, ⟨by rw [hA, Int.mul_comm], .inr ⟨Nat.le_of_mul_le_mul_right h2 hp, Nat.lt_of_mul_lt_mul_right h1⟩, by omega⟩, hk, h0⟩
theorem split_W2 {a n i : Nat} {A : Int} (ha : bd a n) (hn : n ≤ 2040) (hN : Nm2 a A i) : ∃ h l, splitO a = some (h, l) ∧ bd h (n + 33) ∧ bd l (n + 35) ∧ V h = hiX A * ((2 ^ i : Nat) : Int) ∧ V l = loX A * ((2 ^ i : Nat) : Int) ∧ h < 18446744073709551616 ∧ l < 18446744073709551616 := by
  obtain ⟨hv, hA, hi⟩ := hN
  obtain ⟨D, hD⟩ : ∃ D : Nat, D = 1074 := ⟨_, rfl⟩
  have hmul : V 4728779608772575232 * V a = 134217729 * V a * ((2 ^ D : Nat) : Int) := by
    rw [splitter_V D hD, Int.mul_assoc, Int.mul_comm ((2 ^ D : Nat) : Int), ← Int.mul_assoc]
  obtain ⟨c, e1, q1, b1, g1⟩ := fo_G_mul (k := n + 28) (x := 26 + D) (y := i) splitter_bd ha (by omega) (by omega) (134217729 * V a) D hD hmul (by
    rcases hA with z | z
    · right; left; rw [hv, z, Int.zero_mul]
    · right; right
      refine ⟨?_, ?_, by omega⟩
      · rw [splitter_V D hD, Int.natAbs_mul, Int.natAbs_natCast, Nat.pow_add]
        exact Nat.mul_le_mul_right _ (by decide)
      · rw [hv, Int.natAbs_mul, Int.natAbs_natCast]
        exact Nat.le_mul_of_pos_left _ (by omega))
  obtain ⟨x, e2, q2, b2, g2⟩ := fo_G_sub b1 (ha.mono (by omega)) (by omega)
  obtain ⟨h, e3, q3, b3, g3⟩ := fo_G_sub (b1.mono (by omega)) b2 (by omega)
  obtain ⟨l, e4, q4, b4, g4⟩ := fo_G_sub (ha.mono (by omega)) b3 (by omega)
  have s1 : V c = G (134217729 * A) * ((2 ^ i : Nat) : Int) := by rw [g1, hv, ← Int.mul_assoc, G_scale]
  have s2 : V x = G (G (134217729 * A) - A) * ((2 ^ i : Nat) : Int) := by rw [g2, s1, hv, ← Int.sub_mul, G_scale]
  have s3 : V h = hiX A * ((2 ^ i : Nat) : Int) := by rw [g3, s1, s2, ← Int.sub_mul, G_scale]; rfl
  have s4 : V l = loX A * ((2 ^ i : Nat) : Int) := by rw [g4, s3, hv, ← Int.sub_mul, G_scale]; rfl
  exact ⟨h, l, by simp only [splitO, e1, e2, e3, e4, Option.bind_some], b3, b4, s3, s4, q3, q4⟩
theorem twoProd_W2 {a b n n2 k i j K : Nat} {A B : Int} (ha : bd a n) (hb : bd b n2) (hk : n + n2 = k + 1074) (hn1 : n ≤ 2000) (hn2 : n2 ≤ 2000) (hn : k ≤ 2000) (hA : Nm2 a A i) (hB : Nm2 b B j) (hK : i + j = K + 1074) (hij : 1178 ≤ i + j) : ∃ p e, twoProdO a b = some (p, e) ∧ bd p (k + 1) ∧ bd e (k + 80) ∧ V p = G (A * B) * ((2 ^ K : Nat) : Int) ∧ V e = (A * B - G (A * B)) * ((2 ^ K : Nat) : Int) ∧ p < 18446744073709551616 ∧ e < 18446744073709551616 := by
  obtain ⟨D, hD⟩ : ∃ D : Nat, D = 1074 := ⟨_, rfl⟩
  have hKD : i + j = K + D := by omega
  obtain ⟨p, e1, q1, b1, g1⟩ := fo_G_mul (x := i) (y := j) ha hb hk (by omega) (A * B * ((2 ^ K : Nat) : Int)) D hD (by rw [hA.1, hB.1]; exact scale2 A B i j K D hKD) (by rw [hA.1, hB.1]; exact low_or A B i j hij)
  obtain ⟨h, l, e2, b2, b3, v1, v2, -, -⟩ := split_W2 ha (by omega) hA
  obtain ⟨m, n', e3, b4, b5, v3, v4, -, -⟩ := split_W2 hb (by omega) hB
  replace b2 := b2.mono (n := n + 35) (by omega)
  replace b4 := b4.mono (n := n2 + 35) (by omega)
  obtain ⟨hm, e4, q2, c1, g4⟩ := fo_G_mul (k := k + 70) (x := i) (y := j) b2 b4 (by omega) (by omega) (hiX A * hiX B * ((2 ^ K : Nat) : Int)) D hD (by rw [v1, v3]; exact scale2 _ _ i j K D hKD) (by rw [v1, v3]; exact low_or _ _ i j hij)
  obtain ⟨x, e5, q3, c2, g5⟩ := fo_G_sub (b1.mono (by omega)) c1 (by omega)
  obtain ⟨lm, e6, q4, c3, g6⟩ := fo_G_mul (k := k + 70) (x := i) (y := j) b3 b4 (by omega) (by omega) (loX A * hiX B * ((2 ^ K : Nat) : Int)) D hD (by rw [v2, v3]; exact scale2 _ _ i j K D hKD) (by rw [v2, v3]; exact low_or _ _ i j hij)
  obtain ⟨y, e7, q5, c4, g7⟩ := fo_G_sub c2 (c3.mono (by omega)) (by omega)
  obtain ⟨hn', e8, q6, c5, g8⟩ := fo_G_mul (k := k + 70) (x := i) (y := j) b2 b5 (by omega) (by omega) (hiX A * loX B * ((2 ^ K : Nat) : Int)) D hD (by rw [v1, v4]; exact scale2 _ _ i j K D hKD) (by rw [v1, v4]; exact low_or _ _ i j hij)
  obtain ⟨z, e9, q7, c6, g9⟩ := fo_G_sub c4 (c5.mono (by omega)) (by omega)
  obtain ⟨ln, e10, q8, c7, g10⟩ := fo_G_mul (k := k + 70) (x := i) (y := j) b3 b5 (by omega) (by omega) (loX A * loX B * ((2 ^ K : Nat) : Int)) D hD (by rw [v2, v4]; exact scale2 _ _ i j K D hKD) (by rw [v2, v4]; exact low_or _ _ i j hij)
  obtain ⟨e, e11, q9, c8, g11⟩ := fo_G_sub (c7.mono (by omega)) c6 (by omega)
  have t1 : V p = G (A * B) * ((2 ^ K : Nat) : Int) := by rw [g1, G_scale]
  refine ⟨p, e, by simp only [twoProdO, e1, e2, e3, e4, e5, e6, e7, e8, e9, e10, e11, Option.bind_some], b1, c8.mono (by omega), t1, ?_, q1, q9⟩
  rw [g11, g10, g9, g8, g7, g6, g5, g4, t1, G_scale, G_scale, G_scale, G_scale, ← Int.sub_mul, G_scale, ← Int.sub_mul, G_scale, ← Int.sub_mul, G_scale, ← Int.sub_mul, G_scale]
  rw [← prod_XZ A B hA.2.1 hB.2.1]
  rfl


/-- In general: off by three halves of 2^-53 of it, and half a least unit. -/
theorem crude_lin (r b ad n E W2 Dd : Nat) (c : Nat) (hc : 0 < c) (hDn : Dd * n = c * b) (hoff : ((E * n : Nat) : Int) - ((c * ad : Nat) : Int) = 0 ∨ (((E * n : Nat) : Int) - ((c * ad : Nat) : Int)).natAbs ≤ W2) (hW : 18014398509481984 * W2 ≤ c * ad)
    (f4 : 9007199254740992 * (r * Dd) ≤ 9007199254740992 * E + E + 4503599627370496 * Dd) (f5 : 9007199254740992 * E ≤ 9007199254740992 * (r * Dd) + E + 4503599627370496 * Dd) :
    20282409603651670423947251286016 * (((r * b : Nat) : Int) - (ad : Int)).natAbs ≤ 3377699720527873 * ad + 10141204801825835211973625643008 * b := by
  have g4 := Nat.mul_le_mul_right n f4
  have g5 := Nat.mul_le_mul_right n f5
  have e1 : r * (Dd * n) = c * (r * b) := by rw [hDn, Nat.mul_left_comm]
  simp only [Nat.add_mul, Nat.mul_assoc] at g4 g5
  rw [e1, hDn] at g4 g5
  have key : 20282409603651670423947251286016 * (((c * (r * b) : Nat) : Int) - ((c * ad : Nat) : Int)).natAbs ≤ 3377699720527873 * (c * ad) + 10141204801825835211973625643008 * (c * b) := by
    generalize c * (r * b) = x at *
    generalize c * ad = y at *
    generalize c * b = z at *
    generalize E * n = w at *
    rcases hoff with q | q <;> omega
  have e2 : ((c * (r * b) : Nat) : Int) - ((c * ad : Nat) : Int) = (c : Int) * (((r * b : Nat) : Int) - (ad : Int)) := by rw [Int.natCast_mul c, Int.natCast_mul c, Int.mul_sub]
  rw [e2, Int.natAbs_mul, Int.natAbs_natCast, Nat.mul_left_comm, Nat.mul_left_comm _ c, Nat.mul_left_comm _ c, ← Nat.mul_add] at key
  exact Nat.le_of_mul_le_mul_left key hc
set_option maxRecDepth 20000 in
theorem quo_crude (x y N T : Nat) (hN : N = 2097) (hT : T = 1074) (fx : EP.finB x = true) (fy : EP.finB y = true) (h0 : 0 < (V y).natAbs) (hov : 3 * ((V x).natAbs * 2 ^ T) < 2 ^ N * (V y).natAbs) :
    ∃ r, fo .quo x y = some r ∧ r < 18446744073709551616 ∧ EP.finB r = true ∧ 20282409603651670423947251286016 * (V r * V y - V x * ((2 ^ T : Nat) : Int)).natAbs ≤ 3377699720527873 * ((V x).natAbs * 2 ^ T) + 10141204801825835211973625643008 * (V y).natAbs := by
  obtain ⟨m, p, e1, e2, -⟩ := read_fin x fx
  obtain ⟨n, q, e3, e4, -⟩ := read_fin y fy
  have vx := V_mk x m p e2
  have vy := V_mk y n q e4
  have hX : (V x).natAbs = m * 2 ^ p := by rw [vx]; split <;> simp only [Int.natAbs_neg, Int.natAbs_natCast]
  have hY : (V y).natAbs = n * 2 ^ q := by rw [vy]; split <;> simp only [Int.natAbs_neg, Int.natAbs_natCast]
  have m53 := read_fin2 x fx m p e1
  have hn : n ≠ 0 := fun e => by rw [hY, e, Nat.zero_mul] at h0; omega
  have hfb : Ieee.double.fractionBits + 2 = 54 := by decide
  obtain ⟨k, hk⟩ : ∃ k, k = 54 + n.log2 - m.log2 := ⟨_, rfl⟩
  obtain ⟨M, hM⟩ : ∃ M, M = m * 2 ^ k := ⟨_, rfl⟩
  obtain ⟨mag, hmag⟩ : ∃ mag, mag = 2 * (M / n) + (M % n != 0).toNat := ⟨_, rfl⟩
  have hoff := quot_off M n (by omega)
  rw [← hmag] at hoff
  obtain ⟨Dd, hD⟩ : ∃ d, d = q + k + 1 := ⟨_, rfl⟩
  obtain ⟨P, hP⟩ : ∃ d, d = p + T := ⟨_, rfl⟩
  have hq : Ieee.double.div x y = some (Ieee.double.nearest (negB x ^^ negB y) mag (-1074 + (p : Int) - (-1074 + (q : Int)) - (k : Int) - 1)) := by
    unfold Ieee.Format.div
    rw [e1, e3, hfb]
    unfold Ieee.Datum.quotient
    dsimp only
    rw [if_neg hn, Nat.shiftLeft_eq, ← hk, ← hM, ← hmag]
    rfl
  have hc : 2 * M * 2 ^ P = 2 * 2 ^ k * ((V x).natAbs * 2 ^ T) := by
    rw [hX, hM, hP, Nat.pow_add, Nat.mul_assoc 2, Nat.mul_assoc 2]
    congr 1
    rw [Nat.mul_comm m (2 ^ k), Nat.mul_assoc, Nat.mul_assoc m]
  have hDn : 2 ^ Dd * n = 2 * 2 ^ k * (V y).natAbs := by
    rw [hY, hD, Nat.pow_succ, Nat.pow_add, Nat.mul_assoc 2, Nat.mul_comm (2 ^ q * 2 ^ k * 2) n, Nat.mul_comm (2 ^ q * 2 ^ k) 2, Nat.mul_left_comm n 2, Nat.mul_comm (2 ^ q) (2 ^ k), Nat.mul_left_comm n (2 ^ k)]
  have hmn : m ≠ 0 → 9007199254740992 * n ≤ M := fun hm => by rw [hM, hk]; exact quot_many m n hm m53
  have hM0 : m = 0 → M = 0 ∧ mag = 0 := fun e => by
    have : M = 0 := by rw [hM, e, Nat.zero_mul]
    refine ⟨this, ?_⟩
    rw [hmag, this, Nat.zero_div, Nat.zero_mod]; rfl
  have hEn : ((mag * 2 ^ P * n : Nat) : Int) - ((2 * 2 ^ k * ((V x).natAbs * 2 ^ T) : Nat) : Int) = 0 ∨ (((mag * 2 ^ P * n : Nat) : Int) - ((2 * 2 ^ k * ((V x).natAbs * 2 ^ T) : Nat) : Int)).natAbs ≤ n * 2 ^ P ∧ m ≠ 0 := by
    rw [← hc, Nat.mul_right_comm mag]
    have e : ((mag * n * 2 ^ P : Nat) : Int) - ((2 * M * 2 ^ P : Nat) : Int) = (((mag * n : Nat) : Int) - 2 * (M : Int)) * ((2 ^ P : Nat) : Int) := by
      rw [Int.natCast_mul (mag * n), Int.natCast_mul (2 * M), Int.sub_mul]
      rfl
    rw [e]
    by_cases hm : m = 0
    · left
      obtain ⟨z1, z2⟩ := hM0 hm
      rw [z1, z2]; simp
    · rcases hoff with z | ⟨-, z⟩
      · left; rw [z, Int.zero_mul]
      · right
        refine ⟨?_, hm⟩
        rw [Int.natAbs_mul, Int.natAbs_natCast]
        exact Nat.mul_le_mul_right _ z
  have hlt : mag * 2 ^ P < 2 ^ (N + Dd) := by
    have hnp : 0 < n := by omega
    refine Nat.lt_of_mul_lt_mul_right (a := n) ?_
    rw [Nat.pow_add, Nat.mul_assoc (2 ^ N), hDn]
    have h5 := Nat.mul_lt_mul_of_pos_left hov (pow2_pos k)
    have e7 : 2 ^ N * (2 * 2 ^ k * (V y).natAbs) = 2 * (2 ^ k * (2 ^ N * (V y).natAbs)) := by
      rw [Nat.mul_assoc 2, Nat.mul_left_comm (2 ^ N) 2, Nat.mul_left_comm (2 ^ N) (2 ^ k)]
    have e8 : 2 ^ k * (3 * ((V x).natAbs * 2 ^ T)) = 3 * (2 ^ k * ((V x).natAbs * 2 ^ T)) := Nat.mul_left_comm _ _ _
    have e9 : 2 * 2 ^ k * ((V x).natAbs * 2 ^ T) = 2 * (2 ^ k * ((V x).natAbs * 2 ^ T)) := Nat.mul_assoc _ _ _
    rw [e7]
    rw [e8] at h5
    rw [e9] at hEn hc
    have hsm : m ≠ 0 → n * 2 ^ P ≤ 2 ^ k * ((V x).natAbs * 2 ^ T) := fun hm => by
      have h6 := Nat.mul_le_mul_right (2 ^ P) (hmn hm)
      rw [Nat.mul_assoc] at h6
      have h7 : M * 2 ^ P = 2 ^ k * ((V x).natAbs * 2 ^ T) := by rw [Nat.mul_assoc] at hc; omega
      omega
    generalize mag * 2 ^ P * n = w at *
    generalize 2 ^ k * ((V x).natAbs * 2 ^ T) = z at *
    generalize 2 ^ k * (2 ^ N * (V y).natAbs) = v at *
    rcases hEn with q | ⟨q, hm⟩
    · omega
    · have := hsm hm
      omega
  obtain ⟨f1, f2, r, f3, f4, f5, -⟩ := near_V (negB x ^^ negB y) mag (-1074 + (p : Int) - (-1074 + (q : Int)) - (k : Int) - 1) Dd P N hN (by rw [hD, hP, hT]; omega) hlt
  refine ⟨_, ?_, f2, f1, ?_⟩
  · show (double.div x y).bind _ = _
    rw [hq]; show (if EP.finB _ then some _ else none) = _; rw [if_pos f1]
  · have hcore := crude_lin r (V y).natAbs ((V x).natAbs * 2 ^ T) n (mag * 2 ^ P) (if m = 0 then 0 else n * 2 ^ P) (2 ^ Dd) (2 * 2 ^ k) (by have := pow2_pos k; omega) hDn
      (by
        rcases hEn with z | ⟨z, hm⟩
        · exact .inl z
        · exact .inr (by rw [if_neg hm]; exact z))
      (by
        by_cases hm : m = 0
        · rw [if_pos hm]; omega
        · rw [if_neg hm, ← hc]
          have h6 := Nat.mul_le_mul_right (2 ^ P) (hmn hm)
          rw [Nat.mul_assoc] at h6
          rw [Nat.mul_assoc 2]
          generalize n * 2 ^ P = u at *
          generalize M * 2 ^ P = v at *
          omega) f4 f5
    rw [f3]
    have hsx : V x = if negB x then -((V x).natAbs : Int) else ((V x).natAbs : Int) := by rw [hX]; exact vx
    have hsy : V y = if negB y then -((V y).natAbs : Int) else ((V y).natAbs : Int) := by rw [hY]; exact vy
    generalize (V x).natAbs = ax at *
    generalize (V y).natAbs = ay at *
    rw [hsx, hsy]
    refine Nat.le_trans (Nat.mul_le_mul_left _ (Nat.le_of_eq ?_)) hcore
    rw [Int.natCast_mul ax, Int.natCast_mul r]
    generalize ((2 ^ T : Nat) : Int) = d at *
    cases negB x <;> cases negB y <;> simp only [Bool.false_xor, Bool.true_xor, Bool.not_false, Bool.not_true, Bool.false_eq_true, if_true, if_false, Int.neg_mul, Int.mul_neg, Int.neg_neg] <;> omega
end Go.Proofs.Ytlbaphijmonjoaa.Fp

namespace Go.Proofs.Ytlbaphijmonjoaa.Fp
open EP Ieee

theorem dq1 (C E F Q0 Q1 X : Int) (d : Nat) (h1 : C + E = Q0) (h2 : 9007199254740992 * E.natAbs ≤ Q0.natAbs) (h3 : 9007199254740992 * (F - Q1).natAbs ≤ Q1.natAbs + 4503599627370496 * d) (h4 : 9007199254740992 * Q1.natAbs ≤ Q0.natAbs) (h5 : 10141204801825835211973625643008 * (Q0 - X).natAbs ≤ 1125899906842625 * X.natAbs) (h6 : 1606938044258990275541962092341162602522202993782792835301376 * d ≤ X.natAbs) : F.natAbs ≤ C.natAbs := by
  have t1 : Q0.natAbs ≤ C.natAbs + E.natAbs := by clear h2 h3 h4 h5 h6; omega
  have t2 : F.natAbs ≤ Q1.natAbs + (F - Q1).natAbs := by clear h2 h3 h4 h5 h6 t1; omega
  have t3 : X.natAbs ≤ Q0.natAbs + (Q0 - X).natAbs := by clear h2 h3 h4 h5 h6 t1 t2; omega
  clear h1
  generalize (F - Q1).natAbs = N0 at *
  generalize (Q0 - X).natAbs = N1 at *
  generalize Q0.natAbs = N2 at *
  generalize Q1.natAbs = N3 at *
  generalize C.natAbs = N4 at *
  generalize E.natAbs = N5 at *
  generalize F.natAbs = N6 at *
  generalize X.natAbs = N7 at *
  omega
theorem dq2 (C E F Q0 Q1 X A1 B1 D1 : Int) (d : Nat) (h1 : C + E = Q0) (h2 : 9007199254740992 * E.natAbs ≤ Q0.natAbs) (h3 : 9007199254740992 * (F - Q1).natAbs ≤ Q1.natAbs + 4503599627370496 * d) (h4 : 9007199254740992 * Q1.natAbs ≤ Q0.natAbs) (h5 : 10141204801825835211973625643008 * (Q0 - X).natAbs ≤ 1125899906842625 * X.natAbs) (h6 : 1606938044258990275541962092341162602522202993782792835301376 * d ≤ X.natAbs) (h7 : A1 + B1 = C + F) (h8 : 9007199254740992 * B1.natAbs ≤ (C + F).natAbs) (h9 : 9007199254740992 * (D1 - (B1 + E)).natAbs ≤ (B1 + E).natAbs) : D1.natAbs ≤ A1.natAbs := by
  have t2 : F.natAbs ≤ Q1.natAbs + (F - Q1).natAbs := by clear h2 h3 h4 h5 h6 h8 h9; omega
  have t3 : X.natAbs ≤ Q0.natAbs + (Q0 - X).natAbs := by clear h2 h3 h4 h5 h6 h8 h9 t2; omega
  have t4 : Q0.natAbs ≤ (C + F).natAbs + E.natAbs + F.natAbs := by clear h2 h3 h4 h5 h6 h8 h9 t2 t3; omega
  have t5 : (C + F).natAbs ≤ Q0.natAbs + E.natAbs + F.natAbs := by clear h2 h3 h4 h5 h6 h8 h9 t2 t3 t4; omega
  have t6 : (C + F).natAbs ≤ A1.natAbs + B1.natAbs := by clear h2 h3 h4 h5 h6 h8 h9 t2 t3 t4 t5; omega
  have t7 : D1.natAbs ≤ B1.natAbs + E.natAbs + (D1 - (B1 + E)).natAbs := by clear h2 h3 h4 h5 h6 h8 h9 t2 t3 t4 t5 t6; omega
  have t8 : (B1 + E).natAbs ≤ B1.natAbs + E.natAbs := by clear h2 h3 h4 h5 h6 h8 h9 t2 t3 t4 t5 t6 t7; omega
  clear h1 h7
  generalize (D1 - (B1 + E)).natAbs = N0 at *
  generalize (B1 + E).natAbs = N1 at *
  generalize (F - Q1).natAbs = N2 at *
  generalize (Q0 - X).natAbs = N3 at *
  generalize (C + F).natAbs = N4 at *
  generalize A1.natAbs = N5 at *
  generalize B1.natAbs = N6 at *
  generalize D1.natAbs = N7 at *
  generalize Q0.natAbs = N8 at *
  generalize Q1.natAbs = N9 at *
  generalize E.natAbs = N10 at *
  generalize F.natAbs = N11 at *
  generalize X.natAbs = N12 at *
  omega
theorem dq3 (C E F Q0 Q1 X A1 B1 D1 R1 R2 : Int) (d : Nat) (h1 : C + E = Q0) (h2 : 9007199254740992 * E.natAbs ≤ Q0.natAbs) (h3 : 9007199254740992 * (F - Q1).natAbs ≤ Q1.natAbs + 4503599627370496 * d) (h4 : 9007199254740992 * Q1.natAbs ≤ Q0.natAbs) (h5 : 10141204801825835211973625643008 * (Q0 - X).natAbs ≤ 1125899906842625 * X.natAbs) (h6 : 1606938044258990275541962092341162602522202993782792835301376 * d ≤ X.natAbs) (h7 : A1 + B1 = C + F) (h8 : 9007199254740992 * B1.natAbs ≤ (C + F).natAbs) (h9 : 9007199254740992 * (D1 - (B1 + E)).natAbs ≤ (B1 + E).natAbs) (h10 : R1 + R2 = A1 + D1) (h11 : 9007199254740992 * R2.natAbs ≤ (A1 + D1).natAbs) (hd : 0 < d) : 2 * (X - R1).natAbs < R1.natAbs := by
  have t2 : F.natAbs ≤ Q1.natAbs + (F - Q1).natAbs := by clear h2 h3 h4 h5 h6 h8 h9 h11 hd; omega
  have t3 : Q0.natAbs ≤ X.natAbs + (Q0 - X).natAbs := by clear h2 h3 h4 h5 h6 h8 h9 h11 hd t2; omega
  have t5 : (C + F).natAbs ≤ Q0.natAbs + E.natAbs + F.natAbs := by clear h2 h3 h4 h5 h6 h8 h9 h11 hd t2 t3; omega
  have t8 : (B1 + E).natAbs ≤ B1.natAbs + E.natAbs := by clear h2 h3 h4 h5 h6 h8 h9 h11 hd t2 t3 t5; omega
  have t9 : (A1 + D1).natAbs ≤ Q0.natAbs + F.natAbs + (D1 - (B1 + E)).natAbs := by clear h2 h3 h4 h5 h6 h8 h9 h11 hd t2 t3 t5 t8; omega
  have s1 : (X - R1).natAbs ≤ (Q0 - X).natAbs + F.natAbs + (D1 - (B1 + E)).natAbs + R2.natAbs := by clear h2 h3 h4 h5 h6 h8 h9 h11 hd t2 t3 t5 t8 t9; omega
  have s2 : X.natAbs ≤ R1.natAbs + (X - R1).natAbs := by clear h2 h3 h4 h5 h6 h8 h9 h11 hd t2 t3 t5 t8 t9 s1; omega
  clear h1 h7 h10
  generalize (D1 - (B1 + E)).natAbs = N0 at *
  generalize (A1 + D1).natAbs = N1 at *
  generalize (X - R1).natAbs = N2 at *
  generalize (B1 + E).natAbs = N3 at *
  generalize (F - Q1).natAbs = N4 at *
  generalize (Q0 - X).natAbs = N5 at *
  generalize (C + F).natAbs = N6 at *
  generalize R1.natAbs = N7 at *
  generalize R2.natAbs = N8 at *
  generalize B1.natAbs = N9 at *
  generalize Q0.natAbs = N10 at *
  generalize Q1.natAbs = N11 at *
  generalize E.natAbs = N12 at *
  generalize F.natAbs = N13 at *
  generalize X.natAbs = N14 at *
  omega
theorem dq4 (C E F Q0 Q1 X A1 B1 D1 R1 R2 Xl Be Ga : Int) (d : Nat) (h1 : C + E = Q0) (h2 : 9007199254740992 * E.natAbs ≤ Q0.natAbs) (h3 : 9007199254740992 * (F - Q1).natAbs ≤ Q1.natAbs + 4503599627370496 * d) (h4 : 9007199254740992 * Q1.natAbs ≤ Q0.natAbs) (h5 : 10141204801825835211973625643008 * (Q0 - X).natAbs ≤ 1125899906842625 * X.natAbs) (h6 : 1606938044258990275541962092341162602522202993782792835301376 * d ≤ X.natAbs) (h7 : A1 + B1 = C + F) (h8 : 9007199254740992 * B1.natAbs ≤ (C + F).natAbs) (h9 : 9007199254740992 * (D1 - (B1 + E)).natAbs ≤ (B1 + E).natAbs) (h10 : R1 + R2 = A1 + D1) (h11 : 9007199254740992 * R2.natAbs ≤ (A1 + D1).natAbs) (h12 : 9007199254740992 * (Be - (Xl - R2)).natAbs ≤ (Xl - R2).natAbs) (h13 : 9007199254740992 * Xl.natAbs ≤ X.natAbs) (h14 : 9007199254740992 * (Ga - (X - R1 + Be)).natAbs ≤ (X - R1 + Be).natAbs) : 1125899906842624 * Ga.natAbs ≤ X.natAbs := by
  have t2 : F.natAbs ≤ Q1.natAbs + (F - Q1).natAbs := by clear h2 h3 h4 h5 h6 h8 h9 h11 h12 h13 h14; omega
  have t3 : Q0.natAbs ≤ X.natAbs + (Q0 - X).natAbs := by clear h2 h3 h4 h5 h6 h8 h9 h11 h12 h13 h14 t2; omega
  have t5 : (C + F).natAbs ≤ Q0.natAbs + E.natAbs + F.natAbs := by clear h2 h3 h4 h5 h6 h8 h9 h11 h12 h13 h14 t2 t3; omega
  have t8 : (B1 + E).natAbs ≤ B1.natAbs + E.natAbs := by clear h2 h3 h4 h5 h6 h8 h9 h11 h12 h13 h14 t2 t3 t5; omega
  have t9 : (A1 + D1).natAbs ≤ Q0.natAbs + F.natAbs + (D1 - (B1 + E)).natAbs := by clear h2 h3 h4 h5 h6 h8 h9 h11 h12 h13 h14 t2 t3 t5 t8; omega
  have s3 : (X - R1 + Be).natAbs ≤ (Q0 - X).natAbs + Xl.natAbs + F.natAbs + (D1 - (B1 + E)).natAbs + (Be - (Xl - R2)).natAbs := by clear h2 h3 h4 h5 h6 h8 h9 h11 h12 h13 h14 t2 t3 t5 t8 t9; omega
  have s4 : (Xl - R2).natAbs ≤ Xl.natAbs + R2.natAbs := by clear h2 h3 h4 h5 h6 h8 h9 h11 h12 h13 h14 t2 t3 t5 t8 t9 s3; omega
  have s5 : Ga.natAbs ≤ (X - R1 + Be).natAbs + (Ga - (X - R1 + Be)).natAbs := by clear h2 h3 h4 h5 h6 h8 h9 h11 h12 h13 h14 t2 t3 t5 t8 t9 s3 s4; omega
  clear h1 h7 h10
  generalize (Ga - (X - R1 + Be)).natAbs = N0 at *
  generalize (Be - (Xl - R2)).natAbs = N1 at *
  generalize (D1 - (B1 + E)).natAbs = N2 at *
  generalize (X - R1 + Be).natAbs = N3 at *
  generalize (Xl - R2).natAbs = N4 at *
  generalize (A1 + D1).natAbs = N5 at *
  generalize (B1 + E).natAbs = N6 at *
  generalize (F - Q1).natAbs = N7 at *
  generalize (Q0 - X).natAbs = N8 at *
  generalize (C + F).natAbs = N9 at *
  generalize Ga.natAbs = N10 at *
  generalize Xl.natAbs = N11 at *
  generalize R2.natAbs = N12 at *
  generalize B1.natAbs = N13 at *
  generalize Q0.natAbs = N14 at *
  generalize Q1.natAbs = N15 at *
  generalize E.natAbs = N16 at *
  generalize F.natAbs = N17 at *
  generalize X.natAbs = N18 at *
  omega
theorem dq5 (C E F Q0 Q1 X A1 B1 D1 R1 R2 Xl Be Ga De0 De1 : Int) (d yb : Nat) (h1 : C + E = Q0) (h2 : 9007199254740992 * E.natAbs ≤ Q0.natAbs) (h3 : 9007199254740992 * (F - Q1).natAbs ≤ Q1.natAbs + 4503599627370496 * d) (h4 : 9007199254740992 * Q1.natAbs ≤ Q0.natAbs) (h5 : 10141204801825835211973625643008 * (Q0 - X).natAbs ≤ 1125899906842625 * X.natAbs) (h6 : 1606938044258990275541962092341162602522202993782792835301376 * d ≤ X.natAbs) (h7 : A1 + B1 = C + F) (h8 : 9007199254740992 * B1.natAbs ≤ (C + F).natAbs) (h9 : 9007199254740992 * (D1 - (B1 + E)).natAbs ≤ (B1 + E).natAbs) (h10 : R1 + R2 = A1 + D1) (h11 : 9007199254740992 * R2.natAbs ≤ (A1 + D1).natAbs) (h12 : 9007199254740992 * (Be - (Xl - R2)).natAbs ≤ (Xl - R2).natAbs) (h13 : 9007199254740992 * Xl.natAbs ≤ X.natAbs) (h14 : 9007199254740992 * (Ga - (X - R1 + Be)).natAbs ≤ (X - R1 + Be).natAbs) (h15 : 20282409603651670423947251286016 * (De0 - Ga).natAbs ≤ 3377699720527873 * Ga.natAbs + 10141204801825835211973625643008 * yb) (h16 : 9007199254740992 * De1.natAbs ≤ De0.natAbs) (h17 : 1606938044258990275541962092341162602522202993782792835301376 * yb ≤ X.natAbs) : 5070602400912917605986812821504 * (Q0 + Q1 + De0 + De1 - (X + Xl)).natAbs ≤ (X + Xl).natAbs := by
  have t2 : F.natAbs ≤ Q1.natAbs + (F - Q1).natAbs := by clear h2 h3 h4 h5 h6 h8 h9 h11 h12 h13 h14 h15 h16 h17; omega
  have t3 : Q0.natAbs ≤ X.natAbs + (Q0 - X).natAbs := by clear h2 h3 h4 h5 h6 h8 h9 h11 h12 h13 h14 h15 h16 h17 t2; omega
  have t5 : (C + F).natAbs ≤ Q0.natAbs + E.natAbs + F.natAbs := by clear h2 h3 h4 h5 h6 h8 h9 h11 h12 h13 h14 h15 h16 h17 t2 t3; omega
  have t8 : (B1 + E).natAbs ≤ B1.natAbs + E.natAbs := by clear h2 h3 h4 h5 h6 h8 h9 h11 h12 h13 h14 h15 h16 h17 t2 t3 t5; omega
  have t9 : (A1 + D1).natAbs ≤ Q0.natAbs + F.natAbs + (D1 - (B1 + E)).natAbs := by clear h2 h3 h4 h5 h6 h8 h9 h11 h12 h13 h14 h15 h16 h17 t2 t3 t5 t8; omega
  have s3 : (X - R1 + Be).natAbs ≤ (Q0 - X).natAbs + Xl.natAbs + F.natAbs + (D1 - (B1 + E)).natAbs + (Be - (Xl - R2)).natAbs := by clear h2 h3 h4 h5 h6 h8 h9 h11 h12 h13 h14 h15 h16 h17 t2 t3 t5 t8 t9; omega
  have s4 : (Xl - R2).natAbs ≤ Xl.natAbs + R2.natAbs := by clear h2 h3 h4 h5 h6 h8 h9 h11 h12 h13 h14 h15 h16 h17 t2 t3 t5 t8 t9 s3; omega
  have s5 : Ga.natAbs ≤ (X - R1 + Be).natAbs + (Ga - (X - R1 + Be)).natAbs := by clear h2 h3 h4 h5 h6 h8 h9 h11 h12 h13 h14 h15 h16 h17 t2 t3 t5 t8 t9 s3 s4; omega
  have s6 : (Q0 + Q1 + De0 + De1 - (X + Xl)).natAbs ≤ (De0 - Ga).natAbs + (Ga - (X - R1 + Be)).natAbs + (Be - (Xl - R2)).natAbs + (D1 - (B1 + E)).natAbs + (F - Q1).natAbs + De1.natAbs := by clear h2 h3 h4 h5 h6 h8 h9 h11 h12 h13 h14 h15 h16 h17 t2 t3 t5 t8 t9 s3 s4 s5; omega
  have s7 : De0.natAbs ≤ Ga.natAbs + (De0 - Ga).natAbs := by clear h2 h3 h4 h5 h6 h8 h9 h11 h12 h13 h14 h15 h16 h17 t2 t3 t5 t8 t9 s3 s4 s5 s6; omega
  have s8 : X.natAbs ≤ (X + Xl).natAbs + Xl.natAbs := by clear h2 h3 h4 h5 h6 h8 h9 h11 h12 h13 h14 h15 h16 h17 t2 t3 t5 t8 t9 s3 s4 s5 s6 s7; omega
  clear h1 h7 h10
  generalize (Q0 + Q1 + De0 + De1 - (X + Xl)).natAbs = N0 at *
  generalize (Ga - (X - R1 + Be)).natAbs = N1 at *
  generalize (Be - (Xl - R2)).natAbs = N2 at *
  generalize (D1 - (B1 + E)).natAbs = N3 at *
  generalize (X - R1 + Be).natAbs = N4 at *
  generalize (De0 - Ga).natAbs = N5 at *
  generalize (Xl - R2).natAbs = N6 at *
  generalize (A1 + D1).natAbs = N7 at *
  generalize (B1 + E).natAbs = N8 at *
  generalize (F - Q1).natAbs = N9 at *
  generalize (Q0 - X).natAbs = N10 at *
  generalize (X + Xl).natAbs = N11 at *
  generalize (C + F).natAbs = N12 at *
  generalize De0.natAbs = N13 at *
  generalize De1.natAbs = N14 at *
  generalize Ga.natAbs = N15 at *
  generalize Xl.natAbs = N16 at *
  generalize R2.natAbs = N17 at *
  generalize B1.natAbs = N18 at *
  generalize Q0.natAbs = N19 at *
  generalize Q1.natAbs = N20 at *
  generalize E.natAbs = N21 at *
  generalize F.natAbs = N22 at *
  generalize X.natAbs = N23 at *
  omega
theorem dq6 (Q0 X Ga De0 : Int) (yb : Nat) (h5 : 10141204801825835211973625643008 * (Q0 - X).natAbs ≤ 1125899906842625 * X.natAbs) (h15 : 20282409603651670423947251286016 * (De0 - Ga).natAbs ≤ 3377699720527873 * Ga.natAbs + 10141204801825835211973625643008 * yb) (h17 : 1606938044258990275541962092341162602522202993782792835301376 * yb ≤ X.natAbs) (hg : 1125899906842624 * Ga.natAbs ≤ X.natAbs) : De0.natAbs ≤ Q0.natAbs ∧ De0.natAbs ≤ X.natAbs := by
  have s7 : De0.natAbs ≤ Ga.natAbs + (De0 - Ga).natAbs := by clear h5 h15 h17 hg; omega
  have t3 : X.natAbs ≤ Q0.natAbs + (Q0 - X).natAbs := by clear h5 h15 h17 hg s7; omega
  generalize (De0 - Ga).natAbs = N0 at *
  generalize (Q0 - X).natAbs = N1 at *
  generalize De0.natAbs = N2 at *
  generalize Ga.natAbs = N3 at *
  generalize Q0.natAbs = N4 at *
  generalize X.natAbs = N5 at *
  omega
end Go.Proofs.Ytlbaphijmonjoaa.Fp

namespace Go.Proofs.Ytlbaphijmonjoaa.Fp
open EP Ieee

theorem rel_scale2 (u v : Int) (d : Nat) (h : 9007199254740992 * u.natAbs ≤ v.natAbs) : 9007199254740992 * (u * (d : Int)).natAbs ≤ (v * (d : Int)).natAbs := by
  rw [Int.natAbs_mul, Int.natAbs_mul, Int.natAbs_natCast, ← Nat.mul_assoc]
  exact Nat.mul_le_mul_right _ h
theorem le_of_scale {u v : Int} (d : Nat) (hd : 0 < d) (h : (u * (d : Int)).natAbs ≤ (v * (d : Int)).natAbs) : u.natAbs ≤ v.natAbs := by
  rw [Int.natAbs_mul, Int.natAbs_mul, Int.natAbs_natCast] at h
  exact Nat.le_of_mul_le_mul_right h hd
theorem rest_rel (E a b : Int) (ha : a = G E) (hb : b = E - a) : 9007199254740992 * b.natAbs ≤ E.natAbs := by
  have := G_rel E
  rw [← ha] at this
  rw [hb, show (E - a).natAbs = (a - E).natAbs by omega]
  exact this
/-- The size of a quotient of floats that are not too small. -/
theorem quo_size (q x y : Int) (e7 e13 D : Nat) (h7 : e7 = 774) (h13 : e13 = 1374) (hD : D = 1074) (hx : 2 ^ e7 ≤ x.natAbs) (hx' : x.natAbs ≤ 2 ^ e13) (hy : 2 ^ e7 ≤ y.natAbs) (hy' : y.natAbs ≤ 2 ^ e13)
    (h : 10141204801825835211973625643008 * (q * y - x * ((2 ^ D : Nat) : Int)).natAbs ≤ 1125899906842625 * (x.natAbs * 2 ^ D)) (e4 e16 : Nat) (h4 : e4 = 400) (h16 : e16 = 1676) : 2 ^ e4 ≤ q.natAbs ∧ q.natAbs ≤ 2 ^ e16 := by
  have t1 : (x * ((2 ^ D : Nat) : Int)).natAbs = x.natAbs * 2 ^ D := by rw [Int.natAbs_mul, Int.natAbs_natCast]
  have t2 : x.natAbs * 2 ^ D ≤ q.natAbs * y.natAbs + (q * y - x * ((2 ^ D : Nat) : Int)).natAbs := by
    rw [← t1, ← Int.natAbs_mul]; clear h t1; generalize q * y = u; generalize x * ((2 ^ D : Nat) : Int) = v; omega
  have t3 : q.natAbs * y.natAbs ≤ x.natAbs * 2 ^ D + (q * y - x * ((2 ^ D : Nat) : Int)).natAbs := by
    rw [← t1, ← Int.natAbs_mul]; clear h t1 t2; generalize q * y = u; generalize x * ((2 ^ D : Nat) : Int) = v; omega
  have t4 : 2 ^ e7 * 2 ^ D ≤ x.natAbs * 2 ^ D := Nat.mul_le_mul_right _ hx
  have t5 : x.natAbs * 2 ^ D ≤ 2 ^ e13 * 2 ^ D := Nat.mul_le_mul_right _ hx'
  rw [← Nat.pow_add] at t4 t5
  generalize (q * y - x * ((2 ^ D : Nat) : Int)).natAbs = er at *
  generalize x.natAbs * 2 ^ D = z at *
  constructor
  · refine Nat.le_of_not_lt fun hq => ?_
    have t6 : q.natAbs * y.natAbs ≤ 2 ^ e4 * 2 ^ e13 := Nat.mul_le_mul (Nat.le_of_lt hq) hy'
    have t7 : 4 * (2 ^ e4 * 2 ^ e13) ≤ 2 ^ (e7 + D) := by
      rw [← Nat.pow_add, show (4 : Nat) = 2 ^ 2 by decide, ← Nat.pow_add]
      exact Nat.pow_le_pow_right (by decide) (by omega)
    have t8 := Nat.two_pow_pos (e7 + D)
    omega
  · refine Nat.le_of_not_lt fun hq => ?_
    have t6 : 2 ^ e16 * 2 ^ e7 ≤ q.natAbs * y.natAbs := Nat.mul_le_mul (Nat.le_of_lt hq) hy
    have t7 : 2 * 2 ^ (e13 + D) ≤ 2 ^ e16 * 2 ^ e7 := by
      rw [← Nat.pow_add, ← Nat.pow_succ']
      exact Nat.pow_le_pow_right (by decide) (by omega)
    have t8 := Nat.two_pow_pos (e13 + D)
    omega
set_option maxHeartbeats 1000000 in
theorem quoP_two {xh xl yh yl : Nat} (D : Nat) (hD : D = 1074) (bxh : bd xh 1374) (bxl : bd xl 1374) (byh : bd yh 1374) (byl : bd yl 1374) (hr : G (V xh + V xl) = V xh) (hr' : G (V yh + V yl) = V yh) (hx : 2 ^ 774 ≤ (V xh).natAbs) (hy : 2 ^ 774 ≤ (V yh).natAbs) :
    ∃ p q, quoP xh xl yh yl = some (p, q) ∧ bd p 1800 ∧ bd q 1800 ∧ p < 18446744073709551616 ∧ q < 18446744073709551616 ∧ G (V p + V q) = V p ∧
      5070602400912917605986812821504 * ((V p + V q) * (V yh + V yl) - (V xh + V xl) * ((2 ^ D : Nat) : Int)).natAbs ≤ ((V xh + V xl) * ((2 ^ D : Nat) : Int)).natAbs := by
  obtain ⟨N, hN⟩ : ∃ N : Nat, N = 2097 := ⟨_, rfl⟩
  obtain ⟨e7, h7⟩ : ∃ e : Nat, e = 774 := ⟨_, rfl⟩
  obtain ⟨e13, h13⟩ : ∃ e : Nat, e = 1374 := ⟨_, rfl⟩
  obtain ⟨e4, h4⟩ : ∃ e : Nat, e = 400 := ⟨_, rfl⟩
  obtain ⟨e16, h16⟩ : ∃ e : Nat, e = 1676 := ⟨_, rfl⟩
  have sxh : (V xh).natAbs ≤ 2 ^ e13 := by rw [h13]; exact bxh.2
  have syh : (V yh).natAbs ≤ 2 ^ e13 := by rw [h13]; exact byh.2
  rw [← h7] at hx hy
  have hdp : 0 < 2 ^ D := Nat.two_pow_pos D
  obtain ⟨q, o1, wq, fq, k1⟩ := quo_tight xh yh N D hN hD bxh.1 byh.1 e7 e13 h7 h13 hx sxh hy syh
  obtain ⟨q4, q16⟩ := quo_size (V q) (V xh) (V yh) e7 e13 D h7 h13 hD hx sxh hy syh k1 e4 e16 h4 h16
  have bq : bd q 1676 := ⟨fq, by rw [← h16]; exact q16⟩
  obtain ⟨A, i, nA, iA, lA⟩ := norm2_of yh e7 (by omega) byh.1 hy
  obtain ⟨B, j, nB, jB, lB⟩ := norm2_of q e4 (by omega) fq q4
  have hXX : (V xh * ((2 ^ D : Nat) : Int)).natAbs = (V xh).natAbs * 2 ^ D := by rw [Int.natAbs_mul, Int.natAbs_natCast]
  have hbig : 2 ^ (e7 + D) ≤ (V xh * ((2 ^ D : Nat) : Int)).natAbs := by rw [hXX, Nat.pow_add]; exact Nat.mul_le_mul_right _ hx
  have k5 : 10141204801825835211973625643008 * (V q * V yh - V xh * ((2 ^ D : Nat) : Int)).natAbs ≤ 1125899906842625 * (V xh * ((2 ^ D : Nat) : Int)).natAbs := by rw [hXX]; exact k1
  have hij : 1500 ≤ i + j := by
    refine Nat.le_of_not_lt fun z => ?_
    have t1 : (V q * V yh).natAbs ≤ 2 ^ (53 + j) * 2 ^ (53 + i) := by rw [Int.natAbs_mul]; exact Nat.mul_le_mul (Nat.le_of_lt lB) (Nat.le_of_lt lA)
    have t2 : 4 * (2 ^ (53 + j) * 2 ^ (53 + i)) ≤ 2 ^ (e7 + D) := by
      rw [← Nat.pow_add, show (4 : Nat) = 2 ^ 2 by decide, ← Nat.pow_add]
      exact Nat.pow_le_pow_right (by decide) (by omega)
    have t3 : (V xh * ((2 ^ D : Nat) : Int)).natAbs ≤ (V q * V yh).natAbs + (V q * V yh - V xh * ((2 ^ D : Nat) : Int)).natAbs := by
      clear k5 k1 hbig hXX t1 t2; generalize V q * V yh = u; generalize V xh * ((2 ^ D : Nat) : Int) = v; omega
    have t4 := Nat.two_pow_pos (e7 + D)
    clear k1 hXX
    generalize (V q * V yh - V xh * ((2 ^ D : Nat) : Int)).natAbs = er at *
    generalize (V xh * ((2 ^ D : Nat) : Int)).natAbs = zx at *
    omega
  obtain ⟨K, hK⟩ : ∃ K, i + j = K + 1074 := ⟨i + j - 1074, by omega⟩
  obtain ⟨c, e, o2, bc, be, v1, v2, -, -⟩ := twoProd_W2 (k := 1976) byh bq rfl (by decide) (by decide) (by decide) nA nB hK (by omega)
  obtain ⟨f, o3, -, bf, v3⟩ := mul_nearW (k := 1976) byl bq rfl (by decide) D hD
  obtain ⟨a1, b1, o4, ba1, bb1, v4, v5, -, -⟩ := fast_U bc bf (by decide)
  obtain ⟨d1, o5, -, bd1, v6⟩ := fo_G_add (bb1.mono (show 1976 + 1 + 6 ≤ 2056 by decide)) (be.mono (show 1976 + 80 ≤ 2056 by decide)) (by decide)
  obtain ⟨r1, r2, o6, br1, br2, v7, v8, -, -⟩ := fast_U (ba1.mono (show 1976 + 1 + 2 ≤ 2058 by decide)) bd1 (by decide)
  obtain ⟨al, o7, -, bal, v9⟩ := fo_G_sub (bxh.mono (show 1374 ≤ 2060 by decide)) br1 (by decide)
  obtain ⟨bt, o8, -, bbt, v10⟩ := fo_G_sub (bxl.mono (show 1374 ≤ 2064 by decide)) br2 (by decide)
  obtain ⟨ga, o9, -, bga, v11⟩ := fo_G_add (bal.mono (show 2060 + 2 ≤ 2066 by decide)) bbt (by decide)
  have hprod : (V c + V e) * ((2 ^ D : Nat) : Int) = V q * V yh := by
    rw [v1, v2, ← Int.add_mul, show G (A * B) + (A * B - G (A * B)) = A * B by omega, Int.mul_comm (V q), nA.1, nB.1]
    exact (scale2 A B i j K D (by omega)).symm
  have hec : 9007199254740992 * (V e).natAbs ≤ (V c + V e).natAbs := by
    have hg := G_rel (A * B)
    rw [v1, v2, ← Int.add_mul, show G (A * B) + (A * B - G (A * B)) = A * B by omega, Int.natAbs_mul, Int.natAbs_mul, ← Nat.mul_assoc, show (A * B - G (A * B)).natAbs = (G (A * B) - A * B).natAbs by omega]
    exact Nat.mul_le_mul_right _ hg
  have rx := lo_rel (V xh) (V xl) (V_fl xl bxl.1) hr
  have ry := lo_rel (V yh) (V yl) (V_fl yl byl.1) hr'
  have g1 : V c * ((2 ^ D : Nat) : Int) + V e * ((2 ^ D : Nat) : Int) = V q * V yh := by rw [← Int.add_mul]; exact hprod
  have g2 : 9007199254740992 * (V e * ((2 ^ D : Nat) : Int)).natAbs ≤ (V q * V yh).natAbs := by rw [← hprod]; exact rel_scale2 _ _ _ hec
  have g3 : 9007199254740992 * (V f * ((2 ^ D : Nat) : Int) - V q * V yl).natAbs ≤ (V q * V yl).natAbs + 4503599627370496 * 2 ^ D := by rw [Int.mul_comm (V q)]; exact v3
  have g4 : 9007199254740992 * (V q * V yl).natAbs ≤ (V q * V yh).natAbs := by rw [Int.mul_comm (V q), Int.mul_comm (V q)]; exact rel_mul _ ry
  have g6 : 1606938044258990275541962092341162602522202993782792835301376 * 2 ^ D ≤ (V xh * ((2 ^ D : Nat) : Int)).natAbs := by
    refine Nat.le_trans ?_ hbig
    rw [show (1606938044258990275541962092341162602522202993782792835301376 : Nat) = 2 ^ 200 by decide, ← Nat.pow_add]
    exact Nat.pow_le_pow_right (by decide) (by omega)
  have g17 : 1606938044258990275541962092341162602522202993782792835301376 * (V yh).natAbs ≤ (V xh * ((2 ^ D : Nat) : Int)).natAbs := by
    refine Nat.le_trans (Nat.mul_le_mul_left _ syh) (Nat.le_trans ?_ hbig)
    rw [show (1606938044258990275541962092341162602522202993782792835301376 : Nat) = 2 ^ 200 by decide, ← Nat.pow_add]
    exact Nat.pow_le_pow_right (by decide) (by omega)
  have n1 := le_of_scale (2 ^ D) hdp (dq1 _ _ _ _ _ _ _ g1 g2 g3 g4 k5 g6)
  have v5 := v5 (fast_exact (V c) (V f) (V_fl c bc.1) (V_fl f bf.1) n1)
  have g7 : V a1 * ((2 ^ D : Nat) : Int) + V b1 * ((2 ^ D : Nat) : Int) = V c * ((2 ^ D : Nat) : Int) + V f * ((2 ^ D : Nat) : Int) := by rw [← Int.add_mul, ← Int.add_mul, show V a1 + V b1 = V c + V f by omega]
  have g8 : 9007199254740992 * (V b1 * ((2 ^ D : Nat) : Int)).natAbs ≤ (V c * ((2 ^ D : Nat) : Int) + V f * ((2 ^ D : Nat) : Int)).natAbs := by rw [← Int.add_mul]; exact rel_scale2 _ _ _ (rest_rel _ _ _ v4 v5)
  have g9 : 9007199254740992 * (V d1 * ((2 ^ D : Nat) : Int) - (V b1 * ((2 ^ D : Nat) : Int) + V e * ((2 ^ D : Nat) : Int))).natAbs ≤ (V b1 * ((2 ^ D : Nat) : Int) + V e * ((2 ^ D : Nat) : Int)).natAbs := by
    rw [← Int.add_mul]; refine rel_scale _ _ _ ?_; rw [v6]; exact G_rel _
  have n2 := le_of_scale (2 ^ D) hdp (dq2 _ _ _ _ _ _ _ _ _ _ g1 g2 g3 g4 k5 g6 g7 g8 g9)
  have v8 := v8 (fast_exact (V a1) (V d1) (V_fl a1 ba1.1) (V_fl d1 bd1.1) n2)
  have g10 : V r1 * ((2 ^ D : Nat) : Int) + V r2 * ((2 ^ D : Nat) : Int) = V a1 * ((2 ^ D : Nat) : Int) + V d1 * ((2 ^ D : Nat) : Int) := by rw [← Int.add_mul, ← Int.add_mul, show V r1 + V r2 = V a1 + V d1 by omega]
  have g11 : 9007199254740992 * (V r2 * ((2 ^ D : Nat) : Int)).natAbs ≤ (V a1 * ((2 ^ D : Nat) : Int) + V d1 * ((2 ^ D : Nat) : Int)).natAbs := by rw [← Int.add_mul]; exact rel_scale2 _ _ _ (rest_rel _ _ _ v7 v8)
  have n3 := dq3 _ _ _ _ _ _ _ _ _ _ _ _ g1 g2 g3 g4 k5 g6 g7 g8 g9 g10 g11 hdp
  rw [← Int.sub_mul, Int.natAbs_mul, Int.natAbs_mul, Int.natAbs_natCast, ← Nat.mul_assoc] at n3
  have n3 := Nat.lt_of_mul_lt_mul_right n3
  have fal : Fl (V xh - V r1) := by
    refine Classical.byContradiction fun hn => ?_
    have := far_sum (V xh) (-V r1) (V_fl xh bxh.1) (fl_neg (V_fl r1 br1.1)) (by rw [← Int.sub_eq_add_neg]; exact hn)
    rw [← Int.sub_eq_add_neg, Int.natAbs_neg] at this
    omega
  rw [G_fix fal] at v9
  have g12 : 9007199254740992 * (V bt * ((2 ^ D : Nat) : Int) - (V xl * ((2 ^ D : Nat) : Int) - V r2 * ((2 ^ D : Nat) : Int))).natAbs ≤ (V xl * ((2 ^ D : Nat) : Int) - V r2 * ((2 ^ D : Nat) : Int)).natAbs := by
    rw [← Int.sub_mul (V xl)]; refine rel_scale _ _ _ ?_; rw [v10]; exact G_rel _
  have g13 := rel_scale2 _ _ (2 ^ D) rx
  have g14 : 9007199254740992 * (V ga * ((2 ^ D : Nat) : Int) - (V xh * ((2 ^ D : Nat) : Int) - V r1 * ((2 ^ D : Nat) : Int) + V bt * ((2 ^ D : Nat) : Int))).natAbs ≤ (V xh * ((2 ^ D : Nat) : Int) - V r1 * ((2 ^ D : Nat) : Int) + V bt * ((2 ^ D : Nat) : Int)).natAbs := by
    rw [← Int.sub_mul (V xh), ← Int.add_mul, ← v9]; refine rel_scale _ _ _ ?_; rw [v11]; exact G_rel _
  have n4 := dq4 _ _ _ _ _ _ _ _ _ _ _ _ _ _ _ g1 g2 g3 g4 k5 g6 g7 g8 g9 g10 g11 g12 g13 g14
  have n4' : (V ga).natAbs ≤ (V xh).natAbs := le_of_scale (2 ^ D) hdp (by omega)
  obtain ⟨de, o10, wde, fde, k15⟩ := quo_crude ga yh N D hN hD bga.1 byh.1 (by have := Nat.two_pow_pos e7; omega) (by
    have t1 : (V ga).natAbs * 2 ^ D ≤ 2 ^ e13 * 2 ^ D := Nat.mul_le_mul_right _ (Nat.le_trans n4' sxh)
    have t2 : 2 ^ N * 2 ^ e7 ≤ 2 ^ N * (V yh).natAbs := Nat.mul_le_mul_left _ hy
    have t3 : 4 * (2 ^ e13 * 2 ^ D) ≤ 2 ^ N * 2 ^ e7 := by
      rw [← Nat.pow_add, ← Nat.pow_add, show (4 : Nat) = 2 ^ 2 by decide, ← Nat.pow_add]
      exact Nat.pow_le_pow_right (by decide) (by omega)
    have t4 := Nat.mul_pos (Nat.two_pow_pos e13) hdp
    omega)
  have k15 : 20282409603651670423947251286016 * (V de * V yh - V ga * ((2 ^ D : Nat) : Int)).natAbs ≤ 3377699720527873 * (V ga * ((2 ^ D : Nat) : Int)).natAbs + 10141204801825835211973625643008 * (V yh).natAbs := by
    rw [Int.natAbs_mul (V ga), Int.natAbs_natCast]; exact k15
  have g16 : 9007199254740992 * (V de * V yl).natAbs ≤ (V de * V yh).natAbs := by rw [Int.mul_comm (V de), Int.mul_comm (V de)]; exact rel_mul _ ry
  have n5 := dq5 _ _ _ _ _ _ _ _ _ _ _ _ _ _ _ _ _ _ g1 g2 g3 g4 k5 g6 g7 g8 g9 g10 g11 g12 g13 g14 k15 g16 g17
  obtain ⟨n6, n7⟩ := dq6 _ _ _ _ _ k5 k15 g17 n4
  have hyp : 0 < (V yh).natAbs := by have := Nat.two_pow_pos e7; omega
  have n6' : (V de).natAbs ≤ (V q).natAbs := by
    rw [Int.natAbs_mul, Int.natAbs_mul] at n6
    exact Nat.le_of_mul_le_mul_right n6 hyp
  have bde : bd de 1676 := ⟨fde, Nat.le_trans n6' bq.2⟩
  obtain ⟨p, z, o11, bp, bz, v12, v13, w1, w2⟩ := fast_U bq bde (by decide)
  have v13 := v13 (fast_exact (V q) (V de) (V_fl q fq) (V_fl de fde) n6')
  have hpz : V p + V z = V q + V de := by omega
  refine ⟨p, z, ?_, bp.mono (by decide), bz.mono (by decide), w1, w2, by rw [hpz]; exact v12.symm, ?_⟩
  · simp only [quoP, byP, o1, o2, o3, o4, o5, o6, o7, o8, o9, o10, o11, Option.bind_some]
  · rw [hpz, Int.add_mul (V xh), show (V q + V de) * (V yh + V yl) = V q * V yh + V q * V yl + V de * V yh + V de * V yl by rw [Int.add_mul, Int.mul_add, Int.mul_add]; omega]
    exact n5
end Go.Proofs.Ytlbaphijmonjoaa.Fp

namespace Go.Proofs.Ytlbaphijmonjoaa.Fp
open EP Ieee

theorem right_form (h l : Nat) (hr : rightP h l = true) : bd h 1374 ∧ bd l 1374 ∧ G (V h + V l) = V h ∧ ((V h = 0 ∧ V l = 0 ∧ isZ h = true) ∨ (2 ^ 774 ≤ (V h).natAbs ∧ isZ h = false)) := by
  have P := right_PB h l hr
  obtain ⟨p1, p2, p3, p4, p5⟩ := P
  have bh : bd h 1374 := ⟨p1, p3⟩
  have bl : bd l 1374 := ⟨p2, Nat.le_trans p4 p3⟩
  unfold rightP at hr
  cases hz : isZ h with
  | true =>
    rw [hz, if_pos rfl] at hr
    have a2 := (zero_V h hz).2
    have b2 := (zero_V l hr).2
    exact ⟨bh, bl, by rw [a2, b2]; exact G_zero, .inl ⟨a2, b2, rfl⟩⟩
  | false =>
    rw [hz, if_neg (by simp)] at hr
    simp only [Bool.and_eq_true] at hr
    obtain ⟨-, -, l3⟩ := hr
    refine ⟨bh, bl, ?_, .inr ⟨p5 hz, rfl⟩⟩
    obtain ⟨r, e1, -, br, vr⟩ := fo_G_add bh bl (by decide)
    have ha : Ieee.double.add h l = some r := by
      have e2 : (Ieee.double.add h l).bind (fun r => if EP.finB r then some r else none) = some r := e1
      cases hd : Ieee.double.add h l with
      | none => rw [hd] at e2; cases e2
      | some r' =>
        rw [hd] at e2
        have e3 : (if EP.finB r' then some r' else none) = some r := e2
        split at e3
        · exact e3
        · cases e3
    unfold sumEq at l3
    rw [ha] at l3
    have l4 : Ieee.double.order r h = some .eq := eq_of_beq l3
    rw [← vr]
    exact order_eq_V r h br.1 p1 l4
/-- A dividend that is 0. -/
theorem quoP_nil {xh xl yh yl : Nat} (D : Nat) (hD : D = 1074) (bxh : bd xh 1374) (bxl : bd xl 1374) (byh : bd yh 1374) (byl : bd yl 1374) (hx : V xh = 0) (hx' : V xl = 0) (hy : 2 ^ 774 ≤ (V yh).natAbs) :
    ∃ p q, quoP xh xl yh yl = some (p, q) ∧ bd p 1800 ∧ bd q 1800 ∧ p < 18446744073709551616 ∧ q < 18446744073709551616 ∧ V p = 0 ∧ V q = 0 := by
  obtain ⟨N, hN⟩ : ∃ N : Nat, N = 2097 := ⟨_, rfl⟩
  obtain ⟨e7, h7⟩ : ∃ e : Nat, e = 774 := ⟨_, rfl⟩
  rw [← h7] at hy
  have hyp : 0 < (V yh).natAbs := by have := Nat.two_pow_pos e7; omega
  have hdp : 0 < 2 ^ D := Nat.two_pow_pos D
  have nil : ∀ u : Int, 20282409603651670423947251286016 * (u * V yh - 0 * ((2 ^ D : Nat) : Int)).natAbs ≤ 3377699720527873 * ((0 : Int).natAbs * 2 ^ D) + 10141204801825835211973625643008 * (V yh).natAbs → u = 0 := fun u hu => by
    rw [Int.zero_mul, Int.sub_zero, Int.natAbs_mul, Int.natAbs_zero, Nat.zero_mul] at hu
    rcases Nat.eq_zero_or_pos u.natAbs with q | q
    · omega
    · have : 1 * (V yh).natAbs ≤ u.natAbs * (V yh).natAbs := Nat.mul_le_mul_right _ q
      generalize u.natAbs * (V yh).natAbs = z at *
      generalize (V yh).natAbs = y at *
      omega
  have quo0 : ∀ x, EP.finB x = true → V x = 0 → ∃ r, fo .quo x yh = some r ∧ r < 18446744073709551616 ∧ EP.finB r = true ∧ V r = 0 := fun x fx zx => by
    obtain ⟨r, o, w, f, k⟩ := quo_crude x yh N D hN hD fx byh.1 hyp (by rw [zx, Int.natAbs_zero, Nat.zero_mul, Nat.mul_zero]; exact Nat.mul_pos (Nat.two_pow_pos N) hyp)
    rw [zx] at k
    exact ⟨r, o, w, f, nil _ k⟩
  obtain ⟨q, o1, wq, fq, vq⟩ := quo0 xh bxh.1 hx
  have bq : bd q 1676 := ⟨fq, by rw [vq]; exact Nat.zero_le _⟩
  obtain ⟨A, i, nA, iA, lA⟩ := norm2_of yh e7 (by omega) byh.1 hy
  have nB : Nm2 q 0 1178 := ⟨by rw [vq, Int.zero_mul], .inl rfl, by decide⟩
  obtain ⟨K, hK⟩ : ∃ K, i + 1178 = K + 1074 := ⟨i + 104, by omega⟩
  obtain ⟨c, e, o2, bc, be, v1, v2, -, -⟩ := twoProd_W2 (k := 1976) byh bq rfl (by decide) (by decide) (by decide) nA nB hK (by omega)
  rw [Int.mul_zero, G_zero, Int.zero_mul] at v1
  rw [Int.mul_zero, G_zero, Int.sub_zero, Int.zero_mul] at v2
  obtain ⟨f, o3, -, bf, v3⟩ := mul_nearW (k := 1976) byl bq rfl (by decide) D hD
  have vf : V f = 0 := by
    rw [vq, Int.mul_zero, Int.sub_zero, Int.natAbs_mul, Int.natAbs_natCast, Int.natAbs_zero, Nat.zero_add] at v3
    rcases Nat.eq_zero_or_pos (V f).natAbs with q | q
    · omega
    · have : 1 * 2 ^ D ≤ (V f).natAbs * 2 ^ D := Nat.mul_le_mul_right _ q
      generalize (V f).natAbs * 2 ^ D = z at *
      generalize 2 ^ D = d at *
      omega
  obtain ⟨a1, b1, o4, ba1, bb1, v4, v5, -, -⟩ := fast_U bc bf (by decide)
  rw [v1, vf, Int.add_zero, G_zero] at v4 v5
  have v5 := v5 fl_zero
  rw [v4] at v5
  obtain ⟨d1, o5, -, bd1, v6⟩ := fo_G_add (bb1.mono (show 1976 + 1 + 6 ≤ 2056 by decide)) (be.mono (show 1976 + 80 ≤ 2056 by decide)) (by decide)
  rw [v5, v2, Int.sub_zero, Int.add_zero, G_zero] at v6
  obtain ⟨r1, r2, o6, br1, br2, v7, v8, -, -⟩ := fast_U (ba1.mono (show 1976 + 1 + 2 ≤ 2058 by decide)) bd1 (by decide)
  rw [v4, v6, Int.add_zero, G_zero] at v7 v8
  have v8 := v8 fl_zero
  rw [v7] at v8
  obtain ⟨al, o7, -, bal, v9⟩ := fo_G_sub (bxh.mono (show 1374 ≤ 2060 by decide)) br1 (by decide)
  rw [hx, v7, Int.sub_zero, G_zero] at v9
  obtain ⟨bt, o8, -, bbt, v10⟩ := fo_G_sub (bxl.mono (show 1374 ≤ 2064 by decide)) br2 (by decide)
  rw [hx', v8, Int.sub_zero, Int.sub_zero, G_zero] at v10
  obtain ⟨ga, o9, -, bga, v11⟩ := fo_G_add (bal.mono (show 2060 + 2 ≤ 2066 by decide)) bbt (by decide)
  rw [v9, v10, Int.add_zero, G_zero] at v11
  obtain ⟨de, o10, wde, fde, vde⟩ := quo0 ga bga.1 v11
  have bde : bd de 1676 := ⟨fde, by rw [vde]; exact Nat.zero_le _⟩
  obtain ⟨p, z, o11, bp, bz, v12, v13, w1, w2⟩ := fast_U bq bde (by decide)
  rw [vq, vde, Int.add_zero, G_zero] at v12 v13
  have v13 := v13 fl_zero
  rw [v12] at v13
  exact ⟨p, z, by simp only [quoP, byP, o1, o2, o3, o4, o5, o6, o7, o8, o9, o10, o11, Option.bind_some], bp.mono (by decide), bz.mono (by decide), w1, w2, v12, by omega⟩
theorem neg_form {h l : Nat} (wh : h < 18446744073709551616) (wl : l < 18446744073709551616) (bh : bd h 1374) (bl : bd l 1374) (hr : G (V h + V l) = V h) :
    bd (Op.negFloat .f64 h) 1374 ∧ bd (Op.negFloat .f64 l) 1374 ∧ G (V (Op.negFloat .f64 h) + V (Op.negFloat .f64 l)) = V (Op.negFloat .f64 h) ∧ V (Op.negFloat .f64 h) = - V h ∧ V (Op.negFloat .f64 l) = - V l := by
  obtain ⟨n1, n2, -⟩ := neg_V h wh
  obtain ⟨m1, m2, -⟩ := neg_V l wl
  refine ⟨⟨n2.trans bh.1, by rw [n1, Int.natAbs_neg]; exact bh.2⟩, ⟨m2.trans bl.1, by rw [m1, Int.natAbs_neg]; exact bl.2⟩, ?_, n1, m1⟩
  rw [n1, m1, show -V h + -V l = -(V h + V l) by omega, G_neg, hr]
/-- An answer that is a pair of its one form near what was asked, all in units of 2^-1074 2^-D. -/
def NearP (o : Option (Nat × Nat)) (s t : Nat) : Prop := o = some (s, t) ∧ bd s 1800 ∧ bd t 1800 ∧ s < 18446744073709551616 ∧ t < 18446744073709551616 ∧ G (V s + V t) = V s
/-- All four, for right pairs. -/
theorem near_all (xh xl yh yl D : Nat) (hD : D = 1074) (wyh : yh < 18446744073709551616) (wyl : yl < 18446744073709551616) (hx : rightP xh xl = true) (hy : rightP yh yl = true) :
    (∃ s t, NearP (sumP xh xl yh yl) s t ∧ 5070602400912917605986812821504 * (V s + V t - (V xh + V xl + (V yh + V yl))).natAbs ≤ (V xh + V xl + (V yh + V yl)).natAbs) ∧
    (∃ s t, NearP (diffP xh xl yh yl) s t ∧ 5070602400912917605986812821504 * (V s + V t - (V xh + V xl - (V yh + V yl))).natAbs ≤ (V xh + V xl - (V yh + V yl)).natAbs) ∧
    (∃ s t, NearP (prodP xh xl yh yl) s t ∧ 5070602400912917605986812821504 * ((V s + V t) * ((2 ^ D : Nat) : Int) - (V xh + V xl) * (V yh + V yl)).natAbs ≤ ((V xh + V xl) * (V yh + V yl)).natAbs) ∧
    (isZ yh = false → ∃ s t, NearP (quoP xh xl yh yl) s t ∧ 5070602400912917605986812821504 * ((V s + V t) * (V yh + V yl) - (V xh + V xl) * ((2 ^ D : Nat) : Int)).natAbs ≤ ((V xh + V xl) * ((2 ^ D : Nat) : Int)).natAbs) := by
  obtain ⟨x1, x2, x3, x4⟩ := right_form xh xl hx
  obtain ⟨y1, y2, y3, y4⟩ := right_form yh yl hy
  refine ⟨?_, ?_, ?_, ?_⟩
  · obtain ⟨p, q, e, b1, b2, w1, w2, g, k⟩ := sumP_two (n := 1374) (by decide) x1 x2 y1 y2 x3 y3
    exact ⟨p, q, ⟨e, b1.mono (by decide), b2.mono (by decide), w1, w2, g⟩, k⟩
  · obtain ⟨z1, z2, z3, z4, z5⟩ := neg_form wyh wyl y1 y2 y3
    obtain ⟨p, q, e, b1, b2, w1, w2, g, k⟩ := sumP_two (n := 1374) (by decide) x1 x2 z1 z2 x3 z3
    rw [z4, z5, show V xh + V xl + (-V yh + -V yl) = V xh + V xl - (V yh + V yl) by omega] at k
    exact ⟨p, q, ⟨e, b1.mono (by decide), b2.mono (by decide), w1, w2, g⟩, k⟩
  · obtain ⟨p, q, e, b1, b2, w1, w2, g, k⟩ := prodP_two D hD x1 x2 y1 y2 x3 y3 (x4.imp (fun h => h.1) (fun h => h.1)) (y4.imp (fun h => h.1) (fun h => h.1))
    exact ⟨p, q, ⟨e, b1, b2, w1, w2, g⟩, k⟩
  · intro hz
    have hy7 : 2 ^ 774 ≤ (V yh).natAbs := by
      rcases y4 with h | h
      · rw [h.2.2] at hz; cases hz
      · exact h.1
    rcases x4 with ⟨v1, v2, -⟩ | ⟨v1, -⟩
    · obtain ⟨p, q, e, b1, b2, w1, w2, g1, g2⟩ := quoP_nil D hD x1 x2 y1 y2 v1 v2 hy7
      refine ⟨p, q, ⟨e, b1, b2, w1, w2, by rw [g1, g2]; exact G_zero⟩, ?_⟩
      rw [g1, g2, v1, v2]; simp
    · obtain ⟨p, q, e, b1, b2, w1, w2, g, k⟩ := quoP_two D hD x1 x2 y1 y2 x3 y3 v1 hy7
      exact ⟨p, q, ⟨e, b1, b2, w1, w2, g⟩, k⟩
end Go.Proofs.Ytlbaphijmonjoaa.Fp

/- How great the floats of an expansion are together: of moderate floats every step has a finite answer. -/
import Derived.Test.YtckpfohfbfmmnaaEList2
import Derived.Test.YtckpfohfbfmmnaaEMod
namespace Go.Proofs.Ytckpfohfbfmmnaa
open EP

theorem fo_of_add {a b r : Nat} (e : Ieee.double.add a b = some r) (h : finB r = true) : fo .add a b = some r := by
  show (Ieee.double.add a b).bind _ = _
  rw [e]; show (if finB r then some r else none) = _; rw [if_pos h]
theorem fo_of_sub {a b r : Nat} (e : Ieee.double.sub a b = some r) (h : finB r = true) : fo .sub a b = some r := by
  show (Ieee.double.sub a b).bind _ = _
  rw [e]; show (if finB r then some r else none) = _; rw [if_pos h]
/-- The amount of a float. -/
def amt (x : Nat) : Nat := (V x).natAbs

theorem lin1 (a b s M : Int) (hM : (a.natAbs : Int) + b.natAbs = M) (h : 9007199254740992 * (s - (a + b)).natAbs ≤ (a + b).natAbs) : ∃ d : Int, s = a + b + d ∧ 9007199254740992 * (d.natAbs : Int) ≤ M := ⟨s - (a + b), by omega, by omega⟩
theorem lin2 (a b d s x M : Int) (hs : s = a + b + d) (hM : (a.natAbs : Int) + b.natAbs = M) (hd : 9007199254740992 * (d.natAbs : Int) ≤ M) (h : 9007199254740992 * (x - (s - a)).natAbs ≤ (s - a).natAbs) : ∃ d' : Int, x = b + d + d' ∧ 9007199254740992 * (d'.natAbs : Int) ≤ 2 * M := ⟨x - (s - a), by omega, by omega⟩
theorem lin3 (a b d d' s x y M : Int) (hs : s = a + b + d) (hx : x = b + d + d') (hM : (a.natAbs : Int) + b.natAbs = M) (hd' : 9007199254740992 * (d'.natAbs : Int) ≤ 2 * M) (h : 9007199254740992 * (y - (s - x)).natAbs ≤ (s - x).natAbs) : ∃ d3 : Int, y = a - d' + d3 ∧ 9007199254740992 * (d3.natAbs : Int) ≤ 2 * M := ⟨y - (s - x), by omega, by omega⟩
theorem lin4 (a d' d3 y u M : Int) (hy : y = a - d' + d3) (hd' : 9007199254740992 * (d'.natAbs : Int) ≤ 2 * M) (hd3 : 9007199254740992 * (d3.natAbs : Int) ≤ 2 * M) (h : 9007199254740992 * (u - (a - y)).natAbs ≤ (a - y).natAbs) : ∃ d4 : Int, u = d' - d3 + d4 ∧ 9007199254740992 * (d4.natAbs : Int) ≤ M := ⟨u - (a - y), by omega, by omega⟩
theorem lin5 (b d d' x v M : Int) (hx : x = b + d + d') (hd : 9007199254740992 * (d.natAbs : Int) ≤ M) (hd' : 9007199254740992 * (d'.natAbs : Int) ≤ 2 * M) (h : 9007199254740992 * (v - (b - x)).natAbs ≤ (b - x).natAbs) : ∃ d5 : Int, v = d5 - d - d' ∧ 9007199254740992 * (d5.natAbs : Int) ≤ M := ⟨v - (b - x), by omega, by omega⟩
theorem lin6 (d d' d3 d4 d5 u v t M : Int) (hu : u = d' - d3 + d4) (hv : v = d5 - d - d') (h1 : 9007199254740992 * (d.natAbs : Int) ≤ M) (h3 : 9007199254740992 * (d3.natAbs : Int) ≤ 2 * M) (h4 : 9007199254740992 * (d4.natAbs : Int) ≤ M) (h5 : 9007199254740992 * (d5.natAbs : Int) ≤ M) (hM : 0 ≤ M)
    (h : 9007199254740992 * (t - (u + v)).natAbs ≤ (u + v).natAbs) : 9007199254740992 * (t.natAbs : Int) ≤ 6 * M := by
  have hw : u + v = d4 + d5 - d3 - d := by omega
  rw [hw] at h
  omega
theorem lin7 (a b d s : Int) (t M : Int) (hs : s = a + b + d) (hM : (a.natAbs : Int) + b.natAbs = M) (h1 : 9007199254740992 * (d.natAbs : Int) ≤ M) (ht : 9007199254740992 * (t.natAbs : Int) ≤ 6 * M) : 1125899906842624 * (s.natAbs + t.natAbs) ≤ 1125899906842625 * (a.natAbs + b.natAbs) := by omega

theorem sz1 (a b M : Int) (hM : (a.natAbs : Int) + b.natAbs = M) : ((a + b).natAbs : Int) ≤ 2 * M := by omega
theorem sz2 (a b d s M : Int) (hs : s = a + b + d) (hM : (a.natAbs : Int) + b.natAbs = M) (hd : 9007199254740992 * (d.natAbs : Int) ≤ M) : ((s - a).natAbs : Int) ≤ 2 * M := by omega
theorem sz3 (a b d d' s x M : Int) (hs : s = a + b + d) (hx : x = b + d + d') (hM : (a.natAbs : Int) + b.natAbs = M) (hd' : 9007199254740992 * (d'.natAbs : Int) ≤ 2 * M) : ((s - x).natAbs : Int) ≤ 2 * M := by omega
theorem sz4 (a d' d3 y M : Int) (hy : y = a - d' + d3) (hd' : 9007199254740992 * (d'.natAbs : Int) ≤ 2 * M) (hd3 : 9007199254740992 * (d3.natAbs : Int) ≤ 2 * M) : ((a - y).natAbs : Int) ≤ 2 * M := by omega
theorem sz5 (b d d' x M : Int) (hx : x = b + d + d') (hd : 9007199254740992 * (d.natAbs : Int) ≤ M) (hd' : 9007199254740992 * (d'.natAbs : Int) ≤ 2 * M) : ((b - x).natAbs : Int) ≤ 2 * M := by omega
theorem sz6 (d d' d3 d4 d5 u v M : Int) (hu : u = d' - d3 + d4) (hv : v = d5 - d - d') (h1 : 9007199254740992 * (d.natAbs : Int) ≤ M) (h3 : 9007199254740992 * (d3.natAbs : Int) ≤ 2 * M) (h4 : 9007199254740992 * (d4.natAbs : Int) ≤ M) (h5 : 9007199254740992 * (d5.natAbs : Int) ≤ M) : ((u + v).natAbs : Int) ≤ 2 * M := by
  have hw : u + v = d4 + d5 - d3 - d := by omega
  rw [hw]
  omega
theorem szN (v M : Int) (Z N : Nat) (hl : 8 * Z ≤ N) (hZ : 0 < Z) (hM : M ≤ Z) (h : (v.natAbs : Int) ≤ 2 * M) : v.natAbs < N := by omega

set_option maxHeartbeats 1000000 in
/-- A sum and its error are together hardly more than the two. -/
theorem twoSum_tot (a b n : Nat) (ha : finB a = true) (hb : finB b = true) (hn : n ≤ 2093) (hM : amt a + amt b ≤ 2 ^ n) :
    ∃ s t, twoSumO a b = some (s, t) ∧ finB s = true ∧ finB t = true ∧ 1125899906842624 * (amt s + amt t) ≤ 1125899906842625 * (amt a + amt b) := by
  obtain ⟨N, hN⟩ : ∃ N, N = 2097 := ⟨_, rfl⟩
  have hl : 8 * 2 ^ n ≤ 2 ^ N := by
    rw [show 8 * 2 ^ n = 2 ^ (n + 3) by rw [Nat.pow_add, Nat.mul_comm]]
    exact Nat.pow_le_pow_right (by decide) (by omega)
  have hp := pow2_pos n
  unfold amt at hM ⊢
  generalize 2 ^ n = Z at *
  generalize hA : V a = A at *
  generalize hB : V b = B at *
  obtain ⟨M, hMM⟩ : ∃ M : Int, (A.natAbs : Int) + B.natAbs = M := ⟨_, rfl⟩
  have hMZ : M ≤ Z := by omega
  have hM0 : 0 ≤ M := by omega
  obtain ⟨s, e1, f1, -, g1⟩ := add_spec a b N hN ha hb (by rw [hA, hB]; exact szN _ M Z _ hl hp hMZ (sz1 A B M hMM))
  rw [hA, hB] at g1
  generalize hs : V s = S at *
  obtain ⟨d1, q1, r1⟩ := lin1 A B S M hMM g1
  obtain ⟨x, e2, f2, -, g2⟩ := sub_spec s a N hN f1 ha (by rw [hs, hA]; exact szN _ M Z _ hl hp hMZ (sz2 A B d1 S M q1 hMM r1))
  rw [hs, hA] at g2
  generalize hx : V x = X at *
  obtain ⟨d2, q2, r2⟩ := lin2 A B d1 S X M q1 hMM r1 g2
  obtain ⟨y, e3, f3, -, g3⟩ := sub_spec s x N hN f1 f2 (by rw [hs, hx]; exact szN _ M Z _ hl hp hMZ (sz3 A B d1 d2 S X M q1 q2 hMM r2))
  rw [hs, hx] at g3
  generalize hy : V y = Y at *
  obtain ⟨d3, q3, r3⟩ := lin3 A B d1 d2 S X Y M q1 q2 hMM r2 g3
  obtain ⟨u, e4, f4, -, g4⟩ := sub_spec a y N hN ha f3 (by rw [hA, hy]; exact szN _ M Z _ hl hp hMZ (sz4 A d2 d3 Y M q3 r2 r3))
  rw [hA, hy] at g4
  generalize hu : V u = U at *
  obtain ⟨d4, q4, r4⟩ := lin4 A d2 d3 Y U M q3 r2 r3 g4
  obtain ⟨v, e5, f5, -, g5⟩ := sub_spec b x N hN hb f2 (by rw [hB, hx]; exact szN _ M Z _ hl hp hMZ (sz5 B d1 d2 X M q2 r1 r2))
  rw [hB, hx] at g5
  generalize hv : V v = W at *
  obtain ⟨d5, q5, r5⟩ := lin5 B d1 d2 X W M q2 r1 r2 g5
  obtain ⟨t, e6, f6, -, g6⟩ := add_spec u v N hN f4 f5 (by rw [hu, hv]; exact szN _ M Z _ hl hp hMZ (sz6 d1 d2 d3 d4 d5 U W M q4 q5 r1 r3 r4 r5))
  rw [hu, hv] at g6
  generalize ht : V t = T at *
  have r6 := lin6 d1 d2 d3 d4 d5 U W T M q4 q5 r1 r3 r4 r5 hM0 g6
  refine ⟨s, t, ?_, f1, f6, ?_⟩
  · simp only [twoSumO, fo_of_add e1 f1, fo_of_sub e2 f2, fo_of_sub e3 f3, fo_of_sub e4 f4, fo_of_sub e5 f5, fo_of_add e6 f6, Option.bind_some]
  · rw [hs, ht]
    exact lin7 A B d1 S T M q1 hMM r1 r6

def tot : List Nat → Nat
  | [] => 0
  | x :: l => amt x + tot l
theorem tot_snoc (L : List Nat) (x : Nat) : tot (L ++ [x]) = tot L + amt x := by
  induction L with
  | nil => simp [tot]
  | cons y l ih => simp only [List.cons_append, tot, ih]; omega
theorem tot_mem (L : List Nat) (x : Nat) (h : x ∈ L) : amt x ≤ tot L := by
  induction L with
  | nil => cases h
  | cons y l ih =>
    simp only [tot]
    rcases List.mem_cons.1 h with e | e
    · subst e; omega
    · have := ih e; omega
/-- Numbers, none of them 0. -/
def okL (L : List Nat) : Prop := ∀ x ∈ L, finB x = true ∧ isZ x = false
theorem okL_nil : okL [] := fun x hx => by cases hx
theorem beh_ok {L : List Nat} {x : Nat} (h : okL L) (hx : finB x = true) : okL (beh L x) ∧ tot (beh L x) = tot L + amt x := by
  cases hz : isZ x with
  | true =>
    have e : beh L x = L := by rw [beh, hz]; rfl
    rw [e]
    refine ⟨h, ?_⟩
    have := (zero_V x hz).2
    unfold amt; rw [this]; simp
  | false =>
    have e : beh L x = L ++ [x] := by rw [beh, hz]; rfl
    rw [e, tot_snoc]
    refine ⟨fun y hy => ?_, rfl⟩
    rcases List.mem_append.1 hy with h1 | h1
    · exact h y h1
    · obtain rfl : y = x := by simpa using h1
      exact ⟨hx, hz⟩
theorem grow_lin2 (Y T T' T0 : Nat) (h : T * 1125899906842624 ≤ Y) (h' : 1125899906842624 * T' ≤ 1125899906842625 * T) (h2 : Y ≤ 1128098930098176 * T0) : T' * 1125899906842624 ≤ Y + 2 * T0 := by
  have h3 : T ≤ 2 * T0 := by omega
  have h4 : 1125899906842625 * T = T * 1125899906842624 + T := by clear h h' h2 h3; omega
  rw [h4, Nat.mul_comm] at h'
  exact Nat.le_trans h' (Nat.add_le_add h h3)
theorem grow_k (k T0 : Nat) (hk : k ≤ 1099511627776) : (1125899906842624 + 2 * k) * T0 ≤ 1128098930098176 * T0 := Nat.mul_le_mul_right _ (by omega)
theorem grow_e (k T0 : Nat) : (1125899906842624 + 2 * (k + 1)) * T0 = (1125899906842624 + 2 * k) * T0 + 2 * T0 := by
  rw [← Nat.add_mul]
  exact congrArg (· * T0) (by omega)
theorem grow_lin (k T T' T0 : Nat) (hk : k ≤ 1099511627776) (h : T * 1125899906842624 ≤ (1125899906842624 + 2 * k) * T0) (h' : 1125899906842624 * T' ≤ 1125899906842625 * T) : T' * 1125899906842624 ≤ (1125899906842624 + 2 * (k + 1)) * T0 := by
  rw [grow_e]
  exact grow_lin2 _ T T' T0 h h' (grow_k k T0 hk)
theorem grow_top (k T T0 : Nat) (hk : k ≤ 1099511627776) (h : T * 1125899906842624 ≤ (1125899906842624 + 2 * k) * T0) : T ≤ 2 * T0 := by
  have := Nat.le_trans h (grow_k k T0 hk)
  omega
theorem growL_tot (T0 n : Nat) (hn : n ≤ 2092) (h0 : T0 ≤ 2 ^ n) : ∀ (l : List Nat) (q : Nat) (L : List Nat) (k : Nat), finB q = true → (∀ x ∈ l, finB x = true) → okL L → k + l.length ≤ 1099511627776 → (amt q + tot l + tot L) * 1125899906842624 ≤ (1125899906842624 + 2 * k) * T0 →
    ∃ q' L', growL l q L = some (q', L') ∧ finB q' = true ∧ okL L' ∧ amt q' + tot L' ≤ 2 * T0 := by
  intro l
  induction l with
  | nil =>
    intro q L k hq _ hL hk h
    refine ⟨q, L, rfl, hq, hL, ?_⟩
    simp only [tot, List.length_nil] at h hk
    have h2 := grow_top k _ T0 (by omega) h
    omega
  | cons x l ih =>
    intro q L k hq hl hL hk h
    simp only [tot, List.length_cons] at h hk
    have h2 := grow_top k _ T0 (by omega) h
    have hx := hl x (List.mem_cons_self ..)
    obtain ⟨s, t, e, fs, ft, hb⟩ := twoSum_tot q x (n + 1) hq hx (by omega) (by rw [Nat.pow_succ]; omega)
    obtain ⟨ok', et⟩ := beh_ok (L := L) hL ft
    have h3 : 1125899906842624 * (amt s + tot l + tot (beh L t)) ≤ 1125899906842625 * (amt q + (amt x + tot l) + tot L) := by rw [et]; omega
    have h4 := grow_lin k _ _ T0 (by omega) h h3
    obtain ⟨q', L', e', r1, r2, r3⟩ := ih s (beh L t) (k + 1) fs (fun y hy => hl y (List.mem_cons_of_mem _ hy)) ok' (by omega) h4
    refine ⟨q', L', ?_, r1, r2, r3⟩
    show (twoSumO q x).bind _ = _
    rw [e]
    exact e'
theorem growL_len : ∀ (l : List Nat) (q : Nat) (L : List Nat) (r : Nat × List Nat), growL l q L = some r → r.2.length ≤ L.length + l.length := by
  intro l
  induction l with
  | nil => intro q L r h; obtain rfl := Option.some.inj h; simp
  | cons x l ih =>
    intro q L r h
    obtain ⟨p, _, e2⟩ := Option.bind_eq_some_iff.1 (show (twoSumO q x).bind (fun p => growL l p.1 (beh L p.2)) = some r from h)
    have h1 := ih _ _ _ e2
    have h2 := beh_len L p.2
    simp only [List.length_cons]; omega
theorem growO_tot (l : List Nat) (b n : Nat) (hn : n ≤ 2092) (h0 : amt b + tot l ≤ 2 ^ n) (hl : ∀ x ∈ l, finB x = true) (hb : finB b = true) (hk : l.length ≤ 1099511627776) :
    ∃ R, growO l b = some R ∧ okL R ∧ tot R ≤ 2 * (amt b + tot l) ∧ R.length ≤ l.length + 1 := by
  obtain ⟨q', L', e, h1, h2, h3⟩ := growL_tot (amt b + tot l) n hn h0 l b [] 0 hb hl okL_nil (by omega) (by simp only [tot]; omega)
  obtain ⟨o1, o2⟩ := beh_ok h2 h1
  have hlen := growL_len l b [] _ e
  have hbl := beh_len L' q'
  refine ⟨beh L' q', ?_, o1, by omega, by simp at hlen; omega⟩
  unfold growO
  rw [e]; rfl
theorem last_fin {L : List Nat} (h : okL L) : finB (lastF L) = true := by
  unfold lastF
  by_cases h0 : L.length - 1 < L.length
  · have : L.getD (L.length - 1) 0 = L[L.length - 1] := by simp [List.getD, h0]
    rw [this]
    exact (h _ (List.getElem_mem h0)).1
  · have : L = [] := List.length_eq_zero_iff.1 (by omega)
    subst this
    decide
theorem growB_tot : ∀ (ys L : List Nat) (n : Nat), okL L → tot L ≤ 2 ^ n → (∀ y ∈ ys, finB y = true ∧ amt y ≤ 2 ^ n) → n + 2 * ys.length ≤ 2091 → L.length + ys.length ≤ 1099511627776 →
    ∃ R, growB L ys = some R ∧ okL R ∧ tot R ≤ 2 ^ (n + 2 * ys.length) ∧ R.length ≤ L.length + ys.length := by
  intro ys
  induction ys with
  | nil => intro L n hL ht _ _ _; exact ⟨L, rfl, hL, by simpa using ht, by simp⟩
  | cons y ys ih =>
    intro L n hL ht hy hn hk
    simp only [List.length_cons] at hn hk ⊢
    obtain ⟨fy, ay⟩ := hy y (List.mem_cons_self ..)
    obtain ⟨R, e1, o1, t1, l1⟩ := growO_tot L y (n + 1) (by omega) (by rw [Nat.pow_succ]; omega) (fun x hx => (hL x hx).1) fy (by omega)
    have ht1 : tot R ≤ 2 ^ (n + 2) := by rw [Nat.pow_add]; omega
    have hmono : 2 ^ n ≤ 2 ^ (n + 2) := Nat.pow_le_pow_right (by decide) (by omega)
    obtain ⟨R', e2, o2, t2, l2⟩ := ih R (n + 2) o1 ht1 (fun z hz => ⟨(hy z (List.mem_cons_of_mem _ hz)).1, Nat.le_trans (hy z (List.mem_cons_of_mem _ hz)).2 hmono⟩) (by omega) (by omega)
    refine ⟨R', ?_, o2, by rw [show n + 2 * (ys.length + 1) = n + 2 + 2 * ys.length by omega]; exact t2, by omega⟩
    show (if finB (lastF L) then growO L y else none).bind _ = _
    rw [last_fin hL, if_pos rfl, e1]
    exact e2
theorem bd_amt {x n : Nat} (h : bd x n) : amt x ≤ 2 ^ n := h.2
theorem scaleO_tot (b n0 : Nat) (hn0 : n0 = 1956) (hb : bd b 1475) : ∀ (l L : List Nat) (n : Nat), n0 ≤ n → okL L → tot L ≤ 2 ^ n → (∀ x ∈ l, bd x 1475) → n + 4 * l.length ≤ 2087 → L.length + 2 * l.length ≤ 1099511627776 →
    ∃ R, scaleO l b L = some R ∧ okL R := by
  intro l
  induction l with
  | nil => intro L n _ hL _ _ _ _; exact ⟨L, rfl, hL⟩
  | cons x l ih =>
    intro L n h0 hL ht hx hn hk
    simp only [List.length_cons] at hn hk
    obtain ⟨p, e, e1, bp, be⟩ := twoProd_bd (k := 1876) hb (hx x (List.mem_cons_self ..)) (by decide) (by decide)
    have bp' : bd p n := bp.mono (by omega)
    have be' : bd e n := be.mono (by omega)
    obtain ⟨R, e2, o2, t2, l2⟩ := growB_tot [e, p] L n hL ht (fun y hy => by
      rcases List.mem_cons.1 hy with h | h
      · subst h; exact ⟨be'.1, be'.2⟩
      · obtain rfl : y = p := by simpa using h
        exact ⟨bp'.1, bp'.2⟩) (by simp; omega) (by simp; omega)
    simp only [List.length_cons, List.length_nil] at t2 l2
    obtain ⟨R', e3, o3⟩ := ih R (n + 4) (by omega) o2 t2 (fun y hy => hx y (List.mem_cons_of_mem _ hy)) (by omega) (by omega)
    refine ⟨R', ?_, o3⟩
    show (twoProdO b x).bind _ = _
    rw [e1]
    show (growB L [e, p]).bind _ = _
    rw [e2]
    exact e3
end Go.Proofs.Ytckpfohfbfmmnaa

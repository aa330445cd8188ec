/- How great the floats of an expansion are together: of moderate floats every step has a finite answer. Pairs that are right: how great their floats are; quotients of floats, how great they are. Pairs that are right: their floats are of some size; the steps of the books then have finite answers. -/
import Derived.Test.YtlbaphijmonjoaaHFB
import Derived.Test.YtlbaphijmonjoaaHFA
namespace Go.Proofs.Ytlbaphijmonjoaa.Fp

section

open EP


theorem fo_of_add {a b r : Nat} (e : Ieee.double.add a b = some r) (h : finB r = true) : fo .add a b = some r := by
  show (Ieee.double.add a b).bind _ = _
  rw [e]; show (if finB r then some r else none) = _; rw [if_pos h]
theorem fo_of_sub {a b r : Nat} (e : Ieee.double.sub a b = some r) (h : finB r = true) : fo .sub a b = some r := by
  show (Ieee.double.sub a b).bind _ = _
  rw [e]; show (if finB r then some r else none) = _; rw [if_pos h]
/-- The amount of a float. -/
def amt (x : Nat) : Nat := (V x).natAbs

theorem lin1 (a b s M : Int) (hM : (a.natAbs : Int) + b.natAbs = M) (h : 9007199254740992 * (s - (a + b)).natAbs ≤ (a + b).natAbs) : ∃ d : Int, s = a + b + d ∧ 9007199254740992 * (d.natAbs : Int) ≤ M := ⟨s - (a + b), by omega, by omega⟩
theorem lin2 (a b d s x M : Int) (hs : s = a + b + d) (hM : (a.natAbs : Int) + b.natAbs = M) (hd : 9007199254740992 * (d.natAbs : Int) ≤ M) (h : 9007199254740992 * (x - (s - a)).natAbs ≤ (s - a).natAbs) : ∃ d' : Int, x = b + d + d' ∧ 9007199254740992 * (d'.natAbs : Int) ≤ 2 * M := ⟨x - (s - a), by omega, by omega⟩
theorem lin3 (a b d d' s x y M : Int) (hs : s = a + b + d) (hx : x = b + d + d') (hM : (a.natAbs : Int) + b.natAbs = M) (hd' : 9007199254740992 * (d'.natAbs : Int) ≤ 2 * M) (h : 9007199254740992 * (y - (s - x)).natAbs ≤ (s - x).natAbs) : ∃ d3 : Int, y = a - d' + d3 ∧ 9007199254740992 * (d3.natAbs : Int) ≤ 2 * M := ⟨y - (s - x), by omega, by omega⟩
theorem lin4 (a d' d3 y u M : Int) (hy : y = a - d' + d3) (hd' : 9007199254740992 * (d'.natAbs : Int) ≤ 2 * M) (hd3 : 9007199254740992 * (d3.natAbs : Int) ≤ 2 * M) (h : 9007199254740992 * (u - (a - y)).natAbs ≤ (a - y).natAbs) : ∃ d4 : Int, u = d' - d3 + d4 ∧ 9007199254740992 * (d4.natAbs : Int) ≤ M := ⟨u - (a - y), by omega, by omega⟩
theorem lin5 (b d d' x v M : Int) (hx : x = b + d + d') (hd : 9007199254740992 * (d.natAbs : Int) ≤ M) (hd' : 9007199254740992 * (d'.natAbs : Int) ≤ 2 * M) (h : 9007199254740992 * (v - (b - x)).natAbs ≤ (b - x).natAbs) : ∃ d5 : Int, v = d5 - d - d' ∧ 9007199254740992 * (d5.natAbs : Int) ≤ M := ⟨v - (b - x), by omega, by omega⟩
theorem lin6 (d d' d3 d4 d5 u v t M : Int) (hu : u = d' - d3 + d4) (hv : v = d5 - d - d') (h1 : 9007199254740992 * (d.natAbs : Int) ≤ M) (h3 : 9007199254740992 * (d3.natAbs : Int) ≤ 2 * M) (h4 : 9007199254740992 * (d4.natAbs : Int) ≤ M) (h5 : 9007199254740992 * (d5.natAbs : Int) ≤ M) (hM : 0 ≤ M)
    (h : 9007199254740992 * (t - (u + v)).natAbs ≤ (u + v).natAbs) : 9007199254740992 * (t.natAbs : Int) ≤ 6 * M := by
  have hw : u + v = d4 + d5 - d3 - d := by omega
  rw [hw] at h
  omega
theorem lin7 (a b d s : Int) (t M : Int) (hs : s = a + b + d) (hM : (a.natAbs : Int) + b.natAbs = M) (h1 : 9007199254740992 * (d.natAbs : Int) ≤ M) (ht : 9007199254740992 * (t.natAbs : Int) ≤ 6 * M) : 1125899906842624 * (s.natAbs + t.natAbs) ≤ 1125899906842625 * (a.natAbs + b.natAbs) := by omega

theorem sz1 (a b M : Int) (hM : (a.natAbs : Int) + b.natAbs = M) : ((a + b).natAbs : Int) ≤ 2 * M := by omega
theorem sz2 (a b d s M : Int) (hs : s = a + b + d) (hM : (a.natAbs : Int) + b.natAbs = M) (hd : 9007199254740992 * (d.natAbs : Int) ≤ M) : ((s - a).natAbs : Int) ≤ 2 * M := by omega
theorem sz3 (a b d d' s x M : Int) (hs : s = a + b + d) (hx : x = b + d + d') (hM : (a.natAbs : Int) + b.natAbs = M) (hd' : 9007199254740992 * (d'.natAbs : Int) ≤ 2 * M) : ((s - x).natAbs : Int) ≤ 2 * M := by omega
theorem sz4 (a d' d3 y M : Int) (hy : y = a - d' + d3) (hd' : 9007199254740992 * (d'.natAbs : Int) ≤ 2 * M) (hd3 : 9007199254740992 * (d3.natAbs : Int) ≤ 2 * M) : ((a - y).natAbs : Int) ≤ 2 * M := by omega
theorem sz5 (b d d' x M : Int) (hx : x = b + d + d') (hd : 9007199254740992 * (d.natAbs : Int) ≤ M) (hd' : 9007199254740992 * (d'.natAbs : Int) ≤ 2 * M) : ((b - x).natAbs : Int) ≤ 2 * M := by omega
theorem sz6 (d d' d3 d4 d5 u v M : Int) (hu : u = d' - d3 + d4) (hv : v = d5 - d - d') (h1 : 9007199254740992 * (d.natAbs : Int) ≤ M) (h3 : 9007199254740992 * (d3.natAbs : Int) ≤ 2 * M) (h4 : 9007199254740992 * (d4.natAbs : Int) ≤ M) (h5 : 9007199254740992 * (d5.natAbs : Int) ≤ M) : ((u + v).natAbs : Int) ≤ 2 * M := by
  have hw : u + v = d4 + d5 - d3 - d := by omega
  rw [hw]
  omega
theorem szN (v M : Int) (Z N : Nat) (hl : 8 * Z ≤ N) (hZ : 0 < Z) (hM : M ≤ Z) (h : (v.natAbs : Int) ≤ 2 * M) : v.natAbs < N := by omega

set_option maxHeartbeats 1000000 in
/-- A sum and its error are together hardly more than the two. -/
theorem twoSum_tot (a b n : Nat) (ha : finB a = true) (hb : finB b = true) (hn : n ≤ 2093) (hM : amt a + amt b ≤ 2 ^ n) :
    ∃ s t, twoSumO a b = some (s, t) ∧ finB s = true ∧ finB t = true ∧ 1125899906842624 * (amt s + amt t) ≤ 1125899906842625 * (amt a + amt b) := by
  obtain ⟨N, hN⟩ : ∃ N, N = 2097 := ⟨_, rfl⟩
  have hl : 8 * 2 ^ n ≤ 2 ^ N := by
    rw [show 8 * 2 ^ n = 2 ^ (n + 3) by rw [Nat.pow_add, Nat.mul_comm]]
    exact Nat.pow_le_pow_right (by decide) (by omega)
  have hp := pow2_pos n
  unfold amt at hM ⊢
  generalize 2 ^ n = Z at *
  generalize hA : V a = A at *
  generalize hB : V b = B at *
  obtain ⟨M, hMM⟩ : ∃ M : Int, (A.natAbs : Int) + B.natAbs = M := ⟨_, rfl⟩
  have hMZ : M ≤ Z := by omega
  have hM0 : 0 ≤ M := by omega
  obtain ⟨s, e1, f1, -, g1⟩ := add_spec a b N hN ha hb (by rw [hA, hB]; exact szN _ M Z _ hl hp hMZ (sz1 A B M hMM))
  rw [hA, hB] at g1
  generalize hs : V s = S at *
  obtain ⟨d1, q1, r1⟩ := lin1 A B S M hMM g1
  obtain ⟨x, e2, f2, -, g2⟩ := sub_spec s a N hN f1 ha (by rw [hs, hA]; exact szN _ M Z _ hl hp hMZ (sz2 A B d1 S M q1 hMM r1))
  rw [hs, hA] at g2
  generalize hx : V x = X at *
  obtain ⟨d2, q2, r2⟩ := lin2 A B d1 S X M q1 hMM r1 g2
  obtain ⟨y, e3, f3, -, g3⟩ := sub_spec s x N hN f1 f2 (by rw [hs, hx]; exact szN _ M Z _ hl hp hMZ (sz3 A B d1 d2 S X M q1 q2 hMM r2))
  rw [hs, hx] at g3
  generalize hy : V y = Y at *
  obtain ⟨d3, q3, r3⟩ := lin3 A B d1 d2 S X Y M q1 q2 hMM r2 g3
  obtain ⟨u, e4, f4, -, g4⟩ := sub_spec a y N hN ha f3 (by rw [hA, hy]; exact szN _ M Z _ hl hp hMZ (sz4 A d2 d3 Y M q3 r2 r3))
  rw [hA, hy] at g4
  generalize hu : V u = U at *
  obtain ⟨d4, q4, r4⟩ := lin4 A d2 d3 Y U M q3 r2 r3 g4
  obtain ⟨v, e5, f5, -, g5⟩ := sub_spec b x N hN hb f2 (by rw [hB, hx]; exact szN _ M Z _ hl hp hMZ (sz5 B d1 d2 X M q2 r1 r2))
  rw [hB, hx] at g5
  generalize hv : V v = W at *
  obtain ⟨d5, q5, r5⟩ := lin5 B d1 d2 X W M q2 r1 r2 g5
  obtain ⟨t, e6, f6, -, g6⟩ := add_spec u v N hN f4 f5 (by rw [hu, hv]; exact szN _ M Z _ hl hp hMZ (sz6 d1 d2 d3 d4 d5 U W M q4 q5 r1 r3 r4 r5))
  rw [hu, hv] at g6
  generalize ht : V t = T at *
  have r6 := lin6 d1 d2 d3 d4 d5 U W T M q4 q5 r1 r3 r4 r5 hM0 g6
  refine ⟨s, t, ?_, f1, f6, ?_⟩
  · simp only [twoSumO, fo_of_add e1 f1, fo_of_sub e2 f2, fo_of_sub e3 f3, fo_of_sub e4 f4, fo_of_sub e5 f5, fo_of_add e6 f6, Option.bind_some]
  · rw [hs, ht]
    exact lin7 A B d1 S T M q1 hMM r1 r6

def tot : List Nat → Nat
  | [] => 0
  | x :: l => amt x + tot l
theorem tot_snoc (L : List Nat) (x : Nat) : tot (L ++ [x]) = tot L + amt x := by
  induction L with
  | nil => simp [tot]
  | cons y l ih => simp only [List.cons_append, tot, ih]; omega
theorem tot_mem (L : List Nat) (x : Nat) (h : x ∈ L) : amt x ≤ tot L := by
  induction L with
  | nil => cases h
  | cons y l ih =>
    simp only [tot]
    rcases List.mem_cons.1 h with e | e
    · subst e; omega
    · have := ih e; omega
/-- Numbers, none of them 0. -/
def okL (L : List Nat) : Prop := ∀ x ∈ L, finB x = true ∧ isZ x = false
theorem okL_nil : okL [] := fun x hx => by cases hx
theorem beh_ok {L : List Nat} {x : Nat} (h : okL L) (hx : finB x = true) : okL (beh L x) ∧ tot (beh L x) = tot L + amt x := by
  cases hz : isZ x with
  | true =>
    have e : beh L x = L := by rw [beh, hz]; rfl
    rw [e]
    refine ⟨h, ?_⟩
    have := (zero_V x hz).2
    unfold amt; rw [this]; simp
  | false =>
    have e : beh L x = L ++ [x] := by rw [beh, hz]; rfl
    rw [e, tot_snoc]
    refine ⟨fun y hy => ?_, rfl⟩
    rcases List.mem_append.1 hy with h1 | h1
    · exact h y h1
    · obtain rfl : y = x := by simpa using h1
      exact ⟨hx, hz⟩
theorem grow_lin2 (Y T T' T0 : Nat) (h : T * 1125899906842624 ≤ Y) (h' : 1125899906842624 * T' ≤ 1125899906842625 * T) (h2 : Y ≤ 1128098930098176 * T0) : T' * 1125899906842624 ≤ Y + 2 * T0 := by
  have h3 : T ≤ 2 * T0 := by omega
  have h4 : 1125899906842625 * T = T * 1125899906842624 + T := by clear h h' h2 h3; omega
  rw [h4, Nat.mul_comm] at h'
  exact Nat.le_trans h' (Nat.add_le_add h h3)
theorem grow_k (k T0 : Nat) (hk : k ≤ 1099511627776) : (1125899906842624 + 2 * k) * T0 ≤ 1128098930098176 * T0 := Nat.mul_le_mul_right _ (by omega)
theorem grow_e (k T0 : Nat) : (1125899906842624 + 2 * (k + 1)) * T0 = (1125899906842624 + 2 * k) * T0 + 2 * T0 := by
  rw [← Nat.add_mul]
  exact congrArg (· * T0) (by omega)
theorem grow_lin (k T T' T0 : Nat) (hk : k ≤ 1099511627776) (h : T * 1125899906842624 ≤ (1125899906842624 + 2 * k) * T0) (h' : 1125899906842624 * T' ≤ 1125899906842625 * T) : T' * 1125899906842624 ≤ (1125899906842624 + 2 * (k + 1)) * T0 := by
  rw [grow_e]
  exact grow_lin2 _ T T' T0 h h' (grow_k k T0 hk)
theorem grow_top (k T T0 : Nat) (hk : k ≤ 1099511627776) (h : T * 1125899906842624 ≤ (1125899906842624 + 2 * k) * T0) : T ≤ 2 * T0 := by
  have := Nat.le_trans h (grow_k k T0 hk)
  omega
theorem growL_tot (T0 n : Nat) (hn : n ≤ 2092) (h0 : T0 ≤ 2 ^ n) : ∀ (l : List Nat) (q : Nat) (L : List Nat) (k : Nat), finB q = true → (∀ x ∈ l, finB x = true) → okL L → k + l.length ≤ 1099511627776 → (amt q + tot l + tot L) * 1125899906842624 ≤ (1125899906842624 + 2 * k) * T0 →
    ∃ q' L', growL l q L = some (q', L') ∧ finB q' = true ∧ okL L' ∧ amt q' + tot L' ≤ 2 * T0 := by
  intro l
  induction l with
  | nil =>
    intro q L k hq _ hL hk h
    refine ⟨q, L, rfl, hq, hL, ?_⟩
    simp only [tot, List.length_nil] at h hk
    have h2 := grow_top k _ T0 (by omega) h
    omega
  | cons x l ih =>
    intro q L k hq hl hL hk h
    simp only [tot, List.length_cons] at h hk
    have h2 := grow_top k _ T0 (by omega) h
    have hx := hl x (List.mem_cons_self ..)
    obtain ⟨s, t, e, fs, ft, hb⟩ := twoSum_tot q x (n + 1) hq hx (by omega) (by rw [Nat.pow_succ]; omega)
    obtain ⟨ok', et⟩ := beh_ok (L := L) hL ft
    have h3 : 1125899906842624 * (amt s + tot l + tot (beh L t)) ≤ 1125899906842625 * (amt q + (amt x + tot l) + tot L) := by rw [et]; omega
    have h4 := grow_lin k _ _ T0 (by omega) h h3
    obtain ⟨q', L', e', r1, r2, r3⟩ := ih s (beh L t) (k + 1) fs (fun y hy => hl y (List.mem_cons_of_mem _ hy)) ok' (by omega) h4
    refine ⟨q', L', ?_, r1, r2, r3⟩
    show (twoSumO q x).bind _ = _
    rw [e]
    exact e'
theorem growL_len : ∀ (l : List Nat) (q : Nat) (L : List Nat) (r : Nat × List Nat), growL l q L = some r → r.2.length ≤ L.length + l.length := by
  intro l
  induction l with
  | nil => intro q L r h; obtain rfl := Option.some.inj h; simp
  | cons x l ih =>
    intro q L r h
    obtain ⟨p, _, e2⟩ := Option.bind_eq_some_iff.1 (show (twoSumO q x).bind (fun p => growL l p.1 (beh L p.2)) = some r from h)
    have h1 := ih _ _ _ e2
    have h2 := beh_len L p.2
    simp only [List.length_cons]; omega
theorem growO_tot (l : List Nat) (b n : Nat) (hn : n ≤ 2092) (h0 : amt b + tot l ≤ 2 ^ n) (hl : ∀ x ∈ l, finB x = true) (hb : finB b = true) (hk : l.length ≤ 1099511627776) :
    ∃ R, growO l b = some R ∧ okL R ∧ tot R ≤ 2 * (amt b + tot l) ∧ R.length ≤ l.length + 1 := by
  obtain ⟨q', L', e, h1, h2, h3⟩ := growL_tot (amt b + tot l) n hn h0 l b [] 0 hb hl okL_nil (by omega) (by simp only [tot]; omega)
  obtain ⟨o1, o2⟩ := beh_ok h2 h1
  have hlen := growL_len l b [] _ e
  have hbl := beh_len L' q'
  refine ⟨beh L' q', ?_, o1, by omega, by simp at hlen; omega⟩
  unfold growO
  rw [e]; rfl
theorem last_fin {L : List Nat} (h : okL L) : finB (lastF L) = true := by
  unfold lastF
  by_cases h0 : L.length - 1 < L.length
  · have : L.getD (L.length - 1) 0 = L[L.length - 1] := by simp [List.getD, h0]
    rw [this]
    exact (h _ (List.getElem_mem h0)).1
  · have : L = [] := List.length_eq_zero_iff.1 (by omega)
    subst this
    decide
theorem growB_tot : ∀ (ys L : List Nat) (n : Nat), okL L → tot L ≤ 2 ^ n → (∀ y ∈ ys, finB y = true ∧ amt y ≤ 2 ^ n) → n + 2 * ys.length ≤ 2091 → L.length + ys.length ≤ 1099511627776 →
    ∃ R, growB L ys = some R ∧ okL R ∧ tot R ≤ 2 ^ (n + 2 * ys.length) ∧ R.length ≤ L.length + ys.length := by
  intro ys
  induction ys with
  | nil => intro L n hL ht _ _ _; exact ⟨L, rfl, hL, by simpa using ht, by simp⟩
  | cons y ys ih =>
    intro L n hL ht hy hn hk
    simp only [List.length_cons] at hn hk ⊢
    obtain ⟨fy, ay⟩ := hy y (List.mem_cons_self ..)
    obtain ⟨R, e1, o1, t1, l1⟩ := growO_tot L y (n + 1) (by omega) (by rw [Nat.pow_succ]; omega) (fun x hx => (hL x hx).1) fy (by omega)
    have ht1 : tot R ≤ 2 ^ (n + 2) := by rw [Nat.pow_add]; omega
    have hmono : 2 ^ n ≤ 2 ^ (n + 2) := Nat.pow_le_pow_right (by decide) (by omega)
    obtain ⟨R', e2, o2, t2, l2⟩ := ih R (n + 2) o1 ht1 (fun z hz => ⟨(hy z (List.mem_cons_of_mem _ hz)).1, Nat.le_trans (hy z (List.mem_cons_of_mem _ hz)).2 hmono⟩) (by omega) (by omega)
    refine ⟨R', ?_, o2, by rw [show n + 2 * (ys.length + 1) = n + 2 + 2 * ys.length by omega]; exact t2, by omega⟩
    show (if finB (lastF L) then growO L y else none).bind _ = _
    rw [last_fin hL, if_pos rfl, e1]
    exact e2
theorem bd_amt {x n : Nat} (h : bd x n) : amt x ≤ 2 ^ n := h.2
theorem scaleO_tot (b n0 : Nat) (hn0 : n0 = 1956) (hb : bd b 1475) : ∀ (l L : List Nat) (n : Nat), n0 ≤ n → okL L → tot L ≤ 2 ^ n → (∀ x ∈ l, bd x 1475) → n + 4 * l.length ≤ 2087 → L.length + 2 * l.length ≤ 1099511627776 →
    ∃ R, scaleO l b L = some R ∧ okL R := by
  intro l
  induction l with
  | nil => intro L n _ hL _ _ _ _; exact ⟨L, rfl, hL⟩
  | cons x l ih =>
    intro L n h0 hL ht hx hn hk
    simp only [List.length_cons] at hn hk
    obtain ⟨p, e, e1, bp, be⟩ := twoProd_bd (k := 1876) hb (hx x (List.mem_cons_self ..)) (by decide) (by decide)
    have bp' : bd p n := bp.mono (by omega)
    have be' : bd e n := be.mono (by omega)
    obtain ⟨R, e2, o2, t2, l2⟩ := growB_tot [e, p] L n hL ht (fun y hy => by
      rcases List.mem_cons.1 hy with h | h
      · subst h; exact ⟨be'.1, be'.2⟩
      · obtain rfl : y = p := by simpa using h
        exact ⟨bp'.1, bp'.2⟩) (by simp; omega) (by simp; omega)
    simp only [List.length_cons, List.length_nil] at t2 l2
    obtain ⟨R', e3, o3⟩ := ih R (n + 4) (by omega) o2 t2 (fun y hy => hx y (List.mem_cons_of_mem _ hy)) (by omega) (by omega)
    refine ⟨R', ?_, o3⟩
    show (twoProdO b x).bind _ = _
    rw [e1]
    show (growB L [e, p]).bind _ = _
    rw [e2]
    exact e3

end

section

open EP


theorem div_lin (r y M xT E n D2 : Nat) (hM : 0 < M) (h1 : 9007199254740992 * (r * D2) ≤ 9007199254740992 * E + E + 4503599627370496 * D2) (hE : E * n ≤ 3 * (M * xT)) (hD : D2 * n = 2 * (M * y)) : r * y ≤ 3 * xT + y := by
  have a1 : r * D2 ≤ 2 * E + D2 := by omega
  have a2 : r * D2 * n ≤ (2 * E + D2) * n := Nat.mul_le_mul_right _ a1
  rw [Nat.add_mul, Nat.mul_assoc 2 E n, hD, Nat.mul_assoc r D2 n, hD] at a2
  have a3 : r * (2 * (M * y)) = M * (2 * (r * y)) := by
    rw [Nat.mul_left_comm r 2, Nat.mul_left_comm r M, Nat.mul_left_comm 2 M]
  rw [a3] at a2
  have a4 : 2 * (E * n) + 2 * (M * y) ≤ M * (6 * xT + 2 * y) := by
    rw [Nat.mul_add, Nat.mul_left_comm M 6, Nat.mul_left_comm M 2 y]; omega
  have a5 := Nat.le_of_mul_le_mul_left (Nat.le_trans a2 a4) hM
  omega

theorem quot_mag (m n M : Nat) (hm : n ≤ m * M) : (2 * (m * M / n) + (m * M % n != 0).toNat) * n ≤ 3 * (m * M) := by
  have h := Nat.div_add_mod (m * M) n
  have hb : (m * M % n != 0).toNat ≤ 1 := by cases (m * M % n != 0) <;> decide
  have h2 : (2 * (m * M / n) + (m * M % n != 0).toNat) * n ≤ (2 * (m * M / n) + 1) * n := Nat.mul_le_mul_right _ (by omega)
  have h3 : (2 * (m * M / n) + 1) * n = 2 * (n * (m * M / n)) + n := by
    rw [Nat.add_mul, Nat.one_mul, Nat.mul_assoc, Nat.mul_comm (m * M / n) n]
  omega
theorem nat_more (m n : Nat) (hm : m ≠ 0) : n ≤ m * 2 ^ (54 + n.log2 - m.log2) := by
  have h1 : n < 2 ^ (n.log2 + 1) := Nat.lt_log2_self
  have h2 : 2 ^ m.log2 ≤ m := Nat.log2_self_le hm
  have h3 : 2 ^ (n.log2 + 1) ≤ 2 ^ m.log2 * 2 ^ (54 + n.log2 - m.log2) := by
    rw [← Nat.pow_add]
    exact Nat.pow_le_pow_right (by decide) (by omega)
  exact Nat.le_trans (Nat.le_of_lt h1) (Nat.le_trans h3 (Nat.mul_le_mul_right _ h2))

/-- A quotient: no overflow; quotient times divisor is hardly more than three times what was divided. -/
theorem div_spec (x y N T : Nat) (hN : N = 2097) (hT : T = 1074) (hx : finB x = true) (hy : finB y = true) (h0 : 0 < amt y) (hov : 3 * (amt x * 2 ^ T) < 2 ^ N * amt y) :
    ∃ r, Ieee.double.div x y = some r ∧ finB r = true ∧ r < 18446744073709551616 ∧ amt r * amt y ≤ 3 * (amt x * 2 ^ T) + amt y := by
  obtain ⟨m, p, e1, e2, -⟩ := read_fin x hx
  obtain ⟨n, q, e3, e4, -⟩ := read_fin y hy
  have vx := V_mk x m p e2
  have vy := V_mk y n q e4
  have hX : amt x = m * 2 ^ p := by unfold amt; rw [vx]; split <;> simp only [Int.natAbs_neg, Int.natAbs_natCast]
  have hY : amt y = n * 2 ^ q := by unfold amt; rw [vy]; split <;> simp only [Int.natAbs_neg, Int.natAbs_natCast]
  have hn : n ≠ 0 := fun e => by rw [hY, e, Nat.zero_mul] at h0; exact absurd h0 (by omega)
  have hfb : Ieee.double.fractionBits + 2 = 54 := by decide
  unfold Ieee.Format.div
  rw [e1, e3, hfb]
  have hq : ((Ieee.Datum.number (negB x) m (-1074 + (p : Int))).quotient 54 (.number (negB y) n (-1074 + (q : Int)))).map Ieee.double.write = some (Ieee.double.nearest (negB x ^^ negB y) (2 * (m <<< (54 + n.log2 - m.log2) / n) + (m <<< (54 + n.log2 - m.log2) % n != 0).toNat) (-1074 + (p : Int) - (-1074 + (q : Int)) - ((54 + n.log2 - m.log2 : Nat) : Int) - 1)) := by
    unfold Ieee.Datum.quotient
    dsimp only
    rw [if_neg hn]; rfl
  refine ⟨_, hq, ?_⟩
  rw [Nat.shiftLeft_eq]
  generalize hM : 54 + n.log2 - m.log2 = k
  obtain ⟨Dd, hD⟩ : ∃ d, d = q + k + 1 := ⟨_, rfl⟩
  obtain ⟨P, hP⟩ : ∃ d, d = p + T := ⟨_, rfl⟩
  generalize hmag : 2 * (m * 2 ^ k / n) + (m * 2 ^ k % n != 0).toNat = mag
  have hmn : mag * n ≤ 3 * (m * 2 ^ k) := by
    by_cases hm : m = 0
    · subst hm
      rw [Nat.zero_mul, Nat.zero_div, Nat.zero_mod] at hmag
      have : mag = 0 := by rw [← hmag]; rfl
      rw [this, Nat.zero_mul]; exact Nat.zero_le _
    · rw [← hmag]
      exact quot_mag m n _ (by rw [← hM]; exact nat_more m n hm)
  have hE : mag * 2 ^ P * n ≤ 3 * (2 ^ k * (amt x * 2 ^ T)) := by
    rw [hX, hP, Nat.pow_add]
    have := Nat.mul_le_mul_right (2 ^ p * 2 ^ T) hmn
    have e5 : mag * (2 ^ p * 2 ^ T) * n = mag * n * (2 ^ p * 2 ^ T) := Nat.mul_right_comm _ _ _
    have e6 : 3 * (m * 2 ^ k) * (2 ^ p * 2 ^ T) = 3 * (2 ^ k * (m * 2 ^ p * 2 ^ T)) := by
      rw [Nat.mul_assoc 3, Nat.mul_comm m (2 ^ k), Nat.mul_assoc (2 ^ k), Nat.mul_assoc m]
    rw [e5, ← e6]; exact this
  have hDn : 2 ^ Dd * n = 2 * (2 ^ k * amt y) := by
    rw [hY, hD, Nat.pow_succ, Nat.pow_add, Nat.mul_comm (2 ^ q * 2 ^ k * 2) n, Nat.mul_comm (2 ^ q * 2 ^ k) 2, Nat.mul_left_comm n 2, Nat.mul_comm (2 ^ q) (2 ^ k), Nat.mul_left_comm n (2 ^ k)]
  have hlt : mag * 2 ^ P < 2 ^ (N + Dd) := by
    refine Nat.lt_of_mul_lt_mul_right (a := n) (Nat.lt_of_le_of_lt hE ?_)
    rw [Nat.pow_add, Nat.mul_assoc, hDn]
    have h5 := Nat.mul_lt_mul_of_pos_left hov (pow2_pos k)
    have e7 : 2 ^ N * (2 * (2 ^ k * amt y)) = 2 * (2 ^ k * (2 ^ N * amt y)) := by
      rw [Nat.mul_left_comm (2 ^ N) 2, Nat.mul_left_comm (2 ^ N) (2 ^ k)]
    have e8 : 3 * (2 ^ k * (amt x * 2 ^ T)) = 2 ^ k * (3 * (amt x * 2 ^ T)) := Nat.mul_left_comm _ _ _
    rw [e7, e8]
    omega
  obtain ⟨f1, f2, r, f3, f4, -, -⟩ := near_V (negB x ^^ negB y) mag (-1074 + (p : Int) - (-1074 + (q : Int)) - (k : Int) - 1) Dd P N hN (by rw [hD, hP, hT]; omega) hlt
  refine ⟨f1, f2, ?_⟩
  have hr : amt (Ieee.double.nearest (negB x ^^ negB y) mag (-1074 + (p : Int) - (-1074 + (q : Int)) - (k : Int) - 1)) = r := by
    unfold amt; rw [f3]; split <;> simp only [Int.natAbs_neg, Int.natAbs_natCast]
  rw [hr]
  exact div_lin r (amt y) (2 ^ k) (amt x * 2 ^ T) (mag * 2 ^ P) n (2 ^ Dd) (pow2_pos k) f4 hE hDn

end

section

open EP


theorem near_big' (neg : Bool) (mag L k t : Nat) (place : Int) (hp : place + 1074 = (t : Int)) (hm : mag.log2 = L) (hL : 2097 ≤ L + t) (h0 : mag ≠ 0) (hk : k = L + t - 52) : ∃ r, Ieee.double.nearest neg mag place = Ieee.double.word neg r ∧ 9209861237972664320 ≤ r ∧ r ≤ 9218868437227405312 := by
  have hlp : Ieee.double.leastPlace = -1074 := by decide
  have hfb : (Ieee.double.fractionBits : Int) = 52 := by decide
  have hbi : Ieee.double.binade = 4503599627370496 := by decide
  have hir : Ieee.double.infRung = 9218868437227405312 := by decide
  have e1 : (max (place + (L : Int) - 52) (-1074) - -1074).toNat = k := by omega
  have hn : ∃ c, Ieee.double.nearest neg mag place = Ieee.double.word neg (min ((max (place + (mag.log2 : Int) - (Ieee.double.fractionBits : Int)) Ieee.double.leastPlace - Ieee.double.leastPlace).toNat * Ieee.double.binade + c) Ieee.double.infRung) := by
    unfold Ieee.Format.nearest
    rw [if_neg h0]
    exact ⟨_, rfl⟩
  obtain ⟨c, hn⟩ := hn
  rw [hm, hlp, hfb, hbi, hir, e1] at hn
  refine ⟨_, hn, ?_, Nat.min_le_right _ _⟩
  have : 2045 ≤ k := by omega
  clear hn e1 hm hp h0 hk hL hir hbi hlp hfb
  omega

theorem big_out' (neg : Bool) (mag t N : Nat) (hN : N = 2097) (h : 2 ^ N ≤ mag * 2 ^ t) : ¬ bd (Ieee.double.nearest neg mag (-1074 + (t : Int))) 1474 := by
  intro hb
  have h0 : mag ≠ 0 := fun e => by rw [e, Nat.zero_mul] at h; exact absurd h (Nat.not_le.2 (Nat.two_pow_pos N))
  have hL : 2097 ≤ mag.log2 + t := by
    refine Nat.le_of_not_lt fun hlt => ?_
    have h1 : mag < 2 ^ (mag.log2 + 1) := Nat.lt_log2_self
    have h2 : mag * 2 ^ t < 2 ^ (mag.log2 + 1) * 2 ^ t := Nat.mul_lt_mul_of_pos_right h1 (pow2_pos t)
    rw [← Nat.pow_add] at h2
    have h3 : 2 ^ (mag.log2 + 1 + t) ≤ 2 ^ N := Nat.pow_le_pow_right (by decide) (by omega)
    exact absurd (Nat.lt_of_lt_of_le h2 h3) (Nat.not_lt.2 h)
  obtain ⟨r, e, h1, h2⟩ := near_big' neg mag mag.log2 (mag.log2 + t - 52) t (-1074 + (t : Int)) (by omega) rfl hL h0 rfl
  rw [e] at hb
  obtain ⟨g1, g2, -⟩ := word_read neg r (by omega)
  have hf : r < 9218868437227405312 := by have := of_decide_eq_true hb.1; rwa [g1] at this
  obtain ⟨-, f2, -⟩ := word_V neg r hf
  have hR := R_big r h1 hf
  have := hb.2
  rw [f2] at this
  have hn : (if neg then - (R r : Int) else (R r : Int)).natAbs = R r := by split <;> simp only [Int.natAbs_neg, Int.natAbs_natCast]
  rw [hn] at this
  exact absurd this (Nat.not_le.2 hR)

theorem scale_abs (T : Int) (Z : Nat) (S : Int) (h : T * (Z : Int) = S) : T.natAbs * Z = S.natAbs := by rw [← h, Int.natAbs_mul]; rfl

/-- A sum that is too great is no number of a moderate size. -/
theorem add_big (a b N : Nat) (hN : N = 2097) (ha : finB a = true) (hb : finB b = true) (h : 2 ^ N ≤ (V a + V b).natAbs) : ∃ r, Ieee.double.add a b = some r ∧ ¬ bd r 1474 := by
  obtain ⟨m, p, e1, e2, -⟩ := read_fin a ha
  obtain ⟨n, q, e3, e4, -⟩ := read_fin b hb
  unfold Ieee.Format.add
  rw [e1, e3]
  obtain ⟨neg, e⟩ := sum_near (negB a) (negB b) m n (-1074 + (p : Int)) (-1074 + (q : Int))
  refine ⟨_, e, ?_⟩
  obtain ⟨t, ht⟩ : ∃ t : Nat, t = min p q := ⟨_, rfl⟩
  have hm : min (-1074 + (p : Int)) (-1074 + (q : Int)) = -1074 + (t : Int) := by omega
  have hp : (-1074 + (p : Int) - (-1074 + (t : Int))).toNat = p - t := by omega
  have hq : (-1074 + (q : Int) - (-1074 + (t : Int))).toNat = q - t := by omega
  rw [hm, hp, hq]
  refine big_out' neg _ t N hN ?_
  rw [scale_abs _ (2 ^ t) (V a + V b) ?_]
  · exact h
  · rw [Int.add_mul, signed_scale (negB a) m (p - t) t p (by omega), signed_scale (negB b) n (q - t) t q (by omega), V_mk a m p e2, V_mk b n q e4]

theorem absF_lt (h : Nat) : absF h < 9223372036854775808 := by unfold absF; omega
theorem absF_V (h : Nat) : V (absF h) = (amt h : Int) ∧ finB (absF h) = finB h := by
  have hl := absF_lt h
  have hm : absF h % 9223372036854775808 = h % 9223372036854775808 := by unfold absF; omega
  refine ⟨?_, ?_⟩
  · unfold amt V
    have hn : negB (absF h) = false := by unfold negB; rw [show absF h / 9223372036854775808 = 0 by omega]; rfl
    rw [hn, hm]
    cases negB h <;> simp
  · unfold finB; rw [hm]
theorem neg_V (x : Nat) (hx : x < 18446744073709551616) : V (Op.negFloat .f64 x) = - V x ∧ finB (Op.negFloat .f64 x) = finB x ∧ Op.negFloat .f64 x < 18446744073709551616 := by
  have hm : Op.negFloat .f64 x % 9223372036854775808 = x % 9223372036854775808 ∧ negB (Op.negFloat .f64 x) = !negB x ∧ Op.negFloat .f64 x < 18446744073709551616 := by
    by_cases h1 : 9223372036854775808 ≤ x
    · rw [xor_sign x h1 hx]
      have hl := absF_lt x
      refine ⟨by unfold absF; omega, ?_, by omega⟩
      unfold negB
      rw [show absF x / 9223372036854775808 = 0 by omega, show x / 9223372036854775808 = 1 by omega]; rfl
    · have e : Op.negFloat .f64 x = 9223372036854775808 + x := by
        show x ^^^ 2 ^ 63 = 2 ^ 63 + x
        have hx' : x < 2 ^ 63 := by omega
        refine Nat.eq_of_testBit_eq fun i => ?_
        rw [Nat.testBit_xor, Nat.testBit_two_pow]
        rcases Nat.lt_trichotomy i 63 with h | h | h
        · rw [Nat.testBit_two_pow_add_gt h, show decide (63 = i) = false from decide_eq_false (by omega), Bool.xor_false]
        · subst h; rw [Nat.testBit_two_pow_add_eq]; simp
        · have h4 : (2 ^ 63 + x).testBit i = false := Nat.testBit_lt_two_pow (Nat.lt_of_lt_of_le (show 2 ^ 63 + x < 2 ^ 64 by omega) (Nat.pow_le_pow_right (by decide) (by omega)))
          have h3 : x.testBit i = false := Nat.testBit_lt_two_pow (Nat.lt_of_lt_of_le hx' (Nat.pow_le_pow_right (by decide) (by omega)))
          rw [h4, h3, show decide (63 = i) = false from decide_eq_false (by omega)]; rfl
      rw [e]
      refine ⟨by omega, ?_, by omega⟩
      unfold negB
      rw [show (9223372036854775808 + x) / 9223372036854775808 = 1 by omega, show x / 9223372036854775808 = 0 by omega]; rfl
  obtain ⟨h1, h2, h3⟩ := hm
  refine ⟨?_, by unfold finB; rw [h1], h3⟩
  unfold V
  rw [h1, h2]
  cases negB x <;> simp

theorem le_V (x c : Nat) (hx : finB x = true) (hc : finB c = true) (h : (Ieee.double.order x c == some .lt || Ieee.double.order x c == some .eq) = true) : V x ≤ V c := by
  simp only [Bool.or_eq_true, beq_iff_eq] at h
  rcases h with h | h
  · exact Int.le_of_lt (order_lt_V x c hx hc h)
  · exact Int.le_of_eq (order_eq_V x c hx hc h)
theorem top_V : V 5958262307011166208 = ((2 ^ 1374 : Nat) : Int) := by decide +kernel
theorem low_V : V 3256102530588868608 = ((2 ^ 774 : Nat) : Int) := by decide +kernel

/-- what a right pair's floats are -/
def PB (h l : Nat) : Prop := finB h = true ∧ finB l = true ∧ amt h ≤ 2 ^ 1374 ∧ amt l ≤ amt h ∧ (isZ h = false → 2 ^ 774 ≤ amt h)

theorem fin_of_le2 (h : Nat) (h2 : le2 (absF h) = true) : finB h = true := by
  cases hf : finB h with
  | true => rfl
  | false =>
    have hf' : finB (absF h) = false := (absF_V h).2.trans hf
    have hn : negB (absF h) = false := by
      have := absF_lt h
      unfold negB; rw [show absF h / 9223372036854775808 = 0 by omega]; rfl
    unfold le2 at h2
    rcases order_wild (absF h) 5958262307011166208 hf' (by decide) with e | e
    · rw [e] at h2; exact absurd h2 (by decide)
    · rw [e, hn] at h2; exact absurd h2 (by decide)
theorem lin_lo (h l r : Int) (e : r = h) (s : 9007199254740992 * (r - (h + l)).natAbs ≤ (h + l).natAbs) : l.natAbs ≤ h.natAbs := by omega
theorem sum_wild (h l r : Nat) (fh : finB h = true) (fl : finB l = false) (e : Ieee.double.add h l = some r) : finB r = false := by
  obtain ⟨m, p, e1, -⟩ := read_fin h fh
  unfold Ieee.Format.add at e
  rw [e1] at e
  rcases read_wild l fl with hl | ⟨f, hl⟩
  · rw [hl] at e
    have e' : some (Ieee.double.word (negB l) Ieee.double.infRung) = some r := e
    obtain rfl := Option.some.inj e'
    cases negB l <;> decide
  · rw [hl] at e
    cases e

theorem right_PB (h l : Nat) (hr : rightP h l = true) : PB h l := by
  unfold rightP at hr
  cases hz : isZ h with
  | true =>
    rw [hz, if_pos rfl] at hr
    obtain ⟨a1, a2⟩ := zero_V h hz
    obtain ⟨b1, b2⟩ := zero_V l hr
    have a3 : amt h = 0 := by unfold amt; rw [a2]; rfl
    have b3 : amt l = 0 := by unfold amt; rw [b2]; rfl
    exact ⟨a1, b1, by rw [a3]; exact Nat.zero_le _, by rw [b3]; exact Nat.zero_le _, fun e => by cases hz.symm.trans e⟩
  | false =>
    rw [hz, if_neg (by simp)] at hr
    simp only [Bool.and_eq_true] at hr
    obtain ⟨l1, l2, l3⟩ := hr
    have fh := fin_of_le2 h l2
    have fa : finB (absF h) = true := (absF_V h).2.trans fh
    have t1 := le_V (absF h) 5958262307011166208 fa (by decide) l2
    have t2 := le_V 3256102530588868608 (absF h) (by decide) fa l1
    rw [(absF_V h).1, top_V] at t1
    rw [(absF_V h).1, low_V] at t2
    have s1 : amt h ≤ 2 ^ 1374 := Int.ofNat_le.1 t1
    have s2 : 2 ^ 774 ≤ amt h := Int.ofNat_le.1 t2
    unfold sumEq at l3
    cases ha : Ieee.double.add h l with
    | none => rw [ha] at l3; cases l3
    | some r =>
      rw [ha] at l3
      have l4 : Ieee.double.order r h = some .eq := eq_of_beq l3
      have fr := eq_fin r h fh l4
      have vr := order_eq_V r h fr fh l4
      have fl : finB l = true := by
        cases hf : finB l with
        | true => rfl
        | false => rw [sum_wild h l r fh hf ha] at fr; cases fr
      refine ⟨fh, fl, s1, ?_, fun _ => s2⟩
      obtain ⟨N, hN⟩ : ∃ N, N = 2097 := ⟨_, rfl⟩
      by_cases hs : (V h + V l).natAbs < 2 ^ N
      · obtain ⟨r', e', -, -, s⟩ := add_spec h l N hN fh fl hs
        rw [ha] at e'
        obtain rfl := Option.some.inj e'
        exact lin_lo (V h) (V l) (V r) vr s
      · obtain ⟨r', e', nb⟩ := add_big h l N hN fh fl (Nat.le_of_not_lt hs)
        rw [ha] at e'
        obtain rfl := Option.some.inj e'
        refine absurd ⟨fr, ?_⟩ nb
        rw [vr]
        exact Nat.le_trans s1 (pow_le2 1374 1474 (by decide))

theorem PB.hi {h l : Nat} (p : PB h l) : bd h 1374 := ⟨p.1, p.2.2.1⟩
theorem PB.lo {h l : Nat} (p : PB h l) : bd l 1374 := ⟨p.2.1, Nat.le_trans p.2.2.2.1 p.2.2.1⟩
theorem bd_neg {x n : Nat} (hx : x < 18446744073709551616) (h : bd x n) : bd (Op.negFloat .f64 x) n := by
  obtain ⟨h1, h2, -⟩ := neg_V x hx
  refine ⟨h2.trans h.1, ?_⟩
  rw [h1, Int.natAbs_neg]; exact h.2

theorem sum_bd {xh xl yh yl : Nat} (a : bd xh 1374) (b : bd xl 1374) (c : bd yh 1374) (d : bd yl 1374) : ∃ s t, sumP xh xl yh yl = some (s, t) ∧ finB s = true ∧ finB t = true := by
  obtain ⟨s, t, e1, b1, b2⟩ := twoSum_bd a c (by decide)
  obtain ⟨u, v, e2, b3, b4⟩ := twoSum_bd b d (by decide)
  obtain ⟨k, e3, -, b5⟩ := fo_add b2 (b3.mono (by decide)) (by decide)
  obtain ⟨p, q, e4, b6, b7⟩ := fast_bd (b1.mono (by decide)) b5 (by decide)
  obtain ⟨m, e5, -, b8⟩ := fo_add (b4.mono (by decide)) b7 (by decide)
  obtain ⟨x, y, e6, b9, b10⟩ := fast_bd (b6.mono (by decide)) b8 (by decide)
  exact ⟨x, y, by simp only [sumP, e1, e2, e3, e4, e5, e6, Option.bind_some], b9.1, b10.1⟩
theorem prod_bd {xh xl yh yl : Nat} (a : bd xh 1374) (b : bd xl 1374) (c : bd yh 1374) (d : bd yl 1374) : ∃ s t, prodP xh xl yh yl = some (s, t) ∧ finB s = true ∧ finB t = true := by
  obtain ⟨p, e, e1, b1, b2⟩ := twoProd_bd (k := 1674) a c (by decide) (by decide)
  obtain ⟨f, e2, -, b3⟩ := fo_mul (k := 1674) a d (by decide) (by decide)
  obtain ⟨g, e3, -, b4⟩ := fo_mul (k := 1674) b c (by decide) (by decide)
  obtain ⟨h, e4, -, b5⟩ := fo_add b3 b4 (by decide)
  obtain ⟨i, e5, -, b6⟩ := fo_add b2 (b5.mono (by decide)) (by decide)
  obtain ⟨x, y, e6, b9, b10⟩ := fast_bd (b1.mono (by decide)) b6 (by decide)
  exact ⟨x, y, by simp only [prodP, e1, e2, e3, e4, e5, e6, Option.bind_some], b9.1, b10.1⟩

end

end Go.Proofs.Ytlbaphijmonjoaa.Fp

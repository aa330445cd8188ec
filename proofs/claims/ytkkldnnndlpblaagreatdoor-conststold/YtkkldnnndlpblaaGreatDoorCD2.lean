/- The document's series: numbers with an error in units, in boxes. -/
import Derived.Test.YtkkldnnndlpblaaGreatDoorCD1
import Derived.Test.YtkkldnnndlpblaaGreatDoorCF4
namespace Go.Proofs.YtkkldnnndlpblaaGreatDoor
open Go.RowKit Ck

/-- a number with its error in block b, its words in no block of Z -/
def FxAt (Z : Nat → Prop) (B : Nat) (w : World) (b X e : Nat) : Prop := ∃ (a : Option Addr) (n c : Nat), w.cell? ⟨b, 0, none⟩ = some (.slice a n c) ∧ w.frozen? ⟨b, 0, none⟩ = false ∧ w.cell? ⟨b, 1, none⟩ = some (.int .u64 (e : Int)) ∧ w.frozen? ⟨b, 1, none⟩ = false ∧ n ≤ 1024 ∧ OwnW B w a n c (wordsOf X) ∧ NoS Z a n
theorem FxAt.keep {Z S : Nat → Prop} {B b X e : Nat} {w w' : World} (h : FxAt Z B w b X e) (K : Ks S w w') (hb : ¬ S b) (hZ : ∀ k, S k → Z k) : FxAt Z B w' b X e := by
  obtain ⟨a, n, c, k1, k2, k3, k4, k5, k6, k7⟩ := h
  exact ⟨a, n, c, K.cell k1 hb, K.frozen k1 hb k2, K.cell k3 hb, K.frozen k3 hb k4, k5, k6.keepS (fun x o e hn hx => k7 x o e hn (hZ x hx)) K, k7⟩
theorem FxAt.keepB {Z : Nat → Prop} {B b X e : Nat} {w w' : World} (h : FxAt Z B w b X e) (K : Below w.heap.size w w') : FxAt Z B w' b X e := h.keep (Ks.of_below (S := fun _ => False) K) (fun e => e) (fun _ e => e.elim)
theorem FxAt.lt {Z : Nat → Prop} {B b X e : Nat} {w : World} (h : FxAt Z B w b X e) : b < w.heap.size := by
  obtain ⟨a, n, c, k1, -⟩ := h
  exact World.block_lt_of_cell? _ _ k1
theorem FxAt.put {Z : Nat → Prop} {B b X e r : Nat} {w : World} {a : Option Addr} {n c : Nat} (e' : Nat) (h : FxAt Z B w b X e) (hZ : Z b) (hn : n ≤ 1024) (hi : OwnW B w a n c (wordsOf r)) (hz : NoS Z a n) :
    FxAt Z B ((w.setCell ⟨b, 0, none⟩ (.slice a n c)).setCell ⟨b, 1, none⟩ (.int .u64 (e' : Int))) b r e' ∧ Ks (fun k => k = b) w ((w.setCell ⟨b, 0, none⟩ (.slice a n c)).setCell ⟨b, 1, none⟩ (.int .u64 (e' : Int))) := by
  obtain ⟨a0, n0, c0, k1, k2, k3, k4, k5, k6, k7⟩ := h
  obtain ⟨t1, t2, t3⟩ := st1 (S := fun k => k = b) (.slice a n c) k1 k2 rfl
  have e1 : (w.setCell ⟨b, 0, none⟩ (.slice a n c)).cell? ⟨b, 1, none⟩ = some (.int .u64 (e : Int)) := (World.cell?_setCell_other w ⟨b, 0, none⟩ ⟨b, 1, none⟩ (.slice a n c) (by simp)).trans k3
  have e2 : (w.setCell ⟨b, 0, none⟩ (.slice a n c)).frozen? ⟨b, 1, none⟩ = false := (World.frozen?_setCell w _ _ _).trans k4
  obtain ⟨u1, u2, u3⟩ := st1 (S := fun k => k = b) (.int .u64 (e' : Int)) e1 e2 rfl
  have K := t3.trans u3
  have f1 : ((w.setCell ⟨b, 0, none⟩ (.slice a n c)).setCell ⟨b, 1, none⟩ (.int .u64 (e' : Int))).cell? ⟨b, 0, none⟩ = some (.slice a n c) := (World.cell?_setCell_other _ ⟨b, 1, none⟩ ⟨b, 0, none⟩ _ (by simp)).trans t1
  exact ⟨⟨a, n, c, f1, (World.frozen?_setCell _ _ _ _).trans t2, u1, u2, hn, hi.keepS (fun x o e hn hx => hz x o e hn (by rw [hx]; exact hZ)) K, hz⟩, K⟩
theorem fx_zero (Z : Nat → Prop) (B : Nat) (w : World) : FxAt Z B (w.alloc (.cells #[.slice none 0 0, .int .u64 0] 74)) w.heap.size 0 0 :=
  ⟨none, 0, 0, by go_simp, by go_simp, by go_simp, by go_simp, by decide, by rw [words_zero]; exact ownW_nil _ _, NoS.nil Z⟩
theorem fx_new {Z : Nat → Prop} {B : Nat} {w : World} {a : Option Addr} {n c X : Nat} (e : Nat) (hn : n ≤ 1024) (hi : OwnW B w a n c (wordsOf X)) (hz : NoS Z a n) :
    FxAt Z B (w.alloc (.cells #[.slice a n c, .int .u64 (e : Int)] 74)) w.heap.size X e :=
  ⟨a, n, c, by go_simp, by go_simp, by go_simp, by go_simp, hn, hi.keep (below_alloc w (.cells #[.slice a n c, .int .u64 (e : Int)] 74)), hz⟩
theorem fxSmall2 {a : Option Addr} {n c X : Nat} (ex d0 : Nat) {w : World} (hX : IsW w a n c (wordsOf X)) (hn : n ≤ 1024) (h3 : 3 ≤ d0) (hd1 : d0 < 65536) (g : greatB X = false) (he : ex ≤ 2) :
    Calls Tryz.prog 115 #[.agg #[.slice a n c, .int .u64 (ex : Int)], .int .u64 (d0 : Int)] w fun r w' => ∃ (ao : Option Addr) (m d e : Nat), r = .returned (.agg #[.slice ao m d, .int .u64 (e : Int)]) ∧ Hid (e = 2) ∧ m ≤ 1024 ∧ OwnW w.heap.size w' ao m d (wordsOf (X / d0)) ∧ Below w.heap.size w w' := by
  refine Calls.mono (fxSmall a n c X ex d0 w hX hn (by omega) hd1 g (by omega)) ?_
  rintro r w' ⟨ao, m, d, rfl, h1, h2, h3⟩
  exact ⟨ao, m, d, _, rfl, (by show ex / d0 + 2 = 2; rw [Nat.div_eq_of_lt (by omega)]), h1, h2, h3⟩
theorem fxAdd2 {a a' : Option Addr} {n c X n' c' Y : Nat} (ex ey : Nat) {w : World} (hX : IsW w a n c (wordsOf X)) (hn : n ≤ 1024) (hY : IsW w a' n' c' (wordsOf Y)) (hn' : n' ≤ 1024) (g : greatB (X + Y) = false) (he : ex + ey < 4294967296) :
    Calls Tryz.prog 114 #[.agg #[.slice a n c, .int .u64 (ex : Int)], .agg #[.slice a' n' c', .int .u64 (ey : Int)]] w fun r w' => ∃ (ao : Option Addr) (m d e : Nat), r = .returned (.agg #[.slice ao m d, .int .u64 (e : Int)]) ∧ Hid (e = ex + ey) ∧ m ≤ 1024 ∧ OwnW w.heap.size w' ao m d (wordsOf (X + Y)) ∧ Below w.heap.size w w' := by
  refine Calls.mono (fxAdd a n c X ex a' n' c' Y ey w hX hn hY hn' g he) ?_
  rintro r w' ⟨ao, m, d, rfl, h1, h2, h3⟩
  exact ⟨ao, m, d, _, rfl, rfl, h1, h2, h3⟩
theorem fxSub2 {a a' : Option Addr} {n c X n' c' Y : Nat} (ex ey : Nat) {w : World} (hX : IsW w a n c (wordsOf X)) (hn : n ≤ 1024) (hY : IsW w a' n' c' (wordsOf Y)) (hn' : n' ≤ 1024) (g : greatB X = false) (hl : Y + ey ≤ X) (he : ex + ey < 4294967296) :
    Calls Tryz.prog 111 #[.agg #[.slice a n c, .int .u64 (ex : Int)], .agg #[.slice a' n' c', .int .u64 (ey : Int)]] w fun r w' => ∃ (ao : Option Addr) (m d e : Nat), r = .returned (.agg #[.slice ao m d, .int .u64 (e : Int)]) ∧ Hid (e = ex + ey) ∧ m ≤ 1024 ∧ OwnW w.heap.size w' ao m d (wordsOf (X - (Y + ey))) ∧ Below w.heap.size w w' := by
  refine Calls.mono (fxSub a n c X ex a' n' c' Y ey w hX hn hY hn' g hl he) ?_
  rintro r w' ⟨ao, m, d, rfl, h1, h2, h3⟩
  exact ⟨ao, m, d, _, rfl, rfl, h1, h2, h3⟩
theorem fxTimes2 {a : Option Addr} {n c X : Nat} (ex d0 : Nat) {w : World} (hX : IsW w a n c (wordsOf X)) (hn : n ≤ 1024) (hd1 : d0 < 65536) (g : greatB (X * d0) = false) (he : ex < 4294967296) :
    Calls Tryz.prog 112 #[.agg #[.slice a n c, .int .u64 (ex : Int)], .int .u64 (d0 : Int)] w fun r w' => ∃ (ao : Option Addr) (m d e : Nat), r = .returned (.agg #[.slice ao m d, .int .u64 (e : Int)]) ∧ Hid (e = ex * d0) ∧ m ≤ 1024 ∧ OwnW w.heap.size w' ao m d (wordsOf (X * d0)) ∧ Below w.heap.size w w' := by
  refine Calls.mono (fxTimes a n c X ex d0 w hX hn hd1 g he) ?_
  rintro r w' ⟨ao, m, d, rfl, h1, h2, h3⟩
  exact ⟨ao, m, d, _, rfl, rfl, h1, h2, h3⟩

set_option maxRecDepth 100000 in
set_option maxHeartbeats 2000000 in
theorem fxOne (q : Nat) (hq : q ≤ 65000) (w : World) : Calls Tryz.prog 77 #[.int .i64 (q : Int)] w fun r w' => ∃ (ao : Option Addr) (m d : Nat), r = .returned (FixV ao m d 0) ∧ m ≤ 1024 ∧ OwnW w.heap.size w' ao m d (wordsOf (2 ^ q)) ∧ Below w.heap.size w w' := by
  have g : greatB (1 * 2 ^ q) = false := cf_great (k := q + 1) (by rw [Nat.one_mul]; exact Nat.pow_lt_pow_right (by decide) (by omega)) (by omega)
  have bA := below_alloc w (.cells #[.slice none 0 0, .int .u64 0] 74)
  have C := fx_zero (fun k => k = w.heap.size) w.heap.size w
  go_enter Tryz.func77, Tryz.ntmps77
  go_wp2_with fail
  generalize w.alloc (.cells #[.slice none 0 0, .int .u64 0] 74) = v at *
  have CB : w.heap.size < v.heap.size := C.lt
  refine Calls.mono (dOf_eq 1 rfl (by decide)) ?_
  rintro r w1 ⟨a1, m1, c1, rfl, hm1, hO1, b1⟩
  go_wp2_with fail
  refine Calls.mono (dShl_eq hO1.1 hm1 (by omega) g) ?_
  rintro r w2 ⟨ao, m, d, rfl, hm, hO, b2⟩
  have b3 := below_trans b1 b2
  have C2 := C.keepB b3
  rw [Nat.one_mul] at hO
  obtain ⟨a0, n0, c0, z0, f0, z1, f1, -⟩ := C2
  have hz := b3.size
  have hz2 := bA.size
  have hz3 := b1.size
  go_wp2_with fail
  have KF := ks_two (fun k => k = w.heap.size) w2 w.heap.size rfl (.slice ao m d) (.int .u64 ((0 : Nat) : Int))
  refine bodyPost_ret (v := FixV ao m d 0) (by simp [results, Tryz.results77, go_sem, FixV, z0, z1]) rfl ⟨ao, m, d, rfl, hm, ?_, ?_⟩
  · exact (hO.keepS (hO.nw.noS (fun b (e : b = w.heap.size) => by omega)) KF).low (by omega)
  · exact (bA.trans (b3.mono (by omega))).trans (KF.below w.heap.size (by omega) (fun b (e : b = w.heap.size) => by omega))

theorem div_nn (q n j : Nat) : 2 ^ q / (n * (n * n) ^ j) / n / n = 2 ^ q / (n * (n * n) ^ (j + 1)) := by
  rw [Nat.div_div_eq_div_mul, Nat.div_div_eq_div_mul, Nat.pow_succ, Nat.mul_assoc]
theorem sd_dq (n j : Nat) (tn : Bool) : sd (dq n tn) j = (tn && j % 2 == 1) := by
  cases tn
  · rfl
  · show (false != (true && j % 2 == 1)) = (true && j % 2 == 1)
    cases (j % 2 == 1) <;> rfl
theorem ns_step (p : Pt) (s : Bool) (j : Nat) : ns p s (j + 1) = ns p s j + if sd p j = s then 1 else 0 := rfl
set_option maxRecDepth 100000 in
set_option maxHeartbeats 4000000 in
def zB (B C : Nat) : Nat → Prop := fun k => k = B ∨ k = C ∨ k = C + 1 ∨ k = C + 1 + 1
theorem stepT {n j q : Nat} {tn : Bool} (h : sd (dq n tn) j = true) : sm (dq n tn) q true (j + 1) = sm (dq n tn) q true j + term (dq n tn) q j ∧ sm (dq n tn) q false (j + 1) = sm (dq n tn) q false j ∧ ns (dq n tn) true (j + 1) = ns (dq n tn) true j + 1 ∧ ns (dq n tn) false (j + 1) = ns (dq n tn) false j := by
  rw [sm_step, sm_step, ns_step, ns_step, h]; exact ⟨rfl, rfl, rfl, rfl⟩
theorem stepF {n j q : Nat} {tn : Bool} (h : sd (dq n tn) j = false) : sm (dq n tn) q false (j + 1) = sm (dq n tn) q false j + term (dq n tn) q j ∧ sm (dq n tn) q true (j + 1) = sm (dq n tn) q true j ∧ ns (dq n tn) false (j + 1) = ns (dq n tn) false j + 1 ∧ ns (dq n tn) true (j + 1) = ns (dq n tn) true j := by
  rw [sm_step, sm_step, ns_step, ns_step, h]; exact ⟨rfl, rfl, rfl, rfl⟩
/-- where the document's series stands after j terms -/
def InvR (n q : Nat) (tn : Bool) (w : World) (C j e : Nat) (wr : World) : Prop :=
  FxAt (zB w.heap.size C) w.heap.size wr C (2 ^ q / (n * (n * n) ^ j)) e ∧ FxAt (zB w.heap.size C) w.heap.size wr (C + 1) (sm (dq n tn) q false (j + 1)) (2 * ns (dq n tn) false (j + 1)) ∧ FxAt (zB w.heap.size C) w.heap.size wr (C + 1 + 1) (sm (dq n tn) q true (j + 1)) (2 * ns (dq n tn) true (j + 1)) ∧ FxAt (zB w.heap.size C) w.heap.size wr w.heap.size 0 0 ∧ Below w.heap.size w wr
theorem inv0 {n q e : Nat} {tn : Bool} {w w2 : World} {a : Option Addr} {m c : Nat} (hw : w.heap.size < w2.heap.size) (hm : m ≤ 1024) (hO : OwnW w.heap.size w2 a m c (wordsOf (2 ^ q / n))) (hz : NoS (zB w.heap.size w2.heap.size) a m) (he : e = 2) (h6 : FxAt (zB w.heap.size w2.heap.size) w.heap.size w2 w.heap.size 0 0) (hb : Below w.heap.size w w2) :
    InvR n q tn w w2.heap.size 0 e (((w2.alloc (.cells #[.slice a m c, .int .u64 (e : Int)] 74)).alloc (.cells #[.slice a m c, .int .u64 (e : Int)] 74)).alloc (.cells #[.slice none 0 0, .int .u64 0] 74)) := by
  have b1 := below_alloc w2 (.cells #[.slice a m c, .int .u64 (e : Int)] 74)
  have f7 := fx_new (Z := zB w.heap.size w2.heap.size) e hm hO hz
  have s1 : (w2.alloc (.cells #[.slice a m c, .int .u64 (e : Int)] 74)).heap.size = w2.heap.size + 1 := by go_simp
  have b2 := below_alloc (w2.alloc (.cells #[.slice a m c, .int .u64 (e : Int)] 74)) (.cells #[.slice a m c, .int .u64 (e : Int)] 74)
  have f8 := fx_new (Z := zB w.heap.size w2.heap.size) e hm (hO.keep b1) hz
  have s2 : ((w2.alloc (.cells #[.slice a m c, .int .u64 (e : Int)] 74)).alloc (.cells #[.slice a m c, .int .u64 (e : Int)] 74)).heap.size = w2.heap.size + 1 + 1 := by go_simp
  have b3 := below_alloc ((w2.alloc (.cells #[.slice a m c, .int .u64 (e : Int)] 74)).alloc (.cells #[.slice a m c, .int .u64 (e : Int)] 74)) (.cells #[.slice none 0 0, .int .u64 0] 74)
  have f9 := fx_zero (zB w.heap.size w2.heap.size) w.heap.size ((w2.alloc (.cells #[.slice a m c, .int .u64 (e : Int)] 74)).alloc (.cells #[.slice a m c, .int .u64 (e : Int)] 74))
  rw [s2] at f9
  rw [s1] at f8
  have B2 := below_trans b1 b2
  have B3 := below_trans B2 b3
  have hsd : sd (dq n tn) 0 = false := by rw [sd_dq]; cases tn <;> rfl
  obtain ⟨q1, q2, q3, q4⟩ := stepF (q := q) hsd
  have t0 : term (dq n tn) q 0 = 2 ^ q / n := by rw [dq_term]; simp
  have z0 : sm (dq n tn) q false 0 = 0 := rfl
  have z1 : sm (dq n tn) q true 0 = 0 := rfl
  have z2 : ns (dq n tn) false 0 = 0 := rfl
  have z3 : ns (dq n tn) true 0 = 0 := rfl
  refine ⟨?_, ?_, ?_, h6.keepB B3, hb.trans (B3.mono (by omega))⟩
  · rw [Nat.pow_zero, Nat.mul_one]
    exact f7.keepB (below_trans b2 b3)
  · rw [q1, q3, z0, z2, t0, Nat.zero_add, show 2 * (0 + 1) = e by omega]
    exact f8.keepB b3
  · rw [q2, q4, z1, z3]
    exact f9
set_option maxRecDepth 100000 in
set_option maxHeartbeats 4000000 in
theorem inverse_calls (n : Nat) (hn3 : 3 ≤ n) (hn4 : n < 65536) (tn : Bool) (q : Nat) (hq : q ≤ 8300) (hq4 : 40 ≤ q) (hb : bchk (dq n tn) = true) (w : World) :
    Calls Tryz.prog 113 #[.int .u64 (n : Int), .bool tn, .int .i64 (q : Int)] w fun r w' => ∃ (ao : Option Addr) (m d e : Nat), r = .returned (.agg #[.slice ao m d, .int .u64 (e : Int)]) ∧ Hid (e = iE n q) ∧ m ≤ 1024 ∧ OwnW w.heap.size w' ao m d (wordsOf (iA n tn q)) ∧ Below w.heap.size w w' := by
  have bA := below_alloc w (.cells #[.slice none 0 0, .int .u64 0] 74)
  have gq : greatB (2 ^ q) = false := cf_great (k := q + 1) (Nat.pow_lt_pow_right (by decide) (by omega)) (by omega)
  have gx : ∀ x, x ≤ 2 ^ q → greatB x = false := fun x hx => great_mono hx gq
  obtain ⟨mz1, mz2, mz3⟩ := mz_spec n q hn3
  obtain ⟨ap1, ap2⟩ := apart (dq n tn) (dq_ok n tn hn3 hn4) hb q hq4
  obtain ⟨ip1, ip2⟩ := iP_eq n tn q hn3 hn4
  have sl := small q hq4
  have nsl : ∀ (s : Bool) (j : Nat), ns (dq n tn) s j ≤ j := fun s j => by have := ns_all (dq n tn) j; cases s <;> omega
  have sle : ∀ (s : Bool) (j : Nat), j ≤ iJ n q → sm (dq n tn) q s j ≤ 2 ^ q := fun s j hj => by
    have h1 := sm_mono (dq n tn) q s j _ hj
    have h2 : iP n tn q = sm (dq n tn) q false (iJ n q) := rfl
    have h3 : iL n tn q = sm (dq n tn) q true (iJ n q) := rfl
    cases s
    · rw [h2] at ip1; omega
    · rw [h3] at ip2; omega
  have hJ : iJ n q = mz n q + 1 := rfl
  have C6 : ∀ Z, FxAt Z w.heap.size (w.alloc (.cells #[.slice none 0 0, .int .u64 0] 74)) w.heap.size 0 0 := fun Z => fx_zero Z w.heap.size w
  have hD : Hid (sm (dq n tn) q true (iJ n q) + (2 * ns (dq n tn) true (iJ n q) + 4) ≤ sm (dq n tn) q false (iJ n q) ∧ greatB (sm (dq n tn) q false (iJ n q)) = false ∧ (2 * ns (dq n tn) false (iJ n q) + 4) + (2 * ns (dq n tn) true (iJ n q) + 4) = iE n q) := by
    have h2 : iP n tn q = sm (dq n tn) q false (iJ n q) := rfl
    have h3 : iL n tn q = sm (dq n tn) q true (iJ n q) := rfl
    have h4 : iE n q = 2 * iJ n q + 8 := rfl
    have h5 := ns_all (dq n tn) (iJ n q)
    have h6 := nsl true (iJ n q)
    rw [h2] at ip1
    rw [h3] at ip2
    exact ⟨by omega, gx _ (sle _ _ (Nat.le_refl _)), by omega⟩
  clear ap1 ap2 ip1 ip2 hb
  go_enter Tryz.func113, Tryz.ntmps113
  go_wp2_with fail
  have cz := (C6 (fun _ => True)).lt
  generalize w.alloc (.cells #[.slice none 0 0, .int .u64 0] 74) = v at *
  refine Calls.mono (fxOne q (by omega) v) ?_
  rintro r w1 ⟨a1, m1, c1, rfl, hm1, hO1, b1⟩
  have P1 : Hid _ := fxSmall2 (w := w1) 0 n hO1.1 hm1 hn3 hn4 gq (by omega)
  unfold FixV
  go_wp2_with fail
  refine Calls.mono P1.out ?_
  rintro r w2 ⟨a2, m2, c2, e2, rfl, he2, hm2, hO2, b2⟩
  have z1 := b1.size
  have z2 := b2.size
  have b12 := below_trans b1 b2
  have NZ : NoS (zB w.heap.size w2.heap.size) a2 m2 := fun b off e hn (hx : _ ∨ _ ∨ _ ∨ _) => by
    have l1 := hO2.nw b off e hn
    obtain ⟨b', off', e1, e3, -⟩ := hO2.1.2.2.2 0 hn
    rw [e] at e1
    simp only [Option.some.injEq, Addr.mk.injEq, and_true] at e1
    omega
  have I0 := inv0 (n := n) (q := q) (tn := tn) (e := e2) (w := w) (w2 := w2) (by omega) hm2 (hO2.low (by omega)) NZ he2.out ((C6 _).keepB b12) (bA.trans (b12.mono (by omega)))
  clear C6 P1 NZ hO1 hO2 b1 b2 b12 bA
  go_wp2_with fail
  generalize hC : w2.heap.size = C at *
  generalize (((w2.alloc (.cells #[.slice a2 m2 c2, .int .u64 (e2 : Int)] 74)).alloc (.cells #[.slice a2 m2 c2, .int .u64 (e2 : Int)] 74)).alloc (.cells #[.slice none 0 0, .int .u64 0] 74)) = w3 at *
  go_loopw [10, 11] (fun kv _ wr => ∃ (j e : Nat), j ≤ mz n q ∧ Hid (e = 2) ∧ kv = .int .u64 ((2 * j + 3 : Nat) : Int) ∧ InvR n q tn w C j e wr) (fun kv _ _ => 2 * mz n q + 3 - (intOf kv).toNat)
  case atStart => exact ⟨0, e2, Nat.zero_le _, he2, rfl, I0⟩
  case round =>
    clear I0
    obtain ⟨j, e, hj, he, rfl, F7, F8, F9, F6, bW⟩ := hrel
    obtain ⟨a7, n7, c7, k1, k2, k3, k4, k5, k6, k7⟩ := F7
    by_cases h0 : n7 = 0
    · subst h0
      have hj2 : j = mz n q := Nat.le_antisymm hj (Nat.le_of_not_lt fun hl => mz2 j hl ((words_len0 k6.1.1).1 rfl))
      subst hj2
      have HD := hD
      rw [hJ] at HD
      obtain ⟨e8, he8⟩ : ∃ e8, e8 = 2 * ns (dq n tn) false (mz n q + 1) := ⟨_, rfl⟩
      obtain ⟨e9, he9⟩ : ∃ e9, e9 = 2 * ns (dq n tn) true (mz n q + 1) := ⟨_, rfl⟩
      have h89 : e8 + 4 + (e9 + 4) < 4294967296 := by have := nsl false (mz n q + 1); have := nsl true (mz n q + 1); omega
      rw [← he8] at F8
      rw [← he9] at F9
      rw [← he8, ← he9] at HD
      have HE9 : Hid _ := he9
      clear he8 he9
      have fl := F6.lt
      obtain ⟨a8, n8, c8, y0, y1, y2, y3, y4, y5, y6⟩ := F8
      obtain ⟨a9, n9, c9, x0, x1, x2, x3, x4, x5, x6⟩ := F9
      have w8 : IntKind.u64.wrap ((e8 : Int) + 4) = ((e8 + 4 : Nat) : Int) := by rw [IntKind.wrap_u64]; omega
      have w9 : IntKind.u64.wrap ((e9 : Int) + 4) = ((e9 + 4 : Nat) : Int) := by rw [IntKind.wrap_u64]; omega
      go_wp2_with fail
      refine Calls.mono (fxSub2 (e8 + 4) (e9 + 4) y5.1 y4 x5.1 x4 HD.out.2.1 HD.out.1 h89) ?_
      rintro r w4 ⟨ao, m, d, e4, rfl, he4, hm, hO, b4⟩
      obtain ⟨a0, n0, c0, z0, f0, z1, f1, -⟩ := F6.keepB b4
      have b4z := b4.size
      clear k1 k2 k3 k4 k6 k7 y0 y1 y2 y3 y5 y6 x0 x1 x2 x3 x5 x6
      go_wp2_with fail
      have KF := ks_two (fun k => k = w.heap.size) w4 w.heap.size rfl (.slice ao m d) (.int .u64 (e4 : Int))
      refine bodyPost_ret (v := .agg #[.slice ao m d, .int .u64 (e4 : Int)]) (by simp [results, Tryz.results113, go_sem, z0, z1]) rfl ⟨ao, m, d, e4, rfl, (by show e4 = _; rw [he4.out]; exact HD.out.2.2), hm, ?_, ?_⟩
      · have hO2 := hO.keepS (S := fun k => k = w.heap.size) (hO.nw.noS (fun b (e : b = w.heap.size) => by omega)) KF
        have hI : sm (dq n tn) q false (mz n q + 1) - (sm (dq n tn) q true (mz n q + 1) + (e9 + 4)) = iA n tn q := by
          unfold iA iP iL
          rw [hJ, HE9.out]
          omega
        rw [hI] at hO2
        exact hO2.low (by omega)
      · exact (bW.trans (b4.mono (by omega))).trans (KF.below w.heap.size (by omega) (fun b (e : b = w.heap.size) => by omega))
    · have hn0 : ¬ ((n7 : Int) = 0) := by omega
      have hj2 : j < mz n q := Nat.lt_of_le_of_ne hj fun e => h0 ((words_len0 k6.1.1).2 (by rw [e]; exact mz1))
      obtain ⟨k, hk⟩ : ∃ k, k = 2 * j + 3 := ⟨_, rfl⟩
      rw [← hk]
      have hk2 : Hid _ := hk
      have hkl : k < 65536 := by omega
      have hk3 : 3 ≤ k := by omega
      have hkw : IntKind.u64.wrap ((k : Int) + 2) = ((k + 2 : Nat) : Int) := by rw [IntKind.wrap_u64]; omega
      have hkj : k = 2 * (j + 1) + 1 := by omega
      have HKJ : Hid _ := hkj
      have fl8 := F8.lt
      have fl9 := F9.lt
      clear hk hkj
      have F7 : FxAt (zB w.heap.size C) w.heap.size wr C _ e := ⟨a7, n7, c7, k1, k2, k3, k4, k5, k6, k7⟩
      have fl7 := F7.lt
      go_wp2_with fail
      refine Calls.mono (fxSmall2 e n k6.1 k5 hn3 hn4 (gx _ (Nat.div_le_self _ _)) (by have := he.out; omega)) ?_
      rintro r w4 ⟨a4, m4, c4, e4, rfl, he4, hm4, hO4, b4⟩
      have P5 : Hid _ := fxSmall2 (w := w4) e4 n hO4.1 hm4 hn3 hn4 (gx _ (Nat.le_trans (Nat.div_le_self _ _) (Nat.div_le_self _ _))) (by have := he4.out; omega)
      clear k1 k2 k3 k4 k6 k7 hO4
      go_wp2_with fail
      refine Calls.mono P5.out ?_
      rintro r w5 ⟨a5, m5, c5, e5, rfl, he5, hm5, hO5, b5⟩
      clear P5
      rw [div_nn] at hO5
      have b45 := below_trans b4 b5
      have zb4 := b4.size
      have zb5 := b5.size
      have fl6 := F6.lt
      have NN : NoS (zB w.heap.size C) a5 m5 := hO5.nw.noS (fun k (hk : _ ∨ _ ∨ _ ∨ _) => by omega)
      have OO := hO5.low (show w.heap.size ≤ _ by omega)
      have KZ : ∀ k, k = C → zB w.heap.size C k := fun k hk => Or.inr (Or.inl hk)
      obtain ⟨H7, K5⟩ := (F7.keepB b45).put e5 (KZ C rfl) hm5 OO NN
      have OK := hO5.1.keepS (fun x o e hn hx => NN x o e hn (KZ x hx)) K5
      replace F8 := (F8.keepB b45).keep K5 (by show ¬ C + 1 = C; omega) KZ
      replace F9 := (F9.keepB b45).keep K5 (by show ¬ C + 1 + 1 = C; omega) KZ
      replace F6 := (F6.keepB b45).keep K5 (by show ¬ w.heap.size = C; omega) KZ
      replace bW := (bW.trans (b45.mono (by omega))).trans (K5.below w.heap.size (by omega) (fun b (e : b = C) => by omega))
      obtain ⟨_, _, _, x0, x1, x2, x3, -⟩ := F7.keepB b45
      clear F7 OO NN KZ b4 b5 b45 hO5
      go_wp2_with fail
      clear x0 x1 x2 x3 K5
      generalize (w5.setCell ⟨C, 0, none⟩ (.slice a5 m5 c5)).setCell ⟨C, 1, none⟩ (.int .u64 (e5 : Int)) = w6 at *
      have P7 : Hid _ := fxSmall2 (w := w6) e5 k OK hm5 hk3 hkl (gx _ (Nat.div_le_self _ _)) (by have := he5.out; omega)
      go_wp2_with fail
      refine Calls.mono P7.out ?_
      rintro r w7 ⟨a7, m7, c7, e7, rfl, he7, hm7, hO7, b7⟩
      clear P7
      rw [show 2 ^ q / (n * (n * n) ^ (j + 1)) / k = term (dq n tn) q (j + 1) by rw [dq_term, HKJ.out]] at hO7
      have bL := below_alloc w7 (.cells #[.slice a7 m7 c7, .int .u64 (e7 : Int)] 74)
      have b8 := below_trans b7 bL
      have zL := b8.size
      have zL7 := bL.size
      have zb7 := b7.size
      have l66 := F6.lt
      replace F6 := F6.keepB b8
      replace F8 := F8.keepB b8
      replace F9 := F9.keepB b8
      have F7 := H7.keepB b8
      have l6 := F6.lt
      have l7 := F7.lt
      have l8 := F8.lt
      have l9 := F9.lt
      replace bW := bW.trans (b8.mono (by omega))
      clear H7 b8 OK b7
      rcases Bool.eq_false_or_eq_true (sd (dq n tn) (j + 1)) with hsd | hsd
      · have hsd2 := hsd
        rw [sd_dq] at hsd2
        obtain ⟨ht, hpar⟩ := (Bool.and_eq_true _ _).mp hsd2
        have hm4 : ((k : Int)).tmod 4 = 3 := by
          have h1 := HKJ.out
          have h2 : (j + 1) % 2 = 1 := by simpa using hpar
          rw [Int.tmod_eq_emod_of_nonneg (by omega)]
          omega
        subst ht
        obtain ⟨q1, q2, q3, q4⟩ := stepT (n := n)  (q := q) hsd
        have HQ : Hid _ := And.intro q1 (And.intro q2 (And.intro q3 q4))
        have g8 : greatB (sm (dq n true) q true (j + 1) + term (dq n true) q (j + 1)) = false := by rw [← q1]; exact gx _ (sle _ _ (by omega))
        clear q1 q2 q3 q4
        obtain ⟨e8, he8⟩ : ∃ e8, e8 = 2 * ns (dq n true) true (j + 1) := ⟨_, rfl⟩
        have HE8 : Hid _ := he8
        have he9 : e8 + e7 < 4294967296 := by have := nsl true (j + 1); have := he7.out; omega
        rw [← he8] at F9
        clear he8
        have G0 := F9
        obtain ⟨a8, n8, c8, y0, y1, y2, y3, y4, y5, y6⟩ := F9
        go_wp2_with fail
        refine Calls.mono (fxAdd2 e8 e7 y5.1 y4 (hO7.1.keepB bL) hm7 g8 he9) ?_
        rintro r w9 ⟨a9, m9, c9, e9, rfl, hx9, hm9, hO9, b9⟩
        clear y0 y1 y2 y3 y4 y5 y6
        have NN : NoS (zB w.heap.size C) a9 m9 := hO9.nw.noS (fun k (hk : _ ∨ _ ∨ _ ∨ _) => by omega)
        have zb9 := b9.size
        have OO := hO9.low (show w.heap.size ≤ _ by omega)
        obtain ⟨G8, K9⟩ := (G0.keepB b9).put e9 (Or.inr (Or.inr (Or.inr rfl))) hm9 OO NN
        have KZ : ∀ k, k = C + 1 + 1 → zB w.heap.size C k := fun k hk => by show _ ∨ _ ∨ _ ∨ _; omega
        have G7 := (F7.keepB b9).keep K9 (by show ¬ C = C + 1 + 1; omega) KZ
        have G9 := (F8.keepB b9).keep K9 (by show ¬ C + 1 = C + 1 + 1; omega) KZ
        have G6 := (F6.keepB b9).keep K9 (by show ¬ w.heap.size = C + 1 + 1; omega) KZ
        have bX := (bW.trans (b9.mono (by omega))).trans (K9.below w.heap.size (by omega) (fun b (e : b = C + 1 + 1) => by omega))
        obtain ⟨_, _, _, x0, x1, x2, x3, -⟩ := G0.keepB b9
        clear F6 F7 F8 G0 OO NN K9 KZ bW b9
        go_wp2_with fail
        generalize (w9.setCell ⟨C + 1 + 1, 0, none⟩ (.slice a9 m9 c9)).setCell ⟨C + 1 + 1, 1, none⟩ (.int .u64 (e9 : Int)) = w10 at *
        go_roundw
        case rel =>
          obtain ⟨q1, q2, q3, q4⟩ := HQ.out
          rw [← q1, show e9 = 2 * ns (dq n true) true (j + 1 + 1) by rw [hx9.out, HE8.out, he7.out, q3]; omega] at G8
          rw [← q2, ← q4] at G9
          exact ⟨j + 1, e5, hj2, he5, by rw [show ((2 * (j + 1) + 3 : Nat) : Int) = (k : Int) + 2 by have := hk2.out; omega], G7, G9, G8, G6, bX⟩
        case measure => simp only [intOf]; have := hk2.out; omega
      · have hsd2 := hsd
        rw [sd_dq] at hsd2
        have hm4 : tn = false ∨ (tn = true ∧ (k : Int).tmod 4 = 1) := by
          cases tn with
          | false => exact Or.inl rfl
          | true =>
            refine Or.inr ⟨rfl, ?_⟩
            have h1 := HKJ.out
            have h2 : ¬ (j + 1) % 2 = 1 := by simpa using hsd2
            rw [Int.tmod_eq_emod_of_nonneg (by omega)]
            omega
        clear hsd2
        rcases hm4 with rfl | ⟨rfl, hm4⟩
        · obtain ⟨q1, q2, q3, q4⟩ := stepF (n := n)  (q := q) hsd
          have HQ : Hid _ := And.intro q1 (And.intro q2 (And.intro q3 q4))
          have g8 : greatB (sm (dq n false) q false (j + 1) + term (dq n false) q (j + 1)) = false := by rw [← q1]; exact gx _ (sle _ _ (by omega))
          clear q1 q2 q3 q4
          obtain ⟨e8, he8⟩ : ∃ e8, e8 = 2 * ns (dq n false) false (j + 1) := ⟨_, rfl⟩
          have HE8 : Hid _ := he8
          have he9 : e8 + e7 < 4294967296 := by have := nsl false (j + 1); have := he7.out; omega
          rw [← he8] at F8
          clear he8
          have G0 := F8
          obtain ⟨a8, n8, c8, y0, y1, y2, y3, y4, y5, y6⟩ := F8
          go_wp2_with fail
          refine Calls.mono (fxAdd2 e8 e7 y5.1 y4 (hO7.1.keepB bL) hm7 g8 he9) ?_
          rintro r w9 ⟨a9, m9, c9, e9, rfl, hx9, hm9, hO9, b9⟩
          clear y0 y1 y2 y3 y4 y5 y6
          have NN : NoS (zB w.heap.size C) a9 m9 := hO9.nw.noS (fun k (hk : _ ∨ _ ∨ _ ∨ _) => by omega)
          have zb9 := b9.size
          have OO := hO9.low (show w.heap.size ≤ _ by omega)
          obtain ⟨G8, K9⟩ := (G0.keepB b9).put e9 (Or.inr (Or.inr (Or.inl rfl))) hm9 OO NN
          have KZ : ∀ k, k = C + 1 → zB w.heap.size C k := fun k hk => by show _ ∨ _ ∨ _ ∨ _; omega
          have G7 := (F7.keepB b9).keep K9 (by show ¬ C = C + 1; omega) KZ
          have G9 := (F9.keepB b9).keep K9 (by show ¬ C + 1 + 1 = C + 1; omega) KZ
          have G6 := (F6.keepB b9).keep K9 (by show ¬ w.heap.size = C + 1; omega) KZ
          have bX := (bW.trans (b9.mono (by omega))).trans (K9.below w.heap.size (by omega) (fun b (e : b = C + 1) => by omega))
          obtain ⟨_, _, _, x0, x1, x2, x3, -⟩ := G0.keepB b9
          clear F6 F7 F9 G0 OO NN K9 KZ bW b9
          go_wp2_with fail
          generalize (w9.setCell ⟨C + 1, 0, none⟩ (.slice a9 m9 c9)).setCell ⟨C + 1, 1, none⟩ (.int .u64 (e9 : Int)) = w10 at *
          go_roundw
          case rel =>
            obtain ⟨q1, q2, q3, q4⟩ := HQ.out
            rw [← q1, show e9 = 2 * ns (dq n false) false (j + 1 + 1) by rw [hx9.out, HE8.out, he7.out, q3]; omega] at G8
            rw [← q2, ← q4] at G9
            exact ⟨j + 1, e5, hj2, he5, by rw [show ((2 * (j + 1) + 3 : Nat) : Int) = (k : Int) + 2 by have := hk2.out; omega], G7, G8, G9, G6, bX⟩
          case measure => simp only [intOf]; have := hk2.out; omega
        · obtain ⟨q1, q2, q3, q4⟩ := stepF (n := n)  (q := q) hsd
          have HQ : Hid _ := And.intro q1 (And.intro q2 (And.intro q3 q4))
          have g8 : greatB (sm (dq n true) q false (j + 1) + term (dq n true) q (j + 1)) = false := by rw [← q1]; exact gx _ (sle _ _ (by omega))
          clear q1 q2 q3 q4
          obtain ⟨e8, he8⟩ : ∃ e8, e8 = 2 * ns (dq n true) false (j + 1) := ⟨_, rfl⟩
          have HE8 : Hid _ := he8
          have he9 : e8 + e7 < 4294967296 := by have := nsl false (j + 1); have := he7.out; omega
          rw [← he8] at F8
          clear he8
          have G0 := F8
          obtain ⟨a8, n8, c8, y0, y1, y2, y3, y4, y5, y6⟩ := F8
          go_wp2_with fail
          refine Calls.mono (fxAdd2 e8 e7 y5.1 y4 (hO7.1.keepB bL) hm7 g8 he9) ?_
          rintro r w9 ⟨a9, m9, c9, e9, rfl, hx9, hm9, hO9, b9⟩
          clear y0 y1 y2 y3 y4 y5 y6
          have NN : NoS (zB w.heap.size C) a9 m9 := hO9.nw.noS (fun k (hk : _ ∨ _ ∨ _ ∨ _) => by omega)
          have zb9 := b9.size
          have OO := hO9.low (show w.heap.size ≤ _ by omega)
          obtain ⟨G8, K9⟩ := (G0.keepB b9).put e9 (Or.inr (Or.inr (Or.inl rfl))) hm9 OO NN
          have KZ : ∀ k, k = C + 1 → zB w.heap.size C k := fun k hk => by show _ ∨ _ ∨ _ ∨ _; omega
          have G7 := (F7.keepB b9).keep K9 (by show ¬ C = C + 1; omega) KZ
          have G9 := (F9.keepB b9).keep K9 (by show ¬ C + 1 + 1 = C + 1; omega) KZ
          have G6 := (F6.keepB b9).keep K9 (by show ¬ w.heap.size = C + 1; omega) KZ
          have bX := (bW.trans (b9.mono (by omega))).trans (K9.below w.heap.size (by omega) (fun b (e : b = C + 1) => by omega))
          obtain ⟨_, _, _, x0, x1, x2, x3, -⟩ := G0.keepB b9
          clear F6 F7 F9 G0 OO NN K9 KZ bW b9
          go_wp2_with fail
          generalize (w9.setCell ⟨C + 1, 0, none⟩ (.slice a9 m9 c9)).setCell ⟨C + 1, 1, none⟩ (.int .u64 (e9 : Int)) = w10 at *
          go_roundw
          case rel =>
            obtain ⟨q1, q2, q3, q4⟩ := HQ.out
            rw [← q1, show e9 = 2 * ns (dq n true) false (j + 1 + 1) by rw [hx9.out, HE8.out, he7.out, q3]; omega] at G8
            rw [← q2, ← q4] at G9
            exact ⟨j + 1, e5, hj2, he5, by rw [show ((2 * (j + 1) + 3 : Nat) : Int) = (k : Int) + 2 by have := hk2.out; omega], G7, G8, G9, G6, bX⟩
          case measure => simp only [intOf]; have := hk2.out; omega
end Go.Proofs.YtkkldnnndlpblaaGreatDoor

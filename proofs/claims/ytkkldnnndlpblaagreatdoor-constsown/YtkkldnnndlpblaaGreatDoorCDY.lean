/- The document's constants: e, pi and the logarithms. The document's constants: upper ends, quotients. -/
import Derived.Test.YtkkldnnndlpblaaGreatDoorCDX

namespace Go.Proofs.YtkkldnnndlpblaaGreatDoor
open Go.RowKit Ck

theorem fxOne2 (q : Nat) (hq : q ≤ 65000) (w : World) : Calls Tryz.prog 77 #[.int .i64 (q : Int)] w fun r w' => ∃ (ao : Option Addr) (m d e : Nat), r = .returned (.agg #[.slice ao m d, .int .u64 (e : Int)]) ∧ Hid (e = 0) ∧ m ≤ 1024 ∧ OwnW w.heap.size w' ao m d (wordsOf (2 ^ q)) ∧ Below w.heap.size w w' := by
  refine Calls.mono (fxOne q hq w) ?_
  rintro r w' ⟨ao, m, d, rfl, h1, h2, h3⟩
  exact ⟨ao, m, d, _, rfl, rfl, h1, h2, h3⟩

theorem fxSmall3 {a : Option Addr} {n c X : Nat} (ex d0 : Nat) {w : World} (hX : IsW w a n c (wordsOf X)) (hn : n ≤ 1024) (hd0 : 0 < d0) (hd1 : d0 < 65536) (g : greatB X = false) (he : ex < 4294967296) :
    Calls Tryz.prog 115 #[.agg #[.slice a n c, .int .u64 (ex : Int)], .int .u64 (d0 : Int)] w fun r w' => ∃ (ao : Option Addr) (m d e : Nat), r = .returned (.agg #[.slice ao m d, .int .u64 (e : Int)]) ∧ Hid (e = ex / d0 + 2) ∧ m ≤ 1024 ∧ OwnW w.heap.size w' ao m d (wordsOf (X / d0)) ∧ Below w.heap.size w w' := by
  refine Calls.mono (fxSmall a n c X ex d0 w hX hn hd0 hd1 g he) ?_
  rintro r w' ⟨ao, m, d, rfl, h1, h2, h3⟩
  exact ⟨ao, m, d, _, rfl, rfl, h1, h2, h3⟩

def zE (B C : Nat) : Nat → Prop := fun k => k = B ∨ k = C ∨ k = C + 1

/-- where the document's e stands after j terms -/
def ER (q : Nat) (w : World) (C j et es : Nat) (wr : World) : Prop :=
  FxAt (zE w.heap.size C) w.heap.size wr C (sm dE q false (j + 1)) es ∧ FxAt (zE w.heap.size C) w.heap.size wr (C + 1) (term dE q j) et ∧ FxAt (zE w.heap.size C) w.heap.size wr w.heap.size 0 0 ∧ Below w.heap.size w wr

theorem sd_dE (j : Nat) : sd dE j = false := rfl

theorem smE (q j : Nat) : sm dE q false (j + 1) = sm dE q false j + term dE q j := by rw [sm_step, sd_dE, if_pos rfl]

theorem termE (q j : Nat) : term dE q j / (j + 1) = term dE q (j + 1) := by
  have h : ∀ i, den dE i = rfac i := fun _ => rfl
  unfold term
  rw [h, h, Nat.div_div_eq_div_mul]
  first
    | rfl
    | (show _ / (rfac j * (j + 1)) = _ / ((j + 1) * rfac j)
       rw [Nat.mul_comm (rfac j)])

theorem e0 {q e : Nat} {w w2 : World} {a : Option Addr} {m c : Nat} (hw : w.heap.size < w2.heap.size) (hm : m ≤ 1024) (hO : OwnW w.heap.size w2 a m c (wordsOf (2 ^ q))) (hz : NoS (zE w.heap.size w2.heap.size) a m) (h6 : FxAt (zE w.heap.size w2.heap.size) w.heap.size w2 w.heap.size 0 0) (hb : Below w.heap.size w w2) :
    ER q w w2.heap.size 0 e e ((w2.alloc (.cells #[.slice a m c, .int .u64 (e : Int)] 74)).alloc (.cells #[.slice a m c, .int .u64 (e : Int)] 74)) := by
  have b1 := below_alloc w2 (.cells #[.slice a m c, .int .u64 (e : Int)] 74)
  have f7 := fx_new (Z := zE w.heap.size w2.heap.size) e hm hO hz
  have s1 : (w2.alloc (.cells #[.slice a m c, .int .u64 (e : Int)] 74)).heap.size = w2.heap.size + 1 := by go_simp
  have b2 := below_alloc (w2.alloc (.cells #[.slice a m c, .int .u64 (e : Int)] 74)) (.cells #[.slice a m c, .int .u64 (e : Int)] 74)
  have f8 := fx_new (Z := zE w.heap.size w2.heap.size) e hm (hO.keep b1) hz
  rw [s1] at f8
  have B2 := below_trans b1 b2
  have t0 : term dE q 0 = 2 ^ q := by
    show 1 * 2 ^ q / 1 = _
    rw [Nat.div_one, Nat.one_mul]
  have z0 : sm dE q false 0 = 0 := rfl
  refine ⟨?_, ?_, h6.keepB B2, hb.trans (B2.mono (by omega))⟩
  · rw [smE, z0, t0, Nat.zero_add]
    exact f7.keepB b2
  · rw [t0]
    exact f8

set_option maxRecDepth 100000 in
set_option maxHeartbeats 4000000 in
theorem docE_calls (q : Nat) (hq : q ≤ 8300) (hq4 : 40 ≤ q) (w : World) :
    Calls Tryz.prog 75 #[.int .i64 (q : Int)] w fun r w' => ∃ (ao : Option Addr) (m d e : Nat), r = .returned (.agg #[.slice ao m d, .int .u64 (e : Int)]) ∧ Hid (e = fE 4 q) ∧ m ≤ 1024 ∧ OwnW w.heap.size w' ao m d (wordsOf (fA 4 q)) ∧ Below w.heap.size w w' := by
  have bA := below_alloc w (.cells #[.slice none 0 0, .int .u64 0] 74)
  obtain ⟨mz1, mz2, mz3⟩ := cnt_spec dE dE_ok q
  have gS : greatB (sm dE q false (cnt dE q + 1)) = false := by
    have h1 := (f_in 4 q 0 (by decide) (by decide) hq4).2.2.2.2
    have h2 : fA 4 q = sm dE q false (cnt dE q + 1) := rfl
    rw [h2] at h1
    exact cf_great (k := q + 6) (Nat.lt_of_le_of_lt h1 (Nat.pow_lt_pow_right (by decide) (by omega))) (by omega)
  have gs : ∀ j, j ≤ cnt dE q + 1 → greatB (sm dE q false j) = false := fun j hj => great_mono (sm_mono dE q false j _ hj) gS
  have gt : ∀ j, j ≤ cnt dE q → greatB (term dE q j) = false := fun j hj => great_mono (by rw [smE]; exact Nat.le_add_left _ _) (gs (j + 1) (by omega))
  have hbd : ∀ j, eF j ≤ 4 ∧ eS j ≤ 4 * j := fun j => ⟨(eF_two j).1, (eS_bd j).2⟩
  have C6 : ∀ Z, FxAt Z w.heap.size (w.alloc (.cells #[.slice none 0 0, .int .u64 0] 74)) w.heap.size 0 0 := fun Z => fx_zero Z w.heap.size w
  go_enter Tryz.func75, Tryz.ntmps75
  go_wp2_with fail
  have cz := (C6 (fun _ => True)).lt
  generalize w.alloc (.cells #[.slice none 0 0, .int .u64 0] 74) = v at *
  refine Calls.mono (fxOne2 q (by omega) v) ?_
  rintro r w2 ⟨a2, m2, c2, e2, rfl, he2, hm2, hO2, b2⟩
  have z2 := b2.size
  have NZ : NoS (zE w.heap.size w2.heap.size) a2 m2 := fun b off e hn (hx : _ ∨ _ ∨ _) => by
    have l1 := hO2.nw b off e hn
    obtain ⟨b', off', e1, e3, -⟩ := hO2.1.2.2.2 0 hn
    rw [e] at e1
    simp only [Option.some.injEq, Addr.mk.injEq, and_true] at e1
    omega
  have I0 := e0 (q := q) (e := e2) (w := w) (w2 := w2) (by omega) hm2 (hO2.low (by omega)) NZ ((C6 _).keepB b2) (bA.trans (b2.mono (by omega)))
  clear C6 NZ hO2 b2 bA
  go_wp2_with fail
  generalize hC : w2.heap.size = C at *
  generalize (w2.alloc (.cells #[.slice a2 m2 c2, .int .u64 (e2 : Int)] 74)).alloc (.cells #[.slice a2 m2 c2, .int .u64 (e2 : Int)] 74) = w3 at *
  go_loopw [5] (fun kv wr => ∃ (j et es k : Nat), j ≤ cnt dE q ∧ Hid (et = eF j) ∧ Hid (es = eS (j + 1)) ∧ Hid (k = j + 1) ∧ kv = .int .u64 (k : Int) ∧ ER q w C j et es wr) (fun kv _ => cnt dE q + 2 - (intOf kv).toNat)
  case atStart => exact ⟨0, e2, e2, 1, Nat.zero_le _, he2, he2, rfl, rfl, I0⟩
  case round =>
    clear I0
    obtain ⟨j, et, es, k, hj, he, hs, hk, rfl, F8, F7, F6, bW⟩ := hrel
    have fl8 := F8.lt
    have fl6 := F6.lt
    have fl7 := F7.lt
    have hbt : et ≤ 4 := by rw [he.out]; exact (hbd j).1
    have hbs : es ≤ 4 * (j + 1) := by rw [hs.out]; exact (hbd (j + 1)).2
    obtain ⟨a7, n7, c7, k1, k2, k3, k4, k5, k6, k7⟩ := F7
    by_cases h0 : n7 = 0
    · subst h0
      have hj2 : j = cnt dE q := Nat.le_antisymm hj (Nat.le_of_not_lt fun hl => mz2 j hl ((words_len0 k6.1.1).1 rfl))
      obtain ⟨ao, m, d, y0, y1, y2, y3, hm, y5, y6⟩ := F8
      have w8 : IntKind.u64.wrap ((es : Int) + 4) = ((es + 4 : Nat) : Int) := by rw [IntKind.wrap_u64]; omega
      obtain ⟨a0, n0, c0, z0, f0, z1, f1, -⟩ := F6
      go_wp2_with fail
      have KF := ks_two (fun k => k = w.heap.size) wr w.heap.size rfl (.slice ao m d) (.int .u64 ((es + 4 : Nat) : Int))
      refine bodyPost_ret (v := .agg #[.slice ao m d, .int .u64 ((es + 4 : Nat) : Int)]) (by simp [results, Tryz.results75, go_sem, z0, z1]) rfl ⟨ao, m, d, es + 4, rfl, (by show es + 4 = _; rw [hs.out, hj2]; rfl), hm, ?_, ?_⟩
      · have hO2 := y5.keepS (S := fun k => k = w.heap.size) (fun b off e hn (hx : b = w.heap.size) => y6 b off e hn (Or.inl hx)) KF
        rw [hj2] at hO2
        exact hO2
      · exact bW.trans (KF.below w.heap.size (by omega) (fun b (e : b = w.heap.size) => by omega))
    · have hn0 : ¬ ((n7 : Int) = 0) := by omega
      have hj2 : j < cnt dE q := Nat.lt_of_le_of_ne hj fun e => h0 ((words_len0 k6.1.1).2 (by rw [e]; exact mz1))
      have hkl : 0 < k ∧ k < 65536 := by have := hk.out; omega
      have hkw : IntKind.u64.wrap ((k : Int) + 1) = ((k + 1 : Nat) : Int) := by rw [IntKind.wrap_u64]; omega
      have F7 : FxAt (zE w.heap.size C) w.heap.size wr (C + 1) _ et := ⟨a7, n7, c7, k1, k2, k3, k4, k5, k6, k7⟩
      go_wp2_with fail
      refine Calls.mono (fxSmall3 et k k6.1 k5 hkl.1 hkl.2 (gt j hj) (by omega)) ?_
      rintro r w5 ⟨a5, m5, c5, e5, rfl, he5, hm5, hO5, b5⟩
      clear k1 k2 k3 k4 k6 k7
      have he5' : Hid (e5 = eF (j + 1)) := by show e5 = _; rw [he5.out, he.out, hk.out]; rfl
      have hb5 : e5 ≤ 4 := by rw [he5'.out]; exact (hbd (j + 1)).1
      rw [show term dE q j / k = term dE q (j + 1) by rw [hk.out, termE]] at hO5
      have zb5 := b5.size
      have NN : NoS (zE w.heap.size C) a5 m5 := hO5.nw.noS (fun k (hk : _ ∨ _ ∨ _) => by omega)
      have OO := hO5.low (show w.heap.size ≤ _ by omega)
      have KZ : ∀ k, k = C + 1 → zE w.heap.size C k := fun k hk => Or.inr (Or.inr hk)
      obtain ⟨H7, K5⟩ := (F7.keepB b5).put e5 (KZ _ rfl) hm5 OO NN
      have OK := hO5.1.keepS (fun x o e hn hx => NN x o e hn (KZ x hx)) K5
      replace F8 := (F8.keepB b5).keep K5 (by show ¬ C = C + 1; omega) KZ
      replace F6 := (F6.keepB b5).keep K5 (by show ¬ w.heap.size = C + 1; omega) KZ
      replace bW := (bW.trans (b5.mono (by omega))).trans (K5.below w.heap.size (by omega) (fun b (e : b = C + 1) => by omega))
      obtain ⟨_, _, _, x0, x1, x2, x3, -⟩ := F7.keepB b5
      have G0 := F8
      obtain ⟨a8, n8, c8, y0, y1, y2, y3, y4, y5, y6⟩ := F8
      clear F7 OO NN KZ b5 hO5
      go_wp2_with fail
      clear x0 x1 x2 x3 K5
      generalize (w5.setCell ⟨C + 1, 0, none⟩ (.slice a5 m5 c5)).setCell ⟨C + 1, 1, none⟩ (.int .u64 (e5 : Int)) = w6 at *
      have gg := gs (j + 1 + 1) (by omega)
      rw [smE q (j + 1)] at gg
      have P7 : Hid _ := fxAdd2 (w := w6) es e5 y5.1 y4 OK hm5 gg (by omega)
      clear gg
      go_wp2_with fail
      refine Calls.mono P7.out ?_
      rintro r w9 ⟨a9, m9, c9, e9, rfl, hx9, hm9, hO9, b9⟩
      clear y0 y1 y2 y3 y4 y5 y6 P7 OK
      have l6 := F6.lt
      have l7 := H7.lt
      have l8 := G0.lt
      have zb9 := b9.size
      have NN : NoS (zE w.heap.size C) a9 m9 := hO9.nw.noS (fun k (hk : _ ∨ _ ∨ _) => by omega)
      have OO := hO9.low (show w.heap.size ≤ _ by omega)
      obtain ⟨G8, K9⟩ := (G0.keepB b9).put e9 (Or.inr (Or.inl rfl)) hm9 OO NN
      have KZ : ∀ k, k = C → zE w.heap.size C k := fun k hk => Or.inr (Or.inl hk)
      have G7 := (H7.keepB b9).keep K9 (by show ¬ C + 1 = C; omega) KZ
      have G6 := (F6.keepB b9).keep K9 (by show ¬ w.heap.size = C; omega) KZ
      have bX := (bW.trans (b9.mono (by omega))).trans (K9.below w.heap.size (by omega) (fun b (e : b = C) => by omega))
      obtain ⟨_, _, _, x0, x1, x2, x3, -⟩ := G0.keepB b9
      clear F6 H7 G0 OO NN K9 KZ bW b9
      go_wp2_with fail
      generalize (w9.setCell ⟨C, 0, none⟩ (.slice a9 m9 c9)).setCell ⟨C, 1, none⟩ (.int .u64 (e9 : Int)) = w10 at *
      go_roundw
      case rel =>
        rw [← smE q (j + 1)] at G8
        exact ⟨j + 1, e5, e9, k + 1, hj2, he5', (by show e9 = _; rw [hx9.out, hs.out, he5'.out]; rfl), (by show k + 1 = _; rw [hk.out]), by go_num, G8, G7, G6, bX⟩
      case measure => simp only [intOf]; have := hk.out; omega

set_option maxRecDepth 100000 in
set_option maxHeartbeats 4000000 in
theorem docLn2_calls (q : Nat) (hq : q ≤ 8300) (hq4 : 40 ≤ q) (w : World) :
    Calls Tryz.prog 73 #[.int .i64 (q : Int)] w fun r w' => ∃ (ao : Option Addr) (m d e : Nat), r = .returned (.agg #[.slice ao m d, .int .u64 (e : Int)]) ∧ Hid (e = fE 2 q) ∧ m ≤ 1024 ∧ OwnW w.heap.size w' ao m d (wordsOf (fA 2 q)) ∧ Below w.heap.size w w' := by
  have bA := below_alloc w (.cells #[.slice none 0 0, .int .u64 0] 74)
  have C6 := fx_zero (fun _ => False) w.heap.size w
  have gq : ∀ x, x ≤ 2 ^ (q + 10) → greatB x = false := fun x hx => cf_great (k := q + 11) (Nat.lt_of_le_of_lt hx (Nat.pow_lt_pow_right (by decide) (by omega))) (by omega)
  have e10 : (2 : Nat) ^ (q + 10) = 1024 * 2 ^ q := by rw [Nat.pow_add, Nat.mul_comm]
  obtain ⟨-, -, i3, i4, i5⟩ := in3 q 0 hq4
  go_enter Tryz.func73, Tryz.ntmps73
  go_wp2_with fail
  have cz := C6.lt
  generalize w.alloc (.cells #[.slice none 0 0, .int .u64 0] 74) = v at *
  have b0 : Below v.heap.size v v := Below.refl _ _
  refine Calls.mono (inverse_calls 3 (by decide) (by decide) false q hq hq4 bchk_all.2.2.1 v) ?_
  rintro r w1 ⟨a1, m1, c1, e1, rfl, he1, hm1, hO1, b1⟩
  replace b0 := below_trans b0 b1
  have zb1 := b1.size
  have F1 : Hid (∀ w', Below w1.heap.size w1 w' → IsW w' a1 m1 c1 _) := fun w' h => hO1.1.keepB h
  clear hO1
  go_wp2_with fail
  refine Calls.mono (fxTimes2 e1 2 (F1.out _ (Below.refl _ _)) hm1 (by decide) (gq _ (by omega)) (by have := he1.out; omega)) ?_
  rintro r wL ⟨aL, mL, cL, eL, rfl, heL, hmL, hOL, bL⟩
  replace b0 := below_trans b0 bL
  have zbL := bL.size
  obtain ⟨a0, n0, c0, z0, f0, z1, f1, -⟩ := C6.keepB b0
  have bz := b0.size
  go_wp2_with fail
  have KF := ks_two (fun k => k = w.heap.size) wL w.heap.size rfl (.slice aL mL cL) (.int .u64 (eL : Int))
  refine bodyPost_ret (v := .agg #[.slice aL mL cL, .int .u64 (eL : Int)]) (by simp [results, Tryz.results73, go_sem, z0, z1]) rfl ⟨aL, mL, cL, eL, rfl, (by show eL = _; rw [heL.out, he1.out, show fE 2 q = 2 * iE 3 q from rfl]; omega), hmL, ?_, ?_⟩
  · have hO2 := hOL.keepS (S := fun k => k = w.heap.size) (hOL.nw.noS (fun b (e : b = w.heap.size) => by omega)) KF
    have hA : iA 3 false q * 2 = fA 2 q := by rw [show fA 2 q = 2 * iA 3 false q from rfl]; omega
    rw [hA] at hO2
    exact hO2.low (by omega)
  · exact (bA.trans (b0.mono (by omega))).trans (KF.below w.heap.size (by omega) (fun b (e : b = w.heap.size) => by omega))

set_option maxRecDepth 100000 in
set_option maxHeartbeats 4000000 in
theorem docPi_calls (q : Nat) (hq : q ≤ 8300) (hq4 : 40 ≤ q) (w : World) :
    Calls Tryz.prog 72 #[.int .i64 (q : Int)] w fun r w' => ∃ (ao : Option Addr) (m d e : Nat), r = .returned (.agg #[.slice ao m d, .int .u64 (e : Int)]) ∧ Hid (e = fE 1 q) ∧ m ≤ 1024 ∧ OwnW w.heap.size w' ao m d (wordsOf (fA 1 q)) ∧ Below w.heap.size w w' := by
  have bA := below_alloc w (.cells #[.slice none 0 0, .int .u64 0] 74)
  have C6 := fx_zero (fun _ => False) w.heap.size w
  have gq : ∀ x, x ≤ 2 ^ (q + 10) → greatB x = false := fun x hx => cf_great (k := q + 11) (Nat.lt_of_le_of_lt hx (Nat.pow_lt_pow_right (by decide) (by omega))) (by omega)
  have e10 : (2 : Nat) ^ (q + 10) = 1024 * 2 ^ q := by rw [Nat.pow_add, Nat.mul_comm]
  obtain ⟨-, -, i3, i4, i5⟩ := in5 q 0 hq4
  obtain ⟨-, -, j3, j4, j5⟩ := in239 q 0 hq4
  have pp : 4 * iA 239 true q + 4 * iE 239 q ≤ 16 * iA 5 true q := Nat.le_trans (Nat.le_add_right _ _) (pi_pos q hq4)
  go_enter Tryz.func72, Tryz.ntmps72
  go_wp2_with fail
  have cz := C6.lt
  generalize w.alloc (.cells #[.slice none 0 0, .int .u64 0] 74) = v at *
  have b0 : Below v.heap.size v v := Below.refl _ _
  refine Calls.mono (inverse_calls 5 (by decide) (by decide) true q hq hq4 bchk_all.1 v) ?_
  rintro r w1 ⟨a1, m1, c1, e1, rfl, he1, hm1, hO1, b1⟩
  replace b0 := below_trans b0 b1
  have zb1 := b1.size
  have F1 : Hid (∀ w', Below w1.heap.size w1 w' → IsW w' a1 m1 c1 _) := fun w' h => hO1.1.keepB h
  clear hO1
  go_wp2_with fail
  refine Calls.mono (fxTimes2 e1 16 (F1.out _ (Below.refl _ _)) hm1 (by decide) (gq _ (by omega)) (by have := he1.out; omega)) ?_
  rintro r w2 ⟨a2, m2, c2, e2, rfl, he2, hm2, hO2, b2⟩
  replace b0 := below_trans b0 b2
  have zb2 := b2.size
  have F2 : Hid (∀ w', Below w2.heap.size w2 w' → IsW w' a2 m2 c2 _) := fun w' h => hO2.1.keepB h
  clear hO2
  go_wp2_with fail
  refine Calls.mono (inverse_calls 239 (by decide) (by decide) true q hq hq4 bchk_all.2.1 w2) ?_
  rintro r w3 ⟨a3, m3, c3, e3, rfl, he3, hm3, hO3, b3⟩
  replace b0 := below_trans b0 b3
  have zb3 := b3.size
  have F3 : Hid (∀ w', Below w3.heap.size w3 w' → IsW w' a3 m3 c3 _) := fun w' h => hO3.1.keepB h
  clear hO3
  go_wp2_with fail
  refine Calls.mono (fxTimes2 e3 4 (F3.out _ (Below.refl _ _)) hm3 (by decide) (gq _ (by omega)) (by have := he3.out; omega)) ?_
  rintro r w4 ⟨a4, m4, c4, e4, rfl, he4, hm4, hO4, b4⟩
  replace b0 := below_trans b0 b4
  have zb4 := b4.size
  have F4 : Hid (∀ w', Below w4.heap.size w4 w' → IsW w' a4 m4 c4 _) := fun w' h => hO4.1.keepB h
  clear hO4
  go_wp2_with fail
  refine Calls.mono (fxSub2 e2 e4 (F2.out _ (below_trans b3 b4)) hm2 (F4.out _ (Below.refl _ _)) hm4 (gq _ (by omega)) (by have := he4.out; have := he3.out; omega) (by have := he4.out; have := he3.out; have := he2.out; have := he1.out; omega)) ?_
  rintro r wL ⟨aL, mL, cL, eL, rfl, heL, hmL, hOL, bL⟩
  replace b0 := below_trans b0 bL
  have zbL := bL.size
  obtain ⟨a0, n0, c0, z0, f0, z1, f1, -⟩ := C6.keepB b0
  have bz := b0.size
  go_wp2_with fail
  have KF := ks_two (fun k => k = w.heap.size) wL w.heap.size rfl (.slice aL mL cL) (.int .u64 (eL : Int))
  refine bodyPost_ret (v := .agg #[.slice aL mL cL, .int .u64 (eL : Int)]) (by simp [results, Tryz.results72, go_sem, z0, z1]) rfl ⟨aL, mL, cL, eL, rfl, (by show eL = _; rw [heL.out, he2.out, he4.out, he1.out, he3.out, show fE 1 q = 16 * iE 5 q + 4 * iE 239 q from rfl]; omega), hmL, ?_, ?_⟩
  · have hO2 := hOL.keepS (S := fun k => k = w.heap.size) (hOL.nw.noS (fun b (e : b = w.heap.size) => by omega)) KF
    have hA : iA 5 true q * 16 - (iA 239 true q * 4 + e4) = fA 1 q := by rw [he4.out, he3.out, show fA 1 q = 16 * iA 5 true q - (4 * iA 239 true q + 4 * iE 239 q) from rfl]; omega
    rw [hA] at hO2
    exact hO2.low (by omega)
  · exact (bA.trans (b0.mono (by omega))).trans (KF.below w.heap.size (by omega) (fun b (e : b = w.heap.size) => by omega))

set_option maxRecDepth 100000 in
set_option maxHeartbeats 4000000 in
theorem docLn10_calls (q : Nat) (hq : q ≤ 8300) (hq4 : 40 ≤ q) (w : World) :
    Calls Tryz.prog 74 #[.int .i64 (q : Int)] w fun r w' => ∃ (ao : Option Addr) (m d e : Nat), r = .returned (.agg #[.slice ao m d, .int .u64 (e : Int)]) ∧ Hid (e = fE 3 q) ∧ m ≤ 1024 ∧ OwnW w.heap.size w' ao m d (wordsOf (fA 3 q)) ∧ Below w.heap.size w w' := by
  have bA := below_alloc w (.cells #[.slice none 0 0, .int .u64 0] 74)
  have C6 := fx_zero (fun _ => False) w.heap.size w
  have gq : ∀ x, x ≤ 2 ^ (q + 10) → greatB x = false := fun x hx => cf_great (k := q + 11) (Nat.lt_of_le_of_lt hx (Nat.pow_lt_pow_right (by decide) (by omega))) (by omega)
  have e10 : (2 : Nat) ^ (q + 10) = 1024 * 2 ^ q := by rw [Nat.pow_add, Nat.mul_comm]
  obtain ⟨-, -, i3, i4, i5⟩ := in3 q 0 hq4
  obtain ⟨-, -, j3, j4, j5⟩ := in9 q 0 hq4
  have f2 : fA 2 q = 2 * iA 3 false q := rfl
  have f2e : fE 2 q = 2 * iE 3 q := rfl
  go_enter Tryz.func74, Tryz.ntmps74
  go_wp2_with fail
  have cz := C6.lt
  generalize w.alloc (.cells #[.slice none 0 0, .int .u64 0] 74) = v at *
  have b0 : Below v.heap.size v v := Below.refl _ _
  refine Calls.mono (docLn2_calls q hq hq4 v) ?_
  rintro r w1 ⟨a1, m1, c1, e1, rfl, he1, hm1, hO1, b1⟩
  replace b0 := below_trans b0 b1
  have zb1 := b1.size
  have F1 : Hid (∀ w', Below w1.heap.size w1 w' → IsW w' a1 m1 c1 _) := fun w' h => hO1.1.keepB h
  clear hO1
  go_wp2_with fail
  refine Calls.mono (fxTimes2 e1 3 (F1.out _ (Below.refl _ _)) hm1 (by decide) (gq _ (by omega)) (by have := he1.out; omega)) ?_
  rintro r w2 ⟨a2, m2, c2, e2, rfl, he2, hm2, hO2, b2⟩
  replace b0 := below_trans b0 b2
  have zb2 := b2.size
  have F2 : Hid (∀ w', Below w2.heap.size w2 w' → IsW w' a2 m2 c2 _) := fun w' h => hO2.1.keepB h
  clear hO2
  go_wp2_with fail
  refine Calls.mono (inverse_calls 9 (by decide) (by decide) false q hq hq4 bchk_all.2.2.2 w2) ?_
  rintro r w3 ⟨a3, m3, c3, e3, rfl, he3, hm3, hO3, b3⟩
  replace b0 := below_trans b0 b3
  have zb3 := b3.size
  have F3 : Hid (∀ w', Below w3.heap.size w3 w' → IsW w' a3 m3 c3 _) := fun w' h => hO3.1.keepB h
  clear hO3
  go_wp2_with fail
  refine Calls.mono (fxTimes2 e3 2 (F3.out _ (Below.refl _ _)) hm3 (by decide) (gq _ (by omega)) (by have := he3.out; omega)) ?_
  rintro r w4 ⟨a4, m4, c4, e4, rfl, he4, hm4, hO4, b4⟩
  replace b0 := below_trans b0 b4
  have zb4 := b4.size
  have F4 : Hid (∀ w', Below w4.heap.size w4 w' → IsW w' a4 m4 c4 _) := fun w' h => hO4.1.keepB h
  clear hO4
  go_wp2_with fail
  refine Calls.mono (fxAdd2 e2 e4 (F2.out _ (below_trans b3 b4)) hm2 (F4.out _ (Below.refl _ _)) hm4 (gq _ (by omega)) (by have := he4.out; have := he3.out; have := he2.out; have := he1.out; omega)) ?_
  rintro r wL ⟨aL, mL, cL, eL, rfl, heL, hmL, hOL, bL⟩
  replace b0 := below_trans b0 bL
  have zbL := bL.size
  obtain ⟨a0, n0, c0, z0, f0, z1, f1, -⟩ := C6.keepB b0
  have bz := b0.size
  go_wp2_with fail
  have KF := ks_two (fun k => k = w.heap.size) wL w.heap.size rfl (.slice aL mL cL) (.int .u64 (eL : Int))
  refine bodyPost_ret (v := .agg #[.slice aL mL cL, .int .u64 (eL : Int)]) (by simp [results, Tryz.results74, go_sem, z0, z1]) rfl ⟨aL, mL, cL, eL, rfl, (by show eL = _; rw [heL.out, he2.out, he4.out, he1.out, he3.out, show fE 3 q = 3 * (2 * iE 3 q) + 2 * iE 9 q from rfl]; omega), hmL, ?_, ?_⟩
  · have hO2 := hOL.keepS (S := fun k => k = w.heap.size) (hOL.nw.noS (fun b (e : b = w.heap.size) => by omega)) KF
    have hA : fA 2 q * 3 + iA 9 false q * 2 = fA 3 q := by rw [show fA 3 q = 3 * (2 * iA 3 false q) + 2 * iA 9 false q from rfl]; omega
    rw [hA] at hO2
    exact hO2.low (by omega)
  · exact (bA.trans (b0.mono (by omega))).trans (KF.below w.heap.size (by omega) (fun b (e : b = w.heap.size) => by omega))

end Go.Proofs.YtkkldnnndlpblaaGreatDoor

namespace Go.Proofs.YtkkldnnndlpblaaGreatDoor
open Go.RowKit Ck

set_option maxRecDepth 100000 in
set_option maxHeartbeats 4000000 in
theorem fxHigh {a : Option Addr} {n c X : Nat} (ex : Nat) (w : World) (hX : IsW w a n c (wordsOf X)) (hn : n ≤ 1024) (g : greatB (X + ex) = false) (he : ex ≤ 18446744073709551615) :
    Calls Tryz.prog 51 #[.agg #[.slice a n c, .int .u64 (ex : Int)]] w fun r w' => ∃ (ao : Option Addr) (m d : Nat), r = .returned (.slice ao m d) ∧ m ≤ 1024 ∧ OwnW w.heap.size w' ao m d (wordsOf (X + ex)) ∧ Below w.heap.size w w' := by
  have bA := below_alloc w (.cells #[.slice a n c, .int .u64 (ex : Int)] 74)
  have hX1 := hX.keepB bA
  have FA : Hid (∀ W : World, W = w.alloc (.cells #[.slice a n c, .int .u64 (ex : Int)] 74) → W.cell? ⟨w.heap.size, 0, none⟩ = some (.slice a n c) ∧ W.cell? ⟨w.heap.size, 1, none⟩ = some (.int .u64 (ex : Int))) := fun W hW => by
    subst hW
    exact ⟨by go_simp, by go_simp⟩
  obtain ⟨q0, q1⟩ := FA.out _ rfl
  clear FA hX
  go_enter Tryz.func51, Tryz.ntmps51
  go_wp2_with fail
  generalize w.alloc (.cells #[.slice a n c, .int .u64 (ex : Int)] 74) = v at *
  generalize hB : w.heap.size = B at *
  have bD : Below v.heap.size v v.drew := (Below.refl _ _).drew
  refine wp_region_held (S := fun w' => Ks (fun _ => False) v w') (by kernel_rfl) ?_
  change wpAnyH _ _ _ _ _ _ _ _ (World.drew v)
  generalize World.drew v = wd0 at bD ⊢
  refine wpAnyH_take (i := 0) (v := .pointer (some ⟨B, 0, none⟩)) rfl (by kernel_rfl) (by kernel_rfl) (by kernel_rfl) (fun _ _ _ h => h) (Or.inl ⟨by rfl, ?y0⟩) (Ks.of_below bD) ?r0
  case y0 =>
    intro ww hS
    clear hS
    go_simp
    try first | (with_reducible rfl) | rfl
  try simp only [Act.put, List.setIfInBounds_toArray]
  refine wpAnyH_take (i := 1) (v := .slice a n c) rfl (by kernel_rfl) (by kernel_rfl) (by kernel_rfl) (fun _ _ _ h => h) (Or.inl ⟨by rfl, ?y1⟩) (Ks.of_below bD) ?r1
  case y1 =>
    intro ww hS
    have g0 := hS.cell q0 (fun e => e)
    clear hS
    go_simp
    try first | (with_reducible rfl) | rfl
  try simp only [Act.put]
  refine wpAnyH_take (i := 2) (v := .pointer (some ⟨B, 1, none⟩)) rfl (by kernel_rfl) (by kernel_rfl) (by kernel_rfl) (fun _ _ _ h => h) (Or.inl ⟨by rfl, ?y2⟩) (Ks.of_below bD) ?r2
  case y2 =>
    intro ww hS
    clear hS
    go_simp
    try first | (with_reducible rfl) | rfl
  try simp only [Act.put]
  refine wpAnyH_take (i := 3) (v := .int .u64 (ex : Int)) rfl (by kernel_rfl) (by kernel_rfl) (by kernel_rfl) (fun _ _ _ h => h) (Or.inl ⟨by rfl, ?y3⟩) (Ks.of_below bD) ?r3
  case y3 =>
    intro ww hS
    have g0 := hS.cell q1 (fun e => e)
    clear hS
    go_simp
    try first | (with_reducible rfl) | rfl
  try simp only [Act.put]
  refine wpAnyH_ready (rs := [4]) (by kernel_rfl) (by simp) ?_
  refine AllReadyH.cons rfl (fun K hK => ?_) AllReadyH.nil
  go_simp
  refine Calls.mono (dOf_eq ex rfl he) ?_
  rintro r v4 ⟨a4, m4, c4, rfl, hm4, hO4, bN⟩
  have zz4 := bD.size
  replace bD := below_trans bD bN
  refine hK.out _ _ (Ks.of_below bD) (fun _ => ?_)
  clear hK K bN
  try simp only [Act.put, List.setIfInBounds_toArray, List.set_cons_zero, List.set_cons_succ]
  refine wpAnyH_ready (rs := [5]) (by kernel_rfl) (by simp) ?_
  refine AllReadyH.cons rfl (fun K hK => ?_) AllReadyH.nil
  go_simp
  refine Calls.mono (dAdd_eq (hX1.keepB bD) hO4.1 hn hm4 g) ?_
  rintro r v5 ⟨ao, m, d, rfl, hm, hO, bN⟩
  have zz5 := bD.size
  replace bD := below_trans bD bN
  refine hK.out _ _ (Ks.of_below bD) (fun _ => ?_)
  clear hK K bN
  try simp only [Act.put, List.setIfInBounds_toArray, List.set_cons_zero, List.set_cons_succ]
  clear hO4
  refine wpAnyH_ready (rs := [6]) (by kernel_rfl) (by simp) ?_
  refine AllReadyH.cons rfl (fun K hK => ?_) AllReadyH.nil
  go_simp
  refine hK.out _ _ (Ks.of_below bD) (fun _ => ?_)
  clear hK K
  try simp only [Act.put, List.setIfInBounds_toArray, List.set_cons_zero, List.set_cons_succ]
  refine wpAnyH_done (by kernel_rfl) ?_ _
  go_wp2_with fail
  go_ret
  subst hB
  have := bA.size
  exact ⟨ao, m, d, rfl, hm, hO.low (by omega), bA.trans (bD.mono (by omega))⟩

set_option maxRecDepth 100000 in
set_option maxHeartbeats 4000000 in
theorem fxBetween {a a' : Option Addr} {n c X n' c' Y : Nat} (w : World) (hX : IsW w a n c (wordsOf X)) (hn : n ≤ 1024) (hY : IsW w a' n' c' (wordsOf Y)) (hn' : n' ≤ 1024) (hle : X ≤ Y) (g : greatB Y = false) (hs : Y - X < 18446744073709551616) :
    Calls Tryz.prog 117 #[.slice a n c, .slice a' n' c'] w fun r w' => ∃ e : Nat, r = .returned (.agg #[.slice a n c, .int .u64 (e : Int)]) ∧ Hid (e = Y - X) ∧ Below w.heap.size w w' := by
  have bA := below_alloc w (.cells #[.slice none 0 0, .int .u64 0] 74)
  have C := fx_zero (fun k => k = w.heap.size) w.heap.size w
  have hX1 := hX.keepB bA
  have hY1 := hY.keepB bA
  clear hX hY
  go_enter Tryz.func117, Tryz.ntmps117
  go_wp2_with fail
  have CB := C.lt
  generalize w.alloc (.cells #[.slice none 0 0, .int .u64 0] 74) = v at *
  refine Calls.mono (dSub_eq hY1 hX1 hn' hn g hle) ?_
  rintro r w1 ⟨a1, m1, c1, rfl, hm1, hO1, b1⟩
  obtain ⟨D, hD⟩ : ∃ D, D = Y - X := ⟨_, rfl⟩
  rw [← hD] at hO1 hs
  have HD : Hid _ := hD
  clear hD hX1 hY1 hle
  obtain ⟨a0, n0, c0, z0, f0, z1, f1, -⟩ := C.keepB b1
  have bz := b1.size
  by_cases h0 : m1 = 0
  · subst h0
    have hD0 : D = 0 := (words_len0 hO1.1.1).1 rfl
    clear hO1
    go_wp2_with fail
    have KF := ks_two (fun k => k = w.heap.size) w1 w.heap.size rfl (.slice a n c) (.int .u64 ((0 : Nat) : Int))
    refine bodyPost_ret (v := .agg #[.slice a n c, .int .u64 ((0 : Nat) : Int)]) (by simp [results, Tryz.results117, go_sem, z0, z1]) rfl ⟨0, rfl, (by show 0 = _; rw [← HD.out, hD0]), ?_⟩
    exact (bA.trans (b1.mono (by omega))).trans (KF.below w.heap.size (by omega) (fun b (e : b = w.heap.size) => by omega))
  · have hDp : D ≠ 0 := fun e => h0 ((words_len0 hO1.1.1).2 e)
    have hw : wordsOf D = [(D : Int)] := by
      rw [words_pos D hDp, Nat.mod_eq_of_lt hs, Nat.div_eq_of_lt hs, words_zero]
    rw [hw] at hO1
    have hm : m1 = 1 := hO1.1.1
    subst hm
    obtain ⟨b, off, rfl, -, q0⟩ := hO1.1.2.2.2 0 (by decide)
    have q1 : w1.cell? ⟨b, off, none⟩ = some (.int .u64 (D : Int)) := q0
    clear hO1 q0 hw
    go_wp2_with fail
    have KF := ks_two (fun k => k = w.heap.size) w1 w.heap.size rfl (.slice a n c) (.int .u64 (D : Int))
    refine bodyPost_ret (v := .agg #[.slice a n c, .int .u64 (D : Int)]) (by simp [results, Tryz.results117, go_sem, z0, z1]) rfl ⟨D, rfl, HD, ?_⟩
    exact (bA.trans (b1.mono (by omega))).trans (KF.below w.heap.size (by omega) (fun b (e : b = w.heap.size) => by omega))

set_option maxRecDepth 100000 in
set_option maxHeartbeats 4000000 in
theorem fxDiv {a a' : Option Addr} {n c X n' c' Y : Nat} (ex ey q lo hi : Nat) (w : World) (hX : IsW w a n c (wordsOf X)) (hn : n ≤ 1024) (hY : IsW w a' n' c' (wordsOf Y)) (hn' : n' ≤ 1024) (hq : q ≤ 65536) (hex : ex < 4294967296) (hey : ey < 4294967296)
    (g1 : greatB ((X + ex) * 2 ^ q + 1) = false) (g2 : greatB (Y + ey) = false) (gX : greatB (X + ex) = false) (hY0 : Y ≠ 0) (hlo : lo = X * 2 ^ q / (Y + ey)) (hhi : hi = (X + ex) * 2 ^ q / Y + (if (X + ex) * 2 ^ q % Y = 0 then 0 else 1)) (hle : lo ≤ hi) (hs : hi - lo < 18446744073709551616) :
    Calls Tryz.prog 76 #[.agg #[.slice a n c, .int .u64 (ex : Int)], .agg #[.slice a' n' c', .int .u64 (ey : Int)], .int .i64 (q : Int)] w fun r w' => ∃ (ao : Option Addr) (m d e : Nat), r = .returned (.agg #[.slice ao m d, .int .u64 (e : Int)]) ∧ Hid (e = hi - lo) ∧ m ≤ 1024 ∧ OwnW w.heap.size w' ao m d (wordsOf lo) ∧ Below w.heap.size w w' := by
  have gA : greatB ((X + ex) * 2 ^ q) = false := great_mono (Nat.le_succ _) g1
  have gB : greatB (X * 2 ^ q) = false := great_mono (Nat.mul_le_mul_right _ (Nat.le_add_right _ _)) gA
  have hYe : Y + ey ≠ 0 := by omega
  have gH : greatB hi = false := by
    rw [hhi]
    refine great_mono ?_ g1
    have := Nat.div_le_self ((X + ex) * 2 ^ q) Y
    split <;> omega
  have GS : Hid (greatB ((X + ex) * 2 ^ q) = false ∧ greatB (X * 2 ^ q) = false ∧ greatB hi = false) := ⟨gA, gB, gH⟩
  have HH : Hid (lo = X * 2 ^ q / (Y + ey) ∧ hi = (X + ex) * 2 ^ q / Y + (if (X + ex) * 2 ^ q % Y = 0 then 0 else 1)) := ⟨hlo, hhi⟩
  have HS : Hid (lo ≤ hi ∧ hi - lo < 18446744073709551616 ∧ Y ≠ 0 ∧ Y + ey ≠ 0 ∧ greatB (Y + ey) = false ∧ greatB (X + ex) = false) := ⟨hle, hs, hY0, hYe, g2, gX⟩
  clear hlo hhi gA gB gH g1 hle hs hY0 hYe g2 gX
  have bA := below_trans (below_trans (below_alloc w (.cells #[.slice a n c, .int .u64 (ex : Int)] 74)) (below_alloc (w.alloc (.cells #[.slice a n c, .int .u64 (ex : Int)] 74)) (.cells #[.slice a' n' c', .int .u64 (ey : Int)] 74))) (below_alloc ((w.alloc (.cells #[.slice a n c, .int .u64 (ex : Int)] 74)).alloc (.cells #[.slice a' n' c', .int .u64 (ey : Int)] 74)) (.cells #[.slice none 0 0, .int .u64 0] 74))
  have hX1 := hX.keepB bA
  have hY1 := hY.keepB bA
  have FA : Hid (∀ W : World, W = ((w.alloc (.cells #[.slice a n c, .int .u64 (ex : Int)] 74)).alloc (.cells #[.slice a' n' c', .int .u64 (ey : Int)] 74)).alloc (.cells #[.slice none 0 0, .int .u64 0] 74) → W.cell? ⟨w.heap.size, 0, none⟩ = some (.slice a n c) ∧ W.cell? ⟨w.heap.size, 1, none⟩ = some (.int .u64 (ex : Int)) ∧ W.cell? ⟨w.heap.size + 1, 0, none⟩ = some (.slice a' n' c') ∧ W.cell? ⟨w.heap.size + 1, 1, none⟩ = some (.int .u64 (ey : Int)) ∧ (W.cell? ⟨w.heap.size + 2, 0, none⟩ = some (.slice none 0 0) ∧ W.frozen? ⟨w.heap.size + 2, 0, none⟩ = false) ∧ (W.cell? ⟨w.heap.size + 2, 1, none⟩ = some (.int .u64 0) ∧ W.frozen? ⟨w.heap.size + 2, 1, none⟩ = false)) := fun W hW => by
    subst hW
    exact ⟨by go_simp, by go_simp, by go_simp, by go_simp, ⟨by go_simp, by go_simp⟩, ⟨by go_simp, by go_simp⟩⟩
  obtain ⟨q0, q1, p0, p1, ⟨z0, f0⟩, ⟨z1, f1⟩⟩ := FA.out _ rfl
  clear FA hX hY
  go_enter Tryz.func76, Tryz.ntmps76
  go_wp2_with fail
  generalize ((w.alloc (.cells #[.slice a n c, .int .u64 (ex : Int)] 74)).alloc (.cells #[.slice a' n' c', .int .u64 (ey : Int)] 74)).alloc (.cells #[.slice none 0 0, .int .u64 0] 74) = v at *
  have hz : w.heap.size + 2 < v.heap.size := World.block_lt_of_cell? _ _ z0
  have HZ : Hid _ := hz
  clear hz
  generalize hB : w.heap.size = B at *
  have bD : Below v.heap.size v v.drew := (Below.refl _ _).drew
  refine wp_region_held (S := fun w' => Ks (fun _ => False) v w') (by kernel_rfl) ?_
  change wpAnyH _ _ _ _ _ _ _ _ (World.drew v)
  generalize World.drew v = wd0 at bD ⊢
  refine wpAnyH_take (i := 0) (v := .pointer (some ⟨B, 0, none⟩)) rfl (by kernel_rfl) (by kernel_rfl) (by kernel_rfl) (fun _ _ _ h => h) (Or.inl ⟨by rfl, ?y0⟩) (Ks.of_below bD) ?r0
  case y0 =>
    intro ww hS
    clear hS
    go_simp
    try first | (with_reducible rfl) | rfl
  try simp only [Act.put, List.setIfInBounds_toArray]
  refine wpAnyH_take (i := 1) (v := .slice a n c) rfl (by kernel_rfl) (by kernel_rfl) (by kernel_rfl) (fun _ _ _ h => h) (Or.inl ⟨by rfl, ?y1⟩) (Ks.of_below bD) ?r1
  case y1 =>
    intro ww hS
    have g0 := hS.cell q0 (fun e => e)
    clear hS
    go_simp
    try first | (with_reducible rfl) | rfl
  try simp only [Act.put]
  refine wpAnyH_take (i := 2) (v := .int .i64 (q : Int)) rfl (by kernel_rfl) (by kernel_rfl) (by kernel_rfl) (fun _ _ _ h => h) (Or.inl ⟨by rfl, ?y2⟩) (Ks.of_below bD) ?r2
  case y2 =>
    intro ww hS
    clear hS
    go_simp
    try first | (with_reducible rfl) | rfl
  try simp only [Act.put]
  refine wpAnyH_take (i := 4) (v := .agg #[.slice a' n' c', .int .u64 (ey : Int)]) rfl (by kernel_rfl) (by kernel_rfl) (by kernel_rfl) (fun _ _ _ h => h) (Or.inl ⟨by rfl, ?y4⟩) (Ks.of_below bD) ?r4
  case y4 =>
    intro ww hS
    have g0 := hS.cell p0 (fun e => e)
    have g1 := hS.cell p1 (fun e => e)
    clear hS
    go_simp
    try first | (with_reducible rfl) | rfl
  try simp only [Act.put]
  refine wpAnyH_ready (rs := [3]) (by kernel_rfl) (by simp) ?_
  refine AllReadyH.cons rfl (fun K hK => ?_) AllReadyH.nil
  go_simp
  refine Calls.mono (dShl_eq (hX1.keepB bD) hn hq GS.out.2.1) ?_
  rintro r v3 ⟨a3, m3, c3, rfl, hm3, hO3, bN⟩
  have zz3 := bD.size
  replace bD := below_trans bD bN
  refine hK.out _ _ (Ks.of_below bD) (fun _ => ?_)
  clear hK K bN
  try simp only [Act.put, List.setIfInBounds_toArray, List.set_cons_zero, List.set_cons_succ]
  refine wpAnyH_ready (rs := [5]) (by kernel_rfl) (by simp) ?_
  refine AllReadyH.cons rfl (fun K hK => ?_) AllReadyH.nil
  go_simp
  refine Calls.mono (fxHigh ey _ (hY1.keepB bD) hn' HS.out.2.2.2.2.1 (by omega)) ?_
  rintro r v5 ⟨a5, m5, c5, rfl, hm5, hO5, bN⟩
  have zz5 := bD.size
  replace bD := below_trans bD bN
  refine hK.out _ _ (Ks.of_below bD) (fun _ => ?_)
  have K3 := hO3.1.keepB bN
  clear hK K bN
  try simp only [Act.put, List.setIfInBounds_toArray, List.set_cons_zero, List.set_cons_succ]
  refine wpAnyH_ready (rs := [6]) (by kernel_rfl) (by simp) ?_
  refine AllReadyH.cons rfl (fun K hK => ?_) AllReadyH.nil
  go_simp
  refine Calls.mono (dDiv_eq K3 hO5.1 hm3 hm5 GS.out.2.1 HS.out.2.2.2.1) ?_
  rintro r v6 ⟨a6, m6, c6, a7, m7, c7, rfl, hm6, hO6, hm7, hO7, bN⟩
  have zz6 := bD.size
  replace bD := below_trans bD bN
  refine hK.out _ _ (Ks.of_below bD) (fun _ => ?_)
  clear hK K bN
  try simp only [Act.put, List.setIfInBounds_toArray, List.set_cons_zero, List.set_cons_succ]
  clear hO3 hO5 K3 hO7 hm7
  refine wpAnyH_take (i := 7) (v := .tuple #[.slice a6 m6 c6, .slice a7 m7 c7]) rfl (by kernel_rfl) (by kernel_rfl) (by kernel_rfl) (fun _ _ _ h => h) (Or.inl ⟨by rfl, ?y7⟩) (Ks.of_below bD) ?r7
  case y7 =>
    intro ww hS
    clear hS
    go_simp
    try first | (with_reducible rfl) | rfl
  try simp only [Act.put, List.setIfInBounds_toArray]
  refine wpAnyH_take (i := 8) (v := .slice a6 m6 c6) rfl (by kernel_rfl) (by kernel_rfl) (by kernel_rfl) (fun _ _ _ h => h) (Or.inl ⟨by rfl, ?y8⟩) (Ks.of_below bD) ?r8
  case y8 =>
    intro ww hS
    clear hS
    go_simp
    try first | (with_reducible rfl) | rfl
  try simp only [Act.put]
  refine wpAnyH_take (i := 9) (v := .slice a7 m7 c7) rfl (by kernel_rfl) (by kernel_rfl) (by kernel_rfl) (fun _ _ _ h => h) (Or.inl ⟨by rfl, ?y9⟩) (Ks.of_below bD) ?r9
  case y9 =>
    intro ww hS
    clear hS
    go_simp
    try first | (with_reducible rfl) | rfl
  try simp only [Act.put]
  refine wpAnyH_ready (rs := [10]) (by kernel_rfl) (by simp) ?_
  refine AllReadyH.cons rfl (fun K hK => ?_) AllReadyH.nil
  go_simp
  refine hK.out _ _ (Ks.of_below bD) (fun _ => ?_)
  clear hK K
  try simp only [Act.put, List.setIfInBounds_toArray, List.set_cons_zero, List.set_cons_succ]
  refine wpAnyH_ready (rs := [11]) (by kernel_rfl) (by simp) ?_
  refine AllReadyH.cons rfl (fun K hK => ?_) AllReadyH.nil
  go_simp
  refine hK.out _ _ (Ks.of_below bD) (fun _ => ?_)
  clear hK K
  try simp only [Act.put, List.setIfInBounds_toArray, List.set_cons_zero, List.set_cons_succ]
  refine wpAnyH_done (by kernel_rfl) ?_ _
  go_wp2_with fail
  rw [← HH.out.1] at hO6
  replace f0 := fKeep bD z0 f0
  replace f1 := fKeep bD z1 f1
  replace z0 := cKeep bD z0
  replace z1 := cKeep bD z1
  replace q0 := cKeep bD q0
  replace q1 := cKeep bD q1
  replace p0 := cKeep bD p0
  replace p1 := cKeep bD p1
  replace hX1 := hX1.keepB bD
  replace hY1 := hY1.keepB bD
  have HB1 : Hid _ := And.intro bD zz6
  clear bD zz3 zz5 zz6
  have bD : Below v6.heap.size v6 v6.drew := (Below.refl _ _).drew
  refine wp_region_held (S := fun w' => Ks (fun _ => False) v6 w') (by kernel_rfl) ?_
  change wpAnyH _ _ _ _ _ _ _ _ (World.drew v6)
  generalize World.drew v6 = wd0 at bD ⊢
  refine wpAnyH_take (i := 0) (v := .agg #[.slice a n c, .int .u64 (ex : Int)]) rfl (by kernel_rfl) (by kernel_rfl) (by kernel_rfl) (fun _ _ _ h => h) (Or.inl ⟨by rfl, ?yz0⟩) (Ks.of_below bD) ?rz0
  case yz0 =>
    intro ww hS
    have g0 := hS.cell q0 (fun e => e)
    have g1 := hS.cell q1 (fun e => e)
    clear hS
    go_simp
    try first | (with_reducible rfl) | rfl
  try simp only [Act.put, List.setIfInBounds_toArray]
  refine wpAnyH_take (i := 2) (v := .int .i64 (q : Int)) rfl (by kernel_rfl) (by kernel_rfl) (by kernel_rfl) (fun _ _ _ h => h) (Or.inl ⟨by rfl, ?yz2⟩) (Ks.of_below bD) ?rz2
  case yz2 =>
    intro ww hS
    clear hS
    go_simp
    try first | (with_reducible rfl) | rfl
  try simp only [Act.put]
  refine wpAnyH_take (i := 4) (v := .pointer (some ⟨B + 1, 0, none⟩)) rfl (by kernel_rfl) (by kernel_rfl) (by kernel_rfl) (fun _ _ _ h => h) (Or.inl ⟨by rfl, ?yz4⟩) (Ks.of_below bD) ?rz4
  case yz4 =>
    intro ww hS
    clear hS
    go_simp
    try first | (with_reducible rfl) | rfl
  try simp only [Act.put]
  refine wpAnyH_take (i := 5) (v := .slice a' n' c') rfl (by kernel_rfl) (by kernel_rfl) (by kernel_rfl) (fun _ _ _ h => h) (Or.inl ⟨by rfl, ?yz5⟩) (Ks.of_below bD) ?rz5
  case yz5 =>
    intro ww hS
    have g0 := hS.cell p0 (fun e => e)
    clear hS
    go_simp
    try first | (with_reducible rfl) | rfl
  try simp only [Act.put]
  refine wpAnyH_ready (rs := [1]) (by kernel_rfl) (by simp) ?_
  refine AllReadyH.cons rfl (fun K hK => ?_) AllReadyH.nil
  go_simp
  refine Calls.mono (fxHigh ex _ (hX1.keepB bD) hn HS.out.2.2.2.2.2 (by omega)) ?_
  rintro r v1 ⟨a8, m8, c8, rfl, hm8, hO8, bN⟩
  have zz1 := bD.size
  replace bD := below_trans bD bN
  refine hK.out _ _ (Ks.of_below bD) (fun _ => ?_)
  clear hK K bN
  try simp only [Act.put, List.setIfInBounds_toArray, List.set_cons_zero, List.set_cons_succ]
  refine wpAnyH_ready (rs := [3]) (by kernel_rfl) (by simp) ?_
  refine AllReadyH.cons rfl (fun K hK => ?_) AllReadyH.nil
  go_simp
  refine Calls.mono (dShl_eq hO8.1 hm8 hq GS.out.1) ?_
  rintro r v3 ⟨a9, m9, c9, rfl, hm9, hO9, bN⟩
  have zz3 := bD.size
  replace bD := below_trans bD bN
  refine hK.out _ _ (Ks.of_below bD) (fun _ => ?_)
  clear hK K bN
  try simp only [Act.put, List.setIfInBounds_toArray, List.set_cons_zero, List.set_cons_succ]
  clear hO8
  refine wpAnyH_ready (rs := [6]) (by kernel_rfl) (by simp) ?_
  refine AllReadyH.cons rfl (fun K hK => ?_) AllReadyH.nil
  go_simp
  refine Calls.mono (dDiv_eq hO9.1 (hY1.keepB bD) hm9 hn' GS.out.1 HS.out.2.2.1) ?_
  rintro r u6 ⟨b6, k6, d6, b7, k7, d7, rfl, hk6, hP6, hk7, hP7, bN⟩
  have zz6 := bD.size
  replace bD := below_trans bD bN
  refine hK.out _ _ (Ks.of_below bD) (fun _ => ?_)
  clear hK K bN
  try simp only [Act.put, List.setIfInBounds_toArray, List.set_cons_zero, List.set_cons_succ]
  have HK7 : Hid _ := hk7
  clear hO9 hk7
  refine wpAnyH_take (i := 7) (v := .tuple #[.slice b6 k6 d6, .slice b7 k7 d7]) rfl (by kernel_rfl) (by kernel_rfl) (by kernel_rfl) (fun _ _ _ h => h) (Or.inl ⟨by rfl, ?yz7⟩) (Ks.of_below bD) ?rz7
  case yz7 =>
    intro ww hS
    clear hS
    go_simp
    try first | (with_reducible rfl) | rfl
  try simp only [Act.put, List.setIfInBounds_toArray]
  refine wpAnyH_take (i := 8) (v := .slice b6 k6 d6) rfl (by kernel_rfl) (by kernel_rfl) (by kernel_rfl) (fun _ _ _ h => h) (Or.inl ⟨by rfl, ?yz8⟩) (Ks.of_below bD) ?rz8
  case yz8 =>
    intro ww hS
    clear hS
    go_simp
    try first | (with_reducible rfl) | rfl
  try simp only [Act.put]
  refine wpAnyH_take (i := 9) (v := .slice b7 k7 d7) rfl (by kernel_rfl) (by kernel_rfl) (by kernel_rfl) (fun _ _ _ h => h) (Or.inl ⟨by rfl, ?yz9⟩) (Ks.of_below bD) ?rz9
  case yz9 =>
    intro ww hS
    clear hS
    go_simp
    try first | (with_reducible rfl) | rfl
  try simp only [Act.put]
  refine wpAnyH_ready (rs := [10]) (by kernel_rfl) (by simp) ?_
  refine AllReadyH.cons rfl (fun K hK => ?_) AllReadyH.nil
  go_simp
  refine hK.out _ _ (Ks.of_below bD) (fun _ => ?_)
  clear hK K
  try simp only [Act.put, List.setIfInBounds_toArray, List.set_cons_zero, List.set_cons_succ]
  refine wpAnyH_ready (rs := [11]) (by kernel_rfl) (by simp) ?_
  refine AllReadyH.cons rfl (fun K hK => ?_) AllReadyH.nil
  go_simp
  refine hK.out _ _ (Ks.of_below bD) (fun _ => ?_)
  clear hK K
  try simp only [Act.put, List.setIfInBounds_toArray, List.set_cons_zero, List.set_cons_succ]
  refine wpAnyH_done (by kernel_rfl) ?_ _
  replace f0 := fKeep bD z0 f0
  replace f1 := fKeep bD z1 f1
  replace z0 := cKeep bD z0
  replace z1 := cKeep bD z1
  have hL := hO6.keep bD
  clear q0 q1 p0 p1 hX1 hY1 hO6 hP7
  have bz := bD.size
  by_cases h0 : k7 = 0
  · have hr : (X + ex) * 2 ^ q % Y = 0 := (words_len0 HK7.out).1 h0
    have hh : (X + ex) * 2 ^ q / Y = hi := by rw [HH.out.2, if_pos hr, Nat.add_zero]
    rw [hh] at hP6
    subst h0
    clear hr hh HK7
    go_wp2_with fail
    refine Calls.mono (fxBetween u6 hL.1 hm6 hP6.1 hk6 HS.out.1 GS.out.2.2 HS.out.2.1) ?_
    rintro r w9 ⟨e, rfl, he, b9⟩
    replace f0 := fKeep b9 z0 f0
    replace f1 := fKeep b9 z1 f1
    replace z0 := cKeep b9 z0
    replace z1 := cKeep b9 z1
    have hL2 := hL.keep b9
    go_wp2_with fail
    have KF := ks_two (fun k => k = B + 2) w9 (B + 2) rfl (.slice a6 m6 c6) (.int .u64 (e : Int))
    subst hB
    have hz := HZ.out
    have y1 := HB1.out.2
    have b9z := b9.size
    refine bodyPost_ret (v := .agg #[.slice a6 m6 c6, .int .u64 (e : Int)]) (by simp [results, Tryz.results76, go_sem, z0, z1]) rfl ⟨a6, m6, c6, e, rfl, he, hm6, ?_, ?_⟩
    · have hO2 := hL2.keepS (S := fun k => k = w.heap.size + 2) (hL2.nw.noS (fun b (e : b = w.heap.size + 2) => by omega)) KF
      exact hO2.low (by omega)
    · exact (((bA.trans (HB1.out.1.mono (by omega))).trans (bD.mono (by have := HB1.out.1.size; omega))).trans (b9.mono (by have := HB1.out.1.size; omega))).trans (KF.below w.heap.size (by have := HB1.out.1.size; omega) (fun b (e : b = w.heap.size + 2) => by omega))
  · have hr : (X + ex) * 2 ^ q % Y ≠ 0 := fun e => h0 ((words_len0 HK7.out).2 e)
    have hh : (X + ex) * 2 ^ q / Y + 1 = hi := by rw [HH.out.2, if_neg hr]
    have hn0 : ¬ ((k7 : Int) = 0) := by omega
    have gh := GS.out.2.2
    rw [← hh] at gh
    have GH : Hid _ := gh
    have HHH : Hid _ := hh
    clear gh hr hh HK7
    go_wp2_with fail
    refine Calls.mono (dOf_eq 1 rfl (by decide)) ?_
    rintro r w7 ⟨a8, m8, c8, rfl, hm8, hO8, b7⟩
    have PA : Hid _ := dAdd_eq (w := w7) (hP6.1.keepB b7) hO8.1 hk6 hm8 GH.out
    go_wp2_with fail
    refine Calls.mono PA.out ?_
    rintro r w8 ⟨a9, m9, c9, rfl, hm9, hO9, b8⟩
    clear PA
    rw [HHH.out] at hO9
    have b78 := below_trans b7 b8
    have PB : Hid _ := fxBetween w8 ((hL.keep b78).1) hm6 hO9.1 hm9 HS.out.1 GS.out.2.2 HS.out.2.1
    go_wp2_with fail
    refine Calls.mono PB.out ?_
    rintro r w9 ⟨e, rfl, he, b9'⟩
    have b9 := below_trans b78 b9'
    replace f0 := fKeep b9 z0 f0
    replace f1 := fKeep b9 z1 f1
    replace z0 := cKeep b9 z0
    replace z1 := cKeep b9 z1
    have hL2 := hL.keep b9
    go_wp2_with fail
    have KF := ks_two (fun k => k = B + 2) w9 (B + 2) rfl (.slice a6 m6 c6) (.int .u64 (e : Int))
    subst hB
    have hz := HZ.out
    have y1 := HB1.out.2
    have b9z := b9.size
    refine bodyPost_ret (v := .agg #[.slice a6 m6 c6, .int .u64 (e : Int)]) (by simp [results, Tryz.results76, go_sem, z0, z1]) rfl ⟨a6, m6, c6, e, rfl, he, hm6, ?_, ?_⟩
    · have hO2 := hL2.keepS (S := fun k => k = w.heap.size + 2) (hL2.nw.noS (fun b (e : b = w.heap.size + 2) => by omega)) KF
      exact hO2.low (by omega)
    · exact (((bA.trans (HB1.out.1.mono (by omega))).trans (bD.mono (by have := HB1.out.1.size; omega))).trans (b9.mono (by have := HB1.out.1.size; omega))).trans (KF.below w.heap.size (by have := HB1.out.1.size; omega) (fun b (e : b = w.heap.size + 2) => by omega))

end Go.Proofs.YtkkldnnndlpblaaGreatDoor

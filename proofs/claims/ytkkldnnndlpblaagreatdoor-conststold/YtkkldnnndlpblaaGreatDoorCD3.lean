/- The document's constants: e, pi and the logarithms. -/
import Derived.Test.YtkkldnnndlpblaaGreatDoorCD2
namespace Go.Proofs.YtkkldnnndlpblaaGreatDoor
open Go.RowKit Ck

theorem fxOne2 (q : Nat) (hq : q ≤ 65000) (w : World) : Calls Tryz.prog 77 #[.int .i64 (q : Int)] w fun r w' => ∃ (ao : Option Addr) (m d e : Nat), r = .returned (.agg #[.slice ao m d, .int .u64 (e : Int)]) ∧ Hid (e = 0) ∧ m ≤ 1024 ∧ OwnW w.heap.size w' ao m d (wordsOf (2 ^ q)) ∧ Below w.heap.size w w' := by
  refine Calls.mono (fxOne q hq w) ?_
  rintro r w' ⟨ao, m, d, rfl, h1, h2, h3⟩
  exact ⟨ao, m, d, _, rfl, rfl, h1, h2, h3⟩
theorem fxSmall3 {a : Option Addr} {n c X : Nat} (ex d0 : Nat) {w : World} (hX : IsW w a n c (wordsOf X)) (hn : n ≤ 1024) (hd0 : 0 < d0) (hd1 : d0 < 65536) (g : greatB X = false) (he : ex < 4294967296) :
    Calls Tryz.prog 115 #[.agg #[.slice a n c, .int .u64 (ex : Int)], .int .u64 (d0 : Int)] w fun r w' => ∃ (ao : Option Addr) (m d e : Nat), r = .returned (.agg #[.slice ao m d, .int .u64 (e : Int)]) ∧ Hid (e = ex / d0 + 2) ∧ m ≤ 1024 ∧ OwnW w.heap.size w' ao m d (wordsOf (X / d0)) ∧ Below w.heap.size w w' := by
  refine Calls.mono (fxSmall a n c X ex d0 w hX hn hd0 hd1 g he) ?_
  rintro r w' ⟨ao, m, d, rfl, h1, h2, h3⟩
  exact ⟨ao, m, d, _, rfl, rfl, h1, h2, h3⟩
def zE (B C : Nat) : Nat → Prop := fun k => k = B ∨ k = C ∨ k = C + 1
/-- where the document's e stands after j terms -/
def ER (q : Nat) (w : World) (C j et es : Nat) (wr : World) : Prop :=
  FxAt (zE w.heap.size C) w.heap.size wr C (sm dE q false (j + 1)) es ∧ FxAt (zE w.heap.size C) w.heap.size wr (C + 1) (term dE q j) et ∧ FxAt (zE w.heap.size C) w.heap.size wr w.heap.size 0 0 ∧ Below w.heap.size w wr
theorem sd_dE (j : Nat) : sd dE j = false := rfl
theorem smE (q j : Nat) : sm dE q false (j + 1) = sm dE q false j + term dE q j := by rw [sm_step, sd_dE, if_pos rfl]
theorem termE (q j : Nat) : term dE q j / (j + 1) = term dE q (j + 1) := by
  have h : ∀ i, den dE i = rfac i := fun _ => rfl
  unfold term
  rw [h, h, Nat.div_div_eq_div_mul]
  first
    | rfl
    | (show _ / (rfac j * (j + 1)) = _ / ((j + 1) * rfac j)
       rw [Nat.mul_comm (rfac j)])
theorem e0 {q e : Nat} {w w2 : World} {a : Option Addr} {m c : Nat} (hw : w.heap.size < w2.heap.size) (hm : m ≤ 1024) (hO : OwnW w.heap.size w2 a m c (wordsOf (2 ^ q))) (hz : NoS (zE w.heap.size w2.heap.size) a m) (h6 : FxAt (zE w.heap.size w2.heap.size) w.heap.size w2 w.heap.size 0 0) (hb : Below w.heap.size w w2) :
    ER q w w2.heap.size 0 e e ((w2.alloc (.cells #[.slice a m c, .int .u64 (e : Int)] 74)).alloc (.cells #[.slice a m c, .int .u64 (e : Int)] 74)) := by
  have b1 := below_alloc w2 (.cells #[.slice a m c, .int .u64 (e : Int)] 74)
  have f7 := fx_new (Z := zE w.heap.size w2.heap.size) e hm hO hz
  have s1 : (w2.alloc (.cells #[.slice a m c, .int .u64 (e : Int)] 74)).heap.size = w2.heap.size + 1 := by go_simp
  have b2 := below_alloc (w2.alloc (.cells #[.slice a m c, .int .u64 (e : Int)] 74)) (.cells #[.slice a m c, .int .u64 (e : Int)] 74)
  have f8 := fx_new (Z := zE w.heap.size w2.heap.size) e hm (hO.keep b1) hz
  rw [s1] at f8
  have B2 := below_trans b1 b2
  have t0 : term dE q 0 = 2 ^ q := by
    show 1 * 2 ^ q / 1 = _
    rw [Nat.div_one, Nat.one_mul]
  have z0 : sm dE q false 0 = 0 := rfl
  refine ⟨?_, ?_, h6.keepB B2, hb.trans (B2.mono (by omega))⟩
  · rw [smE, z0, t0, Nat.zero_add]
    exact f7.keepB b2
  · rw [t0]
    exact f8
set_option maxRecDepth 100000 in
set_option maxHeartbeats 4000000 in
theorem docE_calls (q : Nat) (hq : q ≤ 8300) (hq4 : 40 ≤ q) (w : World) :
    Calls Tryz.prog 75 #[.int .i64 (q : Int)] w fun r w' => ∃ (ao : Option Addr) (m d e : Nat), r = .returned (.agg #[.slice ao m d, .int .u64 (e : Int)]) ∧ Hid (e = fE 4 q) ∧ m ≤ 1024 ∧ OwnW w.heap.size w' ao m d (wordsOf (fA 4 q)) ∧ Below w.heap.size w w' := by
  have bA := below_alloc w (.cells #[.slice none 0 0, .int .u64 0] 74)
  obtain ⟨mz1, mz2, mz3⟩ := cnt_spec dE dE_ok q
  have gS : greatB (sm dE q false (cnt dE q + 1)) = false := by
    have h1 := (f_in 4 q 0 (by decide) (by decide) hq4).2.2.2.2
    have h2 : fA 4 q = sm dE q false (cnt dE q + 1) := rfl
    rw [h2] at h1
    exact cf_great (k := q + 6) (Nat.lt_of_le_of_lt h1 (Nat.pow_lt_pow_right (by decide) (by omega))) (by omega)
  have gs : ∀ j, j ≤ cnt dE q + 1 → greatB (sm dE q false j) = false := fun j hj => great_mono (sm_mono dE q false j _ hj) gS
  have gt : ∀ j, j ≤ cnt dE q → greatB (term dE q j) = false := fun j hj => great_mono (by rw [smE]; exact Nat.le_add_left _ _) (gs (j + 1) (by omega))
  have hbd : ∀ j, eF j ≤ 4 ∧ eS j ≤ 4 * j := fun j => ⟨(eF_two j).1, (eS_bd j).2⟩
  have C6 : ∀ Z, FxAt Z w.heap.size (w.alloc (.cells #[.slice none 0 0, .int .u64 0] 74)) w.heap.size 0 0 := fun Z => fx_zero Z w.heap.size w
  go_enter Tryz.func75, Tryz.ntmps75
  go_wp2_with fail
  have cz := (C6 (fun _ => True)).lt
  generalize w.alloc (.cells #[.slice none 0 0, .int .u64 0] 74) = v at *
  refine Calls.mono (fxOne2 q (by omega) v) ?_
  rintro r w2 ⟨a2, m2, c2, e2, rfl, he2, hm2, hO2, b2⟩
  have z2 := b2.size
  have NZ : NoS (zE w.heap.size w2.heap.size) a2 m2 := fun b off e hn (hx : _ ∨ _ ∨ _) => by
    have l1 := hO2.nw b off e hn
    obtain ⟨b', off', e1, e3, -⟩ := hO2.1.2.2.2 0 hn
    rw [e] at e1
    simp only [Option.some.injEq, Addr.mk.injEq, and_true] at e1
    omega
  have I0 := e0 (q := q) (e := e2) (w := w) (w2 := w2) (by omega) hm2 (hO2.low (by omega)) NZ ((C6 _).keepB b2) (bA.trans (b2.mono (by omega)))
  clear C6 NZ hO2 b2 bA
  go_wp2_with fail
  generalize hC : w2.heap.size = C at *
  generalize (w2.alloc (.cells #[.slice a2 m2 c2, .int .u64 (e2 : Int)] 74)).alloc (.cells #[.slice a2 m2 c2, .int .u64 (e2 : Int)] 74) = w3 at *
  go_loopw [5] (fun kv wr => ∃ (j et es k : Nat), j ≤ cnt dE q ∧ Hid (et = eF j) ∧ Hid (es = eS (j + 1)) ∧ Hid (k = j + 1) ∧ kv = .int .u64 (k : Int) ∧ ER q w C j et es wr) (fun kv _ => cnt dE q + 2 - (intOf kv).toNat)
  case atStart => exact ⟨0, e2, e2, 1, Nat.zero_le _, he2, he2, rfl, rfl, I0⟩
  case round =>
    clear I0
    obtain ⟨j, et, es, k, hj, he, hs, hk, rfl, F8, F7, F6, bW⟩ := hrel
    have fl8 := F8.lt
    have fl6 := F6.lt
    have fl7 := F7.lt
    have hbt : et ≤ 4 := by rw [he.out]; exact (hbd j).1
    have hbs : es ≤ 4 * (j + 1) := by rw [hs.out]; exact (hbd (j + 1)).2
    obtain ⟨a7, n7, c7, k1, k2, k3, k4, k5, k6, k7⟩ := F7
    by_cases h0 : n7 = 0
    · subst h0
      have hj2 : j = cnt dE q := Nat.le_antisymm hj (Nat.le_of_not_lt fun hl => mz2 j hl ((words_len0 k6.1.1).1 rfl))
      obtain ⟨ao, m, d, y0, y1, y2, y3, hm, y5, y6⟩ := F8
      have w8 : IntKind.u64.wrap ((es : Int) + 4) = ((es + 4 : Nat) : Int) := by rw [IntKind.wrap_u64]; omega
      obtain ⟨a0, n0, c0, z0, f0, z1, f1, -⟩ := F6
      go_wp2_with fail
      have KF := ks_two (fun k => k = w.heap.size) wr w.heap.size rfl (.slice ao m d) (.int .u64 ((es + 4 : Nat) : Int))
      refine bodyPost_ret (v := .agg #[.slice ao m d, .int .u64 ((es + 4 : Nat) : Int)]) (by simp [results, Tryz.results75, go_sem, z0, z1]) rfl ⟨ao, m, d, es + 4, rfl, (by show es + 4 = _; rw [hs.out, hj2]; rfl), hm, ?_, ?_⟩
      · have hO2 := y5.keepS (S := fun k => k = w.heap.size) (fun b off e hn (hx : b = w.heap.size) => y6 b off e hn (Or.inl hx)) KF
        rw [hj2] at hO2
        exact hO2
      · exact bW.trans (KF.below w.heap.size (by omega) (fun b (e : b = w.heap.size) => by omega))
    · have hn0 : ¬ ((n7 : Int) = 0) := by omega
      have hj2 : j < cnt dE q := Nat.lt_of_le_of_ne hj fun e => h0 ((words_len0 k6.1.1).2 (by rw [e]; exact mz1))
      have hkl : 0 < k ∧ k < 65536 := by have := hk.out; omega
      have hkw : IntKind.u64.wrap ((k : Int) + 1) = ((k + 1 : Nat) : Int) := by rw [IntKind.wrap_u64]; omega
      have F7 : FxAt (zE w.heap.size C) w.heap.size wr (C + 1) _ et := ⟨a7, n7, c7, k1, k2, k3, k4, k5, k6, k7⟩
      go_wp2_with fail
      refine Calls.mono (fxSmall3 et k k6.1 k5 hkl.1 hkl.2 (gt j hj) (by omega)) ?_
      rintro r w5 ⟨a5, m5, c5, e5, rfl, he5, hm5, hO5, b5⟩
      clear k1 k2 k3 k4 k6 k7
      have he5' : Hid (e5 = eF (j + 1)) := by show e5 = _; rw [he5.out, he.out, hk.out]; rfl
      have hb5 : e5 ≤ 4 := by rw [he5'.out]; exact (hbd (j + 1)).1
      rw [show term dE q j / k = term dE q (j + 1) by rw [hk.out, termE]] at hO5
      have zb5 := b5.size
      have NN : NoS (zE w.heap.size C) a5 m5 := hO5.nw.noS (fun k (hk : _ ∨ _ ∨ _) => by omega)
      have OO := hO5.low (show w.heap.size ≤ _ by omega)
      have KZ : ∀ k, k = C + 1 → zE w.heap.size C k := fun k hk => Or.inr (Or.inr hk)
      obtain ⟨H7, K5⟩ := (F7.keepB b5).put e5 (KZ _ rfl) hm5 OO NN
      have OK := hO5.1.keepS (fun x o e hn hx => NN x o e hn (KZ x hx)) K5
      replace F8 := (F8.keepB b5).keep K5 (by show ¬ C = C + 1; omega) KZ
      replace F6 := (F6.keepB b5).keep K5 (by show ¬ w.heap.size = C + 1; omega) KZ
      replace bW := (bW.trans (b5.mono (by omega))).trans (K5.below w.heap.size (by omega) (fun b (e : b = C + 1) => by omega))
      obtain ⟨_, _, _, x0, x1, x2, x3, -⟩ := F7.keepB b5
      have G0 := F8
      obtain ⟨a8, n8, c8, y0, y1, y2, y3, y4, y5, y6⟩ := F8
      clear F7 OO NN KZ b5 hO5
      go_wp2_with fail
      clear x0 x1 x2 x3 K5
      generalize (w5.setCell ⟨C + 1, 0, none⟩ (.slice a5 m5 c5)).setCell ⟨C + 1, 1, none⟩ (.int .u64 (e5 : Int)) = w6 at *
      have gg := gs (j + 1 + 1) (by omega)
      rw [smE q (j + 1)] at gg
      have P7 : Hid _ := fxAdd2 (w := w6) es e5 y5.1 y4 OK hm5 gg (by omega)
      clear gg
      go_wp2_with fail
      refine Calls.mono P7.out ?_
      rintro r w9 ⟨a9, m9, c9, e9, rfl, hx9, hm9, hO9, b9⟩
      clear y0 y1 y2 y3 y4 y5 y6 P7 OK
      have l6 := F6.lt
      have l7 := H7.lt
      have l8 := G0.lt
      have zb9 := b9.size
      have NN : NoS (zE w.heap.size C) a9 m9 := hO9.nw.noS (fun k (hk : _ ∨ _ ∨ _) => by omega)
      have OO := hO9.low (show w.heap.size ≤ _ by omega)
      obtain ⟨G8, K9⟩ := (G0.keepB b9).put e9 (Or.inr (Or.inl rfl)) hm9 OO NN
      have KZ : ∀ k, k = C → zE w.heap.size C k := fun k hk => Or.inr (Or.inl hk)
      have G7 := (H7.keepB b9).keep K9 (by show ¬ C + 1 = C; omega) KZ
      have G6 := (F6.keepB b9).keep K9 (by show ¬ w.heap.size = C; omega) KZ
      have bX := (bW.trans (b9.mono (by omega))).trans (K9.below w.heap.size (by omega) (fun b (e : b = C) => by omega))
      obtain ⟨_, _, _, x0, x1, x2, x3, -⟩ := G0.keepB b9
      clear F6 H7 G0 OO NN K9 KZ bW b9
      go_wp2_with fail
      generalize (w9.setCell ⟨C, 0, none⟩ (.slice a9 m9 c9)).setCell ⟨C, 1, none⟩ (.int .u64 (e9 : Int)) = w10 at *
      go_roundw
      case rel =>
        rw [← smE q (j + 1)] at G8
        exact ⟨j + 1, e5, e9, k + 1, hj2, he5', (by show e9 = _; rw [hx9.out, hs.out, he5'.out]; rfl), (by show k + 1 = _; rw [hk.out]), by go_num, G8, G7, G6, bX⟩
      case measure => simp only [intOf]; have := hk.out; omega

set_option maxRecDepth 100000 in
set_option maxHeartbeats 4000000 in
theorem docLn2_calls (q : Nat) (hq : q ≤ 8300) (hq4 : 40 ≤ q) (w : World) :
    Calls Tryz.prog 73 #[.int .i64 (q : Int)] w fun r w' => ∃ (ao : Option Addr) (m d e : Nat), r = .returned (.agg #[.slice ao m d, .int .u64 (e : Int)]) ∧ Hid (e = fE 2 q) ∧ m ≤ 1024 ∧ OwnW w.heap.size w' ao m d (wordsOf (fA 2 q)) ∧ Below w.heap.size w w' := by
  have bA := below_alloc w (.cells #[.slice none 0 0, .int .u64 0] 74)
  have C6 := fx_zero (fun _ => False) w.heap.size w
  have gq : ∀ x, x ≤ 2 ^ (q + 10) → greatB x = false := fun x hx => cf_great (k := q + 11) (Nat.lt_of_le_of_lt hx (Nat.pow_lt_pow_right (by decide) (by omega))) (by omega)
  have e10 : (2 : Nat) ^ (q + 10) = 1024 * 2 ^ q := by rw [Nat.pow_add, Nat.mul_comm]
  obtain ⟨-, -, i3, i4, i5⟩ := in3 q 0 hq4
  go_enter Tryz.func73, Tryz.ntmps73
  go_wp2_with fail
  have cz := C6.lt
  generalize w.alloc (.cells #[.slice none 0 0, .int .u64 0] 74) = v at *
  have b0 : Below v.heap.size v v := Below.refl _ _
  refine Calls.mono (inverse_calls 3 (by decide) (by decide) false q hq hq4 bchk_all.2.2.1 v) ?_
  rintro r w1 ⟨a1, m1, c1, e1, rfl, he1, hm1, hO1, b1⟩
  replace b0 := below_trans b0 b1
  have zb1 := b1.size
  have F1 : Hid (∀ w', Below w1.heap.size w1 w' → IsW w' a1 m1 c1 _) := fun w' h => hO1.1.keepB h
  clear hO1
  go_wp2_with fail
  refine Calls.mono (fxTimes2 e1 2 (F1.out _ (Below.refl _ _)) hm1 (by decide) (gq _ (by omega)) (by have := he1.out; omega)) ?_
  rintro r wL ⟨aL, mL, cL, eL, rfl, heL, hmL, hOL, bL⟩
  replace b0 := below_trans b0 bL
  have zbL := bL.size
  obtain ⟨a0, n0, c0, z0, f0, z1, f1, -⟩ := C6.keepB b0
  have bz := b0.size
  go_wp2_with fail
  have KF := ks_two (fun k => k = w.heap.size) wL w.heap.size rfl (.slice aL mL cL) (.int .u64 (eL : Int))
  refine bodyPost_ret (v := .agg #[.slice aL mL cL, .int .u64 (eL : Int)]) (by simp [results, Tryz.results73, go_sem, z0, z1]) rfl ⟨aL, mL, cL, eL, rfl, (by show eL = _; rw [heL.out, he1.out, show fE 2 q = 2 * iE 3 q from rfl]; omega), hmL, ?_, ?_⟩
  · have hO2 := hOL.keepS (S := fun k => k = w.heap.size) (hOL.nw.noS (fun b (e : b = w.heap.size) => by omega)) KF
    have hA : iA 3 false q * 2 = fA 2 q := by rw [show fA 2 q = 2 * iA 3 false q from rfl]; omega
    rw [hA] at hO2
    exact hO2.low (by omega)
  · exact (bA.trans (b0.mono (by omega))).trans (KF.below w.heap.size (by omega) (fun b (e : b = w.heap.size) => by omega))

set_option maxRecDepth 100000 in
set_option maxHeartbeats 4000000 in
theorem docPi_calls (q : Nat) (hq : q ≤ 8300) (hq4 : 40 ≤ q) (w : World) :
    Calls Tryz.prog 72 #[.int .i64 (q : Int)] w fun r w' => ∃ (ao : Option Addr) (m d e : Nat), r = .returned (.agg #[.slice ao m d, .int .u64 (e : Int)]) ∧ Hid (e = fE 1 q) ∧ m ≤ 1024 ∧ OwnW w.heap.size w' ao m d (wordsOf (fA 1 q)) ∧ Below w.heap.size w w' := by
  have bA := below_alloc w (.cells #[.slice none 0 0, .int .u64 0] 74)
  have C6 := fx_zero (fun _ => False) w.heap.size w
  have gq : ∀ x, x ≤ 2 ^ (q + 10) → greatB x = false := fun x hx => cf_great (k := q + 11) (Nat.lt_of_le_of_lt hx (Nat.pow_lt_pow_right (by decide) (by omega))) (by omega)
  have e10 : (2 : Nat) ^ (q + 10) = 1024 * 2 ^ q := by rw [Nat.pow_add, Nat.mul_comm]
  obtain ⟨-, -, i3, i4, i5⟩ := in5 q 0 hq4
  obtain ⟨-, -, j3, j4, j5⟩ := in239 q 0 hq4
  have pp : 4 * iA 239 true q + 4 * iE 239 q ≤ 16 * iA 5 true q := Nat.le_trans (Nat.le_add_right _ _) (pi_pos q hq4)
  go_enter Tryz.func72, Tryz.ntmps72
  go_wp2_with fail
  have cz := C6.lt
  generalize w.alloc (.cells #[.slice none 0 0, .int .u64 0] 74) = v at *
  have b0 : Below v.heap.size v v := Below.refl _ _
  refine Calls.mono (inverse_calls 5 (by decide) (by decide) true q hq hq4 bchk_all.1 v) ?_
  rintro r w1 ⟨a1, m1, c1, e1, rfl, he1, hm1, hO1, b1⟩
  replace b0 := below_trans b0 b1
  have zb1 := b1.size
  have F1 : Hid (∀ w', Below w1.heap.size w1 w' → IsW w' a1 m1 c1 _) := fun w' h => hO1.1.keepB h
  clear hO1
  go_wp2_with fail
  refine Calls.mono (fxTimes2 e1 16 (F1.out _ (Below.refl _ _)) hm1 (by decide) (gq _ (by omega)) (by have := he1.out; omega)) ?_
  rintro r w2 ⟨a2, m2, c2, e2, rfl, he2, hm2, hO2, b2⟩
  replace b0 := below_trans b0 b2
  have zb2 := b2.size
  have F2 : Hid (∀ w', Below w2.heap.size w2 w' → IsW w' a2 m2 c2 _) := fun w' h => hO2.1.keepB h
  clear hO2
  go_wp2_with fail
  refine Calls.mono (inverse_calls 239 (by decide) (by decide) true q hq hq4 bchk_all.2.1 w2) ?_
  rintro r w3 ⟨a3, m3, c3, e3, rfl, he3, hm3, hO3, b3⟩
  replace b0 := below_trans b0 b3
  have zb3 := b3.size
  have F3 : Hid (∀ w', Below w3.heap.size w3 w' → IsW w' a3 m3 c3 _) := fun w' h => hO3.1.keepB h
  clear hO3
  go_wp2_with fail
  refine Calls.mono (fxTimes2 e3 4 (F3.out _ (Below.refl _ _)) hm3 (by decide) (gq _ (by omega)) (by have := he3.out; omega)) ?_
  rintro r w4 ⟨a4, m4, c4, e4, rfl, he4, hm4, hO4, b4⟩
  replace b0 := below_trans b0 b4
  have zb4 := b4.size
  have F4 : Hid (∀ w', Below w4.heap.size w4 w' → IsW w' a4 m4 c4 _) := fun w' h => hO4.1.keepB h
  clear hO4
  go_wp2_with fail
  refine Calls.mono (fxSub2 e2 e4 (F2.out _ (below_trans b3 b4)) hm2 (F4.out _ (Below.refl _ _)) hm4 (gq _ (by omega)) (by have := he4.out; have := he3.out; omega) (by have := he4.out; have := he3.out; have := he2.out; have := he1.out; omega)) ?_
  rintro r wL ⟨aL, mL, cL, eL, rfl, heL, hmL, hOL, bL⟩
  replace b0 := below_trans b0 bL
  have zbL := bL.size
  obtain ⟨a0, n0, c0, z0, f0, z1, f1, -⟩ := C6.keepB b0
  have bz := b0.size
  go_wp2_with fail
  have KF := ks_two (fun k => k = w.heap.size) wL w.heap.size rfl (.slice aL mL cL) (.int .u64 (eL : Int))
  refine bodyPost_ret (v := .agg #[.slice aL mL cL, .int .u64 (eL : Int)]) (by simp [results, Tryz.results72, go_sem, z0, z1]) rfl ⟨aL, mL, cL, eL, rfl, (by show eL = _; rw [heL.out, he2.out, he4.out, he1.out, he3.out, show fE 1 q = 16 * iE 5 q + 4 * iE 239 q from rfl]; omega), hmL, ?_, ?_⟩
  · have hO2 := hOL.keepS (S := fun k => k = w.heap.size) (hOL.nw.noS (fun b (e : b = w.heap.size) => by omega)) KF
    have hA : iA 5 true q * 16 - (iA 239 true q * 4 + e4) = fA 1 q := by rw [he4.out, he3.out, show fA 1 q = 16 * iA 5 true q - (4 * iA 239 true q + 4 * iE 239 q) from rfl]; omega
    rw [hA] at hO2
    exact hO2.low (by omega)
  · exact (bA.trans (b0.mono (by omega))).trans (KF.below w.heap.size (by omega) (fun b (e : b = w.heap.size) => by omega))

set_option maxRecDepth 100000 in
set_option maxHeartbeats 4000000 in
theorem docLn10_calls (q : Nat) (hq : q ≤ 8300) (hq4 : 40 ≤ q) (w : World) :
    Calls Tryz.prog 74 #[.int .i64 (q : Int)] w fun r w' => ∃ (ao : Option Addr) (m d e : Nat), r = .returned (.agg #[.slice ao m d, .int .u64 (e : Int)]) ∧ Hid (e = fE 3 q) ∧ m ≤ 1024 ∧ OwnW w.heap.size w' ao m d (wordsOf (fA 3 q)) ∧ Below w.heap.size w w' := by
  have bA := below_alloc w (.cells #[.slice none 0 0, .int .u64 0] 74)
  have C6 := fx_zero (fun _ => False) w.heap.size w
  have gq : ∀ x, x ≤ 2 ^ (q + 10) → greatB x = false := fun x hx => cf_great (k := q + 11) (Nat.lt_of_le_of_lt hx (Nat.pow_lt_pow_right (by decide) (by omega))) (by omega)
  have e10 : (2 : Nat) ^ (q + 10) = 1024 * 2 ^ q := by rw [Nat.pow_add, Nat.mul_comm]
  obtain ⟨-, -, i3, i4, i5⟩ := in3 q 0 hq4
  obtain ⟨-, -, j3, j4, j5⟩ := in9 q 0 hq4
  have f2 : fA 2 q = 2 * iA 3 false q := rfl
  have f2e : fE 2 q = 2 * iE 3 q := rfl
  go_enter Tryz.func74, Tryz.ntmps74
  go_wp2_with fail
  have cz := C6.lt
  generalize w.alloc (.cells #[.slice none 0 0, .int .u64 0] 74) = v at *
  have b0 : Below v.heap.size v v := Below.refl _ _
  refine Calls.mono (docLn2_calls q hq hq4 v) ?_
  rintro r w1 ⟨a1, m1, c1, e1, rfl, he1, hm1, hO1, b1⟩
  replace b0 := below_trans b0 b1
  have zb1 := b1.size
  have F1 : Hid (∀ w', Below w1.heap.size w1 w' → IsW w' a1 m1 c1 _) := fun w' h => hO1.1.keepB h
  clear hO1
  go_wp2_with fail
  refine Calls.mono (fxTimes2 e1 3 (F1.out _ (Below.refl _ _)) hm1 (by decide) (gq _ (by omega)) (by have := he1.out; omega)) ?_
  rintro r w2 ⟨a2, m2, c2, e2, rfl, he2, hm2, hO2, b2⟩
  replace b0 := below_trans b0 b2
  have zb2 := b2.size
  have F2 : Hid (∀ w', Below w2.heap.size w2 w' → IsW w' a2 m2 c2 _) := fun w' h => hO2.1.keepB h
  clear hO2
  go_wp2_with fail
  refine Calls.mono (inverse_calls 9 (by decide) (by decide) false q hq hq4 bchk_all.2.2.2 w2) ?_
  rintro r w3 ⟨a3, m3, c3, e3, rfl, he3, hm3, hO3, b3⟩
  replace b0 := below_trans b0 b3
  have zb3 := b3.size
  have F3 : Hid (∀ w', Below w3.heap.size w3 w' → IsW w' a3 m3 c3 _) := fun w' h => hO3.1.keepB h
  clear hO3
  go_wp2_with fail
  refine Calls.mono (fxTimes2 e3 2 (F3.out _ (Below.refl _ _)) hm3 (by decide) (gq _ (by omega)) (by have := he3.out; omega)) ?_
  rintro r w4 ⟨a4, m4, c4, e4, rfl, he4, hm4, hO4, b4⟩
  replace b0 := below_trans b0 b4
  have zb4 := b4.size
  have F4 : Hid (∀ w', Below w4.heap.size w4 w' → IsW w' a4 m4 c4 _) := fun w' h => hO4.1.keepB h
  clear hO4
  go_wp2_with fail
  refine Calls.mono (fxAdd2 e2 e4 (F2.out _ (below_trans b3 b4)) hm2 (F4.out _ (Below.refl _ _)) hm4 (gq _ (by omega)) (by have := he4.out; have := he3.out; have := he2.out; have := he1.out; omega)) ?_
  rintro r wL ⟨aL, mL, cL, eL, rfl, heL, hmL, hOL, bL⟩
  replace b0 := below_trans b0 bL
  have zbL := bL.size
  obtain ⟨a0, n0, c0, z0, f0, z1, f1, -⟩ := C6.keepB b0
  have bz := b0.size
  go_wp2_with fail
  have KF := ks_two (fun k => k = w.heap.size) wL w.heap.size rfl (.slice aL mL cL) (.int .u64 (eL : Int))
  refine bodyPost_ret (v := .agg #[.slice aL mL cL, .int .u64 (eL : Int)]) (by simp [results, Tryz.results74, go_sem, z0, z1]) rfl ⟨aL, mL, cL, eL, rfl, (by show eL = _; rw [heL.out, he2.out, he4.out, he1.out, he3.out, show fE 3 q = 3 * (2 * iE 3 q) + 2 * iE 9 q from rfl]; omega), hmL, ?_, ?_⟩
  · have hO2 := hOL.keepS (S := fun k => k = w.heap.size) (hOL.nw.noS (fun b (e : b = w.heap.size) => by omega)) KF
    have hA : fA 2 q * 3 + iA 9 false q * 2 = fA 3 q := by rw [show fA 3 q = 3 * (2 * iA 3 false q) + 2 * iA 9 false q from rfl]; omega
    rw [hA] at hO2
    exact hO2.low (by omega)
  · exact (bA.trans (b0.mono (by omega))).trans (KF.below w.heap.size (by omega) (fun b (e : b = w.heap.size) => by omega))

end Go.Proofs.YtkkldnnndlpblaaGreatDoor

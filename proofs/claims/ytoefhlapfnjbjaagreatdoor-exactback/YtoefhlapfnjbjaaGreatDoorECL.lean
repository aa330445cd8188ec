/- ExactBack: the logarithm of an exact power is exact: the exponent. -/
import Derived.Test.YtoefhlapfnjbjaaGreatDoorECI
import Derived.Test.YtoefhlapfnjbjaaGreatDoorECL0
import Derived.Test.YtoefhlapfnjbjaaGreatDoorXBC
import Derived.Test.YtoefhlapfnjbjaaGreatDoorXBD
namespace Go.Proofs.YtoefhlapfnjbjaaGreatDoor
open Go.RowKit

theorem fm_exp (s : Bool) (m : Nat) (e : Int) (hm : m < 2 ^ 64) (he : -20000 ≤ e ∧ e ≤ 20000) : -30000 ≤ (formD s m e).2.2 ∧ (formD s m e).2.2 ≤ 30000 := by
 unfold formD
 split
 ·decide
 ·have := Nat.le_trans (tz_le_blen m) ((blen_le m 64).2 hm)
  simp only
  omega
def expB (v : E3 × Bool) : Prop := -30000 ≤ v.1.2.2 ∧ v.1.2.2 ≤ 30000
theorem no_exp : expB no3 := ⟨by decide, by decide⟩
theorem inQ_exp (q : Int) (h : q.natAbs ≤ 100) : -30000 ≤ (inQ q).2.2 ∧ (inQ q).2.2 ≤ 30000 := fm_exp _ _ _ (by omega) (by decide)
theorem int_exp (n : Int) (h : n.natAbs ≤ 100000) : -30000 ≤ (intD n).2.2 ∧ (intD n).2.2 ≤ 30000 := fm_exp _ _ _ (by omega) (by decide)
theorem at_exp (p : E3) : ∀ l : List (Int × Int), (∀ t ∈ l, t.2.natAbs ≤ 100) → expB (cAt l p)
 | [], _ => no_exp
 | (x, q) :: l, h => by
  unfold cAt
  split
  ·exact inQ_exp q (h (x, q) (List.mem_cons_self ..))
  ·exact at_exp p l fun t ht => h t (List.mem_cons_of_mem _ ht)
theorem pow_exp (o : Nat) (l m : Int) (hl : -16384 ≤ l) (hm : m ≤ 16384) (p : E3) : expB (cPow o l m p) := by
 by_cases h : (cPow o l m p).2 = true
 ·obtain ⟨e, _, h1, h2⟩ := pow_in h
  rw [e]; show -30000 ≤ whI p ∧ whI p ≤ 30000; omega
 ·rw [pow_not h]; exact no_exp
theorem exp_exp (o : Nat) (l m : Int) (hl : -2000 ≤ l) (hm : m ≤ 2000) (p : E3) : expB (cExp o l m p) := by
 unfold cExp
 split
 ·exact no_exp
 ·rename_i k
  split
  ·exact int_exp _ (by omega)
  ·exact no_exp
theorem more_exp (o : Nat) (l m : Int) (hl : -2000 ≤ l) (hm : m ≤ 2000) (p : E3) : expB (cMore (cExp o l m) p) := by
 unfold cMore
 split
 ·exact exp_exp o l m hl hm _
 ·exact no_exp
theorem room_exp (q : E3) : -32768 ≤ (roomP q).2.2 ∧ (roomP q).2.2 ≤ 32768 := by
 unfold roomP
 split
 ·rename_i h
  unfold roomB at h
  rw [Bool.and_eq_true] at h
  exact inB_yes h.2
 ·decide
def exp2 (v : E3 × Bool) : Prop := -40000 ≤ v.1.2.2 ∧ v.1.2.2 ≤ 40000
theorem expB.two {v : E3 × Bool} (h : expB v) : exp2 v := by unfold expB at h; unfold exp2; omega
theorem less_exp (c : C3) (p : E3) : exp2 (cLess c p) := by
 unfold cLess
 split
 ·have := room_exp (sumD (c p).1 (negD (intD 1)))
  show -40000 ≤ (roomP _).2.2 ∧ (roomP _).2.2 ≤ 40000
  omega
 ·exact no_exp.two
theorem hgt_exp (n : Int) : -30000 ≤ (intD (hgt n)).2.2 ∧ (intD (hgt n)).2.2 ≤ 30000 := int_exp _ (hgt_bd n)
theorem sin_exp (p : E3) : expB (cSin p) := by
 unfold cSin
 split
 ·exact hgt_exp _
 ·exact no_exp
theorem cos_exp (p : E3) : expB (cCos p) := by
 unfold cCos
 split
 ·exact hgt_exp _
 ·exact no_exp
theorem tan_exp (p : E3) : expB (cTan p) := by
 unfold cTan
 split
 ·exact int_exp _ (by decide)
 ·split
  ·exact int_exp _ (by decide)
  ·split
   ·exact int_exp _ (by decide)
   ·exact no_exp
theorem exp_ite {c : Prop} [Decidable c] {A B : C3} {p : E3} (ha : exp2 (A p)) (hb : exp2 (B p)) : exp2 ((if c then A else B) p) := by split <;> assumption
theorem cas_exp (f : Int) (p : E3) : exp2 (fCas f p) := by
 unfold fCas
 repeat' refine exp_ite ?_ ?_
 all_goals first | (with_reducible exact (at_exp _ _ (by decide)).two) | (with_reducible exact (pow_exp _ _ _ (by decide) (by decide) _).two) | (with_reducible exact less_exp _ _) | (with_reducible exact (exp_exp _ _ _ (by decide) (by decide) _).two) | (with_reducible exact (more_exp _ _ _ (by decide) (by decide) _).two) | (with_reducible exact (sin_exp _).two) | (with_reducible exact (cos_exp _).two) | (with_reducible exact (tan_exp _).two) | exact no_exp.two
theorem ex_exp (f x : Int) : exp2 (exV f x) := by
 unfold exV
 split
 ·exact cas_exp _ _
 ·exact no_exp.two
theorem I_of {x : Int} (h : (Lit.int .i64 x).wf = true) : -9223372036854775808 ≤ x ∧ x ≤ 9223372036854775807 := by
 simp only [Lit.wf, IntKind.min, IntKind.max, IntKind.signed, IntKind.bits, Bool.and_eq_true] at h
 simp at h
 omega

theorem bk_order (p q : E3) (a : Option Addr) (n c : Nat) (b : Option Addr) (m d : Nat) (w : World) (h : IsW w a n c (wordsOf p.2.1)) (hn : n ≤ 1024) (k : IsW w b m d (wordsOf q.2.1)) (hm : m ≤ 1024) (hp : CanD p) (hq : CanD q) (ep : -40000 ≤ p.2.2 ∧ p.2.2 ≤ 40000) (eq : -40000 ≤ q.2.2 ∧ q.2.2 ≤ 40000) (bp : blen p.2.1 ≤ 65536) (bq : blen q.2.1 ≤ 65536) :
  Calls Tryz.prog 24 #[dyV p.1 a n c p.2.2, dyV q.1 b m d q.2.2] w fun r w' => r = .returned (.int .i64 (cmpD p q)) ∧ Below w.heap.size w w' := by
 have H := qOrder_calls p.1 a n c (wordsOf p.2.1) p.2.2 q.1 b m d (wordsOf q.2.1) q.2.2 w h (by omega) k (by omega) (by omega) (by omega) (by rw [val_words]; omega) (by rw [val_words]; omega)
 rw [val_words, val_words, form_of_can hp, form_of_can hq] at H
 exact H
theorem bk_to (p : E3) (a : Option Addr) (n c : Nat) (w : World) (h : IsW w a n c (wordsOf p.2.1)) (hn : n ≤ 1024) :
  Calls Tryz.prog 23 #[dyV p.1 a n c p.2.2] w fun r w' => r = .returned (.tuple #[.int .u64 (toR p.1 p.2.1 p.2.2).1, .bool (toR p.1 p.2.1 p.2.2).2]) ∧ Below w.heap.size w w' := by
 have H := qto_calls p.1 a n c (wordsOf p.2.1) p.2.2 w h (by omega)
 rw [val_words] at H
 exact H
theorem int_small (n : Int) (h : n.natAbs ≤ 100000) : -40000 ≤ (intD n).2.2 ∧ (intD n).2.2 ≤ 40000 ∧ blen (intD n).2.1 ≤ 65536 ∧ (wordsOf (intD n).2.1).length ≤ 1024 := by
 have h1 := int_exp n h
 have h2 := (int_few n true h).1
 simp only at h2
 exact ⟨by omega, by omega, by omega, (great_len _).1 ((great_not _).2 (by omega))⟩


set_option maxRecDepth 100000 in
set_option maxHeartbeats 4000000 in
theorem exactBack_walk (n : Int) (w : World) (_hn : -9223372036854775808 ≤ n ∧ n ≤ 9223372036854775807) (hT : TabE w) :
  Calls Tryz.prog 6 #[.int .i64 n] w fun q w' => q = .returned (.bool true) ∧ Below w.heap.size w w' := by
 have LC : Hid _ := fun W (b : Below w.heap.size w W) => exLives_calls W (hT.kept b)
 have bA : Below w.heap.size w w := Below.refl _ _
 by_cases h1 : n < -1022
 ·clear hT
  go_enter Tryz.func6, Tryz.ntmps6
  go_wp2_with fail
  refine Calls.mono (LC.out _ bA) ?_
  rintro q u1 ⟨rfl, b1⟩
  replace bA := nT bA b1
  clear b1
  go_wp2_with fail
  refine Calls.mono (LC.out _ bA) ?_
  rintro q u2 ⟨rfl, b1⟩
  replace bA := nT bA b1
  clear b1
  go_wp2_with fail
  go_ret
  exact ⟨rfl, bA⟩
 ·have h1' : -1022 ≤ n := by omega
  by_cases h2 : 1023 < n
  ·clear hT
   go_enter Tryz.func6, Tryz.ntmps6
   go_wp2_with fail
   refine Calls.mono (LC.out _ bA) ?_
   rintro q u1 ⟨rfl, b1⟩
   replace bA := nT bA b1
   clear b1
   go_wp2_with fail
   refine Calls.mono (LC.out _ bA) ?_
   rintro q u2 ⟨rfl, b1⟩
   replace bA := nT bA b1
   clear b1
   go_wp2_with fail
   go_ret
   exact ⟨rfl, bA⟩
  ·have h2' : n ≤ 1023 := by omega
   have h4 := bk_all n h1' h2'
   unfold bk4 at h4
   rw [Bool.and_eq_true, Bool.and_eq_true, Bool.and_eq_true] at h4
   have W0 : Hid _ := bk_way h4.1.1.1
   have W1 : Hid _ := bk_way h4.1.1.2
   have W2 : Hid _ := bk_way h4.1.2
   have W3 : Hid _ := bk_way h4.2
   obtain ⟨i1, i2, i3, i4⟩ := int_small n (by omega)
   have IC : Hid _ := fun W => qint_calls n ⟨by omega, by omega⟩ W
   have HI : Hid (CanD (intD n)) := form_can _ _ _
   have HB : Hid (-40000 ≤ (intD n).2.2 ∧ (intD n).2.2 ≤ 40000 ∧ blen (intD n).2.1 ≤ 65536 ∧ (wordsOf (intD n).2.1).length ≤ 1024) := ⟨i1, i2, i3, i4⟩
   have TX : Hid _ := fun (W : World) (a : Option Addr) (m c : Nat) (h : IsW W a m c (wordsOf (intD n).2.1)) (hm : m ≤ 1024) => bk_to (intD n) a m c W h hm
   have HX : Hid ((toR (intD n).1 (intD n).2.1 (intD n).2.2).1 = bkX n) := rfl
   rw [HX.out] at TX
   generalize (toR (intD n).1 (intD n).2.1 (intD n).2.2).2 = TB at *
   have F0 : Hid _ := fun W (b : Below w.heap.size w W) => exact_calls 2 (bkX n) W W0.out.1 (hT.kept b)
   have G0 : Hid _ := fun W (b : Below w.heap.size w W) (u : U (bkY 2 n).1) => exact_calls 8 (bkY 2 n).1 W u (hT.kept b)
   have Q0 : Hid _ := fun (W : World) (a : Option Addr) (m c : Nat) (h : IsW W a m c (wordsOf (bkD 2 n).1.2.1)) (hm : m ≤ 1024) => bk_to (bkD 2 n).1 a m c W h hm
   have R0 : Hid _ := fun (W : World) (a : Option Addr) (m c : Nat) (h : IsW W a m c (wordsOf (exV 8 (bkY 2 n).1).1.2.1)) (hm : m ≤ 1024) (a2 : Option Addr) (m2 c2 : Nat) (h2 : IsW W a2 m2 c2 (wordsOf (intD n).2.1)) (hm2 : m2 ≤ 1024) => bk_order (exV 8 (bkY 2 n).1).1 (intD n) a m c a2 m2 c2 W h hm h2 hm2 (ex_few 8 (bkY 2 n).1).2 HI.out (ex_exp 8 (bkY 2 n).1) ⟨HB.out.1, HB.out.2.1⟩ (Nat.le_trans (ex_few 8 (bkY 2 n).1).1 (by decide)) HB.out.2.2.1
   have D0 : bkD 2 n = exV 2 (bkX n) := rfl
   have Y0 : toR (bkD 2 n).1.1 (bkD 2 n).1.2.1 (bkD 2 n).1.2.2 = bkY 2 n := rfl
   rw [Y0] at Q0
   rw [← D0] at F0
   simp only [W0.out.2.1] at F0
   have F1 : Hid _ := fun W (b : Below w.heap.size w W) => exact_calls 3 (bkX n) W W1.out.1 (hT.kept b)
   have G1 : Hid _ := fun W (b : Below w.heap.size w W) (u : U (bkY 3 n).1) => exact_calls 9 (bkY 3 n).1 W u (hT.kept b)
   have Q1 : Hid _ := fun (W : World) (a : Option Addr) (m c : Nat) (h : IsW W a m c (wordsOf (bkD 3 n).1.2.1)) (hm : m ≤ 1024) => bk_to (bkD 3 n).1 a m c W h hm
   have R1 : Hid _ := fun (W : World) (a : Option Addr) (m c : Nat) (h : IsW W a m c (wordsOf (exV 9 (bkY 3 n).1).1.2.1)) (hm : m ≤ 1024) (a2 : Option Addr) (m2 c2 : Nat) (h2 : IsW W a2 m2 c2 (wordsOf (intD n).2.1)) (hm2 : m2 ≤ 1024) => bk_order (exV 9 (bkY 3 n).1).1 (intD n) a m c a2 m2 c2 W h hm h2 hm2 (ex_few 9 (bkY 3 n).1).2 HI.out (ex_exp 9 (bkY 3 n).1) ⟨HB.out.1, HB.out.2.1⟩ (Nat.le_trans (ex_few 9 (bkY 3 n).1).1 (by decide)) HB.out.2.2.1
   have D1 : bkD 3 n = exV 3 (bkX n) := rfl
   have Y1 : toR (bkD 3 n).1.1 (bkD 3 n).1.2.1 (bkD 3 n).1.2.2 = bkY 3 n := rfl
   rw [Y1] at Q1
   rw [← D1] at F1
   simp only [W1.out.2.1] at F1
   have F2 : Hid _ := fun W (b : Below w.heap.size w W) => exact_calls 5 (bkX n) W W2.out.1 (hT.kept b)
   have G2 : Hid _ := fun W (b : Below w.heap.size w W) (u : U (bkY 5 n).1) => exact_calls 11 (bkY 5 n).1 W u (hT.kept b)
   have Q2 : Hid _ := fun (W : World) (a : Option Addr) (m c : Nat) (h : IsW W a m c (wordsOf (bkD 5 n).1.2.1)) (hm : m ≤ 1024) => bk_to (bkD 5 n).1 a m c W h hm
   have R2 : Hid _ := fun (W : World) (a : Option Addr) (m c : Nat) (h : IsW W a m c (wordsOf (exV 11 (bkY 5 n).1).1.2.1)) (hm : m ≤ 1024) (a2 : Option Addr) (m2 c2 : Nat) (h2 : IsW W a2 m2 c2 (wordsOf (intD n).2.1)) (hm2 : m2 ≤ 1024) => bk_order (exV 11 (bkY 5 n).1).1 (intD n) a m c a2 m2 c2 W h hm h2 hm2 (ex_few 11 (bkY 5 n).1).2 HI.out (ex_exp 11 (bkY 5 n).1) ⟨HB.out.1, HB.out.2.1⟩ (Nat.le_trans (ex_few 11 (bkY 5 n).1).1 (by decide)) HB.out.2.2.1
   have D2 : bkD 5 n = exV 5 (bkX n) := rfl
   have Y2 : toR (bkD 5 n).1.1 (bkD 5 n).1.2.1 (bkD 5 n).1.2.2 = bkY 5 n := rfl
   rw [Y2] at Q2
   rw [← D2] at F2
   simp only [W2.out.2.1] at F2
   have F3 : Hid _ := fun W (b : Below w.heap.size w W) => exact_calls 6 (bkX n) W W3.out.1 (hT.kept b)
   have G3 : Hid _ := fun W (b : Below w.heap.size w W) (u : U (bkY 6 n).1) => exact_calls 12 (bkY 6 n).1 W u (hT.kept b)
   have Q3 : Hid _ := fun (W : World) (a : Option Addr) (m c : Nat) (h : IsW W a m c (wordsOf (bkD 6 n).1.2.1)) (hm : m ≤ 1024) => bk_to (bkD 6 n).1 a m c W h hm
   have R3 : Hid _ := fun (W : World) (a : Option Addr) (m c : Nat) (h : IsW W a m c (wordsOf (exV 12 (bkY 6 n).1).1.2.1)) (hm : m ≤ 1024) (a2 : Option Addr) (m2 c2 : Nat) (h2 : IsW W a2 m2 c2 (wordsOf (intD n).2.1)) (hm2 : m2 ≤ 1024) => bk_order (exV 12 (bkY 6 n).1).1 (intD n) a m c a2 m2 c2 W h hm h2 hm2 (ex_few 12 (bkY 6 n).1).2 HI.out (ex_exp 12 (bkY 6 n).1) ⟨HB.out.1, HB.out.2.1⟩ (Nat.le_trans (ex_few 12 (bkY 6 n).1).1 (by decide)) HB.out.2.2.1
   have D3 : bkD 6 n = exV 6 (bkX n) := rfl
   have Y3 : toR (bkD 6 n).1.1 (bkD 6 n).1.2.1 (bkD 6 n).1.2.2 = bkY 6 n := rfl
   rw [Y3] at Q3
   rw [← D3] at F3
   simp only [W3.out.2.1] at F3
   have HL : Hid ((wordsOf (intD n).2.1).length ≤ 1024) := i4
   clear hT h1 h2 h4 i1 i2 i3 i4 HX HB HI D0 Y0 D1 Y1 D2 Y2 D3 Y3
   generalize bkX n = X at *
   generalize bkD 2 n = V0 at *
   generalize bkY 2 n = Z0 at *
   generalize exV 8 Z0.1 = E0 at *
   generalize exE 8 Z0.1 = K0 at *
   obtain ⟨P0, S0⟩ := V0
   obtain ⟨A0, T0⟩ := Z0
   obtain ⟨M0, N0⟩ := E0
   simp only at F0 G0 Q0 R0 W0
   generalize cmpD M0 (intD n) = J0 at *
   generalize bkD 3 n = V1 at *
   generalize bkY 3 n = Z1 at *
   generalize exV 9 Z1.1 = E1 at *
   generalize exE 9 Z1.1 = K1 at *
   obtain ⟨P1, S1⟩ := V1
   obtain ⟨A1, T1⟩ := Z1
   obtain ⟨M1, N1⟩ := E1
   simp only at F1 G1 Q1 R1 W1
   generalize cmpD M1 (intD n) = J1 at *
   generalize bkD 5 n = V2 at *
   generalize bkY 5 n = Z2 at *
   generalize exV 11 Z2.1 = E2 at *
   generalize exE 11 Z2.1 = K2 at *
   obtain ⟨P2, S2⟩ := V2
   obtain ⟨A2, T2⟩ := Z2
   obtain ⟨M2, N2⟩ := E2
   simp only at F2 G2 Q2 R2 W2
   generalize cmpD M2 (intD n) = J2 at *
   generalize bkD 6 n = V3 at *
   generalize bkY 6 n = Z3 at *
   generalize exV 12 Z3.1 = E3 at *
   generalize exE 12 Z3.1 = K3 at *
   obtain ⟨P3, S3⟩ := V3
   obtain ⟨A3, T3⟩ := Z3
   obtain ⟨M3, N3⟩ := E3
   simp only at F3 G3 Q3 R3 W3
   generalize cmpD M3 (intD n) = J3 at *
   generalize intD n = I at *
   go_enter Tryz.func6, Tryz.ntmps6
   go_wp2_with fail
   refine Calls.mono (LC.out _ bA) ?_
   rintro q u1 ⟨rfl, b1⟩
   replace bA := nT bA b1
   clear b1 LC
   have bD : Below u1.heap.size u1 (((((u1.alloc (.cells #[.int .u8 2, .int .u8 8] 22)).alloc (.cells #[.int .u8 3, .int .u8 9] 22)).alloc (.cells #[.int .u8 5, .int .u8 11] 22)).alloc (.cells #[.int .u8 6, .int .u8 12] 22)).alloc (.cells #[.slice (some ⟨u1.heap.size, 0, none⟩) 2 2, .slice (some ⟨u1.heap.size + 1, 0, none⟩) 2 2, .slice (some ⟨u1.heap.size + 1 + 1, 0, none⟩) 2 2, .slice (some ⟨u1.heap.size + 1 + 1 + 1, 0, none⟩) 2 2] 39)) := nT (nT (nT (nT (below_one _ _) (below_one _ _)) (below_one _ _)) (below_one _ _)) (below_one _ _)
   replace bA := nT bA bD
   clear bD
   have c00 : (((((u1.alloc (.cells #[.int .u8 2, .int .u8 8] 22)).alloc (.cells #[.int .u8 3, .int .u8 9] 22)).alloc (.cells #[.int .u8 5, .int .u8 11] 22)).alloc (.cells #[.int .u8 6, .int .u8 12] 22)).alloc (.cells #[.slice (some ⟨u1.heap.size, 0, none⟩) 2 2, .slice (some ⟨u1.heap.size + 1, 0, none⟩) 2 2, .slice (some ⟨u1.heap.size + 1 + 1, 0, none⟩) 2 2, .slice (some ⟨u1.heap.size + 1 + 1 + 1, 0, none⟩) 2 2] 39)).cell? ⟨u1.heap.size, 0, none⟩ = some (.int .u8 2) := by go_simp
   have c01 : (((((u1.alloc (.cells #[.int .u8 2, .int .u8 8] 22)).alloc (.cells #[.int .u8 3, .int .u8 9] 22)).alloc (.cells #[.int .u8 5, .int .u8 11] 22)).alloc (.cells #[.int .u8 6, .int .u8 12] 22)).alloc (.cells #[.slice (some ⟨u1.heap.size, 0, none⟩) 2 2, .slice (some ⟨u1.heap.size + 1, 0, none⟩) 2 2, .slice (some ⟨u1.heap.size + 1 + 1, 0, none⟩) 2 2, .slice (some ⟨u1.heap.size + 1 + 1 + 1, 0, none⟩) 2 2] 39)).cell? ⟨u1.heap.size, 1, none⟩ = some (.int .u8 8) := by go_simp
   have c10 : (((((u1.alloc (.cells #[.int .u8 2, .int .u8 8] 22)).alloc (.cells #[.int .u8 3, .int .u8 9] 22)).alloc (.cells #[.int .u8 5, .int .u8 11] 22)).alloc (.cells #[.int .u8 6, .int .u8 12] 22)).alloc (.cells #[.slice (some ⟨u1.heap.size, 0, none⟩) 2 2, .slice (some ⟨u1.heap.size + 1, 0, none⟩) 2 2, .slice (some ⟨u1.heap.size + 1 + 1, 0, none⟩) 2 2, .slice (some ⟨u1.heap.size + 1 + 1 + 1, 0, none⟩) 2 2] 39)).cell? ⟨u1.heap.size + 1, 0, none⟩ = some (.int .u8 3) := by go_simp
   have c11 : (((((u1.alloc (.cells #[.int .u8 2, .int .u8 8] 22)).alloc (.cells #[.int .u8 3, .int .u8 9] 22)).alloc (.cells #[.int .u8 5, .int .u8 11] 22)).alloc (.cells #[.int .u8 6, .int .u8 12] 22)).alloc (.cells #[.slice (some ⟨u1.heap.size, 0, none⟩) 2 2, .slice (some ⟨u1.heap.size + 1, 0, none⟩) 2 2, .slice (some ⟨u1.heap.size + 1 + 1, 0, none⟩) 2 2, .slice (some ⟨u1.heap.size + 1 + 1 + 1, 0, none⟩) 2 2] 39)).cell? ⟨u1.heap.size + 1, 1, none⟩ = some (.int .u8 9) := by go_simp
   have c20 : (((((u1.alloc (.cells #[.int .u8 2, .int .u8 8] 22)).alloc (.cells #[.int .u8 3, .int .u8 9] 22)).alloc (.cells #[.int .u8 5, .int .u8 11] 22)).alloc (.cells #[.int .u8 6, .int .u8 12] 22)).alloc (.cells #[.slice (some ⟨u1.heap.size, 0, none⟩) 2 2, .slice (some ⟨u1.heap.size + 1, 0, none⟩) 2 2, .slice (some ⟨u1.heap.size + 1 + 1, 0, none⟩) 2 2, .slice (some ⟨u1.heap.size + 1 + 1 + 1, 0, none⟩) 2 2] 39)).cell? ⟨u1.heap.size + 1 + 1, 0, none⟩ = some (.int .u8 5) := by go_simp
   have c21 : (((((u1.alloc (.cells #[.int .u8 2, .int .u8 8] 22)).alloc (.cells #[.int .u8 3, .int .u8 9] 22)).alloc (.cells #[.int .u8 5, .int .u8 11] 22)).alloc (.cells #[.int .u8 6, .int .u8 12] 22)).alloc (.cells #[.slice (some ⟨u1.heap.size, 0, none⟩) 2 2, .slice (some ⟨u1.heap.size + 1, 0, none⟩) 2 2, .slice (some ⟨u1.heap.size + 1 + 1, 0, none⟩) 2 2, .slice (some ⟨u1.heap.size + 1 + 1 + 1, 0, none⟩) 2 2] 39)).cell? ⟨u1.heap.size + 1 + 1, 1, none⟩ = some (.int .u8 11) := by go_simp
   have c30 : (((((u1.alloc (.cells #[.int .u8 2, .int .u8 8] 22)).alloc (.cells #[.int .u8 3, .int .u8 9] 22)).alloc (.cells #[.int .u8 5, .int .u8 11] 22)).alloc (.cells #[.int .u8 6, .int .u8 12] 22)).alloc (.cells #[.slice (some ⟨u1.heap.size, 0, none⟩) 2 2, .slice (some ⟨u1.heap.size + 1, 0, none⟩) 2 2, .slice (some ⟨u1.heap.size + 1 + 1, 0, none⟩) 2 2, .slice (some ⟨u1.heap.size + 1 + 1 + 1, 0, none⟩) 2 2] 39)).cell? ⟨u1.heap.size + 1 + 1 + 1, 0, none⟩ = some (.int .u8 6) := by go_simp
   have c31 : (((((u1.alloc (.cells #[.int .u8 2, .int .u8 8] 22)).alloc (.cells #[.int .u8 3, .int .u8 9] 22)).alloc (.cells #[.int .u8 5, .int .u8 11] 22)).alloc (.cells #[.int .u8 6, .int .u8 12] 22)).alloc (.cells #[.slice (some ⟨u1.heap.size, 0, none⟩) 2 2, .slice (some ⟨u1.heap.size + 1, 0, none⟩) 2 2, .slice (some ⟨u1.heap.size + 1 + 1, 0, none⟩) 2 2, .slice (some ⟨u1.heap.size + 1 + 1 + 1, 0, none⟩) 2 2] 39)).cell? ⟨u1.heap.size + 1 + 1 + 1, 1, none⟩ = some (.int .u8 12) := by go_simp
   have s0 : (((((u1.alloc (.cells #[.int .u8 2, .int .u8 8] 22)).alloc (.cells #[.int .u8 3, .int .u8 9] 22)).alloc (.cells #[.int .u8 5, .int .u8 11] 22)).alloc (.cells #[.int .u8 6, .int .u8 12] 22)).alloc (.cells #[.slice (some ⟨u1.heap.size, 0, none⟩) 2 2, .slice (some ⟨u1.heap.size + 1, 0, none⟩) 2 2, .slice (some ⟨u1.heap.size + 1 + 1, 0, none⟩) 2 2, .slice (some ⟨u1.heap.size + 1 + 1 + 1, 0, none⟩) 2 2] 39)).cell? ⟨u1.heap.size + 1 + 1 + 1 + 1, 0, none⟩ = some (.slice (some ⟨u1.heap.size, 0, none⟩) 2 2) := by go_simp
   have s1 : (((((u1.alloc (.cells #[.int .u8 2, .int .u8 8] 22)).alloc (.cells #[.int .u8 3, .int .u8 9] 22)).alloc (.cells #[.int .u8 5, .int .u8 11] 22)).alloc (.cells #[.int .u8 6, .int .u8 12] 22)).alloc (.cells #[.slice (some ⟨u1.heap.size, 0, none⟩) 2 2, .slice (some ⟨u1.heap.size + 1, 0, none⟩) 2 2, .slice (some ⟨u1.heap.size + 1 + 1, 0, none⟩) 2 2, .slice (some ⟨u1.heap.size + 1 + 1 + 1, 0, none⟩) 2 2] 39)).cell? ⟨u1.heap.size + 1 + 1 + 1 + 1, 1, none⟩ = some (.slice (some ⟨u1.heap.size + 1, 0, none⟩) 2 2) := by go_simp
   have s2 : (((((u1.alloc (.cells #[.int .u8 2, .int .u8 8] 22)).alloc (.cells #[.int .u8 3, .int .u8 9] 22)).alloc (.cells #[.int .u8 5, .int .u8 11] 22)).alloc (.cells #[.int .u8 6, .int .u8 12] 22)).alloc (.cells #[.slice (some ⟨u1.heap.size, 0, none⟩) 2 2, .slice (some ⟨u1.heap.size + 1, 0, none⟩) 2 2, .slice (some ⟨u1.heap.size + 1 + 1, 0, none⟩) 2 2, .slice (some ⟨u1.heap.size + 1 + 1 + 1, 0, none⟩) 2 2] 39)).cell? ⟨u1.heap.size + 1 + 1 + 1 + 1, 2, none⟩ = some (.slice (some ⟨u1.heap.size + 1 + 1, 0, none⟩) 2 2) := by go_simp
   have s3 : (((((u1.alloc (.cells #[.int .u8 2, .int .u8 8] 22)).alloc (.cells #[.int .u8 3, .int .u8 9] 22)).alloc (.cells #[.int .u8 5, .int .u8 11] 22)).alloc (.cells #[.int .u8 6, .int .u8 12] 22)).alloc (.cells #[.slice (some ⟨u1.heap.size, 0, none⟩) 2 2, .slice (some ⟨u1.heap.size + 1, 0, none⟩) 2 2, .slice (some ⟨u1.heap.size + 1 + 1, 0, none⟩) 2 2, .slice (some ⟨u1.heap.size + 1 + 1 + 1, 0, none⟩) 2 2] 39)).cell? ⟨u1.heap.size + 1 + 1 + 1 + 1, 3, none⟩ = some (.slice (some ⟨u1.heap.size + 1 + 1 + 1, 0, none⟩) 2 2) := by go_simp
   go_upto_region 4 with fail
   generalize (((((u1.alloc (.cells #[.int .u8 2, .int .u8 8] 22)).alloc (.cells #[.int .u8 3, .int .u8 9] 22)).alloc (.cells #[.int .u8 5, .int .u8 11] 22)).alloc (.cells #[.int .u8 6, .int .u8 12] 22)).alloc (.cells #[.slice (some ⟨u1.heap.size, 0, none⟩) 2 2, .slice (some ⟨u1.heap.size + 1, 0, none⟩) 2 2, .slice (some ⟨u1.heap.size + 1 + 1, 0, none⟩) 2 2, .slice (some ⟨u1.heap.size + 1 + 1 + 1, 0, none⟩) 2 2] 39)) = u2 at *
   go_wp2_with fail
   refine Calls.mono (IC.out _) ?_
   have lb := bA.size
   rintro q u3 ⟨_, rfl, ⟨a1, n1, c1, rfl, HN1, hO1⟩, b1⟩
   replace hO1 := hO1.low lb
   clear lb
   replace bA := nT bA b1
   replace c00 := kC b1 c00
   replace c01 := kC b1 c01
   replace c10 := kC b1 c10
   replace c11 := kC b1 c11
   replace c20 := kC b1 c20
   replace c21 := kC b1 c21
   replace c30 := kC b1 c30
   replace c31 := kC b1 c31
   replace s0 := kC b1 s0
   replace s1 := kC b1 s1
   replace s2 := kC b1 s2
   replace s3 := kC b1 s3
   clear b1 IC
   have hn1 : n1 ≤ 1024 := by have := HN1.out; have := HL.out; omega
   have bD := below_one u3 (.cells #[.bool I.1, .slice a1 n1 c1, .int .i64 I.2.2] 27)
   replace bA := nT bA bD
   replace c00 := kC bD c00
   replace c01 := kC bD c01
   replace c10 := kC bD c10
   replace c11 := kC bD c11
   replace c20 := kC bD c20
   replace c21 := kC bD c21
   replace c30 := kC bD c30
   replace c31 := kC bD c31
   replace s0 := kC bD s0
   replace s1 := kC bD s1
   replace s2 := kC bD s2
   replace s3 := kC bD s3
   replace hO1 := hO1.keep bD
   have t0 : (u3.alloc (.cells #[.bool I.1, .slice a1 n1 c1, .int .i64 I.2.2] 27)).cell? ⟨u3.heap.size, 0, none⟩ = some (.bool I.1) := by go_simp
   have t1 : (u3.alloc (.cells #[.bool I.1, .slice a1 n1 c1, .int .i64 I.2.2] 27)).cell? ⟨u3.heap.size, 1, none⟩ = some (.slice a1 n1 c1) := by go_simp
   have t2 : (u3.alloc (.cells #[.bool I.1, .slice a1 n1 c1, .int .i64 I.2.2] 27)).cell? ⟨u3.heap.size, 2, none⟩ = some (.int .i64 I.2.2) := by go_simp
   clear bD
   go_upto_region 5 with fail
   generalize u3.alloc (.cells #[.bool I.1, .slice a1 n1 c1, .int .i64 I.2.2] 27) = u4 at *
   generalize u3.heap.size = BI at *
   go_wp2_with fail
   refine Calls.mono (TX.out _ _ _ _ hO1.1 hn1) ?_
   rintro q u5 ⟨rfl, b1⟩
   replace bA := nT bA b1
   replace c00 := kC b1 c00
   replace c01 := kC b1 c01
   replace c10 := kC b1 c10
   replace c11 := kC b1 c11
   replace c20 := kC b1 c20
   replace c21 := kC b1 c21
   replace c30 := kC b1 c30
   replace c31 := kC b1 c31
   replace s0 := kC b1 s0
   replace s1 := kC b1 s1
   replace s2 := kC b1 s2
   replace s3 := kC b1 s3
   replace hO1 := hO1.keep b1
   replace t0 := kC b1 t0
   replace t1 := kC b1 t1
   replace t2 := kC b1 t2
   clear b1 TX
   go_wp2_with fail
   go_loopw [41] (fun i wr => ∃ k : Nat, k ≤ 4 ∧ i = .int .i64 k ∧ Below u5.heap.size u5 wr) (fun i _ => 4 - (intOf i).toNat)
   case atStart => exact ⟨0, by omega, rfl, Below.refl _ _⟩
   case round =>
    obtain ⟨k, hk, rfl, hr⟩ := hrel
    replace bA := nT bA hr
    replace c00 := kC hr c00
    replace c01 := kC hr c01
    replace c10 := kC hr c10
    replace c11 := kC hr c11
    replace c20 := kC hr c20
    replace c21 := kC hr c21
    replace c30 := kC hr c30
    replace c31 := kC hr c31
    replace s0 := kC hr s0
    replace s1 := kC hr s1
    replace s2 := kC hr s2
    replace s3 := kC hr s3
    replace hO1 := hO1.keep hr
    replace t0 := kC hr t0
    replace t1 := kC hr t1
    replace t2 := kC hr t2
    have hk4 : k = 4 ∨ k = 0 ∨ k = 1 ∨ k = 2 ∨ k = 3 := by omega
    rcases hk4 with rfl | m0 | m1 | m2 | m3
    ·go_wp2_with fail
     go_ret
     exact ⟨rfl, bA⟩
    all_goals first
     | (subst m0; have F9 := F0; have G9 := G0; have Q9 := Q0; have R9 := R0; have W9 := W0; clear F0 G0 Q0 R0 W0 F1 G1 Q1 R1 W1 F2 G2 Q2 R2 W2 F3 G3 Q3 R3 W3; have k0 := c00; have k1 := c01; have k2 := s0; clear c00 c01 c10 c11 c20 c21 c30 c31 s0 s1 s2 s3; obtain ⟨P9, rfl⟩ : ∃ x, x = P0 := ⟨_, rfl⟩; obtain ⟨M9, rfl⟩ : ∃ x, x = M0 := ⟨_, rfl⟩)
     | (subst m1; have F9 := F1; have G9 := G1; have Q9 := Q1; have R9 := R1; have W9 := W1; clear F0 G0 Q0 R0 W0 F1 G1 Q1 R1 W1 F2 G2 Q2 R2 W2 F3 G3 Q3 R3 W3; have k0 := c10; have k1 := c11; have k2 := s1; clear c00 c01 c10 c11 c20 c21 c30 c31 s0 s1 s2 s3; obtain ⟨P9, rfl⟩ : ∃ x, x = P1 := ⟨_, rfl⟩; obtain ⟨M9, rfl⟩ : ∃ x, x = M1 := ⟨_, rfl⟩)
     | (subst m2; have F9 := F2; have G9 := G2; have Q9 := Q2; have R9 := R2; have W9 := W2; clear F0 G0 Q0 R0 W0 F1 G1 Q1 R1 W1 F2 G2 Q2 R2 W2 F3 G3 Q3 R3 W3; have k0 := c20; have k1 := c21; have k2 := s2; clear c00 c01 c10 c11 c20 c21 c30 c31 s0 s1 s2 s3; obtain ⟨P9, rfl⟩ : ∃ x, x = P2 := ⟨_, rfl⟩; obtain ⟨M9, rfl⟩ : ∃ x, x = M2 := ⟨_, rfl⟩)
     | (subst m3; have F9 := F3; have G9 := G3; have Q9 := Q3; have R9 := R3; have W9 := W3; clear F0 G0 Q0 R0 W0 F1 G1 Q1 R1 W1 F2 G2 Q2 R2 W2 F3 G3 Q3 R3 W3; have k0 := c30; have k1 := c31; have k2 := s3; clear c00 c01 c10 c11 c20 c21 c30 c31 s0 s1 s2 s3; obtain ⟨P9, rfl⟩ : ∃ x, x = P3 := ⟨_, rfl⟩; obtain ⟨M9, rfl⟩ : ∃ x, x = M3 := ⟨_, rfl⟩)
    all_goals rcases W9.out.2.2 with h5 | ⟨h5, h6⟩ | ⟨h5, h6, hu, h7, h8, h9⟩
    all_goals
     simp only [h5] at F9
     first | (have _q := h6; simp only [h6] at Q9) | skip
     first | (have _q := h7; simp only [h7, h8] at G9; simp only [h9] at R9) | skip
     go_wp2_with fail
     refine Calls.mono (F9.out _ bA) ?_
     have lb := bA.size
     rintro q x1 ⟨_, rfl, ⟨a2, n2, c2, rfl, HN2, hn2, hO2⟩, b1⟩
     replace hO2 := hO2.low lb
     clear lb
     replace bA := nT bA b1
     replace hO1 := hO1.keep b1
     replace t0 := kC b1 t0
     replace t1 := kC b1 t1
     replace t2 := kC b1 t2
     replace k0 := kC b1 k0
     replace k1 := kC b1 k1
     replace k2 := kC b1 k2
     replace hr := nT hr b1
     clear b1
     have bD := below_one x1 (.cells #[.bool P9.1, .slice a2 n2 c2, .int .i64 P9.2.2] 27)
     replace bA := nT bA bD
     replace hO1 := hO1.keep bD
     replace t0 := kC bD t0
     replace t1 := kC bD t1
     replace t2 := kC bD t2
     replace k0 := kC bD k0
     replace k1 := kC bD k1
     replace k2 := kC bD k2
     replace hr := nT hr bD
     replace hO2 := hO2.keep bD
     have d0 : (x1.alloc (.cells #[.bool P9.1, .slice a2 n2 c2, .int .i64 P9.2.2] 27)).cell? ⟨x1.heap.size, 0, none⟩ = some (.bool P9.1) := by go_simp
     have d1 : (x1.alloc (.cells #[.bool P9.1, .slice a2 n2 c2, .int .i64 P9.2.2] 27)).cell? ⟨x1.heap.size, 1, none⟩ = some (.slice a2 n2 c2) := by go_simp
     have d2 : (x1.alloc (.cells #[.bool P9.1, .slice a2 n2 c2, .int .i64 P9.2.2] 27)).cell? ⟨x1.heap.size, 2, none⟩ = some (.int .i64 P9.2.2) := by go_simp
     clear bD
     go_upto_region 10 with fail
     generalize x1.alloc (.cells #[.bool P9.1, .slice a2 n2 c2, .int .i64 P9.2.2] 27) = x2 at *
     generalize x1.heap.size = BD at *
     go_wp2_with fail
     refine Calls.mono (Q9.out _ _ _ _ hO2.1 hn2) ?_
     rintro q x3 ⟨rfl, b1⟩
     replace bA := nT bA b1
     replace hO1 := hO1.keep b1
     replace t0 := kC b1 t0
     replace t1 := kC b1 t1
     replace t2 := kC b1 t2
     replace k0 := kC b1 k0
     replace k1 := kC b1 k1
     replace k2 := kC b1 k2
     replace hr := nT hr b1
     replace hO2 := hO2.keep b1
     replace d0 := kC b1 d0
     replace d1 := kC b1 d1
     replace d2 := kC b1 d2
     clear b1
     go_wp2_with fail
     first
      | (have _q := h7; refine Calls.mono (G9.out _ bA hu) ?_; have lb := bA.size; rintro q x4 ⟨_, rfl, ⟨a3, n3, c3, rfl, HN3, hn3, hO3⟩, b1⟩; replace hO3 := hO3.low lb; clear lb; replace bA := nT bA b1; replace hO1 := hO1.keep b1; replace t0 := kC b1 t0; replace t1 := kC b1 t1; replace t2 := kC b1 t2; replace k0 := kC b1 k0; replace k1 := kC b1 k1; replace k2 := kC b1 k2; replace hr := nT hr b1; replace hO2 := hO2.keep b1; replace d0 := kC b1 d0; replace d1 := kC b1 d1; replace d2 := kC b1 d2; clear b1; have bD := below_one x4 (.cells #[.bool M9.1, .slice a3 n3 c3, .int .i64 M9.2.2] 27); replace bA := nT bA bD; replace hO1 := hO1.keep bD; replace t0 := kC bD t0; replace t1 := kC bD t1; replace t2 := kC bD t2; replace k0 := kC bD k0; replace k1 := kC bD k1; replace k2 := kC bD k2; replace hr := nT hr bD; replace hO2 := hO2.keep bD; replace d0 := kC bD d0; replace d1 := kC bD d1; replace d2 := kC bD d2; replace hO3 := hO3.keep bD; have e0 : (x4.alloc (.cells #[.bool M9.1, .slice a3 n3 c3, .int .i64 M9.2.2] 27)).cell? ⟨x4.heap.size, 0, none⟩ = some (.bool M9.1) := (by go_simp); have e1 : (x4.alloc (.cells #[.bool M9.1, .slice a3 n3 c3, .int .i64 M9.2.2] 27)).cell? ⟨x4.heap.size, 1, none⟩ = some (.slice a3 n3 c3) := (by go_simp); have e2 : (x4.alloc (.cells #[.bool M9.1, .slice a3 n3 c3, .int .i64 M9.2.2] 27)).cell? ⟨x4.heap.size, 2, none⟩ = some (.int .i64 M9.2.2) := (by go_simp); clear bD; go_upto_region 15 with fail; generalize x4.alloc (.cells #[.bool M9.1, .slice a3 n3 c3, .int .i64 M9.2.2] 27) = x5 at *; generalize x4.heap.size = BE at *; go_wp2_with fail; refine Calls.mono (R9.out _ _ _ _ hO3.1 hn3 _ _ _ hO1.1 hn1) ?_; rintro q x6 ⟨rfl, b1⟩; replace bA := nT bA b1; replace hO1 := hO1.keep b1; replace t0 := kC b1 t0; replace t1 := kC b1 t1; replace t2 := kC b1 t2; replace k0 := kC b1 k0; replace k1 := kC b1 k1; replace k2 := kC b1 k2; replace hr := nT hr b1; replace hO2 := hO2.keep b1; replace d0 := kC b1 d0; replace d1 := kC b1 d1; replace d2 := kC b1 d2; replace hO3 := hO3.keep b1; replace e0 := kC b1 e0; replace e1 := kC b1 e1; replace e2 := kC b1 e2; clear b1; go_wp2_with fail)
      | skip
     go_roundw
     case rel => first | exact ⟨1, by omega, by go_num, hr⟩ | exact ⟨2, by omega, by go_num, hr⟩ | exact ⟨3, by omega, by go_num, hr⟩ | exact ⟨4, by omega, by go_num, hr⟩
     case measure => simp [intOf]

end Go.Proofs.YtoefhlapfnjbjaaGreatDoor

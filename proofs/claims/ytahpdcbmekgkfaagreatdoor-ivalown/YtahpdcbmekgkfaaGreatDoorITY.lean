/- What Neg, Scale, Join and Cut answer (pure): the program's answers in the document's words. The document's Neg, Scale, Join, Cut (P6.3), in the program's words. The document's Join, walked. The document's Turn (P6.3), walked. -/
import Derived.Test.YtahpdcbmekgkfaaGreatDoorITX
import Derived.Test.YtahpdcbmekgkfaaGreatDoorTMF
import Derived.Test.YtahpdcbmekgkfaaGreatDoorTMJ
import Derived.Test.YtahpdcbmekgkfaaGreatDoorIVR
import Derived.Test.YtahpdcbmekgkfaaGreatDoorIVGU
import Derived.Test.YtahpdcbmekgkfaaGreatDoorCR

namespace Go.Proofs.YtahpdcbmekgkfaaGreatDoor
open Go.RowKit
theorem cnR_eq (x y : DT) : cnR x y = if rtT x y = true then roomR (tT x) (tT y) else nilR 2 := by
 have h := cn_words x y
 unfold cnR
 by_cases r : rtT x y = true
 ·rw [if_pos r] at h
  rw [if_pos r]
  unfold roomR tT
  by_cases q : (roomB (formD x.1 (val x.2.2.2.2.1) x.2.2.2.2.2) && roomB (formD y.1 (val y.2.2.2.2.1) y.2.2.2.2.2)) = true
  ·rw [if_pos q] at h
   rw [if_pos q, h, (cn_words2 x y r q).1, (cn_words2 x y r q).2]
  ·rw [if_neg q] at h
   rw [if_neg q, cnL, cnH, h]
   rfl
 ·rw [if_neg r] at h
  rw [if_neg r, cnL, cnH, h]
  rfl
theorem ci_le (a b : Int) : Lib.compareInt a b ≤ 0 ↔ a ≤ b := by
 unfold Lib.compareInt
 split
 ·constructor <;> intro <;> omega
 ·split
  ·constructor <;> intro <;> omega
  ·constructor <;> intro <;> omega
theorem ci_lt (a b : Int) : Lib.compareInt a b < 0 ↔ a < b := by
 unfold Lib.compareInt
 split
 ·constructor <;> intro <;> omega
 ·split
  ·constructor <;> intro <;> omega
  ·constructor <;> intro <;> omega
theorem ci_gt (a b : Int) : 0 < Lib.compareInt a b ↔ b < a := by
 unfold Lib.compareInt
 split
 ·constructor <;> intro <;> omega
 ·split
  ·constructor <;> intro <;> omega
  ·constructor <;> intro <;> omega
theorem tT_low {x : DT} {K : Nat} (h : -(K : Int) ≤ x.2.2.2.2.2) : -(K : Int) ≤ (tT x).2.2 := by
 unfold tT formD
 split
 ·show -(K : Int) ≤ 0; omega
 ·show -(K : Int) ≤ x.2.2.2.2.2 + (tz (val x.2.2.2.2.1) : Int); omega
theorem pk_rt {x y u v : DT} (h : rtT x y = true) (h' : rtT u v = true) : rtT (pkT true x u) (pkT false y v) = true := by
 obtain ⟨r1, r2⟩ := rt_rg2 h
 obtain ⟨r3, r4⟩ := rt_rg2 h'
 obtain ⟨K, hK⟩ : ∃ K : Nat, K = x.2.2.2.2.2.natAbs + y.2.2.2.2.2.natAbs + u.2.2.2.2.2.natAbs + v.2.2.2.2.2.natAbs := ⟨_, rfl⟩
 have l1 : -(K : Int) ≤ (tT x).2.2 := tT_low (by omega)
 have l2 : -(K : Int) ≤ (tT y).2.2 := tT_low (by omega)
 have l3 : -(K : Int) ≤ (tT u).2.2 := tT_low (by omega)
 have l4 : -(K : Int) ≤ (tT v).2.2 := tT_low (by omega)
 have e : ∀ a b : DT, rtT a b = ((rgT a && rgT b) && decide (cmpD (tT a) (tT b) ≤ 0)) := fun _ _ => rfl
 rw [e, r1, r2, Bool.true_and, Bool.true_and, decide_eq_true_eq, vI_cmp _ _ K l1 l2, ci_le] at h
 rw [e, r3, r4, Bool.true_and, Bool.true_and, decide_eq_true_eq, vI_cmp _ _ K l3 l4, ci_le] at h'
 have hl : (pkT true x u = x ∨ pkT true x u = u) ∧ vI (tT (pkT true x u)) (-(K : Int)) ≤ vI (tT x) (-(K : Int)) := by
  unfold pkT
  split
  ·rename_i q
   refine ⟨Or.inr rfl, ?_⟩
   rcases q with ⟨-, q⟩ | ⟨q, -⟩
   ·rw [vI_cmp _ _ K l3 l1, ci_lt] at q
    omega
   ·cases q
  ·exact ⟨Or.inl rfl, Int.le_refl _⟩
 have hh : (pkT false y v = y ∨ pkT false y v = v) ∧ vI (tT y) (-(K : Int)) ≤ vI (tT (pkT false y v)) (-(K : Int)) := by
  unfold pkT
  split
  ·rename_i q
   refine ⟨Or.inr rfl, ?_⟩
   rcases q with ⟨q, -⟩ | ⟨-, q⟩
   ·cases q
   ·rw [vI_cmp _ _ K l4 l2, ci_gt] at q
    omega
  ·exact ⟨Or.inl rfl, Int.le_refl _⟩
 obtain ⟨hl1, hl2⟩ := hl
 obtain ⟨hh1, hh2⟩ := hh
 generalize pkT true x u = a at *
 generalize pkT false y v = b at *
 have ra : rgT a = true := by rcases hl1 with rfl | rfl <;> assumption
 have rb : rgT b = true := by rcases hh1 with rfl | rfl <;> assumption
 have la : -(K : Int) ≤ (tT a).2.2 := by rcases hl1 with rfl | rfl <;> assumption
 have lb : -(K : Int) ≤ (tT b).2.2 := by rcases hh1 with rfl | rfl <;> assumption
 rw [e, ra, rb, Bool.true_and, Bool.true_and, decide_eq_true_eq, vI_cmp _ _ K la lb, ci_le]
 omega
def trR (k : Nat) (x y u v : DT) (n : Int) : Int × (Bool × Nat × Int) × (Bool × Nat × Int) :=
 match k with
 | 0 => if rtT x y = true then roomR (tT (flT y)) (tT (flT x)) else nilR 2
 | 1 => if (rtT x y && (decide (-65536 ≤ n) && decide (n ≤ 65536))) = true then roomR (formD x.1 (val x.2.2.2.2.1) (x.2.2.2.2.2 + n)) (formD y.1 (val y.2.2.2.2.1) (y.2.2.2.2.2 + n)) else nilR 2
 | 2 => if (rtT x y && rtT u v) = true then roomR (tT (pkT true x u)) (tT (pkT false y v)) else nilR 2
 | _ => if (rtT x y && (decide (1 ≤ n) && decide (n ≤ 8192))) = true then roomR (cutD (tT x) n false) (cutD (tT y) n true) else nilR 2
def IvV (B : Nat) (w : World) (v : Value) (L H : Bool × Nat × Int) : Prop := ∃ X Y : DT, v = ivT X Y ∧ isP X L ∧ isP Y H ∧ ownT B w X ∧ ownT B w Y
theorem isP.room {X : DT} {P : Bool × Nat × Int} (h : isP X P) : rgT X = roomB P := by
 obtain ⟨-, h2, h3⟩ := h
 unfold rgT rightB roomB
 rw [h2, h3, val_words]
theorem docRoom_calls {X Y : DT} {L H : Bool × Nat × Int} (hX : isP X L) (hY : isP Y H) (B : Nat) (w : World) (oX : ownT B w X) (oY : ownT B w Y) :
  Calls Tryz.prog 39 #[ivT X Y] w fun r w' => ∃ v, r = .returned v ∧ IvA B w' v (roomR L H) ∧ Below w.heap.size w w' := by
 refine (vRoom_calls X Y w oX.inT oY.inT).mono ?_
 rintro r w' ⟨rfl, hb⟩
 rw [hX.room, hY.room]
 unfold roomR
 by_cases q : (roomB L && roomB H) = true
 ·rw [if_pos q, if_pos q]
  exact ⟨_, rfl, ⟨X, Y, rfl, hX, hY, oX.keep hb, oY.keep hb⟩, hb⟩
 ·rw [if_neg q, if_neg q]
  exact ⟨_, rfl, ivA_nil _ _ _, hb⟩
theorem small_own {B : Nat} {w : World} {P : Bool × Nat × Int} {a : Option Addr} {n c : Nat} (hn : Hid (n = (wO P.2.1).length)) (O : OwnW B w a n c (wO P.2.1)) (hb : blen P.2.1 ≤ 10000000) : ownT B w (P.1, a, n, c, wO P.2.1, P.2.2) := by
 refine ⟨O, ?_⟩
 show n ≤ _
 rw [hn.out]
 have hw : (wO P.2.1).length ≤ 1000000 := (words_len2 _ _).2 (by omega)
 omega
theorem tT_bl {x : DT} (h : rgT x = true) : blen (val x.2.2.2.2.1) ≤ 65536 := by
 obtain ⟨g, -⟩ := rightB_yes h
 exact (great_not _).1 g
theorem form_bl (s : Bool) (m : Nat) (e : Int) : blen (formD s m e).2.1 ≤ blen m := blen_mono (form_amount_le _ _ _)
theorem tT_bounds {x : DT} (h : rgT x = true) : blen (tT x).2.1 ≤ 65536 ∧ -100000 ≤ (tT x).2.2 ∧ (tT x).2.2 ≤ 100000 := by
 have hb := tT_bl h
 have e := (rightB_yes h).2
 refine ⟨Nat.le_trans (form_bl _ _ _) hb, ?_⟩
 have ht := tz_le_blen (val x.2.2.2.2.1)
 unfold tT formD
 split
 ·exact ⟨by decide, by decide⟩
 ·show -100000 ≤ x.2.2.2.2.2 + (tz (val x.2.2.2.2.1) : Int) ∧ x.2.2.2.2.2 + (tz (val x.2.2.2.2.1) : Int) ≤ 100000
  omega
theorem isP.form {X : DT} {x : DT} (h : isP X (tT x)) : formD X.1 (val X.2.2.2.2.1) X.2.2.2.2.2 = tT x := by
 obtain ⟨h1, h2, h3⟩ := h
 rw [h1, h2, h3, val_words]
 exact form_of_can (form_can _ _ _)
theorem ordP_calls {X U x u : DT} (hX : isP X (tT x)) (hU : isP U (tT u)) (r1 : rgT x = true) (r2 : rgT u = true) (w : World) (i : inT w X) (j : inT w U) :
  Calls Tryz.prog 28 #[dT U, dT X] w fun r w' => r = .returned (.int .i64 (cmpD (tT u) (tT x))) ∧ Below w.heap.size w w' := by
 obtain ⟨a1, a2, a3⟩ := tT_bounds r1
 obtain ⟨b1, b2, b3⟩ := tT_bounds r2
 have h := qOrder_calls U.1 U.2.1 U.2.2.1 U.2.2.2.1 U.2.2.2.2.1 U.2.2.2.2.2 X.1 X.2.1 X.2.2.1 X.2.2.2.1 X.2.2.2.2.1 X.2.2.2.2.2 w j.1 j.2 i.1 i.2 (by rw [hU.2.2]; omega) (by rw [hX.2.2]; omega) (by rw [hU.2.1, val_words]; omega) (by rw [hX.2.1, val_words]; omega)
 rw [hX.form, hU.form] at h
 exact h
theorem docOne_calls (x y : DT) (hr : rtT x y = true) (w : World) (hx : inT w x) (hy : inT w y) :
  Calls Tryz.prog 97 #[ivT x y] w fun r w' => ∃ v, r = .returned v ∧ IvV w.heap.size w' v (tT x) (tT y) ∧ Below w.heap.size w w' := by
 obtain ⟨r1, r2⟩ := rt_rg2 hr
 have e1 := (rg_bounds r1).1
 have e2 := (rg_bounds r2).1
 refine (vOne_calls x y ⟨by omega, by omega⟩ ⟨by omega, by omega⟩ w hx hy).mono ?_
 rintro r w' ⟨al, nl, cl, ah, nh, ch, rfl, h1, h2, O1, O2, hb⟩
 exact ⟨_, rfl, ⟨_, _, rfl, ⟨rfl, rfl, rfl⟩, ⟨rfl, rfl, rfl⟩, small_own h1 O1 (by have := tT_bounds r1; unfold tT at this; omega), small_own h2 O2 (by have := tT_bounds r2; unfold tT at this; omega)⟩, hb⟩
theorem pk_lo {X U x u : DT} (hX : isP X (tT x)) (hU : isP U (tT u)) : (cmpD (tT u) (tT x) < 0 → isP U (tT (pkT true x u))) ∧ (¬ cmpD (tT u) (tT x) < 0 → isP X (tT (pkT true x u))) := by
 unfold pkT
 constructor
 ·intro h
  rw [if_pos (Or.inl ⟨rfl, h⟩)]
  exact hU
 ·intro h
  rw [if_neg (fun e => by
   rcases e with ⟨-, e⟩ | ⟨e, -⟩
   ·exact h e
   ·cases e)]
  exact hX
theorem pk_hi {X U x u : DT} (hX : isP X (tT x)) (hU : isP U (tT u)) : (0 < cmpD (tT u) (tT x) → isP U (tT (pkT false x u))) ∧ (¬ 0 < cmpD (tT u) (tT x) → isP X (tT (pkT false x u))) := by
 unfold pkT
 constructor
 ·intro h
  rw [if_pos (Or.inr ⟨rfl, h⟩)]
  exact hU
 ·intro h
  rw [if_neg (fun e => by
   rcases e with ⟨e, -⟩ | ⟨-, e⟩
   ·cases e
   ·exact h e)]
  exact hX
theorem att_lo {b : Nat} {X Y U : DT} {w : World} (h : AtT b X Y w) (f : FzI b w) : AtT b U Y (((w.setCell ⟨b, 0, none⟩ (.bool U.1)).setCell ⟨b, 1, none⟩ (.slice U.2.1 U.2.2.1 U.2.2.2.1)).setCell ⟨b, 2, none⟩ (.int .i64 U.2.2.2.2.2)) ∧ FzI b (((w.setCell ⟨b, 0, none⟩ (.bool U.1)).setCell ⟨b, 1, none⟩ (.slice U.2.1 U.2.2.1 U.2.2.2.1)).setCell ⟨b, 2, none⟩ (.int .i64 U.2.2.2.2.2)) := by
 obtain ⟨z0, z1, z2, z3, z4, z5⟩ := h
 obtain ⟨f0, f1, f2, f3, f4, f5⟩ := f
 refine ⟨⟨?_, ?_, ?_, ?_, ?_, ?_⟩, ?_, ?_, ?_, ?_, ?_, ?_⟩ <;> go_simp
theorem att_hi {b : Nat} {X Y V : DT} {w : World} (h : AtT b X Y w) (f : FzI b w) : AtT b X V (((w.setCell ⟨b, 3, none⟩ (.bool V.1)).setCell ⟨b, 4, none⟩ (.slice V.2.1 V.2.2.1 V.2.2.2.1)).setCell ⟨b, 5, none⟩ (.int .i64 V.2.2.2.2.2)) := by
 obtain ⟨z0, z1, z2, z3, z4, z5⟩ := h
 obtain ⟨f0, f1, f2, f3, f4, f5⟩ := f
 refine ⟨?_, ?_, ?_, ?_, ?_, ?_⟩ <;> go_simp
theorem own_set {B : Nat} {w : World} {a : Option Addr} {n c : Nat} {xs : List Int} (h : OwnW B w a n c xs) {p : Addr} {x : Value} (hp : w.cell? p = some x) (hn : ∀ j : Int, x ≠ .int .u64 j) (v : Value) : OwnW B (w.setCell p v) a n c xs := by
 have ne : ∀ b off i, a = some ⟨b, off, none⟩ → i < n → p ≠ ⟨b, off + i, none⟩ := fun b off i e hi q => by
  obtain ⟨b', off', e1, -, e3⟩ := h.1.2.2.2 i hi
  rw [e] at e1
  simp only [Option.some.injEq, Addr.mk.injEq, and_true] at e1
  obtain ⟨rfl, rfl⟩ := e1
  rw [← q, hp] at e3
  injection e3 with e3
  exact hn _ e3
 refine ⟨⟨h.1.1, h.1.2.1, h.1.2.2.1, fun i hi => ?_⟩, fun b off i e hi => ?_⟩
 ·obtain ⟨b, off, e1, e2, e3⟩ := h.1.2.2.2 i hi
  refine ⟨b, off, e1, by simpa using e2, ?_⟩
  rw [World.cell?_setCell_other _ _ _ _ (ne b off i e1 hi)]
  exact e3
 ·obtain ⟨q1, q2⟩ := h.2 b off i e hi
  exact ⟨q1, (World.frozen?_setCell w _ _ _).trans q2⟩
theorem keepD {B b i j k : Nat} {w : World} {x : DT} (h : ownT B w x) (hij : i ≠ j) (hik : i ≠ k) (hjk : j ≠ k) {b0 : Bool} {s1 : Option Addr} {s2 s3 : Nat} {z : Int} (c0 : w.cell? ⟨b, i, none⟩ = some (.bool b0)) (c1 : w.cell? ⟨b, j, none⟩ = some (.slice s1 s2 s3)) (c2 : w.cell? ⟨b, k, none⟩ = some (.int .i64 z)) (v0 v1 v2 : Value) : ownT B (((w.setCell ⟨b, i, none⟩ v0).setCell ⟨b, j, none⟩ v1).setCell ⟨b, k, none⟩ v2) x := by
 have o : ∀ {W : World} {m l : Nat} {y : Value} (v : Value), m ≠ l → W.cell? ⟨b, m, none⟩ = some y → (W.setCell ⟨b, l, none⟩ v).cell? ⟨b, m, none⟩ = some y := fun {W m l y} v hne q => by
  rw [World.cell?_setCell_other _ _ _ _ (fun e => hne (by simp only [Addr.mk.injEq, true_and, and_true] at e; exact e.symm))]
  exact q
 exact ⟨own_set (own_set (own_set h.1 c0 (fun _ q => by cases q) v0) (o v0 hij.symm c1) (fun _ q => by cases q) v1) (o v1 hjk.symm (o v0 hik.symm c2)) (fun _ q => by cases q) v2, h.2⟩
theorem zi_three {b r i j k : Nat} {w : World} (h : ZI b w) (ne : b ≠ r) (v0 v1 v2 : Value) : ZI b (((w.setCell ⟨r, i, none⟩ v0).setCell ⟨r, j, none⟩ v1).setCell ⟨r, k, none⟩ v2) := by
 obtain ⟨⟨z0, z1, z2, z3, z4, z5⟩, f0, f1, f2, f3, f4, f5⟩ := h
 have c : ∀ {o : Nat} {x : Value}, w.cell? ⟨b, o, none⟩ = some x → (((w.setCell ⟨r, i, none⟩ v0).setCell ⟨r, j, none⟩ v1).setCell ⟨r, k, none⟩ v2).cell? ⟨b, o, none⟩ = some x := fun q => cell_other (cell_other (cell_other q ne.symm _) ne.symm _) ne.symm _
 have f : ∀ {o : Nat}, w.frozen? ⟨b, o, none⟩ = false → (((w.setCell ⟨r, i, none⟩ v0).setCell ⟨r, j, none⟩ v1).setCell ⟨r, k, none⟩ v2).frozen? ⟨b, o, none⟩ = false := fun q => (World.frozen?_setCell _ _ _ _).trans ((World.frozen?_setCell _ _ _ _).trans ((World.frozen?_setCell _ _ _ _).trans q))
 exact ⟨⟨c z0, c z1, c z2, c z3, c z4, c z5⟩, f f0, f f1, f f2, f f3, f f4, f f5⟩
theorem att_three {b r i j k : Nat} {x y : DT} {w : World} (h : AtT b x y w) (ne : b ≠ r) (v0 v1 v2 : Value) : AtT b x y (((w.setCell ⟨r, i, none⟩ v0).setCell ⟨r, j, none⟩ v1).setCell ⟨r, k, none⟩ v2) := by
 obtain ⟨z0, z1, z2, z3, z4, z5⟩ := h
 have c : ∀ {o : Nat} {x : Value}, w.cell? ⟨b, o, none⟩ = some x → (((w.setCell ⟨r, i, none⟩ v0).setCell ⟨r, j, none⟩ v1).setCell ⟨r, k, none⟩ v2).cell? ⟨b, o, none⟩ = some x := fun q => cell_other (cell_other (cell_other q ne.symm _) ne.symm _) ne.symm _
 exact ⟨c z0, c z1, c z2, c z3, c z4, c z5⟩
set_option maxRecDepth 100000 in
set_option maxHeartbeats 8000000 in
theorem docJoin_calls (x y u v : DT) (h1 : rtT x y = true) (h2 : rtT u v = true) (w : World) (hx : inT w x) (hy : inT w y) (hu : inT w u) (hv : inT w v) :
  Calls Tryz.prog 55 #[ivT x y, ivT u v] w fun r w' => ∃ a, r = .returned a ∧ IvV w.heap.size w' a (tT (pkT true x u)) (tT (pkT false y v)) ∧ Below w.heap.size w w' := by
 obtain ⟨r1, r2⟩ := rt_rg2 h1
 obtain ⟨r3, r4⟩ := rt_rg2 h2
 have A1 := att_new x y w
 have b1 := below_one w (obT x y)
 have A2 := att_new u v (w.alloc (obT x y))
 have b2 := below_one (w.alloc (obT x y)) (obT u v)
 have ZR := zi_new ((w.alloc (obT x y)).alloc (obT u v))
 have b3 := below_one ((w.alloc (obT x y)).alloc (obT u v)) obZ
 replace A1 := (A1.keep b2).keep b3
 replace A2 := A2.keep b3
 have bA := nT (nT b1 b2) b3
 rw [show (w.alloc (obT x y)).heap.size = w.heap.size + 1 by simp] at A2
 rw [show ((w.alloc (obT x y)).alloc (obT u v)).heap.size = w.heap.size + 1 + 1 by simp] at ZR
 have C1 : Hid (∀ W, inT W x → inT W y → _) := fun W i j => docOne_calls x y h1 W i j
 have C2 : Hid (∀ W, inT W u → inT W v → _) := fun W i j => docOne_calls u v h2 W i j
 have OL : Hid (∀ (X U : DT), isP X (tT x) → isP U (tT u) → ∀ W, inT W X → inT W U → _) := fun X U a b W i j => ordP_calls a b r1 r3 W i j
 have OH : Hid (∀ (X U : DT), isP X (tT y) → isP U (tT v) → ∀ W, inT W X → inT W U → _) := fun X U a b W i j => ordP_calls a b r2 r4 W i j
 have PL : Hid (∀ (X U : DT), isP X (tT x) → isP U (tT u) → (cmpD (tT u) (tT x) < 0 → isP U (tT (pkT true x u))) ∧ (¬ cmpD (tT u) (tT x) < 0 → isP X (tT (pkT true x u)))) := fun X U a b => pk_lo a b
 have PH : Hid (∀ (X U : DT), isP X (tT y) → isP U (tT v) → (0 < cmpD (tT v) (tT y) → isP U (tT (pkT false y v))) ∧ (¬ 0 < cmpD (tT v) (tT y) → isP X (tT (pkT false y v)))) := fun X U a b => pk_hi a b
 generalize tT (pkT true x u) = QL at *
 generalize tT (pkT false y v) = QH at *
 generalize cmpD (tT u) (tT x) = oL at *
 generalize cmpD (tT v) (tT y) = oH at *
 clear b1 b2 b3 r1 r2 r3 r4 h1 h2
 replace hx := hx.keep bA
 replace hy := hy.keep bA
 replace hu := hu.keep bA
 replace hv := hv.keep bA
 go_enter Tryz.func55, Tryz.ntmps55
 go_upto_region 1 with fail
 generalize ((w.alloc (obT x y)).alloc (obT u v)).alloc obZ = wA at *
 have HA2 : Hid (AtT (w.heap.size + 1) u v wA) := A2
 obtain ⟨k0, k1, k2, k3, k4, k5⟩ := A1
 clear A2
 go_wp2_with fail
 refine cM (C1.out _ hx hy) ?_
 rintro r w1 ⟨_, rfl, ⟨X, Y, rfl, pX, pY, oX, oY⟩, bN⟩
 have sA := bA.size
 replace oX : ownT w.heap.size w1 X := ⟨oX.1.low sA, oX.2⟩
 replace oY : ownT w.heap.size w1 Y := ⟨oY.1.low sA, oY.2⟩
 have bM := below_one w1 (obT X Y)
 have AV := att_new X Y w1
 have FV := fz_new X Y w1
 have hbV : w.heap.size ≤ w1.heap.size := (nT bA bN).size
 have hRV : w.heap.size + 1 + 1 ≠ w1.heap.size := by have h0 : w.heap.size + 1 + 1 < wA.heap.size := World.block_lt_of_cell? _ _ ZR.1.1; have := bN.size; omega
 replace oX := oX.keep bM
 replace oY := oY.keep bM
 replace bN := nT bN bM
 replace ZR := ZR.keep bN
 replace hu := hu.keep bN
 replace hv := hv.keep bN
 replace HA2 : Hid (AtT (w.heap.size + 1) u v (w1.alloc (obT X Y))) := HA2.out.keep bN
 replace bA := nT bA bN
 clear k0 k1 k2 k3 k4 k5 bN bM C1 hx hy
 go_upto_region 2 with fail
 generalize w1.alloc (obT X Y) = w2 at *
 generalize w1.heap.size = bV at *
 have HV : Hid (AtT bV X Y w2) := AV
 obtain ⟨k0, k1, k2, k3, k4, k5⟩ := HA2.out
 clear AV
 go_wp2_with fail
 refine cM (C2.out _ hu hv) ?_
 rintro r w3 ⟨_, rfl, ⟨U, V, rfl, pU, pV, oU, oV⟩, bN⟩
 replace sA := bA.size
 replace oU : ownT w.heap.size w3 U := ⟨oU.1.low sA, oU.2⟩
 replace oV : ownT w.heap.size w3 V := ⟨oV.1.low sA, oV.2⟩
 have hVW : bV ≠ w3.heap.size := by have h0 : bV < w3.heap.size := World.block_lt_of_cell? _ _ (HV.out.keep bN).1; omega
 have bM := below_one w3 (obT U V)
 have AW := att_new U V w3
 replace oU := oU.keep bM
 replace oV := oV.keep bM
 replace bN := nT bN bM
 replace oX := oX.keep bN
 replace oY := oY.keep bN
 replace ZR := ZR.keep bN
 replace FV := HV.out.frozen FV bN
 replace HV : Hid (AtT bV X Y (w3.alloc (obT U V))) := HV.out.keep bN
 replace bA := nT bA bN
 clear k0 k1 k2 k3 k4 k5 bN bM C2 hu hv HA2
 go_upto_region 3 with fail
 generalize w3.alloc (obT U V) = w4 at *
 generalize w3.heap.size = bW at *
 have HW : Hid (AtT bW U V w4) := AW
 have KV : Hid (AtT bV X Y w4) := HV.out
 obtain ⟨k0, k1, k2, k3, k4, k5⟩ := AW
 obtain ⟨l0, l1, l2, l3, l4, l5⟩ := KV.out
 clear HV
 go_wp2_with fail
 refine cM (OL.out X U pX pU _ oX.inT oU.inT) ?_
 rintro r w5 ⟨rfl, bN⟩
 replace oX := oX.keep bN
 replace oY := oY.keep bN
 replace oU := oU.keep bN
 replace oV := oV.keep bN
 replace ZR := ZR.keep bN
 replace FV := KV.out.frozen FV bN
 replace KV : Hid (AtT bV X Y w5) := KV.out.keep bN
 replace HW : Hid (AtT bW U V w5) := HW.out.keep bN
 replace bA := nT bA bN
 clear k0 k1 k2 k3 k4 k5 l0 l1 l2 l3 l4 l5 bN OL
 have GL : Hid _ := PL.out X U pX pU
 clear PL pX pU
 by_cases hL : oL < 0
 case' pos =>
  have pP := GL.out.1 hL
  clear GL
  obtain ⟨c0, c1, c2, c3, c4, c5⟩ := KV.out
  obtain ⟨AV, FV2⟩ := att_lo (U := U) KV.out FV
  replace oY := keepD oY (by decide) (by decide) (by decide) c0 c1 c2 (.bool U.1) (.slice U.2.1 U.2.2.1 U.2.2.2.1) (.int .i64 U.2.2.2.2.2)
  replace oV := keepD oV (by decide) (by decide) (by decide) c0 c1 c2 (.bool U.1) (.slice U.2.1 U.2.2.1 U.2.2.2.1) (.int .i64 U.2.2.2.2.2)
  replace oX := keepD oU (by decide) (by decide) (by decide) c0 c1 c2 (.bool U.1) (.slice U.2.1 U.2.2.1 U.2.2.2.1) (.int .i64 U.2.2.2.2.2)
  replace ZR := zi_three (i := 0) (j := 1) (k := 2) ZR hRV (.bool U.1) (.slice U.2.1 U.2.2.1 U.2.2.2.1) (.int .i64 U.2.2.2.2.2)
  have AW := att_three (i := 0) (j := 1) (k := 2) HW.out hVW.symm (.bool U.1) (.slice U.2.1 U.2.2.1 U.2.2.2.1) (.int .i64 U.2.2.2.2.2)
  replace bA := ((bA.setCell (p := ⟨bV, 0, none⟩) hbV (.bool U.1)).setCell (p := ⟨bV, 1, none⟩) hbV (.slice U.2.1 U.2.2.1 U.2.2.2.1)).setCell (p := ⟨bV, 2, none⟩) hbV (.int .i64 U.2.2.2.2.2)
  obtain ⟨f0, f1, f2, f3, f4, f5⟩ := FV
  obtain ⟨k0, k1, k2, k3, k4, k5⟩ := HW.out
  go_upto_region 5 with fail
  clear c0 c1 c2 c3 c4 c5 f0 f1 f2 f3 f4 f5 k0 k1 k2 k3 k4 k5 HW KV oU
  have FV := FV2
  clear FV2
  generalize ((w5.setCell ⟨bV, 0, none⟩ (.bool U.1)).setCell ⟨bV, 1, none⟩ (.slice U.2.1 U.2.2.1 U.2.2.2.1)).setCell ⟨bV, 2, none⟩ (.int .i64 U.2.2.2.2.2) = w6 at *
  obtain ⟨P, hP⟩ : ∃ P, P = U := ⟨_, rfl⟩
  rw [← hP] at pP AV oX
  clear hP
 case' neg =>
  have pP := GL.out.2 (by omega)
  clear GL
  have AV := KV.out
  have AW := HW.out
  go_upto_region 5 with fail
  clear HW KV oU
  generalize w5 = w6 at *
  obtain ⟨P, hP⟩ : ∃ P, P = X := ⟨_, rfl⟩
  rw [← hP] at pP AV oX
  clear hP
 all_goals
  have KV : Hid (AtT bV P Y w6) := AV
  obtain ⟨k0, k1, k2, k3, k4, k5⟩ := AW
  obtain ⟨l0, l1, l2, l3, l4, l5⟩ := AV
  go_wp2_with fail
  refine cM (OH.out Y V pY pV _ oY.inT oV.inT) ?_
  rintro r w7 ⟨rfl, bN⟩
  clear k0 k1 k2 l0 l1 l2 l3 l4 l5
  revert k3 k4 k5; refine cc3 bN ?_; intro k3 k4 k5
  replace oX := oX.keep bN
  replace oY := oY.keep bN
  replace oV := oV.keep bN
  replace ZR := ZR.keep bN
  have FW := KV.out.frozen FV bN
  have AW := KV.out.keep bN
  replace bA := nT bA bN
  have GH := PH.out Y V pY pV
  clear KV FV bN OH PH pY pV
  have ZZ0 : Hid (ZI (w.heap.size + 1 + 1) w7) := ZR
  by_cases hH : 0 < oH
  ·have pQ := GH.1 hH
   clear GH
   obtain ⟨c0, c1, c2, c3, c4, c5⟩ := id AW
   obtain ⟨f0, f1, f2, f3, f4, f5⟩ := id FW
   have AV := att_hi (V := V) AW FW
   replace oX := keepD oX (by decide) (by decide) (by decide) c3 c4 c5 (.bool V.1) (.slice V.2.1 V.2.2.1 V.2.2.2.1) (.int .i64 V.2.2.2.2.2)
   replace oV := keepD oV (by decide) (by decide) (by decide) c3 c4 c5 (.bool V.1) (.slice V.2.1 V.2.2.1 V.2.2.2.1) (.int .i64 V.2.2.2.2.2)
   replace ZR := zi_three (i := 3) (j := 4) (k := 5) ZR hRV (.bool V.1) (.slice V.2.1 V.2.2.1 V.2.2.2.1) (.int .i64 V.2.2.2.2.2)
   replace bA := ((bA.setCell (p := ⟨bV, 3, none⟩) hbV (.bool V.1)).setCell (p := ⟨bV, 4, none⟩) hbV (.slice V.2.1 V.2.2.1 V.2.2.2.1)).setCell (p := ⟨bV, 5, none⟩) hbV (.int .i64 V.2.2.2.2.2)
   clear AW FW ZZ0 oY
   go_upto_region 7 with fail
   clear c0 c1 c2 c3 c4 c5 f0 f1 f2 f3 f4 f5 k3 k4 k5
   generalize ((w7.setCell ⟨bV, 3, none⟩ (.bool V.1)).setCell ⟨bV, 4, none⟩ (.slice V.2.1 V.2.2.1 V.2.2.2.1)).setCell ⟨bV, 5, none⟩ (.int .i64 V.2.2.2.2.2) = w8 at *
   have ZZ : Hid (ZI (w.heap.size + 1 + 1) w8) := ZR
   obtain ⟨⟨z0, z1, z2, z3, z4, z5⟩, f0, f1, f2, f3, f4, f5⟩ := ZR
   obtain ⟨c0, c1, c2, c3, c4, c5⟩ := AV
   go_wp2_with fail
   exact bodyPost_ret (v := ivT P V) (by simp [results, Tryz.results55, go_sem, z0, z1, z2, z3, z4, z5]) rfl ⟨_, rfl, ⟨P, V, rfl, pP, pQ, oX.six ZZ.out _ _ _ _ _ _, oV.six ZZ.out _ _ _ _ _ _⟩, by repeat (first | (with_reducible exact bA) | (with_reducible refine Below.setCell ?_ (by simp; try omega) _))⟩
  ·have pQ := GH.2 (by omega)
   clear GH k3 k4 k5 FW oV
   obtain ⟨⟨z0, z1, z2, z3, z4, z5⟩, f0, f1, f2, f3, f4, f5⟩ := ZR
   obtain ⟨c0, c1, c2, c3, c4, c5⟩ := AW
   go_wp2_with fail
   exact bodyPost_ret (v := ivT P Y) (by simp [results, Tryz.results55, go_sem, z0, z1, z2, z3, z4, z5]) rfl ⟨_, rfl, ⟨P, Y, rfl, pP, pQ, oX.six ZZ0.out _ _ _ _ _ _, oY.six ZZ0.out _ _ _ _ _ _⟩, by repeat (first | (with_reducible exact bA) | (with_reducible refine Below.setCell ?_ (by simp; try omega) _))⟩
set_option maxRecDepth 100000 in
set_option maxHeartbeats 4000000 in
theorem docTurn2_calls (x y u v : DT) (n : Int) (w : World) (hx : inT w x) (hy : inT w y) (hu : inT w u) (hv : inT w v) :
  Calls Tryz.prog 15 #[.int .i64 2, ivT x y, ivT u v, .int .i64 n] w fun r w' => ∃ a, r = .returned a ∧ IvA w.heap.size w' a (trR 2 x y u v n) ∧ Below w.heap.size w w' := by
 have A1 := att_new x y w
 have b1 := below_one w (obT x y)
 have A2 := att_new u v (w.alloc (obT x y))
 have b2 := below_one (w.alloc (obT x y)) (obT u v)
 have ZR := zi_new ((w.alloc (obT x y)).alloc (obT u v))
 have b3 := below_one ((w.alloc (obT x y)).alloc (obT u v)) obZ
 replace A1 := (A1.keep b2).keep b3
 replace A2 := A2.keep b3
 have bA := nT (nT b1 b2) b3
 rw [show (w.alloc (obT x y)).heap.size = w.heap.size + 1 by simp] at A2
 rw [show ((w.alloc (obT x y)).alloc (obT u v)).heap.size = w.heap.size + 1 + 1 by simp] at ZR
 clear b1 b2 b3
 replace hx := hx.keep bA
 replace hy := hy.keep bA
 replace hu := hu.keep bA
 replace hv := hv.keep bA
 have E0 : Hid (rtT x y = false → trR 2 x y u v n = nilR 2) := fun a => by unfold trR; simp [a]
 have E1 : Hid (rtT x y = true → rtT u v = true → trR 2 x y u v n = roomR (tT (pkT true x u)) (tT (pkT false y v))) := fun a b => by unfold trR; simp [a, b]
 have E2 : Hid (rtT x y = true → rtT u v = false → trR 2 x y u v n = nilR 2) := fun a b => by unfold trR; simp [a, b]
 generalize trR 2 x y u v n = RR at *
 go_enter Tryz.func15, Tryz.ntmps15
 go_upto_region 1 with fail
 generalize ((w.alloc (obT x y)).alloc (obT u v)).alloc obZ = wA at *
 have HA : Hid (AtT w.heap.size x y wA ∧ AtT (w.heap.size + 1) u v wA) := ⟨A1, A2⟩
 obtain ⟨k0, k1, k2, k3, k4, k5⟩ := A1
 obtain ⟨l0, l1, l2, l3, l4, l5⟩ := A2
 go_wp2_with fail
 refine cM (vRight_calls x y _ hx hy) ?_
 rintro r w1 ⟨rfl, bN⟩
 clear k0 k1 k2 k3 k4 k5 l0 l1 l2 l3 l4 l5
 replace HA : Hid (AtT w.heap.size x y w1 ∧ AtT (w.heap.size + 1) u v w1) := ⟨HA.out.1.keep bN, HA.out.2.keep bN⟩
 obtain ⟨k0, k1, k2, k3, k4, k5⟩ := HA.out.1
 obtain ⟨l0, l1, l2, l3, l4, l5⟩ := HA.out.2
 replace ZR := ZR.keep bN
 replace hx := hx.keep bN
 replace hy := hy.keep bN
 replace hu := hu.keep bN
 replace hv := hv.keep bN
 replace bA := nT bA bN
 clear bN
 by_cases hr : rtT x y = true
 ·have F1 : Hid _ := E1.out hr
  have F2 : Hid _ := E2.out hr
  have NC : Hid (rtT u v = true → ∀ W, inT W x → inT W y → inT W u → inT W v → _) := fun h W i j k l => docJoin_calls x y u v hr h W i j k l
  rw [hr]
  clear hr E0 E1 E2
  go_wp2_with fail
  refine cM (vRight_calls u v _ hu hv) ?_
  rintro r w9 ⟨rfl, bN⟩
  clear k0 k1 k2 k3 k4 k5 l0 l1 l2 l3 l4 l5
  replace HA : Hid (AtT w.heap.size x y w9 ∧ AtT (w.heap.size + 1) u v w9) := ⟨HA.out.1.keep bN, HA.out.2.keep bN⟩
  obtain ⟨k0, k1, k2, k3, k4, k5⟩ := HA.out.1
  obtain ⟨l0, l1, l2, l3, l4, l5⟩ := HA.out.2
  replace ZR := ZR.keep bN
  replace hx := hx.keep bN
  replace hy := hy.keep bN
  replace hu := hu.keep bN
  replace hv := hv.keep bN
  replace bA := nT bA bN
  clear bN
  by_cases hs : rtT u v = true
  ·have HR : Hid (RR = roomR (tT (pkT true x u)) (tT (pkT false y v))) := F1.out hs
   have ND : Hid _ := NC.out hs
   rw [hs]
   clear hs F1 F2 NC
   go_wp2_with fail
   refine cM (ND.out _ hx hy hu hv) ?_
   rintro r w2 ⟨_, rfl, ⟨X, Y, rfl, pX, pY, oX, oY⟩, bN⟩
   have sA := bA.size
   replace oX : ownT w.heap.size w2 X := ⟨oX.1.low sA, oX.2⟩
   replace oY : ownT w.heap.size w2 Y := ⟨oY.1.low sA, oY.2⟩
   replace ZR := ZR.keep bN
   replace bA := nT bA bN
   clear bN k0 k1 k2 k3 k4 k5 l0 l1 l2 l3 l4 l5 HA hx hy hu hv
   have RC : Hid _ := docRoom_calls pX pY _ w2 oX oY
   rw [← HR.out] at RC
   clear pX pY
   go_wp2_with fail
   refine cM RC.out ?_
   rintro r w3 ⟨_, rfl, ⟨X2, Y2, rfl, pX2, pY2, oX2, oY2⟩, bN⟩
   replace ZR := ZR.keep bN
   replace bA := nT bA bN
   have ZZ : Hid (ZI (w.heap.size + 1 + 1) w3) := ZR
   obtain ⟨⟨z0, z1, z2, z3, z4, z5⟩, f0, f1, f2, f3, f4, f5⟩ := ZR
   clear bN RC
   go_wp2_with fail
   exact bodyPost_ret (v := .tuple #[ivT X2 Y2, .int .i64 RR.1]) (by simp [results, Tryz.results15, go_sem, z0, z1, z2, z3, z4, z5]) rfl ⟨_, rfl, ⟨X2, Y2, rfl, pX2, pY2, oX2.six ZZ.out _ _ _ _ _ _, oY2.six ZZ.out _ _ _ _ _ _⟩, by repeat (first | (with_reducible exact bA) | (with_reducible refine Below.setCell ?_ (by simp; try omega) _))⟩
  ·rw [Bool.not_eq_true] at hs
   have HR : Hid (RR = nilR 2) := F2.out hs
   rw [hs]
   clear hs F1 F2 NC
   obtain ⟨⟨z0, z1, z2, z3, z4, z5⟩, f0, f1, f2, f3, f4, f5⟩ := ZR
   go_wp2_with fail
   exact bodyPost_ret (v := .tuple #[zIvI, .int .i64 2]) (by simp [results, Tryz.results15, go_sem, z0, z1, z2, z3, z4, z5]) rfl ⟨_, rfl, by rw [HR.out]; exact ivA_nil _ _ _, by repeat (first | (with_reducible exact bA) | (with_reducible refine Below.setCell ?_ (by simp; try omega) _))⟩
 ·rw [Bool.not_eq_true] at hr
  have HR : Hid (RR = nilR 2) := E0.out hr
  rw [hr]
  obtain ⟨⟨z0, z1, z2, z3, z4, z5⟩, f0, f1, f2, f3, f4, f5⟩ := ZR
  go_wp2_with fail
  exact bodyPost_ret (v := .tuple #[zIvI, .int .i64 2]) (by simp [results, Tryz.results15, go_sem, z0, z1, z2, z3, z4, z5]) rfl ⟨_, rfl, by rw [HR.out]; exact ivA_nil _ _ _, by repeat (first | (with_reducible exact bA) | (with_reducible refine Below.setCell ?_ (by simp; try omega) _))⟩
end Go.Proofs.YtahpdcbmekgkfaaGreatDoor

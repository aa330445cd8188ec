/- The program's small calls on numbers, in letters. Package ival: a number's whole part and what is left. -/
import Derived.Test.YtahpdcbmekgkfaaGreatDoorSMX
import Derived.Test.YtahpdcbmekgkfaaGreatDoorITX
import Derived.Test.YtahpdcbmekgkfaaGreatDoorTMJ
import Derived.Test.YtahpdcbmekgkfaaGreatDoorDFX
import Derived.Test.YtahpdcbmekgkfaaGreatDoorTMF

namespace Go.Proofs.YtahpdcbmekgkfaaGreatDoor
open Go.RowKit
theorem dy_isP {B : Nat} {w : World} {v : Value} {P : Bool × Nat × Int} (h : DyAt B w v P) : ∃ X : DT, v = dT X ∧ isP X P ∧ ownT B w X := by
 obtain ⟨ao, n, c, rfl, h1, h2, h3⟩ := h
 exact ⟨(P.1, ao, n, c, wO P.2.1, P.2.2), rfl, ⟨rfl, rfl, rfl⟩, h3, by show n ≤ _; omega⟩
theorem isP.tT {X : DT} {P : Bool × Nat × Int} (h : isP X P) (c : CanD P) : tT X = P := by
 obtain ⟨h1, h2, h3⟩ := h
 show formD X.1 (val X.2.2.2.2.1) X.2.2.2.2.2 = P
 rw [h1, h2, h3, val_words]
 exact form_of_can c
theorem isP.rgT {X : DT} {P : Bool × Nat × Int} (h : isP X P) : rgT X = roomB P := by
 obtain ⟨h1, h2, h3⟩ := h
 show rightB (val X.2.2.2.2.1) X.2.2.2.2.2 = _
 rw [h2, h3, val_words]
 rfl
theorem roomP_yes {P : Bool × Nat × Int} (h : roomB P = true) : roomP P = P := if_pos h
theorem roomE_yes {P : Bool × Nat × Int} (h : roomB P = true) : roomE P = 0 := if_pos h
theorem roomE_no {P : Bool × Nat × Int} (h : roomB P = false) : roomE P = 3 := if_neg (by rw [h]; decide)
theorem roomP_no {P : Bool × Nat × Int} (h : roomB P = false) : roomP P = (false, 0, 0) := if_neg (by rw [h]; decide)
theorem rg_of {x : DT} (h : rgT x = true) : Rg (tT x) := by
 obtain ⟨g, e⟩ := rightB_yes h
 refine ⟨form_can _ _ _, (great_not _).1 (great_mono (form_amount_le _ _ _) g), ?_⟩
 by_cases h0 : val x.2.2.2.2.1 = 0
 ·show -32768 ≤ (formD x.1 (val x.2.2.2.2.1) x.2.2.2.2.2).2.2
  rw [h0, form_zero]; show (-32768 : Int) ≤ 0; omega
 ·show -32768 ≤ (formD x.1 (val x.2.2.2.2.1) x.2.2.2.2.2).2.2
  rw [form_pos x.1 h0]
  show -32768 ≤ x.2.2.2.2.2 + (tz (val x.2.2.2.2.1) : Int)
  omega
theorem tAdd (x y : DT) (w : World) (hx : inT w x) (hy : inT w y) (hT : Tab w) (rx : rgT x = true) (ry : rgT y = true) :
  Calls Tryz.prog 154 #[dT x, dT y] w fun r w' => ∃ X : DT, r = .returned (.tuple #[dT X, .int .i64 (roomE (sumD (tT x) (tT y)))]) ∧ isP X (roomP (sumD (tT x) (tT y))) ∧ ownT w.heap.size w' X ∧ Below w.heap.size w w' := by
 refine (dadd_yes x.1 x.2.1 x.2.2.1 x.2.2.2.1 x.2.2.2.2.1 x.2.2.2.2.2 y.1 y.2.1 y.2.2.1 y.2.2.2.1 y.2.2.2.2.1 y.2.2.2.2.2 w hx.1 (by have := hx.2; omega) hy.1 (by have := hy.2; omega) hT rx ry).mono ?_
 rintro r w' ⟨v, rfl, h, b⟩
 obtain ⟨X, rfl, p, o⟩ := dy_isP h
 exact ⟨X, rfl, p, o, b⟩
theorem tSub (x y : DT) (w : World) (hx : inT w x) (hy : inT w y) (hT : Tab w) (rx : rgT x = true) (ry : rgT y = true) :
  Calls Tryz.prog 115 #[dT x, dT y] w fun r w' => ∃ X : DT, r = .returned (.tuple #[dT X, .int .i64 (roomE (sumD (tT x) (negD (tT y))))]) ∧ isP X (roomP (sumD (tT x) (negD (tT y)))) ∧ ownT w.heap.size w' X ∧ Below w.heap.size w w' := by
 refine (dsub_yes x.1 x.2.1 x.2.2.1 x.2.2.2.1 x.2.2.2.2.1 x.2.2.2.2.2 y.1 y.2.1 y.2.2.1 y.2.2.2.1 y.2.2.2.2.1 y.2.2.2.2.2 w hx.1 (by have := hx.2; omega) hy.1 (by have := hy.2; omega) hT rx ry).mono ?_
 rintro r w' ⟨v, rfl, h, b⟩
 obtain ⟨X, rfl, p, o⟩ := dy_isP h
 exact ⟨X, rfl, p, o, b⟩
theorem tFloor {R : Bool × Nat × Int} (x : DT) (w : World) (hx : inT w x) (hT : Tab w) (px : isP x R) (c : CanD R) (r0 : roomB R = true) (r1 : roomB (wholeD R) = true) (r2 : roomB (restD R) = true) :
  Calls Tryz.prog 156 #[dT x] w fun r w' => ∃ X Y : DT, r = .returned (.tuple #[dT X, dT Y, .int .i64 0]) ∧ isP X (wholeD R) ∧ isP Y (restD R) ∧ ownT w.heap.size w' X ∧ ownT w.heap.size w' Y ∧ Below w.heap.size w w' := by
 have h := pFloor_calls x.1 x.2.1 x.2.2.1 x.2.2.2.1 x.2.2.2.2.1 x.2.2.2.2.2 w hx.1 (by have := hx.2; omega) hT
 have hf : formD x.1 (val x.2.2.2.2.1) x.2.2.2.2.2 = R := px.tT c
 have hr : rightB (val x.2.2.2.2.1) x.2.2.2.2.2 = true := px.rgT.trans r0
 obtain ⟨e1, e2, e3⟩ := fl_yes (s := x.1) hr (by rw [hf]; unfold flP; show (roomB (wholeD R) && roomB (restD R)) = true; rw [r1, r2]; rfl)
 rw [e1, e2, e3, hf] at h
 refine h.mono ?_
 rintro r w' ⟨v1, v2, rfl, h1, h2, b⟩
 obtain ⟨X, rfl, p, o⟩ := dy_isP h1
 obtain ⟨Y, rfl, p', o'⟩ := dy_isP h2
 exact ⟨X, Y, rfl, p, p', o, o', b⟩
theorem tZero {R : Bool × Nat × Int} (x : DT) (w : World) (hx : inT w x) (hT : Tab w) (px : isP x R) (r0 : roomB R = true) :
  Calls Tryz.prog 147 #[dT x] w fun r w' => r = .returned (.bool (decide (R.2.1 = 0))) ∧ Below w.heap.size w w' := by
 have h := dzero_calls x.1 x.2.1 x.2.2.1 x.2.2.2.1 x.2.2.2.2.1 x.2.2.2.2.2 w hx.1 (by have := hx.2; omega) hT
 have hr : rightB (val x.2.2.2.2.1) x.2.2.2.2.2 = true := px.rgT.trans r0
 have hv : val x.2.2.2.2.1 = R.2.1 := by rw [px.2.1, val_words]
 rw [hr, hv, Bool.true_and] at h
 exact h
theorem pW_raw (s : Bool) (m : Nat) (j : Nat) : pW (formD s m (-(j : Int))) = formD s (m / 2 ^ j) 0 := by
 by_cases h0 : m = 0
 ·subst h0
  rw [form_zero, Nat.zero_div, form_zero]
  rfl
 ·obtain ⟨ho, od⟩ := odd_part h0
  rw [form_pos s h0]
  unfold pW
  simp only
  generalize hM : m / 2 ^ tz m = M at *
  generalize tz m = z at *
  by_cases h : (0 : Int) ≤ -(j : Int) + (z : Int)
  ·rw [if_pos h]
   obtain ⟨d, rfl⟩ : ∃ d, z = d + j := ⟨z - j, by omega⟩
   have e : m / 2 ^ j = M * 2 ^ d := by rw [← od, Nat.pow_add, ← Nat.mul_assoc, Nat.mul_div_cancel _ (Nat.two_pow_pos j)]
   rw [e, form_shift, form_odd s ho]
   congr 2
   omega
  ·rw [if_neg h]
   obtain ⟨d, rfl⟩ : ∃ d, j = z + d := ⟨j - z, by omega⟩
   rw [show (-(-((z + d : Nat) : Int) + (z : Int))).toNat = d by omega, Nat.pow_add, ← Nat.div_div_eq_div_mul, hM]
theorem pW_same {p : Bool × Nat × Int} (h : 0 ≤ p.2.2) : pW p = p := if_pos h
theorem pR_room {p : Bool × Nat × Int} (h : Rg p) : roomB (pR p) = true := by
 obtain ⟨K, hK⟩ : ∃ K : Nat, K = 32768 := ⟨_, rfl⟩
 obtain ⟨L, hL⟩ : ∃ L : Nat, L = 65536 := ⟨_, rfl⟩
 have hl : -(K : Int) ≤ p.2.2 := by have := h.low; omega
 refine small_room K L hK hL (pR_can h.can) (pR_exp K hl) ?_
 obtain ⟨f, f1, -, fx⟩ := pW_frac p K hl
 have k : 2 ^ K ≤ 2 ^ L := Nat.pow_le_pow_right (by decide) (by omega)
 rw [pR_val K hl, fx, show pA p * ((2 ^ K : Nat) : Int) + sI p.1 * (f : Int) - pA p * ((2 ^ K : Nat) : Int) = sI p.1 * (f : Int) by omega, Int.natAbs_mul, Int.natAbs_natCast]
 have : (sI p.1).natAbs = 1 := by unfold sI; cases p.1 <;> rfl
 rw [this, Nat.one_mul]
 omega
theorem su_rooms {x y : Bool × Nat × Int} (rx : Rg x) (ry : Rg y) : roomB (suR x y) = true ∧ roomB (wholeD (suR x y)) = true ∧ roomB (restD (suR x y)) = true ∧ roomB (suA x y) = true := by
 obtain ⟨K, hK⟩ : ∃ K : Nat, K = 32768 := ⟨_, rfl⟩
 obtain ⟨L, hL⟩ : ∃ L : Nat, L = 65536 := ⟨_, rfl⟩
 have hx : -(K : Int) ≤ x.2.2 := by have := rx.low; omega
 have hy : -(K : Int) ≤ y.2.2 := by have := ry.low; omega
 have sv := su_vals K (by omega) rx.can ry.can hx hy
 obtain ⟨f, f1, -, fx⟩ := pW_frac x K hx
 obtain ⟨g, g1, -, gy⟩ := pW_frac y K hy
 have sV := vI_sum x y _ hx hy
 have hu0 := Nat.two_pow_pos K
 have h2 := half_two K (by omega)
 have k : 8 * 2 ^ K ≤ 2 ^ L := by
  have e : 2 ^ (K + 1 + 1 + 1) ≤ 2 ^ L := Nat.pow_le_pow_right (by decide) (by omega)
  rw [Nat.pow_succ, Nat.pow_succ, Nat.pow_succ] at e
  omega
 have sf := sI_abs x.1 f
 have sg := sI_abs y.1 g
 have bf : -((2 ^ K : Nat) : Int) < sI x.1 * (f : Int) ∧ sI x.1 * (f : Int) < ((2 ^ K : Nat) : Int) := by
  cases hx1 : x.1
  ·rw [hx1] at sf; have := sf.1 rfl; omega
  ·rw [hx1] at sf; have := sf.2 rfl; omega
 have bg : -((2 ^ K : Nat) : Int) < sI y.1 * (g : Int) ∧ sI y.1 * (g : Int) < ((2 ^ K : Nat) : Int) := by
  cases hx1 : y.1
  ·rw [hx1] at sg; have := sg.1 rfl; omega
  ·rw [hx1] at sg; have := sg.2 rfl; omega
 generalize vI (sumD x y) (-(K : Int)) = V at *
 have hu : (0 : Int) < ((2 ^ K : Nat) : Int) := by omega
 have d0 := Int.emod_nonneg V (show ((2 ^ K : Nat) : Int) ≠ 0 by omega)
 have d1 := Int.emod_lt_of_pos V hu
 have d2 := Int.mul_ediv_add_emod V ((2 ^ K : Nat) : Int)
 rw [Int.mul_comm] at d2
 obtain ⟨eR, eT, eA, eB, eF, cR, cU, cT, cA, cB, cF, vR, vU, vT, vA, vB, vF⟩ := sv
 have eU := wh_exp (suR x y)
 rw [Int.add_mul] at vR
 rw [Int.sub_mul, Int.add_mul] at vU vA
 refine ⟨small_room K L hK hL cR eR (by rw [vR]; omega), small_room K L hK hL cU (by omega) (by rw [vU]; omega), small_room K L hK hL cT eT (by rw [vT]; omega), small_room K L hK hL cA eA (by rw [vA]; omega)⟩
abbrev obz : Obj := .cells #[.bool false, .slice none 0 0, .int .i64 0] 25
def FD (b : Nat) (x : DT) (w : World) : Prop := At3 b 0 1 2 x w ∧ (w.frozen? ⟨b, 0, none⟩ = false ∧ w.frozen? ⟨b, 1, none⟩ = false ∧ w.frozen? ⟨b, 2, none⟩ = false)
theorem FD.keep {b : Nat} {x : DT} {w w' : World} (h : FD b x w) (r : Below w.heap.size w w') : FD b x w' := by
 obtain ⟨⟨z0, z1, z2⟩, f0, f1, f2⟩ := id h
 exact ⟨h.1.keep r, kF r z0 f0, kF r z1 f1, kF r z2 f2⟩
theorem fd_new (x : DT) (w : World) : FD w.heap.size x (w.alloc (obD x)) := by
 refine ⟨⟨?_, ?_, ?_⟩, ?_, ?_, ?_⟩ <;> go_simp
theorem fd_zero (w : World) : FD w.heap.size zDT (w.alloc obz) := zd_new w
abbrev put3 (w : World) (b : Nat) (u : DT) : World := ((w.setCell ⟨b, 0, none⟩ (.bool u.1)).setCell ⟨b, 1, none⟩ (.slice u.2.1 u.2.2.1 u.2.2.2.1)).setCell ⟨b, 2, none⟩ (.int .i64 u.2.2.2.2.2)
theorem FD.put {b : Nat} {x : DT} {w : World} (h : FD b x w) (u : DT) : FD b u (put3 w b u) := by
 obtain ⟨⟨z0, z1, z2⟩, f0, f1, f2⟩ := h
 refine ⟨⟨?_, ?_, ?_⟩, ?_, ?_, ?_⟩ <;> simp [World.cell?_setCell_other, go_sem, z0, z1, z2, f0, f1, f2]
theorem FD.other {b r : Nat} {x : DT} {w : World} (h : FD b x w) (ne : r ≠ b) (u : DT) : FD b x (put3 w r u) := by
 obtain ⟨z, f0, f1, f2⟩ := h
 refine ⟨z.three ne _ _ _, ?_, ?_, ?_⟩ <;> simp [go_sem, f0, f1, f2]
theorem FD.own {b B : Nat} {x u : DT} {w : World} (h : FD b x w) (o : ownT B w u) (v : DT) : ownT B (put3 w b v) u := by
 obtain ⟨⟨z0, z1, z2⟩, -⟩ := h
 exact ⟨o.1.set_dyI b _ _ _ _ _ _ _ _ z0 z1 z2, o.2⟩
theorem FD.inT {b : Nat} {x u : DT} {w : World} (h : FD b x w) (o : inT w u) (v : DT) : inT (put3 w b v) u := by
 obtain ⟨⟨z0, z1, z2⟩, -⟩ := h
 obtain ⟨⟨h1, h2, h4, h3⟩, hm⟩ := o
 refine ⟨⟨h1, h2, h4, fun i hi => ?_⟩, hm⟩
 obtain ⟨b', off, e1, e2, e3⟩ := h3 i hi
 refine ⟨b', off, e1, by simpa using e2, ?_⟩
 have ne : ∀ (k : Nat) (v : Value), w.cell? ⟨b, k, none⟩ = some v → (∀ j : Int, v ≠ .int .u64 j) → (⟨b, k, none⟩ : Addr) ≠ ⟨b', off + i, none⟩ := fun k v hc hv q => by
  rw [q, e3] at hc
  exact hv _ (Option.some.inj hc).symm
 rw [World.cell?_setCell_other _ _ _ _ (ne 2 _ z2 (fun _ q => by cases q)), World.cell?_setCell_other _ _ _ _ (ne 1 _ z1 (fun _ q => by cases q)), World.cell?_setCell_other _ _ _ _ (ne 0 _ z0 (fun _ q => by cases q))]
 exact e3
theorem FD.lt {b : Nat} {x : DT} {w : World} (h : FD b x w) : b < w.heap.size := World.block_lt_of_cell? _ _ h.1.1
theorem below_put {B b : Nat} {w w' : World} (h : Below B w w') (hb : B ≤ b) (u : DT) : Below B w (put3 w' b u) := ((h.setCell hb _).setCell hb _).setCell hb _
theorem tShr (x : DT) (j : Nat) (w : World) (hx : inT w x) (g : greatB (val x.2.2.2.2.1) = false) (hj : j ≤ 100000) :
  Calls Tryz.prog 137 #[.slice x.2.1 x.2.2.1 x.2.2.2.1, .int .i64 (j : Int)] w fun r w' => ∃ (a : Option Addr) (n c : Nat) (f : Bool), r = .returned (.tuple #[.slice a n c, .bool f, .int .i64 0]) ∧ ownT w.heap.size w' (x.1, a, n, c, wO (val x.2.2.2.2.1 / 2 ^ j), 0) ∧ Below w.heap.size w w' := by
 have h := shr_calls x.2.1 x.2.2.1 x.2.2.2.1 x.2.2.2.2.1 (j : Int) w hx.1 (by have := hx.2; omega) (by omega)
 obtain ⟨e1, e2, e3⟩ := shr_fit (j := j) g
 rw [e1, e2, e3] at h
 refine h.mono ?_
 rintro r w' ⟨v, rfl, hA, b⟩
 have gl : greatB (val x.2.2.2.2.1 / 2 ^ j) = false := great_mono (Nat.div_le_self _ _) g
 obtain ⟨a, n, c, rfl, -, h2, h3⟩ := hA.open (by unfold greatB at gl; have := of_decide_eq_false gl; omega)
 exact ⟨a, n, c, _, rfl, ⟨h3, by show n ≤ _; omega⟩, b⟩
set_option maxRecDepth 100000 in
set_option maxHeartbeats 4000000 in
theorem parts_calls (x : DT) (w : World) (hx : inT w x) (hT : Tab w) (rx : rgT x = true) :
  Calls Tryz.prog 155 #[dT x] w fun r w' => ∃ X Y : DT, r = .returned (.tuple #[dT X, dT Y]) ∧ tT X = pW (tT x) ∧ tT Y = pR (tT x) ∧ rgT X = true ∧ rgT Y = true ∧ inT w' X ∧ inT w' Y ∧ Below w.heap.size w w' := by
 obtain ⟨g1, e1⟩ := rightB_yes rx
 have R := rg_of rx
 have A := fd_new x w
 have b1 := below_one w (obD x)
 have Z2 := fd_zero (w.alloc (obD x))
 have b2 := below_one (w.alloc (obD x)) obz
 have Z3 := fd_zero ((w.alloc (obD x)).alloc obz)
 have b3 := below_one ((w.alloc (obD x)).alloc obz) obz
 replace A := (A.keep b2).keep b3
 replace Z2 := Z2.keep b3
 have bA := nT (nT b1 b2) b3
 rw [show (w.alloc (obD x)).heap.size = w.heap.size + 1 by simp] at Z2
 rw [show ((w.alloc (obD x)).alloc obz).heap.size = w.heap.size + 1 + 1 by simp] at Z3
 clear b1 b2 b3
 by_cases he : 0 ≤ x.2.2.2.2.2
 ·have h1 : Hid (tT x = pW (tT x)) := by
   refine (pW_same ?_).symm
   show 0 ≤ (formD x.1 (val x.2.2.2.2.1) x.2.2.2.2.2).2.2
   by_cases h0 : val x.2.2.2.2.1 = 0
   ·rw [h0, form_zero]; exact Int.le_refl _
   ·rw [form_pos x.1 h0]; show 0 ≤ x.2.2.2.2.2 + (tz (val x.2.2.2.2.1) : Int); omega
  have h2 : Hid (tT zDT = pR (tT x)) := by
   have e : pR (tT x) = (false, 0, 0) := by
    unfold pR
    rw [← h1.out]
    have q := R.low
    refine cn_zero (sum_cn R.can (neg_cn R.can)) ?_
    have a := vI_abs (sumD (tT x) (negD (tT x))) (-32768)
    rw [vI_sum _ (negD (tT x)) _ q q, vI_neg, show vI (tT x) (-32768) + -vI (tT x) (-32768) = 0 by omega] at a
    have : (sumD (tT x) (negD (tT x))).2.1 * 2 ^ ((sumD (tT x) (negD (tT x))).2.2 - -32768).toNat = 0 := a.symm
    rcases Nat.mul_eq_zero.1 this with k | k
    ·exact k
    ·have := Nat.two_pow_pos ((sumD (tT x) (negD (tT x))).2.2 - -32768).toNat
     omega
   rw [e]
   exact form_zero _ _
  have hz : Hid (rgT zDT = true) := by
   show rightB 0 0 = true
   unfold rightB
   rw [(great_not 0).2 (by rw [blen_zero]; omega)]
   rfl
  have HX : Hid (rgT x = true) := rx
  have IX : Hid (∀ W, Below w.heap.size w W → inT W x) := fun W b => hx.keep b
  clear R rx hT g1 e1 hx
  go_enter Tryz.func155, Tryz.ntmps155
  go_upto_region 1 with fail
  generalize ((w.alloc (obD x)).alloc obz).alloc obz = wA at *
  obtain ⟨⟨k0, k1, k2⟩, -⟩ := A
  obtain ⟨⟨y0, y1, y2⟩, p0, p1, p2⟩ := Z2
  obtain ⟨⟨z0, z1, z2⟩, q0, q1, q2⟩ := Z3
  go_wp2_with fail
  refine bodyPost_ret (v := .tuple #[dT x, dT zDT]) (by simp [results, Tryz.results155, go_sem, zDT, y0, y1, y2, z0, z1, z2]) rfl ⟨x, zDT, rfl, h1.out, h2.out, HX.out, hz.out, IX.out _ ?_, ⟨(ownW_nil 0 _).1, by decide⟩, ?_⟩
  all_goals
   repeat (first | (with_reducible exact bA) | (with_reducible refine Below.setCell ?_ (by simp; try omega) _))
 ·obtain ⟨j, hj⟩ : ∃ j : Nat, x.2.2.2.2.2 = -(j : Int) := ⟨(-x.2.2.2.2.2).toNat, by omega⟩
  have hj0 : 0 < j := by omega
  have h1 : Hid (tT x = formD x.1 (val x.2.2.2.2.1) (-(j : Int))) := by rw [Hid, ← hj]; rfl
  have HR : Hid _ := R
  have HG : Hid _ := g1
  have hj2 : j ≤ 100000 := by omega
  have hJ : Hid _ := hj
  have HX : Hid (rgT x = true) := rx
  have IX : Hid (∀ W, Below w.heap.size w W → inT W x) := fun W b => hx.keep b
  clear R g1 e1 rx hx he hj
  go_enter Tryz.func155, Tryz.ntmps155
  go_upto_region 1 with fail
  have sA := bA.size
  generalize ((w.alloc (obD x)).alloc obz).alloc obz = wA at *
  have HA : Hid (FD w.heap.size x wA) := A
  obtain ⟨⟨k0, k1, k2⟩, -⟩ := A
  rw [hJ.out] at k2
  go_upto_region 3 with fail
  go_wp2_with fail
  refine Calls.mono (tShr x j wA (IX.out _ bA) HG.out hj2) ?_
  rintro r w1 ⟨a, n, c, f, rfl, O, bN⟩
  clear k0 k1 k2
  have A := HA.out.keep bN
  replace Z2 := Z2.keep bN
  replace Z3 := Z3.keep bN
  replace O : ownT w.heap.size w1 (x.1, a, n, c, wO (val x.2.2.2.2.1 / 2 ^ j), 0) := ⟨O.1.low sA, O.2⟩
  replace bA := nT bA bN
  clear bN HA
  have W2 : ∃ W : World, W = ((w1.setCell ⟨w.heap.size + 1, 0, none⟩ (.bool x.1)).setCell ⟨w.heap.size + 1, 1, none⟩ (.slice a n c)).setCell ⟨w.heap.size + 1, 2, none⟩ (.int .i64 0) := ⟨_, rfl⟩
  have C1 := A.other (r := w.heap.size + 1) (by omega) (x.1, a, n, c, wO (val x.2.2.2.2.1 / 2 ^ j), 0)
  have C2 := Z2.put (x.1, a, n, c, wO (val x.2.2.2.2.1 / 2 ^ j), 0)
  have C3 := Z3.other (r := w.heap.size + 1) (by omega) (x.1, a, n, c, wO (val x.2.2.2.2.1 / 2 ^ j), 0)
  have OO := Z2.own O (x.1, a, n, c, wO (val x.2.2.2.2.1 / 2 ^ j), 0)
  have bB := below_put bA (b := w.heap.size + 1) (by omega) (x.1, a, n, c, wO (val x.2.2.2.2.1 / 2 ^ j), 0)
  simp only [put3] at C1 C2 C3 OO bB
  obtain ⟨⟨k0, k1, k2⟩, -⟩ := A
  obtain ⟨⟨y0, y1, y2⟩, p0, p1, p2⟩ := Z2
  rw [hJ.out] at k2
  go_upto_region 5 with fail
  generalize ((w1.setCell ⟨w.heap.size + 1, 0, none⟩ (.bool x.1)).setCell ⟨w.heap.size + 1, 1, none⟩ (.slice a n c)).setCell ⟨w.heap.size + 1, 2, none⟩ (.int .i64 0) = w2 at *
  clear W2 k0 k1 k2 y0 y1 y2 p0 p1 p2 bA Z3 O
  generalize hX : ((x.1, a, n, c, wO (val x.2.2.2.2.1 / 2 ^ j), 0) : DT) = X at *
  have eX : Hid (tT X = pW (tT x)) := by
   rw [Hid, h1.out, pW_raw, ← hX]
   show formD x.1 (val (wO (val x.2.2.2.2.1 / 2 ^ j))) 0 = _
   rw [val_words]
  have rX : Hid (rgT X = true) := by
   rw [Hid, ← hX]
   show rightB (val (wO (val x.2.2.2.2.1 / 2 ^ j))) 0 = true
   rw [val_words]
   unfold rightB
   rw [great_mono (Nat.div_le_self _ _) HG.out]
   rfl
  have vX : Hid (dT X = dyV x.1 a n c 0) := by rw [Hid, ← hX]
  have SB : Hid (∀ W, inT W x → inT W X → Tab W → Calls Tryz.prog 115 #[dT x, dyV x.1 a n c 0] W fun r w' => ∃ Y : DT, r = .returned (.tuple #[dT Y, .int .i64 0]) ∧ isP Y (pR (tT x)) ∧ ownT W.heap.size w' Y ∧ Below W.heap.size W w') := fun W i k t => by
   have h := tSub x X W i k t HX.out rX.out
   rw [eX.out, vX.out] at h
   rw [show sumD (tT x) (negD (pW (tT x))) = pR (tT x) from rfl, roomE_yes (pR_room HR.out), roomP_yes (pR_room HR.out)] at h
   exact h
  obtain ⟨⟨k0, k1, k2⟩, -⟩ := C1
  have HC2 : Hid (FD (w.heap.size + 1) X w2) := C2
  obtain ⟨⟨y0, y1, y2⟩, -⟩ := C2
  rw [← hX] at y0 y1 y2
  go_wp2_with fail
  refine Calls.mono (SB.out w2 (IX.out _ bB) OO.inT (hT.kept bB)) ?_
  rintro r w3 ⟨Y, rfl, pY, oY, bN⟩
  clear k0 k1 k2 y0 y1 y2
  have sB := bB.size
  replace C2 := HC2.out.keep bN
  replace C3 := C3.keep bN
  replace OO := OO.keep bN
  replace oY : ownT w.heap.size w3 Y := ⟨oY.1.low sB, oY.2⟩
  replace bB := nT bB bN
  clear bN HC2 SB
  have D2 := C2.other (r := w.heap.size + 1 + 1) (by omega) Y
  have D3 := C3.put Y
  have oX := C3.own OO Y
  have oY2 := C3.own oY Y
  have bC := below_put bB (b := w.heap.size + 1 + 1) (by omega) Y
  simp only [put3] at D2 D3 oX oY2 bC
  obtain ⟨⟨z0, z1, z2⟩, f0, f1, f2⟩ := C3
  go_upto_region 6 with fail
  generalize ((w3.setCell ⟨w.heap.size + 1 + 1, 0, none⟩ (.bool Y.1)).setCell ⟨w.heap.size + 1 + 1, 1, none⟩ (.slice Y.2.1 Y.2.2.1 Y.2.2.2.1)).setCell ⟨w.heap.size + 1 + 1, 2, none⟩ (.int .i64 Y.2.2.2.2.2) = w4 at *
  clear z0 z1 z2 f0 f1 f2 C2 OO oY bB
  have E2 : Hid (FD (w.heap.size + 1) X w4) := D2
  have E3 : Hid (FD (w.heap.size + 1 + 1) Y w4) := D3
  obtain ⟨⟨y0, y1, y2⟩, p0, p1, p2⟩ := D2
  obtain ⟨⟨z0, z1, z2⟩, q0, q1, q2⟩ := D3
  go_region
  all_goals
   go_wp2_with fail
   refine bodyPost_ret (v := .tuple #[dT X, dT Y]) (by simp [results, Tryz.results155, go_sem, y0, y1, y2, z0, z1, z2]) rfl ⟨X, Y, rfl, eX.out, pY.tT (pR_can HR.out.can), rX.out, pY.rgT.trans (pR_room HR.out), ?_, ?_, ?_⟩
   ·exact ((E3.out.other (by omega) X).inT (E2.out.inT oX.inT X) Y).keep (Below.refl _ _).drew
   ·exact ((E3.out.other (by omega) X).inT (E2.out.inT oY2.inT X) Y).keep (Below.refl _ _).drew
   ·exact (below_put (below_put bC (by omega) X) (by omega) Y).drew
end Go.Proofs.YtahpdcbmekgkfaaGreatDoor

/- Products of dyadic numbers above 0, and cut outward (pure). Products of dyadic numbers above 0, the least and the greatest of four, as the document has them: walks. The document's products of enclosures above 0, its enclosure of one number, its enclosure times a power of two; what lies in an enclosure. The document's whole numbers, points, enclosures times four, what lies in an enclosure: of numbers above 0. -/
import Derived.Test.YtkkldnnndlpblaaGreatDoorCMA
import Derived.Test.YtkkldnnndlpblaaGreatDoorDGC
import Derived.Test.YtkkldnnndlpblaaGreatDoorRDB
import Derived.Test.YtkkldnnndlpblaaGreatDoorIVY
import Derived.Test.YtkkldnnndlpblaaGreatDoorRD16
import Derived.Deep.RegionHeld3
import Derived.Test.YtkkldnnndlpblaaGreatDoorIVW

namespace Go.Proofs.YtkkldnnndlpblaaGreatDoor
open Go.RowKit Ck

/-- a number in units, as its odd part shifted -/
theorem uD_odd (m w : Nat) (h : m ≠ 0) : (uD m w).2.1 * 2 ^ tz m = m ∧ (uD m w).2.2 = -(w : Int) + (tz m : Int) := by
  unfold uD
  rw [form_pos _ h]
  exact ⟨(odd_part h).2, rfl⟩

/-- the product -/
theorem uD_mul (a b w v : Nat) (ha : a ≠ 0) (hb : b ≠ 0) : mulD (uD a w) (uD b v) = uD (a * b) (w + v) := by
  obtain ⟨a1, a2⟩ := uD_odd a w ha
  obtain ⟨b1, b2⟩ := uD_odd b v hb
  unfold mulD
  rw [uD_sign, uD_sign, a2, b2]
  have e : a * b = (uD a w).2.1 * (uD b v).2.1 * 2 ^ (tz a + tz b) := by
    rw [Nat.pow_add]
    conv => lhs; rw [← a1, ← b1]
    ac_rfl
  show formD false _ _ = formD false (a * b) (-((w + v : Nat) : Int))
  rw [e, form_shift]
  congr 1
  omega

/-- one more place -/
theorem uD_scale (m w n : Nat) : formD false (uD m w).2.1 ((uD m w).2.2 + (n : Int)) = uD (m * 2 ^ n) w := by
  by_cases h : m = 0
  · subst h
    unfold uD
    rw [Nat.zero_mul, form_zero, form_zero]
  obtain ⟨a1, a2⟩ := uD_odd m w h
  show _ = formD false (m * 2 ^ n) _
  rw [form_shift, a2]
  conv => rhs; rw [← a1]
  rw [form_shift]
  congr 1
  omega

/-- cut to p bits: down no more, up no less -/
theorem uD_cut (n W p : Nat) (up : Bool) (h0 : n ≠ 0) (hb : blen n ≤ W + 16) (hp : 16 ≤ p) : ∃ c j, j ≤ W ∧ cutD (uD n W) (p : Int) up = uD c (W - j) ∧ (up = false → c * 2 ^ j ≤ n) ∧ (up = true → n ≤ c * 2 ^ j) ∧ blen c ≤ W - j + 17 ∧ (up = false → 0 < c) := by
  obtain ⟨a1, a2⟩ := uD_odd n W h0
  unfold cutD
  by_cases hl : (blen (uD n W).2.1 : Int) ≤ (p : Int)
  · rw [if_pos hl]
    refine ⟨n, 0, Nat.zero_le _, rfl, fun _ => ?_, fun _ => ?_, by omega, fun _ => Nat.pos_of_ne_zero h0⟩
    · rw [Nat.pow_zero, Nat.mul_one]; exact Nat.le_refl _
    · rw [Nat.pow_zero, Nat.mul_one]; exact Nat.le_refl _
  · rw [if_neg hl]
    obtain ⟨m, hm⟩ : ∃ m, m = (uD n W).2.1 := ⟨_, rfl⟩
    rw [← hm] at hl a1 ⊢
    obtain ⟨k, hk⟩ : ∃ k : Nat, k = blen m - p := ⟨_, rfl⟩
    rw [show ((blen m : Int) - (p : Int)).toNat = k by omega, uD_sign, a2]
    have hbn : blen n = blen m + tz n := by
      have h1 := blen_mul m (tz n) (by intro hc; rw [hc] at hl; exact hl (by rw [show blen 0 = 0 from rfl]; omega))
      rw [a1] at h1
      omega
    have hj : k + tz n ≤ W := by omega
    have p2 : 0 < 2 ^ k := Nat.pow_pos (by decide)
    have dm := Nat.div_add_mod m (2 ^ k)
    have dl := Nat.mod_lt m p2
    have hbk : blen (m / 2 ^ k) ≤ p := by
      rw [blen_le]
      rw [Nat.div_lt_iff_lt_mul p2, ← Nat.pow_add]
      exact (blen_le m _).1 (by omega)
    have hq : 0 < m / 2 ^ k := by
      refine Nat.div_pos ?_ p2
      rcases Nat.lt_or_ge m (2 ^ k) with hlt | hge
      · have := (blen_le m k).2 hlt; omega
      · exact hge
    refine ⟨m / 2 ^ k + (if (!(up == false)) = true then 1 else 0), k + tz n, hj, ?_, fun hu => ?_, fun hu => ?_, ?_, fun _ => by omega⟩
    · show formD false _ _ = formD false _ _
      congr 1
      omega
    · subst hu
      rw [if_neg (by decide), Nat.add_zero, Nat.pow_add, ← Nat.mul_assoc]
      conv => rhs; rw [← a1]
      exact Nat.mul_le_mul_right _ (Nat.div_mul_le_self _ _)
    · subst hu
      rw [if_pos (by decide), Nat.pow_add, ← Nat.mul_assoc]
      conv => lhs; rw [← a1]
      refine Nat.mul_le_mul_right _ ?_
      rw [Nat.add_mul, Nat.one_mul, Nat.mul_comm]
      omega
    · have h3 : blen (m / 2 ^ k + (if (!(up == false)) = true then 1 else 0)) ≤ p + 1 := by
        rw [blen_le]
        have h4 := (blen_le (m / 2 ^ k) p).1 hbk
        have h5 : (2 : Nat) ^ (p + 1) = 2 ^ p * 2 := Nat.pow_succ ..
        have h6 : 0 < 2 ^ p := Nat.pow_pos (by decide)
        split <;> omega
      omega

end Go.Proofs.YtkkldnnndlpblaaGreatDoor

namespace Go.Proofs.YtkkldnnndlpblaaGreatDoor
open Go.RowKit Ck

theorem cmI_gt (a b : Int) : 0 < Lib.compareInt a b ↔ b < a := by
  unfold Lib.compareInt
  split
  · constructor <;> intro <;> omega
  · split
    · constructor <;> intro <;> omega
    · constructor <;> intro <;> omega

theorem cmT_uD {x y : DT} {m w n v : Nat} (hx : isU x m w) (hy : isU y n v) : cmT x y = cmpD (uD m w) (uD n v) := by
  unfold cmT
  rw [hx.form, hy.form]

theorem cmT_lt {x y : DT} {m n W : Nat} (hx : isU x m W) (hy : isU y n W) : cmT x y < 0 ↔ m < n := by
  rw [cmT_uD hx hy, cmD_lt]
  exact Nat.mul_lt_mul_right (Nat.pow_pos (by decide))

theorem cmT_gt {x y : DT} {m n W : Nat} (hx : isU x m W) (hy : isU y n W) : 0 < cmT x y ↔ n < m := by
  rw [cmT_uD hx hy, cmD_eq, cmI_gt, Int.ofNat_lt]
  exact Nat.mul_lt_mul_right (Nat.pow_pos (by decide))

theorem dyq_T {B m W : Nat} {w : World} {v : Value} (h : DyQ B w v (uD m W)) (hm : blen m ≤ 65536) : ∃ x : DT, v = dT x ∧ isU x m W ∧ ownT B w x := by
  obtain ⟨ao, n, c, rfl, hn, hO⟩ := h
  have g : greatB m = false := (great_not m).2 hm
  have g2 : greatB (uD m W).2.1 = false := great_mono (form_amount_le _ _ _) g
  refine ⟨((uD m W).1, ao, n, c, wordsOf (uD m W).2.1, (uD m W).2.2), rfl, ⟨uD_sign m W, val_words _, rfl⟩, hO, ?_⟩
  show n ≤ 1024
  rw [hn.out]
  exact (great_len _).1 g2

theorem isU.nz {x : DT} {m w : Nat} (h : isU x m w) (hb : blen m ≤ w + 40) (hw : w ≤ 20000) : blen (val x.2.2.2.2.1) ≤ 10000000 ∧ -10000000 ≤ x.2.2.2.2.2 ∧ x.2.2.2.2.2 ≤ 10000000 := by
  have r := rg_bounds (h.right hb hw)
  omega

theorem dMul_calls {x y : DT} {m n w v : Nat} (hx : isU x m w) (hy : isU y n v) (m0 : m ≠ 0) (n0 : n ≠ 0) (h1 : blen m ≤ w + 40) (h2 : blen n ≤ v + 40) (hw : w ≤ 20000) (hv : v ≤ 20000) (W : World) (i : inT W x) (j : inT W y) :
    Calls Tryz.prog 54 #[dT x, dT y] W fun r w' => ∃ z : DT, r = .returned (dT z) ∧ isU z (m * n) (w + v) ∧ ownT W.heap.size w' z ∧ Below W.heap.size W w' := by
  obtain ⟨b1, b2, b3⟩ := hx.nz h1 hw
  obtain ⟨c1, c2, c3⟩ := hy.nz h2 hv
  refine (qTimes_calls x.1 x.2.1 x.2.2.1 x.2.2.2.1 x.2.2.2.2.1 x.2.2.2.2.2 y.1 y.2.1 y.2.2.1 y.2.2.2.1 y.2.2.2.2.1 y.2.2.2.2.2 W i.1 i.2 j.1 j.2 ⟨b2, b3⟩ ⟨c2, c3⟩ b1 c1).mono ?_
  rintro r w' ⟨v', rfl, hQ, hb⟩
  rw [hx.form, hy.form, uD_mul m n w v m0 n0] at hQ
  have e : m * n < 2 ^ (blen m + blen n) := by
    rw [Nat.pow_add]
    exact Nat.mul_lt_mul'' (lt_blen m) (lt_blen n)
  obtain ⟨z, rfl, hz, oz⟩ := dyq_T hQ (by have := (blen_le _ _).2 e; omega)
  exact ⟨z, rfl, hz, oz, hb⟩

/-- the cells of four numbers, one behind the other -/
def At3 (b o o1 o2 : Nat) (z : DT) (w : World) : Prop := w.cell? ⟨b, o, none⟩ = some (.bool z.1) ∧ w.cell? ⟨b, o1, none⟩ = some (.slice z.2.1 z.2.2.1 z.2.2.2.1) ∧ w.cell? ⟨b, o2, none⟩ = some (.int .i64 z.2.2.2.2.2)

theorem At3.keepS {S : Nat → Prop} {b o o1 o2 : Nat} {z : DT} {w w' : World} (h : At3 b o o1 o2 z w) (r : Ks S w w') (hb : ¬ S b) : At3 b o o1 o2 z w' := ⟨r.cell h.1 hb, r.cell h.2.1 hb, r.cell h.2.2 hb⟩

theorem ZI.keepS {S : Nat → Prop} {b : Nat} {w w' : World} (h : ZI b w) (r : Ks S w w') (hb : ¬ S b) : ZI b w' := by
  obtain ⟨⟨z0, z1, z2, z3, z4, z5⟩, f0, f1, f2, f3, f4, f5⟩ := h
  exact ⟨⟨r.cell z0 hb, r.cell z1 hb, r.cell z2 hb, r.cell z3 hb, r.cell z4 hb, r.cell z5 hb⟩, r.frozen z0 hb f0, r.frozen z1 hb f1, r.frozen z2 hb f2, r.frozen z3 hb f3, r.frozen z4 hb f4, r.frozen z5 hb f5⟩

def SpI (wS : World) (b : Nat) (z0 z1 z2 z3 : DT) (n0 n1 n2 n3 W : Nat) (wr : World) (k m : Nat) (h : DT) : Prop :=
  Ks (fun x => x = b) wS wr ∧ At3 b 0 1 2 z0 wr ∧ At3 b 3 4 5 h wr ∧ (wr.frozen? ⟨b, 3, none⟩ = false ∧ wr.frozen? ⟨b, 4, none⟩ = false ∧ wr.frozen? ⟨b, 5, none⟩ = false) ∧ (h = z0 ∨ h = z1 ∨ h = z2 ∨ h = z3) ∧ isU h m W ∧ n0 ≤ m ∧ m ≤ n3 ∧ (2 ≤ k → n1 ≤ m) ∧ (3 ≤ k → n2 ≤ m) ∧ (4 ≤ k → n3 ≤ m)

theorem ks_three (S : Nat → Prop) (w : World) (b : Nat) (hb : S b) (v0 v1 v2 : Value) : Ks S w (((w.setCell ⟨b, 3, none⟩ v0).setCell ⟨b, 4, none⟩ v1).setCell ⟨b, 5, none⟩ v2) :=
  ((ks_set v0 hb).trans (ks_set v1 hb)).trans (ks_set v2 hb)

set_option maxRecDepth 100000 in
set_option maxHeartbeats 8000000 in
theorem docSpan_calls (s : Nat) (z0 z1 z2 z3 : DT) (n0 n1 n2 n3 W : Nat) (u0 : isU z0 n0 W) (u1 : isU z1 n1 W) (u2 : isU z2 n2 W) (u3 : isU z3 n3 W) (h01 : n0 ≤ n1) (h02 : n0 ≤ n2) (h13 : n1 ≤ n3) (h23 : n2 ≤ n3) (hb : blen n3 ≤ W + 40) (hW : W ≤ 20000) (w : World) (i0 : inT w z0) (i1 : inT w z1) (i2 : inT w z2) (i3 : inT w z3) (s0 : At3 s 0 1 2 z0 w) (s1 : At3 s 3 4 5 z1 w) (s2 : At3 s 6 7 8 z2 w) (s3 : At3 s 9 10 11 z3 w) :
    Calls Tryz.prog 56 #[.slice (some ⟨s, 0, none⟩) 4 4] w fun r w' => ∃ h : DT, r = .returned (ivT z0 h) ∧ isU h n3 W ∧ (h = z0 ∨ h = z1 ∨ h = z2 ∨ h = z3) ∧ Below w.heap.size w w' := by
  have b0 := Nat.le_trans (blen_mono (Nat.le_trans h01 h13)) hb
  have b1 := Nat.le_trans (blen_mono h13) hb
  have b2 := Nat.le_trans (blen_mono h23) hb
  have r0 := u0.right b0 hW
  have r1 := u1.right b1 hW
  have r2 := u2.right b2 hW
  have r3 := u3.right hb hW
  have OC : Hid (∀ (x y : DT) (W : World), inT W x → inT W y → rgT x = true → rgT y = true → _) := fun x y W hx hy a c => ordT_calls x y W hx hy a c
  have hs : s < w.heap.size := World.block_lt_of_cell? _ _ s0.1
  have R : Hid (∀ h : DT, (h = z0 ∨ h = z1 ∨ h = z2 ∨ h = z3) → inT w h ∧ rgT h = true) := fun h e => by
    rcases e with rfl | rfl | rfl | rfl
    · exact ⟨i0, r0⟩
    · exact ⟨i1, r1⟩
    · exact ⟨i2, r2⟩
    · exact ⟨i3, r3⟩
  have L1 : ¬ cmT z1 z0 < 0 := by rw [cmT_lt u1 u0]; omega
  have L2 : ¬ cmT z2 z0 < 0 := by rw [cmT_lt u2 u0]; omega
  have L3 : ¬ cmT z3 z0 < 0 := by rw [cmT_lt u3 u0]; omega
  have bR := below_one w (.cells #[.bool false, .slice none 0 0, .int .i64 0, .bool false, .slice none 0 0, .int .i64 0] 28)
  have ZR := zi_new w
  have t0 := s0.keepS (Ks.of_below (S := fun _ => False) bR) (fun e => e)
  obtain ⟨p0, p1, p2⟩ := id t0
  have sR := bR.size
  go_enter Tryz.func56, Tryz.ntmps56
  go_wp2_with fail
  obtain ⟨wA, hwA⟩ : ∃ wA, wA = w.alloc (.cells #[.bool false, .slice none 0 0, .int .i64 0, .bool false, .slice none 0 0, .int .i64 0] 28) := ⟨_, rfl⟩
  rw [← hwA] at bR ZR t0 p0 p1 p2 sR ⊢
  have sA1 : w.heap.size < wA.heap.size := by rw [hwA]; simp
  clear hwA
  have hsA : s < wA.heap.size := by omega
  go_region_held3 (fun W => W.cell? ⟨s, 0, none⟩ = some (.bool z0.1) ∧ W.cell? ⟨s, 1, none⟩ = some (.slice z0.2.1 z0.2.2.1 z0.2.2.2.1) ∧ W.cell? ⟨s, 2, none⟩ = some (.int .i64 z0.2.2.2.2.2)) (go_keep) (fail)
  have bS := below_one wA (obT z0 z0)
  have AS := att_new z0 z0 wA
  have F3 : (wA.alloc (obT z0 z0)).frozen? ⟨wA.heap.size, 3, none⟩ = false := by go_simp
  have F4 : (wA.alloc (obT z0 z0)).frozen? ⟨wA.heap.size, 4, none⟩ = false := by go_simp
  have F5 : (wA.alloc (obT z0 z0)).frozen? ⟨wA.heap.size, 5, none⟩ = false := by go_simp
  have bW : Below (wA.alloc (obT z0 z0)).heap.size (wA.alloc (obT z0 z0)) (wA.alloc (obT z0 z0)).drew := (Below.refl _ _).drew
  obtain ⟨a0, a1, a2, a3, a4, a5⟩ := AS
  replace F3 := dcarry_frozen bW a3 F3
  replace F4 := dcarry_frozen bW a4 F4
  replace F5 := dcarry_frozen bW a5 F5
  replace a0 := dcarry_cell bW a0
  replace a1 := dcarry_cell bW a1
  replace a2 := dcarry_cell bW a2
  replace a3 := dcarry_cell bW a3
  replace a4 := dcarry_cell bW a4
  replace a5 := dcarry_cell bW a5
  replace bS := nbelow_trans bS bW
  replace ZR := ZR.keep bS
  replace bS := nbelow_trans bR bS
  clear bW bR t0 p0 p1 p2
  generalize (wA.alloc (obT z0 z0)).drew = wS at *
  have hsb : ¬ s = wA.heap.size := by omega
  have hrb : ¬ w.heap.size = wA.heap.size := by omega
  have hbw : w.heap.size ≤ wA.heap.size := by omega
  generalize wA.heap.size = b at *
  replace s1 := s1.keepS (Ks.of_below (S := fun _ => False) bS) (fun e => e)
  replace s2 := s2.keepS (Ks.of_below (S := fun _ => False) bS) (fun e => e)
  replace s3 := s3.keepS (Ks.of_below (S := fun _ => False) bS) (fun e => e)
  have RT : Hid (∀ h : DT, (h = z0 ∨ h = z1 ∨ h = z2 ∨ h = z3) → ∀ wr, Ks (fun x => x = b) wS wr → inT wr h) := fun h e wr K => ⟨((R.out h e).1.1.keep bS).keepS ((R.out h e).1.1.noS (fun x e => by rw [e]; omega)) K, (R.out h e).1.2⟩
  have RG : Hid (∀ h : DT, (h = z0 ∨ h = z1 ∨ h = z2 ∨ h = z3) → rgT h = true) := fun h e => (R.out h e).2
  have HS1 : Hid (At3 s 3 4 5 z1 wS) := s1
  have HS2 : Hid (At3 s 6 7 8 z2 wS) := s2
  have HS3 : Hid (At3 s 9 10 11 z3 wS) := s3
  have HZ : Hid (ZI w.heap.size wS) := ZR
  have HU1 : Hid (isU z1 n1 W) := u1
  have HU2 : Hid (isU z2 n2 W) := u2
  have HU3 : Hid (isU z3 n3 W) := u3
  have HO : Hid (n0 ≤ n1 ∧ n0 ≤ n2 ∧ n1 ≤ n3 ∧ n2 ≤ n3) := ⟨h01, h02, h13, h23⟩
  have HI0 : Hid (SpI wS b z0 z1 z2 z3 n0 n1 n2 n3 W wS 1 n0 z0) := ⟨Ks.of_below (Below.refl _ _), ⟨a0, a1, a2⟩, ⟨a3, a4, a5⟩, ⟨F3, F4, F5⟩, Or.inl rfl, u0, by omega, by omega, fun e => by omega, fun e => by omega, fun e => by omega⟩
  clear sA1 s0 s1 s2 s3 ZR u0 u1 u2 u3 h01 h02 h13 h23 i0 i1 i2 i3 r0 r1 r2 r3 b0 b1 b2 hb hW a0 a1 a2 a3 a4 a5 F3 F4 F5 R hs hsA sR
  go_wp2_with fail
  go_loopw [4] (fun vi wr => ∃ (k m : Nat) (h : DT), 1 ≤ k ∧ k ≤ 4 ∧ vi = .int .i64 (k : Int) ∧ Hid (SpI wS b z0 z1 z2 z3 n0 n1 n2 n3 W wr k m h)) (fun vi _ => 4 - (intOf vi).toNat)
  case atStart => exact ⟨1, n0, z0, by omega, by omega, rfl, HI0⟩
  case round =>
    obtain ⟨k, m, h, hk1, hk4, rfl, HI⟩ := hrel
    obtain ⟨K, ⟨q0, q1, q2⟩, ⟨y3, y4, y5⟩, ⟨f3, f4, f5⟩, hh, uh, m0, m1, m2, m3, m4⟩ := HI.out
    have HUH : Hid (isU h m W) := uh
    have HM : Hid (n0 ≤ m ∧ m ≤ n3 ∧ (2 ≤ k → n1 ≤ m) ∧ (3 ≤ k → n2 ≤ m) ∧ (4 ≤ k → n3 ≤ m)) := ⟨m0, m1, m2, m3, m4⟩
    clear m0 m1 m2 m3 m4
    have HH : Hid (h = z0 ∨ h = z1 ∨ h = z2 ∨ h = z3) := hh
    have KK : Hid (Ks (fun x => x = b) wS wr) := K
    clear HI uh hh K
    rcases (show k = 1 ∨ k = 2 ∨ k = 3 ∨ k = 4 by omega) with q | q | q | q
    · subst q
      obtain ⟨p0, p1, p2⟩ := HS1.out.keepS KK.out hsb
      have bD : Below wr.heap.size wr wr.drew := (Below.refl _ _).drew
      go_wp2_with fail
      go_region_held3 (fun W => W.cell? ⟨s, 3, none⟩ = some (.bool z1.1) ∧ W.cell? ⟨s, 4, none⟩ = some (.slice z1.2.1 z1.2.2.1 z1.2.2.2.1) ∧ W.cell? ⟨s, 5, none⟩ = some (.int .i64 z1.2.2.2.2.2) ∧ W.cell? ⟨b, 0, none⟩ = some (.bool z0.1) ∧ W.cell? ⟨b, 1, none⟩ = some (.slice z0.2.1 z0.2.2.1 z0.2.2.2.1) ∧ W.cell? ⟨b, 2, none⟩ = some (.int .i64 z0.2.2.2.2.2))
        (first | (go_keep; done) | ((refine ⟨?_, ?_, ?_, ?_, ?_, ?_⟩ <;> (refine dcarry_cell bL ?_; go_keep)); done))
        (first
          | (go_at_call 29; refine (OC.out z1 z0 _ ((RT.out z1 (Or.inr (Or.inl rfl)) _ KK.out).keep bD) ((RT.out z0 (Or.inl rfl) _ KK.out).keep bD) (RG.out z1 (Or.inr (Or.inl rfl))) (RG.out z0 (Or.inl rfl))).mono ?_; rintro r w3 ⟨rfl, bL⟩; have b3 := nbelow_trans bD bL))
      replace KK : Hid (Ks (fun x => x = b) wS w3) := KK.out.trans (Ks.of_below b3)
      replace f3 := dcarry_frozen b3 y3 f3
      replace f4 := dcarry_frozen b3 y4 f4
      replace f5 := dcarry_frozen b3 y5 f5
      replace p0 := dcarry_cell b3 p0
      replace p1 := dcarry_cell b3 p1
      replace p2 := dcarry_cell b3 p2
      replace q0 := dcarry_cell b3 q0
      replace q1 := dcarry_cell b3 q1
      replace q2 := dcarry_cell b3 q2
      replace y3 := dcarry_cell b3 y3
      replace y4 := dcarry_cell b3 y4
      replace y5 := dcarry_cell b3 y5
      clear b3 bD
      have bD : Below w3.heap.size w3 w3.drew := (Below.refl _ _).drew
      go_wp2_with fail
      go_region_held3 (fun W => W.cell? ⟨s, 3, none⟩ = some (.bool z1.1) ∧ W.cell? ⟨s, 4, none⟩ = some (.slice z1.2.1 z1.2.2.1 z1.2.2.2.1) ∧ W.cell? ⟨s, 5, none⟩ = some (.int .i64 z1.2.2.2.2.2) ∧ W.cell? ⟨b, 3, none⟩ = some (.bool h.1) ∧ W.cell? ⟨b, 4, none⟩ = some (.slice h.2.1 h.2.2.1 h.2.2.2.1) ∧ W.cell? ⟨b, 5, none⟩ = some (.int .i64 h.2.2.2.2.2))
        (first | (go_keep; done) | ((refine ⟨?_, ?_, ?_, ?_, ?_, ?_⟩ <;> (refine dcarry_cell bL ?_; go_keep)); done))
        (first
          | (go_at_call 29; refine (OC.out z1 h _ ((RT.out z1 (Or.inr (Or.inl rfl)) _ KK.out).keep bD) ((RT.out h HH.out _ KK.out).keep bD) (RG.out z1 (Or.inr (Or.inl rfl))) (RG.out h HH.out)).mono ?_; rintro r w4 ⟨rfl, bL⟩; have b4 := nbelow_trans bD bL))
      replace KK : Hid (Ks (fun x => x = b) wS w4) := KK.out.trans (Ks.of_below b4)
      replace f3 := dcarry_frozen b4 y3 f3
      replace f4 := dcarry_frozen b4 y4 f4
      replace f5 := dcarry_frozen b4 y5 f5
      replace p0 := dcarry_cell b4 p0
      replace p1 := dcarry_cell b4 p1
      replace p2 := dcarry_cell b4 p2
      replace q0 := dcarry_cell b4 q0
      replace q1 := dcarry_cell b4 q1
      replace q2 := dcarry_cell b4 q2
      replace y3 := dcarry_cell b4 y3
      replace y4 := dcarry_cell b4 y4
      replace y5 := dcarry_cell b4 y5
      clear b4 bD
      by_cases hg : 0 < cmT z1 h
      · have hn := (cmT_gt HU1.out HUH.out).1 hg
        have HN : Hid (n0 ≤ n1 ∧ n1 ≤ n3 ∧ (2 ≤ 2 → n1 ≤ n1) ∧ (3 ≤ 2 → n2 ≤ n1) ∧ (4 ≤ 2 → n3 ≤ n1)) := by
          obtain ⟨g1, g2, g3, g4⟩ := HO.out
          obtain ⟨m0, m1, m2, m3, m4⟩ := HM.out
          refine ⟨by omega, by omega, fun e => by omega, fun e => by omega, fun e => by omega⟩
        clear hn
        go_wp2_with fail
        exact ⟨⟨2, n1, z1, by omega, by omega, by first | rfl | go_num, ⟨KK.out.trans (ks_three (fun x => x = b) _ b rfl _ _ _), ⟨by go_simp, by go_simp, by go_simp⟩, ⟨by go_simp, by go_simp, by go_simp⟩, ⟨by go_simp, by go_simp, by go_simp⟩, (Or.inr (Or.inl rfl)), HU1.out, HN.out⟩⟩, by simp [intOf]⟩
      · have hn : ¬ m < n1 := fun e => hg ((cmT_gt HU1.out HUH.out).2 e)
        have HN : Hid (n0 ≤ m ∧ m ≤ n3 ∧ (2 ≤ 2 → n1 ≤ m) ∧ (3 ≤ 2 → n2 ≤ m) ∧ (4 ≤ 2 → n3 ≤ m)) := by
          obtain ⟨m0, m1, m2, m3, m4⟩ := HM.out
          refine ⟨m0, m1, fun e => by omega, fun e => by omega, fun e => by omega⟩
        clear hn
        go_wp2_with fail
        exact ⟨⟨2, m, h, by omega, by omega, by first | rfl | go_num, ⟨KK.out, ⟨q0, q1, q2⟩, ⟨y3, y4, y5⟩, ⟨f3, f4, f5⟩, HH.out, HUH.out, HN.out⟩⟩, by simp [intOf]⟩
    · subst q
      obtain ⟨p0, p1, p2⟩ := HS2.out.keepS KK.out hsb
      have bD : Below wr.heap.size wr wr.drew := (Below.refl _ _).drew
      go_wp2_with fail
      go_region_held3 (fun W => W.cell? ⟨s, 6, none⟩ = some (.bool z2.1) ∧ W.cell? ⟨s, 7, none⟩ = some (.slice z2.2.1 z2.2.2.1 z2.2.2.2.1) ∧ W.cell? ⟨s, 8, none⟩ = some (.int .i64 z2.2.2.2.2.2) ∧ W.cell? ⟨b, 0, none⟩ = some (.bool z0.1) ∧ W.cell? ⟨b, 1, none⟩ = some (.slice z0.2.1 z0.2.2.1 z0.2.2.2.1) ∧ W.cell? ⟨b, 2, none⟩ = some (.int .i64 z0.2.2.2.2.2))
        (first | (go_keep; done) | ((refine ⟨?_, ?_, ?_, ?_, ?_, ?_⟩ <;> (refine dcarry_cell bL ?_; go_keep)); done))
        (first
          | (go_at_call 29; refine (OC.out z2 z0 _ ((RT.out z2 (Or.inr (Or.inr (Or.inl rfl))) _ KK.out).keep bD) ((RT.out z0 (Or.inl rfl) _ KK.out).keep bD) (RG.out z2 (Or.inr (Or.inr (Or.inl rfl)))) (RG.out z0 (Or.inl rfl))).mono ?_; rintro r w3 ⟨rfl, bL⟩; have b3 := nbelow_trans bD bL))
      replace KK : Hid (Ks (fun x => x = b) wS w3) := KK.out.trans (Ks.of_below b3)
      replace f3 := dcarry_frozen b3 y3 f3
      replace f4 := dcarry_frozen b3 y4 f4
      replace f5 := dcarry_frozen b3 y5 f5
      replace p0 := dcarry_cell b3 p0
      replace p1 := dcarry_cell b3 p1
      replace p2 := dcarry_cell b3 p2
      replace q0 := dcarry_cell b3 q0
      replace q1 := dcarry_cell b3 q1
      replace q2 := dcarry_cell b3 q2
      replace y3 := dcarry_cell b3 y3
      replace y4 := dcarry_cell b3 y4
      replace y5 := dcarry_cell b3 y5
      clear b3 bD
      have bD : Below w3.heap.size w3 w3.drew := (Below.refl _ _).drew
      go_wp2_with fail
      go_region_held3 (fun W => W.cell? ⟨s, 6, none⟩ = some (.bool z2.1) ∧ W.cell? ⟨s, 7, none⟩ = some (.slice z2.2.1 z2.2.2.1 z2.2.2.2.1) ∧ W.cell? ⟨s, 8, none⟩ = some (.int .i64 z2.2.2.2.2.2) ∧ W.cell? ⟨b, 3, none⟩ = some (.bool h.1) ∧ W.cell? ⟨b, 4, none⟩ = some (.slice h.2.1 h.2.2.1 h.2.2.2.1) ∧ W.cell? ⟨b, 5, none⟩ = some (.int .i64 h.2.2.2.2.2))
        (first | (go_keep; done) | ((refine ⟨?_, ?_, ?_, ?_, ?_, ?_⟩ <;> (refine dcarry_cell bL ?_; go_keep)); done))
        (first
          | (go_at_call 29; refine (OC.out z2 h _ ((RT.out z2 (Or.inr (Or.inr (Or.inl rfl))) _ KK.out).keep bD) ((RT.out h HH.out _ KK.out).keep bD) (RG.out z2 (Or.inr (Or.inr (Or.inl rfl)))) (RG.out h HH.out)).mono ?_; rintro r w4 ⟨rfl, bL⟩; have b4 := nbelow_trans bD bL))
      replace KK : Hid (Ks (fun x => x = b) wS w4) := KK.out.trans (Ks.of_below b4)
      replace f3 := dcarry_frozen b4 y3 f3
      replace f4 := dcarry_frozen b4 y4 f4
      replace f5 := dcarry_frozen b4 y5 f5
      replace p0 := dcarry_cell b4 p0
      replace p1 := dcarry_cell b4 p1
      replace p2 := dcarry_cell b4 p2
      replace q0 := dcarry_cell b4 q0
      replace q1 := dcarry_cell b4 q1
      replace q2 := dcarry_cell b4 q2
      replace y3 := dcarry_cell b4 y3
      replace y4 := dcarry_cell b4 y4
      replace y5 := dcarry_cell b4 y5
      clear b4 bD
      by_cases hg : 0 < cmT z2 h
      · have hn := (cmT_gt HU2.out HUH.out).1 hg
        have HN : Hid (n0 ≤ n2 ∧ n2 ≤ n3 ∧ (2 ≤ 3 → n1 ≤ n2) ∧ (3 ≤ 3 → n2 ≤ n2) ∧ (4 ≤ 3 → n3 ≤ n2)) := by
          obtain ⟨g1, g2, g3, g4⟩ := HO.out
          obtain ⟨m0, m1, m2, m3, m4⟩ := HM.out
          refine ⟨by omega, by omega, fun e => by omega, fun e => by omega, fun e => by omega⟩
        clear hn
        go_wp2_with fail
        exact ⟨⟨3, n2, z2, by omega, by omega, by first | rfl | go_num, ⟨KK.out.trans (ks_three (fun x => x = b) _ b rfl _ _ _), ⟨by go_simp, by go_simp, by go_simp⟩, ⟨by go_simp, by go_simp, by go_simp⟩, ⟨by go_simp, by go_simp, by go_simp⟩, (Or.inr (Or.inr (Or.inl rfl))), HU2.out, HN.out⟩⟩, by simp [intOf]⟩
      · have hn : ¬ m < n2 := fun e => hg ((cmT_gt HU2.out HUH.out).2 e)
        have HN : Hid (n0 ≤ m ∧ m ≤ n3 ∧ (2 ≤ 3 → n1 ≤ m) ∧ (3 ≤ 3 → n2 ≤ m) ∧ (4 ≤ 3 → n3 ≤ m)) := by
          obtain ⟨m0, m1, m2, m3, m4⟩ := HM.out
          refine ⟨m0, m1, fun e => by omega, fun e => by omega, fun e => by omega⟩
        clear hn
        go_wp2_with fail
        exact ⟨⟨3, m, h, by omega, by omega, by first | rfl | go_num, ⟨KK.out, ⟨q0, q1, q2⟩, ⟨y3, y4, y5⟩, ⟨f3, f4, f5⟩, HH.out, HUH.out, HN.out⟩⟩, by simp [intOf]⟩
    · subst q
      obtain ⟨p0, p1, p2⟩ := HS3.out.keepS KK.out hsb
      have bD : Below wr.heap.size wr wr.drew := (Below.refl _ _).drew
      go_wp2_with fail
      go_region_held3 (fun W => W.cell? ⟨s, 9, none⟩ = some (.bool z3.1) ∧ W.cell? ⟨s, 10, none⟩ = some (.slice z3.2.1 z3.2.2.1 z3.2.2.2.1) ∧ W.cell? ⟨s, 11, none⟩ = some (.int .i64 z3.2.2.2.2.2) ∧ W.cell? ⟨b, 0, none⟩ = some (.bool z0.1) ∧ W.cell? ⟨b, 1, none⟩ = some (.slice z0.2.1 z0.2.2.1 z0.2.2.2.1) ∧ W.cell? ⟨b, 2, none⟩ = some (.int .i64 z0.2.2.2.2.2))
        (first | (go_keep; done) | ((refine ⟨?_, ?_, ?_, ?_, ?_, ?_⟩ <;> (refine dcarry_cell bL ?_; go_keep)); done))
        (first
          | (go_at_call 29; refine (OC.out z3 z0 _ ((RT.out z3 (Or.inr (Or.inr (Or.inr rfl))) _ KK.out).keep bD) ((RT.out z0 (Or.inl rfl) _ KK.out).keep bD) (RG.out z3 (Or.inr (Or.inr (Or.inr rfl)))) (RG.out z0 (Or.inl rfl))).mono ?_; rintro r w3 ⟨rfl, bL⟩; have b3 := nbelow_trans bD bL))
      replace KK : Hid (Ks (fun x => x = b) wS w3) := KK.out.trans (Ks.of_below b3)
      replace f3 := dcarry_frozen b3 y3 f3
      replace f4 := dcarry_frozen b3 y4 f4
      replace f5 := dcarry_frozen b3 y5 f5
      replace p0 := dcarry_cell b3 p0
      replace p1 := dcarry_cell b3 p1
      replace p2 := dcarry_cell b3 p2
      replace q0 := dcarry_cell b3 q0
      replace q1 := dcarry_cell b3 q1
      replace q2 := dcarry_cell b3 q2
      replace y3 := dcarry_cell b3 y3
      replace y4 := dcarry_cell b3 y4
      replace y5 := dcarry_cell b3 y5
      clear b3 bD
      have bD : Below w3.heap.size w3 w3.drew := (Below.refl _ _).drew
      go_wp2_with fail
      go_region_held3 (fun W => W.cell? ⟨s, 9, none⟩ = some (.bool z3.1) ∧ W.cell? ⟨s, 10, none⟩ = some (.slice z3.2.1 z3.2.2.1 z3.2.2.2.1) ∧ W.cell? ⟨s, 11, none⟩ = some (.int .i64 z3.2.2.2.2.2) ∧ W.cell? ⟨b, 3, none⟩ = some (.bool h.1) ∧ W.cell? ⟨b, 4, none⟩ = some (.slice h.2.1 h.2.2.1 h.2.2.2.1) ∧ W.cell? ⟨b, 5, none⟩ = some (.int .i64 h.2.2.2.2.2))
        (first | (go_keep; done) | ((refine ⟨?_, ?_, ?_, ?_, ?_, ?_⟩ <;> (refine dcarry_cell bL ?_; go_keep)); done))
        (first
          | (go_at_call 29; refine (OC.out z3 h _ ((RT.out z3 (Or.inr (Or.inr (Or.inr rfl))) _ KK.out).keep bD) ((RT.out h HH.out _ KK.out).keep bD) (RG.out z3 (Or.inr (Or.inr (Or.inr rfl)))) (RG.out h HH.out)).mono ?_; rintro r w4 ⟨rfl, bL⟩; have b4 := nbelow_trans bD bL))
      replace KK : Hid (Ks (fun x => x = b) wS w4) := KK.out.trans (Ks.of_below b4)
      replace f3 := dcarry_frozen b4 y3 f3
      replace f4 := dcarry_frozen b4 y4 f4
      replace f5 := dcarry_frozen b4 y5 f5
      replace p0 := dcarry_cell b4 p0
      replace p1 := dcarry_cell b4 p1
      replace p2 := dcarry_cell b4 p2
      replace q0 := dcarry_cell b4 q0
      replace q1 := dcarry_cell b4 q1
      replace q2 := dcarry_cell b4 q2
      replace y3 := dcarry_cell b4 y3
      replace y4 := dcarry_cell b4 y4
      replace y5 := dcarry_cell b4 y5
      clear b4 bD
      by_cases hg : 0 < cmT z3 h
      · have hn := (cmT_gt HU3.out HUH.out).1 hg
        have HN : Hid (n0 ≤ n3 ∧ n3 ≤ n3 ∧ (2 ≤ 4 → n1 ≤ n3) ∧ (3 ≤ 4 → n2 ≤ n3) ∧ (4 ≤ 4 → n3 ≤ n3)) := by
          obtain ⟨g1, g2, g3, g4⟩ := HO.out
          obtain ⟨m0, m1, m2, m3, m4⟩ := HM.out
          refine ⟨by omega, by omega, fun e => by omega, fun e => by omega, fun e => by omega⟩
        clear hn
        go_wp2_with fail
        exact ⟨⟨4, n3, z3, by omega, by omega, by first | rfl | go_num, ⟨KK.out.trans (ks_three (fun x => x = b) _ b rfl _ _ _), ⟨by go_simp, by go_simp, by go_simp⟩, ⟨by go_simp, by go_simp, by go_simp⟩, ⟨by go_simp, by go_simp, by go_simp⟩, (Or.inr (Or.inr (Or.inr rfl))), HU3.out, HN.out⟩⟩, by simp [intOf]⟩
      · have hn : ¬ m < n3 := fun e => hg ((cmT_gt HU3.out HUH.out).2 e)
        have HN : Hid (n0 ≤ m ∧ m ≤ n3 ∧ (2 ≤ 4 → n1 ≤ m) ∧ (3 ≤ 4 → n2 ≤ m) ∧ (4 ≤ 4 → n3 ≤ m)) := by
          obtain ⟨m0, m1, m2, m3, m4⟩ := HM.out
          refine ⟨m0, m1, fun e => by omega, fun e => by omega, fun e => by omega⟩
        clear hn
        go_wp2_with fail
        exact ⟨⟨4, m, h, by omega, by omega, by first | rfl | go_num, ⟨KK.out, ⟨q0, q1, q2⟩, ⟨y3, y4, y5⟩, ⟨f3, f4, f5⟩, HH.out, HUH.out, HN.out⟩⟩, by simp [intOf]⟩
    · subst q
      obtain ⟨⟨z0', z1', z2', z3', z4', z5'⟩, g0, g1, g2, g3, g4, g5⟩ := HZ.out.keepS KK.out hrb
      have HE : Hid (m = n3) := by
        obtain ⟨m0, m1, m2, m3, m4⟩ := HM.out
        have := m4 (by omega)
        show m = n3
        omega
      have bF : Below w.heap.size w wr := ((Ks.of_below bS).trans KK.out).below _ (Nat.le_refl _) (fun x e => by rw [e]; exact hbw)
      go_wp2_with fail
      exact bodyPost_ret (v := ivT z0 h) (by simp [results, Tryz.results56, go_sem, z0', z1', z2', z3', z4', z5']) rfl ⟨h, rfl, HE.out ▸ HUH.out, HH.out, by repeat (first | (with_reducible exact bF) | (with_reducible refine Below.setCell ?_ (by simp) _))⟩

end Go.Proofs.YtkkldnnndlpblaaGreatDoor

namespace Go.Proofs.YtkkldnnndlpblaaGreatDoor
open Go.RowKit Ck

/-- cut outward to 4200 bits -/
theorem dTrim_calls {z h : DT} {n n' W : Nat} (hz : isU z n W) (hh : isU h n' W) (n0 : n ≠ 0) (n1 : n' ≠ 0) (h1 : blen n ≤ W + 16) (h2 : blen n' ≤ W + 16) (hW : W ≤ 20000) (w : World) (i : inT w z) (j : inT w h) :
    Calls Tryz.prog 55 #[ivT z h, .int .i64 4200] w fun r w' => ∃ (X Y : DT) (c k c' k' : Nat), r = .returned (ivT X Y) ∧ isU X c (W - k) ∧ isU Y c' (W - k') ∧ k ≤ W ∧ k' ≤ W ∧ c * 2 ^ k ≤ n ∧ n' ≤ c' * 2 ^ k' ∧ blen c ≤ W - k + 17 ∧ blen c' ≤ W - k' + 17 ∧ 0 < c ∧ ownT w.heap.size w' X ∧ ownT w.heap.size w' Y ∧ Below w.heap.size w w' := by
  refine (vTrim_calls z h 4200 (hz.right (by omega) hW) (hh.right (by omega) hW) (by omega) w i j).mono ?_
  rintro r w' ⟨al, nl, cl, ah, nh, ch, rfl, e1, e2, O1, O2, hb⟩
  obtain ⟨c, k, a1, a2, a3, -, a5, a6⟩ := uD_cut n W 4200 false n0 h1 (by omega)
  obtain ⟨c', k', b1, b2, -, b4, b5, -⟩ := uD_cut n' W 4200 true n1 h2 (by omega)
  rw [show ((4200 : Nat) : Int) = 4200 from rfl] at a2 b2
  rw [hz.form, a2] at O1 e1 ⊢
  rw [hh.form, b2] at O2 e2 ⊢
  have g1 : greatB (uD c (W - k)).2.1 = false := great_mono (form_amount_le _ _ _) ((great_not c).2 (by omega))
  have g2 : greatB (uD c' (W - k')).2.1 = false := great_mono (form_amount_le _ _ _) ((great_not c').2 (by omega))
  refine ⟨((uD c (W - k)).1, al, nl, cl, wordsOf (uD c (W - k)).2.1, (uD c (W - k)).2.2), ((uD c' (W - k')).1, ah, nh, ch, wordsOf (uD c' (W - k')).2.1, (uD c' (W - k')).2.2), c, k, c', k', rfl, ⟨uD_sign _ _, val_words _, rfl⟩, ⟨uD_sign _ _, val_words _, rfl⟩, a1, b1, a3 rfl, b4 rfl, a5, b5, a6 rfl, ⟨O1, ?_⟩, ⟨O2, ?_⟩, hb⟩
  · show nl ≤ 1024
    rw [e1.out]
    exact (great_len _).1 g1
  · show nh ≤ 1024
    rw [e2.out]
    exact (great_len _).1 g2

/-- four numbers' cells -/
abbrev ob4 (x y u v : DT) : Obj := .cells #[.bool x.1, .slice x.2.1 x.2.2.1 x.2.2.2.1, .int .i64 x.2.2.2.2.2, .bool y.1, .slice y.2.1 y.2.2.1 y.2.2.2.1, .int .i64 y.2.2.2.2.2, .bool u.1, .slice u.2.1 u.2.2.1 u.2.2.2.1, .int .i64 u.2.2.2.2.2, .bool v.1, .slice v.2.1 v.2.2.1 v.2.2.2.1, .int .i64 v.2.2.2.2.2] 26

set_option maxRecDepth 100000 in
set_option maxHeartbeats 8000000 in
theorem docTimes_calls {x y u v : DT} {m m' n n' a b : Nat} (hx : isU x m a) (hy : isU y m' a) (hu : isU u n b) (hv : isU v n' b) (m0 : m ≠ 0) (n0 : n ≠ 0) (hm : m ≤ m') (hn : n ≤ n') (h1 : blen m' ≤ a + 8) (h2 : blen n' ≤ b + 8) (ha : a ≤ 9000) (hb : b ≤ 9000) (w : World) (ix : inT w x) (iy : inT w y) (iu : inT w u) (iv : inT w v) :
    Calls Tryz.prog 24 #[ivT x y, ivT u v, .int .i64 4200] w fun r w' => ∃ (X Y : DT) (c k c' k' : Nat), r = .returned (ivT X Y) ∧ isU X c (a + b - k) ∧ isU Y c' (a + b - k') ∧ k ≤ a + b ∧ k' ≤ a + b ∧ c * 2 ^ k ≤ m * n ∧ m' * n' ≤ c' * 2 ^ k' ∧ blen c ≤ a + b - k + 17 ∧ blen c' ≤ a + b - k' + 17 ∧ 0 < c ∧ ownT w.heap.size w' X ∧ ownT w.heap.size w' Y ∧ Below w.heap.size w w' := by
  have l1 : blen m ≤ a + 8 := Nat.le_trans (blen_mono hm) h1
  have l2 : blen n ≤ b + 8 := Nat.le_trans (blen_mono hn) h2
  have M1 : Hid (∀ W, inT W x → inT W u → _) := fun W i j => dMul_calls hx hu m0 n0 (by omega) (by omega) (by omega) (by omega) W i j
  have M2 : Hid (∀ W, inT W x → inT W v → _) := fun W i j => dMul_calls hx hv m0 (by omega) (by omega) (by omega) (by omega) (by omega) W i j
  have M3 : Hid (∀ W, inT W y → inT W u → _) := fun W i j => dMul_calls hy hu (by omega) n0 (by omega) (by omega) (by omega) (by omega) W i j
  have M4 : Hid (∀ W, inT W y → inT W v → _) := fun W i j => dMul_calls hy hv (by omega) (by omega) (by omega) (by omega) (by omega) (by omega) W i j
  have q1 : m * n ≤ m * n' := Nat.mul_le_mul_left _ hn
  have q2 : m * n ≤ m' * n := Nat.mul_le_mul_right _ hm
  have q3 : m * n' ≤ m' * n' := Nat.mul_le_mul_right _ hm
  have q4 : m' * n ≤ m' * n' := Nat.mul_le_mul_left _ hn
  have q0 : m * n ≠ 0 := Nat.mul_ne_zero m0 n0
  have qb : blen (m' * n') ≤ a + b + 16 := by
    have e : m' * n' < 2 ^ (blen m' + blen n') := by
      rw [Nat.pow_add]
      exact Nat.mul_lt_mul'' (lt_blen m') (lt_blen n')
    have := (blen_le _ _).2 e
    omega
  have qa : blen (m * n) ≤ a + b + 16 := Nat.le_trans (blen_mono (Nat.le_trans q1 q3)) qb
  have SC : Hid (∀ (s : Nat) (z0 z1 z2 z3 : DT), isU z0 (m * n) (a + b) → isU z1 (m * n') (a + b) → isU z2 (m' * n) (a + b) → isU z3 (m' * n') (a + b) → ∀ W, inT W z0 → inT W z1 → inT W z2 → inT W z3 → At3 s 0 1 2 z0 W → At3 s 3 4 5 z1 W → At3 s 6 7 8 z2 W → At3 s 9 10 11 z3 W → _) := fun s z0 z1 z2 z3 u0 u1 u2 u3 W i0 i1 i2 i3 s0 s1 s2 s3 => docSpan_calls s z0 z1 z2 z3 _ _ _ _ _ u0 u1 u2 u3 q1 q2 q3 q4 (by omega) (by omega) W i0 i1 i2 i3 s0 s1 s2 s3
  have TC : Hid (∀ (z h : DT), isU z (m * n) (a + b) → isU h (m' * n') (a + b) → ∀ W, inT W z → inT W h → _) := fun z h uz uh W i j => dTrim_calls uz uh q0 (by omega) qa qb (by omega) W i j
  clear q0 q1 q2 q3 q4 qa qb hx hy hu hv m0 n0 hm hn h1 h2 ha hb l1 l2
  generalize m * n = n0 at *
  generalize m * n' = n1 at *
  generalize m' * n = n2 at *
  generalize m' * n' = n3 at *
  generalize a + b = W at *
  have A1 := att_new x y w
  have b1 := below_one w (obT x y)
  have A2 := att_new u v (w.alloc (obT x y))
  have b2 := below_one (w.alloc (obT x y)) (obT u v)
  have ZR := zi_new ((w.alloc (obT x y)).alloc (obT u v))
  have b3 := below_one ((w.alloc (obT x y)).alloc (obT u v)) (.cells #[.bool false, .slice none 0 0, .int .i64 0, .bool false, .slice none 0 0, .int .i64 0] 28)
  replace A1 := (A1.keep b2).keep b3
  replace A2 := A2.keep b3
  have bA := nbelow_trans (nbelow_trans b1 b2) b3
  replace ix := ix.keep bA
  replace iy := iy.keep bA
  replace iu := iu.keep bA
  replace iv := iv.keep bA
  clear b1 b2 b3
  rw [show (w.alloc (obT x y)).heap.size = w.heap.size + 1 by simp] at A2
  rw [show ((w.alloc (obT x y)).alloc (obT u v)).heap.size = w.heap.size + 1 + 1 by simp] at ZR
  obtain ⟨k0, k1, k2, k3, k4, k5⟩ := A1
  obtain ⟨l0, l1, l2, l3, l4, l5⟩ := A2
  go_enter Tryz.func24, Tryz.ntmps24
  go_wp2_with fail
  generalize ((w.alloc (obT x y)).alloc (obT u v)).alloc (.cells #[.bool false, .slice none 0 0, .int .i64 0, .bool false, .slice none 0 0, .int .i64 0] 28) = wA at *
  have bD : Below wA.heap.size wA wA.drew := (Below.refl _ _).drew
  go_region_held3 (fun W => W.cell? ⟨w.heap.size, 0, none⟩ = some (.bool x.1) ∧ W.cell? ⟨w.heap.size, 1, none⟩ = some (.slice x.2.1 x.2.2.1 x.2.2.2.1) ∧ W.cell? ⟨w.heap.size, 2, none⟩ = some (.int .i64 x.2.2.2.2.2) ∧ W.cell? ⟨w.heap.size, 3, none⟩ = some (.bool y.1) ∧ W.cell? ⟨w.heap.size, 4, none⟩ = some (.slice y.2.1 y.2.2.1 y.2.2.2.1) ∧ W.cell? ⟨w.heap.size, 5, none⟩ = some (.int .i64 y.2.2.2.2.2) ∧ W.cell? ⟨w.heap.size + 1, 0, none⟩ = some (.bool u.1) ∧ W.cell? ⟨w.heap.size + 1, 1, none⟩ = some (.slice u.2.1 u.2.2.1 u.2.2.2.1) ∧ W.cell? ⟨w.heap.size + 1, 2, none⟩ = some (.int .i64 u.2.2.2.2.2) ∧ W.cell? ⟨w.heap.size + 1, 3, none⟩ = some (.bool v.1) ∧ W.cell? ⟨w.heap.size + 1, 4, none⟩ = some (.slice v.2.1 v.2.2.1 v.2.2.2.1) ∧ W.cell? ⟨w.heap.size + 1, 5, none⟩ = some (.int .i64 v.2.2.2.2.2))
    (first | (go_keep; done) | ((refine ⟨?_, ?_, ?_, ?_, ?_, ?_, ?_, ?_, ?_, ?_, ?_, ?_⟩ <;> (refine dcarry_cell bL ?_; go_keep)); done))
    (first
      | (have _q := ga2; go_at_call 54; refine (M4.out _ (iy.keep b6) (iv.keep b6)).mono ?_; rintro r w7 ⟨z3, rfl, u3, o3, bL⟩; have b7 := nbelow_trans b6 bL; replace o2 := o2.keep bL; replace o1 := o1.keep bL; replace o0 := o0.keep bL)
      | (have _q := ga1; go_at_call 54; refine (M3.out _ (iy.keep b5) (iu.keep b5)).mono ?_; rintro r w6 ⟨z2, rfl, u2, o2, bL⟩; have b6 := nbelow_trans b5 bL; replace o1 := o1.keep bL; replace o0 := o0.keep bL; have ga2 := True.intro)
      | (have _q := ga0; go_at_call 54; refine (M2.out _ (ix.keep b4) (iv.keep b4)).mono ?_; rintro r w5 ⟨z1, rfl, u1, o1, bL⟩; have b5 := nbelow_trans b4 bL; replace o0 := o0.keep bL; have ga1 := True.intro)
      | (go_at_call 54; refine (M1.out _ (ix.keep bD) (iu.keep bD)).mono ?_; rintro r w4 ⟨z0, rfl, u0, o0, bL⟩; have b4 := nbelow_trans bD bL; have ga0 := True.intro))
  have t0 : At3 w7.heap.size 0 1 2 z0 (w7.alloc (ob4 z0 z1 z2 z3)) := by refine ⟨?_, ?_, ?_⟩ <;> go_simp
  have t1 : At3 w7.heap.size 3 4 5 z1 (w7.alloc (ob4 z0 z1 z2 z3)) := by refine ⟨?_, ?_, ?_⟩ <;> go_simp
  have t2 : At3 w7.heap.size 6 7 8 z2 (w7.alloc (ob4 z0 z1 z2 z3)) := by refine ⟨?_, ?_, ?_⟩ <;> go_simp
  have t3 : At3 w7.heap.size 9 10 11 z3 (w7.alloc (ob4 z0 z1 z2 z3)) := by refine ⟨?_, ?_, ?_⟩ <;> go_simp
  have bN := below_one w7 (ob4 z0 z1 z2 z3)
  replace o0 := o0.keep bN
  replace o1 := o1.keep bN
  replace o2 := o2.keep bN
  replace o3 := o3.keep bN
  replace ZR := (ZR.keep b7).keep bN
  replace bA := nbelow_trans (nbelow_trans bA b7) bN
  clear b4 b5 b6 b7 bN bD k0 k1 k2 k3 k4 k5 l0 l1 l2 l3 l4 l5 M1 M2 M3 M4 ix iy iu iv
  go_wp2_with fail
  generalize w7.alloc (ob4 z0 z1 z2 z3) = w8 at *
  generalize w7.heap.size = s at *
  refine Calls.mono (SC.out s z0 z1 z2 z3 u0 u1 u2 u3 _ o0.inT o1.inT o2.inT o3.inT t0 t1 t2 t3) ?_
  rintro r w9 ⟨h, rfl, uh, hh, bN⟩
  have ih : inT w9 h := by
    rcases hh with rfl | rfl | rfl | rfl
    · exact (o0.keep bN).inT
    · exact (o1.keep bN).inT
    · exact (o2.keep bN).inT
    · exact (o3.keep bN).inT
  have i0 := (o0.keep bN).inT
  replace ZR := ZR.keep bN
  replace bA := nbelow_trans bA bN
  clear o0 o1 o2 o3 t0 t1 t2 t3 SC bN hh u1 u2 u3
  go_wp2_with fail
  refine Calls.mono (TC.out z0 h u0 uh _ i0 ih) ?_
  rintro r w10 ⟨X, Y, c, k, c', k', rfl, uX, uY, e1, e2, e3, e4, e5, e6, e7, oX, oY, bN⟩
  obtain ⟨⟨y0, y1, y2, y3, y4, y5⟩, f0, f1, f2, f3, f4, f5⟩ := ZR.keep bN
  have sB := bA.size
  replace bA := nbelow_trans bA bN
  have HE : Hid (k ≤ W ∧ k' ≤ W ∧ c * 2 ^ k ≤ n0 ∧ n3 ≤ c' * 2 ^ k' ∧ blen c ≤ W - k + 17 ∧ blen c' ≤ W - k' + 17 ∧ 0 < c) := ⟨e1, e2, e3, e4, e5, e6, e7⟩
  clear e1 e2 e3 e4 e5 e6 e7 TC i0 ih bN
  go_wp2_with fail
  have s6 := six_ofI y0 y1 y2 y3 y4 y5 (fun _ q => by cases q) (fun _ q => by cases q) (fun _ q => by cases q) (fun _ q => by cases q) (fun _ q => by cases q) (fun _ q => by cases q)
  obtain ⟨e1, e2, e3, e4, e5, e6, e7⟩ := HE.out
  exact bodyPost_ret (v := ivT X Y) (by simp [results, Tryz.results24, go_sem, y0, y1, y2, y3, y4, y5]) rfl ⟨X, Y, c, k, c', k', rfl, uX, uY, e1, e2, e3, e4, e5, e6, e7, ⟨ownW_sixI (oX.1.low sB) s6 _ _ _ _ _ _, oX.2⟩, ⟨ownW_sixI (oY.1.low sB) s6 _ _ _ _ _ _, oY.2⟩, by repeat (first | (with_reducible exact bA) | (with_reducible refine Below.setCell ?_ (by simp; try omega) _))⟩

end Go.Proofs.YtkkldnnndlpblaaGreatDoor

namespace Go.Proofs.YtkkldnnndlpblaaGreatDoor
open Go.RowKit Ck

theorem dInt_calls (n : Nat) (i : Int) (hi : i = (n : Int)) (hn : n ≤ 1000) (w : World) :
    Calls Tryz.prog 26 #[.int .i64 i] w fun r w' => ∃ x : DT, r = .returned (dT x) ∧ isU x n 0 ∧ ownT w.heap.size w' x ∧ Below w.heap.size w w' := by
  subst hi
  refine (qint_calls (n : Int) (by omega) w).mono ?_
  rintro r w' ⟨v, rfl, hQ, hb⟩
  have e : intD (n : Int) = uD n 0 := by
    unfold intD uD
    rw [decide_eq_false (by omega)]
    rfl
  rw [e] at hQ
  obtain ⟨x, rfl, hx, ox⟩ := dyq_T hQ (by have := (blen_le n 10).2 (by omega); omega)
  exact ⟨x, rfl, hx, ox, hb⟩

set_option maxRecDepth 100000 in
set_option maxHeartbeats 4000000 in
theorem dPoint_calls {x : DT} {m w : Nat} (hx : isU x m w) (hb : blen m ≤ w + 40) (hw : w ≤ 20000) (W : World) (i : inT W x) :
    Calls Tryz.prog 27 #[dT x] W fun r w' => ∃ X : DT, r = .returned (ivT X X) ∧ isU X m w ∧ ownT W.heap.size w' X ∧ Below W.heap.size W w' := by
  obtain ⟨-, c2, c3⟩ := hx.nz hb hw
  have OC : Hid (∀ V, inT V x → Calls Tryz.prog 59 #[dT x] V fun r w' => ∃ X : DT, r = .returned (dT X) ∧ isU X m w ∧ ownT V.heap.size w' X ∧ Below V.heap.size V w') := fun V j => by
    refine (qOne_calls x.1 x.2.1 x.2.2.1 x.2.2.2.1 x.2.2.2.2.1 x.2.2.2.2.2 V j.1 j.2 (by omega)).mono ?_
    rintro r w' ⟨v, rfl, hQ, hbb⟩
    rw [hx.form] at hQ
    obtain ⟨X, rfl, hX, oX⟩ := dyq_T hQ (by omega)
    exact ⟨X, rfl, hX, oX, hbb⟩
  have bR := nbelow_trans (below_one W (.cells #[.bool x.1, .slice x.2.1 x.2.2.1 x.2.2.2.1, .int .i64 x.2.2.2.2.2] 26)) (below_one (W.alloc (.cells #[.bool x.1, .slice x.2.1 x.2.2.1 x.2.2.2.1, .int .i64 x.2.2.2.2.2] 26)) (.cells #[.bool false, .slice none 0 0, .int .i64 0, .bool false, .slice none 0 0, .int .i64 0] 28))
  have ZR := zi_new (W.alloc (.cells #[.bool x.1, .slice x.2.1 x.2.2.1 x.2.2.2.1, .int .i64 x.2.2.2.2.2] 26))
  rw [show (W.alloc (.cells #[.bool x.1, .slice x.2.1 x.2.2.1 x.2.2.2.1, .int .i64 x.2.2.2.2.2] 26)).heap.size = W.heap.size + 1 by simp] at ZR
  clear hx hb hw c2 c3
  go_enter Tryz.func27, Tryz.ntmps27
  go_wp2_with fail
  generalize (W.alloc (.cells #[.bool x.1, .slice x.2.1 x.2.2.1 x.2.2.2.1, .int .i64 x.2.2.2.2.2] 26)).alloc (.cells #[.bool false, .slice none 0 0, .int .i64 0, .bool false, .slice none 0 0, .int .i64 0] 28) = wA at *
  refine Calls.mono (OC.out _ (i.keep bR)) ?_
  rintro r w1 ⟨X, rfl, uX, oX, bN⟩
  have bM := below_one w1 (.cells #[.bool X.1, .slice X.2.1 X.2.2.1 X.2.2.2.1, .int .i64 X.2.2.2.2.2] 26)
  have sR := bR.size
  replace ZR := (ZR.keep bN).keep bM
  replace bR := nbelow_trans (nbelow_trans bR bN) bM
  have oX2 := oX.keep bM
  obtain ⟨⟨y0, y1, y2, y3, y4, y5⟩, f0, f1, f2, f3, f4, f5⟩ := ZR
  clear bN bM OC i oX
  go_wp2_with fail
  have s6 := six_ofI y0 y1 y2 y3 y4 y5 (fun _ q => by cases q) (fun _ q => by cases q) (fun _ q => by cases q) (fun _ q => by cases q) (fun _ q => by cases q) (fun _ q => by cases q)
  exact bodyPost_ret (v := ivT X X) (by simp [results, Tryz.results27, go_sem, y0, y1, y2, y3, y4, y5]) rfl ⟨X, rfl, uX, ⟨ownW_sixI (oX2.1.low sR) s6 _ _ _ _ _ _, oX2.2⟩, by repeat (first | (with_reducible exact bR) | (with_reducible refine Below.setCell ?_ (by simp; try omega) _))⟩

theorem dScale_calls {x y : DT} {m n w : Nat} (hx : isU x m w) (hy : isU y n w) (h1 : blen m ≤ w + 40) (h2 : blen n ≤ w + 40) (hw : w ≤ 20000) (W : World) (i : inT W x) (j : inT W y) :
    Calls Tryz.prog 28 #[ivT x y, .int .i64 2] W fun r w' => ∃ X Y : DT, r = .returned (ivT X Y) ∧ isU X (m * 2 ^ 2) w ∧ isU Y (n * 2 ^ 2) w ∧ ownT W.heap.size w' X ∧ ownT W.heap.size w' Y ∧ Below W.heap.size W w' := by
  obtain ⟨-, b2, b3⟩ := hx.nz h1 hw
  obtain ⟨-, c2, c3⟩ := hy.nz h2 hw
  refine (vScale_calls x y 2 ⟨by omega, by omega⟩ ⟨by omega, by omega⟩ (by omega) W i j).mono ?_
  rintro r w' ⟨al, nl, cl, ah, nh, ch, rfl, e1, e2, O1, O2, hb⟩
  have u1 : formD x.1 (val x.2.2.2.2.1) (x.2.2.2.2.2 + 2) = uD (m * 2 ^ 2) w := by
    obtain ⟨a1, a2, a3⟩ := hx
    rw [a1, a2, a3]
    exact uD_scale m w 2
  have u2 : formD y.1 (val y.2.2.2.2.1) (y.2.2.2.2.2 + 2) = uD (n * 2 ^ 2) w := by
    obtain ⟨a1, a2, a3⟩ := hy
    rw [a1, a2, a3]
    exact uD_scale n w 2
  rw [u1] at O1 e1 ⊢
  rw [u2] at O2 e2 ⊢
  have k4 : ∀ z, blen z ≤ w + 40 → blen (z * 2 ^ 2) ≤ 65536 := fun z hz => by
    have e : z * 2 ^ 2 < 2 ^ (blen z + 2) := by
      rw [Nat.pow_add]
      exact Nat.mul_lt_mul_of_pos_right (lt_blen z) (by decide)
    have := (blen_le _ _).2 e
    omega
  have g1 : greatB (uD (m * 2 ^ 2) w).2.1 = false := great_mono (form_amount_le _ _ _) ((great_not _).2 (k4 m h1))
  have g2 : greatB (uD (n * 2 ^ 2) w).2.1 = false := great_mono (form_amount_le _ _ _) ((great_not _).2 (k4 n h2))
  refine ⟨((uD (m * 2 ^ 2) w).1, al, nl, cl, wordsOf (uD (m * 2 ^ 2) w).2.1, (uD (m * 2 ^ 2) w).2.2), ((uD (n * 2 ^ 2) w).1, ah, nh, ch, wordsOf (uD (n * 2 ^ 2) w).2.1, (uD (n * 2 ^ 2) w).2.2), rfl, ⟨uD_sign _ _, val_words _, rfl⟩, ⟨uD_sign _ _, val_words _, rfl⟩, ⟨O1, ?_⟩, ⟨O2, ?_⟩, hb⟩
  · show nl ≤ 1024
    rw [e1.out]
    exact (great_len _).1 g1
  · show nh ≤ 1024
    rw [e2.out]
    exact (great_len _).1 g2

set_option maxRecDepth 100000 in
set_option maxHeartbeats 4000000 in
theorem dHas_calls (x y d : DT) (w : World) (hx : inT w x) (hy : inT w y) (hd : inT w d) (hr : rtT x y = true) (rd : rgT d = true) (h1 : cmT x d ≤ 0) (h2 : cmT d y ≤ 0) :
    Calls Tryz.prog 25 #[ivT x y, dT d] w fun r w' => r = .returned (.bool true) ∧ Below w.heap.size w w' := by
  obtain ⟨rx, ry⟩ := rt_rg hr
  have RC : Hid (∀ W, inT W x → inT W y → _) := fun W i j => vRight_calls x y W i j
  rw [hr] at RC
  have RD : Hid (∀ W, inT W d → _) := fun W i => qRight_calls d.1 d.2.1 d.2.2.1 d.2.2.2.1 d.2.2.2.2.1 d.2.2.2.2.2 W i.1 (by have := i.2; omega)
  have rd2 : rightB (val d.2.2.2.2.1) d.2.2.2.2.2 = true := rd
  rw [rd2] at RD
  have O1 : Hid (∀ W, inT W x → inT W d → _) := fun W i j => ordT_calls x d W i j rx rd
  have O2 : Hid (∀ W, inT W d → inT W y → _) := fun W i j => ordT_calls d y W i j rd ry
  generalize cmT x d = e1 at *
  generalize cmT d y = e2 at *
  clear rd2 rd rx ry hr
  have A1 := att_new x y w
  have b1 := below_one w (obT x y)
  have b2 := below_one (w.alloc (obT x y)) (.cells #[.bool d.1, .slice d.2.1 d.2.2.1 d.2.2.2.1, .int .i64 d.2.2.2.2.2] 26)
  have d0 : ((w.alloc (obT x y)).alloc (.cells #[.bool d.1, .slice d.2.1 d.2.2.1 d.2.2.2.1, .int .i64 d.2.2.2.2.2] 26)).cell? ⟨w.heap.size + 1, 0, none⟩ = some (.bool d.1) := by go_simp
  have d1 : ((w.alloc (obT x y)).alloc (.cells #[.bool d.1, .slice d.2.1 d.2.2.1 d.2.2.2.1, .int .i64 d.2.2.2.2.2] 26)).cell? ⟨w.heap.size + 1, 1, none⟩ = some (.slice d.2.1 d.2.2.1 d.2.2.2.1) := by go_simp
  have d2 : ((w.alloc (obT x y)).alloc (.cells #[.bool d.1, .slice d.2.1 d.2.2.1 d.2.2.2.1, .int .i64 d.2.2.2.2.2] 26)).cell? ⟨w.heap.size + 1, 2, none⟩ = some (.int .i64 d.2.2.2.2.2) := by go_simp
  replace A1 := A1.keep b2
  have bA := nbelow_trans b1 b2
  clear b1 b2
  replace hx := hx.keep bA
  replace hy := hy.keep bA
  replace hd := hd.keep bA
  obtain ⟨k0, k1, k2, k3, k4, k5⟩ := A1
  go_enter Tryz.func25, Tryz.ntmps25
  go_wp2_with fail
  generalize (w.alloc (obT x y)).alloc (.cells #[.bool d.1, .slice d.2.1 d.2.2.1 d.2.2.2.1, .int .i64 d.2.2.2.2.2] 26) = wA at *
  refine Calls.mono (RC.out _ hx hy) ?_
  rintro r w1 ⟨rfl, bN⟩
  replace k0 := dcarry_cell bN k0
  replace k1 := dcarry_cell bN k1
  replace k2 := dcarry_cell bN k2
  replace k3 := dcarry_cell bN k3
  replace k4 := dcarry_cell bN k4
  replace k5 := dcarry_cell bN k5
  replace d0 := dcarry_cell bN d0
  replace d1 := dcarry_cell bN d1
  replace d2 := dcarry_cell bN d2
  replace hx := hx.keep bN
  replace hy := hy.keep bN
  replace hd := hd.keep bN
  replace bA := nbelow_trans bA bN
  clear bN
  go_wp2_with fail
  refine Calls.mono (RD.out _ hd) ?_
  rintro r w2 ⟨rfl, bN⟩
  replace k0 := dcarry_cell bN k0
  replace k1 := dcarry_cell bN k1
  replace k2 := dcarry_cell bN k2
  replace k3 := dcarry_cell bN k3
  replace k4 := dcarry_cell bN k4
  replace k5 := dcarry_cell bN k5
  replace d0 := dcarry_cell bN d0
  replace d1 := dcarry_cell bN d1
  replace d2 := dcarry_cell bN d2
  replace hx := hx.keep bN
  replace hy := hy.keep bN
  replace hd := hd.keep bN
  replace bA := nbelow_trans bA bN
  clear bN
  go_wp2_with fail
  refine Calls.mono (O1.out _ hx hd) ?_
  rintro r w3 ⟨rfl, bN⟩
  replace k0 := dcarry_cell bN k0
  replace k1 := dcarry_cell bN k1
  replace k2 := dcarry_cell bN k2
  replace k3 := dcarry_cell bN k3
  replace k4 := dcarry_cell bN k4
  replace k5 := dcarry_cell bN k5
  replace d0 := dcarry_cell bN d0
  replace d1 := dcarry_cell bN d1
  replace d2 := dcarry_cell bN d2
  replace hx := hx.keep bN
  replace hy := hy.keep bN
  replace hd := hd.keep bN
  replace bA := nbelow_trans bA bN
  clear bN
  go_wp2_with fail
  refine Calls.mono (O2.out _ hd hy) ?_
  rintro r w4 ⟨rfl, bN⟩
  go_wp2_with fail
  go_ret
  exact ⟨by simp, nbelow_trans bA bN⟩

def invK (k : Int) : Int := if k = 1 then 5 else if k = 2 then 6 else if k = 3 then 7 else 0

set_option maxRecDepth 100000 in
set_option maxHeartbeats 2000000 in
theorem inv_calls (k : Int) (w : World) :
    Calls Tryz.prog 23 #[.int .u8 k] w fun r w' => r = .returned (.int .u8 (invK k)) ∧ w' = w := by
  by_cases c1 : k = 1
  · subst c1
    go_enter Tryz.func23, Tryz.ntmps23
    go_wp2_with fail
    go_ret
    exact ⟨rfl, rfl⟩
  by_cases c2 : k = 2
  · subst c2
    go_enter Tryz.func23, Tryz.ntmps23
    go_wp2_with fail
    go_ret
    exact ⟨rfl, rfl⟩
  by_cases c3 : k = 3
  · subst c3
    go_enter Tryz.func23, Tryz.ntmps23
    go_wp2_with fail
    go_ret
    exact ⟨rfl, rfl⟩
  have e : Hid (invK k = 0) := by
    show invK k = 0
    unfold invK
    rw [if_neg c1, if_neg c2, if_neg c3]
  go_enter Tryz.func23, Tryz.ntmps23
  go_wp2_with fail
  go_ret
  rw [e.out]
  exact ⟨rfl, rfl⟩

end Go.Proofs.YtkkldnnndlpblaaGreatDoor

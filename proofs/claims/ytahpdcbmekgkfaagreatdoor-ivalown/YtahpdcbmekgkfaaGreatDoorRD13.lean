/- The document's dyadic numbers: the sum; both brought to their one form. -/
import Derived.Deep.CutRange
import Derived.Deep.RegionHeld3
import Derived.Test.YtahpdcbmekgkfaaGreatDoorCR2
import Derived.Test.YtahpdcbmekgkfaaGreatDoorCR
import Derived.Test.YtahpdcbmekgkfaaGreatDoorAL
import Derived.Test.YtahpdcbmekgkfaaGreatDoorTMH
import Derived.Test.YtahpdcbmekgkfaaGreatDoorTMF
import Derived.Test.YtahpdcbmekgkfaaGreatDoorFX
namespace Go.Proofs.YtahpdcbmekgkfaaGreatDoor
open Go.RowKit
theorem bl_alloc {w W : World} (h : Below w.heap.size w W) (o : Obj) : Below w.heap.size w (W.alloc o) := Below.alloc h h.size o
theorem OwnW.set_one {B : Nat} {W : World} {a : Option Addr} {n c : Nat} {xs : List Int} (h : OwnW B W a n c xs) (p : Addr) (v u : Value) (k : W.cell? p = some v) (hv : ∀ z, v ≠ .int .u64 z) : OwnW B (W.setCell p u) a n c xs := by
 obtain ⟨⟨h1, h2, h3, h4⟩, h5⟩ := h
 refine ⟨⟨h1, h2, h3, fun i hi => ?_⟩, fun b off i e hi => ?_⟩
 ·obtain ⟨b, off, e, hb, hc⟩ := h4 i hi
  refine ⟨b, off, e, by simpa using hb, ?_⟩
  rw [World.cell?_setCell_other]
  ·exact hc
  ·intro q
   rw [← q, k] at hc
   injection hc with hc
   exact hv _ hc
 ·obtain ⟨h6, h7⟩ := h5 b off i e hi
  exact ⟨h6, (World.frozen?_setCell W _ _ _).trans h7⟩
theorem OwnW.set_dy {B : Nat} {W : World} {a : Option Addr} {n c : Nat} {xs : List Int} (h : OwnW B W a n c xs) (r : Nat) (b0 : Bool) (s1 : Option Addr) (s2 s3 : Nat) (z : Int) (u0 u1 u2 : Value) (k0 : W.cell? ⟨r, 0, none⟩ = some (.bool b0)) (k1 : W.cell? ⟨r, 1, none⟩ = some (.slice s1 s2 s3)) (k2 : W.cell? ⟨r, 2, none⟩ = some (.int .i64 z)) :
  OwnW B (((W.setCell ⟨r, 0, none⟩ u0).setCell ⟨r, 1, none⟩ u1).setCell ⟨r, 2, none⟩ u2) a n c xs := by
 have o1 : (W.setCell ⟨r, 0, none⟩ u0).cell? ⟨r, 1, none⟩ = some (.slice s1 s2 s3) := (World.cell?_setCell_other W _ _ _ (by simp)).trans k1
 have o2 : ((W.setCell ⟨r, 0, none⟩ u0).setCell ⟨r, 1, none⟩ u1).cell? ⟨r, 2, none⟩ = some (.int .i64 z) := (World.cell?_setCell_other _ _ _ _ (by simp)).trans ((World.cell?_setCell_other W _ _ _ (by simp)).trans k2)
 exact ((h.set_one _ _ u0 k0 (fun z q => by cases q)).set_one _ _ u1 o1 (fun z q => by cases q)).set_one _ _ u2 o2 (fun z q => by cases q)
theorem set3_cell {W : World} {b o r : Nat} {v0 v1 v2 x : Value} (h : W.cell? ⟨b, o, none⟩ = some x) (hne : b ≠ r) : (((W.setCell ⟨r, 0, none⟩ v0).setCell ⟨r, 1, none⟩ v1).setCell ⟨r, 2, none⟩ v2).cell? ⟨b, o, none⟩ = some x := by
 have key : ∀ (V : World) (k : Nat) (v : Value), V.cell? ⟨b, o, none⟩ = some x → (V.setCell ⟨r, k, none⟩ v).cell? ⟨b, o, none⟩ = some x := fun V k v q =>
  (World.cell?_setCell_other V _ _ _ (fun e => by have := congrArg Addr.block e; simp at this; omega)).trans q
 exact key _ _ _ (key _ _ _ (key _ _ _ h))
theorem set3_frozen {W : World} {p : Addr} {r : Nat} {v0 v1 v2 : Value} (h : W.frozen? p = false) : (((W.setCell ⟨r, 0, none⟩ v0).setCell ⟨r, 1, none⟩ v1).setCell ⟨r, 2, none⟩ v2).frozen? p = false := by
 rw [World.frozen?_setCell, World.frozen?_setCell, World.frozen?_setCell]; exact h
theorem set3_same {W : World} {r : Nat} {v0 v1 v2 x0 x1 x2 : Value} (h0 : W.cell? ⟨r, 0, none⟩ = some x0) (h1 : W.cell? ⟨r, 1, none⟩ = some x1) (h2 : W.cell? ⟨r, 2, none⟩ = some x2) :
  (((W.setCell ⟨r, 0, none⟩ v0).setCell ⟨r, 1, none⟩ v1).setCell ⟨r, 2, none⟩ v2).cell? ⟨r, 0, none⟩ = some v0 ∧ (((W.setCell ⟨r, 0, none⟩ v0).setCell ⟨r, 1, none⟩ v1).setCell ⟨r, 2, none⟩ v2).cell? ⟨r, 1, none⟩ = some v1 ∧ (((W.setCell ⟨r, 0, none⟩ v0).setCell ⟨r, 1, none⟩ v1).setCell ⟨r, 2, none⟩ v2).cell? ⟨r, 2, none⟩ = some v2 := by
 refine ⟨?_, ?_, ?_⟩ <;> simp [World.cell?_setCell_other, go_sem, h0, h1, h2]
theorem nz_len {n m : Nat} (h : n = (wO m).length) (h0 : m ≠ 0) : ((n : Int) == 0) = false := by
 have : n ≠ 0 := fun q => h0 ((words_nil _).1 (List.length_eq_zero_iff.1 (by rw [← h]; exact q)))
 simp; omega
theorem form_expb (s : Bool) (m : Nat) (e : Int) (hb : blen m ≤ 10000000) (he : -10000000 ≤ e ∧ e ≤ 10000000) : -20000000 ≤ (formD s m e).2.2 ∧ (formD s m e).2.2 ≤ 20000000 := by
 by_cases h0 : m = 0
 ·rw [h0, form_zero]; exact ⟨by decide, by decide⟩
 ·rw [form_pos s h0]
  have := tz_le_blen m
  show _ ≤ e + (tz m : Int) ∧ e + (tz m : Int) ≤ _
  omega
theorem sum_wordsQ (M N : Nat) : (wO (M + N)).length ≤ (wO M).length + (wO N).length + 1 := by
 refine (words_len2 _ _).2 ((blen_le _ _).2 ?_)
 have h1 := (blen_le _ _).1 ((words_len2 _ M).1 (Nat.le_refl _))
 have h2 := (blen_le _ _).1 ((words_len2 _ N).1 (Nat.le_refl _))
 have h3 : 2 ^ (64 * (wO M).length) ≤ 2 ^ (64 * ((wO M).length + (wO N).length)) := Nat.pow_le_pow_right (by omega) (by omega)
 have h4 : 2 ^ (64 * (wO N).length) ≤ 2 ^ (64 * ((wO M).length + (wO N).length)) := Nat.pow_le_pow_right (by omega) (by omega)
 have h5 : 2 ^ (64 * ((wO M).length + (wO N).length) + 1) ≤ 2 ^ (64 * ((wO M).length + (wO N).length + 1)) := Nat.pow_le_pow_right (by omega) (by omega)
 rw [Nat.pow_succ] at h5
 omega
theorem plus_q (x y : Bool × Nat × Int) (hx : x.2.1 ≠ 0) (hy : y.2.1 ≠ 0) (ee : Int) (he : min x.2.2 y.2.2 = ee) (i : Nat) (hi : x.2.2 - ee = (i : Int)) (j : Nat) (hj : y.2.2 - ee = (j : Int)) :
  sumD x y = if x.1 = y.1 then formD x.1 (x.2.1 * 2 ^ i + y.2.1 * 2 ^ j) ee else if y.2.1 * 2 ^ j ≤ x.2.1 * 2 ^ i then formD x.1 (x.2.1 * 2 ^ i - y.2.1 * 2 ^ j) ee else formD y.1 (y.2.1 * 2 ^ j - x.2.1 * 2 ^ i) ee := by
 unfold sumD addHi
 rw [if_neg hx, if_neg hy]
 by_cases h : x.2.2 < y.2.2
 ·have e1 : ee = x.2.2 := by omega
  have e2 : i = 0 := by omega
  have e3 : (y.2.2 - x.2.2).toNat = j := by omega
  rw [if_pos h, e3, e1, e2, Nat.pow_zero, Nat.mul_one]
  by_cases hs : x.1 = y.1
  ·rw [if_pos hs.symm, if_pos hs, hs, Nat.add_comm]
  ·rw [if_neg (fun q => hs q.symm), if_neg hs]
   by_cases hc : x.2.1 ≤ y.2.1 * 2 ^ j
   ·by_cases hd : y.2.1 * 2 ^ j ≤ x.2.1
    ·have : x.2.1 = y.2.1 * 2 ^ j := by omega
     rw [if_pos hc, if_pos hd, ← this, Nat.sub_self, form_zero, form_zero]
    ·rw [if_pos hc, if_neg hd]
   ·rw [if_neg hc, if_pos (by omega)]
 ·have e1 : ee = y.2.2 := by omega
  have e2 : j = 0 := by omega
  have e3 : (x.2.2 - y.2.2).toNat = i := by omega
  rw [if_neg h, e3, e1, e2, Nat.pow_zero, Nat.mul_one]
def PlusR (w0 wx : World) (X Y : Nat) (x y : Bool × Nat × Int) : Prop := ∃ (a1 : Option Addr) (n1 c1 : Nat) (a2 : Option Addr) (n2 c2 : Nat),
 wx.cell? ⟨X, 0, none⟩ = some (.bool x.1) ∧ wx.cell? ⟨X, 1, none⟩ = some (.slice a1 n1 c1) ∧ wx.cell? ⟨X, 2, none⟩ = some (.int .i64 x.2.2) ∧
 wx.cell? ⟨Y, 0, none⟩ = some (.bool y.1) ∧ wx.cell? ⟨Y, 1, none⟩ = some (.slice a2 n2 c2) ∧ wx.cell? ⟨Y, 2, none⟩ = some (.int .i64 y.2.2) ∧
 Hid (n1 = (wO x.2.1).length) ∧ Hid (n2 = (wO y.2.1).length) ∧ OwnW w0.heap.size wx a1 n1 c1 (wO x.2.1) ∧ OwnW w0.heap.size wx a2 n2 c2 (wO y.2.1) ∧ Below w0.heap.size w0 wx ∧ w0.heap.size ≤ X ∧ w0.heap.size ≤ Y
attribute [local go_sem ↓] Go.wp_at_zero Go.wp_at_succ
set_option maxRecDepth 100000 in
set_option maxHeartbeats 8000000 in
theorem qPlus_calls (s : Bool) (a : Option Addr) (len cap : Nat) (xs : List Int) (e : Int) (t : Bool) (b : Option Addr) (len' cap' : Nat) (ys : List Int) (f : Int) (w : World) (h : IsW w a len cap xs) (hm : len ≤ 17592186044000) (h' : IsW w b len' cap' ys) (hm' : len' ≤ 17592186044000) (he : -10000000 ≤ e ∧ e ≤ 10000000) (hf : -10000000 ≤ f ∧ f ≤ 10000000) (hbx : blen (val xs) ≤ 10000000) (hby : blen (val ys) ≤ 10000000) :
  Calls Tryz.prog 24 #[dyV s a len cap e, dyV t b len' cap' f] w fun r w' => ∃ v', r = .returned v' ∧ DyQ w.heap.size w' v' (sumD (formD s (val xs) e) (formD t (val ys) f)) ∧ Below w.heap.size w w' := by
 have HX : Hid _ := fun w' g => qOne_calls s a len cap xs e w' g hm (by omega)
 have HY : Hid _ := fun w' g => qOne_calls t b len' cap' ys f w' g hm' (by omega)
 have hxb : blen (formD s (val xs) e).2.1 ≤ 10000000 := Nat.le_trans (blen_mono (form_amount_le _ _ _)) hbx
 have hyb : blen (formD t (val ys) f).2.1 ≤ 10000000 := Nat.le_trans (blen_mono (form_amount_le _ _ _)) hby
 have hxe := form_expb s (val xs) e hbx he
 have hye := form_expb t (val ys) f hby hf
 clear hbx hby
 generalize formD s (val xs) e = x at *
 generalize formD t (val ys) f = y at *
 generalize hpp : sumD x y = p
 have HP : Hid _ := hpp
 clear hpp
 have H1 : Hid (IsW w a len cap xs) := h
 have H2 : Hid (IsW w b len' cap' ys) := h'
 clear hm hm' he hf h h'
 have bw0 : Below w.heap.size w (((w.alloc (.cells #[.bool s, .slice a len cap, .int .i64 e] 25)).alloc (.cells #[.bool t, .slice b len' cap', .int .i64 f] 25)).alloc (.cells #[.bool false, .slice none 0 0, .int .i64 0] 25)) := by repeat (first | exact Below.refl _ _ | refine bl_alloc ?_ _)
 obtain ⟨k0, k1, k2, k3, k4, k5⟩ := fX3 w s a len cap e t b len' cap' f _ rfl
 obtain ⟨m0, m1, m2, f0, f1, f2⟩ := zero_dy (w := ((w.alloc (.cells #[.bool s, .slice a len cap, .int .i64 e] 25)).alloc (.cells #[.bool t, .slice b len' cap', .int .i64 f] 25))) (r := w.heap.size + 1 + 1) (W' := (((w.alloc (.cells #[.bool s, .slice a len cap, .int .i64 e] 25)).alloc (.cells #[.bool t, .slice b len' cap', .int .i64 f] 25)).alloc (.cells #[.bool false, .slice none 0 0, .int .i64 0] 25))) (Below.refl _ _) (by simp)
 have hs0 : (((w.alloc (.cells #[.bool s, .slice a len cap, .int .i64 e] 25)).alloc (.cells #[.bool t, .slice b len' cap', .int .i64 f] 25)).alloc (.cells #[.bool false, .slice none 0 0, .int .i64 0] 25)).heap.size = w.heap.size + 1 + 1 + 1 := by simp
 go_enter Tryz.func24, Tryz.ntmps24
 go_upto_region 1 with fail
 generalize (((w.alloc (.cells #[.bool s, .slice a len cap, .int .i64 e] 25)).alloc (.cells #[.bool t, .slice b len' cap', .int .i64 f] 25)).alloc (.cells #[.bool false, .slice none 0 0, .int .i64 0] 25)) = w0 at *
 go_cut [5, 6] from 10 to 13 (fun v5 v6 wx => ∃ X Y : Nat, v5 = .pointer (some ⟨X, 0, none⟩) ∧ v6 = .pointer (some ⟨Y, 0, none⟩) ∧ PlusR w0 wx X Y x y)
 case first =>
  have bw : Below w0.heap.size w0 w0.drew := (Below.refl _ _).drew
  refine wp_region_held (S := fun w' => Below w0.heap.size w0 w') (by kernel_rfl) ?_
  change wpAnyH _ _ _ _ _ _ _ _ (World.drew w0)
  generalize World.drew w0 = wc at *
  refine tk 0 (.agg #[.bool s, .slice a len cap, .int .i64 e]) rfl (by kernel_rfl) (fun _ _ _ h => h) (by rfl) ?y0 bw ?r0
  case y0 =>
   intro ww hS
   have q0 := kC hS k0
   have q1 := kC hS k1
   have q2 := kC hS k2
   clear hS
   go_simp
  try simp only [Act.put, sA]
  refine tk 2 (.agg #[.bool t, .slice b len' cap', .int .i64 f]) rfl (by kernel_rfl) (fun _ _ _ h => h) (by rfl) ?y1 bw ?r1
  case y1 =>
   intro ww hS
   have q3 := kC hS k3
   have q4 := kC hS k4
   have q5 := kC hS k5
   clear hS
   go_simp
  try simp only [Act.put]
  iterate 4
   all_goals
    first
    | (have _q := hP1; have _q := X0; have _q := Y0; refine wpAnyH_ready (rs := [3]) (by kernel_rfl) (by simp) ?_; refine AllReadyH.cons rfl (fun K hK => have mk3 := True.intro; ?_) AllReadyH.nil)
    | (have _q := hP2; have _q := X0; refine wpAnyH_ready (rs := [5]) (by kernel_rfl) (by simp) ?_; refine AllReadyH.cons rfl (fun K hK => have mk5 := True.intro; ?_) AllReadyH.nil)
    | (have _q := hP2; have _q := Y0; refine wpAnyH_ready (rs := [4]) (by kernel_rfl) (by simp) ?_; refine AllReadyH.cons rfl (fun K hK => have mk4 := True.intro; ?_) AllReadyH.nil)
    | (have _q := X0; have _q := Y0; refine wpAnyH_ready (rs := [1]) (by kernel_rfl) (by simp) ?_; refine AllReadyH.cons rfl (fun K hK => have mk1 := True.intro; ?_) AllReadyH.nil)
    | (have _q := hP1; have _q := Y0; refine wpAnyH_ready (rs := [3, 4]) (by kernel_rfl) (by simp) ?_; refine AllReadyH.cons rfl (fun K hK => have mk3 := True.intro; ?_) (AllReadyH.cons rfl (fun K hK => have mk4 := True.intro; ?_) AllReadyH.nil))
    | (have _q := hP1; have _q := X0; refine wpAnyH_ready (rs := [3, 5]) (by kernel_rfl) (by simp) ?_; refine AllReadyH.cons rfl (fun K hK => have mk3 := True.intro; ?_) (AllReadyH.cons rfl (fun K hK => have mk5 := True.intro; ?_) AllReadyH.nil))
    | (have _q := hP2; refine wpAnyH_ready (rs := [4, 5]) (by kernel_rfl) (by simp) ?_; refine AllReadyH.cons rfl (fun K hK => have mk4 := True.intro; ?_) (AllReadyH.cons rfl (fun K hK => have mk5 := True.intro; ?_) AllReadyH.nil))
    | (have _q := Y0; refine wpAnyH_ready (rs := [1, 4]) (by kernel_rfl) (by simp) ?_; refine AllReadyH.cons rfl (fun K hK => have mk1 := True.intro; ?_) (AllReadyH.cons rfl (fun K hK => have mk4 := True.intro; ?_) AllReadyH.nil))
    | (have _q := X0; refine wpAnyH_ready (rs := [1, 5]) (by kernel_rfl) (by simp) ?_; refine AllReadyH.cons rfl (fun K hK => have mk1 := True.intro; ?_) (AllReadyH.cons rfl (fun K hK => have mk5 := True.intro; ?_) AllReadyH.nil))
    | (have _q := hP1; refine wpAnyH_ready (rs := [3, 4, 5]) (by kernel_rfl) (by simp) ?_; refine AllReadyH.cons rfl (fun K hK => have mk3 := True.intro; ?_) (AllReadyH.cons rfl (fun K hK => have mk4 := True.intro; ?_) (AllReadyH.cons rfl (fun K hK => have mk5 := True.intro; ?_) AllReadyH.nil)))
    | (refine wpAnyH_ready (rs := [1, 4, 5]) (by kernel_rfl) (by simp) ?_; refine AllReadyH.cons rfl (fun K hK => have mk1 := True.intro; ?_) (AllReadyH.cons rfl (fun K hK => have mk4 := True.intro; ?_) (AllReadyH.cons rfl (fun K hK => have mk5 := True.intro; ?_) AllReadyH.nil)))
   all_goals
    go_simp
    first
    | (have _m := mk1
       clear mk1 _m
       refine cM (HX.out _ (H1.out.keep (nT bw0 bw))) ?_
       rintro r wn ⟨_, rfl, ⟨a1, n1, c1, rfl, HN1, hO1⟩, bN⟩
       refine hK.out _ _ (nT bw bN) (fun _ => ?_)
       clear hK K
       have hP1 := hO1.low (B' := w0.heap.size) bw.size
       try replace hP2 := hP2.keep bN
       try (replace X3 := kF bN X0 X3; replace X4 := kF bN X1 X4; replace X5 := kF bN X2 X5; replace X0 := kC bN X0; replace X1 := kC bN X1; replace X2 := kC bN X2)
       try (replace Y3 := kF bN Y0 Y3; replace Y4 := kF bN Y1 Y4; replace Y5 := kF bN Y2 Y5; replace Y0 := kC bN Y0; replace Y1 := kC bN Y1; replace Y2 := kC bN Y2)
       replace bw := nT bw bN
       clear bN hO1
       try simp only [Act.put, sA, sZ, sS]
       rename World => wc)
    | (have _m := mk3
       clear mk3 _m
       refine cM (HY.out _ (H2.out.keep (nT bw0 bw))) ?_
       rintro r wn ⟨_, rfl, ⟨a2, n2, c2, rfl, HN2, hO2⟩, bN⟩
       refine hK.out _ _ (nT bw bN) (fun _ => ?_)
       clear hK K
       have hP2 := hO2.low (B' := w0.heap.size) bw.size
       try replace hP1 := hP1.keep bN
       try (replace X3 := kF bN X0 X3; replace X4 := kF bN X1 X4; replace X5 := kF bN X2 X5; replace X0 := kC bN X0; replace X1 := kC bN X1; replace X2 := kC bN X2)
       try (replace Y3 := kF bN Y0 Y3; replace Y4 := kF bN Y1 Y4; replace Y5 := kF bN Y2 Y5; replace Y0 := kC bN Y0; replace Y1 := kC bN Y1; replace Y2 := kC bN Y2)
       replace bw := nT bw bN
       clear bN hO2
       try simp only [Act.put, sA, sZ, sS]
       rename World => wc)
    | (refine hK.out _ _ (bl_alloc bw _) (fun _ => ?_)
       clear hK K
       have bN := below_one wc (.cells #[.bool false, .slice none 0 0, .int .i64 0] 25)
       try replace hP1 := hP1.keep bN
       try replace hP2 := hP2.keep bN
       have ZL : w0.heap.size ≤ wc.heap.size := bw.size
       first
       | (have _m := mk4; obtain ⟨X0, X1, X2, X3, X4, X5⟩ := zero_dy (w := wc) (r := wc.heap.size) (W' := wc.alloc (.cells #[.bool false, .slice none 0 0, .int .i64 0] 25)) (Below.refl _ _) rfl; have XL := ZL; (try (have ne2 : YB ≠ wc.heap.size := Nat.ne_of_lt (World.block_lt_of_cell? _ _ Y0); have ne1 := Ne.symm ne2; replace Y3 := kF bN Y0 Y3; replace Y4 := kF bN Y1 Y4; replace Y5 := kF bN Y2 Y5; replace Y0 := kC bN Y0; replace Y1 := kC bN Y1; replace Y2 := kC bN Y2)); clear mk4 _m; replace bw := bl_alloc bw (.cells #[.bool false, .slice none 0 0, .int .i64 0] 25); clear bN ZL; (try simp only [Act.put, sA, sZ, sS]); generalize wc.alloc (.cells #[.bool false, .slice none 0 0, .int .i64 0] 25) = wn at *; generalize wc.heap.size = XB at *; rename World => wc)
       | (have _m := mk5; obtain ⟨Y0, Y1, Y2, Y3, Y4, Y5⟩ := zero_dy (w := wc) (r := wc.heap.size) (W' := wc.alloc (.cells #[.bool false, .slice none 0 0, .int .i64 0] 25)) (Below.refl _ _) rfl; have YL := ZL; (try (have ne1 : XB ≠ wc.heap.size := Nat.ne_of_lt (World.block_lt_of_cell? _ _ X0); have ne2 := Ne.symm ne1; replace X3 := kF bN X0 X3; replace X4 := kF bN X1 X4; replace X5 := kF bN X2 X5; replace X0 := kC bN X0; replace X1 := kC bN X1; replace X2 := kC bN X2)); clear mk5 _m; replace bw := bl_alloc bw (.cells #[.bool false, .slice none 0 0, .int .i64 0] 25); clear bN ZL; (try simp only [Act.put, sA, sZ, sS]); generalize wc.alloc (.cells #[.bool false, .slice none 0 0, .int .i64 0] 25) = wn at *; generalize wc.heap.size = YB at *; rename World => wc))
  all_goals
   refine rd1 6 (by kernel_rfl) rfl fun K hK => ?_
   go_simp
   have bS : Below w0.heap.size w0 (((wc.setCell ⟨XB, 0, none⟩ (.bool x.1)).setCell ⟨XB, 1, none⟩ (.slice a1 n1 c1)).setCell ⟨XB, 2, none⟩ (.int .i64 x.2.2)) := ((bw.setCell XL _).setCell XL _).setCell XL _
   refine hK.out _ _ bS (fun _ => ?_)
   clear hK K
   replace hP1 := hP1.set_dy _ _ _ _ _ _ (.bool x.1) (.slice a1 n1 c1) (.int .i64 x.2.2) X0 X1 X2
   replace hP2 := hP2.set_dy _ _ _ _ _ _ (.bool x.1) (.slice a1 n1 c1) (.int .i64 x.2.2) X0 X1 X2
   replace Y0 := set3_cell (v0 := .bool x.1) (v1 := .slice a1 n1 c1) (v2 := .int .i64 x.2.2) Y0 (r := XB) ne2
   replace Y1 := set3_cell (v0 := .bool x.1) (v1 := .slice a1 n1 c1) (v2 := .int .i64 x.2.2) Y1 (r := XB) ne2
   replace Y2 := set3_cell (v0 := .bool x.1) (v1 := .slice a1 n1 c1) (v2 := .int .i64 x.2.2) Y2 (r := XB) ne2
   replace Y3 := set3_frozen (r := XB) (v0 := .bool x.1) (v1 := .slice a1 n1 c1) (v2 := .int .i64 x.2.2) Y3
   replace Y4 := set3_frozen (r := XB) (v0 := .bool x.1) (v1 := .slice a1 n1 c1) (v2 := .int .i64 x.2.2) Y4
   replace Y5 := set3_frozen (r := XB) (v0 := .bool x.1) (v1 := .slice a1 n1 c1) (v2 := .int .i64 x.2.2) Y5
   obtain ⟨Z0, Z1, Z2⟩ := set3_same (r := XB) (v0 := .bool x.1) (v1 := .slice a1 n1 c1) (v2 := .int .i64 x.2.2) X0 X1 X2
   clear X0 X1 X2 bw
   try simp only [Act.put, sA, sZ, sS]
   generalize (((wc.setCell ⟨XB, 0, none⟩ (.bool x.1)).setCell ⟨XB, 1, none⟩ (.slice a1 n1 c1)).setCell ⟨XB, 2, none⟩ (.int .i64 x.2.2)) = we at *
   have X0 := Z0
   have X1 := Z1
   have X2 := Z2
   have bw := bS
   clear Z0 Z1 Z2 bS
   refine rd1 7 (by kernel_rfl) rfl fun K hK => ?_
   go_simp
   have bS : Below w0.heap.size w0 (((we.setCell ⟨YB, 0, none⟩ (.bool y.1)).setCell ⟨YB, 1, none⟩ (.slice a2 n2 c2)).setCell ⟨YB, 2, none⟩ (.int .i64 y.2.2)) := ((bw.setCell YL _).setCell YL _).setCell YL _
   refine hK.out _ _ bS (fun _ => ?_)
   clear hK K
   replace hP1 := hP1.set_dy _ _ _ _ _ _ (.bool y.1) (.slice a2 n2 c2) (.int .i64 y.2.2) Y0 Y1 Y2
   replace hP2 := hP2.set_dy _ _ _ _ _ _ (.bool y.1) (.slice a2 n2 c2) (.int .i64 y.2.2) Y0 Y1 Y2
   replace X0 := set3_cell (v0 := .bool y.1) (v1 := .slice a2 n2 c2) (v2 := .int .i64 y.2.2) X0 (r := YB) ne1
   replace X1 := set3_cell (v0 := .bool y.1) (v1 := .slice a2 n2 c2) (v2 := .int .i64 y.2.2) X1 (r := YB) ne1
   replace X2 := set3_cell (v0 := .bool y.1) (v1 := .slice a2 n2 c2) (v2 := .int .i64 y.2.2) X2 (r := YB) ne1
   obtain ⟨Z0, Z1, Z2⟩ := set3_same (r := YB) (v0 := .bool y.1) (v1 := .slice a2 n2 c2) (v2 := .int .i64 y.2.2) Y0 Y1 Y2
   clear Y0 Y1 Y2 bw
   try simp only [Act.put, sA, sZ, sS]
   generalize (((we.setCell ⟨YB, 0, none⟩ (.bool y.1)).setCell ⟨YB, 1, none⟩ (.slice a2 n2 c2)).setCell ⟨YB, 2, none⟩ (.int .i64 y.2.2)) = wf at *
   refine wpAnyH_done (by kernel_rfl) ?_ _
   go_wp2_with fail
   go_meet
   case rel => exact ⟨_, _, rfl, rfl, a1, n1, c1, a2, n2, c2, X0, X1, X2, Z0, Z1, Z2, HN1, HN2, hP1, hP2, bS, XL, YL⟩
 case rest =>
  obtain ⟨X, Y, rfl, rfl, a1, n1, c1, a2, n2, c2, X0, X1, X2, Y0, Y1, Y2, HN1, HN2, hP1, hP2, bx, XL, YL⟩ := hcut
  revert m0 m1 m2 f0 f1 f2; refine zg3 bx ?_; intro m0 m1 m2 f0 f1 f2
  have bwx := nT bw0 bx
  have bxs : w0.heap.size ≤ wc.heap.size := bx.size
  have HS0 : Hid (w0.heap.size = w.heap.size + 1 + 1 + 1) := hs0
  have XN : X ≠ w.heap.size + 1 + 1 := by omega
  have YN : Y ≠ w.heap.size + 1 + 1 := by omega
  clear k0 k1 k2 k3 k4 k5 HX HY H1 H2 bw0 bx hs0 XL YL
  by_cases hx0 : x.2.1 = 0
  ·have es : sumD x y = y := by unfold sumD; rw [if_pos hx0]
   have hn : n1 = 0 := by rw [HN1.out, hx0, words_zero]; rfl
   have hp := HP.out
   rw [es] at hp
   clear HP
   subst hp
   subst hn
   clear es hx0 HN1 hxb hyb hxe hye
   go_wp2_with fail
   refine bodyPost_ret (v := dyV y.1 a2 n2 c2 y.2.2) (by simp [results, Tryz.results24, go_sem, m0, m1, m2]) rfl ⟨_, rfl, ⟨a2, n2, c2, rfl, HN2, ((((hP2).far _ _ (by show w.heap.size + 1 + 1 < _; rw [HS0.out]; omega)).far _ _ (by show w.heap.size + 1 + 1 < _; rw [HS0.out]; omega)).far _ _ (by show w.heap.size + 1 + 1 < _; rw [HS0.out]; omega)).low (by rw [HS0.out]; omega)⟩, ((bwx.setCell (le2 _) _).setCell (le2 _) _).setCell (le2 _) _⟩
  by_cases hy0 : y.2.1 = 0
  ·have es : sumD x y = x := by unfold sumD; rw [if_neg hx0, if_pos hy0]
   have hn : n2 = 0 := by rw [HN2.out, hy0, words_zero]; rfl
   have hn1 : ((n1 : Int) == 0) = false := nz_len HN1.out hx0
   have hp := HP.out
   rw [es] at hp
   clear HP
   subst hp
   subst hn
   clear es hy0 hx0 hxb hyb hxe hye
   go_wp2_with fail
   refine bodyPost_ret (v := dyV x.1 a1 n1 c1 x.2.2) (by simp [results, Tryz.results24, go_sem, m0, m1, m2]) rfl ⟨_, rfl, ⟨a1, n1, c1, rfl, HN1, ((((hP1).far _ _ (by show w.heap.size + 1 + 1 < _; rw [HS0.out]; omega)).far _ _ (by show w.heap.size + 1 + 1 < _; rw [HS0.out]; omega)).far _ _ (by show w.heap.size + 1 + 1 < _; rw [HS0.out]; omega)).low (by rw [HS0.out]; omega)⟩, ((bwx.setCell (le2 _) _).setCell (le2 _) _).setCell (le2 _) _⟩
  have hn1 : ((n1 : Int) == 0) = false := nz_len HN1.out hx0
  have hn2 : ((n2 : Int) == 0) = false := nz_len HN2.out hy0
  have hl1 : n1 ≤ 200000 := by rw [HN1.out]; exact (words_len2 _ _).2 (by omega)
  have hl2 : n2 ≤ 200000 := by rw [HN2.out]; exact (words_len2 _ _).2 (by omega)
  obtain ⟨ee, hee⟩ : ∃ ee : Int, min x.2.2 y.2.2 = ee := ⟨_, rfl⟩
  obtain ⟨i, hi⟩ : ∃ i : Nat, x.2.2 - ee = (i : Int) := ⟨(x.2.2 - ee).toNat, by omega⟩
  obtain ⟨j, hj⟩ : ∃ j : Nat, y.2.2 - ee = (j : Int) := ⟨(y.2.2 - ee).toNat, by omega⟩
  have hib : i ≤ 50000000 := by omega
  have hjb : j ≤ 50000000 := by omega
  have heb : -50000000 ≤ ee ∧ ee ≤ 50000000 := by omega
  have hsum := plus_q x y hx0 hy0 ee hee i hi j hj
  rw [HP.out] at hsum
  have hMb : blen (x.2.1 * 2 ^ i) ≤ 100000000 := by rw [blen_mul _ _ hx0]; omega
  have hNb : blen (y.2.1 * 2 ^ j) ≤ 100000000 := by rw [blen_mul _ _ hy0]; omega
  have SX : Hid _ := fun w' q => nShl_calls a1 n1 c1 i (wO x.2.1) w' q (by omega) (by omega)
  have SY : Hid _ := fun w' q => nShl_calls a2 n2 c2 j (wO y.2.1) w' q (by omega) (by omega)
  rw [val_words] at SX SY
  generalize x.2.1 * 2 ^ i = M at *
  generalize y.2.1 * 2 ^ j = N at *
  have hMl : (wO M).length ≤ 2000000 := (words_len2 _ _).2 (by omega)
  have hNl : (wO N).length ≤ 2000000 := (words_len2 _ _).2 (by omega)
  have hwi : IntKind.i64.wrap (x.2.2 - ee) = (i : Int) := by rw [IntKind.wrap_i64]; omega
  have hwj : IntKind.i64.wrap (y.2.2 - ee) = (j : Int) := by rw [IntKind.wrap_i64]; omega
  have HMl : Hid _ := hMl
  have HNl : Hid _ := hNl
  have HEB : Hid _ := heb
  have HHP1 := hP1.1
  have HHP2 := hP2.1
  clear hi hj HP hx0 hy0 hMb hNb hMl hNl heb hib hjb hl1 hl2 hxb hyb hxe hye hP1 hP2
  go_wp2_with fail
  refine cM (SX.out _ HHP1) ?_
  rintro r w3 ⟨a3, c3, rfl, hO3, b3⟩
  have bS1 : w0.heap.size ≤ w3.heap.size := Nat.le_trans bxs b3.size
  have hI3 : IsW w3 a3 (wO M).length c3 (wO M) := hO3.isW (words_U _)
  replace HHP2 := HHP2.keep b3
  revert m0 m1 m2 f0 f1 f2; refine zg3 b3 ?_; intro m0 m1 m2 f0 f1 f2
  revert X0 X1 X2 Y0 Y1 Y2; refine cc6 b3 ?_; intro X0 X1 X2 Y0 Y1 Y2
  replace bwx := nT bwx b3
  clear b3 hO3 SX HHP1
  go_wp2_with fail
  refine cM (SY.out _ HHP2) ?_
  rintro r w4 ⟨a4, c4, rfl, hO4, b4⟩
  have bS2 : w0.heap.size ≤ w4.heap.size := Nat.le_trans bS1 b4.size
  have hI4 : IsW w4 a4 (wO N).length c4 (wO N) := hO4.isW (words_U _)
  replace hI3 := hI3.keep b4
  revert m0 m1 m2 f0 f1 f2; refine zg3 b4 ?_; intro m0 m1 m2 f0 f1 f2
  revert X0 X1 X2 Y0 Y1 Y2; refine cc6 b4 ?_; intro X0 X1 X2 Y0 Y1 Y2
  replace bwx := nT bwx b4
  clear bS1 bxs b4 hO4 SY HHP2 X1 X2 Y1 Y2
  have bwS : Hid (w0.heap.size ≤ w4.heap.size) := bS2
  clear bS2
  by_cases hs : x.1 = y.1
  ·have hss : (x.1 == y.1) = true := by simp [hs]
   rw [if_pos hs] at hsum
   clear hs
   have AD : Hid _ := fun w' g g' => nAdd_calls a3 a4 (wO M).length c3 (wO N).length c4 (wO M) (wO N) w' g g' (by have := HMl.out; omega) (by have := HNl.out; omega)
   rw [val_words, val_words] at AD
   have HF : Hid _ := fun a' c' w' g => qForm_calls x.1 a' (wO (M + N)).length c' (wO (M + N)) ee w' g (by have h1 := words_len_mono (m := M + N) (n := M + N) (by omega); have h2 := sum_wordsQ M N; have := HMl.out; have := HNl.out; omega) (by have := HEB.out; omega)
   rw [val_words, ← hsum] at HF
   have HW : Hid (AllU (wO (M + N))) := words_U _
   clear hsum hee hwi hwj HMl HNl HEB
   generalize M + N = R at *
   generalize x.1 = qs at *
   go_wp2_with fail
   have bw : Below w4.heap.size w4 w4.drew := (Below.refl _ _).drew
   refine wp_region_held (S := fun w' => w'.cell? ⟨X, 0, none⟩ = some (.bool qs)) (by kernel_rfl) ?_
   change wpAnyH _ _ _ _ _ _ _ _ (World.drew w4)
   have QX := kC bw X0
   generalize World.drew w4 = wd at *
   refine tk 0 (?vt59_0) rfl (by kernel_rfl) (fun _ _ _ h => h) (by rfl) ?yt59_0 QX ?rt59_0
   case yt59_0 => (intro ww hS; go_simp; try with_reducible rfl)
   try simp only [Act.put]
   refine tk 2 (?vt59_2) rfl (by kernel_rfl) (fun _ _ _ h => h) (by rfl) ?yt59_2 QX ?rt59_2
   case yt59_2 => (intro ww hS; go_simp; try with_reducible rfl)
   try simp only [Act.put]
   refine tk 3 (?vt59_3) rfl (by kernel_rfl) (fun _ _ _ h => h) (by rfl) ?yt59_3 QX ?rt59_3
   case yt59_3 => (intro ww hS; go_simp; try with_reducible rfl)
   try simp only [Act.put]
   refine tk 5 (?vt59_5) rfl (by kernel_rfl) (fun _ _ _ h => h) (by rfl) ?yt59_5 QX ?rt59_5
   case yt59_5 => (intro ww hS; go_simp; try with_reducible rfl)
   try simp only [Act.put]
   refine tk 1 (?vt59_1) rfl (by kernel_rfl) (fun _ _ _ h => h) (by rfl) ?yt59_1 QX ?rt59_1
   case yt59_1 => (intro ww hS; go_simp; try with_reducible rfl)
   try simp only [Act.put]
   refine rd1 4 (by kernel_rfl) rfl fun K hK => ?_
   go_simp
   refine cM (AD.out _ (hI3.keep bw) (hI4.keep bw)) ?_
   rintro r w6 ⟨a6, c6, rfl, hO6, b6⟩
   replace QX := kC b6 QX
   refine hK.out _ _ QX (fun _ => ?_)
   clear hK K
   replace bw := nT bw b6
   have hI6 := hO6.isW HW.out
   clear b6 hO6
   try simp only [Act.put, sA, sZ, sS]
   refine rd1 6 (by kernel_rfl) rfl fun K hK => ?_
   go_simp
   refine cM (HF.out _ _ _ hI6) ?_
   rintro r w9 ⟨_, rfl, ⟨a9, n9, c9, rfl, HN9, hO9⟩, b9⟩
   replace QX := kC b9 QX
   refine hK.out _ _ QX (fun _ => ?_)
   clear hK K
   have hO9' := hO9.low (Nat.le_trans bwS.out bw.size)
   replace bw := nT bw b9
   have g0 := kF bw m0 f0
   have g1 := kF bw m1 f1
   have g2 := kF bw m2 f2
   have M0 := kC bw m0
   have M1 := kC bw m1
   have M2 := kC bw m2
   have bw9 := nT bwx bw
   clear b9 hO9 hI6
   try simp only [Act.put, sA, sZ, sS]
   refine rd1 7 (by kernel_rfl) rfl fun K hK => ?_
   go_simp
   refine hK.out _ _ (set3_cell QX XN) (fun _ => ?_)
   clear hK K
   try simp only [Act.put, sA, sZ, sS]
   refine wpAnyH_done (by kernel_rfl) ?_ _
   go_wp2_with fail
   refine bodyPost_ret (v := dyV p.1 a9 n9 c9 p.2.2) (by simp [results, Tryz.results24, go_sem, M0, M1, M2]) rfl ⟨_, rfl, ⟨a9, n9, c9, rfl, HN9, ((((hO9').far _ _ (by show w.heap.size + 1 + 1 < _; rw [HS0.out]; omega)).far _ _ (by show w.heap.size + 1 + 1 < _; rw [HS0.out]; omega)).far _ _ (by show w.heap.size + 1 + 1 < _; rw [HS0.out]; omega)).low (by rw [HS0.out]; omega)⟩, ((bw9.setCell (le2 _) _).setCell (le2 _) _).setCell (le2 _) _⟩
  have hss : (x.1 == y.1) = false := by simp [hs]
  rw [if_neg hs] at hsum
  have CM : Hid _ := fun w' q r => nCmp_calls a3 a4 (wO M).length c3 (wO N).length c4 (wO M) (wO N) w' q r (by have := HMl.out; omega) (by have := HNl.out; omega)
  rw [val_words, val_words] at CM
  by_cases hc : N ≤ M
  ·have hcm : 0 ≤ cmpN M N := by unfold cmpN; rw [if_neg (by omega)]; split <;> decide
   rw [if_pos hc] at hsum
   have HC : Hid _ := hc
   clear hs hc
   generalize cmpN M N = cc at *
   go_wp2_with fail
   refine cM (CM.out _ hI3 hI4) ?_
   rintro r w4 ⟨rfl, rfl⟩
   have AD : Hid _ := fun w' g g' => nSub_calls a3 a4 (wO M).length c3 (wO N).length c4 (wO M) (wO N) w' g g' (by have := HMl.out; omega) (by have := HNl.out; omega) (by rw [val_words, val_words]; exact HC.out)
   rw [val_words, val_words] at AD
   have HF : Hid _ := fun a' c' w' g => qForm_calls x.1 a' (wO (M - N)).length c' (wO (M - N)) ee w' g (by have h1 := words_len_mono (m := M - N) (n := M + N) (by omega); have h2 := sum_wordsQ M N; have := HMl.out; have := HNl.out; omega) (by have := HEB.out; omega)
   rw [val_words, ← hsum] at HF
   have HW : Hid (AllU (wO (M - N))) := words_U _
   clear hsum hee hwi hwj HMl HNl HEB
   generalize M - N = R at *
   generalize x.1 = qs at *
   go_wp2_with fail
   have bw : Below w4.heap.size w4 w4.drew := (Below.refl _ _).drew
   refine wp_region_held (S := fun w' => w'.cell? ⟨X, 0, none⟩ = some (.bool qs)) (by kernel_rfl) ?_
   change wpAnyH _ _ _ _ _ _ _ _ (World.drew w4)
   have QX := kC bw X0
   generalize World.drew w4 = wd at *
   refine tk 0 (?vt60_0) rfl (by kernel_rfl) (fun _ _ _ h => h) (by rfl) ?yt60_0 QX ?rt60_0
   case yt60_0 => (intro ww hS; go_simp; try with_reducible rfl)
   try simp only [Act.put]
   refine tk 2 (?vt60_2) rfl (by kernel_rfl) (fun _ _ _ h => h) (by rfl) ?yt60_2 QX ?rt60_2
   case yt60_2 => (intro ww hS; go_simp; try with_reducible rfl)
   try simp only [Act.put]
   refine tk 3 (?vt60_3) rfl (by kernel_rfl) (fun _ _ _ h => h) (by rfl) ?yt60_3 QX ?rt60_3
   case yt60_3 => (intro ww hS; go_simp; try with_reducible rfl)
   try simp only [Act.put]
   refine tk 5 (?vt60_5) rfl (by kernel_rfl) (fun _ _ _ h => h) (by rfl) ?yt60_5 QX ?rt60_5
   case yt60_5 => (intro ww hS; go_simp; try with_reducible rfl)
   try simp only [Act.put]
   refine tk 1 (?vt60_1) rfl (by kernel_rfl) (fun _ _ _ h => h) (by rfl) ?yt60_1 QX ?rt60_1
   case yt60_1 => (intro ww hS; go_simp; try with_reducible rfl)
   try simp only [Act.put]
   refine rd1 4 (by kernel_rfl) rfl fun K hK => ?_
   go_simp
   refine cM (AD.out _ (hI3.keep bw) (hI4.keep bw)) ?_
   rintro r w6 ⟨a6, c6, rfl, hO6, b6⟩
   replace QX := kC b6 QX
   refine hK.out _ _ QX (fun _ => ?_)
   clear hK K
   replace bw := nT bw b6
   have hI6 := hO6.isW HW.out
   clear b6 hO6
   try simp only [Act.put, sA, sZ, sS]
   refine rd1 6 (by kernel_rfl) rfl fun K hK => ?_
   go_simp
   refine cM (HF.out _ _ _ hI6) ?_
   rintro r w9 ⟨_, rfl, ⟨a9, n9, c9, rfl, HN9, hO9⟩, b9⟩
   replace QX := kC b9 QX
   refine hK.out _ _ QX (fun _ => ?_)
   clear hK K
   have hO9' := hO9.low (Nat.le_trans bwS.out bw.size)
   replace bw := nT bw b9
   have g0 := kF bw m0 f0
   have g1 := kF bw m1 f1
   have g2 := kF bw m2 f2
   have M0 := kC bw m0
   have M1 := kC bw m1
   have M2 := kC bw m2
   have bw9 := nT bwx bw
   clear b9 hO9 hI6
   try simp only [Act.put, sA, sZ, sS]
   refine rd1 7 (by kernel_rfl) rfl fun K hK => ?_
   go_simp
   refine hK.out _ _ (set3_cell QX XN) (fun _ => ?_)
   clear hK K
   try simp only [Act.put, sA, sZ, sS]
   refine wpAnyH_done (by kernel_rfl) ?_ _
   go_wp2_with fail
   refine bodyPost_ret (v := dyV p.1 a9 n9 c9 p.2.2) (by simp [results, Tryz.results24, go_sem, M0, M1, M2]) rfl ⟨_, rfl, ⟨a9, n9, c9, rfl, HN9, ((((hO9').far _ _ (by show w.heap.size + 1 + 1 < _; rw [HS0.out]; omega)).far _ _ (by show w.heap.size + 1 + 1 < _; rw [HS0.out]; omega)).far _ _ (by show w.heap.size + 1 + 1 < _; rw [HS0.out]; omega)).low (by rw [HS0.out]; omega)⟩, ((bw9.setCell (le2 _) _).setCell (le2 _) _).setCell (le2 _) _⟩
  ·have hcm : ¬ 0 ≤ cmpN M N := by unfold cmpN; rw [if_pos (by omega)]; decide
   rw [if_neg hc] at hsum
   have HC : Hid (M ≤ N) := by rw [Hid]; omega
   clear hs hc
   generalize cmpN M N = cc at *
   go_wp2_with fail
   refine cM (CM.out _ hI3 hI4) ?_
   rintro r w4 ⟨rfl, rfl⟩
   have AD : Hid _ := fun w' g g' => nSub_calls a4 a3 (wO N).length c4 (wO M).length c3 (wO N) (wO M) w' g g' (by have := HNl.out; omega) (by have := HMl.out; omega) (by rw [val_words, val_words]; exact HC.out)
   rw [val_words, val_words] at AD
   have HF : Hid _ := fun a' c' w' g => qForm_calls y.1 a' (wO (N - M)).length c' (wO (N - M)) ee w' g (by have h1 := words_len_mono (m := N - M) (n := M + N) (by omega); have h2 := sum_wordsQ M N; have := HMl.out; have := HNl.out; omega) (by have := HEB.out; omega)
   rw [val_words, ← hsum] at HF
   have HW : Hid (AllU (wO (N - M))) := words_U _
   clear hsum hee hwi hwj HMl HNl HEB
   generalize N - M = R at *
   generalize y.1 = qs at *
   go_wp2_with fail
   have bw : Below w4.heap.size w4 w4.drew := (Below.refl _ _).drew
   refine wp_region_held (S := fun w' => w'.cell? ⟨Y, 0, none⟩ = some (.bool qs)) (by kernel_rfl) ?_
   change wpAnyH _ _ _ _ _ _ _ _ (World.drew w4)
   have QX := kC bw Y0
   generalize World.drew w4 = wd at *
   refine tk 0 (?vt61_0) rfl (by kernel_rfl) (fun _ _ _ h => h) (by rfl) ?yt61_0 QX ?rt61_0
   case yt61_0 => (intro ww hS; go_simp; try with_reducible rfl)
   try simp only [Act.put]
   refine tk 2 (?vt61_2) rfl (by kernel_rfl) (fun _ _ _ h => h) (by rfl) ?yt61_2 QX ?rt61_2
   case yt61_2 => (intro ww hS; go_simp; try with_reducible rfl)
   try simp only [Act.put]
   refine tk 3 (?vt61_3) rfl (by kernel_rfl) (fun _ _ _ h => h) (by rfl) ?yt61_3 QX ?rt61_3
   case yt61_3 => (intro ww hS; go_simp; try with_reducible rfl)
   try simp only [Act.put]
   refine tk 5 (?vt61_5) rfl (by kernel_rfl) (fun _ _ _ h => h) (by rfl) ?yt61_5 QX ?rt61_5
   case yt61_5 => (intro ww hS; go_simp; try with_reducible rfl)
   try simp only [Act.put]
   refine tk 1 (?vt61_1) rfl (by kernel_rfl) (fun _ _ _ h => h) (by rfl) ?yt61_1 QX ?rt61_1
   case yt61_1 => (intro ww hS; go_simp; try with_reducible rfl)
   try simp only [Act.put]
   refine rd1 4 (by kernel_rfl) rfl fun K hK => ?_
   go_simp
   refine cM (AD.out _ (hI4.keep bw) (hI3.keep bw)) ?_
   rintro r w6 ⟨a6, c6, rfl, hO6, b6⟩
   replace QX := kC b6 QX
   refine hK.out _ _ QX (fun _ => ?_)
   clear hK K
   replace bw := nT bw b6
   have hI6 := hO6.isW HW.out
   clear b6 hO6
   try simp only [Act.put, sA, sZ, sS]
   refine rd1 6 (by kernel_rfl) rfl fun K hK => ?_
   go_simp
   refine cM (HF.out _ _ _ hI6) ?_
   rintro r w9 ⟨_, rfl, ⟨a9, n9, c9, rfl, HN9, hO9⟩, b9⟩
   replace QX := kC b9 QX
   refine hK.out _ _ QX (fun _ => ?_)
   clear hK K
   have hO9' := hO9.low (Nat.le_trans bwS.out bw.size)
   replace bw := nT bw b9
   have g0 := kF bw m0 f0
   have g1 := kF bw m1 f1
   have g2 := kF bw m2 f2
   have M0 := kC bw m0
   have M1 := kC bw m1
   have M2 := kC bw m2
   have bw9 := nT bwx bw
   clear b9 hO9 hI6
   try simp only [Act.put, sA, sZ, sS]
   refine rd1 7 (by kernel_rfl) rfl fun K hK => ?_
   go_simp
   refine hK.out _ _ (set3_cell QX YN) (fun _ => ?_)
   clear hK K
   try simp only [Act.put, sA, sZ, sS]
   refine wpAnyH_done (by kernel_rfl) ?_ _
   go_wp2_with fail
   refine bodyPost_ret (v := dyV p.1 a9 n9 c9 p.2.2) (by simp [results, Tryz.results24, go_sem, M0, M1, M2]) rfl ⟨_, rfl, ⟨a9, n9, c9, rfl, HN9, ((((hO9').far _ _ (by show w.heap.size + 1 + 1 < _; rw [HS0.out]; omega)).far _ _ (by show w.heap.size + 1 + 1 < _; rw [HS0.out]; omega)).far _ _ (by show w.heap.size + 1 + 1 < _; rw [HS0.out]; omega)).low (by rw [HS0.out]; omega)⟩, ((bw9.setCell (le2 _) _).setCell (le2 _) _).setCell (le2 _) _⟩
end Go.Proofs.YtahpdcbmekgkfaaGreatDoor

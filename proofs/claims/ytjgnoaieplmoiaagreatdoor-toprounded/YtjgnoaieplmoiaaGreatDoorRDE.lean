/- The document's dyadic numbers: the sum; both brought to their one form. The program's Shift. The document's dyadic numbers, fourth part: Neg, Twice, Shift; the program's Neg, Abs, Shift in the same words. The document's dyadic numbers: the difference. -/
import Derived.Test.YtjgnoaieplmoiaaGreatDoorRDA
import Derived.Test.YtjgnoaieplmoiaaGreatDoorDGA
import Derived.Deep.CutRange
import Derived.Deep.RegionHeld3

namespace Go.Proofs.YtjgnoaieplmoiaaGreatDoor
open Go.RowKit

theorem bl_alloc {w W : World} (h : Below w.heap.size w W) (o : Obj) : Below w.heap.size w (W.alloc o) := Below.alloc h h.size o
theorem OwnW.set_one {B : Nat} {W : World} {a : Option Addr} {n c : Nat} {xs : List Int} (h : OwnW B W a n c xs) (p : Addr) (v u : Value) (k : W.cell? p = some v) (hv : ∀ z, v ≠ .int .u64 z) : OwnW B (W.setCell p u) a n c xs := by
  obtain ⟨⟨h1, h2, h3, h4⟩, h5⟩ := h
  refine ⟨⟨h1, h2, h3, fun i hi => ?_⟩, fun b off i e hi => ?_⟩
  · obtain ⟨b, off, e, hb, hc⟩ := h4 i hi
    refine ⟨b, off, e, by simpa using hb, ?_⟩
    rw [World.cell?_setCell_other]
    · exact hc
    · intro q
      rw [← q, k] at hc
      injection hc with hc
      exact hv _ hc
  · obtain ⟨h6, h7⟩ := h5 b off i e hi
    exact ⟨h6, (World.frozen?_setCell W _ _ _).trans h7⟩
theorem OwnW.set_dy {B : Nat} {W : World} {a : Option Addr} {n c : Nat} {xs : List Int} (h : OwnW B W a n c xs) (r : Nat) (b0 : Bool) (s1 : Option Addr) (s2 s3 : Nat) (z : Int) (u0 u1 u2 : Value) (k0 : W.cell? ⟨r, 0, none⟩ = some (.bool b0)) (k1 : W.cell? ⟨r, 1, none⟩ = some (.slice s1 s2 s3)) (k2 : W.cell? ⟨r, 2, none⟩ = some (.int .i64 z)) :
    OwnW B (((W.setCell ⟨r, 0, none⟩ u0).setCell ⟨r, 1, none⟩ u1).setCell ⟨r, 2, none⟩ u2) a n c xs := by
  have o1 : (W.setCell ⟨r, 0, none⟩ u0).cell? ⟨r, 1, none⟩ = some (.slice s1 s2 s3) := (World.cell?_setCell_other W _ _ _ (by simp)).trans k1
  have o2 : ((W.setCell ⟨r, 0, none⟩ u0).setCell ⟨r, 1, none⟩ u1).cell? ⟨r, 2, none⟩ = some (.int .i64 z) := (World.cell?_setCell_other _ _ _ _ (by simp)).trans ((World.cell?_setCell_other W _ _ _ (by simp)).trans k2)
  exact ((h.set_one _ _ u0 k0 (fun z q => by cases q)).set_one _ _ u1 o1 (fun z q => by cases q)).set_one _ _ u2 o2 (fun z q => by cases q)
theorem set3_cell {W : World} {b o r : Nat} {v0 v1 v2 x : Value} (h : W.cell? ⟨b, o, none⟩ = some x) (hne : b ≠ r) : (((W.setCell ⟨r, 0, none⟩ v0).setCell ⟨r, 1, none⟩ v1).setCell ⟨r, 2, none⟩ v2).cell? ⟨b, o, none⟩ = some x := by
  have key : ∀ (V : World) (k : Nat) (v : Value), V.cell? ⟨b, o, none⟩ = some x → (V.setCell ⟨r, k, none⟩ v).cell? ⟨b, o, none⟩ = some x := fun V k v q =>
    (World.cell?_setCell_other V _ _ _ (fun e => by have := congrArg Addr.block e; simp at this; omega)).trans q
  exact key _ _ _ (key _ _ _ (key _ _ _ h))
theorem set3_frozen {W : World} {p : Addr} {r : Nat} {v0 v1 v2 : Value} (h : W.frozen? p = false) : (((W.setCell ⟨r, 0, none⟩ v0).setCell ⟨r, 1, none⟩ v1).setCell ⟨r, 2, none⟩ v2).frozen? p = false := by
  rw [World.frozen?_setCell, World.frozen?_setCell, World.frozen?_setCell]; exact h
theorem set3_same {W : World} {r : Nat} {v0 v1 v2 x0 x1 x2 : Value} (h0 : W.cell? ⟨r, 0, none⟩ = some x0) (h1 : W.cell? ⟨r, 1, none⟩ = some x1) (h2 : W.cell? ⟨r, 2, none⟩ = some x2) :
    (((W.setCell ⟨r, 0, none⟩ v0).setCell ⟨r, 1, none⟩ v1).setCell ⟨r, 2, none⟩ v2).cell? ⟨r, 0, none⟩ = some v0 ∧ (((W.setCell ⟨r, 0, none⟩ v0).setCell ⟨r, 1, none⟩ v1).setCell ⟨r, 2, none⟩ v2).cell? ⟨r, 1, none⟩ = some v1 ∧ (((W.setCell ⟨r, 0, none⟩ v0).setCell ⟨r, 1, none⟩ v1).setCell ⟨r, 2, none⟩ v2).cell? ⟨r, 2, none⟩ = some v2 := by
  refine ⟨?_, ?_, ?_⟩ <;> simp [World.cell?_setCell_other, go_sem, h0, h1, h2]
theorem nz_len {n m : Nat} (h : n = (wordsOf m).length) (h0 : m ≠ 0) : ((n : Int) == 0) = false := by
  have : n ≠ 0 := fun q => h0 ((words_nil _).1 (List.length_eq_zero_iff.1 (by rw [← h]; exact q)))
  simp; omega
theorem form_expb (s : Bool) (m : Nat) (e : Int) (hb : blen m ≤ 10000000) (he : -10000000 ≤ e ∧ e ≤ 10000000) : -20000000 ≤ (formD s m e).2.2 ∧ (formD s m e).2.2 ≤ 20000000 := by
  by_cases h0 : m = 0
  · rw [h0, form_zero]; exact ⟨by decide, by decide⟩
  · rw [form_pos s h0]
    have := tz_le_blen m
    show _ ≤ e + (tz m : Int) ∧ e + (tz m : Int) ≤ _
    omega
theorem sum_wordsQ (M N : Nat) : (wordsOf (M + N)).length ≤ (wordsOf M).length + (wordsOf N).length + 1 := by
  refine (words_len2 _ _).2 ((blen_le _ _).2 ?_)
  have h1 := (blen_le _ _).1 ((words_len2 _ M).1 (Nat.le_refl _))
  have h2 := (blen_le _ _).1 ((words_len2 _ N).1 (Nat.le_refl _))
  have h3 : 2 ^ (64 * (wordsOf M).length) ≤ 2 ^ (64 * ((wordsOf M).length + (wordsOf N).length)) := Nat.pow_le_pow_right (by omega) (by omega)
  have h4 : 2 ^ (64 * (wordsOf N).length) ≤ 2 ^ (64 * ((wordsOf M).length + (wordsOf N).length)) := Nat.pow_le_pow_right (by omega) (by omega)
  have h5 : 2 ^ (64 * ((wordsOf M).length + (wordsOf N).length) + 1) ≤ 2 ^ (64 * ((wordsOf M).length + (wordsOf N).length + 1)) := Nat.pow_le_pow_right (by omega) (by omega)
  rw [Nat.pow_succ] at h5
  omega
theorem plus_q (x y : Bool × Nat × Int) (hx : x.2.1 ≠ 0) (hy : y.2.1 ≠ 0) (ee : Int) (he : min x.2.2 y.2.2 = ee) (i : Nat) (hi : x.2.2 - ee = (i : Int)) (j : Nat) (hj : y.2.2 - ee = (j : Int)) :
    sumD x y = if x.1 = y.1 then formD x.1 (x.2.1 * 2 ^ i + y.2.1 * 2 ^ j) ee else if y.2.1 * 2 ^ j ≤ x.2.1 * 2 ^ i then formD x.1 (x.2.1 * 2 ^ i - y.2.1 * 2 ^ j) ee else formD y.1 (y.2.1 * 2 ^ j - x.2.1 * 2 ^ i) ee := by
  unfold sumD addHi
  rw [if_neg hx, if_neg hy]
  by_cases h : x.2.2 < y.2.2
  · have e1 : ee = x.2.2 := by omega
    have e2 : i = 0 := by omega
    have e3 : (y.2.2 - x.2.2).toNat = j := by omega
    rw [if_pos h, e3, e1, e2, Nat.pow_zero, Nat.mul_one]
    by_cases hs : x.1 = y.1
    · rw [if_pos hs.symm, if_pos hs, hs, Nat.add_comm]
    · rw [if_neg (fun q => hs q.symm), if_neg hs]
      by_cases hc : x.2.1 ≤ y.2.1 * 2 ^ j
      · by_cases hd : y.2.1 * 2 ^ j ≤ x.2.1
        · have : x.2.1 = y.2.1 * 2 ^ j := by omega
          rw [if_pos hc, if_pos hd, ← this, Nat.sub_self, form_zero, form_zero]
        · rw [if_pos hc, if_neg hd]
      · rw [if_neg hc, if_pos (by omega)]
  · have e1 : ee = y.2.2 := by omega
    have e2 : j = 0 := by omega
    have e3 : (x.2.2 - y.2.2).toNat = i := by omega
    rw [if_neg h, e3, e1, e2, Nat.pow_zero, Nat.mul_one]
def PlusR (w0 wx : World) (X Y : Nat) (x y : Bool × Nat × Int) : Prop := ∃ (a1 : Option Addr) (n1 c1 : Nat) (a2 : Option Addr) (n2 c2 : Nat),
  wx.cell? ⟨X, 0, none⟩ = some (.bool x.1) ∧ wx.cell? ⟨X, 1, none⟩ = some (.slice a1 n1 c1) ∧ wx.cell? ⟨X, 2, none⟩ = some (.int .i64 x.2.2) ∧
  wx.cell? ⟨Y, 0, none⟩ = some (.bool y.1) ∧ wx.cell? ⟨Y, 1, none⟩ = some (.slice a2 n2 c2) ∧ wx.cell? ⟨Y, 2, none⟩ = some (.int .i64 y.2.2) ∧
  Hid (n1 = (wordsOf x.2.1).length) ∧ Hid (n2 = (wordsOf y.2.1).length) ∧ OwnW w0.heap.size wx a1 n1 c1 (wordsOf x.2.1) ∧ OwnW w0.heap.size wx a2 n2 c2 (wordsOf y.2.1) ∧ Below w0.heap.size w0 wx ∧ w0.heap.size ≤ X ∧ w0.heap.size ≤ Y
attribute [local go_sem ↓] Go.wp_at_zero Go.wp_at_succ


end Go.Proofs.YtjgnoaieplmoiaaGreatDoor

namespace Go.Proofs.YtjgnoaieplmoiaaGreatDoor
open Go.RowKit

attribute [local go_sem ↓] Go.wp_at_zero Go.wp_at_succ

def shiftD (p : Bool × Nat × Int) (i : Int) : Bool × Nat × Int := (p.1, p.2.1, if p.2.1 = 0 then p.2.2 else p.2.2 + i)
theorem shift_form (s : Bool) (m : Nat) (e i : Int) : shiftD (formD s m e) i = formD s m (e + i) := by
  unfold shiftD
  by_cases h : m = 0
  · rw [h, form_zero, form_zero]; rfl
  · have h2 := (odd_part h).1
    rw [form_pos s h, form_pos s h, if_neg (show ¬ m / 2 ^ tz m = 0 from fun q => by rw [q] at h2; omega)]
    show (s, m / 2 ^ tz m, e + (tz m : Int) + i) = _
    rw [Int.add_right_comm]

def shfE (n : Nat) (e i : Int) : Int := if n = 0 then e else e + i




end Go.Proofs.YtjgnoaieplmoiaaGreatDoor

namespace Go.Proofs.YtjgnoaieplmoiaaGreatDoor
open Go.RowKit



/-- What Shift answers. -/
def shB (m : Nat) (e i : Int) : Bool := rightB m e && decide (-65536 ≤ i ∧ i ≤ 65536)
def shE (s : Bool) (m : Nat) (e i : Int) : Int := if shB m e i = true then roomE (formD s m (e + i)) else 2
def shP (s : Bool) (m : Nat) (e i : Int) : Bool × Nat × Int := if shB m e i = true then roomP (formD s m (e + i)) else (false, 0, 0)
theorem sh_no {s : Bool} {m : Nat} {e i : Int} (h : shB m e i = false) : shE s m e i = 2 ∧ shP s m e i = (false, 0, 0) := by unfold shE shP; rw [if_neg (by rw [h]; decide), if_neg (by rw [h]; decide)]; exact ⟨rfl, rfl⟩
theorem sh_yes {s : Bool} {m : Nat} {e i : Int} (h : shB m e i = true) : shE s m e i = roomE (formD s m (e + i)) ∧ shP s m e i = roomP (formD s m (e + i)) := by unfold shE shP; rw [if_pos h, if_pos h]; exact ⟨rfl, rfl⟩


theorem room_neg (p : Bool × Nat × Int) : roomE (negD p) = roomE p := rfl
theorem room_abs (p : Bool × Nat × Int) : roomE (absD p) = roomE p := rfl
/-- Neg and Abs of the one form: the error is Canon's. -/
def ngP (s : Bool) (m : Nat) (e : Int) : Bool × Nat × Int := if canE s m e = 0 then negD (canP s m e) else (false, 0, 0)
theorem roomP_neg (p : Bool × Nat × Int) : roomP (negD p) = if roomE p = 0 then negD (roomP p) else (false, 0, 0) := by
  unfold roomP roomE
  have hb : roomB (negD p) = roomB p := rfl
  rw [hb]
  by_cases h : roomB p = true
  · rw [if_pos h, if_pos h, if_pos h]; rfl
  · rw [if_neg h, if_neg h, if_neg h]; rfl
theorem roomP_abs (p : Bool × Nat × Int) : roomP (absD p) = absD (roomP p) := by
  unfold roomP
  have hb : roomB (absD p) = roomB p := rfl
  rw [hb]
  by_cases h : roomB p = true
  · rw [if_pos h, if_pos h]
  · rw [if_neg h, if_neg h]; rfl
theorem canP_can (s : Bool) (m : Nat) (e : Int) : CanD (canP s m e) := by
  unfold canP roomP
  split
  · split
    · exact form_can s m e
    · exact Or.inl rfl
  · exact Or.inl rfl
theorem neg_can {p : Bool × Nat × Int} (h : CanD p) : formD (!p.1) p.2.1 p.2.2 = negD p := by
  rcases h with h | h
  · rw [h, form_zero]; rfl
  · rw [form_odd _ h]
    unfold negD
    rw [decide_eq_false (by omega)]
    simp
end Go.Proofs.YtjgnoaieplmoiaaGreatDoor

namespace Go.Proofs.YtjgnoaieplmoiaaGreatDoor
open Go.RowKit

theorem form_expc (s : Bool) (m : Nat) (e : Int) (hb : blen m ≤ 5000000) (he : -5000000 ≤ e ∧ e ≤ 5000000) : -10000000 ≤ (formD s m e).2.2 ∧ (formD s m e).2.2 ≤ 10000000 := by
  by_cases h0 : m = 0
  · rw [h0, form_zero]; exact ⟨by decide, by decide⟩
  · rw [form_pos s h0]
    have := tz_le_blen m
    show _ ≤ e + (tz m : Int) ∧ e + (tz m : Int) ≤ _
    omega
attribute [local go_sem ↓] Go.wp_at_zero Go.wp_at_succ

end Go.Proofs.YtjgnoaieplmoiaaGreatDoor

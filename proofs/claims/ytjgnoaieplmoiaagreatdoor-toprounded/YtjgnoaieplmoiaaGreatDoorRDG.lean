/- The program's dyadic numbers: times, Sub, Mul. The document's dyadic numbers: Sign, Top, Order, Cmp, Bits, Size, TopOf. The document's dyadic numbers: the product. The document's dyadic numbers: Add, Sub, Mul; the program's in the same words. The document's dyadic numbers: Order, Cmp, Size, TopOf; the program's Cmp, Size, Top in the same words. The program's dyadic numbers: Size, Top. -/
import Derived.Test.YtjgnoaieplmoiaaGreatDoorDGA
import Derived.Test.YtjgnoaieplmoiaaGreatDoorNMM
import Derived.Test.YtjgnoaieplmoiaaGreatDoorDCan2
import Derived.Deep.CutRange
import Derived.Deep.RegionHeld3
import Derived.Test.YtjgnoaieplmoiaaGreatDoorRDE
import Derived.Test.YtjgnoaieplmoiaaGreatDoorDCmp2
import Derived.Test.YtjgnoaieplmoiaaGreatDoorRDA
import Derived.Test.YtjgnoaieplmoiaaGreatDoorNRM

namespace Go.Proofs.YtjgnoaieplmoiaaGreatDoor
open Go.RowKit

/-- The product of two numbers. -/
def mulD (x y : Bool × Nat × Int) : Bool × Nat × Int := formD (!(x.1 == y.1)) (x.2.1 * y.2.1) (x.2.2 + y.2.2)
theorem NumAt.kept {B : Nat} {w w' : World} {v : Value} {p : Bool × Nat × Int} (h : NumAt B w v p) (hb : Below w.heap.size w w') : NumAt B w' v p := by
  obtain ⟨ao, n, c, h0, h1, h2, h3, h4⟩ := h
  exact ⟨ao, n, c, h0, h1, h2, h3, h4.keep hb⟩
theorem NumAt.lows {B B' : Nat} {w : World} {v : Value} {p : Bool × Nat × Int} (h : NumAt B w v p) (hB : B' ≤ B) : NumAt B' w v p := by
  obtain ⟨ao, n, c, h0, h1, h2, h3, h4⟩ := h
  exact ⟨ao, n, c, h0, h1, h2, h3, h4.low hB⟩
theorem numAt_shape {B : Nat} {w : World} {v : Value} {p : Bool × Nat × Int} (h : NumAt B w v p) : ∃ (s : Bool) (a : Option Addr) (n c : Nat) (e : Int), v = numV s a n c e false ∧ Hid (NumAt B w (numV s a n c e false) p) := by
  obtain ⟨ao, n, c, rfl, h⟩ := h
  exact ⟨p.1, ao, n, c, p.2.2, rfl, ⟨ao, n, c, rfl, h⟩⟩
theorem negD_canon {x : Bool × Nat × Int} (h : CanD x) : CanD (negD x) := by
  rcases h with h | h
  · left; rw [h]; rfl
  · right; exact h
theorem canon_num (s : Bool) (a : Option Addr) (len cap : Nat) (xs : List Int) (e : Int) (w : World) (h : IsW w a len cap xs) (hm : len ≤ 17592186044416) (hT : Tab w) (hr : rightB (val xs) e = true) :
    Calls Tryz.prog 27 #[dyV s a len cap e] w fun r w' => ∃ v, r = .returned v ∧ NumAt w.heap.size w' v (formD s (val xs) e) ∧ Below w.heap.size w w' := by
  have hE := right_exp hr
  refine (canonical_calls s a len cap xs e w h hm hT).mono ?_
  rintro r w' ⟨ao, n, c, e', rfl, HE, HN, HZ, hn, hO, hb⟩
  have h1 := HE.out hE.1 hE.2
  rw [canG_no (rightB_yes hr).1] at h1 HN hO ⊢
  subst h1
  exact ⟨_, rfl, ⟨ao, n, c, rfl, HN, HZ, hn, hO⟩, hb⟩
theorem mul_odd {x y : Bool × Nat × Int} (cx : CanD x) (cy : CanD y) : greatB (x.2.1 * y.2.1) = true → (x.2.1 * y.2.1) % 2 = 1 := by
  intro hg
  rcases cx with q | q
  · rw [q] at hg; simp [great_zero] at hg
  · rcases cy with q' | q'
    · rw [q'] at hg; simp [great_zero] at hg
    · rw [Nat.mul_mod, q, q']


theorem set4_cell {W : World} {b o r : Nat} {v0 v1 v2 v3 x : Value} (h : W.cell? ⟨b, o, none⟩ = some x) (hne : b ≠ r) : ((((W.setCell ⟨r, 0, none⟩ v0).setCell ⟨r, 1, none⟩ v1).setCell ⟨r, 2, none⟩ v2).setCell ⟨r, 3, none⟩ v3).cell? ⟨b, o, none⟩ = some x := cell_set4 h hne
attribute [local go_sem ↓] Go.wp_at_zero Go.wp_at_succ






end Go.Proofs.YtjgnoaieplmoiaaGreatDoor

namespace Go.Proofs.YtjgnoaieplmoiaaGreatDoor
open Go.RowKit

attribute [local go_sem ↓] Go.wp_at_zero Go.wp_at_succ
def sgnQ (s : Bool) (m : Nat) : Int := if m = 0 then 0 else if s = true then -1 else 1
theorem sgnQ_form (s : Bool) (m : Nat) (e : Int) : sgnD (formD s m e) = sgnQ s m := by
  unfold sgnD sgnQ
  by_cases h0 : m = 0
  · rw [h0, form_zero]; rfl
  · have h1 := (odd_part h0).1
    rw [form_pos s h0, if_neg h0, if_neg (fun q => by have q' : m / 2 ^ tz m = 0 := q; rw [q'] at h1; exact absurd h1 (by decide))]
theorem blen_odd {m : Nat} (h0 : m ≠ 0) : blen m = tz m + blen (m / 2 ^ tz m) := by
  have h1 := (odd_part h0).1
  have h2 := (odd_part h0).2
  have h3 := blen_mul (m / 2 ^ tz m) (tz m) (fun q => by rw [q] at h1; exact absurd h1 (by decide))
  rw [h2] at h3
  exact h3



end Go.Proofs.YtjgnoaieplmoiaaGreatDoor

namespace Go.Proofs.YtjgnoaieplmoiaaGreatDoor
open Go.RowKit

theorem prod_words (u v : Nat) : (wordsOf (u * v)).length ≤ (wordsOf u).length + (wordsOf v).length := by
  refine (words_len2 _ _).2 ((blen_le _ _).2 ?_)
  have h1 := (blen_le _ _).1 ((words_len2 _ u).1 (Nat.le_refl _))
  have h2 := (blen_le _ _).1 ((words_len2 _ v).1 (Nat.le_refl _))
  have h3 := Nat.mul_lt_mul'' h1 h2
  rw [← Nat.pow_add] at h3
  rw [Nat.mul_add]
  exact h3
attribute [local go_sem ↓] Go.wp_at_zero Go.wp_at_succ


end Go.Proofs.YtjgnoaieplmoiaaGreatDoor

namespace Go.Proofs.YtjgnoaieplmoiaaGreatDoor
open Go.RowKit

def twE (b : Bool) (p : Bool × Nat × Int) : Int := if b = true then roomE p else 2
def twP (b : Bool) (p : Bool × Nat × Int) : Bool × Nat × Int := if b = true then roomP p else (false, 0, 0)
theorem form_turn (t : Bool) (m : Nat) (f : Int) : formD (!t) m f = negD (formD t m f) := by
  by_cases h0 : m = 0
  · rw [h0, form_zero, form_zero]; rfl
  · rw [form_pos _ h0, form_pos _ h0]
    have h1 := (odd_part h0).1
    have h2 : ¬ m / 2 ^ tz m = 0 := fun q => by rw [q] at h1; exact absurd h1 (by decide)
    unfold negD
    simp [h2]
theorem sumlen (x y : Bool × Nat × Int) (hx : blen x.2.1 ≤ 10000000) (hy : blen y.2.1 ≤ 10000000) (ex : -20000000 ≤ x.2.2 ∧ x.2.2 ≤ 20000000) (ey : -20000000 ≤ y.2.2 ∧ y.2.2 ≤ 20000000) : (wordsOf (sumD x y).2.1).length ≤ 2000001 := by
  have kx : (wordsOf x.2.1).length ≤ 200000 := (words_len2 _ _).2 (by omega)
  have ky : (wordsOf y.2.1).length ≤ 200000 := (words_len2 _ _).2 (by omega)
  by_cases h1 : x.2.1 = 0
  · have : sumD x y = y := by unfold sumD; rw [if_pos h1]
    rw [this]; omega
  · by_cases h2 : y.2.1 = 0
    · have : sumD x y = x := by unfold sumD; rw [if_neg h1, if_pos h2]
      rw [this]; omega
    · obtain ⟨ee, hee⟩ : ∃ ee : Int, min x.2.2 y.2.2 = ee := ⟨_, rfl⟩
      obtain ⟨i, hi⟩ : ∃ i : Nat, x.2.2 - ee = (i : Int) := ⟨(x.2.2 - ee).toNat, by omega⟩
      obtain ⟨j, hj⟩ : ∃ j : Nat, y.2.2 - ee = (j : Int) := ⟨(y.2.2 - ee).toNat, by omega⟩
      have hib : i ≤ 50000000 := by omega
      have hjb : j ≤ 50000000 := by omega
      have hMb : blen (x.2.1 * 2 ^ i) ≤ 60000000 := by rw [blen_mul _ _ h1]; omega
      have hNb : blen (y.2.1 * 2 ^ j) ≤ 60000000 := by rw [blen_mul _ _ h2]; omega
      have hMl : (wordsOf (x.2.1 * 2 ^ i)).length ≤ 1000000 := (words_len2 _ _).2 (by omega)
      have hNl : (wordsOf (y.2.1 * 2 ^ j)).length ≤ 1000000 := (words_len2 _ _).2 (by omega)
      have key : (sumD x y).2.1 ≤ x.2.1 * 2 ^ i + y.2.1 * 2 ^ j := by
        rw [plus_q x y h1 h2 ee hee i hi j hj]
        split
        · exact form_amount_le _ _ _
        · split
          · exact Nat.le_trans (form_amount_le _ _ _) (by omega)
          · exact Nat.le_trans (form_amount_le _ _ _) (by omega)
      have h3 := words_len_mono key
      have h4 := sum_wordsQ (x.2.1 * 2 ^ i) (y.2.1 * 2 ^ j)
      omega
theorem right_blen {m : Nat} {e : Int} (h : rightB m e = true) : blen m ≤ 65536 := (great_not _).1 (rightB_yes h).1
theorem form_blen (s : Bool) {m : Nat} {e : Int} (h : rightB m e = true) : blen (formD s m e).2.1 ≤ 65536 := Nat.le_trans (blen_mono (form_amount_le _ _ _)) (right_blen h)
theorem form_rng (s : Bool) {m : Nat} {e : Int} (h : rightB m e = true) : -20000000 ≤ (formD s m e).2.2 ∧ (formD s m e).2.2 ≤ 20000000 := by
  have h1 := (rightB_yes h).2
  have h2 := right_blen h
  by_cases h0 : m = 0
  · rw [h0, form_zero]; exact ⟨by decide, by decide⟩
  · rw [form_pos s h0]
    have := tz_le_blen m
    show _ ≤ e + (tz m : Int) ∧ e + (tz m : Int) ≤ _
    omega








theorem mul_len (x y : Bool × Nat × Int) (hx : blen x.2.1 ≤ 65536) (hy : blen y.2.1 ≤ 65536) : (wordsOf (mulD x y).2.1).length ≤ 2000001 := by
  have h1 : (wordsOf x.2.1).length ≤ 1024 := (words_len2 _ _).2 (by omega)
  have h2 : (wordsOf y.2.1).length ≤ 1024 := (words_len2 _ _).2 (by omega)
  have h3 := prod_words x.2.1 y.2.1
  have h4 : (wordsOf (mulD x y).2.1).length ≤ (wordsOf (x.2.1 * y.2.1)).length := words_len_mono (form_amount_le _ _ _)
  omega



end Go.Proofs.YtjgnoaieplmoiaaGreatDoor

namespace Go.Proofs.YtjgnoaieplmoiaaGreatDoor
open Go.RowKit

attribute [local go_sem ↓] Go.wp_at_zero Go.wp_at_succ







theorem sgnQ_range (s : Bool) (m : Nat) : -1 ≤ sgnQ s m ∧ sgnQ s m ≤ 1 := by
  unfold sgnQ; split
  · omega
  · split <;> omega
theorem top_form (s : Bool) {m : Nat} (e : Int) (h0 : m ≠ 0) : (formD s m e).2.2 + (blen (formD s m e).2.1 : Int) - 1 = e + (blen m : Int) - 1 := by
  have := blen_odd h0
  rw [form_pos s h0]
  show e + (tz m : Int) + (blen (m / 2 ^ tz m) : Int) - 1 = _
  omega
theorem sgnD_nz {p : Bool × Nat × Int} (h : p.2.1 ≠ 0) : sgnD p = if p.1 = true then -1 else 1 := by unfold sgnD; rw [if_neg h]
theorem cmpN_turn (a b : Nat) : -(cmpN a b) = cmpN b a := by
  unfold cmpN
  rcases Nat.lt_trichotomy a b with h | h | h
  · rw [if_pos h, if_neg (show ¬ b < a by omega), if_pos h]; rfl
  · subst h; rw [if_neg (Nat.lt_irrefl _), if_neg (Nat.lt_irrefl _)]; rfl
  · rw [if_neg (show ¬ a < b by omega), if_pos h, if_pos h]
/-- The order of two numbers of one sign and one top is the sign of their difference. -/
theorem cmp_less (x y : Bool × Nat × Int) (hx : x.2.1 ≠ 0) (hy : y.2.1 ≠ 0) (hs : sgnD x = sgnD y) (ht : x.2.2 + (blen x.2.1 : Int) - 1 = y.2.2 + (blen y.2.1 : Int) - 1) : sgnD (sumD x (negD y)) = cmpD x y := by
  have hss : x.1 = y.1 := by
    rw [sgnD_nz hx, sgnD_nz hy] at hs
    cases h1 : x.1 <;> cases h2 : y.1 <;> rw [h1, h2] at hs <;> first | rfl | exact absurd hs (by decide)
  have hn1 : (negD y).1 = !y.1 := by unfold negD; rw [decide_eq_false hy]; simp
  obtain ⟨ee, hee⟩ : ∃ ee : Int, min x.2.2 (negD y).2.2 = ee := ⟨_, rfl⟩
  have hee' : min x.2.2 y.2.2 = ee := hee
  obtain ⟨i, hi⟩ : ∃ i : Nat, x.2.2 - ee = (i : Int) := ⟨(x.2.2 - ee).toNat, by omega⟩
  obtain ⟨j, hj⟩ : ∃ j : Nat, (negD y).2.2 - ee = (j : Int) := ⟨((negD y).2.2 - ee).toNat, by show y.2.2 - ee = _; have : (negD y).2.2 = y.2.2 := rfl; rw [this]; omega⟩
  have hj' : y.2.2 - ee = (j : Int) := hj
  have key : amtD x.2.1 x.2.2 y.2.1 y.2.2 = cmpN (x.2.1 * 2 ^ i) (y.2.1 * 2 ^ j) := by
    unfold amtD
    rw [if_neg (by omega)]
    by_cases hl : x.2.2 < y.2.2
    · rw [if_pos hl, show (y.2.2 - x.2.2).toNat = j by omega, show i = 0 by omega, Nat.pow_zero, Nat.mul_one]
      exact cmpN_turn _ _
    · rw [if_neg hl, show (x.2.2 - y.2.2).toNat = i by omega, show j = 0 by omega, Nat.pow_zero, Nat.mul_one]
  unfold cmpD
  rw [if_neg (by simpa using hs), if_neg hx, key, plus_q x (negD y) hx hy ee hee i hi j hj, hn1]
  rw [if_neg (by rw [hss]; cases y.1 <;> decide)]
  show sgnD (if y.2.1 * 2 ^ j ≤ x.2.1 * 2 ^ i then formD x.1 (x.2.1 * 2 ^ i - y.2.1 * 2 ^ j) ee else formD (!y.1) (y.2.1 * 2 ^ j - x.2.1 * 2 ^ i) ee) = _
  rw [sgnD_nz hx]
  generalize x.2.1 * 2 ^ i = M
  generalize y.2.1 * 2 ^ j = N
  by_cases hc : N ≤ M
  · rw [if_pos hc, sgnQ_form]
    unfold sgnQ cmpN
    rw [if_neg (show ¬ M < N by omega)]
    by_cases h0 : M - N = 0
    · rw [if_pos h0, if_neg (show ¬ N < M by omega)]; simp
    · rw [if_neg h0, if_pos (show N < M by omega)]; simp
  · rw [if_neg hc, sgnQ_form]
    unfold sgnQ cmpN
    rw [if_pos (show M < N by omega), if_neg (show ¬ N - M = 0 by omega), ← hss]
    cases x.1 <;> decide

def cmE (b : Bool) : Int := if b = true then 0 else 2
def cmV (b : Bool) (x y : Bool × Nat × Int) : Int := if b = true then cmpD x y else 0


theorem pCmp_calls (s : Bool) (a : Option Addr) (len cap : Nat) (xs : List Int) (e : Int) (t : Bool) (b : Option Addr) (len' cap' : Nat) (ys : List Int) (f : Int) (w : World) (h : IsW w a len cap xs) (hm : len ≤ 17592186044000) (h' : IsW w b len' cap' ys) (hm' : len' ≤ 17592186044000) (hT : Tab w) :
    Calls Tryz.prog 44 #[dyV s a len cap e, dyV t b len' cap' f] w fun r w' => r = .returned (.tuple #[.int .i64 (cmV (rightB (val xs) e && rightB (val ys) f) (formD s (val xs) e) (formD t (val ys) f)), .int .i64 (cmE (rightB (val xs) e && rightB (val ys) f))]) ∧ Below w.heap.size w w' := by
  cases hr : (rightB (val xs) e && rightB (val ys) f) with
  | false => exact dcmp_not s a len cap xs e t b len' cap' ys f w h (by omega) h' (by omega) hr
  | true =>
    obtain ⟨r1, r2⟩ := Bool.and_eq_true_iff.1 hr
    exact dcmp_yes s a len cap xs e t b len' cap' ys f w h (by omega) h' (by omega) hT r1 r2

def ftE (m : Nat) (e : Int) : Int := if rightB m e = true then (if m = 0 then 5 else 0) else 2
def szV (m : Nat) (e : Int) : Int := if ftE m e = 0 then (blen m : Int) - (tz m : Int) else 0
def tpV (m : Nat) (e : Int) : Int := if ftE m e = 0 then e + (blen m : Int) - 1 else 0


theorem ft_right {m : Nat} {e : Int} (h : ftE m e = 0) : rightB m e = true ∧ m ≠ 0 := by
  unfold ftE at h
  cases hr : rightB m e with
  | false => rw [hr, if_neg (by decide)] at h; exact absurd h (by decide)
  | true =>
    rw [hr, if_pos rfl] at h
    refine ⟨rfl, fun q => ?_⟩
    rw [if_pos q] at h; exact absurd h (by decide)


end Go.Proofs.YtjgnoaieplmoiaaGreatDoor

namespace Go.Proofs.YtjgnoaieplmoiaaGreatDoor
open Go.RowKit

theorem size_form (s : Bool) {m : Nat} (e : Int) (h0 : m ≠ 0) : (blen (formD s m e).2.1 : Int) = (blen m : Int) - (tz m : Int) := by
  have := blen_odd h0
  rw [form_pos s h0]
  show (blen (m / 2 ^ tz m) : Int) = _
  omega
theorem form_nz (s : Bool) {m : Nat} (e : Int) (h0 : m ≠ 0) : (formD s m e).2.1 ≠ 0 := by
  have h1 := (odd_part h0).1
  rw [form_pos s h0]
  exact fun q => by have q' : m / 2 ^ tz m = 0 := q; rw [q'] at h1; exact absurd h1 (by decide)

set_option maxRecDepth 100000 in
set_option maxHeartbeats 2000000 in
theorem msize_not (s : Bool) (a : Option Addr) (len cap : Nat) (xs : List Int) (e : Int) (w : World) (h : IsW w a len cap xs) (hm : len ≤ 17592186044000) (hr : rightB (val xs) e = false) :
    Calls Tryz.prog 29 #[.func (.func 34) #[] #[], dyV s a len cap e] w fun r w' => r = .returned (.tuple #[.int .i64 (0), .int .i64 (2)]) ∧ Below w.heap.size w w' := by
  have bw : Below w.heap.size w ((w.alloc (.cells #[.bool s, .slice a len cap, .int .i64 e] 25)).alloc (.cells #[.bool s, .slice a len cap, .int .i64 e] 25)) := by repeat (first | exact Below.refl _ _ | refine bl_alloc ?_ _)
  have HR : Hid _ := right1_calls (w.heap.size + 1) s a len cap xs e ((w.alloc (.cells #[.bool s, .slice a len cap, .int .i64 e] 25)).alloc (.cells #[.bool s, .slice a len cap, .int .i64 e] 25)) (h.keep bw) (by omega) (by go_simp) (by go_simp) (by go_simp)
  have k0 : ((w.alloc (.cells #[.bool s, .slice a len cap, .int .i64 e] 25)).alloc (.cells #[.bool s, .slice a len cap, .int .i64 e] 25)).cell? ⟨w.heap.size, 0, none⟩ = some (.bool s) := by go_simp
  have k1 : ((w.alloc (.cells #[.bool s, .slice a len cap, .int .i64 e] 25)).alloc (.cells #[.bool s, .slice a len cap, .int .i64 e] 25)).cell? ⟨w.heap.size, 1, none⟩ = some (.slice a len cap) := by go_simp
  have k2 : ((w.alloc (.cells #[.bool s, .slice a len cap, .int .i64 e] 25)).alloc (.cells #[.bool s, .slice a len cap, .int .i64 e] 25)).cell? ⟨w.heap.size, 2, none⟩ = some (.int .i64 e) := by go_simp
  have H1 : Hid (IsW w a len cap xs) := h
  rw [hr] at HR
  clear hr h hm k0 k1 k2
  go_enter Tryz.func29, Tryz.ntmps29
  go_wp2_with fail
  refine Calls.mono HR.out ?_
  rintro r w1 ⟨rfl, b1⟩
  replace bw := nbelow_trans bw b1
  clear b1
  go_wp2_with fail
  go_ret2
  exact ⟨rfl, bw⟩

set_option maxRecDepth 100000 in
set_option maxHeartbeats 2000000 in
theorem msize_zero (s : Bool) (a : Option Addr) (len cap : Nat) (xs : List Int) (e : Int) (w : World) (h : IsW w a len cap xs) (hm : len ≤ 17592186044000) (hT : Tab w) (hr : rightB (val xs) e = true) (h0 : val xs = 0) :
    Calls Tryz.prog 29 #[.func (.func 34) #[] #[], dyV s a len cap e] w fun r w' => r = .returned (.tuple #[.int .i64 (0), .int .i64 (5)]) ∧ Below w.heap.size w w' := by
  have bw : Below w.heap.size w ((w.alloc (.cells #[.bool s, .slice a len cap, .int .i64 e] 25)).alloc (.cells #[.bool s, .slice a len cap, .int .i64 e] 25)) := by repeat (first | exact Below.refl _ _ | refine bl_alloc ?_ _)
  have HR : Hid _ := right1_calls (w.heap.size + 1) s a len cap xs e ((w.alloc (.cells #[.bool s, .slice a len cap, .int .i64 e] 25)).alloc (.cells #[.bool s, .slice a len cap, .int .i64 e] 25)) (h.keep bw) (by omega) (by go_simp) (by go_simp) (by go_simp)
  have k0 : ((w.alloc (.cells #[.bool s, .slice a len cap, .int .i64 e] 25)).alloc (.cells #[.bool s, .slice a len cap, .int .i64 e] 25)).cell? ⟨w.heap.size, 0, none⟩ = some (.bool s) := by go_simp
  have k1 : ((w.alloc (.cells #[.bool s, .slice a len cap, .int .i64 e] 25)).alloc (.cells #[.bool s, .slice a len cap, .int .i64 e] 25)).cell? ⟨w.heap.size, 1, none⟩ = some (.slice a len cap) := by go_simp
  have k2 : ((w.alloc (.cells #[.bool s, .slice a len cap, .int .i64 e] 25)).alloc (.cells #[.bool s, .slice a len cap, .int .i64 e] 25)).cell? ⟨w.heap.size, 2, none⟩ = some (.int .i64 e) := by go_simp
  have H1 : Hid (IsW w a len cap xs) := h
  rw [hr] at HR
  have HC : Hid _ := fun W g t => canon_num s a len cap xs e W g (by omega) t hr
  have HT0 : Hid (∀ W, Below w.heap.size w W → Tab W) := fun W hW => hT.kept hW
  have hx : (formD s (val xs) e).2.1 = 0 := by rw [h0, form_zero]
  generalize (formD s (val xs) e) = x at *
  have HX : Hid _ := hx
  clear hx h0
  clear hr h hm hT
  go_enter Tryz.func29, Tryz.ntmps29
  go_wp2_with fail
  refine Calls.mono HR.out ?_
  rintro r w1 ⟨rfl, b1⟩
  replace bw := nbelow_trans bw b1
  replace k0 := dcarry_cell b1 k0
  replace k1 := dcarry_cell b1 k1
  replace k2 := dcarry_cell b1 k2
  clear b1
  go_wp2_with fail
  refine Calls.mono (HC.out _ (H1.out.keep bw) (HT0.out _ bw)) ?_
  rintro r w2 ⟨_, rfl, ⟨a2, n2, c2, rfl, HN2, HZ2, hn2, hO2⟩, b2⟩
  have bA := below_one w2 (.cells #[.bool x.1, .slice a2 n2 c2, .int .i64 x.2.2, .bool false] 62)
  replace bw := nbelow_trans (nbelow_trans bw b2) bA
  have o0 : (w2.alloc (.cells #[.bool x.1, .slice a2 n2 c2, .int .i64 x.2.2, .bool false] 62)).cell? ⟨w2.heap.size, 0, none⟩ = some (.bool x.1) := by go_simp
  have o1 : (w2.alloc (.cells #[.bool x.1, .slice a2 n2 c2, .int .i64 x.2.2, .bool false] 62)).cell? ⟨w2.heap.size, 1, none⟩ = some (.slice a2 n2 c2) := by go_simp
  have o2 : (w2.alloc (.cells #[.bool x.1, .slice a2 n2 c2, .int .i64 x.2.2, .bool false] 62)).cell? ⟨w2.heap.size, 2, none⟩ = some (.int .i64 x.2.2) := by go_simp
  have o3 : (w2.alloc (.cells #[.bool x.1, .slice a2 n2 c2, .int .i64 x.2.2, .bool false] 62)).cell? ⟨w2.heap.size, 3, none⟩ = some (.bool false) := by go_simp
  replace hO2 := hO2.keep bA
  clear b2 bA k0 k1 k2 HC HR
  go_wp2_with fail
  generalize w2.alloc (.cells #[.bool x.1, .slice a2 n2 c2, .int .i64 x.2.2, .bool false] 62) = w3 at *
  refine Calls.mono (zero_calls x.1 a2 n2 c2 x.2.2 false w3) ?_
  rintro r w4 ⟨rfl, rfl⟩
  have bB := below_one w3 (.cells #[.bool x.1, .slice a2 n2 c2, .int .i64 x.2.2, .bool false] 62)
  replace bw := nbelow_trans bw bB
  replace o0 := dcarry_cell bB o0
  replace o1 := dcarry_cell bB o1
  replace o2 := dcarry_cell bB o2
  replace o3 := dcarry_cell bB o3
  replace hO2 := hO2.keep bB
  clear bB
  have hn0 : ((n2 : Int) == 0) = true := by rw [HN2.out, HX.out, words_zero]; rfl
  go_wp2_with fail
  go_ret2
  exact ⟨rfl, bw⟩

set_option maxRecDepth 100000 in
set_option maxHeartbeats 2000000 in
theorem msize_yes (s : Bool) (a : Option Addr) (len cap : Nat) (xs : List Int) (e : Int) (w : World) (h : IsW w a len cap xs) (hm : len ≤ 17592186044000) (hT : Tab w) (hr : rightB (val xs) e = true) (h0 : val xs ≠ 0) :
    Calls Tryz.prog 29 #[.func (.func 34) #[] #[], dyV s a len cap e] w fun r w' => r = .returned (.tuple #[.int .i64 ((blen (val xs) : Int) - (tz (val xs) : Int)), .int .i64 (0)]) ∧ Below w.heap.size w w' := by
  have bw : Below w.heap.size w ((w.alloc (.cells #[.bool s, .slice a len cap, .int .i64 e] 25)).alloc (.cells #[.bool s, .slice a len cap, .int .i64 e] 25)) := by repeat (first | exact Below.refl _ _ | refine bl_alloc ?_ _)
  have HR : Hid _ := right1_calls (w.heap.size + 1) s a len cap xs e ((w.alloc (.cells #[.bool s, .slice a len cap, .int .i64 e] 25)).alloc (.cells #[.bool s, .slice a len cap, .int .i64 e] 25)) (h.keep bw) (by omega) (by go_simp) (by go_simp) (by go_simp)
  have k0 : ((w.alloc (.cells #[.bool s, .slice a len cap, .int .i64 e] 25)).alloc (.cells #[.bool s, .slice a len cap, .int .i64 e] 25)).cell? ⟨w.heap.size, 0, none⟩ = some (.bool s) := by go_simp
  have k1 : ((w.alloc (.cells #[.bool s, .slice a len cap, .int .i64 e] 25)).alloc (.cells #[.bool s, .slice a len cap, .int .i64 e] 25)).cell? ⟨w.heap.size, 1, none⟩ = some (.slice a len cap) := by go_simp
  have k2 : ((w.alloc (.cells #[.bool s, .slice a len cap, .int .i64 e] 25)).alloc (.cells #[.bool s, .slice a len cap, .int .i64 e] 25)).cell? ⟨w.heap.size, 2, none⟩ = some (.int .i64 e) := by go_simp
  have H1 : Hid (IsW w a len cap xs) := h
  rw [hr] at HR
  have HC : Hid _ := fun W g t => canon_num s a len cap xs e W g (by omega) t hr
  have HT0 : Hid (∀ W, Below w.heap.size w W → Tab W) := fun W hW => hT.kept hW
  have hx := form_nz s e h0
  have hv := size_form s e h0
  have HG : Hid _ := form_fit s (val xs) e hr
  generalize (formD s (val xs) e) = x at *
  rw [← hv]
  have HX : Hid _ := hx
  clear hx h0 hv
  clear hr h hm hT
  go_enter Tryz.func29, Tryz.ntmps29
  go_wp2_with fail
  refine Calls.mono HR.out ?_
  rintro r w1 ⟨rfl, b1⟩
  replace bw := nbelow_trans bw b1
  replace k0 := dcarry_cell b1 k0
  replace k1 := dcarry_cell b1 k1
  replace k2 := dcarry_cell b1 k2
  clear b1
  go_wp2_with fail
  refine Calls.mono (HC.out _ (H1.out.keep bw) (HT0.out _ bw)) ?_
  rintro r w2 ⟨_, rfl, ⟨a2, n2, c2, rfl, HN2, HZ2, hn2, hO2⟩, b2⟩
  have bA := below_one w2 (.cells #[.bool x.1, .slice a2 n2 c2, .int .i64 x.2.2, .bool false] 62)
  replace bw := nbelow_trans (nbelow_trans bw b2) bA
  have o0 : (w2.alloc (.cells #[.bool x.1, .slice a2 n2 c2, .int .i64 x.2.2, .bool false] 62)).cell? ⟨w2.heap.size, 0, none⟩ = some (.bool x.1) := by go_simp
  have o1 : (w2.alloc (.cells #[.bool x.1, .slice a2 n2 c2, .int .i64 x.2.2, .bool false] 62)).cell? ⟨w2.heap.size, 1, none⟩ = some (.slice a2 n2 c2) := by go_simp
  have o2 : (w2.alloc (.cells #[.bool x.1, .slice a2 n2 c2, .int .i64 x.2.2, .bool false] 62)).cell? ⟨w2.heap.size, 2, none⟩ = some (.int .i64 x.2.2) := by go_simp
  have o3 : (w2.alloc (.cells #[.bool x.1, .slice a2 n2 c2, .int .i64 x.2.2, .bool false] 62)).cell? ⟨w2.heap.size, 3, none⟩ = some (.bool false) := by go_simp
  replace hO2 := hO2.keep bA
  clear b2 bA k0 k1 k2 HC HR
  go_wp2_with fail
  generalize w2.alloc (.cells #[.bool x.1, .slice a2 n2 c2, .int .i64 x.2.2, .bool false] 62) = w3 at *
  refine Calls.mono (zero_calls x.1 a2 n2 c2 x.2.2 false w3) ?_
  rintro r w4 ⟨rfl, rfl⟩
  have bB := below_one w3 (.cells #[.bool x.1, .slice a2 n2 c2, .int .i64 x.2.2, .bool false] 62)
  replace bw := nbelow_trans bw bB
  replace o0 := dcarry_cell bB o0
  replace o1 := dcarry_cell bB o1
  replace o2 := dcarry_cell bB o2
  replace o3 := dcarry_cell bB o3
  replace hO2 := hO2.keep bB
  clear bB
  have hn0 : ((n2 : Int) == 0) = false := nz_len HN2.out HX.out
  go_wp2_with fail
  refine Calls.mono (size_calls x.1 a2 n2 c2 x.2.1 x.2.2 false _ hO2.1 hn2 HG.out) ?_
  rintro r w5 ⟨rfl, b5⟩
  replace bw := nbelow_trans bw b5
  clear b5 o0 o1 o2 o3
  go_wp2_with fail
  go_ret2
  exact ⟨rfl, bw⟩


set_option maxRecDepth 100000 in
set_option maxHeartbeats 2000000 in
theorem mtop_not (s : Bool) (a : Option Addr) (len cap : Nat) (xs : List Int) (e : Int) (w : World) (h : IsW w a len cap xs) (hm : len ≤ 17592186044000) (hr : rightB (val xs) e = false) :
    Calls Tryz.prog 29 #[.func (.func 30) #[] #[], dyV s a len cap e] w fun r w' => r = .returned (.tuple #[.int .i64 (0), .int .i64 (2)]) ∧ Below w.heap.size w w' := by
  have bw : Below w.heap.size w ((w.alloc (.cells #[.bool s, .slice a len cap, .int .i64 e] 25)).alloc (.cells #[.bool s, .slice a len cap, .int .i64 e] 25)) := by repeat (first | exact Below.refl _ _ | refine bl_alloc ?_ _)
  have HR : Hid _ := right1_calls (w.heap.size + 1) s a len cap xs e ((w.alloc (.cells #[.bool s, .slice a len cap, .int .i64 e] 25)).alloc (.cells #[.bool s, .slice a len cap, .int .i64 e] 25)) (h.keep bw) (by omega) (by go_simp) (by go_simp) (by go_simp)
  have k0 : ((w.alloc (.cells #[.bool s, .slice a len cap, .int .i64 e] 25)).alloc (.cells #[.bool s, .slice a len cap, .int .i64 e] 25)).cell? ⟨w.heap.size, 0, none⟩ = some (.bool s) := by go_simp
  have k1 : ((w.alloc (.cells #[.bool s, .slice a len cap, .int .i64 e] 25)).alloc (.cells #[.bool s, .slice a len cap, .int .i64 e] 25)).cell? ⟨w.heap.size, 1, none⟩ = some (.slice a len cap) := by go_simp
  have k2 : ((w.alloc (.cells #[.bool s, .slice a len cap, .int .i64 e] 25)).alloc (.cells #[.bool s, .slice a len cap, .int .i64 e] 25)).cell? ⟨w.heap.size, 2, none⟩ = some (.int .i64 e) := by go_simp
  have H1 : Hid (IsW w a len cap xs) := h
  rw [hr] at HR
  clear hr h hm k0 k1 k2
  go_enter Tryz.func29, Tryz.ntmps29
  go_wp2_with fail
  refine Calls.mono HR.out ?_
  rintro r w1 ⟨rfl, b1⟩
  replace bw := nbelow_trans bw b1
  clear b1
  go_wp2_with fail
  go_ret2
  exact ⟨rfl, bw⟩

set_option maxRecDepth 100000 in
set_option maxHeartbeats 2000000 in
theorem mtop_zero (s : Bool) (a : Option Addr) (len cap : Nat) (xs : List Int) (e : Int) (w : World) (h : IsW w a len cap xs) (hm : len ≤ 17592186044000) (hT : Tab w) (hr : rightB (val xs) e = true) (h0 : val xs = 0) :
    Calls Tryz.prog 29 #[.func (.func 30) #[] #[], dyV s a len cap e] w fun r w' => r = .returned (.tuple #[.int .i64 (0), .int .i64 (5)]) ∧ Below w.heap.size w w' := by
  have bw : Below w.heap.size w ((w.alloc (.cells #[.bool s, .slice a len cap, .int .i64 e] 25)).alloc (.cells #[.bool s, .slice a len cap, .int .i64 e] 25)) := by repeat (first | exact Below.refl _ _ | refine bl_alloc ?_ _)
  have HR : Hid _ := right1_calls (w.heap.size + 1) s a len cap xs e ((w.alloc (.cells #[.bool s, .slice a len cap, .int .i64 e] 25)).alloc (.cells #[.bool s, .slice a len cap, .int .i64 e] 25)) (h.keep bw) (by omega) (by go_simp) (by go_simp) (by go_simp)
  have k0 : ((w.alloc (.cells #[.bool s, .slice a len cap, .int .i64 e] 25)).alloc (.cells #[.bool s, .slice a len cap, .int .i64 e] 25)).cell? ⟨w.heap.size, 0, none⟩ = some (.bool s) := by go_simp
  have k1 : ((w.alloc (.cells #[.bool s, .slice a len cap, .int .i64 e] 25)).alloc (.cells #[.bool s, .slice a len cap, .int .i64 e] 25)).cell? ⟨w.heap.size, 1, none⟩ = some (.slice a len cap) := by go_simp
  have k2 : ((w.alloc (.cells #[.bool s, .slice a len cap, .int .i64 e] 25)).alloc (.cells #[.bool s, .slice a len cap, .int .i64 e] 25)).cell? ⟨w.heap.size, 2, none⟩ = some (.int .i64 e) := by go_simp
  have H1 : Hid (IsW w a len cap xs) := h
  rw [hr] at HR
  have HC : Hid _ := fun W g t => canon_num s a len cap xs e W g (by omega) t hr
  have HT0 : Hid (∀ W, Below w.heap.size w W → Tab W) := fun W hW => hT.kept hW
  have hx : (formD s (val xs) e).2.1 = 0 := by rw [h0, form_zero]
  generalize (formD s (val xs) e) = x at *
  have HX : Hid _ := hx
  clear hx h0
  clear hr h hm hT
  go_enter Tryz.func29, Tryz.ntmps29
  go_wp2_with fail
  refine Calls.mono HR.out ?_
  rintro r w1 ⟨rfl, b1⟩
  replace bw := nbelow_trans bw b1
  replace k0 := dcarry_cell b1 k0
  replace k1 := dcarry_cell b1 k1
  replace k2 := dcarry_cell b1 k2
  clear b1
  go_wp2_with fail
  refine Calls.mono (HC.out _ (H1.out.keep bw) (HT0.out _ bw)) ?_
  rintro r w2 ⟨_, rfl, ⟨a2, n2, c2, rfl, HN2, HZ2, hn2, hO2⟩, b2⟩
  have bA := below_one w2 (.cells #[.bool x.1, .slice a2 n2 c2, .int .i64 x.2.2, .bool false] 62)
  replace bw := nbelow_trans (nbelow_trans bw b2) bA
  have o0 : (w2.alloc (.cells #[.bool x.1, .slice a2 n2 c2, .int .i64 x.2.2, .bool false] 62)).cell? ⟨w2.heap.size, 0, none⟩ = some (.bool x.1) := by go_simp
  have o1 : (w2.alloc (.cells #[.bool x.1, .slice a2 n2 c2, .int .i64 x.2.2, .bool false] 62)).cell? ⟨w2.heap.size, 1, none⟩ = some (.slice a2 n2 c2) := by go_simp
  have o2 : (w2.alloc (.cells #[.bool x.1, .slice a2 n2 c2, .int .i64 x.2.2, .bool false] 62)).cell? ⟨w2.heap.size, 2, none⟩ = some (.int .i64 x.2.2) := by go_simp
  have o3 : (w2.alloc (.cells #[.bool x.1, .slice a2 n2 c2, .int .i64 x.2.2, .bool false] 62)).cell? ⟨w2.heap.size, 3, none⟩ = some (.bool false) := by go_simp
  replace hO2 := hO2.keep bA
  clear b2 bA k0 k1 k2 HC HR
  go_wp2_with fail
  generalize w2.alloc (.cells #[.bool x.1, .slice a2 n2 c2, .int .i64 x.2.2, .bool false] 62) = w3 at *
  refine Calls.mono (zero_calls x.1 a2 n2 c2 x.2.2 false w3) ?_
  rintro r w4 ⟨rfl, rfl⟩
  have bB := below_one w3 (.cells #[.bool x.1, .slice a2 n2 c2, .int .i64 x.2.2, .bool false] 62)
  replace bw := nbelow_trans bw bB
  replace o0 := dcarry_cell bB o0
  replace o1 := dcarry_cell bB o1
  replace o2 := dcarry_cell bB o2
  replace o3 := dcarry_cell bB o3
  replace hO2 := hO2.keep bB
  clear bB
  have hn0 : ((n2 : Int) == 0) = true := by rw [HN2.out, HX.out, words_zero]; rfl
  go_wp2_with fail
  go_ret2
  exact ⟨rfl, bw⟩

set_option maxRecDepth 100000 in
set_option maxHeartbeats 2000000 in
theorem mtop_yes (s : Bool) (a : Option Addr) (len cap : Nat) (xs : List Int) (e : Int) (w : World) (h : IsW w a len cap xs) (hm : len ≤ 17592186044000) (hT : Tab w) (hr : rightB (val xs) e = true) (h0 : val xs ≠ 0) :
    Calls Tryz.prog 29 #[.func (.func 30) #[] #[], dyV s a len cap e] w fun r w' => r = .returned (.tuple #[.int .i64 (e + (blen (val xs) : Int) - 1), .int .i64 (0)]) ∧ Below w.heap.size w w' := by
  have bw : Below w.heap.size w ((w.alloc (.cells #[.bool s, .slice a len cap, .int .i64 e] 25)).alloc (.cells #[.bool s, .slice a len cap, .int .i64 e] 25)) := by repeat (first | exact Below.refl _ _ | refine bl_alloc ?_ _)
  have HR : Hid _ := right1_calls (w.heap.size + 1) s a len cap xs e ((w.alloc (.cells #[.bool s, .slice a len cap, .int .i64 e] 25)).alloc (.cells #[.bool s, .slice a len cap, .int .i64 e] 25)) (h.keep bw) (by omega) (by go_simp) (by go_simp) (by go_simp)
  have k0 : ((w.alloc (.cells #[.bool s, .slice a len cap, .int .i64 e] 25)).alloc (.cells #[.bool s, .slice a len cap, .int .i64 e] 25)).cell? ⟨w.heap.size, 0, none⟩ = some (.bool s) := by go_simp
  have k1 : ((w.alloc (.cells #[.bool s, .slice a len cap, .int .i64 e] 25)).alloc (.cells #[.bool s, .slice a len cap, .int .i64 e] 25)).cell? ⟨w.heap.size, 1, none⟩ = some (.slice a len cap) := by go_simp
  have k2 : ((w.alloc (.cells #[.bool s, .slice a len cap, .int .i64 e] 25)).alloc (.cells #[.bool s, .slice a len cap, .int .i64 e] 25)).cell? ⟨w.heap.size, 2, none⟩ = some (.int .i64 e) := by go_simp
  have H1 : Hid (IsW w a len cap xs) := h
  rw [hr] at HR
  have HC : Hid _ := fun W g t => canon_num s a len cap xs e W g (by omega) t hr
  have HT0 : Hid (∀ W, Below w.heap.size w W → Tab W) := fun W hW => hT.kept hW
  have hx := form_nz s e h0
  have hv := top_form s e h0
  have HG : Hid _ := form_fit s (val xs) e hr
  have HB : Hid _ := form_bounds s (val xs) e hr
  generalize (formD s (val xs) e) = x at *
  rw [← hv]
  have HX : Hid _ := hx
  clear hx h0 hv
  clear hr h hm hT
  go_enter Tryz.func29, Tryz.ntmps29
  go_wp2_with fail
  refine Calls.mono HR.out ?_
  rintro r w1 ⟨rfl, b1⟩
  replace bw := nbelow_trans bw b1
  replace k0 := dcarry_cell b1 k0
  replace k1 := dcarry_cell b1 k1
  replace k2 := dcarry_cell b1 k2
  clear b1
  go_wp2_with fail
  refine Calls.mono (HC.out _ (H1.out.keep bw) (HT0.out _ bw)) ?_
  rintro r w2 ⟨_, rfl, ⟨a2, n2, c2, rfl, HN2, HZ2, hn2, hO2⟩, b2⟩
  have bA := below_one w2 (.cells #[.bool x.1, .slice a2 n2 c2, .int .i64 x.2.2, .bool false] 62)
  replace bw := nbelow_trans (nbelow_trans bw b2) bA
  have o0 : (w2.alloc (.cells #[.bool x.1, .slice a2 n2 c2, .int .i64 x.2.2, .bool false] 62)).cell? ⟨w2.heap.size, 0, none⟩ = some (.bool x.1) := by go_simp
  have o1 : (w2.alloc (.cells #[.bool x.1, .slice a2 n2 c2, .int .i64 x.2.2, .bool false] 62)).cell? ⟨w2.heap.size, 1, none⟩ = some (.slice a2 n2 c2) := by go_simp
  have o2 : (w2.alloc (.cells #[.bool x.1, .slice a2 n2 c2, .int .i64 x.2.2, .bool false] 62)).cell? ⟨w2.heap.size, 2, none⟩ = some (.int .i64 x.2.2) := by go_simp
  have o3 : (w2.alloc (.cells #[.bool x.1, .slice a2 n2 c2, .int .i64 x.2.2, .bool false] 62)).cell? ⟨w2.heap.size, 3, none⟩ = some (.bool false) := by go_simp
  replace hO2 := hO2.keep bA
  clear b2 bA k0 k1 k2 HC HR
  go_wp2_with fail
  generalize w2.alloc (.cells #[.bool x.1, .slice a2 n2 c2, .int .i64 x.2.2, .bool false] 62) = w3 at *
  refine Calls.mono (zero_calls x.1 a2 n2 c2 x.2.2 false w3) ?_
  rintro r w4 ⟨rfl, rfl⟩
  have bB := below_one w3 (.cells #[.bool x.1, .slice a2 n2 c2, .int .i64 x.2.2, .bool false] 62)
  replace bw := nbelow_trans bw bB
  replace o0 := dcarry_cell bB o0
  replace o1 := dcarry_cell bB o1
  replace o2 := dcarry_cell bB o2
  replace o3 := dcarry_cell bB o3
  replace hO2 := hO2.keep bB
  clear bB
  have hn0 : ((n2 : Int) == 0) = false := nz_len HN2.out HX.out
  go_wp2_with fail
  refine Calls.mono (top_calls x.1 a2 n2 c2 x.2.1 x.2.2 false _ hO2.1 hn2 HG.out (by have := HB.out; omega)) ?_
  rintro r w5 ⟨rfl, b5⟩
  replace bw := nbelow_trans bw b5
  clear b5 o0 o1 o2 o3
  go_wp2_with fail
  go_ret2
  exact ⟨rfl, bw⟩

set_option maxRecDepth 100000 in
set_option maxHeartbeats 2000000 in
theorem pTop_calls (s : Bool) (a : Option Addr) (len cap : Nat) (xs : List Int) (e : Int) (w : World) (h : IsW w a len cap xs) (hm : len ≤ 17592186044000) (hT : Tab w) :
    Calls Tryz.prog 11 #[dyV s a len cap e] w fun r w' => r = .returned (.tuple #[.int .i64 (tpV (val xs) e), .int .i64 (ftE (val xs) e)]) ∧ Below w.heap.size w w' := by
  have bw := below_one w (.cells #[.bool s, .slice a len cap, .int .i64 e] 25)
  have HM : Hid (Calls Tryz.prog 29 #[.func (.func 30) #[] #[], dyV s a len cap e] (w.alloc (.cells #[.bool s, .slice a len cap, .int .i64 e] 25)) fun r w' => r = .returned (.tuple #[.int .i64 (tpV (val xs) e), .int .i64 (ftE (val xs) e)]) ∧ Below (w.alloc (.cells #[.bool s, .slice a len cap, .int .i64 e] 25)).heap.size (w.alloc (.cells #[.bool s, .slice a len cap, .int .i64 e] 25)) w') := by
    cases hr : rightB (val xs) e with
    | false =>
      have e1 : ftE (val xs) e = 2 := by unfold ftE; rw [hr]; rfl
      have e2 : tpV (val xs) e = 0 := by unfold tpV; rw [e1]; rfl
      rw [e1, e2]
      exact mtop_not s a len cap xs e _ (h.keep bw) hm hr
    | true =>
      by_cases h0 : val xs = 0
      · have e1 : ftE (val xs) e = 5 := by unfold ftE; rw [hr, if_pos rfl, if_pos h0]
        have e2 : tpV (val xs) e = 0 := by unfold tpV; rw [e1]; rfl
        rw [e1, e2]
        exact mtop_zero s a len cap xs e _ (h.keep bw) hm (hT.kept bw) hr h0
      · have e1 : ftE (val xs) e = 0 := by unfold ftE; rw [hr, if_pos rfl, if_neg h0]
        have e2 : tpV (val xs) e = e + (blen (val xs) : Int) - 1 := by unfold tpV; rw [e1]; rfl
        rw [e1, e2]
        exact mtop_yes s a len cap xs e _ (h.keep bw) hm (hT.kept bw) hr h0
  generalize tpV (val xs) e = rv at *
  generalize ftE (val xs) e = re at *
  clear h hm hT
  go_enter Tryz.func11, Tryz.ntmps11
  go_wp2_with fail
  refine Calls.mono HM.out ?_
  rintro r w1 ⟨rfl, b1⟩
  replace bw := nbelow_trans bw b1
  clear b1
  go_wp2_with fail
  go_ret2
  exact ⟨rfl, bw⟩
end Go.Proofs.YtjgnoaieplmoiaaGreatDoor

/- Package ival: how many bits a natural has; a number's sign; the next number of at most p bits, whatever its exponent. Package ival: the order of two numbers, whatever their exponents. Package ival: the lower and the upper end, as values; how each is cut. Package ival: which numbers are in their order, which enclosures are right, which have a number. -/
import Derived.Deep.RegionHeld3
import Derived.Deep.CutRange
import Derived.Test.YtahpdcbmekgkfaaGreatDoorCR
import Derived.Test.YtahpdcbmekgkfaaGreatDoorTMF
import Derived.Test.YtahpdcbmekgkfaaGreatDoorDCmp2
import Derived.BigQuiet
import Derived.Test.YtahpdcbmekgkfaaGreatDoorCR2
import Derived.Test.YtahpdcbmekgkfaaGreatDoorAL
import Derived.Laws.EntriesVeiled
import Derived.Test.YtahpdcbmekgkfaaGreatDoorFX

namespace Go.Proofs.YtahpdcbmekgkfaaGreatDoor
open Go.RowKit
set_option maxHeartbeats 4000000
set_option maxRecDepth 100000
theorem form_up (s : Bool) (m : Nat) (e k : Int) (h : m ≠ 0) : formD s m (e + k) = ((formD s m e).1, (formD s m e).2.1, (formD s m e).2.2 + k) := by
 rw [form_pos s h, form_pos s h]
 show (s, m / 2 ^ tz m, e + k + (tz m : Int)) = (s, m / 2 ^ tz m, e + (tz m : Int) + k)
 rw [show e + k + (tz m : Int) = e + (tz m : Int) + k by omega]
theorem cut_amt (s : Bool) (m : Nat) (e pp : Int) (up : Bool) (h : m ≠ 0) (hp : 1 ≤ pp) : (cutD (formD s m e) pp up).2.1 ≠ 0 := by
 have hM : (formD s m e).2.1 ≠ 0 := fun q => by
  rw [form_pos s h] at q
  have := (odd_part h).1
  simp only at q
  omega
 unfold cutD
 split
 ·exact hM
 ·rename_i c
  generalize (formD s m e) = x at *
  obtain ⟨j, hj⟩ : ∃ j : Nat, (blen x.2.1 : Int) = pp + j := ⟨((blen x.2.1 : Int) - pp).toNat, by omega⟩
  rw [show ((blen x.2.1 : Int) - pp).toNat = j by omega]
  have hq : 0 < x.2.1 / 2 ^ j := by
   have hb : ¬ x.2.1 < 2 ^ j := fun q => by
    have := (blen_le _ _).2 q
    omega
   exact Nat.div_pos (by omega) (Nat.two_pow_pos _)
  have hA : x.2.1 / 2 ^ j + (if (!(up == x.1)) = true then 1 else 0) ≠ 0 := by omega
  intro q
  rw [form_pos _ hA] at q
  have := (odd_part hA).1
  simp only at q
  omega
theorem cut_shift (s : Bool) (m : Nat) (e k pp : Int) (up : Bool) (h : m ≠ 0) (hp : 1 ≤ pp) : cutD (formD s m (e + k)) pp up = ((cutD (formD s m e) pp up).1, (cutD (formD s m e) pp up).2.1, (cutD (formD s m e) pp up).2.2 + k) := by
 rw [form_up s m e k h]
 unfold cutD
 simp only
 split
 ·rfl
 ·rename_i c
  generalize (formD s m e) = x at *
  obtain ⟨j, hj⟩ : ∃ j : Nat, (blen x.2.1 : Int) = pp + j := ⟨((blen x.2.1 : Int) - pp).toNat, by omega⟩
  rw [show ((blen x.2.1 : Int) - pp).toNat = j by omega]
  have hq : 0 < x.2.1 / 2 ^ j := by
   have hb : ¬ x.2.1 < 2 ^ j := fun q => by
    have := (blen_le _ _).2 q
    omega
   exact Nat.div_pos (by omega) (Nat.two_pow_pos _)
  have hA : x.2.1 / 2 ^ j + (if (!(up == x.1)) = true then 1 else 0) ≠ 0 := by omega
  rw [show x.2.2 + k + (j : Int) = x.2.2 + (j : Int) + k by omega, form_up _ _ _ _ hA]
theorem cut_nil (s : Bool) (e pp : Int) (up : Bool) (hp : 1 ≤ pp) : cutD (formD s 0 e) pp up = (false, 0, 0) := by
 rw [form_zero]
 unfold cutD
 rw [if_pos (by rw [blen_zero]; omega)]
theorem cut_room (s : Bool) (m : Nat) (pp : Int) (up : Bool) (hg : greatB m = false) (hp : 1 ≤ pp) : roomB (cutD (formD s m (-32768)) pp up) = true := by
 by_cases h : m = 0
 ·rw [h, cut_nil s _ pp up hp]; decide +kernel
 ·have hb := (great_not _).1 hg
  have hz := tz_le_blen m
  have od := odd_part h
  have hb2 := blen_mul (m / 2 ^ tz m) (tz m) (fun q => by rw [q] at od; omega)
  rw [od.2] at hb2
  unfold roomB cutD
  rw [form_pos s h]
  simp only
  generalize m / 2 ^ tz m = M at *
  split
  ·simp only
   rw [(great_not M).2 (by omega)]
   unfold inB
   rw [decide_eq_true (by omega)]
   rfl
  ·rename_i c
   obtain ⟨j, hj⟩ : ∃ j : Nat, (blen M : Int) = pp + j := ⟨((blen M : Int) - pp).toNat, by omega⟩
   rw [show ((blen M : Int) - pp).toNat = j by omega]
   have hM0 : M ≠ 0 := fun q => by rw [q] at od; omega
   have hlt : M / 2 ^ j < 2 ^ (pp.toNat) := by
    have h1 := (blen_le M (blen M)).1 (Nat.le_refl _)
    rw [show blen M = pp.toNat + j by omega, Nat.pow_add] at h1
    exact (Nat.div_lt_iff_lt_mul (Nat.two_pow_pos _)).2 h1
   have hq : 0 < M / 2 ^ j := by
    have hb : ¬ M < 2 ^ j := fun q => by
     have := (blen_le _ _).2 q
     omega
    exact Nat.div_pos (by omega) (Nat.two_pow_pos _)
   have hA : M / 2 ^ j + (if (!(up == s)) = true then 1 else 0) ≠ 0 := by omega
   have hA2 : M / 2 ^ j + (if (!(up == s)) = true then 1 else 0) ≤ 2 ^ pp.toNat := by split <;> omega
   have hAb : blen (M / 2 ^ j + (if (!(up == s)) = true then 1 else 0)) ≤ pp.toNat + 1 := (blen_le _ _).2 (by
    rw [Nat.pow_succ]
    have : (if (!(up == s)) = true then 1 else 0) ≤ 1 := by split <;> omega
    have := Nat.two_pow_pos pp.toNat
    omega)
   generalize M / 2 ^ j + (if (!(up == s)) = true then 1 else 0) = A at *
   have hza : tz A ≤ pp.toNat := by
    have o2 := odd_part hA
    have h1 : 1 * 2 ^ tz A ≤ A / 2 ^ tz A * 2 ^ tz A := Nat.mul_le_mul_right _ (Nat.pos_of_ne_zero fun z => by have q := o2.1; rw [z] at q; cases q)
    rw [o2.2, Nat.one_mul] at h1
    exact (Nat.pow_le_pow_iff_right (by decide)).1 (Nat.le_trans h1 hA2)
   rw [form_pos s hA]
   simp only
   have hge : greatB (A / 2 ^ tz A) = false := great_mono (Nat.div_le_self _ _) ((great_not A).2 (by omega))
   rw [hge]
   unfold inB
   rw [decide_eq_true (by omega)]
   rfl
theorem bitLen_calls (a : Option Addr) (len cap : Nat) (xs : List Int) (w : World) (h : IsW w a len cap xs) (hm : len ≤ 17592186044000) (hg : greatB (val xs) = false) :
  Calls Tryz.prog 106 #[.slice a len cap] w fun r w' => r = .returned (.int .i64 (blen (val xs))) ∧ Below w.heap.size w w' := by
 have HL : Hid _ := len_calls a len cap xs w h (by omega)
 go_enter Tryz.func106, Tryz.ntmps106
 go_wp2_with fail
 refine cM HL.out ?_
 rintro r w1 ⟨-, q, bN⟩
 rw [q hg]
 clear q HL
 go_wp2_with fail
 go_ret
 exact ⟨rfl, bN⟩
theorem isign_calls (s : Bool) (a : Option Addr) (len cap : Nat) (xs : List Int) (e : Int) (w : World) (h : IsW w a len cap xs) (hm : len ≤ 17592186044000) (hg : greatB (val xs) = false) :
  Calls Tryz.prog 65 #[dyV s a len cap e] w fun r w' => r = .returned (.int .i64 (sgnD (formD s (val xs) e))) ∧ Below w.heap.size w w' := by
 have bA := below_one w (.cells #[.bool s, .slice a len cap, .int .i64 e] 25)
 have HL : Hid _ := bitLen_calls a len cap xs _ (h.keep bA) hm hg
 have hz : val xs = 0 ↔ blen (val xs) = 0 := (blen_nil _).symm
 have HS : Hid (sgnD (formD s (val xs) e) = if blen (val xs) = 0 then 0 else if s = true then -1 else 1) := by
  rw [Hid]
  by_cases q : val xs = 0
  ·rw [q, form_zero, if_pos (by rw [blen_zero])]; rfl
  ·have od := (odd_part q).1
   rw [form_pos s q, if_neg (fun z => q (hz.2 z))]
   unfold sgnD
   simp only
   rw [if_neg (by omega)]
 generalize sgnD (formD s (val xs) e) = sg at *
 generalize blen (val xs) = bl at *
 have k0 : (w.alloc (.cells #[.bool s, .slice a len cap, .int .i64 e] 25)).cell? ⟨w.heap.size, 0, none⟩ = some (.bool s) := by go_simp
 clear h hz
 by_cases q : bl = 0
 ·subst q
  have e1 : sg = 0 := by rw [HS.out, if_pos rfl]
  subst e1
  go_enter Tryz.func65, Tryz.ntmps65
  go_wp2_with fail
  refine cM HL.out ?_
  rintro r w1 ⟨rfl, bN⟩
  go_wp2_with fail
  go_ret
  exact ⟨rfl, nT bA bN⟩
 ·have d : ((bl : Int) == 0) = false := by simp; omega
  cases s
  ·have e1 : sg = 1 := by rw [HS.out, if_neg q]; rfl
   subst e1
   go_enter Tryz.func65, Tryz.ntmps65
   go_wp2_with fail
   generalize (w.alloc (.cells #[.bool false, .slice a len cap, .int .i64 e] 25)) = w0 at *
   refine cM HL.out ?_
   rintro r w1 ⟨rfl, bN⟩
   replace k0 := kC bN k0
   go_wp2_with fail
   go_ret
   exact ⟨rfl, nT bA bN⟩
  ·have e1 : sg = -1 := by rw [HS.out, if_neg q]; rfl
   subst e1
   go_enter Tryz.func65, Tryz.ntmps65
   go_wp2_with fail
   generalize (w.alloc (.cells #[.bool true, .slice a len cap, .int .i64 e] 25)) = w0 at *
   refine cM HL.out ?_
   rintro r w1 ⟨rfl, bN⟩
   replace k0 := kC bN k0
   go_wp2_with fail
   go_ret
   exact ⟨rfl, nT bA bN⟩
theorem OwnW.set_oneI {B : Nat} {W : World} {a : Option Addr} {n c : Nat} {xs : List Int} (h : OwnW B W a n c xs) (p : Addr) (v u : Value) (k : W.cell? p = some v) (hv : ∀ z, v ≠ .int .u64 z) : OwnW B (W.setCell p u) a n c xs := by
 obtain ⟨⟨h1, h2, h3, h4⟩, h5⟩ := h
 refine ⟨⟨h1, h2, h3, fun i hi => ?_⟩, fun b off i e hi => ?_⟩
 ·obtain ⟨b, off, e, hb, hc⟩ := h4 i hi
  refine ⟨b, off, e, by simpa using hb, ?_⟩
  rw [World.cell?_setCell_other]
  ·exact hc
  ·intro q
   rw [← q, k] at hc
   injection hc with hc
   exact hv _ hc
 ·obtain ⟨h6, h7⟩ := h5 b off i e hi
  exact ⟨h6, (World.frozen?_setCell W _ _ _).trans h7⟩
theorem icut_calls (s : Bool) (a : Option Addr) (len cap : Nat) (xs : List Int) (e : Int) (pp : Int) (up : Bool) (w : World) (h : IsW w a len cap xs) (hm : len ≤ 17592186044000) (hg : greatB (val xs) = false) (he : -100000000 ≤ e ∧ e ≤ 100000000) (hp : 1 ≤ pp ∧ pp ≤ 9223372036854775807) (hT : Tab w) :
  Calls Tryz.prog 119 #[dyV s a len cap e, .int .i64 pp, .bool up] w fun r w' => ∃ v', r = .returned (.tuple #[v', .int .i64 (roomE (cutD (formD s (val xs) e) pp up))]) ∧ DyAt w.heap.size w' v' (roomP (cutD (formD s (val xs) e) pp up)) ∧ Below w.heap.size w w' := by
 have bA : Below w.heap.size w ((w.alloc (.cells #[.bool s, .slice a len cap, .int .i64 (-32768)] 25)).alloc (.cells #[.bool false, .slice none 0 0, .int .i64 0] 25)) := nT (below_one _ _) (below_one _ _)
 have hr : rightB (val xs) (-32768) = true := by unfold rightB inB; rw [hg]; rfl
 have rm := cut_room s (val xs) pp up hg hp.1
 have HC : Hid _ := fun w' (k : IsW w' a len cap xs) tt => dcut_yes s a len cap xs (-32768) pp up w' k (by omega) tt hp hr
 rw [show roomE (cutD (formD s (val xs) (-32768)) pp up) = 0 by unfold roomE; rw [if_pos rm], show roomP (cutD (formD s (val xs) (-32768)) pp up) = cutD (formD s (val xs) (-32768)) pp up by unfold roomP; rw [if_pos rm]] at HC
 have v1 : IntKind.i64.wrap (e + 32768) = e + 32768 := by rw [IntKind.wrap_i64]; omega
 have rb : -32768 ≤ (cutD (formD s (val xs) (-32768)) pp up).2.2 ∧ (cutD (formD s (val xs) (-32768)) pp up).2.2 ≤ 32768 := by
  unfold roomB at rm
  rw [Bool.and_eq_true] at rm
  exact inB_yes rm.2
 have v2 : IntKind.i64.wrap ((cutD (formD s (val xs) (-32768)) pp up).2.2 + (e + 32768)) = (cutD (formD s (val xs) (-32768)) pp up).2.2 + (e + 32768) := by rw [IntKind.wrap_i64]; omega
 have HR : Hid (roomB (cutD (formD s (val xs) (-32768)) pp up) = true) := rm
 have HZe : Hid (val xs = 0 → cutD (formD s (val xs) (-32768)) pp up = (false, 0, 0) ∧ cutD (formD s (val xs) e) pp up = (false, 0, 0)) := fun z => by rw [z]; exact ⟨cut_nil _ _ _ _ hp.1, cut_nil _ _ _ _ hp.1⟩
 have HNz : Hid (val xs ≠ 0 → (cutD (formD s (val xs) (-32768)) pp up).2.1 ≠ 0 ∧ cutD (formD s (val xs) e) pp up = ((cutD (formD s (val xs) (-32768)) pp up).1, (cutD (formD s (val xs) (-32768)) pp up).2.1, (cutD (formD s (val xs) (-32768)) pp up).2.2 + (e + 32768))) := fun z => ⟨cut_amt _ _ _ _ _ z hp.1, by rw [← cut_shift s (val xs) (-32768) (e + 32768) pp up z hp.1, show -32768 + (e + 32768) = e by omega]⟩
 generalize cutD (formD s (val xs) (-32768)) pp up = X at *
 generalize cutD (formD s (val xs) e) pp up = Y at *
 have hI := h.keep bA
 have hT0 := hT.kept bA
 have z0 : ((w.alloc (.cells #[.bool s, .slice a len cap, .int .i64 (-32768)] 25)).alloc (.cells #[.bool false, .slice none 0 0, .int .i64 0] 25)).cell? ⟨w.heap.size + 1, 0, none⟩ = some (.bool false) := by go_simp
 have f0 : ((w.alloc (.cells #[.bool s, .slice a len cap, .int .i64 (-32768)] 25)).alloc (.cells #[.bool false, .slice none 0 0, .int .i64 0] 25)).frozen? ⟨w.heap.size + 1, 0, none⟩ = false := by go_simp
 have z1 : ((w.alloc (.cells #[.bool s, .slice a len cap, .int .i64 (-32768)] 25)).alloc (.cells #[.bool false, .slice none 0 0, .int .i64 0] 25)).cell? ⟨w.heap.size + 1, 1, none⟩ = some (.slice none 0 0) := by go_simp
 have f1 : ((w.alloc (.cells #[.bool s, .slice a len cap, .int .i64 (-32768)] 25)).alloc (.cells #[.bool false, .slice none 0 0, .int .i64 0] 25)).frozen? ⟨w.heap.size + 1, 1, none⟩ = false := by go_simp
 have z2 : ((w.alloc (.cells #[.bool s, .slice a len cap, .int .i64 (-32768)] 25)).alloc (.cells #[.bool false, .slice none 0 0, .int .i64 0] 25)).cell? ⟨w.heap.size + 1, 2, none⟩ = some (.int .i64 0) := by go_simp
 have f2 : ((w.alloc (.cells #[.bool s, .slice a len cap, .int .i64 (-32768)] 25)).alloc (.cells #[.bool false, .slice none 0 0, .int .i64 0] 25)).frozen? ⟨w.heap.size + 1, 2, none⟩ = false := by go_simp
 have hs : Hid (w.heap.size + 1 + 1 ≤ ((w.alloc (.cells #[.bool s, .slice a len cap, .int .i64 (-32768)] 25)).alloc (.cells #[.bool false, .slice none 0 0, .int .i64 0] 25)).heap.size) := by show w.heap.size + 1 + 1 ≤ _; simp
 clear h hT rm rb hr hg he
 go_enter Tryz.func119, Tryz.ntmps119
 go_wp2_with fail
 generalize ((w.alloc (.cells #[.bool s, .slice a len cap, .int .i64 (-32768)] 25)).alloc (.cells #[.bool false, .slice none 0 0, .int .i64 0] 25)) = w0 at *
 have lz : w.heap.size + 1 < w0.heap.size := hs
 refine cM (HC.out _ hI hT0) ?_
 rintro r w1 ⟨_, rfl, ⟨ao, n, c, rfl, HN, hn, hO⟩, bN⟩
 clear HC hI
 have lz1 : w.heap.size + 1 < w1.heap.size := Nat.lt_of_lt_of_le lz bN.size
 revert z0 f0 z1 f1 z2 f2; refine zf3 bN ?_; intro z0 f0 z1 f1 z2 f2
 replace hT0 := hT0.kept bN
 replace bA := nT bA bN
 clear bN
 have hO1 := hO
 clear hO
 have bB := below_one w1 (.cells #[.bool X.1, .slice ao n c, .int .i64 X.2.2] 25)
 have y0 : (w1.alloc (.cells #[.bool X.1, .slice ao n c, .int .i64 X.2.2] 25)).cell? ⟨w1.heap.size, 0, none⟩ = some (.bool X.1) := by go_simp
 have g0 : (w1.alloc (.cells #[.bool X.1, .slice ao n c, .int .i64 X.2.2] 25)).frozen? ⟨w1.heap.size, 0, none⟩ = false := by go_simp
 have y1 : (w1.alloc (.cells #[.bool X.1, .slice ao n c, .int .i64 X.2.2] 25)).cell? ⟨w1.heap.size, 1, none⟩ = some (.slice ao n c) := by go_simp
 have g1 : (w1.alloc (.cells #[.bool X.1, .slice ao n c, .int .i64 X.2.2] 25)).frozen? ⟨w1.heap.size, 1, none⟩ = false := by go_simp
 have y2 : (w1.alloc (.cells #[.bool X.1, .slice ao n c, .int .i64 X.2.2] 25)).cell? ⟨w1.heap.size, 2, none⟩ = some (.int .i64 X.2.2) := by go_simp
 have g2 : (w1.alloc (.cells #[.bool X.1, .slice ao n c, .int .i64 X.2.2] 25)).frozen? ⟨w1.heap.size, 2, none⟩ = false := by go_simp
 revert z0 f0 z1 f1 z2 f2; refine zf3 bB ?_; intro z0 f0 z1 f1 z2 f2
 replace hT0 := hT0.kept bB
 replace bA := nT bA bB
 replace hO1 := hO1.keep bB
 clear bB
 go_wp2_with fail
 generalize (w1.alloc (.cells #[.bool X.1, .slice ao n c, .int .i64 X.2.2] 25)) = w2 at *
 have HZ : Hid _ := dzero_calls X.1 ao n c (wO X.2.1) X.2.2 w2 hO1.1 (by omega) hT0
 rw [val_words] at HZ
 refine cM HZ.out ?_
 rintro r w3 ⟨rfl, bN⟩
 revert z0 f0 z1 f1 z2 f2; refine zf3 bN ?_; intro z0 f0 z1 f1 z2 f2
 replace hT0 := hT0.kept bN
 replace bA := nT bA bN
 revert y0 g0 y1 g1 y2 g2; refine zf3 bN ?_; intro y0 g0 y1 g1 y2 g2
 replace hO1 := hO1.keep bN
 clear bN HZ
 rw [show rightB X.2.1 X.2.2 = true from HR.out, Bool.true_and]
 have HCk : Hid (∀ f w', IsW w' ao n c (wO X.2.1) → Calls Tryz.prog 148 #[dyV X.1 ao n c f] w' fun r w'' => r = .returned (.int .i64 (if rightB X.2.1 f = true then 0 else 2)) ∧ Below w'.heap.size w' w'') := fun f w' k => by
  have := check_calls X.1 ao n c (wO X.2.1) f w' k (by omega)
  rw [val_words] at this
  exact this
 by_cases q : val xs = 0
 ·obtain ⟨x1, x2⟩ := HZe.out q
  subst x1
  subst x2
  clear HZe HNz HR
  go_wp2_with fail
  refine cM (HCk.out _ _ hO1.1) ?_
  rintro r w4 ⟨rfl, bN⟩
  rw [show (if rightB 0 0 = true then (0 : Int) else 2) = 0 by decide +kernel]
  revert z0 f0 z1 f1 z2 f2; refine zf3 bN ?_; intro z0 f0 z1 f1 z2 f2
  revert y0 y1 y2; refine cc3 bN ?_; intro y0 y1 y2
  replace bA := nT bA bN
  replace hO1 := hO1.keep bN
  go_wp2_with fail
  refine bodyPost_ret (v := .tuple #[dyV false ao n c 0, .int .i64 0]) (by simp [results, Tryz.results119, go_sem, z0, z1, z2]) rfl ⟨_, by rw [show roomE (false, 0, 0) = 0 by decide +kernel], ?_, by repeat (first | (with_reducible exact bA) | (with_reducible refine Below.setCell ?_ (by simp) _))⟩
  rw [show roomP (false, 0, 0) = (false, 0, 0) by decide +kernel]
  exact ⟨ao, n, c, rfl, HN, hn, (((hO1.far _ _ (by show w.heap.size + 1 < _; exact lz)).far _ _ (by show w.heap.size + 1 < _; exact lz)).far _ _ (by show w.heap.size + 1 < _; exact lz)).low (Nat.le_of_lt (Nat.lt_of_succ_lt lz))⟩
 obtain ⟨x1, x2⟩ := HNz.out q
 subst x2
 have xz : decide (X.2.1 = 0) = false := decide_eq_false x1
 clear HZe HNz q x1
 go_upto_region 6 with fail
 have bS : Below w1.heap.size w3 (w3.setCell ⟨w1.heap.size, 2, none⟩ (.int .i64 (X.2.2 + (e + 32768)))) := (Below.refl _ _).setCell (p := ⟨w1.heap.size, 2, none⟩) (Nat.le_refl _) _
 replace f0 := (bS.frozen (p := ⟨w.heap.size + 1, 0, none⟩) lz1).trans f0
 replace z0 := (bS.cell (p := ⟨w.heap.size + 1, 0, none⟩) lz1).trans z0
 replace f1 := (bS.frozen (p := ⟨w.heap.size + 1, 1, none⟩) lz1).trans f1
 replace z1 := (bS.cell (p := ⟨w.heap.size + 1, 1, none⟩) lz1).trans z1
 replace f2 := (bS.frozen (p := ⟨w.heap.size + 1, 2, none⟩) lz1).trans f2
 replace z2 := (bS.cell (p := ⟨w.heap.size + 1, 2, none⟩) lz1).trans z2
 have u0 : (w3.setCell ⟨w1.heap.size, 2, none⟩ (.int .i64 (X.2.2 + (e + 32768)))).cell? ⟨w1.heap.size, 0, none⟩ = some (.bool X.1) := (World.cell?_setCell_other _ _ _ _ (by simp)).trans y0
 have u1 : (w3.setCell ⟨w1.heap.size, 2, none⟩ (.int .i64 (X.2.2 + (e + 32768)))).cell? ⟨w1.heap.size, 1, none⟩ = some (.slice ao n c) := (World.cell?_setCell_other _ _ _ _ (by simp)).trans y1
 have u2 : (w3.setCell ⟨w1.heap.size, 2, none⟩ (.int .i64 (X.2.2 + (e + 32768)))).cell? ⟨w1.heap.size, 2, none⟩ = some (.int .i64 (X.2.2 + (e + 32768))) := World.cell?_setCell_same _ _ _ y2
 replace hO1 := hO1.set_oneI ⟨w1.heap.size, 2, none⟩ _ (.int .i64 (X.2.2 + (e + 32768))) y2 (fun _ q => by cases q)
 replace bA := bA.setCell (p := ⟨w1.heap.size, 2, none⟩) (Nat.le_of_lt (Nat.lt_of_succ_lt lz1)) (.int .i64 (X.2.2 + (e + 32768)))
 clear bS y0 y1 y2 g0 g1 g2 hT0
 generalize (w3.setCell ⟨w1.heap.size, 2, none⟩ (.int .i64 (X.2.2 + (e + 32768)))) = w4 at *
 go_wp2_with fail
 refine cM (HCk.out _ _ hO1.1) ?_
 rintro r w5 ⟨rfl, bN⟩
 replace f0 := kF bN z0 f0
 replace z0 := kC bN z0
 replace f1 := kF bN z1 f1
 replace z1 := kC bN z1
 replace f2 := kF bN z2 f2
 replace z2 := kC bN z2
 revert u0 u1 u2; refine cc3 bN ?_; intro u0 u1 u2
 replace bA := nT bA bN
 replace hO1 := hO1.keep bN
 clear bN HCk
 cases hq : rightB X.2.1 (X.2.2 + (e + 32768)) with
 | false =>
  have r1 : roomE (X.1, X.2.1, X.2.2 + (e + 32768)) = 3 ∧ roomP (X.1, X.2.1, X.2.2 + (e + 32768)) = (false, 0, 0) := by
   have : ¬ roomB (X.1, X.2.1, X.2.2 + (e + 32768)) = true := by show ¬ rightB _ _ = true; rw [hq]; decide
   unfold roomE roomP
   rw [if_neg this, if_neg this]
   exact ⟨rfl, rfl⟩
  have R1 : Hid _ := r1
  clear r1 hq
  go_wp2_with fail
  exact bodyPost_ret (v := .tuple #[dyV false none 0 0 0, .int .i64 3]) (by simp [results, Tryz.results119, go_sem, z0, z1, z2]) rfl ⟨_, by rw [R1.out.1], by rw [R1.out.2]; exact dyAt_zero _ _, by repeat (first | (with_reducible exact bA) | (with_reducible refine Below.setCell ?_ (by simp) _))⟩
 | true =>
  have r1 : roomE (X.1, X.2.1, X.2.2 + (e + 32768)) = 0 ∧ roomP (X.1, X.2.1, X.2.2 + (e + 32768)) = (X.1, X.2.1, X.2.2 + (e + 32768)) := by
   have : roomB (X.1, X.2.1, X.2.2 + (e + 32768)) = true := by show rightB _ _ = true; exact hq
   unfold roomE roomP
   rw [if_pos this, if_pos this]
   exact ⟨rfl, rfl⟩
  have R1 : Hid _ := r1
  clear r1 hq
  go_wp2_with fail
  refine bodyPost_ret (v := .tuple #[dyV X.1 ao n c (X.2.2 + (e + 32768)), .int .i64 0]) (by simp [results, Tryz.results119, go_sem, z0, z1, z2]) rfl ⟨_, by rw [R1.out.1], ?_, by repeat (first | (with_reducible exact bA) | (with_reducible refine Below.setCell ?_ (by simp) _))⟩
  rw [R1.out.2]
  exact ⟨ao, n, c, rfl, HN, hn, (((hO1.far _ _ (by show w.heap.size + 1 < _; exact lz)).far _ _ (by show w.heap.size + 1 < _; exact lz)).far _ _ (by show w.heap.size + 1 < _; exact lz)).low (Nat.le_of_lt (Nat.lt_of_succ_lt lz))⟩
end Go.Proofs.YtahpdcbmekgkfaaGreatDoor

namespace Go.Proofs.YtahpdcbmekgkfaaGreatDoor
open Go.RowKit
theorem cmpI_shift (x y k : Int) : Lib.compareInt (x + k) (y + k) = Lib.compareInt x y := by
 unfold Lib.compareInt
 split <;> split <;> first | rfl | omega | (split <;> split <;> first | rfl | omega) | (split <;> first | rfl | omega)
theorem cmpI_rng (x y : Int) : -1 ≤ Lib.compareInt x y ∧ Lib.compareInt x y ≤ 1 := by
 unfold Lib.compareInt
 split
 ·omega
 ·split <;> omega
theorem amt_shift (m n : Nat) (e f k : Int) : amtD m (e + k) n (f + k) = amtD m e n f := by
 unfold amtD
 rw [show e + k + (blen m : Int) - 1 = e + (blen m : Int) - 1 + k by omega, show f + k + (blen n : Int) - 1 = f + (blen n : Int) - 1 + k by omega, cmpI_shift]
 by_cases c : e + (blen m : Int) - 1 = f + (blen n : Int) - 1
 ·rw [if_neg (show ¬ (e + (blen m : Int) - 1 + k ≠ f + (blen n : Int) - 1 + k) from fun q => q (by rw [c])), if_neg (show ¬ (e + (blen m : Int) - 1 ≠ f + (blen n : Int) - 1) from fun q => q c), show f + k - (e + k) = f - e by omega, show e + k - (f + k) = e - f by omega]
  by_cases d : e < f
  ·rw [if_pos d, if_pos (by omega)]
  ·rw [if_neg d, if_neg (by omega)]
 ·rw [if_pos (show e + (blen m : Int) - 1 + k ≠ f + (blen n : Int) - 1 + k from fun q => c (by omega)), if_pos (show e + (blen m : Int) - 1 ≠ f + (blen n : Int) - 1 from c)]
theorem cmp_shift (s t : Bool) (m n : Nat) (e f k : Int) (hm : m ≠ 0) (hn : n ≠ 0) : cmpD (formD s m (e + k)) (formD t n (f + k)) = cmpD (formD s m e) (formD t n f) := by
 rw [form_up s m e k hm, form_up t n f k hn]
 unfold cmpD sgnD
 simp only
 rw [amt_shift]
theorem isW_set1I {w : World} {a : Option Addr} {n c : Nat} {xs : List Int} (h : IsW w a n c xs) (p : Addr) (v u : Value) (k : w.cell? p = some v) (hv : ∀ j : Int, v ≠ .int .u64 j) : IsW (w.setCell p u) a n c xs := by
 obtain ⟨h1, h2, h4, h3⟩ := h
 refine ⟨h1, h2, h4, fun i hi => ?_⟩
 obtain ⟨b, off, e1, e2, e3⟩ := h3 i hi
 refine ⟨b, off, e1, by simpa using e2, ?_⟩
 rw [World.cell?_setCell_other]
 ·exact e3
 ·intro q
  rw [← q, k] at e3
  injection e3 with e3
  exact hv _ e3
theorem sgn_val (s : Bool) (m : Nat) (e : Int) : sgnD (formD s m e) = if m = 0 then 0 else if s = true then -1 else 1 := by
 by_cases q : m = 0
 ·rw [if_pos q, q, form_zero]; rfl
 ·have od := (odd_part q).1
  rw [form_pos s q, if_neg q]
  unfold sgnD
  simp only
  rw [if_neg (by omega)]
theorem cmp_signs (s t : Bool) (m n : Nat) (e f : Int) (h : sgnD (formD s m e) ≠ sgnD (formD t n f) ∨ sgnD (formD s m e) = 0) : cmpD (formD s m e) (formD t n f) = Lib.compareInt (sgnD (formD s m e)) (sgnD (formD t n f)) := by
 by_cases c : sgnD (formD s m e) = sgnD (formD t n f)
 ·have h0 := h.resolve_left (fun q => q c)
  have hz : (formD s m e).2.1 = 0 := by
   unfold sgnD at h0
   by_cases z : (formD s m e).2.1 = 0
   ·exact z
   ·rw [if_neg z] at h0; split at h0 <;> cases h0
  unfold cmpD
  rw [if_neg (fun q => q c), if_pos hz, ← c, h0]
  rfl
 ·unfold cmpD
  rw [if_pos c]
theorem cmp_tops (s t : Bool) (m n : Nat) (e f : Int) (h : sgnD (formD s m e) = sgnD (formD t n f)) (h0 : sgnD (formD s m e) ≠ 0) : m ≠ 0 ∧ n ≠ 0 ∧ (e + (blen m : Int) ≠ f + (blen n : Int) → cmpD (formD s m e) (formD t n f) = sgnD (formD s m e) * Lib.compareInt (e + (blen m : Int)) (f + (blen n : Int))) := by
 have hm : m ≠ 0 := fun q => h0 (by rw [sgn_val, if_pos q])
 have hn : n ≠ 0 := fun q => h0 (by rw [h, sgn_val, if_pos q])
 refine ⟨hm, hn, fun ht => ?_⟩
 have o1 := odd_part hm
 have o2 := odd_part hn
 have b1 := blen_mul (m / 2 ^ tz m) (tz m) (fun q => by rw [q] at o1; omega)
 have b2 := blen_mul (n / 2 ^ tz n) (tz n) (fun q => by rw [q] at o2; omega)
 rw [o1.2] at b1
 rw [o2.2] at b2
 have hz : (formD s m e).2.1 ≠ 0 := by rw [form_pos s hm]; simp only; omega
 have eA : amtD (formD s m e).2.1 (formD s m e).2.2 (formD t n f).2.1 (formD t n f).2.2 = Lib.compareInt (e + (blen m : Int)) (f + (blen n : Int)) := by
  rw [form_pos s hm, form_pos t hn]
  simp only
  unfold amtD
  rw [if_pos (by omega), show e + (tz m : Int) + (blen (m / 2 ^ tz m) : Int) - 1 = e + (blen m : Int) + -1 by omega, show f + (tz n : Int) + (blen (n / 2 ^ tz n) : Int) - 1 = f + (blen n : Int) + -1 by omega, cmpI_shift]
 unfold cmpD
 rw [if_neg (fun q => q h), if_neg hz, eA]
set_option maxRecDepth 100000 in
set_option maxHeartbeats 4000000 in
theorem iagainst_calls (s : Bool) (a : Option Addr) (len cap : Nat) (xs : List Int) (e : Int) (t : Bool) (b : Option Addr) (bl bc : Nat) (ys : List Int) (f : Int) (w : World) (h : IsW w a len cap xs) (hm : len ≤ 17592186044000) (hg : greatB (val xs) = false) (h' : IsW w b bl bc ys) (hm' : bl ≤ 17592186044000) (hg' : greatB (val ys) = false) (he : -100000000 ≤ e ∧ e ≤ 100000000) (hf : -100000000 ≤ f ∧ f ≤ 100000000) (hT : Tab w) :
  Calls Tryz.prog 116 #[dyV s a len cap e, dyV t b bl bc f] w fun r w' => r = .returned (.int .i64 (cmpD (formD s (val xs) e) (formD t (val ys) f))) ∧ Below w.heap.size w w' := by
 have bA : Below w.heap.size w ((w.alloc (.cells #[.bool s, .slice a len cap, .int .i64 e] 25)).alloc (.cells #[.bool t, .slice b bl bc, .int .i64 f] 25)) := nT (below_one _ _) (below_one _ _)
 have HS1 : Hid _ := fun w' (k : IsW w' a len cap xs) => isign_calls s a len cap xs e w' k hm hg
 have HS2 : Hid _ := fun w' (k : IsW w' b bl bc ys) => isign_calls t b bl bc ys f w' k hm' hg'
 have HB1 : Hid _ := fun w' (k : IsW w' a len cap xs) => bitLen_calls a len cap xs w' k hm hg
 have HB2 : Hid _ := fun w' (k : IsW w' b bl bc ys) => bitLen_calls b bl bc ys w' k hm' hg'
 have l1 := (great_not _).1 hg
 have l2 := (great_not _).1 hg'
 have r1 : rightB (val xs) (32768 - (blen (val xs) : Int)) = true := by unfold rightB inB; rw [hg, decide_eq_true (by omega)]; rfl
 have r2 : rightB (val ys) (32768 - (blen (val ys) : Int)) = true := by unfold rightB inB; rw [hg', decide_eq_true (by omega)]; rfl
 have HCm : Hid _ := fun w' (k : IsW w' a len cap xs) (k' : IsW w' b bl bc ys) tt => dcmp_yes s a len cap xs (32768 - (blen (val xs) : Int)) t b bl bc ys (32768 - (blen (val ys) : Int)) w' k (by omega) k' (by omega) tt r1 r2
 have P1 : Hid _ := cmp_signs s t (val xs) (val ys) e f
 have P2 : Hid _ := cmp_tops s t (val xs) (val ys) e f
 have P3 : Hid (val xs ≠ 0 → val ys ≠ 0 → e + (blen (val xs) : Int) = f + (blen (val ys) : Int) → cmpD (formD s (val xs) (32768 - (blen (val xs) : Int))) (formD t (val ys) (32768 - (blen (val ys) : Int))) = cmpD (formD s (val xs) e) (formD t (val ys) f)) := fun q1 q2 q3 => by
  rw [← cmp_shift s t (val xs) (val ys) e f (32768 - (blen (val xs) : Int) - e) q1 q2, show e + (32768 - (blen (val xs) : Int) - e) = 32768 - (blen (val xs) : Int) by omega, show f + (32768 - (blen (val xs) : Int) - e) = 32768 - (blen (val ys) : Int) by omega]
 have v1 : IntKind.i64.wrap (e + (blen (val xs) : Int)) = e + (blen (val xs) : Int) := by rw [IntKind.wrap_i64]; omega
 have v2 : IntKind.i64.wrap (f + (blen (val ys) : Int)) = f + (blen (val ys) : Int) := by rw [IntKind.wrap_i64]; omega
 have v3 : IntKind.i64.wrap (32768 - (blen (val xs) : Int)) = 32768 - (blen (val xs) : Int) := by rw [IntKind.wrap_i64]; omega
 have v4 : IntKind.i64.wrap (32768 - (blen (val ys) : Int)) = 32768 - (blen (val ys) : Int) := by rw [IntKind.wrap_i64]; omega
 have sv : sgnD (formD s (val xs) e) = 0 ∨ sgnD (formD s (val xs) e) = 1 ∨ sgnD (formD s (val xs) e) = -1 := by rw [sgn_val]; split <;> (try split) <;> simp
 have v5 : IntKind.i64.wrap (sgnD (formD s (val xs) e) * Lib.compareInt (e + (blen (val xs) : Int)) (f + (blen (val ys) : Int))) = sgnD (formD s (val xs) e) * Lib.compareInt (e + (blen (val xs) : Int)) (f + (blen (val ys) : Int)) := by
  have hc := cmpI_rng (e + (blen (val xs) : Int)) (f + (blen (val ys) : Int))
  rw [IntKind.wrap_i64]
  rcases sv with z | z | z <;> rw [z] <;> omega
 generalize cmpD (formD s (val xs) (32768 - (blen (val xs) : Int))) (formD t (val ys) (32768 - (blen (val ys) : Int))) = c3 at *
 generalize cmpD (formD s (val xs) e) (formD t (val ys) f) = cc at *
 generalize sgnD (formD s (val xs) e) = sx at *
 generalize sgnD (formD t (val ys) f) = sy at *
 generalize (blen (val xs) : Int) = bx at *
 generalize (blen (val ys) : Int) = bY at *
 replace h := h.keep bA
 replace h' := h'.keep bA
 have hT0 := hT.kept bA
 have HTw : Hid (Tab w) := hT
 have c0 : ((w.alloc (.cells #[.bool s, .slice a len cap, .int .i64 e] 25)).alloc (.cells #[.bool t, .slice b bl bc, .int .i64 f] 25)).cell? ⟨w.heap.size, 0, none⟩ = some (.bool s) := by go_simp
 have c1 : ((w.alloc (.cells #[.bool s, .slice a len cap, .int .i64 e] 25)).alloc (.cells #[.bool t, .slice b bl bc, .int .i64 f] 25)).cell? ⟨w.heap.size, 1, none⟩ = some (.slice a len cap) := by go_simp
 have c2 : ((w.alloc (.cells #[.bool s, .slice a len cap, .int .i64 e] 25)).alloc (.cells #[.bool t, .slice b bl bc, .int .i64 f] 25)).cell? ⟨w.heap.size, 2, none⟩ = some (.int .i64 e) := by go_simp
 have d0 : ((w.alloc (.cells #[.bool s, .slice a len cap, .int .i64 e] 25)).alloc (.cells #[.bool t, .slice b bl bc, .int .i64 f] 25)).cell? ⟨w.heap.size + 1, 0, none⟩ = some (.bool t) := by go_simp
 have d1 : ((w.alloc (.cells #[.bool s, .slice a len cap, .int .i64 e] 25)).alloc (.cells #[.bool t, .slice b bl bc, .int .i64 f] 25)).cell? ⟨w.heap.size + 1, 1, none⟩ = some (.slice b bl bc) := by go_simp
 have d2 : ((w.alloc (.cells #[.bool s, .slice a len cap, .int .i64 e] 25)).alloc (.cells #[.bool t, .slice b bl bc, .int .i64 f] 25)).cell? ⟨w.heap.size + 1, 2, none⟩ = some (.int .i64 f) := by go_simp
 have k1 : ((w.alloc (.cells #[.bool s, .slice a len cap, .int .i64 e] 25)).alloc (.cells #[.bool t, .slice b bl bc, .int .i64 f] 25)).frozen? ⟨w.heap.size, 2, none⟩ = false := by go_simp
 have k2 : ((w.alloc (.cells #[.bool s, .slice a len cap, .int .i64 e] 25)).alloc (.cells #[.bool t, .slice b bl bc, .int .i64 f] 25)).frozen? ⟨w.heap.size + 1, 2, none⟩ = false := by go_simp
 clear hm hm' hg hg' he hf hT l1 l2 r1 r2
 go_enter Tryz.func116, Tryz.ntmps116
 go_wp2_with fail
 generalize ((w.alloc (.cells #[.bool s, .slice a len cap, .int .i64 e] 25)).alloc (.cells #[.bool t, .slice b bl bc, .int .i64 f] 25)) = w0 at *
 refine cM (HS1.out _ h) ?_
 rintro r w1 ⟨rfl, bN⟩
 replace k1 := kF bN c2 k1
 replace c2 := kC bN c2
 replace k2 := kF bN d2 k2
 replace d2 := kC bN d2
 revert c0 c1 d0; refine cc3 bN ?_; intro c0 c1 d0
 replace d1 := kC bN d1
 replace h := h.keep bN
 replace h' := h'.keep bN
 replace hT0 := hT0.kept bN
 replace bA := nT bA bN
 clear bN
 go_wp2_with fail
 refine cM (HS2.out _ h') ?_
 rintro r w2 ⟨rfl, bN⟩
 replace k1 := kF bN c2 k1
 replace c2 := kC bN c2
 replace k2 := kF bN d2 k2
 replace d2 := kC bN d2
 revert c0 c1 d0; refine cc3 bN ?_; intro c0 c1 d0
 replace d1 := kC bN d1
 replace h := h.keep bN
 replace h' := h'.keep bN
 replace hT0 := hT0.kept bN
 replace bA := nT bA bN
 clear bN
 by_cases q1 : sx ≠ sy ∨ sx = 0
 ·have e1 := P1.out q1
  subst e1
  clear P1 P2 P3 HCm sv
  have go1 : ∀ W : World, True := fun _ => trivial
  clear go1
  by_cases q2 : sx = sy
  ·have q3 : sx = 0 := q1.resolve_left (fun z => z q2)
   subst q2
   subst q3
   clear q1
   go_wp2_with fail
   refine cM (HS2.out _ h') ?_
   rintro r w3 ⟨rfl, bN⟩
   go_wp2_with fail
   refine cM (Tryz.cmp_Compare_int _ _ _) ?_
   rintro r w4 ⟨rfl, rfl⟩
   go_wp2_with fail
   go_ret
   exact ⟨rfl, nT bA bN⟩
  ·have q4 : (sx != sy) = true := by simp [q2]
   clear q1
   go_wp2_with fail
   refine cM (HS2.out _ h') ?_
   rintro r w3 ⟨rfl, bN⟩
   go_wp2_with fail
   refine cM (Tryz.cmp_Compare_int _ _ _) ?_
   rintro r w4 ⟨rfl, rfl⟩
   go_wp2_with fail
   go_ret
   exact ⟨rfl, nT bA bN⟩
 have q2 : sx = sy := Decidable.byContradiction fun z => q1 (.inl z)
 have q3 : sx ≠ 0 := fun z => q1 (.inr z)
 obtain ⟨n1, n2, P4⟩ := P2.out q2 q3
 have P5 : Hid _ := P4
 have P6 : Hid _ := P3.out n1 n2
 subst q2
 have q4 : (sx != sx) = false := by simp
 have q5 : (sx == 0) = false := by simp [q3]
 clear P1 P2 P3 P4 n1 n2 q1 HS1 HS2
 go_upto_region 4 with fail
 have R : Below w2.heap.size w2 (World.drew w2) := (Below.refl _ _).drew
 refine wp_region_held (S := fun w' => Below w2.heap.size w2 w') (by kernel_rfl) ?_
 change wpAnyH _ _ _ _ _ _ _ _ (World.drew w2)
 generalize World.drew w2 = wd at R ⊢
 refine tk 0 (.pointer (some ⟨w.heap.size, 1, none⟩)) rfl (by kernel_rfl) (fun _ _ _ h => h) (by rfl) ?y1 R ?r1
 case y1 => (intro ww hS; clear hS; go_simp; try with_reducible rfl)
 try simp only [Act.put, sA]
 refine tk 1 (.slice a len cap) rfl (by kernel_rfl) (fun _ _ _ h => h) (by rfl) ?y2 R ?r2
 case y2 => (intro ww hS; have qc1 := kC hS c1; clear hS; go_simp; try with_reducible rfl)
 try simp only [Act.put]
 refine tk 3 (.pointer (some ⟨w.heap.size + 1, 1, none⟩)) rfl (by kernel_rfl) (fun _ _ _ h => h) (by rfl) ?y3 R ?r3
 case y3 => (intro ww hS; clear hS; go_simp; try with_reducible rfl)
 try simp only [Act.put]
 refine tk 4 (.slice b bl bc) rfl (by kernel_rfl) (fun _ _ _ h => h) (by rfl) ?y4 R ?r4
 case y4 => (intro ww hS; have qd1 := kC hS d1; clear hS; go_simp; try with_reducible rfl)
 try simp only [Act.put]
 refine rd1 2 (by kernel_rfl) rfl fun K hK => ?_
 go_simp
 refine cM (HB1.out _ (IsW.keep h R)) ?_
 rintro r wa ⟨rfl, bN⟩
 replace R := nT R bN
 clear bN
 refine hK.out _ _ R (fun _ => ?_)
 clear hK K
 try simp only [Act.put, sA, sZ, sS]
 refine rd1 5 (by kernel_rfl) rfl fun K hK => ?_
 go_simp
 refine cM (HB2.out _ (IsW.keep h' R)) ?_
 rintro r wb ⟨rfl, bN⟩
 replace R := nT R bN
 clear bN
 refine hK.out _ _ R (fun _ => ?_)
 clear hK K
 try simp only [Act.put, sA, sZ, sS]
 refine rd1 6 (by kernel_rfl) rfl fun K hK => ?_
 go_simp
 refine hK.out _ _ R (fun _ => ?_)
 clear hK K
 try simp only [Act.put, sA, sZ, sS]
 refine rd1 7 (by kernel_rfl) rfl fun K hK => ?_
 go_simp
 refine hK.out _ _ R (fun _ => ?_)
 clear hK K
 try simp only [Act.put, sA, sZ, sS]
 refine wpAnyH_done (by kernel_rfl) ?_ _
 replace k1 := kF R c2 k1
 replace c2 := kC R c2
 replace k2 := kF R d2 k2
 replace d2 := kC R d2
 revert c0 c1 d0; refine cc3 R ?_; intro c0 c1 d0
 replace d1 := kC R d1
 replace h := h.keep R
 replace h' := h'.keep R
 replace hT0 := hT0.kept R
 replace bA := nT bA R
 clear R
 clear HB1 HB2
 go_wp2_with fail
 go_quiet (fail)
 by_cases p1 : e + bx = f + bY
 ·have e1 := P6.out p1
  subst e1
  have p2 : (e + bx != f + bY) = false := by simp [p1]
  clear P5 P6
  go_wp2_with fail
  have bQ := below_drewN (Below.refl wb.heap.size wb) nq
  have y1 := kC bQ c2
  have y2 := kC bQ d2
  have i1 := isW_set1I (isW_set1I (h.keep bQ) ⟨w.heap.size, 2, none⟩ _ (.int .i64 (32768 - bx)) y1 (fun _ q => by cases q)) ⟨w.heap.size + 1, 2, none⟩ _ (.int .i64 (32768 - bY)) ((World.cell?_setCell_other _ _ _ _ (by simp)).trans y2) (fun _ q => by cases q)
  have i2 := isW_set1I (isW_set1I (h'.keep bQ) ⟨w.heap.size, 2, none⟩ _ (.int .i64 (32768 - bx)) y1 (fun _ q => by cases q)) ⟨w.heap.size + 1, 2, none⟩ _ (.int .i64 (32768 - bY)) ((World.cell?_setCell_other _ _ _ _ (by simp)).trans y2) (fun _ q => by cases q)
  have bF := ((below_drewN bA nq).setCell (p := ⟨w.heap.size, 2, none⟩) (Nat.le_refl _) (.int .i64 (32768 - bx))).setCell (p := ⟨w.heap.size + 1, 2, none⟩) (Nat.le_succ _) (.int .i64 (32768 - bY))
  refine cM (HCm.out _ i1 i2 (HTw.out.kept bF)) ?_
  rintro r w4 ⟨rfl, bN⟩
  go_wp2_with fail
  go_ret
  exact ⟨rfl, nT bF bN⟩
 ·have e1 := P5.out p1
  subst e1
  have p2 : (e + bx != f + bY) = true := by simp [p1]
  clear P5 P6 HCm
  go_wp2_with fail
  refine cM (Tryz.cmp_Compare_int _ _ _) ?_
  rintro r w4 ⟨rfl, rfl⟩
  go_wp2_with fail
  go_ret
  exact ⟨by first | rfl | rw [v5], below_drewN bA nq⟩
end Go.Proofs.YtahpdcbmekgkfaaGreatDoor

namespace Go.Proofs.YtahpdcbmekgkfaaGreatDoor
open Go.RowKit
set_option maxHeartbeats 2000000
set_option maxRecDepth 100000
theorem lowEnd_calls (w : World) :
  Calls Tryz.prog 84 #[] w fun r w' => r = .returned (.agg #[.func (.func 117) #[] #[], .func (.func 118) #[] #[]]) ∧ Below w.heap.size w w' := by
 go_enter Tryz.func84, Tryz.ntmps84
 go_wp2_with fail
 refine bodyPost_ret (v := .agg #[.func (.func 117) #[] #[], .func (.func 118) #[] #[]]) (by simp [results, Tryz.results84, go_sem]) rfl ⟨rfl, ?_⟩
 first | exact below_one _ _ | (repeat (first | exact below_one _ _ | refine Below.setCell ?_ (by simp) _))
theorem lowFar_calls (k : Int) (w : World) :
  Calls Tryz.prog 117 #[.int .i64 k] w fun r w' => r = .returned (.bool (decide (k < 0))) ∧ w' = w := by
 go_enter Tryz.func117, Tryz.ntmps117
 go_wp2_with fail
 go_ret
 exact ⟨rfl, rfl⟩
theorem lowCut_calls (s : Bool) (a : Option Addr) (len cap : Nat) (xs : List Int) (e : Int) (pp : Int) (w : World) (h : IsW w a len cap xs) (hm : len ≤ 17592186044000) (hg : greatB (val xs) = false) (he : -100000000 ≤ e ∧ e ≤ 100000000) (hp : 1 ≤ pp ∧ pp ≤ 9223372036854775807) (hT : Tab w) :
  Calls Tryz.prog 118 #[dyV s a len cap e, .int .i64 pp] w fun r w' => ∃ v', r = .returned (.tuple #[v', .int .i64 (roomE (cutD (formD s (val xs) e) pp false))]) ∧ DyAt w.heap.size w' v' (roomP (cutD (formD s (val xs) e) pp false)) ∧ Below w.heap.size w w' := by
 have bA : Below w.heap.size w ((w.alloc (.cells #[.bool s, .slice a len cap, .int .i64 e] 25)).alloc (.cells #[.bool false, .slice none 0 0, .int .i64 0] 25)) := nT (below_one _ _) (below_one _ _)
 have HC : Hid _ := icut_calls s a len cap xs e pp false _ (h.keep bA) hm hg he hp (hT.kept bA)
 generalize roomE (cutD (formD s (val xs) e) pp false) = er at *
 generalize roomP (cutD (formD s (val xs) e) pp false) = P at *
 obtain ⟨z0, f0, z1, f1, z2, f2⟩ := fX4 w s a len cap e _ rfl
 have lz : w.heap.size + 1 < ((w.alloc (.cells #[.bool s, .slice a len cap, .int .i64 e] 25)).alloc (.cells #[.bool false, .slice none 0 0, .int .i64 0] 25)).heap.size := by simp
 clear h hm hg he hp hT
 go_enter Tryz.func118, Tryz.ntmps118
 go_wp2_with fail
 generalize ((w.alloc (.cells #[.bool s, .slice a len cap, .int .i64 e] 25)).alloc (.cells #[.bool false, .slice none 0 0, .int .i64 0] 25)) = w0 at *
 refine Calls.mono HC.out ?_
 rintro r w1 ⟨_, rfl, ⟨ao, n, c, rfl, HN, hn, hO⟩, bN⟩
 clear HC
 revert z0 f0 z1 f1 z2 f2; refine zf3 bN ?_; intro z0 f0 z1 f1 z2 f2
 replace bA := nT bA bN
 clear bN
 go_wp2_with fail
 refine bodyPost_ret (v := .tuple #[dyV P.1 ao n c P.2.2, .int .i64 er]) (by simp [results, Tryz.results118, go_sem, z0, z1, z2]) rfl ⟨_, rfl, ⟨ao, n, c, rfl, HN, hn, (((hO.far _ _ (by show w.heap.size + 1 < _; exact lz)).far _ _ (by show w.heap.size + 1 < _; exact lz)).far _ _ (by show w.heap.size + 1 < _; exact lz)).low (Nat.le_of_lt (Nat.lt_of_succ_lt lz))⟩, by repeat (first | (with_reducible exact bA) | (with_reducible refine Below.setCell ?_ (by simp) _))⟩
theorem uppEnd_calls (w : World) :
  Calls Tryz.prog 86 #[] w fun r w' => r = .returned (.agg #[.func (.func 120) #[] #[], .func (.func 121) #[] #[]]) ∧ Below w.heap.size w w' := by
 go_enter Tryz.func86, Tryz.ntmps86
 go_wp2_with fail
 refine bodyPost_ret (v := .agg #[.func (.func 120) #[] #[], .func (.func 121) #[] #[]]) (by simp [results, Tryz.results86, go_sem]) rfl ⟨rfl, ?_⟩
 first | exact below_one _ _ | (repeat (first | exact below_one _ _ | refine Below.setCell ?_ (by simp) _))
theorem uppFar_calls (k : Int) (w : World) :
  Calls Tryz.prog 120 #[.int .i64 k] w fun r w' => r = .returned (.bool (decide (0 < k))) ∧ w' = w := by
 go_enter Tryz.func120, Tryz.ntmps120
 go_wp2_with fail
 go_ret
 exact ⟨rfl, rfl⟩
theorem uppCut_calls (s : Bool) (a : Option Addr) (len cap : Nat) (xs : List Int) (e : Int) (pp : Int) (w : World) (h : IsW w a len cap xs) (hm : len ≤ 17592186044000) (hg : greatB (val xs) = false) (he : -100000000 ≤ e ∧ e ≤ 100000000) (hp : 1 ≤ pp ∧ pp ≤ 9223372036854775807) (hT : Tab w) :
  Calls Tryz.prog 121 #[dyV s a len cap e, .int .i64 pp] w fun r w' => ∃ v', r = .returned (.tuple #[v', .int .i64 (roomE (cutD (formD s (val xs) e) pp true))]) ∧ DyAt w.heap.size w' v' (roomP (cutD (formD s (val xs) e) pp true)) ∧ Below w.heap.size w w' := by
 have bA : Below w.heap.size w ((w.alloc (.cells #[.bool s, .slice a len cap, .int .i64 e] 25)).alloc (.cells #[.bool false, .slice none 0 0, .int .i64 0] 25)) := nT (below_one _ _) (below_one _ _)
 have HC : Hid _ := icut_calls s a len cap xs e pp true _ (h.keep bA) hm hg he hp (hT.kept bA)
 generalize roomE (cutD (formD s (val xs) e) pp true) = er at *
 generalize roomP (cutD (formD s (val xs) e) pp true) = P at *
 obtain ⟨z0, f0, z1, f1, z2, f2⟩ := fX4 w s a len cap e _ rfl
 have lz : w.heap.size + 1 < ((w.alloc (.cells #[.bool s, .slice a len cap, .int .i64 e] 25)).alloc (.cells #[.bool false, .slice none 0 0, .int .i64 0] 25)).heap.size := by simp
 clear h hm hg he hp hT
 go_enter Tryz.func121, Tryz.ntmps121
 go_wp2_with fail
 generalize ((w.alloc (.cells #[.bool s, .slice a len cap, .int .i64 e] 25)).alloc (.cells #[.bool false, .slice none 0 0, .int .i64 0] 25)) = w0 at *
 refine Calls.mono HC.out ?_
 rintro r w1 ⟨_, rfl, ⟨ao, n, c, rfl, HN, hn, hO⟩, bN⟩
 clear HC
 revert z0 f0 z1 f1 z2 f2; refine zf3 bN ?_; intro z0 f0 z1 f1 z2 f2
 replace bA := nT bA bN
 clear bN
 go_wp2_with fail
 refine bodyPost_ret (v := .tuple #[dyV P.1 ao n c P.2.2, .int .i64 er]) (by simp [results, Tryz.results121, go_sem, z0, z1, z2]) rfl ⟨_, rfl, ⟨ao, n, c, rfl, HN, hn, (((hO.far _ _ (by show w.heap.size + 1 < _; exact lz)).far _ _ (by show w.heap.size + 1 < _; exact lz)).far _ _ (by show w.heap.size + 1 < _; exact lz)).low (Nat.le_of_lt (Nat.lt_of_succ_lt lz))⟩, by repeat (first | (with_reducible exact bA) | (with_reducible refine Below.setCell ?_ (by simp) _))⟩
end Go.Proofs.YtahpdcbmekgkfaaGreatDoor

namespace Go.Proofs.YtahpdcbmekgkfaaGreatDoor
open Go.RowKit
set_option maxHeartbeats 4000000
set_option maxRecDepth 100000
attribute [local go_sem ↓] Go.wp_at_zero Go.wp_at_succ
abbrev ivI (s : Bool) (a : Option Addr) (n c : Nat) (e : Int) (s' : Bool) (a' : Option Addr) (n' c' : Nat) (e' : Int) : Value := .agg #[.bool s, .slice a n c, .int .i64 e, .bool s', .slice a' n' c', .int .i64 e']
abbrev zIvI : Value := .agg #[.bool false, .slice none 0 0, .int .i64 0, .bool false, .slice none 0 0, .int .i64 0]
def rtI (s : Bool) (m : Nat) (e : Int) (s' : Bool) (m' : Nat) (e' : Int) : Bool := (rightB m e && rightB m' e') && decide (cmpD (formD s m e) (formD s' m' e') ≤ 0)
theorem atMost_calls (s : Bool) (a : Option Addr) (len cap : Nat) (xs : List Int) (e : Int) (s' : Bool) (a' : Option Addr) (len' cap' : Nat) (ys : List Int) (e' : Int) (w : World) (h : IsW w a len cap xs) (hm : len ≤ 17592186044000) (h' : IsW w a' len' cap' ys) (hm' : len' ≤ 17592186044000) (hT : Tab w) :
  Calls Tryz.prog 77 #[dyV s a len cap e, dyV s' a' len' cap' e'] w fun r w' => r = .returned (.bool (rtI s (val xs) e s' (val ys) e')) ∧ Below w.heap.size w w' := by
 have bA : Below w.heap.size w ((w.alloc (.cells #[.bool s, .slice a len cap, .int .i64 e] 25)).alloc (.cells #[.bool s', .slice a' len' cap', .int .i64 e'] 25)) := nT (below_one _ _) (below_one _ _)
 cases hr : (rightB (val xs) e && rightB (val ys) e') with
 | false =>
  have HC : Hid _ := dcmp_not s a len cap xs e s' a' len' cap' ys e' _ (h.keep bA) (by omega) (h'.keep bA) (by omega) hr
  have e1 : Hid (rtI s (val xs) e s' (val ys) e' = false) := by rw [Hid]; unfold rtI; rw [hr]; rfl
  clear hr h h' hT
  go_enter Tryz.func77, Tryz.ntmps77
  go_wp2_with fail
  refine cM HC.out ?_
  rintro r w1 ⟨rfl, bN⟩
  go_wp2_with fail
  go_ret
  rw [e1.out]
  exact ⟨rfl, nT bA bN⟩
 | true =>
  rw [Bool.and_eq_true] at hr
  have HC : Hid _ := dcmp_yes s a len cap xs e s' a' len' cap' ys e' _ (h.keep bA) (by omega) (h'.keep bA) (by omega) (hT.kept bA) hr.1 hr.2
  have e1 : Hid (rtI s (val xs) e s' (val ys) e' = decide (cmpD (formD s (val xs) e) (formD s' (val ys) e') ≤ 0)) := by rw [Hid]; unfold rtI; rw [hr.1, hr.2]; rfl
  generalize cmpD (formD s (val xs) e) (formD s' (val ys) e') = cc at *
  clear hr h h' hT
  go_enter Tryz.func77, Tryz.ntmps77
  go_wp2_with fail
  refine cM HC.out ?_
  rintro r w1 ⟨rfl, bN⟩
  go_wp2_with fail
  go_ret
  rw [e1.out]
  exact ⟨rfl, nT bA bN⟩
theorem iright1_calls (s : Bool) (a : Option Addr) (len cap : Nat) (xs : List Int) (e : Int) (s' : Bool) (a' : Option Addr) (len' cap' : Nat) (ys : List Int) (e' : Int) (B : Nat) (w : World) (h : IsW w a len cap xs) (hm : len ≤ 17592186044000) (h' : IsW w a' len' cap' ys) (hm' : len' ≤ 17592186044000) (c0 : w.cell? ⟨B, 0, none⟩ = some (.bool s)) (c1 : w.cell? ⟨B, 1, none⟩ = some (.slice a len cap)) (c2 : w.cell? ⟨B, 2, none⟩ = some (.int .i64 e)) (c3 : w.cell? ⟨B, 3, none⟩ = some (.bool s')) (c4 : w.cell? ⟨B, 4, none⟩ = some (.slice a' len' cap')) (c5 : w.cell? ⟨B, 5, none⟩ = some (.int .i64 e')) (hT : Tab w) :
  Calls Tryz.prog 63 #[.slice (some ⟨B, 0, none⟩) 1 1] w fun r w' => r = .returned (.bool (rtI s (val xs) e s' (val ys) e')) ∧ Below w.heap.size w w' := by
 have HM1 : Hid _ := fun w' (q : IsW w' a len cap xs) (q' : IsW w' a' len' cap' ys) t' => atMost_calls s a len cap xs e s' a' len' cap' ys e' w' q hm q' hm' t'
 generalize rtI s (val xs) e s' (val ys) e' = R1 at *
 clear hm hm'
 go_enter Tryz.func63, Tryz.ntmps63
 go_wp2_with fail
 go_loopw [7] (fun vi wr => ∃ k : Nat, k ≤ 1 ∧ vi = .int .i64 (k : Int) ∧ Below w.heap.size w wr ∧ Hid (1 ≤ k → R1 = true)) (fun vi _ => 1 - (intOf vi).toNat)
 case atStart => exact ⟨0, by omega, rfl, Below.refl _ _, fun q => absurd q (by omega)⟩
 case round =>
  obtain ⟨k, hk, rfl, bw, K1⟩ := hrel
  rcases (show k = 0 ∨ k = 1 by omega) with q | q
  ·subst q
   have k0 := kC bw c0
   have k1 := kC bw c1
   have k2 := kC bw c2
   have k3 := kC bw c3
   have k4 := kC bw c4
   have k5 := kC bw c5
   have i1 := IsW.keep h bw
   have i2 := IsW.keep h' bw
   have tt := hT.kept bw
   have bB := below_one wr (.cells #[.bool s, .slice a len cap, .int .i64 e, .bool s', .slice a' len' cap', .int .i64 e'] 27)
   obtain ⟨y0, y1, y2, y3, y4, y5⟩ := fX5 wr s a len cap e s' a' len' cap' e' _ rfl
   replace i1 := IsW.keep i1 bB
   replace i2 := IsW.keep i2 bB
   replace tt := tt.kept bB
   replace bw := nT bw bB
   clear bB
   go_wp2_with fail
   generalize (wr.alloc (.cells #[.bool s, .slice a len cap, .int .i64 e, .bool s', .slice a' len' cap', .int .i64 e'] 27)) = w2 at *
   refine cM (HM1.out _ i1 i2 tt) ?_
   rintro r w3 ⟨rfl, bN⟩
   replace bw := nT bw bN
   clear bN k0 k1 k2 k3 k4 k5 y0 y1 y2 y3 y4 y5 i1 i2 tt
   cases R1
   ·go_wp2_with fail
    go_ret
    exact ⟨by first | rfl | simp, bw⟩
   ·go_wp2_with fail
    exact ⟨⟨1, by omega, by first | rfl | go_num, bw, fun _ => by first | rfl | trivial⟩, by simp [intOf]⟩
  ·subst q
   have e1 : Hid _ := K1.out (by omega)
   go_wp2_with fail
   go_ret
   rw [e1.out]
   exact ⟨rfl, bw⟩
theorem iright2_calls (s : Bool) (a : Option Addr) (len cap : Nat) (xs : List Int) (e : Int) (s' : Bool) (a' : Option Addr) (len' cap' : Nat) (ys : List Int) (e' : Int) (t : Bool) (b : Option Addr) (bl bc : Nat) (zs : List Int) (f : Int) (t' : Bool) (b' : Option Addr) (bl' bc' : Nat) (us : List Int) (f' : Int) (B : Nat) (w : World) (h : IsW w a len cap xs) (hm : len ≤ 17592186044000) (h' : IsW w a' len' cap' ys) (hm' : len' ≤ 17592186044000) (g : IsW w b bl bc zs) (gm : bl ≤ 17592186044000) (g' : IsW w b' bl' bc' us) (gm' : bl' ≤ 17592186044000) (c0 : w.cell? ⟨B, 0, none⟩ = some (.bool s)) (c1 : w.cell? ⟨B, 1, none⟩ = some (.slice a len cap)) (c2 : w.cell? ⟨B, 2, none⟩ = some (.int .i64 e)) (c3 : w.cell? ⟨B, 3, none⟩ = some (.bool s')) (c4 : w.cell? ⟨B, 4, none⟩ = some (.slice a' len' cap')) (c5 : w.cell? ⟨B, 5, none⟩ = some (.int .i64 e')) (d0 : w.cell? ⟨B, 6, none⟩ = some (.bool t)) (d1 : w.cell? ⟨B, 7, none⟩ = some (.slice b bl bc)) (d2 : w.cell? ⟨B, 8, none⟩ = some (.int .i64 f)) (d3 : w.cell? ⟨B, 9, none⟩ = some (.bool t')) (d4 : w.cell? ⟨B, 10, none⟩ = some (.slice b' bl' bc')) (d5 : w.cell? ⟨B, 11, none⟩ = some (.int .i64 f')) (hT : Tab w) :
  Calls Tryz.prog 63 #[.slice (some ⟨B, 0, none⟩) 2 2] w fun r w' => r = .returned (.bool (rtI s (val xs) e s' (val ys) e' && rtI t (val zs) f t' (val us) f')) ∧ Below w.heap.size w w' := by
 have HM1 : Hid _ := fun w' (q : IsW w' a len cap xs) (q' : IsW w' a' len' cap' ys) t' => atMost_calls s a len cap xs e s' a' len' cap' ys e' w' q hm q' hm' t'
 have HM2 : Hid _ := fun w' (q : IsW w' b bl bc zs) (q' : IsW w' b' bl' bc' us) tt => atMost_calls t b bl bc zs f t' b' bl' bc' us f' w' q gm q' gm' tt
 generalize rtI s (val xs) e s' (val ys) e' = R1 at *
 generalize rtI t (val zs) f t' (val us) f' = R2 at *
 clear hm hm' gm gm'
 go_enter Tryz.func63, Tryz.ntmps63
 go_wp2_with fail
 go_loopw [7] (fun vi wr => ∃ k : Nat, k ≤ 2 ∧ vi = .int .i64 (k : Int) ∧ Below w.heap.size w wr ∧ Hid (1 ≤ k → R1 = true) ∧ Hid (2 ≤ k → R2 = true)) (fun vi _ => 2 - (intOf vi).toNat)
 case atStart => exact ⟨0, by omega, rfl, Below.refl _ _, fun q => absurd q (by omega), fun q => absurd q (by omega)⟩
 case round =>
  obtain ⟨k, hk, rfl, bw, K1, K2⟩ := hrel
  rcases (show k = 0 ∨ k = 1 ∨ k = 2 by omega) with q | q | q
  ·subst q
   have k0 := kC bw c0
   have k1 := kC bw c1
   have k2 := kC bw c2
   have k3 := kC bw c3
   have k4 := kC bw c4
   have k5 := kC bw c5
   have i1 := IsW.keep h bw
   have i2 := IsW.keep h' bw
   have tt := hT.kept bw
   have bB := below_one wr (.cells #[.bool s, .slice a len cap, .int .i64 e, .bool s', .slice a' len' cap', .int .i64 e'] 27)
   obtain ⟨y0, y1, y2, y3, y4, y5⟩ := fX5 wr s a len cap e s' a' len' cap' e' _ rfl
   replace i1 := IsW.keep i1 bB
   replace i2 := IsW.keep i2 bB
   replace tt := tt.kept bB
   replace bw := nT bw bB
   clear bB
   go_wp2_with fail
   generalize (wr.alloc (.cells #[.bool s, .slice a len cap, .int .i64 e, .bool s', .slice a' len' cap', .int .i64 e'] 27)) = w2 at *
   refine cM (HM1.out _ i1 i2 tt) ?_
   rintro r w3 ⟨rfl, bN⟩
   replace bw := nT bw bN
   clear bN k0 k1 k2 k3 k4 k5 y0 y1 y2 y3 y4 y5 i1 i2 tt
   cases R1
   ·go_wp2_with fail
    go_ret
    exact ⟨by first | rfl | simp, bw⟩
   ·go_wp2_with fail
    exact ⟨⟨1, by omega, by first | rfl | go_num, bw, fun _ => by first | rfl | trivial, fun q => absurd q (by omega)⟩, by simp [intOf]⟩
  ·subst q
   have k0 := kC bw d0
   have k1 := kC bw d1
   have k2 := kC bw d2
   have k3 := kC bw d3
   have k4 := kC bw d4
   have k5 := kC bw d5
   have i1 := IsW.keep g bw
   have i2 := IsW.keep g' bw
   have tt := hT.kept bw
   have bB := below_one wr (.cells #[.bool t, .slice b bl bc, .int .i64 f, .bool t', .slice b' bl' bc', .int .i64 f'] 27)
   obtain ⟨y0, y1, y2, y3, y4, y5⟩ := fX5 wr t b bl bc f t' b' bl' bc' f' _ rfl
   replace i1 := IsW.keep i1 bB
   replace i2 := IsW.keep i2 bB
   replace tt := tt.kept bB
   replace bw := nT bw bB
   clear bB
   go_wp2_with fail
   generalize (wr.alloc (.cells #[.bool t, .slice b bl bc, .int .i64 f, .bool t', .slice b' bl' bc', .int .i64 f'] 27)) = w2 at *
   refine cM (HM2.out _ i1 i2 tt) ?_
   rintro r w3 ⟨rfl, bN⟩
   replace bw := nT bw bN
   clear bN k0 k1 k2 k3 k4 k5 y0 y1 y2 y3 y4 y5 i1 i2 tt
   cases R2
   ·go_wp2_with fail
    go_ret
    exact ⟨by first | rfl | simp, bw⟩
   ·go_wp2_with fail
    exact ⟨⟨2, by omega, by first | rfl | go_num, bw, fun _ => K1.out (by omega), fun _ => by first | rfl | trivial⟩, by simp [intOf]⟩
  ·subst q
   have e1 : Hid _ := K1.out (by omega)
   have e2 : Hid _ := K2.out (by omega)
   go_wp2_with fail
   go_ret
   rw [e1.out, e2.out]
   exact ⟨rfl, bw⟩
theorem meets_calls (s : Bool) (a : Option Addr) (len cap : Nat) (xs : List Int) (e : Int) (s' : Bool) (a' : Option Addr) (len' cap' : Nat) (ys : List Int) (e' : Int) (t : Bool) (b : Option Addr) (bl bc : Nat) (zs : List Int) (f : Int) (t' : Bool) (b' : Option Addr) (bl' bc' : Nat) (us : List Int) (f' : Int) (w : World) (h : IsW w a len cap xs) (hm : len ≤ 17592186044000) (h' : IsW w a' len' cap' ys) (hm' : len' ≤ 17592186044000) (g : IsW w b bl bc zs) (gm : bl ≤ 17592186044000) (g' : IsW w b' bl' bc' us) (gm' : bl' ≤ 17592186044000) (hT : Tab w) :
  Calls Tryz.prog 49 #[ivI s a len cap e s' a' len' cap' e', ivI t b bl bc f t' b' bl' bc' f'] w fun r w' => r = .returned (.bool ((rtI s (val xs) e s' (val ys) e' && rtI t (val zs) f t' (val us) f') && rtI s (val xs) e t' (val us) f' && rtI t (val zs) f s' (val ys) e')) ∧ Below w.heap.size w w' := by
 have bA : Below w.heap.size w (((w.alloc (.cells #[.bool s, .slice a len cap, .int .i64 e, .bool s', .slice a' len' cap', .int .i64 e'] 27)).alloc (.cells #[.bool t, .slice b bl bc, .int .i64 f, .bool t', .slice b' bl' bc', .int .i64 f'] 27)).alloc (.cells #[.bool s, .slice a len cap, .int .i64 e, .bool s', .slice a' len' cap', .int .i64 e', .bool t, .slice b bl bc, .int .i64 f, .bool t', .slice b' bl' bc', .int .i64 f'] 27)) := nT (nT (below_one _ _) (below_one _ _)) (below_one _ _)
 have HR : Hid _ := iright2_calls s a len cap xs e s' a' len' cap' ys e' t b bl bc zs f t' b' bl' bc' us f' (w.heap.size + 1 + 1) (((w.alloc (.cells #[.bool s, .slice a len cap, .int .i64 e, .bool s', .slice a' len' cap', .int .i64 e'] 27)).alloc (.cells #[.bool t, .slice b bl bc, .int .i64 f, .bool t', .slice b' bl' bc', .int .i64 f'] 27)).alloc (.cells #[.bool s, .slice a len cap, .int .i64 e, .bool s', .slice a' len' cap', .int .i64 e', .bool t, .slice b bl bc, .int .i64 f, .bool t', .slice b' bl' bc', .int .i64 f'] 27)) (h.keep bA) hm (h'.keep bA) hm' (g.keep bA) gm (g'.keep bA) gm' (by go_simp) (by go_simp) (by go_simp) (by go_simp) (by go_simp) (by go_simp) (by go_simp) (by go_simp) (by go_simp) (by go_simp) (by go_simp) (by go_simp) (hT.kept bA)
 have H1 : Hid _ := fun w' (q : IsW w' a len cap xs) (q' : IsW w' b' bl' bc' us) tt => atMost_calls s a len cap xs e t' b' bl' bc' us f' w' q hm q' gm' tt
 have H2 : Hid _ := fun w' (q : IsW w' b bl bc zs) (q' : IsW w' a' len' cap' ys) tt => atMost_calls t b bl bc zs f s' a' len' cap' ys e' w' q gm q' hm' tt
 generalize (rtI s (val xs) e s' (val ys) e' && rtI t (val zs) f t' (val us) f') = R0 at *
 generalize rtI s (val xs) e t' (val us) f' = R1 at *
 generalize rtI t (val zs) f s' (val ys) e' = R2 at *
 have c0 : (((w.alloc (.cells #[.bool s, .slice a len cap, .int .i64 e, .bool s', .slice a' len' cap', .int .i64 e'] 27)).alloc (.cells #[.bool t, .slice b bl bc, .int .i64 f, .bool t', .slice b' bl' bc', .int .i64 f'] 27)).alloc (.cells #[.bool s, .slice a len cap, .int .i64 e, .bool s', .slice a' len' cap', .int .i64 e', .bool t, .slice b bl bc, .int .i64 f, .bool t', .slice b' bl' bc', .int .i64 f'] 27)).cell? ⟨w.heap.size, 0, none⟩ = some (.bool s) := by go_simp
 have c1 : (((w.alloc (.cells #[.bool s, .slice a len cap, .int .i64 e, .bool s', .slice a' len' cap', .int .i64 e'] 27)).alloc (.cells #[.bool t, .slice b bl bc, .int .i64 f, .bool t', .slice b' bl' bc', .int .i64 f'] 27)).alloc (.cells #[.bool s, .slice a len cap, .int .i64 e, .bool s', .slice a' len' cap', .int .i64 e', .bool t, .slice b bl bc, .int .i64 f, .bool t', .slice b' bl' bc', .int .i64 f'] 27)).cell? ⟨w.heap.size, 1, none⟩ = some (.slice a len cap) := by go_simp
 have c2 : (((w.alloc (.cells #[.bool s, .slice a len cap, .int .i64 e, .bool s', .slice a' len' cap', .int .i64 e'] 27)).alloc (.cells #[.bool t, .slice b bl bc, .int .i64 f, .bool t', .slice b' bl' bc', .int .i64 f'] 27)).alloc (.cells #[.bool s, .slice a len cap, .int .i64 e, .bool s', .slice a' len' cap', .int .i64 e', .bool t, .slice b bl bc, .int .i64 f, .bool t', .slice b' bl' bc', .int .i64 f'] 27)).cell? ⟨w.heap.size, 2, none⟩ = some (.int .i64 e) := by go_simp
 have c3 : (((w.alloc (.cells #[.bool s, .slice a len cap, .int .i64 e, .bool s', .slice a' len' cap', .int .i64 e'] 27)).alloc (.cells #[.bool t, .slice b bl bc, .int .i64 f, .bool t', .slice b' bl' bc', .int .i64 f'] 27)).alloc (.cells #[.bool s, .slice a len cap, .int .i64 e, .bool s', .slice a' len' cap', .int .i64 e', .bool t, .slice b bl bc, .int .i64 f, .bool t', .slice b' bl' bc', .int .i64 f'] 27)).cell? ⟨w.heap.size, 3, none⟩ = some (.bool s') := by go_simp
 have c4 : (((w.alloc (.cells #[.bool s, .slice a len cap, .int .i64 e, .bool s', .slice a' len' cap', .int .i64 e'] 27)).alloc (.cells #[.bool t, .slice b bl bc, .int .i64 f, .bool t', .slice b' bl' bc', .int .i64 f'] 27)).alloc (.cells #[.bool s, .slice a len cap, .int .i64 e, .bool s', .slice a' len' cap', .int .i64 e', .bool t, .slice b bl bc, .int .i64 f, .bool t', .slice b' bl' bc', .int .i64 f'] 27)).cell? ⟨w.heap.size, 4, none⟩ = some (.slice a' len' cap') := by go_simp
 have c5 : (((w.alloc (.cells #[.bool s, .slice a len cap, .int .i64 e, .bool s', .slice a' len' cap', .int .i64 e'] 27)).alloc (.cells #[.bool t, .slice b bl bc, .int .i64 f, .bool t', .slice b' bl' bc', .int .i64 f'] 27)).alloc (.cells #[.bool s, .slice a len cap, .int .i64 e, .bool s', .slice a' len' cap', .int .i64 e', .bool t, .slice b bl bc, .int .i64 f, .bool t', .slice b' bl' bc', .int .i64 f'] 27)).cell? ⟨w.heap.size, 5, none⟩ = some (.int .i64 e') := by go_simp
 have d0 : (((w.alloc (.cells #[.bool s, .slice a len cap, .int .i64 e, .bool s', .slice a' len' cap', .int .i64 e'] 27)).alloc (.cells #[.bool t, .slice b bl bc, .int .i64 f, .bool t', .slice b' bl' bc', .int .i64 f'] 27)).alloc (.cells #[.bool s, .slice a len cap, .int .i64 e, .bool s', .slice a' len' cap', .int .i64 e', .bool t, .slice b bl bc, .int .i64 f, .bool t', .slice b' bl' bc', .int .i64 f'] 27)).cell? ⟨w.heap.size + 1, 0, none⟩ = some (.bool t) := by go_simp
 have d1 : (((w.alloc (.cells #[.bool s, .slice a len cap, .int .i64 e, .bool s', .slice a' len' cap', .int .i64 e'] 27)).alloc (.cells #[.bool t, .slice b bl bc, .int .i64 f, .bool t', .slice b' bl' bc', .int .i64 f'] 27)).alloc (.cells #[.bool s, .slice a len cap, .int .i64 e, .bool s', .slice a' len' cap', .int .i64 e', .bool t, .slice b bl bc, .int .i64 f, .bool t', .slice b' bl' bc', .int .i64 f'] 27)).cell? ⟨w.heap.size + 1, 1, none⟩ = some (.slice b bl bc) := by go_simp
 have d2 : (((w.alloc (.cells #[.bool s, .slice a len cap, .int .i64 e, .bool s', .slice a' len' cap', .int .i64 e'] 27)).alloc (.cells #[.bool t, .slice b bl bc, .int .i64 f, .bool t', .slice b' bl' bc', .int .i64 f'] 27)).alloc (.cells #[.bool s, .slice a len cap, .int .i64 e, .bool s', .slice a' len' cap', .int .i64 e', .bool t, .slice b bl bc, .int .i64 f, .bool t', .slice b' bl' bc', .int .i64 f'] 27)).cell? ⟨w.heap.size + 1, 2, none⟩ = some (.int .i64 f) := by go_simp
 have d3 : (((w.alloc (.cells #[.bool s, .slice a len cap, .int .i64 e, .bool s', .slice a' len' cap', .int .i64 e'] 27)).alloc (.cells #[.bool t, .slice b bl bc, .int .i64 f, .bool t', .slice b' bl' bc', .int .i64 f'] 27)).alloc (.cells #[.bool s, .slice a len cap, .int .i64 e, .bool s', .slice a' len' cap', .int .i64 e', .bool t, .slice b bl bc, .int .i64 f, .bool t', .slice b' bl' bc', .int .i64 f'] 27)).cell? ⟨w.heap.size + 1, 3, none⟩ = some (.bool t') := by go_simp
 have d4 : (((w.alloc (.cells #[.bool s, .slice a len cap, .int .i64 e, .bool s', .slice a' len' cap', .int .i64 e'] 27)).alloc (.cells #[.bool t, .slice b bl bc, .int .i64 f, .bool t', .slice b' bl' bc', .int .i64 f'] 27)).alloc (.cells #[.bool s, .slice a len cap, .int .i64 e, .bool s', .slice a' len' cap', .int .i64 e', .bool t, .slice b bl bc, .int .i64 f, .bool t', .slice b' bl' bc', .int .i64 f'] 27)).cell? ⟨w.heap.size + 1, 4, none⟩ = some (.slice b' bl' bc') := by go_simp
 have d5 : (((w.alloc (.cells #[.bool s, .slice a len cap, .int .i64 e, .bool s', .slice a' len' cap', .int .i64 e'] 27)).alloc (.cells #[.bool t, .slice b bl bc, .int .i64 f, .bool t', .slice b' bl' bc', .int .i64 f'] 27)).alloc (.cells #[.bool s, .slice a len cap, .int .i64 e, .bool s', .slice a' len' cap', .int .i64 e', .bool t, .slice b bl bc, .int .i64 f, .bool t', .slice b' bl' bc', .int .i64 f'] 27)).cell? ⟨w.heap.size + 1, 5, none⟩ = some (.int .i64 f') := by go_simp
 replace h := h.keep bA
 replace h' := h'.keep bA
 replace g := g.keep bA
 replace g' := g'.keep bA
 have t0 := hT.kept bA
 clear hm hm' gm gm' hT
 go_enter Tryz.func49, Tryz.ntmps49
 go_wp2_with fail
 generalize (((w.alloc (.cells #[.bool s, .slice a len cap, .int .i64 e, .bool s', .slice a' len' cap', .int .i64 e'] 27)).alloc (.cells #[.bool t, .slice b bl bc, .int .i64 f, .bool t', .slice b' bl' bc', .int .i64 f'] 27)).alloc (.cells #[.bool s, .slice a len cap, .int .i64 e, .bool s', .slice a' len' cap', .int .i64 e', .bool t, .slice b bl bc, .int .i64 f, .bool t', .slice b' bl' bc', .int .i64 f'] 27)) = w0 at *
 refine cM HR.out ?_
 rintro r w1 ⟨rfl, bN⟩
 revert c0 c1 c2 c3 c4 c5; refine cc6 bN ?_; intro c0 c1 c2 c3 c4 c5
 revert d0 d1 d2 d3 d4 d5; refine cc6 bN ?_; intro d0 d1 d2 d3 d4 d5
 replace h := h.keep bN
 replace h' := h'.keep bN
 replace g := g.keep bN
 replace g' := g'.keep bN
 replace t0 := t0.kept bN
 replace bA := nT bA bN
 clear bN
 cases R0
 ·go_wp2_with fail
  go_ret
  exact ⟨rfl, bA⟩
 go_wp2_with fail
 refine cM (H1.out _ h g' t0) ?_
 rintro r w2 ⟨rfl, bN⟩
 revert c0 c1 c2 c3 c4 c5; refine cc6 bN ?_; intro c0 c1 c2 c3 c4 c5
 revert d0 d1 d2 d3 d4 d5; refine cc6 bN ?_; intro d0 d1 d2 d3 d4 d5
 replace h := h.keep bN
 replace h' := h'.keep bN
 replace g := g.keep bN
 replace g' := g'.keep bN
 replace t0 := t0.kept bN
 replace bA := nT bA bN
 clear bN
 cases R1
 ·go_wp2_with fail
  go_ret
  exact ⟨rfl, bA⟩
 go_wp2_with fail
 refine cM (H2.out _ g h' t0) ?_
 rintro r w3 ⟨rfl, bN⟩
 replace bA := nT bA bN
 go_wp2_with fail
 go_ret
 exact ⟨by simp, bA⟩
theorem workable_calls (p : Int) (w : World) :
  Calls Tryz.prog 64 #[.int .i64 p] w fun r w' => r = .returned (.bool (decide (1 ≤ p) && decide (p ≤ 8192))) ∧ w' = w := by
 by_cases h1 : 1 ≤ p
 ·rw [decide_eq_true h1, Bool.true_and]
  go_enter Tryz.func64, Tryz.ntmps64
  go_wp2_with fail
  go_ret
  exact ⟨rfl, rfl⟩
 ·rw [decide_eq_false h1, Bool.false_and]
  go_enter Tryz.func64, Tryz.ntmps64
  go_wp2_with fail
  go_ret
  exact ⟨rfl, rfl⟩
end Go.Proofs.YtahpdcbmekgkfaaGreatDoor

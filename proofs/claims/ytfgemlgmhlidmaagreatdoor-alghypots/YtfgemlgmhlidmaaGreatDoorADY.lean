/- The document's Cbrt, Sqrt, Rsqrt: they answer as the program does. The document's Hypot: it answers as the program does. The walk of AlgHypots. -/
import Derived.Test.YtfgemlgmhlidmaaGreatDoorADX
import Derived.Test.YtfgemlgmhlidmaaGreatDoorALX
import Derived.Test.YtfgemlgmhlidmaaGreatDoorTMS
import Derived.Test.YtfgemlgmhlidmaaGreatDoorTMQ
import Derived.Test.YtfgemlgmhlidmaaGreatDoorTMH
import Derived.Test.YtfgemlgmhlidmaaGreatDoorFX

namespace Go.Proofs.YtfgemlgmhlidmaaGreatDoor
open Go.RowKit
set_option linter.unusedSimpArgs false
theorem nb_f {M : Nat} {E : Int} (hr : rightB M E = true) : nbR false M E = nearW M E ∧ flR false M E = (if exactB M E = true then 0 else inxF (nearW M E) (tinyP M E)) := by
 unfold nbR flR nearB
 rw [if_pos hr, if_pos hr]
 exact ⟨rfl, rfl⟩
theorem hy_long (m : Nat) (e : Int) (c : Nat) (ho : m % 2 = 1) (hc : blen m = c + 300) (hc0 : 100 ≤ c) (ht : -5000 ≤ tpI m e ∧ tpI m e ≤ 5000) :
  nbR false (ansM 2 (2 * (m / 2 ^ c) + 1) (e + c - 1)) (ansE 2 (2 * (m / 2 ^ c) + 1) (e + c - 1)) = nbR false (ansM 2 m e) (ansE 2 m e) ∧ flR false (ansM 2 (2 * (m / 2 ^ c) + 1) (e + c - 1)) (ansE 2 (2 * (m / 2 ^ c) + 1) (e + c - 1)) = flR false (ansM 2 m e) (ansE 2 m e) ∧ tpI (2 * (m / 2 ^ c) + 1) (e + c - 1) = tpI m e := by
 obtain ⟨t, a, b, d⟩ := long_same m e c ho hc hc0 ht
 obtain ⟨r1, _, _⟩ := ans_right 2 m e (Or.inl rfl) (by omega) ht
 obtain ⟨r2, _, _⟩ := ans_right 2 (2 * (m / 2 ^ c) + 1) (e + c - 1) (Or.inl rfl) (by omega) (by rw [t]; exact ht)
 rw [(nb_f r1).1, (nb_f r1).2, (nb_f r2).1, (nb_f r2).2, a, b, d]
 exact ⟨rfl, rfl, t⟩
theorem odd_form (r : Nat) (E : Int) : formD false (skA r true) E = (false, 2 * r + 1, E) := by
 have h : skA r true = 2 * r + 1 := by unfold skA; rfl
 rw [h]
 exact form_of_can (p := (false, 2 * r + 1, E)) (Or.inr (by show (2 * r + 1) % 2 = 1; omega))
theorem hy_bd (x y : Int) (h0 : (hyD x y).2.1 ≠ 0) : blen (hyD x y).2.1 ≤ 4400 ∧ -2148 ≤ (hyD x y).2.2 ∧ (hyD x y).2.2 ≤ 2200 ∧ (-5000 ≤ tpI (hyD x y).2.1 (hyD x y).2.2 ∧ tpI (hyD x y).2.1 (hyD x y).2.2 ≤ 5000) ∧ (hyD x y).2.1 % 2 = 1 ∧ (hyD x y).2.2 + (blen (hyD x y).2.1 : Int) ≤ 2200 := by
 have h1 := hy_low x y
 have h2 := (hy_room x y).2.2.2.1 h0
 refine ⟨by omega, by omega, by omega, by unfold tpI; omega, ?_, h2⟩
 rcases hy_can x y with q | q
 ·rw [q] at h0; exact absurd rfl h0
 ·exact q
def PtH (w0 wx : World) (X : Nat) (p : Bool × Nat × Int) : Prop := ∃ (a : Option Addr) (n c : Nat), wx.cell? ⟨X, 0, none⟩ = some (.bool p.1) ∧ wx.cell? ⟨X, 1, none⟩ = some (.slice a n c) ∧ wx.cell? ⟨X, 2, none⟩ = some (.int .i64 p.2.2) ∧ wx.frozen? ⟨X, 0, none⟩ = false ∧ wx.frozen? ⟨X, 1, none⟩ = false ∧ wx.frozen? ⟨X, 2, none⟩ = false ∧ n ≤ 1024 ∧ OwnW w0.heap.size wx a n c (wordsOf p.2.1) ∧ w0.heap.size ≤ X ∧ Below w0.heap.size w0 wx
theorem tmH (x : Int) (W : World) (a : Option Addr) (n c : Nat) (g : IsW W a n c (wordsOf (fromP x).2.1)) (hn : n ≤ 1024) : Calls Tryz.prog 28 #[dyV (fromP x).1 a n c (fromP x).2.2, dyV (fromP x).1 a n c (fromP x).2.2] W fun r w' => ∃ v', r = .returned v' ∧ DyQ W.heap.size w' v' (sqD x) ∧ Below W.heap.size W w' := by
 have hb := fa_bd x
 have := qTimes_calls (fromP x).1 a n c (wordsOf (fromP x).2.1) (fromP x).2.2 (fromP x).1 a n c (wordsOf (fromP x).2.1) (fromP x).2.2 W g (by omega) g (by omega) (by omega) (by omega) (by rw [val_words]; omega) (by rw [val_words]; omega)
 rwa [val_words, form_of_can (fa_can x)] at this
theorem sq_bits (x : Int) : blen (sqD x).2.1 ≤ 65536 ∧ (wordsOf (sqD x).2.1).length ≤ 1024 ∧ -10000000 ≤ (sqD x).2.2 ∧ (sqD x).2.2 ≤ 10000000 := by
 have hr := rightB_yes (sq_room x).2.2
 refine ⟨(great_not _).1 hr.1, (great_len _).1 hr.1, ?_, ?_⟩
 ·have := hr.2; omega
 ·have := hr.2; omega
theorem plH (x y : Int) (W : World) (a b : Option Addr) (n c m d : Nat) (g : IsW W a n c (wordsOf (sqD x).2.1)) (g' : IsW W b m d (wordsOf (sqD y).2.1)) (hn : n = (wordsOf (sqD x).2.1).length) (hm : m = (wordsOf (sqD y).2.1).length) : Calls Tryz.prog 36 #[dyV (sqD x).1 a n c (sqD x).2.2, dyV (sqD y).1 b m d (sqD y).2.2] W fun r w' => ∃ v', r = .returned v' ∧ DyQ W.heap.size w' v' (hyD x y) ∧ Below W.heap.size W w' := by
 have hx := sq_bits x
 have hy := sq_bits y
 have := qPlus_calls (sqD x).1 a n c (wordsOf (sqD x).2.1) (sqD x).2.2 (sqD y).1 b m d (wordsOf (sqD y).2.1) (sqD y).2.2 W g (by omega) g' (by omega) (by omega) (by omega) (by rw [val_words]; omega) (by rw [val_words]; omega)
 rwa [val_words, val_words, form_of_can (sq_can x), form_of_can (sq_can y)] at this
set_option maxRecDepth 100000 in
set_option maxHeartbeats 4000000 in
theorem dHypot_calls (x y : Int) (w : World) (hU : U x) (hV : U y) :
  Calls Tryz.prog 18 #[.int .u64 x, .int .u64 y] w fun q w' => q = .returned (.tuple #[.agg #[.int .u64 (hyB x y), .int .u8 (hyF x y)], .int .i64 (hyE x y)]) ∧ Below w.heap.size w w' := by
 have bA : Below w.heap.size w (w.alloc (.cells #[.int .u64 0, .int .u8 0] 25)) := below_one _ _
 have FX : Hid _ := fun W => qfrom_calls x W hU
 have FY : Hid _ := fun W => qfrom_calls y W hV
 obtain ⟨z0, z1, f0, f1⟩ := fX7 w
 have HL1 : Hid ((wordsOf (fromP x).2.1).length ≤ 1024) := (great_len _).1 (rightB_yes (fa_right x)).1
 have HL2 : Hid ((wordsOf (fromP y).2.1).length ≤ 1024) := (great_len _).1 (rightB_yes (fa_right y)).1
 clear hU hV
 cases hf : finB x with
 | false =>
  have HE : Hid (hyE x y = 5 ∧ hyB x y = 0 ∧ hyF x y = 0) := by
   have e : hyE x y = 5 := by unfold hyE; rw [hf]; rfl
   refine ⟨e, ?_, ?_⟩
   ·unfold hyB; rw [e]; rfl
   ·unfold hyF; rw [e]; rfl
  rw [HE.out.1, HE.out.2.1, HE.out.2.2]
  rw [(last_no hf).1] at FX
  clear hf HE
  generalize lastE y = EY at *
  generalize fromP x = p1 at *
  generalize fromP y = p2 at *
  go_enter Tryz.func18, Tryz.ntmps18
  go_wp2_with fail
  generalize w.alloc (.cells #[.int .u64 0, .int .u8 0] 25) = w0 at *
  refine Calls.mono (FX.out _) ?_
  rintro q w1 ⟨_, rfl, ⟨a1, n1, c1, rfl, HN1, hO1⟩, b1⟩
  have hn1 : n1 ≤ 1024 := by rw [HN1.out]; exact HL1.out
  have b2 := nT b1 (below_one w1 (.cells #[.bool p1.1, .slice a1 n1 c1, .int .i64 p1.2.2] 38))
  replace hO1 := hO1.keep (below_one w1 (.cells #[.bool p1.1, .slice a1 n1 c1, .int .i64 p1.2.2] 38))
  replace f0 := kF b2 z0 f0
  replace f1 := kF b2 z1 f1
  replace z0 := kC b2 z0
  replace z1 := kC b2 z1
  replace bA := nT bA b2
  obtain ⟨k0, k1, k2⟩ := fX8 w1 p1 a1 n1 c1
  clear b1 b2 FX HN1
  go_wp2_with fail
  generalize w1.alloc (.cells #[.bool p1.1, .slice a1 n1 c1, .int .i64 p1.2.2] 38) = w2 at *
  generalize w1.heap.size = D1 at *
  refine Calls.mono (FY.out _) ?_
  rintro q w3 ⟨_, rfl, ⟨a2, n2, c2, rfl, HN2, hO2⟩, b1⟩
  have hn2 : n2 ≤ 1024 := by rw [HN2.out]; exact HL2.out
  have b2 := nT b1 (below_one w3 (.cells #[.bool p2.1, .slice a2 n2 c2, .int .i64 p2.2.2] 38))
  replace hO1 := hO1.keep b2
  replace hO2 := hO2.keep (below_one w3 (.cells #[.bool p2.1, .slice a2 n2 c2, .int .i64 p2.2.2] 38))
  replace f0 := kF b2 z0 f0
  replace f1 := kF b2 z1 f1
  replace z0 := kC b2 z0
  replace z1 := kC b2 z1
  replace k0 := kC b2 k0
  replace k1 := kC b2 k1
  replace k2 := kC b2 k2
  replace bA := nT bA b2
  obtain ⟨j0, j1, j2⟩ := fX8 w3 p2 a2 n2 c2
  clear b1 b2 FY HN2
  go_wp2_with fail
  exact bodyPost_ret (v := .tuple #[.agg #[.int .u64 (0), .int .u8 (0)], .int .i64 (5)]) (by simp [results, Tryz.results18, go_sem, z0, z1]) rfl ⟨rfl, by repeat (first | (with_reducible exact bA) | (with_reducible refine Below.setCell ?_ (by simp) _))⟩
 | true =>
  rw [last_yes hf] at FX
  cases hg : finB y with
  | false =>
   have HE : Hid (hyE x y = 5 ∧ hyB x y = 0 ∧ hyF x y = 0) := by
    have e : hyE x y = 5 := by unfold hyE; rw [hf, hg]; rfl
    refine ⟨e, ?_, ?_⟩
    ·unfold hyB; rw [e]; rfl
    ·unfold hyF; rw [e]; rfl
   rw [HE.out.1, HE.out.2.1, HE.out.2.2]
   rw [(last_no hg).1] at FY
   clear hf hg HE
   generalize fromP x = p1 at *
   generalize fromP y = p2 at *
   go_enter Tryz.func18, Tryz.ntmps18
   go_wp2_with fail
   generalize w.alloc (.cells #[.int .u64 0, .int .u8 0] 25) = w0 at *
   refine Calls.mono (FX.out _) ?_
   rintro q w1 ⟨_, rfl, ⟨a1, n1, c1, rfl, HN1, hO1⟩, b1⟩
   have hn1 : n1 ≤ 1024 := by rw [HN1.out]; exact HL1.out
   have b2 := nT b1 (below_one w1 (.cells #[.bool p1.1, .slice a1 n1 c1, .int .i64 p1.2.2] 38))
   replace hO1 := hO1.keep (below_one w1 (.cells #[.bool p1.1, .slice a1 n1 c1, .int .i64 p1.2.2] 38))
   replace f0 := kF b2 z0 f0
   replace f1 := kF b2 z1 f1
   replace z0 := kC b2 z0
   replace z1 := kC b2 z1
   replace bA := nT bA b2
   obtain ⟨k0, k1, k2⟩ := fX8 w1 p1 a1 n1 c1
   clear b1 b2 FX HN1
   go_wp2_with fail
   generalize w1.alloc (.cells #[.bool p1.1, .slice a1 n1 c1, .int .i64 p1.2.2] 38) = w2 at *
   generalize w1.heap.size = D1 at *
   refine Calls.mono (FY.out _) ?_
   rintro q w3 ⟨_, rfl, ⟨a2, n2, c2, rfl, HN2, hO2⟩, b1⟩
   have hn2 : n2 ≤ 1024 := by rw [HN2.out]; exact HL2.out
   have b2 := nT b1 (below_one w3 (.cells #[.bool p2.1, .slice a2 n2 c2, .int .i64 p2.2.2] 38))
   replace hO1 := hO1.keep b2
   replace hO2 := hO2.keep (below_one w3 (.cells #[.bool p2.1, .slice a2 n2 c2, .int .i64 p2.2.2] 38))
   replace f0 := kF b2 z0 f0
   replace f1 := kF b2 z1 f1
   replace z0 := kC b2 z0
   replace z1 := kC b2 z1
   replace k0 := kC b2 k0
   replace k1 := kC b2 k1
   replace k2 := kC b2 k2
   replace bA := nT bA b2
   obtain ⟨j0, j1, j2⟩ := fX8 w3 p2 a2 n2 c2
   clear b1 b2 FY HN2
   go_wp2_with fail
   exact bodyPost_ret (v := .tuple #[.agg #[.int .u64 (0), .int .u8 (0)], .int .i64 (5)]) (by simp [results, Tryz.results18, go_sem, z0, z1]) rfl ⟨rfl, by repeat (first | (with_reducible exact bA) | (with_reducible refine Below.setCell ?_ (by simp) _))⟩
  | true =>
   rw [last_yes hg] at FY
   have e0 : hyE x y = 0 := by unfold hyE; rw [hf, hg]; rfl
   rw [e0]
   have HQ : Hid ((hyD x y).2.1 = 0 → hyB x y = 0 ∧ hyF x y = 0) := fun h => by unfold hyB hyF; rw [if_pos e0, if_pos e0, if_pos h, if_pos h]; exact ⟨rfl, rfl⟩
   have HS : Hid ((hyD x y).2.1 ≠ 0 → hyB x y = nbR false (ansM 2 (hyD x y).2.1 (hyD x y).2.2) (ansE 2 (hyD x y).2.1 (hyD x y).2.2) ∧ hyF x y = flR false (ansM 2 (hyD x y).2.1 (hyD x y).2.2) (ansE 2 (hyD x y).2.1 (hyD x y).2.2)) := fun h => by unfold hyB hyF; rw [if_pos e0, if_pos e0, if_neg h, if_neg h]; exact ⟨rfl, rfl⟩
   have HB : Hid ((hyD x y).2.1 ≠ 0 → _) := hy_bd x y
   have HP : Hid ((hyD x y).1 = false) := (hy_room x y).2.2.2.2
   have HL3 : Hid ((wordsOf (hyD x y).2.1).length ≤ 1024) := (great_len _).1 (rightB_yes (hy_room x y).2.2.1).1
   have TX : Hid _ := fun W a n c g hn => tmH x W a n c g hn
   have TY : Hid _ := fun W a n c g hn => tmH y W a n c g hn
   have PL : Hid _ := fun W a b n c m d g g' hn hm => plH x y W a b n c m d g g' hn hm
   clear hf hg e0
   generalize hyB x y = BB at *
   generalize hyF x y = FF at *
   generalize hyD x y = p3 at *
   generalize sqD x = q1 at *
   generalize sqD y = q2 at *
   generalize fromP x = p1 at *
   generalize fromP y = p2 at *
   go_enter Tryz.func18, Tryz.ntmps18
   go_wp2_with fail
   generalize w.alloc (.cells #[.int .u64 0, .int .u8 0] 25) = w0 at *
   refine Calls.mono (FX.out _) ?_
   rintro q w1 ⟨_, rfl, ⟨a1, n1, c1, rfl, HN1, hO1⟩, b1⟩
   have hn1 : n1 ≤ 1024 := by rw [HN1.out]; exact HL1.out
   have b2 := nT b1 (below_one w1 (.cells #[.bool p1.1, .slice a1 n1 c1, .int .i64 p1.2.2] 38))
   replace hO1 := hO1.keep (below_one w1 (.cells #[.bool p1.1, .slice a1 n1 c1, .int .i64 p1.2.2] 38))
   replace f0 := kF b2 z0 f0
   replace f1 := kF b2 z1 f1
   replace z0 := kC b2 z0
   replace z1 := kC b2 z1
   replace bA := nT bA b2
   obtain ⟨k0, k1, k2⟩ := fX8 w1 p1 a1 n1 c1
   clear b1 b2 FX HN1
   go_wp2_with fail
   generalize w1.alloc (.cells #[.bool p1.1, .slice a1 n1 c1, .int .i64 p1.2.2] 38) = w2 at *
   generalize w1.heap.size = D1 at *
   refine Calls.mono (FY.out _) ?_
   rintro q w3 ⟨_, rfl, ⟨a2, n2, c2, rfl, HN2, hO2⟩, b1⟩
   have hn2 : n2 ≤ 1024 := by rw [HN2.out]; exact HL2.out
   have b2 := nT b1 (below_one w3 (.cells #[.bool p2.1, .slice a2 n2 c2, .int .i64 p2.2.2] 38))
   replace hO1 := hO1.keep b2
   replace hO2 := hO2.keep (below_one w3 (.cells #[.bool p2.1, .slice a2 n2 c2, .int .i64 p2.2.2] 38))
   replace f0 := kF b2 z0 f0
   replace f1 := kF b2 z1 f1
   replace z0 := kC b2 z0
   replace z1 := kC b2 z1
   replace k0 := kC b2 k0
   replace k1 := kC b2 k1
   replace k2 := kC b2 k2
   replace bA := nT bA b2
   obtain ⟨j0, j1, j2⟩ := fX8 w3 p2 a2 n2 c2
   clear b1 b2 FY HN2
   go_upto_region 5 with fail
   generalize w3.alloc (.cells #[.bool p2.1, .slice a2 n2 c2, .int .i64 p2.2.2] 38) = w4 at *
   generalize w3.heap.size = D2 at *
   clear HL1 HL2
   have XB : Hid (w.heap.size < w4.heap.size) := World.block_lt_of_cell? _ _ z0
   go_cut [10] from 30 to 36 (fun va wx => ∃ X : Nat, va = .pointer (some ⟨X, 0, none⟩) ∧ PtH w4 wx X p3)
   case first =>
    have bw : Below w4.heap.size w4 w4.drew := (Below.refl _ _).drew
    refine wp_region_held (S := fun w' => Below w4.heap.size w4 w') (by kernel_rfl) ?_
    change wpAnyH _ _ _ _ _ _ _ _ (World.drew w4)
    generalize World.drew w4 = wd at bw ⊢
    refine wpAnyH_take (i := 0) (v := .agg #[.bool p1.1, .slice a1 n1 c1, .int .i64 p1.2.2]) rfl (by kernel_rfl) (by kernel_rfl) (by kernel_rfl) (fun _ _ _ h => h) (Or.inl ⟨by rfl, ?yp1⟩) bw ?rp2
    case yp1 => (intro ww hS; have qk0 := kC hS k0; have qk1 := kC hS k1; have qk2 := kC hS k2; clear hS; go_simp; try with_reducible rfl)
    try simp only [Act.put, List.setIfInBounds_toArray, List.set_cons_zero, List.set_cons_succ]
    refine wpAnyH_take (i := 1) (v := .agg #[.bool p1.1, .slice a1 n1 c1, .int .i64 p1.2.2]) rfl (by kernel_rfl) (by kernel_rfl) (by kernel_rfl) (fun _ _ _ h => h) (Or.inl ⟨by rfl, ?yp3⟩) bw ?rp4
    case yp3 => (intro ww hS; have qk0 := kC hS k0; have qk1 := kC hS k1; have qk2 := kC hS k2; clear hS; go_simp; try with_reducible rfl)
    try simp only [Act.put, List.setIfInBounds_toArray, List.set_cons_zero, List.set_cons_succ]
    refine wpAnyH_take (i := 3) (v := .agg #[.bool p2.1, .slice a2 n2 c2, .int .i64 p2.2.2]) rfl (by kernel_rfl) (by kernel_rfl) (by kernel_rfl) (fun _ _ _ h => h) (Or.inl ⟨by rfl, ?yp5⟩) bw ?rp6
    case yp5 => (intro ww hS; have qj0 := kC hS j0; have qj1 := kC hS j1; have qj2 := kC hS j2; clear hS; go_simp; try with_reducible rfl)
    try simp only [Act.put, List.setIfInBounds_toArray, List.set_cons_zero, List.set_cons_succ]
    refine wpAnyH_take (i := 4) (v := .agg #[.bool p2.1, .slice a2 n2 c2, .int .i64 p2.2.2]) rfl (by kernel_rfl) (by kernel_rfl) (by kernel_rfl) (fun _ _ _ h => h) (Or.inl ⟨by rfl, ?yp7⟩) bw ?rp8
    case yp7 => (intro ww hS; have qj0 := kC hS j0; have qj1 := kC hS j1; have qj2 := kC hS j2; clear hS; go_simp; try with_reducible rfl)
    try simp only [Act.put, List.setIfInBounds_toArray, List.set_cons_zero, List.set_cons_succ]
    refine wpAnyH_ready (rs := [2, 7]) (by kernel_rfl) (by simp) ?_
    refine (AllReadyH.cons rfl (fun K hK => ?_) (AllReadyH.cons rfl (fun K hK => ?_) (AllReadyH.nil)))
    ·go_simp
     refine Calls.mono (TX.out _ _ _ _ (hO1.1.keep bw) hn1) ?_
     rintro r vw9 ⟨_, rfl, ⟨a3, n3, c3, rfl, HN3, hO3⟩, bN⟩
     refine hK.out _ _ (nT bw bN) (fun _ => ?_)
     clear hK K
     replace bw := nT bw bN
     clear bN
     try simp only [Act.put, List.setIfInBounds_toArray, List.set_cons_zero, List.set_cons_succ]
     refine wpAnyH_ready (rs := [5, 7]) (by kernel_rfl) (by simp) ?_
     refine (AllReadyH.cons rfl (fun K hK => ?_) (AllReadyH.cons rfl (fun K hK => ?_) (AllReadyH.nil)))
     ·go_simp
      refine Calls.mono (TY.out _ _ _ _ (hO2.1.keep bw) hn2) ?_
      rintro r vw10 ⟨_, rfl, ⟨a4, n4, c4, rfl, HN4, hO4⟩, bN⟩
      replace hO3 := hO3.keep bN
      refine hK.out _ _ (nT bw bN) (fun _ => ?_)
      clear hK K
      replace bw := nT bw bN
      clear bN
      try simp only [Act.put, List.setIfInBounds_toArray, List.set_cons_zero, List.set_cons_succ]
      refine wpAnyH_ready (rs := [6, 7]) (by kernel_rfl) (by simp) ?_
      refine (AllReadyH.cons rfl (fun K hK => ?_) (AllReadyH.cons rfl (fun K hK => ?_) (AllReadyH.nil)))
      ·go_simp
       refine Calls.mono (PL.out _ _ _ _ _ _ _ hO3.1 hO4.1 HN3.out HN4.out) ?_
       rintro r vw11 ⟨_, rfl, ⟨a5, n5, c5, rfl, HN5, hO5⟩, bN⟩
       replace hO5 := hO5.low (B' := w4.heap.size) bw.size
       refine hK.out _ _ (nT bw bN) (fun _ => ?_)
       clear hK K
       replace bw := nT bw bN
       clear bN
       try simp only [Act.put, List.setIfInBounds_toArray, List.set_cons_zero, List.set_cons_succ]
       refine wpAnyH_ready (rs := [7]) (by kernel_rfl) (by simp) ?_
       refine (AllReadyH.cons rfl (fun K hK => ?_) (AllReadyH.nil))
       ·go_simp
        refine hK.out _ _ (bl_alloc bw _) (fun _ => ?_)
        clear hK K
        have bN := below_one vw11 (.cells #[.bool false, .slice none 0 0, .int .i64 0] 38)
        replace hO5 := hO5.keep bN
        obtain ⟨X0, X1, X2, X3, X4, X5⟩ := zero_dy (w := vw11) (r := vw11.heap.size) (W' := vw11.alloc (.cells #[.bool false, .slice none 0 0, .int .i64 0] 38)) (Below.refl _ _) rfl
        have XL : w4.heap.size ≤ vw11.heap.size := bw.size
        replace bw := bl_alloc bw (.cells #[.bool false, .slice none 0 0, .int .i64 0] 38)
        clear bN
        try simp only [Act.put, List.setIfInBounds_toArray, List.set_cons_zero, List.set_cons_succ]
        generalize vw11.alloc (.cells #[.bool false, .slice none 0 0, .int .i64 0] 38) = vw12 at *
        refine wpAnyH_ready (rs := [8]) (by kernel_rfl) (by simp) ?_
        refine (AllReadyH.cons rfl (fun K hK => ?_) (AllReadyH.nil))
        ·go_simp
         have bS : Below w4.heap.size w4 (((vw12.setCell ⟨vw11.heap.size, 0, none⟩ (.bool p3.1)).setCell ⟨vw11.heap.size, 1, none⟩ (.slice a5 n5 c5)).setCell ⟨vw11.heap.size, 2, none⟩ (.int .i64 p3.2.2)) := ((bw.setCell XL _).setCell XL _).setCell XL _
         refine hK.out _ _ bS (fun _ => ?_)
         clear hK K
         replace hO5 := hO5.set_dy _ _ _ _ _ _ (.bool p3.1) (.slice a5 n5 c5) (.int .i64 p3.2.2) X0 X1 X2
         obtain ⟨Z0, Z1, Z2⟩ := set3_same (r := vw11.heap.size) (v0 := .bool p3.1) (v1 := .slice a5 n5 c5) (v2 := .int .i64 p3.2.2) X0 X1 X2
         have Y0 : (((vw12.setCell ⟨vw11.heap.size, 0, none⟩ (.bool p3.1)).setCell ⟨vw11.heap.size, 1, none⟩ (.slice a5 n5 c5)).setCell ⟨vw11.heap.size, 2, none⟩ (.int .i64 p3.2.2)).frozen? ⟨vw11.heap.size, 0, none⟩ = false := by simp [X3]
         have Y1 : (((vw12.setCell ⟨vw11.heap.size, 0, none⟩ (.bool p3.1)).setCell ⟨vw11.heap.size, 1, none⟩ (.slice a5 n5 c5)).setCell ⟨vw11.heap.size, 2, none⟩ (.int .i64 p3.2.2)).frozen? ⟨vw11.heap.size, 1, none⟩ = false := by simp [X4]
         have Y2 : (((vw12.setCell ⟨vw11.heap.size, 0, none⟩ (.bool p3.1)).setCell ⟨vw11.heap.size, 1, none⟩ (.slice a5 n5 c5)).setCell ⟨vw11.heap.size, 2, none⟩ (.int .i64 p3.2.2)).frozen? ⟨vw11.heap.size, 2, none⟩ = false := by simp [X5]
         clear X0 X1 X2 X3 X4 X5 bw
         try simp only [Act.put, List.setIfInBounds_toArray, List.set_cons_zero, List.set_cons_succ]
         generalize (((vw12.setCell ⟨vw11.heap.size, 0, none⟩ (.bool p3.1)).setCell ⟨vw11.heap.size, 1, none⟩ (.slice a5 n5 c5)).setCell ⟨vw11.heap.size, 2, none⟩ (.int .i64 p3.2.2)) = vE at *
         refine wpAnyH_done (by kernel_rfl) ?_ _
         go_wp2_with fail
         go_meet
         case rel => exact ⟨_, rfl, a5, n5, c5, Z0, Z1, Z2, Y0, Y1, Y2, (by rw [HN5.out]; exact HL3.out), hO5, XL, bS⟩
      ·go_simp
       refine hK.out _ _ (bl_alloc bw _) (fun _ => ?_)
       clear hK K
       have bN := below_one vw10 (.cells #[.bool false, .slice none 0 0, .int .i64 0] 38)
       replace hO3 := hO3.keep bN
       replace hO4 := hO4.keep bN
       obtain ⟨X0, X1, X2, X3, X4, X5⟩ := zero_dy (w := vw10) (r := vw10.heap.size) (W' := vw10.alloc (.cells #[.bool false, .slice none 0 0, .int .i64 0] 38)) (Below.refl _ _) rfl
       have XL : w4.heap.size ≤ vw10.heap.size := bw.size
       replace bw := bl_alloc bw (.cells #[.bool false, .slice none 0 0, .int .i64 0] 38)
       clear bN
       try simp only [Act.put, List.setIfInBounds_toArray, List.set_cons_zero, List.set_cons_succ]
       generalize vw10.alloc (.cells #[.bool false, .slice none 0 0, .int .i64 0] 38) = vw13 at *
       refine wpAnyH_ready (rs := [6]) (by kernel_rfl) (by simp) ?_
       refine (AllReadyH.cons rfl (fun K hK => ?_) (AllReadyH.nil))
       ·go_simp
        refine Calls.mono (PL.out _ _ _ _ _ _ _ hO3.1 hO4.1 HN3.out HN4.out) ?_
        rintro r vw14 ⟨_, rfl, ⟨a5, n5, c5, rfl, HN5, hO5⟩, bN⟩
        replace hO5 := hO5.low (B' := w4.heap.size) bw.size
        refine hK.out _ _ (nT bw bN) (fun _ => ?_)
        clear hK K
        replace bw := nT bw bN
        replace X3 := kF bN X0 X3
        replace X4 := kF bN X1 X4
        replace X5 := kF bN X2 X5
        replace X0 := kC bN X0
        replace X1 := kC bN X1
        replace X2 := kC bN X2
        clear bN
        try simp only [Act.put, List.setIfInBounds_toArray, List.set_cons_zero, List.set_cons_succ]
        refine wpAnyH_ready (rs := [8]) (by kernel_rfl) (by simp) ?_
        refine (AllReadyH.cons rfl (fun K hK => ?_) (AllReadyH.nil))
        ·go_simp
         have bS : Below w4.heap.size w4 (((vw14.setCell ⟨vw10.heap.size, 0, none⟩ (.bool p3.1)).setCell ⟨vw10.heap.size, 1, none⟩ (.slice a5 n5 c5)).setCell ⟨vw10.heap.size, 2, none⟩ (.int .i64 p3.2.2)) := ((bw.setCell XL _).setCell XL _).setCell XL _
         refine hK.out _ _ bS (fun _ => ?_)
         clear hK K
         replace hO5 := hO5.set_dy _ _ _ _ _ _ (.bool p3.1) (.slice a5 n5 c5) (.int .i64 p3.2.2) X0 X1 X2
         obtain ⟨Z0, Z1, Z2⟩ := set3_same (r := vw10.heap.size) (v0 := .bool p3.1) (v1 := .slice a5 n5 c5) (v2 := .int .i64 p3.2.2) X0 X1 X2
         have Y0 : (((vw14.setCell ⟨vw10.heap.size, 0, none⟩ (.bool p3.1)).setCell ⟨vw10.heap.size, 1, none⟩ (.slice a5 n5 c5)).setCell ⟨vw10.heap.size, 2, none⟩ (.int .i64 p3.2.2)).frozen? ⟨vw10.heap.size, 0, none⟩ = false := by simp [X3]
         have Y1 : (((vw14.setCell ⟨vw10.heap.size, 0, none⟩ (.bool p3.1)).setCell ⟨vw10.heap.size, 1, none⟩ (.slice a5 n5 c5)).setCell ⟨vw10.heap.size, 2, none⟩ (.int .i64 p3.2.2)).frozen? ⟨vw10.heap.size, 1, none⟩ = false := by simp [X4]
         have Y2 : (((vw14.setCell ⟨vw10.heap.size, 0, none⟩ (.bool p3.1)).setCell ⟨vw10.heap.size, 1, none⟩ (.slice a5 n5 c5)).setCell ⟨vw10.heap.size, 2, none⟩ (.int .i64 p3.2.2)).frozen? ⟨vw10.heap.size, 2, none⟩ = false := by simp [X5]
         clear X0 X1 X2 X3 X4 X5 bw
         try simp only [Act.put, List.setIfInBounds_toArray, List.set_cons_zero, List.set_cons_succ]
         generalize (((vw14.setCell ⟨vw10.heap.size, 0, none⟩ (.bool p3.1)).setCell ⟨vw10.heap.size, 1, none⟩ (.slice a5 n5 c5)).setCell ⟨vw10.heap.size, 2, none⟩ (.int .i64 p3.2.2)) = vE at *
         refine wpAnyH_done (by kernel_rfl) ?_ _
         go_wp2_with fail
         go_meet
         case rel => exact ⟨_, rfl, a5, n5, c5, Z0, Z1, Z2, Y0, Y1, Y2, (by rw [HN5.out]; exact HL3.out), hO5, XL, bS⟩
     ·go_simp
      refine hK.out _ _ (bl_alloc bw _) (fun _ => ?_)
      clear hK K
      have bN := below_one vw9 (.cells #[.bool false, .slice none 0 0, .int .i64 0] 38)
      replace hO3 := hO3.keep bN
      obtain ⟨X0, X1, X2, X3, X4, X5⟩ := zero_dy (w := vw9) (r := vw9.heap.size) (W' := vw9.alloc (.cells #[.bool false, .slice none 0 0, .int .i64 0] 38)) (Below.refl _ _) rfl
      have XL : w4.heap.size ≤ vw9.heap.size := bw.size
      replace bw := bl_alloc bw (.cells #[.bool false, .slice none 0 0, .int .i64 0] 38)
      clear bN
      try simp only [Act.put, List.setIfInBounds_toArray, List.set_cons_zero, List.set_cons_succ]
      generalize vw9.alloc (.cells #[.bool false, .slice none 0 0, .int .i64 0] 38) = vw15 at *
      refine wpAnyH_ready (rs := [5]) (by kernel_rfl) (by simp) ?_
      refine (AllReadyH.cons rfl (fun K hK => ?_) (AllReadyH.nil))
      ·go_simp
       refine Calls.mono (TY.out _ _ _ _ (hO2.1.keep bw) hn2) ?_
       rintro r vw16 ⟨_, rfl, ⟨a4, n4, c4, rfl, HN4, hO4⟩, bN⟩
       replace hO3 := hO3.keep bN
       refine hK.out _ _ (nT bw bN) (fun _ => ?_)
       clear hK K
       replace bw := nT bw bN
       replace X3 := kF bN X0 X3
       replace X4 := kF bN X1 X4
       replace X5 := kF bN X2 X5
       replace X0 := kC bN X0
       replace X1 := kC bN X1
       replace X2 := kC bN X2
       clear bN
       try simp only [Act.put, List.setIfInBounds_toArray, List.set_cons_zero, List.set_cons_succ]
       refine wpAnyH_ready (rs := [6]) (by kernel_rfl) (by simp) ?_
       refine (AllReadyH.cons rfl (fun K hK => ?_) (AllReadyH.nil))
       ·go_simp
        refine Calls.mono (PL.out _ _ _ _ _ _ _ hO3.1 hO4.1 HN3.out HN4.out) ?_
        rintro r vw17 ⟨_, rfl, ⟨a5, n5, c5, rfl, HN5, hO5⟩, bN⟩
        replace hO5 := hO5.low (B' := w4.heap.size) bw.size
        refine hK.out _ _ (nT bw bN) (fun _ => ?_)
        clear hK K
        replace bw := nT bw bN
        replace X3 := kF bN X0 X3
        replace X4 := kF bN X1 X4
        replace X5 := kF bN X2 X5
        replace X0 := kC bN X0
        replace X1 := kC bN X1
        replace X2 := kC bN X2
        clear bN
        try simp only [Act.put, List.setIfInBounds_toArray, List.set_cons_zero, List.set_cons_succ]
        refine wpAnyH_ready (rs := [8]) (by kernel_rfl) (by simp) ?_
        refine (AllReadyH.cons rfl (fun K hK => ?_) (AllReadyH.nil))
        ·go_simp
         have bS : Below w4.heap.size w4 (((vw17.setCell ⟨vw9.heap.size, 0, none⟩ (.bool p3.1)).setCell ⟨vw9.heap.size, 1, none⟩ (.slice a5 n5 c5)).setCell ⟨vw9.heap.size, 2, none⟩ (.int .i64 p3.2.2)) := ((bw.setCell XL _).setCell XL _).setCell XL _
         refine hK.out _ _ bS (fun _ => ?_)
         clear hK K
         replace hO5 := hO5.set_dy _ _ _ _ _ _ (.bool p3.1) (.slice a5 n5 c5) (.int .i64 p3.2.2) X0 X1 X2
         obtain ⟨Z0, Z1, Z2⟩ := set3_same (r := vw9.heap.size) (v0 := .bool p3.1) (v1 := .slice a5 n5 c5) (v2 := .int .i64 p3.2.2) X0 X1 X2
         have Y0 : (((vw17.setCell ⟨vw9.heap.size, 0, none⟩ (.bool p3.1)).setCell ⟨vw9.heap.size, 1, none⟩ (.slice a5 n5 c5)).setCell ⟨vw9.heap.size, 2, none⟩ (.int .i64 p3.2.2)).frozen? ⟨vw9.heap.size, 0, none⟩ = false := by simp [X3]
         have Y1 : (((vw17.setCell ⟨vw9.heap.size, 0, none⟩ (.bool p3.1)).setCell ⟨vw9.heap.size, 1, none⟩ (.slice a5 n5 c5)).setCell ⟨vw9.heap.size, 2, none⟩ (.int .i64 p3.2.2)).frozen? ⟨vw9.heap.size, 1, none⟩ = false := by simp [X4]
         have Y2 : (((vw17.setCell ⟨vw9.heap.size, 0, none⟩ (.bool p3.1)).setCell ⟨vw9.heap.size, 1, none⟩ (.slice a5 n5 c5)).setCell ⟨vw9.heap.size, 2, none⟩ (.int .i64 p3.2.2)).frozen? ⟨vw9.heap.size, 2, none⟩ = false := by simp [X5]
         clear X0 X1 X2 X3 X4 X5 bw
         try simp only [Act.put, List.setIfInBounds_toArray, List.set_cons_zero, List.set_cons_succ]
         generalize (((vw17.setCell ⟨vw9.heap.size, 0, none⟩ (.bool p3.1)).setCell ⟨vw9.heap.size, 1, none⟩ (.slice a5 n5 c5)).setCell ⟨vw9.heap.size, 2, none⟩ (.int .i64 p3.2.2)) = vE at *
         refine wpAnyH_done (by kernel_rfl) ?_ _
         go_wp2_with fail
         go_meet
         case rel => exact ⟨_, rfl, a5, n5, c5, Z0, Z1, Z2, Y0, Y1, Y2, (by rw [HN5.out]; exact HL3.out), hO5, XL, bS⟩
    ·go_simp
     refine hK.out _ _ (bl_alloc bw _) (fun _ => ?_)
     clear hK K
     have bN := below_one wd (.cells #[.bool false, .slice none 0 0, .int .i64 0] 38)
     obtain ⟨X0, X1, X2, X3, X4, X5⟩ := zero_dy (w := wd) (r := wd.heap.size) (W' := wd.alloc (.cells #[.bool false, .slice none 0 0, .int .i64 0] 38)) (Below.refl _ _) rfl
     have XL : w4.heap.size ≤ wd.heap.size := bw.size
     replace bw := bl_alloc bw (.cells #[.bool false, .slice none 0 0, .int .i64 0] 38)
     clear bN
     try simp only [Act.put, List.setIfInBounds_toArray, List.set_cons_zero, List.set_cons_succ]
     generalize wd.alloc (.cells #[.bool false, .slice none 0 0, .int .i64 0] 38) = vw18 at *
     refine wpAnyH_ready (rs := [2]) (by kernel_rfl) (by simp) ?_
     refine (AllReadyH.cons rfl (fun K hK => ?_) (AllReadyH.nil))
     ·go_simp
      refine Calls.mono (TX.out _ _ _ _ (hO1.1.keep bw) hn1) ?_
      rintro r vw19 ⟨_, rfl, ⟨a3, n3, c3, rfl, HN3, hO3⟩, bN⟩
      refine hK.out _ _ (nT bw bN) (fun _ => ?_)
      clear hK K
      replace bw := nT bw bN
      replace X3 := kF bN X0 X3
      replace X4 := kF bN X1 X4
      replace X5 := kF bN X2 X5
      replace X0 := kC bN X0
      replace X1 := kC bN X1
      replace X2 := kC bN X2
      clear bN
      try simp only [Act.put, List.setIfInBounds_toArray, List.set_cons_zero, List.set_cons_succ]
      refine wpAnyH_ready (rs := [5]) (by kernel_rfl) (by simp) ?_
      refine (AllReadyH.cons rfl (fun K hK => ?_) (AllReadyH.nil))
      ·go_simp
       refine Calls.mono (TY.out _ _ _ _ (hO2.1.keep bw) hn2) ?_
       rintro r vw20 ⟨_, rfl, ⟨a4, n4, c4, rfl, HN4, hO4⟩, bN⟩
       replace hO3 := hO3.keep bN
       refine hK.out _ _ (nT bw bN) (fun _ => ?_)
       clear hK K
       replace bw := nT bw bN
       replace X3 := kF bN X0 X3
       replace X4 := kF bN X1 X4
       replace X5 := kF bN X2 X5
       replace X0 := kC bN X0
       replace X1 := kC bN X1
       replace X2 := kC bN X2
       clear bN
       try simp only [Act.put, List.setIfInBounds_toArray, List.set_cons_zero, List.set_cons_succ]
       refine wpAnyH_ready (rs := [6]) (by kernel_rfl) (by simp) ?_
       refine (AllReadyH.cons rfl (fun K hK => ?_) (AllReadyH.nil))
       ·go_simp
        refine Calls.mono (PL.out _ _ _ _ _ _ _ hO3.1 hO4.1 HN3.out HN4.out) ?_
        rintro r vw21 ⟨_, rfl, ⟨a5, n5, c5, rfl, HN5, hO5⟩, bN⟩
        replace hO5 := hO5.low (B' := w4.heap.size) bw.size
        refine hK.out _ _ (nT bw bN) (fun _ => ?_)
        clear hK K
        replace bw := nT bw bN
        replace X3 := kF bN X0 X3
        replace X4 := kF bN X1 X4
        replace X5 := kF bN X2 X5
        replace X0 := kC bN X0
        replace X1 := kC bN X1
        replace X2 := kC bN X2
        clear bN
        try simp only [Act.put, List.setIfInBounds_toArray, List.set_cons_zero, List.set_cons_succ]
        refine wpAnyH_ready (rs := [8]) (by kernel_rfl) (by simp) ?_
        refine (AllReadyH.cons rfl (fun K hK => ?_) (AllReadyH.nil))
        ·go_simp
         have bS : Below w4.heap.size w4 (((vw21.setCell ⟨wd.heap.size, 0, none⟩ (.bool p3.1)).setCell ⟨wd.heap.size, 1, none⟩ (.slice a5 n5 c5)).setCell ⟨wd.heap.size, 2, none⟩ (.int .i64 p3.2.2)) := ((bw.setCell XL _).setCell XL _).setCell XL _
         refine hK.out _ _ bS (fun _ => ?_)
         clear hK K
         replace hO5 := hO5.set_dy _ _ _ _ _ _ (.bool p3.1) (.slice a5 n5 c5) (.int .i64 p3.2.2) X0 X1 X2
         obtain ⟨Z0, Z1, Z2⟩ := set3_same (r := wd.heap.size) (v0 := .bool p3.1) (v1 := .slice a5 n5 c5) (v2 := .int .i64 p3.2.2) X0 X1 X2
         have Y0 : (((vw21.setCell ⟨wd.heap.size, 0, none⟩ (.bool p3.1)).setCell ⟨wd.heap.size, 1, none⟩ (.slice a5 n5 c5)).setCell ⟨wd.heap.size, 2, none⟩ (.int .i64 p3.2.2)).frozen? ⟨wd.heap.size, 0, none⟩ = false := by simp [X3]
         have Y1 : (((vw21.setCell ⟨wd.heap.size, 0, none⟩ (.bool p3.1)).setCell ⟨wd.heap.size, 1, none⟩ (.slice a5 n5 c5)).setCell ⟨wd.heap.size, 2, none⟩ (.int .i64 p3.2.2)).frozen? ⟨wd.heap.size, 1, none⟩ = false := by simp [X4]
         have Y2 : (((vw21.setCell ⟨wd.heap.size, 0, none⟩ (.bool p3.1)).setCell ⟨wd.heap.size, 1, none⟩ (.slice a5 n5 c5)).setCell ⟨wd.heap.size, 2, none⟩ (.int .i64 p3.2.2)).frozen? ⟨wd.heap.size, 2, none⟩ = false := by simp [X5]
         clear X0 X1 X2 X3 X4 X5 bw
         try simp only [Act.put, List.setIfInBounds_toArray, List.set_cons_zero, List.set_cons_succ]
         generalize (((vw21.setCell ⟨wd.heap.size, 0, none⟩ (.bool p3.1)).setCell ⟨wd.heap.size, 1, none⟩ (.slice a5 n5 c5)).setCell ⟨wd.heap.size, 2, none⟩ (.int .i64 p3.2.2)) = vE at *
         refine wpAnyH_done (by kernel_rfl) ?_ _
         go_wp2_with fail
         go_meet
         case rel => exact ⟨_, rfl, a5, n5, c5, Z0, Z1, Z2, Y0, Y1, Y2, (by rw [HN5.out]; exact HL3.out), hO5, XL, bS⟩
   case rest =>
   obtain ⟨X, rfl, a, n, c, X0, X1, X2, X3, X4, X5, hn, hO, XL, b1⟩ := hcut
   replace f0 := kF b1 z0 f0
   replace f1 := kF b1 z1 f1
   replace z0 := kC b1 z0
   replace z1 := kC b1 z1
   replace bA := nT bA b1
   have hX : w.heap.size ≤ X := Nat.le_trans (Nat.le_of_lt XB.out) XL
   have hXn : X ≠ w.heap.size := by have := XB.out; omega
   have hXm : w.heap.size ≠ X := by have := XB.out; omega
   clear b1 TX TY PL hO1 hO2 hn1 hn2 k0 k1 k2 j0 j1 j2
   have ZC : Hid _ := qZero_calls p3.1 a n c (wordsOf p3.2.1) p3.2.2 wc hO.1 (by omega)
   rw [val_words] at ZC
   by_cases h0 : p3.2.1 = 0
   ·rw [decide_eq_true h0] at ZC
    have HE : Hid _ := HQ.out h0
    clear HS HB HQ h0
    go_wp2_with fail
    refine Calls.mono ZC.out ?_
    rintro q v1 ⟨rfl, b1⟩
    replace f0 := kF b1 z0 f0
    replace f1 := kF b1 z1 f1
    replace z0 := kC b1 z0
    replace z1 := kC b1 z1
    replace bA := nT bA b1
    go_wp2_with fail
    exact bodyPost_ret (v := .tuple #[.agg #[.int .u64 (0), .int .u8 (0)], .int .i64 (0)]) (by simp [results, Tryz.results18, go_sem, z0, z1]) rfl ⟨by rw [HE.out.1, HE.out.2], by repeat (first | (with_reducible exact bA) | (with_reducible refine Below.setCell ?_ (by simp) _))⟩
   ·rw [decide_eq_false h0] at ZC
    obtain ⟨hb1, hb2, hb3, hb4, hb5, hb6⟩ := HB.out h0
    have HE : Hid _ := HS.out h0
    clear HS HB HQ
    go_wp2_with fail
    refine Calls.mono ZC.out ?_
    rintro q v1 ⟨rfl, b1⟩
    clear ZC
    replace f0 := kF b1 z0 f0
    replace f1 := kF b1 z1 f1
    replace z0 := kC b1 z0
    replace z1 := kC b1 z1
    replace X3 := kF b1 X0 X3
    replace X4 := kF b1 X1 X4
    replace X5 := kF b1 X2 X5
    replace X0 := kC b1 X0
    replace X1 := kC b1 X1
    replace X2 := kC b1 X2
    replace hO := hO.keep b1
    replace bA := nT bA b1
    clear b1
    have LC : Hid _ := fun W (g : IsW W a n c (wordsOf p3.2.1)) => nLen_calls a n c (wordsOf p3.2.1) W g (by omega)
    rw [val_words] at LC
    rw [HP.out] at X0
    by_cases hl : blen p3.2.1 ≤ 400
    ·have RT : Hid _ := fun W g => root2D_calls false a n c p3.2.1 p3.2.2 W g hn h0 (by omega) (by omega) hb4
     have hl2 : ¬ (400 : Int) < (blen p3.2.1 : Int) := by omega
     clear hl hb1 hb2 hb3 hb4 hb5 hb6 h0
     generalize nbR false (ansM 2 p3.2.1 p3.2.2) (ansE 2 p3.2.1 p3.2.2) = B1 at *
     generalize flR false (ansM 2 p3.2.1 p3.2.2) (ansE 2 p3.2.1 p3.2.2) = F1 at *
     generalize blen p3.2.1 = L at *
     go_wp2_with fail
     refine Calls.mono (LC.out _ hO.1) ?_
     rintro q v2 ⟨rfl, b1⟩
     replace f0 := kF b1 z0 f0
     replace f1 := kF b1 z1 f1
     replace z0 := kC b1 z0
     replace z1 := kC b1 z1
     replace X3 := kF b1 X0 X3
     replace X4 := kF b1 X1 X4
     replace X5 := kF b1 X2 X5
     replace X0 := kC b1 X0
     replace X1 := kC b1 X1
     replace X2 := kC b1 X2
     replace hO := hO.keep b1
     replace bA := nT bA b1
     clear b1 LC
     go_wp2_with fail
     refine Calls.mono (RT.out _ hO.1) ?_
     rintro q v3 ⟨rfl, b1⟩
     replace f0 := kF b1 z0 f0
     replace f1 := kF b1 z1 f1
     replace z0 := kC b1 z0
     replace z1 := kC b1 z1
     replace bA := nT bA b1
     go_wp2_with fail
     exact bodyPost_ret (v := .tuple #[.agg #[.int .u64 (B1), .int .u8 (F1)], .int .i64 (0)]) (by simp [results, Tryz.results18, go_sem, z0, z1]) rfl ⟨by rw [HE.out.1, HE.out.2], by repeat (first | (with_reducible exact bA) | (with_reducible refine Below.setCell ?_ (by simp) _))⟩
    ·obtain ⟨cc, hcc⟩ : ∃ cc : Nat, blen p3.2.1 = cc + 300 := ⟨blen p3.2.1 - 300, by omega⟩
     obtain ⟨g1, g2, g3⟩ := hy_long p3.2.1 p3.2.2 cc hb5 hcc (by omega) hb4
     rw [← g1, ← g2] at HE
     have hbR : blen (2 * (p3.2.1 / 2 ^ cc) + 1) ≤ 1000 := by
      have q : tpI (2 * (p3.2.1 / 2 ^ cc) + 1) (p3.2.2 + cc - 1) = tpI p3.2.1 p3.2.2 := g3
      unfold tpI at q
      omega
     have hbr : blen (p3.2.1 / 2 ^ cc) ≤ 1000 := Nat.le_trans (blen_mono (by omega)) hbR
     have HLr : Hid ((wordsOf (p3.2.1 / 2 ^ cc)).length ≤ 1024 ∧ (wordsOf (2 * (p3.2.1 / 2 ^ cc) + 1)).length ≤ 1024) := ⟨(great_len _).1 ((great_not _).2 (by omega)), (great_len _).1 ((great_not _).2 (by omega))⟩
     have RT : Hid _ := fun W a' n' c' g hn' => root2D_calls false a' n' c' (2 * (p3.2.1 / 2 ^ cc) + 1) (p3.2.2 + cc - 1) W g hn' (by omega) (by omega) (by omega) (by rw [g3]; exact hb4)
     have SC : Hid _ := fun W (g : IsW W a n c (wordsOf p3.2.1)) => nShr_calls a n c cc (wordsOf p3.2.1) W g (by omega) (by omega)
     rw [val_words] at SC
     have SK : Hid _ := fun W a' n' c' g hn' => stickyD_calls false a' n' c' (p3.2.1 / 2 ^ cc) true (p3.2.2 + cc) W g hn' (by omega) (by omega) (by omega)
     rw [odd_form] at SK
     have hl2 : (400 : Int) < (blen p3.2.1 : Int) := by omega
     have hL3 : (blen p3.2.1 : Int) - 300 = (cc : Int) := by omega
     have hL4 : (blen p3.2.1 : Int) ≤ 5000 := by omega
     have hE1 : -3000 ≤ p3.2.2 := by omega
     have hwc : IntKind.i64.wrap (cc : Int) = (cc : Int) := by rw [IntKind.wrap_i64]; omega
     have HW2 : Hid (IntKind.i64.wrap (IntKind.i64.wrap (p3.2.2 + (blen p3.2.1 : Int)) - 300) = p3.2.2 + (cc : Int)) := by rw [Hid, IntKind.wrap_i64, IntKind.wrap_i64]; omega
     have hE2 : p3.2.2 ≤ 3000 := by omega
     clear hl hb1 hb2 hb3 hb4 hb5 hb6 h0 g1 g2 g3 hbR hbr hcc
     generalize nbR false (ansM 2 (2 * (p3.2.1 / 2 ^ cc) + 1) (p3.2.2 + cc - 1)) (ansE 2 (2 * (p3.2.1 / 2 ^ cc) + 1) (p3.2.2 + cc - 1)) = B1 at *
     generalize flR false (ansM 2 (2 * (p3.2.1 / 2 ^ cc) + 1) (p3.2.2 + cc - 1)) (ansE 2 (2 * (p3.2.1 / 2 ^ cc) + 1) (p3.2.2 + cc - 1)) = F1 at *
     generalize blen p3.2.1 = L at *
     generalize 2 * (p3.2.1 / 2 ^ cc) + 1 = R2 at *
     generalize p3.2.1 / 2 ^ cc = R1 at *
     go_wp2_with fail
     refine Calls.mono (LC.out _ hO.1) ?_
     rintro q v2 ⟨rfl, b1⟩
     replace f0 := kF b1 z0 f0
     replace f1 := kF b1 z1 f1
     replace z0 := kC b1 z0
     replace z1 := kC b1 z1
     replace X3 := kF b1 X0 X3
     replace X4 := kF b1 X1 X4
     replace X5 := kF b1 X2 X5
     replace X0 := kC b1 X0
     replace X1 := kC b1 X1
     replace X2 := kC b1 X2
     replace hO := hO.keep b1
     replace bA := nT bA b1
     clear b1
     go_wp2_with fail
     have bw : Below v2.heap.size v2 v2.drew := (Below.refl _ _).drew
     refine wp_region_held (S := fun w' => Below v2.heap.size v2 w') (by kernel_rfl) ?_
     change wpAnyH _ _ _ _ _ _ _ _ (World.drew v2)
     generalize World.drew v2 = wd at bw ⊢
     refine wpAnyH_take (i := 0) (v := .pointer (some ⟨X, 1, none⟩)) rfl (by kernel_rfl) (by kernel_rfl) (by kernel_rfl) (fun _ _ _ h => h) (Or.inl ⟨by rfl, ?yp22⟩) bw ?rp23
     case yp22 => (intro ww hS; clear hS; go_simp; try with_reducible rfl)
     try simp only [Act.put, List.setIfInBounds_toArray, List.set_cons_zero, List.set_cons_succ]
     refine wpAnyH_take (i := 1) (v := .slice a n c) rfl (by kernel_rfl) (by kernel_rfl) (by kernel_rfl) (fun _ _ _ h => h) (Or.inl ⟨by rfl, ?yp24⟩) bw ?rp25
     case yp24 => (intro ww hS; have qX1 := kC hS X1; clear hS; go_simp; try with_reducible rfl)
     try simp only [Act.put, List.setIfInBounds_toArray, List.set_cons_zero, List.set_cons_succ]
     refine wpAnyH_take (i := 2) (v := .pointer (some ⟨X, 1, none⟩)) rfl (by kernel_rfl) (by kernel_rfl) (by kernel_rfl) (fun _ _ _ h => h) (Or.inl ⟨by rfl, ?yp26⟩) bw ?rp27
     case yp26 => (intro ww hS; clear hS; go_simp; try with_reducible rfl)
     try simp only [Act.put, List.setIfInBounds_toArray, List.set_cons_zero, List.set_cons_succ]
     refine wpAnyH_take (i := 3) (v := .slice a n c) rfl (by kernel_rfl) (by kernel_rfl) (by kernel_rfl) (fun _ _ _ h => h) (Or.inl ⟨by rfl, ?yp28⟩) bw ?rp29
     case yp28 => (intro ww hS; have qX1 := kC hS X1; clear hS; go_simp; try with_reducible rfl)
     try simp only [Act.put, List.setIfInBounds_toArray, List.set_cons_zero, List.set_cons_succ]
     refine wpAnyH_ready (rs := [4]) (by kernel_rfl) (by simp) ?_
     refine (AllReadyH.cons rfl (fun K hK => ?_) (AllReadyH.nil))
     go_simp
     refine Calls.mono (LC.out _ (hO.1.keep bw)) ?_
     rintro r v3 ⟨rfl, bN⟩
     refine hK.out _ _ (nT bw bN) (fun _ => ?_)
     clear hK K
     replace bw := nT bw bN
     clear bN
     try simp only [Act.put, List.setIfInBounds_toArray, List.set_cons_zero, List.set_cons_succ]
     refine wpAnyH_take (i := 5) (v := .int .i64 (cc : Int)) rfl (by kernel_rfl) (by kernel_rfl) (by kernel_rfl) (fun _ _ _ h => h) (Or.inl ⟨by rfl, ?yp30⟩) bw ?rp31
     case yp30 => (intro ww hS; clear hS; go_simp; try with_reducible rfl)
     try simp only [Act.put, List.setIfInBounds_toArray, List.set_cons_zero, List.set_cons_succ]
     refine wpAnyH_ready (rs := [6]) (by kernel_rfl) (by simp) ?_
     refine (AllReadyH.cons rfl (fun K hK => ?_) (AllReadyH.nil))
     go_simp
     refine Calls.mono (SC.out _ (hO.1.keep bw)) ?_
     rintro r v4 ⟨_, rfl, hA, bN⟩
     obtain ⟨a6, n6, c6, rfl, HN6, hn6, hO6⟩ := hA.open HLr.out.1
     refine hK.out _ _ (nT bw bN) (fun _ => ?_)
     clear hK K
     replace bw := nT bw bN
     clear bN hA SC
     generalize lostB p3.2.1 cc = LB at *
     try simp only [Act.put, List.setIfInBounds_toArray, List.set_cons_zero, List.set_cons_succ]
     refine wpAnyH_take (i := 7) (v := .tuple #[.slice a6 n6 c6, .bool LB]) rfl (by kernel_rfl) (by kernel_rfl) (by kernel_rfl) (fun _ _ _ h => h) (Or.inl ⟨by rfl, ?yp32⟩) bw ?rp33
     case yp32 => (intro ww hS; clear hS; go_simp; try with_reducible rfl)
     try simp only [Act.put, List.setIfInBounds_toArray, List.set_cons_zero, List.set_cons_succ]
     refine wpAnyH_take (i := 8) (v := .slice a6 n6 c6) rfl (by kernel_rfl) (by kernel_rfl) (by kernel_rfl) (fun _ _ _ h => h) (Or.inl ⟨by rfl, ?yp34⟩) bw ?rp35
     case yp34 => (intro ww hS; clear hS; go_simp; try with_reducible rfl)
     try simp only [Act.put, List.setIfInBounds_toArray, List.set_cons_zero, List.set_cons_succ]
     refine wpAnyH_take (i := 9) (v := .bool LB) rfl (by kernel_rfl) (by kernel_rfl) (by kernel_rfl) (fun _ _ _ h => h) (Or.inl ⟨by rfl, ?yp36⟩) bw ?rp37
     case yp36 => (intro ww hS; clear hS; go_simp; try with_reducible rfl)
     try simp only [Act.put, List.setIfInBounds_toArray, List.set_cons_zero, List.set_cons_succ]
     refine wpAnyH_ready (rs := [10]) (by kernel_rfl) (by simp) ?_
     refine (AllReadyH.cons rfl (fun K hK => ?_) (AllReadyH.nil))
     go_simp
     refine hK.out _ _ bw (fun _ => ?_)
     clear hK K
     try simp only [Act.put, List.setIfInBounds_toArray, List.set_cons_zero, List.set_cons_succ]
     refine wpAnyH_ready (rs := [11]) (by kernel_rfl) (by simp) ?_
     refine (AllReadyH.cons rfl (fun K hK => ?_) (AllReadyH.nil))
     go_simp
     refine hK.out _ _ bw (fun _ => ?_)
     clear hK K
     try simp only [Act.put, List.setIfInBounds_toArray, List.set_cons_zero, List.set_cons_succ]
     refine wpAnyH_done (by kernel_rfl) ?_ _
     replace f0 := kF bw z0 f0
     replace f1 := kF bw z1 f1
     replace z0 := kC bw z0
     replace z1 := kC bw z1
     replace X3 := kF bw X0 X3
     replace X4 := kF bw X1 X4
     replace X5 := kF bw X2 X5
     replace X0 := kC bw X0
     replace X1 := kC bw X1
     replace X2 := kC bw X2
     replace hO := hO.keep bw
     replace bA := nT bA bw
     clear bw
     go_wp2_with fail
     have bD : Below v4.heap.size v4 v4.drew := (Below.refl _ _).drew
     go_region_with (first
       | (go_at_call 48; refine (LC.out _ (hO.1.keep bD)).mono ?_; rintro q v5 ⟨rfl, b1⟩; have bI := nT bD b1; have y1 := kC bI X1; have y2 := kC bI X2; clear b1)
       | (go_at_call 54; refine calls_guard #[.bool false, .slice a6 n6 c6, .bool true, .int .i64 (p3.2.2 + (cc : Int))] ?_ ?_; (focus (rw [HW2.out])); refine (SK.out _ a6 n6 c6 (hO6.1.keep bI) hn6).mono ?_; rintro q v6 ⟨_, rfl, ⟨a7, n7, c7, rfl, HN7, hO7⟩, b2⟩; have hn7 : n7 ≤ 1024 := (by rw [HN7.out]; exact HLr.out.2); have bJ := nT bI b2; have x3 := kF bJ X0 X3; have x4 := kF bJ X1 X4; have x5 := kF bJ X2 X5; have x0 := kC bJ X0; have x1 := kC bJ X1; have x2 := kC bJ X2; clear b2))
     all_goals
      have u0 := kC bJ z0
      have u1 := kC bJ z1
      have t0 := kF bJ z0 f0
      have t1 := kF bJ z1 f1
      have bB : Below w.heap.size w (((v6.setCell ⟨X, 0, none⟩ (.bool false)).setCell ⟨X, 1, none⟩ (.slice a7 n7 c7)).setCell ⟨X, 2, none⟩ (.int .i64 (p3.2.2 + (cc : Int) - 1))) := (((nT bA bJ).setCell hX _).setCell hX _).setCell hX _
      have hO8 := hO7.set_dy _ _ _ _ _ _ (.bool false) (.slice a7 n7 c7) (.int .i64 (p3.2.2 + (cc : Int) - 1)) x0 x1 x2
      obtain ⟨Z0, Z1, Z2⟩ := set3_same (r := X) (v0 := .bool false) (v1 := .slice a7 n7 c7) (v2 := .int .i64 (p3.2.2 + (cc : Int) - 1)) x0 x1 x2
      have bV : Below w4.heap.size v6 (((v6.setCell ⟨X, 0, none⟩ (.bool false)).setCell ⟨X, 1, none⟩ (.slice a7 n7 c7)).setCell ⟨X, 2, none⟩ (.int .i64 (p3.2.2 + (cc : Int) - 1))) := (((Below.refl _ _).setCell XL _).setCell XL _).setCell XL _
      replace z0 : (((v6.setCell ⟨X, 0, none⟩ (.bool false)).setCell ⟨X, 1, none⟩ (.slice a7 n7 c7)).setCell ⟨X, 2, none⟩ (.int .i64 (p3.2.2 + (cc : Int) - 1))).cell? ⟨w.heap.size, 0, none⟩ = some (.int .u64 0) := (bV.cell XB.out).trans u0
      replace z1 : (((v6.setCell ⟨X, 0, none⟩ (.bool false)).setCell ⟨X, 1, none⟩ (.slice a7 n7 c7)).setCell ⟨X, 2, none⟩ (.int .i64 (p3.2.2 + (cc : Int) - 1))).cell? ⟨w.heap.size, 1, none⟩ = some (.int .u8 0) := (bV.cell XB.out).trans u1
      replace f0 : (((v6.setCell ⟨X, 0, none⟩ (.bool false)).setCell ⟨X, 1, none⟩ (.slice a7 n7 c7)).setCell ⟨X, 2, none⟩ (.int .i64 (p3.2.2 + (cc : Int) - 1))).frozen? ⟨w.heap.size, 0, none⟩ = false := by simp [t0]
      replace f1 : (((v6.setCell ⟨X, 0, none⟩ (.bool false)).setCell ⟨X, 1, none⟩ (.slice a7 n7 c7)).setCell ⟨X, 2, none⟩ (.int .i64 (p3.2.2 + (cc : Int) - 1))).frozen? ⟨w.heap.size, 1, none⟩ = false := by simp [t1]
      clear bV u0 u1 t0 t1 bA bJ bI x0 x1 x2 x3 x4 x5 hO7 hO6 y1 y2 X0 X1 X2 X3 X4 X5 hO bD
      generalize (((v6.setCell ⟨X, 0, none⟩ (.bool false)).setCell ⟨X, 1, none⟩ (.slice a7 n7 c7)).setCell ⟨X, 2, none⟩ (.int .i64 (p3.2.2 + (cc : Int) - 1))) = v7 at *
      go_wp2_with fail
      refine Calls.mono (RT.out _ a7 n7 c7 hO8.1 hn7) ?_
      rintro q v8 ⟨rfl, b1⟩
      replace f0 := kF b1 z0 f0
      replace f1 := kF b1 z1 f1
      replace z0 := kC b1 z0
      replace z1 := kC b1 z1
      have bA := nT bB b1
      go_wp2_with fail
      exact bodyPost_ret (v := .tuple #[.agg #[.int .u64 (B1), .int .u8 (F1)], .int .i64 (0)]) (by simp [results, Tryz.results18, go_sem, z0, z1]) rfl ⟨by rw [HE.out.1, HE.out.2], by repeat (first | (with_reducible exact bA) | (with_reducible refine Below.setCell ?_ (by simp) _))⟩
def isF (f : Int) : Bool := decide (f = 31) || decide (f = 32)
def isG (f : Int) : Bool := decide (f = 36)
theorem pIs_calls (f : Int) (w : World) : Calls Tryz.prog 19 #[.int .u8 f] w fun q w' => q = .returned (.bool (isF f)) ∧ w' = w := by
  by_cases h1 : f = 31
  · subst h1
    go_enter Tryz.func19, Tryz.ntmps19
    go_wp2_with fail
    go_ret
    exact ⟨rfl, rfl⟩
  · have e1 : (f == 31) = false := by simp [h1]
    have HE : Hid (isF f = decide (f = 32)) := by rw [Hid]; unfold isF; rw [decide_eq_false h1]; rfl
    rw [HE.out]
    by_cases h2 : f = 32
    · subst h2
      clear h1 e1 HE
      go_enter Tryz.func19, Tryz.ntmps19
      go_wp2_with fail
      go_ret
      exact ⟨rfl, rfl⟩
    · have e2 : (f == 32) = false := by simp [h2]
      rw [decide_eq_false h2]
      go_enter Tryz.func19, Tryz.ntmps19
      go_wp2_with fail
      go_ret
      exact ⟨by simp, rfl⟩
theorem dIs_calls (f : Int) (w : World) : Calls Tryz.prog 20 #[.int .u8 f] w fun q w' => q = .returned (.bool (isF f)) ∧ w' = w := by
  by_cases h1 : f = 31
  · subst h1
    go_enter Tryz.func20, Tryz.ntmps20
    go_wp2_with fail
    go_ret
    exact ⟨rfl, rfl⟩
  · have e1 : (f == 31) = false := by simp [h1]
    have HE : Hid (isF f = decide (f = 32)) := by rw [Hid]; unfold isF; rw [decide_eq_false h1]; rfl
    rw [HE.out]
    by_cases h2 : f = 32
    · subst h2
      clear h1 e1 HE
      go_enter Tryz.func20, Tryz.ntmps20
      go_wp2_with fail
      go_ret
      exact ⟨rfl, rfl⟩
    · have e2 : (f == 32) = false := by simp [h2]
      rw [decide_eq_false h2]
      go_enter Tryz.func20, Tryz.ntmps20
      go_wp2_with fail
      go_ret
      exact ⟨by simp, rfl⟩
theorem pIs2_calls (f : Int) (w : World) : Calls Tryz.prog 21 #[.int .u8 f] w fun q w' => q = .returned (.bool (isG f)) ∧ w' = w := by
  by_cases h1 : f = 36
  · subst h1
    go_enter Tryz.func21, Tryz.ntmps21
    go_wp2_with fail
    go_ret
    exact ⟨rfl, rfl⟩
  · have e1 : (f == 36) = false := by simp [h1]
    have HE : Hid (isG f = false) := by rw [Hid]; unfold isG; rw [decide_eq_false h1]
    rw [HE.out]
    go_enter Tryz.func21, Tryz.ntmps21
    go_wp2_with fail
    go_ret
    exact ⟨by simp, rfl⟩
theorem dIs2_calls (f : Int) (w : World) : Calls Tryz.prog 22 #[.int .u8 f] w fun q w' => q = .returned (.bool (isG f)) ∧ w' = w := by
  by_cases h1 : f = 36
  · subst h1
    go_enter Tryz.func22, Tryz.ntmps22
    go_wp2_with fail
    go_ret
    exact ⟨rfl, rfl⟩
  · have e1 : (f == 36) = false := by simp [h1]
    have HE : Hid (isG f = false) := by rw [Hid]; unfold isG; rw [decide_eq_false h1]
    rw [HE.out]
    go_enter Tryz.func22, Tryz.ntmps22
    go_wp2_with fail
    go_ret
    exact ⟨by simp, rfl⟩
set_option maxRecDepth 100000 in
set_option maxHeartbeats 4000000 in
theorem algHypots_walk (x y f : Int) (w : World) (hx : U x) (hy : U y) (hT : Tab w) :
    Calls Tryz.prog 4 #[.int .u64 x, .int .u64 y, .int .u8 f] w fun q w' => q = .returned (.bool true) ∧ Below w.heap.size w w' := by
  have HL : Hid _ := fun W (t : Tab W) => alLives_calls W t
  have C1 : Hid _ := fun W (t : Tab W) => hypot_all x y W hx hy t
  have C2 : Hid _ := fun W => dHypot_calls x y W hx hy
  have I1 : Hid _ := fun W => pIs_calls f W
  have I2 : Hid _ := fun W => dIs_calls f W
  have I3 : Hid _ := fun W => pIs2_calls f W
  have I4 : Hid _ := fun W => dIs2_calls f W
  clear hx hy
  generalize hyB x y = A1 at *
  generalize hyF x y = F1 at *
  generalize hyE x y = E1 at *
  generalize isF f = T1 at *
  generalize isG f = T2 at *
  have bA : Below w.heap.size w w := Below.refl _ _
  go_enter Tryz.func4, Tryz.ntmps4
  go_wp2_with fail
  refine Calls.mono (C1.out _ hT) ?_
  rintro q w2 ⟨rfl, b1⟩
  have b2 := nT b1 (below_one w2 (.cells #[.int .u64 (A1), .int .u8 (F1)] 25))
  replace hT := hT.kept b2
  replace bA := nT bA b2
  obtain ⟨a10, a11⟩ := fX11 w2 A1 F1
  clear b1 b2 C1
  go_wp2_with fail
  generalize w2.alloc (.cells #[.int .u64 (A1), .int .u8 (F1)] 25) = w3 at *
  generalize w2.heap.size = D1 at *
  refine Calls.mono (C2.out _) ?_
  rintro q w4 ⟨rfl, b1⟩
  have b2 := nT b1 (below_one w4 (.cells #[.int .u64 (A1), .int .u8 (F1)] 25))
  replace hT := hT.kept b2
  replace bA := nT bA b2
  replace a10 := kC b2 a10
  replace a11 := kC b2 a11
  obtain ⟨a20, a21⟩ := fX11 w4 A1 F1
  clear b1 b2 C2
  go_wp2_with fail
  generalize w4.alloc (.cells #[.int .u64 (A1), .int .u8 (F1)] 25) = w5 at *
  generalize w4.heap.size = D2 at *
  refine Calls.mono (HL.out _ hT) ?_
  rintro q w6 ⟨rfl, b1⟩
  replace bA := nT bA b1
  replace a10 := kC b1 a10
  replace a11 := kC b1 a11
  replace a20 := kC b1 a20
  replace a21 := kC b1 a21
  clear b1
  go_wp2_with fail
  refine Calls.mono (I1.out _) ?_
  rintro q _ ⟨rfl, rfl⟩
  go_wp2_with fail
  refine Calls.mono (I2.out _) ?_
  rintro q _ ⟨rfl, rfl⟩
  go_wp2_with fail
  refine Calls.mono (I3.out _) ?_
  rintro q _ ⟨rfl, rfl⟩
  go_wp2_with fail
  refine Calls.mono (I4.out _) ?_
  rintro q _ ⟨rfl, rfl⟩
  go_wp2_with fail
  go_ret
  exact ⟨by simp, bA⟩
end Go.Proofs.YtfgemlgmhlidmaaGreatDoor

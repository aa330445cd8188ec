/- Package exact: whole numbers, powers and exponents. -/
import Derived.Test.YtiijfnaaekmpbaaGreatDoorCR
import Derived.Test.YtiijfnaaekmpbaaGreatDoorECY
import Derived.Test.YtiijfnaaekmpbaaGreatDoorFX
namespace Go.Proofs.YtiijfnaaekmpbaaGreatDoor
open Go.RowKit
set_option maxHeartbeats 4000000
set_option maxRecDepth 100000
theorem wh_small {s : Bool} {m : Nat} {e : Int} (h0 : m ≠ 0) (_he : 0 ≤ e) (h : (whI (s, m, e)).natAbs ≤ 16384) : e ≤ 14 ∧ m ≤ 16384 ∧ m * 2 ^ e.toNat ≤ 16384 := by
 have h1 : (whI (s, m, e)).natAbs = m * 2 ^ e.toNat := by
  unfold whI
  rcases sum_pow s with q | q <;> simp only [q] <;> omega
 rw [h1] at h
 have h2 : 2 ^ e.toNat ≤ m * 2 ^ e.toNat := Nat.le_mul_of_pos_left _ (by omega)
 have h3 : m ≤ m * 2 ^ e.toNat := Nat.le_mul_of_pos_right _ (Nat.two_pow_pos _)
 refine ⟨?_, by omega, h⟩
 rcases Nat.lt_or_ge e.toNat 15 with q | q
 ·omega
 ·have := Nat.pow_le_pow_right (show 0 < 2 by decide) q
  omega
theorem eWhole_calls (s : Bool) (m : Nat) (e : Int) (a : Option Addr) (n c : Nat) (w : World) (h : IsW w a n c (wO m)) (hn : n ≤ 1024) (hp : OkE (s, m, e)) (hT : Tab w) (he : 0 ≤ e) (hw : (whI (s, m, e)).natAbs ≤ 16384) :
  Calls Tryz.prog 74 #[dyV s a n c e] w fun r w' => r = .returned (.int .i64 (whI (s, m, e))) ∧ Below w.heap.size w w' := by
 have bA := below_one w (.cells #[.bool s, .slice a n c, .int .i64 e] 27)
 obtain ⟨x0, x1, x2⟩ := fX6 w s a n c e _ rfl
 have HZ : Hid _ := zeroE (s, m, e) a n c _ (h.keep bA) hn hp (hT.kept bA)
 by_cases h0 : m = 0
 ·have HV : Hid (whI (s, m, e) = 0) := by subst h0; unfold whI; simp [Hid]
  rw [show decide ((s, m, e).2.1 = 0) = true from decide_eq_true h0] at HZ
  clear h hp hT he hw h0
  generalize whI (s, m, e) = V at *
  go_enter Tryz.func74, Tryz.ntmps74
  go_wp2_with fail
  refine cM HZ.out ?_
  rintro r w1 ⟨rfl, b1⟩
  go_wp2_with fail
  go_ret
  exact ⟨by rw [HV.out]; rfl, nT bA b1⟩
 ·rw [show decide ((s, m, e).2.1 = 0) = false from decide_eq_false h0] at HZ
  obtain ⟨e1, e2, e3⟩ := wh_small h0 he hw
  have hL : 1 ≤ n := by
   have q := h.1
   have r := words_pos m h0
   rw [q, r]; simp
  obtain ⟨gb, go, ea, hgb, cw⟩ := h.2.2.2 0 (by omega)
  subst ea
  have cw2 : (wO m).getD 0 0 = (m : Int) := by
   rw [words_pos m h0]
   simp only [List.getD_cons_zero]
   omega
  rw [cw2] at cw
  have cw3 : w.cell? ⟨gb, go, none⟩ = some (.int .u64 (m : Int)) := cw
  replace cw3 := kC bA cw3
  have hlen0 : (0 : Int) < (n : Int) := by omega
  have hV : whI (s, m, e) = sI s * ((m * 2 ^ e.toNat : Nat) : Int) := rfl
  have hw1 : IntKind.i64.wrap (m : Int) = (m : Int) := by rw [IntKind.wrap_i64]; omega
  obtain ⟨V, hV2⟩ : ∃ V : Nat, V = m * 2 ^ e.toNat := ⟨_, rfl⟩
  have HM : Hid ((m : Int) * 2 ^ e.toNat = (V : Int)) := by rw [hV2]; push_cast; rfl
  have HV : Hid (whI (s, m, e) = sI s * (V : Int)) := by rw [hV2]; exact hV
  have HVb : Hid (V ≤ 16384) := by rw [hV2]; exact e3
  generalize whI (s, m, e) = J at *
  clear cw cw2 hp hT hw h hV hV2 e3 hgb
  cases s
  all_goals
   go_enter Tryz.func74, Tryz.ntmps74
   go_wp2_with fail
   refine cM HZ.out ?_
   rintro r w1 ⟨rfl, b1⟩
   obtain ⟨bA, x0, x1, x2, cw3⟩ := jkAC4 b1 bA x0 x1 x2 cw3
   clear b1 HZ
   go_wp2_with fail
   go_region
   all_goals
    go_wp2_with fail
    go_ret
    refine ⟨?_, bA.drew⟩
    have := HVb.out
    rw [HV.out]
    simp [sI]
    rw [HM.out]
    simp [wrap64]
    omega
theorem ePower_calls (p : E3) (a : Option Addr) (n c : Nat) (O : Nat) (l m : Int) (w : World) (h : IsW w a n c (wO p.2.1)) (hn : n ≤ 1024) (hp : OkE p) (hT : TabE w) (hl : -16384 ≤ l) (hm : m ≤ 16384) (hlm : l ≤ m) (hO : O ≤ 18446744073709551615) (hg1 : greatB O = false) (hg2 : ∀ k : Int, k ≤ m → greatB (O ^ k.toNat) = false) :
  Calls Tryz.prog 35 #[.agg #[.int .u64 (O : Int), .int .i64 l, .int .i64 m], dyV p.1 a n c p.2.2] w fun q w' => ∃ v', q = .returned (.tuple #[v', .bool (cPow O l m p).2]) ∧ DyAt w.heap.size w' v' (cPow O l m p).1 ∧ Below w.heap.size w w' := by
 have bA : Below w.heap.size w (((w.alloc (.cells #[.int .u64 (O : Int), .int .i64 l, .int .i64 m] 68)).alloc (.cells #[.bool p.1, .slice a n c, .int .i64 p.2.2] 27)).alloc (.cells #[.bool false, .slice none 0 0, .int .i64 0] 27)) := nT (nT (below_one _ _) (below_one _ _)) (below_one _ _)
 obtain ⟨o0, o1, o2, x0, x1, x2, z0, f0, z1, f1, z2, f2⟩ := fX7 w O l m p a n c _ rfl
 have hI := h.keep bA
 have hT0 := hT.1.kept bA
 have AL : Hid _ := fun W (b : Below w.heap.size w W) => eAgainst_calls p a n c l W (h.keep b) hn hp ⟨by omega, by omega⟩ (hT.1.kept b)
 have AM : Hid _ := fun W (b : Below w.heap.size w W) => eAgainst_calls p a n c m W (h.keep b) hn hp ⟨by omega, by omega⟩ (hT.1.kept b)
 by_cases h1 : p.2.2 < 0
 ·rw [show cPow O l m p = no3 from by unfold cPow; rw [if_pos (.inl h1)]]
  unfold no3
  clear h hp hT hI hT0 AL AM hg1 hg2 hl hm hlm hO
  go_enter Tryz.func35, Tryz.ntmps35
  go_wp2_with fail
  exact bodyPost_ret (v := .tuple #[dyV false none 0 0 0, .bool false]) (by simp [results, Tryz.results35, go_sem, z0, z1, z2]) rfl ⟨_, rfl, dyAt_z3 _ _, by repeat (first | (with_reducible exact bA) | (with_reducible refine Below.setCell ?_ (by simp; try omega) _) | (with_reducible refine Below.alloc ?_ (by have := bA.size; simp; try omega) _))⟩
 ·have h1' : 0 ≤ p.2.2 := by omega
  by_cases h2 : agI p l < 0
  ·rw [show cPow O l m p = no3 from by unfold cPow; rw [if_pos (.inr (.inl h2))]]
   unfold no3
   clear h hp hT hI hT0 AM hg1 hg2 hl hm hlm hO
   generalize agI p l = J at *
   go_enter Tryz.func35, Tryz.ntmps35
   go_wp2_with fail
   refine cM (AL.out _ bA) ?_
   rintro r w1 ⟨rfl, b1⟩
   replace f0 := kF b1 z0 f0
   replace f1 := kF b1 z1 f1
   replace f2 := kF b1 z2 f2
   replace bA := nT bA b1
   revert o0 o1 o2 x0 x1 x2; refine cc6 b1 ?_; intro o0 o1 o2 x0 x1 x2
   revert z0 z1 z2; refine cc3 b1 ?_; intro z0 z1 z2
   clear b1 AL
   go_wp2_with fail
   exact bodyPost_ret (v := .tuple #[dyV false none 0 0 0, .bool false]) (by simp [results, Tryz.results35, go_sem, z0, z1, z2]) rfl ⟨_, rfl, dyAt_z3 _ _, by repeat (first | (with_reducible exact bA) | (with_reducible refine Below.setCell ?_ (by simp; try omega) _) | (with_reducible refine Below.alloc ?_ (by have := bA.size; simp; try omega) _))⟩
  ·have h2' : 0 ≤ agI p l := by omega
   by_cases h3 : 0 < agI p m
   ·rw [show cPow O l m p = no3 from by unfold cPow; rw [if_pos (.inr (.inr h3))]]
    unfold no3
    clear h hp hT hI hT0 hg1 hg2 hl hm hlm hO
    generalize agI p l = J at *
    generalize agI p m = L at *
    go_enter Tryz.func35, Tryz.ntmps35
    go_wp2_with fail
    refine cM (AL.out _ bA) ?_
    rintro r w1 ⟨rfl, b1⟩
    replace f0 := kF b1 z0 f0
    replace f1 := kF b1 z1 f1
    replace f2 := kF b1 z2 f2
    replace bA := nT bA b1
    revert o0 o1 o2 x0 x1 x2; refine cc6 b1 ?_; intro o0 o1 o2 x0 x1 x2
    revert z0 z1 z2; refine cc3 b1 ?_; intro z0 z1 z2
    clear b1 AL
    go_wp2_with fail
    refine cM (AM.out _ bA) ?_
    rintro r w2 ⟨rfl, b1⟩
    replace f0 := kF b1 z0 f0
    replace f1 := kF b1 z1 f1
    replace f2 := kF b1 z2 f2
    replace bA := nT bA b1
    revert o0 o1 o2 x0 x1 x2; refine cc6 b1 ?_; intro o0 o1 o2 x0 x1 x2
    revert z0 z1 z2; refine cc3 b1 ?_; intro z0 z1 z2
    clear b1 AM
    go_wp2_with fail
    exact bodyPost_ret (v := .tuple #[dyV false none 0 0 0, .bool false]) (by simp [results, Tryz.results35, go_sem, z0, z1, z2]) rfl ⟨_, rfl, dyAt_z3 _ _, by repeat (first | (with_reducible exact bA) | (with_reducible refine Below.setCell ?_ (by simp; try omega) _) | (with_reducible refine Below.alloc ?_ (by have := bA.size; simp; try omega) _))⟩
   ·have h3' : agI p m ≤ 0 := by omega
    have hy : (cPow O l m p).2 = true := by unfold cPow; rw [if_neg (by omega)]
    obtain ⟨e1, e2, e3, e4⟩ := pow_in hy
    rw [e1]
    have WC : Hid _ := fun W (b : Below w.heap.size w W) => eWhole_calls p.1 p.2.1 p.2.2 a n c W (h.keep b) hn hp (hT.1.kept b) e2 (by show (whI p).natAbs ≤ 16384; omega)
    have TC : Hid _ := fun W => to_calls5 O l m (whI p) W hO (by omega) hg1 (hg2 _ e4)
    have hwp : whI (p.1, p.2.1, p.2.2) = whI p := rfl
    rw [hwp] at WC
    generalize toP O (whI p) = R at *
    generalize whI p = V at *
    generalize agI p l = J at *
    generalize agI p m = L at *
    clear h hp hT hI hT0 hg1 hg2 hl hm hlm hO hy e1 e2 e3 e4 hwp
    go_enter Tryz.func35, Tryz.ntmps35
    go_wp2_with fail
    refine cM (AL.out _ bA) ?_
    rintro r w1 ⟨rfl, b1⟩
    replace f0 := kF b1 z0 f0
    replace f1 := kF b1 z1 f1
    replace f2 := kF b1 z2 f2
    replace bA := nT bA b1
    revert o0 o1 o2 x0 x1 x2; refine cc6 b1 ?_; intro o0 o1 o2 x0 x1 x2
    revert z0 z1 z2; refine cc3 b1 ?_; intro z0 z1 z2
    clear b1 AL
    go_wp2_with fail
    refine cM (AM.out _ bA) ?_
    rintro r w2 ⟨rfl, b1⟩
    replace f0 := kF b1 z0 f0
    replace f1 := kF b1 z1 f1
    replace f2 := kF b1 z2 f2
    replace bA := nT bA b1
    revert o0 o1 o2 x0 x1 x2; refine cc6 b1 ?_; intro o0 o1 o2 x0 x1 x2
    revert z0 z1 z2; refine cc3 b1 ?_; intro z0 z1 z2
    clear b1 AM
    go_wp2_with fail
    go_region_with (first
     | (go_at_call 74; refine (WC.out _ (nT bA (by repeat (first | exact Below.refl _ _ | apply Below.drew)))).mono ?_; rintro r w3 ⟨rfl, b1⟩; have b2 : Below w2.heap.size w2 w3 := nT (by repeat (first | exact Below.refl _ _ | apply Below.drew)) b1; have y0 := kC b2 o0; have y1 := kC b2 o1; have y2 := kC b2 o2; have y3 := kC b2 x0; have y4 := kC b2 x1; have y5 := kC b2 x2; have y6 := kC b2 z0; have y7 := kC b2 z1; have y8 := kC b2 z2; have g0 := kF b2 z0 f0; have g1 := kF b2 z1 f1; have g2 := kF b2 z2 f2)
     | (go_at_call 73; refine (TC.out _).mono ?_; rintro r w5 ⟨_, rfl, ⟨a3, n3, c3, rfl, HN3, hn3, hO3⟩, b3⟩; have b4 : Below w3.heap.size w3 w5 := nT (by repeat (first | exact Below.refl _ _ | apply Below.drew)) b3; have u0 := kC b4 y6; have u1 := kC b4 y7; have u2 := kC b4 y8; have v0 := kF b4 y6 g0; have v1 := kF b4 y7 g1; have v2 := kF b4 y8 g2))
    all_goals
     have lb : w.heap.size ≤ w3.heap.size := Nat.le_trans bA.size b2.size
     replace bA := nT (nT bA b2) b4
     go_wp2_with fail
     exact bodyPost_ret (v := .tuple #[dyV R.1 a3 n3 c3 R.2.2, .bool true]) (by simp [results, Tryz.results35, go_sem, u0, u1, u2]) rfl ⟨_, rfl, ⟨a3, n3, c3, rfl, HN3, hn3, (hO3.low (by simpa using lb)).set_dy (w.heap.size + 2) false none 0 0 0 _ _ _ u0 u1 u2⟩, by repeat (first | (with_reducible exact bA) | (with_reducible refine Below.setCell ?_ (by simp; try omega) _) | (with_reducible refine Below.alloc ?_ (by have := bA.size; simp; try omega) _))⟩
end Go.Proofs.YtiijfnaaekmpbaaGreatDoor

/- The walk of canonical: the one form. The walk of told: a number handed out with words of its own. The walk of right, of one number and of two. The walk of made: what a way makes of numbers that are right, if it has room. The walks of reckoned, of, size, top, sign, shifted. -/
import Derived.Test.YtahpdcbmekgkfaaGreatDoorAL
import Derived.Test.YtahpdcbmekgkfaaGreatDoorTMB
import Derived.Deep.RegionHeld3
import Derived.Deep.DrawnRows
import Derived.Deep.AppendLies
import Derived.LoopN

namespace Go.Proofs.YtahpdcbmekgkfaaGreatDoor
open Go.RowKit
set_option maxHeartbeats 2000000
set_option maxRecDepth 100000
def canG (s : Bool) (u : Nat) (e : Int) : Bool × Nat × Int := if greatB u = true then (false, 0, 0) else formD s u e
theorem canG_yes {s : Bool} {u : Nat} {e : Int} (h : greatB u = true) : canG s u e = (false, 0, 0) := by unfold canG; rw [if_pos h]
theorem canG_no {s : Bool} {u : Nat} {e : Int} (h : greatB u = false) : canG s u e = formD s u e := by unfold canG; rw [if_neg (by rw [h]; decide)]
theorem canonical_fit (s : Bool) (a : Option Addr) (len cap : Nat) (xs : List Int) (e : Int) (w : World) (h : IsW w a len cap xs) (hm : len ≤ 17592186044416) (hT : Tab w) (hg : greatB (val xs) = false) (h0 : val xs ≠ 0) (he : -4611686018427387904 ≤ e ∧ e ≤ 4611686018427387904) :
  Calls Tryz.prog 123 #[dyV s a len cap e] w fun r w' => ∃ (ao : Option Addr) (n c : Nat), r = .returned (numV s ao n c (e + (tz (val xs) : Int)) false) ∧ Hid (n = (wO (val xs / 2 ^ tz (val xs))).length) ∧ n ≤ 1024 ∧ OwnW w.heap.size w' ao n c (wO (val xs / 2 ^ tz (val xs))) ∧ Below w.heap.size w w' := by
 have hbl : blen (val xs) ≤ 65536 := (great_not _).1 hg
 have htz := tz_le_blen (val xs)
 have HG : Hid (greatB (val xs) = false) := hg
 have HO : Hid _ := odd_part h0
 obtain ⟨t, ht⟩ : ∃ t, t = tz (val xs) := ⟨_, rfl⟩
 rw [← ht] at htz HO ⊢
 have HTT : Hid (t = tz (val xs)) := ht
 clear hg h0 ht
 obtain ⟨he1, he2⟩ := he
 go_enter Tryz.func123, Tryz.ntmps123
 go_wp2_with fail
 have hb0 : Below w.heap.size w ((w.alloc (.cells #[.bool s, .slice a len cap, .int .i64 e] 25)).alloc (.cells #[.bool false, .slice none 0 0, .int .i64 0, .bool false] 109)) := nT (below_one _ _) (below_one _ _)
 refine cM (low_calls a len cap xs _ (h.keep hb0) hm (hT.kept hb0)) ?_
 rintro r w1 ⟨_, hr, hb1⟩
 obtain rfl := hr HG.out
 rw [← HTT.out]
 have hb01 := nT hb0 hb1
 have k0 : w1.cell? ⟨w.heap.size, 0, none⟩ = some (.bool s) := kC hb1 (by go_simp)
 have k1 : w1.cell? ⟨w.heap.size, 1, none⟩ = some (.slice a len cap) := kC hb1 (by go_simp)
 have k2 : w1.cell? ⟨w.heap.size, 2, none⟩ = some (.int .i64 e) := kC hb1 (by go_simp)
 clear hr
 go_wp2_with fail
 obtain ⟨g1, g2, g3⟩ := shr_fit (u := val xs) (j := t) HG.out
 refine cM (shr_eq (w := w1) (i := (t : Int)) (h.keep hb01) hm (by omega) g2 g3 g1) ?_
 rintro r w2 ⟨ao, n, c, rfl, HN, hn, hO, hb2⟩
 have hb12 := nT hb1 hb2
 have hb02 := nT hb0 hb12
 have hn0 : ((n : Int) == 0) = false := by
  have : n ≠ 0 := fun q => by
   have h1 := (words_nil _).1 (List.length_eq_zero_iff.1 (by rw [← HN.out]; exact q))
   have h2 := HO.out.1
   rw [h1] at h2; omega
  simp; omega
 have k0' := kC hb2 k0
 have k1' := kC hb2 k1
 have k2' := kC hb2 k2
 have hws : w.heap.size + 2 ≤ w1.heap.size := by have := hb1.size; simp at this; omega
 obtain ⟨m0, m1, m2, m3, f0, f1, f2, f3⟩ := zero_num (r := w.heap.size + 1) hb12 (by simp)
 clear k0 k1 k2 hb12 hb1 hb0 hb01 hb2
 go_wp2_with fail
 refine bodyPost_ret (v := numV s ao n c (e + (t : Int)) false) (by simp [results, Tryz.results123, go_sem, m0, m1, m2, m3]) rfl ⟨ao, n, c, rfl, HN, hn, ?_, ?_⟩
 ·exact ((((hO.far _ _ (by show w.heap.size + 1 < _; omega)).far _ _ (by show w.heap.size + 1 < _; omega)).far _ _ (by show w.heap.size + 1 < _; omega)).far _ _ (by show w.heap.size + 1 < _; omega)).low (by omega)
 ·exact (((hb02.setCell (le1 _) _).setCell (le1 _) _).setCell (le1 _) _).setCell (le1 _) _
theorem canonical_far (s : Bool) (a : Option Addr) (len cap : Nat) (xs : List Int) (e : Int) (w : World) (h : IsW w a len cap xs) (hm : len ≤ 17592186044416) (hT : Tab w) (hg : greatB (val xs) = false) (h0 : val xs ≠ 0) :
  Calls Tryz.prog 123 #[dyV s a len cap e] w fun r w' => ∃ (ao : Option Addr) (n c : Nat) (e' : Int), r = .returned (numV s ao n c e' false) ∧ Hid (n = (wO (val xs / 2 ^ tz (val xs))).length) ∧ n ≤ 1024 ∧ OwnW w.heap.size w' ao n c (wO (val xs / 2 ^ tz (val xs))) ∧ Below w.heap.size w w' := by
 have hbl : blen (val xs) ≤ 65536 := (great_not _).1 hg
 have htz := tz_le_blen (val xs)
 have HG : Hid (greatB (val xs) = false) := hg
 have HO : Hid _ := odd_part h0
 obtain ⟨t, ht⟩ : ∃ t, t = tz (val xs) := ⟨_, rfl⟩
 rw [← ht] at htz HO ⊢
 have HTT : Hid (t = tz (val xs)) := ht
 clear hg h0 ht
 go_enter Tryz.func123, Tryz.ntmps123
 go_wp2_with fail
 have hb0 : Below w.heap.size w ((w.alloc (.cells #[.bool s, .slice a len cap, .int .i64 e] 25)).alloc (.cells #[.bool false, .slice none 0 0, .int .i64 0, .bool false] 109)) := nT (below_one _ _) (below_one _ _)
 refine cM (low_calls a len cap xs _ (h.keep hb0) hm (hT.kept hb0)) ?_
 rintro r w1 ⟨_, hr, hb1⟩
 obtain rfl := hr HG.out
 rw [← HTT.out]
 have hb01 := nT hb0 hb1
 have k0 : w1.cell? ⟨w.heap.size, 0, none⟩ = some (.bool s) := kC hb1 (by go_simp)
 have k1 : w1.cell? ⟨w.heap.size, 1, none⟩ = some (.slice a len cap) := kC hb1 (by go_simp)
 have k2 : w1.cell? ⟨w.heap.size, 2, none⟩ = some (.int .i64 e) := kC hb1 (by go_simp)
 clear hr
 go_wp2_with fail
 obtain ⟨g1, g2, g3⟩ := shr_fit (u := val xs) (j := t) HG.out
 refine cM (shr_eq (w := w1) (i := (t : Int)) (h.keep hb01) hm (by omega) g2 g3 g1) ?_
 rintro r w2 ⟨ao, n, c, rfl, HN, hn, hO, hb2⟩
 have hb12 := nT hb1 hb2
 have hb02 := nT hb0 hb12
 have hn0 : ((n : Int) == 0) = false := by
  have : n ≠ 0 := fun q => by
   have h1 := (words_nil _).1 (List.length_eq_zero_iff.1 (by rw [← HN.out]; exact q))
   have h2 := HO.out.1
   rw [h1] at h2; omega
  simp; omega
 have k0' := kC hb2 k0
 have k1' := kC hb2 k1
 have k2' := kC hb2 k2
 have hws : w.heap.size + 2 ≤ w1.heap.size := by have := hb1.size; simp at this; omega
 obtain ⟨m0, m1, m2, m3, f0, f1, f2, f3⟩ := zero_num (r := w.heap.size + 1) hb12 (by simp)
 clear k0 k1 k2 hb12 hb1 hb0 hb01 hb2
 go_wp2_with fail
 refine bodyPost_ret (v := numV s ao n c (wrap64 (e + (t : Int))) false) (by simp [results, Tryz.results123, go_sem, m0, m1, m2, m3]) rfl ⟨ao, n, c, _, rfl, HN, hn, ?_, ?_⟩
 ·exact ((((hO.far _ _ (by show w.heap.size + 1 < _; omega)).far _ _ (by show w.heap.size + 1 < _; omega)).far _ _ (by show w.heap.size + 1 < _; omega)).far _ _ (by show w.heap.size + 1 < _; omega)).low (by omega)
 ·exact (((hb02.setCell (le1 _) _).setCell (le1 _) _).setCell (le1 _) _).setCell (le1 _) _
theorem canonical_none (s : Bool) (a : Option Addr) (len cap : Nat) (xs : List Int) (e : Int) (w : World) (h : IsW w a len cap xs) (hm : len ≤ 17592186044416) (hT : Tab w) (hz : greatB (val xs) = true ∨ val xs = 0) :
  Calls Tryz.prog 123 #[dyV s a len cap e] w fun r w' => r = .returned (numV false none 0 0 0 false) ∧ Below w.heap.size w w' := by
 have hl0 : (greatB (val xs) = true → shrQ (val xs) 0 = 0) ∧ (greatB (val xs) = false → shrQ (val xs) 0 = 0) := by
  refine ⟨fun q => (shr_great q).2.1, fun q => ?_⟩
  rcases hz with h1 | h1
  ·rw [h1] at q; cases q
  ·have := (shr_fit (u := val xs) (j := 0) q).2.1
   rw [h1] at this ⊢; simpa using this
 have HQ : Hid (shrQ (val xs) 0 = 0) := by
  cases hg : greatB (val xs) with
  | true => exact hl0.1 hg
  | false => exact hl0.2 hg
 have HZ : Hid (greatB (val xs) = true ∨ val xs = 0) := hz
 clear hl0 hz
 go_enter Tryz.func123, Tryz.ntmps123
 go_wp2_with fail
 have hb0 : Below w.heap.size w ((w.alloc (.cells #[.bool s, .slice a len cap, .int .i64 e] 25)).alloc (.cells #[.bool false, .slice none 0 0, .int .i64 0, .bool false] 109)) := nT (below_one _ _) (below_one _ _)
 refine cM (low_calls a len cap xs _ (h.keep hb0) hm (hT.kept hb0)) ?_
 rintro r w1 ⟨hr1, hr2, hb1⟩
 obtain ⟨le, rfl⟩ : ∃ le : Int, r = .returned (.tuple #[.int .i64 0, .int .i64 le]) := by
  cases hg : greatB (val xs) with
  | true => exact ⟨3, hr1 hg⟩
  | false =>
   rcases HZ.out with h1 | h1
   ·rw [hg] at h1; cases h1
   ·refine ⟨0, ?_⟩
    rw [hr2 hg, h1, tz_zero]; rfl
 have hb01 := nT hb0 hb1
 have k1 : w1.cell? ⟨w.heap.size, 1, none⟩ = some (.slice a len cap) := kC hb1 (by go_simp)
 clear hr1 hr2
 go_wp2_with fail
 refine cM (shr_eq (w := w1) (i := 0) (h.keep hb01) hm (by omega) HQ.out rfl rfl) ?_
 rintro r w2 ⟨ao, n, c, rfl, HN, hn, hO, hb2⟩
 obtain rfl : n = 0 := by rw [HN.out, words_zero]; rfl
 have hb12 := nT hb1 hb2
 have hb02 := nT hb0 hb12
 obtain ⟨m0, m1, m2, m3, f0, f1, f2, f3⟩ := zero_num (r := w.heap.size + 1) hb12 (by simp)
 clear k1 hb12 hb1 hb0 hb01 hb2
 go_wp2_with fail
 refine bodyPost_ret (v := numV false none 0 0 0 false) (by simp [results, Tryz.results123, go_sem, m0, m1, m2, m3]) rfl ⟨rfl, ?_⟩
 exact (((hb02.setCell (le1 _) _).setCell (le1 _) _).setCell (le1 _) _).setCell (le1 _) _
theorem form_words_ne {m n : Nat} (h : m ≠ 0) (hn : n = (wO (m / 2 ^ tz m)).length) : n ≠ 0 := fun q => by
 have h1 := (words_nil _).1 (List.length_eq_zero_iff.1 (by rw [← hn]; exact q))
 have h2 := (odd_part h).1
 rw [h1] at h2; omega
theorem canonical_calls (s : Bool) (a : Option Addr) (len cap : Nat) (xs : List Int) (e : Int) (w : World) (h : IsW w a len cap xs) (hm : len ≤ 17592186044416) (hT : Tab w) :
  Calls Tryz.prog 123 #[dyV s a len cap e] w fun r w' => ∃ (ao : Option Addr) (n c : Nat) (e' : Int), r = .returned (numV (canG s (val xs) e).1 ao n c e' false) ∧ Hid (-4611686018427387904 ≤ e → e ≤ 4611686018427387904 → e' = (canG s (val xs) e).2.2) ∧ Hid (n = (wO (canG s (val xs) e).2.1).length) ∧ Hid (n = 0 → ao = none ∧ c = 0) ∧ n ≤ 1024 ∧ OwnW w.heap.size w' ao n c (wO (canG s (val xs) e).2.1) ∧ Below w.heap.size w w' := by
 cases hg : greatB (val xs) with
 | true =>
  rw [canG_yes hg]
  refine cM (canonical_none s a len cap xs e w h hm hT (Or.inl hg)) ?_
  rintro r w' ⟨rfl, hb⟩
  refine ⟨none, 0, 0, 0, rfl, fun _ _ => rfl, ?_, fun _ => ⟨rfl, rfl⟩, by omega, ?_, hb⟩
  ·rw [words_zero]; rfl
  ·rw [words_zero]; exact ownW_nil _ _
 | false =>
  rw [canG_no hg]
  by_cases h0 : val xs = 0
  ·rw [h0, form_zero]
   refine cM (canonical_none s a len cap xs e w h hm hT (Or.inr h0)) ?_
   rintro r w' ⟨rfl, hb⟩
   refine ⟨none, 0, 0, 0, rfl, fun _ _ => rfl, ?_, fun _ => ⟨rfl, rfl⟩, by omega, ?_, hb⟩
   ·rw [words_zero]; rfl
   ·rw [words_zero]; exact ownW_nil _ _
  ·rw [form_pos s h0]
   by_cases he : -4611686018427387904 ≤ e ∧ e ≤ 4611686018427387904
   ·refine cM (canonical_fit s a len cap xs e w h hm hT hg h0 he) ?_
    rintro r w' ⟨ao, n, c, rfl, h1, h2, h3, h4⟩
    exact ⟨ao, n, c, _, rfl, fun _ _ => rfl, h1, fun q => absurd q (form_words_ne h0 h1.out), h2, h3, h4⟩
   ·refine cM (canonical_far s a len cap xs e w h hm hT hg h0) ?_
    rintro r w' ⟨ao, n, c, e', rfl, h1, h2, h3, h4⟩
    exact ⟨ao, n, c, e', rfl, fun q1 q2 => absurd ⟨q1, q2⟩ he, h1, fun q => absurd q (form_words_ne h0 h1.out), h2, h3, h4⟩
end Go.Proofs.YtahpdcbmekgkfaaGreatDoor

namespace Go.Proofs.YtahpdcbmekgkfaaGreatDoor
open Go.RowKit
set_option maxHeartbeats 2000000
set_option maxRecDepth 100000
theorem isW_news {w : World} {ad : Addr} {n c : Nat} {xs : List Int} (h : IsW w (some ad) n c xs) : ∀ j u, (xs.map (Value.int .u64))[j]? = some u → w.cell? (ad.add j) = some u := by
 intro j u hj
 have hjl : j < n := by
  have := (List.getElem?_eq_some_iff.1 hj).1
  simp at this; have := h.1; omega
 obtain ⟨b2, off2, e2, _, q2⟩ := h.2.2.2 j hjl
 simp only [Option.some.injEq] at e2
 subst e2
 have hu : u = .int .u64 (xs.getD j 0) := by
  simp only [List.getElem?_map] at hj
  have hj2 : xs[j]? = some (xs.getD j 0) := by
   rw [List.getElem?_eq_getElem (by have := h.1; omega)]; simp [List.getD, show j < xs.length by have := h.1; omega]
  rw [hj2] at hj
  simpa using hj.symm
 rw [hu]
 by_cases h00 : j = 0
 ·subst h00; simpa [Addr.add] using q2
 ·simpa [Addr.add, h00] using q2
attribute [local go_sem ↓] Go.wp_at_zero Go.wp_at_succ
theorem told_none (s : Bool) (e : Int) (g : Bool) (w : World) :
  Calls Tryz.prog 150 #[numV s none 0 0 e g] w fun r w' => r = .returned (dyV s none 0 0 e) ∧ Below w.heap.size w w' := by
 go_enter Tryz.func150, Tryz.ntmps150
 go_wp2_with fail
 go_region
 all_goals
  go_wp2_with fail
  refine bodyPost_ret (v := dyV s none 0 0 e) (by simp [results, Tryz.results150, go_sem]) rfl ⟨rfl, ?_⟩
  repeat (first | exact Below.refl _ _ | apply Below.drew | refine Below.alloc ?_ (by simp; try omega) _ | refine Below.setCell ?_ (by simp; try omega) _)
theorem told_some (s : Bool) (ad : Addr) (n c : Nat) (xs : List Int) (e : Int) (g : Bool) (w : World) (h : IsW w (some ad) n c xs) (hn0 : 0 < n) (hn : n ≤ 1024) :
  Calls Tryz.prog 150 #[numV s (some ad) n c e g] w fun r w' => ∃ (ao : Option Addr) (c' : Nat), r = .returned (dyV s ao n c' e) ∧ OwnW w.heap.size w' ao n c' xs ∧ Below w.heap.size w w' := by
 obtain ⟨i0, hi, hz0, hz1, hz2⟩ := info_parts word_info
 have HL : Hid (n = xs.length) := h.1
 have HU : Hid (AllU xs) := h.2.1
 have hb0 : Below w.heap.size w ((w.alloc (.cells #[.bool s, .slice (some ad) n c, .int .i64 e, .bool g] 109)).alloc (.cells #[.bool false, .slice none 0 0, .int .i64 0] 25)).drew := (nT (below_one _ _) (below_one _ _)).drew
 have HNEW : Hid _ := isW_news (h.keep hb0)
 clear h
 go_enter Tryz.func150, Tryz.ntmps150
 go_wp2_with fail
 go_region_held3 (fun w' => w'.cell? ⟨w.heap.size, 0, none⟩ = some (.bool s) ∧ w'.cell? ⟨w.heap.size, 1, none⟩ = some (.slice (some ad) n c) ∧ w'.cell? ⟨w.heap.size, 2, none⟩ = some (.int .i64 e))
  (first | (go_keep; done) | exact ⟨kC hbA (by go_simp), kC hbA (by go_simp), kC hbA (by go_simp)⟩)
  ((refine step_append_lies _ (by rfl) _ _ _ (by rfl) w.heap.size 53 i0 (.int .u64 0) 1 8 Tryz.underlying23 hi hz0 hz1 hz2 rfl (by omega) (.slice none 0 0) 0 [] (by rfl) (World.ownsRow_nil _ _ _ _) ad n c (xs.map (Value.int .u64)) (by rfl) (by rw [List.length_map, ← HL.out]; omega) HNEW.out (fun u hu => by simp only [List.mem_map] at hu; obtain ⟨y, _, rfl⟩ := hu; rfl) hn0 (by unfold maxLen; omega) (by omega) (by simp; omega) (w.heap.size + 1 + 1) (by simp) ?_; intro gg cap w1 hown1 hgrow hat hlt; have hbA := (Below.refl _ _).grown hgrow (Nat.le_refl _) (fun q hq => by cases hq); obtain ⟨m0, m1, m2, f0, f1, f2⟩ := zero_dy (r := w.heap.size + 1) (w := w.alloc (.cells #[.bool s, .slice (some ad) n c, .int .i64 e, .bool g] 109)) (W' := w1) (nT (Below.refl _ _).drew hbA) (by simp)))
 all_goals
  go_wp2_with fail
  have hgg : gg = w.heap.size + 1 + 1 := by
   rcases hat with q | q
   ·cases q
   ·exact q
  have hO : OwnW w.heap.size w1 (some ⟨gg, 0, none⟩) n cap xs := by
   have h1 : Own w.heap.size w1 (some ⟨gg, 0, none⟩) cap xs := by unfold Own; rw [← HL.out]; simpa using hown1
   exact h1.ownW HU.out HL.out.symm
  have hne : ∀ (b off : Nat), some (⟨gg, 0, none⟩ : Addr) = some ⟨b, off, none⟩ → w.heap.size + 1 ≠ b := fun b off q => by
   simp only [Option.some.injEq, Addr.mk.injEq, and_true] at q; omega
  refine bodyPost_ret (v := dyV s (some ⟨gg, 0, none⟩) n cap e) (by simp [results, Tryz.results150, go_sem, m0, m1, m2]) rfl ⟨some ⟨gg, 0, none⟩, cap, rfl, ((hO.other _ _ hne).other _ _ hne).other _ _ hne, ?_⟩
  exact (((hb0.trans (hbA.mono hb0.size)).setCell (le1 _) _).setCell (le1 _) _).setCell (le1 _) _
def NumAt (B : Nat) (w : World) (v : Value) (p : Bool × Nat × Int) : Prop := ∃ (ao : Option Addr) (n c : Nat), v = numV p.1 ao n c p.2.2 false ∧ Hid (n = (wO p.2.1).length) ∧ Hid (n = 0 → ao = none ∧ c = 0) ∧ n ≤ 1024 ∧ OwnW B w ao n c (wO p.2.1)
def DyAt (B : Nat) (w : World) (v : Value) (p : Bool × Nat × Int) : Prop := ∃ (ao : Option Addr) (n c : Nat), v = dyV p.1 ao n c p.2.2 ∧ Hid (n = (wO p.2.1).length) ∧ n ≤ 1024 ∧ OwnW B w ao n c (wO p.2.1)
theorem NumAt.keep {B : Nat} {w w' : World} {v : Value} {p : Bool × Nat × Int} (h : NumAt B w v p) (hb : Below w.heap.size w w') : NumAt B w' v p := by
 obtain ⟨ao, n, c, h1, h2, h3, h4, h5⟩ := h
 exact ⟨ao, n, c, h1, h2, h3, h4, h5.keep hb⟩
theorem NumAt.low {B B' : Nat} {w : World} {v : Value} {p : Bool × Nat × Int} (h : NumAt B w v p) (hB : B' ≤ B) : NumAt B' w v p := by
 obtain ⟨ao, n, c, h1, h2, h3, h4, h5⟩ := h
 exact ⟨ao, n, c, h1, h2, h3, h4, h5.low hB⟩
theorem DyAt.keep {B : Nat} {w w' : World} {v : Value} {p : Bool × Nat × Int} (h : DyAt B w v p) (hb : Below w.heap.size w w') : DyAt B w' v p := by
 obtain ⟨ao, n, c, h1, h2, h4, h5⟩ := h
 exact ⟨ao, n, c, h1, h2, h4, h5.keep hb⟩
theorem DyAt.low {B B' : Nat} {w : World} {v : Value} {p : Bool × Nat × Int} (h : DyAt B w v p) (hB : B' ≤ B) : DyAt B' w v p := by
 obtain ⟨ao, n, c, h1, h2, h4, h5⟩ := h
 exact ⟨ao, n, c, h1, h2, h4, h5.low hB⟩
theorem dyAt_zero (B : Nat) (w : World) : DyAt B w (dyV false none 0 0 0) (false, 0, 0) := ⟨none, 0, 0, rfl, by rw [words_zero]; rfl, by omega, by rw [words_zero]; exact ownW_nil _ _⟩
theorem numAt_zero (B : Nat) (w : World) : NumAt B w (numV false none 0 0 0 false) (false, 0, 0) := ⟨none, 0, 0, rfl, by rw [words_zero]; rfl, fun _ => ⟨rfl, rfl⟩, by omega, by rw [words_zero]; exact ownW_nil _ _⟩
theorem told_calls (B : Nat) (v : Value) (p : Bool × Nat × Int) (w : World) (h : NumAt B w v p) :
  Calls Tryz.prog 150 #[v] w fun r w' => ∃ v', r = .returned v' ∧ DyAt w.heap.size w' v' p ∧ Below w.heap.size w w' := by
 obtain ⟨ao, n, c, rfl, h1, h2, h3, h4⟩ := h
 by_cases hn : n = 0
 ·obtain ⟨rfl, rfl⟩ := h2.out hn
  subst hn
  have hp : wO p.2.1 = [] := List.length_eq_zero_iff.1 h1.out.symm
  refine Calls.mono (told_none p.1 p.2.2 false w) ?_
  rintro r w' ⟨rfl, hb⟩
  exact ⟨_, rfl, ⟨none, 0, 0, rfl, h1, by omega, by rw [hp]; exact ownW_nil _ _⟩, hb⟩
 ·obtain ⟨b, off, rfl, _, _⟩ := h4.1.2.2.2 0 (by omega)
  refine Calls.mono (told_some p.1 ⟨b, off, none⟩ n c _ p.2.2 false w h4.1 (by omega) h3) ?_
  rintro r w' ⟨ao, c', rfl, hO, hb⟩
  exact ⟨_, rfl, ⟨ao, n, c', rfl, h1, h3, hO⟩, hb⟩
end Go.Proofs.YtahpdcbmekgkfaaGreatDoor

namespace Go.Proofs.YtahpdcbmekgkfaaGreatDoor
open Go.RowKit
set_option maxHeartbeats 2000000
set_option maxRecDepth 100000
theorem rightB_great {m : Nat} {e : Int} (h : greatB m = true) : rightB m e = false := by unfold rightB; rw [h]; rfl
theorem rightB_fit {m : Nat} {e : Int} (h : greatB m = false) : rightB m e = inB e := by unfold rightB; rw [h]; rfl
theorem right1_calls (b : Nat) (s : Bool) (a : Option Addr) (len cap : Nat) (xs : List Int) (e : Int) (w : World) (h : IsW w a len cap xs) (hm : len ≤ 17592186044416)
  (k0 : w.cell? ⟨b, 0, none⟩ = some (.bool s)) (k1 : w.cell? ⟨b, 1, none⟩ = some (.slice a len cap)) (k2 : w.cell? ⟨b, 2, none⟩ = some (.int .i64 e)) :
  Calls Tryz.prog 140 #[.slice (some ⟨b, 0, none⟩) 1 1] w fun r w' => r = .returned (.bool (rightB (val xs) e)) ∧ Below w.heap.size w w' := by
 have hb0 : Below w.heap.size w (w.alloc (.cells #[.bool s, .slice a len cap, .int .i64 e] 25)) := below_one _ _
 have LC : Hid _ := len_calls a len cap xs _ (h.keep hb0) hm
 cases hg : greatB (val xs) with
 | true =>
  have HR : Hid (rightB (val xs) e = false) := rightB_great hg
  have HG : Hid (greatB (val xs) = true) := hg
  clear hg
  go_enter Tryz.func140, Tryz.ntmps140
  go_wp2_with fail
  refine wp_loop_rounds 2 ?_
  rw [rounds_succ]
  go_wp2_with fail
  refine cM LC.out ?_
  rintro r w1 ⟨hr, _, hb1⟩
  obtain rfl := hr HG.out
  go_wp2_with fail
  go_ret
  exact ⟨nret_bool HR.out.symm, nT hb0 hb1⟩
 | false =>
  have HR : Hid (rightB (val xs) e = inB e) := rightB_fit hg
  have HG : Hid (greatB (val xs) = false) := hg
  clear hg
  go_enter Tryz.func140, Tryz.ntmps140
  go_wp2_with fail
  refine wp_loop_rounds 2 ?_
  rw [rounds_succ]
  go_wp2_with fail
  refine cM LC.out ?_
  rintro r w1 ⟨_, hr, hb1⟩
  obtain rfl := hr HG.out
  have m2 : w1.cell? ⟨w.heap.size, 2, none⟩ = some (.int .i64 e) := kC hb1 (by go_simp)
  clear hr
  go_wp2_with fail
  refine cM (inBounds_calls e _) ?_
  rintro r w1 ⟨rfl, rfl⟩
  rw [← HR.out]
  cases hR : rightB (val xs) e with
  | false =>
   go_wp2_with fail
   go_ret
   exact ⟨nret_bool hR.symm, nT hb0 hb1⟩
  | true =>
   go_wp2_with fail
   rw [rounds_succ]
   go_wp2_with fail
   go_ret
   exact ⟨nret_bool hR.symm, nT hb0 hb1⟩
theorem right2_calls (b : Nat) (s : Bool) (a : Option Addr) (len cap : Nat) (xs : List Int) (e : Int) (s' : Bool) (a' : Option Addr) (len' cap' : Nat) (ys : List Int) (e' : Int) (w : World) (h : IsW w a len cap xs) (hm : len ≤ 17592186044416) (h' : IsW w a' len' cap' ys) (hm' : len' ≤ 17592186044416)
  (k0 : w.cell? ⟨b, 0, none⟩ = some (.bool s)) (k1 : w.cell? ⟨b, 1, none⟩ = some (.slice a len cap)) (k2 : w.cell? ⟨b, 2, none⟩ = some (.int .i64 e))
  (l0 : w.cell? ⟨b, 3, none⟩ = some (.bool s')) (l1 : w.cell? ⟨b, 4, none⟩ = some (.slice a' len' cap')) (l2 : w.cell? ⟨b, 5, none⟩ = some (.int .i64 e')) :
  Calls Tryz.prog 140 #[.slice (some ⟨b, 0, none⟩) 2 2] w fun r w' => r = .returned (.bool (rightB (val xs) e && rightB (val ys) e')) ∧ Below w.heap.size w w' := by
 have hb0 : Below w.heap.size w (w.alloc (.cells #[.bool s, .slice a len cap, .int .i64 e] 25)) := below_one _ _
 have LC : Hid _ := len_calls a len cap xs _ (h.keep hb0) hm
 cases hg : greatB (val xs) with
 | true =>
  have HR : Hid (rightB (val xs) e = false) := rightB_great hg
  have HG : Hid (greatB (val xs) = true) := hg
  clear hg
  go_enter Tryz.func140, Tryz.ntmps140
  go_wp2_with fail
  refine wp_loop_rounds 3 ?_
  rw [rounds_succ]
  go_wp2_with fail
  refine cM LC.out ?_
  rintro r w1 ⟨hr, _, hb1⟩
  obtain rfl := hr HG.out
  go_wp2_with fail
  go_ret
  exact ⟨nret_bool (by rw [HR.out]; rfl), nT hb0 hb1⟩
 | false =>
  have HR : Hid (rightB (val xs) e = inB e) := rightB_fit hg
  have HG : Hid (greatB (val xs) = false) := hg
  clear hg
  go_enter Tryz.func140, Tryz.ntmps140
  go_wp2_with fail
  refine wp_loop_rounds 3 ?_
  rw [rounds_succ]
  go_wp2_with fail
  refine cM LC.out ?_
  rintro r w1 ⟨_, hr, hb1⟩
  obtain rfl := hr HG.out
  have m2 : w1.cell? ⟨w.heap.size, 2, none⟩ = some (.int .i64 e) := kC hb1 (by go_simp)
  have hb01 := nT hb0 hb1
  clear hr
  go_wp2_with fail
  refine cM (inBounds_calls e _) ?_
  rintro r w1 ⟨rfl, rfl⟩
  rw [← HR.out]
  cases hR : rightB (val xs) e with
  | false =>
   go_wp2_with fail
   go_ret
   exact ⟨nret_bool (by rw [hR]; rfl), hb01⟩
  | true =>
   have HRT : Hid (rightB (val xs) e = true) := hR
   have hb2 : Below w1.heap.size w1 (w1.alloc (.cells #[.bool s', .slice a' len' cap', .int .i64 e'] 25)) := below_one _ _
   have LC2 : Hid _ := len_calls a' len' cap' ys _ (h'.keep (nT hb01 hb2)) hm'
   have l0' := kC hb01 l0
   have l1' := kC hb01 l1
   have l2' := kC hb01 l2
   clear hb1 m2 k0 k1 k2 l0 l1 l2 hb0 HR hR LC
   go_wp2_with fail
   rw [rounds_succ]
   go_wp2_with fail
   refine cM LC2.out ?_
   rintro r w2 ⟨hr1, hr2, hb3⟩
   cases hg : greatB (val ys) with
   | true =>
    have HR2 : Hid (rightB (val ys) e' = false) := rightB_great hg
    obtain rfl := hr1 hg
    clear hr1 hr2 hg
    go_wp2_with fail
    go_ret
    exact ⟨nret_bool (by rw [HR2.out]; simp), nT (nT hb01 hb2) hb3⟩
   | false =>
    have HR2 : Hid (rightB (val ys) e' = inB e') := rightB_fit hg
    obtain rfl := hr2 hg
    have m2 : w2.cell? ⟨w1.heap.size, 2, none⟩ = some (.int .i64 e') := kC hb3 (by go_simp)
    clear hr1 hr2 hg
    go_wp2_with fail
    refine cM (inBounds_calls e' _) ?_
    rintro r w2 ⟨rfl, rfl⟩
    rw [← HR2.out]
    cases hR : rightB (val ys) e' with
    | false =>
     go_wp2_with fail
     go_ret
     exact ⟨nret_bool (by rw [HRT.out, hR]; rfl), nT (nT hb01 hb2) hb3⟩
    | true =>
     go_wp2_with fail
     rw [rounds_succ]
     go_wp2_with fail
     go_ret
     exact ⟨nret_bool (by rw [HRT.out, hR]; rfl), nT (nT hb01 hb2) hb3⟩
end Go.Proofs.YtahpdcbmekgkfaaGreatDoor

namespace Go.Proofs.YtahpdcbmekgkfaaGreatDoor
open Go.RowKit
set_option maxHeartbeats 2000000
set_option maxRecDepth 100000
def roomB (p : Bool × Nat × Int) : Bool := !greatB p.2.1 && inB p.2.2
def NumR (B : Nat) (w : World) (v : Value) (p : Bool × Nat × Int) : Prop := (greatB p.2.1 = false ∧ NumAt B w v p) ∨ (greatB p.2.1 = true ∧ v = numV false none 0 0 0 true)
theorem made_not (fv sl : Value) (w : World) (HR : ∀ W, Below w.heap.size w W → Calls Tryz.prog 140 #[sl] W fun r w' => r = .returned (.bool false) ∧ Below W.heap.size W w') :
  Calls Tryz.prog 122 #[fv, sl] w fun r w' => r = .returned (.tuple #[dyV false none 0 0 0, .int .i64 2]) ∧ Below w.heap.size w w' := by
 have H1 : Hid _ := HR _ (below_one w (.cells #[.bool false, .slice none 0 0, .int .i64 0] 25))
 clear HR
 go_enter Tryz.func122, Tryz.ntmps122
 go_wp2_with fail
 refine cM H1.out ?_
 rintro r w1 ⟨rfl, hb1⟩
 obtain ⟨m0, m1, m2, f0, f1, f2⟩ := zero_dy (r := w.heap.size) hb1 rfl
 go_wp2_with fail
 refine bodyPost_ret (v := .tuple #[dyV false none 0 0 0, .int .i64 2]) (by simp [results, Tryz.results122, go_sem, m0, m1, m2]) rfl ⟨rfl, ?_⟩
 exact (((nT (below_one _ _) hb1).setCell (Nat.le_refl _) _).setCell (Nat.le_refl _) _).setCell (Nat.le_refl _) _
def roomE (p : Bool × Nat × Int) : Int := if roomB p = true then 0 else 3
def roomP (p : Bool × Nat × Int) : Bool × Nat × Int := if roomB p = true then p else (false, 0, 0)
theorem room_yes {p : Bool × Nat × Int} (hg : greatB p.2.1 = false) (hI : inB p.2.2 = true) : roomE p = 0 ∧ roomP p = p := by
 have h : roomB p = true := by unfold roomB; rw [hg, hI]; rfl
 unfold roomE roomP; rw [if_pos h, if_pos h]; exact ⟨rfl, rfl⟩
theorem room_no {p : Bool × Nat × Int} (hg : greatB p.2.1 = true ∨ inB p.2.2 = false) : roomE p = 3 ∧ roomP p = (false, 0, 0) := by
 have h : ¬ roomB p = true := by
  unfold roomB
  rcases hg with q | q <;> rw [q] <;> simp
 unfold roomE roomP; rw [if_neg h, if_neg h]; exact ⟨rfl, rfl⟩
theorem made_itself (s : Bool) (a : Option Addr) (n c : Nat) (e : Int) (g : Bool) (B : Nat) (p : Bool × Nat × Int) (sl : Value) (w : World) (HR : ∀ W, Below w.heap.size w W → Calls Tryz.prog 140 #[sl] W fun r w' => r = .returned (.bool true) ∧ Below W.heap.size W w')
  (HW : ∀ W, Below w.heap.size w W → Calls Tryz.prog 124 #[numV s a n c e g] W fun r w' => ∃ v, r = .returned v ∧ NumR B w' v p ∧ Below W.heap.size W w') :
  Calls Tryz.prog 122 #[.func (.func 124) #[numV s a n c e g] #[], sl] w fun r w' => ∃ v', r = .returned (.tuple #[v', .int .i64 (roomE p)]) ∧ DyAt w.heap.size w' v' (roomP p) ∧ Below w.heap.size w w' := by
 have H1 : Hid _ := HR _ (below_one w (.cells #[.bool false, .slice none 0 0, .int .i64 0] 25))
 have HW1 : Hid _ := HW
 clear HR HW
 go_enter Tryz.func122, Tryz.ntmps122
 go_wp2_with fail
 refine cM H1.out ?_
 rintro r w1 ⟨rfl, hb1⟩
 have hb01 := nT (below_one w (.cells #[.bool false, .slice none 0 0, .int .i64 0] 25)) hb1
 clear H1
 go_wp2_with fail
 refine cM (HW1.out _ hb01) ?_
 rintro r w2 ⟨v, rfl, hN, hb2⟩
 have hb02 := nT hb01 hb2
 have hb12 := nT hb1 hb2
 clear HW1 hb01 hb1 hb2
 rcases hN with ⟨hg, hN⟩ | ⟨hg, rfl⟩
 ·obtain ⟨ao, nn, cc, rfl, h1, h2, h3, h4⟩ := hN
  go_wp2_with fail
  refine cM (hasRoom_calls _ _ _ _ _ _ _) ?_
  rintro r w3 ⟨rfl, rfl⟩
  have hb3 : Below w2.heap.size w2 ((w2.alloc (.cells #[.bool p.1, .slice ao nn cc, .int .i64 p.2.2, .bool false] 109)).alloc (.cells #[.bool p.1, .slice ao nn cc, .int .i64 p.2.2, .bool false] 109)) := nT (below_one _ _) (below_one _ _)
  have hb13 := nT hb12 hb3
  have hb03 := nT hb02 hb3
  obtain ⟨m0, m1, m2, f0, f1, f2⟩ := zero_dy (r := w.heap.size) hb13 rfl
  cases hI : inB p.2.2 with
  | true =>
   have HE : Hid (roomE p = 0 ∧ roomP p = p) := room_yes hg hI
   have TC : Hid _ := told_calls B (numV p.1 ao nn cc p.2.2 false) p _ ((show NumAt B w2 _ p from ⟨ao, nn, cc, rfl, h1, h2, h3, h4⟩).keep hb3)
   clear hI hg h4
   go_wp2_with fail
   refine cM TC.out ?_
   rintro r w4 ⟨v', rfl, hD, hb4⟩
   obtain ⟨a4, n4, c4, rfl, i1, i2, i3⟩ := hD
   have hb14 := nT hb13 hb4
   have hb04 := nT hb03 hb4
   have hsz : w.heap.size < w2.heap.size := by have := hb12.size; simp at this; omega
   clear m0 m1 m2 f0 f1 f2 TC
   obtain ⟨m0, m1, m2, f0, f1, f2⟩ := zero_dy (r := w.heap.size) hb14 rfl
   clear hb12 hb13 hb14 hb3 hb4 hb03 hb02
   go_wp2_with fail
   refine bodyPost_ret (v := .tuple #[dyV p.1 a4 n4 c4 p.2.2, .int .i64 0]) (by simp [results, Tryz.results122, go_sem, m0, m1, m2]) rfl ⟨dyV p.1 a4 n4 c4 p.2.2, by rw [HE.out.1], ?_, ?_⟩
   ·rw [HE.out.2]
    simp only [World.size_alloc] at i3
    exact ⟨a4, n4, c4, rfl, i1, i2, (((i3.far _ _ (by show w.heap.size < _; omega)).far _ _ (by show w.heap.size < _; omega)).far _ _ (by show w.heap.size < _; omega)).low (by omega)⟩
   ·exact ((hb04.setCell (Nat.le_refl _) _).setCell (Nat.le_refl _) _).setCell (Nat.le_refl _) _
  | false =>
   have HE : Hid (roomE p = 3 ∧ roomP p = (false, 0, 0)) := room_no (Or.inr hI)
   clear hI hg h4
   go_wp2_with fail
   refine bodyPost_ret (v := .tuple #[dyV false none 0 0 0, .int .i64 3]) (by simp [results, Tryz.results122, go_sem, m0, m1, m2]) rfl ⟨dyV false none 0 0 0, by rw [HE.out.1], by rw [HE.out.2]; exact dyAt_zero _ _, ?_⟩
   exact ((hb03.setCell (Nat.le_refl _) _).setCell (Nat.le_refl _) _).setCell (Nat.le_refl _) _
 ·have HE : Hid (roomE p = 3 ∧ roomP p = (false, 0, 0)) := room_no (Or.inl hg)
  clear hg
  go_wp2_with fail
  refine cM (hasRoom_calls _ _ _ _ _ _ _) ?_
  rintro r w3 ⟨rfl, rfl⟩
  have hb3 : Below w2.heap.size w2 ((w2.alloc (.cells #[.bool false, .slice none 0 0, .int .i64 0, .bool true] 109)).alloc (.cells #[.bool false, .slice none 0 0, .int .i64 0, .bool true] 109)) := nT (below_one _ _) (below_one _ _)
  have hb13 := nT hb12 hb3
  have hb03 := nT hb02 hb3
  obtain ⟨m0, m1, m2, f0, f1, f2⟩ := zero_dy (r := w.heap.size) hb13 rfl
  go_wp2_with fail
  refine bodyPost_ret (v := .tuple #[dyV false none 0 0 0, .int .i64 3]) (by simp [results, Tryz.results122, go_sem, m0, m1, m2]) rfl ⟨dyV false none 0 0 0, by rw [HE.out.1], by rw [HE.out.2]; exact dyAt_zero _ _, ?_⟩
  exact ((hb03.setCell (Nat.le_refl _) _).setCell (Nat.le_refl _) _).setCell (Nat.le_refl _) _
theorem made_whole (s : Bool) (a : Option Addr) (n c : Nat) (e : Int) (g : Bool) (B : Nat) (p : Bool × Nat × Int) (sl : Value) (w : World) (HR : ∀ W, Below w.heap.size w W → Calls Tryz.prog 140 #[sl] W fun r w' => r = .returned (.bool true) ∧ Below W.heap.size W w')
  (HW : ∀ W, Below w.heap.size w W → Calls Tryz.prog 189 #[numV s a n c e g] W fun r w' => ∃ v, r = .returned v ∧ NumR B w' v p ∧ Below W.heap.size W w') :
  Calls Tryz.prog 122 #[.func (.func 189) #[numV s a n c e g] #[], sl] w fun r w' => ∃ v', r = .returned (.tuple #[v', .int .i64 (roomE p)]) ∧ DyAt w.heap.size w' v' (roomP p) ∧ Below w.heap.size w w' := by
 have H1 : Hid _ := HR _ (below_one w (.cells #[.bool false, .slice none 0 0, .int .i64 0] 25))
 have HW1 : Hid _ := HW
 clear HR HW
 go_enter Tryz.func122, Tryz.ntmps122
 go_wp2_with fail
 refine cM H1.out ?_
 rintro r w1 ⟨rfl, hb1⟩
 have hb01 := nT (below_one w (.cells #[.bool false, .slice none 0 0, .int .i64 0] 25)) hb1
 clear H1
 go_wp2_with fail
 refine cM (HW1.out _ hb01) ?_
 rintro r w2 ⟨v, rfl, hN, hb2⟩
 have hb02 := nT hb01 hb2
 have hb12 := nT hb1 hb2
 clear HW1 hb01 hb1 hb2
 rcases hN with ⟨hg, hN⟩ | ⟨hg, rfl⟩
 ·obtain ⟨ao, nn, cc, rfl, h1, h2, h3, h4⟩ := hN
  go_wp2_with fail
  refine cM (hasRoom_calls _ _ _ _ _ _ _) ?_
  rintro r w3 ⟨rfl, rfl⟩
  have hb3 : Below w2.heap.size w2 ((w2.alloc (.cells #[.bool p.1, .slice ao nn cc, .int .i64 p.2.2, .bool false] 109)).alloc (.cells #[.bool p.1, .slice ao nn cc, .int .i64 p.2.2, .bool false] 109)) := nT (below_one _ _) (below_one _ _)
  have hb13 := nT hb12 hb3
  have hb03 := nT hb02 hb3
  obtain ⟨m0, m1, m2, f0, f1, f2⟩ := zero_dy (r := w.heap.size) hb13 rfl
  cases hI : inB p.2.2 with
  | true =>
   have HE : Hid (roomE p = 0 ∧ roomP p = p) := room_yes hg hI
   have TC : Hid _ := told_calls B (numV p.1 ao nn cc p.2.2 false) p _ ((show NumAt B w2 _ p from ⟨ao, nn, cc, rfl, h1, h2, h3, h4⟩).keep hb3)
   clear hI hg h4
   go_wp2_with fail
   refine cM TC.out ?_
   rintro r w4 ⟨v', rfl, hD, hb4⟩
   obtain ⟨a4, n4, c4, rfl, i1, i2, i3⟩ := hD
   have hb14 := nT hb13 hb4
   have hb04 := nT hb03 hb4
   have hsz : w.heap.size < w2.heap.size := by have := hb12.size; simp at this; omega
   clear m0 m1 m2 f0 f1 f2 TC
   obtain ⟨m0, m1, m2, f0, f1, f2⟩ := zero_dy (r := w.heap.size) hb14 rfl
   clear hb12 hb13 hb14 hb3 hb4 hb03 hb02
   go_wp2_with fail
   refine bodyPost_ret (v := .tuple #[dyV p.1 a4 n4 c4 p.2.2, .int .i64 0]) (by simp [results, Tryz.results122, go_sem, m0, m1, m2]) rfl ⟨dyV p.1 a4 n4 c4 p.2.2, by rw [HE.out.1], ?_, ?_⟩
   ·rw [HE.out.2]
    simp only [World.size_alloc] at i3
    exact ⟨a4, n4, c4, rfl, i1, i2, (((i3.far _ _ (by show w.heap.size < _; omega)).far _ _ (by show w.heap.size < _; omega)).far _ _ (by show w.heap.size < _; omega)).low (by omega)⟩
   ·exact ((hb04.setCell (Nat.le_refl _) _).setCell (Nat.le_refl _) _).setCell (Nat.le_refl _) _
  | false =>
   have HE : Hid (roomE p = 3 ∧ roomP p = (false, 0, 0)) := room_no (Or.inr hI)
   clear hI hg h4
   go_wp2_with fail
   refine bodyPost_ret (v := .tuple #[dyV false none 0 0 0, .int .i64 3]) (by simp [results, Tryz.results122, go_sem, m0, m1, m2]) rfl ⟨dyV false none 0 0 0, by rw [HE.out.1], by rw [HE.out.2]; exact dyAt_zero _ _, ?_⟩
   exact ((hb03.setCell (Nat.le_refl _) _).setCell (Nat.le_refl _) _).setCell (Nat.le_refl _) _
 ·have HE : Hid (roomE p = 3 ∧ roomP p = (false, 0, 0)) := room_no (Or.inl hg)
  clear hg
  go_wp2_with fail
  refine cM (hasRoom_calls _ _ _ _ _ _ _) ?_
  rintro r w3 ⟨rfl, rfl⟩
  have hb3 : Below w2.heap.size w2 ((w2.alloc (.cells #[.bool false, .slice none 0 0, .int .i64 0, .bool true] 109)).alloc (.cells #[.bool false, .slice none 0 0, .int .i64 0, .bool true] 109)) := nT (below_one _ _) (below_one _ _)
  have hb13 := nT hb12 hb3
  have hb03 := nT hb02 hb3
  obtain ⟨m0, m1, m2, f0, f1, f2⟩ := zero_dy (r := w.heap.size) hb13 rfl
  go_wp2_with fail
  refine bodyPost_ret (v := .tuple #[dyV false none 0 0 0, .int .i64 3]) (by simp [results, Tryz.results122, go_sem, m0, m1, m2]) rfl ⟨dyV false none 0 0 0, by rw [HE.out.1], by rw [HE.out.2]; exact dyAt_zero _ _, ?_⟩
  exact ((hb03.setCell (Nat.le_refl _) _).setCell (Nat.le_refl _) _).setCell (Nat.le_refl _) _
theorem made_rest (s : Bool) (a : Option Addr) (n c : Nat) (e : Int) (g : Bool) (B : Nat) (p : Bool × Nat × Int) (sl : Value) (w : World) (HR : ∀ W, Below w.heap.size w W → Calls Tryz.prog 140 #[sl] W fun r w' => r = .returned (.bool true) ∧ Below W.heap.size W w')
  (HW : ∀ W, Below w.heap.size w W → Calls Tryz.prog 190 #[numV s a n c e g] W fun r w' => ∃ v, r = .returned v ∧ NumR B w' v p ∧ Below W.heap.size W w') :
  Calls Tryz.prog 122 #[.func (.func 190) #[numV s a n c e g] #[], sl] w fun r w' => ∃ v', r = .returned (.tuple #[v', .int .i64 (roomE p)]) ∧ DyAt w.heap.size w' v' (roomP p) ∧ Below w.heap.size w w' := by
 have H1 : Hid _ := HR _ (below_one w (.cells #[.bool false, .slice none 0 0, .int .i64 0] 25))
 have HW1 : Hid _ := HW
 clear HR HW
 go_enter Tryz.func122, Tryz.ntmps122
 go_wp2_with fail
 refine cM H1.out ?_
 rintro r w1 ⟨rfl, hb1⟩
 have hb01 := nT (below_one w (.cells #[.bool false, .slice none 0 0, .int .i64 0] 25)) hb1
 clear H1
 go_wp2_with fail
 refine cM (HW1.out _ hb01) ?_
 rintro r w2 ⟨v, rfl, hN, hb2⟩
 have hb02 := nT hb01 hb2
 have hb12 := nT hb1 hb2
 clear HW1 hb01 hb1 hb2
 rcases hN with ⟨hg, hN⟩ | ⟨hg, rfl⟩
 ·obtain ⟨ao, nn, cc, rfl, h1, h2, h3, h4⟩ := hN
  go_wp2_with fail
  refine cM (hasRoom_calls _ _ _ _ _ _ _) ?_
  rintro r w3 ⟨rfl, rfl⟩
  have hb3 : Below w2.heap.size w2 ((w2.alloc (.cells #[.bool p.1, .slice ao nn cc, .int .i64 p.2.2, .bool false] 109)).alloc (.cells #[.bool p.1, .slice ao nn cc, .int .i64 p.2.2, .bool false] 109)) := nT (below_one _ _) (below_one _ _)
  have hb13 := nT hb12 hb3
  have hb03 := nT hb02 hb3
  obtain ⟨m0, m1, m2, f0, f1, f2⟩ := zero_dy (r := w.heap.size) hb13 rfl
  cases hI : inB p.2.2 with
  | true =>
   have HE : Hid (roomE p = 0 ∧ roomP p = p) := room_yes hg hI
   have TC : Hid _ := told_calls B (numV p.1 ao nn cc p.2.2 false) p _ ((show NumAt B w2 _ p from ⟨ao, nn, cc, rfl, h1, h2, h3, h4⟩).keep hb3)
   clear hI hg h4
   go_wp2_with fail
   refine cM TC.out ?_
   rintro r w4 ⟨v', rfl, hD, hb4⟩
   obtain ⟨a4, n4, c4, rfl, i1, i2, i3⟩ := hD
   have hb14 := nT hb13 hb4
   have hb04 := nT hb03 hb4
   have hsz : w.heap.size < w2.heap.size := by have := hb12.size; simp at this; omega
   clear m0 m1 m2 f0 f1 f2 TC
   obtain ⟨m0, m1, m2, f0, f1, f2⟩ := zero_dy (r := w.heap.size) hb14 rfl
   clear hb12 hb13 hb14 hb3 hb4 hb03 hb02
   go_wp2_with fail
   refine bodyPost_ret (v := .tuple #[dyV p.1 a4 n4 c4 p.2.2, .int .i64 0]) (by simp [results, Tryz.results122, go_sem, m0, m1, m2]) rfl ⟨dyV p.1 a4 n4 c4 p.2.2, by rw [HE.out.1], ?_, ?_⟩
   ·rw [HE.out.2]
    simp only [World.size_alloc] at i3
    exact ⟨a4, n4, c4, rfl, i1, i2, (((i3.far _ _ (by show w.heap.size < _; omega)).far _ _ (by show w.heap.size < _; omega)).far _ _ (by show w.heap.size < _; omega)).low (by omega)⟩
   ·exact ((hb04.setCell (Nat.le_refl _) _).setCell (Nat.le_refl _) _).setCell (Nat.le_refl _) _
  | false =>
   have HE : Hid (roomE p = 3 ∧ roomP p = (false, 0, 0)) := room_no (Or.inr hI)
   clear hI hg h4
   go_wp2_with fail
   refine bodyPost_ret (v := .tuple #[dyV false none 0 0 0, .int .i64 3]) (by simp [results, Tryz.results122, go_sem, m0, m1, m2]) rfl ⟨dyV false none 0 0 0, by rw [HE.out.1], by rw [HE.out.2]; exact dyAt_zero _ _, ?_⟩
   exact ((hb03.setCell (Nat.le_refl _) _).setCell (Nat.le_refl _) _).setCell (Nat.le_refl _) _
 ·have HE : Hid (roomE p = 3 ∧ roomP p = (false, 0, 0)) := room_no (Or.inl hg)
  clear hg
  go_wp2_with fail
  refine cM (hasRoom_calls _ _ _ _ _ _ _) ?_
  rintro r w3 ⟨rfl, rfl⟩
  have hb3 : Below w2.heap.size w2 ((w2.alloc (.cells #[.bool false, .slice none 0 0, .int .i64 0, .bool true] 109)).alloc (.cells #[.bool false, .slice none 0 0, .int .i64 0, .bool true] 109)) := nT (below_one _ _) (below_one _ _)
  have hb13 := nT hb12 hb3
  have hb03 := nT hb02 hb3
  obtain ⟨m0, m1, m2, f0, f1, f2⟩ := zero_dy (r := w.heap.size) hb13 rfl
  go_wp2_with fail
  refine bodyPost_ret (v := .tuple #[dyV false none 0 0 0, .int .i64 3]) (by simp [results, Tryz.results122, go_sem, m0, m1, m2]) rfl ⟨dyV false none 0 0 0, by rw [HE.out.1], by rw [HE.out.2]; exact dyAt_zero _ _, ?_⟩
  exact ((hb03.setCell (Nat.le_refl _) _).setCell (Nat.le_refl _) _).setCell (Nat.le_refl _) _
theorem made_Add (b1 b2 : Nat) (B : Nat) (p : Bool × Nat × Int) (sl : Value) (w : World) (HR : ∀ W, Below w.heap.size w W → Calls Tryz.prog 140 #[sl] W fun r w' => r = .returned (.bool true) ∧ Below W.heap.size W w')
  (HW : ∀ W, Below w.heap.size w W → Calls Tryz.prog 188 #[.pointer (some ⟨b1, 0, none⟩), .pointer (some ⟨b2, 0, none⟩)] W fun r w' => ∃ v, r = .returned v ∧ NumR B w' v p ∧ Below W.heap.size W w') :
  Calls Tryz.prog 122 #[.func (.func 188) #[] #[.pointer (some ⟨b1, 0, none⟩), .pointer (some ⟨b2, 0, none⟩)], sl] w fun r w' => ∃ v', r = .returned (.tuple #[v', .int .i64 (roomE p)]) ∧ DyAt w.heap.size w' v' (roomP p) ∧ Below w.heap.size w w' := by
 have H1 : Hid _ := HR _ (below_one w (.cells #[.bool false, .slice none 0 0, .int .i64 0] 25))
 have HW1 : Hid _ := HW
 clear HR HW
 go_enter Tryz.func122, Tryz.ntmps122
 go_wp2_with fail
 refine cM H1.out ?_
 rintro r w1 ⟨rfl, hb1⟩
 have hb01 := nT (below_one w (.cells #[.bool false, .slice none 0 0, .int .i64 0] 25)) hb1
 clear H1
 go_wp2_with fail
 refine cM (HW1.out _ hb01) ?_
 rintro r w2 ⟨v, rfl, hN, hb2⟩
 have hb02 := nT hb01 hb2
 have hb12 := nT hb1 hb2
 clear HW1 hb01 hb1 hb2
 rcases hN with ⟨hg, hN⟩ | ⟨hg, rfl⟩
 ·obtain ⟨ao, nn, cc, rfl, h1, h2, h3, h4⟩ := hN
  go_wp2_with fail
  refine cM (hasRoom_calls _ _ _ _ _ _ _) ?_
  rintro r w3 ⟨rfl, rfl⟩
  have hb3 : Below w2.heap.size w2 ((w2.alloc (.cells #[.bool p.1, .slice ao nn cc, .int .i64 p.2.2, .bool false] 109)).alloc (.cells #[.bool p.1, .slice ao nn cc, .int .i64 p.2.2, .bool false] 109)) := nT (below_one _ _) (below_one _ _)
  have hb13 := nT hb12 hb3
  have hb03 := nT hb02 hb3
  obtain ⟨m0, m1, m2, f0, f1, f2⟩ := zero_dy (r := w.heap.size) hb13 rfl
  cases hI : inB p.2.2 with
  | true =>
   have HE : Hid (roomE p = 0 ∧ roomP p = p) := room_yes hg hI
   have TC : Hid _ := told_calls B (numV p.1 ao nn cc p.2.2 false) p _ ((show NumAt B w2 _ p from ⟨ao, nn, cc, rfl, h1, h2, h3, h4⟩).keep hb3)
   clear hI hg h4
   go_wp2_with fail
   refine cM TC.out ?_
   rintro r w4 ⟨v', rfl, hD, hb4⟩
   obtain ⟨a4, n4, c4, rfl, i1, i2, i3⟩ := hD
   have hb14 := nT hb13 hb4
   have hb04 := nT hb03 hb4
   have hsz : w.heap.size < w2.heap.size := by have := hb12.size; simp at this; omega
   clear m0 m1 m2 f0 f1 f2 TC
   obtain ⟨m0, m1, m2, f0, f1, f2⟩ := zero_dy (r := w.heap.size) hb14 rfl
   clear hb12 hb13 hb14 hb3 hb4 hb03 hb02
   go_wp2_with fail
   refine bodyPost_ret (v := .tuple #[dyV p.1 a4 n4 c4 p.2.2, .int .i64 0]) (by simp [results, Tryz.results122, go_sem, m0, m1, m2]) rfl ⟨dyV p.1 a4 n4 c4 p.2.2, by rw [HE.out.1], ?_, ?_⟩
   ·rw [HE.out.2]
    simp only [World.size_alloc] at i3
    exact ⟨a4, n4, c4, rfl, i1, i2, (((i3.far _ _ (by show w.heap.size < _; omega)).far _ _ (by show w.heap.size < _; omega)).far _ _ (by show w.heap.size < _; omega)).low (by omega)⟩
   ·exact ((hb04.setCell (Nat.le_refl _) _).setCell (Nat.le_refl _) _).setCell (Nat.le_refl _) _
  | false =>
   have HE : Hid (roomE p = 3 ∧ roomP p = (false, 0, 0)) := room_no (Or.inr hI)
   clear hI hg h4
   go_wp2_with fail
   refine bodyPost_ret (v := .tuple #[dyV false none 0 0 0, .int .i64 3]) (by simp [results, Tryz.results122, go_sem, m0, m1, m2]) rfl ⟨dyV false none 0 0 0, by rw [HE.out.1], by rw [HE.out.2]; exact dyAt_zero _ _, ?_⟩
   exact ((hb03.setCell (Nat.le_refl _) _).setCell (Nat.le_refl _) _).setCell (Nat.le_refl _) _
 ·have HE : Hid (roomE p = 3 ∧ roomP p = (false, 0, 0)) := room_no (Or.inl hg)
  clear hg
  go_wp2_with fail
  refine cM (hasRoom_calls _ _ _ _ _ _ _) ?_
  rintro r w3 ⟨rfl, rfl⟩
  have hb3 : Below w2.heap.size w2 ((w2.alloc (.cells #[.bool false, .slice none 0 0, .int .i64 0, .bool true] 109)).alloc (.cells #[.bool false, .slice none 0 0, .int .i64 0, .bool true] 109)) := nT (below_one _ _) (below_one _ _)
  have hb13 := nT hb12 hb3
  have hb03 := nT hb02 hb3
  obtain ⟨m0, m1, m2, f0, f1, f2⟩ := zero_dy (r := w.heap.size) hb13 rfl
  go_wp2_with fail
  refine bodyPost_ret (v := .tuple #[dyV false none 0 0 0, .int .i64 3]) (by simp [results, Tryz.results122, go_sem, m0, m1, m2]) rfl ⟨dyV false none 0 0 0, by rw [HE.out.1], by rw [HE.out.2]; exact dyAt_zero _ _, ?_⟩
  exact ((hb03.setCell (Nat.le_refl _) _).setCell (Nat.le_refl _) _).setCell (Nat.le_refl _) _
theorem made_Sub (b1 b2 : Nat) (B : Nat) (p : Bool × Nat × Int) (sl : Value) (w : World) (HR : ∀ W, Below w.heap.size w W → Calls Tryz.prog 140 #[sl] W fun r w' => r = .returned (.bool true) ∧ Below W.heap.size W w')
  (HW : ∀ W, Below w.heap.size w W → Calls Tryz.prog 142 #[.pointer (some ⟨b1, 0, none⟩), .pointer (some ⟨b2, 0, none⟩)] W fun r w' => ∃ v, r = .returned v ∧ NumR B w' v p ∧ Below W.heap.size W w') :
  Calls Tryz.prog 122 #[.func (.func 142) #[] #[.pointer (some ⟨b1, 0, none⟩), .pointer (some ⟨b2, 0, none⟩)], sl] w fun r w' => ∃ v', r = .returned (.tuple #[v', .int .i64 (roomE p)]) ∧ DyAt w.heap.size w' v' (roomP p) ∧ Below w.heap.size w w' := by
 have H1 : Hid _ := HR _ (below_one w (.cells #[.bool false, .slice none 0 0, .int .i64 0] 25))
 have HW1 : Hid _ := HW
 clear HR HW
 go_enter Tryz.func122, Tryz.ntmps122
 go_wp2_with fail
 refine cM H1.out ?_
 rintro r w1 ⟨rfl, hb1⟩
 have hb01 := nT (below_one w (.cells #[.bool false, .slice none 0 0, .int .i64 0] 25)) hb1
 clear H1
 go_wp2_with fail
 refine cM (HW1.out _ hb01) ?_
 rintro r w2 ⟨v, rfl, hN, hb2⟩
 have hb02 := nT hb01 hb2
 have hb12 := nT hb1 hb2
 clear HW1 hb01 hb1 hb2
 rcases hN with ⟨hg, hN⟩ | ⟨hg, rfl⟩
 ·obtain ⟨ao, nn, cc, rfl, h1, h2, h3, h4⟩ := hN
  go_wp2_with fail
  refine cM (hasRoom_calls _ _ _ _ _ _ _) ?_
  rintro r w3 ⟨rfl, rfl⟩
  have hb3 : Below w2.heap.size w2 ((w2.alloc (.cells #[.bool p.1, .slice ao nn cc, .int .i64 p.2.2, .bool false] 109)).alloc (.cells #[.bool p.1, .slice ao nn cc, .int .i64 p.2.2, .bool false] 109)) := nT (below_one _ _) (below_one _ _)
  have hb13 := nT hb12 hb3
  have hb03 := nT hb02 hb3
  obtain ⟨m0, m1, m2, f0, f1, f2⟩ := zero_dy (r := w.heap.size) hb13 rfl
  cases hI : inB p.2.2 with
  | true =>
   have HE : Hid (roomE p = 0 ∧ roomP p = p) := room_yes hg hI
   have TC : Hid _ := told_calls B (numV p.1 ao nn cc p.2.2 false) p _ ((show NumAt B w2 _ p from ⟨ao, nn, cc, rfl, h1, h2, h3, h4⟩).keep hb3)
   clear hI hg h4
   go_wp2_with fail
   refine cM TC.out ?_
   rintro r w4 ⟨v', rfl, hD, hb4⟩
   obtain ⟨a4, n4, c4, rfl, i1, i2, i3⟩ := hD
   have hb14 := nT hb13 hb4
   have hb04 := nT hb03 hb4
   have hsz : w.heap.size < w2.heap.size := by have := hb12.size; simp at this; omega
   clear m0 m1 m2 f0 f1 f2 TC
   obtain ⟨m0, m1, m2, f0, f1, f2⟩ := zero_dy (r := w.heap.size) hb14 rfl
   clear hb12 hb13 hb14 hb3 hb4 hb03 hb02
   go_wp2_with fail
   refine bodyPost_ret (v := .tuple #[dyV p.1 a4 n4 c4 p.2.2, .int .i64 0]) (by simp [results, Tryz.results122, go_sem, m0, m1, m2]) rfl ⟨dyV p.1 a4 n4 c4 p.2.2, by rw [HE.out.1], ?_, ?_⟩
   ·rw [HE.out.2]
    simp only [World.size_alloc] at i3
    exact ⟨a4, n4, c4, rfl, i1, i2, (((i3.far _ _ (by show w.heap.size < _; omega)).far _ _ (by show w.heap.size < _; omega)).far _ _ (by show w.heap.size < _; omega)).low (by omega)⟩
   ·exact ((hb04.setCell (Nat.le_refl _) _).setCell (Nat.le_refl _) _).setCell (Nat.le_refl _) _
  | false =>
   have HE : Hid (roomE p = 3 ∧ roomP p = (false, 0, 0)) := room_no (Or.inr hI)
   clear hI hg h4
   go_wp2_with fail
   refine bodyPost_ret (v := .tuple #[dyV false none 0 0 0, .int .i64 3]) (by simp [results, Tryz.results122, go_sem, m0, m1, m2]) rfl ⟨dyV false none 0 0 0, by rw [HE.out.1], by rw [HE.out.2]; exact dyAt_zero _ _, ?_⟩
   exact ((hb03.setCell (Nat.le_refl _) _).setCell (Nat.le_refl _) _).setCell (Nat.le_refl _) _
 ·have HE : Hid (roomE p = 3 ∧ roomP p = (false, 0, 0)) := room_no (Or.inl hg)
  clear hg
  go_wp2_with fail
  refine cM (hasRoom_calls _ _ _ _ _ _ _) ?_
  rintro r w3 ⟨rfl, rfl⟩
  have hb3 : Below w2.heap.size w2 ((w2.alloc (.cells #[.bool false, .slice none 0 0, .int .i64 0, .bool true] 109)).alloc (.cells #[.bool false, .slice none 0 0, .int .i64 0, .bool true] 109)) := nT (below_one _ _) (below_one _ _)
  have hb13 := nT hb12 hb3
  have hb03 := nT hb02 hb3
  obtain ⟨m0, m1, m2, f0, f1, f2⟩ := zero_dy (r := w.heap.size) hb13 rfl
  go_wp2_with fail
  refine bodyPost_ret (v := .tuple #[dyV false none 0 0 0, .int .i64 3]) (by simp [results, Tryz.results122, go_sem, m0, m1, m2]) rfl ⟨dyV false none 0 0 0, by rw [HE.out.1], by rw [HE.out.2]; exact dyAt_zero _ _, ?_⟩
  exact ((hb03.setCell (Nat.le_refl _) _).setCell (Nat.le_refl _) _).setCell (Nat.le_refl _) _
theorem made_Cut (b1 b2 b3 : Nat) (B : Nat) (p : Bool × Nat × Int) (sl : Value) (w : World) (HR : ∀ W, Below w.heap.size w W → Calls Tryz.prog 140 #[sl] W fun r w' => r = .returned (.bool true) ∧ Below W.heap.size W w')
  (HW : ∀ W, Below w.heap.size w W → Calls Tryz.prog 185 #[.pointer (some ⟨b1, 0, none⟩), .pointer (some ⟨b2, 0, none⟩), .pointer (some ⟨b3, 0, none⟩)] W fun r w' => ∃ v, r = .returned v ∧ NumR B w' v p ∧ Below W.heap.size W w') :
  Calls Tryz.prog 122 #[.func (.func 185) #[] #[.pointer (some ⟨b1, 0, none⟩), .pointer (some ⟨b2, 0, none⟩), .pointer (some ⟨b3, 0, none⟩)], sl] w fun r w' => ∃ v', r = .returned (.tuple #[v', .int .i64 (roomE p)]) ∧ DyAt w.heap.size w' v' (roomP p) ∧ Below w.heap.size w w' := by
 have H1 : Hid _ := HR _ (below_one w (.cells #[.bool false, .slice none 0 0, .int .i64 0] 25))
 have HW1 : Hid _ := HW
 clear HR HW
 go_enter Tryz.func122, Tryz.ntmps122
 go_wp2_with fail
 refine cM H1.out ?_
 rintro r w1 ⟨rfl, hb1⟩
 have hb01 := nT (below_one w (.cells #[.bool false, .slice none 0 0, .int .i64 0] 25)) hb1
 clear H1
 go_wp2_with fail
 refine cM (HW1.out _ hb01) ?_
 rintro r w2 ⟨v, rfl, hN, hb2⟩
 have hb02 := nT hb01 hb2
 have hb12 := nT hb1 hb2
 clear HW1 hb01 hb1 hb2
 rcases hN with ⟨hg, hN⟩ | ⟨hg, rfl⟩
 ·obtain ⟨ao, nn, cc, rfl, h1, h2, h3, h4⟩ := hN
  go_wp2_with fail
  refine cM (hasRoom_calls _ _ _ _ _ _ _) ?_
  rintro r w3 ⟨rfl, rfl⟩
  have hb3 : Below w2.heap.size w2 ((w2.alloc (.cells #[.bool p.1, .slice ao nn cc, .int .i64 p.2.2, .bool false] 109)).alloc (.cells #[.bool p.1, .slice ao nn cc, .int .i64 p.2.2, .bool false] 109)) := nT (below_one _ _) (below_one _ _)
  have hb13 := nT hb12 hb3
  have hb03 := nT hb02 hb3
  obtain ⟨m0, m1, m2, f0, f1, f2⟩ := zero_dy (r := w.heap.size) hb13 rfl
  cases hI : inB p.2.2 with
  | true =>
   have HE : Hid (roomE p = 0 ∧ roomP p = p) := room_yes hg hI
   have TC : Hid _ := told_calls B (numV p.1 ao nn cc p.2.2 false) p _ ((show NumAt B w2 _ p from ⟨ao, nn, cc, rfl, h1, h2, h3, h4⟩).keep hb3)
   clear hI hg h4
   go_wp2_with fail
   refine cM TC.out ?_
   rintro r w4 ⟨v', rfl, hD, hb4⟩
   obtain ⟨a4, n4, c4, rfl, i1, i2, i3⟩ := hD
   have hb14 := nT hb13 hb4
   have hb04 := nT hb03 hb4
   have hsz : w.heap.size < w2.heap.size := by have := hb12.size; simp at this; omega
   clear m0 m1 m2 f0 f1 f2 TC
   obtain ⟨m0, m1, m2, f0, f1, f2⟩ := zero_dy (r := w.heap.size) hb14 rfl
   clear hb12 hb13 hb14 hb3 hb4 hb03 hb02
   go_wp2_with fail
   refine bodyPost_ret (v := .tuple #[dyV p.1 a4 n4 c4 p.2.2, .int .i64 0]) (by simp [results, Tryz.results122, go_sem, m0, m1, m2]) rfl ⟨dyV p.1 a4 n4 c4 p.2.2, by rw [HE.out.1], ?_, ?_⟩
   ·rw [HE.out.2]
    simp only [World.size_alloc] at i3
    exact ⟨a4, n4, c4, rfl, i1, i2, (((i3.far _ _ (by show w.heap.size < _; omega)).far _ _ (by show w.heap.size < _; omega)).far _ _ (by show w.heap.size < _; omega)).low (by omega)⟩
   ·exact ((hb04.setCell (Nat.le_refl _) _).setCell (Nat.le_refl _) _).setCell (Nat.le_refl _) _
  | false =>
   have HE : Hid (roomE p = 3 ∧ roomP p = (false, 0, 0)) := room_no (Or.inr hI)
   clear hI hg h4
   go_wp2_with fail
   refine bodyPost_ret (v := .tuple #[dyV false none 0 0 0, .int .i64 3]) (by simp [results, Tryz.results122, go_sem, m0, m1, m2]) rfl ⟨dyV false none 0 0 0, by rw [HE.out.1], by rw [HE.out.2]; exact dyAt_zero _ _, ?_⟩
   exact ((hb03.setCell (Nat.le_refl _) _).setCell (Nat.le_refl _) _).setCell (Nat.le_refl _) _
 ·have HE : Hid (roomE p = 3 ∧ roomP p = (false, 0, 0)) := room_no (Or.inl hg)
  clear hg
  go_wp2_with fail
  refine cM (hasRoom_calls _ _ _ _ _ _ _) ?_
  rintro r w3 ⟨rfl, rfl⟩
  have hb3 : Below w2.heap.size w2 ((w2.alloc (.cells #[.bool false, .slice none 0 0, .int .i64 0, .bool true] 109)).alloc (.cells #[.bool false, .slice none 0 0, .int .i64 0, .bool true] 109)) := nT (below_one _ _) (below_one _ _)
  have hb13 := nT hb12 hb3
  have hb03 := nT hb02 hb3
  obtain ⟨m0, m1, m2, f0, f1, f2⟩ := zero_dy (r := w.heap.size) hb13 rfl
  go_wp2_with fail
  refine bodyPost_ret (v := .tuple #[dyV false none 0 0 0, .int .i64 3]) (by simp [results, Tryz.results122, go_sem, m0, m1, m2]) rfl ⟨dyV false none 0 0 0, by rw [HE.out.1], by rw [HE.out.2]; exact dyAt_zero _ _, ?_⟩
  exact ((hb03.setCell (Nat.le_refl _) _).setCell (Nat.le_refl _) _).setCell (Nat.le_refl _) _
end Go.Proofs.YtahpdcbmekgkfaaGreatDoor

namespace Go.Proofs.YtahpdcbmekgkfaaGreatDoor
open Go.RowKit
set_option maxHeartbeats 2000000
set_option maxRecDepth 100000
theorem reckoned_great (s : Bool) (a : Option Addr) (len cap : Nat) (e : Int) (w : World) :
  Calls Tryz.prog 208 #[.bool s, .slice a len cap, .int .i64 e, .int .i64 3] w fun r w' => r = .returned (numV false none 0 0 0 true) ∧ Below w.heap.size w w' := by
 go_enter Tryz.func208, Tryz.ntmps208
 go_wp2_with fail
 refine bodyPost_ret (v := numV false none 0 0 0 true) (by simp [results, Tryz.results208, go_sem]) rfl ⟨rfl, ?_⟩
 repeat (first | exact Below.refl _ _ | refine Below.alloc ?_ (by simp; try omega) _ | refine Below.setCell ?_ (by simp; try omega) _)
theorem reckoned_ok (s : Bool) (a : Option Addr) (len cap : Nat) (xs : List Int) (e : Int) (w : World) (h : IsW w a len cap xs) (hm : len ≤ 17592186044416) (hT : Tab w) (hg : greatB (val xs) = false) (he : -4611686018427387904 ≤ e ∧ e ≤ 4611686018427387904) :
  Calls Tryz.prog 208 #[.bool s, .slice a len cap, .int .i64 e, .int .i64 0] w fun r w' => ∃ v, r = .returned v ∧ NumAt w.heap.size w' v (formD s (val xs) e) ∧ Below w.heap.size w w' := by
 have hb0 := below_one w (.cells #[.bool false, .slice none 0 0, .int .i64 0, .bool false] 109)
 have CC : Hid _ := canonical_calls s a len cap xs e _ (h.keep hb0) hm (hT.kept hb0)
 have HCG : Hid (canG s (val xs) e = formD s (val xs) e) := canG_no hg
 have HE0 : Hid _ := he
 clear hg he
 go_enter Tryz.func208, Tryz.ntmps208
 go_wp2_with fail
 refine cM CC.out ?_
 rintro r w1 ⟨ao, n, c, e', rfl, HE, HN, HZ, hn, hO, hbC⟩
 obtain rfl := HE.out HE0.out.1 HE0.out.2
 rw [HCG.out] at hO HN ⊢
 obtain ⟨m0, m1, m2, m3, f0, f1, f2, f3⟩ := zero_num (r := w.heap.size) hbC rfl
 have hb1 := nT hb0 hbC
 clear HE CC
 go_wp2_with fail
 refine bodyPost_ret (v := numV (formD s (val xs) e).1 ao n c (formD s (val xs) e).2.2 false) (by simp [results, Tryz.results208, go_sem, m0, m1, m2, m3]) rfl ⟨_, rfl, ⟨ao, n, c, rfl, HN, HZ, hn, ?_⟩, ?_⟩
 ·exact ((((hO.far _ _ (by show w.heap.size < _; simp)).far _ _ (by show w.heap.size < _; simp)).far _ _ (by show w.heap.size < _; simp)).far _ _ (by show w.heap.size < _; simp)).low (by simp)
 ·exact (((hb1.setCell (Nat.le_refl _) _).setCell (Nat.le_refl _) _).setCell (Nat.le_refl _) _).setCell (Nat.le_refl _) _
theorem reckoned_calls (s : Bool) (a : Option Addr) (len cap : Nat) (u : Nat) (e : Int) (w : World) (h : IsW w a len cap (wO (fitR u).1)) (hm : len ≤ 17592186044416) (hT : Tab w) (he : -4611686018427387904 ≤ e ∧ e ≤ 4611686018427387904) (ho : greatB u = true → u % 2 = 1) :
  Calls Tryz.prog 208 #[.bool s, .slice a len cap, .int .i64 e, .int .i64 (fitR u).2] w fun r w' => ∃ v, r = .returned v ∧ NumR w.heap.size w' v (formD s u e) ∧ Below w.heap.size w w' := by
 cases hg : greatB u with
 | true =>
  have h1 := ho hg
  rw [fitR_yes hg, form_odd s h1]
  refine cM (reckoned_great s a len cap e w) ?_
  rintro r w' ⟨rfl, hb⟩
  exact ⟨_, rfl, Or.inr ⟨hg, rfl⟩, hb⟩
 | false =>
  rw [fitR_no hg] at h ⊢
  refine cM (reckoned_ok s a len cap _ e w h hm hT (by rw [val_words]; exact hg) he) ?_
  rw [val_words]
  rintro r w' ⟨v, rfl, hN, hb⟩
  exact ⟨v, rfl, Or.inl ⟨great_mono (form_amount_le _ _ _) hg, hN⟩, hb⟩
theorem of_eq (x : Nat) (w : World) (h1 : x ≤ 18446744073709551615) :
  Calls Tryz.prog 157 #[.int .u64 (x : Int)] w fun e w' => ∃ (ao : Option Addr) (n c : Nat), e = .returned (.slice ao n c) ∧ Hid (n = (wO x).length) ∧ n ≤ 1024 ∧ OwnW w.heap.size w' ao n c (wO x) ∧ Below w.heap.size w w' := by
 refine cM (of_calls (x : Int) w (by omega) (by omega)) ?_
 rw [Int.toNat_natCast]
 rintro e w' ⟨v, rfl, hA, hb⟩
 have hl : (wO x).length ≤ 1024 := Nat.le_trans ((words_len 1 x).2 (by omega)) (by decide)
 obtain ⟨ao, n, c, rfl, h1, h2, h3⟩ := hA.open hl
 exact ⟨ao, n, c, rfl, h1, h2, h3, hb⟩
theorem size_calls (s : Bool) (a : Option Addr) (n c : Nat) (m : Nat) (e : Int) (g : Bool) (w : World) (h : IsW w a n c (wO m)) (hn : n ≤ 1024) (hg : greatB m = false) :
  Calls Tryz.prog 210 #[numV s a n c e g] w fun r w' => r = .returned (.int .i64 (blen m : Int)) ∧ Below w.heap.size w w' := by
 have hb0 := below_one w (.cells #[.bool s, .slice a n c, .int .i64 e, .bool g] 109)
 have LC : Hid _ := len_calls a n c (wO m) _ (h.keep hb0) (by omega)
 rw [val_words] at LC
 have HG : Hid (greatB m = false) := hg
 clear hg
 go_enter Tryz.func210, Tryz.ntmps210
 go_wp2_with fail
 refine cM LC.out ?_
 rintro r w1 ⟨_, hr, hb1⟩
 obtain rfl := hr HG.out
 clear hr
 go_wp2_with fail
 go_ret
 exact ⟨rfl, nT hb0 hb1⟩
theorem top_calls (s : Bool) (a : Option Addr) (n c : Nat) (m : Nat) (e : Int) (g : Bool) (w : World) (h : IsW w a n c (wO m)) (hn : n ≤ 1024) (hg : greatB m = false) (he : -4611686018427387904 ≤ e ∧ e ≤ 4611686018427387904) :
  Calls Tryz.prog 206 #[numV s a n c e g] w fun r w' => r = .returned (.int .i64 (e + (blen m : Int) - 1)) ∧ Below w.heap.size w w' := by
 have hbl : blen m ≤ 65536 := (great_not _).1 hg
 have HG : Hid (greatB m = false) := hg
 obtain ⟨he1, he2⟩ := he
 clear hg
 go_enter Tryz.func206, Tryz.ntmps206
 go_wp2_with fail
 go_region_held3 (fun w' => w'.cell? ⟨w.heap.size, 0, none⟩ = some (.bool s) ∧ w'.cell? ⟨w.heap.size, 1, none⟩ = some (.slice a n c) ∧ w'.cell? ⟨w.heap.size, 2, none⟩ = some (.int .i64 e) ∧ w'.cell? ⟨w.heap.size, 3, none⟩ = some (.bool g))
  (first | (go_keep; done) | ((refine ⟨?_, ?_, ?_, ?_⟩ <;> (refine kC hbC ?_; go_simp)); done))
  ((go_at_call 210; refine (size_calls s a n c m e g _ (h.keep (by repeat (first | exact Below.refl _ _ | apply Below.drew | refine Below.alloc ?_ (by simp; try omega) _))) hn HG.out).mono ?_; rintro r w1 ⟨rfl, hbC⟩; have hbw1 : Below w.heap.size w w1 := nT (by repeat (first | exact Below.refl _ _ | apply Below.drew | refine Below.alloc ?_ (by simp; try omega) _)) hbC))
 all_goals
  go_wp2_with fail
  go_ret
  exact ⟨nret_int (by rw [IntKind.wrap_i64, IntKind.wrap_i64]; omega), hbw1⟩
end Go.Proofs.YtahpdcbmekgkfaaGreatDoor

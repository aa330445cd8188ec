/- Package round: the walks of near.go that ask words alone. Package round: which of two neighbours is chosen; a result with its exceptions. Package round: the nearest binary64 of a right number. -/
import Derived.Test.YtionhpedghmecaaGreatDoorPAX
import Derived.Test.YtionhpedghmecaaGreatDoorTMB
import Derived.Test.YtionhpedghmecaaGreatDoorTMD
import Derived.Deep.RegionWith
import Derived.BigQuiet
import Derived.Test.YtionhpedghmecaaGreatDoorTMT
import Derived.Test.YtionhpedghmecaaGreatDoorDMs1
import Derived.Test.YtionhpedghmecaaGreatDoorFX

namespace Go.Proofs.YtionhpedghmecaaGreatDoor
open Go.RowKit
theorem rbelow_drewN {B : Nat} {a w : World} (h : Below B a w) (n : Nat) : Below B a (w.drewN n) := h.trans ⟨rfl, rfl, rfl, Nat.le_refl _, fun _ _ => rfl⟩
theorem fl_shl (m : Nat) (n : Int) (hn : n < 0) (hg : greatB m = false) (hb : (blen m : Int) - n ≤ 60) : (shlR m (-n)).1 = fl2 m n := by
 have e2 : fl2 m n = m * 2 ^ (-n).toNat := by unfold fl2; rw [if_pos (by omega)]
 have a1 : ¬ greatB m = true := by rw [hg]; decide
 have a2 : ¬ -n < 0 := by omega
 have a3 : ¬ 65536 - (blen m : Int) < -n := by omega
 rw [e2]
 unfold shlR
 rw [if_neg a1, if_neg a2]
 by_cases h : m = 0
 ·rw [if_pos h, h, Nat.zero_mul]
 ·rw [if_neg h, if_neg a3]
theorem fl_shr (m : Nat) (n : Int) (hn : 0 ≤ n) (hg : greatB m = false) : shrQ m n = fl2 m n ∧ shrL m n = ls2 m n := by
 have a1 : ¬ greatB m = true := by rw [hg]; decide
 have a2 : ¬ n < 0 := by omega
 have e1 : shrQ m n = m / 2 ^ n.toNat := by unfold shrQ; rw [if_neg a1, if_neg a2]
 have e2 : shrL m n = lostB m n.toNat := by unfold shrL; rw [if_neg a1, if_neg a2]
 rw [e1, e2]
 unfold fl2 ls2
 by_cases h : n ≤ 0
 ·have : n = 0 := by omega
  subst this
  rw [if_pos h, if_pos h]
  constructor
  ·show m / 2 ^ 0 = m * 2 ^ 0; simp
  ·show lostB m 0 = false; unfold lostB; simp [Nat.mod_one]
 ·rw [if_neg h, if_neg h]; exact ⟨rfl, rfl⟩
set_option maxRecDepth 100000 in
set_option maxHeartbeats 1000000 in
theorem wider_calls (a : Option Addr) (len cap : Nat) (xs : List Int) (i : Int) (w : World) (h : IsW w a len cap xs) (hm : len ≤ 17592186044416) :
  Calls Tryz.prog 153 #[.slice a len cap, .int .i64 i] w fun e w' => ∃ v, e = .returned v ∧ NatAt w.heap.size w' v (shlR (val xs) i).1 ∧ Below w.heap.size w w' := by
 have HS : Hid _ := shl_calls a len cap xs i w h hm
 go_enter Tryz.func153, Tryz.ntmps153
 go_wp2_with fail
 refine Calls.mono HS.out ?_
 rintro e w1 ⟨v, rfl, hN, hb⟩
 obtain ⟨ao, n, c, rfl, hn, hO⟩ := hN
 have HN : Hid (n = (wordsOf (shlR (val xs) i).1).length) := hn
 clear hn
 go_wp2_with fail
 go_ret
 exact ⟨_, rfl, ⟨ao, n, c, rfl, HN.out, hO⟩, hb⟩
set_option maxRecDepth 100000 in
set_option maxHeartbeats 1000000 in
theorem scut_calls (b : Nat) (a : Option Addr) (len cap : Nat) (xs : List Int) (i : Int) (w : World) (h : IsW w a len cap xs) (hm : len ≤ 17592186044416) (hi : i ≤ 9223372036854775807) (c0 : w.cell? ⟨b, 0, none⟩ = some (.bool false)) (f0 : w.frozen? ⟨b, 0, none⟩ = false) :
  Calls Tryz.prog 152 #[.pointer (some ⟨b, 0, none⟩), .slice a len cap, .int .i64 i] w fun e w' => ∃ ao n c w1, e = .returned (.slice ao n c) ∧ Hid (n = (wordsOf (shrQ (val xs) i)).length) ∧ OwnW w.heap.size w1 ao n c (wordsOf (shrQ (val xs) i)) ∧ Below w.heap.size w w1 ∧ w1.cell? ⟨b, 0, none⟩ = some (.bool false) ∧ w' = w1.setCell ⟨b, 0, none⟩ (.bool (shrL (val xs) i)) := by
 have HS : Hid _ := shr_calls a len cap xs i w h hm hi
 go_enter Tryz.func152, Tryz.ntmps152
 go_wp2_with fail
 refine Calls.mono HS.out ?_
 rintro e w1 ⟨v, rfl, hN, hb⟩
 obtain ⟨ao, n, c, rfl, hn, hO⟩ := hN
 have HN : Hid (n = (wordsOf (shrQ (val xs) i)).length) := hn
 have c1 := kC hb c0
 have f1 := kF hb c0 f0
 clear hn c0 f0 HS
 generalize hlo : shrL (val xs) i = lo at *
 have Hlo : Hid (shrL (val xs) i = lo) := hlo
 clear hlo
 go_wp2_with fail
 go_ret
 exact ⟨ao, n, c, w1, rfl, HN, hO, hb, c1, by rw [Hlo.out]⟩
theorem first_word (q : Nat) (h0 : q ≠ 0) (h : q < 18446744073709551616) (w : World) (a : Option Addr) (n c : Nat) (hI : IsW w a n c (wordsOf q)) (hn : n = (wordsOf q).length) : 0 < n ∧ ∃ b off, a = some ⟨b, off, none⟩ ∧ w.cell? ⟨b, off, none⟩ = some (.int .u64 (q : Int)) := by
 have hp : 0 < n := by
  rw [hn]
  refine Nat.pos_of_ne_zero fun e => h0 ((words_nil q).1 (List.length_eq_zero_iff.1 e))
 refine ⟨hp, ?_⟩
 obtain ⟨b, off, e1, -, e3⟩ := hI.2.2.2 0 hp
 refine ⟨b, off, e1, ?_⟩
 have hw : (wordsOf q).getD 0 0 = (q : Int) := by
  have h1 := words_get q 0
  rw [Nat.pow_zero, Nat.div_one, Nat.mod_eq_of_lt h] at h1
  have hU := hI.2.1
  have h2 : 0 ≤ (wordsOf q).getD 0 0 := by
   rw [List.getD_eq_getElem?_getD, List.getElem?_eq_getElem (by omega)]
   exact (hU _ (List.getElem_mem _)).1
  omega
 rw [← hw]; exact e3
theorem no_word (q : Nat) (h0 : q = 0) (n : Nat) (hn : n = (wordsOf q).length) : n = 0 := by rw [hn, h0, words_zero]; rfl
set_option maxRecDepth 100000 in
set_option maxHeartbeats 2000000 in
theorem quarters_neg (s : Bool) (a : Option Addr) (len cap : Nat) (xs : List Int) (e l : Int) (w : World) (h : IsW w a len cap xs) (hm : len ≤ 17592186044416) (hg : greatB (val xs) = false) (he : -32768 ≤ e ∧ e ≤ 32768) (hl : -1074 ≤ l ∧ l ≤ 971) (hb : (blen (val xs) : Int) ≤ 53 + (l - e)) (hn : l - 2 - e < 0) :
  Calls Tryz.prog 137 #[dyV s a len cap e, .int .i64 l] w fun r w' => r = .returned (.tuple #[.int .u64 (fl2 (val xs) (l - e - 2) : Int), .bool (ls2 (val xs) (l - e - 2))]) ∧ Below w.heap.size w w' := by
 have HW : Hid _ := fun w' (h' : IsW w' a len cap xs) => wider_calls a len cap xs (-(l - 2 - e)) w' h' hm
 rw [fl_shl _ _ hn hg (by omega), show l - 2 - e = l - e - 2 by omega] at HW
 have hq : fl2 (val xs) (l - e - 2) < 18446744073709551616 := Nat.lt_trans (fl_lt _ 55 _ (by omega)) (by decide)
 have Hls : Hid (ls2 (val xs) (l - e - 2) = false) := by rw [Hid]; unfold ls2; rw [if_pos (by omega)]
 have W1 : IntKind.i64.wrap (l - 2) = l - 2 := by rw [IntKind.wrap_i64]; omega
 have W2 : IntKind.i64.wrap (l - 2 - e) = l - e - 2 := by rw [IntKind.wrap_i64]; omega
 have W3 : IntKind.i64.wrap (-(l - e - 2)) = -(l - e - 2) := by rw [IntKind.wrap_i64]; omega
 have hn' : l - e - 2 < 0 := by omega
 generalize fl2 (val xs) (l - e - 2) = q at *
 generalize l - e - 2 = k at *
 clear hg he hl hb hn
 go_enter Tryz.func137, Tryz.ntmps137
 go_wp2_with fail
 refine Calls.mono (HW.out _ (h.keep (nT (below_one _ _) (below_one _ _)))) ?_
 rintro r w1 ⟨v, rfl, ⟨ao, n, c, rfl, hN, hO⟩, bN⟩
 have bw : Below w.heap.size w w1 := nT (nT (below_one _ _) (below_one _ _)) bN
 have z0 : w1.cell? ⟨w.heap.size + 1, 0, none⟩ = some (.bool false) := kC bN (by go_simp)
 clear bN HW
 by_cases h0 : q = 0
 ·have hn0 := no_word q h0 n hN
  subst hn0 h0
  clear hN hO
  go_wp2_with fail
  go_quiet (fail)
  all_goals go_wp2_with fail
  all_goals go_ret2
  all_goals rw [Hls.out]
  all_goals exact ⟨by simp, by repeat (first | exact bw | refine Below.drew ?_ | refine rbelow_drewN ?_ _)⟩
 ·obtain ⟨hp, b, off, rfl, hc⟩ := first_word q h0 hq w1 ao n c hO.1 hN
  have hpi : ((n : Int) > 0) := by omega
  have HN : Hid _ := hN
  clear hN hO
  go_wp2_with fail
  go_quiet (fail)
  all_goals go_wp2_with fail
  all_goals go_ret2
  all_goals rw [Hls.out]
  all_goals exact ⟨rfl, by repeat (first | exact bw | refine Below.drew ?_ | refine rbelow_drewN ?_ _)⟩
theorem isW_setB {w : World} {a : Option Addr} {n c : Nat} {xs : List Int} {p : Addr} {v x : Value} (h : IsW w a n c xs) (hp : w.cell? p = some x) (hx : ∀ (k : IntKind) (i : Int), x ≠ .int k i) : IsW (w.setCell p v) a n c xs := by
 obtain ⟨h1, h2, h4, h3⟩ := h
 refine ⟨h1, h2, h4, fun i hi => ?_⟩
 obtain ⟨b, off, e1, e2, e3⟩ := h3 i hi
 refine ⟨b, off, e1, by simpa using e2, ?_⟩
 rw [World.cell?_setCell_other _ _ _ _ (fun e => ?_)]
 ·exact e3
 ·rw [← e, hp] at e3
  exact hx _ _ (Option.some.inj e3)
set_option maxRecDepth 100000 in
set_option maxHeartbeats 2000000 in
theorem quarters_pos (s : Bool) (a : Option Addr) (len cap : Nat) (xs : List Int) (e l : Int) (w : World) (h : IsW w a len cap xs) (hm : len ≤ 17592186044416) (hg : greatB (val xs) = false) (he : -32768 ≤ e ∧ e ≤ 32768) (hl : -1074 ≤ l ∧ l ≤ 971) (hb : (blen (val xs) : Int) ≤ 53 + (l - e)) (hn : 0 ≤ l - 2 - e) :
  Calls Tryz.prog 137 #[dyV s a len cap e, .int .i64 l] w fun r w' => r = .returned (.tuple #[.int .u64 (fl2 (val xs) (l - e - 2) : Int), .bool (ls2 (val xs) (l - e - 2))]) ∧ Below w.heap.size w w' := by
 have HW : Hid _ := fun b w' (h' : IsW w' a len cap xs) c0 f0 => scut_calls b a len cap xs (l - 2 - e) w' h' hm (by omega) c0 f0
 obtain ⟨f1, f2⟩ := fl_shr (val xs) (l - 2 - e) hn hg
 rw [f1, f2, show l - 2 - e = l - e - 2 by omega] at HW
 have hq : fl2 (val xs) (l - e - 2) < 18446744073709551616 := Nat.lt_trans (fl_lt _ 55 _ (by omega)) (by decide)
 have W1 : IntKind.i64.wrap (l - 2) = l - 2 := by rw [IntKind.wrap_i64]; omega
 have W2 : IntKind.i64.wrap (l - 2 - e) = l - e - 2 := by rw [IntKind.wrap_i64]; omega
 have hn' : ¬ (l - e - 2 < 0) := by omega
 generalize fl2 (val xs) (l - e - 2) = q at *
 generalize ls2 (val xs) (l - e - 2) = lo at *
 generalize l - e - 2 = k at *
 clear hg he hl hb hn f1 f2
 go_enter Tryz.func137, Tryz.ntmps137
 go_wp2_with fail
 refine Calls.mono (HW.out (w.heap.size + 1) _ (h.keep (nT (below_one _ _) (below_one _ _))) (by go_simp) (by go_simp)) ?_
 rintro r w2 ⟨ao, n, c, w1, rfl, hN, hO, bN, z1, rfl⟩
 have bw1 : Below w.heap.size w w1 := nT (nT (below_one _ _) (below_one _ _)) bN
 have hs1 : w.heap.size + 1 < w1.heap.size := World.block_lt_of_cell? _ _ z1
 have bw : Below w.heap.size w (w1.setCell ⟨w.heap.size + 1, 0, none⟩ (.bool lo)) := bw1.setCell (by simp) _
 have z0 : (w1.setCell ⟨w.heap.size + 1, 0, none⟩ (.bool lo)).cell? ⟨w.heap.size + 1, 0, none⟩ = some (.bool lo) := by go_simp
 have hO2 : IsW (w1.setCell ⟨w.heap.size + 1, 0, none⟩ (.bool lo)) ao n c (wordsOf q) := isW_setB hO.1 z1 (fun _ _ => by intro h; cases h)
 clear bN HW hO bw1 z1 hs1
 generalize (w1.setCell ⟨w.heap.size + 1, 0, none⟩ (.bool lo)) = w3 at *
 by_cases h0 : q = 0
 ·have hn0 := no_word q h0 n hN.out
  subst hn0 h0
  clear hN hO2
  go_wp2_with fail
  go_quiet (fail)
  all_goals go_wp2_with fail
  all_goals go_ret2
  all_goals exact ⟨by simp, by repeat (first | exact bw | refine Below.drew ?_ | refine rbelow_drewN ?_ _)⟩
 ·obtain ⟨hp, b, off, rfl, hc⟩ := first_word q h0 hq w3 ao n c hO2 hN.out
  have hpi : ((n : Int) > 0) := by omega
  clear hN hO2
  go_wp2_with fail
  go_quiet (fail)
  all_goals go_wp2_with fail
  all_goals go_ret2
  all_goals exact ⟨rfl, by repeat (first | exact bw | refine Below.drew ?_ | refine rbelow_drewN ?_ _)⟩
theorem quarters_calls (s : Bool) (a : Option Addr) (len cap : Nat) (xs : List Int) (e l : Int) (w : World) (h : IsW w a len cap xs) (hm : len ≤ 17592186044416) (hg : greatB (val xs) = false) (he : -32768 ≤ e ∧ e ≤ 32768) (hl : -1074 ≤ l ∧ l ≤ 971) (hb : (blen (val xs) : Int) ≤ 53 + (l - e)) :
  Calls Tryz.prog 137 #[dyV s a len cap e, .int .i64 l] w fun r w' => r = .returned (.tuple #[.int .u64 (fl2 (val xs) (l - e - 2) : Int), .bool (ls2 (val xs) (l - e - 2))]) ∧ Below w.heap.size w w' := by
 by_cases hn : l - 2 - e < 0
 ·exact quarters_neg s a len cap xs e l w h hm hg he hl hb hn
 ·exact quarters_pos s a len cap xs e l w h hm hg he hl hb (by omega)
def chV (down up : Int) (more : Int) : Int := if more < 2 then down else if 2 < more then up else if down % 2 = 0 then down else up
theorem and_one (x : Int) (h : U x) : bits .and .u64 x 1 = x % 2 := by
 obtain ⟨h0, h1⟩ := h
 obtain ⟨n, rfl⟩ := Int.eq_ofNat_of_zero_le h0
 rw [u64_and _ _ h0 (by omega) (by omega) (by omega)]
 simp only [Int.reduceToNat, Int.toNat_natCast, Nat.and_one_is_mod]
 omega
theorem and_three (x : Int) (h : U x) : bits .and .u64 x 3 = x % 4 := by
 obtain ⟨h0, h1⟩ := h
 obtain ⟨n, rfl⟩ := Int.eq_ofNat_of_zero_le h0
 rw [u64_and _ _ h0 (by omega) (by omega) (by omega)]
 have e : n &&& 3 = n % 4 := Nat.and_two_pow_sub_one_eq_mod n 2
 simp only [Int.reduceToNat, Int.toNat_natCast, e]
 omega
set_option maxRecDepth 100000 in
set_option maxHeartbeats 1000000 in
theorem closure_calls (b1 b2 b3 : Nat) (down up even more : Int) (w : World) (c1 : w.cell? ⟨b1, 0, none⟩ = some (.int .u64 down)) (c2 : w.cell? ⟨b2, 0, none⟩ = some (.int .u64 up)) (c3 : w.cell? ⟨b3, 0, none⟩ = some (.int .u64 even)) :
  Calls Tryz.prog 139 #[.int .u64 more, .pointer (some ⟨b1, 0, none⟩), .pointer (some ⟨b2, 0, none⟩), .pointer (some ⟨b3, 0, none⟩)] w fun r w' => r = .returned (.int .u64 (if more < 2 then down else if 2 < more then up else even)) ∧ w' = w := by
 by_cases h1 : more < 2
 ·go_enter Tryz.func139, Tryz.ntmps139
  go_wp2_with fail
  go_ret
  exact ⟨rfl, rfl⟩
 ·by_cases h2 : 2 < more
  ·go_enter Tryz.func139, Tryz.ntmps139
   go_wp2_with fail
   go_ret
   exact ⟨rfl, rfl⟩
  ·go_enter Tryz.func139, Tryz.ntmps139
   go_wp2_with fail
   go_ret
   exact ⟨rfl, rfl⟩
set_option maxRecDepth 100000 in
set_option maxHeartbeats 1000000 in
theorem chooser_calls (down up : Int) (w : World) (h : U down) :
  Calls Tryz.prog 115 #[.int .u64 down, .int .u64 up] w fun r w' => ∃ b1 b2 b3, r = .returned (.func (.func 139) #[] #[.pointer (some ⟨b1, 0, none⟩), .pointer (some ⟨b2, 0, none⟩), .pointer (some ⟨b3, 0, none⟩)]) ∧ w'.cell? ⟨b1, 0, none⟩ = some (.int .u64 down) ∧ w'.cell? ⟨b2, 0, none⟩ = some (.int .u64 up) ∧ w'.cell? ⟨b3, 0, none⟩ = some (.int .u64 (if down % 2 = 0 then down else up)) ∧ Below w.heap.size w w' := by
 have ha := and_one down h
 by_cases h1 : down % 2 = 0
 ·rw [h1] at ha
  go_enter Tryz.func115, Tryz.ntmps115
  go_wp2_with fail
  go_ret
  refine ⟨_, _, _, rfl, by go_simp, by go_simp, by go_simp, nT (nT (below_one _ _) (below_one _ _)) (below_one _ _)⟩
 ·have h2 : down % 2 = 1 := by omega
  rw [h2] at ha
  go_enter Tryz.func115, Tryz.ntmps115
  go_wp2_with fail
  go_ret
  refine ⟨_, _, _, rfl, by go_simp, by go_simp, by go_simp, nT (nT (below_one _ _) (below_one _ _)) (below_one _ _)⟩
def inxF (y : Int) (t : Bool) : Int := if absV y = 9218868437227405312 then (if t = true then 28 else 20) else (if t = true then 24 else 16)
set_option maxRecDepth 100000 in
set_option maxHeartbeats 1000000 in
theorem inexact_calls (y : Int) (t : Bool) (w : World) (h : U y) :
  Calls Tryz.prog 85 #[.int .u64 y, .bool t] w fun r w' => r = .returned (.agg #[.int .u64 y, .int .u8 (inxF y t)]) ∧ Below w.heap.size w w' := by
 have HA : Hid _ := fun w => abs_calls y w h
 have o1 : bits .or .u8 16 4 = 20 := by decide +kernel
 have o2 : bits .or .u8 16 8 = 24 := by decide +kernel
 have o3 : bits .or .u8 20 8 = 28 := by decide +kernel
 have hx : Hid (∀ v, absV y = v → inxF y t = if v = 9218868437227405312 then (if t = true then 28 else 20) else (if t = true then 24 else 16)) := fun v e => by unfold inxF; rw [e]
 generalize absV y = v at *
 replace hx := hx.out v rfl
 have Hx : Hid _ := hx
 clear hx h
 by_cases hv : v = 9218868437227405312
 ·subst hv
  cases t with
  | false =>
   go_enter Tryz.func85, Tryz.ntmps85
   go_wp2_with fail
   refine Calls.mono (HA.out _) ?_
   rintro r w1 ⟨rfl, rfl⟩
   go_wp2_with fail
   exact bodyPost_ret (v := .agg #[.int .u64 y, .int .u8 20]) (by simp [results, Tryz.results85, go_sem]) rfl ⟨by rw [Hx.out]; simp, by repeat (first | exact Below.refl _ _ | refine Below.setCell ?_ (by simp) _ | refine Below.alloc ?_ (by simp) _)⟩
  | true =>
   go_enter Tryz.func85, Tryz.ntmps85
   go_wp2_with fail
   refine Calls.mono (HA.out _) ?_
   rintro r w1 ⟨rfl, rfl⟩
   go_wp2_with fail
   exact bodyPost_ret (v := .agg #[.int .u64 y, .int .u8 28]) (by simp [results, Tryz.results85, go_sem]) rfl ⟨by rw [Hx.out]; simp, by repeat (first | exact Below.refl _ _ | refine Below.setCell ?_ (by simp) _ | refine Below.alloc ?_ (by simp) _)⟩
 ·cases t with
  | false =>
   go_enter Tryz.func85, Tryz.ntmps85
   go_wp2_with fail
   refine Calls.mono (HA.out _) ?_
   rintro r w1 ⟨rfl, rfl⟩
   go_wp2_with fail
   exact bodyPost_ret (v := .agg #[.int .u64 y, .int .u8 16]) (by simp [results, Tryz.results85, go_sem]) rfl ⟨by rw [Hx.out, if_neg hv]; simp, by repeat (first | exact Below.refl _ _ | refine Below.setCell ?_ (by simp) _ | refine Below.alloc ?_ (by simp) _)⟩
  | true =>
   go_enter Tryz.func85, Tryz.ntmps85
   go_wp2_with fail
   refine Calls.mono (HA.out _) ?_
   rintro r w1 ⟨rfl, rfl⟩
   go_wp2_with fail
   exact bodyPost_ret (v := .agg #[.int .u64 y, .int .u8 24]) (by simp [results, Tryz.results85, go_sem]) rfl ⟨by rw [Hx.out, if_neg hv]; simp, by repeat (first | exact Below.refl _ _ | refine Below.setCell ?_ (by simp) _ | refine Below.alloc ?_ (by simp) _)⟩
theorem to_word (M : Nat) (l : Int) (h1 : M < 9007199254740992) (h2 : -1074 ≤ l) (h3 : l ≤ 971) (h4 : l = -1074 ∨ 4503599627370496 ≤ M) : toR false M l = ((l + 1074) * 4503599627370496 + (M : Int), true) := by
 have hb : blen M ≤ 53 := (blen_le _ _).2 h1
 have hr : rightB M l = true := by
  have : greatB M = false := (great_not _).2 (by omega)
  unfold rightB inB
  rw [this, decide_eq_true (show -32768 ≤ l ∧ l ≤ 32768 by omega)]
  rfl
 by_cases h0 : M = 0
 ·subst h0
  rw [toR_zero hr]
  rcases h4 with h | h
  ·rw [h]; rfl
  ·exact absurd h (by decide)
 ·obtain ⟨o1, o2⟩ := odd_part h0
  have hm0 : M / 2 ^ tz M ≠ 0 := fun q => by rw [q] at o1; exact absurd o1 (by decide)
  have hbl : blen (M / 2 ^ tz M) + tz M = blen M := by
   have := blen_mul _ (tz M) hm0
   rw [o2] at this
   omega
  have ht : toB (formD false M l) = true := by
   rw [form_pos _ h0]
   exact decide_eq_true ⟨by show blen (M / 2 ^ tz M) ≤ 53; omega, by show -1074 ≤ l + (tz M : Int); omega, by show l + (tz M : Int) + (blen (M / 2 ^ tz M) : Int) - 1 ≤ 1023; omega⟩
  rw [toR_yes hr h0 ht, form_pos _ h0]
  show (joinV false (fldE (M / 2 ^ tz M) (l + (tz M : Int))) (fldF (M / 2 ^ tz M) (l + (tz M : Int))), true) = _
  have key : joinV false (fldE (M / 2 ^ tz M) (l + (tz M : Int))) (fldF (M / 2 ^ tz M) (l + (tz M : Int))) = (l + 1074) * 4503599627370496 + (M : Int) := by
   unfold fldE fldF
   by_cases hs : M < 4503599627370496
   ·have hl : l = -1074 := by omega
    have hb2 : blen M ≤ 52 := (blen_le _ _).2 hs
    rw [if_pos (by omega), if_pos (by omega), hl, show (-1074 + (tz M : Int) + 1074).toNat = tz M by omega, o2]
    have hj : joinE 0 (M : Int) = 0 := by unfold joinE; rw [if_neg (by omega)]
    unfold joinV
    rw [if_pos hj]
    simp
   ·have hb2 : blen M = 53 := by
     have : ¬ blen M ≤ 52 := fun q => hs ((blen_le _ _).1 q)
     omega
    rw [if_neg (by omega), if_neg (by omega), show 53 - blen (M / 2 ^ tz M) = tz M by omega, o2]
    have hE : l + (tz M : Int) + (blen (M / 2 ^ tz M) : Int) - 1 + 1023 = l + 1075 := by omega
    rw [hE]
    have hj : joinE (l + 1075) ((M - 4503599627370496 : Nat) : Int) = 0 := by unfold joinE; rw [if_neg (by omega)]
    unfold joinV
    rw [if_pos hj]
    simp
    omega
  rw [key]
theorem or_one (q : Nat) (h : q < 4) : bits .or .u64 (q : Int) 1 = ((q ||| 1 : Nat) : Int) := by
 have : q = 0 ∨ q = 1 ∨ q = 2 ∨ q = 3 := by omega
 rcases this with e | e | e | e <;> (subst e; decide +kernel)
def apD (m : Nat) (e : Int) : Int := if m = 0 then 0 else if 1024 ≤ tpI m e then 9218868437227405311 else (lsI m e + 1074) * 4503599627370496 + (fl2 m (lsI m e - e) : Int)
def apM (m : Nat) (e : Int) : Int := if m = 0 then 0 else if 1024 ≤ tpI m e then 3 else (more2 m (lsI m e - e) : Int)
set_option maxRecDepth 100000 in
set_option maxHeartbeats 2000000 in
theorem ramount_calls (s : Bool) (a : Option Addr) (len cap : Nat) (xs : List Int) (e : Int) (w : World) (h : IsW w a len cap xs) (hm : len ≤ 17592186044000) (hT : Tab w) (hr : rightB (val xs) e = true) :
  Calls Tryz.prog 114 #[dyV s a len cap e] w fun r w' => r = .returned (.tuple #[.int .u64 (apD (val xs) e), .int .u64 (apM (val xs) e)]) ∧ Below w.heap.size w w' := by
 have bA := below_one w (.cells #[.bool s, .slice a len cap, .int .i64 e] 27)
 have HT : Hid _ := pTop_calls s a len cap xs e _ (h.keep bA) hm (hT.kept bA)
 obtain ⟨hg, he⟩ := rightB_yes hr
 have hbl := (great_not _).1 hg
 by_cases h0 : val xs = 0
 ·have e1 : tpV (val xs) e = 0 := by unfold tpV ftE; rw [if_pos hr, if_pos h0]; rfl
  have e2 : ftE (val xs) e = 5 := by unfold ftE; rw [if_pos hr, if_pos h0]
  have e3 : Hid (apD (val xs) e = 0) := by rw [Hid]; unfold apD; rw [if_pos h0]
  have e4 : Hid (apM (val xs) e = 0) := by rw [Hid]; unfold apM; rw [if_pos h0]
  rw [e1, e2] at HT
  clear e1 e2 h0 hg he hbl hr
  go_enter Tryz.func114, Tryz.ntmps114
  go_wp2_with fail
  refine Calls.mono HT.out ?_
  rintro r w1 ⟨rfl, bN⟩
  go_wp2_with fail
  go_ret2
  rw [e3.out, e4.out]
  exact ⟨rfl, nT bA bN⟩
 ·have e1 : tpV (val xs) e = tpI (val xs) e := by unfold tpV ftE tpI; rw [if_pos hr, if_neg h0, if_pos rfl]
  have e2 : ftE (val xs) e = 0 := by unfold ftE; rw [if_pos hr, if_neg h0]
  have htb : Hid (-32768 ≤ tpI (val xs) e ∧ tpI (val xs) e ≤ 98304) := by
   have : blen (val xs) ≠ 0 := fun q => h0 ((blen_nil _).1 q)
   rw [Hid]; unfold tpI; omega
  rw [e1, e2] at HT
  by_cases h1 : 1024 ≤ tpI (val xs) e
  ·have e3 : Hid (apD (val xs) e = 9218868437227405311) := by rw [Hid]; unfold apD; rw [if_neg h0, if_pos h1]
   have e4 : Hid (apM (val xs) e = 3) := by rw [Hid]; unfold apM; rw [if_neg h0, if_pos h1]
   clear e1 e2 h0 hg he hbl hr
   generalize tpI (val xs) e = tp at *
   go_enter Tryz.func114, Tryz.ntmps114
   go_wp2_with fail
   refine Calls.mono HT.out ?_
   rintro r w1 ⟨rfl, bN⟩
   go_wp2_with fail
   go_ret2
   rw [e3.out, e4.out]
   exact ⟨rfl, nT bA bN⟩
  ·have e3 : Hid (apD (val xs) e = (lsI (val xs) e + 1074) * 4503599627370496 + (fl2 (val xs) (lsI (val xs) e - e) : Int)) := by rw [Hid]; unfold apD; rw [if_neg h0, if_neg h1]
   have e4 : Hid (apM (val xs) e = (more2 (val xs) (lsI (val xs) e - e) : Int)) := by rw [Hid]; unfold apM; rw [if_neg h0, if_neg h1]
   have l1 := ls_low (val xs) e
   have l2 := ls_top (val xs) e (by omega)
   have l3 := ls_bits (val xs) e
   have HQ : Hid _ := fun w' (h' : IsW w' a len cap xs) => quarters_calls s a len cap xs e (lsI (val xs) e) w' h' (by omega) hg he ⟨l1, l2⟩ l3
   have hc := cnt_lt (val xs) e
   have hM := M_lt (val xs) e
   have hw : toR false (fl2 (val xs) (lsI (val xs) e - e)) (lsI (val xs) e) = _ := to_word (fl2 (val xs) (lsI (val xs) e - e)) (lsI (val xs) e) hM l1 l2 (by
    by_cases q : lsI (val xs) e = -1074
    ·exact .inl q
    ·exact .inr (M_ge _ _ h0 (by omega)))
   have h4 := fl_four (val xs) (lsI (val xs) e - e)
   have W1 : IntKind.i64.wrap (tpI (val xs) e - 52) = tpI (val xs) e - 52 := by have := htb.out; rw [IntKind.wrap_i64]; omega
   have hls : lsI (val xs) e = max (tpI (val xs) e - 52) (-1074) := by unfold lsI; split <;> omega
   have hmo : Hid (more2 (val xs) (lsI (val xs) e - e) = if ls2 (val xs) (lsI (val xs) e - e - 2) = true then (fl2 (val xs) (lsI (val xs) e - e - 2) % 4) ||| 1 else fl2 (val xs) (lsI (val xs) e - e - 2) % 4) := rfl
   clear e1 e2 h0 hg he hbl hr
   generalize fl2 (val xs) (lsI (val xs) e - e - 2) = q at *
   generalize fl2 (val xs) (lsI (val xs) e - e) = M at *
   generalize ls2 (val xs) (lsI (val xs) e - e - 2) = lo at *
   generalize more2 (val xs) (lsI (val xs) e - e) = mo at *
   generalize lsI (val xs) e = l at *
   generalize tpI (val xs) e = tp at *
   have A3 : bits .and .u64 (q : Int) 3 = (q : Int) % 4 := and_three _ ⟨by omega, by omega⟩
   have hls' : max (tp - 52) (-1074) = l := hls.symm
   have D4 : (q : Int) / 4 = (M : Int) := by omega
   obtain ⟨c1, c2, c3⟩ := fX3 w s a len cap e
   have hI := h.keep bA
   have hT0 := hT.kept bA
   clear hls hT h
   go_enter Tryz.func114, Tryz.ntmps114
   go_wp2_with fail
   generalize (w.alloc (.cells #[.bool s, .slice a len cap, .int .i64 e] 27)) = w0 at *
   refine Calls.mono HT.out ?_
   rintro r w1 ⟨rfl, bN⟩
   replace c1 := kC bN c1
   replace c2 := kC bN c2
   replace c3 := kC bN c3
   replace hI := hI.keep bN
   replace hT0 := hT0.kept bN
   replace bA := nT bA bN
   clear bN HT
   go_wp2_with fail
   refine Calls.mono (HQ.out _ hI) ?_
   rintro r w2 ⟨rfl, bN⟩
   replace hT0 := hT0.kept bN
   replace bA := nT bA bN
   clear bN HQ c1 c2 c3 hI
   cases lo with
   | true =>
    have hmo' : mo = q % 4 ||| 1 := by rw [hmo.out]; rfl
    have HM : Hid (mo = q % 4 ||| 1) := hmo'
    have O1 : bits .or .u64 ((q : Int) % 4) 1 = (mo : Int) := by rw [hmo', ← or_one _ (by omega)]; congr 1
    clear hmo'
    go_wp2_with fail
    refine Calls.mono (of_eq M _ (by omega)) ?_
    rintro r w3 ⟨ao, n, c, rfl, hN, hn, hO, bN⟩
    replace hT0 := hT0.kept bN
    replace bA := nT bA bN
    have HTo : Hid _ := to_calls false ao n c (wordsOf M) l w3 hO.1 (by omega) hT0
    rw [val_words, hw] at HTo
    have HN : Hid _ := hN
    clear bN hO hN hn hw
    go_wp2_with fail
    refine Calls.mono HTo.out ?_
    rintro r w4 ⟨rfl, bN⟩
    go_wp2_with fail
    go_ret2
    rw [e3.out, e4.out]
    exact ⟨rfl, nT bA bN⟩
   | false =>
    have HM : Hid (mo = q % 4) := by rw [Hid, hmo.out]; rfl
    go_wp2_with fail
    refine Calls.mono (of_eq M _ (by omega)) ?_
    rintro r w3 ⟨ao, n, c, rfl, hN, hn, hO, bN⟩
    replace hT0 := hT0.kept bN
    replace bA := nT bA bN
    have HTo : Hid _ := to_calls false ao n c (wordsOf M) l w3 hO.1 (by omega) hT0
    rw [val_words, hw] at HTo
    have HN : Hid _ := hN
    clear bN hO hN hn hw
    go_wp2_with fail
    refine Calls.mono HTo.out ?_
    rintro r w4 ⟨rfl, bN⟩
    go_wp2_with fail
    go_ret2
    rw [e3.out, e4.out]
    rw [HM.out]
    exact ⟨rfl, nT bA bN⟩
theorem near_ch (m : Nat) (e : Int) : chV (apD m e) (upV (apD m e)) (apM m e) = nearW m e ∧ (apM m e = 0 ↔ exactB m e = true) ∧ U (apD m e) ∧ U (nearW m e) := by
 have hb := nearW_bd m e
 refine ⟨?_, ?_, ?_, ⟨hb.1, by omega⟩⟩
 ·unfold apD apM nearW
  by_cases h0 : m = 0
  ·rw [if_pos h0, if_pos h0, if_pos h0]; decide
  ·rw [if_neg h0, if_neg h0, if_neg h0]
   by_cases h1 : 1024 ≤ tpI m e
   ·rw [if_pos h1, if_pos h1, if_pos h1]; decide
   ·rw [if_neg h1, if_neg h1, if_neg h1]
    obtain ⟨c1, c2, c3⟩ := choose_rd m (lsI m e - e)
    have a1 := ls_low m e
    have a2 := ls_top m e (by omega)
    have a3 := M_lt m e
    generalize rd2 m (lsI m e - e) = rd at *
    generalize more2 m (lsI m e - e) = mo at *
    generalize fl2 m (lsI m e - e) = M at *
    generalize lsI m e = l at *
    have hup : upV ((l + 1074) * 4503599627370496 + (M : Int)) = (l + 1074) * 4503599627370496 + (M : Int) + 1 := by
     unfold upV
     rw [if_neg (by omega)]
     by_cases z : ((l + 1074) * 4503599627370496 + (M : Int)) % 9223372036854775808 = 0
     ·rw [if_pos z]; omega
     ·rw [if_neg z, if_neg (by omega)]
    rw [hup]
    unfold chV
    by_cases k1 : (mo : Int) < 2
    ·rw [if_pos k1, c1 (by omega)]
    ·rw [if_neg k1]
     by_cases k2 : (2 : Int) < mo
     ·rw [if_pos k2, c2 (by omega)]; omega
     ·rw [if_neg k2, c3 (by omega)]
      by_cases k3 : ((l + 1074) * 4503599627370496 + (M : Int)) % 2 = 0
      ·rw [if_pos k3]; omega
      ·rw [if_neg k3]; omega
 ·unfold apM exactB
  by_cases h0 : m = 0
  ·rw [if_pos h0, if_pos h0]; decide
  ·rw [if_neg h0, if_neg h0]
   by_cases h1 : 1024 ≤ tpI m e
   ·rw [if_pos h1, if_pos h1]; decide
   ·rw [if_neg h1, if_neg h1]
    have := more_zero m (lsI m e - e)
    cases hl : ls2 m (lsI m e - e) with
    | true => rw [hl] at this; simp; intro q; exact absurd (this.1 q) (by decide)
    | false => rw [hl] at this; simp; exact this.2 rfl
 ·unfold apD U
  by_cases h0 : m = 0
  ·rw [if_pos h0]; omega
  ·rw [if_neg h0]
   by_cases h1 : 1024 ≤ tpI m e
   ·rw [if_pos h1]; omega
   ·rw [if_neg h1]
    have a1 := ls_low m e
    have a2 := ls_top m e (by omega)
    have a3 := M_lt m e
    omega
theorem neg_U (x : Int) : U (negV x) := by unfold negV U; omega
set_option maxRecDepth 100000 in
set_option maxHeartbeats 2000000 in
theorem nearest_calls (s : Bool) (a : Option Addr) (len cap : Nat) (xs : List Int) (e : Int) (w : World) (h : IsW w a len cap xs) (hm : len ≤ 17592186044000) (hT : Tab w) (hr : rightB (val xs) e = true) :
  Calls Tryz.prog 84 #[dyV s a len cap e] w fun r w' => r = .returned (.tuple #[.int .u64 (nearB s (val xs) e), .bool (exactB (val xs) e)]) ∧ Below w.heap.size w w' := by
 have bA := below_one w (.cells #[.bool s, .slice a len cap, .int .i64 e] 27)
 have hI := h.keep bA
 have hT0 := hT.kept bA
 have HA : Hid _ := ramount_calls s a len cap xs e _ hI hm hT0 hr
 obtain ⟨n1, n2, n3, n4⟩ := near_ch (val xs) e
 have HU : Hid _ := fun w => up_calls (apD (val xs) e) w n3
 have HCh : Hid _ := fun w => chooser_calls (apD (val xs) e) (upV (apD (val xs) e)) w n3
 have HZ : Hid _ := fun w' (h' : IsW w' a len cap xs) t' => dzero_calls s a len cap xs e w' h' (by omega) t'
 rw [hr] at HZ
 have HN : Hid _ := fun w => neg_calls (nearW (val xs) e) w n4
 have N1 : Hid _ := n1
 have N2 : Hid ((apM (val xs) e == 0) = exactB (val xs) e) := by
  cases hx : exactB (val xs) e with
  | true => exact beq_iff_eq.2 (n2.2 hx)
  | false => exact beq_eq_false_iff_ne.2 (fun q => by have := n2.1 q; rw [hx] at this; cases this)
 have hB : Hid (∀ t, decide (val xs = 0) = t → nearB s (val xs) e = if (s && !t) = true then negV (nearW (val xs) e) else nearW (val xs) e) := fun t ht => by
  unfold nearB
  rw [← ht]
  by_cases z : val xs = 0 <;> simp [z]
 generalize decide (val xs = 0) = tz0 at *
 have hB' : Hid _ := hB.out tz0 rfl
 clear hB n1 n2 n3 n4 hr h hT
 generalize apD (val xs) e = dn at *
 generalize upV dn = up at *
 generalize apM (val xs) e = mo at *
 generalize nearW (val xs) e = nw at *
 generalize exactB (val xs) e = ex at *
 generalize nearB s (val xs) e = nb at *
 obtain ⟨c1, c2, c3⟩ := fX3 w s a len cap e
 go_enter Tryz.func84, Tryz.ntmps84
 go_wp2_with fail
 generalize (w.alloc (.cells #[.bool s, .slice a len cap, .int .i64 e] 27)) = w0 at *
 refine Calls.mono HA.out ?_
 rintro r w1 ⟨rfl, bN⟩
 replace c1 := kC bN c1
 replace c2 := kC bN c2
 replace c3 := kC bN c3
 replace hI := hI.keep bN
 replace hT0 := hT0.kept bN
 replace bA := nT bA bN
 clear bN HA
 go_wp2_with fail
 refine Calls.mono (HU.out _) ?_
 rintro r w1 ⟨rfl, rfl⟩
 go_wp2_with fail
 refine Calls.mono (HCh.out _) ?_
 rintro r w2 ⟨b1, b2, b3, rfl, d1, d2, d3, bN⟩
 replace c1 := kC bN c1
 replace c2 := kC bN c2
 replace c3 := kC bN c3
 replace hI := hI.keep bN
 replace hT0 := hT0.kept bN
 replace bA := nT bA bN
 clear bN HCh HU
 have HCl : Hid _ := closure_calls b1 b2 b3 dn up (if dn % 2 = 0 then dn else up) mo w2 d1 d2 d3
 change Hid (Calls _ _ _ _ fun r w' => r = .returned (.int .u64 (chV dn up mo)) ∧ w' = w2) at HCl
 rw [N1.out] at HCl
 clear d1 d2 d3
 go_wp2_with fail
 refine Calls.mono HCl.out ?_
 rintro r w2 ⟨rfl, rfl⟩
 cases s with
 | false =>
  have e1 : Hid (nb = nw) := by rw [Hid, hB'.out]; simp
  go_wp2_with fail
  go_ret2
  rw [e1.out, ← N2.out]
  exact ⟨rfl, bA⟩
 | true =>
  go_wp2_with fail
  refine Calls.mono (HZ.out _ hI hT0) ?_
  rintro r w3 ⟨rfl, bN⟩
  replace bA := nT bA bN
  cases tz0 with
  | true =>
   have e1 : Hid (nb = nw) := by rw [Hid, hB'.out]; simp
   go_wp2_with fail
   go_ret2
   rw [e1.out, ← N2.out]
   exact ⟨rfl, bA⟩
  | false =>
   have e1 : Hid (nb = negV nw) := by rw [Hid, hB'.out]; simp
   go_wp2_with fail
   refine Calls.mono (HN.out _) ?_
   rintro r w3 ⟨rfl, rfl⟩
   go_wp2_with fail
   go_ret2
   rw [e1.out, ← N2.out]
   exact ⟨rfl, bA⟩
end Go.Proofs.YtionhpedghmecaaGreatDoor

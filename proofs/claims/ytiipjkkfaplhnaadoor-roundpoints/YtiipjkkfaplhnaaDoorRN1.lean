/- Package round: the walks of near.go that ask words alone. -/
import Derived.Test.YtiipjkkfaplhnaaDoorRN0
import Derived.Test.YtiipjkkfaplhnaaDoorTMB
import Derived.Deep.RegionWith
import Derived.BigQuiet
namespace Go.Proofs.YtiipjkkfaplhnaaDoor
open Go.RowKit

theorem rbelow_drewN {B : Nat} {a w : World} (h : Below B a w) (n : Nat) : Below B a (w.drewN n) := h.trans ⟨rfl, rfl, rfl, Nat.le_refl _, fun _ _ => rfl⟩
theorem fl_shl (m : Nat) (n : Int) (hn : n < 0) (hg : greatB m = false) (hb : (blen m : Int) - n ≤ 60) : (shlR m (-n)).1 = fl2 m n := by
  have e2 : fl2 m n = m * 2 ^ (-n).toNat := by unfold fl2; rw [if_pos (by omega)]
  have a1 : ¬ greatB m = true := by rw [hg]; decide
  have a2 : ¬ -n < 0 := by omega
  have a3 : ¬ 65536 - (blen m : Int) < -n := by omega
  rw [e2]
  unfold shlR
  rw [if_neg a1, if_neg a2]
  by_cases h : m = 0
  · rw [if_pos h, h, Nat.zero_mul]
  · rw [if_neg h, if_neg a3]
theorem fl_shr (m : Nat) (n : Int) (hn : 0 ≤ n) (hg : greatB m = false) : shrQ m n = fl2 m n ∧ shrL m n = ls2 m n := by
  have a1 : ¬ greatB m = true := by rw [hg]; decide
  have a2 : ¬ n < 0 := by omega
  have e1 : shrQ m n = m / 2 ^ n.toNat := by unfold shrQ; rw [if_neg a1, if_neg a2]
  have e2 : shrL m n = lostB m n.toNat := by unfold shrL; rw [if_neg a1, if_neg a2]
  rw [e1, e2]
  unfold fl2 ls2
  by_cases h : n ≤ 0
  · have : n = 0 := by omega
    subst this
    rw [if_pos h, if_pos h]
    constructor
    · show m / 2 ^ 0 = m * 2 ^ 0; simp
    · show lostB m 0 = false; unfold lostB; simp [Nat.mod_one]
  · rw [if_neg h, if_neg h]; exact ⟨rfl, rfl⟩

set_option maxRecDepth 100000 in
set_option maxHeartbeats 1000000 in
theorem wider_calls (a : Option Addr) (len cap : Nat) (xs : List Int) (i : Int) (w : World) (h : IsW w a len cap xs) (hm : len ≤ 17592186044416) :
    Calls Tryd.prog 115 #[.slice a len cap, .int .i64 i] w fun e w' => ∃ v, e = .returned v ∧ NatAt w.heap.size w' v (shlR (val xs) i).1 ∧ Below w.heap.size w w' := by
  have HS : Hid _ := shl_calls a len cap xs i w h hm
  go_enter Tryd.func115, Tryd.ntmps115
  go_wp2_with fail
  refine Calls.mono HS.out ?_
  rintro e w1 ⟨v, rfl, hN, hb⟩
  obtain ⟨ao, n, c, rfl, hn, hO⟩ := hN
  have HN : Hid (n = (wordsOf (shlR (val xs) i).1).length) := hn
  clear hn
  go_wp2_with fail
  go_ret
  exact ⟨_, rfl, ⟨ao, n, c, rfl, HN.out, hO⟩, hb⟩

set_option maxRecDepth 100000 in
set_option maxHeartbeats 1000000 in
theorem scut_calls (b : Nat) (a : Option Addr) (len cap : Nat) (xs : List Int) (i : Int) (w : World) (h : IsW w a len cap xs) (hm : len ≤ 17592186044416) (hi : i ≤ 9223372036854775807) (c0 : w.cell? ⟨b, 0, none⟩ = some (.bool false)) (f0 : w.frozen? ⟨b, 0, none⟩ = false) :
    Calls Tryd.prog 114 #[.pointer (some ⟨b, 0, none⟩), .slice a len cap, .int .i64 i] w fun e w' => ∃ ao n c w1, e = .returned (.slice ao n c) ∧ Hid (n = (wordsOf (shrQ (val xs) i)).length) ∧ OwnW w.heap.size w1 ao n c (wordsOf (shrQ (val xs) i)) ∧ Below w.heap.size w w1 ∧ w1.cell? ⟨b, 0, none⟩ = some (.bool false) ∧ w' = w1.setCell ⟨b, 0, none⟩ (.bool (shrL (val xs) i)) := by
  have HS : Hid _ := shr_calls a len cap xs i w h hm hi
  go_enter Tryd.func114, Tryd.ntmps114
  go_wp2_with fail
  refine Calls.mono HS.out ?_
  rintro e w1 ⟨v, rfl, hN, hb⟩
  obtain ⟨ao, n, c, rfl, hn, hO⟩ := hN
  have HN : Hid (n = (wordsOf (shrQ (val xs) i)).length) := hn
  have c1 := dcarry_cell hb c0
  have f1 := dcarry_frozen hb c0 f0
  clear hn c0 f0 HS
  generalize hlo : shrL (val xs) i = lo at *
  have Hlo : Hid (shrL (val xs) i = lo) := hlo
  clear hlo
  go_wp2_with fail
  go_ret
  exact ⟨ao, n, c, w1, rfl, HN, hO, hb, c1, by rw [Hlo.out]⟩

theorem first_word (q : Nat) (h0 : q ≠ 0) (h : q < 18446744073709551616) (w : World) (a : Option Addr) (n c : Nat) (hI : IsW w a n c (wordsOf q)) (hn : n = (wordsOf q).length) : 0 < n ∧ ∃ b off, a = some ⟨b, off, none⟩ ∧ w.cell? ⟨b, off, none⟩ = some (.int .u64 (q : Int)) := by
  have hp : 0 < n := by
    rw [hn]
    refine Nat.pos_of_ne_zero fun e => h0 ((words_nil q).1 (List.length_eq_zero_iff.1 e))
  refine ⟨hp, ?_⟩
  obtain ⟨b, off, e1, -, e3⟩ := hI.2.2.2 0 hp
  refine ⟨b, off, e1, ?_⟩
  have hw : (wordsOf q).getD 0 0 = (q : Int) := by
    have h1 := words_get q 0
    rw [Nat.pow_zero, Nat.div_one, Nat.mod_eq_of_lt h] at h1
    have hU := hI.2.1
    have h2 : 0 ≤ (wordsOf q).getD 0 0 := by
      rw [List.getD_eq_getElem?_getD, List.getElem?_eq_getElem (by omega)]
      exact (hU _ (List.getElem_mem _)).1
    omega
  rw [← hw]; exact e3
theorem no_word (q : Nat) (h0 : q = 0) (n : Nat) (hn : n = (wordsOf q).length) : n = 0 := by rw [hn, h0, words_zero]; rfl

set_option maxRecDepth 100000 in
set_option maxHeartbeats 2000000 in
theorem quarters_neg (s : Bool) (a : Option Addr) (len cap : Nat) (xs : List Int) (e l : Int) (w : World) (h : IsW w a len cap xs) (hm : len ≤ 17592186044416) (hg : greatB (val xs) = false) (he : -32768 ≤ e ∧ e ≤ 32768) (hl : -1074 ≤ l ∧ l ≤ 971) (hb : (blen (val xs) : Int) ≤ 53 + (l - e)) (hn : l - 2 - e < 0) :
    Calls Tryd.prog 82 #[dyV s a len cap e, .int .i64 l] w fun r w' => r = .returned (.tuple #[.int .u64 (fl2 (val xs) (l - e - 2) : Int), .bool (ls2 (val xs) (l - e - 2))]) ∧ Below w.heap.size w w' := by
  have HW : Hid _ := fun w' (h' : IsW w' a len cap xs) => wider_calls a len cap xs (-(l - 2 - e)) w' h' hm
  rw [fl_shl _ _ hn hg (by omega), show l - 2 - e = l - e - 2 by omega] at HW
  have hq : fl2 (val xs) (l - e - 2) < 18446744073709551616 := Nat.lt_trans (fl_lt _ 55 _ (by omega)) (by decide)
  have Hls : Hid (ls2 (val xs) (l - e - 2) = false) := by rw [Hid]; unfold ls2; rw [if_pos (by omega)]
  have W1 : IntKind.i64.wrap (l - 2) = l - 2 := by rw [IntKind.wrap_i64]; omega
  have W2 : IntKind.i64.wrap (l - 2 - e) = l - e - 2 := by rw [IntKind.wrap_i64]; omega
  have W3 : IntKind.i64.wrap (-(l - e - 2)) = -(l - e - 2) := by rw [IntKind.wrap_i64]; omega
  have hn' : l - e - 2 < 0 := by omega
  generalize fl2 (val xs) (l - e - 2) = q at *
  generalize l - e - 2 = k at *
  clear hg he hl hb hn
  go_enter Tryd.func82, Tryd.ntmps82
  go_wp2_with fail
  refine Calls.mono (HW.out _ (h.keep (nbelow_trans (below_one _ _) (below_one _ _)))) ?_
  rintro r w1 ⟨v, rfl, ⟨ao, n, c, rfl, hN, hO⟩, bN⟩
  have bw : Below w.heap.size w w1 := nbelow_trans (nbelow_trans (below_one _ _) (below_one _ _)) bN
  have z0 : w1.cell? ⟨w.heap.size + 1, 0, none⟩ = some (.bool false) := dcarry_cell bN (by go_simp)
  clear bN HW
  by_cases h0 : q = 0
  · have hn0 := no_word q h0 n hN
    subst hn0 h0
    clear hN hO
    go_wp2_with fail
    go_quiet (fail)
    all_goals go_wp2_with fail
    all_goals go_ret2
    all_goals rw [Hls.out]
    all_goals exact ⟨by simp, by repeat (first | exact bw | refine Below.drew ?_ | refine rbelow_drewN ?_ _)⟩
  · obtain ⟨hp, b, off, rfl, hc⟩ := first_word q h0 hq w1 ao n c hO.1 hN
    have hpi : ((n : Int) > 0) := by omega
    have HN : Hid _ := hN
    clear hN hO
    go_wp2_with fail
    go_quiet (fail)
    all_goals go_wp2_with fail
    all_goals go_ret2
    all_goals rw [Hls.out]
    all_goals exact ⟨rfl, by repeat (first | exact bw | refine Below.drew ?_ | refine rbelow_drewN ?_ _)⟩
theorem isW_setB {w : World} {a : Option Addr} {n c : Nat} {xs : List Int} {p : Addr} {v x : Value} (h : IsW w a n c xs) (hp : w.cell? p = some x) (hx : ∀ (k : IntKind) (i : Int), x ≠ .int k i) : IsW (w.setCell p v) a n c xs := by
  obtain ⟨h1, h2, h4, h3⟩ := h
  refine ⟨h1, h2, h4, fun i hi => ?_⟩
  obtain ⟨b, off, e1, e2, e3⟩ := h3 i hi
  refine ⟨b, off, e1, by simpa using e2, ?_⟩
  rw [World.cell?_setCell_other _ _ _ _ (fun e => ?_)]
  · exact e3
  · rw [← e, hp] at e3
    exact hx _ _ (Option.some.inj e3)

set_option maxRecDepth 100000 in
set_option maxHeartbeats 2000000 in
theorem quarters_pos (s : Bool) (a : Option Addr) (len cap : Nat) (xs : List Int) (e l : Int) (w : World) (h : IsW w a len cap xs) (hm : len ≤ 17592186044416) (hg : greatB (val xs) = false) (he : -32768 ≤ e ∧ e ≤ 32768) (hl : -1074 ≤ l ∧ l ≤ 971) (hb : (blen (val xs) : Int) ≤ 53 + (l - e)) (hn : 0 ≤ l - 2 - e) :
    Calls Tryd.prog 82 #[dyV s a len cap e, .int .i64 l] w fun r w' => r = .returned (.tuple #[.int .u64 (fl2 (val xs) (l - e - 2) : Int), .bool (ls2 (val xs) (l - e - 2))]) ∧ Below w.heap.size w w' := by
  have HW : Hid _ := fun b w' (h' : IsW w' a len cap xs) c0 f0 => scut_calls b a len cap xs (l - 2 - e) w' h' hm (by omega) c0 f0
  obtain ⟨f1, f2⟩ := fl_shr (val xs) (l - 2 - e) hn hg
  rw [f1, f2, show l - 2 - e = l - e - 2 by omega] at HW
  have hq : fl2 (val xs) (l - e - 2) < 18446744073709551616 := Nat.lt_trans (fl_lt _ 55 _ (by omega)) (by decide)
  have W1 : IntKind.i64.wrap (l - 2) = l - 2 := by rw [IntKind.wrap_i64]; omega
  have W2 : IntKind.i64.wrap (l - 2 - e) = l - e - 2 := by rw [IntKind.wrap_i64]; omega
  have hn' : ¬ (l - e - 2 < 0) := by omega
  generalize fl2 (val xs) (l - e - 2) = q at *
  generalize ls2 (val xs) (l - e - 2) = lo at *
  generalize l - e - 2 = k at *
  clear hg he hl hb hn f1 f2
  go_enter Tryd.func82, Tryd.ntmps82
  go_wp2_with fail
  refine Calls.mono (HW.out (w.heap.size + 1) _ (h.keep (nbelow_trans (below_one _ _) (below_one _ _))) (by go_simp) (by go_simp)) ?_
  rintro r w2 ⟨ao, n, c, w1, rfl, hN, hO, bN, z1, rfl⟩
  have bw1 : Below w.heap.size w w1 := nbelow_trans (nbelow_trans (below_one _ _) (below_one _ _)) bN
  have hs1 : w.heap.size + 1 < w1.heap.size := World.block_lt_of_cell? _ _ z1
  have bw : Below w.heap.size w (w1.setCell ⟨w.heap.size + 1, 0, none⟩ (.bool lo)) := bw1.setCell (by simp) _
  have z0 : (w1.setCell ⟨w.heap.size + 1, 0, none⟩ (.bool lo)).cell? ⟨w.heap.size + 1, 0, none⟩ = some (.bool lo) := by go_simp
  have hO2 : IsW (w1.setCell ⟨w.heap.size + 1, 0, none⟩ (.bool lo)) ao n c (wordsOf q) := isW_setB hO.1 z1 (fun _ _ => by intro h; cases h)
  clear bN HW hO bw1 z1 hs1
  generalize (w1.setCell ⟨w.heap.size + 1, 0, none⟩ (.bool lo)) = w3 at *
  by_cases h0 : q = 0
  · have hn0 := no_word q h0 n hN.out
    subst hn0 h0
    clear hN hO2
    go_wp2_with fail
    go_quiet (fail)
    all_goals go_wp2_with fail
    all_goals go_ret2
    all_goals exact ⟨by simp, by repeat (first | exact bw | refine Below.drew ?_ | refine rbelow_drewN ?_ _)⟩
  · obtain ⟨hp, b, off, rfl, hc⟩ := first_word q h0 hq w3 ao n c hO2 hN.out
    have hpi : ((n : Int) > 0) := by omega
    clear hN hO2
    go_wp2_with fail
    go_quiet (fail)
    all_goals go_wp2_with fail
    all_goals go_ret2
    all_goals exact ⟨rfl, by repeat (first | exact bw | refine Below.drew ?_ | refine rbelow_drewN ?_ _)⟩

theorem quarters_calls (s : Bool) (a : Option Addr) (len cap : Nat) (xs : List Int) (e l : Int) (w : World) (h : IsW w a len cap xs) (hm : len ≤ 17592186044416) (hg : greatB (val xs) = false) (he : -32768 ≤ e ∧ e ≤ 32768) (hl : -1074 ≤ l ∧ l ≤ 971) (hb : (blen (val xs) : Int) ≤ 53 + (l - e)) :
    Calls Tryd.prog 82 #[dyV s a len cap e, .int .i64 l] w fun r w' => r = .returned (.tuple #[.int .u64 (fl2 (val xs) (l - e - 2) : Int), .bool (ls2 (val xs) (l - e - 2))]) ∧ Below w.heap.size w w' := by
  by_cases hn : l - 2 - e < 0
  · exact quarters_neg s a len cap xs e l w h hm hg he hl hb hn
  · exact quarters_pos s a len cap xs e l w h hm hg he hl hb (by omega)
end Go.Proofs.YtiipjkkfaplhnaaDoor

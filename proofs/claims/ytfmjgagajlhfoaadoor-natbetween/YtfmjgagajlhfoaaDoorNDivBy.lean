/- The walk of the division of a natural by one word, in place. -/
import Derived.Test.YtfmjgagajlhfoaaDoorNDivW2
import Derived.Test.YtfmjgagajlhfoaaDoorNMem
namespace Go.Proofs.YtfmjgagajlhfoaaDoor
open Go.RowKit

theorem div64_calls (hi lo y : Nat) (w : World) (hl : lo < 18446744073709551616) (hy : y < 18446744073709551616) (h0 : hi < y) :
    Calls Tryd.prog 65 #[.int .u64 (hi : Int), .int .u64 (lo : Int), .int .u64 (y : Int)] w fun e w' => e = .returned (.tuple #[.int .u64 (((hi * 18446744073709551616 + lo) / y : Nat) : Int), .int .u64 (((hi * 18446744073709551616 + lo) % y : Nat) : Int)]) ∧ Below w.heap.size w w' := by
  rcases Nat.eq_zero_or_pos hi with h | h
  · subst h
    have := div64_low lo y w hl hy h0
    rw [Nat.zero_mul, Nat.zero_add]
    exact this
  · exact div64_high hi lo y w h hl hy h0

theorem below_grown {w w' : World} (h : Below w.heap.size w w') (row : Option Nat) : w.grownBy w' row := ⟨h.os, h.tape, h.output, h.size, fun k hk _ => h.block k hk⟩
theorem set_grown (w : World) (p : Addr) (u : Value) : w.grownBy (w.setCell p u) (some p.block) := ⟨rfl, rfl, rfl, by simp, fun k _ hne => Below.heap_setCell _ _ _ _ (fun e => hne (by rw [e]))⟩
theorem grown_refl (w : World) (row : Option Nat) : w.grownBy w row := ⟨rfl, rfl, rfl, Nat.le_refl _, fun _ _ _ => rfl⟩
theorem IsW.grown {w w' : World} {a : Option Addr} {len cap : Nat} {xs : List Int} {row : Option Nat} (h : IsW w a len cap xs) (hg : w.grownBy w' row) (hne : ∀ b off, a = some ⟨b, off, none⟩ → some b ≠ row) : IsW w' a len cap xs := by
  refine ⟨h.1, h.2.1, h.2.2.1, fun i hi => ?_⟩
  obtain ⟨b, off, e1, e2, e3⟩ := h.2.2.2 i hi
  exact ⟨b, off, e1, Nat.lt_of_lt_of_le e2 hg.size, hg.cell e3 (hne b off e1)⟩
theorem OwnW.grown {B : Nat} {w w' : World} {a : Option Addr} {len cap : Nat} {xs : List Int} {row : Option Nat} (h : OwnW B w a len cap xs) (hg : w.grownBy w' row) (hne : ∀ b off, a = some ⟨b, off, none⟩ → some b ≠ row) : OwnW B w' a len cap xs := by
  refine ⟨h.1.grown hg hne, fun b off i e hi => ?_⟩
  obtain ⟨b2, off2, e1, e2, _⟩ := h.1.2.2.2 i hi
  rw [e] at e1
  simp only [Option.some.injEq, Addr.mk.injEq, and_true] at e1
  obtain ⟨rfl, rfl⟩ := e1
  exact ⟨(h.2 b off i e hi).1, (World.frozen?_of_block (a := ⟨b, off + i, none⟩) (hg.block b e2 (hne b off e))).trans (h.2 b off i e hi).2⟩

theorem word_nat0 (xs : List Int) (h : AllU xs) (k : Nat) : ∃ x : Nat, xs.getD k 0 = (x : Int) ∧ x < 18446744073709551616 := by
  have := h.get k
  exact ⟨(xs.getD k 0).toNat, by omega, by omega⟩
theorem drop_val (xs : List Int) (k : Nat) (hk : k < xs.length) : val (xs.drop k) = (xs.getD k 0).toNat + 18446744073709551616 * val (xs.drop (k + 1)) := by
  rw [List.drop_eq_getElem_cons hk]
  show (xs[k]).toNat + _ = _
  simp [List.getD, hk]
theorem drop_set_val (M : List Int) (k : Nat) (v : Int) (hk : k < M.length) : val ((M.set k v).drop k) = v.toNat + 18446744073709551616 * val (M.drop (k + 1)) := by
  rw [drop_val _ k (by rw [List.length_set]; exact hk), getD_set M k k v hk, if_pos rfl]
  congr 3
  rw [List.drop_set, if_pos (by omega)]
theorem divBy_step (H D x r d : Nat) (hd : 0 < d) (hD : D = H / d) (hr : r = H % d) : (r * 18446744073709551616 + x) / d + 18446744073709551616 * D = (x + 18446744073709551616 * H) / d ∧ (r * 18446744073709551616 + x) % d = (x + 18446744073709551616 * H) % d := by
  have e := Nat.div_add_mod H d
  rw [← hD, ← hr] at e
  have e2 : x + 18446744073709551616 * H = (r * 18446744073709551616 + x) + d * (18446744073709551616 * D) := by
    rw [← e, Nat.mul_add, Nat.mul_left_comm]; omega
  rw [e2, Nat.add_mul_div_left _ _ hd, Nat.add_mul_mod_self_left]
  exact ⟨rfl, rfl⟩
theorem quo_word (r x d : Nat) (hr : r < d) (hx : x < 18446744073709551616) : (r * 18446744073709551616 + x) / d < 18446744073709551616 := by
  rw [Nat.div_lt_iff_lt_mul (by omega)]
  have := Nat.mul_le_mul_left 18446744073709551616 (show r + 1 ≤ d from hr)
  rw [Nat.mul_add] at this
  omega

set_option maxRecDepth 100000 in
set_option maxHeartbeats 1000000 in
theorem divideBy_calls (B g off : Nat) (n c d : Nat) (M0 : List Int) (w : World) (h : OwnW B w (some ⟨g, off, none⟩) n c M0) (hn : n ≤ 17592186044416) (hd : 0 < d) (hd2 : d < 18446744073709551616) :
    Calls Tryd.prog 46 #[.slice (some ⟨g, off, none⟩) n c, .int .u64 (d : Int)] w fun e w' => ∃ M, e = .returned (.int .u64 ((val M0 % d : Nat) : Int)) ∧ OwnW B w' (some ⟨g, off, none⟩) n c M ∧ val M = val M0 / d ∧ w.grownBy w' (some g) := by
  have HL0 : Hid (n = M0.length) := h.1.1
  have HU0 : Hid (AllU M0) := h.1.2.1
  go_enter Tryd.func46, Tryd.ntmps46
  go_wp2_with fail
  go_loopw [5, 6] (fun vr vi wr => ∃ (k : Nat) (M : List Int) (r : Nat), k ≤ n ∧ vi = .int .i64 ((k : Int) - 1) ∧ vr = .int .u64 (r : Int) ∧ r < d ∧ (∀ i, i < k → M.getD i 0 = M0.getD i 0) ∧ val (M.drop k) = val (M0.drop k) / d ∧ r = val (M0.drop k) % d ∧ OwnW B wr (some ⟨g, off, none⟩) n c M ∧ w.grownBy wr (some g)) (fun _ vi _ => (intOf vi + 1).toNat)
  case atStart => exact ⟨n, M0, 0, Nat.le_refl _, rfl, rfl, hd, (fun _ _ => rfl), by rw [HL0.out, List.drop_length]; simp [val], by rw [HL0.out, List.drop_length]; simp [val], h, grown_refl _ _⟩
  case round =>
    obtain ⟨k, M, r, hk, rfl, rfl, hr, hsame, hval, hrest, hO, hgr⟩ := hrel
    clear h
    have HS : Hid (∀ i, i < k → M.getD i 0 = M0.getD i 0) := hsame
    have HV : Hid (val (M.drop k) = val (M0.drop k) / d) := hval
    have HR : Hid (r = val (M0.drop k) % d) := hrest
    have HL : Hid (n = M.length) := hO.1.1
    clear hsame hval hrest
    cases k with
    | zero =>
      go_wp2_with fail
      go_ret
      have e1 := HV.out
      have e2 := HR.out
      rw [List.drop_zero] at e1 e2
      exact ⟨M, nret_int (by rw [e2]), hO, e1, hgr⟩
    | succ k =>
      obtain ⟨x, hx, hx1⟩ := word_nat0 M0 HU0.out k
      obtain ⟨_, _, e1, _, hcell⟩ := hO.1.2.2.2 k (by omega)
      simp only [Option.some.injEq, Addr.mk.injEq, and_true] at e1
      obtain ⟨rfl, rfl⟩ := e1
      have hfz := (hO.2 _ _ k rfl (by omega)).2
      rw [HS.out k (by omega), hx] at hcell
      have ek : (((k + 1 : Nat) : Int) - 1) = (k : Int) := by omega
      rw [ek]
      have HX : Hid (M0.getD k 0 = (x : Int)) := hx
      have hqw := quo_word r x d hr hx1
      have hrm := Nat.mod_lt (r * 18446744073709551616 + x) hd
      have hC := div64_calls r x d wr hx1 hd2 hr
      have HDS : Hid _ := divBy_step (val (M0.drop (k + 1))) (val (M.drop (k + 1))) x r d hd HV.out HR.out
      generalize (r * 18446744073709551616 + x) / d = q at *
      generalize (r * 18446744073709551616 + x) % d = r2 at *
      have HC : Hid _ := hC
      clear hx hC ek
      go_wp2_with fail
      refine Calls.mono HC.out ?_
      rintro e w2 ⟨rfl, hb2⟩
      have hg2 := below_grown hb2 (some g)
      have hcell2 : w2.cell? ⟨g, off + k, none⟩ = some (.int .u64 (x : Int)) := (hb2.cell (p := ⟨g, off + k, none⟩) (World.block_lt_of_cell? _ _ hcell)).trans hcell
      have hfz2 : w2.frozen? ⟨g, off + k, none⟩ = false := (hb2.frozen (p := ⟨g, off + k, none⟩) (World.block_lt_of_cell? _ _ hcell)).trans hfz
      have hO2 := hO.keep hb2
      clear hb2 hO hcell hfz HC
      go_wp2_with fail
      refine ⟨?_, by simp [intOf]⟩
      have h0 := HL.out
      have h1 := HL0.out
      have hO3 := hO2.set (i := k) (by omega) (v := (q : Int)) (by omega) (by omega)
      refine ⟨k, M.set k (q : Int), r2, by omega, rfl, rfl, hrm, fun i hi => ?_, ?_, ?_, hO3, (hgr.trans hg2).trans (set_grown _ _ _)⟩
      · rw [getD_set M k i _ (by omega), if_neg (by omega)]; exact HS.out i (by omega)
      · rw [drop_set_val M k _ (by omega), Int.toNat_natCast, HDS.out.1, drop_val M0 k (by omega), HX.out, Int.toNat_natCast]
      · rw [HDS.out.2, drop_val M0 k (by omega), HX.out, Int.toNat_natCast]
end Go.Proofs.YtfmjgagajlhfoaaDoor

/- Lists of floats as the document's dyadic numbers: all of them together. -/
import Derived.Test.YtccbpbgiiajdkaaEUa
import Derived.Test.YtccbpbgiiajdkaaEXb
import Derived.Deep.CutRange
import Derived.Deep.RegionHeld3
import Derived.Deep.DrawnRows
namespace Go.Proofs.Ytccbpbgiiajdkaa
open Go.RowKit

attribute [local go_sem ↓] Go.wp_at_zero Go.wp_at_succ

/-- So many least units as a dyadic number. -/
def dyU (v : Int) : Bool × Nat × Int := formD (decide (v < 0)) v.natAbs (-1074)
theorem dyU_vI (v : Int) : vI (dyU v) (-1074) = v := by
  unfold dyU
  rw [vI_form _ _ _ _ (Int.le_refl _), show ((-1074 : Int) - -1074).toNat = 0 by decide, Nat.pow_zero, Nat.mul_one]
  unfold sI
  by_cases h : v < 0
  · rw [decide_eq_true h, if_pos rfl]; omega
  · rw [decide_eq_false h, if_neg (by simp)]; omega
theorem dyU_can (v : Int) : CanD (dyU v) := form_can _ _ _
theorem dyU_low (v : Int) : -1074 ≤ (dyU v).2.2 := form_lo _ _ _ _ (by decide) (Int.le_refl _)
theorem dyU_of {p : Bool × Nat × Int} {v : Int} (c : CanD p) (lo : -1074 ≤ p.2.2) (h : vI p (-1074) = v) : p = dyU v :=
  vI_inj _ _ c (dyU_can v) (-1074) lo (dyU_low v) (by rw [h, dyU_vI])
theorem dyU_from (x : Nat) (hx : x < 18446744073709551616) (fx : EP.finB x = true) : fromP (x : Int) = dyU (EP.V x) := dyU_of (fr_can _) (fr_low _) (vI_from x hx fx)
theorem dyU_sum (u v : Int) : sumD (dyU u) (dyU v) = dyU (u + v) :=
  dyU_of (sum_canF (dyU_can u) (dyU_can v)) (sum_low _ _ (-1074) (by decide) (dyU_low u) (dyU_low v)) (by rw [vI_sum _ _ _ (dyU_low u) (dyU_low v), dyU_vI, dyU_vI])
theorem dyU_zero : dyU 0 = (false, 0, 0) := form_zero _ _
theorem dyU_sz (v : Int) (K : Nat) (h : v.natAbs < 2 ^ K) : blen (dyU v).2.1 ≤ K ∧ -1074 ≤ (dyU v).2.2 ∧ (dyU v).2.2 ≤ (K : Int) := by
  have hb := (blen_le _ K).2 h
  refine ⟨Nat.le_trans (blen_mono (form_amount_le _ _ _)) hb, dyU_low v, ?_⟩
  unfold dyU
  by_cases h0 : v.natAbs = 0
  · rw [h0, form_zero]; show (0 : Int) ≤ _; omega
  · rw [form_pos _ h0]
    have := tz_le_blen v.natAbs
    show (-1074 : Int) + (tz v.natAbs : Int) ≤ _
    omega
theorem dyU_mul (s u v : Int) (h : ∀ D : Nat, D = 1074 → s * ((2 ^ D : Nat) : Int) = u * v) : mulD (dyU u) (dyU v) = dyU s := by
  obtain ⟨D, hD⟩ : ∃ D : Nat, D = 1074 := ⟨_, rfl⟩
  have e1 : (-1074 : Int) - (D : Int) = -1074 + -1074 := by omega
  have lo := dyU_low s
  have hc : CanD (mulD (dyU u) (dyU v)) := form_can _ _ _
  refine (vI_inj (dyU s) (mulD (dyU u) (dyU v)) (dyU_can s) hc (-1074 - (D : Int)) (by omega) (by rw [e1]; exact mul_low _ _ _ _ (by decide) (dyU_low u) (dyU_low v)) ?_).symm
  rw [vI_down _ _ D lo, dyU_vI, e1, vI_mul _ _ _ _ (dyU_low u) (dyU_low v), dyU_vI, dyU_vI]
  exact h D hD
theorem dyU_sgn (v : Int) : sgnQ (dyU v).1 (dyU v).2.1 = if v < 0 then -1 else if 0 < v then 1 else 0 := by
  unfold dyU
  by_cases h0 : v.natAbs = 0
  · have : v = 0 := by omega
    subst this; rw [show (0 : Int).natAbs = 0 from rfl, form_zero]; decide
  · rw [form_pos _ h0]
    have h1 := (odd_part h0).1
    unfold sgnQ
    rw [if_neg (show ¬ v.natAbs / 2 ^ tz v.natAbs = 0 by omega)]
    by_cases h : v < 0
    · rw [if_pos h, if_pos (by simpa using h)]
    · rw [if_neg h, if_neg (by simpa using h), if_pos (by omega)]

namespace Fp
open EP
theorem sv_take (xs : List Nat) (k : Nat) (h : k < xs.length) : sv (xs.take (k + 1)) = sv (xs.take k) + V (xs.getD k 0) := by
  have e : xs.take (k + 1) = xs.take k ++ [xs.getD k 0] := by rw [List.take_succ_eq_append_getElem h]; simp [List.getD, h]
  rw [e, sv_snoc]
theorem tot_take (xs : List Nat) (k : Nat) : tot (xs.take k) ≤ tot xs := by
  induction xs generalizing k with
  | nil => simp
  | cons x l ih =>
    cases k with
    | zero => simp [tot]
    | succ k => simp only [List.take_succ_cons, tot]; have := ih k; omega
set_option maxRecDepth 100000 in
set_option maxHeartbeats 2000000 in
theorem moderates2_calls (a : Option Addr) (len cap most : Nat) (xs : List Nat) (w : World) (h : IsF w a len cap xs) (hm : len ≤ 17592186044000) :
    Calls Try.prog 5 #[.slice a len cap, .int .i64 (most : Int)] w fun e w' => ∃ b, e = .returned (.bool b) ∧ Dr w w' ∧ (b = true → len ≤ most ∧ ∀ i, i < len → (bd (xs.getD i 0) 1475 ∧ ∃ A i', Nm (xs.getD i 0) A i')) := by
  have HL : Hid (len = xs.length) := h.1
  have hcap := h.2.1.1
  go_enter Try.func5, Try.ntmps5
  go_wp2_with fail
  go_loopw [9] (fun i wr => ∃ k : Nat, k ≤ len ∧ i = .int .i64 k ∧ Dr w wr ∧ Hid (∀ j, j < k → (bd (xs.getD j 0) 1475 ∧ ∃ A i', Nm (xs.getD j 0) A i'))) (fun i _ => len - (intOf i).toNat)
  case atStart => exact ⟨0, by omega, rfl, Dr.refl _, fun j hj => by omega⟩
  case round =>
    obtain ⟨k, hk, rfl, hd, HR⟩ := hrel
    by_cases hlt : k < len
    · obtain ⟨bb, off, rfl, hbl, hc⟩ := (h.keep (hd.below _)).2.2 k hlt
      obtain ⟨x, hx⟩ : ∃ x, x = xs.getD k 0 := ⟨_, rfl⟩
      rw [← hx] at hc
      have HX : Hid (x = xs.getD k 0) := hx
      clear hx
      go_wp2_with fail
      refine Calls.mono (moderate2_calls x wr) ?_
      rintro e w2 ⟨t, rfl, d2, H2⟩
      have H2' : Hid (t = true → (bd x 1475 ∧ ∃ A i', Nm x A i')) := H2
      clear H2
      cases t with
      | false =>
        go_wp2_with fail
        go_ret
        exact ⟨_, rfl, hd.trans d2, fun e => by cases e⟩
      | true =>
        go_wp2_with fail
        go_round
        case rel =>
          refine ⟨k + 1, by omega, by go_num, hd.trans d2, fun j hj => ?_⟩
          by_cases e : j = k
          · subst e; rw [← HX.out]; exact H2'.out trivial
          · exact HR.out j (by omega)
        case measure => simp [intOf]; omega
    · have hkl : k = len := by omega
      subst hkl
      go_wp2_with fail
      go_ret
      exact ⟨_, rfl, hd, fun e => ⟨by simpa using e, HR.out⟩⟩
end Fp

/-- The sum of two such numbers. -/
theorem uplus_calls (u v : Int) (K : Nat) (hu : u.natAbs < 2 ^ K) (hv : v.natAbs < 2 ^ K) (hK : K ≤ 60000) (a b : Option Addr) (n c m d : Nat) (W : World) (p : IsW W a n c (wordsOf (dyU u).2.1)) (q : IsW W b m d (wordsOf (dyU v).2.1)) :
    Calls Try.prog 12 #[dyV (dyU u).1 a n c (dyU u).2.2, dyV (dyU v).1 b m d (dyU v).2.2] W fun r w' => ∃ v', r = .returned v' ∧ DyQ W.heap.size w' v' (dyU (u + v)) ∧ Below W.heap.size W w' := by
  obtain ⟨s1, s2, s3⟩ := dyU_sz u K hu
  obtain ⟨t1, t2, t3⟩ := dyU_sz v K hv
  have n1 : n ≤ 1024 := by rw [p.1]; exact (words_len2 _ _).2 (by omega)
  have n2 : m ≤ 1024 := by rw [q.1]; exact (words_len2 _ _).2 (by omega)
  have := qPlus_calls (dyU u).1 a n c (wordsOf (dyU u).2.1) (dyU u).2.2 (dyU v).1 b m d (wordsOf (dyU v).2.1) (dyU v).2.2 W p (by omega) q (by omega) (by omega) (by omega) (by rw [val_words]; omega) (by rw [val_words]; omega)
  rw [val_words, val_words, form_of_can (dyU_can u), form_of_can (dyU_can v), dyU_sum] at this
  exact this
theorem utimes_calls (u v : Int) (K : Nat) (hu : u.natAbs < 2 ^ K) (hv : v.natAbs < 2 ^ K) (hK : K ≤ 60000) (a b : Option Addr) (n c m d : Nat) (W : World) (p : IsW W a n c (wordsOf (dyU u).2.1)) (q : IsW W b m d (wordsOf (dyU v).2.1)) :
    Calls Try.prog 16 #[dyV (dyU u).1 a n c (dyU u).2.2, dyV (dyU v).1 b m d (dyU v).2.2] W fun r w' => ∃ v', r = .returned v' ∧ DyQ W.heap.size w' v' (mulD (dyU u) (dyU v)) ∧ Below W.heap.size W w' := by
  obtain ⟨s1, s2, s3⟩ := dyU_sz u K hu
  obtain ⟨t1, t2, t3⟩ := dyU_sz v K hv
  have n1 : n ≤ 1024 := by rw [p.1]; exact (words_len2 _ _).2 (by omega)
  have n2 : m ≤ 1024 := by rw [q.1]; exact (words_len2 _ _).2 (by omega)
  have := qTimes_calls (dyU u).1 a n c (wordsOf (dyU u).2.1) (dyU u).2.2 (dyU v).1 b m d (wordsOf (dyU v).2.1) (dyU v).2.2 W p (by omega) q (by omega) (by omega) (by omega) (by rw [val_words]; omega) (by rw [val_words]; omega)
  rw [val_words, val_words, form_of_can (dyU_can u), form_of_can (dyU_can v)] at this
  exact this
theorem unumber_calls (x : Nat) (w : World) (hx : x < 18446744073709551616) (fx : EP.finB x = true) :
    Calls Try.prog 13 #[.float .f64 x] w fun r w' => ∃ v', r = .returned v' ∧ DyQ w.heap.size w' v' (dyU (EP.V x)) ∧ Below w.heap.size w w' := by
  have := number_calls x w hx
  rw [dyU_from x hx fx] at this
  exact this

/-- A dyadic number in the cells of a block. -/
def AtDy (w : World) (b : Nat) (p : Bool × Nat × Int) (a : Option Addr) (n c : Nat) : Prop :=
  w.cell? ⟨b, 0, none⟩ = some (.bool p.1) ∧ w.cell? ⟨b, 1, none⟩ = some (.slice a n c) ∧ w.cell? ⟨b, 2, none⟩ = some (.int .i64 p.2.2) ∧ w.frozen? ⟨b, 0, none⟩ = false ∧ w.frozen? ⟨b, 1, none⟩ = false ∧ w.frozen? ⟨b, 2, none⟩ = false
theorem AtDy.keep {w w' : World} {b : Nat} {p : Bool × Nat × Int} {a : Option Addr} {n c : Nat} (h : AtDy w b p a n c) (hb : Below w.heap.size w w') : AtDy w' b p a n c := by
  obtain ⟨h0, h1, h2, h3, h4, h5⟩ := h
  exact ⟨dcarry_cell hb h0, dcarry_cell hb h1, dcarry_cell hb h2, dcarry_frozen hb h0 h3, dcarry_frozen hb h1 h4, dcarry_frozen hb h2 h5⟩
theorem AtDy.set {w : World} {b : Nat} {p : Bool × Nat × Int} {a : Option Addr} {n c : Nat} (h : AtDy w b p a n c) (q : Bool × Nat × Int) (a' : Option Addr) (n' c' : Nat) : AtDy (((w.setCell ⟨b, 0, none⟩ (.bool q.1)).setCell ⟨b, 1, none⟩ (.slice a' n' c')).setCell ⟨b, 2, none⟩ (.int .i64 q.2.2)) b q a' n' c' := by
  obtain ⟨h0, h1, h2, h3, h4, h5⟩ := h
  refine ⟨by go_simp, by go_simp, by go_simp, by go_simp, by go_simp, by go_simp⟩
theorem AtDy.other {w : World} {b r : Nat} {p : Bool × Nat × Int} {a : Option Addr} {n c : Nat} (h : AtDy w b p a n c) (hne : b ≠ r) (v0 v1 v2 : Value) : AtDy (((w.setCell ⟨r, 0, none⟩ v0).setCell ⟨r, 1, none⟩ v1).setCell ⟨r, 2, none⟩ v2) b p a n c := by
  obtain ⟨h0, h1, h2, h3, h4, h5⟩ := h
  exact ⟨set3_cell h0 hne, set3_cell h1 hne, set3_cell h2 hne, by rw [World.frozen?_setCell, World.frozen?_setCell, World.frozen?_setCell]; exact h3, by rw [World.frozen?_setCell, World.frozen?_setCell, World.frozen?_setCell]; exact h4, by rw [World.frozen?_setCell, World.frozen?_setCell, World.frozen?_setCell]; exact h5⟩

set_option maxRecDepth 100000 in
set_option maxHeartbeats 4000000 in
theorem all_calls (a : Option Addr) (len cap : Nat) (xs : List Nat) (w : World) (K : Nat) (hK : K ≤ 60000) (h : Fp.IsF w a len cap xs) (hm : len ≤ 100000) (hw : ∀ i, i < len → xs.getD i 0 < 18446744073709551616 ∧ EP.finB (xs.getD i 0) = true) (hs : Fp.tot xs < 2 ^ K) :
    Calls Try.prog 10 #[.slice a len cap] w fun r w' => ∃ v', r = .returned v' ∧ DyQ w.heap.size w' v' (dyU (Fp.sv xs)) ∧ Below w.heap.size w w' := by
  have HL : Hid (len = xs.length) := h.1
  have HF : Hid (Fp.IsF w a len cap xs) := h
  have HW : Hid (∀ i, i < len → xs.getD i 0 < 18446744073709551616 ∧ EP.finB (xs.getD i 0) = true) := hw
  have HS : Hid (∀ k, (Fp.sv (xs.take k)).natAbs < 2 ^ K) := fun k => Nat.lt_of_le_of_lt (Fp.sv_abs _) (Nat.lt_of_le_of_lt (Fp.tot_take xs k) hs)
  have HV : Hid (∀ i, i < len → (EP.V (xs.getD i 0)).natAbs < 2 ^ K) := fun i hi => by
    have hm : xs.getD i 0 ∈ xs := by
      have e : xs.getD i 0 = xs[i]'(by rw [← HL.out]; exact hi) := by simp [List.getD, show i < xs.length by rw [← HL.out]; exact hi]
      rw [e]; exact List.getElem_mem _
    exact Nat.lt_of_le_of_lt (Fp.tot_mem xs _ hm) hs
  clear h hw hs
  have bz : Below w.heap.size w ((w.alloc (.cells #[.bool false, .slice none 0 0, .int .i64 0] 32)).alloc (.cells #[.bool false, .slice none 0 0, .int .i64 0] 32)) := nbelow_trans (below_one _ _) (below_one _ _)
  have H0 : Hid (AtDy ((w.alloc (.cells #[.bool false, .slice none 0 0, .int .i64 0] 32)).alloc (.cells #[.bool false, .slice none 0 0, .int .i64 0] 32)) w.heap.size (false, 0, 0) none 0 0 ∧ AtDy ((w.alloc (.cells #[.bool false, .slice none 0 0, .int .i64 0] 32)).alloc (.cells #[.bool false, .slice none 0 0, .int .i64 0] 32)) (w.heap.size + 1) (dyU (Fp.sv (xs.take 0))) none 0 0 ∧ w.heap.size + 2 ≤ ((w.alloc (.cells #[.bool false, .slice none 0 0, .int .i64 0] 32)).alloc (.cells #[.bool false, .slice none 0 0, .int .i64 0] 32)).heap.size) := by
    rw [Hid, List.take_zero, show Fp.sv [] = 0 from rfl, dyU_zero]
    refine ⟨⟨by go_simp, by go_simp, by go_simp, by go_simp, by go_simp, by go_simp⟩, ⟨by go_simp, by go_simp, by go_simp, by go_simp, by go_simp, by go_simp⟩, by simp⟩
  go_enter Try.func10, Try.ntmps10
  go_wp2_with fail
  generalize ((w.alloc (.cells #[.bool false, .slice none 0 0, .int .i64 0] 32)).alloc (.cells #[.bool false, .slice none 0 0, .int .i64 0] 32)) = w0 at *
  have HB0 : Hid (Below w.heap.size w w0) := bz
  clear bz
  go_loopw [9] (fun vi wr => ∃ (k n c : Nat) (ad : Option Addr), k ≤ len ∧ vi = .int .i64 k ∧ Hid (AtDy wr w.heap.size (false, 0, 0) none 0 0) ∧ Hid (AtDy wr (w.heap.size + 1) (dyU (Fp.sv (xs.take k))) ad n c) ∧ Hid (n = (wordsOf (dyU (Fp.sv (xs.take k))).2.1).length) ∧ Hid (OwnW (w.heap.size + 2) wr ad n c (wordsOf (dyU (Fp.sv (xs.take k))).2.1)) ∧ Hid (w.heap.size + 2 ≤ wr.heap.size) ∧ Hid (Below w.heap.size w wr)) (fun vi _ => len - (intOf vi).toNat)
  case atStart => exact ⟨0, 0, 0, none, by omega, rfl, H0.out.1, H0.out.2.1, by rw [Hid, List.take_zero, show Fp.sv [] = 0 from rfl, dyU_zero, words_zero]; rfl, by rw [Hid, List.take_zero, show Fp.sv [] = 0 from rfl, dyU_zero, words_zero]; exact ownW_nil _ _, H0.out.2.2, HB0⟩
  case round =>
    clear H0 HB0
    obtain ⟨k, n, c, ad, hk, rfl, HR, HD, HN, HO, HZ, HB⟩ := hrel
    by_cases hlt : k < len
    · obtain ⟨bb, off, hae, hbl, hc⟩ := (HF.out.keep HB.out).2.2 k hlt
      obtain ⟨x, hx⟩ : ∃ x, x = xs.getD k 0 := ⟨_, rfl⟩
      have hx1 := HW.out k hlt
      have hx2 := HV.out k hlt
      have HST : Hid (Fp.sv (xs.take k) + EP.V x = Fp.sv (xs.take (k + 1))) := by rw [Hid, Fp.sv_take xs k (by rw [← HL.out]; exact hlt), hx]
      rw [← hx] at hc hx1 hx2
      have HX : Hid (x < 18446744073709551616 ∧ EP.finB x = true ∧ (EP.V x).natAbs < 2 ^ K) := ⟨hx1.1, hx1.2, hx2⟩
      have hSk : Hid ((Fp.sv (xs.take k)).natAbs < 2 ^ K) := HS.out k
      obtain ⟨Sk, hS⟩ : ∃ Sk, Sk = Fp.sv (xs.take k) := ⟨_, rfl⟩
      rw [← hS] at HD HN HO HST hSk
      obtain ⟨k0, k1, k2, f0, f1, f2⟩ := HD.out
      subst hae
      clear hx hx1 hx2 hS
      have NC : Hid (∀ W, _) := fun W => unumber_calls x W HX.out.1 HX.out.2.1
      have PC : Hid (∀ (a1 : Option Addr) (n1 c1 : Nat) (W : World), Below wr.heap.size wr W → IsW W a1 n1 c1 (wordsOf (dyU (EP.V x)).2.1) → _) := fun a1 n1 c1 W hW q => uplus_calls Sk (EP.V x) K hSk.out HX.out.2.2 hK ad a1 n c n1 c1 W (HO.out.1.keep hW) q
      rw [HST.out] at PC
      clear HST hSk HX HN
      go_wp2_with fail
      go_region_with (first
        | (go_at_call 13; refine (NC.out _).mono ?_; rintro r w2 ⟨v2, rfl, ⟨a2, n2, c2, rfl, HN2, hO2⟩, b2⟩; have k0' : w2.cell? ⟨w.heap.size + 1, 0, none⟩ = some (.bool (dyU Sk).1) := dcarry_cell b2 (by go_simp); have k1' : w2.cell? ⟨w.heap.size + 1, 1, none⟩ = some (.slice ad n c) := dcarry_cell b2 (by go_simp); have k2' : w2.cell? ⟨w.heap.size + 1, 2, none⟩ = some (.int .i64 (dyU Sk).2.2) := dcarry_cell b2 (by go_simp); have bX : Below wr.heap.size wr w2 := nbelow_trans (by repeat (first | exact Below.refl _ _ | refine Below.drew ?_)) b2; have I2 := hO2.1; clear b2 HN2 hO2)
        | (go_at_call 12; refine (PC.out _ _ _ _ (nbelow_trans bX (by repeat (first | exact Below.refl _ _ | refine Below.drew ?_))) (I2.keep (by repeat (first | exact Below.refl _ _ | refine Below.drew ?_)))).mono ?_; rintro r w3 ⟨v3, rfl, ⟨a3, n3, c3, rfl, HN3, hO3⟩, b3⟩; have bY : Below wr.heap.size wr w3 := nbelow_trans (nbelow_trans bX (by repeat (first | exact Below.refl _ _ | refine Below.drew ?_))) b3; have m0 : w3.cell? ⟨w.heap.size + 1, 0, none⟩ = some (.bool (dyU Sk).1) := dcarry_cell bY k0; have m1 : w3.cell? ⟨w.heap.size + 1, 1, none⟩ = some (.slice ad n c) := dcarry_cell bY k1; have m2 : w3.cell? ⟨w.heap.size + 1, 2, none⟩ = some (.int .i64 (dyU Sk).2.2) := dcarry_cell bY k2; have g0 : w3.frozen? ⟨w.heap.size + 1, 0, none⟩ = false := dcarry_frozen bY k0 f0; have g1 : w3.frozen? ⟨w.heap.size + 1, 1, none⟩ = false := dcarry_frozen bY k1 f1; have g2 : w3.frozen? ⟨w.heap.size + 1, 2, none⟩ = false := dcarry_frozen bY k2 f2))
      all_goals
        have hz2 : w.heap.size + 2 ≤ w2.heap.size := Nat.le_trans HZ.out bX.size
        have hz3 : w.heap.size + 2 ≤ w3.heap.size := Nat.le_trans HZ.out bY.size
        have HR' : Hid (AtDy (((w3.setCell ⟨w.heap.size + 1, 0, none⟩ (.bool (dyU (Fp.sv (xs.take (k + 1)))).1)).setCell ⟨w.heap.size + 1, 1, none⟩ (.slice a3 n3 c3)).setCell ⟨w.heap.size + 1, 2, none⟩ (.int .i64 (dyU (Fp.sv (xs.take (k + 1)))).2.2)) w.heap.size (false, 0, 0) none 0 0) := AtDy.other (AtDy.keep HR.out bY) (by omega) _ _ _
        have HD' : Hid (AtDy (((w3.setCell ⟨w.heap.size + 1, 0, none⟩ (.bool (dyU (Fp.sv (xs.take (k + 1)))).1)).setCell ⟨w.heap.size + 1, 1, none⟩ (.slice a3 n3 c3)).setCell ⟨w.heap.size + 1, 2, none⟩ (.int .i64 (dyU (Fp.sv (xs.take (k + 1)))).2.2)) (w.heap.size + 1) (dyU (Fp.sv (xs.take (k + 1)))) a3 n3 c3) := AtDy.set (AtDy.keep HD.out bY) _ _ _ _
        have HO' : Hid (OwnW (w.heap.size + 2) (((w3.setCell ⟨w.heap.size + 1, 0, none⟩ (.bool (dyU (Fp.sv (xs.take (k + 1)))).1)).setCell ⟨w.heap.size + 1, 1, none⟩ (.slice a3 n3 c3)).setCell ⟨w.heap.size + 1, 2, none⟩ (.int .i64 (dyU (Fp.sv (xs.take (k + 1)))).2.2)) a3 n3 c3 (wordsOf (dyU (Fp.sv (xs.take (k + 1)))).2.1)) := (((hO3.low hz2).far _ _ (by show w.heap.size + 1 < _; omega)).far _ _ (by show w.heap.size + 1 < _; omega)).far _ _ (by show w.heap.size + 1 < _; omega)
        have HZ' : Hid (w.heap.size + 2 ≤ (((w3.setCell ⟨w.heap.size + 1, 0, none⟩ (.bool (dyU (Fp.sv (xs.take (k + 1)))).1)).setCell ⟨w.heap.size + 1, 1, none⟩ (.slice a3 n3 c3)).setCell ⟨w.heap.size + 1, 2, none⟩ (.int .i64 (dyU (Fp.sv (xs.take (k + 1)))).2.2)).heap.size) := by rw [Hid, World.size_setCell, World.size_setCell, World.size_setCell]; exact hz3
        have HB' : Hid (Below w.heap.size w (((w3.setCell ⟨w.heap.size + 1, 0, none⟩ (.bool (dyU (Fp.sv (xs.take (k + 1)))).1)).setCell ⟨w.heap.size + 1, 1, none⟩ (.slice a3 n3 c3)).setCell ⟨w.heap.size + 1, 2, none⟩ (.int .i64 (dyU (Fp.sv (xs.take (k + 1)))).2.2))) := (((nbelow_trans HB.out bY).setCell (by show w.heap.size ≤ w.heap.size + 1; omega) _).setCell (by show w.heap.size ≤ w.heap.size + 1; omega) _).setCell (by show w.heap.size ≤ w.heap.size + 1; omega) _
        clear k0 k1 k2 f0 f1 f2 k0' k1' k2' m0 m1 m2 g0 g1 g2 bX bY b3 I2 hO3 NC PC HD HO HR HB HZ hz2 hz3
        generalize (((w3.setCell ⟨w.heap.size + 1, 0, none⟩ (.bool (dyU (Fp.sv (xs.take (k + 1)))).1)).setCell ⟨w.heap.size + 1, 1, none⟩ (.slice a3 n3 c3)).setCell ⟨w.heap.size + 1, 2, none⟩ (.int .i64 (dyU (Fp.sv (xs.take (k + 1)))).2.2)) = w9 at *
        go_wp2_with fail
        exact ⟨⟨k + 1, n3, c3, a3, by omega, by go_num, HR', HD', HN3, HO', HZ', HB'⟩, by simp [intOf]; omega⟩
    · have hke : k = len := by omega
      have e1 : xs.take k = xs := List.take_of_length_le (by rw [hke, HL.out]; exact Nat.le_refl _)
      rw [e1] at HD HN HO
      obtain ⟨k0, k1, k2, f0, f1, f2⟩ := HD.out
      obtain ⟨z0, z1, z2, y0, y1, y2⟩ := HR.out
      have HO2 : Hid (OwnW (w.heap.size + 1) wr ad n c (wordsOf (dyU (Fp.sv xs)).2.1)) := HO.out.low (by omega)
      clear HD HR e1 hke
      go_wp2_with fail
      refine bodyPost_ret (v := dyV (dyU (Fp.sv xs)).1 ad n c (dyU (Fp.sv xs)).2.2) (by simp [results, Try.results10, go_sem, z0, z1, z2]) rfl ⟨_, rfl, ⟨ad, n, c, rfl, HN, (((OwnW.far HO2.out _ _ (by show w.heap.size < _; omega)).far _ _ (by show w.heap.size < _; omega)).far _ _ (by show w.heap.size < _; omega)).low (by omega)⟩, ?_⟩
      exact ((Below.setCell HB.out (by simp) _).setCell (by simp) _).setCell (by simp) _
end Go.Proofs.Ytccbpbgiiajdkaa

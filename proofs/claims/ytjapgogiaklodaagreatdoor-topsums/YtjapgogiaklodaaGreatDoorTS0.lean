/- The first question of the statements through the layers; a float as a dyadic number; the program's difference of two numbers in least units; what a pair is worth. -/
import Derived.Test.YtjapgogiaklodaaGreatDoorEVB
import Derived.Test.YtjapgogiaklodaaGreatDoorEUb
import Derived.Test.YtjapgogiaklodaaGreatDoorDF1T
import Derived.Test.YtjapgogiaklodaaGreatDoorDTm1
import Derived.Test.YtjapgogiaklodaaGreatDoorTMB
import Derived.Test.YtjapgogiaklodaaGreatDoorGFB
namespace Go.Proofs.YtjapgogiaklodaaGreatDoor
open Go.RowKit

def invInexS : ByteArray := ⟨#[105, 110, 118, 97, 108, 105, 100, 32, 105, 110, 101, 120, 97, 99, 116]⟩

set_option maxRecDepth 100000 in
set_option maxHeartbeats 1000000 in
theorem topBeginsS_calls (w : World) (hN : Fl.Names w) :
    Calls Tryz.prog 4 #[] w fun e w' => e = .returned (.bool true) ∧ Below w.heap.size w w' := by
  have k1 : (upV 9223372036854775808 == 1) = true := by decide +kernel
  have k2 : (classV 9218868437227405312 == 4) = true := by decide +kernel
  have k6 : (Fl.parseE invInexS == 0) = true := by decide +kernel
  have k7 : (Fl.parseV invInexS == 17) = true := by decide +kernel
  have u1 : U 9223372036854775808 := by unfold U; omega
  have u2 : U 9218868437227405312 := by unfold U; omega
  go_enter Tryz.func4, Tryz.ntmps4
  go_wp2_with fail
  refine (Fl.fParse_calls invInexS _ hN).mono ?_
  rintro e w1 ⟨rfl, hb⟩
  go_wp2_with fail
  refine (up_calls _ _ u1).mono ?_
  rintro e w1 ⟨rfl, rfl⟩
  go_wp2_with fail
  refine (class_calls _ _ u2).mono ?_
  rintro e w2 ⟨rfl, hb2⟩
  replace hb := nbelow_trans hb hb2
  clear hb2
  go_wp2_with fail
  go_ret
  exact ⟨rfl, hb⟩

set_option maxRecDepth 100000 in
set_option maxHeartbeats 2000000 in
theorem float_calls (x : Nat) (w : World) (hx : x < 18446744073709551616) :
    Calls Tryz.prog 10 #[.float .f64 x] w fun r w' => ∃ v', r = .returned v' ∧ DyQ w.heap.size w' v' (fromP (x : Int)) ∧ Below w.heap.size w w' := by
  have HF : Hid _ := fun w => qfrom_calls (x : Int) w (U_nat hx)
  have r1 := fun w => Fp.abits_run x w
  clear hx
  have bw : Below w.heap.size w (w.alloc (.cells #[.bool false, .slice none 0 0, .int .i64 0] 34)) := below_one _ _
  have z0 : (w.alloc (.cells #[.bool false, .slice none 0 0, .int .i64 0] 34)).cell? ⟨w.heap.size, 0, none⟩ = some (.bool false) := by go_simp
  have z1 : (w.alloc (.cells #[.bool false, .slice none 0 0, .int .i64 0] 34)).cell? ⟨w.heap.size, 1, none⟩ = some (.slice none 0 0) := by go_simp
  have z2 : (w.alloc (.cells #[.bool false, .slice none 0 0, .int .i64 0] 34)).cell? ⟨w.heap.size, 2, none⟩ = some (.int .i64 0) := by go_simp
  have f0 : (w.alloc (.cells #[.bool false, .slice none 0 0, .int .i64 0] 34)).frozen? ⟨w.heap.size, 0, none⟩ = false := by go_simp
  have f1 : (w.alloc (.cells #[.bool false, .slice none 0 0, .int .i64 0] 34)).frozen? ⟨w.heap.size, 1, none⟩ = false := by go_simp
  have f2 : (w.alloc (.cells #[.bool false, .slice none 0 0, .int .i64 0] 34)).frozen? ⟨w.heap.size, 2, none⟩ = false := by go_simp
  have hs : Hid (w.heap.size + 1 ≤ (w.alloc (.cells #[.bool false, .slice none 0 0, .int .i64 0] 34)).heap.size) := by show w.heap.size + 1 ≤ _; simp
  go_enter Tryz.func10, Tryz.ntmps10
  go_wp2_with fail
  generalize (w.alloc (.cells #[.bool false, .slice none 0 0, .int .i64 0] 34)) = w0 at *
  refine Calls.mono (HF.out _) ?_
  rintro r w2 ⟨_, rfl, ⟨ah, nah, cah, rfl, HN, hO⟩, bN⟩
  replace f0 := dcarry_frozen bN z0 f0
  replace f1 := dcarry_frozen bN z1 f1
  replace f2 := dcarry_frozen bN z2 f2
  replace z0 := dcarry_cell bN z0
  replace z1 := dcarry_cell bN z1
  replace z2 := dcarry_cell bN z2
  replace bw := nbelow_trans bw bN
  replace hO := hO.low hs.out
  replace hs := le_hid hs bN.size
  clear bN
  have bA := below_one w2 (.cells #[.bool (fromP (x : Int)).1, .slice ah nah cah, .int .i64 (fromP (x : Int)).2.2] 34)
  replace f0 := dcarry_frozen bA z0 f0
  replace f1 := dcarry_frozen bA z1 f1
  replace f2 := dcarry_frozen bA z2 f2
  replace z0 := dcarry_cell bA z0
  replace z1 := dcarry_cell bA z1
  replace z2 := dcarry_cell bA z2
  replace bw := nbelow_trans bw bA
  replace hs := le_hid hs bA.size
  replace hO := hO.keep bA
  have h0 : (w2.alloc (.cells #[.bool (fromP (x : Int)).1, .slice ah nah cah, .int .i64 (fromP (x : Int)).2.2] 34)).cell? ⟨w2.heap.size, 0, none⟩ = some (.bool (fromP (x : Int)).1) := by go_simp
  have h1 : (w2.alloc (.cells #[.bool (fromP (x : Int)).1, .slice ah nah cah, .int .i64 (fromP (x : Int)).2.2] 34)).cell? ⟨w2.heap.size, 1, none⟩ = some (.slice ah nah cah) := by go_simp
  have h2 : (w2.alloc (.cells #[.bool (fromP (x : Int)).1, .slice ah nah cah, .int .i64 (fromP (x : Int)).2.2] 34)).cell? ⟨w2.heap.size, 2, none⟩ = some (.int .i64 (fromP (x : Int)).2.2) := by go_simp
  clear bA
  go_wp2_with fail
  generalize (w2.alloc (.cells #[.bool (fromP (x : Int)).1, .slice ah nah cah, .int .i64 (fromP (x : Int)).2.2] 34)) = w3 at *
  refine bodyPost_ret (v := dyV (fromP (x : Int)).1 ah nah cah (fromP (x : Int)).2.2) (by simp [results, Tryz.results10, go_sem, z0, z1, z2]) rfl ⟨_, rfl, ⟨ah, nah, cah, rfl, HN, (((hO.far _ _ (by show w.heap.size < _; omega)).far _ _ (by show w.heap.size < _; omega)).far _ _ (by show w.heap.size < _; omega)).low (by omega)⟩, ?_⟩
  repeat (first | exact bw | refine Below.setCell ?_ (by simp) _)

theorem ufloat_calls (x : Nat) (w : World) (hx : x < 18446744073709551616) (fx : EP.finB x = true) :
    Calls Tryz.prog 10 #[.float .f64 x] w fun r w' => ∃ v', r = .returned v' ∧ DyQ w.heap.size w' v' (dyU (EP.V x)) ∧ Below w.heap.size w w' := by
  have := float_calls x w hx
  rw [dyU_from x hx fx] at this
  exact this
theorem dyU_room (v : Int) (K : Nat) (h : v.natAbs < 2 ^ K) (hK : K ≤ 30000) : rightB (dyU v).2.1 (dyU v).2.2 = true ∧ roomE (dyU v) = 0 ∧ roomP (dyU v) = dyU v := by
  obtain ⟨s1, s2, s3⟩ := dyU_sz v K h
  have hg : greatB (dyU v).2.1 = false := (great_not _).2 (by omega)
  have hi : inB (dyU v).2.2 = true := by unfold inB; simp; omega
  exact ⟨by unfold rightB; rw [hg, hi]; rfl, room_yes hg hi⟩
theorem usub_calls (u v : Int) (K : Nat) (hu : u.natAbs < 2 ^ K) (hv : v.natAbs < 2 ^ K) (hd : (u - v).natAbs < 2 ^ K) (hK : K ≤ 30000) (a b : Option Addr) (n c m d : Nat) (W : World) (p : IsW W a n c (wordsOf (dyU u).2.1)) (q : IsW W b m d (wordsOf (dyU v).2.1)) (hT : Tab W) :
    Calls Tryz.prog 11 #[dyV (dyU u).1 a n c (dyU u).2.2, dyV (dyU v).1 b m d (dyU v).2.2] W fun r w' => ∃ v', r = .returned (.tuple #[v', .int .i64 0]) ∧ DyAt W.heap.size w' v' (dyU (u - v)) ∧ Below W.heap.size W w' := by
  obtain ⟨s1, s2, s3⟩ := dyU_sz u K hu
  obtain ⟨t1, t2, t3⟩ := dyU_sz v K hv
  have n1 : n ≤ 1024 := by rw [p.1]; exact (words_len2 _ _).2 (by omega)
  have n2 : m ≤ 1024 := by rw [q.1]; exact (words_len2 _ _).2 (by omega)
  have := dsub_yes (dyU u).1 a n c (wordsOf (dyU u).2.1) (dyU u).2.2 (dyU v).1 b m d (wordsOf (dyU v).2.1) (dyU v).2.2 W p (by omega) q (by omega) hT (by rw [val_words]; exact (dyU_room u K hu hK).1) (by rw [val_words]; exact (dyU_room v K hv hK).1)
  rw [val_words, val_words, form_of_can (dyU_can u), form_of_can (dyU_can v), ← neg_can (dyU_can v), dyU_neg, dyU_sum, ← Int.sub_eq_add_neg, (dyU_room _ K hd hK).2.1, (dyU_room _ K hd hK).2.2] at this
  exact this
theorem dvalue_any (h l : Nat) (w : World) (hh : h < 18446744073709551616) (hl : l < 18446744073709551616) (fh : EP.finB h = true) (fl : EP.finB l = true) (hT : Tab w) :
    Calls Tryz.prog 7 #[.agg #[.float .f64 h, .float .f64 l]] w fun r w' => ∃ (g : Bool × Nat × Int) (c : Int) (ao : Option Addr) (n k : Nat), r = .returned (.tuple #[dyV g.1 ao n k g.2.2, .int .i64 c]) ∧ IsW w' ao n k (wordsOf g.2.1) ∧ (c = 0 → g = dyU (EP.V h + EP.V l)) ∧ Below w.heap.size w w' := by
  cases hr : Fp.rightP h l with
  | false =>
    refine (dvalue_bad h l w hh hr).mono ?_
    rintro r w' ⟨rfl, hb⟩
    exact ⟨(false, 0, 0), 2, none, 0, 0, rfl, by rw [words_zero]; exact isW_nil _, fun e => absurd e (by decide), hb⟩
  | true =>
    refine (dvalue_good h l w hh hl hr hT).mono ?_
    rintro r w' ⟨_, rfl, ⟨ao, n, k, rfl, HN, hn, hO⟩, hb⟩
    rw [dyU_from h hh fh, dyU_from l hl fl, dyU_sum] at hO
    rw [dyU_from h hh fh, dyU_from l hl fl, dyU_sum]
    exact ⟨_, 0, ao, n, k, rfl, hO.1, fun _ => rfl, hb⟩
/-- Twice of the document, in least units and below. -/
def lowU (M : Int) (k : Nat) : Bool × Nat × Int := formD (dyU M).1 (dyU M).2.1 ((dyU M).2.2 + -(k : Int))
theorem lowU_sz (M : Int) (k K : Nat) (hM : M.natAbs < 2 ^ K) (hk : k ≤ 1000) (hK : K ≤ 60000) : blen (lowU M k).2.1 ≤ K ∧ -5000 ≤ (lowU M k).2.2 ∧ (lowU M k).2.2 ≤ 200000 := by
  obtain ⟨t1, t2, t3⟩ := dyU_sz M K hM
  unfold lowU
  refine ⟨Nat.le_trans (blen_mono (form_amount_le _ _ _)) t1, ?_⟩
  by_cases h0 : (dyU M).2.1 = 0
  · rw [h0, form_zero]; exact ⟨by decide, by decide⟩
  · rw [form_pos _ h0]
    have := tz_le_blen (dyU M).2.1
    refine ⟨?_, ?_⟩
    · show _ ≤ (dyU M).2.2 + -(k : Int) + (tz (dyU M).2.1 : Int); omega
    · show (dyU M).2.2 + -(k : Int) + (tz (dyU M).2.1 : Int) ≤ _; omega
theorem utwice_calls (M : Int) (k K : Nat) (i : Int) (hi : i = -(k : Int)) (hk : k ≤ 1000) (hM : M.natAbs < 2 ^ K) (hK : K ≤ 60000) (b : Option Addr) (m d : Nat) (W : World) (q : IsW W b m d (wordsOf (dyU M).2.1)) :
    Calls Tryz.prog 12 #[dyV (dyU M).1 b m d (dyU M).2.2, .int .i64 i] W fun r w' => ∃ v', r = .returned v' ∧ DyQ W.heap.size w' v' (lowU M k) ∧ Below W.heap.size W w' := by
  obtain ⟨t1, t2, t3⟩ := dyU_sz M K hM
  have n2 : m ≤ 1024 := by rw [q.1]; exact (words_len2 _ _).2 (by omega)
  have := qTwice_calls (dyU M).1 b m d (wordsOf (dyU M).2.1) (dyU M).2.2 i W q (by omega) (by omega)
  rw [val_words, hi] at this
  rw [hi]
  exact this
/-- The order of an amount and a bound. -/
theorem uorder_calls (D M : Int) (k K : Nat) (hk : k ≤ 1000) (hD : D.natAbs < 2 ^ K) (hM : M.natAbs < 2 ^ K) (h0 : 0 ≤ M) (hK : K ≤ 60000) (a b : Option Addr) (n c m d : Nat) (W : World) (p : IsW W a n c (wordsOf (dyU D).2.1)) (q : IsW W b m d (wordsOf (lowU M k).2.1)) (hle : D.natAbs * 2 ^ k ≤ M.natAbs) :
    Calls Tryz.prog 15 #[dyV false a n c (dyU D).2.2, dyV (lowU M k).1 b m d (lowU M k).2.2] W fun r w' => ∃ C : Int, r = .returned (.int .i64 C) ∧ C ≤ 0 ∧ Below W.heap.size W w' := by
  obtain ⟨s1, s2, s3⟩ := dyU_sz D K hD
  obtain ⟨t1, t2, t3⟩ := lowU_sz M k K hM hk hK
  have n1 : n ≤ 1024 := by rw [p.1]; exact (words_len2 _ _).2 (by omega)
  have n2 : m ≤ 1024 := by rw [q.1]; exact (words_len2 _ _).2 (by omega)
  have hC := within_le D M k hle
  have hf : (lowU M k).1 = false := by
    have e : (dyU M).1 = false := by
      unfold dyU
      rw [decide_eq_false (by omega)]
      by_cases z : M.natAbs = 0
      · rw [z, form_zero]
      · rw [form_pos _ z]
    unfold lowU
    rw [e]
    by_cases z : (dyU M).2.1 = 0
    · rw [z, form_zero]
    · rw [form_pos _ z]
  have hcan : formD false (lowU M k).2.1 (lowU M k).2.2 = formD (lowU M k).1 (lowU M k).2.1 (lowU M k).2.2 := by rw [hf]
  have := qOrder_calls false a n c (wordsOf (dyU D).2.1) (dyU D).2.2 (lowU M k).1 b m d (wordsOf (lowU M k).2.1) (lowU M k).2.2 W p (by omega) q (by omega) (by omega) (by omega) (by rw [val_words]; omega) (by rw [val_words]; omega)
  rw [val_words, val_words, ← hcan] at this
  exact this.mono fun r w' ⟨h1, h2⟩ => ⟨_, h1, hC, h2⟩

namespace Fp
theorem isF_at {w : World} {a : Option Addr} {len cap : Nat} {xs : List Nat} (h : IsF w a len cap xs) (p : Addr) (u : Value) (hp : ∀ b off i, a = some ⟨b, off, none⟩ → i < len → p.block ≠ b) : IsF (w.setCell p u) a len cap xs := by
  refine ⟨h.1, h.2.1, fun i hi => ?_⟩
  obtain ⟨b, off, e1, e2, e3⟩ := h.2.2 i hi
  refine ⟨b, off, e1, by rw [World.size_setCell]; exact e2, ?_⟩
  exact (World.cell?_setCell_other (w := w) (a := p) (b := ⟨b, off + i, none⟩) (v := u) (fun e => hp b off i e1 hi (by rw [e]))).trans e3
theorem OwF.from {B cv : Nat} {w : World} {a : Option Addr} {L : List Nat} (h : OwF B w a cv L) : ∀ b off i, a = some ⟨b, off, none⟩ → i < L.length → B ≤ b := by
  intro b off i e hi
  rcases h.2 with ⟨_, h0⟩ | ⟨g, cap, cur, hv, hg, _⟩
  · omega
  · simp only [Value.slice.injEq] at hv
    rw [hv.1] at e
    cases e
    exact hg
/-- What is known of a moderate list of at most 64 floats that Sum takes. -/
theorem grow_all {xs : List Nat} (h : checkE xs [] = 0) (hl : xs.length ≤ 64) (hw : smallFs xs) (K : Nat) (hK : 1600 ≤ K) : ∃ R, growB [] xs = some R ∧ (∀ i, i < R.length → R.getD i 0 < 18446744073709551616 ∧ EP.finB (R.getD i 0) = true) ∧ R.length ≤ 64 ∧ tot R < 2 ^ K ∧ sv R = sv xs := by
  obtain ⟨-, ha⟩ := check_fin h
  obtain ⟨m, hm⟩ : ∃ m, m = 1374 := ⟨_, rfl⟩
  rw [← hm] at ha
  obtain ⟨R, r1, r2, r3, r4, r5, -, r7⟩ := growB_ex xs [] m okL_nil (by simp [tot]) ha (by omega) (by simp; omega)
  refine ⟨R, r1, fun i hi => ⟨?_, (r2 _ (getD_memV R i hi)).1⟩, by simp at r4; omega, Nat.lt_of_le_of_lt r3 (Nat.pow_lt_pow_right (by decide) (by omega)), by rw [r5]; simp only [sv]; omega⟩
  refine r7 (fun y hy => ?_) okW_nil _ (getD_memV R i hi)
  obtain ⟨j, hj, e⟩ := List.getElem_of_mem hy
  have := hw j
  rw [show xs.getD j 0 = y by simp [List.getD, hj, e]] at this
  exact this
end Fp
end Go.Proofs.YtjapgogiaklodaaGreatDoor

/- What the document reckons of roots comes to the program's answers (pure). The document's roots: the shift, the root, its mark, rounded. The document's root of a number, rounded. -/
import Derived.Test.YtfgemlgmhlidmaaGreatDoorAMX
import Derived.Test.YtfgemlgmhlidmaaGreatDoorRNY
import Derived.Test.YtfgemlgmhlidmaaGreatDoorNRY
import Derived.Test.YtfgemlgmhlidmaaGreatDoorTMH
import Derived.Deep.RegionHeld3
import Derived.Test.YtfgemlgmhlidmaaGreatDoorFX
import Derived.Test.YtfgemlgmhlidmaaGreatDoorAL1

namespace Go.Proofs.YtfgemlgmhlidmaaGreatDoor
open Go.RowKit
def evB (k m : Nat) : Nat := 70 * k - blen m
def evN (k m : Nat) (e : Int) : Nat := evB k m + ((e - (evB k m : Int)) % (k : Int)).toNat
def evE (k m : Nat) (e : Int) : Int := (e - (evN k m e : Int)) / (k : Int)
theorem ev_mul (k m : Nat) (e : Int) (hk : k = 2 ∨ k = 3) : (k : Int) * evE k m e = e - (evN k m e : Int) ∧ (evN k m e : Int) < 70 * k + k + 1 ∧ 70 * (k : Int) - blen m ≤ evN k m e := by
  unfold evE evN
  rcases hk with q | q <;> subst q <;> (unfold evB; omega)
def drM (k m : Nat) (e : Int) : Nat := skA (rt k (m * 2 ^ evN k m e)) (decide (m * 2 ^ evN k m e - rt k (m * 2 ^ evN k m e) ^ k ≠ 0))
theorem dr_at (k m : Nat) (e : Int) (hk : k = 2 ∨ k = 3) : atM k m e (evE k m e) = drM k m e := by
  have h := (ev_mul k m e hk).1
  have hi : e - k * evE k m e = (evN k m e : Int) := by omega
  have hA : agA m (e - k * evE k m e) = m * 2 ^ evN k m e := by
    unfold agA agP agQ
    rw [hi, Int.toNat_natCast, show (-(evN k m e : Int)).toNat = 0 by omega, Nat.pow_zero, Nat.div_one]
  have hL : agL m (e - k * evE k m e) = false := by
    unfold agL agQ
    rw [hi, show (-(evN k m e : Int)).toNat = 0 by omega, Nat.pow_zero, Nat.mod_one]
    rfl
  unfold atM drM ansK
  rw [hA, hL, Bool.false_or]
theorem form_ans (s : Bool) (M : Nat) (E : Int) (h0 : M ≠ 0) (hE : -32000 ≤ E) (A : Nat) (F : Int) (hr : rightB A F = true) (z : A ≠ 0) (a : nearW A F = nearW M E) (b : exactB A F = exactB M E) (c : tinyP A F = tinyP M E) :
    nearB (formD s M E).1 (formD s M E).2.1 (formD s M E).2.2 = nbR s A F ∧ flD (formD s M E).2.1 (formD s M E).2.2 = flR s A F := by
  obtain ⟨K, hK⟩ : ∃ K : Nat, K = 32768 := ⟨_, rfl⟩
  have hlo := form_lo s M E (-32768) (by omega) (by decide)
  have hv := form_val s M E K h0 (by omega)
  obtain ⟨n1, n2, n3⟩ := near_same (formD s M E).2.1 (formD s M E).2.2 M E K (by omega) hlo (by omega) hv
  have ht : tinyP (formD s M E).2.1 (formD s M E).2.2 = tinyP M E := by
    rw [tiny_num _ _ K (by omega) hlo, tiny_num _ _ K (by omega) (by omega), hv]
  have hs : (formD s M E).1 = s := by rw [form_pos _ h0]
  have hm0 : (formD s M E).2.1 ≠ 0 := fun q => h0 (n3.1 q)
  have hb : nearB s (formD s M E).2.1 (formD s M E).2.2 = nearB s A F := by
    unfold nearB
    rw [n1, a, decide_eq_true hm0, decide_eq_true z]
  refine ⟨?_, ?_⟩
  · rw [hs, hb]; unfold nbR; rw [if_pos hr]
  · rw [fl_same s _ _ hlo]
    unfold flR
    rw [if_pos hr, n2, ht, b, c, hb]
theorem dr_all (s : Bool) (k m : Nat) (e : Int) (hk : k = 2 ∨ k = 3) (h0 : m ≠ 0) (ht : -5000 ≤ tpI m e ∧ tpI m e ≤ 5000) (he : -5000 ≤ e ∧ e ≤ 5000) :
    nearB (formD s (drM k m e) (evE k m e - 1)).1 (formD s (drM k m e) (evE k m e - 1)).2.1 (formD s (drM k m e) (evE k m e - 1)).2.2 = nbR s (ansM k m e) (ansE k m e) ∧ flD (formD s (drM k m e) (evE k m e - 1)).2.1 (formD s (drM k m e) (evE k m e - 1)).2.2 = flR s (ansM k m e) (ansE k m e) := by
  obtain ⟨v1, v2, v3⟩ := ev_mul k m e hk
  have n1 := agN_bd k (tpI m e) (by omega)
  have k1 := agX_mul k (tpI m e)
  have hE : evE k m e ≤ agX k (tpI m e) ∧ -6000 ≤ evE k m e := by
    unfold tpI at *
    rcases hk with q | q <;> subst q <;> omega
  obtain ⟨a1, a2, a3, a4⟩ := ans_at k m e (evE k m e) hk h0 hE.1 (by omega)
  rw [dr_at k m e hk] at a1 a2 a3 a4
  obtain ⟨r1, r2, _⟩ := ans_right k m e hk h0 ht
  exact form_ans s _ _ a4 (by omega) _ _ r1 r2 a1 a2 a3
theorem long_same (m : Nat) (e : Int) (c : Nat) (ho : m % 2 = 1) (hc : blen m = c + 300) (hc0 : 100 ≤ c) (ht : -5000 ≤ tpI m e ∧ tpI m e ≤ 5000) :
    tpI (2 * (m / 2 ^ c) + 1) (e + c - 1) = tpI m e ∧ nearW (ansM 2 (2 * (m / 2 ^ c) + 1) (e + c - 1)) (ansE 2 (2 * (m / 2 ^ c) + 1) (e + c - 1)) = nearW (ansM 2 m e) (ansE 2 m e) ∧ exactB (ansM 2 (2 * (m / 2 ^ c) + 1) (e + c - 1)) (ansE 2 (2 * (m / 2 ^ c) + 1) (e + c - 1)) = exactB (ansM 2 m e) (ansE 2 m e) ∧ tinyP (ansM 2 (2 * (m / 2 ^ c) + 1) (e + c - 1)) (ansE 2 (2 * (m / 2 ^ c) + 1) (e + c - 1)) = tinyP (ansM 2 m e) (ansE 2 m e) := by
  have h0 : m ≠ 0 := by omega
  have hh : m / 2 ^ c ≠ 0 := by
    have g := blen_ge m h0
    have : 2 ^ c ≤ m := Nat.le_trans (Nat.pow_le_pow_right (by decide) (by omega)) g
    have := Nat.div_pos this (Nat.two_pow_pos c)
    omega
  have hb := blen_cell m c hh
  have hb2 := blen_shift 1 1 (m / 2 ^ c) (by decide) hh
  rw [show 1 + 2 ^ 1 * (m / 2 ^ c) = 2 * (m / 2 ^ c) + 1 by omega] at hb2
  have htp : tpI (2 * (m / 2 ^ c) + 1) (e + c - 1) = tpI m e := by unfold tpI; omega
  refine ⟨htp, ?_⟩
  have hz : 2 * (m / 2 ^ c) + 1 ≠ 0 := by omega
  have n1 := agN_bd 2 (tpI m e) (by omega)
  have k1 := agX_mul 2 (tpI m e)
  have hx := agX_bd 2 _ (Or.inl rfl) ht
  obtain ⟨a1, a2, a3, _⟩ := ans_at 2 m e (agX 2 (tpI m e)) (Or.inl rfl) h0 (Int.le_refl _) (by omega)
  obtain ⟨b1, b2, b3, _⟩ := ans_at 2 (2 * (m / 2 ^ c) + 1) (e + c - 1) (agX 2 (tpI m e)) (Or.inl rfl) hz (by rw [htp]; exact Int.le_refl _) (by omega)
  have hM : atM 2 (2 * (m / 2 ^ c) + 1) (e + c - 1) (agX 2 (tpI m e)) = atM 2 m e (agX 2 (tpI m e)) := by
    obtain ⟨j, hj⟩ : ∃ j : Nat, e - ((2 : Nat) : Int) * agX 2 (tpI m e) = -((c + 1 + j : Nat) : Int) := ⟨(-(e - ((2 : Nat) : Int) * agX 2 (tpI m e)) - c - 1).toNat, by unfold tpI at *; omega⟩
    have hj2 : e + c - 1 - ((2 : Nat) : Int) * agX 2 (tpI m e) = -((j + 2 : Nat) : Int) := by omega
    have A1 : agA m (e - ((2 : Nat) : Int) * agX 2 (tpI m e)) = m / 2 ^ c / 2 ^ (1 + j) := by
      unfold agA agP agQ
      rw [hj, Int.neg_neg, Int.toNat_natCast, show (-((c + 1 + j : Nat) : Int)).toNat = 0 by omega, Nat.pow_zero, Nat.mul_one, Nat.div_div_eq_div_mul, ← Nat.pow_add, Nat.add_assoc]
    have A2 : agA (2 * (m / 2 ^ c) + 1) (e + c - 1 - ((2 : Nat) : Int) * agX 2 (tpI m e)) = m / 2 ^ c / 2 ^ (1 + j) := by
      unfold agA agP agQ
      rw [hj2, Int.neg_neg, Int.toNat_natCast, show (-((j + 2 : Nat) : Int)).toNat = 0 by omega, Nat.pow_zero, Nat.mul_one, show j + 2 = 1 + (1 + j) by omega, Nat.pow_add 2 1, Nat.pow_one, ← Nat.div_div_eq_div_mul, show (2 * (m / 2 ^ c) + 1) / 2 = m / 2 ^ c by omega]
    have odd_lost : ∀ (x i : Nat), x % 2 = 1 → x % 2 ^ (i + 1) ≠ 0 := fun x i h q => by
      have := Nat.mod_mod_of_dvd x (show 2 ∣ 2 ^ (i + 1) from ⟨2 ^ i, by rw [Nat.pow_succ, Nat.mul_comm]⟩)
      rw [q] at this
      omega
    have L1 : agL m (e - ((2 : Nat) : Int) * agX 2 (tpI m e)) = true := by
      unfold agL agP agQ
      rw [hj, Int.neg_neg, Int.toNat_natCast, show (-((c + 1 + j : Nat) : Int)).toNat = 0 by omega, Nat.pow_zero, Nat.mul_one, show c + 1 + j = (c + j) + 1 by omega]
      exact decide_eq_true (odd_lost m _ ho)
    have L2 : agL (2 * (m / 2 ^ c) + 1) (e + c - 1 - ((2 : Nat) : Int) * agX 2 (tpI m e)) = true := by
      unfold agL agP agQ
      rw [hj2, Int.neg_neg, Int.toNat_natCast, show (-((j + 2 : Nat) : Int)).toNat = 0 by omega, Nat.pow_zero, Nat.mul_one]
      exact decide_eq_true (odd_lost _ _ (by omega))
    unfold atM
    rw [A1, A2, L1, L2]
  rw [hM] at b1 b2 b3
  exact ⟨b1.trans a1.symm, b2.trans a2.symm, b3.trans a3.symm⟩
theorem aShl (a : Option Addr) (len cap m u : Nat) (w : World) (h : IsW w a len cap (wordsOf u)) (hl : len ≤ 1000000) (hm : m ≤ 1000000) :
  Calls Tryz.prog 50 #[.slice a len cap, .int .i64 (m : Int)] w fun e w' => ∃ (ao : Option Addr) (n cv : Nat), e = .returned (.slice ao n cv) ∧ Hid (n = (wordsOf (u * 2 ^ m)).length) ∧ OwnW w.heap.size w' ao n cv (wordsOf (u * 2 ^ m)) ∧ Below w.heap.size w w' := by
 refine Calls.mono (nShl_calls a len cap m (wordsOf u) w h (by omega) (by omega)) ?_
 rw [val_words]
 rintro e w' ⟨ao, cv, rfl, hO, hb⟩
 exact ⟨ao, _, cv, rfl, rfl, hO.ownW (words_U _) rfl, hb⟩
theorem aOf (w : World) :
  Calls Tryz.prog 51 #[.int .u64 1] w fun e w' => ∃ (ao : Option Addr) (n cv : Nat), e = .returned (.slice ao n cv) ∧ Hid (n = (wordsOf 1).length) ∧ OwnW w.heap.size w' ao n cv (wordsOf 1) ∧ Below w.heap.size w w' := by
 refine Calls.mono (nOf_calls 1 w (by decide) (by decide)) ?_
 rintro e w' ⟨ao, cv, rfl, hO, hb⟩
 exact ⟨ao, _, cv, rfl, rfl, hO.ownW (words_U _) rfl, hb⟩
theorem aAdd (a a' : Option Addr) (len cap len' cap' u v : Nat) (w : World) (h : IsW w a len cap (wordsOf u)) (h' : IsW w a' len' cap' (wordsOf v)) (hm : len ≤ 1000000) (hm' : len' ≤ 1000000) :
  Calls Tryz.prog 77 #[.slice a len cap, .slice a' len' cap'] w fun e w' => ∃ (ao : Option Addr) (n cv : Nat), e = .returned (.slice ao n cv) ∧ Hid (n = (wordsOf (u + v)).length) ∧ OwnW w.heap.size w' ao n cv (wordsOf (u + v)) ∧ Below w.heap.size w w' := by
 refine Calls.mono (nAdd_calls a a' len cap len' cap' _ _ w h h' (by omega) (by omega)) ?_
 rw [val_words, val_words]
 rintro e w' ⟨ao, cv, rfl, hO, hb⟩
 exact ⟨ao, _, cv, rfl, rfl, hO.ownW (words_U _) rfl, hb⟩
theorem len_bits {n u B : Nat} (h : n = (wordsOf u).length) (hb : blen u ≤ B) (hB : B ≤ 65536) : n ≤ 1024 := by rw [h]; exact (great_len _).1 ((great_not _).2 (by omega))
set_option maxRecDepth 100000 in
set_option maxHeartbeats 1000000 in
theorem roundD_calls (s : Bool) (a : Option Addr) (len cap : Nat) (xs : List Int) (e : Int) (w : World) (h : IsW w a len cap xs) (hm : len ≤ 17592186044000) (hg : greatB (val xs) = false) (he : -32768 ≤ e ∧ e ≤ 32768) :
  Calls Tryz.prog 53 #[dyV s a len cap e] w fun r w' => r = .returned (.agg #[.int .u64 (nearB s (val xs) e), .int .u8 (flD (val xs) e)]) ∧ Below w.heap.size w w' := by
 have bA : Below w.heap.size w ((w.alloc (.cells #[.bool s, .slice a len cap, .int .i64 e] 38)).alloc (.cells #[.int .u64 0, .int .u8 0] 25)) := nT (below_one _ _) (below_one _ _)
 have NC : Hid _ := dnear_calls s a len cap xs e _ (h.keep bA) hm hg he
 have z0 : ((w.alloc (.cells #[.bool s, .slice a len cap, .int .i64 e] 38)).alloc (.cells #[.int .u64 0, .int .u8 0] 25)).cell? ⟨w.heap.size + 1, 0, none⟩ = some (.int .u64 0) := by go_simp
 have z1 : ((w.alloc (.cells #[.bool s, .slice a len cap, .int .i64 e] 38)).alloc (.cells #[.int .u64 0, .int .u8 0] 25)).cell? ⟨w.heap.size + 1, 1, none⟩ = some (.int .u8 0) := by go_simp
 have f0 : ((w.alloc (.cells #[.bool s, .slice a len cap, .int .i64 e] 38)).alloc (.cells #[.int .u64 0, .int .u8 0] 25)).frozen? ⟨w.heap.size + 1, 0, none⟩ = false := by go_simp
 have f1 : ((w.alloc (.cells #[.bool s, .slice a len cap, .int .i64 e] 38)).alloc (.cells #[.int .u64 0, .int .u8 0] 25)).frozen? ⟨w.heap.size + 1, 1, none⟩ = false := by go_simp
 generalize nearB s (val xs) e = B at *
 generalize flD (val xs) e = F at *
 clear h hm hg he
 go_enter Tryz.func53, Tryz.ntmps53
 go_wp2_with fail
 generalize ((w.alloc (.cells #[.bool s, .slice a len cap, .int .i64 e] 38)).alloc (.cells #[.int .u64 0, .int .u8 0] 25)) = w0 at *
 refine Calls.mono NC.out ?_
 rintro r w1 ⟨rfl, b1⟩
 clear NC
 replace f0 := kF b1 z0 f0
 replace f1 := kF b1 z1 f1
 replace z0 := kC b1 z0
 replace z1 := kC b1 z1
 replace bA := nT bA b1
 clear b1
 go_wp2_with fail
 exact bodyPost_ret (v := .agg #[.int .u64 B, .int .u8 F]) (by simp [results, Tryz.results53, go_sem, z0, z1]) rfl ⟨rfl, by repeat (first | (with_reducible exact bA) | (with_reducible refine Below.setCell ?_ (by simp) _))⟩
set_option maxRecDepth 100000 in
set_option maxHeartbeats 1000000 in
theorem sticky_not (s : Bool) (a : Option Addr) (len cap r : Nat) (e : Int) (w : World) (h : IsW w a len cap (wordsOf r)) (hm : len ≤ 1024) (he1 : -100000 ≤ e) (he2 : e ≤ 100000) (hb : blen r ≤ 60000) :
  Calls Tryz.prog 54 #[.bool s, .slice a len cap, .bool false, .int .i64 e] w fun q w' => ∃ v', q = .returned v' ∧ DyQ w.heap.size w' v' (formD s (r * 2 ^ 1) (e - 1)) ∧ Below w.heap.size w w' := by
 have bA : Below w.heap.size w (w.alloc (.cells #[.bool false, .slice none 0 0, .int .i64 0] 38)) := below_one _ _
 have SC : Hid (Calls Tryz.prog 50 #[.slice a len cap, .int .i64 1] (w.alloc (.cells #[.bool false, .slice none 0 0, .int .i64 0] 38)) fun q w' => ∃ (ao : Option Addr) (n cv : Nat), q = .returned (.slice ao n cv) ∧ Hid (n = (wordsOf (r * 2 ^ 1)).length) ∧ OwnW (w.alloc (.cells #[.bool false, .slice none 0 0, .int .i64 0] 38)).heap.size w' ao n cv (wordsOf (r * 2 ^ 1)) ∧ Below (w.alloc (.cells #[.bool false, .slice none 0 0, .int .i64 0] 38)).heap.size (w.alloc (.cells #[.bool false, .slice none 0 0, .int .i64 0] 38)) w') := aShl a len cap 1 r _ (h.keep bA) (by omega) (by decide)
 have hb2 : Hid (blen (r * 2 ^ 1) ≤ 60001) := by
  rw [Hid]
  by_cases q : r = 0
  ·rw [q, Nat.zero_mul, blen_zero]; omega
  ·rw [blen_mul _ _ q]; omega
 obtain ⟨z0, z1, z2, f0, f1, f2⟩ := fX9 w
 have lz : w.heap.size < (w.alloc (.cells #[.bool false, .slice none 0 0, .int .i64 0] 38)).heap.size := by simp
 clear h hm hb
 go_enter Tryz.func54, Tryz.ntmps54
 go_wp2_with fail
 generalize (w.alloc (.cells #[.bool false, .slice none 0 0, .int .i64 0] 38)) = w0 at *
 refine Calls.mono SC.out ?_
 rintro q w1 ⟨a1, n1, c1, rfl, HN1, hO1, b1⟩
 clear SC
 replace f0 := kF b1 z0 f0
 replace f1 := kF b1 z1 f1
 replace f2 := kF b1 z2 f2
 replace z0 := kC b1 z0
 replace z1 := kC b1 z1
 replace z2 := kC b1 z2
 replace bA := nT bA b1
 replace lz := Nat.lt_of_lt_of_le lz b1.size
 clear b1
 have hn1 : n1 ≤ 1024 := len_bits HN1.out hb2.out (by decide)
 have FC : Hid _ := qForm_calls s a1 n1 c1 (wordsOf (r * 2 ^ 1)) (e - 1) w1 hO1.1 (by omega) (by omega)
 rw [val_words] at FC
 go_wp2_with fail
 refine Calls.mono FC.out ?_
 rintro q w9 ⟨_, rfl, ⟨a9, n9, c9, rfl, HN9, hO9⟩, b9⟩
 clear FC
 have lw := Nat.lt_of_lt_of_le lz b9.size
 replace f0 := kF b9 z0 f0
 replace f1 := kF b9 z1 f1
 replace f2 := kF b9 z2 f2
 replace z0 := kC b9 z0
 replace z1 := kC b9 z1
 replace z2 := kC b9 z2
 replace bA := nT bA b9
 go_wp2_with fail
 exact bodyPost_ret (v := dyV (formD s (r * 2 ^ 1) (e - 1)).1 a9 n9 c9 (formD s (r * 2 ^ 1) (e - 1)).2.2) (by simp [results, Tryz.results54, go_sem, z0, z1, z2]) rfl ⟨_, rfl, ⟨a9, n9, c9, rfl, HN9, (((hO9.far _ _ (by show w.heap.size < _; exact lz)).far _ _ (by show w.heap.size < _; exact lz)).far _ _ (by show w.heap.size < _; exact lz)).low (Nat.le_of_lt lz)⟩, by repeat (first | (with_reducible exact bA) | (with_reducible refine Below.setCell ?_ (by simp) _))⟩
set_option maxRecDepth 100000 in
set_option maxHeartbeats 1000000 in
theorem sticky_yes (s : Bool) (a : Option Addr) (len cap r : Nat) (e : Int) (w : World) (h : IsW w a len cap (wordsOf r)) (hm : len ≤ 1024) (he1 : -100000 ≤ e) (he2 : e ≤ 100000) (hb : blen r ≤ 60000) :
  Calls Tryz.prog 54 #[.bool s, .slice a len cap, .bool true, .int .i64 e] w fun q w' => ∃ v', q = .returned v' ∧ DyQ w.heap.size w' v' (formD s (r * 2 ^ 1 + 1) (e - 1)) ∧ Below w.heap.size w w' := by
 have bA : Below w.heap.size w (w.alloc (.cells #[.bool false, .slice none 0 0, .int .i64 0] 38)) := below_one _ _
 have SC : Hid (Calls Tryz.prog 50 #[.slice a len cap, .int .i64 1] (w.alloc (.cells #[.bool false, .slice none 0 0, .int .i64 0] 38)) fun q w' => ∃ (ao : Option Addr) (n cv : Nat), q = .returned (.slice ao n cv) ∧ Hid (n = (wordsOf (r * 2 ^ 1)).length) ∧ OwnW (w.alloc (.cells #[.bool false, .slice none 0 0, .int .i64 0] 38)).heap.size w' ao n cv (wordsOf (r * 2 ^ 1)) ∧ Below (w.alloc (.cells #[.bool false, .slice none 0 0, .int .i64 0] 38)).heap.size (w.alloc (.cells #[.bool false, .slice none 0 0, .int .i64 0] 38)) w') := aShl a len cap 1 r _ (h.keep bA) (by omega) (by decide)
 have hb2 : Hid (blen (r * 2 ^ 1) ≤ 60001) := by
  rw [Hid]
  by_cases q : r = 0
  ·rw [q, Nat.zero_mul, blen_zero]; omega
  ·rw [blen_mul _ _ q]; omega
 obtain ⟨z0, z1, z2, f0, f1, f2⟩ := fX9 w
 have lz : w.heap.size < (w.alloc (.cells #[.bool false, .slice none 0 0, .int .i64 0] 38)).heap.size := by simp
 clear h hm hb
 go_enter Tryz.func54, Tryz.ntmps54
 go_wp2_with fail
 generalize (w.alloc (.cells #[.bool false, .slice none 0 0, .int .i64 0] 38)) = w0 at *
 refine Calls.mono SC.out ?_
 rintro q w1 ⟨a1, n1, c1, rfl, HN1, hO1, b1⟩
 clear SC
 replace f0 := kF b1 z0 f0
 replace f1 := kF b1 z1 f1
 replace f2 := kF b1 z2 f2
 replace z0 := kC b1 z0
 replace z1 := kC b1 z1
 replace z2 := kC b1 z2
 replace bA := nT bA b1
 replace lz := Nat.lt_of_lt_of_le lz b1.size
 clear b1
 have hn1 : n1 ≤ 1024 := len_bits HN1.out hb2.out (by decide)
 go_wp2_with fail
 refine Calls.mono (aOf _) ?_
 rintro q w2 ⟨a2, n2, c2, rfl, HN2, hO2, b2⟩
 replace f0 := kF b2 z0 f0
 replace f1 := kF b2 z1 f1
 replace f2 := kF b2 z2 f2
 replace z0 := kC b2 z0
 replace z1 := kC b2 z1
 replace z2 := kC b2 z2
 replace bA := nT bA b2
 replace lz := Nat.lt_of_lt_of_le lz b2.size
 replace hO1 := hO1.keep b2
 have hn2 : n2 ≤ 1024 := len_bits HN2.out (show blen 1 ≤ 1 by decide +kernel) (by decide)
 clear b2
 have AC : Hid _ := aAdd a1 a2 n1 c1 n2 c2 (r * 2 ^ 1) 1 w2 hO1.1 hO2.1 (by omega) (by omega)
 go_wp2_with fail
 refine Calls.mono AC.out ?_
 rintro q w3 ⟨a3, n3, c3, rfl, HN3, hO3, b3⟩
 clear AC
 replace f0 := kF b3 z0 f0
 replace f1 := kF b3 z1 f1
 replace f2 := kF b3 z2 f2
 replace z0 := kC b3 z0
 replace z1 := kC b3 z1
 replace z2 := kC b3 z2
 replace bA := nT bA b3
 replace lz := Nat.lt_of_lt_of_le lz b3.size
 clear b3
 have hn3 : n3 ≤ 1024 := len_bits HN3.out (show blen (r * 2 ^ 1 + 1) ≤ 60002 from Nat.le_trans (blen_mono (show r * 2 ^ 1 + 1 ≤ 2 * (r * 2 ^ 1) + 1 by omega)) (by
  have := hb2.out
  by_cases q : r * 2 ^ 1 = 0
  ·rw [q]; have : blen (2 * 0 + 1) = 1 := (by decide +kernel); omega
  ·have := blen_shift 1 1 (r * 2 ^ 1) (by decide) q
   rw [show 1 + 2 ^ 1 * (r * 2 ^ 1) = 2 * (r * 2 ^ 1) + 1 by omega] at this
   omega)) (by decide)
 have FC : Hid _ := qForm_calls s a3 n3 c3 (wordsOf (r * 2 ^ 1 + 1)) (e - 1) w3 hO3.1 (by omega) (by omega)
 rw [val_words] at FC
 go_wp2_with fail
 refine Calls.mono FC.out ?_
 rintro q w9 ⟨_, rfl, ⟨a9, n9, c9, rfl, HN9, hO9⟩, b9⟩
 clear FC
 have lw := Nat.lt_of_lt_of_le lz b9.size
 replace f0 := kF b9 z0 f0
 replace f1 := kF b9 z1 f1
 replace f2 := kF b9 z2 f2
 replace z0 := kC b9 z0
 replace z1 := kC b9 z1
 replace z2 := kC b9 z2
 replace bA := nT bA b9
 go_wp2_with fail
 exact bodyPost_ret (v := dyV (formD s (r * 2 ^ 1 + 1) (e - 1)).1 a9 n9 c9 (formD s (r * 2 ^ 1 + 1) (e - 1)).2.2) (by simp [results, Tryz.results54, go_sem, z0, z1, z2]) rfl ⟨_, rfl, ⟨a9, n9, c9, rfl, HN9, (((hO9.far _ _ (by show w.heap.size < _; exact lz)).far _ _ (by show w.heap.size < _; exact lz)).far _ _ (by show w.heap.size < _; exact lz)).low (Nat.le_of_lt lz)⟩, by repeat (first | (with_reducible exact bA) | (with_reducible refine Below.setCell ?_ (by simp) _))⟩
theorem stickyD_calls (s : Bool) (a : Option Addr) (len cap r : Nat) (mk : Bool) (e : Int) (w : World) (h : IsW w a len cap (wordsOf r)) (hm : len ≤ 1024) (he1 : -100000 ≤ e) (he2 : e ≤ 100000) (hb : blen r ≤ 60000) :
  Calls Tryz.prog 54 #[.bool s, .slice a len cap, .bool mk, .int .i64 e] w fun q w' => ∃ v', q = .returned v' ∧ DyQ w.heap.size w' v' (formD s (skA r mk) (e - 1)) ∧ Below w.heap.size w w' := by
 cases mk with
 | false =>
  have := sticky_not s a len cap r e w h hm he1 he2 hb
  rwa [show r * 2 ^ 1 = skA r false by unfold skA; simp; omega] at this
 | true =>
  have := sticky_yes s a len cap r e w h hm he1 he2 hb
  rwa [show r * 2 ^ 1 + 1 = skA r true by unfold skA; simp; omega] at this
theorem tmod_zero (a k : Int) : a.tmod k = 0 ↔ a % k = 0 := ⟨fun h => Int.emod_eq_zero_of_dvd (Int.dvd_of_tmod_eq_zero h), fun h => Int.tmod_eq_zero_of_dvd (Int.dvd_of_emod_eq_zero h)⟩
set_option maxRecDepth 100000 in
set_option maxHeartbeats 2000000 in
theorem even2_calls (s : Bool) (a : Option Addr) (len cap m : Nat) (e : Int) (w : World) (h : IsW w a len cap (wordsOf m)) (hm : len ≤ 1024) (he1 : -100000 ≤ e) (he2 : e ≤ 100000) :
  Calls Tryz.prog 93 #[dyV s a len cap e, .int .i64 2] w fun q w' => ∃ (ao : Option Addr) (n cv : Nat), q = .returned (.tuple #[.slice ao n cv, .int .i64 (evE 2 m e)]) ∧ Hid (n = (wordsOf (m * 2 ^ evN 2 m e)).length) ∧ OwnW w.heap.size w' ao n cv (wordsOf (m * 2 ^ evN 2 m e)) ∧ Below w.heap.size w w' := by
 have bA : Below w.heap.size w (w.alloc (.cells #[.bool s, .slice a len cap, .int .i64 e] 38)) := below_one _ _
 have hI := h.keep bA
 have LC : Hid _ := nLen_calls a len cap (wordsOf m) _ hI (by omega)
 rw [val_words] at LC
 obtain ⟨c1, c2⟩ := fX10 w s a len cap e
 have hmx : max (140 - (blen m : Int)) 0 = (evB 2 m : Int) := by unfold evB; omega
 have hlm : (blen m : Int) ≤ 65536 := by have := (great_not m).1 ((great_len m).2 (by have := h.1; omega)); omega
 have hB : (evB 2 m : Int) ≤ 140 := by unfold evB; omega
 obtain ⟨t, ht⟩ : ∃ t : Nat, (t : Int) = (e - (evB 2 m : Int)) % 2 := ⟨((e - (evB 2 m : Int)) % 2).toNat, by omega⟩
 have htk : t < 2 := by omega
 have HT : Hid ((t : Int) = (e - (evB 2 m : Int)) % 2) := ht
 have HEN : Hid (evN 2 m e = evB 2 m + t) := by rw [Hid]; unfold evN; omega
 have HM : Hid ((2 : Int) * evE 2 m e = e - (evN 2 m e : Int)) := (ev_mul 2 m e (by omega)).1
 clear h ht
 generalize hNB : evB 2 m = n0 at *
 clear hNB
 generalize evE 2 m e = EE at *
 generalize evN 2 m e = NN at *
 generalize hbl : blen m = bl at *
 clear hbl
 go_enter Tryz.func93, Tryz.ntmps93
 go_wp2_with fail
 generalize (w.alloc (.cells #[.bool s, .slice a len cap, .int .i64 e] 38)) = w0 at *
 refine Calls.mono LC.out ?_
 rintro q w1 ⟨rfl, b1⟩
 replace c1 := kC b1 c1
 replace c2 := kC b1 c2
 replace hI := hI.keep b1
 replace bA := nT bA b1
 clear LC b1
 go_wp2_with fail
 go_loopw [6] (fun v wr => ∃ j : Nat, j ≤ t ∧ v = .int .i64 ((n0 : Int) + (j : Int)) ∧ wr = w1) (fun v _ => (n0 + t) - (intOf v).toNat)
 case atStart => exact ⟨0, by omega, by go_num, by first | rfl | trivial⟩
 case round =>
  obtain ⟨j, hj, rfl, rfl⟩ := hrel
  by_cases hlt : j < t
  ·have hne : ¬ (e - ((n0 : Int) + (j : Int))).tmod 2 = 0 := fun q => by
    have := (tmod_zero _ _).1 q
    have := HT.out
    omega
   go_wp2_with fail
   refine ⟨⟨j + 1, by omega, by go_num, by first | rfl | trivial⟩, by simp [intOf]; omega⟩
  ·have hjt : j = t := by omega
   subst hjt
   have heq : (e - ((n0 : Int) + (j : Int))).tmod 2 = 0 := (tmod_zero _ _).2 (by have := HT.out; omega)
   have hq : (e - ((n0 : Int) + (j : Int))).tdiv 2 = EE := by
    have h1 := HM.out
    have h2 := HEN.out
    have : e - ((n0 : Int) + (j : Int)) = 2 * EE := by omega
    rw [this, Int.mul_tdiv_cancel_left _ (by decide)]
   have SC : Hid (Calls Tryz.prog 50 #[.slice a len cap, .int .i64 ((n0 : Int) + (j : Int))] wr.drew fun q w' => ∃ (ao : Option Addr) (n cv : Nat), q = .returned (.slice ao n cv) ∧ Hid (n = (wordsOf (m * 2 ^ (n0 + j))).length) ∧ OwnW wr.drew.heap.size w' ao n cv (wordsOf (m * 2 ^ (n0 + j))) ∧ Below wr.drew.heap.size wr.drew w') := by
    have q := aShl a len cap (n0 + j) m wr.drew (hI.keep ((Below.refl _ _).drew)) (by omega) (by omega)
    rw [Int.natCast_add] at q
    exact q
   have HQ : Hid (IntKind.i64.wrap ((IntKind.i64.wrap (e - ((n0 : Int) + (j : Int)))).tdiv 2) = EE) := by
    rw [Hid, show IntKind.i64.wrap (e - ((n0 : Int) + (j : Int))) = e - ((n0 : Int) + (j : Int)) by rw [IntKind.wrap_i64]; omega, hq, IntKind.wrap_i64]
    have h1 := HM.out
    have h2 := HEN.out
    omega
   have bD : Below wr.heap.size wr wr.drew := (Below.refl _ _).drew
   have hbE : -200000 ≤ EE ∧ EE ≤ 200000 := by have h1 := HM.out; have h2 := HEN.out; omega
   obtain ⟨hE1, hE2⟩ := hbE
   go_wp2_with fail
   go_region_with (go_at_call 50; refine SC.out.mono ?_; rintro q w2 ⟨a2, n2, c2', rfl, HN2, hO2, b2⟩; have d1 := kC (nT bD b2) c1; have d2 := kC (nT bD b2) c2; have bB := nT bA (nT bD b2); clear b2)
   all_goals
    go_wp2_with fail
    go_ret2
    exact ⟨a2, n2, c2', by first | rfl | (rw [HQ.out]; rfl), by rw [HEN.out]; exact HN2, by rw [HEN.out]; exact hO2.low (by have := bA.size; exact this), bB⟩
theorem form_in (s : Bool) (M : Nat) (E : Int) (h : blen M ≤ 10000) (h1 : -20000 ≤ E) (h2 : E ≤ 20000) : greatB (formD s M E).2.1 = false ∧ (-32768 ≤ (formD s M E).2.2 ∧ (formD s M E).2.2 ≤ 32768) ∧ (wordsOf (formD s M E).2.1).length ≤ 1024 := by
 have hg : greatB (formD s M E).2.1 = false := great_mono (form_amount_le _ _ _) ((great_not _).2 (by omega))
 refine ⟨hg, ⟨form_lo s M E (-32768) (by omega) (by decide), ?_⟩, (great_len _).1 hg⟩
 by_cases h0 : M = 0
 ·rw [h0, form_zero]; decide
 ·rw [form_pos _ h0]
  have := tz_le_blen M
  show E + (tz M : Int) ≤ 32768
  omega
theorem mark_len {n u : Nat} (h : n = (wordsOf u).length) : decide (0 < n) = decide (u ≠ 0) := words_len_pos h
set_option maxRecDepth 100000 in
set_option maxHeartbeats 2000000 in
theorem root2D_calls (s : Bool) (a : Option Addr) (len cap m : Nat) (e : Int) (w : World) (h : IsW w a len cap (wordsOf m)) (hm : len ≤ 1024) (h0 : m ≠ 0) (hb : blen m ≤ 5000) (he : -5000 ≤ e ∧ e ≤ 5000) (ht : -5000 ≤ tpI m e ∧ tpI m e ≤ 5000) :
  Calls Tryz.prog 44 #[dyV s a len cap e, .int .i64 2] w fun q w' => q = .returned (.agg #[.int .u64 (nbR s (ansM 2 m e) (ansE 2 m e)), .int .u8 (flR s (ansM 2 m e) (ansE 2 m e))]) ∧ Below w.heap.size w w' := by
 have bA : Below w.heap.size w ((w.alloc (.cells #[.bool s, .slice a len cap, .int .i64 e] 38)).alloc (.cells #[.int .u64 0, .int .u8 0] 25)) := nT (below_one _ _) (below_one _ _)
 have EC : Hid _ := even2_calls s a len cap m e _ (h.keep bA) hm (by omega) (by omega)
 obtain ⟨v1, v2, v3⟩ := ev_mul 2 m e (by omega)
 obtain ⟨d1, d2⟩ := dr_all s 2 m e (by omega) h0 ht he
 have hbM : blen (m * 2 ^ evN 2 m e) ≤ 6000 := by rw [blen_mul _ _ h0]; omega
 have hbr : blen (rt 2 (m * 2 ^ evN 2 m e)) ≤ 6000 := Nat.le_trans (blen_mono (rt_self (by decide))) hbM
 have hbd : blen (drM 2 m e) ≤ 6001 := by
  unfold drM
  have hz : rt 2 (m * 2 ^ evN 2 m e) ≠ 0 := Nat.pos_iff_ne_zero.1 (rt_pos (by decide) (Nat.mul_pos (by omega) (Nat.two_pow_pos _)))
  have q := blen_shift 1 (decide (m * 2 ^ evN 2 m e - rt 2 (m * 2 ^ evN 2 m e) ^ 2 ≠ 0)).toNat (rt 2 (m * 2 ^ evN 2 m e)) (by have := Bool.toNat_le (decide (m * 2 ^ evN 2 m e - rt 2 (m * 2 ^ evN 2 m e) ^ 2 ≠ 0)); omega) hz
  rw [show (decide (m * 2 ^ evN 2 m e - rt 2 (m * 2 ^ evN 2 m e) ^ 2 ≠ 0)).toNat + 2 ^ 1 * rt 2 (m * 2 ^ evN 2 m e) = skA (rt 2 (m * 2 ^ evN 2 m e)) (decide (m * 2 ^ evN 2 m e - rt 2 (m * 2 ^ evN 2 m e) ^ 2 ≠ 0)) by unfold skA; rw [Nat.pow_one]; omega] at q
  omega
 have hE : -10000 ≤ evE 2 m e ∧ evE 2 m e ≤ 10000 := by omega
 have HFI : Hid _ := form_in s (drM 2 m e) (evE 2 m e - 1) (by omega) (by omega) (by omega)
 have HBM : Hid (blen (m * 2 ^ evN 2 m e) ≤ 6000 ∧ blen (rt 2 (m * 2 ^ evN 2 m e)) ≤ 6000) := ⟨hbM, hbr⟩
 have HDR : Hid (drM 2 m e = skA (rt 2 (m * 2 ^ evN 2 m e)) (decide (m * 2 ^ evN 2 m e - rt 2 (m * 2 ^ evN 2 m e) ^ 2 ≠ 0))) := rfl
 obtain ⟨hE1, hE2⟩ := hE
 rw [← d1, ← d2]
 clear d1 d2 v1 v2 v3 hbM hbr hbd h hm hb he ht h0
 generalize m * 2 ^ evN 2 m e = MM at *
 generalize evE 2 m e = EE at *
 generalize drM 2 m e = DM at *
 have c0 : ((w.alloc (.cells #[.bool s, .slice a len cap, .int .i64 e] 38)).alloc (.cells #[.int .u64 0, .int .u8 0] 25)).cell? ⟨w.heap.size, 0, none⟩ = some (.bool s) := by go_simp
 have z0 : ((w.alloc (.cells #[.bool s, .slice a len cap, .int .i64 e] 38)).alloc (.cells #[.int .u64 0, .int .u8 0] 25)).cell? ⟨w.heap.size + 1, 0, none⟩ = some (.int .u64 0) := by go_simp
 have z1 : ((w.alloc (.cells #[.bool s, .slice a len cap, .int .i64 e] 38)).alloc (.cells #[.int .u64 0, .int .u8 0] 25)).cell? ⟨w.heap.size + 1, 1, none⟩ = some (.int .u8 0) := by go_simp
 have f0 : ((w.alloc (.cells #[.bool s, .slice a len cap, .int .i64 e] 38)).alloc (.cells #[.int .u64 0, .int .u8 0] 25)).frozen? ⟨w.heap.size + 1, 0, none⟩ = false := by go_simp
 have f1 : ((w.alloc (.cells #[.bool s, .slice a len cap, .int .i64 e] 38)).alloc (.cells #[.int .u64 0, .int .u8 0] 25)).frozen? ⟨w.heap.size + 1, 1, none⟩ = false := by go_simp
 go_enter Tryz.func44, Tryz.ntmps44
 go_wp2_with fail
 generalize ((w.alloc (.cells #[.bool s, .slice a len cap, .int .i64 e] 38)).alloc (.cells #[.int .u64 0, .int .u8 0] 25)) = w0 at *
 refine Calls.mono EC.out ?_
 rintro q w1 ⟨a1, n1, k1, rfl, HN1, hO1, b1⟩
 clear EC
 replace f0 := kF b1 z0 f0
 replace f1 := kF b1 z1 f1
 replace z0 := kC b1 z0
 replace z1 := kC b1 z1
 replace c0 := kC b1 c0
 replace bA := nT bA b1
 clear b1
 have hn1 : n1 ≤ 1024 := len_bits HN1.out HBM.out.1 (by decide)
 have RC : Hid _ := nRoot2_calls a1 n1 k1 (wordsOf MM) w1 hO1.1 (by omega) (by rw [val_words]; exact (great_not _).2 (by have := HBM.out.1; omega))
 rw [val_words] at RC
 go_wp2_with fail
 refine Calls.mono RC.out ?_
 rintro q w2 ⟨v1, v2, rfl, hA1, hA2, b2⟩
 obtain ⟨a3, n3, k3, rfl, HN3, hn3, hO3⟩ := hA1.open (len_bits rfl HBM.out.2 (by decide))
 obtain ⟨a4, n4, k4, rfl, HN4, hn4, hO4⟩ := hA2.open (len_bits rfl (Nat.le_trans (blen_mono (Nat.sub_le _ _)) HBM.out.1) (by decide))
 clear RC hA1 hA2 hO1 HN1 hn1
 replace f0 := kF b2 z0 f0
 replace f1 := kF b2 z1 f1
 replace z0 := kC b2 z0
 replace z1 := kC b2 z1
 replace c0 := kC b2 c0
 replace bA := nT bA b2
 clear b2
 have SC : Hid _ := stickyD_calls s a3 n3 k3 (rt 2 MM) (decide (0 < n4)) EE w2 hO3.1 hn3 (by omega) (by omega) (by have := HBM.out.2; omega)
 have HMK : Hid (skA (rt 2 MM) (decide (0 < n4)) = DM) := by rw [Hid, HDR.out, mark_len HN4.out]
 rw [HMK.out] at SC
 clear HMK HDR hO3 hO4 HN3 HN4
 go_wp2_with fail
 refine Calls.mono SC.out ?_
 rintro q w3 ⟨_, rfl, ⟨a5, n5, k5, rfl, HN5, hO5⟩, b3⟩
 clear SC
 replace f0 := kF b3 z0 f0
 replace f1 := kF b3 z1 f1
 replace z0 := kC b3 z0
 replace z1 := kC b3 z1
 replace bA := nT bA b3
 clear b3 c0
 have hn5 : n5 ≤ 1024 := by rw [HN5.out]; exact HFI.out.2.2
 have NC : Hid _ := roundD_calls (formD s DM (EE - 1)).1 a5 n5 k5 (wordsOf (formD s DM (EE - 1)).2.1) (formD s DM (EE - 1)).2.2 w3 hO5.1 (by omega) (by rw [val_words]; exact HFI.out.1) HFI.out.2.1
 rw [val_words] at NC
 clear hO5 HN5 hn5
 go_wp2_with fail
 refine Calls.mono NC.out ?_
 rintro q w4 ⟨rfl, b4⟩
 clear NC
 replace f0 := kF b4 z0 f0
 replace f1 := kF b4 z1 f1
 replace z0 := kC b4 z0
 replace z1 := kC b4 z1
 replace bA := nT bA b4
 clear b4
 go_wp2_with fail
 exact bodyPost_ret (v := .agg #[.int .u64 (nearB (formD s DM (EE - 1)).1 (formD s DM (EE - 1)).2.1 (formD s DM (EE - 1)).2.2), .int .u8 (flD (formD s DM (EE - 1)).2.1 (formD s DM (EE - 1)).2.2)]) (by simp [results, Tryz.results44, go_sem, z0, z1]) rfl ⟨rfl, by repeat (first | (with_reducible exact bA) | (with_reducible refine Below.setCell ?_ (by simp) _))⟩
end Go.Proofs.YtfgemlgmhlidmaaGreatDoor

/- Package consts: a constant so many times, rounded down. -/
import Derived.Test.YtkkldnnndlpblaaGreatDoorCF6
namespace Go.Proofs.YtkkldnnndlpblaaGreatDoor
open Go.RowKit Ck

set_option maxRecDepth 100000 in
set_option maxHeartbeats 1000000 in
theorem sEqual_calls (a a' : Option Addr) (len cap len' cap' : Nat) (xs ys : List Int) (w : World) (h : IsW w a len cap xs) (h' : IsW w a' len' cap' ys) (hm : len ≤ 17592186044416) (hm' : len' ≤ 17592186044416) :
    Calls Tryz.prog 86 #[.slice a len cap, .slice a' len' cap'] w fun e w' => e = .returned (.bool (decide (xs = ys))) ∧ Below w.heap.size w w' := by
  have HL : Hid (len = xs.length) := h.1
  have HL' : Hid (len' = ys.length) := h'.1
  by_cases hl : len = len'
  · subst hl
    go_enter Tryz.func86, Tryz.ntmps86
    go_wp2
    go_loopw [13] (fun i wr => ∃ k : Nat, k ≤ len ∧ i = .int .i64 k ∧ xs.take k = ys.take k ∧ IsW wr a len cap xs ∧ IsW wr a' len cap' ys ∧ Below w.heap.size w wr) (fun i _ => len - (intOf i).toNat)
    case atStart => exact ⟨0, by omega, rfl, by simp, h, h', Below.refl _ _⟩
    case round =>
      obtain ⟨k, hk, rfl, ht, hW, hW', hbr⟩ := hrel
      clear h h'
      have HT : Hid (xs.take k = ys.take k) := ht
      clear ht
      by_cases hlt : k < len
      · obtain ⟨b, off, ha, _, hc⟩ := hW.2.2.2 k hlt
        obtain ⟨b', off', ha', _, hc'⟩ := hW'.2.2.2 k hlt
        obtain ⟨x, hx⟩ : ∃ x, x = xs.getD k 0 := ⟨_, rfl⟩
        obtain ⟨y, hy⟩ : ∃ y, y = ys.getD k 0 := ⟨_, rfl⟩
        rw [← hx] at hc
        rw [← hy] at hc'
        have e1 : xs.take (k + 1) = xs.take k ++ [x] := by
          have := HL.out
          rw [hx, List.take_succ_eq_append_getElem (by omega)]; simp [List.getD, show k < xs.length by omega]
        have e2 : ys.take (k + 1) = ys.take k ++ [y] := by
          have := HL'.out
          rw [hy, List.take_succ_eq_append_getElem (by omega)]; simp [List.getD, show k < ys.length by omega]
        subst ha ha'
        by_cases hxy : x = y
        · have d : (x != y) = false := by simp [hxy]
          have HT' : Hid (xs.take (k + 1) = ys.take (k + 1)) := by rw [Hid, e1, e2, HT.out, hxy]
          clear hx hy e1 e2 hxy
          go_wp2
          go_quiet (fail)
          go_wp2
          go_roundw
          case rel => exact ⟨k + 1, by omega, by go_num, HT'.out, hW, hW', below_drewN hbr nq⟩
          case measure => simp [intOf]; omega
        · have d : (x != y) = true := by simp [hxy]
          have HV : Hid (decide (xs = ys) = false) := by
            rw [Hid, decide_eq_false_iff_not]; intro e; rw [hx, hy, e] at hxy; exact hxy rfl
          clear hx hy e1 e2 hxy
          go_wp2
          go_quiet (fail)
          go_wp2
          go_ret
          exact ⟨nret_bool HV.out.symm, below_drewN hbr nq⟩
      · have HV : Hid (decide (xs = ys) = true) := by
          have h1 := HT.out
          rw [List.take_of_length_le (by have := HL.out; omega), List.take_of_length_le (by have := HL'.out; omega)] at h1
          rw [Hid]; simpa using h1
        go_wp2
        go_ret
        exact ⟨nret_bool HV.out.symm, hbr⟩
  · have d : ((len : Int) != (len' : Int)) = true := by simp; omega
    have HV : Hid (decide (xs = ys) = false) := by
      rw [Hid, decide_eq_false_iff_not]; intro e; apply hl; rw [HL.out, HL'.out, e]
    clear hl
    go_enter Tryz.func86, Tryz.ntmps86
    go_wp2
    go_ret
    exact ⟨nret_bool HV.out.symm, Below.refl _ _⟩

theorem e_lt (k wd : Nat) (h1 : 1 ≤ k) (h7 : k ≤ 7) (h40 : 40 ≤ wd) : eHi k wd < 2 ^ (wd + 5) ∧ eLo k wd ≤ eHi k wd ∧ 2 ^ (wd - 3) ≤ eLo k wd := by
  have hb := (base_k k h1 h7).1
  have p3 : (2 : Nat) ^ (wd + 3) < 2 ^ (wd + 5) := Nat.pow_lt_pow_right (by decide) (by omega)
  unfold eHi eLo
  by_cases h : ov k = 0
  · rw [if_pos h] at hb
    rw [if_pos h, if_pos h]
    have := lo_pos k wd hb h40
    refine ⟨by omega, by unfold dLo dHi; omega, by omega⟩
  · rw [if_neg h] at hb
    rw [if_neg h, if_neg h]
    obtain ⟨a1, a2⟩ := lo_pos (ov k) wd hb h40
    have l0 : 0 < 2 ^ (wd - 3) := Nat.pow_pos (by decide)
    have ld : dLo (ov k) wd ≤ dHi (ov k) wd := by unfold dLo dHi; omega
    have e1 : 2 ^ (2 * wd) = 2 ^ (wd + 3) * 2 ^ (wd - 3) := by rw [← Nat.pow_add]; congr 1; omega
    have e2 : 2 ^ (2 * wd) = 2 ^ (wd - 3) * 2 ^ (wd + 3) := by rw [← Nat.pow_add]; congr 1; omega
    have d1 : 2 ^ (2 * wd) / dLo (ov k) wd ≤ 2 ^ (wd + 3) := by
      refine Nat.div_le_of_le_mul ?_
      rw [e2]
      exact Nat.mul_le_mul_right _ a1
    have d2 : 2 ^ (2 * wd) / dHi (ov k) wd ≤ 2 ^ (2 * wd) / dLo (ov k) wd := Nat.div_le_div_left ld (by omega)
    have d3 : 2 ^ (wd - 3) ≤ 2 ^ (2 * wd) / dHi (ov k) wd := by
      rw [Nat.le_div_iff_mul_le (by omega), e2]
      exact Nat.mul_le_mul_left _ a2
    have p5 : (2 : Nat) ^ (wd + 5) = 2 ^ (wd + 3) * 4 := by rw [show wd + 5 = wd + 3 + 2 by omega, Nat.pow_add]
    have p6 : 0 < 2 ^ (wd + 3) := Nat.pow_pos (by decide)
    refine ⟨by omega, by omega, by omega⟩

/-- what both ends so many times are, rounded down, where that is one number -/
def TW (k F q : Nat) : Prop := ∃ wd, 40 ≤ wd ∧ wd ≤ 8192 ∧ eLo k wd * F / 2 ^ wd = q ∧ eHi k wd * F / 2 ^ wd = q
theorem words_inj {x y : Nat} (h : wordsOf x = wordsOf y) : x = y := by rw [← val_words x, ← val_words y, h]

set_option maxRecDepth 100000 in
set_option maxHeartbeats 4000000 in
theorem whole_calls (k F : Nat) (h1 : 1 ≤ k) (h7 : k ≤ 7) (hF : blen F ≤ 2100) (a : Option Addr) (n c : Nat) (w : World) (h : IsW w a n c (wordsOf F)) (hn : n ≤ 1024) (hT : RecT w) :
    Calls Tryz.prog 44 #[.int .u8 (k : Int), .slice a n c] w fun r w' => ((∃ (ao : Option Addr) (m d q : Nat), r = .returned (.tuple #[.slice ao m d, .int .i64 0]) ∧ m ≤ 1024 ∧ OwnW w.heap.size w' ao m d (wordsOf q) ∧ TW k F q) ∨ (r = .returned (.tuple #[.slice none 0 0, .int .i64 6]) ∧ eLo k 8192 * F / 2 ^ 8192 ≠ eHi k 8192 * F / 2 ^ 8192)) ∧ Below w.heap.size w w' := by
  have gF : greatB F = false := (great_not F).2 (by omega)
  have LC : Hid _ := len_calls a n c (wordsOf F) w h (by omega)
  rw [val_words] at LC
  go_enter Tryz.func44, Tryz.ntmps44
  go_wp2_with fail
  refine Calls.mono LC.out ?_
  rintro r w1 ⟨-, hr, b1⟩
  obtain rfl := hr gF
  clear hr LC
  have h2 := h.keepB b1
  have hT2 := hT.kept b1
  have hwl : IntKind.i64.wrap ((blen F : Int) + 64) = ((blen F + 64 : Nat) : Int) := by rw [IntKind.wrap_i64]; omega
  clear h hT
  have HFL : Hid (F < 2 ^ 2100) := by
    obtain ⟨X, hX⟩ : ∃ X : Nat, X = 2100 := ⟨_, rfl⟩
    rw [Hid, ← hX]
    exact (blen_le F X).1 (by omega)
  obtain ⟨L, hL⟩ : ∃ L, L = blen F + 64 := ⟨_, rfl⟩
  rw [← hL] at hwl
  have hL1 : 40 ≤ L := by omega
  have hL2 : L ≤ 8192 := by omega
  have HLB : Hid (L = blen F + 64) := hL
  clear hL
  obtain ⟨BF, hBF⟩ : ∃ BF : Nat, BF = blen F := ⟨_, rfl⟩
  rw [← hBF] at hwl ⊢
  clear hBF
  go_wp2_with fail
  go_loopw [8, 9, 10, 11] (fun vw _ _ _ wr => ∃ wd : Nat, 40 ≤ wd ∧ wd ≤ 8192 ∧ vw = .int .i64 (wd : Int) ∧ Below w1.heap.size w1 wr) (fun vw _ _ _ _ => 8192 - (intOf vw).toNat)
  case atStart => exact ⟨L, hL1, hL2, rfl, Below.refl _ _⟩
  case round =>
    obtain ⟨wd, hw1, hw2, rfl, hb⟩ := hrel
    have h3 := h2.keepB hb
    have EC : Hid _ := encl_calls k wd h1 h7 hw1 (by omega) wr (hT2.kept hb)
    have hz := hb.size
    go_wp2_with fail
    refine Calls.mono EC.out ?_
    rintro r w2 ⟨a1, n1, c1, a2, n2, c2, rfl, hn1, hO1, hn2, hO2, b2⟩
    have hz2 := b2.size
    obtain ⟨e1, e2, -⟩ := e_lt k wd h1 h7 hw1
    have gH : greatB (eHi k wd) = false := cf_great e1 (by omega)
    have gL : greatB (eLo k wd) = false := great_mono e2 gH
    have gHF : greatB (eHi k wd * F) = false := by
      obtain ⟨X, hX⟩ : ∃ X : Nat, X = 2100 := ⟨_, rfl⟩
      have hf := HFL.out
      rw [← hX] at hf
      refine cf_great (k := wd + 5 + X) ?_ (by omega)
      rw [Nat.pow_add]
      exact Nat.mul_lt_mul_of_lt_of_le e1 (Nat.le_of_lt hf) (Nat.pow_pos (by decide))
    have gLF : greatB (eLo k wd * F) = false := great_mono (Nat.mul_le_mul_right _ e2) gHF
    clear e1 e2
    have bV := below_alloc w2 (.cells #[.slice a1 n1 c1, .int .i64 (-(wd : Int)), .slice a2 n2 c2, .int .i64 (-(wd : Int))] 63)
    have v0 : (w2.alloc (.cells #[.slice a1 n1 c1, .int .i64 (-(wd : Int)), .slice a2 n2 c2, .int .i64 (-(wd : Int))] 63)).cell? ⟨w2.heap.size, 0, none⟩ = some (.slice a1 n1 c1) := by go_simp
    have v2 : (w2.alloc (.cells #[.slice a1 n1 c1, .int .i64 (-(wd : Int)), .slice a2 n2 c2, .int .i64 (-(wd : Int))] 63)).cell? ⟨w2.heap.size, 2, none⟩ = some (.slice a2 n2 c2) := by go_simp
    have bb := below_trans b2 bV
    have h4 := (h3.keepB b2).keepB bV
    replace hO1 := hO1.keep bV
    replace hO2 := hO2.keep bV
    have hn1w : IntKind.i64.wrap (-(wd : Int)) = -(wd : Int) := by rw [IntKind.wrap_i64]; omega
    obtain ⟨A, hA⟩ : ∃ A, A = eLo k wd * F / 2 ^ wd := ⟨_, rfl⟩
    obtain ⟨B, hB⟩ : ∃ B, B = eHi k wd * F / 2 ^ wd := ⟨_, rfl⟩
    have HA : Hid (A = eLo k wd * F / 2 ^ wd) := hA
    have HB : Hid (B = eHi k wd * F / 2 ^ wd) := hB
    clear b2 bV EC h3 hA hB
    unfold SpanV
    go_wp2_with fail
    generalize w2.alloc (.cells #[.slice a1 n1 c1, .int .i64 (-(wd : Int)), .slice a2 n2 c2, .int .i64 (-(wd : Int))] 63) = w3 at *
    generalize w2.heap.size = V at *
    refine Calls.mono (fTimes_calls hO1.1 h4 hn1 hn gL gF gLF) ?_
    rintro r w4 ⟨a3, n3, c3, rfl, hn3, hO3, b3⟩
    have v2' := cKeep b3 v2
    have v0' := cKeep b3 v0
    go_wp2_with fail
    refine Calls.mono (fShr_calls (k := wd) hO3.1 hn3 (by omega) (by omega) rfl gLF) ?_
    rintro r w5 ⟨a4, n4, c4, rfl, hn4, hO4, b4⟩
    rw [← HA.out] at hO4
    have b5 := below_trans (below_trans bb b3) b4
    have v2'' := cKeep b4 v2'
    replace hO2 := (hO2.keep b3).keep b4
    replace h4 := (h4.keepB b3).keepB b4
    have z4 : wr.heap.size ≤ w4.heap.size := (below_trans bb b3).size
    replace hO4 := hO4.low z4
    clear b3 b4 bb v0 v2 v0' v2' hO1 hO3
    go_wp2_with fail
    refine Calls.mono (fTimes_calls hO2.1 h4 hn2 hn gH gF gHF) ?_
    rintro r w6 ⟨a5, n5, c5, rfl, hn5, hO5, b6⟩
    replace hO4 := hO4.keep b6
    go_wp2_with fail
    refine Calls.mono (fShr_calls (k := wd) hO5.1 hn5 (by omega) (by omega) rfl gHF) ?_
    rintro r w7 ⟨a6, n6, c6, rfl, hn6, hO6, b7⟩
    rw [← HB.out] at hO6
    replace hO4 := hO4.keep b7
    have b8 := below_trans (below_trans b5 b6) b7
    clear hO5 hO2 h4 b5 b6 b7
    have SE : Hid _ := sEqual_calls a4 a6 n4 c4 n6 c6 _ _ w7 hO4.1 hO6.1 (by omega) (by omega)
    go_wp2_with fail
    refine Calls.mono SE.out ?_
    rintro r w8 ⟨rfl, b9⟩
    replace hO4 := hO4.keep b9
    replace b8 := below_trans b8 b9
    have bW := nbelow_trans b1 (nbelow_trans hb b8)
    by_cases hq : wordsOf A = wordsOf B
    · have hd : decide (wordsOf A = wordsOf B) = true := decide_eq_true hq
      rw [hd]
      have hAB := words_inj hq
      clear SE hq hd b9
      go_wp2_with fail
      go_ret2
      exact ⟨Or.inl ⟨a4, n4, c4, A, rfl, hn4, hO4.low (Nat.le_trans b1.size hz), ⟨wd, hw1, hw2, HA.out.symm, by rw [← HB.out, hAB]⟩⟩, bW⟩
    · have hd : decide (wordsOf A = wordsOf B) = false := decide_eq_false hq
      rw [hd]
      by_cases h8 : wd = 8192
      · have HQ : Hid (wordsOf A ≠ wordsOf B) := hq
        subst h8
        clear SE hq hd b9
        go_wp2_with fail
        go_ret2
        refine ⟨Or.inr ⟨rfl, fun e => HQ.out ?_⟩, bW⟩
        rw [HA.out, HB.out, e]
      · have h9 : ((wd : Int) == 8192) = false := by simp; omega
        have hw9 : IntKind.i64.wrap (2 * (wd : Int)) = 2 * (wd : Int) := by rw [IntKind.wrap_i64]; omega
        have b10 := hb.trans (b8.mono hz)
        clear SE hq hd b9 bW b8 hb
        go_wp2_with fail
        go_roundw
        case rel => exact ⟨min (2 * wd) 8192, by omega, by omega, by congr 1; omega, b10⟩
        case measure => simp only [intOf]; omega
end Go.Proofs.YtkkldnnndlpblaaGreatDoor

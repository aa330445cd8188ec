/- The walks of shifts to the right. -/
import Derived.Test.YtfmjgagajlhfoaaDoorNShl
namespace Go.Proofs.YtfmjgagajlhfoaaDoor
open Go.RowKit

theorem or_words2 (x y s : Nat) (hs : s < 64) (hx : x < 18446744073709551616) : bits BinOp.or IntKind.u64 ((x : Int) / 2 ^ s) (IntKind.u64.wrap ((y : Int) * 2 ^ (64 - s))) = ((x / 2 ^ s + y * 2 ^ (64 - s) % 18446744073709551616 : Nat) : Int) := by
  have hd : x / 2 ^ s ≤ x := Nat.div_le_self _ _
  rw [mul_pow_cast, div_pow_cast, wrap_nat, u64_or_nat _ _ (by omega) (Nat.mod_lt _ (by decide)), shr_room x y s hs hx]
theorem shr_at (xs : List Int) (hU : AllU xs) (k sk s m x y : Nat) (hm : m = 64 * sk + s) (hs : s < 64) (hx : xs.getD (sk + k) 0 = (x : Int)) (hy : xs.getD (sk + k + 1) 0 = (y : Int)) :
    val xs / 2 ^ m / 18446744073709551616 ^ k % 18446744073709551616 = x / 2 ^ s + y * 2 ^ (64 - s) % 18446744073709551616 := by
  have e1 := val_word xs hU (sk + k)
  have e2 := val_word xs hU (sk + k + 1)
  rw [hx, Int.toNat_natCast] at e1
  rw [hy, Int.toNat_natCast] at e2
  have e3 := word_shr (val xs) (sk + k) s hs
  rw [e1, e2] at e3
  rw [← e3, Nat.div_div_eq_div_mul]
  congr 2
  rw [hm, two64, two64, ← Nat.pow_add, ← Nat.pow_add]; congr 1; omega
theorem shr_word_lt (x y s : Nat) (hs : s < 64) (hx : x < 18446744073709551616) : x / 2 ^ s + y * 2 ^ (64 - s) % 18446744073709551616 < 18446744073709551616 := by
  by_cases h0 : s = 0
  · subst h0
    rw [show 64 - 0 = 64 from rfl, show (2 : Nat) ^ 64 = 18446744073709551616 from rfl, Nat.mul_mod_left]; simp; exact hx
  · have h1 : x / 2 ^ s < 2 ^ (64 - s) := by
      rw [Nat.div_lt_iff_lt_mul (Nat.pow_pos (by decide)), ← Nat.pow_add, show 64 - s + s = 64 by omega]; exact hx
    exact (shl_room _ y (64 - s) (by omega) h1).2

set_option maxRecDepth 100000 in
set_option maxHeartbeats 4000000 in
theorem right_calls (a : Option Addr) (n m : Nat) (xs : List Int) (w : World) (h : IsW w a n n xs) (hn : n ≤ 1024) (hm : m ≤ 9223372036854775807) :
    Calls Tryd.prog 80 #[.slice a n n, .int .i64 (m : Int)] w fun e w' => ∃ (ao : Option Addr) (k : Nat) (M : List Int), e = .returned (.slice ao k k) ∧ OwnW w.heap.size w' ao k k M ∧ val M = val xs / 2 ^ m ∧ k ≤ n ∧ Below w.heap.size w w' := by
  obtain ⟨sk, hsk⟩ : ∃ sk, sk = m / 64 := ⟨_, rfl⟩
  have q1 : (m : Int) / 64 = (sk : Int) := by omega
  have HSK : Hid (sk = m / 64) := hsk
  have HL : Hid (xs.length = n) := h.1.symm
  by_cases hc : n ≤ sk
  · have HZ : Hid (val xs / 2 ^ m = 0) := shr_zero (val xs) m n (by rw [← HL.out]; exact val_lt xs h.2.1) (by omega)
    clear hsk
    go_enter Tryd.func80, Tryd.ntmps80
    go_wp2_with fail
    go_ret
    exact ⟨none, 0, [], rfl, ownW_nil _ _, by rw [HZ.out]; rfl, by omega, Below.refl _ _⟩
  · obtain ⟨K, hK⟩ : ∃ K, K = n - sk := ⟨_, rfl⟩
    obtain ⟨w1, hmk, hO1, hb1, hz1⟩ := make_words 46 words_T w K (by omega)
    have hskb : sk < 1024 := by omega
    have q2 : (n : Int) - (sk : Int) = (K : Int) := by omega
    have hshb : m % 64 < 64 := by omega
    have HM : Hid (m = 64 * sk + m % 64) := by rw [Hid]; omega
    have HFIT : Hid (val xs / 2 ^ m < 18446744073709551616 ^ K) := by
      have := shr_fits (val xs) m n (by rw [← HL.out]; exact val_lt xs h.2.1) (by omega)
      rw [← hsk, ← hK] at this; exact this
    have hKn : sk + K = n := by omega
    have HKN : Hid (sk + K = n) := hKn
    have hKb : K ≤ 1024 := by omega
    clear hsk hK hKn
    go_enter Tryd.func80, Tryd.ntmps80
    go_wp2_with fail
    clear hmk q1 q2
    go_loopw [24] (fun i wr => ∃ (k : Nat) (M : List Int), k ≤ K ∧ i = .int .i64 k ∧ Hid (∀ j, j < k → (M.getD j 0).toNat = val xs / 2 ^ m / 18446744073709551616 ^ j % 18446744073709551616) ∧ OwnW w.heap.size wr (some ⟨w.heap.size, 0, none⟩) K K M ∧ Below w.heap.size w wr) (fun i _ => K - (intOf i).toNat)
    case atStart => exact ⟨0, zeros K, by omega, rfl, fun j hj => by omega, hO1, hb1⟩
    case round =>
      clear hO1 hb1
      obtain ⟨k, M, hk, rfl, HV, hO, hbr⟩ := hrel
      have HML : Hid (K = M.length) := hO.1.1
      by_cases hlt : k < K
      · have hin : sk + k < n := by have := HKN.out; omega
        obtain ⟨b, off, ha, hbl, hcx⟩ := h.2.2.2 (sk + k) hin
        obtain ⟨x, hx, hx1⟩ := word_nat2 xs h.2.1 (sk + k)
        have hcx2 : wr.cell? ⟨b, off + (sk + k), none⟩ = some (.int .u64 (x : Int)) := by rw [← hx]; exact (hbr.cell (p := ⟨b, off + (sk + k), none⟩) hbl).trans hcx
        obtain ⟨y, hy, hy1⟩ := word_nat2 xs h.2.1 (sk + k + 1)
        have AT := at_calls a n n xs (sk + k + 1) wr.drew (h.keep hbr.drew)
        rw [hy, show ((sk + k + 1 : Nat) : Int) = (sk : Int) + k + 1 by omega] at AT
        have HSA : Hid _ := shr_at xs h.2.1 k sk (m % 64) m x y HM.out hshb hx hy
        subst ha
        obtain ⟨_, _, e1, _, hcell⟩ := hO.1.2.2.2 k hlt
        simp only [Option.some.injEq, Addr.mk.injEq, and_true] at e1
        obtain ⟨rfl, rfl⟩ := e1
        have hfz := (hO.2 _ _ k rfl hlt).2
        rw [Nat.zero_add] at hcell hfz
        obtain ⟨z, hz⟩ : ∃ z : Nat, z = x / 2 ^ (m % 64) + y * 2 ^ (64 - m % 64) % 18446744073709551616 := ⟨_, rfl⟩
        have hzb : z < 18446744073709551616 := by rw [hz]; exact shr_word_lt x y (m % 64) hshb hx1
        have q3 : bits BinOp.or IntKind.u64 ((x : Int) / 2 ^ (m % 64)) (IntKind.u64.wrap ((y : Int) * 2 ^ (64 - m % 64))) = (z : Int) := by rw [or_words2 x y (m % 64) hshb hx1, hz]
        have HZ : Hid (z = x / 2 ^ (m % 64) + y * 2 ^ (64 - m % 64) % 18446744073709551616) := hz
        have q5 : ((sk : Int) + (k : Int)).toNat = sk + k := by omega
        have hne : b ≠ w.heap.size := Nat.ne_of_lt hbl
        have i1 : (sk : Int) + (k : Int) < (n : Int) := by omega
        have i2 : 0 ≤ (sk : Int) + (k : Int) := by omega
        have i3 : IntKind.i64.wrap ((sk : Int) + (k : Int)) = (sk : Int) + (k : Int) := by rw [IntKind.wrap_i64]; omega
        have i4 : IntKind.i64.wrap ((sk : Int) + (k : Int) + 1) = (sk : Int) + (k : Int) + 1 := by rw [IntKind.wrap_i64]; omega
        have i5 : IntKind.i64.wrap (64 - (m : Int) % 64) = 64 - (m : Int) % 64 := by rw [IntKind.wrap_i64]; omega
        have i6 : (64 - (m : Int) % 64).toNat = 64 - m % 64 := by omega
        have i7 : 0 ≤ 64 - (m : Int) % 64 := by omega
        have i8 : ((m : Int) % 64).toNat = m % 64 := by omega
        have i9 : 0 ≤ (m : Int) % 64 := by omega
        clear hx hy hz hcx
        go_wp2_with fail
        go_region_with ((go_at_call 45; refine AT.mono ?_; rintro e w2 ⟨rfl, rfl⟩))
        all_goals
          have hO2 := ((hO.keep ((Below.refl _ _).drew)).set (i := k) hlt (v := (z : Int)) (by omega) (by omega))
          have hbr2 : Below w.heap.size w (wr.drew.setCell ⟨w.heap.size, 0 + k, none⟩ (.int .u64 (z : Int))) := hbr.drew.setCell (Nat.le_refl _) _
          rw [Nat.zero_add] at hO2 hbr2
          go_wp2_with fail
          refine ⟨⟨k + 1, _, by omega, by go_num, ?_, hO2, hbr2⟩, by simp [intOf]; omega⟩
          intro j hj
          have := HML.out
          rw [getD_set _ _ _ _ (by omega)]
          by_cases e : k = j
          · subst e; rw [if_pos rfl, Int.toNat_natCast, HSA.out, HZ.out]
          · rw [if_neg e]; exact HV.out j (by omega)
      · have hkK : k = K := by omega
        have HE : Hid (val M = val xs / 2 ^ m) := val_of_words M _ (by rw [← HML.out]; exact HFIT.out) (fun i hi => HV.out i (by rw [← HML.out] at hi; omega))
        clear hkK
        go_wp2_with fail
        go_ret
        exact ⟨_, _, M, rfl, hO, HE.out, by have := HKN.out; omega, hbr⟩
end Go.Proofs.YtfmjgagajlhfoaaDoor

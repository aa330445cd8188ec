/- The walks of shifts to the left. -/
import Derived.Test.YtfmjgagajlhfoaaDoorNProg7
import Derived.Test.YtfmjgagajlhfoaaDoorNDivP
import Derived.BigRegion
namespace Go.Proofs.YtfmjgagajlhfoaaDoor
open Go.RowKit

theorem shl_set (xs M : List Int) (k sk sh m x c y z : Nat) (hm : m = 64 * sk + sh) (hsh : sh < 64) (hl : sk + k + 1 < M.length) (hc : M.getD (sk + k) 0 = (c : Int)) (hz0 : M.getD (sk + k + 1) 0 = 0) (hx : xs.getD k 0 = (x : Int))
    (hv : val M = low xs k * 2 ^ m) (hy : y = c + x * 2 ^ sh % 18446744073709551616) (hz : z = x / 2 ^ (64 - sh)) :
    val ((M.set (sk + k) (y : Int)).set (sk + k + 1) (z : Int)) = low xs (k + 1) * 2 ^ m := by
  have e1 := val_set M (sk + k) (y : Int) (by omega)
  have e2 := val_set (M.set (sk + k) (y : Int)) (sk + k + 1) (z : Int) (by rw [List.length_set]; omega)
  rw [getD_set M _ _ _ (by omega), if_neg (by omega), hz0] at e2
  rw [hc, Int.toNat_natCast, Int.toNat_natCast] at e1
  rw [Int.toNat_natCast, Int.toNat_zero, Nat.mul_zero, Nat.add_zero, Nat.pow_succ] at e2
  have e3 : low xs (k + 1) = low xs k + 18446744073709551616 ^ k * x := by show low xs k + _ * (xs.getD k 0).toNat = _; rw [hx, Int.toNat_natCast]
  have e4 := shl_word x sh hsh
  rw [← hz] at e4
  have e5 : 18446744073709551616 ^ k * x * 2 ^ m = 18446744073709551616 ^ (sk + k) * (x * 2 ^ sh) := by
    rw [hm, two64, two64, Nat.pow_add 2 (64 * sk) sh, show 64 * (sk + k) = 64 * sk + 64 * k by omega, Nat.pow_add]
    simp only [Nat.mul_assoc, Nat.mul_left_comm, Nat.mul_comm]
  rw [e3, Nat.add_mul, ← hv, e5, ← e4, e2]
  have e7 : 18446744073709551616 ^ (sk + k) * y = 18446744073709551616 ^ (sk + k) * c + 18446744073709551616 ^ (sk + k) * (x * 2 ^ sh % 18446744073709551616) := by rw [hy, Nat.mul_add]
  rw [e7] at e1
  have e6 : 18446744073709551616 ^ (sk + k) * (x * 2 ^ sh % 18446744073709551616 + 18446744073709551616 * z) = 18446744073709551616 ^ (sk + k) * (x * 2 ^ sh % 18446744073709551616) + 18446744073709551616 ^ (sk + k) * 18446744073709551616 * z := by rw [Nat.mul_add, Nat.mul_assoc]
  rw [e6]
  clear e7 e6
  generalize 18446744073709551616 ^ (sk + k) * 18446744073709551616 * z = P at *
  generalize 18446744073709551616 ^ (sk + k) * (x * 2 ^ sh % 18446744073709551616) = Q at *
  generalize 18446744073709551616 ^ (sk + k) * c = R at *
  omega
theorem or_words (c x s : Nat) (hs : s < 64) (hc : c < 2 ^ s) (hc2 : c < 18446744073709551616) : bits BinOp.or IntKind.u64 (c : Int) (IntKind.u64.wrap ((x : Int) * 2 ^ s)) = ((c + x * 2 ^ s % 18446744073709551616 : Nat) : Int) := by
  rw [mul_pow_cast, wrap_nat, u64_or_nat _ _ hc2 (Nat.mod_lt _ (by decide)), (shl_room c x s hs hc).1]
theorem pow_le_word (s : Nat) (h : s < 64) : 2 ^ s ≤ 9223372036854775808 := by
  have := Nat.pow_le_pow_right (show 0 < 2 by decide) (show s ≤ 63 by omega)
  exact this
theorem word_nat2 (xs : List Int) (h : AllU xs) (k : Nat) : ∃ x : Nat, xs.getD k 0 = (x : Int) ∧ x < 18446744073709551616 := by
  have := h.get k
  exact ⟨(xs.getD k 0).toNat, by omega, by omega⟩

set_option maxRecDepth 100000 in
set_option maxHeartbeats 4000000 in
theorem left_calls (a : Option Addr) (n m : Nat) (xs : List Int) (w : World) (h : IsW w a n n xs) (hn : n ≤ 1024) (hm : m ≤ 65600) :
    Calls Tryd.prog 78 #[.slice a n n, .int .i64 (m : Int)] w fun e w' => ∃ (ao : Option Addr) (k : Nat) (M : List Int), e = .returned (.slice ao k k) ∧ OwnW w.heap.size w' ao k k M ∧ val M = val xs * 2 ^ m ∧ k = m / 64 + n + 1 ∧ Below w.heap.size w w' := by
  obtain ⟨sk, hsk⟩ : ∃ sk, sk = m / 64 := ⟨_, rfl⟩
  obtain ⟨w1, hmk, hO1, hb1, hz1⟩ := make_words 46 words_T w (sk + n + 1) (by omega)
  have q1 : (m : Int) / 64 = (sk : Int) := by omega
  have hskb : sk ≤ 1025 := by omega
  have hshb : m % 64 < 64 := by omega
  have HM : Hid (m = 64 * sk + m % 64) := by rw [Hid]; omega
  have HSK : Hid (sk = m / 64) := hsk
  have HL : Hid (xs.length = n) := h.1.symm
  rw [show ((sk + n + 1 : Nat) : Int) = (sk : Int) + n + 1 by omega] at hmk
  clear hsk
  go_enter Tryd.func78, Tryd.ntmps78
  go_wp2_with fail
  clear hmk q1
  go_loopw [22] (fun i wr => ∃ (k : Nat) (M : List Int), k ≤ n ∧ i = .int .i64 k ∧ Hid (∀ j, sk + k < j → M.getD j 0 = 0) ∧ Hid ((M.getD (sk + k) 0).toNat < 2 ^ (m % 64)) ∧ Hid (val M = low xs k * 2 ^ m) ∧ OwnW w.heap.size wr (some ⟨w.heap.size, 0, none⟩) (sk + n + 1) (sk + n + 1) M ∧ Below w.heap.size w wr) (fun i _ => n - (intOf i).toNat)
  case atStart => exact ⟨0, zeros (sk + n + 1), by omega, rfl, fun j _ => zeros_get _ j, by rw [Hid, zeros_get]; exact Nat.pow_pos (by decide), by rw [Hid, val_zeros]; simp [low], hO1, hb1⟩
  case round =>
    clear hO1 hb1
    obtain ⟨k, M, hk, rfl, HZ, HC, HV, hO, hbr⟩ := hrel
    by_cases hlt : k < n
    · have HML : Hid (sk + n + 1 = M.length) := hO.1.1
      obtain ⟨b, off, ha, hbl, hcx⟩ := h.2.2.2 k hlt
      obtain ⟨x, hx, hx1⟩ := word_nat2 xs h.2.1 k
      have hcx2 : wr.cell? ⟨b, off + k, none⟩ = some (.int .u64 (x : Int)) := by rw [← hx]; exact (hbr.cell (p := ⟨b, off + k, none⟩) hbl).trans hcx
      have HX : Hid (xs.getD k 0 = (x : Int)) := hx
      have hne : b ≠ w.heap.size := Nat.ne_of_lt hbl
      subst ha
      obtain ⟨c, hc, hc1⟩ := word_nat2 M hO.1.2.1 (sk + k)
      have HCC : Hid (M.getD (sk + k) 0 = (c : Int)) := hc
      have hc2 : c < 2 ^ (m % 64) := by have := HC.out; rw [hc, Int.toNat_natCast] at this; exact this
      obtain ⟨_, _, e1, _, hcell⟩ := hO.1.2.2.2 (sk + k) (by omega)
      simp only [Option.some.injEq, Addr.mk.injEq, and_true] at e1
      obtain ⟨rfl, rfl⟩ := e1
      have hfz := (hO.2 _ _ (sk + k) rfl (by omega)).2
      rw [Nat.zero_add] at hcell hfz
      rw [hc] at hcell
      obtain ⟨_, _, e1, _, hcell2⟩ := hO.1.2.2.2 (sk + k + 1) (by omega)
      simp only [Option.some.injEq, Addr.mk.injEq, and_true] at e1
      obtain ⟨rfl, rfl⟩ := e1
      have hfz2 := (hO.2 _ _ (sk + k + 1) rfl (by omega)).2
      rw [Nat.zero_add, HZ.out (sk + k + 1) (by omega)] at hcell2
      rw [Nat.zero_add] at hfz2
      obtain ⟨y, hy⟩ : ∃ y : Nat, y = c + x * 2 ^ (m % 64) % 18446744073709551616 := ⟨_, rfl⟩
      have hyb : y < 18446744073709551616 := by rw [hy]; exact (shl_room c x (m % 64) hshb hc2).2
      have q3 : bits BinOp.or IntKind.u64 (c : Int) (IntKind.u64.wrap ((x : Int) * 2 ^ (m % 64))) = (y : Int) := by rw [or_words c x (m % 64) hshb hc2 hc1, hy]
      obtain ⟨z, hz⟩ : ∃ z : Nat, z = x / 2 ^ (64 - m % 64) := ⟨_, rfl⟩
      have q4 : (x : Int) / 2 ^ (64 - m % 64) = (z : Int) := by rw [div_pow_cast, hz]
      have HZB : Hid (z < 2 ^ (m % 64)) := by
        rw [Hid, hz, Nat.div_lt_iff_lt_mul (Nat.pow_pos (by decide)), ← Nat.pow_add, show m % 64 + (64 - m % 64) = 64 by omega]; exact hx1
      have hzb : z < 18446744073709551616 := by have := HZB.out; have := pow_le_word (m % 64) hshb; omega
      have q5 : ((sk : Int) + (k : Int)).toNat = sk + k := by omega
      have q6 : ((sk : Int) + (k : Int) + 1).toNat = sk + k + 1 := by omega
      have HY : Hid (y = c + x * 2 ^ (m % 64) % 18446744073709551616) := hy
      have HZZ : Hid (z = x / 2 ^ (64 - m % 64)) := hz
      clear hx hc hy hz hcx hc2
      go_wp2_with fail
      go_region
      have hO2 := (hO.set (i := sk + k) (by omega) (v := (y : Int)) (by omega) (by omega)).keep ((Below.refl _ _).drew)
      have hbr2 : Below w.heap.size w (wr.setCell ⟨w.heap.size, 0 + (sk + k), none⟩ (.int .u64 (y : Int))).drew := (hbr.setCell (Nat.le_refl _) _).drew
      rw [Nat.zero_add] at hO2 hbr2
      have hcell3 : (wr.setCell ⟨w.heap.size, sk + k, none⟩ (.int .u64 (y : Int))).drew.cell? ⟨w.heap.size, sk + k + 1, none⟩ = some (.int .u64 0) := (World.cell?_setCell_other wr _ _ _ (fun e => by have := congrArg Addr.off e; simp at this)).trans hcell2
      have hfz3 : (wr.setCell ⟨w.heap.size, sk + k, none⟩ (.int .u64 (y : Int))).drew.frozen? ⟨w.heap.size, sk + k + 1, none⟩ = false := (World.frozen?_setCell wr _ _ _).trans hfz2
      generalize (wr.setCell ⟨w.heap.size, sk + k, none⟩ (.int .u64 (y : Int))).drew = w2 at hO2 hbr2 hcell3 hfz3 ⊢
      clear hcell hcell2 hfz hfz2 hO hbr hcx2
      go_wp2_with fail
      have hO3 := hO2.set (i := sk + k + 1) (by omega) (v := (z : Int)) (by omega) (by omega)
      rw [Nat.zero_add] at hO3
      refine ⟨⟨k + 1, _, by omega, by go_num, ?_, ?_, ?_, hO3, hbr2.setCell (Nat.le_refl _) _⟩, by simp [intOf]; omega⟩
      · intro j hj
        have := HML.out
        rw [getD_set _ _ _ _ (by rw [List.length_set]; omega), if_neg (by omega), getD_set _ _ _ _ (by omega), if_neg (by omega)]
        exact HZ.out j (by omega)
      · have := HML.out
        rw [Hid, show sk + (k + 1) = sk + k + 1 by omega, getD_set _ _ _ _ (by rw [List.length_set]; omega), if_pos rfl, Int.toNat_natCast]
        exact HZB.out
      · have := HML.out
        exact shl_set xs M k sk (m % 64) m x c y z HM.out hshb (by omega) HCC.out (HZ.out _ (by omega)) HX.out HV.out HY.out HZZ.out
    · have HE : Hid (low xs k = val xs) := low_all xs k (by have := HL.out; omega)
      go_wp2_with fail
      go_ret
      exact ⟨_, _, M, rfl, hO, by rw [HV.out, HE.out], by rw [← HSK.out], hbr⟩
end Go.Proofs.YtfmjgagajlhfoaaDoor

/- The walks of the document's shifts. -/
import Derived.Test.YtlbaphijmonjoaaTMB
import Derived.Test.YtlbaphijmonjoaaNAdd
namespace Go.Proofs.Ytlbaphijmonjoaa
open Go.RowKit

theorem shl_snoc (xs L : List Int) (k sk s m x c y c' : Nat) (hm : m = 64 * sk + s) (hs : s < 64) (hl : L.length = sk + k) (hx : xs.getD k 0 = (x : Int))
    (hv : val L + 18446744073709551616 ^ (sk + k) * c = low xs k * 2 ^ m) (hy : y = c + x * 2 ^ s % 18446744073709551616) (hc : c' = x / 2 ^ (64 - s)) :
    val (L ++ [(y : Int)]) + 18446744073709551616 ^ (sk + (k + 1)) * c' = low xs (k + 1) * 2 ^ m := by
  have e3 : low xs (k + 1) = low xs k + 18446744073709551616 ^ k * x := by show low xs k + _ * (xs.getD k 0).toNat = _; rw [hx, Int.toNat_natCast]
  have e4 := shl_word x s hs
  rw [← hc] at e4
  have e5 : 18446744073709551616 ^ k * x * 2 ^ m = 18446744073709551616 ^ (sk + k) * (x * 2 ^ s) := by
    rw [hm, two64, two64, Nat.pow_add 2 (64 * sk) s, show 64 * (sk + k) = 64 * sk + 64 * k by omega, Nat.pow_add]
    simp only [Nat.mul_assoc, Nat.mul_left_comm, Nat.mul_comm]
  have e6 : 18446744073709551616 ^ (sk + k) * (x * 2 ^ s % 18446744073709551616 + 18446744073709551616 * c') = 18446744073709551616 ^ (sk + k) * (x * 2 ^ s % 18446744073709551616) + 18446744073709551616 ^ (sk + k) * 18446744073709551616 * c' := by rw [Nat.mul_add, Nat.mul_assoc]
  have e7 : 18446744073709551616 ^ (sk + k) * y = 18446744073709551616 ^ (sk + k) * c + 18446744073709551616 ^ (sk + k) * (x * 2 ^ s % 18446744073709551616) := by rw [hy, Nat.mul_add]
  have e8 : val [(y : Int)] = y := by simp [val]
  rw [e3, Nat.add_mul, ← hv, e5, ← e4, e6, val_append, hl, e8, e7, show sk + (k + 1) = sk + k + 1 by omega, Nat.pow_succ]
  generalize 18446744073709551616 ^ (sk + k) * 18446744073709551616 * c' = P
  generalize 18446744073709551616 ^ (sk + k) * (x * 2 ^ s % 18446744073709551616) = Q
  generalize 18446744073709551616 ^ (sk + k) * c = R
  omega
theorem or_words3 (c x s : Nat) (hs : s < 64) (hc : c < 2 ^ s) (hc2 : c < 18446744073709551616) : bits BinOp.or IntKind.u64 (IntKind.u64.wrap ((x : Int) * 2 ^ s)) (c : Int) = ((c + x * 2 ^ s % 18446744073709551616 : Nat) : Int) := by
  rw [mul_pow_cast, wrap_nat, u64_or_nat _ _ (Nat.mod_lt _ (by decide)) hc2, Nat.or_comm, (shl_room c x s hs hc).1]

set_option maxRecDepth 100000 in
set_option maxHeartbeats 4000000 in
theorem nShl_calls (a : Option Addr) (len cap m : Nat) (xs : List Int) (w : World) (h : IsW w a len cap xs) (hm : m ≤ 9223372036854775807) (hb : m / 64 + len ≤ 17592186044000) :
    Calls Try.prog 30 #[.slice a len cap, .int .i64 (m : Int)] w fun e w' => ∃ (ao : Option Addr) (cv : Nat), e = .returned (.slice ao (wordsOf (val xs * 2 ^ m)).length cv) ∧ Own w.heap.size w' ao cv (wordsOf (val xs * 2 ^ m)) ∧ Below w.heap.size w w' := by
  obtain ⟨i0, hi, hz0, hz1, hz2⟩ := info_parts word_info
  obtain ⟨sk, hsk⟩ : ∃ sk, sk = m / 64 := ⟨_, rfl⟩
  obtain ⟨w1, hmk, hown1, hg1⟩ := run_make_full (P := Try.prog) w w.heap.size 28 47 i0 (.int .u64 0) 1 Try.underlying28 hi hz0 hz1 .i64 .i64 sk (by rw [hz2]; omega) (by unfold maxLen; omega) (Nat.le_refl _)
  have hb1 : Below w.heap.size w w1 := (Below.refl _ _).grown hg1 (Nat.le_refl _) (fun q hq => by cases hq)
  have hown1' : w1.ownsRow w.heap.size 47 1 (.slice (some ⟨w.heap.size, 0, none⟩) sk sk) sk ((zeros sk).map (Value.int .u64)) := by
    have e : (madeCells (Value.int .u64 0).cells (sk * 1)).toList = (zeros sk).map (Value.int .u64) := by
      rw [show (Value.int .u64 0).cells = #[Value.int .u64 0] from rfl, toList_madeCells_one, Nat.mul_one, zeros, List.map_replicate]
    rw [← e]; exact hown1
  have q1 : (m : Int) / 64 = (sk : Int) := by omega
  have HM : Hid (m = 64 * sk + m % 64) := by rw [Hid]; omega
  have hshb : m % 64 < 64 := by omega
  have HL : Hid (xs.length = len) := h.1.symm
  rw [← hsk] at hb
  clear hsk hown1 hg1
  go_enter Try.func30, Try.ntmps30
  go_wp2_with fail
  clear hmk q1
  go_loopw [5, 7, 18] (fun vo vc vi wr => ∃ (k c l : Nat) (L : List Int) (ao : Option Addr) (cp : Nat), k ≤ len ∧ vi = .int .i64 k ∧ vc = .int .u64 (c : Int) ∧ vo = .slice ao l cp ∧ Hid (l = sk + k) ∧ Hid (L.length = l) ∧ Hid (AllU L) ∧ Hid (c < 2 ^ (m % 64)) ∧ Hid (val L + 18446744073709551616 ^ (sk + k) * c = low xs k * 2 ^ m) ∧ wr.ownsRow w.heap.size 47 1 (.slice ao l cp) l (L.map (Value.int .u64)) ∧ Below w.heap.size w wr) (fun _ _ vi _ => len - (intOf vi).toNat)
  case atStart => exact ⟨0, 0, sk, zeros sk, _, sk, by omega, rfl, rfl, rfl, rfl, zeros_len sk, zeros_U sk, Nat.pow_pos (by decide), by rw [Hid, val_zeros]; simp [low], hown1', hb1⟩
  case round =>
    clear hown1' hb1
    obtain ⟨k, c, l, L, ao, cp, hk, rfl, rfl, rfl, HLK, HK, HU, HC, HV, hown, hbr⟩ := hrel
    have hsize := hbr.size
    have hc2 : c < 18446744073709551616 := by have := HC.out; have := pow_le_word (m % 64) hshb; omega
    have hlb : l ≤ 17592186044000 := by have := HLK.out; omega
    by_cases hlt : k < len
    · obtain ⟨b, off, ha, hbl, hcx⟩ := h.2.2.2 k hlt
      obtain ⟨x, hx, hx1⟩ := word_nat2 xs h.2.1 k
      have hcx2 : wr.cell? ⟨b, off + k, none⟩ = some (.int .u64 (x : Int)) := by rw [← hx]; exact (hbr.cell (p := ⟨b, off + k, none⟩) hbl).trans hcx
      have HX : Hid (xs.getD k 0 = (x : Int)) := hx
      subst ha
      obtain ⟨y, hy⟩ : ∃ y : Nat, y = c + x * 2 ^ (m % 64) % 18446744073709551616 := ⟨_, rfl⟩
      have hyb : y < 18446744073709551616 := by rw [hy]; exact (shl_room c x (m % 64) hshb HC.out).2
      have q3 : bits BinOp.or IntKind.u64 (IntKind.u64.wrap ((x : Int) * 2 ^ (m % 64))) (c : Int) = (y : Int) := by rw [or_words3 c x (m % 64) hshb HC.out hc2, hy]
      obtain ⟨z, hz⟩ : ∃ z : Nat, z = x / 2 ^ (64 - m % 64) := ⟨_, rfl⟩
      have q4 : (x : Int) / 2 ^ (64 - m % 64) = (z : Int) := by rw [div_pow_cast, hz]
      have HZB : Hid (z < 2 ^ (m % 64)) := by
        rw [Hid, hz, Nat.div_lt_iff_lt_mul (Nat.pow_pos (by decide)), ← Nat.pow_add, show m % 64 + (64 - m % 64) = 64 by omega]; exact hx1
      have HST : Hid _ := shl_snoc xs L k sk (m % 64) m x c y z HM.out hshb (by rw [HK.out, HLK.out]) hx HV.out hy hz
      have HZ0 : Hid (m % 64 = 0 → z = 0) := fun q => by have := HZB.out; rw [q] at this; simp at this; exact this
      clear hx hy hz hcx
      by_cases hs0 : m % 64 = 0
      · have hz00 := HZ0.out hs0
        have q8 : ¬ (0 : Int) < (m : Int) % 64 := by omega
        have HS0 : Hid (m % 64 = 0) := hs0
        clear hs0
        go_wp2_with (at_builtin; refine wpList_append_own _ rfl _ _ 28 rfl w.heap.size 47 i0 (.int .u64 0) 1 8 Try.underlying28 hi hz0 hz1 hz2 rfl (by decide) _ _ _ rfl (hown.alloc _) ⟨wr.heap.size, 0, none⟩ 1 1 [.int .u64 (y : Int)] rfl rfl (cell_one_new _ _ _) (fun x hx => by simp at hx; subst hx; rfl) (by unfold maxLen; omega) (by omega) (by simp; omega) ?_; intro v' w3 hown' hgrow3 hnil3)
        obtain ⟨g3, cap3, hv3, hO3⟩ := own_snoc HK.out hown'
        subst hv3
        have hb3 : Below w.heap.size w w3 := (hbr.alloc hsize _).grown hgrow3 (by simp; omega) (fun q hq => (hown.lt q hq).1)
        have hO4 : w3.ownsRow w.heap.size 47 1 (.slice (some ⟨g3, 0, none⟩) (l + 1) cap3) (l + 1) ((L ++ [(y : Int)]).map (Value.int .u64)) := by
          unfold Own at hO3; rw [List.length_append, HK.out] at hO3; exact hO3
        clear hgrow3 hnil3 hown'
        refine ⟨⟨k + 1, z, l + 1, L ++ [(y : Int)], some ⟨g3, 0, none⟩, cap3, by omega, by go_num, by rw [hz00]; rfl, rfl, by rw [Hid, HLK.out]; omega, by rw [Hid, List.length_append, HK.out]; rfl, HU.out.snoc (by omega) (by omega), HZB, HST, hO4, hb3⟩, by simp [intOf]; omega⟩
      · have q8 : (0 : Int) < (m : Int) % 64 := by omega
        have HS0 : Hid (m % 64 ≠ 0) := hs0
        clear hs0
        go_wp2_with (at_builtin; refine wpList_append_own _ rfl _ _ 28 rfl w.heap.size 47 i0 (.int .u64 0) 1 8 Try.underlying28 hi hz0 hz1 hz2 rfl (by decide) _ _ _ rfl (hown.alloc _) ⟨wr.heap.size, 0, none⟩ 1 1 [.int .u64 (y : Int)] rfl rfl (cell_one_new _ _ _) (fun x hx => by simp at hx; subst hx; rfl) (by unfold maxLen; omega) (by omega) (by simp; omega) ?_; intro v' w3 hown' hgrow3 hnil3)
        obtain ⟨g3, cap3, hv3, hO3⟩ := own_snoc HK.out hown'
        subst hv3
        have hb3 : Below w.heap.size w w3 := (hbr.alloc hsize _).grown hgrow3 (by simp; omega) (fun q hq => (hown.lt q hq).1)
        have hO4 : w3.ownsRow w.heap.size 47 1 (.slice (some ⟨g3, 0, none⟩) (l + 1) cap3) (l + 1) ((L ++ [(y : Int)]).map (Value.int .u64)) := by
          unfold Own at hO3; rw [List.length_append, HK.out] at hO3; exact hO3
        clear hgrow3 hnil3 hown'
        refine ⟨⟨k + 1, z, l + 1, L ++ [(y : Int)], some ⟨g3, 0, none⟩, cap3, by omega, by go_num, by rw [q4], rfl, by rw [Hid, HLK.out]; omega, by rw [Hid, List.length_append, HK.out]; rfl, HU.out.snoc (by omega) (by omega), HZB, HST, hO4, hb3⟩, by simp [intOf]; omega⟩
    · have HKE : Hid (k = len) := by rw [Hid]; omega
      go_wp2_with (at_builtin; refine wpList_append_own _ rfl _ _ 28 rfl w.heap.size 47 i0 (.int .u64 0) 1 8 Try.underlying28 hi hz0 hz1 hz2 rfl (by decide) _ _ _ rfl (hown.alloc _) ⟨wr.heap.size, 0, none⟩ 1 1 [.int .u64 (c : Int)] rfl rfl (cell_one_new _ _ _) (fun x hx => by simp at hx; subst hx; rfl) (by unfold maxLen; omega) (by omega) (by simp; omega) ?_; intro v' w3 hown' hgrow3 hnil3)
      obtain ⟨g3, cap3, hv3, hO3⟩ := own_snoc HK.out hown'
      subst hv3
      have hb3 : Below w.heap.size w w3 := (hbr.alloc hsize _).grown hgrow3 (by simp; omega) (fun q hq => (hown.lt q hq).1)
      clear hgrow3 hnil3 hown'
      have hI := hO3.isW' (HU.out.snoc (by omega) (by omega)) (show (L ++ [(c : Int)]).length = l + 1 by rw [List.length_append, HK.out]; rfl)
      refine Calls.mono (nNorm_calls (some ⟨g3, 0, none⟩) (l + 1) cap3 (L ++ [(c : Int)]) w3 hI (by omega)) ?_
      rintro e w4 ⟨ao4, cv4, rfl, hO4, hb4⟩
      go_wp2_with fail
      go_ret
      have ev : val (L ++ [(c : Int)]) = val xs * 2 ^ m := by
        have e1 := HV.out
        rw [low_all xs k (by have := HL.out; have := HKE.out; omega)] at e1
        rw [val_append, HK.out, HLK.out, ← e1]; simp [val]
      rw [ev] at hO4
      rw [ev]
      exact ⟨ao4, cv4, rfl, hO4.low hb3.size, nbelow_trans hb3 hb4⟩
end Go.Proofs.Ytlbaphijmonjoaa

/- The walk of long division. -/
import Derived.Test.YtfmjgagajlhfoaaDoorNTA
import Derived.Test.YtfmjgagajlhfoaaDoorNDiv1
import Derived.Test.YtfmjgagajlhfoaaDoorNShs
import Derived.Deep.LoopGhost
namespace Go.Proofs.YtfmjgagajlhfoaaDoor
open Go.RowKit

theorem own_partO {B g off : Nat} {w : World} {N c : Nat} {M : List Int} (h : OwnW B w (some ⟨g, off, none⟩) N c M) (i n c' : Nat) (hi : i + n ≤ N) (hc : n ≤ c') : OwnW B w (some ⟨g, off + i, none⟩) n c' ((M.drop i).take n) := by
  have hN := h.1.1
  refine ⟨⟨by rw [List.length_take, List.length_drop]; omega, (h.1.2.1.drop i).take n, ⟨hc, fun e => by cases e⟩, fun j hj => ?_⟩, fun b o j e hj => ?_⟩
  · obtain ⟨b, o, e1, e2, e3⟩ := h.1.2.2.2 (i + j) (by omega)
    simp only [Option.some.injEq, Addr.mk.injEq, and_true] at e1
    obtain ⟨rfl, rfl⟩ := e1
    refine ⟨g, off + i, rfl, e2, ?_⟩
    rw [← Nat.add_assoc] at e3
    rw [e3]
    simp only [List.getD, List.getElem?_take, hj, if_true, List.getElem?_drop]
  · simp only [Option.some.injEq, Addr.mk.injEq, and_true] at e
    obtain ⟨rfl, rfl⟩ := e
    have := h.2 g off (i + j) rfl (by omega)
    rw [← Nat.add_assoc] at this; exact this
theorem own_joinO {B g off : Nat} {w w' : World} {N c : Nat} {M : List Int} (h : OwnW B w (some ⟨g, off, none⟩) N c M) (i n c' : Nat) (S : List Int) (hi : i + n ≤ N) (hS : OwnW B w' (some ⟨g, off + i, none⟩) n c' S) (hup : Upd g (off + i) n w w') : OwnW B w' (some ⟨g, off, none⟩) N c (spliceW M i S) := by
  have hN := h.1.1
  have hn := hS.1.1
  refine ⟨⟨by rw [splice_len M i S (by omega)]; exact hN, splice_U h.1.2.1 hS.1.2.1 i, h.1.2.2.1, fun j hj => ?_⟩, fun b o j e hj => ?_⟩
  · obtain ⟨b, o, e1, e2, e3⟩ := h.1.2.2.2 j hj
    simp only [Option.some.injEq, Addr.mk.injEq, and_true] at e1
    obtain ⟨rfl, rfl⟩ := e1
    refine ⟨g, off, rfl, Nat.lt_of_lt_of_le e2 hup.grown.size, ?_⟩
    rw [splice_get M i S (by omega)]
    by_cases h1 : j < i
    · rw [if_pos h1, hup.cell (off + j) (Or.inl (by omega))]; exact e3
    · rw [if_neg h1]
      by_cases h2 : j < i + S.length
      · rw [if_pos h2]
        obtain ⟨b', o', f1, _, f3⟩ := hS.1.2.2.2 (j - i) (by omega)
        simp only [Option.some.injEq, Addr.mk.injEq, and_true] at f1
        obtain ⟨rfl, rfl⟩ := f1
        rw [show off + i + (j - i) = off + j by omega] at f3
        exact f3
      · rw [if_neg h2, hup.cell (off + j) (Or.inr (by omega))]; exact e3
  · simp only [Option.some.injEq, Addr.mk.injEq, and_true] at e
    obtain ⟨rfl, rfl⟩ := e
    have := h.2 g off j rfl hj
    exact ⟨this.1, (hup.frozen (off + j)).trans this.2⟩
/-- With the top bit set the divisor has as many words as ever. -/
theorem shift_words (v m x : Nat) (hv : v ≠ 0) (hm : m = (wordsOf v).length) (hx : ((wordsOf v).getD (m - 1) 0).toNat = x) : (wordsOf (v * 2 ^ (64 - blen x))).length = m := by
  have h1 := blen_top v hv
  rw [← hm, hx] at h1
  have hxl : blen x ≤ 64 := by
    rw [blen_le, ← hx]
    have := (words_U v).get (m - 1)
    have h64 : (2 : Nat) ^ 64 = 18446744073709551616 := rfl
    omega
  have hm0 : 0 < m := by
    rcases Nat.eq_zero_or_pos m with h | h
    · exact absurd ((words_nil _).1 (List.length_eq_zero_iff.1 (by rw [← hm]; exact h))) hv
    · exact h
  have h2 := blen_mul v (64 - blen x) hv
  rw [h1, show 64 - blen x + (64 * (m - 1) + blen x) = 64 * m by omega] at h2
  have a1 := words_len2 m (v * 2 ^ (64 - blen x))
  have a2 := words_len2 (m - 1) (v * 2 ^ (64 - blen x))
  rw [h2] at a1 a2
  omega
theorem OwnW.gone {B g : Nat} {w : World} {a : Option Addr} {len cap : Nat} {xs : List Int} (h : OwnW B w a len cap xs) (hg : g < B) : 0 < len → ∀ b o, a = some ⟨b, o, none⟩ → b ≠ g := fun hl b o e => by
  have := (h.2 b o 0 e hl).1
  omega

set_option maxRecDepth 100000 in
set_option maxHeartbeats 1000000 in
theorem over_long (u v : Nat) (hge : v ≤ u) (hvW : 18446744073709551616 ≤ v) : OverC u v := by
  intro a b n m w hA hB hn hm
  have hc : 0 ≤ cmpN u v := by unfold cmpN; rw [if_neg (by omega)]; split <;> omega
  have hv0 : v ≠ 0 := by omega
  have hm2 : 2 ≤ m := by
    rcases Nat.lt_or_ge m 2 with h | h
    · exfalso
      have := (words_len 1 v).1 (by rw [← hB.1]; omega)
      omega
    · exact h
  have hmn : m ≤ n := by
    have h1 := (words_len n v).2 (Nat.lt_of_le_of_lt hge ((words_len n u).1 (by rw [← hA.1]; omega)))
    rw [← hB.1] at h1; exact h1
  obtain ⟨m1, hm1⟩ : ∃ m1, m = m1 + 1 := ⟨m - 1, by omega⟩
  obtain ⟨m2, hm22⟩ : ∃ m2, m1 = m2 + 1 := ⟨m1 - 1, by omega⟩
  obtain ⟨x, hx, hxW⟩ := word_nat0 (wordsOf v) (words_U v) m1
  obtain ⟨bb, bo, hbe, hbl, hbc⟩ := hB.2.2.2 m1 (by omega)
  subst hbe
  rw [hx] at hbc
  obtain ⟨s, hs⟩ : ∃ s, s = 64 - blen x := ⟨_, rfl⟩
  have hbx : blen x ≤ 64 := by rw [blen_le]; have : (2 : Nat) ^ 64 = 18446744073709551616 := rfl; omega
  have hx0 : 0 < blen x := by
    rcases Nat.eq_zero_or_pos (blen x) with h | h
    · exfalso
      have h2 := words_last v hv0
      rw [← hB.1, hm1, Nat.add_sub_cancel, hx] at h2
      rw [blen_nil] at h
      omega
    · exact h
  have qs : (64 : Int) - (Lib.bitLen x : Int) = (s : Int) := by rw [blen_lib x hxW]; omega
  have hs64 : s < 64 := by omega
  have HDL : Hid ((wordsOf (v * 2 ^ s)).length = m) := by
    rw [Hid, hs]; exact shift_words v m x hv0 hB.1 (by rw [hm1, Nat.add_sub_cancel, hx, Int.toNat_natCast])
  have HDT : Hid (0 < (wordsOf (v * 2 ^ s)).getD m1 0) := by
    have h1 := words_last (v * 2 ^ s) (Nat.mul_ne_zero hv0 (Nat.ne_of_gt (Nat.pow_pos (by decide))))
    rw [HDL.out, hm1, Nat.add_sub_cancel] at h1
    have h2 := (words_U (v * 2 ^ s)).get m1
    rw [Hid]; omega
  have HD0 : Hid (0 < v * 2 ^ s) := Nat.mul_pos (by omega) (Nat.pow_pos (by decide))
  have HDW : Hid (v * 2 ^ s ≤ 18446744073709551616 ^ m) := Nat.le_of_lt ((words_len m _).1 (by rw [HDL.out]; exact Nat.le_refl _))
  obtain ⟨lq, hlq⟩ : ∃ lq, lq = n + 1 - m := ⟨_, rfl⟩
  have HST : Hid (u * 2 ^ s < v * 2 ^ s * 18446744073709551616 ^ lq) := by
    rw [Hid, hlq]
    exact over_start u v s m n ((words_len n u).1 (by rw [← hA.1]; exact Nat.le_refl _)) (by
      rcases Nat.lt_or_ge v (18446744073709551616 ^ (m - 1)) with h | h
      · exfalso
        have := (words_len (m - 1) v).2 h
        rw [← hB.1] at this; omega
      · exact h) (by omega) hmn
  have qm : (m : Int) - 1 = (m1 : Int) := by omega
  have hne1 : ((m : Int) == 1) = false := by simp; omega
  have HV0 : Hid (0 < v) := by rw [Hid]; omega
  have AG : Hid _ := against_calls a (some ⟨bb, bo, none⟩) n m u v w hA hB (by omega) (by omega)
  have HMM : Hid (m = m1 + 1 ∧ m1 = m2 + 1 ∧ lq = n + 1 - m) := ⟨hm1, hm22, hlq⟩
  have im : (m1 : Int) < (m : Int) := by omega
  clear hge hvW hv0 hx hs hm1 hm22 hlq hx0 hbx
  go_enter Tryd.func58, Tryd.ntmps58
  go_wp2_with fail
  refine Calls.mono AG.out ?_
  rintro e w1 ⟨rfl, hb1⟩
  generalize cmpN u v = cc at hc ⊢
  have hA1 := hA.keep hb1
  have hB1 := hB.keep hb1
  have hbc1 := carry_cell hb1 hbc
  clear AG hA hB hbc hbl
  go_wp2_with fail
  refine Calls.mono (Tryd.bits_LeadingZeros64 _ _ (by omega) (by omega)) ?_
  rintro e w1 ⟨rfl, rfl⟩
  rw [Int.toNat_natCast, qs]
  clear qs hbc1 hxW
  go_wp2_with fail
  refine Calls.mono (left_calls (some ⟨bb, bo, none⟩) m s (wordsOf v) w1 hB1 hm (by omega)) ?_
  rintro e w2 ⟨ao, k, M, rfl, hO2, hv2, hk2, hb2⟩
  rw [val_words] at hv2
  have HV2 : Hid (val M = v * 2 ^ s) := hv2
  have hk3 : k ≤ 1025 := by omega
  have hA2 := hA1.keep hb2
  clear hv2 hk2 hB1 hA1
  go_wp2_with fail
  refine Calls.mono (trimW_pack _ ao k k M w2 hO2 (by omega)) ?_
  rintro e w2 ⟨ad, md, rfl, hmd, hOd, rfl⟩
  rw [HV2.out] at hmd hOd
  rw [HDL.out] at hmd
  subst hmd
  clear HV2 hO2 hk3
  go_wp2_with fail
  refine Calls.mono (left_calls a n s (wordsOf u) w2 hA2 hn (by omega)) ?_
  rintro e w3 ⟨al, kl, L0, rfl, hO3, hv3, hk3, hb3⟩
  rw [val_words] at hv3
  have HV3 : Hid (val L0 = u * 2 ^ s) := hv3
  have hkl : kl = n + 1 := by omega
  have hOd3 := hOd.keep hb3
  obtain ⟨g, off, hal, hgl, _⟩ := hO3.1.2.2.2 0 (by omega)
  subst hal
  have hgB : w2.heap.size ≤ g := (hO3.2 g off 0 rfl (by omega)).1
  obtain ⟨gd, od, had, hdl, _⟩ := hOd.1.2.2.2 0 (by omega)
  subst had
  have hgd : gd ≠ g := by omega
  have hgdq : gd ≠ w3.heap.size := by have := hb3.size; omega
  have q2 : (kl : Int) - (md : Int) = (lq : Int) := by have := HMM.out; omega
  have hlqb : lq ≤ 1024 := by have := HMM.out; omega
  have HKL : Hid (kl = lq + md) := by have := HMM.out; rw [Hid]; omega
  have hlq0 : 0 < lq := by have := HMM.out; omega
  obtain ⟨w4, hmk, hO4, hb4, hz4⟩ := make_words 46 words_T w3 lq (by omega)
  have hbase : Below w.heap.size w w4 := nbelow_trans (nbelow_trans (nbelow_trans hb1 hb2) hb3) hb4
  have hO34 := hO3.keep hb4
  have hOd4 := hOd3.keep hb4
  have hgl4 : g < w4.heap.size := by omega
  have hwg : w.heap.size ≤ g := by have := hb1.size; have := hb2.size; omega
  have hwq : w.heap.size ≤ w3.heap.size := by omega
  clear hv3 hk3 hA2 hOd hOd3 hO3 hkl hb1 hb2 hb3 hb4 hdl
  go_wp2_with fail
  clear hmk q2
  have H0 : Hid (OwnW w2.heap.size w4 (some ⟨g, off, none⟩) kl kl L0 ∧ OwnW w3.heap.size w4 (some ⟨w3.heap.size, 0, none⟩) lq lq (zeros lq) ∧ IsW w4 (some ⟨gd, od, none⟩) md md (wordsOf (v * 2 ^ s)) ∧ Below w.heap.size w w4) := ⟨hO34, hO4, hOd4.1, hbase⟩
  have hwqs : w3.heap.size < w4.heap.size := hz4
  clear hO34 hO4 hOd4 hbase hz4
  go_loopg [10] lq (fun j vi wr => ∃ (L Q : List Int), j ≤ lq ∧ vi = .int .i64 ((j : Int) - 1) ∧ Hid (val L < v * 2 ^ s * 18446744073709551616 ^ j) ∧ Hid (u * 2 ^ s = v * 2 ^ s * 18446744073709551616 ^ j * val (Q.drop j) + val L) ∧ OwnW w2.heap.size wr (some ⟨g, off, none⟩) kl kl L ∧ OwnW w3.heap.size wr (some ⟨w3.heap.size, 0, none⟩) lq lq Q ∧ IsW wr (some ⟨gd, od, none⟩) md md (wordsOf (v * 2 ^ s)) ∧ Below w.heap.size w wr)
  case atStart => exact ⟨L0, zeros lq, Nat.le_refl _, rfl, by rw [Hid, HV3.out]; exact HST.out, by rw [Hid, HV3.out, List.drop_of_length_le (by rw [zeros_len]; exact Nat.le_refl _)]; simp [val], H0.out.1, H0.out.2.1, H0.out.2.2.1, H0.out.2.2.2⟩
  case round =>
    clear H0
    obtain ⟨L, Q, hj, rfl, HLT, HV, hOL, hOQ, hD, hbr⟩ := hrel
    have HLL : Hid (L.length = lq + md) := by rw [Hid, ← hOL.1.1]; exact HKL.out
    have HQL : Hid (Q.length = lq) := hOQ.1.1.symm
    cases gk with
    | zero =>
      have HE : Hid (val Q = u / v ∧ val (L.take md) / 2 ^ s = u % v) := over_end L Q u v s md lq HLL.out HV0.out HDW.out (by have := HLT.out; simpa using this) (by have := HV.out; simpa using this)
      have hkm : md ≤ kl := by have := HKL.out; omega
      go_wp2_with fail
      refine Calls.mono (trimW_pack _ (some ⟨g, off, none⟩) md kl (L.take md) wr (own_pre hOL md hkm) (by omega)) ?_
      rintro e wr ⟨ar, nr, rfl, hnr, hOr, rfl⟩
      have hnr2 : nr ≤ 1024 := by
        rw [hnr]
        have h1 := words_le (L.take md) (hOL.1.2.1.take md)
        rw [List.length_take] at h1
        omega
      clear hnr
      go_wp2_with fail
      refine Calls.mono (right_calls ar nr s _ wr hOr.1 hnr2 (by omega)) ?_
      rintro e w6 ⟨a6, k6, M6, rfl, hO6, hv6, hk6, hb6⟩
      rw [val_words] at hv6
      have HV6 : Hid (val M6 = u % v) := by rw [Hid, hv6]; exact HE.out.2
      have hwr : w.heap.size ≤ wr.heap.size := hbr.size
      clear hv6
      go_wp2_with fail
      go_ret2
      exact ⟨some ⟨w3.heap.size, 0, none⟩, a6, lq, lq, k6, k6, Q, M6, rfl, (hOQ.keep hb6).low hwq, HE.out.1, by omega, hO6.low hwr, HV6.out, by omega, nbelow_trans hbr hb6⟩
    | succ j =>
      have hkl2 := HKL.out
      have hP := own_partO hOL j (md + 1) (kl - j) (by omega) (by omega)
      have OR : Hid _ := fun (S : List Int) (q : Nat) (hS : S.length = md + 1) => over_round L S Q (u * 2 ^ s) (v * 2 ^ s) j md lq q HLL.out (by omega) HQL.out HDW.out hOL.1.2.1 HD0.out hS HLT.out HV.out
      have hseg : val ((L.drop j).take (md + 1)) < v * 2 ^ s * 18446744073709551616 := (OR.out (zeros (md + 1)) 0 (zeros_len _)).1
      have TC : Hid _ := takeOften_calls w2.heap.size g (off + j) md m1 m2 (md + 1) (kl - j) md (some ⟨gd, od, none⟩) ((L.drop j).take (md + 1)) (wordsOf (v * 2 ^ s)) wr HMM.out.1 HMM.out.2.1 rfl (by omega) hP hD (fun b' o e => by simp only [Option.some.injEq, Addr.mk.injEq, and_true] at e; rw [← e.1]; exact hgd) HDT.out (by rw [val_words]; exact hseg)
      have hup1 : j + md + 1 ≤ kl := by omega
      have hln : j + md + 1 - j = md + 1 := by omega
      have hjl : j < lq := by omega
      clear hP hseg hkl2
      go_wp2_with fail
      refine Calls.mono TC.out ?_
      rintro e w5 ⟨S, q, rfl, hq, hS, hqe, hSe, hup⟩
      rw [val_words] at hqe hSe
      have HR : Hid _ := (OR.out S q hS.1.1.symm).2 hqe hSe
      have hOL5 := own_joinO hOL j (md + 1) (kl - j) S (by omega) hS hup
      have hgq : g ≠ w3.heap.size := by omega
      have hOQ5 := hOQ.grown hup.grown (fun b' o e => by simp only [Option.some.injEq, Addr.mk.injEq, and_true] at e; simp only [Option.some.injEq, ne_eq]; rw [← e.1]; exact fun e2 => hgq e2.symm)
      have hD5 := hD.grown hup.grown (fun b' o e => by simp only [Option.some.injEq, Addr.mk.injEq, and_true] at e; simp only [Option.some.injEq, ne_eq]; rw [← e.1]; exact hgd)
      have hb5 : Below w.heap.size w w5 := hbr.grown hup.grown hbr.size (fun k e => by simp at e; omega)
      obtain ⟨_, _, e1, _, hcell⟩ := hOQ5.1.2.2.2 j hjl
      simp only [Option.some.injEq, Addr.mk.injEq, and_true] at e1
      obtain ⟨rfl, rfl⟩ := e1
      have hfz := (hOQ5.2 _ _ j rfl hjl).2
      have hOQ6 := hOQ5.set (i := j) hjl (v := (q : Int)) (by omega) (by omega)
      have hOL6 := hOL5.other ⟨w3.heap.size, 0 + j, none⟩ (.int .u64 (q : Int)) (fun b' o e => by simp only [Option.some.injEq, Addr.mk.injEq, and_true] at e; rw [← e.1]; exact fun e2 => hgq e2.symm)
      have hD6 := hD5.other ⟨w3.heap.size, 0 + j, none⟩ (.int .u64 (q : Int)) (fun b' o e => by simp only [Option.some.injEq, Addr.mk.injEq, and_true] at e; rw [← e.1]; exact fun e2 => hgdq e2.symm)
      rw [Nat.zero_add] at hcell hfz hOQ6 hOL6 hD6
      generalize Q.getD j 0 = oldq at hcell
      have HN : Hid (OwnW w2.heap.size (w5.setCell ⟨w3.heap.size, j, none⟩ (.int .u64 (q : Int))) (some ⟨g, off, none⟩) kl kl (spliceW L j S) ∧ OwnW w3.heap.size (w5.setCell ⟨w3.heap.size, j, none⟩ (.int .u64 (q : Int))) (some ⟨w3.heap.size, 0, none⟩) lq lq (Q.set j (q : Int)) ∧ IsW (w5.setCell ⟨w3.heap.size, j, none⟩ (.int .u64 (q : Int))) (some ⟨gd, od, none⟩) md md (wordsOf (v * 2 ^ s)) ∧ Below w.heap.size w (w5.setCell ⟨w3.heap.size, j, none⟩ (.int .u64 (q : Int)))) := ⟨hOL6, hOQ6, hD6, hb5.setCell (by show w.heap.size ≤ w3.heap.size; exact hwq) _⟩
      clear hqe hSe hS hup hOL5 hOQ5 hD5 hb5 hOQ6 hOL6 hD6 hOL hOQ hD hbr TC OR
      go_wp2_with fail
      go_roundg j
      case measure => omega
      case rel => exact ⟨_, _, by omega, by go_num, HR.out.1, HR.out.2, HN.out.1, HN.out.2.1, HN.out.2.2.1, HN.out.2.2.2⟩
theorem over_any (u v : Nat) (hv : 0 < v) : OverC u v := by
  by_cases h1 : u < v
  · exact over_small u v h1
  · by_cases h2 : v < 18446744073709551616
    · exact over_one u v hv h2
    · exact over_long u v (by omega) (by omega)
end Go.Proofs.YtfmjgagajlhfoaaDoor

/- The walks of the document's short division and Text. -/
import Derived.Test.YtkkldnnndlpblaaGreatDoorNTx0
import Derived.Test.YtkkldnnndlpblaaGreatDoorTMC
import Derived.Test.YtkkldnnndlpblaaGreatDoorTMG
import Derived.Test.YtkkldnnndlpblaaGreatDoorNChunk
import Derived.Test.YtkkldnnndlpblaaGreatDoorTMB
import Derived.Laws.IdiomStrings
import Derived.Lib.UnsafeStr
import Derived.Deep.LoopGhost
namespace Go.Proofs.YtkkldnnndlpblaaGreatDoor
open Go.RowKit

/-- Half a word at a time. -/
theorem short_num (r x : Nat) (hr : r < 10) (hx : x < 18446744073709551616) (h lw : Nat) (hh : h = r * 4294967296 + x / 4294967296) (hl : lw = h % 10 * 4294967296 + x % 4294967296) :
    h / 10 * 4294967296 + lw / 10 = (r * 18446744073709551616 + x) / 10 ∧ lw % 10 = (r * 18446744073709551616 + x) % 10 ∧ h < 42949672960 ∧ lw < 42949672960 ∧ h / 10 * 4294967296 + lw / 10 < 18446744073709551616 := by
  omega

set_option maxRecDepth 100000 in
set_option maxHeartbeats 4000000 in
theorem nShort_calls (a : Option Addr) (len cap : Nat) (xs : List Int) (w : World) (h : IsW w a len cap xs) (hm : len ≤ 17592186044000) :
    Calls Tryz.prog 99 #[.slice a len cap, .int .u64 10] w fun e w' => ∃ (ao : Option Addr) (n cv : Nat), e = .returned (.tuple #[.slice ao n cv, .int .u64 ((val xs % 10 : Nat) : Int)]) ∧ n = (wordsOf (val xs / 10)).length ∧ OwnW w.heap.size w' ao n cv (wordsOf (val xs / 10)) ∧ Below w.heap.size w w' := by
  have HL0 : Hid (len = xs.length) := h.1
  have HU0 : Hid (AllU xs) := h.2.1
  obtain ⟨w1, hmk, hO1, hb1, hz1⟩ := make_words 24 nat_T w len (by omega)
  go_enter Tryz.func99, Tryz.ntmps99
  go_wp2_with fail
  clear hmk
  have H0 : Hid (OwnW w.heap.size w1 (some ⟨w.heap.size, 0, none⟩) len len (zeros len) ∧ Below w.heap.size w w1) := ⟨hO1, hb1⟩
  clear hO1 hb1 hz1
  go_loopw [7, 8] (fun vr vi wr => ∃ (k : Nat) (M : List Int) (r : Nat), k ≤ len ∧ vi = .int .i64 ((k : Int) - 1) ∧ vr = .int .u64 (r : Int) ∧ r < 10 ∧ Hid (val (M.drop k) = val (xs.drop k) / 10) ∧ Hid (r = val (xs.drop k) % 10) ∧ OwnW w.heap.size wr (some ⟨w.heap.size, 0, none⟩) len len M ∧ Below w.heap.size w wr) (fun _ vi _ => (intOf vi + 1).toNat)
  case atStart => exact ⟨len, zeros len, 0, Nat.le_refl _, rfl, rfl, by decide, by rw [Hid, List.drop_of_length_le (by rw [zeros_len]; exact Nat.le_refl _), HL0.out, List.drop_length]; simp [val], by rw [Hid, HL0.out, List.drop_length]; simp [val], H0.out.1, H0.out.2⟩
  case round =>
    obtain ⟨k, M, r, hk, rfl, rfl, hr, HV, HR, hO, hbr⟩ := hrel
    clear H0
    have HL : Hid (len = M.length) := hO.1.1
    cases k with
    | zero =>
      rw [show (((0 : Nat) : Int) - 1) = -1 from rfl]
      have NC : Hid _ := nNorm_calls (some ⟨w.heap.size, 0, none⟩) len len M wr hO.1 (by omega)
      have HV0 : Hid (val M = val xs / 10) := by have := HV.out; rwa [List.drop_zero, List.drop_zero] at this
      have HR0 : Hid (r = val xs % 10) := by have := HR.out; rwa [List.drop_zero] at this
      rw [HV0.out] at NC
      have hsz := hbr.size
      go_wp2_with fail
      refine Calls.mono NC.out ?_
      rintro e w2 ⟨ao, cv, rfl, hO2, hb2⟩
      have hW2 := hO2.ownW (words_U _) rfl
      clear NC hO hO2
      go_wp2_with fail
      go_ret2
      exact ⟨ao, _, cv, by rw [← HR0.out]; rfl, rfl, hW2.low hsz, nbelow_trans hbr hb2⟩
    | succ k =>
      obtain ⟨x, hx, hx1⟩ := word_nat0 xs HU0.out k
      obtain ⟨ba, oa, hae, hal, hac⟩ := h.2.2.2 k (by omega)
      have hac2 : wr.cell? ⟨ba, oa + k, none⟩ = some (.int .u64 (x : Int)) := by rw [← hx]; exact (hbr.cell (p := ⟨ba, oa + k, none⟩) hal).trans hac
      have HX : Hid (xs.getD k 0 = (x : Int)) := hx
      obtain ⟨_, _, e1, _, hcell⟩ := hO.1.2.2.2 k (by omega)
      simp only [Option.some.injEq, Addr.mk.injEq, and_true] at e1
      obtain ⟨rfl, rfl⟩ := e1
      have hfz := (hO.2 _ _ k rfl (by omega)).2
      rw [Nat.zero_add] at hcell hfz
      generalize M.getD k 0 = old at hcell
      have ek : (((k + 1 : Nat) : Int) - 1) = (k : Int) := by omega
      rw [ek]
      obtain ⟨hh, h1⟩ : ∃ hh, hh = r * 4294967296 + x / 4294967296 := ⟨_, rfl⟩
      obtain ⟨lw, h2⟩ : ∃ lw, lw = hh % 10 * 4294967296 + x % 4294967296 := ⟨_, rfl⟩
      obtain ⟨n1, n2, n3, n4, n5⟩ := short_num r x hr hx1 hh lw h1 h2
      obtain ⟨q, hq⟩ : ∃ q, q = hh / 10 * 4294967296 + lw / 10 := ⟨_, rfl⟩
      obtain ⟨r2, hr2⟩ : ∃ r2, r2 = lw % 10 := ⟨_, rfl⟩
      obtain ⟨xh, hxh⟩ : ∃ xh, xh = x / 4294967296 := ⟨_, rfl⟩
      obtain ⟨xl, hxl⟩ : ∃ xl, xl = x % 4294967296 := ⟨_, rfl⟩
      obtain ⟨hq1, hhq⟩ : ∃ hq1, hq1 = hh / 10 := ⟨_, rfl⟩
      obtain ⟨hm1, hhm⟩ : ∃ hm1, hm1 = hh % 10 := ⟨_, rfl⟩
      obtain ⟨lq, hlq⟩ : ∃ lq, lq = lw / 10 := ⟨_, rfl⟩
      have d1 : (x : Int) / 4294967296 = (xh : Int) := by omega
      have d2 : (x : Int) % 4294967296 = (xl : Int) := by omega
      have d3 : (hh : Int) / 10 = (hq1 : Int) := by omega
      have d4 : (hh : Int) % 10 = (hm1 : Int) := by omega
      have d5 : (lw : Int) / 10 = (lq : Int) := by omega
      have d6 : (lw : Int) % 10 = (r2 : Int) := by omega
      have t3 : (hh : Int).tdiv 10 = (hq1 : Int) := by rw [Int.tdiv_eq_ediv_of_nonneg (by omega)]; omega
      have t4 : (hh : Int).tmod 10 = (hm1 : Int) := by rw [Int.tmod_eq_emod_of_nonneg (by omega)]; omega
      have t5 : (lw : Int).tdiv 10 = (lq : Int) := by rw [Int.tdiv_eq_ediv_of_nonneg (by omega)]; omega
      have t6 : (lw : Int).tmod 10 = (r2 : Int) := by rw [Int.tmod_eq_emod_of_nonneg (by omega)]; omega
      have u1 : IntKind.u64.wrap (xh : Int) = (xh : Int) := by rw [IntKind.wrap_u64]; omega
      have u2 : IntKind.u64.wrap (hq1 : Int) = (hq1 : Int) := by rw [IntKind.wrap_u64]; omega
      have u3 : IntKind.u64.wrap (lq : Int) = (lq : Int) := by rw [IntKind.wrap_u64]; omega
      obtain ⟨m1, hm1'⟩ : ∃ m1, m1 = r * 4294967296 := ⟨_, rfl⟩
      obtain ⟨m2, hm2'⟩ : ∃ m2, m2 = hm1 * 4294967296 := ⟨_, rfl⟩
      obtain ⟨m3, hm3'⟩ : ∃ m3, m3 = hq1 * 4294967296 := ⟨_, rfl⟩
      have s1 : IntKind.u64.wrap ((r : Int) * 4294967296) = (m1 : Int) := by rw [IntKind.wrap_u64]; omega
      have s2 : IntKind.u64.wrap ((m1 : Int) + (xh : Int)) = (hh : Int) := by rw [IntKind.wrap_u64]; omega
      have s3 : IntKind.u64.wrap ((hm1 : Int) * 4294967296) = (m2 : Int) := by rw [IntKind.wrap_u64]; omega
      have s4 : IntKind.u64.wrap ((m2 : Int) + (xl : Int)) = (lw : Int) := by rw [IntKind.wrap_u64]; omega
      have s5 : IntKind.u64.wrap ((hq1 : Int) * 4294967296) = (m3 : Int) := by rw [IntKind.wrap_u64]; omega
      have s6 : IntKind.u64.wrap ((m3 : Int) + (lq : Int)) = (q : Int) := by rw [IntKind.wrap_u64]; omega
      have HDS : Hid _ := divBy_step (val (xs.drop (k + 1))) (val (M.drop (k + 1))) x r 10 (by decide) HV.out HR.out
      rw [← n1, ← n2, ← hq, ← hr2] at HDS
      have hqb : q ≤ 18446744073709551615 := by omega
      have hrb : r2 < 10 := by omega
      subst hae
      have hne : ba ≠ w.heap.size := by omega
      clear hx hac h1 h2 n1 n2 n3 n4 n5 hq hr2 hxh hxl hhq hhm hlq hm1' hm2' hm3' ek hx1 HV HR
      go_wp2_with fail
      go_quiet (fail)
      go_wp2_with fail
      go_region
      all_goals
        clear d1 d2 d3 d4 d5 d6 t3 t4 t5 s1 s2 s3 s4 s5 s6 u1 u2 u3
        go_wp2_with fail
        have hL1 := HL.out
        have hL0 := HL0.out
        have hO3 := (hO.keep (below_drewN (Below.refl _ _) (nq + 1))).set (i := k) (by omega) (v := (q : Int)) (by omega) (by omega)
        rw [Nat.zero_add] at hO3
        refine ⟨⟨k, M.set k (q : Int), r2, by omega, rfl, rfl, hrb, ?_, ?_, hO3, (below_drewN hbr (nq + 1)).setCell (Nat.le_refl _) _⟩, by simp [intOf]⟩
        · rw [Hid, drop_set_val M k _ (by omega), Int.toNat_natCast, HDS.out.1, drop_val xs k (by omega), HX.out, Int.toNat_natCast]
        · rw [Hid, HDS.out.2, drop_val xs k (by omega), HX.out, Int.toNat_natCast]

/-- The digits, none of 0. -/
def digR (v : Nat) : List UInt8 := if v = 0 then [] else Lib.decDigits v
theorem digR_zero : digR 0 = [] := rfl
theorem digR_pos {v : Nat} (h : v ≠ 0) : digR v = Lib.decDigits v := by unfold digR; rw [if_neg h]
theorem digR_step {v : Nat} (h : v ≠ 0) : digR v = digR (v / 10) ++ [UInt8.ofNat (48 + v % 10)] := by
  rw [digR_pos h]
  by_cases q : v < 10
  · rw [show v / 10 = 0 by omega, digR_zero, dec_small q, Nat.mod_eq_of_lt q]; rfl
  · rw [digR_pos (show v / 10 ≠ 0 by omega), dec_big q]
theorem digR_len (v : Nat) (h : greatB v = false) : (digR v).length ≤ 65536 := by
  by_cases q : v = 0
  · rw [q, digR_zero]; simp
  · rw [digR_pos q, Lib.decDigits_length]
    have h1 : v < 2 ^ 65536 := (blen_le v 65536).1 ((great_not v).1 h)
    suffices hs : ∀ K, K = 65536 → Lib.nDigits v ≤ K from hs _ rfl
    intro K hK
    rw [← hK] at h1
    refine nDigits_le K v (Nat.lt_of_lt_of_le h1 ?_) (by omega)
    exact Nat.pow_le_pow_left (by decide) K
/-- Bytes in memory of the call's own, from block B on. -/
def OwB (B : Nat) (w : World) (g n : Nat) (L : List UInt8) : Prop :=
  n = L.length ∧ B ≤ g ∧ ∀ j, j < n → g < w.heap.size ∧ w.cell? ⟨g, j, none⟩ = some (.int .u8 ((L.getD j 0).toNat : Int)) ∧ w.frozen? ⟨g, j, none⟩ = false
theorem OwB.set {B g n : Nat} {w : World} {L : List UInt8} (h : OwB B w g n L) {i : Nat} (hi : i < n) (b : UInt8) : OwB B (w.setCell ⟨g, i, none⟩ (.int .u8 (b.toNat : Int))) g n (L.set i b) := by
  refine ⟨by rw [List.length_set]; exact h.1, h.2.1, fun j hj => ?_⟩
  obtain ⟨h1, h2, h3⟩ := h.2.2 j hj
  refine ⟨by rw [World.size_setCell]; exact h1, ?_, by rw [World.frozen?_setCell]; exact h3⟩
  by_cases q : i = j
  · subst q
    have e : (L.set i b).getD i 0 = b := by have := h.1; simp [List.getD, show i < L.length by omega]
    rw [e]; exact World.cell?_setCell_same w _ _ h2
  · have e : (L.set i b).getD j 0 = L.getD j 0 := by simp [List.getD, q]
    rw [e]; exact (World.cell?_setCell_other (w := w) (a := ⟨g, i, none⟩) (b := ⟨g, j, none⟩) (v := .int .u8 (b.toNat : Int)) (fun e => q (congrArg Addr.off e))).trans h2
theorem own_bytes {B g n c : Nat} {w : World} {L : List UInt8} (hn : n = L.length) (h : w.ownsRow B 5 1 (.slice (some ⟨g, 0, none⟩) n c) n (Lib.byteCells L)) (h0 : 0 < n) : OwB B w g n L := by
  rcases h.2 with ⟨_, q⟩ | ⟨g', cap, cur, hv, hg, hh, _⟩
  · omega
  · simp only [Value.slice.injEq, Option.some.injEq, Addr.mk.injEq, and_true] at hv
    obtain ⟨rfl, _⟩ := hv
    refine ⟨hn, hg, fun j hj => ?_⟩
    have hc := h.cells (g := g) rfl j (.int .u8 ((L.getD j 0).toNat : Int)) (by simp [Lib.byteCells, List.getD, show j < L.length by omega])
    have hc' : w.cell? ⟨g, j, none⟩ = some (.int .u8 ((L.getD j 0).toNat : Int)) := by
      by_cases h0 : j = 0
      · subst h0; simpa [Addr.add] using hc
      · simpa [Addr.add, h0] using hc
    exact ⟨World.block_lt_of_cell? _ _ hc', hc', by simp [World.frozen?, hh]⟩
/-- The list with k bytes at either end put about. -/
def revK (L : List UInt8) (k : Nat) : List UInt8 := (List.range L.length).map fun j => if j < k ∨ L.length - k ≤ j then L.getD (L.length - 1 - j) 0 else L.getD j 0
theorem revK_len (L : List UInt8) (k : Nat) : (revK L k).length = L.length := by simp [revK]
theorem revK_get (L : List UInt8) (k j : Nat) (h : j < L.length) : (revK L k).getD j 0 = if j < k ∨ L.length - k ≤ j then L.getD (L.length - 1 - j) 0 else L.getD j 0 := by
  simp [revK, List.getD, h]
theorem ext_getD (L M : List UInt8) (hl : L.length = M.length) (h : ∀ j, j < L.length → L.getD j 0 = M.getD j 0) : L = M := by
  apply List.ext_getElem hl
  intro j h1 h2
  have := h j h1
  simpa [List.getD, h1, h2] using this
theorem revK_zero (L : List UInt8) : revK L 0 = L := ext_getD _ _ (revK_len _ _) fun j hj => by
  rw [revK_len] at hj
  rw [revK_get L 0 j hj, if_neg (by omega)]
theorem revK_end (L : List UInt8) : revK L (L.length / 2) = L.reverse := ext_getD _ _ (by rw [revK_len, List.length_reverse]) fun j hj => by
  rw [revK_len] at hj
  have e : L.reverse.getD j 0 = L.getD (L.length - 1 - j) 0 := by
    simp only [List.getD]
    rw [List.getElem?_reverse hj]
  rw [e, revK_get L _ j hj]
  by_cases q : j < L.length / 2 ∨ L.length - L.length / 2 ≤ j
  · rw [if_pos q]
  · rw [if_neg q]; congr 1; omega
theorem revK_step (L : List UInt8) (k : Nat) (h : k < L.length / 2) : ((revK L k).set k (L.getD (L.length - 1 - k) 0)).set (L.length - 1 - k) (L.getD k 0) = revK L (k + 1) := ext_getD _ _ (by simp [revK_len]) fun j hj => by
  rw [List.length_set, List.length_set, revK_len] at hj
  rw [revK_get L (k + 1) j hj]
  have e1 : ∀ (M : List UInt8) (i : Nat) (b : UInt8), M.length = L.length → i < L.length → (M.set i b).getD j 0 = if i = j then b else M.getD j 0 := fun M i b hM hi => by
    by_cases q : i = j
    · subst q; simp [List.getD, hM, hi]
    · simp [List.getD, q]
  rw [e1 _ _ _ (by rw [List.length_set, revK_len]) (by omega), e1 _ _ _ (revK_len _ _) (by omega), revK_get L k j hj]
  by_cases q1 : L.length - 1 - k = j
  · rw [if_pos q1, if_pos (by omega)]; congr 1; omega
  · rw [if_neg q1]
    by_cases q2 : k = j
    · rw [if_pos q2, if_pos (by omega), q2]
    · rw [if_neg q2]
      by_cases q3 : j < k ∨ L.length - k ≤ j
      · rw [if_pos q3, if_pos (by omega)]
      · rw [if_neg q3, if_neg (by omega)]
theorem byte_info : (Tryz.prog.info? 5).map (fun i => (i.zero, i.size, i.bytes)) = some (some (.int .u8 0), 1, 1) := by kernel_rfl
theorem bytes_form {B k : Nat} {w : World} {v : Value} {cs : List Value} (hp : 0 < k) (h : w.ownsRow B 5 1 v k cs) : ∃ g cap, v = .slice (some ⟨g, 0, none⟩) k cap := by
  rcases h.2 with ⟨_, h⟩ | ⟨g3, cap3, _, h, _⟩
  · omega
  · exact ⟨g3, cap3, h⟩
theorem OwnW.grownP {B : Nat} {w w' : World} {a : Option Addr} {len cap : Nat} {xs : List Int} {row : Option Nat} (h : OwnW B w a len cap xs) (hg : w.grownBy w' row) (hne : 0 < len → ∀ b off, a = some ⟨b, off, none⟩ → some b ≠ row) : OwnW B w' a len cap xs := by
  by_cases q : 0 < len
  · exact h.grown hg (hne q)
  · exact ⟨⟨h.1.1, h.1.2.1, h.1.2.2.1, fun i hi => by omega⟩, fun _ _ i _ hi => by omega⟩

set_option maxRecDepth 100000 in
set_option maxHeartbeats 4000000 in
theorem nText_calls (a : Option Addr) (len cap : Nat) (xs : List Int) (w : World) (h : IsW w a len cap xs) (hm : len ≤ 17592186044000) (hg : greatB (val xs) = false) :
    Calls Tryz.prog 52 #[.slice a len cap] w fun e w' => e = .returned (.string ⟨(Lib.decDigits (val xs)).toArray⟩) ∧ Below w.heap.size w w' := by
  obtain ⟨i0, hi, hz0, hz1, hz2⟩ := info_parts byte_info
  have NC : Hid _ := nNorm_calls a len cap xs w h (by omega)
  have hw : (wordsOf (val xs)).length ≤ 1024 := (great_len _).1 hg
  have HDL : Hid _ := digR_len (val xs) hg
  obtain ⟨V, hV⟩ : ∃ V, V = val xs := ⟨_, rfl⟩
  rw [← hV] at NC hw HDL ⊢
  obtain ⟨n0, hn0⟩ : ∃ n0, n0 = (wordsOf V).length := ⟨_, rfl⟩
  rw [← hn0] at NC hw
  have HN0 : Hid (n0 = (wordsOf V).length) := hn0
  clear h hm hg hV hn0
  go_enter Tryz.func52, Tryz.ntmps52
  go_wp2_with fail
  refine Calls.mono NC.out ?_
  rintro e w1 ⟨a1, c1, rfl, hO1, hb1⟩
  have hW1 := hO1.ownW (words_U _) HN0.out.symm
  clear NC hO1
  by_cases hz : n0 = 0
  · have hV0 : V = 0 := (words_nil V).1 (List.length_eq_zero_iff.1 (by rw [← HN0.out]; exact hz))
    subst hz
    have HV : Hid (Lib.decDigits V = [48]) := by rw [Hid, hV0, dec_small (by decide)]; rfl
    clear hV0
    go_wp2_with fail
    go_ret
    rw [HV.out]
    exact ⟨rfl, hb1⟩
  · have HVne : Hid (V ≠ 0) := fun q => hz (by rw [HN0.out, q, words_zero]; rfl)
    have hn1 : 0 < n0 := by omega
    have hzb : ((n0 : Int) == 0) = false := by simp; omega
    clear hz
    go_wp2_with fail
    go_loopg [0, 3] V (fun g va vo wr => ∃ (ad lo : Option Addr) (m c l lc : Nat) (L : List UInt8), va = .slice ad m c ∧ vo = .slice lo l lc ∧ Hid (m = (wordsOf g).length) ∧ m ≤ 1024 ∧ OwnW w.heap.size wr ad m c (wordsOf g) ∧ Hid (l = L.length) ∧ Hid (digR V = digR g ++ L.reverse) ∧ wr.ownsRow w.heap.size 5 1 (.slice lo l lc) l (Lib.byteCells L) ∧ Below w.heap.size w wr)
    case atStart => exact ⟨a1, none, n0, c1, 0, 0, [], rfl, rfl, HN0, hw, hW1, rfl, by rw [Hid, List.reverse_nil, List.append_nil], World.ownsRow_nil _ _ _ _, hb1⟩
    case round =>
      clear hW1 hb1 HN0
      obtain ⟨ad, lo, m, c, l, lc, L, rfl, rfl, HM, hm, hO, HL, HD, hown, hbr⟩ := hrel
      have hsz := hbr.size
      have hlb : l ≤ 65536 := by
        have h1 := HDL.out
        have h2 := congrArg List.length HD.out
        rw [List.length_append, List.length_reverse, ← HL.out] at h2
        omega
      by_cases hm0 : m = 0
      · have hg0 : gk = 0 := (words_nil gk).1 (List.length_eq_zero_iff.1 (by rw [← HM.out]; exact hm0))
        subst hm0 hg0
        have HDD : Hid (Lib.decDigits V = L.reverse) := by
          have := HD.out
          rw [digR_pos HVne.out, digR_zero, List.nil_append] at this
          exact this
        have hl0 : 0 < l := by
          rw [HL.out]
          have h1 := congrArg List.length HDD.out
          rw [List.length_reverse, Lib.decDigits_length] at h1
          have h2 := Lib.nDigits_pos V
          omega
        obtain ⟨g, cp, hv⟩ := bytes_form hl0 hown
        simp only [Value.slice.injEq, true_and] at hv
        obtain ⟨rfl, rfl⟩ := hv
        have hB := own_bytes HL.out hown hl0
        obtain ⟨hf, hhf⟩ : ∃ hf, hf = l / 2 := ⟨_, rfl⟩
        have HHF : Hid (hf = l / 2) := hhf
        have z1 : (l : Int) / 2 = (hf : Int) := by omega
        have z2 : (l : Int).tdiv 2 = (hf : Int) := by rw [Int.tdiv_eq_ediv_of_nonneg (by omega)]; omega
        have hh2 : 2 * hf ≤ l := by omega
        clear hown hO hhf HD HDL
        go_wp2_with fail
        have H0 : Hid (OwB w.heap.size wr g l L ∧ Below w.heap.size w wr) := ⟨hB, hbr⟩
        clear hB hbr hsz
        go_loopw [6] (fun vi wi => ∃ k : Nat, k ≤ hf ∧ vi = .int .i64 k ∧ OwB w.heap.size wi g l (revK L k) ∧ Below w.heap.size w wi) (fun vi _ => hf - (intOf vi).toNat)
        case atStart => exact ⟨0, Nat.zero_le _, rfl, by rw [revK_zero]; exact H0.out.1, H0.out.2⟩
        case round =>
          clear H0
          obtain ⟨k, hk, rfl, hB, hbi⟩ := hrel
          by_cases hlt : k < hf
          · obtain ⟨p, hp⟩ : ∃ p : Nat, p = l - 1 - k := ⟨_, rfl⟩
            have z3 : (l : Int) - 1 - (k : Int) = (p : Int) := by omega
            have hne : k ≠ p := by omega
            have hpl : p < l := by omega
            have hkl : k < l := by omega
            obtain ⟨x, hx⟩ : ∃ x, x = L.getD k 0 := ⟨_, rfl⟩
            obtain ⟨y, hy⟩ : ∃ y, y = L.getD p 0 := ⟨_, rfl⟩
            obtain ⟨_, c1, f1⟩ := hB.2.2 k hkl
            obtain ⟨_, c2, f2⟩ := hB.2.2 p hpl
            have hLl := HL.out
            rw [revK_get L k k (by omega), if_neg (by omega), ← hx] at c1
            rw [revK_get L k p (by omega), if_neg (by omega), ← hy] at c2
            have hgB := hB.2.1
            have HS : Hid (OwB w.heap.size ((wr.setCell ⟨g, k, none⟩ (.int .u8 (y.toNat : Int))).setCell ⟨g, p, none⟩ (.int .u8 (x.toNat : Int))) g l (revK L (k + 1))) := by
              have h1 := (hB.set hkl y).set hpl x
              have h2 := revK_step L k (by rw [← hLl, ← HHF.out]; exact hlt)
              rw [← hLl, ← hp, ← hx, ← hy] at h2
              rw [h2] at h1
              exact h1
            obtain ⟨X, hX⟩ : ∃ X : Int, X = (x.toNat : Int) := ⟨_, rfl⟩
            obtain ⟨Y, hY⟩ : ∃ Y : Int, Y = (y.toNat : Int) := ⟨_, rfl⟩
            rw [← hX, ← hY] at HS
            rw [← hX] at c1
            rw [← hY] at c2
            have HB2 : Hid (Below w.heap.size w ((wr.setCell ⟨g, k, none⟩ (.int .u8 Y)).setCell ⟨g, p, none⟩ (.int .u8 X))) := (hbi.setCell hgB _).setCell hgB _
            clear hX hY hx hy hB hbi hLl hp
            go_wp2_with fail
            refine ⟨⟨k + 1, by omega, by go_num, HS.out, HB2.out⟩, by simp [intOf]; omega⟩
          · have hke : k = hf := by omega
            have HC : Hid ((convert 123 9 (.slice (some ⟨g, 0, none⟩) l lc)).run Tryz.prog wr = .ok (.string ⟨L.reverse.toArray⟩) wr) := by
              rw [hke, HHF.out, HL.out, revK_end] at hB
              have hrl : L.reverse.length = l := by rw [List.length_reverse, HL.out]
              have h1 := run_convert_bytes_back (P := Tryz.prog) wr 123 9 5 ⟨g, 0, none⟩ lc L.reverse Tryz.underlying123 Tryz.underlying5 Tryz.underlying9 (fun j hj => by
                obtain ⟨_, c1, _⟩ := hB.2.2 j (by rw [← HL.out, ← hrl]; exact hj)
                have e : L.reverse.getD j 0 = L.reverse[j] := by simp only [List.getD]; rw [List.getElem?_eq_getElem hj]; rfl
                rw [e] at c1
                by_cases h0 : j = 0
                · subst h0; simpa [Addr.add] using c1
                · simpa [Addr.add, h0] using c1)
              rw [hrl] at h1
              exact h1
            have hcv := HC.out
            clear hB hke
            go_wp2_with fail
            go_ret
            rw [HDD.out]
            exact ⟨rfl, hbi⟩
      · have hgne : gk ≠ 0 := fun q => hm0 (by rw [HM.out, q, words_zero]; rfl)
        have SC : Hid _ := nShort_calls ad m c (wordsOf gk) wr hO.1 (by omega)
        rw [val_words] at SC
        have HST : Hid _ := digR_step hgne
        have hlt : gk / 10 < gk := by omega
        have hr10 : gk % 10 < 10 := Nat.mod_lt _ (by decide)
        have hml : (wordsOf (gk / 10)).length ≤ m := by rw [HM.out]; exact words_mono (Nat.div_le_self _ _)
        obtain ⟨r, hr⟩ : ∃ r, r = gk % 10 := ⟨_, rfl⟩
        obtain ⟨q, hq⟩ : ∃ q, q = gk / 10 := ⟨_, rfl⟩
        rw [← hr] at SC HST hr10
        rw [← hq] at SC HST hlt hml
        have hmp : 0 < m := by omega
        clear hr hq hm0 hgne hO
        go_wp2_with fail
        refine Calls.mono SC.out ?_
        rintro e w2 ⟨a2, n2, c2, rfl, hn2, hO2, hb2⟩
        have HN2 : Hid (n2 = (wordsOf q).length) := hn2
        have hn2b : n2 ≤ 1024 := by omega
        have hown2 := hown.kept (below_grown hb2 none) (by cases (Value.slice lo l lc).ownBlock <;> simp)
        have hb3 := nbelow_trans hbr hb2
        have hsz2 := hb3.size
        have r1 : IntKind.u64.wrap (48 + (r : Int)) = ((48 + r : Nat) : Int) := by rw [IntKind.wrap_u64]; omega
        have r2 : IntKind.u8.wrap ((48 + r : Nat) : Int) = ((48 + r : Nat) : Int) := by rw [IntKind.wrap_u8]; omega
        have r3 : IntKind.u8.wrap (48 + (r : Int)) = ((48 + r : Nat) : Int) := by rw [IntKind.wrap_u8]; omega
        have HLT : Hid (∀ k, (Value.slice lo l lc).ownBlock = some k → k < wr.heap.size) := fun k hk => (hown.lt k hk).2
        clear hn2 hown hbr SC
        go_wp2_with (at_builtin; refine wpList_append_own_at _ rfl _ _ 123 rfl w.heap.size 5 i0 (.int .u8 0) 1 1 Tryz.underlying123 hi hz0 hz1 hz2 rfl (by decide) _ _ _ rfl (hown2.alloc _) ⟨w2.heap.size, 0, none⟩ 1 1 [_] rfl rfl (cell_one_new _ _ _) (fun x hx => by simp at hx; subst hx; rfl) (by unfold maxLen; omega) (by omega) (by simp; omega) ?_; intro v' w3 hown' hgrow3 hnil3 hat3)
        obtain ⟨g3, cap3, hv3⟩ := bytes_form (k := l + 1) (by omega) hown'
        subst hv3
        have hO3 := (hO2.keep (below_one w2 (.cells #[.int .u8 (48 + (r : Int))] 5))).grownP hgrow3 (fun hl b o e q => by
          have h1 := (hO2.2 b o 0 e hl).1
          have h2 := HLT.out b q.symm
          omega)
        have hb4 : Below w.heap.size w w3 := (hb3.alloc hsz2 _).grown hgrow3 (by simp; omega) (fun q hq => (hown2.lt q hq).1)
        have HOW : Hid _ := hown'
        have HO3 := hO3.low hsz
        clear hown' hown2 hgrow3 hnil3 hat3 hO3 hO2 hb3
        go_roundg q
        case measure => exact hlt
        case rel =>
          refine ⟨a2, some ⟨g3, 0, none⟩, n2, c2, l + 1, cap3, L ++ [UInt8.ofNat (48 + r)], rfl, rfl, HN2, hn2b, HO3, ?_, ?_, ?_, hb4⟩
          · rw [Hid, List.length_append, ← HL.out]; rfl
          · rw [Hid, HD.out, HST.out, List.reverse_append, List.append_assoc]; rfl
          · have e : Lib.byteCells (L ++ [UInt8.ofNat (48 + r)]) = Lib.byteCells L ++ [.int .u8 (48 + (r : Int))] := by
              have e1 : ((UInt8.ofNat (48 + r)).toNat : Int) = 48 + (r : Int) := by
                have e2 : (UInt8.ofNat (48 + r)).toNat = (48 + r) % 256 := by simp
                omega
              simp only [Lib.byteCells, List.map_append, List.map_cons, List.map_nil, e1]
            rw [e]; exact HOW.out
end Go.Proofs.YtkkldnnndlpblaaGreatDoor

/- Plain facts on texts of decimal digits: where a text ceases to be a number's, the number, its size. The walks of the document's short division and Text. The walk of the document's Div. -/
import Derived.Test.YtkkldnnndlpblaaGreatDoorNTextP
import Derived.Test.YtkkldnnndlpblaaGreatDoorTMA
import Derived.Laws.IdiomStrings
import Derived.Lib.UnsafeStr
import Derived.Deep.LoopGhost
import Derived.Test.YtkkldnnndlpblaaGreatDoorTMC
import Derived.Test.YtkkldnnndlpblaaGreatDoorTMG
import Derived.Test.YtkkldnnndlpblaaGreatDoorNChunk
import Derived.Test.YtkkldnnndlpblaaGreatDoorTMB
import Derived.Test.YtkkldnnndlpblaaGreatDoorNRM

namespace Go.Proofs.YtkkldnnndlpblaaGreatDoor
open Go.RowKit

def AllD (l : List UInt8) : Prop := ∀ j, j < l.length → 48 ≤ (l.getD j 0).toNat ∧ (l.getD j 0).toNat ≤ 57

theorem AllD.part {l : List UInt8} (h : AllD l) (i d : Nat) (hd : i + d ≤ l.length) : AllD ((l.drop i).take d) := fun j hj => by
  rw [List.length_take, List.length_drop] at hj
  have e : ((l.drop i).take d).getD j 0 = l.getD (i + j) 0 := by
    simp only [List.getD, List.getElem?_take, List.getElem?_drop]
    rw [if_pos (by omega)]
  rw [e]; exact h _ (by omega)


/-- Half a word at a time. -/
theorem short_num (r x : Nat) (hr : r < 10) (hx : x < 18446744073709551616) (h lw : Nat) (hh : h = r * 4294967296 + x / 4294967296) (hl : lw = h % 10 * 4294967296 + x % 4294967296) :
    h / 10 * 4294967296 + lw / 10 = (r * 18446744073709551616 + x) / 10 ∧ lw % 10 = (r * 18446744073709551616 + x) % 10 ∧ h < 42949672960 ∧ lw < 42949672960 ∧ h / 10 * 4294967296 + lw / 10 < 18446744073709551616 := by
  omega

set_option maxRecDepth 100000 in
set_option maxHeartbeats 4000000 in
theorem nShort_calls (a : Option Addr) (len cap : Nat) (xs : List Int) (w : World) (h : IsW w a len cap xs) (hm : len ≤ 17592186044000) :
    Calls Tryz.prog 99 #[.slice a len cap, .int .u64 10] w fun e w' => ∃ (ao : Option Addr) (n cv : Nat), e = .returned (.tuple #[.slice ao n cv, .int .u64 ((val xs % 10 : Nat) : Int)]) ∧ n = (wordsOf (val xs / 10)).length ∧ OwnW w.heap.size w' ao n cv (wordsOf (val xs / 10)) ∧ Below w.heap.size w w' := by
  have HL0 : Hid (len = xs.length) := h.1
  have HU0 : Hid (AllU xs) := h.2.1
  obtain ⟨w1, hmk, hO1, hb1, hz1⟩ := make_words 24 nat_T w len (by omega)
  go_enter Tryz.func99, Tryz.ntmps99
  go_wp2_with fail
  clear hmk
  have H0 : Hid (OwnW w.heap.size w1 (some ⟨w.heap.size, 0, none⟩) len len (zeros len) ∧ Below w.heap.size w w1) := ⟨hO1, hb1⟩
  clear hO1 hb1 hz1
  go_loopw [7, 8] (fun vr vi wr => ∃ (k : Nat) (M : List Int) (r : Nat), k ≤ len ∧ vi = .int .i64 ((k : Int) - 1) ∧ vr = .int .u64 (r : Int) ∧ r < 10 ∧ Hid (val (M.drop k) = val (xs.drop k) / 10) ∧ Hid (r = val (xs.drop k) % 10) ∧ OwnW w.heap.size wr (some ⟨w.heap.size, 0, none⟩) len len M ∧ Below w.heap.size w wr) (fun _ vi _ => (intOf vi + 1).toNat)
  case atStart => exact ⟨len, zeros len, 0, Nat.le_refl _, rfl, rfl, by decide, by rw [Hid, List.drop_of_length_le (by rw [zeros_len]; exact Nat.le_refl _), HL0.out, List.drop_length]; simp [val], by rw [Hid, HL0.out, List.drop_length]; simp [val], H0.out.1, H0.out.2⟩
  case round =>
    obtain ⟨k, M, r, hk, rfl, rfl, hr, HV, HR, hO, hbr⟩ := hrel
    clear H0
    have HL : Hid (len = M.length) := hO.1.1
    cases k with
    | zero =>
      rw [show (((0 : Nat) : Int) - 1) = -1 from rfl]
      have NC : Hid _ := nNorm_calls (some ⟨w.heap.size, 0, none⟩) len len M wr hO.1 (by omega)
      have HV0 : Hid (val M = val xs / 10) := by have := HV.out; rwa [List.drop_zero, List.drop_zero] at this
      have HR0 : Hid (r = val xs % 10) := by have := HR.out; rwa [List.drop_zero] at this
      rw [HV0.out] at NC
      have hsz := hbr.size
      go_wp2_with fail
      refine Calls.mono NC.out ?_
      rintro e w2 ⟨ao, cv, rfl, hO2, hb2⟩
      have hW2 := hO2.ownW (words_U _) rfl
      clear NC hO hO2
      go_wp2_with fail
      go_ret2
      exact ⟨ao, _, cv, by rw [← HR0.out]; rfl, rfl, hW2.low hsz, nbelow_trans hbr hb2⟩
    | succ k =>
      obtain ⟨x, hx, hx1⟩ := word_nat0 xs HU0.out k
      obtain ⟨ba, oa, hae, hal, hac⟩ := h.2.2.2 k (by omega)
      have hac2 : wr.cell? ⟨ba, oa + k, none⟩ = some (.int .u64 (x : Int)) := by rw [← hx]; exact (hbr.cell (p := ⟨ba, oa + k, none⟩) hal).trans hac
      have HX : Hid (xs.getD k 0 = (x : Int)) := hx
      obtain ⟨_, _, e1, _, hcell⟩ := hO.1.2.2.2 k (by omega)
      simp only [Option.some.injEq, Addr.mk.injEq, and_true] at e1
      obtain ⟨rfl, rfl⟩ := e1
      have hfz := (hO.2 _ _ k rfl (by omega)).2
      rw [Nat.zero_add] at hcell hfz
      generalize M.getD k 0 = old at hcell
      have ek : (((k + 1 : Nat) : Int) - 1) = (k : Int) := by omega
      rw [ek]
      obtain ⟨hh, h1⟩ : ∃ hh, hh = r * 4294967296 + x / 4294967296 := ⟨_, rfl⟩
      obtain ⟨lw, h2⟩ : ∃ lw, lw = hh % 10 * 4294967296 + x % 4294967296 := ⟨_, rfl⟩
      obtain ⟨n1, n2, n3, n4, n5⟩ := short_num r x hr hx1 hh lw h1 h2
      obtain ⟨q, hq⟩ : ∃ q, q = hh / 10 * 4294967296 + lw / 10 := ⟨_, rfl⟩
      obtain ⟨r2, hr2⟩ : ∃ r2, r2 = lw % 10 := ⟨_, rfl⟩
      obtain ⟨xh, hxh⟩ : ∃ xh, xh = x / 4294967296 := ⟨_, rfl⟩
      obtain ⟨xl, hxl⟩ : ∃ xl, xl = x % 4294967296 := ⟨_, rfl⟩
      obtain ⟨hq1, hhq⟩ : ∃ hq1, hq1 = hh / 10 := ⟨_, rfl⟩
      obtain ⟨hm1, hhm⟩ : ∃ hm1, hm1 = hh % 10 := ⟨_, rfl⟩
      obtain ⟨lq, hlq⟩ : ∃ lq, lq = lw / 10 := ⟨_, rfl⟩
      have d1 : (x : Int) / 4294967296 = (xh : Int) := by omega
      have d2 : (x : Int) % 4294967296 = (xl : Int) := by omega
      have d3 : (hh : Int) / 10 = (hq1 : Int) := by omega
      have d4 : (hh : Int) % 10 = (hm1 : Int) := by omega
      have d5 : (lw : Int) / 10 = (lq : Int) := by omega
      have d6 : (lw : Int) % 10 = (r2 : Int) := by omega
      have t3 : (hh : Int).tdiv 10 = (hq1 : Int) := by rw [Int.tdiv_eq_ediv_of_nonneg (by omega)]; omega
      have t4 : (hh : Int).tmod 10 = (hm1 : Int) := by rw [Int.tmod_eq_emod_of_nonneg (by omega)]; omega
      have t5 : (lw : Int).tdiv 10 = (lq : Int) := by rw [Int.tdiv_eq_ediv_of_nonneg (by omega)]; omega
      have t6 : (lw : Int).tmod 10 = (r2 : Int) := by rw [Int.tmod_eq_emod_of_nonneg (by omega)]; omega
      have u1 : IntKind.u64.wrap (xh : Int) = (xh : Int) := by rw [IntKind.wrap_u64]; omega
      have u2 : IntKind.u64.wrap (hq1 : Int) = (hq1 : Int) := by rw [IntKind.wrap_u64]; omega
      have u3 : IntKind.u64.wrap (lq : Int) = (lq : Int) := by rw [IntKind.wrap_u64]; omega
      obtain ⟨m1, hm1'⟩ : ∃ m1, m1 = r * 4294967296 := ⟨_, rfl⟩
      obtain ⟨m2, hm2'⟩ : ∃ m2, m2 = hm1 * 4294967296 := ⟨_, rfl⟩
      obtain ⟨m3, hm3'⟩ : ∃ m3, m3 = hq1 * 4294967296 := ⟨_, rfl⟩
      have s1 : IntKind.u64.wrap ((r : Int) * 4294967296) = (m1 : Int) := by rw [IntKind.wrap_u64]; omega
      have s2 : IntKind.u64.wrap ((m1 : Int) + (xh : Int)) = (hh : Int) := by rw [IntKind.wrap_u64]; omega
      have s3 : IntKind.u64.wrap ((hm1 : Int) * 4294967296) = (m2 : Int) := by rw [IntKind.wrap_u64]; omega
      have s4 : IntKind.u64.wrap ((m2 : Int) + (xl : Int)) = (lw : Int) := by rw [IntKind.wrap_u64]; omega
      have s5 : IntKind.u64.wrap ((hq1 : Int) * 4294967296) = (m3 : Int) := by rw [IntKind.wrap_u64]; omega
      have s6 : IntKind.u64.wrap ((m3 : Int) + (lq : Int)) = (q : Int) := by rw [IntKind.wrap_u64]; omega
      have HDS : Hid _ := divBy_step (val (xs.drop (k + 1))) (val (M.drop (k + 1))) x r 10 (by decide) HV.out HR.out
      rw [← n1, ← n2, ← hq, ← hr2] at HDS
      have hqb : q ≤ 18446744073709551615 := by omega
      have hrb : r2 < 10 := by omega
      subst hae
      have hne : ba ≠ w.heap.size := by omega
      clear hx hac h1 h2 n1 n2 n3 n4 n5 hq hr2 hxh hxl hhq hhm hlq hm1' hm2' hm3' ek hx1 HV HR
      go_wp2_with fail
      go_quiet (fail)
      go_wp2_with fail
      go_region
      all_goals
        clear d1 d2 d3 d4 d5 d6 t3 t4 t5 s1 s2 s3 s4 s5 s6 u1 u2 u3
        go_wp2_with fail
        have hL1 := HL.out
        have hL0 := HL0.out
        have hO3 := (hO.keep (below_drewN (Below.refl _ _) (nq + 1))).set (i := k) (by omega) (v := (q : Int)) (by omega) (by omega)
        rw [Nat.zero_add] at hO3
        refine ⟨⟨k, M.set k (q : Int), r2, by omega, rfl, rfl, hrb, ?_, ?_, hO3, (below_drewN hbr (nq + 1)).setCell (Nat.le_refl _) _⟩, by simp [intOf]⟩
        · rw [Hid, drop_set_val M k _ (by omega), Int.toNat_natCast, HDS.out.1, drop_val xs k (by omega), HX.out, Int.toNat_natCast]
        · rw [Hid, HDS.out.2, drop_val xs k (by omega), HX.out, Int.toNat_natCast]

/-- The digits, none of 0. -/
def digR (v : Nat) : List UInt8 := if v = 0 then [] else Lib.decDigits v

theorem digR_zero : digR 0 = [] := rfl

theorem digR_pos {v : Nat} (h : v ≠ 0) : digR v = Lib.decDigits v := by unfold digR; rw [if_neg h]

theorem digR_step {v : Nat} (h : v ≠ 0) : digR v = digR (v / 10) ++ [UInt8.ofNat (48 + v % 10)] := by
  rw [digR_pos h]
  by_cases q : v < 10
  · rw [show v / 10 = 0 by omega, digR_zero, dec_small q, Nat.mod_eq_of_lt q]; rfl
  · rw [digR_pos (show v / 10 ≠ 0 by omega), dec_big q]

theorem digR_len (v : Nat) (h : greatB v = false) : (digR v).length ≤ 65536 := by
  by_cases q : v = 0
  · rw [q, digR_zero]; simp
  · rw [digR_pos q, Lib.decDigits_length]
    have h1 : v < 2 ^ 65536 := (blen_le v 65536).1 ((great_not v).1 h)
    suffices hs : ∀ K, K = 65536 → Lib.nDigits v ≤ K from hs _ rfl
    intro K hK
    rw [← hK] at h1
    refine nDigits_le K v (Nat.lt_of_lt_of_le h1 ?_) (by omega)
    exact Nat.pow_le_pow_left (by decide) K

/-- Bytes in memory of the call's own, from block B on. -/
def OwB (B : Nat) (w : World) (g n : Nat) (L : List UInt8) : Prop :=
  n = L.length ∧ B ≤ g ∧ ∀ j, j < n → g < w.heap.size ∧ w.cell? ⟨g, j, none⟩ = some (.int .u8 ((L.getD j 0).toNat : Int)) ∧ w.frozen? ⟨g, j, none⟩ = false

theorem OwB.set {B g n : Nat} {w : World} {L : List UInt8} (h : OwB B w g n L) {i : Nat} (hi : i < n) (b : UInt8) : OwB B (w.setCell ⟨g, i, none⟩ (.int .u8 (b.toNat : Int))) g n (L.set i b) := by
  refine ⟨by rw [List.length_set]; exact h.1, h.2.1, fun j hj => ?_⟩
  obtain ⟨h1, h2, h3⟩ := h.2.2 j hj
  refine ⟨by rw [World.size_setCell]; exact h1, ?_, by rw [World.frozen?_setCell]; exact h3⟩
  by_cases q : i = j
  · subst q
    have e : (L.set i b).getD i 0 = b := by have := h.1; simp [List.getD, show i < L.length by omega]
    rw [e]; exact World.cell?_setCell_same w _ _ h2
  · have e : (L.set i b).getD j 0 = L.getD j 0 := by simp [List.getD, q]
    rw [e]; exact (World.cell?_setCell_other (w := w) (a := ⟨g, i, none⟩) (b := ⟨g, j, none⟩) (v := .int .u8 (b.toNat : Int)) (fun e => q (congrArg Addr.off e))).trans h2

theorem own_bytes {B g n c : Nat} {w : World} {L : List UInt8} (hn : n = L.length) (h : w.ownsRow B 5 1 (.slice (some ⟨g, 0, none⟩) n c) n (Lib.byteCells L)) (h0 : 0 < n) : OwB B w g n L := by
  rcases h.2 with ⟨_, q⟩ | ⟨g', cap, cur, hv, hg, hh, _⟩
  · omega
  · simp only [Value.slice.injEq, Option.some.injEq, Addr.mk.injEq, and_true] at hv
    obtain ⟨rfl, _⟩ := hv
    refine ⟨hn, hg, fun j hj => ?_⟩
    have hc := h.cells (g := g) rfl j (.int .u8 ((L.getD j 0).toNat : Int)) (by simp [Lib.byteCells, List.getD, show j < L.length by omega])
    have hc' : w.cell? ⟨g, j, none⟩ = some (.int .u8 ((L.getD j 0).toNat : Int)) := by
      by_cases h0 : j = 0
      · subst h0; simpa [Addr.add] using hc
      · simpa [Addr.add, h0] using hc
    exact ⟨World.block_lt_of_cell? _ _ hc', hc', by simp [World.frozen?, hh]⟩

/-- The list with k bytes at either end put about. -/
def revK (L : List UInt8) (k : Nat) : List UInt8 := (List.range L.length).map fun j => if j < k ∨ L.length - k ≤ j then L.getD (L.length - 1 - j) 0 else L.getD j 0

theorem revK_len (L : List UInt8) (k : Nat) : (revK L k).length = L.length := by simp [revK]

theorem revK_get (L : List UInt8) (k j : Nat) (h : j < L.length) : (revK L k).getD j 0 = if j < k ∨ L.length - k ≤ j then L.getD (L.length - 1 - j) 0 else L.getD j 0 := by
  simp [revK, List.getD, h]

theorem ext_getD (L M : List UInt8) (hl : L.length = M.length) (h : ∀ j, j < L.length → L.getD j 0 = M.getD j 0) : L = M := by
  apply List.ext_getElem hl
  intro j h1 h2
  have := h j h1
  simpa [List.getD, h1, h2] using this

theorem revK_zero (L : List UInt8) : revK L 0 = L := ext_getD _ _ (revK_len _ _) fun j hj => by
  rw [revK_len] at hj
  rw [revK_get L 0 j hj, if_neg (by omega)]

theorem revK_end (L : List UInt8) : revK L (L.length / 2) = L.reverse := ext_getD _ _ (by rw [revK_len, List.length_reverse]) fun j hj => by
  rw [revK_len] at hj
  have e : L.reverse.getD j 0 = L.getD (L.length - 1 - j) 0 := by
    simp only [List.getD]
    rw [List.getElem?_reverse hj]
  rw [e, revK_get L _ j hj]
  by_cases q : j < L.length / 2 ∨ L.length - L.length / 2 ≤ j
  · rw [if_pos q]
  · rw [if_neg q]; congr 1; omega

theorem revK_step (L : List UInt8) (k : Nat) (h : k < L.length / 2) : ((revK L k).set k (L.getD (L.length - 1 - k) 0)).set (L.length - 1 - k) (L.getD k 0) = revK L (k + 1) := ext_getD _ _ (by simp [revK_len]) fun j hj => by
  rw [List.length_set, List.length_set, revK_len] at hj
  rw [revK_get L (k + 1) j hj]
  have e1 : ∀ (M : List UInt8) (i : Nat) (b : UInt8), M.length = L.length → i < L.length → (M.set i b).getD j 0 = if i = j then b else M.getD j 0 := fun M i b hM hi => by
    by_cases q : i = j
    · subst q; simp [List.getD, hM, hi]
    · simp [List.getD, q]
  rw [e1 _ _ _ (by rw [List.length_set, revK_len]) (by omega), e1 _ _ _ (revK_len _ _) (by omega), revK_get L k j hj]
  by_cases q1 : L.length - 1 - k = j
  · rw [if_pos q1, if_pos (by omega)]; congr 1; omega
  · rw [if_neg q1]
    by_cases q2 : k = j
    · rw [if_pos q2, if_pos (by omega), q2]
    · rw [if_neg q2]
      by_cases q3 : j < k ∨ L.length - k ≤ j
      · rw [if_pos q3, if_pos (by omega)]
      · rw [if_neg q3, if_neg (by omega)]

theorem byte_info : (Tryz.prog.info? 5).map (fun i => (i.zero, i.size, i.bytes)) = some (some (.int .u8 0), 1, 1) := by kernel_rfl

theorem bytes_form {B k : Nat} {w : World} {v : Value} {cs : List Value} (hp : 0 < k) (h : w.ownsRow B 5 1 v k cs) : ∃ g cap, v = .slice (some ⟨g, 0, none⟩) k cap := by
  rcases h.2 with ⟨_, h⟩ | ⟨g3, cap3, _, h, _⟩
  · omega
  · exact ⟨g3, cap3, h⟩

theorem OwnW.grownP {B : Nat} {w w' : World} {a : Option Addr} {len cap : Nat} {xs : List Int} {row : Option Nat} (h : OwnW B w a len cap xs) (hg : w.grownBy w' row) (hne : 0 < len → ∀ b off, a = some ⟨b, off, none⟩ → some b ≠ row) : OwnW B w' a len cap xs := by
  by_cases q : 0 < len
  · exact h.grown hg (hne q)
  · exact ⟨⟨h.1.1, h.1.2.1, h.1.2.2.1, fun i hi => by omega⟩, fun _ _ i _ hi => by omega⟩

set_option maxRecDepth 100000 in
set_option maxHeartbeats 4000000 in
theorem nText_calls (a : Option Addr) (len cap : Nat) (xs : List Int) (w : World) (h : IsW w a len cap xs) (hm : len ≤ 17592186044000) (hg : greatB (val xs) = false) :
    Calls Tryz.prog 52 #[.slice a len cap] w fun e w' => e = .returned (.string ⟨(Lib.decDigits (val xs)).toArray⟩) ∧ Below w.heap.size w w' := by
  obtain ⟨i0, hi, hz0, hz1, hz2⟩ := info_parts byte_info
  have NC : Hid _ := nNorm_calls a len cap xs w h (by omega)
  have hw : (wordsOf (val xs)).length ≤ 1024 := (great_len _).1 hg
  have HDL : Hid _ := digR_len (val xs) hg
  obtain ⟨V, hV⟩ : ∃ V, V = val xs := ⟨_, rfl⟩
  rw [← hV] at NC hw HDL ⊢
  obtain ⟨n0, hn0⟩ : ∃ n0, n0 = (wordsOf V).length := ⟨_, rfl⟩
  rw [← hn0] at NC hw
  have HN0 : Hid (n0 = (wordsOf V).length) := hn0
  clear h hm hg hV hn0
  go_enter Tryz.func52, Tryz.ntmps52
  go_wp2_with fail
  refine Calls.mono NC.out ?_
  rintro e w1 ⟨a1, c1, rfl, hO1, hb1⟩
  have hW1 := hO1.ownW (words_U _) HN0.out.symm
  clear NC hO1
  by_cases hz : n0 = 0
  · have hV0 : V = 0 := (words_nil V).1 (List.length_eq_zero_iff.1 (by rw [← HN0.out]; exact hz))
    subst hz
    have HV : Hid (Lib.decDigits V = [48]) := by rw [Hid, hV0, dec_small (by decide)]; rfl
    clear hV0
    go_wp2_with fail
    go_ret
    rw [HV.out]
    exact ⟨rfl, hb1⟩
  · have HVne : Hid (V ≠ 0) := fun q => hz (by rw [HN0.out, q, words_zero]; rfl)
    have hn1 : 0 < n0 := by omega
    have hzb : ((n0 : Int) == 0) = false := by simp; omega
    clear hz
    go_wp2_with fail
    go_loopg [0, 3] V (fun g va vo wr => ∃ (ad lo : Option Addr) (m c l lc : Nat) (L : List UInt8), va = .slice ad m c ∧ vo = .slice lo l lc ∧ Hid (m = (wordsOf g).length) ∧ m ≤ 1024 ∧ OwnW w.heap.size wr ad m c (wordsOf g) ∧ Hid (l = L.length) ∧ Hid (digR V = digR g ++ L.reverse) ∧ wr.ownsRow w.heap.size 5 1 (.slice lo l lc) l (Lib.byteCells L) ∧ Below w.heap.size w wr)
    case atStart => exact ⟨a1, none, n0, c1, 0, 0, [], rfl, rfl, HN0, hw, hW1, rfl, by rw [Hid, List.reverse_nil, List.append_nil], World.ownsRow_nil _ _ _ _, hb1⟩
    case round =>
      clear hW1 hb1 HN0
      obtain ⟨ad, lo, m, c, l, lc, L, rfl, rfl, HM, hm, hO, HL, HD, hown, hbr⟩ := hrel
      have hsz := hbr.size
      have hlb : l ≤ 65536 := by
        have h1 := HDL.out
        have h2 := congrArg List.length HD.out
        rw [List.length_append, List.length_reverse, ← HL.out] at h2
        omega
      by_cases hm0 : m = 0
      · have hg0 : gk = 0 := (words_nil gk).1 (List.length_eq_zero_iff.1 (by rw [← HM.out]; exact hm0))
        subst hm0 hg0
        have HDD : Hid (Lib.decDigits V = L.reverse) := by
          have := HD.out
          rw [digR_pos HVne.out, digR_zero, List.nil_append] at this
          exact this
        have hl0 : 0 < l := by
          rw [HL.out]
          have h1 := congrArg List.length HDD.out
          rw [List.length_reverse, Lib.decDigits_length] at h1
          have h2 := Lib.nDigits_pos V
          omega
        obtain ⟨g, cp, hv⟩ := bytes_form hl0 hown
        simp only [Value.slice.injEq, true_and] at hv
        obtain ⟨rfl, rfl⟩ := hv
        have hB := own_bytes HL.out hown hl0
        obtain ⟨hf, hhf⟩ : ∃ hf, hf = l / 2 := ⟨_, rfl⟩
        have HHF : Hid (hf = l / 2) := hhf
        have z1 : (l : Int) / 2 = (hf : Int) := by omega
        have z2 : (l : Int).tdiv 2 = (hf : Int) := by rw [Int.tdiv_eq_ediv_of_nonneg (by omega)]; omega
        have hh2 : 2 * hf ≤ l := by omega
        clear hown hO hhf HD HDL
        go_wp2_with fail
        have H0 : Hid (OwB w.heap.size wr g l L ∧ Below w.heap.size w wr) := ⟨hB, hbr⟩
        clear hB hbr hsz
        go_loopw [6] (fun vi wi => ∃ k : Nat, k ≤ hf ∧ vi = .int .i64 k ∧ OwB w.heap.size wi g l (revK L k) ∧ Below w.heap.size w wi) (fun vi _ => hf - (intOf vi).toNat)
        case atStart => exact ⟨0, Nat.zero_le _, rfl, by rw [revK_zero]; exact H0.out.1, H0.out.2⟩
        case round =>
          clear H0
          obtain ⟨k, hk, rfl, hB, hbi⟩ := hrel
          by_cases hlt : k < hf
          · obtain ⟨p, hp⟩ : ∃ p : Nat, p = l - 1 - k := ⟨_, rfl⟩
            have z3 : (l : Int) - 1 - (k : Int) = (p : Int) := by omega
            have hne : k ≠ p := by omega
            have hpl : p < l := by omega
            have hkl : k < l := by omega
            obtain ⟨x, hx⟩ : ∃ x, x = L.getD k 0 := ⟨_, rfl⟩
            obtain ⟨y, hy⟩ : ∃ y, y = L.getD p 0 := ⟨_, rfl⟩
            obtain ⟨_, c1, f1⟩ := hB.2.2 k hkl
            obtain ⟨_, c2, f2⟩ := hB.2.2 p hpl
            have hLl := HL.out
            rw [revK_get L k k (by omega), if_neg (by omega), ← hx] at c1
            rw [revK_get L k p (by omega), if_neg (by omega), ← hy] at c2
            have hgB := hB.2.1
            have HS : Hid (OwB w.heap.size ((wr.setCell ⟨g, k, none⟩ (.int .u8 (y.toNat : Int))).setCell ⟨g, p, none⟩ (.int .u8 (x.toNat : Int))) g l (revK L (k + 1))) := by
              have h1 := (hB.set hkl y).set hpl x
              have h2 := revK_step L k (by rw [← hLl, ← HHF.out]; exact hlt)
              rw [← hLl, ← hp, ← hx, ← hy] at h2
              rw [h2] at h1
              exact h1
            obtain ⟨X, hX⟩ : ∃ X : Int, X = (x.toNat : Int) := ⟨_, rfl⟩
            obtain ⟨Y, hY⟩ : ∃ Y : Int, Y = (y.toNat : Int) := ⟨_, rfl⟩
            rw [← hX, ← hY] at HS
            rw [← hX] at c1
            rw [← hY] at c2
            have HB2 : Hid (Below w.heap.size w ((wr.setCell ⟨g, k, none⟩ (.int .u8 Y)).setCell ⟨g, p, none⟩ (.int .u8 X))) := (hbi.setCell hgB _).setCell hgB _
            clear hX hY hx hy hB hbi hLl hp
            go_wp2_with fail
            refine ⟨⟨k + 1, by omega, by go_num, HS.out, HB2.out⟩, by simp [intOf]; omega⟩
          · have hke : k = hf := by omega
            have HC : Hid ((convert 123 9 (.slice (some ⟨g, 0, none⟩) l lc)).run Tryz.prog wr = .ok (.string ⟨L.reverse.toArray⟩) wr) := by
              rw [hke, HHF.out, HL.out, revK_end] at hB
              have hrl : L.reverse.length = l := by rw [List.length_reverse, HL.out]
              have h1 := run_convert_bytes_back (P := Tryz.prog) wr 123 9 5 ⟨g, 0, none⟩ lc L.reverse Tryz.underlying123 Tryz.underlying5 Tryz.underlying9 (fun j hj => by
                obtain ⟨_, c1, _⟩ := hB.2.2 j (by rw [← HL.out, ← hrl]; exact hj)
                have e : L.reverse.getD j 0 = L.reverse[j] := by simp only [List.getD]; rw [List.getElem?_eq_getElem hj]; rfl
                rw [e] at c1
                by_cases h0 : j = 0
                · subst h0; simpa [Addr.add] using c1
                · simpa [Addr.add, h0] using c1)
              rw [hrl] at h1
              exact h1
            have hcv := HC.out
            clear hB hke
            go_wp2_with fail
            go_ret
            rw [HDD.out]
            exact ⟨rfl, hbi⟩
      · have hgne : gk ≠ 0 := fun q => hm0 (by rw [HM.out, q, words_zero]; rfl)
        have SC : Hid _ := nShort_calls ad m c (wordsOf gk) wr hO.1 (by omega)
        rw [val_words] at SC
        have HST : Hid _ := digR_step hgne
        have hlt : gk / 10 < gk := by omega
        have hr10 : gk % 10 < 10 := Nat.mod_lt _ (by decide)
        have hml : (wordsOf (gk / 10)).length ≤ m := by rw [HM.out]; exact words_mono (Nat.div_le_self _ _)
        obtain ⟨r, hr⟩ : ∃ r, r = gk % 10 := ⟨_, rfl⟩
        obtain ⟨q, hq⟩ : ∃ q, q = gk / 10 := ⟨_, rfl⟩
        rw [← hr] at SC HST hr10
        rw [← hq] at SC HST hlt hml
        have hmp : 0 < m := by omega
        clear hr hq hm0 hgne hO
        go_wp2_with fail
        refine Calls.mono SC.out ?_
        rintro e w2 ⟨a2, n2, c2, rfl, hn2, hO2, hb2⟩
        have HN2 : Hid (n2 = (wordsOf q).length) := hn2
        have hn2b : n2 ≤ 1024 := by omega
        have hown2 := hown.kept (below_grown hb2 none) (by cases (Value.slice lo l lc).ownBlock <;> simp)
        have hb3 := nbelow_trans hbr hb2
        have hsz2 := hb3.size
        have r1 : IntKind.u64.wrap (48 + (r : Int)) = ((48 + r : Nat) : Int) := by rw [IntKind.wrap_u64]; omega
        have r2 : IntKind.u8.wrap ((48 + r : Nat) : Int) = ((48 + r : Nat) : Int) := by rw [IntKind.wrap_u8]; omega
        have r3 : IntKind.u8.wrap (48 + (r : Int)) = ((48 + r : Nat) : Int) := by rw [IntKind.wrap_u8]; omega
        have HLT : Hid (∀ k, (Value.slice lo l lc).ownBlock = some k → k < wr.heap.size) := fun k hk => (hown.lt k hk).2
        clear hn2 hown hbr SC
        go_wp2_with (at_builtin; refine wpList_append_own_at _ rfl _ _ 123 rfl w.heap.size 5 i0 (.int .u8 0) 1 1 Tryz.underlying123 hi hz0 hz1 hz2 rfl (by decide) _ _ _ rfl (hown2.alloc _) ⟨w2.heap.size, 0, none⟩ 1 1 [_] rfl rfl (cell_one_new _ _ _) (fun x hx => by simp at hx; subst hx; rfl) (by unfold maxLen; omega) (by omega) (by simp; omega) ?_; intro v' w3 hown' hgrow3 hnil3 hat3)
        obtain ⟨g3, cap3, hv3⟩ := bytes_form (k := l + 1) (by omega) hown'
        subst hv3
        have hO3 := (hO2.keep (below_one w2 (.cells #[.int .u8 (48 + (r : Int))] 5))).grownP hgrow3 (fun hl b o e q => by
          have h1 := (hO2.2 b o 0 e hl).1
          have h2 := HLT.out b q.symm
          omega)
        have hb4 : Below w.heap.size w w3 := (hb3.alloc hsz2 _).grown hgrow3 (by simp; omega) (fun q hq => (hown2.lt q hq).1)
        have HOW : Hid _ := hown'
        have HO3 := hO3.low hsz
        clear hown' hown2 hgrow3 hnil3 hat3 hO3 hO2 hb3
        go_roundg q
        case measure => exact hlt
        case rel =>
          refine ⟨a2, some ⟨g3, 0, none⟩, n2, c2, l + 1, cap3, L ++ [UInt8.ofNat (48 + r)], rfl, rfl, HN2, hn2b, HO3, ?_, ?_, ?_, hb4⟩
          · rw [Hid, List.length_append, ← HL.out]; rfl
          · rw [Hid, HD.out, HST.out, List.reverse_append, List.append_assoc]; rfl
          · have e : Lib.byteCells (L ++ [UInt8.ofNat (48 + r)]) = Lib.byteCells L ++ [.int .u8 (48 + (r : Int))] := by
              have e1 : ((UInt8.ofNat (48 + r)).toNat : Int) = 48 + (r : Int) := by
                have e2 : (UInt8.ofNat (48 + r)).toNat = (48 + r) % 256 := by simp
                omega
              simp only [Lib.byteCells, List.map_append, List.map_cons, List.map_nil, e1]
            rw [e]; exact HOW.out


theorem bit_room (N Q e : Nat) (he : e < 64) (hN : N = Q * 2 ^ (e + 1)) : N % 18446744073709551616 + 2 ^ e < 18446744073709551616 := by
  have h1 : 18446744073709551616 = 2 ^ (e + 1) * 2 ^ (63 - e) := by rw [← Nat.pow_add, show e + 1 + (63 - e) = 64 by omega]
  have h2 : N % 18446744073709551616 = 2 ^ (e + 1) * (Q % 2 ^ (63 - e)) := by
    rw [hN, Nat.mul_comm Q, h1, Nat.mul_mod_mul_left]
  have h3 : Q % 2 ^ (63 - e) < 2 ^ (63 - e) := Nat.mod_lt _ (Nat.pow_pos (by decide))
  have h4 : 2 ^ (e + 1) * (Q % 2 ^ (63 - e) + 1) ≤ 2 ^ (e + 1) * 2 ^ (63 - e) := Nat.mul_le_mul_left _ h3
  rw [← h1, Nat.mul_add, Nat.mul_one] at h4
  have h5 : 2 ^ (e + 1) = 2 * 2 ^ e := by rw [Nat.pow_succ, Nat.mul_comm]
  have h6 : 0 < 2 ^ e := Nat.pow_pos (by decide)
  rw [h2]
  omega

/-- One bit more of a quotient. -/
theorem bit_put (M : List Int) (hU : AllU M) (i Q : Nat) (hl : i / 64 < M.length) (hv : val M = Q * 2 ^ (i + 1)) :
    ∃ t : Nat, M.getD (i / 64) 0 = (t : Int) ∧ t + 2 ^ (i % 64) < 18446744073709551616 ∧ val (M.set (i / 64) ((t + 2 ^ (i % 64) : Nat) : Int)) = val M + 2 ^ i := by
  obtain ⟨t, ht, ht1⟩ := word_nat0 M hU (i / 64)
  have hw := val_word M hU (i / 64)
  rw [ht, Int.toNat_natCast] at hw
  have e1 : i + 1 = 64 * (i / 64) + (i % 64 + 1) := by omega
  have e2 : val M / 18446744073709551616 ^ (i / 64) = Q * 2 ^ (i % 64 + 1) := by
    have : (18446744073709551616 : Nat) ^ (i / 64) = 2 ^ (64 * (i / 64)) := by rw [Nat.pow_mul]
    rw [this, hv]
    conv => lhs; rw [e1]
    rw [Nat.pow_add, Nat.mul_left_comm, Nat.mul_div_cancel_left _ (Nat.pow_pos (by decide))]
  have h3 := bit_room (val M / 18446744073709551616 ^ (i / 64)) Q (i % 64) (by omega) e2
  rw [hw] at h3
  refine ⟨t, ht, h3, ?_⟩
  have e4 := val_set M (i / 64) ((t + 2 ^ (i % 64) : Nat) : Int) hl
  rw [ht, Int.toNat_natCast, Int.toNat_natCast, Nat.mul_add] at e4
  have e5 : (18446744073709551616 : Nat) ^ (i / 64) * 2 ^ (i % 64) = 2 ^ i := by
    rw [show (18446744073709551616 : Nat) = 2 ^ 64 from rfl, ← Nat.pow_mul, ← Nat.pow_add]; congr 1; omega
  rw [e5] at e4
  omega

theorem NatAt.other {B : Nat} {w : World} {v : Value} {r : Nat} (h : NatAt B w v r) (p : Addr) (u : Value) (hp : p.block < B) : NatAt B (w.setCell p u) v r := by
  obtain ⟨ao, n, c, e1, e2, h3⟩ := h
  by_cases h0 : n = 0
  · subst h0
    refine ⟨ao, 0, c, e1, e2, ⟨h3.1.1, h3.1.2.1, h3.1.2.2.1, fun i hi => absurd hi (by omega)⟩, fun b off i _ hi => absurd hi (by omega)⟩
  · exact ⟨ao, n, c, e1, e2, h3.other p u fun b off e => by have := (h3.2 b off 0 e (by omega)).1; omega⟩

theorem cmpN_ge (u v : Nat) : (v ≤ u → 0 ≤ cmpN u v) ∧ (¬ v ≤ u → cmpN u v < 0) := by
  unfold cmpN
  constructor
  · intro h; rw [if_neg (by omega)]; split <;> decide
  · intro h; rw [if_pos (by omega)]; decide

/-- What the quotient so far, what is left and the divisor come to. -/
def DivInv (u v q r D k : Nat) : Prop := u = q * v + r ∧ r < v * 2 ^ k ∧ (∃ Q, q = Q * 2 ^ k) ∧ (0 < k → D = v * 2 ^ (k - 1))

theorem DivInv.take {u v q r D i : Nat} (h : DivInv u v q r D (i + 1)) (hd : D ≤ r) : DivInv u v (q + 2 ^ i) (r - D) (D / 2) i := by
  obtain ⟨h1, h2, ⟨Q, h3⟩, h4⟩ := h
  have h4 := h4 (by omega)
  rw [Nat.add_sub_cancel] at h4
  refine ⟨?_, ?_, ⟨2 * Q + 1, ?_⟩, fun hi => ?_⟩
  · rw [Nat.add_mul, Nat.mul_comm (2 ^ i), ← h4]; omega
  · rw [Nat.pow_succ, ← Nat.mul_assoc, ← h4] at h2; rw [← h4]; omega
  · rw [h3, Nat.add_mul, Nat.pow_succ, Nat.one_mul, Nat.mul_comm 2 Q, Nat.mul_assoc Q, Nat.mul_comm 2]
  · obtain ⟨j, rfl⟩ : ∃ j, i = j + 1 := ⟨i - 1, by omega⟩
    rw [h4, Nat.add_sub_cancel, Nat.pow_succ, ← Nat.mul_assoc, Nat.mul_div_cancel _ (by decide)]

theorem DivInv.skip {u v q r D i : Nat} (h : DivInv u v q r D (i + 1)) (hd : ¬ D ≤ r) : DivInv u v q r (D / 2) i := by
  obtain ⟨h1, h2, ⟨Q, h3⟩, h4⟩ := h
  have h4 := h4 (by omega)
  rw [Nat.add_sub_cancel] at h4
  refine ⟨h1, by rw [← h4]; omega, ⟨2 * Q, ?_⟩, fun hi => ?_⟩
  · rw [h3, Nat.pow_succ, Nat.mul_comm 2 Q, Nat.mul_assoc Q, Nat.mul_comm 2]
  · obtain ⟨j, rfl⟩ : ∃ j, i = j + 1 := ⟨i - 1, by omega⟩
    rw [h4, Nat.add_sub_cancel, Nat.pow_succ, ← Nat.mul_assoc, Nat.mul_div_cancel _ (by decide)]

theorem DivInv.done {u v q r D : Nat} (h : DivInv u v q r D 0) : q = u / v ∧ r = u % v := by
  obtain ⟨h1, h2, _, _⟩ := h
  rw [Nat.pow_zero, Nat.mul_one] at h2
  subst h1
  rw [Nat.mul_comm q v, Nat.mul_add_div (by omega), Nat.div_eq_of_lt h2, Nat.mul_add_mod, Nat.mod_eq_of_lt h2]
  exact ⟨by omega, rfl⟩

theorem DivInv.start {u v s : Nat} (hv : v ≠ 0) (hs : blen u ≤ blen v + s) : DivInv u v 0 u (v * 2 ^ s) (s + 1) := by
  refine ⟨by omega, ?_, ⟨0, by omega⟩, fun _ => rfl⟩
  have h1 := blen_ge v hv
  have h2 : blen v ≠ 0 := fun e => hv ((blen_nil v).1 e)
  have h3 := (blen_le u (blen v + s)).1 hs
  have h4 : 2 ^ (blen v + s) = 2 ^ (blen v - 1) * 2 ^ (s + 1) := by rw [← Nat.pow_add]; congr 1; omega
  rw [h4] at h3
  exact Nat.lt_of_lt_of_le h3 (Nat.mul_le_mul_right _ h1)

set_option maxRecDepth 100000 in
set_option maxHeartbeats 4000000 in
theorem nDiv_calls (a a' : Option Addr) (len cap len' cap' : Nat) (xs ys : List Int) (w : World) (h : IsW w a len cap xs) (h' : IsW w a' len' cap' ys) (hm : len ≤ 17592186042000) (hm' : len' ≤ 17592186042000)
    (hq : blen (val xs) ≤ 65536) (hv0 : val ys ≠ 0) :
    Calls Tryz.prog 116 #[.slice a len cap, .slice a' len' cap'] w fun e w' => ∃ v v', e = .returned (.tuple #[v, v']) ∧ NatAt w.heap.size w' v (val xs / val ys) ∧ NatAt w.heap.size w' v' (val xs % val ys) ∧ Below w.heap.size w w' := by
  obtain ⟨u, hu⟩ : ∃ u, u = val xs := ⟨_, rfl⟩
  obtain ⟨v, hv⟩ : ∃ v, v = val ys := ⟨_, rfl⟩
  obtain ⟨bu, hbu⟩ : ∃ b, b = blen u := ⟨_, rfl⟩
  obtain ⟨bv, hbv⟩ : ∃ b, b = blen v := ⟨_, rfl⟩
  have HU : Hid (u = val xs ∧ v = val ys) := ⟨hu, hv⟩
  have BU : Hid (bu = blen u ∧ bv = blen v) := ⟨hbu, hbv⟩
  have L1 : Hid _ := nLen_calls a len cap xs w h (by omega)
  rw [← hu, ← hbu] at L1
  rw [← hu, ← hbu] at hq
  rw [← hv] at hv0
  rw [← hu, ← hv]
  have HV0 : Hid (v ≠ 0) := hv0
  have hbvb : bv ≤ 1125899906842624 := by have := blen_words_le ys h'.2.1; have := h'.1; rw [hbv, hv]; omega
  clear hu hv hbu hbv hv0
  go_enter Tryz.func116, Tryz.ntmps116
  go_wp2_with fail
  refine Calls.mono L1.out ?_
  rintro e w1 ⟨rfl, hb1⟩
  go_wp2_with fail
  refine Calls.mono (nLen_calls a' len' cap' ys w1 (h'.keep hb1) (by omega)) ?_
  rw [← HU.out.2, ← BU.out.2]
  rintro e w2 ⟨rfl, hb2⟩
  have hb2 := nbelow_trans hb1 hb2
  clear hb1 L1
  by_cases hlt : bu < bv
  · have HLT : Hid (u / v = 0 ∧ u % v = u) := by
      have : u < v := by
        rcases Nat.lt_or_ge u v with q | q
        · exact q
        · have := blen_mono q; have := BU.out; omega
      exact ⟨Nat.div_eq_of_lt this, Nat.mod_eq_of_lt this⟩
    go_wp2_with fail
    refine Calls.mono (nNorm_calls a len cap xs w2 (h.keep hb2) (by omega)) ?_
    rw [← HU.out.1]
    rintro e w3 ⟨ao, cv, rfl, hO, hb3⟩
    have HA : Hid _ := (natAt_own hO rfl).low hb2.size
    clear hO
    go_wp2_with fail
    go_ret2
    rw [HLT.out.1, HLT.out.2]
    exact ⟨_, _, rfl, natAt_nil _ _, HA.out, nbelow_trans hb2 hb3⟩
  · obtain ⟨s, hs⟩ : ∃ s, bu = bv + s := ⟨bu - bv, by omega⟩
    have hsub : (bu : Int) - (bv : Int) = (s : Int) := by omega
    obtain ⟨sk, hsk⟩ : ∃ sk, sk = s / 64 := ⟨_, rfl⟩
    have q1 : (s : Int) / 64 = (sk : Int) := by omega
    have hsb : s ≤ 65536 := by omega
    have HSK : Hid (sk = s / 64) := hsk
    have hskb : sk ≤ 1024 := by omega
    have HSB : Hid (bu = bv + s) := hs
    obtain ⟨w3, hmk, hO3, hb3, hz3⟩ := make_words 24 nat_T w2 (sk + 1) (by omega)
    rw [show ((sk + 1 : Nat) : Int) = (sk : Int) + 1 by omega] at hmk
    clear hsk hs
    go_wp2_with fail
    clear hmk hsub
    have hb23 := nbelow_trans hb2 (hb3.mono (Nat.le_refl _))
    refine Calls.mono (nNorm_calls a len cap xs w3 (h.keep hb23) (by omega)) ?_
    rw [← HU.out.1]
    rintro e w4 ⟨a4, c4, rfl, hO4, hb4⟩
    obtain ⟨n4, hn4⟩ : ∃ n, n = (wordsOf u).length := ⟨_, rfl⟩
    rw [← hn4]
    have HA4 : Hid (NatAt w3.heap.size w4 (.slice a4 n4 c4) u) := natAt_own hO4 hn4.symm
    clear hn4
    clear hO4
    go_wp2_with fail
    refine Calls.mono (nShl_calls a' len' cap' s ys w4 (h'.keep (nbelow_trans hb23 hb4)) (by omega) (by omega)) ?_
    rw [← HU.out.2]
    rintro e w5 ⟨a5, c5, rfl, hO5, hb5⟩
    obtain ⟨n5, hn5⟩ : ∃ n, n = (wordsOf (v * 2 ^ s)).length := ⟨_, rfl⟩
    rw [← hn5]
    have HA5 : Hid (NatAt w4.heap.size w5 (.slice a5 n5 c5) (v * 2 ^ s)) := natAt_own hO5 hn5.symm
    clear hn5
    clear hO5
    have S1 : NatAt (w2.heap.size + 1) w5 (.slice a4 n4 c4) u := (HA4.out.keep hb5).low (by omega)
    have S2 : NatAt (w2.heap.size + 1) w5 (.slice a5 n5 c5) (v * 2 ^ s) := HA5.out.low (by have := hb4.size; omega)
    have S3 : OwnW w2.heap.size w5 (some ⟨w2.heap.size, 0, none⟩) (sk + 1) (sk + 1) (zeros (sk + 1)) := hO3.keep (nbelow_trans hb4 hb5)
    have S4 : Below w2.heap.size w2 w5 := hb3.trans ((nbelow_trans hb4 hb5).mono (by omega))
    have HS : Hid _ := And.intro S1 (And.intro S2 (And.intro S3 S4))
    clear S1 S2 S3 S4 HA4 HA5 hO3 hb3 hz3 hb4 hb5 hb23
    go_wp2_with fail
    go_loopg [8, 9, 10] (s + 1) (fun g vr vd vi wr => ∃ (z : Int) (r D : Nat) (M : List Int), g ≤ s + 1 ∧ vi = .int .i64 z ∧ z = (g : Int) - 1 ∧ Hid (DivInv u v (val M) r D g) ∧ NatAt (w2.heap.size + 1) wr vr r ∧ NatAt (w2.heap.size + 1) wr vd D ∧ OwnW w2.heap.size wr (some ⟨w2.heap.size, 0, none⟩) (sk + 1) (sk + 1) M ∧ Below w2.heap.size w2 wr)
    case atStart =>
      obtain ⟨S1, S2, S3, S4⟩ := HS.out
      refine ⟨s, u, v * 2 ^ s, zeros (sk + 1), by omega, rfl, by omega, ?_, S1, S2, S3, S4⟩
      rw [Hid, val_zeros]
      exact DivInv.start HV0.out (by have := BU.out; have := HSB.out; omega)
    case round =>
      obtain ⟨z, r, D, M, hg, rfl, hz, HI, hR, hD, hO, hbr⟩ := hrel
      clear HS
      by_cases hk : gk = 0
      · subst hk
        have hzn : z < 0 := by omega
        clear hz
        have hdn := HI.out.done
        have NC : Hid _ := nNorm_calls (some ⟨w2.heap.size, 0, none⟩) (sk + 1) (sk + 1) M wr hO.1 (by omega)
        rw [hdn.1] at NC
        rw [hdn.2] at hR
        clear hdn hD hO
        obtain ⟨ar, nr, cr, rfl, hr1, hr2⟩ := hR
        have HR : Hid _ := And.intro hr1 hr2
        clear hr1 hr2
        go_wp2_with fail
        refine Calls.mono NC.out ?_
        rintro e w6 ⟨a6, c6, rfl, hO6, hb6⟩
        obtain ⟨n6, hn6⟩ : ∃ n, n = (wordsOf (u / v)).length := ⟨_, rfl⟩
        rw [← hn6]
        have HA6 : Hid (NatAt wr.heap.size w6 (.slice a6 n6 c6) (u / v)) := natAt_own hO6 hn6.symm
        clear hn6
        clear hO6
        go_wp2_with fail
        go_ret2
        have hsz := hb2.size
        have hR6 : NatAt (w2.heap.size + 1) w6 (.slice ar nr cr) (u % v) := NatAt.keep ⟨ar, nr, cr, rfl, HR.out.1, HR.out.2⟩ hb6
        exact ⟨_, _, rfl, HA6.out.low (Nat.le_trans hsz hbr.size), hR6.low (by omega), nbelow_trans hb2 (hbr.trans (hb6.mono hbr.size))⟩
      · obtain ⟨i, rfl⟩ : ∃ i, gk = i + 1 := ⟨gk - 1, by omega⟩
        have hzi : z = (i : Int) := by omega
        subst hzi
        clear hz hk
        have hgs : w2.heap.size < wr.heap.size := by
          obtain ⟨_, _, e1, h1, _⟩ := hO.1.2.2.2 0 (by omega)
          simp only [Option.some.injEq, Addr.mk.injEq, and_true] at e1
          rw [e1.1]; exact h1
        obtain ⟨ar, nr, cr, rfl, hr1, hr2⟩ := hR
        obtain ⟨ad, nd, cd, rfl, hd1, hd2⟩ := hD
        have bl1 : nr ≤ 1024 := by
          rw [hr1]; exact (words_len2 1024 r).2 (Nat.le_trans (blen_mono (b := u) (by have := HI.out.1; omega)) (by have := BU.out; omega))
        have bl2 : nd ≤ 1024 := by
          rw [hd1]
          refine (words_len2 1024 D).2 (Nat.le_trans ((blen_le D bu).2 ?_) (by omega))
          have e1 := HI.out.2.2.2 (by omega)
          rw [Nat.add_sub_cancel] at e1
          rw [e1, HSB.out, Nat.pow_add]
          exact Nat.lt_of_lt_of_le (Nat.mul_lt_mul_of_pos_right ((blen_le v bv).1 (by have := BU.out; omega)) (Nat.pow_pos (by decide))) (Nat.mul_le_mul_left _ (Nat.pow_le_pow_right (by decide) (by omega)))
        have CC : Hid _ := nCmp_calls ar ad nr cr nd cd _ _ wr hr2.1 hd2.1 (by omega) (by omega)
        rw [val_words, val_words] at CC
        have HC := cmpN_ge r D
        generalize cmpN r D = cc at HC CC
        by_cases hge : D ≤ r
        · have hc0 := HC.1 hge
          obtain ⟨Q, hQ⟩ := HI.out.2.2.1
          obtain ⟨e, he⟩ : ∃ e, e = i / 64 := ⟨_, rfl⟩
          have q2 : (i : Int) / 64 = (e : Int) := by omega
          have hle : e ≤ sk := by rw [he, HSK.out]; exact Nat.div_le_div_right (by omega)
          obtain ⟨t, ht0, ht1, ht2⟩ := bit_put M hO.1.2.1 i Q (by have := hO.1.1; omega) hQ
          rw [← he] at ht0 ht2
          obtain ⟨tt, htt⟩ : ∃ tt, tt = t + 2 ^ (i % 64) := ⟨_, rfl⟩
          have r1 : IntKind.u64.wrap ((t : Int) + IntKind.u64.wrap (2 ^ (i % 64))) = (tt : Int) := by
            rw [show ((2 : Int) ^ (i % 64)) = ((2 ^ (i % 64) : Nat) : Int) by rw [Int.natCast_pow]; rfl]
            rw [htt]
            generalize 2 ^ (i % 64) = p at *
            rw [IntKind.wrap_u64, IntKind.wrap_u64]; omega
          rw [← htt] at ht1 ht2
          have HT2 : Hid (val (M.set e (tt : Int)) = val M + 2 ^ i) := ht2
          have SC : Hid _ := nSub_calls ar ad nr cr nd cd _ _ wr hr2.1 hd2.1 (by omega) (by omega) (by rw [val_words, val_words]; exact hge)
          rw [val_words, val_words] at SC
          have HGE : Hid (D ≤ r) := hge
          have HD2 : Hid _ := hd2
          have HD1 : Hid _ := hd1
          clear hd1 hd2 hr1 hr2 HC hge hQ ht2 he htt
          go_wp2_with fail
          refine Calls.mono CC.out ?_
          rintro e2 wr ⟨rfl, rfl⟩
          go_wp2_with fail
          refine Calls.mono SC.out ?_
          rintro e3 w6 ⟨a6, c6, rfl, hO6, hb6⟩
          obtain ⟨n6, hn6⟩ : ∃ n, n = (wordsOf (r - D)).length := ⟨_, rfl⟩
          rw [← hn6]
          have HA6 : Hid (NatAt wr.heap.size w6 (.slice a6 n6 c6) (r - D)) := natAt_own hO6 hn6.symm
          clear hn6
          have hO := hO.keep hb6
          obtain ⟨_, _, e1, hgl, hcell⟩ := hO.1.2.2.2 e (by omega)
          simp only [Option.some.injEq, Addr.mk.injEq, and_true] at e1
          obtain ⟨rfl, rfl⟩ := e1
          have hfz := (hO.2 _ _ e rfl (by omega)).2
          rw [Nat.zero_add] at hcell hfz
          rw [ht0] at hcell
          clear hO6 ht0 CC SC
          go_wp2_with fail
          have HA7 : Hid (NatAt (w2.heap.size + 1) (w6.setCell ⟨w2.heap.size, e, none⟩ (.int .u64 (tt : Int))) (.slice a6 n6 c6) (r - D)) :=
            (HA6.out.low (by omega)).other _ _ (by simp)
          have hO7 := hO.set (i := e) (by omega) (v := (tt : Int)) (by omega) (by omega)
          rw [Nat.zero_add] at hO7
          have HO7 : Hid (OwnW w2.heap.size (w6.setCell ⟨w2.heap.size, e, none⟩ (.int .u64 (tt : Int))) (some ⟨w2.heap.size, 0, none⟩) (sk + 1) (sk + 1) (M.set e (tt : Int))) := hO7
          have hgs7 : w2.heap.size < (w6.setCell ⟨w2.heap.size, e, none⟩ (.int .u64 (tt : Int))).heap.size := by rw [World.size_setCell]; exact hgl
          have HB7 : Hid (Below w2.heap.size w2 (w6.setCell ⟨w2.heap.size, e, none⟩ (.int .u64 (tt : Int)))) := (hbr.trans (hb6.mono hbr.size)).setCell (Nat.le_refl _) _
          have hN : NatAt (w2.heap.size + 1) (w6.setCell ⟨w2.heap.size, e, none⟩ (.int .u64 (tt : Int))) (.slice ad nd cd) D :=
            (NatAt.keep ⟨ad, nd, cd, rfl, HD1.out, HD2.out⟩ hb6).other _ _ (by simp)
          generalize w6.setCell ⟨w2.heap.size, e, none⟩ (.int .u64 (tt : Int)) = w7 at HA7 HO7 HB7 hN hgs7 ⊢
          obtain ⟨_, _, _, e8, h8, h9⟩ := hN
          simp only [Value.slice.injEq] at e8
          obtain ⟨rfl, rfl, rfl⟩ := e8
          have RC : Hid _ := nShr_calls ad nd cd 1 _ w7 h9.1 (by omega) (by omega)
          rw [val_words, Nat.pow_one] at RC
          clear hO7 hO hcell hfz h8 h9 HD2 HA6
          refine Calls.mono RC.out ?_
          rintro e9 w8 ⟨v8, rfl, hv8, hb8⟩
          have HV8 : Hid (NatAt (w2.heap.size + 1) w8 v8 (D / 2)) := hv8.low (by omega)
          clear hv8
          go_wp2_with fail
          go_roundg i
          case measure => omega
          case rel =>
            refine ⟨(i : Int) - 1, r - D, D / 2, M.set e (tt : Int), by omega, by go_num, by omega, ?_, HA7.out.keep hb8, HV8.out, HO7.out.keep hb8, HB7.out.trans (hb8.mono HB7.out.size)⟩
            rw [Hid, HT2.out]
            exact HI.out.take HGE.out
        · have hc0 := HC.2 hge
          have HGE : Hid (¬ D ≤ r) := hge
          have HR1 : Hid (NatAt (w2.heap.size + 1) wr (.slice ar nr cr) r) := ⟨ar, nr, cr, rfl, hr1, hr2⟩
          have RC : Hid _ := nShr_calls ad nd cd 1 _ wr hd2.1 (by omega) (by omega)
          rw [val_words, Nat.pow_one] at RC
          have HO1 : Hid (OwnW w2.heap.size wr (some ⟨w2.heap.size, 0, none⟩) (sk + 1) (sk + 1) M) := hO
          clear hd1 hd2 hr1 hr2 HC hge hO
          go_wp2_with fail
          refine Calls.mono CC.out ?_
          rintro e2 wr ⟨rfl, rfl⟩
          go_wp2_with fail
          refine Calls.mono RC.out ?_
          rintro e9 w8 ⟨v8, rfl, hv8, hb8⟩
          have HV8 : Hid (NatAt (w2.heap.size + 1) w8 v8 (D / 2)) := hv8.low (by omega)
          clear hv8
          go_wp2_with fail
          go_roundg i
          case measure => omega
          case rel =>
            exact ⟨(i : Int) - 1, r, D / 2, M, by omega, by go_num, by omega, HI.out.skip HGE.out, HR1.out.keep hb8, HV8.out, HO1.out.keep hb8, hbr.trans (hb8.mono hbr.size)⟩

end Go.Proofs.YtkkldnnndlpblaaGreatDoor

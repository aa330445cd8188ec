/- The walks of package nat, second part: copies, answers, how many bits, which is the greater, single bits. Plain facts on the words of binary64 numbers (fields, signs, the ladder of numbers, the total order, last bits): the functions that the walks speak of, and what Go's bit operations on uint64 come to; for every whole number from 0 to 2^64 - 1. The walks of package bits: what each of its functions answers, for every uint64, in whatever memory. The walks of package nat, third part: Norm, Of, Len, Low, Bit, Cmp. The walks of package nat, fourth part: Norm, Of, Len, Low, Bit, Cmp as they are called. Lists of words in memory: made, and one word set. The walks of package nat, fifth part: sums and differences of words. The walks of package nat, sixth part: sums and differences, word by word. The walks of package nat, seventh part: Add and Sub as they are called. Plain facts behind math/bits.Div64: a digit of 32 bits of a quotient by two such digits, guessed and put right. Plain facts for the walk of math/bits.Div64: what its words come to. The walks of shifts to the left. The walks of shifts to the right. The walks of Shl and Shr as they are called. Plain facts on dyadic numbers: the one form. The calls of package nat (no quotients, no powers) where what they come to is known: the answers' slices, read. The walks of package dyad, first part: the numbers' small methods; the one form. -/
import Derived.Test.YtahpdcbmekgkfaaGreatDoorTMA
import Derived.Test.YtahpdcbmekgkfaaGreatDoorNShelf
import Derived.WalkKit
import Derived.Laws.BitsAllLaws
import Derived.Lib.TrailingZeros
import Derived.WalkSpells
import Derived.WalkLawsBesides
import Derived.Test.YtahpdcbmekgkfaaGreatDoorRows
import Derived.Laws.OwnMore
import Derived.OwnWalk
import Derived.Laws.Externs
import Derived.Shelf.Spec.BitsCarry
import Derived.BigRegion
import Derived.Test.YtahpdcbmekgkfaaGreatDoorAL

namespace Go.Proofs.YtahpdcbmekgkfaaGreatDoor
open Go.RowKit
set_option maxHeartbeats 1000000
def NatAt (B : Nat) (w : World) (v : Value) (r : Nat) : Prop := ∃ (ao : Option Addr) (n c : Nat), v = .slice ao n c ∧ n = (wO r).length ∧ OwnW B w ao n c (wO r)
theorem natAt_nil (B : Nat) (w : World) : NatAt B w (.slice none 0 0) 0 := ⟨none, 0, 0, rfl, by rw [words_zero]; rfl, by rw [words_zero]; exact ownW_nil B w⟩
theorem NatAt.keep {B : Nat} {w w' : World} {v : Value} {r : Nat} (h : NatAt B w v r) (hb : Below w.heap.size w w') : NatAt B w' v r := by
 obtain ⟨ao, n, c, e1, e2, h3⟩ := h
 exact ⟨ao, n, c, e1, e2, h3.keep hb⟩
theorem NatAt.low {B B' : Nat} {w : World} {v : Value} {r : Nat} (h : NatAt B w v r) (hB : B' ≤ B) : NatAt B' w v r := by
 obtain ⟨ao, n, c, e1, e2, h3⟩ := h
 exact ⟨ao, n, c, e1, e2, h3.low hB⟩
theorem trimN_pack (a : Option Addr) (len cap : Nat) (xs : List Int) (w : World) (h : IsW w a len cap xs) (hm : len ≤ 17592186044416) :
  Calls Tryz.prog 158 #[.slice a len cap] w fun e w' => ∃ (a1 : Option Addr) (n : Nat), e = .returned (.slice a1 n n) ∧ n = (wO (val xs)).length ∧ IsW w a1 n n (wO (val xs)) ∧ w' = w := by
 refine cM (trimN_calls a len cap xs w h hm) ?_
 rintro e w' ⟨rfl, rfl⟩
 exact ⟨_, _, rfl, rfl, isW_trim h, rfl⟩
theorem trimW_pack (B : Nat) (a : Option Addr) (len cap : Nat) (xs : List Int) (w : World) (h : OwnW B w a len cap xs) (hm : len ≤ 17592186044416) :
  Calls Tryz.prog 192 #[.slice a len cap] w fun e w' => ∃ (a1 : Option Addr) (n : Nat), e = .returned (.slice a1 n n) ∧ n = (wO (val xs)).length ∧ OwnW B w a1 n n (wO (val xs)) ∧ w' = w := by
 refine cM (trimW_calls a len cap xs w h.1 hm) ?_
 rintro e w' ⟨rfl, rfl⟩
 exact ⟨_, _, rfl, rfl, ownW_trim h, rfl⟩
theorem words_le (xs : List Int) (h : AllU xs) : (wO (val xs)).length ≤ xs.length := by have := size_words xs h; have := size_le xs; omega
theorem below_one (w : World) (o : Obj) : Below w.heap.size w (w.alloc o) := (Below.refl _ _).alloc (Nat.le_refl _) o
theorem copied_calls (a : Option Addr) (n : Nat) (xs : List Int) (w : World) (h : IsW w a n n xs) (hm : n ≤ 17592186044416) :
  Calls Tryz.prog 195 #[.slice a n n] w fun e w' => ∃ (ao : Option Addr) (cv : Nat), e = .returned (.slice ao n cv) ∧ OwnW w.heap.size w' ao n cv xs ∧ Below w.heap.size w w' := by
 obtain ⟨i0, hi, hz0, hz1, hz2⟩ := info_parts word_info
 have HL : Hid (n = xs.length) := h.1
 have HU : Hid (AllU xs) := h.2.1
 cases a with
 | none =>
  obtain rfl := h.2.2.1.2 rfl
  have hx : xs = [] := List.length_eq_zero_iff.1 HL.out.symm
  subst hx
  clear h
  go_enter Tryz.func195, Tryz.ntmps195
  go_wp2
  go_ret
  exact ⟨none, 0, rfl, ownW_nil _ _, by first | exact Below.refl _ _ | exact (Below.refl _ _).drew⟩
 | some ad =>
  have hnews : ∀ j u, (xs.map (Value.int .u64))[j]? = some u → w.cell? (ad.add j) = some u := by
   intro j u hj
   have hjl : j < n := by
    have := (List.getElem?_eq_some_iff.1 hj).1
    simp at this; have := HL.out; omega
   obtain ⟨b2, off2, e2, _, q2⟩ := h.2.2.2 j hjl
   simp only [Option.some.injEq] at e2
   subst e2
   have hu : u = .int .u64 (xs.getD j 0) := by
    simp only [List.getElem?_map] at hj
    have hj2 : xs[j]? = some (xs.getD j 0) := by
     rw [List.getElem?_eq_getElem (by have := HL.out; omega)]; simp [List.getD, show j < xs.length by have := HL.out; omega]
    rw [hj2] at hj
    simpa using hj.symm
   rw [hu]
   by_cases h00 : j = 0
   ·subst h00; simpa [Addr.add] using q2
   ·simpa [Addr.add, h00] using q2
  have HNEW : Hid _ := hnews
  clear hnews h
  go_enter Tryz.func195, Tryz.ntmps195
  go_wp2_with (at_builtin; refine wpList_append_own _ rfl _ _ 136 rfl w.heap.size 53 i0 (.int .u64 0) 1 8 Tryz.underlying136 hi hz0 hz1 hz2 rfl (by decide) _ _ _ rfl (World.ownsRow_nil _ _ _ _) ad n n (xs.map (Value.int .u64)) rfl (by rw [List.length_map, ← HL.out]; omega) HNEW.out (fun u hu => by simp only [List.mem_map] at hu; obtain ⟨y, _, rfl⟩ := hu; rfl) (by unfold maxLen; omega) (by omega) (by omega) ?_; intro v' w3 hown' hgrow3 hnil3)
  go_ret
  have hb3 : Below w.heap.size w w3 := (Below.refl _ _).grown hgrow3 (Nat.le_refl _) (fun q hq => by cases hq)
  have hO : ∃ ao cv, v' = .slice ao n cv ∧ Own w.heap.size w3 ao cv xs := by
   rcases hown'.2 with ⟨e1, e2⟩ | ⟨g3, cap3, cur, e1, r⟩
   ·have hn0 : n = 0 := by omega
    have hx : xs = [] := List.length_eq_zero_iff.1 (by rw [← HL.out]; exact hn0)
    refine ⟨none, 0, by rw [e1, hn0], ?_⟩
    subst hx
    exact World.ownsRow_nil _ _ _ _
   ·rw [Nat.zero_add] at e1
    refine ⟨some ⟨g3, 0, none⟩, cap3, e1, ?_⟩
    unfold Own
    rw [← HL.out, ← e1]
    simpa using hown'
  obtain ⟨ao, cv, e1, hO⟩ := hO
  exact ⟨ao, cv, by rw [e1]; rfl, hO.ownW HU.out HL.out.symm, hb3⟩
theorem answer_calls (B : Nat) (a : Option Addr) (len cap : Nat) (xs : List Int) (w : World) (h : OwnW B w a len cap xs) (hm : len ≤ 17592186044416) :
  Calls Tryz.prog 160 #[.slice a len cap] w fun e w' => ∃ v, e = .returned (.tuple #[v, .int .i64 (fitR (val xs)).2]) ∧ NatAt B w' v (fitR (val xs)).1 ∧ Below w.heap.size w w' := by
 have HT := trimW_pack B a len cap xs w h hm
 go_enter Tryz.func160, Tryz.ntmps160
 go_wp2_with fail
 refine cM HT ?_
 rintro e w ⟨a1, n, rfl, hn, hO, rfl⟩
 have HN : Hid (n = (wO (val xs)).length) := hn
 clear hn HT h hm
 go_wp2_with fail
 refine cM (great1_calls _ a1 n n _ (by go_simp)) ?_
 rintro e w1 ⟨rfl, rfl⟩
 by_cases hg : 1024 < n
 ·have e0 : Hid (greatB (val xs) = true) := by rw [Hid, greatB, ← HN.out]; simpa using hg
  go_wp2_with fail
  go_ret2
  rw [fitR_yes e0.out]
  exact ⟨_, rfl, natAt_nil _ _, below_one _ _⟩
 ·have e0 : Hid (greatB (val xs) = false) := by rw [Hid, greatB, ← HN.out]; simpa using hg
  go_wp2_with fail
  go_ret2
  rw [fitR_no e0.out]
  exact ⟨_, rfl, ⟨a1, n, n, rfl, HN.out, hO.keep (below_one _ _)⟩, below_one _ _⟩
theorem bits_calls (a : Option Addr) (n : Nat) (v : Nat) (w : World) (h : IsW w a n n (wO v)) (hm : n ≤ 17592186044416) :
  Calls Tryz.prog 169 #[.slice a n n] w fun e w' => e = .returned (.int .i64 (blen v)) ∧ w' = w := by
 have HL : Hid (n = (wO v).length) := h.1
 by_cases h0 : v = 0
 ·subst h0
  have : n = 0 := by rw [HL.out, words_zero]; rfl
  subst this
  have e0 : Hid (blen 0 = 0) := blen_zero
  clear h HL
  go_enter Tryz.func169, Tryz.ntmps169
  go_wp2_with fail
  go_ret
  exact ⟨nret_int (by rw [e0.out]; rfl), rfl⟩
 ·have hT : Hid _ := blen_top v h0
  have hlp : 0 < n := by
   rcases Nat.eq_zero_or_pos n with h1 | h1
   ·exact absurd ((words_nil _).1 (List.length_eq_zero_iff.1 (by rw [← HL.out]; exact h1))) h0
   ·exact h1
  obtain ⟨m, rfl⟩ : ∃ m, n = m + 1 := ⟨n - 1, by omega⟩
  have hg := (words_U v).get m
  obtain ⟨b, off, ha, _, hc⟩ := h.2.2.2 m (by omega)
  subst ha
  rw [← HL.out, show m + 1 - 1 = m by omega] at hT
  obtain ⟨x, hx⟩ : ∃ x, x = (wO v).getD m 0 := ⟨_, rfl⟩
  rw [← hx] at hc hT hg
  have hbl : Lib.bitLen x.toNat = blen x.toNat := blen_lib _ (by have : (2 : Nat) ^ 64 = 18446744073709551616 := rfl; omega)
  have hbt : Lib.bitLen x.toNat ≤ 64 := by rw [hbl, blen_le]; have : (2 : Nat) ^ 64 = 18446744073709551616 := rfl; omega
  have hV : Hid (blen v = 64 * m + Lib.bitLen x.toNat) := by rw [hbl]; exact hT
  clear hT hbl h hx h0 HL
  go_enter Tryz.func169, Tryz.ntmps169
  go_wp2_with fail
  refine cM (Tryz.bits_LeadingZeros64 _ _ hg.1 hg.2) ?_
  rintro e w ⟨rfl, rfl⟩
  go_wp2_with fail
  go_ret
  exact ⟨nret_int (by rw [hV.out]; omega), rfl⟩
end Go.Proofs.YtahpdcbmekgkfaaGreatDoor

namespace Go.Proofs.YtahpdcbmekgkfaaGreatDoor
open Go.RowKit
def U (x : Int) : Prop := 0 ≤ x ∧ x ≤ 18446744073709551615
def tzV (x : Int) : Int := (Lib.ctz 64 x.toNat : Int)
/-! ### bit operations -/
/-! ### bounds -/
theorem tzV_bd (x : Int) (h : U x) : 0 ≤ tzV x ∧ tzV x ≤ 64 := by
 unfold tzV
 refine ⟨by omega, ?_⟩
 by_cases h0 : x.toNat = 0
 ·rw [h0]; decide
 ·have := (Lib.lowest_bit 64 x.toNat h0 (by unfold U at h; have : (2 : Nat) ^ 64 = 18446744073709551616 := (by decide); omega)).2
  omega
end Go.Proofs.YtahpdcbmekgkfaaGreatDoor

namespace Go.Proofs.YtahpdcbmekgkfaaGreatDoor
open Go.RowKit
set_option maxHeartbeats 1000000
def Tab (w : World) : Prop := 0 < w.heap.size ∧ ∀ j, j < 64 → w.cell? ⟨0, j, none⟩ = some (.int .u8 (Lib.deBruijn64tab.getD j 0))
theorem Tab.kept {w w' : World} (h : Tab w) (hb : Below w.heap.size w w') : Tab w' :=
 ⟨Nat.lt_of_lt_of_le h.1 hb.size, fun j hj => by rw [hb.cell (p := ⟨0, j, none⟩) h.1]; exact h.2 j hj⟩
theorem tz_key (x a : Nat) (hx : x < 18446744073709551616) (hx0 : x ≠ 0) (hlow : x &&& (18446744073709551616 - x) = a) :
  IntKind.u64.wrap (bits BinOp.and IntKind.u64 (x : Int) (IntKind.u64.wrap (-(x : Int))) * 285870213051353865) / 288230376151711744 = ((a * 285870213051353865 % 18446744073709551616 / 288230376151711744 : Nat) : Int) := by
 have e1 : IntKind.u64.wrap (-(x : Int)) = ((18446744073709551616 - x : Nat) : Int) := by rw [IntKind.wrap_u64]; omega
 rw [e1, u64_and_nat x _ hx (by omega), hlow, IntKind.wrap_u64]
 omega
theorem tz_core (x k idx : Nat) (w : World) (hx0 : ((x : Int) == 0) = false)
  (key : IntKind.u64.wrap (bits BinOp.and IntKind.u64 (x : Int) (IntKind.u64.wrap (-(x : Int))) * 285870213051353865) / 288230376151711744 = (idx : Int))
  (hi : idx < 64) (hk : k < 64) (hcell : w.cell? ⟨0, idx, none⟩ = some (.int .u8 k)) :
  Calls Tryz.prog 187 #[.int .u64 x] w fun e w' => e = .returned (.int .i64 k) ∧ w' = w := by
 go_enter Tryz.func187, Tryz.ntmps187
 go_wp2_with (simp only [key])
 go_ret
 exact ⟨rfl, rfl⟩
theorem tz_calls (x : Int) (w : World) (h0 : 0 < x) (h1 : x ≤ 18446744073709551615) (hT : Tab w) :
  Calls Tryz.prog 187 #[.int .u64 x] w fun e w' => e = .returned (.int .i64 (tzV x)) ∧ w' = w := by
 obtain ⟨n, rfl⟩ := Int.eq_ofNat_of_zero_le (show 0 ≤ x by omega)
 have hn0 : n ≠ 0 := by omega
 obtain ⟨hlow, hk⟩ := Lib.lowest_bit 64 n hn0 (by have : (2 : Nat) ^ 64 = 18446744073709551616 := (by decide); omega)
 obtain ⟨hi, htab⟩ := Lib.deBruijn64_at _ hk
 have hcell := hT.2 _ hi
 rw [htab] at hcell
 unfold tzV
 rw [Int.toNat_natCast]
 exact tz_core n _ _ w (by simp; omega) (tz_key n _ (by omega) hn0 hlow) hi hk hcell
end Go.Proofs.YtahpdcbmekgkfaaGreatDoor

namespace Go.Proofs.YtahpdcbmekgkfaaGreatDoor
open Go.RowKit
set_option maxHeartbeats 1000000
set_option maxRecDepth 100000
theorem compareU_calls (x y : Int) (w : World) :
  Calls Tryz.prog 217 #[.int .u64 x, .int .u64 y] w fun e w' => e = .returned (.int .i64 (Lib.compareInt x y)) ∧ w' = w := by
 by_cases c1 : x < y
 ·have HV : Hid (Lib.compareInt x y = -1) := by rw [Hid, Lib.compareInt, if_pos c1]
  go_enter Tryz.func217, Tryz.ntmps217
  go_wp2
  go_ret
  exact ⟨nret_int HV.out.symm, rfl⟩
 ·by_cases c2 : y < x
  ·have HV : Hid (Lib.compareInt x y = 1) := by rw [Hid, Lib.compareInt, if_neg c1, if_pos c2]
   go_enter Tryz.func217, Tryz.ntmps217
   go_wp2
   go_ret
   exact ⟨nret_int HV.out.symm, rfl⟩
  ·have HV : Hid (Lib.compareInt x y = 0) := by rw [Hid, Lib.compareInt, if_neg c1, if_neg c2]
   go_enter Tryz.func217, Tryz.ntmps217
   go_wp2
   go_ret
   exact ⟨nret_int HV.out.symm, rfl⟩
theorem cmp_len (u v : Nat) (h : (wO u).length ≠ (wO v).length) : Lib.compareInt ((wO u).length : Nat) ((wO v).length : Nat) = cmpN u v := by
 have k1 := words_len (wO u).length
 have k2 := words_len (wO v).length
 have a1 := (k1 u).1 (Nat.le_refl _)
 have a2 := (k2 v).1 (Nat.le_refl _)
 have b1 := k1 v
 have b2 := k2 u
 unfold Lib.compareInt cmpN
 by_cases c : (wO u).length < (wO v).length
 ·have : ¬ v < 18446744073709551616 ^ (wO u).length := fun q => by have := b1.2 q; omega
  rw [if_pos (by omega), if_pos (by omega)]
 ·have : ¬ u < 18446744073709551616 ^ (wO v).length := fun q => by have := b2.2 q; omega
  rw [if_neg (by omega), if_pos (by omega), if_neg (by omega), if_pos (by omega)]
theorem against_calls (a a' : Option Addr) (n n' : Nat) (u v : Nat) (w : World) (h : IsW w a n n (wO u)) (h' : IsW w a' n' n' (wO v)) (hm : n ≤ 17592186044416) (hm' : n' ≤ 17592186044416) :
  Calls Tryz.prog 197 #[.slice a n n, .slice a' n' n'] w fun e w' => e = .returned (.int .i64 (cmpN u v)) ∧ Below w.heap.size w w' := by
 by_cases hl : n = n'
 ·subst hl
  have hx1 : (wO u).length ≤ n := by have := h.1; omega
  have hy1 : (wO v).length ≤ n := by have := h'.1; omega
  have C : Hid _ := cmp_top (wO u) (wO v) h.2.1 h'.2.1
  have E : Hid (SameFrom (wO u) (wO v) 0 → cmpN u v = 0) := fun hs => by have := cmp_same _ _ hs n hx1 hy1; rwa [val_words, val_words] at this
  have X1 : Hid ((wO u).length ≤ n) := hx1
  have Y1 : Hid ((wO v).length ≤ n) := hy1
  have S : Hid (SameFrom (wO u) (wO v) n) := fun i hi => by
   rw [show (wO u).getD i 0 = 0 by simp [List.getD, show ¬ i < (wO u).length by omega], show (wO v).getD i 0 = 0 by simp [List.getD, show ¬ i < (wO v).length by omega]]
  clear hx1 hy1
  go_enter Tryz.func197, Tryz.ntmps197
  go_wp2_with fail
  go_loopw [5] (fun q wr => ∃ k : Nat, k ≤ n ∧ q = .int .i64 ((k : Int) - 1) ∧ SameFrom (wO u) (wO v) k ∧ IsW wr a n n (wO u) ∧ IsW wr a' n n (wO v) ∧ Below w.heap.size w wr) (fun q _ => (intOf q + 1).toNat)
  case atStart => exact ⟨n, by omega, rfl, S.out, h, h', Below.refl _ _⟩
  case round =>
   obtain ⟨k, hk, rfl, hs, hW, hW', hbr⟩ := hrel
   clear h h'
   have HS : Hid (SameFrom (wO u) (wO v) k) := hs
   clear hs
   cases k with
   | zero =>
    have HV : Hid (cmpN u v = 0) := E.out HS.out
    go_wp2_with fail
    go_ret
    exact ⟨nret_int HV.out.symm, hbr⟩
   | succ k =>
    have D : Hid _ := C.out k n (by omega) X1.out Y1.out HS.out
    obtain ⟨b, off, ha, _, hc⟩ := hW.2.2.2 k (by omega)
    obtain ⟨b', off', ha', _, hc'⟩ := hW'.2.2.2 k (by omega)
    obtain ⟨x, hx⟩ : ∃ x, x = (wO u).getD k 0 := ⟨_, rfl⟩
    obtain ⟨y, hy⟩ : ∃ y, y = (wO v).getD k 0 := ⟨_, rfl⟩
    rw [← hx] at hc
    rw [← hy] at hc'
    have D' : Hid ((x < y → cmpN u v = -1) ∧ (y < x → cmpN u v = 1)) := by
     have := D.out; rw [val_words, val_words] at this
     rw [Hid, hx, hy]; exact this
    have HX : Hid (x = (wO u).getD k 0) := hx
    have HY : Hid (y = (wO v).getD k 0) := hy
    have ek : (((k + 1 : Nat) : Int) - 1) = (k : Int) := by omega
    rw [ek]
    subst ha ha'
    clear hx hy D
    by_cases hxy : x = y
    ·have d : (x != y) = false := by simp [hxy]
     have HS' : Hid (SameFrom (wO u) (wO v) k) := fun i hi => by
      by_cases e : i = k
      ·rw [e, ← HX.out, ← HY.out]; exact hxy
      ·exact HS.out i (by omega)
     clear hxy
     go_wp2_with fail
     go_quiet (fail)
     go_wp2_with fail
     go_roundw
     case rel => exact ⟨k, by omega, by first | rfl | go_num, HS'.out, hW, hW', below_drewN hbr nq⟩
     case measure => simp [intOf]
    ·have d : (x != y) = true := by simp [hxy]
     have HV : Hid (Lib.compareInt x y = cmpN u v) := by
      rw [Hid, Lib.compareInt]
      by_cases c : x < y
      ·rw [if_pos c, D'.out.1 c]
      ·rw [if_neg c, if_pos (by omega), D'.out.2 (by omega)]
     clear hxy
     go_wp2_with fail
     go_quiet (fail)
     have hb2 := below_drewN hbr nq
     have hc2 : (wr.drewN nq).cell? ⟨b, off + k, none⟩ = some (.int .u64 x) := hc
     have hc2' : (wr.drewN nq).cell? ⟨b', off' + k, none⟩ = some (.int .u64 y) := hc'
     generalize wr.drewN nq = w2 at hb2 hc2 hc2' ⊢
     clear hc hc' hW hW' hbr
     go_wp2_with fail
     go_quiet ((go_at_call 217; exact Calls.quiet_of_same (compareU_calls _ _ _)))
     go_wp2_with fail
     go_ret
     exact ⟨nret_int HV.out, below_drewN hb2 _⟩
 ·have d : ((n : Int) != (n' : Int)) = true := by simp; omega
  have HV : Hid (Lib.compareInt n n' = cmpN u v) := by
   have e1 := h.1; have e2 := h'.1
   rw [Hid, e1, e2]; exact cmp_len u v (by omega)
  clear hl
  go_enter Tryz.func197, Tryz.ntmps197
  go_wp2_with fail
  refine Calls.mono (Tryz.cmp_Compare_int _ _ _) ?_
  rintro e w ⟨rfl, rfl⟩
  go_wp2_with fail
  go_ret
  exact ⟨nret_int HV.out, Below.refl _ _⟩
end Go.Proofs.YtahpdcbmekgkfaaGreatDoor

namespace Go.Proofs.YtahpdcbmekgkfaaGreatDoor
open Go.RowKit
set_option maxHeartbeats 1000000
set_option maxRecDepth 100000
theorem great_of_len {v n : Nat} (hn : n = (wO v).length) (h : 1024 < n) : greatB v = true := by rw [greatB, ← hn]; simpa using h
theorem fit_of_len {v n : Nat} (hn : n = (wO v).length) (h : ¬ 1024 < n) : greatB v = false := by rw [greatB, ← hn]; simpa using h
theorem norm_calls (a : Option Addr) (len cap : Nat) (xs : List Int) (w : World) (h : IsW w a len cap xs) (hm : len ≤ 17592186044416) :
  Calls Tryz.prog 165 #[.slice a len cap] w fun e w' => ∃ v, e = .returned (.tuple #[v, .int .i64 (fitR (val xs)).2]) ∧ NatAt w.heap.size w' v (fitR (val xs)).1 ∧ Below w.heap.size w w' := by
 have HT := trimN_pack a len cap xs w h hm
 go_enter Tryz.func165, Tryz.ntmps165
 go_wp2_with fail
 refine cM HT ?_
 rintro e w ⟨a1, n, rfl, hn, hI, rfl⟩
 have HN : Hid (n = (wO (val xs)).length) := hn
 clear hn HT h hm
 go_wp2_with fail
 refine cM (great1_calls _ a1 n n _ (by go_simp)) ?_
 rintro e w1 ⟨rfl, rfl⟩
 by_cases hg : 1024 < n
 ·have e0 : Hid (greatB (val xs) = true) := great_of_len HN.out hg
  go_wp2_with fail
  go_ret2
  rw [fitR_yes e0.out]
  exact ⟨_, rfl, natAt_nil _ _, below_one _ _⟩
 ·go_wp2_with fail
  refine cM (copied_calls a1 n (wO (val xs)) _ (hI.keep (below_one _ _)) (by omega)) ?_
  rintro e w2 ⟨ao, cv, rfl, hO, hb2⟩
  go_wp2_with fail
  refine cM (answer_calls _ ao n cv (wO (val xs)) _ hO (by omega)) ?_
  rintro e w3 ⟨v, rfl, hA, hb3⟩
  rw [val_words] at hA ⊢
  go_wp2_with fail
  go_ret2
  exact ⟨v, rfl, hA.low (by simp), nT (nT (below_one _ _) hb2) hb3⟩
theorem word_calls (x : Int) (w : World) (h0 : 0 ≤ x) (h1 : x ≤ 18446744073709551615) :
  Calls Tryz.prog 191 #[.int .u64 x] w fun e w' => ∃ (ao : Option Addr) (n : Nat), e = .returned (.slice ao n n) ∧ n = (wO x.toNat).length ∧ OwnW w.heap.size w' ao n n (wO x.toNat) ∧ Below w.heap.size w w' := by
 have hv : val [x] = x.toNat := by simp [val]
 have hW : OwnW w.heap.size (w.alloc (.cells #[.int .u64 x] 53)) (some ⟨w.heap.size, 0, none⟩) 1 1 [x] := by
  refine ⟨⟨rfl, fun y hy => ?_, ⟨Nat.le_refl _, fun e => by cases e⟩, fun i hi => ?_⟩, fun b off i e hi => ?_⟩
  ·simp at hy; subst hy; exact ⟨h0, h1⟩
  ·obtain rfl : i = 0 := by omega
   exact ⟨w.heap.size, 0, rfl, by simp, by go_simp⟩
  ·simp only [Option.some.injEq, Addr.mk.injEq, and_true] at e
   obtain ⟨rfl, rfl⟩ := e
   exact ⟨Nat.le_refl _, by go_simp⟩
 have HO : Hid _ := ownW_trim hW
 have HT : Hid _ := trimL_calls _ _ _ [x] _ hW.1 (by omega)
 rw [hv] at HO HT
 go_enter Tryz.func191, Tryz.ntmps191
 go_wp2_with fail
 refine cM HT.out ?_
 rintro e w1 ⟨rfl, rfl⟩
 go_wp2_with fail
 go_ret
 exact ⟨_, _, rfl, rfl, HO.out, below_one _ _⟩
theorem of_calls (x : Int) (w : World) (h0 : 0 ≤ x) (h1 : x ≤ 18446744073709551615) :
  Calls Tryz.prog 157 #[.int .u64 x] w fun e w' => ∃ v, e = .returned v ∧ NatAt w.heap.size w' v x.toNat ∧ Below w.heap.size w w' := by
 go_enter Tryz.func157, Tryz.ntmps157
 go_wp2_with fail
 refine cM (word_calls x w h0 h1) ?_
 rintro e w1 ⟨ao, n, rfl, hn, hO, hb⟩
 have HN : Hid (n = (wO x.toNat).length) := hn
 clear hn
 go_wp2_with fail
 go_ret
 exact ⟨_, rfl, ⟨ao, n, n, rfl, HN.out, hO⟩, hb⟩
theorem len_calls (a : Option Addr) (len cap : Nat) (xs : List Int) (w : World) (h : IsW w a len cap xs) (hm : len ≤ 17592186044416) :
  Calls Tryz.prog 136 #[.slice a len cap] w fun e w' => (greatB (val xs) = true → e = .returned (.tuple #[.int .i64 0, .int .i64 3])) ∧ (greatB (val xs) = false → e = .returned (.tuple #[.int .i64 (blen (val xs)), .int .i64 0])) ∧ Below w.heap.size w w' := by
 have HT := trimN_pack a len cap xs w h hm
 go_enter Tryz.func136, Tryz.ntmps136
 go_wp2_with fail
 refine cM HT ?_
 rintro e w ⟨a1, n, rfl, hn, hI, rfl⟩
 have HN : Hid (n = (wO (val xs)).length) := hn
 clear hn HT h hm
 go_wp2_with fail
 refine cM (great1_calls _ a1 n n _ (by go_simp)) ?_
 rintro e w1 ⟨rfl, rfl⟩
 by_cases hg : 1024 < n
 ·have e0 : Hid (greatB (val xs) = true) := great_of_len HN.out hg
  go_wp2_with fail
  go_ret2
  exact ⟨fun _ => rfl, (fun q => by rw [e0.out] at q; cases q), below_one _ _⟩
 ·have e0 : Hid (greatB (val xs) = false) := fit_of_len HN.out hg
  go_wp2_with fail
  refine cM (bits_calls a1 n (val xs) _ (hI.keep (below_one _ _)) (by omega)) ?_
  rintro e w2 ⟨rfl, rfl⟩
  go_wp2_with fail
  go_ret2
  exact ⟨(fun q => by rw [e0.out] at q; cases q), fun _ => rfl, below_one _ _⟩
theorem tz_at (v k : Nat) (x : Int) (hx : x = (wO v).getD k 0) (h0 : 0 < x) (hz : ∀ i, i < k → (wO v).getD i 0 = 0) : tz v = k * 64 + tz x.toNat := by
 have hg := (words_U v).get k
 have hl : val ((wO v).take k) = 0 := by
  rw [← low_take]
  have : ∀ j, j ≤ k → low (wO v) j = 0 := fun j => by
   induction j with
   | zero => intro _; rfl
   | succ j ih => intro hj; show low (wO v) j + _ = 0; rw [ih (by omega), hz j (by omega)]; simp
  exact this k (Nat.le_refl _)
 have hk : k < (wO v).length := by
  rcases Nat.lt_or_ge k (wO v).length with h | h
  ·exact h
  ·rw [show (wO v).getD k 0 = 0 by simp [List.getD, h]] at hx; omega
 have e := val_split (wO v) (k + 1)
 rw [val_words, val_take_succ _ k hk, hl, ← hx, Nat.zero_add, two64, two64, Nat.min_eq_left (by omega)] at e
 have e2 : v = 2 ^ (64 * k) * (x.toNat + 2 ^ 64 * val ((wO v).drop (k + 1))) := by
  rw [Nat.mul_add, ← Nat.mul_assoc, ← Nat.pow_add, show 64 * k + 64 = 64 * (k + 1) by omega]; exact e
 rw [e2, tz_shift _ _ (by omega), tz_low 64 x.toNat _ (by omega) (by have : (2 : Nat) ^ 64 = 18446744073709551616 := rfl; omega)]; omega
theorem low_calls (a : Option Addr) (len cap : Nat) (xs : List Int) (w : World) (h : IsW w a len cap xs) (hm : len ≤ 17592186044416) (hT : Tab w) :
  Calls Tryz.prog 151 #[.slice a len cap] w fun e w' => (greatB (val xs) = true → e = .returned (.tuple #[.int .i64 0, .int .i64 3])) ∧ (greatB (val xs) = false → e = .returned (.tuple #[.int .i64 (tz (val xs)), .int .i64 0])) ∧ Below w.heap.size w w' := by
 have HT := trimN_pack a len cap xs w h hm
 go_enter Tryz.func151, Tryz.ntmps151
 go_wp2_with fail
 refine cM HT ?_
 rintro e w ⟨a1, n, rfl, hn, hI, rfl⟩
 have HN : Hid (n = (wO (val xs)).length) := hn
 clear hn HT h hm
 go_wp2_with fail
 refine cM (great1_calls _ a1 n n _ (by go_simp)) ?_
 rintro e w1 ⟨rfl, rfl⟩
 by_cases hg : 1024 < n
 ·have e0 : Hid (greatB (val xs) = true) := great_of_len HN.out hg
  go_wp2_with fail
  go_ret2
  exact ⟨fun _ => rfl, (fun q => by rw [e0.out] at q; cases q), below_one _ _⟩
 ·have e0 : Hid (greatB (val xs) = false) := fit_of_len HN.out hg
  have hb := below_one w (.cells #[.slice a1 n n] 136)
  have hI2 := hI.keep hb
  have hT2 := hT.kept hb
  generalize w.alloc (.cells #[.slice a1 n n] 136) = w1 at hb hI2 hT2 ⊢
  clear hI hT
  go_wp2_with fail
  go_loop [14] (fun q => ∃ k : Nat, k ≤ n ∧ q = .int .i64 k ∧ ∀ i, i < k → (wO (val xs)).getD i 0 = 0) (fun q => n - (intOf q).toNat)
  case atStart => exact ⟨0, by omega, rfl, fun i hi => by omega⟩
  case round =>
   obtain ⟨k, hk, rfl, hz⟩ := hrel
   have HZ : Hid (∀ i, i < k → (wO (val xs)).getD i 0 = 0) := hz
   clear hz
   by_cases hlt : k < n
   ·obtain ⟨b, off, ha, _, hc⟩ := hI2.2.2.2 k hlt
    subst ha
    have hgx := (words_U (val xs)).get k
    obtain ⟨x, hx⟩ : ∃ x, x = (wO (val xs)).getD k 0 := ⟨_, rfl⟩
    rw [← hx] at hc hgx
    by_cases h0 : x = 0
    ·have d0 : (x != 0) = false := by simp [h0]
     have HZ' : Hid (∀ i, i < k + 1 → (wO (val xs)).getD i 0 = 0) := fun i hi => by
      by_cases e : i = k
      ·rw [e, ← hx, h0]
      ·exact HZ.out i (by omega)
     clear hx h0
     go_wp2_with fail
     go_round
     case rel => exact ⟨k + 1, by omega, by go_num, HZ'.out⟩
     case measure => simp [intOf]; omega
    ·have d0 : (x != 0) = true := by simp [h0]
     have HV : Hid _ := tz_at (val xs) k x hx (by omega) HZ.out
     have HZV : Hid (tzV x = tz x.toNat) := by
      rw [Hid, tzV, tz_lib x.toNat (by omega) (by have : (2 : Nat) ^ 64 = 18446744073709551616 := rfl; omega)]
     have hbd := tzV_bd x hgx
     have hp : 0 < x := by omega
     clear hx h0
     go_wp2_with fail
     refine cM (tz_calls x w1 hp hgx.2 hT2) ?_
     rintro e w1 ⟨rfl, rfl⟩
     go_wp2_with fail
     go_ret2
     exact ⟨(fun q => by rw [e0.out] at q; cases q), (fun _ => by rw [HV.out, HZV.out]; go_num), hb⟩
   ·have HV : Hid (tz (val xs) = 0) := by
     by_cases hv : val xs = 0
     ·rw [Hid, hv, tz_zero]
     ·have h1 := words_last _ hv
      have h2 : 0 < (wO (val xs)).length := by
       rcases Nat.eq_zero_or_pos (wO (val xs)).length with h1 | h1
       ·exact absurd ((words_nil _).1 (List.length_eq_zero_iff.1 h1)) hv
       ·exact h1
      exact absurd (HZ.out _ (by have := HN.out; omega)) h1
    go_wp2_with fail
    go_ret2
    exact ⟨(fun q => by rw [e0.out] at q; cases q), (fun _ => by rw [HV.out]; rfl), hb⟩
theorem withCount_calls (a : Option Addr) (len cap : Nat) (xs : List Int) (i : Int) (w : World) (h : IsW w a len cap xs) (hm : len ≤ 17592186044416) :
  Calls Tryz.prog 170 #[.slice a len cap, .int .i64 i] w fun e w' => (greatB (val xs) = true → e = .returned (.tuple #[.slice none 0 0, .int .i64 3])) ∧ (greatB (val xs) = false → i < 0 → e = .returned (.tuple #[.slice none 0 0, .int .i64 2])) ∧ (greatB (val xs) = false → 0 ≤ i → ∃ (a1 : Option Addr) (n : Nat), e = .returned (.tuple #[.slice a1 n n, .int .i64 0]) ∧ n = (wO (val xs)).length ∧ n ≤ 1024 ∧ IsW w' a1 n n (wO (val xs))) ∧ Below w.heap.size w w' := by
 have HT := trimN_pack a len cap xs w h hm
 go_enter Tryz.func170, Tryz.ntmps170
 go_wp2_with fail
 refine cM HT ?_
 rintro e w ⟨a1, n, rfl, hn, hI, rfl⟩
 have HN : Hid (n = (wO (val xs)).length) := hn
 clear hn HT h hm
 go_wp2_with fail
 refine cM (great1_calls _ a1 n n _ (by go_simp)) ?_
 rintro e w1 ⟨rfl, rfl⟩
 by_cases hg : 1024 < n
 ·have e0 : Hid (greatB (val xs) = true) := great_of_len HN.out hg
  go_wp2_with fail
  go_ret2
  exact ⟨fun _ => rfl, (fun q => by rw [e0.out] at q; cases q), (fun q => by rw [e0.out] at q; cases q), below_one _ _⟩
 ·have e0 : Hid (greatB (val xs) = false) := fit_of_len HN.out hg
  by_cases hi : i < 0
  ·go_wp2_with fail
   go_ret2
   exact ⟨(fun q => by rw [e0.out] at q; cases q), fun _ _ => rfl, (fun _ q => by omega), below_one _ _⟩
  ·go_wp2_with fail
   go_ret2
   exact ⟨(fun q => by rw [e0.out] at q; cases q), (fun _ q => by omega), (fun _ _ => ⟨a1, n, rfl, HN.out, by omega, hI.keep (below_one _ _)⟩), below_one _ _⟩
theorem cmp_calls (a a' : Option Addr) (len cap len' cap' : Nat) (xs ys : List Int) (w : World) (h : IsW w a len cap xs) (h' : IsW w a' len' cap' ys) (hm : len ≤ 17592186044416) (hm' : len' ≤ 17592186044416) :
  Calls Tryz.prog 167 #[.slice a len cap, .slice a' len' cap'] w fun e w' => ((greatB (val xs) || greatB (val ys)) = true → e = .returned (.tuple #[.int .i64 0, .int .i64 3])) ∧ ((greatB (val xs) || greatB (val ys)) = false → e = .returned (.tuple #[.int .i64 (cmpN (val xs) (val ys)), .int .i64 0])) ∧ Below w.heap.size w w' := by
 have HT := trimN_pack a len cap xs w h hm
 have HT' := trimN_pack a' len' cap' ys w h' hm'
 go_enter Tryz.func167, Tryz.ntmps167
 go_wp2_with fail
 refine cM HT ?_
 rintro e w ⟨a1, n, rfl, hn, hI, rfl⟩
 have HN : Hid (n = (wO (val xs)).length) := hn
 clear hn HT h hm
 go_wp2_with fail
 refine cM HT' ?_
 rintro e w ⟨a2, n', rfl, hn', hI', rfl⟩
 have HN' : Hid (n' = (wO (val ys)).length) := hn'
 clear hn' HT' h' hm'
 go_wp2_with fail
 refine cM (great2_calls _ a1 a2 n n n' n' _ (by go_simp) (by go_simp)) ?_
 rintro e w1 ⟨rfl, rfl⟩
 by_cases hg : 1024 < n
 ·have e0 : Hid ((greatB (val xs) || greatB (val ys)) = true) := by rw [Hid, great_of_len HN.out hg]; rfl
  have d1 : (decide (1024 < n) || decide (1024 < n')) = true := by simp [hg]
  rw [d1]
  go_wp2_with fail
  go_ret2
  exact ⟨fun _ => rfl, (fun q => by rw [e0.out] at q; cases q), below_one _ _⟩
 ·by_cases hg' : 1024 < n'
  ·have e0 : Hid ((greatB (val xs) || greatB (val ys)) = true) := by rw [Hid, great_of_len HN'.out hg']; simp
   have d1 : (decide (1024 < n) || decide (1024 < n')) = true := by simp [hg']
   rw [d1]
   go_wp2_with fail
   go_ret2
   exact ⟨fun _ => rfl, (fun q => by rw [e0.out] at q; cases q), below_one _ _⟩
  ·have e0 : Hid ((greatB (val xs) || greatB (val ys)) = false) := by rw [Hid, fit_of_len HN.out hg, fit_of_len HN'.out hg']; rfl
   have d1 : (decide (1024 < n) || decide (1024 < n')) = false := by simp [hg, hg']
   rw [d1]
   go_wp2_with fail
   refine cM (against_calls a1 a2 n n' (val xs) (val ys) _ (hI.keep (below_one _ _)) (hI'.keep (below_one _ _)) (by omega) (by omega)) ?_
   rintro e w2 ⟨rfl, hb⟩
   go_wp2_with fail
   go_ret2
   exact ⟨(fun q => by rw [e0.out] at q; cases q), fun _ => rfl, nT (below_one _ _) hb⟩
end Go.Proofs.YtahpdcbmekgkfaaGreatDoor

namespace Go.Proofs.YtahpdcbmekgkfaaGreatDoor
open Go.RowKit
theorem IsW.other {w : World} {a : Option Addr} {len cap : Nat} {xs : List Int} (h : IsW w a len cap xs) (p : Addr) (u : Value) (hp : ∀ b off, a = some ⟨b, off, none⟩ → p.block ≠ b) : IsW (w.setCell p u) a len cap xs := by
 refine ⟨h.1, h.2.1, h.2.2.1, fun i hi => ?_⟩
 obtain ⟨b, off, e1, e2, e3⟩ := h.2.2.2 i hi
 refine ⟨b, off, e1, by rw [World.size_setCell]; exact e2, ?_⟩
 exact (World.cell?_setCell_other (w := w) (a := p) (b := ⟨b, off + i, none⟩) (v := u) (fun e => hp b off e1 (by rw [e]))).trans e3
theorem OwnW.other {B : Nat} {w : World} {a : Option Addr} {len cap : Nat} {xs : List Int} (h : OwnW B w a len cap xs) (p : Addr) (u : Value) (hp : ∀ b off, a = some ⟨b, off, none⟩ → p.block ≠ b) : OwnW B (w.setCell p u) a len cap xs := by
 refine ⟨h.1.other p u hp, fun b off i e hi => ?_⟩
 rw [World.frozen?_setCell]
 exact h.2 b off i e hi
theorem OwnW.set {B g off : Nat} {w : World} {len cap : Nat} {xs : List Int} (h : OwnW B w (some ⟨g, off, none⟩) len cap xs) {i : Nat} (hi : i < len) {v : Int} (h0 : 0 ≤ v) (h1 : v ≤ 18446744073709551615) :
  OwnW B (w.setCell ⟨g, off + i, none⟩ (.int .u64 v)) (some ⟨g, off, none⟩) len cap (xs.set i v) := by
 refine ⟨⟨by rw [List.length_set]; exact h.1.1, h.1.2.1.set h0 h1, h.1.2.2.1, fun j hj => ?_⟩, fun b off' j e hj => ?_⟩
 ·obtain ⟨b, o, e1, e2, e3⟩ := h.1.2.2.2 j hj
  simp only [Option.some.injEq, Addr.mk.injEq, and_true] at e1
  obtain ⟨rfl, rfl⟩ := e1
  refine ⟨g, off, rfl, by rw [World.size_setCell]; exact e2, ?_⟩
  rw [getD_set xs i j v (by have := h.1.1; omega)]
  by_cases hij : i = j
  ·subst hij; rw [if_pos rfl]; exact World.cell?_setCell_same w _ _ e3
  ·rw [if_neg hij]; exact (World.cell?_setCell_other (w := w) (a := ⟨g, off + i, none⟩) (b := ⟨g, off + j, none⟩) (v := .int .u64 v) (fun e => hij (Nat.add_left_cancel (congrArg Addr.off e)))).trans e3
 ·rw [World.frozen?_setCell]
  exact h.2 b off' j e hj
theorem words_T : Tryz.prog.underlying 136 = some (.slice 53) := Tryz.underlying136
theorem nat_T : Tryz.prog.underlying 23 = some (.slice 53) := Tryz.underlying23
theorem own_zeros {B : Nat} {w : World} {n : Nat} (g : Nat) (h : w.ownsRow B 53 1 (.slice (some ⟨g, 0, none⟩) n n) n (madeCells (Value.int .u64 0).cells (n * 1)).toList) : OwnW B w (some ⟨g, 0, none⟩) n n (zeros n) := by
 have e : (madeCells (Value.int .u64 0).cells (n * 1)).toList = (zeros n).map (Value.int .u64) := by
  rw [show (Value.int .u64 0).cells = #[Value.int .u64 0] from rfl, toList_madeCells_one, Nat.mul_one, zeros, List.map_replicate]
 have hO : Own B w (some ⟨g, 0, none⟩) n (zeros n) := by
  unfold Own; rw [zeros_len, ← e]; exact h
 exact hO.ownW (zeros_U n) (zeros_len n)
theorem make_words (t : TypeId) (ht : Tryz.prog.underlying t = some (.slice 53)) (w : World) (n : Nat) (hn : n ≤ 17592186044416) :
  ∃ w1, (Instr.makeSlice t (.int .i64 (n : Int)) (.int .i64 (n : Int))).run Tryz.prog w = .ok (.slice (some ⟨w.heap.size, 0, none⟩) n n) w1 ∧ OwnW w.heap.size w1 (some ⟨w.heap.size, 0, none⟩) n n (zeros n) ∧ Below w.heap.size w w1 ∧ w.heap.size < w1.heap.size := by
 obtain ⟨i0, hi, hz0, hz1, hz2⟩ := info_parts word_info
 obtain ⟨w', h1, h2, h3⟩ := run_make_full (P := Tryz.prog) w w.heap.size t 53 i0 (.int .u64 0) 1 ht hi hz0 hz1 .i64 .i64 n (by rw [hz2]; omega) (by unfold maxLen; omega) (Nat.le_refl _)
 refine ⟨w', h1, own_zeros _ h2, (Below.refl _ _).grown h3 (Nat.le_refl _) (fun q hq => by cases hq), ?_⟩
 rcases h2.2 with ⟨e, _⟩ | ⟨g, cap, cur, e, _, hh, _⟩
 ·cases e
 ·simp only [Value.slice.injEq, Option.some.injEq, Addr.mk.injEq, and_true] at e
  obtain ⟨rfl, _⟩ := e.1
  exact (Array.getElem?_eq_some_iff.1 hh).1
end Go.Proofs.YtahpdcbmekgkfaaGreatDoor

namespace Go.Proofs.YtahpdcbmekgkfaaGreatDoor
open Go.RowKit
set_option maxHeartbeats 1000000
theorem add64_run (x y c : Nat) (hc : c ≤ 1) (w : World) :
  (callFunc 225 #[.int .u64 x, .int .u64 y, .int .u64 c]).run Tryz.prog w = .ok (.value (.tuple #[.int .u64 (((x + y + c) % 18446744073709551616 : Nat) : Int), .int .u64 (((x + y + c) / 18446744073709551616 : Nat) : Int)])) w := by
 rw [run_callFunc_extern Tryz.func225 (by kernel_rfl) (by kernel_rfl) (by kernel_rfl) (e := add64Entry) (by kernel_rfl), run_add64 x y c (by omega) (by omega) (by omega) (by omega)]
 simp only [Result.andThen]
 congr 5 <;> omega
def bor (x y b : Nat) : Nat := if x < y + b then 1 else 0
theorem bor_le (x y b : Nat) : bor x y b ≤ 1 := by unfold bor; split <;> omega
theorem sub64_run (x y b : Nat) (hb : b ≤ 1) (w : World) :
  (callFunc 222 #[.int .u64 x, .int .u64 y, .int .u64 b]).run Tryz.prog w = .ok (.value (.tuple #[.int .u64 (((x + 18446744073709551616 - y - b) % 18446744073709551616 : Nat) : Int), .int .u64 (bor x y b : Nat)])) w := by
 rw [run_callFunc_extern Tryz.func222 (by kernel_rfl) (by kernel_rfl) (by kernel_rfl) (e := sub64Entry) (by kernel_rfl), run_sub64 x y b hb]
 rfl
def dif (x y b : Nat) : Nat := (x + 18446744073709551616 - y - b) % 18446744073709551616
theorem dif_lt (x y b : Nat) : dif x y b < 18446744073709551616 := Nat.mod_lt _ (by decide)
theorem dif_spec (x y b : Nat) (hx : x < 18446744073709551616) (hy : y < 18446744073709551616) (hb : b ≤ 1) : dif x y b + y + b = x + 18446744073709551616 * bor x y b := by
 unfold dif bor; split <;> omega
theorem sum_calls (g x y c : Nat) (w : World) (hc : w.cell? ⟨g, 0, none⟩ = some (.int .u64 (c : Int))) (hf : w.frozen? ⟨g, 0, none⟩ = false) (hc1 : c ≤ 1) :
  Calls Tryz.prog 221 #[.pointer (some ⟨g, 0, none⟩), .int .u64 (x : Int), .int .u64 (y : Int)] w fun e w' => e = .returned (.int .u64 (((x + y + c) % 18446744073709551616 : Nat) : Int)) ∧ w' = w.setCell ⟨g, 0, none⟩ (.int .u64 (((x + y + c) / 18446744073709551616 : Nat) : Int)) := by
 have hr := fun w => add64_run x y c hc1 w
 generalize ((x + y + c) % 18446744073709551616 : Nat) = z at *
 generalize ((x + y + c) / 18446744073709551616 : Nat) = k at *
 go_enter Tryz.func221, Tryz.ntmps221
 go_wp2
 go_ret
 exact ⟨rfl, rfl⟩
theorem difference_calls (g x y c : Nat) (w : World) (hc : w.cell? ⟨g, 0, none⟩ = some (.int .u64 (c : Int))) (hf : w.frozen? ⟨g, 0, none⟩ = false) (hc1 : c ≤ 1) :
  Calls Tryz.prog 204 #[.pointer (some ⟨g, 0, none⟩), .int .u64 (x : Int), .int .u64 (y : Int)] w fun e w' => e = .returned (.int .u64 (dif x y c : Nat)) ∧ w' = w.setCell ⟨g, 0, none⟩ (.int .u64 (bor x y c : Nat)) := by
 have hr := fun w => sub64_run x y c hc1 w
 show Calls _ _ _ _ fun e w' => e = .returned (.int .u64 (((x + 18446744073709551616 - y - c) % 18446744073709551616 : Nat) : Int)) ∧ w' = w.setCell ⟨g, 0, none⟩ (.int .u64 (bor x y c : Nat))
 generalize ((x + 18446744073709551616 - y - c) % 18446744073709551616 : Nat) = z at *
 generalize bor x y c = k at *
 go_enter Tryz.func204, Tryz.ntmps204
 go_wp2
 go_ret
 exact ⟨rfl, rfl⟩
end Go.Proofs.YtahpdcbmekgkfaaGreatDoor

namespace Go.Proofs.YtahpdcbmekgkfaaGreatDoor
open Go.RowKit
set_option maxHeartbeats 2000000
set_option maxRecDepth 100000
theorem add_set (xs ys M : List Int) (k x y c s c' : Nat) (hk : k < M.length) (hz : M.getD k 0 = 0) (hx : xs.getD k 0 = (x : Int)) (hy : ys.getD k 0 = (y : Int))
  (hv : val M + 18446744073709551616 ^ k * c = low xs k + low ys k) (hw : s + 18446744073709551616 * c' = x + y + c) :
  val (M.set k (s : Int)) + 18446744073709551616 ^ (k + 1) * c' = low xs (k + 1) + low ys (k + 1) := by
 have e0 := val_set M k (s : Int) hk
 rw [hz] at e0
 have e1 : low xs (k + 1) = low xs k + 18446744073709551616 ^ k * x := by show low xs k + _ * (xs.getD k 0).toNat = _; rw [hx, Int.toNat_natCast]
 have e2 : low ys (k + 1) = low ys k + 18446744073709551616 ^ k * y := by show low ys k + _ * (ys.getD k 0).toNat = _; rw [hy, Int.toNat_natCast]
 have e4 := congrArg (18446744073709551616 ^ k * ·) hw
 simp only [Nat.mul_add] at e4
 rw [Int.toNat_natCast] at e0
 rw [e1, e2, Nat.pow_succ, Nat.mul_assoc]
 simp at e0
 omega
theorem sub_set (xs ys M : List Int) (k x y c s c' : Nat) (hk : k < M.length) (hz : M.getD k 0 = 0) (hx : xs.getD k 0 = (x : Int)) (hy : ys.getD k 0 = (y : Int))
  (hv : val M + low ys k = low xs k + 18446744073709551616 ^ k * c) (hw : s + y + c = x + 18446744073709551616 * c') :
  val (M.set k (s : Int)) + low ys (k + 1) = low xs (k + 1) + 18446744073709551616 ^ (k + 1) * c' := by
 have e0 := val_set M k (s : Int) hk
 rw [hz] at e0
 have e1 : low xs (k + 1) = low xs k + 18446744073709551616 ^ k * x := by show low xs k + _ * (xs.getD k 0).toNat = _; rw [hx, Int.toNat_natCast]
 have e2 : low ys (k + 1) = low ys k + 18446744073709551616 ^ k * y := by show low ys k + _ * (ys.getD k 0).toNat = _; rw [hy, Int.toNat_natCast]
 have e4 := congrArg (18446744073709551616 ^ k * ·) hw
 simp only [Nat.mul_add] at e4
 rw [Int.toNat_natCast] at e0
 rw [e1, e2, Nat.pow_succ, Nat.mul_assoc]
 simp at e0
 omega
theorem word_nat (xs : List Int) (h : AllU xs) (k : Nat) : ∃ x : Nat, xs.getD k 0 = (x : Int) ∧ x < 18446744073709551616 := by
 have := h.get k
 exact ⟨(xs.getD k 0).toNat, by omega, by omega⟩
theorem set_past (M : List Int) (k : Nat) (v : Int) (hk : k < M.length) (h : ∀ j, k ≤ j → M.getD j 0 = 0) : ∀ j, k + 1 ≤ j → (M.set k v).getD j 0 = 0 := fun j hj => by
 rw [getD_set M k j v hk, if_neg (by omega)]; exact h j (by omega)
theorem throughS_calls (w0 w : World) (gc n : Nat) (a b : Option Addr) (la lb : Nat) (xs ys : List Int) (hn : n ≤ 17592186044416) (hb0 : Below w0.heap.size w0 w) (hg0 : w0.heap.size ≤ gc) (hg1 : gc < w.heap.size)
  (hc0 : w.cell? ⟨gc, 0, none⟩ = some (.int .u64 0)) (hf0 : w.frozen? ⟨gc, 0, none⟩ = false) (hA : IsW w0 a la la xs) (hB : IsW w0 b lb lb ys) :
  Calls Tryz.prog 203 #[.int .i64 (n : Int), .func (.func 221) #[.pointer (some ⟨gc, 0, none⟩)] #[], .slice a la la, .slice b lb lb] w fun e w' => ∃ (M : List Int) (c : Nat), e = .returned (.slice (some ⟨w.heap.size, 0, none⟩) n n) ∧ OwnW w.heap.size w' (some ⟨w.heap.size, 0, none⟩) n n M ∧ val M + 18446744073709551616 ^ n * c = low xs n + low ys n ∧ Below w0.heap.size w0 w' := by
 obtain ⟨w1, hmk, hO1, hb1, hz1⟩ := make_words 136 words_T w n hn
 have hc1 : w1.cell? ⟨gc, 0, none⟩ = some (.int .u64 0) := (hb1.cell (p := ⟨gc, 0, none⟩) hg1).trans hc0
 have hf1 : w1.frozen? ⟨gc, 0, none⟩ = false := (hb1.frozen (p := ⟨gc, 0, none⟩) hg1).trans hf0
 have hbs := hb0.size
 have hb01 : Below w0.heap.size w0 w1 := hb0.trans (hb1.mono hbs)
 clear hb1 hc0 hf0 hb0
 go_enter Tryz.func203, Tryz.ntmps203
 go_wp2_with fail
 clear hmk
 go_loopw [14] (fun i wr => ∃ (k : Nat) (M : List Int) (c : Nat), k ≤ n ∧ i = .int .i64 k ∧ c ≤ 1 ∧ (∀ j, k ≤ j → M.getD j 0 = 0) ∧ val M + 18446744073709551616 ^ k * c = low xs k + low ys k ∧ OwnW w.heap.size wr (some ⟨w.heap.size, 0, none⟩) n n M ∧ wr.cell? ⟨gc, 0, none⟩ = some (.int .u64 (c : Int)) ∧ wr.frozen? ⟨gc, 0, none⟩ = false ∧ Below w0.heap.size w0 wr) (fun i _ => n - (intOf i).toNat)
 case atStart => exact ⟨0, zeros n, 0, by omega, rfl, by omega, fun j _ => zeros_get n j, by simp [low, val_zeros], hO1, hc1, hf1, hb01⟩
 case round =>
  obtain ⟨k, M, c, hk, rfl, hc01, hM0, hval, hO, hcc, hfc, hbr⟩ := hrel
  clear hO1 hc1 hf1 hb01
  have HV : Hid (val M + 18446744073709551616 ^ k * c = low xs k + low ys k) := hval
  have HM : Hid (∀ j, k ≤ j → M.getD j 0 = 0) := hM0
  clear hval hM0
  by_cases hlt : k < n
  ·have hML : n = M.length := hO.1.1
   have HL : Hid (n = M.length) := hML
   clear hML
   obtain ⟨x, hx, hx1⟩ := word_nat xs hA.2.1 k
   obtain ⟨y, hy, hy1⟩ := word_nat ys hB.2.1 k
   have W1 : Hid _ := at_calls a la la xs k wr (hA.keep hbr)
   have W2 : Hid _ := at_calls b lb lb ys k wr (hB.keep hbr)
   rw [hx] at W1
   rw [hy] at W2
   have HX : Hid (xs.getD k 0 = (x : Int)) := hx
   have HY : Hid (ys.getD k 0 = (y : Int)) := hy
   clear hx hy
   obtain ⟨_, _, e1, _, hcell⟩ := hO.1.2.2.2 k hlt
   simp only [Option.some.injEq, Addr.mk.injEq, and_true] at e1
   obtain ⟨rfl, rfl⟩ := e1
   have hfz := (hO.2 _ _ k rfl hlt).2
   rw [Nat.zero_add] at hcell hfz
   go_wp2_with fail
   refine cM W1.out ?_
   rintro e wr ⟨rfl, rfl⟩
   go_wp2_with fail
   refine cM W2.out ?_
   rintro e wr ⟨rfl, rfl⟩
   go_wp2_with fail
   refine cM (sum_calls gc x y c wr hcc hfc hc01) ?_
   rintro e w2 ⟨rfl, rfl⟩
   obtain ⟨z, hz⟩ : ∃ z : Nat, z = (x + y + c) % 18446744073709551616 := ⟨_, rfl⟩
   obtain ⟨q, hq⟩ : ∃ q : Nat, q = (x + y + c) / 18446744073709551616 := ⟨_, rfl⟩
   rw [← hz, ← hq]
   have hne : gc ≠ w.heap.size := by omega
   have hO2 := hO.other ⟨gc, 0, none⟩ (.int .u64 (q : Int)) (fun b off e => by simp only [Option.some.injEq, Addr.mk.injEq, and_true] at e; rw [← e.1]; exact hne)
   have hcell2 : (wr.setCell ⟨gc, 0, none⟩ (.int .u64 (q : Int))).cell? ⟨w.heap.size, k, none⟩ = some (.int .u64 (M.getD k 0)) := (World.cell?_setCell_other wr _ _ _ (fun e => hne (congrArg Addr.block e))).trans hcell
   have hfz2 : (wr.setCell ⟨gc, 0, none⟩ (.int .u64 (q : Int))).frozen? ⟨w.heap.size, k, none⟩ = false := by rw [World.frozen?_setCell]; exact hfz
   have hcc2 : (wr.setCell ⟨gc, 0, none⟩ (.int .u64 (q : Int))).cell? ⟨gc, 0, none⟩ = some (.int .u64 (q : Int)) := World.cell?_setCell_same wr _ _ hcc
   have hfc2 : (wr.setCell ⟨gc, 0, none⟩ (.int .u64 (q : Int))).frozen? ⟨gc, 0, none⟩ = false := by rw [World.frozen?_setCell]; exact hfc
   have hbr2 : Below w0.heap.size w0 (wr.setCell ⟨gc, 0, none⟩ (.int .u64 (q : Int))) := hbr.setCell hg0 _
   generalize wr.setCell ⟨gc, 0, none⟩ (.int .u64 (q : Int)) = w2 at hO2 hcell2 hfz2 hcc2 hfc2 hbr2 ⊢
   have HZ : Hid (z = (x + y + c) % 18446744073709551616) := hz
   have HQ : Hid (q = (x + y + c) / 18446744073709551616) := hq
   clear hz hq hO hcell hfz hcc hfc hbr W1 W2
   go_wp2_with fail
   refine ⟨?_, by simp [intOf]; omega⟩
   have ez := HZ.out
   have eq := HQ.out
   have hspec : z + 18446744073709551616 * q = x + y + c := by rw [ez, eq]; omega
   have hzb : z < 18446744073709551616 := by rw [ez]; exact Nat.mod_lt _ (by decide)
   have hO3 := hO2.set hlt (v := (z : Int)) (by omega) (by omega)
   rw [Nat.zero_add] at hO3
   refine ⟨k + 1, M.set k (z : Int), q, by omega, by go_num, by rw [eq]; omega, set_past M k _ (by have := HL.out; omega) HM.out, add_set xs ys M k x y c z q (by have := HL.out; omega) (HM.out k (Nat.le_refl _)) HX.out HY.out HV.out hspec, hO3, ?_, ?_, hbr2.setCell (by omega) _⟩
   ·exact (World.cell?_setCell_other w2 _ _ _ (fun e => hne (congrArg Addr.block e).symm)).trans hcc2
   ·rw [World.frozen?_setCell]; exact hfc2
  ·have hkn : k = n := by omega
   subst hkn
   go_wp2_with fail
   go_ret
   exact ⟨M, c, rfl, hO, HV.out, hbr⟩
theorem throughD_calls (w0 w : World) (gc n : Nat) (a b : Option Addr) (la lb : Nat) (xs ys : List Int) (hn : n ≤ 17592186044416) (hb0 : Below w0.heap.size w0 w) (hg0 : w0.heap.size ≤ gc) (hg1 : gc < w.heap.size)
  (hc0 : w.cell? ⟨gc, 0, none⟩ = some (.int .u64 0)) (hf0 : w.frozen? ⟨gc, 0, none⟩ = false) (hA : IsW w0 a la la xs) (hB : IsW w0 b lb lb ys) :
  Calls Tryz.prog 203 #[.int .i64 (n : Int), .func (.func 204) #[.pointer (some ⟨gc, 0, none⟩)] #[], .slice a la la, .slice b lb lb] w fun e w' => ∃ (M : List Int) (c : Nat), e = .returned (.slice (some ⟨w.heap.size, 0, none⟩) n n) ∧ OwnW w.heap.size w' (some ⟨w.heap.size, 0, none⟩) n n M ∧ val M + low ys n = low xs n + 18446744073709551616 ^ n * c ∧ Below w0.heap.size w0 w' := by
 obtain ⟨w1, hmk, hO1, hb1, hz1⟩ := make_words 136 words_T w n hn
 have hc1 : w1.cell? ⟨gc, 0, none⟩ = some (.int .u64 0) := (hb1.cell (p := ⟨gc, 0, none⟩) hg1).trans hc0
 have hf1 : w1.frozen? ⟨gc, 0, none⟩ = false := (hb1.frozen (p := ⟨gc, 0, none⟩) hg1).trans hf0
 have hbs := hb0.size
 have hb01 : Below w0.heap.size w0 w1 := hb0.trans (hb1.mono hbs)
 clear hb1 hc0 hf0 hb0
 go_enter Tryz.func203, Tryz.ntmps203
 go_wp2_with fail
 clear hmk
 go_loopw [14] (fun i wr => ∃ (k : Nat) (M : List Int) (c : Nat), k ≤ n ∧ i = .int .i64 k ∧ c ≤ 1 ∧ (∀ j, k ≤ j → M.getD j 0 = 0) ∧ val M + low ys k = low xs k + 18446744073709551616 ^ k * c ∧ OwnW w.heap.size wr (some ⟨w.heap.size, 0, none⟩) n n M ∧ wr.cell? ⟨gc, 0, none⟩ = some (.int .u64 (c : Int)) ∧ wr.frozen? ⟨gc, 0, none⟩ = false ∧ Below w0.heap.size w0 wr) (fun i _ => n - (intOf i).toNat)
 case atStart => exact ⟨0, zeros n, 0, by omega, rfl, by omega, fun j _ => zeros_get n j, by simp [low, val_zeros], hO1, hc1, hf1, hb01⟩
 case round =>
  obtain ⟨k, M, c, hk, rfl, hc01, hM0, hval, hO, hcc, hfc, hbr⟩ := hrel
  clear hO1 hc1 hf1 hb01
  have HV : Hid (val M + low ys k = low xs k + 18446744073709551616 ^ k * c) := hval
  have HM : Hid (∀ j, k ≤ j → M.getD j 0 = 0) := hM0
  clear hval hM0
  by_cases hlt : k < n
  ·have hML : n = M.length := hO.1.1
   have HL : Hid (n = M.length) := hML
   clear hML
   obtain ⟨x, hx, hx1⟩ := word_nat xs hA.2.1 k
   obtain ⟨y, hy, hy1⟩ := word_nat ys hB.2.1 k
   have W1 : Hid _ := at_calls a la la xs k wr (hA.keep hbr)
   have W2 : Hid _ := at_calls b lb lb ys k wr (hB.keep hbr)
   rw [hx] at W1
   rw [hy] at W2
   have HX : Hid (xs.getD k 0 = (x : Int)) := hx
   have HY : Hid (ys.getD k 0 = (y : Int)) := hy
   clear hx hy
   obtain ⟨_, _, e1, _, hcell⟩ := hO.1.2.2.2 k hlt
   simp only [Option.some.injEq, Addr.mk.injEq, and_true] at e1
   obtain ⟨rfl, rfl⟩ := e1
   have hfz := (hO.2 _ _ k rfl hlt).2
   rw [Nat.zero_add] at hcell hfz
   go_wp2_with fail
   refine cM W1.out ?_
   rintro e wr ⟨rfl, rfl⟩
   go_wp2_with fail
   refine cM W2.out ?_
   rintro e wr ⟨rfl, rfl⟩
   go_wp2_with fail
   refine cM (difference_calls gc x y c wr hcc hfc hc01) ?_
   rintro e w2 ⟨rfl, rfl⟩
   obtain ⟨z, hz⟩ : ∃ z : Nat, z = dif x y c := ⟨_, rfl⟩
   obtain ⟨q, hq⟩ : ∃ q : Nat, q = bor x y c := ⟨_, rfl⟩
   rw [← hz, ← hq]
   have hne : gc ≠ w.heap.size := by omega
   have hO2 := hO.other ⟨gc, 0, none⟩ (.int .u64 (q : Int)) (fun b off e => by simp only [Option.some.injEq, Addr.mk.injEq, and_true] at e; rw [← e.1]; exact hne)
   have hcell2 : (wr.setCell ⟨gc, 0, none⟩ (.int .u64 (q : Int))).cell? ⟨w.heap.size, k, none⟩ = some (.int .u64 (M.getD k 0)) := (World.cell?_setCell_other wr _ _ _ (fun e => hne (congrArg Addr.block e))).trans hcell
   have hfz2 : (wr.setCell ⟨gc, 0, none⟩ (.int .u64 (q : Int))).frozen? ⟨w.heap.size, k, none⟩ = false := by rw [World.frozen?_setCell]; exact hfz
   have hcc2 : (wr.setCell ⟨gc, 0, none⟩ (.int .u64 (q : Int))).cell? ⟨gc, 0, none⟩ = some (.int .u64 (q : Int)) := World.cell?_setCell_same wr _ _ hcc
   have hfc2 : (wr.setCell ⟨gc, 0, none⟩ (.int .u64 (q : Int))).frozen? ⟨gc, 0, none⟩ = false := by rw [World.frozen?_setCell]; exact hfc
   have hbr2 : Below w0.heap.size w0 (wr.setCell ⟨gc, 0, none⟩ (.int .u64 (q : Int))) := hbr.setCell hg0 _
   generalize wr.setCell ⟨gc, 0, none⟩ (.int .u64 (q : Int)) = w2 at hO2 hcell2 hfz2 hcc2 hfc2 hbr2 ⊢
   have HZ : Hid (z = dif x y c) := hz
   have HQ : Hid (q = bor x y c) := hq
   clear hz hq hO hcell hfz hcc hfc hbr W1 W2
   go_wp2_with fail
   refine ⟨?_, by simp [intOf]; omega⟩
   have ez := HZ.out
   have eq := HQ.out
   have hspec : z + y + c = x + 18446744073709551616 * q := by rw [ez, eq]; exact dif_spec x y c hx1 hy1 hc01
   have hzb : z < 18446744073709551616 := by rw [ez]; exact dif_lt _ _ _
   have hO3 := hO2.set hlt (v := (z : Int)) (by omega) (by omega)
   rw [Nat.zero_add] at hO3
   refine ⟨k + 1, M.set k (z : Int), q, by omega, by go_num, by rw [eq]; exact bor_le _ _ _, set_past M k _ (by have := HL.out; omega) HM.out, sub_set xs ys M k x y c z q (by have := HL.out; omega) (HM.out k (Nat.le_refl _)) HX.out HY.out HV.out hspec, hO3, ?_, ?_, hbr2.setCell (by omega) _⟩
   ·exact (World.cell?_setCell_other w2 _ _ _ (fun e => hne (congrArg Addr.block e).symm)).trans hcc2
   ·rw [World.frozen?_setCell]; exact hfc2
  ·have hkn : k = n := by omega
   subst hkn
   go_wp2_with fail
   go_ret
   exact ⟨M, c, rfl, hO, HV.out, hbr⟩
end Go.Proofs.YtahpdcbmekgkfaaGreatDoor

namespace Go.Proofs.YtahpdcbmekgkfaaGreatDoor
open Go.RowKit
set_option maxHeartbeats 1000000
set_option maxRecDepth 100000
theorem plus_val (xs ys M : List Int) (K c : Nat) (hx : AllU xs) (hy : AllU ys) (hxl : xs.length ≤ K) (hyl : ys.length ≤ K) (h : val M + 18446744073709551616 ^ (K + 1) * c = low xs (K + 1) + low ys (K + 1)) : val M = val xs + val ys := by
 rw [low_all xs _ (by omega), low_all ys _ (by omega)] at h
 have h1 : val xs < 18446744073709551616 ^ K := Nat.lt_of_lt_of_le (val_lt xs hx) (Nat.pow_le_pow_right (by decide) hxl)
 have h2 : val ys < 18446744073709551616 ^ K := Nat.lt_of_lt_of_le (val_lt ys hy) (Nat.pow_le_pow_right (by decide) hyl)
 have hc : c = 0 := by
  rcases Nat.eq_zero_or_pos c with h0 | h0
  ·exact h0
  ·rw [Nat.pow_succ] at h
   generalize 18446744073709551616 ^ K = P at h h1 h2
   have h3 : P * 18446744073709551616 ≤ P * 18446744073709551616 * c := Nat.le_mul_of_pos_right _ h0
   generalize P * 18446744073709551616 * c = Q at h h3
   omega
 rw [hc, Nat.mul_zero, Nat.add_zero] at h
 exact h
theorem less_val (xs ys M : List Int) (n c : Nat) (hM : AllU M) (hMl : M.length = n) (hxl : xs.length ≤ n) (hyl : ys.length ≤ n) (hle : val ys ≤ val xs) (h : val M + low ys n = low xs n + 18446744073709551616 ^ n * c) : val M = val xs - val ys := by
 rw [low_all xs _ hxl, low_all ys _ hyl] at h
 have h1 := val_lt M hM
 rw [hMl] at h1
 have hc : c = 0 := by
  rcases Nat.eq_zero_or_pos c with h0 | h0
  ·exact h0
  ·generalize 18446744073709551616 ^ n = P at h h1
   have h3 : P ≤ P * c := Nat.le_mul_of_pos_right _ h0
   generalize P * c = Q at h h3
   omega
 rw [hc, Nat.mul_zero, Nat.add_zero] at h
 omega
theorem plus_calls (a b : Option Addr) (n m : Nat) (xs ys : List Int) (w : World) (hA : IsW w a n n xs) (hB : IsW w b m m ys) (hn : n ≤ 17592186044415) (hm : m ≤ 17592186044415) :
  Calls Tryz.prog 202 #[.slice a n n, .slice b m m] w fun e w' => ∃ (ao : Option Addr) (k : Nat) (M : List Int), e = .returned (.slice ao k k) ∧ OwnW w.heap.size w' ao k k M ∧ val M = val xs + val ys ∧ k = max n m + 1 ∧ Below w.heap.size w w' := by
 have hmf : ∀ (fn : Fn) (first cap : Array Value) (w : World), (Instr.makeFunc fn first cap).run Tryz.prog w = .ok (.func fn first cap) w := fun _ _ _ _ => rfl
 have X1 : Hid (xs.length = n) := hA.1.symm
 have Y1 : Hid (ys.length = m) := hB.1.symm
 have HT : Hid _ := throughS_calls w (w.alloc (.cells #[.int .u64 0] 163)) w.heap.size (max n m + 1) a b n m xs ys (by omega) (below_one _ _) (Nat.le_refl _) (by simp) (by go_simp) (by go_simp) hA hB
 have em : (max (n : Int) m + 1) = ((max n m + 1 : Nat) : Int) := by omega
 have EM : Hid ((max (n : Int) m + 1) = ((max n m + 1 : Nat) : Int)) := em
 clear em
 go_enter Tryz.func202, Tryz.ntmps202
 go_wp2_with fail
 rw [EM.out]
 refine cM HT.out ?_
 rintro e w1 ⟨M, c, rfl, hO, hv, hb⟩
 have HV : Hid _ := hv
 rw [World.size_alloc] at hO
 clear hv hmf
 go_wp2_with fail
 go_ret
 exact ⟨_, _, M, rfl, hO.low (B' := w.heap.size) (by simp), plus_val xs ys M (max n m) c hA.2.1 hB.2.1 (by have := X1.out; omega) (by have := Y1.out; omega) HV.out, rfl, hb⟩
theorem lessW_calls (a b : Option Addr) (n m : Nat) (xs ys : List Int) (w : World) (hA : IsW w a n n xs) (hB : IsW w b m m ys) (hn : n ≤ 17592186044415) (hm : m ≤ n) (hle : val ys ≤ val xs) :
  Calls Tryz.prog 176 #[.slice a n n, .slice b m m] w fun e w' => ∃ (ao : Option Addr) (M : List Int), e = .returned (.slice ao n n) ∧ OwnW w.heap.size w' ao n n M ∧ val M = val xs - val ys ∧ Below w.heap.size w w' := by
 have hmf : ∀ (fn : Fn) (first cap : Array Value) (w : World), (Instr.makeFunc fn first cap).run Tryz.prog w = .ok (.func fn first cap) w := fun _ _ _ _ => rfl
 have X1 : Hid (xs.length = n) := hA.1.symm
 have Y1 : Hid (ys.length = m) := hB.1.symm
 have HT : Hid _ := throughD_calls w (w.alloc (.cells #[.int .u64 0] 163)) w.heap.size n a b n m xs ys (by omega) (below_one _ _) (Nat.le_refl _) (by simp) (by go_simp) (by go_simp) hA hB
 have HLE : Hid (val ys ≤ val xs) := hle
 clear hle
 go_enter Tryz.func176, Tryz.ntmps176
 go_wp2_with fail
 refine cM HT.out ?_
 rintro e w1 ⟨M, c, rfl, hO, hv, hb⟩
 have HV : Hid _ := hv
 rw [World.size_alloc] at hO
 clear hv hmf
 go_wp2_with fail
 go_ret
 exact ⟨_, M, rfl, hO.low (B' := w.heap.size) (by simp), less_val xs ys M n c hO.1.2.1 hO.1.1.symm (by have := X1.out; omega) (by have := Y1.out; omega) HLE.out HV.out, hb⟩
def addR (u v : Nat) : Nat × Int := if (greatB u || greatB v) = true then (0, 3) else fitR (u + v)
def subR (u v : Nat) : Nat × Int := if (greatB u || greatB v) = true then (0, 3) else if u < v then (0, 31) else (u - v, 0)
theorem addR_yes {u v : Nat} (h : (greatB u || greatB v) = true) : addR u v = (0, 3) := by unfold addR; rw [if_pos h]
theorem addR_no {u v : Nat} (h : (greatB u || greatB v) = false) : addR u v = fitR (u + v) := by unfold addR; rw [if_neg (by rw [h]; decide)]
theorem subR_yes {u v : Nat} (h : (greatB u || greatB v) = true) : subR u v = (0, 3) := by unfold subR; rw [if_pos h]
theorem subR_less {u v : Nat} (h : (greatB u || greatB v) = false) (hl : u < v) : subR u v = (0, 31) := by unfold subR; rw [if_neg (by rw [h]; decide), if_pos hl]
theorem subR_no {u v : Nat} (h : (greatB u || greatB v) = false) (hl : v ≤ u) : subR u v = (u - v, 0) := by unfold subR; rw [if_neg (by rw [h]; decide), if_neg (by omega)]
theorem words_mono {u v : Nat} (h : v ≤ u) : (wO v).length ≤ (wO u).length := by
 rw [words_len]; exact Nat.lt_of_le_of_lt h ((words_len _ u).1 (Nat.le_refl _))
theorem add_calls (a a' : Option Addr) (len cap len' cap' : Nat) (xs ys : List Int) (w : World) (h : IsW w a len cap xs) (h' : IsW w a' len' cap' ys) (hm : len ≤ 17592186044416) (hm' : len' ≤ 17592186044416) :
  Calls Tryz.prog 194 #[.slice a len cap, .slice a' len' cap'] w fun e w' => ∃ v, e = .returned (.tuple #[v, .int .i64 (addR (val xs) (val ys)).2]) ∧ NatAt w.heap.size w' v (addR (val xs) (val ys)).1 ∧ Below w.heap.size w w' := by
 have HT := trimN_pack a len cap xs w h hm
 have HT' := trimN_pack a' len' cap' ys w h' hm'
 go_enter Tryz.func194, Tryz.ntmps194
 go_wp2_with fail
 refine cM HT ?_
 rintro e w ⟨a1, n, rfl, hn, hI, rfl⟩
 have HN : Hid (n = (wO (val xs)).length) := hn
 clear hn HT h hm
 go_wp2_with fail
 refine cM HT' ?_
 rintro e w ⟨a2, n', rfl, hn', hI', rfl⟩
 have HN' : Hid (n' = (wO (val ys)).length) := hn'
 clear hn' HT' h' hm'
 go_wp2_with fail
 refine cM (great2_calls _ a1 a2 n n n' n' _ (by go_simp) (by go_simp)) ?_
 rintro e w1 ⟨rfl, rfl⟩
 cases hd : (decide (1024 < n) || decide (1024 < n')) with
 | true =>
  have e0 : Hid ((greatB (val xs) || greatB (val ys)) = true) := by
   rw [Hid, greatB, greatB, ← HN.out, ← HN'.out]; exact hd
  clear hd
  go_wp2_with fail
  go_ret2
  rw [addR_yes e0.out]
  exact ⟨_, rfl, natAt_nil _ _, below_one _ _⟩
 | false =>
  have e0 : Hid ((greatB (val xs) || greatB (val ys)) = false) := by
   rw [Hid, greatB, greatB, ← HN.out, ← HN'.out]; exact hd
  have hle : n ≤ 1024 ∧ n' ≤ 1024 := by simpa using hd
  clear hd
  go_wp2_with fail
  refine cM (plus_calls a1 a2 n n' _ _ _ (hI.keep (below_one _ _)) (hI'.keep (below_one _ _)) (by omega) (by omega)) ?_
  rintro e w2 ⟨ao, k, M, rfl, hO, hv, hk, hb2⟩
  rw [val_words, val_words] at hv
  have HV : Hid (val M = val xs + val ys) := hv
  have hk2 : k ≤ 1025 := by omega
  clear hv hk
  go_wp2_with fail
  refine cM (answer_calls _ ao k k M _ hO (by omega)) ?_
  rintro e w3 ⟨v, rfl, hA, hb3⟩
  rw [HV.out, ← addR_no e0.out] at hA ⊢
  go_wp2_with fail
  go_ret2
  exact ⟨v, rfl, hA.low (by simp), nT (nT (below_one _ _) hb2) hb3⟩
theorem sub_calls (a a' : Option Addr) (len cap len' cap' : Nat) (xs ys : List Int) (w : World) (h : IsW w a len cap xs) (h' : IsW w a' len' cap' ys) (hm : len ≤ 17592186044416) (hm' : len' ≤ 17592186044416) :
  Calls Tryz.prog 168 #[.slice a len cap, .slice a' len' cap'] w fun e w' => ∃ v, e = .returned (.tuple #[v, .int .i64 (subR (val xs) (val ys)).2]) ∧ NatAt w.heap.size w' v (subR (val xs) (val ys)).1 ∧ Below w.heap.size w w' := by
 have HT := trimN_pack a len cap xs w h hm
 have HT' := trimN_pack a' len' cap' ys w h' hm'
 go_enter Tryz.func168, Tryz.ntmps168
 go_wp2_with fail
 refine cM HT ?_
 rintro e w ⟨a1, n, rfl, hn, hI, rfl⟩
 have HN : Hid (n = (wO (val xs)).length) := hn
 clear hn HT h hm
 go_wp2_with fail
 refine cM HT' ?_
 rintro e w ⟨a2, n', rfl, hn', hI', rfl⟩
 have HN' : Hid (n' = (wO (val ys)).length) := hn'
 clear hn' HT' h' hm'
 go_wp2_with fail
 refine cM (great2_calls _ a1 a2 n n n' n' _ (by go_simp) (by go_simp)) ?_
 rintro e w1 ⟨rfl, rfl⟩
 cases hd : (decide (1024 < n) || decide (1024 < n')) with
 | true =>
  have e0 : Hid ((greatB (val xs) || greatB (val ys)) = true) := by
   rw [Hid, greatB, greatB, ← HN.out, ← HN'.out]; exact hd
  clear hd
  go_wp2_with fail
  go_ret2
  rw [subR_yes e0.out]
  exact ⟨_, rfl, natAt_nil _ _, below_one _ _⟩
 | false =>
  have e0 : Hid ((greatB (val xs) || greatB (val ys)) = false) := by
   rw [Hid, greatB, greatB, ← HN.out, ← HN'.out]; exact hd
  have hle : n ≤ 1024 ∧ n' ≤ 1024 := by simpa using hd
  clear hd
  go_wp2_with fail
  refine cM (against_calls a1 a2 n n' (val xs) (val ys) _ (hI.keep (below_one _ _)) (hI'.keep (below_one _ _)) (by omega) (by omega)) ?_
  rintro e w2 ⟨rfl, hb⟩
  by_cases hl : val xs < val ys
  ·have hc : cmpN (val xs) (val ys) = -1 := by unfold cmpN; rw [if_pos hl]
   rw [hc]
   have HL : Hid (val xs < val ys) := hl
   clear hl hc
   go_wp2_with fail
   go_ret2
   rw [subR_less e0.out HL.out]
   exact ⟨_, rfl, natAt_nil _ _, nT (below_one _ _) hb⟩
  ·have hc : 0 ≤ cmpN (val xs) (val ys) := by unfold cmpN; rw [if_neg hl]; split <;> omega
   have HL : Hid (val ys ≤ val xs) := by rw [Hid]; omega
   have hnn : n' ≤ n := by rw [HN.out, HN'.out]; exact words_mono HL.out
   have hf : Hid (greatB (val xs - val ys) = false) := by
    have := e0.out; rw [Bool.or_eq_false_iff] at this
    exact great_mono (by omega) this.1
   generalize cmpN (val xs) (val ys) = cc at hc ⊢
   clear hl
   have hb2 := nT (below_one w (.cells #[.slice a1 n n, .slice a2 n' n'] 136)) hb
   go_wp2_with fail
   refine cM (lessW_calls a1 a2 n n' _ _ _ (hI.keep hb2) (hI'.keep hb2) (by omega) hnn (by rw [val_words, val_words]; exact HL.out)) ?_
   rintro e w3 ⟨ao, M, rfl, hO, hv, hb3⟩
   rw [val_words, val_words] at hv
   have HV : Hid (val M = val xs - val ys) := hv
   clear hv
   go_wp2_with fail
   refine cM (answer_calls _ ao n n M _ hO (by omega)) ?_
   rintro e w4 ⟨v, rfl, hA, hb4⟩
   rw [HV.out, fitR_no hf.out, ← subR_no e0.out HL.out] at hA ⊢
   go_wp2_with fail
   go_ret2
   exact ⟨v, rfl, hA.low hb2.size, nT (nT hb2 hb3) hb4⟩
end Go.Proofs.YtahpdcbmekgkfaaGreatDoor

namespace Go.Proofs.YtahpdcbmekgkfaaGreatDoor
open Go.RowKit
def Guess (u32 u1 y1 y0 q r : Nat) : Prop := q * y1 + r = u32 ∧ (u32 * 4294967296 + u1) / (y1 * 4294967296 + y0) ≤ q ∧ q ≤ 4294967297
theorem guess_start (u32 u1 y1 y0 : Nat) (hy0 : y0 < 4294967296) (hy1 : 2147483648 ≤ y1) (hu1 : u1 < 4294967296) (hu : u32 < y1 * 4294967296 + y0) : Guess u32 u1 y1 y0 (u32 / y1) (u32 % y1) := by
 have h1 := Nat.div_add_mod u32 y1
 refine ⟨by rw [Nat.mul_comm]; exact h1, ?_, ?_⟩
 ·have h2 : (u32 * 4294967296 + u1) / (y1 * 4294967296 + y0) ≤ (u32 * 4294967296 + u1) / (y1 * 4294967296) := Nat.div_le_div_left (by omega) (by omega)
  rw [Nat.mul_comm y1, ← Nat.div_div_eq_div_mul, show (u32 * 4294967296 + u1) / 4294967296 = u32 by omega] at h2
  rw [Nat.mul_comm y1]; exact h2
 ·have h3 : u32 / y1 < 4294967298 := by
   rw [Nat.div_lt_iff_lt_mul (by omega)]; omega
  omega
theorem guess_test (u32 u1 y1 y0 q r : Nat) (h : Guess u32 u1 y1 y0 q r) : q * y0 ≤ 4294967296 * r + u1 ↔ q * (y1 * 4294967296 + y0) ≤ u32 * 4294967296 + u1 := by
 have e : q * (y1 * 4294967296 + y0) = q * y1 * 4294967296 + q * y0 := by rw [Nat.mul_add, Nat.mul_assoc]
 have h1 := h.1
 rw [e]; omega
theorem guess_step (u32 u1 y1 y0 q r : Nat) (hu1 : u1 < 4294967296) (hu : u32 < y1 * 4294967296 + y0) (h : Guess u32 u1 y1 y0 q r) (hc : 4294967296 ≤ q ∨ 4294967296 * r + u1 < q * y0) : 1 ≤ q ∧ Guess u32 u1 y1 y0 (q - 1) (r + y1) := by
 have ht := guess_test u32 u1 y1 y0 q r h
 obtain ⟨h1, h2, h3⟩ := h
 have hq : (u32 * 4294967296 + u1) / (y1 * 4294967296 + y0) < q := by
  rcases hc with hc | hc
  ·have : (u32 * 4294967296 + u1) / (y1 * 4294967296 + y0) < 4294967296 := by
    rw [Nat.div_lt_iff_lt_mul (by omega)]; omega
   omega
  ·rw [Nat.div_lt_iff_lt_mul (by omega)]
   omega
 have q1 : 1 ≤ q := Nat.lt_of_le_of_lt (Nat.zero_le _) hq
 refine ⟨q1, ?_, Nat.le_sub_one_of_lt hq, Nat.le_trans (Nat.sub_le _ _) h3⟩
 obtain ⟨p, rfl⟩ : ∃ p, q = p + 1 := ⟨q - 1, by clear hq h2; omega⟩
 rw [Nat.add_sub_cancel]; rw [Nat.add_mul, Nat.one_mul] at h1; omega
theorem guess_end (u32 u1 y1 y0 q r : Nat) (hy1 : 2147483648 ≤ y1) (h : Guess u32 u1 y1 y0 q r) (hc : q * y0 ≤ 4294967296 * r + u1) : q = (u32 * 4294967296 + u1) / (y1 * 4294967296 + y0) := by
 have ht := (guess_test u32 u1 y1 y0 q r h).1 hc
 have := (Nat.le_div_iff_mul_le (show 0 < y1 * 4294967296 + y0 by omega)).2 ht
 have := h.2.1
 omega
theorem guess_break (u32 u1 y1 y0 q r : Nat) (hy0 : y0 < 4294967296) (hy1 : 2147483648 ≤ y1) (h : Guess u32 u1 y1 y0 q r) (hq : q ≤ 4294967296) (hr : 4294967296 ≤ r) : q = (u32 * 4294967296 + u1) / (y1 * 4294967296 + y0) := by
 refine guess_end u32 u1 y1 y0 q r hy1 h ?_
 have h1 : q * y0 ≤ 4294967296 * y0 := Nat.mul_le_mul_right _ hq
 omega
theorem two_digits (y u q1 : Nat) (u1 u0 : Nat) (hy : 0 < y) (h1 : q1 = (u * 4294967296 + u1) / y) :
  q1 * 4294967296 + ((u * 4294967296 + u1) % y * 4294967296 + u0) / y = (u * 18446744073709551616 + u1 * 4294967296 + u0) / y ∧ ((u * 4294967296 + u1) % y * 4294967296 + u0) % y = (u * 18446744073709551616 + u1 * 4294967296 + u0) % y := by
 have e := Nat.div_add_mod (u * 4294967296 + u1) y
 rw [← h1] at e
 have e2 : u * 18446744073709551616 + u1 * 4294967296 + u0 = ((u * 4294967296 + u1) % y * 4294967296 + u0) + y * (q1 * 4294967296) := by
  rw [← Nat.mul_assoc]; omega
 rw [e2, Nat.add_mul_div_left _ _ hy, Nat.add_mul_mod_self_left]
 exact ⟨Nat.add_comm _ _, rfl⟩
end Go.Proofs.YtahpdcbmekgkfaaGreatDoor

namespace Go.Proofs.YtahpdcbmekgkfaaGreatDoor
open Go.RowKit
theorem lead_shift (y : Nat) (h0 : 0 < y) (hy : y < 18446744073709551616) : ∃ s : Nat, s < 64 ∧ (64 - (Lib.bitLen y : Int)) = (s : Int) ∧ 9223372036854775808 ≤ y * 2 ^ s ∧ y * 2 ^ s < 18446744073709551616 := by
 have hb := blen_lib y (by have : (2 : Nat) ^ 64 = 18446744073709551616 := rfl; omega)
 have h1 : blen y ≤ 64 := by rw [blen_le]; have : (2 : Nat) ^ 64 = 18446744073709551616 := rfl; omega
 have h2 : blen y ≠ 0 := fun e => by have := (blen_nil y).1 e; omega
 refine ⟨64 - blen y, by omega, by rw [hb]; omega, ?_, ?_⟩
 ·have := Nat.mul_le_mul_right (2 ^ (64 - blen y)) (blen_ge y (by omega))
  rw [← Nat.pow_add, show blen y - 1 + (64 - blen y) = 63 by omega] at this
  exact this
 ·have := Nat.mul_lt_mul_of_pos_right (lt_blen y) (Nat.pow_pos (n := 64 - blen y) (show 0 < 2 by decide))
  rw [← Nat.pow_add, show blen y + (64 - blen y) = 64 by omega] at this
  exact this
theorem mul_pow_cast (x s : Nat) : ((x : Int) * 2 ^ s) = ((x * 2 ^ s : Nat) : Int) := by rw [Int.natCast_mul, Int.natCast_pow]; rfl
theorem div_pow_cast (x s : Nat) : ((x : Int) / 2 ^ s) = ((x / 2 ^ s : Nat) : Int) := by rw [Int.natCast_ediv, Int.natCast_pow]; rfl
theorem wrap_nat (x : Nat) : IntKind.u64.wrap (x : Int) = ((x % 18446744073709551616 : Nat) : Int) := by rw [IntKind.wrap_u64]; omega
theorem wrap_small (x : Nat) (h : x < 18446744073709551616) : IntKind.u64.wrap (x : Int) = (x : Int) := by rw [wrap_nat, Nat.mod_eq_of_lt h]
theorem and_mask (x : Nat) (h : x < 18446744073709551616) : bits .and .u64 (x : Int) 4294967295 = ((x % 4294967296 : Nat) : Int) := by
 have e : x &&& 4294967295 = x % 4294967296 := Nat.and_two_pow_sub_one_eq_mod x 32
 rw [show (4294967295 : Int) = ((4294967295 : Nat) : Int) from rfl, u64_and_nat x 4294967295 h (by decide), e]
theorem div64_parts (hi lo y s : Nat) (hl : lo < 18446744073709551616) (h0 : hi < y) (hs : s < 64) (hY0 : 9223372036854775808 ≤ y * 2 ^ s) (hY1 : y * 2 ^ s < 18446744073709551616) :
  ∃ Y U V y1 y0 v1 v0 : Nat, IntKind.u64.wrap ((y : Int) * 2 ^ s) = (Y : Int) ∧ bits BinOp.or IntKind.u64 (IntKind.u64.wrap ((hi : Int) * 2 ^ s)) ((lo : Int) / 2 ^ (64 - s)) = (U : Int) ∧ IntKind.u64.wrap ((lo : Int) * 2 ^ s) = (V : Int) ∧ (Y : Int) / 4294967296 = (y1 : Int) ∧ bits BinOp.and IntKind.u64 (Y : Int) 4294967295 = (y0 : Int) ∧ (V : Int) / 4294967296 = (v1 : Int) ∧ bits BinOp.and IntKind.u64 (V : Int) 4294967295 = (v0 : Int) ∧
   Y = y1 * 4294967296 + y0 ∧ y0 < 4294967296 ∧ 2147483648 ≤ y1 ∧ y1 < 4294967296 ∧ v1 < 4294967296 ∧ v0 < 4294967296 ∧ U < Y ∧ Y = y * 2 ^ s ∧ U * 18446744073709551616 + v1 * 4294967296 + v0 = (hi * 18446744073709551616 + lo) * 2 ^ s := by
 have hpos : 0 < 2 ^ s := Nat.pow_pos (by decide)
 have hlo : lo / 2 ^ (64 - s) < 2 ^ s := by
  rw [Nat.div_lt_iff_lt_mul (Nat.pow_pos (by decide)), ← Nat.pow_add, show s + (64 - s) = 64 by omega]; exact hl
 have hhi : hi * 2 ^ s + 2 ^ s ≤ y * 2 ^ s := by
  have := Nat.mul_le_mul_right (2 ^ s) (show hi + 1 ≤ y from h0)
  rw [Nat.add_mul, Nat.one_mul] at this; exact this
 have hor : (hi * 2 ^ s ||| lo / 2 ^ (64 - s)) = hi * 2 ^ s + lo / 2 ^ (64 - s) := by
  rw [Nat.mul_comm]; exact (Nat.two_pow_add_eq_or_of_lt hlo hi).symm
 have hsw := shl_word lo s hs
 have hV : lo * 2 ^ s % 18446744073709551616 < 18446744073709551616 := Nat.mod_lt _ (by decide)
 refine ⟨y * 2 ^ s, hi * 2 ^ s + lo / 2 ^ (64 - s), lo * 2 ^ s % 18446744073709551616, y * 2 ^ s / 4294967296, y * 2 ^ s % 4294967296, lo * 2 ^ s % 18446744073709551616 / 4294967296, lo * 2 ^ s % 18446744073709551616 % 4294967296, ?_, ?_, ?_, ?_, ?_, ?_, ?_, ?_, ?_, ?_, ?_, ?_, ?_, ?_, rfl, ?_⟩
 ·rw [mul_pow_cast, wrap_small _ hY1]
 ·rw [mul_pow_cast, wrap_small _ (by omega), div_pow_cast, u64_or_nat _ _ (by omega) (by omega), hor]
 ·rw [mul_pow_cast, wrap_nat]
 ·omega
 ·exact and_mask _ hY1
 ·omega
 ·exact and_mask _ hV
 ·omega
 ·exact Nat.mod_lt _ (by decide)
 ·omega
 ·omega
 ·omega
 ·exact Nat.mod_lt _ (by decide)
 ·omega
 ·rw [Nat.add_mul, Nat.add_mul, ← hsw]
  generalize lo / 2 ^ (64 - s) = L at *
  generalize lo * 2 ^ s % 18446744073709551616 = V at *
  rw [Nat.mul_right_comm hi 18446744073709551616 (2 ^ s)]
  omega
theorem digit_parts (U v y1 y0 : Nat) (hU : U < 18446744073709551616) (hy0 : y0 < 4294967296) (hy1 : 2147483648 ≤ y1) (hy2 : y1 < 4294967296) (hv : v < 4294967296) (hu : U < y1 * 4294967296 + y0) :
  ∃ q r : Nat, (U : Int) / (y1 : Int) = (q : Int) ∧ IntKind.u64.wrap ((U : Int) - IntKind.u64.wrap ((q : Int) * (y1 : Int))) = (r : Int) ∧ r < 4294967296 ∧ Guess U v y1 y0 q r := by
 have hg := guess_start U v y1 y0 hy0 hy1 hv hu
 have hm := Nat.mod_lt U (show 0 < y1 by omega)
 have hd := Nat.div_add_mod U y1
 have hdl := Nat.div_le_self U y1
 refine ⟨U / y1, U % y1, ?_, ?_, by omega, hg⟩
 ·rw [← Int.natCast_ediv]
 ·have e : ((U / y1 : Nat) : Int) * (y1 : Int) = ((y1 * (U / y1) : Nat) : Int) := by rw [Int.natCast_mul, Int.mul_comm]
  rw [e, wrap_small _ (by omega), IntKind.wrap_u64]
  generalize y1 * (U / y1) = p at *
  generalize U % y1 = r at *
  omega
theorem mul_words (q y : Nat) (h : q * y < 18446744073709551616) : IntKind.u64.wrap ((q : Int) * (y : Int)) = ((q * y : Nat) : Int) := by rw [← Int.natCast_mul, wrap_small _ h]
theorem digit_rest (U v Y q : Nat) (hY : 0 < Y) (hYl : Y < 18446744073709551616) (h : q = (U * 4294967296 + v) / Y) :
  IntKind.u64.wrap (IntKind.u64.wrap (IntKind.u64.wrap ((U : Int) * 4294967296) + (v : Int)) - IntKind.u64.wrap ((q : Int) * (Y : Int))) = (((U * 4294967296 + v) % Y : Nat) : Int) := by
 have hd := Nat.div_add_mod (U * 4294967296 + v) Y
 have hm := Nat.mod_lt (U * 4294967296 + v) hY
 rw [← h] at hd
 rw [← Int.natCast_mul, Nat.mul_comm q Y]
 simp only [IntKind.wrap_u64]
 generalize Y * q = p at *
 generalize (U * 4294967296 + v) % Y = r at *
 omega
theorem div64_end (hi lo y s U v1 v0 Y q1 q0 : Nat) (hy : 0 < y) (hY : Y = y * 2 ^ s) (hU : U * 18446744073709551616 + v1 * 4294967296 + v0 = (hi * 18446744073709551616 + lo) * 2 ^ s) (h1 : q1 = (U * 4294967296 + v1) / Y) (h0 : q0 = ((U * 4294967296 + v1) % Y * 4294967296 + v0) / Y) :
  q1 * 4294967296 + q0 = (hi * 18446744073709551616 + lo) / y ∧ ((U * 4294967296 + v1) % Y * 4294967296 + v0) % Y / 2 ^ s = (hi * 18446744073709551616 + lo) % y := by
 have hp : 0 < 2 ^ s := Nat.pow_pos (by decide)
 have hYp : 0 < Y := by rw [hY]; exact Nat.mul_pos hy hp
 obtain ⟨t1, t2⟩ := two_digits Y U q1 v1 v0 hYp h1
 rw [h0, t1, t2, hU, hY, Nat.mul_div_mul_right _ _ hp, Nat.mul_mod_mul_right]
 exact ⟨rfl, Nat.mul_div_cancel _ hp⟩
theorem two_words_cast (hi lo : Nat) : (((hi * 18446744073709551616 + lo : Nat) : Int)) = (hi : Int) * 18446744073709551616 + (lo : Int) := by
 rw [Int.natCast_add, Int.natCast_mul]; rfl
theorem end_quo (hi lo y q1 q0 : Nat) (h : q1 * 4294967296 + q0 = (hi * 18446744073709551616 + lo) / y) : (q1 : Int) * 4294967296 + (q0 : Int) = ((hi : Int) * 18446744073709551616 + (lo : Int)) / (y : Int) := by
 rw [← two_words_cast, ← Int.natCast_ediv, ← h, Int.natCast_add, Int.natCast_mul]; rfl
theorem end_rem (hi lo y t : Nat) (h : t = (hi * 18446744073709551616 + lo) % y) : (t : Int) = ((hi : Int) * 18446744073709551616 + (lo : Int)) % (y : Int) := by
 rw [← two_words_cast, ← Int.natCast_emod, ← h]
end Go.Proofs.YtahpdcbmekgkfaaGreatDoor

namespace Go.Proofs.YtahpdcbmekgkfaaGreatDoor
open Go.RowKit
theorem shl_set (xs M : List Int) (k sk sh m x c y z : Nat) (hm : m = 64 * sk + sh) (hsh : sh < 64) (hl : sk + k + 1 < M.length) (hc : M.getD (sk + k) 0 = (c : Int)) (hz0 : M.getD (sk + k + 1) 0 = 0) (hx : xs.getD k 0 = (x : Int))
  (hv : val M = low xs k * 2 ^ m) (hy : y = c + x * 2 ^ sh % 18446744073709551616) (hz : z = x / 2 ^ (64 - sh)) :
  val ((M.set (sk + k) (y : Int)).set (sk + k + 1) (z : Int)) = low xs (k + 1) * 2 ^ m := by
 have e1 := val_set M (sk + k) (y : Int) (by omega)
 have e2 := val_set (M.set (sk + k) (y : Int)) (sk + k + 1) (z : Int) (by rw [List.length_set]; omega)
 rw [getD_set M _ _ _ (by omega), if_neg (by omega), hz0] at e2
 rw [hc, Int.toNat_natCast, Int.toNat_natCast] at e1
 rw [Int.toNat_natCast, Int.toNat_zero, Nat.mul_zero, Nat.add_zero, Nat.pow_succ] at e2
 have e3 : low xs (k + 1) = low xs k + 18446744073709551616 ^ k * x := by show low xs k + _ * (xs.getD k 0).toNat = _; rw [hx, Int.toNat_natCast]
 have e4 := shl_word x sh hsh
 rw [← hz] at e4
 have e5 : 18446744073709551616 ^ k * x * 2 ^ m = 18446744073709551616 ^ (sk + k) * (x * 2 ^ sh) := by
  rw [hm, two64, two64, Nat.pow_add 2 (64 * sk) sh, show 64 * (sk + k) = 64 * sk + 64 * k by omega, Nat.pow_add]
  simp only [Nat.mul_assoc, Nat.mul_left_comm, Nat.mul_comm]
 rw [e3, Nat.add_mul, ← hv, e5, ← e4, e2]
 have e7 : 18446744073709551616 ^ (sk + k) * y = 18446744073709551616 ^ (sk + k) * c + 18446744073709551616 ^ (sk + k) * (x * 2 ^ sh % 18446744073709551616) := by rw [hy, Nat.mul_add]
 rw [e7] at e1
 have e6 : 18446744073709551616 ^ (sk + k) * (x * 2 ^ sh % 18446744073709551616 + 18446744073709551616 * z) = 18446744073709551616 ^ (sk + k) * (x * 2 ^ sh % 18446744073709551616) + 18446744073709551616 ^ (sk + k) * 18446744073709551616 * z := by rw [Nat.mul_add, Nat.mul_assoc]
 rw [e6]
 clear e7 e6
 generalize 18446744073709551616 ^ (sk + k) * 18446744073709551616 * z = P at *
 generalize 18446744073709551616 ^ (sk + k) * (x * 2 ^ sh % 18446744073709551616) = Q at *
 generalize 18446744073709551616 ^ (sk + k) * c = R at *
 omega
theorem or_words (c x s : Nat) (hs : s < 64) (hc : c < 2 ^ s) (hc2 : c < 18446744073709551616) : bits BinOp.or IntKind.u64 (c : Int) (IntKind.u64.wrap ((x : Int) * 2 ^ s)) = ((c + x * 2 ^ s % 18446744073709551616 : Nat) : Int) := by
 rw [mul_pow_cast, wrap_nat, u64_or_nat _ _ hc2 (Nat.mod_lt _ (by decide)), (shl_room c x s hs hc).1]
theorem pow_le_word (s : Nat) (h : s < 64) : 2 ^ s ≤ 9223372036854775808 := by
 have := Nat.pow_le_pow_right (show 0 < 2 by decide) (show s ≤ 63 by omega)
 exact this
theorem word_nat2 (xs : List Int) (h : AllU xs) (k : Nat) : ∃ x : Nat, xs.getD k 0 = (x : Int) ∧ x < 18446744073709551616 := by
 have := h.get k
 exact ⟨(xs.getD k 0).toNat, by omega, by omega⟩
set_option maxRecDepth 100000 in
set_option maxHeartbeats 4000000 in
theorem left_calls (a : Option Addr) (n m : Nat) (xs : List Int) (w : World) (h : IsW w a n n xs) (hn : n ≤ 1024) (hm : m ≤ 65600) :
  Calls Tryz.prog 173 #[.slice a n n, .int .i64 (m : Int)] w fun e w' => ∃ (ao : Option Addr) (k : Nat) (M : List Int), e = .returned (.slice ao k k) ∧ OwnW w.heap.size w' ao k k M ∧ val M = val xs * 2 ^ m ∧ k = m / 64 + n + 1 ∧ Below w.heap.size w w' := by
 obtain ⟨sk, hsk⟩ : ∃ sk, sk = m / 64 := ⟨_, rfl⟩
 obtain ⟨w1, hmk, hO1, hb1, hz1⟩ := make_words 136 words_T w (sk + n + 1) (by omega)
 have q1 : (m : Int) / 64 = (sk : Int) := by omega
 have hskb : sk ≤ 1025 := by omega
 have hshb : m % 64 < 64 := by omega
 have HM : Hid (m = 64 * sk + m % 64) := by rw [Hid]; omega
 have HSK : Hid (sk = m / 64) := hsk
 have HL : Hid (xs.length = n) := h.1.symm
 rw [show ((sk + n + 1 : Nat) : Int) = (sk : Int) + n + 1 by omega] at hmk
 clear hsk
 go_enter Tryz.func173, Tryz.ntmps173
 go_wp2_with fail
 clear hmk q1
 go_loopw [22] (fun i wr => ∃ (k : Nat) (M : List Int), k ≤ n ∧ i = .int .i64 k ∧ Hid (∀ j, sk + k < j → M.getD j 0 = 0) ∧ Hid ((M.getD (sk + k) 0).toNat < 2 ^ (m % 64)) ∧ Hid (val M = low xs k * 2 ^ m) ∧ OwnW w.heap.size wr (some ⟨w.heap.size, 0, none⟩) (sk + n + 1) (sk + n + 1) M ∧ Below w.heap.size w wr) (fun i _ => n - (intOf i).toNat)
 case atStart => exact ⟨0, zeros (sk + n + 1), by omega, rfl, fun j _ => zeros_get _ j, by rw [Hid, zeros_get]; exact Nat.pow_pos (by decide), by rw [Hid, val_zeros]; simp [low], hO1, hb1⟩
 case round =>
  clear hO1 hb1
  obtain ⟨k, M, hk, rfl, HZ, HC, HV, hO, hbr⟩ := hrel
  by_cases hlt : k < n
  ·have HML : Hid (sk + n + 1 = M.length) := hO.1.1
   obtain ⟨b, off, ha, hbl, hcx⟩ := h.2.2.2 k hlt
   obtain ⟨x, hx, hx1⟩ := word_nat2 xs h.2.1 k
   have hcx2 : wr.cell? ⟨b, off + k, none⟩ = some (.int .u64 (x : Int)) := by rw [← hx]; exact (hbr.cell (p := ⟨b, off + k, none⟩) hbl).trans hcx
   have HX : Hid (xs.getD k 0 = (x : Int)) := hx
   have hne : b ≠ w.heap.size := Nat.ne_of_lt hbl
   subst ha
   obtain ⟨c, hc, hc1⟩ := word_nat2 M hO.1.2.1 (sk + k)
   have HCC : Hid (M.getD (sk + k) 0 = (c : Int)) := hc
   have hc2 : c < 2 ^ (m % 64) := by have := HC.out; rw [hc, Int.toNat_natCast] at this; exact this
   obtain ⟨_, _, e1, _, hcell⟩ := hO.1.2.2.2 (sk + k) (by omega)
   simp only [Option.some.injEq, Addr.mk.injEq, and_true] at e1
   obtain ⟨rfl, rfl⟩ := e1
   have hfz := (hO.2 _ _ (sk + k) rfl (by omega)).2
   rw [Nat.zero_add] at hcell hfz
   rw [hc] at hcell
   obtain ⟨_, _, e1, _, hcell2⟩ := hO.1.2.2.2 (sk + k + 1) (by omega)
   simp only [Option.some.injEq, Addr.mk.injEq, and_true] at e1
   obtain ⟨rfl, rfl⟩ := e1
   have hfz2 := (hO.2 _ _ (sk + k + 1) rfl (by omega)).2
   rw [Nat.zero_add, HZ.out (sk + k + 1) (by omega)] at hcell2
   rw [Nat.zero_add] at hfz2
   obtain ⟨y, hy⟩ : ∃ y : Nat, y = c + x * 2 ^ (m % 64) % 18446744073709551616 := ⟨_, rfl⟩
   have hyb : y < 18446744073709551616 := by rw [hy]; exact (shl_room c x (m % 64) hshb hc2).2
   have q3 : bits BinOp.or IntKind.u64 (c : Int) (IntKind.u64.wrap ((x : Int) * 2 ^ (m % 64))) = (y : Int) := by rw [or_words c x (m % 64) hshb hc2 hc1, hy]
   obtain ⟨z, hz⟩ : ∃ z : Nat, z = x / 2 ^ (64 - m % 64) := ⟨_, rfl⟩
   have q4 : (x : Int) / 2 ^ (64 - m % 64) = (z : Int) := by rw [div_pow_cast, hz]
   have HZB : Hid (z < 2 ^ (m % 64)) := by
    rw [Hid, hz, Nat.div_lt_iff_lt_mul (Nat.pow_pos (by decide)), ← Nat.pow_add, show m % 64 + (64 - m % 64) = 64 by omega]; exact hx1
   have hzb : z < 18446744073709551616 := by have := HZB.out; have := pow_le_word (m % 64) hshb; omega
   have q5 : ((sk : Int) + (k : Int)).toNat = sk + k := by omega
   have q6 : ((sk : Int) + (k : Int) + 1).toNat = sk + k + 1 := by omega
   have HY : Hid (y = c + x * 2 ^ (m % 64) % 18446744073709551616) := hy
   have HZZ : Hid (z = x / 2 ^ (64 - m % 64)) := hz
   clear hx hc hy hz hcx hc2
   go_wp2_with fail
   go_region
   have hO2 := (hO.set (i := sk + k) (by omega) (v := (y : Int)) (by omega) (by omega)).keep ((Below.refl _ _).drew)
   have hbr2 : Below w.heap.size w (wr.setCell ⟨w.heap.size, 0 + (sk + k), none⟩ (.int .u64 (y : Int))).drew := (hbr.setCell (Nat.le_refl _) _).drew
   rw [Nat.zero_add] at hO2 hbr2
   have hcell3 : (wr.setCell ⟨w.heap.size, sk + k, none⟩ (.int .u64 (y : Int))).drew.cell? ⟨w.heap.size, sk + k + 1, none⟩ = some (.int .u64 0) := (World.cell?_setCell_other wr _ _ _ (fun e => by have := congrArg Addr.off e; simp at this)).trans hcell2
   have hfz3 : (wr.setCell ⟨w.heap.size, sk + k, none⟩ (.int .u64 (y : Int))).drew.frozen? ⟨w.heap.size, sk + k + 1, none⟩ = false := (World.frozen?_setCell wr _ _ _).trans hfz2
   generalize (wr.setCell ⟨w.heap.size, sk + k, none⟩ (.int .u64 (y : Int))).drew = w2 at hO2 hbr2 hcell3 hfz3 ⊢
   clear hcell hcell2 hfz hfz2 hO hbr hcx2
   go_wp2_with fail
   have hO3 := hO2.set (i := sk + k + 1) (by omega) (v := (z : Int)) (by omega) (by omega)
   rw [Nat.zero_add] at hO3
   refine ⟨⟨k + 1, _, by omega, by go_num, ?_, ?_, ?_, hO3, hbr2.setCell (Nat.le_refl _) _⟩, by simp [intOf]; omega⟩
   ·intro j hj
    have := HML.out
    rw [getD_set _ _ _ _ (by rw [List.length_set]; omega), if_neg (by omega), getD_set _ _ _ _ (by omega), if_neg (by omega)]
    exact HZ.out j (by omega)
   ·have := HML.out
    rw [Hid, show sk + (k + 1) = sk + k + 1 by omega, getD_set _ _ _ _ (by rw [List.length_set]; omega), if_pos rfl, Int.toNat_natCast]
    exact HZB.out
   ·have := HML.out
    exact shl_set xs M k sk (m % 64) m x c y z HM.out hshb (by omega) HCC.out (HZ.out _ (by omega)) HX.out HV.out HY.out HZZ.out
  ·have HE : Hid (low xs k = val xs) := low_all xs k (by have := HL.out; omega)
   go_wp2_with fail
   go_ret
   exact ⟨_, _, M, rfl, hO, by rw [HV.out, HE.out], by rw [← HSK.out], hbr⟩
end Go.Proofs.YtahpdcbmekgkfaaGreatDoor

namespace Go.Proofs.YtahpdcbmekgkfaaGreatDoor
open Go.RowKit
theorem or_words2 (x y s : Nat) (hs : s < 64) (hx : x < 18446744073709551616) : bits BinOp.or IntKind.u64 ((x : Int) / 2 ^ s) (IntKind.u64.wrap ((y : Int) * 2 ^ (64 - s))) = ((x / 2 ^ s + y * 2 ^ (64 - s) % 18446744073709551616 : Nat) : Int) := by
 have hd : x / 2 ^ s ≤ x := Nat.div_le_self _ _
 rw [mul_pow_cast, div_pow_cast, wrap_nat, u64_or_nat _ _ (by omega) (Nat.mod_lt _ (by decide)), shr_room x y s hs hx]
theorem shr_at (xs : List Int) (hU : AllU xs) (k sk s m x y : Nat) (hm : m = 64 * sk + s) (hs : s < 64) (hx : xs.getD (sk + k) 0 = (x : Int)) (hy : xs.getD (sk + k + 1) 0 = (y : Int)) :
  val xs / 2 ^ m / 18446744073709551616 ^ k % 18446744073709551616 = x / 2 ^ s + y * 2 ^ (64 - s) % 18446744073709551616 := by
 have e1 := val_word xs hU (sk + k)
 have e2 := val_word xs hU (sk + k + 1)
 rw [hx, Int.toNat_natCast] at e1
 rw [hy, Int.toNat_natCast] at e2
 have e3 := word_shr (val xs) (sk + k) s hs
 rw [e1, e2] at e3
 rw [← e3, Nat.div_div_eq_div_mul]
 congr 2
 rw [hm, two64, two64, ← Nat.pow_add, ← Nat.pow_add]; congr 1; omega
theorem shr_word_lt (x y s : Nat) (hs : s < 64) (hx : x < 18446744073709551616) : x / 2 ^ s + y * 2 ^ (64 - s) % 18446744073709551616 < 18446744073709551616 := by
 by_cases h0 : s = 0
 ·subst h0
  rw [show 64 - 0 = 64 from rfl, show (2 : Nat) ^ 64 = 18446744073709551616 from rfl, Nat.mul_mod_left]; simp; exact hx
 ·have h1 : x / 2 ^ s < 2 ^ (64 - s) := by
   rw [Nat.div_lt_iff_lt_mul (Nat.pow_pos (by decide)), ← Nat.pow_add, show 64 - s + s = 64 by omega]; exact hx
  exact (shl_room _ y (64 - s) (by omega) h1).2
set_option maxRecDepth 100000 in
set_option maxHeartbeats 4000000 in
theorem right_calls (a : Option Addr) (n m : Nat) (xs : List Int) (w : World) (h : IsW w a n n xs) (hn : n ≤ 1024) (hm : m ≤ 9223372036854775807) :
  Calls Tryz.prog 171 #[.slice a n n, .int .i64 (m : Int)] w fun e w' => ∃ (ao : Option Addr) (k : Nat) (M : List Int), e = .returned (.slice ao k k) ∧ OwnW w.heap.size w' ao k k M ∧ val M = val xs / 2 ^ m ∧ k ≤ n ∧ Below w.heap.size w w' := by
 obtain ⟨sk, hsk⟩ : ∃ sk, sk = m / 64 := ⟨_, rfl⟩
 have q1 : (m : Int) / 64 = (sk : Int) := by omega
 have HSK : Hid (sk = m / 64) := hsk
 have HL : Hid (xs.length = n) := h.1.symm
 by_cases hc : n ≤ sk
 ·have HZ : Hid (val xs / 2 ^ m = 0) := shr_zero (val xs) m n (by rw [← HL.out]; exact val_lt xs h.2.1) (by omega)
  clear hsk
  go_enter Tryz.func171, Tryz.ntmps171
  go_wp2_with fail
  go_ret
  exact ⟨none, 0, [], rfl, ownW_nil _ _, by rw [HZ.out]; rfl, by omega, Below.refl _ _⟩
 ·obtain ⟨K, hK⟩ : ∃ K, K = n - sk := ⟨_, rfl⟩
  obtain ⟨w1, hmk, hO1, hb1, hz1⟩ := make_words 136 words_T w K (by omega)
  have hskb : sk < 1024 := by omega
  have q2 : (n : Int) - (sk : Int) = (K : Int) := by omega
  have hshb : m % 64 < 64 := by omega
  have HM : Hid (m = 64 * sk + m % 64) := by rw [Hid]; omega
  have HFIT : Hid (val xs / 2 ^ m < 18446744073709551616 ^ K) := by
   have := shr_fits (val xs) m n (by rw [← HL.out]; exact val_lt xs h.2.1) (by omega)
   rw [← hsk, ← hK] at this; exact this
  have hKn : sk + K = n := by omega
  have HKN : Hid (sk + K = n) := hKn
  have hKb : K ≤ 1024 := by omega
  clear hsk hK hKn
  go_enter Tryz.func171, Tryz.ntmps171
  go_wp2_with fail
  clear hmk q1 q2
  go_loopw [24] (fun i wr => ∃ (k : Nat) (M : List Int), k ≤ K ∧ i = .int .i64 k ∧ Hid (∀ j, j < k → (M.getD j 0).toNat = val xs / 2 ^ m / 18446744073709551616 ^ j % 18446744073709551616) ∧ OwnW w.heap.size wr (some ⟨w.heap.size, 0, none⟩) K K M ∧ Below w.heap.size w wr) (fun i _ => K - (intOf i).toNat)
  case atStart => exact ⟨0, zeros K, by omega, rfl, fun j hj => by omega, hO1, hb1⟩
  case round =>
   clear hO1 hb1
   obtain ⟨k, M, hk, rfl, HV, hO, hbr⟩ := hrel
   have HML : Hid (K = M.length) := hO.1.1
   by_cases hlt : k < K
   ·have hin : sk + k < n := by have := HKN.out; omega
    obtain ⟨b, off, ha, hbl, hcx⟩ := h.2.2.2 (sk + k) hin
    obtain ⟨x, hx, hx1⟩ := word_nat2 xs h.2.1 (sk + k)
    have hcx2 : wr.cell? ⟨b, off + (sk + k), none⟩ = some (.int .u64 (x : Int)) := by rw [← hx]; exact (hbr.cell (p := ⟨b, off + (sk + k), none⟩) hbl).trans hcx
    obtain ⟨y, hy, hy1⟩ := word_nat2 xs h.2.1 (sk + k + 1)
    have AT := at_calls a n n xs (sk + k + 1) wr.drew (h.keep hbr.drew)
    rw [hy, show ((sk + k + 1 : Nat) : Int) = (sk : Int) + k + 1 by omega] at AT
    have HSA : Hid _ := shr_at xs h.2.1 k sk (m % 64) m x y HM.out hshb hx hy
    subst ha
    obtain ⟨_, _, e1, _, hcell⟩ := hO.1.2.2.2 k hlt
    simp only [Option.some.injEq, Addr.mk.injEq, and_true] at e1
    obtain ⟨rfl, rfl⟩ := e1
    have hfz := (hO.2 _ _ k rfl hlt).2
    rw [Nat.zero_add] at hcell hfz
    obtain ⟨z, hz⟩ : ∃ z : Nat, z = x / 2 ^ (m % 64) + y * 2 ^ (64 - m % 64) % 18446744073709551616 := ⟨_, rfl⟩
    have hzb : z < 18446744073709551616 := by rw [hz]; exact shr_word_lt x y (m % 64) hshb hx1
    have q3 : bits BinOp.or IntKind.u64 ((x : Int) / 2 ^ (m % 64)) (IntKind.u64.wrap ((y : Int) * 2 ^ (64 - m % 64))) = (z : Int) := by rw [or_words2 x y (m % 64) hshb hx1, hz]
    have HZ : Hid (z = x / 2 ^ (m % 64) + y * 2 ^ (64 - m % 64) % 18446744073709551616) := hz
    have q5 : ((sk : Int) + (k : Int)).toNat = sk + k := by omega
    have hne : b ≠ w.heap.size := Nat.ne_of_lt hbl
    have i1 : (sk : Int) + (k : Int) < (n : Int) := by omega
    have i2 : 0 ≤ (sk : Int) + (k : Int) := by omega
    have i3 : IntKind.i64.wrap ((sk : Int) + (k : Int)) = (sk : Int) + (k : Int) := by rw [IntKind.wrap_i64]; omega
    have i4 : IntKind.i64.wrap ((sk : Int) + (k : Int) + 1) = (sk : Int) + (k : Int) + 1 := by rw [IntKind.wrap_i64]; omega
    have i5 : IntKind.i64.wrap (64 - (m : Int) % 64) = 64 - (m : Int) % 64 := by rw [IntKind.wrap_i64]; omega
    have i6 : (64 - (m : Int) % 64).toNat = 64 - m % 64 := by omega
    have i7 : 0 ≤ 64 - (m : Int) % 64 := by omega
    have i8 : ((m : Int) % 64).toNat = m % 64 := by omega
    have i9 : 0 ≤ (m : Int) % 64 := by omega
    clear hx hy hz hcx
    go_wp2_with fail
    go_region_with ((go_at_call 199; refine AT.mono ?_; rintro e w2 ⟨rfl, rfl⟩))
    all_goals
     have hO2 := ((hO.keep ((Below.refl _ _).drew)).set (i := k) hlt (v := (z : Int)) (by omega) (by omega))
     have hbr2 : Below w.heap.size w (wr.drew.setCell ⟨w.heap.size, 0 + k, none⟩ (.int .u64 (z : Int))) := hbr.drew.setCell (Nat.le_refl _) _
     rw [Nat.zero_add] at hO2 hbr2
     go_wp2_with fail
     refine ⟨⟨k + 1, _, by omega, by go_num, ?_, hO2, hbr2⟩, by simp [intOf]; omega⟩
     intro j hj
     have := HML.out
     rw [getD_set _ _ _ _ (by omega)]
     by_cases e : k = j
     ·subst e; rw [if_pos rfl, Int.toNat_natCast, HSA.out, HZ.out]
     ·rw [if_neg e]; exact HV.out j (by omega)
   ·have hkK : k = K := by omega
    have HE : Hid (val M = val xs / 2 ^ m) := val_of_words M _ (by rw [← HML.out]; exact HFIT.out) (fun i hi => HV.out i (by rw [← HML.out] at hi; omega))
    clear hkK
    go_wp2_with fail
    go_ret
    exact ⟨_, _, M, rfl, hO, HE.out, by have := HKN.out; omega, hbr⟩
end Go.Proofs.YtahpdcbmekgkfaaGreatDoor

namespace Go.Proofs.YtahpdcbmekgkfaaGreatDoor
open Go.RowKit
set_option maxHeartbeats 4000000
set_option maxRecDepth 100000
theorem low_mod (xs : List Int) (h : AllU xs) : ∀ k, low xs k = val xs % 18446744073709551616 ^ k
 | 0 => by rw [Nat.pow_zero, Nat.mod_one]; rfl
 | k + 1 => by
  show low xs k + 18446744073709551616 ^ k * (xs.getD k 0).toNat = _
  rw [low_mod xs h k, ← val_word xs h k, Nat.pow_succ, Nat.mod_mul]
theorem low_zero (xs : List Int) : ∀ k, (∀ j, j < k → xs.getD j 0 = 0) → low xs k = 0
 | 0, _ => rfl
 | k + 1, h => by
  show low xs k + 18446744073709551616 ^ k * (xs.getD k 0).toNat = 0
  rw [low_zero xs k (fun j hj => h j (by omega)), h k (by omega)]; simp
theorem low_pos (xs : List Int) (k j : Nat) (hj : j < k) (h : 0 < xs.getD j 0) : low xs k ≠ 0 := by
 induction k with
 | zero => omega
 | succ k ih =>
  show low xs k + 18446744073709551616 ^ k * (xs.getD k 0).toNat ≠ 0
  by_cases e : j = k
  ·subst e
   have : 0 < 18446744073709551616 ^ j * (xs.getD j 0).toNat := Nat.mul_pos (Nat.pow_pos (by decide)) (by omega)
   omega
  ·have := ih (by omega); omega
theorem any_calls (a : Option Addr) (n m : Nat) (xs : List Int) (w : World) (h : IsW w a n n xs) (hn : n ≤ 1024) (hm : m ≤ 9223372036854775807) :
  Calls Tryz.prog 172 #[.slice a n n, .int .i64 (m : Int)] w fun e w' => e = .returned (.bool (lostB (val xs) m)) ∧ w' = w := by
 obtain ⟨sk, hsk⟩ : ∃ sk, sk = m / 64 := ⟨_, rfl⟩
 have q1 : (m : Int) / 64 = (sk : Int) := by omega
 have HL : Hid (xs.length = n) := h.1.symm
 obtain ⟨K, hK⟩ : ∃ K, K = min sk n := ⟨_, rfl⟩
 have q2 : min (sk : Int) (n : Int) = (K : Int) := by omega
 have HKK : Hid (K = min sk n) := hK
 have hKn : K ≤ n := by omega
 obtain ⟨y, hy, hy1⟩ := word_nat2 xs h.2.1 sk
 have AT : Hid _ := at_calls a n n xs sk w h
 rw [hy] at AT
 obtain ⟨z, hz⟩ : ∃ z : Nat, z = y * 2 ^ (64 - m % 64) % 18446744073709551616 := ⟨_, rfl⟩
 have q3 : IntKind.u64.wrap ((y : Int) * 2 ^ (64 - m % 64)) = (z : Int) := by rw [mul_pow_cast, wrap_nat, hz]
 have HLO : Hid (lostB (val xs) m = decide (low xs sk ≠ 0 ∨ z ≠ 0)) := by
  have h1 := lost_split (val xs) m
  have h2 := val_word xs h.2.1 (m / 64)
  rw [← hsk, hy, Int.toNat_natCast] at h2
  rw [← hsk, ← low_mod xs h.2.1, h2, ← hz] at h1
  rw [Hid, lostB, decide_eq_decide]
  constructor
  ·intro q
   by_cases e : low xs sk = 0
   ·exact Or.inr (fun e2 => q (h1.2 ⟨e, e2⟩))
   ·exact Or.inl e
  ·intro q e
   have := h1.1 e
   rcases q with q | q
   ·exact q this.1
   ·exact q this.2
 have HW : Hid (IsW w a n n xs) := h
 have hg := fun i => h.2.1.get i
 have HG : Hid (∀ i, 0 ≤ xs.getD i 0 ∧ xs.getD i 0 ≤ 18446744073709551615) := hg
 have hcl : Hid (a = none → n = 0) := h.2.2.1.2
 clear hsk hK hy hz hg h
 have end_ok : ∀ k : Nat, k = K → (∀ j, j < k → xs.getD j 0 = 0) → low xs sk = 0 := fun k hk hz => by
  apply low_zero
  intro j hj
  by_cases e : j < k
  ·exact hz j e
  ·have h1 := HL.out; have h2 := HKK.out
   simp [List.getD, show ¬ j < xs.length by omega]
 have EO : Hid (∀ k : Nat, k = K → (∀ j, j < k → xs.getD j 0 = 0) → low xs sk = 0) := end_ok
 clear end_ok
 cases a with
 | none =>
  obtain rfl := hcl.out rfl
  obtain rfl : K = 0 := by omega
  have HE : Hid (low xs sk = 0) := EO.out 0 rfl (fun j hj => by omega)
  go_enter Tryz.func172, Tryz.ntmps172
  go_wp2_with fail
  refine wp_loop_rounds 1 ?_
  rw [rounds_succ]
  go_wp2_with fail
  refine cM AT.out ?_
  rintro e w ⟨rfl, rfl⟩
  go_wp2_with fail
  go_ret
  exact ⟨nret_bool (by rw [HLO.out, HE.out]; simp; rw [Bool.eq_iff_iff]; simp), rfl⟩
 | some ad =>
  obtain ⟨b, off, spot⟩ := ad
  go_enter Tryz.func172, Tryz.ntmps172
  go_wp2_with fail
  go_loop [20] (fun q => ∃ k : Nat, k ≤ K ∧ q = .int .i64 k ∧ Hid (∀ j, j < k → xs.getD j 0 = 0)) (fun q => K - (intOf q).toNat)
  case atStart => exact ⟨0, by omega, rfl, fun j hj => by omega⟩
  case round =>
   obtain ⟨k, hk, rfl, HZ⟩ := hrel
   by_cases hlt : k < K
   ·obtain ⟨b', off', e1, _, hc⟩ := HW.out.2.2.2 k (by omega)
    simp only [Option.some.injEq, Addr.mk.injEq] at e1
    obtain ⟨rfl, rfl, rfl⟩ := e1
    have hgx := HG.out k
    obtain ⟨x, hx⟩ : ∃ x, x = xs.getD k 0 := ⟨_, rfl⟩
    rw [← hx] at hc hgx
    by_cases h0 : x = 0
    ·have d0 : (x != 0) = false := by simp [h0]
     have HZ' : Hid (∀ j, j < k + 1 → xs.getD j 0 = 0) := fun j hj => by
      by_cases e : j = k
      ·rw [e, ← hx, h0]
      ·exact HZ.out j (by omega)
     clear hx h0
     go_wp2_with fail
     go_round
     case rel => exact ⟨k + 1, by omega, by go_num, HZ'⟩
     case measure => simp [intOf]; omega
    ·have d0 : (x != 0) = true := by simp [h0]
     have HV : Hid (lostB (val xs) m = true) := by
      have h1 := HKK.out
      have := low_pos xs sk k (by omega) (by rw [← hx]; omega)
      rw [Hid, HLO.out]; simp [this]
     clear hx h0
     go_wp2_with fail
     go_ret
     exact ⟨nret_bool HV.out.symm, rfl⟩
   ·have HE : Hid (low xs sk = 0) := EO.out k (by omega) HZ.out
    go_wp2_with fail
    refine cM AT.out ?_
    rintro e w ⟨rfl, rfl⟩
    go_wp2_with fail
    go_ret
    exact ⟨nret_bool (by rw [HLO.out, HE.out]; simp; rw [Bool.eq_iff_iff]; simp), rfl⟩
def shlR (u : Nat) (m : Int) : Nat × Int := if greatB u = true then (0, 3) else if m < 0 then (0, 2) else if u = 0 then (0, 0) else if 65536 - (blen u : Int) < m then (0, 3) else (u * 2 ^ m.toNat, 0)
theorem shlR_great {u : Nat} {m : Int} (h : greatB u = true) : shlR u m = (0, 3) := by unfold shlR; rw [if_pos h]
theorem shlR_neg {u : Nat} {m : Int} (h : greatB u = false) (h2 : m < 0) : shlR u m = (0, 2) := by unfold shlR; rw [if_neg (by rw [h]; decide), if_pos h2]
theorem shlR_zero {u : Nat} {m : Int} (h : greatB u = false) (h2 : 0 ≤ m) (h3 : u = 0) : shlR u m = (0, 0) := by unfold shlR; rw [if_neg (by rw [h]; decide), if_neg (by omega), if_pos h3]
theorem shlR_many {u : Nat} {m : Int} (h : greatB u = false) (h2 : 0 ≤ m) (h3 : u ≠ 0) (h4 : 65536 - (blen u : Int) < m) : shlR u m = (0, 3) := by unfold shlR; rw [if_neg (by rw [h]; decide), if_neg (by omega), if_neg h3, if_pos h4]
theorem shlR_fit {u : Nat} {m : Int} (h : greatB u = false) (h2 : 0 ≤ m) (h3 : u ≠ 0) (h4 : m ≤ 65536 - (blen u : Int)) : shlR u m = (u * 2 ^ m.toNat, 0) := by unfold shlR; rw [if_neg (by rw [h]; decide), if_neg (by omega), if_neg h3, if_neg (by omega)]
theorem blen_mul (u m : Nat) (h : u ≠ 0) : blen (u * 2 ^ m) = m + blen u := by
 have := blen_shift m 0 u (Nat.pow_pos (by decide)) h
 rw [Nat.zero_add, Nat.mul_comm] at this; exact this
theorem shl_calls (a : Option Addr) (len cap : Nat) (xs : List Int) (i : Int) (w : World) (h : IsW w a len cap xs) (hm : len ≤ 17592186044416) :
  Calls Tryz.prog 138 #[.slice a len cap, .int .i64 i] w fun e w' => ∃ v, e = .returned (.tuple #[v, .int .i64 (shlR (val xs) i).2]) ∧ NatAt w.heap.size w' v (shlR (val xs) i).1 ∧ Below w.heap.size w w' := by
 have HT := withCount_calls a len cap xs i w h hm
 go_enter Tryz.func138, Tryz.ntmps138
 go_wp2_with fail
 refine cM HT ?_
 rintro e w1 ⟨h1, h2, h3, hb⟩
 clear HT
 cases hg : greatB (val xs) with
 | true =>
  obtain rfl := h1 hg
  have e0 : Hid _ := shlR_great (m := i) hg
  clear h1 h2 h3 hg
  go_wp2_with fail
  go_ret2
  rw [e0.out]
  exact ⟨_, rfl, natAt_nil _ _, hb⟩
 | false =>
  by_cases hi : i < 0
  ·obtain rfl := h2 hg hi
   have e0 : Hid _ := shlR_neg hg hi
   clear h1 h2 h3 hg
   go_wp2_with fail
   go_ret2
   rw [e0.out]
   exact ⟨_, rfl, natAt_nil _ _, hb⟩
  ·obtain ⟨a1, n, rfl, hn, hn2, hI⟩ := h3 hg (by omega)
   have HN : Hid (n = (wO (val xs)).length) := hn
   have HG : Hid _ := hg
   clear h1 h2 h3 hg hn
   obtain ⟨j, rfl⟩ := Int.eq_ofNat_of_zero_le (show 0 ≤ i by omega)
   by_cases h0 : val xs = 0
   ·have e0 : Hid _ := shlR_zero (m := (j : Int)) HG.out (by omega) h0
    have hn0 : n = 0 := by rw [HN.out, h0, words_zero]; rfl
    subst hn0
    clear h0
    go_wp2_with fail
    go_ret2
    rw [e0.out]
    exact ⟨_, rfl, natAt_nil _ _, hb⟩
   ·have hn0 : ((n : Int) == 0) = false := by
     have : n ≠ 0 := fun e => h0 ((words_nil _).1 (List.length_eq_zero_iff.1 (by rw [← HN.out]; exact e)))
     simp; omega
    have hbl : blen (val xs) ≤ 65536 := (great_not _).1 HG.out
    have BC : Hid _ := bits_calls a1 n (val xs) w1 hI (by omega)
    by_cases hc : 65536 - (blen (val xs) : Int) < (j : Int)
    ·have e0 : Hid _ := shlR_many HG.out (by omega) h0 hc
     clear h0
     go_wp2_with fail
     refine cM BC.out ?_
     rintro e w1 ⟨rfl, rfl⟩
     go_wp2_with fail
     go_ret2
     rw [e0.out]
     exact ⟨_, rfl, natAt_nil _ _, hb⟩
    ·have e0 : Hid _ := shlR_fit HG.out (show 0 ≤ (j : Int) by omega) h0 (show (j : Int) ≤ 65536 - (blen (val xs) : Int) by omega)
     have LC : Hid _ := left_calls a1 n j (wO (val xs)) w1 hI hn2 (by omega)
     have HF : Hid (greatB (val xs * 2 ^ j) = false) := by rw [Hid, great_not, blen_mul _ _ h0]; omega
     clear h0
     go_wp2_with fail
     refine cM BC.out ?_
     rintro e w1 ⟨rfl, rfl⟩
     go_wp2_with fail
     refine cM LC.out ?_
     rintro e w2 ⟨ao, k, M, rfl, hO, hv, hk, hb2⟩
     rw [val_words] at hv
     have HV : Hid (val M = val xs * 2 ^ j) := hv
     have hkb : k ≤ 4000 := by omega
     clear hv hk LC BC
     go_wp2_with fail
     refine cM (answer_calls _ ao k k M w2 hO (by omega)) ?_
     rintro e w3 ⟨v, rfl, hA, hb3⟩
     rw [HV.out, fitR_no HF.out] at hA ⊢
     go_wp2_with fail
     go_ret2
     rw [e0.out, Int.toNat_natCast]
     exact ⟨v, rfl, hA.low hb.size, nT (nT hb hb2) hb3⟩
def shrE (u : Nat) (m : Int) : Int := if greatB u = true then 3 else if m < 0 then 2 else 0
def shrQ (u : Nat) (m : Int) : Nat := if greatB u = true then 0 else if m < 0 then 0 else u / 2 ^ m.toNat
def shrL (u : Nat) (m : Int) : Bool := if greatB u = true then false else if m < 0 then false else lostB u m.toNat
theorem shr_great {u : Nat} {m : Int} (h : greatB u = true) : shrE u m = 3 ∧ shrQ u m = 0 ∧ shrL u m = false := by simp [shrE, shrQ, shrL, h]
theorem shr_neg {u : Nat} {m : Int} (h : greatB u = false) (h2 : m < 0) : shrE u m = 2 ∧ shrQ u m = 0 ∧ shrL u m = false := by simp [shrE, shrQ, shrL, h, h2]
theorem shr_fit {u j : Nat} (h : greatB u = false) : shrE u (j : Int) = 0 ∧ shrQ u (j : Int) = u / 2 ^ j ∧ shrL u (j : Int) = lostB u j := by
 have : ¬ (j : Int) < 0 := by omega
 simp [shrE, shrQ, shrL, h, this]
theorem shr_calls (a : Option Addr) (len cap : Nat) (xs : List Int) (i : Int) (w : World) (h : IsW w a len cap xs) (hm : len ≤ 17592186044416) (hi1 : i ≤ 9223372036854775807) :
  Calls Tryz.prog 137 #[.slice a len cap, .int .i64 i] w fun e w' => ∃ v, e = .returned (.tuple #[v, .bool (shrL (val xs) i), .int .i64 (shrE (val xs) i)]) ∧ NatAt w.heap.size w' v (shrQ (val xs) i) ∧ Below w.heap.size w w' := by
 have HT := withCount_calls a len cap xs i w h hm
 go_enter Tryz.func137, Tryz.ntmps137
 go_wp2_with fail
 refine cM HT ?_
 rintro e w1 ⟨h1, h2, h3, hb⟩
 clear HT
 cases hg : greatB (val xs) with
 | true =>
  obtain rfl := h1 hg
  have e0 : Hid _ := shr_great (m := i) hg
  clear h1 h2 h3 hg
  go_wp2_with fail
  go_ret3
  rw [e0.out.1, e0.out.2.1, e0.out.2.2]
  exact ⟨_, rfl, natAt_nil _ _, hb⟩
 | false =>
  by_cases hi : i < 0
  ·obtain rfl := h2 hg hi
   have e0 : Hid _ := shr_neg hg hi
   clear h1 h2 h3 hg
   go_wp2_with fail
   go_ret3
   rw [e0.out.1, e0.out.2.1, e0.out.2.2]
   exact ⟨_, rfl, natAt_nil _ _, hb⟩
  ·obtain ⟨a1, n, rfl, hn, hn2, hI⟩ := h3 hg (by omega)
   obtain ⟨j, rfl⟩ := Int.eq_ofNat_of_zero_le (show 0 ≤ i by omega)
   have HG : Hid _ := hg
   have e0 : Hid _ := shr_fit (j := j) hg
   have HF : Hid (fitR (val xs / 2 ^ j) = (val xs / 2 ^ j, 0)) := fitR_no (great_mono (Nat.div_le_self _ _) hg)
   clear h1 h2 h3 hg hn
   have RC : Hid _ := right_calls a1 n j (wO (val xs)) w1 hI hn2 (by omega)
   go_wp2_with fail
   refine cM RC.out ?_
   rintro e w2 ⟨ao, k, M, rfl, hO, hv, hk, hb2⟩
   rw [val_words] at hv
   have HV : Hid (val M = val xs / 2 ^ j) := hv
   have hkb : k ≤ 1024 := by omega
   have hI2 := hI.keep hb2
   clear hv hk RC
   go_wp2_with fail
   refine cM (answer_calls _ ao k k M w2 hO (by omega)) ?_
   rintro e w3 ⟨v, rfl, hA, hb3⟩
   rw [HV.out, HF.out] at hA ⊢
   have hI3 := hI2.keep hb3
   have AC : Hid _ := any_calls a1 n j (wO (val xs)) w3 hI3 hn2 (by omega)
   rw [val_words] at AC
   go_wp2_with fail
   refine cM AC.out ?_
   rintro e w3 ⟨rfl, rfl⟩
   go_wp2_with fail
   go_ret3
   rw [e0.out.1, e0.out.2.1, e0.out.2.2]
   exact ⟨v, rfl, hA.low hb.size, nT (nT hb hb2) hb3⟩
end Go.Proofs.YtahpdcbmekgkfaaGreatDoor

namespace Go.Proofs.YtahpdcbmekgkfaaGreatDoor
open Go.RowKit
def formD (s : Bool) (m : Nat) (e : Int) : Bool × Nat × Int := if m = 0 then (false, 0, 0) else (s, m / 2 ^ tz m, e + (tz m : Int))
theorem form_zero (s : Bool) (e : Int) : formD s 0 e = (false, 0, 0) := by unfold formD; rw [if_pos rfl]
theorem form_pos (s : Bool) {m : Nat} (h : m ≠ 0) (e : Int) : formD s m e = (s, m / 2 ^ tz m, e + (tz m : Int)) := by unfold formD; rw [if_neg h]
theorem odd_part {m : Nat} (h : m ≠ 0) : m / 2 ^ tz m % 2 = 1 ∧ m / 2 ^ tz m * 2 ^ tz m = m := by
 obtain ⟨k, hk⟩ := ntz_spec m h
 have hp : 0 < 2 ^ tz m := Nat.pow_pos (by decide)
 have e1 : m / 2 ^ tz m = 2 * k + 1 := by
  conv => lhs; rw [hk]
  rw [tz_of, Nat.mul_div_cancel_left _ hp]
 rw [e1]
 refine ⟨by omega, ?_⟩
 rw [Nat.mul_comm]; exact hk.symm
theorem form_odd (s : Bool) {m : Nat} (h : m % 2 = 1) (e : Int) : formD s m e = (s, m, e) := by
 rw [form_pos s (by omega), tz_odd m h, Nat.pow_zero, Nat.div_one]; simp
theorem form_shift (s : Bool) (m k : Nat) (e : Int) : formD s (m * 2 ^ k) e = formD s m (e + (k : Int)) := by
 by_cases h : m = 0
 ·rw [h, Nat.zero_mul, form_zero, form_zero]
 ·have hp : 0 < 2 ^ k := Nat.pow_pos (by decide)
  have h2 : m * 2 ^ k ≠ 0 := Nat.mul_ne_zero h (by omega)
  have ht : tz (m * 2 ^ k) = k + tz m := by rw [Nat.mul_comm]; exact tz_shift k m h
  rw [form_pos s h2, form_pos s h, ht, Nat.pow_add, Nat.mul_comm m, Nat.mul_div_mul_left _ _ hp]
  congr 2
  omega
def CanD (p : Bool × Nat × Int) : Prop := p = (false, 0, 0) ∨ p.2.1 % 2 = 1
theorem form_can (s : Bool) (m : Nat) (e : Int) : CanD (formD s m e) := by
 by_cases h : m = 0
 ·rw [h, form_zero]; exact Or.inl rfl
 ·rw [form_pos s h]; exact Or.inr (odd_part h).1
theorem form_of_can {p : Bool × Nat × Int} (h : CanD p) : formD p.1 p.2.1 p.2.2 = p := by
 rcases h with h | h
 ·rw [h]; exact form_zero _ _
 ·exact form_odd _ h _
theorem form_amount_le (s : Bool) (m : Nat) (e : Int) : (formD s m e).2.1 ≤ m := by
 by_cases h : m = 0
 ·rw [h, form_zero]; exact Nat.le_refl _
 ·rw [form_pos s h]; exact Nat.div_le_self _ _
def inB (e : Int) : Bool := decide (-32768 ≤ e ∧ e ≤ 32768)
def rightB (m : Nat) (e : Int) : Bool := !greatB m && inB e
theorem inB_yes {e : Int} (h : inB e = true) : -32768 ≤ e ∧ e ≤ 32768 := by unfold inB at h; simpa using h
theorem rightB_yes {m : Nat} {e : Int} (h : rightB m e = true) : greatB m = false ∧ -32768 ≤ e ∧ e ≤ 32768 := by
 unfold rightB at h
 rw [Bool.and_eq_true] at h
 exact ⟨by simpa using h.1, inB_yes h.2⟩
theorem tz_le_blen (m : Nat) : tz m ≤ blen m := by
 by_cases h : m = 0
 ·rw [h, tz_zero]; exact Nat.zero_le _
 ·have h1 := (odd_part h).2
  have h2 := lt_blen m
  have h3 : 1 * 2 ^ tz m ≤ m / 2 ^ tz m * 2 ^ tz m := Nat.mul_le_mul_right _ (by
   have h5 := (odd_part h).1
   rcases Nat.eq_zero_or_pos (m / 2 ^ tz m) with q | q
   ·rw [q] at h5; omega
   ·exact q)
  rcases Nat.lt_or_ge (blen m) (tz m) with q | q
  ·have := Nat.pow_le_pow_right (show 0 < 2 by decide) (Nat.le_of_lt q)
   omega
  ·exact q
end Go.Proofs.YtahpdcbmekgkfaaGreatDoor

namespace Go.Proofs.YtahpdcbmekgkfaaGreatDoor
open Go.RowKit
theorem zero_len : (wO 0).length ≤ 1024 := by rw [words_zero]; simp
theorem fitR_len (u : Nat) : (wO (fitR u).1).length ≤ 1024 := by
 unfold fitR
 split
 ·exact zero_len
 ·rename_i h
  exact (great_len u).1 (by simpa using h)
theorem addR_len (u v : Nat) : (wO (addR u v).1).length ≤ 1024 := by
 unfold addR
 split
 ·exact zero_len
 ·exact fitR_len _
theorem subR_len (u v : Nat) : (wO (subR u v).1).length ≤ 1024 := by
 unfold subR
 split
 ·exact zero_len
 ·rename_i h
  rw [Bool.not_eq_true, Bool.or_eq_false_iff] at h
  split
  ·exact zero_len
  ·exact (great_len _).1 (great_mono (Nat.sub_le _ _) h.1)
theorem shlR_len (u : Nat) (i : Int) : (wO (shlR u i).1).length ≤ 1024 := by
 unfold shlR
 split
 ·exact zero_len
 ·split
  ·exact zero_len
  ·split
   ·exact zero_len
   ·split
    ·exact zero_len
    ·rename_i h1 h2 h3 h4
     simp only
     obtain ⟨j, rfl⟩ := Int.eq_ofNat_of_zero_le (show 0 ≤ i by omega)
     rw [Int.toNat_natCast, ← great_len, great_not, blen_mul _ _ h3]; omega
theorem shrQ_len (u : Nat) (i : Int) : (wO (shrQ u i)).length ≤ 1024 := by
 unfold shrQ
 split
 ·exact zero_len
 ·split
  ·exact zero_len
  ·rename_i h1 h2
   rw [← great_len]
   exact great_mono (Nat.div_le_self _ _) (by simpa using h1)
theorem NatAt.open {B : Nat} {w : World} {v : Value} {r : Nat} (h : NatAt B w v r) (hl : (wO r).length ≤ 1024) : ∃ (ao : Option Addr) (n c : Nat), v = .slice ao n c ∧ Hid (n = (wO r).length) ∧ n ≤ 1024 ∧ OwnW B w ao n c (wO r) := by
 obtain ⟨ao, n, c, rfl, hn, hO⟩ := h
 exact ⟨ao, n, c, rfl, hn, by omega, hO⟩
section
variable {a a' : Option Addr} {len cap len' cap' : Nat} {xs ys : List Int} {w : World}
theorem add_eq (h : IsW w a len cap xs) (h' : IsW w a' len' cap' ys) (hm : len ≤ 17592186044416) (hm' : len' ≤ 17592186044416) {r : Nat} {k : Int} (hr : addR (val xs) (val ys) = (r, k)) :
  Calls Tryz.prog 194 #[.slice a len cap, .slice a' len' cap'] w fun e w' => ∃ (ao : Option Addr) (n c : Nat), e = .returned (.tuple #[.slice ao n c, .int .i64 k]) ∧ Hid (n = (wO r).length) ∧ n ≤ 1024 ∧ OwnW w.heap.size w' ao n c (wO r) ∧ Below w.heap.size w w' := by
 have hl := addR_len (val xs) (val ys)
 refine cM (add_calls a a' len cap len' cap' xs ys w h h' hm hm') ?_
 rw [hr] at hl ⊢
 rintro e w' ⟨v, rfl, hA, hb⟩
 obtain ⟨ao, n, c, rfl, h1, h2, h3⟩ := hA.open hl
 exact ⟨ao, n, c, rfl, h1, h2, h3, hb⟩
theorem sub_eq (h : IsW w a len cap xs) (h' : IsW w a' len' cap' ys) (hm : len ≤ 17592186044416) (hm' : len' ≤ 17592186044416) {r : Nat} {k : Int} (hr : subR (val xs) (val ys) = (r, k)) :
  Calls Tryz.prog 168 #[.slice a len cap, .slice a' len' cap'] w fun e w' => ∃ (ao : Option Addr) (n c : Nat), e = .returned (.tuple #[.slice ao n c, .int .i64 k]) ∧ Hid (n = (wO r).length) ∧ n ≤ 1024 ∧ OwnW w.heap.size w' ao n c (wO r) ∧ Below w.heap.size w w' := by
 have hl := subR_len (val xs) (val ys)
 refine cM (sub_calls a a' len cap len' cap' xs ys w h h' hm hm') ?_
 rw [hr] at hl ⊢
 rintro e w' ⟨v, rfl, hA, hb⟩
 obtain ⟨ao, n, c, rfl, h1, h2, h3⟩ := hA.open hl
 exact ⟨ao, n, c, rfl, h1, h2, h3, hb⟩
theorem norm_eq2 (h : IsW w a len cap xs) (hm : len ≤ 17592186044416) {r : Nat} {k : Int} (hr : fitR (val xs) = (r, k)) :
  Calls Tryz.prog 165 #[.slice a len cap] w fun e w' => ∃ (ao : Option Addr) (n c : Nat), e = .returned (.tuple #[.slice ao n c, .int .i64 k]) ∧ Hid (n = (wO r).length) ∧ n ≤ 1024 ∧ OwnW w.heap.size w' ao n c (wO r) ∧ Below w.heap.size w w' := by
 have hl := fitR_len (val xs)
 refine cM (norm_calls a len cap xs w h hm) ?_
 rw [hr] at hl ⊢
 rintro e w' ⟨v, rfl, hA, hb⟩
 obtain ⟨ao, n, c, rfl, h1, h2, h3⟩ := hA.open hl
 exact ⟨ao, n, c, rfl, h1, h2, h3, hb⟩
theorem shl_eq {i : Int} (h : IsW w a len cap xs) (hm : len ≤ 17592186044416) {r : Nat} {k : Int} (hr : shlR (val xs) i = (r, k)) :
  Calls Tryz.prog 138 #[.slice a len cap, .int .i64 i] w fun e w' => ∃ (ao : Option Addr) (n c : Nat), e = .returned (.tuple #[.slice ao n c, .int .i64 k]) ∧ Hid (n = (wO r).length) ∧ n ≤ 1024 ∧ OwnW w.heap.size w' ao n c (wO r) ∧ Below w.heap.size w w' := by
 have hl := shlR_len (val xs) i
 refine cM (shl_calls a len cap xs i w h hm) ?_
 rw [hr] at hl ⊢
 rintro e w' ⟨v, rfl, hA, hb⟩
 obtain ⟨ao, n, c, rfl, h1, h2, h3⟩ := hA.open hl
 exact ⟨ao, n, c, rfl, h1, h2, h3, hb⟩
theorem shr_eq {i : Int} (h : IsW w a len cap xs) (hm : len ≤ 17592186044416) (hi : i ≤ 9223372036854775807) {r : Nat} {l : Bool} {k : Int} (hr : shrQ (val xs) i = r) (hr2 : shrL (val xs) i = l) (hr3 : shrE (val xs) i = k) :
  Calls Tryz.prog 137 #[.slice a len cap, .int .i64 i] w fun e w' => ∃ (ao : Option Addr) (n c : Nat), e = .returned (.tuple #[.slice ao n c, .bool l, .int .i64 k]) ∧ Hid (n = (wO r).length) ∧ n ≤ 1024 ∧ OwnW w.heap.size w' ao n c (wO r) ∧ Below w.heap.size w w' := by
 have hl := shrQ_len (val xs) i
 refine cM (shr_calls a len cap xs i w h hm hi) ?_
 rw [hr] at hl ⊢
 rw [hr2, hr3]
 rintro e w' ⟨v, rfl, hA, hb⟩
 obtain ⟨ao, n, c, rfl, h1, h2, h3⟩ := hA.open hl
 exact ⟨ao, n, c, rfl, h1, h2, h3, hb⟩
end
end Go.Proofs.YtahpdcbmekgkfaaGreatDoor

namespace Go.Proofs.YtahpdcbmekgkfaaGreatDoor
open Go.RowKit
set_option maxHeartbeats 400000
abbrev numV (s : Bool) (a : Option Addr) (n c : Nat) (e : Int) (g : Bool) : Value := .agg #[.bool s, .slice a n c, .int .i64 e, .bool g]
abbrev dyV (s : Bool) (a : Option Addr) (n c : Nat) (e : Int) : Value := .agg #[.bool s, .slice a n c, .int .i64 e]
theorem kC {W W' : World} (hb : Below W.heap.size W W') {p : Addr} {v : Value} (h : W.cell? p = some v) : W'.cell? p = some v := (hb.cell (World.block_lt_of_cell? _ _ h)).trans h
theorem kF {W W' : World} (hb : Below W.heap.size W W') {p : Addr} {v : Value} (h : W.cell? p = some v) (hf : W.frozen? p = false) : W'.frozen? p = false := (hb.frozen (World.block_lt_of_cell? _ _ h)).trans hf
theorem OwnW.far {B : Nat} {w : World} {a : Option Addr} {len cap : Nat} {xs : List Int} (h : OwnW B w a len cap xs) (p : Addr) (u : Value) (hp : p.block < B) : OwnW B (w.setCell p u) a len cap xs := by
 refine ⟨⟨h.1.1, h.1.2.1, h.1.2.2.1, fun i hi => ?_⟩, fun b off i e hi => ?_⟩
 ·obtain ⟨b, off, e1, e2, e3⟩ := h.1.2.2.2 i hi
  have hB := (h.2 b off i e1 hi).1
  exact ⟨b, off, e1, by simpa using e2, (World.cell?_setCell_other w _ _ _ (fun e => by have := congrArg Addr.block e; simp at this; omega)).trans e3⟩
 ·have := h.2 b off i e hi
  exact ⟨this.1, (World.frozen?_setCell w _ _ _).trans this.2⟩
theorem zero_num {w W' : World} {r : Nat} (hb : Below (w.alloc (.cells #[.bool false, .slice none 0 0, .int .i64 0, .bool false] 109)).heap.size (w.alloc (.cells #[.bool false, .slice none 0 0, .int .i64 0, .bool false] 109)) W') (hr : r = w.heap.size) :
  W'.cell? ⟨r, 0, none⟩ = some (.bool false) ∧ W'.cell? ⟨r, 1, none⟩ = some (.slice none 0 0) ∧ W'.cell? ⟨r, 2, none⟩ = some (.int .i64 0) ∧ W'.cell? ⟨r, 3, none⟩ = some (.bool false) ∧ W'.frozen? ⟨r, 0, none⟩ = false ∧ W'.frozen? ⟨r, 1, none⟩ = false ∧ W'.frozen? ⟨r, 2, none⟩ = false ∧ W'.frozen? ⟨r, 3, none⟩ = false := by
 subst hr
 exact ⟨kC hb (by go_simp), kC hb (by go_simp), kC hb (by go_simp), kC hb (by go_simp), kF hb (v := .bool false) (by go_simp) (by go_simp), kF hb (v := .slice none 0 0) (by go_simp) (by go_simp), kF hb (v := .int .i64 0) (by go_simp) (by go_simp), kF hb (v := .bool false) (by go_simp) (by go_simp)⟩
theorem zero_dy {w W' : World} {r : Nat} (hb : Below (w.alloc (.cells #[.bool false, .slice none 0 0, .int .i64 0] 25)).heap.size (w.alloc (.cells #[.bool false, .slice none 0 0, .int .i64 0] 25)) W') (hr : r = w.heap.size) :
  W'.cell? ⟨r, 0, none⟩ = some (.bool false) ∧ W'.cell? ⟨r, 1, none⟩ = some (.slice none 0 0) ∧ W'.cell? ⟨r, 2, none⟩ = some (.int .i64 0) ∧ W'.frozen? ⟨r, 0, none⟩ = false ∧ W'.frozen? ⟨r, 1, none⟩ = false ∧ W'.frozen? ⟨r, 2, none⟩ = false := by
 subst hr
 exact ⟨kC hb (by go_simp), kC hb (by go_simp), kC hb (by go_simp), kF hb (v := .bool false) (by go_simp) (by go_simp), kF hb (v := .slice none 0 0) (by go_simp) (by go_simp), kF hb (v := .int .i64 0) (by go_simp) (by go_simp)⟩
theorem inBounds_calls (e : Int) (w : World) : Calls Tryz.prog 178 #[.int .i64 e] w fun r w' => r = .returned (.bool (inB e)) ∧ w' = w := by
 by_cases h1 : -32768 ≤ e
 ·by_cases h2 : e ≤ 32768
  ·have h3 : Hid (inB e = true) := by unfold inB; simp [Hid, h1, h2]
   go_enter Tryz.func178, Tryz.ntmps178
   go_wp2
   go_ret
   exact ⟨nret_bool h3.out.symm, rfl⟩
  ·have h3 : Hid (inB e = false) := by unfold inB; simp [Hid, h1, h2]
   go_enter Tryz.func178, Tryz.ntmps178
   go_wp2
   go_ret
   exact ⟨nret_bool h3.out.symm, rfl⟩
 ·have h3 : Hid (inB e = false) := by unfold inB; simp [Hid, h1]
  go_enter Tryz.func178, Tryz.ntmps178
  go_wp2
  go_ret
  exact ⟨nret_bool h3.out.symm, rfl⟩
section
variable (s : Bool) (a : Option Addr) (n c : Nat) (e : Int) (g : Bool) (w : World)
theorem itself_calls : Calls Tryz.prog 124 #[numV s a n c e g] w fun r w' => r = .returned (numV s a n c e g) ∧ Below w.heap.size w w' := by
 go_enter Tryz.func124, Tryz.ntmps124
 go_wp2
 exact bodyPost_ret (v := numV s a n c e g) (by simp [results, Tryz.results124, go_sem]) rfl ⟨rfl, by repeat (first | exact Below.refl _ _ | refine Below.alloc ?_ (by simp; try omega) _)⟩
theorem hasRoom_calls : Calls Tryz.prog 149 #[numV s a n c e g] w fun r w' => r = .returned (.bool (!g && inB e)) ∧ w' = w.alloc (.cells #[.bool s, .slice a n c, .int .i64 e, .bool g] 109) := by
 cases g
 ·go_enter Tryz.func149, Tryz.ntmps149
  go_wp2_with fail
  refine Calls.mono (inBounds_calls e _) ?_
  rintro r w1 ⟨rfl, rfl⟩
  go_wp2_with fail
  go_ret
  exact ⟨rfl, rfl⟩
 ·go_enter Tryz.func149, Tryz.ntmps149
  go_wp2_with fail
  go_ret
  exact ⟨rfl, rfl⟩
theorem zero_calls : Calls Tryz.prog 153 #[numV s a n c e g] w fun r w' => r = .returned (.bool ((n : Int) == 0)) ∧ w' = w.alloc (.cells #[.bool s, .slice a n c, .int .i64 e, .bool g] 109) := by
 go_enter Tryz.func153, Tryz.ntmps153
 go_wp2
 go_ret
 exact ⟨rfl, rfl⟩
theorem negated_calls : Calls Tryz.prog 144 #[numV s a n c e g] w fun r w' => r = .returned (numV (!s && !((n : Int) == 0)) a n c e g) ∧ Below w.heap.size w w' := by
 cases s
 ·go_enter Tryz.func144, Tryz.ntmps144
  go_wp2_with fail
  refine Calls.mono (zero_calls _ _ _ _ _ _ _) ?_
  rintro r w1 ⟨rfl, rfl⟩
  go_wp2_with fail
  exact bodyPost_ret (v := numV (!((n : Int) == 0)) a n c e g) (by simp [results, Tryz.results144, go_sem]) rfl ⟨rfl, by repeat (first | exact Below.refl _ _ | refine Below.alloc ?_ (by simp; try omega) _)⟩
 ·go_enter Tryz.func144, Tryz.ntmps144
  go_wp2_with fail
  exact bodyPost_ret (v := numV false a n c e g) (by simp [results, Tryz.results144, go_sem]) rfl ⟨rfl, by repeat (first | exact Below.refl _ _ | refine Below.alloc ?_ (by simp; try omega) _)⟩
end
end Go.Proofs.YtahpdcbmekgkfaaGreatDoor

/- The walks of package nat, second part: copies, answers, how many bits, which is the greater, single bits. Plain facts on the words of binary64 numbers (fields, signs, the ladder of numbers, the total order, last bits): the functions that the walks speak of, and what Go's bit operations on uint64 come to; for every whole number from 0 to 2^64 - 1. The walks of package bits: what each of its functions answers, for every uint64, in whatever memory. The walks of package nat, third part: Norm, Of, Len, Low, Bit, Cmp. The walks of package nat, fourth part: Norm, Of, Len, Low, Bit, Cmp as they are called. Lists of words in memory: made, and one word set. The walks of package nat, fifth part: sums and differences of words. The walks of package nat, sixth part: sums and differences, word by word. The walks of package nat, seventh part: Add and Sub as they are called. -/
import Derived.Test.YtkkldnnndlpblaaGreatDoorTMA
import Derived.Test.YtkkldnnndlpblaaGreatDoorNShelf
import Derived.WalkKit
import Derived.Laws.BitsAllLaws
import Derived.Lib.TrailingZeros
import Derived.WalkSpells
import Derived.WalkLawsBesides
import Derived.Test.YtkkldnnndlpblaaGreatDoorRows
import Derived.Laws.OwnMore
import Derived.OwnWalk
import Derived.Laws.Externs
import Derived.Shelf.Spec.BitsCarry

namespace Go.Proofs.YtkkldnnndlpblaaGreatDoor
open Go.RowKit

/-- A natural in memory of the call's own, from block B on. -/
def NatAt (B : Nat) (w : World) (v : Value) (r : Nat) : Prop := ∃ (ao : Option Addr) (n c : Nat), v = .slice ao n c ∧ n = (wordsOf r).length ∧ OwnW B w ao n c (wordsOf r)

theorem natAt_nil (B : Nat) (w : World) : NatAt B w (.slice none 0 0) 0 := ⟨none, 0, 0, rfl, by rw [words_zero]; rfl, by rw [words_zero]; exact ownW_nil B w⟩

theorem NatAt.keep {B : Nat} {w w' : World} {v : Value} {r : Nat} (h : NatAt B w v r) (hb : Below w.heap.size w w') : NatAt B w' v r := by
  obtain ⟨ao, n, c, e1, e2, h3⟩ := h
  exact ⟨ao, n, c, e1, e2, h3.keep hb⟩

theorem NatAt.low {B B' : Nat} {w : World} {v : Value} {r : Nat} (h : NatAt B w v r) (hB : B' ≤ B) : NatAt B' w v r := by
  obtain ⟨ao, n, c, e1, e2, h3⟩ := h
  exact ⟨ao, n, c, e1, e2, h3.low hB⟩

theorem trimN_pack (a : Option Addr) (len cap : Nat) (xs : List Int) (w : World) (h : IsW w a len cap xs) (hm : len ≤ 17592186044416) :
    Calls Tryz.prog 87 #[.slice a len cap] w fun e w' => ∃ (a1 : Option Addr) (n : Nat), e = .returned (.slice a1 n n) ∧ n = (wordsOf (val xs)).length ∧ IsW w a1 n n (wordsOf (val xs)) ∧ w' = w := by
  refine Calls.mono (trimN_calls a len cap xs w h hm) ?_
  rintro e w' ⟨rfl, rfl⟩
  exact ⟨_, _, rfl, rfl, isW_trim h, rfl⟩

theorem trimW_pack (B : Nat) (a : Option Addr) (len cap : Nat) (xs : List Int) (w : World) (h : OwnW B w a len cap xs) (hm : len ≤ 17592186044416) :
    Calls Tryz.prog 119 #[.slice a len cap] w fun e w' => ∃ (a1 : Option Addr) (n : Nat), e = .returned (.slice a1 n n) ∧ n = (wordsOf (val xs)).length ∧ OwnW B w a1 n n (wordsOf (val xs)) ∧ w' = w := by
  refine Calls.mono (trimW_calls a len cap xs w h.1 hm) ?_
  rintro e w' ⟨rfl, rfl⟩
  exact ⟨_, _, rfl, rfl, ownW_trim h, rfl⟩

theorem words_le (xs : List Int) (h : AllU xs) : (wordsOf (val xs)).length ≤ xs.length := by have := size_words xs h; have := size_le xs; omega

theorem below_one (w : World) (o : Obj) : Below w.heap.size w (w.alloc o) := (Below.refl _ _).alloc (Nat.le_refl _) o

set_option maxHeartbeats 1000000 in
theorem copied_calls (a : Option Addr) (n : Nat) (xs : List Int) (w : World) (h : IsW w a n n xs) (hm : n ≤ 17592186044416) :
    Calls Tryz.prog 126 #[.slice a n n] w fun e w' => ∃ (ao : Option Addr) (cv : Nat), e = .returned (.slice ao n cv) ∧ OwnW w.heap.size w' ao n cv xs ∧ Below w.heap.size w w' := by
  obtain ⟨i0, hi, hz0, hz1, hz2⟩ := info_parts word_info
  have HL : Hid (n = xs.length) := h.1
  have HU : Hid (AllU xs) := h.2.1
  cases a with
  | none =>
    obtain rfl := h.2.2.1.2 rfl
    have hx : xs = [] := List.length_eq_zero_iff.1 HL.out.symm
    subst hx
    clear h
    go_enter Tryz.func126, Tryz.ntmps126
    go_wp2
    go_ret
    exact ⟨none, 0, rfl, ownW_nil _ _, by first | exact Below.refl _ _ | exact (Below.refl _ _).drew⟩
  | some ad =>
    have hnews : ∀ j u, (xs.map (Value.int .u64))[j]? = some u → w.cell? (ad.add j) = some u := by
      intro j u hj
      have hjl : j < n := by
        have := (List.getElem?_eq_some_iff.1 hj).1
        simp at this; have := HL.out; omega
      obtain ⟨b2, off2, e2, _, q2⟩ := h.2.2.2 j hjl
      simp only [Option.some.injEq] at e2
      subst e2
      have hu : u = .int .u64 (xs.getD j 0) := by
        simp only [List.getElem?_map] at hj
        have hj2 : xs[j]? = some (xs.getD j 0) := by
          rw [List.getElem?_eq_getElem (by have := HL.out; omega)]; simp [List.getD, show j < xs.length by have := HL.out; omega]
        rw [hj2] at hj
        simpa using hj.symm
      rw [hu]
      by_cases h00 : j = 0
      · subst h00; simpa [Addr.add] using q2
      · simpa [Addr.add, h00] using q2
    have HNEW : Hid _ := hnews
    clear hnews h
    go_enter Tryz.func126, Tryz.ntmps126
    go_wp2_with (at_builtin; refine wpList_append_own _ rfl _ _ 110 rfl w.heap.size 59 i0 (.int .u64 0) 1 8 Tryz.underlying110 hi hz0 hz1 hz2 rfl (by decide) _ _ _ rfl (World.ownsRow_nil _ _ _ _) ad n n (xs.map (Value.int .u64)) rfl (by rw [List.length_map, ← HL.out]; omega) HNEW.out (fun u hu => by simp only [List.mem_map] at hu; obtain ⟨y, _, rfl⟩ := hu; rfl) (by unfold maxLen; omega) (by omega) (by omega) ?_; intro v' w3 hown' hgrow3 hnil3)
    go_ret
    have hb3 : Below w.heap.size w w3 := (Below.refl _ _).grown hgrow3 (Nat.le_refl _) (fun q hq => by cases hq)
    have hO : ∃ ao cv, v' = .slice ao n cv ∧ Own w.heap.size w3 ao cv xs := by
      rcases hown'.2 with ⟨e1, e2⟩ | ⟨g3, cap3, cur, e1, r⟩
      · have hn0 : n = 0 := by omega
        have hx : xs = [] := List.length_eq_zero_iff.1 (by rw [← HL.out]; exact hn0)
        refine ⟨none, 0, by rw [e1, hn0], ?_⟩
        subst hx
        exact World.ownsRow_nil _ _ _ _
      · rw [Nat.zero_add] at e1
        refine ⟨some ⟨g3, 0, none⟩, cap3, e1, ?_⟩
        unfold Own
        rw [← HL.out, ← e1]
        simpa using hown'
    obtain ⟨ao, cv, e1, hO⟩ := hO
    exact ⟨ao, cv, by rw [e1]; rfl, hO.ownW HU.out HL.out.symm, hb3⟩

set_option maxHeartbeats 1000000 in
theorem answer_calls (B : Nat) (a : Option Addr) (len cap : Nat) (xs : List Int) (w : World) (h : OwnW B w a len cap xs) (hm : len ≤ 17592186044416) :
    Calls Tryz.prog 80 #[.slice a len cap] w fun e w' => ∃ v, e = .returned (.tuple #[v, .int .i64 (fitR (val xs)).2]) ∧ NatAt B w' v (fitR (val xs)).1 ∧ Below w.heap.size w w' := by
  have HT := trimW_pack B a len cap xs w h hm
  go_enter Tryz.func80, Tryz.ntmps80
  go_wp2_with fail
  refine Calls.mono HT ?_
  rintro e w ⟨a1, n, rfl, hn, hO, rfl⟩
  have HN : Hid (n = (wordsOf (val xs)).length) := hn
  clear hn HT h hm
  go_wp2_with fail
  refine Calls.mono (great1_calls _ a1 n n _ (by go_simp)) ?_
  rintro e w1 ⟨rfl, rfl⟩
  by_cases hg : 1024 < n
  · have e0 : Hid (greatB (val xs) = true) := by rw [Hid, greatB, ← HN.out]; simpa using hg
    go_wp2_with fail
    go_ret2
    rw [fitR_yes e0.out]
    exact ⟨_, rfl, natAt_nil _ _, below_one _ _⟩
  · have e0 : Hid (greatB (val xs) = false) := by rw [Hid, greatB, ← HN.out]; simpa using hg
    go_wp2_with fail
    go_ret2
    rw [fitR_no e0.out]
    exact ⟨_, rfl, ⟨a1, n, n, rfl, HN.out, hO.keep (below_one _ _)⟩, below_one _ _⟩

set_option maxHeartbeats 1000000 in
theorem bits_calls (a : Option Addr) (n : Nat) (v : Nat) (w : World) (h : IsW w a n n (wordsOf v)) (hm : n ≤ 17592186044416) :
    Calls Tryz.prog 79 #[.slice a n n] w fun e w' => e = .returned (.int .i64 (blen v)) ∧ w' = w := by
  have HL : Hid (n = (wordsOf v).length) := h.1
  by_cases h0 : v = 0
  · subst h0
    have : n = 0 := by rw [HL.out, words_zero]; rfl
    subst this
    have e0 : Hid (blen 0 = 0) := blen_zero
    clear h HL
    go_enter Tryz.func79, Tryz.ntmps79
    go_wp2_with fail
    go_ret
    exact ⟨nret_int (by rw [e0.out]; rfl), rfl⟩
  · have hT : Hid _ := blen_top v h0
    have hlp : 0 < n := by
      rcases Nat.eq_zero_or_pos n with h1 | h1
      · exact absurd ((words_nil _).1 (List.length_eq_zero_iff.1 (by rw [← HL.out]; exact h1))) h0
      · exact h1
    obtain ⟨m, rfl⟩ : ∃ m, n = m + 1 := ⟨n - 1, by omega⟩
    have hg := (words_U v).get m
    obtain ⟨b, off, ha, _, hc⟩ := h.2.2.2 m (by omega)
    subst ha
    rw [← HL.out, show m + 1 - 1 = m by omega] at hT
    obtain ⟨x, hx⟩ : ∃ x, x = (wordsOf v).getD m 0 := ⟨_, rfl⟩
    rw [← hx] at hc hT hg
    have hbl : Lib.bitLen x.toNat = blen x.toNat := blen_lib _ (by have : (2 : Nat) ^ 64 = 18446744073709551616 := rfl; omega)
    have hbt : Lib.bitLen x.toNat ≤ 64 := by rw [hbl, blen_le]; have : (2 : Nat) ^ 64 = 18446744073709551616 := rfl; omega
    have hV : Hid (blen v = 64 * m + Lib.bitLen x.toNat) := by rw [hbl]; exact hT
    clear hT hbl h hx h0 HL
    go_enter Tryz.func79, Tryz.ntmps79
    go_wp2_with fail
    refine Calls.mono (Tryz.bits_LeadingZeros64 _ _ hg.1 hg.2) ?_
    rintro e w ⟨rfl, rfl⟩
    go_wp2_with fail
    go_ret
    exact ⟨nret_int (by rw [hV.out]; omega), rfl⟩


/-- A uint64. -/
def U (x : Int) : Prop := 0 ≤ x ∧ x ≤ 18446744073709551615

def absV (x : Int) : Int := x % 9223372036854775808

def expV (x : Int) : Int := x / 4503599627370496 % 2048

def fracV (x : Int) : Int := x % 4503599627370496

def sgnB (x : Int) : Bool := decide (9223372036854775808 ≤ x)

def finB (x : Int) : Bool := decide (x % 9223372036854775808 < 9218868437227405312)

def unitV (x : Int) : Int := if expV x = 0 then -1074 else expV x - 1075

def countV (x : Int) : Int := if expV x = 0 then fracV x else fracV x + 4503599627370496

def tzV (x : Int) : Int := (Lib.ctz 64 x.toNat : Int)

def lowV (x : Int) : Int := if countV x = 0 then 0 else unitV x + tzV (countV x)

def lowB (x : Int) : Bool := decide (countV x = 0)

def wholeB (x : Int) : Bool := finB x && (lowB x || decide (0 ≤ lowV x))

/-! ### bit operations -/
theorem and_sign (x : Int) (h : U x) : bits .and .u64 x 9223372036854775808 = if 9223372036854775808 ≤ x then 9223372036854775808 else 0 := by
  obtain ⟨h0, h1⟩ := h
  obtain ⟨n, rfl⟩ := Int.eq_ofNat_of_zero_le h0
  rw [u64_and _ _ h0 (by omega) (by omega) (by omega)]
  have e := nat_bit 63 n
  have k : (2 : Nat) ^ 63 = 9223372036854775808 := by decide
  rw [k] at e
  simp only [Int.reduceToNat, Int.toNat_natCast]
  rw [e]
  split <;> omega

theorem and_frac (x : Int) (h : U x) : bits .and .u64 x 4503599627370495 = fracV x := by
  obtain ⟨h0, h1⟩ := h
  obtain ⟨n, rfl⟩ := Int.eq_ofNat_of_zero_le h0
  rw [u64_and _ _ h0 (by omega) (by omega) (by omega)]
  simp only [Int.reduceToNat, Int.toNat_natCast, nat_mask52, fracV]
  omega

theorem and_exp (x : Int) (h : U x) : bits .and .u64 (x / 4503599627370496) 2047 = expV x := by
  obtain ⟨h0, h1⟩ := h
  obtain ⟨n, hn⟩ := Int.eq_ofNat_of_zero_le (show 0 ≤ x / 4503599627370496 by omega)
  rw [u64_and _ _ (by omega) (by omega) (by omega) (by omega), expV, hn]
  simp only [Int.reduceToNat, Int.toNat_natCast, nat_mask11]
  omega

theorem andNot_sign (x : Int) (h : U x) : bits .andNot .u64 x 9223372036854775808 = absV x := by
  obtain ⟨h0, h1⟩ := h
  obtain ⟨n, rfl⟩ := Int.eq_ofNat_of_zero_le h0
  rw [u64_andNot _ _ h0 (by omega) (by omega) (by omega)]
  have e := Nat.and_two_pow_sub_one_eq_mod n 63
  have k : (2 : Nat) ^ 63 - 1 = 9223372036854775807 := by decide
  have k' : (2 : Nat) ^ 63 = 9223372036854775808 := by decide
  rw [k, k'] at e
  simp only [Int.reduceToNat, Int.toNat_natCast, Nat.reduceSub, absV]
  rw [e]
  omega

theorem or_hidden (f : Int) (h0 : 0 ≤ f) (h1 : f < 4503599627370496) : bits .or .u64 f 4503599627370496 = f + 4503599627370496 := by
  obtain ⟨n, rfl⟩ := Int.eq_ofNat_of_zero_le h0
  rw [u64_or _ _ h0 (by omega) (by omega) (by omega)]
  have k : (4503599627370496 : Nat) = 2 ^ 52 := by decide
  simp only [Int.reduceToNat, Int.toNat_natCast]
  rw [Nat.or_comm, k, nat_join 52 (2 ^ 52) n (by decide) (by rw [← k]; omega), ← k]
  omega

/-! ### bounds -/
theorem fracV_bd (x : Int) : 0 ≤ fracV x ∧ fracV x < 4503599627370496 := by unfold fracV; omega

theorem expV_bd (x : Int) : 0 ≤ expV x ∧ expV x ≤ 2047 := by unfold expV; omega

theorem countV_bd (x : Int) : 0 ≤ countV x ∧ countV x < 9007199254740992 := by
  have := fracV_bd x; unfold countV; split <;> omega

theorem countV_U (x : Int) : U (countV x) := by have := countV_bd x; unfold U; omega

theorem unitV_bd (x : Int) : -1074 ≤ unitV x ∧ unitV x ≤ 972 := by have := expV_bd x; unfold unitV; split <;> omega

theorem tzV_bd (x : Int) (h : U x) : 0 ≤ tzV x ∧ tzV x ≤ 64 := by
  unfold tzV
  refine ⟨by omega, ?_⟩
  by_cases h0 : x.toNat = 0
  · rw [h0]; decide
  · have := (Lib.lowest_bit 64 x.toNat h0 (by unfold U at h; have : (2 : Nat) ^ 64 = 18446744073709551616 := by decide
                                              omega)).2
    omega


/-- The table of math/bits in its variable. -/
def Tab (w : World) : Prop := 5 < w.heap.size ∧ ∀ j, j < 64 → w.cell? ⟨5, j, none⟩ = some (.int .u8 (Lib.deBruijn64tab.getD j 0))

theorem Tab.kept {w w' : World} (h : Tab w) (hb : Below w.heap.size w w') : Tab w' :=
  ⟨Nat.lt_of_lt_of_le h.1 hb.size, fun j hj => by rw [hb.cell (p := ⟨5, j, none⟩) h.1]; exact h.2 j hj⟩

theorem below_trans {a b c : World} (h : Below a.heap.size a b) (k : Below b.heap.size b c) : Below a.heap.size a c := h.trans (k.mono h.size)

theorem below_alloc (w : World) (o : Obj) : Below w.heap.size w (w.alloc o) := (Below.refl _ _).alloc (Nat.le_refl _) o

theorem ret_int {k : IntKind} {a b : Int} (h : a = b) : Ending.returned (.int k a) = .returned (.int k b) := by rw [h]

theorem ret_bool {a b : Bool} (h : a = b) : Ending.returned (.bool a) = .returned (.bool b) := by rw [h]

theorem tz_key (x a : Nat) (hx : x < 18446744073709551616) (hx0 : x ≠ 0) (hlow : x &&& (18446744073709551616 - x) = a) :
    IntKind.u64.wrap (bits BinOp.and IntKind.u64 (x : Int) (IntKind.u64.wrap (-(x : Int))) * 285870213051353865) / 288230376151711744 = ((a * 285870213051353865 % 18446744073709551616 / 288230376151711744 : Nat) : Int) := by
  have e1 : IntKind.u64.wrap (-(x : Int)) = ((18446744073709551616 - x : Nat) : Int) := by rw [IntKind.wrap_u64]; omega
  rw [e1, u64_and_nat x _ hx (by omega), hlow, IntKind.wrap_u64]
  omega

set_option maxHeartbeats 1000000 in
theorem tz_core (x k idx : Nat) (w : World) (hx0 : ((x : Int) == 0) = false)
    (key : IntKind.u64.wrap (bits BinOp.and IntKind.u64 (x : Int) (IntKind.u64.wrap (-(x : Int))) * 285870213051353865) / 288230376151711744 = (idx : Int))
    (hi : idx < 64) (hk : k < 64) (hcell : w.cell? ⟨5, idx, none⟩ = some (.int .u8 k)) :
    Calls Tryz.prog 188 #[.int .u64 x] w fun e w' => e = .returned (.int .i64 k) ∧ w' = w := by
  go_enter Tryz.func188, Tryz.ntmps188
  go_wp2_with (simp only [key])
  go_ret
  exact ⟨rfl, rfl⟩

set_option maxHeartbeats 400000 in
theorem tz_calls (x : Int) (w : World) (h0 : 0 < x) (h1 : x ≤ 18446744073709551615) (hT : Tab w) :
    Calls Tryz.prog 188 #[.int .u64 x] w fun e w' => e = .returned (.int .i64 (tzV x)) ∧ w' = w := by
  obtain ⟨n, rfl⟩ := Int.eq_ofNat_of_zero_le (show 0 ≤ x by omega)
  have hn0 : n ≠ 0 := by omega
  obtain ⟨hlow, hk⟩ := Lib.lowest_bit 64 n hn0 (by have : (2 : Nat) ^ 64 = 18446744073709551616 := by decide
                                                   omega)
  obtain ⟨hi, htab⟩ := Lib.deBruijn64_at _ hk
  have hcell := hT.2 _ hi
  rw [htab] at hcell
  unfold tzV
  rw [Int.toNat_natCast]
  exact tz_core n _ _ w (by simp; omega) (tz_key n _ (by omega) hn0 hlow) hi hk hcell


set_option maxHeartbeats 400000 in
theorem compareU_calls (x y : Int) (w : World) :
    Calls Tryz.prog 166 #[.int .u64 x, .int .u64 y] w fun e w' => e = .returned (.int .i64 (Lib.compareInt x y)) ∧ w' = w := by
  by_cases c1 : x < y
  · have HV : Hid (Lib.compareInt x y = -1) := by rw [Hid, Lib.compareInt, if_pos c1]
    go_enter Tryz.func166, Tryz.ntmps166
    go_wp2
    go_ret
    exact ⟨nret_int HV.out.symm, rfl⟩
  · by_cases c2 : y < x
    · have HV : Hid (Lib.compareInt x y = 1) := by rw [Hid, Lib.compareInt, if_neg c1, if_pos c2]
      go_enter Tryz.func166, Tryz.ntmps166
      go_wp2
      go_ret
      exact ⟨nret_int HV.out.symm, rfl⟩
    · have HV : Hid (Lib.compareInt x y = 0) := by rw [Hid, Lib.compareInt, if_neg c1, if_neg c2]
      go_enter Tryz.func166, Tryz.ntmps166
      go_wp2
      go_ret
      exact ⟨nret_int HV.out.symm, rfl⟩

theorem cmp_len (u v : Nat) (h : (wordsOf u).length ≠ (wordsOf v).length) : Lib.compareInt ((wordsOf u).length : Nat) ((wordsOf v).length : Nat) = cmpN u v := by
  have k1 := words_len (wordsOf u).length
  have k2 := words_len (wordsOf v).length
  have a1 := (k1 u).1 (Nat.le_refl _)
  have a2 := (k2 v).1 (Nat.le_refl _)
  have b1 := k1 v
  have b2 := k2 u
  unfold Lib.compareInt cmpN
  by_cases c : (wordsOf u).length < (wordsOf v).length
  · have : ¬ v < 18446744073709551616 ^ (wordsOf u).length := fun q => by have := b1.2 q; omega
    rw [if_pos (by omega), if_pos (by omega)]
  · have : ¬ u < 18446744073709551616 ^ (wordsOf v).length := fun q => by have := b2.2 q; omega
    rw [if_neg (by omega), if_pos (by omega), if_neg (by omega), if_pos (by omega)]

set_option maxRecDepth 100000 in
set_option maxHeartbeats 1000000 in
theorem against_calls (a a' : Option Addr) (n n' : Nat) (u v : Nat) (w : World) (h : IsW w a n n (wordsOf u)) (h' : IsW w a' n' n' (wordsOf v)) (hm : n ≤ 17592186044416) (hm' : n' ≤ 17592186044416) :
    Calls Tryz.prog 139 #[.slice a n n, .slice a' n' n'] w fun e w' => e = .returned (.int .i64 (cmpN u v)) ∧ Below w.heap.size w w' := by
  by_cases hl : n = n'
  · subst hl
    have hx1 : (wordsOf u).length ≤ n := by have := h.1; omega
    have hy1 : (wordsOf v).length ≤ n := by have := h'.1; omega
    have C : Hid _ := cmp_top (wordsOf u) (wordsOf v) h.2.1 h'.2.1
    have E : Hid (SameFrom (wordsOf u) (wordsOf v) 0 → cmpN u v = 0) := fun hs => by have := cmp_same _ _ hs n hx1 hy1; rwa [val_words, val_words] at this
    have X1 : Hid ((wordsOf u).length ≤ n) := hx1
    have Y1 : Hid ((wordsOf v).length ≤ n) := hy1
    have S : Hid (SameFrom (wordsOf u) (wordsOf v) n) := fun i hi => by
      rw [show (wordsOf u).getD i 0 = 0 by simp [List.getD, show ¬ i < (wordsOf u).length by omega], show (wordsOf v).getD i 0 = 0 by simp [List.getD, show ¬ i < (wordsOf v).length by omega]]
    clear hx1 hy1
    go_enter Tryz.func139, Tryz.ntmps139
    go_wp2_with fail
    go_loopw [5] (fun q wr => ∃ k : Nat, k ≤ n ∧ q = .int .i64 ((k : Int) - 1) ∧ SameFrom (wordsOf u) (wordsOf v) k ∧ IsW wr a n n (wordsOf u) ∧ IsW wr a' n n (wordsOf v) ∧ Below w.heap.size w wr) (fun q _ => (intOf q + 1).toNat)
    case atStart => exact ⟨n, by omega, rfl, S.out, h, h', Below.refl _ _⟩
    case round =>
      obtain ⟨k, hk, rfl, hs, hW, hW', hbr⟩ := hrel
      clear h h'
      have HS : Hid (SameFrom (wordsOf u) (wordsOf v) k) := hs
      clear hs
      cases k with
      | zero =>
        have HV : Hid (cmpN u v = 0) := E.out HS.out
        go_wp2_with fail
        go_ret
        exact ⟨nret_int HV.out.symm, hbr⟩
      | succ k =>
        have D : Hid _ := C.out k n (by omega) X1.out Y1.out HS.out
        obtain ⟨b, off, ha, _, hc⟩ := hW.2.2.2 k (by omega)
        obtain ⟨b', off', ha', _, hc'⟩ := hW'.2.2.2 k (by omega)
        obtain ⟨x, hx⟩ : ∃ x, x = (wordsOf u).getD k 0 := ⟨_, rfl⟩
        obtain ⟨y, hy⟩ : ∃ y, y = (wordsOf v).getD k 0 := ⟨_, rfl⟩
        rw [← hx] at hc
        rw [← hy] at hc'
        have D' : Hid ((x < y → cmpN u v = -1) ∧ (y < x → cmpN u v = 1)) := by
          have := D.out; rw [val_words, val_words] at this
          rw [Hid, hx, hy]; exact this
        have HX : Hid (x = (wordsOf u).getD k 0) := hx
        have HY : Hid (y = (wordsOf v).getD k 0) := hy
        have ek : (((k + 1 : Nat) : Int) - 1) = (k : Int) := by omega
        rw [ek]
        subst ha ha'
        clear hx hy D
        by_cases hxy : x = y
        · have d : (x != y) = false := by simp [hxy]
          have HS' : Hid (SameFrom (wordsOf u) (wordsOf v) k) := fun i hi => by
            by_cases e : i = k
            · rw [e, ← HX.out, ← HY.out]; exact hxy
            · exact HS.out i (by omega)
          clear hxy
          go_wp2_with fail
          go_quiet (fail)
          go_wp2_with fail
          go_roundw
          case rel => exact ⟨k, by omega, by first | rfl | go_num, HS'.out, hW, hW', below_drewN hbr nq⟩
          case measure => simp [intOf]
        · have d : (x != y) = true := by simp [hxy]
          have HV : Hid (Lib.compareInt x y = cmpN u v) := by
            rw [Hid, Lib.compareInt]
            by_cases c : x < y
            · rw [if_pos c, D'.out.1 c]
            · rw [if_neg c, if_pos (by omega), D'.out.2 (by omega)]
          clear hxy
          go_wp2_with fail
          go_quiet (fail)
          have hb2 := below_drewN hbr nq
          have hc2 : (wr.drewN nq).cell? ⟨b, off + k, none⟩ = some (.int .u64 x) := hc
          have hc2' : (wr.drewN nq).cell? ⟨b', off' + k, none⟩ = some (.int .u64 y) := hc'
          generalize wr.drewN nq = w2 at hb2 hc2 hc2' ⊢
          clear hc hc' hW hW' hbr
          go_wp2_with fail
          go_quiet ((go_at_call 166; exact Calls.quiet_of_same (compareU_calls _ _ _)))
          go_wp2_with fail
          go_ret
          exact ⟨nret_int HV.out, below_drewN hb2 _⟩
  · have d : ((n : Int) != (n' : Int)) = true := by simp; omega
    have HV : Hid (Lib.compareInt n n' = cmpN u v) := by
      have e1 := h.1; have e2 := h'.1
      rw [Hid, e1, e2]; exact cmp_len u v (by omega)
    clear hl
    go_enter Tryz.func139, Tryz.ntmps139
    go_wp2_with fail
    refine Calls.mono (Tryz.cmp_Compare_int _ _ _) ?_
    rintro e w ⟨rfl, rfl⟩
    go_wp2_with fail
    go_ret
    exact ⟨nret_int HV.out, Below.refl _ _⟩


theorem great_of_len {v n : Nat} (hn : n = (wordsOf v).length) (h : 1024 < n) : greatB v = true := by rw [greatB, ← hn]; simpa using h

theorem fit_of_len {v n : Nat} (hn : n = (wordsOf v).length) (h : ¬ 1024 < n) : greatB v = false := by rw [greatB, ← hn]; simpa using h

set_option maxHeartbeats 400000 in
theorem word_calls (x : Int) (w : World) (h0 : 0 ≤ x) (h1 : x ≤ 18446744073709551615) :
    Calls Tryz.prog 82 #[.int .u64 x] w fun e w' => ∃ (ao : Option Addr) (n : Nat), e = .returned (.slice ao n n) ∧ n = (wordsOf x.toNat).length ∧ OwnW w.heap.size w' ao n n (wordsOf x.toNat) ∧ Below w.heap.size w w' := by
  have hv : val [x] = x.toNat := by simp [val]
  have hW : OwnW w.heap.size (w.alloc (.cells #[.int .u64 x] 59)) (some ⟨w.heap.size, 0, none⟩) 1 1 [x] := by
    refine ⟨⟨rfl, fun y hy => ?_, ⟨Nat.le_refl _, fun e => by cases e⟩, fun i hi => ?_⟩, fun b off i e hi => ?_⟩
    · simp at hy; subst hy; exact ⟨h0, h1⟩
    · obtain rfl : i = 0 := by omega
      exact ⟨w.heap.size, 0, rfl, by simp, by go_simp⟩
    · simp only [Option.some.injEq, Addr.mk.injEq, and_true] at e
      obtain ⟨rfl, rfl⟩ := e
      exact ⟨Nat.le_refl _, by go_simp⟩
  have HO : Hid _ := ownW_trim hW
  have HT : Hid _ := trimL_calls _ _ _ [x] _ hW.1 (by omega)
  rw [hv] at HO HT
  go_enter Tryz.func82, Tryz.ntmps82
  go_wp2_with fail
  refine Calls.mono HT.out ?_
  rintro e w1 ⟨rfl, rfl⟩
  go_wp2_with fail
  go_ret
  exact ⟨_, _, rfl, rfl, HO.out, below_one _ _⟩

set_option maxHeartbeats 400000 in
theorem of_calls (x : Int) (w : World) (h0 : 0 ≤ x) (h1 : x ≤ 18446744073709551615) :
    Calls Tryz.prog 43 #[.int .u64 x] w fun e w' => ∃ v, e = .returned v ∧ NatAt w.heap.size w' v x.toNat ∧ Below w.heap.size w w' := by
  go_enter Tryz.func43, Tryz.ntmps43
  go_wp2_with fail
  refine Calls.mono (word_calls x w h0 h1) ?_
  rintro e w1 ⟨ao, n, rfl, hn, hO, hb⟩
  have HN : Hid (n = (wordsOf x.toNat).length) := hn
  clear hn
  go_wp2_with fail
  go_ret
  exact ⟨_, rfl, ⟨ao, n, n, rfl, HN.out, hO⟩, hb⟩

set_option maxHeartbeats 1000000 in
theorem len_calls (a : Option Addr) (len cap : Nat) (xs : List Int) (w : World) (h : IsW w a len cap xs) (hm : len ≤ 17592186044416) :
    Calls Tryz.prog 83 #[.slice a len cap] w fun e w' => (greatB (val xs) = true → e = .returned (.tuple #[.int .i64 0, .int .i64 3])) ∧ (greatB (val xs) = false → e = .returned (.tuple #[.int .i64 (blen (val xs)), .int .i64 0])) ∧ Below w.heap.size w w' := by
  have HT := trimN_pack a len cap xs w h hm
  go_enter Tryz.func83, Tryz.ntmps83
  go_wp2_with fail
  refine Calls.mono HT ?_
  rintro e w ⟨a1, n, rfl, hn, hI, rfl⟩
  have HN : Hid (n = (wordsOf (val xs)).length) := hn
  clear hn HT h hm
  go_wp2_with fail
  refine Calls.mono (great1_calls _ a1 n n _ (by go_simp)) ?_
  rintro e w1 ⟨rfl, rfl⟩
  by_cases hg : 1024 < n
  · have e0 : Hid (greatB (val xs) = true) := great_of_len HN.out hg
    go_wp2_with fail
    go_ret2
    exact ⟨fun _ => rfl, (fun q => by rw [e0.out] at q; cases q), below_one _ _⟩
  · have e0 : Hid (greatB (val xs) = false) := fit_of_len HN.out hg
    go_wp2_with fail
    refine Calls.mono (bits_calls a1 n (val xs) _ (hI.keep (below_one _ _)) (by omega)) ?_
    rintro e w2 ⟨rfl, rfl⟩
    go_wp2_with fail
    go_ret2
    exact ⟨(fun q => by rw [e0.out] at q; cases q), fun _ => rfl, below_one _ _⟩

theorem tz_at (v k : Nat) (x : Int) (hx : x = (wordsOf v).getD k 0) (h0 : 0 < x) (hz : ∀ i, i < k → (wordsOf v).getD i 0 = 0) : tz v = k * 64 + tz x.toNat := by
  have hg := (words_U v).get k
  have hl : val ((wordsOf v).take k) = 0 := by
    rw [← low_take]
    have : ∀ j, j ≤ k → low (wordsOf v) j = 0 := fun j => by
      induction j with
      | zero => intro _; rfl
      | succ j ih => intro hj; show low (wordsOf v) j + _ = 0; rw [ih (by omega), hz j (by omega)]; simp
    exact this k (Nat.le_refl _)
  have hk : k < (wordsOf v).length := by
    rcases Nat.lt_or_ge k (wordsOf v).length with h | h
    · exact h
    · rw [show (wordsOf v).getD k 0 = 0 by simp [List.getD, h]] at hx; omega
  have e := val_split (wordsOf v) (k + 1)
  rw [val_words, val_take_succ _ k hk, hl, ← hx, Nat.zero_add, two64, two64, Nat.min_eq_left (by omega)] at e
  have e2 : v = 2 ^ (64 * k) * (x.toNat + 2 ^ 64 * val ((wordsOf v).drop (k + 1))) := by
    rw [Nat.mul_add, ← Nat.mul_assoc, ← Nat.pow_add, show 64 * k + 64 = 64 * (k + 1) by omega]; exact e
  rw [e2, tz_shift _ _ (by omega), tz_low 64 x.toNat _ (by omega) (by have : (2 : Nat) ^ 64 = 18446744073709551616 := rfl; omega)]; omega

set_option maxRecDepth 100000 in
set_option maxHeartbeats 1000000 in
theorem low_calls (a : Option Addr) (len cap : Nat) (xs : List Int) (w : World) (h : IsW w a len cap xs) (hm : len ≤ 17592186044416) (hT : Tab w) :
    Calls Tryz.prog 174 #[.slice a len cap] w fun e w' => (greatB (val xs) = true → e = .returned (.tuple #[.int .i64 0, .int .i64 3])) ∧ (greatB (val xs) = false → e = .returned (.tuple #[.int .i64 (tz (val xs)), .int .i64 0])) ∧ Below w.heap.size w w' := by
  have HT := trimN_pack a len cap xs w h hm
  go_enter Tryz.func174, Tryz.ntmps174
  go_wp2_with fail
  refine Calls.mono HT ?_
  rintro e w ⟨a1, n, rfl, hn, hI, rfl⟩
  have HN : Hid (n = (wordsOf (val xs)).length) := hn
  clear hn HT h hm
  go_wp2_with fail
  refine Calls.mono (great1_calls _ a1 n n _ (by go_simp)) ?_
  rintro e w1 ⟨rfl, rfl⟩
  by_cases hg : 1024 < n
  · have e0 : Hid (greatB (val xs) = true) := great_of_len HN.out hg
    go_wp2_with fail
    go_ret2
    exact ⟨fun _ => rfl, (fun q => by rw [e0.out] at q; cases q), below_one _ _⟩
  · have e0 : Hid (greatB (val xs) = false) := fit_of_len HN.out hg
    have hb := below_one w (.cells #[.slice a1 n n] 110)
    have hI2 := hI.keep hb
    have hT2 := hT.kept hb
    generalize w.alloc (.cells #[.slice a1 n n] 110) = w1 at hb hI2 hT2 ⊢
    clear hI hT
    go_wp2_with fail
    go_loop [14] (fun q => ∃ k : Nat, k ≤ n ∧ q = .int .i64 k ∧ ∀ i, i < k → (wordsOf (val xs)).getD i 0 = 0) (fun q => n - (intOf q).toNat)
    case atStart => exact ⟨0, by omega, rfl, fun i hi => by omega⟩
    case round =>
      obtain ⟨k, hk, rfl, hz⟩ := hrel
      have HZ : Hid (∀ i, i < k → (wordsOf (val xs)).getD i 0 = 0) := hz
      clear hz
      by_cases hlt : k < n
      · obtain ⟨b, off, ha, _, hc⟩ := hI2.2.2.2 k hlt
        subst ha
        have hgx := (words_U (val xs)).get k
        obtain ⟨x, hx⟩ : ∃ x, x = (wordsOf (val xs)).getD k 0 := ⟨_, rfl⟩
        rw [← hx] at hc hgx
        by_cases h0 : x = 0
        · have d0 : (x != 0) = false := by simp [h0]
          have HZ' : Hid (∀ i, i < k + 1 → (wordsOf (val xs)).getD i 0 = 0) := fun i hi => by
            by_cases e : i = k
            · rw [e, ← hx, h0]
            · exact HZ.out i (by omega)
          clear hx h0
          go_wp2_with fail
          go_round
          case rel => exact ⟨k + 1, by omega, by go_num, HZ'.out⟩
          case measure => simp [intOf]; omega
        · have d0 : (x != 0) = true := by simp [h0]
          have HV : Hid _ := tz_at (val xs) k x hx (by omega) HZ.out
          have HZV : Hid (tzV x = tz x.toNat) := by
            rw [Hid, tzV, tz_lib x.toNat (by omega) (by have : (2 : Nat) ^ 64 = 18446744073709551616 := rfl; omega)]
          have hbd := tzV_bd x hgx
          have hp : 0 < x := by omega
          clear hx h0
          go_wp2_with fail
          refine Calls.mono (tz_calls x w1 hp hgx.2 hT2) ?_
          rintro e w1 ⟨rfl, rfl⟩
          go_wp2_with fail
          go_ret2
          exact ⟨(fun q => by rw [e0.out] at q; cases q), (fun _ => by rw [HV.out, HZV.out]; go_num), hb⟩
      · have HV : Hid (tz (val xs) = 0) := by
          by_cases hv : val xs = 0
          · rw [Hid, hv, tz_zero]
          · have h1 := words_last _ hv
            have h2 : 0 < (wordsOf (val xs)).length := by
              rcases Nat.eq_zero_or_pos (wordsOf (val xs)).length with h1 | h1
              · exact absurd ((words_nil _).1 (List.length_eq_zero_iff.1 h1)) hv
              · exact h1
            exact absurd (HZ.out _ (by have := HN.out; omega)) h1
        go_wp2_with fail
        go_ret2
        exact ⟨(fun q => by rw [e0.out] at q; cases q), (fun _ => by rw [HV.out]; rfl), hb⟩

set_option maxHeartbeats 1000000 in
theorem withCount_calls (a : Option Addr) (len cap : Nat) (xs : List Int) (i : Int) (w : World) (h : IsW w a len cap xs) (hm : len ≤ 17592186044416) :
    Calls Tryz.prog 78 #[.slice a len cap, .int .i64 i] w fun e w' => (greatB (val xs) = true → e = .returned (.tuple #[.slice none 0 0, .int .i64 3])) ∧ (greatB (val xs) = false → i < 0 → e = .returned (.tuple #[.slice none 0 0, .int .i64 2])) ∧ (greatB (val xs) = false → 0 ≤ i → ∃ (a1 : Option Addr) (n : Nat), e = .returned (.tuple #[.slice a1 n n, .int .i64 0]) ∧ n = (wordsOf (val xs)).length ∧ n ≤ 1024 ∧ IsW w' a1 n n (wordsOf (val xs))) ∧ Below w.heap.size w w' := by
  have HT := trimN_pack a len cap xs w h hm
  go_enter Tryz.func78, Tryz.ntmps78
  go_wp2_with fail
  refine Calls.mono HT ?_
  rintro e w ⟨a1, n, rfl, hn, hI, rfl⟩
  have HN : Hid (n = (wordsOf (val xs)).length) := hn
  clear hn HT h hm
  go_wp2_with fail
  refine Calls.mono (great1_calls _ a1 n n _ (by go_simp)) ?_
  rintro e w1 ⟨rfl, rfl⟩
  by_cases hg : 1024 < n
  · have e0 : Hid (greatB (val xs) = true) := great_of_len HN.out hg
    go_wp2_with fail
    go_ret2
    exact ⟨fun _ => rfl, (fun q => by rw [e0.out] at q; cases q), (fun q => by rw [e0.out] at q; cases q), below_one _ _⟩
  · have e0 : Hid (greatB (val xs) = false) := fit_of_len HN.out hg
    by_cases hi : i < 0
    · go_wp2_with fail
      go_ret2
      exact ⟨(fun q => by rw [e0.out] at q; cases q), fun _ _ => rfl, (fun _ q => by omega), below_one _ _⟩
    · go_wp2_with fail
      go_ret2
      exact ⟨(fun q => by rw [e0.out] at q; cases q), (fun _ q => by omega), (fun _ _ => ⟨a1, n, rfl, HN.out, by omega, hI.keep (below_one _ _)⟩), below_one _ _⟩

set_option maxHeartbeats 1000000 in
theorem cmp_calls (a a' : Option Addr) (len cap len' cap' : Nat) (xs ys : List Int) (w : World) (h : IsW w a len cap xs) (h' : IsW w a' len' cap' ys) (hm : len ≤ 17592186044416) (hm' : len' ≤ 17592186044416) :
    Calls Tryz.prog 199 #[.slice a len cap, .slice a' len' cap'] w fun e w' => ((greatB (val xs) || greatB (val ys)) = true → e = .returned (.tuple #[.int .i64 0, .int .i64 3])) ∧ ((greatB (val xs) || greatB (val ys)) = false → e = .returned (.tuple #[.int .i64 (cmpN (val xs) (val ys)), .int .i64 0])) ∧ Below w.heap.size w w' := by
  have HT := trimN_pack a len cap xs w h hm
  have HT' := trimN_pack a' len' cap' ys w h' hm'
  go_enter Tryz.func199, Tryz.ntmps199
  go_wp2_with fail
  refine Calls.mono HT ?_
  rintro e w ⟨a1, n, rfl, hn, hI, rfl⟩
  have HN : Hid (n = (wordsOf (val xs)).length) := hn
  clear hn HT h hm
  go_wp2_with fail
  refine Calls.mono HT' ?_
  rintro e w ⟨a2, n', rfl, hn', hI', rfl⟩
  have HN' : Hid (n' = (wordsOf (val ys)).length) := hn'
  clear hn' HT' h' hm'
  go_wp2_with fail
  refine Calls.mono (great2_calls _ a1 a2 n n n' n' _ (by go_simp) (by go_simp)) ?_
  rintro e w1 ⟨rfl, rfl⟩
  by_cases hg : 1024 < n
  · have e0 : Hid ((greatB (val xs) || greatB (val ys)) = true) := by rw [Hid, great_of_len HN.out hg]; rfl
    have d1 : (decide (1024 < n) || decide (1024 < n')) = true := by simp [hg]
    rw [d1]
    go_wp2_with fail
    go_ret2
    exact ⟨fun _ => rfl, (fun q => by rw [e0.out] at q; cases q), below_one _ _⟩
  · by_cases hg' : 1024 < n'
    · have e0 : Hid ((greatB (val xs) || greatB (val ys)) = true) := by rw [Hid, great_of_len HN'.out hg']; simp
      have d1 : (decide (1024 < n) || decide (1024 < n')) = true := by simp [hg']
      rw [d1]
      go_wp2_with fail
      go_ret2
      exact ⟨fun _ => rfl, (fun q => by rw [e0.out] at q; cases q), below_one _ _⟩
    · have e0 : Hid ((greatB (val xs) || greatB (val ys)) = false) := by rw [Hid, fit_of_len HN.out hg, fit_of_len HN'.out hg']; rfl
      have d1 : (decide (1024 < n) || decide (1024 < n')) = false := by simp [hg, hg']
      rw [d1]
      go_wp2_with fail
      refine Calls.mono (against_calls a1 a2 n n' (val xs) (val ys) _ (hI.keep (below_one _ _)) (hI'.keep (below_one _ _)) (by omega) (by omega)) ?_
      rintro e w2 ⟨rfl, hb⟩
      go_wp2_with fail
      go_ret2
      exact ⟨(fun q => by rw [e0.out] at q; cases q), fun _ => rfl, nbelow_trans (below_one _ _) hb⟩


theorem IsW.other {w : World} {a : Option Addr} {len cap : Nat} {xs : List Int} (h : IsW w a len cap xs) (p : Addr) (u : Value) (hp : ∀ b off, a = some ⟨b, off, none⟩ → p.block ≠ b) : IsW (w.setCell p u) a len cap xs := by
  refine ⟨h.1, h.2.1, h.2.2.1, fun i hi => ?_⟩
  obtain ⟨b, off, e1, e2, e3⟩ := h.2.2.2 i hi
  refine ⟨b, off, e1, by rw [World.size_setCell]; exact e2, ?_⟩
  exact (World.cell?_setCell_other (w := w) (a := p) (b := ⟨b, off + i, none⟩) (v := u) (fun e => hp b off e1 (by rw [e]))).trans e3

theorem OwnW.other {B : Nat} {w : World} {a : Option Addr} {len cap : Nat} {xs : List Int} (h : OwnW B w a len cap xs) (p : Addr) (u : Value) (hp : ∀ b off, a = some ⟨b, off, none⟩ → p.block ≠ b) : OwnW B (w.setCell p u) a len cap xs := by
  refine ⟨h.1.other p u hp, fun b off i e hi => ?_⟩
  rw [World.frozen?_setCell]
  exact h.2 b off i e hi

theorem OwnW.set {B g off : Nat} {w : World} {len cap : Nat} {xs : List Int} (h : OwnW B w (some ⟨g, off, none⟩) len cap xs) {i : Nat} (hi : i < len) {v : Int} (h0 : 0 ≤ v) (h1 : v ≤ 18446744073709551615) :
    OwnW B (w.setCell ⟨g, off + i, none⟩ (.int .u64 v)) (some ⟨g, off, none⟩) len cap (xs.set i v) := by
  refine ⟨⟨by rw [List.length_set]; exact h.1.1, h.1.2.1.set h0 h1, h.1.2.2.1, fun j hj => ?_⟩, fun b off' j e hj => ?_⟩
  · obtain ⟨b, o, e1, e2, e3⟩ := h.1.2.2.2 j hj
    simp only [Option.some.injEq, Addr.mk.injEq, and_true] at e1
    obtain ⟨rfl, rfl⟩ := e1
    refine ⟨g, off, rfl, by rw [World.size_setCell]; exact e2, ?_⟩
    rw [getD_set xs i j v (by have := h.1.1; omega)]
    by_cases hij : i = j
    · subst hij; rw [if_pos rfl]; exact World.cell?_setCell_same w _ _ e3
    · rw [if_neg hij]; exact (World.cell?_setCell_other (w := w) (a := ⟨g, off + i, none⟩) (b := ⟨g, off + j, none⟩) (v := .int .u64 v) (fun e => hij (Nat.add_left_cancel (congrArg Addr.off e)))).trans e3
  · rw [World.frozen?_setCell]
    exact h.2 b off' j e hj

theorem words_T : Tryz.prog.underlying 110 = some (.slice 59) := Tryz.underlying110

theorem nat_T : Tryz.prog.underlying 24 = some (.slice 59) := Tryz.underlying24

theorem own_zeros {B : Nat} {w : World} {n : Nat} (g : Nat) (h : w.ownsRow B 59 1 (.slice (some ⟨g, 0, none⟩) n n) n (madeCells (Value.int .u64 0).cells (n * 1)).toList) : OwnW B w (some ⟨g, 0, none⟩) n n (zeros n) := by
  have e : (madeCells (Value.int .u64 0).cells (n * 1)).toList = (zeros n).map (Value.int .u64) := by
    rw [show (Value.int .u64 0).cells = #[Value.int .u64 0] from rfl, toList_madeCells_one, Nat.mul_one, zeros, List.map_replicate]
  have hO : Own B w (some ⟨g, 0, none⟩) n (zeros n) := by
    unfold Own; rw [zeros_len, ← e]; exact h
  exact hO.ownW (zeros_U n) (zeros_len n)

/-- make of so many words, of either type of list. -/
theorem make_words (t : TypeId) (ht : Tryz.prog.underlying t = some (.slice 59)) (w : World) (n : Nat) (hn : n ≤ 17592186044416) :
    ∃ w1, (Instr.makeSlice t (.int .i64 (n : Int)) (.int .i64 (n : Int))).run Tryz.prog w = .ok (.slice (some ⟨w.heap.size, 0, none⟩) n n) w1 ∧ OwnW w.heap.size w1 (some ⟨w.heap.size, 0, none⟩) n n (zeros n) ∧ Below w.heap.size w w1 ∧ w.heap.size < w1.heap.size := by
  obtain ⟨i0, hi, hz0, hz1, hz2⟩ := info_parts word_info
  obtain ⟨w', h1, h2, h3⟩ := run_make_full (P := Tryz.prog) w w.heap.size t 59 i0 (.int .u64 0) 1 ht hi hz0 hz1 .i64 .i64 n (by rw [hz2]; omega) (by unfold maxLen; omega) (Nat.le_refl _)
  refine ⟨w', h1, own_zeros _ h2, (Below.refl _ _).grown h3 (Nat.le_refl _) (fun q hq => by cases hq), ?_⟩
  rcases h2.2 with ⟨e, _⟩ | ⟨g, cap, cur, e, _, hh, _⟩
  · cases e
  · simp only [Value.slice.injEq, Option.some.injEq, Addr.mk.injEq, and_true] at e
    obtain ⟨rfl, _⟩ := e.1
    exact (Array.getElem?_eq_some_iff.1 hh).1


theorem add64_run (x y c : Nat) (hc : c ≤ 1) (w : World) :
    (callFunc 185 #[.int .u64 x, .int .u64 y, .int .u64 c]).run Tryz.prog w = .ok (.value (.tuple #[.int .u64 (((x + y + c) % 18446744073709551616 : Nat) : Int), .int .u64 (((x + y + c) / 18446744073709551616 : Nat) : Int)])) w := by
  rw [run_callFunc_extern Tryz.func185 (by kernel_rfl) (by kernel_rfl) (by kernel_rfl) (e := add64Entry) (by kernel_rfl), run_add64 x y c (by omega) (by omega) (by omega) (by omega)]
  simp only [Result.andThen]
  congr 5 <;> omega

/-- What a difference of two words borrows. -/
def bor (x y b : Nat) : Nat := if x < y + b then 1 else 0

theorem bor_le (x y b : Nat) : bor x y b ≤ 1 := by unfold bor; split <;> omega

theorem sub64_run (x y b : Nat) (hb : b ≤ 1) (w : World) :
    (callFunc 184 #[.int .u64 x, .int .u64 y, .int .u64 b]).run Tryz.prog w = .ok (.value (.tuple #[.int .u64 (((x + 18446744073709551616 - y - b) % 18446744073709551616 : Nat) : Int), .int .u64 (bor x y b : Nat)])) w := by
  rw [run_callFunc_extern Tryz.func184 (by kernel_rfl) (by kernel_rfl) (by kernel_rfl) (e := sub64Entry) (by kernel_rfl), run_sub64 x y b hb]
  rfl

/-- The word that is left of two, and one borrowed. -/
def dif (x y b : Nat) : Nat := (x + 18446744073709551616 - y - b) % 18446744073709551616

theorem dif_lt (x y b : Nat) : dif x y b < 18446744073709551616 := Nat.mod_lt _ (by decide)

theorem dif_spec (x y b : Nat) (hx : x < 18446744073709551616) (hy : y < 18446744073709551616) (hb : b ≤ 1) : dif x y b + y + b = x + 18446744073709551616 * bor x y b := by
  unfold dif bor; split <;> omega

set_option maxHeartbeats 1000000 in
theorem sum_calls (g x y c : Nat) (w : World) (hc : w.cell? ⟨g, 0, none⟩ = some (.int .u64 (c : Int))) (hf : w.frozen? ⟨g, 0, none⟩ = false) (hc1 : c ≤ 1) :
    Calls Tryz.prog 169 #[.pointer (some ⟨g, 0, none⟩), .int .u64 (x : Int), .int .u64 (y : Int)] w fun e w' => e = .returned (.int .u64 (((x + y + c) % 18446744073709551616 : Nat) : Int)) ∧ w' = w.setCell ⟨g, 0, none⟩ (.int .u64 (((x + y + c) / 18446744073709551616 : Nat) : Int)) := by
  have hr := fun w => add64_run x y c hc1 w
  generalize ((x + y + c) % 18446744073709551616 : Nat) = z at *
  generalize ((x + y + c) / 18446744073709551616 : Nat) = k at *
  go_enter Tryz.func169, Tryz.ntmps169
  go_wp2
  go_ret
  exact ⟨rfl, rfl⟩

set_option maxHeartbeats 1000000 in
theorem difference_calls (g x y c : Nat) (w : World) (hc : w.cell? ⟨g, 0, none⟩ = some (.int .u64 (c : Int))) (hf : w.frozen? ⟨g, 0, none⟩ = false) (hc1 : c ≤ 1) :
    Calls Tryz.prog 168 #[.pointer (some ⟨g, 0, none⟩), .int .u64 (x : Int), .int .u64 (y : Int)] w fun e w' => e = .returned (.int .u64 (dif x y c : Nat)) ∧ w' = w.setCell ⟨g, 0, none⟩ (.int .u64 (bor x y c : Nat)) := by
  have hr := fun w => sub64_run x y c hc1 w
  show Calls _ _ _ _ fun e w' => e = .returned (.int .u64 (((x + 18446744073709551616 - y - c) % 18446744073709551616 : Nat) : Int)) ∧ w' = w.setCell ⟨g, 0, none⟩ (.int .u64 (bor x y c : Nat))
  generalize ((x + 18446744073709551616 - y - c) % 18446744073709551616 : Nat) = z at *
  generalize bor x y c = k at *
  go_enter Tryz.func168, Tryz.ntmps168
  go_wp2
  go_ret
  exact ⟨rfl, rfl⟩


theorem add_set (xs ys M : List Int) (k x y c s c' : Nat) (hk : k < M.length) (hz : M.getD k 0 = 0) (hx : xs.getD k 0 = (x : Int)) (hy : ys.getD k 0 = (y : Int))
    (hv : val M + 18446744073709551616 ^ k * c = low xs k + low ys k) (hw : s + 18446744073709551616 * c' = x + y + c) :
    val (M.set k (s : Int)) + 18446744073709551616 ^ (k + 1) * c' = low xs (k + 1) + low ys (k + 1) := by
  have e0 := val_set M k (s : Int) hk
  rw [hz] at e0
  have e1 : low xs (k + 1) = low xs k + 18446744073709551616 ^ k * x := by show low xs k + _ * (xs.getD k 0).toNat = _; rw [hx, Int.toNat_natCast]
  have e2 : low ys (k + 1) = low ys k + 18446744073709551616 ^ k * y := by show low ys k + _ * (ys.getD k 0).toNat = _; rw [hy, Int.toNat_natCast]
  have e4 := congrArg (18446744073709551616 ^ k * ·) hw
  simp only [Nat.mul_add] at e4
  rw [Int.toNat_natCast] at e0
  rw [e1, e2, Nat.pow_succ, Nat.mul_assoc]
  simp at e0
  omega

theorem sub_set (xs ys M : List Int) (k x y c s c' : Nat) (hk : k < M.length) (hz : M.getD k 0 = 0) (hx : xs.getD k 0 = (x : Int)) (hy : ys.getD k 0 = (y : Int))
    (hv : val M + low ys k = low xs k + 18446744073709551616 ^ k * c) (hw : s + y + c = x + 18446744073709551616 * c') :
    val (M.set k (s : Int)) + low ys (k + 1) = low xs (k + 1) + 18446744073709551616 ^ (k + 1) * c' := by
  have e0 := val_set M k (s : Int) hk
  rw [hz] at e0
  have e1 : low xs (k + 1) = low xs k + 18446744073709551616 ^ k * x := by show low xs k + _ * (xs.getD k 0).toNat = _; rw [hx, Int.toNat_natCast]
  have e2 : low ys (k + 1) = low ys k + 18446744073709551616 ^ k * y := by show low ys k + _ * (ys.getD k 0).toNat = _; rw [hy, Int.toNat_natCast]
  have e4 := congrArg (18446744073709551616 ^ k * ·) hw
  simp only [Nat.mul_add] at e4
  rw [Int.toNat_natCast] at e0
  rw [e1, e2, Nat.pow_succ, Nat.mul_assoc]
  simp at e0
  omega

theorem word_nat (xs : List Int) (h : AllU xs) (k : Nat) : ∃ x : Nat, xs.getD k 0 = (x : Int) ∧ x < 18446744073709551616 := by
  have := h.get k
  exact ⟨(xs.getD k 0).toNat, by omega, by omega⟩

theorem set_past (M : List Int) (k : Nat) (v : Int) (hk : k < M.length) (h : ∀ j, k ≤ j → M.getD j 0 = 0) : ∀ j, k + 1 ≤ j → (M.set k v).getD j 0 = 0 := fun j hj => by
  rw [getD_set M k j v hk, if_neg (by omega)]; exact h j (by omega)

set_option maxRecDepth 100000 in
set_option maxHeartbeats 2000000 in
theorem throughS_calls (w0 w : World) (gc n : Nat) (a b : Option Addr) (la lb : Nat) (xs ys : List Int) (hn : n ≤ 17592186044416) (hb0 : Below w0.heap.size w0 w) (hg0 : w0.heap.size ≤ gc) (hg1 : gc < w.heap.size)
    (hc0 : w.cell? ⟨gc, 0, none⟩ = some (.int .u64 0)) (hf0 : w.frozen? ⟨gc, 0, none⟩ = false) (hA : IsW w0 a la la xs) (hB : IsW w0 b lb lb ys) :
    Calls Tryz.prog 167 #[.int .i64 (n : Int), .func (.func 169) #[.pointer (some ⟨gc, 0, none⟩)] #[], .slice a la la, .slice b lb lb] w fun e w' => ∃ (M : List Int) (c : Nat), e = .returned (.slice (some ⟨w.heap.size, 0, none⟩) n n) ∧ OwnW w.heap.size w' (some ⟨w.heap.size, 0, none⟩) n n M ∧ val M + 18446744073709551616 ^ n * c = low xs n + low ys n ∧ Below w0.heap.size w0 w' := by
  obtain ⟨w1, hmk, hO1, hb1, hz1⟩ := make_words 110 words_T w n hn
  have hc1 : w1.cell? ⟨gc, 0, none⟩ = some (.int .u64 0) := (hb1.cell (p := ⟨gc, 0, none⟩) hg1).trans hc0
  have hf1 : w1.frozen? ⟨gc, 0, none⟩ = false := (hb1.frozen (p := ⟨gc, 0, none⟩) hg1).trans hf0
  have hbs := hb0.size
  have hb01 : Below w0.heap.size w0 w1 := hb0.trans (hb1.mono hbs)
  clear hb1 hc0 hf0 hb0
  go_enter Tryz.func167, Tryz.ntmps167
  go_wp2_with fail
  clear hmk
  go_loopw [14] (fun i wr => ∃ (k : Nat) (M : List Int) (c : Nat), k ≤ n ∧ i = .int .i64 k ∧ c ≤ 1 ∧ (∀ j, k ≤ j → M.getD j 0 = 0) ∧ val M + 18446744073709551616 ^ k * c = low xs k + low ys k ∧ OwnW w.heap.size wr (some ⟨w.heap.size, 0, none⟩) n n M ∧ wr.cell? ⟨gc, 0, none⟩ = some (.int .u64 (c : Int)) ∧ wr.frozen? ⟨gc, 0, none⟩ = false ∧ Below w0.heap.size w0 wr) (fun i _ => n - (intOf i).toNat)
  case atStart => exact ⟨0, zeros n, 0, by omega, rfl, by omega, fun j _ => zeros_get n j, by simp [low, val_zeros], hO1, hc1, hf1, hb01⟩
  case round =>
    obtain ⟨k, M, c, hk, rfl, hc01, hM0, hval, hO, hcc, hfc, hbr⟩ := hrel
    clear hO1 hc1 hf1 hb01
    have HV : Hid (val M + 18446744073709551616 ^ k * c = low xs k + low ys k) := hval
    have HM : Hid (∀ j, k ≤ j → M.getD j 0 = 0) := hM0
    clear hval hM0
    by_cases hlt : k < n
    · have hML : n = M.length := hO.1.1
      have HL : Hid (n = M.length) := hML
      clear hML
      obtain ⟨x, hx, hx1⟩ := word_nat xs hA.2.1 k
      obtain ⟨y, hy, hy1⟩ := word_nat ys hB.2.1 k
      have W1 : Hid _ := at_calls a la la xs k wr (hA.keep hbr)
      have W2 : Hid _ := at_calls b lb lb ys k wr (hB.keep hbr)
      rw [hx] at W1
      rw [hy] at W2
      have HX : Hid (xs.getD k 0 = (x : Int)) := hx
      have HY : Hid (ys.getD k 0 = (y : Int)) := hy
      clear hx hy
      obtain ⟨_, _, e1, _, hcell⟩ := hO.1.2.2.2 k hlt
      simp only [Option.some.injEq, Addr.mk.injEq, and_true] at e1
      obtain ⟨rfl, rfl⟩ := e1
      have hfz := (hO.2 _ _ k rfl hlt).2
      rw [Nat.zero_add] at hcell hfz
      go_wp2_with fail
      refine Calls.mono W1.out ?_
      rintro e wr ⟨rfl, rfl⟩
      go_wp2_with fail
      refine Calls.mono W2.out ?_
      rintro e wr ⟨rfl, rfl⟩
      go_wp2_with fail
      refine Calls.mono (sum_calls gc x y c wr hcc hfc hc01) ?_
      rintro e w2 ⟨rfl, rfl⟩
      obtain ⟨z, hz⟩ : ∃ z : Nat, z = (x + y + c) % 18446744073709551616 := ⟨_, rfl⟩
      obtain ⟨q, hq⟩ : ∃ q : Nat, q = (x + y + c) / 18446744073709551616 := ⟨_, rfl⟩
      rw [← hz, ← hq]
      have hne : gc ≠ w.heap.size := by omega
      have hO2 := hO.other ⟨gc, 0, none⟩ (.int .u64 (q : Int)) (fun b off e => by simp only [Option.some.injEq, Addr.mk.injEq, and_true] at e; rw [← e.1]; exact hne)
      have hcell2 : (wr.setCell ⟨gc, 0, none⟩ (.int .u64 (q : Int))).cell? ⟨w.heap.size, k, none⟩ = some (.int .u64 (M.getD k 0)) := (World.cell?_setCell_other wr _ _ _ (fun e => hne (congrArg Addr.block e))).trans hcell
      have hfz2 : (wr.setCell ⟨gc, 0, none⟩ (.int .u64 (q : Int))).frozen? ⟨w.heap.size, k, none⟩ = false := by rw [World.frozen?_setCell]; exact hfz
      have hcc2 : (wr.setCell ⟨gc, 0, none⟩ (.int .u64 (q : Int))).cell? ⟨gc, 0, none⟩ = some (.int .u64 (q : Int)) := World.cell?_setCell_same wr _ _ hcc
      have hfc2 : (wr.setCell ⟨gc, 0, none⟩ (.int .u64 (q : Int))).frozen? ⟨gc, 0, none⟩ = false := by rw [World.frozen?_setCell]; exact hfc
      have hbr2 : Below w0.heap.size w0 (wr.setCell ⟨gc, 0, none⟩ (.int .u64 (q : Int))) := hbr.setCell hg0 _
      generalize wr.setCell ⟨gc, 0, none⟩ (.int .u64 (q : Int)) = w2 at hO2 hcell2 hfz2 hcc2 hfc2 hbr2 ⊢
      have HZ : Hid (z = (x + y + c) % 18446744073709551616) := hz
      have HQ : Hid (q = (x + y + c) / 18446744073709551616) := hq
      clear hz hq hO hcell hfz hcc hfc hbr W1 W2
      go_wp2_with fail
      refine ⟨?_, by simp [intOf]; omega⟩
      have ez := HZ.out
      have eq := HQ.out
      have hspec : z + 18446744073709551616 * q = x + y + c := by rw [ez, eq]; omega
      have hzb : z < 18446744073709551616 := by rw [ez]; exact Nat.mod_lt _ (by decide)
      have hO3 := hO2.set hlt (v := (z : Int)) (by omega) (by omega)
      rw [Nat.zero_add] at hO3
      refine ⟨k + 1, M.set k (z : Int), q, by omega, by go_num, by rw [eq]; omega, set_past M k _ (by have := HL.out; omega) HM.out, add_set xs ys M k x y c z q (by have := HL.out; omega) (HM.out k (Nat.le_refl _)) HX.out HY.out HV.out hspec, hO3, ?_, ?_, hbr2.setCell (by omega) _⟩
      · exact (World.cell?_setCell_other w2 _ _ _ (fun e => hne (congrArg Addr.block e).symm)).trans hcc2
      · rw [World.frozen?_setCell]; exact hfc2
    · have hkn : k = n := by omega
      subst hkn
      go_wp2_with fail
      go_ret
      exact ⟨M, c, rfl, hO, HV.out, hbr⟩

set_option maxRecDepth 100000 in
set_option maxHeartbeats 2000000 in
theorem throughD_calls (w0 w : World) (gc n : Nat) (a b : Option Addr) (la lb : Nat) (xs ys : List Int) (hn : n ≤ 17592186044416) (hb0 : Below w0.heap.size w0 w) (hg0 : w0.heap.size ≤ gc) (hg1 : gc < w.heap.size)
    (hc0 : w.cell? ⟨gc, 0, none⟩ = some (.int .u64 0)) (hf0 : w.frozen? ⟨gc, 0, none⟩ = false) (hA : IsW w0 a la la xs) (hB : IsW w0 b lb lb ys) :
    Calls Tryz.prog 167 #[.int .i64 (n : Int), .func (.func 168) #[.pointer (some ⟨gc, 0, none⟩)] #[], .slice a la la, .slice b lb lb] w fun e w' => ∃ (M : List Int) (c : Nat), e = .returned (.slice (some ⟨w.heap.size, 0, none⟩) n n) ∧ OwnW w.heap.size w' (some ⟨w.heap.size, 0, none⟩) n n M ∧ val M + low ys n = low xs n + 18446744073709551616 ^ n * c ∧ Below w0.heap.size w0 w' := by
  obtain ⟨w1, hmk, hO1, hb1, hz1⟩ := make_words 110 words_T w n hn
  have hc1 : w1.cell? ⟨gc, 0, none⟩ = some (.int .u64 0) := (hb1.cell (p := ⟨gc, 0, none⟩) hg1).trans hc0
  have hf1 : w1.frozen? ⟨gc, 0, none⟩ = false := (hb1.frozen (p := ⟨gc, 0, none⟩) hg1).trans hf0
  have hbs := hb0.size
  have hb01 : Below w0.heap.size w0 w1 := hb0.trans (hb1.mono hbs)
  clear hb1 hc0 hf0 hb0
  go_enter Tryz.func167, Tryz.ntmps167
  go_wp2_with fail
  clear hmk
  go_loopw [14] (fun i wr => ∃ (k : Nat) (M : List Int) (c : Nat), k ≤ n ∧ i = .int .i64 k ∧ c ≤ 1 ∧ (∀ j, k ≤ j → M.getD j 0 = 0) ∧ val M + low ys k = low xs k + 18446744073709551616 ^ k * c ∧ OwnW w.heap.size wr (some ⟨w.heap.size, 0, none⟩) n n M ∧ wr.cell? ⟨gc, 0, none⟩ = some (.int .u64 (c : Int)) ∧ wr.frozen? ⟨gc, 0, none⟩ = false ∧ Below w0.heap.size w0 wr) (fun i _ => n - (intOf i).toNat)
  case atStart => exact ⟨0, zeros n, 0, by omega, rfl, by omega, fun j _ => zeros_get n j, by simp [low, val_zeros], hO1, hc1, hf1, hb01⟩
  case round =>
    obtain ⟨k, M, c, hk, rfl, hc01, hM0, hval, hO, hcc, hfc, hbr⟩ := hrel
    clear hO1 hc1 hf1 hb01
    have HV : Hid (val M + low ys k = low xs k + 18446744073709551616 ^ k * c) := hval
    have HM : Hid (∀ j, k ≤ j → M.getD j 0 = 0) := hM0
    clear hval hM0
    by_cases hlt : k < n
    · have hML : n = M.length := hO.1.1
      have HL : Hid (n = M.length) := hML
      clear hML
      obtain ⟨x, hx, hx1⟩ := word_nat xs hA.2.1 k
      obtain ⟨y, hy, hy1⟩ := word_nat ys hB.2.1 k
      have W1 : Hid _ := at_calls a la la xs k wr (hA.keep hbr)
      have W2 : Hid _ := at_calls b lb lb ys k wr (hB.keep hbr)
      rw [hx] at W1
      rw [hy] at W2
      have HX : Hid (xs.getD k 0 = (x : Int)) := hx
      have HY : Hid (ys.getD k 0 = (y : Int)) := hy
      clear hx hy
      obtain ⟨_, _, e1, _, hcell⟩ := hO.1.2.2.2 k hlt
      simp only [Option.some.injEq, Addr.mk.injEq, and_true] at e1
      obtain ⟨rfl, rfl⟩ := e1
      have hfz := (hO.2 _ _ k rfl hlt).2
      rw [Nat.zero_add] at hcell hfz
      go_wp2_with fail
      refine Calls.mono W1.out ?_
      rintro e wr ⟨rfl, rfl⟩
      go_wp2_with fail
      refine Calls.mono W2.out ?_
      rintro e wr ⟨rfl, rfl⟩
      go_wp2_with fail
      refine Calls.mono (difference_calls gc x y c wr hcc hfc hc01) ?_
      rintro e w2 ⟨rfl, rfl⟩
      obtain ⟨z, hz⟩ : ∃ z : Nat, z = dif x y c := ⟨_, rfl⟩
      obtain ⟨q, hq⟩ : ∃ q : Nat, q = bor x y c := ⟨_, rfl⟩
      rw [← hz, ← hq]
      have hne : gc ≠ w.heap.size := by omega
      have hO2 := hO.other ⟨gc, 0, none⟩ (.int .u64 (q : Int)) (fun b off e => by simp only [Option.some.injEq, Addr.mk.injEq, and_true] at e; rw [← e.1]; exact hne)
      have hcell2 : (wr.setCell ⟨gc, 0, none⟩ (.int .u64 (q : Int))).cell? ⟨w.heap.size, k, none⟩ = some (.int .u64 (M.getD k 0)) := (World.cell?_setCell_other wr _ _ _ (fun e => hne (congrArg Addr.block e))).trans hcell
      have hfz2 : (wr.setCell ⟨gc, 0, none⟩ (.int .u64 (q : Int))).frozen? ⟨w.heap.size, k, none⟩ = false := by rw [World.frozen?_setCell]; exact hfz
      have hcc2 : (wr.setCell ⟨gc, 0, none⟩ (.int .u64 (q : Int))).cell? ⟨gc, 0, none⟩ = some (.int .u64 (q : Int)) := World.cell?_setCell_same wr _ _ hcc
      have hfc2 : (wr.setCell ⟨gc, 0, none⟩ (.int .u64 (q : Int))).frozen? ⟨gc, 0, none⟩ = false := by rw [World.frozen?_setCell]; exact hfc
      have hbr2 : Below w0.heap.size w0 (wr.setCell ⟨gc, 0, none⟩ (.int .u64 (q : Int))) := hbr.setCell hg0 _
      generalize wr.setCell ⟨gc, 0, none⟩ (.int .u64 (q : Int)) = w2 at hO2 hcell2 hfz2 hcc2 hfc2 hbr2 ⊢
      have HZ : Hid (z = dif x y c) := hz
      have HQ : Hid (q = bor x y c) := hq
      clear hz hq hO hcell hfz hcc hfc hbr W1 W2
      go_wp2_with fail
      refine ⟨?_, by simp [intOf]; omega⟩
      have ez := HZ.out
      have eq := HQ.out
      have hspec : z + y + c = x + 18446744073709551616 * q := by rw [ez, eq]; exact dif_spec x y c hx1 hy1 hc01
      have hzb : z < 18446744073709551616 := by rw [ez]; exact dif_lt _ _ _
      have hO3 := hO2.set hlt (v := (z : Int)) (by omega) (by omega)
      rw [Nat.zero_add] at hO3
      refine ⟨k + 1, M.set k (z : Int), q, by omega, by go_num, by rw [eq]; exact bor_le _ _ _, set_past M k _ (by have := HL.out; omega) HM.out, sub_set xs ys M k x y c z q (by have := HL.out; omega) (HM.out k (Nat.le_refl _)) HX.out HY.out HV.out hspec, hO3, ?_, ?_, hbr2.setCell (by omega) _⟩
      · exact (World.cell?_setCell_other w2 _ _ _ (fun e => hne (congrArg Addr.block e).symm)).trans hcc2
      · rw [World.frozen?_setCell]; exact hfc2
    · have hkn : k = n := by omega
      subst hkn
      go_wp2_with fail
      go_ret
      exact ⟨M, c, rfl, hO, HV.out, hbr⟩


theorem plus_val (xs ys M : List Int) (K c : Nat) (hx : AllU xs) (hy : AllU ys) (hxl : xs.length ≤ K) (hyl : ys.length ≤ K) (h : val M + 18446744073709551616 ^ (K + 1) * c = low xs (K + 1) + low ys (K + 1)) : val M = val xs + val ys := by
  rw [low_all xs _ (by omega), low_all ys _ (by omega)] at h
  have h1 : val xs < 18446744073709551616 ^ K := Nat.lt_of_lt_of_le (val_lt xs hx) (Nat.pow_le_pow_right (by decide) hxl)
  have h2 : val ys < 18446744073709551616 ^ K := Nat.lt_of_lt_of_le (val_lt ys hy) (Nat.pow_le_pow_right (by decide) hyl)
  have hc : c = 0 := by
    rcases Nat.eq_zero_or_pos c with h0 | h0
    · exact h0
    · rw [Nat.pow_succ] at h
      generalize 18446744073709551616 ^ K = P at h h1 h2
      have h3 : P * 18446744073709551616 ≤ P * 18446744073709551616 * c := Nat.le_mul_of_pos_right _ h0
      generalize P * 18446744073709551616 * c = Q at h h3
      omega
  rw [hc, Nat.mul_zero, Nat.add_zero] at h
  exact h

theorem less_val (xs ys M : List Int) (n c : Nat) (hM : AllU M) (hMl : M.length = n) (hxl : xs.length ≤ n) (hyl : ys.length ≤ n) (hle : val ys ≤ val xs) (h : val M + low ys n = low xs n + 18446744073709551616 ^ n * c) : val M = val xs - val ys := by
  rw [low_all xs _ hxl, low_all ys _ hyl] at h
  have h1 := val_lt M hM
  rw [hMl] at h1
  have hc : c = 0 := by
    rcases Nat.eq_zero_or_pos c with h0 | h0
    · exact h0
    · generalize 18446744073709551616 ^ n = P at h h1
      have h3 : P ≤ P * c := Nat.le_mul_of_pos_right _ h0
      generalize P * c = Q at h h3
      omega
  rw [hc, Nat.mul_zero, Nat.add_zero] at h
  omega

set_option maxRecDepth 100000 in
set_option maxHeartbeats 1000000 in
theorem plus_calls (a b : Option Addr) (n m : Nat) (xs ys : List Int) (w : World) (hA : IsW w a n n xs) (hB : IsW w b m m ys) (hn : n ≤ 17592186044415) (hm : m ≤ 17592186044415) :
    Calls Tryz.prog 141 #[.slice a n n, .slice b m m] w fun e w' => ∃ (ao : Option Addr) (k : Nat) (M : List Int), e = .returned (.slice ao k k) ∧ OwnW w.heap.size w' ao k k M ∧ val M = val xs + val ys ∧ k = max n m + 1 ∧ Below w.heap.size w w' := by
  have hmf : ∀ (fn : Fn) (first cap : Array Value) (w : World), (Instr.makeFunc fn first cap).run Tryz.prog w = .ok (.func fn first cap) w := fun _ _ _ _ => rfl
  have X1 : Hid (xs.length = n) := hA.1.symm
  have Y1 : Hid (ys.length = m) := hB.1.symm
  have HT : Hid _ := throughS_calls w (w.alloc (.cells #[.int .u64 0] 200)) w.heap.size (max n m + 1) a b n m xs ys (by omega) (below_one _ _) (Nat.le_refl _) (by simp) (by go_simp) (by go_simp) hA hB
  have em : (max (n : Int) m + 1) = ((max n m + 1 : Nat) : Int) := by omega
  have EM : Hid ((max (n : Int) m + 1) = ((max n m + 1 : Nat) : Int)) := em
  clear em
  go_enter Tryz.func141, Tryz.ntmps141
  go_wp2_with fail
  rw [EM.out]
  refine Calls.mono HT.out ?_
  rintro e w1 ⟨M, c, rfl, hO, hv, hb⟩
  have HV : Hid _ := hv
  rw [World.size_alloc] at hO
  clear hv hmf
  go_wp2_with fail
  go_ret
  exact ⟨_, _, M, rfl, hO.low (B' := w.heap.size) (by simp), plus_val xs ys M (max n m) c hA.2.1 hB.2.1 (by have := X1.out; omega) (by have := Y1.out; omega) HV.out, rfl, hb⟩

set_option maxRecDepth 100000 in
set_option maxHeartbeats 1000000 in
theorem lessW_calls (a b : Option Addr) (n m : Nat) (xs ys : List Int) (w : World) (hA : IsW w a n n xs) (hB : IsW w b m m ys) (hn : n ≤ 17592186044415) (hm : m ≤ n) (hle : val ys ≤ val xs) :
    Calls Tryz.prog 140 #[.slice a n n, .slice b m m] w fun e w' => ∃ (ao : Option Addr) (M : List Int), e = .returned (.slice ao n n) ∧ OwnW w.heap.size w' ao n n M ∧ val M = val xs - val ys ∧ Below w.heap.size w w' := by
  have hmf : ∀ (fn : Fn) (first cap : Array Value) (w : World), (Instr.makeFunc fn first cap).run Tryz.prog w = .ok (.func fn first cap) w := fun _ _ _ _ => rfl
  have X1 : Hid (xs.length = n) := hA.1.symm
  have Y1 : Hid (ys.length = m) := hB.1.symm
  have HT : Hid _ := throughD_calls w (w.alloc (.cells #[.int .u64 0] 200)) w.heap.size n a b n m xs ys (by omega) (below_one _ _) (Nat.le_refl _) (by simp) (by go_simp) (by go_simp) hA hB
  have HLE : Hid (val ys ≤ val xs) := hle
  clear hle
  go_enter Tryz.func140, Tryz.ntmps140
  go_wp2_with fail
  refine Calls.mono HT.out ?_
  rintro e w1 ⟨M, c, rfl, hO, hv, hb⟩
  have HV : Hid _ := hv
  rw [World.size_alloc] at hO
  clear hv hmf
  go_wp2_with fail
  go_ret
  exact ⟨_, M, rfl, hO.low (B' := w.heap.size) (by simp), less_val xs ys M n c hO.1.2.1 hO.1.1.symm (by have := X1.out; omega) (by have := Y1.out; omega) HLE.out HV.out, hb⟩

/-- The sum, or why there is none. -/
def addR (u v : Nat) : Nat × Int := if (greatB u || greatB v) = true then (0, 3) else fitR (u + v)

/-- The difference, or why there is none. -/
def subR (u v : Nat) : Nat × Int := if (greatB u || greatB v) = true then (0, 3) else if u < v then (0, 31) else (u - v, 0)

theorem addR_yes {u v : Nat} (h : (greatB u || greatB v) = true) : addR u v = (0, 3) := by unfold addR; rw [if_pos h]

theorem addR_no {u v : Nat} (h : (greatB u || greatB v) = false) : addR u v = fitR (u + v) := by unfold addR; rw [if_neg (by rw [h]; decide)]

theorem subR_yes {u v : Nat} (h : (greatB u || greatB v) = true) : subR u v = (0, 3) := by unfold subR; rw [if_pos h]

theorem subR_less {u v : Nat} (h : (greatB u || greatB v) = false) (hl : u < v) : subR u v = (0, 31) := by unfold subR; rw [if_neg (by rw [h]; decide), if_pos hl]

theorem subR_no {u v : Nat} (h : (greatB u || greatB v) = false) (hl : v ≤ u) : subR u v = (u - v, 0) := by unfold subR; rw [if_neg (by rw [h]; decide), if_neg (by omega)]

theorem words_mono {u v : Nat} (h : v ≤ u) : (wordsOf v).length ≤ (wordsOf u).length := by
  rw [words_len]; exact Nat.lt_of_le_of_lt h ((words_len _ u).1 (Nat.le_refl _))

set_option maxHeartbeats 1000000 in
theorem add_calls (a a' : Option Addr) (len cap len' cap' : Nat) (xs ys : List Int) (w : World) (h : IsW w a len cap xs) (h' : IsW w a' len' cap' ys) (hm : len ≤ 17592186044416) (hm' : len' ≤ 17592186044416) :
    Calls Tryz.prog 106 #[.slice a len cap, .slice a' len' cap'] w fun e w' => ∃ v, e = .returned (.tuple #[v, .int .i64 (addR (val xs) (val ys)).2]) ∧ NatAt w.heap.size w' v (addR (val xs) (val ys)).1 ∧ Below w.heap.size w w' := by
  have HT := trimN_pack a len cap xs w h hm
  have HT' := trimN_pack a' len' cap' ys w h' hm'
  go_enter Tryz.func106, Tryz.ntmps106
  go_wp2_with fail
  refine Calls.mono HT ?_
  rintro e w ⟨a1, n, rfl, hn, hI, rfl⟩
  have HN : Hid (n = (wordsOf (val xs)).length) := hn
  clear hn HT h hm
  go_wp2_with fail
  refine Calls.mono HT' ?_
  rintro e w ⟨a2, n', rfl, hn', hI', rfl⟩
  have HN' : Hid (n' = (wordsOf (val ys)).length) := hn'
  clear hn' HT' h' hm'
  go_wp2_with fail
  refine Calls.mono (great2_calls _ a1 a2 n n n' n' _ (by go_simp) (by go_simp)) ?_
  rintro e w1 ⟨rfl, rfl⟩
  cases hd : (decide (1024 < n) || decide (1024 < n')) with
  | true =>
    have e0 : Hid ((greatB (val xs) || greatB (val ys)) = true) := by
      rw [Hid, greatB, greatB, ← HN.out, ← HN'.out]; exact hd
    clear hd
    go_wp2_with fail
    go_ret2
    rw [addR_yes e0.out]
    exact ⟨_, rfl, natAt_nil _ _, below_one _ _⟩
  | false =>
    have e0 : Hid ((greatB (val xs) || greatB (val ys)) = false) := by
      rw [Hid, greatB, greatB, ← HN.out, ← HN'.out]; exact hd
    have hle : n ≤ 1024 ∧ n' ≤ 1024 := by simpa using hd
    clear hd
    go_wp2_with fail
    refine Calls.mono (plus_calls a1 a2 n n' _ _ _ (hI.keep (below_one _ _)) (hI'.keep (below_one _ _)) (by omega) (by omega)) ?_
    rintro e w2 ⟨ao, k, M, rfl, hO, hv, hk, hb2⟩
    rw [val_words, val_words] at hv
    have HV : Hid (val M = val xs + val ys) := hv
    have hk2 : k ≤ 1025 := by omega
    clear hv hk
    go_wp2_with fail
    refine Calls.mono (answer_calls _ ao k k M _ hO (by omega)) ?_
    rintro e w3 ⟨v, rfl, hA, hb3⟩
    rw [HV.out, ← addR_no e0.out] at hA ⊢
    go_wp2_with fail
    go_ret2
    exact ⟨v, rfl, hA.low (by simp), nbelow_trans (nbelow_trans (below_one _ _) hb2) hb3⟩

set_option maxHeartbeats 1000000 in
theorem sub_calls (a a' : Option Addr) (len cap len' cap' : Nat) (xs ys : List Int) (w : World) (h : IsW w a len cap xs) (h' : IsW w a' len' cap' ys) (hm : len ≤ 17592186044416) (hm' : len' ≤ 17592186044416) :
    Calls Tryz.prog 105 #[.slice a len cap, .slice a' len' cap'] w fun e w' => ∃ v, e = .returned (.tuple #[v, .int .i64 (subR (val xs) (val ys)).2]) ∧ NatAt w.heap.size w' v (subR (val xs) (val ys)).1 ∧ Below w.heap.size w w' := by
  have HT := trimN_pack a len cap xs w h hm
  have HT' := trimN_pack a' len' cap' ys w h' hm'
  go_enter Tryz.func105, Tryz.ntmps105
  go_wp2_with fail
  refine Calls.mono HT ?_
  rintro e w ⟨a1, n, rfl, hn, hI, rfl⟩
  have HN : Hid (n = (wordsOf (val xs)).length) := hn
  clear hn HT h hm
  go_wp2_with fail
  refine Calls.mono HT' ?_
  rintro e w ⟨a2, n', rfl, hn', hI', rfl⟩
  have HN' : Hid (n' = (wordsOf (val ys)).length) := hn'
  clear hn' HT' h' hm'
  go_wp2_with fail
  refine Calls.mono (great2_calls _ a1 a2 n n n' n' _ (by go_simp) (by go_simp)) ?_
  rintro e w1 ⟨rfl, rfl⟩
  cases hd : (decide (1024 < n) || decide (1024 < n')) with
  | true =>
    have e0 : Hid ((greatB (val xs) || greatB (val ys)) = true) := by
      rw [Hid, greatB, greatB, ← HN.out, ← HN'.out]; exact hd
    clear hd
    go_wp2_with fail
    go_ret2
    rw [subR_yes e0.out]
    exact ⟨_, rfl, natAt_nil _ _, below_one _ _⟩
  | false =>
    have e0 : Hid ((greatB (val xs) || greatB (val ys)) = false) := by
      rw [Hid, greatB, greatB, ← HN.out, ← HN'.out]; exact hd
    have hle : n ≤ 1024 ∧ n' ≤ 1024 := by simpa using hd
    clear hd
    go_wp2_with fail
    refine Calls.mono (against_calls a1 a2 n n' (val xs) (val ys) _ (hI.keep (below_one _ _)) (hI'.keep (below_one _ _)) (by omega) (by omega)) ?_
    rintro e w2 ⟨rfl, hb⟩
    by_cases hl : val xs < val ys
    · have hc : cmpN (val xs) (val ys) = -1 := by unfold cmpN; rw [if_pos hl]
      rw [hc]
      have HL : Hid (val xs < val ys) := hl
      clear hl hc
      go_wp2_with fail
      go_ret2
      rw [subR_less e0.out HL.out]
      exact ⟨_, rfl, natAt_nil _ _, nbelow_trans (below_one _ _) hb⟩
    · have hc : 0 ≤ cmpN (val xs) (val ys) := by unfold cmpN; rw [if_neg hl]; split <;> omega
      have HL : Hid (val ys ≤ val xs) := by rw [Hid]; omega
      have hnn : n' ≤ n := by rw [HN.out, HN'.out]; exact words_mono HL.out
      have hf : Hid (greatB (val xs - val ys) = false) := by
        have := e0.out; rw [Bool.or_eq_false_iff] at this
        exact great_mono (by omega) this.1
      generalize cmpN (val xs) (val ys) = cc at hc ⊢
      clear hl
      have hb2 := nbelow_trans (below_one w (.cells #[.slice a1 n n, .slice a2 n' n'] 110)) hb
      go_wp2_with fail
      refine Calls.mono (lessW_calls a1 a2 n n' _ _ _ (hI.keep hb2) (hI'.keep hb2) (by omega) hnn (by rw [val_words, val_words]; exact HL.out)) ?_
      rintro e w3 ⟨ao, M, rfl, hO, hv, hb3⟩
      rw [val_words, val_words] at hv
      have HV : Hid (val M = val xs - val ys) := hv
      clear hv
      go_wp2_with fail
      refine Calls.mono (answer_calls _ ao n n M _ hO (by omega)) ?_
      rintro e w4 ⟨v, rfl, hA, hb4⟩
      rw [HV.out, fitR_no hf.out, ← subR_no e0.out HL.out] at hA ⊢
      go_wp2_with fail
      go_ret2
      exact ⟨v, rfl, hA.low hb2.size, nbelow_trans (nbelow_trans hb2 hb3) hb4⟩

end Go.Proofs.YtkkldnnndlpblaaGreatDoor

/- Plain facts behind math/bits.Div64: a digit of 32 bits of a quotient by two such digits, guessed and put right. Plain facts for the walk of math/bits.Div64: what its words come to. The walk of math/bits.Div64: a quotient of two words by one. The walk of the division of a natural by one word, in place. The walks of products of two words, and of a row times a word added in place. The walks of products of naturals. -/
import Derived.Test.YtkkldnnndlpblaaGreatDoorTMA
import Derived.Test.YtkkldnnndlpblaaGreatDoorTMB
import Derived.BigRegion
import Derived.Test.YtkkldnnndlpblaaGreatDoorNShelf

namespace Go.Proofs.YtkkldnnndlpblaaGreatDoor
open Go.RowKit

/-- The guess q with the rest r of the upper part, ahead of a test. -/
def Guess (u32 u1 y1 y0 q r : Nat) : Prop := q * y1 + r = u32 ∧ (u32 * 4294967296 + u1) / (y1 * 4294967296 + y0) ≤ q ∧ q ≤ 4294967297

theorem guess_start (u32 u1 y1 y0 : Nat) (hy0 : y0 < 4294967296) (hy1 : 2147483648 ≤ y1) (hu1 : u1 < 4294967296) (hu : u32 < y1 * 4294967296 + y0) : Guess u32 u1 y1 y0 (u32 / y1) (u32 % y1) := by
  have h1 := Nat.div_add_mod u32 y1
  refine ⟨by rw [Nat.mul_comm]; exact h1, ?_, ?_⟩
  · have h2 : (u32 * 4294967296 + u1) / (y1 * 4294967296 + y0) ≤ (u32 * 4294967296 + u1) / (y1 * 4294967296) := Nat.div_le_div_left (by omega) (by omega)
    rw [Nat.mul_comm y1, ← Nat.div_div_eq_div_mul, show (u32 * 4294967296 + u1) / 4294967296 = u32 by omega] at h2
    rw [Nat.mul_comm y1]; exact h2
  · have h3 : u32 / y1 < 4294967298 := by
      rw [Nat.div_lt_iff_lt_mul (by omega)]; omega
    omega

theorem guess_test (u32 u1 y1 y0 q r : Nat) (h : Guess u32 u1 y1 y0 q r) : q * y0 ≤ 4294967296 * r + u1 ↔ q * (y1 * 4294967296 + y0) ≤ u32 * 4294967296 + u1 := by
  have e : q * (y1 * 4294967296 + y0) = q * y1 * 4294967296 + q * y0 := by rw [Nat.mul_add, Nat.mul_assoc]
  have h1 := h.1
  rw [e]; omega

theorem guess_step (u32 u1 y1 y0 q r : Nat) (hu1 : u1 < 4294967296) (hu : u32 < y1 * 4294967296 + y0) (h : Guess u32 u1 y1 y0 q r) (hc : 4294967296 ≤ q ∨ 4294967296 * r + u1 < q * y0) : 1 ≤ q ∧ Guess u32 u1 y1 y0 (q - 1) (r + y1) := by
  have ht := guess_test u32 u1 y1 y0 q r h
  obtain ⟨h1, h2, h3⟩ := h
  have hq : (u32 * 4294967296 + u1) / (y1 * 4294967296 + y0) < q := by
    rcases hc with hc | hc
    · have : (u32 * 4294967296 + u1) / (y1 * 4294967296 + y0) < 4294967296 := by
        rw [Nat.div_lt_iff_lt_mul (by omega)]; omega
      omega
    · rw [Nat.div_lt_iff_lt_mul (by omega)]
      omega
  have q1 : 1 ≤ q := Nat.lt_of_le_of_lt (Nat.zero_le _) hq
  refine ⟨q1, ?_, Nat.le_sub_one_of_lt hq, Nat.le_trans (Nat.sub_le _ _) h3⟩
  obtain ⟨p, rfl⟩ : ∃ p, q = p + 1 := ⟨q - 1, by clear hq h2; omega⟩
  rw [Nat.add_sub_cancel]; rw [Nat.add_mul, Nat.one_mul] at h1; omega

theorem guess_end (u32 u1 y1 y0 q r : Nat) (hy1 : 2147483648 ≤ y1) (h : Guess u32 u1 y1 y0 q r) (hc : q * y0 ≤ 4294967296 * r + u1) : q = (u32 * 4294967296 + u1) / (y1 * 4294967296 + y0) := by
  have ht := (guess_test u32 u1 y1 y0 q r h).1 hc
  have := (Nat.le_div_iff_mul_le (show 0 < y1 * 4294967296 + y0 by omega)).2 ht
  have := h.2.1
  omega

theorem guess_break (u32 u1 y1 y0 q r : Nat) (hy0 : y0 < 4294967296) (hy1 : 2147483648 ≤ y1) (h : Guess u32 u1 y1 y0 q r) (hq : q ≤ 4294967296) (hr : 4294967296 ≤ r) : q = (u32 * 4294967296 + u1) / (y1 * 4294967296 + y0) := by
  refine guess_end u32 u1 y1 y0 q r hy1 h ?_
  have h1 : q * y0 ≤ 4294967296 * y0 := Nat.mul_le_mul_right _ hq
  omega

/-- Two digits make the quotient of a word and a word by a word whose top bit is set; all of it shifted. -/
theorem two_digits (y u q1 : Nat) (u1 u0 : Nat) (hy : 0 < y) (h1 : q1 = (u * 4294967296 + u1) / y) :
    q1 * 4294967296 + ((u * 4294967296 + u1) % y * 4294967296 + u0) / y = (u * 18446744073709551616 + u1 * 4294967296 + u0) / y ∧ ((u * 4294967296 + u1) % y * 4294967296 + u0) % y = (u * 18446744073709551616 + u1 * 4294967296 + u0) % y := by
  have e := Nat.div_add_mod (u * 4294967296 + u1) y
  rw [← h1] at e
  have e2 : u * 18446744073709551616 + u1 * 4294967296 + u0 = ((u * 4294967296 + u1) % y * 4294967296 + u0) + y * (q1 * 4294967296) := by
    rw [← Nat.mul_assoc]; omega
  rw [e2, Nat.add_mul_div_left _ _ hy, Nat.add_mul_mod_self_left]
  exact ⟨Nat.add_comm _ _, rfl⟩


/-- The shift that brings a word's top bit up. -/
theorem lead_shift (y : Nat) (h0 : 0 < y) (hy : y < 18446744073709551616) : ∃ s : Nat, s < 64 ∧ (64 - (Lib.bitLen y : Int)) = (s : Int) ∧ 9223372036854775808 ≤ y * 2 ^ s ∧ y * 2 ^ s < 18446744073709551616 := by
  have hb := blen_lib y (by have : (2 : Nat) ^ 64 = 18446744073709551616 := rfl; omega)
  have h1 : blen y ≤ 64 := by rw [blen_le]; have : (2 : Nat) ^ 64 = 18446744073709551616 := rfl; omega
  have h2 : blen y ≠ 0 := fun e => by have := (blen_nil y).1 e; omega
  refine ⟨64 - blen y, by omega, by rw [hb]; omega, ?_, ?_⟩
  · have := Nat.mul_le_mul_right (2 ^ (64 - blen y)) (blen_ge y (by omega))
    rw [← Nat.pow_add, show blen y - 1 + (64 - blen y) = 63 by omega] at this
    exact this
  · have := Nat.mul_lt_mul_of_pos_right (lt_blen y) (Nat.pow_pos (n := 64 - blen y) (show 0 < 2 by decide))
    rw [← Nat.pow_add, show blen y + (64 - blen y) = 64 by omega] at this
    exact this

theorem mul_pow_cast (x s : Nat) : ((x : Int) * 2 ^ s) = ((x * 2 ^ s : Nat) : Int) := by rw [Int.natCast_mul, Int.natCast_pow]; rfl

theorem div_pow_cast (x s : Nat) : ((x : Int) / 2 ^ s) = ((x / 2 ^ s : Nat) : Int) := by rw [Int.natCast_ediv, Int.natCast_pow]; rfl

theorem wrap_nat (x : Nat) : IntKind.u64.wrap (x : Int) = ((x % 18446744073709551616 : Nat) : Int) := by rw [IntKind.wrap_u64]; omega

theorem wrap_small (x : Nat) (h : x < 18446744073709551616) : IntKind.u64.wrap (x : Int) = (x : Int) := by rw [wrap_nat, Nat.mod_eq_of_lt h]

theorem and_mask (x : Nat) (h : x < 18446744073709551616) : bits .and .u64 (x : Int) 4294967295 = ((x % 4294967296 : Nat) : Int) := by
  have e : x &&& 4294967295 = x % 4294967296 := Nat.and_two_pow_sub_one_eq_mod x 32
  rw [show (4294967295 : Int) = ((4294967295 : Nat) : Int) from rfl, u64_and_nat x 4294967295 h (by decide), e]

theorem div64_parts (hi lo y s : Nat) (hl : lo < 18446744073709551616) (h0 : hi < y) (hs : s < 64) (hY0 : 9223372036854775808 ≤ y * 2 ^ s) (hY1 : y * 2 ^ s < 18446744073709551616) :
    ∃ Y U V y1 y0 v1 v0 : Nat, IntKind.u64.wrap ((y : Int) * 2 ^ s) = (Y : Int) ∧ bits BinOp.or IntKind.u64 (IntKind.u64.wrap ((hi : Int) * 2 ^ s)) ((lo : Int) / 2 ^ (64 - s)) = (U : Int) ∧ IntKind.u64.wrap ((lo : Int) * 2 ^ s) = (V : Int) ∧ (Y : Int) / 4294967296 = (y1 : Int) ∧ bits BinOp.and IntKind.u64 (Y : Int) 4294967295 = (y0 : Int) ∧ (V : Int) / 4294967296 = (v1 : Int) ∧ bits BinOp.and IntKind.u64 (V : Int) 4294967295 = (v0 : Int) ∧
      Y = y1 * 4294967296 + y0 ∧ y0 < 4294967296 ∧ 2147483648 ≤ y1 ∧ y1 < 4294967296 ∧ v1 < 4294967296 ∧ v0 < 4294967296 ∧ U < Y ∧ Y = y * 2 ^ s ∧ U * 18446744073709551616 + v1 * 4294967296 + v0 = (hi * 18446744073709551616 + lo) * 2 ^ s := by
  have hpos : 0 < 2 ^ s := Nat.pow_pos (by decide)
  have hlo : lo / 2 ^ (64 - s) < 2 ^ s := by
    rw [Nat.div_lt_iff_lt_mul (Nat.pow_pos (by decide)), ← Nat.pow_add, show s + (64 - s) = 64 by omega]; exact hl
  have hhi : hi * 2 ^ s + 2 ^ s ≤ y * 2 ^ s := by
    have := Nat.mul_le_mul_right (2 ^ s) (show hi + 1 ≤ y from h0)
    rw [Nat.add_mul, Nat.one_mul] at this; exact this
  have hor : (hi * 2 ^ s ||| lo / 2 ^ (64 - s)) = hi * 2 ^ s + lo / 2 ^ (64 - s) := by
    rw [Nat.mul_comm]; exact (Nat.two_pow_add_eq_or_of_lt hlo hi).symm
  have hsw := shl_word lo s hs
  have hV : lo * 2 ^ s % 18446744073709551616 < 18446744073709551616 := Nat.mod_lt _ (by decide)
  refine ⟨y * 2 ^ s, hi * 2 ^ s + lo / 2 ^ (64 - s), lo * 2 ^ s % 18446744073709551616, y * 2 ^ s / 4294967296, y * 2 ^ s % 4294967296, lo * 2 ^ s % 18446744073709551616 / 4294967296, lo * 2 ^ s % 18446744073709551616 % 4294967296, ?_, ?_, ?_, ?_, ?_, ?_, ?_, ?_, ?_, ?_, ?_, ?_, ?_, ?_, rfl, ?_⟩
  · rw [mul_pow_cast, wrap_small _ hY1]
  · rw [mul_pow_cast, wrap_small _ (by omega), div_pow_cast, u64_or_nat _ _ (by omega) (by omega), hor]
  · rw [mul_pow_cast, wrap_nat]
  · omega
  · exact and_mask _ hY1
  · omega
  · exact and_mask _ hV
  · omega
  · exact Nat.mod_lt _ (by decide)
  · omega
  · omega
  · omega
  · exact Nat.mod_lt _ (by decide)
  · omega
  · rw [Nat.add_mul, Nat.add_mul, ← hsw]
    generalize lo / 2 ^ (64 - s) = L at *
    generalize lo * 2 ^ s % 18446744073709551616 = V at *
    rw [Nat.mul_right_comm hi 18446744073709551616 (2 ^ s)]
    omega

/-- A digit's first guess, as the words have it. -/
theorem digit_parts (U v y1 y0 : Nat) (hU : U < 18446744073709551616) (hy0 : y0 < 4294967296) (hy1 : 2147483648 ≤ y1) (hy2 : y1 < 4294967296) (hv : v < 4294967296) (hu : U < y1 * 4294967296 + y0) :
    ∃ q r : Nat, (U : Int) / (y1 : Int) = (q : Int) ∧ IntKind.u64.wrap ((U : Int) - IntKind.u64.wrap ((q : Int) * (y1 : Int))) = (r : Int) ∧ r < 4294967296 ∧ Guess U v y1 y0 q r := by
  have hg := guess_start U v y1 y0 hy0 hy1 hv hu
  have hm := Nat.mod_lt U (show 0 < y1 by omega)
  have hd := Nat.div_add_mod U y1
  have hdl := Nat.div_le_self U y1
  refine ⟨U / y1, U % y1, ?_, ?_, by omega, hg⟩
  · rw [← Int.natCast_ediv]
  · have e : ((U / y1 : Nat) : Int) * (y1 : Int) = ((y1 * (U / y1) : Nat) : Int) := by rw [Int.natCast_mul, Int.mul_comm]
    rw [e, wrap_small _ (by omega), IntKind.wrap_u64]
    generalize y1 * (U / y1) = p at *
    generalize U % y1 = r at *
    omega

theorem mul_words (q y : Nat) (h : q * y < 18446744073709551616) : IntKind.u64.wrap ((q : Int) * (y : Int)) = ((q * y : Nat) : Int) := by rw [← Int.natCast_mul, wrap_small _ h]

theorem digit_rest (U v Y q : Nat) (hY : 0 < Y) (hYl : Y < 18446744073709551616) (h : q = (U * 4294967296 + v) / Y) :
    IntKind.u64.wrap (IntKind.u64.wrap (IntKind.u64.wrap ((U : Int) * 4294967296) + (v : Int)) - IntKind.u64.wrap ((q : Int) * (Y : Int))) = (((U * 4294967296 + v) % Y : Nat) : Int) := by
  have hd := Nat.div_add_mod (U * 4294967296 + v) Y
  have hm := Nat.mod_lt (U * 4294967296 + v) hY
  rw [← h] at hd
  rw [← Int.natCast_mul, Nat.mul_comm q Y]
  simp only [IntKind.wrap_u64]
  generalize Y * q = p at *
  generalize (U * 4294967296 + v) % Y = r at *
  omega

theorem div64_end (hi lo y s U v1 v0 Y q1 q0 : Nat) (hy : 0 < y) (hY : Y = y * 2 ^ s) (hU : U * 18446744073709551616 + v1 * 4294967296 + v0 = (hi * 18446744073709551616 + lo) * 2 ^ s) (h1 : q1 = (U * 4294967296 + v1) / Y) (h0 : q0 = ((U * 4294967296 + v1) % Y * 4294967296 + v0) / Y) :
    q1 * 4294967296 + q0 = (hi * 18446744073709551616 + lo) / y ∧ ((U * 4294967296 + v1) % Y * 4294967296 + v0) % Y / 2 ^ s = (hi * 18446744073709551616 + lo) % y := by
  have hp : 0 < 2 ^ s := Nat.pow_pos (by decide)
  have hYp : 0 < Y := by rw [hY]; exact Nat.mul_pos hy hp
  obtain ⟨t1, t2⟩ := two_digits Y U q1 v1 v0 hYp h1
  rw [h0, t1, t2, hU, hY, Nat.mul_div_mul_right _ _ hp, Nat.mul_mod_mul_right]
  exact ⟨rfl, Nat.mul_div_cancel _ hp⟩

theorem two_words_cast (hi lo : Nat) : (((hi * 18446744073709551616 + lo : Nat) : Int)) = (hi : Int) * 18446744073709551616 + (lo : Int) := by
  rw [Int.natCast_add, Int.natCast_mul]; rfl

theorem end_quo (hi lo y q1 q0 : Nat) (h : q1 * 4294967296 + q0 = (hi * 18446744073709551616 + lo) / y) : (q1 : Int) * 4294967296 + (q0 : Int) = ((hi : Int) * 18446744073709551616 + (lo : Int)) / (y : Int) := by
  rw [← two_words_cast, ← Int.natCast_ediv, ← h, Int.natCast_add, Int.natCast_mul]; rfl

theorem end_rem (hi lo y t : Nat) (h : t = (hi * 18446744073709551616 + lo) % y) : (t : Int) = ((hi : Int) * 18446744073709551616 + (lo : Int)) % (y : Int) := by
  rw [← two_words_cast, ← Int.natCast_emod, ← h]


theorem nret_two {k l : IntKind} {a b c d : Int} (h : a = b) (h' : c = d) : Ending.returned (.tuple #[.int k a, .int l c]) = .returned (.tuple #[.int k b, .int l d]) := by rw [h, h']

set_option maxRecDepth 100000 in
set_option maxHeartbeats 1000000 in
theorem div64_low (lo y : Nat) (w : World) (hl : lo < 18446744073709551616) (hy : y < 18446744073709551616) (h0 : 0 < y) :
    Calls Tryz.prog 153 #[.int .u64 0, .int .u64 (lo : Int), .int .u64 (y : Int)] w fun e w' => e = .returned (.tuple #[.int .u64 ((lo / y : Nat) : Int), .int .u64 ((lo % y : Nat) : Int)]) ∧ Below w.heap.size w w' := by
  have d0 : ((y : Int) == 0) = false := by simp; omega
  have hq : lo / y ≤ lo := Nat.div_le_self _ _
  have HQ : Hid (IntKind.u64.wrap ((lo : Int) / y) = ((lo / y : Nat) : Int)) := by
    rw [Hid, ← Int.natCast_ediv, wrap_small _ (by omega)]
  clear hq
  go_enter Tryz.func153, Tryz.ntmps153
  go_wp2_with fail
  go_quiet (fail)
  go_wp2_with fail
  go_ret2
  exact ⟨nret_two HQ.out (by rw [Int.natCast_emod]), below_drewN (Below.refl _ _) _⟩

set_option maxRecDepth 100000 in
set_option maxHeartbeats 8000000 in
theorem div64_high (hi lo y : Nat) (w : World) (hh : 0 < hi) (hl : lo < 18446744073709551616) (hy : y < 18446744073709551616) (h0 : hi < y) :
    Calls Tryz.prog 153 #[.int .u64 (hi : Int), .int .u64 (lo : Int), .int .u64 (y : Int)] w fun e w' => e = .returned (.tuple #[.int .u64 (((hi * 18446744073709551616 + lo) / y : Nat) : Int), .int .u64 (((hi * 18446744073709551616 + lo) % y : Nat) : Int)]) ∧ Below w.heap.size w w' := by
  have d0 : ((y : Int) == 0) = false := by simp; omega
  have d1 : ((hi : Int) == 0) = false := by simp; omega
  have HC := Tryz.bits_LeadingZeros64 (y : Int) w (by omega) (by omega)
  obtain ⟨s, hs, es, hY0, hY1⟩ := lead_shift y (by omega) hy
  rw [Int.toNat_natCast, es] at HC
  obtain ⟨Y, U, V, y1, y0, v1, v0, e1, e2, e3, e4, e5, e6, e7, hY, hy0, hy1, hy2, hv1, hv0, hU, hYy, hUV⟩ := div64_parts hi lo y s hl h0 hs hY0 hY1
  have hYl : Y < 18446744073709551616 := by rw [hYy]; exact hY1
  obtain ⟨q, r, e8, e9, hr, hG⟩ := digit_parts U v1 y1 y0 (by omega) hy0 hy1 hy2 hv1 (by rw [← hY]; exact hU)
  have HY : Hid (Y = y1 * 4294967296 + y0) := hY
  have HYy : Hid (Y = y * 2 ^ s) := hYy
  have HUV : Hid _ := hUV
  have HG : Hid _ := hG
  have HUY : Hid (U < Y) := hU
  have hq3 : q ≤ 4294967297 := hG.2.2
  have HB : Hid (y0 < 4294967296 ∧ 2147483648 ≤ y1 ∧ y1 < 4294967296 ∧ v1 < 4294967296 ∧ v0 < 4294967296 ∧ Y < 18446744073709551616 ∧ r < 4294967296) := ⟨hy0, hy1, hy2, hv1, hv0, hYl, hr⟩
  obtain ⟨Yi, hYi⟩ : ∃ x : Int, x = (Y : Int) := ⟨_, rfl⟩
  rw [← hYi] at e1 e4 e5
  obtain ⟨Ui, hUi⟩ : ∃ x : Int, x = (U : Int) := ⟨_, rfl⟩
  rw [← hUi] at e2 e8 e9
  obtain ⟨Vi, hVi⟩ : ∃ x : Int, x = (V : Int) := ⟨_, rfl⟩
  rw [← hVi] at e3 e6 e7
  obtain ⟨y1i, hy1i⟩ : ∃ x : Int, x = (y1 : Int) := ⟨_, rfl⟩
  rw [← hy1i] at e4 e8 e9
  obtain ⟨y0i, hy0i⟩ : ∃ x : Int, x = (y0 : Int) := ⟨_, rfl⟩
  rw [← hy0i] at e5
  obtain ⟨v1i, hv1i⟩ : ∃ x : Int, x = (v1 : Int) := ⟨_, rfl⟩
  rw [← hv1i] at e6
  obtain ⟨v0i, hv0i⟩ : ∃ x : Int, x = (v0 : Int) := ⟨_, rfl⟩
  rw [← hv0i] at e7
  obtain ⟨qi, hqi⟩ : ∃ x : Int, x = (q : Int) := ⟨_, rfl⟩
  rw [← hqi] at e8 e9
  obtain ⟨ri, hri⟩ : ∃ x : Int, x = (r : Int) := ⟨_, rfl⟩
  rw [← hri] at e9
  have bY : 9223372036854775808 ≤ Yi ∧ Yi ≤ 18446744073709551615 := by omega
  have bU : 0 ≤ Ui ∧ Ui ≤ 18446744073709551615 := by omega
  have by1 : 2147483648 ≤ y1i ∧ y1i ≤ 4294967295 := by omega
  have by0 : 0 ≤ y0i ∧ y0i ≤ 4294967295 := by omega
  have bv1 : 0 ≤ v1i ∧ v1i ≤ 4294967295 := by omega
  have bv0 : 0 ≤ v0i ∧ v0i ≤ 4294967295 := by omega
  have bV : 0 ≤ Vi ∧ Vi ≤ 18446744073709551615 := by omega
  have bq : 0 ≤ qi ∧ qi ≤ 4294967297 := by omega
  have br : 0 ≤ ri ∧ ri ≤ 4294967295 := by omega
  have HI : Hid (Yi = (Y : Int) ∧ Ui = (U : Int) ∧ y1i = (y1 : Int) ∧ y0i = (y0 : Int) ∧ v1i = (v1 : Int) ∧ v0i = (v0 : Int)) := ⟨hYi, hUi, hy1i, hy0i, hv1i, hv0i⟩
  have HQ0 : Hid (qi = (q : Int) ∧ ri = (r : Int)) := ⟨hqi, hri⟩
  have hnz : (y1i == 0) = false := by simp; omega
  clear es hY hYy hUV hG hU hY0 hY1 hYi hUi hVi hy1i hy0i hv1i hv0i hqi hri hy0 hy1 hy2 hv1 hv0 hYl hr hq3
  go_enter Tryz.func153, Tryz.ntmps153
  go_wp2_with fail
  refine Calls.mono HC ?_
  rintro e w ⟨rfl, rfl⟩
  clear HC
  go_wp2_with fail
  have E8 : Hid (Ui / y1i = qi) := e8
  clear e1 e2 e3 e4 e5 e6 e7 e8 e9 bV
  go_loop [15, 16] (fun vq vr => ∃ (qi ri : Int) (q r : Nat), vq = .int .u64 qi ∧ vr = .int .u64 ri ∧ Hid (qi = (q : Int) ∧ ri = (r : Int)) ∧ (0 ≤ qi ∧ qi ≤ 4294967297) ∧ (0 ≤ ri ∧ ri ≤ 4294967295) ∧ Hid (Guess U v1 y1 y0 q r)) (fun vq _ => (intOf vq).toNat)
  case atStart => exact ⟨qi, ri, _, _, (by first | rfl | rw [E8.out]), rfl, HQ0, bq, br, HG⟩
  case round =>
    clear bq br HQ0 HG E8
    obtain ⟨qi, ri, q, r, rfl, rfl, HQR, bq, br, HG⟩ := hrel
    obtain ⟨p, hpe⟩ : ∃ p : Nat, p = q * y0 := ⟨_, rfl⟩
    obtain ⟨pi, hpi⟩ : ∃ x : Int, x = (p : Int) := ⟨_, rfl⟩
    have hp : p ≤ 18446744073709551615 := by
      have h1 := HQR.out; have h2 := HB.out
      rw [hpe]; exact Nat.le_trans (Nat.mul_le_mul (show q ≤ 4294967297 by omega) (show y0 ≤ 4294967295 by omega)) (by decide)
    have e10 : IntKind.u64.wrap (qi * y0i) = pi := by rw [HQR.out.1, HI.out.2.2.2.1, hpi, mul_words q y0 (by omega), hpe]
    have bp : 0 ≤ pi ∧ pi ≤ 18446744073709551615 := by omega
    have HP : Hid (p = q * y0 ∧ pi = (p : Int)) := ⟨hpe, hpi⟩
    clear hpe hpi hp
    have HST : Hid (4294967296 ≤ qi ∨ 4294967296 * ri + v1i < pi → 1 ≤ q ∧ Guess U v1 y1 y0 (q - 1) (r + y1)) := fun hc => by
      have h1 := HQR.out; have h2 := HP.out; have h3 := HI.out; have h4 := HB.out
      exact guess_step U v1 y1 y0 q r (by omega) (by rw [← HY.out]; exact HUY.out) HG.out (by rw [← h2.1]; omega)
    by_cases hc : 4294967296 ≤ qi ∨ 4294967296 * ri + v1i < pi
    · obtain ⟨hq1, hG2⟩ := HST.out hc
      have HG2 : Hid (Guess U v1 y1 y0 (q - 1) (r + y1)) := hG2
      have hq1i : 1 ≤ qi := by have h1 := HQR.out; omega
      clear hG2 HST hq1
      by_cases hb : 4294967296 ≤ ri + y1i
      · have HQ2 : Hid (q - 1 = (U * 4294967296 + v1) / Y) := by
          have h1 := HQR.out; have h3 := HI.out; have h4 := HB.out
          rw [HY.out]; exact guess_break _ _ y1 y0 _ _ (by omega) (by omega) HG2.out (by omega) (by omega)
        obtain ⟨k1i, rfl⟩ : ∃ k, qi = k + 1 := ⟨qi - 1, by omega⟩
        obtain ⟨k1, rfl⟩ : ∃ k, q = k + 1 := ⟨q - 1, by have h1 := HQR.out; omega⟩
        have HK : Hid (k1i = (k1 : Int)) := by have h1 := HQR.out; rw [Hid]; omega
        have HQ2 : Hid (k1 = (U * 4294967296 + v1) / Y) := by have := HQ2.out; rwa [Nat.add_sub_cancel] at this
        clear HG HG2 HQR
        by_cases hq : 4294967296 ≤ k1i + 1
        · clear hc
          have hYp : 0 < Y := by have := HI.out; omega
          have hYl : Y < 18446744073709551616 := HB.out.2.2.2.2.2.1
          have hk1 : k1 < 4294967296 := by rw [HQ2.out, Nat.div_lt_iff_lt_mul hYp]; have h1 := HUY.out; have h2 := HB.out; omega
          have bk1 : 0 ≤ k1i ∧ k1i ≤ 4294967295 := by have := HK.out; omega
          have HQ1 : Hid (k1 = (U * 4294967296 + v1) / Y) := HQ2
          have HK1 : Hid (k1i = (k1 : Int)) := HK
          obtain ⟨R, hR⟩ : ∃ R : Nat, R = (U * 4294967296 + v1) % Y := ⟨_, rfl⟩
          obtain ⟨Ri, hRi⟩ : ∃ x : Int, x = (R : Int) := ⟨_, rfl⟩
          have hRY : R < Y := by rw [hR]; exact Nat.mod_lt _ hYp
          have e11 : IntKind.u64.wrap (IntKind.u64.wrap (IntKind.u64.wrap (Ui * 4294967296) + v1i) - IntKind.u64.wrap (k1i * Yi)) = Ri := by
            rw [hRi, hR, HK.out, HI.out.2.1, HI.out.2.2.2.2.1, HI.out.1]; exact digit_rest U v1 Y k1 hYp hYl HQ2.out
          have bR : 0 ≤ Ri ∧ Ri ≤ 18446744073709551615 := by omega
          have HR : Hid (R = (U * 4294967296 + v1) % Y ∧ Ri = (R : Int)) := ⟨hR, hRi⟩
          obtain ⟨q2, r2, e12, e13, hr2, hG3⟩ := digit_parts R v0 y1 y0 (by omega) HB.out.1 HB.out.2.1 HB.out.2.2.1 HB.out.2.2.2.2.1 (by rw [← HY.out]; exact hRY)
          obtain ⟨q2i, hq2i⟩ : ∃ x : Int, x = (q2 : Int) := ⟨_, rfl⟩
          obtain ⟨r2i, hr2i⟩ : ∃ x : Int, x = (r2 : Int) := ⟨_, rfl⟩
          rw [← hRi, ← HI.out.2.2.1, ← hq2i] at e12
          rw [← hRi, ← HI.out.2.2.1, ← hq2i, ← hr2i] at e13
          have bq2 : 0 ≤ q2i ∧ q2i ≤ 4294967297 := by have := hG3.2.2; omega
          have br2 : 0 ≤ r2i ∧ r2i ≤ 4294967295 := by omega
          have HQ3 : Hid (q2i = (q2 : Int) ∧ r2i = (r2 : Int)) := ⟨hq2i, hr2i⟩
          have HG3 : Hid (Guess R v0 y1 y0 q2 r2) := hG3
          have HRY : Hid (R < Y) := hRY
          have HYP : Hid (0 < Y ∧ Y < 18446744073709551616) := ⟨hYp, hYl⟩
          clear hG3 hRY hR hRi hq2i hr2i hr2 HQ2 HK hk1 hYp hYl
          go_wp2_with fail
          clear e10 HP bp
          go_loop [18, 16] (fun vq vr => ∃ (qi ri : Int) (q r : Nat), vq = .int .u64 qi ∧ vr = .int .u64 ri ∧ Hid (qi = (q : Int) ∧ ri = (r : Int)) ∧ (0 ≤ qi ∧ qi ≤ 4294967297) ∧ (0 ≤ ri ∧ ri ≤ 4294967295) ∧ Hid (Guess R v0 y1 y0 q r)) (fun vq _ => (intOf vq).toNat)
          case atStart => exact ⟨q2i, r2i, _, _, (by first | rfl | rw [e12]), rfl, HQ3, bq2, br2, HG3⟩
          case round =>
            clear e11 e12 e13 HG3 bq2 br2 HQ3
            obtain ⟨qi, ri, q, r, rfl, rfl, HQR, bq, br, HG⟩ := hrel
            obtain ⟨p, hpe⟩ : ∃ p : Nat, p = q * y0 := ⟨_, rfl⟩
            obtain ⟨pi, hpi⟩ : ∃ x : Int, x = (p : Int) := ⟨_, rfl⟩
            have hp : p ≤ 18446744073709551615 := by
              have h1 := HQR.out; have h2 := HB.out
              rw [hpe]; exact Nat.le_trans (Nat.mul_le_mul (show q ≤ 4294967297 by omega) (show y0 ≤ 4294967295 by omega)) (by decide)
            have e10 : IntKind.u64.wrap (qi * y0i) = pi := by rw [HQR.out.1, HI.out.2.2.2.1, hpi, mul_words q y0 (by omega), hpe]
            have bp : 0 ≤ pi ∧ pi ≤ 18446744073709551615 := by omega
            have HP : Hid (p = q * y0 ∧ pi = (p : Int)) := ⟨hpe, hpi⟩
            clear hpe hpi hp
            have HST : Hid (4294967296 ≤ qi ∨ 4294967296 * ri + v0i < pi → 1 ≤ q ∧ Guess R v0 y1 y0 (q - 1) (r + y1)) := fun hc => by
              have h1 := HQR.out; have h2 := HP.out; have h3 := HI.out; have h4 := HB.out
              exact guess_step R v0 y1 y0 q r (by omega) (by rw [← HY.out]; exact HRY.out) HG.out (by rw [← h2.1]; omega)
            by_cases hc : 4294967296 ≤ qi ∨ 4294967296 * ri + v0i < pi
            · obtain ⟨hq1, hG2⟩ := HST.out hc
              have HG2 : Hid (Guess R v0 y1 y0 (q - 1) (r + y1)) := hG2
              have hq1i : 1 ≤ qi := by have h1 := HQR.out; omega
              clear hG2 HST hq1
              by_cases hb : 4294967296 ≤ ri + y1i
              · have HQ2 : Hid (q - 1 = (R * 4294967296 + v0) / Y) := by
                  have h1 := HQR.out; have h3 := HI.out; have h4 := HB.out
                  rw [HY.out]; exact guess_break _ _ y1 y0 _ _ (by omega) (by omega) HG2.out (by omega) (by omega)
                obtain ⟨k2i, rfl⟩ : ∃ k, qi = k + 1 := ⟨qi - 1, by omega⟩
                obtain ⟨k2, rfl⟩ : ∃ k, q = k + 1 := ⟨q - 1, by have h1 := HQR.out; omega⟩
                have HK : Hid (k2i = (k2 : Int)) := by have h1 := HQR.out; rw [Hid]; omega
                have HQ2 : Hid (k2 = (R * 4294967296 + v0) / Y) := by have := HQ2.out; rwa [Nat.add_sub_cancel] at this
                clear HG HG2 HQR
                by_cases hq : 4294967296 ≤ k2i + 1
                · clear hc
                  have hk2 : k2 < 4294967296 := by rw [HQ2.out, Nat.div_lt_iff_lt_mul HYP.out.1]; have h1 := HRY.out; have h2 := HB.out; omega
                  have bk2 : 0 ≤ k2i ∧ k2i ≤ 4294967295 := by have := HK.out; omega
                  obtain ⟨T, hT⟩ : ∃ T : Nat, T = (R * 4294967296 + v0) % Y := ⟨_, rfl⟩
                  obtain ⟨Ti, hTi⟩ : ∃ x : Int, x = (T : Int) := ⟨_, rfl⟩
                  have e14 : IntKind.u64.wrap (IntKind.u64.wrap (IntKind.u64.wrap (Ri * 4294967296) + v0i) - IntKind.u64.wrap (k2i * Yi)) = Ti := by
                    rw [hTi, hT, HK.out, HR.out.2, HI.out.2.2.2.2.2, HI.out.1]; exact digit_rest R v0 Y k2 HYP.out.1 HYP.out.2 HQ2.out
                  have HT : Hid (T = (R * 4294967296 + v0) % Y ∧ Ti = (T : Int)) := ⟨hT, hTi⟩
                  have bT : 0 ≤ Ti := by omega
                  clear hT hTi hk2
                  go_wp2_with fail
                  go_ret2
                  obtain ⟨t1, t2⟩ := div64_end hi lo y s U v1 v0 Y k1 k2 (by omega) HYy.out HUV.out HQ1.out (by rw [← HR.out.1]; exact HQ2.out)
                  have t3 : T / 2 ^ s = (hi * 18446744073709551616 + lo) % y := by rw [← t2, ← HR.out.1, ← HT.out.1]
                  exact ⟨nret_two (by rw [HK1.out, HK.out]; exact end_quo _ _ _ _ _ t1) (by rw [HT.out.2, div_pow_cast]; exact end_rem _ _ _ _ t3), Below.refl _ _⟩
                · have hc2 : 4294967296 * ri + v0i < pi := by omega
                  clear hc
                  have hk2 : k2 < 4294967296 := by rw [HQ2.out, Nat.div_lt_iff_lt_mul HYP.out.1]; have h1 := HRY.out; have h2 := HB.out; omega
                  have bk2 : 0 ≤ k2i ∧ k2i ≤ 4294967295 := by have := HK.out; omega
                  obtain ⟨T, hT⟩ : ∃ T : Nat, T = (R * 4294967296 + v0) % Y := ⟨_, rfl⟩
                  obtain ⟨Ti, hTi⟩ : ∃ x : Int, x = (T : Int) := ⟨_, rfl⟩
                  have e14 : IntKind.u64.wrap (IntKind.u64.wrap (IntKind.u64.wrap (Ri * 4294967296) + v0i) - IntKind.u64.wrap (k2i * Yi)) = Ti := by
                    rw [hTi, hT, HK.out, HR.out.2, HI.out.2.2.2.2.2, HI.out.1]; exact digit_rest R v0 Y k2 HYP.out.1 HYP.out.2 HQ2.out
                  have HT : Hid (T = (R * 4294967296 + v0) % Y ∧ Ti = (T : Int)) := ⟨hT, hTi⟩
                  have bT : 0 ≤ Ti := by omega
                  clear hT hTi hk2
                  go_wp2_with fail
                  go_ret2
                  obtain ⟨t1, t2⟩ := div64_end hi lo y s U v1 v0 Y k1 k2 (by omega) HYy.out HUV.out HQ1.out (by rw [← HR.out.1]; exact HQ2.out)
                  have t3 : T / 2 ^ s = (hi * 18446744073709551616 + lo) % y := by rw [← t2, ← HR.out.1, ← HT.out.1]
                  exact ⟨nret_two (by rw [HK1.out, HK.out]; exact end_quo _ _ _ _ _ t1) (by rw [HT.out.2, div_pow_cast]; exact end_rem _ _ _ _ t3), Below.refl _ _⟩
              · have HNX : Hid (qi - 1 = ((q - 1 : Nat) : Int) ∧ ri + y1i = ((r + y1 : Nat) : Int)) := by have h1 := HQR.out; have h3 := HI.out; rw [Hid]; omega
                by_cases hq : 4294967296 ≤ qi
                · clear hc
                  go_wp2_with fail
                  go_round
                  case rel => exact ⟨qi - 1, ri + y1i, q - 1, r + y1, rfl, rfl, HNX, by omega, by omega, HG2⟩
                  case measure => simp [intOf]; omega
                · have hc2 : 4294967296 * ri + v0i < pi := by omega
                  clear hc
                  go_wp2_with fail
                  go_round
                  case rel => exact ⟨qi - 1, ri + y1i, q - 1, r + y1, rfl, rfl, HNX, by omega, by omega, HG2⟩
                  case measure => simp [intOf]; omega
            · have HQ2' : Hid (q = (R * 4294967296 + v0) / Y) := by
                have h1 := HQR.out; have h2 := HP.out; have h3 := HI.out; have h4 := HB.out
                rw [HY.out]; exact guess_end _ _ y1 y0 _ _ (by omega) HG.out (by rw [← h2.1]; omega)
              obtain ⟨k2, hke⟩ : ∃ k, k = q := ⟨_, rfl⟩
              obtain ⟨k2i, hkei⟩ : ∃ k, k = qi := ⟨_, rfl⟩
              have HQ2 : Hid (k2 = (R * 4294967296 + v0) / Y) := by rw [Hid, hke]; exact HQ2'
              have HK : Hid (k2i = (k2 : Int)) := by have h1 := HQR.out; rw [Hid]; omega
              have hq : qi < 4294967296 := by omega
              have hc2 : pi ≤ 4294967296 * ri + v0i := by omega
              clear hc HG HST HQ2' HQR
              subst hkei hke
              have hk2 : k2 < 4294967296 := by rw [HQ2.out, Nat.div_lt_iff_lt_mul HYP.out.1]; have h1 := HRY.out; have h2 := HB.out; omega
              have bk2 : 0 ≤ k2i ∧ k2i ≤ 4294967295 := by have := HK.out; omega
              obtain ⟨T, hT⟩ : ∃ T : Nat, T = (R * 4294967296 + v0) % Y := ⟨_, rfl⟩
              obtain ⟨Ti, hTi⟩ : ∃ x : Int, x = (T : Int) := ⟨_, rfl⟩
              have e14 : IntKind.u64.wrap (IntKind.u64.wrap (IntKind.u64.wrap (Ri * 4294967296) + v0i) - IntKind.u64.wrap (k2i * Yi)) = Ti := by
                rw [hTi, hT, HK.out, HR.out.2, HI.out.2.2.2.2.2, HI.out.1]; exact digit_rest R v0 Y k2 HYP.out.1 HYP.out.2 HQ2.out
              have HT : Hid (T = (R * 4294967296 + v0) % Y ∧ Ti = (T : Int)) := ⟨hT, hTi⟩
              have bT : 0 ≤ Ti := by omega
              clear hT hTi hk2
              go_wp2_with fail
              go_ret2
              obtain ⟨t1, t2⟩ := div64_end hi lo y s U v1 v0 Y k1 k2 (by omega) HYy.out HUV.out HQ1.out (by rw [← HR.out.1]; exact HQ2.out)
              have t3 : T / 2 ^ s = (hi * 18446744073709551616 + lo) % y := by rw [← t2, ← HR.out.1, ← HT.out.1]
              exact ⟨nret_two (by rw [HK1.out, HK.out]; exact end_quo _ _ _ _ _ t1) (by rw [HT.out.2, div_pow_cast]; exact end_rem _ _ _ _ t3), Below.refl _ _⟩
        · have hc2 : 4294967296 * ri + v1i < pi := by omega
          clear hc
          have hYp : 0 < Y := by have := HI.out; omega
          have hYl : Y < 18446744073709551616 := HB.out.2.2.2.2.2.1
          have hk1 : k1 < 4294967296 := by rw [HQ2.out, Nat.div_lt_iff_lt_mul hYp]; have h1 := HUY.out; have h2 := HB.out; omega
          have bk1 : 0 ≤ k1i ∧ k1i ≤ 4294967295 := by have := HK.out; omega
          have HQ1 : Hid (k1 = (U * 4294967296 + v1) / Y) := HQ2
          have HK1 : Hid (k1i = (k1 : Int)) := HK
          obtain ⟨R, hR⟩ : ∃ R : Nat, R = (U * 4294967296 + v1) % Y := ⟨_, rfl⟩
          obtain ⟨Ri, hRi⟩ : ∃ x : Int, x = (R : Int) := ⟨_, rfl⟩
          have hRY : R < Y := by rw [hR]; exact Nat.mod_lt _ hYp
          have e11 : IntKind.u64.wrap (IntKind.u64.wrap (IntKind.u64.wrap (Ui * 4294967296) + v1i) - IntKind.u64.wrap (k1i * Yi)) = Ri := by
            rw [hRi, hR, HK.out, HI.out.2.1, HI.out.2.2.2.2.1, HI.out.1]; exact digit_rest U v1 Y k1 hYp hYl HQ2.out
          have bR : 0 ≤ Ri ∧ Ri ≤ 18446744073709551615 := by omega
          have HR : Hid (R = (U * 4294967296 + v1) % Y ∧ Ri = (R : Int)) := ⟨hR, hRi⟩
          obtain ⟨q2, r2, e12, e13, hr2, hG3⟩ := digit_parts R v0 y1 y0 (by omega) HB.out.1 HB.out.2.1 HB.out.2.2.1 HB.out.2.2.2.2.1 (by rw [← HY.out]; exact hRY)
          obtain ⟨q2i, hq2i⟩ : ∃ x : Int, x = (q2 : Int) := ⟨_, rfl⟩
          obtain ⟨r2i, hr2i⟩ : ∃ x : Int, x = (r2 : Int) := ⟨_, rfl⟩
          rw [← hRi, ← HI.out.2.2.1, ← hq2i] at e12
          rw [← hRi, ← HI.out.2.2.1, ← hq2i, ← hr2i] at e13
          have bq2 : 0 ≤ q2i ∧ q2i ≤ 4294967297 := by have := hG3.2.2; omega
          have br2 : 0 ≤ r2i ∧ r2i ≤ 4294967295 := by omega
          have HQ3 : Hid (q2i = (q2 : Int) ∧ r2i = (r2 : Int)) := ⟨hq2i, hr2i⟩
          have HG3 : Hid (Guess R v0 y1 y0 q2 r2) := hG3
          have HRY : Hid (R < Y) := hRY
          have HYP : Hid (0 < Y ∧ Y < 18446744073709551616) := ⟨hYp, hYl⟩
          clear hG3 hRY hR hRi hq2i hr2i hr2 HQ2 HK hk1 hYp hYl
          go_wp2_with fail
          clear e10 HP bp
          go_loop [18, 16] (fun vq vr => ∃ (qi ri : Int) (q r : Nat), vq = .int .u64 qi ∧ vr = .int .u64 ri ∧ Hid (qi = (q : Int) ∧ ri = (r : Int)) ∧ (0 ≤ qi ∧ qi ≤ 4294967297) ∧ (0 ≤ ri ∧ ri ≤ 4294967295) ∧ Hid (Guess R v0 y1 y0 q r)) (fun vq _ => (intOf vq).toNat)
          case atStart => exact ⟨q2i, r2i, _, _, (by first | rfl | rw [e12]), rfl, HQ3, bq2, br2, HG3⟩
          case round =>
            clear e11 e12 e13 HG3 bq2 br2 HQ3
            obtain ⟨qi, ri, q, r, rfl, rfl, HQR, bq, br, HG⟩ := hrel
            obtain ⟨p, hpe⟩ : ∃ p : Nat, p = q * y0 := ⟨_, rfl⟩
            obtain ⟨pi, hpi⟩ : ∃ x : Int, x = (p : Int) := ⟨_, rfl⟩
            have hp : p ≤ 18446744073709551615 := by
              have h1 := HQR.out; have h2 := HB.out
              rw [hpe]; exact Nat.le_trans (Nat.mul_le_mul (show q ≤ 4294967297 by omega) (show y0 ≤ 4294967295 by omega)) (by decide)
            have e10 : IntKind.u64.wrap (qi * y0i) = pi := by rw [HQR.out.1, HI.out.2.2.2.1, hpi, mul_words q y0 (by omega), hpe]
            have bp : 0 ≤ pi ∧ pi ≤ 18446744073709551615 := by omega
            have HP : Hid (p = q * y0 ∧ pi = (p : Int)) := ⟨hpe, hpi⟩
            clear hpe hpi hp
            have HST : Hid (4294967296 ≤ qi ∨ 4294967296 * ri + v0i < pi → 1 ≤ q ∧ Guess R v0 y1 y0 (q - 1) (r + y1)) := fun hc => by
              have h1 := HQR.out; have h2 := HP.out; have h3 := HI.out; have h4 := HB.out
              exact guess_step R v0 y1 y0 q r (by omega) (by rw [← HY.out]; exact HRY.out) HG.out (by rw [← h2.1]; omega)
            by_cases hc : 4294967296 ≤ qi ∨ 4294967296 * ri + v0i < pi
            · obtain ⟨hq1, hG2⟩ := HST.out hc
              have HG2 : Hid (Guess R v0 y1 y0 (q - 1) (r + y1)) := hG2
              have hq1i : 1 ≤ qi := by have h1 := HQR.out; omega
              clear hG2 HST hq1
              by_cases hb : 4294967296 ≤ ri + y1i
              · have HQ2 : Hid (q - 1 = (R * 4294967296 + v0) / Y) := by
                  have h1 := HQR.out; have h3 := HI.out; have h4 := HB.out
                  rw [HY.out]; exact guess_break _ _ y1 y0 _ _ (by omega) (by omega) HG2.out (by omega) (by omega)
                obtain ⟨k2i, rfl⟩ : ∃ k, qi = k + 1 := ⟨qi - 1, by omega⟩
                obtain ⟨k2, rfl⟩ : ∃ k, q = k + 1 := ⟨q - 1, by have h1 := HQR.out; omega⟩
                have HK : Hid (k2i = (k2 : Int)) := by have h1 := HQR.out; rw [Hid]; omega
                have HQ2 : Hid (k2 = (R * 4294967296 + v0) / Y) := by have := HQ2.out; rwa [Nat.add_sub_cancel] at this
                clear HG HG2 HQR
                by_cases hq : 4294967296 ≤ k2i + 1
                · clear hc
                  have hk2 : k2 < 4294967296 := by rw [HQ2.out, Nat.div_lt_iff_lt_mul HYP.out.1]; have h1 := HRY.out; have h2 := HB.out; omega
                  have bk2 : 0 ≤ k2i ∧ k2i ≤ 4294967295 := by have := HK.out; omega
                  obtain ⟨T, hT⟩ : ∃ T : Nat, T = (R * 4294967296 + v0) % Y := ⟨_, rfl⟩
                  obtain ⟨Ti, hTi⟩ : ∃ x : Int, x = (T : Int) := ⟨_, rfl⟩
                  have e14 : IntKind.u64.wrap (IntKind.u64.wrap (IntKind.u64.wrap (Ri * 4294967296) + v0i) - IntKind.u64.wrap (k2i * Yi)) = Ti := by
                    rw [hTi, hT, HK.out, HR.out.2, HI.out.2.2.2.2.2, HI.out.1]; exact digit_rest R v0 Y k2 HYP.out.1 HYP.out.2 HQ2.out
                  have HT : Hid (T = (R * 4294967296 + v0) % Y ∧ Ti = (T : Int)) := ⟨hT, hTi⟩
                  have bT : 0 ≤ Ti := by omega
                  clear hT hTi hk2
                  go_wp2_with fail
                  go_ret2
                  obtain ⟨t1, t2⟩ := div64_end hi lo y s U v1 v0 Y k1 k2 (by omega) HYy.out HUV.out HQ1.out (by rw [← HR.out.1]; exact HQ2.out)
                  have t3 : T / 2 ^ s = (hi * 18446744073709551616 + lo) % y := by rw [← t2, ← HR.out.1, ← HT.out.1]
                  exact ⟨nret_two (by rw [HK1.out, HK.out]; exact end_quo _ _ _ _ _ t1) (by rw [HT.out.2, div_pow_cast]; exact end_rem _ _ _ _ t3), Below.refl _ _⟩
                · have hc2 : 4294967296 * ri + v0i < pi := by omega
                  clear hc
                  have hk2 : k2 < 4294967296 := by rw [HQ2.out, Nat.div_lt_iff_lt_mul HYP.out.1]; have h1 := HRY.out; have h2 := HB.out; omega
                  have bk2 : 0 ≤ k2i ∧ k2i ≤ 4294967295 := by have := HK.out; omega
                  obtain ⟨T, hT⟩ : ∃ T : Nat, T = (R * 4294967296 + v0) % Y := ⟨_, rfl⟩
                  obtain ⟨Ti, hTi⟩ : ∃ x : Int, x = (T : Int) := ⟨_, rfl⟩
                  have e14 : IntKind.u64.wrap (IntKind.u64.wrap (IntKind.u64.wrap (Ri * 4294967296) + v0i) - IntKind.u64.wrap (k2i * Yi)) = Ti := by
                    rw [hTi, hT, HK.out, HR.out.2, HI.out.2.2.2.2.2, HI.out.1]; exact digit_rest R v0 Y k2 HYP.out.1 HYP.out.2 HQ2.out
                  have HT : Hid (T = (R * 4294967296 + v0) % Y ∧ Ti = (T : Int)) := ⟨hT, hTi⟩
                  have bT : 0 ≤ Ti := by omega
                  clear hT hTi hk2
                  go_wp2_with fail
                  go_ret2
                  obtain ⟨t1, t2⟩ := div64_end hi lo y s U v1 v0 Y k1 k2 (by omega) HYy.out HUV.out HQ1.out (by rw [← HR.out.1]; exact HQ2.out)
                  have t3 : T / 2 ^ s = (hi * 18446744073709551616 + lo) % y := by rw [← t2, ← HR.out.1, ← HT.out.1]
                  exact ⟨nret_two (by rw [HK1.out, HK.out]; exact end_quo _ _ _ _ _ t1) (by rw [HT.out.2, div_pow_cast]; exact end_rem _ _ _ _ t3), Below.refl _ _⟩
              · have HNX : Hid (qi - 1 = ((q - 1 : Nat) : Int) ∧ ri + y1i = ((r + y1 : Nat) : Int)) := by have h1 := HQR.out; have h3 := HI.out; rw [Hid]; omega
                by_cases hq : 4294967296 ≤ qi
                · clear hc
                  go_wp2_with fail
                  go_round
                  case rel => exact ⟨qi - 1, ri + y1i, q - 1, r + y1, rfl, rfl, HNX, by omega, by omega, HG2⟩
                  case measure => simp [intOf]; omega
                · have hc2 : 4294967296 * ri + v0i < pi := by omega
                  clear hc
                  go_wp2_with fail
                  go_round
                  case rel => exact ⟨qi - 1, ri + y1i, q - 1, r + y1, rfl, rfl, HNX, by omega, by omega, HG2⟩
                  case measure => simp [intOf]; omega
            · have HQ2' : Hid (q = (R * 4294967296 + v0) / Y) := by
                have h1 := HQR.out; have h2 := HP.out; have h3 := HI.out; have h4 := HB.out
                rw [HY.out]; exact guess_end _ _ y1 y0 _ _ (by omega) HG.out (by rw [← h2.1]; omega)
              obtain ⟨k2, hke⟩ : ∃ k, k = q := ⟨_, rfl⟩
              obtain ⟨k2i, hkei⟩ : ∃ k, k = qi := ⟨_, rfl⟩
              have HQ2 : Hid (k2 = (R * 4294967296 + v0) / Y) := by rw [Hid, hke]; exact HQ2'
              have HK : Hid (k2i = (k2 : Int)) := by have h1 := HQR.out; rw [Hid]; omega
              have hq : qi < 4294967296 := by omega
              have hc2 : pi ≤ 4294967296 * ri + v0i := by omega
              clear hc HG HST HQ2' HQR
              subst hkei hke
              have hk2 : k2 < 4294967296 := by rw [HQ2.out, Nat.div_lt_iff_lt_mul HYP.out.1]; have h1 := HRY.out; have h2 := HB.out; omega
              have bk2 : 0 ≤ k2i ∧ k2i ≤ 4294967295 := by have := HK.out; omega
              obtain ⟨T, hT⟩ : ∃ T : Nat, T = (R * 4294967296 + v0) % Y := ⟨_, rfl⟩
              obtain ⟨Ti, hTi⟩ : ∃ x : Int, x = (T : Int) := ⟨_, rfl⟩
              have e14 : IntKind.u64.wrap (IntKind.u64.wrap (IntKind.u64.wrap (Ri * 4294967296) + v0i) - IntKind.u64.wrap (k2i * Yi)) = Ti := by
                rw [hTi, hT, HK.out, HR.out.2, HI.out.2.2.2.2.2, HI.out.1]; exact digit_rest R v0 Y k2 HYP.out.1 HYP.out.2 HQ2.out
              have HT : Hid (T = (R * 4294967296 + v0) % Y ∧ Ti = (T : Int)) := ⟨hT, hTi⟩
              have bT : 0 ≤ Ti := by omega
              clear hT hTi hk2
              go_wp2_with fail
              go_ret2
              obtain ⟨t1, t2⟩ := div64_end hi lo y s U v1 v0 Y k1 k2 (by omega) HYy.out HUV.out HQ1.out (by rw [← HR.out.1]; exact HQ2.out)
              have t3 : T / 2 ^ s = (hi * 18446744073709551616 + lo) % y := by rw [← t2, ← HR.out.1, ← HT.out.1]
              exact ⟨nret_two (by rw [HK1.out, HK.out]; exact end_quo _ _ _ _ _ t1) (by rw [HT.out.2, div_pow_cast]; exact end_rem _ _ _ _ t3), Below.refl _ _⟩
      · have HNX : Hid (qi - 1 = ((q - 1 : Nat) : Int) ∧ ri + y1i = ((r + y1 : Nat) : Int)) := by have h1 := HQR.out; have h3 := HI.out; rw [Hid]; omega
        by_cases hq : 4294967296 ≤ qi
        · clear hc
          go_wp2_with fail
          go_round
          case rel => exact ⟨qi - 1, ri + y1i, q - 1, r + y1, rfl, rfl, HNX, by omega, by omega, HG2⟩
          case measure => simp [intOf]; omega
        · have hc2 : 4294967296 * ri + v1i < pi := by omega
          clear hc
          go_wp2_with fail
          go_round
          case rel => exact ⟨qi - 1, ri + y1i, q - 1, r + y1, rfl, rfl, HNX, by omega, by omega, HG2⟩
          case measure => simp [intOf]; omega
    · have HQ2' : Hid (q = (U * 4294967296 + v1) / Y) := by
        have h1 := HQR.out; have h2 := HP.out; have h3 := HI.out; have h4 := HB.out
        rw [HY.out]; exact guess_end _ _ y1 y0 _ _ (by omega) HG.out (by rw [← h2.1]; omega)
      obtain ⟨k1, hke⟩ : ∃ k, k = q := ⟨_, rfl⟩
      obtain ⟨k1i, hkei⟩ : ∃ k, k = qi := ⟨_, rfl⟩
      have HQ2 : Hid (k1 = (U * 4294967296 + v1) / Y) := by rw [Hid, hke]; exact HQ2'
      have HK : Hid (k1i = (k1 : Int)) := by have h1 := HQR.out; rw [Hid]; omega
      have hq : qi < 4294967296 := by omega
      have hc2 : pi ≤ 4294967296 * ri + v1i := by omega
      clear hc HG HST HQ2' HQR
      subst hkei hke
      have hYp : 0 < Y := by have := HI.out; omega
      have hYl : Y < 18446744073709551616 := HB.out.2.2.2.2.2.1
      have hk1 : k1 < 4294967296 := by rw [HQ2.out, Nat.div_lt_iff_lt_mul hYp]; have h1 := HUY.out; have h2 := HB.out; omega
      have bk1 : 0 ≤ k1i ∧ k1i ≤ 4294967295 := by have := HK.out; omega
      have HQ1 : Hid (k1 = (U * 4294967296 + v1) / Y) := HQ2
      have HK1 : Hid (k1i = (k1 : Int)) := HK
      obtain ⟨R, hR⟩ : ∃ R : Nat, R = (U * 4294967296 + v1) % Y := ⟨_, rfl⟩
      obtain ⟨Ri, hRi⟩ : ∃ x : Int, x = (R : Int) := ⟨_, rfl⟩
      have hRY : R < Y := by rw [hR]; exact Nat.mod_lt _ hYp
      have e11 : IntKind.u64.wrap (IntKind.u64.wrap (IntKind.u64.wrap (Ui * 4294967296) + v1i) - IntKind.u64.wrap (k1i * Yi)) = Ri := by
        rw [hRi, hR, HK.out, HI.out.2.1, HI.out.2.2.2.2.1, HI.out.1]; exact digit_rest U v1 Y k1 hYp hYl HQ2.out
      have bR : 0 ≤ Ri ∧ Ri ≤ 18446744073709551615 := by omega
      have HR : Hid (R = (U * 4294967296 + v1) % Y ∧ Ri = (R : Int)) := ⟨hR, hRi⟩
      obtain ⟨q2, r2, e12, e13, hr2, hG3⟩ := digit_parts R v0 y1 y0 (by omega) HB.out.1 HB.out.2.1 HB.out.2.2.1 HB.out.2.2.2.2.1 (by rw [← HY.out]; exact hRY)
      obtain ⟨q2i, hq2i⟩ : ∃ x : Int, x = (q2 : Int) := ⟨_, rfl⟩
      obtain ⟨r2i, hr2i⟩ : ∃ x : Int, x = (r2 : Int) := ⟨_, rfl⟩
      rw [← hRi, ← HI.out.2.2.1, ← hq2i] at e12
      rw [← hRi, ← HI.out.2.2.1, ← hq2i, ← hr2i] at e13
      have bq2 : 0 ≤ q2i ∧ q2i ≤ 4294967297 := by have := hG3.2.2; omega
      have br2 : 0 ≤ r2i ∧ r2i ≤ 4294967295 := by omega
      have HQ3 : Hid (q2i = (q2 : Int) ∧ r2i = (r2 : Int)) := ⟨hq2i, hr2i⟩
      have HG3 : Hid (Guess R v0 y1 y0 q2 r2) := hG3
      have HRY : Hid (R < Y) := hRY
      have HYP : Hid (0 < Y ∧ Y < 18446744073709551616) := ⟨hYp, hYl⟩
      clear hG3 hRY hR hRi hq2i hr2i hr2 HQ2 HK hk1 hYp hYl
      go_wp2_with fail
      clear e10 HP bp
      go_loop [18, 16] (fun vq vr => ∃ (qi ri : Int) (q r : Nat), vq = .int .u64 qi ∧ vr = .int .u64 ri ∧ Hid (qi = (q : Int) ∧ ri = (r : Int)) ∧ (0 ≤ qi ∧ qi ≤ 4294967297) ∧ (0 ≤ ri ∧ ri ≤ 4294967295) ∧ Hid (Guess R v0 y1 y0 q r)) (fun vq _ => (intOf vq).toNat)
      case atStart => exact ⟨q2i, r2i, _, _, (by first | rfl | rw [e12]), rfl, HQ3, bq2, br2, HG3⟩
      case round =>
        clear e11 e12 e13 HG3 bq2 br2 HQ3
        obtain ⟨qi, ri, q, r, rfl, rfl, HQR, bq, br, HG⟩ := hrel
        obtain ⟨p, hpe⟩ : ∃ p : Nat, p = q * y0 := ⟨_, rfl⟩
        obtain ⟨pi, hpi⟩ : ∃ x : Int, x = (p : Int) := ⟨_, rfl⟩
        have hp : p ≤ 18446744073709551615 := by
          have h1 := HQR.out; have h2 := HB.out
          rw [hpe]; exact Nat.le_trans (Nat.mul_le_mul (show q ≤ 4294967297 by omega) (show y0 ≤ 4294967295 by omega)) (by decide)
        have e10 : IntKind.u64.wrap (qi * y0i) = pi := by rw [HQR.out.1, HI.out.2.2.2.1, hpi, mul_words q y0 (by omega), hpe]
        have bp : 0 ≤ pi ∧ pi ≤ 18446744073709551615 := by omega
        have HP : Hid (p = q * y0 ∧ pi = (p : Int)) := ⟨hpe, hpi⟩
        clear hpe hpi hp
        have HST : Hid (4294967296 ≤ qi ∨ 4294967296 * ri + v0i < pi → 1 ≤ q ∧ Guess R v0 y1 y0 (q - 1) (r + y1)) := fun hc => by
          have h1 := HQR.out; have h2 := HP.out; have h3 := HI.out; have h4 := HB.out
          exact guess_step R v0 y1 y0 q r (by omega) (by rw [← HY.out]; exact HRY.out) HG.out (by rw [← h2.1]; omega)
        by_cases hc : 4294967296 ≤ qi ∨ 4294967296 * ri + v0i < pi
        · obtain ⟨hq1, hG2⟩ := HST.out hc
          have HG2 : Hid (Guess R v0 y1 y0 (q - 1) (r + y1)) := hG2
          have hq1i : 1 ≤ qi := by have h1 := HQR.out; omega
          clear hG2 HST hq1
          by_cases hb : 4294967296 ≤ ri + y1i
          · have HQ2 : Hid (q - 1 = (R * 4294967296 + v0) / Y) := by
              have h1 := HQR.out; have h3 := HI.out; have h4 := HB.out
              rw [HY.out]; exact guess_break _ _ y1 y0 _ _ (by omega) (by omega) HG2.out (by omega) (by omega)
            obtain ⟨k2i, rfl⟩ : ∃ k, qi = k + 1 := ⟨qi - 1, by omega⟩
            obtain ⟨k2, rfl⟩ : ∃ k, q = k + 1 := ⟨q - 1, by have h1 := HQR.out; omega⟩
            have HK : Hid (k2i = (k2 : Int)) := by have h1 := HQR.out; rw [Hid]; omega
            have HQ2 : Hid (k2 = (R * 4294967296 + v0) / Y) := by have := HQ2.out; rwa [Nat.add_sub_cancel] at this
            clear HG HG2 HQR
            by_cases hq : 4294967296 ≤ k2i + 1
            · clear hc
              have hk2 : k2 < 4294967296 := by rw [HQ2.out, Nat.div_lt_iff_lt_mul HYP.out.1]; have h1 := HRY.out; have h2 := HB.out; omega
              have bk2 : 0 ≤ k2i ∧ k2i ≤ 4294967295 := by have := HK.out; omega
              obtain ⟨T, hT⟩ : ∃ T : Nat, T = (R * 4294967296 + v0) % Y := ⟨_, rfl⟩
              obtain ⟨Ti, hTi⟩ : ∃ x : Int, x = (T : Int) := ⟨_, rfl⟩
              have e14 : IntKind.u64.wrap (IntKind.u64.wrap (IntKind.u64.wrap (Ri * 4294967296) + v0i) - IntKind.u64.wrap (k2i * Yi)) = Ti := by
                rw [hTi, hT, HK.out, HR.out.2, HI.out.2.2.2.2.2, HI.out.1]; exact digit_rest R v0 Y k2 HYP.out.1 HYP.out.2 HQ2.out
              have HT : Hid (T = (R * 4294967296 + v0) % Y ∧ Ti = (T : Int)) := ⟨hT, hTi⟩
              have bT : 0 ≤ Ti := by omega
              clear hT hTi hk2
              go_wp2_with fail
              go_ret2
              obtain ⟨t1, t2⟩ := div64_end hi lo y s U v1 v0 Y k1 k2 (by omega) HYy.out HUV.out HQ1.out (by rw [← HR.out.1]; exact HQ2.out)
              have t3 : T / 2 ^ s = (hi * 18446744073709551616 + lo) % y := by rw [← t2, ← HR.out.1, ← HT.out.1]
              exact ⟨nret_two (by rw [HK1.out, HK.out]; exact end_quo _ _ _ _ _ t1) (by rw [HT.out.2, div_pow_cast]; exact end_rem _ _ _ _ t3), Below.refl _ _⟩
            · have hc2 : 4294967296 * ri + v0i < pi := by omega
              clear hc
              have hk2 : k2 < 4294967296 := by rw [HQ2.out, Nat.div_lt_iff_lt_mul HYP.out.1]; have h1 := HRY.out; have h2 := HB.out; omega
              have bk2 : 0 ≤ k2i ∧ k2i ≤ 4294967295 := by have := HK.out; omega
              obtain ⟨T, hT⟩ : ∃ T : Nat, T = (R * 4294967296 + v0) % Y := ⟨_, rfl⟩
              obtain ⟨Ti, hTi⟩ : ∃ x : Int, x = (T : Int) := ⟨_, rfl⟩
              have e14 : IntKind.u64.wrap (IntKind.u64.wrap (IntKind.u64.wrap (Ri * 4294967296) + v0i) - IntKind.u64.wrap (k2i * Yi)) = Ti := by
                rw [hTi, hT, HK.out, HR.out.2, HI.out.2.2.2.2.2, HI.out.1]; exact digit_rest R v0 Y k2 HYP.out.1 HYP.out.2 HQ2.out
              have HT : Hid (T = (R * 4294967296 + v0) % Y ∧ Ti = (T : Int)) := ⟨hT, hTi⟩
              have bT : 0 ≤ Ti := by omega
              clear hT hTi hk2
              go_wp2_with fail
              go_ret2
              obtain ⟨t1, t2⟩ := div64_end hi lo y s U v1 v0 Y k1 k2 (by omega) HYy.out HUV.out HQ1.out (by rw [← HR.out.1]; exact HQ2.out)
              have t3 : T / 2 ^ s = (hi * 18446744073709551616 + lo) % y := by rw [← t2, ← HR.out.1, ← HT.out.1]
              exact ⟨nret_two (by rw [HK1.out, HK.out]; exact end_quo _ _ _ _ _ t1) (by rw [HT.out.2, div_pow_cast]; exact end_rem _ _ _ _ t3), Below.refl _ _⟩
          · have HNX : Hid (qi - 1 = ((q - 1 : Nat) : Int) ∧ ri + y1i = ((r + y1 : Nat) : Int)) := by have h1 := HQR.out; have h3 := HI.out; rw [Hid]; omega
            by_cases hq : 4294967296 ≤ qi
            · clear hc
              go_wp2_with fail
              go_round
              case rel => exact ⟨qi - 1, ri + y1i, q - 1, r + y1, rfl, rfl, HNX, by omega, by omega, HG2⟩
              case measure => simp [intOf]; omega
            · have hc2 : 4294967296 * ri + v0i < pi := by omega
              clear hc
              go_wp2_with fail
              go_round
              case rel => exact ⟨qi - 1, ri + y1i, q - 1, r + y1, rfl, rfl, HNX, by omega, by omega, HG2⟩
              case measure => simp [intOf]; omega
        · have HQ2' : Hid (q = (R * 4294967296 + v0) / Y) := by
            have h1 := HQR.out; have h2 := HP.out; have h3 := HI.out; have h4 := HB.out
            rw [HY.out]; exact guess_end _ _ y1 y0 _ _ (by omega) HG.out (by rw [← h2.1]; omega)
          obtain ⟨k2, hke⟩ : ∃ k, k = q := ⟨_, rfl⟩
          obtain ⟨k2i, hkei⟩ : ∃ k, k = qi := ⟨_, rfl⟩
          have HQ2 : Hid (k2 = (R * 4294967296 + v0) / Y) := by rw [Hid, hke]; exact HQ2'
          have HK : Hid (k2i = (k2 : Int)) := by have h1 := HQR.out; rw [Hid]; omega
          have hq : qi < 4294967296 := by omega
          have hc2 : pi ≤ 4294967296 * ri + v0i := by omega
          clear hc HG HST HQ2' HQR
          subst hkei hke
          have hk2 : k2 < 4294967296 := by rw [HQ2.out, Nat.div_lt_iff_lt_mul HYP.out.1]; have h1 := HRY.out; have h2 := HB.out; omega
          have bk2 : 0 ≤ k2i ∧ k2i ≤ 4294967295 := by have := HK.out; omega
          obtain ⟨T, hT⟩ : ∃ T : Nat, T = (R * 4294967296 + v0) % Y := ⟨_, rfl⟩
          obtain ⟨Ti, hTi⟩ : ∃ x : Int, x = (T : Int) := ⟨_, rfl⟩
          have e14 : IntKind.u64.wrap (IntKind.u64.wrap (IntKind.u64.wrap (Ri * 4294967296) + v0i) - IntKind.u64.wrap (k2i * Yi)) = Ti := by
            rw [hTi, hT, HK.out, HR.out.2, HI.out.2.2.2.2.2, HI.out.1]; exact digit_rest R v0 Y k2 HYP.out.1 HYP.out.2 HQ2.out
          have HT : Hid (T = (R * 4294967296 + v0) % Y ∧ Ti = (T : Int)) := ⟨hT, hTi⟩
          have bT : 0 ≤ Ti := by omega
          clear hT hTi hk2
          go_wp2_with fail
          go_ret2
          obtain ⟨t1, t2⟩ := div64_end hi lo y s U v1 v0 Y k1 k2 (by omega) HYy.out HUV.out HQ1.out (by rw [← HR.out.1]; exact HQ2.out)
          have t3 : T / 2 ^ s = (hi * 18446744073709551616 + lo) % y := by rw [← t2, ← HR.out.1, ← HT.out.1]
          exact ⟨nret_two (by rw [HK1.out, HK.out]; exact end_quo _ _ _ _ _ t1) (by rw [HT.out.2, div_pow_cast]; exact end_rem _ _ _ _ t3), Below.refl _ _⟩


theorem div64_calls (hi lo y : Nat) (w : World) (hl : lo < 18446744073709551616) (hy : y < 18446744073709551616) (h0 : hi < y) :
    Calls Tryz.prog 153 #[.int .u64 (hi : Int), .int .u64 (lo : Int), .int .u64 (y : Int)] w fun e w' => e = .returned (.tuple #[.int .u64 (((hi * 18446744073709551616 + lo) / y : Nat) : Int), .int .u64 (((hi * 18446744073709551616 + lo) % y : Nat) : Int)]) ∧ Below w.heap.size w w' := by
  rcases Nat.eq_zero_or_pos hi with h | h
  · subst h
    have := div64_low lo y w hl hy h0
    rw [Nat.zero_mul, Nat.zero_add]
    exact this
  · exact div64_high hi lo y w h hl hy h0

theorem below_grown {w w' : World} (h : Below w.heap.size w w') (row : Option Nat) : w.grownBy w' row := ⟨h.os, h.tape, h.output, h.size, fun k hk _ => h.block k hk⟩

theorem set_grown (w : World) (p : Addr) (u : Value) : w.grownBy (w.setCell p u) (some p.block) := ⟨rfl, rfl, rfl, by simp, fun k _ hne => Below.heap_setCell _ _ _ _ (fun e => hne (by rw [e]))⟩

theorem grown_refl (w : World) (row : Option Nat) : w.grownBy w row := ⟨rfl, rfl, rfl, Nat.le_refl _, fun _ _ _ => rfl⟩

theorem IsW.grown {w w' : World} {a : Option Addr} {len cap : Nat} {xs : List Int} {row : Option Nat} (h : IsW w a len cap xs) (hg : w.grownBy w' row) (hne : ∀ b off, a = some ⟨b, off, none⟩ → some b ≠ row) : IsW w' a len cap xs := by
  refine ⟨h.1, h.2.1, h.2.2.1, fun i hi => ?_⟩
  obtain ⟨b, off, e1, e2, e3⟩ := h.2.2.2 i hi
  exact ⟨b, off, e1, Nat.lt_of_lt_of_le e2 hg.size, hg.cell e3 (hne b off e1)⟩

theorem OwnW.grown {B : Nat} {w w' : World} {a : Option Addr} {len cap : Nat} {xs : List Int} {row : Option Nat} (h : OwnW B w a len cap xs) (hg : w.grownBy w' row) (hne : ∀ b off, a = some ⟨b, off, none⟩ → some b ≠ row) : OwnW B w' a len cap xs := by
  refine ⟨h.1.grown hg hne, fun b off i e hi => ?_⟩
  obtain ⟨b2, off2, e1, e2, _⟩ := h.1.2.2.2 i hi
  rw [e] at e1
  simp only [Option.some.injEq, Addr.mk.injEq, and_true] at e1
  obtain ⟨rfl, rfl⟩ := e1
  exact ⟨(h.2 b off i e hi).1, (World.frozen?_of_block (a := ⟨b, off + i, none⟩) (hg.block b e2 (hne b off e))).trans (h.2 b off i e hi).2⟩

theorem word_nat0 (xs : List Int) (h : AllU xs) (k : Nat) : ∃ x : Nat, xs.getD k 0 = (x : Int) ∧ x < 18446744073709551616 := by
  have := h.get k
  exact ⟨(xs.getD k 0).toNat, by omega, by omega⟩

theorem drop_val (xs : List Int) (k : Nat) (hk : k < xs.length) : val (xs.drop k) = (xs.getD k 0).toNat + 18446744073709551616 * val (xs.drop (k + 1)) := by
  rw [List.drop_eq_getElem_cons hk]
  show (xs[k]).toNat + _ = _
  simp [List.getD, hk]

theorem drop_set_val (M : List Int) (k : Nat) (v : Int) (hk : k < M.length) : val ((M.set k v).drop k) = v.toNat + 18446744073709551616 * val (M.drop (k + 1)) := by
  rw [drop_val _ k (by rw [List.length_set]; exact hk), getD_set M k k v hk, if_pos rfl]
  congr 3
  rw [List.drop_set, if_pos (by omega)]

theorem divBy_step (H D x r d : Nat) (hd : 0 < d) (hD : D = H / d) (hr : r = H % d) : (r * 18446744073709551616 + x) / d + 18446744073709551616 * D = (x + 18446744073709551616 * H) / d ∧ (r * 18446744073709551616 + x) % d = (x + 18446744073709551616 * H) % d := by
  have e := Nat.div_add_mod H d
  rw [← hD, ← hr] at e
  have e2 : x + 18446744073709551616 * H = (r * 18446744073709551616 + x) + d * (18446744073709551616 * D) := by
    rw [← e, Nat.mul_add, Nat.mul_left_comm]; omega
  rw [e2, Nat.add_mul_div_left _ _ hd, Nat.add_mul_mod_self_left]
  exact ⟨rfl, rfl⟩

theorem quo_word (r x d : Nat) (hr : r < d) (hx : x < 18446744073709551616) : (r * 18446744073709551616 + x) / d < 18446744073709551616 := by
  rw [Nat.div_lt_iff_lt_mul (by omega)]
  have := Nat.mul_le_mul_left 18446744073709551616 (show r + 1 ≤ d from hr)
  rw [Nat.mul_add] at this
  omega

set_option maxRecDepth 100000 in
set_option maxHeartbeats 1000000 in
theorem divideBy_calls (B g off : Nat) (n c d : Nat) (M0 : List Int) (w : World) (h : OwnW B w (some ⟨g, off, none⟩) n c M0) (hn : n ≤ 17592186044416) (hd : 0 < d) (hd2 : d < 18446744073709551616) :
    Calls Tryz.prog 127 #[.slice (some ⟨g, off, none⟩) n c, .int .u64 (d : Int)] w fun e w' => ∃ M, e = .returned (.int .u64 ((val M0 % d : Nat) : Int)) ∧ OwnW B w' (some ⟨g, off, none⟩) n c M ∧ val M = val M0 / d ∧ w.grownBy w' (some g) := by
  have HL0 : Hid (n = M0.length) := h.1.1
  have HU0 : Hid (AllU M0) := h.1.2.1
  go_enter Tryz.func127, Tryz.ntmps127
  go_wp2_with fail
  go_loopw [5, 6] (fun vr vi wr => ∃ (k : Nat) (M : List Int) (r : Nat), k ≤ n ∧ vi = .int .i64 ((k : Int) - 1) ∧ vr = .int .u64 (r : Int) ∧ r < d ∧ (∀ i, i < k → M.getD i 0 = M0.getD i 0) ∧ val (M.drop k) = val (M0.drop k) / d ∧ r = val (M0.drop k) % d ∧ OwnW B wr (some ⟨g, off, none⟩) n c M ∧ w.grownBy wr (some g)) (fun _ vi _ => (intOf vi + 1).toNat)
  case atStart => exact ⟨n, M0, 0, Nat.le_refl _, rfl, rfl, hd, (fun _ _ => rfl), by rw [HL0.out, List.drop_length]; simp [val], by rw [HL0.out, List.drop_length]; simp [val], h, grown_refl _ _⟩
  case round =>
    obtain ⟨k, M, r, hk, rfl, rfl, hr, hsame, hval, hrest, hO, hgr⟩ := hrel
    clear h
    have HS : Hid (∀ i, i < k → M.getD i 0 = M0.getD i 0) := hsame
    have HV : Hid (val (M.drop k) = val (M0.drop k) / d) := hval
    have HR : Hid (r = val (M0.drop k) % d) := hrest
    have HL : Hid (n = M.length) := hO.1.1
    clear hsame hval hrest
    cases k with
    | zero =>
      go_wp2_with fail
      go_ret
      have e1 := HV.out
      have e2 := HR.out
      rw [List.drop_zero] at e1 e2
      exact ⟨M, nret_int (by rw [e2]), hO, e1, hgr⟩
    | succ k =>
      obtain ⟨x, hx, hx1⟩ := word_nat0 M0 HU0.out k
      obtain ⟨_, _, e1, _, hcell⟩ := hO.1.2.2.2 k (by omega)
      simp only [Option.some.injEq, Addr.mk.injEq, and_true] at e1
      obtain ⟨rfl, rfl⟩ := e1
      have hfz := (hO.2 _ _ k rfl (by omega)).2
      rw [HS.out k (by omega), hx] at hcell
      have ek : (((k + 1 : Nat) : Int) - 1) = (k : Int) := by omega
      rw [ek]
      have HX : Hid (M0.getD k 0 = (x : Int)) := hx
      have hqw := quo_word r x d hr hx1
      have hrm := Nat.mod_lt (r * 18446744073709551616 + x) hd
      have hC := div64_calls r x d wr hx1 hd2 hr
      have HDS : Hid _ := divBy_step (val (M0.drop (k + 1))) (val (M.drop (k + 1))) x r d hd HV.out HR.out
      generalize (r * 18446744073709551616 + x) / d = q at *
      generalize (r * 18446744073709551616 + x) % d = r2 at *
      have HC : Hid _ := hC
      clear hx hC ek
      go_wp2_with fail
      refine Calls.mono HC.out ?_
      rintro e w2 ⟨rfl, hb2⟩
      have hg2 := below_grown hb2 (some g)
      have hcell2 : w2.cell? ⟨g, off + k, none⟩ = some (.int .u64 (x : Int)) := (hb2.cell (p := ⟨g, off + k, none⟩) (World.block_lt_of_cell? _ _ hcell)).trans hcell
      have hfz2 : w2.frozen? ⟨g, off + k, none⟩ = false := (hb2.frozen (p := ⟨g, off + k, none⟩) (World.block_lt_of_cell? _ _ hcell)).trans hfz
      have hO2 := hO.keep hb2
      clear hb2 hO hcell hfz HC
      go_wp2_with fail
      refine ⟨?_, by simp [intOf]⟩
      have h0 := HL.out
      have h1 := HL0.out
      have hO3 := hO2.set (i := k) (by omega) (v := (q : Int)) (by omega) (by omega)
      refine ⟨k, M.set k (q : Int), r2, by omega, rfl, rfl, hrm, fun i hi => ?_, ?_, ?_, hO3, (hgr.trans hg2).trans (set_grown _ _ _)⟩
      · rw [getD_set M k i _ (by omega), if_neg (by omega)]; exact HS.out i (by omega)
      · rw [drop_set_val M k _ (by omega), Int.toNat_natCast, HDS.out.1, drop_val M0 k (by omega), HX.out, Int.toNat_natCast]
      · rw [HDS.out.2, drop_val M0 k (by omega), HX.out, Int.toNat_natCast]


/-- The low and the high word of a product, and of such a pair with a word added. -/
def mL (x y : Nat) : Nat := x * y % 18446744073709551616

def mH (x y : Nat) : Nat := x * y / 18446744073709551616

def pL (l u : Nat) : Nat := (l + u) % 18446744073709551616

def pH (l h u : Nat) : Nat := (h + (l + u) / 18446744073709551616) % 18446744073709551616

theorem mH_lt (x y : Nat) (hx : x < 18446744073709551616) (hy : y < 18446744073709551616) : mH x y < 18446744073709551616 := by
  unfold mH
  rw [Nat.div_lt_iff_lt_mul (by decide)]
  rcases Nat.eq_zero_or_pos x with h | h
  · subst h; simp
  · exact Nat.mul_lt_mul_of_lt_of_lt hx hy

theorem mul_add_words (x y t c : Nat) (hx : x < 18446744073709551616) (hy : y < 18446744073709551616) (ht : t < 18446744073709551616) (hc : c < 18446744073709551616) :
    pL (pL (mL x y) t) c + 18446744073709551616 * pH (pL (mL x y) t) (pH (mL x y) (mH x y) t) c = x * y + t + c := by
  have h1 : x * y ≤ 18446744073709551615 * 18446744073709551615 := Nat.mul_le_mul (by omega) (by omega)
  unfold pL pH mL mH
  generalize x * y = p at *
  omega

theorem pL_lt (l u : Nat) : pL l u < 18446744073709551616 := Nat.mod_lt _ (by decide)

theorem pH_lt (l h u : Nat) : pH l h u < 18446744073709551616 := Nat.mod_lt _ (by decide)

set_option maxHeartbeats 1000000 in
theorem product_calls (x y : Nat) (w : World) (hx : x < 18446744073709551616) (hy : y < 18446744073709551616) :
    Calls Tryz.prog 175 #[.int .u64 (x : Int), .int .u64 (y : Int)] w fun e w' => e = .returned (.agg #[.int .u64 (mL x y : Nat), .int .u64 (mH x y : Nat)]) ∧ w' = w.alloc (.cells #[.int .u64 (mL x y : Nat), .int .u64 (mH x y : Nat)] 206) := by
  have MC2 : Hid (Calls Tryz.prog 132 #[.int .u64 x, .int .u64 y] (w.alloc (.cells #[.int .u64 0, .int .u64 0] 206)) fun e w' => e = .returned (.tuple #[.int .u64 (mH x y : Nat), .int .u64 (mL x y : Nat)]) ∧ w' = (w.alloc (.cells #[.int .u64 0, .int .u64 0] 206))) := Tryz.bits_Mul64 x y hx hy _
  go_enter Tryz.func175, Tryz.ntmps175
  go_wp2_with fail
  refine Calls.mono MC2.out ?_
  rintro e w1 ⟨rfl, rfl⟩
  go_wp2_with fail
  exact bodyPost_ret (v := .agg #[.int .u64 (mL x y : Nat), .int .u64 (mH x y : Nat)]) (by simp [results, Tryz.results175, go_sem]) rfl ⟨rfl, rfl⟩

set_option maxHeartbeats 1000000 in
theorem pairPlus_calls (l h u : Nat) (w : World) :
    Calls Tryz.prog 176 #[.agg #[.int .u64 (l : Int), .int .u64 (h : Int)], .int .u64 (u : Int)] w fun e w' => e = .returned (.agg #[.int .u64 (pL l u : Nat), .int .u64 (pH l h u : Nat)]) ∧ w' = (w.alloc (.cells #[.int .u64 (l : Int), .int .u64 (h : Int)] 206)).alloc (.cells #[.int .u64 (pL l u : Nat), .int .u64 (pH l h u : Nat)] 206) := by
  have hr : ∀ w, (callFunc 185 #[.int .u64 (l : Int), .int .u64 (u : Int), .int .u64 0]).run Tryz.prog w = .ok (.value (.tuple #[.int .u64 (pL l u : Nat), .int .u64 (((l + u) / 18446744073709551616 : Nat) : Int)])) w := fun w => add64_run l u 0 (by decide) w
  have q : IntKind.u64.wrap ((h : Int) + (((l + u) / 18446744073709551616 : Nat) : Int)) = (pH l h u : Nat) := by
    rw [← Int.natCast_add, IntKind.wrap_u64]; unfold pH; omega
  generalize (l + u) / 18446744073709551616 = k at *
  go_enter Tryz.func176, Tryz.ntmps176
  go_wp2
  exact bodyPost_ret (v := .agg #[.int .u64 (pL l u : Nat), .int .u64 (pH l h u : Nat)]) (by simp [results, Tryz.results176, go_sem]) rfl ⟨rfl, rfl⟩

theorem gen_world {G : World → Prop} {W : World} (F : World → Prop) (h : F W) (k : ∀ W', F W' → G W') : G W := k W h

theorem carry_cell {W W' : World} (hb : Below W.heap.size W W') {p : Addr} {v : Value} (h : W.cell? p = some v) : W'.cell? p = some v := (hb.cell (World.block_lt_of_cell? _ _ h)).trans h

theorem carry_frozen {W W' : World} (hb : Below W.heap.size W W') {p : Addr} {v : Value} (h : W.cell? p = some v) (hf : W.frozen? p = false) : W'.frozen? p = false := (hb.frozen (World.block_lt_of_cell? _ _ h)).trans hf

/-- Of block g only the n places from off on have turned. -/
structure Upd (g off n : Nat) (w w' : World) : Prop where
  grown : w.grownBy w' (some g)
  cell : ∀ o, (o < off ∨ off + n ≤ o) → w'.cell? ⟨g, o, none⟩ = w.cell? ⟨g, o, none⟩
  frozen : ∀ o, w'.frozen? ⟨g, o, none⟩ = w.frozen? ⟨g, o, none⟩

theorem Upd.refl (g off n : Nat) (w : World) : Upd g off n w w := ⟨grown_refl _ _, fun _ _ => rfl, fun _ => rfl⟩

theorem Upd.trans {g off n : Nat} {a b c : World} (h : Upd g off n a b) (k : Upd g off n b c) : Upd g off n a c := ⟨h.grown.trans k.grown, fun o ho => (k.cell o ho).trans (h.cell o ho), fun o => (k.frozen o).trans (h.frozen o)⟩

theorem Upd.below {g off n : Nat} {a b c : World} (h : Upd g off n a b) (hg : g < b.heap.size) (k : Below b.heap.size b c) : Upd g off n a c := ⟨h.grown.trans (below_grown k _), fun o ho => (k.cell (p := ⟨g, o, none⟩) hg).trans (h.cell o ho), fun o => (k.frozen (p := ⟨g, o, none⟩) hg).trans (h.frozen o)⟩

theorem Upd.set {g off n : Nat} {a b : World} (h : Upd g off n a b) {i : Nat} (hi : i < n) (v : Value) : Upd g off n a (b.setCell ⟨g, off + i, none⟩ v) :=
  ⟨h.grown.trans (set_grown _ _ _), fun o ho => (World.cell?_setCell_other b _ _ _ (fun e => by have := congrArg Addr.off e; simp at this; omega)).trans (h.cell o ho), fun o => (World.frozen?_setCell b _ _ _).trans (h.frozen o)⟩

theorem low_set (xs : List Int) (i : Nat) (v : Int) : ∀ k, k ≤ i → low (xs.set i v) k = low xs k
  | 0, _ => rfl
  | k + 1, h => by
    show low (xs.set i v) k + _ * ((xs.set i v).getD k 0).toNat = low xs k + _ * (xs.getD k 0).toNat
    rw [low_set xs i v k (by omega)]
    simp only [List.getD, List.getElem?_set, show i ≠ k by omega, if_false]

theorem addTimes_step (S0 S ys : List Int) (k d t y c lo hi : Nat) (hk : k < S.length) (ht : S0.getD k 0 = (t : Int)) (hy : ys.getD k 0 = (y : Int))
    (hv : low S k + 18446744073709551616 ^ k * c = low S0 k + d * low ys k) (hw : lo + 18446744073709551616 * hi = y * d + t + c) :
    low (S.set k (lo : Int)) (k + 1) + 18446744073709551616 ^ (k + 1) * hi = low S0 (k + 1) + d * low ys (k + 1) := by
  have e1 : low (S.set k (lo : Int)) (k + 1) = low S k + 18446744073709551616 ^ k * lo := by
    show low (S.set k (lo : Int)) k + _ * ((S.set k (lo : Int)).getD k 0).toNat = _
    rw [low_set S k _ k (Nat.le_refl _), getD_set S k k _ hk, if_pos rfl, Int.toNat_natCast]
  have e2 : low S0 (k + 1) = low S0 k + 18446744073709551616 ^ k * t := by show low S0 k + _ * (S0.getD k 0).toNat = _; rw [ht, Int.toNat_natCast]
  have e3 : low ys (k + 1) = low ys k + 18446744073709551616 ^ k * y := by show low ys k + _ * (ys.getD k 0).toNat = _; rw [hy, Int.toNat_natCast]
  have e4 := congrArg (18446744073709551616 ^ k * ·) hw
  simp only [Nat.mul_add] at e4
  have e5 : d * (18446744073709551616 ^ k * y) = 18446744073709551616 ^ k * (y * d) := by rw [Nat.mul_left_comm, Nat.mul_comm d y]
  rw [e1, e2, e3, Nat.mul_add, e5, Nat.pow_succ, Nat.mul_assoc]
  omega

set_option maxRecDepth 100000 in
set_option maxHeartbeats 8000000 in
theorem addTimes_calls (B g off n c m : Nat) (b : Option Addr) (S0 ys : List Int) (d : Nat) (w : World) (h : OwnW B w (some ⟨g, off, none⟩) n c S0) (hB : IsW w b n m ys) (hbg : ∀ b' o, b = some ⟨b', o, none⟩ → b' ≠ g) (hn : n ≤ 17592186044416) (hd : d < 18446744073709551616) :
    Calls Tryz.prog 149 #[.slice (some ⟨g, off, none⟩) n c, .slice b n m, .int .u64 (d : Int)] w fun e w' => ∃ (S : List Int) (cr : Nat), e = .returned (.int .u64 (cr : Int)) ∧ cr < 18446744073709551616 ∧ OwnW B w' (some ⟨g, off, none⟩) n c S ∧ val S + 18446744073709551616 ^ n * cr = val S0 + d * val ys ∧ Upd g off n w w' := by
  have HL : Hid (S0.length = n ∧ ys.length = n) := ⟨h.1.1.symm, hB.1.symm⟩
  have HU0 : Hid (AllU S0) := h.1.2.1
  have HBG : Hid (∀ b' o, b = some ⟨b', o, none⟩ → b' ≠ g) := hbg
  have HB : Hid (IsW w b n m ys) := hB
  clear hbg hB
  go_enter Tryz.func149, Tryz.ntmps149
  go_wp2_with fail
  go_loopw [7, 13] (fun vc vi wr => ∃ (k cr : Nat) (S : List Int), k ≤ n ∧ vi = .int .i64 k ∧ vc = .int .u64 (cr : Int) ∧ cr < 18446744073709551616 ∧ Hid (∀ j, k ≤ j → S.getD j 0 = S0.getD j 0) ∧ Hid (low S k + 18446744073709551616 ^ k * cr = low S0 k + d * low ys k) ∧ OwnW B wr (some ⟨g, off, none⟩) n c S ∧ Upd g off n w wr) (fun _ vi _ => n - (intOf vi).toNat)
  case atStart => exact ⟨0, 0, S0, by omega, rfl, rfl, by decide, fun _ _ => rfl, by simp [Hid, low], h, Upd.refl _ _ _ _⟩
  case round =>
    clear h
    obtain ⟨k, cr, S, hk, rfl, rfl, hcr, HS, HV, hO, hup⟩ := hrel
    have HSL : Hid (S.length = n) := hO.1.1.symm
    by_cases hlt : k < n
    · obtain ⟨b', o', hbe, hbl, hcy⟩ := HB.out.2.2.2 k hlt
      have hbne := HBG.out b' o' hbe
      obtain ⟨y, hy, hy1⟩ := word_nat0 ys HB.out.2.1 k
      have hcy2 : wr.cell? ⟨b', o' + k, none⟩ = some (.int .u64 (y : Int)) := by
        rw [← hy]; exact hup.grown.cell hcy (fun e => hbne (by simpa using e))
      obtain ⟨t, ht, ht1⟩ := word_nat0 S0 HU0.out k
      obtain ⟨_, _, e1, hgl, hcell⟩ := hO.1.2.2.2 k hlt
      simp only [Option.some.injEq, Addr.mk.injEq, and_true] at e1
      obtain ⟨rfl, rfl⟩ := e1
      rw [HS.out k (Nat.le_refl _), ht] at hcell
      have hfz := (hO.2 _ _ k rfl hlt).2
      subst hbe
      have HMA : Hid _ := mul_add_words y d t cr hy1 hd ht1 hcr
      have HY : Hid (ys.getD k 0 = (y : Int)) := hy
      have HT : Hid (S0.getD k 0 = (t : Int)) := ht
      clear hcy hy ht
      have hgne : g ≠ wr.heap.size := Nat.ne_of_lt hgl
      go_wp2_with fail
      go_region_with (first
        | (go_at_call 175; refine (product_calls y d _ hy1 hd).mono ?_; rintro e w2 ⟨rfl, rfl⟩)
        | (go_at_call 176; refine (pairPlus_calls _ _ _ _).mono ?_; rintro e w3 ⟨rfl, rfl⟩))
      all_goals
       first
        | (refine gen_world (fun W => Below wr.heap.size wr W ∧ W.cell? ⟨wr.heap.size, 0, none⟩ = some (.int .u64 (pL (pL (mL y d) t) cr : Nat)) ∧ W.cell? ⟨wr.heap.size, 1, none⟩ = some (.int .u64 (pH (pL (mL y d) t) (pH (mL y d) (mH y d) t) cr : Nat))) (And.intro ?_ (And.intro ?_ ?_)) ?_; rotate_left; (focus (go_simp; done)); (focus (go_simp; done)); rotate_left; (focus ((repeat (first | exact Below.refl _ _ | exact (Below.refl _ _).drew | apply Below.drew | refine Below.setCell ?_ (by simp) _ | refine Below.alloc ?_ (by simp; try omega) _)); done)); rintro W5 ⟨hbE, hp0, hp1⟩; have hpb : wr.heap.size ≠ g := by omega)
        | (refine gen_world (fun W => Below wr.heap.size wr W ∧ W.cell? ⟨wr.heap.size + 1, 0, none⟩ = some (.int .u64 (pL (pL (mL y d) t) cr : Nat)) ∧ W.cell? ⟨wr.heap.size + 1, 1, none⟩ = some (.int .u64 (pH (pL (mL y d) t) (pH (mL y d) (mH y d) t) cr : Nat))) (And.intro ?_ (And.intro ?_ ?_)) ?_; rotate_left; (focus (go_simp; done)); (focus (go_simp; done)); rotate_left; (focus ((repeat (first | exact Below.refl _ _ | exact (Below.refl _ _).drew | apply Below.drew | refine Below.setCell ?_ (by simp) _ | refine Below.alloc ?_ (by simp; try omega) _)); done)); rintro W5 ⟨hbE, hp0, hp1⟩; have hpb : wr.heap.size + 1 ≠ g := by omega)
        | (refine gen_world (fun W => Below wr.heap.size wr W ∧ W.cell? ⟨wr.heap.size + 1 + 1 + 1, 0, none⟩ = some (.int .u64 (pL (pL (mL y d) t) cr : Nat)) ∧ W.cell? ⟨wr.heap.size + 1 + 1 + 1, 1, none⟩ = some (.int .u64 (pH (pL (mL y d) t) (pH (mL y d) (mH y d) t) cr : Nat))) (And.intro ?_ (And.intro ?_ ?_)) ?_; rotate_left; (focus (go_simp; done)); (focus (go_simp; done)); rotate_left; (focus ((repeat (first | exact Below.refl _ _ | exact (Below.refl _ _).drew | apply Below.drew | refine Below.setCell ?_ (by simp) _ | refine Below.alloc ?_ (by simp; try omega) _)); done)); rintro W5 ⟨hbE, hp0, hp1⟩; have hpb : wr.heap.size + 1 + 1 + 1 ≠ g := by omega)
        | (refine gen_world (fun W => Below wr.heap.size wr W ∧ W.cell? ⟨wr.heap.size + 1 + 1 + 1 + 1 + 1, 0, none⟩ = some (.int .u64 (pL (pL (mL y d) t) cr : Nat)) ∧ W.cell? ⟨wr.heap.size + 1 + 1 + 1 + 1 + 1, 1, none⟩ = some (.int .u64 (pH (pL (mL y d) t) (pH (mL y d) (mH y d) t) cr : Nat))) (And.intro ?_ (And.intro ?_ ?_)) ?_; rotate_left; (focus (go_simp; done)); (focus (go_simp; done)); rotate_left; (focus ((repeat (first | exact Below.refl _ _ | exact (Below.refl _ _).drew | apply Below.drew | refine Below.setCell ?_ (by simp) _ | refine Below.alloc ?_ (by simp; try omega) _)); done)); rintro W5 ⟨hbE, hp0, hp1⟩; have hpb : wr.heap.size + 1 + 1 + 1 + 1 + 1 ≠ g := by omega)
      all_goals
       have hcE := carry_cell hbE hcell
       have hfE := carry_frozen hbE hcell hfz
       have hlo := pL_lt (pL (mL y d) t) cr
       have hhi := pH_lt (pL (mL y d) t) (pH (mL y d) (mH y d) t) cr
       generalize pL (pL (mL y d) t) cr = lo at *
       generalize pH (pL (mL y d) t) (pH (mL y d) (mH y d) t) cr = hi at *
       go_wp2_with fail
       go_region
      all_goals
       have hO6 := (hO.keep hbE.drew).set (i := k) hlt (v := (lo : Int)) (by omega) (by omega)
       have hup6 := (hup.below hgl hbE.drew).set hlt (.int .u64 (lo : Int))
       go_wp2_with fail
       refine ⟨⟨k + 1, hi, S.set k (lo : Int), by omega, by go_num, rfl, hhi, ?_, ?_, hO6, hup6⟩, by simp [intOf]; omega⟩
       · intro j hj
         have := HSL.out
         rw [getD_set _ _ _ _ (by omega), if_neg (by omega)]; exact HS.out j (by omega)
       · have := HSL.out
         exact addTimes_step S0 S ys k d t y cr lo hi (by omega) HT.out HY.out HV.out HMA.out
    · have HE : Hid (val S + 18446744073709551616 ^ n * cr = val S0 + d * val ys) := by
        have e := HV.out
        have h1 := HL.out; have h2 := HSL.out
        obtain rfl : k = n := by omega
        rw [low_all S k (by omega), low_all S0 k (by omega), low_all ys k (by omega)] at e
        exact e
      go_wp2_with fail
      go_ret
      exact ⟨S, cr, rfl, hcr, hO, HE.out, hup⟩


/-- The list with the words from place i on put in. -/
def spliceW (M : List Int) (i : Nat) (S : List Int) : List Int := M.take i ++ S ++ M.drop (i + S.length)

theorem splice_len (M : List Int) (i : Nat) (S : List Int) (h : i + S.length ≤ M.length) : (spliceW M i S).length = M.length := by
  unfold spliceW; simp only [List.length_append, List.length_take, List.length_drop]; omega

theorem splice_get (M : List Int) (i : Nat) (S : List Int) (h : i + S.length ≤ M.length) (j : Nat) : (spliceW M i S).getD j 0 = if j < i then M.getD j 0 else if j < i + S.length then S.getD (j - i) 0 else M.getD j 0 := by
  unfold spliceW
  simp only [List.getD, List.getElem?_append, List.length_append, List.length_take, List.getElem?_take, List.getElem?_drop]
  by_cases h1 : j < i
  · simp [h1, show j < min i M.length + S.length by omega, show j < min i M.length by omega]
  · by_cases h2 : j < i + S.length
    · simp [h1, h2, show min i M.length = i by omega]
    · simp [h1, h2, show min i M.length = i by omega, show i + S.length + (j - (i + S.length)) = j by omega]

theorem splice_U {M S : List Int} (hM : AllU M) (hS : AllU S) (i : Nat) : AllU (spliceW M i S) := fun x hx => by
  unfold spliceW at hx
  rcases List.mem_append.1 hx with h | h
  · rcases List.mem_append.1 h with h | h
    · exact hM x (List.mem_of_mem_take h)
    · exact hS x h
  · exact hM x (List.mem_of_mem_drop h)

theorem splice_val (M : List Int) (i : Nat) (S : List Int) (h : i + S.length ≤ M.length) : val (spliceW M i S) + 18446744073709551616 ^ i * val ((M.drop i).take S.length) = val M + 18446744073709551616 ^ i * val S := by
  have e1 : M = M.take i ++ ((M.drop i).take S.length ++ M.drop (i + S.length)) := by
    rw [← List.drop_drop, List.take_append_drop, List.take_append_drop]
  have e2 : val M = val (M.take i) + 18446744073709551616 ^ i * (val ((M.drop i).take S.length) + 18446744073709551616 ^ S.length * val (M.drop (i + S.length))) := by
    conv => lhs; rw [e1]
    rw [val_append, val_append, List.length_take, List.length_take, List.length_drop, show min i M.length = i by omega, show min S.length (M.length - i) = S.length by omega]
  have e3 : val (spliceW M i S) = val (M.take i) + 18446744073709551616 ^ i * (val S + 18446744073709551616 ^ S.length * val (M.drop (i + S.length))) := by
    unfold spliceW
    rw [List.append_assoc, val_append, val_append, List.length_take, show min i M.length = i by omega]
  rw [e2, e3, Nat.mul_add, Nat.mul_add]
  omega

theorem own_part {B g : Nat} {w : World} {N c : Nat} {M : List Int} (h : OwnW B w (some ⟨g, 0, none⟩) N c M) (i n c' : Nat) (hi : i + n ≤ N) (hc : n ≤ c') : OwnW B w (some ⟨g, i, none⟩) n c' ((M.drop i).take n) := by
  have hN := h.1.1
  refine ⟨⟨by rw [List.length_take, List.length_drop]; omega, (h.1.2.1.drop i).take n, ⟨hc, fun e => by cases e⟩, fun j hj => ?_⟩, fun b off j e hj => ?_⟩
  · obtain ⟨b, off, e1, e2, e3⟩ := h.1.2.2.2 (i + j) (by omega)
    simp only [Option.some.injEq, Addr.mk.injEq, and_true] at e1
    obtain ⟨rfl, rfl⟩ := e1
    refine ⟨g, i, rfl, e2, ?_⟩
    rw [Nat.zero_add] at e3
    rw [e3]
    simp only [List.getD, List.getElem?_take, hj, if_true, List.getElem?_drop]
  · simp only [Option.some.injEq, Addr.mk.injEq, and_true] at e
    obtain ⟨rfl, rfl⟩ := e
    have := h.2 g 0 (i + j) rfl (by omega)
    rw [Nat.zero_add] at this; exact this

theorem own_join {B g : Nat} {w w' : World} {N c : Nat} {M : List Int} (h : OwnW B w (some ⟨g, 0, none⟩) N c M) (i n c' : Nat) (S : List Int) (hi : i + n ≤ N) (hS : OwnW B w' (some ⟨g, i, none⟩) n c' S) (hup : Upd g i n w w') : OwnW B w' (some ⟨g, 0, none⟩) N c (spliceW M i S) := by
  have hN := h.1.1
  have hn := hS.1.1
  refine ⟨⟨by rw [splice_len M i S (by omega)]; exact hN, splice_U h.1.2.1 hS.1.2.1 i, h.1.2.2.1, fun j hj => ?_⟩, fun b off j e hj => ?_⟩
  · obtain ⟨b, off, e1, e2, e3⟩ := h.1.2.2.2 j hj
    simp only [Option.some.injEq, Addr.mk.injEq, and_true] at e1
    obtain ⟨rfl, rfl⟩ := e1
    refine ⟨g, 0, rfl, Nat.lt_of_lt_of_le e2 hup.grown.size, ?_⟩
    rw [splice_get M i S (by omega), Nat.zero_add]
    rw [Nat.zero_add] at e3
    by_cases h1 : j < i
    · rw [if_pos h1, hup.cell j (Or.inl h1)]; exact e3
    · rw [if_neg h1]
      by_cases h2 : j < i + S.length
      · rw [if_pos h2]
        obtain ⟨b', off', f1, _, f3⟩ := hS.1.2.2.2 (j - i) (by omega)
        simp only [Option.some.injEq, Addr.mk.injEq, and_true] at f1
        obtain ⟨rfl, rfl⟩ := f1
        rw [show i + (j - i) = j by omega] at f3
        exact f3
      · rw [if_neg h2, hup.cell j (Or.inr (by omega))]; exact e3
  · simp only [Option.some.injEq, Addr.mk.injEq, and_true] at e
    obtain ⟨rfl, rfl⟩ := e
    have := h.2 g 0 j rfl hj
    exact ⟨this.1, (hup.frozen (0 + j)).trans this.2⟩

theorem times_step (xs M S : List Int) (Y i lb x cr : Nat) (hl : i + lb < M.length) (hS : S.length = lb) (hx : xs.getD i 0 = (x : Int)) (hz : M.getD (i + lb) 0 = 0)
    (hv : val M = low xs i * Y) (hs : val S + 18446744073709551616 ^ lb * cr = val ((M.drop i).take lb) + x * Y) : val ((spliceW M i S).set (i + lb) (cr : Int)) = low xs (i + 1) * Y := by
  have e1 := splice_val M i S (by omega)
  have e2 := val_set (spliceW M i S) (i + lb) (cr : Int) (by rw [splice_len M i S (by omega)]; exact hl)
  rw [splice_get M i S (by omega), if_neg (by omega), if_neg (by omega), hz, Int.toNat_natCast, Int.toNat_zero, Nat.mul_zero, Nat.add_zero, Nat.pow_add] at e2
  have e3 : low xs (i + 1) = low xs i + 18446744073709551616 ^ i * x := by show low xs i + _ * (xs.getD i 0).toNat = _; rw [hx, Int.toNat_natCast]
  have e4 := congrArg (18446744073709551616 ^ i * ·) hs
  simp only [Nat.mul_add] at e4
  rw [hS] at e1
  rw [e2, e3, Nat.add_mul, ← hv, Nat.mul_assoc, Nat.mul_assoc]
  omega

set_option maxRecDepth 100000 in
set_option maxHeartbeats 4000000 in
theorem times_calls (a b : Option Addr) (n m : Nat) (xs ys : List Int) (w : World) (hA : IsW w a n n xs) (hB : IsW w b m m ys) (hn : n ≤ 4096) (hm : m ≤ 4096) :
    Calls Tryz.prog 121 #[.slice a n n, .slice b m m] w fun e w' => ∃ (ao : Option Addr) (k : Nat) (M : List Int), e = .returned (.slice ao k k) ∧ OwnW w.heap.size w' ao k k M ∧ val M = val xs * val ys ∧ k ≤ n + m ∧ Below w.heap.size w w' := by
  have HX : Hid (xs.length = n) := hA.1.symm
  have HY : Hid (ys.length = m) := hB.1.symm
  by_cases h0 : n = 0
  · subst h0
    have HV : Hid (val xs = 0) := by rw [Hid, List.length_eq_zero_iff.1 HX.out]; rfl
    clear hA hB
    go_enter Tryz.func121, Tryz.ntmps121
    go_wp2_with fail
    go_ret
    exact ⟨none, 0, [], rfl, ownW_nil _ _, by rw [HV.out, Nat.zero_mul]; rfl, by omega, Below.refl _ _⟩
  · by_cases h1 : m = 0
    · subst h1
      have HV : Hid (val ys = 0) := by rw [Hid, List.length_eq_zero_iff.1 HY.out]; rfl
      have d0 : ((n : Int) == 0) = false := by simp; omega
      clear hA hB h0
      go_enter Tryz.func121, Tryz.ntmps121
      go_wp2_with fail
      go_ret
      exact ⟨none, 0, [], rfl, ownW_nil _ _, by rw [HV.out, Nat.mul_zero]; rfl, by omega, Below.refl _ _⟩
    · have d0 : ((n : Int) == 0) = false := by simp; omega
      have d1 : ((m : Int) == 0) = false := by simp; omega
      obtain ⟨w1, hmk, hO1, hb1, hz1⟩ := make_words 110 words_T w (n + m) (by omega)
      rw [show ((n + m : Nat) : Int) = (n : Int) + m by omega] at hmk
      go_enter Tryz.func121, Tryz.ntmps121
      go_wp2_with fail
      clear hmk
      go_loopw [24] (fun vi wr => ∃ (i : Nat) (M : List Int), i ≤ n ∧ vi = .int .i64 i ∧ Hid (∀ j, i + m ≤ j → M.getD j 0 = 0) ∧ Hid (val M = low xs i * val ys) ∧ OwnW w.heap.size wr (some ⟨w.heap.size, 0, none⟩) (n + m) (n + m) M ∧ Below w.heap.size w wr) (fun vi _ => n - (intOf vi).toNat)
      case atStart => exact ⟨0, zeros (n + m), by omega, rfl, fun j _ => zeros_get _ j, by rw [Hid, val_zeros]; simp [low], hO1, hb1⟩
      case round =>
        clear hO1 hb1
        obtain ⟨i, M, hi, rfl, HZ, HV, hO, hbr⟩ := hrel
        have HML : Hid (n + m = M.length) := hO.1.1
        by_cases hlt : i < n
        · obtain ⟨ba, oa, hae, hal, hac⟩ := hA.2.2.2 i hlt
          obtain ⟨x, hx, hx1⟩ := word_nat0 xs hA.2.1 i
          have hac2 : wr.cell? ⟨ba, oa + i, none⟩ = some (.int .u64 (x : Int)) := by rw [← hx]; exact (hbr.cell (p := ⟨ba, oa + i, none⟩) hal).trans hac
          have HXX : Hid (xs.getD i 0 = (x : Int)) := hx
          subst hae
          have hP := own_part hO i m (n + m - i) (by omega) (by omega)
          have AC : Hid _ := addTimes_calls w.heap.size w.heap.size i m (n + m - i) m b _ ys x wr hP (hB.keep hbr) (fun b' o e => by
            obtain ⟨b2, o2, e2, hl2, _⟩ := hB.2.2.2 0 (by omega)
            rw [e2] at e
            simp only [Option.some.injEq, Addr.mk.injEq, and_true] at e
            omega) (by omega) hx1
          have hup1 : i + m < n + m := by omega
          clear hx hac hP
          go_wp2_with fail
          refine Calls.mono AC.out ?_
          rintro e w2 ⟨S, cr, rfl, hcr, hS, hsv, hup⟩
          have HSV : Hid _ := hsv
          have HSL : Hid (S.length = m) := hS.1.1.symm
          have hO2 := own_join hO i m (n + m - i) S (by omega) hS hup
          have hb2 : Below w.heap.size w w2 := hbr.grown hup.grown hbr.size (fun k e => by simp at e; omega)
          obtain ⟨_, _, e1, _, hcell⟩ := hO2.1.2.2.2 (i + m) (by omega)
          simp only [Option.some.injEq, Addr.mk.injEq, and_true] at e1
          obtain ⟨rfl, rfl⟩ := e1
          have hfz := (hO2.2 _ _ (i + m) rfl (by omega)).2
          rw [Nat.zero_add] at hcell hfz
          generalize (spliceW M i S).getD (i + m) 0 = oldw at hcell
          have hO3 := hO2.set (i := i + m) (by omega) (v := (cr : Int)) (by omega) (by omega)
          rw [Nat.zero_add] at hO3
          have HO3 : Hid _ := hO3
          clear hsv hS hup hO2 hO hbr AC hO3 hac2
          go_wp2_with fail
          have hML := HML.out
          have hSL := HSL.out
          refine ⟨⟨i + 1, (spliceW M i S).set (i + m) (cr : Int), by omega, by go_num, ?_, ?_, HO3.out, hb2.setCell (Nat.le_refl _) _⟩, by simp [intOf]; omega⟩
          · intro j hj
            rw [getD_set _ _ _ _ (by rw [splice_len M i S (by omega)]; omega), if_neg (by omega), splice_get M i S (by omega), if_neg (by omega), if_neg (by omega)]
            exact HZ.out j (by omega)
          · exact times_step xs M S (val ys) i m x cr (by omega) hSL HXX.out (HZ.out _ (by omega)) HV.out HSV.out
        · have HE : Hid (low xs i = val xs) := low_all xs i (by have := HX.out; omega)
          go_wp2_with fail
          go_ret
          exact ⟨_, _, M, rfl, hO, by rw [HV.out, HE.out], by omega, hbr⟩

/-- The product, or why there is none. -/
def mulR (u v : Nat) : Nat × Int := if (greatB u || greatB v) = true then (0, 3) else fitR (u * v)

theorem mulR_yes {u v : Nat} (h : (greatB u || greatB v) = true) : mulR u v = (0, 3) := by unfold mulR; rw [if_pos h]

theorem mulR_no {u v : Nat} (h : (greatB u || greatB v) = false) : mulR u v = fitR (u * v) := by unfold mulR; rw [if_neg (by rw [h]; decide)]

theorem mul_words_ge (u v n m : Nat) (hu : n = (wordsOf u).length) (hv : m = (wordsOf v).length) (h : 1024 < n + m - 1) (hn : n ≤ 1024) (hm : m ≤ 1024) : greatB (u * v) = true := by
  have a1 : ¬ u < 18446744073709551616 ^ (n - 1) := fun q => by have := (words_len (n - 1) u).2 q; omega
  have a2 : ¬ v < 18446744073709551616 ^ (m - 1) := fun q => by have := (words_len (m - 1) v).2 q; omega
  have h3 : 18446744073709551616 ^ (n - 1) * 18446744073709551616 ^ (m - 1) ≤ u * v := Nat.mul_le_mul (by omega) (by omega)
  rw [← Nat.pow_add] at h3
  unfold greatB
  rw [decide_eq_true_iff]
  rcases Nat.lt_or_ge 1024 (wordsOf (u * v)).length with q | q
  · exact q
  · have h4 := (words_len _ (u * v)).1 (Nat.le_refl _)
    have h5 : 18446744073709551616 ^ (wordsOf (u * v)).length ≤ 18446744073709551616 ^ (n - 1 + (m - 1)) := Nat.pow_le_pow_right (by decide) (by omega)
    generalize 18446744073709551616 ^ (wordsOf (u * v)).length = P at *
    generalize 18446744073709551616 ^ (n - 1 + (m - 1)) = Q at *
    omega

set_option maxRecDepth 100000 in
set_option maxHeartbeats 1000000 in
theorem mul_calls (a a' : Option Addr) (len cap len' cap' : Nat) (xs ys : List Int) (w : World) (h : IsW w a len cap xs) (h' : IsW w a' len' cap' ys) (hm : len ≤ 17592186044416) (hm' : len' ≤ 17592186044416) :
    Calls Tryz.prog 125 #[.slice a len cap, .slice a' len' cap'] w fun e w' => ∃ v, e = .returned (.tuple #[v, .int .i64 (mulR (val xs) (val ys)).2]) ∧ NatAt w.heap.size w' v (mulR (val xs) (val ys)).1 ∧ Below w.heap.size w w' := by
  have HT := trimN_pack a len cap xs w h hm
  have HT' := trimN_pack a' len' cap' ys w h' hm'
  go_enter Tryz.func125, Tryz.ntmps125
  go_wp2_with fail
  refine Calls.mono HT ?_
  rintro e w ⟨a1, n, rfl, hn, hI, rfl⟩
  have HN : Hid (n = (wordsOf (val xs)).length) := hn
  clear hn HT h hm
  go_wp2_with fail
  refine Calls.mono HT' ?_
  rintro e w ⟨a2, n', rfl, hn', hI', rfl⟩
  have HN' : Hid (n' = (wordsOf (val ys)).length) := hn'
  clear hn' HT' h' hm'
  go_wp2_with fail
  refine Calls.mono (great2_calls _ a1 a2 n n n' n' _ (by go_simp) (by go_simp)) ?_
  rintro e w1 ⟨rfl, rfl⟩
  cases hd : (decide (1024 < n) || decide (1024 < n')) with
  | true =>
    have e0 : Hid ((greatB (val xs) || greatB (val ys)) = true) := by
      rw [Hid, greatB, greatB, ← HN.out, ← HN'.out]; exact hd
    clear hd
    go_wp2_with fail
    go_ret2
    rw [mulR_yes e0.out]
    exact ⟨_, rfl, natAt_nil _ _, below_one _ _⟩
  | false =>
    have e0 : Hid ((greatB (val xs) || greatB (val ys)) = false) := by
      rw [Hid, greatB, greatB, ← HN.out, ← HN'.out]; exact hd
    have hle : n ≤ 1024 ∧ n' ≤ 1024 := by simpa using hd
    clear hd
    by_cases hc : 1024 < (n : Int) + n' - 1
    · have e1 : Hid (mulR (val xs) (val ys) = (0, 3)) := by
        rw [Hid, mulR_no e0.out, fitR_yes (mul_words_ge _ _ n n' HN.out HN'.out (by omega) hle.1 hle.2)]
      go_wp2_with fail
      go_ret2
      rw [e1.out]
      exact ⟨_, rfl, natAt_nil _ _, below_one _ _⟩
    · go_wp2_with fail
      refine Calls.mono (times_calls a1 a2 n n' _ _ _ (hI.keep (below_one _ _)) (hI'.keep (below_one _ _)) (by omega) (by omega)) ?_
      rintro e w2 ⟨ao, k, M, rfl, hO, hv, hk, hb2⟩
      rw [val_words, val_words] at hv
      have HV : Hid (val M = val xs * val ys) := hv
      have hk2 : k ≤ 2048 := by omega
      clear hv hk
      go_wp2_with fail
      refine Calls.mono (answer_calls _ ao k k M _ hO (by omega)) ?_
      rintro e w3 ⟨v, rfl, hA, hb3⟩
      rw [HV.out, ← mulR_no e0.out] at hA ⊢
      go_wp2_with fail
      go_ret2
      exact ⟨v, rfl, hA.low (by simp), nbelow_trans (nbelow_trans (below_one _ _) hb2) hb3⟩

end Go.Proofs.YtkkldnnndlpblaaGreatDoor

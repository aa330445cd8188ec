/- The document's naturals: order, sums, differences, shifts to the left. -/
import Derived.Test.YtoefhlapfnjbjaaGreatDoorTMH
import Derived.Test.YtoefhlapfnjbjaaGreatDoorTMB
import Derived.Test.YtoefhlapfnjbjaaGreatDoorTMA
import Derived.Test.YtoefhlapfnjbjaaGreatDoorTMD
import Derived.WalkKit
import Derived.WalkSpells
import Derived.WalkLawsBesides
import Derived.Deep.QuietTactic
import Derived.BigQuiet
import Derived.Maps.AppendAt
import Derived.Laws.AppendOwnNone
import Derived.Laws.BitsAllLaws
import Derived.Lib.TrailingZeros
namespace Go.Proofs.YtoefhlapfnjbjaaGreatDoor
open Go.RowKit

theorem size_snoc : ∀ (xs : List Int) (x : Int), sizeL (xs ++ [x]) = if x = 0 then sizeL xs else xs.length + 1
  | [], x => by
    show (if sizeL [] = 0 then (if x = 0 then 0 else 1) else sizeL [] + 1) = _
    simp [sizeL]
  | y :: ys, x => by
    have ih := size_snoc ys x
    show (if sizeL (ys ++ [x]) = 0 then (if y = 0 then 0 else 1) else sizeL (ys ++ [x]) + 1) = if x = 0 then (if sizeL ys = 0 then (if y = 0 then 0 else 1) else sizeL ys + 1) else ys.length + 1 + 1
    rw [ih]
    by_cases hx : x = 0 <;> simp [hx]
theorem add_step (xs ys L : List Int) (k : Nat) (x y c s c' : Int) (hk : L.length = k) (hx : x = xs.getD k 0) (hy : y = ys.getD k 0) (h0 : 0 ≤ x) (h1 : 0 ≤ y) (h2 : 0 ≤ c) (h3 : 0 ≤ s) (h4 : 0 ≤ c')
    (hv : val L + 18446744073709551616 ^ k * c.toNat = low xs k + low ys k) (hw : s + 18446744073709551616 * c' = x + y + c) :
    val (L ++ [s]) + 18446744073709551616 ^ (k + 1) * c'.toNat = low xs (k + 1) + low ys (k + 1) := by
  have e1 : low xs (k + 1) = low xs k + 18446744073709551616 ^ k * x.toNat := by rw [hx]; rfl
  have e2 : low ys (k + 1) = low ys k + 18446744073709551616 ^ k * y.toNat := by rw [hy]; rfl
  have e3 : s.toNat + 18446744073709551616 * c'.toNat = x.toNat + y.toNat + c.toNat := by omega
  have e4 := congrArg (18446744073709551616 ^ k * ·) e3
  simp only [Nat.mul_add] at e4
  rw [e1, e2, val_append, hk, Nat.pow_succ]
  simp only [val, Nat.mul_zero, Nat.add_zero]
  rw [Nat.mul_assoc] 
  omega
theorem sub_step (xs ys L : List Int) (k : Nat) (x y c s c' : Int) (hk : L.length = k) (hx : x = xs.getD k 0) (hy : y = ys.getD k 0) (h0 : 0 ≤ x) (h1 : 0 ≤ y) (h2 : 0 ≤ c) (h3 : 0 ≤ s) (h4 : 0 ≤ c')
    (hv : val L + low ys k = low xs k + 18446744073709551616 ^ k * c.toNat) (hw : s + y + c = x + 18446744073709551616 * c') :
    val (L ++ [s]) + low ys (k + 1) = low xs (k + 1) + 18446744073709551616 ^ (k + 1) * c'.toNat := by
  have e1 : low xs (k + 1) = low xs k + 18446744073709551616 ^ k * x.toNat := by rw [hx]; rfl
  have e2 : low ys (k + 1) = low ys k + 18446744073709551616 ^ k * y.toNat := by rw [hy]; rfl
  have e3 : s.toNat + y.toNat + c.toNat = x.toNat + 18446744073709551616 * c'.toNat := by omega
  have e4 := congrArg (18446744073709551616 ^ k * ·) e3
  simp only [Nat.mul_add] at e4
  rw [e1, e2, val_append, hk, Nat.pow_succ]
  simp only [val, Nat.mul_zero, Nat.add_zero]
  rw [Nat.mul_assoc] 
  omega
set_option maxRecDepth 100000 in
set_option maxHeartbeats 1000000 in
theorem nGreat_calls (a : Option Addr) (len cap : Nat) (xs : List Int) (w : World) (h : IsW w a len cap xs) (hm : len ≤ 17592186044416) :
    Calls Tryz.prog 87 #[.slice a len cap] w fun e w' => e = .returned (.bool (decide (1024 < (wordsOf (val xs)).length))) ∧ w' = w := by
  have hS : Hid ((wordsOf (val xs)).length = sizeL xs) := size_words xs h.2.1
  have hlen := h.1
  have HL : Hid (len = xs.length) := hlen
  clear hlen
  go_enter Tryz.func87, Tryz.ntmps87
  go_wp2
  go_loop [3, 8] (fun v i => ∃ k : Nat, k ≤ len ∧ i = .int .i64 k ∧ v = .int .i64 (sizeL (xs.take k))) (fun _ i => len - (intOf i).toNat)
  case atStart => exact ⟨0, by omega, rfl, rfl⟩
  case round =>
    obtain ⟨k, hk, rfl, rfl⟩ := hrel
    by_cases hlt : k < len
    · obtain ⟨b, off, ha, _, hc⟩ := h.2.2.2 k hlt
      have hs := size_snoc (xs.take k) (xs.getD k 0)
      have ht : xs.take (k + 1) = xs.take k ++ [xs.getD k 0] := by
        have := HL.out
        rw [List.take_succ_eq_append_getElem (by omega)]; simp [List.getD, show k < xs.length by omega]
      have HT : Hid (sizeL (xs.take (k + 1)) = if xs.getD k 0 = 0 then sizeL (xs.take k) else k + 1) := by
        have := HL.out
        rw [Hid, ht, hs, List.length_take, Nat.min_eq_left (by omega)]
      clear hs ht
      subst ha
      obtain ⟨x, hx⟩ : ∃ x, x = xs.getD k 0 := ⟨_, rfl⟩
      rw [← hx] at hc HT
      clear hx
      by_cases h0 : x = 0
      · have d0 : (x != 0) = false := by simp [h0]
        have HT' : Hid (sizeL (xs.take (k + 1)) = sizeL (xs.take k)) := by rw [Hid, HT.out, if_pos h0]
        clear h0 HT
        go_wp2
        go_round
        case rel => exact ⟨k + 1, by omega, by go_num, by rw [HT'.out]⟩
        case measure => simp [intOf]; omega
      · have d0 : (x != 0) = true := by simp [h0]
        have HT' : Hid (sizeL (xs.take (k + 1)) = k + 1) := by rw [Hid, HT.out, if_neg h0]
        clear h0 HT
        go_wp2
        go_round
        case rel => exact ⟨k + 1, by omega, by go_num, by rw [HT'.out]; go_num⟩
        case measure => simp [intOf]; omega
    · have HE : Hid (sizeL (xs.take k) = (wordsOf (val xs)).length) := by rw [Hid, hS.out, List.take_of_length_le (by have := HL.out; omega)]
      go_wp2
      go_ret
      refine ⟨nret_bool ?_, rfl⟩
      rw [HE.out, decide_eq_decide]; omega
set_option maxRecDepth 100000 in
set_option maxHeartbeats 1000000 in
theorem nCmp_ge (a a' : Option Addr) (len cap len' cap' : Nat) (xs ys : List Int) (w : World) (h : IsW w a len cap xs) (h' : IsW w a' len' cap' ys) (hm : len ≤ 17592186044416) (_hm' : len' ≤ 17592186044416) (hc : len' ≤ len) :
    Calls Tryz.prog 117 #[.slice a len cap, .slice a' len' cap'] w fun e w' => e = .returned (.int .i64 (cmpN (val xs) (val ys))) ∧ w' = w := by
  have hx1 : xs.length ≤ len := by have := h.1; omega
  have hy1 : ys.length ≤ len := by have := h'.1; omega
  have C : Hid _ := cmp_top xs ys h.2.1 h'.2.1
  have E : Hid _ := fun hs => cmp_same xs ys hs len hx1 hy1
  have X1 : Hid (xs.length ≤ len) := hx1
  have Y1 : Hid (ys.length ≤ len) := hy1
  have S : Hid (SameFrom xs ys len) := fun i hi => by
    rw [show xs.getD i 0 = 0 by simp [List.getD, show ¬ i < xs.length by omega], show ys.getD i 0 = 0 by simp [List.getD, show ¬ i < ys.length by omega]]
  have gx := fun i => h.2.1.get i
  have gy := fun i => h'.2.1.get i
  clear hx1 hy1
  go_enter Tryz.func117, Tryz.ntmps117
  go_wp2_with fail
  go_loop [5] (fun v => ∃ k : Nat, k ≤ len ∧ v = .int .i64 ((k : Int) - 1) ∧ SameFrom xs ys k) (fun v => (intOf v + 1).toNat)
  case atStart => exact ⟨len, by omega, (by first | rfl | (congr 1; omega)), S.out⟩
  case round =>
    obtain ⟨k, hk, rfl, hs⟩ := hrel
    have HS : Hid (SameFrom xs ys k) := hs
    clear hs
    cases k with
    | zero =>
      have HV : Hid (cmpN (val xs) (val ys) = 0) := E.out HS.out
      clear gx gy
      go_wp2
      go_ret
      exact ⟨nret_int HV.out.symm, rfl⟩
    | succ k =>
      have D : Hid _ := C.out k len (by omega) X1.out Y1.out HS.out
      obtain ⟨x, hx⟩ : ∃ x, x = xs.getD k 0 := ⟨_, rfl⟩
      obtain ⟨y, hy⟩ : ∃ y, y = ys.getD k 0 := ⟨_, rfl⟩
      have ek : (((k + 1 : Nat) : Int) - 1) = (k : Int) := by omega
      have W1 := nWord_calls a len cap xs k w h
      have W2 := nWord_calls a' len' cap' ys k w h'
      rw [← hx] at W1
      rw [← hy] at W2
      have D' : Hid ((x < y → cmpN (val xs) (val ys) = -1) ∧ (y < x → cmpN (val xs) (val ys) = 1)) := by rw [Hid, hx, hy]; exact D.out
      have bx := gx k
      have by' := gy k
      rw [← hx] at bx
      rw [← hy] at by'
      have HX : Hid (x = xs.getD k 0) := hx
      have HY : Hid (y = ys.getD k 0) := hy
      have HW1 : Hid (Calls Tryz.prog 114 #[.slice a len cap, .int .i64 k] w fun e w' => e = .returned (.int .u64 x) ∧ w' = w) := W1
      have HW2 : Hid (Calls Tryz.prog 114 #[.slice a' len' cap', .int .i64 k] w fun e w' => e = .returned (.int .u64 y) ∧ w' = w) := W2
      clear hx hy gx gy W1 W2
      rw [ek]
      by_cases c1 : x < y
      · have HV : Hid (cmpN (val xs) (val ys) = -1) := D'.out.1 c1
        go_wp2_with fail
        refine Calls.mono HW1.out ?_
        rintro e w ⟨rfl, rfl⟩
        go_wp2_with fail
        refine Calls.mono HW2.out ?_
        rintro e w ⟨rfl, rfl⟩
        go_wp2_with fail
        go_ret
        exact ⟨nret_int HV.out.symm, rfl⟩
      · by_cases c2 : y < x
        · have HV : Hid (cmpN (val xs) (val ys) = 1) := D'.out.2 c2
          go_wp2_with fail
          refine Calls.mono HW1.out ?_
          rintro e w ⟨rfl, rfl⟩
          go_wp2_with fail
          refine Calls.mono HW2.out ?_
          rintro e w ⟨rfl, rfl⟩
          go_wp2_with fail
          go_ret
          exact ⟨nret_int HV.out.symm, rfl⟩
        · have HS' : Hid (SameFrom xs ys k) := fun i hi => by
            by_cases e : i = k
            · rw [e, ← HX.out, ← HY.out]; omega
            · exact HS.out i (by omega)
          go_wp2_with fail
          refine Calls.mono HW1.out ?_
          rintro e w ⟨rfl, rfl⟩
          go_wp2_with fail
          refine Calls.mono HW2.out ?_
          rintro e w ⟨rfl, rfl⟩
          go_wp2_with fail
          go_round
          case rel => exact ⟨k, by omega, by first | rfl | go_num, HS'.out⟩
          case measure => simp [intOf]
set_option maxRecDepth 100000 in
set_option maxHeartbeats 1000000 in
theorem nCmp_lt (a a' : Option Addr) (len cap len' cap' : Nat) (xs ys : List Int) (w : World) (h : IsW w a len cap xs) (h' : IsW w a' len' cap' ys) (_hm : len ≤ 17592186044416) (hm' : len' ≤ 17592186044416) (hc : len < len') :
    Calls Tryz.prog 117 #[.slice a len cap, .slice a' len' cap'] w fun e w' => e = .returned (.int .i64 (cmpN (val xs) (val ys))) ∧ w' = w := by
  have hx1 : xs.length ≤ len' := by have := h.1; omega
  have hy1 : ys.length ≤ len' := by have := h'.1; omega
  have C : Hid _ := cmp_top xs ys h.2.1 h'.2.1
  have E : Hid _ := fun hs => cmp_same xs ys hs len' hx1 hy1
  have X1 : Hid (xs.length ≤ len') := hx1
  have Y1 : Hid (ys.length ≤ len') := hy1
  have S : Hid (SameFrom xs ys len') := fun i hi => by
    rw [show xs.getD i 0 = 0 by simp [List.getD, show ¬ i < xs.length by omega], show ys.getD i 0 = 0 by simp [List.getD, show ¬ i < ys.length by omega]]
  have gx := fun i => h.2.1.get i
  have gy := fun i => h'.2.1.get i
  clear hx1 hy1
  go_enter Tryz.func117, Tryz.ntmps117
  go_wp2_with fail
  go_loop [5] (fun v => ∃ k : Nat, k ≤ len' ∧ v = .int .i64 ((k : Int) - 1) ∧ SameFrom xs ys k) (fun v => (intOf v + 1).toNat)
  case atStart => exact ⟨len', by omega, (by first | rfl | (congr 1; omega)), S.out⟩
  case round =>
    obtain ⟨k, hk, rfl, hs⟩ := hrel
    have HS : Hid (SameFrom xs ys k) := hs
    clear hs
    cases k with
    | zero =>
      have HV : Hid (cmpN (val xs) (val ys) = 0) := E.out HS.out
      clear gx gy
      go_wp2
      go_ret
      exact ⟨nret_int HV.out.symm, rfl⟩
    | succ k =>
      have D : Hid _ := C.out k len' (by omega) X1.out Y1.out HS.out
      obtain ⟨x, hx⟩ : ∃ x, x = xs.getD k 0 := ⟨_, rfl⟩
      obtain ⟨y, hy⟩ : ∃ y, y = ys.getD k 0 := ⟨_, rfl⟩
      have ek : (((k + 1 : Nat) : Int) - 1) = (k : Int) := by omega
      have W1 := nWord_calls a len cap xs k w h
      have W2 := nWord_calls a' len' cap' ys k w h'
      rw [← hx] at W1
      rw [← hy] at W2
      have D' : Hid ((x < y → cmpN (val xs) (val ys) = -1) ∧ (y < x → cmpN (val xs) (val ys) = 1)) := by rw [Hid, hx, hy]; exact D.out
      have bx := gx k
      have by' := gy k
      rw [← hx] at bx
      rw [← hy] at by'
      have HX : Hid (x = xs.getD k 0) := hx
      have HY : Hid (y = ys.getD k 0) := hy
      have HW1 : Hid (Calls Tryz.prog 114 #[.slice a len cap, .int .i64 k] w fun e w' => e = .returned (.int .u64 x) ∧ w' = w) := W1
      have HW2 : Hid (Calls Tryz.prog 114 #[.slice a' len' cap', .int .i64 k] w fun e w' => e = .returned (.int .u64 y) ∧ w' = w) := W2
      clear hx hy gx gy W1 W2
      rw [ek]
      by_cases c1 : x < y
      · have HV : Hid (cmpN (val xs) (val ys) = -1) := D'.out.1 c1
        go_wp2_with fail
        refine Calls.mono HW1.out ?_
        rintro e w ⟨rfl, rfl⟩
        go_wp2_with fail
        refine Calls.mono HW2.out ?_
        rintro e w ⟨rfl, rfl⟩
        go_wp2_with fail
        go_ret
        exact ⟨nret_int HV.out.symm, rfl⟩
      · by_cases c2 : y < x
        · have HV : Hid (cmpN (val xs) (val ys) = 1) := D'.out.2 c2
          go_wp2_with fail
          refine Calls.mono HW1.out ?_
          rintro e w ⟨rfl, rfl⟩
          go_wp2_with fail
          refine Calls.mono HW2.out ?_
          rintro e w ⟨rfl, rfl⟩
          go_wp2_with fail
          go_ret
          exact ⟨nret_int HV.out.symm, rfl⟩
        · have HS' : Hid (SameFrom xs ys k) := fun i hi => by
            by_cases e : i = k
            · rw [e, ← HX.out, ← HY.out]; omega
            · exact HS.out i (by omega)
          go_wp2_with fail
          refine Calls.mono HW1.out ?_
          rintro e w ⟨rfl, rfl⟩
          go_wp2_with fail
          refine Calls.mono HW2.out ?_
          rintro e w ⟨rfl, rfl⟩
          go_wp2_with fail
          go_round
          case rel => exact ⟨k, by omega, by first | rfl | go_num, HS'.out⟩
          case measure => simp [intOf]
theorem nCmp_calls (a a' : Option Addr) (len cap len' cap' : Nat) (xs ys : List Int) (w : World) (h : IsW w a len cap xs) (h' : IsW w a' len' cap' ys) (hm : len ≤ 17592186044416) (hm' : len' ≤ 17592186044416) :
    Calls Tryz.prog 117 #[.slice a len cap, .slice a' len' cap'] w fun e w' => e = .returned (.int .i64 (cmpN (val xs) (val ys))) ∧ w' = w := by
  by_cases hc : len' ≤ len
  · exact nCmp_ge a a' len cap len' cap' xs ys w h h' hm hm' hc
  · exact nCmp_lt a a' len cap len' cap' xs ys w h h' hm hm' (by omega)
def joinE (e f : Int) : Int := if e < 0 ∨ 2047 < e ∨ 4503599627370495 < f then 2 else 0
def joinV (s : Bool) (e f : Int) : Int := if joinE e f = 0 then (if s then 9223372036854775808 else 0) + e * 4503599627370496 + f else 0
set_option maxRecDepth 100000 in
set_option maxHeartbeats 4000000 in
theorem nAdd_ge (a a' : Option Addr) (len cap len' cap' : Nat) (xs ys : List Int) (w : World) (h : IsW w a len cap xs) (h' : IsW w a' len' cap' ys) (hm : len ≤ 17592186044415) (_hm' : len' ≤ 17592186044415) (hc : len' ≤ len) :
    Calls Tryz.prog 116 #[.slice a len cap, .slice a' len' cap'] w fun e w' => ∃ (ao : Option Addr) (cv : Nat), e = .returned (.slice ao (wordsOf (val xs + val ys)).length cv) ∧ Own w.heap.size w' ao cv (wordsOf (val xs + val ys)) ∧ Below w.heap.size w w' := by
  obtain ⟨i0, hi, hz0, hz1, hz2⟩ := info_parts word_info
  have X1 : Hid (xs.length ≤ len) := by have := h.1; rw [Hid]; omega
  have Y1 : Hid (ys.length ≤ len) := by have := h'.1; rw [Hid]; omega
  have gx := fun i => h.2.1.get i
  have gy := fun i => h'.2.1.get i
  have GX : Hid (∀ i, 0 ≤ xs.getD i 0 ∧ xs.getD i 0 ≤ 18446744073709551615) := gx
  have GY : Hid (∀ i, 0 ≤ ys.getD i 0 ∧ ys.getD i 0 ≤ 18446744073709551615) := gy
  clear gx gy
  go_enter Tryz.func116, Tryz.ntmps116
  go_wp2_with fail
  go_loopw [5, 6, 7] (fun v cv i wr => ∃ (k : Nat) (L : List Int) (c : Int) (ao : Option Addr) (cp : Nat), k ≤ len ∧ i = .int .i64 k ∧ cv = .int .u64 c ∧ (c = 0 ∨ c = 1) ∧ v = .slice ao k cp ∧ L.length = k ∧ AllU L ∧ val L + 18446744073709551616 ^ k * c.toNat = low xs k + low ys k ∧ Own w.heap.size wr ao cp L ∧ Below w.heap.size w wr) (fun _ _ i _ => len - (intOf i).toNat)
  case atStart => exact ⟨0, [], 0, none, 0, by omega, rfl, rfl, Or.inl rfl, rfl, rfl, (fun x hx => by cases hx), by simp [val, low], World.ownsRow_nil _ _ _ _, Below.refl _ _⟩
  case round =>
    obtain ⟨k, L, c, ao, cp, hk, rfl, rfl, hc01, rfl, hLk, hLU, hval, hown, hbr⟩ := hrel
    have HV : Hid (val L + 18446744073709551616 ^ k * c.toNat = low xs k + low ys k) := hval
    have HC : Hid (c = 0 ∨ c = 1) := hc01
    have HK : Hid (L.length = k) := hLk
    have HU : Hid (AllU L) := hLU
    have b0 : 0 ≤ c ∧ c ≤ 1 := by omega
    unfold Own at hown
    rw [hLk] at hown
    clear hval hc01 hLk hLU
    have hWr := h.keep hbr
    have hWr' := h'.keep hbr
    have hsize := hbr.size
    by_cases hlt : k < len
    · have W1 := nWord_calls a len cap xs k wr hWr
      have W2 := nWord_calls a' len' cap' ys k wr hWr'
      obtain ⟨x, hx⟩ : ∃ x, x = xs.getD k 0 := ⟨_, rfl⟩
      obtain ⟨y, hy⟩ : ∃ y, y = ys.getD k 0 := ⟨_, rfl⟩
      rw [← hx] at W1
      rw [← hy] at W2
      have bx := GX.out k
      have by' := GY.out k
      rw [← hx] at bx
      rw [← hy] at by'
      have HX : Hid (x = xs.getD k 0) := hx
      have HY : Hid (y = ys.getD k 0) := hy
      have HW1 : Hid (Calls Tryz.prog 114 #[.slice a len cap, .int .i64 k] wr fun e w' => e = .returned (.int .u64 x) ∧ w' = wr) := W1
      have HW2 : Hid (Calls Tryz.prog 114 #[.slice a' len' cap', .int .i64 k] wr fun e w' => e = .returned (.int .u64 y) ∧ w' = wr) := W2
      clear hx hy W1 W2
      go_wp2_with fail
      refine Calls.mono HW1.out ?_
      rintro e wr ⟨rfl, rfl⟩
      go_wp2_with fail
      refine Calls.mono HW2.out ?_
      rintro e wr ⟨rfl, rfl⟩
      have ES : Hid ((IntKind.u64.wrap (IntKind.u64.wrap (x + y) + c)) = (x + y + c) % 18446744073709551616) := by rw [Hid, IntKind.wrap_u64, IntKind.wrap_u64]; omega
      go_wp2_with (first | (at_builtin; refine wpList_append_own _ rfl _ _ 25 rfl w.heap.size 23 i0 (.int .u64 0) 1 8 Tryz.underlying25 hi hz0 hz1 hz2 rfl (by decide) _ _ _ rfl (hown.alloc _) ⟨wr.heap.size, 0, none⟩ 1 1 [.int .u64 (IntKind.u64.wrap (IntKind.u64.wrap (x + y) + c))] rfl rfl (cell_one_new _ _ _) (fun x hx => by simp at hx; subst hx; rfl) (by unfold maxLen; omega) (by omega) (by simp; omega) ?_; intro v' w3 hown' hgrow3 hnil3) | (at_builtin; refine wpList_append_own _ rfl _ _ 25 rfl w.heap.size 23 i0 (.int .u64 0) 1 8 Tryz.underlying25 hi hz0 hz1 hz2 rfl (by decide) _ _ _ rfl (hown.alloc _) ⟨wr.heap.size, 0, none⟩ 1 1 [.int .u64 x] rfl rfl (cell_one_new _ _ _) (fun x hx => by simp at hx; subst hx; rfl) (by unfold maxLen; omega) (by omega) (by simp; omega) ?_; intro v' w3 hown' hgrow3 hnil3))
      all_goals
        obtain ⟨g3, cap3, hv3, hO3⟩ := own_snoc HK.out hown'
        subst hv3
        have es := ES.out
        have ec := HC.out
        have hb3 : Below w.heap.size w w3 := (hbr.alloc hsize _).grown hgrow3 (by simp; omega) (fun q hq => (hown.lt q hq).1)
        clear hgrow3 hnil3 hown'
        refine ⟨?_, by simp [intOf]; omega⟩
        first
        | exact ⟨k + 1, _, 0, _, cap3, by omega, by go_num, rfl, by omega, rfl, by simp [HK.out], HU.out.snoc (by omega) (by omega), add_step xs ys L k x y c _ 0 HK.out HX.out HY.out (by omega) (by omega) (by omega) (by omega) (by omega) HV.out (by omega), hO3, hb3⟩
        | exact ⟨k + 1, _, 1, _, cap3, by omega, by go_num, rfl, by omega, rfl, by simp [HK.out], HU.out.snoc (by omega) (by omega), add_step xs ys L k x y c _ 1 HK.out HX.out HY.out (by omega) (by omega) (by omega) (by omega) (by omega) HV.out (by omega), hO3, hb3⟩
    · have hkn : k = len := by omega
      go_wp2_with (at_builtin; refine wpList_append_own _ rfl _ _ 25 rfl w.heap.size 23 i0 (.int .u64 0) 1 8 Tryz.underlying25 hi hz0 hz1 hz2 rfl (by decide) _ _ _ rfl (hown.alloc _) ⟨wr.heap.size, 0, none⟩ 1 1 [.int .u64 c] rfl rfl (cell_one_new _ _ _) (fun x hx => by simp at hx; subst hx; rfl) (by unfold maxLen; omega) (by omega) (by simp; omega) ?_; intro v' w3 hown' hgrow3 hnil3)
      obtain ⟨g3, cap3, hv3, hO3⟩ := own_snoc HK.out hown'
      subst hv3
      have hb3 : Below w.heap.size w w3 := (hbr.alloc hsize _).grown hgrow3 (by simp; omega) (fun q hq => (hown.lt q hq).1)
      clear hgrow3 hnil3 hown'
      have hI := hO3.isW' (HU.out.snoc (by omega) (by omega)) (show (L ++ [c]).length = k + 1 by rw [List.length_append, HK.out]; rfl)
      refine Calls.mono (nNorm_calls (some ⟨g3, 0, none⟩) (k + 1) cap3 (L ++ [c]) w3 hI (by omega)) ?_
      rintro e w4 ⟨ao4, cv4, rfl, hO4, hb4⟩
      go_wp2_with fail
      go_ret
      have ev : val (L ++ [c]) = val xs + val ys := by
        have e1 := HV.out
        rw [low_all xs k (by have := X1.out; omega), low_all ys k (by have := Y1.out; omega)] at e1
        rw [val_append, HK.out, ← e1]; simp [val]
      rw [ev] at hO4
      rw [ev]
      exact ⟨ao4, cv4, rfl, hO4.low hb3.size, nT hb3 hb4⟩
set_option maxRecDepth 100000 in
set_option maxHeartbeats 4000000 in
theorem nAdd_lt (a a' : Option Addr) (len cap len' cap' : Nat) (xs ys : List Int) (w : World) (h : IsW w a len cap xs) (h' : IsW w a' len' cap' ys) (hm : len ≤ 17592186044415) (hm' : len' ≤ 17592186044415) (hc : len < len') :
    Calls Tryz.prog 116 #[.slice a len cap, .slice a' len' cap'] w fun e w' => ∃ (ao : Option Addr) (cv : Nat), e = .returned (.slice ao (wordsOf (val xs + val ys)).length cv) ∧ Own w.heap.size w' ao cv (wordsOf (val xs + val ys)) ∧ Below w.heap.size w w' := by
  obtain ⟨i0, hi, hz0, hz1, hz2⟩ := info_parts word_info
  have X1 : Hid (xs.length ≤ len') := by have := h.1; rw [Hid]; omega
  have Y1 : Hid (ys.length ≤ len') := by have := h'.1; rw [Hid]; omega
  have gx := fun i => h.2.1.get i
  have gy := fun i => h'.2.1.get i
  have GX : Hid (∀ i, 0 ≤ xs.getD i 0 ∧ xs.getD i 0 ≤ 18446744073709551615) := gx
  have GY : Hid (∀ i, 0 ≤ ys.getD i 0 ∧ ys.getD i 0 ≤ 18446744073709551615) := gy
  clear gx gy
  go_enter Tryz.func116, Tryz.ntmps116
  go_wp2_with fail
  go_loopw [5, 6, 7] (fun v cv i wr => ∃ (k : Nat) (L : List Int) (c : Int) (ao : Option Addr) (cp : Nat), k ≤ len' ∧ i = .int .i64 k ∧ cv = .int .u64 c ∧ (c = 0 ∨ c = 1) ∧ v = .slice ao k cp ∧ L.length = k ∧ AllU L ∧ val L + 18446744073709551616 ^ k * c.toNat = low xs k + low ys k ∧ Own w.heap.size wr ao cp L ∧ Below w.heap.size w wr) (fun _ _ i _ => len' - (intOf i).toNat)
  case atStart => exact ⟨0, [], 0, none, 0, by omega, rfl, rfl, Or.inl rfl, rfl, rfl, (fun x hx => by cases hx), by simp [val, low], World.ownsRow_nil _ _ _ _, Below.refl _ _⟩
  case round =>
    obtain ⟨k, L, c, ao, cp, hk, rfl, rfl, hc01, rfl, hLk, hLU, hval, hown, hbr⟩ := hrel
    have HV : Hid (val L + 18446744073709551616 ^ k * c.toNat = low xs k + low ys k) := hval
    have HC : Hid (c = 0 ∨ c = 1) := hc01
    have HK : Hid (L.length = k) := hLk
    have HU : Hid (AllU L) := hLU
    have b0 : 0 ≤ c ∧ c ≤ 1 := by omega
    unfold Own at hown
    rw [hLk] at hown
    clear hval hc01 hLk hLU
    have hWr := h.keep hbr
    have hWr' := h'.keep hbr
    have hsize := hbr.size
    by_cases hlt : k < len'
    · have W1 := nWord_calls a len cap xs k wr hWr
      have W2 := nWord_calls a' len' cap' ys k wr hWr'
      obtain ⟨x, hx⟩ : ∃ x, x = xs.getD k 0 := ⟨_, rfl⟩
      obtain ⟨y, hy⟩ : ∃ y, y = ys.getD k 0 := ⟨_, rfl⟩
      rw [← hx] at W1
      rw [← hy] at W2
      have bx := GX.out k
      have by' := GY.out k
      rw [← hx] at bx
      rw [← hy] at by'
      have HX : Hid (x = xs.getD k 0) := hx
      have HY : Hid (y = ys.getD k 0) := hy
      have HW1 : Hid (Calls Tryz.prog 114 #[.slice a len cap, .int .i64 k] wr fun e w' => e = .returned (.int .u64 x) ∧ w' = wr) := W1
      have HW2 : Hid (Calls Tryz.prog 114 #[.slice a' len' cap', .int .i64 k] wr fun e w' => e = .returned (.int .u64 y) ∧ w' = wr) := W2
      clear hx hy W1 W2
      go_wp2_with fail
      refine Calls.mono HW1.out ?_
      rintro e wr ⟨rfl, rfl⟩
      go_wp2_with fail
      refine Calls.mono HW2.out ?_
      rintro e wr ⟨rfl, rfl⟩
      have ES : Hid ((IntKind.u64.wrap (IntKind.u64.wrap (x + y) + c)) = (x + y + c) % 18446744073709551616) := by rw [Hid, IntKind.wrap_u64, IntKind.wrap_u64]; omega
      go_wp2_with (first | (at_builtin; refine wpList_append_own _ rfl _ _ 25 rfl w.heap.size 23 i0 (.int .u64 0) 1 8 Tryz.underlying25 hi hz0 hz1 hz2 rfl (by decide) _ _ _ rfl (hown.alloc _) ⟨wr.heap.size, 0, none⟩ 1 1 [.int .u64 (IntKind.u64.wrap (IntKind.u64.wrap (x + y) + c))] rfl rfl (cell_one_new _ _ _) (fun x hx => by simp at hx; subst hx; rfl) (by unfold maxLen; omega) (by omega) (by simp; omega) ?_; intro v' w3 hown' hgrow3 hnil3) | (at_builtin; refine wpList_append_own _ rfl _ _ 25 rfl w.heap.size 23 i0 (.int .u64 0) 1 8 Tryz.underlying25 hi hz0 hz1 hz2 rfl (by decide) _ _ _ rfl (hown.alloc _) ⟨wr.heap.size, 0, none⟩ 1 1 [.int .u64 x] rfl rfl (cell_one_new _ _ _) (fun x hx => by simp at hx; subst hx; rfl) (by unfold maxLen; omega) (by omega) (by simp; omega) ?_; intro v' w3 hown' hgrow3 hnil3))
      all_goals
        obtain ⟨g3, cap3, hv3, hO3⟩ := own_snoc HK.out hown'
        subst hv3
        have es := ES.out
        have ec := HC.out
        have hb3 : Below w.heap.size w w3 := (hbr.alloc hsize _).grown hgrow3 (by simp; omega) (fun q hq => (hown.lt q hq).1)
        clear hgrow3 hnil3 hown'
        refine ⟨?_, by simp [intOf]; omega⟩
        first
        | exact ⟨k + 1, _, 0, _, cap3, by omega, by go_num, rfl, by omega, rfl, by simp [HK.out], HU.out.snoc (by omega) (by omega), add_step xs ys L k x y c _ 0 HK.out HX.out HY.out (by omega) (by omega) (by omega) (by omega) (by omega) HV.out (by omega), hO3, hb3⟩
        | exact ⟨k + 1, _, 1, _, cap3, by omega, by go_num, rfl, by omega, rfl, by simp [HK.out], HU.out.snoc (by omega) (by omega), add_step xs ys L k x y c _ 1 HK.out HX.out HY.out (by omega) (by omega) (by omega) (by omega) (by omega) HV.out (by omega), hO3, hb3⟩
    · have hkn : k = len' := by omega
      go_wp2_with (at_builtin; refine wpList_append_own _ rfl _ _ 25 rfl w.heap.size 23 i0 (.int .u64 0) 1 8 Tryz.underlying25 hi hz0 hz1 hz2 rfl (by decide) _ _ _ rfl (hown.alloc _) ⟨wr.heap.size, 0, none⟩ 1 1 [.int .u64 c] rfl rfl (cell_one_new _ _ _) (fun x hx => by simp at hx; subst hx; rfl) (by unfold maxLen; omega) (by omega) (by simp; omega) ?_; intro v' w3 hown' hgrow3 hnil3)
      obtain ⟨g3, cap3, hv3, hO3⟩ := own_snoc HK.out hown'
      subst hv3
      have hb3 : Below w.heap.size w w3 := (hbr.alloc hsize _).grown hgrow3 (by simp; omega) (fun q hq => (hown.lt q hq).1)
      clear hgrow3 hnil3 hown'
      have hI := hO3.isW' (HU.out.snoc (by omega) (by omega)) (show (L ++ [c]).length = k + 1 by rw [List.length_append, HK.out]; rfl)
      refine Calls.mono (nNorm_calls (some ⟨g3, 0, none⟩) (k + 1) cap3 (L ++ [c]) w3 hI (by omega)) ?_
      rintro e w4 ⟨ao4, cv4, rfl, hO4, hb4⟩
      go_wp2_with fail
      go_ret
      have ev : val (L ++ [c]) = val xs + val ys := by
        have e1 := HV.out
        rw [low_all xs k (by have := X1.out; omega), low_all ys k (by have := Y1.out; omega)] at e1
        rw [val_append, HK.out, ← e1]; simp [val]
      rw [ev] at hO4
      rw [ev]
      exact ⟨ao4, cv4, rfl, hO4.low hb3.size, nT hb3 hb4⟩
theorem nAdd_calls (a a' : Option Addr) (len cap len' cap' : Nat) (xs ys : List Int) (w : World) (h : IsW w a len cap xs) (h' : IsW w a' len' cap' ys) (hm : len ≤ 17592186044415) (hm' : len' ≤ 17592186044415) :
    Calls Tryz.prog 116 #[.slice a len cap, .slice a' len' cap'] w fun e w' => ∃ (ao : Option Addr) (cv : Nat), e = .returned (.slice ao (wordsOf (val xs + val ys)).length cv) ∧ Own w.heap.size w' ao cv (wordsOf (val xs + val ys)) ∧ Below w.heap.size w w' := by
  by_cases hc : len' ≤ len
  · exact nAdd_ge a a' len cap len' cap' xs ys w h h' hm hm' hc
  · exact nAdd_lt a a' len cap len' cap' xs ys w h h' hm hm' (by omega)
theorem shl_snoc (xs L : List Int) (k sk s m x c y c' : Nat) (hm : m = 64 * sk + s) (hs : s < 64) (hl : L.length = sk + k) (hx : xs.getD k 0 = (x : Int))
    (hv : val L + 18446744073709551616 ^ (sk + k) * c = low xs k * 2 ^ m) (hy : y = c + x * 2 ^ s % 18446744073709551616) (hc : c' = x / 2 ^ (64 - s)) :
    val (L ++ [(y : Int)]) + 18446744073709551616 ^ (sk + (k + 1)) * c' = low xs (k + 1) * 2 ^ m := by
  have e3 : low xs (k + 1) = low xs k + 18446744073709551616 ^ k * x := by show low xs k + _ * (xs.getD k 0).toNat = _; rw [hx, Int.toNat_natCast]
  have e4 := shl_word x s hs
  rw [← hc] at e4
  have e5 : 18446744073709551616 ^ k * x * 2 ^ m = 18446744073709551616 ^ (sk + k) * (x * 2 ^ s) := by
    rw [hm, two64, two64, Nat.pow_add 2 (64 * sk) s, show 64 * (sk + k) = 64 * sk + 64 * k by omega, Nat.pow_add]
    simp only [Nat.mul_assoc, Nat.mul_left_comm, Nat.mul_comm]
  have e6 : 18446744073709551616 ^ (sk + k) * (x * 2 ^ s % 18446744073709551616 + 18446744073709551616 * c') = 18446744073709551616 ^ (sk + k) * (x * 2 ^ s % 18446744073709551616) + 18446744073709551616 ^ (sk + k) * 18446744073709551616 * c' := by rw [Nat.mul_add, Nat.mul_assoc]
  have e7 : 18446744073709551616 ^ (sk + k) * y = 18446744073709551616 ^ (sk + k) * c + 18446744073709551616 ^ (sk + k) * (x * 2 ^ s % 18446744073709551616) := by rw [hy, Nat.mul_add]
  have e8 : val [(y : Int)] = y := by simp [val]
  rw [e3, Nat.add_mul, ← hv, e5, ← e4, e6, val_append, hl, e8, e7, show sk + (k + 1) = sk + k + 1 by omega, Nat.pow_succ]
  generalize 18446744073709551616 ^ (sk + k) * 18446744073709551616 * c' = P
  generalize 18446744073709551616 ^ (sk + k) * (x * 2 ^ s % 18446744073709551616) = Q
  generalize 18446744073709551616 ^ (sk + k) * c = R
  omega
theorem or_words3 (c x s : Nat) (hs : s < 64) (hc : c < 2 ^ s) (hc2 : c < 18446744073709551616) : bits BinOp.or IntKind.u64 (IntKind.u64.wrap ((x : Int) * 2 ^ s)) (c : Int) = ((c + x * 2 ^ s % 18446744073709551616 : Nat) : Int) := by
  rw [mul_pow_cast, wrap_nat, u64_or_nat _ _ (Nat.mod_lt _ (by decide)) hc2, Nat.or_comm, (shl_room c x s hs hc).1]
set_option maxRecDepth 100000 in
set_option maxHeartbeats 4000000 in
theorem nShl_calls (a : Option Addr) (len cap m : Nat) (xs : List Int) (w : World) (h : IsW w a len cap xs) (hm : m ≤ 9223372036854775807) (hb : m / 64 + len ≤ 17592186044000) :
    Calls Tryz.prog 115 #[.slice a len cap, .int .i64 (m : Int)] w fun e w' => ∃ (ao : Option Addr) (cv : Nat), e = .returned (.slice ao (wordsOf (val xs * 2 ^ m)).length cv) ∧ Own w.heap.size w' ao cv (wordsOf (val xs * 2 ^ m)) ∧ Below w.heap.size w w' := by
  obtain ⟨i0, hi, hz0, hz1, hz2⟩ := info_parts word_info
  obtain ⟨sk, hsk⟩ : ∃ sk, sk = m / 64 := ⟨_, rfl⟩
  obtain ⟨w1, hmk, hown1, hg1⟩ := run_make_full (P := Tryz.prog) w w.heap.size 25 23 i0 (.int .u64 0) 1 Tryz.underlying25 hi hz0 hz1 .i64 .i64 sk (by rw [hz2]; omega) (by unfold maxLen; omega) (Nat.le_refl _)
  have hb1 : Below w.heap.size w w1 := (Below.refl _ _).grown hg1 (Nat.le_refl _) (fun q hq => by cases hq)
  have hown1' : w1.ownsRow w.heap.size 23 1 (.slice (some ⟨w.heap.size, 0, none⟩) sk sk) sk ((zeros sk).map (Value.int .u64)) := by
    have e : (madeCells (Value.int .u64 0).cells (sk * 1)).toList = (zeros sk).map (Value.int .u64) := by
      rw [show (Value.int .u64 0).cells = #[Value.int .u64 0] from rfl, toList_madeCells_one, Nat.mul_one, zeros, List.map_replicate]
    rw [← e]; exact hown1
  have q1 : (m : Int) / 64 = (sk : Int) := by omega
  have HM : Hid (m = 64 * sk + m % 64) := by rw [Hid]; omega
  have hshb : m % 64 < 64 := by omega
  have HL : Hid (xs.length = len) := h.1.symm
  rw [← hsk] at hb
  clear hsk hown1 hg1
  go_enter Tryz.func115, Tryz.ntmps115
  go_wp2_with fail
  clear hmk q1
  go_loopw [5, 7, 18] (fun vo vc vi wr => ∃ (k c l : Nat) (L : List Int) (ao : Option Addr) (cp : Nat), k ≤ len ∧ vi = .int .i64 k ∧ vc = .int .u64 (c : Int) ∧ vo = .slice ao l cp ∧ Hid (l = sk + k) ∧ Hid (L.length = l) ∧ Hid (AllU L) ∧ Hid (c < 2 ^ (m % 64)) ∧ Hid (val L + 18446744073709551616 ^ (sk + k) * c = low xs k * 2 ^ m) ∧ wr.ownsRow w.heap.size 23 1 (.slice ao l cp) l (L.map (Value.int .u64)) ∧ Below w.heap.size w wr) (fun _ _ vi _ => len - (intOf vi).toNat)
  case atStart => exact ⟨0, 0, sk, zeros sk, _, sk, by omega, rfl, rfl, rfl, rfl, zeros_len sk, zeros_U sk, Nat.pow_pos (by decide), by rw [Hid, val_zeros]; simp [low], hown1', hb1⟩
  case round =>
    clear hown1' hb1
    obtain ⟨k, c, l, L, ao, cp, hk, rfl, rfl, rfl, HLK, HK, HU, HC, HV, hown, hbr⟩ := hrel
    have hsize := hbr.size
    have hc2 : c < 18446744073709551616 := by have := HC.out; have := pow_le_word (m % 64) hshb; omega
    have hlb : l ≤ 17592186044000 := by have := HLK.out; omega
    by_cases hlt : k < len
    · obtain ⟨b, off, ha, hbl, hcx⟩ := h.2.2.2 k hlt
      obtain ⟨x, hx, hx1⟩ := word_nat2 xs h.2.1 k
      have hcx2 : wr.cell? ⟨b, off + k, none⟩ = some (.int .u64 (x : Int)) := by rw [← hx]; exact (hbr.cell (p := ⟨b, off + k, none⟩) hbl).trans hcx
      have HX : Hid (xs.getD k 0 = (x : Int)) := hx
      subst ha
      obtain ⟨y, hy⟩ : ∃ y : Nat, y = c + x * 2 ^ (m % 64) % 18446744073709551616 := ⟨_, rfl⟩
      have hyb : y < 18446744073709551616 := by rw [hy]; exact (shl_room c x (m % 64) hshb HC.out).2
      have q3 : bits BinOp.or IntKind.u64 (IntKind.u64.wrap ((x : Int) * 2 ^ (m % 64))) (c : Int) = (y : Int) := by rw [or_words3 c x (m % 64) hshb HC.out hc2, hy]
      obtain ⟨z, hz⟩ : ∃ z : Nat, z = x / 2 ^ (64 - m % 64) := ⟨_, rfl⟩
      have q4 : (x : Int) / 2 ^ (64 - m % 64) = (z : Int) := by rw [div_pow_cast, hz]
      have HZB : Hid (z < 2 ^ (m % 64)) := by
        rw [Hid, hz, Nat.div_lt_iff_lt_mul (Nat.pow_pos (by decide)), ← Nat.pow_add, show m % 64 + (64 - m % 64) = 64 by omega]; exact hx1
      have HST : Hid _ := shl_snoc xs L k sk (m % 64) m x c y z HM.out hshb (by rw [HK.out, HLK.out]) hx HV.out hy hz
      have HZ0 : Hid (m % 64 = 0 → z = 0) := fun q => by have := HZB.out; rw [q] at this; simp at this; exact this
      clear hx hy hz hcx
      by_cases hs0 : m % 64 = 0
      · have hz00 := HZ0.out hs0
        have q8 : ¬ (0 : Int) < (m : Int) % 64 := by omega
        have HS0 : Hid (m % 64 = 0) := hs0
        clear hs0
        go_wp2_with (at_builtin; refine wpList_append_own _ rfl _ _ 25 rfl w.heap.size 23 i0 (.int .u64 0) 1 8 Tryz.underlying25 hi hz0 hz1 hz2 rfl (by decide) _ _ _ rfl (hown.alloc _) ⟨wr.heap.size, 0, none⟩ 1 1 [.int .u64 (y : Int)] rfl rfl (cell_one_new _ _ _) (fun x hx => by simp at hx; subst hx; rfl) (by unfold maxLen; omega) (by omega) (by simp; omega) ?_; intro v' w3 hown' hgrow3 hnil3)
        obtain ⟨g3, cap3, hv3, hO3⟩ := own_snoc HK.out hown'
        subst hv3
        have hb3 : Below w.heap.size w w3 := (hbr.alloc hsize _).grown hgrow3 (by simp; omega) (fun q hq => (hown.lt q hq).1)
        have hO4 : w3.ownsRow w.heap.size 23 1 (.slice (some ⟨g3, 0, none⟩) (l + 1) cap3) (l + 1) ((L ++ [(y : Int)]).map (Value.int .u64)) := by
          unfold Own at hO3; rw [List.length_append, HK.out] at hO3; exact hO3
        clear hgrow3 hnil3 hown'
        refine ⟨⟨k + 1, z, l + 1, L ++ [(y : Int)], some ⟨g3, 0, none⟩, cap3, by omega, by go_num, by rw [hz00]; rfl, rfl, by rw [Hid, HLK.out]; omega, by rw [Hid, List.length_append, HK.out]; rfl, HU.out.snoc (by omega) (by omega), HZB, HST, hO4, hb3⟩, by simp [intOf]; omega⟩
      · have q8 : (0 : Int) < (m : Int) % 64 := by omega
        have HS0 : Hid (m % 64 ≠ 0) := hs0
        clear hs0
        go_wp2_with (at_builtin; refine wpList_append_own _ rfl _ _ 25 rfl w.heap.size 23 i0 (.int .u64 0) 1 8 Tryz.underlying25 hi hz0 hz1 hz2 rfl (by decide) _ _ _ rfl (hown.alloc _) ⟨wr.heap.size, 0, none⟩ 1 1 [.int .u64 (y : Int)] rfl rfl (cell_one_new _ _ _) (fun x hx => by simp at hx; subst hx; rfl) (by unfold maxLen; omega) (by omega) (by simp; omega) ?_; intro v' w3 hown' hgrow3 hnil3)
        obtain ⟨g3, cap3, hv3, hO3⟩ := own_snoc HK.out hown'
        subst hv3
        have hb3 : Below w.heap.size w w3 := (hbr.alloc hsize _).grown hgrow3 (by simp; omega) (fun q hq => (hown.lt q hq).1)
        have hO4 : w3.ownsRow w.heap.size 23 1 (.slice (some ⟨g3, 0, none⟩) (l + 1) cap3) (l + 1) ((L ++ [(y : Int)]).map (Value.int .u64)) := by
          unfold Own at hO3; rw [List.length_append, HK.out] at hO3; exact hO3
        clear hgrow3 hnil3 hown'
        refine ⟨⟨k + 1, z, l + 1, L ++ [(y : Int)], some ⟨g3, 0, none⟩, cap3, by omega, by go_num, by rw [q4], rfl, by rw [Hid, HLK.out]; omega, by rw [Hid, List.length_append, HK.out]; rfl, HU.out.snoc (by omega) (by omega), HZB, HST, hO4, hb3⟩, by simp [intOf]; omega⟩
    · have HKE : Hid (k = len) := by rw [Hid]; omega
      go_wp2_with (at_builtin; refine wpList_append_own _ rfl _ _ 25 rfl w.heap.size 23 i0 (.int .u64 0) 1 8 Tryz.underlying25 hi hz0 hz1 hz2 rfl (by decide) _ _ _ rfl (hown.alloc _) ⟨wr.heap.size, 0, none⟩ 1 1 [.int .u64 (c : Int)] rfl rfl (cell_one_new _ _ _) (fun x hx => by simp at hx; subst hx; rfl) (by unfold maxLen; omega) (by omega) (by simp; omega) ?_; intro v' w3 hown' hgrow3 hnil3)
      obtain ⟨g3, cap3, hv3, hO3⟩ := own_snoc HK.out hown'
      subst hv3
      have hb3 : Below w.heap.size w w3 := (hbr.alloc hsize _).grown hgrow3 (by simp; omega) (fun q hq => (hown.lt q hq).1)
      clear hgrow3 hnil3 hown'
      have hI := hO3.isW' (HU.out.snoc (by omega) (by omega)) (show (L ++ [(c : Int)]).length = l + 1 by rw [List.length_append, HK.out]; rfl)
      refine Calls.mono (nNorm_calls (some ⟨g3, 0, none⟩) (l + 1) cap3 (L ++ [(c : Int)]) w3 hI (by omega)) ?_
      rintro e w4 ⟨ao4, cv4, rfl, hO4, hb4⟩
      go_wp2_with fail
      go_ret
      have ev : val (L ++ [(c : Int)]) = val xs * 2 ^ m := by
        have e1 := HV.out
        rw [low_all xs k (by have := HL.out; have := HKE.out; omega)] at e1
        rw [val_append, HK.out, HLK.out, ← e1]; simp [val]
      rw [ev] at hO4
      rw [ev]
      exact ⟨ao4, cv4, rfl, hO4.low hb3.size, nT hb3 hb4⟩
set_option maxRecDepth 100000 in
set_option maxHeartbeats 4000000 in
theorem nSub_ge (a a' : Option Addr) (len cap len' cap' : Nat) (xs ys : List Int) (w : World) (h : IsW w a len cap xs) (h' : IsW w a' len' cap' ys) (hm : len ≤ 17592186044415) (_hm' : len' ≤ 17592186044415) (hc : len' ≤ len) (hle : val ys ≤ val xs) :
    Calls Tryz.prog 118 #[.slice a len cap, .slice a' len' cap'] w fun e w' => ∃ (ao : Option Addr) (cv : Nat), e = .returned (.slice ao (wordsOf (val xs - val ys)).length cv) ∧ Own w.heap.size w' ao cv (wordsOf (val xs - val ys)) ∧ Below w.heap.size w w' := by
  obtain ⟨i0, hi, hz0, hz1, hz2⟩ := info_parts word_info
  have X1 : Hid (xs.length ≤ len) := by have := h.1; rw [Hid]; omega
  have Y1 : Hid (ys.length ≤ len) := by have := h'.1; rw [Hid]; omega
  have gx := fun i => h.2.1.get i
  have gy := fun i => h'.2.1.get i
  have GX : Hid (∀ i, 0 ≤ xs.getD i 0 ∧ xs.getD i 0 ≤ 18446744073709551615) := gx
  have GY : Hid (∀ i, 0 ≤ ys.getD i 0 ∧ ys.getD i 0 ≤ 18446744073709551615) := gy
  clear gx gy
  have HLE : Hid (val ys ≤ val xs) := hle
  clear hle
  go_enter Tryz.func118, Tryz.ntmps118
  go_wp2_with fail
  go_loopw [5, 6, 7] (fun v cv i wr => ∃ (k : Nat) (L : List Int) (c : Int) (ao : Option Addr) (cp : Nat), k ≤ len ∧ i = .int .i64 k ∧ cv = .int .u64 c ∧ (c = 0 ∨ c = 1) ∧ v = .slice ao k cp ∧ L.length = k ∧ AllU L ∧ val L + low ys k = low xs k + 18446744073709551616 ^ k * c.toNat ∧ Own w.heap.size wr ao cp L ∧ Below w.heap.size w wr) (fun _ _ i _ => len - (intOf i).toNat)
  case atStart => exact ⟨0, [], 0, none, 0, by omega, rfl, rfl, Or.inl rfl, rfl, rfl, (fun x hx => by cases hx), by simp [val, low], World.ownsRow_nil _ _ _ _, Below.refl _ _⟩
  case round =>
    obtain ⟨k, L, c, ao, cp, hk, rfl, rfl, hc01, rfl, hLk, hLU, hval, hown, hbr⟩ := hrel
    have HV : Hid (val L + low ys k = low xs k + 18446744073709551616 ^ k * c.toNat) := hval
    have HC : Hid (c = 0 ∨ c = 1) := hc01
    have HK : Hid (L.length = k) := hLk
    have HU : Hid (AllU L) := hLU
    have b0 : 0 ≤ c ∧ c ≤ 1 := by omega
    unfold Own at hown
    rw [hLk] at hown
    clear hval hc01 hLk hLU
    have hWr := h.keep hbr
    have hWr' := h'.keep hbr
    have hsize := hbr.size
    by_cases hlt : k < len
    · have W1 := nWord_calls a len cap xs k wr hWr
      have W2 := nWord_calls a' len' cap' ys k wr hWr'
      obtain ⟨x, hx⟩ : ∃ x, x = xs.getD k 0 := ⟨_, rfl⟩
      obtain ⟨y, hy⟩ : ∃ y, y = ys.getD k 0 := ⟨_, rfl⟩
      rw [← hx] at W1
      rw [← hy] at W2
      have bx := GX.out k
      have by' := GY.out k
      rw [← hx] at bx
      rw [← hy] at by'
      have HX : Hid (x = xs.getD k 0) := hx
      have HY : Hid (y = ys.getD k 0) := hy
      have HW1 : Hid (Calls Tryz.prog 114 #[.slice a len cap, .int .i64 k] wr fun e w' => e = .returned (.int .u64 x) ∧ w' = wr) := W1
      have HW2 : Hid (Calls Tryz.prog 114 #[.slice a' len' cap', .int .i64 k] wr fun e w' => e = .returned (.int .u64 y) ∧ w' = wr) := W2
      clear hx hy W1 W2
      go_wp2_with fail
      refine Calls.mono HW1.out ?_
      rintro e wr ⟨rfl, rfl⟩
      go_wp2_with fail
      refine Calls.mono HW2.out ?_
      rintro e wr ⟨rfl, rfl⟩
      clear hWr hWr'
      rcases HC.out with hc0 | hc0
      · subst hc0
        rcases Int.lt_trichotomy x y with hxy | hxy | hxy
        · go_wp2_with (at_builtin; refine wpList_append_own _ rfl _ _ 25 rfl w.heap.size 23 i0 (.int .u64 0) 1 8 Tryz.underlying25 hi hz0 hz1 hz2 rfl (by decide) _ _ _ rfl (hown.alloc _) ⟨wr.heap.size, 0, none⟩ 1 1 [_] rfl rfl (cell_one_new _ _ _) (fun x hx => by simp at hx; subst hx; rfl) (by unfold maxLen; omega) (by omega) (by simp; omega) ?_; intro v' w3 hown' hgrow3 hnil3)
          obtain ⟨g3, cap3, hv3, hO3⟩ := own_snoc HK.out hown'
          subst hv3
          have hb3 : Below w.heap.size w w3 := (hbr.alloc hsize _).grown hgrow3 (by simp; omega) (fun q hq => (hown.lt q hq).1)
          clear hgrow3 hnil3 hown'
          refine ⟨?_, by simp [intOf]; omega⟩
          exact ⟨k + 1, _, 1, _, cap3, by omega, by go_num, rfl, by omega, rfl, by simp [HK.out], HU.out.snoc (by (try simp only [IntKind.wrap_u64]); omega) (by (try simp only [IntKind.wrap_u64]); omega), sub_step xs ys L k x y 0 _ 1 HK.out HX.out HY.out (by omega) (by omega) (by omega) (by (try simp only [IntKind.wrap_u64]); omega) (by omega) HV.out (by (try simp only [IntKind.wrap_u64]); omega), hO3, hb3⟩
        · subst hxy
          go_wp2_with (at_builtin; refine wpList_append_own _ rfl _ _ 25 rfl w.heap.size 23 i0 (.int .u64 0) 1 8 Tryz.underlying25 hi hz0 hz1 hz2 rfl (by decide) _ _ _ rfl (hown.alloc _) ⟨wr.heap.size, 0, none⟩ 1 1 [_] rfl rfl (cell_one_new _ _ _) (fun x hx => by simp at hx; subst hx; rfl) (by unfold maxLen; omega) (by omega) (by simp; omega) ?_; intro v' w3 hown' hgrow3 hnil3)
          obtain ⟨g3, cap3, hv3, hO3⟩ := own_snoc HK.out hown'
          subst hv3
          have hb3 : Below w.heap.size w w3 := (hbr.alloc hsize _).grown hgrow3 (by simp; omega) (fun q hq => (hown.lt q hq).1)
          clear hgrow3 hnil3 hown'
          refine ⟨?_, by simp [intOf]; omega⟩
          exact ⟨k + 1, _, 0, _, cap3, by omega, by go_num, rfl, by omega, rfl, by simp [HK.out], HU.out.snoc (by (try simp only [IntKind.wrap_u64]); omega) (by (try simp only [IntKind.wrap_u64]); omega), sub_step xs ys L k x x 0 _ 0 HK.out HX.out HY.out (by omega) (by omega) (by omega) (by (try simp only [IntKind.wrap_u64]); omega) (by omega) HV.out (by (try simp only [IntKind.wrap_u64]); omega), hO3, hb3⟩
        · go_wp2_with (at_builtin; refine wpList_append_own _ rfl _ _ 25 rfl w.heap.size 23 i0 (.int .u64 0) 1 8 Tryz.underlying25 hi hz0 hz1 hz2 rfl (by decide) _ _ _ rfl (hown.alloc _) ⟨wr.heap.size, 0, none⟩ 1 1 [_] rfl rfl (cell_one_new _ _ _) (fun x hx => by simp at hx; subst hx; rfl) (by unfold maxLen; omega) (by omega) (by simp; omega) ?_; intro v' w3 hown' hgrow3 hnil3)
          obtain ⟨g3, cap3, hv3, hO3⟩ := own_snoc HK.out hown'
          subst hv3
          have hb3 : Below w.heap.size w w3 := (hbr.alloc hsize _).grown hgrow3 (by simp; omega) (fun q hq => (hown.lt q hq).1)
          clear hgrow3 hnil3 hown'
          refine ⟨?_, by simp [intOf]; omega⟩
          exact ⟨k + 1, _, 0, _, cap3, by omega, by go_num, rfl, by omega, rfl, by simp [HK.out], HU.out.snoc (by (try simp only [IntKind.wrap_u64]); omega) (by (try simp only [IntKind.wrap_u64]); omega), sub_step xs ys L k x y 0 _ 0 HK.out HX.out HY.out (by omega) (by omega) (by omega) (by (try simp only [IntKind.wrap_u64]); omega) (by omega) HV.out (by (try simp only [IntKind.wrap_u64]); omega), hO3, hb3⟩
      · subst hc0
        rcases Int.lt_trichotomy x y with hxy | hxy | hxy
        · go_wp2_with (at_builtin; refine wpList_append_own _ rfl _ _ 25 rfl w.heap.size 23 i0 (.int .u64 0) 1 8 Tryz.underlying25 hi hz0 hz1 hz2 rfl (by decide) _ _ _ rfl (hown.alloc _) ⟨wr.heap.size, 0, none⟩ 1 1 [_] rfl rfl (cell_one_new _ _ _) (fun x hx => by simp at hx; subst hx; rfl) (by unfold maxLen; omega) (by omega) (by simp; omega) ?_; intro v' w3 hown' hgrow3 hnil3)
          obtain ⟨g3, cap3, hv3, hO3⟩ := own_snoc HK.out hown'
          subst hv3
          have hb3 : Below w.heap.size w w3 := (hbr.alloc hsize _).grown hgrow3 (by simp; omega) (fun q hq => (hown.lt q hq).1)
          clear hgrow3 hnil3 hown'
          refine ⟨?_, by simp [intOf]; omega⟩
          exact ⟨k + 1, _, 1, _, cap3, by omega, by go_num, rfl, by omega, rfl, by simp [HK.out], HU.out.snoc (by (try simp only [IntKind.wrap_u64]); omega) (by (try simp only [IntKind.wrap_u64]); omega), sub_step xs ys L k x y 1 _ 1 HK.out HX.out HY.out (by omega) (by omega) (by omega) (by (try simp only [IntKind.wrap_u64]); omega) (by omega) HV.out (by (try simp only [IntKind.wrap_u64]); omega), hO3, hb3⟩
        · subst hxy
          go_wp2_with (at_builtin; refine wpList_append_own _ rfl _ _ 25 rfl w.heap.size 23 i0 (.int .u64 0) 1 8 Tryz.underlying25 hi hz0 hz1 hz2 rfl (by decide) _ _ _ rfl (hown.alloc _) ⟨wr.heap.size, 0, none⟩ 1 1 [_] rfl rfl (cell_one_new _ _ _) (fun x hx => by simp at hx; subst hx; rfl) (by unfold maxLen; omega) (by omega) (by simp; omega) ?_; intro v' w3 hown' hgrow3 hnil3)
          obtain ⟨g3, cap3, hv3, hO3⟩ := own_snoc HK.out hown'
          subst hv3
          have hb3 : Below w.heap.size w w3 := (hbr.alloc hsize _).grown hgrow3 (by simp; omega) (fun q hq => (hown.lt q hq).1)
          clear hgrow3 hnil3 hown'
          refine ⟨?_, by simp [intOf]; omega⟩
          exact ⟨k + 1, _, 1, _, cap3, by omega, by go_num, rfl, by omega, rfl, by simp [HK.out], HU.out.snoc (by (try simp only [IntKind.wrap_u64]); omega) (by (try simp only [IntKind.wrap_u64]); omega), sub_step xs ys L k x x 1 _ 1 HK.out HX.out HY.out (by omega) (by omega) (by omega) (by (try simp only [IntKind.wrap_u64]); omega) (by omega) HV.out (by (try simp only [IntKind.wrap_u64]); omega), hO3, hb3⟩
        · go_wp2_with (at_builtin; refine wpList_append_own _ rfl _ _ 25 rfl w.heap.size 23 i0 (.int .u64 0) 1 8 Tryz.underlying25 hi hz0 hz1 hz2 rfl (by decide) _ _ _ rfl (hown.alloc _) ⟨wr.heap.size, 0, none⟩ 1 1 [_] rfl rfl (cell_one_new _ _ _) (fun x hx => by simp at hx; subst hx; rfl) (by unfold maxLen; omega) (by omega) (by simp; omega) ?_; intro v' w3 hown' hgrow3 hnil3)
          obtain ⟨g3, cap3, hv3, hO3⟩ := own_snoc HK.out hown'
          subst hv3
          have hb3 : Below w.heap.size w w3 := (hbr.alloc hsize _).grown hgrow3 (by simp; omega) (fun q hq => (hown.lt q hq).1)
          clear hgrow3 hnil3 hown'
          refine ⟨?_, by simp [intOf]; omega⟩
          exact ⟨k + 1, _, 0, _, cap3, by omega, by go_num, rfl, by omega, rfl, by simp [HK.out], HU.out.snoc (by (try simp only [IntKind.wrap_u64]); omega) (by (try simp only [IntKind.wrap_u64]); omega), sub_step xs ys L k x y 1 _ 0 HK.out HX.out HY.out (by omega) (by omega) (by omega) (by (try simp only [IntKind.wrap_u64]); omega) (by omega) HV.out (by (try simp only [IntKind.wrap_u64]); omega), hO3, hb3⟩
    · have HKN : Hid (k = len) := by rw [Hid]; omega
      clear hWr hWr'
      obtain ⟨dl, hdl⟩ : ∃ dl : List Int, dl = L := ⟨_, rfl⟩
      have hOL : Own w.heap.size wr ao cp L := by unfold Own; rw [HK.out]; exact hown
      have hI := hOL.isW' HU.out HK.out
      have NC : Hid _ := nNorm_calls ao k cp L wr hI (by omega)
      clear hI hOL hown hdl dl
      go_wp2_with fail
      refine Calls.mono NC.out ?_
      rintro e w4 ⟨ao4, cv4, rfl, hO4, hb4⟩
      go_wp2_with fail
      go_ret
      have ev : val L = val xs - val ys := by
        have e1 := HV.out
        rw [low_all xs k (by have := X1.out; have := HKN.out; omega), low_all ys k (by have := Y1.out; have := HKN.out; omega)] at e1
        have hlt := val_lt L HU.out
        rw [HK.out] at hlt
        have ec := HC.out
        rcases ec with rfl | rfl
        · simp at e1; omega
        · rw [show (1 : Int).toNat = 1 from rfl, Nat.mul_one] at e1
          generalize 18446744073709551616 ^ k = P at *
          have := HLE.out
          omega
      rw [ev] at hO4
      rw [ev]
      exact ⟨ao4, cv4, rfl, hO4.low hsize, nT hbr hb4⟩
set_option maxRecDepth 100000 in
set_option maxHeartbeats 4000000 in
theorem nSub_lt (a a' : Option Addr) (len cap len' cap' : Nat) (xs ys : List Int) (w : World) (h : IsW w a len cap xs) (h' : IsW w a' len' cap' ys) (hm : len ≤ 17592186044415) (hm' : len' ≤ 17592186044415) (hc : len < len') (hle : val ys ≤ val xs) :
    Calls Tryz.prog 118 #[.slice a len cap, .slice a' len' cap'] w fun e w' => ∃ (ao : Option Addr) (cv : Nat), e = .returned (.slice ao (wordsOf (val xs - val ys)).length cv) ∧ Own w.heap.size w' ao cv (wordsOf (val xs - val ys)) ∧ Below w.heap.size w w' := by
  obtain ⟨i0, hi, hz0, hz1, hz2⟩ := info_parts word_info
  have X1 : Hid (xs.length ≤ len') := by have := h.1; rw [Hid]; omega
  have Y1 : Hid (ys.length ≤ len') := by have := h'.1; rw [Hid]; omega
  have gx := fun i => h.2.1.get i
  have gy := fun i => h'.2.1.get i
  have GX : Hid (∀ i, 0 ≤ xs.getD i 0 ∧ xs.getD i 0 ≤ 18446744073709551615) := gx
  have GY : Hid (∀ i, 0 ≤ ys.getD i 0 ∧ ys.getD i 0 ≤ 18446744073709551615) := gy
  clear gx gy
  have HLE : Hid (val ys ≤ val xs) := hle
  clear hle
  go_enter Tryz.func118, Tryz.ntmps118
  go_wp2_with fail
  go_loopw [5, 6, 7] (fun v cv i wr => ∃ (k : Nat) (L : List Int) (c : Int) (ao : Option Addr) (cp : Nat), k ≤ len' ∧ i = .int .i64 k ∧ cv = .int .u64 c ∧ (c = 0 ∨ c = 1) ∧ v = .slice ao k cp ∧ L.length = k ∧ AllU L ∧ val L + low ys k = low xs k + 18446744073709551616 ^ k * c.toNat ∧ Own w.heap.size wr ao cp L ∧ Below w.heap.size w wr) (fun _ _ i _ => len' - (intOf i).toNat)
  case atStart => exact ⟨0, [], 0, none, 0, by omega, rfl, rfl, Or.inl rfl, rfl, rfl, (fun x hx => by cases hx), by simp [val, low], World.ownsRow_nil _ _ _ _, Below.refl _ _⟩
  case round =>
    obtain ⟨k, L, c, ao, cp, hk, rfl, rfl, hc01, rfl, hLk, hLU, hval, hown, hbr⟩ := hrel
    have HV : Hid (val L + low ys k = low xs k + 18446744073709551616 ^ k * c.toNat) := hval
    have HC : Hid (c = 0 ∨ c = 1) := hc01
    have HK : Hid (L.length = k) := hLk
    have HU : Hid (AllU L) := hLU
    have b0 : 0 ≤ c ∧ c ≤ 1 := by omega
    unfold Own at hown
    rw [hLk] at hown
    clear hval hc01 hLk hLU
    have hWr := h.keep hbr
    have hWr' := h'.keep hbr
    have hsize := hbr.size
    by_cases hlt : k < len'
    · have W1 := nWord_calls a len cap xs k wr hWr
      have W2 := nWord_calls a' len' cap' ys k wr hWr'
      obtain ⟨x, hx⟩ : ∃ x, x = xs.getD k 0 := ⟨_, rfl⟩
      obtain ⟨y, hy⟩ : ∃ y, y = ys.getD k 0 := ⟨_, rfl⟩
      rw [← hx] at W1
      rw [← hy] at W2
      have bx := GX.out k
      have by' := GY.out k
      rw [← hx] at bx
      rw [← hy] at by'
      have HX : Hid (x = xs.getD k 0) := hx
      have HY : Hid (y = ys.getD k 0) := hy
      have HW1 : Hid (Calls Tryz.prog 114 #[.slice a len cap, .int .i64 k] wr fun e w' => e = .returned (.int .u64 x) ∧ w' = wr) := W1
      have HW2 : Hid (Calls Tryz.prog 114 #[.slice a' len' cap', .int .i64 k] wr fun e w' => e = .returned (.int .u64 y) ∧ w' = wr) := W2
      clear hx hy W1 W2
      go_wp2_with fail
      refine Calls.mono HW1.out ?_
      rintro e wr ⟨rfl, rfl⟩
      go_wp2_with fail
      refine Calls.mono HW2.out ?_
      rintro e wr ⟨rfl, rfl⟩
      clear hWr hWr'
      rcases HC.out with hc0 | hc0
      · subst hc0
        rcases Int.lt_trichotomy x y with hxy | hxy | hxy
        · go_wp2_with (at_builtin; refine wpList_append_own _ rfl _ _ 25 rfl w.heap.size 23 i0 (.int .u64 0) 1 8 Tryz.underlying25 hi hz0 hz1 hz2 rfl (by decide) _ _ _ rfl (hown.alloc _) ⟨wr.heap.size, 0, none⟩ 1 1 [_] rfl rfl (cell_one_new _ _ _) (fun x hx => by simp at hx; subst hx; rfl) (by unfold maxLen; omega) (by omega) (by simp; omega) ?_; intro v' w3 hown' hgrow3 hnil3)
          obtain ⟨g3, cap3, hv3, hO3⟩ := own_snoc HK.out hown'
          subst hv3
          have hb3 : Below w.heap.size w w3 := (hbr.alloc hsize _).grown hgrow3 (by simp; omega) (fun q hq => (hown.lt q hq).1)
          clear hgrow3 hnil3 hown'
          refine ⟨?_, by simp [intOf]; omega⟩
          exact ⟨k + 1, _, 1, _, cap3, by omega, by go_num, rfl, by omega, rfl, by simp [HK.out], HU.out.snoc (by (try simp only [IntKind.wrap_u64]); omega) (by (try simp only [IntKind.wrap_u64]); omega), sub_step xs ys L k x y 0 _ 1 HK.out HX.out HY.out (by omega) (by omega) (by omega) (by (try simp only [IntKind.wrap_u64]); omega) (by omega) HV.out (by (try simp only [IntKind.wrap_u64]); omega), hO3, hb3⟩
        · subst hxy
          go_wp2_with (at_builtin; refine wpList_append_own _ rfl _ _ 25 rfl w.heap.size 23 i0 (.int .u64 0) 1 8 Tryz.underlying25 hi hz0 hz1 hz2 rfl (by decide) _ _ _ rfl (hown.alloc _) ⟨wr.heap.size, 0, none⟩ 1 1 [_] rfl rfl (cell_one_new _ _ _) (fun x hx => by simp at hx; subst hx; rfl) (by unfold maxLen; omega) (by omega) (by simp; omega) ?_; intro v' w3 hown' hgrow3 hnil3)
          obtain ⟨g3, cap3, hv3, hO3⟩ := own_snoc HK.out hown'
          subst hv3
          have hb3 : Below w.heap.size w w3 := (hbr.alloc hsize _).grown hgrow3 (by simp; omega) (fun q hq => (hown.lt q hq).1)
          clear hgrow3 hnil3 hown'
          refine ⟨?_, by simp [intOf]; omega⟩
          exact ⟨k + 1, _, 0, _, cap3, by omega, by go_num, rfl, by omega, rfl, by simp [HK.out], HU.out.snoc (by (try simp only [IntKind.wrap_u64]); omega) (by (try simp only [IntKind.wrap_u64]); omega), sub_step xs ys L k x x 0 _ 0 HK.out HX.out HY.out (by omega) (by omega) (by omega) (by (try simp only [IntKind.wrap_u64]); omega) (by omega) HV.out (by (try simp only [IntKind.wrap_u64]); omega), hO3, hb3⟩
        · go_wp2_with (at_builtin; refine wpList_append_own _ rfl _ _ 25 rfl w.heap.size 23 i0 (.int .u64 0) 1 8 Tryz.underlying25 hi hz0 hz1 hz2 rfl (by decide) _ _ _ rfl (hown.alloc _) ⟨wr.heap.size, 0, none⟩ 1 1 [_] rfl rfl (cell_one_new _ _ _) (fun x hx => by simp at hx; subst hx; rfl) (by unfold maxLen; omega) (by omega) (by simp; omega) ?_; intro v' w3 hown' hgrow3 hnil3)
          obtain ⟨g3, cap3, hv3, hO3⟩ := own_snoc HK.out hown'
          subst hv3
          have hb3 : Below w.heap.size w w3 := (hbr.alloc hsize _).grown hgrow3 (by simp; omega) (fun q hq => (hown.lt q hq).1)
          clear hgrow3 hnil3 hown'
          refine ⟨?_, by simp [intOf]; omega⟩
          exact ⟨k + 1, _, 0, _, cap3, by omega, by go_num, rfl, by omega, rfl, by simp [HK.out], HU.out.snoc (by (try simp only [IntKind.wrap_u64]); omega) (by (try simp only [IntKind.wrap_u64]); omega), sub_step xs ys L k x y 0 _ 0 HK.out HX.out HY.out (by omega) (by omega) (by omega) (by (try simp only [IntKind.wrap_u64]); omega) (by omega) HV.out (by (try simp only [IntKind.wrap_u64]); omega), hO3, hb3⟩
      · subst hc0
        rcases Int.lt_trichotomy x y with hxy | hxy | hxy
        · go_wp2_with (at_builtin; refine wpList_append_own _ rfl _ _ 25 rfl w.heap.size 23 i0 (.int .u64 0) 1 8 Tryz.underlying25 hi hz0 hz1 hz2 rfl (by decide) _ _ _ rfl (hown.alloc _) ⟨wr.heap.size, 0, none⟩ 1 1 [_] rfl rfl (cell_one_new _ _ _) (fun x hx => by simp at hx; subst hx; rfl) (by unfold maxLen; omega) (by omega) (by simp; omega) ?_; intro v' w3 hown' hgrow3 hnil3)
          obtain ⟨g3, cap3, hv3, hO3⟩ := own_snoc HK.out hown'
          subst hv3
          have hb3 : Below w.heap.size w w3 := (hbr.alloc hsize _).grown hgrow3 (by simp; omega) (fun q hq => (hown.lt q hq).1)
          clear hgrow3 hnil3 hown'
          refine ⟨?_, by simp [intOf]; omega⟩
          exact ⟨k + 1, _, 1, _, cap3, by omega, by go_num, rfl, by omega, rfl, by simp [HK.out], HU.out.snoc (by (try simp only [IntKind.wrap_u64]); omega) (by (try simp only [IntKind.wrap_u64]); omega), sub_step xs ys L k x y 1 _ 1 HK.out HX.out HY.out (by omega) (by omega) (by omega) (by (try simp only [IntKind.wrap_u64]); omega) (by omega) HV.out (by (try simp only [IntKind.wrap_u64]); omega), hO3, hb3⟩
        · subst hxy
          go_wp2_with (at_builtin; refine wpList_append_own _ rfl _ _ 25 rfl w.heap.size 23 i0 (.int .u64 0) 1 8 Tryz.underlying25 hi hz0 hz1 hz2 rfl (by decide) _ _ _ rfl (hown.alloc _) ⟨wr.heap.size, 0, none⟩ 1 1 [_] rfl rfl (cell_one_new _ _ _) (fun x hx => by simp at hx; subst hx; rfl) (by unfold maxLen; omega) (by omega) (by simp; omega) ?_; intro v' w3 hown' hgrow3 hnil3)
          obtain ⟨g3, cap3, hv3, hO3⟩ := own_snoc HK.out hown'
          subst hv3
          have hb3 : Below w.heap.size w w3 := (hbr.alloc hsize _).grown hgrow3 (by simp; omega) (fun q hq => (hown.lt q hq).1)
          clear hgrow3 hnil3 hown'
          refine ⟨?_, by simp [intOf]; omega⟩
          exact ⟨k + 1, _, 1, _, cap3, by omega, by go_num, rfl, by omega, rfl, by simp [HK.out], HU.out.snoc (by (try simp only [IntKind.wrap_u64]); omega) (by (try simp only [IntKind.wrap_u64]); omega), sub_step xs ys L k x x 1 _ 1 HK.out HX.out HY.out (by omega) (by omega) (by omega) (by (try simp only [IntKind.wrap_u64]); omega) (by omega) HV.out (by (try simp only [IntKind.wrap_u64]); omega), hO3, hb3⟩
        · go_wp2_with (at_builtin; refine wpList_append_own _ rfl _ _ 25 rfl w.heap.size 23 i0 (.int .u64 0) 1 8 Tryz.underlying25 hi hz0 hz1 hz2 rfl (by decide) _ _ _ rfl (hown.alloc _) ⟨wr.heap.size, 0, none⟩ 1 1 [_] rfl rfl (cell_one_new _ _ _) (fun x hx => by simp at hx; subst hx; rfl) (by unfold maxLen; omega) (by omega) (by simp; omega) ?_; intro v' w3 hown' hgrow3 hnil3)
          obtain ⟨g3, cap3, hv3, hO3⟩ := own_snoc HK.out hown'
          subst hv3
          have hb3 : Below w.heap.size w w3 := (hbr.alloc hsize _).grown hgrow3 (by simp; omega) (fun q hq => (hown.lt q hq).1)
          clear hgrow3 hnil3 hown'
          refine ⟨?_, by simp [intOf]; omega⟩
          exact ⟨k + 1, _, 0, _, cap3, by omega, by go_num, rfl, by omega, rfl, by simp [HK.out], HU.out.snoc (by (try simp only [IntKind.wrap_u64]); omega) (by (try simp only [IntKind.wrap_u64]); omega), sub_step xs ys L k x y 1 _ 0 HK.out HX.out HY.out (by omega) (by omega) (by omega) (by (try simp only [IntKind.wrap_u64]); omega) (by omega) HV.out (by (try simp only [IntKind.wrap_u64]); omega), hO3, hb3⟩
    · have HKN : Hid (k = len') := by rw [Hid]; omega
      clear hWr hWr'
      obtain ⟨dl, hdl⟩ : ∃ dl : List Int, dl = L := ⟨_, rfl⟩
      have hOL : Own w.heap.size wr ao cp L := by unfold Own; rw [HK.out]; exact hown
      have hI := hOL.isW' HU.out HK.out
      have NC : Hid _ := nNorm_calls ao k cp L wr hI (by omega)
      clear hI hOL hown hdl dl
      go_wp2_with fail
      refine Calls.mono NC.out ?_
      rintro e w4 ⟨ao4, cv4, rfl, hO4, hb4⟩
      go_wp2_with fail
      go_ret
      have ev : val L = val xs - val ys := by
        have e1 := HV.out
        rw [low_all xs k (by have := X1.out; have := HKN.out; omega), low_all ys k (by have := Y1.out; have := HKN.out; omega)] at e1
        have hlt := val_lt L HU.out
        rw [HK.out] at hlt
        have ec := HC.out
        rcases ec with rfl | rfl
        · simp at e1; omega
        · rw [show (1 : Int).toNat = 1 from rfl, Nat.mul_one] at e1
          generalize 18446744073709551616 ^ k = P at *
          have := HLE.out
          omega
      rw [ev] at hO4
      rw [ev]
      exact ⟨ao4, cv4, rfl, hO4.low hsize, nT hbr hb4⟩
theorem nSub_calls (a a' : Option Addr) (len cap len' cap' : Nat) (xs ys : List Int) (w : World) (h : IsW w a len cap xs) (h' : IsW w a' len' cap' ys) (hm : len ≤ 17592186044415) (hm' : len' ≤ 17592186044415) (hle : val ys ≤ val xs) :
    Calls Tryz.prog 118 #[.slice a len cap, .slice a' len' cap'] w fun e w' => ∃ (ao : Option Addr) (cv : Nat), e = .returned (.slice ao (wordsOf (val xs - val ys)).length cv) ∧ Own w.heap.size w' ao cv (wordsOf (val xs - val ys)) ∧ Below w.heap.size w w' := by
  by_cases hc : len' ≤ len
  · exact nSub_ge a a' len cap len' cap' xs ys w h h' hm hm' hc hle
  · exact nSub_lt a a' len cap len' cap' xs ys w h h' hm hm' (by omega) hle
set_option maxRecDepth 100000 in
set_option maxHeartbeats 2000000 in
theorem qOne_calls (s : Bool) (a : Option Addr) (len cap : Nat) (xs : List Int) (e : Int) (w : World) (h : IsW w a len cap xs) (hm : len ≤ 17592186044000) (he : -4611686018427387904 ≤ e ∧ e ≤ 4611686018427387904) :
    Calls Tryz.prog 47 #[dyV s a len cap e] w fun r w' => ∃ v, r = .returned v ∧ DyQ w.heap.size w' v (formD s (val xs) e) ∧ Below w.heap.size w w' := by
  have hb0 : Below w.heap.size w ((w.alloc (.cells #[.bool s, .slice a len cap, .int .i64 e] 27)).alloc (.cells #[.bool false, .slice none 0 0, .int .i64 0] 27)) := nT (below_one _ _) (below_one _ _)
  have HF : Hid _ := qForm_calls s a len cap xs e _ (h.keep hb0) hm he
  clear he
  go_enter Tryz.func47, Tryz.ntmps47
  go_wp2_with fail
  refine Calls.mono HF.out ?_
  rintro r w1 ⟨_, rfl, ⟨a1, n1, c1, rfl, HN1, hO1⟩, hb1⟩
  obtain ⟨m0, m1, m2, f0, f1, f2⟩ := zero_dy (r := w.heap.size + 1) hb1 (by simp)
  have hb01 := nT hb0 hb1
  have hws : w.heap.size + 2 ≤ w1.heap.size := by have := hb1.size; simp at this; omega
  clear hb1
  go_wp2_with fail
  refine bodyPost_ret (v := dyV (formD s (val xs) e).1 a1 n1 c1 (formD s (val xs) e).2.2) (by simp [results, Tryz.results47, go_sem, m0, m1, m2]) rfl ⟨_, rfl, ⟨a1, n1, c1, rfl, HN1, ?_⟩, ?_⟩
  · exact (((hO1.far _ _ (by simp)).far _ _ (by simp)).far _ _ (by simp)).low (by simp; omega)
  · exact ((hb01.setCell (by show w.heap.size ≤ w.heap.size + 1; omega) _).setCell (by show w.heap.size ≤ w.heap.size + 1; omega) _).setCell (by show w.heap.size ≤ w.heap.size + 1; omega) _
set_option maxRecDepth 100000 in
set_option maxHeartbeats 1000000 in
theorem qRight_calls (s : Bool) (a : Option Addr) (len cap : Nat) (xs : List Int) (e : Int) (w : World) (h : IsW w a len cap xs) (hm : len ≤ 17592186044416) :
    Calls Tryz.prog 46 #[dyV s a len cap e] w fun r w' => r = .returned (.bool (rightB (val xs) e)) ∧ Below w.heap.size w w' := by
  have hb0 := below_one w (.cells #[.bool s, .slice a len cap, .int .i64 e] 27)
  have HG : Hid _ := nGreat_calls a len cap xs _ (h.keep hb0) hm
  have HR : Hid (rightB (val xs) e = (!decide (1024 < (wordsOf (val xs)).length) && inB e)) := rfl
  generalize decide (1024 < (wordsOf (val xs)).length) = g at *
  have HI : Hid (inB e = decide (-32768 ≤ e ∧ e ≤ 32768)) := rfl
  cases g with
  | true =>
    go_enter Tryz.func46, Tryz.ntmps46
    go_wp2_with fail
    refine Calls.mono HG.out ?_
    rintro r w1 ⟨rfl, rfl⟩
    go_wp2_with fail
    go_ret
    rw [HR.out]
    exact ⟨rfl, hb0⟩
  | false =>
    by_cases h1 : -32768 ≤ e
    · by_cases h2 : e ≤ 32768
      · go_enter Tryz.func46, Tryz.ntmps46
        go_wp2_with fail
        refine Calls.mono HG.out ?_
        rintro r w1 ⟨rfl, rfl⟩
        go_wp2_with fail
        go_ret
        rw [HR.out, HI.out, decide_eq_true (And.intro h1 h2)]
        exact ⟨rfl, hb0⟩
      · go_enter Tryz.func46, Tryz.ntmps46
        go_wp2_with fail
        refine Calls.mono HG.out ?_
        rintro r w1 ⟨rfl, rfl⟩
        go_wp2_with fail
        go_ret
        rw [HR.out, HI.out, decide_eq_false (fun q : -32768 ≤ e ∧ e ≤ 32768 => by omega)]
        first | exact ⟨rfl, hb0⟩ | exact ⟨nret_bool (decide_eq_false (by omega)), hb0⟩
    · go_enter Tryz.func46, Tryz.ntmps46
      go_wp2_with fail
      refine Calls.mono HG.out ?_
      rintro r w1 ⟨rfl, rfl⟩
      go_wp2_with fail
      go_ret
      rw [HR.out, HI.out, decide_eq_false (fun q : -32768 ≤ e ∧ e ≤ 32768 => by omega)]
      first | exact ⟨rfl, hb0⟩ | exact ⟨nret_bool (decide_eq_false (by omega)), hb0⟩
theorem words_len_mono {m n : Nat} (h : m ≤ n) : (wordsOf m).length ≤ (wordsOf n).length := (words_len _ m).2 (Nat.lt_of_le_of_lt h ((words_len _ n).1 (Nat.le_refl _)))
end Go.Proofs.YtoefhlapfnjbjaaGreatDoor

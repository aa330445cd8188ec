/- The walks of the document's sums and differences of naturals. The walks of the document's shifts. The walk of the document's differences of naturals. The walks of the document's sums and differences, or why there are none. The walk of the document's shift to the right. The document's dyadic numbers (ulpref04), first part: Form, One, Right, Zero, room, Canon. The walks of Canon, Neg, Abs. The document's dyadic numbers, second part: Canon, Same, Copy; the program's Canon in the same words. The document's dyadic numbers, third part: Same, Copy. -/
import Derived.Test.YtahpdcbmekgkfaaGreatDoorTMA
import Derived.Test.YtahpdcbmekgkfaaGreatDoorTMB
import Derived.Test.YtahpdcbmekgkfaaGreatDoorAL
import Derived.Test.YtahpdcbmekgkfaaGreatDoorTMD
import Derived.Laws.AppendOwnNone

namespace Go.Proofs.YtahpdcbmekgkfaaGreatDoor
open Go.RowKit
set_option maxHeartbeats 4000000
set_option maxRecDepth 100000
theorem Own.isW' {B cv n : Nat} {w : World} {a : Option Addr} {L : List Int} (h : Own B w a cv L) (hU : AllU L) (hn : L.length = n) : IsW w a n cv L := by
 subst hn; exact h.isW hU
theorem own_snoc {B k : Nat} {w : World} {v : Value} {L : List Int} {s : Int} (hk : L.length = k) (h : w.ownsRow B 53 1 v (k + 1) (L.map (Value.int .u64) ++ [.int .u64 s])) :
  ∃ g cap, v = .slice (some ⟨g, 0, none⟩) (k + 1) cap ∧ Own B w (some ⟨g, 0, none⟩) cap (L ++ [s]) := by
 obtain ⟨g3, cap3, hv3⟩ : ∃ g3 cap3, v = .slice (some ⟨g3, 0, none⟩) (k + 1) cap3 := by
  rcases h.2 with ⟨_, h⟩ | ⟨g3, cap3, _, h, _⟩
  ·omega
  ·exact ⟨g3, cap3, h⟩
 subst hv3
 refine ⟨g3, cap3, rfl, ?_⟩
 unfold Own; rw [List.map_append, List.length_append, hk]; exact h
theorem nAdd_ge (a a' : Option Addr) (len cap len' cap' : Nat) (xs ys : List Int) (w : World) (h : IsW w a len cap xs) (h' : IsW w a' len' cap' ys) (hm : len ≤ 17592186044415) (_hm' : len' ≤ 17592186044415) (hc : len' ≤ len) :
  Calls Tryz.prog 71 #[.slice a len cap, .slice a' len' cap'] w fun e w' => ∃ (ao : Option Addr) (cv : Nat), e = .returned (.slice ao (wO (val xs + val ys)).length cv) ∧ Own w.heap.size w' ao cv (wO (val xs + val ys)) ∧ Below w.heap.size w w' := by
 obtain ⟨i0, hi, hz0, hz1, hz2⟩ := info_parts word_info
 have X1 : Hid (xs.length ≤ len) := by have := h.1; rw [Hid]; omega
 have Y1 : Hid (ys.length ≤ len) := by have := h'.1; rw [Hid]; omega
 have gx := fun i => h.2.1.get i
 have gy := fun i => h'.2.1.get i
 have GX : Hid (∀ i, 0 ≤ xs.getD i 0 ∧ xs.getD i 0 ≤ 18446744073709551615) := gx
 have GY : Hid (∀ i, 0 ≤ ys.getD i 0 ∧ ys.getD i 0 ≤ 18446744073709551615) := gy
 clear gx gy
 go_enter Tryz.func71, Tryz.ntmps71
 go_wp2_with fail
 go_loopw [5, 6, 7] (fun v cv i wr => ∃ (k : Nat) (L : List Int) (c : Int) (ao : Option Addr) (cp : Nat), k ≤ len ∧ i = .int .i64 k ∧ cv = .int .u64 c ∧ (c = 0 ∨ c = 1) ∧ v = .slice ao k cp ∧ L.length = k ∧ AllU L ∧ val L + 18446744073709551616 ^ k * c.toNat = low xs k + low ys k ∧ Own w.heap.size wr ao cp L ∧ Below w.heap.size w wr) (fun _ _ i _ => len - (intOf i).toNat)
 case atStart => exact ⟨0, [], 0, none, 0, by omega, rfl, rfl, Or.inl rfl, rfl, rfl, (fun x hx => by cases hx), by simp [val, low], World.ownsRow_nil _ _ _ _, Below.refl _ _⟩
 case round =>
  obtain ⟨k, L, c, ao, cp, hk, rfl, rfl, hc01, rfl, hLk, hLU, hval, hown, hbr⟩ := hrel
  have HV : Hid (val L + 18446744073709551616 ^ k * c.toNat = low xs k + low ys k) := hval
  have HC : Hid (c = 0 ∨ c = 1) := hc01
  have HK : Hid (L.length = k) := hLk
  have HU : Hid (AllU L) := hLU
  have b0 : 0 ≤ c ∧ c ≤ 1 := by omega
  unfold Own at hown
  rw [hLk] at hown
  clear hval hc01 hLk hLU
  have hWr := h.keep hbr
  have hWr' := h'.keep hbr
  have hsize := hbr.size
  by_cases hlt : k < len
  ·have W1 := nWord_calls a len cap xs k wr hWr
   have W2 := nWord_calls a' len' cap' ys k wr hWr'
   obtain ⟨x, hx⟩ : ∃ x, x = xs.getD k 0 := ⟨_, rfl⟩
   obtain ⟨y, hy⟩ : ∃ y, y = ys.getD k 0 := ⟨_, rfl⟩
   rw [← hx] at W1
   rw [← hy] at W2
   have bx := GX.out k
   have by' := GY.out k
   rw [← hx] at bx
   rw [← hy] at by'
   have HX : Hid (x = xs.getD k 0) := hx
   have HY : Hid (y = ys.getD k 0) := hy
   have HW1 : Hid (Calls Tryz.prog 111 #[.slice a len cap, .int .i64 k] wr fun e w' => e = .returned (.int .u64 x) ∧ w' = wr) := W1
   have HW2 : Hid (Calls Tryz.prog 111 #[.slice a' len' cap', .int .i64 k] wr fun e w' => e = .returned (.int .u64 y) ∧ w' = wr) := W2
   clear hx hy W1 W2
   go_wp2_with fail
   refine cM HW1.out ?_
   rintro e wr ⟨rfl, rfl⟩
   go_wp2_with fail
   refine cM HW2.out ?_
   rintro e wr ⟨rfl, rfl⟩
   have ES : Hid ((IntKind.u64.wrap (IntKind.u64.wrap (x + y) + c)) = (x + y + c) % 18446744073709551616) := by rw [Hid, IntKind.wrap_u64, IntKind.wrap_u64]; omega
   go_wp2_with (first | (at_builtin; refine wpList_append_own _ rfl _ _ 23 rfl w.heap.size 53 i0 (.int .u64 0) 1 8 Tryz.underlying23 hi hz0 hz1 hz2 rfl (by decide) _ _ _ rfl (hown.alloc _) ⟨wr.heap.size, 0, none⟩ 1 1 [.int .u64 (IntKind.u64.wrap (IntKind.u64.wrap (x + y) + c))] rfl rfl (cell_one_new _ _ _) (fun x hx => by simp at hx; subst hx; rfl) (by unfold maxLen; omega) (by omega) (by simp; omega) ?_; intro v' w3 hown' hgrow3 hnil3) | (at_builtin; refine wpList_append_own _ rfl _ _ 23 rfl w.heap.size 53 i0 (.int .u64 0) 1 8 Tryz.underlying23 hi hz0 hz1 hz2 rfl (by decide) _ _ _ rfl (hown.alloc _) ⟨wr.heap.size, 0, none⟩ 1 1 [.int .u64 x] rfl rfl (cell_one_new _ _ _) (fun x hx => by simp at hx; subst hx; rfl) (by unfold maxLen; omega) (by omega) (by simp; omega) ?_; intro v' w3 hown' hgrow3 hnil3))
   all_goals
    obtain ⟨g3, cap3, hv3, hO3⟩ := own_snoc HK.out hown'
    subst hv3
    have es := ES.out
    have ec := HC.out
    have hb3 : Below w.heap.size w w3 := (hbr.alloc hsize _).grown hgrow3 (by simp; omega) (fun q hq => (hown.lt q hq).1)
    clear hgrow3 hnil3 hown'
    refine ⟨?_, by simp [intOf]; omega⟩
    first
    | exact ⟨k + 1, _, 0, _, cap3, by omega, by go_num, rfl, by omega, rfl, by simp [HK.out], HU.out.snoc (by omega) (by omega), add_step xs ys L k x y c _ 0 HK.out HX.out HY.out (by omega) (by omega) (by omega) (by omega) (by omega) HV.out (by omega), hO3, hb3⟩
    | exact ⟨k + 1, _, 1, _, cap3, by omega, by go_num, rfl, by omega, rfl, by simp [HK.out], HU.out.snoc (by omega) (by omega), add_step xs ys L k x y c _ 1 HK.out HX.out HY.out (by omega) (by omega) (by omega) (by omega) (by omega) HV.out (by omega), hO3, hb3⟩
  ·have hkn : k = len := by omega
   go_wp2_with (at_builtin; refine wpList_append_own _ rfl _ _ 23 rfl w.heap.size 53 i0 (.int .u64 0) 1 8 Tryz.underlying23 hi hz0 hz1 hz2 rfl (by decide) _ _ _ rfl (hown.alloc _) ⟨wr.heap.size, 0, none⟩ 1 1 [.int .u64 c] rfl rfl (cell_one_new _ _ _) (fun x hx => by simp at hx; subst hx; rfl) (by unfold maxLen; omega) (by omega) (by simp; omega) ?_; intro v' w3 hown' hgrow3 hnil3)
   obtain ⟨g3, cap3, hv3, hO3⟩ := own_snoc HK.out hown'
   subst hv3
   have hb3 : Below w.heap.size w w3 := (hbr.alloc hsize _).grown hgrow3 (by simp; omega) (fun q hq => (hown.lt q hq).1)
   clear hgrow3 hnil3 hown'
   have hI := hO3.isW' (HU.out.snoc (by omega) (by omega)) (show (L ++ [c]).length = k + 1 by rw [List.length_append, HK.out]; rfl)
   refine cM (nNorm_calls (some ⟨g3, 0, none⟩) (k + 1) cap3 (L ++ [c]) w3 hI (by omega)) ?_
   rintro e w4 ⟨ao4, cv4, rfl, hO4, hb4⟩
   go_wp2_with fail
   go_ret
   have ev : val (L ++ [c]) = val xs + val ys := by
    have e1 := HV.out
    rw [low_all xs k (by have := X1.out; omega), low_all ys k (by have := Y1.out; omega)] at e1
    rw [val_append, HK.out, ← e1]; simp [val]
   rw [ev] at hO4
   rw [ev]
   exact ⟨ao4, cv4, rfl, hO4.low hb3.size, nT hb3 hb4⟩
theorem nAdd_lt (a a' : Option Addr) (len cap len' cap' : Nat) (xs ys : List Int) (w : World) (h : IsW w a len cap xs) (h' : IsW w a' len' cap' ys) (hm : len ≤ 17592186044415) (hm' : len' ≤ 17592186044415) (hc : len < len') :
  Calls Tryz.prog 71 #[.slice a len cap, .slice a' len' cap'] w fun e w' => ∃ (ao : Option Addr) (cv : Nat), e = .returned (.slice ao (wO (val xs + val ys)).length cv) ∧ Own w.heap.size w' ao cv (wO (val xs + val ys)) ∧ Below w.heap.size w w' := by
 obtain ⟨i0, hi, hz0, hz1, hz2⟩ := info_parts word_info
 have X1 : Hid (xs.length ≤ len') := by have := h.1; rw [Hid]; omega
 have Y1 : Hid (ys.length ≤ len') := by have := h'.1; rw [Hid]; omega
 have gx := fun i => h.2.1.get i
 have gy := fun i => h'.2.1.get i
 have GX : Hid (∀ i, 0 ≤ xs.getD i 0 ∧ xs.getD i 0 ≤ 18446744073709551615) := gx
 have GY : Hid (∀ i, 0 ≤ ys.getD i 0 ∧ ys.getD i 0 ≤ 18446744073709551615) := gy
 clear gx gy
 go_enter Tryz.func71, Tryz.ntmps71
 go_wp2_with fail
 go_loopw [5, 6, 7] (fun v cv i wr => ∃ (k : Nat) (L : List Int) (c : Int) (ao : Option Addr) (cp : Nat), k ≤ len' ∧ i = .int .i64 k ∧ cv = .int .u64 c ∧ (c = 0 ∨ c = 1) ∧ v = .slice ao k cp ∧ L.length = k ∧ AllU L ∧ val L + 18446744073709551616 ^ k * c.toNat = low xs k + low ys k ∧ Own w.heap.size wr ao cp L ∧ Below w.heap.size w wr) (fun _ _ i _ => len' - (intOf i).toNat)
 case atStart => exact ⟨0, [], 0, none, 0, by omega, rfl, rfl, Or.inl rfl, rfl, rfl, (fun x hx => by cases hx), by simp [val, low], World.ownsRow_nil _ _ _ _, Below.refl _ _⟩
 case round =>
  obtain ⟨k, L, c, ao, cp, hk, rfl, rfl, hc01, rfl, hLk, hLU, hval, hown, hbr⟩ := hrel
  have HV : Hid (val L + 18446744073709551616 ^ k * c.toNat = low xs k + low ys k) := hval
  have HC : Hid (c = 0 ∨ c = 1) := hc01
  have HK : Hid (L.length = k) := hLk
  have HU : Hid (AllU L) := hLU
  have b0 : 0 ≤ c ∧ c ≤ 1 := by omega
  unfold Own at hown
  rw [hLk] at hown
  clear hval hc01 hLk hLU
  have hWr := h.keep hbr
  have hWr' := h'.keep hbr
  have hsize := hbr.size
  by_cases hlt : k < len'
  ·have W1 := nWord_calls a len cap xs k wr hWr
   have W2 := nWord_calls a' len' cap' ys k wr hWr'
   obtain ⟨x, hx⟩ : ∃ x, x = xs.getD k 0 := ⟨_, rfl⟩
   obtain ⟨y, hy⟩ : ∃ y, y = ys.getD k 0 := ⟨_, rfl⟩
   rw [← hx] at W1
   rw [← hy] at W2
   have bx := GX.out k
   have by' := GY.out k
   rw [← hx] at bx
   rw [← hy] at by'
   have HX : Hid (x = xs.getD k 0) := hx
   have HY : Hid (y = ys.getD k 0) := hy
   have HW1 : Hid (Calls Tryz.prog 111 #[.slice a len cap, .int .i64 k] wr fun e w' => e = .returned (.int .u64 x) ∧ w' = wr) := W1
   have HW2 : Hid (Calls Tryz.prog 111 #[.slice a' len' cap', .int .i64 k] wr fun e w' => e = .returned (.int .u64 y) ∧ w' = wr) := W2
   clear hx hy W1 W2
   go_wp2_with fail
   refine cM HW1.out ?_
   rintro e wr ⟨rfl, rfl⟩
   go_wp2_with fail
   refine cM HW2.out ?_
   rintro e wr ⟨rfl, rfl⟩
   have ES : Hid ((IntKind.u64.wrap (IntKind.u64.wrap (x + y) + c)) = (x + y + c) % 18446744073709551616) := by rw [Hid, IntKind.wrap_u64, IntKind.wrap_u64]; omega
   go_wp2_with (first | (at_builtin; refine wpList_append_own _ rfl _ _ 23 rfl w.heap.size 53 i0 (.int .u64 0) 1 8 Tryz.underlying23 hi hz0 hz1 hz2 rfl (by decide) _ _ _ rfl (hown.alloc _) ⟨wr.heap.size, 0, none⟩ 1 1 [.int .u64 (IntKind.u64.wrap (IntKind.u64.wrap (x + y) + c))] rfl rfl (cell_one_new _ _ _) (fun x hx => by simp at hx; subst hx; rfl) (by unfold maxLen; omega) (by omega) (by simp; omega) ?_; intro v' w3 hown' hgrow3 hnil3) | (at_builtin; refine wpList_append_own _ rfl _ _ 23 rfl w.heap.size 53 i0 (.int .u64 0) 1 8 Tryz.underlying23 hi hz0 hz1 hz2 rfl (by decide) _ _ _ rfl (hown.alloc _) ⟨wr.heap.size, 0, none⟩ 1 1 [.int .u64 x] rfl rfl (cell_one_new _ _ _) (fun x hx => by simp at hx; subst hx; rfl) (by unfold maxLen; omega) (by omega) (by simp; omega) ?_; intro v' w3 hown' hgrow3 hnil3))
   all_goals
    obtain ⟨g3, cap3, hv3, hO3⟩ := own_snoc HK.out hown'
    subst hv3
    have es := ES.out
    have ec := HC.out
    have hb3 : Below w.heap.size w w3 := (hbr.alloc hsize _).grown hgrow3 (by simp; omega) (fun q hq => (hown.lt q hq).1)
    clear hgrow3 hnil3 hown'
    refine ⟨?_, by simp [intOf]; omega⟩
    first
    | exact ⟨k + 1, _, 0, _, cap3, by omega, by go_num, rfl, by omega, rfl, by simp [HK.out], HU.out.snoc (by omega) (by omega), add_step xs ys L k x y c _ 0 HK.out HX.out HY.out (by omega) (by omega) (by omega) (by omega) (by omega) HV.out (by omega), hO3, hb3⟩
    | exact ⟨k + 1, _, 1, _, cap3, by omega, by go_num, rfl, by omega, rfl, by simp [HK.out], HU.out.snoc (by omega) (by omega), add_step xs ys L k x y c _ 1 HK.out HX.out HY.out (by omega) (by omega) (by omega) (by omega) (by omega) HV.out (by omega), hO3, hb3⟩
  ·have hkn : k = len' := by omega
   go_wp2_with (at_builtin; refine wpList_append_own _ rfl _ _ 23 rfl w.heap.size 53 i0 (.int .u64 0) 1 8 Tryz.underlying23 hi hz0 hz1 hz2 rfl (by decide) _ _ _ rfl (hown.alloc _) ⟨wr.heap.size, 0, none⟩ 1 1 [.int .u64 c] rfl rfl (cell_one_new _ _ _) (fun x hx => by simp at hx; subst hx; rfl) (by unfold maxLen; omega) (by omega) (by simp; omega) ?_; intro v' w3 hown' hgrow3 hnil3)
   obtain ⟨g3, cap3, hv3, hO3⟩ := own_snoc HK.out hown'
   subst hv3
   have hb3 : Below w.heap.size w w3 := (hbr.alloc hsize _).grown hgrow3 (by simp; omega) (fun q hq => (hown.lt q hq).1)
   clear hgrow3 hnil3 hown'
   have hI := hO3.isW' (HU.out.snoc (by omega) (by omega)) (show (L ++ [c]).length = k + 1 by rw [List.length_append, HK.out]; rfl)
   refine cM (nNorm_calls (some ⟨g3, 0, none⟩) (k + 1) cap3 (L ++ [c]) w3 hI (by omega)) ?_
   rintro e w4 ⟨ao4, cv4, rfl, hO4, hb4⟩
   go_wp2_with fail
   go_ret
   have ev : val (L ++ [c]) = val xs + val ys := by
    have e1 := HV.out
    rw [low_all xs k (by have := X1.out; omega), low_all ys k (by have := Y1.out; omega)] at e1
    rw [val_append, HK.out, ← e1]; simp [val]
   rw [ev] at hO4
   rw [ev]
   exact ⟨ao4, cv4, rfl, hO4.low hb3.size, nT hb3 hb4⟩
theorem nAdd_calls (a a' : Option Addr) (len cap len' cap' : Nat) (xs ys : List Int) (w : World) (h : IsW w a len cap xs) (h' : IsW w a' len' cap' ys) (hm : len ≤ 17592186044415) (hm' : len' ≤ 17592186044415) :
  Calls Tryz.prog 71 #[.slice a len cap, .slice a' len' cap'] w fun e w' => ∃ (ao : Option Addr) (cv : Nat), e = .returned (.slice ao (wO (val xs + val ys)).length cv) ∧ Own w.heap.size w' ao cv (wO (val xs + val ys)) ∧ Below w.heap.size w w' := by
 by_cases hc : len' ≤ len
 ·exact nAdd_ge a a' len cap len' cap' xs ys w h h' hm hm' hc
 ·exact nAdd_lt a a' len cap len' cap' xs ys w h h' hm hm' (by omega)
end Go.Proofs.YtahpdcbmekgkfaaGreatDoor

namespace Go.Proofs.YtahpdcbmekgkfaaGreatDoor
open Go.RowKit
theorem shl_snoc (xs L : List Int) (k sk s m x c y c' : Nat) (hm : m = 64 * sk + s) (hs : s < 64) (hl : L.length = sk + k) (hx : xs.getD k 0 = (x : Int))
  (hv : val L + 18446744073709551616 ^ (sk + k) * c = low xs k * 2 ^ m) (hy : y = c + x * 2 ^ s % 18446744073709551616) (hc : c' = x / 2 ^ (64 - s)) :
  val (L ++ [(y : Int)]) + 18446744073709551616 ^ (sk + (k + 1)) * c' = low xs (k + 1) * 2 ^ m := by
 have e3 : low xs (k + 1) = low xs k + 18446744073709551616 ^ k * x := by show low xs k + _ * (xs.getD k 0).toNat = _; rw [hx, Int.toNat_natCast]
 have e4 := shl_word x s hs
 rw [← hc] at e4
 have e5 : 18446744073709551616 ^ k * x * 2 ^ m = 18446744073709551616 ^ (sk + k) * (x * 2 ^ s) := by
  rw [hm, two64, two64, Nat.pow_add 2 (64 * sk) s, show 64 * (sk + k) = 64 * sk + 64 * k by omega, Nat.pow_add]
  simp only [Nat.mul_assoc, Nat.mul_left_comm, Nat.mul_comm]
 have e6 : 18446744073709551616 ^ (sk + k) * (x * 2 ^ s % 18446744073709551616 + 18446744073709551616 * c') = 18446744073709551616 ^ (sk + k) * (x * 2 ^ s % 18446744073709551616) + 18446744073709551616 ^ (sk + k) * 18446744073709551616 * c' := by rw [Nat.mul_add, Nat.mul_assoc]
 have e7 : 18446744073709551616 ^ (sk + k) * y = 18446744073709551616 ^ (sk + k) * c + 18446744073709551616 ^ (sk + k) * (x * 2 ^ s % 18446744073709551616) := by rw [hy, Nat.mul_add]
 have e8 : val [(y : Int)] = y := by simp [val]
 rw [e3, Nat.add_mul, ← hv, e5, ← e4, e6, val_append, hl, e8, e7, show sk + (k + 1) = sk + k + 1 by omega, Nat.pow_succ]
 generalize 18446744073709551616 ^ (sk + k) * 18446744073709551616 * c' = P
 generalize 18446744073709551616 ^ (sk + k) * (x * 2 ^ s % 18446744073709551616) = Q
 generalize 18446744073709551616 ^ (sk + k) * c = R
 omega
theorem or_words3 (c x s : Nat) (hs : s < 64) (hc : c < 2 ^ s) (hc2 : c < 18446744073709551616) : bits BinOp.or IntKind.u64 (IntKind.u64.wrap ((x : Int) * 2 ^ s)) (c : Int) = ((c + x * 2 ^ s % 18446744073709551616 : Nat) : Int) := by
 rw [mul_pow_cast, wrap_nat, u64_or_nat _ _ (Nat.mod_lt _ (by decide)) hc2, Nat.or_comm, (shl_room c x s hs hc).1]
set_option maxRecDepth 100000 in
set_option maxHeartbeats 4000000 in
theorem nShl_calls (a : Option Addr) (len cap m : Nat) (xs : List Int) (w : World) (h : IsW w a len cap xs) (hm : m ≤ 9223372036854775807) (hb : m / 64 + len ≤ 17592186044000) :
  Calls Tryz.prog 69 #[.slice a len cap, .int .i64 (m : Int)] w fun e w' => ∃ (ao : Option Addr) (cv : Nat), e = .returned (.slice ao (wO (val xs * 2 ^ m)).length cv) ∧ Own w.heap.size w' ao cv (wO (val xs * 2 ^ m)) ∧ Below w.heap.size w w' := by
 obtain ⟨i0, hi, hz0, hz1, hz2⟩ := info_parts word_info
 obtain ⟨sk, hsk⟩ : ∃ sk, sk = m / 64 := ⟨_, rfl⟩
 obtain ⟨w1, hmk, hown1, hg1⟩ := run_make_full (P := Tryz.prog) w w.heap.size 23 53 i0 (.int .u64 0) 1 Tryz.underlying23 hi hz0 hz1 .i64 .i64 sk (by rw [hz2]; omega) (by unfold maxLen; omega) (Nat.le_refl _)
 have hb1 : Below w.heap.size w w1 := (Below.refl _ _).grown hg1 (Nat.le_refl _) (fun q hq => by cases hq)
 have hown1' : w1.ownsRow w.heap.size 53 1 (.slice (some ⟨w.heap.size, 0, none⟩) sk sk) sk ((zeros sk).map (Value.int .u64)) := by
  have e : (madeCells (Value.int .u64 0).cells (sk * 1)).toList = (zeros sk).map (Value.int .u64) := by
   rw [show (Value.int .u64 0).cells = #[Value.int .u64 0] from rfl, toList_madeCells_one, Nat.mul_one, zeros, List.map_replicate]
  rw [← e]; exact hown1
 have q1 : (m : Int) / 64 = (sk : Int) := by omega
 have HM : Hid (m = 64 * sk + m % 64) := by rw [Hid]; omega
 have hshb : m % 64 < 64 := by omega
 have HL : Hid (xs.length = len) := h.1.symm
 rw [← hsk] at hb
 clear hsk hown1 hg1
 go_enter Tryz.func69, Tryz.ntmps69
 go_wp2_with fail
 clear hmk q1
 go_loopw [5, 7, 18] (fun vo vc vi wr => ∃ (k c l : Nat) (L : List Int) (ao : Option Addr) (cp : Nat), k ≤ len ∧ vi = .int .i64 k ∧ vc = .int .u64 (c : Int) ∧ vo = .slice ao l cp ∧ Hid (l = sk + k) ∧ Hid (L.length = l) ∧ Hid (AllU L) ∧ Hid (c < 2 ^ (m % 64)) ∧ Hid (val L + 18446744073709551616 ^ (sk + k) * c = low xs k * 2 ^ m) ∧ wr.ownsRow w.heap.size 53 1 (.slice ao l cp) l (L.map (Value.int .u64)) ∧ Below w.heap.size w wr) (fun _ _ vi _ => len - (intOf vi).toNat)
 case atStart => exact ⟨0, 0, sk, zeros sk, _, sk, by omega, rfl, rfl, rfl, rfl, zeros_len sk, zeros_U sk, Nat.pow_pos (by decide), by rw [Hid, val_zeros]; simp [low], hown1', hb1⟩
 case round =>
  clear hown1' hb1
  obtain ⟨k, c, l, L, ao, cp, hk, rfl, rfl, rfl, HLK, HK, HU, HC, HV, hown, hbr⟩ := hrel
  have hsize := hbr.size
  have hc2 : c < 18446744073709551616 := by have := HC.out; have := pow_le_word (m % 64) hshb; omega
  have hlb : l ≤ 17592186044000 := by have := HLK.out; omega
  by_cases hlt : k < len
  ·obtain ⟨b, off, ha, hbl, hcx⟩ := h.2.2.2 k hlt
   obtain ⟨x, hx, hx1⟩ := word_nat2 xs h.2.1 k
   have hcx2 : wr.cell? ⟨b, off + k, none⟩ = some (.int .u64 (x : Int)) := by rw [← hx]; exact (hbr.cell (p := ⟨b, off + k, none⟩) hbl).trans hcx
   have HX : Hid (xs.getD k 0 = (x : Int)) := hx
   subst ha
   obtain ⟨y, hy⟩ : ∃ y : Nat, y = c + x * 2 ^ (m % 64) % 18446744073709551616 := ⟨_, rfl⟩
   have hyb : y < 18446744073709551616 := by rw [hy]; exact (shl_room c x (m % 64) hshb HC.out).2
   have q3 : bits BinOp.or IntKind.u64 (IntKind.u64.wrap ((x : Int) * 2 ^ (m % 64))) (c : Int) = (y : Int) := by rw [or_words3 c x (m % 64) hshb HC.out hc2, hy]
   obtain ⟨z, hz⟩ : ∃ z : Nat, z = x / 2 ^ (64 - m % 64) := ⟨_, rfl⟩
   have q4 : (x : Int) / 2 ^ (64 - m % 64) = (z : Int) := by rw [div_pow_cast, hz]
   have HZB : Hid (z < 2 ^ (m % 64)) := by
    rw [Hid, hz, Nat.div_lt_iff_lt_mul (Nat.pow_pos (by decide)), ← Nat.pow_add, show m % 64 + (64 - m % 64) = 64 by omega]; exact hx1
   have HST : Hid _ := shl_snoc xs L k sk (m % 64) m x c y z HM.out hshb (by rw [HK.out, HLK.out]) hx HV.out hy hz
   have HZ0 : Hid (m % 64 = 0 → z = 0) := fun q => by have := HZB.out; rw [q] at this; simp at this; exact this
   clear hx hy hz hcx
   by_cases hs0 : m % 64 = 0
   ·have hz00 := HZ0.out hs0
    have q8 : ¬ (0 : Int) < (m : Int) % 64 := by omega
    have HS0 : Hid (m % 64 = 0) := hs0
    clear hs0
    go_wp2_with (at_builtin; refine wpList_append_own _ rfl _ _ 23 rfl w.heap.size 53 i0 (.int .u64 0) 1 8 Tryz.underlying23 hi hz0 hz1 hz2 rfl (by decide) _ _ _ rfl (hown.alloc _) ⟨wr.heap.size, 0, none⟩ 1 1 [.int .u64 (y : Int)] rfl rfl (cell_one_new _ _ _) (fun x hx => by simp at hx; subst hx; rfl) (by unfold maxLen; omega) (by omega) (by simp; omega) ?_; intro v' w3 hown' hgrow3 hnil3)
    obtain ⟨g3, cap3, hv3, hO3⟩ := own_snoc HK.out hown'
    subst hv3
    have hb3 : Below w.heap.size w w3 := (hbr.alloc hsize _).grown hgrow3 (by simp; omega) (fun q hq => (hown.lt q hq).1)
    have hO4 : w3.ownsRow w.heap.size 53 1 (.slice (some ⟨g3, 0, none⟩) (l + 1) cap3) (l + 1) ((L ++ [(y : Int)]).map (Value.int .u64)) := by
     unfold Own at hO3; rw [List.length_append, HK.out] at hO3; exact hO3
    clear hgrow3 hnil3 hown'
    refine ⟨⟨k + 1, z, l + 1, L ++ [(y : Int)], some ⟨g3, 0, none⟩, cap3, by omega, by go_num, by rw [hz00]; rfl, rfl, by rw [Hid, HLK.out]; omega, by rw [Hid, List.length_append, HK.out]; rfl, HU.out.snoc (by omega) (by omega), HZB, HST, hO4, hb3⟩, by simp [intOf]; omega⟩
   ·have q8 : (0 : Int) < (m : Int) % 64 := by omega
    have HS0 : Hid (m % 64 ≠ 0) := hs0
    clear hs0
    go_wp2_with (at_builtin; refine wpList_append_own _ rfl _ _ 23 rfl w.heap.size 53 i0 (.int .u64 0) 1 8 Tryz.underlying23 hi hz0 hz1 hz2 rfl (by decide) _ _ _ rfl (hown.alloc _) ⟨wr.heap.size, 0, none⟩ 1 1 [.int .u64 (y : Int)] rfl rfl (cell_one_new _ _ _) (fun x hx => by simp at hx; subst hx; rfl) (by unfold maxLen; omega) (by omega) (by simp; omega) ?_; intro v' w3 hown' hgrow3 hnil3)
    obtain ⟨g3, cap3, hv3, hO3⟩ := own_snoc HK.out hown'
    subst hv3
    have hb3 : Below w.heap.size w w3 := (hbr.alloc hsize _).grown hgrow3 (by simp; omega) (fun q hq => (hown.lt q hq).1)
    have hO4 : w3.ownsRow w.heap.size 53 1 (.slice (some ⟨g3, 0, none⟩) (l + 1) cap3) (l + 1) ((L ++ [(y : Int)]).map (Value.int .u64)) := by
     unfold Own at hO3; rw [List.length_append, HK.out] at hO3; exact hO3
    clear hgrow3 hnil3 hown'
    refine ⟨⟨k + 1, z, l + 1, L ++ [(y : Int)], some ⟨g3, 0, none⟩, cap3, by omega, by go_num, by rw [q4], rfl, by rw [Hid, HLK.out]; omega, by rw [Hid, List.length_append, HK.out]; rfl, HU.out.snoc (by omega) (by omega), HZB, HST, hO4, hb3⟩, by simp [intOf]; omega⟩
  ·have HKE : Hid (k = len) := by rw [Hid]; omega
   go_wp2_with (at_builtin; refine wpList_append_own _ rfl _ _ 23 rfl w.heap.size 53 i0 (.int .u64 0) 1 8 Tryz.underlying23 hi hz0 hz1 hz2 rfl (by decide) _ _ _ rfl (hown.alloc _) ⟨wr.heap.size, 0, none⟩ 1 1 [.int .u64 (c : Int)] rfl rfl (cell_one_new _ _ _) (fun x hx => by simp at hx; subst hx; rfl) (by unfold maxLen; omega) (by omega) (by simp; omega) ?_; intro v' w3 hown' hgrow3 hnil3)
   obtain ⟨g3, cap3, hv3, hO3⟩ := own_snoc HK.out hown'
   subst hv3
   have hb3 : Below w.heap.size w w3 := (hbr.alloc hsize _).grown hgrow3 (by simp; omega) (fun q hq => (hown.lt q hq).1)
   clear hgrow3 hnil3 hown'
   have hI := hO3.isW' (HU.out.snoc (by omega) (by omega)) (show (L ++ [(c : Int)]).length = l + 1 by rw [List.length_append, HK.out]; rfl)
   refine Calls.mono (nNorm_calls (some ⟨g3, 0, none⟩) (l + 1) cap3 (L ++ [(c : Int)]) w3 hI (by omega)) ?_
   rintro e w4 ⟨ao4, cv4, rfl, hO4, hb4⟩
   go_wp2_with fail
   go_ret
   have ev : val (L ++ [(c : Int)]) = val xs * 2 ^ m := by
    have e1 := HV.out
    rw [low_all xs k (by have := HL.out; have := HKE.out; omega)] at e1
    rw [val_append, HK.out, HLK.out, ← e1]; simp [val]
   rw [ev] at hO4
   rw [ev]
   exact ⟨ao4, cv4, rfl, hO4.low hb3.size, nT hb3 hb4⟩
end Go.Proofs.YtahpdcbmekgkfaaGreatDoor

namespace Go.Proofs.YtahpdcbmekgkfaaGreatDoor
open Go.RowKit
set_option maxHeartbeats 4000000
set_option maxRecDepth 100000
theorem nSub_ge (a a' : Option Addr) (len cap len' cap' : Nat) (xs ys : List Int) (w : World) (h : IsW w a len cap xs) (h' : IsW w a' len' cap' ys) (hm : len ≤ 17592186044415) (_hm' : len' ≤ 17592186044415) (hc : len' ≤ len) (hle : val ys ≤ val xs) :
  Calls Tryz.prog 73 #[.slice a len cap, .slice a' len' cap'] w fun e w' => ∃ (ao : Option Addr) (cv : Nat), e = .returned (.slice ao (wO (val xs - val ys)).length cv) ∧ Own w.heap.size w' ao cv (wO (val xs - val ys)) ∧ Below w.heap.size w w' := by
 obtain ⟨i0, hi, hz0, hz1, hz2⟩ := info_parts word_info
 have X1 : Hid (xs.length ≤ len) := by have := h.1; rw [Hid]; omega
 have Y1 : Hid (ys.length ≤ len) := by have := h'.1; rw [Hid]; omega
 have gx := fun i => h.2.1.get i
 have gy := fun i => h'.2.1.get i
 have GX : Hid (∀ i, 0 ≤ xs.getD i 0 ∧ xs.getD i 0 ≤ 18446744073709551615) := gx
 have GY : Hid (∀ i, 0 ≤ ys.getD i 0 ∧ ys.getD i 0 ≤ 18446744073709551615) := gy
 clear gx gy
 have HLE : Hid (val ys ≤ val xs) := hle
 clear hle
 go_enter Tryz.func73, Tryz.ntmps73
 go_wp2_with fail
 go_loopw [5, 6, 7] (fun v cv i wr => ∃ (k : Nat) (L : List Int) (c : Int) (ao : Option Addr) (cp : Nat), k ≤ len ∧ i = .int .i64 k ∧ cv = .int .u64 c ∧ (c = 0 ∨ c = 1) ∧ v = .slice ao k cp ∧ L.length = k ∧ AllU L ∧ val L + low ys k = low xs k + 18446744073709551616 ^ k * c.toNat ∧ Own w.heap.size wr ao cp L ∧ Below w.heap.size w wr) (fun _ _ i _ => len - (intOf i).toNat)
 case atStart => exact ⟨0, [], 0, none, 0, by omega, rfl, rfl, Or.inl rfl, rfl, rfl, (fun x hx => by cases hx), by simp [val, low], World.ownsRow_nil _ _ _ _, Below.refl _ _⟩
 case round =>
  obtain ⟨k, L, c, ao, cp, hk, rfl, rfl, hc01, rfl, hLk, hLU, hval, hown, hbr⟩ := hrel
  have HV : Hid (val L + low ys k = low xs k + 18446744073709551616 ^ k * c.toNat) := hval
  have HC : Hid (c = 0 ∨ c = 1) := hc01
  have HK : Hid (L.length = k) := hLk
  have HU : Hid (AllU L) := hLU
  have b0 : 0 ≤ c ∧ c ≤ 1 := by omega
  unfold Own at hown
  rw [hLk] at hown
  clear hval hc01 hLk hLU
  have hWr := h.keep hbr
  have hWr' := h'.keep hbr
  have hsize := hbr.size
  by_cases hlt : k < len
  ·have W1 := nWord_calls a len cap xs k wr hWr
   have W2 := nWord_calls a' len' cap' ys k wr hWr'
   obtain ⟨x, hx⟩ : ∃ x, x = xs.getD k 0 := ⟨_, rfl⟩
   obtain ⟨y, hy⟩ : ∃ y, y = ys.getD k 0 := ⟨_, rfl⟩
   rw [← hx] at W1
   rw [← hy] at W2
   have bx := GX.out k
   have by' := GY.out k
   rw [← hx] at bx
   rw [← hy] at by'
   have HX : Hid (x = xs.getD k 0) := hx
   have HY : Hid (y = ys.getD k 0) := hy
   have HW1 : Hid (Calls Tryz.prog 111 #[.slice a len cap, .int .i64 k] wr fun e w' => e = .returned (.int .u64 x) ∧ w' = wr) := W1
   have HW2 : Hid (Calls Tryz.prog 111 #[.slice a' len' cap', .int .i64 k] wr fun e w' => e = .returned (.int .u64 y) ∧ w' = wr) := W2
   clear hx hy W1 W2
   go_wp2_with fail
   refine cM HW1.out ?_
   rintro e wr ⟨rfl, rfl⟩
   go_wp2_with fail
   refine cM HW2.out ?_
   rintro e wr ⟨rfl, rfl⟩
   clear hWr hWr'
   rcases HC.out with hc0 | hc0
   ·subst hc0
    rcases Int.lt_trichotomy x y with hxy | hxy | hxy
    ·go_wp2_with (at_builtin; refine wpList_append_own _ rfl _ _ 23 rfl w.heap.size 53 i0 (.int .u64 0) 1 8 Tryz.underlying23 hi hz0 hz1 hz2 rfl (by decide) _ _ _ rfl (hown.alloc _) ⟨wr.heap.size, 0, none⟩ 1 1 [_] rfl rfl (cell_one_new _ _ _) (fun x hx => by simp at hx; subst hx; rfl) (by unfold maxLen; omega) (by omega) (by simp; omega) ?_; intro v' w3 hown' hgrow3 hnil3)
     obtain ⟨g3, cap3, hv3, hO3⟩ := own_snoc HK.out hown'
     subst hv3
     have hb3 : Below w.heap.size w w3 := (hbr.alloc hsize _).grown hgrow3 (by simp; omega) (fun q hq => (hown.lt q hq).1)
     clear hgrow3 hnil3 hown'
     refine ⟨?_, by simp [intOf]; omega⟩
     exact ⟨k + 1, _, 1, _, cap3, by omega, by go_num, rfl, by omega, rfl, by simp [HK.out], HU.out.snoc (by (try simp only [IntKind.wrap_u64]); omega) (by (try simp only [IntKind.wrap_u64]); omega), sub_step xs ys L k x y 0 _ 1 HK.out HX.out HY.out (by omega) (by omega) (by omega) (by (try simp only [IntKind.wrap_u64]); omega) (by omega) HV.out (by (try simp only [IntKind.wrap_u64]); omega), hO3, hb3⟩
    ·subst hxy
     go_wp2_with (at_builtin; refine wpList_append_own _ rfl _ _ 23 rfl w.heap.size 53 i0 (.int .u64 0) 1 8 Tryz.underlying23 hi hz0 hz1 hz2 rfl (by decide) _ _ _ rfl (hown.alloc _) ⟨wr.heap.size, 0, none⟩ 1 1 [_] rfl rfl (cell_one_new _ _ _) (fun x hx => by simp at hx; subst hx; rfl) (by unfold maxLen; omega) (by omega) (by simp; omega) ?_; intro v' w3 hown' hgrow3 hnil3)
     obtain ⟨g3, cap3, hv3, hO3⟩ := own_snoc HK.out hown'
     subst hv3
     have hb3 : Below w.heap.size w w3 := (hbr.alloc hsize _).grown hgrow3 (by simp; omega) (fun q hq => (hown.lt q hq).1)
     clear hgrow3 hnil3 hown'
     refine ⟨?_, by simp [intOf]; omega⟩
     exact ⟨k + 1, _, 0, _, cap3, by omega, by go_num, rfl, by omega, rfl, by simp [HK.out], HU.out.snoc (by (try simp only [IntKind.wrap_u64]); omega) (by (try simp only [IntKind.wrap_u64]); omega), sub_step xs ys L k x x 0 _ 0 HK.out HX.out HY.out (by omega) (by omega) (by omega) (by (try simp only [IntKind.wrap_u64]); omega) (by omega) HV.out (by (try simp only [IntKind.wrap_u64]); omega), hO3, hb3⟩
    ·go_wp2_with (at_builtin; refine wpList_append_own _ rfl _ _ 23 rfl w.heap.size 53 i0 (.int .u64 0) 1 8 Tryz.underlying23 hi hz0 hz1 hz2 rfl (by decide) _ _ _ rfl (hown.alloc _) ⟨wr.heap.size, 0, none⟩ 1 1 [_] rfl rfl (cell_one_new _ _ _) (fun x hx => by simp at hx; subst hx; rfl) (by unfold maxLen; omega) (by omega) (by simp; omega) ?_; intro v' w3 hown' hgrow3 hnil3)
     obtain ⟨g3, cap3, hv3, hO3⟩ := own_snoc HK.out hown'
     subst hv3
     have hb3 : Below w.heap.size w w3 := (hbr.alloc hsize _).grown hgrow3 (by simp; omega) (fun q hq => (hown.lt q hq).1)
     clear hgrow3 hnil3 hown'
     refine ⟨?_, by simp [intOf]; omega⟩
     exact ⟨k + 1, _, 0, _, cap3, by omega, by go_num, rfl, by omega, rfl, by simp [HK.out], HU.out.snoc (by (try simp only [IntKind.wrap_u64]); omega) (by (try simp only [IntKind.wrap_u64]); omega), sub_step xs ys L k x y 0 _ 0 HK.out HX.out HY.out (by omega) (by omega) (by omega) (by (try simp only [IntKind.wrap_u64]); omega) (by omega) HV.out (by (try simp only [IntKind.wrap_u64]); omega), hO3, hb3⟩
   ·subst hc0
    rcases Int.lt_trichotomy x y with hxy | hxy | hxy
    ·go_wp2_with (at_builtin; refine wpList_append_own _ rfl _ _ 23 rfl w.heap.size 53 i0 (.int .u64 0) 1 8 Tryz.underlying23 hi hz0 hz1 hz2 rfl (by decide) _ _ _ rfl (hown.alloc _) ⟨wr.heap.size, 0, none⟩ 1 1 [_] rfl rfl (cell_one_new _ _ _) (fun x hx => by simp at hx; subst hx; rfl) (by unfold maxLen; omega) (by omega) (by simp; omega) ?_; intro v' w3 hown' hgrow3 hnil3)
     obtain ⟨g3, cap3, hv3, hO3⟩ := own_snoc HK.out hown'
     subst hv3
     have hb3 : Below w.heap.size w w3 := (hbr.alloc hsize _).grown hgrow3 (by simp; omega) (fun q hq => (hown.lt q hq).1)
     clear hgrow3 hnil3 hown'
     refine ⟨?_, by simp [intOf]; omega⟩
     exact ⟨k + 1, _, 1, _, cap3, by omega, by go_num, rfl, by omega, rfl, by simp [HK.out], HU.out.snoc (by (try simp only [IntKind.wrap_u64]); omega) (by (try simp only [IntKind.wrap_u64]); omega), sub_step xs ys L k x y 1 _ 1 HK.out HX.out HY.out (by omega) (by omega) (by omega) (by (try simp only [IntKind.wrap_u64]); omega) (by omega) HV.out (by (try simp only [IntKind.wrap_u64]); omega), hO3, hb3⟩
    ·subst hxy
     go_wp2_with (at_builtin; refine wpList_append_own _ rfl _ _ 23 rfl w.heap.size 53 i0 (.int .u64 0) 1 8 Tryz.underlying23 hi hz0 hz1 hz2 rfl (by decide) _ _ _ rfl (hown.alloc _) ⟨wr.heap.size, 0, none⟩ 1 1 [_] rfl rfl (cell_one_new _ _ _) (fun x hx => by simp at hx; subst hx; rfl) (by unfold maxLen; omega) (by omega) (by simp; omega) ?_; intro v' w3 hown' hgrow3 hnil3)
     obtain ⟨g3, cap3, hv3, hO3⟩ := own_snoc HK.out hown'
     subst hv3
     have hb3 : Below w.heap.size w w3 := (hbr.alloc hsize _).grown hgrow3 (by simp; omega) (fun q hq => (hown.lt q hq).1)
     clear hgrow3 hnil3 hown'
     refine ⟨?_, by simp [intOf]; omega⟩
     exact ⟨k + 1, _, 1, _, cap3, by omega, by go_num, rfl, by omega, rfl, by simp [HK.out], HU.out.snoc (by (try simp only [IntKind.wrap_u64]); omega) (by (try simp only [IntKind.wrap_u64]); omega), sub_step xs ys L k x x 1 _ 1 HK.out HX.out HY.out (by omega) (by omega) (by omega) (by (try simp only [IntKind.wrap_u64]); omega) (by omega) HV.out (by (try simp only [IntKind.wrap_u64]); omega), hO3, hb3⟩
    ·go_wp2_with (at_builtin; refine wpList_append_own _ rfl _ _ 23 rfl w.heap.size 53 i0 (.int .u64 0) 1 8 Tryz.underlying23 hi hz0 hz1 hz2 rfl (by decide) _ _ _ rfl (hown.alloc _) ⟨wr.heap.size, 0, none⟩ 1 1 [_] rfl rfl (cell_one_new _ _ _) (fun x hx => by simp at hx; subst hx; rfl) (by unfold maxLen; omega) (by omega) (by simp; omega) ?_; intro v' w3 hown' hgrow3 hnil3)
     obtain ⟨g3, cap3, hv3, hO3⟩ := own_snoc HK.out hown'
     subst hv3
     have hb3 : Below w.heap.size w w3 := (hbr.alloc hsize _).grown hgrow3 (by simp; omega) (fun q hq => (hown.lt q hq).1)
     clear hgrow3 hnil3 hown'
     refine ⟨?_, by simp [intOf]; omega⟩
     exact ⟨k + 1, _, 0, _, cap3, by omega, by go_num, rfl, by omega, rfl, by simp [HK.out], HU.out.snoc (by (try simp only [IntKind.wrap_u64]); omega) (by (try simp only [IntKind.wrap_u64]); omega), sub_step xs ys L k x y 1 _ 0 HK.out HX.out HY.out (by omega) (by omega) (by omega) (by (try simp only [IntKind.wrap_u64]); omega) (by omega) HV.out (by (try simp only [IntKind.wrap_u64]); omega), hO3, hb3⟩
  ·have HKN : Hid (k = len) := by rw [Hid]; omega
   clear hWr hWr'
   obtain ⟨dl, hdl⟩ : ∃ dl : List Int, dl = L := ⟨_, rfl⟩
   have hOL : Own w.heap.size wr ao cp L := by unfold Own; rw [HK.out]; exact hown
   have hI := hOL.isW' HU.out HK.out
   have NC : Hid _ := nNorm_calls ao k cp L wr hI (by omega)
   clear hI hOL hown hdl dl
   go_wp2_with fail
   refine cM NC.out ?_
   rintro e w4 ⟨ao4, cv4, rfl, hO4, hb4⟩
   go_wp2_with fail
   go_ret
   have ev : val L = val xs - val ys := by
    have e1 := HV.out
    rw [low_all xs k (by have := X1.out; have := HKN.out; omega), low_all ys k (by have := Y1.out; have := HKN.out; omega)] at e1
    have hlt := val_lt L HU.out
    rw [HK.out] at hlt
    have ec := HC.out
    rcases ec with rfl | rfl
    ·simp at e1; omega
    ·rw [show (1 : Int).toNat = 1 from rfl, Nat.mul_one] at e1
     generalize 18446744073709551616 ^ k = P at *
     have := HLE.out
     omega
   rw [ev] at hO4
   rw [ev]
   exact ⟨ao4, cv4, rfl, hO4.low hsize, nT hbr hb4⟩
theorem nSub_lt (a a' : Option Addr) (len cap len' cap' : Nat) (xs ys : List Int) (w : World) (h : IsW w a len cap xs) (h' : IsW w a' len' cap' ys) (hm : len ≤ 17592186044415) (hm' : len' ≤ 17592186044415) (hc : len < len') (hle : val ys ≤ val xs) :
  Calls Tryz.prog 73 #[.slice a len cap, .slice a' len' cap'] w fun e w' => ∃ (ao : Option Addr) (cv : Nat), e = .returned (.slice ao (wO (val xs - val ys)).length cv) ∧ Own w.heap.size w' ao cv (wO (val xs - val ys)) ∧ Below w.heap.size w w' := by
 obtain ⟨i0, hi, hz0, hz1, hz2⟩ := info_parts word_info
 have X1 : Hid (xs.length ≤ len') := by have := h.1; rw [Hid]; omega
 have Y1 : Hid (ys.length ≤ len') := by have := h'.1; rw [Hid]; omega
 have gx := fun i => h.2.1.get i
 have gy := fun i => h'.2.1.get i
 have GX : Hid (∀ i, 0 ≤ xs.getD i 0 ∧ xs.getD i 0 ≤ 18446744073709551615) := gx
 have GY : Hid (∀ i, 0 ≤ ys.getD i 0 ∧ ys.getD i 0 ≤ 18446744073709551615) := gy
 clear gx gy
 have HLE : Hid (val ys ≤ val xs) := hle
 clear hle
 go_enter Tryz.func73, Tryz.ntmps73
 go_wp2_with fail
 go_loopw [5, 6, 7] (fun v cv i wr => ∃ (k : Nat) (L : List Int) (c : Int) (ao : Option Addr) (cp : Nat), k ≤ len' ∧ i = .int .i64 k ∧ cv = .int .u64 c ∧ (c = 0 ∨ c = 1) ∧ v = .slice ao k cp ∧ L.length = k ∧ AllU L ∧ val L + low ys k = low xs k + 18446744073709551616 ^ k * c.toNat ∧ Own w.heap.size wr ao cp L ∧ Below w.heap.size w wr) (fun _ _ i _ => len' - (intOf i).toNat)
 case atStart => exact ⟨0, [], 0, none, 0, by omega, rfl, rfl, Or.inl rfl, rfl, rfl, (fun x hx => by cases hx), by simp [val, low], World.ownsRow_nil _ _ _ _, Below.refl _ _⟩
 case round =>
  obtain ⟨k, L, c, ao, cp, hk, rfl, rfl, hc01, rfl, hLk, hLU, hval, hown, hbr⟩ := hrel
  have HV : Hid (val L + low ys k = low xs k + 18446744073709551616 ^ k * c.toNat) := hval
  have HC : Hid (c = 0 ∨ c = 1) := hc01
  have HK : Hid (L.length = k) := hLk
  have HU : Hid (AllU L) := hLU
  have b0 : 0 ≤ c ∧ c ≤ 1 := by omega
  unfold Own at hown
  rw [hLk] at hown
  clear hval hc01 hLk hLU
  have hWr := h.keep hbr
  have hWr' := h'.keep hbr
  have hsize := hbr.size
  by_cases hlt : k < len'
  ·have W1 := nWord_calls a len cap xs k wr hWr
   have W2 := nWord_calls a' len' cap' ys k wr hWr'
   obtain ⟨x, hx⟩ : ∃ x, x = xs.getD k 0 := ⟨_, rfl⟩
   obtain ⟨y, hy⟩ : ∃ y, y = ys.getD k 0 := ⟨_, rfl⟩
   rw [← hx] at W1
   rw [← hy] at W2
   have bx := GX.out k
   have by' := GY.out k
   rw [← hx] at bx
   rw [← hy] at by'
   have HX : Hid (x = xs.getD k 0) := hx
   have HY : Hid (y = ys.getD k 0) := hy
   have HW1 : Hid (Calls Tryz.prog 111 #[.slice a len cap, .int .i64 k] wr fun e w' => e = .returned (.int .u64 x) ∧ w' = wr) := W1
   have HW2 : Hid (Calls Tryz.prog 111 #[.slice a' len' cap', .int .i64 k] wr fun e w' => e = .returned (.int .u64 y) ∧ w' = wr) := W2
   clear hx hy W1 W2
   go_wp2_with fail
   refine cM HW1.out ?_
   rintro e wr ⟨rfl, rfl⟩
   go_wp2_with fail
   refine cM HW2.out ?_
   rintro e wr ⟨rfl, rfl⟩
   clear hWr hWr'
   rcases HC.out with hc0 | hc0
   ·subst hc0
    rcases Int.lt_trichotomy x y with hxy | hxy | hxy
    ·go_wp2_with (at_builtin; refine wpList_append_own _ rfl _ _ 23 rfl w.heap.size 53 i0 (.int .u64 0) 1 8 Tryz.underlying23 hi hz0 hz1 hz2 rfl (by decide) _ _ _ rfl (hown.alloc _) ⟨wr.heap.size, 0, none⟩ 1 1 [_] rfl rfl (cell_one_new _ _ _) (fun x hx => by simp at hx; subst hx; rfl) (by unfold maxLen; omega) (by omega) (by simp; omega) ?_; intro v' w3 hown' hgrow3 hnil3)
     obtain ⟨g3, cap3, hv3, hO3⟩ := own_snoc HK.out hown'
     subst hv3
     have hb3 : Below w.heap.size w w3 := (hbr.alloc hsize _).grown hgrow3 (by simp; omega) (fun q hq => (hown.lt q hq).1)
     clear hgrow3 hnil3 hown'
     refine ⟨?_, by simp [intOf]; omega⟩
     exact ⟨k + 1, _, 1, _, cap3, by omega, by go_num, rfl, by omega, rfl, by simp [HK.out], HU.out.snoc (by (try simp only [IntKind.wrap_u64]); omega) (by (try simp only [IntKind.wrap_u64]); omega), sub_step xs ys L k x y 0 _ 1 HK.out HX.out HY.out (by omega) (by omega) (by omega) (by (try simp only [IntKind.wrap_u64]); omega) (by omega) HV.out (by (try simp only [IntKind.wrap_u64]); omega), hO3, hb3⟩
    ·subst hxy
     go_wp2_with (at_builtin; refine wpList_append_own _ rfl _ _ 23 rfl w.heap.size 53 i0 (.int .u64 0) 1 8 Tryz.underlying23 hi hz0 hz1 hz2 rfl (by decide) _ _ _ rfl (hown.alloc _) ⟨wr.heap.size, 0, none⟩ 1 1 [_] rfl rfl (cell_one_new _ _ _) (fun x hx => by simp at hx; subst hx; rfl) (by unfold maxLen; omega) (by omega) (by simp; omega) ?_; intro v' w3 hown' hgrow3 hnil3)
     obtain ⟨g3, cap3, hv3, hO3⟩ := own_snoc HK.out hown'
     subst hv3
     have hb3 : Below w.heap.size w w3 := (hbr.alloc hsize _).grown hgrow3 (by simp; omega) (fun q hq => (hown.lt q hq).1)
     clear hgrow3 hnil3 hown'
     refine ⟨?_, by simp [intOf]; omega⟩
     exact ⟨k + 1, _, 0, _, cap3, by omega, by go_num, rfl, by omega, rfl, by simp [HK.out], HU.out.snoc (by (try simp only [IntKind.wrap_u64]); omega) (by (try simp only [IntKind.wrap_u64]); omega), sub_step xs ys L k x x 0 _ 0 HK.out HX.out HY.out (by omega) (by omega) (by omega) (by (try simp only [IntKind.wrap_u64]); omega) (by omega) HV.out (by (try simp only [IntKind.wrap_u64]); omega), hO3, hb3⟩
    ·go_wp2_with (at_builtin; refine wpList_append_own _ rfl _ _ 23 rfl w.heap.size 53 i0 (.int .u64 0) 1 8 Tryz.underlying23 hi hz0 hz1 hz2 rfl (by decide) _ _ _ rfl (hown.alloc _) ⟨wr.heap.size, 0, none⟩ 1 1 [_] rfl rfl (cell_one_new _ _ _) (fun x hx => by simp at hx; subst hx; rfl) (by unfold maxLen; omega) (by omega) (by simp; omega) ?_; intro v' w3 hown' hgrow3 hnil3)
     obtain ⟨g3, cap3, hv3, hO3⟩ := own_snoc HK.out hown'
     subst hv3
     have hb3 : Below w.heap.size w w3 := (hbr.alloc hsize _).grown hgrow3 (by simp; omega) (fun q hq => (hown.lt q hq).1)
     clear hgrow3 hnil3 hown'
     refine ⟨?_, by simp [intOf]; omega⟩
     exact ⟨k + 1, _, 0, _, cap3, by omega, by go_num, rfl, by omega, rfl, by simp [HK.out], HU.out.snoc (by (try simp only [IntKind.wrap_u64]); omega) (by (try simp only [IntKind.wrap_u64]); omega), sub_step xs ys L k x y 0 _ 0 HK.out HX.out HY.out (by omega) (by omega) (by omega) (by (try simp only [IntKind.wrap_u64]); omega) (by omega) HV.out (by (try simp only [IntKind.wrap_u64]); omega), hO3, hb3⟩
   ·subst hc0
    rcases Int.lt_trichotomy x y with hxy | hxy | hxy
    ·go_wp2_with (at_builtin; refine wpList_append_own _ rfl _ _ 23 rfl w.heap.size 53 i0 (.int .u64 0) 1 8 Tryz.underlying23 hi hz0 hz1 hz2 rfl (by decide) _ _ _ rfl (hown.alloc _) ⟨wr.heap.size, 0, none⟩ 1 1 [_] rfl rfl (cell_one_new _ _ _) (fun x hx => by simp at hx; subst hx; rfl) (by unfold maxLen; omega) (by omega) (by simp; omega) ?_; intro v' w3 hown' hgrow3 hnil3)
     obtain ⟨g3, cap3, hv3, hO3⟩ := own_snoc HK.out hown'
     subst hv3
     have hb3 : Below w.heap.size w w3 := (hbr.alloc hsize _).grown hgrow3 (by simp; omega) (fun q hq => (hown.lt q hq).1)
     clear hgrow3 hnil3 hown'
     refine ⟨?_, by simp [intOf]; omega⟩
     exact ⟨k + 1, _, 1, _, cap3, by omega, by go_num, rfl, by omega, rfl, by simp [HK.out], HU.out.snoc (by (try simp only [IntKind.wrap_u64]); omega) (by (try simp only [IntKind.wrap_u64]); omega), sub_step xs ys L k x y 1 _ 1 HK.out HX.out HY.out (by omega) (by omega) (by omega) (by (try simp only [IntKind.wrap_u64]); omega) (by omega) HV.out (by (try simp only [IntKind.wrap_u64]); omega), hO3, hb3⟩
    ·subst hxy
     go_wp2_with (at_builtin; refine wpList_append_own _ rfl _ _ 23 rfl w.heap.size 53 i0 (.int .u64 0) 1 8 Tryz.underlying23 hi hz0 hz1 hz2 rfl (by decide) _ _ _ rfl (hown.alloc _) ⟨wr.heap.size, 0, none⟩ 1 1 [_] rfl rfl (cell_one_new _ _ _) (fun x hx => by simp at hx; subst hx; rfl) (by unfold maxLen; omega) (by omega) (by simp; omega) ?_; intro v' w3 hown' hgrow3 hnil3)
     obtain ⟨g3, cap3, hv3, hO3⟩ := own_snoc HK.out hown'
     subst hv3
     have hb3 : Below w.heap.size w w3 := (hbr.alloc hsize _).grown hgrow3 (by simp; omega) (fun q hq => (hown.lt q hq).1)
     clear hgrow3 hnil3 hown'
     refine ⟨?_, by simp [intOf]; omega⟩
     exact ⟨k + 1, _, 1, _, cap3, by omega, by go_num, rfl, by omega, rfl, by simp [HK.out], HU.out.snoc (by (try simp only [IntKind.wrap_u64]); omega) (by (try simp only [IntKind.wrap_u64]); omega), sub_step xs ys L k x x 1 _ 1 HK.out HX.out HY.out (by omega) (by omega) (by omega) (by (try simp only [IntKind.wrap_u64]); omega) (by omega) HV.out (by (try simp only [IntKind.wrap_u64]); omega), hO3, hb3⟩
    ·go_wp2_with (at_builtin; refine wpList_append_own _ rfl _ _ 23 rfl w.heap.size 53 i0 (.int .u64 0) 1 8 Tryz.underlying23 hi hz0 hz1 hz2 rfl (by decide) _ _ _ rfl (hown.alloc _) ⟨wr.heap.size, 0, none⟩ 1 1 [_] rfl rfl (cell_one_new _ _ _) (fun x hx => by simp at hx; subst hx; rfl) (by unfold maxLen; omega) (by omega) (by simp; omega) ?_; intro v' w3 hown' hgrow3 hnil3)
     obtain ⟨g3, cap3, hv3, hO3⟩ := own_snoc HK.out hown'
     subst hv3
     have hb3 : Below w.heap.size w w3 := (hbr.alloc hsize _).grown hgrow3 (by simp; omega) (fun q hq => (hown.lt q hq).1)
     clear hgrow3 hnil3 hown'
     refine ⟨?_, by simp [intOf]; omega⟩
     exact ⟨k + 1, _, 0, _, cap3, by omega, by go_num, rfl, by omega, rfl, by simp [HK.out], HU.out.snoc (by (try simp only [IntKind.wrap_u64]); omega) (by (try simp only [IntKind.wrap_u64]); omega), sub_step xs ys L k x y 1 _ 0 HK.out HX.out HY.out (by omega) (by omega) (by omega) (by (try simp only [IntKind.wrap_u64]); omega) (by omega) HV.out (by (try simp only [IntKind.wrap_u64]); omega), hO3, hb3⟩
  ·have HKN : Hid (k = len') := by rw [Hid]; omega
   clear hWr hWr'
   obtain ⟨dl, hdl⟩ : ∃ dl : List Int, dl = L := ⟨_, rfl⟩
   have hOL : Own w.heap.size wr ao cp L := by unfold Own; rw [HK.out]; exact hown
   have hI := hOL.isW' HU.out HK.out
   have NC : Hid _ := nNorm_calls ao k cp L wr hI (by omega)
   clear hI hOL hown hdl dl
   go_wp2_with fail
   refine cM NC.out ?_
   rintro e w4 ⟨ao4, cv4, rfl, hO4, hb4⟩
   go_wp2_with fail
   go_ret
   have ev : val L = val xs - val ys := by
    have e1 := HV.out
    rw [low_all xs k (by have := X1.out; have := HKN.out; omega), low_all ys k (by have := Y1.out; have := HKN.out; omega)] at e1
    have hlt := val_lt L HU.out
    rw [HK.out] at hlt
    have ec := HC.out
    rcases ec with rfl | rfl
    ·simp at e1; omega
    ·rw [show (1 : Int).toNat = 1 from rfl, Nat.mul_one] at e1
     generalize 18446744073709551616 ^ k = P at *
     have := HLE.out
     omega
   rw [ev] at hO4
   rw [ev]
   exact ⟨ao4, cv4, rfl, hO4.low hsize, nT hbr hb4⟩
theorem nSub_calls (a a' : Option Addr) (len cap len' cap' : Nat) (xs ys : List Int) (w : World) (h : IsW w a len cap xs) (h' : IsW w a' len' cap' ys) (hm : len ≤ 17592186044415) (hm' : len' ≤ 17592186044415) (hle : val ys ≤ val xs) :
  Calls Tryz.prog 73 #[.slice a len cap, .slice a' len' cap'] w fun e w' => ∃ (ao : Option Addr) (cv : Nat), e = .returned (.slice ao (wO (val xs - val ys)).length cv) ∧ Own w.heap.size w' ao cv (wO (val xs - val ys)) ∧ Below w.heap.size w w' := by
 by_cases hc : len' ≤ len
 ·exact nSub_ge a a' len cap len' cap' xs ys w h h' hm hm' hc hle
 ·exact nSub_lt a a' len cap len' cap' xs ys w h h' hm hm' (by omega) hle
end Go.Proofs.YtahpdcbmekgkfaaGreatDoor

namespace Go.Proofs.YtahpdcbmekgkfaaGreatDoor
open Go.RowKit
theorem natAt_own {B cv : Nat} {w : World} {a : Option Addr} {r n : Nat} (h : Own B w a cv (wO r)) (hn : (wO r).length = n) : NatAt B w (.slice a n cv) r := ⟨a, n, cv, rfl, hn.symm, h.ownW (words_U _) hn⟩
end Go.Proofs.YtahpdcbmekgkfaaGreatDoor

namespace Go.Proofs.YtahpdcbmekgkfaaGreatDoor
open Go.RowKit
set_option maxHeartbeats 4000000
set_option maxRecDepth 100000
def loseB (xs : List Int) (k : Nat) : Bool := decide (low xs k ≠ 0)
theorem loseB_zero (xs : List Int) : loseB xs 0 = false := by simp [loseB, low]
theorem loseB_step (xs : List Int) (k x : Nat) (hx : xs.getD k 0 = (x : Int)) : loseB xs (k + 1) = (loseB xs k || decide (x ≠ 0)) := by
 have e : low xs (k + 1) = low xs k + 18446744073709551616 ^ k * x := by show low xs k + _ * (xs.getD k 0).toNat = _; rw [hx, Int.toNat_natCast]
 have hp : 0 < 18446744073709551616 ^ k := Nat.pow_pos (by decide)
 unfold loseB
 rw [e, Bool.eq_iff_iff]
 simp only [decide_eq_true_eq, Bool.or_eq_true]
 constructor
 ·intro h
  by_cases h0 : low xs k = 0
  ·right; intro q; subst q; rw [h0] at h; simp at h
  ·left; exact h0
 ·rintro (h | h)
  ·omega
  ·have := Nat.mul_pos hp (show 0 < x by omega); omega
theorem lost_word (xs : List Int) (hU : AllU xs) (m sk y z : Nat) (hsk : sk = m / 64) (hy : xs.getD sk 0 = (y : Int)) (hz : z = y * 2 ^ (64 - m % 64) % 18446744073709551616) : lostB (val xs) m = (loseB xs sk || decide (z ≠ 0)) := by
 have h1 := lost_split (val xs) m
 have h2 := val_word xs hU (m / 64)
 rw [← hsk, hy, Int.toNat_natCast] at h2
 rw [← hsk, ← low_mod xs hU, h2, ← hz] at h1
 unfold lostB loseB
 rw [Bool.eq_iff_iff]
 simp only [decide_eq_true_eq, Bool.or_eq_true]
 constructor
 ·intro q
  by_cases e : low xs sk = 0
  ·exact Or.inr (fun e2 => q (h1.2 ⟨e, e2⟩))
  ·exact Or.inl e
 ·intro q e
  have := h1.1 e
  rcases q with q | q
  ·exact q this.1
  ·exact q this.2
theorem shift64 (y : Nat) : y * 2 ^ (64 - 0) % 18446744073709551616 = 0 := by
 rw [show 64 - 0 = 64 from rfl, show (2 : Nat) ^ 64 = 18446744073709551616 from rfl, Nat.mul_mod_left]
theorem lost_all (v m len : Nat) (hv : v < 18446744073709551616 ^ len) (hm : 64 * len ≤ m) : lostB v m = decide (0 < blen v) := by
 have : v < 2 ^ m := by rw [two64] at hv; exact Nat.lt_of_lt_of_le hv (Nat.pow_le_pow_right (by decide) hm)
 unfold lostB
 rw [Nat.mod_eq_of_lt this, decide_eq_decide]
 have := blen_nil v
 omega
theorem nShr_all (a : Option Addr) (len cap m : Nat) (xs : List Int) (w : World) (h : IsW w a len cap xs) (hl : len ≤ 17592186044000) (hc : 64 * len ≤ m) :
  Calls Tryz.prog 110 #[.slice a len cap, .int .i64 (m : Int)] w fun e w' => ∃ v, e = .returned (.tuple #[v, .bool (lostB (val xs) m)]) ∧ NatAt w.heap.size w' v (val xs / 2 ^ m) ∧ Below w.heap.size w w' := by
 have hv := val_lt xs h.2.1
 rw [← h.1] at hv
 have HZ : Hid (val xs / 2 ^ m = 0) := shr_zero (val xs) m len hv (by omega)
 have HL : Hid (lostB (val xs) m = decide (0 < blen (val xs))) := lost_all _ m len hv hc
 have LC : Hid _ := nLen_calls a len cap xs w h (by omega)
 have hbl := blen_words_le xs h.2.1
 rw [← h.1] at hbl
 clear hv
 go_enter Tryz.func110, Tryz.ntmps110
 go_wp2_with fail
 refine cM LC.out ?_
 rintro e w1 ⟨rfl, hb⟩
 go_wp2_with fail
 go_ret2
 rw [HZ.out, HL.out]
 exact ⟨_, by first | rfl | (congr 4; rw [decide_eq_decide]; omega), natAt_nil _ _, hb⟩
theorem nShr_part (a : Option Addr) (len cap m : Nat) (xs : List Int) (w : World) (h : IsW w a len cap xs) (hm : m ≤ 9223372036854775807) (hl : len ≤ 17592186044000) (hc : m < 64 * len) :
  Calls Tryz.prog 110 #[.slice a len cap, .int .i64 (m : Int)] w fun e w' => ∃ v, e = .returned (.tuple #[v, .bool (lostB (val xs) m)]) ∧ NatAt w.heap.size w' v (val xs / 2 ^ m) ∧ Below w.heap.size w w' := by
 obtain ⟨i0, hi, hz0, hz1, hz2⟩ := info_parts word_info
 obtain ⟨sk, hsk⟩ : ∃ sk, sk = m / 64 := ⟨_, rfl⟩
 have q1 : (m : Int) / 64 = (sk : Int) := by omega
 have hskl : sk < len := by omega
 have HM : Hid (m = 64 * sk + m % 64) := by rw [Hid]; omega
 have hshb : m % 64 < 64 := by omega
 have HL : Hid (xs.length = len) := h.1.symm
 have hcap := h.2.2.1.1
 obtain ⟨b, off, ha, hbl, _⟩ := h.2.2.2 0 (by omega)
 subst ha
 have hcells : ∀ i, i < len → ∃ x : Nat, xs.getD i 0 = (x : Int) ∧ x < 18446744073709551616 ∧ w.cell? ⟨b, off + i, none⟩ = some (.int .u64 (x : Int)) := fun i hi => by
  obtain ⟨b', off', e1, _, hc⟩ := h.2.2.2 i hi
  simp only [Option.some.injEq, Addr.mk.injEq, and_true] at e1
  obtain ⟨rfl, rfl⟩ := e1
  obtain ⟨x, hx, hx1⟩ := word_nat2 xs h.2.1 i
  exact ⟨x, hx, hx1, by rw [← hx]; exact hc⟩
 have HCL : Hid _ := hcells
 have HW : Hid (IsW w (some ⟨b, off, none⟩) len cap xs) := h
 have HFIT : Hid (val xs / 2 ^ m < 18446744073709551616 ^ (len - sk)) := by
  have := shr_fits (val xs) m len (by rw [← HL.out]; exact val_lt xs h.2.1) (by omega)
  rw [← hsk] at this; exact this
 obtain ⟨ys, hys, hys1, hyc⟩ := hcells sk hskl
 obtain ⟨zs, hzs⟩ : ∃ z : Nat, z = ys * 2 ^ (64 - m % 64) % 18446744073709551616 := ⟨_, rfl⟩
 have HLO : Hid _ := lost_word xs h.2.1 m sk ys zs hsk hys hzs
 have q5 : IntKind.u64.wrap ((ys : Int) * 2 ^ (64 - m % 64)) = (zs : Int) := by rw [mul_pow_cast, wrap_nat, hzs]
 have HZS : Hid (m % 64 = 0 → zs = 0) := fun q => by rw [hzs, q]; exact shift64 ys
 clear hcells h hsk hys hzs
 go_enter Tryz.func110, Tryz.ntmps110
 go_wp2_with fail
 go_loop [6, 26] (fun vl vi => ∃ (k : Nat) (bl : Bool), k ≤ sk ∧ vi = .int .i64 k ∧ vl = .bool bl ∧ Hid (bl = loseB xs k)) (fun _ vi => sk - (intOf vi).toNat)
 case atStart => exact ⟨0, false, by omega, rfl, rfl, (loseB_zero xs).symm⟩
 case round =>
  obtain ⟨k, bl, hk, rfl, rfl, HB⟩ := hrel
  by_cases hlt : k < sk
  ·obtain ⟨x, hx, hx1, hcx⟩ := HCL.out k (by omega)
   have HS : Hid _ := loseB_step xs k x hx
   rw [← HB.out] at HS
   cases bl with
   | true =>
    clear hx
    go_wp2_with fail
    go_round
    case rel => exact ⟨k + 1, true, by omega, by go_num, rfl, by rw [Hid, HS.out]; rfl⟩
    case measure => simp [intOf]; omega
   | false =>
    clear hx
    go_wp2_with fail
    go_round
    case rel => exact ⟨k + 1, ((x : Int) != 0), by omega, by go_num, rfl, by rw [Hid, HS.out, Bool.false_or, Bool.eq_iff_iff]; simp⟩
    case measure => simp [intOf]; omega
  ·have HKS : Hid (k = sk) := by rw [Hid]; omega
   have HB2 : Hid (bl = loseB xs sk) := by rw [Hid, HB.out, HKS.out]
   clear HB
   go_wp2_with fail
   go_loopw [10, 11] (fun vo vi wr => ∃ (j l : Nat) (L : List Int) (ao : Option Addr) (cp : Nat), j ≤ len ∧ sk ≤ j ∧ vi = .int .i64 j ∧ vo = .slice ao l cp ∧ Hid (l = j - sk) ∧ Hid (L.length = l) ∧ Hid (AllU L) ∧ Hid (∀ t, t < l → (L.getD t 0).toNat = val xs / 2 ^ m / 18446744073709551616 ^ t % 18446744073709551616) ∧ wr.ownsRow w.heap.size 53 1 (.slice ao l cp) l (L.map (Value.int .u64)) ∧ Below w.heap.size w wr) (fun _ vi _ => len - (intOf vi).toNat)
   case atStart => exact ⟨sk, 0, [], none, 0, by omega, by omega, rfl, rfl, by rw [Hid]; omega, rfl, (fun x hx => by cases hx), (fun t ht => by omega), World.ownsRow_nil _ _ _ _, Below.refl _ _⟩
   case round =>
    obtain ⟨j, l, L, ao, cp, hj, hsj, rfl, rfl, HLJ, HK, HU, HV, hown, hbr⟩ := hrel
    have hsize := hbr.size
    have hlb : l ≤ 17592186044000 := by have := HLJ.out; omega
    by_cases hjl : j < len
    ·obtain ⟨x, hx, hx1, hcx⟩ := HCL.out j hjl
     have hcx2 : wr.cell? ⟨b, off + j, none⟩ = some (.int .u64 (x : Int)) := (hbr.cell (p := ⟨b, off + j, none⟩) hbl).trans hcx
     obtain ⟨y, hy, hy1⟩ := word_nat2 xs HW.out.2.1 (j + 1)
     have AT : Hid _ := nWord_calls (some ⟨b, off, none⟩) len cap xs (j + 1) wr (HW.out.keep hbr)
     rw [hy, show ((j + 1 : Nat) : Int) = (j : Int) + 1 by omega] at AT
     obtain ⟨z, hz⟩ : ∃ z : Nat, z = x / 2 ^ (m % 64) + y * 2 ^ (64 - m % 64) % 18446744073709551616 := ⟨_, rfl⟩
     have hzb : z < 18446744073709551616 := by rw [hz]; exact shr_word_lt x y (m % 64) hshb hx1
     have HSA : Hid (val xs / 2 ^ m / 18446744073709551616 ^ l % 18446744073709551616 = z) := by
      have e := HLJ.out
      rw [Hid, hz]
      exact shr_at xs HW.out.2.1 l sk (m % 64) m x y HM.out hshb (by rw [show sk + l = j by omega]; exact hx) (by rw [show sk + l + 1 = j + 1 by omega]; exact hy)
     have q3 : bits BinOp.or IntKind.u64 ((x : Int) / 2 ^ (m % 64)) (IntKind.u64.wrap ((y : Int) * 2 ^ (64 - m % 64))) = (z : Int) := by rw [or_words2 x y (m % 64) hshb hx1, hz]
     have HZ0 : Hid (m % 64 = 0 → (x : Int) / 2 ^ (m % 64) = (z : Int)) := fun q => by rw [hz, q, shift64, div_pow_cast]; rfl
     have hV' : ∀ t, t < l + 1 → ((L ++ [(z : Int)]).getD t 0).toNat = val xs / 2 ^ m / 18446744073709551616 ^ t % 18446744073709551616 := fun t ht => by
      have e := HK.out
      by_cases e2 : t < l
      ·rw [show (L ++ [(z : Int)]).getD t 0 = L.getD t 0 by simp [List.getD, List.getElem?_append, show t < L.length by omega]]
       exact HV.out t e2
      ·obtain rfl : t = l := by omega
       rw [show (L ++ [(z : Int)]).getD t 0 = (z : Int) by simp [List.getD, List.getElem?_append, show ¬ t < L.length by omega, show t - L.length = 0 by omega], Int.toNat_natCast, HSA.out]
     have HV' : Hid _ := hV'
     clear hx hy hz hcx hV'
     by_cases hs0 : m % 64 = 0
     ·have q8 : ¬ (0 : Int) < (m : Int) % 64 := by omega
      have q9 := HZ0.out hs0
      have HS0 : Hid (m % 64 = 0) := hs0
      clear hs0
      go_wp2_with (at_builtin; refine wpList_append_own _ rfl _ _ 23 rfl w.heap.size 53 i0 (.int .u64 0) 1 8 Tryz.underlying23 hi hz0 hz1 hz2 rfl (by decide) _ _ _ rfl (hown.alloc _) ⟨wr.heap.size, 0, none⟩ 1 1 [_] rfl rfl (cell_one_new _ _ _) (fun x hx => by simp at hx; subst hx; rfl) (by unfold maxLen; omega) (by omega) (by simp; omega) ?_; intro v' w3 hown' hgrow3 hnil3)
      (try rw [q9] at hown')
      obtain ⟨g3, cap3, hv3, hO3⟩ := own_snoc HK.out hown'
      subst hv3
      have hb3 : Below w.heap.size w w3 := (hbr.alloc hsize _).grown hgrow3 (by simp; omega) (fun q hq => (hown.lt q hq).1)
      have hO4 : w3.ownsRow w.heap.size 53 1 (.slice (some ⟨g3, 0, none⟩) (l + 1) cap3) (l + 1) ((L ++ [(z : Int)]).map (Value.int .u64)) := by
       unfold Own at hO3; rw [List.length_append, HK.out] at hO3; exact hO3
      clear hgrow3 hnil3 hown'
      refine ⟨⟨j + 1, l + 1, L ++ [(z : Int)], some ⟨g3, 0, none⟩, cap3, by omega, by omega, by go_num, rfl, by rw [Hid, HLJ.out]; omega, by rw [Hid, List.length_append, HK.out]; rfl, HU.out.snoc (by omega) (by omega), HV', hO4, hb3⟩, by simp [intOf]; omega⟩
     ·have q8 : (0 : Int) < (m : Int) % 64 := by omega
      have HS0 : Hid (m % 64 ≠ 0) := hs0
      clear hs0
      go_wp2_with fail
      refine cM AT.out ?_
      rintro e wr ⟨rfl, rfl⟩
      go_wp2_with (at_builtin; refine wpList_append_own _ rfl _ _ 23 rfl w.heap.size 53 i0 (.int .u64 0) 1 8 Tryz.underlying23 hi hz0 hz1 hz2 rfl (by decide) _ _ _ rfl (hown.alloc _) ⟨wr.heap.size, 0, none⟩ 1 1 [_] rfl rfl (cell_one_new _ _ _) (fun x hx => by simp at hx; subst hx; rfl) (by unfold maxLen; omega) (by omega) (by simp; omega) ?_; intro v' w3 hown' hgrow3 hnil3)
      (try rw [q3] at hown')
      obtain ⟨g3, cap3, hv3, hO3⟩ := own_snoc HK.out hown'
      subst hv3
      have hb3 : Below w.heap.size w w3 := (hbr.alloc hsize _).grown hgrow3 (by simp; omega) (fun q hq => (hown.lt q hq).1)
      have hO4 : w3.ownsRow w.heap.size 53 1 (.slice (some ⟨g3, 0, none⟩) (l + 1) cap3) (l + 1) ((L ++ [(z : Int)]).map (Value.int .u64)) := by
       unfold Own at hO3; rw [List.length_append, HK.out] at hO3; exact hO3
      clear hgrow3 hnil3 hown'
      refine ⟨⟨j + 1, l + 1, L ++ [(z : Int)], some ⟨g3, 0, none⟩, cap3, by omega, by omega, by go_num, rfl, by rw [Hid, HLJ.out]; omega, by rw [Hid, List.length_append, HK.out]; rfl, HU.out.snoc (by omega) (by omega), HV', hO4, hb3⟩, by simp [intOf]; omega⟩
    ·have HJ : Hid (j = len) := by rw [Hid]; omega
     have hOL : Own w.heap.size wr ao cp L := by unfold Own; rw [HK.out]; exact hown
     have hI := hOL.isW' HU.out HK.out
     have NC : Hid _ := nNorm_calls ao l cp L wr hI (by omega)
     have HE : Hid (val L = val xs / 2 ^ m) := val_of_words L _ (by rw [HK.out, HLJ.out, HJ.out]; exact HFIT.out) (fun i hi => HV.out i (by rw [HK.out] at hi; exact hi))
     rw [HE.out] at NC
     have hyc2 : wr.cell? ⟨b, off + sk, none⟩ = some (.int .u64 (ys : Int)) := (hbr.cell (p := ⟨b, off + sk, none⟩) hbl).trans hyc
     clear hOL hI hown
     by_cases hs0 : m % 64 = 0
     ·have q8 : ¬ (0 : Int) < (m : Int) % 64 := by omega
      have HLF : Hid (lostB (val xs) m = bl) := by rw [Hid, HLO.out, HZS.out hs0, HB2.out]; simp
      clear hs0
      go_wp2_with fail
      refine cM NC.out ?_
      rintro e w4 ⟨ao4, cv4, rfl, hO4, hb4⟩
      obtain ⟨n4, hn4⟩ : ∃ n, n = (wO (val xs / 2 ^ m)).length := ⟨_, rfl⟩
      rw [← hn4]
      have HA : Hid _ := natAt_own hO4 hn4.symm
      clear hn4 hO4
      go_wp2_with fail
      go_ret2
      rw [HLF.out]
      exact ⟨_, rfl, NatAt.low HA.out hsize, nT hbr hb4⟩
     ·have q8 : (0 : Int) < (m : Int) % 64 := by omega
      clear hs0
      cases bl with
      | true =>
       have HLF : Hid (lostB (val xs) m = true) := by rw [Hid, HLO.out, ← HB2.out]; rfl
       go_wp2_with fail
       refine cM NC.out ?_
       rintro e w4 ⟨ao4, cv4, rfl, hO4, hb4⟩
       obtain ⟨n4, hn4⟩ : ∃ n, n = (wO (val xs / 2 ^ m)).length := ⟨_, rfl⟩
       rw [← hn4]
       have HA : Hid _ := natAt_own hO4 hn4.symm
       clear hn4 hO4
       go_wp2_with fail
       go_ret2
       rw [HLF.out]
       exact ⟨_, rfl, NatAt.low HA.out hsize, nT hbr hb4⟩
      | false =>
       have HLF : Hid (lostB (val xs) m = ((zs : Int) != 0)) := by
        rw [Hid, HLO.out, ← HB2.out, Bool.false_or, Bool.eq_iff_iff]; simp
       go_wp2_with fail
       refine cM NC.out ?_
       rintro e w4 ⟨ao4, cv4, rfl, hO4, hb4⟩
       obtain ⟨n4, hn4⟩ : ∃ n, n = (wO (val xs / 2 ^ m)).length := ⟨_, rfl⟩
       rw [← hn4]
       have HA : Hid _ := natAt_own hO4 hn4.symm
       clear hn4 hO4
       go_wp2_with fail
       go_ret2
       rw [HLF.out]
       exact ⟨_, rfl, NatAt.low HA.out hsize, nT hbr hb4⟩
theorem nShr_calls (a : Option Addr) (len cap m : Nat) (xs : List Int) (w : World) (h : IsW w a len cap xs) (hm : m ≤ 9223372036854775807) (hl : len ≤ 17592186044000) :
  Calls Tryz.prog 110 #[.slice a len cap, .int .i64 (m : Int)] w fun e w' => ∃ v, e = .returned (.tuple #[v, .bool (lostB (val xs) m)]) ∧ NatAt w.heap.size w' v (val xs / 2 ^ m) ∧ Below w.heap.size w w' := by
 by_cases hc : 64 * len ≤ m
 ·exact nShr_all a len cap m xs w h hl hc
 ·exact nShr_part a len cap m xs w h hm hl (by omega)
end Go.Proofs.YtahpdcbmekgkfaaGreatDoor

namespace Go.Proofs.YtahpdcbmekgkfaaGreatDoor
open Go.RowKit
set_option maxHeartbeats 2000000
set_option maxRecDepth 100000
def DyQ (B : Nat) (w : World) (v : Value) (p : Bool × Nat × Int) : Prop := ∃ (ao : Option Addr) (n c : Nat), v = dyV p.1 ao n c p.2.2 ∧ Hid (n = (wO p.2.1).length) ∧ OwnW B w ao n c (wO p.2.1)
theorem DyAt.q {B : Nat} {w : World} {v : Value} {p : Bool × Nat × Int} (h : DyAt B w v p) : DyQ B w v p := by
 obtain ⟨ao, n, c, h1, h2, -, h4⟩ := h
 exact ⟨ao, n, c, h1, h2, h4⟩
theorem DyQ.keep {B : Nat} {w w' : World} {v : Value} {p : Bool × Nat × Int} (h : DyQ B w v p) (hb : Below w.heap.size w w') : DyQ B w' v p := by
 obtain ⟨ao, n, c, h1, h2, h3⟩ := h
 exact ⟨ao, n, c, h1, h2, h3.keep hb⟩
theorem DyQ.low {B B' : Nat} {w : World} {v : Value} {p : Bool × Nat × Int} (h : DyQ B w v p) (hB : B' ≤ B) : DyQ B' w v p := by
 obtain ⟨ao, n, c, h1, h2, h3⟩ := h
 exact ⟨ao, n, c, h1, h2, h3.low hB⟩
theorem dyQ_zero (B : Nat) (w : World) : DyQ B w (dyV false none 0 0 0) (false, 0, 0) := (dyAt_zero B w).q
theorem qForm_calls (s : Bool) (a : Option Addr) (len cap : Nat) (xs : List Int) (e : Int) (w : World) (h : IsW w a len cap xs) (hm : len ≤ 17592186044000) (he : -4611686018427387904 ≤ e ∧ e ≤ 4611686018427387904) :
  Calls Tryz.prog 70 #[.bool s, .slice a len cap, .int .i64 e] w fun r w' => ∃ v, r = .returned v ∧ DyQ w.heap.size w' v (formD s (val xs) e) ∧ Below w.heap.size w w' := by
 have hb0 := below_one w (.cells #[.bool false, .slice none 0 0, .int .i64 0] 25)
 have HN : Hid _ := nNorm_calls a len cap xs _ (h.keep hb0) (by omega)
 obtain ⟨he1, he2⟩ := he
 have hwl : (wO (val xs)).length ≤ 17592186044000 := by have := size_words xs h.2.1; have := size_le xs; have := h.1; omega
 by_cases h0 : val xs = 0
 ·rw [h0, form_zero]
  rw [h0, words_zero] at HN
  clear h0
  go_enter Tryz.func70, Tryz.ntmps70
  go_wp2_with fail
  refine cM HN.out ?_
  rintro r w1 ⟨ao, cv, rfl, hO, hb1⟩
  obtain ⟨m0, m1, m2, f0, f1, f2⟩ := zero_dy (r := w.heap.size) hb1 rfl
  have hb01 := nT hb0 hb1
  clear hb1
  go_wp2_with fail
  refine bodyPost_ret (v := dyV false none 0 0 0) (by simp [results, Tryz.results70, go_sem, m0, m1, m2]) rfl ⟨_, rfl, dyQ_zero _ _, ?_⟩
  exact ((hb01.setCell (Nat.le_refl _) _).setCell (Nat.le_refl _) _).setCell (Nat.le_refl _) _
 ·have HF : Hid _ := form_pos s h0 e
  have HO : Hid _ := odd_part h0
  have HW : Hid (wO (val xs) ≠ []) := fun q => h0 ((words_nil _).1 q)
  have hz := tz_le_blen (val xs)
  have hbl := blen_words_le xs h.2.1
  have hlx := h.1
  have hzb : tz (val xs) ≤ 1125899906840000 := by omega
  clear hz hbl hlx h0
  obtain ⟨n0, hn0⟩ : ∃ n0, n0 = (wO (val xs)).length := ⟨_, rfl⟩
  have HN0 : Hid (n0 = (wO (val xs)).length) := hn0
  have hne : ((n0 : Int) == 0) = false := by
   have : n0 ≠ 0 := fun q => HW.out (List.length_eq_zero_iff.1 (by rw [← hn0]; exact q))
   simp; omega
  rw [← hn0] at HN hwl
  clear hn0
  obtain ⟨t, ht⟩ : ∃ t, t = tz (val xs) := ⟨_, rfl⟩
  have HT : Hid (t = tz (val xs)) := ht
  rw [← ht] at hzb
  clear ht
  go_enter Tryz.func70, Tryz.ntmps70
  go_wp2_with fail
  refine cM HN.out ?_
  rintro r w1 ⟨ao, cv, rfl, hO, hb1⟩
  have hI : IsW w1 ao n0 cv (wO (val xs)) := by
   have := hO.isW (words_U _)
   rw [← HN0.out] at this; exact this
  have hb01 := nT hb0 hb1
  go_wp2_with fail
  refine cM (nLow_calls ao n0 cv _ w1 hI (by omega)) ?_
  rw [val_words, ← HT.out]
  rintro r w2 ⟨rfl, hb2⟩
  have hI2 := hI.keep hb2
  go_wp2_with fail
  refine cM (nShr_calls ao n0 cv t _ w2 hI2 (by omega) (by omega)) ?_
  rw [val_words, HT.out]
  rintro r w3 ⟨_, rfl, ⟨a3, n3, c3, rfl, hn3, hO3⟩, hb3⟩
  have HN3 : Hid (n3 = (wO (val xs / 2 ^ tz (val xs))).length) := hn3
  rw [← HT.out]
  have hb13 := nT hb1 (nT hb2 hb3)
  obtain ⟨m0, m1, m2, f0, f1, f2⟩ := zero_dy (r := w.heap.size) hb13 rfl
  have hb03 := nT hb0 hb13
  have hws : w.heap.size + 1 ≤ w2.heap.size := by have := (nT hb1 hb2).size; simp at this; omega
  clear hb1 hb2 hb3 hb01 hn3 hO hb13
  go_wp2_with fail
  refine bodyPost_ret (v := dyV s a3 n3 c3 (e + (t : Int))) (by simp [results, Tryz.results70, go_sem, m0, m1, m2]) rfl ⟨_, rfl, ?_, ?_⟩
  ·rw [HF.out]
   refine ⟨a3, n3, c3, by rw [HT.out], HN3, ?_⟩
   exact (((hO3.far _ _ (by show w.heap.size < _; omega)).far _ _ (by show w.heap.size < _; omega)).far _ _ (by show w.heap.size < _; omega)).low (by omega)
  ·exact ((hb03.setCell (Nat.le_refl _) _).setCell (Nat.le_refl _) _).setCell (Nat.le_refl _) _
theorem qOne_calls (s : Bool) (a : Option Addr) (len cap : Nat) (xs : List Int) (e : Int) (w : World) (h : IsW w a len cap xs) (hm : len ≤ 17592186044000) (he : -4611686018427387904 ≤ e ∧ e ≤ 4611686018427387904) :
  Calls Tryz.prog 68 #[dyV s a len cap e] w fun r w' => ∃ v, r = .returned v ∧ DyQ w.heap.size w' v (formD s (val xs) e) ∧ Below w.heap.size w w' := by
 have hb0 : Below w.heap.size w ((w.alloc (.cells #[.bool s, .slice a len cap, .int .i64 e] 25)).alloc (.cells #[.bool false, .slice none 0 0, .int .i64 0] 25)) := nT (below_one _ _) (below_one _ _)
 have HF : Hid _ := qForm_calls s a len cap xs e _ (h.keep hb0) hm he
 clear he
 go_enter Tryz.func68, Tryz.ntmps68
 go_wp2_with fail
 refine cM HF.out ?_
 rintro r w1 ⟨_, rfl, ⟨a1, n1, c1, rfl, HN1, hO1⟩, hb1⟩
 obtain ⟨m0, m1, m2, f0, f1, f2⟩ := zero_dy (r := w.heap.size + 1) hb1 (by simp)
 have hb01 := nT hb0 hb1
 have hws : w.heap.size + 2 ≤ w1.heap.size := by have := hb1.size; simp at this; omega
 clear hb1
 go_wp2_with fail
 refine bodyPost_ret (v := dyV (formD s (val xs) e).1 a1 n1 c1 (formD s (val xs) e).2.2) (by simp [results, Tryz.results68, go_sem, m0, m1, m2]) rfl ⟨_, rfl, ⟨a1, n1, c1, rfl, HN1, ?_⟩, ?_⟩
 ·exact (((hO1.far _ _ (by simp)).far _ _ (by simp)).far _ _ (by simp)).low (by simp; omega)
 ·exact ((hb01.setCell (le1 _) _).setCell (le1 _) _).setCell (le1 _) _
theorem qRight_calls (s : Bool) (a : Option Addr) (len cap : Nat) (xs : List Int) (e : Int) (w : World) (h : IsW w a len cap xs) (hm : len ≤ 17592186044416) :
  Calls Tryz.prog 30 #[dyV s a len cap e] w fun r w' => r = .returned (.bool (rightB (val xs) e)) ∧ Below w.heap.size w w' := by
 have hb0 := below_one w (.cells #[.bool s, .slice a len cap, .int .i64 e] 25)
 have HG : Hid _ := nGreat_calls a len cap xs _ (h.keep hb0) hm
 have HR : Hid (rightB (val xs) e = (!decide (1024 < (wO (val xs)).length) && inB e)) := rfl
 generalize decide (1024 < (wO (val xs)).length) = g at *
 have HI : Hid (inB e = decide (-32768 ≤ e ∧ e ≤ 32768)) := rfl
 cases g with
 | true =>
  go_enter Tryz.func30, Tryz.ntmps30
  go_wp2_with fail
  refine cM HG.out ?_
  rintro r w1 ⟨rfl, rfl⟩
  go_wp2_with fail
  go_ret
  rw [HR.out]
  exact ⟨rfl, hb0⟩
 | false =>
  by_cases h1 : -32768 ≤ e
  ·by_cases h2 : e ≤ 32768
   ·go_enter Tryz.func30, Tryz.ntmps30
    go_wp2_with fail
    refine cM HG.out ?_
    rintro r w1 ⟨rfl, rfl⟩
    go_wp2_with fail
    go_ret
    rw [HR.out, HI.out, decide_eq_true (And.intro h1 h2)]
    exact ⟨rfl, hb0⟩
   ·go_enter Tryz.func30, Tryz.ntmps30
    go_wp2_with fail
    refine cM HG.out ?_
    rintro r w1 ⟨rfl, rfl⟩
    go_wp2_with fail
    go_ret
    rw [HR.out, HI.out, decide_eq_false (fun q : -32768 ≤ e ∧ e ≤ 32768 => by omega)]
    first | exact ⟨rfl, hb0⟩ | exact ⟨nret_bool (decide_eq_false (by omega)), hb0⟩
  ·go_enter Tryz.func30, Tryz.ntmps30
   go_wp2_with fail
   refine cM HG.out ?_
   rintro r w1 ⟨rfl, rfl⟩
   go_wp2_with fail
   go_ret
   rw [HR.out, HI.out, decide_eq_false (fun q : -32768 ≤ e ∧ e ≤ 32768 => by omega)]
   first | exact ⟨rfl, hb0⟩ | exact ⟨nret_bool (decide_eq_false (by omega)), hb0⟩
theorem qZero_calls (s : Bool) (a : Option Addr) (len cap : Nat) (xs : List Int) (e : Int) (w : World) (h : IsW w a len cap xs) (hm : len ≤ 17592186044416) :
  Calls Tryz.prog 32 #[dyV s a len cap e] w fun r w' => r = .returned (.bool (decide (val xs = 0))) ∧ Below w.heap.size w w' := by
 have hb0 := below_one w (.cells #[.bool s, .slice a len cap, .int .i64 e] 25)
 have HN : Hid _ := nNorm_calls a len cap xs _ (h.keep hb0) hm
 have HZ : Hid (((((wO (val xs)).length : Nat) : Int) == 0) = decide (val xs = 0)) := by
  rw [Hid, Bool.eq_iff_iff]
  simp only [beq_iff_eq, decide_eq_true_eq]
  rw [Int.natCast_eq_zero, List.length_eq_zero_iff, words_nil]
 generalize decide (val xs = 0) = z at *
 generalize (wO (val xs)).length = n at *
 go_enter Tryz.func32, Tryz.ntmps32
 go_wp2_with fail
 refine cM HN.out ?_
 rintro r w1 ⟨ao, cv, rfl, hO, hb1⟩
 have hb01 := nT hb0 hb1
 clear hb1 hO
 go_wp2_with fail
 go_ret
 exact ⟨nret_bool HZ.out, hb01⟩
end Go.Proofs.YtahpdcbmekgkfaaGreatDoor

namespace Go.Proofs.YtahpdcbmekgkfaaGreatDoor
open Go.RowKit
set_option maxHeartbeats 4000000
set_option maxRecDepth 100000
def negD (p : Bool × Nat × Int) : Bool × Nat × Int := (!p.1 && !decide (p.2.1 = 0), p.2.1, p.2.2)
theorem neg_sign {p : Bool × Nat × Int} {n : Nat} (h : n = (wO p.2.1).length) : (!p.1 && !((n : Int) == 0)) = (negD p).1 := by
 have h1 : ((n : Int) == 0) = decide (p.2.1 = 0) := by
  rw [Bool.eq_iff_iff]
  simp only [beq_iff_eq, decide_eq_true_eq]
  rw [h, Int.natCast_eq_zero, List.length_eq_zero_iff, words_nil]
 unfold negD
 rw [h1]
attribute [local go_sem ↓] Go.wp_at_zero Go.wp_at_succ
theorem canon_not (s : Bool) (a : Option Addr) (len cap : Nat) (xs : List Int) (e : Int) (w : World) (h : IsW w a len cap xs) (hm : len ≤ 17592186044416) (hT : Tab w) (hr : rightB (val xs) e = false) :
  Calls Tryz.prog 88 #[dyV s a len cap e] w fun r w' => r = .returned (.tuple #[dyV false none 0 0 0, .int .i64 2]) ∧ Below w.heap.size w w' := by
 have hmf : ∀ (fn : Fn) (first cap : Array Value) (w : World), (Instr.makeFunc fn first cap).run Tryz.prog w = .ok (.func fn first cap) w := fun _ _ _ _ => rfl
 have HRB : Hid (rightB (val xs) e = false) := hr
 clear hr
 go_enter Tryz.func88, Tryz.ntmps88
 go_wp2_with fail
 go_region_held3 (fun w' => w'.cell? ⟨w.heap.size, 0, none⟩ = some (.bool s) ∧ w'.cell? ⟨w.heap.size, 1, none⟩ = some (.slice a len cap) ∧ w'.cell? ⟨w.heap.size, 2, none⟩ = some (.int .i64 e))
  (first | (go_keep; done) | ((refine ⟨?_, ?_, ?_⟩ <;> (refine kC hbM ?_; go_keep)); done) | ((refine ⟨?_, ?_, ?_⟩ <;> (refine kC hbC ?_; go_simp)); done))
  (first
   | (go_at_call 123; refine (canonical_calls s a len cap xs e _ (h.keep (by repeat (first | exact Below.refl _ _ | apply Below.drew | refine Below.alloc ?_ (by simp; try omega) _))) hm (hT.kept (by repeat (first | exact Below.refl _ _ | apply Below.drew | refine Below.alloc ?_ (by simp; try omega) _)))).mono ?_; rintro r w1 ⟨ao, n, c, e', rfl, HE, HN, HZ, hn, hO, hbC⟩; have hbw1 : Below w.heap.size w w1 := nT (by repeat (first | exact Below.refl _ _ | apply Below.drew | refine Below.alloc ?_ (by simp; try omega) _)) hbC; have hbz1 : Below ((w.alloc (.cells #[.bool s, .slice a len cap, .int .i64 e] 25)).alloc (.cells #[.bool false, .slice none 0 0, .int .i64 0] 25)).heap.size ((w.alloc (.cells #[.bool s, .slice a len cap, .int .i64 e] 25)).alloc (.cells #[.bool false, .slice none 0 0, .int .i64 0] 25)) w1 := nT (by repeat (first | exact Below.refl _ _ | apply Below.drew | refine Below.alloc ?_ (by simp; try omega) _)) hbC)
   | (go_at_call 122; refine (made_not _ _ _ (fun W hW => HRB.out ▸ right1_calls _ s a len cap xs e W (h.keep (nT (by repeat (first | exact hbw1 | apply Below.drew | refine Below.alloc ?_ (by have := hbw1.size; simp at this ⊢; omega) _)) hW)) hm (kC hW (by first | (go_simp; done) | (refine kC hbC ?_; go_simp; done))) (kC hW (by first | (go_simp; done) | (refine kC hbC ?_; go_simp; done))) (kC hW (by first | (go_simp; done) | (refine kC hbC ?_; go_simp; done))))).mono ?_; rintro r w2 ⟨rfl, hbM⟩; obtain ⟨m0, m1, m2, f0, f1, f2⟩ := zero_dy (r := w.heap.size + 1) (w := w.alloc (.cells #[.bool s, .slice a len cap, .int .i64 e] 25)) (W' := w2) (nT (by repeat (first | exact hbz1 | apply Below.drew | refine Below.alloc ?_ (by have := hbz1.size; simp at this ⊢; omega) _)) hbM) (by simp); have hbw2 : Below w.heap.size w w2 := nT (by repeat (first | exact hbw1 | apply Below.drew | refine Below.alloc ?_ (by have := hbw1.size; simp at this ⊢; omega) _)) hbM))
 all_goals
  go_wp2_with fail
  refine bodyPost_ret (v := .tuple #[dyV false none 0 0 0, .int .i64 2]) (by simp [results, Tryz.results88, go_sem, m0, m1, m2]) rfl ⟨rfl, ?_⟩
  exact ((hbw2.setCell (le1 _) _).setCell (le1 _) _).setCell (le1 _) _
theorem canon_yes (s : Bool) (a : Option Addr) (len cap : Nat) (xs : List Int) (e : Int) (w : World) (h : IsW w a len cap xs) (hm : len ≤ 17592186044416) (hT : Tab w) (hr : rightB (val xs) e = true) :
  Calls Tryz.prog 88 #[dyV s a len cap e] w fun r w' => ∃ v', r = .returned (.tuple #[v', .int .i64 (roomE (formD s (val xs) e))]) ∧ DyAt w.heap.size w' v' (roomP (formD s (val xs) e)) ∧ Below w.heap.size w w' := by
 have hmf : ∀ (fn : Fn) (first cap : Array Value) (w : World), (Instr.makeFunc fn first cap).run Tryz.prog w = .ok (.func fn first cap) w := fun _ _ _ _ => rfl
 have HRB : Hid (rightB (val xs) e = true) := hr
 have HCG : Hid (canG s (val xs) e = formD s (val xs) e) := canG_no (rightB_yes hr).1
 have HEB : Hid (-4611686018427387904 ≤ e ∧ e ≤ 4611686018427387904) := by have := (rightB_yes hr).2; rw [Hid]; omega
 have HGR : Hid (greatB (formD s (val xs) e).2.1 = false) := great_mono (form_amount_le _ _ _) (rightB_yes hr).1
 clear hr
 go_enter Tryz.func88, Tryz.ntmps88
 go_wp2_with fail
 go_region_held3 (fun w' => w'.cell? ⟨w.heap.size, 0, none⟩ = some (.bool s) ∧ w'.cell? ⟨w.heap.size, 1, none⟩ = some (.slice a len cap) ∧ w'.cell? ⟨w.heap.size, 2, none⟩ = some (.int .i64 e))
  (first | (go_keep; done) | ((refine ⟨?_, ?_, ?_⟩ <;> (refine kC hbM ?_; go_keep)); done) | ((refine ⟨?_, ?_, ?_⟩ <;> (refine kC hbC ?_; go_simp)); done))
  (first
   | (go_at_call 123; refine (canonical_calls s a len cap xs e _ (h.keep (by repeat (first | exact Below.refl _ _ | apply Below.drew | refine Below.alloc ?_ (by simp; try omega) _))) hm (hT.kept (by repeat (first | exact Below.refl _ _ | apply Below.drew | refine Below.alloc ?_ (by simp; try omega) _)))).mono ?_; rintro r w1 ⟨ao, n, c, e', rfl, HE, HN, HZ, hn, hO, hbC⟩; have hbw1 : Below w.heap.size w w1 := nT (by repeat (first | exact Below.refl _ _ | apply Below.drew | refine Below.alloc ?_ (by simp; try omega) _)) hbC; have hbz1 : Below ((w.alloc (.cells #[.bool s, .slice a len cap, .int .i64 e] 25)).alloc (.cells #[.bool false, .slice none 0 0, .int .i64 0] 25)).heap.size ((w.alloc (.cells #[.bool s, .slice a len cap, .int .i64 e] 25)).alloc (.cells #[.bool false, .slice none 0 0, .int .i64 0] 25)) w1 := nT (by repeat (first | exact Below.refl _ _ | apply Below.drew | refine Below.alloc ?_ (by simp; try omega) _)) hbC; obtain rfl := HE.out HEB.out.1 HEB.out.2; rw [HCG.out] at hO HN ⊢; clear HE)
   | (go_at_call 122; refine (made_itself _ _ _ _ _ _ _ (formD s (val xs) e) _ _ (fun W hW => HRB.out ▸ right1_calls _ s a len cap xs e W (h.keep (nT (by repeat (first | exact hbw1 | apply Below.drew | refine Below.alloc ?_ (by have := hbw1.size; simp at this ⊢; omega) _)) hW)) hm (kC hW (by first | (go_simp; done) | (refine kC hbC ?_; go_simp; done))) (kC hW (by first | (go_simp; done) | (refine kC hbC ?_; go_simp; done))) (kC hW (by first | (go_simp; done) | (refine kC hbC ?_; go_simp; done)))) (fun W hW => Calls.mono (itself_calls _ _ _ _ _ _ _) (by
     rintro r w5 ⟨rfl, hb5⟩
     exact ⟨_, rfl, Or.inl ⟨HGR.out, ⟨ao, n, c, rfl, HN, HZ, hn, (hO.keep (nT (by repeat (first | exact Below.refl _ _ | apply Below.drew | refine Below.alloc ?_ (by simp; try omega) _)) hW)).keep hb5⟩⟩, hb5⟩))).mono ?_; rintro r w2 ⟨v', rfl, ⟨a2, n2, c2, rfl, HN2, hn2, hO2⟩, hbM⟩; obtain ⟨m0, m1, m2, f0, f1, f2⟩ := zero_dy (r := w.heap.size + 1) (w := w.alloc (.cells #[.bool s, .slice a len cap, .int .i64 e] 25)) (W' := w2) (nT (by repeat (first | exact hbz1 | apply Below.drew | refine Below.alloc ?_ (by have := hbz1.size; simp at this ⊢; omega) _)) hbM) (by simp); have hbw2 : Below w.heap.size w w2 := nT (by repeat (first | exact hbw1 | apply Below.drew | refine Below.alloc ?_ (by have := hbw1.size; simp at this ⊢; omega) _)) hbM))
 all_goals
  go_wp2_with fail
  refine bodyPost_ret (v := .tuple #[dyV (roomP (formD s (val xs) e)).1 a2 n2 c2 (roomP (formD s (val xs) e)).2.2, .int .i64 (roomE (formD s (val xs) e))]) (by simp [results, Tryz.results88, go_sem, m0, m1, m2]) rfl ⟨_, rfl, ⟨a2, n2, c2, rfl, HN2, hn2, (((hO2.far _ _ (by show w.heap.size + 1 < _; have := hbz1.size; simp at this ⊢; omega)).far _ _ (by show w.heap.size + 1 < _; have := hbz1.size; simp at this ⊢; omega)).far _ _ (by show w.heap.size + 1 < _; have := hbz1.size; simp at this ⊢; omega)).low (by have := hbw1.size; simp; omega)⟩, ?_⟩
  exact ((hbw2.setCell (le1 _) _).setCell (le1 _) _).setCell (le1 _) _
end Go.Proofs.YtahpdcbmekgkfaaGreatDoor

namespace Go.Proofs.YtahpdcbmekgkfaaGreatDoor
open Go.RowKit
def canE (s : Bool) (m : Nat) (e : Int) : Int := if rightB m e = true then roomE (formD s m e) else 2
def canP (s : Bool) (m : Nat) (e : Int) : Bool × Nat × Int := if rightB m e = true then roomP (formD s m e) else (false, 0, 0)
theorem canE_yes {s : Bool} {m : Nat} {e : Int} (h : rightB m e = true) : canE s m e = roomE (formD s m e) ∧ canP s m e = roomP (formD s m e) := by unfold canE canP; rw [if_pos h, if_pos h]; exact ⟨rfl, rfl⟩
theorem canE_not {s : Bool} {m : Nat} {e : Int} (h : rightB m e = false) : canE s m e = 2 ∧ canP s m e = (false, 0, 0) := by unfold canE canP; rw [if_neg (by rw [h]; decide), if_neg (by rw [h]; decide)]; exact ⟨rfl, rfl⟩
theorem words_len_mono {m n : Nat} (h : m ≤ n) : (wO m).length ≤ (wO n).length := (words_len _ m).2 (Nat.lt_of_le_of_lt h ((words_len _ n).1 (Nat.le_refl _)))
set_option maxRecDepth 100000 in
set_option maxHeartbeats 1000000 in
theorem pCanon_calls (s : Bool) (a : Option Addr) (len cap : Nat) (xs : List Int) (e : Int) (w : World) (h : IsW w a len cap xs) (hm : len ≤ 17592186044416) (hT : Tab w) :
  Calls Tryz.prog 88 #[dyV s a len cap e] w fun r w' => ∃ v', r = .returned (.tuple #[v', .int .i64 (canE s (val xs) e)]) ∧ DyAt w.heap.size w' v' (canP s (val xs) e) ∧ Below w.heap.size w w' := by
 cases hr : rightB (val xs) e with
 | false =>
  obtain ⟨e1, e2⟩ := canE_not (s := s) hr
  rw [e1, e2]
  refine (canon_not s a len cap xs e w h hm hT hr).mono ?_
  rintro r w' ⟨rfl, hb⟩
  exact ⟨_, rfl, dyAt_zero _ _, hb⟩
 | true =>
  obtain ⟨e1, e2⟩ := canE_yes (s := s) hr
  rw [e1, e2]
  exact canon_yes s a len cap xs e w h hm hT hr
end Go.Proofs.YtahpdcbmekgkfaaGreatDoor

namespace Go.Proofs.YtahpdcbmekgkfaaGreatDoor
open Go.RowKit
set_option maxHeartbeats 1000000
set_option maxRecDepth 100000
def sameB (s : Bool) (e : Int) (xs : List Int) (s' : Bool) (e' : Int) (ys : List Int) : Bool := decide (s = s' ∧ e = e' ∧ xs = ys)
theorem qSame_calls (s : Bool) (a : Option Addr) (len cap : Nat) (xs : List Int) (e : Int) (s' : Bool) (a' : Option Addr) (len' cap' : Nat) (ys : List Int) (e' : Int) (w : World) (h : IsW w a len cap xs) (hm : len ≤ 17592186044416) (h' : IsW w a' len' cap' ys) (hm' : len' ≤ 17592186044416) :
  Calls Tryz.prog 46 #[dyV s a len cap e, dyV s' a' len' cap' e'] w fun r w' => r = .returned (.bool (sameB s e xs s' e' ys)) ∧ Below w.heap.size w w' := by
 have hb0 : Below w.heap.size w ((w.alloc (.cells #[.bool s, .slice a len cap, .int .i64 e] 25)).alloc (.cells #[.bool s', .slice a' len' cap', .int .i64 e'] 25)) := nT (below_one _ _) (below_one _ _)
 have HS : Hid _ := nSame_calls a a' len cap len' cap' xs ys _ (h.keep hb0) (h'.keep hb0) hm hm'
 clear h h' hm hm'
 by_cases h1 : s = s'
 ·subst h1
  have q1 : (s == s) = true := by cases s <;> rfl
  by_cases h2 : e = e'
  ·subst h2
   have HD : Hid (sameB s e xs s e ys = decide (xs = ys)) := by rw [Hid, sameB]; exact decide_eq_decide.2 ⟨fun q => q.2.2, fun q => ⟨rfl, rfl, q⟩⟩
   generalize decide (xs = ys) = r at *
   go_enter Tryz.func46, Tryz.ntmps46
   go_wp2_with fail
   refine Calls.mono HS.out ?_
   rintro r w1 ⟨rfl, hb1⟩
   go_wp2_with fail
   go_ret
   exact ⟨nret_bool HD.out.symm, nT hb0 hb1⟩
  ·have HD : Hid (sameB s e xs s e' ys = false) := decide_eq_false (fun q => h2 q.2.1)
   have q2 : (e == e') = false := by simpa using h2
   clear h2
   go_enter Tryz.func46, Tryz.ntmps46
   go_wp2_with fail
   go_ret
   exact ⟨nret_bool HD.out.symm, hb0⟩
 ·have HD : Hid (sameB s e xs s' e' ys = false) := decide_eq_false (fun q => h1 q.1)
  have q1 : (s == s') = false := by simpa using h1
  clear h1
  go_enter Tryz.func46, Tryz.ntmps46
  go_wp2_with fail
  go_ret
  exact ⟨nret_bool HD.out.symm, hb0⟩
theorem ownN_lit (w : World) (k : Nat) (hk : k = w.heap.size) : Own k (w.alloc (.cells #[] 53)) (some ⟨k, 0, none⟩) 0 [] := by
 subst hk
 exact ⟨rfl, Or.inr ⟨w.heap.size, 0, #[], rfl, Nat.le_refl _, heap_alloc_new _ _, Nat.le_refl _, by unfold maxLen; omega, rfl, rfl⟩⟩
theorem isW_news' {w : World} {ad : Addr} {n c : Nat} {xs : List Int} (h : IsW w (some ad) n c xs) : ∀ j u, (xs.map (Value.int .u64))[j]? = some u → w.cell? (ad.add j) = some u := isW_news h
theorem appN_new {w : World} {ops : Array Oper} {rest : List Oper} {o : Oper} {act : Act} {Q : Exit → Act → World → Prop} (hgd : o.guard = none) (s x : Operand)
  (ho : o.op = .call { callee := .builtin .append, args := #[s, x], argTypes := #[23, 23] })
  (k : Nat) (w0 : World) (hw : w = w0.alloc (.cells #[] 53)) (hk : k = w0.heap.size) (hs : act.eval s = .slice (some ⟨k, 0, none⟩) 0 0)
  (bo : Option Addr) (m c : Nat) (ys : List Int) (hx : act.eval x = .slice bo m c) (hF : IsW w0 bo m c ys) (hm : m ≤ 17592186044416)
  (h : ∀ a' cv' w', OwnW w0.heap.size w' a' m cv' ys → Below w0.heap.size w0 w' → wpList Tryz.prog ops Q rest (act.put o.dst (.slice a' m cv')) w') : wpList Tryz.prog ops Q (o :: rest) act w := by
 subst hw
 obtain ⟨i0, hi, hz0, hz1, hz2⟩ := info_parts word_info
 have hown : (w0.alloc (.cells #[] 53)).ownsRow w0.heap.size 53 1 (.slice (some ⟨k, 0, none⟩) 0 0) 0 [] := by rw [hk]; exact ownN_lit w0 _ rfl
 cases bo with
 | none =>
  have hc0 := hF.2.2.1.2 rfl
  have hm0 : m = 0 := by have := hF.2.2.1.1; omega
  have hy : ys = [] := List.length_eq_zero_iff.1 (by rw [← hF.1]; exact hm0)
  subst hc0 hm0 hy
  refine wpList_append_own_none hgd s x _ ho w0.heap.size 53 i0 1 Tryz.underlying23 hi _ _ _ hs hown hx ?_
  exact h _ _ _ (Own.ownW (L := []) (by rw [hk]; exact ownN_lit w0 _ rfl) (fun x hx => by cases hx) rfl) (below_one _ _)
 | some ad =>
  refine wpList_append_own _ hgd s x _ ho w0.heap.size 53 i0 (.int .u64 0) 1 8 Tryz.underlying23 hi hz0 hz1 hz2 rfl (by decide) _ _ _ hs hown ad m c (ys.map (Value.int .u64)) hx (by rw [List.length_map, ← hF.1, Nat.mul_one]) (isW_news' (hF.keep (below_one _ _))) (fun u hu => by simp only [List.mem_map] at hu; obtain ⟨y, _, rfl⟩ := hu; rfl) (by unfold maxLen; omega) (by omega) (by simp) ?_
  intro v' w' hown' hgrow _
  have hb : Below w0.heap.size w0 w' := (below_one w0 _).trans ((Below.refl _ _).grown hgrow (by simp) (fun q hq => (hown.lt q hq).1))
  obtain ⟨a', cv', hv⟩ : ∃ a' cv', v' = .slice a' m cv' := by
   rcases hown'.2 with ⟨e1, e2⟩ | ⟨g, cap, _, e1, _⟩
   ·exact ⟨none, 0, by rw [e1, show m = 0 by omega]⟩
   ·exact ⟨_, cap, by rw [e1, Nat.zero_add]⟩
  subst hv
  have hO : Own w0.heap.size w' a' cv' ys := by
   unfold Own
   rw [← hF.1]
   rw [Nat.zero_add, List.nil_append] at hown'
   exact hown'
  exact h a' cv' w' (hO.ownW hF.2.1 hF.1.symm) hb
theorem qCopy_calls (s : Bool) (a : Option Addr) (len cap : Nat) (xs : List Int) (e : Int) (w : World) (h : IsW w a len cap xs) (hm : len ≤ 17592186044416) :
  Calls Tryz.prog 83 #[dyV s a len cap e] w fun r w' => ∃ (ao : Option Addr) (c' : Nat), r = .returned (dyV s ao len c' e) ∧ OwnW w.heap.size w' ao len c' xs ∧ Below w.heap.size w w' := by
 have hb0 : Below w.heap.size w ((w.alloc (.cells #[.bool s, .slice a len cap, .int .i64 e] 25)).alloc (.cells #[.bool false, .slice none 0 0, .int .i64 0] 25)) := nT (below_one _ _) (below_one _ _)
 go_enter Tryz.func83, Tryz.ntmps83
 go_wp2_with (at_builtin; refine appN_new rfl _ _ rfl _ ((w.alloc (.cells #[.bool s, .slice a len cap, .int .i64 e] 25)).alloc (.cells #[.bool false, .slice none 0 0, .int .i64 0] 25)) rfl (by simp) rfl a len cap xs rfl (h.keep hb0) hm ?_; intro a3 c3 w3 hO3 hb3; obtain ⟨m0, m1, m2, f0, f1, f2⟩ := zero_dy (r := w.heap.size + 1) hb3 (by simp); have k0 : w3.cell? ⟨w.heap.size, 0, none⟩ = some (.bool s) := kC hb3 (by go_simp); have k1 : w3.cell? ⟨w.heap.size, 1, none⟩ = some (.slice a len cap) := kC hb3 (by go_simp); have k2 : w3.cell? ⟨w.heap.size, 2, none⟩ = some (.int .i64 e) := kC hb3 (by go_simp); have g1 : w3.frozen? ⟨w.heap.size, 1, none⟩ = false := kF hb3 (v := .slice a len cap) (by go_simp) (by go_simp))
 have hb03 := nT hb0 hb3
 have hO3' : OwnW (w.heap.size + 2) w3 a3 len c3 xs := hO3.low (by simp)
 clear hO3 hb3 hb0
 refine bodyPost_ret (v := dyV s a3 len c3 e) (by simp [results, Tryz.results83, go_sem, m0, m1, m2]) rfl ⟨_, _, rfl, ?_, ?_⟩
 ·exact ((((hO3'.far _ _ (by simp)).far _ _ (by simp)).far _ _ (by simp)).far _ _ (by simp)).low (by omega)
 ·repeat (first | exact hb03 | refine Below.setCell ?_ (by simp) _)
end Go.Proofs.YtahpdcbmekgkfaaGreatDoor

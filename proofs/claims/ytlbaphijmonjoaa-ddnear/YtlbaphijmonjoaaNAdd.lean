/- The walks of the document's sums and differences of naturals. -/
import Derived.Test.YtlbaphijmonjoaaTMA
namespace Go.Proofs.Ytlbaphijmonjoaa
open Go.RowKit

theorem Own.isW' {B cv n : Nat} {w : World} {a : Option Addr} {L : List Int} (h : Own B w a cv L) (hU : AllU L) (hn : L.length = n) : IsW w a n cv L := by
  subst hn; exact h.isW hU
theorem own_snoc {B k : Nat} {w : World} {v : Value} {L : List Int} {s : Int} (hk : L.length = k) (h : w.ownsRow B 47 1 v (k + 1) (L.map (Value.int .u64) ++ [.int .u64 s])) :
    ∃ g cap, v = .slice (some ⟨g, 0, none⟩) (k + 1) cap ∧ Own B w (some ⟨g, 0, none⟩) cap (L ++ [s]) := by
  obtain ⟨g3, cap3, hv3⟩ : ∃ g3 cap3, v = .slice (some ⟨g3, 0, none⟩) (k + 1) cap3 := by
    rcases h.2 with ⟨_, h⟩ | ⟨g3, cap3, _, h, _⟩
    · omega
    · exact ⟨g3, cap3, h⟩
  subst hv3
  refine ⟨g3, cap3, rfl, ?_⟩
  unfold Own; rw [List.map_append, List.length_append, hk]; exact h

set_option maxRecDepth 100000 in
set_option maxHeartbeats 4000000 in
theorem nAdd_ge (a a' : Option Addr) (len cap len' cap' : Nat) (xs ys : List Int) (w : World) (h : IsW w a len cap xs) (h' : IsW w a' len' cap' ys) (hm : len ≤ 17592186044415) (_hm' : len' ≤ 17592186044415) (hc : len' ≤ len) :
    Calls Try.prog 32 #[.slice a len cap, .slice a' len' cap'] w fun e w' => ∃ (ao : Option Addr) (cv : Nat), e = .returned (.slice ao (wordsOf (val xs + val ys)).length cv) ∧ Own w.heap.size w' ao cv (wordsOf (val xs + val ys)) ∧ Below w.heap.size w w' := by
  obtain ⟨i0, hi, hz0, hz1, hz2⟩ := info_parts word_info
  have X1 : Hid (xs.length ≤ len) := by have := h.1; rw [Hid]; omega
  have Y1 : Hid (ys.length ≤ len) := by have := h'.1; rw [Hid]; omega
  have gx := fun i => h.2.1.get i
  have gy := fun i => h'.2.1.get i
  have GX : Hid (∀ i, 0 ≤ xs.getD i 0 ∧ xs.getD i 0 ≤ 18446744073709551615) := gx
  have GY : Hid (∀ i, 0 ≤ ys.getD i 0 ∧ ys.getD i 0 ≤ 18446744073709551615) := gy
  clear gx gy
  go_enter Try.func32, Try.ntmps32
  go_wp2_with fail
  go_loopw [5, 6, 7] (fun v cv i wr => ∃ (k : Nat) (L : List Int) (c : Int) (ao : Option Addr) (cp : Nat), k ≤ len ∧ i = .int .i64 k ∧ cv = .int .u64 c ∧ (c = 0 ∨ c = 1) ∧ v = .slice ao k cp ∧ L.length = k ∧ AllU L ∧ val L + 18446744073709551616 ^ k * c.toNat = low xs k + low ys k ∧ Own w.heap.size wr ao cp L ∧ Below w.heap.size w wr) (fun _ _ i _ => len - (intOf i).toNat)
  case atStart => exact ⟨0, [], 0, none, 0, by omega, rfl, rfl, Or.inl rfl, rfl, rfl, (fun x hx => by cases hx), by simp [val, low], World.ownsRow_nil _ _ _ _, Below.refl _ _⟩
  case round =>
    obtain ⟨k, L, c, ao, cp, hk, rfl, rfl, hc01, rfl, hLk, hLU, hval, hown, hbr⟩ := hrel
    have HV : Hid (val L + 18446744073709551616 ^ k * c.toNat = low xs k + low ys k) := hval
    have HC : Hid (c = 0 ∨ c = 1) := hc01
    have HK : Hid (L.length = k) := hLk
    have HU : Hid (AllU L) := hLU
    have b0 : 0 ≤ c ∧ c ≤ 1 := by omega
    unfold Own at hown
    rw [hLk] at hown
    clear hval hc01 hLk hLU
    have hWr := h.keep hbr
    have hWr' := h'.keep hbr
    have hsize := hbr.size
    by_cases hlt : k < len
    · have W1 := nWord_calls a len cap xs k wr hWr
      have W2 := nWord_calls a' len' cap' ys k wr hWr'
      obtain ⟨x, hx⟩ : ∃ x, x = xs.getD k 0 := ⟨_, rfl⟩
      obtain ⟨y, hy⟩ : ∃ y, y = ys.getD k 0 := ⟨_, rfl⟩
      rw [← hx] at W1
      rw [← hy] at W2
      have bx := GX.out k
      have by' := GY.out k
      rw [← hx] at bx
      rw [← hy] at by'
      have HX : Hid (x = xs.getD k 0) := hx
      have HY : Hid (y = ys.getD k 0) := hy
      have HW1 : Hid (Calls Try.prog 56 #[.slice a len cap, .int .i64 k] wr fun e w' => e = .returned (.int .u64 x) ∧ w' = wr) := W1
      have HW2 : Hid (Calls Try.prog 56 #[.slice a' len' cap', .int .i64 k] wr fun e w' => e = .returned (.int .u64 y) ∧ w' = wr) := W2
      clear hx hy W1 W2
      go_wp2_with fail
      refine Calls.mono HW1.out ?_
      rintro e wr ⟨rfl, rfl⟩
      go_wp2_with fail
      refine Calls.mono HW2.out ?_
      rintro e wr ⟨rfl, rfl⟩
      have ES : Hid ((IntKind.u64.wrap (IntKind.u64.wrap (x + y) + c)) = (x + y + c) % 18446744073709551616) := by rw [Hid, IntKind.wrap_u64, IntKind.wrap_u64]; omega
      go_wp2_with (first | (at_builtin; refine wpList_append_own _ rfl _ _ 28 rfl w.heap.size 47 i0 (.int .u64 0) 1 8 Try.underlying28 hi hz0 hz1 hz2 rfl (by decide) _ _ _ rfl (hown.alloc _) ⟨wr.heap.size, 0, none⟩ 1 1 [.int .u64 (IntKind.u64.wrap (IntKind.u64.wrap (x + y) + c))] rfl rfl (cell_one_new _ _ _) (fun x hx => by simp at hx; subst hx; rfl) (by unfold maxLen; omega) (by omega) (by simp; omega) ?_; intro v' w3 hown' hgrow3 hnil3) | (at_builtin; refine wpList_append_own _ rfl _ _ 28 rfl w.heap.size 47 i0 (.int .u64 0) 1 8 Try.underlying28 hi hz0 hz1 hz2 rfl (by decide) _ _ _ rfl (hown.alloc _) ⟨wr.heap.size, 0, none⟩ 1 1 [.int .u64 x] rfl rfl (cell_one_new _ _ _) (fun x hx => by simp at hx; subst hx; rfl) (by unfold maxLen; omega) (by omega) (by simp; omega) ?_; intro v' w3 hown' hgrow3 hnil3))
      all_goals
        obtain ⟨g3, cap3, hv3, hO3⟩ := own_snoc HK.out hown'
        subst hv3
        have es := ES.out
        have ec := HC.out
        have hb3 : Below w.heap.size w w3 := (hbr.alloc hsize _).grown hgrow3 (by simp; omega) (fun q hq => (hown.lt q hq).1)
        clear hgrow3 hnil3 hown'
        refine ⟨?_, by simp [intOf]; omega⟩
        first
        | exact ⟨k + 1, _, 0, _, cap3, by omega, by go_num, rfl, by omega, rfl, by simp [HK.out], HU.out.snoc (by omega) (by omega), add_step xs ys L k x y c _ 0 HK.out HX.out HY.out (by omega) (by omega) (by omega) (by omega) (by omega) HV.out (by omega), hO3, hb3⟩
        | exact ⟨k + 1, _, 1, _, cap3, by omega, by go_num, rfl, by omega, rfl, by simp [HK.out], HU.out.snoc (by omega) (by omega), add_step xs ys L k x y c _ 1 HK.out HX.out HY.out (by omega) (by omega) (by omega) (by omega) (by omega) HV.out (by omega), hO3, hb3⟩
    · have hkn : k = len := by omega
      go_wp2_with (at_builtin; refine wpList_append_own _ rfl _ _ 28 rfl w.heap.size 47 i0 (.int .u64 0) 1 8 Try.underlying28 hi hz0 hz1 hz2 rfl (by decide) _ _ _ rfl (hown.alloc _) ⟨wr.heap.size, 0, none⟩ 1 1 [.int .u64 c] rfl rfl (cell_one_new _ _ _) (fun x hx => by simp at hx; subst hx; rfl) (by unfold maxLen; omega) (by omega) (by simp; omega) ?_; intro v' w3 hown' hgrow3 hnil3)
      obtain ⟨g3, cap3, hv3, hO3⟩ := own_snoc HK.out hown'
      subst hv3
      have hb3 : Below w.heap.size w w3 := (hbr.alloc hsize _).grown hgrow3 (by simp; omega) (fun q hq => (hown.lt q hq).1)
      clear hgrow3 hnil3 hown'
      have hI := hO3.isW' (HU.out.snoc (by omega) (by omega)) (show (L ++ [c]).length = k + 1 by rw [List.length_append, HK.out]; rfl)
      refine Calls.mono (nNorm_calls (some ⟨g3, 0, none⟩) (k + 1) cap3 (L ++ [c]) w3 hI (by omega)) ?_
      rintro e w4 ⟨ao4, cv4, rfl, hO4, hb4⟩
      go_wp2_with fail
      go_ret
      have ev : val (L ++ [c]) = val xs + val ys := by
        have e1 := HV.out
        rw [low_all xs k (by have := X1.out; omega), low_all ys k (by have := Y1.out; omega)] at e1
        rw [val_append, HK.out, ← e1]; simp [val]
      rw [ev] at hO4
      rw [ev]
      exact ⟨ao4, cv4, rfl, hO4.low hb3.size, nbelow_trans hb3 hb4⟩

set_option maxRecDepth 100000 in
set_option maxHeartbeats 4000000 in
theorem nAdd_lt (a a' : Option Addr) (len cap len' cap' : Nat) (xs ys : List Int) (w : World) (h : IsW w a len cap xs) (h' : IsW w a' len' cap' ys) (hm : len ≤ 17592186044415) (hm' : len' ≤ 17592186044415) (hc : len < len') :
    Calls Try.prog 32 #[.slice a len cap, .slice a' len' cap'] w fun e w' => ∃ (ao : Option Addr) (cv : Nat), e = .returned (.slice ao (wordsOf (val xs + val ys)).length cv) ∧ Own w.heap.size w' ao cv (wordsOf (val xs + val ys)) ∧ Below w.heap.size w w' := by
  obtain ⟨i0, hi, hz0, hz1, hz2⟩ := info_parts word_info
  have X1 : Hid (xs.length ≤ len') := by have := h.1; rw [Hid]; omega
  have Y1 : Hid (ys.length ≤ len') := by have := h'.1; rw [Hid]; omega
  have gx := fun i => h.2.1.get i
  have gy := fun i => h'.2.1.get i
  have GX : Hid (∀ i, 0 ≤ xs.getD i 0 ∧ xs.getD i 0 ≤ 18446744073709551615) := gx
  have GY : Hid (∀ i, 0 ≤ ys.getD i 0 ∧ ys.getD i 0 ≤ 18446744073709551615) := gy
  clear gx gy
  go_enter Try.func32, Try.ntmps32
  go_wp2_with fail
  go_loopw [5, 6, 7] (fun v cv i wr => ∃ (k : Nat) (L : List Int) (c : Int) (ao : Option Addr) (cp : Nat), k ≤ len' ∧ i = .int .i64 k ∧ cv = .int .u64 c ∧ (c = 0 ∨ c = 1) ∧ v = .slice ao k cp ∧ L.length = k ∧ AllU L ∧ val L + 18446744073709551616 ^ k * c.toNat = low xs k + low ys k ∧ Own w.heap.size wr ao cp L ∧ Below w.heap.size w wr) (fun _ _ i _ => len' - (intOf i).toNat)
  case atStart => exact ⟨0, [], 0, none, 0, by omega, rfl, rfl, Or.inl rfl, rfl, rfl, (fun x hx => by cases hx), by simp [val, low], World.ownsRow_nil _ _ _ _, Below.refl _ _⟩
  case round =>
    obtain ⟨k, L, c, ao, cp, hk, rfl, rfl, hc01, rfl, hLk, hLU, hval, hown, hbr⟩ := hrel
    have HV : Hid (val L + 18446744073709551616 ^ k * c.toNat = low xs k + low ys k) := hval
    have HC : Hid (c = 0 ∨ c = 1) := hc01
    have HK : Hid (L.length = k) := hLk
    have HU : Hid (AllU L) := hLU
    have b0 : 0 ≤ c ∧ c ≤ 1 := by omega
    unfold Own at hown
    rw [hLk] at hown
    clear hval hc01 hLk hLU
    have hWr := h.keep hbr
    have hWr' := h'.keep hbr
    have hsize := hbr.size
    by_cases hlt : k < len'
    · have W1 := nWord_calls a len cap xs k wr hWr
      have W2 := nWord_calls a' len' cap' ys k wr hWr'
      obtain ⟨x, hx⟩ : ∃ x, x = xs.getD k 0 := ⟨_, rfl⟩
      obtain ⟨y, hy⟩ : ∃ y, y = ys.getD k 0 := ⟨_, rfl⟩
      rw [← hx] at W1
      rw [← hy] at W2
      have bx := GX.out k
      have by' := GY.out k
      rw [← hx] at bx
      rw [← hy] at by'
      have HX : Hid (x = xs.getD k 0) := hx
      have HY : Hid (y = ys.getD k 0) := hy
      have HW1 : Hid (Calls Try.prog 56 #[.slice a len cap, .int .i64 k] wr fun e w' => e = .returned (.int .u64 x) ∧ w' = wr) := W1
      have HW2 : Hid (Calls Try.prog 56 #[.slice a' len' cap', .int .i64 k] wr fun e w' => e = .returned (.int .u64 y) ∧ w' = wr) := W2
      clear hx hy W1 W2
      go_wp2_with fail
      refine Calls.mono HW1.out ?_
      rintro e wr ⟨rfl, rfl⟩
      go_wp2_with fail
      refine Calls.mono HW2.out ?_
      rintro e wr ⟨rfl, rfl⟩
      have ES : Hid ((IntKind.u64.wrap (IntKind.u64.wrap (x + y) + c)) = (x + y + c) % 18446744073709551616) := by rw [Hid, IntKind.wrap_u64, IntKind.wrap_u64]; omega
      go_wp2_with (first | (at_builtin; refine wpList_append_own _ rfl _ _ 28 rfl w.heap.size 47 i0 (.int .u64 0) 1 8 Try.underlying28 hi hz0 hz1 hz2 rfl (by decide) _ _ _ rfl (hown.alloc _) ⟨wr.heap.size, 0, none⟩ 1 1 [.int .u64 (IntKind.u64.wrap (IntKind.u64.wrap (x + y) + c))] rfl rfl (cell_one_new _ _ _) (fun x hx => by simp at hx; subst hx; rfl) (by unfold maxLen; omega) (by omega) (by simp; omega) ?_; intro v' w3 hown' hgrow3 hnil3) | (at_builtin; refine wpList_append_own _ rfl _ _ 28 rfl w.heap.size 47 i0 (.int .u64 0) 1 8 Try.underlying28 hi hz0 hz1 hz2 rfl (by decide) _ _ _ rfl (hown.alloc _) ⟨wr.heap.size, 0, none⟩ 1 1 [.int .u64 x] rfl rfl (cell_one_new _ _ _) (fun x hx => by simp at hx; subst hx; rfl) (by unfold maxLen; omega) (by omega) (by simp; omega) ?_; intro v' w3 hown' hgrow3 hnil3))
      all_goals
        obtain ⟨g3, cap3, hv3, hO3⟩ := own_snoc HK.out hown'
        subst hv3
        have es := ES.out
        have ec := HC.out
        have hb3 : Below w.heap.size w w3 := (hbr.alloc hsize _).grown hgrow3 (by simp; omega) (fun q hq => (hown.lt q hq).1)
        clear hgrow3 hnil3 hown'
        refine ⟨?_, by simp [intOf]; omega⟩
        first
        | exact ⟨k + 1, _, 0, _, cap3, by omega, by go_num, rfl, by omega, rfl, by simp [HK.out], HU.out.snoc (by omega) (by omega), add_step xs ys L k x y c _ 0 HK.out HX.out HY.out (by omega) (by omega) (by omega) (by omega) (by omega) HV.out (by omega), hO3, hb3⟩
        | exact ⟨k + 1, _, 1, _, cap3, by omega, by go_num, rfl, by omega, rfl, by simp [HK.out], HU.out.snoc (by omega) (by omega), add_step xs ys L k x y c _ 1 HK.out HX.out HY.out (by omega) (by omega) (by omega) (by omega) (by omega) HV.out (by omega), hO3, hb3⟩
    · have hkn : k = len' := by omega
      go_wp2_with (at_builtin; refine wpList_append_own _ rfl _ _ 28 rfl w.heap.size 47 i0 (.int .u64 0) 1 8 Try.underlying28 hi hz0 hz1 hz2 rfl (by decide) _ _ _ rfl (hown.alloc _) ⟨wr.heap.size, 0, none⟩ 1 1 [.int .u64 c] rfl rfl (cell_one_new _ _ _) (fun x hx => by simp at hx; subst hx; rfl) (by unfold maxLen; omega) (by omega) (by simp; omega) ?_; intro v' w3 hown' hgrow3 hnil3)
      obtain ⟨g3, cap3, hv3, hO3⟩ := own_snoc HK.out hown'
      subst hv3
      have hb3 : Below w.heap.size w w3 := (hbr.alloc hsize _).grown hgrow3 (by simp; omega) (fun q hq => (hown.lt q hq).1)
      clear hgrow3 hnil3 hown'
      have hI := hO3.isW' (HU.out.snoc (by omega) (by omega)) (show (L ++ [c]).length = k + 1 by rw [List.length_append, HK.out]; rfl)
      refine Calls.mono (nNorm_calls (some ⟨g3, 0, none⟩) (k + 1) cap3 (L ++ [c]) w3 hI (by omega)) ?_
      rintro e w4 ⟨ao4, cv4, rfl, hO4, hb4⟩
      go_wp2_with fail
      go_ret
      have ev : val (L ++ [c]) = val xs + val ys := by
        have e1 := HV.out
        rw [low_all xs k (by have := X1.out; omega), low_all ys k (by have := Y1.out; omega)] at e1
        rw [val_append, HK.out, ← e1]; simp [val]
      rw [ev] at hO4
      rw [ev]
      exact ⟨ao4, cv4, rfl, hO4.low hb3.size, nbelow_trans hb3 hb4⟩

theorem nAdd_calls (a a' : Option Addr) (len cap len' cap' : Nat) (xs ys : List Int) (w : World) (h : IsW w a len cap xs) (h' : IsW w a' len' cap' ys) (hm : len ≤ 17592186044415) (hm' : len' ≤ 17592186044415) :
    Calls Try.prog 32 #[.slice a len cap, .slice a' len' cap'] w fun e w' => ∃ (ao : Option Addr) (cv : Nat), e = .returned (.slice ao (wordsOf (val xs + val ys)).length cv) ∧ Own w.heap.size w' ao cv (wordsOf (val xs + val ys)) ∧ Below w.heap.size w w' := by
  by_cases hc : len' ≤ len
  · exact nAdd_ge a a' len cap len' cap' xs ys w h h' hm hm' hc
  · exact nAdd_lt a a' len cap len' cap' xs ys w h h' hm hm' (by omega)

end Go.Proofs.Ytlbaphijmonjoaa

/- The walk of the document's differences of naturals. -/
import Derived.Test.YtlbaphijmonjoaaNAdd
namespace Go.Proofs.Ytlbaphijmonjoaa
open Go.RowKit

set_option maxRecDepth 100000 in
set_option maxHeartbeats 4000000 in
theorem nSub_ge (a a' : Option Addr) (len cap len' cap' : Nat) (xs ys : List Int) (w : World) (h : IsW w a len cap xs) (h' : IsW w a' len' cap' ys) (hm : len ≤ 17592186044415) (_hm' : len' ≤ 17592186044415) (hc : len' ≤ len) (hle : val ys ≤ val xs) :
    Calls Try.prog 34 #[.slice a len cap, .slice a' len' cap'] w fun e w' => ∃ (ao : Option Addr) (cv : Nat), e = .returned (.slice ao (wordsOf (val xs - val ys)).length cv) ∧ Own w.heap.size w' ao cv (wordsOf (val xs - val ys)) ∧ Below w.heap.size w w' := by
  obtain ⟨i0, hi, hz0, hz1, hz2⟩ := info_parts word_info
  have X1 : Hid (xs.length ≤ len) := by have := h.1; rw [Hid]; omega
  have Y1 : Hid (ys.length ≤ len) := by have := h'.1; rw [Hid]; omega
  have gx := fun i => h.2.1.get i
  have gy := fun i => h'.2.1.get i
  have GX : Hid (∀ i, 0 ≤ xs.getD i 0 ∧ xs.getD i 0 ≤ 18446744073709551615) := gx
  have GY : Hid (∀ i, 0 ≤ ys.getD i 0 ∧ ys.getD i 0 ≤ 18446744073709551615) := gy
  clear gx gy
  have HLE : Hid (val ys ≤ val xs) := hle
  clear hle
  go_enter Try.func34, Try.ntmps34
  go_wp2_with fail
  go_loopw [5, 6, 7] (fun v cv i wr => ∃ (k : Nat) (L : List Int) (c : Int) (ao : Option Addr) (cp : Nat), k ≤ len ∧ i = .int .i64 k ∧ cv = .int .u64 c ∧ (c = 0 ∨ c = 1) ∧ v = .slice ao k cp ∧ L.length = k ∧ AllU L ∧ val L + low ys k = low xs k + 18446744073709551616 ^ k * c.toNat ∧ Own w.heap.size wr ao cp L ∧ Below w.heap.size w wr) (fun _ _ i _ => len - (intOf i).toNat)
  case atStart => exact ⟨0, [], 0, none, 0, by omega, rfl, rfl, Or.inl rfl, rfl, rfl, (fun x hx => by cases hx), by simp [val, low], World.ownsRow_nil _ _ _ _, Below.refl _ _⟩
  case round =>
    obtain ⟨k, L, c, ao, cp, hk, rfl, rfl, hc01, rfl, hLk, hLU, hval, hown, hbr⟩ := hrel
    have HV : Hid (val L + low ys k = low xs k + 18446744073709551616 ^ k * c.toNat) := hval
    have HC : Hid (c = 0 ∨ c = 1) := hc01
    have HK : Hid (L.length = k) := hLk
    have HU : Hid (AllU L) := hLU
    have b0 : 0 ≤ c ∧ c ≤ 1 := by omega
    unfold Own at hown
    rw [hLk] at hown
    clear hval hc01 hLk hLU
    have hWr := h.keep hbr
    have hWr' := h'.keep hbr
    have hsize := hbr.size
    by_cases hlt : k < len
    · have W1 := nWord_calls a len cap xs k wr hWr
      have W2 := nWord_calls a' len' cap' ys k wr hWr'
      obtain ⟨x, hx⟩ : ∃ x, x = xs.getD k 0 := ⟨_, rfl⟩
      obtain ⟨y, hy⟩ : ∃ y, y = ys.getD k 0 := ⟨_, rfl⟩
      rw [← hx] at W1
      rw [← hy] at W2
      have bx := GX.out k
      have by' := GY.out k
      rw [← hx] at bx
      rw [← hy] at by'
      have HX : Hid (x = xs.getD k 0) := hx
      have HY : Hid (y = ys.getD k 0) := hy
      have HW1 : Hid (Calls Try.prog 56 #[.slice a len cap, .int .i64 k] wr fun e w' => e = .returned (.int .u64 x) ∧ w' = wr) := W1
      have HW2 : Hid (Calls Try.prog 56 #[.slice a' len' cap', .int .i64 k] wr fun e w' => e = .returned (.int .u64 y) ∧ w' = wr) := W2
      clear hx hy W1 W2
      go_wp2_with fail
      refine Calls.mono HW1.out ?_
      rintro e wr ⟨rfl, rfl⟩
      go_wp2_with fail
      refine Calls.mono HW2.out ?_
      rintro e wr ⟨rfl, rfl⟩
      clear hWr hWr'
      rcases HC.out with hc0 | hc0
      · subst hc0
        rcases Int.lt_trichotomy x y with hxy | hxy | hxy
        · go_wp2_with (at_builtin; refine wpList_append_own _ rfl _ _ 28 rfl w.heap.size 47 i0 (.int .u64 0) 1 8 Try.underlying28 hi hz0 hz1 hz2 rfl (by decide) _ _ _ rfl (hown.alloc _) ⟨wr.heap.size, 0, none⟩ 1 1 [_] rfl rfl (cell_one_new _ _ _) (fun x hx => by simp at hx; subst hx; rfl) (by unfold maxLen; omega) (by omega) (by simp; omega) ?_; intro v' w3 hown' hgrow3 hnil3)
          obtain ⟨g3, cap3, hv3, hO3⟩ := own_snoc HK.out hown'
          subst hv3
          have hb3 : Below w.heap.size w w3 := (hbr.alloc hsize _).grown hgrow3 (by simp; omega) (fun q hq => (hown.lt q hq).1)
          clear hgrow3 hnil3 hown'
          refine ⟨?_, by simp [intOf]; omega⟩
          exact ⟨k + 1, _, 1, _, cap3, by omega, by go_num, rfl, by omega, rfl, by simp [HK.out], HU.out.snoc (by (try simp only [IntKind.wrap_u64]); omega) (by (try simp only [IntKind.wrap_u64]); omega), sub_step xs ys L k x y 0 _ 1 HK.out HX.out HY.out (by omega) (by omega) (by omega) (by (try simp only [IntKind.wrap_u64]); omega) (by omega) HV.out (by (try simp only [IntKind.wrap_u64]); omega), hO3, hb3⟩
        · subst hxy
          go_wp2_with (at_builtin; refine wpList_append_own _ rfl _ _ 28 rfl w.heap.size 47 i0 (.int .u64 0) 1 8 Try.underlying28 hi hz0 hz1 hz2 rfl (by decide) _ _ _ rfl (hown.alloc _) ⟨wr.heap.size, 0, none⟩ 1 1 [_] rfl rfl (cell_one_new _ _ _) (fun x hx => by simp at hx; subst hx; rfl) (by unfold maxLen; omega) (by omega) (by simp; omega) ?_; intro v' w3 hown' hgrow3 hnil3)
          obtain ⟨g3, cap3, hv3, hO3⟩ := own_snoc HK.out hown'
          subst hv3
          have hb3 : Below w.heap.size w w3 := (hbr.alloc hsize _).grown hgrow3 (by simp; omega) (fun q hq => (hown.lt q hq).1)
          clear hgrow3 hnil3 hown'
          refine ⟨?_, by simp [intOf]; omega⟩
          exact ⟨k + 1, _, 0, _, cap3, by omega, by go_num, rfl, by omega, rfl, by simp [HK.out], HU.out.snoc (by (try simp only [IntKind.wrap_u64]); omega) (by (try simp only [IntKind.wrap_u64]); omega), sub_step xs ys L k x x 0 _ 0 HK.out HX.out HY.out (by omega) (by omega) (by omega) (by (try simp only [IntKind.wrap_u64]); omega) (by omega) HV.out (by (try simp only [IntKind.wrap_u64]); omega), hO3, hb3⟩
        · go_wp2_with (at_builtin; refine wpList_append_own _ rfl _ _ 28 rfl w.heap.size 47 i0 (.int .u64 0) 1 8 Try.underlying28 hi hz0 hz1 hz2 rfl (by decide) _ _ _ rfl (hown.alloc _) ⟨wr.heap.size, 0, none⟩ 1 1 [_] rfl rfl (cell_one_new _ _ _) (fun x hx => by simp at hx; subst hx; rfl) (by unfold maxLen; omega) (by omega) (by simp; omega) ?_; intro v' w3 hown' hgrow3 hnil3)
          obtain ⟨g3, cap3, hv3, hO3⟩ := own_snoc HK.out hown'
          subst hv3
          have hb3 : Below w.heap.size w w3 := (hbr.alloc hsize _).grown hgrow3 (by simp; omega) (fun q hq => (hown.lt q hq).1)
          clear hgrow3 hnil3 hown'
          refine ⟨?_, by simp [intOf]; omega⟩
          exact ⟨k + 1, _, 0, _, cap3, by omega, by go_num, rfl, by omega, rfl, by simp [HK.out], HU.out.snoc (by (try simp only [IntKind.wrap_u64]); omega) (by (try simp only [IntKind.wrap_u64]); omega), sub_step xs ys L k x y 0 _ 0 HK.out HX.out HY.out (by omega) (by omega) (by omega) (by (try simp only [IntKind.wrap_u64]); omega) (by omega) HV.out (by (try simp only [IntKind.wrap_u64]); omega), hO3, hb3⟩
      · subst hc0
        rcases Int.lt_trichotomy x y with hxy | hxy | hxy
        · go_wp2_with (at_builtin; refine wpList_append_own _ rfl _ _ 28 rfl w.heap.size 47 i0 (.int .u64 0) 1 8 Try.underlying28 hi hz0 hz1 hz2 rfl (by decide) _ _ _ rfl (hown.alloc _) ⟨wr.heap.size, 0, none⟩ 1 1 [_] rfl rfl (cell_one_new _ _ _) (fun x hx => by simp at hx; subst hx; rfl) (by unfold maxLen; omega) (by omega) (by simp; omega) ?_; intro v' w3 hown' hgrow3 hnil3)
          obtain ⟨g3, cap3, hv3, hO3⟩ := own_snoc HK.out hown'
          subst hv3
          have hb3 : Below w.heap.size w w3 := (hbr.alloc hsize _).grown hgrow3 (by simp; omega) (fun q hq => (hown.lt q hq).1)
          clear hgrow3 hnil3 hown'
          refine ⟨?_, by simp [intOf]; omega⟩
          exact ⟨k + 1, _, 1, _, cap3, by omega, by go_num, rfl, by omega, rfl, by simp [HK.out], HU.out.snoc (by (try simp only [IntKind.wrap_u64]); omega) (by (try simp only [IntKind.wrap_u64]); omega), sub_step xs ys L k x y 1 _ 1 HK.out HX.out HY.out (by omega) (by omega) (by omega) (by (try simp only [IntKind.wrap_u64]); omega) (by omega) HV.out (by (try simp only [IntKind.wrap_u64]); omega), hO3, hb3⟩
        · subst hxy
          go_wp2_with (at_builtin; refine wpList_append_own _ rfl _ _ 28 rfl w.heap.size 47 i0 (.int .u64 0) 1 8 Try.underlying28 hi hz0 hz1 hz2 rfl (by decide) _ _ _ rfl (hown.alloc _) ⟨wr.heap.size, 0, none⟩ 1 1 [_] rfl rfl (cell_one_new _ _ _) (fun x hx => by simp at hx; subst hx; rfl) (by unfold maxLen; omega) (by omega) (by simp; omega) ?_; intro v' w3 hown' hgrow3 hnil3)
          obtain ⟨g3, cap3, hv3, hO3⟩ := own_snoc HK.out hown'
          subst hv3
          have hb3 : Below w.heap.size w w3 := (hbr.alloc hsize _).grown hgrow3 (by simp; omega) (fun q hq => (hown.lt q hq).1)
          clear hgrow3 hnil3 hown'
          refine ⟨?_, by simp [intOf]; omega⟩
          exact ⟨k + 1, _, 1, _, cap3, by omega, by go_num, rfl, by omega, rfl, by simp [HK.out], HU.out.snoc (by (try simp only [IntKind.wrap_u64]); omega) (by (try simp only [IntKind.wrap_u64]); omega), sub_step xs ys L k x x 1 _ 1 HK.out HX.out HY.out (by omega) (by omega) (by omega) (by (try simp only [IntKind.wrap_u64]); omega) (by omega) HV.out (by (try simp only [IntKind.wrap_u64]); omega), hO3, hb3⟩
        · go_wp2_with (at_builtin; refine wpList_append_own _ rfl _ _ 28 rfl w.heap.size 47 i0 (.int .u64 0) 1 8 Try.underlying28 hi hz0 hz1 hz2 rfl (by decide) _ _ _ rfl (hown.alloc _) ⟨wr.heap.size, 0, none⟩ 1 1 [_] rfl rfl (cell_one_new _ _ _) (fun x hx => by simp at hx; subst hx; rfl) (by unfold maxLen; omega) (by omega) (by simp; omega) ?_; intro v' w3 hown' hgrow3 hnil3)
          obtain ⟨g3, cap3, hv3, hO3⟩ := own_snoc HK.out hown'
          subst hv3
          have hb3 : Below w.heap.size w w3 := (hbr.alloc hsize _).grown hgrow3 (by simp; omega) (fun q hq => (hown.lt q hq).1)
          clear hgrow3 hnil3 hown'
          refine ⟨?_, by simp [intOf]; omega⟩
          exact ⟨k + 1, _, 0, _, cap3, by omega, by go_num, rfl, by omega, rfl, by simp [HK.out], HU.out.snoc (by (try simp only [IntKind.wrap_u64]); omega) (by (try simp only [IntKind.wrap_u64]); omega), sub_step xs ys L k x y 1 _ 0 HK.out HX.out HY.out (by omega) (by omega) (by omega) (by (try simp only [IntKind.wrap_u64]); omega) (by omega) HV.out (by (try simp only [IntKind.wrap_u64]); omega), hO3, hb3⟩
    · have HKN : Hid (k = len) := by rw [Hid]; omega
      clear hWr hWr'
      obtain ⟨dl, hdl⟩ : ∃ dl : List Int, dl = L := ⟨_, rfl⟩
      have hOL : Own w.heap.size wr ao cp L := by unfold Own; rw [HK.out]; exact hown
      have hI := hOL.isW' HU.out HK.out
      have NC : Hid _ := nNorm_calls ao k cp L wr hI (by omega)
      clear hI hOL hown hdl dl
      go_wp2_with fail
      refine Calls.mono NC.out ?_
      rintro e w4 ⟨ao4, cv4, rfl, hO4, hb4⟩
      go_wp2_with fail
      go_ret
      have ev : val L = val xs - val ys := by
        have e1 := HV.out
        rw [low_all xs k (by have := X1.out; have := HKN.out; omega), low_all ys k (by have := Y1.out; have := HKN.out; omega)] at e1
        have hlt := val_lt L HU.out
        rw [HK.out] at hlt
        have ec := HC.out
        rcases ec with rfl | rfl
        · simp at e1; omega
        · rw [show (1 : Int).toNat = 1 from rfl, Nat.mul_one] at e1
          generalize 18446744073709551616 ^ k = P at *
          have := HLE.out
          omega
      rw [ev] at hO4
      rw [ev]
      exact ⟨ao4, cv4, rfl, hO4.low hsize, nbelow_trans hbr hb4⟩

set_option maxRecDepth 100000 in
set_option maxHeartbeats 4000000 in
theorem nSub_lt (a a' : Option Addr) (len cap len' cap' : Nat) (xs ys : List Int) (w : World) (h : IsW w a len cap xs) (h' : IsW w a' len' cap' ys) (hm : len ≤ 17592186044415) (hm' : len' ≤ 17592186044415) (hc : len < len') (hle : val ys ≤ val xs) :
    Calls Try.prog 34 #[.slice a len cap, .slice a' len' cap'] w fun e w' => ∃ (ao : Option Addr) (cv : Nat), e = .returned (.slice ao (wordsOf (val xs - val ys)).length cv) ∧ Own w.heap.size w' ao cv (wordsOf (val xs - val ys)) ∧ Below w.heap.size w w' := by
  obtain ⟨i0, hi, hz0, hz1, hz2⟩ := info_parts word_info
  have X1 : Hid (xs.length ≤ len') := by have := h.1; rw [Hid]; omega
  have Y1 : Hid (ys.length ≤ len') := by have := h'.1; rw [Hid]; omega
  have gx := fun i => h.2.1.get i
  have gy := fun i => h'.2.1.get i
  have GX : Hid (∀ i, 0 ≤ xs.getD i 0 ∧ xs.getD i 0 ≤ 18446744073709551615) := gx
  have GY : Hid (∀ i, 0 ≤ ys.getD i 0 ∧ ys.getD i 0 ≤ 18446744073709551615) := gy
  clear gx gy
  have HLE : Hid (val ys ≤ val xs) := hle
  clear hle
  go_enter Try.func34, Try.ntmps34
  go_wp2_with fail
  go_loopw [5, 6, 7] (fun v cv i wr => ∃ (k : Nat) (L : List Int) (c : Int) (ao : Option Addr) (cp : Nat), k ≤ len' ∧ i = .int .i64 k ∧ cv = .int .u64 c ∧ (c = 0 ∨ c = 1) ∧ v = .slice ao k cp ∧ L.length = k ∧ AllU L ∧ val L + low ys k = low xs k + 18446744073709551616 ^ k * c.toNat ∧ Own w.heap.size wr ao cp L ∧ Below w.heap.size w wr) (fun _ _ i _ => len' - (intOf i).toNat)
  case atStart => exact ⟨0, [], 0, none, 0, by omega, rfl, rfl, Or.inl rfl, rfl, rfl, (fun x hx => by cases hx), by simp [val, low], World.ownsRow_nil _ _ _ _, Below.refl _ _⟩
  case round =>
    obtain ⟨k, L, c, ao, cp, hk, rfl, rfl, hc01, rfl, hLk, hLU, hval, hown, hbr⟩ := hrel
    have HV : Hid (val L + low ys k = low xs k + 18446744073709551616 ^ k * c.toNat) := hval
    have HC : Hid (c = 0 ∨ c = 1) := hc01
    have HK : Hid (L.length = k) := hLk
    have HU : Hid (AllU L) := hLU
    have b0 : 0 ≤ c ∧ c ≤ 1 := by omega
    unfold Own at hown
    rw [hLk] at hown
    clear hval hc01 hLk hLU
    have hWr := h.keep hbr
    have hWr' := h'.keep hbr
    have hsize := hbr.size
    by_cases hlt : k < len'
    · have W1 := nWord_calls a len cap xs k wr hWr
      have W2 := nWord_calls a' len' cap' ys k wr hWr'
      obtain ⟨x, hx⟩ : ∃ x, x = xs.getD k 0 := ⟨_, rfl⟩
      obtain ⟨y, hy⟩ : ∃ y, y = ys.getD k 0 := ⟨_, rfl⟩
      rw [← hx] at W1
      rw [← hy] at W2
      have bx := GX.out k
      have by' := GY.out k
      rw [← hx] at bx
      rw [← hy] at by'
      have HX : Hid (x = xs.getD k 0) := hx
      have HY : Hid (y = ys.getD k 0) := hy
      have HW1 : Hid (Calls Try.prog 56 #[.slice a len cap, .int .i64 k] wr fun e w' => e = .returned (.int .u64 x) ∧ w' = wr) := W1
      have HW2 : Hid (Calls Try.prog 56 #[.slice a' len' cap', .int .i64 k] wr fun e w' => e = .returned (.int .u64 y) ∧ w' = wr) := W2
      clear hx hy W1 W2
      go_wp2_with fail
      refine Calls.mono HW1.out ?_
      rintro e wr ⟨rfl, rfl⟩
      go_wp2_with fail
      refine Calls.mono HW2.out ?_
      rintro e wr ⟨rfl, rfl⟩
      clear hWr hWr'
      rcases HC.out with hc0 | hc0
      · subst hc0
        rcases Int.lt_trichotomy x y with hxy | hxy | hxy
        · go_wp2_with (at_builtin; refine wpList_append_own _ rfl _ _ 28 rfl w.heap.size 47 i0 (.int .u64 0) 1 8 Try.underlying28 hi hz0 hz1 hz2 rfl (by decide) _ _ _ rfl (hown.alloc _) ⟨wr.heap.size, 0, none⟩ 1 1 [_] rfl rfl (cell_one_new _ _ _) (fun x hx => by simp at hx; subst hx; rfl) (by unfold maxLen; omega) (by omega) (by simp; omega) ?_; intro v' w3 hown' hgrow3 hnil3)
          obtain ⟨g3, cap3, hv3, hO3⟩ := own_snoc HK.out hown'
          subst hv3
          have hb3 : Below w.heap.size w w3 := (hbr.alloc hsize _).grown hgrow3 (by simp; omega) (fun q hq => (hown.lt q hq).1)
          clear hgrow3 hnil3 hown'
          refine ⟨?_, by simp [intOf]; omega⟩
          exact ⟨k + 1, _, 1, _, cap3, by omega, by go_num, rfl, by omega, rfl, by simp [HK.out], HU.out.snoc (by (try simp only [IntKind.wrap_u64]); omega) (by (try simp only [IntKind.wrap_u64]); omega), sub_step xs ys L k x y 0 _ 1 HK.out HX.out HY.out (by omega) (by omega) (by omega) (by (try simp only [IntKind.wrap_u64]); omega) (by omega) HV.out (by (try simp only [IntKind.wrap_u64]); omega), hO3, hb3⟩
        · subst hxy
          go_wp2_with (at_builtin; refine wpList_append_own _ rfl _ _ 28 rfl w.heap.size 47 i0 (.int .u64 0) 1 8 Try.underlying28 hi hz0 hz1 hz2 rfl (by decide) _ _ _ rfl (hown.alloc _) ⟨wr.heap.size, 0, none⟩ 1 1 [_] rfl rfl (cell_one_new _ _ _) (fun x hx => by simp at hx; subst hx; rfl) (by unfold maxLen; omega) (by omega) (by simp; omega) ?_; intro v' w3 hown' hgrow3 hnil3)
          obtain ⟨g3, cap3, hv3, hO3⟩ := own_snoc HK.out hown'
          subst hv3
          have hb3 : Below w.heap.size w w3 := (hbr.alloc hsize _).grown hgrow3 (by simp; omega) (fun q hq => (hown.lt q hq).1)
          clear hgrow3 hnil3 hown'
          refine ⟨?_, by simp [intOf]; omega⟩
          exact ⟨k + 1, _, 0, _, cap3, by omega, by go_num, rfl, by omega, rfl, by simp [HK.out], HU.out.snoc (by (try simp only [IntKind.wrap_u64]); omega) (by (try simp only [IntKind.wrap_u64]); omega), sub_step xs ys L k x x 0 _ 0 HK.out HX.out HY.out (by omega) (by omega) (by omega) (by (try simp only [IntKind.wrap_u64]); omega) (by omega) HV.out (by (try simp only [IntKind.wrap_u64]); omega), hO3, hb3⟩
        · go_wp2_with (at_builtin; refine wpList_append_own _ rfl _ _ 28 rfl w.heap.size 47 i0 (.int .u64 0) 1 8 Try.underlying28 hi hz0 hz1 hz2 rfl (by decide) _ _ _ rfl (hown.alloc _) ⟨wr.heap.size, 0, none⟩ 1 1 [_] rfl rfl (cell_one_new _ _ _) (fun x hx => by simp at hx; subst hx; rfl) (by unfold maxLen; omega) (by omega) (by simp; omega) ?_; intro v' w3 hown' hgrow3 hnil3)
          obtain ⟨g3, cap3, hv3, hO3⟩ := own_snoc HK.out hown'
          subst hv3
          have hb3 : Below w.heap.size w w3 := (hbr.alloc hsize _).grown hgrow3 (by simp; omega) (fun q hq => (hown.lt q hq).1)
          clear hgrow3 hnil3 hown'
          refine ⟨?_, by simp [intOf]; omega⟩
          exact ⟨k + 1, _, 0, _, cap3, by omega, by go_num, rfl, by omega, rfl, by simp [HK.out], HU.out.snoc (by (try simp only [IntKind.wrap_u64]); omega) (by (try simp only [IntKind.wrap_u64]); omega), sub_step xs ys L k x y 0 _ 0 HK.out HX.out HY.out (by omega) (by omega) (by omega) (by (try simp only [IntKind.wrap_u64]); omega) (by omega) HV.out (by (try simp only [IntKind.wrap_u64]); omega), hO3, hb3⟩
      · subst hc0
        rcases Int.lt_trichotomy x y with hxy | hxy | hxy
        · go_wp2_with (at_builtin; refine wpList_append_own _ rfl _ _ 28 rfl w.heap.size 47 i0 (.int .u64 0) 1 8 Try.underlying28 hi hz0 hz1 hz2 rfl (by decide) _ _ _ rfl (hown.alloc _) ⟨wr.heap.size, 0, none⟩ 1 1 [_] rfl rfl (cell_one_new _ _ _) (fun x hx => by simp at hx; subst hx; rfl) (by unfold maxLen; omega) (by omega) (by simp; omega) ?_; intro v' w3 hown' hgrow3 hnil3)
          obtain ⟨g3, cap3, hv3, hO3⟩ := own_snoc HK.out hown'
          subst hv3
          have hb3 : Below w.heap.size w w3 := (hbr.alloc hsize _).grown hgrow3 (by simp; omega) (fun q hq => (hown.lt q hq).1)
          clear hgrow3 hnil3 hown'
          refine ⟨?_, by simp [intOf]; omega⟩
          exact ⟨k + 1, _, 1, _, cap3, by omega, by go_num, rfl, by omega, rfl, by simp [HK.out], HU.out.snoc (by (try simp only [IntKind.wrap_u64]); omega) (by (try simp only [IntKind.wrap_u64]); omega), sub_step xs ys L k x y 1 _ 1 HK.out HX.out HY.out (by omega) (by omega) (by omega) (by (try simp only [IntKind.wrap_u64]); omega) (by omega) HV.out (by (try simp only [IntKind.wrap_u64]); omega), hO3, hb3⟩
        · subst hxy
          go_wp2_with (at_builtin; refine wpList_append_own _ rfl _ _ 28 rfl w.heap.size 47 i0 (.int .u64 0) 1 8 Try.underlying28 hi hz0 hz1 hz2 rfl (by decide) _ _ _ rfl (hown.alloc _) ⟨wr.heap.size, 0, none⟩ 1 1 [_] rfl rfl (cell_one_new _ _ _) (fun x hx => by simp at hx; subst hx; rfl) (by unfold maxLen; omega) (by omega) (by simp; omega) ?_; intro v' w3 hown' hgrow3 hnil3)
          obtain ⟨g3, cap3, hv3, hO3⟩ := own_snoc HK.out hown'
          subst hv3
          have hb3 : Below w.heap.size w w3 := (hbr.alloc hsize _).grown hgrow3 (by simp; omega) (fun q hq => (hown.lt q hq).1)
          clear hgrow3 hnil3 hown'
          refine ⟨?_, by simp [intOf]; omega⟩
          exact ⟨k + 1, _, 1, _, cap3, by omega, by go_num, rfl, by omega, rfl, by simp [HK.out], HU.out.snoc (by (try simp only [IntKind.wrap_u64]); omega) (by (try simp only [IntKind.wrap_u64]); omega), sub_step xs ys L k x x 1 _ 1 HK.out HX.out HY.out (by omega) (by omega) (by omega) (by (try simp only [IntKind.wrap_u64]); omega) (by omega) HV.out (by (try simp only [IntKind.wrap_u64]); omega), hO3, hb3⟩
        · go_wp2_with (at_builtin; refine wpList_append_own _ rfl _ _ 28 rfl w.heap.size 47 i0 (.int .u64 0) 1 8 Try.underlying28 hi hz0 hz1 hz2 rfl (by decide) _ _ _ rfl (hown.alloc _) ⟨wr.heap.size, 0, none⟩ 1 1 [_] rfl rfl (cell_one_new _ _ _) (fun x hx => by simp at hx; subst hx; rfl) (by unfold maxLen; omega) (by omega) (by simp; omega) ?_; intro v' w3 hown' hgrow3 hnil3)
          obtain ⟨g3, cap3, hv3, hO3⟩ := own_snoc HK.out hown'
          subst hv3
          have hb3 : Below w.heap.size w w3 := (hbr.alloc hsize _).grown hgrow3 (by simp; omega) (fun q hq => (hown.lt q hq).1)
          clear hgrow3 hnil3 hown'
          refine ⟨?_, by simp [intOf]; omega⟩
          exact ⟨k + 1, _, 0, _, cap3, by omega, by go_num, rfl, by omega, rfl, by simp [HK.out], HU.out.snoc (by (try simp only [IntKind.wrap_u64]); omega) (by (try simp only [IntKind.wrap_u64]); omega), sub_step xs ys L k x y 1 _ 0 HK.out HX.out HY.out (by omega) (by omega) (by omega) (by (try simp only [IntKind.wrap_u64]); omega) (by omega) HV.out (by (try simp only [IntKind.wrap_u64]); omega), hO3, hb3⟩
    · have HKN : Hid (k = len') := by rw [Hid]; omega
      clear hWr hWr'
      obtain ⟨dl, hdl⟩ : ∃ dl : List Int, dl = L := ⟨_, rfl⟩
      have hOL : Own w.heap.size wr ao cp L := by unfold Own; rw [HK.out]; exact hown
      have hI := hOL.isW' HU.out HK.out
      have NC : Hid _ := nNorm_calls ao k cp L wr hI (by omega)
      clear hI hOL hown hdl dl
      go_wp2_with fail
      refine Calls.mono NC.out ?_
      rintro e w4 ⟨ao4, cv4, rfl, hO4, hb4⟩
      go_wp2_with fail
      go_ret
      have ev : val L = val xs - val ys := by
        have e1 := HV.out
        rw [low_all xs k (by have := X1.out; have := HKN.out; omega), low_all ys k (by have := Y1.out; have := HKN.out; omega)] at e1
        have hlt := val_lt L HU.out
        rw [HK.out] at hlt
        have ec := HC.out
        rcases ec with rfl | rfl
        · simp at e1; omega
        · rw [show (1 : Int).toNat = 1 from rfl, Nat.mul_one] at e1
          generalize 18446744073709551616 ^ k = P at *
          have := HLE.out
          omega
      rw [ev] at hO4
      rw [ev]
      exact ⟨ao4, cv4, rfl, hO4.low hsize, nbelow_trans hbr hb4⟩

theorem nSub_calls (a a' : Option Addr) (len cap len' cap' : Nat) (xs ys : List Int) (w : World) (h : IsW w a len cap xs) (h' : IsW w a' len' cap' ys) (hm : len ≤ 17592186044415) (hm' : len' ≤ 17592186044415) (hle : val ys ≤ val xs) :
    Calls Try.prog 34 #[.slice a len cap, .slice a' len' cap'] w fun e w' => ∃ (ao : Option Addr) (cv : Nat), e = .returned (.slice ao (wordsOf (val xs - val ys)).length cv) ∧ Own w.heap.size w' ao cv (wordsOf (val xs - val ys)) ∧ Below w.heap.size w w' := by
  by_cases hc : len' ≤ len
  · exact nSub_ge a a' len cap len' cap' xs ys w h h' hm hm' hc hle
  · exact nSub_lt a a' len cap len' cap' xs ys w h h' hm hm' (by omega) hle
end Go.Proofs.Ytlbaphijmonjoaa

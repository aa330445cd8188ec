/- The walk of flags.Show: for every byte it answers its text; the set's names stand in the package's variable. The walks of flags.Show and flags.Parse: for every byte, every text. -/
import Derived.Test.YtjapgogiaklodaaGreatDoorGFA
import Derived.Test.YtjapgogiaklodaaGreatDoorShelf
import Derived.Maps.AppendAt

namespace Go.Proofs.YtjapgogiaklodaaGreatDoor.Fl
open Go.RowKit

/-- The variable flags.names holds the five names. -/
def Names (w : World) : Prop := 1 < w.heap.size ∧ ∀ j, j < 5 → w.cell? ⟨1, j, none⟩ = some (.string (nameL j))
theorem Names.kept {w w' : World} (h : Names w) {B : Nat} (hb : Below B w w') (hB : 1 < B) : Names w' :=
  ⟨Nat.lt_of_lt_of_le h.1 hb.size, fun j hj => by rw [hb.cell (p := ⟨1, j, none⟩) hB]; exact h.2 j hj⟩
theorem Names.keep {w w' : World} (h : Names w) (hb : Below w.heap.size w w') : Names w' := h.kept hb h.1
theorem str_info : (Tryz.prog.info? 9).map (fun i => (i.zero, i.size, i.bytes)) = some (some (.string ByteArray.empty), 1, 16) := by kernel_rfl

theorem idx0 (w : World) (a0 a1 a2 a3 a4 : Value) : Sem.run Tryz.prog (Instr.index 107 (.agg #[a0, a1, a2, a3, a4]) (.int .i64 0)) w = .ok a0 w := by kernel_rfl
theorem idx1 (w : World) (a0 a1 a2 a3 a4 : Value) : Sem.run Tryz.prog (Instr.index 107 (.agg #[a0, a1, a2, a3, a4]) (.int .i64 1)) w = .ok a1 w := by kernel_rfl
theorem idx2 (w : World) (a0 a1 a2 a3 a4 : Value) : Sem.run Tryz.prog (Instr.index 107 (.agg #[a0, a1, a2, a3, a4]) (.int .i64 2)) w = .ok a2 w := by kernel_rfl
theorem idx3 (w : World) (a0 a1 a2 a3 a4 : Value) : Sem.run Tryz.prog (Instr.index 107 (.agg #[a0, a1, a2, a3, a4]) (.int .i64 3)) w = .ok a3 w := by kernel_rfl
theorem idx4 (w : World) (a0 a1 a2 a3 a4 : Value) : Sem.run Tryz.prog (Instr.index 107 (.agg #[a0, a1, a2, a3, a4]) (.int .i64 4)) w = .ok a4 w := by kernel_rfl

set_option maxRecDepth 100000 in
set_option maxHeartbeats 4000000 in
theorem joined_calls (f : Int) (w : World) (hf : F f) (hN : Names w) (hr : rightB f = true) (h0 : (f == 0) = false) :
    Calls Tryz.prog 45 #[.int .u8 f] w fun e w' => e = .returned (.string (joinedS f)) ∧ Below w.heap.size w w' := by
  obtain ⟨i0, hi, hz0, hz1, hz2⟩ := info_parts str_info
  have n0 := hN.2 0 (by decide)
  have n1 := hN.2 1 (by decide)
  have n2 := hN.2 2 (by decide)
  have n3 := hN.2 3 (by decide)
  have n4 := hN.2 4 (by decide)
  have HN : Hid (wordsK f 5 ≠ []) := words_some f hf hr (by simpa using h0)
  have HLn : Hid _ := joined_len f hf
  clear hN hf
  go_enter Tryz.func45, Tryz.ntmps45
  go_wp2_with (go_at_call 81; refine (fRight_calls _ _).mono ?_; rintro e w ⟨rfl, rfl⟩)
  clear n0 n1 n2 n3 n4
  go_loopw [3, 12] (fun v i wr => ∃ (k : Nat) (ao : Option Addr) (cv : Nat), k ≤ 5 ∧ i = .int .i64 k ∧ v = .slice ao (wordsK f k).length cv ∧ wr.ownsRow w.heap.size 9 1 v (wordsK f k).length ((wordsK f k).map Value.string) ∧ Below w.heap.size w wr) (fun _ i _ => 5 - (intOf i).toNat)
  case atStart => exact ⟨0, none, 0, by omega, rfl, rfl, World.ownsRow_nil _ _ _ _, Below.refl _ _⟩
  case round =>
    obtain ⟨k, ao, cv, hk, rfl, rfl, hown, hnx⟩ := hrel
    have hsize := hnx.size
    rcases (show k = 0 ∨ k = 1 ∨ k = 2 ∨ k = 3 ∨ k = 4 ∨ k = 5 from by omega) with rfl | rfl | rfl | rfl | rfl | rfl
    · have hpl := words_len f 0
      have hix := idx0
      cases hbit : hasB f 1
      · have hpk : wordsK f 1 = wordsK f 0 := by show wordsK f 0 ++ (if hasB f (2 ^ 0) = true then [nameL 0] else []) = _; rw [show (2 : Int) ^ 0 = 1 from rfl, hbit]; simp
        have HPK : Hid (wordsK f 1 = wordsK f 0) := hpk
        clear hpk
        go_wp2_with (go_at_call 82; refine (fHas_calls _ _ _).mono ?_; rintro e wr ⟨rfl, rfl⟩)
        go_roundw
        case rel => exact ⟨1, ao, cv, by omega, by first | rfl | simp, by rw [HPK.out], by rw [HPK.out]; exact hown, hnx⟩
        case measure => simp [intOf]
      · have hpk : wordsK f 1 = wordsK f 0 ++ [nameL 0] := by show wordsK f 0 ++ (if hasB f (2 ^ 0) = true then [nameL 0] else []) = _; rw [show (2 : Int) ^ 0 = 1 from rfl, hbit]; rfl
        have HPK : Hid (wordsK f 1 = wordsK f 0 ++ [nameL 0]) := hpk
        clear hpk
        go_wp2_with (first
          | (go_at_call 82; refine (fHas_calls _ _ _).mono ?_; rintro e wr ⟨rfl, rfl⟩)
          | (at_builtin; go_must (refine wpList_append_own _ rfl _ _ 106 rfl w.heap.size 9 i0 (.string ByteArray.empty) 1 16 Tryz.underlying106 hi hz0 hz1 hz2 rfl (by decide) _ _ _ rfl (hown.alloc _) ⟨wr.heap.size, 0, none⟩ 1 1 [.string (nameL 0)] rfl rfl (cell_one_new _ _ _) (fun x hx => by simp at hx; subst hx; rfl) (by unfold maxLen; omega) (by omega) (by simp; omega) ?_); intro v' w3 hown' hgrow3 hnil3))
        go_roundw
        case rel =>
          obtain ⟨g3, cap3, hv3⟩ : ∃ g3 cap3, v' = .slice (some ⟨g3, 0, none⟩) ((wordsK f 0).length + 1) cap3 := by
            rcases hown'.2 with ⟨_, h⟩ | ⟨g3, cap3, _, h, _⟩
            · omega
            · exact ⟨g3, cap3, h⟩
          exact ⟨1, some ⟨g3, 0, none⟩, cap3, by omega, by first | rfl | simp, by rw [hv3, HPK.out]; simp, by rw [HPK.out, List.map_append, List.length_append]; exact hown', (hnx.alloc hsize _).grown hgrow3 (by simp; omega) (fun q hq => (hown.lt q hq).1)⟩
        case measure => simp [intOf]
    · have hpl := words_len f 1
      have hix := idx1
      cases hbit : hasB f 2
      · have hpk : wordsK f 2 = wordsK f 1 := by show wordsK f 1 ++ (if hasB f (2 ^ 1) = true then [nameL 1] else []) = _; rw [show (2 : Int) ^ 1 = 2 from rfl, hbit]; simp
        have HPK : Hid (wordsK f 2 = wordsK f 1) := hpk
        clear hpk
        go_wp2_with (go_at_call 82; refine (fHas_calls _ _ _).mono ?_; rintro e wr ⟨rfl, rfl⟩)
        go_roundw
        case rel => exact ⟨2, ao, cv, by omega, by first | rfl | simp, by rw [HPK.out], by rw [HPK.out]; exact hown, hnx⟩
        case measure => simp [intOf]
      · have hpk : wordsK f 2 = wordsK f 1 ++ [nameL 1] := by show wordsK f 1 ++ (if hasB f (2 ^ 1) = true then [nameL 1] else []) = _; rw [show (2 : Int) ^ 1 = 2 from rfl, hbit]; rfl
        have HPK : Hid (wordsK f 2 = wordsK f 1 ++ [nameL 1]) := hpk
        clear hpk
        go_wp2_with (first
          | (go_at_call 82; refine (fHas_calls _ _ _).mono ?_; rintro e wr ⟨rfl, rfl⟩)
          | (at_builtin; go_must (refine wpList_append_own _ rfl _ _ 106 rfl w.heap.size 9 i0 (.string ByteArray.empty) 1 16 Tryz.underlying106 hi hz0 hz1 hz2 rfl (by decide) _ _ _ rfl (hown.alloc _) ⟨wr.heap.size, 0, none⟩ 1 1 [.string (nameL 1)] rfl rfl (cell_one_new _ _ _) (fun x hx => by simp at hx; subst hx; rfl) (by unfold maxLen; omega) (by omega) (by simp; omega) ?_); intro v' w3 hown' hgrow3 hnil3))
        go_roundw
        case rel =>
          obtain ⟨g3, cap3, hv3⟩ : ∃ g3 cap3, v' = .slice (some ⟨g3, 0, none⟩) ((wordsK f 1).length + 1) cap3 := by
            rcases hown'.2 with ⟨_, h⟩ | ⟨g3, cap3, _, h, _⟩
            · omega
            · exact ⟨g3, cap3, h⟩
          exact ⟨2, some ⟨g3, 0, none⟩, cap3, by omega, by first | rfl | simp, by rw [hv3, HPK.out]; simp, by rw [HPK.out, List.map_append, List.length_append]; exact hown', (hnx.alloc hsize _).grown hgrow3 (by simp; omega) (fun q hq => (hown.lt q hq).1)⟩
        case measure => simp [intOf]
    · have hpl := words_len f 2
      have hix := idx2
      cases hbit : hasB f 4
      · have hpk : wordsK f 3 = wordsK f 2 := by show wordsK f 2 ++ (if hasB f (2 ^ 2) = true then [nameL 2] else []) = _; rw [show (2 : Int) ^ 2 = 4 from rfl, hbit]; simp
        have HPK : Hid (wordsK f 3 = wordsK f 2) := hpk
        clear hpk
        go_wp2_with (go_at_call 82; refine (fHas_calls _ _ _).mono ?_; rintro e wr ⟨rfl, rfl⟩)
        go_roundw
        case rel => exact ⟨3, ao, cv, by omega, by first | rfl | simp, by rw [HPK.out], by rw [HPK.out]; exact hown, hnx⟩
        case measure => simp [intOf]
      · have hpk : wordsK f 3 = wordsK f 2 ++ [nameL 2] := by show wordsK f 2 ++ (if hasB f (2 ^ 2) = true then [nameL 2] else []) = _; rw [show (2 : Int) ^ 2 = 4 from rfl, hbit]; rfl
        have HPK : Hid (wordsK f 3 = wordsK f 2 ++ [nameL 2]) := hpk
        clear hpk
        go_wp2_with (first
          | (go_at_call 82; refine (fHas_calls _ _ _).mono ?_; rintro e wr ⟨rfl, rfl⟩)
          | (at_builtin; go_must (refine wpList_append_own _ rfl _ _ 106 rfl w.heap.size 9 i0 (.string ByteArray.empty) 1 16 Tryz.underlying106 hi hz0 hz1 hz2 rfl (by decide) _ _ _ rfl (hown.alloc _) ⟨wr.heap.size, 0, none⟩ 1 1 [.string (nameL 2)] rfl rfl (cell_one_new _ _ _) (fun x hx => by simp at hx; subst hx; rfl) (by unfold maxLen; omega) (by omega) (by simp; omega) ?_); intro v' w3 hown' hgrow3 hnil3))
        go_roundw
        case rel =>
          obtain ⟨g3, cap3, hv3⟩ : ∃ g3 cap3, v' = .slice (some ⟨g3, 0, none⟩) ((wordsK f 2).length + 1) cap3 := by
            rcases hown'.2 with ⟨_, h⟩ | ⟨g3, cap3, _, h, _⟩
            · omega
            · exact ⟨g3, cap3, h⟩
          exact ⟨3, some ⟨g3, 0, none⟩, cap3, by omega, by first | rfl | simp, by rw [hv3, HPK.out]; simp, by rw [HPK.out, List.map_append, List.length_append]; exact hown', (hnx.alloc hsize _).grown hgrow3 (by simp; omega) (fun q hq => (hown.lt q hq).1)⟩
        case measure => simp [intOf]
    · have hpl := words_len f 3
      have hix := idx3
      cases hbit : hasB f 8
      · have hpk : wordsK f 4 = wordsK f 3 := by show wordsK f 3 ++ (if hasB f (2 ^ 3) = true then [nameL 3] else []) = _; rw [show (2 : Int) ^ 3 = 8 from rfl, hbit]; simp
        have HPK : Hid (wordsK f 4 = wordsK f 3) := hpk
        clear hpk
        go_wp2_with (go_at_call 82; refine (fHas_calls _ _ _).mono ?_; rintro e wr ⟨rfl, rfl⟩)
        go_roundw
        case rel => exact ⟨4, ao, cv, by omega, by first | rfl | simp, by rw [HPK.out], by rw [HPK.out]; exact hown, hnx⟩
        case measure => simp [intOf]
      · have hpk : wordsK f 4 = wordsK f 3 ++ [nameL 3] := by show wordsK f 3 ++ (if hasB f (2 ^ 3) = true then [nameL 3] else []) = _; rw [show (2 : Int) ^ 3 = 8 from rfl, hbit]; rfl
        have HPK : Hid (wordsK f 4 = wordsK f 3 ++ [nameL 3]) := hpk
        clear hpk
        go_wp2_with (first
          | (go_at_call 82; refine (fHas_calls _ _ _).mono ?_; rintro e wr ⟨rfl, rfl⟩)
          | (at_builtin; go_must (refine wpList_append_own _ rfl _ _ 106 rfl w.heap.size 9 i0 (.string ByteArray.empty) 1 16 Tryz.underlying106 hi hz0 hz1 hz2 rfl (by decide) _ _ _ rfl (hown.alloc _) ⟨wr.heap.size, 0, none⟩ 1 1 [.string (nameL 3)] rfl rfl (cell_one_new _ _ _) (fun x hx => by simp at hx; subst hx; rfl) (by unfold maxLen; omega) (by omega) (by simp; omega) ?_); intro v' w3 hown' hgrow3 hnil3))
        go_roundw
        case rel =>
          obtain ⟨g3, cap3, hv3⟩ : ∃ g3 cap3, v' = .slice (some ⟨g3, 0, none⟩) ((wordsK f 3).length + 1) cap3 := by
            rcases hown'.2 with ⟨_, h⟩ | ⟨g3, cap3, _, h, _⟩
            · omega
            · exact ⟨g3, cap3, h⟩
          exact ⟨4, some ⟨g3, 0, none⟩, cap3, by omega, by first | rfl | simp, by rw [hv3, HPK.out]; simp, by rw [HPK.out, List.map_append, List.length_append]; exact hown', (hnx.alloc hsize _).grown hgrow3 (by simp; omega) (fun q hq => (hown.lt q hq).1)⟩
        case measure => simp [intOf]
    · have hpl := words_len f 4
      have hix := idx4
      cases hbit : hasB f 16
      · have hpk : wordsK f 5 = wordsK f 4 := by show wordsK f 4 ++ (if hasB f (2 ^ 4) = true then [nameL 4] else []) = _; rw [show (2 : Int) ^ 4 = 16 from rfl, hbit]; simp
        have HPK : Hid (wordsK f 5 = wordsK f 4) := hpk
        clear hpk
        go_wp2_with (go_at_call 82; refine (fHas_calls _ _ _).mono ?_; rintro e wr ⟨rfl, rfl⟩)
        go_roundw
        case rel => exact ⟨5, ao, cv, by omega, by first | rfl | simp, by rw [HPK.out], by rw [HPK.out]; exact hown, hnx⟩
        case measure => simp [intOf]
      · have hpk : wordsK f 5 = wordsK f 4 ++ [nameL 4] := by show wordsK f 4 ++ (if hasB f (2 ^ 4) = true then [nameL 4] else []) = _; rw [show (2 : Int) ^ 4 = 16 from rfl, hbit]; rfl
        have HPK : Hid (wordsK f 5 = wordsK f 4 ++ [nameL 4]) := hpk
        clear hpk
        go_wp2_with (first
          | (go_at_call 82; refine (fHas_calls _ _ _).mono ?_; rintro e wr ⟨rfl, rfl⟩)
          | (at_builtin; go_must (refine wpList_append_own _ rfl _ _ 106 rfl w.heap.size 9 i0 (.string ByteArray.empty) 1 16 Tryz.underlying106 hi hz0 hz1 hz2 rfl (by decide) _ _ _ rfl (hown.alloc _) ⟨wr.heap.size, 0, none⟩ 1 1 [.string (nameL 4)] rfl rfl (cell_one_new _ _ _) (fun x hx => by simp at hx; subst hx; rfl) (by unfold maxLen; omega) (by omega) (by simp; omega) ?_); intro v' w3 hown' hgrow3 hnil3))
        go_roundw
        case rel =>
          obtain ⟨g3, cap3, hv3⟩ : ∃ g3 cap3, v' = .slice (some ⟨g3, 0, none⟩) ((wordsK f 4).length + 1) cap3 := by
            rcases hown'.2 with ⟨_, h⟩ | ⟨g3, cap3, _, h, _⟩
            · omega
            · exact ⟨g3, cap3, h⟩
          exact ⟨5, some ⟨g3, 0, none⟩, cap3, by omega, by first | rfl | simp, by rw [hv3, HPK.out]; simp, by rw [HPK.out, List.map_append, List.length_append]; exact hown', (hnx.alloc hsize _).grown hgrow3 (by simp; omega) (fun q hq => (hown.lt q hq).1)⟩
        case measure => simp [intOf]
    · obtain ⟨g, hao⟩ : ∃ g, ao = some ⟨g, 0, none⟩ := by
        rcases hown.2 with ⟨_, h⟩ | ⟨g, cap, _, h, _⟩
        · exact absurd (List.length_eq_zero_iff.1 h) HN.out
        · simp only [Value.slice.injEq] at h
          exact ⟨g, h.1⟩
      subst hao
      have hcells : ∀ (j : Nat) x, (wordsK f 5)[j]? = some x → wr.cell? ⟨g, 0 + j, none⟩ = some (.string x) := by
        intro j x hj
        have hjl := (List.getElem?_eq_some_iff.1 hj).1
        rw [Nat.zero_add, hown.cellAt j (by omega)]
        simp [hj]
      have hgl : g < wr.heap.size := World.block_lt_of_cell? _ _ (hcells 0 _ (List.getElem?_eq_getElem (List.length_pos_iff.2 HN.out)))
      have hcap : (wordsK f 5).length ≤ cv := by
        rcases hown.2 with ⟨h, _⟩ | ⟨g', cap, _, h, _, _, hn, _⟩
        · cases h
        · simp only [Value.slice.injEq] at h
          omega
      go_wp2_with (go_at_call 83; refine (Tryz.strings_Join g 0 cv (wordsK f 5) ⟨#[32]⟩ _ hcells hgl (by have := words_len f 5; omega) hcap HLn.out).mono ?_; rintro e w' ⟨rfl, hb5⟩)
      go_ret
      exact ⟨rfl, hnx.trans (hb5.mono hsize)⟩
end Go.Proofs.YtjapgogiaklodaaGreatDoor.Fl

namespace Go.Proofs.YtjapgogiaklodaaGreatDoor.Fl
open Go.RowKit

set_option maxHeartbeats 400000 in
theorem fShow_calls (f : Int) (w : World) (hf : F f) (hN : Names w) :
    Calls Tryz.prog 45 #[.int .u8 f] w fun e w' => e = .returned (.string (showS f)) ∧ Below w.heap.size w w' := by
  cases hr : rightB f
  · have hV : Hid (showS f = ByteArray.empty) := by unfold showS; rw [Hid, hr]; rfl
    clear hN
    go_enter Tryz.func45, Tryz.ntmps45
    go_wp2_with (go_at_call 81; refine (fRight_calls _ _).mono ?_; rintro e w ⟨rfl, rfl⟩)
    go_ret
    rw [hV.out]
    exact ⟨rfl, Below.refl _ _⟩
  · by_cases h0 : f = 0
    · have hV : Hid (showS f = noneS) := by unfold showS; rw [Hid, hr, if_pos rfl, if_pos h0]
      have h0' : (f == 0) = true := by simp [h0]
      clear hN h0
      go_enter Tryz.func45, Tryz.ntmps45
      go_wp2_with (go_at_call 81; refine (fRight_calls _ _).mono ?_; rintro e w ⟨rfl, rfl⟩)
      go_ret
      rw [hV.out]
      exact ⟨rfl, Below.refl _ _⟩
    · have hV : showS f = joinedS f := by unfold showS; rw [hr, if_pos rfl, if_neg h0]
      rw [hV]
      exact joined_calls f w hf hN hr (by simp [h0])

/-- The first of the sets below k whose text is s. -/
def findK (s : ByteArray) : Nat → Option Nat
  | 0 => none
  | k + 1 => match findK s k with
    | some j => some j
    | none => if ((showS k).toList == s.toList) = true then some k else none
def parseV (s : ByteArray) : Int := ((findK s 32).getD 0 : Nat)
def parseE (s : ByteArray) : Int := if (findK s 32).isSome = true then 0 else 20
theorem findK_mono (s : ByteArray) (j : Nat) : ∀ (k d : Nat), findK s k = some j → findK s (k + d) = some j
  | _, 0, h => h
  | k, d + 1, h => by
    have := findK_mono s j k d h
    show (match findK s (k + d) with | some j => some j | none => _) = _
    rw [this]
theorem findK_hit (s : ByteArray) (k : Nat) (h : findK s k = none) (hs : ((showS k).toList == s.toList) = true) (hk : k < 32) : findK s 32 = some k := by
  have h1 : findK s (k + 1) = some k := by
    show (match findK s k with | some j => some j | none => if ((showS k).toList == s.toList) = true then some k else none) = _
    rw [h]; simp [hs]
  have := findK_mono s k (k + 1) (31 - k) h1
  rwa [show k + 1 + (31 - k) = 32 by omega] at this
theorem findK_miss (s : ByteArray) (k : Nat) (h : findK s k = none) (hs : ((showS k).toList == s.toList) = false) : findK s (k + 1) = none := by
  show (match findK s k with | some j => some j | none => if ((showS k).toList == s.toList) = true then some k else none) = _
  rw [h]; simp [hs]

set_option maxHeartbeats 1000000 in
theorem fParse_calls (s : ByteArray) (w : World) (hN : Names w) :
    Calls Tryz.prog 16 #[.string s] w fun e w' => e = .returned (.tuple #[.int .u8 (parseV s), .int .i64 (parseE s)]) ∧ Below w.heap.size w w' := by
  go_enter Tryz.func16, Tryz.ntmps16
  go_wp2
  go_loopw [5] (fun i wr => ∃ k : Nat, k ≤ 32 ∧ i = .int .u8 k ∧ findK s k = none ∧ Below w.heap.size w wr) (fun i _ => 32 - (intOf i).toNat)
  case atStart => exact ⟨0, by omega, rfl, rfl, Below.refl _ _⟩
  case round =>
    obtain ⟨k, hk, rfl, hn, hnx⟩ := hrel
    have HN : Hid (findK s k = none) := hn
    clear hn
    have hNr := hN.keep hnx
    by_cases hlt : k < 32
    · have hF : F (k : Int) := by unfold F; omega
      cases hs : ((showS k).toList == s.toList)
      · have HM : Hid _ := findK_miss s k HN.out hs
        go_wp2_with (go_at_call 45; refine (fShow_calls _ _ hF hNr).mono ?_; rintro e w1 ⟨rfl, hb1⟩)
        go_roundw
        case rel => exact ⟨k + 1, by omega, by go_num, HM.out, hnx.trans (hb1.mono hnx.size)⟩
        case measure => simp [intOf]; omega
      · have HM : Hid _ := findK_hit s k HN.out hs hlt
        have HV : Hid (parseV s = k) := by unfold parseV; rw [Hid, HM.out]; rfl
        have HE : Hid (parseE s = 0) := by unfold parseE; rw [Hid, HM.out]; rfl
        go_wp2_with (go_at_call 45; refine (fShow_calls _ _ hF hNr).mono ?_; rintro e w1 ⟨rfl, hb1⟩)
        go_ret2
        rw [HV.out, HE.out]
        exact ⟨rfl, hnx.trans (hb1.mono hnx.size)⟩
    · obtain rfl : k = 32 := by omega
      have HV : Hid (parseV s = 0) := by unfold parseV; rw [Hid, HN.out]; rfl
      have HE : Hid (parseE s = 20) := by unfold parseE; rw [Hid, HN.out]; rfl
      go_wp2
      go_ret2
      rw [HV.out, HE.out]
      exact ⟨rfl, hnx⟩
end Go.Proofs.YtjapgogiaklodaaGreatDoor.Fl

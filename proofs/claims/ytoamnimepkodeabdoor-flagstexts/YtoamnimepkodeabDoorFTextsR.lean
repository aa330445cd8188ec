/- The walks of the document's answers for layer 2: Each, the names, Show, Parse, and that two lists are the same. -/
import Derived.Test.YtoamnimepkodeabDoorFBackP
import Derived.Test.YtoamnimepkodeabDoorFSets
import Derived.Deep.QuietTactic
import Derived.BigQuiet
namespace Go.Proofs.YtoamnimepkodeabDoor
open Go.RowKit

theorem mask1 (f : Int) (hf : F f) : (bits .and .u8 f 1 != 0) = hasB f 1 := byte_all (p := fun f => (bits .and .u8 f 1 != 0) = hasB f 1) (by decide +kernel) f hf
theorem mask2 (f : Int) (hf : F f) : (bits .and .u8 f 2 != 0) = hasB f 2 := byte_all (p := fun f => (bits .and .u8 f 2 != 0) = hasB f 2) (by decide +kernel) f hf
theorem mask4 (f : Int) (hf : F f) : (bits .and .u8 f 4 != 0) = hasB f 4 := byte_all (p := fun f => (bits .and .u8 f 4 != 0) = hasB f 4) (by decide +kernel) f hf
theorem mask8 (f : Int) (hf : F f) : (bits .and .u8 f 8 != 0) = hasB f 8 := byte_all (p := fun f => (bits .and .u8 f 8 != 0) = hasB f 8) (by decide +kernel) f hf
theorem mask16 (f : Int) (hf : F f) : (bits .and .u8 f 16 != 0) = hasB f 16 := byte_all (p := fun f => (bits .and .u8 f 16 != 0) = hasB f 16) (by decide +kernel) f hf

set_option maxRecDepth 100000 in
set_option maxHeartbeats 4000000 in
theorem rEach_calls (f : Int) (w : World) (hf : F f) :
    Calls Tryd.prog 31 #[.int .u8 f] w fun e w' => ∃ (ao : Option Addr) (cv : Nat), e = .returned (.slice ao (eachK f 5).length cv) ∧ w'.ownsRow w.heap.size 34 1 (.slice ao (eachK f 5).length cv) (eachK f 5).length ((eachK f 5).map (Value.int .u8)) ∧ Below w.heap.size w w' := by
  obtain ⟨i0, hi, hz0, hz1, hz2⟩ := info_parts flag_info
  go_enter Tryd.func31, Tryd.ntmps31
  go_wp2
  go_loopw [3, 4] (fun v i wr => ∃ (k : Nat) (ao : Option Addr) (cv : Nat), k ≤ 5 ∧ i = .int .u8 (2 ^ k) ∧ v = .slice ao (eachK f k).length cv ∧ wr.ownsRow w.heap.size 34 1 v (eachK f k).length ((eachK f k).map (Value.int .u8)) ∧ Below w.heap.size w wr) (fun _ i _ => 32 - (intOf i).toNat)
  case atStart => exact ⟨0, none, 0, by omega, rfl, rfl, World.ownsRow_nil _ _ _ _, Below.refl _ _⟩
  case round =>
    obtain ⟨k, ao, cv, hk, rfl, rfl, hown, hnx⟩ := hrel
    have hsize := hnx.size
    rcases (show k = 0 ∨ k = 1 ∨ k = 2 ∨ k = 3 ∨ k = 4 ∨ k = 5 from by omega) with rfl | rfl | rfl | rfl | rfl | rfl
    · have hpl := each_len f 0
      have hm := mask1 f hf
      cases hbit : hasB f 1
      · have hm' : (bits .and .u8 f 1 != 0) = false := by rw [hm, hbit]
        have HPK : Hid (eachK f 1 = eachK f 0) := by show eachK f 0 ++ (if hasB f (2 ^ 0) = true then [(2 : Int) ^ 0] else []) = _; rw [show (2 : Int) ^ 0 = 1 from rfl, hbit]; simp
        clear hm
        go_wp2
        go_roundw
        case rel => exact ⟨1, ao, cv, by omega, by first | rfl | simp, by rw [HPK.out], by rw [HPK.out]; exact hown, hnx⟩
        case measure => simp [intOf]
      · have hm' : (bits .and .u8 f 1 != 0) = true := by rw [hm, hbit]
        have HPK : Hid (eachK f 1 = eachK f 0 ++ [1]) := by show eachK f 0 ++ (if hasB f (2 ^ 0) = true then [(2 : Int) ^ 0] else []) = _; rw [show (2 : Int) ^ 0 = 1 from rfl, hbit]; rfl
        clear hm
        go_wp2_with (at_builtin; refine wpList_append_own _ rfl _ _ 43 rfl w.heap.size 34 i0 (.int .u8 0) 1 1 Tryd.underlying43 hi hz0 hz1 hz2 rfl (by decide) _ _ _ rfl (hown.alloc _) ⟨wr.heap.size, 0, none⟩ 1 1 [.int .u8 1] rfl rfl (cell_one_new _ _ _) (fun x hx => by simp at hx; subst hx; rfl) (by unfold maxLen; omega) (by omega) (by simp; omega) ?_; intro v' w3 hown' hgrow3 hnil3)
        go_roundw
        case rel =>
          obtain ⟨g3, cap3, hv3⟩ : ∃ g3 cap3, v' = .slice (some ⟨g3, 0, none⟩) ((eachK f 0).length + 1) cap3 := by
            rcases hown'.2 with ⟨_, h⟩ | ⟨g3, cap3, _, h, _⟩
            · omega
            · exact ⟨g3, cap3, h⟩
          exact ⟨1, some ⟨g3, 0, none⟩, cap3, by omega, by first | rfl | simp, by rw [hv3, HPK.out]; simp, by rw [HPK.out, List.map_append, List.length_append]; exact hown', (hnx.alloc hsize _).grown hgrow3 (by simp; omega) (fun q hq => (hown.lt q hq).1)⟩
        case measure => simp [intOf]
    · have hpl := each_len f 1
      have hm := mask2 f hf
      cases hbit : hasB f 2
      · have hm' : (bits .and .u8 f 2 != 0) = false := by rw [hm, hbit]
        have HPK : Hid (eachK f 2 = eachK f 1) := by show eachK f 1 ++ (if hasB f (2 ^ 1) = true then [(2 : Int) ^ 1] else []) = _; rw [show (2 : Int) ^ 1 = 2 from rfl, hbit]; simp
        clear hm
        go_wp2
        go_roundw
        case rel => exact ⟨2, ao, cv, by omega, by first | rfl | simp, by rw [HPK.out], by rw [HPK.out]; exact hown, hnx⟩
        case measure => simp [intOf]
      · have hm' : (bits .and .u8 f 2 != 0) = true := by rw [hm, hbit]
        have HPK : Hid (eachK f 2 = eachK f 1 ++ [2]) := by show eachK f 1 ++ (if hasB f (2 ^ 1) = true then [(2 : Int) ^ 1] else []) = _; rw [show (2 : Int) ^ 1 = 2 from rfl, hbit]; rfl
        clear hm
        go_wp2_with (at_builtin; refine wpList_append_own _ rfl _ _ 43 rfl w.heap.size 34 i0 (.int .u8 0) 1 1 Tryd.underlying43 hi hz0 hz1 hz2 rfl (by decide) _ _ _ rfl (hown.alloc _) ⟨wr.heap.size, 0, none⟩ 1 1 [.int .u8 2] rfl rfl (cell_one_new _ _ _) (fun x hx => by simp at hx; subst hx; rfl) (by unfold maxLen; omega) (by omega) (by simp; omega) ?_; intro v' w3 hown' hgrow3 hnil3)
        go_roundw
        case rel =>
          obtain ⟨g3, cap3, hv3⟩ : ∃ g3 cap3, v' = .slice (some ⟨g3, 0, none⟩) ((eachK f 1).length + 1) cap3 := by
            rcases hown'.2 with ⟨_, h⟩ | ⟨g3, cap3, _, h, _⟩
            · omega
            · exact ⟨g3, cap3, h⟩
          exact ⟨2, some ⟨g3, 0, none⟩, cap3, by omega, by first | rfl | simp, by rw [hv3, HPK.out]; simp, by rw [HPK.out, List.map_append, List.length_append]; exact hown', (hnx.alloc hsize _).grown hgrow3 (by simp; omega) (fun q hq => (hown.lt q hq).1)⟩
        case measure => simp [intOf]
    · have hpl := each_len f 2
      have hm := mask4 f hf
      cases hbit : hasB f 4
      · have hm' : (bits .and .u8 f 4 != 0) = false := by rw [hm, hbit]
        have HPK : Hid (eachK f 3 = eachK f 2) := by show eachK f 2 ++ (if hasB f (2 ^ 2) = true then [(2 : Int) ^ 2] else []) = _; rw [show (2 : Int) ^ 2 = 4 from rfl, hbit]; simp
        clear hm
        go_wp2
        go_roundw
        case rel => exact ⟨3, ao, cv, by omega, by first | rfl | simp, by rw [HPK.out], by rw [HPK.out]; exact hown, hnx⟩
        case measure => simp [intOf]
      · have hm' : (bits .and .u8 f 4 != 0) = true := by rw [hm, hbit]
        have HPK : Hid (eachK f 3 = eachK f 2 ++ [4]) := by show eachK f 2 ++ (if hasB f (2 ^ 2) = true then [(2 : Int) ^ 2] else []) = _; rw [show (2 : Int) ^ 2 = 4 from rfl, hbit]; rfl
        clear hm
        go_wp2_with (at_builtin; refine wpList_append_own _ rfl _ _ 43 rfl w.heap.size 34 i0 (.int .u8 0) 1 1 Tryd.underlying43 hi hz0 hz1 hz2 rfl (by decide) _ _ _ rfl (hown.alloc _) ⟨wr.heap.size, 0, none⟩ 1 1 [.int .u8 4] rfl rfl (cell_one_new _ _ _) (fun x hx => by simp at hx; subst hx; rfl) (by unfold maxLen; omega) (by omega) (by simp; omega) ?_; intro v' w3 hown' hgrow3 hnil3)
        go_roundw
        case rel =>
          obtain ⟨g3, cap3, hv3⟩ : ∃ g3 cap3, v' = .slice (some ⟨g3, 0, none⟩) ((eachK f 2).length + 1) cap3 := by
            rcases hown'.2 with ⟨_, h⟩ | ⟨g3, cap3, _, h, _⟩
            · omega
            · exact ⟨g3, cap3, h⟩
          exact ⟨3, some ⟨g3, 0, none⟩, cap3, by omega, by first | rfl | simp, by rw [hv3, HPK.out]; simp, by rw [HPK.out, List.map_append, List.length_append]; exact hown', (hnx.alloc hsize _).grown hgrow3 (by simp; omega) (fun q hq => (hown.lt q hq).1)⟩
        case measure => simp [intOf]
    · have hpl := each_len f 3
      have hm := mask8 f hf
      cases hbit : hasB f 8
      · have hm' : (bits .and .u8 f 8 != 0) = false := by rw [hm, hbit]
        have HPK : Hid (eachK f 4 = eachK f 3) := by show eachK f 3 ++ (if hasB f (2 ^ 3) = true then [(2 : Int) ^ 3] else []) = _; rw [show (2 : Int) ^ 3 = 8 from rfl, hbit]; simp
        clear hm
        go_wp2
        go_roundw
        case rel => exact ⟨4, ao, cv, by omega, by first | rfl | simp, by rw [HPK.out], by rw [HPK.out]; exact hown, hnx⟩
        case measure => simp [intOf]
      · have hm' : (bits .and .u8 f 8 != 0) = true := by rw [hm, hbit]
        have HPK : Hid (eachK f 4 = eachK f 3 ++ [8]) := by show eachK f 3 ++ (if hasB f (2 ^ 3) = true then [(2 : Int) ^ 3] else []) = _; rw [show (2 : Int) ^ 3 = 8 from rfl, hbit]; rfl
        clear hm
        go_wp2_with (at_builtin; refine wpList_append_own _ rfl _ _ 43 rfl w.heap.size 34 i0 (.int .u8 0) 1 1 Tryd.underlying43 hi hz0 hz1 hz2 rfl (by decide) _ _ _ rfl (hown.alloc _) ⟨wr.heap.size, 0, none⟩ 1 1 [.int .u8 8] rfl rfl (cell_one_new _ _ _) (fun x hx => by simp at hx; subst hx; rfl) (by unfold maxLen; omega) (by omega) (by simp; omega) ?_; intro v' w3 hown' hgrow3 hnil3)
        go_roundw
        case rel =>
          obtain ⟨g3, cap3, hv3⟩ : ∃ g3 cap3, v' = .slice (some ⟨g3, 0, none⟩) ((eachK f 3).length + 1) cap3 := by
            rcases hown'.2 with ⟨_, h⟩ | ⟨g3, cap3, _, h, _⟩
            · omega
            · exact ⟨g3, cap3, h⟩
          exact ⟨4, some ⟨g3, 0, none⟩, cap3, by omega, by first | rfl | simp, by rw [hv3, HPK.out]; simp, by rw [HPK.out, List.map_append, List.length_append]; exact hown', (hnx.alloc hsize _).grown hgrow3 (by simp; omega) (fun q hq => (hown.lt q hq).1)⟩
        case measure => simp [intOf]
    · have hpl := each_len f 4
      have hm := mask16 f hf
      cases hbit : hasB f 16
      · have hm' : (bits .and .u8 f 16 != 0) = false := by rw [hm, hbit]
        have HPK : Hid (eachK f 5 = eachK f 4) := by show eachK f 4 ++ (if hasB f (2 ^ 4) = true then [(2 : Int) ^ 4] else []) = _; rw [show (2 : Int) ^ 4 = 16 from rfl, hbit]; simp
        clear hm
        go_wp2
        go_roundw
        case rel => exact ⟨5, ao, cv, by omega, by first | rfl | simp, by rw [HPK.out], by rw [HPK.out]; exact hown, hnx⟩
        case measure => simp [intOf]
      · have hm' : (bits .and .u8 f 16 != 0) = true := by rw [hm, hbit]
        have HPK : Hid (eachK f 5 = eachK f 4 ++ [16]) := by show eachK f 4 ++ (if hasB f (2 ^ 4) = true then [(2 : Int) ^ 4] else []) = _; rw [show (2 : Int) ^ 4 = 16 from rfl, hbit]; rfl
        clear hm
        go_wp2_with (at_builtin; refine wpList_append_own _ rfl _ _ 43 rfl w.heap.size 34 i0 (.int .u8 0) 1 1 Tryd.underlying43 hi hz0 hz1 hz2 rfl (by decide) _ _ _ rfl (hown.alloc _) ⟨wr.heap.size, 0, none⟩ 1 1 [.int .u8 16] rfl rfl (cell_one_new _ _ _) (fun x hx => by simp at hx; subst hx; rfl) (by unfold maxLen; omega) (by omega) (by simp; omega) ?_; intro v' w3 hown' hgrow3 hnil3)
        go_roundw
        case rel =>
          obtain ⟨g3, cap3, hv3⟩ : ∃ g3 cap3, v' = .slice (some ⟨g3, 0, none⟩) ((eachK f 4).length + 1) cap3 := by
            rcases hown'.2 with ⟨_, h⟩ | ⟨g3, cap3, _, h, _⟩
            · omega
            · exact ⟨g3, cap3, h⟩
          exact ⟨5, some ⟨g3, 0, none⟩, cap3, by omega, by first | rfl | simp, by rw [hv3, HPK.out]; simp, by rw [HPK.out, List.map_append, List.length_append]; exact hown', (hnx.alloc hsize _).grown hgrow3 (by simp; omega) (fun q hq => (hown.lt q hq).1)⟩
        case measure => simp [intOf]
    · go_wp2
      go_ret
      exact ⟨ao, cv, rfl, hown, hnx⟩

theorem IsList.keep {w w' : World} {ao : Option Addr} {L : List Int} (h : IsList w ao L) (hb : Below w.heap.size w w') : IsList w' ao L := by
  intro j hj
  obtain ⟨g, h1, h2⟩ := h j hj
  exact ⟨g, h1, (hb.cell (p := ⟨g, j, none⟩) (World.block_lt_of_cell? _ _ h2)).trans h2⟩

set_option maxRecDepth 100000 in
set_option maxHeartbeats 2000000 in
theorem rFlags_calls (L : List Int) (a0 a1 : Option Addr) (c0 c1 : Nat) (w : World) (h0 : IsList w a0 L) (h1 : IsList w a1 L) (hn : L.length ≤ 5) :
    Calls Tryd.prog 29 #[.slice a0 L.length c0, .slice a1 L.length c1] w fun e w' => e = .returned (.bool true) ∧ Below w.heap.size w w' := by
  go_enter Tryd.func29, Tryd.ntmps29
  go_wp2
  go_loopw [5] (fun i wr => ∃ k : Nat, k ≤ L.length ∧ i = .int .i64 k ∧ IsList wr a0 L ∧ IsList wr a1 L ∧ Below w.heap.size w wr) (fun i _ => L.length - (intOf i).toNat)
  case atStart => exact ⟨0, by omega, rfl, h0, h1, Below.refl _ _⟩
  case round =>
    obtain ⟨k, hk, rfl, hL0, hL1, hbr⟩ := hrel
    clear h0 h1
    by_cases hlt : k < L.length
    · obtain ⟨g0, e0, q0⟩ := hL0 k hlt
      obtain ⟨g1, e1, q1⟩ := hL1 k hlt
      obtain ⟨x, hx⟩ : ∃ x, x = L.getD k 0 := ⟨_, rfl⟩
      rw [← hx] at q0 q1
      clear hx
      have xx : (x != x) = false := by simp
      subst e0 e1
      go_wp2
      go_quiet (fail)
      go_wp2
      go_roundw
      case rel => exact ⟨k + 1, by omega, by go_num, hL0, hL1, below_drewN hbr nq⟩
      case measure => simp [intOf]; omega
    · go_wp2
      go_ret
      exact ⟨rfl, hbr⟩

def nameOf (x : Int) : ByteArray := if x = 1 then nameL 0 else if x = 2 then nameL 1 else if x = 4 then nameL 2 else if x = 8 then nameL 3 else nameL 4
set_option maxHeartbeats 400000 in
theorem rName_calls (x : Int) (w : World) :
    Calls Tryd.prog 61 #[.int .u8 x] w fun e w' => e = .returned (.string (nameOf x)) ∧ w' = w := by
  by_cases c1 : x = 1
  · subst c1
    go_enter Tryd.func61, Tryd.ntmps61
    go_wp2
    go_ret
    exact ⟨rfl, rfl⟩
  · by_cases c2 : x = 2
    · subst c2
      go_enter Tryd.func61, Tryd.ntmps61
      go_wp2
      go_ret
      exact ⟨rfl, rfl⟩
    · by_cases c4 : x = 4
      · subst c4
        go_enter Tryd.func61, Tryd.ntmps61
        go_wp2
        go_ret
        exact ⟨rfl, rfl⟩
      · by_cases c8 : x = 8
        · subst c8
          go_enter Tryd.func61, Tryd.ntmps61
          go_wp2
          go_ret
          exact ⟨rfl, rfl⟩
        · have hV : Hid (nameOf x = nameL 4) := by unfold nameOf; rw [Hid, if_neg c1, if_neg c2, if_neg c4, if_neg c8]
          have d1 : (x == 1) = false := by simp [c1]
          have d2 : (x == 2) = false := by simp [c2]
          have d4 : (x == 4) = false := by simp [c4]
          have d8 : (x == 8) = false := by simp [c8]
          clear c1 c2 c4 c8
          go_enter Tryd.func61, Tryd.ntmps61
          go_wp2
          go_ret
          rw [hV.out]
          exact ⟨rfl, rfl⟩
end Go.Proofs.YtoamnimepkodeabDoor

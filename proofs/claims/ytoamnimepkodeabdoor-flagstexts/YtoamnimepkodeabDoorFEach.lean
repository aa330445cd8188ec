/- The walk of flags.Each: for every byte it answers its right flags one by one, rising, in new memory. -/
import Derived.Test.YtoamnimepkodeabDoorFWalks
import Derived.Maps.AppendAt
namespace Go.Proofs.YtoamnimepkodeabDoor
open Go.RowKit

def eachK (f : Int) : Nat → List Int
  | 0 => []
  | k + 1 => eachK f k ++ (if hasB f (2 ^ k) = true then [(2 : Int) ^ k] else [])
theorem each_len (f : Int) : ∀ k, (eachK f k).length ≤ k
  | 0 => Nat.le_refl _
  | k + 1 => by
    have := each_len f k
    unfold eachK
    rw [List.length_append]
    split <;> simp <;> omega
theorem flag_info : (Tryd.prog.info? 34).map (fun i => (i.zero, i.size, i.bytes)) = some (some (.int .u8 0), 1, 1) := by kernel_rfl

set_option maxRecDepth 100000 in
set_option maxHeartbeats 4000000 in
theorem fEach_calls (f : Int) (w : World) :
    Calls Tryd.prog 30 #[.int .u8 f] w fun e w' => ∃ (ao : Option Addr) (cv : Nat), e = .returned (.slice ao (eachK f 5).length cv) ∧ w'.ownsRow w.heap.size 34 1 (.slice ao (eachK f 5).length cv) (eachK f 5).length ((eachK f 5).map (Value.int .u8)) ∧ Below w.heap.size w w' := by
  obtain ⟨i0, hi, hz0, hz1, hz2⟩ := info_parts flag_info
  go_enter Tryd.func30, Tryd.ntmps30
  go_wp2
  go_loopw [3, 6] (fun v i wr => ∃ (k : Nat) (ao : Option Addr) (cv : Nat), k ≤ 5 ∧ i = .int .i64 k ∧ v = .slice ao (eachK f k).length cv ∧ wr.ownsRow w.heap.size 34 1 v (eachK f k).length ((eachK f k).map (Value.int .u8)) ∧ Below w.heap.size w wr) (fun _ i _ => 5 - (intOf i).toNat)
  case atStart => exact ⟨0, none, 0, by omega, rfl, rfl, World.ownsRow_nil _ _ _ _, Below.refl _ _⟩
  case round =>
    obtain ⟨k, ao, cv, hk, rfl, rfl, hown, hnx⟩ := hrel
    have hsize := hnx.size
    rcases (show k = 0 ∨ k = 1 ∨ k = 2 ∨ k = 3 ∨ k = 4 ∨ k = 5 from by omega) with rfl | rfl | rfl | rfl | rfl | rfl
    · have hpl := each_len f 0
      cases hbit : hasB f 1
      · have HPK : Hid (eachK f 1 = eachK f 0) := by show eachK f 0 ++ (if hasB f (2 ^ 0) = true then [(2 : Int) ^ 0] else []) = _; rw [show (2 : Int) ^ 0 = 1 from rfl, hbit]; simp
        go_wp2_with (go_at_call 20; refine (fHas_calls _ _ _).mono ?_; rintro e wr ⟨rfl, rfl⟩)
        go_roundw
        case rel => exact ⟨1, ao, cv, by omega, by first | rfl | simp, by rw [HPK.out], by rw [HPK.out]; exact hown, hnx⟩
        case measure => simp [intOf]
      · have HPK : Hid (eachK f 1 = eachK f 0 ++ [1]) := by show eachK f 0 ++ (if hasB f (2 ^ 0) = true then [(2 : Int) ^ 0] else []) = _; rw [show (2 : Int) ^ 0 = 1 from rfl, hbit]; rfl
        go_wp2_with (first
          | (go_at_call 20; refine (fHas_calls _ _ _).mono ?_; rintro e wr ⟨rfl, rfl⟩)
          | (at_builtin; refine wpList_append_own _ rfl _ _ 43 rfl w.heap.size 34 i0 (.int .u8 0) 1 1 Tryd.underlying43 hi hz0 hz1 hz2 rfl (by decide) _ _ _ rfl (hown.alloc _) ⟨wr.heap.size, 0, none⟩ 1 1 [.int .u8 1] rfl rfl (cell_one_new _ _ _) (fun x hx => by simp at hx; subst hx; rfl) (by unfold maxLen; omega) (by omega) (by simp; omega) ?_; intro v' w3 hown' hgrow3 hnil3))
        go_roundw
        case rel =>
          obtain ⟨g3, cap3, hv3⟩ : ∃ g3 cap3, v' = .slice (some ⟨g3, 0, none⟩) ((eachK f 0).length + 1) cap3 := by
            rcases hown'.2 with ⟨_, h⟩ | ⟨g3, cap3, _, h, _⟩
            · omega
            · exact ⟨g3, cap3, h⟩
          exact ⟨1, some ⟨g3, 0, none⟩, cap3, by omega, by first | rfl | simp, by rw [hv3, HPK.out]; simp, by rw [HPK.out, List.map_append, List.length_append]; exact hown', (hnx.alloc hsize _).grown hgrow3 (by simp; omega) (fun q hq => (hown.lt q hq).1)⟩
        case measure => simp [intOf]
    · have hpl := each_len f 1
      cases hbit : hasB f 2
      · have HPK : Hid (eachK f 2 = eachK f 1) := by show eachK f 1 ++ (if hasB f (2 ^ 1) = true then [(2 : Int) ^ 1] else []) = _; rw [show (2 : Int) ^ 1 = 2 from rfl, hbit]; simp
        go_wp2_with (go_at_call 20; refine (fHas_calls _ _ _).mono ?_; rintro e wr ⟨rfl, rfl⟩)
        go_roundw
        case rel => exact ⟨2, ao, cv, by omega, by first | rfl | simp, by rw [HPK.out], by rw [HPK.out]; exact hown, hnx⟩
        case measure => simp [intOf]
      · have HPK : Hid (eachK f 2 = eachK f 1 ++ [2]) := by show eachK f 1 ++ (if hasB f (2 ^ 1) = true then [(2 : Int) ^ 1] else []) = _; rw [show (2 : Int) ^ 1 = 2 from rfl, hbit]; rfl
        go_wp2_with (first
          | (go_at_call 20; refine (fHas_calls _ _ _).mono ?_; rintro e wr ⟨rfl, rfl⟩)
          | (at_builtin; refine wpList_append_own _ rfl _ _ 43 rfl w.heap.size 34 i0 (.int .u8 0) 1 1 Tryd.underlying43 hi hz0 hz1 hz2 rfl (by decide) _ _ _ rfl (hown.alloc _) ⟨wr.heap.size, 0, none⟩ 1 1 [.int .u8 2] rfl rfl (cell_one_new _ _ _) (fun x hx => by simp at hx; subst hx; rfl) (by unfold maxLen; omega) (by omega) (by simp; omega) ?_; intro v' w3 hown' hgrow3 hnil3))
        go_roundw
        case rel =>
          obtain ⟨g3, cap3, hv3⟩ : ∃ g3 cap3, v' = .slice (some ⟨g3, 0, none⟩) ((eachK f 1).length + 1) cap3 := by
            rcases hown'.2 with ⟨_, h⟩ | ⟨g3, cap3, _, h, _⟩
            · omega
            · exact ⟨g3, cap3, h⟩
          exact ⟨2, some ⟨g3, 0, none⟩, cap3, by omega, by first | rfl | simp, by rw [hv3, HPK.out]; simp, by rw [HPK.out, List.map_append, List.length_append]; exact hown', (hnx.alloc hsize _).grown hgrow3 (by simp; omega) (fun q hq => (hown.lt q hq).1)⟩
        case measure => simp [intOf]
    · have hpl := each_len f 2
      cases hbit : hasB f 4
      · have HPK : Hid (eachK f 3 = eachK f 2) := by show eachK f 2 ++ (if hasB f (2 ^ 2) = true then [(2 : Int) ^ 2] else []) = _; rw [show (2 : Int) ^ 2 = 4 from rfl, hbit]; simp
        go_wp2_with (go_at_call 20; refine (fHas_calls _ _ _).mono ?_; rintro e wr ⟨rfl, rfl⟩)
        go_roundw
        case rel => exact ⟨3, ao, cv, by omega, by first | rfl | simp, by rw [HPK.out], by rw [HPK.out]; exact hown, hnx⟩
        case measure => simp [intOf]
      · have HPK : Hid (eachK f 3 = eachK f 2 ++ [4]) := by show eachK f 2 ++ (if hasB f (2 ^ 2) = true then [(2 : Int) ^ 2] else []) = _; rw [show (2 : Int) ^ 2 = 4 from rfl, hbit]; rfl
        go_wp2_with (first
          | (go_at_call 20; refine (fHas_calls _ _ _).mono ?_; rintro e wr ⟨rfl, rfl⟩)
          | (at_builtin; refine wpList_append_own _ rfl _ _ 43 rfl w.heap.size 34 i0 (.int .u8 0) 1 1 Tryd.underlying43 hi hz0 hz1 hz2 rfl (by decide) _ _ _ rfl (hown.alloc _) ⟨wr.heap.size, 0, none⟩ 1 1 [.int .u8 4] rfl rfl (cell_one_new _ _ _) (fun x hx => by simp at hx; subst hx; rfl) (by unfold maxLen; omega) (by omega) (by simp; omega) ?_; intro v' w3 hown' hgrow3 hnil3))
        go_roundw
        case rel =>
          obtain ⟨g3, cap3, hv3⟩ : ∃ g3 cap3, v' = .slice (some ⟨g3, 0, none⟩) ((eachK f 2).length + 1) cap3 := by
            rcases hown'.2 with ⟨_, h⟩ | ⟨g3, cap3, _, h, _⟩
            · omega
            · exact ⟨g3, cap3, h⟩
          exact ⟨3, some ⟨g3, 0, none⟩, cap3, by omega, by first | rfl | simp, by rw [hv3, HPK.out]; simp, by rw [HPK.out, List.map_append, List.length_append]; exact hown', (hnx.alloc hsize _).grown hgrow3 (by simp; omega) (fun q hq => (hown.lt q hq).1)⟩
        case measure => simp [intOf]
    · have hpl := each_len f 3
      cases hbit : hasB f 8
      · have HPK : Hid (eachK f 4 = eachK f 3) := by show eachK f 3 ++ (if hasB f (2 ^ 3) = true then [(2 : Int) ^ 3] else []) = _; rw [show (2 : Int) ^ 3 = 8 from rfl, hbit]; simp
        go_wp2_with (go_at_call 20; refine (fHas_calls _ _ _).mono ?_; rintro e wr ⟨rfl, rfl⟩)
        go_roundw
        case rel => exact ⟨4, ao, cv, by omega, by first | rfl | simp, by rw [HPK.out], by rw [HPK.out]; exact hown, hnx⟩
        case measure => simp [intOf]
      · have HPK : Hid (eachK f 4 = eachK f 3 ++ [8]) := by show eachK f 3 ++ (if hasB f (2 ^ 3) = true then [(2 : Int) ^ 3] else []) = _; rw [show (2 : Int) ^ 3 = 8 from rfl, hbit]; rfl
        go_wp2_with (first
          | (go_at_call 20; refine (fHas_calls _ _ _).mono ?_; rintro e wr ⟨rfl, rfl⟩)
          | (at_builtin; refine wpList_append_own _ rfl _ _ 43 rfl w.heap.size 34 i0 (.int .u8 0) 1 1 Tryd.underlying43 hi hz0 hz1 hz2 rfl (by decide) _ _ _ rfl (hown.alloc _) ⟨wr.heap.size, 0, none⟩ 1 1 [.int .u8 8] rfl rfl (cell_one_new _ _ _) (fun x hx => by simp at hx; subst hx; rfl) (by unfold maxLen; omega) (by omega) (by simp; omega) ?_; intro v' w3 hown' hgrow3 hnil3))
        go_roundw
        case rel =>
          obtain ⟨g3, cap3, hv3⟩ : ∃ g3 cap3, v' = .slice (some ⟨g3, 0, none⟩) ((eachK f 3).length + 1) cap3 := by
            rcases hown'.2 with ⟨_, h⟩ | ⟨g3, cap3, _, h, _⟩
            · omega
            · exact ⟨g3, cap3, h⟩
          exact ⟨4, some ⟨g3, 0, none⟩, cap3, by omega, by first | rfl | simp, by rw [hv3, HPK.out]; simp, by rw [HPK.out, List.map_append, List.length_append]; exact hown', (hnx.alloc hsize _).grown hgrow3 (by simp; omega) (fun q hq => (hown.lt q hq).1)⟩
        case measure => simp [intOf]
    · have hpl := each_len f 4
      cases hbit : hasB f 16
      · have HPK : Hid (eachK f 5 = eachK f 4) := by show eachK f 4 ++ (if hasB f (2 ^ 4) = true then [(2 : Int) ^ 4] else []) = _; rw [show (2 : Int) ^ 4 = 16 from rfl, hbit]; simp
        go_wp2_with (go_at_call 20; refine (fHas_calls _ _ _).mono ?_; rintro e wr ⟨rfl, rfl⟩)
        go_roundw
        case rel => exact ⟨5, ao, cv, by omega, by first | rfl | simp, by rw [HPK.out], by rw [HPK.out]; exact hown, hnx⟩
        case measure => simp [intOf]
      · have HPK : Hid (eachK f 5 = eachK f 4 ++ [16]) := by show eachK f 4 ++ (if hasB f (2 ^ 4) = true then [(2 : Int) ^ 4] else []) = _; rw [show (2 : Int) ^ 4 = 16 from rfl, hbit]; rfl
        go_wp2_with (first
          | (go_at_call 20; refine (fHas_calls _ _ _).mono ?_; rintro e wr ⟨rfl, rfl⟩)
          | (at_builtin; refine wpList_append_own _ rfl _ _ 43 rfl w.heap.size 34 i0 (.int .u8 0) 1 1 Tryd.underlying43 hi hz0 hz1 hz2 rfl (by decide) _ _ _ rfl (hown.alloc _) ⟨wr.heap.size, 0, none⟩ 1 1 [.int .u8 16] rfl rfl (cell_one_new _ _ _) (fun x hx => by simp at hx; subst hx; rfl) (by unfold maxLen; omega) (by omega) (by simp; omega) ?_; intro v' w3 hown' hgrow3 hnil3))
        go_roundw
        case rel =>
          obtain ⟨g3, cap3, hv3⟩ : ∃ g3 cap3, v' = .slice (some ⟨g3, 0, none⟩) ((eachK f 4).length + 1) cap3 := by
            rcases hown'.2 with ⟨_, h⟩ | ⟨g3, cap3, _, h, _⟩
            · omega
            · exact ⟨g3, cap3, h⟩
          exact ⟨5, some ⟨g3, 0, none⟩, cap3, by omega, by first | rfl | simp, by rw [hv3, HPK.out]; simp, by rw [HPK.out, List.map_append, List.length_append]; exact hown', (hnx.alloc hsize _).grown hgrow3 (by simp; omega) (fun q hq => (hown.lt q hq).1)⟩
        case measure => simp [intOf]
    · go_wp2
      go_ret
      exact ⟨ao, cv, rfl, hown, hnx⟩
end Go.Proofs.YtoamnimepkodeabDoor

/- Package special: names: Name, reads, Find. -/
import Derived.Test.YtkkccnpmcbpdnaaGreatDoorSPW1
import Derived.Laws.RangeString
import Derived.Laws.RangeAny
import Derived.Laws.Runes
namespace Go.Proofs.YtkkccnpmcbpdnaaGreatDoor
open Go.RowKit

def nmB : List (List UInt8) := [[], [101, 120, 112], [101, 120, 112, 50], [101, 120, 112, 49, 48], [101, 120, 112, 109, 49], [101, 120, 112, 50, 109, 49], [101, 120, 112, 49, 48, 109, 49], [108, 111, 103], [108, 111, 103, 50], [108, 111, 103, 49, 48], [108, 111, 103, 49, 112], [108, 111, 103, 50, 112, 49], [108, 111, 103, 49, 48, 112, 49], [115, 105, 110], [99, 111, 115], [116, 97, 110], [115, 105, 110, 112, 105], [99, 111, 115, 112, 105], [116, 97, 110, 112, 105], [97, 115, 105, 110], [97, 99, 111, 115], [97, 116, 97, 110], [97, 115, 105, 110, 112, 105], [97, 99, 111, 115, 112, 105], [97, 116, 97, 110, 112, 105], [115, 105, 110, 104], [99, 111, 115, 104], [116, 97, 110, 104], [97, 115, 105, 110, 104], [97, 99, 111, 115, 104], [97, 116, 97, 110, 104], [99, 98, 114, 116], [114, 115, 113, 114, 116], [97, 116, 97, 110, 50], [97, 116, 97, 110, 50, 112, 105], [112, 111, 119], [104, 121, 112, 111, 116]]
def nmS (j : Nat) : ByteArray := ⟨(nmB.getD j []).toArray⟩
def NamesS (w : World) : Prop := ∀ j, j < 37 → w.cell? ⟨0, j, none⟩ = some (.string (nmS j))
theorem NamesS.kept {w w' : World} (h : NamesS w) (b : Below w.heap.size w w') : NamesS w' := fun j hj => pcell b (h j hj)
def nameV (f : Int) : ByteArray := if f < 37 then nmS f.toNat else ⟨#[]⟩
def eqS (s t : ByteArray) : Bool := decide (s = t)
def findL (s : ByteArray) : List Nat → Int × Bool
  | [] => (0, false)
  | k :: ks => if eqS s (nmS k) then ((k : Int), true) else findL s ks
def findV (s : ByteArray) : Int × Bool := findL s (List.range' 1 36)
theorem low_all : ∀ j : Nat, ∀ i (h : i < (nmS j).size), ((nmS j)[i]'h).toNat < 128 := by
  intro j
  by_cases hj : j < 37
  · have := (by decide +kernel : ∀ j : Fin 37, ∀ x ∈ nmB.getD j.val [], x.toNat < 128) ⟨j, hj⟩
    intro i h
    exact this _ (by
      show (nmB.getD j []).toArray[i]'h ∈ _
      simp)
  · intro i h
    have e : nmB.getD j [] = [] := by rw [List.getD_eq_getElem?_getD, List.getElem?_eq_none (by show nmB.length ≤ j; have : nmB.length = 37 := rfl; omega)]; rfl
    exfalso
    unfold nmS at h
    rw [e] at h
    exact absurd h (Nat.not_lt_zero _)
theorem small_all (j : Nat) : (nmS j).size ≤ 16 := by
  by_cases hj : j < 37
  · exact (by decide +kernel : ∀ j : Fin 37, (nmS j.val).size ≤ 16) ⟨j, hj⟩
  · have e : nmB.getD j [] = [] := by rw [List.getD_eq_getElem?_getD, List.getElem?_eq_none (by show nmB.length ≤ j; have : nmB.length = 37 := rfl; omega)]; rfl
    unfold nmS
    rw [e]
    decide

theorem eqS_ne_size {s t : ByteArray} (h : s.size ≠ t.size) : eqS s t = false := by
  unfold eqS
  simp only [decide_eq_false_iff_not]
  rintro rfl
  exact h rfl
theorem eqS_ne_at {s t : ByteArray} (i : Nat) (h1 : i < s.size) (h2 : i < t.size) (h : (s[i]'h1).toNat ≠ (t[i]'h2).toNat) : eqS s t = false := by
  unfold eqS
  simp only [decide_eq_false_iff_not]
  rintro rfl
  exact h rfl
theorem eqS_all {s t : ByteArray} (hs : s.size = t.size) (h : ∀ i (h1 : i < s.size) (h2 : i < t.size), (s[i]'h1).toNat = (t[i]'h2).toNat) : eqS s t = true := by
  unfold eqS
  simp only [decide_eq_true_eq]
  apply ByteArray.ext
  apply Array.ext
  · exact hs
  · intro i h1 h2
    exact UInt8.toNat_inj.1 (h i h1 h2)

set_option maxRecDepth 1000000 in
set_option maxHeartbeats 4000000 in
theorem reads_calls (s t : ByteArray) (w : World) (ht : t.size ≤ 16) (hl : ∀ i (h : i < t.size), (t[i]'h).toNat < 128) :
    Calls Tryz.prog 38 #[.string s, .string t] w fun r w' => r = .returned (.bool (eqS s t)) ∧ Below w.heap.size w w' := by
  go_enter Tryz.func38, Tryz.ntmps38
  go_wp2
  go_loopw [5, 6, 7] (fun n _ _ w' => ∃ (pos : Nat), w' = w.iter s pos ∧ n = .int .i64 (t.size - pos : Nat) ∧ pos ≤ t.size ∧ pos ≤ s.size ∧ ∀ i (h1 : i < s.size) (h2 : i < t.size), i < pos → (s[i]'h1).toNat = (t[i]'h2).toNat) (fun _ _ _ w' => s.size - w'.iterPos w.heap.size)
  case atStart => exact ⟨0, rfl, rfl, by omega, by omega, fun i _ _ h => by omega⟩
  case round =>
    obtain ⟨pos, rfl, rfl, hp1, hp2, hall⟩ := hrel
    have HA : Hid _ := hall
    clear hall
    by_cases hp : pos < s.size
    · have hnx : ∀ ty, (Instr.next (.pointer (some ⟨w.heap.size, 0, none⟩)) true ty).run Tryz.prog (w.iter s pos) = _ := fun ty => run_next_any w s pos ty hp
      by_cases hq : pos < t.size
      · have hw1 := hl pos hq
        obtain ⟨y, hy⟩ : ∃ y, (t[pos]'hq).toNat = y := ⟨_, rfl⟩
        rw [hy] at hw1
        by_cases hh : (s[pos]'hp).toNat < 128
        · have hd := decode_ascii s pos hp hh
          rw [hd] at hnx
          by_cases he : (s[pos]'hp).toNat = y
          · have HE : Hid ((s[pos]'hp).toNat = (t[pos]'hq).toNat) := by rw [Hid, he, hy]
            rw [he] at hnx
            clear he hh hd
            go_wp2_with fail
            go_roundw
            case rel =>
              refine ⟨pos + 1, rfl, by go_num, by omega, by omega, fun i h1 h2 h3 => ?_⟩
              by_cases hi : i = pos
              · subst hi; exact HE.out
              · exact HA.out i h1 h2 (by omega)
            case measure =>
              simp
              omega
          · have HF : Hid (eqS s t = false) := eqS_ne_at pos hp hq (by rw [hy]; exact he)
            generalize (s[pos]'hp).toNat = x at *
            have hne : ((x : Int) != (y : Int)) = true := by simp; omega
            clear hd
            go_wp2_with fail
            go_ret
            exact ⟨by rw [HF.out]; rfl, below_alloc _ _⟩
        · have HF : Hid (eqS s t = false) := eqS_ne_at pos hp hq (by rw [hy]; omega)
          have hd := (decode_high s pos hp (by omega)).1
          generalize (Utf8.decode s pos).1 = x at *
          generalize (Utf8.decode s pos).2 = z at *
          have hne : ((x : Int) != (y : Int)) = true := by simp; omega
          clear hd hh
          go_wp2_with fail
          go_ret
          exact ⟨by rw [HF.out]; rfl, below_alloc _ _⟩
      · have HF : Hid (eqS s t = false) := eqS_ne_size (by omega)
        generalize (Utf8.decode s pos).1 = x at *
        generalize (Utf8.decode s pos).2 = z at *
        go_wp2_with fail
        go_ret
        exact ⟨by rw [HF.out]; rfl, below_alloc _ _⟩
    · have hnx : ∀ ty, (Instr.next (.pointer (some ⟨w.heap.size, 0, none⟩)) true ty).run Tryz.prog (w.iter s pos) = _ := fun ty => run_next_end w s pos ty hp
      have hpe : pos = s.size := by omega
      have HF : Hid (eqS s t = (((t.size - pos : Nat) : Int) == 0)) := by
        rw [Hid, show ((((t.size - pos : Nat) : Int) == 0)) = decide (t.size - pos = 0) by rw [Bool.eq_iff_iff]; simp]
        by_cases h0 : t.size = s.size
        · rw [eqS_all h0.symm (fun i h1 h2 => HA.out i h1 h2 (by omega))]
          simp; omega
        · rw [eqS_ne_size (fun e => h0 e.symm)]
          simp; omega
      clear hpe
      go_wp2_with fail
      go_ret
      exact ⟨by rw [HF.out]; rfl, below_alloc _ _⟩

set_option maxRecDepth 100000 in
set_option maxHeartbeats 4000000 in
theorem find_calls (s : ByteArray) (w : World) (hN : NamesS w) :
    Calls Tryz.prog 18 #[.string s] w fun r w' => r = .returned (.tuple #[.int .u8 (findV s).1, .bool (findV s).2]) ∧ Below w.heap.size w w' := by
  have HV : Hid (findV s = findL s (List.range' 1 36)) := rfl
  go_enter Tryz.func18, Tryz.ntmps18
  go_wp2_with fail
  go_loopw [4] (fun f w' => ∃ k : Nat, 1 ≤ k ∧ k ≤ 37 ∧ f = .int .u8 k ∧ findV s = findL s (List.range' k (37 - k)) ∧ Below w.heap.size w w') (fun f _ => 37 - (intOf f).toNat)
  case atStart => exact ⟨1, by omega, by omega, rfl, rfl, Below.refl _ _⟩
  case round =>
    obtain ⟨k, hk1, hk2, rfl, hv, hb⟩ := hrel
    have HW : Hid (findV s = findL s (List.range' k (37 - k))) := hv
    clear hv
    by_cases hk : k = 37
    · subst hk
      have HE : Hid (findV s = (0, false)) := HW.out
      go_wp2_with fail
      go_ret2
      exact ⟨by rw [HE.out]; rfl, hb⟩
    · have hk3 : k < 37 := by omega
      have hc := hN.kept hb k hk3
      have HE : Hid (findV s = if eqS s (nmS k) then ((k : Int), true) else findL s (List.range' (k + 1) (37 - (k + 1)))) := by
        rw [Hid, HW.out, show 37 - k = (37 - (k + 1)) + 1 by omega, List.range'_succ]
        rfl
      have RC : Hid _ := fun W => reads_calls s (nmS k) W (small_all k) (low_all k)
      go_wp2_with fail
      refine Calls.mono (RC.out _) ?_
      rintro r w1 ⟨rfl, b1⟩
      replace hb := below_trans hb b1
      clear b1 RC hc
      cases he : eqS s (nmS k) with
      | true =>
        rw [he] at HE
        have HF : Hid (findV s = ((k : Int), true)) := HE.out
        go_wp2_with fail
        go_ret2
        exact ⟨by rw [HF.out]; rfl, hb⟩
      | false =>
        rw [he] at HE
        have HF : Hid (findV s = findL s (List.range' (k + 1) (37 - (k + 1)))) := HE.out
        go_wp2_with fail
        go_roundw
        case rel => exact ⟨k + 1, by omega, by omega, by go_num, HF.out, hb⟩
        case measure => simp [intOf]; omega
end Go.Proofs.YtkkccnpmcbpdnaaGreatDoor

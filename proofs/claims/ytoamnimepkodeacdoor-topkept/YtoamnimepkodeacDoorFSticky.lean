/- The walk of the statement FlagsSticky: it answers true for any two lists of bytes, where the names stand. -/
import Derived.Test.YtoamnimepkodeacDoorFHeld
namespace Go.Proofs.YtoamnimepkodeacDoor
open Go.RowKit

/-- A slice of bytes that came in: each element lies in its cell. -/
def IsRow (w : World) (a : Option Addr) (len : Nat) (z : Nat → Int) : Prop :=
  len ≤ maxLen ∧ ∀ i, i < len → ∃ b off, a = some ⟨b, off, none⟩ ∧ b < w.heap.size ∧ w.cell? ⟨b, off + i, none⟩ = some (.int .u8 (z i)) ∧ F (z i)
theorem IsRow.at {w w' : World} {a : Option Addr} {len : Nat} {z : Nat → Int} (h : IsRow w a len z) (hb : Below w.heap.size w w') {i : Nat} (hi : i < len) :
    ∃ b off, a = some ⟨b, off, none⟩ ∧ w'.cell? ⟨b, off + i, none⟩ = some (.int .u8 (z i)) ∧ F (z i) := by
  obtain ⟨b, off, h1, h2, h3, h4⟩ := h.2 i hi
  exact ⟨b, off, h1, (hb.cell (p := ⟨b, off + i, none⟩) h2).trans h3, h4⟩
theorem or_set (a b : Int) (h0 : 0 ≤ a) (h1 : a ≤ 31) (k0 : 0 ≤ b) (k1 : b ≤ 31) :
    updV a b = bits .or .u8 a b ∧ 0 ≤ bits .or .u8 a b ∧ bits .or .u8 a b ≤ 31 :=
  set_two (p := fun a b => updV a b = bits .or .u8 a b ∧ 0 ≤ bits .or .u8 a b ∧ bits .or .u8 a b ≤ 31) (by decide +kernel) a b h0 h1 k0 k1
theorem take_set (a b : Int) (h0 : 0 ≤ a) (h1 : a ≤ 31) (k0 : 0 ≤ b) (k1 : b ≤ 31) :
    clrV a b = bits .andNot .u8 a b ∧ 0 ≤ bits .andNot .u8 a b ∧ bits .andNot .u8 a b ≤ 31 :=
  set_two (p := fun a b => clrV a b = bits .andNot .u8 a b ∧ 0 ≤ bits .andNot .u8 a b ∧ bits .andNot .u8 a b ≤ 31) (by decide +kernel) a b h0 h1 k0 k1
theorem test_set (a : Int) (h0 : 0 ≤ a) (h1 : a ≤ 31) : testV a 31 = a := set_all (p := fun a => testV a 31 = a) (by decide +kernel) a h0 h1

set_option maxRecDepth 100000 in
set_option maxHeartbeats 1000000 in
theorem flagsSticky_walk (a0 : Option Addr) (l0 c0 : Nat) (z0 : Nat → Int) (a1 : Option Addr) (l1 c1 : Nat) (z1 : Nat → Int) (w : World) (h0 : IsRow w a0 l0 z0) (h1 : IsRow w a1 l1 z1) (hN : Names w) :
    Calls Tryd.prog 5 #[.slice a0 l0 c0, .slice a1 l1 c1] w fun e w' => e = .returned (.bool true) ∧ Below w.heap.size w w' := by
  have m0 := h0.1
  have m1 := h1.1
  unfold maxLen at m0 m1
  go_enter Tryd.func5, Tryd.ntmps5
  go_wp2_with fail
  refine (eNew_calls _).mono ?_
  rintro e w1 ⟨rfl, rfl⟩
  have hE := EnvAt.new w 0 0 57
  have hb : Below w.heap.size w (w.alloc (.cells #[.int .u8 0, .int .u8 0] 57)) := (Below.refl _ _).alloc (Nat.le_refl _) _
  have hN1 := hN.keep hb
  generalize w.alloc (.cells #[.int .u8 0, .int .u8 0] 57) = w1 at *
  go_wp2_with fail
  refine (begins_calls _ hN1).mono ?_
  rintro e w2 ⟨rfl, hb2⟩
  replace hE := hE.keep hb2 hE.1
  replace hb := hb.trans (hb2.mono hb.size)
  clear hN1 hb2
  go_wp2_with fail
  go_loopw [6, 7] (fun v i wr => ∃ (k : Nat) (fl m : Int), k ≤ l0 ∧ i = .int .i64 k ∧ v = .int .u8 fl ∧ 0 ≤ fl ∧ fl ≤ 31 ∧ EnvAt wr w.heap.size fl m ∧ Below w.heap.size w wr) (fun _ i _ => l0 - (intOf i).toNat)
  case atStart => exact ⟨0, 0, 0, by omega, rfl, rfl, by omega, by omega, hE, hb⟩
  case round =>
    obtain ⟨k, fl, m, hk, rfl, rfl, f0, f1, hE', hb'⟩ := hrel
    clear hE hb
    have q1 : (refV 31 != 0) = false := by decide +kernel
    by_cases hlt : k < l0
    · obtain ⟨b, off, ha, hc, hF⟩ := h0.at hb' hlt
      have r0 := mask_bd _ hF
      obtain ⟨o1, o2, o3⟩ := or_set fl _ f0 f1 r0.1 r0.2
      have k1 : (refV (bits .and .u8 (z0 k) 31) != 0) = false := by rw [ref_ok _ r0.1 r0.2]; rfl
      have O1 : Hid _ := o1
      clear o1
      by_cases hl1 : k < l1
      · obtain ⟨b1, off1, ha1, hc1, hF1⟩ := h1.at hb' hl1
        have s0 := mask_bd _ hF1
        obtain ⟨t1, t2, t3⟩ := take_set _ _ o2 o3 s0.1 s0.2
        have k2 : (refV (bits .and .u8 (z1 k) 31) != 0) = false := by rw [ref_ok _ s0.1 s0.2]; rfl
        have k3 : (testV (clrV (updV fl (bits .and .u8 (z0 k) 31)) (bits .and .u8 (z1 k) 31)) 31 != bits .andNot .u8 (bits .or .u8 fl (bits .and .u8 (z0 k) 31)) (bits .and .u8 (z1 k) 31)) = false := by
          rw [O1.out, t1, test_set _ t2 t3]; simp
        have T1 : Hid _ := t1
        clear t1
        subst ha ha1
        have hs1 : b1 < w.heap.size := by obtain ⟨_, _, e1, e2, _⟩ := h1.2 k hl1; simp at e1; obtain ⟨rfl, _⟩ := e1; exact e2
        go_wp2_with fail
        refine (eRaise_calls w.heap.size _ _ _ _ _ hE' (Nat.le_refl _)).mono ?_
        rintro e w3 ⟨rfl, hE3, hb3⟩
        rw [← hb3.cell (p := ⟨b1, off1 + k, none⟩) hs1] at hc1
        replace hb' := hb'.trans hb3
        clear hE' hb3 hc
        go_wp2_with fail
        refine (eClear_calls w.heap.size _ _ _ _ _ hE3 (Nat.le_refl _)).mono ?_
        rintro e w4 ⟨rfl, hE4, hb4⟩
        replace hb' := hb'.trans hb4
        clear hE3 hb4 hc1
        go_wp2_with fail
        refine (eTest_calls _ _ _ _ _ hE4).mono ?_
        rintro e w4 ⟨rfl, rfl⟩
        go_wp2_with fail
        go_roundw
        case rel => exact ⟨k + 1, _, _, by omega, by go_num, rfl, t2, t3, by rw [← T1.out, ← O1.out]; exact hE4, hb'⟩
        case measure => simp [intOf]; omega
      · have k3 : (testV (updV fl (bits .and .u8 (z0 k) 31)) 31 != bits .or .u8 fl (bits .and .u8 (z0 k) 31)) = false := by
          rw [O1.out, test_set _ o2 o3]; simp
        subst ha
        go_wp2_with fail
        refine (eRaise_calls w.heap.size _ _ _ _ _ hE' (Nat.le_refl _)).mono ?_
        rintro e w3 ⟨rfl, hE3, hb3⟩
        replace hb' := hb'.trans hb3
        clear hE' hb3 hc
        go_wp2_with fail
        refine (eTest_calls _ _ _ _ _ hE3).mono ?_
        rintro e w3 ⟨rfl, rfl⟩
        go_wp2_with fail
        go_roundw
        case rel => exact ⟨k + 1, _, _, by omega, by go_num, rfl, o2, o3, by rw [← O1.out]; exact hE3, hb'⟩
        case measure => simp [intOf]; omega
    · go_wp2
      go_ret
      exact ⟨rfl, hb'⟩
end Go.Proofs.YtoamnimepkodeacDoor

/- The walk of the statement FlagsHeld: it answers true for any two bytes, where the names stand. -/
import Derived.Test.YtoamnimepkodeacDoorFBegins
namespace Go.Proofs.YtoamnimepkodeacDoor
open Go.RowKit

/-- What holds of all 32 right sets holds of every one. -/
theorem set_all {p : Int → Prop} (h : ∀ n : Fin 32, p (n.val : Int)) (f : Int) (h0 : 0 ≤ f) (h1 : f ≤ 31) : p f := by
  obtain ⟨n, rfl⟩ := Int.eq_ofNat_of_zero_le h0
  exact h ⟨n, by omega⟩
theorem set_two {p : Int → Int → Prop} (h : ∀ n m : Fin 32, p (n.val : Int) (m.val : Int)) (f g : Int) (h0 : 0 ≤ f) (h1 : f ≤ 31) (k0 : 0 ≤ g) (k1 : g ≤ 31) : p f g := by
  obtain ⟨n, rfl⟩ := Int.eq_ofNat_of_zero_le h0
  obtain ⟨m, rfl⟩ := Int.eq_ofNat_of_zero_le k0
  exact h ⟨n, by omega⟩ ⟨m, by omega⟩
theorem mask_bd (f : Int) (h : F f) : 0 ≤ bits .and .u8 f 31 ∧ bits .and .u8 f 31 ≤ 31 :=
  byte_all (p := fun f => 0 ≤ bits .and .u8 f 31 ∧ bits .and .u8 f 31 ≤ 31) (by decide +kernel) f h
theorem ref_ok (a : Int) (h0 : 0 ≤ a) (h1 : a ≤ 31) : refV a = 0 := set_all (p := fun a => refV a = 0) (by decide +kernel) a h0 h1
theorem upd_zero (a : Int) (h0 : 0 ≤ a) (h1 : a ≤ 31) : updV 0 a = a := set_all (p := fun a => updV 0 a = a) (by decide +kernel) a h0 h1
theorem held_all (a b : Int) (h0 : 0 ≤ a) (h1 : a ≤ 31) (k0 : 0 ≤ b) (k1 : b ≤ 31) : testV (updV (updV 0 b) (updV 0 a)) 31 = bits .or .u8 a b :=
  set_two (p := fun a b => testV (updV (updV 0 b) (updV 0 a)) 31 = bits .or .u8 a b) (by decide +kernel) a b h0 h1 k0 k1

set_option maxRecDepth 100000 in
set_option maxHeartbeats 1000000 in
theorem flagsHeld_walk (f g : Int) (w : World) (hf : F f) (hg : F g) (hN : Names w) :
    Calls Tryd.prog 6 #[.int .u8 f, .int .u8 g] w fun e w' => e = .returned (.bool true) ∧ Below w.heap.size w w' := by
  have a0 := mask_bd f hf
  have b0 := mask_bd g hg
  have k1 : (refV (bits .and .u8 f 31) != 0) = false := by rw [ref_ok _ a0.1 a0.2]; rfl
  have k2 : (updV 0 (bits .and .u8 f 31) == bits .and .u8 f 31) = true := by rw [upd_zero _ a0.1 a0.2]; simp
  have k3 : (testV 0 31 == 0) = true := by decide +kernel
  have k4 : (refV 31 == 0) = true := by decide +kernel
  have k5 : (refV (bits .and .u8 g 31) == 0) = true := by rw [ref_ok _ b0.1 b0.2]; rfl
  have k6 : (refV (updV 0 (bits .and .u8 f 31)) == 0) = true := by rw [upd_zero _ a0.1 a0.2, ref_ok _ a0.1 a0.2]; rfl
  have k7 : (testV (updV (updV 0 (bits .and .u8 g 31)) (updV 0 (bits .and .u8 f 31))) 31 == bits .or .u8 (bits .and .u8 f 31) (bits .and .u8 g 31)) = true := by
    rw [held_all _ _ a0.1 a0.2 b0.1 b0.2]; simp
  clear a0 b0
  go_enter Tryd.func6, Tryd.ntmps6
  go_wp2_with fail
  refine (eNew_calls _).mono ?_
  rintro e w1 ⟨rfl, rfl⟩
  have hE := EnvAt.new w 0 0 57
  have hb : Below w.heap.size w (w.alloc (.cells #[.int .u8 0, .int .u8 0] 57)) := (Below.refl _ _).alloc (Nat.le_refl _) _
  have hN1 := hN.keep hb
  generalize w.alloc (.cells #[.int .u8 0, .int .u8 0] 57) = w1 at *
  go_wp2_with fail
  refine (begins_calls _ hN1).mono ?_
  rintro e w2 ⟨rfl, hb2⟩
  replace hE := hE.keep hb2 hE.1
  replace hb := hb.trans (hb2.mono hb.size)
  clear hN1 hb2
  go_wp2_with fail
  refine (eRaise_calls w.heap.size _ _ _ _ _ hE (Nat.le_refl _)).mono ?_
  rintro e w3 ⟨rfl, hE3, hb3⟩
  replace hb := hb.trans hb3
  clear hE hb3
  go_wp2_with fail
  refine (eHold_calls w.heap.size _ _ _ _ hE3 (Nat.le_refl _)).mono ?_
  rintro e w4 ⟨rfl, hE4, hb4⟩
  replace hb := hb.trans hb4
  clear hE3 hb4
  go_wp2_with fail
  refine (eTest_calls _ _ _ _ _ hE4).mono ?_
  rintro e w4 ⟨rfl, rfl⟩
  go_wp2_with fail
  refine (eRaise_calls w.heap.size _ _ _ _ _ hE4 (Nat.le_refl _)).mono ?_
  rintro e w5 ⟨rfl, hE5, hb5⟩
  replace hb := hb.trans hb5
  clear hE4 hb5
  go_wp2_with fail
  refine (eUpdate_calls w.heap.size _ _ _ _ _ hE5 (Nat.le_refl _)).mono ?_
  rintro e w6 ⟨rfl, hE6, hb6⟩
  replace hb := hb.trans hb6
  clear hE5 hb6
  go_wp2_with fail
  refine (eTest_calls _ _ _ _ _ hE6).mono ?_
  rintro e w6 ⟨rfl, rfl⟩
  go_wp2_with fail
  go_ret
  exact ⟨rfl, hb⟩
end Go.Proofs.YtoamnimepkodeacDoor

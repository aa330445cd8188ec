/- The document's dyadic numbers, fifth part: From, Int. The document's dyadic numbers, sixth part: From whole, Int. The fields of the float that a dyadic number is: pure part, and the walk of fields. The program's To, where the answer is no float, or the zero. -/
import Derived.Test.YtjgnoaieplmoiaaGreatDoorRDA
import Derived.Test.YtjgnoaieplmoiaaGreatDoorPFA
import Derived.Test.YtjgnoaieplmoiaaGreatDoorRWalks2
import Derived.Test.YtjgnoaieplmoiaaGreatDoorDGA

namespace Go.Proofs.YtjgnoaieplmoiaaGreatDoor
open Go.RowKit

end Go.Proofs.YtjgnoaieplmoiaaGreatDoor

namespace Go.Proofs.YtjgnoaieplmoiaaGreatDoor
open Go.RowKit


end Go.Proofs.YtjgnoaieplmoiaaGreatDoor

namespace Go.Proofs.YtjgnoaieplmoiaaGreatDoor
open Go.RowKit

theorem low_room {m j : Nat} (h : j + blen m ≤ 52) : m * 2 ^ j < 4503599627370496 := by
  have h1 := lt_blen m
  have h2 : m * 2 ^ j < 2 ^ blen m * 2 ^ j := Nat.mul_lt_mul_of_pos_right h1 (Nat.pow_pos (by decide))
  rw [← Nat.pow_add] at h2
  have h3 := Nat.pow_le_pow_right (show 0 < 2 by decide) (show blen m + j ≤ 52 by omega)
  have : (2 : Nat) ^ 52 = 4503599627370496 := rfl
  omega
theorem high_room {m j : Nat} (h0 : m ≠ 0) (h : j + blen m = 53) : 4503599627370496 ≤ m * 2 ^ j ∧ m * 2 ^ j < 9007199254740992 := by
  have h1 := lt_blen m
  have h2 : m * 2 ^ j < 2 ^ blen m * 2 ^ j := Nat.mul_lt_mul_of_pos_right h1 (Nat.pow_pos (by decide))
  have h4 := Nat.mul_le_mul_right (2 ^ j) (blen_ge m h0)
  have hp : blen m ≠ 0 := fun q => h0 ((blen_nil m).1 q)
  rw [← Nat.pow_add, show blen m + j = 53 by omega] at h2
  rw [← Nat.pow_add, show blen m - 1 + j = 52 by omega] at h4
  have : (2 : Nat) ^ 52 = 4503599627370496 := rfl
  have : (2 : Nat) ^ 53 = 9007199254740992 := rfl
  omega
theorem shl_nat {m j : Nat} (h : m * 2 ^ j < 18446744073709551616) : IntKind.u64.wrap ((m : Int) * 2 ^ j) = ((m * 2 ^ j : Nat) : Int) := by
  rw [mul_pow_cast, wrap_nat, Nat.mod_eq_of_lt h]
theorem andNot_hidden (y : Nat) (h1 : 4503599627370496 ≤ y) (h2 : y < 9007199254740992) : bits .andNot .u64 (y : Int) 4503599627370496 = ((y - 4503599627370496 : Nat) : Int) := by
  have h := u64_andNot_nat y 4503599627370496 (by omega) (by decide)
  obtain ⟨f, rfl⟩ : ∃ f, y = f + 4503599627370496 := ⟨y - 4503599627370496, by omega⟩
  have hf : f < 4503599627370496 := by omega
  have e : f ||| 4503599627370496 = f + 4503599627370496 := by
    have h2 := Nat.two_pow_add_eq_or_of_lt (i := 52) (b := f) (by omega) 1
    rw [Nat.mul_one] at h2
    rw [Nat.or_comm]
    have h3 : (2 : Nat) ^ 52 = 4503599627370496 := rfl
    rw [h3] at h2
    omega
  refine h.trans ?_
  rw [Nat.add_sub_cancel]
  refine congrArg Int.ofNat ?_
  rw [← e]
  apply Nat.eq_of_testBit_eq
  intro i
  have hM := Nat.testBit_two_pow_sub_succ (x := 4503599627370496) (n := 64) (by decide) i
  rw [show (2 : Nat) ^ 64 - (4503599627370496 + 1) = 18446744073709551615 - 4503599627370496 from by decide] at hM
  rw [Nat.testBit_and, Nat.testBit_or, hM]
  have hT : Nat.testBit 4503599627370496 i = decide (52 = i) := Nat.testBit_two_pow (n := 52) (m := i)
  rw [hT]
  by_cases hi : 52 = i
  · subst hi
    rw [Nat.testBit_lt_two_pow (show f < 2 ^ 52 from hf)]
    rfl
  · rw [decide_eq_false hi]
    by_cases h64 : i < 64
    · rw [decide_eq_true h64]; simp
    · rw [decide_eq_false h64, Nat.testBit_lt_two_pow (Nat.lt_of_lt_of_le hf (Nat.pow_le_pow_right (show 0 < 2 by decide) (show 52 ≤ i by omega)))]
      rfl

set_option maxRecDepth 100000 in
set_option maxHeartbeats 2000000 in
theorem fields_low (s : Bool) (b off c m : Nat) (e : Int) (w : World) (hI : IsW w (some ⟨b, off, none⟩) 1 c (wordsOf m)) (hc0 : w.cell? ⟨b, off, none⟩ = some (.int .u64 (m : Int))) (hg : greatB m = false) (j : Nat) (he : e = (j : Int) - 1074) (ht : j + blen m ≤ 52) :
    Calls Tryz.prog 36 #[numV s (some ⟨b, off, none⟩) 1 c e false] w fun r w' => r = .returned (.agg #[.bool s, .int .i64 0, .int .u64 ((m * 2 ^ j : Nat) : Int)]) ∧ Below w.heap.size w w' := by
  have hR : IntKind.u64.wrap ((m : Int) * 2 ^ j) = ((m * 2 ^ j : Nat) : Int) := shl_nat (by have := low_room ht; omega)
  generalize m * 2 ^ j = F at *
  have hb0 := nbelow_trans (below_one w (.cells #[.bool s, .slice (some ⟨b, off, none⟩) 1 c, .int .i64 e, .bool false] 62)) (below_one _ (.cells #[.bool false, .int .i64 0, .int .u64 0] 73))
  have TC : Hid _ := fun w' q => top_calls s (some ⟨b, off, none⟩) 1 c m e false w' q (by omega) hg (by omega)
  subst he
  have hjb : j ≤ 52 := by omega
  have hjw : IntKind.i64.wrap (j : Int) = (j : Int) := by rw [IntKind.wrap_i64]; omega
  generalize blen m = bl at *
  have hc1 := dcarry_cell hb0 hc0
  have f0 := dcarry_cell hb0 hc0
  clear f0
  go_enter Tryz.func36, Tryz.ntmps36
  go_wp2_with fail
  refine Calls.mono (TC.out _ (hI.keep hb0)) ?_
  rintro r w1 ⟨rfl, hb1⟩
  have hb01 := nbelow_trans hb0 hb1
  have hc2 := dcarry_cell hb1 hc1
  have k0 : w1.cell? ⟨w.heap.size, 0, none⟩ = some (.bool s) := dcarry_cell hb1 (by go_simp)
  have k1 : w1.cell? ⟨w.heap.size, 1, none⟩ = some (.slice (some ⟨b, off, none⟩) 1 c) := dcarry_cell hb1 (by go_simp)
  have k2 : w1.cell? ⟨w.heap.size, 2, none⟩ = some (.int .i64 ((j : Int) - 1074)) := dcarry_cell hb1 (by go_simp)
  have z0 : w1.cell? ⟨w.heap.size + 1, 0, none⟩ = some (.bool false) := dcarry_cell hb1 (by go_simp)
  have z1 : w1.cell? ⟨w.heap.size + 1, 1, none⟩ = some (.int .i64 0) := dcarry_cell hb1 (by go_simp)
  have z2 : w1.cell? ⟨w.heap.size + 1, 2, none⟩ = some (.int .u64 0) := dcarry_cell hb1 (by go_simp)
  have y0 : w1.frozen? ⟨w.heap.size + 1, 0, none⟩ = false := dcarry_frozen hb1 (v := .bool false) (by go_simp) (by go_simp)
  have y1 : w1.frozen? ⟨w.heap.size + 1, 1, none⟩ = false := dcarry_frozen hb1 (v := .int .i64 0) (by go_simp) (by go_simp)
  have y2 : w1.frozen? ⟨w.heap.size + 1, 2, none⟩ = false := dcarry_frozen hb1 (v := .int .u64 0) (by go_simp) (by go_simp)
  have k3 : w1.cell? ⟨w.heap.size, 3, none⟩ = some (.bool false) := dcarry_cell hb1 (by go_simp)
  clear hb1 hb0 hc1 hc0
  go_wp2_with fail
  go_region_with fail
  all_goals go_wp2_with fail
  all_goals refine bodyPost_ret (v := .agg #[.bool s, .int .i64 0, .int .u64 (F : Int)]) (by simp [results, Tryz.results36, go_sem, z0, z1, z2]) rfl ⟨rfl, ?_⟩
  all_goals repeat (first | exact hb01 | refine Below.drew ?_ | refine Below.setCell ?_ (by show w.heap.size ≤ w.heap.size + 1; omega) _)
end Go.Proofs.YtjgnoaieplmoiaaGreatDoor

namespace Go.Proofs.YtjgnoaieplmoiaaGreatDoor
open Go.RowKit

def fldE (m : Nat) (e : Int) : Int := if e + (blen m : Int) - 1 < -1022 then 0 else e + (blen m : Int) - 1 + 1023
def fldF (m : Nat) (e : Int) : Int := if e + (blen m : Int) - 1 < -1022 then ((m * 2 ^ (e + 1074).toNat : Nat) : Int) else ((m * 2 ^ (53 - blen m) - 4503599627370496 : Nat) : Int)
def toB (p : Bool × Nat × Int) : Bool := decide (blen p.2.1 ≤ 53 ∧ -1074 ≤ p.2.2 ∧ p.2.2 + (blen p.2.1 : Int) - 1 ≤ 1023)
def toV (p : Bool × Nat × Int) : Int := joinV p.1 (fldE p.2.1 p.2.2) (fldF p.2.1 p.2.2)
def toR (s : Bool) (m : Nat) (e : Int) : Int × Bool := if rightB m e = false then (0, false) else if m = 0 then (0, true) else if toB (formD s m e) = true then (toV (formD s m e), true) else (0, false)
theorem toR_not {s : Bool} {m : Nat} {e : Int} (h : rightB m e = false) : toR s m e = (0, false) := by unfold toR; rw [if_pos h]
theorem toR_zero {s : Bool} {e : Int} (h : rightB 0 e = true) : toR s 0 e = (0, true) := by unfold toR; rw [if_neg (by rw [h]; decide), if_pos rfl]
theorem toR_no {s : Bool} {m : Nat} {e : Int} (h : rightB m e = true) (h0 : m ≠ 0) (hb : toB (formD s m e) = false) : toR s m e = (0, false) := by unfold toR; rw [if_neg (by rw [h]; decide), if_neg h0, if_neg (by rw [hb]; decide)]
theorem toR_yes {s : Bool} {m : Nat} {e : Int} (h : rightB m e = true) (h0 : m ≠ 0) (hb : toB (formD s m e) = true) : toR s m e = (toV (formD s m e), true) := by unfold toR; rw [if_neg (by rw [h]; decide), if_neg h0, if_pos hb]

set_option maxRecDepth 100000 in
set_option maxHeartbeats 1000000 in
theorem to_not (s : Bool) (a : Option Addr) (len cap : Nat) (xs : List Int) (e : Int) (w : World) (h : IsW w a len cap xs) (hm : len ≤ 17592186044416) (hr : rightB (val xs) e = false) :
    Calls Tryz.prog 13 #[dyV s a len cap e] w fun r w' => r = .returned (.tuple #[.int .u64 0, .bool false]) ∧ Below w.heap.size w w' := by
  have hb0 : Below w.heap.size w ((w.alloc (.cells #[.bool s, .slice a len cap, .int .i64 e] 25)).alloc (.cells #[.bool s, .slice a len cap, .int .i64 e] 25)) := nbelow_trans (below_one _ _) (below_one _ _)
  have RC : Hid _ := right1_calls (w.heap.size + 1) s a len cap xs e _ (h.keep hb0) hm (by go_simp) (by go_simp) (by go_simp)
  rw [hr] at RC
  clear hr
  go_enter Tryz.func13, Tryz.ntmps13
  go_wp2_with fail
  refine Calls.mono RC.out ?_
  rintro r w1 ⟨rfl, hb1⟩
  go_wp2_with fail
  go_ret2
  exact ⟨rfl, nbelow_trans hb0 hb1⟩

set_option maxRecDepth 100000 in
set_option maxHeartbeats 1000000 in
theorem to_zero (s : Bool) (a : Option Addr) (len cap : Nat) (xs : List Int) (e : Int) (w : World) (h : IsW w a len cap xs) (hm : len ≤ 17592186044416) (hT : Tab w) (hr : rightB (val xs) e = true) (h0 : val xs = 0) :
    Calls Tryz.prog 13 #[dyV s a len cap e] w fun r w' => r = .returned (.tuple #[.int .u64 0, .bool true]) ∧ Below w.heap.size w w' := by
  have hb0 : Below w.heap.size w ((w.alloc (.cells #[.bool s, .slice a len cap, .int .i64 e] 25)).alloc (.cells #[.bool s, .slice a len cap, .int .i64 e] 25)) := nbelow_trans (below_one _ _) (below_one _ _)
  have RC : Hid _ := right1_calls (w.heap.size + 1) s a len cap xs e _ (h.keep hb0) hm (by go_simp) (by go_simp) (by go_simp)
  have HCG : Hid (canG s (val xs) e = formD s (val xs) e) := canG_no (rightB_yes hr).1
  have HEB : Hid (-4611686018427387904 ≤ e ∧ e ≤ 4611686018427387904) := by have := (rightB_yes hr).2; rw [Hid]; omega
  have HGR : Hid (greatB (formD s (val xs) e).2.1 = false) := great_mono (form_amount_le _ _ _) (rightB_yes hr).1
  rw [hr] at RC
  have HF : Hid (formD s (val xs) e = (false, 0, 0)) := by rw [Hid, h0, form_zero]
  clear hr h0
  go_enter Tryz.func13, Tryz.ntmps13
  go_wp2_with fail
  refine Calls.mono RC.out ?_
  rintro r w1 ⟨rfl, hb1⟩
  have hb01 := nbelow_trans hb0 hb1
  have k0 : w1.cell? ⟨w.heap.size, 0, none⟩ = some (.bool s) := dcarry_cell hb1 (by go_simp)
  have k1 : w1.cell? ⟨w.heap.size, 1, none⟩ = some (.slice a len cap) := dcarry_cell hb1 (by go_simp)
  have k2 : w1.cell? ⟨w.heap.size, 2, none⟩ = some (.int .i64 e) := dcarry_cell hb1 (by go_simp)
  go_wp2_with fail
  refine Calls.mono (canonical_calls s a len cap xs e w1 (h.keep hb01) hm (hT.kept hb01)) ?_
  rintro r w2 ⟨a2, n2, c2, e2, rfl, HE, HN2, HZ2, hn2, hO2, hb2⟩
  rw [HCG.out] at HE HN2 hO2 ⊢
  obtain rfl := HE.out HEB.out.1 HEB.out.2
  have hb02 := nbelow_trans hb01 hb2
  rw [HF.out] at HN2 ⊢
  have hz : n2 = 0 := by have := HN2.out; rw [words_zero] at this; exact this
  subst hz
  clear HN2 hO2 HGR HE
  go_wp2_with fail
  refine Calls.mono (zero_calls _ _ _ _ _ _ _) ?_
  rintro r w3 ⟨rfl, rfl⟩
  go_wp2_with fail
  go_ret2
  exact ⟨rfl, by repeat (first | exact hb02 | refine Below.drew ?_ | refine nbelow_trans ?_ (below_one _ _))⟩

set_option maxRecDepth 100000 in
set_option maxHeartbeats 1000000 in
theorem to_noA (s : Bool) (a : Option Addr) (len cap : Nat) (xs : List Int) (e : Int) (w : World) (h : IsW w a len cap xs) (hm : len ≤ 17592186044416) (hT : Tab w) (hr : rightB (val xs) e = true) (h0 : val xs ≠ 0) (hA : 53 < (blen (formD s (val xs) e).2.1 : Int)) :
    Calls Tryz.prog 13 #[dyV s a len cap e] w fun r w' => r = .returned (.tuple #[.int .u64 0, .bool false]) ∧ Below w.heap.size w w' := by
  have hb0 : Below w.heap.size w ((w.alloc (.cells #[.bool s, .slice a len cap, .int .i64 e] 25)).alloc (.cells #[.bool s, .slice a len cap, .int .i64 e] 25)) := nbelow_trans (below_one _ _) (below_one _ _)
  have RC : Hid _ := right1_calls (w.heap.size + 1) s a len cap xs e _ (h.keep hb0) hm (by go_simp) (by go_simp) (by go_simp)
  have HCG : Hid (canG s (val xs) e = formD s (val xs) e) := canG_no (rightB_yes hr).1
  have HEB : Hid (-4611686018427387904 ≤ e ∧ e ≤ 4611686018427387904) := by have := (rightB_yes hr).2; rw [Hid]; omega
  have HGR : Hid (greatB (formD s (val xs) e).2.1 = false) := great_mono (form_amount_le _ _ _) (rightB_yes hr).1
  rw [hr] at RC
  have HNE : Hid ((formD s (val xs) e).2.1 ≠ 0) := by rw [Hid, form_pos s h0]; intro q; have := (odd_part h0).1; simp only at q; rw [q] at this; omega
  have hpe : -4611686018427387904 ≤ (formD s (val xs) e).2.2 ∧ (formD s (val xs) e).2.2 ≤ 4611686018427387904 := by have h3 := (rightB_yes hr).2; have h4 := tz_le_blen (val xs); have h5 := (great_not _).1 (rightB_yes hr).1; rw [form_pos s h0]; simp only; omega
  clear hr h0
  go_enter Tryz.func13, Tryz.ntmps13
  go_wp2_with fail
  refine Calls.mono RC.out ?_
  rintro r w1 ⟨rfl, hb1⟩
  have hb01 := nbelow_trans hb0 hb1
  have k0 : w1.cell? ⟨w.heap.size, 0, none⟩ = some (.bool s) := dcarry_cell hb1 (by go_simp)
  have k1 : w1.cell? ⟨w.heap.size, 1, none⟩ = some (.slice a len cap) := dcarry_cell hb1 (by go_simp)
  have k2 : w1.cell? ⟨w.heap.size, 2, none⟩ = some (.int .i64 e) := dcarry_cell hb1 (by go_simp)
  go_wp2_with fail
  refine Calls.mono (canonical_calls s a len cap xs e w1 (h.keep hb01) hm (hT.kept hb01)) ?_
  rintro r w2 ⟨a2, n2, c2, e2, rfl, HE, HN2, HZ2, hn2, hO2, hb2⟩
  rw [HCG.out] at HE HN2 hO2 ⊢
  obtain rfl := HE.out HEB.out.1 HEB.out.2
  have hb02 := nbelow_trans hb01 hb2
  have hz : n2 ≠ 0 := fun q => HNE.out ((words_nil _).1 (List.length_eq_zero_iff.1 (HN2.out.symm.trans q)))
  have hI2 := hO2.1
  have hg2 := HGR.out
  generalize formD s (val xs) e = p at *
  obtain ⟨ps, pm, pe⟩ := p
  simp only at *
  have SC : Hid _ := fun w' q => size_calls ps a2 n2 c2 pm pe false w' q hn2 hg2
  have TC : Hid _ := fun w' q => top_calls ps a2 n2 c2 pm pe false w' q hn2 hg2 hpe
  have hz' : ¬ (n2 : Int) = 0 := by omega
  obtain ⟨hp1, hp2⟩ := hpe
  generalize blen pm = bl at *
  clear HE HCG HEB HGR hb1 hb2 hb01 k0 k1 k2
  go_wp2_with fail
  refine Calls.mono (zero_calls _ _ _ _ _ _ _) ?_
  rintro r w3 ⟨rfl, rfl⟩
  have e1 : ((n2 : Int) == 0) = false := by simp; omega
  rw [e1]
  go_wp2_with fail
  have hbx : Below w2.heap.size w2 ((w2.alloc (.cells #[.bool ps, .slice a2 n2 c2, .int .i64 pe, .bool false] 62)).alloc (.cells #[.bool ps, .slice a2 n2 c2, .int .i64 pe, .bool false] 62)) := nbelow_trans (below_one _ _) (below_one _ _)
  refine Calls.mono (SC.out _ (hI2.keep hbx)) ?_
  rintro r w4 ⟨rfl, hb4⟩
  have x0 : w4.cell? ⟨w2.heap.size, 0, none⟩ = some (.bool ps) := dcarry_cell hb4 (by go_simp)
  have x1 : w4.cell? ⟨w2.heap.size, 1, none⟩ = some (.slice a2 n2 c2) := dcarry_cell hb4 (by go_simp)
  have x2 : w4.cell? ⟨w2.heap.size, 2, none⟩ = some (.int .i64 pe) := dcarry_cell hb4 (by go_simp)
  have x3 : w4.cell? ⟨w2.heap.size, 3, none⟩ = some (.bool false) := dcarry_cell hb4 (by go_simp)
  have hb24 := nbelow_trans hbx hb4
  have hb04 := nbelow_trans hb02 hb24
  have hI4 := hI2.keep hb24
  clear hb4 hbx
  go_wp2_with fail
  go_ret2
  exact ⟨rfl, hb04⟩

set_option maxRecDepth 100000 in
set_option maxHeartbeats 1000000 in
theorem to_noB (s : Bool) (a : Option Addr) (len cap : Nat) (xs : List Int) (e : Int) (w : World) (h : IsW w a len cap xs) (hm : len ≤ 17592186044416) (hT : Tab w) (hr : rightB (val xs) e = true) (h0 : val xs ≠ 0) (hA : (blen (formD s (val xs) e).2.1 : Int) ≤ 53) (hB : 1023 < (formD s (val xs) e).2.2 + (blen (formD s (val xs) e).2.1 : Int) - 1) :
    Calls Tryz.prog 13 #[dyV s a len cap e] w fun r w' => r = .returned (.tuple #[.int .u64 0, .bool false]) ∧ Below w.heap.size w w' := by
  have hb0 : Below w.heap.size w ((w.alloc (.cells #[.bool s, .slice a len cap, .int .i64 e] 25)).alloc (.cells #[.bool s, .slice a len cap, .int .i64 e] 25)) := nbelow_trans (below_one _ _) (below_one _ _)
  have RC : Hid _ := right1_calls (w.heap.size + 1) s a len cap xs e _ (h.keep hb0) hm (by go_simp) (by go_simp) (by go_simp)
  have HCG : Hid (canG s (val xs) e = formD s (val xs) e) := canG_no (rightB_yes hr).1
  have HEB : Hid (-4611686018427387904 ≤ e ∧ e ≤ 4611686018427387904) := by have := (rightB_yes hr).2; rw [Hid]; omega
  have HGR : Hid (greatB (formD s (val xs) e).2.1 = false) := great_mono (form_amount_le _ _ _) (rightB_yes hr).1
  rw [hr] at RC
  have HNE : Hid ((formD s (val xs) e).2.1 ≠ 0) := by rw [Hid, form_pos s h0]; intro q; have := (odd_part h0).1; simp only at q; rw [q] at this; omega
  have hpe : -4611686018427387904 ≤ (formD s (val xs) e).2.2 ∧ (formD s (val xs) e).2.2 ≤ 4611686018427387904 := by have h3 := (rightB_yes hr).2; have h4 := tz_le_blen (val xs); have h5 := (great_not _).1 (rightB_yes hr).1; rw [form_pos s h0]; simp only; omega
  clear hr h0
  go_enter Tryz.func13, Tryz.ntmps13
  go_wp2_with fail
  refine Calls.mono RC.out ?_
  rintro r w1 ⟨rfl, hb1⟩
  have hb01 := nbelow_trans hb0 hb1
  have k0 : w1.cell? ⟨w.heap.size, 0, none⟩ = some (.bool s) := dcarry_cell hb1 (by go_simp)
  have k1 : w1.cell? ⟨w.heap.size, 1, none⟩ = some (.slice a len cap) := dcarry_cell hb1 (by go_simp)
  have k2 : w1.cell? ⟨w.heap.size, 2, none⟩ = some (.int .i64 e) := dcarry_cell hb1 (by go_simp)
  go_wp2_with fail
  refine Calls.mono (canonical_calls s a len cap xs e w1 (h.keep hb01) hm (hT.kept hb01)) ?_
  rintro r w2 ⟨a2, n2, c2, e2, rfl, HE, HN2, HZ2, hn2, hO2, hb2⟩
  rw [HCG.out] at HE HN2 hO2 ⊢
  obtain rfl := HE.out HEB.out.1 HEB.out.2
  have hb02 := nbelow_trans hb01 hb2
  have hz : n2 ≠ 0 := fun q => HNE.out ((words_nil _).1 (List.length_eq_zero_iff.1 (HN2.out.symm.trans q)))
  have hI2 := hO2.1
  have hg2 := HGR.out
  generalize formD s (val xs) e = p at *
  obtain ⟨ps, pm, pe⟩ := p
  simp only at *
  have SC : Hid _ := fun w' q => size_calls ps a2 n2 c2 pm pe false w' q hn2 hg2
  have TC : Hid _ := fun w' q => top_calls ps a2 n2 c2 pm pe false w' q hn2 hg2 hpe
  have hz' : ¬ (n2 : Int) = 0 := by omega
  obtain ⟨hp1, hp2⟩ := hpe
  generalize blen pm = bl at *
  clear HE HCG HEB HGR hb1 hb2 hb01 k0 k1 k2
  go_wp2_with fail
  refine Calls.mono (zero_calls _ _ _ _ _ _ _) ?_
  rintro r w3 ⟨rfl, rfl⟩
  have e1 : ((n2 : Int) == 0) = false := by simp; omega
  rw [e1]
  go_wp2_with fail
  have hbx : Below w2.heap.size w2 ((w2.alloc (.cells #[.bool ps, .slice a2 n2 c2, .int .i64 pe, .bool false] 62)).alloc (.cells #[.bool ps, .slice a2 n2 c2, .int .i64 pe, .bool false] 62)) := nbelow_trans (below_one _ _) (below_one _ _)
  refine Calls.mono (SC.out _ (hI2.keep hbx)) ?_
  rintro r w4 ⟨rfl, hb4⟩
  have x0 : w4.cell? ⟨w2.heap.size, 0, none⟩ = some (.bool ps) := dcarry_cell hb4 (by go_simp)
  have x1 : w4.cell? ⟨w2.heap.size, 1, none⟩ = some (.slice a2 n2 c2) := dcarry_cell hb4 (by go_simp)
  have x2 : w4.cell? ⟨w2.heap.size, 2, none⟩ = some (.int .i64 pe) := dcarry_cell hb4 (by go_simp)
  have x3 : w4.cell? ⟨w2.heap.size, 3, none⟩ = some (.bool false) := dcarry_cell hb4 (by go_simp)
  have hb24 := nbelow_trans hbx hb4
  have hb04 := nbelow_trans hb02 hb24
  have hI4 := hI2.keep hb24
  clear hb4 hbx
  go_wp2_with fail
  refine Calls.mono (TC.out _ hI4) ?_
  rintro r w5 ⟨rfl, hb5⟩
  replace x0 := dcarry_cell hb5 x0
  replace x1 := dcarry_cell hb5 x1
  replace x2 := dcarry_cell hb5 x2
  replace x3 := dcarry_cell hb5 x3
  replace hI4 := hI4.keep hb5
  replace hb04 := nbelow_trans hb04 hb5
  clear hb5
  go_wp2_with fail
  go_ret2
  exact ⟨rfl, hb04⟩

set_option maxRecDepth 100000 in
set_option maxHeartbeats 1000000 in
theorem to_noC (s : Bool) (a : Option Addr) (len cap : Nat) (xs : List Int) (e : Int) (w : World) (h : IsW w a len cap xs) (hm : len ≤ 17592186044416) (hT : Tab w) (hr : rightB (val xs) e = true) (h0 : val xs ≠ 0) (hA : (blen (formD s (val xs) e).2.1 : Int) ≤ 53) (hB : (formD s (val xs) e).2.2 + (blen (formD s (val xs) e).2.1 : Int) - 1 ≤ 1023) (hC : (formD s (val xs) e).2.2 < -1074) :
    Calls Tryz.prog 13 #[dyV s a len cap e] w fun r w' => r = .returned (.tuple #[.int .u64 0, .bool false]) ∧ Below w.heap.size w w' := by
  have hb0 : Below w.heap.size w ((w.alloc (.cells #[.bool s, .slice a len cap, .int .i64 e] 25)).alloc (.cells #[.bool s, .slice a len cap, .int .i64 e] 25)) := nbelow_trans (below_one _ _) (below_one _ _)
  have RC : Hid _ := right1_calls (w.heap.size + 1) s a len cap xs e _ (h.keep hb0) hm (by go_simp) (by go_simp) (by go_simp)
  have HCG : Hid (canG s (val xs) e = formD s (val xs) e) := canG_no (rightB_yes hr).1
  have HEB : Hid (-4611686018427387904 ≤ e ∧ e ≤ 4611686018427387904) := by have := (rightB_yes hr).2; rw [Hid]; omega
  have HGR : Hid (greatB (formD s (val xs) e).2.1 = false) := great_mono (form_amount_le _ _ _) (rightB_yes hr).1
  rw [hr] at RC
  have HNE : Hid ((formD s (val xs) e).2.1 ≠ 0) := by rw [Hid, form_pos s h0]; intro q; have := (odd_part h0).1; simp only at q; rw [q] at this; omega
  have hpe : -4611686018427387904 ≤ (formD s (val xs) e).2.2 ∧ (formD s (val xs) e).2.2 ≤ 4611686018427387904 := by have h3 := (rightB_yes hr).2; have h4 := tz_le_blen (val xs); have h5 := (great_not _).1 (rightB_yes hr).1; rw [form_pos s h0]; simp only; omega
  clear hr h0
  go_enter Tryz.func13, Tryz.ntmps13
  go_wp2_with fail
  refine Calls.mono RC.out ?_
  rintro r w1 ⟨rfl, hb1⟩
  have hb01 := nbelow_trans hb0 hb1
  have k0 : w1.cell? ⟨w.heap.size, 0, none⟩ = some (.bool s) := dcarry_cell hb1 (by go_simp)
  have k1 : w1.cell? ⟨w.heap.size, 1, none⟩ = some (.slice a len cap) := dcarry_cell hb1 (by go_simp)
  have k2 : w1.cell? ⟨w.heap.size, 2, none⟩ = some (.int .i64 e) := dcarry_cell hb1 (by go_simp)
  go_wp2_with fail
  refine Calls.mono (canonical_calls s a len cap xs e w1 (h.keep hb01) hm (hT.kept hb01)) ?_
  rintro r w2 ⟨a2, n2, c2, e2, rfl, HE, HN2, HZ2, hn2, hO2, hb2⟩
  rw [HCG.out] at HE HN2 hO2 ⊢
  obtain rfl := HE.out HEB.out.1 HEB.out.2
  have hb02 := nbelow_trans hb01 hb2
  have hz : n2 ≠ 0 := fun q => HNE.out ((words_nil _).1 (List.length_eq_zero_iff.1 (HN2.out.symm.trans q)))
  have hI2 := hO2.1
  have hg2 := HGR.out
  generalize formD s (val xs) e = p at *
  obtain ⟨ps, pm, pe⟩ := p
  simp only at *
  have SC : Hid _ := fun w' q => size_calls ps a2 n2 c2 pm pe false w' q hn2 hg2
  have TC : Hid _ := fun w' q => top_calls ps a2 n2 c2 pm pe false w' q hn2 hg2 hpe
  have hz' : ¬ (n2 : Int) = 0 := by omega
  obtain ⟨hp1, hp2⟩ := hpe
  generalize blen pm = bl at *
  clear HE HCG HEB HGR hb1 hb2 hb01 k0 k1 k2
  go_wp2_with fail
  refine Calls.mono (zero_calls _ _ _ _ _ _ _) ?_
  rintro r w3 ⟨rfl, rfl⟩
  have e1 : ((n2 : Int) == 0) = false := by simp; omega
  rw [e1]
  go_wp2_with fail
  have hbx : Below w2.heap.size w2 ((w2.alloc (.cells #[.bool ps, .slice a2 n2 c2, .int .i64 pe, .bool false] 62)).alloc (.cells #[.bool ps, .slice a2 n2 c2, .int .i64 pe, .bool false] 62)) := nbelow_trans (below_one _ _) (below_one _ _)
  refine Calls.mono (SC.out _ (hI2.keep hbx)) ?_
  rintro r w4 ⟨rfl, hb4⟩
  have x0 : w4.cell? ⟨w2.heap.size, 0, none⟩ = some (.bool ps) := dcarry_cell hb4 (by go_simp)
  have x1 : w4.cell? ⟨w2.heap.size, 1, none⟩ = some (.slice a2 n2 c2) := dcarry_cell hb4 (by go_simp)
  have x2 : w4.cell? ⟨w2.heap.size, 2, none⟩ = some (.int .i64 pe) := dcarry_cell hb4 (by go_simp)
  have x3 : w4.cell? ⟨w2.heap.size, 3, none⟩ = some (.bool false) := dcarry_cell hb4 (by go_simp)
  have hb24 := nbelow_trans hbx hb4
  have hb04 := nbelow_trans hb02 hb24
  have hI4 := hI2.keep hb24
  clear hb4 hbx
  go_wp2_with fail
  refine Calls.mono (TC.out _ hI4) ?_
  rintro r w5 ⟨rfl, hb5⟩
  replace x0 := dcarry_cell hb5 x0
  replace x1 := dcarry_cell hb5 x1
  replace x2 := dcarry_cell hb5 x2
  replace x3 := dcarry_cell hb5 x3
  replace hI4 := hI4.keep hb5
  replace hb04 := nbelow_trans hb04 hb5
  clear hb5
  go_wp2_with fail
  go_ret2
  exact ⟨rfl, hb04⟩
end Go.Proofs.YtjgnoaieplmoiaaGreatDoor

/- Package ival: which numbers are in their order, which enclosures are right; the first question of the statements through the layers. -/
import Derived.Test.YtjgnoaieplmoiaaGreatDoorRNC
import Derived.Test.YtjgnoaieplmoiaaGreatDoorGFParse
namespace Go.Proofs.YtjgnoaieplmoiaaGreatDoor
open Go.RowKit
attribute [local go_sem ↓] Go.wp_at_zero Go.wp_at_succ

theorem fNames_keepR {w w' : World} (h : Fl.Names w) (hb : Below w.heap.size w w') : Fl.Names w' := ⟨Nat.lt_of_lt_of_le h.1 hb.size, fun j hj => dcarry_cell hb (h.2 j hj)⟩

def invInexR : ByteArray := ⟨#[105, 110, 118, 97, 108, 105, 100, 32, 105, 110, 101, 120, 97, 99, 116]⟩

set_option maxRecDepth 100000 in
set_option maxHeartbeats 1000000 in
theorem topBeginsR_calls (w : World) (hN : Fl.Names w) :
    Calls Tryz.prog 4 #[] w fun e w' => e = .returned (.bool true) ∧ Below w.heap.size w w' := by
  have k1 : (upV 9223372036854775808 == 1) = true := by decide +kernel
  have k2 : (classV 9218868437227405312 == 4) = true := by decide +kernel
  have k6 : (Fl.parseE invInexR == 0) = true := by decide +kernel
  have k7 : (Fl.parseV invInexR == 17) = true := by decide +kernel
  have u1 : U 9223372036854775808 := by unfold U; omega
  have u2 : U 9218868437227405312 := by unfold U; omega
  go_enter Tryz.func4, Tryz.ntmps4
  go_wp2_with fail
  refine (Fl.fParse_calls invInexR _ hN).mono ?_
  rintro e w1 ⟨rfl, hb⟩
  go_wp2_with fail
  refine (up_calls _ _ u1).mono ?_
  rintro e w1 ⟨rfl, rfl⟩
  go_wp2_with fail
  refine (class_calls _ _ u2).mono ?_
  rintro e w2 ⟨rfl, hb2⟩
  replace hb := nbelow_trans hb hb2
  clear hb2
  go_wp2_with fail
  go_ret
  exact ⟨rfl, hb⟩

set_option maxRecDepth 100000 in
set_option maxHeartbeats 2000000 in
theorem atMost_calls (s : Bool) (a : Option Addr) (len cap : Nat) (xs : List Int) (e : Int) (s' : Bool) (a' : Option Addr) (len' cap' : Nat) (ys : List Int) (e' : Int) (w : World) (h : IsW w a len cap xs) (hm : len ≤ 17592186044000) (h' : IsW w a' len' cap' ys) (hm' : len' ≤ 17592186044000) (hT : Tab w) :
    Calls Tryz.prog 40 #[dyV s a len cap e, dyV s' a' len' cap' e'] w fun r w' => r = .returned (.bool (rtB s (val xs) e s' (val ys) e')) ∧ Below w.heap.size w w' := by
  have bA : Below w.heap.size w ((w.alloc (.cells #[.bool s, .slice a len cap, .int .i64 e] 25)).alloc (.cells #[.bool s', .slice a' len' cap', .int .i64 e'] 25)) := nbelow_trans (below_one _ _) (below_one _ _)
  cases hr : (rightB (val xs) e && rightB (val ys) e') with
  | false =>
    have HC : Hid _ := dcmp_not s a len cap xs e s' a' len' cap' ys e' _ (h.keep bA) (by omega) (h'.keep bA) (by omega) hr
    have e1 : Hid (rtB s (val xs) e s' (val ys) e' = false) := by rw [Hid]; unfold rtB; rw [hr]; rfl
    clear hr h h' hT
    go_enter Tryz.func40, Tryz.ntmps40
    go_wp2_with fail
    refine Calls.mono HC.out ?_
    rintro r w1 ⟨rfl, bN⟩
    go_wp2_with fail
    go_ret
    rw [e1.out]
    exact ⟨rfl, nbelow_trans bA bN⟩
  | true =>
    rw [Bool.and_eq_true] at hr
    have HC : Hid _ := dcmp_yes s a len cap xs e s' a' len' cap' ys e' _ (h.keep bA) (by omega) (h'.keep bA) (by omega) (hT.kept bA) hr.1 hr.2
    have e1 : Hid (rtB s (val xs) e s' (val ys) e' = decide (cmpD (formD s (val xs) e) (formD s' (val ys) e') ≤ 0)) := by rw [Hid]; unfold rtB; rw [hr.1, hr.2]; rfl
    generalize cmpD (formD s (val xs) e) (formD s' (val ys) e') = cc at *
    clear hr h h' hT
    go_enter Tryz.func40, Tryz.ntmps40
    go_wp2_with fail
    refine Calls.mono HC.out ?_
    rintro r w1 ⟨rfl, bN⟩
    go_wp2_with fail
    go_ret
    rw [e1.out]
    exact ⟨rfl, nbelow_trans bA bN⟩

set_option maxRecDepth 100000 in
set_option maxHeartbeats 4000000 in
theorem iright1_calls (s : Bool) (a : Option Addr) (len cap : Nat) (xs : List Int) (e : Int) (s' : Bool) (a' : Option Addr) (len' cap' : Nat) (ys : List Int) (e' : Int) (B : Nat) (w : World) (h : IsW w a len cap xs) (hm : len ≤ 17592186044000) (h' : IsW w a' len' cap' ys) (hm' : len' ≤ 17592186044000) (c0 : w.cell? ⟨B, 0, none⟩ = some (.bool s)) (c1 : w.cell? ⟨B, 1, none⟩ = some (.slice a len cap)) (c2 : w.cell? ⟨B, 2, none⟩ = some (.int .i64 e)) (c3 : w.cell? ⟨B, 3, none⟩ = some (.bool s')) (c4 : w.cell? ⟨B, 4, none⟩ = some (.slice a' len' cap')) (c5 : w.cell? ⟨B, 5, none⟩ = some (.int .i64 e')) (hT : Tab w) :
    Calls Tryz.prog 17 #[.slice (some ⟨B, 0, none⟩) 1 1] w fun r w' => r = .returned (.bool (rtB s (val xs) e s' (val ys) e')) ∧ Below w.heap.size w w' := by
  have HM1 : Hid _ := fun w' (q : IsW w' a len cap xs) (q' : IsW w' a' len' cap' ys) t' => atMost_calls s a len cap xs e s' a' len' cap' ys e' w' q hm q' hm' t'
  generalize rtB s (val xs) e s' (val ys) e' = R1 at *
  clear hm hm'
  go_enter Tryz.func17, Tryz.ntmps17
  go_wp2_with fail
  go_loopw [7] (fun vi wr => ∃ k : Nat, k ≤ 1 ∧ vi = .int .i64 (k : Int) ∧ Below w.heap.size w wr ∧ Hid (1 ≤ k → R1 = true)) (fun vi _ => 1 - (intOf vi).toNat)
  case atStart => exact ⟨0, by omega, rfl, Below.refl _ _, fun q => absurd q (by omega)⟩
  case round =>
    obtain ⟨k, hk, rfl, bw, K1⟩ := hrel
    rcases (show k = 0 ∨ k = 1 by omega) with q | q
    · subst q
      have k0 := dcarry_cell bw c0
      have k1 := dcarry_cell bw c1
      have k2 := dcarry_cell bw c2
      have k3 := dcarry_cell bw c3
      have k4 := dcarry_cell bw c4
      have k5 := dcarry_cell bw c5
      have i1 := IsW.keep h bw
      have i2 := IsW.keep h' bw
      have tt := hT.kept bw
      have bB := below_one wr (.cells #[.bool s, .slice a len cap, .int .i64 e, .bool s', .slice a' len' cap', .int .i64 e'] 27)
      have y0 : (wr.alloc (.cells #[.bool s, .slice a len cap, .int .i64 e, .bool s', .slice a' len' cap', .int .i64 e'] 27)).cell? ⟨wr.heap.size, 0, none⟩ = some (.bool s) := by go_simp
      have y1 : (wr.alloc (.cells #[.bool s, .slice a len cap, .int .i64 e, .bool s', .slice a' len' cap', .int .i64 e'] 27)).cell? ⟨wr.heap.size, 1, none⟩ = some (.slice a len cap) := by go_simp
      have y2 : (wr.alloc (.cells #[.bool s, .slice a len cap, .int .i64 e, .bool s', .slice a' len' cap', .int .i64 e'] 27)).cell? ⟨wr.heap.size, 2, none⟩ = some (.int .i64 e) := by go_simp
      have y3 : (wr.alloc (.cells #[.bool s, .slice a len cap, .int .i64 e, .bool s', .slice a' len' cap', .int .i64 e'] 27)).cell? ⟨wr.heap.size, 3, none⟩ = some (.bool s') := by go_simp
      have y4 : (wr.alloc (.cells #[.bool s, .slice a len cap, .int .i64 e, .bool s', .slice a' len' cap', .int .i64 e'] 27)).cell? ⟨wr.heap.size, 4, none⟩ = some (.slice a' len' cap') := by go_simp
      have y5 : (wr.alloc (.cells #[.bool s, .slice a len cap, .int .i64 e, .bool s', .slice a' len' cap', .int .i64 e'] 27)).cell? ⟨wr.heap.size, 5, none⟩ = some (.int .i64 e') := by go_simp
      replace i1 := IsW.keep i1 bB
      replace i2 := IsW.keep i2 bB
      replace tt := tt.kept bB
      replace bw := nbelow_trans bw bB
      clear bB
      go_wp2_with fail
      generalize (wr.alloc (.cells #[.bool s, .slice a len cap, .int .i64 e, .bool s', .slice a' len' cap', .int .i64 e'] 27)) = w2 at *
      refine Calls.mono (HM1.out _ i1 i2 tt) ?_
      rintro r w3 ⟨rfl, bN⟩
      replace bw := nbelow_trans bw bN
      clear bN k0 k1 k2 k3 k4 k5 y0 y1 y2 y3 y4 y5 i1 i2 tt
      cases R1
      · go_wp2_with fail
        go_ret
        exact ⟨by first | rfl | simp, bw⟩
      · go_wp2_with fail
        exact ⟨⟨1, by omega, by first | rfl | go_num, bw, fun _ => by first | rfl | trivial⟩, by simp [intOf]⟩
    · subst q
      have e1 : Hid _ := K1.out (by omega)
      go_wp2_with fail
      go_ret
      rw [e1.out]
      exact ⟨rfl, bw⟩

set_option maxRecDepth 100000 in
set_option maxHeartbeats 4000000 in
theorem iright2_calls (s : Bool) (a : Option Addr) (len cap : Nat) (xs : List Int) (e : Int) (s' : Bool) (a' : Option Addr) (len' cap' : Nat) (ys : List Int) (e' : Int) (t : Bool) (b : Option Addr) (bl bc : Nat) (zs : List Int) (f : Int) (t' : Bool) (b' : Option Addr) (bl' bc' : Nat) (us : List Int) (f' : Int) (B : Nat) (w : World) (h : IsW w a len cap xs) (hm : len ≤ 17592186044000) (h' : IsW w a' len' cap' ys) (hm' : len' ≤ 17592186044000) (g : IsW w b bl bc zs) (gm : bl ≤ 17592186044000) (g' : IsW w b' bl' bc' us) (gm' : bl' ≤ 17592186044000) (c0 : w.cell? ⟨B, 0, none⟩ = some (.bool s)) (c1 : w.cell? ⟨B, 1, none⟩ = some (.slice a len cap)) (c2 : w.cell? ⟨B, 2, none⟩ = some (.int .i64 e)) (c3 : w.cell? ⟨B, 3, none⟩ = some (.bool s')) (c4 : w.cell? ⟨B, 4, none⟩ = some (.slice a' len' cap')) (c5 : w.cell? ⟨B, 5, none⟩ = some (.int .i64 e')) (d0 : w.cell? ⟨B, 6, none⟩ = some (.bool t)) (d1 : w.cell? ⟨B, 7, none⟩ = some (.slice b bl bc)) (d2 : w.cell? ⟨B, 8, none⟩ = some (.int .i64 f)) (d3 : w.cell? ⟨B, 9, none⟩ = some (.bool t')) (d4 : w.cell? ⟨B, 10, none⟩ = some (.slice b' bl' bc')) (d5 : w.cell? ⟨B, 11, none⟩ = some (.int .i64 f')) (hT : Tab w) :
    Calls Tryz.prog 17 #[.slice (some ⟨B, 0, none⟩) 2 2] w fun r w' => r = .returned (.bool (rtB s (val xs) e s' (val ys) e' && rtB t (val zs) f t' (val us) f')) ∧ Below w.heap.size w w' := by
  have HM1 : Hid _ := fun w' (q : IsW w' a len cap xs) (q' : IsW w' a' len' cap' ys) t' => atMost_calls s a len cap xs e s' a' len' cap' ys e' w' q hm q' hm' t'
  have HM2 : Hid _ := fun w' (q : IsW w' b bl bc zs) (q' : IsW w' b' bl' bc' us) tt => atMost_calls t b bl bc zs f t' b' bl' bc' us f' w' q gm q' gm' tt
  generalize rtB s (val xs) e s' (val ys) e' = R1 at *
  generalize rtB t (val zs) f t' (val us) f' = R2 at *
  clear hm hm' gm gm'
  go_enter Tryz.func17, Tryz.ntmps17
  go_wp2_with fail
  go_loopw [7] (fun vi wr => ∃ k : Nat, k ≤ 2 ∧ vi = .int .i64 (k : Int) ∧ Below w.heap.size w wr ∧ Hid (1 ≤ k → R1 = true) ∧ Hid (2 ≤ k → R2 = true)) (fun vi _ => 2 - (intOf vi).toNat)
  case atStart => exact ⟨0, by omega, rfl, Below.refl _ _, fun q => absurd q (by omega), fun q => absurd q (by omega)⟩
  case round =>
    obtain ⟨k, hk, rfl, bw, K1, K2⟩ := hrel
    rcases (show k = 0 ∨ k = 1 ∨ k = 2 by omega) with q | q | q
    · subst q
      have k0 := dcarry_cell bw c0
      have k1 := dcarry_cell bw c1
      have k2 := dcarry_cell bw c2
      have k3 := dcarry_cell bw c3
      have k4 := dcarry_cell bw c4
      have k5 := dcarry_cell bw c5
      have i1 := IsW.keep h bw
      have i2 := IsW.keep h' bw
      have tt := hT.kept bw
      have bB := below_one wr (.cells #[.bool s, .slice a len cap, .int .i64 e, .bool s', .slice a' len' cap', .int .i64 e'] 27)
      have y0 : (wr.alloc (.cells #[.bool s, .slice a len cap, .int .i64 e, .bool s', .slice a' len' cap', .int .i64 e'] 27)).cell? ⟨wr.heap.size, 0, none⟩ = some (.bool s) := by go_simp
      have y1 : (wr.alloc (.cells #[.bool s, .slice a len cap, .int .i64 e, .bool s', .slice a' len' cap', .int .i64 e'] 27)).cell? ⟨wr.heap.size, 1, none⟩ = some (.slice a len cap) := by go_simp
      have y2 : (wr.alloc (.cells #[.bool s, .slice a len cap, .int .i64 e, .bool s', .slice a' len' cap', .int .i64 e'] 27)).cell? ⟨wr.heap.size, 2, none⟩ = some (.int .i64 e) := by go_simp
      have y3 : (wr.alloc (.cells #[.bool s, .slice a len cap, .int .i64 e, .bool s', .slice a' len' cap', .int .i64 e'] 27)).cell? ⟨wr.heap.size, 3, none⟩ = some (.bool s') := by go_simp
      have y4 : (wr.alloc (.cells #[.bool s, .slice a len cap, .int .i64 e, .bool s', .slice a' len' cap', .int .i64 e'] 27)).cell? ⟨wr.heap.size, 4, none⟩ = some (.slice a' len' cap') := by go_simp
      have y5 : (wr.alloc (.cells #[.bool s, .slice a len cap, .int .i64 e, .bool s', .slice a' len' cap', .int .i64 e'] 27)).cell? ⟨wr.heap.size, 5, none⟩ = some (.int .i64 e') := by go_simp
      replace i1 := IsW.keep i1 bB
      replace i2 := IsW.keep i2 bB
      replace tt := tt.kept bB
      replace bw := nbelow_trans bw bB
      clear bB
      go_wp2_with fail
      generalize (wr.alloc (.cells #[.bool s, .slice a len cap, .int .i64 e, .bool s', .slice a' len' cap', .int .i64 e'] 27)) = w2 at *
      refine Calls.mono (HM1.out _ i1 i2 tt) ?_
      rintro r w3 ⟨rfl, bN⟩
      replace bw := nbelow_trans bw bN
      clear bN k0 k1 k2 k3 k4 k5 y0 y1 y2 y3 y4 y5 i1 i2 tt
      cases R1
      · go_wp2_with fail
        go_ret
        exact ⟨by first | rfl | simp, bw⟩
      · go_wp2_with fail
        exact ⟨⟨1, by omega, by first | rfl | go_num, bw, fun _ => by first | rfl | trivial, fun q => absurd q (by omega)⟩, by simp [intOf]⟩
    · subst q
      have k0 := dcarry_cell bw d0
      have k1 := dcarry_cell bw d1
      have k2 := dcarry_cell bw d2
      have k3 := dcarry_cell bw d3
      have k4 := dcarry_cell bw d4
      have k5 := dcarry_cell bw d5
      have i1 := IsW.keep g bw
      have i2 := IsW.keep g' bw
      have tt := hT.kept bw
      have bB := below_one wr (.cells #[.bool t, .slice b bl bc, .int .i64 f, .bool t', .slice b' bl' bc', .int .i64 f'] 27)
      have y0 : (wr.alloc (.cells #[.bool t, .slice b bl bc, .int .i64 f, .bool t', .slice b' bl' bc', .int .i64 f'] 27)).cell? ⟨wr.heap.size, 0, none⟩ = some (.bool t) := by go_simp
      have y1 : (wr.alloc (.cells #[.bool t, .slice b bl bc, .int .i64 f, .bool t', .slice b' bl' bc', .int .i64 f'] 27)).cell? ⟨wr.heap.size, 1, none⟩ = some (.slice b bl bc) := by go_simp
      have y2 : (wr.alloc (.cells #[.bool t, .slice b bl bc, .int .i64 f, .bool t', .slice b' bl' bc', .int .i64 f'] 27)).cell? ⟨wr.heap.size, 2, none⟩ = some (.int .i64 f) := by go_simp
      have y3 : (wr.alloc (.cells #[.bool t, .slice b bl bc, .int .i64 f, .bool t', .slice b' bl' bc', .int .i64 f'] 27)).cell? ⟨wr.heap.size, 3, none⟩ = some (.bool t') := by go_simp
      have y4 : (wr.alloc (.cells #[.bool t, .slice b bl bc, .int .i64 f, .bool t', .slice b' bl' bc', .int .i64 f'] 27)).cell? ⟨wr.heap.size, 4, none⟩ = some (.slice b' bl' bc') := by go_simp
      have y5 : (wr.alloc (.cells #[.bool t, .slice b bl bc, .int .i64 f, .bool t', .slice b' bl' bc', .int .i64 f'] 27)).cell? ⟨wr.heap.size, 5, none⟩ = some (.int .i64 f') := by go_simp
      replace i1 := IsW.keep i1 bB
      replace i2 := IsW.keep i2 bB
      replace tt := tt.kept bB
      replace bw := nbelow_trans bw bB
      clear bB
      go_wp2_with fail
      generalize (wr.alloc (.cells #[.bool t, .slice b bl bc, .int .i64 f, .bool t', .slice b' bl' bc', .int .i64 f'] 27)) = w2 at *
      refine Calls.mono (HM2.out _ i1 i2 tt) ?_
      rintro r w3 ⟨rfl, bN⟩
      replace bw := nbelow_trans bw bN
      clear bN k0 k1 k2 k3 k4 k5 y0 y1 y2 y3 y4 y5 i1 i2 tt
      cases R2
      · go_wp2_with fail
        go_ret
        exact ⟨by first | rfl | simp, bw⟩
      · go_wp2_with fail
        exact ⟨⟨2, by omega, by first | rfl | go_num, bw, fun _ => K1.out (by omega), fun _ => by first | rfl | trivial⟩, by simp [intOf]⟩
    · subst q
      have e1 : Hid _ := K1.out (by omega)
      have e2 : Hid _ := K2.out (by omega)
      go_wp2_with fail
      go_ret
      rw [e1.out, e2.out]
      exact ⟨rfl, bw⟩

set_option maxRecDepth 100000 in
set_option maxHeartbeats 2000000 in
theorem icheck_calls (s : Bool) (a : Option Addr) (len cap : Nat) (xs : List Int) (e : Int) (s' : Bool) (a' : Option Addr) (len' cap' : Nat) (ys : List Int) (e' : Int) (w : World) (h : IsW w a len cap xs) (hm : len ≤ 17592186044000) (h' : IsW w a' len' cap' ys) (hm' : len' ≤ 17592186044000) (hT : Tab w) :
    Calls Tryz.prog 5 #[ivV s a len cap e s' a' len' cap' e'] w fun r w' => r = .returned (.int .i64 (dcE s (val xs) e s' (val ys) e')) ∧ Below w.heap.size w w' := by
  have bA : Below w.heap.size w ((w.alloc (.cells #[.bool s, .slice a len cap, .int .i64 e, .bool s', .slice a' len' cap', .int .i64 e'] 27)).alloc (.cells #[.bool s, .slice a len cap, .int .i64 e, .bool s', .slice a' len' cap', .int .i64 e'] 27)) := nbelow_trans (below_one _ _) (below_one _ _)
  have HR : Hid _ := iright1_calls s a len cap xs e s' a' len' cap' ys e' (w.heap.size + 1) ((w.alloc (.cells #[.bool s, .slice a len cap, .int .i64 e, .bool s', .slice a' len' cap', .int .i64 e'] 27)).alloc (.cells #[.bool s, .slice a len cap, .int .i64 e, .bool s', .slice a' len' cap', .int .i64 e'] 27)) (h.keep bA) hm (h'.keep bA) hm' (by go_simp) (by go_simp) (by go_simp) (by go_simp) (by go_simp) (by go_simp) (hT.kept bA)
  have HE : Hid (∀ q, rtB s (val xs) e s' (val ys) e' = q → dcE s (val xs) e s' (val ys) e' = if q = true then 0 else 2) := fun q hq => by unfold dcE; rw [hq]
  generalize dcE s (val xs) e s' (val ys) e' = de at *
  generalize rtB s (val xs) e s' (val ys) e' = R at *
  clear h h' hm hm' hT
  go_enter Tryz.func5, Tryz.ntmps5
  go_wp2_with fail
  refine Calls.mono HR.out ?_
  rintro r w1 ⟨rfl, bN⟩
  replace bA := nbelow_trans bA bN
  clear bN HR
  cases R
  · have e1 : de = 2 := HE.out _ rfl
    subst e1
    go_wp2_with fail
    go_ret
    exact ⟨rfl, bA⟩
  · have e1 : de = 0 := HE.out _ rfl
    subst e1
    go_wp2_with fail
    go_ret
    exact ⟨rfl, bA⟩

set_option maxRecDepth 100000 in
set_option maxHeartbeats 4000000 in
theorem within_calls (s : Bool) (a : Option Addr) (len cap : Nat) (xs : List Int) (e : Int) (s' : Bool) (a' : Option Addr) (len' cap' : Nat) (ys : List Int) (e' : Int) (t : Bool) (b : Option Addr) (bl bc : Nat) (zs : List Int) (f : Int) (t' : Bool) (b' : Option Addr) (bl' bc' : Nat) (us : List Int) (f' : Int) (w : World) (h : IsW w a len cap xs) (hm : len ≤ 17592186044000) (h' : IsW w a' len' cap' ys) (hm' : len' ≤ 17592186044000) (g : IsW w b bl bc zs) (gm : bl ≤ 17592186044000) (g' : IsW w b' bl' bc' us) (gm' : bl' ≤ 17592186044000) (hT : Tab w) :
    Calls Tryz.prog 18 #[ivV s a len cap e s' a' len' cap' e', ivV t b bl bc f t' b' bl' bc' f'] w fun r w' => r = .returned (.bool ((rtB s (val xs) e s' (val ys) e' && rtB t (val zs) f t' (val us) f') && rtB t (val zs) f s (val xs) e && rtB s' (val ys) e' t' (val us) f')) ∧ Below w.heap.size w w' := by
  have bA : Below w.heap.size w (((w.alloc (.cells #[.bool s, .slice a len cap, .int .i64 e, .bool s', .slice a' len' cap', .int .i64 e'] 27)).alloc (.cells #[.bool t, .slice b bl bc, .int .i64 f, .bool t', .slice b' bl' bc', .int .i64 f'] 27)).alloc (.cells #[.bool s, .slice a len cap, .int .i64 e, .bool s', .slice a' len' cap', .int .i64 e', .bool t, .slice b bl bc, .int .i64 f, .bool t', .slice b' bl' bc', .int .i64 f'] 27)) := nbelow_trans (nbelow_trans (below_one _ _) (below_one _ _)) (below_one _ _)
  have HR : Hid _ := iright2_calls s a len cap xs e s' a' len' cap' ys e' t b bl bc zs f t' b' bl' bc' us f' (w.heap.size + 1 + 1) (((w.alloc (.cells #[.bool s, .slice a len cap, .int .i64 e, .bool s', .slice a' len' cap', .int .i64 e'] 27)).alloc (.cells #[.bool t, .slice b bl bc, .int .i64 f, .bool t', .slice b' bl' bc', .int .i64 f'] 27)).alloc (.cells #[.bool s, .slice a len cap, .int .i64 e, .bool s', .slice a' len' cap', .int .i64 e', .bool t, .slice b bl bc, .int .i64 f, .bool t', .slice b' bl' bc', .int .i64 f'] 27)) (h.keep bA) hm (h'.keep bA) hm' (g.keep bA) gm (g'.keep bA) gm' (by go_simp) (by go_simp) (by go_simp) (by go_simp) (by go_simp) (by go_simp) (by go_simp) (by go_simp) (by go_simp) (by go_simp) (by go_simp) (by go_simp) (hT.kept bA)
  have H1 : Hid _ := fun w' (q : IsW w' b bl bc zs) (q' : IsW w' a len cap xs) tt => atMost_calls t b bl bc zs f s a len cap xs e w' q gm q' hm tt
  have H2 : Hid _ := fun w' (q : IsW w' a' len' cap' ys) (q' : IsW w' b' bl' bc' us) tt => atMost_calls s' a' len' cap' ys e' t' b' bl' bc' us f' w' q hm' q' gm' tt
  generalize (rtB s (val xs) e s' (val ys) e' && rtB t (val zs) f t' (val us) f') = R0 at *
  generalize rtB t (val zs) f s (val xs) e = R1 at *
  generalize rtB s' (val ys) e' t' (val us) f' = R2 at *
  have c0 : (((w.alloc (.cells #[.bool s, .slice a len cap, .int .i64 e, .bool s', .slice a' len' cap', .int .i64 e'] 27)).alloc (.cells #[.bool t, .slice b bl bc, .int .i64 f, .bool t', .slice b' bl' bc', .int .i64 f'] 27)).alloc (.cells #[.bool s, .slice a len cap, .int .i64 e, .bool s', .slice a' len' cap', .int .i64 e', .bool t, .slice b bl bc, .int .i64 f, .bool t', .slice b' bl' bc', .int .i64 f'] 27)).cell? ⟨w.heap.size, 0, none⟩ = some (.bool s) := by go_simp
  have c1 : (((w.alloc (.cells #[.bool s, .slice a len cap, .int .i64 e, .bool s', .slice a' len' cap', .int .i64 e'] 27)).alloc (.cells #[.bool t, .slice b bl bc, .int .i64 f, .bool t', .slice b' bl' bc', .int .i64 f'] 27)).alloc (.cells #[.bool s, .slice a len cap, .int .i64 e, .bool s', .slice a' len' cap', .int .i64 e', .bool t, .slice b bl bc, .int .i64 f, .bool t', .slice b' bl' bc', .int .i64 f'] 27)).cell? ⟨w.heap.size, 1, none⟩ = some (.slice a len cap) := by go_simp
  have c2 : (((w.alloc (.cells #[.bool s, .slice a len cap, .int .i64 e, .bool s', .slice a' len' cap', .int .i64 e'] 27)).alloc (.cells #[.bool t, .slice b bl bc, .int .i64 f, .bool t', .slice b' bl' bc', .int .i64 f'] 27)).alloc (.cells #[.bool s, .slice a len cap, .int .i64 e, .bool s', .slice a' len' cap', .int .i64 e', .bool t, .slice b bl bc, .int .i64 f, .bool t', .slice b' bl' bc', .int .i64 f'] 27)).cell? ⟨w.heap.size, 2, none⟩ = some (.int .i64 e) := by go_simp
  have c3 : (((w.alloc (.cells #[.bool s, .slice a len cap, .int .i64 e, .bool s', .slice a' len' cap', .int .i64 e'] 27)).alloc (.cells #[.bool t, .slice b bl bc, .int .i64 f, .bool t', .slice b' bl' bc', .int .i64 f'] 27)).alloc (.cells #[.bool s, .slice a len cap, .int .i64 e, .bool s', .slice a' len' cap', .int .i64 e', .bool t, .slice b bl bc, .int .i64 f, .bool t', .slice b' bl' bc', .int .i64 f'] 27)).cell? ⟨w.heap.size, 3, none⟩ = some (.bool s') := by go_simp
  have c4 : (((w.alloc (.cells #[.bool s, .slice a len cap, .int .i64 e, .bool s', .slice a' len' cap', .int .i64 e'] 27)).alloc (.cells #[.bool t, .slice b bl bc, .int .i64 f, .bool t', .slice b' bl' bc', .int .i64 f'] 27)).alloc (.cells #[.bool s, .slice a len cap, .int .i64 e, .bool s', .slice a' len' cap', .int .i64 e', .bool t, .slice b bl bc, .int .i64 f, .bool t', .slice b' bl' bc', .int .i64 f'] 27)).cell? ⟨w.heap.size, 4, none⟩ = some (.slice a' len' cap') := by go_simp
  have c5 : (((w.alloc (.cells #[.bool s, .slice a len cap, .int .i64 e, .bool s', .slice a' len' cap', .int .i64 e'] 27)).alloc (.cells #[.bool t, .slice b bl bc, .int .i64 f, .bool t', .slice b' bl' bc', .int .i64 f'] 27)).alloc (.cells #[.bool s, .slice a len cap, .int .i64 e, .bool s', .slice a' len' cap', .int .i64 e', .bool t, .slice b bl bc, .int .i64 f, .bool t', .slice b' bl' bc', .int .i64 f'] 27)).cell? ⟨w.heap.size, 5, none⟩ = some (.int .i64 e') := by go_simp
  have d0 : (((w.alloc (.cells #[.bool s, .slice a len cap, .int .i64 e, .bool s', .slice a' len' cap', .int .i64 e'] 27)).alloc (.cells #[.bool t, .slice b bl bc, .int .i64 f, .bool t', .slice b' bl' bc', .int .i64 f'] 27)).alloc (.cells #[.bool s, .slice a len cap, .int .i64 e, .bool s', .slice a' len' cap', .int .i64 e', .bool t, .slice b bl bc, .int .i64 f, .bool t', .slice b' bl' bc', .int .i64 f'] 27)).cell? ⟨w.heap.size + 1, 0, none⟩ = some (.bool t) := by go_simp
  have d1 : (((w.alloc (.cells #[.bool s, .slice a len cap, .int .i64 e, .bool s', .slice a' len' cap', .int .i64 e'] 27)).alloc (.cells #[.bool t, .slice b bl bc, .int .i64 f, .bool t', .slice b' bl' bc', .int .i64 f'] 27)).alloc (.cells #[.bool s, .slice a len cap, .int .i64 e, .bool s', .slice a' len' cap', .int .i64 e', .bool t, .slice b bl bc, .int .i64 f, .bool t', .slice b' bl' bc', .int .i64 f'] 27)).cell? ⟨w.heap.size + 1, 1, none⟩ = some (.slice b bl bc) := by go_simp
  have d2 : (((w.alloc (.cells #[.bool s, .slice a len cap, .int .i64 e, .bool s', .slice a' len' cap', .int .i64 e'] 27)).alloc (.cells #[.bool t, .slice b bl bc, .int .i64 f, .bool t', .slice b' bl' bc', .int .i64 f'] 27)).alloc (.cells #[.bool s, .slice a len cap, .int .i64 e, .bool s', .slice a' len' cap', .int .i64 e', .bool t, .slice b bl bc, .int .i64 f, .bool t', .slice b' bl' bc', .int .i64 f'] 27)).cell? ⟨w.heap.size + 1, 2, none⟩ = some (.int .i64 f) := by go_simp
  have d3 : (((w.alloc (.cells #[.bool s, .slice a len cap, .int .i64 e, .bool s', .slice a' len' cap', .int .i64 e'] 27)).alloc (.cells #[.bool t, .slice b bl bc, .int .i64 f, .bool t', .slice b' bl' bc', .int .i64 f'] 27)).alloc (.cells #[.bool s, .slice a len cap, .int .i64 e, .bool s', .slice a' len' cap', .int .i64 e', .bool t, .slice b bl bc, .int .i64 f, .bool t', .slice b' bl' bc', .int .i64 f'] 27)).cell? ⟨w.heap.size + 1, 3, none⟩ = some (.bool t') := by go_simp
  have d4 : (((w.alloc (.cells #[.bool s, .slice a len cap, .int .i64 e, .bool s', .slice a' len' cap', .int .i64 e'] 27)).alloc (.cells #[.bool t, .slice b bl bc, .int .i64 f, .bool t', .slice b' bl' bc', .int .i64 f'] 27)).alloc (.cells #[.bool s, .slice a len cap, .int .i64 e, .bool s', .slice a' len' cap', .int .i64 e', .bool t, .slice b bl bc, .int .i64 f, .bool t', .slice b' bl' bc', .int .i64 f'] 27)).cell? ⟨w.heap.size + 1, 4, none⟩ = some (.slice b' bl' bc') := by go_simp
  have d5 : (((w.alloc (.cells #[.bool s, .slice a len cap, .int .i64 e, .bool s', .slice a' len' cap', .int .i64 e'] 27)).alloc (.cells #[.bool t, .slice b bl bc, .int .i64 f, .bool t', .slice b' bl' bc', .int .i64 f'] 27)).alloc (.cells #[.bool s, .slice a len cap, .int .i64 e, .bool s', .slice a' len' cap', .int .i64 e', .bool t, .slice b bl bc, .int .i64 f, .bool t', .slice b' bl' bc', .int .i64 f'] 27)).cell? ⟨w.heap.size + 1, 5, none⟩ = some (.int .i64 f') := by go_simp
  replace h := h.keep bA
  replace h' := h'.keep bA
  replace g := g.keep bA
  replace g' := g'.keep bA
  have t0 := hT.kept bA
  clear hm hm' gm gm' hT
  go_enter Tryz.func18, Tryz.ntmps18
  go_wp2_with fail
  generalize (((w.alloc (.cells #[.bool s, .slice a len cap, .int .i64 e, .bool s', .slice a' len' cap', .int .i64 e'] 27)).alloc (.cells #[.bool t, .slice b bl bc, .int .i64 f, .bool t', .slice b' bl' bc', .int .i64 f'] 27)).alloc (.cells #[.bool s, .slice a len cap, .int .i64 e, .bool s', .slice a' len' cap', .int .i64 e', .bool t, .slice b bl bc, .int .i64 f, .bool t', .slice b' bl' bc', .int .i64 f'] 27)) = w0 at *
  refine Calls.mono HR.out ?_
  rintro r w1 ⟨rfl, bN⟩
  replace c0 := dcarry_cell bN c0
  replace c1 := dcarry_cell bN c1
  replace c2 := dcarry_cell bN c2
  replace c3 := dcarry_cell bN c3
  replace c4 := dcarry_cell bN c4
  replace c5 := dcarry_cell bN c5
  replace d0 := dcarry_cell bN d0
  replace d1 := dcarry_cell bN d1
  replace d2 := dcarry_cell bN d2
  replace d3 := dcarry_cell bN d3
  replace d4 := dcarry_cell bN d4
  replace d5 := dcarry_cell bN d5
  replace h := h.keep bN
  replace h' := h'.keep bN
  replace g := g.keep bN
  replace g' := g'.keep bN
  replace t0 := t0.kept bN
  replace bA := nbelow_trans bA bN
  clear bN
  cases R0
  · go_wp2_with fail
    go_ret
    exact ⟨rfl, bA⟩
  go_wp2_with fail
  refine Calls.mono (H1.out _ g h t0) ?_
  rintro r w2 ⟨rfl, bN⟩
  replace c0 := dcarry_cell bN c0
  replace c1 := dcarry_cell bN c1
  replace c2 := dcarry_cell bN c2
  replace c3 := dcarry_cell bN c3
  replace c4 := dcarry_cell bN c4
  replace c5 := dcarry_cell bN c5
  replace d0 := dcarry_cell bN d0
  replace d1 := dcarry_cell bN d1
  replace d2 := dcarry_cell bN d2
  replace d3 := dcarry_cell bN d3
  replace d4 := dcarry_cell bN d4
  replace d5 := dcarry_cell bN d5
  replace h := h.keep bN
  replace h' := h'.keep bN
  replace g := g.keep bN
  replace g' := g'.keep bN
  replace t0 := t0.kept bN
  replace bA := nbelow_trans bA bN
  clear bN
  cases R1
  · go_wp2_with fail
    go_ret
    exact ⟨rfl, bA⟩
  go_wp2_with fail
  refine Calls.mono (H2.out _ h' g' t0) ?_
  rintro r w3 ⟨rfl, bN⟩
  replace bA := nbelow_trans bA bN
  go_wp2_with fail
  go_ret
  exact ⟨by simp, bA⟩

def hasB (s : Bool) (m : Nat) (e : Int) (s' : Bool) (m' : Nat) (e' : Int) (u : Bool) (n : Nat) (g : Int) : Bool := (rtB u n g u n g && rtB s m e s' m' e') && rtB s m e u n g && rtB u n g s' m' e'
set_option maxRecDepth 100000 in
set_option maxHeartbeats 2000000 in
theorem has_calls (s : Bool) (a : Option Addr) (len cap : Nat) (xs : List Int) (e : Int) (s' : Bool) (a' : Option Addr) (len' cap' : Nat) (ys : List Int) (e' : Int) (u : Bool) (q : Option Addr) (ld cd : Nat) (zs : List Int) (g : Int) (w : World) (h : IsW w a len cap xs) (hm : len ≤ 17592186044000) (h' : IsW w a' len' cap' ys) (hm' : len' ≤ 17592186044000) (hd : IsW w q ld cd zs) (hmd : ld ≤ 17592186044000) (hT : Tab w) :
    Calls Tryz.prog 6 #[ivV s a len cap e s' a' len' cap' e', dyV u q ld cd g] w fun r w' => r = .returned (.bool (hasB s (val xs) e s' (val ys) e' u (val zs) g)) ∧ Below w.heap.size w w' := by
  have bA : Below w.heap.size w ((w.alloc (.cells #[.bool s, .slice a len cap, .int .i64 e, .bool s', .slice a' len' cap', .int .i64 e'] 27)).alloc (.cells #[.bool u, .slice q ld cd, .int .i64 g] 25)) := nbelow_trans (below_one _ _) (below_one _ _)
  have HW : Hid _ := within_calls u q ld cd zs g u q ld cd zs g s a len cap xs e s' a' len' cap' ys e' _ (hd.keep bA) hmd (hd.keep bA) hmd (h.keep bA) hm (h'.keep bA) hm' (hT.kept bA)
  have e1 : hasB s (val xs) e s' (val ys) e' u (val zs) g = ((rtB u (val zs) g u (val zs) g && rtB s (val xs) e s' (val ys) e') && rtB s (val xs) e u (val zs) g && rtB u (val zs) g s' (val ys) e') := rfl
  rw [← e1] at HW
  generalize hasB s (val xs) e s' (val ys) e' u (val zs) g = hb at *
  clear h h' hd hm hm' hmd hT e1
  go_enter Tryz.func6, Tryz.ntmps6
  go_wp2_with fail
  refine Calls.mono HW.out ?_
  rintro r w1 ⟨rfl, bN⟩
  go_wp2_with fail
  go_ret
  exact ⟨rfl, nbelow_trans bA bN⟩
end Go.Proofs.YtjgnoaieplmoiaaGreatDoor

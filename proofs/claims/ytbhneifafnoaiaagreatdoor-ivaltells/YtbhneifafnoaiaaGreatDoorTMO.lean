/- Package ival: the one form of both ends. Package ival: Canon, Point, Sign. -/
import Derived.Test.YtbhneifafnoaiaaGreatDoorIV4
import Derived.Test.YtbhneifafnoaiaaGreatDoorTMH
import Derived.Test.YtbhneifafnoaiaaGreatDoorCR2
import Derived.Test.YtbhneifafnoaiaaGreatDoorCR
import Derived.Test.YtbhneifafnoaiaaGreatDoorAL

namespace Go.Proofs.YtbhneifafnoaiaaGreatDoor
open Go.RowKit
theorem bx3 (w : World) (x y z : Value) (t : Nat) : (w.alloc (.cells #[x, y, z] t)).cell? ⟨w.heap.size, 0, none⟩ = some x ∧ (w.alloc (.cells #[x, y, z] t)).cell? ⟨w.heap.size, 1, none⟩ = some y ∧ (w.alloc (.cells #[x, y, z] t)).cell? ⟨w.heap.size, 2, none⟩ = some z := ⟨by go_simp, by go_simp, by go_simp⟩
def sgV (s : Bool) (m : Nat) (e : Int) (s' : Bool) (m' : Nat) (e' : Int) : Int := if rtI s m e s' m' e' = true ∧ sgnD (formD s m e) = sgnD (formD s' m' e') then sgnD (formD s m e) else 0
def sgB (s : Bool) (m : Nat) (e : Int) (s' : Bool) (m' : Nat) (e' : Int) : Bool := decide (rtI s m e s' m' e' = true ∧ sgnD (formD s m e) = sgnD (formD s' m' e'))
set_option maxRecDepth 100000 in
set_option maxHeartbeats 4000000 in
theorem ivSign_calls (s : Bool) (a : Option Addr) (len cap : Nat) (xs : List Int) (e : Int) (s' : Bool) (a' : Option Addr) (len' cap' : Nat) (ys : List Int) (e' : Int) (w : World) (h : IsW w a len cap xs) (hm : len ≤ 17592186044000) (h' : IsW w a' len' cap' ys) (hm' : len' ≤ 17592186044000) (hT : Tab w) :
  Calls Tryz.prog 4 #[ivI s a len cap e s' a' len' cap' e'] w fun r w' => r = .returned (.tuple #[.int .i64 (sgV s (val xs) e s' (val ys) e'), .bool (sgB s (val xs) e s' (val ys) e')]) ∧ Below w.heap.size w w' := by
 have bA : Below w.heap.size w ((w.alloc (.cells #[.bool s, .slice a len cap, .int .i64 e, .bool s', .slice a' len' cap', .int .i64 e'] 27)).alloc (.cells #[.bool s, .slice a len cap, .int .i64 e, .bool s', .slice a' len' cap', .int .i64 e'] 27)) := nT (below_one _ _) (below_one _ _)
 have HR : Hid _ := iright1_calls s a len cap xs e s' a' len' cap' ys e' (w.heap.size + 1) ((w.alloc (.cells #[.bool s, .slice a len cap, .int .i64 e, .bool s', .slice a' len' cap', .int .i64 e'] 27)).alloc (.cells #[.bool s, .slice a len cap, .int .i64 e, .bool s', .slice a' len' cap', .int .i64 e'] 27)) (h.keep bA) hm (h'.keep bA) hm' (by go_simp) (by go_simp) (by go_simp) (by go_simp) (by go_simp) (by go_simp) (hT.kept bA)
 have HG : Hid (rtI s (val xs) e s' (val ys) e' = true → greatB (val xs) = false ∧ greatB (val ys) = false) := fun q => by
  unfold rtI at q
  simp only [Bool.and_eq_true] at q
  exact ⟨(rightB_yes q.1.1).1, (rightB_yes q.1.2).1⟩
 have H1 : Hid _ := fun w' (k : IsW w' a len cap xs) g => isign_calls s a len cap xs e w' k hm g
 have H2 : Hid _ := fun w' (k : IsW w' a' len' cap' ys) g => isign_calls s' a' len' cap' ys e' w' k hm' g
 have HA : Hid (sgV s (val xs) e s' (val ys) e' = if rtI s (val xs) e s' (val ys) e' = true ∧ sgnD (formD s (val xs) e) = sgnD (formD s' (val ys) e') then sgnD (formD s (val xs) e) else 0) := by rw [Hid]; rfl
 have HB : Hid (sgB s (val xs) e s' (val ys) e' = decide (rtI s (val xs) e s' (val ys) e' = true ∧ sgnD (formD s (val xs) e) = sgnD (formD s' (val ys) e'))) := by rw [Hid]; rfl
 generalize sgV s (val xs) e s' (val ys) e' = SV at *
 generalize sgB s (val xs) e s' (val ys) e' = SB at *
 generalize sgnD (formD s (val xs) e) = g1 at *
 generalize sgnD (formD s' (val ys) e') = g2 at *
 generalize rtI s (val xs) e s' (val ys) e' = rr at *
 have hI := h.keep bA
 have hJ := h'.keep bA
 have c0 : ((w.alloc (.cells #[.bool s, .slice a len cap, .int .i64 e, .bool s', .slice a' len' cap', .int .i64 e'] 27)).alloc (.cells #[.bool s, .slice a len cap, .int .i64 e, .bool s', .slice a' len' cap', .int .i64 e'] 27)).cell? ⟨w.heap.size, 0, none⟩ = some (.bool s) := by go_simp
 have c1 : ((w.alloc (.cells #[.bool s, .slice a len cap, .int .i64 e, .bool s', .slice a' len' cap', .int .i64 e'] 27)).alloc (.cells #[.bool s, .slice a len cap, .int .i64 e, .bool s', .slice a' len' cap', .int .i64 e'] 27)).cell? ⟨w.heap.size, 1, none⟩ = some (.slice a len cap) := by go_simp
 have c2 : ((w.alloc (.cells #[.bool s, .slice a len cap, .int .i64 e, .bool s', .slice a' len' cap', .int .i64 e'] 27)).alloc (.cells #[.bool s, .slice a len cap, .int .i64 e, .bool s', .slice a' len' cap', .int .i64 e'] 27)).cell? ⟨w.heap.size, 2, none⟩ = some (.int .i64 e) := by go_simp
 have c3 : ((w.alloc (.cells #[.bool s, .slice a len cap, .int .i64 e, .bool s', .slice a' len' cap', .int .i64 e'] 27)).alloc (.cells #[.bool s, .slice a len cap, .int .i64 e, .bool s', .slice a' len' cap', .int .i64 e'] 27)).cell? ⟨w.heap.size, 3, none⟩ = some (.bool s') := by go_simp
 have c4 : ((w.alloc (.cells #[.bool s, .slice a len cap, .int .i64 e, .bool s', .slice a' len' cap', .int .i64 e'] 27)).alloc (.cells #[.bool s, .slice a len cap, .int .i64 e, .bool s', .slice a' len' cap', .int .i64 e'] 27)).cell? ⟨w.heap.size, 4, none⟩ = some (.slice a' len' cap') := by go_simp
 have c5 : ((w.alloc (.cells #[.bool s, .slice a len cap, .int .i64 e, .bool s', .slice a' len' cap', .int .i64 e'] 27)).alloc (.cells #[.bool s, .slice a len cap, .int .i64 e, .bool s', .slice a' len' cap', .int .i64 e'] 27)).cell? ⟨w.heap.size, 5, none⟩ = some (.int .i64 e') := by go_simp
 clear h h' hT hm hm'
 go_enter Tryz.func4, Tryz.ntmps4
 go_wp2_with fail
 generalize ((w.alloc (.cells #[.bool s, .slice a len cap, .int .i64 e, .bool s', .slice a' len' cap', .int .i64 e'] 27)).alloc (.cells #[.bool s, .slice a len cap, .int .i64 e, .bool s', .slice a' len' cap', .int .i64 e'] 27)) = w0 at *
 refine Calls.mono HR.out ?_
 rintro r w1 ⟨rfl, bN⟩
 revert c0 c1 c2 c3 c4 c5; refine cc6 bN ?_; intro c0 c1 c2 c3 c4 c5
 replace hI := IsW.keep hI bN
 replace hJ := IsW.keep hJ bN
 replace bA := nT bA bN
 clear bN HR
 cases rr
 ·have e1 : Hid (SV = 0 ∧ SB = false) := ⟨by rw [HA.out]; simp, by rw [HB.out]; simp⟩
  clear HA HB HG H1 H2
  go_wp2_with fail
  go_ret2
  rw [e1.out.1, e1.out.2]
  exact ⟨rfl, bA⟩
 obtain ⟨G1, G2⟩ := HG.out (by first | rfl | trivial)
 go_upto_region 3 with fail
 have R : Below w1.heap.size w1 (World.drew w1) := (Below.refl _ _).drew
 refine wp_region_held (S := fun w' => Below w1.heap.size w1 w') (by kernel_rfl) ?_
 change wpAnyH _ _ _ _ _ _ _ _ (World.drew w1)
 generalize World.drew w1 = wd at R ⊢
 refine wpAnyH_take (i := 0) (v := .pointer (some ⟨w.heap.size, 0, none⟩)) rfl (by kernel_rfl) (by kernel_rfl) (by kernel_rfl) (fun _ _ _ h => h) (Or.inl ⟨by rfl, ?y1⟩) R ?r1
 case y1 => (intro ww hS; clear hS; go_simp; try with_reducible rfl)
 try simp only [Act.put, sA]
 refine wpAnyH_take (i := 1) (v := dyV s a len cap e) rfl (by kernel_rfl) (by kernel_rfl) (by kernel_rfl) (fun _ _ _ h => h) (Or.inl ⟨by rfl, ?y2⟩) R ?r2
 case y2 => (intro ww hS; have qc0 := kC hS c0; have qc1 := kC hS c1; have qc2 := kC hS c2; clear hS; go_simp; try with_reducible rfl)
 try simp only [Act.put]
 refine wpAnyH_take (i := 3) (v := .pointer (some ⟨w.heap.size, 3, none⟩)) rfl (by kernel_rfl) (by kernel_rfl) (by kernel_rfl) (fun _ _ _ h => h) (Or.inl ⟨by rfl, ?y3⟩) R ?r3
 case y3 => (intro ww hS; clear hS; go_simp; try with_reducible rfl)
 try simp only [Act.put]
 refine wpAnyH_take (i := 4) (v := dyV s' a' len' cap' e') rfl (by kernel_rfl) (by kernel_rfl) (by kernel_rfl) (fun _ _ _ h => h) (Or.inl ⟨by rfl, ?y4⟩) R ?r4
 case y4 => (intro ww hS; have qc3 := kC hS c3; have qc4 := kC hS c4; have qc5 := kC hS c5; clear hS; go_simp; try with_reducible rfl)
 try simp only [Act.put]
 refine rd1 2 (by kernel_rfl) rfl fun K hK => ?_
 go_simp
 refine Calls.mono (H1.out _ (IsW.keep hI R) G1) ?_
 rintro r wa ⟨rfl, bN⟩
 replace R := nT R bN
 clear bN
 refine hK.out _ _ R (fun _ => ?_)
 clear hK K
 try simp only [Act.put, sA, sZ, sS]
 refine rd1 5 (by kernel_rfl) rfl fun K hK => ?_
 go_simp
 refine Calls.mono (H2.out _ (IsW.keep hJ R) G2) ?_
 rintro r wb ⟨rfl, bN⟩
 replace R := nT R bN
 clear bN
 refine hK.out _ _ R (fun _ => ?_)
 clear hK K
 try simp only [Act.put, sA, sZ, sS]
 refine rd1 6 (by kernel_rfl) rfl fun K hK => ?_
 go_simp
 refine hK.out _ _ R (fun _ => ?_)
 clear hK K
 try simp only [Act.put, sA, sZ, sS]
 refine rd1 7 (by kernel_rfl) rfl fun K hK => ?_
 go_simp
 refine hK.out _ _ R (fun _ => ?_)
 clear hK K
 try simp only [Act.put, sA, sZ, sS]
 refine wpAnyH_done (by kernel_rfl) ?_ _
 replace bA := nT bA R
 clear R H1 H2 HG G1 G2
 by_cases q : g1 = g2
 ·subst q
  have d : (g1 != g1) = false := by simp
  have e1 : Hid (SV = g1 ∧ SB = true) := ⟨by rw [HA.out]; simp, by rw [HB.out]; simp⟩
  clear HA HB
  go_wp2_with fail
  go_ret2
  rw [e1.out.1, e1.out.2]
  exact ⟨rfl, bA⟩
 ·have d : (g1 != g2) = true := by simp [q]
  have e1 : Hid (SV = 0 ∧ SB = false) := ⟨by rw [HA.out]; simp [q], by rw [HB.out]; simp [q]⟩
  clear HA HB
  go_wp2_with fail
  go_ret2
  rw [e1.out.1, e1.out.2]
  exact ⟨rfl, bA⟩
end Go.Proofs.YtbhneifafnoaiaaGreatDoor

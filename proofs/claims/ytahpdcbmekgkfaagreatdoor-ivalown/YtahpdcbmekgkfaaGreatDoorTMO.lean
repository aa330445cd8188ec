/- Package ival: the one form of both ends. Package ival: Canon, Point, Sign. Package ival: what is refused: never, divisorZero. -/
import Derived.Test.YtahpdcbmekgkfaaGreatDoorCR
import Derived.Test.YtahpdcbmekgkfaaGreatDoorIV4
import Derived.Test.YtahpdcbmekgkfaaGreatDoorTMH
import Derived.Test.YtahpdcbmekgkfaaGreatDoorCR2
import Derived.Test.YtahpdcbmekgkfaaGreatDoorAL

namespace Go.Proofs.YtahpdcbmekgkfaaGreatDoor
open Go.RowKit
theorem bx3 (w : World) (x y z : Value) (t : Nat) : (w.alloc (.cells #[x, y, z] t)).cell? ⟨w.heap.size, 0, none⟩ = some x ∧ (w.alloc (.cells #[x, y, z] t)).cell? ⟨w.heap.size, 1, none⟩ = some y ∧ (w.alloc (.cells #[x, y, z] t)).cell? ⟨w.heap.size, 2, none⟩ = some z := ⟨by go_simp, by go_simp, by go_simp⟩
def cnE (s : Bool) (m : Nat) (e : Int) (s' : Bool) (m' : Nat) (e' : Int) : Int := if rtI s m e s' m' e' = true then (if canE s m e ≠ 0 then canE s m e else canE s' m' e') else 2
def cnL (s : Bool) (m : Nat) (e : Int) (s' : Bool) (m' : Nat) (e' : Int) : Bool × Nat × Int := if cnE s m e s' m' e' = 0 then canP s m e else (false, 0, 0)
def cnH (s : Bool) (m : Nat) (e : Int) (s' : Bool) (m' : Nat) (e' : Int) : Bool × Nat × Int := if cnE s m e s' m' e' = 0 then canP s' m' e' else (false, 0, 0)
set_option maxRecDepth 100000 in
set_option maxHeartbeats 4000000 in
theorem eachCanon_calls (s : Bool) (a : Option Addr) (len cap : Nat) (xs : List Int) (e : Int) (s' : Bool) (a' : Option Addr) (len' cap' : Nat) (ys : List Int) (e' : Int) (w : World) (h : IsW w a len cap xs) (hm : len ≤ 17592186044000) (h' : IsW w a' len' cap' ys) (hm' : len' ≤ 17592186044000) (hT : Tab w) :
  Calls Tryz.prog 87 #[.func (.func 88) #[] #[], ivI s a len cap e s' a' len' cap' e'] w fun r w' => ∃ al nl cl ah nh ch, r = .returned (.tuple #[ivI (cnL s (val xs) e s' (val ys) e').1 al nl cl (cnL s (val xs) e s' (val ys) e').2.2 (cnH s (val xs) e s' (val ys) e').1 ah nh ch (cnH s (val xs) e s' (val ys) e').2.2, .int .i64 (cnE s (val xs) e s' (val ys) e')]) ∧ nl ≤ 1024 ∧ nh ≤ 1024 ∧ OwnW w.heap.size w' al nl cl (wO (cnL s (val xs) e s' (val ys) e').2.1) ∧ OwnW w.heap.size w' ah nh ch (wO (cnH s (val xs) e s' (val ys) e').2.1) ∧ Below w.heap.size w w' := by
 have bA : Below w.heap.size w (((w.alloc (.cells #[.bool s, .slice a len cap, .int .i64 e, .bool s', .slice a' len' cap', .int .i64 e'] 27)).alloc (.cells #[.bool false, .slice none 0 0, .int .i64 0, .bool false, .slice none 0 0, .int .i64 0] 27)).alloc (.cells #[.bool s, .slice a len cap, .int .i64 e, .bool s', .slice a' len' cap', .int .i64 e'] 27)) := nT (nT (below_one _ _) (below_one _ _)) (below_one _ _)
 have HR : Hid _ := iright1_calls s a len cap xs e s' a' len' cap' ys e' (w.heap.size + 1 + 1) (((w.alloc (.cells #[.bool s, .slice a len cap, .int .i64 e, .bool s', .slice a' len' cap', .int .i64 e'] 27)).alloc (.cells #[.bool false, .slice none 0 0, .int .i64 0, .bool false, .slice none 0 0, .int .i64 0] 27)).alloc (.cells #[.bool s, .slice a len cap, .int .i64 e, .bool s', .slice a' len' cap', .int .i64 e'] 27)) (h.keep bA) hm (h'.keep bA) hm' (by go_simp) (by go_simp) (by go_simp) (by go_simp) (by go_simp) (by go_simp) (hT.kept bA)
 have HC1 : Hid _ := fun w' (k : IsW w' a len cap xs) tt => pCanon_calls s a len cap xs e w' k (by omega) tt
 have HC2 : Hid _ := fun w' (k : IsW w' a' len' cap' ys) tt => pCanon_calls s' a' len' cap' ys e' w' k (by omega) tt
 have HA : Hid (cnE s (val xs) e s' (val ys) e' = if rtI s (val xs) e s' (val ys) e' = true then (if canE s (val xs) e ≠ 0 then canE s (val xs) e else canE s' (val ys) e') else 2) := by rw [Hid]; rfl
 have HAL : Hid (cnL s (val xs) e s' (val ys) e' = if cnE s (val xs) e s' (val ys) e' = 0 then canP s (val xs) e else (false, 0, 0)) := by rw [Hid]; rfl
 have HAH : Hid (cnH s (val xs) e s' (val ys) e' = if cnE s (val xs) e s' (val ys) e' = 0 then canP s' (val ys) e' else (false, 0, 0)) := by rw [Hid]; rfl
 generalize cnE s (val xs) e s' (val ys) e' = EE at *
 generalize cnL s (val xs) e s' (val ys) e' = LL at *
 generalize cnH s (val xs) e s' (val ys) e' = HH at *
 generalize rtI s (val xs) e s' (val ys) e' = rr at *
 generalize canE s (val xs) e = el at *
 generalize canE s' (val ys) e' = eh at *
 generalize canP s (val xs) e = PL at *
 generalize canP s' (val ys) e' = PH at *
 have hI := h.keep bA
 have hJ := h'.keep bA
 have hT0 := hT.kept bA
 have c0 : (((w.alloc (.cells #[.bool s, .slice a len cap, .int .i64 e, .bool s', .slice a' len' cap', .int .i64 e'] 27)).alloc (.cells #[.bool false, .slice none 0 0, .int .i64 0, .bool false, .slice none 0 0, .int .i64 0] 27)).alloc (.cells #[.bool s, .slice a len cap, .int .i64 e, .bool s', .slice a' len' cap', .int .i64 e'] 27)).cell? ⟨w.heap.size, 0, none⟩ = some (.bool s) := by go_simp
 have c1 : (((w.alloc (.cells #[.bool s, .slice a len cap, .int .i64 e, .bool s', .slice a' len' cap', .int .i64 e'] 27)).alloc (.cells #[.bool false, .slice none 0 0, .int .i64 0, .bool false, .slice none 0 0, .int .i64 0] 27)).alloc (.cells #[.bool s, .slice a len cap, .int .i64 e, .bool s', .slice a' len' cap', .int .i64 e'] 27)).cell? ⟨w.heap.size, 1, none⟩ = some (.slice a len cap) := by go_simp
 have c2 : (((w.alloc (.cells #[.bool s, .slice a len cap, .int .i64 e, .bool s', .slice a' len' cap', .int .i64 e'] 27)).alloc (.cells #[.bool false, .slice none 0 0, .int .i64 0, .bool false, .slice none 0 0, .int .i64 0] 27)).alloc (.cells #[.bool s, .slice a len cap, .int .i64 e, .bool s', .slice a' len' cap', .int .i64 e'] 27)).cell? ⟨w.heap.size, 2, none⟩ = some (.int .i64 e) := by go_simp
 have c3 : (((w.alloc (.cells #[.bool s, .slice a len cap, .int .i64 e, .bool s', .slice a' len' cap', .int .i64 e'] 27)).alloc (.cells #[.bool false, .slice none 0 0, .int .i64 0, .bool false, .slice none 0 0, .int .i64 0] 27)).alloc (.cells #[.bool s, .slice a len cap, .int .i64 e, .bool s', .slice a' len' cap', .int .i64 e'] 27)).cell? ⟨w.heap.size, 3, none⟩ = some (.bool s') := by go_simp
 have c4 : (((w.alloc (.cells #[.bool s, .slice a len cap, .int .i64 e, .bool s', .slice a' len' cap', .int .i64 e'] 27)).alloc (.cells #[.bool false, .slice none 0 0, .int .i64 0, .bool false, .slice none 0 0, .int .i64 0] 27)).alloc (.cells #[.bool s, .slice a len cap, .int .i64 e, .bool s', .slice a' len' cap', .int .i64 e'] 27)).cell? ⟨w.heap.size, 4, none⟩ = some (.slice a' len' cap') := by go_simp
 have c5 : (((w.alloc (.cells #[.bool s, .slice a len cap, .int .i64 e, .bool s', .slice a' len' cap', .int .i64 e'] 27)).alloc (.cells #[.bool false, .slice none 0 0, .int .i64 0, .bool false, .slice none 0 0, .int .i64 0] 27)).alloc (.cells #[.bool s, .slice a len cap, .int .i64 e, .bool s', .slice a' len' cap', .int .i64 e'] 27)).cell? ⟨w.heap.size, 5, none⟩ = some (.int .i64 e') := by go_simp
 have z0 : (((w.alloc (.cells #[.bool s, .slice a len cap, .int .i64 e, .bool s', .slice a' len' cap', .int .i64 e'] 27)).alloc (.cells #[.bool false, .slice none 0 0, .int .i64 0, .bool false, .slice none 0 0, .int .i64 0] 27)).alloc (.cells #[.bool s, .slice a len cap, .int .i64 e, .bool s', .slice a' len' cap', .int .i64 e'] 27)).cell? ⟨w.heap.size + 1, 0, none⟩ = some (.bool false) := by go_simp
 have f0 : (((w.alloc (.cells #[.bool s, .slice a len cap, .int .i64 e, .bool s', .slice a' len' cap', .int .i64 e'] 27)).alloc (.cells #[.bool false, .slice none 0 0, .int .i64 0, .bool false, .slice none 0 0, .int .i64 0] 27)).alloc (.cells #[.bool s, .slice a len cap, .int .i64 e, .bool s', .slice a' len' cap', .int .i64 e'] 27)).frozen? ⟨w.heap.size + 1, 0, none⟩ = false := by go_simp
 have z1 : (((w.alloc (.cells #[.bool s, .slice a len cap, .int .i64 e, .bool s', .slice a' len' cap', .int .i64 e'] 27)).alloc (.cells #[.bool false, .slice none 0 0, .int .i64 0, .bool false, .slice none 0 0, .int .i64 0] 27)).alloc (.cells #[.bool s, .slice a len cap, .int .i64 e, .bool s', .slice a' len' cap', .int .i64 e'] 27)).cell? ⟨w.heap.size + 1, 1, none⟩ = some (.slice none 0 0) := by go_simp
 have f1 : (((w.alloc (.cells #[.bool s, .slice a len cap, .int .i64 e, .bool s', .slice a' len' cap', .int .i64 e'] 27)).alloc (.cells #[.bool false, .slice none 0 0, .int .i64 0, .bool false, .slice none 0 0, .int .i64 0] 27)).alloc (.cells #[.bool s, .slice a len cap, .int .i64 e, .bool s', .slice a' len' cap', .int .i64 e'] 27)).frozen? ⟨w.heap.size + 1, 1, none⟩ = false := by go_simp
 have z2 : (((w.alloc (.cells #[.bool s, .slice a len cap, .int .i64 e, .bool s', .slice a' len' cap', .int .i64 e'] 27)).alloc (.cells #[.bool false, .slice none 0 0, .int .i64 0, .bool false, .slice none 0 0, .int .i64 0] 27)).alloc (.cells #[.bool s, .slice a len cap, .int .i64 e, .bool s', .slice a' len' cap', .int .i64 e'] 27)).cell? ⟨w.heap.size + 1, 2, none⟩ = some (.int .i64 0) := by go_simp
 have f2 : (((w.alloc (.cells #[.bool s, .slice a len cap, .int .i64 e, .bool s', .slice a' len' cap', .int .i64 e'] 27)).alloc (.cells #[.bool false, .slice none 0 0, .int .i64 0, .bool false, .slice none 0 0, .int .i64 0] 27)).alloc (.cells #[.bool s, .slice a len cap, .int .i64 e, .bool s', .slice a' len' cap', .int .i64 e'] 27)).frozen? ⟨w.heap.size + 1, 2, none⟩ = false := by go_simp
 have z3 : (((w.alloc (.cells #[.bool s, .slice a len cap, .int .i64 e, .bool s', .slice a' len' cap', .int .i64 e'] 27)).alloc (.cells #[.bool false, .slice none 0 0, .int .i64 0, .bool false, .slice none 0 0, .int .i64 0] 27)).alloc (.cells #[.bool s, .slice a len cap, .int .i64 e, .bool s', .slice a' len' cap', .int .i64 e'] 27)).cell? ⟨w.heap.size + 1, 3, none⟩ = some (.bool false) := by go_simp
 have f3 : (((w.alloc (.cells #[.bool s, .slice a len cap, .int .i64 e, .bool s', .slice a' len' cap', .int .i64 e'] 27)).alloc (.cells #[.bool false, .slice none 0 0, .int .i64 0, .bool false, .slice none 0 0, .int .i64 0] 27)).alloc (.cells #[.bool s, .slice a len cap, .int .i64 e, .bool s', .slice a' len' cap', .int .i64 e'] 27)).frozen? ⟨w.heap.size + 1, 3, none⟩ = false := by go_simp
 have z4 : (((w.alloc (.cells #[.bool s, .slice a len cap, .int .i64 e, .bool s', .slice a' len' cap', .int .i64 e'] 27)).alloc (.cells #[.bool false, .slice none 0 0, .int .i64 0, .bool false, .slice none 0 0, .int .i64 0] 27)).alloc (.cells #[.bool s, .slice a len cap, .int .i64 e, .bool s', .slice a' len' cap', .int .i64 e'] 27)).cell? ⟨w.heap.size + 1, 4, none⟩ = some (.slice none 0 0) := by go_simp
 have f4 : (((w.alloc (.cells #[.bool s, .slice a len cap, .int .i64 e, .bool s', .slice a' len' cap', .int .i64 e'] 27)).alloc (.cells #[.bool false, .slice none 0 0, .int .i64 0, .bool false, .slice none 0 0, .int .i64 0] 27)).alloc (.cells #[.bool s, .slice a len cap, .int .i64 e, .bool s', .slice a' len' cap', .int .i64 e'] 27)).frozen? ⟨w.heap.size + 1, 4, none⟩ = false := by go_simp
 have z5 : (((w.alloc (.cells #[.bool s, .slice a len cap, .int .i64 e, .bool s', .slice a' len' cap', .int .i64 e'] 27)).alloc (.cells #[.bool false, .slice none 0 0, .int .i64 0, .bool false, .slice none 0 0, .int .i64 0] 27)).alloc (.cells #[.bool s, .slice a len cap, .int .i64 e, .bool s', .slice a' len' cap', .int .i64 e'] 27)).cell? ⟨w.heap.size + 1, 5, none⟩ = some (.int .i64 0) := by go_simp
 have f5 : (((w.alloc (.cells #[.bool s, .slice a len cap, .int .i64 e, .bool s', .slice a' len' cap', .int .i64 e'] 27)).alloc (.cells #[.bool false, .slice none 0 0, .int .i64 0, .bool false, .slice none 0 0, .int .i64 0] 27)).alloc (.cells #[.bool s, .slice a len cap, .int .i64 e, .bool s', .slice a' len' cap', .int .i64 e'] 27)).frozen? ⟨w.heap.size + 1, 5, none⟩ = false := by go_simp
 clear h h' hT hm hm'
 go_enter Tryz.func87, Tryz.ntmps87
 go_wp2_with fail
 generalize (((w.alloc (.cells #[.bool s, .slice a len cap, .int .i64 e, .bool s', .slice a' len' cap', .int .i64 e'] 27)).alloc (.cells #[.bool false, .slice none 0 0, .int .i64 0, .bool false, .slice none 0 0, .int .i64 0] 27)).alloc (.cells #[.bool s, .slice a len cap, .int .i64 e, .bool s', .slice a' len' cap', .int .i64 e'] 27)) = w0 at *
 refine Calls.mono (HR.out) ?_
 rintro r w1 ⟨rfl, bN⟩
 revert z0 f0 z1 f1 z2 f2 z3 f3 z4 f4 z5 f5; refine zf6 bN ?_; intro z0 f0 z1 f1 z2 f2 z3 f3 z4 f4 z5 f5
 revert c0 c1 c2 c3 c4 c5; refine cc6 bN ?_; intro c0 c1 c2 c3 c4 c5
 replace hI := IsW.keep hI bN
 replace hJ := IsW.keep hJ bN
 replace hT0 := hT0.kept bN
 replace bA := nT bA bN
 clear bN
 clear HR
 cases rr
 ·have e1 : EE = 2 := by rw [HA.out]; rfl
  have KK : Hid (EE = 2 ∧ LL = (false, 0, 0) ∧ HH = (false, 0, 0)) := ⟨e1, by rw [HAL.out, e1]; rfl, by rw [HAH.out, e1]; rfl⟩
  clear HA HAL HAH e1 HC1 HC2
  go_wp2_with fail
  exact bodyPost_ret (v := .tuple #[zIvI, .int .i64 2]) (by simp [results, Tryz.results87, go_sem, zIvI, z0, z1, z2, z3, z4, z5]) rfl (nil_ow (KK.out) (by repeat (first | (with_reducible exact bA) | (with_reducible refine Below.setCell ?_ (by simp) _))))
 have HB : Hid (EE = if el ≠ 0 then el else eh) := by rw [Hid, HA.out]; rfl
 clear HA
 go_wp2_with fail
 have lw1 : Hid (_ ≤ _) := bA.size
 refine Calls.mono (HC1.out _ hI hT0) ?_
 rintro r w2 ⟨v, rfl, ⟨al, nl, cl, rfl, -, hll, hOl⟩, bN⟩
 have hl0 := hOl.low lw1.out
 clear hOl lw1
 revert z0 f0 z1 f1 z2 f2 z3 f3 z4 f4 z5 f5; refine zf6 bN ?_; intro z0 f0 z1 f1 z2 f2 z3 f3 z4 f4 z5 f5
 revert c0 c1 c2 c3 c4 c5; refine cc6 bN ?_; intro c0 c1 c2 c3 c4 c5
 replace hI := IsW.keep hI bN
 replace hJ := IsW.keep hJ bN
 replace hT0 := hT0.kept bN
 replace bA := nT bA bN
 clear bN
 by_cases jl : el ≠ 0
 ·skip
  have e1 : EE = el := by rw [HB.out, if_pos jl]
  have KK : Hid (EE = el ∧ LL = (false, 0, 0) ∧ HH = (false, 0, 0)) := ⟨e1, by rw [HAL.out, e1, if_neg jl], by rw [HAH.out, e1, if_neg jl]⟩
  have d1 : (el != 0) = true := by simp [jl]
  clear HB HAL HAH e1
  have bB := below_one w2 (.cells #[.bool PL.1, .slice al nl cl, .int .i64 PL.2.2] 25)
  obtain ⟨l0, l1, l2⟩ := bx3 w2 (.bool PL.1) (.slice al nl cl) (.int .i64 PL.2.2) 25
  replace hl0 := hl0.keep bB
  revert z0 f0 z1 f1 z2 f2 z3 f3 z4 f4 z5 f5; refine zf6 bB ?_; intro z0 f0 z1 f1 z2 f2 z3 f3 z4 f4 z5 f5
  revert c0 c1 c2 c3 c4 c5; refine cc6 bB ?_; intro c0 c1 c2 c3 c4 c5
  replace hI := IsW.keep hI bB
  replace hJ := IsW.keep hJ bB
  replace hT0 := hT0.kept bB
  replace bA := nT bA bB
  clear bB
  go_wp2_with fail
  exact bodyPost_ret (v := .tuple #[zIvI, .int .i64 el]) (by simp [results, Tryz.results87, go_sem, zIvI, z0, z1, z2, z3, z4, z5]) rfl (nil_ow (KK.out) (by repeat (first | (with_reducible exact bA) | (with_reducible refine Below.setCell ?_ (by simp) _))))
 replace jl : el = 0 := Decidable.of_not_not jl
 subst jl
 have bB := below_one w2 (.cells #[.bool PL.1, .slice al nl cl, .int .i64 PL.2.2] 25)
 obtain ⟨l0, l1, l2⟩ := bx3 w2 (.bool PL.1) (.slice al nl cl) (.int .i64 PL.2.2) 25
 replace hl0 := hl0.keep bB
 revert z0 f0 z1 f1 z2 f2 z3 f3 z4 f4 z5 f5; refine zf6 bB ?_; intro z0 f0 z1 f1 z2 f2 z3 f3 z4 f4 z5 f5
 revert c0 c1 c2 c3 c4 c5; refine cc6 bB ?_; intro c0 c1 c2 c3 c4 c5
 replace hI := IsW.keep hI bB
 replace hJ := IsW.keep hJ bB
 replace hT0 := hT0.kept bB
 replace bA := nT bA bB
 clear bB
 go_wp2_with fail
 generalize (w2.alloc (.cells #[.bool PL.1, .slice al nl cl, .int .i64 PL.2.2] 25)) = w3 at *
 have lw2 : Hid (_ ≤ _) := bA.size
 refine Calls.mono (HC2.out _ hJ hT0) ?_
 rintro r w4 ⟨v, rfl, ⟨ah, nh, ch, rfl, -, hlh, hOh⟩, bN⟩
 have hh0 := hOh.low lw2.out
 clear hOh lw2
 replace hl0 := hl0.keep bN
 revert z0 f0 z1 f1 z2 f2 z3 f3 z4 f4 z5 f5; refine zf6 bN ?_; intro z0 f0 z1 f1 z2 f2 z3 f3 z4 f4 z5 f5
 revert l0 l1 l2 c0 c1 c2; refine cc6 bN ?_; intro l0 l1 l2 c0 c1 c2
 revert c3 c4 c5; refine cc3 bN ?_; intro c3 c4 c5
 replace hI := IsW.keep hI bN
 replace hJ := IsW.keep hJ bN
 replace hT0 := hT0.kept bN
 replace bA := nT bA bN
 clear bN
 by_cases jk : eh ≠ 0
 ·skip
  have e1 : EE = eh := by rw [HB.out, if_neg (by decide)]
  have KK : Hid (EE = eh ∧ LL = (false, 0, 0) ∧ HH = (false, 0, 0)) := ⟨e1, by rw [HAL.out, e1, if_neg jk], by rw [HAH.out, e1, if_neg jk]⟩
  have d1 : (eh != 0) = true := by simp [jk]
  clear HB HAL HAH e1
  have bB := below_one w4 (.cells #[.bool PH.1, .slice ah nh ch, .int .i64 PH.2.2] 25)
  obtain ⟨k0, k1, k2⟩ := bx3 w4 (.bool PH.1) (.slice ah nh ch) (.int .i64 PH.2.2) 25
  replace hl0 := hl0.keep bB
  replace hh0 := hh0.keep bB
  revert z0 f0 z1 f1 z2 f2 z3 f3 z4 f4 z5 f5; refine zf6 bB ?_; intro z0 f0 z1 f1 z2 f2 z3 f3 z4 f4 z5 f5
  replace l0 := kC bB l0
  replace l1 := kC bB l1
  replace l2 := kC bB l2
  replace c0 := kC bB c0
  replace c1 := kC bB c1
  replace c2 := kC bB c2
  revert c3 c4 c5; refine cc3 bB ?_; intro c3 c4 c5
  replace hI := IsW.keep hI bB
  replace hJ := IsW.keep hJ bB
  replace hT0 := hT0.kept bB
  replace bA := nT bA bB
  clear bB
  go_wp2_with fail
  exact bodyPost_ret (v := .tuple #[zIvI, .int .i64 eh]) (by simp [results, Tryz.results87, go_sem, zIvI, z0, z1, z2, z3, z4, z5]) rfl (nil_ow (KK.out) (by repeat (first | (with_reducible exact bA) | (with_reducible refine Below.setCell ?_ (by simp) _))))
 replace jk : eh = 0 := Decidable.of_not_not jk
 subst jk
 have bB := below_one w4 (.cells #[.bool PH.1, .slice ah nh ch, .int .i64 PH.2.2] 25)
 obtain ⟨k0, k1, k2⟩ := bx3 w4 (.bool PH.1) (.slice ah nh ch) (.int .i64 PH.2.2) 25
 replace hl0 := hl0.keep bB
 replace hh0 := hh0.keep bB
 revert z0 f0 z1 f1 z2 f2 z3 f3 z4 f4 z5 f5; refine zf6 bB ?_; intro z0 f0 z1 f1 z2 f2 z3 f3 z4 f4 z5 f5
 revert l0 l1 l2 c0 c1 c2; refine cc6 bB ?_; intro l0 l1 l2 c0 c1 c2
 revert c3 c4 c5; refine cc3 bB ?_; intro c3 c4 c5
 replace hI := IsW.keep hI bB
 replace hJ := IsW.keep hJ bB
 replace hT0 := hT0.kept bB
 replace bA := nT bA bB
 clear bB
 go_wp2_with fail
 generalize (w4.alloc (.cells #[.bool PH.1, .slice ah nh ch, .int .i64 PH.2.2] 25)) = w5 at *
 have e1 : EE = 0 := by rw [HB.out, if_neg (by decide)]
 have KK : Hid (EE = 0 ∧ LL = PL ∧ HH = PH) := ⟨e1, by rw [HAL.out, if_pos e1], by rw [HAH.out, if_pos e1]⟩
 clear HB HAL HAH e1
 have s6 := six_ofI z0 z1 z2 z3 z4 z5 (fun _ q => by cases q) (fun _ q => by cases q) (fun _ q => by cases q) (fun _ q => by cases q) (fun _ q => by cases q) (fun _ q => by cases q)
 exact bodyPost_ret (v := .tuple #[ivI PL.1 al nl cl PL.2.2 PH.1 ah nh ch PH.2.2, .int .i64 0]) (by simp [results, Tryz.results87, go_sem, z0, z1, z2, z3, z4, z5]) rfl ⟨al, nl, cl, ah, nh, ch, by rw [KK.out.1, KK.out.2.1, KK.out.2.2], hll, hlh, by rw [KK.out.2.1]; exact ownW_sixI hl0 s6 _ _ _ _ _ _, by rw [KK.out.2.2]; exact ownW_sixI hh0 s6 _ _ _ _ _ _, by repeat (first | (with_reducible exact bA) | (with_reducible refine Below.setCell ?_ (by simp) _))⟩
set_option maxHeartbeats 4000000
set_option maxRecDepth 100000
theorem icanon_calls (s : Bool) (a : Option Addr) (len cap : Nat) (xs : List Int) (e : Int) (s' : Bool) (a' : Option Addr) (len' cap' : Nat) (ys : List Int) (e' : Int) (w : World) (h : IsW w a len cap xs) (hm : len ≤ 17592186044000) (h' : IsW w a' len' cap' ys) (hm' : len' ≤ 17592186044000) (hT : Tab w) :
  Calls Tryz.prog 38 #[ivI s a len cap e s' a' len' cap' e'] w fun r w' => ∃ al nl cl ah nh ch, r = .returned (.tuple #[ivI (cnL s (val xs) e s' (val ys) e').1 al nl cl (cnL s (val xs) e s' (val ys) e').2.2 (cnH s (val xs) e s' (val ys) e').1 ah nh ch (cnH s (val xs) e s' (val ys) e').2.2, .int .i64 (cnE s (val xs) e s' (val ys) e')]) ∧ nl ≤ 1024 ∧ nh ≤ 1024 ∧ OwnW w.heap.size w' al nl cl (wO (cnL s (val xs) e s' (val ys) e').2.1) ∧ OwnW w.heap.size w' ah nh ch (wO (cnH s (val xs) e s' (val ys) e').2.1) ∧ Below w.heap.size w w' := by
 have bA : Below w.heap.size w ((w.alloc (.cells #[.bool s, .slice a len cap, .int .i64 e, .bool s', .slice a' len' cap', .int .i64 e'] 27)).alloc (.cells #[.bool false, .slice none 0 0, .int .i64 0, .bool false, .slice none 0 0, .int .i64 0] 27)) := nT (below_one _ _) (below_one _ _)
 have HC : Hid _ := eachCanon_calls s a len cap xs e s' a' len' cap' ys e' _ (h.keep bA) hm (h'.keep bA) hm' (hT.kept bA)
 generalize cnE s (val xs) e s' (val ys) e' = EE at *
 generalize cnL s (val xs) e s' (val ys) e' = LL at *
 generalize cnH s (val xs) e s' (val ys) e' = HH at *
 have z0 : ((w.alloc (.cells #[.bool s, .slice a len cap, .int .i64 e, .bool s', .slice a' len' cap', .int .i64 e'] 27)).alloc (.cells #[.bool false, .slice none 0 0, .int .i64 0, .bool false, .slice none 0 0, .int .i64 0] 27)).cell? ⟨w.heap.size + 1, 0, none⟩ = some (.bool false) := by go_simp
 have f0 : ((w.alloc (.cells #[.bool s, .slice a len cap, .int .i64 e, .bool s', .slice a' len' cap', .int .i64 e'] 27)).alloc (.cells #[.bool false, .slice none 0 0, .int .i64 0, .bool false, .slice none 0 0, .int .i64 0] 27)).frozen? ⟨w.heap.size + 1, 0, none⟩ = false := by go_simp
 have z1 : ((w.alloc (.cells #[.bool s, .slice a len cap, .int .i64 e, .bool s', .slice a' len' cap', .int .i64 e'] 27)).alloc (.cells #[.bool false, .slice none 0 0, .int .i64 0, .bool false, .slice none 0 0, .int .i64 0] 27)).cell? ⟨w.heap.size + 1, 1, none⟩ = some (.slice none 0 0) := by go_simp
 have f1 : ((w.alloc (.cells #[.bool s, .slice a len cap, .int .i64 e, .bool s', .slice a' len' cap', .int .i64 e'] 27)).alloc (.cells #[.bool false, .slice none 0 0, .int .i64 0, .bool false, .slice none 0 0, .int .i64 0] 27)).frozen? ⟨w.heap.size + 1, 1, none⟩ = false := by go_simp
 have z2 : ((w.alloc (.cells #[.bool s, .slice a len cap, .int .i64 e, .bool s', .slice a' len' cap', .int .i64 e'] 27)).alloc (.cells #[.bool false, .slice none 0 0, .int .i64 0, .bool false, .slice none 0 0, .int .i64 0] 27)).cell? ⟨w.heap.size + 1, 2, none⟩ = some (.int .i64 0) := by go_simp
 have f2 : ((w.alloc (.cells #[.bool s, .slice a len cap, .int .i64 e, .bool s', .slice a' len' cap', .int .i64 e'] 27)).alloc (.cells #[.bool false, .slice none 0 0, .int .i64 0, .bool false, .slice none 0 0, .int .i64 0] 27)).frozen? ⟨w.heap.size + 1, 2, none⟩ = false := by go_simp
 have z3 : ((w.alloc (.cells #[.bool s, .slice a len cap, .int .i64 e, .bool s', .slice a' len' cap', .int .i64 e'] 27)).alloc (.cells #[.bool false, .slice none 0 0, .int .i64 0, .bool false, .slice none 0 0, .int .i64 0] 27)).cell? ⟨w.heap.size + 1, 3, none⟩ = some (.bool false) := by go_simp
 have f3 : ((w.alloc (.cells #[.bool s, .slice a len cap, .int .i64 e, .bool s', .slice a' len' cap', .int .i64 e'] 27)).alloc (.cells #[.bool false, .slice none 0 0, .int .i64 0, .bool false, .slice none 0 0, .int .i64 0] 27)).frozen? ⟨w.heap.size + 1, 3, none⟩ = false := by go_simp
 have z4 : ((w.alloc (.cells #[.bool s, .slice a len cap, .int .i64 e, .bool s', .slice a' len' cap', .int .i64 e'] 27)).alloc (.cells #[.bool false, .slice none 0 0, .int .i64 0, .bool false, .slice none 0 0, .int .i64 0] 27)).cell? ⟨w.heap.size + 1, 4, none⟩ = some (.slice none 0 0) := by go_simp
 have f4 : ((w.alloc (.cells #[.bool s, .slice a len cap, .int .i64 e, .bool s', .slice a' len' cap', .int .i64 e'] 27)).alloc (.cells #[.bool false, .slice none 0 0, .int .i64 0, .bool false, .slice none 0 0, .int .i64 0] 27)).frozen? ⟨w.heap.size + 1, 4, none⟩ = false := by go_simp
 have z5 : ((w.alloc (.cells #[.bool s, .slice a len cap, .int .i64 e, .bool s', .slice a' len' cap', .int .i64 e'] 27)).alloc (.cells #[.bool false, .slice none 0 0, .int .i64 0, .bool false, .slice none 0 0, .int .i64 0] 27)).cell? ⟨w.heap.size + 1, 5, none⟩ = some (.int .i64 0) := by go_simp
 have f5 : ((w.alloc (.cells #[.bool s, .slice a len cap, .int .i64 e, .bool s', .slice a' len' cap', .int .i64 e'] 27)).alloc (.cells #[.bool false, .slice none 0 0, .int .i64 0, .bool false, .slice none 0 0, .int .i64 0] 27)).frozen? ⟨w.heap.size + 1, 5, none⟩ = false := by go_simp
 clear h hm hT h' hm'
 go_enter Tryz.func38, Tryz.ntmps38
 go_wp2_with fail
 generalize ((w.alloc (.cells #[.bool s, .slice a len cap, .int .i64 e, .bool s', .slice a' len' cap', .int .i64 e'] 27)).alloc (.cells #[.bool false, .slice none 0 0, .int .i64 0, .bool false, .slice none 0 0, .int .i64 0] 27)) = w0 at *
 refine cM HC.out ?_
 rintro r w1 ⟨al, nl, cl, ah, nh, ch, rfl, i1, i2, O1, O2, bN⟩
 replace O1 := O1.low bA.size
 replace O2 := O2.low bA.size
 revert z0 f0 z1 f1 z2 f2 z3 f3 z4 f4 z5 f5; refine zf6 bN ?_; intro z0 f0 z1 f1 z2 f2 z3 f3 z4 f4 z5 f5
 replace bA := nT bA bN
 clear bN HC
 have j1 : Hid _ := i1
 have j2 : Hid _ := i2
 clear i1 i2
 go_wp2_with fail
 have s6 := six_ofI z0 z1 z2 z3 z4 z5 (fun _ q => by cases q) (fun _ q => by cases q) (fun _ q => by cases q) (fun _ q => by cases q) (fun _ q => by cases q) (fun _ q => by cases q)
 exact bodyPost_ret (v := .tuple #[ivI LL.1 al nl cl LL.2.2 HH.1 ah nh ch HH.2.2, .int .i64 EE]) (by simp [results, Tryz.results38, go_sem, z0, z1, z2, z3, z4, z5]) rfl ⟨al, nl, cl, ah, nh, ch, rfl, j1.out, j2.out, ownW_sixI O1 s6 _ _ _ _ _ _, ownW_sixI O2 s6 _ _ _ _ _ _, by repeat (first | (with_reducible exact bA) | (with_reducible refine Below.setCell ?_ (by simp) _))⟩
def sgV (s : Bool) (m : Nat) (e : Int) (s' : Bool) (m' : Nat) (e' : Int) : Int := if rtI s m e s' m' e' = true ∧ sgnD (formD s m e) = sgnD (formD s' m' e') then sgnD (formD s m e) else 0
def sgB (s : Bool) (m : Nat) (e : Int) (s' : Bool) (m' : Nat) (e' : Int) : Bool := decide (rtI s m e s' m' e' = true ∧ sgnD (formD s m e) = sgnD (formD s' m' e'))
theorem ivSign_calls (s : Bool) (a : Option Addr) (len cap : Nat) (xs : List Int) (e : Int) (s' : Bool) (a' : Option Addr) (len' cap' : Nat) (ys : List Int) (e' : Int) (w : World) (h : IsW w a len cap xs) (hm : len ≤ 17592186044000) (h' : IsW w a' len' cap' ys) (hm' : len' ≤ 17592186044000) (hT : Tab w) :
  Calls Tryz.prog 48 #[ivI s a len cap e s' a' len' cap' e'] w fun r w' => r = .returned (.tuple #[.int .i64 (sgV s (val xs) e s' (val ys) e'), .bool (sgB s (val xs) e s' (val ys) e')]) ∧ Below w.heap.size w w' := by
 have bA : Below w.heap.size w ((w.alloc (.cells #[.bool s, .slice a len cap, .int .i64 e, .bool s', .slice a' len' cap', .int .i64 e'] 27)).alloc (.cells #[.bool s, .slice a len cap, .int .i64 e, .bool s', .slice a' len' cap', .int .i64 e'] 27)) := nT (below_one _ _) (below_one _ _)
 have HR : Hid _ := iright1_calls s a len cap xs e s' a' len' cap' ys e' (w.heap.size + 1) ((w.alloc (.cells #[.bool s, .slice a len cap, .int .i64 e, .bool s', .slice a' len' cap', .int .i64 e'] 27)).alloc (.cells #[.bool s, .slice a len cap, .int .i64 e, .bool s', .slice a' len' cap', .int .i64 e'] 27)) (h.keep bA) hm (h'.keep bA) hm' (by go_simp) (by go_simp) (by go_simp) (by go_simp) (by go_simp) (by go_simp) (hT.kept bA)
 have HG : Hid (rtI s (val xs) e s' (val ys) e' = true → greatB (val xs) = false ∧ greatB (val ys) = false) := fun q => by
  unfold rtI at q
  simp only [Bool.and_eq_true] at q
  exact ⟨(rightB_yes q.1.1).1, (rightB_yes q.1.2).1⟩
 have H1 : Hid _ := fun w' (k : IsW w' a len cap xs) g => isign_calls s a len cap xs e w' k hm g
 have H2 : Hid _ := fun w' (k : IsW w' a' len' cap' ys) g => isign_calls s' a' len' cap' ys e' w' k hm' g
 have HA : Hid (sgV s (val xs) e s' (val ys) e' = if rtI s (val xs) e s' (val ys) e' = true ∧ sgnD (formD s (val xs) e) = sgnD (formD s' (val ys) e') then sgnD (formD s (val xs) e) else 0) := by rw [Hid]; rfl
 have HB : Hid (sgB s (val xs) e s' (val ys) e' = decide (rtI s (val xs) e s' (val ys) e' = true ∧ sgnD (formD s (val xs) e) = sgnD (formD s' (val ys) e'))) := by rw [Hid]; rfl
 generalize sgV s (val xs) e s' (val ys) e' = SV at *
 generalize sgB s (val xs) e s' (val ys) e' = SB at *
 generalize sgnD (formD s (val xs) e) = g1 at *
 generalize sgnD (formD s' (val ys) e') = g2 at *
 generalize rtI s (val xs) e s' (val ys) e' = rr at *
 have hI := h.keep bA
 have hJ := h'.keep bA
 have c0 : ((w.alloc (.cells #[.bool s, .slice a len cap, .int .i64 e, .bool s', .slice a' len' cap', .int .i64 e'] 27)).alloc (.cells #[.bool s, .slice a len cap, .int .i64 e, .bool s', .slice a' len' cap', .int .i64 e'] 27)).cell? ⟨w.heap.size, 0, none⟩ = some (.bool s) := by go_simp
 have c1 : ((w.alloc (.cells #[.bool s, .slice a len cap, .int .i64 e, .bool s', .slice a' len' cap', .int .i64 e'] 27)).alloc (.cells #[.bool s, .slice a len cap, .int .i64 e, .bool s', .slice a' len' cap', .int .i64 e'] 27)).cell? ⟨w.heap.size, 1, none⟩ = some (.slice a len cap) := by go_simp
 have c2 : ((w.alloc (.cells #[.bool s, .slice a len cap, .int .i64 e, .bool s', .slice a' len' cap', .int .i64 e'] 27)).alloc (.cells #[.bool s, .slice a len cap, .int .i64 e, .bool s', .slice a' len' cap', .int .i64 e'] 27)).cell? ⟨w.heap.size, 2, none⟩ = some (.int .i64 e) := by go_simp
 have c3 : ((w.alloc (.cells #[.bool s, .slice a len cap, .int .i64 e, .bool s', .slice a' len' cap', .int .i64 e'] 27)).alloc (.cells #[.bool s, .slice a len cap, .int .i64 e, .bool s', .slice a' len' cap', .int .i64 e'] 27)).cell? ⟨w.heap.size, 3, none⟩ = some (.bool s') := by go_simp
 have c4 : ((w.alloc (.cells #[.bool s, .slice a len cap, .int .i64 e, .bool s', .slice a' len' cap', .int .i64 e'] 27)).alloc (.cells #[.bool s, .slice a len cap, .int .i64 e, .bool s', .slice a' len' cap', .int .i64 e'] 27)).cell? ⟨w.heap.size, 4, none⟩ = some (.slice a' len' cap') := by go_simp
 have c5 : ((w.alloc (.cells #[.bool s, .slice a len cap, .int .i64 e, .bool s', .slice a' len' cap', .int .i64 e'] 27)).alloc (.cells #[.bool s, .slice a len cap, .int .i64 e, .bool s', .slice a' len' cap', .int .i64 e'] 27)).cell? ⟨w.heap.size, 5, none⟩ = some (.int .i64 e') := by go_simp
 clear h h' hT hm hm'
 go_enter Tryz.func48, Tryz.ntmps48
 go_wp2_with fail
 generalize ((w.alloc (.cells #[.bool s, .slice a len cap, .int .i64 e, .bool s', .slice a' len' cap', .int .i64 e'] 27)).alloc (.cells #[.bool s, .slice a len cap, .int .i64 e, .bool s', .slice a' len' cap', .int .i64 e'] 27)) = w0 at *
 refine cM HR.out ?_
 rintro r w1 ⟨rfl, bN⟩
 revert c0 c1 c2 c3 c4 c5; refine cc6 bN ?_; intro c0 c1 c2 c3 c4 c5
 replace hI := IsW.keep hI bN
 replace hJ := IsW.keep hJ bN
 replace bA := nT bA bN
 clear bN HR
 cases rr
 ·have e1 : Hid (SV = 0 ∧ SB = false) := ⟨by rw [HA.out]; simp, by rw [HB.out]; simp⟩
  clear HA HB HG H1 H2
  go_wp2_with fail
  go_ret2
  rw [e1.out.1, e1.out.2]
  exact ⟨rfl, bA⟩
 obtain ⟨G1, G2⟩ := HG.out (by first | rfl | trivial)
 go_upto_region 3 with fail
 have R : Below w1.heap.size w1 (World.drew w1) := (Below.refl _ _).drew
 refine wp_region_held (S := fun w' => Below w1.heap.size w1 w') (by kernel_rfl) ?_
 change wpAnyH _ _ _ _ _ _ _ _ (World.drew w1)
 generalize World.drew w1 = wd at R ⊢
 refine tk 0 (.pointer (some ⟨w.heap.size, 0, none⟩)) rfl (by kernel_rfl) (fun _ _ _ h => h) (by rfl) ?y1 R ?r1
 case y1 => (intro ww hS; clear hS; go_simp; try with_reducible rfl)
 try simp only [Act.put, sA]
 refine tk 1 (dyV s a len cap e) rfl (by kernel_rfl) (fun _ _ _ h => h) (by rfl) ?y2 R ?r2
 case y2 => (intro ww hS; have qc0 := kC hS c0; have qc1 := kC hS c1; have qc2 := kC hS c2; clear hS; go_simp; try with_reducible rfl)
 try simp only [Act.put]
 refine tk 3 (.pointer (some ⟨w.heap.size, 3, none⟩)) rfl (by kernel_rfl) (fun _ _ _ h => h) (by rfl) ?y3 R ?r3
 case y3 => (intro ww hS; clear hS; go_simp; try with_reducible rfl)
 try simp only [Act.put]
 refine tk 4 (dyV s' a' len' cap' e') rfl (by kernel_rfl) (fun _ _ _ h => h) (by rfl) ?y4 R ?r4
 case y4 => (intro ww hS; have qc3 := kC hS c3; have qc4 := kC hS c4; have qc5 := kC hS c5; clear hS; go_simp; try with_reducible rfl)
 try simp only [Act.put]
 refine rd1 2 (by kernel_rfl) rfl fun K hK => ?_
 go_simp
 refine cM (H1.out _ (IsW.keep hI R) G1) ?_
 rintro r wa ⟨rfl, bN⟩
 replace R := nT R bN
 clear bN
 refine hK.out _ _ R (fun _ => ?_)
 clear hK K
 try simp only [Act.put, sA, sZ, sS]
 refine rd1 5 (by kernel_rfl) rfl fun K hK => ?_
 go_simp
 refine cM (H2.out _ (IsW.keep hJ R) G2) ?_
 rintro r wb ⟨rfl, bN⟩
 replace R := nT R bN
 clear bN
 refine hK.out _ _ R (fun _ => ?_)
 clear hK K
 try simp only [Act.put, sA, sZ, sS]
 refine rd1 6 (by kernel_rfl) rfl fun K hK => ?_
 go_simp
 refine hK.out _ _ R (fun _ => ?_)
 clear hK K
 try simp only [Act.put, sA, sZ, sS]
 refine rd1 7 (by kernel_rfl) rfl fun K hK => ?_
 go_simp
 refine hK.out _ _ R (fun _ => ?_)
 clear hK K
 try simp only [Act.put, sA, sZ, sS]
 refine wpAnyH_done (by kernel_rfl) ?_ _
 replace bA := nT bA R
 clear R H1 H2 HG G1 G2
 by_cases q : g1 = g2
 ·subst q
  have d : (g1 != g1) = false := by simp
  have e1 : Hid (SV = g1 ∧ SB = true) := ⟨by rw [HA.out]; simp, by rw [HB.out]; simp⟩
  clear HA HB
  go_wp2_with fail
  go_ret2
  rw [e1.out.1, e1.out.2]
  exact ⟨rfl, bA⟩
 ·have d : (g1 != g2) = true := by simp [q]
  have e1 : Hid (SV = 0 ∧ SB = false) := ⟨by rw [HA.out]; simp [q], by rw [HB.out]; simp [q]⟩
  clear HA HB
  go_wp2_with fail
  go_ret2
  rw [e1.out.1, e1.out.2]
  exact ⟨rfl, bA⟩
set_option maxHeartbeats 2000000
set_option maxRecDepth 100000
def dzE (s : Bool) (m : Nat) (e : Int) (s' : Bool) (m' : Nat) (e' : Int) : Int := if sgnD (formD s m e) ≤ 0 ∧ 0 ≤ sgnD (formD s' m' e') then 30 else 0
theorem never_calls (t : Bool) (b : Option Addr) (n k : Nat) (g : Int) (t' : Bool) (b' : Option Addr) (n' k' : Nat) (g' : Int) (s : Bool) (a : Option Addr) (len cap : Nat) (e : Int) (s' : Bool) (a' : Option Addr) (len' cap' : Nat) (e' : Int) (w : World) :
  Calls Tryz.prog 99 #[ivI t b n k g t' b' n' k' g', ivI s a len cap e s' a' len' cap' e'] w fun r w' => r = .returned (.int .i64 0) ∧ Below w.heap.size w w' := by
 have bA : Below w.heap.size w ((w.alloc (.cells #[.bool t, .slice b n k, .int .i64 g, .bool t', .slice b' n' k', .int .i64 g'] 27)).alloc (.cells #[.bool s, .slice a len cap, .int .i64 e, .bool s', .slice a' len' cap', .int .i64 e'] 27)) := nT (below_one _ _) (below_one _ _)
 go_enter Tryz.func99, Tryz.ntmps99
 go_wp2_with fail
 go_ret
 exact ⟨rfl, bA⟩
theorem divZero_calls (t : Bool) (b : Option Addr) (n k : Nat) (g : Int) (t' : Bool) (b' : Option Addr) (n' k' : Nat) (g' : Int) (s : Bool) (a : Option Addr) (len cap : Nat) (xs : List Int) (e : Int) (s' : Bool) (a' : Option Addr) (len' cap' : Nat) (ys : List Int) (e' : Int) (w : World) (h : IsW w a len cap xs) (hm : len ≤ 17592186044000) (hg : greatB (val xs) = false) (h' : IsW w a' len' cap' ys) (hm' : len' ≤ 17592186044000) (hg' : greatB (val ys) = false) :
  Calls Tryz.prog 104 #[ivI t b n k g t' b' n' k' g', ivI s a len cap e s' a' len' cap' e'] w fun r w' => r = .returned (.int .i64 (dzE s (val xs) e s' (val ys) e')) ∧ Below w.heap.size w w' := by
 have bA : Below w.heap.size w ((w.alloc (.cells #[.bool t, .slice b n k, .int .i64 g, .bool t', .slice b' n' k', .int .i64 g'] 27)).alloc (.cells #[.bool s, .slice a len cap, .int .i64 e, .bool s', .slice a' len' cap', .int .i64 e'] 27)) := nT (below_one _ _) (below_one _ _)
 have H1 : Hid _ := fun w' (q : IsW w' a len cap xs) => isign_calls s a len cap xs e w' q hm hg
 have H2 : Hid _ := fun w' (q : IsW w' a' len' cap' ys) => isign_calls s' a' len' cap' ys e' w' q hm' hg'
 have HA : Hid (dzE s (val xs) e s' (val ys) e' = if sgnD (formD s (val xs) e) ≤ 0 ∧ 0 ≤ sgnD (formD s' (val ys) e') then 30 else 0) := by rw [Hid]; rfl
 generalize dzE s (val xs) e s' (val ys) e' = EE at *
 generalize sgnD (formD s (val xs) e) = g1 at *
 generalize sgnD (formD s' (val ys) e') = g2 at *
 have hI := h.keep bA
 have hJ := h'.keep bA
 have c0 : ((w.alloc (.cells #[.bool t, .slice b n k, .int .i64 g, .bool t', .slice b' n' k', .int .i64 g'] 27)).alloc (.cells #[.bool s, .slice a len cap, .int .i64 e, .bool s', .slice a' len' cap', .int .i64 e'] 27)).cell? ⟨w.heap.size + 1, 0, none⟩ = some (.bool s) := by go_simp
 have c1 : ((w.alloc (.cells #[.bool t, .slice b n k, .int .i64 g, .bool t', .slice b' n' k', .int .i64 g'] 27)).alloc (.cells #[.bool s, .slice a len cap, .int .i64 e, .bool s', .slice a' len' cap', .int .i64 e'] 27)).cell? ⟨w.heap.size + 1, 1, none⟩ = some (.slice a len cap) := by go_simp
 have c2 : ((w.alloc (.cells #[.bool t, .slice b n k, .int .i64 g, .bool t', .slice b' n' k', .int .i64 g'] 27)).alloc (.cells #[.bool s, .slice a len cap, .int .i64 e, .bool s', .slice a' len' cap', .int .i64 e'] 27)).cell? ⟨w.heap.size + 1, 2, none⟩ = some (.int .i64 e) := by go_simp
 have c3 : ((w.alloc (.cells #[.bool t, .slice b n k, .int .i64 g, .bool t', .slice b' n' k', .int .i64 g'] 27)).alloc (.cells #[.bool s, .slice a len cap, .int .i64 e, .bool s', .slice a' len' cap', .int .i64 e'] 27)).cell? ⟨w.heap.size + 1, 3, none⟩ = some (.bool s') := by go_simp
 have c4 : ((w.alloc (.cells #[.bool t, .slice b n k, .int .i64 g, .bool t', .slice b' n' k', .int .i64 g'] 27)).alloc (.cells #[.bool s, .slice a len cap, .int .i64 e, .bool s', .slice a' len' cap', .int .i64 e'] 27)).cell? ⟨w.heap.size + 1, 4, none⟩ = some (.slice a' len' cap') := by go_simp
 have c5 : ((w.alloc (.cells #[.bool t, .slice b n k, .int .i64 g, .bool t', .slice b' n' k', .int .i64 g'] 27)).alloc (.cells #[.bool s, .slice a len cap, .int .i64 e, .bool s', .slice a' len' cap', .int .i64 e'] 27)).cell? ⟨w.heap.size + 1, 5, none⟩ = some (.int .i64 e') := by go_simp
 clear h h' hm hm' hg hg'
 go_enter Tryz.func104, Tryz.ntmps104
 go_wp2_with fail
 generalize ((w.alloc (.cells #[.bool t, .slice b n k, .int .i64 g, .bool t', .slice b' n' k', .int .i64 g'] 27)).alloc (.cells #[.bool s, .slice a len cap, .int .i64 e, .bool s', .slice a' len' cap', .int .i64 e'] 27)) = w0 at *
 refine Calls.mono (H1.out _ hI) ?_
 rintro r w1 ⟨rfl, bN⟩
 revert c0 c1 c2 c3 c4 c5; refine cc6 bN ?_; intro c0 c1 c2 c3 c4 c5
 replace hJ := IsW.keep hJ bN
 replace bA := nT bA bN
 clear bN H1 hI
 by_cases q1 : g1 ≤ 0
 ·have d1 : decide (g1 ≤ 0) = true := by simp [q1]
  go_wp2_with fail
  refine Calls.mono (H2.out _ hJ) ?_
  rintro r w2 ⟨rfl, bN⟩
  replace bA := nT bA bN
  clear bN H2 hJ
  by_cases q2 : 0 ≤ g2
  ·have d2 : decide (0 ≤ g2) = true := by simp [q2]
   have e1 : Hid (EE = 30) := by rw [Hid, HA.out, if_pos ⟨q1, q2⟩]
   clear HA
   go_wp2_with fail
   go_ret
   rw [e1.out]
   exact ⟨rfl, bA⟩
  ·have d2 : decide (0 ≤ g2) = false := by simp [q2]
   have e1 : Hid (EE = 0) := by rw [Hid, HA.out, if_neg (fun z => q2 z.2)]
   clear HA
   go_wp2_with fail
   go_ret
   rw [e1.out]
   exact ⟨rfl, bA⟩
 ·have d1 : decide (g1 ≤ 0) = false := by simp [q1]
  have e1 : Hid (EE = 0) := by rw [Hid, HA.out, if_neg (fun z => q1 z.1)]
  clear HA
  go_wp2_with fail
  go_ret
  rw [e1.out]
  exact ⟨rfl, bA⟩
end Go.Proofs.YtahpdcbmekgkfaaGreatDoor

/- Package ival: what is refused: never, divisorZero. Package ival: the sum of two numbers that has room. Package ival: the sums of ends, where both have room. -/
import Derived.Test.YtahpdcbmekgkfaaGreatDoorCR
import Derived.Test.YtahpdcbmekgkfaaGreatDoorTMO
import Derived.Test.YtahpdcbmekgkfaaGreatDoorAL
import Derived.Test.YtahpdcbmekgkfaaGreatDoorTMF

namespace Go.Proofs.YtahpdcbmekgkfaaGreatDoor
open Go.RowKit
set_option maxHeartbeats 2000000
set_option maxRecDepth 100000
def dzE (s : Bool) (m : Nat) (e : Int) (s' : Bool) (m' : Nat) (e' : Int) : Int := if sgnD (formD s m e) ≤ 0 ∧ 0 ≤ sgnD (formD s' m' e') then 30 else 0
theorem never_calls (t : Bool) (b : Option Addr) (n k : Nat) (g : Int) (t' : Bool) (b' : Option Addr) (n' k' : Nat) (g' : Int) (s : Bool) (a : Option Addr) (len cap : Nat) (e : Int) (s' : Bool) (a' : Option Addr) (len' cap' : Nat) (e' : Int) (w : World) :
  Calls Tryz.prog 99 #[ivI t b n k g t' b' n' k' g', ivI s a len cap e s' a' len' cap' e'] w fun r w' => r = .returned (.int .i64 0) ∧ Below w.heap.size w w' := by
 have bA : Below w.heap.size w ((w.alloc (.cells #[.bool t, .slice b n k, .int .i64 g, .bool t', .slice b' n' k', .int .i64 g'] 27)).alloc (.cells #[.bool s, .slice a len cap, .int .i64 e, .bool s', .slice a' len' cap', .int .i64 e'] 27)) := nT (below_one _ _) (below_one _ _)
 go_enter Tryz.func99, Tryz.ntmps99
 go_wp2_with fail
 go_ret
 exact ⟨rfl, bA⟩
theorem divZero_calls (t : Bool) (b : Option Addr) (n k : Nat) (g : Int) (t' : Bool) (b' : Option Addr) (n' k' : Nat) (g' : Int) (s : Bool) (a : Option Addr) (len cap : Nat) (xs : List Int) (e : Int) (s' : Bool) (a' : Option Addr) (len' cap' : Nat) (ys : List Int) (e' : Int) (w : World) (h : IsW w a len cap xs) (hm : len ≤ 17592186044000) (hg : greatB (val xs) = false) (h' : IsW w a' len' cap' ys) (hm' : len' ≤ 17592186044000) (hg' : greatB (val ys) = false) :
  Calls Tryz.prog 104 #[ivI t b n k g t' b' n' k' g', ivI s a len cap e s' a' len' cap' e'] w fun r w' => r = .returned (.int .i64 (dzE s (val xs) e s' (val ys) e')) ∧ Below w.heap.size w w' := by
 have bA : Below w.heap.size w ((w.alloc (.cells #[.bool t, .slice b n k, .int .i64 g, .bool t', .slice b' n' k', .int .i64 g'] 27)).alloc (.cells #[.bool s, .slice a len cap, .int .i64 e, .bool s', .slice a' len' cap', .int .i64 e'] 27)) := nT (below_one _ _) (below_one _ _)
 have H1 : Hid _ := fun w' (q : IsW w' a len cap xs) => isign_calls s a len cap xs e w' q hm hg
 have H2 : Hid _ := fun w' (q : IsW w' a' len' cap' ys) => isign_calls s' a' len' cap' ys e' w' q hm' hg'
 have HA : Hid (dzE s (val xs) e s' (val ys) e' = if sgnD (formD s (val xs) e) ≤ 0 ∧ 0 ≤ sgnD (formD s' (val ys) e') then 30 else 0) := by rw [Hid]; rfl
 generalize dzE s (val xs) e s' (val ys) e' = EE at *
 generalize sgnD (formD s (val xs) e) = g1 at *
 generalize sgnD (formD s' (val ys) e') = g2 at *
 have hI := h.keep bA
 have hJ := h'.keep bA
 have c0 : ((w.alloc (.cells #[.bool t, .slice b n k, .int .i64 g, .bool t', .slice b' n' k', .int .i64 g'] 27)).alloc (.cells #[.bool s, .slice a len cap, .int .i64 e, .bool s', .slice a' len' cap', .int .i64 e'] 27)).cell? ⟨w.heap.size + 1, 0, none⟩ = some (.bool s) := by go_simp
 have c1 : ((w.alloc (.cells #[.bool t, .slice b n k, .int .i64 g, .bool t', .slice b' n' k', .int .i64 g'] 27)).alloc (.cells #[.bool s, .slice a len cap, .int .i64 e, .bool s', .slice a' len' cap', .int .i64 e'] 27)).cell? ⟨w.heap.size + 1, 1, none⟩ = some (.slice a len cap) := by go_simp
 have c2 : ((w.alloc (.cells #[.bool t, .slice b n k, .int .i64 g, .bool t', .slice b' n' k', .int .i64 g'] 27)).alloc (.cells #[.bool s, .slice a len cap, .int .i64 e, .bool s', .slice a' len' cap', .int .i64 e'] 27)).cell? ⟨w.heap.size + 1, 2, none⟩ = some (.int .i64 e) := by go_simp
 have c3 : ((w.alloc (.cells #[.bool t, .slice b n k, .int .i64 g, .bool t', .slice b' n' k', .int .i64 g'] 27)).alloc (.cells #[.bool s, .slice a len cap, .int .i64 e, .bool s', .slice a' len' cap', .int .i64 e'] 27)).cell? ⟨w.heap.size + 1, 3, none⟩ = some (.bool s') := by go_simp
 have c4 : ((w.alloc (.cells #[.bool t, .slice b n k, .int .i64 g, .bool t', .slice b' n' k', .int .i64 g'] 27)).alloc (.cells #[.bool s, .slice a len cap, .int .i64 e, .bool s', .slice a' len' cap', .int .i64 e'] 27)).cell? ⟨w.heap.size + 1, 4, none⟩ = some (.slice a' len' cap') := by go_simp
 have c5 : ((w.alloc (.cells #[.bool t, .slice b n k, .int .i64 g, .bool t', .slice b' n' k', .int .i64 g'] 27)).alloc (.cells #[.bool s, .slice a len cap, .int .i64 e, .bool s', .slice a' len' cap', .int .i64 e'] 27)).cell? ⟨w.heap.size + 1, 5, none⟩ = some (.int .i64 e') := by go_simp
 clear h h' hm hm' hg hg'
 go_enter Tryz.func104, Tryz.ntmps104
 go_wp2_with fail
 generalize ((w.alloc (.cells #[.bool t, .slice b n k, .int .i64 g, .bool t', .slice b' n' k', .int .i64 g'] 27)).alloc (.cells #[.bool s, .slice a len cap, .int .i64 e, .bool s', .slice a' len' cap', .int .i64 e'] 27)) = w0 at *
 refine Calls.mono (H1.out _ hI) ?_
 rintro r w1 ⟨rfl, bN⟩
 revert c0 c1 c2 c3 c4 c5; refine cc6 bN ?_; intro c0 c1 c2 c3 c4 c5
 replace hJ := IsW.keep hJ bN
 replace bA := nT bA bN
 clear bN H1 hI
 by_cases q1 : g1 ≤ 0
 ·have d1 : decide (g1 ≤ 0) = true := by simp [q1]
  go_wp2_with fail
  refine Calls.mono (H2.out _ hJ) ?_
  rintro r w2 ⟨rfl, bN⟩
  replace bA := nT bA bN
  clear bN H2 hJ
  by_cases q2 : 0 ≤ g2
  ·have d2 : decide (0 ≤ g2) = true := by simp [q2]
   have e1 : Hid (EE = 30) := by rw [Hid, HA.out, if_pos ⟨q1, q2⟩]
   clear HA
   go_wp2_with fail
   go_ret
   rw [e1.out]
   exact ⟨rfl, bA⟩
  ·have d2 : decide (0 ≤ g2) = false := by simp [q2]
   have e1 : Hid (EE = 0) := by rw [Hid, HA.out, if_neg (fun z => q2 z.2)]
   clear HA
   go_wp2_with fail
   go_ret
   rw [e1.out]
   exact ⟨rfl, bA⟩
 ·have d1 : decide (g1 ≤ 0) = false := by simp [q1]
  have e1 : Hid (EE = 0) := by rw [Hid, HA.out, if_neg (fun z => q1 z.1)]
  clear HA
  go_wp2_with fail
  go_ret
  rw [e1.out]
  exact ⟨rfl, bA⟩
set_option maxRecDepth 100000 in
set_option maxHeartbeats 2000000 in
theorem isum_ok (s : Bool) (a : Option Addr) (len cap : Nat) (xs : List Int) (e : Int) (s' : Bool) (a' : Option Addr) (len' cap' : Nat) (ys : List Int) (e' : Int) (w : World) (h : IsW w a len cap xs) (hm : len ≤ 17592186044000) (h' : IsW w a' len' cap' ys) (hm' : len' ≤ 17592186044000) (hT : Tab w) (hr : rightB (val xs) e = true) (hr' : rightB (val ys) e' = true) (hz : roomE (sumD (formD s (val xs) e) (formD s' (val ys) e')) = 0) :
  Calls Tryz.prog 130 #[dyV s a len cap e, dyV s' a' len' cap' e'] w fun r w' => ∃ v', r = .returned (.tuple #[v', .int .i64 0]) ∧ DyAt w.heap.size w' v' (roomP (sumD (formD s (val xs) e) (formD s' (val ys) e'))) ∧ Below w.heap.size w w' := by
 have bA : Below w.heap.size w (((w.alloc (.cells #[.bool s, .slice a len cap, .int .i64 e] 25)).alloc (.cells #[.bool s', .slice a' len' cap', .int .i64 e'] 25)).alloc (.cells #[.bool false, .slice none 0 0, .int .i64 0] 25)) := nT (nT (below_one _ _) (below_one _ _)) (below_one _ _)
 have lw : Hid (w.heap.size + 1 + 1 < (((w.alloc (.cells #[.bool s, .slice a len cap, .int .i64 e] 25)).alloc (.cells #[.bool s', .slice a' len' cap', .int .i64 e'] 25)).alloc (.cells #[.bool false, .slice none 0 0, .int .i64 0] 25)).heap.size) := by show w.heap.size + 1 + 1 < _; simp
 have HC : Hid _ := dadd_yes s a len cap xs e s' a' len' cap' ys e' (((w.alloc (.cells #[.bool s, .slice a len cap, .int .i64 e] 25)).alloc (.cells #[.bool s', .slice a' len' cap', .int .i64 e'] 25)).alloc (.cells #[.bool false, .slice none 0 0, .int .i64 0] 25)) (h.keep bA) (by omega) (h'.keep bA) (by omega) (hT.kept bA) hr hr'
 rw [hz] at HC
 generalize roomP (sumD (formD s (val xs) e) (formD s' (val ys) e')) = PP at *
 have z0 : (((w.alloc (.cells #[.bool s, .slice a len cap, .int .i64 e] 25)).alloc (.cells #[.bool s', .slice a' len' cap', .int .i64 e'] 25)).alloc (.cells #[.bool false, .slice none 0 0, .int .i64 0] 25)).cell? ⟨w.heap.size + 1 + 1, 0, none⟩ = some (.bool false) := by go_simp
 have f0 : (((w.alloc (.cells #[.bool s, .slice a len cap, .int .i64 e] 25)).alloc (.cells #[.bool s', .slice a' len' cap', .int .i64 e'] 25)).alloc (.cells #[.bool false, .slice none 0 0, .int .i64 0] 25)).frozen? ⟨w.heap.size + 1 + 1, 0, none⟩ = false := by go_simp
 have z1 : (((w.alloc (.cells #[.bool s, .slice a len cap, .int .i64 e] 25)).alloc (.cells #[.bool s', .slice a' len' cap', .int .i64 e'] 25)).alloc (.cells #[.bool false, .slice none 0 0, .int .i64 0] 25)).cell? ⟨w.heap.size + 1 + 1, 1, none⟩ = some (.slice none 0 0) := by go_simp
 have f1 : (((w.alloc (.cells #[.bool s, .slice a len cap, .int .i64 e] 25)).alloc (.cells #[.bool s', .slice a' len' cap', .int .i64 e'] 25)).alloc (.cells #[.bool false, .slice none 0 0, .int .i64 0] 25)).frozen? ⟨w.heap.size + 1 + 1, 1, none⟩ = false := by go_simp
 have z2 : (((w.alloc (.cells #[.bool s, .slice a len cap, .int .i64 e] 25)).alloc (.cells #[.bool s', .slice a' len' cap', .int .i64 e'] 25)).alloc (.cells #[.bool false, .slice none 0 0, .int .i64 0] 25)).cell? ⟨w.heap.size + 1 + 1, 2, none⟩ = some (.int .i64 0) := by go_simp
 have f2 : (((w.alloc (.cells #[.bool s, .slice a len cap, .int .i64 e] 25)).alloc (.cells #[.bool s', .slice a' len' cap', .int .i64 e'] 25)).alloc (.cells #[.bool false, .slice none 0 0, .int .i64 0] 25)).frozen? ⟨w.heap.size + 1 + 1, 2, none⟩ = false := by go_simp
 clear h h' hT hm hm' hr hr' hz
 go_enter Tryz.func130, Tryz.ntmps130
 go_wp2_with fail
 generalize (((w.alloc (.cells #[.bool s, .slice a len cap, .int .i64 e] 25)).alloc (.cells #[.bool s', .slice a' len' cap', .int .i64 e'] 25)).alloc (.cells #[.bool false, .slice none 0 0, .int .i64 0] 25)) = w0 at *
 refine Calls.mono HC.out ?_
 rintro r w1 ⟨v, rfl, ⟨al, nl, cl, rfl, hn, hl, hO⟩, bN⟩
 revert z0 f0 z1 f1 z2 f2; refine zf3 bN ?_; intro z0 f0 z1 f1 z2 f2
 replace bA := nT bA bN
 clear bN HC
 have hl1 : Hid (nl ≤ 1024) := hl
 clear hl
 have bB := below_one w1 (.cells #[.bool PP.1, .slice al nl cl, .int .i64 PP.2.2] 25)
 obtain ⟨q0, q1, q2⟩ := bx3 w1 (.bool PP.1) (.slice al nl cl) (.int .i64 PP.2.2) 25
 replace hO := hO.keep bB
 revert z0 f0 z1 f1 z2 f2; refine zf3 bB ?_; intro z0 f0 z1 f1 z2 f2
 replace bA := nT bA bB
 clear bB
 go_wp2_with fail
 generalize (w1.alloc (.cells #[.bool PP.1, .slice al nl cl, .int .i64 PP.2.2] 25)) = w2 at *
 refine bodyPost_ret (v := .tuple #[dyV PP.1 al nl cl PP.2.2, .int .i64 0]) (by simp [results, Tryz.results130, go_sem, z0, z1, z2]) rfl ⟨_, rfl, ⟨al, nl, cl, rfl, hn, hl1.out, (((hO.far _ _ lw.out).far _ _ lw.out).far _ _ lw.out).low (by have := lw.out; omega)⟩, ?_⟩
 exact ((bA.setCell (le2 _) _).setCell (le2 _) _).setCell (le2 _) _
set_option maxRecDepth 100000 in
set_option maxHeartbeats 4000000 in
theorem isums_ok (s : Bool) (a : Option Addr) (len cap : Nat) (xs : List Int) (e : Int) (s' : Bool) (a' : Option Addr) (len' cap' : Nat) (ys : List Int) (e' : Int) (t : Bool) (b : Option Addr) (n k : Nat) (us : List Int) (g : Int) (t' : Bool) (b' : Option Addr) (n' k' : Nat) (vs : List Int) (g' : Int) (p : Int) (w : World) (h : IsW w a len cap xs) (hm : len ≤ 17592186044000) (h' : IsW w a' len' cap' ys) (hm' : len' ≤ 17592186044000) (i : IsW w b n k us) (im : n ≤ 17592186044000) (i' : IsW w b' n' k' vs) (im' : n' ≤ 17592186044000) (hT : Tab w) (hr : rightB (val xs) e = true) (hr' : rightB (val ys) e' = true) (ir : rightB (val us) g = true) (ir' : rightB (val vs) g' = true) (hz : roomE (sumD (formD s (val xs) e) (formD t (val us) g)) = 0) (hz' : roomE (sumD (formD s' (val ys) e') (formD t' (val vs) g')) = 0) :
  Calls Tryz.prog 100 #[ivI s a len cap e s' a' len' cap' e', ivI t b n k g t' b' n' k' g', .int .i64 p] w fun r w' => ∃ al nl cl ah nh ch, r = .returned (.tuple #[ivI (roomP (sumD (formD s (val xs) e) (formD t (val us) g))).1 al nl cl (roomP (sumD (formD s (val xs) e) (formD t (val us) g))).2.2 (roomP (sumD (formD s' (val ys) e') (formD t' (val vs) g'))).1 ah nh ch (roomP (sumD (formD s' (val ys) e') (formD t' (val vs) g'))).2.2, .int .i64 0]) ∧ nl ≤ 1024 ∧ nh ≤ 1024 ∧ OwnW w.heap.size w' al nl cl (wO (roomP (sumD (formD s (val xs) e) (formD t (val us) g))).2.1) ∧ OwnW w.heap.size w' ah nh ch (wO (roomP (sumD (formD s' (val ys) e') (formD t' (val vs) g'))).2.1) ∧ Below w.heap.size w w' := by
 have bA : Below w.heap.size w (((w.alloc (.cells #[.bool s, .slice a len cap, .int .i64 e, .bool s', .slice a' len' cap', .int .i64 e'] 27)).alloc (.cells #[.bool t, .slice b n k, .int .i64 g, .bool t', .slice b' n' k', .int .i64 g'] 27)).alloc (.cells #[.bool false, .slice none 0 0, .int .i64 0, .bool false, .slice none 0 0, .int .i64 0] 27)) := nT (nT (below_one _ _) (below_one _ _)) (below_one _ _)
 have H1 : Hid _ := fun w' (q : IsW w' a len cap xs) (q' : IsW w' b n k us) tt => isum_ok s a len cap xs e t b n k us g w' q hm q' im tt hr ir hz
 have H2 : Hid _ := fun w' (q : IsW w' a' len' cap' ys) (q' : IsW w' b' n' k' vs) tt => isum_ok s' a' len' cap' ys e' t' b' n' k' vs g' w' q hm' q' im' tt hr' ir' hz'
 generalize roomP (sumD (formD s (val xs) e) (formD t (val us) g)) = PL at *
 generalize roomP (sumD (formD s' (val ys) e') (formD t' (val vs) g')) = PH at *
 have hI := h.keep bA
 have hJ := h'.keep bA
 have iI := i.keep bA
 have iJ := i'.keep bA
 have hT0 := hT.kept bA
 have c0 : (((w.alloc (.cells #[.bool s, .slice a len cap, .int .i64 e, .bool s', .slice a' len' cap', .int .i64 e'] 27)).alloc (.cells #[.bool t, .slice b n k, .int .i64 g, .bool t', .slice b' n' k', .int .i64 g'] 27)).alloc (.cells #[.bool false, .slice none 0 0, .int .i64 0, .bool false, .slice none 0 0, .int .i64 0] 27)).cell? ⟨w.heap.size, 0, none⟩ = some (.bool s) := by go_simp
 have c1 : (((w.alloc (.cells #[.bool s, .slice a len cap, .int .i64 e, .bool s', .slice a' len' cap', .int .i64 e'] 27)).alloc (.cells #[.bool t, .slice b n k, .int .i64 g, .bool t', .slice b' n' k', .int .i64 g'] 27)).alloc (.cells #[.bool false, .slice none 0 0, .int .i64 0, .bool false, .slice none 0 0, .int .i64 0] 27)).cell? ⟨w.heap.size, 1, none⟩ = some (.slice a len cap) := by go_simp
 have c2 : (((w.alloc (.cells #[.bool s, .slice a len cap, .int .i64 e, .bool s', .slice a' len' cap', .int .i64 e'] 27)).alloc (.cells #[.bool t, .slice b n k, .int .i64 g, .bool t', .slice b' n' k', .int .i64 g'] 27)).alloc (.cells #[.bool false, .slice none 0 0, .int .i64 0, .bool false, .slice none 0 0, .int .i64 0] 27)).cell? ⟨w.heap.size, 2, none⟩ = some (.int .i64 e) := by go_simp
 have c3 : (((w.alloc (.cells #[.bool s, .slice a len cap, .int .i64 e, .bool s', .slice a' len' cap', .int .i64 e'] 27)).alloc (.cells #[.bool t, .slice b n k, .int .i64 g, .bool t', .slice b' n' k', .int .i64 g'] 27)).alloc (.cells #[.bool false, .slice none 0 0, .int .i64 0, .bool false, .slice none 0 0, .int .i64 0] 27)).cell? ⟨w.heap.size, 3, none⟩ = some (.bool s') := by go_simp
 have c4 : (((w.alloc (.cells #[.bool s, .slice a len cap, .int .i64 e, .bool s', .slice a' len' cap', .int .i64 e'] 27)).alloc (.cells #[.bool t, .slice b n k, .int .i64 g, .bool t', .slice b' n' k', .int .i64 g'] 27)).alloc (.cells #[.bool false, .slice none 0 0, .int .i64 0, .bool false, .slice none 0 0, .int .i64 0] 27)).cell? ⟨w.heap.size, 4, none⟩ = some (.slice a' len' cap') := by go_simp
 have c5 : (((w.alloc (.cells #[.bool s, .slice a len cap, .int .i64 e, .bool s', .slice a' len' cap', .int .i64 e'] 27)).alloc (.cells #[.bool t, .slice b n k, .int .i64 g, .bool t', .slice b' n' k', .int .i64 g'] 27)).alloc (.cells #[.bool false, .slice none 0 0, .int .i64 0, .bool false, .slice none 0 0, .int .i64 0] 27)).cell? ⟨w.heap.size, 5, none⟩ = some (.int .i64 e') := by go_simp
 have d0 : (((w.alloc (.cells #[.bool s, .slice a len cap, .int .i64 e, .bool s', .slice a' len' cap', .int .i64 e'] 27)).alloc (.cells #[.bool t, .slice b n k, .int .i64 g, .bool t', .slice b' n' k', .int .i64 g'] 27)).alloc (.cells #[.bool false, .slice none 0 0, .int .i64 0, .bool false, .slice none 0 0, .int .i64 0] 27)).cell? ⟨w.heap.size + 1, 0, none⟩ = some (.bool t) := by go_simp
 have d1 : (((w.alloc (.cells #[.bool s, .slice a len cap, .int .i64 e, .bool s', .slice a' len' cap', .int .i64 e'] 27)).alloc (.cells #[.bool t, .slice b n k, .int .i64 g, .bool t', .slice b' n' k', .int .i64 g'] 27)).alloc (.cells #[.bool false, .slice none 0 0, .int .i64 0, .bool false, .slice none 0 0, .int .i64 0] 27)).cell? ⟨w.heap.size + 1, 1, none⟩ = some (.slice b n k) := by go_simp
 have d2 : (((w.alloc (.cells #[.bool s, .slice a len cap, .int .i64 e, .bool s', .slice a' len' cap', .int .i64 e'] 27)).alloc (.cells #[.bool t, .slice b n k, .int .i64 g, .bool t', .slice b' n' k', .int .i64 g'] 27)).alloc (.cells #[.bool false, .slice none 0 0, .int .i64 0, .bool false, .slice none 0 0, .int .i64 0] 27)).cell? ⟨w.heap.size + 1, 2, none⟩ = some (.int .i64 g) := by go_simp
 have d3 : (((w.alloc (.cells #[.bool s, .slice a len cap, .int .i64 e, .bool s', .slice a' len' cap', .int .i64 e'] 27)).alloc (.cells #[.bool t, .slice b n k, .int .i64 g, .bool t', .slice b' n' k', .int .i64 g'] 27)).alloc (.cells #[.bool false, .slice none 0 0, .int .i64 0, .bool false, .slice none 0 0, .int .i64 0] 27)).cell? ⟨w.heap.size + 1, 3, none⟩ = some (.bool t') := by go_simp
 have d4 : (((w.alloc (.cells #[.bool s, .slice a len cap, .int .i64 e, .bool s', .slice a' len' cap', .int .i64 e'] 27)).alloc (.cells #[.bool t, .slice b n k, .int .i64 g, .bool t', .slice b' n' k', .int .i64 g'] 27)).alloc (.cells #[.bool false, .slice none 0 0, .int .i64 0, .bool false, .slice none 0 0, .int .i64 0] 27)).cell? ⟨w.heap.size + 1, 4, none⟩ = some (.slice b' n' k') := by go_simp
 have d5 : (((w.alloc (.cells #[.bool s, .slice a len cap, .int .i64 e, .bool s', .slice a' len' cap', .int .i64 e'] 27)).alloc (.cells #[.bool t, .slice b n k, .int .i64 g, .bool t', .slice b' n' k', .int .i64 g'] 27)).alloc (.cells #[.bool false, .slice none 0 0, .int .i64 0, .bool false, .slice none 0 0, .int .i64 0] 27)).cell? ⟨w.heap.size + 1, 5, none⟩ = some (.int .i64 g') := by go_simp
 have z0 : (((w.alloc (.cells #[.bool s, .slice a len cap, .int .i64 e, .bool s', .slice a' len' cap', .int .i64 e'] 27)).alloc (.cells #[.bool t, .slice b n k, .int .i64 g, .bool t', .slice b' n' k', .int .i64 g'] 27)).alloc (.cells #[.bool false, .slice none 0 0, .int .i64 0, .bool false, .slice none 0 0, .int .i64 0] 27)).cell? ⟨w.heap.size + 1 + 1, 0, none⟩ = some (.bool false) := by go_simp
 have f0 : (((w.alloc (.cells #[.bool s, .slice a len cap, .int .i64 e, .bool s', .slice a' len' cap', .int .i64 e'] 27)).alloc (.cells #[.bool t, .slice b n k, .int .i64 g, .bool t', .slice b' n' k', .int .i64 g'] 27)).alloc (.cells #[.bool false, .slice none 0 0, .int .i64 0, .bool false, .slice none 0 0, .int .i64 0] 27)).frozen? ⟨w.heap.size + 1 + 1, 0, none⟩ = false := by go_simp
 have z1 : (((w.alloc (.cells #[.bool s, .slice a len cap, .int .i64 e, .bool s', .slice a' len' cap', .int .i64 e'] 27)).alloc (.cells #[.bool t, .slice b n k, .int .i64 g, .bool t', .slice b' n' k', .int .i64 g'] 27)).alloc (.cells #[.bool false, .slice none 0 0, .int .i64 0, .bool false, .slice none 0 0, .int .i64 0] 27)).cell? ⟨w.heap.size + 1 + 1, 1, none⟩ = some (.slice none 0 0) := by go_simp
 have f1 : (((w.alloc (.cells #[.bool s, .slice a len cap, .int .i64 e, .bool s', .slice a' len' cap', .int .i64 e'] 27)).alloc (.cells #[.bool t, .slice b n k, .int .i64 g, .bool t', .slice b' n' k', .int .i64 g'] 27)).alloc (.cells #[.bool false, .slice none 0 0, .int .i64 0, .bool false, .slice none 0 0, .int .i64 0] 27)).frozen? ⟨w.heap.size + 1 + 1, 1, none⟩ = false := by go_simp
 have z2 : (((w.alloc (.cells #[.bool s, .slice a len cap, .int .i64 e, .bool s', .slice a' len' cap', .int .i64 e'] 27)).alloc (.cells #[.bool t, .slice b n k, .int .i64 g, .bool t', .slice b' n' k', .int .i64 g'] 27)).alloc (.cells #[.bool false, .slice none 0 0, .int .i64 0, .bool false, .slice none 0 0, .int .i64 0] 27)).cell? ⟨w.heap.size + 1 + 1, 2, none⟩ = some (.int .i64 0) := by go_simp
 have f2 : (((w.alloc (.cells #[.bool s, .slice a len cap, .int .i64 e, .bool s', .slice a' len' cap', .int .i64 e'] 27)).alloc (.cells #[.bool t, .slice b n k, .int .i64 g, .bool t', .slice b' n' k', .int .i64 g'] 27)).alloc (.cells #[.bool false, .slice none 0 0, .int .i64 0, .bool false, .slice none 0 0, .int .i64 0] 27)).frozen? ⟨w.heap.size + 1 + 1, 2, none⟩ = false := by go_simp
 have z3 : (((w.alloc (.cells #[.bool s, .slice a len cap, .int .i64 e, .bool s', .slice a' len' cap', .int .i64 e'] 27)).alloc (.cells #[.bool t, .slice b n k, .int .i64 g, .bool t', .slice b' n' k', .int .i64 g'] 27)).alloc (.cells #[.bool false, .slice none 0 0, .int .i64 0, .bool false, .slice none 0 0, .int .i64 0] 27)).cell? ⟨w.heap.size + 1 + 1, 3, none⟩ = some (.bool false) := by go_simp
 have f3 : (((w.alloc (.cells #[.bool s, .slice a len cap, .int .i64 e, .bool s', .slice a' len' cap', .int .i64 e'] 27)).alloc (.cells #[.bool t, .slice b n k, .int .i64 g, .bool t', .slice b' n' k', .int .i64 g'] 27)).alloc (.cells #[.bool false, .slice none 0 0, .int .i64 0, .bool false, .slice none 0 0, .int .i64 0] 27)).frozen? ⟨w.heap.size + 1 + 1, 3, none⟩ = false := by go_simp
 have z4 : (((w.alloc (.cells #[.bool s, .slice a len cap, .int .i64 e, .bool s', .slice a' len' cap', .int .i64 e'] 27)).alloc (.cells #[.bool t, .slice b n k, .int .i64 g, .bool t', .slice b' n' k', .int .i64 g'] 27)).alloc (.cells #[.bool false, .slice none 0 0, .int .i64 0, .bool false, .slice none 0 0, .int .i64 0] 27)).cell? ⟨w.heap.size + 1 + 1, 4, none⟩ = some (.slice none 0 0) := by go_simp
 have f4 : (((w.alloc (.cells #[.bool s, .slice a len cap, .int .i64 e, .bool s', .slice a' len' cap', .int .i64 e'] 27)).alloc (.cells #[.bool t, .slice b n k, .int .i64 g, .bool t', .slice b' n' k', .int .i64 g'] 27)).alloc (.cells #[.bool false, .slice none 0 0, .int .i64 0, .bool false, .slice none 0 0, .int .i64 0] 27)).frozen? ⟨w.heap.size + 1 + 1, 4, none⟩ = false := by go_simp
 have z5 : (((w.alloc (.cells #[.bool s, .slice a len cap, .int .i64 e, .bool s', .slice a' len' cap', .int .i64 e'] 27)).alloc (.cells #[.bool t, .slice b n k, .int .i64 g, .bool t', .slice b' n' k', .int .i64 g'] 27)).alloc (.cells #[.bool false, .slice none 0 0, .int .i64 0, .bool false, .slice none 0 0, .int .i64 0] 27)).cell? ⟨w.heap.size + 1 + 1, 5, none⟩ = some (.int .i64 0) := by go_simp
 have f5 : (((w.alloc (.cells #[.bool s, .slice a len cap, .int .i64 e, .bool s', .slice a' len' cap', .int .i64 e'] 27)).alloc (.cells #[.bool t, .slice b n k, .int .i64 g, .bool t', .slice b' n' k', .int .i64 g'] 27)).alloc (.cells #[.bool false, .slice none 0 0, .int .i64 0, .bool false, .slice none 0 0, .int .i64 0] 27)).frozen? ⟨w.heap.size + 1 + 1, 5, none⟩ = false := by go_simp
 clear h h' i i' hT hm hm' im im' hr hr' ir ir' hz hz'
 go_enter Tryz.func100, Tryz.ntmps100
 go_wp2_with fail
 generalize (((w.alloc (.cells #[.bool s, .slice a len cap, .int .i64 e, .bool s', .slice a' len' cap', .int .i64 e'] 27)).alloc (.cells #[.bool t, .slice b n k, .int .i64 g, .bool t', .slice b' n' k', .int .i64 g'] 27)).alloc (.cells #[.bool false, .slice none 0 0, .int .i64 0, .bool false, .slice none 0 0, .int .i64 0] 27)) = w0 at *
 have lw : Hid (_ ≤ _) := bA.size
 refine Calls.mono (H1.out _ hI iI hT0) ?_
 rintro r w1 ⟨v, rfl, ⟨al, nl, cl, rfl, -, ml, Ol⟩, bN⟩
 replace Ol := Ol.low lw.out
 clear lw H1
 have jl : Hid (nl ≤ 1024) := ml
 clear ml
 revert z0 f0 z1 f1 z2 f2 z3 f3 z4 f4 z5 f5; refine zf6 bN ?_; intro z0 f0 z1 f1 z2 f2 z3 f3 z4 f4 z5 f5
 revert c0 c1 c2 c3 c4 c5; refine cc6 bN ?_; intro c0 c1 c2 c3 c4 c5
 revert d0 d1 d2 d3 d4 d5; refine cc6 bN ?_; intro d0 d1 d2 d3 d4 d5
 replace hI := IsW.keep hI bN
 replace hJ := IsW.keep hJ bN
 replace iI := IsW.keep iI bN
 replace iJ := IsW.keep iJ bN
 replace hT0 := hT0.kept bN
 replace bA := nT bA bN
 clear bN
 have bB := below_one w1 (.cells #[.bool PL.1, .slice al nl cl, .int .i64 PL.2.2] 25)
 obtain ⟨p0, p1, p2⟩ := bx3 w1 (.bool PL.1) (.slice al nl cl) (.int .i64 PL.2.2) 25
 revert z0 f0 z1 f1 z2 f2 z3 f3 z4 f4 z5 f5; refine zf6 bB ?_; intro z0 f0 z1 f1 z2 f2 z3 f3 z4 f4 z5 f5
 revert c0 c1 c2 c3 c4 c5; refine cc6 bB ?_; intro c0 c1 c2 c3 c4 c5
 revert d0 d1 d2 d3 d4 d5; refine cc6 bB ?_; intro d0 d1 d2 d3 d4 d5
 replace hI := IsW.keep hI bB
 replace hJ := IsW.keep hJ bB
 replace iI := IsW.keep iI bB
 replace iJ := IsW.keep iJ bB
 replace Ol := Ol.keep bB
 replace hT0 := hT0.kept bB
 replace bA := nT bA bB
 clear bB
 go_wp2_with fail
 generalize (w1.alloc (.cells #[.bool PL.1, .slice al nl cl, .int .i64 PL.2.2] 25)) = w2 at *
 have lw : Hid (_ ≤ _) := bA.size
 refine Calls.mono (H2.out _ hJ iJ hT0) ?_
 rintro r w3 ⟨v, rfl, ⟨ah, nh, ch, rfl, -, mh, Oh⟩, bN⟩
 replace Oh := Oh.low lw.out
 clear lw H2
 have jh : Hid (nh ≤ 1024) := mh
 clear mh
 revert z0 f0 z1 f1 z2 f2 z3 f3 z4 f4 z5 f5; refine zf6 bN ?_; intro z0 f0 z1 f1 z2 f2 z3 f3 z4 f4 z5 f5
 revert p0 p1 p2 c0 c1 c2; refine cc6 bN ?_; intro p0 p1 p2 c0 c1 c2
 revert c3 c4 c5 d0 d1 d2; refine cc6 bN ?_; intro c3 c4 c5 d0 d1 d2
 revert d3 d4 d5; refine cc3 bN ?_; intro d3 d4 d5
 replace hI := IsW.keep hI bN
 replace hJ := IsW.keep hJ bN
 replace iI := IsW.keep iI bN
 replace iJ := IsW.keep iJ bN
 replace Ol := Ol.keep bN
 replace hT0 := hT0.kept bN
 replace bA := nT bA bN
 clear bN
 have bB := below_one w3 (.cells #[.bool PH.1, .slice ah nh ch, .int .i64 PH.2.2] 25)
 obtain ⟨q0, q1, q2⟩ := bx3 w3 (.bool PH.1) (.slice ah nh ch) (.int .i64 PH.2.2) 25
 revert z0 f0 z1 f1 z2 f2 z3 f3 z4 f4 z5 f5; refine zf6 bB ?_; intro z0 f0 z1 f1 z2 f2 z3 f3 z4 f4 z5 f5
 revert p0 p1 p2 c0 c1 c2; refine cc6 bB ?_; intro p0 p1 p2 c0 c1 c2
 revert c3 c4 c5 d0 d1 d2; refine cc6 bB ?_; intro c3 c4 c5 d0 d1 d2
 revert d3 d4 d5; refine cc3 bB ?_; intro d3 d4 d5
 replace hI := IsW.keep hI bB
 replace hJ := IsW.keep hJ bB
 replace iI := IsW.keep iI bB
 replace iJ := IsW.keep iJ bB
 replace Ol := Ol.keep bB
 replace Oh := Oh.keep bB
 replace hT0 := hT0.kept bB
 replace bA := nT bA bB
 clear bB
 go_wp2_with fail
 generalize (w3.alloc (.cells #[.bool PH.1, .slice ah nh ch, .int .i64 PH.2.2] 25)) = w4 at *
 have s6 := six_ofI z0 z1 z2 z3 z4 z5 (fun _ q => by cases q) (fun _ q => by cases q) (fun _ q => by cases q) (fun _ q => by cases q) (fun _ q => by cases q) (fun _ q => by cases q)
 exact bodyPost_ret (v := .tuple #[ivI PL.1 al nl cl PL.2.2 PH.1 ah nh ch PH.2.2, .int .i64 0]) (by simp [results, Tryz.results100, go_sem, z0, z1, z2, z3, z4, z5]) rfl ⟨al, nl, cl, ah, nh, ch, rfl, jl.out, jh.out, ownW_sixI Ol s6 _ _ _ _ _ _, ownW_sixI Oh s6 _ _ _ _ _ _, by repeat (first | (with_reducible exact bA) | (with_reducible refine Below.setCell ?_ (by simp; try omega) _))⟩
end Go.Proofs.YtahpdcbmekgkfaaGreatDoor

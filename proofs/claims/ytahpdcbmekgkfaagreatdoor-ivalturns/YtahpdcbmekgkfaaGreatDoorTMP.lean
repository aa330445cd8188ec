/- Package ival: adding as a way; it done, where both sums have room. Package ival: Add, where both sums have room. Package ival: a number told rounded down, marked if it is more. Package ival: crosswise, dividing, as function values. Package ival: marked: a number told rounded down, its last bit set if it is more. -/
import Derived.Laws.EntriesVeiled
import Derived.Test.YtahpdcbmekgkfaaGreatDoorCR
import Derived.Test.YtahpdcbmekgkfaaGreatDoorTMW
import Derived.Test.YtahpdcbmekgkfaaGreatDoorFX
import Derived.Test.YtahpdcbmekgkfaaGreatDoorCR2
import Derived.Test.YtahpdcbmekgkfaaGreatDoorAL
import Derived.Test.YtahpdcbmekgkfaaGreatDoorTMJ

namespace Go.Proofs.YtahpdcbmekgkfaaGreatDoor
open Go.RowKit
set_option maxHeartbeats 8000000
set_option maxRecDepth 100000
theorem rt_both {s : Bool} {m : Nat} {e : Int} {s' : Bool} {m' : Nat} {e' : Int} (q : rtI s m e s' m' e' = true) : rightB m e = true ∧ rightB m' e' = true := by
 unfold rtI at q
 simp only [Bool.and_eq_true] at q
 exact ⟨q.1.1, q.1.2⟩
theorem room_ok {p : Bool × Nat × Int} (h : roomE p = 0) : greatB (roomP p).2.1 = false ∧ -100000000 ≤ (roomP p).2.2 ∧ (roomP p).2.2 ≤ 100000000 := by
 by_cases q : roomB p = true
 ·have e : roomP p = p := by unfold roomP; rw [if_pos q]
  rw [e]
  unfold roomB inB at q
  simp only [Bool.and_eq_true, Bool.not_eq_true', decide_eq_true_eq] at q
  exact ⟨q.1, by omega, by omega⟩
 ·unfold roomE at h; rw [if_neg q] at h; exact absurd h (by decide)
theorem adding_calls (w : World) :
  Calls Tryz.prog 58 #[] w fun r w' => r = .returned (.agg #[.func (.func 99) #[] #[], .func (.func 100) #[] #[]]) ∧ Below w.heap.size w w' := by
 go_enter Tryz.func58, Tryz.ntmps58
 go_wp2_with fail
 refine bodyPost_ret (v := .agg #[.func (.func 99) #[] #[], .func (.func 100) #[] #[]]) (by simp [results, Tryz.results58, go_sem]) rfl ⟨rfl, ?_⟩
 first | exact below_one _ _ | (repeat (first | exact below_one _ _ | refine Below.setCell ?_ (by simp) _))
theorem addDone_ok (s : Bool) (a : Option Addr) (len cap : Nat) (xs : List Int) (e : Int) (s' : Bool) (a' : Option Addr) (len' cap' : Nat) (ys : List Int) (e' : Int) (t : Bool) (b : Option Addr) (n k : Nat) (us : List Int) (g : Int) (t' : Bool) (b' : Option Addr) (n' k' : Nat) (vs : List Int) (g' : Int) (p : Int) (w : World) (h : IsW w a len cap xs) (hm : len ≤ 17592186044000) (h' : IsW w a' len' cap' ys) (hm' : len' ≤ 17592186044000) (i : IsW w b n k us) (im : n ≤ 17592186044000) (i' : IsW w b' n' k' vs) (im' : n' ≤ 17592186044000) (hT : Tab w) (ha : rtI s (val xs) e s' (val ys) e' = true) (hb : rtI t (val us) g t' (val vs) g' = true) (hp : 1 ≤ p ∧ p ≤ 8192) (hz : roomE (sumD (formD s (val xs) e) (formD t (val us) g)) = 0) (hz' : roomE (sumD (formD s' (val ys) e') (formD t' (val vs) g')) = 0) :
  Calls Tryz.prog 59 #[.agg #[.func (.func 99) #[] #[], .func (.func 100) #[] #[]], ivI s a len cap e s' a' len' cap' e', ivI t b n k g t' b' n' k' g', .int .i64 p] w fun r w' => ∃ al nl cl ah nh ch, r = .returned (.tuple #[ivI (owL (roomP (sumD (formD s (val xs) e) (formD t (val us) g))).1 (roomP (sumD (formD s (val xs) e) (formD t (val us) g))).2.1 (roomP (sumD (formD s (val xs) e) (formD t (val us) g))).2.2 (roomP (sumD (formD s' (val ys) e') (formD t' (val vs) g'))).1 (roomP (sumD (formD s' (val ys) e') (formD t' (val vs) g'))).2.1 (roomP (sumD (formD s' (val ys) e') (formD t' (val vs) g'))).2.2 p).1 al nl cl (owL (roomP (sumD (formD s (val xs) e) (formD t (val us) g))).1 (roomP (sumD (formD s (val xs) e) (formD t (val us) g))).2.1 (roomP (sumD (formD s (val xs) e) (formD t (val us) g))).2.2 (roomP (sumD (formD s' (val ys) e') (formD t' (val vs) g'))).1 (roomP (sumD (formD s' (val ys) e') (formD t' (val vs) g'))).2.1 (roomP (sumD (formD s' (val ys) e') (formD t' (val vs) g'))).2.2 p).2.2 (owH (roomP (sumD (formD s (val xs) e) (formD t (val us) g))).1 (roomP (sumD (formD s (val xs) e) (formD t (val us) g))).2.1 (roomP (sumD (formD s (val xs) e) (formD t (val us) g))).2.2 (roomP (sumD (formD s' (val ys) e') (formD t' (val vs) g'))).1 (roomP (sumD (formD s' (val ys) e') (formD t' (val vs) g'))).2.1 (roomP (sumD (formD s' (val ys) e') (formD t' (val vs) g'))).2.2 p).1 ah nh ch (owH (roomP (sumD (formD s (val xs) e) (formD t (val us) g))).1 (roomP (sumD (formD s (val xs) e) (formD t (val us) g))).2.1 (roomP (sumD (formD s (val xs) e) (formD t (val us) g))).2.2 (roomP (sumD (formD s' (val ys) e') (formD t' (val vs) g'))).1 (roomP (sumD (formD s' (val ys) e') (formD t' (val vs) g'))).2.1 (roomP (sumD (formD s' (val ys) e') (formD t' (val vs) g'))).2.2 p).2.2, .int .i64 (owE (roomP (sumD (formD s (val xs) e) (formD t (val us) g))).1 (roomP (sumD (formD s (val xs) e) (formD t (val us) g))).2.1 (roomP (sumD (formD s (val xs) e) (formD t (val us) g))).2.2 (roomP (sumD (formD s' (val ys) e') (formD t' (val vs) g'))).1 (roomP (sumD (formD s' (val ys) e') (formD t' (val vs) g'))).2.1 (roomP (sumD (formD s' (val ys) e') (formD t' (val vs) g'))).2.2 p)]) ∧ nl ≤ 1024 ∧ nh ≤ 1024 ∧ OwnW w.heap.size w' al nl cl (wO (owL (roomP (sumD (formD s (val xs) e) (formD t (val us) g))).1 (roomP (sumD (formD s (val xs) e) (formD t (val us) g))).2.1 (roomP (sumD (formD s (val xs) e) (formD t (val us) g))).2.2 (roomP (sumD (formD s' (val ys) e') (formD t' (val vs) g'))).1 (roomP (sumD (formD s' (val ys) e') (formD t' (val vs) g'))).2.1 (roomP (sumD (formD s' (val ys) e') (formD t' (val vs) g'))).2.2 p).2.1) ∧ OwnW w.heap.size w' ah nh ch (wO (owH (roomP (sumD (formD s (val xs) e) (formD t (val us) g))).1 (roomP (sumD (formD s (val xs) e) (formD t (val us) g))).2.1 (roomP (sumD (formD s (val xs) e) (formD t (val us) g))).2.2 (roomP (sumD (formD s' (val ys) e') (formD t' (val vs) g'))).1 (roomP (sumD (formD s' (val ys) e') (formD t' (val vs) g'))).2.1 (roomP (sumD (formD s' (val ys) e') (formD t' (val vs) g'))).2.2 p).2.1) ∧ Below w.heap.size w w' := by
 have bA : Below w.heap.size w (((((w.alloc (.cells #[.func (.func 99) #[] #[], .func (.func 100) #[] #[]] 64)).alloc (.cells #[.bool s, .slice a len cap, .int .i64 e, .bool s', .slice a' len' cap', .int .i64 e'] 27)).alloc (.cells #[.bool t, .slice b n k, .int .i64 g, .bool t', .slice b' n' k', .int .i64 g'] 27)).alloc (.cells #[.bool false, .slice none 0 0, .int .i64 0, .bool false, .slice none 0 0, .int .i64 0] 27)).alloc (.cells #[.bool s, .slice a len cap, .int .i64 e, .bool s', .slice a' len' cap', .int .i64 e', .bool t, .slice b n k, .int .i64 g, .bool t', .slice b' n' k', .int .i64 g'] 27)) := nT (nT (nT (nT (below_one _ _) (below_one _ _)) (below_one _ _)) (below_one _ _)) (below_one _ _)
 have ra := rt_both ha
 have rb := rt_both hb
 have HR : Hid _ := iright2_calls s a len cap xs e s' a' len' cap' ys e' t b n k us g t' b' n' k' vs g' (w.heap.size + 1 + 1 + 1 + 1) (((((w.alloc (.cells #[.func (.func 99) #[] #[], .func (.func 100) #[] #[]] 64)).alloc (.cells #[.bool s, .slice a len cap, .int .i64 e, .bool s', .slice a' len' cap', .int .i64 e'] 27)).alloc (.cells #[.bool t, .slice b n k, .int .i64 g, .bool t', .slice b' n' k', .int .i64 g'] 27)).alloc (.cells #[.bool false, .slice none 0 0, .int .i64 0, .bool false, .slice none 0 0, .int .i64 0] 27)).alloc (.cells #[.bool s, .slice a len cap, .int .i64 e, .bool s', .slice a' len' cap', .int .i64 e', .bool t, .slice b n k, .int .i64 g, .bool t', .slice b' n' k', .int .i64 g'] 27)) (h.keep bA) hm (h'.keep bA) hm' (i.keep bA) im (i'.keep bA) im' (by go_simp) (by go_simp) (by go_simp) (by go_simp) (by go_simp) (by go_simp) (by go_simp) (by go_simp) (by go_simp) (by go_simp) (by go_simp) (by go_simp) (hT.kept bA)
 rw [ha, hb] at HR
 have HW : Hid _ := fun w' => workable_calls p w'
 have wk : (decide (1 ≤ p) && decide (p ≤ 8192)) = true := by simp [hp.1, hp.2]
 rw [wk] at HW
 have HN : Hid _ := fun w' => never_calls s a len cap e s' a' len' cap' e' t b n k g t' b' n' k' g' w'
 have HS : Hid _ := fun w' (q : IsW w' a len cap xs) (q' : IsW w' a' len' cap' ys) (r : IsW w' b n k us) (r' : IsW w' b' n' k' vs) tt => isums_ok s a len cap xs e s' a' len' cap' ys e' t b n k us g t' b' n' k' vs g' p w' q hm q' hm' r im r' im' tt ra.1 ra.2 rb.1 rb.2 hz hz'
 have gl := room_ok hz
 have gh := room_ok hz'
 generalize roomP (sumD (formD s (val xs) e) (formD t (val us) g)) = PL at *
 generalize roomP (sumD (formD s' (val ys) e') (formD t' (val vs) g')) = PH at *
 have HO : Hid _ := fun w' al nl cl ah nh ch (q : IsW w' al nl cl (wO PL.2.1)) (ql : nl ≤ 1024) (q' : IsW w' ah nh ch (wO PH.2.1)) (qh : nh ≤ 1024) tt => outward_calls PL.1 al nl cl (wO PL.2.1) PL.2.2 PH.1 ah nh ch (wO PH.2.1) PH.2.2 p w' q (by omega) (by rw [val_words]; exact gl.1) gl.2 q' (by omega) (by rw [val_words]; exact gh.1) gh.2 ⟨hp.1, by omega⟩ tt
 simp only [val_words] at HO
 generalize owE PL.1 PL.2.1 PL.2.2 PH.1 PH.2.1 PH.2.2 p = EE at *
 generalize owL PL.1 PL.2.1 PL.2.2 PH.1 PH.2.1 PH.2.2 p = LL at *
 generalize owH PL.1 PL.2.1 PL.2.2 PH.1 PH.2.1 PH.2.2 p = HH at *
 have hI := h.keep bA
 have hJ := h'.keep bA
 have iI := i.keep bA
 have iJ := i'.keep bA
 have hT0 := hT.kept bA
 have y0 : (((((w.alloc (.cells #[.func (.func 99) #[] #[], .func (.func 100) #[] #[]] 64)).alloc (.cells #[.bool s, .slice a len cap, .int .i64 e, .bool s', .slice a' len' cap', .int .i64 e'] 27)).alloc (.cells #[.bool t, .slice b n k, .int .i64 g, .bool t', .slice b' n' k', .int .i64 g'] 27)).alloc (.cells #[.bool false, .slice none 0 0, .int .i64 0, .bool false, .slice none 0 0, .int .i64 0] 27)).alloc (.cells #[.bool s, .slice a len cap, .int .i64 e, .bool s', .slice a' len' cap', .int .i64 e', .bool t, .slice b n k, .int .i64 g, .bool t', .slice b' n' k', .int .i64 g'] 27)).cell? ⟨w.heap.size, 0, none⟩ = some (.func (.func 99) #[] #[]) := by go_simp
 have y1 : (((((w.alloc (.cells #[.func (.func 99) #[] #[], .func (.func 100) #[] #[]] 64)).alloc (.cells #[.bool s, .slice a len cap, .int .i64 e, .bool s', .slice a' len' cap', .int .i64 e'] 27)).alloc (.cells #[.bool t, .slice b n k, .int .i64 g, .bool t', .slice b' n' k', .int .i64 g'] 27)).alloc (.cells #[.bool false, .slice none 0 0, .int .i64 0, .bool false, .slice none 0 0, .int .i64 0] 27)).alloc (.cells #[.bool s, .slice a len cap, .int .i64 e, .bool s', .slice a' len' cap', .int .i64 e', .bool t, .slice b n k, .int .i64 g, .bool t', .slice b' n' k', .int .i64 g'] 27)).cell? ⟨w.heap.size, 1, none⟩ = some (.func (.func 100) #[] #[]) := by go_simp
 have c0 : (((((w.alloc (.cells #[.func (.func 99) #[] #[], .func (.func 100) #[] #[]] 64)).alloc (.cells #[.bool s, .slice a len cap, .int .i64 e, .bool s', .slice a' len' cap', .int .i64 e'] 27)).alloc (.cells #[.bool t, .slice b n k, .int .i64 g, .bool t', .slice b' n' k', .int .i64 g'] 27)).alloc (.cells #[.bool false, .slice none 0 0, .int .i64 0, .bool false, .slice none 0 0, .int .i64 0] 27)).alloc (.cells #[.bool s, .slice a len cap, .int .i64 e, .bool s', .slice a' len' cap', .int .i64 e', .bool t, .slice b n k, .int .i64 g, .bool t', .slice b' n' k', .int .i64 g'] 27)).cell? ⟨w.heap.size + 1, 0, none⟩ = some (.bool s) := by go_simp
 have c1 : (((((w.alloc (.cells #[.func (.func 99) #[] #[], .func (.func 100) #[] #[]] 64)).alloc (.cells #[.bool s, .slice a len cap, .int .i64 e, .bool s', .slice a' len' cap', .int .i64 e'] 27)).alloc (.cells #[.bool t, .slice b n k, .int .i64 g, .bool t', .slice b' n' k', .int .i64 g'] 27)).alloc (.cells #[.bool false, .slice none 0 0, .int .i64 0, .bool false, .slice none 0 0, .int .i64 0] 27)).alloc (.cells #[.bool s, .slice a len cap, .int .i64 e, .bool s', .slice a' len' cap', .int .i64 e', .bool t, .slice b n k, .int .i64 g, .bool t', .slice b' n' k', .int .i64 g'] 27)).cell? ⟨w.heap.size + 1, 1, none⟩ = some (.slice a len cap) := by go_simp
 have c2 : (((((w.alloc (.cells #[.func (.func 99) #[] #[], .func (.func 100) #[] #[]] 64)).alloc (.cells #[.bool s, .slice a len cap, .int .i64 e, .bool s', .slice a' len' cap', .int .i64 e'] 27)).alloc (.cells #[.bool t, .slice b n k, .int .i64 g, .bool t', .slice b' n' k', .int .i64 g'] 27)).alloc (.cells #[.bool false, .slice none 0 0, .int .i64 0, .bool false, .slice none 0 0, .int .i64 0] 27)).alloc (.cells #[.bool s, .slice a len cap, .int .i64 e, .bool s', .slice a' len' cap', .int .i64 e', .bool t, .slice b n k, .int .i64 g, .bool t', .slice b' n' k', .int .i64 g'] 27)).cell? ⟨w.heap.size + 1, 2, none⟩ = some (.int .i64 e) := by go_simp
 have c3 : (((((w.alloc (.cells #[.func (.func 99) #[] #[], .func (.func 100) #[] #[]] 64)).alloc (.cells #[.bool s, .slice a len cap, .int .i64 e, .bool s', .slice a' len' cap', .int .i64 e'] 27)).alloc (.cells #[.bool t, .slice b n k, .int .i64 g, .bool t', .slice b' n' k', .int .i64 g'] 27)).alloc (.cells #[.bool false, .slice none 0 0, .int .i64 0, .bool false, .slice none 0 0, .int .i64 0] 27)).alloc (.cells #[.bool s, .slice a len cap, .int .i64 e, .bool s', .slice a' len' cap', .int .i64 e', .bool t, .slice b n k, .int .i64 g, .bool t', .slice b' n' k', .int .i64 g'] 27)).cell? ⟨w.heap.size + 1, 3, none⟩ = some (.bool s') := by go_simp
 have c4 : (((((w.alloc (.cells #[.func (.func 99) #[] #[], .func (.func 100) #[] #[]] 64)).alloc (.cells #[.bool s, .slice a len cap, .int .i64 e, .bool s', .slice a' len' cap', .int .i64 e'] 27)).alloc (.cells #[.bool t, .slice b n k, .int .i64 g, .bool t', .slice b' n' k', .int .i64 g'] 27)).alloc (.cells #[.bool false, .slice none 0 0, .int .i64 0, .bool false, .slice none 0 0, .int .i64 0] 27)).alloc (.cells #[.bool s, .slice a len cap, .int .i64 e, .bool s', .slice a' len' cap', .int .i64 e', .bool t, .slice b n k, .int .i64 g, .bool t', .slice b' n' k', .int .i64 g'] 27)).cell? ⟨w.heap.size + 1, 4, none⟩ = some (.slice a' len' cap') := by go_simp
 have c5 : (((((w.alloc (.cells #[.func (.func 99) #[] #[], .func (.func 100) #[] #[]] 64)).alloc (.cells #[.bool s, .slice a len cap, .int .i64 e, .bool s', .slice a' len' cap', .int .i64 e'] 27)).alloc (.cells #[.bool t, .slice b n k, .int .i64 g, .bool t', .slice b' n' k', .int .i64 g'] 27)).alloc (.cells #[.bool false, .slice none 0 0, .int .i64 0, .bool false, .slice none 0 0, .int .i64 0] 27)).alloc (.cells #[.bool s, .slice a len cap, .int .i64 e, .bool s', .slice a' len' cap', .int .i64 e', .bool t, .slice b n k, .int .i64 g, .bool t', .slice b' n' k', .int .i64 g'] 27)).cell? ⟨w.heap.size + 1, 5, none⟩ = some (.int .i64 e') := by go_simp
 have d0 : (((((w.alloc (.cells #[.func (.func 99) #[] #[], .func (.func 100) #[] #[]] 64)).alloc (.cells #[.bool s, .slice a len cap, .int .i64 e, .bool s', .slice a' len' cap', .int .i64 e'] 27)).alloc (.cells #[.bool t, .slice b n k, .int .i64 g, .bool t', .slice b' n' k', .int .i64 g'] 27)).alloc (.cells #[.bool false, .slice none 0 0, .int .i64 0, .bool false, .slice none 0 0, .int .i64 0] 27)).alloc (.cells #[.bool s, .slice a len cap, .int .i64 e, .bool s', .slice a' len' cap', .int .i64 e', .bool t, .slice b n k, .int .i64 g, .bool t', .slice b' n' k', .int .i64 g'] 27)).cell? ⟨w.heap.size + 1 + 1, 0, none⟩ = some (.bool t) := by go_simp
 have d1 : (((((w.alloc (.cells #[.func (.func 99) #[] #[], .func (.func 100) #[] #[]] 64)).alloc (.cells #[.bool s, .slice a len cap, .int .i64 e, .bool s', .slice a' len' cap', .int .i64 e'] 27)).alloc (.cells #[.bool t, .slice b n k, .int .i64 g, .bool t', .slice b' n' k', .int .i64 g'] 27)).alloc (.cells #[.bool false, .slice none 0 0, .int .i64 0, .bool false, .slice none 0 0, .int .i64 0] 27)).alloc (.cells #[.bool s, .slice a len cap, .int .i64 e, .bool s', .slice a' len' cap', .int .i64 e', .bool t, .slice b n k, .int .i64 g, .bool t', .slice b' n' k', .int .i64 g'] 27)).cell? ⟨w.heap.size + 1 + 1, 1, none⟩ = some (.slice b n k) := by go_simp
 have d2 : (((((w.alloc (.cells #[.func (.func 99) #[] #[], .func (.func 100) #[] #[]] 64)).alloc (.cells #[.bool s, .slice a len cap, .int .i64 e, .bool s', .slice a' len' cap', .int .i64 e'] 27)).alloc (.cells #[.bool t, .slice b n k, .int .i64 g, .bool t', .slice b' n' k', .int .i64 g'] 27)).alloc (.cells #[.bool false, .slice none 0 0, .int .i64 0, .bool false, .slice none 0 0, .int .i64 0] 27)).alloc (.cells #[.bool s, .slice a len cap, .int .i64 e, .bool s', .slice a' len' cap', .int .i64 e', .bool t, .slice b n k, .int .i64 g, .bool t', .slice b' n' k', .int .i64 g'] 27)).cell? ⟨w.heap.size + 1 + 1, 2, none⟩ = some (.int .i64 g) := by go_simp
 have d3 : (((((w.alloc (.cells #[.func (.func 99) #[] #[], .func (.func 100) #[] #[]] 64)).alloc (.cells #[.bool s, .slice a len cap, .int .i64 e, .bool s', .slice a' len' cap', .int .i64 e'] 27)).alloc (.cells #[.bool t, .slice b n k, .int .i64 g, .bool t', .slice b' n' k', .int .i64 g'] 27)).alloc (.cells #[.bool false, .slice none 0 0, .int .i64 0, .bool false, .slice none 0 0, .int .i64 0] 27)).alloc (.cells #[.bool s, .slice a len cap, .int .i64 e, .bool s', .slice a' len' cap', .int .i64 e', .bool t, .slice b n k, .int .i64 g, .bool t', .slice b' n' k', .int .i64 g'] 27)).cell? ⟨w.heap.size + 1 + 1, 3, none⟩ = some (.bool t') := by go_simp
 have d4 : (((((w.alloc (.cells #[.func (.func 99) #[] #[], .func (.func 100) #[] #[]] 64)).alloc (.cells #[.bool s, .slice a len cap, .int .i64 e, .bool s', .slice a' len' cap', .int .i64 e'] 27)).alloc (.cells #[.bool t, .slice b n k, .int .i64 g, .bool t', .slice b' n' k', .int .i64 g'] 27)).alloc (.cells #[.bool false, .slice none 0 0, .int .i64 0, .bool false, .slice none 0 0, .int .i64 0] 27)).alloc (.cells #[.bool s, .slice a len cap, .int .i64 e, .bool s', .slice a' len' cap', .int .i64 e', .bool t, .slice b n k, .int .i64 g, .bool t', .slice b' n' k', .int .i64 g'] 27)).cell? ⟨w.heap.size + 1 + 1, 4, none⟩ = some (.slice b' n' k') := by go_simp
 have d5 : (((((w.alloc (.cells #[.func (.func 99) #[] #[], .func (.func 100) #[] #[]] 64)).alloc (.cells #[.bool s, .slice a len cap, .int .i64 e, .bool s', .slice a' len' cap', .int .i64 e'] 27)).alloc (.cells #[.bool t, .slice b n k, .int .i64 g, .bool t', .slice b' n' k', .int .i64 g'] 27)).alloc (.cells #[.bool false, .slice none 0 0, .int .i64 0, .bool false, .slice none 0 0, .int .i64 0] 27)).alloc (.cells #[.bool s, .slice a len cap, .int .i64 e, .bool s', .slice a' len' cap', .int .i64 e', .bool t, .slice b n k, .int .i64 g, .bool t', .slice b' n' k', .int .i64 g'] 27)).cell? ⟨w.heap.size + 1 + 1, 5, none⟩ = some (.int .i64 g') := by go_simp
 have z0 : (((((w.alloc (.cells #[.func (.func 99) #[] #[], .func (.func 100) #[] #[]] 64)).alloc (.cells #[.bool s, .slice a len cap, .int .i64 e, .bool s', .slice a' len' cap', .int .i64 e'] 27)).alloc (.cells #[.bool t, .slice b n k, .int .i64 g, .bool t', .slice b' n' k', .int .i64 g'] 27)).alloc (.cells #[.bool false, .slice none 0 0, .int .i64 0, .bool false, .slice none 0 0, .int .i64 0] 27)).alloc (.cells #[.bool s, .slice a len cap, .int .i64 e, .bool s', .slice a' len' cap', .int .i64 e', .bool t, .slice b n k, .int .i64 g, .bool t', .slice b' n' k', .int .i64 g'] 27)).cell? ⟨w.heap.size + 1 + 1 + 1, 0, none⟩ = some (.bool false) := by go_simp
 have f0 : (((((w.alloc (.cells #[.func (.func 99) #[] #[], .func (.func 100) #[] #[]] 64)).alloc (.cells #[.bool s, .slice a len cap, .int .i64 e, .bool s', .slice a' len' cap', .int .i64 e'] 27)).alloc (.cells #[.bool t, .slice b n k, .int .i64 g, .bool t', .slice b' n' k', .int .i64 g'] 27)).alloc (.cells #[.bool false, .slice none 0 0, .int .i64 0, .bool false, .slice none 0 0, .int .i64 0] 27)).alloc (.cells #[.bool s, .slice a len cap, .int .i64 e, .bool s', .slice a' len' cap', .int .i64 e', .bool t, .slice b n k, .int .i64 g, .bool t', .slice b' n' k', .int .i64 g'] 27)).frozen? ⟨w.heap.size + 1 + 1 + 1, 0, none⟩ = false := by go_simp
 have z1 : (((((w.alloc (.cells #[.func (.func 99) #[] #[], .func (.func 100) #[] #[]] 64)).alloc (.cells #[.bool s, .slice a len cap, .int .i64 e, .bool s', .slice a' len' cap', .int .i64 e'] 27)).alloc (.cells #[.bool t, .slice b n k, .int .i64 g, .bool t', .slice b' n' k', .int .i64 g'] 27)).alloc (.cells #[.bool false, .slice none 0 0, .int .i64 0, .bool false, .slice none 0 0, .int .i64 0] 27)).alloc (.cells #[.bool s, .slice a len cap, .int .i64 e, .bool s', .slice a' len' cap', .int .i64 e', .bool t, .slice b n k, .int .i64 g, .bool t', .slice b' n' k', .int .i64 g'] 27)).cell? ⟨w.heap.size + 1 + 1 + 1, 1, none⟩ = some (.slice none 0 0) := by go_simp
 have f1 : (((((w.alloc (.cells #[.func (.func 99) #[] #[], .func (.func 100) #[] #[]] 64)).alloc (.cells #[.bool s, .slice a len cap, .int .i64 e, .bool s', .slice a' len' cap', .int .i64 e'] 27)).alloc (.cells #[.bool t, .slice b n k, .int .i64 g, .bool t', .slice b' n' k', .int .i64 g'] 27)).alloc (.cells #[.bool false, .slice none 0 0, .int .i64 0, .bool false, .slice none 0 0, .int .i64 0] 27)).alloc (.cells #[.bool s, .slice a len cap, .int .i64 e, .bool s', .slice a' len' cap', .int .i64 e', .bool t, .slice b n k, .int .i64 g, .bool t', .slice b' n' k', .int .i64 g'] 27)).frozen? ⟨w.heap.size + 1 + 1 + 1, 1, none⟩ = false := by go_simp
 have z2 : (((((w.alloc (.cells #[.func (.func 99) #[] #[], .func (.func 100) #[] #[]] 64)).alloc (.cells #[.bool s, .slice a len cap, .int .i64 e, .bool s', .slice a' len' cap', .int .i64 e'] 27)).alloc (.cells #[.bool t, .slice b n k, .int .i64 g, .bool t', .slice b' n' k', .int .i64 g'] 27)).alloc (.cells #[.bool false, .slice none 0 0, .int .i64 0, .bool false, .slice none 0 0, .int .i64 0] 27)).alloc (.cells #[.bool s, .slice a len cap, .int .i64 e, .bool s', .slice a' len' cap', .int .i64 e', .bool t, .slice b n k, .int .i64 g, .bool t', .slice b' n' k', .int .i64 g'] 27)).cell? ⟨w.heap.size + 1 + 1 + 1, 2, none⟩ = some (.int .i64 0) := by go_simp
 have f2 : (((((w.alloc (.cells #[.func (.func 99) #[] #[], .func (.func 100) #[] #[]] 64)).alloc (.cells #[.bool s, .slice a len cap, .int .i64 e, .bool s', .slice a' len' cap', .int .i64 e'] 27)).alloc (.cells #[.bool t, .slice b n k, .int .i64 g, .bool t', .slice b' n' k', .int .i64 g'] 27)).alloc (.cells #[.bool false, .slice none 0 0, .int .i64 0, .bool false, .slice none 0 0, .int .i64 0] 27)).alloc (.cells #[.bool s, .slice a len cap, .int .i64 e, .bool s', .slice a' len' cap', .int .i64 e', .bool t, .slice b n k, .int .i64 g, .bool t', .slice b' n' k', .int .i64 g'] 27)).frozen? ⟨w.heap.size + 1 + 1 + 1, 2, none⟩ = false := by go_simp
 have z3 : (((((w.alloc (.cells #[.func (.func 99) #[] #[], .func (.func 100) #[] #[]] 64)).alloc (.cells #[.bool s, .slice a len cap, .int .i64 e, .bool s', .slice a' len' cap', .int .i64 e'] 27)).alloc (.cells #[.bool t, .slice b n k, .int .i64 g, .bool t', .slice b' n' k', .int .i64 g'] 27)).alloc (.cells #[.bool false, .slice none 0 0, .int .i64 0, .bool false, .slice none 0 0, .int .i64 0] 27)).alloc (.cells #[.bool s, .slice a len cap, .int .i64 e, .bool s', .slice a' len' cap', .int .i64 e', .bool t, .slice b n k, .int .i64 g, .bool t', .slice b' n' k', .int .i64 g'] 27)).cell? ⟨w.heap.size + 1 + 1 + 1, 3, none⟩ = some (.bool false) := by go_simp
 have f3 : (((((w.alloc (.cells #[.func (.func 99) #[] #[], .func (.func 100) #[] #[]] 64)).alloc (.cells #[.bool s, .slice a len cap, .int .i64 e, .bool s', .slice a' len' cap', .int .i64 e'] 27)).alloc (.cells #[.bool t, .slice b n k, .int .i64 g, .bool t', .slice b' n' k', .int .i64 g'] 27)).alloc (.cells #[.bool false, .slice none 0 0, .int .i64 0, .bool false, .slice none 0 0, .int .i64 0] 27)).alloc (.cells #[.bool s, .slice a len cap, .int .i64 e, .bool s', .slice a' len' cap', .int .i64 e', .bool t, .slice b n k, .int .i64 g, .bool t', .slice b' n' k', .int .i64 g'] 27)).frozen? ⟨w.heap.size + 1 + 1 + 1, 3, none⟩ = false := by go_simp
 have z4 : (((((w.alloc (.cells #[.func (.func 99) #[] #[], .func (.func 100) #[] #[]] 64)).alloc (.cells #[.bool s, .slice a len cap, .int .i64 e, .bool s', .slice a' len' cap', .int .i64 e'] 27)).alloc (.cells #[.bool t, .slice b n k, .int .i64 g, .bool t', .slice b' n' k', .int .i64 g'] 27)).alloc (.cells #[.bool false, .slice none 0 0, .int .i64 0, .bool false, .slice none 0 0, .int .i64 0] 27)).alloc (.cells #[.bool s, .slice a len cap, .int .i64 e, .bool s', .slice a' len' cap', .int .i64 e', .bool t, .slice b n k, .int .i64 g, .bool t', .slice b' n' k', .int .i64 g'] 27)).cell? ⟨w.heap.size + 1 + 1 + 1, 4, none⟩ = some (.slice none 0 0) := by go_simp
 have f4 : (((((w.alloc (.cells #[.func (.func 99) #[] #[], .func (.func 100) #[] #[]] 64)).alloc (.cells #[.bool s, .slice a len cap, .int .i64 e, .bool s', .slice a' len' cap', .int .i64 e'] 27)).alloc (.cells #[.bool t, .slice b n k, .int .i64 g, .bool t', .slice b' n' k', .int .i64 g'] 27)).alloc (.cells #[.bool false, .slice none 0 0, .int .i64 0, .bool false, .slice none 0 0, .int .i64 0] 27)).alloc (.cells #[.bool s, .slice a len cap, .int .i64 e, .bool s', .slice a' len' cap', .int .i64 e', .bool t, .slice b n k, .int .i64 g, .bool t', .slice b' n' k', .int .i64 g'] 27)).frozen? ⟨w.heap.size + 1 + 1 + 1, 4, none⟩ = false := by go_simp
 have z5 : (((((w.alloc (.cells #[.func (.func 99) #[] #[], .func (.func 100) #[] #[]] 64)).alloc (.cells #[.bool s, .slice a len cap, .int .i64 e, .bool s', .slice a' len' cap', .int .i64 e'] 27)).alloc (.cells #[.bool t, .slice b n k, .int .i64 g, .bool t', .slice b' n' k', .int .i64 g'] 27)).alloc (.cells #[.bool false, .slice none 0 0, .int .i64 0, .bool false, .slice none 0 0, .int .i64 0] 27)).alloc (.cells #[.bool s, .slice a len cap, .int .i64 e, .bool s', .slice a' len' cap', .int .i64 e', .bool t, .slice b n k, .int .i64 g, .bool t', .slice b' n' k', .int .i64 g'] 27)).cell? ⟨w.heap.size + 1 + 1 + 1, 5, none⟩ = some (.int .i64 0) := by go_simp
 have f5 : (((((w.alloc (.cells #[.func (.func 99) #[] #[], .func (.func 100) #[] #[]] 64)).alloc (.cells #[.bool s, .slice a len cap, .int .i64 e, .bool s', .slice a' len' cap', .int .i64 e'] 27)).alloc (.cells #[.bool t, .slice b n k, .int .i64 g, .bool t', .slice b' n' k', .int .i64 g'] 27)).alloc (.cells #[.bool false, .slice none 0 0, .int .i64 0, .bool false, .slice none 0 0, .int .i64 0] 27)).alloc (.cells #[.bool s, .slice a len cap, .int .i64 e, .bool s', .slice a' len' cap', .int .i64 e', .bool t, .slice b n k, .int .i64 g, .bool t', .slice b' n' k', .int .i64 g'] 27)).frozen? ⟨w.heap.size + 1 + 1 + 1, 5, none⟩ = false := by go_simp
 clear h h' i i' hT hm hm' im im' ha hb ra rb hp hz hz' wk gl gh
 go_enter Tryz.func59, Tryz.ntmps59
 go_wp2_with fail
 generalize (((((w.alloc (.cells #[.func (.func 99) #[] #[], .func (.func 100) #[] #[]] 64)).alloc (.cells #[.bool s, .slice a len cap, .int .i64 e, .bool s', .slice a' len' cap', .int .i64 e'] 27)).alloc (.cells #[.bool t, .slice b n k, .int .i64 g, .bool t', .slice b' n' k', .int .i64 g'] 27)).alloc (.cells #[.bool false, .slice none 0 0, .int .i64 0, .bool false, .slice none 0 0, .int .i64 0] 27)).alloc (.cells #[.bool s, .slice a len cap, .int .i64 e, .bool s', .slice a' len' cap', .int .i64 e', .bool t, .slice b n k, .int .i64 g, .bool t', .slice b' n' k', .int .i64 g'] 27)) = w0 at *
 refine cM HR.out ?_
 rintro r w1 ⟨rfl, bN⟩
 revert z0 f0 z1 f1 z2 f2 z3 f3 z4 f4 z5 f5; refine zf6 bN ?_; intro z0 f0 z1 f1 z2 f2 z3 f3 z4 f4 z5 f5
 revert y0 y1 c0 c1 c2 c3; refine cc6 bN ?_; intro y0 y1 c0 c1 c2 c3
 revert c4 c5 d0 d1 d2 d3; refine cc6 bN ?_; intro c4 c5 d0 d1 d2 d3
 replace d4 := kC bN d4
 replace d5 := kC bN d5
 replace hI := IsW.keep hI bN
 replace hJ := IsW.keep hJ bN
 replace iI := IsW.keep iI bN
 replace iJ := IsW.keep iJ bN
 replace hT0 := hT0.kept bN
 replace bA := nT bA bN
 clear bN
 clear HR
 go_wp2_with fail
 refine cM (HW.out _) ?_
 rintro r _ ⟨rfl, rfl⟩
 clear HW
 go_wp2_with fail
 refine cM (HN.out _) ?_
 rintro r w2 ⟨rfl, bN⟩
 revert z0 f0 z1 f1 z2 f2 z3 f3 z4 f4 z5 f5; refine zf6 bN ?_; intro z0 f0 z1 f1 z2 f2 z3 f3 z4 f4 z5 f5
 revert y0 y1 c0 c1 c2 c3; refine cc6 bN ?_; intro y0 y1 c0 c1 c2 c3
 revert c4 c5 d0 d1 d2 d3; refine cc6 bN ?_; intro c4 c5 d0 d1 d2 d3
 replace d4 := kC bN d4
 replace d5 := kC bN d5
 replace hI := IsW.keep hI bN
 replace hJ := IsW.keep hJ bN
 replace iI := IsW.keep iI bN
 replace iJ := IsW.keep iJ bN
 replace hT0 := hT0.kept bN
 replace bA := nT bA bN
 clear bN
 clear HN
 go_wp2_with fail
 have lw : Hid (_ ≤ _) := bA.size
 refine cM (HS.out _ hI hJ iI iJ hT0) ?_
 rintro r w3 ⟨al, nl, cl, ah, nh, ch, rfl, ml, mh, Ol, Oh, bN⟩
 have jl : Hid (nl ≤ 1024) := ml
 have jh : Hid (nh ≤ 1024) := mh
 clear ml mh lw HS
 revert z0 f0 z1 f1 z2 f2 z3 f3 z4 f4 z5 f5; refine zf6 bN ?_; intro z0 f0 z1 f1 z2 f2 z3 f3 z4 f4 z5 f5
 revert y0 y1 c0 c1 c2 c3; refine cc6 bN ?_; intro y0 y1 c0 c1 c2 c3
 revert c4 c5 d0 d1 d2 d3; refine cc6 bN ?_; intro c4 c5 d0 d1 d2 d3
 replace d4 := kC bN d4
 replace d5 := kC bN d5
 replace hI := IsW.keep hI bN
 replace hJ := IsW.keep hJ bN
 replace iI := IsW.keep iI bN
 replace iJ := IsW.keep iJ bN
 replace hT0 := hT0.kept bN
 replace bA := nT bA bN
 clear bN
 have bB := below_one w3 (.cells #[.bool PL.1, .slice al nl cl, .int .i64 PL.2.2, .bool PH.1, .slice ah nh ch, .int .i64 PH.2.2] 27)
 obtain ⟨q0, q1, q2, q3, q4, q5⟩ := fX5 w3 PL al nl cl PH ah nh ch _ rfl
 revert z0 f0 z1 f1 z2 f2 z3 f3 z4 f4 z5 f5; refine zf6 bB ?_; intro z0 f0 z1 f1 z2 f2 z3 f3 z4 f4 z5 f5
 revert y0 y1 c0 c1 c2 c3; refine cc6 bB ?_; intro y0 y1 c0 c1 c2 c3
 revert c4 c5 d0 d1 d2 d3; refine cc6 bB ?_; intro c4 c5 d0 d1 d2 d3
 replace d4 := kC bB d4
 replace d5 := kC bB d5
 replace hI := IsW.keep hI bB
 replace hJ := IsW.keep hJ bB
 replace iI := IsW.keep iI bB
 replace iJ := IsW.keep iJ bB
 replace Ol := Ol.keep bB
 replace Oh := Oh.keep bB
 replace hT0 := hT0.kept bB
 replace bA := nT bA bB
 clear bB
 go_wp2_with fail
 generalize (w3.alloc (.cells #[.bool PL.1, .slice al nl cl, .int .i64 PL.2.2, .bool PH.1, .slice ah nh ch, .int .i64 PH.2.2] 27)) = w4 at *
 have lw : Hid (_ ≤ _) := bA.size
 refine cM (HO.out _ _ _ _ _ _ _ Ol.1 jl.out Oh.1 jh.out hT0) ?_
 rintro r w5 ⟨a1, n1, c1', a2, n2, c2', rfl, m1, m2, O1, O2, bN⟩
 replace O1 := O1.low lw.out
 replace O2 := O2.low lw.out
 have k1 : Hid (n1 ≤ 1024) := m1
 have k2 : Hid (n2 ≤ 1024) := m2
 clear m1 m2 lw HO
 revert z0 f0 z1 f1 z2 f2 z3 f3 z4 f4 z5 f5; refine zf6 bN ?_; intro z0 f0 z1 f1 z2 f2 z3 f3 z4 f4 z5 f5
 revert q0 q1 q2 q3 q4 q5; refine cc6 bN ?_; intro q0 q1 q2 q3 q4 q5
 revert y0 y1 c0 c1 c2 c3; refine cc6 bN ?_; intro y0 y1 c0 c1 c2 c3
 revert c4 c5 d0 d1 d2 d3; refine cc6 bN ?_; intro c4 c5 d0 d1 d2 d3
 replace d4 := kC bN d4
 replace d5 := kC bN d5
 replace hI := IsW.keep hI bN
 replace hJ := IsW.keep hJ bN
 replace iI := IsW.keep iI bN
 replace iJ := IsW.keep iJ bN
 replace Ol := Ol.keep bN
 replace Oh := Oh.keep bN
 replace hT0 := hT0.kept bN
 replace bA := nT bA bN
 clear bN
 go_wp2_with fail
 have s6 := six_ofI z0 z1 z2 z3 z4 z5 (fun _ q => by cases q) (fun _ q => by cases q) (fun _ q => by cases q) (fun _ q => by cases q) (fun _ q => by cases q) (fun _ q => by cases q)
 exact bodyPost_ret (v := .tuple #[ivI LL.1 a1 n1 c1' LL.2.2 HH.1 a2 n2 c2' HH.2.2, .int .i64 EE]) (by simp [results, Tryz.results59, go_sem, z0, z1, z2, z3, z4, z5]) rfl ⟨a1, n1, c1', a2, n2, c2', rfl, k1.out, k2.out, ownW_sixI O1 s6 _ _ _ _ _ _, ownW_sixI O2 s6 _ _ _ _ _ _, by repeat (first | (with_reducible exact bA) | (with_reducible refine Below.setCell ?_ (by simp; try omega) _))⟩
def AtI (q : Nat) (v0 v1 v2 v3 v4 v5 : Value) (w : World) : Prop := w.cell? ⟨q, 0, none⟩ = some v0 ∧ w.cell? ⟨q, 1, none⟩ = some v1 ∧ w.cell? ⟨q, 2, none⟩ = some v2 ∧ w.cell? ⟨q, 3, none⟩ = some v3 ∧ w.cell? ⟨q, 4, none⟩ = some v4 ∧ w.cell? ⟨q, 5, none⟩ = some v5
theorem AtI.keep {q : Nat} {v0 v1 v2 v3 v4 v5 : Value} {w w' : World} (h : AtI q v0 v1 v2 v3 v4 v5 w) (b : Below w.heap.size w w') : AtI q v0 v1 v2 v3 v4 v5 w' := ⟨kC b h.1, kC b h.2.1, kC b h.2.2.1, kC b h.2.2.2.1, kC b h.2.2.2.2.1, kC b h.2.2.2.2.2⟩
theorem AtI.set6 {q r : Nat} {v0 v1 v2 v3 v4 v5 : Value} {w : World} (h : AtI q v0 v1 v2 v3 v4 v5 w) (ne : q ≠ r) (u0 u1 u2 u3 u4 u5 : Value) : AtI q v0 v1 v2 v3 v4 v5 ((((((w.setCell ⟨r, 0, none⟩ u0).setCell ⟨r, 1, none⟩ u1).setCell ⟨r, 2, none⟩ u2).setCell ⟨r, 3, none⟩ u3).setCell ⟨r, 4, none⟩ u4).setCell ⟨r, 5, none⟩ u5) := by
 have key : ∀ (V : World) (o k : Nat) (u x : Value), V.cell? ⟨q, o, none⟩ = some x → (V.setCell ⟨r, k, none⟩ u).cell? ⟨q, o, none⟩ = some x := fun V o k u x q =>
  (World.cell?_setCell_other V _ _ _ (fun e => by have := congrArg Addr.block e; simp at this; omega)).trans q
 have all : ∀ (o : Nat) (x : Value), w.cell? ⟨q, o, none⟩ = some x → ((((((w.setCell ⟨r, 0, none⟩ u0).setCell ⟨r, 1, none⟩ u1).setCell ⟨r, 2, none⟩ u2).setCell ⟨r, 3, none⟩ u3).setCell ⟨r, 4, none⟩ u4).setCell ⟨r, 5, none⟩ u5).cell? ⟨q, o, none⟩ = some x := fun o x z => key _ _ _ _ _ (key _ _ _ _ _ (key _ _ _ _ _ (key _ _ _ _ _ (key _ _ _ _ _ (key _ _ _ _ _ z)))))
 exact ⟨all _ _ h.1, all _ _ h.2.1, all _ _ h.2.2.1, all _ _ h.2.2.2.1, all _ _ h.2.2.2.2.1, all _ _ h.2.2.2.2.2⟩
set_option maxRecDepth 100000 in
set_option maxHeartbeats 8000000 in
theorem iAdd_ok (s : Bool) (a : Option Addr) (len cap : Nat) (xs : List Int) (e : Int) (s' : Bool) (a' : Option Addr) (len' cap' : Nat) (ys : List Int) (e' : Int) (t : Bool) (b : Option Addr) (n k : Nat) (us : List Int) (g : Int) (t' : Bool) (b' : Option Addr) (n' k' : Nat) (vs : List Int) (g' : Int) (p : Int) (w : World) (h : IsW w a len cap xs) (hm : len ≤ 17592186044000) (h' : IsW w a' len' cap' ys) (hm' : len' ≤ 17592186044000) (i : IsW w b n k us) (im : n ≤ 17592186044000) (i' : IsW w b' n' k' vs) (im' : n' ≤ 17592186044000) (hT : Tab w) (ha : rtI s (val xs) e s' (val ys) e' = true) (hb : rtI t (val us) g t' (val vs) g' = true) (hp : 1 ≤ p ∧ p ≤ 8192) (hz : roomE (sumD (formD s (val xs) e) (formD t (val us) g)) = 0) (hz' : roomE (sumD (formD s' (val ys) e') (formD t' (val vs) g')) = 0) :
  Calls Tryz.prog 18 #[ivI s a len cap e s' a' len' cap' e', ivI t b n k g t' b' n' k' g', .int .i64 p] w fun r w' => ∃ al nl cl ah nh ch, r = .returned (.tuple #[ivI (owL (roomP (sumD (formD s (val xs) e) (formD t (val us) g))).1 (roomP (sumD (formD s (val xs) e) (formD t (val us) g))).2.1 (roomP (sumD (formD s (val xs) e) (formD t (val us) g))).2.2 (roomP (sumD (formD s' (val ys) e') (formD t' (val vs) g'))).1 (roomP (sumD (formD s' (val ys) e') (formD t' (val vs) g'))).2.1 (roomP (sumD (formD s' (val ys) e') (formD t' (val vs) g'))).2.2 p).1 al nl cl (owL (roomP (sumD (formD s (val xs) e) (formD t (val us) g))).1 (roomP (sumD (formD s (val xs) e) (formD t (val us) g))).2.1 (roomP (sumD (formD s (val xs) e) (formD t (val us) g))).2.2 (roomP (sumD (formD s' (val ys) e') (formD t' (val vs) g'))).1 (roomP (sumD (formD s' (val ys) e') (formD t' (val vs) g'))).2.1 (roomP (sumD (formD s' (val ys) e') (formD t' (val vs) g'))).2.2 p).2.2 (owH (roomP (sumD (formD s (val xs) e) (formD t (val us) g))).1 (roomP (sumD (formD s (val xs) e) (formD t (val us) g))).2.1 (roomP (sumD (formD s (val xs) e) (formD t (val us) g))).2.2 (roomP (sumD (formD s' (val ys) e') (formD t' (val vs) g'))).1 (roomP (sumD (formD s' (val ys) e') (formD t' (val vs) g'))).2.1 (roomP (sumD (formD s' (val ys) e') (formD t' (val vs) g'))).2.2 p).1 ah nh ch (owH (roomP (sumD (formD s (val xs) e) (formD t (val us) g))).1 (roomP (sumD (formD s (val xs) e) (formD t (val us) g))).2.1 (roomP (sumD (formD s (val xs) e) (formD t (val us) g))).2.2 (roomP (sumD (formD s' (val ys) e') (formD t' (val vs) g'))).1 (roomP (sumD (formD s' (val ys) e') (formD t' (val vs) g'))).2.1 (roomP (sumD (formD s' (val ys) e') (formD t' (val vs) g'))).2.2 p).2.2, .int .i64 (owE (roomP (sumD (formD s (val xs) e) (formD t (val us) g))).1 (roomP (sumD (formD s (val xs) e) (formD t (val us) g))).2.1 (roomP (sumD (formD s (val xs) e) (formD t (val us) g))).2.2 (roomP (sumD (formD s' (val ys) e') (formD t' (val vs) g'))).1 (roomP (sumD (formD s' (val ys) e') (formD t' (val vs) g'))).2.1 (roomP (sumD (formD s' (val ys) e') (formD t' (val vs) g'))).2.2 p)]) ∧ nl ≤ 1024 ∧ nh ≤ 1024 ∧ OwnW w.heap.size w' al nl cl (wO (owL (roomP (sumD (formD s (val xs) e) (formD t (val us) g))).1 (roomP (sumD (formD s (val xs) e) (formD t (val us) g))).2.1 (roomP (sumD (formD s (val xs) e) (formD t (val us) g))).2.2 (roomP (sumD (formD s' (val ys) e') (formD t' (val vs) g'))).1 (roomP (sumD (formD s' (val ys) e') (formD t' (val vs) g'))).2.1 (roomP (sumD (formD s' (val ys) e') (formD t' (val vs) g'))).2.2 p).2.1) ∧ OwnW w.heap.size w' ah nh ch (wO (owH (roomP (sumD (formD s (val xs) e) (formD t (val us) g))).1 (roomP (sumD (formD s (val xs) e) (formD t (val us) g))).2.1 (roomP (sumD (formD s (val xs) e) (formD t (val us) g))).2.2 (roomP (sumD (formD s' (val ys) e') (formD t' (val vs) g'))).1 (roomP (sumD (formD s' (val ys) e') (formD t' (val vs) g'))).2.1 (roomP (sumD (formD s' (val ys) e') (formD t' (val vs) g'))).2.2 p).2.1) ∧ Below w.heap.size w w' := by
 have bA : Below w.heap.size w (((w.alloc (.cells #[.bool s, .slice a len cap, .int .i64 e, .bool s', .slice a' len' cap', .int .i64 e'] 27)).alloc (.cells #[.bool t, .slice b n k, .int .i64 g, .bool t', .slice b' n' k', .int .i64 g'] 27)).alloc (.cells #[.bool false, .slice none 0 0, .int .i64 0, .bool false, .slice none 0 0, .int .i64 0] 27)) := nT (nT (below_one _ _) (below_one _ _)) (below_one _ _)
 have HD : Hid _ := fun w' (q : IsW w' a len cap xs) (q' : IsW w' a' len' cap' ys) (r : IsW w' b n k us) (r' : IsW w' b' n' k' vs) tt => addDone_ok s a len cap xs e s' a' len' cap' ys e' t b n k us g t' b' n' k' vs g' p w' q hm q' hm' r im r' im' tt ha hb hp hz hz'
 have HG : Hid _ := fun w' => adding_calls w'
 generalize owE (roomP (sumD (formD s (val xs) e) (formD t (val us) g))).1 (roomP (sumD (formD s (val xs) e) (formD t (val us) g))).2.1 (roomP (sumD (formD s (val xs) e) (formD t (val us) g))).2.2 (roomP (sumD (formD s' (val ys) e') (formD t' (val vs) g'))).1 (roomP (sumD (formD s' (val ys) e') (formD t' (val vs) g'))).2.1 (roomP (sumD (formD s' (val ys) e') (formD t' (val vs) g'))).2.2 p = EE at *
 generalize owL (roomP (sumD (formD s (val xs) e) (formD t (val us) g))).1 (roomP (sumD (formD s (val xs) e) (formD t (val us) g))).2.1 (roomP (sumD (formD s (val xs) e) (formD t (val us) g))).2.2 (roomP (sumD (formD s' (val ys) e') (formD t' (val vs) g'))).1 (roomP (sumD (formD s' (val ys) e') (formD t' (val vs) g'))).2.1 (roomP (sumD (formD s' (val ys) e') (formD t' (val vs) g'))).2.2 p = LL at *
 generalize owH (roomP (sumD (formD s (val xs) e) (formD t (val us) g))).1 (roomP (sumD (formD s (val xs) e) (formD t (val us) g))).2.1 (roomP (sumD (formD s (val xs) e) (formD t (val us) g))).2.2 (roomP (sumD (formD s' (val ys) e') (formD t' (val vs) g'))).1 (roomP (sumD (formD s' (val ys) e') (formD t' (val vs) g'))).2.1 (roomP (sumD (formD s' (val ys) e') (formD t' (val vs) g'))).2.2 p = HH at *
 have hI := h.keep bA
 have hJ := h'.keep bA
 have iI := i.keep bA
 have iJ := i'.keep bA
 have hT0 := hT.kept bA
 have AA : AtI w.heap.size (.bool s) (.slice a len cap) (.int .i64 e) (.bool s') (.slice a' len' cap') (.int .i64 e') (((w.alloc (.cells #[.bool s, .slice a len cap, .int .i64 e, .bool s', .slice a' len' cap', .int .i64 e'] 27)).alloc (.cells #[.bool t, .slice b n k, .int .i64 g, .bool t', .slice b' n' k', .int .i64 g'] 27)).alloc (.cells #[.bool false, .slice none 0 0, .int .i64 0, .bool false, .slice none 0 0, .int .i64 0] 27)) := ⟨by go_simp, by go_simp, by go_simp, by go_simp, by go_simp, by go_simp⟩
 have AB : AtI (w.heap.size + 1) (.bool t) (.slice b n k) (.int .i64 g) (.bool t') (.slice b' n' k') (.int .i64 g') (((w.alloc (.cells #[.bool s, .slice a len cap, .int .i64 e, .bool s', .slice a' len' cap', .int .i64 e'] 27)).alloc (.cells #[.bool t, .slice b n k, .int .i64 g, .bool t', .slice b' n' k', .int .i64 g'] 27)).alloc (.cells #[.bool false, .slice none 0 0, .int .i64 0, .bool false, .slice none 0 0, .int .i64 0] 27)) := ⟨by go_simp, by go_simp, by go_simp, by go_simp, by go_simp, by go_simp⟩
 have z0 : (((w.alloc (.cells #[.bool s, .slice a len cap, .int .i64 e, .bool s', .slice a' len' cap', .int .i64 e'] 27)).alloc (.cells #[.bool t, .slice b n k, .int .i64 g, .bool t', .slice b' n' k', .int .i64 g'] 27)).alloc (.cells #[.bool false, .slice none 0 0, .int .i64 0, .bool false, .slice none 0 0, .int .i64 0] 27)).cell? ⟨w.heap.size + 1 + 1, 0, none⟩ = some (.bool false) := by go_simp
 have f0 : (((w.alloc (.cells #[.bool s, .slice a len cap, .int .i64 e, .bool s', .slice a' len' cap', .int .i64 e'] 27)).alloc (.cells #[.bool t, .slice b n k, .int .i64 g, .bool t', .slice b' n' k', .int .i64 g'] 27)).alloc (.cells #[.bool false, .slice none 0 0, .int .i64 0, .bool false, .slice none 0 0, .int .i64 0] 27)).frozen? ⟨w.heap.size + 1 + 1, 0, none⟩ = false := by go_simp
 have z1 : (((w.alloc (.cells #[.bool s, .slice a len cap, .int .i64 e, .bool s', .slice a' len' cap', .int .i64 e'] 27)).alloc (.cells #[.bool t, .slice b n k, .int .i64 g, .bool t', .slice b' n' k', .int .i64 g'] 27)).alloc (.cells #[.bool false, .slice none 0 0, .int .i64 0, .bool false, .slice none 0 0, .int .i64 0] 27)).cell? ⟨w.heap.size + 1 + 1, 1, none⟩ = some (.slice none 0 0) := by go_simp
 have f1 : (((w.alloc (.cells #[.bool s, .slice a len cap, .int .i64 e, .bool s', .slice a' len' cap', .int .i64 e'] 27)).alloc (.cells #[.bool t, .slice b n k, .int .i64 g, .bool t', .slice b' n' k', .int .i64 g'] 27)).alloc (.cells #[.bool false, .slice none 0 0, .int .i64 0, .bool false, .slice none 0 0, .int .i64 0] 27)).frozen? ⟨w.heap.size + 1 + 1, 1, none⟩ = false := by go_simp
 have z2 : (((w.alloc (.cells #[.bool s, .slice a len cap, .int .i64 e, .bool s', .slice a' len' cap', .int .i64 e'] 27)).alloc (.cells #[.bool t, .slice b n k, .int .i64 g, .bool t', .slice b' n' k', .int .i64 g'] 27)).alloc (.cells #[.bool false, .slice none 0 0, .int .i64 0, .bool false, .slice none 0 0, .int .i64 0] 27)).cell? ⟨w.heap.size + 1 + 1, 2, none⟩ = some (.int .i64 0) := by go_simp
 have f2 : (((w.alloc (.cells #[.bool s, .slice a len cap, .int .i64 e, .bool s', .slice a' len' cap', .int .i64 e'] 27)).alloc (.cells #[.bool t, .slice b n k, .int .i64 g, .bool t', .slice b' n' k', .int .i64 g'] 27)).alloc (.cells #[.bool false, .slice none 0 0, .int .i64 0, .bool false, .slice none 0 0, .int .i64 0] 27)).frozen? ⟨w.heap.size + 1 + 1, 2, none⟩ = false := by go_simp
 have z3 : (((w.alloc (.cells #[.bool s, .slice a len cap, .int .i64 e, .bool s', .slice a' len' cap', .int .i64 e'] 27)).alloc (.cells #[.bool t, .slice b n k, .int .i64 g, .bool t', .slice b' n' k', .int .i64 g'] 27)).alloc (.cells #[.bool false, .slice none 0 0, .int .i64 0, .bool false, .slice none 0 0, .int .i64 0] 27)).cell? ⟨w.heap.size + 1 + 1, 3, none⟩ = some (.bool false) := by go_simp
 have f3 : (((w.alloc (.cells #[.bool s, .slice a len cap, .int .i64 e, .bool s', .slice a' len' cap', .int .i64 e'] 27)).alloc (.cells #[.bool t, .slice b n k, .int .i64 g, .bool t', .slice b' n' k', .int .i64 g'] 27)).alloc (.cells #[.bool false, .slice none 0 0, .int .i64 0, .bool false, .slice none 0 0, .int .i64 0] 27)).frozen? ⟨w.heap.size + 1 + 1, 3, none⟩ = false := by go_simp
 have z4 : (((w.alloc (.cells #[.bool s, .slice a len cap, .int .i64 e, .bool s', .slice a' len' cap', .int .i64 e'] 27)).alloc (.cells #[.bool t, .slice b n k, .int .i64 g, .bool t', .slice b' n' k', .int .i64 g'] 27)).alloc (.cells #[.bool false, .slice none 0 0, .int .i64 0, .bool false, .slice none 0 0, .int .i64 0] 27)).cell? ⟨w.heap.size + 1 + 1, 4, none⟩ = some (.slice none 0 0) := by go_simp
 have f4 : (((w.alloc (.cells #[.bool s, .slice a len cap, .int .i64 e, .bool s', .slice a' len' cap', .int .i64 e'] 27)).alloc (.cells #[.bool t, .slice b n k, .int .i64 g, .bool t', .slice b' n' k', .int .i64 g'] 27)).alloc (.cells #[.bool false, .slice none 0 0, .int .i64 0, .bool false, .slice none 0 0, .int .i64 0] 27)).frozen? ⟨w.heap.size + 1 + 1, 4, none⟩ = false := by go_simp
 have z5 : (((w.alloc (.cells #[.bool s, .slice a len cap, .int .i64 e, .bool s', .slice a' len' cap', .int .i64 e'] 27)).alloc (.cells #[.bool t, .slice b n k, .int .i64 g, .bool t', .slice b' n' k', .int .i64 g'] 27)).alloc (.cells #[.bool false, .slice none 0 0, .int .i64 0, .bool false, .slice none 0 0, .int .i64 0] 27)).cell? ⟨w.heap.size + 1 + 1, 5, none⟩ = some (.int .i64 0) := by go_simp
 have f5 : (((w.alloc (.cells #[.bool s, .slice a len cap, .int .i64 e, .bool s', .slice a' len' cap', .int .i64 e'] 27)).alloc (.cells #[.bool t, .slice b n k, .int .i64 g, .bool t', .slice b' n' k', .int .i64 g'] 27)).alloc (.cells #[.bool false, .slice none 0 0, .int .i64 0, .bool false, .slice none 0 0, .int .i64 0] 27)).frozen? ⟨w.heap.size + 1 + 1, 5, none⟩ = false := by go_simp
 clear h h' i i' hT hm hm' im im' ha hb hp hz hz'
 go_enter Tryz.func18, Tryz.ntmps18
 go_upto_region 1 with fail
 generalize (((w.alloc (.cells #[.bool s, .slice a len cap, .int .i64 e, .bool s', .slice a' len' cap', .int .i64 e'] 27)).alloc (.cells #[.bool t, .slice b n k, .int .i64 g, .bool t', .slice b' n' k', .int .i64 g'] 27)).alloc (.cells #[.bool false, .slice none 0 0, .int .i64 0, .bool false, .slice none 0 0, .int .i64 0] 27)) = w0 at *
 have bN : Below w0.heap.size w0 (World.drew w0) := (Below.refl _ _).drew
 refine wp_region_held (S := fun w' => AtI w.heap.size (.bool s) (.slice a len cap) (.int .i64 e) (.bool s') (.slice a' len' cap') (.int .i64 e') w' ∧ AtI (w.heap.size + 1) (.bool t) (.slice b n k) (.int .i64 g) (.bool t') (.slice b' n' k') (.int .i64 g') w') (by kernel_rfl) ?_
 change wpAnyH _ _ _ _ _ _ _ _ (World.drew w0)
 generalize World.drew w0 = wd at bN ⊢
 revert z0 f0 z1 f1 z2 f2 z3 f3 z4 f4 z5 f5; refine zf6 bN ?_; intro z0 f0 z1 f1 z2 f2 z3 f3 z4 f4 z5 f5
 replace hI := IsW.keep hI bN
 replace hJ := IsW.keep hJ bN
 replace iI := IsW.keep iI bN
 replace iJ := IsW.keep iJ bN
 replace AA := AA.keep bN
 replace AB := AB.keep bN
 replace hT0 := hT0.kept bN
 replace bA := nT bA bN
 clear bN
 refine tk 1 (ivI s a len cap e s' a' len' cap' e') rfl (by kernel_rfl) (fun _ _ _ h => h) (by rfl) ?y1 ⟨AA, AB⟩ ?r1
 case y1 => (intro ww hS; obtain ⟨⟨q0, q1, q2, q3, q4, q5⟩, -⟩ := hS; go_simp; try with_reducible rfl)
 try simp only [Act.put, sA]
 refine tk 2 (ivI t b n k g t' b' n' k' g') rfl (by kernel_rfl) (fun _ _ _ h => h) (by rfl) ?y2 ⟨AA, AB⟩ ?r2
 case y2 => (intro ww hS; obtain ⟨-, ⟨q0, q1, q2, q3, q4, q5⟩⟩ := hS; go_simp; try with_reducible rfl)
 try simp only [Act.put]
 refine tk 3 (.int .i64 p) rfl (by kernel_rfl) (fun _ _ _ h => h) (by rfl) ?y3 ⟨AA, AB⟩ ?r3
 case y3 => (intro ww hS; obtain ⟨-, -⟩ := hS; go_simp; try with_reducible rfl)
 try simp only [Act.put]
 refine rd1 0 (by kernel_rfl) rfl fun K hK => ?_
 go_simp
 refine Calls.mono (HG.out _) ?_
 rintro r w1 ⟨rfl, bN⟩
 revert z0 f0 z1 f1 z2 f2 z3 f3 z4 f4 z5 f5; refine zf6 bN ?_; intro z0 f0 z1 f1 z2 f2 z3 f3 z4 f4 z5 f5
 replace hI := IsW.keep hI bN
 replace hJ := IsW.keep hJ bN
 replace iI := IsW.keep iI bN
 replace iJ := IsW.keep iJ bN
 replace AA := AA.keep bN
 replace AB := AB.keep bN
 replace hT0 := hT0.kept bN
 replace bA := nT bA bN
 clear bN
 clear HG
 refine hK.out _ _ ⟨AA, AB⟩ (fun _ => ?_)
 clear hK K
 try simp only [Act.put, sA, sZ, sS]
 refine rd1 4 (by kernel_rfl) rfl fun K hK => ?_
 go_simp
 have lw : Hid (_ ≤ _) := bA.size
 refine Calls.mono (HD.out _ hI hJ iI iJ hT0) ?_
 rintro r w2 ⟨al, nl, cl, ah, nh, ch, rfl, ml, mh, Ol, Oh, bN⟩
 replace Ol := Ol.low lw.out
 replace Oh := Oh.low lw.out
 have jl : Hid (nl ≤ 1024) := ml
 have jh : Hid (nh ≤ 1024) := mh
 clear ml mh lw HD
 revert z0 f0 z1 f1 z2 f2 z3 f3 z4 f4 z5 f5; refine zf6 bN ?_; intro z0 f0 z1 f1 z2 f2 z3 f3 z4 f4 z5 f5
 replace hI := IsW.keep hI bN
 replace hJ := IsW.keep hJ bN
 replace iI := IsW.keep iI bN
 replace iJ := IsW.keep iJ bN
 replace AA := AA.keep bN
 replace AB := AB.keep bN
 replace hT0 := hT0.kept bN
 replace bA := nT bA bN
 clear bN
 refine hK.out _ _ ⟨AA, AB⟩ (fun _ => ?_)
 clear hK K
 try simp only [Act.put, sA, sZ, sS]
 refine tk 5 (ivI LL.1 al nl cl LL.2.2 HH.1 ah nh ch HH.2.2) rfl (by kernel_rfl) (fun _ _ _ h => h) (by rfl) ?y4 ⟨AA, AB⟩ ?r4
 case y4 => (intro ww hS; obtain ⟨-, -⟩ := hS; go_simp; try with_reducible rfl)
 try simp only [Act.put]
 refine tk 6 (.int .i64 EE) rfl (by kernel_rfl) (fun _ _ _ h => h) (by rfl) ?y5 ⟨AA, AB⟩ ?r5
 case y5 => (intro ww hS; obtain ⟨-, -⟩ := hS; go_simp; try with_reducible rfl)
 try simp only [Act.put]
 refine rd1 7 (by kernel_rfl) rfl fun K hK => ?_
 go_simp
 refine hK.out _ _ ⟨AA.set6 (by omega) _ _ _ _ _ _, AB.set6 (by omega) _ _ _ _ _ _⟩ (fun _ => ?_)
 clear hK K
 try simp only [Act.put, sA, sZ, sS]
 refine rd1 8 (by kernel_rfl) rfl fun K hK => ?_
 go_simp
 refine hK.out _ _ ⟨AA.set6 (by omega) _ _ _ _ _ _, AB.set6 (by omega) _ _ _ _ _ _⟩ (fun _ => ?_)
 clear hK K
 try simp only [Act.put, sA, sZ, sS]
 refine wpAnyH_done (by kernel_rfl) ?_ _
 go_wp2_with fail
 have s6 := six_ofI z0 z1 z2 z3 z4 z5 (fun _ q => by cases q) (fun _ q => by cases q) (fun _ q => by cases q) (fun _ q => by cases q) (fun _ q => by cases q) (fun _ q => by cases q)
 exact bodyPost_ret (v := .tuple #[ivI LL.1 al nl cl LL.2.2 HH.1 ah nh ch HH.2.2, .int .i64 EE]) (by simp [results, Tryz.results18, go_sem, z0, z1, z2, z3, z4, z5]) rfl ⟨al, nl, cl, ah, nh, ch, rfl, jl.out, jh.out, ownW_sixI Ol s6 _ _ _ _ _ _, ownW_sixI Oh s6 _ _ _ _ _ _, by repeat (first | (with_reducible exact bA) | (with_reducible refine Below.setCell ?_ (by simp; try omega) _))⟩
set_option maxHeartbeats 2000000
set_option maxRecDepth 100000
theorem marked_not (s : Bool) (a : Option Addr) (len cap : Nat) (xs : List Int) (e : Int) (B : Nat) (w : World) (h : OwnW B w a len cap xs) :
  Calls Tryz.prog 109 #[.bool s, .slice a len cap, .int .i64 e, .bool false] w fun r w' => r = .returned (dyV s a len cap e) ∧ OwnW B w' a len cap xs ∧ Below w.heap.size w w' := by
 go_enter Tryz.func109, Tryz.ntmps109
 go_wp2_with fail
 exact bodyPost_ret (v := dyV s a len cap e) (by simp [results, Tryz.results109, go_sem]) rfl ⟨rfl, h.keep (below_one _ _), below_one _ _⟩
theorem marked_yes (s : Bool) (g off : Nat) (len cap : Nat) (xs : List Int) (x0 : Int) (e : Int) (B : Nat) (w : World) (hB : B ≤ w.heap.size) (h : OwnW B w (some ⟨g, off, none⟩) len cap xs) (hl : 0 < len) (hx : (w.cell? ⟨g, off, none⟩) = some (.int .u64 x0)) (b0 : 0 ≤ bits BinOp.or .u64 x0 1) (b1 : bits BinOp.or .u64 x0 1 ≤ 18446744073709551615) :
  Calls Tryz.prog 109 #[.bool s, .slice (some ⟨g, off, none⟩) len cap, .int .i64 e, .bool true] w fun r w' => r = .returned (dyV s (some ⟨g, off, none⟩) len cap e) ∧ OwnW B w' (some ⟨g, off, none⟩) len cap (xs.set 0 (bits BinOp.or .u64 x0 1)) ∧ Below B w w' := by
 have bA : Below w.heap.size w (w.alloc (.cells #[.bool false, .slice none 0 0, .int .i64 0] 25)) := below_one _ _
 have hg := h.2 g off 0 rfl hl
 have ne : g < w.heap.size := World.block_lt_of_cell? _ _ hx
 have cx := kC bA hx
 have gx := kF bA hx hg.2
 have hO := (h.set (i := 0) hl b0 b1).keep (below_one _ (.cells #[.bool s, .slice (some ⟨g, off, none⟩) len cap, .int .i64 e] 25))
 have bB : Below B w (w.setCell ⟨g, off, none⟩ (.int .u64 (bits BinOp.or .u64 x0 1))) := (Below.refl _ _).setCell hg.1 _
 have hl1 : (0 : Int) < len := by omega
 have z0 : ((w.alloc (.cells #[.bool false, .slice none 0 0, .int .i64 0] 25)).setCell ⟨g, off, none⟩ (.int .u64 (bits BinOp.or .u64 x0 1))).cell? ⟨w.heap.size, 0, none⟩ = some (.bool false) := (World.cell?_setCell_other _ _ _ _ (fun q => by have := congrArg Addr.block q; simp at this; omega)).trans (by go_simp)
 have f0 : ((w.alloc (.cells #[.bool false, .slice none 0 0, .int .i64 0] 25)).setCell ⟨g, off, none⟩ (.int .u64 (bits BinOp.or .u64 x0 1))).frozen? ⟨w.heap.size, 0, none⟩ = false := by rw [World.frozen?_setCell]; go_simp
 have z1 : ((w.alloc (.cells #[.bool false, .slice none 0 0, .int .i64 0] 25)).setCell ⟨g, off, none⟩ (.int .u64 (bits BinOp.or .u64 x0 1))).cell? ⟨w.heap.size, 1, none⟩ = some (.slice none 0 0) := (World.cell?_setCell_other _ _ _ _ (fun q => by have := congrArg Addr.block q; simp at this; omega)).trans (by go_simp)
 have f1 : ((w.alloc (.cells #[.bool false, .slice none 0 0, .int .i64 0] 25)).setCell ⟨g, off, none⟩ (.int .u64 (bits BinOp.or .u64 x0 1))).frozen? ⟨w.heap.size, 1, none⟩ = false := by rw [World.frozen?_setCell]; go_simp
 have z2 : ((w.alloc (.cells #[.bool false, .slice none 0 0, .int .i64 0] 25)).setCell ⟨g, off, none⟩ (.int .u64 (bits BinOp.or .u64 x0 1))).cell? ⟨w.heap.size, 2, none⟩ = some (.int .i64 0) := (World.cell?_setCell_other _ _ _ _ (fun q => by have := congrArg Addr.block q; simp at this; omega)).trans (by go_simp)
 have f2 : ((w.alloc (.cells #[.bool false, .slice none 0 0, .int .i64 0] 25)).setCell ⟨g, off, none⟩ (.int .u64 (bits BinOp.or .u64 x0 1))).frozen? ⟨w.heap.size, 2, none⟩ = false := by rw [World.frozen?_setCell]; go_simp
 clear h hx hg
 go_enter Tryz.func109, Tryz.ntmps109
 go_wp2_with fail
 exact bodyPost_ret (v := dyV s (some ⟨g, off, none⟩) len cap e) (by simp [results, Tryz.results109, go_sem]) rfl ⟨rfl, hO, Below.alloc bB (by simpa using hB) _⟩
set_option maxHeartbeats 1000000
set_option maxRecDepth 100000
theorem crosswise_calls (w : World) :
  Calls Tryz.prog 102 #[.func (.func 105) #[] #[]] w fun r w' => r = .returned (.func (.func 131) #[] #[.pointer (some ⟨w.heap.size, 0, none⟩)]) ∧ w'.cell? ⟨w.heap.size, 0, none⟩ = some (.func (.func 105) #[] #[]) ∧ Below w.heap.size w w' := by
 have hmf : ∀ (fn : Fn) (first cap : Array Value) (w : World), (Instr.makeFunc fn first cap).run Tryz.prog w = .ok (.func fn first cap) w := fun _ _ _ _ => rfl
 go_enter Tryz.func102, Tryz.ntmps102
 go_wp2_with fail
 go_ret
 exact ⟨rfl, by go_simp, below_one _ _⟩
theorem dividing_calls (w : World) :
  Calls Tryz.prog 62 #[] w fun r w' => ∃ X, r = .returned (.agg #[.func (.func 104) #[] #[], .func (.func 131) #[] #[.pointer (some ⟨X, 0, none⟩)]]) ∧ w'.cell? ⟨X, 0, none⟩ = some (.func (.func 105) #[] #[]) ∧ w.heap.size ≤ X ∧ Below w.heap.size w w' := by
 have bA : Below w.heap.size w (w.alloc (.cells #[.nilFunc, .nilFunc] 64)) := below_one _ _
 have HC : Hid _ := crosswise_calls (w.alloc (.cells #[.nilFunc, .nilFunc] 64))
 have hs : (w.alloc (.cells #[.nilFunc, .nilFunc] 64)).heap.size = w.heap.size + 1 := by simp
 rw [hs] at HC
 have z0 : (w.alloc (.cells #[.nilFunc, .nilFunc] 64)).cell? ⟨w.heap.size, 0, none⟩ = some .nilFunc := by go_simp
 have z1 : (w.alloc (.cells #[.nilFunc, .nilFunc] 64)).cell? ⟨w.heap.size, 1, none⟩ = some .nilFunc := by go_simp
 have f0 : (w.alloc (.cells #[.nilFunc, .nilFunc] 64)).frozen? ⟨w.heap.size, 0, none⟩ = false := by go_simp
 have f1 : (w.alloc (.cells #[.nilFunc, .nilFunc] 64)).frozen? ⟨w.heap.size, 1, none⟩ = false := by go_simp
 go_enter Tryz.func62, Tryz.ntmps62
 go_wp2_with fail
 generalize (w.alloc (.cells #[.nilFunc, .nilFunc] 64)) = w0 at *
 refine Calls.mono HC.out ?_
 rintro r w1 ⟨rfl, cq, bN⟩
 rw [← hs] at bN
 replace f0 := kF bN z0 f0
 replace f1 := kF bN z1 f1
 replace z0 := kC bN z0
 replace z1 := kC bN z1
 replace bA := nT bA bN
 clear bN HC hs
 go_wp2_with fail
 refine bodyPost_ret (v := .agg #[.func (.func 104) #[] #[], .func (.func 131) #[] #[.pointer (some ⟨w.heap.size + 1, 0, none⟩)]]) (by simp [results, Tryz.results62, go_sem, z0, z1]) rfl ⟨w.heap.size + 1, rfl, ?_, by omega, ?_⟩
 ·exact (World.cell?_setCell_other _ _ _ _ (fun q => by have := congrArg Addr.block q; simp at this)).trans ((World.cell?_setCell_other _ _ _ _ (fun q => by have := congrArg Addr.block q; simp at this)).trans cq)
 ·repeat (first | (with_reducible exact bA) | (with_reducible refine Below.setCell ?_ (by simp) _))
theorem or_one (x : Int) (h0 : 0 ≤ x) (h1 : x ≤ 18446744073709551615) : bits .or .u64 x 1 = 2 * (x / 2) + 1 := by
 obtain ⟨n, rfl⟩ := Int.eq_ofNat_of_zero_le h0
 rw [u64_or _ _ h0 (by omega) (by omega) (by omega)]
 simp only [Int.reduceToNat, Int.toNat_natCast]
 have k : n ||| 1 = 2 * (n / 2) + 1 := by
  apply Nat.eq_of_testBit_eq
  intro i
  rw [Nat.testBit_or]
  cases i with
  | zero => simp [Nat.testBit_zero]
  | succ i =>
   rw [Nat.testBit_succ, Nat.testBit_succ, Nat.testBit_succ, show (1 : Nat) / 2 = 0 by decide, show (2 * (n / 2) + 1) / 2 = n / 2 by omega]
   simp
 rw [k]
 omega
theorem words_mark (m : Nat) (h : m ≠ 0) : (wO m).set 0 (2 * ((m % 18446744073709551616 : Nat) / 2 : Int) + 1) = wO (2 * (m / 2) + 1) := by
 rw [words_pos m h, words_pos (2 * (m / 2) + 1) (by omega)]
 simp only [sZ]
 congr 1
 ·omega
 ·congr 1
  omega
theorem marked_calls (s : Bool) (a : Option Addr) (len cap : Nat) (m : Nat) (e : Int) (more : Bool) (B : Nat) (w : World) (hB : B ≤ w.heap.size) (h : OwnW B w a len cap (wO m)) (hm : more = true → m ≠ 0) :
  Calls Tryz.prog 109 #[.bool s, .slice a len cap, .int .i64 e, .bool more] w fun r w' => r = .returned (dyV s a len cap e) ∧ OwnW B w' a len cap (wO (mkA m more)) ∧ Below B w w' := by
 cases more with
 | false =>
  refine Calls.mono (marked_not s a len cap (wO m) e B w h) ?_
  rintro r w' ⟨rfl, hO, b⟩
  exact ⟨rfl, hO, b.mono hB⟩
 | true =>
  have h0 := hm rfl
  have hl : 0 < len := by
   rw [h.1.1]
   rcases Nat.eq_zero_or_pos (wO m).length with q | q
   ·exact absurd ((words_nil m).1 (List.eq_nil_of_length_eq_zero q)) h0
   ·exact q
  obtain ⟨g, off, rfl, hb, hc⟩ := h.1.2.2.2 0 hl
  have hg : (wO m).getD 0 0 = ((m % 18446744073709551616 : Nat) : Int) := by rw [words_pos m h0]; rfl
  rw [hg, Nat.add_zero] at hc
  have ho := or_one ((m % 18446744073709551616 : Nat) : Int) (by omega) (by omega)
  refine Calls.mono (marked_yes s g off len cap (wO m) _ e B w hB h hl hc (by rw [ho]; omega) (by rw [ho]; omega)) ?_
  rintro r w' ⟨rfl, hO, b⟩
  rw [ho, words_mark m h0] at hO
  exact ⟨rfl, hO, b⟩
end Go.Proofs.YtahpdcbmekgkfaaGreatDoor

/- The document's Wide: what is refused; the low end the greater. The document's Wide: the high end the greater. -/
import Derived.Test.YtognliaoonkmiaaGreatDoorRC2
import Derived.Test.YtognliaoonkmiaaGreatDoorRDG

namespace Go.Proofs.YtognliaoonkmiaaGreatDoor
open Go.RowKit

theorem isW_set3 {w : World} {a : Option Addr} {n c r : Nat} {xs : List Int} (h : IsW w a n c xs) {b0 : Bool} {s1 : Option Addr} {s2 s3 : Nat} {z : Int} (k0 : w.cell? ⟨r, 0, none⟩ = some (.bool b0)) (k1 : w.cell? ⟨r, 1, none⟩ = some (.slice s1 s2 s3)) (k2 : w.cell? ⟨r, 2, none⟩ = some (.int .i64 z)) (u0 u1 u2 : Value) :
    IsW (((w.setCell ⟨r, 0, none⟩ u0).setCell ⟨r, 1, none⟩ u1).setCell ⟨r, 2, none⟩ u2) a n c xs :=
  isW_set1 (isW_set1 (isW_set1 h ⟨r, 0, none⟩ _ u0 k0 (fun _ q => by cases q)) ⟨r, 1, none⟩ _ u1 ((World.cell?_setCell_other _ _ _ _ (by simp)).trans k1) (fun _ q => by cases q)) ⟨r, 2, none⟩ _ u2 ((World.cell?_setCell_other _ _ _ _ (by simp)).trans ((World.cell?_setCell_other _ _ _ _ (by simp)).trans k2)) (fun _ q => by cases q)
theorem nil_is {L H : Bool × Nat × Int} {E k : Int} {w w' : World} (h : E = k ∧ L = (false, 0, 0) ∧ H = (false, 0, 0)) (hb : Below w.heap.size w w') : ∃ al nl cl ah nh ch, (Ending.returned (.tuple #[zIv, .int .i64 k])) = .returned (.tuple #[ivV L.1 al nl cl L.2.2 H.1 ah nh ch H.2.2, .int .i64 E]) ∧ nl ≤ 1024 ∧ nh ≤ 1024 ∧ IsW w' al nl cl (wordsOf L.2.1) ∧ IsW w' ah nh ch (wordsOf H.2.1) ∧ Below w.heap.size w w' := by
  obtain ⟨rfl, rfl, rfl⟩ := h
  exact ⟨.none, 0, 0, .none, 0, 0, rfl, by decide, by decide, by rw [words_zero]; exact (ownW_nil 0 _).1, by rw [words_zero]; exact (ownW_nil 0 _).1, hb⟩

set_option maxRecDepth 100000 in
set_option maxHeartbeats 4000000 in
theorem qwide_bad (s : Bool) (a : Option Addr) (len cap : Nat) (xs : List Int) (e : Int) (s' : Bool) (a' : Option Addr) (len' cap' : Nat) (ys : List Int) (e' : Int) (p : Int) (w : World) (h : IsW w a len cap xs) (hm : len ≤ 17592186044000) (h' : IsW w a' len' cap' ys) (hm' : len' ≤ 17592186044000) (hq : ¬ (rtB s (val xs) e s' (val ys) e' = true ∧ 0 ≤ p ∧ p ≤ 2048)) :
    Calls Tryz.prog 8 #[ivV s a len cap e s' a' len' cap' e', .int .i64 p] w fun r w' => ∃ al nl cl ah nh ch, r = .returned (.tuple #[ivV (wdL s (val xs) e s' (val ys) e' p).1 al nl cl (wdL s (val xs) e s' (val ys) e' p).2.2 (wdH s (val xs) e s' (val ys) e' p).1 ah nh ch (wdH s (val xs) e s' (val ys) e' p).2.2, .int .i64 (wdE s (val xs) e s' (val ys) e' p)]) ∧ nl ≤ 1024 ∧ nh ≤ 1024 ∧ IsW w' al nl cl (wordsOf (wdL s (val xs) e s' (val ys) e' p).2.1) ∧ IsW w' ah nh ch (wordsOf (wdH s (val xs) e s' (val ys) e' p).2.1) ∧ Below w.heap.size w w' := by
  have HO : Hid _ := wide_out hq
  have HR : Hid _ := fun w' (g : IsW w' a len cap xs) (g' : IsW w' a' len' cap' ys) => qwrong_calls s a len cap xs e s' a' len' cap' ys e' w' g hm g' hm'
  have HE : Hid (∀ b, rtB s (val xs) e s' (val ys) e' = b → dcE s (val xs) e s' (val ys) e' = if b = true then 0 else 2) := fun b q => by unfold dcE; rw [q]
  generalize wdE s (val xs) e s' (val ys) e' p = EE at *
  generalize wdL s (val xs) e s' (val ys) e' p = LL at *
  generalize wdH s (val xs) e s' (val ys) e' p = HH at *
  generalize dcE s (val xs) e s' (val ys) e' = de at *
  generalize rtB s (val xs) e s' (val ys) e' = rr at *
  obtain ⟨bA, c0, c1, c2, c3, c4, c5, z0, z1, z2, z3, z4, z5, f0, f1, f2, f3, f4, f5⟩ := wide0 s a len cap e s' a' len' cap' e' w
  have hI := h.keep bA
  have hJ := h'.keep bA
  clear h h'
  go_enter Tryz.func8, Tryz.ntmps8
  go_wp2_with fail
  generalize ((w.alloc (.cells #[.bool s, .slice a len cap, .int .i64 e, .bool s', .slice a' len' cap', .int .i64 e'] 27)).alloc (.cells #[.bool false, .slice none 0 0, .int .i64 0, .bool false, .slice none 0 0, .int .i64 0] 27)) = w0 at *
  refine Calls.mono (HR.out _ hI hJ) ?_
  rintro r w1 ⟨rfl, bN⟩
  replace f0 := kF bN z0 f0
  replace f1 := kF bN z1 f1
  replace f2 := kF bN z2 f2
  replace f3 := kF bN z3 f3
  replace f4 := kF bN z4 f4
  replace f5 := kF bN z5 f5
  replace c0 := kC bN c0
  replace c1 := kC bN c1
  replace c2 := kC bN c2
  replace c3 := kC bN c3
  replace c4 := kC bN c4
  replace c5 := kC bN c5
  replace z0 := kC bN z0
  replace z1 := kC bN z1
  replace z2 := kC bN z2
  replace z3 := kC bN z3
  replace z4 := kC bN z4
  replace z5 := kC bN z5
  replace hI := IsW.keep hI bN
  replace hJ := IsW.keep hJ bN
  replace bA := nT bA bN
  clear bN
  cases rr
  · have e1 : de = 2 := HE.out _ rfl
    subst e1
    go_wp2_with fail
    exact bodyPost_ret (v := .tuple #[zIv, .int .i64 2]) (by simp [results, Tryz.results8, go_sem, zIv, z0, z1, z2, z3, z4, z5]) rfl (nil_is (HO.out) (by repeat (first | (with_reducible exact bA) | (with_reducible refine Below.setCell ?_ (by simp) _))))
  · have e1 : de = 0 := HE.out _ rfl
    subst e1
    by_cases p1 : p < 0
    · go_wp2_with fail
      exact bodyPost_ret (v := .tuple #[zIv, .int .i64 2]) (by simp [results, Tryz.results8, go_sem, zIv, z0, z1, z2, z3, z4, z5]) rfl (nil_is (HO.out) (by repeat (first | (with_reducible exact bA) | (with_reducible refine Below.setCell ?_ (by simp) _))))
    · have p2 : 2048 < p := by
        have q1 : ¬ (0 ≤ p ∧ p ≤ 2048) := fun q => hq ⟨rfl, q⟩
        omega
      clear hq
      go_wp2_with fail
      exact bodyPost_ret (v := .tuple #[zIv, .int .i64 2]) (by simp [results, Tryz.results8, go_sem, zIv, z0, z1, z2, z3, z4, z5]) rfl (nil_is (HO.out) (by repeat (first | (with_reducible exact bA) | (with_reducible refine Below.setCell ?_ (by simp) _))))

set_option maxRecDepth 100000 in
set_option maxHeartbeats 4000000 in
theorem qwide_l (s : Bool) (a : Option Addr) (len cap : Nat) (xs : List Int) (e : Int) (s' : Bool) (a' : Option Addr) (len' cap' : Nat) (ys : List Int) (e' : Int) (p : Int) (w : World) (h : IsW w a len cap xs) (hm : len ≤ 17592186044000) (h' : IsW w a' len' cap' ys) (hm' : len' ≤ 17592186044000) (hr : rtB s (val xs) e s' (val ys) e' = true) (hp : 0 ≤ p ∧ p ≤ 2048) (hc : 0 < cmpD (formD false (val xs) e) (formD false (val ys) e')) :
    Calls Tryz.prog 8 #[ivV s a len cap e s' a' len' cap' e', .int .i64 p] w fun r w' => ∃ al nl cl ah nh ch, r = .returned (.tuple #[ivV (wdL s (val xs) e s' (val ys) e' p).1 al nl cl (wdL s (val xs) e s' (val ys) e' p).2.2 (wdH s (val xs) e s' (val ys) e' p).1 ah nh ch (wdH s (val xs) e s' (val ys) e' p).2.2, .int .i64 (wdE s (val xs) e s' (val ys) e' p)]) ∧ nl ≤ 1024 ∧ nh ≤ 1024 ∧ IsW w' al nl cl (wordsOf (wdL s (val xs) e s' (val ys) e' p).2.1) ∧ IsW w' ah nh ch (wordsOf (wdH s (val xs) e s' (val ys) e' p).2.1) ∧ Below w.heap.size w w' := by
  have HR : Hid _ := fun w' (g : IsW w' a len cap xs) (g' : IsW w' a' len' cap' ys) => qwrong_calls s a len cap xs e s' a' len' cap' ys e' w' g hm g' hm'
  obtain ⟨r1, r2, hc0⟩ := rt_open hr
  rw [show dcE s (val xs) e s' (val ys) e' = 0 by unfold dcE; rw [hr]; rfl] at HR
  have b1 := (rightB_yes r1).2
  have b2 := (rightB_yes r2).2
  have g1 := right_blen r1
  have g2 := right_blen r2
  have hp2 : ¬ p < 0 := by omega
  have hp3 : ¬ 2048 < p := by omega
  have v1 : IntKind.i64.wrap (e' - p) = e' - p := by rw [IntKind.wrap_i64]; omega
  have v2 : IntKind.i64.wrap (e - p) = e - p := by rw [IntKind.wrap_i64]; omega
  have HO : Hid _ := fun w' (g : IsW w' a len cap xs) (g' : IsW w' a' len' cap' ys) => qOrder_calls false a len cap xs e false a' len' cap' ys e' w' g hm g' hm' (by omega) (by omega) (by omega) (by omega)
  have HL : Hid _ := fun w' (g : IsW w' a len cap xs) => nLen_calls a len cap xs w' g (by omega)
  have eM : gM (val xs) e (val ys) e' = val xs := by unfold gM; rw [if_pos hc]
  have eX : gX (val xs) e (val ys) e' = e := by unfold gX; rw [if_pos hc]
  have HZ : Hid ((blen (val xs) : Int) = 0 → wdE s (val xs) e s' (val ys) e' p = 0 ∧ wdL s (val xs) e s' (val ys) e' p = (false, 0, 0) ∧ wdH s (val xs) e s' (val ys) e' p = (false, 0, 0)) := fun q => wide_zero hr hp (by rw [eM]; exact (blen_nil _).1 (by omega))
  have HS : Hid (¬ (blen (val xs) : Int) = 0 → (rightB (gL s (val xs) e (val ys) e' p).2.1 (gL s (val xs) e (val ys) e' p).2.2 = true → rightB (gH (val xs) e s' (val ys) e' p).2.1 (gH (val xs) e s' (val ys) e' p).2.2 = true → wdE s (val xs) e s' (val ys) e' p = 0 ∧ wdL s (val xs) e s' (val ys) e' p = gL s (val xs) e (val ys) e' p ∧ wdH s (val xs) e s' (val ys) e' p = gH (val xs) e s' (val ys) e' p) ∧ (rightB (gL s (val xs) e (val ys) e' p).2.1 (gL s (val xs) e (val ys) e' p).2.2 = false ∨ rightB (gH (val xs) e s' (val ys) e' p).2.1 (gH (val xs) e s' (val ys) e' p).2.2 = false → wdE s (val xs) e s' (val ys) e' p = 3 ∧ wdL s (val xs) e s' (val ys) e' p = (false, 0, 0) ∧ wdH s (val xs) e s' (val ys) e' p = (false, 0, 0))) := fun q => wide_some hr hp (by rw [eM]; intro z; rw [z, blen_zero] at q; exact q rfl)
  have eL : sumD (formD s (val xs) e) (formD (!false) (val xs) (e - p)) = gL s (val xs) e (val ys) e' p := by unfold gL; rw [eM, eX, ← form_turn]
  have eH : sumD (formD s' (val ys) e') (formD false (val xs) (e - p)) = gH (val xs) e s' (val ys) e' p := by unfold gH; rw [eM, eX]
  have fb : ∀ t, blen (formD t (val xs) (e - p)).2.1 ≤ 10000000 := fun t => Nat.le_trans (blen_mono (form_amount_le _ _ _)) (by omega)
  have fx : ∀ t, -20000000 ≤ (formD t (val xs) (e - p)).2.2 ∧ (formD t (val xs) (e - p)).2.2 ≤ 20000000 := fun t => form_expb _ _ _ (by omega) (by omega)
  have nL := sumlen (formD s (val xs) e) (formD (!false) (val xs) (e - p)) (by have := form_blen s r1; omega) (fb _) (form_rng s r1) (fx _)
  have nH := sumlen (formD s' (val ys) e') (formD false (val xs) (e - p)) (by have := form_blen s' r2; omega) (fb _) (form_rng s' r2) (fx _)
  have HLe : Hid _ := fun w' (g : IsW w' a len cap xs) (g' : IsW w' a len cap xs) => qLess_calls s a len cap xs e false a len cap xs (e - p) w' g hm g' hm (by omega) (by omega) (by omega) (by omega)
  have HPl : Hid _ := fun w' (g : IsW w' a' len' cap' ys) (g' : IsW w' a len cap xs) => qPlus_calls s' a' len' cap' ys e' false a len cap xs (e - p) w' g hm' g' hm (by omega) (by omega) (by omega) (by omega)
  rw [eL] at HLe nL
  rw [eH] at HPl nH
  have NL : Hid _ := nL
  have NH : Hid _ := nH
  have HR0 : ∀ (P : Bool × Nat × Int) a n c w', IsW w' a n c (wordsOf P.2.1) → n ≤ 2000001 → Calls Tryz.prog 32 #[dyV P.1 a n c P.2.2] w' fun r w'' => r = .returned (.bool (rightB P.2.1 P.2.2)) ∧ Below w'.heap.size w' w'' := fun P a n c w' g q => by
    have := qRight_calls P.1 a n c (wordsOf P.2.1) P.2.2 w' g (by omega)
    rw [val_words] at this
    exact this
  have HR1 : Hid _ := HR0 (gL s (val xs) e (val ys) e' p)
  have HR2 : Hid _ := HR0 (gH (val xs) e s' (val ys) e' p)
  have GLn : Hid (rightB (gL s (val xs) e (val ys) e' p).2.1 (gL s (val xs) e (val ys) e' p).2.2 = true → (wordsOf (gL s (val xs) e (val ys) e' p).2.1).length ≤ 1024) := fun q => (great_len _).1 (rightB_yes q).1
  have GHn : Hid (rightB (gH (val xs) e s' (val ys) e' p).2.1 (gH (val xs) e s' (val ys) e' p).2.2 = true → (wordsOf (gH (val xs) e s' (val ys) e' p).2.1).length ≤ 1024) := fun q => (great_len _).1 (rightB_yes q).1
  clear eL eH fb fx nL nH HR0 eM eX hr hc0 r1 r2 b1 b2 g1 g2
  generalize wdE s (val xs) e s' (val ys) e' p = EE at *
  generalize wdL s (val xs) e s' (val ys) e' p = LL at *
  generalize wdH s (val xs) e s' (val ys) e' p = HH at *
  generalize rightB (gL s (val xs) e (val ys) e' p).2.1 (gL s (val xs) e (val ys) e' p).2.2 = rl at *
  generalize rightB (gH (val xs) e s' (val ys) e' p).2.1 (gH (val xs) e s' (val ys) e' p).2.2 = rh at *
  generalize gL s (val xs) e (val ys) e' p = P at *
  generalize gH (val xs) e s' (val ys) e' p = Q at *
  generalize cmpD (formD false (val xs) e) (formD false (val ys) e') = cc at *
  generalize (blen (val xs) : Int) = bl at *
  obtain ⟨bA, c0, c1, c2, c3, c4, c5, z0, z1, z2, z3, z4, z5, f0, f1, f2, f3, f4, f5⟩ := wide0 s a len cap e s' a' len' cap' e' w
  have hI := h.keep bA
  have hJ := h'.keep bA
  have hs : Hid (w.heap.size + 2 ≤ ((w.alloc (.cells #[.bool s, .slice a len cap, .int .i64 e, .bool s', .slice a' len' cap', .int .i64 e'] 27)).alloc (.cells #[.bool false, .slice none 0 0, .int .i64 0, .bool false, .slice none 0 0, .int .i64 0] 27)).heap.size) := by show w.heap.size + 2 ≤ _; simp
  clear h h'
  go_enter Tryz.func8, Tryz.ntmps8
  go_wp2_with fail
  generalize ((w.alloc (.cells #[.bool s, .slice a len cap, .int .i64 e, .bool s', .slice a' len' cap', .int .i64 e'] 27)).alloc (.cells #[.bool false, .slice none 0 0, .int .i64 0, .bool false, .slice none 0 0, .int .i64 0] 27)) = w0 at *
  refine Calls.mono (HR.out _ hI hJ) ?_
  rintro r w1 ⟨rfl, bN⟩
  replace f0 := kF bN z0 f0
  replace f1 := kF bN z1 f1
  replace f2 := kF bN z2 f2
  replace f3 := kF bN z3 f3
  replace f4 := kF bN z4 f4
  replace f5 := kF bN z5 f5
  replace c0 := kC bN c0
  replace c1 := kC bN c1
  replace c2 := kC bN c2
  replace c3 := kC bN c3
  replace c4 := kC bN c4
  replace c5 := kC bN c5
  replace z0 := kC bN z0
  replace z1 := kC bN z1
  replace z2 := kC bN z2
  replace z3 := kC bN z3
  replace z4 := kC bN z4
  replace z5 := kC bN z5
  replace hI := IsW.keep hI bN
  replace hJ := IsW.keep hJ bN
  replace hs := le_hidP hs bN.size
  replace bA := nT bA bN
  clear bN
  clear HR
  have HS2 := hs
  have k4 := c4
  have k5 := c5
  have bB := below_one w1 (.cells #[.bool false, .slice a' len' cap', .int .i64 (e' - p)] 25)
  obtain ⟨d0, d1, d2⟩ := bx3 w1 (.bool false) (.slice a' len' cap') (.int .i64 (e' - p)) 25
  obtain ⟨df0, df1, df2⟩ := bf3 w1 (.bool false) (.slice a' len' cap') (.int .i64 (e' - p)) 25
  replace f0 := kF bB z0 f0
  replace f1 := kF bB z1 f1
  replace f2 := kF bB z2 f2
  replace f3 := kF bB z3 f3
  replace f4 := kF bB z4 f4
  replace f5 := kF bB z5 f5
  replace c0 := kC bB c0
  replace c1 := kC bB c1
  replace c2 := kC bB c2
  replace c3 := kC bB c3
  replace c4 := kC bB c4
  replace c5 := kC bB c5
  replace z0 := kC bB z0
  replace z1 := kC bB z1
  replace z2 := kC bB z2
  replace z3 := kC bB z3
  replace z4 := kC bB z4
  replace z5 := kC bB z5
  replace hI := IsW.keep hI bB
  replace hJ := IsW.keep hJ bB
  replace hs := le_hidP hs bB.size
  replace bA := nT bA bB
  clear bB
  go_wp2_with fail
  clear k4 k5
  generalize (w1.alloc (.cells #[.bool false, .slice a' len' cap', .int .i64 (e' - p)] 25)) = w2 at *
  refine Calls.mono (HO.out _ hI hJ) ?_
  rintro r w3 ⟨rfl, bN⟩
  replace f0 := kF bN z0 f0
  replace f1 := kF bN z1 f1
  replace f2 := kF bN z2 f2
  replace f3 := kF bN z3 f3
  replace f4 := kF bN z4 f4
  replace f5 := kF bN z5 f5
  replace df0 := kF bN d0 df0
  replace df1 := kF bN d1 df1
  replace df2 := kF bN d2 df2
  replace c0 := kC bN c0
  replace c1 := kC bN c1
  replace c2 := kC bN c2
  replace c3 := kC bN c3
  replace c4 := kC bN c4
  replace c5 := kC bN c5
  replace z0 := kC bN z0
  replace z1 := kC bN z1
  replace z2 := kC bN z2
  replace z3 := kC bN z3
  replace z4 := kC bN z4
  replace z5 := kC bN z5
  replace d0 := kC bN d0
  replace d1 := kC bN d1
  replace d2 := kC bN d2
  replace hI := IsW.keep hI bN
  replace hJ := IsW.keep hJ bN
  replace hs := le_hidP hs bN.size
  replace bA := nT bA bN
  clear bN
  go_wp2_with fail
  have lz : w.heap.size + 1 < w1.heap.size := HS2.out
  have lc : w.heap.size < w1.heap.size := Nat.lt_of_succ_lt lz
  have bS : Below w1.heap.size w3 (((w3.setCell ⟨w1.heap.size, 0, none⟩ (.bool false)).setCell ⟨w1.heap.size, 1, none⟩ (.slice a len cap)).setCell ⟨w1.heap.size, 2, none⟩ (.int .i64 (e - p))) := (((Below.refl _ _).setCell (p := ⟨w1.heap.size, 0, none⟩) (Nat.le_refl _) _).setCell (p := ⟨w1.heap.size, 1, none⟩) (Nat.le_refl _) _).setCell (p := ⟨w1.heap.size, 2, none⟩) (Nat.le_refl _) _
  replace f0 := (bS.frozen (p := ⟨w.heap.size + 1, 0, none⟩) lz).trans f0
  replace z0 := (bS.cell (p := ⟨w.heap.size + 1, 0, none⟩) lz).trans z0
  replace c0 := (bS.cell (p := ⟨w.heap.size, 0, none⟩) lc).trans c0
  replace f1 := (bS.frozen (p := ⟨w.heap.size + 1, 1, none⟩) lz).trans f1
  replace z1 := (bS.cell (p := ⟨w.heap.size + 1, 1, none⟩) lz).trans z1
  replace c1 := (bS.cell (p := ⟨w.heap.size, 1, none⟩) lc).trans c1
  replace f2 := (bS.frozen (p := ⟨w.heap.size + 1, 2, none⟩) lz).trans f2
  replace z2 := (bS.cell (p := ⟨w.heap.size + 1, 2, none⟩) lz).trans z2
  replace c2 := (bS.cell (p := ⟨w.heap.size, 2, none⟩) lc).trans c2
  replace f3 := (bS.frozen (p := ⟨w.heap.size + 1, 3, none⟩) lz).trans f3
  replace z3 := (bS.cell (p := ⟨w.heap.size + 1, 3, none⟩) lz).trans z3
  replace c3 := (bS.cell (p := ⟨w.heap.size, 3, none⟩) lc).trans c3
  replace f4 := (bS.frozen (p := ⟨w.heap.size + 1, 4, none⟩) lz).trans f4
  replace z4 := (bS.cell (p := ⟨w.heap.size + 1, 4, none⟩) lz).trans z4
  replace c4 := (bS.cell (p := ⟨w.heap.size, 4, none⟩) lc).trans c4
  replace f5 := (bS.frozen (p := ⟨w.heap.size + 1, 5, none⟩) lz).trans f5
  replace z5 := (bS.cell (p := ⟨w.heap.size + 1, 5, none⟩) lz).trans z5
  replace c5 := (bS.cell (p := ⟨w.heap.size, 5, none⟩) lc).trans c5
  replace hI := isW_set3 hI d0 d1 d2 (.bool false) (.slice a len cap) (.int .i64 (e - p))
  replace hJ := isW_set3 hJ d0 d1 d2 (.bool false) (.slice a len cap) (.int .i64 (e - p))
  obtain ⟨y0, y1, y2⟩ := set3_same (v0 := .bool false) (v1 := .slice a len cap) (v2 := .int .i64 (e - p)) d0 d1 d2
  replace bA := ((bA.setCell (p := ⟨w1.heap.size, 0, none⟩) (Nat.le_of_lt lc) (.bool false)).setCell (p := ⟨w1.heap.size, 1, none⟩) (Nat.le_of_lt lc) (.slice a len cap)).setCell (p := ⟨w1.heap.size, 2, none⟩) (Nat.le_of_lt lc) (.int .i64 (e - p))
  replace hs : Hid (w.heap.size + 2 ≤ (((w3.setCell ⟨w1.heap.size, 0, none⟩ (.bool false)).setCell ⟨w1.heap.size, 1, none⟩ (.slice a len cap)).setCell ⟨w1.heap.size, 2, none⟩ (.int .i64 (e - p))).heap.size) := Nat.le_trans hs.out bS.size
  clear bS d0 d1 d2 df0 df1 df2
  generalize (((w3.setCell ⟨w1.heap.size, 0, none⟩ (.bool false)).setCell ⟨w1.heap.size, 1, none⟩ (.slice a len cap)).setCell ⟨w1.heap.size, 2, none⟩ (.int .i64 (e - p))) = w4 at *
  refine Calls.mono (HL.out _ hI) ?_
  rintro r w5 ⟨rfl, bN⟩
  replace f0 := kF bN z0 f0
  replace f1 := kF bN z1 f1
  replace f2 := kF bN z2 f2
  replace f3 := kF bN z3 f3
  replace f4 := kF bN z4 f4
  replace f5 := kF bN z5 f5
  replace c0 := kC bN c0
  replace c1 := kC bN c1
  replace c2 := kC bN c2
  replace c3 := kC bN c3
  replace c4 := kC bN c4
  replace c5 := kC bN c5
  replace z0 := kC bN z0
  replace z1 := kC bN z1
  replace z2 := kC bN z2
  replace z3 := kC bN z3
  replace z4 := kC bN z4
  replace z5 := kC bN z5
  replace y0 := kC bN y0
  replace y1 := kC bN y1
  replace y2 := kC bN y2
  replace hI := IsW.keep hI bN
  replace hJ := IsW.keep hJ bN
  replace hs := le_hidP hs bN.size
  replace bA := nT bA bN
  clear bN
  by_cases hz0 : bl = 0
  · subst hz0
    go_wp2_with fail
    exact bodyPost_ret (v := .tuple #[zIv, .int .i64 0]) (by simp [results, Tryz.results8, go_sem, zIv, z0, z1, z2, z3, z4, z5]) rfl (nil_is (HZ.out (by first | rfl | trivial)) (by repeat (first | (with_reducible exact bA) | (with_reducible refine Below.setCell ?_ (by simp) _))))
  have hz : (bl == 0) = false := by simp [hz0]
  have HK : Hid _ := HS.out hz0
  clear HZ HS
  go_wp2_with fail
  refine Calls.mono (HLe.out _ hI hI) ?_
  rintro r w6 ⟨_, rfl, ⟨al, nl, cl, rfl, HNl, hOl⟩, bN⟩
  have hl0 := hOl.1
  clear hOl
  replace f0 := kF bN z0 f0
  replace f1 := kF bN z1 f1
  replace f2 := kF bN z2 f2
  replace f3 := kF bN z3 f3
  replace f4 := kF bN z4 f4
  replace f5 := kF bN z5 f5
  replace c0 := kC bN c0
  replace c1 := kC bN c1
  replace c2 := kC bN c2
  replace c3 := kC bN c3
  replace c4 := kC bN c4
  replace c5 := kC bN c5
  replace z0 := kC bN z0
  replace z1 := kC bN z1
  replace z2 := kC bN z2
  replace z3 := kC bN z3
  replace z4 := kC bN z4
  replace z5 := kC bN z5
  replace y0 := kC bN y0
  replace y1 := kC bN y1
  replace y2 := kC bN y2
  replace hI := IsW.keep hI bN
  replace hJ := IsW.keep hJ bN
  replace hs := le_hidP hs bN.size
  replace bA := nT bA bN
  clear bN
  have bB := below_one w6 (.cells #[.bool P.1, .slice al nl cl, .int .i64 P.2.2] 25)
  obtain ⟨l0, l1, l2⟩ := bx3 w6 (.bool P.1) (.slice al nl cl) (.int .i64 P.2.2) 25
  replace f0 := kF bB z0 f0
  replace f1 := kF bB z1 f1
  replace f2 := kF bB z2 f2
  replace f3 := kF bB z3 f3
  replace f4 := kF bB z4 f4
  replace f5 := kF bB z5 f5
  replace c0 := kC bB c0
  replace c1 := kC bB c1
  replace c2 := kC bB c2
  replace c3 := kC bB c3
  replace c4 := kC bB c4
  replace c5 := kC bB c5
  replace z0 := kC bB z0
  replace z1 := kC bB z1
  replace z2 := kC bB z2
  replace z3 := kC bB z3
  replace z4 := kC bB z4
  replace z5 := kC bB z5
  replace y0 := kC bB y0
  replace y1 := kC bB y1
  replace y2 := kC bB y2
  replace hI := IsW.keep hI bB
  replace hJ := IsW.keep hJ bB
  replace hl0 := IsW.keep hl0 bB
  replace hs := le_hidP hs bB.size
  replace bA := nT bA bB
  clear bB
  go_wp2_with fail
  generalize (w6.alloc (.cells #[.bool P.1, .slice al nl cl, .int .i64 P.2.2] 25)) = w7 at *
  refine Calls.mono (HPl.out _ hJ hI) ?_
  rintro r w8 ⟨_, rfl, ⟨ah, nh, ch, rfl, HNh, hOh⟩, bN⟩
  have hh0 := hOh.1
  clear hOh
  replace f0 := kF bN z0 f0
  replace f1 := kF bN z1 f1
  replace f2 := kF bN z2 f2
  replace f3 := kF bN z3 f3
  replace f4 := kF bN z4 f4
  replace f5 := kF bN z5 f5
  replace c0 := kC bN c0
  replace c1 := kC bN c1
  replace c2 := kC bN c2
  replace c3 := kC bN c3
  replace c4 := kC bN c4
  replace c5 := kC bN c5
  replace z0 := kC bN z0
  replace z1 := kC bN z1
  replace z2 := kC bN z2
  replace z3 := kC bN z3
  replace z4 := kC bN z4
  replace z5 := kC bN z5
  replace y0 := kC bN y0
  replace y1 := kC bN y1
  replace y2 := kC bN y2
  replace l0 := kC bN l0
  replace l1 := kC bN l1
  replace l2 := kC bN l2
  replace hI := IsW.keep hI bN
  replace hJ := IsW.keep hJ bN
  replace hl0 := IsW.keep hl0 bN
  replace hs := le_hidP hs bN.size
  replace bA := nT bA bN
  clear bN
  have bB := below_one w8 (.cells #[.bool Q.1, .slice ah nh ch, .int .i64 Q.2.2] 25)
  obtain ⟨k0, k1, k2⟩ := bx3 w8 (.bool Q.1) (.slice ah nh ch) (.int .i64 Q.2.2) 25
  replace f0 := kF bB z0 f0
  replace f1 := kF bB z1 f1
  replace f2 := kF bB z2 f2
  replace f3 := kF bB z3 f3
  replace f4 := kF bB z4 f4
  replace f5 := kF bB z5 f5
  replace c0 := kC bB c0
  replace c1 := kC bB c1
  replace c2 := kC bB c2
  replace c3 := kC bB c3
  replace c4 := kC bB c4
  replace c5 := kC bB c5
  replace z0 := kC bB z0
  replace z1 := kC bB z1
  replace z2 := kC bB z2
  replace z3 := kC bB z3
  replace z4 := kC bB z4
  replace z5 := kC bB z5
  replace y0 := kC bB y0
  replace y1 := kC bB y1
  replace y2 := kC bB y2
  replace l0 := kC bB l0
  replace l1 := kC bB l1
  replace l2 := kC bB l2
  replace hI := IsW.keep hI bB
  replace hJ := IsW.keep hJ bB
  replace hl0 := IsW.keep hl0 bB
  replace hh0 := IsW.keep hh0 bB
  replace hs := le_hidP hs bB.size
  replace bA := nT bA bB
  clear bB
  go_wp2_with fail
  generalize (w8.alloc (.cells #[.bool Q.1, .slice ah nh ch, .int .i64 Q.2.2] 25)) = w9 at *
  refine Calls.mono (HR1.out _ _ _ _ hl0 (by rw [HNl.out]; exact NL.out)) ?_
  rintro r w10 ⟨rfl, bN⟩
  replace f0 := kF bN z0 f0
  replace f1 := kF bN z1 f1
  replace f2 := kF bN z2 f2
  replace f3 := kF bN z3 f3
  replace f4 := kF bN z4 f4
  replace f5 := kF bN z5 f5
  replace c0 := kC bN c0
  replace c1 := kC bN c1
  replace c2 := kC bN c2
  replace c3 := kC bN c3
  replace c4 := kC bN c4
  replace c5 := kC bN c5
  replace z0 := kC bN z0
  replace z1 := kC bN z1
  replace z2 := kC bN z2
  replace z3 := kC bN z3
  replace z4 := kC bN z4
  replace z5 := kC bN z5
  replace y0 := kC bN y0
  replace y1 := kC bN y1
  replace y2 := kC bN y2
  replace l0 := kC bN l0
  replace l1 := kC bN l1
  replace l2 := kC bN l2
  replace k0 := kC bN k0
  replace k1 := kC bN k1
  replace k2 := kC bN k2
  replace hI := IsW.keep hI bN
  replace hJ := IsW.keep hJ bN
  replace hl0 := IsW.keep hl0 bN
  replace hh0 := IsW.keep hh0 bN
  replace hs := le_hidP hs bN.size
  replace bA := nT bA bN
  clear bN
  cases rl
  · go_wp2_with fail
    exact bodyPost_ret (v := .tuple #[zIv, .int .i64 3]) (by simp [results, Tryz.results8, go_sem, zIv, z0, z1, z2, z3, z4, z5]) rfl (nil_is (HK.out.2 (.inl (by first | rfl | trivial))) (by repeat (first | (with_reducible exact bA) | (with_reducible refine Below.setCell ?_ (by simp) _))))
  go_wp2_with fail
  refine Calls.mono (HR2.out _ _ _ _ hh0 (by rw [HNh.out]; exact NH.out)) ?_
  rintro r w11 ⟨rfl, bN⟩
  replace f0 := kF bN z0 f0
  replace f1 := kF bN z1 f1
  replace f2 := kF bN z2 f2
  replace f3 := kF bN z3 f3
  replace f4 := kF bN z4 f4
  replace f5 := kF bN z5 f5
  replace c0 := kC bN c0
  replace c1 := kC bN c1
  replace c2 := kC bN c2
  replace c3 := kC bN c3
  replace c4 := kC bN c4
  replace c5 := kC bN c5
  replace z0 := kC bN z0
  replace z1 := kC bN z1
  replace z2 := kC bN z2
  replace z3 := kC bN z3
  replace z4 := kC bN z4
  replace z5 := kC bN z5
  replace y0 := kC bN y0
  replace y1 := kC bN y1
  replace y2 := kC bN y2
  replace l0 := kC bN l0
  replace l1 := kC bN l1
  replace l2 := kC bN l2
  replace k0 := kC bN k0
  replace k1 := kC bN k1
  replace k2 := kC bN k2
  replace hI := IsW.keep hI bN
  replace hJ := IsW.keep hJ bN
  replace hl0 := IsW.keep hl0 bN
  replace hh0 := IsW.keep hh0 bN
  replace hs := le_hidP hs bN.size
  replace bA := nT bA bN
  clear bN
  cases rh
  · go_wp2_with fail
    exact bodyPost_ret (v := .tuple #[zIv, .int .i64 3]) (by simp [results, Tryz.results8, go_sem, zIv, z0, z1, z2, z3, z4, z5]) rfl (nil_is (HK.out.2 (.inr (by first | rfl | trivial))) (by repeat (first | (with_reducible exact bA) | (with_reducible refine Below.setCell ?_ (by simp) _))))
  have KK : Hid _ := HK.out.1 (by first | rfl | trivial) (by first | rfl | trivial)
  go_wp2_with fail
  have s6 := six_of z0 z1 z2 z3 z4 z5 (fun _ q => by cases q) (fun _ q => by cases q) (fun _ q => by cases q) (fun _ q => by cases q) (fun _ q => by cases q) (fun _ q => by cases q)
  exact bodyPost_ret (v := .tuple #[ivV P.1 al nl cl P.2.2 Q.1 ah nh ch Q.2.2, .int .i64 0]) (by simp [results, Tryz.results8, go_sem, z0, z1, z2, z3, z4, z5]) rfl ⟨al, nl, cl, ah, nh, ch, by rw [KK.out.1, KK.out.2.1, KK.out.2.2], by rw [HNl.out]; exact GLn.out (by first | rfl | trivial), by rw [HNh.out]; exact GHn.out (by first | rfl | trivial), by rw [KK.out.2.1]; exact isW_six hl0 s6 _ _ _ _ _ _, by rw [KK.out.2.2]; exact isW_six hh0 s6 _ _ _ _ _ _, by repeat (first | (with_reducible exact bA) | (with_reducible refine Below.setCell ?_ (by simp) _))⟩

end Go.Proofs.YtognliaoonkmiaaGreatDoor

namespace Go.Proofs.YtognliaoonkmiaaGreatDoor
open Go.RowKit

set_option maxRecDepth 100000 in
set_option maxHeartbeats 4000000 in
theorem qwide_h (s : Bool) (a : Option Addr) (len cap : Nat) (xs : List Int) (e : Int) (s' : Bool) (a' : Option Addr) (len' cap' : Nat) (ys : List Int) (e' : Int) (p : Int) (w : World) (h : IsW w a len cap xs) (hm : len ≤ 17592186044000) (h' : IsW w a' len' cap' ys) (hm' : len' ≤ 17592186044000) (hr : rtB s (val xs) e s' (val ys) e' = true) (hp : 0 ≤ p ∧ p ≤ 2048) (hc : ¬ 0 < cmpD (formD false (val xs) e) (formD false (val ys) e')) :
    Calls Tryz.prog 8 #[ivV s a len cap e s' a' len' cap' e', .int .i64 p] w fun r w' => ∃ al nl cl ah nh ch, r = .returned (.tuple #[ivV (wdL s (val xs) e s' (val ys) e' p).1 al nl cl (wdL s (val xs) e s' (val ys) e' p).2.2 (wdH s (val xs) e s' (val ys) e' p).1 ah nh ch (wdH s (val xs) e s' (val ys) e' p).2.2, .int .i64 (wdE s (val xs) e s' (val ys) e' p)]) ∧ nl ≤ 1024 ∧ nh ≤ 1024 ∧ IsW w' al nl cl (wordsOf (wdL s (val xs) e s' (val ys) e' p).2.1) ∧ IsW w' ah nh ch (wordsOf (wdH s (val xs) e s' (val ys) e' p).2.1) ∧ Below w.heap.size w w' := by
  have HR : Hid _ := fun w' (g : IsW w' a len cap xs) (g' : IsW w' a' len' cap' ys) => qwrong_calls s a len cap xs e s' a' len' cap' ys e' w' g hm g' hm'
  obtain ⟨r1, r2, hc0⟩ := rt_open hr
  rw [show dcE s (val xs) e s' (val ys) e' = 0 by unfold dcE; rw [hr]; rfl] at HR
  have b1 := (rightB_yes r1).2
  have b2 := (rightB_yes r2).2
  have g1 := right_blen r1
  have g2 := right_blen r2
  have hp2 : ¬ p < 0 := by omega
  have hp3 : ¬ 2048 < p := by omega
  have v1 : IntKind.i64.wrap (e' - p) = e' - p := by rw [IntKind.wrap_i64]; omega
  have v2 : IntKind.i64.wrap (e - p) = e - p := by rw [IntKind.wrap_i64]; omega
  have HO : Hid _ := fun w' (g : IsW w' a len cap xs) (g' : IsW w' a' len' cap' ys) => qOrder_calls false a len cap xs e false a' len' cap' ys e' w' g hm g' hm' (by omega) (by omega) (by omega) (by omega)
  have HL : Hid _ := fun w' (g : IsW w' a' len' cap' ys) => nLen_calls a' len' cap' ys w' g (by omega)
  have eM : gM (val xs) e (val ys) e' = val ys := by unfold gM; rw [if_neg hc]
  have eX : gX (val xs) e (val ys) e' = e' := by unfold gX; rw [if_neg hc]
  have HZ : Hid ((blen (val ys) : Int) = 0 → wdE s (val xs) e s' (val ys) e' p = 0 ∧ wdL s (val xs) e s' (val ys) e' p = (false, 0, 0) ∧ wdH s (val xs) e s' (val ys) e' p = (false, 0, 0)) := fun q => wide_zero hr hp (by rw [eM]; exact (blen_nil _).1 (by omega))
  have HS : Hid (¬ (blen (val ys) : Int) = 0 → (rightB (gL s (val xs) e (val ys) e' p).2.1 (gL s (val xs) e (val ys) e' p).2.2 = true → rightB (gH (val xs) e s' (val ys) e' p).2.1 (gH (val xs) e s' (val ys) e' p).2.2 = true → wdE s (val xs) e s' (val ys) e' p = 0 ∧ wdL s (val xs) e s' (val ys) e' p = gL s (val xs) e (val ys) e' p ∧ wdH s (val xs) e s' (val ys) e' p = gH (val xs) e s' (val ys) e' p) ∧ (rightB (gL s (val xs) e (val ys) e' p).2.1 (gL s (val xs) e (val ys) e' p).2.2 = false ∨ rightB (gH (val xs) e s' (val ys) e' p).2.1 (gH (val xs) e s' (val ys) e' p).2.2 = false → wdE s (val xs) e s' (val ys) e' p = 3 ∧ wdL s (val xs) e s' (val ys) e' p = (false, 0, 0) ∧ wdH s (val xs) e s' (val ys) e' p = (false, 0, 0))) := fun q => wide_some hr hp (by rw [eM]; intro z; rw [z, blen_zero] at q; exact q rfl)
  have eL : sumD (formD s (val xs) e) (formD (!false) (val ys) (e' - p)) = gL s (val xs) e (val ys) e' p := by unfold gL; rw [eM, eX, ← form_turn]
  have eH : sumD (formD s' (val ys) e') (formD false (val ys) (e' - p)) = gH (val xs) e s' (val ys) e' p := by unfold gH; rw [eM, eX]
  have fb : ∀ t, blen (formD t (val ys) (e' - p)).2.1 ≤ 10000000 := fun t => Nat.le_trans (blen_mono (form_amount_le _ _ _)) (by omega)
  have fx : ∀ t, -20000000 ≤ (formD t (val ys) (e' - p)).2.2 ∧ (formD t (val ys) (e' - p)).2.2 ≤ 20000000 := fun t => form_expb _ _ _ (by omega) (by omega)
  have nL := sumlen (formD s (val xs) e) (formD (!false) (val ys) (e' - p)) (by have := form_blen s r1; omega) (fb _) (form_rng s r1) (fx _)
  have nH := sumlen (formD s' (val ys) e') (formD false (val ys) (e' - p)) (by have := form_blen s' r2; omega) (fb _) (form_rng s' r2) (fx _)
  have HLe : Hid _ := fun w' (g : IsW w' a len cap xs) (g' : IsW w' a' len' cap' ys) => qLess_calls s a len cap xs e false a' len' cap' ys (e' - p) w' g hm g' hm' (by omega) (by omega) (by omega) (by omega)
  have HPl : Hid _ := fun w' (g : IsW w' a' len' cap' ys) (g' : IsW w' a' len' cap' ys) => qPlus_calls s' a' len' cap' ys e' false a' len' cap' ys (e' - p) w' g hm' g' hm' (by omega) (by omega) (by omega) (by omega)
  rw [eL] at HLe nL
  rw [eH] at HPl nH
  have NL : Hid _ := nL
  have NH : Hid _ := nH
  have HR0 : ∀ (P : Bool × Nat × Int) a n c w', IsW w' a n c (wordsOf P.2.1) → n ≤ 2000001 → Calls Tryz.prog 32 #[dyV P.1 a n c P.2.2] w' fun r w'' => r = .returned (.bool (rightB P.2.1 P.2.2)) ∧ Below w'.heap.size w' w'' := fun P a n c w' g q => by
    have := qRight_calls P.1 a n c (wordsOf P.2.1) P.2.2 w' g (by omega)
    rw [val_words] at this
    exact this
  have HR1 : Hid _ := HR0 (gL s (val xs) e (val ys) e' p)
  have HR2 : Hid _ := HR0 (gH (val xs) e s' (val ys) e' p)
  have GLn : Hid (rightB (gL s (val xs) e (val ys) e' p).2.1 (gL s (val xs) e (val ys) e' p).2.2 = true → (wordsOf (gL s (val xs) e (val ys) e' p).2.1).length ≤ 1024) := fun q => (great_len _).1 (rightB_yes q).1
  have GHn : Hid (rightB (gH (val xs) e s' (val ys) e' p).2.1 (gH (val xs) e s' (val ys) e' p).2.2 = true → (wordsOf (gH (val xs) e s' (val ys) e' p).2.1).length ≤ 1024) := fun q => (great_len _).1 (rightB_yes q).1
  clear eL eH fb fx nL nH HR0 eM eX hr hc0 r1 r2 b1 b2 g1 g2
  generalize wdE s (val xs) e s' (val ys) e' p = EE at *
  generalize wdL s (val xs) e s' (val ys) e' p = LL at *
  generalize wdH s (val xs) e s' (val ys) e' p = HH at *
  generalize rightB (gL s (val xs) e (val ys) e' p).2.1 (gL s (val xs) e (val ys) e' p).2.2 = rl at *
  generalize rightB (gH (val xs) e s' (val ys) e' p).2.1 (gH (val xs) e s' (val ys) e' p).2.2 = rh at *
  generalize gL s (val xs) e (val ys) e' p = P at *
  generalize gH (val xs) e s' (val ys) e' p = Q at *
  generalize cmpD (formD false (val xs) e) (formD false (val ys) e') = cc at *
  generalize (blen (val ys) : Int) = bl at *
  obtain ⟨bA, c0, c1, c2, c3, c4, c5, z0, z1, z2, z3, z4, z5, f0, f1, f2, f3, f4, f5⟩ := wide0 s a len cap e s' a' len' cap' e' w
  have hI := h.keep bA
  have hJ := h'.keep bA
  have hs : Hid (w.heap.size + 2 ≤ ((w.alloc (.cells #[.bool s, .slice a len cap, .int .i64 e, .bool s', .slice a' len' cap', .int .i64 e'] 27)).alloc (.cells #[.bool false, .slice none 0 0, .int .i64 0, .bool false, .slice none 0 0, .int .i64 0] 27)).heap.size) := by show w.heap.size + 2 ≤ _; simp
  clear h h'
  go_enter Tryz.func8, Tryz.ntmps8
  go_wp2_with fail
  generalize ((w.alloc (.cells #[.bool s, .slice a len cap, .int .i64 e, .bool s', .slice a' len' cap', .int .i64 e'] 27)).alloc (.cells #[.bool false, .slice none 0 0, .int .i64 0, .bool false, .slice none 0 0, .int .i64 0] 27)) = w0 at *
  refine Calls.mono (HR.out _ hI hJ) ?_
  rintro r w1 ⟨rfl, bN⟩
  replace f0 := kF bN z0 f0
  replace f1 := kF bN z1 f1
  replace f2 := kF bN z2 f2
  replace f3 := kF bN z3 f3
  replace f4 := kF bN z4 f4
  replace f5 := kF bN z5 f5
  replace c0 := kC bN c0
  replace c1 := kC bN c1
  replace c2 := kC bN c2
  replace c3 := kC bN c3
  replace c4 := kC bN c4
  replace c5 := kC bN c5
  replace z0 := kC bN z0
  replace z1 := kC bN z1
  replace z2 := kC bN z2
  replace z3 := kC bN z3
  replace z4 := kC bN z4
  replace z5 := kC bN z5
  replace hI := IsW.keep hI bN
  replace hJ := IsW.keep hJ bN
  replace hs := le_hidP hs bN.size
  replace bA := nT bA bN
  clear bN
  clear HR
  have HS2 := hs
  have k4 := c4
  have k5 := c5
  have bB := below_one w1 (.cells #[.bool false, .slice a' len' cap', .int .i64 (e' - p)] 25)
  obtain ⟨d0, d1, d2⟩ := bx3 w1 (.bool false) (.slice a' len' cap') (.int .i64 (e' - p)) 25
  obtain ⟨df0, df1, df2⟩ := bf3 w1 (.bool false) (.slice a' len' cap') (.int .i64 (e' - p)) 25
  replace f0 := kF bB z0 f0
  replace f1 := kF bB z1 f1
  replace f2 := kF bB z2 f2
  replace f3 := kF bB z3 f3
  replace f4 := kF bB z4 f4
  replace f5 := kF bB z5 f5
  replace c0 := kC bB c0
  replace c1 := kC bB c1
  replace c2 := kC bB c2
  replace c3 := kC bB c3
  replace c4 := kC bB c4
  replace c5 := kC bB c5
  replace z0 := kC bB z0
  replace z1 := kC bB z1
  replace z2 := kC bB z2
  replace z3 := kC bB z3
  replace z4 := kC bB z4
  replace z5 := kC bB z5
  replace hI := IsW.keep hI bB
  replace hJ := IsW.keep hJ bB
  replace hs := le_hidP hs bB.size
  replace bA := nT bA bB
  clear bB
  go_wp2_with fail
  clear k4 k5
  generalize (w1.alloc (.cells #[.bool false, .slice a' len' cap', .int .i64 (e' - p)] 25)) = w2 at *
  refine Calls.mono (HO.out _ hI hJ) ?_
  rintro r w3 ⟨rfl, bN⟩
  replace f0 := kF bN z0 f0
  replace f1 := kF bN z1 f1
  replace f2 := kF bN z2 f2
  replace f3 := kF bN z3 f3
  replace f4 := kF bN z4 f4
  replace f5 := kF bN z5 f5
  replace df0 := kF bN d0 df0
  replace df1 := kF bN d1 df1
  replace df2 := kF bN d2 df2
  replace c0 := kC bN c0
  replace c1 := kC bN c1
  replace c2 := kC bN c2
  replace c3 := kC bN c3
  replace c4 := kC bN c4
  replace c5 := kC bN c5
  replace z0 := kC bN z0
  replace z1 := kC bN z1
  replace z2 := kC bN z2
  replace z3 := kC bN z3
  replace z4 := kC bN z4
  replace z5 := kC bN z5
  replace d0 := kC bN d0
  replace d1 := kC bN d1
  replace d2 := kC bN d2
  replace hI := IsW.keep hI bN
  replace hJ := IsW.keep hJ bN
  replace hs := le_hidP hs bN.size
  replace bA := nT bA bN
  clear bN
  go_wp2_with fail
  refine Calls.mono (HL.out _ hJ) ?_
  rintro r w4 ⟨rfl, bN⟩
  replace f0 := kF bN z0 f0
  replace f1 := kF bN z1 f1
  replace f2 := kF bN z2 f2
  replace f3 := kF bN z3 f3
  replace f4 := kF bN z4 f4
  replace f5 := kF bN z5 f5
  replace df0 := kF bN d0 df0
  replace df1 := kF bN d1 df1
  replace df2 := kF bN d2 df2
  replace c0 := kC bN c0
  replace c1 := kC bN c1
  replace c2 := kC bN c2
  replace c3 := kC bN c3
  replace c4 := kC bN c4
  replace c5 := kC bN c5
  replace z0 := kC bN z0
  replace z1 := kC bN z1
  replace z2 := kC bN z2
  replace z3 := kC bN z3
  replace z4 := kC bN z4
  replace z5 := kC bN z5
  replace d0 := kC bN d0
  replace d1 := kC bN d1
  replace d2 := kC bN d2
  replace hI := IsW.keep hI bN
  replace hJ := IsW.keep hJ bN
  replace hs := le_hidP hs bN.size
  replace bA := nT bA bN
  clear bN
  by_cases hz0 : bl = 0
  · subst hz0
    go_wp2_with fail
    exact bodyPost_ret (v := .tuple #[zIv, .int .i64 0]) (by simp [results, Tryz.results8, go_sem, zIv, z0, z1, z2, z3, z4, z5]) rfl (nil_is (HZ.out (by first | rfl | trivial)) (by repeat (first | (with_reducible exact bA) | (with_reducible refine Below.setCell ?_ (by simp) _))))
  have hz : (bl == 0) = false := by simp [hz0]
  have HK : Hid _ := HS.out hz0
  clear HZ HS
  go_wp2_with fail
  refine Calls.mono (HLe.out _ hI hJ) ?_
  rintro r w5 ⟨_, rfl, ⟨al, nl, cl, rfl, HNl, hOl⟩, bN⟩
  have hl0 := hOl.1
  clear hOl
  replace f0 := kF bN z0 f0
  replace f1 := kF bN z1 f1
  replace f2 := kF bN z2 f2
  replace f3 := kF bN z3 f3
  replace f4 := kF bN z4 f4
  replace f5 := kF bN z5 f5
  replace df0 := kF bN d0 df0
  replace df1 := kF bN d1 df1
  replace df2 := kF bN d2 df2
  replace c0 := kC bN c0
  replace c1 := kC bN c1
  replace c2 := kC bN c2
  replace c3 := kC bN c3
  replace c4 := kC bN c4
  replace c5 := kC bN c5
  replace z0 := kC bN z0
  replace z1 := kC bN z1
  replace z2 := kC bN z2
  replace z3 := kC bN z3
  replace z4 := kC bN z4
  replace z5 := kC bN z5
  replace d0 := kC bN d0
  replace d1 := kC bN d1
  replace d2 := kC bN d2
  replace hI := IsW.keep hI bN
  replace hJ := IsW.keep hJ bN
  replace hs := le_hidP hs bN.size
  replace bA := nT bA bN
  clear bN
  have bB := below_one w5 (.cells #[.bool P.1, .slice al nl cl, .int .i64 P.2.2] 25)
  obtain ⟨l0, l1, l2⟩ := bx3 w5 (.bool P.1) (.slice al nl cl) (.int .i64 P.2.2) 25
  replace f0 := kF bB z0 f0
  replace f1 := kF bB z1 f1
  replace f2 := kF bB z2 f2
  replace f3 := kF bB z3 f3
  replace f4 := kF bB z4 f4
  replace f5 := kF bB z5 f5
  replace df0 := kF bB d0 df0
  replace df1 := kF bB d1 df1
  replace df2 := kF bB d2 df2
  replace c0 := kC bB c0
  replace c1 := kC bB c1
  replace c2 := kC bB c2
  replace c3 := kC bB c3
  replace c4 := kC bB c4
  replace c5 := kC bB c5
  replace z0 := kC bB z0
  replace z1 := kC bB z1
  replace z2 := kC bB z2
  replace z3 := kC bB z3
  replace z4 := kC bB z4
  replace z5 := kC bB z5
  replace d0 := kC bB d0
  replace d1 := kC bB d1
  replace d2 := kC bB d2
  replace hI := IsW.keep hI bB
  replace hJ := IsW.keep hJ bB
  replace hl0 := IsW.keep hl0 bB
  replace hs := le_hidP hs bB.size
  replace bA := nT bA bB
  clear bB
  go_wp2_with fail
  generalize (w5.alloc (.cells #[.bool P.1, .slice al nl cl, .int .i64 P.2.2] 25)) = w6 at *
  refine Calls.mono (HPl.out _ hJ hJ) ?_
  rintro r w7 ⟨_, rfl, ⟨ah, nh, ch, rfl, HNh, hOh⟩, bN⟩
  have hh0 := hOh.1
  clear hOh
  replace f0 := kF bN z0 f0
  replace f1 := kF bN z1 f1
  replace f2 := kF bN z2 f2
  replace f3 := kF bN z3 f3
  replace f4 := kF bN z4 f4
  replace f5 := kF bN z5 f5
  replace df0 := kF bN d0 df0
  replace df1 := kF bN d1 df1
  replace df2 := kF bN d2 df2
  replace c0 := kC bN c0
  replace c1 := kC bN c1
  replace c2 := kC bN c2
  replace c3 := kC bN c3
  replace c4 := kC bN c4
  replace c5 := kC bN c5
  replace z0 := kC bN z0
  replace z1 := kC bN z1
  replace z2 := kC bN z2
  replace z3 := kC bN z3
  replace z4 := kC bN z4
  replace z5 := kC bN z5
  replace d0 := kC bN d0
  replace d1 := kC bN d1
  replace d2 := kC bN d2
  replace l0 := kC bN l0
  replace l1 := kC bN l1
  replace l2 := kC bN l2
  replace hI := IsW.keep hI bN
  replace hJ := IsW.keep hJ bN
  replace hl0 := IsW.keep hl0 bN
  replace hs := le_hidP hs bN.size
  replace bA := nT bA bN
  clear bN
  have bB := below_one w7 (.cells #[.bool Q.1, .slice ah nh ch, .int .i64 Q.2.2] 25)
  obtain ⟨k0, k1, k2⟩ := bx3 w7 (.bool Q.1) (.slice ah nh ch) (.int .i64 Q.2.2) 25
  replace f0 := kF bB z0 f0
  replace f1 := kF bB z1 f1
  replace f2 := kF bB z2 f2
  replace f3 := kF bB z3 f3
  replace f4 := kF bB z4 f4
  replace f5 := kF bB z5 f5
  replace df0 := kF bB d0 df0
  replace df1 := kF bB d1 df1
  replace df2 := kF bB d2 df2
  replace c0 := kC bB c0
  replace c1 := kC bB c1
  replace c2 := kC bB c2
  replace c3 := kC bB c3
  replace c4 := kC bB c4
  replace c5 := kC bB c5
  replace z0 := kC bB z0
  replace z1 := kC bB z1
  replace z2 := kC bB z2
  replace z3 := kC bB z3
  replace z4 := kC bB z4
  replace z5 := kC bB z5
  replace d0 := kC bB d0
  replace d1 := kC bB d1
  replace d2 := kC bB d2
  replace l0 := kC bB l0
  replace l1 := kC bB l1
  replace l2 := kC bB l2
  replace hI := IsW.keep hI bB
  replace hJ := IsW.keep hJ bB
  replace hl0 := IsW.keep hl0 bB
  replace hh0 := IsW.keep hh0 bB
  replace hs := le_hidP hs bB.size
  replace bA := nT bA bB
  clear bB
  go_wp2_with fail
  generalize (w7.alloc (.cells #[.bool Q.1, .slice ah nh ch, .int .i64 Q.2.2] 25)) = w8 at *
  refine Calls.mono (HR1.out _ _ _ _ hl0 (by rw [HNl.out]; exact NL.out)) ?_
  rintro r w9 ⟨rfl, bN⟩
  replace f0 := kF bN z0 f0
  replace f1 := kF bN z1 f1
  replace f2 := kF bN z2 f2
  replace f3 := kF bN z3 f3
  replace f4 := kF bN z4 f4
  replace f5 := kF bN z5 f5
  replace df0 := kF bN d0 df0
  replace df1 := kF bN d1 df1
  replace df2 := kF bN d2 df2
  replace c0 := kC bN c0
  replace c1 := kC bN c1
  replace c2 := kC bN c2
  replace c3 := kC bN c3
  replace c4 := kC bN c4
  replace c5 := kC bN c5
  replace z0 := kC bN z0
  replace z1 := kC bN z1
  replace z2 := kC bN z2
  replace z3 := kC bN z3
  replace z4 := kC bN z4
  replace z5 := kC bN z5
  replace d0 := kC bN d0
  replace d1 := kC bN d1
  replace d2 := kC bN d2
  replace l0 := kC bN l0
  replace l1 := kC bN l1
  replace l2 := kC bN l2
  replace k0 := kC bN k0
  replace k1 := kC bN k1
  replace k2 := kC bN k2
  replace hI := IsW.keep hI bN
  replace hJ := IsW.keep hJ bN
  replace hl0 := IsW.keep hl0 bN
  replace hh0 := IsW.keep hh0 bN
  replace hs := le_hidP hs bN.size
  replace bA := nT bA bN
  clear bN
  cases rl
  · go_wp2_with fail
    exact bodyPost_ret (v := .tuple #[zIv, .int .i64 3]) (by simp [results, Tryz.results8, go_sem, zIv, z0, z1, z2, z3, z4, z5]) rfl (nil_is (HK.out.2 (.inl (by first | rfl | trivial))) (by repeat (first | (with_reducible exact bA) | (with_reducible refine Below.setCell ?_ (by simp) _))))
  go_wp2_with fail
  refine Calls.mono (HR2.out _ _ _ _ hh0 (by rw [HNh.out]; exact NH.out)) ?_
  rintro r w10 ⟨rfl, bN⟩
  replace f0 := kF bN z0 f0
  replace f1 := kF bN z1 f1
  replace f2 := kF bN z2 f2
  replace f3 := kF bN z3 f3
  replace f4 := kF bN z4 f4
  replace f5 := kF bN z5 f5
  replace df0 := kF bN d0 df0
  replace df1 := kF bN d1 df1
  replace df2 := kF bN d2 df2
  replace c0 := kC bN c0
  replace c1 := kC bN c1
  replace c2 := kC bN c2
  replace c3 := kC bN c3
  replace c4 := kC bN c4
  replace c5 := kC bN c5
  replace z0 := kC bN z0
  replace z1 := kC bN z1
  replace z2 := kC bN z2
  replace z3 := kC bN z3
  replace z4 := kC bN z4
  replace z5 := kC bN z5
  replace d0 := kC bN d0
  replace d1 := kC bN d1
  replace d2 := kC bN d2
  replace l0 := kC bN l0
  replace l1 := kC bN l1
  replace l2 := kC bN l2
  replace k0 := kC bN k0
  replace k1 := kC bN k1
  replace k2 := kC bN k2
  replace hI := IsW.keep hI bN
  replace hJ := IsW.keep hJ bN
  replace hl0 := IsW.keep hl0 bN
  replace hh0 := IsW.keep hh0 bN
  replace hs := le_hidP hs bN.size
  replace bA := nT bA bN
  clear bN
  cases rh
  · go_wp2_with fail
    exact bodyPost_ret (v := .tuple #[zIv, .int .i64 3]) (by simp [results, Tryz.results8, go_sem, zIv, z0, z1, z2, z3, z4, z5]) rfl (nil_is (HK.out.2 (.inr (by first | rfl | trivial))) (by repeat (first | (with_reducible exact bA) | (with_reducible refine Below.setCell ?_ (by simp) _))))
  have KK : Hid _ := HK.out.1 (by first | rfl | trivial) (by first | rfl | trivial)
  go_wp2_with fail
  have s6 := six_of z0 z1 z2 z3 z4 z5 (fun _ q => by cases q) (fun _ q => by cases q) (fun _ q => by cases q) (fun _ q => by cases q) (fun _ q => by cases q) (fun _ q => by cases q)
  exact bodyPost_ret (v := .tuple #[ivV P.1 al nl cl P.2.2 Q.1 ah nh ch Q.2.2, .int .i64 0]) (by simp [results, Tryz.results8, go_sem, z0, z1, z2, z3, z4, z5]) rfl ⟨al, nl, cl, ah, nh, ch, by rw [KK.out.1, KK.out.2.1, KK.out.2.2], by rw [HNl.out]; exact GLn.out (by first | rfl | trivial), by rw [HNh.out]; exact GHn.out (by first | rfl | trivial), by rw [KK.out.2.1]; exact isW_six hl0 s6 _ _ _ _ _ _, by rw [KK.out.2.2]; exact isW_six hh0 s6 _ _ _ _ _ _, by repeat (first | (with_reducible exact bA) | (with_reducible refine Below.setCell ?_ (by simp) _))⟩

theorem qWide_calls (s : Bool) (a : Option Addr) (len cap : Nat) (xs : List Int) (e : Int) (s' : Bool) (a' : Option Addr) (len' cap' : Nat) (ys : List Int) (e' : Int) (p : Int) (w : World) (h : IsW w a len cap xs) (hm : len ≤ 17592186044000) (h' : IsW w a' len' cap' ys) (hm' : len' ≤ 17592186044000) :
    Calls Tryz.prog 8 #[ivV s a len cap e s' a' len' cap' e', .int .i64 p] w fun r w' => ∃ al nl cl ah nh ch, r = .returned (.tuple #[ivV (wdL s (val xs) e s' (val ys) e' p).1 al nl cl (wdL s (val xs) e s' (val ys) e' p).2.2 (wdH s (val xs) e s' (val ys) e' p).1 ah nh ch (wdH s (val xs) e s' (val ys) e' p).2.2, .int .i64 (wdE s (val xs) e s' (val ys) e' p)]) ∧ nl ≤ 1024 ∧ nh ≤ 1024 ∧ IsW w' al nl cl (wordsOf (wdL s (val xs) e s' (val ys) e' p).2.1) ∧ IsW w' ah nh ch (wordsOf (wdH s (val xs) e s' (val ys) e' p).2.1) ∧ Below w.heap.size w w' := by
  by_cases hq : rtB s (val xs) e s' (val ys) e' = true ∧ 0 ≤ p ∧ p ≤ 2048
  · by_cases hc : 0 < cmpD (formD false (val xs) e) (formD false (val ys) e')
    · exact qwide_l s a len cap xs e s' a' len' cap' ys e' p w h hm h' hm' hq.1 hq.2 hc
    · exact qwide_h s a len cap xs e s' a' len' cap' ys e' p w h hm h' hm' hq.1 hq.2 hc
  · exact qwide_bad s a len cap xs e s' a' len' cap' ys e' p w h hm h' hm' hq
end Go.Proofs.YtognliaoonkmiaaGreatDoor

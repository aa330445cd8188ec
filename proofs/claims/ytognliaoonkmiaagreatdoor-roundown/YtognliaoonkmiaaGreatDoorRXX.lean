/- Package round: Wide, by the greater end. Package round: Wide, by the greater end. Package round: Wide as it is called, its answers' words the asker's own. -/
import Derived.Test.YtognliaoonkmiaaGreatDoorRC0

namespace Go.Proofs.YtognliaoonkmiaaGreatDoor
open Go.RowKit

theorem nil_own {L H : Bool × Nat × Int} {E k : Int} {w w' : World} (h : E = k ∧ L = (false, 0, 0) ∧ H = (false, 0, 0)) (hb : Below w.heap.size w w') : ∃ al nl cl ah nh ch, (Ending.returned (.tuple #[zIv, .int .i64 k])) = .returned (.tuple #[ivV L.1 al nl cl L.2.2 H.1 ah nh ch H.2.2, .int .i64 E]) ∧ nl ≤ 1024 ∧ nh ≤ 1024 ∧ OwnW w.heap.size w' al nl cl (wordsOf L.2.1) ∧ OwnW w.heap.size w' ah nh ch (wordsOf H.2.1) ∧ Below w.heap.size w w' := by
  obtain ⟨rfl, rfl, rfl⟩ := h
  exact ⟨.none, 0, 0, .none, 0, 0, rfl, by decide, by decide, by rw [words_zero]; exact ownW_nil _ _, by rw [words_zero]; exact ownW_nil _ _, hb⟩

set_option maxRecDepth 100000 in
set_option maxHeartbeats 4000000 in
theorem wide_bad (s : Bool) (a : Option Addr) (len cap : Nat) (xs : List Int) (e : Int) (s' : Bool) (a' : Option Addr) (len' cap' : Nat) (ys : List Int) (e' : Int) (p : Int) (w : World) (h : IsW w a len cap xs) (hm : len ≤ 17592186044000) (h' : IsW w a' len' cap' ys) (hm' : len' ≤ 17592186044000) (hT : Tab w) (hq : ¬ (rtB s (val xs) e s' (val ys) e' = true ∧ 0 ≤ p ∧ p ≤ 2048)) :
    Calls Tryz.prog 7 #[ivV s a len cap e s' a' len' cap' e', .int .i64 p] w fun r w' => ∃ al nl cl ah nh ch, r = .returned (.tuple #[ivV (wdL s (val xs) e s' (val ys) e' p).1 al nl cl (wdL s (val xs) e s' (val ys) e' p).2.2 (wdH s (val xs) e s' (val ys) e' p).1 ah nh ch (wdH s (val xs) e s' (val ys) e' p).2.2, .int .i64 (wdE s (val xs) e s' (val ys) e' p)]) ∧ nl ≤ 1024 ∧ nh ≤ 1024 ∧ OwnW w.heap.size w' al nl cl (wordsOf (wdL s (val xs) e s' (val ys) e' p).2.1) ∧ OwnW w.heap.size w' ah nh ch (wordsOf (wdH s (val xs) e s' (val ys) e' p).2.1) ∧ Below w.heap.size w w' := by
  have HO : Hid _ := wide_out hq
  have HR : Hid _ := fun w' (g : IsW w' a len cap xs) (g' : IsW w' a' len' cap' ys) t' => rright_calls s a len cap xs e s' a' len' cap' ys e' w' g hm g' hm' t'
  generalize wdE s (val xs) e s' (val ys) e' p = EE at *
  generalize wdL s (val xs) e s' (val ys) e' p = LL at *
  generalize wdH s (val xs) e s' (val ys) e' p = HH at *
  generalize rtB s (val xs) e s' (val ys) e' = rr at *
  obtain ⟨bA, c0, c1, c2, c3, c4, c5, z0, z1, z2, z3, z4, z5, f0, f1, f2, f3, f4, f5⟩ := wide0 s a len cap e s' a' len' cap' e' w
  have hI := h.keep bA
  have hJ := h'.keep bA
  have hT0 := hT.kept bA
  clear h h' hT
  go_enter Tryz.func7, Tryz.ntmps7
  go_wp2_with fail
  generalize ((w.alloc (.cells #[.bool s, .slice a len cap, .int .i64 e, .bool s', .slice a' len' cap', .int .i64 e'] 27)).alloc (.cells #[.bool false, .slice none 0 0, .int .i64 0, .bool false, .slice none 0 0, .int .i64 0] 27)) = w0 at *
  refine Calls.mono (HR.out _ hI hJ hT0) ?_
  rintro r w1 ⟨rfl, bN⟩
  replace f0 := kF bN z0 f0
  replace f1 := kF bN z1 f1
  replace f2 := kF bN z2 f2
  replace f3 := kF bN z3 f3
  replace f4 := kF bN z4 f4
  replace f5 := kF bN z5 f5
  replace c0 := kC bN c0
  replace c1 := kC bN c1
  replace c2 := kC bN c2
  replace c3 := kC bN c3
  replace c4 := kC bN c4
  replace c5 := kC bN c5
  replace z0 := kC bN z0
  replace z1 := kC bN z1
  replace z2 := kC bN z2
  replace z3 := kC bN z3
  replace z4 := kC bN z4
  replace z5 := kC bN z5
  replace hI := IsW.keep hI bN
  replace hJ := IsW.keep hJ bN
  replace hT0 := hT0.kept bN
  replace bA := nT bA bN
  clear bN
  cases rr
  · go_wp2_with fail
    exact bodyPost_ret (v := .tuple #[zIv, .int .i64 2]) (by simp [results, Tryz.results7, go_sem, zIv, z0, z1, z2, z3, z4, z5]) rfl (nil_own (HO.out) (by repeat (first | (with_reducible exact bA) | (with_reducible refine Below.setCell ?_ (by simp) _))))
  · by_cases p1 : p < 0
    · go_wp2_with fail
      exact bodyPost_ret (v := .tuple #[zIv, .int .i64 2]) (by simp [results, Tryz.results7, go_sem, zIv, z0, z1, z2, z3, z4, z5]) rfl (nil_own (HO.out) (by repeat (first | (with_reducible exact bA) | (with_reducible refine Below.setCell ?_ (by simp) _))))
    · have p2 : 2048 < p := by
        have q1 : ¬ (0 ≤ p ∧ p ≤ 2048) := fun q => hq ⟨rfl, q⟩
        omega
      clear hq
      go_wp2_with fail
      exact bodyPost_ret (v := .tuple #[zIv, .int .i64 2]) (by simp [results, Tryz.results7, go_sem, zIv, z0, z1, z2, z3, z4, z5]) rfl (nil_own (HO.out) (by repeat (first | (with_reducible exact bA) | (with_reducible refine Below.setCell ?_ (by simp) _))))

set_option maxRecDepth 100000 in
set_option maxHeartbeats 4000000 in
theorem wide_l (s : Bool) (a : Option Addr) (len cap : Nat) (xs : List Int) (e : Int) (s' : Bool) (a' : Option Addr) (len' cap' : Nat) (ys : List Int) (e' : Int) (p : Int) (w : World) (h : IsW w a len cap xs) (hm : len ≤ 17592186044000) (h' : IsW w a' len' cap' ys) (hm' : len' ≤ 17592186044000) (hT : Tab w) (hr : rtB s (val xs) e s' (val ys) e' = true) (hp : 0 ≤ p ∧ p ≤ 2048) (hc : 0 < cmpD (formD false (val xs) e) (formD false (val ys) e')) :
    Calls Tryz.prog 7 #[ivV s a len cap e s' a' len' cap' e', .int .i64 p] w fun r w' => ∃ al nl cl ah nh ch, r = .returned (.tuple #[ivV (wdL s (val xs) e s' (val ys) e' p).1 al nl cl (wdL s (val xs) e s' (val ys) e' p).2.2 (wdH s (val xs) e s' (val ys) e' p).1 ah nh ch (wdH s (val xs) e s' (val ys) e' p).2.2, .int .i64 (wdE s (val xs) e s' (val ys) e' p)]) ∧ nl ≤ 1024 ∧ nh ≤ 1024 ∧ OwnW w.heap.size w' al nl cl (wordsOf (wdL s (val xs) e s' (val ys) e' p).2.1) ∧ OwnW w.heap.size w' ah nh ch (wordsOf (wdH s (val xs) e s' (val ys) e' p).2.1) ∧ Below w.heap.size w w' := by
  have HR : Hid _ := fun w' (g : IsW w' a len cap xs) (g' : IsW w' a' len' cap' ys) t' => rright_calls s a len cap xs e s' a' len' cap' ys e' w' g hm g' hm' t'
  obtain ⟨q1, q2, _⟩ := rt_open hr
  have hp2 : ¬ p < 0 := by omega
  have hp3 : ¬ 2048 < p := by omega
  rw [hr] at HR
  have HG : Hid _ := fun w' (g : IsW w' a len cap xs) (g' : IsW w' a' len' cap' ys) t' => greater_lo s a len cap xs e s' a' len' cap' ys e' w' g hm g' hm' t' q1 q2 hc
  have HS : Hid _ := fun w' (g : IsW w' a len cap xs) t' => pShift_calls false a len cap xs e (-p) w' g (by omega) t'
  have m1 : shE false (val xs) e (-p) = mgE (val xs) e (val ys) e' p := by unfold mgE; rw [if_pos hc]
  have m2 : shP false (val xs) e (-p) = mgP (val xs) e (val ys) e' p := by unfold mgP; rw [if_pos hc]
  rw [m1, m2] at HS
  have W1 : IntKind.i64.wrap (-p) = -p := by rw [IntKind.wrap_i64]; omega
  have HL : Hid _ := fun (ao : Option Addr) (n c : Nat) w' (g : IsW w' a len cap xs) (g' : IsW w' ao n c (wordsOf (mgP (val xs) e (val ys) e' p).2.1)) hn t' => pSub_calls s a len cap xs e (mgP (val xs) e (val ys) e' p).1 ao n c (wordsOf (mgP (val xs) e (val ys) e' p).2.1) (mgP (val xs) e (val ys) e' p).2.2 w' g hm g' hn t'
  have HH' : Hid _ := fun (ao : Option Addr) (n c : Nat) w' (g : IsW w' a' len' cap' ys) (g' : IsW w' ao n c (wordsOf (mgP (val xs) e (val ys) e' p).2.1)) hn t' => pAdd_calls s' a' len' cap' ys e' (mgP (val xs) e (val ys) e' p).1 ao n c (wordsOf (mgP (val xs) e (val ys) e' p).2.1) (mgP (val xs) e (val ys) e' p).2.2 w' g hm' g' hn t'
  rw [val_words] at HL HH'
  have l1 : ∀ (m : Nat) (t : Bool) (f : Int) (P : Bool × Nat × Int), twE (rightB m f && rightB P.2.1 P.2.2) (sumD (formD t m f) (negD (formD P.1 P.2.1 P.2.2))) = wlE t m f P ∧ twP (rightB m f && rightB P.2.1 P.2.2) (sumD (formD t m f) (negD (formD P.1 P.2.1 P.2.2))) = wlP t m f P ∧ twE (rightB m f && rightB P.2.1 P.2.2) (sumD (formD t m f) (formD P.1 P.2.1 P.2.2)) = whE t m f P ∧ twP (rightB m f && rightB P.2.1 P.2.2) (sumD (formD t m f) (formD P.1 P.2.1 P.2.2)) = whP t m f P := fun _ _ _ _ => ⟨rfl, rfl, rfl, rfl⟩
  rw [(l1 _ _ _ _).1, (l1 _ _ _ _).2.1] at HL
  rw [(l1 _ _ _ _).2.2.1, (l1 _ _ _ _).2.2.2] at HH'
  have HK : Hid (∀ _ : mgE (val xs) e (val ys) e' p = 0 ∧ wlE s (val xs) e (mgP (val xs) e (val ys) e' p) = 0 ∧ whE s' (val ys) e' (mgP (val xs) e (val ys) e' p) = 0, wdE s (val xs) e s' (val ys) e' p = 0 ∧ wdL s (val xs) e s' (val ys) e' p = wlP s (val xs) e (mgP (val xs) e (val ys) e' p) ∧ wdH s (val xs) e s' (val ys) e' p = whP s' (val ys) e' (mgP (val xs) e (val ys) e' p)) := fun q => by
    have e7 : wdE s (val xs) e s' (val ys) e' p = 0 := by unfold wdE; rw [if_pos ⟨hr, hp⟩, if_pos q]
    unfold wdL wdH
    rw [if_pos e7, if_pos e7]
    exact ⟨e7, rfl, rfl⟩
  have HN : Hid (∀ _ : ¬ (mgE (val xs) e (val ys) e' p = 0 ∧ wlE s (val xs) e (mgP (val xs) e (val ys) e' p) = 0 ∧ whE s' (val ys) e' (mgP (val xs) e (val ys) e' p) = 0), wdE s (val xs) e s' (val ys) e' p = 3 ∧ wdL s (val xs) e s' (val ys) e' p = (false, 0, 0) ∧ wdH s (val xs) e s' (val ys) e' p = (false, 0, 0)) := fun q => by
    have e7 : wdE s (val xs) e s' (val ys) e' p = 3 := by unfold wdE; rw [if_pos ⟨hr, hp⟩, if_neg q]
    unfold wdL wdH
    rw [e7]
    exact ⟨rfl, rfl, rfl⟩
  clear hr q1 q2 m1 m2 hc l1
  generalize wdE s (val xs) e s' (val ys) e' p = EE at *
  generalize wdL s (val xs) e s' (val ys) e' p = LL at *
  generalize wdH s (val xs) e s' (val ys) e' p = HH at *
  generalize mgE (val xs) e (val ys) e' p = eM at *
  generalize wlE s (val xs) e (mgP (val xs) e (val ys) e' p) = eL at *
  generalize whE s' (val ys) e' (mgP (val xs) e (val ys) e' p) = eH at *
  generalize wlP s (val xs) e (mgP (val xs) e (val ys) e' p) = PL at *
  generalize whP s' (val ys) e' (mgP (val xs) e (val ys) e' p) = PH at *
  generalize mgP (val xs) e (val ys) e' p = P at *
  obtain ⟨bA, c0, c1, c2, c3, c4, c5, z0, z1, z2, z3, z4, z5, f0, f1, f2, f3, f4, f5⟩ := wide0 s a len cap e s' a' len' cap' e' w
  have hI := h.keep bA
  have hJ := h'.keep bA
  have hT0 := hT.kept bA
  clear h h' hT
  go_enter Tryz.func7, Tryz.ntmps7
  go_wp2_with fail
  generalize ((w.alloc (.cells #[.bool s, .slice a len cap, .int .i64 e, .bool s', .slice a' len' cap', .int .i64 e'] 27)).alloc (.cells #[.bool false, .slice none 0 0, .int .i64 0, .bool false, .slice none 0 0, .int .i64 0] 27)) = w0 at *
  refine Calls.mono (HR.out _ hI hJ hT0) ?_
  rintro r w1 ⟨rfl, bN⟩
  replace f0 := kF bN z0 f0
  replace f1 := kF bN z1 f1
  replace f2 := kF bN z2 f2
  replace f3 := kF bN z3 f3
  replace f4 := kF bN z4 f4
  replace f5 := kF bN z5 f5
  replace c0 := kC bN c0
  replace c1 := kC bN c1
  replace c2 := kC bN c2
  replace c3 := kC bN c3
  replace c4 := kC bN c4
  replace c5 := kC bN c5
  replace z0 := kC bN z0
  replace z1 := kC bN z1
  replace z2 := kC bN z2
  replace z3 := kC bN z3
  replace z4 := kC bN z4
  replace z5 := kC bN z5
  replace hI := IsW.keep hI bN
  replace hJ := IsW.keep hJ bN
  replace hT0 := hT0.kept bN
  replace bA := nT bA bN
  clear bN
  go_wp2_with fail
  refine Calls.mono (HG.out _ hI hJ hT0) ?_
  rintro r w2 ⟨rfl, bN⟩
  replace f0 := kF bN z0 f0
  replace f1 := kF bN z1 f1
  replace f2 := kF bN z2 f2
  replace f3 := kF bN z3 f3
  replace f4 := kF bN z4 f4
  replace f5 := kF bN z5 f5
  replace c0 := kC bN c0
  replace c1 := kC bN c1
  replace c2 := kC bN c2
  replace c3 := kC bN c3
  replace c4 := kC bN c4
  replace c5 := kC bN c5
  replace z0 := kC bN z0
  replace z1 := kC bN z1
  replace z2 := kC bN z2
  replace z3 := kC bN z3
  replace z4 := kC bN z4
  replace z5 := kC bN z5
  replace hI := IsW.keep hI bN
  replace hJ := IsW.keep hJ bN
  replace hT0 := hT0.kept bN
  replace bA := nT bA bN
  clear bN
  go_wp2_with fail
  refine Calls.mono (HS.out _ hI hT0) ?_
  rintro r w3 ⟨v, rfl, ⟨ao, no, co, rfl, -, hle, hOw⟩, bN⟩
  have hO := hOw.1
  clear hOw
  replace f0 := kF bN z0 f0
  replace f1 := kF bN z1 f1
  replace f2 := kF bN z2 f2
  replace f3 := kF bN z3 f3
  replace f4 := kF bN z4 f4
  replace f5 := kF bN z5 f5
  replace c0 := kC bN c0
  replace c1 := kC bN c1
  replace c2 := kC bN c2
  replace c3 := kC bN c3
  replace c4 := kC bN c4
  replace c5 := kC bN c5
  replace z0 := kC bN z0
  replace z1 := kC bN z1
  replace z2 := kC bN z2
  replace z3 := kC bN z3
  replace z4 := kC bN z4
  replace z5 := kC bN z5
  replace hI := IsW.keep hI bN
  replace hJ := IsW.keep hJ bN
  replace hT0 := hT0.kept bN
  replace bA := nT bA bN
  clear bN
  by_cases jm : eM ≠ 0
  · skip
    have bB := below_one w3 (.cells #[.bool P.1, .slice ao no co, .int .i64 P.2.2] 25)
    obtain ⟨m0, m1, m2⟩ := bx3 w3 (.bool P.1) (.slice ao no co) (.int .i64 P.2.2) 25
    replace f0 := kF bB z0 f0
    replace f1 := kF bB z1 f1
    replace f2 := kF bB z2 f2
    replace f3 := kF bB z3 f3
    replace f4 := kF bB z4 f4
    replace f5 := kF bB z5 f5
    replace c0 := kC bB c0
    replace c1 := kC bB c1
    replace c2 := kC bB c2
    replace c3 := kC bB c3
    replace c4 := kC bB c4
    replace c5 := kC bB c5
    replace z0 := kC bB z0
    replace z1 := kC bB z1
    replace z2 := kC bB z2
    replace z3 := kC bB z3
    replace z4 := kC bB z4
    replace z5 := kC bB z5
    replace hI := IsW.keep hI bB
    replace hJ := IsW.keep hJ bB
    replace hO := IsW.keep hO bB
    replace hT0 := hT0.kept bB
    replace bA := nT bA bB
    clear bB
    go_wp2_with fail
    exact bodyPost_ret (v := .tuple #[zIv, .int .i64 3]) (by simp [results, Tryz.results7, go_sem, zIv, z0, z1, z2, z3, z4, z5]) rfl (nil_own (HN.out (fun q => jm q.1)) (by repeat (first | (with_reducible exact bA) | (with_reducible refine Below.setCell ?_ (by simp) _))))
  replace jm : eM = 0 := Decidable.of_not_not jm
  subst jm
  have bB := below_one w3 (.cells #[.bool P.1, .slice ao no co, .int .i64 P.2.2] 25)
  obtain ⟨m0, m1, m2⟩ := bx3 w3 (.bool P.1) (.slice ao no co) (.int .i64 P.2.2) 25
  replace f0 := kF bB z0 f0
  replace f1 := kF bB z1 f1
  replace f2 := kF bB z2 f2
  replace f3 := kF bB z3 f3
  replace f4 := kF bB z4 f4
  replace f5 := kF bB z5 f5
  replace c0 := kC bB c0
  replace c1 := kC bB c1
  replace c2 := kC bB c2
  replace c3 := kC bB c3
  replace c4 := kC bB c4
  replace c5 := kC bB c5
  replace z0 := kC bB z0
  replace z1 := kC bB z1
  replace z2 := kC bB z2
  replace z3 := kC bB z3
  replace z4 := kC bB z4
  replace z5 := kC bB z5
  replace hI := IsW.keep hI bB
  replace hJ := IsW.keep hJ bB
  replace hO := IsW.keep hO bB
  replace hT0 := hT0.kept bB
  replace bA := nT bA bB
  clear bB
  go_wp2_with fail
  generalize (w3.alloc (.cells #[.bool P.1, .slice ao no co, .int .i64 P.2.2] 25)) = w4 at *
  have lw1 : Hid (_ ≤ _) := bA.size
  refine Calls.mono (HL.out _ _ _ _ hI hO (by omega) hT0) ?_
  rintro r w5 ⟨v, rfl, ⟨al, nl, cl, rfl, -, hll, hOl⟩, bN⟩
  have hl0 := hOl.low lw1.out
  clear hOl lw1
  replace f0 := kF bN z0 f0
  replace f1 := kF bN z1 f1
  replace f2 := kF bN z2 f2
  replace f3 := kF bN z3 f3
  replace f4 := kF bN z4 f4
  replace f5 := kF bN z5 f5
  replace c0 := kC bN c0
  replace c1 := kC bN c1
  replace c2 := kC bN c2
  replace c3 := kC bN c3
  replace c4 := kC bN c4
  replace c5 := kC bN c5
  replace z0 := kC bN z0
  replace z1 := kC bN z1
  replace z2 := kC bN z2
  replace z3 := kC bN z3
  replace z4 := kC bN z4
  replace z5 := kC bN z5
  replace m0 := kC bN m0
  replace m1 := kC bN m1
  replace m2 := kC bN m2
  replace hI := IsW.keep hI bN
  replace hJ := IsW.keep hJ bN
  replace hO := IsW.keep hO bN
  replace hT0 := hT0.kept bN
  replace bA := nT bA bN
  clear bN
  by_cases jl : eL ≠ 0
  · skip
    have bB := below_one w5 (.cells #[.bool PL.1, .slice al nl cl, .int .i64 PL.2.2] 25)
    obtain ⟨l0, l1, l2⟩ := bx3 w5 (.bool PL.1) (.slice al nl cl) (.int .i64 PL.2.2) 25
    replace hl0 := hl0.keep bB
    replace f0 := kF bB z0 f0
    replace f1 := kF bB z1 f1
    replace f2 := kF bB z2 f2
    replace f3 := kF bB z3 f3
    replace f4 := kF bB z4 f4
    replace f5 := kF bB z5 f5
    replace c0 := kC bB c0
    replace c1 := kC bB c1
    replace c2 := kC bB c2
    replace c3 := kC bB c3
    replace c4 := kC bB c4
    replace c5 := kC bB c5
    replace z0 := kC bB z0
    replace z1 := kC bB z1
    replace z2 := kC bB z2
    replace z3 := kC bB z3
    replace z4 := kC bB z4
    replace z5 := kC bB z5
    replace m0 := kC bB m0
    replace m1 := kC bB m1
    replace m2 := kC bB m2
    replace hI := IsW.keep hI bB
    replace hJ := IsW.keep hJ bB
    replace hO := IsW.keep hO bB
    replace hT0 := hT0.kept bB
    replace bA := nT bA bB
    clear bB
    go_wp2_with fail
    exact bodyPost_ret (v := .tuple #[zIv, .int .i64 3]) (by simp [results, Tryz.results7, go_sem, zIv, z0, z1, z2, z3, z4, z5]) rfl (nil_own (HN.out (fun q => jl q.2.1)) (by repeat (first | (with_reducible exact bA) | (with_reducible refine Below.setCell ?_ (by simp) _))))
  replace jl : eL = 0 := Decidable.of_not_not jl
  subst jl
  have bB := below_one w5 (.cells #[.bool PL.1, .slice al nl cl, .int .i64 PL.2.2] 25)
  obtain ⟨l0, l1, l2⟩ := bx3 w5 (.bool PL.1) (.slice al nl cl) (.int .i64 PL.2.2) 25
  replace hl0 := hl0.keep bB
  replace f0 := kF bB z0 f0
  replace f1 := kF bB z1 f1
  replace f2 := kF bB z2 f2
  replace f3 := kF bB z3 f3
  replace f4 := kF bB z4 f4
  replace f5 := kF bB z5 f5
  replace c0 := kC bB c0
  replace c1 := kC bB c1
  replace c2 := kC bB c2
  replace c3 := kC bB c3
  replace c4 := kC bB c4
  replace c5 := kC bB c5
  replace z0 := kC bB z0
  replace z1 := kC bB z1
  replace z2 := kC bB z2
  replace z3 := kC bB z3
  replace z4 := kC bB z4
  replace z5 := kC bB z5
  replace m0 := kC bB m0
  replace m1 := kC bB m1
  replace m2 := kC bB m2
  replace hI := IsW.keep hI bB
  replace hJ := IsW.keep hJ bB
  replace hO := IsW.keep hO bB
  replace hT0 := hT0.kept bB
  replace bA := nT bA bB
  clear bB
  go_wp2_with fail
  generalize (w5.alloc (.cells #[.bool PL.1, .slice al nl cl, .int .i64 PL.2.2] 25)) = w6 at *
  have lw2 : Hid (_ ≤ _) := bA.size
  refine Calls.mono (HH'.out _ _ _ _ hJ hO (by omega) hT0) ?_
  rintro r w7 ⟨v, rfl, ⟨ah, nh, ch, rfl, -, hlh, hOh⟩, bN⟩
  have hh0 := hOh.low lw2.out
  clear hOh lw2
  replace hl0 := hl0.keep bN
  replace f0 := kF bN z0 f0
  replace f1 := kF bN z1 f1
  replace f2 := kF bN z2 f2
  replace f3 := kF bN z3 f3
  replace f4 := kF bN z4 f4
  replace f5 := kF bN z5 f5
  replace c0 := kC bN c0
  replace c1 := kC bN c1
  replace c2 := kC bN c2
  replace c3 := kC bN c3
  replace c4 := kC bN c4
  replace c5 := kC bN c5
  replace z0 := kC bN z0
  replace z1 := kC bN z1
  replace z2 := kC bN z2
  replace z3 := kC bN z3
  replace z4 := kC bN z4
  replace z5 := kC bN z5
  replace m0 := kC bN m0
  replace m1 := kC bN m1
  replace m2 := kC bN m2
  replace l0 := kC bN l0
  replace l1 := kC bN l1
  replace l2 := kC bN l2
  replace hI := IsW.keep hI bN
  replace hJ := IsW.keep hJ bN
  replace hO := IsW.keep hO bN
  replace hT0 := hT0.kept bN
  replace bA := nT bA bN
  clear bN
  by_cases jk : eH ≠ 0
  · skip
    have bB := below_one w7 (.cells #[.bool PH.1, .slice ah nh ch, .int .i64 PH.2.2] 25)
    obtain ⟨k0, k1, k2⟩ := bx3 w7 (.bool PH.1) (.slice ah nh ch) (.int .i64 PH.2.2) 25
    replace hl0 := hl0.keep bB
    replace hh0 := hh0.keep bB
    replace f0 := kF bB z0 f0
    replace f1 := kF bB z1 f1
    replace f2 := kF bB z2 f2
    replace f3 := kF bB z3 f3
    replace f4 := kF bB z4 f4
    replace f5 := kF bB z5 f5
    replace c0 := kC bB c0
    replace c1 := kC bB c1
    replace c2 := kC bB c2
    replace c3 := kC bB c3
    replace c4 := kC bB c4
    replace c5 := kC bB c5
    replace z0 := kC bB z0
    replace z1 := kC bB z1
    replace z2 := kC bB z2
    replace z3 := kC bB z3
    replace z4 := kC bB z4
    replace z5 := kC bB z5
    replace m0 := kC bB m0
    replace m1 := kC bB m1
    replace m2 := kC bB m2
    replace l0 := kC bB l0
    replace l1 := kC bB l1
    replace l2 := kC bB l2
    replace hI := IsW.keep hI bB
    replace hJ := IsW.keep hJ bB
    replace hO := IsW.keep hO bB
    replace hT0 := hT0.kept bB
    replace bA := nT bA bB
    clear bB
    go_wp2_with fail
    exact bodyPost_ret (v := .tuple #[zIv, .int .i64 3]) (by simp [results, Tryz.results7, go_sem, zIv, z0, z1, z2, z3, z4, z5]) rfl (nil_own (HN.out (fun q => jk q.2.2)) (by repeat (first | (with_reducible exact bA) | (with_reducible refine Below.setCell ?_ (by simp) _))))
  replace jk : eH = 0 := Decidable.of_not_not jk
  subst jk
  have bB := below_one w7 (.cells #[.bool PH.1, .slice ah nh ch, .int .i64 PH.2.2] 25)
  obtain ⟨k0, k1, k2⟩ := bx3 w7 (.bool PH.1) (.slice ah nh ch) (.int .i64 PH.2.2) 25
  replace hl0 := hl0.keep bB
  replace hh0 := hh0.keep bB
  replace f0 := kF bB z0 f0
  replace f1 := kF bB z1 f1
  replace f2 := kF bB z2 f2
  replace f3 := kF bB z3 f3
  replace f4 := kF bB z4 f4
  replace f5 := kF bB z5 f5
  replace c0 := kC bB c0
  replace c1 := kC bB c1
  replace c2 := kC bB c2
  replace c3 := kC bB c3
  replace c4 := kC bB c4
  replace c5 := kC bB c5
  replace z0 := kC bB z0
  replace z1 := kC bB z1
  replace z2 := kC bB z2
  replace z3 := kC bB z3
  replace z4 := kC bB z4
  replace z5 := kC bB z5
  replace m0 := kC bB m0
  replace m1 := kC bB m1
  replace m2 := kC bB m2
  replace l0 := kC bB l0
  replace l1 := kC bB l1
  replace l2 := kC bB l2
  replace hI := IsW.keep hI bB
  replace hJ := IsW.keep hJ bB
  replace hO := IsW.keep hO bB
  replace hT0 := hT0.kept bB
  replace bA := nT bA bB
  clear bB
  go_wp2_with fail
  generalize (w7.alloc (.cells #[.bool PH.1, .slice ah nh ch, .int .i64 PH.2.2] 25)) = w8 at *
  have s6 := six_of z0 z1 z2 z3 z4 z5 (fun _ q => by cases q) (fun _ q => by cases q) (fun _ q => by cases q) (fun _ q => by cases q) (fun _ q => by cases q) (fun _ q => by cases q)
  have KK : Hid _ := HK.out ⟨(by first | rfl | trivial), (by first | rfl | trivial), (by first | rfl | trivial)⟩
  exact bodyPost_ret (v := .tuple #[ivV PL.1 al nl cl PL.2.2 PH.1 ah nh ch PH.2.2, .int .i64 0]) (by simp [results, Tryz.results7, go_sem, z0, z1, z2, z3, z4, z5]) rfl ⟨al, nl, cl, ah, nh, ch, by rw [KK.out.1, KK.out.2.1, KK.out.2.2], hll, hlh, by rw [KK.out.2.1]; exact ownW_six hl0 s6 _ _ _ _ _ _, by rw [KK.out.2.2]; exact ownW_six hh0 s6 _ _ _ _ _ _, by repeat (first | (with_reducible exact bA) | (with_reducible refine Below.setCell ?_ (by simp) _))⟩

end Go.Proofs.YtognliaoonkmiaaGreatDoor

namespace Go.Proofs.YtognliaoonkmiaaGreatDoor
open Go.RowKit

set_option maxRecDepth 100000 in
set_option maxHeartbeats 4000000 in
theorem wide_h (s : Bool) (a : Option Addr) (len cap : Nat) (xs : List Int) (e : Int) (s' : Bool) (a' : Option Addr) (len' cap' : Nat) (ys : List Int) (e' : Int) (p : Int) (w : World) (h : IsW w a len cap xs) (hm : len ≤ 17592186044000) (h' : IsW w a' len' cap' ys) (hm' : len' ≤ 17592186044000) (hT : Tab w) (hr : rtB s (val xs) e s' (val ys) e' = true) (hp : 0 ≤ p ∧ p ≤ 2048) (hc : ¬ 0 < cmpD (formD false (val xs) e) (formD false (val ys) e')) :
    Calls Tryz.prog 7 #[ivV s a len cap e s' a' len' cap' e', .int .i64 p] w fun r w' => ∃ al nl cl ah nh ch, r = .returned (.tuple #[ivV (wdL s (val xs) e s' (val ys) e' p).1 al nl cl (wdL s (val xs) e s' (val ys) e' p).2.2 (wdH s (val xs) e s' (val ys) e' p).1 ah nh ch (wdH s (val xs) e s' (val ys) e' p).2.2, .int .i64 (wdE s (val xs) e s' (val ys) e' p)]) ∧ nl ≤ 1024 ∧ nh ≤ 1024 ∧ OwnW w.heap.size w' al nl cl (wordsOf (wdL s (val xs) e s' (val ys) e' p).2.1) ∧ OwnW w.heap.size w' ah nh ch (wordsOf (wdH s (val xs) e s' (val ys) e' p).2.1) ∧ Below w.heap.size w w' := by
  have HR : Hid _ := fun w' (g : IsW w' a len cap xs) (g' : IsW w' a' len' cap' ys) t' => rright_calls s a len cap xs e s' a' len' cap' ys e' w' g hm g' hm' t'
  obtain ⟨q1, q2, _⟩ := rt_open hr
  have hp2 : ¬ p < 0 := by omega
  have hp3 : ¬ 2048 < p := by omega
  rw [hr] at HR
  have HG : Hid _ := fun w' (g : IsW w' a len cap xs) (g' : IsW w' a' len' cap' ys) t' => greater_hi s a len cap xs e s' a' len' cap' ys e' w' g hm g' hm' t' q1 q2 hc
  have HS : Hid _ := fun w' (g : IsW w' a' len' cap' ys) t' => pShift_calls false a' len' cap' ys e' (-p) w' g (by omega) t'
  have m1 : shE false (val ys) e' (-p) = mgE (val xs) e (val ys) e' p := by unfold mgE; rw [if_neg hc]
  have m2 : shP false (val ys) e' (-p) = mgP (val xs) e (val ys) e' p := by unfold mgP; rw [if_neg hc]
  rw [m1, m2] at HS
  have W1 : IntKind.i64.wrap (-p) = -p := by rw [IntKind.wrap_i64]; omega
  have HL : Hid _ := fun (ao : Option Addr) (n c : Nat) w' (g : IsW w' a len cap xs) (g' : IsW w' ao n c (wordsOf (mgP (val xs) e (val ys) e' p).2.1)) hn t' => pSub_calls s a len cap xs e (mgP (val xs) e (val ys) e' p).1 ao n c (wordsOf (mgP (val xs) e (val ys) e' p).2.1) (mgP (val xs) e (val ys) e' p).2.2 w' g hm g' hn t'
  have HH' : Hid _ := fun (ao : Option Addr) (n c : Nat) w' (g : IsW w' a' len' cap' ys) (g' : IsW w' ao n c (wordsOf (mgP (val xs) e (val ys) e' p).2.1)) hn t' => pAdd_calls s' a' len' cap' ys e' (mgP (val xs) e (val ys) e' p).1 ao n c (wordsOf (mgP (val xs) e (val ys) e' p).2.1) (mgP (val xs) e (val ys) e' p).2.2 w' g hm' g' hn t'
  rw [val_words] at HL HH'
  have l1 : ∀ (m : Nat) (t : Bool) (f : Int) (P : Bool × Nat × Int), twE (rightB m f && rightB P.2.1 P.2.2) (sumD (formD t m f) (negD (formD P.1 P.2.1 P.2.2))) = wlE t m f P ∧ twP (rightB m f && rightB P.2.1 P.2.2) (sumD (formD t m f) (negD (formD P.1 P.2.1 P.2.2))) = wlP t m f P ∧ twE (rightB m f && rightB P.2.1 P.2.2) (sumD (formD t m f) (formD P.1 P.2.1 P.2.2)) = whE t m f P ∧ twP (rightB m f && rightB P.2.1 P.2.2) (sumD (formD t m f) (formD P.1 P.2.1 P.2.2)) = whP t m f P := fun _ _ _ _ => ⟨rfl, rfl, rfl, rfl⟩
  rw [(l1 _ _ _ _).1, (l1 _ _ _ _).2.1] at HL
  rw [(l1 _ _ _ _).2.2.1, (l1 _ _ _ _).2.2.2] at HH'
  have HK : Hid (∀ _ : mgE (val xs) e (val ys) e' p = 0 ∧ wlE s (val xs) e (mgP (val xs) e (val ys) e' p) = 0 ∧ whE s' (val ys) e' (mgP (val xs) e (val ys) e' p) = 0, wdE s (val xs) e s' (val ys) e' p = 0 ∧ wdL s (val xs) e s' (val ys) e' p = wlP s (val xs) e (mgP (val xs) e (val ys) e' p) ∧ wdH s (val xs) e s' (val ys) e' p = whP s' (val ys) e' (mgP (val xs) e (val ys) e' p)) := fun q => by
    have e7 : wdE s (val xs) e s' (val ys) e' p = 0 := by unfold wdE; rw [if_pos ⟨hr, hp⟩, if_pos q]
    unfold wdL wdH
    rw [if_pos e7, if_pos e7]
    exact ⟨e7, rfl, rfl⟩
  have HN : Hid (∀ _ : ¬ (mgE (val xs) e (val ys) e' p = 0 ∧ wlE s (val xs) e (mgP (val xs) e (val ys) e' p) = 0 ∧ whE s' (val ys) e' (mgP (val xs) e (val ys) e' p) = 0), wdE s (val xs) e s' (val ys) e' p = 3 ∧ wdL s (val xs) e s' (val ys) e' p = (false, 0, 0) ∧ wdH s (val xs) e s' (val ys) e' p = (false, 0, 0)) := fun q => by
    have e7 : wdE s (val xs) e s' (val ys) e' p = 3 := by unfold wdE; rw [if_pos ⟨hr, hp⟩, if_neg q]
    unfold wdL wdH
    rw [e7]
    exact ⟨rfl, rfl, rfl⟩
  clear hr q1 q2 m1 m2 hc l1
  generalize wdE s (val xs) e s' (val ys) e' p = EE at *
  generalize wdL s (val xs) e s' (val ys) e' p = LL at *
  generalize wdH s (val xs) e s' (val ys) e' p = HH at *
  generalize mgE (val xs) e (val ys) e' p = eM at *
  generalize wlE s (val xs) e (mgP (val xs) e (val ys) e' p) = eL at *
  generalize whE s' (val ys) e' (mgP (val xs) e (val ys) e' p) = eH at *
  generalize wlP s (val xs) e (mgP (val xs) e (val ys) e' p) = PL at *
  generalize whP s' (val ys) e' (mgP (val xs) e (val ys) e' p) = PH at *
  generalize mgP (val xs) e (val ys) e' p = P at *
  obtain ⟨bA, c0, c1, c2, c3, c4, c5, z0, z1, z2, z3, z4, z5, f0, f1, f2, f3, f4, f5⟩ := wide0 s a len cap e s' a' len' cap' e' w
  have hI := h.keep bA
  have hJ := h'.keep bA
  have hT0 := hT.kept bA
  clear h h' hT
  go_enter Tryz.func7, Tryz.ntmps7
  go_wp2_with fail
  generalize ((w.alloc (.cells #[.bool s, .slice a len cap, .int .i64 e, .bool s', .slice a' len' cap', .int .i64 e'] 27)).alloc (.cells #[.bool false, .slice none 0 0, .int .i64 0, .bool false, .slice none 0 0, .int .i64 0] 27)) = w0 at *
  refine Calls.mono (HR.out _ hI hJ hT0) ?_
  rintro r w1 ⟨rfl, bN⟩
  replace f0 := kF bN z0 f0
  replace f1 := kF bN z1 f1
  replace f2 := kF bN z2 f2
  replace f3 := kF bN z3 f3
  replace f4 := kF bN z4 f4
  replace f5 := kF bN z5 f5
  replace c0 := kC bN c0
  replace c1 := kC bN c1
  replace c2 := kC bN c2
  replace c3 := kC bN c3
  replace c4 := kC bN c4
  replace c5 := kC bN c5
  replace z0 := kC bN z0
  replace z1 := kC bN z1
  replace z2 := kC bN z2
  replace z3 := kC bN z3
  replace z4 := kC bN z4
  replace z5 := kC bN z5
  replace hI := IsW.keep hI bN
  replace hJ := IsW.keep hJ bN
  replace hT0 := hT0.kept bN
  replace bA := nT bA bN
  clear bN
  go_wp2_with fail
  refine Calls.mono (HG.out _ hI hJ hT0) ?_
  rintro r w2 ⟨rfl, bN⟩
  replace f0 := kF bN z0 f0
  replace f1 := kF bN z1 f1
  replace f2 := kF bN z2 f2
  replace f3 := kF bN z3 f3
  replace f4 := kF bN z4 f4
  replace f5 := kF bN z5 f5
  replace c0 := kC bN c0
  replace c1 := kC bN c1
  replace c2 := kC bN c2
  replace c3 := kC bN c3
  replace c4 := kC bN c4
  replace c5 := kC bN c5
  replace z0 := kC bN z0
  replace z1 := kC bN z1
  replace z2 := kC bN z2
  replace z3 := kC bN z3
  replace z4 := kC bN z4
  replace z5 := kC bN z5
  replace hI := IsW.keep hI bN
  replace hJ := IsW.keep hJ bN
  replace hT0 := hT0.kept bN
  replace bA := nT bA bN
  clear bN
  go_wp2_with fail
  refine Calls.mono (HS.out _ hJ hT0) ?_
  rintro r w3 ⟨v, rfl, ⟨ao, no, co, rfl, -, hle, hOw⟩, bN⟩
  have hO := hOw.1
  clear hOw
  replace f0 := kF bN z0 f0
  replace f1 := kF bN z1 f1
  replace f2 := kF bN z2 f2
  replace f3 := kF bN z3 f3
  replace f4 := kF bN z4 f4
  replace f5 := kF bN z5 f5
  replace c0 := kC bN c0
  replace c1 := kC bN c1
  replace c2 := kC bN c2
  replace c3 := kC bN c3
  replace c4 := kC bN c4
  replace c5 := kC bN c5
  replace z0 := kC bN z0
  replace z1 := kC bN z1
  replace z2 := kC bN z2
  replace z3 := kC bN z3
  replace z4 := kC bN z4
  replace z5 := kC bN z5
  replace hI := IsW.keep hI bN
  replace hJ := IsW.keep hJ bN
  replace hT0 := hT0.kept bN
  replace bA := nT bA bN
  clear bN
  by_cases jm : eM ≠ 0
  · skip
    have bB := below_one w3 (.cells #[.bool P.1, .slice ao no co, .int .i64 P.2.2] 25)
    obtain ⟨m0, m1, m2⟩ := bx3 w3 (.bool P.1) (.slice ao no co) (.int .i64 P.2.2) 25
    replace f0 := kF bB z0 f0
    replace f1 := kF bB z1 f1
    replace f2 := kF bB z2 f2
    replace f3 := kF bB z3 f3
    replace f4 := kF bB z4 f4
    replace f5 := kF bB z5 f5
    replace c0 := kC bB c0
    replace c1 := kC bB c1
    replace c2 := kC bB c2
    replace c3 := kC bB c3
    replace c4 := kC bB c4
    replace c5 := kC bB c5
    replace z0 := kC bB z0
    replace z1 := kC bB z1
    replace z2 := kC bB z2
    replace z3 := kC bB z3
    replace z4 := kC bB z4
    replace z5 := kC bB z5
    replace hI := IsW.keep hI bB
    replace hJ := IsW.keep hJ bB
    replace hO := IsW.keep hO bB
    replace hT0 := hT0.kept bB
    replace bA := nT bA bB
    clear bB
    go_wp2_with fail
    exact bodyPost_ret (v := .tuple #[zIv, .int .i64 3]) (by simp [results, Tryz.results7, go_sem, zIv, z0, z1, z2, z3, z4, z5]) rfl (nil_own (HN.out (fun q => jm q.1)) (by repeat (first | (with_reducible exact bA) | (with_reducible refine Below.setCell ?_ (by simp) _))))
  replace jm : eM = 0 := Decidable.of_not_not jm
  subst jm
  have bB := below_one w3 (.cells #[.bool P.1, .slice ao no co, .int .i64 P.2.2] 25)
  obtain ⟨m0, m1, m2⟩ := bx3 w3 (.bool P.1) (.slice ao no co) (.int .i64 P.2.2) 25
  replace f0 := kF bB z0 f0
  replace f1 := kF bB z1 f1
  replace f2 := kF bB z2 f2
  replace f3 := kF bB z3 f3
  replace f4 := kF bB z4 f4
  replace f5 := kF bB z5 f5
  replace c0 := kC bB c0
  replace c1 := kC bB c1
  replace c2 := kC bB c2
  replace c3 := kC bB c3
  replace c4 := kC bB c4
  replace c5 := kC bB c5
  replace z0 := kC bB z0
  replace z1 := kC bB z1
  replace z2 := kC bB z2
  replace z3 := kC bB z3
  replace z4 := kC bB z4
  replace z5 := kC bB z5
  replace hI := IsW.keep hI bB
  replace hJ := IsW.keep hJ bB
  replace hO := IsW.keep hO bB
  replace hT0 := hT0.kept bB
  replace bA := nT bA bB
  clear bB
  go_wp2_with fail
  generalize (w3.alloc (.cells #[.bool P.1, .slice ao no co, .int .i64 P.2.2] 25)) = w4 at *
  have lw1 : Hid (_ ≤ _) := bA.size
  refine Calls.mono (HL.out _ _ _ _ hI hO (by omega) hT0) ?_
  rintro r w5 ⟨v, rfl, ⟨al, nl, cl, rfl, -, hll, hOl⟩, bN⟩
  have hl0 := hOl.low lw1.out
  clear hOl lw1
  replace f0 := kF bN z0 f0
  replace f1 := kF bN z1 f1
  replace f2 := kF bN z2 f2
  replace f3 := kF bN z3 f3
  replace f4 := kF bN z4 f4
  replace f5 := kF bN z5 f5
  replace c0 := kC bN c0
  replace c1 := kC bN c1
  replace c2 := kC bN c2
  replace c3 := kC bN c3
  replace c4 := kC bN c4
  replace c5 := kC bN c5
  replace z0 := kC bN z0
  replace z1 := kC bN z1
  replace z2 := kC bN z2
  replace z3 := kC bN z3
  replace z4 := kC bN z4
  replace z5 := kC bN z5
  replace m0 := kC bN m0
  replace m1 := kC bN m1
  replace m2 := kC bN m2
  replace hI := IsW.keep hI bN
  replace hJ := IsW.keep hJ bN
  replace hO := IsW.keep hO bN
  replace hT0 := hT0.kept bN
  replace bA := nT bA bN
  clear bN
  by_cases jl : eL ≠ 0
  · skip
    have bB := below_one w5 (.cells #[.bool PL.1, .slice al nl cl, .int .i64 PL.2.2] 25)
    obtain ⟨l0, l1, l2⟩ := bx3 w5 (.bool PL.1) (.slice al nl cl) (.int .i64 PL.2.2) 25
    replace hl0 := hl0.keep bB
    replace f0 := kF bB z0 f0
    replace f1 := kF bB z1 f1
    replace f2 := kF bB z2 f2
    replace f3 := kF bB z3 f3
    replace f4 := kF bB z4 f4
    replace f5 := kF bB z5 f5
    replace c0 := kC bB c0
    replace c1 := kC bB c1
    replace c2 := kC bB c2
    replace c3 := kC bB c3
    replace c4 := kC bB c4
    replace c5 := kC bB c5
    replace z0 := kC bB z0
    replace z1 := kC bB z1
    replace z2 := kC bB z2
    replace z3 := kC bB z3
    replace z4 := kC bB z4
    replace z5 := kC bB z5
    replace m0 := kC bB m0
    replace m1 := kC bB m1
    replace m2 := kC bB m2
    replace hI := IsW.keep hI bB
    replace hJ := IsW.keep hJ bB
    replace hO := IsW.keep hO bB
    replace hT0 := hT0.kept bB
    replace bA := nT bA bB
    clear bB
    go_wp2_with fail
    exact bodyPost_ret (v := .tuple #[zIv, .int .i64 3]) (by simp [results, Tryz.results7, go_sem, zIv, z0, z1, z2, z3, z4, z5]) rfl (nil_own (HN.out (fun q => jl q.2.1)) (by repeat (first | (with_reducible exact bA) | (with_reducible refine Below.setCell ?_ (by simp) _))))
  replace jl : eL = 0 := Decidable.of_not_not jl
  subst jl
  have bB := below_one w5 (.cells #[.bool PL.1, .slice al nl cl, .int .i64 PL.2.2] 25)
  obtain ⟨l0, l1, l2⟩ := bx3 w5 (.bool PL.1) (.slice al nl cl) (.int .i64 PL.2.2) 25
  replace hl0 := hl0.keep bB
  replace f0 := kF bB z0 f0
  replace f1 := kF bB z1 f1
  replace f2 := kF bB z2 f2
  replace f3 := kF bB z3 f3
  replace f4 := kF bB z4 f4
  replace f5 := kF bB z5 f5
  replace c0 := kC bB c0
  replace c1 := kC bB c1
  replace c2 := kC bB c2
  replace c3 := kC bB c3
  replace c4 := kC bB c4
  replace c5 := kC bB c5
  replace z0 := kC bB z0
  replace z1 := kC bB z1
  replace z2 := kC bB z2
  replace z3 := kC bB z3
  replace z4 := kC bB z4
  replace z5 := kC bB z5
  replace m0 := kC bB m0
  replace m1 := kC bB m1
  replace m2 := kC bB m2
  replace hI := IsW.keep hI bB
  replace hJ := IsW.keep hJ bB
  replace hO := IsW.keep hO bB
  replace hT0 := hT0.kept bB
  replace bA := nT bA bB
  clear bB
  go_wp2_with fail
  generalize (w5.alloc (.cells #[.bool PL.1, .slice al nl cl, .int .i64 PL.2.2] 25)) = w6 at *
  have lw2 : Hid (_ ≤ _) := bA.size
  refine Calls.mono (HH'.out _ _ _ _ hJ hO (by omega) hT0) ?_
  rintro r w7 ⟨v, rfl, ⟨ah, nh, ch, rfl, -, hlh, hOh⟩, bN⟩
  have hh0 := hOh.low lw2.out
  clear hOh lw2
  replace hl0 := hl0.keep bN
  replace f0 := kF bN z0 f0
  replace f1 := kF bN z1 f1
  replace f2 := kF bN z2 f2
  replace f3 := kF bN z3 f3
  replace f4 := kF bN z4 f4
  replace f5 := kF bN z5 f5
  replace c0 := kC bN c0
  replace c1 := kC bN c1
  replace c2 := kC bN c2
  replace c3 := kC bN c3
  replace c4 := kC bN c4
  replace c5 := kC bN c5
  replace z0 := kC bN z0
  replace z1 := kC bN z1
  replace z2 := kC bN z2
  replace z3 := kC bN z3
  replace z4 := kC bN z4
  replace z5 := kC bN z5
  replace m0 := kC bN m0
  replace m1 := kC bN m1
  replace m2 := kC bN m2
  replace l0 := kC bN l0
  replace l1 := kC bN l1
  replace l2 := kC bN l2
  replace hI := IsW.keep hI bN
  replace hJ := IsW.keep hJ bN
  replace hO := IsW.keep hO bN
  replace hT0 := hT0.kept bN
  replace bA := nT bA bN
  clear bN
  by_cases jk : eH ≠ 0
  · skip
    have bB := below_one w7 (.cells #[.bool PH.1, .slice ah nh ch, .int .i64 PH.2.2] 25)
    obtain ⟨k0, k1, k2⟩ := bx3 w7 (.bool PH.1) (.slice ah nh ch) (.int .i64 PH.2.2) 25
    replace hl0 := hl0.keep bB
    replace hh0 := hh0.keep bB
    replace f0 := kF bB z0 f0
    replace f1 := kF bB z1 f1
    replace f2 := kF bB z2 f2
    replace f3 := kF bB z3 f3
    replace f4 := kF bB z4 f4
    replace f5 := kF bB z5 f5
    replace c0 := kC bB c0
    replace c1 := kC bB c1
    replace c2 := kC bB c2
    replace c3 := kC bB c3
    replace c4 := kC bB c4
    replace c5 := kC bB c5
    replace z0 := kC bB z0
    replace z1 := kC bB z1
    replace z2 := kC bB z2
    replace z3 := kC bB z3
    replace z4 := kC bB z4
    replace z5 := kC bB z5
    replace m0 := kC bB m0
    replace m1 := kC bB m1
    replace m2 := kC bB m2
    replace l0 := kC bB l0
    replace l1 := kC bB l1
    replace l2 := kC bB l2
    replace hI := IsW.keep hI bB
    replace hJ := IsW.keep hJ bB
    replace hO := IsW.keep hO bB
    replace hT0 := hT0.kept bB
    replace bA := nT bA bB
    clear bB
    go_wp2_with fail
    exact bodyPost_ret (v := .tuple #[zIv, .int .i64 3]) (by simp [results, Tryz.results7, go_sem, zIv, z0, z1, z2, z3, z4, z5]) rfl (nil_own (HN.out (fun q => jk q.2.2)) (by repeat (first | (with_reducible exact bA) | (with_reducible refine Below.setCell ?_ (by simp) _))))
  replace jk : eH = 0 := Decidable.of_not_not jk
  subst jk
  have bB := below_one w7 (.cells #[.bool PH.1, .slice ah nh ch, .int .i64 PH.2.2] 25)
  obtain ⟨k0, k1, k2⟩ := bx3 w7 (.bool PH.1) (.slice ah nh ch) (.int .i64 PH.2.2) 25
  replace hl0 := hl0.keep bB
  replace hh0 := hh0.keep bB
  replace f0 := kF bB z0 f0
  replace f1 := kF bB z1 f1
  replace f2 := kF bB z2 f2
  replace f3 := kF bB z3 f3
  replace f4 := kF bB z4 f4
  replace f5 := kF bB z5 f5
  replace c0 := kC bB c0
  replace c1 := kC bB c1
  replace c2 := kC bB c2
  replace c3 := kC bB c3
  replace c4 := kC bB c4
  replace c5 := kC bB c5
  replace z0 := kC bB z0
  replace z1 := kC bB z1
  replace z2 := kC bB z2
  replace z3 := kC bB z3
  replace z4 := kC bB z4
  replace z5 := kC bB z5
  replace m0 := kC bB m0
  replace m1 := kC bB m1
  replace m2 := kC bB m2
  replace l0 := kC bB l0
  replace l1 := kC bB l1
  replace l2 := kC bB l2
  replace hI := IsW.keep hI bB
  replace hJ := IsW.keep hJ bB
  replace hO := IsW.keep hO bB
  replace hT0 := hT0.kept bB
  replace bA := nT bA bB
  clear bB
  go_wp2_with fail
  generalize (w7.alloc (.cells #[.bool PH.1, .slice ah nh ch, .int .i64 PH.2.2] 25)) = w8 at *
  have s6 := six_of z0 z1 z2 z3 z4 z5 (fun _ q => by cases q) (fun _ q => by cases q) (fun _ q => by cases q) (fun _ q => by cases q) (fun _ q => by cases q) (fun _ q => by cases q)
  have KK : Hid _ := HK.out ⟨(by first | rfl | trivial), (by first | rfl | trivial), (by first | rfl | trivial)⟩
  exact bodyPost_ret (v := .tuple #[ivV PL.1 al nl cl PL.2.2 PH.1 ah nh ch PH.2.2, .int .i64 0]) (by simp [results, Tryz.results7, go_sem, z0, z1, z2, z3, z4, z5]) rfl ⟨al, nl, cl, ah, nh, ch, by rw [KK.out.1, KK.out.2.1, KK.out.2.2], hll, hlh, by rw [KK.out.2.1]; exact ownW_six hl0 s6 _ _ _ _ _ _, by rw [KK.out.2.2]; exact ownW_six hh0 s6 _ _ _ _ _ _, by repeat (first | (with_reducible exact bA) | (with_reducible refine Below.setCell ?_ (by simp) _))⟩

end Go.Proofs.YtognliaoonkmiaaGreatDoor

namespace Go.Proofs.YtognliaoonkmiaaGreatDoor
open Go.RowKit

theorem pWide_calls (s : Bool) (a : Option Addr) (len cap : Nat) (xs : List Int) (e : Int) (s' : Bool) (a' : Option Addr) (len' cap' : Nat) (ys : List Int) (e' : Int) (p : Int) (w : World) (h : IsW w a len cap xs) (hm : len ≤ 17592186044000) (h' : IsW w a' len' cap' ys) (hm' : len' ≤ 17592186044000) (hT : Tab w) :
    Calls Tryz.prog 7 #[ivV s a len cap e s' a' len' cap' e', .int .i64 p] w fun r w' => ∃ al nl cl ah nh ch, r = .returned (.tuple #[ivV (wdL s (val xs) e s' (val ys) e' p).1 al nl cl (wdL s (val xs) e s' (val ys) e' p).2.2 (wdH s (val xs) e s' (val ys) e' p).1 ah nh ch (wdH s (val xs) e s' (val ys) e' p).2.2, .int .i64 (wdE s (val xs) e s' (val ys) e' p)]) ∧ nl ≤ 1024 ∧ nh ≤ 1024 ∧ OwnW w.heap.size w' al nl cl (wordsOf (wdL s (val xs) e s' (val ys) e' p).2.1) ∧ OwnW w.heap.size w' ah nh ch (wordsOf (wdH s (val xs) e s' (val ys) e' p).2.1) ∧ Below w.heap.size w w' := by
  by_cases hq : rtB s (val xs) e s' (val ys) e' = true ∧ 0 ≤ p ∧ p ≤ 2048
  · by_cases hc : 0 < cmpD (formD false (val xs) e) (formD false (val ys) e')
    · exact wide_l s a len cap xs e s' a' len' cap' ys e' p w h hm h' hm' hT hq.1 hq.2 hc
    · exact wide_h s a len cap xs e s' a' len' cap' ys e' p w h hm h' hm' hT hq.1 hq.2 hc
  · exact wide_bad s a len cap xs e s' a' len' cap' ys e' p w h hm h' hm' hT hq
end Go.Proofs.YtognliaoonkmiaaGreatDoor

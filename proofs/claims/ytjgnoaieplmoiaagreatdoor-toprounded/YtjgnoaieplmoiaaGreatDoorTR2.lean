/- TopRounded. -/
import Derived.Test.YtjgnoaieplmoiaaGreatDoorTR0
import Derived.Test.YtjgnoaieplmoiaaGreatDoorTR1
import Derived.Test.YtjgnoaieplmoiaaGreatDoorRWp
import Derived.Test.YtjgnoaieplmoiaaGreatDoorRDG
import Derived.Test.YtjgnoaieplmoiaaGreatDoorDGA
import Derived.Test.YtjgnoaieplmoiaaGreatDoorDTo4
namespace Go.Proofs.YtjgnoaieplmoiaaGreatDoor
open Go.RowKit

theorem rt_openR {s : Bool} {m : Nat} {e : Int} {s' : Bool} {m' : Nat} {e' : Int} (h : rtB s m e s' m' e' = true) : rightB m e = true ∧ rightB m' e' = true ∧ cmpD (formD s m e) (formD s' m' e') ≤ 0 := by
  unfold rtB at h
  simp only [Bool.and_eq_true, decide_eq_true_eq] at h
  exact ⟨h.1.1, h.1.2, h.2⟩

set_option maxRecDepth 100000 in
set_option maxHeartbeats 16000000 in
theorem topRounded_walk (s : Bool) (a : Option Addr) (len cap : Nat) (xs : List Int) (e : Int) (s' : Bool) (a' : Option Addr) (len' cap' : Nat) (ys : List Int) (e' : Int) (u : Bool) (q : Option Addr) (ld cd : Nat) (zs : List Int) (g : Int) (w : World) (h : IsW w a len cap xs) (hm : len ≤ 17592186044000) (_he : -9223372036854775808 ≤ e ∧ e ≤ 9223372036854775807) (h' : IsW w a' len' cap' ys) (hm' : len' ≤ 17592186044000) (_he' : -9223372036854775808 ≤ e' ∧ e' ≤ 9223372036854775807) (hd : IsW w q ld cd zs) (hmd : ld ≤ 17592186044000) (_hg : -9223372036854775808 ≤ g ∧ g ≤ 9223372036854775807) (hT : Tab w) (hP : Fl.Names w) :
    Calls Tryz.prog 3 #[ivV s a len cap e s' a' len' cap' e', dyV u q ld cd g] w fun r w' => r = .returned (.bool true) ∧ Below w.heap.size w w' := by
  have bA : Below w.heap.size w ((w.alloc (.cells #[.bool s, .slice a len cap, .int .i64 e, .bool s', .slice a' len' cap', .int .i64 e'] 27)).alloc (.cells #[.bool u, .slice q ld cd, .int .i64 g] 25)) := nbelow_trans (below_one _ _) (below_one _ _)
  have HCk : Hid _ := fun w' (k : IsW w' a len cap xs) (k' : IsW w' a' len' cap' ys) tt => icheck_calls s a len cap xs e s' a' len' cap' ys e' w' k hm k' hm' tt
  have HHs : Hid _ := fun w' (k : IsW w' a len cap xs) (k' : IsW w' a' len' cap' ys) (kd : IsW w' q ld cd zs) tt => has_calls s a len cap xs e s' a' len' cap' ys e' u q ld cd zs g w' k hm k' hm' kd hmd tt
  have HN1 : Hid _ := fun w' (k : IsW w' a len cap xs) tt => pNear_calls s a len cap xs e w' k hm tt
  have HN2 : Hid _ := fun w' (k : IsW w' a' len' cap' ys) tt => pNear_calls s' a' len' cap' ys e' w' k hm' tt
  have HN3 : Hid _ := fun w' (k : IsW w' q ld cd zs) tt => pNear_calls u q ld cd zs g w' k hmd tt
  have HDc : Hid _ := fun w' (k : IsW w' a len cap xs) (k' : IsW w' a' len' cap' ys) tt => pDecide_calls s a len cap xs e s' a' len' cap' ys e' w' k hm k' hm' tt
  have HTp : Hid _ := fun w' (k : IsW w' q ld cd zs) tt => pTop_calls u q ld cd zs g w' k hmd tt
  have HE : Hid (∀ k, rtB s (val xs) e s' (val ys) e' = k → dcE s (val xs) e s' (val ys) e' = if k = true then 0 else 2) := fun k hk => by unfold dcE; rw [hk]
  have hI := h.keep bA
  have hJ := h'.keep bA
  have hD := hd.keep bA
  have hT0 := hT.kept bA
  have hP0 := fNames_keepR hP bA
  have c0 : ((w.alloc (.cells #[.bool s, .slice a len cap, .int .i64 e, .bool s', .slice a' len' cap', .int .i64 e'] 27)).alloc (.cells #[.bool u, .slice q ld cd, .int .i64 g] 25)).cell? ⟨w.heap.size, 0, none⟩ = some (.bool s) := by go_simp
  have c1 : ((w.alloc (.cells #[.bool s, .slice a len cap, .int .i64 e, .bool s', .slice a' len' cap', .int .i64 e'] 27)).alloc (.cells #[.bool u, .slice q ld cd, .int .i64 g] 25)).cell? ⟨w.heap.size, 1, none⟩ = some (.slice a len cap) := by go_simp
  have c2 : ((w.alloc (.cells #[.bool s, .slice a len cap, .int .i64 e, .bool s', .slice a' len' cap', .int .i64 e'] 27)).alloc (.cells #[.bool u, .slice q ld cd, .int .i64 g] 25)).cell? ⟨w.heap.size, 2, none⟩ = some (.int .i64 e) := by go_simp
  have c3 : ((w.alloc (.cells #[.bool s, .slice a len cap, .int .i64 e, .bool s', .slice a' len' cap', .int .i64 e'] 27)).alloc (.cells #[.bool u, .slice q ld cd, .int .i64 g] 25)).cell? ⟨w.heap.size, 3, none⟩ = some (.bool s') := by go_simp
  have c4 : ((w.alloc (.cells #[.bool s, .slice a len cap, .int .i64 e, .bool s', .slice a' len' cap', .int .i64 e'] 27)).alloc (.cells #[.bool u, .slice q ld cd, .int .i64 g] 25)).cell? ⟨w.heap.size, 4, none⟩ = some (.slice a' len' cap') := by go_simp
  have c5 : ((w.alloc (.cells #[.bool s, .slice a len cap, .int .i64 e, .bool s', .slice a' len' cap', .int .i64 e'] 27)).alloc (.cells #[.bool u, .slice q ld cd, .int .i64 g] 25)).cell? ⟨w.heap.size, 5, none⟩ = some (.int .i64 e') := by go_simp
  have d0 : ((w.alloc (.cells #[.bool s, .slice a len cap, .int .i64 e, .bool s', .slice a' len' cap', .int .i64 e'] 27)).alloc (.cells #[.bool u, .slice q ld cd, .int .i64 g] 25)).cell? ⟨w.heap.size + 1, 0, none⟩ = some (.bool u) := by go_simp
  have d1 : ((w.alloc (.cells #[.bool s, .slice a len cap, .int .i64 e, .bool s', .slice a' len' cap', .int .i64 e'] 27)).alloc (.cells #[.bool u, .slice q ld cd, .int .i64 g] 25)).cell? ⟨w.heap.size + 1, 1, none⟩ = some (.slice q ld cd) := by go_simp
  have d2 : ((w.alloc (.cells #[.bool s, .slice a len cap, .int .i64 e, .bool s', .slice a' len' cap', .int .i64 e'] 27)).alloc (.cells #[.bool u, .slice q ld cd, .int .i64 g] 25)).cell? ⟨w.heap.size + 1, 2, none⟩ = some (.int .i64 g) := by go_simp
  clear h h' hd hT hP _he _he' _hg
  go_enter Tryz.func3, Tryz.ntmps3
  go_wp2_with fail
  generalize ((w.alloc (.cells #[.bool s, .slice a len cap, .int .i64 e, .bool s', .slice a' len' cap', .int .i64 e'] 27)).alloc (.cells #[.bool u, .slice q ld cd, .int .i64 g] 25)) = w0 at *
  refine Calls.mono (topBeginsR_calls _ hP0) ?_
  rintro r w1 ⟨rfl, bN⟩
  replace c0 := dcarry_cell bN c0
  replace c1 := dcarry_cell bN c1
  replace c2 := dcarry_cell bN c2
  replace c3 := dcarry_cell bN c3
  replace c4 := dcarry_cell bN c4
  replace c5 := dcarry_cell bN c5
  replace d0 := dcarry_cell bN d0
  replace d1 := dcarry_cell bN d1
  replace d2 := dcarry_cell bN d2
  replace hI := IsW.keep hI bN
  replace hJ := IsW.keep hJ bN
  replace hD := IsW.keep hD bN
  replace hT0 := hT0.kept bN
  replace bA := nbelow_trans bA bN
  clear bN
  clear hP0
  go_wp2_with fail
  refine Calls.mono (HCk.out _ hI hJ hT0) ?_
  rintro r w2 ⟨rfl, bN⟩
  replace c0 := dcarry_cell bN c0
  replace c1 := dcarry_cell bN c1
  replace c2 := dcarry_cell bN c2
  replace c3 := dcarry_cell bN c3
  replace c4 := dcarry_cell bN c4
  replace c5 := dcarry_cell bN c5
  replace d0 := dcarry_cell bN d0
  replace d1 := dcarry_cell bN d1
  replace d2 := dcarry_cell bN d2
  replace hI := IsW.keep hI bN
  replace hJ := IsW.keep hJ bN
  replace hD := IsW.keep hD bN
  replace hT0 := hT0.kept bN
  replace bA := nbelow_trans bA bN
  clear bN
  cases hr : rtB s (val xs) e s' (val ys) e' with
  | false =>
    rw [HE.out _ hr]
    clear hr HCk HHs HN1 HN2 HN3 HDc HTp HE hm hm' hmd
    go_wp2_with fail
    go_ret
    exact ⟨rfl, bA⟩
  | true =>
    rw [HE.out _ hr]
    go_wp2_with fail
    refine Calls.mono (HHs.out _ hI hJ hD hT0) ?_
    rintro r w3 ⟨rfl, bN⟩
    replace c0 := dcarry_cell bN c0
    replace c1 := dcarry_cell bN c1
    replace c2 := dcarry_cell bN c2
    replace c3 := dcarry_cell bN c3
    replace c4 := dcarry_cell bN c4
    replace c5 := dcarry_cell bN c5
    replace d0 := dcarry_cell bN d0
    replace d1 := dcarry_cell bN d1
    replace d2 := dcarry_cell bN d2
    replace hI := IsW.keep hI bN
    replace hJ := IsW.keep hJ bN
    replace hD := IsW.keep hD bN
    replace hT0 := hT0.kept bN
    replace bA := nbelow_trans bA bN
    clear bN
    cases hh : hasB s (val xs) e s' (val ys) e' u (val zs) g with
    | false =>
      clear hr hh HCk HHs HN1 HN2 HN3 HDc HTp HE hm hm' hmd
      go_wp2_with fail
      go_ret
      exact ⟨rfl, bA⟩
    | true =>
      obtain ⟨r1, r2, -⟩ := rt_openR hr
      have hh' := hh
      unfold hasB at hh'
      simp only [Bool.and_eq_true] at hh'
      obtain ⟨⟨-, q1⟩, q2⟩ := hh'
      obtain ⟨-, rd, cl⟩ := rt_openR q1
      obtain ⟨-, -, cu⟩ := rt_openR q2
      have b1 := (rightB_yes r1).2
      have b2 := (rightB_yes r2).2
      have b3 := (rightB_yes rd).2
      have n1 : nbR s (val xs) e = nearB s (val xs) e ∧ erR (val xs) e = 0 := ⟨by unfold nbR; rw [if_pos r1], by unfold erR; rw [if_pos r1]⟩
      have n2 : nbR s' (val ys) e' = nearB s' (val ys) e' ∧ erR (val ys) e' = 0 := ⟨by unfold nbR; rw [if_pos r2], by unfold erR; rw [if_pos r2]⟩
      have n3 : nbR u (val zs) g = nearB u (val zs) g ∧ erR (val zs) g = 0 := ⟨by unfold nbR; rw [if_pos rd], by unfold erR; rw [if_pos rd]⟩
      have l1 := not_less s (val xs) e u (val zs) g b1.1 b3.1 cl
      have l2 := not_less u (val zs) g s' (val ys) e' b3.1 b2.1 cu
      have dE : dcE s (val xs) e s' (val ys) e' = 0 := HE.out _ hr
      have HB : Hid (dcB s (val xs) e s' (val ys) e' = true → nearB u (val zs) g = dcN s (val xs) e s' (val ys) e') := fun k => by rw [← n3.1]; exact (within_one k rd cl cu).2.1
      have hU1 := nearB_U s (val xs) e
      have hU2 := nearB_U s' (val ys) e'
      have hU3 := nearB_U u (val zs) g
      have HL1 : Hid _ := fun w' => less_calls (nearB u (val zs) g) (nearB s (val xs) e) w' hU3 hU1
      have HL2 : Hid _ := fun w' => less_calls (nearB s' (val ys) e') (nearB u (val zs) g) w' hU2 hU3
      rw [l1] at HL1
      rw [l2] at HL2
      rw [n1.1, n1.2] at HN1
      rw [n2.1, n2.2] at HN2
      rw [n3.1, n3.2] at HN3
      rw [dE] at HDc
      have HT : Hid (ftE (val zs) g = 0 → tpV (val zs) g = g + (blen (val zs) : Int) - 1 ∧ val zs ≠ 0) := fun k => ⟨by unfold tpV; rw [if_pos k], fun z => by unfold ftE at k; rw [if_pos rd, if_pos z] at k; cases k⟩
      have HCn : Hid (val zs ≠ 0 → -1022 ≤ g + (blen (val zs) : Int) - 1 → g + (blen (val zs) : Int) - 1 ≤ 1022 → _) := fun k k1 k2 => cut_near u (val zs) g rd k k1 k2
      have HC1 : Hid _ := fun w' (k : IsW w' q ld cd zs) tt => dcut_yes u q ld cd zs g 53 false w' k (by omega) tt (by decide) rd
      have HC2 : Hid _ := fun w' (k : IsW w' q ld cd zs) tt => dcut_yes u q ld cd zs g 53 true w' k (by omega) tt (by decide) rd
      have HTo : Hid (∀ P : Bool × Nat × Int, ∀ ao n c w', IsW w' ao n c (wordsOf P.2.1) → n ≤ 1024 → Tab w' → Calls Tryz.prog 13 #[dyV P.1 ao n c P.2.2] w' fun r w'' => r = .returned (.tuple #[.int .u64 (toR P.1 P.2.1 P.2.2).1, .bool (toR P.1 P.2.1 P.2.2).2]) ∧ Below w'.heap.size w' w'') := fun P ao n c w' k kn tt => by
        have := to_calls P.1 ao n c (wordsOf P.2.1) P.2.2 w' k (by omega) tt
        rw [val_words] at this
        exact this
      clear hr hh q1 q2 cl cu b1 b2 b3 n1 n2 n3 l1 l2 dE hU1 hU2 hU3 r1 r2 rd HCk HHs HE hm hm' hmd
      generalize nearB u (val zs) g = cN at *
      generalize nearB s (val xs) e = aN at *
      generalize nearB s' (val ys) e' = bN0 at *
      generalize flR u (val zs) g = cF at *
      generalize flR s (val xs) e = aF at *
      generalize flR s' (val ys) e' = bF at *
      generalize dcN s (val xs) e s' (val ys) e' = dN at *
      generalize dcF s (val xs) e s' (val ys) e' = dF at *
      generalize dcB s (val xs) e s' (val ys) e' = dB at *
      generalize hfz : ftE (val zs) g = fz at *
      generalize hpz : tpV (val zs) g = pz at *
      generalize hgz : g + (blen (val zs) : Int) - 1 = gz at *
      clear hfz hpz hgz
      go_wp2_with fail
      refine Calls.mono (HN1.out _ hI hT0) ?_
      rintro r w4 ⟨rfl, bN⟩
      replace c0 := dcarry_cell bN c0
      replace c1 := dcarry_cell bN c1
      replace c2 := dcarry_cell bN c2
      replace c3 := dcarry_cell bN c3
      replace c4 := dcarry_cell bN c4
      replace c5 := dcarry_cell bN c5
      replace d0 := dcarry_cell bN d0
      replace d1 := dcarry_cell bN d1
      replace d2 := dcarry_cell bN d2
      replace hI := IsW.keep hI bN
      replace hJ := IsW.keep hJ bN
      replace hD := IsW.keep hD bN
      replace hT0 := hT0.kept bN
      replace bA := nbelow_trans bA bN
      clear bN
      have bB := below_one w4 (.cells #[.int .u64 aN, .int .u8 aF] 35)
      have a0 : (w4.alloc (.cells #[.int .u64 aN, .int .u8 aF] 35)).cell? ⟨w4.heap.size, 0, none⟩ = some (.int .u64 aN) := by go_simp
      have a1 : (w4.alloc (.cells #[.int .u64 aN, .int .u8 aF] 35)).cell? ⟨w4.heap.size, 1, none⟩ = some (.int .u8 aF) := by go_simp
      replace c0 := dcarry_cell bB c0
      replace c1 := dcarry_cell bB c1
      replace c2 := dcarry_cell bB c2
      replace c3 := dcarry_cell bB c3
      replace c4 := dcarry_cell bB c4
      replace c5 := dcarry_cell bB c5
      replace d0 := dcarry_cell bB d0
      replace d1 := dcarry_cell bB d1
      replace d2 := dcarry_cell bB d2
      replace hI := IsW.keep hI bB
      replace hJ := IsW.keep hJ bB
      replace hD := IsW.keep hD bB
      replace hT0 := hT0.kept bB
      replace bA := nbelow_trans bA bB
      clear bB
      go_wp2_with fail
      generalize (w4.alloc (.cells #[.int .u64 aN, .int .u8 aF] 35)) = w5 at *
      refine Calls.mono (HN2.out _ hJ hT0) ?_
      rintro r w6 ⟨rfl, bN⟩
      replace c0 := dcarry_cell bN c0
      replace c1 := dcarry_cell bN c1
      replace c2 := dcarry_cell bN c2
      replace c3 := dcarry_cell bN c3
      replace c4 := dcarry_cell bN c4
      replace c5 := dcarry_cell bN c5
      replace d0 := dcarry_cell bN d0
      replace d1 := dcarry_cell bN d1
      replace d2 := dcarry_cell bN d2
      replace a0 := dcarry_cell bN a0
      replace a1 := dcarry_cell bN a1
      replace hI := IsW.keep hI bN
      replace hJ := IsW.keep hJ bN
      replace hD := IsW.keep hD bN
      replace hT0 := hT0.kept bN
      replace bA := nbelow_trans bA bN
      clear bN
      have bB := below_one w6 (.cells #[.int .u64 bN0, .int .u8 bF] 35)
      have b0 : (w6.alloc (.cells #[.int .u64 bN0, .int .u8 bF] 35)).cell? ⟨w6.heap.size, 0, none⟩ = some (.int .u64 bN0) := by go_simp
      have b1 : (w6.alloc (.cells #[.int .u64 bN0, .int .u8 bF] 35)).cell? ⟨w6.heap.size, 1, none⟩ = some (.int .u8 bF) := by go_simp
      replace c0 := dcarry_cell bB c0
      replace c1 := dcarry_cell bB c1
      replace c2 := dcarry_cell bB c2
      replace c3 := dcarry_cell bB c3
      replace c4 := dcarry_cell bB c4
      replace c5 := dcarry_cell bB c5
      replace d0 := dcarry_cell bB d0
      replace d1 := dcarry_cell bB d1
      replace d2 := dcarry_cell bB d2
      replace a0 := dcarry_cell bB a0
      replace a1 := dcarry_cell bB a1
      replace hI := IsW.keep hI bB
      replace hJ := IsW.keep hJ bB
      replace hD := IsW.keep hD bB
      replace hT0 := hT0.kept bB
      replace bA := nbelow_trans bA bB
      clear bB
      go_wp2_with fail
      generalize (w6.alloc (.cells #[.int .u64 bN0, .int .u8 bF] 35)) = w7 at *
      refine Calls.mono (HN3.out _ hD hT0) ?_
      rintro r w8 ⟨rfl, bN⟩
      replace c0 := dcarry_cell bN c0
      replace c1 := dcarry_cell bN c1
      replace c2 := dcarry_cell bN c2
      replace c3 := dcarry_cell bN c3
      replace c4 := dcarry_cell bN c4
      replace c5 := dcarry_cell bN c5
      replace d0 := dcarry_cell bN d0
      replace d1 := dcarry_cell bN d1
      replace d2 := dcarry_cell bN d2
      replace a0 := dcarry_cell bN a0
      replace a1 := dcarry_cell bN a1
      replace b0 := dcarry_cell bN b0
      replace b1 := dcarry_cell bN b1
      replace hI := IsW.keep hI bN
      replace hJ := IsW.keep hJ bN
      replace hD := IsW.keep hD bN
      replace hT0 := hT0.kept bN
      replace bA := nbelow_trans bA bN
      clear bN
      have bB := below_one w8 (.cells #[.int .u64 cN, .int .u8 cF] 35)
      have e0 : (w8.alloc (.cells #[.int .u64 cN, .int .u8 cF] 35)).cell? ⟨w8.heap.size, 0, none⟩ = some (.int .u64 cN) := by go_simp
      have e1 : (w8.alloc (.cells #[.int .u64 cN, .int .u8 cF] 35)).cell? ⟨w8.heap.size, 1, none⟩ = some (.int .u8 cF) := by go_simp
      replace c0 := dcarry_cell bB c0
      replace c1 := dcarry_cell bB c1
      replace c2 := dcarry_cell bB c2
      replace c3 := dcarry_cell bB c3
      replace c4 := dcarry_cell bB c4
      replace c5 := dcarry_cell bB c5
      replace d0 := dcarry_cell bB d0
      replace d1 := dcarry_cell bB d1
      replace d2 := dcarry_cell bB d2
      replace a0 := dcarry_cell bB a0
      replace a1 := dcarry_cell bB a1
      replace b0 := dcarry_cell bB b0
      replace b1 := dcarry_cell bB b1
      replace hI := IsW.keep hI bB
      replace hJ := IsW.keep hJ bB
      replace hD := IsW.keep hD bB
      replace hT0 := hT0.kept bB
      replace bA := nbelow_trans bA bB
      clear bB
      go_wp2_with fail
      generalize (w8.alloc (.cells #[.int .u64 cN, .int .u8 cF] 35)) = w9 at *
      refine Calls.mono (HL1.out _) ?_
      rintro r x1 ⟨rfl, hw⟩
      rw [hw]
      clear hw x1
      go_wp2_with fail
      refine Calls.mono (HL2.out _) ?_
      rintro r x1 ⟨rfl, hw⟩
      rw [hw]
      clear hw x1 HL1 HL2 HN1 HN2 HN3
      go_wp2_with fail
      refine Calls.mono (HDc.out _ hI hJ hT0) ?_
      rintro r w10 ⟨rfl, bN⟩
      replace c0 := dcarry_cell bN c0
      replace c1 := dcarry_cell bN c1
      replace c2 := dcarry_cell bN c2
      replace c3 := dcarry_cell bN c3
      replace c4 := dcarry_cell bN c4
      replace c5 := dcarry_cell bN c5
      replace d0 := dcarry_cell bN d0
      replace d1 := dcarry_cell bN d1
      replace d2 := dcarry_cell bN d2
      replace a0 := dcarry_cell bN a0
      replace a1 := dcarry_cell bN a1
      replace b0 := dcarry_cell bN b0
      replace b1 := dcarry_cell bN b1
      replace e0 := dcarry_cell bN e0
      replace e1 := dcarry_cell bN e1
      replace hI := IsW.keep hI bN
      replace hJ := IsW.keep hJ bN
      replace hD := IsW.keep hD bN
      replace hT0 := hT0.kept bN
      replace bA := nbelow_trans bA bN
      clear bN
      have bB := below_one w10 (.cells #[.int .u64 dN, .int .u8 dF] 35)
      have f0 : (w10.alloc (.cells #[.int .u64 dN, .int .u8 dF] 35)).cell? ⟨w10.heap.size, 0, none⟩ = some (.int .u64 dN) := by go_simp
      replace c0 := dcarry_cell bB c0
      replace c1 := dcarry_cell bB c1
      replace c2 := dcarry_cell bB c2
      replace c3 := dcarry_cell bB c3
      replace c4 := dcarry_cell bB c4
      replace c5 := dcarry_cell bB c5
      replace d0 := dcarry_cell bB d0
      replace d1 := dcarry_cell bB d1
      replace d2 := dcarry_cell bB d2
      replace a0 := dcarry_cell bB a0
      replace a1 := dcarry_cell bB a1
      replace b0 := dcarry_cell bB b0
      replace b1 := dcarry_cell bB b1
      replace e0 := dcarry_cell bB e0
      replace e1 := dcarry_cell bB e1
      replace hI := IsW.keep hI bB
      replace hJ := IsW.keep hJ bB
      replace hD := IsW.keep hD bB
      replace hT0 := hT0.kept bB
      replace bA := nbelow_trans bA bB
      clear bB
      clear HDc
      have HGo : Hid (dB = true → cN = dN) := HB
      clear HB
      cases dB
      · skip
        clear HGo
        go_wp2_with fail
        generalize (w10.alloc (.cells #[.int .u64 dN, .int .u8 dF] 35)) = w11 at *
        refine Calls.mono (HTp.out _ hD hT0) ?_
        rintro r w12 ⟨rfl, bN⟩
        replace c0 := dcarry_cell bN c0
        replace c1 := dcarry_cell bN c1
        replace c2 := dcarry_cell bN c2
        replace c3 := dcarry_cell bN c3
        replace c4 := dcarry_cell bN c4
        replace c5 := dcarry_cell bN c5
        replace d0 := dcarry_cell bN d0
        replace d1 := dcarry_cell bN d1
        replace d2 := dcarry_cell bN d2
        replace a0 := dcarry_cell bN a0
        replace a1 := dcarry_cell bN a1
        replace b0 := dcarry_cell bN b0
        replace b1 := dcarry_cell bN b1
        replace e0 := dcarry_cell bN e0
        replace e1 := dcarry_cell bN e1
        replace f0 := dcarry_cell bN f0
        replace hI := IsW.keep hI bN
        replace hJ := IsW.keep hJ bN
        replace hD := IsW.keep hD bN
        replace hT0 := hT0.kept bN
        replace bA := nbelow_trans bA bN
        clear bN
        by_cases z1 : fz ≠ 0
        · have z2 : (fz != 0) = true := by simp [z1]
          go_wp2_with fail
          go_ret
          exact ⟨rfl, bA⟩
        replace z1 : fz = 0 := Decidable.of_not_not z1
        obtain ⟨t1, t2⟩ := HT.out z1
        subst z1
        subst t1
        clear HT
        by_cases p1 : pz < -1022
        · go_wp2_with fail
          go_ret
          exact ⟨rfl, bA⟩
        by_cases p2 : 1022 < pz
        · go_wp2_with fail
          go_ret
          exact ⟨rfl, bA⟩
        obtain ⟨k1, x, y, k2, k3, k4⟩ := HCn.out t2 (by omega) (by omega)
        rw [(k1 false).1, (k1 false).2] at HC1
        rw [(k1 true).1, (k1 true).2] at HC2
        have HT1 : Hid _ := HTo.out (cutD (formD u (val zs) g) 53 false)
        have HT2 : Hid _ := HTo.out (cutD (formD u (val zs) g) 53 true)
        rw [k2] at HT1
        rw [k3] at HT2
        clear k1 k2 k3 HCn HTo t2
        generalize cutD (formD u (val zs) g) 53 false = L0 at *
        generalize cutD (formD u (val zs) g) 53 true = H0 at *
        have K4 : Hid _ := k4
        clear k4
        go_wp2_with fail
        refine Calls.mono (HC1.out _ hD hT0) ?_
        rintro r w13 ⟨_, rfl, ⟨al, nl, cl, rfl, -, i1, O1⟩, bN⟩
        have j1 : Hid _ := i1
        have I1 := O1.1
        clear i1 O1
        replace c0 := dcarry_cell bN c0
        replace c1 := dcarry_cell bN c1
        replace c2 := dcarry_cell bN c2
        replace c3 := dcarry_cell bN c3
        replace c4 := dcarry_cell bN c4
        replace c5 := dcarry_cell bN c5
        replace d0 := dcarry_cell bN d0
        replace d1 := dcarry_cell bN d1
        replace d2 := dcarry_cell bN d2
        replace a0 := dcarry_cell bN a0
        replace a1 := dcarry_cell bN a1
        replace b0 := dcarry_cell bN b0
        replace b1 := dcarry_cell bN b1
        replace e0 := dcarry_cell bN e0
        replace e1 := dcarry_cell bN e1
        replace f0 := dcarry_cell bN f0
        replace hI := IsW.keep hI bN
        replace hJ := IsW.keep hJ bN
        replace hD := IsW.keep hD bN
        replace hT0 := hT0.kept bN
        replace bA := nbelow_trans bA bN
        clear bN
        have bB := below_one w13 (.cells #[.bool L0.1, .slice al nl cl, .int .i64 L0.2.2] 25)
        have l0 : (w13.alloc (.cells #[.bool L0.1, .slice al nl cl, .int .i64 L0.2.2] 25)).cell? ⟨w13.heap.size, 0, none⟩ = some (.bool L0.1) := by go_simp
        have l1 : (w13.alloc (.cells #[.bool L0.1, .slice al nl cl, .int .i64 L0.2.2] 25)).cell? ⟨w13.heap.size, 1, none⟩ = some (.slice al nl cl) := by go_simp
        have l2 : (w13.alloc (.cells #[.bool L0.1, .slice al nl cl, .int .i64 L0.2.2] 25)).cell? ⟨w13.heap.size, 2, none⟩ = some (.int .i64 L0.2.2) := by go_simp
        replace c0 := dcarry_cell bB c0
        replace c1 := dcarry_cell bB c1
        replace c2 := dcarry_cell bB c2
        replace c3 := dcarry_cell bB c3
        replace c4 := dcarry_cell bB c4
        replace c5 := dcarry_cell bB c5
        replace d0 := dcarry_cell bB d0
        replace d1 := dcarry_cell bB d1
        replace d2 := dcarry_cell bB d2
        replace a0 := dcarry_cell bB a0
        replace a1 := dcarry_cell bB a1
        replace b0 := dcarry_cell bB b0
        replace b1 := dcarry_cell bB b1
        replace e0 := dcarry_cell bB e0
        replace e1 := dcarry_cell bB e1
        replace f0 := dcarry_cell bB f0
        replace hI := IsW.keep hI bB
        replace hJ := IsW.keep hJ bB
        replace hD := IsW.keep hD bB
        replace I1 := IsW.keep I1 bB
        replace hT0 := hT0.kept bB
        replace bA := nbelow_trans bA bB
        clear bB
        go_wp2_with fail
        generalize (w13.alloc (.cells #[.bool L0.1, .slice al nl cl, .int .i64 L0.2.2] 25)) = w14 at *
        refine Calls.mono (HC2.out _ hD hT0) ?_
        rintro r w15 ⟨_, rfl, ⟨ah, nh, ch, rfl, -, i2, O2⟩, bN⟩
        have j2 : Hid _ := i2
        have I2 := O2.1
        clear i2 O2
        replace c0 := dcarry_cell bN c0
        replace c1 := dcarry_cell bN c1
        replace c2 := dcarry_cell bN c2
        replace c3 := dcarry_cell bN c3
        replace c4 := dcarry_cell bN c4
        replace c5 := dcarry_cell bN c5
        replace d0 := dcarry_cell bN d0
        replace d1 := dcarry_cell bN d1
        replace d2 := dcarry_cell bN d2
        replace a0 := dcarry_cell bN a0
        replace a1 := dcarry_cell bN a1
        replace b0 := dcarry_cell bN b0
        replace b1 := dcarry_cell bN b1
        replace e0 := dcarry_cell bN e0
        replace e1 := dcarry_cell bN e1
        replace f0 := dcarry_cell bN f0
        replace l0 := dcarry_cell bN l0
        replace l1 := dcarry_cell bN l1
        replace l2 := dcarry_cell bN l2
        replace hI := IsW.keep hI bN
        replace hJ := IsW.keep hJ bN
        replace hD := IsW.keep hD bN
        replace I1 := IsW.keep I1 bN
        replace hT0 := hT0.kept bN
        replace bA := nbelow_trans bA bN
        clear bN
        have bB := below_one w15 (.cells #[.bool H0.1, .slice ah nh ch, .int .i64 H0.2.2] 25)
        have h0 : (w15.alloc (.cells #[.bool H0.1, .slice ah nh ch, .int .i64 H0.2.2] 25)).cell? ⟨w15.heap.size, 0, none⟩ = some (.bool H0.1) := by go_simp
        have h1 : (w15.alloc (.cells #[.bool H0.1, .slice ah nh ch, .int .i64 H0.2.2] 25)).cell? ⟨w15.heap.size, 1, none⟩ = some (.slice ah nh ch) := by go_simp
        have h2 : (w15.alloc (.cells #[.bool H0.1, .slice ah nh ch, .int .i64 H0.2.2] 25)).cell? ⟨w15.heap.size, 2, none⟩ = some (.int .i64 H0.2.2) := by go_simp
        replace c0 := dcarry_cell bB c0
        replace c1 := dcarry_cell bB c1
        replace c2 := dcarry_cell bB c2
        replace c3 := dcarry_cell bB c3
        replace c4 := dcarry_cell bB c4
        replace c5 := dcarry_cell bB c5
        replace d0 := dcarry_cell bB d0
        replace d1 := dcarry_cell bB d1
        replace d2 := dcarry_cell bB d2
        replace a0 := dcarry_cell bB a0
        replace a1 := dcarry_cell bB a1
        replace b0 := dcarry_cell bB b0
        replace b1 := dcarry_cell bB b1
        replace e0 := dcarry_cell bB e0
        replace e1 := dcarry_cell bB e1
        replace f0 := dcarry_cell bB f0
        replace l0 := dcarry_cell bB l0
        replace l1 := dcarry_cell bB l1
        replace l2 := dcarry_cell bB l2
        replace hI := IsW.keep hI bB
        replace hJ := IsW.keep hJ bB
        replace hD := IsW.keep hD bB
        replace I1 := IsW.keep I1 bB
        replace I2 := IsW.keep I2 bB
        replace hT0 := hT0.kept bB
        replace bA := nbelow_trans bA bB
        clear bB
        go_wp2_with fail
        generalize (w15.alloc (.cells #[.bool H0.1, .slice ah nh ch, .int .i64 H0.2.2] 25)) = w16 at *
        refine Calls.mono (HT1.out _ _ _ _ I1 j1.out hT0) ?_
        rintro r w17 ⟨rfl, bN⟩
        replace c0 := dcarry_cell bN c0
        replace c1 := dcarry_cell bN c1
        replace c2 := dcarry_cell bN c2
        replace c3 := dcarry_cell bN c3
        replace c4 := dcarry_cell bN c4
        replace c5 := dcarry_cell bN c5
        replace d0 := dcarry_cell bN d0
        replace d1 := dcarry_cell bN d1
        replace d2 := dcarry_cell bN d2
        replace a0 := dcarry_cell bN a0
        replace a1 := dcarry_cell bN a1
        replace b0 := dcarry_cell bN b0
        replace b1 := dcarry_cell bN b1
        replace e0 := dcarry_cell bN e0
        replace e1 := dcarry_cell bN e1
        replace f0 := dcarry_cell bN f0
        replace l0 := dcarry_cell bN l0
        replace l1 := dcarry_cell bN l1
        replace l2 := dcarry_cell bN l2
        replace h0 := dcarry_cell bN h0
        replace h1 := dcarry_cell bN h1
        replace h2 := dcarry_cell bN h2
        replace hI := IsW.keep hI bN
        replace hJ := IsW.keep hJ bN
        replace hD := IsW.keep hD bN
        replace I1 := IsW.keep I1 bN
        replace I2 := IsW.keep I2 bN
        replace hT0 := hT0.kept bN
        replace bA := nbelow_trans bA bN
        clear bN
        go_wp2_with fail
        refine Calls.mono (HT2.out _ _ _ _ I2 j2.out hT0) ?_
        rintro r w18 ⟨rfl, bN⟩
        replace c0 := dcarry_cell bN c0
        replace c1 := dcarry_cell bN c1
        replace c2 := dcarry_cell bN c2
        replace c3 := dcarry_cell bN c3
        replace c4 := dcarry_cell bN c4
        replace c5 := dcarry_cell bN c5
        replace d0 := dcarry_cell bN d0
        replace d1 := dcarry_cell bN d1
        replace d2 := dcarry_cell bN d2
        replace a0 := dcarry_cell bN a0
        replace a1 := dcarry_cell bN a1
        replace b0 := dcarry_cell bN b0
        replace b1 := dcarry_cell bN b1
        replace e0 := dcarry_cell bN e0
        replace e1 := dcarry_cell bN e1
        replace f0 := dcarry_cell bN f0
        replace l0 := dcarry_cell bN l0
        replace l1 := dcarry_cell bN l1
        replace l2 := dcarry_cell bN l2
        replace h0 := dcarry_cell bN h0
        replace h1 := dcarry_cell bN h1
        replace h2 := dcarry_cell bN h2
        replace hI := IsW.keep hI bN
        replace hJ := IsW.keep hJ bN
        replace hD := IsW.keep hD bN
        replace I1 := IsW.keep I1 bN
        replace I2 := IsW.keep I2 bN
        replace hT0 := hT0.kept bN
        replace bA := nbelow_trans bA bN
        clear bN
        rcases K4.out with z | z
        · subst z
          go_wp2_with fail
          all_goals (go_ret; exact ⟨by simp, bA⟩)
        · subst z
          go_wp2_with fail
          all_goals (go_ret; exact ⟨by simp, bA⟩)
      · skip
        have e9 := HGo.out (by first | rfl | trivial)
        subst e9
        clear HGo
        go_wp2_with fail
        generalize (w10.alloc (.cells #[.int .u64 cN, .int .u8 dF] 35)) = w11 at *
        refine Calls.mono (HTp.out _ hD hT0) ?_
        rintro r w12 ⟨rfl, bN⟩
        replace c0 := dcarry_cell bN c0
        replace c1 := dcarry_cell bN c1
        replace c2 := dcarry_cell bN c2
        replace c3 := dcarry_cell bN c3
        replace c4 := dcarry_cell bN c4
        replace c5 := dcarry_cell bN c5
        replace d0 := dcarry_cell bN d0
        replace d1 := dcarry_cell bN d1
        replace d2 := dcarry_cell bN d2
        replace a0 := dcarry_cell bN a0
        replace a1 := dcarry_cell bN a1
        replace b0 := dcarry_cell bN b0
        replace b1 := dcarry_cell bN b1
        replace e0 := dcarry_cell bN e0
        replace e1 := dcarry_cell bN e1
        replace f0 := dcarry_cell bN f0
        replace hI := IsW.keep hI bN
        replace hJ := IsW.keep hJ bN
        replace hD := IsW.keep hD bN
        replace hT0 := hT0.kept bN
        replace bA := nbelow_trans bA bN
        clear bN
        by_cases z1 : fz ≠ 0
        · have z2 : (fz != 0) = true := by simp [z1]
          go_wp2_with fail
          go_ret
          exact ⟨rfl, bA⟩
        replace z1 : fz = 0 := Decidable.of_not_not z1
        obtain ⟨t1, t2⟩ := HT.out z1
        subst z1
        subst t1
        clear HT
        by_cases p1 : pz < -1022
        · go_wp2_with fail
          go_ret
          exact ⟨rfl, bA⟩
        by_cases p2 : 1022 < pz
        · go_wp2_with fail
          go_ret
          exact ⟨rfl, bA⟩
        obtain ⟨k1, x, y, k2, k3, k4⟩ := HCn.out t2 (by omega) (by omega)
        rw [(k1 false).1, (k1 false).2] at HC1
        rw [(k1 true).1, (k1 true).2] at HC2
        have HT1 : Hid _ := HTo.out (cutD (formD u (val zs) g) 53 false)
        have HT2 : Hid _ := HTo.out (cutD (formD u (val zs) g) 53 true)
        rw [k2] at HT1
        rw [k3] at HT2
        clear k1 k2 k3 HCn HTo t2
        generalize cutD (formD u (val zs) g) 53 false = L0 at *
        generalize cutD (formD u (val zs) g) 53 true = H0 at *
        have K4 : Hid _ := k4
        clear k4
        go_wp2_with fail
        refine Calls.mono (HC1.out _ hD hT0) ?_
        rintro r w13 ⟨_, rfl, ⟨al, nl, cl, rfl, -, i1, O1⟩, bN⟩
        have j1 : Hid _ := i1
        have I1 := O1.1
        clear i1 O1
        replace c0 := dcarry_cell bN c0
        replace c1 := dcarry_cell bN c1
        replace c2 := dcarry_cell bN c2
        replace c3 := dcarry_cell bN c3
        replace c4 := dcarry_cell bN c4
        replace c5 := dcarry_cell bN c5
        replace d0 := dcarry_cell bN d0
        replace d1 := dcarry_cell bN d1
        replace d2 := dcarry_cell bN d2
        replace a0 := dcarry_cell bN a0
        replace a1 := dcarry_cell bN a1
        replace b0 := dcarry_cell bN b0
        replace b1 := dcarry_cell bN b1
        replace e0 := dcarry_cell bN e0
        replace e1 := dcarry_cell bN e1
        replace f0 := dcarry_cell bN f0
        replace hI := IsW.keep hI bN
        replace hJ := IsW.keep hJ bN
        replace hD := IsW.keep hD bN
        replace hT0 := hT0.kept bN
        replace bA := nbelow_trans bA bN
        clear bN
        have bB := below_one w13 (.cells #[.bool L0.1, .slice al nl cl, .int .i64 L0.2.2] 25)
        have l0 : (w13.alloc (.cells #[.bool L0.1, .slice al nl cl, .int .i64 L0.2.2] 25)).cell? ⟨w13.heap.size, 0, none⟩ = some (.bool L0.1) := by go_simp
        have l1 : (w13.alloc (.cells #[.bool L0.1, .slice al nl cl, .int .i64 L0.2.2] 25)).cell? ⟨w13.heap.size, 1, none⟩ = some (.slice al nl cl) := by go_simp
        have l2 : (w13.alloc (.cells #[.bool L0.1, .slice al nl cl, .int .i64 L0.2.2] 25)).cell? ⟨w13.heap.size, 2, none⟩ = some (.int .i64 L0.2.2) := by go_simp
        replace c0 := dcarry_cell bB c0
        replace c1 := dcarry_cell bB c1
        replace c2 := dcarry_cell bB c2
        replace c3 := dcarry_cell bB c3
        replace c4 := dcarry_cell bB c4
        replace c5 := dcarry_cell bB c5
        replace d0 := dcarry_cell bB d0
        replace d1 := dcarry_cell bB d1
        replace d2 := dcarry_cell bB d2
        replace a0 := dcarry_cell bB a0
        replace a1 := dcarry_cell bB a1
        replace b0 := dcarry_cell bB b0
        replace b1 := dcarry_cell bB b1
        replace e0 := dcarry_cell bB e0
        replace e1 := dcarry_cell bB e1
        replace f0 := dcarry_cell bB f0
        replace hI := IsW.keep hI bB
        replace hJ := IsW.keep hJ bB
        replace hD := IsW.keep hD bB
        replace I1 := IsW.keep I1 bB
        replace hT0 := hT0.kept bB
        replace bA := nbelow_trans bA bB
        clear bB
        go_wp2_with fail
        generalize (w13.alloc (.cells #[.bool L0.1, .slice al nl cl, .int .i64 L0.2.2] 25)) = w14 at *
        refine Calls.mono (HC2.out _ hD hT0) ?_
        rintro r w15 ⟨_, rfl, ⟨ah, nh, ch, rfl, -, i2, O2⟩, bN⟩
        have j2 : Hid _ := i2
        have I2 := O2.1
        clear i2 O2
        replace c0 := dcarry_cell bN c0
        replace c1 := dcarry_cell bN c1
        replace c2 := dcarry_cell bN c2
        replace c3 := dcarry_cell bN c3
        replace c4 := dcarry_cell bN c4
        replace c5 := dcarry_cell bN c5
        replace d0 := dcarry_cell bN d0
        replace d1 := dcarry_cell bN d1
        replace d2 := dcarry_cell bN d2
        replace a0 := dcarry_cell bN a0
        replace a1 := dcarry_cell bN a1
        replace b0 := dcarry_cell bN b0
        replace b1 := dcarry_cell bN b1
        replace e0 := dcarry_cell bN e0
        replace e1 := dcarry_cell bN e1
        replace f0 := dcarry_cell bN f0
        replace l0 := dcarry_cell bN l0
        replace l1 := dcarry_cell bN l1
        replace l2 := dcarry_cell bN l2
        replace hI := IsW.keep hI bN
        replace hJ := IsW.keep hJ bN
        replace hD := IsW.keep hD bN
        replace I1 := IsW.keep I1 bN
        replace hT0 := hT0.kept bN
        replace bA := nbelow_trans bA bN
        clear bN
        have bB := below_one w15 (.cells #[.bool H0.1, .slice ah nh ch, .int .i64 H0.2.2] 25)
        have h0 : (w15.alloc (.cells #[.bool H0.1, .slice ah nh ch, .int .i64 H0.2.2] 25)).cell? ⟨w15.heap.size, 0, none⟩ = some (.bool H0.1) := by go_simp
        have h1 : (w15.alloc (.cells #[.bool H0.1, .slice ah nh ch, .int .i64 H0.2.2] 25)).cell? ⟨w15.heap.size, 1, none⟩ = some (.slice ah nh ch) := by go_simp
        have h2 : (w15.alloc (.cells #[.bool H0.1, .slice ah nh ch, .int .i64 H0.2.2] 25)).cell? ⟨w15.heap.size, 2, none⟩ = some (.int .i64 H0.2.2) := by go_simp
        replace c0 := dcarry_cell bB c0
        replace c1 := dcarry_cell bB c1
        replace c2 := dcarry_cell bB c2
        replace c3 := dcarry_cell bB c3
        replace c4 := dcarry_cell bB c4
        replace c5 := dcarry_cell bB c5
        replace d0 := dcarry_cell bB d0
        replace d1 := dcarry_cell bB d1
        replace d2 := dcarry_cell bB d2
        replace a0 := dcarry_cell bB a0
        replace a1 := dcarry_cell bB a1
        replace b0 := dcarry_cell bB b0
        replace b1 := dcarry_cell bB b1
        replace e0 := dcarry_cell bB e0
        replace e1 := dcarry_cell bB e1
        replace f0 := dcarry_cell bB f0
        replace l0 := dcarry_cell bB l0
        replace l1 := dcarry_cell bB l1
        replace l2 := dcarry_cell bB l2
        replace hI := IsW.keep hI bB
        replace hJ := IsW.keep hJ bB
        replace hD := IsW.keep hD bB
        replace I1 := IsW.keep I1 bB
        replace I2 := IsW.keep I2 bB
        replace hT0 := hT0.kept bB
        replace bA := nbelow_trans bA bB
        clear bB
        go_wp2_with fail
        generalize (w15.alloc (.cells #[.bool H0.1, .slice ah nh ch, .int .i64 H0.2.2] 25)) = w16 at *
        refine Calls.mono (HT1.out _ _ _ _ I1 j1.out hT0) ?_
        rintro r w17 ⟨rfl, bN⟩
        replace c0 := dcarry_cell bN c0
        replace c1 := dcarry_cell bN c1
        replace c2 := dcarry_cell bN c2
        replace c3 := dcarry_cell bN c3
        replace c4 := dcarry_cell bN c4
        replace c5 := dcarry_cell bN c5
        replace d0 := dcarry_cell bN d0
        replace d1 := dcarry_cell bN d1
        replace d2 := dcarry_cell bN d2
        replace a0 := dcarry_cell bN a0
        replace a1 := dcarry_cell bN a1
        replace b0 := dcarry_cell bN b0
        replace b1 := dcarry_cell bN b1
        replace e0 := dcarry_cell bN e0
        replace e1 := dcarry_cell bN e1
        replace f0 := dcarry_cell bN f0
        replace l0 := dcarry_cell bN l0
        replace l1 := dcarry_cell bN l1
        replace l2 := dcarry_cell bN l2
        replace h0 := dcarry_cell bN h0
        replace h1 := dcarry_cell bN h1
        replace h2 := dcarry_cell bN h2
        replace hI := IsW.keep hI bN
        replace hJ := IsW.keep hJ bN
        replace hD := IsW.keep hD bN
        replace I1 := IsW.keep I1 bN
        replace I2 := IsW.keep I2 bN
        replace hT0 := hT0.kept bN
        replace bA := nbelow_trans bA bN
        clear bN
        go_wp2_with fail
        refine Calls.mono (HT2.out _ _ _ _ I2 j2.out hT0) ?_
        rintro r w18 ⟨rfl, bN⟩
        replace c0 := dcarry_cell bN c0
        replace c1 := dcarry_cell bN c1
        replace c2 := dcarry_cell bN c2
        replace c3 := dcarry_cell bN c3
        replace c4 := dcarry_cell bN c4
        replace c5 := dcarry_cell bN c5
        replace d0 := dcarry_cell bN d0
        replace d1 := dcarry_cell bN d1
        replace d2 := dcarry_cell bN d2
        replace a0 := dcarry_cell bN a0
        replace a1 := dcarry_cell bN a1
        replace b0 := dcarry_cell bN b0
        replace b1 := dcarry_cell bN b1
        replace e0 := dcarry_cell bN e0
        replace e1 := dcarry_cell bN e1
        replace f0 := dcarry_cell bN f0
        replace l0 := dcarry_cell bN l0
        replace l1 := dcarry_cell bN l1
        replace l2 := dcarry_cell bN l2
        replace h0 := dcarry_cell bN h0
        replace h1 := dcarry_cell bN h1
        replace h2 := dcarry_cell bN h2
        replace hI := IsW.keep hI bN
        replace hJ := IsW.keep hJ bN
        replace hD := IsW.keep hD bN
        replace I1 := IsW.keep I1 bN
        replace I2 := IsW.keep I2 bN
        replace hT0 := hT0.kept bN
        replace bA := nbelow_trans bA bN
        clear bN
        rcases K4.out with z | z
        · subst z
          go_wp2_with fail
          all_goals (go_ret; exact ⟨by simp, bA⟩)
        · subst z
          go_wp2_with fail
          all_goals (go_ret; exact ⟨by simp, bA⟩)
end Go.Proofs.YtjgnoaieplmoiaaGreatDoor

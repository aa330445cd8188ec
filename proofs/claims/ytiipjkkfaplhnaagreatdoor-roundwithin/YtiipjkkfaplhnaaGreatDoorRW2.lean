/- The statement RoundWithin. -/
import Derived.Test.YtiipjkkfaplhnaaGreatDoorRWp
import Derived.Test.YtiipjkkfaplhnaaGreatDoorRND
import Derived.Test.YtiipjkkfaplhnaaGreatDoorRDG
import Derived.Test.YtiipjkkfaplhnaaGreatDoorDVal
import Derived.Deep.CutRange
namespace Go.Proofs.YtiipjkkfaplhnaaGreatDoor
open Go.RowKit

set_option maxRecDepth 100000 in
set_option maxHeartbeats 8000000 in
theorem roundWithin_walk (s : Bool) (a : Option Addr) (len cap : Nat) (xs : List Int) (e : Int) (s' : Bool) (a' : Option Addr) (len' cap' : Nat) (ys : List Int) (e' : Int) (t : Bool) (b : Option Addr) (ln cp : Nat) (us : List Int) (f : Int) (t' : Bool) (b' : Option Addr) (ln' cp' : Nat) (vs : List Int) (f' : Int) (p : Int) (u : Bool) (q : Option Addr) (ld cd : Nat) (zs : List Int) (g : Int) (w : World) (h : IsW w a len cap xs) (hm : len ≤ 17592186044000) (_he : -9223372036854775808 ≤ e ∧ e ≤ 9223372036854775807) (h' : IsW w a' len' cap' ys) (hm' : len' ≤ 17592186044000) (_he' : -9223372036854775808 ≤ e' ∧ e' ≤ 9223372036854775807) (hu : IsW w b ln cp us) (hmu : ln ≤ 17592186044000) (_hf : -9223372036854775808 ≤ f ∧ f ≤ 9223372036854775807) (hv : IsW w b' ln' cp' vs) (hmv : ln' ≤ 17592186044000) (_hf' : -9223372036854775808 ≤ f' ∧ f' ≤ 9223372036854775807) (_hp : -9223372036854775808 ≤ p ∧ p ≤ 9223372036854775807) (hd : IsW w q ld cd zs) (hmd : ld ≤ 17592186044000) (_hg : -9223372036854775808 ≤ g ∧ g ≤ 9223372036854775807) (hT : Tab w) :
    Calls Tryz.prog 4 #[ivV s a len cap e s' a' len' cap' e', ivV t b ln cp f t' b' ln' cp' f', .int .i64 p, dyV u q ld cd g] w fun r w' => r = .returned (.bool true) ∧ Below w.heap.size w w' := by
  have HDc : Hid _ := fun w' (g1 : IsW w' a len cap xs) (g2 : IsW w' a' len' cap' ys) tt => pDecide_calls s a len cap xs e s' a' len' cap' ys e' w' g1 hm g2 hm' tt
  have HDu : Hid _ := fun w' (g1 : IsW w' b ln cp us) (g2 : IsW w' b' ln' cp' vs) tt => pDecide_calls t b ln cp us f t' b' ln' cp' vs f' w' g1 hmu g2 hmv tt
  have HRd : Hid _ := fun w' (g1 : IsW w' q ld cd zs) => qRight_calls u q ld cd zs g w' g1 (by omega)
  have HRl : Hid _ := fun w' (g1 : IsW w' b ln cp us) => qRight_calls t b ln cp us f w' g1 (by omega)
  have HRh : Hid _ := fun w' (g1 : IsW w' b' ln' cp' vs) => qRight_calls t' b' ln' cp' vs f' w' g1 (by omega)
  have HNd : Hid _ := fun w' (g1 : IsW w' q ld cd zs) tt => pNear_calls u q ld cd zs g w' g1 hmd tt
  have HTd : Hid _ := fun w' (g1 : IsW w' q ld cd zs) tt => to_calls u q ld cd zs g w' g1 (by omega) tt
  have HZd : Hid _ := fun w' (g1 : IsW w' q ld cd zs) => qZero_calls u q ld cd zs g w' g1 (by omega)
  have bA : Below w.heap.size w (((w.alloc (.cells #[.bool s, .slice a len cap, .int .i64 e, .bool s', .slice a' len' cap', .int .i64 e'] 27)).alloc (.cells #[.bool t, .slice b ln cp, .int .i64 f, .bool t', .slice b' ln' cp', .int .i64 f'] 27)).alloc (.cells #[.bool u, .slice q ld cd, .int .i64 g] 25)) := nbelow_trans (nbelow_trans (below_one _ _) (below_one _ _)) (below_one _ _)
  have hI := h.keep bA
  have hJ := h'.keep bA
  have hK := hu.keep bA
  have hL := hv.keep bA
  have hD := hd.keep bA
  have hT0 := hT.kept bA
  have c0 : (((w.alloc (.cells #[.bool s, .slice a len cap, .int .i64 e, .bool s', .slice a' len' cap', .int .i64 e'] 27)).alloc (.cells #[.bool t, .slice b ln cp, .int .i64 f, .bool t', .slice b' ln' cp', .int .i64 f'] 27)).alloc (.cells #[.bool u, .slice q ld cd, .int .i64 g] 25)).cell? ⟨w.heap.size, 0, none⟩ = some (.bool s) := by go_simp
  have c1 : (((w.alloc (.cells #[.bool s, .slice a len cap, .int .i64 e, .bool s', .slice a' len' cap', .int .i64 e'] 27)).alloc (.cells #[.bool t, .slice b ln cp, .int .i64 f, .bool t', .slice b' ln' cp', .int .i64 f'] 27)).alloc (.cells #[.bool u, .slice q ld cd, .int .i64 g] 25)).cell? ⟨w.heap.size, 1, none⟩ = some (.slice a len cap) := by go_simp
  have c2 : (((w.alloc (.cells #[.bool s, .slice a len cap, .int .i64 e, .bool s', .slice a' len' cap', .int .i64 e'] 27)).alloc (.cells #[.bool t, .slice b ln cp, .int .i64 f, .bool t', .slice b' ln' cp', .int .i64 f'] 27)).alloc (.cells #[.bool u, .slice q ld cd, .int .i64 g] 25)).cell? ⟨w.heap.size, 2, none⟩ = some (.int .i64 e) := by go_simp
  have c3 : (((w.alloc (.cells #[.bool s, .slice a len cap, .int .i64 e, .bool s', .slice a' len' cap', .int .i64 e'] 27)).alloc (.cells #[.bool t, .slice b ln cp, .int .i64 f, .bool t', .slice b' ln' cp', .int .i64 f'] 27)).alloc (.cells #[.bool u, .slice q ld cd, .int .i64 g] 25)).cell? ⟨w.heap.size, 3, none⟩ = some (.bool s') := by go_simp
  have c4 : (((w.alloc (.cells #[.bool s, .slice a len cap, .int .i64 e, .bool s', .slice a' len' cap', .int .i64 e'] 27)).alloc (.cells #[.bool t, .slice b ln cp, .int .i64 f, .bool t', .slice b' ln' cp', .int .i64 f'] 27)).alloc (.cells #[.bool u, .slice q ld cd, .int .i64 g] 25)).cell? ⟨w.heap.size, 4, none⟩ = some (.slice a' len' cap') := by go_simp
  have c5 : (((w.alloc (.cells #[.bool s, .slice a len cap, .int .i64 e, .bool s', .slice a' len' cap', .int .i64 e'] 27)).alloc (.cells #[.bool t, .slice b ln cp, .int .i64 f, .bool t', .slice b' ln' cp', .int .i64 f'] 27)).alloc (.cells #[.bool u, .slice q ld cd, .int .i64 g] 25)).cell? ⟨w.heap.size, 5, none⟩ = some (.int .i64 e') := by go_simp
  have k0 : (((w.alloc (.cells #[.bool s, .slice a len cap, .int .i64 e, .bool s', .slice a' len' cap', .int .i64 e'] 27)).alloc (.cells #[.bool t, .slice b ln cp, .int .i64 f, .bool t', .slice b' ln' cp', .int .i64 f'] 27)).alloc (.cells #[.bool u, .slice q ld cd, .int .i64 g] 25)).cell? ⟨w.heap.size + 1, 0, none⟩ = some (.bool t) := by go_simp
  have k1 : (((w.alloc (.cells #[.bool s, .slice a len cap, .int .i64 e, .bool s', .slice a' len' cap', .int .i64 e'] 27)).alloc (.cells #[.bool t, .slice b ln cp, .int .i64 f, .bool t', .slice b' ln' cp', .int .i64 f'] 27)).alloc (.cells #[.bool u, .slice q ld cd, .int .i64 g] 25)).cell? ⟨w.heap.size + 1, 1, none⟩ = some (.slice b ln cp) := by go_simp
  have k2 : (((w.alloc (.cells #[.bool s, .slice a len cap, .int .i64 e, .bool s', .slice a' len' cap', .int .i64 e'] 27)).alloc (.cells #[.bool t, .slice b ln cp, .int .i64 f, .bool t', .slice b' ln' cp', .int .i64 f'] 27)).alloc (.cells #[.bool u, .slice q ld cd, .int .i64 g] 25)).cell? ⟨w.heap.size + 1, 2, none⟩ = some (.int .i64 f) := by go_simp
  have k3 : (((w.alloc (.cells #[.bool s, .slice a len cap, .int .i64 e, .bool s', .slice a' len' cap', .int .i64 e'] 27)).alloc (.cells #[.bool t, .slice b ln cp, .int .i64 f, .bool t', .slice b' ln' cp', .int .i64 f'] 27)).alloc (.cells #[.bool u, .slice q ld cd, .int .i64 g] 25)).cell? ⟨w.heap.size + 1, 3, none⟩ = some (.bool t') := by go_simp
  have k4 : (((w.alloc (.cells #[.bool s, .slice a len cap, .int .i64 e, .bool s', .slice a' len' cap', .int .i64 e'] 27)).alloc (.cells #[.bool t, .slice b ln cp, .int .i64 f, .bool t', .slice b' ln' cp', .int .i64 f'] 27)).alloc (.cells #[.bool u, .slice q ld cd, .int .i64 g] 25)).cell? ⟨w.heap.size + 1, 4, none⟩ = some (.slice b' ln' cp') := by go_simp
  have k5 : (((w.alloc (.cells #[.bool s, .slice a len cap, .int .i64 e, .bool s', .slice a' len' cap', .int .i64 e'] 27)).alloc (.cells #[.bool t, .slice b ln cp, .int .i64 f, .bool t', .slice b' ln' cp', .int .i64 f'] 27)).alloc (.cells #[.bool u, .slice q ld cd, .int .i64 g] 25)).cell? ⟨w.heap.size + 1, 5, none⟩ = some (.int .i64 f') := by go_simp
  have d0 : (((w.alloc (.cells #[.bool s, .slice a len cap, .int .i64 e, .bool s', .slice a' len' cap', .int .i64 e'] 27)).alloc (.cells #[.bool t, .slice b ln cp, .int .i64 f, .bool t', .slice b' ln' cp', .int .i64 f'] 27)).alloc (.cells #[.bool u, .slice q ld cd, .int .i64 g] 25)).cell? ⟨w.heap.size + 1 + 1, 0, none⟩ = some (.bool u) := by go_simp
  have d1 : (((w.alloc (.cells #[.bool s, .slice a len cap, .int .i64 e, .bool s', .slice a' len' cap', .int .i64 e'] 27)).alloc (.cells #[.bool t, .slice b ln cp, .int .i64 f, .bool t', .slice b' ln' cp', .int .i64 f'] 27)).alloc (.cells #[.bool u, .slice q ld cd, .int .i64 g] 25)).cell? ⟨w.heap.size + 1 + 1, 1, none⟩ = some (.slice q ld cd) := by go_simp
  have d2 : (((w.alloc (.cells #[.bool s, .slice a len cap, .int .i64 e, .bool s', .slice a' len' cap', .int .i64 e'] 27)).alloc (.cells #[.bool t, .slice b ln cp, .int .i64 f, .bool t', .slice b' ln' cp', .int .i64 f'] 27)).alloc (.cells #[.bool u, .slice q ld cd, .int .i64 g] 25)).cell? ⟨w.heap.size + 1 + 1, 2, none⟩ = some (.int .i64 g) := by go_simp
  clear h h' hu hv hd hT _he _he' _hf _hf' _hg
  go_enter Tryz.func4, Tryz.ntmps4
  go_wp2_with fail
  generalize (((w.alloc (.cells #[.bool s, .slice a len cap, .int .i64 e, .bool s', .slice a' len' cap', .int .i64 e'] 27)).alloc (.cells #[.bool t, .slice b ln cp, .int .i64 f, .bool t', .slice b' ln' cp', .int .i64 f'] 27)).alloc (.cells #[.bool u, .slice q ld cd, .int .i64 g] 25)) = w0 at *
  refine Calls.mono (rLives_calls _ hT0) ?_
  rintro r w1 ⟨rfl, bN⟩
  replace c0 := dcarry_cell bN c0
  replace c1 := dcarry_cell bN c1
  replace c2 := dcarry_cell bN c2
  replace c3 := dcarry_cell bN c3
  replace c4 := dcarry_cell bN c4
  replace c5 := dcarry_cell bN c5
  replace k0 := dcarry_cell bN k0
  replace k1 := dcarry_cell bN k1
  replace k2 := dcarry_cell bN k2
  replace k3 := dcarry_cell bN k3
  replace k4 := dcarry_cell bN k4
  replace k5 := dcarry_cell bN k5
  replace d0 := dcarry_cell bN d0
  replace d1 := dcarry_cell bN d1
  replace d2 := dcarry_cell bN d2
  replace hI := IsW.keep hI bN
  replace hJ := IsW.keep hJ bN
  replace hK := IsW.keep hK bN
  replace hL := IsW.keep hL bN
  replace hD := IsW.keep hD bN
  replace hT0 := hT0.kept bN
  replace bA := nbelow_trans bA bN
  clear bN
  go_wp2_with fail
  refine Calls.mono (HDc.out _ hI hJ hT0) ?_
  rintro r w2 ⟨rfl, bN⟩
  replace c0 := dcarry_cell bN c0
  replace c1 := dcarry_cell bN c1
  replace c2 := dcarry_cell bN c2
  replace c3 := dcarry_cell bN c3
  replace c4 := dcarry_cell bN c4
  replace c5 := dcarry_cell bN c5
  replace k0 := dcarry_cell bN k0
  replace k1 := dcarry_cell bN k1
  replace k2 := dcarry_cell bN k2
  replace k3 := dcarry_cell bN k3
  replace k4 := dcarry_cell bN k4
  replace k5 := dcarry_cell bN k5
  replace d0 := dcarry_cell bN d0
  replace d1 := dcarry_cell bN d1
  replace d2 := dcarry_cell bN d2
  replace hI := IsW.keep hI bN
  replace hJ := IsW.keep hJ bN
  replace hK := IsW.keep hK bN
  replace hL := IsW.keep hL bN
  replace hD := IsW.keep hD bN
  replace hT0 := hT0.kept bN
  replace bA := nbelow_trans bA bN
  clear bN
  cases hr : rtB s (val xs) e s' (val ys) e' with
  | false =>
    have e1 : dcE s (val xs) e s' (val ys) e' = 2 := by unfold dcE; rw [hr]; rfl
    have e2 : dcB s (val xs) e s' (val ys) e' = false := by unfold dcB; rw [hr]; rfl
    rw [e1, e2]
    clear e1 e2 hr
    go_wp2_with fail
    go_ret
    exact ⟨rfl, by repeat (first | exact bA | refine nbelow_trans ?_ (below_one _ _))⟩
  | true =>
  have e1 : dcE s (val xs) e s' (val ys) e' = 0 := by unfold dcE; rw [hr]; rfl
  rw [e1]
  clear e1
  have q1 := hr
  unfold rtB at q1
  simp only [Bool.and_eq_true] at q1
  obtain ⟨⟨ra, rb⟩, hab⟩ := q1
  obtain ⟨ga, ha⟩ := rightB_yes ra
  obtain ⟨gb, hb⟩ := rightB_yes rb
  have hla := (great_not _).1 ga
  have hlb := (great_not _).1 gb
  have HP : Hid (dcB s (val xs) e s' (val ys) e' = true → rightB (val zs) g = true → cmpD (formD s (val xs) e) (formD u (val zs) g) ≤ 0 → cmpD (formD u (val zs) g) (formD s' (val ys) e') ≤ 0 → erR (val zs) g = 0 ∧ nbR u (val zs) g = dcN s (val xs) e s' (val ys) e' ∧ ((toR u (val zs) g).2 = false → flR u (val zs) g = dcF s (val xs) e s' (val ys) e')) := fun hB rd c1 c2 => within_one hB rd c1 c2
  have HO1 : Hid (rightB (val zs) g = true → ∀ w', IsW w' a len cap xs → IsW w' q ld cd zs → Calls Tryz.prog 15 #[dyV s a len cap e, dyV u q ld cd g] w' fun r w'' => r = .returned (.int .i64 (cmpD (formD s (val xs) e) (formD u (val zs) g))) ∧ Below w'.heap.size w' w'') := fun rd w' g1 g2 => by
    obtain ⟨gd, hd⟩ := rightB_yes rd
    have hld := (great_not _).1 gd
    exact qOrder_calls s a len cap xs e u q ld cd zs g w' g1 hm g2 hmd (by omega) (by omega) (by omega) (by omega)
  have HO2 : Hid (rightB (val zs) g = true → ∀ w', IsW w' q ld cd zs → IsW w' a' len' cap' ys → Calls Tryz.prog 15 #[dyV u q ld cd g, dyV s' a' len' cap' e'] w' fun r w'' => r = .returned (.int .i64 (cmpD (formD u (val zs) g) (formD s' (val ys) e'))) ∧ Below w'.heap.size w' w'') := fun rd w' g1 g2 => by
    obtain ⟨gd, hd⟩ := rightB_yes rd
    have hld := (great_not _).1 gd
    exact qOrder_calls u q ld cd zs g s' a' len' cap' ys e' w' g1 hmd g2 hm' (by omega) (by omega) (by omega) (by omega)
  have HX : Hid _ := fun w' (g1 : IsW w' a len cap xs) (g2 : IsW w' a' len' cap' ys) tt => wide_all s a len cap xs e s' a' len' cap' ys e' p w' g1 hm g2 hm' tt hr
  have bB := below_one w2 (.cells #[.int .u64 (dcN s (val xs) e s' (val ys) e'), .int .u8 (dcF s (val xs) e s' (val ys) e')] 31)
  have r0 : (w2.alloc (.cells #[.int .u64 (dcN s (val xs) e s' (val ys) e'), .int .u8 (dcF s (val xs) e s' (val ys) e')] 31)).cell? ⟨w2.heap.size, 0, none⟩ = some (.int .u64 (dcN s (val xs) e s' (val ys) e')) := by go_simp
  have r1 : (w2.alloc (.cells #[.int .u64 (dcN s (val xs) e s' (val ys) e'), .int .u8 (dcF s (val xs) e s' (val ys) e')] 31)).cell? ⟨w2.heap.size, 1, none⟩ = some (.int .u8 (dcF s (val xs) e s' (val ys) e')) := by go_simp
  replace c0 := dcarry_cell bB c0
  replace c1 := dcarry_cell bB c1
  replace c2 := dcarry_cell bB c2
  replace c3 := dcarry_cell bB c3
  replace c4 := dcarry_cell bB c4
  replace c5 := dcarry_cell bB c5
  replace k0 := dcarry_cell bB k0
  replace k1 := dcarry_cell bB k1
  replace k2 := dcarry_cell bB k2
  replace k3 := dcarry_cell bB k3
  replace k4 := dcarry_cell bB k4
  replace k5 := dcarry_cell bB k5
  replace d0 := dcarry_cell bB d0
  replace d1 := dcarry_cell bB d1
  replace d2 := dcarry_cell bB d2
  replace hI := IsW.keep hI bB
  replace hJ := IsW.keep hJ bB
  replace hK := IsW.keep hK bB
  replace hL := IsW.keep hL bB
  replace hD := IsW.keep hD bB
  replace hT0 := hT0.kept bB
  replace bA := nbelow_trans bA bB
  clear bB
  generalize hN : dcN s (val xs) e s' (val ys) e' = N at *
  generalize hF : dcF s (val xs) e s' (val ys) e' = F at *
  generalize hB : dcB s (val xs) e s' (val ys) e' = B at *
  clear hN hF hB ra rb hab ga ha gb hb hla hlb HDc
  generalize cmpD (formD s (val xs) e) (formD u (val zs) g) = kA at *
  generalize cmpD (formD u (val zs) g) (formD s' (val ys) e') = kB at *
  generalize rightB (val zs) g = RD at *
  go_upto_region 6 with fail
  generalize (w2.alloc (.cells #[.int .u64 N, .int .u8 F] 31)) = w3 at *
  have bW := bA
  clear bA
  go_cut [51] from 33 to 51 (fun v wx => ∃ bb : Bool, v = .bool bb ∧ Below w3.heap.size w3 wx ∧ Hid (bb = true → B = true ∧ RD = true ∧ kA ≤ 0 ∧ kB ≤ 0))
  case first =>
    cases B with
    | false =>
      go_wp2_with fail
      go_meet
      exact ⟨false, rfl, by first | exact bR | exact Below.refl _ _, fun q => by cases q⟩
    | true =>
      go_wp2_with fail
      refine Calls.mono (HRd.out _ hD) ?_
      rintro r x1 ⟨rfl, bR⟩
      cases RD with
      | false =>
        go_wp2_with fail
        go_meet
        exact ⟨false, rfl, by first | exact bR | exact Below.refl _ _, fun q => by cases q⟩
      | true =>
        have HO1' : Hid _ := HO1.out rfl
        have HO2' : Hid _ := HO2.out rfl
        have c0x := dcarry_cell bR c0
        have c1x := dcarry_cell bR c1
        have c2x := dcarry_cell bR c2
        have c3x := dcarry_cell bR c3
        have c4x := dcarry_cell bR c4
        have c5x := dcarry_cell bR c5
        have d0x := dcarry_cell bR d0
        have d1x := dcarry_cell bR d1
        have d2x := dcarry_cell bR d2
        go_wp2_with fail
        refine Calls.mono (HO1'.out _ (IsW.keep hI bR) (IsW.keep hD bR)) ?_
        rintro r x2 ⟨rfl, bM⟩
        replace bR := nbelow_trans bR bM
        clear bM c0x c1x c2x c3x c4x c5x d0x d1x d2x
        by_cases q1 : kA ≤ 0
        · skip
          have c0x := dcarry_cell bR c0
          have c1x := dcarry_cell bR c1
          have c2x := dcarry_cell bR c2
          have c3x := dcarry_cell bR c3
          have c4x := dcarry_cell bR c4
          have c5x := dcarry_cell bR c5
          have d0x := dcarry_cell bR d0
          have d1x := dcarry_cell bR d1
          have d2x := dcarry_cell bR d2
          go_wp2_with fail
          refine Calls.mono (HO2'.out _ (IsW.keep hD bR) (IsW.keep hJ bR)) ?_
          rintro r x3 ⟨rfl, bM⟩
          replace bR := nbelow_trans bR bM
          clear bM
          by_cases q2 : kB ≤ 0
          · go_wp2_with fail
            go_meet
            exact ⟨true, rfl, bR, fun _ => ⟨by first | rfl | trivial, by first | rfl | trivial, q1, q2⟩⟩
          · go_wp2_with fail
            go_meet
            first | exact ⟨false, rfl, bR, fun q => by cases q⟩ | exact ⟨_, rfl, bR, fun q => absurd (of_decide_eq_true q) (by omega)⟩
        · go_wp2_with fail
          go_meet
          first | exact ⟨false, rfl, bR, fun q => by cases q⟩ | exact ⟨_, rfl, bR, fun q => absurd (of_decide_eq_true q) (by omega)⟩
  case rest =>
  obtain ⟨bb, rfl, bR, HB⟩ := hcut
  go_upto_if 51 with fail
  go_cut [51] from 12 to 87 (fun v wx => ∃ b2 : Bool, v = .bool b2 ∧ Below w3.heap.size w3 wx)
  case first =>
    cases bb with
    | false =>
      go_wp2_with fail
      go_meet
      exact ⟨_, rfl, bR⟩
    | true =>
      obtain ⟨y1, y2, y3, y4⟩ := HB.out rfl
      obtain ⟨p1, p2, p3⟩ := HP.out y1 y2 y3 y4
      rw [p1, p2] at HNd
      have H3 : Hid _ := p3
      clear p1 p2 p3 y1 y2 y3 y4 HB
      have d0x := dcarry_cell bR d0
      have d1x := dcarry_cell bR d1
      have d2x := dcarry_cell bR d2
      go_wp2_with fail
      refine Calls.mono (HTd.out _ (IsW.keep hD bR) (hT0.kept bR)) ?_
      rintro r x1 ⟨rfl, bM⟩
      replace bR := nbelow_trans bR bM
      clear bM d0x d1x d2x
      have d0x := dcarry_cell bR d0
      have d1x := dcarry_cell bR d1
      have d2x := dcarry_cell bR d2
      go_wp2_with fail
      refine Calls.mono (HNd.out _ (IsW.keep hD bR) (hT0.kept bR)) ?_
      rintro r x2 ⟨rfl, bM⟩
      replace bR := nbelow_trans bR bM
      clear bM d0x d1x d2x
      generalize flR u (val zs) g = fl at *
      have bQ := below_one x2 (.cells #[.int .u64 N, .int .u8 fl] 31)
      have n0 : (x2.alloc (.cells #[.int .u64 N, .int .u8 fl] 31)).cell? ⟨x2.heap.size, 0, none⟩ = some (.int .u64 N) := by go_simp
      have n1 : (x2.alloc (.cells #[.int .u64 N, .int .u8 fl] 31)).cell? ⟨x2.heap.size, 1, none⟩ = some (.int .u8 fl) := by go_simp
      replace bR := nbelow_trans bR bQ
      clear bQ
      have r0x := dcarry_cell bR r0
      have r1x := dcarry_cell bR r1
      have d0x := dcarry_cell bR d0
      have d1x := dcarry_cell bR d1
      have d2x := dcarry_cell bR d2
      cases ho : (toR u (val zs) g).2 with
      | false =>
        have hfl : fl = F := H3.out ho
        subst hfl
        clear ho H3
        go_wp2_with fail
        go_meet
        exact ⟨_, rfl, bR⟩
      | true =>
        clear ho H3
        go_wp2_with fail
        go_meet
        exact ⟨_, rfl, bR⟩
  case rest =>
  obtain ⟨b2, rfl, bR⟩ := hcut
  have bA := bW
  clear bW HP HO1 HO2 HRd HNd HTd HZd HB
  replace c0 := dcarry_cell bR c0
  replace c1 := dcarry_cell bR c1
  replace c2 := dcarry_cell bR c2
  replace c3 := dcarry_cell bR c3
  replace c4 := dcarry_cell bR c4
  replace c5 := dcarry_cell bR c5
  replace k0 := dcarry_cell bR k0
  replace k1 := dcarry_cell bR k1
  replace k2 := dcarry_cell bR k2
  replace k3 := dcarry_cell bR k3
  replace k4 := dcarry_cell bR k4
  replace k5 := dcarry_cell bR k5
  replace d0 := dcarry_cell bR d0
  replace d1 := dcarry_cell bR d1
  replace d2 := dcarry_cell bR d2
  replace r0 := dcarry_cell bR r0
  replace r1 := dcarry_cell bR r1
  replace hI := IsW.keep hI bR
  replace hJ := IsW.keep hJ bR
  replace hK := IsW.keep hK bR
  replace hL := IsW.keep hL bR
  replace hD := IsW.keep hD bR
  replace hT0 := hT0.kept bR
  replace bA := nbelow_trans bA bR
  clear bR
  go_wp2_with fail
  refine Calls.mono (HX.out _ hI hJ hT0) ?_
  rintro r w5 (⟨er, her, rfl, bN⟩ | ⟨hz, al, nl, cl, ah, nh, ch, rfl, hnl, hnh, iL, iH, bN⟩)
  · replace bA := nbelow_trans bA bN
    rcases her.out with q | q
    · subst q
      clear her
      go_wp2_with fail
      go_ret
      exact ⟨rfl, by repeat (first | exact bA | refine nbelow_trans ?_ (below_one _ _))⟩
    · subst q
      clear her
      go_wp2_with fail
      go_ret
      exact ⟨rfl, by repeat (first | exact bA | refine nbelow_trans ?_ (below_one _ _))⟩
  · skip
    replace c0 := dcarry_cell bN c0
    replace c1 := dcarry_cell bN c1
    replace c2 := dcarry_cell bN c2
    replace c3 := dcarry_cell bN c3
    replace c4 := dcarry_cell bN c4
    replace c5 := dcarry_cell bN c5
    replace k0 := dcarry_cell bN k0
    replace k1 := dcarry_cell bN k1
    replace k2 := dcarry_cell bN k2
    replace k3 := dcarry_cell bN k3
    replace k4 := dcarry_cell bN k4
    replace k5 := dcarry_cell bN k5
    replace d0 := dcarry_cell bN d0
    replace d1 := dcarry_cell bN d1
    replace d2 := dcarry_cell bN d2
    replace r0 := dcarry_cell bN r0
    replace r1 := dcarry_cell bN r1
    replace hI := IsW.keep hI bN
    replace hJ := IsW.keep hJ bN
    replace hK := IsW.keep hK bN
    replace hL := IsW.keep hL bN
    replace hD := IsW.keep hD bN
    replace hT0 := hT0.kept bN
    replace bA := nbelow_trans bA bN
    clear bN
    have hrW := wide_right hr hz.out.1 hz.out.2.1 hz.out.2.2
    have q3 := hrW
    unfold rtB at q3
    simp only [Bool.and_eq_true] at q3
    have rL := q3.1.1
    have rH := q3.1.2
    obtain ⟨gL, hLe⟩ := rightB_yes rL
    obtain ⟨gH, hHe⟩ := rightB_yes rH
    have blL := (great_not _).1 gL
    have blH := (great_not _).1 gH
    have HW : Hid _ := fun w' (g1 : IsW w' al nl cl (wordsOf (wlP s (val xs) e (mgP (val xs) e (val ys) e' p)).2.1)) (g2 : IsW w' ah nh ch (wordsOf (whP s' (val ys) e' (mgP (val xs) e (val ys) e' p)).2.1)) tt => pDecide_calls (wlP s (val xs) e (mgP (val xs) e (val ys) e' p)).1 al nl cl (wordsOf (wlP s (val xs) e (mgP (val xs) e (val ys) e' p)).2.1) (wlP s (val xs) e (mgP (val xs) e (val ys) e' p)).2.2 (whP s' (val ys) e' (mgP (val xs) e (val ys) e' p)).1 ah nh ch (wordsOf (whP s' (val ys) e' (mgP (val xs) e (val ys) e' p)).2.1) (whP s' (val ys) e' (mgP (val xs) e (val ys) e' p)).2.2 w' g1 (by omega) g2 (by omega) tt
    rw [val_words, val_words, show dcE (wlP s (val xs) e (mgP (val xs) e (val ys) e' p)).1 (wlP s (val xs) e (mgP (val xs) e (val ys) e' p)).2.1 (wlP s (val xs) e (mgP (val xs) e (val ys) e' p)).2.2 (whP s' (val ys) e' (mgP (val xs) e (val ys) e' p)).1 (whP s' (val ys) e' (mgP (val xs) e (val ys) e' p)).2.1 (whP s' (val ys) e' (mgP (val xs) e (val ys) e' p)).2.2 = 0 from by unfold dcE; rw [hrW]; rfl] at HW
    have HPW : Hid (dcB (wlP s (val xs) e (mgP (val xs) e (val ys) e' p)).1 (wlP s (val xs) e (mgP (val xs) e (val ys) e' p)).2.1 (wlP s (val xs) e (mgP (val xs) e (val ys) e' p)).2.2 (whP s' (val ys) e' (mgP (val xs) e (val ys) e' p)).1 (whP s' (val ys) e' (mgP (val xs) e (val ys) e' p)).2.1 (whP s' (val ys) e' (mgP (val xs) e (val ys) e' p)).2.2 = true → rightB (val us) f = true → rightB (val vs) f' = true → ¬ cmpD (formD t' (val vs) f') (formD t (val us) f) < 0 → ¬ 0 < cmpD (formD (wlP s (val xs) e (mgP (val xs) e (val ys) e' p)).1 (wlP s (val xs) e (mgP (val xs) e (val ys) e' p)).2.1 (wlP s (val xs) e (mgP (val xs) e (val ys) e' p)).2.2) (formD t (val us) f) → ¬ 0 < cmpD (formD t' (val vs) f') (formD (whP s' (val ys) e' (mgP (val xs) e (val ys) e' p)).1 (whP s' (val ys) e' (mgP (val xs) e (val ys) e' p)).2.1 (whP s' (val ys) e' (mgP (val xs) e (val ys) e' p)).2.2) → dcE t (val us) f t' (val vs) f' = 0 ∧ dcB t (val us) f t' (val vs) f' = true ∧ dcN t (val us) f t' (val vs) f' = dcN (wlP s (val xs) e (mgP (val xs) e (val ys) e' p)).1 (wlP s (val xs) e (mgP (val xs) e (val ys) e' p)).2.1 (wlP s (val xs) e (mgP (val xs) e (val ys) e' p)).2.2 (whP s' (val ys) e' (mgP (val xs) e (val ys) e' p)).1 (whP s' (val ys) e' (mgP (val xs) e (val ys) e' p)).2.1 (whP s' (val ys) e' (mgP (val xs) e (val ys) e' p)).2.2 ∧ dcF t (val us) f t' (val vs) f' = dcF (wlP s (val xs) e (mgP (val xs) e (val ys) e' p)).1 (wlP s (val xs) e (mgP (val xs) e (val ys) e' p)).2.1 (wlP s (val xs) e (mgP (val xs) e (val ys) e' p)).2.2 (whP s' (val ys) e' (mgP (val xs) e (val ys) e' p)).1 (whP s' (val ys) e' (mgP (val xs) e (val ys) e' p)).2.1 (whP s' (val ys) e' (mgP (val xs) e (val ys) e' p)).2.2) := fun y1 y2 y3 y4 y5 y6 => within_two y1 y2 y3 y4 y5 y6
    have HQ1 : Hid (rightB (val us) f = true → rightB (val vs) f' = true → ∀ w', IsW w' b' ln' cp' vs → IsW w' b ln cp us → Calls Tryz.prog 15 #[dyV t' b' ln' cp' f', dyV t b ln cp f] w' fun r w'' => r = .returned (.int .i64 (cmpD (formD t' (val vs) f') (formD t (val us) f))) ∧ Below w'.heap.size w' w'') := fun r1 r2 w' g1 g2 => by
      obtain ⟨g3, h3⟩ := rightB_yes r1
      obtain ⟨g4, h4⟩ := rightB_yes r2
      have l3 := (great_not _).1 g3
      have l4 := (great_not _).1 g4
      exact qOrder_calls t' b' ln' cp' vs f' t b ln cp us f w' g1 hmv g2 hmu (by omega) (by omega) (by omega) (by omega)
    have HQ2 : Hid (rightB (val us) f = true → ∀ w', IsW w' al nl cl (wordsOf (wlP s (val xs) e (mgP (val xs) e (val ys) e' p)).2.1) → IsW w' b ln cp us → Calls Tryz.prog 15 #[dyV (wlP s (val xs) e (mgP (val xs) e (val ys) e' p)).1 al nl cl (wlP s (val xs) e (mgP (val xs) e (val ys) e' p)).2.2, dyV t b ln cp f] w' fun r w'' => r = .returned (.int .i64 (cmpD (formD (wlP s (val xs) e (mgP (val xs) e (val ys) e' p)).1 (wlP s (val xs) e (mgP (val xs) e (val ys) e' p)).2.1 (wlP s (val xs) e (mgP (val xs) e (val ys) e' p)).2.2) (formD t (val us) f))) ∧ Below w'.heap.size w' w'') := fun r1 w' g1 g2 => by
      obtain ⟨g3, h3⟩ := rightB_yes r1
      have l3 := (great_not _).1 g3
      have := qOrder_calls (wlP s (val xs) e (mgP (val xs) e (val ys) e' p)).1 al nl cl (wordsOf (wlP s (val xs) e (mgP (val xs) e (val ys) e' p)).2.1) (wlP s (val xs) e (mgP (val xs) e (val ys) e' p)).2.2 t b ln cp us f w' g1 (by omega) g2 hmu (by omega) (by omega) (by rw [val_words]; omega) (by omega)
      rw [val_words] at this
      exact this
    have HQ3 : Hid (rightB (val vs) f' = true → ∀ w', IsW w' b' ln' cp' vs → IsW w' ah nh ch (wordsOf (whP s' (val ys) e' (mgP (val xs) e (val ys) e' p)).2.1) → Calls Tryz.prog 15 #[dyV t' b' ln' cp' f', dyV (whP s' (val ys) e' (mgP (val xs) e (val ys) e' p)).1 ah nh ch (whP s' (val ys) e' (mgP (val xs) e (val ys) e' p)).2.2] w' fun r w'' => r = .returned (.int .i64 (cmpD (formD t' (val vs) f') (formD (whP s' (val ys) e' (mgP (val xs) e (val ys) e' p)).1 (whP s' (val ys) e' (mgP (val xs) e (val ys) e' p)).2.1 (whP s' (val ys) e' (mgP (val xs) e (val ys) e' p)).2.2))) ∧ Below w'.heap.size w' w'') := fun r1 w' g1 g2 => by
      obtain ⟨g3, h3⟩ := rightB_yes r1
      have l3 := (great_not _).1 g3
      have := qOrder_calls t' b' ln' cp' vs f' (whP s' (val ys) e' (mgP (val xs) e (val ys) e' p)).1 ah nh ch (wordsOf (whP s' (val ys) e' (mgP (val xs) e (val ys) e' p)).2.1) (whP s' (val ys) e' (mgP (val xs) e (val ys) e' p)).2.2 w' g1 hmv g2 (by omega) (by omega) (by omega) (by omega) (by rw [val_words]; omega)
      rw [val_words] at this
      exact this
    generalize cmpD (formD t' (val vs) f') (formD t (val us) f) = o1 at *
    generalize cmpD (formD (wlP s (val xs) e (mgP (val xs) e (val ys) e' p)).1 (wlP s (val xs) e (mgP (val xs) e (val ys) e' p)).2.1 (wlP s (val xs) e (mgP (val xs) e (val ys) e' p)).2.2) (formD t (val us) f) = o2 at *
    generalize cmpD (formD t' (val vs) f') (formD (whP s' (val ys) e' (mgP (val xs) e (val ys) e' p)).1 (whP s' (val ys) e' (mgP (val xs) e (val ys) e' p)).2.1 (whP s' (val ys) e' (mgP (val xs) e (val ys) e' p)).2.2) = o3 at *
    generalize dcN (wlP s (val xs) e (mgP (val xs) e (val ys) e' p)).1 (wlP s (val xs) e (mgP (val xs) e (val ys) e' p)).2.1 (wlP s (val xs) e (mgP (val xs) e (val ys) e' p)).2.2 (whP s' (val ys) e' (mgP (val xs) e (val ys) e' p)).1 (whP s' (val ys) e' (mgP (val xs) e (val ys) e' p)).2.1 (whP s' (val ys) e' (mgP (val xs) e (val ys) e' p)).2.2 = NW at *
    generalize dcF (wlP s (val xs) e (mgP (val xs) e (val ys) e' p)).1 (wlP s (val xs) e (mgP (val xs) e (val ys) e' p)).2.1 (wlP s (val xs) e (mgP (val xs) e (val ys) e' p)).2.2 (whP s' (val ys) e' (mgP (val xs) e (val ys) e' p)).1 (whP s' (val ys) e' (mgP (val xs) e (val ys) e' p)).2.1 (whP s' (val ys) e' (mgP (val xs) e (val ys) e' p)).2.2 = FW at *
    generalize dcB (wlP s (val xs) e (mgP (val xs) e (val ys) e' p)).1 (wlP s (val xs) e (mgP (val xs) e (val ys) e' p)).2.1 (wlP s (val xs) e (mgP (val xs) e (val ys) e' p)).2.2 (whP s' (val ys) e' (mgP (val xs) e (val ys) e' p)).1 (whP s' (val ys) e' (mgP (val xs) e (val ys) e' p)).2.1 (whP s' (val ys) e' (mgP (val xs) e (val ys) e' p)).2.2 = BW at *
    generalize dcN t (val us) f t' (val vs) f' = NU at *
    generalize dcF t (val us) f t' (val vs) f' = FU at *
    generalize dcB t (val us) f t' (val vs) f' = BU at *
    generalize dcE t (val us) f t' (val vs) f' = EU at *
    generalize rightB (val us) f = R1 at *
    generalize rightB (val vs) f' = R2 at *
    clear hrW q3 rL rH gL hLe gH hHe blL blH hz HX
    generalize (wlP s (val xs) e (mgP (val xs) e (val ys) e' p)) = PL at *
    generalize (whP s' (val ys) e' (mgP (val xs) e (val ys) e' p)) = PH at *
    have bB := below_one w5 (.cells #[.bool PL.1, .slice al nl cl, .int .i64 PL.2.2, .bool PH.1, .slice ah nh ch, .int .i64 PH.2.2] 27)
    have p0 : (w5.alloc (.cells #[.bool PL.1, .slice al nl cl, .int .i64 PL.2.2, .bool PH.1, .slice ah nh ch, .int .i64 PH.2.2] 27)).cell? ⟨w5.heap.size, 0, none⟩ = some (.bool PL.1) := by go_simp
    have p1 : (w5.alloc (.cells #[.bool PL.1, .slice al nl cl, .int .i64 PL.2.2, .bool PH.1, .slice ah nh ch, .int .i64 PH.2.2] 27)).cell? ⟨w5.heap.size, 1, none⟩ = some (.slice al nl cl) := by go_simp
    have p2 : (w5.alloc (.cells #[.bool PL.1, .slice al nl cl, .int .i64 PL.2.2, .bool PH.1, .slice ah nh ch, .int .i64 PH.2.2] 27)).cell? ⟨w5.heap.size, 2, none⟩ = some (.int .i64 PL.2.2) := by go_simp
    have p3 : (w5.alloc (.cells #[.bool PL.1, .slice al nl cl, .int .i64 PL.2.2, .bool PH.1, .slice ah nh ch, .int .i64 PH.2.2] 27)).cell? ⟨w5.heap.size, 3, none⟩ = some (.bool PH.1) := by go_simp
    have p4 : (w5.alloc (.cells #[.bool PL.1, .slice al nl cl, .int .i64 PL.2.2, .bool PH.1, .slice ah nh ch, .int .i64 PH.2.2] 27)).cell? ⟨w5.heap.size, 4, none⟩ = some (.slice ah nh ch) := by go_simp
    have p5 : (w5.alloc (.cells #[.bool PL.1, .slice al nl cl, .int .i64 PL.2.2, .bool PH.1, .slice ah nh ch, .int .i64 PH.2.2] 27)).cell? ⟨w5.heap.size, 5, none⟩ = some (.int .i64 PH.2.2) := by go_simp
    replace c0 := dcarry_cell bB c0
    replace c1 := dcarry_cell bB c1
    replace c2 := dcarry_cell bB c2
    replace c3 := dcarry_cell bB c3
    replace c4 := dcarry_cell bB c4
    replace c5 := dcarry_cell bB c5
    replace k0 := dcarry_cell bB k0
    replace k1 := dcarry_cell bB k1
    replace k2 := dcarry_cell bB k2
    replace k3 := dcarry_cell bB k3
    replace k4 := dcarry_cell bB k4
    replace k5 := dcarry_cell bB k5
    replace d0 := dcarry_cell bB d0
    replace d1 := dcarry_cell bB d1
    replace d2 := dcarry_cell bB d2
    replace r0 := dcarry_cell bB r0
    replace r1 := dcarry_cell bB r1
    replace hI := IsW.keep hI bB
    replace hJ := IsW.keep hJ bB
    replace hK := IsW.keep hK bB
    replace hL := IsW.keep hL bB
    replace hD := IsW.keep hD bB
    replace iL := IsW.keep iL bB
    replace iH := IsW.keep iH bB
    replace hT0 := hT0.kept bB
    replace bA := nbelow_trans bA bB
    clear bB
    go_wp2_with fail
    generalize (w5.alloc (.cells #[.bool PL.1, .slice al nl cl, .int .i64 PL.2.2, .bool PH.1, .slice ah nh ch, .int .i64 PH.2.2] 27)) = w6 at *
    refine Calls.mono (HW.out _ iL iH hT0) ?_
    rintro r w7 ⟨rfl, bN⟩
    replace c0 := dcarry_cell bN c0
    replace c1 := dcarry_cell bN c1
    replace c2 := dcarry_cell bN c2
    replace c3 := dcarry_cell bN c3
    replace c4 := dcarry_cell bN c4
    replace c5 := dcarry_cell bN c5
    replace k0 := dcarry_cell bN k0
    replace k1 := dcarry_cell bN k1
    replace k2 := dcarry_cell bN k2
    replace k3 := dcarry_cell bN k3
    replace k4 := dcarry_cell bN k4
    replace k5 := dcarry_cell bN k5
    replace d0 := dcarry_cell bN d0
    replace d1 := dcarry_cell bN d1
    replace d2 := dcarry_cell bN d2
    replace r0 := dcarry_cell bN r0
    replace r1 := dcarry_cell bN r1
    replace p0 := dcarry_cell bN p0
    replace p1 := dcarry_cell bN p1
    replace p2 := dcarry_cell bN p2
    replace p3 := dcarry_cell bN p3
    replace p4 := dcarry_cell bN p4
    replace p5 := dcarry_cell bN p5
    replace hI := IsW.keep hI bN
    replace hJ := IsW.keep hJ bN
    replace hK := IsW.keep hK bN
    replace hL := IsW.keep hL bN
    replace hD := IsW.keep hD bN
    replace iL := IsW.keep iL bN
    replace iH := IsW.keep iH bN
    replace hT0 := hT0.kept bN
    replace bA := nbelow_trans bA bN
    clear bN
    have bB := below_one w7 (.cells #[.int .u64 NW, .int .u8 FW] 31)
    have m0 : (w7.alloc (.cells #[.int .u64 NW, .int .u8 FW] 31)).cell? ⟨w7.heap.size, 0, none⟩ = some (.int .u64 NW) := by go_simp
    have m1 : (w7.alloc (.cells #[.int .u64 NW, .int .u8 FW] 31)).cell? ⟨w7.heap.size, 1, none⟩ = some (.int .u8 FW) := by go_simp
    replace c0 := dcarry_cell bB c0
    replace c1 := dcarry_cell bB c1
    replace c2 := dcarry_cell bB c2
    replace c3 := dcarry_cell bB c3
    replace c4 := dcarry_cell bB c4
    replace c5 := dcarry_cell bB c5
    replace k0 := dcarry_cell bB k0
    replace k1 := dcarry_cell bB k1
    replace k2 := dcarry_cell bB k2
    replace k3 := dcarry_cell bB k3
    replace k4 := dcarry_cell bB k4
    replace k5 := dcarry_cell bB k5
    replace d0 := dcarry_cell bB d0
    replace d1 := dcarry_cell bB d1
    replace d2 := dcarry_cell bB d2
    replace r0 := dcarry_cell bB r0
    replace r1 := dcarry_cell bB r1
    replace p0 := dcarry_cell bB p0
    replace p1 := dcarry_cell bB p1
    replace p2 := dcarry_cell bB p2
    replace p3 := dcarry_cell bB p3
    replace p4 := dcarry_cell bB p4
    replace p5 := dcarry_cell bB p5
    replace hI := IsW.keep hI bB
    replace hJ := IsW.keep hJ bB
    replace hK := IsW.keep hK bB
    replace hL := IsW.keep hL bB
    replace hD := IsW.keep hD bB
    replace iL := IsW.keep iL bB
    replace iH := IsW.keep iH bB
    replace hT0 := hT0.kept bB
    replace bA := nbelow_trans bA bB
    clear bB
    cases BW with
    | false =>
      go_wp2_with fail
      go_ret
      exact ⟨rfl, bA⟩
    | true =>
    go_upto_region 17 with fail
    generalize (w7.alloc (.cells #[.int .u64 NW, .int .u8 FW] 31)) = w8 at *
    have bW := bA
    clear bA HW
    go_cut [149] from 116 to 149 (fun v wx => ∃ bb : Bool, v = .bool bb ∧ Below w8.heap.size w8 wx ∧ Hid (bb = false → R1 = true ∧ R2 = true ∧ ¬ o1 < 0 ∧ ¬ 0 < o2 ∧ ¬ 0 < o3))
    case first =>
      go_wp2_with fail
      refine Calls.mono (HRl.out _ hK) ?_
      rintro r x1 ⟨rfl, bR⟩
      cases R1 with
      | false =>
        go_wp2_with fail
        go_meet
        first | exact ⟨true, rfl, bR, fun q => by cases q⟩ | exact ⟨_, rfl, bR, fun q => by simp_all⟩
      | true =>
        have k0x := dcarry_cell bR k0
        have k1x := dcarry_cell bR k1
        have k2x := dcarry_cell bR k2
        have k3x := dcarry_cell bR k3
        have k4x := dcarry_cell bR k4
        have k5x := dcarry_cell bR k5
        go_wp2_with fail
        refine Calls.mono (HRh.out _ (IsW.keep hL bR)) ?_
        rintro r x2 ⟨rfl, bM⟩
        replace bR := nbelow_trans bR bM
        clear bM k0x k1x k2x k3x k4x k5x
        cases R2 with
        | false =>
          go_wp2_with fail
          go_meet
          first | exact ⟨true, rfl, bR, fun q => by cases q⟩ | exact ⟨_, rfl, bR, fun q => by simp_all⟩
        | true =>
          have Q1 : Hid _ := HQ1.out (by first | rfl | trivial) (by first | rfl | trivial)
          have Q2 : Hid _ := HQ2.out (by first | rfl | trivial)
          have Q3 : Hid _ := HQ3.out (by first | rfl | trivial)
          have k0x := dcarry_cell bR k0
          have k1x := dcarry_cell bR k1
          have k2x := dcarry_cell bR k2
          have k3x := dcarry_cell bR k3
          have k4x := dcarry_cell bR k4
          have k5x := dcarry_cell bR k5
          go_wp2_with fail
          refine Calls.mono (Q1.out _ (IsW.keep hL bR) (IsW.keep hK bR)) ?_
          rintro r x3 ⟨rfl, bM⟩
          replace bR := nbelow_trans bR bM
          clear bM k0x k1x k2x k3x k4x k5x
          by_cases g1 : o1 < 0
          · go_wp2_with fail
            go_meet
            first | exact ⟨true, rfl, bR, fun q => by cases q⟩ | exact ⟨_, rfl, bR, fun q => by simp_all⟩
          · skip
            have k0x := dcarry_cell bR k0
            have k1x := dcarry_cell bR k1
            have k2x := dcarry_cell bR k2
            have k3x := dcarry_cell bR k3
            have k4x := dcarry_cell bR k4
            have k5x := dcarry_cell bR k5
            have p0x := dcarry_cell bR p0
            have p1x := dcarry_cell bR p1
            have p2x := dcarry_cell bR p2
            have p3x := dcarry_cell bR p3
            have p4x := dcarry_cell bR p4
            have p5x := dcarry_cell bR p5
            go_wp2_with fail
            refine Calls.mono (Q2.out _ (IsW.keep iL bR) (IsW.keep hK bR)) ?_
            rintro r x4 ⟨rfl, bM⟩
            replace bR := nbelow_trans bR bM
            clear bM k0x k1x k2x k3x k4x k5x p0x p1x p2x p3x p4x p5x
            by_cases g2 : 0 < o2
            · go_wp2_with fail
              go_meet
              first | exact ⟨true, rfl, bR, fun q => by cases q⟩ | exact ⟨_, rfl, bR, fun q => by simp_all⟩
            · skip
              have k0x := dcarry_cell bR k0
              have k1x := dcarry_cell bR k1
              have k2x := dcarry_cell bR k2
              have k3x := dcarry_cell bR k3
              have k4x := dcarry_cell bR k4
              have k5x := dcarry_cell bR k5
              have p0x := dcarry_cell bR p0
              have p1x := dcarry_cell bR p1
              have p2x := dcarry_cell bR p2
              have p3x := dcarry_cell bR p3
              have p4x := dcarry_cell bR p4
              have p5x := dcarry_cell bR p5
              go_wp2_with fail
              refine Calls.mono (Q3.out _ (IsW.keep hL bR) (IsW.keep iH bR)) ?_
              rintro r x5 ⟨rfl, bM⟩
              replace bR := nbelow_trans bR bM
              clear bM k0x k1x k2x k3x k4x k5x p0x p1x p2x p3x p4x p5x
              by_cases g3 : 0 < o3
              · go_wp2_with fail
                go_meet
                first | exact ⟨true, rfl, bR, fun q => by cases q⟩ | exact ⟨_, rfl, bR, fun q => by simp_all⟩
              · go_wp2_with fail
                go_meet
                first | exact ⟨false, rfl, bR, fun _ => ⟨by first | rfl | trivial, by first | rfl | trivial, g1, g2, g3⟩⟩ | exact ⟨_, rfl, bR, fun _ => ⟨by first | rfl | trivial, by first | rfl | trivial, g1, g2, g3⟩⟩
    case rest =>
    obtain ⟨bb, rfl, bR, HB⟩ := hcut
    have bA := bW
    clear bW HQ1 HQ2 HQ3 HRl HRh
    replace c0 := dcarry_cell bR c0
    replace c1 := dcarry_cell bR c1
    replace c2 := dcarry_cell bR c2
    replace c3 := dcarry_cell bR c3
    replace c4 := dcarry_cell bR c4
    replace c5 := dcarry_cell bR c5
    replace k0 := dcarry_cell bR k0
    replace k1 := dcarry_cell bR k1
    replace k2 := dcarry_cell bR k2
    replace k3 := dcarry_cell bR k3
    replace k4 := dcarry_cell bR k4
    replace k5 := dcarry_cell bR k5
    replace d0 := dcarry_cell bR d0
    replace d1 := dcarry_cell bR d1
    replace d2 := dcarry_cell bR d2
    replace r0 := dcarry_cell bR r0
    replace r1 := dcarry_cell bR r1
    replace p0 := dcarry_cell bR p0
    replace p1 := dcarry_cell bR p1
    replace p2 := dcarry_cell bR p2
    replace p3 := dcarry_cell bR p3
    replace p4 := dcarry_cell bR p4
    replace p5 := dcarry_cell bR p5
    replace m0 := dcarry_cell bR m0
    replace m1 := dcarry_cell bR m1
    replace hI := IsW.keep hI bR
    replace hJ := IsW.keep hJ bR
    replace hK := IsW.keep hK bR
    replace hL := IsW.keep hL bR
    replace hD := IsW.keep hD bR
    replace iL := IsW.keep iL bR
    replace iH := IsW.keep iH bR
    replace hT0 := hT0.kept bR
    replace bA := nbelow_trans bA bR
    clear bR
    cases bb with
    | true =>
      go_wp2_with fail
      go_ret
      exact ⟨rfl, bA⟩
    | false =>
      obtain ⟨y1, y2, y3, y4, y5⟩ := HB.out rfl
      obtain ⟨z1, z2, z3, z4⟩ := HPW.out (by first | rfl | trivial) y1 y2 (by omega) (by omega) (by omega)
      subst z1 z2 z3 z4
      clear y1 y2 y3 y4 y5 HB HPW
      go_wp2_with fail
      refine Calls.mono (HDu.out _ hK hL hT0) ?_
      rintro r w9 ⟨rfl, bN⟩
      replace c0 := dcarry_cell bN c0
      replace c1 := dcarry_cell bN c1
      replace c2 := dcarry_cell bN c2
      replace c3 := dcarry_cell bN c3
      replace c4 := dcarry_cell bN c4
      replace c5 := dcarry_cell bN c5
      replace k0 := dcarry_cell bN k0
      replace k1 := dcarry_cell bN k1
      replace k2 := dcarry_cell bN k2
      replace k3 := dcarry_cell bN k3
      replace k4 := dcarry_cell bN k4
      replace k5 := dcarry_cell bN k5
      replace d0 := dcarry_cell bN d0
      replace d1 := dcarry_cell bN d1
      replace d2 := dcarry_cell bN d2
      replace r0 := dcarry_cell bN r0
      replace r1 := dcarry_cell bN r1
      replace p0 := dcarry_cell bN p0
      replace p1 := dcarry_cell bN p1
      replace p2 := dcarry_cell bN p2
      replace p3 := dcarry_cell bN p3
      replace p4 := dcarry_cell bN p4
      replace p5 := dcarry_cell bN p5
      replace m0 := dcarry_cell bN m0
      replace m1 := dcarry_cell bN m1
      replace hI := IsW.keep hI bN
      replace hJ := IsW.keep hJ bN
      replace hK := IsW.keep hK bN
      replace hL := IsW.keep hL bN
      replace hD := IsW.keep hD bN
      replace iL := IsW.keep iL bN
      replace iH := IsW.keep iH bN
      replace hT0 := hT0.kept bN
      replace bA := nbelow_trans bA bN
      clear bN
      have bB := below_one w9 (.cells #[.int .u64 NU, .int .u8 FU] 31)
      have j0 : (w9.alloc (.cells #[.int .u64 NU, .int .u8 FU] 31)).cell? ⟨w9.heap.size, 0, none⟩ = some (.int .u64 NU) := by go_simp
      have j1 : (w9.alloc (.cells #[.int .u64 NU, .int .u8 FU] 31)).cell? ⟨w9.heap.size, 1, none⟩ = some (.int .u8 FU) := by go_simp
      replace c0 := dcarry_cell bB c0
      replace c1 := dcarry_cell bB c1
      replace c2 := dcarry_cell bB c2
      replace c3 := dcarry_cell bB c3
      replace c4 := dcarry_cell bB c4
      replace c5 := dcarry_cell bB c5
      replace k0 := dcarry_cell bB k0
      replace k1 := dcarry_cell bB k1
      replace k2 := dcarry_cell bB k2
      replace k3 := dcarry_cell bB k3
      replace k4 := dcarry_cell bB k4
      replace k5 := dcarry_cell bB k5
      replace d0 := dcarry_cell bB d0
      replace d1 := dcarry_cell bB d1
      replace d2 := dcarry_cell bB d2
      replace r0 := dcarry_cell bB r0
      replace r1 := dcarry_cell bB r1
      replace p0 := dcarry_cell bB p0
      replace p1 := dcarry_cell bB p1
      replace p2 := dcarry_cell bB p2
      replace p3 := dcarry_cell bB p3
      replace p4 := dcarry_cell bB p4
      replace p5 := dcarry_cell bB p5
      replace m0 := dcarry_cell bB m0
      replace m1 := dcarry_cell bB m1
      replace hI := IsW.keep hI bB
      replace hJ := IsW.keep hJ bB
      replace hK := IsW.keep hK bB
      replace hL := IsW.keep hL bB
      replace hD := IsW.keep hD bB
      replace iL := IsW.keep iL bB
      replace iH := IsW.keep iH bB
      replace hT0 := hT0.kept bB
      replace bA := nbelow_trans bA bB
      clear bB
      go_wp2_with fail
      go_ret
      exact ⟨rfl, bA⟩
end Go.Proofs.YtiipjkkfaplhnaaGreatDoor

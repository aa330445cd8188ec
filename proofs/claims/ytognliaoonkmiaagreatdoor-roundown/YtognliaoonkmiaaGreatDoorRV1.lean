/- Answers of round are new memory: RoundOwn. -/
import Derived.Test.YtognliaoonkmiaaGreatDoorRV0
import Derived.Test.YtognliaoonkmiaaGreatDoorFX
namespace Go.Proofs.YtognliaoonkmiaaGreatDoor
open Go.RowKit

theorem zero_iv (w : World) : (w.alloc (.cells #[.bool false, .slice none 0 0, .int .i64 0, .bool false, .slice none 0 0, .int .i64 0] 27)).cell? ⟨w.heap.size, 0, none⟩ = some (.bool false) ∧ (w.alloc (.cells #[.bool false, .slice none 0 0, .int .i64 0, .bool false, .slice none 0 0, .int .i64 0] 27)).cell? ⟨w.heap.size, 1, none⟩ = some (.slice none 0 0) ∧ (w.alloc (.cells #[.bool false, .slice none 0 0, .int .i64 0, .bool false, .slice none 0 0, .int .i64 0] 27)).cell? ⟨w.heap.size, 2, none⟩ = some (.int .i64 0) ∧ (w.alloc (.cells #[.bool false, .slice none 0 0, .int .i64 0, .bool false, .slice none 0 0, .int .i64 0] 27)).cell? ⟨w.heap.size, 3, none⟩ = some (.bool false) ∧ (w.alloc (.cells #[.bool false, .slice none 0 0, .int .i64 0, .bool false, .slice none 0 0, .int .i64 0] 27)).cell? ⟨w.heap.size, 4, none⟩ = some (.slice none 0 0) ∧ (w.alloc (.cells #[.bool false, .slice none 0 0, .int .i64 0, .bool false, .slice none 0 0, .int .i64 0] 27)).cell? ⟨w.heap.size, 5, none⟩ = some (.int .i64 0) ∧ (w.alloc (.cells #[.bool false, .slice none 0 0, .int .i64 0, .bool false, .slice none 0 0, .int .i64 0] 27)).frozen? ⟨w.heap.size, 0, none⟩ = false ∧ (w.alloc (.cells #[.bool false, .slice none 0 0, .int .i64 0, .bool false, .slice none 0 0, .int .i64 0] 27)).frozen? ⟨w.heap.size, 1, none⟩ = false ∧ (w.alloc (.cells #[.bool false, .slice none 0 0, .int .i64 0, .bool false, .slice none 0 0, .int .i64 0] 27)).frozen? ⟨w.heap.size, 2, none⟩ = false ∧ (w.alloc (.cells #[.bool false, .slice none 0 0, .int .i64 0, .bool false, .slice none 0 0, .int .i64 0] 27)).frozen? ⟨w.heap.size, 3, none⟩ = false ∧ (w.alloc (.cells #[.bool false, .slice none 0 0, .int .i64 0, .bool false, .slice none 0 0, .int .i64 0] 27)).frozen? ⟨w.heap.size, 4, none⟩ = false ∧ (w.alloc (.cells #[.bool false, .slice none 0 0, .int .i64 0, .bool false, .slice none 0 0, .int .i64 0] 27)).frozen? ⟨w.heap.size, 5, none⟩ = false := ⟨by go_simp, by go_simp, by go_simp, by go_simp, by go_simp, by go_simp, by go_simp, by go_simp, by go_simp, by go_simp, by go_simp, by go_simp⟩
theorem set6_same {W : World} {r : Nat} {v0 v1 v2 v3 v4 v5 x0 x1 x2 x3 x4 x5 : Value} (h0 : W.cell? ⟨r, 0, none⟩ = some x0) (h1 : W.cell? ⟨r, 1, none⟩ = some x1) (h2 : W.cell? ⟨r, 2, none⟩ = some x2) (h3 : W.cell? ⟨r, 3, none⟩ = some x3) (h4 : W.cell? ⟨r, 4, none⟩ = some x4) (h5 : W.cell? ⟨r, 5, none⟩ = some x5) :
    ((((((W.setCell ⟨r, 0, none⟩ v0).setCell ⟨r, 1, none⟩ v1).setCell ⟨r, 2, none⟩ v2).setCell ⟨r, 3, none⟩ v3).setCell ⟨r, 4, none⟩ v4).setCell ⟨r, 5, none⟩ v5).cell? ⟨r, 0, none⟩ = some v0 ∧ ((((((W.setCell ⟨r, 0, none⟩ v0).setCell ⟨r, 1, none⟩ v1).setCell ⟨r, 2, none⟩ v2).setCell ⟨r, 3, none⟩ v3).setCell ⟨r, 4, none⟩ v4).setCell ⟨r, 5, none⟩ v5).cell? ⟨r, 1, none⟩ = some v1 ∧ ((((((W.setCell ⟨r, 0, none⟩ v0).setCell ⟨r, 1, none⟩ v1).setCell ⟨r, 2, none⟩ v2).setCell ⟨r, 3, none⟩ v3).setCell ⟨r, 4, none⟩ v4).setCell ⟨r, 5, none⟩ v5).cell? ⟨r, 2, none⟩ = some v2 ∧ ((((((W.setCell ⟨r, 0, none⟩ v0).setCell ⟨r, 1, none⟩ v1).setCell ⟨r, 2, none⟩ v2).setCell ⟨r, 3, none⟩ v3).setCell ⟨r, 4, none⟩ v4).setCell ⟨r, 5, none⟩ v5).cell? ⟨r, 3, none⟩ = some v3 ∧ ((((((W.setCell ⟨r, 0, none⟩ v0).setCell ⟨r, 1, none⟩ v1).setCell ⟨r, 2, none⟩ v2).setCell ⟨r, 3, none⟩ v3).setCell ⟨r, 4, none⟩ v4).setCell ⟨r, 5, none⟩ v5).cell? ⟨r, 4, none⟩ = some v4 ∧ ((((((W.setCell ⟨r, 0, none⟩ v0).setCell ⟨r, 1, none⟩ v1).setCell ⟨r, 2, none⟩ v2).setCell ⟨r, 3, none⟩ v3).setCell ⟨r, 4, none⟩ v4).setCell ⟨r, 5, none⟩ v5).cell? ⟨r, 5, none⟩ = some v5 := by
  refine ⟨?_, ?_, ?_, ?_, ?_, ?_⟩ <;> simp [World.cell?_setCell_other, go_sem, h0, h1, h2, h3, h4, h5]
/-- An interval in a block, its words in lists. -/
def OwR (w : World) (X : Nat) (s : Bool) (a : Option Addr) (n c : Nat) (e : Int) (s' : Bool) (a' : Option Addr) (n' c' : Nat) (e' : Int) (xs ys : List Int) : Prop := w.cell? ⟨X, 0, none⟩ = some (.bool s) ∧ w.cell? ⟨X, 1, none⟩ = some (.slice a n c) ∧ w.cell? ⟨X, 2, none⟩ = some (.int .i64 e) ∧ w.cell? ⟨X, 3, none⟩ = some (.bool s') ∧ w.cell? ⟨X, 4, none⟩ = some (.slice a' n' c') ∧ w.cell? ⟨X, 5, none⟩ = some (.int .i64 e') ∧ IsW w a n c xs ∧ IsW w a' n' c' ys

set_option maxRecDepth 100000 in
set_option maxHeartbeats 16000000 in
theorem roundOwn_walk (s : Bool) (a : Option Addr) (len cap : Nat) (xs : List Int) (e : Int) (s' : Bool) (a' : Option Addr) (len' cap' : Nat) (ys : List Int) (e' : Int) (p x : Int) (w : World) (h : IsW w a len cap xs) (hm : len ≤ 17592186044000) (_he : -9223372036854775808 ≤ e ∧ e ≤ 9223372036854775807) (h' : IsW w a' len' cap' ys) (hm' : len' ≤ 17592186044000) (_he' : -9223372036854775808 ≤ e' ∧ e' ≤ 9223372036854775807) (_hp : -9223372036854775808 ≤ p ∧ p ≤ 9223372036854775807) (ux : U x) (hT : Tab w) :
    Calls Tryz.prog 4 #[ivV s a len cap e s' a' len' cap' e', .int .i64 p, .int .u64 x] w fun r w' => r = .returned (.bool true) ∧ Below w.heap.size w w' := by
  have bA : Below w.heap.size w (w.alloc (.cells #[.bool s, .slice a len cap, .int .i64 e, .bool s', .slice a' len' cap', .int .i64 e'] 27)) := below_one _ _
  have HCa : Hid _ := fun w' (g : IsW w' a len cap xs) => qCopy_calls s a len cap xs e w' g (by omega)
  have HCb : Hid _ := fun w' (g : IsW w' a' len' cap' ys) => qCopy_calls s' a' len' cap' ys e' w' g (by omega)
  have HW : Hid _ := fun ao co bo do_ w' (g : IsW w' ao len co xs) (g' : IsW w' bo len' do_ ys) t' => pWide_calls s ao len co xs e s' bo len' do_ ys e' p w' g hm g' hm' t'
  have HM : Hid _ := fun w' t' => pMid_calls x w' ux t'
  have HSa : Hid _ := fun ao co bo do_ w' (g1 : IsW w' ao len co xs) (g2 : IsW w' bo len' do_ ys) (g3 : IsW w' a len cap xs) (g4 : IsW w' a' len' cap' ys) => qSameI_calls s ao len co xs e s' bo len' do_ ys e' s a len cap xs e s' a' len' cap' ys e' w' g1 hm g2 hm' g3 hm g4 hm'
  rw [sameB_self, sameB_self] at HSa
  have HRd : Hid _ := fun ao co bo do_ w' (g1 : IsW w' ao len co xs) (g2 : IsW w' bo len' do_ ys) t' => roundDecides_calls s ao len co xs e s' bo len' do_ ys e' p x w' g1 hm g2 hm' ux t'
  generalize wdL s (val xs) e s' (val ys) e' p = LL at *
  generalize wdH s (val xs) e s' (val ys) e' p = HH at *
  generalize wdE s (val xs) e s' (val ys) e' p = EE at *
  generalize midP x = MM at *
  generalize lastE x = EM at *
  have hI := h.keep bA
  have hJ := h'.keep bA
  have hT0 := hT.kept bA
  obtain ⟨c0, c1, c2, c3, c4, c5⟩ := fX11 w s a len cap e s' a' len' cap' e'
  clear h h' hT hm hm' ux _he _he' _hp
  go_enter Tryz.func4, Tryz.ntmps4
  go_wp2_with fail
  generalize (w.alloc (.cells #[.bool s, .slice a len cap, .int .i64 e, .bool s', .slice a' len' cap', .int .i64 e'] 27)) = w0 at *
  refine Calls.mono (rLives_calls _ hT0) ?_
  rintro r w1 ⟨rfl, bN⟩
  replace c0 := kC bN c0
  replace c1 := kC bN c1
  replace c2 := kC bN c2
  replace c3 := kC bN c3
  replace c4 := kC bN c4
  replace c5 := kC bN c5
  replace hI := IsW.keep hI bN
  replace hJ := IsW.keep hJ bN
  replace hT0 := hT0.kept bN
  replace bA := nT bA bN
  clear bN
  go_upto_region 3 with fail
  go_cut [7] from 14 to 20 (fun v7 wx => ∃ (X : Nat) (ao : Option Addr) (co : Nat) (bo : Option Addr) (do_ : Nat), v7 = .pointer (some ⟨X, 0, none⟩) ∧ OwR wx X s ao len co e s' bo len' do_ e' xs ys ∧ Below w1.heap.size w1 wx)
  case first =>
    have bw : Below w1.heap.size w1 w1.drew := (Below.refl _ _).drew
    have H1 : Hid _ := hI
    have H2 : Hid _ := hJ
    refine wp_region_held (S := fun w' => Below w1.heap.size w1 w') (by kernel_rfl) ?_
    change wpAnyH _ _ _ _ _ _ _ _ (World.drew w1)
    generalize World.drew w1 = wd at *
    refine wpAnyH_take (i := 0) (v := .pointer (some ⟨w.heap.size, 0, none⟩)) rfl (by kernel_rfl) (by kernel_rfl) (by kernel_rfl) (fun _ _ _ h => h) (Or.inl ⟨by rfl, ?y0⟩) bw ?r0
    case y0 => (intro ww hS; clear hS; go_simp; try with_reducible rfl)
    try simp only [Act.put, List.setIfInBounds_toArray]
    refine wpAnyH_take (i := 1) (v := dyV s a len cap e) rfl (by kernel_rfl) (by kernel_rfl) (by kernel_rfl) (fun _ _ _ h => h) (Or.inl ⟨by rfl, ?y1⟩) bw ?r1
    case y1 => (intro ww hS; have q0 := kC hS c0; have q1 := kC hS c1; have q2 := kC hS c2; clear hS; go_simp; try with_reducible rfl)
    try simp only [Act.put]
    refine wpAnyH_take (i := 3) (v := .pointer (some ⟨w.heap.size, 3, none⟩)) rfl (by kernel_rfl) (by kernel_rfl) (by kernel_rfl) (fun _ _ _ h => h) (Or.inl ⟨by rfl, ?y3⟩) bw ?r3
    case y3 => (intro ww hS; clear hS; go_simp; try with_reducible rfl)
    try simp only [Act.put]
    refine wpAnyH_take (i := 4) (v := dyV s' a' len' cap' e') rfl (by kernel_rfl) (by kernel_rfl) (by kernel_rfl) (fun _ _ _ h => h) (Or.inl ⟨by rfl, ?y4⟩) bw ?r4
    case y4 => (intro ww hS; have q3 := kC hS c3; have q4 := kC hS c4; have q5 := kC hS c5; clear hS; go_simp; try with_reducible rfl)
    try simp only [Act.put]
    refine wpAnyH_ready (rs := [2, 7]) (by kernel_rfl) (by simp) ?_
    refine AllReadyH.cons rfl (fun K hK => ?_) (AllReadyH.cons rfl (fun K hK => ?_) (AllReadyH.nil))
    · go_simp
      refine Calls.mono (HCa.out _ (IsW.keep H1.out bw)) ?_
      rintro r v1 ⟨ao, co, rfl, hO, bN⟩
      refine hK.out _ _ (nT bw bN) (fun _ => ?_)
      clear hK K
      have Ia := hO.1
      replace bw := nT bw bN
      clear bN hO
      try simp only [Act.put, List.setIfInBounds_toArray, List.set_cons_zero, List.set_cons_succ]
      refine wpAnyH_ready (rs := [5, 7]) (by kernel_rfl) (by simp) ?_
      refine AllReadyH.cons rfl (fun K hK => ?_) (AllReadyH.cons rfl (fun K hK => ?_) (AllReadyH.nil))
      · go_simp
        refine Calls.mono (HCb.out _ (IsW.keep H2.out bw)) ?_
        rintro r v2 ⟨bo, do_, rfl, hO, bN⟩
        refine hK.out _ _ (nT bw bN) (fun _ => ?_)
        clear hK K
        replace Ia := IsW.keep Ia bN
        have Ib := hO.1
        replace bw := nT bw bN
        clear bN hO
        try simp only [Act.put, List.setIfInBounds_toArray, List.set_cons_zero, List.set_cons_succ]
        refine wpAnyH_ready (rs := [6, 7]) (by kernel_rfl) (by simp) ?_
        refine AllReadyH.cons rfl (fun K hK => ?_) (AllReadyH.cons rfl (fun K hK => ?_) (AllReadyH.nil))
        · go_simp
          refine hK.out _ _ bw (fun _ => ?_)
          clear hK K
          try simp only [Act.put, List.setIfInBounds_toArray, List.set_cons_zero, List.set_cons_succ]
          refine wpAnyH_ready (rs := [7]) (by kernel_rfl) (by simp) ?_
          refine AllReadyH.cons rfl (fun K hK => ?_) (AllReadyH.nil)
          go_simp
          refine hK.out _ _ (bl_alloc bw _) (fun _ => ?_)
          clear hK K
          have bN := below_one v2 (.cells #[.bool false, .slice none 0 0, .int .i64 0, .bool false, .slice none 0 0, .int .i64 0] 27)
          replace Ia := IsW.keep Ia bN
          replace Ib := IsW.keep Ib bN
          obtain ⟨X0, X1, X2, X3, X4, X5, F0, F1, F2, F3, F4, F5⟩ := zero_iv v2
          have XL : w1.heap.size ≤ v2.heap.size := bw.size
          replace bw := bl_alloc bw (.cells #[.bool false, .slice none 0 0, .int .i64 0, .bool false, .slice none 0 0, .int .i64 0] 27)
          clear bN
          try simp only [Act.put, List.setIfInBounds_toArray, List.set_cons_zero, List.set_cons_succ]
          generalize v2.alloc (.cells #[.bool false, .slice none 0 0, .int .i64 0, .bool false, .slice none 0 0, .int .i64 0] 27) = v4 at *
          refine wpAnyH_ready (rs := [8]) (by kernel_rfl) (by simp) ?_
          refine AllReadyH.cons rfl (fun K hK => ?_) (AllReadyH.nil)
          go_simp
          have bS : Below w1.heap.size w1 ((((((v4.setCell ⟨v2.heap.size, 0, none⟩ (.bool s)).setCell ⟨v2.heap.size, 1, none⟩ (.slice ao len co)).setCell ⟨v2.heap.size, 2, none⟩ (.int .i64 e)).setCell ⟨v2.heap.size, 3, none⟩ (.bool s')).setCell ⟨v2.heap.size, 4, none⟩ (.slice bo len' do_)).setCell ⟨v2.heap.size, 5, none⟩ (.int .i64 e')) := ((((((bw.setCell (p := ⟨v2.heap.size, 0, none⟩) XL _).setCell (p := ⟨v2.heap.size, 1, none⟩) XL _).setCell (p := ⟨v2.heap.size, 2, none⟩) XL _).setCell (p := ⟨v2.heap.size, 3, none⟩) XL _).setCell (p := ⟨v2.heap.size, 4, none⟩) XL _).setCell (p := ⟨v2.heap.size, 5, none⟩) XL _)
          refine hK.out _ _ bS (fun _ => ?_)
          clear hK K
          have s6 := six_of X0 X1 X2 X3 X4 X5 (fun _ q => by cases q) (fun _ q => by cases q) (fun _ q => by cases q) (fun _ q => by cases q) (fun _ q => by cases q) (fun _ q => by cases q)
          replace Ia := isW_six Ia s6 (.bool s) (.slice ao len co) (.int .i64 e) (.bool s') (.slice bo len' do_) (.int .i64 e')
          replace Ib := isW_six Ib s6 (.bool s) (.slice ao len co) (.int .i64 e) (.bool s') (.slice bo len' do_) (.int .i64 e')
          obtain ⟨Y0, Y1, Y2, Y3, Y4, Y5⟩ := set6_same (v0 := (.bool s)) (v1 := (.slice ao len co)) (v2 := (.int .i64 e)) (v3 := (.bool s')) (v4 := (.slice bo len' do_)) (v5 := (.int .i64 e')) X0 X1 X2 X3 X4 X5
          clear s6 X0 X1 X2 X3 X4 X5 F0 F1 F2 F3 F4 F5 bw
          have bw := bS
          clear bS
          try simp only [Act.put, List.setIfInBounds_toArray, List.set_cons_zero, List.set_cons_succ]
          generalize ((((((v4.setCell ⟨v2.heap.size, 0, none⟩ (.bool s)).setCell ⟨v2.heap.size, 1, none⟩ (.slice ao len co)).setCell ⟨v2.heap.size, 2, none⟩ (.int .i64 e)).setCell ⟨v2.heap.size, 3, none⟩ (.bool s')).setCell ⟨v2.heap.size, 4, none⟩ (.slice bo len' do_)).setCell ⟨v2.heap.size, 5, none⟩ (.int .i64 e')) = v5 at *
          refine wpAnyH_done (by kernel_rfl) ?_ _
          go_wp2_with fail
          go_meet
          exact ⟨_, ao, co, bo, do_, rfl, ⟨Y0, Y1, Y2, Y3, Y4, Y5, Ia, Ib⟩, bw⟩
        · go_simp
          refine hK.out _ _ (bl_alloc bw _) (fun _ => ?_)
          clear hK K
          have bN := below_one v2 (.cells #[.bool false, .slice none 0 0, .int .i64 0, .bool false, .slice none 0 0, .int .i64 0] 27)
          replace Ia := IsW.keep Ia bN
          replace Ib := IsW.keep Ib bN
          obtain ⟨X0, X1, X2, X3, X4, X5, F0, F1, F2, F3, F4, F5⟩ := zero_iv v2
          have XL : w1.heap.size ≤ v2.heap.size := bw.size
          replace bw := bl_alloc bw (.cells #[.bool false, .slice none 0 0, .int .i64 0, .bool false, .slice none 0 0, .int .i64 0] 27)
          clear bN
          try simp only [Act.put, List.setIfInBounds_toArray, List.set_cons_zero, List.set_cons_succ]
          generalize v2.alloc (.cells #[.bool false, .slice none 0 0, .int .i64 0, .bool false, .slice none 0 0, .int .i64 0] 27) = v6 at *
          refine wpAnyH_ready (rs := [6]) (by kernel_rfl) (by simp) ?_
          refine AllReadyH.cons rfl (fun K hK => ?_) (AllReadyH.nil)
          go_simp
          refine hK.out _ _ bw (fun _ => ?_)
          clear hK K
          try simp only [Act.put, List.setIfInBounds_toArray, List.set_cons_zero, List.set_cons_succ]
          refine wpAnyH_ready (rs := [8]) (by kernel_rfl) (by simp) ?_
          refine AllReadyH.cons rfl (fun K hK => ?_) (AllReadyH.nil)
          go_simp
          have bS : Below w1.heap.size w1 ((((((v6.setCell ⟨v2.heap.size, 0, none⟩ (.bool s)).setCell ⟨v2.heap.size, 1, none⟩ (.slice ao len co)).setCell ⟨v2.heap.size, 2, none⟩ (.int .i64 e)).setCell ⟨v2.heap.size, 3, none⟩ (.bool s')).setCell ⟨v2.heap.size, 4, none⟩ (.slice bo len' do_)).setCell ⟨v2.heap.size, 5, none⟩ (.int .i64 e')) := ((((((bw.setCell (p := ⟨v2.heap.size, 0, none⟩) XL _).setCell (p := ⟨v2.heap.size, 1, none⟩) XL _).setCell (p := ⟨v2.heap.size, 2, none⟩) XL _).setCell (p := ⟨v2.heap.size, 3, none⟩) XL _).setCell (p := ⟨v2.heap.size, 4, none⟩) XL _).setCell (p := ⟨v2.heap.size, 5, none⟩) XL _)
          refine hK.out _ _ bS (fun _ => ?_)
          clear hK K
          have s6 := six_of X0 X1 X2 X3 X4 X5 (fun _ q => by cases q) (fun _ q => by cases q) (fun _ q => by cases q) (fun _ q => by cases q) (fun _ q => by cases q) (fun _ q => by cases q)
          replace Ia := isW_six Ia s6 (.bool s) (.slice ao len co) (.int .i64 e) (.bool s') (.slice bo len' do_) (.int .i64 e')
          replace Ib := isW_six Ib s6 (.bool s) (.slice ao len co) (.int .i64 e) (.bool s') (.slice bo len' do_) (.int .i64 e')
          obtain ⟨Y0, Y1, Y2, Y3, Y4, Y5⟩ := set6_same (v0 := (.bool s)) (v1 := (.slice ao len co)) (v2 := (.int .i64 e)) (v3 := (.bool s')) (v4 := (.slice bo len' do_)) (v5 := (.int .i64 e')) X0 X1 X2 X3 X4 X5
          clear s6 X0 X1 X2 X3 X4 X5 F0 F1 F2 F3 F4 F5 bw
          have bw := bS
          clear bS
          try simp only [Act.put, List.setIfInBounds_toArray, List.set_cons_zero, List.set_cons_succ]
          generalize ((((((v6.setCell ⟨v2.heap.size, 0, none⟩ (.bool s)).setCell ⟨v2.heap.size, 1, none⟩ (.slice ao len co)).setCell ⟨v2.heap.size, 2, none⟩ (.int .i64 e)).setCell ⟨v2.heap.size, 3, none⟩ (.bool s')).setCell ⟨v2.heap.size, 4, none⟩ (.slice bo len' do_)).setCell ⟨v2.heap.size, 5, none⟩ (.int .i64 e')) = v8 at *
          refine wpAnyH_done (by kernel_rfl) ?_ _
          go_wp2_with fail
          go_meet
          exact ⟨_, ao, co, bo, do_, rfl, ⟨Y0, Y1, Y2, Y3, Y4, Y5, Ia, Ib⟩, bw⟩
      · go_simp
        refine hK.out _ _ (bl_alloc bw _) (fun _ => ?_)
        clear hK K
        have bN := below_one v1 (.cells #[.bool false, .slice none 0 0, .int .i64 0, .bool false, .slice none 0 0, .int .i64 0] 27)
        replace Ia := IsW.keep Ia bN
        obtain ⟨X0, X1, X2, X3, X4, X5, F0, F1, F2, F3, F4, F5⟩ := zero_iv v1
        have XL : w1.heap.size ≤ v1.heap.size := bw.size
        replace bw := bl_alloc bw (.cells #[.bool false, .slice none 0 0, .int .i64 0, .bool false, .slice none 0 0, .int .i64 0] 27)
        clear bN
        try simp only [Act.put, List.setIfInBounds_toArray, List.set_cons_zero, List.set_cons_succ]
        generalize v1.alloc (.cells #[.bool false, .slice none 0 0, .int .i64 0, .bool false, .slice none 0 0, .int .i64 0] 27) = v9 at *
        refine wpAnyH_ready (rs := [5]) (by kernel_rfl) (by simp) ?_
        refine AllReadyH.cons rfl (fun K hK => ?_) (AllReadyH.nil)
        go_simp
        refine Calls.mono (HCb.out _ (IsW.keep H2.out bw)) ?_
        rintro r v10 ⟨bo, do_, rfl, hO, bN⟩
        refine hK.out _ _ (nT bw bN) (fun _ => ?_)
        clear hK K
        replace Ia := IsW.keep Ia bN
        replace F0 := kF bN X0 F0
        replace X0 := kC bN X0
        replace F1 := kF bN X1 F1
        replace X1 := kC bN X1
        replace F2 := kF bN X2 F2
        replace X2 := kC bN X2
        replace F3 := kF bN X3 F3
        replace X3 := kC bN X3
        replace F4 := kF bN X4 F4
        replace X4 := kC bN X4
        replace F5 := kF bN X5 F5
        replace X5 := kC bN X5
        have Ib := hO.1
        replace bw := nT bw bN
        clear bN hO
        try simp only [Act.put, List.setIfInBounds_toArray, List.set_cons_zero, List.set_cons_succ]
        refine wpAnyH_ready (rs := [6]) (by kernel_rfl) (by simp) ?_
        refine AllReadyH.cons rfl (fun K hK => ?_) (AllReadyH.nil)
        go_simp
        refine hK.out _ _ bw (fun _ => ?_)
        clear hK K
        try simp only [Act.put, List.setIfInBounds_toArray, List.set_cons_zero, List.set_cons_succ]
        refine wpAnyH_ready (rs := [8]) (by kernel_rfl) (by simp) ?_
        refine AllReadyH.cons rfl (fun K hK => ?_) (AllReadyH.nil)
        go_simp
        have bS : Below w1.heap.size w1 ((((((v10.setCell ⟨v1.heap.size, 0, none⟩ (.bool s)).setCell ⟨v1.heap.size, 1, none⟩ (.slice ao len co)).setCell ⟨v1.heap.size, 2, none⟩ (.int .i64 e)).setCell ⟨v1.heap.size, 3, none⟩ (.bool s')).setCell ⟨v1.heap.size, 4, none⟩ (.slice bo len' do_)).setCell ⟨v1.heap.size, 5, none⟩ (.int .i64 e')) := ((((((bw.setCell (p := ⟨v1.heap.size, 0, none⟩) XL _).setCell (p := ⟨v1.heap.size, 1, none⟩) XL _).setCell (p := ⟨v1.heap.size, 2, none⟩) XL _).setCell (p := ⟨v1.heap.size, 3, none⟩) XL _).setCell (p := ⟨v1.heap.size, 4, none⟩) XL _).setCell (p := ⟨v1.heap.size, 5, none⟩) XL _)
        refine hK.out _ _ bS (fun _ => ?_)
        clear hK K
        have s6 := six_of X0 X1 X2 X3 X4 X5 (fun _ q => by cases q) (fun _ q => by cases q) (fun _ q => by cases q) (fun _ q => by cases q) (fun _ q => by cases q) (fun _ q => by cases q)
        replace Ia := isW_six Ia s6 (.bool s) (.slice ao len co) (.int .i64 e) (.bool s') (.slice bo len' do_) (.int .i64 e')
        replace Ib := isW_six Ib s6 (.bool s) (.slice ao len co) (.int .i64 e) (.bool s') (.slice bo len' do_) (.int .i64 e')
        obtain ⟨Y0, Y1, Y2, Y3, Y4, Y5⟩ := set6_same (v0 := (.bool s)) (v1 := (.slice ao len co)) (v2 := (.int .i64 e)) (v3 := (.bool s')) (v4 := (.slice bo len' do_)) (v5 := (.int .i64 e')) X0 X1 X2 X3 X4 X5
        clear s6 X0 X1 X2 X3 X4 X5 F0 F1 F2 F3 F4 F5 bw
        have bw := bS
        clear bS
        try simp only [Act.put, List.setIfInBounds_toArray, List.set_cons_zero, List.set_cons_succ]
        generalize ((((((v10.setCell ⟨v1.heap.size, 0, none⟩ (.bool s)).setCell ⟨v1.heap.size, 1, none⟩ (.slice ao len co)).setCell ⟨v1.heap.size, 2, none⟩ (.int .i64 e)).setCell ⟨v1.heap.size, 3, none⟩ (.bool s')).setCell ⟨v1.heap.size, 4, none⟩ (.slice bo len' do_)).setCell ⟨v1.heap.size, 5, none⟩ (.int .i64 e')) = v12 at *
        refine wpAnyH_done (by kernel_rfl) ?_ _
        go_wp2_with fail
        go_meet
        exact ⟨_, ao, co, bo, do_, rfl, ⟨Y0, Y1, Y2, Y3, Y4, Y5, Ia, Ib⟩, bw⟩
    · go_simp
      refine hK.out _ _ (bl_alloc bw _) (fun _ => ?_)
      clear hK K
      have bN := below_one wd (.cells #[.bool false, .slice none 0 0, .int .i64 0, .bool false, .slice none 0 0, .int .i64 0] 27)
      obtain ⟨X0, X1, X2, X3, X4, X5, F0, F1, F2, F3, F4, F5⟩ := zero_iv wd
      have XL : w1.heap.size ≤ wd.heap.size := bw.size
      replace bw := bl_alloc bw (.cells #[.bool false, .slice none 0 0, .int .i64 0, .bool false, .slice none 0 0, .int .i64 0] 27)
      clear bN
      try simp only [Act.put, List.setIfInBounds_toArray, List.set_cons_zero, List.set_cons_succ]
      generalize wd.alloc (.cells #[.bool false, .slice none 0 0, .int .i64 0, .bool false, .slice none 0 0, .int .i64 0] 27) = v13 at *
      refine wpAnyH_ready (rs := [2]) (by kernel_rfl) (by simp) ?_
      refine AllReadyH.cons rfl (fun K hK => ?_) (AllReadyH.nil)
      go_simp
      refine Calls.mono (HCa.out _ (IsW.keep H1.out bw)) ?_
      rintro r v14 ⟨ao, co, rfl, hO, bN⟩
      refine hK.out _ _ (nT bw bN) (fun _ => ?_)
      clear hK K
      replace F0 := kF bN X0 F0
      replace X0 := kC bN X0
      replace F1 := kF bN X1 F1
      replace X1 := kC bN X1
      replace F2 := kF bN X2 F2
      replace X2 := kC bN X2
      replace F3 := kF bN X3 F3
      replace X3 := kC bN X3
      replace F4 := kF bN X4 F4
      replace X4 := kC bN X4
      replace F5 := kF bN X5 F5
      replace X5 := kC bN X5
      have Ia := hO.1
      replace bw := nT bw bN
      clear bN hO
      try simp only [Act.put, List.setIfInBounds_toArray, List.set_cons_zero, List.set_cons_succ]
      refine wpAnyH_ready (rs := [5]) (by kernel_rfl) (by simp) ?_
      refine AllReadyH.cons rfl (fun K hK => ?_) (AllReadyH.nil)
      go_simp
      refine Calls.mono (HCb.out _ (IsW.keep H2.out bw)) ?_
      rintro r v15 ⟨bo, do_, rfl, hO, bN⟩
      refine hK.out _ _ (nT bw bN) (fun _ => ?_)
      clear hK K
      replace Ia := IsW.keep Ia bN
      replace F0 := kF bN X0 F0
      replace X0 := kC bN X0
      replace F1 := kF bN X1 F1
      replace X1 := kC bN X1
      replace F2 := kF bN X2 F2
      replace X2 := kC bN X2
      replace F3 := kF bN X3 F3
      replace X3 := kC bN X3
      replace F4 := kF bN X4 F4
      replace X4 := kC bN X4
      replace F5 := kF bN X5 F5
      replace X5 := kC bN X5
      have Ib := hO.1
      replace bw := nT bw bN
      clear bN hO
      try simp only [Act.put, List.setIfInBounds_toArray, List.set_cons_zero, List.set_cons_succ]
      refine wpAnyH_ready (rs := [6]) (by kernel_rfl) (by simp) ?_
      refine AllReadyH.cons rfl (fun K hK => ?_) (AllReadyH.nil)
      go_simp
      refine hK.out _ _ bw (fun _ => ?_)
      clear hK K
      try simp only [Act.put, List.setIfInBounds_toArray, List.set_cons_zero, List.set_cons_succ]
      refine wpAnyH_ready (rs := [8]) (by kernel_rfl) (by simp) ?_
      refine AllReadyH.cons rfl (fun K hK => ?_) (AllReadyH.nil)
      go_simp
      have bS : Below w1.heap.size w1 ((((((v15.setCell ⟨wd.heap.size, 0, none⟩ (.bool s)).setCell ⟨wd.heap.size, 1, none⟩ (.slice ao len co)).setCell ⟨wd.heap.size, 2, none⟩ (.int .i64 e)).setCell ⟨wd.heap.size, 3, none⟩ (.bool s')).setCell ⟨wd.heap.size, 4, none⟩ (.slice bo len' do_)).setCell ⟨wd.heap.size, 5, none⟩ (.int .i64 e')) := ((((((bw.setCell (p := ⟨wd.heap.size, 0, none⟩) XL _).setCell (p := ⟨wd.heap.size, 1, none⟩) XL _).setCell (p := ⟨wd.heap.size, 2, none⟩) XL _).setCell (p := ⟨wd.heap.size, 3, none⟩) XL _).setCell (p := ⟨wd.heap.size, 4, none⟩) XL _).setCell (p := ⟨wd.heap.size, 5, none⟩) XL _)
      refine hK.out _ _ bS (fun _ => ?_)
      clear hK K
      have s6 := six_of X0 X1 X2 X3 X4 X5 (fun _ q => by cases q) (fun _ q => by cases q) (fun _ q => by cases q) (fun _ q => by cases q) (fun _ q => by cases q) (fun _ q => by cases q)
      replace Ia := isW_six Ia s6 (.bool s) (.slice ao len co) (.int .i64 e) (.bool s') (.slice bo len' do_) (.int .i64 e')
      replace Ib := isW_six Ib s6 (.bool s) (.slice ao len co) (.int .i64 e) (.bool s') (.slice bo len' do_) (.int .i64 e')
      obtain ⟨Y0, Y1, Y2, Y3, Y4, Y5⟩ := set6_same (v0 := (.bool s)) (v1 := (.slice ao len co)) (v2 := (.int .i64 e)) (v3 := (.bool s')) (v4 := (.slice bo len' do_)) (v5 := (.int .i64 e')) X0 X1 X2 X3 X4 X5
      clear s6 X0 X1 X2 X3 X4 X5 F0 F1 F2 F3 F4 F5 bw
      have bw := bS
      clear bS
      try simp only [Act.put, List.setIfInBounds_toArray, List.set_cons_zero, List.set_cons_succ]
      generalize ((((((v15.setCell ⟨wd.heap.size, 0, none⟩ (.bool s)).setCell ⟨wd.heap.size, 1, none⟩ (.slice ao len co)).setCell ⟨wd.heap.size, 2, none⟩ (.int .i64 e)).setCell ⟨wd.heap.size, 3, none⟩ (.bool s')).setCell ⟨wd.heap.size, 4, none⟩ (.slice bo len' do_)).setCell ⟨wd.heap.size, 5, none⟩ (.int .i64 e')) = v17 at *
      refine wpAnyH_done (by kernel_rfl) ?_ _
      go_wp2_with fail
      go_meet
      exact ⟨_, ao, co, bo, do_, rfl, ⟨Y0, Y1, Y2, Y3, Y4, Y5, Ia, Ib⟩, bw⟩
  case rest =>
  obtain ⟨X, ao, co, bo, do_, rfl, ⟨Y0, Y1, Y2, Y3, Y4, Y5, Ia, Ib⟩, bR⟩ := hcut
  clear HCa HCb
  replace c0 := kC bR c0
  replace c1 := kC bR c1
  replace c2 := kC bR c2
  replace c3 := kC bR c3
  replace c4 := kC bR c4
  replace c5 := kC bR c5
  replace hI := IsW.keep hI bR
  replace hJ := IsW.keep hJ bR
  replace hT0 := hT0.kept bR
  replace bA := nT bA bR
  clear bR
  go_wp2_with fail
  refine Calls.mono (HW.out _ _ _ _ _ Ia Ib hT0) ?_
  rintro r w4 ⟨al, nl, cl, ah, nh, ch, rfl, i1, i2, O1, O2, bO⟩
  have j1 : Hid _ := i1
  have j2 : Hid _ := i2
  have HTw : Hid (Tab wc) := hT0
  have tO := hT0.kept bO
  clear i1 i2 HW hT0
  have bB := below_one w4 (.cells #[.bool LL.1, .slice al nl cl, .int .i64 LL.2.2, .bool HH.1, .slice ah nh ch, .int .i64 HH.2.2] 27)
  have u1 : (w4.alloc (.cells #[.bool LL.1, .slice al nl cl, .int .i64 LL.2.2, .bool HH.1, .slice ah nh ch, .int .i64 HH.2.2] 27)).cell? ⟨w4.heap.size, 1, none⟩ = some (.slice al nl cl) := by go_simp
  have u4 : (w4.alloc (.cells #[.bool LL.1, .slice al nl cl, .int .i64 LL.2.2, .bool HH.1, .slice ah nh ch, .int .i64 HH.2.2] 27)).cell? ⟨w4.heap.size, 4, none⟩ = some (.slice ah nh ch) := by go_simp
  replace O1 := O1.keep bB
  replace O2 := O2.keep bB
  replace tO := tO.kept bB
  replace bO := nT bO bB
  clear bB
  go_wp2_with fail
  generalize (w4.alloc (.cells #[.bool LL.1, .slice al nl cl, .int .i64 LL.2.2, .bool HH.1, .slice ah nh ch, .int .i64 HH.2.2] 27)) = w5 at *
  refine Calls.mono (HM.out _ tO) ?_
  rintro r w6 ⟨_, rfl, ⟨am, nm, cm, rfl, -, i5, O5⟩, bN⟩
  have j5 : Hid _ := i5
  replace O5 := O5.low bO.size
  replace O1 := O1.keep bN
  replace O2 := O2.keep bN
  replace u1 := kC bN u1
  replace u4 := kC bN u4
  replace bO := nT bO bN
  clear bN i5 HM tO
  have bB := below_one w6 (.cells #[.bool MM.1, .slice am nm cm, .int .i64 MM.2.2] 25)
  have m1 : (w6.alloc (.cells #[.bool MM.1, .slice am nm cm, .int .i64 MM.2.2] 25)).cell? ⟨w6.heap.size, 1, none⟩ = some (.slice am nm cm) := by go_simp
  have R1 := Wr.of (O1.keep bB)
  have R2 := Wr.of (O2.keep bB)
  have R5 := Wr.of (O5.keep bB)
  replace u1 := kC bB u1
  replace u4 := kC bB u4
  replace bO := nT bO bB
  clear bB O1 O2 O5
  go_wp2_with fail
  generalize (w6.alloc (.cells #[.bool MM.1, .slice am nm cm, .int .i64 MM.2.2] 25)) = w7 at *
  refine Calls.mono (spoil_calls wc.heap.size al nl cl _ j1.out bO.size R1) ?_
  rintro r w8 ⟨rfl, bN, sN⟩
  replace bO := Below.trans bO bN
  replace u4 := sN.1 _ _ u4 (fun _ q => by cases q)
  replace m1 := sN.1 _ _ m1 (fun _ q => by cases q)
  replace R2 := R2.sp sN
  replace R5 := R5.sp sN
  clear bN sN R1 u1
  go_wp2_with fail
  refine Calls.mono (spoil_calls wc.heap.size ah nh ch _ j2.out bO.size R2) ?_
  rintro r w9 ⟨rfl, bN, sN⟩
  replace bO := Below.trans bO bN
  replace m1 := sN.1 _ _ m1 (fun _ q => by cases q)
  replace R5 := R5.sp sN
  clear bN sN R2 u4
  go_wp2_with fail
  refine Calls.mono (spoil_calls wc.heap.size am nm cm _ j5.out bO.size R5) ?_
  rintro r w10 ⟨rfl, bN, sN⟩
  replace bO := Below.trans bO bN
  clear bN sN R5 m1
  replace Y0 := kC bO Y0
  replace Y1 := kC bO Y1
  replace Y2 := kC bO Y2
  replace Y3 := kC bO Y3
  replace Y4 := kC bO Y4
  replace Y5 := kC bO Y5
  replace c0 := kC bO c0
  replace c1 := kC bO c1
  replace c2 := kC bO c2
  replace c3 := kC bO c3
  replace c4 := kC bO c4
  replace c5 := kC bO c5
  replace Ia := IsW.keep Ia bO
  replace Ib := IsW.keep Ib bO
  replace hI := IsW.keep hI bO
  replace hJ := IsW.keep hJ bO
  have tE := HTw.out.kept bO
  replace bA := nT bA bO
  clear bO HTw
  go_wp2_with fail
  refine Calls.mono (HSa.out _ _ _ _ _ Ia Ib hI hJ) ?_
  rintro r w11 ⟨rfl, bN⟩
  replace Y0 := kC bN Y0
  replace Y1 := kC bN Y1
  replace Y2 := kC bN Y2
  replace Y3 := kC bN Y3
  replace Y4 := kC bN Y4
  replace Y5 := kC bN Y5
  replace Ia := IsW.keep Ia bN
  replace Ib := IsW.keep Ib bN
  replace tE := tE.kept bN
  replace bA := nT bA bN
  clear bN
  go_wp2_with fail
  refine Calls.mono (HRd.out _ _ _ _ _ Ia Ib tE) ?_
  rintro r w12 ⟨rfl, bN⟩
  replace bA := nT bA bN
  go_wp2_with fail
  go_ret
  exact ⟨rfl, bA⟩
end Go.Proofs.YtognliaoonkmiaaGreatDoor

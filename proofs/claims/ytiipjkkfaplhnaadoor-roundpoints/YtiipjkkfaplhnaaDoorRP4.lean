/- The statement RoundPoints. -/
import Derived.Test.YtiipjkkfaplhnaaDoorRP3
import Derived.Test.YtiipjkkfaplhnaaDoorRWalks
namespace Go.Proofs.YtiipjkkfaplhnaaDoor
open Go.RowKit
set_option linter.unusedSimpArgs false

theorem pw_right (n : Int) (hn : 1100 ≤ n ∧ n ≤ 3000) : rightB (val [1]) (-n) = true := by
  rw [show val [1] = 1 by decide]
  exact rright_small 1 (-n) (by decide) (by omega)
theorem mSub (x n : Int) (ux : U x) (hx : finB x = true) (hn : 1100 ≤ n ∧ n ≤ 3000) (a : Option Addr) (l c : Nat) (b : Nat) (W : World) (p : IsW W a l c (wordsOf (midQ x).2.1)) (hl : l ≤ 1024) (q : W.cell? ⟨b, 0, none⟩ = some (.int .u64 1)) (T : Tab W) : Calls Tryd.prog 24 #[dyV (midQ x).1 a l c (midQ x).2.2, dyV false (some ⟨b, 0, none⟩) 1 1 (-n)] W fun r w' => ∃ v', r = .returned (.tuple #[v', .int .i64 0]) ∧ DyAt W.heap.size w' v' (beD x n) ∧ Below W.heap.size W w' := by
  obtain ⟨t1, t2, t3, -⟩ := three x n ux hx hn
  have := dsub_yes (midQ x).1 a l c (wordsOf (midQ x).2.1) (midQ x).2.2 false (some ⟨b, 0, none⟩) 1 1 [1] (-n) W p (by omega) (risW_one W b 1 (by decide) (by decide) q) (by decide) T (by rw [val_words]; exact t1) (pw_right n hn)
  rw [val_words, form_of_can (mid_can x).1, show val [1] = 1 by decide] at this
  have e : sumD (midQ x) (negD (formD false 1 (-n))) = beD x n := rfl
  rw [e, (can_room t2).1, (can_room t2).2] at this
  exact this
theorem mAdd2 (x n : Int) (ux : U x) (hx : finB x = true) (hn : 1100 ≤ n ∧ n ≤ 3000) (a : Option Addr) (l c : Nat) (b : Nat) (W : World) (p : IsW W a l c (wordsOf (midQ x).2.1)) (hl : l ≤ 1024) (q : W.cell? ⟨b, 0, none⟩ = some (.int .u64 1)) (T : Tab W) : Calls Tryd.prog 26 #[dyV (midQ x).1 a l c (midQ x).2.2, dyV false (some ⟨b, 0, none⟩) 1 1 (-n)] W fun r w' => ∃ v', r = .returned (.tuple #[v', .int .i64 0]) ∧ DyAt W.heap.size w' v' (abD x n) ∧ Below W.heap.size W w' := by
  obtain ⟨t1, t2, t3, -⟩ := three x n ux hx hn
  have := dadd_yes (midQ x).1 a l c (wordsOf (midQ x).2.1) (midQ x).2.2 false (some ⟨b, 0, none⟩) 1 1 [1] (-n) W p (by omega) (risW_one W b 1 (by decide) (by decide) q) (by decide) T (by rw [val_words]; exact t1) (pw_right n hn)
  rw [val_words, form_of_can (mid_can x).1, show val [1] = 1 by decide] at this
  have e : sumD (midQ x) (formD false 1 (-n)) = abD x n := rfl
  rw [e, (can_room t3).1, (can_room t3).2] at this
  exact this
theorem nearC (P : Bool × Nat × Int) (hr : rightB P.2.1 P.2.2 = true) (a : Option Addr) (l c : Nat) (W : World) (p : IsW W a l c (wordsOf P.2.1)) (hl : l ≤ 1024) (T : Tab W) : Calls Tryd.prog 7 #[dyV P.1 a l c P.2.2] W fun r w' => r = .returned (.tuple #[.agg #[.int .u64 (nbR P.1 P.2.1 P.2.2), .int .u8 (flR P.1 P.2.1 P.2.2)], .int .i64 0]) ∧ Below W.heap.size W w' := by
  have := pNear_calls P.1 a l c (wordsOf P.2.1) P.2.2 W p (by omega) T
  rw [val_words, show erR P.2.1 P.2.2 = 0 by unfold erR; rw [if_pos hr]] at this
  exact this
theorem fl_mid (x : Int) (ux : U x) (hx : finB x = true) : flR (midQ x).1 (midQ x).2.1 (midQ x).2.2 = 16 ∨ flR (midQ x).1 (midQ x).2.1 (midQ x).2.2 = 20 ∨ flR (midQ x).1 (midQ x).2.1 (midQ x).2.2 = 24 ∨ flR (midQ x).1 (midQ x).2.1 (midQ x).2.2 = 28 := by
  obtain ⟨t1, -, -, t4, -⟩ := three x 1100 ux hx (by decide)
  unfold flR
  rw [if_pos t1, t4, if_neg (by decide)]
  unfold inxF
  split <;> split <;> simp

def PtR (w0 wx : World) (X : Nat) (p : Bool × Nat × Int) : Prop := ∃ (a : Option Addr) (n c : Nat), wx.cell? ⟨X, 0, none⟩ = some (.bool p.1) ∧ wx.cell? ⟨X, 1, none⟩ = some (.slice a n c) ∧ wx.cell? ⟨X, 2, none⟩ = some (.int .i64 p.2.2) ∧ n ≤ 1024 ∧ IsW wx a n c (wordsOf p.2.1) ∧ Below w0.heap.size w0 wx
attribute [local go_sem ↓] Go.wp_at_zero Go.wp_at_succ

set_option maxRecDepth 100000 in
set_option maxHeartbeats 4000000 in
theorem pt_bad (x n : Int) (w : World) (ux : U x) (hT : Tab w) (hx : finB x = false) :
    Calls Tryd.prog 6 #[.int .u64 x, .int .i64 n] w fun r w' => r = .returned (.bool true) ∧ Below w.heap.size w w' := by
  have HM : Hid _ := fun w' (t' : Tab w') => pMid_calls x w' ux t'
  rw [show lastE x = 5 by unfold lastE; rw [hx]; rfl] at HM
  generalize midP x = M at *
  have HF : Hid _ := fun w' => rFinite_calls x w' ux
  rw [hx] at HF
  have bA : Below w.heap.size w w := Below.refl _ _
  have hT0 := hT
  clear hT
  go_enter Tryd.func6, Tryd.ntmps6
  go_wp2_with fail
  refine Calls.mono (rLives_calls _ hT0) ?_
  rintro r w1 ⟨rfl, bN⟩
  replace hT0 := hT0.kept bN
  replace bA := nbelow_trans bA bN
  clear bN
  go_wp2_with fail
  refine Calls.mono (HM.out _ hT0) ?_
  rintro r w2 ⟨_, rfl, ⟨a1, n1, c1, rfl, -, hn1, -⟩, bN⟩
  replace hT0 := hT0.kept bN
  replace bA := nbelow_trans bA bN
  clear bN
  have bB := below_one w2 (.cells #[.bool M.1, .slice a1 n1 c1, .int .i64 M.2.2] 25)
  have m0 : (w2.alloc (.cells #[.bool M.1, .slice a1 n1 c1, .int .i64 M.2.2] 25)).cell? ⟨w2.heap.size, 0, none⟩ = some (.bool M.1) := by go_simp
  have m1 : (w2.alloc (.cells #[.bool M.1, .slice a1 n1 c1, .int .i64 M.2.2] 25)).cell? ⟨w2.heap.size, 1, none⟩ = some (.slice a1 n1 c1) := by go_simp
  have m2 : (w2.alloc (.cells #[.bool M.1, .slice a1 n1 c1, .int .i64 M.2.2] 25)).cell? ⟨w2.heap.size, 2, none⟩ = some (.int .i64 M.2.2) := by go_simp
  replace hT0 := hT0.kept bB
  replace bA := nbelow_trans bA bB
  clear bB
  go_wp2_with fail
  generalize (w2.alloc (.cells #[.bool M.1, .slice a1 n1 c1, .int .i64 M.2.2] 25)) = w3 at *
  refine Calls.mono (HF.out _) ?_
  rintro r wx ⟨rfl, rfl⟩
  go_wp2_with fail
  go_ret
  exact ⟨rfl, bA⟩

set_option maxRecDepth 100000 in
set_option maxHeartbeats 4000000 in
theorem pt_lo (x n : Int) (w : World) (ux : U x) (hT : Tab w) (hx : finB x = true) (hn : n < 1100) :
    Calls Tryd.prog 6 #[.int .u64 x, .int .i64 n] w fun r w' => r = .returned (.bool true) ∧ Below w.heap.size w w' := by
  have HM : Hid _ := fun w' (t' : Tab w') => pMid_calls x w' ux t'
  rw [show lastE x = 0 by unfold lastE; rw [hx]; rfl, show midP x = midQ x by unfold midP; rw [hx]; rfl] at HM
  generalize midQ x = M at *
  have bA : Below w.heap.size w w := Below.refl _ _
  have hT0 := hT
  clear hT
  go_enter Tryd.func6, Tryd.ntmps6
  go_wp2_with fail
  refine Calls.mono (rLives_calls _ hT0) ?_
  rintro r w1 ⟨rfl, bN⟩
  replace hT0 := hT0.kept bN
  replace bA := nbelow_trans bA bN
  clear bN
  go_wp2_with fail
  refine Calls.mono (HM.out _ hT0) ?_
  rintro r w2 ⟨_, rfl, ⟨a1, n1, c1, rfl, -, hn1, -⟩, bN⟩
  replace hT0 := hT0.kept bN
  replace bA := nbelow_trans bA bN
  clear bN
  have bB := below_one w2 (.cells #[.bool M.1, .slice a1 n1 c1, .int .i64 M.2.2] 25)
  have m0 : (w2.alloc (.cells #[.bool M.1, .slice a1 n1 c1, .int .i64 M.2.2] 25)).cell? ⟨w2.heap.size, 0, none⟩ = some (.bool M.1) := by go_simp
  have m1 : (w2.alloc (.cells #[.bool M.1, .slice a1 n1 c1, .int .i64 M.2.2] 25)).cell? ⟨w2.heap.size, 1, none⟩ = some (.slice a1 n1 c1) := by go_simp
  have m2 : (w2.alloc (.cells #[.bool M.1, .slice a1 n1 c1, .int .i64 M.2.2] 25)).cell? ⟨w2.heap.size, 2, none⟩ = some (.int .i64 M.2.2) := by go_simp
  replace hT0 := hT0.kept bB
  replace bA := nbelow_trans bA bB
  clear bB
  go_wp2_with fail
  go_ret
  exact ⟨rfl, bA⟩

set_option maxRecDepth 100000 in
set_option maxHeartbeats 4000000 in
theorem pt_hi (x n : Int) (w : World) (ux : U x) (hT : Tab w) (hx : finB x = true) (hn0 : ¬ n < 1100) (hn : 3000 < n) :
    Calls Tryd.prog 6 #[.int .u64 x, .int .i64 n] w fun r w' => r = .returned (.bool true) ∧ Below w.heap.size w w' := by
  have HM : Hid _ := fun w' (t' : Tab w') => pMid_calls x w' ux t'
  rw [show lastE x = 0 by unfold lastE; rw [hx]; rfl, show midP x = midQ x by unfold midP; rw [hx]; rfl] at HM
  generalize midQ x = M at *
  have bA : Below w.heap.size w w := Below.refl _ _
  have hT0 := hT
  clear hT
  go_enter Tryd.func6, Tryd.ntmps6
  go_wp2_with fail
  refine Calls.mono (rLives_calls _ hT0) ?_
  rintro r w1 ⟨rfl, bN⟩
  replace hT0 := hT0.kept bN
  replace bA := nbelow_trans bA bN
  clear bN
  go_wp2_with fail
  refine Calls.mono (HM.out _ hT0) ?_
  rintro r w2 ⟨_, rfl, ⟨a1, n1, c1, rfl, -, hn1, -⟩, bN⟩
  replace hT0 := hT0.kept bN
  replace bA := nbelow_trans bA bN
  clear bN
  have bB := below_one w2 (.cells #[.bool M.1, .slice a1 n1 c1, .int .i64 M.2.2] 25)
  have m0 : (w2.alloc (.cells #[.bool M.1, .slice a1 n1 c1, .int .i64 M.2.2] 25)).cell? ⟨w2.heap.size, 0, none⟩ = some (.bool M.1) := by go_simp
  have m1 : (w2.alloc (.cells #[.bool M.1, .slice a1 n1 c1, .int .i64 M.2.2] 25)).cell? ⟨w2.heap.size, 1, none⟩ = some (.slice a1 n1 c1) := by go_simp
  have m2 : (w2.alloc (.cells #[.bool M.1, .slice a1 n1 c1, .int .i64 M.2.2] 25)).cell? ⟨w2.heap.size, 2, none⟩ = some (.int .i64 M.2.2) := by go_simp
  replace hT0 := hT0.kept bB
  replace bA := nbelow_trans bA bB
  clear bB
  go_wp2_with fail
  go_ret
  exact ⟨rfl, bA⟩

set_option maxRecDepth 100000 in
set_option maxHeartbeats 4000000 in
theorem pt_E (x n : Int) (w : World) (ux : U x) (hT : Tab w) (hx : finB x = true) (hn0 : ¬ n < 1100) (hn1 : ¬ 3000 < n) (h6 : nbR (beD x n).1 (beD x n).2.1 (beD x n).2.2 = x) :
    Calls Tryd.prog 6 #[.int .u64 x, .int .i64 n] w fun r w' => r = .returned (.bool true) ∧ Below w.heap.size w w' := by
  have HM : Hid _ := fun w' (t' : Tab w') => pMid_calls x w' ux t'
  rw [show lastE x = 0 by unfold lastE; rw [hx]; rfl, show midP x = midQ x by unfold midP; rw [hx]; rfl] at HM
  obtain ⟨t1, t2, t3, t4, t5, t6, t7, t8⟩ := three x n ux hx ⟨by omega, by omega⟩
  have HB : Hid _ := fun a l c b W p hl q T => mSub x n ux hx ⟨by omega, by omega⟩ a l c b W p hl q T
  have HA : Hid _ := fun a l c b W p hl q T => mAdd2 x n ux hx ⟨by omega, by omega⟩ a l c b W p hl q T
  have HN1 : Hid _ := fun a l c W p hl T => nearC (beD x n) t2 a l c W p hl T
  have HN2 : Hid _ := fun a l c W p hl T => nearC (abD x n) t3 a l c W p hl T
  have HN3 : Hid _ := fun a l c W p hl T => nearC (midQ x) t1 a l c W p hl T
  have HU : Hid _ := fun w' => up_calls x w' ux
  have HP : Hid _ := fun w' => power_calls (-n) w'
  have fm := fl_mid x ux hx
  have t9 : 0 ≤ nbR (midQ x).1 (midQ x).2.1 (midQ x).2.2 := by unfold nbR; rw [if_pos t1]; exact (nearB_U _ _ _).1
  generalize flR (midQ x).1 (midQ x).2.1 (midQ x).2.2 = fc at *
  generalize flR (beD x n).1 (beD x n).2.1 (beD x n).2.2 = fa at *
  generalize flR (abD x n).1 (abD x n).2.1 (abD x n).2.2 = fb at *
  generalize nbR (midQ x).1 (midQ x).2.1 (midQ x).2.2 = c at *
  generalize nbR (beD x n).1 (beD x n).2.1 (beD x n).2.2 = a at *
  generalize nbR (abD x n).1 (abD x n).2.1 (abD x n).2.2 = b at *
  generalize midQ x = M at *
  generalize beD x n = P at *
  generalize abD x n = Q at *
  generalize upV x = y at *
  clear t1 t2 t3 t4 t6 hx
  have WN : IntKind.i64.wrap (-n) = -n := by rw [IntKind.wrap_i64]; omega
  have tm : c.tmod 2 = 0 := by rw [Int.tmod_eq_emod_of_nonneg t9]; exact t8
  have fl : (bits .and .u8 fc 16 != 0) = true := by rcases fm with q | q | q | q <;> (rw [q]; decide)
  clear fm t8 t9
  subst t5
  subst h6
  have ta : Hid (c = a → a.tmod 2 = 0) := fun q => q ▸ tm
  have tb : Hid (c = b → b.tmod 2 = 0) := fun q => q ▸ tm
  have bA : Below w.heap.size w w := Below.refl _ _
  have hT0 := hT
  clear hT
  go_enter Tryd.func6, Tryd.ntmps6
  go_wp2_with fail
  refine Calls.mono (rLives_calls _ hT0) ?_
  rintro r w1 ⟨rfl, bN⟩
  replace hT0 := hT0.kept bN
  replace bA := nbelow_trans bA bN
  clear bN
  go_wp2_with fail
  refine Calls.mono (HM.out _ hT0) ?_
  rintro r w2 ⟨_, rfl, ⟨a1, n1, c1, rfl, -, hn1, hO1⟩, bN⟩
  replace hT0 := hT0.kept bN
  replace bA := nbelow_trans bA bN
  clear bN
  have I1 := hO1.1
  clear hO1
  have bB := below_one w2 (.cells #[.bool M.1, .slice a1 n1 c1, .int .i64 M.2.2] 25)
  have m0 : (w2.alloc (.cells #[.bool M.1, .slice a1 n1 c1, .int .i64 M.2.2] 25)).cell? ⟨w2.heap.size, 0, none⟩ = some (.bool M.1) := by go_simp
  have m1 : (w2.alloc (.cells #[.bool M.1, .slice a1 n1 c1, .int .i64 M.2.2] 25)).cell? ⟨w2.heap.size, 1, none⟩ = some (.slice a1 n1 c1) := by go_simp
  have m2 : (w2.alloc (.cells #[.bool M.1, .slice a1 n1 c1, .int .i64 M.2.2] 25)).cell? ⟨w2.heap.size, 2, none⟩ = some (.int .i64 M.2.2) := by go_simp
  replace I1 := IsW.keep I1 bB
  replace hT0 := hT0.kept bB
  replace bA := nbelow_trans bA bB
  clear bB
  go_upto_region 8 with fail
  generalize (w2.alloc (.cells #[.bool M.1, .slice a1 n1 c1, .int .i64 M.2.2] 25)) = w3 at *
  have bW := bA
  clear bA
  go_cut [7, 8] from 40 to 47 (fun va vb wx => ∃ X : Nat, va = .pointer (some ⟨X, 0, none⟩) ∧ vb = .int .i64 0 ∧ PtR w3 wx X P)
  case first =>
    have bw : Below w3.heap.size w3 w3.drew := (Below.refl _ _).drew
    refine wp_region_held (S := fun w' => Below w3.heap.size w3 w') (by kernel_rfl) ?_
    change wpAnyH _ _ _ _ _ _ _ _ (World.drew w3)
    generalize World.drew w3 = wd at bw ⊢
    refine wpAnyH_take (i := 0) (v := .agg #[.bool M.1, .slice a1 n1 c1, .int .i64 M.2.2]) rfl (by kernel_rfl) (by kernel_rfl) (by kernel_rfl) (fun _ _ _ h => h) (Or.inl ⟨by rfl, ?yp1⟩) bw ?rp1
    case yp1 => (intro ww hS; have qm0 := dcarry_cell hS m0; have qm1 := dcarry_cell hS m1; have qm2 := dcarry_cell hS m2; clear hS; go_simp; try with_reducible rfl)
    try simp only [Act.put, List.setIfInBounds_toArray, List.set_cons_zero, List.set_cons_succ]
    refine wpAnyH_take (i := 1) (v := .int .i64 n) rfl (by kernel_rfl) (by kernel_rfl) (by kernel_rfl) (fun _ _ _ h => h) (Or.inl ⟨by rfl, ?yp2⟩) bw ?rp2
    case yp2 => (intro ww hS; clear hS; go_simp; try with_reducible rfl)
    try simp only [Act.put, List.setIfInBounds_toArray, List.set_cons_zero, List.set_cons_succ]
    refine wpAnyH_take (i := 2) (v := .int .i64 (-n)) rfl (by kernel_rfl) (by kernel_rfl) (by kernel_rfl) (fun _ _ _ h => h) (Or.inl ⟨by rfl, ?yp3⟩) bw ?rp3
    case yp3 => (intro ww hS; clear hS; go_simp; try with_reducible rfl)
    try simp only [Act.put, List.setIfInBounds_toArray, List.set_cons_zero, List.set_cons_succ]
    refine wpAnyH_ready (rs := [3, 8]) (by kernel_rfl) (by simp) ?_
    refine (AllReadyH.cons rfl (fun K hK => ?_) (AllReadyH.cons rfl (fun K hK => ?_) (AllReadyH.nil)))
    · go_simp
      refine Calls.mono (HP.out _) ?_
      rintro r vp1 ⟨bp, rfl, hcp, bN⟩
      refine hK.out _ _ (nbelow_trans bw bN) (fun _ => ?_)
      clear hK K
      replace bw := nbelow_trans bw bN
      clear bN
      try simp only [Act.put, List.setIfInBounds_toArray, List.set_cons_zero, List.set_cons_succ]
      refine wpAnyH_ready (rs := [4, 8]) (by kernel_rfl) (by simp) ?_
      refine (AllReadyH.cons rfl (fun K hK => ?_) (AllReadyH.cons rfl (fun K hK => ?_) (AllReadyH.nil)))
      · go_simp
        refine Calls.mono (HB.out _ _ _ _ _ (IsW.keep I1 bw) hn1 hcp (hT0.kept bw)) ?_
        rintro r vp2 ⟨_, rfl, ⟨a2, n2, c2, rfl, -, hn2, hO2⟩, bN⟩
        have hO := hO2.low (B' := w3.heap.size) bw.size
        clear hO2
        refine hK.out _ _ (nbelow_trans bw bN) (fun _ => ?_)
        clear hK K
        replace bw := nbelow_trans bw bN
        clear bN
        try simp only [Act.put, List.setIfInBounds_toArray, List.set_cons_zero, List.set_cons_succ]
        refine wpAnyH_take (i := 5) (v := .tuple #[dyV P.1 a2 n2 c2 P.2.2, .int .i64 0]) rfl (by kernel_rfl) (by kernel_rfl) (by kernel_rfl) (fun _ _ _ h => h) (Or.inl ⟨by rfl, ?yp4⟩) bw ?rp4
        case yp4 => (intro ww hS; clear hS; go_simp; try with_reducible rfl)
        try simp only [Act.put, List.setIfInBounds_toArray, List.set_cons_zero, List.set_cons_succ]
        refine wpAnyH_take (i := 6) (v := dyV P.1 a2 n2 c2 P.2.2) rfl (by kernel_rfl) (by kernel_rfl) (by kernel_rfl) (fun _ _ _ h => h) (Or.inl ⟨by rfl, ?yp5⟩) bw ?rp5
        case yp5 => (intro ww hS; clear hS; go_simp; try with_reducible rfl)
        try simp only [Act.put, List.setIfInBounds_toArray, List.set_cons_zero, List.set_cons_succ]
        refine wpAnyH_take (i := 7) (v := .int .i64 0) rfl (by kernel_rfl) (by kernel_rfl) (by kernel_rfl) (fun _ _ _ h => h) (Or.inl ⟨by rfl, ?yp6⟩) bw ?rp6
        case yp6 => (intro ww hS; clear hS; go_simp; try with_reducible rfl)
        try simp only [Act.put, List.setIfInBounds_toArray, List.set_cons_zero, List.set_cons_succ]
        refine wpAnyH_ready (rs := [8]) (by kernel_rfl) (by simp) ?_
        refine (AllReadyH.cons rfl (fun K hK => ?_) (AllReadyH.nil))
        · go_simp
          refine hK.out _ _ (bl_alloc bw _) (fun _ => ?_)
          clear hK K
          have bN := below_one vp2 (.cells #[.bool false, .slice none 0 0, .int .i64 0] 25)
          replace hO := hO.keep bN
          obtain ⟨X0, X1, X2, X3, X4, X5⟩ := zero_dy (w := vp2) (r := vp2.heap.size) (W' := vp2.alloc (.cells #[.bool false, .slice none 0 0, .int .i64 0] 25)) (Below.refl _ _) rfl
          have XL : w3.heap.size ≤ vp2.heap.size := bw.size
          replace bw := bl_alloc bw (.cells #[.bool false, .slice none 0 0, .int .i64 0] 25)
          clear bN
          try simp only [Act.put, List.setIfInBounds_toArray, List.set_cons_zero, List.set_cons_succ]
          generalize vp2.alloc (.cells #[.bool false, .slice none 0 0, .int .i64 0] 25) = vp3 at *
          refine wpAnyH_ready (rs := [9]) (by kernel_rfl) (by simp) ?_
          refine (AllReadyH.cons rfl (fun K hK => ?_) (AllReadyH.nil))
          · go_simp
            have bS : Below w3.heap.size w3 (((vp3.setCell ⟨vp2.heap.size, 0, none⟩ (.bool P.1)).setCell ⟨vp2.heap.size, 1, none⟩ (.slice a2 n2 c2)).setCell ⟨vp2.heap.size, 2, none⟩ (.int .i64 P.2.2)) := ((bw.setCell XL _).setCell XL _).setCell XL _
            refine hK.out _ _ bS (fun _ => ?_)
            clear hK K
            replace hO := hO.set_dy _ _ _ _ _ _ (.bool P.1) (.slice a2 n2 c2) (.int .i64 P.2.2) X0 X1 X2
            obtain ⟨Z0, Z1, Z2⟩ := set3_same (r := vp2.heap.size) (v0 := .bool P.1) (v1 := .slice a2 n2 c2) (v2 := .int .i64 P.2.2) X0 X1 X2
            clear X0 X1 X2 X3 X4 X5 bw
            try simp only [Act.put, List.setIfInBounds_toArray, List.set_cons_zero, List.set_cons_succ]
            generalize (((vp3.setCell ⟨vp2.heap.size, 0, none⟩ (.bool P.1)).setCell ⟨vp2.heap.size, 1, none⟩ (.slice a2 n2 c2)).setCell ⟨vp2.heap.size, 2, none⟩ (.int .i64 P.2.2)) = vE at *
            have bw := bS
            clear bS
            refine wpAnyH_ready (rs := [10]) (by kernel_rfl) (by simp) ?_
            refine (AllReadyH.cons rfl (fun K hK => ?_) (AllReadyH.nil))
            · go_simp
              refine hK.out _ _ bw (fun _ => ?_)
              clear hK K
              try simp only [Act.put, List.setIfInBounds_toArray, List.set_cons_zero, List.set_cons_succ]
              refine wpAnyH_done (by kernel_rfl) ?_ _
              go_wp2_with fail
              go_meet
              case rel => exact ⟨_, rfl, rfl, a2, n2, c2, Z0, Z1, Z2, hn2, hO.1, bw⟩
      · go_simp
        refine hK.out _ _ (bl_alloc bw _) (fun _ => ?_)
        clear hK K
        have bN := below_one vp1 (.cells #[.bool false, .slice none 0 0, .int .i64 0] 25)
        replace hcp := dcarry_cell bN hcp
        obtain ⟨X0, X1, X2, X3, X4, X5⟩ := zero_dy (w := vp1) (r := vp1.heap.size) (W' := vp1.alloc (.cells #[.bool false, .slice none 0 0, .int .i64 0] 25)) (Below.refl _ _) rfl
        have XL : w3.heap.size ≤ vp1.heap.size := bw.size
        replace bw := bl_alloc bw (.cells #[.bool false, .slice none 0 0, .int .i64 0] 25)
        clear bN
        try simp only [Act.put, List.setIfInBounds_toArray, List.set_cons_zero, List.set_cons_succ]
        generalize vp1.alloc (.cells #[.bool false, .slice none 0 0, .int .i64 0] 25) = vp4 at *
        refine wpAnyH_ready (rs := [4]) (by kernel_rfl) (by simp) ?_
        refine (AllReadyH.cons rfl (fun K hK => ?_) (AllReadyH.nil))
        · go_simp
          refine Calls.mono (HB.out _ _ _ _ _ (IsW.keep I1 bw) hn1 hcp (hT0.kept bw)) ?_
          rintro r vp5 ⟨_, rfl, ⟨a2, n2, c2, rfl, -, hn2, hO2⟩, bN⟩
          have hO := hO2.low (B' := w3.heap.size) bw.size
          clear hO2
          refine hK.out _ _ (nbelow_trans bw bN) (fun _ => ?_)
          clear hK K
          replace bw := nbelow_trans bw bN
          replace X3 := dcarry_frozen bN X0 X3
          replace X4 := dcarry_frozen bN X1 X4
          replace X5 := dcarry_frozen bN X2 X5
          replace X0 := dcarry_cell bN X0
          replace X1 := dcarry_cell bN X1
          replace X2 := dcarry_cell bN X2
          clear bN
          try simp only [Act.put, List.setIfInBounds_toArray, List.set_cons_zero, List.set_cons_succ]
          refine wpAnyH_take (i := 5) (v := .tuple #[dyV P.1 a2 n2 c2 P.2.2, .int .i64 0]) rfl (by kernel_rfl) (by kernel_rfl) (by kernel_rfl) (fun _ _ _ h => h) (Or.inl ⟨by rfl, ?yp7⟩) bw ?rp7
          case yp7 => (intro ww hS; clear hS; go_simp; try with_reducible rfl)
          try simp only [Act.put, List.setIfInBounds_toArray, List.set_cons_zero, List.set_cons_succ]
          refine wpAnyH_take (i := 6) (v := dyV P.1 a2 n2 c2 P.2.2) rfl (by kernel_rfl) (by kernel_rfl) (by kernel_rfl) (fun _ _ _ h => h) (Or.inl ⟨by rfl, ?yp8⟩) bw ?rp8
          case yp8 => (intro ww hS; clear hS; go_simp; try with_reducible rfl)
          try simp only [Act.put, List.setIfInBounds_toArray, List.set_cons_zero, List.set_cons_succ]
          refine wpAnyH_take (i := 7) (v := .int .i64 0) rfl (by kernel_rfl) (by kernel_rfl) (by kernel_rfl) (fun _ _ _ h => h) (Or.inl ⟨by rfl, ?yp9⟩) bw ?rp9
          case yp9 => (intro ww hS; clear hS; go_simp; try with_reducible rfl)
          try simp only [Act.put, List.setIfInBounds_toArray, List.set_cons_zero, List.set_cons_succ]
          refine wpAnyH_ready (rs := [9]) (by kernel_rfl) (by simp) ?_
          refine (AllReadyH.cons rfl (fun K hK => ?_) (AllReadyH.nil))
          · go_simp
            have bS : Below w3.heap.size w3 (((vp5.setCell ⟨vp1.heap.size, 0, none⟩ (.bool P.1)).setCell ⟨vp1.heap.size, 1, none⟩ (.slice a2 n2 c2)).setCell ⟨vp1.heap.size, 2, none⟩ (.int .i64 P.2.2)) := ((bw.setCell XL _).setCell XL _).setCell XL _
            refine hK.out _ _ bS (fun _ => ?_)
            clear hK K
            replace hO := hO.set_dy _ _ _ _ _ _ (.bool P.1) (.slice a2 n2 c2) (.int .i64 P.2.2) X0 X1 X2
            obtain ⟨Z0, Z1, Z2⟩ := set3_same (r := vp1.heap.size) (v0 := .bool P.1) (v1 := .slice a2 n2 c2) (v2 := .int .i64 P.2.2) X0 X1 X2
            clear X0 X1 X2 X3 X4 X5 bw
            try simp only [Act.put, List.setIfInBounds_toArray, List.set_cons_zero, List.set_cons_succ]
            generalize (((vp5.setCell ⟨vp1.heap.size, 0, none⟩ (.bool P.1)).setCell ⟨vp1.heap.size, 1, none⟩ (.slice a2 n2 c2)).setCell ⟨vp1.heap.size, 2, none⟩ (.int .i64 P.2.2)) = vE at *
            have bw := bS
            clear bS
            refine wpAnyH_ready (rs := [10]) (by kernel_rfl) (by simp) ?_
            refine (AllReadyH.cons rfl (fun K hK => ?_) (AllReadyH.nil))
            · go_simp
              refine hK.out _ _ bw (fun _ => ?_)
              clear hK K
              try simp only [Act.put, List.setIfInBounds_toArray, List.set_cons_zero, List.set_cons_succ]
              refine wpAnyH_done (by kernel_rfl) ?_ _
              go_wp2_with fail
              go_meet
              case rel => exact ⟨_, rfl, rfl, a2, n2, c2, Z0, Z1, Z2, hn2, hO.1, bw⟩
    · go_simp
      refine hK.out _ _ (bl_alloc bw _) (fun _ => ?_)
      clear hK K
      have bN := below_one wd (.cells #[.bool false, .slice none 0 0, .int .i64 0] 25)
      obtain ⟨X0, X1, X2, X3, X4, X5⟩ := zero_dy (w := wd) (r := wd.heap.size) (W' := wd.alloc (.cells #[.bool false, .slice none 0 0, .int .i64 0] 25)) (Below.refl _ _) rfl
      have XL : w3.heap.size ≤ wd.heap.size := bw.size
      replace bw := bl_alloc bw (.cells #[.bool false, .slice none 0 0, .int .i64 0] 25)
      clear bN
      try simp only [Act.put, List.setIfInBounds_toArray, List.set_cons_zero, List.set_cons_succ]
      generalize wd.alloc (.cells #[.bool false, .slice none 0 0, .int .i64 0] 25) = vp6 at *
      refine wpAnyH_ready (rs := [3]) (by kernel_rfl) (by simp) ?_
      refine (AllReadyH.cons rfl (fun K hK => ?_) (AllReadyH.nil))
      · go_simp
        refine Calls.mono (HP.out _) ?_
        rintro r vp7 ⟨bp, rfl, hcp, bN⟩
        refine hK.out _ _ (nbelow_trans bw bN) (fun _ => ?_)
        clear hK K
        replace bw := nbelow_trans bw bN
        replace X3 := dcarry_frozen bN X0 X3
        replace X4 := dcarry_frozen bN X1 X4
        replace X5 := dcarry_frozen bN X2 X5
        replace X0 := dcarry_cell bN X0
        replace X1 := dcarry_cell bN X1
        replace X2 := dcarry_cell bN X2
        clear bN
        try simp only [Act.put, List.setIfInBounds_toArray, List.set_cons_zero, List.set_cons_succ]
        refine wpAnyH_ready (rs := [4]) (by kernel_rfl) (by simp) ?_
        refine (AllReadyH.cons rfl (fun K hK => ?_) (AllReadyH.nil))
        · go_simp
          refine Calls.mono (HB.out _ _ _ _ _ (IsW.keep I1 bw) hn1 hcp (hT0.kept bw)) ?_
          rintro r vp8 ⟨_, rfl, ⟨a2, n2, c2, rfl, -, hn2, hO2⟩, bN⟩
          have hO := hO2.low (B' := w3.heap.size) bw.size
          clear hO2
          refine hK.out _ _ (nbelow_trans bw bN) (fun _ => ?_)
          clear hK K
          replace bw := nbelow_trans bw bN
          replace X3 := dcarry_frozen bN X0 X3
          replace X4 := dcarry_frozen bN X1 X4
          replace X5 := dcarry_frozen bN X2 X5
          replace X0 := dcarry_cell bN X0
          replace X1 := dcarry_cell bN X1
          replace X2 := dcarry_cell bN X2
          clear bN
          try simp only [Act.put, List.setIfInBounds_toArray, List.set_cons_zero, List.set_cons_succ]
          refine wpAnyH_take (i := 5) (v := .tuple #[dyV P.1 a2 n2 c2 P.2.2, .int .i64 0]) rfl (by kernel_rfl) (by kernel_rfl) (by kernel_rfl) (fun _ _ _ h => h) (Or.inl ⟨by rfl, ?yp10⟩) bw ?rp10
          case yp10 => (intro ww hS; clear hS; go_simp; try with_reducible rfl)
          try simp only [Act.put, List.setIfInBounds_toArray, List.set_cons_zero, List.set_cons_succ]
          refine wpAnyH_take (i := 6) (v := dyV P.1 a2 n2 c2 P.2.2) rfl (by kernel_rfl) (by kernel_rfl) (by kernel_rfl) (fun _ _ _ h => h) (Or.inl ⟨by rfl, ?yp11⟩) bw ?rp11
          case yp11 => (intro ww hS; clear hS; go_simp; try with_reducible rfl)
          try simp only [Act.put, List.setIfInBounds_toArray, List.set_cons_zero, List.set_cons_succ]
          refine wpAnyH_take (i := 7) (v := .int .i64 0) rfl (by kernel_rfl) (by kernel_rfl) (by kernel_rfl) (fun _ _ _ h => h) (Or.inl ⟨by rfl, ?yp12⟩) bw ?rp12
          case yp12 => (intro ww hS; clear hS; go_simp; try with_reducible rfl)
          try simp only [Act.put, List.setIfInBounds_toArray, List.set_cons_zero, List.set_cons_succ]
          refine wpAnyH_ready (rs := [9]) (by kernel_rfl) (by simp) ?_
          refine (AllReadyH.cons rfl (fun K hK => ?_) (AllReadyH.nil))
          · go_simp
            have bS : Below w3.heap.size w3 (((vp8.setCell ⟨wd.heap.size, 0, none⟩ (.bool P.1)).setCell ⟨wd.heap.size, 1, none⟩ (.slice a2 n2 c2)).setCell ⟨wd.heap.size, 2, none⟩ (.int .i64 P.2.2)) := ((bw.setCell XL _).setCell XL _).setCell XL _
            refine hK.out _ _ bS (fun _ => ?_)
            clear hK K
            replace hO := hO.set_dy _ _ _ _ _ _ (.bool P.1) (.slice a2 n2 c2) (.int .i64 P.2.2) X0 X1 X2
            obtain ⟨Z0, Z1, Z2⟩ := set3_same (r := wd.heap.size) (v0 := .bool P.1) (v1 := .slice a2 n2 c2) (v2 := .int .i64 P.2.2) X0 X1 X2
            clear X0 X1 X2 X3 X4 X5 bw
            try simp only [Act.put, List.setIfInBounds_toArray, List.set_cons_zero, List.set_cons_succ]
            generalize (((vp8.setCell ⟨wd.heap.size, 0, none⟩ (.bool P.1)).setCell ⟨wd.heap.size, 1, none⟩ (.slice a2 n2 c2)).setCell ⟨wd.heap.size, 2, none⟩ (.int .i64 P.2.2)) = vE at *
            have bw := bS
            clear bS
            refine wpAnyH_ready (rs := [10]) (by kernel_rfl) (by simp) ?_
            refine (AllReadyH.cons rfl (fun K hK => ?_) (AllReadyH.nil))
            · go_simp
              refine hK.out _ _ bw (fun _ => ?_)
              clear hK K
              try simp only [Act.put, List.setIfInBounds_toArray, List.set_cons_zero, List.set_cons_succ]
              refine wpAnyH_done (by kernel_rfl) ?_ _
              go_wp2_with fail
              go_meet
              case rel => exact ⟨_, rfl, rfl, a2, n2, c2, Z0, Z1, Z2, hn2, hO.1, bw⟩
  case rest =>
  obtain ⟨w4, hwc⟩ : ∃ w9 : World, w9 = wc := ⟨_, rfl⟩
  subst hwc
  obtain ⟨Xp, rfl, rfl, ap, np, cp, p0, p1, p2, hnp, Ip, bN⟩ := hcut
  replace m0 := dcarry_cell bN m0
  replace m1 := dcarry_cell bN m1
  replace m2 := dcarry_cell bN m2
  replace I1 := IsW.keep I1 bN
  replace hT0 := hT0.kept bN
  replace bW := nbelow_trans bW bN
  clear bN
  go_upto_region 9 with fail
  go_cut [9, 10] from 48 to 55 (fun va vb wx => ∃ X : Nat, va = .pointer (some ⟨X, 0, none⟩) ∧ vb = .int .i64 0 ∧ PtR w4 wx X Q)
  case first =>
    have bw : Below w4.heap.size w4 w4.drew := (Below.refl _ _).drew
    refine wp_region_held (S := fun w' => Below w4.heap.size w4 w') (by kernel_rfl) ?_
    change wpAnyH _ _ _ _ _ _ _ _ (World.drew w4)
    generalize World.drew w4 = wd at bw ⊢
    refine wpAnyH_take (i := 0) (v := .agg #[.bool M.1, .slice a1 n1 c1, .int .i64 M.2.2]) rfl (by kernel_rfl) (by kernel_rfl) (by kernel_rfl) (fun _ _ _ h => h) (Or.inl ⟨by rfl, ?yq1⟩) bw ?rq1
    case yq1 => (intro ww hS; have qm0 := dcarry_cell hS m0; have qm1 := dcarry_cell hS m1; have qm2 := dcarry_cell hS m2; clear hS; go_simp; try with_reducible rfl)
    try simp only [Act.put, List.setIfInBounds_toArray, List.set_cons_zero, List.set_cons_succ]
    refine wpAnyH_take (i := 1) (v := .int .i64 n) rfl (by kernel_rfl) (by kernel_rfl) (by kernel_rfl) (fun _ _ _ h => h) (Or.inl ⟨by rfl, ?yq2⟩) bw ?rq2
    case yq2 => (intro ww hS; clear hS; go_simp; try with_reducible rfl)
    try simp only [Act.put, List.setIfInBounds_toArray, List.set_cons_zero, List.set_cons_succ]
    refine wpAnyH_take (i := 2) (v := .int .i64 (-n)) rfl (by kernel_rfl) (by kernel_rfl) (by kernel_rfl) (fun _ _ _ h => h) (Or.inl ⟨by rfl, ?yq3⟩) bw ?rq3
    case yq3 => (intro ww hS; clear hS; go_simp; try with_reducible rfl)
    try simp only [Act.put, List.setIfInBounds_toArray, List.set_cons_zero, List.set_cons_succ]
    refine wpAnyH_ready (rs := [3, 8]) (by kernel_rfl) (by simp) ?_
    refine (AllReadyH.cons rfl (fun K hK => ?_) (AllReadyH.cons rfl (fun K hK => ?_) (AllReadyH.nil)))
    · go_simp
      refine Calls.mono (HP.out _) ?_
      rintro r vq1 ⟨bp, rfl, hcp, bN⟩
      refine hK.out _ _ (nbelow_trans bw bN) (fun _ => ?_)
      clear hK K
      replace bw := nbelow_trans bw bN
      clear bN
      try simp only [Act.put, List.setIfInBounds_toArray, List.set_cons_zero, List.set_cons_succ]
      refine wpAnyH_ready (rs := [4, 8]) (by kernel_rfl) (by simp) ?_
      refine (AllReadyH.cons rfl (fun K hK => ?_) (AllReadyH.cons rfl (fun K hK => ?_) (AllReadyH.nil)))
      · go_simp
        refine Calls.mono (HA.out _ _ _ _ _ (IsW.keep I1 bw) hn1 hcp (hT0.kept bw)) ?_
        rintro r vq2 ⟨_, rfl, ⟨a2, n2, c2, rfl, -, hn2, hO2⟩, bN⟩
        have hO := hO2.low (B' := w4.heap.size) bw.size
        clear hO2
        refine hK.out _ _ (nbelow_trans bw bN) (fun _ => ?_)
        clear hK K
        replace bw := nbelow_trans bw bN
        clear bN
        try simp only [Act.put, List.setIfInBounds_toArray, List.set_cons_zero, List.set_cons_succ]
        refine wpAnyH_take (i := 5) (v := .tuple #[dyV Q.1 a2 n2 c2 Q.2.2, .int .i64 0]) rfl (by kernel_rfl) (by kernel_rfl) (by kernel_rfl) (fun _ _ _ h => h) (Or.inl ⟨by rfl, ?yq4⟩) bw ?rq4
        case yq4 => (intro ww hS; clear hS; go_simp; try with_reducible rfl)
        try simp only [Act.put, List.setIfInBounds_toArray, List.set_cons_zero, List.set_cons_succ]
        refine wpAnyH_take (i := 6) (v := dyV Q.1 a2 n2 c2 Q.2.2) rfl (by kernel_rfl) (by kernel_rfl) (by kernel_rfl) (fun _ _ _ h => h) (Or.inl ⟨by rfl, ?yq5⟩) bw ?rq5
        case yq5 => (intro ww hS; clear hS; go_simp; try with_reducible rfl)
        try simp only [Act.put, List.setIfInBounds_toArray, List.set_cons_zero, List.set_cons_succ]
        refine wpAnyH_take (i := 7) (v := .int .i64 0) rfl (by kernel_rfl) (by kernel_rfl) (by kernel_rfl) (fun _ _ _ h => h) (Or.inl ⟨by rfl, ?yq6⟩) bw ?rq6
        case yq6 => (intro ww hS; clear hS; go_simp; try with_reducible rfl)
        try simp only [Act.put, List.setIfInBounds_toArray, List.set_cons_zero, List.set_cons_succ]
        refine wpAnyH_ready (rs := [8]) (by kernel_rfl) (by simp) ?_
        refine (AllReadyH.cons rfl (fun K hK => ?_) (AllReadyH.nil))
        · go_simp
          refine hK.out _ _ (bl_alloc bw _) (fun _ => ?_)
          clear hK K
          have bN := below_one vq2 (.cells #[.bool false, .slice none 0 0, .int .i64 0] 25)
          replace hO := hO.keep bN
          obtain ⟨X0, X1, X2, X3, X4, X5⟩ := zero_dy (w := vq2) (r := vq2.heap.size) (W' := vq2.alloc (.cells #[.bool false, .slice none 0 0, .int .i64 0] 25)) (Below.refl _ _) rfl
          have XL : w4.heap.size ≤ vq2.heap.size := bw.size
          replace bw := bl_alloc bw (.cells #[.bool false, .slice none 0 0, .int .i64 0] 25)
          clear bN
          try simp only [Act.put, List.setIfInBounds_toArray, List.set_cons_zero, List.set_cons_succ]
          generalize vq2.alloc (.cells #[.bool false, .slice none 0 0, .int .i64 0] 25) = vq3 at *
          refine wpAnyH_ready (rs := [9]) (by kernel_rfl) (by simp) ?_
          refine (AllReadyH.cons rfl (fun K hK => ?_) (AllReadyH.nil))
          · go_simp
            have bS : Below w4.heap.size w4 (((vq3.setCell ⟨vq2.heap.size, 0, none⟩ (.bool Q.1)).setCell ⟨vq2.heap.size, 1, none⟩ (.slice a2 n2 c2)).setCell ⟨vq2.heap.size, 2, none⟩ (.int .i64 Q.2.2)) := ((bw.setCell XL _).setCell XL _).setCell XL _
            refine hK.out _ _ bS (fun _ => ?_)
            clear hK K
            replace hO := hO.set_dy _ _ _ _ _ _ (.bool Q.1) (.slice a2 n2 c2) (.int .i64 Q.2.2) X0 X1 X2
            obtain ⟨Z0, Z1, Z2⟩ := set3_same (r := vq2.heap.size) (v0 := .bool Q.1) (v1 := .slice a2 n2 c2) (v2 := .int .i64 Q.2.2) X0 X1 X2
            clear X0 X1 X2 X3 X4 X5 bw
            try simp only [Act.put, List.setIfInBounds_toArray, List.set_cons_zero, List.set_cons_succ]
            generalize (((vq3.setCell ⟨vq2.heap.size, 0, none⟩ (.bool Q.1)).setCell ⟨vq2.heap.size, 1, none⟩ (.slice a2 n2 c2)).setCell ⟨vq2.heap.size, 2, none⟩ (.int .i64 Q.2.2)) = vE at *
            have bw := bS
            clear bS
            refine wpAnyH_ready (rs := [10]) (by kernel_rfl) (by simp) ?_
            refine (AllReadyH.cons rfl (fun K hK => ?_) (AllReadyH.nil))
            · go_simp
              refine hK.out _ _ bw (fun _ => ?_)
              clear hK K
              try simp only [Act.put, List.setIfInBounds_toArray, List.set_cons_zero, List.set_cons_succ]
              refine wpAnyH_done (by kernel_rfl) ?_ _
              go_wp2_with fail
              go_meet
              case rel => exact ⟨_, rfl, rfl, a2, n2, c2, Z0, Z1, Z2, hn2, hO.1, bw⟩
      · go_simp
        refine hK.out _ _ (bl_alloc bw _) (fun _ => ?_)
        clear hK K
        have bN := below_one vq1 (.cells #[.bool false, .slice none 0 0, .int .i64 0] 25)
        replace hcp := dcarry_cell bN hcp
        obtain ⟨X0, X1, X2, X3, X4, X5⟩ := zero_dy (w := vq1) (r := vq1.heap.size) (W' := vq1.alloc (.cells #[.bool false, .slice none 0 0, .int .i64 0] 25)) (Below.refl _ _) rfl
        have XL : w4.heap.size ≤ vq1.heap.size := bw.size
        replace bw := bl_alloc bw (.cells #[.bool false, .slice none 0 0, .int .i64 0] 25)
        clear bN
        try simp only [Act.put, List.setIfInBounds_toArray, List.set_cons_zero, List.set_cons_succ]
        generalize vq1.alloc (.cells #[.bool false, .slice none 0 0, .int .i64 0] 25) = vq4 at *
        refine wpAnyH_ready (rs := [4]) (by kernel_rfl) (by simp) ?_
        refine (AllReadyH.cons rfl (fun K hK => ?_) (AllReadyH.nil))
        · go_simp
          refine Calls.mono (HA.out _ _ _ _ _ (IsW.keep I1 bw) hn1 hcp (hT0.kept bw)) ?_
          rintro r vq5 ⟨_, rfl, ⟨a2, n2, c2, rfl, -, hn2, hO2⟩, bN⟩
          have hO := hO2.low (B' := w4.heap.size) bw.size
          clear hO2
          refine hK.out _ _ (nbelow_trans bw bN) (fun _ => ?_)
          clear hK K
          replace bw := nbelow_trans bw bN
          replace X3 := dcarry_frozen bN X0 X3
          replace X4 := dcarry_frozen bN X1 X4
          replace X5 := dcarry_frozen bN X2 X5
          replace X0 := dcarry_cell bN X0
          replace X1 := dcarry_cell bN X1
          replace X2 := dcarry_cell bN X2
          clear bN
          try simp only [Act.put, List.setIfInBounds_toArray, List.set_cons_zero, List.set_cons_succ]
          refine wpAnyH_take (i := 5) (v := .tuple #[dyV Q.1 a2 n2 c2 Q.2.2, .int .i64 0]) rfl (by kernel_rfl) (by kernel_rfl) (by kernel_rfl) (fun _ _ _ h => h) (Or.inl ⟨by rfl, ?yq7⟩) bw ?rq7
          case yq7 => (intro ww hS; clear hS; go_simp; try with_reducible rfl)
          try simp only [Act.put, List.setIfInBounds_toArray, List.set_cons_zero, List.set_cons_succ]
          refine wpAnyH_take (i := 6) (v := dyV Q.1 a2 n2 c2 Q.2.2) rfl (by kernel_rfl) (by kernel_rfl) (by kernel_rfl) (fun _ _ _ h => h) (Or.inl ⟨by rfl, ?yq8⟩) bw ?rq8
          case yq8 => (intro ww hS; clear hS; go_simp; try with_reducible rfl)
          try simp only [Act.put, List.setIfInBounds_toArray, List.set_cons_zero, List.set_cons_succ]
          refine wpAnyH_take (i := 7) (v := .int .i64 0) rfl (by kernel_rfl) (by kernel_rfl) (by kernel_rfl) (fun _ _ _ h => h) (Or.inl ⟨by rfl, ?yq9⟩) bw ?rq9
          case yq9 => (intro ww hS; clear hS; go_simp; try with_reducible rfl)
          try simp only [Act.put, List.setIfInBounds_toArray, List.set_cons_zero, List.set_cons_succ]
          refine wpAnyH_ready (rs := [9]) (by kernel_rfl) (by simp) ?_
          refine (AllReadyH.cons rfl (fun K hK => ?_) (AllReadyH.nil))
          · go_simp
            have bS : Below w4.heap.size w4 (((vq5.setCell ⟨vq1.heap.size, 0, none⟩ (.bool Q.1)).setCell ⟨vq1.heap.size, 1, none⟩ (.slice a2 n2 c2)).setCell ⟨vq1.heap.size, 2, none⟩ (.int .i64 Q.2.2)) := ((bw.setCell XL _).setCell XL _).setCell XL _
            refine hK.out _ _ bS (fun _ => ?_)
            clear hK K
            replace hO := hO.set_dy _ _ _ _ _ _ (.bool Q.1) (.slice a2 n2 c2) (.int .i64 Q.2.2) X0 X1 X2
            obtain ⟨Z0, Z1, Z2⟩ := set3_same (r := vq1.heap.size) (v0 := .bool Q.1) (v1 := .slice a2 n2 c2) (v2 := .int .i64 Q.2.2) X0 X1 X2
            clear X0 X1 X2 X3 X4 X5 bw
            try simp only [Act.put, List.setIfInBounds_toArray, List.set_cons_zero, List.set_cons_succ]
            generalize (((vq5.setCell ⟨vq1.heap.size, 0, none⟩ (.bool Q.1)).setCell ⟨vq1.heap.size, 1, none⟩ (.slice a2 n2 c2)).setCell ⟨vq1.heap.size, 2, none⟩ (.int .i64 Q.2.2)) = vE at *
            have bw := bS
            clear bS
            refine wpAnyH_ready (rs := [10]) (by kernel_rfl) (by simp) ?_
            refine (AllReadyH.cons rfl (fun K hK => ?_) (AllReadyH.nil))
            · go_simp
              refine hK.out _ _ bw (fun _ => ?_)
              clear hK K
              try simp only [Act.put, List.setIfInBounds_toArray, List.set_cons_zero, List.set_cons_succ]
              refine wpAnyH_done (by kernel_rfl) ?_ _
              go_wp2_with fail
              go_meet
              case rel => exact ⟨_, rfl, rfl, a2, n2, c2, Z0, Z1, Z2, hn2, hO.1, bw⟩
    · go_simp
      refine hK.out _ _ (bl_alloc bw _) (fun _ => ?_)
      clear hK K
      have bN := below_one wd (.cells #[.bool false, .slice none 0 0, .int .i64 0] 25)
      obtain ⟨X0, X1, X2, X3, X4, X5⟩ := zero_dy (w := wd) (r := wd.heap.size) (W' := wd.alloc (.cells #[.bool false, .slice none 0 0, .int .i64 0] 25)) (Below.refl _ _) rfl
      have XL : w4.heap.size ≤ wd.heap.size := bw.size
      replace bw := bl_alloc bw (.cells #[.bool false, .slice none 0 0, .int .i64 0] 25)
      clear bN
      try simp only [Act.put, List.setIfInBounds_toArray, List.set_cons_zero, List.set_cons_succ]
      generalize wd.alloc (.cells #[.bool false, .slice none 0 0, .int .i64 0] 25) = vq6 at *
      refine wpAnyH_ready (rs := [3]) (by kernel_rfl) (by simp) ?_
      refine (AllReadyH.cons rfl (fun K hK => ?_) (AllReadyH.nil))
      · go_simp
        refine Calls.mono (HP.out _) ?_
        rintro r vq7 ⟨bp, rfl, hcp, bN⟩
        refine hK.out _ _ (nbelow_trans bw bN) (fun _ => ?_)
        clear hK K
        replace bw := nbelow_trans bw bN
        replace X3 := dcarry_frozen bN X0 X3
        replace X4 := dcarry_frozen bN X1 X4
        replace X5 := dcarry_frozen bN X2 X5
        replace X0 := dcarry_cell bN X0
        replace X1 := dcarry_cell bN X1
        replace X2 := dcarry_cell bN X2
        clear bN
        try simp only [Act.put, List.setIfInBounds_toArray, List.set_cons_zero, List.set_cons_succ]
        refine wpAnyH_ready (rs := [4]) (by kernel_rfl) (by simp) ?_
        refine (AllReadyH.cons rfl (fun K hK => ?_) (AllReadyH.nil))
        · go_simp
          refine Calls.mono (HA.out _ _ _ _ _ (IsW.keep I1 bw) hn1 hcp (hT0.kept bw)) ?_
          rintro r vq8 ⟨_, rfl, ⟨a2, n2, c2, rfl, -, hn2, hO2⟩, bN⟩
          have hO := hO2.low (B' := w4.heap.size) bw.size
          clear hO2
          refine hK.out _ _ (nbelow_trans bw bN) (fun _ => ?_)
          clear hK K
          replace bw := nbelow_trans bw bN
          replace X3 := dcarry_frozen bN X0 X3
          replace X4 := dcarry_frozen bN X1 X4
          replace X5 := dcarry_frozen bN X2 X5
          replace X0 := dcarry_cell bN X0
          replace X1 := dcarry_cell bN X1
          replace X2 := dcarry_cell bN X2
          clear bN
          try simp only [Act.put, List.setIfInBounds_toArray, List.set_cons_zero, List.set_cons_succ]
          refine wpAnyH_take (i := 5) (v := .tuple #[dyV Q.1 a2 n2 c2 Q.2.2, .int .i64 0]) rfl (by kernel_rfl) (by kernel_rfl) (by kernel_rfl) (fun _ _ _ h => h) (Or.inl ⟨by rfl, ?yq10⟩) bw ?rq10
          case yq10 => (intro ww hS; clear hS; go_simp; try with_reducible rfl)
          try simp only [Act.put, List.setIfInBounds_toArray, List.set_cons_zero, List.set_cons_succ]
          refine wpAnyH_take (i := 6) (v := dyV Q.1 a2 n2 c2 Q.2.2) rfl (by kernel_rfl) (by kernel_rfl) (by kernel_rfl) (fun _ _ _ h => h) (Or.inl ⟨by rfl, ?yq11⟩) bw ?rq11
          case yq11 => (intro ww hS; clear hS; go_simp; try with_reducible rfl)
          try simp only [Act.put, List.setIfInBounds_toArray, List.set_cons_zero, List.set_cons_succ]
          refine wpAnyH_take (i := 7) (v := .int .i64 0) rfl (by kernel_rfl) (by kernel_rfl) (by kernel_rfl) (fun _ _ _ h => h) (Or.inl ⟨by rfl, ?yq12⟩) bw ?rq12
          case yq12 => (intro ww hS; clear hS; go_simp; try with_reducible rfl)
          try simp only [Act.put, List.setIfInBounds_toArray, List.set_cons_zero, List.set_cons_succ]
          refine wpAnyH_ready (rs := [9]) (by kernel_rfl) (by simp) ?_
          refine (AllReadyH.cons rfl (fun K hK => ?_) (AllReadyH.nil))
          · go_simp
            have bS : Below w4.heap.size w4 (((vq8.setCell ⟨wd.heap.size, 0, none⟩ (.bool Q.1)).setCell ⟨wd.heap.size, 1, none⟩ (.slice a2 n2 c2)).setCell ⟨wd.heap.size, 2, none⟩ (.int .i64 Q.2.2)) := ((bw.setCell XL _).setCell XL _).setCell XL _
            refine hK.out _ _ bS (fun _ => ?_)
            clear hK K
            replace hO := hO.set_dy _ _ _ _ _ _ (.bool Q.1) (.slice a2 n2 c2) (.int .i64 Q.2.2) X0 X1 X2
            obtain ⟨Z0, Z1, Z2⟩ := set3_same (r := wd.heap.size) (v0 := .bool Q.1) (v1 := .slice a2 n2 c2) (v2 := .int .i64 Q.2.2) X0 X1 X2
            clear X0 X1 X2 X3 X4 X5 bw
            try simp only [Act.put, List.setIfInBounds_toArray, List.set_cons_zero, List.set_cons_succ]
            generalize (((vq8.setCell ⟨wd.heap.size, 0, none⟩ (.bool Q.1)).setCell ⟨wd.heap.size, 1, none⟩ (.slice a2 n2 c2)).setCell ⟨wd.heap.size, 2, none⟩ (.int .i64 Q.2.2)) = vE at *
            have bw := bS
            clear bS
            refine wpAnyH_ready (rs := [10]) (by kernel_rfl) (by simp) ?_
            refine (AllReadyH.cons rfl (fun K hK => ?_) (AllReadyH.nil))
            · go_simp
              refine hK.out _ _ bw (fun _ => ?_)
              clear hK K
              try simp only [Act.put, List.setIfInBounds_toArray, List.set_cons_zero, List.set_cons_succ]
              refine wpAnyH_done (by kernel_rfl) ?_ _
              go_wp2_with fail
              go_meet
              case rel => exact ⟨_, rfl, rfl, a2, n2, c2, Z0, Z1, Z2, hn2, hO.1, bw⟩
  case rest =>
  obtain ⟨w5, hwc⟩ : ∃ w9 : World, w9 = wc := ⟨_, rfl⟩
  subst hwc
  obtain ⟨Xq, rfl, rfl, aq, nq, cq, q0, q1, q2, hnq, Iq, bN⟩ := hcut
  replace m0 := dcarry_cell bN m0
  replace m1 := dcarry_cell bN m1
  replace m2 := dcarry_cell bN m2
  replace p0 := dcarry_cell bN p0
  replace p1 := dcarry_cell bN p1
  replace p2 := dcarry_cell bN p2
  replace I1 := IsW.keep I1 bN
  replace Ip := IsW.keep Ip bN
  replace hT0 := hT0.kept bN
  replace bW := nbelow_trans bW bN
  clear bN
  go_wp2_with fail
  have bA := bW
  clear bW
  refine Calls.mono (HN1.out _ _ _ _ Ip hnp hT0) ?_
  rintro r w6 ⟨rfl, bN⟩
  replace m0 := dcarry_cell bN m0
  replace m1 := dcarry_cell bN m1
  replace m2 := dcarry_cell bN m2
  replace p0 := dcarry_cell bN p0
  replace p1 := dcarry_cell bN p1
  replace p2 := dcarry_cell bN p2
  replace q0 := dcarry_cell bN q0
  replace q1 := dcarry_cell bN q1
  replace q2 := dcarry_cell bN q2
  replace I1 := IsW.keep I1 bN
  replace Ip := IsW.keep Ip bN
  replace Iq := IsW.keep Iq bN
  replace hT0 := hT0.kept bN
  replace bA := nbelow_trans bA bN
  clear bN
  have bB := below_one w6 (.cells #[.int .u64 a, .int .u8 fa] 29)
  have x0 : (w6.alloc (.cells #[.int .u64 a, .int .u8 fa] 29)).cell? ⟨w6.heap.size, 0, none⟩ = some (.int .u64 a) := by go_simp
  have x1 : (w6.alloc (.cells #[.int .u64 a, .int .u8 fa] 29)).cell? ⟨w6.heap.size, 1, none⟩ = some (.int .u8 fa) := by go_simp
  replace m0 := dcarry_cell bB m0
  replace m1 := dcarry_cell bB m1
  replace m2 := dcarry_cell bB m2
  replace p0 := dcarry_cell bB p0
  replace p1 := dcarry_cell bB p1
  replace p2 := dcarry_cell bB p2
  replace q0 := dcarry_cell bB q0
  replace q1 := dcarry_cell bB q1
  replace q2 := dcarry_cell bB q2
  replace I1 := IsW.keep I1 bB
  replace Ip := IsW.keep Ip bB
  replace Iq := IsW.keep Iq bB
  replace hT0 := hT0.kept bB
  replace bA := nbelow_trans bA bB
  clear bB
  go_wp2_with fail
  generalize (w6.alloc (.cells #[.int .u64 a, .int .u8 fa] 29)) = w7 at *
  refine Calls.mono (HN2.out _ _ _ _ Iq hnq hT0) ?_
  rintro r w8 ⟨rfl, bN⟩
  replace m0 := dcarry_cell bN m0
  replace m1 := dcarry_cell bN m1
  replace m2 := dcarry_cell bN m2
  replace p0 := dcarry_cell bN p0
  replace p1 := dcarry_cell bN p1
  replace p2 := dcarry_cell bN p2
  replace q0 := dcarry_cell bN q0
  replace q1 := dcarry_cell bN q1
  replace q2 := dcarry_cell bN q2
  replace x0 := dcarry_cell bN x0
  replace x1 := dcarry_cell bN x1
  replace I1 := IsW.keep I1 bN
  replace Ip := IsW.keep Ip bN
  replace Iq := IsW.keep Iq bN
  replace hT0 := hT0.kept bN
  replace bA := nbelow_trans bA bN
  clear bN
  have bB := below_one w8 (.cells #[.int .u64 b, .int .u8 fb] 29)
  have y0 : (w8.alloc (.cells #[.int .u64 b, .int .u8 fb] 29)).cell? ⟨w8.heap.size, 0, none⟩ = some (.int .u64 b) := by go_simp
  have y1 : (w8.alloc (.cells #[.int .u64 b, .int .u8 fb] 29)).cell? ⟨w8.heap.size, 1, none⟩ = some (.int .u8 fb) := by go_simp
  replace m0 := dcarry_cell bB m0
  replace m1 := dcarry_cell bB m1
  replace m2 := dcarry_cell bB m2
  replace p0 := dcarry_cell bB p0
  replace p1 := dcarry_cell bB p1
  replace p2 := dcarry_cell bB p2
  replace q0 := dcarry_cell bB q0
  replace q1 := dcarry_cell bB q1
  replace q2 := dcarry_cell bB q2
  replace x0 := dcarry_cell bB x0
  replace x1 := dcarry_cell bB x1
  replace I1 := IsW.keep I1 bB
  replace Ip := IsW.keep Ip bB
  replace Iq := IsW.keep Iq bB
  replace hT0 := hT0.kept bB
  replace bA := nbelow_trans bA bB
  clear bB
  go_wp2_with fail
  generalize (w8.alloc (.cells #[.int .u64 b, .int .u8 fb] 29)) = w9 at *
  refine Calls.mono (HN3.out _ _ _ _ I1 hn1 hT0) ?_
  rintro r w10 ⟨rfl, bN⟩
  replace m0 := dcarry_cell bN m0
  replace m1 := dcarry_cell bN m1
  replace m2 := dcarry_cell bN m2
  replace p0 := dcarry_cell bN p0
  replace p1 := dcarry_cell bN p1
  replace p2 := dcarry_cell bN p2
  replace q0 := dcarry_cell bN q0
  replace q1 := dcarry_cell bN q1
  replace q2 := dcarry_cell bN q2
  replace x0 := dcarry_cell bN x0
  replace x1 := dcarry_cell bN x1
  replace y0 := dcarry_cell bN y0
  replace y1 := dcarry_cell bN y1
  replace I1 := IsW.keep I1 bN
  replace Ip := IsW.keep Ip bN
  replace Iq := IsW.keep Iq bN
  replace hT0 := hT0.kept bN
  replace bA := nbelow_trans bA bN
  clear bN
  have bB := below_one w10 (.cells #[.int .u64 c, .int .u8 fc] 29)
  have z0 : (w10.alloc (.cells #[.int .u64 c, .int .u8 fc] 29)).cell? ⟨w10.heap.size, 0, none⟩ = some (.int .u64 c) := by go_simp
  have z1 : (w10.alloc (.cells #[.int .u64 c, .int .u8 fc] 29)).cell? ⟨w10.heap.size, 1, none⟩ = some (.int .u8 fc) := by go_simp
  replace m0 := dcarry_cell bB m0
  replace m1 := dcarry_cell bB m1
  replace m2 := dcarry_cell bB m2
  replace p0 := dcarry_cell bB p0
  replace p1 := dcarry_cell bB p1
  replace p2 := dcarry_cell bB p2
  replace q0 := dcarry_cell bB q0
  replace q1 := dcarry_cell bB q1
  replace q2 := dcarry_cell bB q2
  replace x0 := dcarry_cell bB x0
  replace x1 := dcarry_cell bB x1
  replace y0 := dcarry_cell bB y0
  replace y1 := dcarry_cell bB y1
  replace I1 := IsW.keep I1 bB
  replace Ip := IsW.keep Ip bB
  replace Iq := IsW.keep Iq bB
  replace hT0 := hT0.kept bB
  replace bA := nbelow_trans bA bB
  clear bB
  go_wp2_with fail
  generalize (w10.alloc (.cells #[.int .u64 c, .int .u8 fc] 29)) = w11 at *
  refine Calls.mono (HU.out _) ?_
  rintro r wx ⟨rfl, rfl⟩
  go_wp2_with fail
  all_goals first
    | exact absurd (ta.out ‹c = a›) ‹¬ a.tmod 2 = 0›
    | exact absurd (tb.out ‹c = b›) ‹¬ b.tmod 2 = 0›
    | (go_ret; first | exact ⟨rfl, bA⟩ | exact ⟨by rw [fl], bA⟩)

set_option maxRecDepth 100000 in
set_option maxHeartbeats 4000000 in
theorem pt_Z (x n : Int) (w : World) (ux : U x) (hT : Tab w) (hx : finB x = true) (hn0 : ¬ n < 1100) (hn1 : ¬ 3000 < n) (hx0 : x = 9223372036854775808) (h6 : nbR (beD x n).1 (beD x n).2.1 (beD x n).2.2 = 0) :
    Calls Tryd.prog 6 #[.int .u64 x, .int .i64 n] w fun r w' => r = .returned (.bool true) ∧ Below w.heap.size w w' := by
  have HM : Hid _ := fun w' (t' : Tab w') => pMid_calls x w' ux t'
  rw [show lastE x = 0 by unfold lastE; rw [hx]; rfl, show midP x = midQ x by unfold midP; rw [hx]; rfl] at HM
  obtain ⟨t1, t2, t3, t4, t5, t6, t7, t8⟩ := three x n ux hx ⟨by omega, by omega⟩
  have HB : Hid _ := fun a l c b W p hl q T => mSub x n ux hx ⟨by omega, by omega⟩ a l c b W p hl q T
  have HA : Hid _ := fun a l c b W p hl q T => mAdd2 x n ux hx ⟨by omega, by omega⟩ a l c b W p hl q T
  have HN1 : Hid _ := fun a l c W p hl T => nearC (beD x n) t2 a l c W p hl T
  have HN2 : Hid _ := fun a l c W p hl T => nearC (abD x n) t3 a l c W p hl T
  have HN3 : Hid _ := fun a l c W p hl T => nearC (midQ x) t1 a l c W p hl T
  have HU : Hid _ := fun w' => up_calls x w' ux
  have HP : Hid _ := fun w' => power_calls (-n) w'
  have fm := fl_mid x ux hx
  have t9 : 0 ≤ nbR (midQ x).1 (midQ x).2.1 (midQ x).2.2 := by unfold nbR; rw [if_pos t1]; exact (nearB_U _ _ _).1
  generalize flR (midQ x).1 (midQ x).2.1 (midQ x).2.2 = fc at *
  generalize flR (beD x n).1 (beD x n).2.1 (beD x n).2.2 = fa at *
  generalize flR (abD x n).1 (abD x n).2.1 (abD x n).2.2 = fb at *
  generalize nbR (midQ x).1 (midQ x).2.1 (midQ x).2.2 = c at *
  generalize nbR (beD x n).1 (beD x n).2.1 (beD x n).2.2 = a at *
  generalize nbR (abD x n).1 (abD x n).2.1 (abD x n).2.2 = b at *
  generalize midQ x = M at *
  generalize beD x n = P at *
  generalize abD x n = Q at *
  generalize upV x = y at *
  clear t1 t2 t3 t4 t6 hx
  have WN : IntKind.i64.wrap (-n) = -n := by rw [IntKind.wrap_i64]; omega
  have tm : c.tmod 2 = 0 := by rw [Int.tmod_eq_emod_of_nonneg t9]; exact t8
  have fl : (bits .and .u8 fc 16 != 0) = true := by rcases fm with q | q | q | q <;> (rw [q]; decide)
  clear fm t8 t9
  subst t5
  subst h6
  have HC1 : Hid _ := fun w' => class_calls x w' ux
  rw [show classV x = 1 by rw [hx0]; decide] at HC1
  have HC2 : Hid _ := fun w' => class_calls 0 w' ⟨by decide, by decide⟩
  rw [show classV 0 = 1 by decide] at HC2
  have ne0 : ¬ (0 : Int) = x := by rw [hx0]; decide
  clear hx0
  have tb : Hid (c = b → b.tmod 2 = 0) := fun q => q ▸ tm
  have bA : Below w.heap.size w w := Below.refl _ _
  have hT0 := hT
  clear hT
  go_enter Tryd.func6, Tryd.ntmps6
  go_wp2_with fail
  refine Calls.mono (rLives_calls _ hT0) ?_
  rintro r w1 ⟨rfl, bN⟩
  replace hT0 := hT0.kept bN
  replace bA := nbelow_trans bA bN
  clear bN
  go_wp2_with fail
  refine Calls.mono (HM.out _ hT0) ?_
  rintro r w2 ⟨_, rfl, ⟨a1, n1, c1, rfl, -, hn1, hO1⟩, bN⟩
  replace hT0 := hT0.kept bN
  replace bA := nbelow_trans bA bN
  clear bN
  have I1 := hO1.1
  clear hO1
  have bB := below_one w2 (.cells #[.bool M.1, .slice a1 n1 c1, .int .i64 M.2.2] 25)
  have m0 : (w2.alloc (.cells #[.bool M.1, .slice a1 n1 c1, .int .i64 M.2.2] 25)).cell? ⟨w2.heap.size, 0, none⟩ = some (.bool M.1) := by go_simp
  have m1 : (w2.alloc (.cells #[.bool M.1, .slice a1 n1 c1, .int .i64 M.2.2] 25)).cell? ⟨w2.heap.size, 1, none⟩ = some (.slice a1 n1 c1) := by go_simp
  have m2 : (w2.alloc (.cells #[.bool M.1, .slice a1 n1 c1, .int .i64 M.2.2] 25)).cell? ⟨w2.heap.size, 2, none⟩ = some (.int .i64 M.2.2) := by go_simp
  replace I1 := IsW.keep I1 bB
  replace hT0 := hT0.kept bB
  replace bA := nbelow_trans bA bB
  clear bB
  go_upto_region 8 with fail
  generalize (w2.alloc (.cells #[.bool M.1, .slice a1 n1 c1, .int .i64 M.2.2] 25)) = w3 at *
  have bW := bA
  clear bA
  go_cut [7, 8] from 40 to 47 (fun va vb wx => ∃ X : Nat, va = .pointer (some ⟨X, 0, none⟩) ∧ vb = .int .i64 0 ∧ PtR w3 wx X P)
  case first =>
    have bw : Below w3.heap.size w3 w3.drew := (Below.refl _ _).drew
    refine wp_region_held (S := fun w' => Below w3.heap.size w3 w') (by kernel_rfl) ?_
    change wpAnyH _ _ _ _ _ _ _ _ (World.drew w3)
    generalize World.drew w3 = wd at bw ⊢
    refine wpAnyH_take (i := 0) (v := .agg #[.bool M.1, .slice a1 n1 c1, .int .i64 M.2.2]) rfl (by kernel_rfl) (by kernel_rfl) (by kernel_rfl) (fun _ _ _ h => h) (Or.inl ⟨by rfl, ?yp1⟩) bw ?rp1
    case yp1 => (intro ww hS; have qm0 := dcarry_cell hS m0; have qm1 := dcarry_cell hS m1; have qm2 := dcarry_cell hS m2; clear hS; go_simp; try with_reducible rfl)
    try simp only [Act.put, List.setIfInBounds_toArray, List.set_cons_zero, List.set_cons_succ]
    refine wpAnyH_take (i := 1) (v := .int .i64 n) rfl (by kernel_rfl) (by kernel_rfl) (by kernel_rfl) (fun _ _ _ h => h) (Or.inl ⟨by rfl, ?yp2⟩) bw ?rp2
    case yp2 => (intro ww hS; clear hS; go_simp; try with_reducible rfl)
    try simp only [Act.put, List.setIfInBounds_toArray, List.set_cons_zero, List.set_cons_succ]
    refine wpAnyH_take (i := 2) (v := .int .i64 (-n)) rfl (by kernel_rfl) (by kernel_rfl) (by kernel_rfl) (fun _ _ _ h => h) (Or.inl ⟨by rfl, ?yp3⟩) bw ?rp3
    case yp3 => (intro ww hS; clear hS; go_simp; try with_reducible rfl)
    try simp only [Act.put, List.setIfInBounds_toArray, List.set_cons_zero, List.set_cons_succ]
    refine wpAnyH_ready (rs := [3, 8]) (by kernel_rfl) (by simp) ?_
    refine (AllReadyH.cons rfl (fun K hK => ?_) (AllReadyH.cons rfl (fun K hK => ?_) (AllReadyH.nil)))
    · go_simp
      refine Calls.mono (HP.out _) ?_
      rintro r vp1 ⟨bp, rfl, hcp, bN⟩
      refine hK.out _ _ (nbelow_trans bw bN) (fun _ => ?_)
      clear hK K
      replace bw := nbelow_trans bw bN
      clear bN
      try simp only [Act.put, List.setIfInBounds_toArray, List.set_cons_zero, List.set_cons_succ]
      refine wpAnyH_ready (rs := [4, 8]) (by kernel_rfl) (by simp) ?_
      refine (AllReadyH.cons rfl (fun K hK => ?_) (AllReadyH.cons rfl (fun K hK => ?_) (AllReadyH.nil)))
      · go_simp
        refine Calls.mono (HB.out _ _ _ _ _ (IsW.keep I1 bw) hn1 hcp (hT0.kept bw)) ?_
        rintro r vp2 ⟨_, rfl, ⟨a2, n2, c2, rfl, -, hn2, hO2⟩, bN⟩
        have hO := hO2.low (B' := w3.heap.size) bw.size
        clear hO2
        refine hK.out _ _ (nbelow_trans bw bN) (fun _ => ?_)
        clear hK K
        replace bw := nbelow_trans bw bN
        clear bN
        try simp only [Act.put, List.setIfInBounds_toArray, List.set_cons_zero, List.set_cons_succ]
        refine wpAnyH_take (i := 5) (v := .tuple #[dyV P.1 a2 n2 c2 P.2.2, .int .i64 0]) rfl (by kernel_rfl) (by kernel_rfl) (by kernel_rfl) (fun _ _ _ h => h) (Or.inl ⟨by rfl, ?yp4⟩) bw ?rp4
        case yp4 => (intro ww hS; clear hS; go_simp; try with_reducible rfl)
        try simp only [Act.put, List.setIfInBounds_toArray, List.set_cons_zero, List.set_cons_succ]
        refine wpAnyH_take (i := 6) (v := dyV P.1 a2 n2 c2 P.2.2) rfl (by kernel_rfl) (by kernel_rfl) (by kernel_rfl) (fun _ _ _ h => h) (Or.inl ⟨by rfl, ?yp5⟩) bw ?rp5
        case yp5 => (intro ww hS; clear hS; go_simp; try with_reducible rfl)
        try simp only [Act.put, List.setIfInBounds_toArray, List.set_cons_zero, List.set_cons_succ]
        refine wpAnyH_take (i := 7) (v := .int .i64 0) rfl (by kernel_rfl) (by kernel_rfl) (by kernel_rfl) (fun _ _ _ h => h) (Or.inl ⟨by rfl, ?yp6⟩) bw ?rp6
        case yp6 => (intro ww hS; clear hS; go_simp; try with_reducible rfl)
        try simp only [Act.put, List.setIfInBounds_toArray, List.set_cons_zero, List.set_cons_succ]
        refine wpAnyH_ready (rs := [8]) (by kernel_rfl) (by simp) ?_
        refine (AllReadyH.cons rfl (fun K hK => ?_) (AllReadyH.nil))
        · go_simp
          refine hK.out _ _ (bl_alloc bw _) (fun _ => ?_)
          clear hK K
          have bN := below_one vp2 (.cells #[.bool false, .slice none 0 0, .int .i64 0] 25)
          replace hO := hO.keep bN
          obtain ⟨X0, X1, X2, X3, X4, X5⟩ := zero_dy (w := vp2) (r := vp2.heap.size) (W' := vp2.alloc (.cells #[.bool false, .slice none 0 0, .int .i64 0] 25)) (Below.refl _ _) rfl
          have XL : w3.heap.size ≤ vp2.heap.size := bw.size
          replace bw := bl_alloc bw (.cells #[.bool false, .slice none 0 0, .int .i64 0] 25)
          clear bN
          try simp only [Act.put, List.setIfInBounds_toArray, List.set_cons_zero, List.set_cons_succ]
          generalize vp2.alloc (.cells #[.bool false, .slice none 0 0, .int .i64 0] 25) = vp3 at *
          refine wpAnyH_ready (rs := [9]) (by kernel_rfl) (by simp) ?_
          refine (AllReadyH.cons rfl (fun K hK => ?_) (AllReadyH.nil))
          · go_simp
            have bS : Below w3.heap.size w3 (((vp3.setCell ⟨vp2.heap.size, 0, none⟩ (.bool P.1)).setCell ⟨vp2.heap.size, 1, none⟩ (.slice a2 n2 c2)).setCell ⟨vp2.heap.size, 2, none⟩ (.int .i64 P.2.2)) := ((bw.setCell XL _).setCell XL _).setCell XL _
            refine hK.out _ _ bS (fun _ => ?_)
            clear hK K
            replace hO := hO.set_dy _ _ _ _ _ _ (.bool P.1) (.slice a2 n2 c2) (.int .i64 P.2.2) X0 X1 X2
            obtain ⟨Z0, Z1, Z2⟩ := set3_same (r := vp2.heap.size) (v0 := .bool P.1) (v1 := .slice a2 n2 c2) (v2 := .int .i64 P.2.2) X0 X1 X2
            clear X0 X1 X2 X3 X4 X5 bw
            try simp only [Act.put, List.setIfInBounds_toArray, List.set_cons_zero, List.set_cons_succ]
            generalize (((vp3.setCell ⟨vp2.heap.size, 0, none⟩ (.bool P.1)).setCell ⟨vp2.heap.size, 1, none⟩ (.slice a2 n2 c2)).setCell ⟨vp2.heap.size, 2, none⟩ (.int .i64 P.2.2)) = vE at *
            have bw := bS
            clear bS
            refine wpAnyH_ready (rs := [10]) (by kernel_rfl) (by simp) ?_
            refine (AllReadyH.cons rfl (fun K hK => ?_) (AllReadyH.nil))
            · go_simp
              refine hK.out _ _ bw (fun _ => ?_)
              clear hK K
              try simp only [Act.put, List.setIfInBounds_toArray, List.set_cons_zero, List.set_cons_succ]
              refine wpAnyH_done (by kernel_rfl) ?_ _
              go_wp2_with fail
              go_meet
              case rel => exact ⟨_, rfl, rfl, a2, n2, c2, Z0, Z1, Z2, hn2, hO.1, bw⟩
      · go_simp
        refine hK.out _ _ (bl_alloc bw _) (fun _ => ?_)
        clear hK K
        have bN := below_one vp1 (.cells #[.bool false, .slice none 0 0, .int .i64 0] 25)
        replace hcp := dcarry_cell bN hcp
        obtain ⟨X0, X1, X2, X3, X4, X5⟩ := zero_dy (w := vp1) (r := vp1.heap.size) (W' := vp1.alloc (.cells #[.bool false, .slice none 0 0, .int .i64 0] 25)) (Below.refl _ _) rfl
        have XL : w3.heap.size ≤ vp1.heap.size := bw.size
        replace bw := bl_alloc bw (.cells #[.bool false, .slice none 0 0, .int .i64 0] 25)
        clear bN
        try simp only [Act.put, List.setIfInBounds_toArray, List.set_cons_zero, List.set_cons_succ]
        generalize vp1.alloc (.cells #[.bool false, .slice none 0 0, .int .i64 0] 25) = vp4 at *
        refine wpAnyH_ready (rs := [4]) (by kernel_rfl) (by simp) ?_
        refine (AllReadyH.cons rfl (fun K hK => ?_) (AllReadyH.nil))
        · go_simp
          refine Calls.mono (HB.out _ _ _ _ _ (IsW.keep I1 bw) hn1 hcp (hT0.kept bw)) ?_
          rintro r vp5 ⟨_, rfl, ⟨a2, n2, c2, rfl, -, hn2, hO2⟩, bN⟩
          have hO := hO2.low (B' := w3.heap.size) bw.size
          clear hO2
          refine hK.out _ _ (nbelow_trans bw bN) (fun _ => ?_)
          clear hK K
          replace bw := nbelow_trans bw bN
          replace X3 := dcarry_frozen bN X0 X3
          replace X4 := dcarry_frozen bN X1 X4
          replace X5 := dcarry_frozen bN X2 X5
          replace X0 := dcarry_cell bN X0
          replace X1 := dcarry_cell bN X1
          replace X2 := dcarry_cell bN X2
          clear bN
          try simp only [Act.put, List.setIfInBounds_toArray, List.set_cons_zero, List.set_cons_succ]
          refine wpAnyH_take (i := 5) (v := .tuple #[dyV P.1 a2 n2 c2 P.2.2, .int .i64 0]) rfl (by kernel_rfl) (by kernel_rfl) (by kernel_rfl) (fun _ _ _ h => h) (Or.inl ⟨by rfl, ?yp7⟩) bw ?rp7
          case yp7 => (intro ww hS; clear hS; go_simp; try with_reducible rfl)
          try simp only [Act.put, List.setIfInBounds_toArray, List.set_cons_zero, List.set_cons_succ]
          refine wpAnyH_take (i := 6) (v := dyV P.1 a2 n2 c2 P.2.2) rfl (by kernel_rfl) (by kernel_rfl) (by kernel_rfl) (fun _ _ _ h => h) (Or.inl ⟨by rfl, ?yp8⟩) bw ?rp8
          case yp8 => (intro ww hS; clear hS; go_simp; try with_reducible rfl)
          try simp only [Act.put, List.setIfInBounds_toArray, List.set_cons_zero, List.set_cons_succ]
          refine wpAnyH_take (i := 7) (v := .int .i64 0) rfl (by kernel_rfl) (by kernel_rfl) (by kernel_rfl) (fun _ _ _ h => h) (Or.inl ⟨by rfl, ?yp9⟩) bw ?rp9
          case yp9 => (intro ww hS; clear hS; go_simp; try with_reducible rfl)
          try simp only [Act.put, List.setIfInBounds_toArray, List.set_cons_zero, List.set_cons_succ]
          refine wpAnyH_ready (rs := [9]) (by kernel_rfl) (by simp) ?_
          refine (AllReadyH.cons rfl (fun K hK => ?_) (AllReadyH.nil))
          · go_simp
            have bS : Below w3.heap.size w3 (((vp5.setCell ⟨vp1.heap.size, 0, none⟩ (.bool P.1)).setCell ⟨vp1.heap.size, 1, none⟩ (.slice a2 n2 c2)).setCell ⟨vp1.heap.size, 2, none⟩ (.int .i64 P.2.2)) := ((bw.setCell XL _).setCell XL _).setCell XL _
            refine hK.out _ _ bS (fun _ => ?_)
            clear hK K
            replace hO := hO.set_dy _ _ _ _ _ _ (.bool P.1) (.slice a2 n2 c2) (.int .i64 P.2.2) X0 X1 X2
            obtain ⟨Z0, Z1, Z2⟩ := set3_same (r := vp1.heap.size) (v0 := .bool P.1) (v1 := .slice a2 n2 c2) (v2 := .int .i64 P.2.2) X0 X1 X2
            clear X0 X1 X2 X3 X4 X5 bw
            try simp only [Act.put, List.setIfInBounds_toArray, List.set_cons_zero, List.set_cons_succ]
            generalize (((vp5.setCell ⟨vp1.heap.size, 0, none⟩ (.bool P.1)).setCell ⟨vp1.heap.size, 1, none⟩ (.slice a2 n2 c2)).setCell ⟨vp1.heap.size, 2, none⟩ (.int .i64 P.2.2)) = vE at *
            have bw := bS
            clear bS
            refine wpAnyH_ready (rs := [10]) (by kernel_rfl) (by simp) ?_
            refine (AllReadyH.cons rfl (fun K hK => ?_) (AllReadyH.nil))
            · go_simp
              refine hK.out _ _ bw (fun _ => ?_)
              clear hK K
              try simp only [Act.put, List.setIfInBounds_toArray, List.set_cons_zero, List.set_cons_succ]
              refine wpAnyH_done (by kernel_rfl) ?_ _
              go_wp2_with fail
              go_meet
              case rel => exact ⟨_, rfl, rfl, a2, n2, c2, Z0, Z1, Z2, hn2, hO.1, bw⟩
    · go_simp
      refine hK.out _ _ (bl_alloc bw _) (fun _ => ?_)
      clear hK K
      have bN := below_one wd (.cells #[.bool false, .slice none 0 0, .int .i64 0] 25)
      obtain ⟨X0, X1, X2, X3, X4, X5⟩ := zero_dy (w := wd) (r := wd.heap.size) (W' := wd.alloc (.cells #[.bool false, .slice none 0 0, .int .i64 0] 25)) (Below.refl _ _) rfl
      have XL : w3.heap.size ≤ wd.heap.size := bw.size
      replace bw := bl_alloc bw (.cells #[.bool false, .slice none 0 0, .int .i64 0] 25)
      clear bN
      try simp only [Act.put, List.setIfInBounds_toArray, List.set_cons_zero, List.set_cons_succ]
      generalize wd.alloc (.cells #[.bool false, .slice none 0 0, .int .i64 0] 25) = vp6 at *
      refine wpAnyH_ready (rs := [3]) (by kernel_rfl) (by simp) ?_
      refine (AllReadyH.cons rfl (fun K hK => ?_) (AllReadyH.nil))
      · go_simp
        refine Calls.mono (HP.out _) ?_
        rintro r vp7 ⟨bp, rfl, hcp, bN⟩
        refine hK.out _ _ (nbelow_trans bw bN) (fun _ => ?_)
        clear hK K
        replace bw := nbelow_trans bw bN
        replace X3 := dcarry_frozen bN X0 X3
        replace X4 := dcarry_frozen bN X1 X4
        replace X5 := dcarry_frozen bN X2 X5
        replace X0 := dcarry_cell bN X0
        replace X1 := dcarry_cell bN X1
        replace X2 := dcarry_cell bN X2
        clear bN
        try simp only [Act.put, List.setIfInBounds_toArray, List.set_cons_zero, List.set_cons_succ]
        refine wpAnyH_ready (rs := [4]) (by kernel_rfl) (by simp) ?_
        refine (AllReadyH.cons rfl (fun K hK => ?_) (AllReadyH.nil))
        · go_simp
          refine Calls.mono (HB.out _ _ _ _ _ (IsW.keep I1 bw) hn1 hcp (hT0.kept bw)) ?_
          rintro r vp8 ⟨_, rfl, ⟨a2, n2, c2, rfl, -, hn2, hO2⟩, bN⟩
          have hO := hO2.low (B' := w3.heap.size) bw.size
          clear hO2
          refine hK.out _ _ (nbelow_trans bw bN) (fun _ => ?_)
          clear hK K
          replace bw := nbelow_trans bw bN
          replace X3 := dcarry_frozen bN X0 X3
          replace X4 := dcarry_frozen bN X1 X4
          replace X5 := dcarry_frozen bN X2 X5
          replace X0 := dcarry_cell bN X0
          replace X1 := dcarry_cell bN X1
          replace X2 := dcarry_cell bN X2
          clear bN
          try simp only [Act.put, List.setIfInBounds_toArray, List.set_cons_zero, List.set_cons_succ]
          refine wpAnyH_take (i := 5) (v := .tuple #[dyV P.1 a2 n2 c2 P.2.2, .int .i64 0]) rfl (by kernel_rfl) (by kernel_rfl) (by kernel_rfl) (fun _ _ _ h => h) (Or.inl ⟨by rfl, ?yp10⟩) bw ?rp10
          case yp10 => (intro ww hS; clear hS; go_simp; try with_reducible rfl)
          try simp only [Act.put, List.setIfInBounds_toArray, List.set_cons_zero, List.set_cons_succ]
          refine wpAnyH_take (i := 6) (v := dyV P.1 a2 n2 c2 P.2.2) rfl (by kernel_rfl) (by kernel_rfl) (by kernel_rfl) (fun _ _ _ h => h) (Or.inl ⟨by rfl, ?yp11⟩) bw ?rp11
          case yp11 => (intro ww hS; clear hS; go_simp; try with_reducible rfl)
          try simp only [Act.put, List.setIfInBounds_toArray, List.set_cons_zero, List.set_cons_succ]
          refine wpAnyH_take (i := 7) (v := .int .i64 0) rfl (by kernel_rfl) (by kernel_rfl) (by kernel_rfl) (fun _ _ _ h => h) (Or.inl ⟨by rfl, ?yp12⟩) bw ?rp12
          case yp12 => (intro ww hS; clear hS; go_simp; try with_reducible rfl)
          try simp only [Act.put, List.setIfInBounds_toArray, List.set_cons_zero, List.set_cons_succ]
          refine wpAnyH_ready (rs := [9]) (by kernel_rfl) (by simp) ?_
          refine (AllReadyH.cons rfl (fun K hK => ?_) (AllReadyH.nil))
          · go_simp
            have bS : Below w3.heap.size w3 (((vp8.setCell ⟨wd.heap.size, 0, none⟩ (.bool P.1)).setCell ⟨wd.heap.size, 1, none⟩ (.slice a2 n2 c2)).setCell ⟨wd.heap.size, 2, none⟩ (.int .i64 P.2.2)) := ((bw.setCell XL _).setCell XL _).setCell XL _
            refine hK.out _ _ bS (fun _ => ?_)
            clear hK K
            replace hO := hO.set_dy _ _ _ _ _ _ (.bool P.1) (.slice a2 n2 c2) (.int .i64 P.2.2) X0 X1 X2
            obtain ⟨Z0, Z1, Z2⟩ := set3_same (r := wd.heap.size) (v0 := .bool P.1) (v1 := .slice a2 n2 c2) (v2 := .int .i64 P.2.2) X0 X1 X2
            clear X0 X1 X2 X3 X4 X5 bw
            try simp only [Act.put, List.setIfInBounds_toArray, List.set_cons_zero, List.set_cons_succ]
            generalize (((vp8.setCell ⟨wd.heap.size, 0, none⟩ (.bool P.1)).setCell ⟨wd.heap.size, 1, none⟩ (.slice a2 n2 c2)).setCell ⟨wd.heap.size, 2, none⟩ (.int .i64 P.2.2)) = vE at *
            have bw := bS
            clear bS
            refine wpAnyH_ready (rs := [10]) (by kernel_rfl) (by simp) ?_
            refine (AllReadyH.cons rfl (fun K hK => ?_) (AllReadyH.nil))
            · go_simp
              refine hK.out _ _ bw (fun _ => ?_)
              clear hK K
              try simp only [Act.put, List.setIfInBounds_toArray, List.set_cons_zero, List.set_cons_succ]
              refine wpAnyH_done (by kernel_rfl) ?_ _
              go_wp2_with fail
              go_meet
              case rel => exact ⟨_, rfl, rfl, a2, n2, c2, Z0, Z1, Z2, hn2, hO.1, bw⟩
  case rest =>
  obtain ⟨w4, hwc⟩ : ∃ w9 : World, w9 = wc := ⟨_, rfl⟩
  subst hwc
  obtain ⟨Xp, rfl, rfl, ap, np, cp, p0, p1, p2, hnp, Ip, bN⟩ := hcut
  replace m0 := dcarry_cell bN m0
  replace m1 := dcarry_cell bN m1
  replace m2 := dcarry_cell bN m2
  replace I1 := IsW.keep I1 bN
  replace hT0 := hT0.kept bN
  replace bW := nbelow_trans bW bN
  clear bN
  go_upto_region 9 with fail
  go_cut [9, 10] from 48 to 55 (fun va vb wx => ∃ X : Nat, va = .pointer (some ⟨X, 0, none⟩) ∧ vb = .int .i64 0 ∧ PtR w4 wx X Q)
  case first =>
    have bw : Below w4.heap.size w4 w4.drew := (Below.refl _ _).drew
    refine wp_region_held (S := fun w' => Below w4.heap.size w4 w') (by kernel_rfl) ?_
    change wpAnyH _ _ _ _ _ _ _ _ (World.drew w4)
    generalize World.drew w4 = wd at bw ⊢
    refine wpAnyH_take (i := 0) (v := .agg #[.bool M.1, .slice a1 n1 c1, .int .i64 M.2.2]) rfl (by kernel_rfl) (by kernel_rfl) (by kernel_rfl) (fun _ _ _ h => h) (Or.inl ⟨by rfl, ?yq1⟩) bw ?rq1
    case yq1 => (intro ww hS; have qm0 := dcarry_cell hS m0; have qm1 := dcarry_cell hS m1; have qm2 := dcarry_cell hS m2; clear hS; go_simp; try with_reducible rfl)
    try simp only [Act.put, List.setIfInBounds_toArray, List.set_cons_zero, List.set_cons_succ]
    refine wpAnyH_take (i := 1) (v := .int .i64 n) rfl (by kernel_rfl) (by kernel_rfl) (by kernel_rfl) (fun _ _ _ h => h) (Or.inl ⟨by rfl, ?yq2⟩) bw ?rq2
    case yq2 => (intro ww hS; clear hS; go_simp; try with_reducible rfl)
    try simp only [Act.put, List.setIfInBounds_toArray, List.set_cons_zero, List.set_cons_succ]
    refine wpAnyH_take (i := 2) (v := .int .i64 (-n)) rfl (by kernel_rfl) (by kernel_rfl) (by kernel_rfl) (fun _ _ _ h => h) (Or.inl ⟨by rfl, ?yq3⟩) bw ?rq3
    case yq3 => (intro ww hS; clear hS; go_simp; try with_reducible rfl)
    try simp only [Act.put, List.setIfInBounds_toArray, List.set_cons_zero, List.set_cons_succ]
    refine wpAnyH_ready (rs := [3, 8]) (by kernel_rfl) (by simp) ?_
    refine (AllReadyH.cons rfl (fun K hK => ?_) (AllReadyH.cons rfl (fun K hK => ?_) (AllReadyH.nil)))
    · go_simp
      refine Calls.mono (HP.out _) ?_
      rintro r vq1 ⟨bp, rfl, hcp, bN⟩
      refine hK.out _ _ (nbelow_trans bw bN) (fun _ => ?_)
      clear hK K
      replace bw := nbelow_trans bw bN
      clear bN
      try simp only [Act.put, List.setIfInBounds_toArray, List.set_cons_zero, List.set_cons_succ]
      refine wpAnyH_ready (rs := [4, 8]) (by kernel_rfl) (by simp) ?_
      refine (AllReadyH.cons rfl (fun K hK => ?_) (AllReadyH.cons rfl (fun K hK => ?_) (AllReadyH.nil)))
      · go_simp
        refine Calls.mono (HA.out _ _ _ _ _ (IsW.keep I1 bw) hn1 hcp (hT0.kept bw)) ?_
        rintro r vq2 ⟨_, rfl, ⟨a2, n2, c2, rfl, -, hn2, hO2⟩, bN⟩
        have hO := hO2.low (B' := w4.heap.size) bw.size
        clear hO2
        refine hK.out _ _ (nbelow_trans bw bN) (fun _ => ?_)
        clear hK K
        replace bw := nbelow_trans bw bN
        clear bN
        try simp only [Act.put, List.setIfInBounds_toArray, List.set_cons_zero, List.set_cons_succ]
        refine wpAnyH_take (i := 5) (v := .tuple #[dyV Q.1 a2 n2 c2 Q.2.2, .int .i64 0]) rfl (by kernel_rfl) (by kernel_rfl) (by kernel_rfl) (fun _ _ _ h => h) (Or.inl ⟨by rfl, ?yq4⟩) bw ?rq4
        case yq4 => (intro ww hS; clear hS; go_simp; try with_reducible rfl)
        try simp only [Act.put, List.setIfInBounds_toArray, List.set_cons_zero, List.set_cons_succ]
        refine wpAnyH_take (i := 6) (v := dyV Q.1 a2 n2 c2 Q.2.2) rfl (by kernel_rfl) (by kernel_rfl) (by kernel_rfl) (fun _ _ _ h => h) (Or.inl ⟨by rfl, ?yq5⟩) bw ?rq5
        case yq5 => (intro ww hS; clear hS; go_simp; try with_reducible rfl)
        try simp only [Act.put, List.setIfInBounds_toArray, List.set_cons_zero, List.set_cons_succ]
        refine wpAnyH_take (i := 7) (v := .int .i64 0) rfl (by kernel_rfl) (by kernel_rfl) (by kernel_rfl) (fun _ _ _ h => h) (Or.inl ⟨by rfl, ?yq6⟩) bw ?rq6
        case yq6 => (intro ww hS; clear hS; go_simp; try with_reducible rfl)
        try simp only [Act.put, List.setIfInBounds_toArray, List.set_cons_zero, List.set_cons_succ]
        refine wpAnyH_ready (rs := [8]) (by kernel_rfl) (by simp) ?_
        refine (AllReadyH.cons rfl (fun K hK => ?_) (AllReadyH.nil))
        · go_simp
          refine hK.out _ _ (bl_alloc bw _) (fun _ => ?_)
          clear hK K
          have bN := below_one vq2 (.cells #[.bool false, .slice none 0 0, .int .i64 0] 25)
          replace hO := hO.keep bN
          obtain ⟨X0, X1, X2, X3, X4, X5⟩ := zero_dy (w := vq2) (r := vq2.heap.size) (W' := vq2.alloc (.cells #[.bool false, .slice none 0 0, .int .i64 0] 25)) (Below.refl _ _) rfl
          have XL : w4.heap.size ≤ vq2.heap.size := bw.size
          replace bw := bl_alloc bw (.cells #[.bool false, .slice none 0 0, .int .i64 0] 25)
          clear bN
          try simp only [Act.put, List.setIfInBounds_toArray, List.set_cons_zero, List.set_cons_succ]
          generalize vq2.alloc (.cells #[.bool false, .slice none 0 0, .int .i64 0] 25) = vq3 at *
          refine wpAnyH_ready (rs := [9]) (by kernel_rfl) (by simp) ?_
          refine (AllReadyH.cons rfl (fun K hK => ?_) (AllReadyH.nil))
          · go_simp
            have bS : Below w4.heap.size w4 (((vq3.setCell ⟨vq2.heap.size, 0, none⟩ (.bool Q.1)).setCell ⟨vq2.heap.size, 1, none⟩ (.slice a2 n2 c2)).setCell ⟨vq2.heap.size, 2, none⟩ (.int .i64 Q.2.2)) := ((bw.setCell XL _).setCell XL _).setCell XL _
            refine hK.out _ _ bS (fun _ => ?_)
            clear hK K
            replace hO := hO.set_dy _ _ _ _ _ _ (.bool Q.1) (.slice a2 n2 c2) (.int .i64 Q.2.2) X0 X1 X2
            obtain ⟨Z0, Z1, Z2⟩ := set3_same (r := vq2.heap.size) (v0 := .bool Q.1) (v1 := .slice a2 n2 c2) (v2 := .int .i64 Q.2.2) X0 X1 X2
            clear X0 X1 X2 X3 X4 X5 bw
            try simp only [Act.put, List.setIfInBounds_toArray, List.set_cons_zero, List.set_cons_succ]
            generalize (((vq3.setCell ⟨vq2.heap.size, 0, none⟩ (.bool Q.1)).setCell ⟨vq2.heap.size, 1, none⟩ (.slice a2 n2 c2)).setCell ⟨vq2.heap.size, 2, none⟩ (.int .i64 Q.2.2)) = vE at *
            have bw := bS
            clear bS
            refine wpAnyH_ready (rs := [10]) (by kernel_rfl) (by simp) ?_
            refine (AllReadyH.cons rfl (fun K hK => ?_) (AllReadyH.nil))
            · go_simp
              refine hK.out _ _ bw (fun _ => ?_)
              clear hK K
              try simp only [Act.put, List.setIfInBounds_toArray, List.set_cons_zero, List.set_cons_succ]
              refine wpAnyH_done (by kernel_rfl) ?_ _
              go_wp2_with fail
              go_meet
              case rel => exact ⟨_, rfl, rfl, a2, n2, c2, Z0, Z1, Z2, hn2, hO.1, bw⟩
      · go_simp
        refine hK.out _ _ (bl_alloc bw _) (fun _ => ?_)
        clear hK K
        have bN := below_one vq1 (.cells #[.bool false, .slice none 0 0, .int .i64 0] 25)
        replace hcp := dcarry_cell bN hcp
        obtain ⟨X0, X1, X2, X3, X4, X5⟩ := zero_dy (w := vq1) (r := vq1.heap.size) (W' := vq1.alloc (.cells #[.bool false, .slice none 0 0, .int .i64 0] 25)) (Below.refl _ _) rfl
        have XL : w4.heap.size ≤ vq1.heap.size := bw.size
        replace bw := bl_alloc bw (.cells #[.bool false, .slice none 0 0, .int .i64 0] 25)
        clear bN
        try simp only [Act.put, List.setIfInBounds_toArray, List.set_cons_zero, List.set_cons_succ]
        generalize vq1.alloc (.cells #[.bool false, .slice none 0 0, .int .i64 0] 25) = vq4 at *
        refine wpAnyH_ready (rs := [4]) (by kernel_rfl) (by simp) ?_
        refine (AllReadyH.cons rfl (fun K hK => ?_) (AllReadyH.nil))
        · go_simp
          refine Calls.mono (HA.out _ _ _ _ _ (IsW.keep I1 bw) hn1 hcp (hT0.kept bw)) ?_
          rintro r vq5 ⟨_, rfl, ⟨a2, n2, c2, rfl, -, hn2, hO2⟩, bN⟩
          have hO := hO2.low (B' := w4.heap.size) bw.size
          clear hO2
          refine hK.out _ _ (nbelow_trans bw bN) (fun _ => ?_)
          clear hK K
          replace bw := nbelow_trans bw bN
          replace X3 := dcarry_frozen bN X0 X3
          replace X4 := dcarry_frozen bN X1 X4
          replace X5 := dcarry_frozen bN X2 X5
          replace X0 := dcarry_cell bN X0
          replace X1 := dcarry_cell bN X1
          replace X2 := dcarry_cell bN X2
          clear bN
          try simp only [Act.put, List.setIfInBounds_toArray, List.set_cons_zero, List.set_cons_succ]
          refine wpAnyH_take (i := 5) (v := .tuple #[dyV Q.1 a2 n2 c2 Q.2.2, .int .i64 0]) rfl (by kernel_rfl) (by kernel_rfl) (by kernel_rfl) (fun _ _ _ h => h) (Or.inl ⟨by rfl, ?yq7⟩) bw ?rq7
          case yq7 => (intro ww hS; clear hS; go_simp; try with_reducible rfl)
          try simp only [Act.put, List.setIfInBounds_toArray, List.set_cons_zero, List.set_cons_succ]
          refine wpAnyH_take (i := 6) (v := dyV Q.1 a2 n2 c2 Q.2.2) rfl (by kernel_rfl) (by kernel_rfl) (by kernel_rfl) (fun _ _ _ h => h) (Or.inl ⟨by rfl, ?yq8⟩) bw ?rq8
          case yq8 => (intro ww hS; clear hS; go_simp; try with_reducible rfl)
          try simp only [Act.put, List.setIfInBounds_toArray, List.set_cons_zero, List.set_cons_succ]
          refine wpAnyH_take (i := 7) (v := .int .i64 0) rfl (by kernel_rfl) (by kernel_rfl) (by kernel_rfl) (fun _ _ _ h => h) (Or.inl ⟨by rfl, ?yq9⟩) bw ?rq9
          case yq9 => (intro ww hS; clear hS; go_simp; try with_reducible rfl)
          try simp only [Act.put, List.setIfInBounds_toArray, List.set_cons_zero, List.set_cons_succ]
          refine wpAnyH_ready (rs := [9]) (by kernel_rfl) (by simp) ?_
          refine (AllReadyH.cons rfl (fun K hK => ?_) (AllReadyH.nil))
          · go_simp
            have bS : Below w4.heap.size w4 (((vq5.setCell ⟨vq1.heap.size, 0, none⟩ (.bool Q.1)).setCell ⟨vq1.heap.size, 1, none⟩ (.slice a2 n2 c2)).setCell ⟨vq1.heap.size, 2, none⟩ (.int .i64 Q.2.2)) := ((bw.setCell XL _).setCell XL _).setCell XL _
            refine hK.out _ _ bS (fun _ => ?_)
            clear hK K
            replace hO := hO.set_dy _ _ _ _ _ _ (.bool Q.1) (.slice a2 n2 c2) (.int .i64 Q.2.2) X0 X1 X2
            obtain ⟨Z0, Z1, Z2⟩ := set3_same (r := vq1.heap.size) (v0 := .bool Q.1) (v1 := .slice a2 n2 c2) (v2 := .int .i64 Q.2.2) X0 X1 X2
            clear X0 X1 X2 X3 X4 X5 bw
            try simp only [Act.put, List.setIfInBounds_toArray, List.set_cons_zero, List.set_cons_succ]
            generalize (((vq5.setCell ⟨vq1.heap.size, 0, none⟩ (.bool Q.1)).setCell ⟨vq1.heap.size, 1, none⟩ (.slice a2 n2 c2)).setCell ⟨vq1.heap.size, 2, none⟩ (.int .i64 Q.2.2)) = vE at *
            have bw := bS
            clear bS
            refine wpAnyH_ready (rs := [10]) (by kernel_rfl) (by simp) ?_
            refine (AllReadyH.cons rfl (fun K hK => ?_) (AllReadyH.nil))
            · go_simp
              refine hK.out _ _ bw (fun _ => ?_)
              clear hK K
              try simp only [Act.put, List.setIfInBounds_toArray, List.set_cons_zero, List.set_cons_succ]
              refine wpAnyH_done (by kernel_rfl) ?_ _
              go_wp2_with fail
              go_meet
              case rel => exact ⟨_, rfl, rfl, a2, n2, c2, Z0, Z1, Z2, hn2, hO.1, bw⟩
    · go_simp
      refine hK.out _ _ (bl_alloc bw _) (fun _ => ?_)
      clear hK K
      have bN := below_one wd (.cells #[.bool false, .slice none 0 0, .int .i64 0] 25)
      obtain ⟨X0, X1, X2, X3, X4, X5⟩ := zero_dy (w := wd) (r := wd.heap.size) (W' := wd.alloc (.cells #[.bool false, .slice none 0 0, .int .i64 0] 25)) (Below.refl _ _) rfl
      have XL : w4.heap.size ≤ wd.heap.size := bw.size
      replace bw := bl_alloc bw (.cells #[.bool false, .slice none 0 0, .int .i64 0] 25)
      clear bN
      try simp only [Act.put, List.setIfInBounds_toArray, List.set_cons_zero, List.set_cons_succ]
      generalize wd.alloc (.cells #[.bool false, .slice none 0 0, .int .i64 0] 25) = vq6 at *
      refine wpAnyH_ready (rs := [3]) (by kernel_rfl) (by simp) ?_
      refine (AllReadyH.cons rfl (fun K hK => ?_) (AllReadyH.nil))
      · go_simp
        refine Calls.mono (HP.out _) ?_
        rintro r vq7 ⟨bp, rfl, hcp, bN⟩
        refine hK.out _ _ (nbelow_trans bw bN) (fun _ => ?_)
        clear hK K
        replace bw := nbelow_trans bw bN
        replace X3 := dcarry_frozen bN X0 X3
        replace X4 := dcarry_frozen bN X1 X4
        replace X5 := dcarry_frozen bN X2 X5
        replace X0 := dcarry_cell bN X0
        replace X1 := dcarry_cell bN X1
        replace X2 := dcarry_cell bN X2
        clear bN
        try simp only [Act.put, List.setIfInBounds_toArray, List.set_cons_zero, List.set_cons_succ]
        refine wpAnyH_ready (rs := [4]) (by kernel_rfl) (by simp) ?_
        refine (AllReadyH.cons rfl (fun K hK => ?_) (AllReadyH.nil))
        · go_simp
          refine Calls.mono (HA.out _ _ _ _ _ (IsW.keep I1 bw) hn1 hcp (hT0.kept bw)) ?_
          rintro r vq8 ⟨_, rfl, ⟨a2, n2, c2, rfl, -, hn2, hO2⟩, bN⟩
          have hO := hO2.low (B' := w4.heap.size) bw.size
          clear hO2
          refine hK.out _ _ (nbelow_trans bw bN) (fun _ => ?_)
          clear hK K
          replace bw := nbelow_trans bw bN
          replace X3 := dcarry_frozen bN X0 X3
          replace X4 := dcarry_frozen bN X1 X4
          replace X5 := dcarry_frozen bN X2 X5
          replace X0 := dcarry_cell bN X0
          replace X1 := dcarry_cell bN X1
          replace X2 := dcarry_cell bN X2
          clear bN
          try simp only [Act.put, List.setIfInBounds_toArray, List.set_cons_zero, List.set_cons_succ]
          refine wpAnyH_take (i := 5) (v := .tuple #[dyV Q.1 a2 n2 c2 Q.2.2, .int .i64 0]) rfl (by kernel_rfl) (by kernel_rfl) (by kernel_rfl) (fun _ _ _ h => h) (Or.inl ⟨by rfl, ?yq10⟩) bw ?rq10
          case yq10 => (intro ww hS; clear hS; go_simp; try with_reducible rfl)
          try simp only [Act.put, List.setIfInBounds_toArray, List.set_cons_zero, List.set_cons_succ]
          refine wpAnyH_take (i := 6) (v := dyV Q.1 a2 n2 c2 Q.2.2) rfl (by kernel_rfl) (by kernel_rfl) (by kernel_rfl) (fun _ _ _ h => h) (Or.inl ⟨by rfl, ?yq11⟩) bw ?rq11
          case yq11 => (intro ww hS; clear hS; go_simp; try with_reducible rfl)
          try simp only [Act.put, List.setIfInBounds_toArray, List.set_cons_zero, List.set_cons_succ]
          refine wpAnyH_take (i := 7) (v := .int .i64 0) rfl (by kernel_rfl) (by kernel_rfl) (by kernel_rfl) (fun _ _ _ h => h) (Or.inl ⟨by rfl, ?yq12⟩) bw ?rq12
          case yq12 => (intro ww hS; clear hS; go_simp; try with_reducible rfl)
          try simp only [Act.put, List.setIfInBounds_toArray, List.set_cons_zero, List.set_cons_succ]
          refine wpAnyH_ready (rs := [9]) (by kernel_rfl) (by simp) ?_
          refine (AllReadyH.cons rfl (fun K hK => ?_) (AllReadyH.nil))
          · go_simp
            have bS : Below w4.heap.size w4 (((vq8.setCell ⟨wd.heap.size, 0, none⟩ (.bool Q.1)).setCell ⟨wd.heap.size, 1, none⟩ (.slice a2 n2 c2)).setCell ⟨wd.heap.size, 2, none⟩ (.int .i64 Q.2.2)) := ((bw.setCell XL _).setCell XL _).setCell XL _
            refine hK.out _ _ bS (fun _ => ?_)
            clear hK K
            replace hO := hO.set_dy _ _ _ _ _ _ (.bool Q.1) (.slice a2 n2 c2) (.int .i64 Q.2.2) X0 X1 X2
            obtain ⟨Z0, Z1, Z2⟩ := set3_same (r := wd.heap.size) (v0 := .bool Q.1) (v1 := .slice a2 n2 c2) (v2 := .int .i64 Q.2.2) X0 X1 X2
            clear X0 X1 X2 X3 X4 X5 bw
            try simp only [Act.put, List.setIfInBounds_toArray, List.set_cons_zero, List.set_cons_succ]
            generalize (((vq8.setCell ⟨wd.heap.size, 0, none⟩ (.bool Q.1)).setCell ⟨wd.heap.size, 1, none⟩ (.slice a2 n2 c2)).setCell ⟨wd.heap.size, 2, none⟩ (.int .i64 Q.2.2)) = vE at *
            have bw := bS
            clear bS
            refine wpAnyH_ready (rs := [10]) (by kernel_rfl) (by simp) ?_
            refine (AllReadyH.cons rfl (fun K hK => ?_) (AllReadyH.nil))
            · go_simp
              refine hK.out _ _ bw (fun _ => ?_)
              clear hK K
              try simp only [Act.put, List.setIfInBounds_toArray, List.set_cons_zero, List.set_cons_succ]
              refine wpAnyH_done (by kernel_rfl) ?_ _
              go_wp2_with fail
              go_meet
              case rel => exact ⟨_, rfl, rfl, a2, n2, c2, Z0, Z1, Z2, hn2, hO.1, bw⟩
  case rest =>
  obtain ⟨w5, hwc⟩ : ∃ w9 : World, w9 = wc := ⟨_, rfl⟩
  subst hwc
  obtain ⟨Xq, rfl, rfl, aq, nq, cq, q0, q1, q2, hnq, Iq, bN⟩ := hcut
  replace m0 := dcarry_cell bN m0
  replace m1 := dcarry_cell bN m1
  replace m2 := dcarry_cell bN m2
  replace p0 := dcarry_cell bN p0
  replace p1 := dcarry_cell bN p1
  replace p2 := dcarry_cell bN p2
  replace I1 := IsW.keep I1 bN
  replace Ip := IsW.keep Ip bN
  replace hT0 := hT0.kept bN
  replace bW := nbelow_trans bW bN
  clear bN
  go_wp2_with fail
  have bA := bW
  clear bW
  refine Calls.mono (HN1.out _ _ _ _ Ip hnp hT0) ?_
  rintro r w6 ⟨rfl, bN⟩
  replace m0 := dcarry_cell bN m0
  replace m1 := dcarry_cell bN m1
  replace m2 := dcarry_cell bN m2
  replace p0 := dcarry_cell bN p0
  replace p1 := dcarry_cell bN p1
  replace p2 := dcarry_cell bN p2
  replace q0 := dcarry_cell bN q0
  replace q1 := dcarry_cell bN q1
  replace q2 := dcarry_cell bN q2
  replace I1 := IsW.keep I1 bN
  replace Ip := IsW.keep Ip bN
  replace Iq := IsW.keep Iq bN
  replace hT0 := hT0.kept bN
  replace bA := nbelow_trans bA bN
  clear bN
  have bB := below_one w6 (.cells #[.int .u64 0, .int .u8 fa] 29)
  have x0 : (w6.alloc (.cells #[.int .u64 0, .int .u8 fa] 29)).cell? ⟨w6.heap.size, 0, none⟩ = some (.int .u64 0) := by go_simp
  have x1 : (w6.alloc (.cells #[.int .u64 0, .int .u8 fa] 29)).cell? ⟨w6.heap.size, 1, none⟩ = some (.int .u8 fa) := by go_simp
  replace m0 := dcarry_cell bB m0
  replace m1 := dcarry_cell bB m1
  replace m2 := dcarry_cell bB m2
  replace p0 := dcarry_cell bB p0
  replace p1 := dcarry_cell bB p1
  replace p2 := dcarry_cell bB p2
  replace q0 := dcarry_cell bB q0
  replace q1 := dcarry_cell bB q1
  replace q2 := dcarry_cell bB q2
  replace I1 := IsW.keep I1 bB
  replace Ip := IsW.keep Ip bB
  replace Iq := IsW.keep Iq bB
  replace hT0 := hT0.kept bB
  replace bA := nbelow_trans bA bB
  clear bB
  go_wp2_with fail
  generalize (w6.alloc (.cells #[.int .u64 0, .int .u8 fa] 29)) = w7 at *
  refine Calls.mono (HN2.out _ _ _ _ Iq hnq hT0) ?_
  rintro r w8 ⟨rfl, bN⟩
  replace m0 := dcarry_cell bN m0
  replace m1 := dcarry_cell bN m1
  replace m2 := dcarry_cell bN m2
  replace p0 := dcarry_cell bN p0
  replace p1 := dcarry_cell bN p1
  replace p2 := dcarry_cell bN p2
  replace q0 := dcarry_cell bN q0
  replace q1 := dcarry_cell bN q1
  replace q2 := dcarry_cell bN q2
  replace x0 := dcarry_cell bN x0
  replace x1 := dcarry_cell bN x1
  replace I1 := IsW.keep I1 bN
  replace Ip := IsW.keep Ip bN
  replace Iq := IsW.keep Iq bN
  replace hT0 := hT0.kept bN
  replace bA := nbelow_trans bA bN
  clear bN
  have bB := below_one w8 (.cells #[.int .u64 b, .int .u8 fb] 29)
  have y0 : (w8.alloc (.cells #[.int .u64 b, .int .u8 fb] 29)).cell? ⟨w8.heap.size, 0, none⟩ = some (.int .u64 b) := by go_simp
  have y1 : (w8.alloc (.cells #[.int .u64 b, .int .u8 fb] 29)).cell? ⟨w8.heap.size, 1, none⟩ = some (.int .u8 fb) := by go_simp
  replace m0 := dcarry_cell bB m0
  replace m1 := dcarry_cell bB m1
  replace m2 := dcarry_cell bB m2
  replace p0 := dcarry_cell bB p0
  replace p1 := dcarry_cell bB p1
  replace p2 := dcarry_cell bB p2
  replace q0 := dcarry_cell bB q0
  replace q1 := dcarry_cell bB q1
  replace q2 := dcarry_cell bB q2
  replace x0 := dcarry_cell bB x0
  replace x1 := dcarry_cell bB x1
  replace I1 := IsW.keep I1 bB
  replace Ip := IsW.keep Ip bB
  replace Iq := IsW.keep Iq bB
  replace hT0 := hT0.kept bB
  replace bA := nbelow_trans bA bB
  clear bB
  go_wp2_with fail
  generalize (w8.alloc (.cells #[.int .u64 b, .int .u8 fb] 29)) = w9 at *
  refine Calls.mono (HN3.out _ _ _ _ I1 hn1 hT0) ?_
  rintro r w10 ⟨rfl, bN⟩
  replace m0 := dcarry_cell bN m0
  replace m1 := dcarry_cell bN m1
  replace m2 := dcarry_cell bN m2
  replace p0 := dcarry_cell bN p0
  replace p1 := dcarry_cell bN p1
  replace p2 := dcarry_cell bN p2
  replace q0 := dcarry_cell bN q0
  replace q1 := dcarry_cell bN q1
  replace q2 := dcarry_cell bN q2
  replace x0 := dcarry_cell bN x0
  replace x1 := dcarry_cell bN x1
  replace y0 := dcarry_cell bN y0
  replace y1 := dcarry_cell bN y1
  replace I1 := IsW.keep I1 bN
  replace Ip := IsW.keep Ip bN
  replace Iq := IsW.keep Iq bN
  replace hT0 := hT0.kept bN
  replace bA := nbelow_trans bA bN
  clear bN
  have bB := below_one w10 (.cells #[.int .u64 c, .int .u8 fc] 29)
  have z0 : (w10.alloc (.cells #[.int .u64 c, .int .u8 fc] 29)).cell? ⟨w10.heap.size, 0, none⟩ = some (.int .u64 c) := by go_simp
  have z1 : (w10.alloc (.cells #[.int .u64 c, .int .u8 fc] 29)).cell? ⟨w10.heap.size, 1, none⟩ = some (.int .u8 fc) := by go_simp
  replace m0 := dcarry_cell bB m0
  replace m1 := dcarry_cell bB m1
  replace m2 := dcarry_cell bB m2
  replace p0 := dcarry_cell bB p0
  replace p1 := dcarry_cell bB p1
  replace p2 := dcarry_cell bB p2
  replace q0 := dcarry_cell bB q0
  replace q1 := dcarry_cell bB q1
  replace q2 := dcarry_cell bB q2
  replace x0 := dcarry_cell bB x0
  replace x1 := dcarry_cell bB x1
  replace y0 := dcarry_cell bB y0
  replace y1 := dcarry_cell bB y1
  replace I1 := IsW.keep I1 bB
  replace Ip := IsW.keep Ip bB
  replace Iq := IsW.keep Iq bB
  replace hT0 := hT0.kept bB
  replace bA := nbelow_trans bA bB
  clear bB
  go_wp2_with fail
  generalize (w10.alloc (.cells #[.int .u64 c, .int .u8 fc] 29)) = w11 at *
  refine Calls.mono (HU.out _) ?_
  rintro r wx ⟨rfl, rfl⟩
  go_wp2_with fail
  refine Calls.mono (HC1.out _) ?_
  rintro r w12 ⟨rfl, bN⟩
  replace m0 := dcarry_cell bN m0
  replace m1 := dcarry_cell bN m1
  replace m2 := dcarry_cell bN m2
  replace p0 := dcarry_cell bN p0
  replace p1 := dcarry_cell bN p1
  replace p2 := dcarry_cell bN p2
  replace q0 := dcarry_cell bN q0
  replace q1 := dcarry_cell bN q1
  replace q2 := dcarry_cell bN q2
  replace x0 := dcarry_cell bN x0
  replace x1 := dcarry_cell bN x1
  replace y0 := dcarry_cell bN y0
  replace y1 := dcarry_cell bN y1
  replace z0 := dcarry_cell bN z0
  replace z1 := dcarry_cell bN z1
  replace I1 := IsW.keep I1 bN
  replace Ip := IsW.keep Ip bN
  replace Iq := IsW.keep Iq bN
  replace hT0 := hT0.kept bN
  replace bA := nbelow_trans bA bN
  clear bN
  go_wp2_with fail
  refine Calls.mono (HC2.out _) ?_
  rintro r w13 ⟨rfl, bN⟩
  replace m0 := dcarry_cell bN m0
  replace m1 := dcarry_cell bN m1
  replace m2 := dcarry_cell bN m2
  replace p0 := dcarry_cell bN p0
  replace p1 := dcarry_cell bN p1
  replace p2 := dcarry_cell bN p2
  replace q0 := dcarry_cell bN q0
  replace q1 := dcarry_cell bN q1
  replace q2 := dcarry_cell bN q2
  replace x0 := dcarry_cell bN x0
  replace x1 := dcarry_cell bN x1
  replace y0 := dcarry_cell bN y0
  replace y1 := dcarry_cell bN y1
  replace z0 := dcarry_cell bN z0
  replace z1 := dcarry_cell bN z1
  replace I1 := IsW.keep I1 bN
  replace Ip := IsW.keep Ip bN
  replace Iq := IsW.keep Iq bN
  replace hT0 := hT0.kept bN
  replace bA := nbelow_trans bA bN
  clear bN
  go_wp2_with fail
  all_goals first
    | exact absurd (tb.out ‹c = b›) ‹¬ b.tmod 2 = 0›
    | (go_ret; first | exact ⟨rfl, bA⟩ | exact ⟨by rw [fl], bA⟩)

end Go.Proofs.YtiipjkkfaplhnaaDoor

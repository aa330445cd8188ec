/- The document's Decide. -/
import Derived.Test.YtognliaoonkmiaaGreatDoorRC2
import Derived.Test.YtognliaoonkmiaaGreatDoorRNA
import Derived.Test.YtognliaoonkmiaaGreatDoorFX
namespace Go.Proofs.YtognliaoonkmiaaGreatDoor
open Go.RowKit

theorem tiny_or (m : Nat) (e : Int) (he : -32768 ≤ e) : tinyP m e = (tinyQ m e || ((blen m : Int) == 0)) := by
  rw [tiny_both m e he]
  by_cases h0 : m = 0
  · obtain ⟨K, hK⟩ : ∃ K : Nat, K = 32768 := ⟨_, rfl⟩
    rw [tiny_num m e K (by omega) he, h0, Nat.zero_mul, blen_zero, decide_eq_true (Nat.mul_pos (by decide) (Nat.two_pow_pos _))]
    rfl
  · have hb : blen m ≠ 0 := fun q => h0 ((blen_nil _).1 q)
    have : ((blen m : Int) == 0) = false := by simp; omega
    rw [this, decide_eq_true h0]
    simp
theorem inf_not (s : Bool) (m : Nat) (e : Int) (he : -32768 ≤ e) (h : absV (nearB s m e) = 9218868437227405312) : tinyP m e = false := by
  rw [abs_near] at h
  have h0 : m ≠ 0 := fun q => by rw [q] at h; unfold nearW at h; rw [if_pos rfl] at h; cases h
  rw [tiny_same m e he h0]
  exact inf_tiny m e h
theorem zero_rs (w : World) : (w.alloc (.cells #[.int .u64 0, .int .u8 0] 31)).cell? ⟨w.heap.size, 0, none⟩ = some (.int .u64 0) ∧ (w.alloc (.cells #[.int .u64 0, .int .u8 0] 31)).cell? ⟨w.heap.size, 1, none⟩ = some (.int .u8 0) ∧ (w.alloc (.cells #[.int .u64 0, .int .u8 0] 31)).frozen? ⟨w.heap.size, 0, none⟩ = false ∧ (w.alloc (.cells #[.int .u64 0, .int .u8 0] 31)).frozen? ⟨w.heap.size, 1, none⟩ = false := ⟨by go_simp, by go_simp, by go_simp, by go_simp⟩
theorem set2_cell {W : World} {b o r : Nat} {v0 v1 x : Value} (h : W.cell? ⟨b, o, none⟩ = some x) (hne : b ≠ r) : ((W.setCell ⟨r, 0, none⟩ v0).setCell ⟨r, 1, none⟩ v1).cell? ⟨b, o, none⟩ = some x := by
  have key : ∀ (V : World) (k : Nat) (v : Value), V.cell? ⟨b, o, none⟩ = some x → (V.setCell ⟨r, k, none⟩ v).cell? ⟨b, o, none⟩ = some x := fun V k v q =>
    (World.cell?_setCell_other V _ _ _ (fun e => by have := congrArg Addr.block e; simp at this; omega)).trans q
  exact key _ _ _ (key _ _ _ h)
theorem set2_frozen {W : World} {p : Addr} {r : Nat} {v0 v1 : Value} (h : W.frozen? p = false) : ((W.setCell ⟨r, 0, none⟩ v0).setCell ⟨r, 1, none⟩ v1).frozen? p = false := by
  rw [World.frozen?_setCell, World.frozen?_setCell]; exact h
theorem set2_same {W : World} {r : Nat} {v0 v1 x0 x1 : Value} (h0 : W.cell? ⟨r, 0, none⟩ = some x0) (h1 : W.cell? ⟨r, 1, none⟩ = some x1) :
    ((W.setCell ⟨r, 0, none⟩ v0).setCell ⟨r, 1, none⟩ v1).cell? ⟨r, 0, none⟩ = some v0 ∧ ((W.setCell ⟨r, 0, none⟩ v0).setCell ⟨r, 1, none⟩ v1).cell? ⟨r, 1, none⟩ = some v1 := by
  refine ⟨?_, ?_⟩ <;> simp [World.cell?_setCell_other, go_sem, h0, h1]

set_option maxRecDepth 100000 in
set_option maxHeartbeats 8000000 in
theorem qdec_x (s : Bool) (a : Option Addr) (len cap : Nat) (xs : List Int) (e : Int) (s' : Bool) (a' : Option Addr) (len' cap' : Nat) (ys : List Int) (e' : Int) (w : World) (h : IsW w a len cap xs) (hm : len ≤ 17592186044000) (h' : IsW w a' len' cap' ys) (hm' : len' ≤ 17592186044000) (hr : rtB s (val xs) e s' (val ys) e' = false) :
    Calls Tryz.prog 6 #[ivV s a len cap e s' a' len' cap' e'] w fun r w' => r = .returned (.tuple #[.agg #[.int .u64 0, .int .u8 0], .bool false, .int .i64 2]) ∧ Below w.heap.size w w' := by
  have HR : Hid _ := fun w' (g : IsW w' a len cap xs) (g' : IsW w' a' len' cap' ys) => qwrong_calls s a len cap xs e s' a' len' cap' ys e' w' g hm g' hm'
  rw [show dcE s (val xs) e s' (val ys) e' = 2 by unfold dcE; rw [hr]; rfl] at HR
  clear hr
  have bA : Below w.heap.size w ((w.alloc (.cells #[.bool s, .slice a len cap, .int .i64 e, .bool s', .slice a' len' cap', .int .i64 e'] 27)).alloc (.cells #[.int .u64 0, .int .u8 0] 31)) := nT (below_one _ _) (below_one _ _)
  have hI := h.keep bA
  have hJ := h'.keep bA
  obtain ⟨c0, c1, c2, c3, c4, c5, z0, z1, f0, f1⟩ := fX7 w s a len cap e s' a' len' cap' e'
  clear h h'
  go_enter Tryz.func6, Tryz.ntmps6
  go_wp2_with fail
  generalize ((w.alloc (.cells #[.bool s, .slice a len cap, .int .i64 e, .bool s', .slice a' len' cap', .int .i64 e'] 27)).alloc (.cells #[.int .u64 0, .int .u8 0] 31)) = wa at *
  refine Calls.mono (HR.out _ hI hJ) ?_
  rintro r w0 ⟨rfl, bN⟩
  replace f0 := kF bN z0 f0
  replace f1 := kF bN z1 f1
  replace c0 := kC bN c0
  replace c1 := kC bN c1
  replace c2 := kC bN c2
  replace c3 := kC bN c3
  replace c4 := kC bN c4
  replace c5 := kC bN c5
  replace z0 := kC bN z0
  replace z1 := kC bN z1
  replace hI := IsW.keep hI bN
  replace hJ := IsW.keep hJ bN
  replace bA := nT bA bN
  clear bN
  go_wp2_with fail
  exact bodyPost_ret (v := .tuple #[.agg #[.int .u64 0, .int .u8 0], .bool false, .int .i64 2]) (by simp [results, Tryz.results6, go_sem, z0, z1]) rfl ⟨rfl, by repeat (first | with_reducible exact bA | refine Below.setCell ?_ (by simp) _ | refine Below.alloc ?_ (by have := bA.size; simp at this ⊢; omega) _)⟩

set_option maxRecDepth 100000 in
set_option maxHeartbeats 8000000 in
theorem qdec_r (s : Bool) (a : Option Addr) (len cap : Nat) (xs : List Int) (e : Int) (s' : Bool) (a' : Option Addr) (len' cap' : Nat) (ys : List Int) (e' : Int) (w : World) (h : IsW w a len cap xs) (hm : len ≤ 17592186044000) (h' : IsW w a' len' cap' ys) (hm' : len' ≤ 17592186044000) (hr : rtB s (val xs) e s' (val ys) e' = true) :
    Calls Tryz.prog 6 #[ivV s a len cap e s' a' len' cap' e'] w fun r w' => r = .returned (.tuple #[.agg #[.int .u64 (dcN s (val xs) e s' (val ys) e'), .int .u8 (dcF s (val xs) e s' (val ys) e')], .bool (dcB s (val xs) e s' (val ys) e'), .int .i64 (dcE s (val xs) e s' (val ys) e')]) ∧ Below w.heap.size w w' := by
  have HR : Hid _ := fun w' (g : IsW w' a len cap xs) (g' : IsW w' a' len' cap' ys) => qwrong_calls s a len cap xs e s' a' len' cap' ys e' w' g hm g' hm'
  have o1 : bits .or .u8 16 4 = 20 := by decide +kernel
  have o2 : bits .or .u8 16 8 = 24 := by decide +kernel
  obtain ⟨r1, r2, hc0⟩ := rt_open hr
  have e2 : dcE s (val xs) e s' (val ys) e' = 0 := by unfold dcE; rw [hr]; rfl
  rw [e2] at HR
  have HF : Hid (dcB s (val xs) e s' (val ys) e' = (decide (nearB s (val xs) e = nearB s' (val ys) e') && (tinyP (val xs) e == tinyP (val ys) e'))) := by rw [Hid]; unfold dcB; rw [hr, Bool.true_and]
  have HF1 : Hid (dcN s (val xs) e s' (val ys) e' = if dcB s (val xs) e s' (val ys) e' = true then nearB s (val xs) e else 0) := by rw [Hid]; rfl
  have HF2 : Hid (dcF s (val xs) e s' (val ys) e' = if dcB s (val xs) e s' (val ys) e' = true then inxF (nearB s (val xs) e) (tinyP (val xs) e) else 0) := by rw [Hid]; rfl
  rw [e2]
  have b1 := (rightB_yes r1)
  have b2 := (rightB_yes r2)
  have HN1 : Hid _ := fun w' (g : IsW w' a len cap xs) => dnear_calls s a len cap xs e w' g hm b1.1 b1.2
  have HN2 : Hid _ := fun w' (g : IsW w' a' len' cap' ys) => dnear_calls s' a' len' cap' ys e' w' g hm' b2.1 b2.2
  have HT1 : Hid _ := fun w' (g : IsW w' a len cap xs) => rtiny_calls s a len cap xs e w' g hm b1.1 b1.2
  have HT2 : Hid _ := fun w' (g : IsW w' a' len' cap' ys) => rtiny_calls s' a' len' cap' ys e' w' g hm' b2.1 b2.2
  have HL1 : Hid _ := fun w' (g : IsW w' a len cap xs) => nLen_calls a len cap xs w' g (by omega)
  have HL2 : Hid _ := fun w' (g : IsW w' a' len' cap' ys) => nLen_calls a' len' cap' ys w' g (by omega)
  have t1e : Hid _ := tiny_or (val xs) e b1.2.1
  have t2e : Hid _ := tiny_or (val ys) e' b2.2.1
  have hU := nearB_U s (val xs) e
  have HA : Hid _ := fun w' => rAbs_calls (nearB s (val xs) e) w' hU
  have HX : Hid (inxF (nearB s (val xs) e) (tinyP (val xs) e) = if absV (nearB s (val xs) e) = 9218868437227405312 then (if tinyP (val xs) e = true then 28 else 20) else (if tinyP (val xs) e = true then 24 else 16)) := by rw [Hid]; rfl
  have HZ : Hid (absV (nearB s (val xs) e) = 9218868437227405312 → tinyP (val xs) e = false) := fun q => inf_not s (val xs) e b1.2.1 q
  generalize inxF (nearB s (val xs) e) (tinyP (val xs) e) = fx at *
  generalize dcN s (val xs) e s' (val ys) e' = dn at *
  generalize dcF s (val xs) e s' (val ys) e' = df at *
  generalize dcB s (val xs) e s' (val ys) e' = db at *
  generalize nearB s (val xs) e = n1 at *
  generalize nearB s' (val ys) e' = n2 at *
  generalize flD (val xs) e = g1 at *
  generalize flD (val ys) e' = g2 at *
  generalize tinyP (val xs) e = t1 at *
  generalize tinyP (val ys) e' = t2 at *
  generalize tinyQ (val xs) e = q1 at *
  generalize tinyQ (val ys) e' = q2 at *
  generalize (blen (val xs) : Int) = k1 at *
  generalize (blen (val ys) : Int) = k2 at *
  generalize absV n1 = av at *
  clear hr r1 r2 hc0 b1 b2 e2 hU
  have bA : Below w.heap.size w ((w.alloc (.cells #[.bool s, .slice a len cap, .int .i64 e, .bool s', .slice a' len' cap', .int .i64 e'] 27)).alloc (.cells #[.int .u64 0, .int .u8 0] 31)) := nT (below_one _ _) (below_one _ _)
  have hI := h.keep bA
  have hJ := h'.keep bA
  obtain ⟨c0, c1, c2, c3, c4, c5, z0, z1, f0, f1⟩ := fX7 w s a len cap e s' a' len' cap' e'
  clear h h' hm hm'
  go_enter Tryz.func6, Tryz.ntmps6
  go_wp2_with fail
  generalize ((w.alloc (.cells #[.bool s, .slice a len cap, .int .i64 e, .bool s', .slice a' len' cap', .int .i64 e'] 27)).alloc (.cells #[.int .u64 0, .int .u8 0] 31)) = wa at *
  refine Calls.mono (HR.out _ hI hJ) ?_
  rintro r w0 ⟨rfl, bN⟩
  replace f0 := kF bN z0 f0
  replace f1 := kF bN z1 f1
  replace c0 := kC bN c0
  replace c1 := kC bN c1
  replace c2 := kC bN c2
  replace c3 := kC bN c3
  replace c4 := kC bN c4
  replace c5 := kC bN c5
  replace z0 := kC bN z0
  replace z1 := kC bN z1
  replace hI := IsW.keep hI bN
  replace hJ := IsW.keep hJ bN
  replace bA := nT bA bN
  clear bN
  clear HR
  go_upto_region 4 with fail
  have H1 : Hid _ := hI
  have H2 : Hid _ := hJ
  go_cut [6, 7] from 17 to 22 (fun v6 v7 wx => ∃ X Y : Nat, v6 = .pointer (some ⟨X, 0, none⟩) ∧ v7 = .pointer (some ⟨Y, 0, none⟩) ∧ wx.cell? ⟨X, 0, none⟩ = some (.int .u64 n1) ∧ wx.cell? ⟨Y, 0, none⟩ = some (.int .u64 n2) ∧ Below w0.heap.size w0 wx)
  case first =>
    have bw : Below w0.heap.size w0 w0.drew := (Below.refl _ _).drew
    refine wp_region_held (S := fun w' => Below w0.heap.size w0 w') (by kernel_rfl) ?_
    change wpAnyH _ _ _ _ _ _ _ _ (World.drew w0)
    generalize World.drew w0 = wd at *
    refine wpAnyH_take (i := 0) (v := .pointer (some ⟨w.heap.size, 0, none⟩)) rfl (by kernel_rfl) (by kernel_rfl) (by kernel_rfl) (fun _ _ _ h => h) (Or.inl ⟨by rfl, ?y0⟩) bw ?r0
    case y0 =>
      intro ww hS
      clear hS
      go_simp; try with_reducible rfl
    try simp only [Act.put, List.setIfInBounds_toArray]
    refine wpAnyH_take (i := 1) (v := dyV s a len cap e) rfl (by kernel_rfl) (by kernel_rfl) (by kernel_rfl) (fun _ _ _ h => h) (Or.inl ⟨by rfl, ?y1⟩) bw ?r1
    case y1 =>
      intro ww hS
      have q0 := kC hS c0
      have q1 := kC hS c1
      have q2 := kC hS c2
      clear hS
      go_simp; try with_reducible rfl
    try simp only [Act.put]
    refine wpAnyH_take (i := 3) (v := .pointer (some ⟨w.heap.size, 3, none⟩)) rfl (by kernel_rfl) (by kernel_rfl) (by kernel_rfl) (fun _ _ _ h => h) (Or.inl ⟨by rfl, ?y3⟩) bw ?r3
    case y3 =>
      intro ww hS
      clear hS
      go_simp; try with_reducible rfl
    try simp only [Act.put]
    refine wpAnyH_take (i := 4) (v := dyV s' a' len' cap' e') rfl (by kernel_rfl) (by kernel_rfl) (by kernel_rfl) (fun _ _ _ h => h) (Or.inl ⟨by rfl, ?y4⟩) bw ?r4
    case y4 =>
      intro ww hS
      have q3 := kC hS c3
      have q4 := kC hS c4
      have q5 := kC hS c5
      clear hS
      go_simp; try with_reducible rfl
    try simp only [Act.put]
    refine wpAnyH_ready (rs := [2, 6, 7]) (by kernel_rfl) (by simp) ?_
    refine AllReadyH.cons rfl (fun K hK => ?_) (AllReadyH.cons rfl (fun K hK => ?_) (AllReadyH.cons rfl (fun K hK => ?_) (AllReadyH.nil)))
    · go_simp
      refine Calls.mono (HN1.out _ (IsW.keep H1.out bw)) ?_
      rintro r v1 ⟨rfl, bN⟩
      refine hK.out _ _ (nT bw bN) (fun _ => ?_)
      clear hK K
      replace bw := nT bw bN
      clear bN
      try simp only [Act.put, List.setIfInBounds_toArray, List.set_cons_zero, List.set_cons_succ]
      refine wpAnyH_ready (rs := [5, 6, 7]) (by kernel_rfl) (by simp) ?_
      refine AllReadyH.cons rfl (fun K hK => ?_) (AllReadyH.cons rfl (fun K hK => ?_) (AllReadyH.cons rfl (fun K hK => ?_) (AllReadyH.nil)))
      · go_simp
        refine Calls.mono (HN2.out _ (IsW.keep H2.out bw)) ?_
        rintro r v2 ⟨rfl, bN⟩
        refine hK.out _ _ (nT bw bN) (fun _ => ?_)
        clear hK K
        replace bw := nT bw bN
        clear bN
        try simp only [Act.put, List.setIfInBounds_toArray, List.set_cons_zero, List.set_cons_succ]
        refine wpAnyH_ready (rs := [6, 7]) (by kernel_rfl) (by simp) ?_
        refine AllReadyH.cons rfl (fun K hK => ?_) (AllReadyH.cons rfl (fun K hK => ?_) (AllReadyH.nil))
        · go_simp
          refine hK.out _ _ (bl_alloc bw _) (fun _ => ?_)
          clear hK K
          have bN := below_one v2 (.cells #[.int .u64 0, .int .u8 0] 31)
          obtain ⟨X0, X1, X2, X3⟩ := zero_rs v2
          have XL : w0.heap.size ≤ v2.heap.size := bw.size
          replace bw := bl_alloc bw (.cells #[.int .u64 0, .int .u8 0] 31)
          clear bN
          try simp only [Act.put, List.setIfInBounds_toArray, List.set_cons_zero, List.set_cons_succ]
          generalize v2.alloc (.cells #[.int .u64 0, .int .u8 0] 31) = v3 at *
          refine wpAnyH_ready (rs := [7]) (by kernel_rfl) (by simp) ?_
          refine AllReadyH.cons rfl (fun K hK => ?_) (AllReadyH.nil)
          · go_simp
            refine hK.out _ _ (bl_alloc bw _) (fun _ => ?_)
            clear hK K
            have bN := below_one v3 (.cells #[.int .u64 0, .int .u8 0] 31)
            have ne1 : v2.heap.size ≠ v3.heap.size := Nat.ne_of_lt (World.block_lt_of_cell? _ _ X0)
            have ne2 := Ne.symm ne1
            replace X2 := kF bN X0 X2
            replace X3 := kF bN X1 X3
            replace X0 := kC bN X0
            replace X1 := kC bN X1
            obtain ⟨Y0, Y1, Y2, Y3⟩ := zero_rs v3
            have YL : w0.heap.size ≤ v3.heap.size := bw.size
            replace bw := bl_alloc bw (.cells #[.int .u64 0, .int .u8 0] 31)
            clear bN
            try simp only [Act.put, List.setIfInBounds_toArray, List.set_cons_zero, List.set_cons_succ]
            generalize v3.alloc (.cells #[.int .u64 0, .int .u8 0] 31) = v4 at *
            refine wpAnyH_ready (rs := [8]) (by kernel_rfl) (by simp) ?_
            refine AllReadyH.cons rfl (fun K hK => ?_) (AllReadyH.nil)
            · go_simp
              have bS : Below w0.heap.size w0 ((v4.setCell ⟨v2.heap.size, 0, none⟩ (.int .u64 n1)).setCell ⟨v2.heap.size, 1, none⟩ (.int .u8 g1)) := (bw.setCell XL _).setCell XL _
              refine hK.out _ _ bS (fun _ => ?_)
              clear hK K
              replace Y0 := set2_cell (v0 := (.int .u64 n1)) (v1 := (.int .u8 g1)) Y0 (r := v2.heap.size) (by first | exact ne1 | exact ne2)
              replace Y1 := set2_cell (v0 := (.int .u64 n1)) (v1 := (.int .u8 g1)) Y1 (r := v2.heap.size) (by first | exact ne1 | exact ne2)
              replace Y2 := set2_frozen (r := v2.heap.size) (v0 := (.int .u64 n1)) (v1 := (.int .u8 g1)) Y2
              replace Y3 := set2_frozen (r := v2.heap.size) (v0 := (.int .u64 n1)) (v1 := (.int .u8 g1)) Y3
              obtain ⟨Z0, Z1⟩ := set2_same (r := v2.heap.size) (v0 := (.int .u64 n1)) (v1 := (.int .u8 g1)) X0 X1
              clear X0 X1 X2 X3 bw
              try simp only [Act.put, List.setIfInBounds_toArray, List.set_cons_zero, List.set_cons_succ]
              generalize ((v4.setCell ⟨v2.heap.size, 0, none⟩ (.int .u64 n1)).setCell ⟨v2.heap.size, 1, none⟩ (.int .u8 g1)) = v5 at *
              have X0 := Z0
              have X1 := Z1
              have bw := bS
              clear Z0 Z1 bS
              refine wpAnyH_ready (rs := [9]) (by kernel_rfl) (by simp) ?_
              refine AllReadyH.cons rfl (fun K hK => ?_) (AllReadyH.nil)
              · go_simp
                have bS : Below w0.heap.size w0 ((v5.setCell ⟨v3.heap.size, 0, none⟩ (.int .u64 n2)).setCell ⟨v3.heap.size, 1, none⟩ (.int .u8 g2)) := (bw.setCell YL _).setCell YL _
                refine hK.out _ _ bS (fun _ => ?_)
                clear hK K
                replace X0 := set2_cell (v0 := (.int .u64 n2)) (v1 := (.int .u8 g2)) X0 (r := v3.heap.size) (by first | exact ne1 | exact ne2)
                replace X1 := set2_cell (v0 := (.int .u64 n2)) (v1 := (.int .u8 g2)) X1 (r := v3.heap.size) (by first | exact ne1 | exact ne2)
                obtain ⟨Z0, Z1⟩ := set2_same (r := v3.heap.size) (v0 := (.int .u64 n2)) (v1 := (.int .u8 g2)) Y0 Y1
                clear Y0 Y1 Y2 Y3 bw
                try simp only [Act.put, List.setIfInBounds_toArray, List.set_cons_zero, List.set_cons_succ]
                generalize ((v5.setCell ⟨v3.heap.size, 0, none⟩ (.int .u64 n2)).setCell ⟨v3.heap.size, 1, none⟩ (.int .u8 g2)) = v6 at *
                have Y0 := Z0
                have Y1 := Z1
                have bw := bS
                clear Z0 Z1 bS
                refine wpAnyH_done (by kernel_rfl) ?_ _
                go_wp2_with fail
                go_meet
                exact ⟨_, _, rfl, rfl, X0, Y0, bw⟩
        · go_simp
          refine hK.out _ _ (bl_alloc bw _) (fun _ => ?_)
          clear hK K
          have bN := below_one v2 (.cells #[.int .u64 0, .int .u8 0] 31)
          obtain ⟨Y0, Y1, Y2, Y3⟩ := zero_rs v2
          have YL : w0.heap.size ≤ v2.heap.size := bw.size
          replace bw := bl_alloc bw (.cells #[.int .u64 0, .int .u8 0] 31)
          clear bN
          try simp only [Act.put, List.setIfInBounds_toArray, List.set_cons_zero, List.set_cons_succ]
          generalize v2.alloc (.cells #[.int .u64 0, .int .u8 0] 31) = v7 at *
          refine wpAnyH_ready (rs := [6]) (by kernel_rfl) (by simp) ?_
          refine AllReadyH.cons rfl (fun K hK => ?_) (AllReadyH.nil)
          · go_simp
            refine hK.out _ _ (bl_alloc bw _) (fun _ => ?_)
            clear hK K
            have bN := below_one v7 (.cells #[.int .u64 0, .int .u8 0] 31)
            have ne1 : v2.heap.size ≠ v7.heap.size := Nat.ne_of_lt (World.block_lt_of_cell? _ _ Y0)
            have ne2 := Ne.symm ne1
            replace Y2 := kF bN Y0 Y2
            replace Y3 := kF bN Y1 Y3
            replace Y0 := kC bN Y0
            replace Y1 := kC bN Y1
            obtain ⟨X0, X1, X2, X3⟩ := zero_rs v7
            have XL : w0.heap.size ≤ v7.heap.size := bw.size
            replace bw := bl_alloc bw (.cells #[.int .u64 0, .int .u8 0] 31)
            clear bN
            try simp only [Act.put, List.setIfInBounds_toArray, List.set_cons_zero, List.set_cons_succ]
            generalize v7.alloc (.cells #[.int .u64 0, .int .u8 0] 31) = v8 at *
            refine wpAnyH_ready (rs := [8]) (by kernel_rfl) (by simp) ?_
            refine AllReadyH.cons rfl (fun K hK => ?_) (AllReadyH.nil)
            · go_simp
              have bS : Below w0.heap.size w0 ((v8.setCell ⟨v7.heap.size, 0, none⟩ (.int .u64 n1)).setCell ⟨v7.heap.size, 1, none⟩ (.int .u8 g1)) := (bw.setCell XL _).setCell XL _
              refine hK.out _ _ bS (fun _ => ?_)
              clear hK K
              replace Y0 := set2_cell (v0 := (.int .u64 n1)) (v1 := (.int .u8 g1)) Y0 (r := v7.heap.size) (by first | exact ne1 | exact ne2)
              replace Y1 := set2_cell (v0 := (.int .u64 n1)) (v1 := (.int .u8 g1)) Y1 (r := v7.heap.size) (by first | exact ne1 | exact ne2)
              replace Y2 := set2_frozen (r := v7.heap.size) (v0 := (.int .u64 n1)) (v1 := (.int .u8 g1)) Y2
              replace Y3 := set2_frozen (r := v7.heap.size) (v0 := (.int .u64 n1)) (v1 := (.int .u8 g1)) Y3
              obtain ⟨Z0, Z1⟩ := set2_same (r := v7.heap.size) (v0 := (.int .u64 n1)) (v1 := (.int .u8 g1)) X0 X1
              clear X0 X1 X2 X3 bw
              try simp only [Act.put, List.setIfInBounds_toArray, List.set_cons_zero, List.set_cons_succ]
              generalize ((v8.setCell ⟨v7.heap.size, 0, none⟩ (.int .u64 n1)).setCell ⟨v7.heap.size, 1, none⟩ (.int .u8 g1)) = v9 at *
              have X0 := Z0
              have X1 := Z1
              have bw := bS
              clear Z0 Z1 bS
              refine wpAnyH_ready (rs := [9]) (by kernel_rfl) (by simp) ?_
              refine AllReadyH.cons rfl (fun K hK => ?_) (AllReadyH.nil)
              · go_simp
                have bS : Below w0.heap.size w0 ((v9.setCell ⟨v2.heap.size, 0, none⟩ (.int .u64 n2)).setCell ⟨v2.heap.size, 1, none⟩ (.int .u8 g2)) := (bw.setCell YL _).setCell YL _
                refine hK.out _ _ bS (fun _ => ?_)
                clear hK K
                replace X0 := set2_cell (v0 := (.int .u64 n2)) (v1 := (.int .u8 g2)) X0 (r := v2.heap.size) (by first | exact ne1 | exact ne2)
                replace X1 := set2_cell (v0 := (.int .u64 n2)) (v1 := (.int .u8 g2)) X1 (r := v2.heap.size) (by first | exact ne1 | exact ne2)
                obtain ⟨Z0, Z1⟩ := set2_same (r := v2.heap.size) (v0 := (.int .u64 n2)) (v1 := (.int .u8 g2)) Y0 Y1
                clear Y0 Y1 Y2 Y3 bw
                try simp only [Act.put, List.setIfInBounds_toArray, List.set_cons_zero, List.set_cons_succ]
                generalize ((v9.setCell ⟨v2.heap.size, 0, none⟩ (.int .u64 n2)).setCell ⟨v2.heap.size, 1, none⟩ (.int .u8 g2)) = v10 at *
                have Y0 := Z0
                have Y1 := Z1
                have bw := bS
                clear Z0 Z1 bS
                refine wpAnyH_done (by kernel_rfl) ?_ _
                go_wp2_with fail
                go_meet
                exact ⟨_, _, rfl, rfl, X0, Y0, bw⟩
      · go_simp
        refine hK.out _ _ (bl_alloc bw _) (fun _ => ?_)
        clear hK K
        have bN := below_one v1 (.cells #[.int .u64 0, .int .u8 0] 31)
        obtain ⟨X0, X1, X2, X3⟩ := zero_rs v1
        have XL : w0.heap.size ≤ v1.heap.size := bw.size
        replace bw := bl_alloc bw (.cells #[.int .u64 0, .int .u8 0] 31)
        clear bN
        try simp only [Act.put, List.setIfInBounds_toArray, List.set_cons_zero, List.set_cons_succ]
        generalize v1.alloc (.cells #[.int .u64 0, .int .u8 0] 31) = v11 at *
        refine wpAnyH_ready (rs := [5, 7]) (by kernel_rfl) (by simp) ?_
        refine AllReadyH.cons rfl (fun K hK => ?_) (AllReadyH.cons rfl (fun K hK => ?_) (AllReadyH.nil))
        · go_simp
          refine Calls.mono (HN2.out _ (IsW.keep H2.out bw)) ?_
          rintro r v12 ⟨rfl, bN⟩
          refine hK.out _ _ (nT bw bN) (fun _ => ?_)
          clear hK K
          replace X2 := kF bN X0 X2
          replace X3 := kF bN X1 X3
          replace X0 := kC bN X0
          replace X1 := kC bN X1
          replace bw := nT bw bN
          clear bN
          try simp only [Act.put, List.setIfInBounds_toArray, List.set_cons_zero, List.set_cons_succ]
          refine wpAnyH_ready (rs := [7]) (by kernel_rfl) (by simp) ?_
          refine AllReadyH.cons rfl (fun K hK => ?_) (AllReadyH.nil)
          · go_simp
            refine hK.out _ _ (bl_alloc bw _) (fun _ => ?_)
            clear hK K
            have bN := below_one v12 (.cells #[.int .u64 0, .int .u8 0] 31)
            have ne1 : v1.heap.size ≠ v12.heap.size := Nat.ne_of_lt (World.block_lt_of_cell? _ _ X0)
            have ne2 := Ne.symm ne1
            replace X2 := kF bN X0 X2
            replace X3 := kF bN X1 X3
            replace X0 := kC bN X0
            replace X1 := kC bN X1
            obtain ⟨Y0, Y1, Y2, Y3⟩ := zero_rs v12
            have YL : w0.heap.size ≤ v12.heap.size := bw.size
            replace bw := bl_alloc bw (.cells #[.int .u64 0, .int .u8 0] 31)
            clear bN
            try simp only [Act.put, List.setIfInBounds_toArray, List.set_cons_zero, List.set_cons_succ]
            generalize v12.alloc (.cells #[.int .u64 0, .int .u8 0] 31) = v13 at *
            refine wpAnyH_ready (rs := [8]) (by kernel_rfl) (by simp) ?_
            refine AllReadyH.cons rfl (fun K hK => ?_) (AllReadyH.nil)
            · go_simp
              have bS : Below w0.heap.size w0 ((v13.setCell ⟨v1.heap.size, 0, none⟩ (.int .u64 n1)).setCell ⟨v1.heap.size, 1, none⟩ (.int .u8 g1)) := (bw.setCell XL _).setCell XL _
              refine hK.out _ _ bS (fun _ => ?_)
              clear hK K
              replace Y0 := set2_cell (v0 := (.int .u64 n1)) (v1 := (.int .u8 g1)) Y0 (r := v1.heap.size) (by first | exact ne1 | exact ne2)
              replace Y1 := set2_cell (v0 := (.int .u64 n1)) (v1 := (.int .u8 g1)) Y1 (r := v1.heap.size) (by first | exact ne1 | exact ne2)
              replace Y2 := set2_frozen (r := v1.heap.size) (v0 := (.int .u64 n1)) (v1 := (.int .u8 g1)) Y2
              replace Y3 := set2_frozen (r := v1.heap.size) (v0 := (.int .u64 n1)) (v1 := (.int .u8 g1)) Y3
              obtain ⟨Z0, Z1⟩ := set2_same (r := v1.heap.size) (v0 := (.int .u64 n1)) (v1 := (.int .u8 g1)) X0 X1
              clear X0 X1 X2 X3 bw
              try simp only [Act.put, List.setIfInBounds_toArray, List.set_cons_zero, List.set_cons_succ]
              generalize ((v13.setCell ⟨v1.heap.size, 0, none⟩ (.int .u64 n1)).setCell ⟨v1.heap.size, 1, none⟩ (.int .u8 g1)) = v14 at *
              have X0 := Z0
              have X1 := Z1
              have bw := bS
              clear Z0 Z1 bS
              refine wpAnyH_ready (rs := [9]) (by kernel_rfl) (by simp) ?_
              refine AllReadyH.cons rfl (fun K hK => ?_) (AllReadyH.nil)
              · go_simp
                have bS : Below w0.heap.size w0 ((v14.setCell ⟨v12.heap.size, 0, none⟩ (.int .u64 n2)).setCell ⟨v12.heap.size, 1, none⟩ (.int .u8 g2)) := (bw.setCell YL _).setCell YL _
                refine hK.out _ _ bS (fun _ => ?_)
                clear hK K
                replace X0 := set2_cell (v0 := (.int .u64 n2)) (v1 := (.int .u8 g2)) X0 (r := v12.heap.size) (by first | exact ne1 | exact ne2)
                replace X1 := set2_cell (v0 := (.int .u64 n2)) (v1 := (.int .u8 g2)) X1 (r := v12.heap.size) (by first | exact ne1 | exact ne2)
                obtain ⟨Z0, Z1⟩ := set2_same (r := v12.heap.size) (v0 := (.int .u64 n2)) (v1 := (.int .u8 g2)) Y0 Y1
                clear Y0 Y1 Y2 Y3 bw
                try simp only [Act.put, List.setIfInBounds_toArray, List.set_cons_zero, List.set_cons_succ]
                generalize ((v14.setCell ⟨v12.heap.size, 0, none⟩ (.int .u64 n2)).setCell ⟨v12.heap.size, 1, none⟩ (.int .u8 g2)) = v15 at *
                have Y0 := Z0
                have Y1 := Z1
                have bw := bS
                clear Z0 Z1 bS
                refine wpAnyH_done (by kernel_rfl) ?_ _
                go_wp2_with fail
                go_meet
                exact ⟨_, _, rfl, rfl, X0, Y0, bw⟩
        · go_simp
          refine hK.out _ _ (bl_alloc bw _) (fun _ => ?_)
          clear hK K
          have bN := below_one v11 (.cells #[.int .u64 0, .int .u8 0] 31)
          have ne1 : v1.heap.size ≠ v11.heap.size := Nat.ne_of_lt (World.block_lt_of_cell? _ _ X0)
          have ne2 := Ne.symm ne1
          replace X2 := kF bN X0 X2
          replace X3 := kF bN X1 X3
          replace X0 := kC bN X0
          replace X1 := kC bN X1
          obtain ⟨Y0, Y1, Y2, Y3⟩ := zero_rs v11
          have YL : w0.heap.size ≤ v11.heap.size := bw.size
          replace bw := bl_alloc bw (.cells #[.int .u64 0, .int .u8 0] 31)
          clear bN
          try simp only [Act.put, List.setIfInBounds_toArray, List.set_cons_zero, List.set_cons_succ]
          generalize v11.alloc (.cells #[.int .u64 0, .int .u8 0] 31) = v16 at *
          refine wpAnyH_ready (rs := [5]) (by kernel_rfl) (by simp) ?_
          refine AllReadyH.cons rfl (fun K hK => ?_) (AllReadyH.nil)
          · go_simp
            refine Calls.mono (HN2.out _ (IsW.keep H2.out bw)) ?_
            rintro r v17 ⟨rfl, bN⟩
            refine hK.out _ _ (nT bw bN) (fun _ => ?_)
            clear hK K
            replace X2 := kF bN X0 X2
            replace X3 := kF bN X1 X3
            replace X0 := kC bN X0
            replace X1 := kC bN X1
            replace Y2 := kF bN Y0 Y2
            replace Y3 := kF bN Y1 Y3
            replace Y0 := kC bN Y0
            replace Y1 := kC bN Y1
            replace bw := nT bw bN
            clear bN
            try simp only [Act.put, List.setIfInBounds_toArray, List.set_cons_zero, List.set_cons_succ]
            refine wpAnyH_ready (rs := [8]) (by kernel_rfl) (by simp) ?_
            refine AllReadyH.cons rfl (fun K hK => ?_) (AllReadyH.nil)
            · go_simp
              have bS : Below w0.heap.size w0 ((v17.setCell ⟨v1.heap.size, 0, none⟩ (.int .u64 n1)).setCell ⟨v1.heap.size, 1, none⟩ (.int .u8 g1)) := (bw.setCell XL _).setCell XL _
              refine hK.out _ _ bS (fun _ => ?_)
              clear hK K
              replace Y0 := set2_cell (v0 := (.int .u64 n1)) (v1 := (.int .u8 g1)) Y0 (r := v1.heap.size) (by first | exact ne1 | exact ne2)
              replace Y1 := set2_cell (v0 := (.int .u64 n1)) (v1 := (.int .u8 g1)) Y1 (r := v1.heap.size) (by first | exact ne1 | exact ne2)
              replace Y2 := set2_frozen (r := v1.heap.size) (v0 := (.int .u64 n1)) (v1 := (.int .u8 g1)) Y2
              replace Y3 := set2_frozen (r := v1.heap.size) (v0 := (.int .u64 n1)) (v1 := (.int .u8 g1)) Y3
              obtain ⟨Z0, Z1⟩ := set2_same (r := v1.heap.size) (v0 := (.int .u64 n1)) (v1 := (.int .u8 g1)) X0 X1
              clear X0 X1 X2 X3 bw
              try simp only [Act.put, List.setIfInBounds_toArray, List.set_cons_zero, List.set_cons_succ]
              generalize ((v17.setCell ⟨v1.heap.size, 0, none⟩ (.int .u64 n1)).setCell ⟨v1.heap.size, 1, none⟩ (.int .u8 g1)) = v18 at *
              have X0 := Z0
              have X1 := Z1
              have bw := bS
              clear Z0 Z1 bS
              refine wpAnyH_ready (rs := [9]) (by kernel_rfl) (by simp) ?_
              refine AllReadyH.cons rfl (fun K hK => ?_) (AllReadyH.nil)
              · go_simp
                have bS : Below w0.heap.size w0 ((v18.setCell ⟨v11.heap.size, 0, none⟩ (.int .u64 n2)).setCell ⟨v11.heap.size, 1, none⟩ (.int .u8 g2)) := (bw.setCell YL _).setCell YL _
                refine hK.out _ _ bS (fun _ => ?_)
                clear hK K
                replace X0 := set2_cell (v0 := (.int .u64 n2)) (v1 := (.int .u8 g2)) X0 (r := v11.heap.size) (by first | exact ne1 | exact ne2)
                replace X1 := set2_cell (v0 := (.int .u64 n2)) (v1 := (.int .u8 g2)) X1 (r := v11.heap.size) (by first | exact ne1 | exact ne2)
                obtain ⟨Z0, Z1⟩ := set2_same (r := v11.heap.size) (v0 := (.int .u64 n2)) (v1 := (.int .u8 g2)) Y0 Y1
                clear Y0 Y1 Y2 Y3 bw
                try simp only [Act.put, List.setIfInBounds_toArray, List.set_cons_zero, List.set_cons_succ]
                generalize ((v18.setCell ⟨v11.heap.size, 0, none⟩ (.int .u64 n2)).setCell ⟨v11.heap.size, 1, none⟩ (.int .u8 g2)) = v19 at *
                have Y0 := Z0
                have Y1 := Z1
                have bw := bS
                clear Z0 Z1 bS
                refine wpAnyH_done (by kernel_rfl) ?_ _
                go_wp2_with fail
                go_meet
                exact ⟨_, _, rfl, rfl, X0, Y0, bw⟩
      · go_simp
        refine hK.out _ _ (bl_alloc bw _) (fun _ => ?_)
        clear hK K
        have bN := below_one v1 (.cells #[.int .u64 0, .int .u8 0] 31)
        obtain ⟨Y0, Y1, Y2, Y3⟩ := zero_rs v1
        have YL : w0.heap.size ≤ v1.heap.size := bw.size
        replace bw := bl_alloc bw (.cells #[.int .u64 0, .int .u8 0] 31)
        clear bN
        try simp only [Act.put, List.setIfInBounds_toArray, List.set_cons_zero, List.set_cons_succ]
        generalize v1.alloc (.cells #[.int .u64 0, .int .u8 0] 31) = v20 at *
        refine wpAnyH_ready (rs := [5, 6]) (by kernel_rfl) (by simp) ?_
        refine AllReadyH.cons rfl (fun K hK => ?_) (AllReadyH.cons rfl (fun K hK => ?_) (AllReadyH.nil))
        · go_simp
          refine Calls.mono (HN2.out _ (IsW.keep H2.out bw)) ?_
          rintro r v21 ⟨rfl, bN⟩
          refine hK.out _ _ (nT bw bN) (fun _ => ?_)
          clear hK K
          replace Y2 := kF bN Y0 Y2
          replace Y3 := kF bN Y1 Y3
          replace Y0 := kC bN Y0
          replace Y1 := kC bN Y1
          replace bw := nT bw bN
          clear bN
          try simp only [Act.put, List.setIfInBounds_toArray, List.set_cons_zero, List.set_cons_succ]
          refine wpAnyH_ready (rs := [6]) (by kernel_rfl) (by simp) ?_
          refine AllReadyH.cons rfl (fun K hK => ?_) (AllReadyH.nil)
          · go_simp
            refine hK.out _ _ (bl_alloc bw _) (fun _ => ?_)
            clear hK K
            have bN := below_one v21 (.cells #[.int .u64 0, .int .u8 0] 31)
            have ne1 : v1.heap.size ≠ v21.heap.size := Nat.ne_of_lt (World.block_lt_of_cell? _ _ Y0)
            have ne2 := Ne.symm ne1
            replace Y2 := kF bN Y0 Y2
            replace Y3 := kF bN Y1 Y3
            replace Y0 := kC bN Y0
            replace Y1 := kC bN Y1
            obtain ⟨X0, X1, X2, X3⟩ := zero_rs v21
            have XL : w0.heap.size ≤ v21.heap.size := bw.size
            replace bw := bl_alloc bw (.cells #[.int .u64 0, .int .u8 0] 31)
            clear bN
            try simp only [Act.put, List.setIfInBounds_toArray, List.set_cons_zero, List.set_cons_succ]
            generalize v21.alloc (.cells #[.int .u64 0, .int .u8 0] 31) = v22 at *
            refine wpAnyH_ready (rs := [8]) (by kernel_rfl) (by simp) ?_
            refine AllReadyH.cons rfl (fun K hK => ?_) (AllReadyH.nil)
            · go_simp
              have bS : Below w0.heap.size w0 ((v22.setCell ⟨v21.heap.size, 0, none⟩ (.int .u64 n1)).setCell ⟨v21.heap.size, 1, none⟩ (.int .u8 g1)) := (bw.setCell XL _).setCell XL _
              refine hK.out _ _ bS (fun _ => ?_)
              clear hK K
              replace Y0 := set2_cell (v0 := (.int .u64 n1)) (v1 := (.int .u8 g1)) Y0 (r := v21.heap.size) (by first | exact ne1 | exact ne2)
              replace Y1 := set2_cell (v0 := (.int .u64 n1)) (v1 := (.int .u8 g1)) Y1 (r := v21.heap.size) (by first | exact ne1 | exact ne2)
              replace Y2 := set2_frozen (r := v21.heap.size) (v0 := (.int .u64 n1)) (v1 := (.int .u8 g1)) Y2
              replace Y3 := set2_frozen (r := v21.heap.size) (v0 := (.int .u64 n1)) (v1 := (.int .u8 g1)) Y3
              obtain ⟨Z0, Z1⟩ := set2_same (r := v21.heap.size) (v0 := (.int .u64 n1)) (v1 := (.int .u8 g1)) X0 X1
              clear X0 X1 X2 X3 bw
              try simp only [Act.put, List.setIfInBounds_toArray, List.set_cons_zero, List.set_cons_succ]
              generalize ((v22.setCell ⟨v21.heap.size, 0, none⟩ (.int .u64 n1)).setCell ⟨v21.heap.size, 1, none⟩ (.int .u8 g1)) = v23 at *
              have X0 := Z0
              have X1 := Z1
              have bw := bS
              clear Z0 Z1 bS
              refine wpAnyH_ready (rs := [9]) (by kernel_rfl) (by simp) ?_
              refine AllReadyH.cons rfl (fun K hK => ?_) (AllReadyH.nil)
              · go_simp
                have bS : Below w0.heap.size w0 ((v23.setCell ⟨v1.heap.size, 0, none⟩ (.int .u64 n2)).setCell ⟨v1.heap.size, 1, none⟩ (.int .u8 g2)) := (bw.setCell YL _).setCell YL _
                refine hK.out _ _ bS (fun _ => ?_)
                clear hK K
                replace X0 := set2_cell (v0 := (.int .u64 n2)) (v1 := (.int .u8 g2)) X0 (r := v1.heap.size) (by first | exact ne1 | exact ne2)
                replace X1 := set2_cell (v0 := (.int .u64 n2)) (v1 := (.int .u8 g2)) X1 (r := v1.heap.size) (by first | exact ne1 | exact ne2)
                obtain ⟨Z0, Z1⟩ := set2_same (r := v1.heap.size) (v0 := (.int .u64 n2)) (v1 := (.int .u8 g2)) Y0 Y1
                clear Y0 Y1 Y2 Y3 bw
                try simp only [Act.put, List.setIfInBounds_toArray, List.set_cons_zero, List.set_cons_succ]
                generalize ((v23.setCell ⟨v1.heap.size, 0, none⟩ (.int .u64 n2)).setCell ⟨v1.heap.size, 1, none⟩ (.int .u8 g2)) = v24 at *
                have Y0 := Z0
                have Y1 := Z1
                have bw := bS
                clear Z0 Z1 bS
                refine wpAnyH_done (by kernel_rfl) ?_ _
                go_wp2_with fail
                go_meet
                exact ⟨_, _, rfl, rfl, X0, Y0, bw⟩
        · go_simp
          refine hK.out _ _ (bl_alloc bw _) (fun _ => ?_)
          clear hK K
          have bN := below_one v20 (.cells #[.int .u64 0, .int .u8 0] 31)
          have ne1 : v1.heap.size ≠ v20.heap.size := Nat.ne_of_lt (World.block_lt_of_cell? _ _ Y0)
          have ne2 := Ne.symm ne1
          replace Y2 := kF bN Y0 Y2
          replace Y3 := kF bN Y1 Y3
          replace Y0 := kC bN Y0
          replace Y1 := kC bN Y1
          obtain ⟨X0, X1, X2, X3⟩ := zero_rs v20
          have XL : w0.heap.size ≤ v20.heap.size := bw.size
          replace bw := bl_alloc bw (.cells #[.int .u64 0, .int .u8 0] 31)
          clear bN
          try simp only [Act.put, List.setIfInBounds_toArray, List.set_cons_zero, List.set_cons_succ]
          generalize v20.alloc (.cells #[.int .u64 0, .int .u8 0] 31) = v25 at *
          refine wpAnyH_ready (rs := [5]) (by kernel_rfl) (by simp) ?_
          refine AllReadyH.cons rfl (fun K hK => ?_) (AllReadyH.nil)
          · go_simp
            refine Calls.mono (HN2.out _ (IsW.keep H2.out bw)) ?_
            rintro r v26 ⟨rfl, bN⟩
            refine hK.out _ _ (nT bw bN) (fun _ => ?_)
            clear hK K
            replace X2 := kF bN X0 X2
            replace X3 := kF bN X1 X3
            replace X0 := kC bN X0
            replace X1 := kC bN X1
            replace Y2 := kF bN Y0 Y2
            replace Y3 := kF bN Y1 Y3
            replace Y0 := kC bN Y0
            replace Y1 := kC bN Y1
            replace bw := nT bw bN
            clear bN
            try simp only [Act.put, List.setIfInBounds_toArray, List.set_cons_zero, List.set_cons_succ]
            refine wpAnyH_ready (rs := [8]) (by kernel_rfl) (by simp) ?_
            refine AllReadyH.cons rfl (fun K hK => ?_) (AllReadyH.nil)
            · go_simp
              have bS : Below w0.heap.size w0 ((v26.setCell ⟨v20.heap.size, 0, none⟩ (.int .u64 n1)).setCell ⟨v20.heap.size, 1, none⟩ (.int .u8 g1)) := (bw.setCell XL _).setCell XL _
              refine hK.out _ _ bS (fun _ => ?_)
              clear hK K
              replace Y0 := set2_cell (v0 := (.int .u64 n1)) (v1 := (.int .u8 g1)) Y0 (r := v20.heap.size) (by first | exact ne1 | exact ne2)
              replace Y1 := set2_cell (v0 := (.int .u64 n1)) (v1 := (.int .u8 g1)) Y1 (r := v20.heap.size) (by first | exact ne1 | exact ne2)
              replace Y2 := set2_frozen (r := v20.heap.size) (v0 := (.int .u64 n1)) (v1 := (.int .u8 g1)) Y2
              replace Y3 := set2_frozen (r := v20.heap.size) (v0 := (.int .u64 n1)) (v1 := (.int .u8 g1)) Y3
              obtain ⟨Z0, Z1⟩ := set2_same (r := v20.heap.size) (v0 := (.int .u64 n1)) (v1 := (.int .u8 g1)) X0 X1
              clear X0 X1 X2 X3 bw
              try simp only [Act.put, List.setIfInBounds_toArray, List.set_cons_zero, List.set_cons_succ]
              generalize ((v26.setCell ⟨v20.heap.size, 0, none⟩ (.int .u64 n1)).setCell ⟨v20.heap.size, 1, none⟩ (.int .u8 g1)) = v27 at *
              have X0 := Z0
              have X1 := Z1
              have bw := bS
              clear Z0 Z1 bS
              refine wpAnyH_ready (rs := [9]) (by kernel_rfl) (by simp) ?_
              refine AllReadyH.cons rfl (fun K hK => ?_) (AllReadyH.nil)
              · go_simp
                have bS : Below w0.heap.size w0 ((v27.setCell ⟨v1.heap.size, 0, none⟩ (.int .u64 n2)).setCell ⟨v1.heap.size, 1, none⟩ (.int .u8 g2)) := (bw.setCell YL _).setCell YL _
                refine hK.out _ _ bS (fun _ => ?_)
                clear hK K
                replace X0 := set2_cell (v0 := (.int .u64 n2)) (v1 := (.int .u8 g2)) X0 (r := v1.heap.size) (by first | exact ne1 | exact ne2)
                replace X1 := set2_cell (v0 := (.int .u64 n2)) (v1 := (.int .u8 g2)) X1 (r := v1.heap.size) (by first | exact ne1 | exact ne2)
                obtain ⟨Z0, Z1⟩ := set2_same (r := v1.heap.size) (v0 := (.int .u64 n2)) (v1 := (.int .u8 g2)) Y0 Y1
                clear Y0 Y1 Y2 Y3 bw
                try simp only [Act.put, List.setIfInBounds_toArray, List.set_cons_zero, List.set_cons_succ]
                generalize ((v27.setCell ⟨v1.heap.size, 0, none⟩ (.int .u64 n2)).setCell ⟨v1.heap.size, 1, none⟩ (.int .u8 g2)) = v28 at *
                have Y0 := Z0
                have Y1 := Z1
                have bw := bS
                clear Z0 Z1 bS
                refine wpAnyH_done (by kernel_rfl) ?_ _
                go_wp2_with fail
                go_meet
                exact ⟨_, _, rfl, rfl, X0, Y0, bw⟩
    · go_simp
      refine hK.out _ _ (bl_alloc bw _) (fun _ => ?_)
      clear hK K
      have bN := below_one wd (.cells #[.int .u64 0, .int .u8 0] 31)
      obtain ⟨X0, X1, X2, X3⟩ := zero_rs wd
      have XL : w0.heap.size ≤ wd.heap.size := bw.size
      replace bw := bl_alloc bw (.cells #[.int .u64 0, .int .u8 0] 31)
      clear bN
      try simp only [Act.put, List.setIfInBounds_toArray, List.set_cons_zero, List.set_cons_succ]
      generalize wd.alloc (.cells #[.int .u64 0, .int .u8 0] 31) = v29 at *
      refine wpAnyH_ready (rs := [2, 7]) (by kernel_rfl) (by simp) ?_
      refine AllReadyH.cons rfl (fun K hK => ?_) (AllReadyH.cons rfl (fun K hK => ?_) (AllReadyH.nil))
      · go_simp
        refine Calls.mono (HN1.out _ (IsW.keep H1.out bw)) ?_
        rintro r v30 ⟨rfl, bN⟩
        refine hK.out _ _ (nT bw bN) (fun _ => ?_)
        clear hK K
        replace X2 := kF bN X0 X2
        replace X3 := kF bN X1 X3
        replace X0 := kC bN X0
        replace X1 := kC bN X1
        replace bw := nT bw bN
        clear bN
        try simp only [Act.put, List.setIfInBounds_toArray, List.set_cons_zero, List.set_cons_succ]
        refine wpAnyH_ready (rs := [5, 7]) (by kernel_rfl) (by simp) ?_
        refine AllReadyH.cons rfl (fun K hK => ?_) (AllReadyH.cons rfl (fun K hK => ?_) (AllReadyH.nil))
        · go_simp
          refine Calls.mono (HN2.out _ (IsW.keep H2.out bw)) ?_
          rintro r v31 ⟨rfl, bN⟩
          refine hK.out _ _ (nT bw bN) (fun _ => ?_)
          clear hK K
          replace X2 := kF bN X0 X2
          replace X3 := kF bN X1 X3
          replace X0 := kC bN X0
          replace X1 := kC bN X1
          replace bw := nT bw bN
          clear bN
          try simp only [Act.put, List.setIfInBounds_toArray, List.set_cons_zero, List.set_cons_succ]
          refine wpAnyH_ready (rs := [7]) (by kernel_rfl) (by simp) ?_
          refine AllReadyH.cons rfl (fun K hK => ?_) (AllReadyH.nil)
          · go_simp
            refine hK.out _ _ (bl_alloc bw _) (fun _ => ?_)
            clear hK K
            have bN := below_one v31 (.cells #[.int .u64 0, .int .u8 0] 31)
            have ne1 : wd.heap.size ≠ v31.heap.size := Nat.ne_of_lt (World.block_lt_of_cell? _ _ X0)
            have ne2 := Ne.symm ne1
            replace X2 := kF bN X0 X2
            replace X3 := kF bN X1 X3
            replace X0 := kC bN X0
            replace X1 := kC bN X1
            obtain ⟨Y0, Y1, Y2, Y3⟩ := zero_rs v31
            have YL : w0.heap.size ≤ v31.heap.size := bw.size
            replace bw := bl_alloc bw (.cells #[.int .u64 0, .int .u8 0] 31)
            clear bN
            try simp only [Act.put, List.setIfInBounds_toArray, List.set_cons_zero, List.set_cons_succ]
            generalize v31.alloc (.cells #[.int .u64 0, .int .u8 0] 31) = v32 at *
            refine wpAnyH_ready (rs := [8]) (by kernel_rfl) (by simp) ?_
            refine AllReadyH.cons rfl (fun K hK => ?_) (AllReadyH.nil)
            · go_simp
              have bS : Below w0.heap.size w0 ((v32.setCell ⟨wd.heap.size, 0, none⟩ (.int .u64 n1)).setCell ⟨wd.heap.size, 1, none⟩ (.int .u8 g1)) := (bw.setCell XL _).setCell XL _
              refine hK.out _ _ bS (fun _ => ?_)
              clear hK K
              replace Y0 := set2_cell (v0 := (.int .u64 n1)) (v1 := (.int .u8 g1)) Y0 (r := wd.heap.size) (by first | exact ne1 | exact ne2)
              replace Y1 := set2_cell (v0 := (.int .u64 n1)) (v1 := (.int .u8 g1)) Y1 (r := wd.heap.size) (by first | exact ne1 | exact ne2)
              replace Y2 := set2_frozen (r := wd.heap.size) (v0 := (.int .u64 n1)) (v1 := (.int .u8 g1)) Y2
              replace Y3 := set2_frozen (r := wd.heap.size) (v0 := (.int .u64 n1)) (v1 := (.int .u8 g1)) Y3
              obtain ⟨Z0, Z1⟩ := set2_same (r := wd.heap.size) (v0 := (.int .u64 n1)) (v1 := (.int .u8 g1)) X0 X1
              clear X0 X1 X2 X3 bw
              try simp only [Act.put, List.setIfInBounds_toArray, List.set_cons_zero, List.set_cons_succ]
              generalize ((v32.setCell ⟨wd.heap.size, 0, none⟩ (.int .u64 n1)).setCell ⟨wd.heap.size, 1, none⟩ (.int .u8 g1)) = v33 at *
              have X0 := Z0
              have X1 := Z1
              have bw := bS
              clear Z0 Z1 bS
              refine wpAnyH_ready (rs := [9]) (by kernel_rfl) (by simp) ?_
              refine AllReadyH.cons rfl (fun K hK => ?_) (AllReadyH.nil)
              · go_simp
                have bS : Below w0.heap.size w0 ((v33.setCell ⟨v31.heap.size, 0, none⟩ (.int .u64 n2)).setCell ⟨v31.heap.size, 1, none⟩ (.int .u8 g2)) := (bw.setCell YL _).setCell YL _
                refine hK.out _ _ bS (fun _ => ?_)
                clear hK K
                replace X0 := set2_cell (v0 := (.int .u64 n2)) (v1 := (.int .u8 g2)) X0 (r := v31.heap.size) (by first | exact ne1 | exact ne2)
                replace X1 := set2_cell (v0 := (.int .u64 n2)) (v1 := (.int .u8 g2)) X1 (r := v31.heap.size) (by first | exact ne1 | exact ne2)
                obtain ⟨Z0, Z1⟩ := set2_same (r := v31.heap.size) (v0 := (.int .u64 n2)) (v1 := (.int .u8 g2)) Y0 Y1
                clear Y0 Y1 Y2 Y3 bw
                try simp only [Act.put, List.setIfInBounds_toArray, List.set_cons_zero, List.set_cons_succ]
                generalize ((v33.setCell ⟨v31.heap.size, 0, none⟩ (.int .u64 n2)).setCell ⟨v31.heap.size, 1, none⟩ (.int .u8 g2)) = v34 at *
                have Y0 := Z0
                have Y1 := Z1
                have bw := bS
                clear Z0 Z1 bS
                refine wpAnyH_done (by kernel_rfl) ?_ _
                go_wp2_with fail
                go_meet
                exact ⟨_, _, rfl, rfl, X0, Y0, bw⟩
        · go_simp
          refine hK.out _ _ (bl_alloc bw _) (fun _ => ?_)
          clear hK K
          have bN := below_one v30 (.cells #[.int .u64 0, .int .u8 0] 31)
          have ne1 : wd.heap.size ≠ v30.heap.size := Nat.ne_of_lt (World.block_lt_of_cell? _ _ X0)
          have ne2 := Ne.symm ne1
          replace X2 := kF bN X0 X2
          replace X3 := kF bN X1 X3
          replace X0 := kC bN X0
          replace X1 := kC bN X1
          obtain ⟨Y0, Y1, Y2, Y3⟩ := zero_rs v30
          have YL : w0.heap.size ≤ v30.heap.size := bw.size
          replace bw := bl_alloc bw (.cells #[.int .u64 0, .int .u8 0] 31)
          clear bN
          try simp only [Act.put, List.setIfInBounds_toArray, List.set_cons_zero, List.set_cons_succ]
          generalize v30.alloc (.cells #[.int .u64 0, .int .u8 0] 31) = v35 at *
          refine wpAnyH_ready (rs := [5]) (by kernel_rfl) (by simp) ?_
          refine AllReadyH.cons rfl (fun K hK => ?_) (AllReadyH.nil)
          · go_simp
            refine Calls.mono (HN2.out _ (IsW.keep H2.out bw)) ?_
            rintro r v36 ⟨rfl, bN⟩
            refine hK.out _ _ (nT bw bN) (fun _ => ?_)
            clear hK K
            replace X2 := kF bN X0 X2
            replace X3 := kF bN X1 X3
            replace X0 := kC bN X0
            replace X1 := kC bN X1
            replace Y2 := kF bN Y0 Y2
            replace Y3 := kF bN Y1 Y3
            replace Y0 := kC bN Y0
            replace Y1 := kC bN Y1
            replace bw := nT bw bN
            clear bN
            try simp only [Act.put, List.setIfInBounds_toArray, List.set_cons_zero, List.set_cons_succ]
            refine wpAnyH_ready (rs := [8]) (by kernel_rfl) (by simp) ?_
            refine AllReadyH.cons rfl (fun K hK => ?_) (AllReadyH.nil)
            · go_simp
              have bS : Below w0.heap.size w0 ((v36.setCell ⟨wd.heap.size, 0, none⟩ (.int .u64 n1)).setCell ⟨wd.heap.size, 1, none⟩ (.int .u8 g1)) := (bw.setCell XL _).setCell XL _
              refine hK.out _ _ bS (fun _ => ?_)
              clear hK K
              replace Y0 := set2_cell (v0 := (.int .u64 n1)) (v1 := (.int .u8 g1)) Y0 (r := wd.heap.size) (by first | exact ne1 | exact ne2)
              replace Y1 := set2_cell (v0 := (.int .u64 n1)) (v1 := (.int .u8 g1)) Y1 (r := wd.heap.size) (by first | exact ne1 | exact ne2)
              replace Y2 := set2_frozen (r := wd.heap.size) (v0 := (.int .u64 n1)) (v1 := (.int .u8 g1)) Y2
              replace Y3 := set2_frozen (r := wd.heap.size) (v0 := (.int .u64 n1)) (v1 := (.int .u8 g1)) Y3
              obtain ⟨Z0, Z1⟩ := set2_same (r := wd.heap.size) (v0 := (.int .u64 n1)) (v1 := (.int .u8 g1)) X0 X1
              clear X0 X1 X2 X3 bw
              try simp only [Act.put, List.setIfInBounds_toArray, List.set_cons_zero, List.set_cons_succ]
              generalize ((v36.setCell ⟨wd.heap.size, 0, none⟩ (.int .u64 n1)).setCell ⟨wd.heap.size, 1, none⟩ (.int .u8 g1)) = v37 at *
              have X0 := Z0
              have X1 := Z1
              have bw := bS
              clear Z0 Z1 bS
              refine wpAnyH_ready (rs := [9]) (by kernel_rfl) (by simp) ?_
              refine AllReadyH.cons rfl (fun K hK => ?_) (AllReadyH.nil)
              · go_simp
                have bS : Below w0.heap.size w0 ((v37.setCell ⟨v30.heap.size, 0, none⟩ (.int .u64 n2)).setCell ⟨v30.heap.size, 1, none⟩ (.int .u8 g2)) := (bw.setCell YL _).setCell YL _
                refine hK.out _ _ bS (fun _ => ?_)
                clear hK K
                replace X0 := set2_cell (v0 := (.int .u64 n2)) (v1 := (.int .u8 g2)) X0 (r := v30.heap.size) (by first | exact ne1 | exact ne2)
                replace X1 := set2_cell (v0 := (.int .u64 n2)) (v1 := (.int .u8 g2)) X1 (r := v30.heap.size) (by first | exact ne1 | exact ne2)
                obtain ⟨Z0, Z1⟩ := set2_same (r := v30.heap.size) (v0 := (.int .u64 n2)) (v1 := (.int .u8 g2)) Y0 Y1
                clear Y0 Y1 Y2 Y3 bw
                try simp only [Act.put, List.setIfInBounds_toArray, List.set_cons_zero, List.set_cons_succ]
                generalize ((v37.setCell ⟨v30.heap.size, 0, none⟩ (.int .u64 n2)).setCell ⟨v30.heap.size, 1, none⟩ (.int .u8 g2)) = v38 at *
                have Y0 := Z0
                have Y1 := Z1
                have bw := bS
                clear Z0 Z1 bS
                refine wpAnyH_done (by kernel_rfl) ?_ _
                go_wp2_with fail
                go_meet
                exact ⟨_, _, rfl, rfl, X0, Y0, bw⟩
      · go_simp
        refine hK.out _ _ (bl_alloc bw _) (fun _ => ?_)
        clear hK K
        have bN := below_one v29 (.cells #[.int .u64 0, .int .u8 0] 31)
        have ne1 : wd.heap.size ≠ v29.heap.size := Nat.ne_of_lt (World.block_lt_of_cell? _ _ X0)
        have ne2 := Ne.symm ne1
        replace X2 := kF bN X0 X2
        replace X3 := kF bN X1 X3
        replace X0 := kC bN X0
        replace X1 := kC bN X1
        obtain ⟨Y0, Y1, Y2, Y3⟩ := zero_rs v29
        have YL : w0.heap.size ≤ v29.heap.size := bw.size
        replace bw := bl_alloc bw (.cells #[.int .u64 0, .int .u8 0] 31)
        clear bN
        try simp only [Act.put, List.setIfInBounds_toArray, List.set_cons_zero, List.set_cons_succ]
        generalize v29.alloc (.cells #[.int .u64 0, .int .u8 0] 31) = v39 at *
        refine wpAnyH_ready (rs := [2]) (by kernel_rfl) (by simp) ?_
        refine AllReadyH.cons rfl (fun K hK => ?_) (AllReadyH.nil)
        · go_simp
          refine Calls.mono (HN1.out _ (IsW.keep H1.out bw)) ?_
          rintro r v40 ⟨rfl, bN⟩
          refine hK.out _ _ (nT bw bN) (fun _ => ?_)
          clear hK K
          replace X2 := kF bN X0 X2
          replace X3 := kF bN X1 X3
          replace X0 := kC bN X0
          replace X1 := kC bN X1
          replace Y2 := kF bN Y0 Y2
          replace Y3 := kF bN Y1 Y3
          replace Y0 := kC bN Y0
          replace Y1 := kC bN Y1
          replace bw := nT bw bN
          clear bN
          try simp only [Act.put, List.setIfInBounds_toArray, List.set_cons_zero, List.set_cons_succ]
          refine wpAnyH_ready (rs := [5]) (by kernel_rfl) (by simp) ?_
          refine AllReadyH.cons rfl (fun K hK => ?_) (AllReadyH.nil)
          · go_simp
            refine Calls.mono (HN2.out _ (IsW.keep H2.out bw)) ?_
            rintro r v41 ⟨rfl, bN⟩
            refine hK.out _ _ (nT bw bN) (fun _ => ?_)
            clear hK K
            replace X2 := kF bN X0 X2
            replace X3 := kF bN X1 X3
            replace X0 := kC bN X0
            replace X1 := kC bN X1
            replace Y2 := kF bN Y0 Y2
            replace Y3 := kF bN Y1 Y3
            replace Y0 := kC bN Y0
            replace Y1 := kC bN Y1
            replace bw := nT bw bN
            clear bN
            try simp only [Act.put, List.setIfInBounds_toArray, List.set_cons_zero, List.set_cons_succ]
            refine wpAnyH_ready (rs := [8]) (by kernel_rfl) (by simp) ?_
            refine AllReadyH.cons rfl (fun K hK => ?_) (AllReadyH.nil)
            · go_simp
              have bS : Below w0.heap.size w0 ((v41.setCell ⟨wd.heap.size, 0, none⟩ (.int .u64 n1)).setCell ⟨wd.heap.size, 1, none⟩ (.int .u8 g1)) := (bw.setCell XL _).setCell XL _
              refine hK.out _ _ bS (fun _ => ?_)
              clear hK K
              replace Y0 := set2_cell (v0 := (.int .u64 n1)) (v1 := (.int .u8 g1)) Y0 (r := wd.heap.size) (by first | exact ne1 | exact ne2)
              replace Y1 := set2_cell (v0 := (.int .u64 n1)) (v1 := (.int .u8 g1)) Y1 (r := wd.heap.size) (by first | exact ne1 | exact ne2)
              replace Y2 := set2_frozen (r := wd.heap.size) (v0 := (.int .u64 n1)) (v1 := (.int .u8 g1)) Y2
              replace Y3 := set2_frozen (r := wd.heap.size) (v0 := (.int .u64 n1)) (v1 := (.int .u8 g1)) Y3
              obtain ⟨Z0, Z1⟩ := set2_same (r := wd.heap.size) (v0 := (.int .u64 n1)) (v1 := (.int .u8 g1)) X0 X1
              clear X0 X1 X2 X3 bw
              try simp only [Act.put, List.setIfInBounds_toArray, List.set_cons_zero, List.set_cons_succ]
              generalize ((v41.setCell ⟨wd.heap.size, 0, none⟩ (.int .u64 n1)).setCell ⟨wd.heap.size, 1, none⟩ (.int .u8 g1)) = v42 at *
              have X0 := Z0
              have X1 := Z1
              have bw := bS
              clear Z0 Z1 bS
              refine wpAnyH_ready (rs := [9]) (by kernel_rfl) (by simp) ?_
              refine AllReadyH.cons rfl (fun K hK => ?_) (AllReadyH.nil)
              · go_simp
                have bS : Below w0.heap.size w0 ((v42.setCell ⟨v29.heap.size, 0, none⟩ (.int .u64 n2)).setCell ⟨v29.heap.size, 1, none⟩ (.int .u8 g2)) := (bw.setCell YL _).setCell YL _
                refine hK.out _ _ bS (fun _ => ?_)
                clear hK K
                replace X0 := set2_cell (v0 := (.int .u64 n2)) (v1 := (.int .u8 g2)) X0 (r := v29.heap.size) (by first | exact ne1 | exact ne2)
                replace X1 := set2_cell (v0 := (.int .u64 n2)) (v1 := (.int .u8 g2)) X1 (r := v29.heap.size) (by first | exact ne1 | exact ne2)
                obtain ⟨Z0, Z1⟩ := set2_same (r := v29.heap.size) (v0 := (.int .u64 n2)) (v1 := (.int .u8 g2)) Y0 Y1
                clear Y0 Y1 Y2 Y3 bw
                try simp only [Act.put, List.setIfInBounds_toArray, List.set_cons_zero, List.set_cons_succ]
                generalize ((v42.setCell ⟨v29.heap.size, 0, none⟩ (.int .u64 n2)).setCell ⟨v29.heap.size, 1, none⟩ (.int .u8 g2)) = v43 at *
                have Y0 := Z0
                have Y1 := Z1
                have bw := bS
                clear Z0 Z1 bS
                refine wpAnyH_done (by kernel_rfl) ?_ _
                go_wp2_with fail
                go_meet
                exact ⟨_, _, rfl, rfl, X0, Y0, bw⟩
    · go_simp
      refine hK.out _ _ (bl_alloc bw _) (fun _ => ?_)
      clear hK K
      have bN := below_one wd (.cells #[.int .u64 0, .int .u8 0] 31)
      obtain ⟨Y0, Y1, Y2, Y3⟩ := zero_rs wd
      have YL : w0.heap.size ≤ wd.heap.size := bw.size
      replace bw := bl_alloc bw (.cells #[.int .u64 0, .int .u8 0] 31)
      clear bN
      try simp only [Act.put, List.setIfInBounds_toArray, List.set_cons_zero, List.set_cons_succ]
      generalize wd.alloc (.cells #[.int .u64 0, .int .u8 0] 31) = v44 at *
      refine wpAnyH_ready (rs := [2, 6]) (by kernel_rfl) (by simp) ?_
      refine AllReadyH.cons rfl (fun K hK => ?_) (AllReadyH.cons rfl (fun K hK => ?_) (AllReadyH.nil))
      · go_simp
        refine Calls.mono (HN1.out _ (IsW.keep H1.out bw)) ?_
        rintro r v45 ⟨rfl, bN⟩
        refine hK.out _ _ (nT bw bN) (fun _ => ?_)
        clear hK K
        replace Y2 := kF bN Y0 Y2
        replace Y3 := kF bN Y1 Y3
        replace Y0 := kC bN Y0
        replace Y1 := kC bN Y1
        replace bw := nT bw bN
        clear bN
        try simp only [Act.put, List.setIfInBounds_toArray, List.set_cons_zero, List.set_cons_succ]
        refine wpAnyH_ready (rs := [5, 6]) (by kernel_rfl) (by simp) ?_
        refine AllReadyH.cons rfl (fun K hK => ?_) (AllReadyH.cons rfl (fun K hK => ?_) (AllReadyH.nil))
        · go_simp
          refine Calls.mono (HN2.out _ (IsW.keep H2.out bw)) ?_
          rintro r v46 ⟨rfl, bN⟩
          refine hK.out _ _ (nT bw bN) (fun _ => ?_)
          clear hK K
          replace Y2 := kF bN Y0 Y2
          replace Y3 := kF bN Y1 Y3
          replace Y0 := kC bN Y0
          replace Y1 := kC bN Y1
          replace bw := nT bw bN
          clear bN
          try simp only [Act.put, List.setIfInBounds_toArray, List.set_cons_zero, List.set_cons_succ]
          refine wpAnyH_ready (rs := [6]) (by kernel_rfl) (by simp) ?_
          refine AllReadyH.cons rfl (fun K hK => ?_) (AllReadyH.nil)
          · go_simp
            refine hK.out _ _ (bl_alloc bw _) (fun _ => ?_)
            clear hK K
            have bN := below_one v46 (.cells #[.int .u64 0, .int .u8 0] 31)
            have ne1 : wd.heap.size ≠ v46.heap.size := Nat.ne_of_lt (World.block_lt_of_cell? _ _ Y0)
            have ne2 := Ne.symm ne1
            replace Y2 := kF bN Y0 Y2
            replace Y3 := kF bN Y1 Y3
            replace Y0 := kC bN Y0
            replace Y1 := kC bN Y1
            obtain ⟨X0, X1, X2, X3⟩ := zero_rs v46
            have XL : w0.heap.size ≤ v46.heap.size := bw.size
            replace bw := bl_alloc bw (.cells #[.int .u64 0, .int .u8 0] 31)
            clear bN
            try simp only [Act.put, List.setIfInBounds_toArray, List.set_cons_zero, List.set_cons_succ]
            generalize v46.alloc (.cells #[.int .u64 0, .int .u8 0] 31) = v47 at *
            refine wpAnyH_ready (rs := [8]) (by kernel_rfl) (by simp) ?_
            refine AllReadyH.cons rfl (fun K hK => ?_) (AllReadyH.nil)
            · go_simp
              have bS : Below w0.heap.size w0 ((v47.setCell ⟨v46.heap.size, 0, none⟩ (.int .u64 n1)).setCell ⟨v46.heap.size, 1, none⟩ (.int .u8 g1)) := (bw.setCell XL _).setCell XL _
              refine hK.out _ _ bS (fun _ => ?_)
              clear hK K
              replace Y0 := set2_cell (v0 := (.int .u64 n1)) (v1 := (.int .u8 g1)) Y0 (r := v46.heap.size) (by first | exact ne1 | exact ne2)
              replace Y1 := set2_cell (v0 := (.int .u64 n1)) (v1 := (.int .u8 g1)) Y1 (r := v46.heap.size) (by first | exact ne1 | exact ne2)
              replace Y2 := set2_frozen (r := v46.heap.size) (v0 := (.int .u64 n1)) (v1 := (.int .u8 g1)) Y2
              replace Y3 := set2_frozen (r := v46.heap.size) (v0 := (.int .u64 n1)) (v1 := (.int .u8 g1)) Y3
              obtain ⟨Z0, Z1⟩ := set2_same (r := v46.heap.size) (v0 := (.int .u64 n1)) (v1 := (.int .u8 g1)) X0 X1
              clear X0 X1 X2 X3 bw
              try simp only [Act.put, List.setIfInBounds_toArray, List.set_cons_zero, List.set_cons_succ]
              generalize ((v47.setCell ⟨v46.heap.size, 0, none⟩ (.int .u64 n1)).setCell ⟨v46.heap.size, 1, none⟩ (.int .u8 g1)) = v48 at *
              have X0 := Z0
              have X1 := Z1
              have bw := bS
              clear Z0 Z1 bS
              refine wpAnyH_ready (rs := [9]) (by kernel_rfl) (by simp) ?_
              refine AllReadyH.cons rfl (fun K hK => ?_) (AllReadyH.nil)
              · go_simp
                have bS : Below w0.heap.size w0 ((v48.setCell ⟨wd.heap.size, 0, none⟩ (.int .u64 n2)).setCell ⟨wd.heap.size, 1, none⟩ (.int .u8 g2)) := (bw.setCell YL _).setCell YL _
                refine hK.out _ _ bS (fun _ => ?_)
                clear hK K
                replace X0 := set2_cell (v0 := (.int .u64 n2)) (v1 := (.int .u8 g2)) X0 (r := wd.heap.size) (by first | exact ne1 | exact ne2)
                replace X1 := set2_cell (v0 := (.int .u64 n2)) (v1 := (.int .u8 g2)) X1 (r := wd.heap.size) (by first | exact ne1 | exact ne2)
                obtain ⟨Z0, Z1⟩ := set2_same (r := wd.heap.size) (v0 := (.int .u64 n2)) (v1 := (.int .u8 g2)) Y0 Y1
                clear Y0 Y1 Y2 Y3 bw
                try simp only [Act.put, List.setIfInBounds_toArray, List.set_cons_zero, List.set_cons_succ]
                generalize ((v48.setCell ⟨wd.heap.size, 0, none⟩ (.int .u64 n2)).setCell ⟨wd.heap.size, 1, none⟩ (.int .u8 g2)) = v49 at *
                have Y0 := Z0
                have Y1 := Z1
                have bw := bS
                clear Z0 Z1 bS
                refine wpAnyH_done (by kernel_rfl) ?_ _
                go_wp2_with fail
                go_meet
                exact ⟨_, _, rfl, rfl, X0, Y0, bw⟩
        · go_simp
          refine hK.out _ _ (bl_alloc bw _) (fun _ => ?_)
          clear hK K
          have bN := below_one v45 (.cells #[.int .u64 0, .int .u8 0] 31)
          have ne1 : wd.heap.size ≠ v45.heap.size := Nat.ne_of_lt (World.block_lt_of_cell? _ _ Y0)
          have ne2 := Ne.symm ne1
          replace Y2 := kF bN Y0 Y2
          replace Y3 := kF bN Y1 Y3
          replace Y0 := kC bN Y0
          replace Y1 := kC bN Y1
          obtain ⟨X0, X1, X2, X3⟩ := zero_rs v45
          have XL : w0.heap.size ≤ v45.heap.size := bw.size
          replace bw := bl_alloc bw (.cells #[.int .u64 0, .int .u8 0] 31)
          clear bN
          try simp only [Act.put, List.setIfInBounds_toArray, List.set_cons_zero, List.set_cons_succ]
          generalize v45.alloc (.cells #[.int .u64 0, .int .u8 0] 31) = v50 at *
          refine wpAnyH_ready (rs := [5]) (by kernel_rfl) (by simp) ?_
          refine AllReadyH.cons rfl (fun K hK => ?_) (AllReadyH.nil)
          · go_simp
            refine Calls.mono (HN2.out _ (IsW.keep H2.out bw)) ?_
            rintro r v51 ⟨rfl, bN⟩
            refine hK.out _ _ (nT bw bN) (fun _ => ?_)
            clear hK K
            replace X2 := kF bN X0 X2
            replace X3 := kF bN X1 X3
            replace X0 := kC bN X0
            replace X1 := kC bN X1
            replace Y2 := kF bN Y0 Y2
            replace Y3 := kF bN Y1 Y3
            replace Y0 := kC bN Y0
            replace Y1 := kC bN Y1
            replace bw := nT bw bN
            clear bN
            try simp only [Act.put, List.setIfInBounds_toArray, List.set_cons_zero, List.set_cons_succ]
            refine wpAnyH_ready (rs := [8]) (by kernel_rfl) (by simp) ?_
            refine AllReadyH.cons rfl (fun K hK => ?_) (AllReadyH.nil)
            · go_simp
              have bS : Below w0.heap.size w0 ((v51.setCell ⟨v45.heap.size, 0, none⟩ (.int .u64 n1)).setCell ⟨v45.heap.size, 1, none⟩ (.int .u8 g1)) := (bw.setCell XL _).setCell XL _
              refine hK.out _ _ bS (fun _ => ?_)
              clear hK K
              replace Y0 := set2_cell (v0 := (.int .u64 n1)) (v1 := (.int .u8 g1)) Y0 (r := v45.heap.size) (by first | exact ne1 | exact ne2)
              replace Y1 := set2_cell (v0 := (.int .u64 n1)) (v1 := (.int .u8 g1)) Y1 (r := v45.heap.size) (by first | exact ne1 | exact ne2)
              replace Y2 := set2_frozen (r := v45.heap.size) (v0 := (.int .u64 n1)) (v1 := (.int .u8 g1)) Y2
              replace Y3 := set2_frozen (r := v45.heap.size) (v0 := (.int .u64 n1)) (v1 := (.int .u8 g1)) Y3
              obtain ⟨Z0, Z1⟩ := set2_same (r := v45.heap.size) (v0 := (.int .u64 n1)) (v1 := (.int .u8 g1)) X0 X1
              clear X0 X1 X2 X3 bw
              try simp only [Act.put, List.setIfInBounds_toArray, List.set_cons_zero, List.set_cons_succ]
              generalize ((v51.setCell ⟨v45.heap.size, 0, none⟩ (.int .u64 n1)).setCell ⟨v45.heap.size, 1, none⟩ (.int .u8 g1)) = v52 at *
              have X0 := Z0
              have X1 := Z1
              have bw := bS
              clear Z0 Z1 bS
              refine wpAnyH_ready (rs := [9]) (by kernel_rfl) (by simp) ?_
              refine AllReadyH.cons rfl (fun K hK => ?_) (AllReadyH.nil)
              · go_simp
                have bS : Below w0.heap.size w0 ((v52.setCell ⟨wd.heap.size, 0, none⟩ (.int .u64 n2)).setCell ⟨wd.heap.size, 1, none⟩ (.int .u8 g2)) := (bw.setCell YL _).setCell YL _
                refine hK.out _ _ bS (fun _ => ?_)
                clear hK K
                replace X0 := set2_cell (v0 := (.int .u64 n2)) (v1 := (.int .u8 g2)) X0 (r := wd.heap.size) (by first | exact ne1 | exact ne2)
                replace X1 := set2_cell (v0 := (.int .u64 n2)) (v1 := (.int .u8 g2)) X1 (r := wd.heap.size) (by first | exact ne1 | exact ne2)
                obtain ⟨Z0, Z1⟩ := set2_same (r := wd.heap.size) (v0 := (.int .u64 n2)) (v1 := (.int .u8 g2)) Y0 Y1
                clear Y0 Y1 Y2 Y3 bw
                try simp only [Act.put, List.setIfInBounds_toArray, List.set_cons_zero, List.set_cons_succ]
                generalize ((v52.setCell ⟨wd.heap.size, 0, none⟩ (.int .u64 n2)).setCell ⟨wd.heap.size, 1, none⟩ (.int .u8 g2)) = v53 at *
                have Y0 := Z0
                have Y1 := Z1
                have bw := bS
                clear Z0 Z1 bS
                refine wpAnyH_done (by kernel_rfl) ?_ _
                go_wp2_with fail
                go_meet
                exact ⟨_, _, rfl, rfl, X0, Y0, bw⟩
      · go_simp
        refine hK.out _ _ (bl_alloc bw _) (fun _ => ?_)
        clear hK K
        have bN := below_one v44 (.cells #[.int .u64 0, .int .u8 0] 31)
        have ne1 : wd.heap.size ≠ v44.heap.size := Nat.ne_of_lt (World.block_lt_of_cell? _ _ Y0)
        have ne2 := Ne.symm ne1
        replace Y2 := kF bN Y0 Y2
        replace Y3 := kF bN Y1 Y3
        replace Y0 := kC bN Y0
        replace Y1 := kC bN Y1
        obtain ⟨X0, X1, X2, X3⟩ := zero_rs v44
        have XL : w0.heap.size ≤ v44.heap.size := bw.size
        replace bw := bl_alloc bw (.cells #[.int .u64 0, .int .u8 0] 31)
        clear bN
        try simp only [Act.put, List.setIfInBounds_toArray, List.set_cons_zero, List.set_cons_succ]
        generalize v44.alloc (.cells #[.int .u64 0, .int .u8 0] 31) = v54 at *
        refine wpAnyH_ready (rs := [2]) (by kernel_rfl) (by simp) ?_
        refine AllReadyH.cons rfl (fun K hK => ?_) (AllReadyH.nil)
        · go_simp
          refine Calls.mono (HN1.out _ (IsW.keep H1.out bw)) ?_
          rintro r v55 ⟨rfl, bN⟩
          refine hK.out _ _ (nT bw bN) (fun _ => ?_)
          clear hK K
          replace X2 := kF bN X0 X2
          replace X3 := kF bN X1 X3
          replace X0 := kC bN X0
          replace X1 := kC bN X1
          replace Y2 := kF bN Y0 Y2
          replace Y3 := kF bN Y1 Y3
          replace Y0 := kC bN Y0
          replace Y1 := kC bN Y1
          replace bw := nT bw bN
          clear bN
          try simp only [Act.put, List.setIfInBounds_toArray, List.set_cons_zero, List.set_cons_succ]
          refine wpAnyH_ready (rs := [5]) (by kernel_rfl) (by simp) ?_
          refine AllReadyH.cons rfl (fun K hK => ?_) (AllReadyH.nil)
          · go_simp
            refine Calls.mono (HN2.out _ (IsW.keep H2.out bw)) ?_
            rintro r v56 ⟨rfl, bN⟩
            refine hK.out _ _ (nT bw bN) (fun _ => ?_)
            clear hK K
            replace X2 := kF bN X0 X2
            replace X3 := kF bN X1 X3
            replace X0 := kC bN X0
            replace X1 := kC bN X1
            replace Y2 := kF bN Y0 Y2
            replace Y3 := kF bN Y1 Y3
            replace Y0 := kC bN Y0
            replace Y1 := kC bN Y1
            replace bw := nT bw bN
            clear bN
            try simp only [Act.put, List.setIfInBounds_toArray, List.set_cons_zero, List.set_cons_succ]
            refine wpAnyH_ready (rs := [8]) (by kernel_rfl) (by simp) ?_
            refine AllReadyH.cons rfl (fun K hK => ?_) (AllReadyH.nil)
            · go_simp
              have bS : Below w0.heap.size w0 ((v56.setCell ⟨v44.heap.size, 0, none⟩ (.int .u64 n1)).setCell ⟨v44.heap.size, 1, none⟩ (.int .u8 g1)) := (bw.setCell XL _).setCell XL _
              refine hK.out _ _ bS (fun _ => ?_)
              clear hK K
              replace Y0 := set2_cell (v0 := (.int .u64 n1)) (v1 := (.int .u8 g1)) Y0 (r := v44.heap.size) (by first | exact ne1 | exact ne2)
              replace Y1 := set2_cell (v0 := (.int .u64 n1)) (v1 := (.int .u8 g1)) Y1 (r := v44.heap.size) (by first | exact ne1 | exact ne2)
              replace Y2 := set2_frozen (r := v44.heap.size) (v0 := (.int .u64 n1)) (v1 := (.int .u8 g1)) Y2
              replace Y3 := set2_frozen (r := v44.heap.size) (v0 := (.int .u64 n1)) (v1 := (.int .u8 g1)) Y3
              obtain ⟨Z0, Z1⟩ := set2_same (r := v44.heap.size) (v0 := (.int .u64 n1)) (v1 := (.int .u8 g1)) X0 X1
              clear X0 X1 X2 X3 bw
              try simp only [Act.put, List.setIfInBounds_toArray, List.set_cons_zero, List.set_cons_succ]
              generalize ((v56.setCell ⟨v44.heap.size, 0, none⟩ (.int .u64 n1)).setCell ⟨v44.heap.size, 1, none⟩ (.int .u8 g1)) = v57 at *
              have X0 := Z0
              have X1 := Z1
              have bw := bS
              clear Z0 Z1 bS
              refine wpAnyH_ready (rs := [9]) (by kernel_rfl) (by simp) ?_
              refine AllReadyH.cons rfl (fun K hK => ?_) (AllReadyH.nil)
              · go_simp
                have bS : Below w0.heap.size w0 ((v57.setCell ⟨wd.heap.size, 0, none⟩ (.int .u64 n2)).setCell ⟨wd.heap.size, 1, none⟩ (.int .u8 g2)) := (bw.setCell YL _).setCell YL _
                refine hK.out _ _ bS (fun _ => ?_)
                clear hK K
                replace X0 := set2_cell (v0 := (.int .u64 n2)) (v1 := (.int .u8 g2)) X0 (r := wd.heap.size) (by first | exact ne1 | exact ne2)
                replace X1 := set2_cell (v0 := (.int .u64 n2)) (v1 := (.int .u8 g2)) X1 (r := wd.heap.size) (by first | exact ne1 | exact ne2)
                obtain ⟨Z0, Z1⟩ := set2_same (r := wd.heap.size) (v0 := (.int .u64 n2)) (v1 := (.int .u8 g2)) Y0 Y1
                clear Y0 Y1 Y2 Y3 bw
                try simp only [Act.put, List.setIfInBounds_toArray, List.set_cons_zero, List.set_cons_succ]
                generalize ((v57.setCell ⟨wd.heap.size, 0, none⟩ (.int .u64 n2)).setCell ⟨wd.heap.size, 1, none⟩ (.int .u8 g2)) = v58 at *
                have Y0 := Z0
                have Y1 := Z1
                have bw := bS
                clear Z0 Z1 bS
                refine wpAnyH_done (by kernel_rfl) ?_ _
                go_wp2_with fail
                go_meet
                exact ⟨_, _, rfl, rfl, X0, Y0, bw⟩
  case rest =>
  obtain ⟨X, Y, rfl, rfl, X0, Y0, bx⟩ := hcut
  clear H1 H2 HN1 HN2
  replace f0 := kF bx z0 f0
  replace f1 := kF bx z1 f1
  replace c0 := kC bx c0
  replace c1 := kC bx c1
  replace c2 := kC bx c2
  replace c3 := kC bx c3
  replace c4 := kC bx c4
  replace c5 := kC bx c5
  replace z0 := kC bx z0
  replace z1 := kC bx z1
  replace hI := IsW.keep hI bx
  replace hJ := IsW.keep hJ bx
  replace bA := nT bA bx
  clear bx
  go_upto_region 5 with fail
  go_cut [8] from 23 to 32 (fun vv wx => vv = .bool t1 ∧ Below wc.heap.size wc wx)
  case first =>
    cases q1 with
    | true =>
      go_wp2_with fail
      refine Calls.mono (HT1.out _ hI) ?_
      rintro r x1 ⟨rfl, bR⟩
      go_wp2_with fail
      go_meet
      exact ⟨by rw [t1e.out]; rfl, bR⟩
    | false =>
      go_wp2_with fail
      refine Calls.mono (HT1.out _ hI) ?_
      rintro r x1 ⟨rfl, bR⟩
      have c0x := kC bR c0
      have c1x := kC bR c1
      have c2x := kC bR c2
      go_wp2_with fail
      refine Calls.mono (HL1.out _ (IsW.keep hI bR)) ?_
      rintro r x2 ⟨rfl, bM⟩
      replace bR := nT bR bM
      go_wp2_with fail
      go_meet
      exact ⟨by rw [t1e.out]; rfl, bR⟩
  case rest =>
  obtain ⟨rfl, bR⟩ := hcut
  replace f0 := kF bR z0 f0
  replace f1 := kF bR z1 f1
  replace c0 := kC bR c0
  replace c1 := kC bR c1
  replace c2 := kC bR c2
  replace c3 := kC bR c3
  replace c4 := kC bR c4
  replace c5 := kC bR c5
  replace z0 := kC bR z0
  replace z1 := kC bR z1
  replace X0 := kC bR X0
  replace Y0 := kC bR Y0
  replace hI := IsW.keep hI bR
  replace hJ := IsW.keep hJ bR
  replace bA := nT bA bR
  clear bR
  go_upto_region 6 with fail
  go_cut [9] from 33 to 42 (fun vv wx => vv = .bool t2 ∧ Below wc.heap.size wc wx)
  case first =>
    cases q2 with
    | true =>
      go_wp2_with fail
      refine Calls.mono (HT2.out _ hJ) ?_
      rintro r x1 ⟨rfl, bR⟩
      go_wp2_with fail
      go_meet
      exact ⟨by rw [t2e.out]; rfl, bR⟩
    | false =>
      go_wp2_with fail
      refine Calls.mono (HT2.out _ hJ) ?_
      rintro r x1 ⟨rfl, bR⟩
      have c3x := kC bR c3
      have c4x := kC bR c4
      have c5x := kC bR c5
      go_wp2_with fail
      refine Calls.mono (HL2.out _ (IsW.keep hJ bR)) ?_
      rintro r x2 ⟨rfl, bM⟩
      replace bR := nT bR bM
      go_wp2_with fail
      go_meet
      exact ⟨by rw [t2e.out]; rfl, bR⟩
  case rest =>
  obtain ⟨rfl, bR⟩ := hcut
  replace f0 := kF bR z0 f0
  replace f1 := kF bR z1 f1
  replace c0 := kC bR c0
  replace c1 := kC bR c1
  replace c2 := kC bR c2
  replace c3 := kC bR c3
  replace c4 := kC bR c4
  replace c5 := kC bR c5
  replace z0 := kC bR z0
  replace z1 := kC bR z1
  replace X0 := kC bR X0
  replace Y0 := kC bR Y0
  replace hI := IsW.keep hI bR
  replace hJ := IsW.keep hJ bR
  replace bA := nT bA bR
  clear bR
  clear HT1 HT2 HL1 HL2 t1e t2e c0 c1 c2 c3 c4 c5 hI hJ
  by_cases hn : n1 = n2
  · subst hn
    cases t1 with
    | false =>
      cases t2 with
      | true =>
        have e1 : db = false := by rw [HF.out]; simp
        have e3 : Hid (dn = 0) := by rw [Hid, HF1.out, e1]; rfl
        have e4 : Hid (df = 0) := by rw [Hid, HF2.out, e1]; rfl
        have e0 : Hid (db = false) := e1
        clear HF HF1 HF2 e1 HX HA HZ
        go_wp2_with fail
        exact bodyPost_ret (v := .tuple #[.agg #[.int .u64 0, .int .u8 0], .bool false, .int .i64 0]) (by simp [results, Tryz.results6, go_sem, z0, z1]) rfl ⟨by rw [e3.out, e4.out, e0.out], by repeat (first | with_reducible exact bA | refine Below.setCell ?_ (by simp) _ | refine Below.alloc ?_ (by have := bA.size; simp at this ⊢; omega) _)⟩
      | false =>
        have e1 : db = true := by rw [HF.out]; simp
        have e3 : Hid (dn = n1) := by rw [Hid, HF1.out, if_pos e1]
        have e4 : Hid (df = fx) := by rw [Hid, HF2.out, if_pos e1]
        have e0 : Hid (db = true) := e1
        clear HF HF1 HF2 e1
        have k0 := X0
        have lz : w.heap.size + 1 < wc.heap.size := World.block_lt_of_cell? _ _ z0
        have bB := below_one wc (.cells #[.int .u64 n1, .int .u8 16] 31)
        obtain ⟨r0, r1, rf0, rf1⟩ := fX13 wc n1
        replace f0 := kF bB z0 f0
        replace f1 := kF bB z1 f1
        replace z0 := kC bB z0
        replace z1 := kC bB z1
        have x0 := kC bB X0
        replace bA := nT bA bB
        have y0 := Y0
        clear bB X0 Y0
        go_wp2_with fail
        clear k0 y0
        generalize (wc.alloc (.cells #[.int .u64 n1, .int .u8 16] 31)) = w8 at *
        refine Calls.mono (HA.out _) ?_
        rintro r w9 ⟨rfl, hw⟩
        rw [hw]
        clear hw w9 HA
        by_cases hi : av = 9218868437227405312
        · have e5 : fx = 20 := by rw [HX.out, if_pos hi]; rfl
          subst e5
          clear HX HZ
          go_upto_region 14 with fail
          have bS : Below wc.heap.size w8 (w8.setCell ⟨wc.heap.size, 1, none⟩ (.int .u8 20)) := (Below.refl _ _).setCell (p := ⟨wc.heap.size, 1, none⟩) (Nat.le_refl _) _
          replace f0 := (bS.frozen (p := ⟨w.heap.size + 1, 0, none⟩) lz).trans f0
          replace f1 := (bS.frozen (p := ⟨w.heap.size + 1, 1, none⟩) lz).trans f1
          replace z0 := (bS.cell (p := ⟨w.heap.size + 1, 0, none⟩) lz).trans z0
          replace z1 := (bS.cell (p := ⟨w.heap.size + 1, 1, none⟩) lz).trans z1
          have s0 : (w8.setCell ⟨wc.heap.size, 1, none⟩ (.int .u8 20)).cell? ⟨wc.heap.size, 0, none⟩ = some (.int .u64 n1) := (World.cell?_setCell_other _ _ _ _ (by simp)).trans r0
          have s1 : (w8.setCell ⟨wc.heap.size, 1, none⟩ (.int .u8 20)).cell? ⟨wc.heap.size, 1, none⟩ = some (.int .u8 20) := World.cell?_setCell_same _ _ _ r1
          replace bA := bA.setCell (p := ⟨wc.heap.size, 1, none⟩) (Nat.le_of_lt (Nat.lt_of_succ_lt lz)) (.int .u8 20)
          clear bS r0 r1 rf0 rf1 x0
          generalize (w8.setCell ⟨wc.heap.size, 1, none⟩ (.int .u8 20)) = w10 at *
          go_wp2_with fail
          exact bodyPost_ret (v := .tuple #[.agg #[.int .u64 n1, .int .u8 20], .bool true, .int .i64 0]) (by simp [results, Tryz.results6, go_sem, z0, z1]) rfl ⟨by rw [e3.out, e4.out, e0.out], by repeat (first | with_reducible exact bA | refine Below.setCell ?_ (by simp) _ | refine Below.alloc ?_ (by have := bA.size; simp at this ⊢; omega) _)⟩
        · have e5 : fx = 16 := by rw [HX.out, if_neg hi]; rfl
          subst e5
          clear HX HZ
          go_wp2_with fail
          exact bodyPost_ret (v := .tuple #[.agg #[.int .u64 n1, .int .u8 16], .bool true, .int .i64 0]) (by simp [results, Tryz.results6, go_sem, z0, z1]) rfl ⟨by rw [e3.out, e4.out, e0.out], by repeat (first | with_reducible exact bA | refine Below.setCell ?_ (by simp) _ | refine Below.alloc ?_ (by have := bA.size; simp at this ⊢; omega) _)⟩
    | true =>
      cases t2 with
      | false =>
        have e1 : db = false := by rw [HF.out]; simp
        have e3 : Hid (dn = 0) := by rw [Hid, HF1.out, e1]; rfl
        have e4 : Hid (df = 0) := by rw [Hid, HF2.out, e1]; rfl
        have e0 : Hid (db = false) := e1
        clear HF HF1 HF2 e1 HX HA HZ
        go_wp2_with fail
        exact bodyPost_ret (v := .tuple #[.agg #[.int .u64 0, .int .u8 0], .bool false, .int .i64 0]) (by simp [results, Tryz.results6, go_sem, z0, z1]) rfl ⟨by rw [e3.out, e4.out, e0.out], by repeat (first | with_reducible exact bA | refine Below.setCell ?_ (by simp) _ | refine Below.alloc ?_ (by have := bA.size; simp at this ⊢; omega) _)⟩
      | true =>
        have e1 : db = true := by rw [HF.out]; simp
        have e3 : Hid (dn = n1) := by rw [Hid, HF1.out, if_pos e1]
        have e4 : Hid (df = fx) := by rw [Hid, HF2.out, if_pos e1]
        have e0 : Hid (db = true) := e1
        clear HF HF1 HF2 e1
        have k0 := X0
        have lz : w.heap.size + 1 < wc.heap.size := World.block_lt_of_cell? _ _ z0
        have bB := below_one wc (.cells #[.int .u64 n1, .int .u8 16] 31)
        obtain ⟨r0, r1, rf0, rf1⟩ := fX13 wc n1
        replace f0 := kF bB z0 f0
        replace f1 := kF bB z1 f1
        replace z0 := kC bB z0
        replace z1 := kC bB z1
        have x0 := kC bB X0
        replace bA := nT bA bB
        have y0 := Y0
        clear bB X0 Y0
        go_wp2_with fail
        clear k0 y0
        generalize (wc.alloc (.cells #[.int .u64 n1, .int .u8 16] 31)) = w8 at *
        refine Calls.mono (HA.out _) ?_
        rintro r w9 ⟨rfl, hw⟩
        rw [hw]
        clear hw w9 HA
        have hi : av ≠ 9218868437227405312 := fun q => absurd (HZ.out q) (by decide)
        have e5 : fx = 24 := by rw [HX.out, if_neg hi]; rfl
        subst e5
        clear HX HZ
        go_upto_region 14 with fail
        have bS : Below wc.heap.size w8 (w8.setCell ⟨wc.heap.size, 1, none⟩ (.int .u8 24)) := (Below.refl _ _).setCell (p := ⟨wc.heap.size, 1, none⟩) (Nat.le_refl _) _
        replace f0 := (bS.frozen (p := ⟨w.heap.size + 1, 0, none⟩) lz).trans f0
        replace f1 := (bS.frozen (p := ⟨w.heap.size + 1, 1, none⟩) lz).trans f1
        replace z0 := (bS.cell (p := ⟨w.heap.size + 1, 0, none⟩) lz).trans z0
        replace z1 := (bS.cell (p := ⟨w.heap.size + 1, 1, none⟩) lz).trans z1
        have s0 : (w8.setCell ⟨wc.heap.size, 1, none⟩ (.int .u8 24)).cell? ⟨wc.heap.size, 0, none⟩ = some (.int .u64 n1) := (World.cell?_setCell_other _ _ _ _ (by simp)).trans r0
        have s1 : (w8.setCell ⟨wc.heap.size, 1, none⟩ (.int .u8 24)).cell? ⟨wc.heap.size, 1, none⟩ = some (.int .u8 24) := World.cell?_setCell_same _ _ _ r1
        replace bA := bA.setCell (p := ⟨wc.heap.size, 1, none⟩) (Nat.le_of_lt (Nat.lt_of_succ_lt lz)) (.int .u8 24)
        clear bS r0 r1 rf0 rf1 x0
        generalize (w8.setCell ⟨wc.heap.size, 1, none⟩ (.int .u8 24)) = w10 at *
        go_wp2_with fail
        exact bodyPost_ret (v := .tuple #[.agg #[.int .u64 n1, .int .u8 24], .bool true, .int .i64 0]) (by simp [results, Tryz.results6, go_sem, z0, z1]) rfl ⟨by rw [e3.out, e4.out, e0.out], by repeat (first | with_reducible exact bA | refine Below.setCell ?_ (by simp) _ | refine Below.alloc ?_ (by have := bA.size; simp at this ⊢; omega) _)⟩
  · have e1 : db = false := by rw [HF.out, decide_eq_false hn]; rfl
    have e3 : Hid (dn = 0) := by rw [Hid, HF1.out, e1]; rfl
    have e4 : Hid (df = 0) := by rw [Hid, HF2.out, e1]; rfl
    have e0 : Hid (db = false) := e1
    clear HF HF1 HF2 e1 HX HA HZ
    go_wp2_with fail
    exact bodyPost_ret (v := .tuple #[.agg #[.int .u64 0, .int .u8 0], .bool false, .int .i64 0]) (by simp [results, Tryz.results6, go_sem, z0, z1]) rfl ⟨by rw [e3.out, e4.out, e0.out], by repeat (first | with_reducible exact bA | refine Below.setCell ?_ (by simp) _ | refine Below.alloc ?_ (by have := bA.size; simp at this ⊢; omega) _)⟩

theorem qDecide_calls (s : Bool) (a : Option Addr) (len cap : Nat) (xs : List Int) (e : Int) (s' : Bool) (a' : Option Addr) (len' cap' : Nat) (ys : List Int) (e' : Int) (w : World) (h : IsW w a len cap xs) (hm : len ≤ 17592186044000) (h' : IsW w a' len' cap' ys) (hm' : len' ≤ 17592186044000) :
    Calls Tryz.prog 6 #[ivV s a len cap e s' a' len' cap' e'] w fun r w' => r = .returned (.tuple #[.agg #[.int .u64 (dcN s (val xs) e s' (val ys) e'), .int .u8 (dcF s (val xs) e s' (val ys) e')], .bool (dcB s (val xs) e s' (val ys) e'), .int .i64 (dcE s (val xs) e s' (val ys) e')]) ∧ Below w.heap.size w w' := by
  cases hr : rtB s (val xs) e s' (val ys) e' with
  | false =>
    have e1 : dcB s (val xs) e s' (val ys) e' = false := by unfold dcB; rw [hr]; rfl
    have e2 : dcN s (val xs) e s' (val ys) e' = 0 := by unfold dcN; rw [e1]; rfl
    have e3 : dcF s (val xs) e s' (val ys) e' = 0 := by unfold dcF; rw [e1]; rfl
    have e4 : dcE s (val xs) e s' (val ys) e' = 2 := by unfold dcE; rw [hr]; rfl
    rw [e1, e2, e3, e4]
    exact qdec_x s a len cap xs e s' a' len' cap' ys e' w h hm h' hm' hr
  | true => exact qdec_r s a len cap xs e s' a' len' cap' ys e' w h hm h' hm' hr
end Go.Proofs.YtognliaoonkmiaaGreatDoor

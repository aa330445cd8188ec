/- The walk of AlgRises. -/
import Derived.Test.YtfgemlgmhlidmaaGreatDoorALX
import Derived.Test.YtfgemlgmhlidmaaGreatDoorAR0
import Derived.Test.YtfgemlgmhlidmaaGreatDoorAM1
import Derived.Test.YtfgemlgmhlidmaaGreatDoorTMS
import Derived.Test.YtfgemlgmhlidmaaGreatDoorRD13
import Derived.Deep.CutRange
namespace Go.Proofs.YtfgemlgmhlidmaaGreatDoor
open Go.RowKit

theorem sq_U (x : Int) (h : U x) : U (sqB x) := by
  unfold sqB
  split
  · split
    · exact h
    · unfold nbR
      split
      · exact nearB_U _ _ _
      · exact ⟨by decide, by decide⟩
  · exact ⟨by decide, by decide⟩
theorem rs_U (x : Int) : U (rsB x) := by
  unfold rsB nbR
  split
  · split
    · exact nearB_U _ _ _
    · exact ⟨by decide, by decide⟩
  · exact ⟨by decide, by decide⟩
theorem hy_U (x y : Int) : U (hyB x y) := by
  unfold hyB nbR
  split
  · split
    · exact ⟨by decide, by decide⟩
    · split
      · exact nearB_U _ _ _
      · exact ⟨by decide, by decide⟩
  · exact ⟨by decide, by decide⟩
theorem nb_U (s : Bool) (m : Nat) (e : Int) : U (nbR s m e) := by
  unfold nbR
  split
  · exact nearB_U _ _ _
  · exact ⟨by decide, by decide⟩
theorem zero_five (x : Int) : (lastE x = 0 ∨ lastE x = 5) ∧ (sqE x = 0 ∨ sqE x = 5) ∧ (rsE x = 0 ∨ rsE x = 5) := by
  refine ⟨by unfold lastE; split <;> simp, ?_, by unfold rsE; split <;> simp⟩
  unfold sqE
  split
  · split <;> simp
  · simp

theorem addr_off (D : Nat) : (⟨D, 0, none⟩ : Addr) ≠ ⟨D, 1, none⟩ := fun q => by have := congrArg Addr.off q; simp at this
theorem addr_blk (D1 D2 i j : Nat) (h : D1 ≠ D2) : (⟨D2, i, none⟩ : Addr) ≠ ⟨D1, j, none⟩ := fun q => by have := congrArg Addr.block q; simp at this; exact h this.symm
theorem cell_set {u : World} {p : Addr} {x v : Value} (h : u.cell? p = some x) : (u.setCell p v).cell? p = some v := by go_simp
theorem store_two {w0 u : World} {D1 D2 : Nat} {x0 x1 y0 y1 : Value} {b f : Int} (bA : Below w0.heap.size w0 u) (hT0 : Tab w0) (hD : w0.heap.size ≤ D1) (hne : D1 ≠ D2) (a0 : u.cell? ⟨D1, 0, none⟩ = some x0) (a1 : u.cell? ⟨D1, 1, none⟩ = some x1) (g0 : u.frozen? ⟨D1, 0, none⟩ = false) (g1 : u.frozen? ⟨D1, 1, none⟩ = false) (c0 : u.cell? ⟨D2, 0, none⟩ = some y0) (c1 : u.cell? ⟨D2, 1, none⟩ = some y1) (k0 : u.frozen? ⟨D2, 0, none⟩ = false) (k1 : u.frozen? ⟨D2, 1, none⟩ = false) :
    (Below w0.heap.size w0 ((u.setCell ⟨D1, 0, none⟩ (.int .u64 b)).setCell ⟨D1, 1, none⟩ (.int .u8 f)) ∧ Tab ((u.setCell ⟨D1, 0, none⟩ (.int .u64 b)).setCell ⟨D1, 1, none⟩ (.int .u8 f))) ∧ ((u.setCell ⟨D1, 0, none⟩ (.int .u64 b)).setCell ⟨D1, 1, none⟩ (.int .u8 f)).cell? ⟨D1, 0, none⟩ = some (.int .u64 b) ∧ ((u.setCell ⟨D1, 0, none⟩ (.int .u64 b)).setCell ⟨D1, 1, none⟩ (.int .u8 f)).cell? ⟨D1, 1, none⟩ = some (.int .u8 f) ∧ ((u.setCell ⟨D1, 0, none⟩ (.int .u64 b)).setCell ⟨D1, 1, none⟩ (.int .u8 f)).frozen? ⟨D1, 0, none⟩ = false ∧ ((u.setCell ⟨D1, 0, none⟩ (.int .u64 b)).setCell ⟨D1, 1, none⟩ (.int .u8 f)).frozen? ⟨D1, 1, none⟩ = false ∧ ((u.setCell ⟨D1, 0, none⟩ (.int .u64 b)).setCell ⟨D1, 1, none⟩ (.int .u8 f)).cell? ⟨D2, 0, none⟩ = some y0 ∧ ((u.setCell ⟨D1, 0, none⟩ (.int .u64 b)).setCell ⟨D1, 1, none⟩ (.int .u8 f)).cell? ⟨D2, 1, none⟩ = some y1 ∧ ((u.setCell ⟨D1, 0, none⟩ (.int .u64 b)).setCell ⟨D1, 1, none⟩ (.int .u8 f)).frozen? ⟨D2, 0, none⟩ = false ∧ ((u.setCell ⟨D1, 0, none⟩ (.int .u64 b)).setCell ⟨D1, 1, none⟩ (.int .u8 f)).frozen? ⟨D2, 1, none⟩ = false := by
  have e0 := cell_set (v := .int .u64 b) a0
  have e1 := (World.cell?_setCell_other u ⟨D1, 0, none⟩ ⟨D1, 1, none⟩ (.int .u64 b) (addr_off D1)).trans a1
  have e2 := (World.cell?_setCell_other u ⟨D1, 0, none⟩ ⟨D2, 0, none⟩ (.int .u64 b) (fun q => addr_blk _ _ _ _ hne q.symm)).trans c0
  have e3 := (World.cell?_setCell_other u ⟨D1, 0, none⟩ ⟨D2, 1, none⟩ (.int .u64 b) (fun q => addr_blk _ _ _ _ hne q.symm)).trans c1
  have bB := bA.setCell (p := ⟨D1, 0, none⟩) hD (.int .u64 b)
  have z : ∀ p, (u.setCell ⟨D1, 0, none⟩ (.int .u64 b)).frozen? p = u.frozen? p := fun p => by rw [World.frozen?_setCell]
  have z0 := (z _).trans g0
  have z1 := (z _).trans g1
  have z2 := (z _).trans k0
  have z3 := (z _).trans k1
  clear z
  generalize u.setCell ⟨D1, 0, none⟩ (.int .u64 b) = v at *
  have bC := bB.setCell (p := ⟨D1, 1, none⟩) hD (.int .u8 f)
  have z : ∀ p, (v.setCell ⟨D1, 1, none⟩ (.int .u8 f)).frozen? p = v.frozen? p := fun p => by rw [World.frozen?_setCell]
  exact ⟨⟨bC, hT0.kept bC⟩, (World.cell?_setCell_other _ _ _ _ (fun q => addr_off D1 q.symm)).trans e0, cell_set e1, (z _).trans z0, (z _).trans z1, (World.cell?_setCell_other _ _ _ _ (fun q => addr_blk _ _ _ _ hne q.symm)).trans e2, (World.cell?_setCell_other _ _ _ _ (fun q => addr_blk _ _ _ _ hne q.symm)).trans e3, (z _).trans z2, (z _).trans z3⟩

set_option maxRecDepth 100000 in
set_option maxHeartbeats 8000000 in
theorem algRises_walk (x y : Int) (w : World) (hx : U x) (hy : U y) (hTw : Tab w) :
    Calls Tryz.prog 9 #[.int .u64 x, .int .u64 y] w fun q w' => q = .returned (.bool true) ∧ Below w.heap.size w w' := by
  have HL : Hid _ := alLives_calls w hTw
  have LXY : Hid _ := fun W => less_calls x y W hx hy
  have CH : Hid _ := fun W (t : Tab W) => hypot_all x y W hx hy t
  have AX : Hid _ := fun W => abs_calls x W hx
  have AY : Hid _ := fun W => abs_calls y W hy
  have FX : Hid _ := fun W => qfrom_calls (absV x) W (ab_parts x hx).1
  have FY : Hid _ := fun W => qfrom_calls (absV y) W (ab_parts y hy).1
  have HB1 : Hid _ := fa_bd (absV x)
  have HB2 : Hid _ := fa_bd (absV y)
  have HL1 : Hid ((wordsOf (fromP (absV x)).2.1).length ≤ 1024) := (great_len _).1 (rightB_yes (fa_right (absV x))).1
  have HL2 : Hid ((wordsOf (fromP (absV y)).2.1).length ≤ 1024) := (great_len _).1 (rightB_yes (fa_right (absV y))).1
  have HFM : Hid (formD (fromP (absV x)).1 (fromP (absV x)).2.1 (fromP (absV x)).2.2 = fromP (absV x) ∧ formD (fromP (absV y)).1 (fromP (absV y)).2.1 (fromP (absV y)).2.2 = fromP (absV y)) := ⟨form_of_can (fa_can _), form_of_can (fa_can _)⟩
  have HEh : Hid (hyE x y = 0 ∨ hyE x y = 5) := by rw [Hid]; unfold hyE; split <;> simp
  have HK : Hid (hyE x y = 0 → (∀ W, Calls Tryz.prog 34 #[.int .u64 (hyB x y), .int .u64 (absV x)] W fun e w' => e = .returned (.bool false) ∧ w' = W) ∧ (∀ W, Calls Tryz.prog 34 #[.int .u64 (hyB x y), .int .u64 (absV y)] W fun e w' => e = .returned (.bool false) ∧ w' = W) ∧ rightB (smD x y).2.1 (smD x y).2.2 = true ∧ (∀ W, Calls Tryz.prog 34 #[.int .u64 (nbR (smD x y).1 (smD x y).2.1 (smD x y).2.2), .int .u64 (hyB x y)] W fun e w' => e = .returned (.bool false) ∧ w' = W)) := fun q => by
    obtain ⟨l1, l2⟩ := hy_least x y hx hy q
    obtain ⟨l3, l4⟩ := sm_all x y hx hy q
    refine ⟨fun W => ?_, fun W => ?_, l3, fun W => ?_⟩
    · have := less_calls (hyB x y) (absV x) W (hy_U x y) (ab_parts x hx).1; rwa [l1] at this
    · have := less_calls (hyB x y) (absV y) W (hy_U x y) (ab_parts y hy).1; rwa [l2] at this
    · have := less_calls (nbR (smD x y).1 (smD x y).2.1 (smD x y).2.2) (hyB x y) W (nb_U _ _ _) (hy_U x y); rwa [l4] at this
  have C1 : Hid _ := fun W (t : Tab W) => cbrt_all x W hx t
  have C2 : Hid _ := fun W (t : Tab W) => cbrt_all y W hy t
  have C3 : Hid _ := fun W (t : Tab W) => sqrtA_all x W hx t
  have C4 : Hid _ := fun W (t : Tab W) => sqrtA_all y W hy t
  have C5 : Hid _ := fun W (t : Tab W) => rsqrt_all x W hx t
  have C6 : Hid _ := fun W (t : Tab W) => rsqrt_all y W hy t
  have E1h : Hid _ := (zero_five x).1
  have E2h : Hid _ := (zero_five y).1
  have E3h : Hid _ := (zero_five x).2.1
  have E4h : Hid _ := (zero_five y).2.1
  have E5h : Hid _ := (zero_five x).2.2
  have E6h : Hid _ := (zero_five y).2.2
  have M1 : Hid (lessB x y = true → lastE x = 0 → lastE y = 0 → ∀ W, Calls Tryz.prog 34 #[.int .u64 (cbB y), .int .u64 (cbB x)] W fun e w' => e = .returned (.bool false) ∧ w' = W) := fun q1 q2 q3 W => by
    have := less_calls (cbB y) (cbB x) W (cb_U y hy) (cb_U x hx); rwa [cb_rises x y hx hy q1 q2 q3] at this
  have M2 : Hid (lessB x y = true → sqE x = 0 → sqE y = 0 → ∀ W, Calls Tryz.prog 34 #[.int .u64 (sqB y), .int .u64 (sqB x)] W fun e w' => e = .returned (.bool false) ∧ w' = W) := fun q1 q2 q3 W => by
    have := less_calls (sqB y) (sqB x) W (sq_U y hy) (sq_U x hx); rwa [sq_rises x y hx hy q1 q2 q3] at this
  have M3 : Hid (lessB x y = true → rsE x = 0 → rsE y = 0 → ∀ W, Calls Tryz.prog 34 #[.int .u64 (rsB x), .int .u64 (rsB y)] W fun e w' => e = .returned (.bool false) ∧ w' = W) := fun q1 q2 q3 W => by
    have := less_calls (rsB x) (rsB y) W (rs_U x) (rs_U y); rwa [rs_rises x y hx hy q1 q2 q3] at this
  change Hid (∀ W, Calls _ _ _ W _) at FX
  clear hx hy
  have HSm : Hid (sumD (fromP (absV x)) (fromP (absV y)) = smD x y) := rfl
  generalize smD x y = ps at *
  generalize hyE x y = HE at *
  generalize hyB x y = HB at *
  generalize hyF x y = HF at *
  have hlx : lastE (absV x) = lastE (absV x) := rfl
  clear hlx
  generalize hlA : lastE (absV x) = LA at *
  generalize hlB : lastE (absV y) = LB at *
  clear hlA hlB
  generalize fromP (absV x) = px at *
  generalize fromP (absV y) = py at *
  generalize absV x = ax at *
  generalize absV y = ay at *
  generalize cbB x = A1 at *
  generalize cbF x = F1 at *
  generalize lastE x = E1 at *
  generalize cbB y = A2 at *
  generalize cbF y = F2 at *
  generalize lastE y = E2 at *
  generalize sqB x = A3 at *
  generalize sqF x = F3 at *
  generalize sqE x = E3 at *
  generalize sqB y = A4 at *
  generalize sqF y = F4 at *
  generalize sqE y = E4 at *
  generalize rsB x = A5 at *
  generalize rsF x = F5 at *
  generalize rsE x = E5 at *
  generalize rsB y = A6 at *
  generalize rsF y = F6 at *
  generalize rsE y = E6 at *
  have hls : lessB x y = true ∨ lessB x y = false := by cases lessB x y <;> simp
  generalize lessB x y = LE at *
  rcases hls with q | q
  · subst q
    replace M1 : Hid _ := M1.out rfl
    replace M2 : Hid _ := M2.out rfl
    replace M3 : Hid _ := M3.out rfl
    go_enter Tryz.func9, Tryz.ntmps9
    go_wp2_with fail
    refine Calls.mono HL.out ?_
    rintro q w1 ⟨rfl, bA⟩
    have bA0 := bA
    have hT := hTw.kept bA
    clear HL
    go_wp2_with fail
    refine Calls.mono (LXY.out _) ?_
    rintro q w1' ⟨rfl, rfl⟩
    clear LXY
    go_wp2_with fail
    refine Calls.mono (C1.out _ hT) ?_
    rintro q u1 ⟨rfl, b1⟩
    have b2 := nT b1 (below_one u1 (.cells #[.int .u64 (A1), .int .u8 (F1)] 25))
    replace hT := hT.kept b2
    replace bA := nT bA b2
    have a0 : (u1.alloc (.cells #[.int .u64 (A1), .int .u8 (F1)] 25)).cell? ⟨u1.heap.size, 0, none⟩ = some (.int .u64 (A1)) := by go_simp
    have a1 : (u1.alloc (.cells #[.int .u64 (A1), .int .u8 (F1)] 25)).cell? ⟨u1.heap.size, 1, none⟩ = some (.int .u8 (F1)) := by go_simp
    have g0 : (u1.alloc (.cells #[.int .u64 (A1), .int .u8 (F1)] 25)).frozen? ⟨u1.heap.size, 0, none⟩ = false := by go_simp
    have g1 : (u1.alloc (.cells #[.int .u64 (A1), .int .u8 (F1)] 25)).frozen? ⟨u1.heap.size, 1, none⟩ = false := by go_simp
    have hD1 : w.heap.size ≤ u1.heap.size := Nat.le_trans bA0.size b1.size
    clear b1 b2 C1
    go_wp2_with fail
    generalize u1.alloc (.cells #[.int .u64 (A1), .int .u8 (F1)] 25) = u2 at *
    generalize u1.heap.size = D1 at *
    refine Calls.mono (C2.out _ hT) ?_
    rintro q u3 ⟨rfl, b1⟩
    have b2 := nT b1 (below_one u3 (.cells #[.int .u64 (A2), .int .u8 (F2)] 25))
    replace hT := hT.kept b2
    have hD2 : w.heap.size ≤ u3.heap.size := Nat.le_trans bA.size b1.size
    replace bA := nT bA b2
    replace g0 := kF b2 a0 g0
    replace g1 := kF b2 a1 g1
    have hne : D1 < u3.heap.size := Nat.lt_of_lt_of_le (World.block_lt_of_cell? _ _ a0) b1.size
    replace a0 := kC b2 a0
    replace a1 := kC b2 a1
    have c0 : (u3.alloc (.cells #[.int .u64 (A2), .int .u8 (F2)] 25)).cell? ⟨u3.heap.size, 0, none⟩ = some (.int .u64 (A2)) := by go_simp
    have c1 : (u3.alloc (.cells #[.int .u64 (A2), .int .u8 (F2)] 25)).cell? ⟨u3.heap.size, 1, none⟩ = some (.int .u8 (F2)) := by go_simp
    have k0 : (u3.alloc (.cells #[.int .u64 (A2), .int .u8 (F2)] 25)).frozen? ⟨u3.heap.size, 0, none⟩ = false := by go_simp
    have k1 : (u3.alloc (.cells #[.int .u64 (A2), .int .u8 (F2)] 25)).frozen? ⟨u3.heap.size, 1, none⟩ = false := by go_simp
    clear b1 b2 C2
    go_upto_region 6 with fail
    generalize u3.alloc (.cells #[.int .u64 (A2), .int .u8 (F2)] 25) = v0 at *
    generalize u3.heap.size = D2 at *
    go_cut [46] from 34 to 46 (fun v wx => v = .bool false ∧ wx = v0)
    case first =>
      rcases E1h.out with q1 | q1
      · have g1 : (E1 == 0) = true := beq_iff_eq.2 q1
        rcases E2h.out with q2 | q2
        · have g2 : (E2 == 0) = true := beq_iff_eq.2 q2
          have LC : Hid _ := M1.out q1 q2 v0
          clear q1 q2
          go_wp2_with fail
          refine Calls.mono LC.out ?_
          rintro q v1 ⟨rfl, rfl⟩
          go_wp2_with fail
          go_meet
          exact ⟨rfl, rfl⟩
        · have g2 : (E2 == 0) = false := by rw [q2]; rfl
          clear q1 q2
          go_wp2_with fail
          go_meet
          exact ⟨rfl, rfl⟩
      · have g1 : (E1 == 0) = false := by rw [q1]; rfl
        clear q1
        go_wp2_with fail
        go_meet
        exact ⟨rfl, rfl⟩
    case rest =>
    obtain ⟨rfl, rfl⟩ := hcut
    go_wp2_with fail
    refine Calls.mono (C3.out _ hT) ?_
    rintro q u1 ⟨rfl, b1⟩
    replace bA := nT bA b1
    replace hT := hT.kept b1
    replace g0 := kF b1 a0 g0
    replace g1 := kF b1 a1 g1
    replace k0 := kF b1 c0 k0
    replace k1 := kF b1 c1 k1
    replace a0 := kC b1 a0
    replace a1 := kC b1 a1
    replace c0 := kC b1 c0
    replace c1 := kC b1 c1
    obtain ⟨bS, s0, s1, h0, h1, t0, t1, i0, i1⟩ := store_two (b := (A3)) (f := (F3)) bA hTw hD1 (Nat.ne_of_lt hne) a0 a1 g0 g1 c0 c1 k0 k1
    obtain ⟨bA2, hT2⟩ := bS
    clear b1 C3 hT bA c0 c1 k0 k1
    go_wp2_with fail
    generalize (u1.setCell ⟨D1, 0, none⟩ (.int .u64 (A3))).setCell ⟨D1, 1, none⟩ (.int .u8 (F3)) = u2 at *
    clear a0 a1 g0 g1
    have a0 := s0
    have a1 := s1
    have g0 := h0
    have g1 := h1
    have c0 := t0
    have c1 := t1
    have k0 := i0
    have k1 := i1
    have hT := hT2
    have bA := bA2
    clear s0 s1 h0 h1 t0 t1 i0 i1 hT2 bA2
    refine Calls.mono (C4.out _ hT) ?_
    rintro q u3 ⟨rfl, b1⟩
    replace bA := nT bA b1
    replace hT := hT.kept b1
    replace g0 := kF b1 a0 g0
    replace g1 := kF b1 a1 g1
    replace k0 := kF b1 c0 k0
    replace k1 := kF b1 c1 k1
    replace a0 := kC b1 a0
    replace a1 := kC b1 a1
    replace c0 := kC b1 c0
    replace c1 := kC b1 c1
    obtain ⟨bS, t0, t1, i0, i1, s0, s1, h0, h1⟩ := store_two (b := (A4)) (f := (F4)) bA hTw hD2 (Nat.ne_of_gt hne) c0 c1 k0 k1 a0 a1 g0 g1
    obtain ⟨bA2, hT2⟩ := bS
    clear b1 C4 hT bA a0 a1 g0 g1
    go_upto_region 10 with fail
    generalize (u3.setCell ⟨D2, 0, none⟩ (.int .u64 (A4))).setCell ⟨D2, 1, none⟩ (.int .u8 (F4)) = v0 at *
    clear c0 c1 k0 k1
    have a0 := s0
    have a1 := s1
    have g0 := h0
    have g1 := h1
    have c0 := t0
    have c1 := t1
    have k0 := i0
    have k1 := i1
    have hT := hT2
    have bA := bA2
    clear s0 s1 h0 h1 t0 t1 i0 i1 hT2 bA2
    go_cut [69] from 57 to 69 (fun v wx => v = .bool false ∧ wx = v0)
    case first =>
      rcases E3h.out with q1 | q1
      · have g1 : (E3 == 0) = true := beq_iff_eq.2 q1
        rcases E4h.out with q2 | q2
        · have g2 : (E4 == 0) = true := beq_iff_eq.2 q2
          have LC : Hid _ := M2.out q1 q2 v0
          clear q1 q2
          go_wp2_with fail
          refine Calls.mono LC.out ?_
          rintro q v1 ⟨rfl, rfl⟩
          go_wp2_with fail
          go_meet
          exact ⟨rfl, rfl⟩
        · have g2 : (E4 == 0) = false := by rw [q2]; rfl
          clear q1 q2
          go_wp2_with fail
          go_meet
          exact ⟨rfl, rfl⟩
      · have g1 : (E3 == 0) = false := by rw [q1]; rfl
        clear q1
        go_wp2_with fail
        go_meet
        exact ⟨rfl, rfl⟩
    case rest =>
    obtain ⟨rfl, rfl⟩ := hcut
    go_wp2_with fail
    refine Calls.mono (C5.out _ hT) ?_
    rintro q u1 ⟨rfl, b1⟩
    replace bA := nT bA b1
    replace hT := hT.kept b1
    replace g0 := kF b1 a0 g0
    replace g1 := kF b1 a1 g1
    replace k0 := kF b1 c0 k0
    replace k1 := kF b1 c1 k1
    replace a0 := kC b1 a0
    replace a1 := kC b1 a1
    replace c0 := kC b1 c0
    replace c1 := kC b1 c1
    obtain ⟨bS, s0, s1, h0, h1, t0, t1, i0, i1⟩ := store_two (b := (A5)) (f := (F5)) bA hTw hD1 (Nat.ne_of_lt hne) a0 a1 g0 g1 c0 c1 k0 k1
    obtain ⟨bA2, hT2⟩ := bS
    clear b1 C5 hT bA c0 c1 k0 k1
    go_wp2_with fail
    generalize (u1.setCell ⟨D1, 0, none⟩ (.int .u64 (A5))).setCell ⟨D1, 1, none⟩ (.int .u8 (F5)) = u2 at *
    clear a0 a1 g0 g1
    have a0 := s0
    have a1 := s1
    have g0 := h0
    have g1 := h1
    have c0 := t0
    have c1 := t1
    have k0 := i0
    have k1 := i1
    have hT := hT2
    have bA := bA2
    clear s0 s1 h0 h1 t0 t1 i0 i1 hT2 bA2
    refine Calls.mono (C6.out _ hT) ?_
    rintro q u3 ⟨rfl, b1⟩
    replace bA := nT bA b1
    replace hT := hT.kept b1
    replace g0 := kF b1 a0 g0
    replace g1 := kF b1 a1 g1
    replace k0 := kF b1 c0 k0
    replace k1 := kF b1 c1 k1
    replace a0 := kC b1 a0
    replace a1 := kC b1 a1
    replace c0 := kC b1 c0
    replace c1 := kC b1 c1
    obtain ⟨bS, t0, t1, i0, i1, s0, s1, h0, h1⟩ := store_two (b := (A6)) (f := (F6)) bA hTw hD2 (Nat.ne_of_gt hne) c0 c1 k0 k1 a0 a1 g0 g1
    obtain ⟨bA2, hT2⟩ := bS
    clear b1 C6 hT bA a0 a1 g0 g1
    go_upto_region 14 with fail
    generalize (u3.setCell ⟨D2, 0, none⟩ (.int .u64 (A6))).setCell ⟨D2, 1, none⟩ (.int .u8 (F6)) = v0 at *
    clear c0 c1 k0 k1
    have a0 := s0
    have a1 := s1
    have g0 := h0
    have g1 := h1
    have c0 := t0
    have c1 := t1
    have k0 := i0
    have k1 := i1
    have hT := hT2
    have bA := bA2
    clear s0 s1 h0 h1 t0 t1 i0 i1 hT2 bA2
    go_cut [92] from 80 to 92 (fun v wx => v = .bool false ∧ wx = v0)
    case first =>
      rcases E5h.out with q1 | q1
      · have g1 : (E5 == 0) = true := beq_iff_eq.2 q1
        rcases E6h.out with q2 | q2
        · have g2 : (E6 == 0) = true := beq_iff_eq.2 q2
          have LC : Hid _ := M3.out q1 q2 v0
          clear q1 q2
          go_wp2_with fail
          refine Calls.mono LC.out ?_
          rintro q v1 ⟨rfl, rfl⟩
          go_wp2_with fail
          go_meet
          exact ⟨rfl, rfl⟩
        · have g2 : (E6 == 0) = false := by rw [q2]; rfl
          clear q1 q2
          go_wp2_with fail
          go_meet
          exact ⟨rfl, rfl⟩
      · have g1 : (E5 == 0) = false := by rw [q1]; rfl
        clear q1
        go_wp2_with fail
        go_meet
        exact ⟨rfl, rfl⟩
    case rest =>
    obtain ⟨rfl, rfl⟩ := hcut
    clear a0 a1 c0 c1 g0 g1 k0 k1 hne hD1 hD2 M1 M2 M3 bA0 E1h E2h E3h E4h E5h E6h
    go_wp2_with fail
    refine Calls.mono (CH.out _ hT) ?_
    rintro q y1 ⟨rfl, b1⟩
    have b2 := nT b1 (below_one y1 (.cells #[.int .u64 (HB), .int .u8 (HF)] 25))
    replace hT := hT.kept b2
    replace bA := nT bA b2
    have a0 : (y1.alloc (.cells #[.int .u64 (HB), .int .u8 (HF)] 25)).cell? ⟨y1.heap.size, 0, none⟩ = some (.int .u64 (HB)) := by go_simp
    clear b1 b2 CH
    rcases HEh.out with qe | qe
    case inr =>
      subst qe
      go_wp2_with fail
      go_ret
      exact ⟨rfl, bA⟩
    obtain ⟨L1, L2, RR, L3⟩ := HK.out qe
    subst qe
    go_wp2_with fail
    generalize y1.alloc (.cells #[.int .u64 (HB), .int .u8 (HF)] 25) = y2 at *
    generalize y1.heap.size = D9 at *
    refine Calls.mono (AX.out _) ?_
    rintro q y2' ⟨rfl, rfl⟩
    go_wp2_with fail
    refine Calls.mono (AY.out _) ?_
    rintro q y2' ⟨rfl, rfl⟩
    go_wp2_with fail
    refine Calls.mono (L1 _) ?_
    rintro q y2' ⟨rfl, rfl⟩
    go_wp2_with fail
    refine Calls.mono (L2 _) ?_
    rintro q y2' ⟨rfl, rfl⟩
    go_wp2_with fail
    refine Calls.mono (FX.out _) ?_
    rintro q y3 ⟨_, rfl, ⟨a1, n1, c1, rfl, HN1, hO1⟩, b1⟩
    have b2 := nT b1 (below_one y3 (.cells #[.bool px.1, .slice a1 n1 c1, .int .i64 px.2.2] 38))
    replace hT := hT.kept b2
    replace bA := nT bA b2
    replace a0 := kC b2 a0
    replace hO1 := hO1.keep (below_one y3 (.cells #[.bool px.1, .slice a1 n1 c1, .int .i64 px.2.2] 38))
    have d0 : (y3.alloc (.cells #[.bool px.1, .slice a1 n1 c1, .int .i64 px.2.2] 38)).cell? ⟨y3.heap.size, 0, none⟩ = some (.bool px.1) := by go_simp
    have d1 : (y3.alloc (.cells #[.bool px.1, .slice a1 n1 c1, .int .i64 px.2.2] 38)).cell? ⟨y3.heap.size, 1, none⟩ = some (.slice a1 n1 c1) := by go_simp
    have d2 : (y3.alloc (.cells #[.bool px.1, .slice a1 n1 c1, .int .i64 px.2.2] 38)).cell? ⟨y3.heap.size, 2, none⟩ = some (.int .i64 px.2.2) := by go_simp
    clear b1 b2 FX
    go_wp2_with fail
    generalize y3.alloc (.cells #[.bool px.1, .slice a1 n1 c1, .int .i64 px.2.2] 38) = y4 at *
    generalize y3.heap.size = D10 at *
    refine Calls.mono (FY.out _) ?_
    rintro q y5 ⟨_, rfl, ⟨a2, n2, c2, rfl, HN2, hO2⟩, b1⟩
    have b2 := nT b1 (below_one y5 (.cells #[.bool py.1, .slice a2 n2 c2, .int .i64 py.2.2] 38))
    replace hT := hT.kept b2
    replace bA := nT bA b2
    replace hO1 := hO1.keep b2
    replace hO2 := hO2.keep (below_one y5 (.cells #[.bool py.1, .slice a2 n2 c2, .int .i64 py.2.2] 38))
    replace a0 := kC b2 a0
    replace d0 := kC b2 d0
    replace d1 := kC b2 d1
    replace d2 := kC b2 d2
    have e0 : (y5.alloc (.cells #[.bool py.1, .slice a2 n2 c2, .int .i64 py.2.2] 38)).cell? ⟨y5.heap.size, 0, none⟩ = some (.bool py.1) := by go_simp
    have e1 : (y5.alloc (.cells #[.bool py.1, .slice a2 n2 c2, .int .i64 py.2.2] 38)).cell? ⟨y5.heap.size, 1, none⟩ = some (.slice a2 n2 c2) := by go_simp
    have e2 : (y5.alloc (.cells #[.bool py.1, .slice a2 n2 c2, .int .i64 py.2.2] 38)).cell? ⟨y5.heap.size, 2, none⟩ = some (.int .i64 py.2.2) := by go_simp
    clear b1 b2 FY
    have hn1 : n1 ≤ 1024 := by rw [HN1.out]; exact HL1.out
    have hn2 : n2 ≤ 1024 := by rw [HN2.out]; exact HL2.out
    have PC : Hid _ := qPlus_calls px.1 a1 n1 c1 (wordsOf px.2.1) px.2.2 py.1 a2 n2 c2 (wordsOf py.2.1) py.2.2 _ hO1.1 (by omega) hO2.1 (by omega) (by have := HB1.out; omega) (by have := HB2.out; omega) (by rw [val_words]; have := HB1.out; omega) (by rw [val_words]; have := HB2.out; omega)
    rw [val_words, val_words, HFM.out.1, HFM.out.2, HSm.out] at PC
    clear HN1 HN2 hn1 hn2 hO1 hO2
    go_wp2_with fail
    generalize y5.alloc (.cells #[.bool py.1, .slice a2 n2 c2, .int .i64 py.2.2] 38) = y6 at *
    generalize y5.heap.size = D11 at *
    refine Calls.mono PC.out ?_
    rintro q y7 ⟨_, rfl, ⟨a3, n3, c3, rfl, HN3, hO3⟩, b1⟩
    clear PC d0 d1 d2 e0 e1 e2
    replace hT := hT.kept b1
    replace bA := nT bA b1
    replace a0 := kC b1 a0
    clear b1
    have hn3 : n3 ≤ 1024 := by rw [HN3.out]; exact (great_len _).1 (rightB_yes RR).1
    have NC : Hid _ := pNear_calls ps.1 a3 n3 c3 (wordsOf ps.2.1) ps.2.2 _ hO3.1 (by omega) hT
    rw [val_words, er_zero RR] at NC
    clear HN3 hn3 hO3 RR
    go_wp2_with fail
    refine Calls.mono NC.out ?_
    rintro q y8 ⟨rfl, b1⟩
    have b2 := nT b1 (below_one y8 (.cells #[.int .u64 (nbR ps.1 ps.2.1 ps.2.2), .int .u8 (flR ps.1 ps.2.1 ps.2.2)] 25))
    replace bA := nT bA b2
    replace a0 := kC b2 a0
    have m0 : (y8.alloc (.cells #[.int .u64 (nbR ps.1 ps.2.1 ps.2.2), .int .u8 (flR ps.1 ps.2.1 ps.2.2)] 25)).cell? ⟨y8.heap.size, 0, none⟩ = some (.int .u64 (nbR ps.1 ps.2.1 ps.2.2)) := by go_simp
    clear b1 b2 NC hT
    go_wp2_with fail
    refine Calls.mono (L3 _) ?_
    rintro q y9 ⟨rfl, rfl⟩
    go_wp2_with fail
    go_ret
    exact ⟨rfl, bA⟩
  · subst q
    clear M1 M2 M3 C1 C2 C3 C4 C5 C6 E1h E2h E3h E4h E5h E6h
    go_enter Tryz.func9, Tryz.ntmps9
    go_wp2_with fail
    refine Calls.mono HL.out ?_
    rintro q w1 ⟨rfl, bA⟩
    have hT := hTw.kept bA
    clear HL
    go_wp2_with fail
    refine Calls.mono (LXY.out _) ?_
    rintro q w1' ⟨rfl, rfl⟩
    clear LXY
    go_wp2_with fail
    refine Calls.mono (CH.out _ hT) ?_
    rintro q y1 ⟨rfl, b1⟩
    have b2 := nT b1 (below_one y1 (.cells #[.int .u64 (HB), .int .u8 (HF)] 25))
    replace hT := hT.kept b2
    replace bA := nT bA b2
    have a0 : (y1.alloc (.cells #[.int .u64 (HB), .int .u8 (HF)] 25)).cell? ⟨y1.heap.size, 0, none⟩ = some (.int .u64 (HB)) := by go_simp
    clear b1 b2 CH
    rcases HEh.out with qe | qe
    case inr =>
      subst qe
      go_wp2_with fail
      go_ret
      exact ⟨rfl, bA⟩
    obtain ⟨L1, L2, RR, L3⟩ := HK.out qe
    subst qe
    go_wp2_with fail
    generalize y1.alloc (.cells #[.int .u64 (HB), .int .u8 (HF)] 25) = y2 at *
    generalize y1.heap.size = D9 at *
    refine Calls.mono (AX.out _) ?_
    rintro q y2' ⟨rfl, rfl⟩
    go_wp2_with fail
    refine Calls.mono (AY.out _) ?_
    rintro q y2' ⟨rfl, rfl⟩
    go_wp2_with fail
    refine Calls.mono (L1 _) ?_
    rintro q y2' ⟨rfl, rfl⟩
    go_wp2_with fail
    refine Calls.mono (L2 _) ?_
    rintro q y2' ⟨rfl, rfl⟩
    go_wp2_with fail
    refine Calls.mono (FX.out _) ?_
    rintro q y3 ⟨_, rfl, ⟨a1, n1, c1, rfl, HN1, hO1⟩, b1⟩
    have b2 := nT b1 (below_one y3 (.cells #[.bool px.1, .slice a1 n1 c1, .int .i64 px.2.2] 38))
    replace hT := hT.kept b2
    replace bA := nT bA b2
    replace a0 := kC b2 a0
    replace hO1 := hO1.keep (below_one y3 (.cells #[.bool px.1, .slice a1 n1 c1, .int .i64 px.2.2] 38))
    have d0 : (y3.alloc (.cells #[.bool px.1, .slice a1 n1 c1, .int .i64 px.2.2] 38)).cell? ⟨y3.heap.size, 0, none⟩ = some (.bool px.1) := by go_simp
    have d1 : (y3.alloc (.cells #[.bool px.1, .slice a1 n1 c1, .int .i64 px.2.2] 38)).cell? ⟨y3.heap.size, 1, none⟩ = some (.slice a1 n1 c1) := by go_simp
    have d2 : (y3.alloc (.cells #[.bool px.1, .slice a1 n1 c1, .int .i64 px.2.2] 38)).cell? ⟨y3.heap.size, 2, none⟩ = some (.int .i64 px.2.2) := by go_simp
    clear b1 b2 FX
    go_wp2_with fail
    generalize y3.alloc (.cells #[.bool px.1, .slice a1 n1 c1, .int .i64 px.2.2] 38) = y4 at *
    generalize y3.heap.size = D10 at *
    refine Calls.mono (FY.out _) ?_
    rintro q y5 ⟨_, rfl, ⟨a2, n2, c2, rfl, HN2, hO2⟩, b1⟩
    have b2 := nT b1 (below_one y5 (.cells #[.bool py.1, .slice a2 n2 c2, .int .i64 py.2.2] 38))
    replace hT := hT.kept b2
    replace bA := nT bA b2
    replace hO1 := hO1.keep b2
    replace hO2 := hO2.keep (below_one y5 (.cells #[.bool py.1, .slice a2 n2 c2, .int .i64 py.2.2] 38))
    replace a0 := kC b2 a0
    replace d0 := kC b2 d0
    replace d1 := kC b2 d1
    replace d2 := kC b2 d2
    have e0 : (y5.alloc (.cells #[.bool py.1, .slice a2 n2 c2, .int .i64 py.2.2] 38)).cell? ⟨y5.heap.size, 0, none⟩ = some (.bool py.1) := by go_simp
    have e1 : (y5.alloc (.cells #[.bool py.1, .slice a2 n2 c2, .int .i64 py.2.2] 38)).cell? ⟨y5.heap.size, 1, none⟩ = some (.slice a2 n2 c2) := by go_simp
    have e2 : (y5.alloc (.cells #[.bool py.1, .slice a2 n2 c2, .int .i64 py.2.2] 38)).cell? ⟨y5.heap.size, 2, none⟩ = some (.int .i64 py.2.2) := by go_simp
    clear b1 b2 FY
    have hn1 : n1 ≤ 1024 := by rw [HN1.out]; exact HL1.out
    have hn2 : n2 ≤ 1024 := by rw [HN2.out]; exact HL2.out
    have PC : Hid _ := qPlus_calls px.1 a1 n1 c1 (wordsOf px.2.1) px.2.2 py.1 a2 n2 c2 (wordsOf py.2.1) py.2.2 _ hO1.1 (by omega) hO2.1 (by omega) (by have := HB1.out; omega) (by have := HB2.out; omega) (by rw [val_words]; have := HB1.out; omega) (by rw [val_words]; have := HB2.out; omega)
    rw [val_words, val_words, HFM.out.1, HFM.out.2, HSm.out] at PC
    clear HN1 HN2 hn1 hn2 hO1 hO2
    go_wp2_with fail
    generalize y5.alloc (.cells #[.bool py.1, .slice a2 n2 c2, .int .i64 py.2.2] 38) = y6 at *
    generalize y5.heap.size = D11 at *
    refine Calls.mono PC.out ?_
    rintro q y7 ⟨_, rfl, ⟨a3, n3, c3, rfl, HN3, hO3⟩, b1⟩
    clear PC d0 d1 d2 e0 e1 e2
    replace hT := hT.kept b1
    replace bA := nT bA b1
    replace a0 := kC b1 a0
    clear b1
    have hn3 : n3 ≤ 1024 := by rw [HN3.out]; exact (great_len _).1 (rightB_yes RR).1
    have NC : Hid _ := pNear_calls ps.1 a3 n3 c3 (wordsOf ps.2.1) ps.2.2 _ hO3.1 (by omega) hT
    rw [val_words, er_zero RR] at NC
    clear HN3 hn3 hO3 RR
    go_wp2_with fail
    refine Calls.mono NC.out ?_
    rintro q y8 ⟨rfl, b1⟩
    have b2 := nT b1 (below_one y8 (.cells #[.int .u64 (nbR ps.1 ps.2.1 ps.2.2), .int .u8 (flR ps.1 ps.2.1 ps.2.2)] 25))
    replace bA := nT bA b2
    replace a0 := kC b2 a0
    have m0 : (y8.alloc (.cells #[.int .u64 (nbR ps.1 ps.2.1 ps.2.2), .int .u8 (flR ps.1 ps.2.1 ps.2.2)] 25)).cell? ⟨y8.heap.size, 0, none⟩ = some (.int .u64 (nbR ps.1 ps.2.1 ps.2.2)) := by go_simp
    clear b1 b2 NC hT
    go_wp2_with fail
    refine Calls.mono (L3 _) ?_
    rintro q y9 ⟨rfl, rfl⟩
    go_wp2_with fail
    go_ret
    exact ⟨rfl, bA⟩
end Go.Proofs.YtfgemlgmhlidmaaGreatDoor

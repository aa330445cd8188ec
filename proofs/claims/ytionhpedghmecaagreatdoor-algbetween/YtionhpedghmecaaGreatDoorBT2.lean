/- The walk of AlgBetween. -/
import Derived.Test.YtionhpedghmecaaGreatDoorBTm
import Derived.Test.YtionhpedghmecaaGreatDoorFX
namespace Go.Proofs.YtionhpedghmecaaGreatDoor
open Go.RowKit
theorem cbU (x : Int) (h : U x) : U (cbB x) := by
 unfold cbB
 split
 ·split
  ·exact h
  ·unfold nbR
   split
   ·exact nearB_U _ _ _
   ·exact ⟨by decide, by decide⟩
 ·exact ⟨by decide, by decide⟩
theorem sqU (x : Int) (h : U x) : U (sqB x) := by
 unfold sqB
 split
 ·split
  ·exact h
  ·unfold nbR
   split
   ·exact nearB_U _ _ _
   ·exact ⟨by decide, by decide⟩
 ·exact ⟨by decide, by decide⟩
theorem rsU (x : Int) : U (rsB x) := by
 unfold rsB nbR
 split
 ·split
  ·exact nearB_U _ _ _
  ·exact ⟨by decide, by decide⟩
 ·exact ⟨by decide, by decide⟩
theorem not_pos {o : Int} (h : o ≤ 0) : (0 < o) = False := by simp; omega
attribute [local go_sem] not_pos
def Bd (p : Bool × Nat × Int) : Prop := CanD p ∧ blen p.2.1 ≤ 1000000 ∧ -1000000 ≤ p.2.2 ∧ p.2.2 ≤ 1000000
theorem bd_len {p : Bool × Nat × Int} (h : Bd p) : (wordsOf p.2.1).length ≤ 20000 := (words_len2 _ _).2 (by have := h.2.1; omega)
theorem bd_from (x : Int) : Bd (fromP x) := ⟨fa_can x, by have := (fa_bd x).1; omega, by have := (fa_bd x).2; omega, by have := (fa_bd x).2; omega⟩
theorem bd_mid (x : Int) (ux : U x) (hx : finB x = true) : Bd (midQ x) := by
 have := midQ_right x ux hx
 exact ⟨(mid_can x).1, by omega, by omega, by omega⟩
theorem bd_sq (x : Int) (ux : U x) (hx : finB x = true) : Bd (sqQ (midQ x)) ∧ blen (sqQ (midQ x)).2.1 ≤ 131072 ∧ -300000 ≤ (sqQ (midQ x)).2.2 ∧ (sqQ (midQ x)).2.2 ≤ 300000 := by
 have h := midQ_right x ux hx
 have := mulD_bd (midQ x) (midQ x) 65536 65536 h.1 h.1 (by omega) (by omega)
 change blen (sqQ (midQ x)).2.1 ≤ _ ∧ _ ≤ (sqQ (midQ x)).2.2 ∧ (sqQ (midQ x)).2.2 ≤ _ at this
 exact ⟨⟨form_can _ _ _, by omega, by omega, by omega⟩, by omega, by omega, by omega⟩
theorem bd_cu (x : Int) (ux : U x) (hx : finB x = true) : Bd (cuQ (midQ x)) := by
 have h := midQ_right x ux hx
 have h2 := (bd_sq x ux hx).2
 have := mulD_bd (midQ x) (sqQ (midQ x)) 65536 300000 h.1 (by omega) (by omega) (by omega)
 change blen (cuQ (midQ x)).2.1 ≤ _ ∧ _ ≤ (cuQ (midQ x)).2.2 ∧ (cuQ (midQ x)).2.2 ≤ _ at this
 exact ⟨form_can _ _ _, by omega, by omega, by omega⟩
theorem bd_ti (y x : Int) (ux : U x) (hx : finB x = true) : Bd (mulD (fromP y) (sqQ (midQ x))) := by
 have h := fa_bd y
 have h2 := (bd_sq x ux hx).2
 have := mulD_bd (fromP y) (sqQ (midQ x)) 2000 300000 (by omega) (by omega) (by omega) (by omega)
 exact ⟨form_can _ _ _, by omega, by omega, by omega⟩
theorem bd_one : Bd (false, 1, 0) := ⟨Or.inr rfl, by show blen 1 ≤ 1000000; exact Nat.le_trans ((blen_le 1 1).2 (by decide)) (by decide), by show -1000000 ≤ (0 : Int); decide, by show (0 : Int) ≤ 1000000; decide⟩
def OrdC (p q : Bool × Nat × Int) (v : Int) : Prop := ∀ (W : World) (a : Option Addr) (n c : Nat) (b : Option Addr) (m d : Nat), IsW W a n c (wordsOf p.2.1) → n = (wordsOf p.2.1).length → IsW W b m d (wordsOf q.2.1) → m = (wordsOf q.2.1).length → Calls Tryz.prog 9 #[dyV p.1 a n c p.2.2, dyV q.1 b m d q.2.2] W fun r w' => r = .returned (.int .i64 v) ∧ Below W.heap.size W w'
def TimC (p q r : Bool × Nat × Int) : Prop := ∀ (W : World) (a : Option Addr) (n c : Nat) (b : Option Addr) (m d : Nat), IsW W a n c (wordsOf p.2.1) → n = (wordsOf p.2.1).length → IsW W b m d (wordsOf q.2.1) → m = (wordsOf q.2.1).length → Calls Tryz.prog 12 #[dyV p.1 a n c p.2.2, dyV q.1 b m d q.2.2] W fun z w' => ∃ v', z = .returned v' ∧ DyQ W.heap.size w' v' r ∧ Below W.heap.size W w'
def CubC (p r : Bool × Nat × Int) : Prop := ∀ (W : World) (a : Option Addr) (n c : Nat), IsW W a n c (wordsOf p.2.1) → n ≤ 1024 → Calls Tryz.prog 10 #[dyV p.1 a n c p.2.2] W fun z w' => ∃ v', z = .returned v' ∧ DyQ W.heap.size w' v' r ∧ Below W.heap.size W w'
def MidC (b f : Int) (p q : Bool × Nat × Int) : Prop := ∀ (W : World), Tab W → Calls Tryz.prog 8 #[.agg #[.int .u64 b, .int .u8 f]] W fun z w' => ∃ v1 v2, z = .returned (.tuple #[v1, v2, .bool true]) ∧ DyAt W.heap.size w' v1 p ∧ DyAt W.heap.size w' v2 q ∧ Below W.heap.size W w'
theorem ordC_of {p q : Bool × Nat × Int} (hp : Bd p) (hq : Bd q) : OrdC p q (cmpD p q) := fun W a n c b m d h hn h' hm => by
 have l1 := bd_len hp
 have l2 := bd_len hq
 obtain ⟨c1, b1, e1⟩ := hp
 obtain ⟨c2, b2, e2⟩ := hq
 have := qOrder_calls p.1 a n c (wordsOf p.2.1) p.2.2 q.1 b m d (wordsOf q.2.1) q.2.2 W h (by omega) h' (by omega) (by omega) (by omega) (by rw [val_words]; omega) (by rw [val_words]; omega)
 rwa [val_words, val_words, form_of_can c1, form_of_can c2] at this
theorem timC_of {p q : Bool × Nat × Int} (hp : Bd p) (hq : Bd q) : TimC p q (mulD p q) := fun W a n c b m d h hn h' hm => by
 have l1 := bd_len hp
 have l2 := bd_len hq
 obtain ⟨c1, b1, e1⟩ := hp
 obtain ⟨c2, b2, e2⟩ := hq
 have := qTimes_calls p.1 a n c (wordsOf p.2.1) p.2.2 q.1 b m d (wordsOf q.2.1) q.2.2 W h (by omega) h' (by omega) (by omega) (by omega) (by rw [val_words]; omega) (by rw [val_words]; omega)
 rwa [val_words, val_words, form_of_can c1, form_of_can c2] at this
theorem cubC_of (x : Int) (ux : U x) (hx : finB x = true) : CubC (midQ x) (cuQ (midQ x)) := fun W a n c h hn => by
 have g := midQ_right x ux hx
 have g2 := (bd_sq x ux hx).2
 exact cube_calls (midQ x) a n c W h hn (mid_can x).1 g.1 ⟨g.2.1, g.2.2⟩ g2.1 ⟨g2.2.1, g2.2.2⟩
set_option maxRecDepth 100000 in
set_option maxHeartbeats 16000000 in
theorem bt_true (x : Int) (w : World) (hx : U x) (hTw : Tab w) (hf : finB x = true) (h0 : (fromP x).2.1 ≠ 0) (hs : (fromP x).1 = true) :
  Calls Tryz.prog 3 #[.int .u64 x] w fun q w' => q = .returned (.bool true) ∧ Below w.heap.size w w' := by
 have HL : Hid _ := alLives_calls w hTw
 have FX : Hid _ := fun W => qfrom_calls x W hx
 rw [last_yes hf] at FX
 have HLn : Hid ((wordsOf (fromP x).2.1).length ≤ 1024) := (great_len _).1 (rightB_yes (fa_right x)).1
 have HZ : Hid ((fromP x).2.1 ≠ 0) := h0
 obtain ⟨⟨i1, i2, i3⟩, i4, i5⟩ := cb_between x hx hf h0 (cbU x hx)
 have CB : Hid _ := fun W (t : Tab W) => cbrt_all x W hx t
 rw [last_yes hf] at CB
 have M1 : Hid (MidC (cbB x) (cbF x) (midQ (downV (cbB x))) (midQ (cbB x))) := fun W t => mids_calls _ _ W (cbU x hx) i1 i2 i3 t
 have U1 : Hid _ := cubC_of _ i2 i3
 have U2 : Hid _ := cubC_of _ (cbU x hx) i1
 have O1 : Hid _ := ordC_of (bd_cu _ i2 i3) (bd_from x)
 have O2 : Hid _ := ordC_of (bd_from x) (bd_cu _ (cbU x hx) i1)
 clear i1 i2 i3
 generalize cmpD (cuQ (midQ (downV (cbB x)))) (fromP x) = o1 at *
 generalize cmpD (fromP x) (cuQ (midQ (cbB x))) = o2 at *
 generalize cuQ (midQ (downV (cbB x))) = C1 at *
 generalize midQ (downV (cbB x)) = P1 at *
 generalize cuQ (midQ (cbB x)) = C2 at *
 generalize midQ (cbB x) = P2 at *
 generalize cbB x = bc at *
 generalize cbF x = fc at *
 generalize fromP x = p at *
 clear hf h0
 obtain ⟨s, m, e⟩ := p
 have hs1 : s = true := hs
 subst hs1
 clear hs
 dsimp only at *
 have ni4 : ¬ 0 < o1 := by omega
 have ni5 : ¬ 0 < o2 := by omega
 go_enter Tryz.func3, Tryz.ntmps3
 go_wp2_with fail
 refine Calls.mono HL.out ?_
 rintro q w1 ⟨rfl, bA⟩
 have hT := hTw.kept bA
 clear HL
 go_wp2_with fail
 refine Calls.mono (FX.out _) ?_
 rintro q w2 ⟨_, rfl, ⟨a, n, c, rfl, HN, hO⟩, b1⟩
 have hn : n ≤ 1024 := by rw [HN.out]; exact HLn.out
 have b2 := nT b1 (below_one w2 (.cells #[.bool true, .slice a n c, .int .i64 e] 27))
 replace bA := nT bA b2
 replace hT := hT.kept b2
 replace hO := hO.keep (below_one w2 (.cells #[.bool true, .slice a n c, .int .i64 e] 27))
 have k0 : (w2.alloc (.cells #[.bool true, .slice a n c, .int .i64 e] 27)).cell? ⟨w2.heap.size, 0, none⟩ = some (.bool true) := by go_simp
 have k1 : (w2.alloc (.cells #[.bool true, .slice a n c, .int .i64 e] 27)).cell? ⟨w2.heap.size, 1, none⟩ = some (.slice a n c) := by go_simp
 have k2 : (w2.alloc (.cells #[.bool true, .slice a n c, .int .i64 e] 27)).cell? ⟨w2.heap.size, 2, none⟩ = some (.int .i64 e) := by go_simp
 have ZC : Hid _ := qZero_calls true a n c (wordsOf m) e _ hO.1 (by omega)
 rw [val_words, decide_eq_false HZ.out] at ZC
 clear b1 b2 FX
 go_wp2_with fail
 generalize w2.alloc (.cells #[.bool true, .slice a n c, .int .i64 e] 27) = w3 at *
 generalize w2.heap.size = D at *
 refine Calls.mono ZC.out ?_
 rintro q w4 ⟨rfl, b2⟩
 clear ZC
 replace k0 := kC b2 k0
 replace k1 := kC b2 k1
 replace k2 := kC b2 k2
 replace hO := hO.keep b2
 replace bA := nT bA b2
 replace hT := hT.kept b2
 clear b2
 go_wp2_with fail
 refine Calls.mono (CB.out _ hT) ?_
 rintro q ua ⟨rfl, b2⟩
 replace k0 := kC b2 k0
 replace k1 := kC b2 k1
 replace k2 := kC b2 k2
 replace hO := hO.keep b2
 replace bA := nT bA b2
 replace hT := hT.kept b2
 clear b2
 have b2 := below_one ua (.cells #[.int .u64 bc, .int .u8 fc] 34)
 obtain ⟨m0, m1⟩ := fX12 ua bc fc
 replace k0 := kC b2 k0
 replace k1 := kC b2 k1
 replace k2 := kC b2 k2
 replace hO := hO.keep b2
 replace bA := nT bA b2
 replace hT := hT.kept b2
 clear b2
 go_wp2_with fail
 generalize ua.alloc (.cells #[.int .u64 bc, .int .u8 fc] 34) = ub at *
 generalize ua.heap.size = R1 at *
 refine Calls.mono (M1.out _ hT) ?_
 rintro q uc ⟨_, _, rfl, ⟨a1, n1, c1, rfl, HN1, hn1, hO1⟩, ⟨a2, n2, c2, rfl, HN2, hn2, hO2⟩, b2⟩
 clear m0 m1
 replace k0 := kC b2 k0
 replace k1 := kC b2 k1
 replace k2 := kC b2 k2
 replace hO := hO.keep b2
 replace bA := nT bA b2
 replace hT := hT.kept b2
 clear b2
 have b2 : Below uc.heap.size uc ((uc.alloc (.cells #[.bool P1.1, .slice a1 n1 c1, .int .i64 P1.2.2] 27)).alloc (.cells #[.bool P2.1, .slice a2 n2 c2, .int .i64 P2.2.2] 27)) := nT (below_one _ _) (below_one _ _)
 have l0 : ((uc.alloc (.cells #[.bool P1.1, .slice a1 n1 c1, .int .i64 P1.2.2] 27)).alloc (.cells #[.bool P2.1, .slice a2 n2 c2, .int .i64 P2.2.2] 27)).cell? ⟨uc.heap.size, 0, none⟩ = some (.bool P1.1) := by go_simp
 have l1 : ((uc.alloc (.cells #[.bool P1.1, .slice a1 n1 c1, .int .i64 P1.2.2] 27)).alloc (.cells #[.bool P2.1, .slice a2 n2 c2, .int .i64 P2.2.2] 27)).cell? ⟨uc.heap.size, 1, none⟩ = some (.slice a1 n1 c1) := by go_simp
 have l2 : ((uc.alloc (.cells #[.bool P1.1, .slice a1 n1 c1, .int .i64 P1.2.2] 27)).alloc (.cells #[.bool P2.1, .slice a2 n2 c2, .int .i64 P2.2.2] 27)).cell? ⟨uc.heap.size, 2, none⟩ = some (.int .i64 P1.2.2) := by go_simp
 have h0 : ((uc.alloc (.cells #[.bool P1.1, .slice a1 n1 c1, .int .i64 P1.2.2] 27)).alloc (.cells #[.bool P2.1, .slice a2 n2 c2, .int .i64 P2.2.2] 27)).cell? ⟨uc.heap.size + 1, 0, none⟩ = some (.bool P2.1) := by go_simp
 have h1 : ((uc.alloc (.cells #[.bool P1.1, .slice a1 n1 c1, .int .i64 P1.2.2] 27)).alloc (.cells #[.bool P2.1, .slice a2 n2 c2, .int .i64 P2.2.2] 27)).cell? ⟨uc.heap.size + 1, 1, none⟩ = some (.slice a2 n2 c2) := by go_simp
 have h2 : ((uc.alloc (.cells #[.bool P1.1, .slice a1 n1 c1, .int .i64 P1.2.2] 27)).alloc (.cells #[.bool P2.1, .slice a2 n2 c2, .int .i64 P2.2.2] 27)).cell? ⟨uc.heap.size + 1, 2, none⟩ = some (.int .i64 P2.2.2) := by go_simp
 replace k0 := kC b2 k0
 replace k1 := kC b2 k1
 replace k2 := kC b2 k2
 replace hO := hO.keep b2
 replace hO1 := hO1.keep b2
 replace hO2 := hO2.keep b2
 replace bA := nT bA b2
 replace hT := hT.kept b2
 clear b2
 go_wp2_with fail
 generalize ((uc.alloc (.cells #[.bool P1.1, .slice a1 n1 c1, .int .i64 P1.2.2] 27)).alloc (.cells #[.bool P2.1, .slice a2 n2 c2, .int .i64 P2.2.2] 27)) = w5 at *
 generalize uc.heap.size = L at *
 have bD : Below _ w5 w5.drew := (Below.refl w5.heap.size w5).drew
 go_region_held3 (fun W => W.cell? ⟨D, 0, none⟩ = some (.bool true) ∧ W.cell? ⟨D, 1, none⟩ = some (.slice a n c) ∧ W.cell? ⟨D, 2, none⟩ = some (.int .i64 e) ∧ W.cell? ⟨L, 0, none⟩ = some (.bool P1.1) ∧ W.cell? ⟨L, 1, none⟩ = some (.slice a1 n1 c1) ∧ W.cell? ⟨L, 2, none⟩ = some (.int .i64 P1.2.2) ∧ W.cell? ⟨(L + 1), 0, none⟩ = some (.bool P2.1) ∧ W.cell? ⟨(L + 1), 1, none⟩ = some (.slice a2 n2 c2) ∧ W.cell? ⟨(L + 1), 2, none⟩ = some (.int .i64 P2.2.2))
  (first | (go_keep; done) | ((refine ⟨?_, ?_, ?_, ?_, ?_, ?_, ?_, ?_, ?_⟩ <;> (refine kC bL ?_; go_keep)); done))
  (first
   | (have _q := hX2; go_at_call 9; refine (O2.out _ a n c x2 y2 z2 (hO.1.keep bb) HN.out hX2.1 HX2.out).mono ?_; rintro r v3 ⟨rfl, bL⟩; have ga413 := True.intro; replace bb := nT bb bL)
   | (have _q := ga411; go_at_call 10; refine (U2.out _ a2 n2 c2 (hO2.1.keep bb) hn2).mono ?_; rintro r v2 ⟨_, rfl, ⟨x2, y2, z2, rfl, HX2, hX2⟩, bL⟩; replace bb := nT bb bL)
   | (have _q := hX1; go_at_call 9; refine (O1.out _ x1 y1 z1 a n c hX1.1 HX1.out (hO.1.keep bb) HN.out).mono ?_; rintro r v1 ⟨rfl, bL⟩; have ga411 := True.intro; replace bb := nT bb bL)
   | (go_at_call 10; refine (U1.out _ a1 n1 c1 (hO1.1.keep bD) hn1).mono ?_; rintro r v0 ⟨_, rfl, ⟨x1, y1, z1, rfl, HX1, hX1⟩, bL⟩; have bb := nT bD bL))
 all_goals
  replace bA := nT bA bb
  replace k0 := kC bb k0
  clear bb bL
  go_wp2_with fail
  go_ret
  exact ⟨rfl, bA⟩
set_option maxRecDepth 100000 in
set_option maxHeartbeats 16000000 in
theorem bt_false (x : Int) (w : World) (hx : U x) (hTw : Tab w) (hf : finB x = true) (h0 : (fromP x).2.1 ≠ 0) (hs : (fromP x).1 = false) :
  Calls Tryz.prog 3 #[.int .u64 x] w fun q w' => q = .returned (.bool true) ∧ Below w.heap.size w w' := by
 have HL : Hid _ := alLives_calls w hTw
 have FX : Hid _ := fun W => qfrom_calls x W hx
 rw [last_yes hf] at FX
 have HLn : Hid ((wordsOf (fromP x).2.1).length ≤ 1024) := (great_len _).1 (rightB_yes (fa_right x)).1
 have HZ : Hid ((fromP x).2.1 ≠ 0) := h0
 obtain ⟨⟨i1, i2, i3⟩, i4, i5⟩ := cb_between x hx hf h0 (cbU x hx)
 have CB : Hid _ := fun W (t : Tab W) => cbrt_all x W hx t
 rw [last_yes hf] at CB
 have M1 : Hid (MidC (cbB x) (cbF x) (midQ (downV (cbB x))) (midQ (cbB x))) := fun W t => mids_calls _ _ W (cbU x hx) i1 i2 i3 t
 have U1 : Hid _ := cubC_of _ i2 i3
 have U2 : Hid _ := cubC_of _ (cbU x hx) i1
 have O1 : Hid _ := ordC_of (bd_cu _ i2 i3) (bd_from x)
 have O2 : Hid _ := ordC_of (bd_from x) (bd_cu _ (cbU x hx) i1)
 have hq : sqE x = 0 := by unfold sqE; rw [if_pos hf, hs]; rfl
 have hr : rsE x = 0 := by unfold rsE; rw [if_neg]; rw [hs]; simp [h0]
 obtain ⟨⟨j1, j2, j3⟩, j4, j5⟩ := sq_between x hx hq h0 (sqU x hx)
 obtain ⟨⟨l1, l2, l3⟩, l4, l5⟩ := rs_between x hr (rsU x)
 have SB : Hid _ := fun W (t : Tab W) => sqrtA_all x W hx t
 have RB : Hid _ := fun W (t : Tab W) => rsqrt_all x W hx t
 rw [hq] at SB
 rw [hr] at RB
 have M3 : Hid (MidC (sqB x) (sqF x) (midQ (downV (sqB x))) (midQ (sqB x))) := fun W t => mids_calls _ _ W (sqU x hx) j1 j2 j3 t
 have M5 : Hid (MidC (rsB x) (rsF x) (midQ (downV (rsB x))) (midQ (rsB x))) := fun W t => mids_calls _ _ W (rsU x) l1 l2 l3 t
 have T3 : Hid (TimC _ _ (sqQ _)) := timC_of (bd_mid _ j2 j3) (bd_mid _ j2 j3)
 have T4 : Hid (TimC _ _ (sqQ _)) := timC_of (bd_mid _ (sqU x hx) j1) (bd_mid _ (sqU x hx) j1)
 have T5 : Hid (TimC _ _ (sqQ _)) := timC_of (bd_mid _ l2 l3) (bd_mid _ l2 l3)
 have T6 : Hid (TimC _ _ (sqQ _)) := timC_of (bd_mid _ (rsU x) l1) (bd_mid _ (rsU x) l1)
 have T7 : Hid _ := timC_of (bd_from x) (bd_sq _ l2 l3).1
 have T8 : Hid _ := timC_of (bd_from x) (bd_sq _ (rsU x) l1).1
 have O3 : Hid _ := ordC_of (bd_sq _ j2 j3).1 (bd_from x)
 have O4 : Hid _ := ordC_of (bd_from x) (bd_sq _ (sqU x hx) j1).1
 have O5 : Hid _ := ordC_of (bd_ti x _ l2 l3) bd_one
 have O6 : Hid _ := ordC_of bd_one (bd_ti x _ (rsU x) l1)
 have IN : Hid _ := fun W => qint_calls 1 (by decide) W
 rw [show intD 1 = (false, 1, 0) from form_odd false (by decide) 0] at IN
 clear hq hr j1 j2 j3 l1 l2 l3
 generalize cmpD (sqQ (midQ (downV (sqB x)))) (fromP x) = o3 at *
 generalize cmpD (fromP x) (sqQ (midQ (sqB x))) = o4 at *
 generalize cmpD (mulD (fromP x) (sqQ (midQ (downV (rsB x))))) (false, 1, 0) = o5 at *
 generalize cmpD (false, 1, 0) (mulD (fromP x) (sqQ (midQ (rsB x)))) = o6 at *
 generalize ((false, 1, 0) : Bool × Nat × Int) = I1 at *
 generalize mulD (fromP x) (sqQ (midQ (downV (rsB x)))) = N5 at *
 generalize mulD (fromP x) (sqQ (midQ (rsB x))) = N6 at *
 generalize sqQ (midQ (downV (sqB x))) = S3 at *
 generalize midQ (downV (sqB x)) = P3 at *
 generalize sqQ (midQ (sqB x)) = S4 at *
 generalize midQ (sqB x) = P4 at *
 generalize sqQ (midQ (downV (rsB x))) = S5 at *
 generalize midQ (downV (rsB x)) = P5 at *
 generalize sqQ (midQ (rsB x)) = S6 at *
 generalize midQ (rsB x) = P6 at *
 generalize sqB x = bs at *
 generalize sqF x = fs at *
 generalize rsB x = bq at *
 generalize rsF x = fq at *
 clear i1 i2 i3
 generalize cmpD (cuQ (midQ (downV (cbB x)))) (fromP x) = o1 at *
 generalize cmpD (fromP x) (cuQ (midQ (cbB x))) = o2 at *
 generalize cuQ (midQ (downV (cbB x))) = C1 at *
 generalize midQ (downV (cbB x)) = P1 at *
 generalize cuQ (midQ (cbB x)) = C2 at *
 generalize midQ (cbB x) = P2 at *
 generalize cbB x = bc at *
 generalize cbF x = fc at *
 generalize fromP x = p at *
 clear hf h0
 obtain ⟨s, m, e⟩ := p
 have hs1 : s = false := hs
 subst hs1
 clear hs
 dsimp only at *
 have ni4 : ¬ 0 < o1 := by omega
 have ni5 : ¬ 0 < o2 := by omega
 have nj4 : ¬ 0 < o3 := by omega
 have nj5 : ¬ 0 < o4 := by omega
 go_enter Tryz.func3, Tryz.ntmps3
 go_wp2_with fail
 refine Calls.mono HL.out ?_
 rintro q w1 ⟨rfl, bA⟩
 have hT := hTw.kept bA
 clear HL
 go_wp2_with fail
 refine Calls.mono (FX.out _) ?_
 rintro q w2 ⟨_, rfl, ⟨a, n, c, rfl, HN, hO⟩, b1⟩
 have hn : n ≤ 1024 := by rw [HN.out]; exact HLn.out
 have b2 := nT b1 (below_one w2 (.cells #[.bool false, .slice a n c, .int .i64 e] 27))
 replace bA := nT bA b2
 replace hT := hT.kept b2
 replace hO := hO.keep (below_one w2 (.cells #[.bool false, .slice a n c, .int .i64 e] 27))
 obtain ⟨k0, k1, k2⟩ := fX7 w2 a n c e
 have ZC : Hid _ := qZero_calls false a n c (wordsOf m) e _ hO.1 (by omega)
 rw [val_words, decide_eq_false HZ.out] at ZC
 clear b1 b2 FX
 go_wp2_with fail
 generalize w2.alloc (.cells #[.bool false, .slice a n c, .int .i64 e] 27) = w3 at *
 generalize w2.heap.size = D at *
 refine Calls.mono ZC.out ?_
 rintro q w4 ⟨rfl, b2⟩
 clear ZC
 replace k0 := kC b2 k0
 replace k1 := kC b2 k1
 replace k2 := kC b2 k2
 replace hO := hO.keep b2
 replace bA := nT bA b2
 replace hT := hT.kept b2
 clear b2
 go_wp2_with fail
 refine Calls.mono (CB.out _ hT) ?_
 rintro q ua ⟨rfl, b2⟩
 replace k0 := kC b2 k0
 replace k1 := kC b2 k1
 replace k2 := kC b2 k2
 replace hO := hO.keep b2
 replace bA := nT bA b2
 replace hT := hT.kept b2
 clear b2
 have b2 := below_one ua (.cells #[.int .u64 bc, .int .u8 fc] 34)
 obtain ⟨m0, m1⟩ := fX12 ua bc fc
 replace k0 := kC b2 k0
 replace k1 := kC b2 k1
 replace k2 := kC b2 k2
 replace hO := hO.keep b2
 replace bA := nT bA b2
 replace hT := hT.kept b2
 clear b2
 go_wp2_with fail
 generalize ua.alloc (.cells #[.int .u64 bc, .int .u8 fc] 34) = ub at *
 generalize ua.heap.size = R1 at *
 refine Calls.mono (M1.out _ hT) ?_
 rintro q uc ⟨_, _, rfl, ⟨a1, n1, c1, rfl, HN1, hn1, hO1⟩, ⟨a2, n2, c2, rfl, HN2, hn2, hO2⟩, b2⟩
 clear m0 m1
 replace k0 := kC b2 k0
 replace k1 := kC b2 k1
 replace k2 := kC b2 k2
 replace hO := hO.keep b2
 replace bA := nT bA b2
 replace hT := hT.kept b2
 clear b2
 have b2 : Below uc.heap.size uc ((uc.alloc (.cells #[.bool P1.1, .slice a1 n1 c1, .int .i64 P1.2.2] 27)).alloc (.cells #[.bool P2.1, .slice a2 n2 c2, .int .i64 P2.2.2] 27)) := nT (below_one _ _) (below_one _ _)
 have l0 : ((uc.alloc (.cells #[.bool P1.1, .slice a1 n1 c1, .int .i64 P1.2.2] 27)).alloc (.cells #[.bool P2.1, .slice a2 n2 c2, .int .i64 P2.2.2] 27)).cell? ⟨uc.heap.size, 0, none⟩ = some (.bool P1.1) := by go_simp
 have lf0 : ((uc.alloc (.cells #[.bool P1.1, .slice a1 n1 c1, .int .i64 P1.2.2] 27)).alloc (.cells #[.bool P2.1, .slice a2 n2 c2, .int .i64 P2.2.2] 27)).frozen? ⟨uc.heap.size, 0, none⟩ = false := by go_simp
 have l1 : ((uc.alloc (.cells #[.bool P1.1, .slice a1 n1 c1, .int .i64 P1.2.2] 27)).alloc (.cells #[.bool P2.1, .slice a2 n2 c2, .int .i64 P2.2.2] 27)).cell? ⟨uc.heap.size, 1, none⟩ = some (.slice a1 n1 c1) := by go_simp
 have lf1 : ((uc.alloc (.cells #[.bool P1.1, .slice a1 n1 c1, .int .i64 P1.2.2] 27)).alloc (.cells #[.bool P2.1, .slice a2 n2 c2, .int .i64 P2.2.2] 27)).frozen? ⟨uc.heap.size, 1, none⟩ = false := by go_simp
 have l2 : ((uc.alloc (.cells #[.bool P1.1, .slice a1 n1 c1, .int .i64 P1.2.2] 27)).alloc (.cells #[.bool P2.1, .slice a2 n2 c2, .int .i64 P2.2.2] 27)).cell? ⟨uc.heap.size, 2, none⟩ = some (.int .i64 P1.2.2) := by go_simp
 have lf2 : ((uc.alloc (.cells #[.bool P1.1, .slice a1 n1 c1, .int .i64 P1.2.2] 27)).alloc (.cells #[.bool P2.1, .slice a2 n2 c2, .int .i64 P2.2.2] 27)).frozen? ⟨uc.heap.size, 2, none⟩ = false := by go_simp
 have h0 : ((uc.alloc (.cells #[.bool P1.1, .slice a1 n1 c1, .int .i64 P1.2.2] 27)).alloc (.cells #[.bool P2.1, .slice a2 n2 c2, .int .i64 P2.2.2] 27)).cell? ⟨uc.heap.size + 1, 0, none⟩ = some (.bool P2.1) := by go_simp
 have hf0 : ((uc.alloc (.cells #[.bool P1.1, .slice a1 n1 c1, .int .i64 P1.2.2] 27)).alloc (.cells #[.bool P2.1, .slice a2 n2 c2, .int .i64 P2.2.2] 27)).frozen? ⟨uc.heap.size + 1, 0, none⟩ = false := by go_simp
 have h1 : ((uc.alloc (.cells #[.bool P1.1, .slice a1 n1 c1, .int .i64 P1.2.2] 27)).alloc (.cells #[.bool P2.1, .slice a2 n2 c2, .int .i64 P2.2.2] 27)).cell? ⟨uc.heap.size + 1, 1, none⟩ = some (.slice a2 n2 c2) := by go_simp
 have hf1 : ((uc.alloc (.cells #[.bool P1.1, .slice a1 n1 c1, .int .i64 P1.2.2] 27)).alloc (.cells #[.bool P2.1, .slice a2 n2 c2, .int .i64 P2.2.2] 27)).frozen? ⟨uc.heap.size + 1, 1, none⟩ = false := by go_simp
 have h2 : ((uc.alloc (.cells #[.bool P1.1, .slice a1 n1 c1, .int .i64 P1.2.2] 27)).alloc (.cells #[.bool P2.1, .slice a2 n2 c2, .int .i64 P2.2.2] 27)).cell? ⟨uc.heap.size + 1, 2, none⟩ = some (.int .i64 P2.2.2) := by go_simp
 have hf2 : ((uc.alloc (.cells #[.bool P1.1, .slice a1 n1 c1, .int .i64 P1.2.2] 27)).alloc (.cells #[.bool P2.1, .slice a2 n2 c2, .int .i64 P2.2.2] 27)).frozen? ⟨uc.heap.size + 1, 2, none⟩ = false := by go_simp
 have ne1 : D ≠ uc.heap.size := Nat.ne_of_lt (World.block_lt_of_cell? _ _ k0)
 have lD : w.heap.size ≤ uc.heap.size := bA.size
 have ltD : D < uc.heap.size := World.block_lt_of_cell? _ _ k0
 replace k0 := kC b2 k0
 replace k1 := kC b2 k1
 replace k2 := kC b2 k2
 replace hO := hO.keep b2
 replace hO1 := hO1.keep b2
 replace hO2 := hO2.keep b2
 replace bA := nT bA b2
 replace hT := hT.kept b2
 clear b2
 go_wp2_with fail
 generalize ((uc.alloc (.cells #[.bool P1.1, .slice a1 n1 c1, .int .i64 P1.2.2] 27)).alloc (.cells #[.bool P2.1, .slice a2 n2 c2, .int .i64 P2.2.2] 27)) = w5 at *
 generalize uc.heap.size = L at *
 have bD : Below _ w5 w5.drew := (Below.refl w5.heap.size w5).drew
 go_region_held3 (fun W => W.cell? ⟨D, 0, none⟩ = some (.bool false) ∧ W.cell? ⟨D, 1, none⟩ = some (.slice a n c) ∧ W.cell? ⟨D, 2, none⟩ = some (.int .i64 e) ∧ W.cell? ⟨L, 0, none⟩ = some (.bool P1.1) ∧ W.cell? ⟨L, 1, none⟩ = some (.slice a1 n1 c1) ∧ W.cell? ⟨L, 2, none⟩ = some (.int .i64 P1.2.2) ∧ W.cell? ⟨(L + 1), 0, none⟩ = some (.bool P2.1) ∧ W.cell? ⟨(L + 1), 1, none⟩ = some (.slice a2 n2 c2) ∧ W.cell? ⟨(L + 1), 2, none⟩ = some (.int .i64 P2.2.2))
  (first | (go_keep; done) | ((refine ⟨?_, ?_, ?_, ?_, ?_, ?_, ?_, ?_, ?_⟩ <;> (refine kC bL ?_; go_keep)); done))
  (first
   | (have _q := hX2; go_at_call 9; refine (O2.out _ a n c x2 y2 z2 (hO.1.keep bb) HN.out hX2.1 HX2.out).mono ?_; rintro r v3 ⟨rfl, bL⟩; have ga423 := True.intro; replace bb := nT bb bL)
   | (have _q := ga421; go_at_call 10; refine (U2.out _ a2 n2 c2 (hO2.1.keep bb) hn2).mono ?_; rintro r v2 ⟨_, rfl, ⟨x2, y2, z2, rfl, HX2, hX2⟩, bL⟩; replace bb := nT bb bL)
   | (have _q := hX1; go_at_call 9; refine (O1.out _ x1 y1 z1 a n c hX1.1 HX1.out (hO.1.keep bb) HN.out).mono ?_; rintro r v1 ⟨rfl, bL⟩; have ga421 := True.intro; replace bb := nT bb bL)
   | (go_at_call 10; refine (U1.out _ a1 n1 c1 (hO1.1.keep bD) hn1).mono ?_; rintro r v0 ⟨_, rfl, ⟨x1, y1, z1, rfl, HX1, hX1⟩, bL⟩; have bb := nT bD bL))
 all_goals
  clear bL O1 O2 U1 U2 M1 CB hX1 hX2 HX1 HX2
  replace lf0 := kF bb l0 lf0
  replace lf1 := kF bb l1 lf1
  replace lf2 := kF bb l2 lf2
  replace hf0 := kF bb h0 hf0
  replace hf1 := kF bb h1 hf1
  replace hf2 := kF bb h2 hf2
  replace k0 := kC bb k0
  replace k1 := kC bb k1
  replace k2 := kC bb k2
  replace l0 := kC bb l0
  replace l1 := kC bb l1
  replace l2 := kC bb l2
  replace h0 := kC bb h0
  replace h1 := kC bb h1
  replace h2 := kC bb h2
  replace hO := hO.keep bb
  replace bA := nT bA bb
  replace hT := hT.kept bb
  clear bb
  clear hO1 hO2 HN1 HN2 hn1 hn2
  go_wp2_with fail
  refine Calls.mono (SB.out _ hT) ?_
  rintro q ta ⟨rfl, b2⟩
  replace lf0 := kF b2 l0 lf0
  replace lf1 := kF b2 l1 lf1
  replace lf2 := kF b2 l2 lf2
  replace hf0 := kF b2 h0 hf0
  replace hf1 := kF b2 h1 hf1
  replace hf2 := kF b2 h2 hf2
  replace k0 := kC b2 k0
  replace k1 := kC b2 k1
  replace k2 := kC b2 k2
  replace l0 := kC b2 l0
  replace l1 := kC b2 l1
  replace l2 := kC b2 l2
  replace h0 := kC b2 h0
  replace h1 := kC b2 h1
  replace h2 := kC b2 h2
  replace hO := hO.keep b2
  replace bA := nT bA b2
  replace hT := hT.kept b2
  clear b2
  have b2 := below_one ta (.cells #[.int .u64 bs, .int .u8 fs] 34)
  obtain ⟨m0, m1⟩ := fX12 ta bs fs
  replace lf0 := kF b2 l0 lf0
  replace lf1 := kF b2 l1 lf1
  replace lf2 := kF b2 l2 lf2
  replace hf0 := kF b2 h0 hf0
  replace hf1 := kF b2 h1 hf1
  replace hf2 := kF b2 h2 hf2
  replace k0 := kC b2 k0
  replace k1 := kC b2 k1
  replace k2 := kC b2 k2
  replace l0 := kC b2 l0
  replace l1 := kC b2 l1
  replace l2 := kC b2 l2
  replace h0 := kC b2 h0
  replace h1 := kC b2 h1
  replace h2 := kC b2 h2
  replace hO := hO.keep b2
  replace bA := nT bA b2
  replace hT := hT.kept b2
  clear b2
  go_wp2_with fail
  generalize ta.alloc (.cells #[.int .u64 bs, .int .u8 fs] 34) = tb at *
  generalize ta.heap.size = R3 at *
  refine Calls.mono (M3.out _ hT) ?_
  rintro q tc ⟨_, _, rfl, ⟨a3, n3, c3, rfl, HN3, hn3, hO3⟩, ⟨a4, n4, c4, rfl, HN4, hn4, hO4⟩, b2⟩
  clear m0 m1
  replace lf0 := kF b2 l0 lf0
  replace lf1 := kF b2 l1 lf1
  replace lf2 := kF b2 l2 lf2
  replace hf0 := kF b2 h0 hf0
  replace hf1 := kF b2 h1 hf1
  replace hf2 := kF b2 h2 hf2
  replace k0 := kC b2 k0
  replace k1 := kC b2 k1
  replace k2 := kC b2 k2
  replace l0 := kC b2 l0
  replace l1 := kC b2 l1
  replace l2 := kC b2 l2
  replace h0 := kC b2 h0
  replace h1 := kC b2 h1
  replace h2 := kC b2 h2
  replace hO := hO.keep b2
  replace bA := nT bA b2
  replace hT := hT.kept b2
  clear b2
  go_wp2_with fail
  replace hO := hO.set_dy L _ _ _ _ _ (.bool P3.1) (.slice a3 n3 c3) (.int .i64 P3.2.2) l0 l1 l2
  replace hO3 := hO3.set_dy L _ _ _ _ _ (.bool P3.1) (.slice a3 n3 c3) (.int .i64 P3.2.2) l0 l1 l2
  replace hO4 := hO4.set_dy L _ _ _ _ _ (.bool P3.1) (.slice a3 n3 c3) (.int .i64 P3.2.2) l0 l1 l2
  replace k0 := set3_cell (v0 := .bool P3.1) (v1 := .slice a3 n3 c3) (v2 := .int .i64 P3.2.2) k0 ne1
  replace k1 := set3_cell (v0 := .bool P3.1) (v1 := .slice a3 n3 c3) (v2 := .int .i64 P3.2.2) k1 ne1
  replace k2 := set3_cell (v0 := .bool P3.1) (v1 := .slice a3 n3 c3) (v2 := .int .i64 P3.2.2) k2 ne1
  replace h0 := set3_cell (v0 := .bool P3.1) (v1 := .slice a3 n3 c3) (v2 := .int .i64 P3.2.2) h0 (show L + 1 ≠ L by omega)
  replace h1 := set3_cell (v0 := .bool P3.1) (v1 := .slice a3 n3 c3) (v2 := .int .i64 P3.2.2) h1 (show L + 1 ≠ L by omega)
  replace h2 := set3_cell (v0 := .bool P3.1) (v1 := .slice a3 n3 c3) (v2 := .int .i64 P3.2.2) h2 (show L + 1 ≠ L by omega)
  replace lf0 := set3_frozen (r := L) (v0 := .bool P3.1) (v1 := .slice a3 n3 c3) (v2 := .int .i64 P3.2.2) lf0
  replace lf1 := set3_frozen (r := L) (v0 := .bool P3.1) (v1 := .slice a3 n3 c3) (v2 := .int .i64 P3.2.2) lf1
  replace lf2 := set3_frozen (r := L) (v0 := .bool P3.1) (v1 := .slice a3 n3 c3) (v2 := .int .i64 P3.2.2) lf2
  replace hf0 := set3_frozen (r := L) (v0 := .bool P3.1) (v1 := .slice a3 n3 c3) (v2 := .int .i64 P3.2.2) hf0
  replace hf1 := set3_frozen (r := L) (v0 := .bool P3.1) (v1 := .slice a3 n3 c3) (v2 := .int .i64 P3.2.2) hf1
  replace hf2 := set3_frozen (r := L) (v0 := .bool P3.1) (v1 := .slice a3 n3 c3) (v2 := .int .i64 P3.2.2) hf2
  obtain ⟨l0, l1, l2⟩ := set3_same (v0 := .bool P3.1) (v1 := .slice a3 n3 c3) (v2 := .int .i64 P3.2.2) l0 l1 l2
  replace hO := hO.set_dy (L + 1) _ _ _ _ _ (.bool P4.1) (.slice a4 n4 c4) (.int .i64 P4.2.2) h0 h1 h2
  replace hO3 := hO3.set_dy (L + 1) _ _ _ _ _ (.bool P4.1) (.slice a4 n4 c4) (.int .i64 P4.2.2) h0 h1 h2
  replace hO4 := hO4.set_dy (L + 1) _ _ _ _ _ (.bool P4.1) (.slice a4 n4 c4) (.int .i64 P4.2.2) h0 h1 h2
  replace k0 := set3_cell (v0 := .bool P4.1) (v1 := .slice a4 n4 c4) (v2 := .int .i64 P4.2.2) k0 (show D ≠ L + 1 by omega)
  replace k1 := set3_cell (v0 := .bool P4.1) (v1 := .slice a4 n4 c4) (v2 := .int .i64 P4.2.2) k1 (show D ≠ L + 1 by omega)
  replace k2 := set3_cell (v0 := .bool P4.1) (v1 := .slice a4 n4 c4) (v2 := .int .i64 P4.2.2) k2 (show D ≠ L + 1 by omega)
  replace l0 := set3_cell (v0 := .bool P4.1) (v1 := .slice a4 n4 c4) (v2 := .int .i64 P4.2.2) l0 (show L ≠ L + 1 by omega)
  replace l1 := set3_cell (v0 := .bool P4.1) (v1 := .slice a4 n4 c4) (v2 := .int .i64 P4.2.2) l1 (show L ≠ L + 1 by omega)
  replace l2 := set3_cell (v0 := .bool P4.1) (v1 := .slice a4 n4 c4) (v2 := .int .i64 P4.2.2) l2 (show L ≠ L + 1 by omega)
  replace lf0 := set3_frozen (r := L + 1) (v0 := .bool P4.1) (v1 := .slice a4 n4 c4) (v2 := .int .i64 P4.2.2) lf0
  replace lf1 := set3_frozen (r := L + 1) (v0 := .bool P4.1) (v1 := .slice a4 n4 c4) (v2 := .int .i64 P4.2.2) lf1
  replace lf2 := set3_frozen (r := L + 1) (v0 := .bool P4.1) (v1 := .slice a4 n4 c4) (v2 := .int .i64 P4.2.2) lf2
  replace hf0 := set3_frozen (r := L + 1) (v0 := .bool P4.1) (v1 := .slice a4 n4 c4) (v2 := .int .i64 P4.2.2) hf0
  replace hf1 := set3_frozen (r := L + 1) (v0 := .bool P4.1) (v1 := .slice a4 n4 c4) (v2 := .int .i64 P4.2.2) hf1
  replace hf2 := set3_frozen (r := L + 1) (v0 := .bool P4.1) (v1 := .slice a4 n4 c4) (v2 := .int .i64 P4.2.2) hf2
  obtain ⟨h0, h1, h2⟩ := set3_same (v0 := .bool P4.1) (v1 := .slice a4 n4 c4) (v2 := .int .i64 P4.2.2) h0 h1 h2
  replace bA := ((((((bA.setCell (p := ⟨L, 0, none⟩) lD (.bool P3.1)).setCell (p := ⟨L, 1, none⟩) lD (.slice a3 n3 c3)).setCell (p := ⟨L, 2, none⟩) lD (.int .i64 P3.2.2)).setCell (p := ⟨L + 1, 0, none⟩) (Nat.le_succ_of_le lD) (.bool P4.1)).setCell (p := ⟨L + 1, 1, none⟩) (Nat.le_succ_of_le lD) (.slice a4 n4 c4)).setCell (p := ⟨L + 1, 2, none⟩) (Nat.le_succ_of_le lD) (.int .i64 P4.2.2))
  replace hT := hTw.kept bA
  generalize ((((((tc.setCell ⟨L, 0, none⟩ (.bool P3.1)).setCell ⟨L, 1, none⟩ (.slice a3 n3 c3)).setCell ⟨L, 2, none⟩ (.int .i64 P3.2.2)).setCell ⟨L + 1, 0, none⟩ (.bool P4.1)).setCell ⟨L + 1, 1, none⟩ (.slice a4 n4 c4)).setCell ⟨L + 1, 2, none⟩ (.int .i64 P4.2.2)) = w6 at *
  have bD : Below _ w6 w6.drew := (Below.refl w6.heap.size w6).drew
  go_region_held3 (fun W => W.cell? ⟨D, 0, none⟩ = some (.bool false) ∧ W.cell? ⟨D, 1, none⟩ = some (.slice a n c) ∧ W.cell? ⟨D, 2, none⟩ = some (.int .i64 e) ∧ W.cell? ⟨L, 0, none⟩ = some (.bool P3.1) ∧ W.cell? ⟨L, 1, none⟩ = some (.slice a3 n3 c3) ∧ W.cell? ⟨L, 2, none⟩ = some (.int .i64 P3.2.2) ∧ W.cell? ⟨(L + 1), 0, none⟩ = some (.bool P4.1) ∧ W.cell? ⟨(L + 1), 1, none⟩ = some (.slice a4 n4 c4) ∧ W.cell? ⟨(L + 1), 2, none⟩ = some (.int .i64 P4.2.2))
   (first | (go_keep; done) | ((refine ⟨?_, ?_, ?_, ?_, ?_, ?_, ?_, ?_, ?_⟩ <;> (refine kC bL ?_; go_keep)); done))
   (first
    | (have _q := hX4; go_at_call 9; refine (O4.out _ a n c x4 y4 z4 (hO.1.keep bb) HN.out hX4.1 HX4.out).mono ?_; rintro r v3 ⟨rfl, bL⟩; have ga433 := True.intro; replace bb := nT bb bL)
    | (have _q := ga431; go_at_call 12; refine (T4.out _ a4 n4 c4 a4 n4 c4 (hO4.1.keep bb) HN4.out (hO4.1.keep bb) HN4.out).mono ?_; rintro r v2 ⟨_, rfl, ⟨x4, y4, z4, rfl, HX4, hX4⟩, bL⟩; replace bb := nT bb bL)
    | (have _q := hX3; go_at_call 9; refine (O3.out _ x3 y3 z3 a n c hX3.1 HX3.out (hO.1.keep bb) HN.out).mono ?_; rintro r v1 ⟨rfl, bL⟩; have ga431 := True.intro; replace bb := nT bb bL)
    | (go_at_call 12; refine (T3.out _ a3 n3 c3 a3 n3 c3 (hO3.1.keep bD) HN3.out (hO3.1.keep bD) HN3.out).mono ?_; rintro r v0 ⟨_, rfl, ⟨x3, y3, z3, rfl, HX3, hX3⟩, bL⟩; have bb := nT bD bL))
  all_goals
   clear bL hX3 hX4 HX3 HX4 O3 O4 T3 T4 SB M3
   replace lf0 := kF bb l0 lf0
   replace lf1 := kF bb l1 lf1
   replace lf2 := kF bb l2 lf2
   replace hf0 := kF bb h0 hf0
   replace hf1 := kF bb h1 hf1
   replace hf2 := kF bb h2 hf2
   replace k0 := kC bb k0
   replace k1 := kC bb k1
   replace k2 := kC bb k2
   replace l0 := kC bb l0
   replace l1 := kC bb l1
   replace l2 := kC bb l2
   replace h0 := kC bb h0
   replace h1 := kC bb h1
   replace h2 := kC bb h2
   replace hO := hO.keep bb
   replace bA := nT bA bb
   replace hT := hT.kept bb
   clear bb
   clear hO3 hO4 HN3 HN4 hn3 hn4
   go_wp2_with fail
   refine Calls.mono (RB.out _ hT) ?_
   rintro q ya ⟨rfl, b2⟩
   replace lf0 := kF b2 l0 lf0
   replace lf1 := kF b2 l1 lf1
   replace lf2 := kF b2 l2 lf2
   replace hf0 := kF b2 h0 hf0
   replace hf1 := kF b2 h1 hf1
   replace hf2 := kF b2 h2 hf2
   replace k0 := kC b2 k0
   replace k1 := kC b2 k1
   replace k2 := kC b2 k2
   replace l0 := kC b2 l0
   replace l1 := kC b2 l1
   replace l2 := kC b2 l2
   replace h0 := kC b2 h0
   replace h1 := kC b2 h1
   replace h2 := kC b2 h2
   replace hO := hO.keep b2
   replace bA := nT bA b2
   replace hT := hT.kept b2
   clear b2
   have b2 := below_one ya (.cells #[.int .u64 bq, .int .u8 fq] 34)
   obtain ⟨m0, m1⟩ := fX12 ya bq fq
   replace lf0 := kF b2 l0 lf0
   replace lf1 := kF b2 l1 lf1
   replace lf2 := kF b2 l2 lf2
   replace hf0 := kF b2 h0 hf0
   replace hf1 := kF b2 h1 hf1
   replace hf2 := kF b2 h2 hf2
   replace k0 := kC b2 k0
   replace k1 := kC b2 k1
   replace k2 := kC b2 k2
   replace l0 := kC b2 l0
   replace l1 := kC b2 l1
   replace l2 := kC b2 l2
   replace h0 := kC b2 h0
   replace h1 := kC b2 h1
   replace h2 := kC b2 h2
   replace hO := hO.keep b2
   replace bA := nT bA b2
   replace hT := hT.kept b2
   clear b2
   go_wp2_with fail
   generalize ya.alloc (.cells #[.int .u64 bq, .int .u8 fq] 34) = yb at *
   generalize ya.heap.size = R5 at *
   refine Calls.mono (M5.out _ hT) ?_
   rintro q yc ⟨_, _, rfl, ⟨a5, n5, c5, rfl, HN5, hn5, hO5⟩, ⟨a6, n6, c6, rfl, HN6, hn6, hO6⟩, b2⟩
   clear m0 m1
   replace lf0 := kF b2 l0 lf0
   replace lf1 := kF b2 l1 lf1
   replace lf2 := kF b2 l2 lf2
   replace hf0 := kF b2 h0 hf0
   replace hf1 := kF b2 h1 hf1
   replace hf2 := kF b2 h2 hf2
   replace k0 := kC b2 k0
   replace k1 := kC b2 k1
   replace k2 := kC b2 k2
   replace l0 := kC b2 l0
   replace l1 := kC b2 l1
   replace l2 := kC b2 l2
   replace h0 := kC b2 h0
   replace h1 := kC b2 h1
   replace h2 := kC b2 h2
   replace hO := hO.keep b2
   replace bA := nT bA b2
   replace hT := hT.kept b2
   clear b2
   go_wp2_with fail
   replace hO := hO.set_dy L _ _ _ _ _ (.bool P5.1) (.slice a5 n5 c5) (.int .i64 P5.2.2) l0 l1 l2
   replace hO5 := hO5.set_dy L _ _ _ _ _ (.bool P5.1) (.slice a5 n5 c5) (.int .i64 P5.2.2) l0 l1 l2
   replace hO6 := hO6.set_dy L _ _ _ _ _ (.bool P5.1) (.slice a5 n5 c5) (.int .i64 P5.2.2) l0 l1 l2
   replace k0 := set3_cell (v0 := .bool P5.1) (v1 := .slice a5 n5 c5) (v2 := .int .i64 P5.2.2) k0 ne1
   replace k1 := set3_cell (v0 := .bool P5.1) (v1 := .slice a5 n5 c5) (v2 := .int .i64 P5.2.2) k1 ne1
   replace k2 := set3_cell (v0 := .bool P5.1) (v1 := .slice a5 n5 c5) (v2 := .int .i64 P5.2.2) k2 ne1
   replace h0 := set3_cell (v0 := .bool P5.1) (v1 := .slice a5 n5 c5) (v2 := .int .i64 P5.2.2) h0 (show L + 1 ≠ L by omega)
   replace h1 := set3_cell (v0 := .bool P5.1) (v1 := .slice a5 n5 c5) (v2 := .int .i64 P5.2.2) h1 (show L + 1 ≠ L by omega)
   replace h2 := set3_cell (v0 := .bool P5.1) (v1 := .slice a5 n5 c5) (v2 := .int .i64 P5.2.2) h2 (show L + 1 ≠ L by omega)
   replace lf0 := set3_frozen (r := L) (v0 := .bool P5.1) (v1 := .slice a5 n5 c5) (v2 := .int .i64 P5.2.2) lf0
   replace lf1 := set3_frozen (r := L) (v0 := .bool P5.1) (v1 := .slice a5 n5 c5) (v2 := .int .i64 P5.2.2) lf1
   replace lf2 := set3_frozen (r := L) (v0 := .bool P5.1) (v1 := .slice a5 n5 c5) (v2 := .int .i64 P5.2.2) lf2
   replace hf0 := set3_frozen (r := L) (v0 := .bool P5.1) (v1 := .slice a5 n5 c5) (v2 := .int .i64 P5.2.2) hf0
   replace hf1 := set3_frozen (r := L) (v0 := .bool P5.1) (v1 := .slice a5 n5 c5) (v2 := .int .i64 P5.2.2) hf1
   replace hf2 := set3_frozen (r := L) (v0 := .bool P5.1) (v1 := .slice a5 n5 c5) (v2 := .int .i64 P5.2.2) hf2
   obtain ⟨l0, l1, l2⟩ := set3_same (v0 := .bool P5.1) (v1 := .slice a5 n5 c5) (v2 := .int .i64 P5.2.2) l0 l1 l2
   replace hO := hO.set_dy (L + 1) _ _ _ _ _ (.bool P6.1) (.slice a6 n6 c6) (.int .i64 P6.2.2) h0 h1 h2
   replace hO5 := hO5.set_dy (L + 1) _ _ _ _ _ (.bool P6.1) (.slice a6 n6 c6) (.int .i64 P6.2.2) h0 h1 h2
   replace hO6 := hO6.set_dy (L + 1) _ _ _ _ _ (.bool P6.1) (.slice a6 n6 c6) (.int .i64 P6.2.2) h0 h1 h2
   replace k0 := set3_cell (v0 := .bool P6.1) (v1 := .slice a6 n6 c6) (v2 := .int .i64 P6.2.2) k0 (show D ≠ L + 1 by omega)
   replace k1 := set3_cell (v0 := .bool P6.1) (v1 := .slice a6 n6 c6) (v2 := .int .i64 P6.2.2) k1 (show D ≠ L + 1 by omega)
   replace k2 := set3_cell (v0 := .bool P6.1) (v1 := .slice a6 n6 c6) (v2 := .int .i64 P6.2.2) k2 (show D ≠ L + 1 by omega)
   replace l0 := set3_cell (v0 := .bool P6.1) (v1 := .slice a6 n6 c6) (v2 := .int .i64 P6.2.2) l0 (show L ≠ L + 1 by omega)
   replace l1 := set3_cell (v0 := .bool P6.1) (v1 := .slice a6 n6 c6) (v2 := .int .i64 P6.2.2) l1 (show L ≠ L + 1 by omega)
   replace l2 := set3_cell (v0 := .bool P6.1) (v1 := .slice a6 n6 c6) (v2 := .int .i64 P6.2.2) l2 (show L ≠ L + 1 by omega)
   replace lf0 := set3_frozen (r := L + 1) (v0 := .bool P6.1) (v1 := .slice a6 n6 c6) (v2 := .int .i64 P6.2.2) lf0
   replace lf1 := set3_frozen (r := L + 1) (v0 := .bool P6.1) (v1 := .slice a6 n6 c6) (v2 := .int .i64 P6.2.2) lf1
   replace lf2 := set3_frozen (r := L + 1) (v0 := .bool P6.1) (v1 := .slice a6 n6 c6) (v2 := .int .i64 P6.2.2) lf2
   replace hf0 := set3_frozen (r := L + 1) (v0 := .bool P6.1) (v1 := .slice a6 n6 c6) (v2 := .int .i64 P6.2.2) hf0
   replace hf1 := set3_frozen (r := L + 1) (v0 := .bool P6.1) (v1 := .slice a6 n6 c6) (v2 := .int .i64 P6.2.2) hf1
   replace hf2 := set3_frozen (r := L + 1) (v0 := .bool P6.1) (v1 := .slice a6 n6 c6) (v2 := .int .i64 P6.2.2) hf2
   obtain ⟨h0, h1, h2⟩ := set3_same (v0 := .bool P6.1) (v1 := .slice a6 n6 c6) (v2 := .int .i64 P6.2.2) h0 h1 h2
   replace bA := ((((((bA.setCell (p := ⟨L, 0, none⟩) lD (.bool P5.1)).setCell (p := ⟨L, 1, none⟩) lD (.slice a5 n5 c5)).setCell (p := ⟨L, 2, none⟩) lD (.int .i64 P5.2.2)).setCell (p := ⟨L + 1, 0, none⟩) (Nat.le_succ_of_le lD) (.bool P6.1)).setCell (p := ⟨L + 1, 1, none⟩) (Nat.le_succ_of_le lD) (.slice a6 n6 c6)).setCell (p := ⟨L + 1, 2, none⟩) (Nat.le_succ_of_le lD) (.int .i64 P6.2.2))
   replace hT := hTw.kept bA
   generalize ((((((yc.setCell ⟨L, 0, none⟩ (.bool P5.1)).setCell ⟨L, 1, none⟩ (.slice a5 n5 c5)).setCell ⟨L, 2, none⟩ (.int .i64 P5.2.2)).setCell ⟨L + 1, 0, none⟩ (.bool P6.1)).setCell ⟨L + 1, 1, none⟩ (.slice a6 n6 c6)).setCell ⟨L + 1, 2, none⟩ (.int .i64 P6.2.2)) = w8 at *
   refine Calls.mono (IN.out _) ?_
   rintro q w9 ⟨_, rfl, ⟨ai, ni, ci, rfl, HI, hI⟩, b2⟩
   replace k0 := kC b2 k0
   replace k1 := kC b2 k1
   replace k2 := kC b2 k2
   replace l0 := kC b2 l0
   replace l1 := kC b2 l1
   replace l2 := kC b2 l2
   replace h0 := kC b2 h0
   replace h1 := kC b2 h1
   replace h2 := kC b2 h2
   replace hO := hO.keep b2
   replace hO5 := hO5.keep b2
   replace hO6 := hO6.keep b2
   replace bA := nT bA b2
   replace hT := hT.kept b2
   clear b2
   have b2 := below_one w9 (.cells #[.bool I1.1, .slice ai ni ci, .int .i64 I1.2.2] 27)
   obtain ⟨g0, g1, g2⟩ := fX10 w9 I1 ai ni ci
   replace k0 := kC b2 k0
   replace k1 := kC b2 k1
   replace k2 := kC b2 k2
   replace l0 := kC b2 l0
   replace l1 := kC b2 l1
   replace l2 := kC b2 l2
   replace h0 := kC b2 h0
   replace h1 := kC b2 h1
   replace h2 := kC b2 h2
   replace hO := hO.keep b2
   replace hO5 := hO5.keep b2
   replace hO6 := hO6.keep b2
   replace hI := hI.keep b2
   replace bA := nT bA b2
   replace hT := hT.kept b2
   clear b2
   go_wp2_with fail
   generalize w9.alloc (.cells #[.bool I1.1, .slice ai ni ci, .int .i64 I1.2.2] 27) = w10 at *
   generalize w9.heap.size = G at *
   have bD : Below _ w10 w10.drew := (Below.refl w10.heap.size w10).drew
   go_region_held3 (fun W => W.cell? ⟨D, 0, none⟩ = some (.bool false) ∧ W.cell? ⟨D, 1, none⟩ = some (.slice a n c) ∧ W.cell? ⟨D, 2, none⟩ = some (.int .i64 e) ∧ W.cell? ⟨L, 0, none⟩ = some (.bool P5.1) ∧ W.cell? ⟨L, 1, none⟩ = some (.slice a5 n5 c5) ∧ W.cell? ⟨L, 2, none⟩ = some (.int .i64 P5.2.2) ∧ W.cell? ⟨(L + 1), 0, none⟩ = some (.bool P6.1) ∧ W.cell? ⟨(L + 1), 1, none⟩ = some (.slice a6 n6 c6) ∧ W.cell? ⟨(L + 1), 2, none⟩ = some (.int .i64 P6.2.2) ∧ W.cell? ⟨G, 0, none⟩ = some (.bool I1.1) ∧ W.cell? ⟨G, 1, none⟩ = some (.slice ai ni ci) ∧ W.cell? ⟨G, 2, none⟩ = some (.int .i64 I1.2.2))
    (first | (go_keep; done) | ((refine ⟨?_, ?_, ?_, ?_, ?_, ?_, ?_, ?_, ?_, ?_, ?_, ?_⟩ <;> (refine kC bL ?_; go_keep)); done))
    (first
     | (have _q := hX8; go_at_call 9; refine (O6.out _ ai ni ci x8 y8 z8 (hI.1.keep bb) HI.out hX8.1 HX8.out).mono ?_; rintro r v5 ⟨rfl, bL⟩; have ga645 := True.intro; replace bb := nT bb bL)
     | (have _q := hX6; go_at_call 12; refine (T8.out _ a n c x6 y6 z6 (hO.1.keep bb) HN.out hX6.1 HX6.out).mono ?_; rintro r v4 ⟨_, rfl, ⟨x8, y8, z8, rfl, HX8, hX8⟩, bL⟩; replace bb := nT bb bL)
     | (have _q := ga642; go_at_call 12; refine (T6.out _ a6 n6 c6 a6 n6 c6 (hO6.1.keep bb) HN6.out (hO6.1.keep bb) HN6.out).mono ?_; rintro r v3 ⟨_, rfl, ⟨x6, y6, z6, rfl, HX6, hX6⟩, bL⟩; replace bb := nT bb bL)
     | (have _q := hX7; go_at_call 9; refine (O5.out _ x7 y7 z7 ai ni ci hX7.1 HX7.out (hI.1.keep bb) HI.out).mono ?_; rintro r v2 ⟨rfl, bL⟩; have ga642 := True.intro; replace bb := nT bb bL)
     | (have _q := hX5; go_at_call 12; refine (T7.out _ a n c x5 y5 z5 (hO.1.keep bb) HN.out hX5.1 HX5.out).mono ?_; rintro r v1 ⟨_, rfl, ⟨x7, y7, z7, rfl, HX7, hX7⟩, bL⟩; replace bb := nT bb bL)
     | (go_at_call 12; refine (T5.out _ a5 n5 c5 a5 n5 c5 (hO5.1.keep bD) HN5.out (hO5.1.keep bD) HN5.out).mono ?_; rintro r v0 ⟨_, rfl, ⟨x5, y5, z5, rfl, HX5, hX5⟩, bL⟩; have bb := nT bD bL))
   all_goals
    replace bA := nT bA bb
    go_wp2_with fail
    go_ret
    exact ⟨rfl, bA⟩
set_option maxRecDepth 100000 in
set_option maxHeartbeats 8000000 in
theorem algBetween_walk (x : Int) (w : World) (hx : U x) (hTw : Tab w) :
  Calls Tryz.prog 3 #[.int .u64 x] w fun q w' => q = .returned (.bool true) ∧ Below w.heap.size w w' := by
 cases hf : finB x with
 | false =>
  have HL : Hid _ := alLives_calls w hTw
  have FX : Hid _ := fun W => qfrom_calls x W hx
  rw [(last_no hf).1] at FX
  generalize fromP x = p at *
  clear hf
  go_enter Tryz.func3, Tryz.ntmps3
  go_wp2_with fail
  refine Calls.mono HL.out ?_
  rintro q w1 ⟨rfl, bA⟩
  go_wp2_with fail
  refine Calls.mono (FX.out _) ?_
  rintro q w2 ⟨_, rfl, ⟨a, n, c, rfl, HN, hO⟩, b1⟩
  replace bA := nT (nT bA b1) (below_one w2 (.cells #[.bool p.1, .slice a n c, .int .i64 p.2.2] 27))
  go_wp2_with fail
  go_ret
  exact ⟨rfl, bA⟩
 | true =>
  by_cases h0 : (fromP x).2.1 = 0
  ·have HL : Hid _ := alLives_calls w hTw
   have FX : Hid _ := fun W => qfrom_calls x W hx
   rw [last_yes hf] at FX
   have HLn : Hid ((wordsOf (fromP x).2.1).length ≤ 1024) := (great_len _).1 (rightB_yes (fa_right x)).1
   have HZ : Hid ((fromP x).2.1 = 0) := h0
   generalize fromP x = p at *
   clear hf h0
   go_enter Tryz.func3, Tryz.ntmps3
   go_wp2_with fail
   refine Calls.mono HL.out ?_
   rintro q w1 ⟨rfl, bA⟩
   go_wp2_with fail
   refine Calls.mono (FX.out _) ?_
   rintro q w2 ⟨_, rfl, ⟨a, n, c, rfl, HN, hO⟩, b1⟩
   have hn : n ≤ 1024 := by rw [HN.out]; exact HLn.out
   replace bA := nT (nT bA b1) (below_one w2 (.cells #[.bool p.1, .slice a n c, .int .i64 p.2.2] 27))
   replace hO := hO.keep (below_one w2 (.cells #[.bool p.1, .slice a n c, .int .i64 p.2.2] 27))
   have ZC : Hid _ := qZero_calls p.1 a n c (wordsOf p.2.1) p.2.2 _ hO.1 (by omega)
   rw [val_words, decide_eq_true HZ.out] at ZC
   clear hO HN hn
   go_wp2_with fail
   refine Calls.mono ZC.out ?_
   rintro q w3 ⟨rfl, b2⟩
   replace bA := nT bA b2
   go_wp2_with fail
   go_ret
   exact ⟨rfl, bA⟩
  ·cases hs : (fromP x).1 with
   | true => exact bt_true x w hx hTw hf h0 hs
   | false => exact bt_false x w hx hTw hf h0 hs
end Go.Proofs.YtionhpedghmecaaGreatDoor

/- Package consts: the terms of a series of odd powers. -/
import Derived.Test.YtkkldnnndlpblaaGreatDoorCF1
import Derived.Deep.RegionWith
namespace Go.Proofs.YtkkldnnndlpblaaGreatDoor
open Go.RowKit Ck

theorem Ks.drew {S : Nat → Prop} {x w : World} (h : Ks S x w) : Ks S x w.drew := h
theorem Ks.step {S : Nat → Prop} {x y z : World} (h : Ks S x y) (k : Below y.heap.size y z) : Ks S x z := h.trans (Ks.of_below k)
/-- what the boxes of a series of odd powers hold -/
def BoxP (w : World) (bq bn bp bt : Nat) (qa : Option Addr) (qn qc : Nat) (n : Int) (tn : Bool) (kd t a : Int) (o : Bool) : Prop :=
  w.cell? ⟨bq, 0, none⟩ = some (.slice qa qn qc) ∧ w.frozen? ⟨bq, 0, none⟩ = false ∧ w.cell? ⟨bn, 0, none⟩ = some (.int .u64 n) ∧ w.frozen? ⟨bn, 0, none⟩ = false ∧ w.cell? ⟨bt, 0, none⟩ = some (.bool tn) ∧ w.frozen? ⟨bt, 0, none⟩ = false ∧ PAt w bp 0 kd t a o
theorem BoxP.keep {w w' : World} {bq bn bp bt : Nat} {qa : Option Addr} {qn qc : Nat} {n : Int} {tn : Bool} {kd t a : Int} {o : Bool} (h : BoxP w bq bn bp bt qa qn qc n tn kd t a o) (b : Below w.heap.size w w') : BoxP w' bq bn bp bt qa qn qc n tn kd t a o := by
  obtain ⟨h1, h2, h3, h4, h5, h6, h7⟩ := h
  exact ⟨cKeep b h1, fKeep b h1 h2, cKeep b h3, fKeep b h3 h4, cKeep b h5, fKeep b h5 h6, h7.keepS (Ks.of_below (S := fun _ => False) b) (fun e => e)⟩

set_option maxRecDepth 100000 in
set_option maxHeartbeats 4000000 in
theorem pow1_calls (bq bn bp bt : Nat) (qa : Option Addr) (qn qc q n : Nat) (kd t : Int) (a : Nat) (o tn : Bool) (w : World) (d1 : bq ≠ bn) (d2 : bp ≠ bq) (d3 : bp ≠ bn) (d4 : bt ≠ bq) (d5 : bt ≠ bn) (d6 : bt ≠ bp)
    (C : BoxP w bq bn bp bt qa qn qc (n : Int) tn kd t (a : Int) o)
    (hQ : IsW w qa qn qc (wordsOf q)) (hl : qn ≤ 1024) (hg : greatB q = false) (hn0 : 0 < n) (hN : n < 40000) (ha0 : 0 < a) (ha : a < 65536) :
    Calls Tryz.prog 164 #[.pointer (some ⟨bq, 0, none⟩), .pointer (some ⟨bn, 0, none⟩), .pointer (some ⟨bp, 0, none⟩), .pointer (some ⟨bt, 0, none⟩)] w fun r w' =>
      ∃ (ao : Option Addr) (m c : Nat) (qa2 : Option Addr) (qn2 qc2 : Nat), r = .returned (.tuple #[.slice ao m c, .int .i64 (sdI o tn)]) ∧ m ≤ 1024 ∧ IsW w' ao m c (wordsOf (q / n)) ∧ NwA w.heap.size ao m ∧ Ks (fun k => k = bq ∨ k = bn ∨ k = bt) w w' ∧
      BoxP w' bq bn bp bt qa2 qn2 qc2 ((n : Int) + 2) (kd == 0 && !tn) kd t (a : Int) o ∧ qn2 ≤ 1024 ∧ IsW w' qa2 qn2 qc2 (wordsOf (q / (a * a))) ∧ NwA w.heap.size qa2 qn2 := by
  have hw : IntKind.u64.wrap ((n : Int) + 2) = (n : Int) + 2 := by rw [IntKind.wrap_u64]; omega
  have haa : a * a ≤ 65535 * 65535 := Nat.mul_le_mul (by omega) (by omega)
  have hw2 : IntKind.u64.wrap ((a : Int) * (a : Int)) = ((a * a : Nat) : Int) := by rw [IntKind.wrap_u64, ← Int.natCast_mul]; omega
  have gn : greatB n = false := cf_great (k := 64) (by omega) (by decide)
  have ga : greatB (a * a) = false := cf_great (k := 64) (by omega) (by decide)
  have haa0 : 0 < a * a := Nat.mul_pos ha0 ha0
  have K : Ks (fun k => k = bq ∨ k = bn ∨ k = bt) w w := Ks.of_below (Below.refl _ _)
  obtain ⟨cq, fq, cn, fn, ct, ft, cp0, cp1, cp2, cp3⟩ := id C
  have hv : bq < w.heap.size := World.block_lt_of_cell? _ _ cq
  have hv2 : bn < w.heap.size := World.block_lt_of_cell? _ _ cn
  have hv3 : bt < w.heap.size := World.block_lt_of_cell? _ _ ct
  have bI : Below w.heap.size w w.drew := (Below.refl _ _).drew
  go_enter Tryz.func164, Tryz.ntmps164
  go_wp2_with fail
  go_region_held3 (fun W => W.cell? ⟨bq, 0, none⟩ = some (.slice qa qn qc) ∧ W.cell? ⟨bn, 0, none⟩ = some (.int .u64 (n : Int)) ∧ W.cell? ⟨bt, 0, none⟩ = some (.bool tn) ∧ W.cell? ⟨bp, 0, none⟩ = some (.int .u8 kd) ∧ W.cell? ⟨bp, 0 + 1, none⟩ = some (.int .u64 t) ∧ W.cell? ⟨bp, 0 + 2, none⟩ = some (.int .u64 (a : Int)) ∧ W.cell? ⟨bp, 0 + 3, none⟩ = some (.bool o))
    (first | (go_keep; done) | ((refine ⟨?_, ?_, ?_, ?_, ?_, ?_, ?_⟩ <;> (refine cKeep bL ?_; go_keep)); done))
    (first
      | (have _q := ga1; go_at_call 163; refine (side_calls _ _ _ _ _ _).mono ?_; rintro r wC ⟨rfl, bL⟩; have b3 := below_trans b2 bL; replace hO2 := hO2.keep bL)
      | (have _q := ga0; go_at_call 103; refine (fOver_calls hQ2 hO1.1 hl hm1 hg gn (by omega)).mono ?_; rintro r wB ⟨a2, m2, c2, rfl, hm2, hO2, bL⟩; have b2 := below_trans b1 bL; have ga1 := True.intro)
      | (go_at_call 43; refine (of_eq n (by omega) (by omega)).mono ?_; rintro r wA ⟨a1, m1, c1, rfl, hm1, hO1, bL⟩; have b1 := below_trans bI bL; have hQ2 := hQ.keepB b1; have z1 := b1.size; have ga0 := True.intro))
  have N2 := hO2.nw.low z1
  have J2 := hO2.1
  clear hO2 hO1 hQ2
  obtain ⟨cq, fq, cn, fn, ct, ft, cp⟩ := C.keep b3
  have hQ3 := hQ.keepB b3
  have cpP := cp
  obtain ⟨cp0, cp1, cp2, cp3⟩ := cp
  have z3 := b3.size
  replace K : Ks (fun k => k = bq ∨ k = bn ∨ k = bt) w wC := Ks.of_below b3
  clear b1 b2 bI
  go_wp2_with fail
  have kS : Ks (fun k => k = bq) wC wC.drew := Ks.of_below ((Below.refl _ _).drew)
  have bD : Below wC.heap.size wC wC.drew := (Below.refl _ _).drew
  refine wp_region_held (S := fun w' => Ks (fun k => k = bq) wC w') (by kernel_rfl) ?_
  change wpAnyH _ _ _ _ _ _ _ _ (World.drew wC)
  generalize World.drew wC = wd at kS bD ⊢
  refine wpAnyH_take (i := 1) (v := .pointer (some ⟨bp, 2, none⟩)) rfl (by kernel_rfl) (by kernel_rfl) (by kernel_rfl) (fun _ _ _ h => h) (Or.inl ⟨by rfl, ?y1⟩) kS ?r1
  case y1 =>
    intro ww hS
    clear hS
    go_simp
    try first | (with_reducible rfl) | rfl
  try simp only [Act.put, List.setIfInBounds_toArray]
  refine wpAnyH_take (i := 2) (v := .int .u64 (a : Int)) rfl (by kernel_rfl) (by kernel_rfl) (by kernel_rfl) (fun _ _ _ h => h) (Or.inl ⟨by rfl, ?y2⟩) kS ?r2
  case y2 =>
    intro ww hS
    have q0 := hS.cell cp2 d2
    clear hS
    go_simp
    try first | (with_reducible rfl) | rfl
  try simp only [Act.put]
  refine wpAnyH_take (i := 3) (v := .pointer (some ⟨bp, 2, none⟩)) rfl (by kernel_rfl) (by kernel_rfl) (by kernel_rfl) (fun _ _ _ h => h) (Or.inl ⟨by rfl, ?y3⟩) kS ?r3
  case y3 =>
    intro ww hS
    clear hS
    go_simp
    try first | (with_reducible rfl) | rfl
  try simp only [Act.put]
  refine wpAnyH_take (i := 4) (v := .int .u64 (a : Int)) rfl (by kernel_rfl) (by kernel_rfl) (by kernel_rfl) (fun _ _ _ h => h) (Or.inl ⟨by rfl, ?y4⟩) kS ?r4
  case y4 =>
    intro ww hS
    have q0 := hS.cell cp2 d2
    clear hS
    go_simp
    try first | (with_reducible rfl) | rfl
  try simp only [Act.put]
  refine wpAnyH_take (i := 5) (v := .int .u64 ((a * a : Nat) : Int)) rfl (by kernel_rfl) (by kernel_rfl) (by kernel_rfl) (fun _ _ _ h => h) (Or.inl ⟨by rfl, ?y5⟩) kS ?r5
  case y5 =>
    intro ww hS
    clear hS
    go_simp
    try first | (with_reducible rfl) | rfl
  try simp only [Act.put]
  refine wpAnyH_ready (rs := [0, 6]) (by kernel_rfl) (by simp) ?_
  refine AllReadyH.cons rfl (fun K hK => ?_) (AllReadyH.cons rfl (fun K hK => ?_) AllReadyH.nil)
  · have q0 := cKeep bD cq
    go_simp
    refine hK.out _ _ kS (fun _ => ?_)
    clear hK K
    try simp only [Act.put, List.setIfInBounds_toArray, List.set_cons_zero, List.set_cons_succ]
    refine wpAnyH_ready (rs := [6]) (by kernel_rfl) (by simp) ?_
    refine AllReadyH.cons rfl (fun K hK => ?_) AllReadyH.nil
    go_simp
    refine Calls.mono (of_eq (a * a) (by omega) (by omega)) ?_
    rintro r wE ⟨a4, m4, c4, rfl, hm4, hO4, bN⟩
    have bE := below_trans bD bN
    refine hK.out _ _ (Ks.of_below bE) (fun _ => ?_)
    clear hK K
    try simp only [Act.put, List.setIfInBounds_toArray, List.set_cons_zero, List.set_cons_succ]
    have hQ4 := hQ3.keepB bE
    have zE := bE.size
    refine wpAnyH_ready (rs := [7]) (by kernel_rfl) (by simp) ?_
    refine AllReadyH.cons rfl (fun K hK => ?_) AllReadyH.nil
    go_simp
    refine Calls.mono (fOver_calls hQ4 hO4.1 hl hm4 hg ga (by omega)) ?_
    rintro r wF ⟨a5, m5, c5, rfl, hm5, hO5, bN2⟩
    have bF := below_trans bE bN2
    refine hK.out _ _ (Ks.of_below bF) (fun _ => ?_)
    clear hK K
    try simp only [Act.put, List.setIfInBounds_toArray, List.set_cons_zero, List.set_cons_succ]
    have q1 := cKeep bF cq
    have q2 := fKeep bF cq fq
    refine wpAnyH_ready (rs := [8]) (by kernel_rfl) (by simp) ?_
    refine AllReadyH.cons rfl (fun K hK => ?_) AllReadyH.nil
    go_simp
    obtain ⟨t1, t2, t3⟩ := st1 (S := fun k => k = bq) (.slice a5 m5 c5) q1 q2 rfl
    have kF := (Ks.of_below (S := fun k => k = bq) bF).trans t3
    refine hK.out _ _ kF (fun _ => ?_)
    clear hK K
    try simp only [Act.put, List.setIfInBounds_toArray, List.set_cons_zero, List.set_cons_succ]
    refine wpAnyH_done (by kernel_rfl) ?_ _
    have x1 := t3.cell (cKeep bF cn) (fun e => d1 e.symm)
    have x2 := t3.frozen (cKeep bF cn) (fun e => d1 e.symm) (fKeep bF cn fn)
    have x3 := t3.cell (cKeep bF ct) d4
    have x4 := t3.frozen (cKeep bF ct) d4 (fKeep bF ct ft)
    have P5 := (cpP.keepS (Ks.of_below (S := fun k => k = bq) bF) d2).keepS t3 d2
    have J5 := (J2.keepB bF).keepS (N2.noS (fun b e => by rw [e]; exact hv)) t3
    have Q5 := hO5.1.keepS (hO5.nw.noS (fun b e => by rw [e]; omega)) t3
    have N5 := hO5.nw.low (Nat.le_trans z3 zE)
    have K5 := K.trans (kF.mono (fun _ _ e => Or.inl e))
    clear t3 kF q1 q2 hO5 bF bE bN2 hQ4 hO4 cq fq cn fn ct ft cpP cp0 cp1 cp2 cp3 J2 hQ3 kS bD C hQ b3 bL
    generalize wF.setCell ⟨bq, 0, none⟩ (.slice a5 m5 c5) = v2 at *
    obtain ⟨y1, y2, y3⟩ := st1 (S := fun k => k = bn) (.int .u64 ((n : Int) + 2)) x1 x2 rfl
    have g3 := y3.cell x3 d5
    have g4 := y3.frozen x3 d5 x4
    have gP := P5.keepS y3 d3
    obtain ⟨gp0, gp1, gp2, gp3⟩ := id gP
    obtain ⟨h1, h2, h3⟩ := st1 (S := fun k => k = bt) (.bool (kd == 0 && !tn)) g3 g4 rfl
    have J6 := (J5.keepS (N2.noS (fun b e => by rw [e]; exact hv2)) y3).keepS (N2.noS (fun b e => by rw [e]; exact hv3)) h3
    have Q6 := (Q5.keepS (N5.noS (fun b e => by rw [e]; exact hv2)) y3).keepS (N5.noS (fun b e => by rw [e]; exact hv3)) h3
    have P6 := gP.keepS h3 (fun e => d6 e.symm)
    have k1 := h3.cell (y3.cell t1 d1) (fun e => d4 e.symm)
    have k2 := h3.frozen (y3.cell t1 d1) (fun e => d4 e.symm) (y3.frozen t1 d1 t2)
    have k3 := h3.cell y1 (fun e => d5 e.symm)
    have k4 := h3.frozen y1 (fun e => d5 e.symm) y2
    have K6 := (K5.trans (y3.mono (fun _ _ e => Or.inr (Or.inl e)))).trans (h3.mono (fun _ _ e => Or.inr (Or.inr e)))
    clear y3 h3 J5 Q5 P5 K5 gP
    have FIN : Hid _ := (⟨J6, N2, K6, ⟨k1, k2, k3, k4, h1, h2, P6⟩, Q6, N5⟩ : _ ∧ _ ∧ _ ∧ BoxP _ bq bn bp bt a5 m5 c5 ((n : Int) + 2) (kd == 0 && !tn) kd t (a : Int) o ∧ _ ∧ _)
    clear J6 K6 k1 k2 k3 k4 h1 h2 P6 Q6
    rcases Bool.eq_false_or_eq_true (kd == 0) with hk | hk
    all_goals
      rw [hk] at FIN
      try rw [Bool.true_and] at FIN
      try rw [Bool.false_and] at FIN
      go_wp2_with fail
      go_ret2
      obtain ⟨f1, f2, f3, f4, f5, f6⟩ := FIN.out
      exact ⟨a2, m2, c2, a5, m5, c5, rfl, hm2, f1, f2, f3, by simpa [hk] using f4, hm5, f5, f6⟩
  · go_simp
    refine Calls.mono (of_eq (a * a) (by omega) (by omega)) ?_
    rintro r wE ⟨a4, m4, c4, rfl, hm4, hO4, bN⟩
    have bE := below_trans bD bN
    refine hK.out _ _ (Ks.of_below bE) (fun _ => ?_)
    clear hK K
    try simp only [Act.put, List.setIfInBounds_toArray, List.set_cons_zero, List.set_cons_succ]
    refine wpAnyH_ready (rs := [0]) (by kernel_rfl) (by simp) ?_
    refine AllReadyH.cons rfl (fun K hK => ?_) AllReadyH.nil
    have q0 := cKeep bE cq
    go_simp
    refine hK.out _ _ (Ks.of_below bE) (fun _ => ?_)
    clear hK K
    try simp only [Act.put, List.setIfInBounds_toArray, List.set_cons_zero, List.set_cons_succ]
    have hQ4 := hQ3.keepB bE
    have zE := bE.size
    refine wpAnyH_ready (rs := [7]) (by kernel_rfl) (by simp) ?_
    refine AllReadyH.cons rfl (fun K hK => ?_) AllReadyH.nil
    go_simp
    refine Calls.mono (fOver_calls hQ4 hO4.1 hl hm4 hg ga (by omega)) ?_
    rintro r wF ⟨a5, m5, c5, rfl, hm5, hO5, bN2⟩
    have bF := below_trans bE bN2
    refine hK.out _ _ (Ks.of_below bF) (fun _ => ?_)
    clear hK K
    try simp only [Act.put, List.setIfInBounds_toArray, List.set_cons_zero, List.set_cons_succ]
    have q1 := cKeep bF cq
    have q2 := fKeep bF cq fq
    refine wpAnyH_ready (rs := [8]) (by kernel_rfl) (by simp) ?_
    refine AllReadyH.cons rfl (fun K hK => ?_) AllReadyH.nil
    go_simp
    obtain ⟨t1, t2, t3⟩ := st1 (S := fun k => k = bq) (.slice a5 m5 c5) q1 q2 rfl
    have kF := (Ks.of_below (S := fun k => k = bq) bF).trans t3
    refine hK.out _ _ kF (fun _ => ?_)
    clear hK K
    try simp only [Act.put, List.setIfInBounds_toArray, List.set_cons_zero, List.set_cons_succ]
    refine wpAnyH_done (by kernel_rfl) ?_ _
    have x1 := t3.cell (cKeep bF cn) (fun e => d1 e.symm)
    have x2 := t3.frozen (cKeep bF cn) (fun e => d1 e.symm) (fKeep bF cn fn)
    have x3 := t3.cell (cKeep bF ct) d4
    have x4 := t3.frozen (cKeep bF ct) d4 (fKeep bF ct ft)
    have P5 := (cpP.keepS (Ks.of_below (S := fun k => k = bq) bF) d2).keepS t3 d2
    have J5 := (J2.keepB bF).keepS (N2.noS (fun b e => by rw [e]; exact hv)) t3
    have Q5 := hO5.1.keepS (hO5.nw.noS (fun b e => by rw [e]; omega)) t3
    have N5 := hO5.nw.low (Nat.le_trans z3 zE)
    have K5 := K.trans (kF.mono (fun _ _ e => Or.inl e))
    clear t3 kF q1 q2 hO5 bF bE bN2 hQ4 hO4 cq fq cn fn ct ft cpP cp0 cp1 cp2 cp3 J2 hQ3 kS bD C hQ b3 bL
    generalize wF.setCell ⟨bq, 0, none⟩ (.slice a5 m5 c5) = v2 at *
    obtain ⟨y1, y2, y3⟩ := st1 (S := fun k => k = bn) (.int .u64 ((n : Int) + 2)) x1 x2 rfl
    have g3 := y3.cell x3 d5
    have g4 := y3.frozen x3 d5 x4
    have gP := P5.keepS y3 d3
    obtain ⟨gp0, gp1, gp2, gp3⟩ := id gP
    obtain ⟨h1, h2, h3⟩ := st1 (S := fun k => k = bt) (.bool (kd == 0 && !tn)) g3 g4 rfl
    have J6 := (J5.keepS (N2.noS (fun b e => by rw [e]; exact hv2)) y3).keepS (N2.noS (fun b e => by rw [e]; exact hv3)) h3
    have Q6 := (Q5.keepS (N5.noS (fun b e => by rw [e]; exact hv2)) y3).keepS (N5.noS (fun b e => by rw [e]; exact hv3)) h3
    have P6 := gP.keepS h3 (fun e => d6 e.symm)
    have k1 := h3.cell (y3.cell t1 d1) (fun e => d4 e.symm)
    have k2 := h3.frozen (y3.cell t1 d1) (fun e => d4 e.symm) (y3.frozen t1 d1 t2)
    have k3 := h3.cell y1 (fun e => d5 e.symm)
    have k4 := h3.frozen y1 (fun e => d5 e.symm) y2
    have K6 := (K5.trans (y3.mono (fun _ _ e => Or.inr (Or.inl e)))).trans (h3.mono (fun _ _ e => Or.inr (Or.inr e)))
    clear y3 h3 J5 Q5 P5 K5 gP
    have FIN : Hid _ := (⟨J6, N2, K6, ⟨k1, k2, k3, k4, h1, h2, P6⟩, Q6, N5⟩ : _ ∧ _ ∧ _ ∧ BoxP _ bq bn bp bt a5 m5 c5 ((n : Int) + 2) (kd == 0 && !tn) kd t (a : Int) o ∧ _ ∧ _)
    clear J6 K6 k1 k2 k3 k4 h1 h2 P6 Q6
    rcases Bool.eq_false_or_eq_true (kd == 0) with hk | hk
    all_goals
      rw [hk] at FIN
      try rw [Bool.true_and] at FIN
      try rw [Bool.false_and] at FIN
      go_wp2_with fail
      go_ret2
      obtain ⟨f1, f2, f3, f4, f5, f6⟩ := FIN.out
      exact ⟨a2, m2, c2, a5, m5, c5, rfl, hm2, f1, f2, f3, by simpa [hk] using f4, hm5, f5, f6⟩
end Go.Proofs.YtkkldnnndlpblaaGreatDoor

/- The document's enclosures of constants, walked. The document's Narrow, of enclosures above 0. Enclosures of constants (pure): the document's Narrow. The walk of ConstsEnclose. -/
import Derived.Test.YtkkldnnndlpblaaGreatDoorCMA
import Derived.Test.YtkkldnnndlpblaaGreatDoorCD5
import Derived.Test.YtkkldnnndlpblaaGreatDoorRDA
import Derived.Deep.CutRange
import Derived.Test.YtkkldnnndlpblaaGreatDoorIVY
import Derived.Deep.RegionHeld3
import Derived.Test.YtkkldnnndlpblaaGreatDoorRDC

namespace Go.Proofs.YtkkldnnndlpblaaGreatDoor
open Go.RowKit Ck

theorem dForm_calls (X q : Nat) (hX : blen X ≤ q + 40) (hq : q ≤ 20000) (a : Option Addr) (n c : Nat) (w : World) (h : IsW w a n c (wordsOf X)) (hn : n ≤ 1024) :
    Calls Tryz.prog 58 #[.bool false, .slice a n c, .int .i64 (-(q : Int))] w fun r w' => ∃ x : DT, r = .returned (dT x) ∧ isU x X q ∧ ownT w.heap.size w' x ∧ Below w.heap.size w w' := by
  refine (qForm_calls false a n c (wordsOf X) (-(q : Int)) w h (by omega) (by omega)).mono ?_
  rintro r w' ⟨v, rfl, hQ, hb⟩
  rw [val_words] at hQ
  obtain ⟨ao, m, d, rfl, hm, hO⟩ := hQ
  have g : greatB X = false := (great_not X).2 (by omega)
  have g2 : greatB (uD X q).2.1 = false := great_mono (form_amount_le _ _ _) g
  refine ⟨((uD X q).1, ao, m, d, wordsOf (uD X q).2.1, (uD X q).2.2), rfl, ⟨uD_sign X q, val_words _, rfl⟩, ⟨hO, ?_⟩, hb⟩
  show m ≤ 1024
  rw [hm.out]
  exact (great_len _).1 g2

set_option maxRecDepth 100000 in
set_option maxHeartbeats 4000000 in
theorem docIval_calls (X ex q : Nat) (hX : blen (X + ex) ≤ q + 40) (hq : q ≤ 20000) (he : ex ≤ 18446744073709551615) (a : Option Addr) (n c : Nat) (w : World) (h : IsW w a n c (wordsOf X)) (hn : n ≤ 1024) :
    Calls Tryz.prog 40 #[.agg #[.slice a n c, .int .u64 (ex : Int)], .int .i64 (q : Int)] w fun r w' => ∃ x y : DT, r = .returned (ivT x y) ∧ isU x X q ∧ isU y (X + ex) q ∧ ownT w.heap.size w' x ∧ ownT w.heap.size w' y ∧ Below w.heap.size w w' := by
  have hX1 : blen X ≤ q + 40 := Nat.le_trans (blen_mono (Nat.le_add_right _ _)) hX
  have g : greatB (X + ex) = false := (great_not _).2 (by omega)
  have FL : Hid _ := fun W (k : IsW W a n c (wordsOf X)) => dForm_calls X q hX1 hq a n c W k hn
  have FH : Hid (∀ (a : Option Addr) (n c : Nat) (W : World), IsW W a n c (wordsOf (X + ex)) → n ≤ 1024 → _) := fun a n c W k hn => dForm_calls (X + ex) q hX hq a n c W k hn
  have HC : Hid _ := fun W (k : IsW W a n c (wordsOf X)) => fxHigh ex W k hn g he
  have ew : IntKind.i64.wrap (-(q : Int)) = -(q : Int) := by rw [IntKind.wrap_i64]; omega
  clear hX hX1 g he
  obtain ⟨Q, hQ⟩ : ∃ Q : Int, Q = -(q : Int) := ⟨_, rfl⟩
  rw [← hQ] at FL FH
  replace ew : IntKind.i64.wrap (-(q : Int)) = Q := ew.trans hQ.symm
  generalize (X + ex) = Y at *
  clear hQ hq
  obtain ⟨wA, hwA⟩ : ∃ wA, wA = (w.alloc (.cells #[.slice a n c, .int .u64 (ex : Int)] 74)).alloc (.cells #[.bool false, .slice none 0 0, .int .i64 0, .bool false, .slice none 0 0, .int .i64 0] 28) := ⟨_, rfl⟩
  have bA : Below w.heap.size w wA := hwA ▸ nbelow_trans (below_one _ _) (below_one _ _)
  have k0 : wA.cell? ⟨w.heap.size, 0, none⟩ = some (.slice a n c) := by rw [hwA]; go_simp
  have k1 : wA.cell? ⟨w.heap.size, 1, none⟩ = some (.int .u64 (ex : Int)) := by rw [hwA]; go_simp
  have ZA : ZI (w.heap.size + 1) wA := by rw [hwA]; refine ⟨⟨?_, ?_, ?_, ?_, ?_, ?_⟩, ?_, ?_, ?_, ?_, ?_, ?_⟩ <;> go_simp
  have hI := h.keep bA
  have sA := bA.size
  go_enter Tryz.func40, Tryz.ntmps40
  go_upto_region 1 with fail
  rw [← hwA]
  clear hwA
  have A : Below w.heap.size w (World.drew wA) := nbelow_trans bA (Below.refl _ _).drew
  have A1 : Below wA.heap.size wA (World.drew wA) := (Below.refl _ _).drew
  refine wp_region_held (S := fun w' => w'.cell? ⟨w.heap.size, 0, none⟩ = some (.slice a n c) ∧ w'.cell? ⟨w.heap.size, 1, none⟩ = some (.int .u64 (ex : Int))) (by kernel_rfl) ?_
  change wpAnyH _ _ _ _ _ _ _ _ (World.drew wA)
  generalize World.drew wA = wd at A A1 ⊢
  have S1 : wd.cell? ⟨w.heap.size, 0, none⟩ = some (.slice a n c) ∧ wd.cell? ⟨w.heap.size, 1, none⟩ = some (.int .u64 (ex : Int)) := ⟨dcarry_cell A1 k0, dcarry_cell A1 k1⟩
  replace hI := hI.keep A1
  replace ZA := ZA.keep A1
  clear A1 k0 k1 bA
  refine wpAnyH_take (i := 0) (v := .pointer (some ⟨w.heap.size, 0, none⟩)) rfl (by kernel_rfl) (by kernel_rfl) (by kernel_rfl) (fun _ _ _ h => h) (Or.inl ⟨by rfl, ?_⟩) S1 ?_
  · intro ww hS
    clear hS
    go_simp
    try with_reducible rfl
  try simp only [Act.put, List.setIfInBounds_toArray]
  refine wpAnyH_take (i := 1) (v := .slice a n c) rfl (by kernel_rfl) (by kernel_rfl) (by kernel_rfl) (fun _ _ _ h => h) (Or.inl ⟨by rfl, ?_⟩) S1 ?_
  · intro ww hS
    obtain ⟨q0, q1⟩ := id hS
    clear hS
    go_simp
    try with_reducible rfl
  try simp only [Act.put]
  refine wpAnyH_take (i := 2) (v := .int .i64 (q : Int)) rfl (by kernel_rfl) (by kernel_rfl) (by kernel_rfl) (fun _ _ _ h => h) (Or.inl ⟨by rfl, ?_⟩) S1 ?_
  · intro ww hS
    clear hS
    go_simp
    try with_reducible rfl
  try simp only [Act.put]
  refine wpAnyH_take (i := 3) (v := .int .i64 Q) rfl (by kernel_rfl) (by kernel_rfl) (by kernel_rfl) (fun _ _ _ h => h) (Or.inl ⟨by rfl, ?_⟩) S1 ?_
  · intro ww hS
    clear hS
    go_simp
    try with_reducible rfl
  try simp only [Act.put]
  refine wpAnyH_take (i := 5) (v := .agg #[.slice a n c, .int .u64 (ex : Int)]) rfl (by kernel_rfl) (by kernel_rfl) (by kernel_rfl) (fun _ _ _ h => h) (Or.inl ⟨by rfl, ?_⟩) S1 ?_
  · intro ww hS
    obtain ⟨q0, q1⟩ := id hS
    clear hS
    go_simp
    try with_reducible rfl
  try simp only [Act.put]
  refine wpAnyH_take (i := 7) (v := .int .i64 (q : Int)) rfl (by kernel_rfl) (by kernel_rfl) (by kernel_rfl) (fun _ _ _ h => h) (Or.inl ⟨by rfl, ?_⟩) S1 ?_
  · intro ww hS
    clear hS
    go_simp
    try with_reducible rfl
  try simp only [Act.put]
  refine wpAnyH_take (i := 8) (v := .int .i64 Q) rfl (by kernel_rfl) (by kernel_rfl) (by kernel_rfl) (fun _ _ _ h => h) (Or.inl ⟨by rfl, ?_⟩) S1 ?_
  · intro ww hS
    clear hS
    go_simp
    try with_reducible rfl
  try simp only [Act.put]
  refine wpAnyH_ready (rs := [4]) (by kernel_rfl) (by simp) ?_
  refine AllReadyH.cons rfl (fun K hK => ?_) AllReadyH.nil
  go_simp
  refine Calls.mono (FL.out _ hI) ?_
  rintro r w1 ⟨x, rfl, ux, ox, bN⟩
  replace ox : ownT w.heap.size w1 x := ⟨ox.1.low A.size, ox.2⟩
  replace hI := hI.keep bN
  refine hK.out _ _ ⟨dcarry_cell bN S1.1, dcarry_cell bN S1.2⟩ (fun _ => ?_)
  replace S1 : _ ∧ _ := ⟨dcarry_cell bN S1.1, dcarry_cell bN S1.2⟩
  replace A := nbelow_trans A bN
  replace ZA := ZA.keep bN
  clear bN hK K
  try simp only [Act.put, List.setIfInBounds_toArray, List.set_cons_zero, List.set_cons_succ]
  refine wpAnyH_ready (rs := [6]) (by kernel_rfl) (by simp) ?_
  refine AllReadyH.cons rfl (fun K hK => ?_) AllReadyH.nil
  go_simp
  refine Calls.mono (HC.out _ hI) ?_
  rintro r w2 ⟨a2, n2, c2, rfl, hn2, hO2, bN⟩
  replace ox := ox.keep bN
  refine hK.out _ _ ⟨dcarry_cell bN S1.1, dcarry_cell bN S1.2⟩ (fun _ => ?_)
  replace S1 : _ ∧ _ := ⟨dcarry_cell bN S1.1, dcarry_cell bN S1.2⟩
  replace A := nbelow_trans A bN
  replace ZA := ZA.keep bN
  clear bN hK K
  try simp only [Act.put, List.setIfInBounds_toArray, List.set_cons_zero, List.set_cons_succ]
  refine wpAnyH_ready (rs := [9]) (by kernel_rfl) (by simp) ?_
  refine AllReadyH.cons rfl (fun K hK => ?_) AllReadyH.nil
  go_simp
  refine Calls.mono (FH.out a2 n2 c2 _ hO2.1 hn2) ?_
  rintro r w3 ⟨y, rfl, uy, oy, bN⟩
  replace oy : ownT w.heap.size w3 y := ⟨oy.1.low A.size, oy.2⟩
  replace ox := ox.keep bN
  refine hK.out _ _ ⟨dcarry_cell bN S1.1, dcarry_cell bN S1.2⟩ (fun _ => ?_)
  replace S1 : _ ∧ _ := ⟨dcarry_cell bN S1.1, dcarry_cell bN S1.2⟩
  replace A := nbelow_trans A bN
  replace ZA := ZA.keep bN
  clear bN hK K
  try simp only [Act.put, List.setIfInBounds_toArray, List.set_cons_zero, List.set_cons_succ]
  refine wpAnyH_take (i := 10) (v := ivT x y) rfl (by kernel_rfl) (by kernel_rfl) (by kernel_rfl) (fun _ _ _ h => h) (Or.inl ⟨by rfl, ?_⟩) S1 ?_
  · intro ww hS
    clear hS
    go_simp
    try with_reducible rfl
  try simp only [Act.put, List.setIfInBounds_toArray]
  refine wpAnyH_ready (rs := [11]) (by kernel_rfl) (by simp) ?_
  refine AllReadyH.cons rfl (fun K hK => ?_) AllReadyH.nil
  obtain ⟨⟨z0, z1, z2, z3, z4, z5⟩, f0, f1, f2, f3, f4, f5⟩ := ZA
  go_simp
  obtain ⟨s0, s1⟩ := S1
  refine hK.out _ _ (by refine ⟨?_, ?_⟩ <;> go_simp) (fun _ => ?_)
  clear hK K
  try simp only [Act.put, List.setIfInBounds_toArray, List.set_cons_zero, List.set_cons_succ]
  refine wpAnyH_done (by kernel_rfl) ?_ _
  go_wp2_with fail
  have s6 := six_ofI z0 z1 z2 z3 z4 z5 (fun _ q => by cases q) (fun _ q => by cases q) (fun _ q => by cases q) (fun _ q => by cases q) (fun _ q => by cases q) (fun _ q => by cases q)
  exact bodyPost_ret (v := ivT x y) (by simp [results, Tryz.results40, go_sem, z0, z1, z2, z3, z4, z5]) rfl ⟨x, y, rfl, ux, uy, ⟨ownW_sixI ox.1 s6 _ _ _ _ _ _, ox.2⟩, ⟨ownW_sixI oy.1 s6 _ _ _ _ _ _, oy.2⟩, by repeat (first | (with_reducible exact A) | (with_reducible refine Below.setCell ?_ (by simp) _))⟩

set_option maxRecDepth 100000 in
set_option maxHeartbeats 4000000 in
theorem docEncl_calls (K P : Nat) (h1 : 1 ≤ K) (h7 : K ≤ 7) (hP : P ≤ 8192) (w : World) :
    Calls Tryz.prog 16 #[.int .u8 (K : Int), .int .i64 (P : Int)] w fun r w' => ∃ x y : DT, r = .returned (ivT x y) ∧ isU x (gA K (P + 64)) (P + 64) ∧ isU y (gA K (P + 64) + gE K (P + 64)) (P + 64) ∧ ownT w.heap.size w' x ∧ ownT w.heap.size w' y ∧ Below w.heap.size w w' := by
  have ew : IntKind.i64.wrap ((P : Int) + 64) = ((P + 64 : Nat) : Int) := by rw [IntKind.wrap_i64]; omega
  obtain ⟨s1, s2⟩ := g_size K (P + 64) h1 h7 (by omega) (by omega)
  have e51 : (2 : Nat) ^ 51 = 2251799813685248 := by decide
  have hb : blen (gA K (P + 64) + gE K (P + 64)) ≤ (P + 64) + 40 := by
    rw [blen_le]
    exact Nat.lt_of_le_of_lt s1 (Nat.pow_lt_pow_right (by decide) (by omega))
  have DC : Hid (∀ W, _) := fun W => docConst_calls K (P + 64) h1 h7 (by omega) (by omega) W
  have IC : Hid (∀ (a : Option Addr) (n c : Nat) (W : World), IsW W a n c (wordsOf (gA K (P + 64))) → n ≤ 1024 → _) := fun a n c W k hn => docIval_calls (gA K (P + 64)) (gE K (P + 64)) (P + 64) hb (by omega) (by omega) a n c W k hn
  clear s1 s2 e51 hb hP
  generalize gE K (P + 64) = ge at *
  generalize gA K (P + 64) = ga at *
  generalize P + 64 = q at *
  have ZA := zi_new w
  have bA := below_one w (.cells #[.bool false, .slice none 0 0, .int .i64 0, .bool false, .slice none 0 0, .int .i64 0] 28)
  go_enter Tryz.func16, Tryz.ntmps16
  go_wp2_with fail
  refine Calls.mono (DC.out _) ?_
  rintro r w1 ⟨a, n, c, e, rfl, he, hn, hO, bN⟩
  rw [he.out]
  replace ZA := ZA.keep bN
  replace bA := nbelow_trans bA bN
  clear bN he
  go_wp2_with fail
  refine Calls.mono (IC.out a n c _ hO.1 hn) ?_
  rintro r w2 ⟨x, y, rfl, ux, uy, ox, oy, bN⟩
  obtain ⟨⟨z0, z1, z2, z3, z4, z5⟩, f0, f1, f2, f3, f4, f5⟩ := ZA.keep bN
  have sB := bA.size
  replace bA := nbelow_trans bA bN
  go_wp2_with fail
  have s6 := six_ofI z0 z1 z2 z3 z4 z5 (fun _ q => by cases q) (fun _ q => by cases q) (fun _ q => by cases q) (fun _ q => by cases q) (fun _ q => by cases q) (fun _ q => by cases q)
  exact bodyPost_ret (v := ivT x y) (by simp [results, Tryz.results16, go_sem, z0, z1, z2, z3, z4, z5]) rfl ⟨x, y, rfl, ux, uy, ⟨ownW_sixI (ox.1.low sB) s6 _ _ _ _ _ _, ox.2⟩, ⟨ownW_sixI (oy.1.low sB) s6 _ _ _ _ _ _, oy.2⟩, by repeat (first | (with_reducible exact bA) | (with_reducible refine Below.setCell ?_ (by simp) _))⟩


theorem vI_absN (S : Bool × Nat × Int) (K : Nat) (l : -(K : Int) ≤ S.2.2) : (vI S (-(K : Int))).natAbs = S.2.1 * 2 ^ (S.2.2 + K).toNat := by
  unfold vI
  rw [Int.natAbs_mul, Int.natAbs_natCast, show (S.2.2 - -(K : Int)).toNat = (S.2.2 + K).toNat by omega]
  have : (sI S.1).natAbs = 1 := by unfold sI; split <;> rfl
  rw [this, Nat.one_mul]

theorem form_absN (s : Bool) (m : Nat) (e : Int) (K : Nat) (h : -(K : Int) ≤ e) (hb : blen m ≤ 65536) (he : e ≤ 32768) : (vI (formD s m e) (-(K : Int))).natAbs < 2 ^ (98304 + K) := by
  rw [vI_form _ _ _ _ h, Int.natAbs_mul, Int.natAbs_natCast]
  have h1 : (sI s).natAbs = 1 := by unfold sI; split <;> rfl
  rw [h1, Nat.one_mul]
  refine Nat.lt_of_lt_of_le (pow_up m _ _ (lt_blen m)) (pow_mo (by omega))

theorem wd_bd (s : Bool) (m : Nat) (e : Int) (t : Bool) (n : Nat) (f : Int) (h1 : rightB m e = true) (h2 : rightB n f = true) : CanD (dnW s m e t n f) ∧ blen (dnW s m e t n f).2.1 ≤ 200000 ∧ -200000 ≤ (dnW s m e t n f).2.2 ∧ (dnW s m e t n f).2.2 ≤ 200000 := by
  obtain ⟨g1, b1⟩ := rightB_yes h1
  obtain ⟨g2, b2⟩ := rightB_yes h2
  have l1 := (great_not _).1 g1
  have l2 := (great_not _).1 g2
  obtain ⟨K, hK⟩ : ∃ K : Nat, K = 500000 := ⟨_, rfl⟩
  have hc : CanD (dnW s m e t n f) := sumN_can (form_can _ _ _) (form_can _ _ _)
  have lw : -32768 ≤ (dnW s m e t n f).2.2 := sum_low _ _ _ (by omega) (form_loN _ _ _ _ (by omega) (by omega)) (form_loN _ _ _ _ (by omega) (by omega))
  have hv : (vI (dnW s m e t n f) (-(K : Int))).natAbs < 2 ^ (98305 + K) := by
    have e1 : vI (dnW s m e t n f) (-(K : Int)) = vI (formD t n f) (-(K : Int)) + vI (formD (!s) m e) (-(K : Int)) := vI_sum _ _ _ (form_loN _ _ _ _ (by omega) (by omega)) (form_loN _ _ _ _ (by omega) (by omega))
    have e2 := form_absN t n f K (by omega) l2 b2.2
    have e3 := form_absN (!s) m e K (by omega) l1 b1.2
    have e4 : 2 ^ (98305 + K) = 2 * 2 ^ (98304 + K) := by rw [show 98305 + K = (98304 + K) + 1 by omega, Nat.pow_succ, Nat.mul_comm]
    rw [e1, e4]
    generalize 2 ^ (98304 + K) = G at *
    omega
  generalize dnW s m e t n f = S at *
  rw [vI_absN S K (by omega)] at hv
  refine ⟨hc, ?_, by omega, ?_⟩
  · rcases Nat.lt_or_ge 200000 (blen S.2.1) with q | q
    · exfalso
      have z : S.2.1 ≠ 0 := fun c => by rw [c, blen_zero] at q; omega
      have := pow_lo S.2.1 (blen S.2.1 - 1) (S.2.2 + K).toNat (blen_ge S.2.1 z)
      have := pow_mo (show 98305 + K ≤ blen S.2.1 - 1 + (S.2.2 + K).toNat by omega)
      omega
    · exact q
  · by_cases z : S.2.1 = 0
    · rcases hc with c | c
      · rw [c]; show (0 : Int) ≤ 200000; omega
      · rw [z] at c; exact absurd c (by decide)
    · rcases Int.lt_or_le 200000 S.2.2 with q | q
      · exfalso
        have := pow_lo S.2.1 0 (S.2.2 + K).toNat (by rw [Nat.pow_zero]; omega)
        have := pow_mo (show 98305 + K ≤ 0 + (S.2.2 + K).toNat by omega)
        omega
      · exact q

theorem form_rngM (s : Bool) (m : Nat) (e : Int) (hb : blen m ≤ 200000) (he : -400000 ≤ e ∧ e ≤ 400000) : blen (formD s m e).2.1 ≤ 1000000 ∧ -1000000 ≤ (formD s m e).2.2 ∧ (formD s m e).2.2 ≤ 1000000 := by
  have h1 : blen (formD s m e).2.1 ≤ blen m := blen_mono (form_amount_le _ _ _)
  refine ⟨by omega, form_loN _ _ _ _ (by omega) (by omega), ?_⟩
  by_cases z : m = 0
  · rw [z, form_zero]; show (0 : Int) ≤ _; omega
  · rw [form_pos _ z]
    have := tz_le_blen m
    show e + (tz m : Int) ≤ _
    omega

theorem words_few {m : Nat} (h : blen m ≤ 1000000) : (wordsOf m).length ≤ 20000 := (words_len2 _ _).2 (by omega)

def nwT (x y : DT) (p : Int) : Bool := ddB (dnW x.1 (val x.2.2.2.2.1) x.2.2.2.2.2 y.1 (val y.2.2.2.2.1) y.2.2.2.2.2) (val x.2.2.2.2.1) x.2.2.2.2.2 p

set_option maxRecDepth 100000 in
set_option maxHeartbeats 4000000 in
theorem vNarrow_pos (x y : DT) (p : Int) (w : World) (hx : inT w x) (hy : inT w y) (hr : rtT x y = true) (hp : 0 ≤ p) (h1 : sgnQ x.1 (val x.2.2.2.2.1) = 1) (h2 : sgnQ y.1 (val y.2.2.2.2.1) = 1) (h3 : x.1 = false) (h4 : y.1 = false) :
    Calls Tryz.prog 14 #[ivT x y, .int .i64 p] w fun r w' => r = .returned (.bool (nwT x y p)) ∧ Below w.heap.size w w' := by
  have bA : Below w.heap.size w (w.alloc (.cells #[.bool x.1, .slice x.2.1 x.2.2.1 x.2.2.2.1, .int .i64 x.2.2.2.2.2, .bool y.1, .slice y.2.1 y.2.2.1 y.2.2.2.1, .int .i64 y.2.2.2.2.2] 28)) := below_one _ _
  have HR : Hid _ := fun W (q : inT W x) (q' : inT W y) => vRight_calls x y W q q'
  have HV : Hid (nwT x y p = ddB (dnW x.1 (val x.2.2.2.2.1) x.2.2.2.2.2 y.1 (val y.2.2.2.2.1) y.2.2.2.2.2) (val x.2.2.2.2.1) x.2.2.2.2.2 p) := by rw [Hid]; rfl
  have k0 : (w.alloc (.cells #[.bool x.1, .slice x.2.1 x.2.2.1 x.2.2.2.1, .int .i64 x.2.2.2.2.2, .bool y.1, .slice y.2.1 y.2.2.1 y.2.2.2.1, .int .i64 y.2.2.2.2.2] 28)).cell? ⟨w.heap.size, 0, none⟩ = some (.bool x.1) := by go_simp
  have k1 : (w.alloc (.cells #[.bool x.1, .slice x.2.1 x.2.2.1 x.2.2.2.1, .int .i64 x.2.2.2.2.2, .bool y.1, .slice y.2.1 y.2.2.1 y.2.2.2.1, .int .i64 y.2.2.2.2.2] 28)).cell? ⟨w.heap.size, 1, none⟩ = some (.slice x.2.1 x.2.2.1 x.2.2.2.1) := by go_simp
  have k2 : (w.alloc (.cells #[.bool x.1, .slice x.2.1 x.2.2.1 x.2.2.2.1, .int .i64 x.2.2.2.2.2, .bool y.1, .slice y.2.1 y.2.2.1 y.2.2.2.1, .int .i64 y.2.2.2.2.2] 28)).cell? ⟨w.heap.size, 2, none⟩ = some (.int .i64 x.2.2.2.2.2) := by go_simp
  have k3 : (w.alloc (.cells #[.bool x.1, .slice x.2.1 x.2.2.1 x.2.2.2.1, .int .i64 x.2.2.2.2.2, .bool y.1, .slice y.2.1 y.2.2.1 y.2.2.2.1, .int .i64 y.2.2.2.2.2] 28)).cell? ⟨w.heap.size, 3, none⟩ = some (.bool y.1) := by go_simp
  have k4 : (w.alloc (.cells #[.bool x.1, .slice x.2.1 x.2.2.1 x.2.2.2.1, .int .i64 x.2.2.2.2.2, .bool y.1, .slice y.2.1 y.2.2.1 y.2.2.2.1, .int .i64 y.2.2.2.2.2] 28)).cell? ⟨w.heap.size, 4, none⟩ = some (.slice y.2.1 y.2.2.1 y.2.2.2.1) := by go_simp
  have k5 : (w.alloc (.cells #[.bool x.1, .slice x.2.1 x.2.2.1 x.2.2.2.1, .int .i64 x.2.2.2.2.2, .bool y.1, .slice y.2.1 y.2.2.1 y.2.2.2.1, .int .i64 y.2.2.2.2.2] 28)).cell? ⟨w.heap.size, 5, none⟩ = some (.int .i64 y.2.2.2.2.2) := by go_simp
  replace hx := hx.keep bA
  replace hy := hy.keep bA
  have H2 : Hid _ := fun W (q : inT W x) => qSign_calls x.1 x.2.1 x.2.2.1 x.2.2.2.1 x.2.2.2.2.1 x.2.2.2.2.2 W q.1 q.2
  have H3 : Hid _ := fun W (q : inT W y) => qSign_calls y.1 y.2.1 y.2.2.1 y.2.2.2.1 y.2.2.2.2.1 y.2.2.2.2.2 W q.1 q.2
  rw [hr] at HR
  rw [h1] at H2
  rw [h2] at H3
  have np : ¬ p < 0 := by omega
  obtain ⟨g1, g2⟩ := rt_rg hr
  obtain ⟨wc, wb, we1, we2⟩ := wd_bd x.1 (val x.2.2.2.2.1) x.2.2.2.2.2 y.1 (val y.2.2.2.2.1) y.2.2.2.2.2 g1 g2
  have HL : Hid (∀ W, inT W x → inT W y → Calls Tryz.prog 38 #[dyV y.1 y.2.1 y.2.2.1 y.2.2.2.1 y.2.2.2.2.2, dyV x.1 x.2.1 x.2.2.1 x.2.2.2.1 x.2.2.2.2.2] W fun r w' => ∃ v', r = .returned v' ∧ DyQ W.heap.size w' v' (dnW x.1 (val x.2.2.2.2.1) x.2.2.2.2.2 y.1 (val y.2.2.2.2.1) y.2.2.2.2.2) ∧ Below W.heap.size W w') := fun W q q' => qLess_calls y.1 y.2.1 y.2.2.1 y.2.2.2.1 y.2.2.2.2.1 y.2.2.2.2.2 x.1 x.2.1 x.2.2.1 x.2.2.2.1 x.2.2.2.2.1 x.2.2.2.2.2 W q'.1 q'.2 q.1 q.2 (rg_bounds g2).1 (rg_bounds g1).1 (rg_bounds g2).2 (rg_bounds g1).2
  have HZ : Hid (∀ (a : Option Addr) (n c : Nat) (M : Nat) (s : Bool) (E : Int) W, IsW W a n c (wordsOf M) → n = (wordsOf M).length → blen M ≤ 200000 → Calls Tryz.prog 35 #[dyV s a n c E] W fun r w' => r = .returned (.bool (decide (M = 0))) ∧ Below W.heap.size W w') := fun a n c M s E W k hn hb => by
    have hl := words_few (m := M) (by omega)
    have := qZero_calls s a n c (wordsOf M) E W k (by omega)
    rwa [val_words] at this
  have HT2 : Hid (∀ (a : Option Addr) (n c : Nat) (T : Bool × Nat × Int) W, IsW W a n c (wordsOf T.2.1) → n = (wordsOf T.2.1).length → blen T.2.1 ≤ 200000 → (-200000 ≤ T.2.2 ∧ T.2.2 ≤ 200000) → (0 ≤ p ∧ p ≤ 196608) → Calls Tryz.prog 39 #[dyV T.1 a n c T.2.2, .int .i64 p] W fun r w' => ∃ v, r = .returned v ∧ DyQ W.heap.size w' v (formD T.1 T.2.1 (T.2.2 + p)) ∧ Below W.heap.size W w') := fun a n c T W k hn hb he hq => by
    have hl := words_few (m := T.2.1) (by omega)
    have := qTwice_calls T.1 a n c (wordsOf T.2.1) T.2.2 p W k (by omega) (by omega)
    rwa [val_words] at this
  have HO : Hid (∀ (a : Option Addr) (n c : Nat) (T : Bool × Nat × Int) W, IsW W a n c (wordsOf T.2.1) → n = (wordsOf T.2.1).length → CanD T → blen T.2.1 ≤ 1000000 → (-1000000 ≤ T.2.2 ∧ T.2.2 ≤ 1000000) → inT W x → Calls Tryz.prog 29 #[dyV T.1 a n c T.2.2, dyV x.1 x.2.1 x.2.2.1 x.2.2.2.1 x.2.2.2.2.2] W fun r w' => r = .returned (.int .i64 (cmpD T (formD false (val x.2.2.2.2.1) x.2.2.2.2.2))) ∧ Below W.heap.size W w') := fun a n c T W k hn hc hb he q => by
    have hl := words_few (m := T.2.1) (by omega)
    have := qOrder_calls T.1 a n c (wordsOf T.2.1) T.2.2 x.1 x.2.1 x.2.2.1 x.2.2.2.1 x.2.2.2.2.1 x.2.2.2.2.2 W k (by omega) q.1 q.2 (by omega) (rg_bounds g1).1 (by rw [val_words]; omega) (rg_bounds g1).2
    rwa [val_words, form_of_can hc, show formD x.1 (val x.2.2.2.2.1) x.2.2.2.2.2 = formD false (val x.2.2.2.2.1) x.2.2.2.2.2 by rw [h3]] at this
  have FT : Hid (0 ≤ p → p ≤ 196608 → CanD (formD (dnW x.1 (val x.2.2.2.2.1) x.2.2.2.2.2 y.1 (val y.2.2.2.2.1) y.2.2.2.2.2).1 (dnW x.1 (val x.2.2.2.2.1) x.2.2.2.2.2 y.1 (val y.2.2.2.2.1) y.2.2.2.2.2).2.1 ((dnW x.1 (val x.2.2.2.2.1) x.2.2.2.2.2 y.1 (val y.2.2.2.2.1) y.2.2.2.2.2).2.2 + p)) ∧ blen (formD (dnW x.1 (val x.2.2.2.2.1) x.2.2.2.2.2 y.1 (val y.2.2.2.2.1) y.2.2.2.2.2).1 (dnW x.1 (val x.2.2.2.2.1) x.2.2.2.2.2 y.1 (val y.2.2.2.2.1) y.2.2.2.2.2).2.1 ((dnW x.1 (val x.2.2.2.2.1) x.2.2.2.2.2 y.1 (val y.2.2.2.2.1) y.2.2.2.2.2).2.2 + p)).2.1 ≤ 1000000 ∧ (-1000000 ≤ (formD (dnW x.1 (val x.2.2.2.2.1) x.2.2.2.2.2 y.1 (val y.2.2.2.2.1) y.2.2.2.2.2).1 (dnW x.1 (val x.2.2.2.2.1) x.2.2.2.2.2 y.1 (val y.2.2.2.2.1) y.2.2.2.2.2).2.1 ((dnW x.1 (val x.2.2.2.2.1) x.2.2.2.2.2 y.1 (val y.2.2.2.2.1) y.2.2.2.2.2).2.2 + p)).2.2 ∧ (formD (dnW x.1 (val x.2.2.2.2.1) x.2.2.2.2.2 y.1 (val y.2.2.2.2.1) y.2.2.2.2.2).1 (dnW x.1 (val x.2.2.2.2.1) x.2.2.2.2.2 y.1 (val y.2.2.2.2.1) y.2.2.2.2.2).2.1 ((dnW x.1 (val x.2.2.2.2.1) x.2.2.2.2.2 y.1 (val y.2.2.2.2.1) y.2.2.2.2.2).2.2 + p)).2.2 ≤ 1000000)) := fun q q' => by
    have := form_rngM (dnW x.1 (val x.2.2.2.2.1) x.2.2.2.2.2 y.1 (val y.2.2.2.2.1) y.2.2.2.2.2).1 (dnW x.1 (val x.2.2.2.2.1) x.2.2.2.2.2 y.1 (val y.2.2.2.2.1) y.2.2.2.2.2).2.1 ((dnW x.1 (val x.2.2.2.2.1) x.2.2.2.2.2 y.1 (val y.2.2.2.2.1) y.2.2.2.2.2).2.2 + p) wb (by omega)
    exact ⟨form_can _ _ _, by omega, by omega⟩
  unfold ddB at HV
  generalize nwT x y p = B at *
  clear g1 g2 h1 h2 hr
  generalize formD false (val x.2.2.2.2.1) x.2.2.2.2.2 = U at *
  generalize dnW x.1 (val x.2.2.2.2.1) x.2.2.2.2.2 y.1 (val y.2.2.2.2.1) y.2.2.2.2.2 = WD at *
  clear h3 h4
  generalize hTT : formD WD.1 WD.2.1 (WD.2.2 + p) = T at FT HV
  have HTT : Hid _ := hTT
  clear hTT
  go_enter Tryz.func14, Tryz.ntmps14
  go_wp2_with fail
  generalize (w.alloc (.cells #[.bool x.1, .slice x.2.1 x.2.2.1 x.2.2.2.1, .int .i64 x.2.2.2.2.2, .bool y.1, .slice y.2.1 y.2.2.1 y.2.2.2.1, .int .i64 y.2.2.2.2.2] 28)) = w0 at *
  refine Calls.mono (HR.out _ hx hy) ?_
  rintro r w1 ⟨rfl, bN⟩
  replace k0 := dcarry_cell bN k0
  replace k1 := dcarry_cell bN k1
  replace k2 := dcarry_cell bN k2
  replace k3 := dcarry_cell bN k3
  replace k4 := dcarry_cell bN k4
  replace k5 := dcarry_cell bN k5
  replace hx := hx.keep bN
  replace hy := hy.keep bN
  replace bA := nbelow_trans bA bN
  clear bN
  go_wp2_with fail
  have bD : Below w1.heap.size w1 w1.drew := (Below.refl _ _).drew
  go_region_held3 (fun W => W.cell? ⟨w.heap.size, 0, none⟩ = some (.bool x.1) ∧ W.cell? ⟨w.heap.size, 1, none⟩ = some (.slice x.2.1 x.2.2.1 x.2.2.2.1) ∧ W.cell? ⟨w.heap.size, 2, none⟩ = some (.int .i64 x.2.2.2.2.2) ∧ W.cell? ⟨w.heap.size, 3, none⟩ = some (.bool y.1) ∧ W.cell? ⟨w.heap.size, 4, none⟩ = some (.slice y.2.1 y.2.2.1 y.2.2.2.1) ∧ W.cell? ⟨w.heap.size, 5, none⟩ = some (.int .i64 y.2.2.2.2.2))
    (first | (go_keep; done) | ((refine ⟨?_, ?_, ?_, ?_, ?_, ?_⟩ <;> (refine dcarry_cell bL ?_; go_keep)); done))
    (first
      | (have _q := gaS; go_at_call 13; refine (H3.out _ (hy.keep bb)).mono ?_; rintro r w3 ⟨rfl, bL⟩; replace bb := nbelow_trans bb bL)
      | (go_at_call 13; refine (H2.out _ (hx.keep bD)).mono ?_; rintro r w2 ⟨rfl, bL⟩; have bb := nbelow_trans bD bL; have gaS := True.intro))
  have bN := bb
  replace k0 := dcarry_cell bN k0
  replace k1 := dcarry_cell bN k1
  replace k2 := dcarry_cell bN k2
  replace k3 := dcarry_cell bN k3
  replace k4 := dcarry_cell bN k4
  replace k5 := dcarry_cell bN k5
  replace hx := hx.keep bN
  replace hy := hy.keep bN
  replace bA := nbelow_trans bA bN
  clear bN bb bD
  have bN := below_one w3 (.cells #[.bool x.1, .slice x.2.1 x.2.2.1 x.2.2.2.1, .int .i64 x.2.2.2.2.2] 26)
  have e0 : (w3.alloc (.cells #[.bool x.1, .slice x.2.1 x.2.2.1 x.2.2.2.1, .int .i64 x.2.2.2.2.2] 26)).cell? ⟨w3.heap.size, 0, none⟩ = some (.bool x.1) := by go_simp
  have e1 : (w3.alloc (.cells #[.bool x.1, .slice x.2.1 x.2.2.1 x.2.2.2.1, .int .i64 x.2.2.2.2.2] 26)).cell? ⟨w3.heap.size, 1, none⟩ = some (.slice x.2.1 x.2.2.1 x.2.2.2.1) := by go_simp
  have e2 : (w3.alloc (.cells #[.bool x.1, .slice x.2.1 x.2.2.1 x.2.2.2.1, .int .i64 x.2.2.2.2.2] 26)).cell? ⟨w3.heap.size, 2, none⟩ = some (.int .i64 x.2.2.2.2.2) := by go_simp
  have jk0 := dcarry_cell bN k0
  have jk1 := dcarry_cell bN k1
  have jk2 := dcarry_cell bN k2
  have jk3 := dcarry_cell bN k3
  have jk4 := dcarry_cell bN k4
  have jk5 := dcarry_cell bN k5
  go_wp2_with fail
  replace k0 := jk0
  clear jk0
  replace k1 := jk1
  clear jk1
  replace k2 := jk2
  clear jk2
  replace k3 := jk3
  clear jk3
  replace k4 := jk4
  clear jk4
  replace k5 := jk5
  clear jk5
  replace hx := hx.keep bN
  replace hy := hy.keep bN
  replace bA := nbelow_trans bA bN
  clear bN
  generalize w3.alloc (.cells #[.bool x.1, .slice x.2.1 x.2.2.1 x.2.2.2.1, .int .i64 x.2.2.2.2.2] 26) = w4 at *
  generalize w3.heap.size = EE at *
  refine Calls.mono (HL.out _ hx hy) ?_
  rintro r w5 ⟨_, rfl, ⟨a5, n5, c5, rfl, HN5, hO5⟩, bN⟩
  replace k0 := dcarry_cell bN k0
  replace k1 := dcarry_cell bN k1
  replace k2 := dcarry_cell bN k2
  replace k3 := dcarry_cell bN k3
  replace k4 := dcarry_cell bN k4
  replace k5 := dcarry_cell bN k5
  replace e0 := dcarry_cell bN e0
  replace e1 := dcarry_cell bN e1
  replace e2 := dcarry_cell bN e2
  replace hx := hx.keep bN
  replace hy := hy.keep bN
  replace bA := nbelow_trans bA bN
  clear bN
  have bN := below_one w5 (.cells #[.bool WD.1, .slice a5 n5 c5, .int .i64 WD.2.2] 26)
  have d0 : (w5.alloc (.cells #[.bool WD.1, .slice a5 n5 c5, .int .i64 WD.2.2] 26)).cell? ⟨w5.heap.size, 0, none⟩ = some (.bool WD.1) := by go_simp
  have d1 : (w5.alloc (.cells #[.bool WD.1, .slice a5 n5 c5, .int .i64 WD.2.2] 26)).cell? ⟨w5.heap.size, 1, none⟩ = some (.slice a5 n5 c5) := by go_simp
  have d2 : (w5.alloc (.cells #[.bool WD.1, .slice a5 n5 c5, .int .i64 WD.2.2] 26)).cell? ⟨w5.heap.size, 2, none⟩ = some (.int .i64 WD.2.2) := by go_simp
  replace k0 := dcarry_cell bN k0
  replace k1 := dcarry_cell bN k1
  replace k2 := dcarry_cell bN k2
  replace k3 := dcarry_cell bN k3
  replace k4 := dcarry_cell bN k4
  replace k5 := dcarry_cell bN k5
  replace e0 := dcarry_cell bN e0
  replace e1 := dcarry_cell bN e1
  replace e2 := dcarry_cell bN e2
  replace hx := hx.keep bN
  replace hy := hy.keep bN
  replace bA := nbelow_trans bA bN
  replace hO5 := hO5.keep bN
  clear bN
  go_wp2_with fail
  generalize w5.alloc (.cells #[.bool WD.1, .slice a5 n5 c5, .int .i64 WD.2.2] 26) = w6 at *
  generalize w5.heap.size = FF at *
  refine Calls.mono (HZ.out _ _ _ _ _ _ _ hO5.1 HN5.out wb) ?_
  rintro r w7 ⟨rfl, bN⟩
  replace k0 := dcarry_cell bN k0
  replace k1 := dcarry_cell bN k1
  replace k2 := dcarry_cell bN k2
  replace k3 := dcarry_cell bN k3
  replace k4 := dcarry_cell bN k4
  replace k5 := dcarry_cell bN k5
  replace e0 := dcarry_cell bN e0
  replace e1 := dcarry_cell bN e1
  replace e2 := dcarry_cell bN e2
  replace d0 := dcarry_cell bN d0
  replace d1 := dcarry_cell bN d1
  replace d2 := dcarry_cell bN d2
  replace hx := hx.keep bN
  replace hy := hy.keep bN
  replace bA := nbelow_trans bA bN
  replace hO5 := hO5.keep bN
  clear bN
  by_cases z : WD.2.1 = 0
  · rw [decide_eq_true z, Bool.true_or] at HV
    rw [decide_eq_true z]
    clear FT HTT HT2 HO HZ
    go_wp2_with fail
    go_ret
    exact ⟨by rw [HV.out]; rfl, bA⟩
  rw [decide_eq_false z, Bool.false_or] at HV
  rw [decide_eq_false z]
  rcases Int.lt_or_le 196608 p with q | q
  · rw [decide_eq_false (show ¬ p ≤ 196608 by omega), Bool.false_and] at HV
    clear FT HTT HT2 HO HZ
    go_wp2_with fail
    go_ret
    exact ⟨by rw [HV.out]; rfl, bA⟩
  rw [decide_eq_true q, Bool.true_and] at HV
  have nq : ¬ 196608 < p := by omega
  have TC : Hid _ := HT2.out a5 n5 c5 WD
  rw [HTT.out] at TC
  obtain ⟨f1, f2, f3⟩ := FT.out hp q
  clear FT HTT HT2 HZ
  go_wp2_with fail
  have bD : Below w7.heap.size w7 w7.drew := (Below.refl _ _).drew
  go_region_held3 (fun W => W.cell? ⟨FF, 0, none⟩ = some (.bool WD.1) ∧ W.cell? ⟨FF, 1, none⟩ = some (.slice a5 n5 c5) ∧ W.cell? ⟨FF, 2, none⟩ = some (.int .i64 WD.2.2) ∧ W.cell? ⟨EE, 0, none⟩ = some (.bool x.1) ∧ W.cell? ⟨EE, 1, none⟩ = some (.slice x.2.1 x.2.2.1 x.2.2.2.1) ∧ W.cell? ⟨EE, 2, none⟩ = some (.int .i64 x.2.2.2.2.2))
    (first | (go_keep; done) | ((refine ⟨?_, ?_, ?_, ?_, ?_, ?_⟩ <;> (refine dcarry_cell bL ?_; go_keep)); done))
    (first
      | (have _q := hO8; go_at_call 29; refine (HO.out _ _ _ _ _ hO8.1 HN8.out f1 f2 f3 (hx.keep bb)).mono ?_; rintro r w9 ⟨rfl, bL⟩; replace bb := nbelow_trans bb bL)
      | (go_at_call 39; refine (TC.out _ (hO5.1.keep bD) HN5.out wb ⟨we1, we2⟩ ⟨hp, q⟩).mono ?_; rintro r w8 ⟨_, rfl, ⟨a8, n8, c8, rfl, HN8, hO8⟩, bL⟩; have bb := nbelow_trans bD bL))
  replace bA := nbelow_trans bA bb
  go_wp2_with fail
  go_ret
  exact ⟨by rw [HV.out]; rfl, bA⟩

end Go.Proofs.YtkkldnnndlpblaaGreatDoor

namespace Go.Proofs.YtkkldnnndlpblaaGreatDoor
open Go.RowKit Ck

theorem vI_uD (m w : Nat) : vI (uD m w) (-(w : Int)) = (m : Int) := by
  rw [vI_form _ _ _ _ (Int.le_refl _), show (-(w : Int) - -(w : Int)).toNat = 0 by omega, Nat.pow_zero, Nat.mul_one, show sI false = 1 from rfl, Int.one_mul]

theorem uD_low (m w : Nat) : -(w : Int) ≤ (uD m w).2.2 := form_loN _ _ _ _ (by omega) (by omega)

/-- two ends so little apart make a narrow enclosure -/
theorem nar_ok (lo hi w p : Nat) (h : lo ≤ hi) (hn : (hi - lo) * 2 ^ p ≤ lo) (hp : p ≤ 196608) : ddB (dnW (uD lo w).1 (uD lo w).2.1 (uD lo w).2.2 (uD hi w).1 (uD hi w).2.1 (uD hi w).2.2) (uD lo w).2.1 (uD lo w).2.2 (p : Int) = true := by
  have s0 := uD_sign lo w
  have lU := uD_low lo w
  have lV := uD_low hi w
  have vU := vI_uD lo w
  have vV := vI_uD hi w
  have hU : formD false (uD lo w).2.1 (uD lo w).2.2 = uD lo w := by have := uD_again lo w; rw [s0] at this; exact this
  unfold dnW ddB
  rw [uD_again, hU, s0]
  have vU2 : (((uD lo w).2.1 * 2 ^ ((uD lo w).2.2 - -(w : Int)).toNat : Nat) : Int) = (lo : Int) := by
    rw [← vU]; unfold vI; rw [s0, show sI false = 1 from rfl, Int.one_mul]
  obtain ⟨N, hN⟩ : ∃ N, N = formD (!false) (uD lo w).2.1 (uD lo w).2.2 := ⟨_, rfl⟩
  have lN : -(w : Int) ≤ N.2.2 := by rw [hN]; exact form_loN _ _ _ _ lU (by omega)
  have vN : vI N (-(w : Int)) = -(lo : Int) := by
    rw [hN, vI_form _ _ _ _ lU, vU2, show sI (!false) = -1 from rfl]
    omega
  rw [← hN]
  have lW := sum_low (uD hi w) N (-(w : Int)) (by omega) lV lN
  have vW : vI (sumD (uD hi w) N) (-(w : Int)) = (hi : Int) - lo := by rw [vI_sum _ _ _ lV lN, vV, vN]; omega
  generalize sumD (uD hi w) N = WD at *
  rw [Bool.or_eq_true, Bool.and_eq_true]
  refine Or.inr ⟨decide_eq_true (by omega), decide_eq_true ?_⟩
  rw [vI_cmp _ _ w (form_loN _ _ _ _ (by omega) (by omega)) lU, cmpI_le, vU, vI_form _ _ _ _ (by omega)]
  have e1 : WD.2.1 * 2 ^ (WD.2.2 + (p : Int) - -(w : Int)).toNat = WD.2.1 * 2 ^ (WD.2.2 - -(w : Int)).toNat * 2 ^ p := by
    rw [Nat.mul_assoc, ← Nat.pow_add, show (WD.2.2 + (p : Int) - -(w : Int)).toNat = (WD.2.2 - -(w : Int)).toNat + p by omega]
  unfold vI at vW
  rw [e1, Int.natCast_mul, ← Int.mul_assoc, vW]
  have h2 : (((hi - lo) * 2 ^ p : Nat) : Int) ≤ (lo : Int) := Int.ofNat_le.2 hn
  rw [Int.natCast_mul, show ((hi - lo : Nat) : Int) = (hi : Int) - lo by omega] at h2
  exact h2

end Go.Proofs.YtkkldnnndlpblaaGreatDoor

namespace Go.Proofs.YtkkldnnndlpblaaGreatDoor
open Go.RowKit Ck

theorem isU.narrow {x y : DT} {lo hi w p : Nat} (hx : isU x lo w) (hy : isU y hi w) (h : lo ≤ hi) (hn : (hi - lo) * 2 ^ p ≤ lo) (hp : p ≤ 196608) : nwT x y (p : Int) = true := by
  have e := nar_ok lo hi w p h hn hp
  rw [uD_sign, uD_sign] at e
  obtain ⟨a1, a2, a3⟩ := hx
  obtain ⟨b1, b2, b3⟩ := hy
  unfold nwT
  rw [a1, a2, a3, b1, b2, b3]
  exact e

theorem isU.sign {x : DT} {m w : Nat} (h : isU x m w) (h0 : m ≠ 0) : sgnQ x.1 (val x.2.2.2.2.1) = 1 := by
  obtain ⟨a1, a2, -⟩ := h
  rw [a1, a2]
  unfold sgnQ
  rw [if_neg (uD_nz w h0).2, if_neg (by decide)]

/-- the program's enclosure and the document's meet -/
theorem en_doc (K P : Nat) (h1 : 1 ≤ K) (h7 : K ≤ 7) (h8 : 8 ≤ P) (hp : P ≤ 8192) {x y u v : DT} (hx : isU x (eLo K (P + 32)) (P + 32)) (hy : isU y (eHi K (P + 32)) (P + 32)) (hu : isU u (gA K (P + 64)) (P + 64)) (hv : isU v (gA K (P + 64) + gE K (P + 64)) (P + 64)) : ((rtT x y && rtT u v) && rtT x v && rtT u y) = true := by
  obtain ⟨b1, b2, -, -, bl⟩ := en_bl K (P + 32) h1 h7 (by omega)
  obtain ⟨s1, -⟩ := g_size K (P + 64) h1 h7 (by omega) (by omega)
  have c2 : blen (gA K (P + 64) + gE K (P + 64)) ≤ (P + 64) + 40 := by
    rw [blen_le]
    exact Nat.lt_of_le_of_lt s1 (Nat.pow_lt_pow_right (by decide) (by omega))
  have c1 : blen (gA K (P + 64)) ≤ (P + 64) + 40 := Nat.le_trans (blen_mono (Nat.le_add_right _ _)) c2
  obtain ⟨m1, m2⟩ := doc_meet K (P + 32) (P + 64) h1 h7 (by omega) (by omega) (by omega) (by omega)
  rw [hx.rt hy (by omega) (by omega) (by omega) (by omega), hu.rt hv c1 c2 (by omega) (by omega), hx.rt hv (by omega) c2 (by omega) (by omega), hu.rt hy c1 (by omega) (by omega) (by omega), decide_eq_true (Nat.mul_le_mul_right _ bl), decide_eq_true (Nat.mul_le_mul_right _ (Nat.le_add_right _ _)), decide_eq_true m1, decide_eq_true m2]
  rfl

theorem zsame : (smT zDT zDT && smT zDT zDT) = true := by decide

set_option maxRecDepth 100000 in
set_option maxHeartbeats 8000000 in
theorem constsEnclose_walk (k p : Int) (w : World) (hk : 0 ≤ k ∧ k ≤ 255) (hp : -9223372036854775808 ≤ p ∧ p ≤ 9223372036854775807) (hT : RecT w ∧ TabP w ∧ Tab w) :
    Calls Tryz.prog 3 #[.int .u8 k, .int .i64 p] w fun r w' => r = .returned (.bool true) ∧ Below w.heap.size w w' := by
  obtain ⟨hT, hP, hB⟩ := hT
  go_enter Tryz.func3, Tryz.ntmps3
  go_wp2_with fail
  refine Calls.mono (constE_calls k p hk.1 hk.2 hp w hT hB) ?_
  rintro r v1 ⟨x, y, E, rfl, N, ox, oy, B⟩
  go_wp2_with fail
  have A := att_new x y v1
  have bN := below_one v1 (obT x y)
  replace ox := ox.keep bN
  replace oy := oy.keep bN
  replace B := nbelow_trans B bN
  clear bN
  generalize v1.alloc (obT x y) = w1 at *
  generalize v1.heap.size = b1 at *
  refine Calls.mono (cLives_calls w1 (hT.kept B) (hP.kept B)) ?_
  rintro r w2 ⟨rfl, bN⟩
  replace ox := ox.keep bN
  replace oy := oy.keep bN
  replace A := A.keep bN
  replace B := nbelow_trans B bN
  clear bN hT hP hB
  go_wp2_with fail
  refine Calls.mono (docIs_calls k hk.1 hk.2 w2) ?_
  rintro r w3 ⟨rfl, rfl⟩
  rcases N with ⟨rfl, K, P, rfl, rfl, h1, h7, h8, hP8, ux, uy⟩ | ⟨rfl, hn, rfl, rfl⟩
  · have hkn : knB (K : Int) = true := decide_eq_true ⟨by omega, by omega⟩
    rw [hkn]
    have n1 : ¬ (P : Int) < 8 := by omega
    have n2 : ¬ (8192 : Int) < (P : Int) := by omega
    obtain ⟨-, -, z1, z2, hl⟩ := en_bl K (P + 32) h1 h7 (by omega)
    have SC : Hid (∀ W, inT W x → Calls Tryz.prog 13 #[dyV x.1 x.2.1 x.2.2.1 x.2.2.2.1 x.2.2.2.2.2] W fun r w' => r = .returned (.int .i64 1) ∧ Below W.heap.size W w') := fun W hx => by
      have := qSign_calls x.1 x.2.1 x.2.2.1 x.2.2.2.1 x.2.2.2.2.1 x.2.2.2.2.2 W hx.1 hx.2
      rw [ux.sign z1] at this
      exact this
    have NC : Hid (∀ W, inT W x → inT W y → Calls Tryz.prog 14 #[ivT x y, .int .i64 (P : Int)] W fun r w' => r = .returned (.bool true) ∧ Below W.heap.size W w') := fun W hx hy => by
      obtain ⟨b1, b2, -, -, -⟩ := en_bl K (P + 32) h1 h7 (by omega)
      have hr : rtT x y = true := by rw [ux.rt uy (by omega) (by omega) (by omega) (by omega), decide_eq_true (Nat.mul_le_mul_right _ hl)]
      have := vNarrow_pos x y (P : Int) W hx hy hr (by omega) (ux.sign z1) (uy.sign z2) ux.1 uy.1
      rw [ux.narrow uy hl (e_narrow K P h1 h7 h8 hP8 (e_lt K (P + 32) h1 h7 (by omega)).2.2) (by omega)] at this
      exact this
    have DC : Hid (∀ W, _) := fun W => docEncl_calls K P h1 h7 hP8 W
    have MC : Hid (∀ (u v : DT), isU u (gA K (P + 64)) (P + 64) → isU v (gA K (P + 64) + gE K (P + 64)) (P + 64) → ∀ W, inT W x → inT W y → inT W u → inT W v → Calls Tryz.prog 15 #[ivT x y, ivT u v] W fun r w' => r = .returned (.bool true) ∧ Below W.heap.size W w') := fun u v hu hv W i1 i2 i3 i4 => by
      have := vMeets_calls x y u v W i1 i2 i3 i4
      rw [en_doc K P h1 h7 h8 hP8 ux uy hu hv] at this
      exact this
    clear ux uy z1 z2 hl hkn h1 h7 h8 hP8 hk hp
    generalize gA K (P + 64) = ga at *
    generalize ga + gE K (P + 64) = gb at *
    generalize P + 64 = q at *
    obtain ⟨k0, k1, k2, k3, k4, k5⟩ := A
    go_wp2_with fail
    have bD : Below w3.heap.size w3 w3.drew := (Below.refl _ _).drew
    go_region_held3 (fun W => W.cell? ⟨b1, 0, none⟩ = some (.bool x.1) ∧ W.cell? ⟨b1, 1, none⟩ = some (.slice x.2.1 x.2.2.1 x.2.2.2.1) ∧ W.cell? ⟨b1, 2, none⟩ = some (.int .i64 x.2.2.2.2.2) ∧ W.cell? ⟨b1, 3, none⟩ = some (.bool y.1) ∧ W.cell? ⟨b1, 4, none⟩ = some (.slice y.2.1 y.2.2.1 y.2.2.2.1) ∧ W.cell? ⟨b1, 5, none⟩ = some (.int .i64 y.2.2.2.2.2))
      (first | (go_keep; done) | ((refine ⟨?_, ?_, ?_, ?_, ?_, ?_⟩ <;> (refine dcarry_cell bL ?_; go_keep)); done))
      (first
        | (have _q := ga2; go_at_call 15; refine (MC.out u v uu uv _ (ox.keep b6).inT (oy.keep b6).inT ou.inT ov.inT).mono ?_; rintro r w7 ⟨rfl, bL⟩; have b7 := nbelow_trans b6 bL)
        | (have _q := ga1; go_at_call 16; refine (DC.out _).mono ?_; rintro r w6 ⟨u, v, rfl, uu, uv, ou, ov, bL⟩; have b6 := nbelow_trans b5 bL; have ga2 := True.intro)
        | (have _q := ga0; go_at_call 14; refine (NC.out _ (ox.keep b4).inT (oy.keep b4).inT).mono ?_; rintro r w5 ⟨rfl, bL⟩; have b5 := nbelow_trans b4 bL; have ga1 := True.intro)
        | (go_at_call 13; refine (SC.out _ (ox.keep bD).inT).mono ?_; rintro r w4 ⟨rfl, bL⟩; have b4 := nbelow_trans bD bL; have ga0 := True.intro))
    go_wp2_with fail
    go_ret
    exact ⟨rfl, nbelow_trans B b7⟩
  · have hc : knB k = false ∨ (knB k = true ∧ p < 8) ∨ (knB k = true ∧ ¬ p < 8 ∧ 8192 < p) := by
      by_cases h : 1 ≤ k ∧ k ≤ 7
      · have hk : knB k = true := decide_eq_true h
        by_cases h2 : p < 8
        · exact Or.inr (Or.inl ⟨hk, h2⟩)
        · by_cases h3 : 8192 < p
          · exact Or.inr (Or.inr ⟨hk, h2, h3⟩)
          · exact absurd ⟨h.1, h.2, by omega, by omega⟩ hn
      · exact Or.inl (decide_eq_false h)
    have SC : Hid _ := vSame_calls zDT zDT zDT zDT w3 ox.inT oy.inT ox.inT oy.inT
    rw [zsame] at SC
    clear hn
    obtain ⟨k0, k1, k2, k3, k4, k5⟩ := A
    rcases hc with hk | ⟨hk, h2⟩ | ⟨hk, h2, h3⟩
    all_goals
      rw [hk]
      clear hk
      go_wp2_with fail
      refine Calls.mono SC.out ?_
      rintro r w5 ⟨rfl, bN⟩
      go_wp2_with fail
      go_ret
      exact ⟨rfl, nbelow_trans B bN⟩

end Go.Proofs.YtkkldnnndlpblaaGreatDoor

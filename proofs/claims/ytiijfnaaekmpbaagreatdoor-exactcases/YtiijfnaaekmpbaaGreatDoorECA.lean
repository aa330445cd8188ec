/- Half turns: reduce.Turns. -/
import Derived.Test.YtiijfnaaekmpbaaGreatDoorALX
import Derived.Test.YtiijfnaaekmpbaaGreatDoorCR
import Derived.Test.YtiijfnaaekmpbaaGreatDoorEC9
import Derived.Test.YtiijfnaaekmpbaaGreatDoorFX
namespace Go.Proofs.YtiijfnaaekmpbaaGreatDoor
open Go.RowKit
theorem can_ok {p : E3} (h : OkE p) : canE p.1 p.2.1 p.2.2 = 0 ∧ canP p.1 p.2.1 p.2.2 = p := by
 obtain ⟨e1, e2⟩ := canE_yes (s := p.1) h.2
 have hr : roomB p = true := h.2
 rw [e1, e2, h.form]
 unfold roomE roomP
 rw [if_pos hr, if_pos hr]
 exact ⟨rfl, rfl⟩
theorem canonE (p : E3) (a : Option Addr) (n c : Nat) (w : World) (h : IsW w a n c (wO p.2.1)) (hn : n ≤ 1024) (hp : OkE p) (hT : Tab w) :
  Calls Tryz.prog 139 #[dyV p.1 a n c p.2.2] w fun r w' => ∃ v', r = .returned (.tuple #[v', .int .i64 0]) ∧ DyAt w.heap.size w' v' p ∧ Below w.heap.size w w' := by
 have H := pCanon_calls p.1 a n c (wO p.2.1) p.2.2 w h (by omega) hT
 rw [val_words, (can_ok hp).1, (can_ok hp).2] at H
 exact H
theorem canonR (s : Bool) (m : Nat) (e : Int) (a : Option Addr) (n c : Nat) (w : World) (h : IsW w a n c (wO m)) (hn : n ≤ 1024) (hr : rightB m e = true) (hm : roomE (formD s m e) = 0) (hT : Tab w) :
  Calls Tryz.prog 139 #[dyV s a n c e] w fun r w' => ∃ v', r = .returned (.tuple #[v', .int .i64 0]) ∧ DyAt w.heap.size w' v' (formD s m e) ∧ Below w.heap.size w w' := by
 have H := pCanon_calls s a n c (wO m) e w h (by omega) hT
 obtain ⟨e1, e2⟩ := canE_yes (s := s) (m := m) (e := e) hr
 rw [val_words, e1, e2, hm, room_eq hm] at H
 exact H
theorem bit_4 (m : Nat) : m % 4 = (m.testBit 0).toNat + 2 * (m.testBit 1).toNat := by
 rw [bit_div, bit_div]
 have h1 : m / 2 ^ 0 = m := by simp
 have h2 : m / 2 ^ 1 = m / 2 := by simp
 rw [h1, h2]
 by_cases a : m % 2 = 1 <;> by_cases b : m / 2 % 2 = 1 <;> simp [a, b] <;> omega
theorem four_bits (m : Nat) (E : Int) (h : 0 ≤ E) : m * 2 ^ E.toNat % 4 = (btR m (0 - E)).toNat + 2 * (btR m (1 - E)).toNat := by
 unfold btR
 have : E = 0 ∨ E = 1 ∨ 2 ≤ E := by omega
 rcases this with rfl | rfl | h2
 ·simp only [Int.toNat_zero, Nat.pow_zero, Nat.mul_one]
  exact bit_4 m
 ·rw [if_pos (by decide), if_neg (by decide)]
  have := bit_div m 0
  simp at this
  simp [Nat.testBit_zero]
  by_cases a : m % 2 = 1 <;> simp [a] <;> omega
 ·rw [if_pos (by omega), if_pos (by omega)]
  obtain ⟨j, hj⟩ : ∃ j, E.toNat = j + 2 := ⟨E.toNat - 2, by omega⟩
  rw [hj, Nat.pow_add, show (2 : Nat) ^ 2 = 4 from rfl, ← Nat.mul_assoc]
  simp
theorem b4_of {s : Bool} {W : Nat} {b0 b1 : Bool} (h : W % 4 = b0.toNat + 2 * b1.toNat) : b4I s b0 b1 = if s = true then (4 - (W % 4 : Nat) : Int) % 4 else (W % 4 : Nat) := by
 unfold b4I
 rw [h]
theorem tn_pos (p : E3) (h : 0 ≤ p.2.2 + 1) : b4I p.1 (btR p.2.1 (0 - (p.2.2 + 1))) (btR p.2.1 (1 - (p.2.2 + 1))) = tnN p ∧ tnR p = z3 := by
 have hW : tnW p = p.2.1 * 2 ^ (p.2.2 + 1).toNat := by
  unfold tnW rdW2 fl2 up2 half2
  rw [if_pos (by omega), if_pos (by omega), show (- -(p.2.2 + 1)).toNat = (p.2.2 + 1).toNat by omega]
  simp
 refine ⟨?_, ?_⟩
 ·rw [b4_of (four_bits p.2.1 (p.2.2 + 1) h), ← hW]; rfl
 ·unfold tnR tnM
  rw [if_pos h, form_zero]; rfl
theorem tn_neg (p : E3) (k : Nat) (h : p.2.2 + 1 = -(k : Int)) (hk : 1 ≤ k) : b4I p.1 (btR (p.2.1 / 2 ^ k + (up2 p.2.1 (k : Int)).toNat) (0 - 0)) (btR (p.2.1 / 2 ^ k + (up2 p.2.1 (k : Int)).toNat) (1 - 0)) = tnN p ∧
  tnR p = formD (!(p.1 == up2 p.2.1 (k : Int))) (if up2 p.2.1 (k : Int) = true then 2 ^ k - p.2.1 % 2 ^ k else p.2.1 % 2 ^ k) p.2.2 := by
 have e1 : -(p.2.2 + 1) = (k : Int) := by omega
 have hW : tnW p = p.2.1 / 2 ^ k + (up2 p.2.1 (k : Int)).toNat := by
  unfold tnW rdW2 fl2
  rw [e1, if_neg (by omega), Int.toNat_natCast]
 have hU : tnU p = up2 p.2.1 (k : Int) := by unfold tnU; rw [e1]
 refine ⟨?_, ?_⟩
 ·have := four_bits (tnW p) 0 (by decide)
  simp only [Int.toNat_zero, Nat.pow_zero, Nat.mul_one] at this
  rw [← hW, b4_of this]; rfl
 ·unfold tnR tnM
  rw [hU, e1, Int.toNat_natCast, if_neg (by omega)]
theorem rest_ok (s : Bool) (M k : Nat) (e : Int) (hM : M ≤ 2 ^ k) (he : e + 1 = -(k : Int)) (hl : -32768 ≤ e) : rightB M e = true ∧ roomE (formD s M e) = 0 := by
 have hg : greatB M = false := great_mono hM (two_fit k (by omega))
 have hr : rightB M e = true := by
  unfold rightB
  rw [hg, show inB e = true from decide_eq_true ⟨by omega, by omega⟩]
  rfl
 refine ⟨hr, ?_⟩
 have hb : tz M ≤ k + 1 := Nat.le_trans (tz_le_blen M) ((blen_le _ _).2 (Nat.lt_of_le_of_lt hM (Nat.pow_lt_pow_right (by decide) (Nat.lt_succ_self k))))
 have hq : roomB (formD s M e) = true := by
  by_cases h0 : M = 0
  ·rw [h0, form_zero]; decide +kernel
  ·rw [form_pos s h0]
   unfold roomB
   simp only
   rw [great_mono (Nat.div_le_self _ _) hg, show inB (e + (tz M : Int)) = true from decide_eq_true ⟨by omega, by omega⟩]
   rfl
 unfold roomE
 rw [if_pos hq]
set_option maxRecDepth 100000 in
set_option maxHeartbeats 4000000 in
theorem turns_calls (p : E3) (a : Option Addr) (n c : Nat) (w : World) (h : IsW w a n c (wO p.2.1)) (hn : n ≤ 1024) (hp : OkE p) (hT : Tab w) :
  Calls Tryz.prog 110 #[dyV p.1 a n c p.2.2] w fun q w' => ∃ v', q = .returned (.tuple #[.int .i64 (tnN p), v', .int .i64 0]) ∧ DyAt w.heap.size w' v' (tnR p) ∧ Below w.heap.size w w' := by
 have bA : Below w.heap.size w ((w.alloc (.cells #[.bool p.1, .slice a n c, .int .i64 p.2.2] 27)).alloc (.cells #[.bool false, .slice none 0 0, .int .i64 0] 27)) := nT (below_one _ _) (below_one _ _)
 obtain ⟨x0, x1, x2, z0, f0, z1, f1, z2, f2⟩ := fX4 w p a n c _ rfl
 have CC : Hid _ := canonE p a n c _ (h.keep bA) hn hp (hT.kept bA)
 have hb := (rightB_yes hp.2).2
 by_cases q0 : 0 ≤ p.2.2 + 1
 ·
  obtain ⟨t1, t2⟩ := tn_pos p q0
  rw [t2, show z3 = formD false 0 (-1) from (form_zero _ _).symm]
  generalize hRR : formD false 0 (-1) = RR at *
  have HT1 : Hid _ := t1
  clear t1 t2
  generalize tnN p = NN at *
  have hg := (rightB_yes hp.2).1
  go_enter Tryz.func110, Tryz.ntmps110
  go_wp2_with fail
  generalize ((w.alloc (.cells #[.bool p.1, .slice a n c, .int .i64 p.2.2] 27)).alloc (.cells #[.bool false, .slice none 0 0, .int .i64 0] 27)) = w0 at *
  have lb := bA.size
  clear x0 x1 x2
  refine cM CC.out ?_
  rintro r w1 ⟨_, rfl, ⟨a1, n1, c1, rfl, HN1, hn1, hO1⟩, b1⟩
  replace hO1 := hO1.low lb
  obtain ⟨bA, z0, f0, z1, f1, z2, f2⟩ := jkAF3 b1 bA z0 f0 z1 f1 z2 f2
  replace lb := Nat.le_trans lb b1.size
  clear b1 CC
  have lv := lb
  have NV : w.heap.size + 1 ≠ w1.heap.size := Nat.ne_of_lt (World.block_lt_of_cell? _ _ z0)
  have bD := below_one w1 (.cells #[.bool p.1, .slice a1 n1 c1, .int .i64 p.2.2] 27)
  obtain ⟨bA, z0, f0, z1, f1, z2, f2⟩ := jkAF3 bD bA z0 f0 z1 f1 z2 f2
  replace lb := Nat.le_trans lb bD.size
  replace hO1 := hO1.keep bD
  obtain ⟨y0, yf0, y1, yf1, y2, yf2⟩ := fX9 w1 p a1 n1 c1 _ rfl
  clear bD
  go_upto_region 4 with fail
  generalize w1.alloc (.cells #[.bool p.1, .slice a1 n1 c1, .int .i64 p.2.2] 27) = w2 at *
  generalize w1.heap.size = BV at *
  go_upto_region 5 with fail
  have nz0 := set1_cell (r := BV) (k := 2) (v := .int .i64 (p.2.2 + 1)) z0 (.inl NV)
  have nz1 := set1_cell (r := BV) (k := 2) (v := .int .i64 (p.2.2 + 1)) z1 (.inl NV)
  have nz2 := set1_cell (r := BV) (k := 2) (v := .int .i64 (p.2.2 + 1)) z2 (.inl NV)
  have ny0 := set1_cell (r := BV) (k := 2) (v := .int .i64 (p.2.2 + 1)) y0 (.inr (by decide))
  have ny1 := set1_cell (r := BV) (k := 2) (v := .int .i64 (p.2.2 + 1)) y1 (.inr (by decide))
  have ny2 := set1_same (v := .int .i64 (p.2.2 + 1)) y2
  have nf0 := set1_frozen (q := ⟨BV, 2, none⟩) (v := .int .i64 (p.2.2 + 1)) f0
  have nf1 := set1_frozen (q := ⟨BV, 2, none⟩) (v := .int .i64 (p.2.2 + 1)) f1
  have nf2 := set1_frozen (q := ⟨BV, 2, none⟩) (v := .int .i64 (p.2.2 + 1)) f2
  have nO1 := hO1.set_one ⟨BV, 2, none⟩ _ (.int .i64 (p.2.2 + 1)) y2 (fun z q => by cases q)
  have nbA := bA.setCell (p := ⟨BV, 2, none⟩) lv (.int .i64 (p.2.2 + 1))
  clear z0 z1 z2 y0 y1 y2 yf0 yf1 yf2 f0 f1 f2 hO1 bA lb
  generalize (w2.setCell ⟨BV, 2, none⟩ (.int .i64 (p.2.2 + 1))) = w3 at *
  have z0 := nz0
  have z1 := nz1
  have z2 := nz2
  have y0 := ny0
  have y1 := ny1
  have y2 := ny2
  have f0 := nf0
  have f1 := nf1
  have f2 := nf2
  have bA := nbA
  have hO1 := nO1
  have lb := bA.size
  clear nz0 nz1 nz2 ny0 ny1 ny2 nf0 nf1 nf2 nbA nO1
  go_wp2_with fail
  refine cM (near_pos p.1 (p.2.2 + 1) a1 n1 c1 _ q0) ?_
  rintro r w4 ⟨rfl, b1⟩
  obtain ⟨bA, z0, f0, z1, f1, z2, f2⟩ := jkAF3 b1 bA z0 f0 z1 f1 z2 f2
  replace lb := Nat.le_trans lb b1.size
  replace hO1 := hO1.keep b1
  revert y0 y1 y2; refine cc3 b1 ?_; intro y0 y1 y2
  clear b1
  have bD : Below w4.heap.size w4 ((w4.alloc (.cells #[.bool p.1, .slice a1 n1 c1, .int .i64 (p.2.2 + 1)] 27)).alloc (.cells #[.bool false, .slice none 0 0, .int .i64 0] 27)) := nT (below_one _ _) (below_one _ _)
  have NZ : w.heap.size + 1 < w4.heap.size := World.block_lt_of_cell? _ _ z0
  obtain ⟨bA, z0, f0, z1, f1, z2, f2⟩ := jkAF3 bD bA z0 f0 z1 f1 z2 f2
  replace lb := Nat.le_trans lb bD.size
  replace hO1 := hO1.keep bD
  revert y0 y1 y2; refine cc3 bD ?_; intro y0 y1 y2
  have u0 : ((w4.alloc (.cells #[.bool p.1, .slice a1 n1 c1, .int .i64 (p.2.2 + 1)] 27)).alloc (.cells #[.bool false, .slice none 0 0, .int .i64 0] 27)).cell? ⟨w4.heap.size, 0, none⟩ = some (.bool p.1) := by go_simp
  have u1 : ((w4.alloc (.cells #[.bool p.1, .slice a1 n1 c1, .int .i64 (p.2.2 + 1)] 27)).alloc (.cells #[.bool false, .slice none 0 0, .int .i64 0] 27)).cell? ⟨w4.heap.size, 1, none⟩ = some (.slice a1 n1 c1) := by go_simp
  have u2 : ((w4.alloc (.cells #[.bool p.1, .slice a1 n1 c1, .int .i64 (p.2.2 + 1)] 27)).alloc (.cells #[.bool false, .slice none 0 0, .int .i64 0] 27)).cell? ⟨w4.heap.size, 2, none⟩ = some (.int .i64 (p.2.2 + 1)) := by go_simp
  have r0 : ((w4.alloc (.cells #[.bool p.1, .slice a1 n1 c1, .int .i64 (p.2.2 + 1)] 27)).alloc (.cells #[.bool false, .slice none 0 0, .int .i64 0] 27)).cell? ⟨w4.heap.size + 1, 0, none⟩ = some (.bool false) := by go_simp
  have rf0 : ((w4.alloc (.cells #[.bool p.1, .slice a1 n1 c1, .int .i64 (p.2.2 + 1)] 27)).alloc (.cells #[.bool false, .slice none 0 0, .int .i64 0] 27)).frozen? ⟨w4.heap.size + 1, 0, none⟩ = false := by go_simp
  have r1 : ((w4.alloc (.cells #[.bool p.1, .slice a1 n1 c1, .int .i64 (p.2.2 + 1)] 27)).alloc (.cells #[.bool false, .slice none 0 0, .int .i64 0] 27)).cell? ⟨w4.heap.size + 1, 1, none⟩ = some (.slice none 0 0) := by go_simp
  have rf1 : ((w4.alloc (.cells #[.bool p.1, .slice a1 n1 c1, .int .i64 (p.2.2 + 1)] 27)).alloc (.cells #[.bool false, .slice none 0 0, .int .i64 0] 27)).frozen? ⟨w4.heap.size + 1, 1, none⟩ = false := by go_simp
  have r2 : ((w4.alloc (.cells #[.bool p.1, .slice a1 n1 c1, .int .i64 (p.2.2 + 1)] 27)).alloc (.cells #[.bool false, .slice none 0 0, .int .i64 0] 27)).cell? ⟨w4.heap.size + 1, 2, none⟩ = some (.int .i64 0) := by go_simp
  have rf2 : ((w4.alloc (.cells #[.bool p.1, .slice a1 n1 c1, .int .i64 (p.2.2 + 1)] 27)).alloc (.cells #[.bool false, .slice none 0 0, .int .i64 0] 27)).frozen? ⟨w4.heap.size + 1, 2, none⟩ = false := by go_simp
  clear bD
  go_upto_region 6 with fail
  generalize ((w4.alloc (.cells #[.bool p.1, .slice a1 n1 c1, .int .i64 (p.2.2 + 1)] 27)).alloc (.cells #[.bool false, .slice none 0 0, .int .i64 0] 27)) = w5 at *
  have lB : w.heap.size ≤ w4.heap.size := by omega
  generalize w4.heap.size = B7 at *
  go_upto_region 7 with fail
  have nz0 := set1_cell (r := B7 + 1) (k := 2) (v := .int .i64 (-1)) z0 (.inl (by omega))
  have nz1 := set1_cell (r := B7 + 1) (k := 2) (v := .int .i64 (-1)) z1 (.inl (by omega))
  have nz2 := set1_cell (r := B7 + 1) (k := 2) (v := .int .i64 (-1)) z2 (.inl (by omega))
  have nu0 := set1_cell (r := B7 + 1) (k := 2) (v := .int .i64 (-1)) u0 (.inl (by omega))
  have nu1 := set1_cell (r := B7 + 1) (k := 2) (v := .int .i64 (-1)) u1 (.inl (by omega))
  have nu2 := set1_cell (r := B7 + 1) (k := 2) (v := .int .i64 (-1)) u2 (.inl (by omega))
  have nr0 := set1_cell (r := B7 + 1) (k := 2) (v := .int .i64 (-1)) r0 (.inr (by decide))
  have nr1 := set1_cell (r := B7 + 1) (k := 2) (v := .int .i64 (-1)) r1 (.inr (by decide))
  have nr2 := set1_same (v := .int .i64 (-1)) r2
  have nf0 := set1_frozen (q := ⟨B7 + 1, 2, none⟩) (v := .int .i64 (-1)) f0
  have nf1 := set1_frozen (q := ⟨B7 + 1, 2, none⟩) (v := .int .i64 (-1)) f1
  have nf2 := set1_frozen (q := ⟨B7 + 1, 2, none⟩) (v := .int .i64 (-1)) f2
  have nrf0 := set1_frozen (q := ⟨B7 + 1, 2, none⟩) (v := .int .i64 (-1)) rf0
  have nrf1 := set1_frozen (q := ⟨B7 + 1, 2, none⟩) (v := .int .i64 (-1)) rf1
  have nrf2 := set1_frozen (q := ⟨B7 + 1, 2, none⟩) (v := .int .i64 (-1)) rf2
  have nhO1 := hO1.set_one ⟨B7 + 1, 2, none⟩ _ (.int .i64 (-1)) r2 (fun z q => by cases q)
  have nbA := bA.setCell (p := ⟨B7 + 1, 2, none⟩) (by show w.heap.size ≤ B7 + 1; omega) (.int .i64 (-1))
  clear z0 z1 z2 u0 u1 u2 r0 r1 r2 f0 f1 f2 rf0 rf1 rf2 bA hO1 lb y0 y1 y2
  generalize (w5.setCell ⟨B7 + 1, 2, none⟩ (.int .i64 (-1))) = w6 at *
  have z0 := nz0
  have z1 := nz1
  have z2 := nz2
  have u0 := nu0
  have u1 := nu1
  have u2 := nu2
  have r0 := nr0
  have r1 := nr1
  have r2 := nr2
  have f0 := nf0
  have f1 := nf1
  have f2 := nf2
  have rf0 := nrf0
  have rf1 := nrf1
  have rf2 := nrf2
  have bA := nbA
  have hO1 := nhO1
  clear nz0 nz1 nz2 nu0 nu1 nu2 nr0 nr1 nr2 nf0 nf1 nf2 nrf0 nrf1 nrf2 nbA nhO1
  have CD0 := canonR false 0 (-1) none 0 0 w6 (by rw [words_zero]; exact isW_nil _) (by omega) (by decide +kernel) (by decide +kernel) (hT.kept bA)
  rw [hRR] at CD0
  have CD : Hid _ := CD0
  clear CD0
  have lb := bA.size
  go_wp2_with fail
  refine cM CD.out ?_
  rintro r w7 ⟨_, rfl, ⟨a9, n9, c9, rfl, HN9, hn9, hO9⟩, b1⟩
  replace hO9 := hO9.low lb
  replace f0 := kF b1 z0 f0
  replace f1 := kF b1 z1 f1
  replace f2 := kF b1 z2 f2
  replace rf0 := kF b1 r0 rf0
  replace rf1 := kF b1 r1 rf1
  replace rf2 := kF b1 r2 rf2
  replace bA := nT bA b1
  revert z0 z1 z2; refine cc3 b1 ?_; intro z0 z1 z2
  replace hO1 := hO1.keep b1
  revert u0 u1 u2 r0 r1 r2; refine cc6 b1 ?_; intro u0 u1 u2 r0 r1 r2
  clear b1 CD
  go_upto_region 10 with fail
  have nz0 := set3_cell (v0 := .bool RR.1) (v1 := .slice a9 n9 c9) (v2 := .int .i64 RR.2.2) z0 (r := B7 + 1) (by omega)
  have nz1 := set3_cell (v0 := .bool RR.1) (v1 := .slice a9 n9 c9) (v2 := .int .i64 RR.2.2) z1 (r := B7 + 1) (by omega)
  have nz2 := set3_cell (v0 := .bool RR.1) (v1 := .slice a9 n9 c9) (v2 := .int .i64 RR.2.2) z2 (r := B7 + 1) (by omega)
  have nu0 := set3_cell (v0 := .bool RR.1) (v1 := .slice a9 n9 c9) (v2 := .int .i64 RR.2.2) u0 (r := B7 + 1) (by omega)
  have nu1 := set3_cell (v0 := .bool RR.1) (v1 := .slice a9 n9 c9) (v2 := .int .i64 RR.2.2) u1 (r := B7 + 1) (by omega)
  have nu2 := set3_cell (v0 := .bool RR.1) (v1 := .slice a9 n9 c9) (v2 := .int .i64 RR.2.2) u2 (r := B7 + 1) (by omega)
  have nf0 := set3_frozen (r := B7 + 1) (v0 := .bool RR.1) (v1 := .slice a9 n9 c9) (v2 := .int .i64 RR.2.2) f0
  have nf1 := set3_frozen (r := B7 + 1) (v0 := .bool RR.1) (v1 := .slice a9 n9 c9) (v2 := .int .i64 RR.2.2) f1
  have nf2 := set3_frozen (r := B7 + 1) (v0 := .bool RR.1) (v1 := .slice a9 n9 c9) (v2 := .int .i64 RR.2.2) f2
  obtain ⟨nr0, nr1, nr2⟩ := set3_same (r := B7 + 1) (v0 := .bool RR.1) (v1 := .slice a9 n9 c9) (v2 := .int .i64 RR.2.2) r0 r1 r2
  have nhO1 := hO1.set_dy (B7 + 1) _ _ _ _ _ (.bool RR.1) (.slice a9 n9 c9) (.int .i64 RR.2.2) r0 r1 r2
  have nhO9 := hO9.set_dy (B7 + 1) _ _ _ _ _ (.bool RR.1) (.slice a9 n9 c9) (.int .i64 RR.2.2) r0 r1 r2
  have nbA := ((bA.setCell (p := ⟨B7 + 1, 0, none⟩) (by show w.heap.size ≤ B7 + 1; omega) (.bool RR.1)).setCell (p := ⟨B7 + 1, 1, none⟩) (by show w.heap.size ≤ B7 + 1; omega) (.slice a9 n9 c9)).setCell (p := ⟨B7 + 1, 2, none⟩) (by show w.heap.size ≤ B7 + 1; omega) (.int .i64 RR.2.2)
  clear z0 z1 z2 u0 u1 u2 r0 r1 r2 f0 f1 f2 bA hO1 hO9 rf0 rf1 rf2 lb
  generalize (((w7.setCell ⟨B7 + 1, 0, none⟩ (.bool RR.1)).setCell ⟨B7 + 1, 1, none⟩ (.slice a9 n9 c9)).setCell ⟨B7 + 1, 2, none⟩ (.int .i64 RR.2.2)) = w8 at *
  have z0 := nz0
  have z1 := nz1
  have z2 := nz2
  have u0 := nu0
  have u1 := nu1
  have u2 := nu2
  have r0 := nr0
  have r1 := nr1
  have r2 := nr2
  have f0 := nf0
  have f1 := nf1
  have f2 := nf2
  have bA := nbA
  have hO1 := nhO1
  have hO9 := nhO9
  clear nz0 nz1 nz2 nu0 nu1 nu2 nr0 nr1 nr2 nf0 nf1 nf2 nbA nhO1 nhO9
  have BF0 := fun W (b : Below w8.heap.size w8 W) => byFour_calls p.1 p.2.1 (p.2.2 + 1) a1 n1 c1 W (hO1.1.keep b) hn1 hg (by omega)
  have hT1 := HT1.out
  simp only [hT1] at BF0
  have BF : Hid _ := BF0
  clear BF0 hT1
  have bs : (fun w' : World => w'.cell? ⟨B7, 0, none⟩ = some (.bool p.1) ∧ w'.cell? ⟨B7, 1, none⟩ = some (.slice a1 n1 c1) ∧ w'.cell? ⟨B7, 2, none⟩ = some (.int .i64 (p.2.2 + 1)) ∧ w'.cell? ⟨B7 + 1, 0, none⟩ = some (.bool RR.1) ∧ w'.cell? ⟨B7 + 1, 1, none⟩ = some (.slice a9 n9 c9) ∧ w'.cell? ⟨B7 + 1, 2, none⟩ = some (.int .i64 RR.2.2)) w8.drew := ⟨u0, u1, u2, r0, r1, r2⟩
  refine wp_region_held (S := fun w' => w'.cell? ⟨B7, 0, none⟩ = some (.bool p.1) ∧ w'.cell? ⟨B7, 1, none⟩ = some (.slice a1 n1 c1) ∧ w'.cell? ⟨B7, 2, none⟩ = some (.int .i64 (p.2.2 + 1)) ∧ w'.cell? ⟨B7 + 1, 0, none⟩ = some (.bool RR.1) ∧ w'.cell? ⟨B7 + 1, 1, none⟩ = some (.slice a9 n9 c9) ∧ w'.cell? ⟨B7 + 1, 2, none⟩ = some (.int .i64 RR.2.2)) (by kernel_rfl) ?_
  change wpAnyH _ _ _ _ _ _ _ _ (World.drew w8)
  have bw : Below w8.heap.size w8 w8.drew := (Below.refl _ _).drew
  generalize World.drew w8 = wd at bs bw ⊢
  refine tk 0 (dyV (p.1) (a1) (n1) (c1) ((p.2.2 + 1))) rfl (by kernel_rfl) (fun _ _ _ h => h) (by rfl) ?y1 bs ?r1
  case y1 =>
   intro ww hS
   obtain ⟨h0, h1, h2, h3, h4, h5⟩ := hS
   go_simp
   try with_reducible rfl
  try simp only [Act.put, sA]
  refine tk 2 (dyV RR.1 a9 n9 c9 RR.2.2) rfl (by kernel_rfl) (fun _ _ _ h => h) (by rfl) ?y2 bs ?r2
  case y2 =>
   intro ww hS
   obtain ⟨h0, h1, h2, h3, h4, h5⟩ := hS
   go_simp
   try with_reducible rfl
  try simp only [Act.put]
  refine rd1 1 (by kernel_rfl) rfl fun K hK => ?_
  go_simp
  refine cM (BF.out _ bw) ?_
  rintro r wn ⟨rfl, bN⟩
  have bs2 := And.intro (kC bN bs.1) (And.intro (kC bN bs.2.1) (And.intro (kC bN bs.2.2.1) (And.intro (kC bN bs.2.2.2.1) (And.intro (kC bN bs.2.2.2.2.1) (kC bN bs.2.2.2.2.2)))))
  refine hK.out _ _ bs2 (fun _ => ?_)
  clear hK K
  replace bw := nT bw bN
  clear bN BF bs
  try simp only [Act.put, sA, sZ, sS]
  refine rd1 3 (by kernel_rfl) rfl fun K hK => ?_
  go_simp
  refine hK.out _ _ bs2 (fun _ => ?_)
  clear hK K
  try simp only [Act.put, sA, sZ, sS]
  obtain ⟨bA, hO9, z0, f0, z1, f1, z2, f2⟩ := jkAOF3 bw bA hO9 z0 f0 z1 f1 z2 f2
  refine rd1 4 (by kernel_rfl) rfl fun K hK => ?_
  go_simp
  have bs3 := And.intro (set3_cell (v0 := .bool RR.1) (v1 := .slice a9 n9 c9) (v2 := .int .i64 RR.2.2) bs2.1 (r := w.heap.size + 1) (by omega)) (And.intro (set3_cell (v0 := .bool RR.1) (v1 := .slice a9 n9 c9) (v2 := .int .i64 RR.2.2) bs2.2.1 (r := w.heap.size + 1) (by omega)) (And.intro (set3_cell (v0 := .bool RR.1) (v1 := .slice a9 n9 c9) (v2 := .int .i64 RR.2.2) bs2.2.2.1 (r := w.heap.size + 1) (by omega)) (And.intro (set3_cell (v0 := .bool RR.1) (v1 := .slice a9 n9 c9) (v2 := .int .i64 RR.2.2) bs2.2.2.2.1 (r := w.heap.size + 1) (by omega)) (And.intro (set3_cell (v0 := .bool RR.1) (v1 := .slice a9 n9 c9) (v2 := .int .i64 RR.2.2) bs2.2.2.2.2.1 (r := w.heap.size + 1) (by omega)) (set3_cell (v0 := .bool RR.1) (v1 := .slice a9 n9 c9) (v2 := .int .i64 RR.2.2) bs2.2.2.2.2.2 (r := w.heap.size + 1) (by omega))))))
  refine hK.out _ _ bs3 (fun _ => ?_)
  clear hK K
  try simp only [Act.put, sA, sZ, sS]
  refine rd1 5 (by kernel_rfl) rfl fun K hK => ?_
  go_simp
  refine hK.out _ _ bs3 (fun _ => ?_)
  clear hK K
  try simp only [Act.put, sA, sZ, sS]
  refine wpAnyH_done (by kernel_rfl) ?_ _
  go_wp2_with fail
  exact bodyPost_ret (v := .tuple #[.int .i64 NN, dyV RR.1 a9 n9 c9 RR.2.2, .int .i64 0]) (by simp [results, Tryz.results110, go_sem, z0, z1, z2]) rfl ⟨_, rfl, ⟨a9, n9, c9, rfl, HN9, hn9, hO9.set_dy (w.heap.size + 1) false none 0 0 0 _ _ _ z0 z1 z2⟩, by repeat (first | (with_reducible exact bA) | (with_reducible refine Below.setCell ?_ (by simp; try omega) _) | (with_reducible refine Below.alloc ?_ (by have := bA.size; simp; try omega) _))⟩
 ·
  obtain ⟨kk, hkk⟩ : ∃ kk : Nat, (kk : Int) = -(p.2.2 + 1) := ⟨(-(p.2.2 + 1)).toNat, by omega⟩
  have hk1 : 1 ≤ kk := by omega
  obtain ⟨t1, t2⟩ := tn_neg p kk (by omega) hk1
  have hRO := rest_ok (!(p.1 == up2 p.2.1 (kk : Int))) (if up2 p.2.1 (kk : Int) = true then 2 ^ kk - p.2.1 % 2 ^ kk else p.2.1 % 2 ^ kk) kk p.2.2 (by split; exact Nat.sub_le _ _; exact Nat.le_of_lt (Nat.mod_lt _ (Nat.two_pow_pos _))) (by omega) (by omega)
  have hg := (rightB_yes hp.2).1
  have hgW : greatB (p.2.1 / 2 ^ kk + (up2 p.2.1 (kk : Int)).toNat) = false := by
   cases up2 p.2.1 (kk : Int)
   ·exact great_mono (Nat.div_le_self _ _) hg
   ·exact (add_fit kk p.2.1 hk1 rfl hg).2
  have NC : Hid _ := fun (W : World) (a1 : Option Addr) (n1 c1 : Nat) (g : IsW W a1 n1 c1 (wO p.2.1)) (h1 : n1 ≤ 1024) => near_neg p.1 p.2.1 kk (p.2.2 + 1) a1 n1 c1 W g h1 hg hk1 (by omega) (by omega) (u := up2 p.2.1 (kk : Int)) rfl
  rw [t2]
  have HT1 : Hid _ := t1
  have HRO : Hid _ := hRO
  clear t1 t2 hRO
  generalize tnN p = NN at *
  generalize up2 p.2.1 (kk : Int) = u at *
  generalize p.2.1 / 2 ^ kk + u.toNat = WW at *
  generalize (if u = true then 2 ^ kk - p.2.1 % 2 ^ kk else p.2.1 % 2 ^ kk) = MM at *
  generalize hsR : (!(p.1 == u)) = sR at *
  clear hsR hkk hk1
  have q0' : p.2.2 + 1 < 0 := by omega
  have HF : Hid _ := HRO.out
  generalize hRR : formD sR MM p.2.2 = RR at *
  go_enter Tryz.func110, Tryz.ntmps110
  go_wp2_with fail
  generalize ((w.alloc (.cells #[.bool p.1, .slice a n c, .int .i64 p.2.2] 27)).alloc (.cells #[.bool false, .slice none 0 0, .int .i64 0] 27)) = w0 at *
  have lb := bA.size
  clear x0 x1 x2
  refine cM CC.out ?_
  rintro r w1 ⟨_, rfl, ⟨a1, n1, c1, rfl, HN1, hn1, hO1⟩, b1⟩
  replace hO1 := hO1.low lb
  obtain ⟨bA, z0, f0, z1, f1, z2, f2⟩ := jkAF3 b1 bA z0 f0 z1 f1 z2 f2
  replace lb := Nat.le_trans lb b1.size
  clear b1 CC
  have lv := lb
  have NV : w.heap.size + 1 ≠ w1.heap.size := Nat.ne_of_lt (World.block_lt_of_cell? _ _ z0)
  have bD := below_one w1 (.cells #[.bool p.1, .slice a1 n1 c1, .int .i64 p.2.2] 27)
  obtain ⟨bA, z0, f0, z1, f1, z2, f2⟩ := jkAF3 bD bA z0 f0 z1 f1 z2 f2
  replace lb := Nat.le_trans lb bD.size
  replace hO1 := hO1.keep bD
  obtain ⟨y0, yf0, y1, yf1, y2, yf2⟩ := fX9 w1 p a1 n1 c1 _ rfl
  clear bD
  go_upto_region 4 with fail
  generalize w1.alloc (.cells #[.bool p.1, .slice a1 n1 c1, .int .i64 p.2.2] 27) = w2 at *
  generalize w1.heap.size = BV at *
  go_upto_region 5 with fail
  have nz0 := set1_cell (r := BV) (k := 2) (v := .int .i64 (p.2.2 + 1)) z0 (.inl NV)
  have nz1 := set1_cell (r := BV) (k := 2) (v := .int .i64 (p.2.2 + 1)) z1 (.inl NV)
  have nz2 := set1_cell (r := BV) (k := 2) (v := .int .i64 (p.2.2 + 1)) z2 (.inl NV)
  have ny0 := set1_cell (r := BV) (k := 2) (v := .int .i64 (p.2.2 + 1)) y0 (.inr (by decide))
  have ny1 := set1_cell (r := BV) (k := 2) (v := .int .i64 (p.2.2 + 1)) y1 (.inr (by decide))
  have ny2 := set1_same (v := .int .i64 (p.2.2 + 1)) y2
  have nf0 := set1_frozen (q := ⟨BV, 2, none⟩) (v := .int .i64 (p.2.2 + 1)) f0
  have nf1 := set1_frozen (q := ⟨BV, 2, none⟩) (v := .int .i64 (p.2.2 + 1)) f1
  have nf2 := set1_frozen (q := ⟨BV, 2, none⟩) (v := .int .i64 (p.2.2 + 1)) f2
  have nO1 := hO1.set_one ⟨BV, 2, none⟩ _ (.int .i64 (p.2.2 + 1)) y2 (fun z q => by cases q)
  have nbA := bA.setCell (p := ⟨BV, 2, none⟩) lv (.int .i64 (p.2.2 + 1))
  clear z0 z1 z2 y0 y1 y2 yf0 yf1 yf2 f0 f1 f2 hO1 bA lb
  generalize (w2.setCell ⟨BV, 2, none⟩ (.int .i64 (p.2.2 + 1))) = w3 at *
  have z0 := nz0
  have z1 := nz1
  have z2 := nz2
  have y0 := ny0
  have y1 := ny1
  have y2 := ny2
  have f0 := nf0
  have f1 := nf1
  have f2 := nf2
  have bA := nbA
  have hO1 := nO1
  have lb := bA.size
  clear nz0 nz1 nz2 ny0 ny1 ny2 nf0 nf1 nf2 nbA nO1
  go_wp2_with fail
  refine cM (NC.out _ _ _ _ hO1.1 hn1) ?_
  rintro r w4 ⟨a2, n2, c2, a3, n3, c3, rfl, HN2, hn2, hO2, HN3, hn3, hO3, b1⟩
  replace hO2 := hO2.low lb
  replace hO3 := hO3.low lb
  obtain ⟨bA, z0, f0, z1, f1, z2, f2⟩ := jkAF3 b1 bA z0 f0 z1 f1 z2 f2
  replace lb := Nat.le_trans lb b1.size
  replace hO1 := hO1.keep b1
  revert y0 y1 y2; refine cc3 b1 ?_; intro y0 y1 y2
  clear b1
  have bD : Below w4.heap.size w4 ((w4.alloc (.cells #[.bool p.1, .slice a2 n2 c2, .int .i64 0] 27)).alloc (.cells #[.bool sR, .slice a3 n3 c3, .int .i64 (p.2.2 + 1)] 27)) := nT (below_one _ _) (below_one _ _)
  have NZ : w.heap.size + 1 < w4.heap.size := World.block_lt_of_cell? _ _ z0
  obtain ⟨bA, z0, f0, z1, f1, z2, f2⟩ := jkAF3 bD bA z0 f0 z1 f1 z2 f2
  replace lb := Nat.le_trans lb bD.size
  replace hO1 := hO1.keep bD
  revert y0 y1 y2; refine cc3 bD ?_; intro y0 y1 y2
  replace hO2 := hO2.keep bD
  replace hO3 := hO3.keep bD
  have u0 : ((w4.alloc (.cells #[.bool p.1, .slice a2 n2 c2, .int .i64 0] 27)).alloc (.cells #[.bool sR, .slice a3 n3 c3, .int .i64 (p.2.2 + 1)] 27)).cell? ⟨w4.heap.size, 0, none⟩ = some (.bool p.1) := by go_simp
  have u1 : ((w4.alloc (.cells #[.bool p.1, .slice a2 n2 c2, .int .i64 0] 27)).alloc (.cells #[.bool sR, .slice a3 n3 c3, .int .i64 (p.2.2 + 1)] 27)).cell? ⟨w4.heap.size, 1, none⟩ = some (.slice a2 n2 c2) := by go_simp
  have u2 : ((w4.alloc (.cells #[.bool p.1, .slice a2 n2 c2, .int .i64 0] 27)).alloc (.cells #[.bool sR, .slice a3 n3 c3, .int .i64 (p.2.2 + 1)] 27)).cell? ⟨w4.heap.size, 2, none⟩ = some (.int .i64 0) := by go_simp
  have r0 : ((w4.alloc (.cells #[.bool p.1, .slice a2 n2 c2, .int .i64 0] 27)).alloc (.cells #[.bool sR, .slice a3 n3 c3, .int .i64 (p.2.2 + 1)] 27)).cell? ⟨w4.heap.size + 1, 0, none⟩ = some (.bool sR) := by go_simp
  have rf0 : ((w4.alloc (.cells #[.bool p.1, .slice a2 n2 c2, .int .i64 0] 27)).alloc (.cells #[.bool sR, .slice a3 n3 c3, .int .i64 (p.2.2 + 1)] 27)).frozen? ⟨w4.heap.size + 1, 0, none⟩ = false := by go_simp
  have r1 : ((w4.alloc (.cells #[.bool p.1, .slice a2 n2 c2, .int .i64 0] 27)).alloc (.cells #[.bool sR, .slice a3 n3 c3, .int .i64 (p.2.2 + 1)] 27)).cell? ⟨w4.heap.size + 1, 1, none⟩ = some (.slice a3 n3 c3) := by go_simp
  have rf1 : ((w4.alloc (.cells #[.bool p.1, .slice a2 n2 c2, .int .i64 0] 27)).alloc (.cells #[.bool sR, .slice a3 n3 c3, .int .i64 (p.2.2 + 1)] 27)).frozen? ⟨w4.heap.size + 1, 1, none⟩ = false := by go_simp
  have r2 : ((w4.alloc (.cells #[.bool p.1, .slice a2 n2 c2, .int .i64 0] 27)).alloc (.cells #[.bool sR, .slice a3 n3 c3, .int .i64 (p.2.2 + 1)] 27)).cell? ⟨w4.heap.size + 1, 2, none⟩ = some (.int .i64 (p.2.2 + 1)) := by go_simp
  have rf2 : ((w4.alloc (.cells #[.bool p.1, .slice a2 n2 c2, .int .i64 0] 27)).alloc (.cells #[.bool sR, .slice a3 n3 c3, .int .i64 (p.2.2 + 1)] 27)).frozen? ⟨w4.heap.size + 1, 2, none⟩ = false := by go_simp
  clear bD
  go_upto_region 6 with fail
  generalize ((w4.alloc (.cells #[.bool p.1, .slice a2 n2 c2, .int .i64 0] 27)).alloc (.cells #[.bool sR, .slice a3 n3 c3, .int .i64 (p.2.2 + 1)] 27)) = w5 at *
  have lB : w.heap.size ≤ w4.heap.size := by omega
  generalize w4.heap.size = B7 at *
  go_upto_region 7 with fail
  have nz0 := set1_cell (r := B7 + 1) (k := 2) (v := .int .i64 (p.2.2)) z0 (.inl (by omega))
  have nz1 := set1_cell (r := B7 + 1) (k := 2) (v := .int .i64 (p.2.2)) z1 (.inl (by omega))
  have nz2 := set1_cell (r := B7 + 1) (k := 2) (v := .int .i64 (p.2.2)) z2 (.inl (by omega))
  have nu0 := set1_cell (r := B7 + 1) (k := 2) (v := .int .i64 (p.2.2)) u0 (.inl (by omega))
  have nu1 := set1_cell (r := B7 + 1) (k := 2) (v := .int .i64 (p.2.2)) u1 (.inl (by omega))
  have nu2 := set1_cell (r := B7 + 1) (k := 2) (v := .int .i64 (p.2.2)) u2 (.inl (by omega))
  have nr0 := set1_cell (r := B7 + 1) (k := 2) (v := .int .i64 (p.2.2)) r0 (.inr (by decide))
  have nr1 := set1_cell (r := B7 + 1) (k := 2) (v := .int .i64 (p.2.2)) r1 (.inr (by decide))
  have nr2 := set1_same (v := .int .i64 (p.2.2)) r2
  have nf0 := set1_frozen (q := ⟨B7 + 1, 2, none⟩) (v := .int .i64 (p.2.2)) f0
  have nf1 := set1_frozen (q := ⟨B7 + 1, 2, none⟩) (v := .int .i64 (p.2.2)) f1
  have nf2 := set1_frozen (q := ⟨B7 + 1, 2, none⟩) (v := .int .i64 (p.2.2)) f2
  have nrf0 := set1_frozen (q := ⟨B7 + 1, 2, none⟩) (v := .int .i64 (p.2.2)) rf0
  have nrf1 := set1_frozen (q := ⟨B7 + 1, 2, none⟩) (v := .int .i64 (p.2.2)) rf1
  have nrf2 := set1_frozen (q := ⟨B7 + 1, 2, none⟩) (v := .int .i64 (p.2.2)) rf2
  have nhO1 := hO1.set_one ⟨B7 + 1, 2, none⟩ _ (.int .i64 (p.2.2)) r2 (fun z q => by cases q)
  have nhO2 := hO2.set_one ⟨B7 + 1, 2, none⟩ _ (.int .i64 (p.2.2)) r2 (fun z q => by cases q)
  have nhO3 := hO3.set_one ⟨B7 + 1, 2, none⟩ _ (.int .i64 (p.2.2)) r2 (fun z q => by cases q)
  have nbA := bA.setCell (p := ⟨B7 + 1, 2, none⟩) (by show w.heap.size ≤ B7 + 1; omega) (.int .i64 (p.2.2))
  clear z0 z1 z2 u0 u1 u2 r0 r1 r2 f0 f1 f2 rf0 rf1 rf2 bA hO1 hO2 hO3 lb y0 y1 y2
  generalize (w5.setCell ⟨B7 + 1, 2, none⟩ (.int .i64 (p.2.2))) = w6 at *
  have z0 := nz0
  have z1 := nz1
  have z2 := nz2
  have u0 := nu0
  have u1 := nu1
  have u2 := nu2
  have r0 := nr0
  have r1 := nr1
  have r2 := nr2
  have f0 := nf0
  have f1 := nf1
  have f2 := nf2
  have rf0 := nrf0
  have rf1 := nrf1
  have rf2 := nrf2
  have bA := nbA
  have hO1 := nhO1
  have hO2 := nhO2
  have hO3 := nhO3
  clear nz0 nz1 nz2 nu0 nu1 nu2 nr0 nr1 nr2 nf0 nf1 nf2 nrf0 nrf1 nrf2 nbA nhO1 nhO2 nhO3
  have CD0 := canonR sR MM p.2.2 a3 n3 c3 w6 hO3.1 hn3 HRO.out.1 (by rw [hRR]; exact HRO.out.2) (hT.kept bA)
  rw [hRR] at CD0
  have CD : Hid _ := CD0
  clear CD0
  have lb := bA.size
  go_wp2_with fail
  refine cM CD.out ?_
  rintro r w7 ⟨_, rfl, ⟨a9, n9, c9, rfl, HN9, hn9, hO9⟩, b1⟩
  replace hO9 := hO9.low lb
  replace f0 := kF b1 z0 f0
  replace f1 := kF b1 z1 f1
  replace f2 := kF b1 z2 f2
  replace rf0 := kF b1 r0 rf0
  replace rf1 := kF b1 r1 rf1
  replace rf2 := kF b1 r2 rf2
  replace bA := nT bA b1
  revert z0 z1 z2; refine cc3 b1 ?_; intro z0 z1 z2
  replace hO1 := hO1.keep b1
  replace hO2 := hO2.keep b1
  replace hO3 := hO3.keep b1
  revert u0 u1 u2 r0 r1 r2; refine cc6 b1 ?_; intro u0 u1 u2 r0 r1 r2
  clear b1 CD
  go_upto_region 10 with fail
  have nz0 := set3_cell (v0 := .bool RR.1) (v1 := .slice a9 n9 c9) (v2 := .int .i64 RR.2.2) z0 (r := B7 + 1) (by omega)
  have nz1 := set3_cell (v0 := .bool RR.1) (v1 := .slice a9 n9 c9) (v2 := .int .i64 RR.2.2) z1 (r := B7 + 1) (by omega)
  have nz2 := set3_cell (v0 := .bool RR.1) (v1 := .slice a9 n9 c9) (v2 := .int .i64 RR.2.2) z2 (r := B7 + 1) (by omega)
  have nu0 := set3_cell (v0 := .bool RR.1) (v1 := .slice a9 n9 c9) (v2 := .int .i64 RR.2.2) u0 (r := B7 + 1) (by omega)
  have nu1 := set3_cell (v0 := .bool RR.1) (v1 := .slice a9 n9 c9) (v2 := .int .i64 RR.2.2) u1 (r := B7 + 1) (by omega)
  have nu2 := set3_cell (v0 := .bool RR.1) (v1 := .slice a9 n9 c9) (v2 := .int .i64 RR.2.2) u2 (r := B7 + 1) (by omega)
  have nf0 := set3_frozen (r := B7 + 1) (v0 := .bool RR.1) (v1 := .slice a9 n9 c9) (v2 := .int .i64 RR.2.2) f0
  have nf1 := set3_frozen (r := B7 + 1) (v0 := .bool RR.1) (v1 := .slice a9 n9 c9) (v2 := .int .i64 RR.2.2) f1
  have nf2 := set3_frozen (r := B7 + 1) (v0 := .bool RR.1) (v1 := .slice a9 n9 c9) (v2 := .int .i64 RR.2.2) f2
  obtain ⟨nr0, nr1, nr2⟩ := set3_same (r := B7 + 1) (v0 := .bool RR.1) (v1 := .slice a9 n9 c9) (v2 := .int .i64 RR.2.2) r0 r1 r2
  have nhO1 := hO1.set_dy (B7 + 1) _ _ _ _ _ (.bool RR.1) (.slice a9 n9 c9) (.int .i64 RR.2.2) r0 r1 r2
  have nhO2 := hO2.set_dy (B7 + 1) _ _ _ _ _ (.bool RR.1) (.slice a9 n9 c9) (.int .i64 RR.2.2) r0 r1 r2
  have nhO3 := hO3.set_dy (B7 + 1) _ _ _ _ _ (.bool RR.1) (.slice a9 n9 c9) (.int .i64 RR.2.2) r0 r1 r2
  have nhO9 := hO9.set_dy (B7 + 1) _ _ _ _ _ (.bool RR.1) (.slice a9 n9 c9) (.int .i64 RR.2.2) r0 r1 r2
  have nbA := ((bA.setCell (p := ⟨B7 + 1, 0, none⟩) (by show w.heap.size ≤ B7 + 1; omega) (.bool RR.1)).setCell (p := ⟨B7 + 1, 1, none⟩) (by show w.heap.size ≤ B7 + 1; omega) (.slice a9 n9 c9)).setCell (p := ⟨B7 + 1, 2, none⟩) (by show w.heap.size ≤ B7 + 1; omega) (.int .i64 RR.2.2)
  clear z0 z1 z2 u0 u1 u2 r0 r1 r2 f0 f1 f2 bA hO1 hO2 hO3 hO9 rf0 rf1 rf2 lb
  generalize (((w7.setCell ⟨B7 + 1, 0, none⟩ (.bool RR.1)).setCell ⟨B7 + 1, 1, none⟩ (.slice a9 n9 c9)).setCell ⟨B7 + 1, 2, none⟩ (.int .i64 RR.2.2)) = w8 at *
  have z0 := nz0
  have z1 := nz1
  have z2 := nz2
  have u0 := nu0
  have u1 := nu1
  have u2 := nu2
  have r0 := nr0
  have r1 := nr1
  have r2 := nr2
  have f0 := nf0
  have f1 := nf1
  have f2 := nf2
  have bA := nbA
  have hO1 := nhO1
  have hO2 := nhO2
  have hO3 := nhO3
  have hO9 := nhO9
  clear nz0 nz1 nz2 nu0 nu1 nu2 nr0 nr1 nr2 nf0 nf1 nf2 nbA nhO1 nhO2 nhO3 nhO9
  have BF0 := fun W (b : Below w8.heap.size w8 W) => byFour_calls p.1 WW 0 a2 n2 c2 W (hO2.1.keep b) hn2 hgW (by omega)
  have hT1 := HT1.out
  simp only [hT1] at BF0
  have BF : Hid _ := BF0
  clear BF0 hT1
  have bs : (fun w' : World => w'.cell? ⟨B7, 0, none⟩ = some (.bool p.1) ∧ w'.cell? ⟨B7, 1, none⟩ = some (.slice a2 n2 c2) ∧ w'.cell? ⟨B7, 2, none⟩ = some (.int .i64 0) ∧ w'.cell? ⟨B7 + 1, 0, none⟩ = some (.bool RR.1) ∧ w'.cell? ⟨B7 + 1, 1, none⟩ = some (.slice a9 n9 c9) ∧ w'.cell? ⟨B7 + 1, 2, none⟩ = some (.int .i64 RR.2.2)) w8.drew := ⟨u0, u1, u2, r0, r1, r2⟩
  refine wp_region_held (S := fun w' => w'.cell? ⟨B7, 0, none⟩ = some (.bool p.1) ∧ w'.cell? ⟨B7, 1, none⟩ = some (.slice a2 n2 c2) ∧ w'.cell? ⟨B7, 2, none⟩ = some (.int .i64 0) ∧ w'.cell? ⟨B7 + 1, 0, none⟩ = some (.bool RR.1) ∧ w'.cell? ⟨B7 + 1, 1, none⟩ = some (.slice a9 n9 c9) ∧ w'.cell? ⟨B7 + 1, 2, none⟩ = some (.int .i64 RR.2.2)) (by kernel_rfl) ?_
  change wpAnyH _ _ _ _ _ _ _ _ (World.drew w8)
  have bw : Below w8.heap.size w8 w8.drew := (Below.refl _ _).drew
  generalize World.drew w8 = wd at bs bw ⊢
  refine tk 0 (dyV (p.1) (a2) (n2) (c2) (0)) rfl (by kernel_rfl) (fun _ _ _ h => h) (by rfl) ?y3 bs ?r3
  case y3 =>
   intro ww hS
   obtain ⟨h0, h1, h2, h3, h4, h5⟩ := hS
   go_simp
   try with_reducible rfl
  try simp only [Act.put, sA]
  refine tk 2 (dyV RR.1 a9 n9 c9 RR.2.2) rfl (by kernel_rfl) (fun _ _ _ h => h) (by rfl) ?y4 bs ?r4
  case y4 =>
   intro ww hS
   obtain ⟨h0, h1, h2, h3, h4, h5⟩ := hS
   go_simp
   try with_reducible rfl
  try simp only [Act.put]
  refine rd1 1 (by kernel_rfl) rfl fun K hK => ?_
  go_simp
  refine cM (BF.out _ bw) ?_
  rintro r wn ⟨rfl, bN⟩
  have bs2 := And.intro (kC bN bs.1) (And.intro (kC bN bs.2.1) (And.intro (kC bN bs.2.2.1) (And.intro (kC bN bs.2.2.2.1) (And.intro (kC bN bs.2.2.2.2.1) (kC bN bs.2.2.2.2.2)))))
  refine hK.out _ _ bs2 (fun _ => ?_)
  clear hK K
  replace bw := nT bw bN
  clear bN BF bs
  try simp only [Act.put, sA, sZ, sS]
  refine rd1 3 (by kernel_rfl) rfl fun K hK => ?_
  go_simp
  refine hK.out _ _ bs2 (fun _ => ?_)
  clear hK K
  try simp only [Act.put, sA, sZ, sS]
  obtain ⟨bA, hO9, z0, f0, z1, f1, z2, f2⟩ := jkAOF3 bw bA hO9 z0 f0 z1 f1 z2 f2
  refine rd1 4 (by kernel_rfl) rfl fun K hK => ?_
  go_simp
  have bs3 := And.intro (set3_cell (v0 := .bool RR.1) (v1 := .slice a9 n9 c9) (v2 := .int .i64 RR.2.2) bs2.1 (r := w.heap.size + 1) (by omega)) (And.intro (set3_cell (v0 := .bool RR.1) (v1 := .slice a9 n9 c9) (v2 := .int .i64 RR.2.2) bs2.2.1 (r := w.heap.size + 1) (by omega)) (And.intro (set3_cell (v0 := .bool RR.1) (v1 := .slice a9 n9 c9) (v2 := .int .i64 RR.2.2) bs2.2.2.1 (r := w.heap.size + 1) (by omega)) (And.intro (set3_cell (v0 := .bool RR.1) (v1 := .slice a9 n9 c9) (v2 := .int .i64 RR.2.2) bs2.2.2.2.1 (r := w.heap.size + 1) (by omega)) (And.intro (set3_cell (v0 := .bool RR.1) (v1 := .slice a9 n9 c9) (v2 := .int .i64 RR.2.2) bs2.2.2.2.2.1 (r := w.heap.size + 1) (by omega)) (set3_cell (v0 := .bool RR.1) (v1 := .slice a9 n9 c9) (v2 := .int .i64 RR.2.2) bs2.2.2.2.2.2 (r := w.heap.size + 1) (by omega))))))
  refine hK.out _ _ bs3 (fun _ => ?_)
  clear hK K
  try simp only [Act.put, sA, sZ, sS]
  refine rd1 5 (by kernel_rfl) rfl fun K hK => ?_
  go_simp
  refine hK.out _ _ bs3 (fun _ => ?_)
  clear hK K
  try simp only [Act.put, sA, sZ, sS]
  refine wpAnyH_done (by kernel_rfl) ?_ _
  go_wp2_with fail
  exact bodyPost_ret (v := .tuple #[.int .i64 NN, dyV RR.1 a9 n9 c9 RR.2.2, .int .i64 0]) (by simp [results, Tryz.results110, go_sem, z0, z1, z2]) rfl ⟨_, rfl, ⟨a9, n9, c9, rfl, HN9, hn9, hO9.set_dy (w.heap.size + 1) false none 0 0 0 _ _ _ z0 z1 z2⟩, by repeat (first | (with_reducible exact bA) | (with_reducible refine Below.setCell ?_ (by simp; try omega) _) | (with_reducible refine Below.alloc ?_ (by have := bA.size; simp; try omega) _))⟩
end Go.Proofs.YtiijfnaaekmpbaaGreatDoor

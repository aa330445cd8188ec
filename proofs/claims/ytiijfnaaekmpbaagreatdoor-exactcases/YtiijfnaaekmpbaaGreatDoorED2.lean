/- The document's exact cases: the small functions. -/
import Derived.Test.YtiijfnaaekmpbaaGreatDoorECX
import Derived.Test.YtiijfnaaekmpbaaGreatDoorECY
import Derived.Test.YtiijfnaaekmpbaaGreatDoorNMX
import Derived.Test.YtiijfnaaekmpbaaGreatDoorTMD
import Derived.Test.YtiijfnaaekmpbaaGreatDoorTMS
import Derived.Test.YtiijfnaaekmpbaaGreatDoorTMQ
import Derived.BigQuiet
import Derived.Test.YtiijfnaaekmpbaaGreatDoorFX
namespace Go.Proofs.YtiijfnaaekmpbaaGreatDoor
open Go.RowKit
set_option maxHeartbeats 4000000
set_option maxRecDepth 100000
theorem isW_oneD {w : World} {b : Nat} {x : Int} (h : w.cell? ⟨b, 0, none⟩ = some (.int .u64 x)) (hx : 0 ≤ x ∧ x ≤ 18446744073709551615) : IsW w (some ⟨b, 0, none⟩) 1 1 [x] := by
 refine ⟨rfl, ?_, ⟨Nat.le_refl _, fun e => by cases e⟩, fun i hi => ?_⟩
 ·intro y hy
  simp at hy
  rw [hy]; exact hx
 ·obtain rfl : i = 0 := by omega
  exact ⟨b, 0, rfl, World.block_lt_of_cell? _ _ h, h⟩
theorem okE_len {p : E3} (h : OkE p) : (wO p.2.1).length ≤ 1024 := (great_len _).1 (rightB_yes h.2).1
theorem okE_bd {p : E3} (h : OkE p) : blen p.2.1 ≤ 65536 ∧ -32768 ≤ p.2.2 ∧ p.2.2 ≤ 32768 := ⟨(great_not _).1 (rightB_yes h.2).1, (rightB_yes h.2).2⟩
theorem dis_calls (f : Int) (w : World) (hf : 0 ≤ f) : Calls Tryz.prog 11 #[.int .u8 f] w fun r w' => r = .returned (.bool (isF f)) ∧ w' = w := by
 by_cases h1 : 1 ≤ f
 ·by_cases h2 : f ≤ 30
  ·rw [show isF f = true from decide_eq_true ⟨h1, h2⟩]
   go_enter Tryz.func11, Tryz.ntmps11
   go_wp2_with fail
   go_ret
   exact ⟨rfl, rfl⟩
  ·rw [show isF f = false from decide_eq_false (fun q => h2 q.2)]
   have h2' : 30 < f := by omega
   go_enter Tryz.func11, Tryz.ntmps11
   go_wp2_with fail
   go_ret
   exact ⟨rfl, rfl⟩
 ·rw [show isF f = false from decide_eq_false (fun q => h1 q.1)]
  have h1' : f < 1 := by omega
  go_enter Tryz.func11, Tryz.ntmps11
  go_wp2_with fail
  go_ret
  exact ⟨rfl, rfl⟩
theorem dis2_calls (f : Int) (w : World) : Calls Tryz.prog 13 #[.int .u8 f] w fun r w' => r = .returned (.bool (is2 f)) ∧ w' = w := by
 by_cases h1 : f = 33
 ·subst h1
  go_enter Tryz.func13, Tryz.ntmps13
  go_wp2_with fail
  go_ret
  exact ⟨rfl, rfl⟩
 ·by_cases h2 : f = 34
  ·subst h2
   go_enter Tryz.func13, Tryz.ntmps13
   go_wp2_with fail
   go_ret
   exact ⟨rfl, rfl⟩
  ·rw [show is2 f = false from decide_eq_false (fun q => by omega)]
   go_enter Tryz.func13, Tryz.ntmps13
   go_wp2_with fail
   go_ret
   exact ⟨retB (by simp [h1, h2]), rfl⟩
theorem dOrdE (p : E3) (t : Bool) (ys : List Int) (f : Int) (a : Option Addr) (n c : Nat) (b : Option Addr) (m d : Nat) (w : World) (h : IsW w a n c (wO p.2.1)) (hn : n ≤ 1024) (k : IsW w b m d ys) (hm : m ≤ 1024) (hp : OkE p) (hf : -32768 ≤ f ∧ f ≤ 32768) :
  Calls Tryz.prog 56 #[dyV p.1 a n c p.2.2, dyV t b m d f] w fun r w' => r = .returned (.int .i64 (cmpD p (formD t (val ys) f))) ∧ Below w.heap.size w w' := by
 have hb := okE_bd hp
 have hy := blen_words_le ys k.2.1
 have hl := k.1
 have H := qOrder_calls p.1 a n c (wO p.2.1) p.2.2 t b m d ys f w h (by omega) k (by omega) (by omega) (by omega) (by rw [val_words]; omega) (by omega)
 rw [val_words, hp.form] at H
 exact H
theorem dZeroE (p : E3) (a : Option Addr) (n c : Nat) (w : World) (h : IsW w a n c (wO p.2.1)) (hn : n ≤ 1024) :
  Calls Tryz.prog 31 #[dyV p.1 a n c p.2.2] w fun r w' => r = .returned (.bool (decide (p.2.1 = 0))) ∧ Below w.heap.size w w' := by
 have H := qZero_calls p.1 a n c (wO p.2.1) p.2.2 w h (by omega)
 rw [val_words] at H
 exact H
theorem dOrder_calls (p : E3) (a : Option Addr) (n c : Nat) (k : Int) (w : World) (h : IsW w a n c (wO p.2.1)) (hn : n ≤ 1024) (hp : OkE p) (hk : -9223372036854775808 ≤ k ∧ k ≤ 9223372036854775807) :
  Calls Tryz.prog 25 #[dyV p.1 a n c p.2.2, .int .i64 k] w fun r w' => r = .returned (.int .i64 (agI p k)) ∧ Below w.heap.size w w' := by
 have bA := below_one w (.cells #[.bool p.1, .slice a n c, .int .i64 p.2.2] 27)
 obtain ⟨x0, x1, x2⟩ := fX3 w p a n c _ rfl
 have hI := h.keep bA
 have HP : Hid (OkE p) := hp
 have hq : OkE (intD k) := int_ok k hk
 have HQ : Hid ((wO (intD k).2.1).length ≤ 1024 ∧ -32768 ≤ (intD k).2.2 ∧ (intD k).2.2 ≤ 32768 ∧ formD (intD k).1 (intD k).2.1 (intD k).2.2 = intD k) := ⟨okE_len hq, (okE_bd hq).2.1, (okE_bd hq).2.2, hq.form⟩
 have HI : Hid _ := fun W => qint_calls k hk W
 unfold agI
 clear h hp hk hq
 generalize intD k = q at *
 go_enter Tryz.func25, Tryz.ntmps25
 go_wp2_with fail
 generalize w.alloc (.cells #[.bool p.1, .slice a n c, .int .i64 p.2.2] 27) = w0 at *
 go_region_with (first
  | (go_at_call 22; refine (HI.out _).mono ?_; rintro r w1 ⟨_, rfl, ⟨ai, ni, ci, rfl, HNi, hOi⟩, b1⟩; have b2 : Below w0.heap.size w0 w1 := nT (by repeat (first | exact Below.refl _ _ | apply Below.drew)) b1; have y0 := kC b2 x0; have y1 := kC b2 x1; have y2 := kC b2 x2)
  | (go_at_call 56; refine (dOrdE p q.1 (wO q.2.1) q.2.2 a n c ai ni ci _ ((hI.keep b2).keep (by repeat (first | exact Below.refl _ _ | apply Below.drew))) hn (hOi.1.keep (by repeat (first | exact Below.refl _ _ | apply Below.drew))) (by have := HNi.out; have := HQ.out.1; omega) HP.out ⟨HQ.out.2.1, HQ.out.2.2.1⟩).mono ?_; rintro r w3 ⟨rfl, b3⟩; have b4 := nT (nT bA b2) (nT (show Below w1.heap.size w1 _ from by repeat (first | exact Below.refl _ _ | apply Below.drew)) b3)))
 all_goals
  go_wp2_with fail
  go_ret
  exact ⟨by rw [val_words, HQ.out.2.2.2]; rfl, b4⟩
theorem dTold_calls (s : Bool) (a : Option Addr) (len cap : Nat) (xs : List Int) (e : Int) (w : World) (h : IsW w a len cap xs) (hm : len ≤ 17592186044000) (he : -4611686018427387904 ≤ e ∧ e ≤ 4611686018427387904) :
  Calls Tryz.prog 86 #[dyV s a len cap e] w fun r w' => ∃ v, r = .returned (.tuple #[v, .bool true]) ∧ DyQ w.heap.size w' v (formD s (val xs) e) ∧ Below w.heap.size w w' := by
 have bA : Below w.heap.size w ((w.alloc (.cells #[.bool s, .slice a len cap, .int .i64 e] 27)).alloc (.cells #[.bool false, .slice none 0 0, .int .i64 0] 27)) := nT (below_one _ _) (below_one _ _)
 have HF : Hid _ := qOne_calls s a len cap xs e _ (h.keep bA) hm he
 have z0 : ((w.alloc (.cells #[.bool s, .slice a len cap, .int .i64 e] 27)).alloc (.cells #[.bool false, .slice none 0 0, .int .i64 0] 27)).cell? ⟨(w.heap.size + 1), 0, none⟩ = some (.bool false) := by go_simp
 have f0 : ((w.alloc (.cells #[.bool s, .slice a len cap, .int .i64 e] 27)).alloc (.cells #[.bool false, .slice none 0 0, .int .i64 0] 27)).frozen? ⟨(w.heap.size + 1), 0, none⟩ = false := by go_simp
 have z1 : ((w.alloc (.cells #[.bool s, .slice a len cap, .int .i64 e] 27)).alloc (.cells #[.bool false, .slice none 0 0, .int .i64 0] 27)).cell? ⟨(w.heap.size + 1), 1, none⟩ = some (.slice none 0 0) := by go_simp
 have f1 : ((w.alloc (.cells #[.bool s, .slice a len cap, .int .i64 e] 27)).alloc (.cells #[.bool false, .slice none 0 0, .int .i64 0] 27)).frozen? ⟨(w.heap.size + 1), 1, none⟩ = false := by go_simp
 have z2 : ((w.alloc (.cells #[.bool s, .slice a len cap, .int .i64 e] 27)).alloc (.cells #[.bool false, .slice none 0 0, .int .i64 0] 27)).cell? ⟨(w.heap.size + 1), 2, none⟩ = some (.int .i64 0) := by go_simp
 have f2 : ((w.alloc (.cells #[.bool s, .slice a len cap, .int .i64 e] 27)).alloc (.cells #[.bool false, .slice none 0 0, .int .i64 0] 27)).frozen? ⟨(w.heap.size + 1), 2, none⟩ = false := by go_simp
 have lb := bA.size
 clear he h
 go_enter Tryz.func86, Tryz.ntmps86
 go_wp2_with fail
 generalize (w.alloc (.cells #[.bool s, .slice a len cap, .int .i64 e] 27)).alloc (.cells #[.bool false, .slice none 0 0, .int .i64 0] 27) = w0 at *
 refine cM HF.out ?_
 rintro r w1 ⟨_, rfl, ⟨a1, n1, c1, rfl, HN1, hO1⟩, b1⟩
 replace hO1 := hO1.low lb
 replace f0 := kF b1 z0 f0; replace f1 := kF b1 z1 f1; replace f2 := kF b1 z2 f2; replace z0 := kC b1 z0; replace z1 := kC b1 z1; replace z2 := kC b1 z2; replace bA := nT bA b1
 clear b1
 go_wp2_with fail
 exact bodyPost_ret (v := .tuple #[dyV (formD s (val xs) e).1 a1 n1 c1 (formD s (val xs) e).2.2, .bool true]) (by simp [results, Tryz.results86, go_sem, z0, z1, z2]) rfl ⟨_, rfl, ⟨a1, n1, c1, rfl, HN1, hO1.set_dy _ _ _ _ _ _ _ _ _ z0 z1 z2⟩, by repeat (first | (with_reducible exact bA) | (with_reducible refine Below.setCell ?_ (by simp; try omega) _) | (with_reducible refine Below.alloc ?_ (by have := bA.size; simp; try omega) _))⟩
theorem dPower_calls (e : Int) (w : World) :
  Calls Tryz.prog 87 #[.int .i64 e] w fun r w' => ∃ v, r = .returned v ∧ DyQ w.heap.size w' v (false, 1, e) ∧ Below w.heap.size w w' := by
 have bB : Below w.heap.size w ((w.alloc (.cells #[.bool false, .slice (some ⟨w.heap.size + 1, 0, none⟩) 1 1, .int .i64 e] 27)).alloc (.cells #[.int .u64 1] 23)) := nT (below_one _ _) (below_one _ _)
 have s0 : ((w.alloc (.cells #[.bool false, .slice (some ⟨w.heap.size + 1, 0, none⟩) 1 1, .int .i64 e] 27)).alloc (.cells #[.int .u64 1] 23)).cell? ⟨w.heap.size + 1, 0, none⟩ = some (.int .u64 1) := by go_simp
 have sf : ((w.alloc (.cells #[.bool false, .slice (some ⟨w.heap.size + 1, 0, none⟩) 1 1, .int .i64 e] 27)).alloc (.cells #[.int .u64 1] 23)).frozen? ⟨w.heap.size + 1, 0, none⟩ = false := by go_simp
 have HO : Hid (OwnW w.heap.size ((w.alloc (.cells #[.bool false, .slice (some ⟨w.heap.size + 1, 0, none⟩) 1 1, .int .i64 e] 27)).alloc (.cells #[.int .u64 1] 23)) (some ⟨w.heap.size + 1, 0, none⟩) 1 1 (wO 1)) := by
  rw [show wO 1 = [1] by decide +kernel]
  refine ⟨isW_oneD s0 ⟨by decide, by decide⟩, fun b off i q hi => ?_⟩
  simp only [Option.some.injEq, Addr.mk.injEq, and_true] at q
  obtain ⟨rfl, rfl⟩ := q
  obtain rfl : i = 0 := by omega
  exact ⟨by omega, sf⟩
 have HL : Hid (1 = (wO 1).length) := by rw [Hid]; decide +kernel
 go_enter Tryz.func87, Tryz.ntmps87
 go_wp2_with fail
 exact bodyPost_ret (v := dyV false (some ⟨w.heap.size + 1, 0, none⟩) 1 1 e) (by simp [results, Tryz.results87, go_sem]) rfl ⟨_, rfl, ⟨_, _, _, rfl, HL, HO.out⟩, bB⟩
theorem dOf_pack (x : Nat) (w : World) (hx : x < 18446744073709551616) :
  Calls Tryz.prog 50 #[.int .u64 (x : Int)] w fun e w' => ∃ (ao : Option Addr) (n cv : Nat), e = .returned (.slice ao n cv) ∧ n = (wO x).length ∧ n ≤ 1 ∧ OwnW w.heap.size w' ao n cv (wO x) ∧ Below w.heap.size w w' := by
 refine cM (nOf_calls (x : Int) w (by omega) (by omega)) ?_
 rintro e w' ⟨ao, cv, rfl, hO, hb⟩
 rw [Int.toNat_natCast] at hO ⊢
 exact ⟨ao, _, cv, rfl, rfl, (words_len 1 x).2 (by simpa using hx), hO.ownW (words_U _) rfl, hb⟩
theorem dWords_mul (x y n m : Nat) (hx : (wO x).length ≤ n) (hy : (wO y).length ≤ m) : (wO (x * y)).length ≤ n + m := by
 rw [words_len] at hx hy ⊢
 rw [Nat.pow_add]
 exact Nat.mul_lt_mul'' hx hy
theorem dPow_calls (a : Option Addr) (len cap : Nat) (xs : List Int) (k : Nat) (w : World) (h : IsW w a len cap xs) (hm : len ≤ 17592186044000) (hu : (wO (val xs)).length ≤ 1) (hk : k ≤ 1000) :
  Calls Tryz.prog 115 #[.slice a len cap, .int .i64 (k : Int)] w fun e w' => ∃ (ao : Option Addr) (n cv : Nat), e = .returned (.slice ao n cv) ∧ n = (wO (val xs ^ k)).length ∧ n ≤ 1 + k ∧ OwnW w.heap.size w' ao n cv (wO (val xs ^ k)) ∧ Below w.heap.size w w' := by
 have HH : Hid (IsW w a len cap xs) := h
 have HU : Hid ((wO (val xs)).length ≤ 1) := hu
 clear h hu
 go_enter Tryz.func115, Tryz.ntmps115
 go_wp2_with fail
 refine cM (dOf_pack 1 w (by decide)) ?_
 rintro e w1 ⟨a1, n1, c1, rfl, hn1, hn1b, hO1, b1⟩
 have H0 : Hid (n1 = (wO 1).length ∧ OwnW w.heap.size w1 a1 n1 c1 (wO 1) ∧ Below w.heap.size w w1) := ⟨hn1, hO1, b1⟩
 clear hn1 hO1 b1
 go_wp2_with fail
 go_loopw [5, 6] (fun vo vi wr => ∃ (i n c : Nat) (ao : Option Addr), i ≤ k ∧ vi = .int .i64 i ∧ vo = .slice ao n c ∧ Hid (n = (wO (val xs ^ i)).length) ∧ n ≤ 1 + i ∧ OwnW w.heap.size wr ao n c (wO (val xs ^ i)) ∧ Below w.heap.size w wr) (fun _ vi _ => k - (intOf vi).toNat)
 case atStart => exact ⟨0, n1, c1, a1, by omega, rfl, rfl, by rw [Nat.pow_zero]; exact H0.out.1, by omega, by rw [Nat.pow_zero]; exact H0.out.2.1, H0.out.2.2⟩
 case round =>
  clear H0
  obtain ⟨i, n, c, ao, hi, rfl, rfl, HN, hn, hO, hbr⟩ := hrel
  by_cases hlt : i < k
  ·have MC : Hid _ := nMul_calls ao a n c len cap _ xs wr hO.1 (HH.out.keep hbr) (by omega) (by omega) (by rw [val_words, ← HN.out]; have := HU.out; omega)
   rw [val_words] at MC
   have HW : Hid ((wO (val xs ^ i * val xs)).length ≤ n + 1) := dWords_mul _ _ _ _ (by rw [← HN.out]; exact Nat.le_refl _) HU.out
   have HP : Hid (val xs ^ i * val xs = val xs ^ (i + 1)) := (Nat.pow_succ ..).symm
   have hsz := hbr.size
   clear hO
   go_wp2_with fail
   refine cM MC.out ?_
   rintro e w2 ⟨a2, c2, rfl, hO2, b2⟩
   have hO3 := hO2.ownW (words_U _) rfl
   obtain ⟨n2, hn2⟩ : ∃ n2, n2 = (wO (val xs ^ i * val xs)).length := ⟨_, rfl⟩
   rw [← hn2] at hO3 HW ⊢
   rw [HP.out] at hO3
   have HN2 : Hid (n2 = (wO (val xs ^ (i + 1))).length) := by rw [Hid, ← HP.out]; exact hn2
   have hn2b : n2 ≤ n + 1 := HW.out
   clear hO2 hn2 MC
   go_wp2_with fail
   refine ⟨⟨i + 1, n2, c2, a2, by omega, by go_num, rfl, HN2, by omega, hO3.low hsz, nT hbr b2⟩, by simp [intOf]; omega⟩
  ·have hik : i = k := by omega
   have HE : Hid (n = (wO (val xs ^ k)).length ∧ n ≤ 1 + k ∧ OwnW w.heap.size wr ao n c (wO (val xs ^ k))) := by
    rw [Hid, ← hik]; exact ⟨HN.out, by omega, hO⟩
   clear hik hO HN
   go_wp2_with fail
   go_ret
   exact ⟨ao, n, c, rfl, HE.out.1, HE.out.2.1, HE.out.2.2, hbr⟩
def TenQ (B : Nat) (w : World) (v : Value) (k : Nat) : Prop := ∃ (ao : Option Addr) (n c : Nat), v = dyV false ao n c 0 ∧ n ≤ 1 + k ∧ OwnW B w ao n c (wO (10 ^ k))
theorem dTen_calls (k : Nat) (hk : k ≤ 1000) (w : World) :
  Calls Tryz.prog 90 #[.int .i64 (k : Int)] w fun r w' => ∃ v, r = .returned v ∧ TenQ w.heap.size w' v k ∧ Below w.heap.size w w' := by
 have bA := below_one w (.cells #[.bool false, .slice none 0 0, .int .i64 0] 27)
 obtain ⟨z0, f0, z1, f1, z2, f2⟩ := fX16 w _ rfl
 have lb := bA.size
 have HO : Hid _ := fun W => dOf_pack 10 W (by decide)
 have HP : Hid _ := fun (W : World) (a : Option Addr) (n c : Nat) (h : IsW W a n c (wO 10)) (hm : n ≤ 1) => dPow_calls a n c (wO 10) k W h (by omega) (by rw [val_words, ← h.1]; exact hm) hk
 simp only [val_words] at HP
 go_enter Tryz.func90, Tryz.ntmps90
 go_wp2_with fail
 generalize w.alloc (.cells #[.bool false, .slice none 0 0, .int .i64 0] 27) = w0 at *
 refine cM (HO.out _) ?_
 rintro r w1 ⟨a1, n1, c1, rfl, e1, hn1, hO1, b1⟩
 clear e1
 replace f0 := kF b1 z0 f0; replace f1 := kF b1 z1 f1; replace f2 := kF b1 z2 f2; replace z0 := kC b1 z0; replace z1 := kC b1 z1; replace z2 := kC b1 z2; replace bA := nT bA b1
 clear b1
 go_wp2_with fail
 refine cM (HP.out _ _ _ _ hO1.1 hn1) ?_
 rintro r w2 ⟨a2, n2, c2, rfl, e2, hn2, hO2, b2⟩
 clear e2
 have lb2 := bA.size
 replace hO2 := hO2.low lb2
 replace f0 := kF b2 z0 f0; replace f1 := kF b2 z1 f1; replace f2 := kF b2 z2 f2; replace z0 := kC b2 z0; replace z1 := kC b2 z1; replace z2 := kC b2 z2; replace bA := nT bA b2
 clear b2 hO1
 go_wp2_with fail
 exact bodyPost_ret (v := dyV false a2 n2 c2 0) (by simp [results, Tryz.results90, go_sem, z0, z1, z2]) rfl ⟨_, rfl, ⟨a2, n2, c2, rfl, hn2, hO2.set_dy _ _ _ _ _ _ _ _ _ z0 z1 z2⟩, by repeat (first | (with_reducible exact bA) | (with_reducible refine Below.setCell ?_ (by simp; try omega) _) | (with_reducible refine Below.alloc ?_ (by have := bA.size; simp; try omega) _))⟩
theorem dLess1_calls (s : Bool) (a : Option Addr) (len cap : Nat) (xs : List Int) (e : Int) (w : World) (h : IsW w a len cap xs) (hm : len ≤ 2000) (he : -40000 ≤ e ∧ e ≤ 40000) :
  Calls Tryz.prog 89 #[dyV s a len cap e] w fun r w' => ∃ v, r = .returned v ∧ DyQ w.heap.size w' v (ls1D (formD s (val xs) e)) ∧ Below w.heap.size w w' := by
 have bA : Below w.heap.size w ((w.alloc (.cells #[.bool s, .slice a len cap, .int .i64 e] 27)).alloc (.cells #[.bool false, .slice none 0 0, .int .i64 0] 27)) := nT (below_one _ _) (below_one _ _)
 have z0 : ((w.alloc (.cells #[.bool s, .slice a len cap, .int .i64 e] 27)).alloc (.cells #[.bool false, .slice none 0 0, .int .i64 0] 27)).cell? ⟨(w.heap.size + 1), 0, none⟩ = some (.bool false) := by go_simp
 have f0 : ((w.alloc (.cells #[.bool s, .slice a len cap, .int .i64 e] 27)).alloc (.cells #[.bool false, .slice none 0 0, .int .i64 0] 27)).frozen? ⟨(w.heap.size + 1), 0, none⟩ = false := by go_simp
 have z1 : ((w.alloc (.cells #[.bool s, .slice a len cap, .int .i64 e] 27)).alloc (.cells #[.bool false, .slice none 0 0, .int .i64 0] 27)).cell? ⟨(w.heap.size + 1), 1, none⟩ = some (.slice none 0 0) := by go_simp
 have f1 : ((w.alloc (.cells #[.bool s, .slice a len cap, .int .i64 e] 27)).alloc (.cells #[.bool false, .slice none 0 0, .int .i64 0] 27)).frozen? ⟨(w.heap.size + 1), 1, none⟩ = false := by go_simp
 have z2 : ((w.alloc (.cells #[.bool s, .slice a len cap, .int .i64 e] 27)).alloc (.cells #[.bool false, .slice none 0 0, .int .i64 0] 27)).cell? ⟨(w.heap.size + 1), 2, none⟩ = some (.int .i64 0) := by go_simp
 have f2 : ((w.alloc (.cells #[.bool s, .slice a len cap, .int .i64 e] 27)).alloc (.cells #[.bool false, .slice none 0 0, .int .i64 0] 27)).frozen? ⟨(w.heap.size + 1), 2, none⟩ = false := by go_simp
 have x0 : ((w.alloc (.cells #[.bool s, .slice a len cap, .int .i64 e] 27)).alloc (.cells #[.bool false, .slice none 0 0, .int .i64 0] 27)).cell? ⟨w.heap.size, 0, none⟩ = some (.bool s) := by go_simp
 have x1 : ((w.alloc (.cells #[.bool s, .slice a len cap, .int .i64 e] 27)).alloc (.cells #[.bool false, .slice none 0 0, .int .i64 0] 27)).cell? ⟨w.heap.size, 1, none⟩ = some (.slice a len cap) := by go_simp
 have x2 : ((w.alloc (.cells #[.bool s, .slice a len cap, .int .i64 e] 27)).alloc (.cells #[.bool false, .slice none 0 0, .int .i64 0] 27)).cell? ⟨w.heap.size, 2, none⟩ = some (.int .i64 e) := by go_simp
 have hI := h.keep bA
 have lb := bA.size
 have HI : Hid _ := fun W => qint_calls 1 ⟨by decide, by decide⟩ W
 have e1 : intD 1 = (false, 1, 0) := form_odd _ rfl _
 have HQ : Hid (ls1D (formD s (val xs) e) = sumD (formD s (val xs) e) (formD true 1 0)) := by
  rw [Hid]; unfold ls1D; rw [e1]; congr 1; exact (form_odd true rfl 0).symm
 rw [e1] at HI
 have hb := blen_words_le xs h.2.1
 have hl := h.1
 have HL : Hid _ := fun (W : World) (g : IsW W a len cap xs) (b : Option Addr) (m d : Nat) (k : IsW W b m d (wO 1)) (km : m ≤ 1) => qLess_calls s a len cap xs e false b m d (wO 1) 0 W g (by omega) k (by omega) (by omega) (by omega) (by omega) (by rw [val_words]; decide +kernel)
 simp only [val_words, Bool.not_false] at HL
 have HW : Hid ((wO 1).length ≤ 1) := by rw [Hid]; decide +kernel
 rw [HQ.out]
 clear h e1 hb hl he hm HQ
 generalize sumD (formD s (val xs) e) (formD true 1 0) = R at *
 go_enter Tryz.func89, Tryz.ntmps89
 go_wp2_with fail
 generalize (w.alloc (.cells #[.bool s, .slice a len cap, .int .i64 e] 27)).alloc (.cells #[.bool false, .slice none 0 0, .int .i64 0] 27) = w0 at *
 go_region_with (first
  | (go_at_call 22; refine (HI.out _).mono ?_; rintro r w1 ⟨_, rfl, ⟨ai, ni, ci, rfl, HNi, hOi⟩, b1⟩; have b2 : Below w0.heap.size w0 w1 := nT (by repeat (first | exact Below.refl _ _ | apply Below.drew)) b1; have y0 := kC b2 x0; have y1 := kC b2 x1; have y2 := kC b2 x2; have g0 := kC b2 z0; have g1 := kC b2 z1; have g2 := kC b2 z2; have k0 := kF b2 z0 f0; have k1 := kF b2 z1 f1; have k2 := kF b2 z2 f2)
  | (go_at_call 94; refine (HL.out _ ((hI.keep b2).keep (by repeat (first | exact Below.refl _ _ | apply Below.drew))) ai ni ci (hOi.1.keep (by repeat (first | exact Below.refl _ _ | apply Below.drew))) (by have e2 : ni = (wO 1).length := HNi.out; have := HW.out; omega)).mono ?_; rintro r w3 ⟨_, rfl, ⟨a3, n3, c3, rfl, HN3, hO3⟩, b3⟩; have bB := nT (show Below w1.heap.size w1 _ from by repeat (first | exact Below.refl _ _ | apply Below.drew)) b3; have b4 := nT bA (nT b2 bB); replace k0 := kF bB g0 k0; replace k1 := kF bB g1 k1; replace k2 := kF bB g2 k2; replace g0 := kC bB g0; replace g1 := kC bB g1; replace g2 := kC bB g2; have lz := Nat.le_trans lb (nT b2 (show Below w1.heap.size w1 _ from by repeat (first | exact Below.refl _ _ | apply Below.drew))).size; replace hO3 := hO3.low lz; clear b3 bB))
 all_goals
  go_wp2_with fail
  exact bodyPost_ret (v := dyV R.1 a3 n3 c3 R.2.2) (by simp [results, Tryz.results89, go_sem, g0, g1, g2]) rfl ⟨_, rfl, ⟨a3, n3, c3, rfl, HN3, hO3.set_dy _ _ _ _ _ _ _ _ _ g0 g1 g2⟩, by repeat (first | (with_reducible exact b4) | (with_reducible refine Below.setCell ?_ (by simp; try omega) _) | (with_reducible refine Below.drew ?_))⟩
end Go.Proofs.YtiijfnaaekmpbaaGreatDoor

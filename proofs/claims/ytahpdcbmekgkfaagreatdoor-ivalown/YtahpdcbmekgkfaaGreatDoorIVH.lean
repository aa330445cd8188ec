/- Package ival: the quotient of two numbers to more than so many bits, its last one telling whether something is left. -/
import Derived.Test.YtahpdcbmekgkfaaGreatDoorCR2
import Derived.Test.YtahpdcbmekgkfaaGreatDoorCR
import Derived.Test.YtahpdcbmekgkfaaGreatDoorAL
import Derived.Test.YtahpdcbmekgkfaaGreatDoorTML
import Derived.Test.YtahpdcbmekgkfaaGreatDoorIVG
import Derived.Test.YtahpdcbmekgkfaaGreatDoorTMP
namespace Go.Proofs.YtahpdcbmekgkfaaGreatDoor
open Go.RowKit
def quP (x y : DT) (p : Nat) : Bool × Nat × Int := if val x.2.2.2.2.1 = 0 then (false, 0, 0) else (!(x.1 == y.1), quA (val x.2.2.2.2.1) (val y.2.2.2.2.1) p, x.2.2.2.2.2 - y.2.2.2.2.2 - 64 * (quW (val x.2.2.2.2.1) (val y.2.2.2.2.1) p : Int))
set_option maxRecDepth 100000 in
set_option maxHeartbeats 8000000 in
theorem quotient_calls (x y : DT) (p : Nat) (w : World) (hx : okT w x) (hy : okT w y) (hy0 : val y.2.2.2.2.1 ≠ 0) (hp : 1 ≤ p ∧ p ≤ 8192) :
  Calls Tryz.prog 105 #[dT x, dT y, .int .i64 (p : Int)] w fun r w' => ∃ ao n c, r = .returned (dyV (quP x y p).1 ao n c (quP x y p).2.2) ∧ n ≤ 1024 ∧ OwnW w.heap.size w' ao n c (wO (quP x y p).2.1) ∧ Below w.heap.size w w' := by
 have bA : Below w.heap.size w (((w.alloc (.cells #[.bool x.1, .slice x.2.1 x.2.2.1 x.2.2.2.1, .int .i64 x.2.2.2.2.2] 25)).alloc (.cells #[.bool y.1, .slice y.2.1 y.2.2.1 y.2.2.2.1, .int .i64 y.2.2.2.2.2] 25)).alloc (.cells #[.bool false, .slice none 0 0, .int .i64 0] 25)) := nT (nT (below_one _ _) (below_one _ _)) (below_one _ _)
 have HS : Hid _ := isign_calls x.1 x.2.1 x.2.2.1 x.2.2.2.1 x.2.2.2.2.1 x.2.2.2.2.2 (((w.alloc (.cells #[.bool x.1, .slice x.2.1 x.2.2.1 x.2.2.2.1, .int .i64 x.2.2.2.2.2] 25)).alloc (.cells #[.bool y.1, .slice y.2.1 y.2.2.1 y.2.2.2.1, .int .i64 y.2.2.2.2.2] 25)).alloc (.cells #[.bool false, .slice none 0 0, .int .i64 0] 25)) (hx.1.keep bA) hx.2.1 hx.2.2.1
 have HX : Hid _ := fun w' (q : IsW w' x.2.1 x.2.2.1 x.2.2.2.1 x.2.2.2.2.1) => bitLen_calls x.2.1 x.2.2.1 x.2.2.2.1 x.2.2.2.2.1 w' q hx.2.1 hx.2.2.1
 have HY : Hid _ := fun w' (q : IsW w' y.2.1 y.2.2.1 y.2.2.2.1 y.2.2.2.2.1) => bitLen_calls y.2.1 y.2.2.1 y.2.2.2.1 y.2.2.2.2.1 w' q hy.2.1 hy.2.2.1
 have HD : Hid _ := fun (z : (val x.2.2.2.2.1) ≠ 0) w' (q : IsW w' x.2.1 x.2.2.1 x.2.2.2.1 x.2.2.2.2.1) (q' : IsW w' y.2.1 y.2.2.1 y.2.2.2.1 y.2.2.2.2.1) => divided_calls x.2.1 x.2.2.1 x.2.2.2.1 x.2.2.2.2.1 (quW (val x.2.2.2.2.1) (val y.2.2.2.2.1) p) y.2.1 y.2.2.1 y.2.2.2.1 y.2.2.2.2.1 p w' q hx.2.1 q' hy.2.1 hx.2.2.1 hy.2.2.1 z hy0 hp.2 rfl
 have hq0 : (val x.2.2.2.2.1) ≠ 0 → quQ (val x.2.2.2.2.1) (val y.2.2.2.2.1) p ≠ 0 := fun z q => by
  have := (quo_bits (val x.2.2.2.2.1) (val y.2.2.2.2.1) p z hy0).1
  rw [q, blen_zero] at this
  omega
 have hQ0 : Hid _ := hq0
 have HB : Hid (blen (val x.2.2.2.2.1) ≤ 65536 ∧ blen (val y.2.2.2.2.1) ≤ 65536 ∧ (quW (val x.2.2.2.2.1) (val y.2.2.2.2.1) p : Int) = max 0 (((blen (val y.2.2.2.2.1) : Int) + (p : Int) + 1 - (blen (val x.2.2.2.2.1) : Int) + 63).tdiv 64) ∧ quW (val x.2.2.2.2.1) (val y.2.2.2.2.1) p ≤ 1200 ∧ -100000 ≤ (((blen (val y.2.2.2.2.1) : Int) + (p : Int) + 1 - (blen (val x.2.2.2.2.1) : Int) + 63).tdiv 64) ∧ (((blen (val y.2.2.2.2.1) : Int) + (p : Int) + 1 - (blen (val x.2.2.2.2.1) : Int) + 63).tdiv 64) ≤ 100000) := by
  have a1 := (great_not _).1 hx.2.2.1
  have a2 := (great_not _).1 hy.2.2.1
  have a3 : (quW (val x.2.2.2.2.1) (val y.2.2.2.2.1) p : Int) = max 0 (((blen (val y.2.2.2.2.1) : Int) + (p : Int) + 1 - (blen (val x.2.2.2.2.1) : Int) + 63).tdiv 64) := by
   unfold quW
   rcases Int.lt_or_le ((blen (val y.2.2.2.2.1) : Int) + (p : Int) + 1 - (blen (val x.2.2.2.2.1) : Int) + 63) 0 with q | q
   ·obtain ⟨k, hk⟩ : ∃ k : Nat, (blen (val y.2.2.2.2.1) : Int) + (p : Int) + 1 - (blen (val x.2.2.2.2.1) : Int) + 63 = -(k : Int) := ⟨(-((blen (val y.2.2.2.2.1) : Int) + (p : Int) + 1 - (blen (val x.2.2.2.2.1) : Int) + 63)).toNat, by omega⟩
    rw [hk, Int.neg_tdiv, Int.tdiv_eq_ediv_of_nonneg (by omega)]
    omega
   ·rw [Int.tdiv_eq_ediv_of_nonneg q]
    omega
  have a4 : -100000 ≤ (((blen (val y.2.2.2.2.1) : Int) + (p : Int) + 1 - (blen (val x.2.2.2.2.1) : Int) + 63).tdiv 64) ∧ (((blen (val y.2.2.2.2.1) : Int) + (p : Int) + 1 - (blen (val x.2.2.2.2.1) : Int) + 63).tdiv 64) ≤ 100000 := by
   rcases Int.lt_or_le ((blen (val y.2.2.2.2.1) : Int) + (p : Int) + 1 - (blen (val x.2.2.2.2.1) : Int) + 63) 0 with q | q
   ·obtain ⟨k, hk⟩ : ∃ k : Nat, (blen (val y.2.2.2.2.1) : Int) + (p : Int) + 1 - (blen (val x.2.2.2.2.1) : Int) + 63 = -(k : Int) := ⟨(-((blen (val y.2.2.2.2.1) : Int) + (p : Int) + 1 - (blen (val x.2.2.2.2.1) : Int) + 63)).toNat, by omega⟩
    rw [hk, Int.neg_tdiv, Int.tdiv_eq_ediv_of_nonneg (by omega)]
    omega
   ·rw [Int.tdiv_eq_ediv_of_nonneg q]
    omega
  refine ⟨a1, a2, a3, ?_, a4.1, a4.2⟩
  have := hp.2
  unfold quW
  omega
 have HP0 : Hid ((val x.2.2.2.2.1) = 0 → quP x y p = (false, 0, 0)) := fun z => by unfold quP; rw [if_pos z]
 have HP1 : Hid ((val x.2.2.2.2.1) ≠ 0 → quP x y p = (!(x.1 == y.1), mkA (quQ (val x.2.2.2.2.1) (val y.2.2.2.2.1) p) (decide (quR (val x.2.2.2.2.1) (val y.2.2.2.2.1) p ≠ 0)), x.2.2.2.2.2 - y.2.2.2.2.2 - 64 * (quW (val x.2.2.2.2.1) (val y.2.2.2.2.1) p : Int))) := fun z => by unfold quP; rw [if_neg z]; rfl
 have HSg : Hid (sgnD (formD x.1 (val x.2.2.2.2.1) x.2.2.2.2.2) = 0 ↔ (val x.2.2.2.2.1) = 0) := by
  rw [Hid, sgn_val]
  by_cases z : (val x.2.2.2.2.1) = 0
  ·rw [if_pos z]; exact ⟨fun _ => z, fun _ => rfl⟩
  ·rw [if_neg z]; exact ⟨fun k => absurd k (by split <;> decide), fun k => absurd k z⟩
 have hI := hx.1.keep bA
 have hJ := hy.1.keep bA
 have ex := hx.2.2.2
 have ey := hy.2.2.2
 generalize sgnD (formD x.1 (val x.2.2.2.2.1) x.2.2.2.2.2) = sg at *
 generalize quP x y p = PP at *
 generalize quQ (val x.2.2.2.2.1) (val y.2.2.2.2.1) p = QQ at *
 generalize decide (quR (val x.2.2.2.2.1) (val y.2.2.2.2.1) p ≠ 0) = mr at *
 generalize quW (val x.2.2.2.2.1) (val y.2.2.2.2.1) p = ww at *
 generalize blen (val x.2.2.2.2.1) = bX at *
 generalize blen (val y.2.2.2.2.1) = bY at *
 generalize (val x.2.2.2.2.1) = vX at *
 have k0 : (((w.alloc (.cells #[.bool x.1, .slice x.2.1 x.2.2.1 x.2.2.2.1, .int .i64 x.2.2.2.2.2] 25)).alloc (.cells #[.bool y.1, .slice y.2.1 y.2.2.1 y.2.2.2.1, .int .i64 y.2.2.2.2.2] 25)).alloc (.cells #[.bool false, .slice none 0 0, .int .i64 0] 25)).cell? ⟨w.heap.size, 0, none⟩ = some (.bool x.1) := by go_simp
 have l0 : (((w.alloc (.cells #[.bool x.1, .slice x.2.1 x.2.2.1 x.2.2.2.1, .int .i64 x.2.2.2.2.2] 25)).alloc (.cells #[.bool y.1, .slice y.2.1 y.2.2.1 y.2.2.2.1, .int .i64 y.2.2.2.2.2] 25)).alloc (.cells #[.bool false, .slice none 0 0, .int .i64 0] 25)).cell? ⟨w.heap.size + 1, 0, none⟩ = some (.bool y.1) := by go_simp
 have z0 : (((w.alloc (.cells #[.bool x.1, .slice x.2.1 x.2.2.1 x.2.2.2.1, .int .i64 x.2.2.2.2.2] 25)).alloc (.cells #[.bool y.1, .slice y.2.1 y.2.2.1 y.2.2.2.1, .int .i64 y.2.2.2.2.2] 25)).alloc (.cells #[.bool false, .slice none 0 0, .int .i64 0] 25)).cell? ⟨w.heap.size + 1 + 1, 0, none⟩ = some (.bool false) := by go_simp
 have f0 : (((w.alloc (.cells #[.bool x.1, .slice x.2.1 x.2.2.1 x.2.2.2.1, .int .i64 x.2.2.2.2.2] 25)).alloc (.cells #[.bool y.1, .slice y.2.1 y.2.2.1 y.2.2.2.1, .int .i64 y.2.2.2.2.2] 25)).alloc (.cells #[.bool false, .slice none 0 0, .int .i64 0] 25)).frozen? ⟨w.heap.size + 1 + 1, 0, none⟩ = false := by go_simp
 have k1 : (((w.alloc (.cells #[.bool x.1, .slice x.2.1 x.2.2.1 x.2.2.2.1, .int .i64 x.2.2.2.2.2] 25)).alloc (.cells #[.bool y.1, .slice y.2.1 y.2.2.1 y.2.2.2.1, .int .i64 y.2.2.2.2.2] 25)).alloc (.cells #[.bool false, .slice none 0 0, .int .i64 0] 25)).cell? ⟨w.heap.size, 1, none⟩ = some (.slice x.2.1 x.2.2.1 x.2.2.2.1) := by go_simp
 have l1 : (((w.alloc (.cells #[.bool x.1, .slice x.2.1 x.2.2.1 x.2.2.2.1, .int .i64 x.2.2.2.2.2] 25)).alloc (.cells #[.bool y.1, .slice y.2.1 y.2.2.1 y.2.2.2.1, .int .i64 y.2.2.2.2.2] 25)).alloc (.cells #[.bool false, .slice none 0 0, .int .i64 0] 25)).cell? ⟨w.heap.size + 1, 1, none⟩ = some (.slice y.2.1 y.2.2.1 y.2.2.2.1) := by go_simp
 have z1 : (((w.alloc (.cells #[.bool x.1, .slice x.2.1 x.2.2.1 x.2.2.2.1, .int .i64 x.2.2.2.2.2] 25)).alloc (.cells #[.bool y.1, .slice y.2.1 y.2.2.1 y.2.2.2.1, .int .i64 y.2.2.2.2.2] 25)).alloc (.cells #[.bool false, .slice none 0 0, .int .i64 0] 25)).cell? ⟨w.heap.size + 1 + 1, 1, none⟩ = some (.slice none 0 0) := by go_simp
 have f1 : (((w.alloc (.cells #[.bool x.1, .slice x.2.1 x.2.2.1 x.2.2.2.1, .int .i64 x.2.2.2.2.2] 25)).alloc (.cells #[.bool y.1, .slice y.2.1 y.2.2.1 y.2.2.2.1, .int .i64 y.2.2.2.2.2] 25)).alloc (.cells #[.bool false, .slice none 0 0, .int .i64 0] 25)).frozen? ⟨w.heap.size + 1 + 1, 1, none⟩ = false := by go_simp
 have k2 : (((w.alloc (.cells #[.bool x.1, .slice x.2.1 x.2.2.1 x.2.2.2.1, .int .i64 x.2.2.2.2.2] 25)).alloc (.cells #[.bool y.1, .slice y.2.1 y.2.2.1 y.2.2.2.1, .int .i64 y.2.2.2.2.2] 25)).alloc (.cells #[.bool false, .slice none 0 0, .int .i64 0] 25)).cell? ⟨w.heap.size, 2, none⟩ = some (.int .i64 x.2.2.2.2.2) := by go_simp
 have l2 : (((w.alloc (.cells #[.bool x.1, .slice x.2.1 x.2.2.1 x.2.2.2.1, .int .i64 x.2.2.2.2.2] 25)).alloc (.cells #[.bool y.1, .slice y.2.1 y.2.2.1 y.2.2.2.1, .int .i64 y.2.2.2.2.2] 25)).alloc (.cells #[.bool false, .slice none 0 0, .int .i64 0] 25)).cell? ⟨w.heap.size + 1, 2, none⟩ = some (.int .i64 y.2.2.2.2.2) := by go_simp
 have z2 : (((w.alloc (.cells #[.bool x.1, .slice x.2.1 x.2.2.1 x.2.2.2.1, .int .i64 x.2.2.2.2.2] 25)).alloc (.cells #[.bool y.1, .slice y.2.1 y.2.2.1 y.2.2.2.1, .int .i64 y.2.2.2.2.2] 25)).alloc (.cells #[.bool false, .slice none 0 0, .int .i64 0] 25)).cell? ⟨w.heap.size + 1 + 1, 2, none⟩ = some (.int .i64 0) := by go_simp
 have f2 : (((w.alloc (.cells #[.bool x.1, .slice x.2.1 x.2.2.1 x.2.2.2.1, .int .i64 x.2.2.2.2.2] 25)).alloc (.cells #[.bool y.1, .slice y.2.1 y.2.2.1 y.2.2.2.1, .int .i64 y.2.2.2.2.2] 25)).alloc (.cells #[.bool false, .slice none 0 0, .int .i64 0] 25)).frozen? ⟨w.heap.size + 1 + 1, 2, none⟩ = false := by go_simp
 have lw : w.heap.size + 1 + 1 < (((w.alloc (.cells #[.bool x.1, .slice x.2.1 x.2.2.1 x.2.2.2.1, .int .i64 x.2.2.2.2.2] 25)).alloc (.cells #[.bool y.1, .slice y.2.1 y.2.2.1 y.2.2.2.1, .int .i64 y.2.2.2.2.2] 25)).alloc (.cells #[.bool false, .slice none 0 0, .int .i64 0] 25)).heap.size := by simp
 clear hx hy hy0 hq0
 go_enter Tryz.func105, Tryz.ntmps105
 go_wp2_with fail
 generalize (((w.alloc (.cells #[.bool x.1, .slice x.2.1 x.2.2.1 x.2.2.2.1, .int .i64 x.2.2.2.2.2] 25)).alloc (.cells #[.bool y.1, .slice y.2.1 y.2.2.1 y.2.2.2.1, .int .i64 y.2.2.2.2.2] 25)).alloc (.cells #[.bool false, .slice none 0 0, .int .i64 0] 25)) = w0 at *
 refine cM HS.out ?_
 rintro r w1 ⟨rfl, bN⟩
 clear HS
 revert z0 f0 z1 f1 z2 f2; refine zf3 bN ?_; intro z0 f0 z1 f1 z2 f2
 revert k0 l0 k1 l1 k2 l2; refine cc6 bN ?_; intro k0 l0 k1 l1 k2 l2
 replace hI := IsW.keep hI bN
 replace hJ := IsW.keep hJ bN
 replace bA := nT bA bN
 replace lw := Nat.lt_of_lt_of_le lw bN.size
 clear bN
 by_cases z : vX = 0
 ·have e0 : sg = 0 := HSg.out.2 z
  subst e0
  have e1 : Hid (PP = (false, 0, 0)) := HP0.out z
  clear HP0 HP1 HSg HD HX HY HB hQ0 z
  go_wp2_with fail
  refine bodyPost_ret (v := dyV false none 0 0 0) (by simp [results, Tryz.results105, go_sem, z0, z1, z2]) rfl ?_
  rw [e1.out]
  exact ⟨none, 0, 0, rfl, by omega, by rw [words_zero]; exact ⟨isW_nil _, fun b off i e hi => by omega⟩, ((bA.setCell (le2 _) _).setCell (le2 _) _).setCell (le2 _) _⟩
 have e0 : (sg == 0) = false := by simp; exact fun k => z (HSg.out.1 k)
 have e1 : Hid _ := HP1.out z
 have HD2 : Hid _ := HD.out z
 have hQ2 : Hid _ := hQ0.out z
 clear HP0 HP1 HSg HD hQ0 z
 obtain ⟨b1, b2, b3, b4, b6, b7⟩ := HB.out
 clear HB
 have u1 : IntKind.i64.wrap ((bY : Int) + (p : Int)) = (bY : Int) + (p : Int) := by rw [IntKind.wrap_i64]; omega
 have u2 : IntKind.i64.wrap ((bY : Int) + (p : Int) + 1) = (bY : Int) + (p : Int) + 1 := by rw [IntKind.wrap_i64]; omega
 have u3 : IntKind.i64.wrap ((bY : Int) + (p : Int) + 1 - (bX : Int)) = (bY : Int) + (p : Int) + 1 - (bX : Int) := by rw [IntKind.wrap_i64]; omega
 have u4 : IntKind.i64.wrap ((bY : Int) + (p : Int) + 1 - (bX : Int) + 63) = (bY : Int) + (p : Int) + 1 - (bX : Int) + 63 := by rw [IntKind.wrap_i64]; omega
 have u5 : IntKind.i64.wrap (((bY : Int) + (p : Int) + 1 - (bX : Int) + 63).tdiv 64) = ((bY : Int) + (p : Int) + 1 - (bX : Int) + 63).tdiv 64 := by rw [IntKind.wrap_i64]; omega
 clear b6 b7
 have b5 : Hid _ := b4
 have hb1 : Hid _ := b1
 have hb2 : Hid _ := b2
 clear b1 b2 b4
 go_upto_region 3 with fail
 have R : Below w1.heap.size w1 (World.drew w1) := (Below.refl _ _).drew
 refine wp_region_held (S := fun w' => Below w1.heap.size w1 w') (by kernel_rfl) ?_
 change wpAnyH _ _ _ _ _ _ _ _ (World.drew w1)
 generalize World.drew w1 = wd at R ⊢
 refine tk 0 (.pointer (some ⟨w.heap.size + 1, 1, none⟩)) rfl (by kernel_rfl) (fun _ _ _ h => h) (by rfl) ?y1 R ?r1
 case y1 => (intro ww hS; clear hS; go_simp; try with_reducible rfl)
 try simp only [Act.put, sA]
 refine tk 1 (.slice y.2.1 y.2.2.1 y.2.2.2.1) rfl (by kernel_rfl) (fun _ _ _ h => h) (by rfl) ?y2 R ?r2
 case y2 => (intro ww hS; have ql1 := kC hS l1; clear hS; go_simp; try with_reducible rfl)
 try simp only [Act.put]
 refine tk 3 (.int .i64 (p : Int)) rfl (by kernel_rfl) (fun _ _ _ h => h) (by rfl) ?y3 R ?r3
 case y3 => (intro ww hS; clear hS; go_simp; try with_reducible rfl)
 try simp only [Act.put]
 refine tk 6 (.pointer (some ⟨w.heap.size, 1, none⟩)) rfl (by kernel_rfl) (fun _ _ _ h => h) (by rfl) ?y4 R ?r4
 case y4 => (intro ww hS; clear hS; go_simp; try with_reducible rfl)
 try simp only [Act.put]
 refine tk 7 (.slice x.2.1 x.2.2.1 x.2.2.2.1) rfl (by kernel_rfl) (fun _ _ _ h => h) (by rfl) ?y5 R ?r5
 case y5 => (intro ww hS; have qk1 := kC hS k1; clear hS; go_simp; try with_reducible rfl)
 try simp only [Act.put]
 refine rd1 2 (by kernel_rfl) rfl fun K hK => ?_
 go_simp
 refine cM (HY.out _ (IsW.keep hJ R)) ?_
 rintro r wa ⟨rfl, bN⟩
 replace R := nT R bN
 clear bN HY
 refine hK.out _ _ R (fun _ => ?_)
 clear hK K
 try simp only [Act.put, sA, sZ, sS]
 refine tk 4 (.int .i64 ((bY : Int) + (p : Int))) rfl (by kernel_rfl) (fun _ _ _ h => h) (by rfl) ?y6 R ?r6
 case y6 => (intro ww hS; clear hS; go_simp; try with_reducible rfl)
 try simp only [Act.put]
 refine tk 5 (.int .i64 ((bY : Int) + (p : Int) + 1)) rfl (by kernel_rfl) (fun _ _ _ h => h) (by rfl) ?y7 R ?r7
 case y7 => (intro ww hS; clear hS; go_simp; try with_reducible rfl)
 try simp only [Act.put]
 refine rd1 8 (by kernel_rfl) rfl fun K hK => ?_
 go_simp
 refine cM (HX.out _ (IsW.keep hI R)) ?_
 rintro r wb ⟨rfl, bN⟩
 replace R := nT R bN
 clear bN HX
 refine hK.out _ _ R (fun _ => ?_)
 clear hK K
 try simp only [Act.put, sA, sZ, sS]
 refine rd1 9 (by kernel_rfl) rfl fun K hK => ?_
 go_simp
 refine hK.out _ _ R (fun _ => ?_)
 clear hK K
 try simp only [Act.put, sA, sZ, sS]
 refine rd1 10 (by kernel_rfl) rfl fun K hK => ?_
 go_simp
 refine hK.out _ _ R (fun _ => ?_)
 clear hK K
 try simp only [Act.put, sA, sZ, sS]
 refine rd1 11 (by kernel_rfl) rfl fun K hK => ?_
 go_simp
 refine hK.out _ _ R (fun _ => ?_)
 clear hK K
 try simp only [Act.put, sA, sZ, sS]
 refine rd1 12 (by kernel_rfl) rfl fun K hK => ?_
 go_simp
 refine hK.out _ _ R (fun _ => ?_)
 clear hK K
 try simp only [Act.put, sA, sZ, sS]
 refine rd1 13 (by kernel_rfl) rfl fun K hK => ?_
 go_simp
 refine hK.out _ _ R (fun _ => ?_)
 clear hK K
 try simp only [Act.put, sA, sZ, sS]
 refine wpAnyH_done (by kernel_rfl) ?_ _
 revert z0 f0 z1 f1 z2 f2; refine zf3 R ?_; intro z0 f0 z1 f1 z2 f2
 revert k0 l0 k1 l1 k2 l2; refine cc6 R ?_; intro k0 l0 k1 l1 k2 l2
 replace hI := IsW.keep hI R
 replace hJ := IsW.keep hJ R
 replace bA := nT bA R
 replace lw := Nat.lt_of_lt_of_le lw R.size
 clear R
 rw [← b3]
 clear b3 u1 u2 u3 u4 u5
 have v1 : IntKind.i64.wrap (x.2.2.2.2.2 - y.2.2.2.2.2) = x.2.2.2.2.2 - y.2.2.2.2.2 := by rw [IntKind.wrap_i64]; omega
 have v2 : IntKind.i64.wrap (64 * (ww : Int)) = 64 * (ww : Int) := by have := b5.out; rw [IntKind.wrap_i64]; omega
 have v3 : IntKind.i64.wrap (x.2.2.2.2.2 - y.2.2.2.2.2 - 64 * (ww : Int)) = x.2.2.2.2.2 - y.2.2.2.2.2 - 64 * (ww : Int) := by have := b5.out; rw [IntKind.wrap_i64]; omega
 go_wp2_with fail
 have bB : Hid _ := Below.refl wb.heap.size wb
 refine cM (HD2.out _ hI hJ) ?_
 rintro r w2 ⟨ao, n, c, rfl, hn, hO, bN⟩
 have lq : Hid (w.heap.size + 1 + 1 < wb.heap.size) := lw
 replace bB : Hid (wb.heap.size ≤ w2.heap.size) := bN.size
 clear HD2
 revert z0 f0 z1 f1 z2 f2; refine zf3 bN ?_; intro z0 f0 z1 f1 z2 f2
 revert k0 l0 k1 l1 k2 l2; refine cc6 bN ?_; intro k0 l0 k1 l1 k2 l2
 replace hI := IsW.keep hI bN
 replace hJ := IsW.keep hJ bN
 replace bA := nT bA bN
 replace lw := Nat.lt_of_lt_of_le lw bN.size
 clear bN
 have hn1 : Hid (n ≤ 1024) := hn
 clear hn
 have HM : Hid _ := marked_calls (!(x.1 == y.1)) ao n c QQ (x.2.2.2.2.2 - y.2.2.2.2.2 - 64 * (ww : Int)) mr wb.heap.size w2 bB.out hO (fun _ => hQ2.out)
 go_wp2_with fail
 refine cM HM.out ?_
 rintro r w3 ⟨rfl, hO3, bM⟩
 have lt := lq.out
 replace f0 := (bM.frozen (p := ⟨w.heap.size + 1 + 1, 0, none⟩) lt).trans f0
 replace f1 := (bM.frozen (p := ⟨w.heap.size + 1 + 1, 1, none⟩) lt).trans f1
 replace f2 := (bM.frozen (p := ⟨w.heap.size + 1 + 1, 2, none⟩) lt).trans f2
 replace z0 := (bM.cell (p := ⟨w.heap.size + 1 + 1, 0, none⟩) lt).trans z0
 replace z1 := (bM.cell (p := ⟨w.heap.size + 1 + 1, 1, none⟩) lt).trans z1
 replace z2 := (bM.cell (p := ⟨w.heap.size + 1 + 1, 2, none⟩) lt).trans z2
 replace bA := bA.trans (bM.mono (by omega))
 clear bM HM k0 k1 k2 l0 l1 l2 hI hJ hO v1 v2 v3
 go_wp2_with fail
 refine bodyPost_ret (v := dyV (!(x.1 == y.1)) ao n c (x.2.2.2.2.2 - y.2.2.2.2.2 - 64 * (ww : Int))) (by simp [results, Tryz.results105, go_sem, z0, z1, z2]) rfl ?_
 rw [e1.out]
 exact ⟨ao, n, c, rfl, hn1.out, (((hO3.far _ _ lt).far _ _ lt).far _ _ lt).low (by omega), ((bA.setCell (le2 _) _).setCell (le2 _) _).setCell (le2 _) _⟩
end Go.Proofs.YtahpdcbmekgkfaaGreatDoor

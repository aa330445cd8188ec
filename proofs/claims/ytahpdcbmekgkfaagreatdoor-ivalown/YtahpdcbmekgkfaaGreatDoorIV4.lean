/- Package ival: both ends cut to p bits, each the way it goes. -/
import Derived.Test.YtahpdcbmekgkfaaGreatDoorCR2
import Derived.Test.YtahpdcbmekgkfaaGreatDoorCR
import Derived.Test.YtahpdcbmekgkfaaGreatDoorAL
import Derived.Test.YtahpdcbmekgkfaaGreatDoorTMM
namespace Go.Proofs.YtahpdcbmekgkfaaGreatDoor
open Go.RowKit
def owE (s : Bool) (m : Nat) (e : Int) (s' : Bool) (m' : Nat) (e' pp : Int) : Int := if roomE (cutD (formD s m e) pp false) ≠ 0 then roomE (cutD (formD s m e) pp false) else roomE (cutD (formD s' m' e') pp true)
def owL (s : Bool) (m : Nat) (e : Int) (s' : Bool) (m' : Nat) (e' pp : Int) : Bool × Nat × Int := if owE s m e s' m' e' pp = 0 then roomP (cutD (formD s m e) pp false) else (false, 0, 0)
def owH (s : Bool) (m : Nat) (e : Int) (s' : Bool) (m' : Nat) (e' pp : Int) : Bool × Nat × Int := if owE s m e s' m' e' pp = 0 then roomP (cutD (formD s' m' e') pp true) else (false, 0, 0)
theorem bl_allocI {w W : World} (h : Below w.heap.size w W) (o : Obj) : Below w.heap.size w (W.alloc o) := Below.alloc h h.size o
theorem isW_sixI {w : World} {a : Option Addr} {n c r : Nat} {xs : List Int} (h : IsW w a n c xs) (z : ∀ i, i < 6 → ∃ x, w.cell? ⟨r, i, none⟩ = some x ∧ ∀ j : Int, x ≠ .int .u64 j) (v0 v1 v2 v3 v4 v5 : Value) :
  IsW ((((((w.setCell ⟨r, 0, none⟩ v0).setCell ⟨r, 1, none⟩ v1).setCell ⟨r, 2, none⟩ v2).setCell ⟨r, 3, none⟩ v3).setCell ⟨r, 4, none⟩ v4).setCell ⟨r, 5, none⟩ v5) a n c xs := by
 obtain ⟨h1, h2, h4, h3⟩ := h
 refine ⟨h1, h2, h4, fun i hi => ?_⟩
 obtain ⟨b, off, e1, e2, e3⟩ := h3 i hi
 have ne : ∀ k, k < 6 → (⟨b, off + i, none⟩ : Addr) ≠ ⟨r, k, none⟩ := fun k hk q => by
  obtain ⟨x, hx, hn⟩ := z k hk
  rw [← q, e3] at hx
  exact hn _ (Option.some.inj hx).symm
 refine ⟨b, off, e1, by simpa using e2, ?_⟩
 rw [World.cell?_setCell_other _ _ _ _ (fun q => ne 5 (by decide) q.symm), World.cell?_setCell_other _ _ _ _ (fun q => ne 4 (by decide) q.symm), World.cell?_setCell_other _ _ _ _ (fun q => ne 3 (by decide) q.symm), World.cell?_setCell_other _ _ _ _ (fun q => ne 2 (by decide) q.symm), World.cell?_setCell_other _ _ _ _ (fun q => ne 1 (by decide) q.symm), World.cell?_setCell_other _ _ _ _ (fun q => ne 0 (by decide) q.symm)]
 exact e3
theorem six_ofI {w : World} {r : Nat} {x0 x1 x2 x3 x4 x5 : Value} (z0 : w.cell? ⟨r, 0, none⟩ = some x0) (z1 : w.cell? ⟨r, 1, none⟩ = some x1) (z2 : w.cell? ⟨r, 2, none⟩ = some x2) (z3 : w.cell? ⟨r, 3, none⟩ = some x3) (z4 : w.cell? ⟨r, 4, none⟩ = some x4) (z5 : w.cell? ⟨r, 5, none⟩ = some x5) (n0 : ∀ j : Int, x0 ≠ .int .u64 j) (n1 : ∀ j : Int, x1 ≠ .int .u64 j) (n2 : ∀ j : Int, x2 ≠ .int .u64 j) (n3 : ∀ j : Int, x3 ≠ .int .u64 j) (n4 : ∀ j : Int, x4 ≠ .int .u64 j) (n5 : ∀ j : Int, x5 ≠ .int .u64 j) : ∀ i, i < 6 → ∃ x, w.cell? ⟨r, i, none⟩ = some x ∧ ∀ j : Int, x ≠ .int .u64 j := fun i hi =>
 match i, hi with
 | 0, _ => ⟨_, z0, n0⟩
 | 1, _ => ⟨_, z1, n1⟩
 | 2, _ => ⟨_, z2, n2⟩
 | 3, _ => ⟨_, z3, n3⟩
 | 4, _ => ⟨_, z4, n4⟩
 | 5, _ => ⟨_, z5, n5⟩
theorem ownW_sixI {B : Nat} {w : World} {a : Option Addr} {n c r : Nat} {xs : List Int} (h : OwnW B w a n c xs) (z : ∀ i, i < 6 → ∃ x, w.cell? ⟨r, i, none⟩ = some x ∧ ∀ j : Int, x ≠ .int .u64 j) (v0 v1 v2 v3 v4 v5 : Value) :
  OwnW B ((((((w.setCell ⟨r, 0, none⟩ v0).setCell ⟨r, 1, none⟩ v1).setCell ⟨r, 2, none⟩ v2).setCell ⟨r, 3, none⟩ v3).setCell ⟨r, 4, none⟩ v4).setCell ⟨r, 5, none⟩ v5) a n c xs := by
 refine ⟨isW_sixI h.1 z _ _ _ _ _ _, fun b off i e hi => ?_⟩
 obtain ⟨h6, h7⟩ := h.2 b off i e hi
 refine ⟨h6, ?_⟩
 rw [World.frozen?_setCell, World.frozen?_setCell, World.frozen?_setCell, World.frozen?_setCell, World.frozen?_setCell, World.frozen?_setCell]
 exact h7
theorem OwnW.set_dyI {B : Nat} {W : World} {a : Option Addr} {n c : Nat} {xs : List Int} (h : OwnW B W a n c xs) (r : Nat) (b0 : Bool) (s1 : Option Addr) (s2 s3 : Nat) (z : Int) (u0 u1 u2 : Value) (k0 : W.cell? ⟨r, 0, none⟩ = some (.bool b0)) (k1 : W.cell? ⟨r, 1, none⟩ = some (.slice s1 s2 s3)) (k2 : W.cell? ⟨r, 2, none⟩ = some (.int .i64 z)) :
  OwnW B (((W.setCell ⟨r, 0, none⟩ u0).setCell ⟨r, 1, none⟩ u1).setCell ⟨r, 2, none⟩ u2) a n c xs := by
 have o1 : (W.setCell ⟨r, 0, none⟩ u0).cell? ⟨r, 1, none⟩ = some (.slice s1 s2 s3) := (World.cell?_setCell_other W _ _ _ (by simp)).trans k1
 have o2 : ((W.setCell ⟨r, 0, none⟩ u0).setCell ⟨r, 1, none⟩ u1).cell? ⟨r, 2, none⟩ = some (.int .i64 z) := (World.cell?_setCell_other _ _ _ _ (by simp)).trans ((World.cell?_setCell_other W _ _ _ (by simp)).trans k2)
 exact ((h.set_oneI _ _ u0 k0 (fun z q => by cases q)).set_oneI _ _ u1 o1 (fun z q => by cases q)).set_oneI _ _ u2 o2 (fun z q => by cases q)
theorem set3_sameI {W : World} {r : Nat} {v0 v1 v2 x0 x1 x2 : Value} (h0 : W.cell? ⟨r, 0, none⟩ = some x0) (h1 : W.cell? ⟨r, 1, none⟩ = some x1) (h2 : W.cell? ⟨r, 2, none⟩ = some x2) :
  (((W.setCell ⟨r, 0, none⟩ v0).setCell ⟨r, 1, none⟩ v1).setCell ⟨r, 2, none⟩ v2).cell? ⟨r, 0, none⟩ = some v0 ∧ (((W.setCell ⟨r, 0, none⟩ v0).setCell ⟨r, 1, none⟩ v1).setCell ⟨r, 2, none⟩ v2).cell? ⟨r, 1, none⟩ = some v1 ∧ (((W.setCell ⟨r, 0, none⟩ v0).setCell ⟨r, 1, none⟩ v1).setCell ⟨r, 2, none⟩ v2).cell? ⟨r, 2, none⟩ = some v2 := by
 refine ⟨?_, ?_, ?_⟩ <;> simp [World.cell?_setCell_other, go_sem, h0, h1, h2]
theorem nil_ow {L H : Bool × Nat × Int} {E k : Int} {w w' : World} (h : E = k ∧ L = (false, 0, 0) ∧ H = (false, 0, 0)) (hb : Below w.heap.size w w') : ∃ al nl cl ah nh ch, (Ending.returned (.tuple #[zIvI, .int .i64 k])) = .returned (.tuple #[ivI L.1 al nl cl L.2.2 H.1 ah nh ch H.2.2, .int .i64 E]) ∧ nl ≤ 1024 ∧ nh ≤ 1024 ∧ OwnW w.heap.size w' al nl cl (wO L.2.1) ∧ OwnW w.heap.size w' ah nh ch (wO H.2.1) ∧ Below w.heap.size w w' := by
 obtain ⟨rfl, rfl, rfl⟩ := h
 exact ⟨.none, 0, 0, .none, 0, 0, rfl, by decide, by decide, by rw [words_zero]; exact ownW_nil _ _, by rw [words_zero]; exact ownW_nil _ _, hb⟩
set_option maxRecDepth 100000 in
set_option maxHeartbeats 8000000 in
theorem outward_calls (s : Bool) (a : Option Addr) (len cap : Nat) (xs : List Int) (e : Int) (s' : Bool) (a' : Option Addr) (len' cap' : Nat) (ys : List Int) (e' : Int) (pp : Int) (w : World) (h : IsW w a len cap xs) (hm : len ≤ 17592186044000) (hg : greatB (val xs) = false) (he : -100000000 ≤ e ∧ e ≤ 100000000) (h' : IsW w a' len' cap' ys) (hm' : len' ≤ 17592186044000) (hg' : greatB (val ys) = false) (he' : -100000000 ≤ e' ∧ e' ≤ 100000000) (hp : 1 ≤ pp ∧ pp ≤ 9223372036854775807) (hT : Tab w) :
  Calls Tryz.prog 66 #[ivI s a len cap e s' a' len' cap' e', .int .i64 pp] w fun r w' => ∃ al nl cl ah nh ch, r = .returned (.tuple #[ivI (owL s (val xs) e s' (val ys) e' pp).1 al nl cl (owL s (val xs) e s' (val ys) e' pp).2.2 (owH s (val xs) e s' (val ys) e' pp).1 ah nh ch (owH s (val xs) e s' (val ys) e' pp).2.2, .int .i64 (owE s (val xs) e s' (val ys) e' pp)]) ∧ nl ≤ 1024 ∧ nh ≤ 1024 ∧ OwnW w.heap.size w' al nl cl (wO (owL s (val xs) e s' (val ys) e' pp).2.1) ∧ OwnW w.heap.size w' ah nh ch (wO (owH s (val xs) e s' (val ys) e' pp).2.1) ∧ Below w.heap.size w w' := by
 have bA : Below w.heap.size w ((w.alloc (.cells #[.bool s, .slice a len cap, .int .i64 e, .bool s', .slice a' len' cap', .int .i64 e'] 27)).alloc (.cells #[.bool false, .slice none 0 0, .int .i64 0, .bool false, .slice none 0 0, .int .i64 0] 27)) := nT (below_one _ _) (below_one _ _)
 have HE1 : Hid _ := fun w' => lowEnd_calls w'
 have HE2 : Hid _ := fun w' => uppEnd_calls w'
 have HC1 : Hid _ := fun w' (k : IsW w' a len cap xs) tt => lowCut_calls s a len cap xs e pp w' k hm hg he hp tt
 have HC2 : Hid _ := fun w' (k : IsW w' a' len' cap' ys) tt => uppCut_calls s' a' len' cap' ys e' pp w' k hm' hg' he' hp tt
 have n1 : roomE (cutD (formD s (val xs) e) pp false) = 0 ∨ roomE (cutD (formD s (val xs) e) pp false) = 3 := by unfold roomE; split <;> simp
 have n2 : roomE (cutD (formD s' (val ys) e') pp true) = 0 ∨ roomE (cutD (formD s' (val ys) e') pp true) = 3 := by unfold roomE; split <;> simp
 have HA : Hid (owE s (val xs) e s' (val ys) e' pp = if roomE (cutD (formD s (val xs) e) pp false) ≠ 0 then roomE (cutD (formD s (val xs) e) pp false) else roomE (cutD (formD s' (val ys) e') pp true)) := by rw [Hid]; rfl
 have HAL : Hid (owL s (val xs) e s' (val ys) e' pp = if owE s (val xs) e s' (val ys) e' pp = 0 then roomP (cutD (formD s (val xs) e) pp false) else (false, 0, 0)) := by rw [Hid]; rfl
 have HAH : Hid (owH s (val xs) e s' (val ys) e' pp = if owE s (val xs) e s' (val ys) e' pp = 0 then roomP (cutD (formD s' (val ys) e') pp true) else (false, 0, 0)) := by rw [Hid]; rfl
 generalize owE s (val xs) e s' (val ys) e' pp = EE at *
 generalize owL s (val xs) e s' (val ys) e' pp = LL at *
 generalize owH s (val xs) e s' (val ys) e' pp = HH at *
 generalize roomE (cutD (formD s (val xs) e) pp false) = el at *
 generalize roomE (cutD (formD s' (val ys) e') pp true) = eh at *
 generalize roomP (cutD (formD s (val xs) e) pp false) = PL at *
 generalize roomP (cutD (formD s' (val ys) e') pp true) = PH at *
 have hI := h.keep bA
 have hJ := h'.keep bA
 have hT0 := hT.kept bA
 have c0 : ((w.alloc (.cells #[.bool s, .slice a len cap, .int .i64 e, .bool s', .slice a' len' cap', .int .i64 e'] 27)).alloc (.cells #[.bool false, .slice none 0 0, .int .i64 0, .bool false, .slice none 0 0, .int .i64 0] 27)).cell? ⟨w.heap.size, 0, none⟩ = some (.bool s) := by go_simp
 have c1 : ((w.alloc (.cells #[.bool s, .slice a len cap, .int .i64 e, .bool s', .slice a' len' cap', .int .i64 e'] 27)).alloc (.cells #[.bool false, .slice none 0 0, .int .i64 0, .bool false, .slice none 0 0, .int .i64 0] 27)).cell? ⟨w.heap.size, 1, none⟩ = some (.slice a len cap) := by go_simp
 have c2 : ((w.alloc (.cells #[.bool s, .slice a len cap, .int .i64 e, .bool s', .slice a' len' cap', .int .i64 e'] 27)).alloc (.cells #[.bool false, .slice none 0 0, .int .i64 0, .bool false, .slice none 0 0, .int .i64 0] 27)).cell? ⟨w.heap.size, 2, none⟩ = some (.int .i64 e) := by go_simp
 have c3 : ((w.alloc (.cells #[.bool s, .slice a len cap, .int .i64 e, .bool s', .slice a' len' cap', .int .i64 e'] 27)).alloc (.cells #[.bool false, .slice none 0 0, .int .i64 0, .bool false, .slice none 0 0, .int .i64 0] 27)).cell? ⟨w.heap.size, 3, none⟩ = some (.bool s') := by go_simp
 have c4 : ((w.alloc (.cells #[.bool s, .slice a len cap, .int .i64 e, .bool s', .slice a' len' cap', .int .i64 e'] 27)).alloc (.cells #[.bool false, .slice none 0 0, .int .i64 0, .bool false, .slice none 0 0, .int .i64 0] 27)).cell? ⟨w.heap.size, 4, none⟩ = some (.slice a' len' cap') := by go_simp
 have c5 : ((w.alloc (.cells #[.bool s, .slice a len cap, .int .i64 e, .bool s', .slice a' len' cap', .int .i64 e'] 27)).alloc (.cells #[.bool false, .slice none 0 0, .int .i64 0, .bool false, .slice none 0 0, .int .i64 0] 27)).cell? ⟨w.heap.size, 5, none⟩ = some (.int .i64 e') := by go_simp
 have z0 : ((w.alloc (.cells #[.bool s, .slice a len cap, .int .i64 e, .bool s', .slice a' len' cap', .int .i64 e'] 27)).alloc (.cells #[.bool false, .slice none 0 0, .int .i64 0, .bool false, .slice none 0 0, .int .i64 0] 27)).cell? ⟨w.heap.size + 1, 0, none⟩ = some (.bool false) := by go_simp
 have f0 : ((w.alloc (.cells #[.bool s, .slice a len cap, .int .i64 e, .bool s', .slice a' len' cap', .int .i64 e'] 27)).alloc (.cells #[.bool false, .slice none 0 0, .int .i64 0, .bool false, .slice none 0 0, .int .i64 0] 27)).frozen? ⟨w.heap.size + 1, 0, none⟩ = false := by go_simp
 have z1 : ((w.alloc (.cells #[.bool s, .slice a len cap, .int .i64 e, .bool s', .slice a' len' cap', .int .i64 e'] 27)).alloc (.cells #[.bool false, .slice none 0 0, .int .i64 0, .bool false, .slice none 0 0, .int .i64 0] 27)).cell? ⟨w.heap.size + 1, 1, none⟩ = some (.slice none 0 0) := by go_simp
 have f1 : ((w.alloc (.cells #[.bool s, .slice a len cap, .int .i64 e, .bool s', .slice a' len' cap', .int .i64 e'] 27)).alloc (.cells #[.bool false, .slice none 0 0, .int .i64 0, .bool false, .slice none 0 0, .int .i64 0] 27)).frozen? ⟨w.heap.size + 1, 1, none⟩ = false := by go_simp
 have z2 : ((w.alloc (.cells #[.bool s, .slice a len cap, .int .i64 e, .bool s', .slice a' len' cap', .int .i64 e'] 27)).alloc (.cells #[.bool false, .slice none 0 0, .int .i64 0, .bool false, .slice none 0 0, .int .i64 0] 27)).cell? ⟨w.heap.size + 1, 2, none⟩ = some (.int .i64 0) := by go_simp
 have f2 : ((w.alloc (.cells #[.bool s, .slice a len cap, .int .i64 e, .bool s', .slice a' len' cap', .int .i64 e'] 27)).alloc (.cells #[.bool false, .slice none 0 0, .int .i64 0, .bool false, .slice none 0 0, .int .i64 0] 27)).frozen? ⟨w.heap.size + 1, 2, none⟩ = false := by go_simp
 have z3 : ((w.alloc (.cells #[.bool s, .slice a len cap, .int .i64 e, .bool s', .slice a' len' cap', .int .i64 e'] 27)).alloc (.cells #[.bool false, .slice none 0 0, .int .i64 0, .bool false, .slice none 0 0, .int .i64 0] 27)).cell? ⟨w.heap.size + 1, 3, none⟩ = some (.bool false) := by go_simp
 have f3 : ((w.alloc (.cells #[.bool s, .slice a len cap, .int .i64 e, .bool s', .slice a' len' cap', .int .i64 e'] 27)).alloc (.cells #[.bool false, .slice none 0 0, .int .i64 0, .bool false, .slice none 0 0, .int .i64 0] 27)).frozen? ⟨w.heap.size + 1, 3, none⟩ = false := by go_simp
 have z4 : ((w.alloc (.cells #[.bool s, .slice a len cap, .int .i64 e, .bool s', .slice a' len' cap', .int .i64 e'] 27)).alloc (.cells #[.bool false, .slice none 0 0, .int .i64 0, .bool false, .slice none 0 0, .int .i64 0] 27)).cell? ⟨w.heap.size + 1, 4, none⟩ = some (.slice none 0 0) := by go_simp
 have f4 : ((w.alloc (.cells #[.bool s, .slice a len cap, .int .i64 e, .bool s', .slice a' len' cap', .int .i64 e'] 27)).alloc (.cells #[.bool false, .slice none 0 0, .int .i64 0, .bool false, .slice none 0 0, .int .i64 0] 27)).frozen? ⟨w.heap.size + 1, 4, none⟩ = false := by go_simp
 have z5 : ((w.alloc (.cells #[.bool s, .slice a len cap, .int .i64 e, .bool s', .slice a' len' cap', .int .i64 e'] 27)).alloc (.cells #[.bool false, .slice none 0 0, .int .i64 0, .bool false, .slice none 0 0, .int .i64 0] 27)).cell? ⟨w.heap.size + 1, 5, none⟩ = some (.int .i64 0) := by go_simp
 have f5 : ((w.alloc (.cells #[.bool s, .slice a len cap, .int .i64 e, .bool s', .slice a' len' cap', .int .i64 e'] 27)).alloc (.cells #[.bool false, .slice none 0 0, .int .i64 0, .bool false, .slice none 0 0, .int .i64 0] 27)).frozen? ⟨w.heap.size + 1, 5, none⟩ = false := by go_simp
 clear h h' hT hm hm' hg hg' he he' hp
 go_enter Tryz.func66, Tryz.ntmps66
 go_upto_region 1 with fail
 generalize ((w.alloc (.cells #[.bool s, .slice a len cap, .int .i64 e, .bool s', .slice a' len' cap', .int .i64 e'] 27)).alloc (.cells #[.bool false, .slice none 0 0, .int .i64 0, .bool false, .slice none 0 0, .int .i64 0] 27)) = w0 at *
 go_cut [6, 7] from 9 to 17 (fun va vb wx => ∃ (X : Nat) (ao : Option Addr) (n c : Nat), va = .pointer (some ⟨X, 0, none⟩) ∧ vb = .int .i64 el ∧ wx.cell? ⟨X, 0, none⟩ = some (.bool PL.1) ∧ wx.cell? ⟨X, 1, none⟩ = some (.slice ao n c) ∧ wx.cell? ⟨X, 2, none⟩ = some (.int .i64 PL.2.2) ∧ Hid (n = (wO PL.2.1).length) ∧ n ≤ 1024 ∧ OwnW w0.heap.size wx ao n c (wO PL.2.1) ∧ Below w0.heap.size w0 wx)
 case first =>
  have bw : Below w0.heap.size w0 w0.drew := (Below.refl _ _).drew
  refine wp_region_held (S := fun w' => Below w0.heap.size w0 w') (by kernel_rfl) ?_
  change wpAnyH _ _ _ _ _ _ _ _ (World.drew w0)
  generalize World.drew w0 = wd at bw ⊢
  refine tk 2 (.pointer (some ⟨w.heap.size, 0, none⟩)) rfl (by kernel_rfl) (fun _ _ _ h => h) (by rfl) ?y1 bw ?r1
  case y1 => (intro ww hS; clear hS; go_simp; first | done | with_reducible rfl | kernel_rfl | rfl)
  try simp only [Act.put, sA]
  refine tk 3 (dyV s a len cap e) rfl (by kernel_rfl) (fun _ _ _ h => h) (by rfl) ?y2 bw ?r2
  case y2 => (intro ww hS; have qc0 := kC hS c0; have qc1 := kC hS c1; have qc2 := kC hS c2; clear hS; go_simp; first | done | with_reducible rfl | kernel_rfl | rfl)
  try simp only [Act.put]
  refine tk 4 (.int .i64 pp) rfl (by kernel_rfl) (fun _ _ _ h => h) (by rfl) ?y3 bw ?r3
  case y3 => (intro ww hS; clear hS; go_simp; first | done | with_reducible rfl | kernel_rfl | rfl)
  try simp only [Act.put]
  refine rd2 0 9 (by kernel_rfl) rfl rfl (fun K hK => ?_) fun K hK => ?_
  ·go_simp
   refine cM (HE1.out _) ?_
   rintro r v1 ⟨rfl, bN⟩
   refine hK.out _ _ (nT bw bN) (fun _ => ?_)
   clear hK K
   replace bw := nT bw bN
   clear bN
   try simp only [Act.put, sA, sZ, sS]
   refine tk 1 (.func (.func 118) #[] #[]) rfl (by kernel_rfl) (fun _ _ _ h => h) (by rfl) ?y4 bw ?r4
   case y4 => (intro ww hS; clear hS; go_simp; first | done | with_reducible rfl | kernel_rfl | rfl)
   try simp only [Act.put]
   refine rd2 5 9 (by kernel_rfl) rfl rfl (fun K hK => ?_) fun K hK => ?_
   ·go_simp
    refine cM (HC1.out _ (IsW.keep hI bw) (hT0.kept bw)) ?_
    rintro r v2 ⟨_, rfl, ⟨ao, n, c, rfl, HN, hn, hO0⟩, bN⟩
    refine hK.out _ _ (nT bw bN) (fun _ => ?_)
    clear hK K
    have hO := hO0.low (B' := w0.heap.size) bw.size
    clear hO0
    replace bw := nT bw bN
    clear bN
    try simp only [Act.put, sA, sZ, sS]
    refine tk 6 (.tuple #[dyV PL.1 ao n c PL.2.2, .int .i64 el]) rfl (by kernel_rfl) (fun _ _ _ h => h) (by rfl) ?y5 bw ?r5
    case y5 => (intro ww hS; clear hS; go_simp; first | done | with_reducible rfl | kernel_rfl | rfl)
    try simp only [Act.put]
    refine tk 7 (dyV PL.1 ao n c PL.2.2) rfl (by kernel_rfl) (fun _ _ _ h => h) (by rfl) ?y6 bw ?r6
    case y6 => (intro ww hS; clear hS; go_simp; first | done | with_reducible rfl | kernel_rfl | rfl)
    try simp only [Act.put]
    refine tk 8 (.int .i64 el) rfl (by kernel_rfl) (fun _ _ _ h => h) (by rfl) ?y7 bw ?r7
    case y7 => (intro ww hS; clear hS; go_simp; first | done | with_reducible rfl | kernel_rfl | rfl)
    try simp only [Act.put]
    refine rd1 9 (by kernel_rfl) rfl fun K hK => ?_
    go_simp
    refine hK.out _ _ (bl_allocI bw _) (fun _ => ?_)
    clear hK K
    have bN := below_one v2 (.cells #[.bool false, .slice none 0 0, .int .i64 0] 25)
    replace hO := hO.keep bN
    obtain ⟨X0, X1, X2, X3, X4, X5⟩ := zero_dy (w := v2) (r := v2.heap.size) (W' := v2.alloc (.cells #[.bool false, .slice none 0 0, .int .i64 0] 25)) (Below.refl _ _) rfl
    have XL : w0.heap.size ≤ v2.heap.size := bw.size
    replace bw := bl_allocI bw (.cells #[.bool false, .slice none 0 0, .int .i64 0] 25)
    clear bN
    try simp only [Act.put, sA, sZ, sS]
    generalize v2.alloc (.cells #[.bool false, .slice none 0 0, .int .i64 0] 25) = v3 at *
    refine rd1 10 (by kernel_rfl) rfl fun K hK => ?_
    go_simp
    have bS : Below w0.heap.size w0 (((v3.setCell ⟨v2.heap.size, 0, none⟩ (.bool PL.1)).setCell ⟨v2.heap.size, 1, none⟩ (.slice ao n c)).setCell ⟨v2.heap.size, 2, none⟩ (.int .i64 PL.2.2)) := ((bw.setCell XL _).setCell XL _).setCell XL _
    refine hK.out _ _ bS (fun _ => ?_)
    clear hK K
    replace hO := hO.set_dyI _ _ _ _ _ _ (.bool PL.1) (.slice ao n c) (.int .i64 PL.2.2) X0 X1 X2
    obtain ⟨Z0, Z1, Z2⟩ := set3_sameI (r := v2.heap.size) (v0 := .bool PL.1) (v1 := .slice ao n c) (v2 := .int .i64 PL.2.2) X0 X1 X2
    clear X0 X1 X2 X3 X4 X5 bw
    try simp only [Act.put, sA, sZ, sS]
    generalize (((v3.setCell ⟨v2.heap.size, 0, none⟩ (.bool PL.1)).setCell ⟨v2.heap.size, 1, none⟩ (.slice ao n c)).setCell ⟨v2.heap.size, 2, none⟩ (.int .i64 PL.2.2)) = v4 at *
    have X0 := Z0
    have X1 := Z1
    have X2 := Z2
    have bw := bS
    clear Z0 Z1 Z2 bS
    refine rd1 11 (by kernel_rfl) rfl fun K hK => ?_
    go_simp
    refine hK.out _ _ bw (fun _ => ?_)
    clear hK K
    try simp only [Act.put, sA, sZ, sS]
    refine wpAnyH_done (by kernel_rfl) ?_ _
    go_wp2_with fail
    go_meet
    exact ⟨_, _, _, _, rfl, rfl, X0, X1, X2, HN, hn, hO, bw⟩
   ·go_simp
    refine hK.out _ _ (bl_allocI bw _) (fun _ => ?_)
    clear hK K
    have bN := below_one v1 (.cells #[.bool false, .slice none 0 0, .int .i64 0] 25)
    obtain ⟨X0, X1, X2, X3, X4, X5⟩ := zero_dy (w := v1) (r := v1.heap.size) (W' := v1.alloc (.cells #[.bool false, .slice none 0 0, .int .i64 0] 25)) (Below.refl _ _) rfl
    have XL : w0.heap.size ≤ v1.heap.size := bw.size
    replace bw := bl_allocI bw (.cells #[.bool false, .slice none 0 0, .int .i64 0] 25)
    clear bN
    try simp only [Act.put, sA, sZ, sS]
    generalize v1.alloc (.cells #[.bool false, .slice none 0 0, .int .i64 0] 25) = v6 at *
    refine rd1 5 (by kernel_rfl) rfl fun K hK => ?_
    go_simp
    refine cM (HC1.out _ (IsW.keep hI bw) (hT0.kept bw)) ?_
    rintro r v7 ⟨_, rfl, ⟨ao, n, c, rfl, HN, hn, hO0⟩, bN⟩
    refine hK.out _ _ (nT bw bN) (fun _ => ?_)
    clear hK K
    have hO := hO0.low (B' := w0.heap.size) bw.size
    clear hO0
    revert X0 X1 X2 X3 X4 X5; refine zg3 bN ?_; intro X0 X1 X2 X3 X4 X5
    replace bw := nT bw bN
    clear bN
    try simp only [Act.put, sA, sZ, sS]
    refine tk 6 (.tuple #[dyV PL.1 ao n c PL.2.2, .int .i64 el]) rfl (by kernel_rfl) (fun _ _ _ h => h) (by rfl) ?y8 bw ?r8
    case y8 => (intro ww hS; clear hS; go_simp; first | done | with_reducible rfl | kernel_rfl | rfl)
    try simp only [Act.put]
    refine tk 7 (dyV PL.1 ao n c PL.2.2) rfl (by kernel_rfl) (fun _ _ _ h => h) (by rfl) ?y9 bw ?r9
    case y9 => (intro ww hS; clear hS; go_simp; first | done | with_reducible rfl | kernel_rfl | rfl)
    try simp only [Act.put]
    refine tk 8 (.int .i64 el) rfl (by kernel_rfl) (fun _ _ _ h => h) (by rfl) ?y10 bw ?r10
    case y10 => (intro ww hS; clear hS; go_simp; first | done | with_reducible rfl | kernel_rfl | rfl)
    try simp only [Act.put]
    refine rd1 10 (by kernel_rfl) rfl fun K hK => ?_
    go_simp
    have bS : Below w0.heap.size w0 (((v7.setCell ⟨v1.heap.size, 0, none⟩ (.bool PL.1)).setCell ⟨v1.heap.size, 1, none⟩ (.slice ao n c)).setCell ⟨v1.heap.size, 2, none⟩ (.int .i64 PL.2.2)) := ((bw.setCell XL _).setCell XL _).setCell XL _
    refine hK.out _ _ bS (fun _ => ?_)
    clear hK K
    replace hO := hO.set_dyI _ _ _ _ _ _ (.bool PL.1) (.slice ao n c) (.int .i64 PL.2.2) X0 X1 X2
    obtain ⟨Z0, Z1, Z2⟩ := set3_sameI (r := v1.heap.size) (v0 := .bool PL.1) (v1 := .slice ao n c) (v2 := .int .i64 PL.2.2) X0 X1 X2
    clear X0 X1 X2 X3 X4 X5 bw
    try simp only [Act.put, sA, sZ, sS]
    generalize (((v7.setCell ⟨v1.heap.size, 0, none⟩ (.bool PL.1)).setCell ⟨v1.heap.size, 1, none⟩ (.slice ao n c)).setCell ⟨v1.heap.size, 2, none⟩ (.int .i64 PL.2.2)) = v8 at *
    have X0 := Z0
    have X1 := Z1
    have X2 := Z2
    have bw := bS
    clear Z0 Z1 Z2 bS
    refine rd1 11 (by kernel_rfl) rfl fun K hK => ?_
    go_simp
    refine hK.out _ _ bw (fun _ => ?_)
    clear hK K
    try simp only [Act.put, sA, sZ, sS]
    refine wpAnyH_done (by kernel_rfl) ?_ _
    go_wp2_with fail
    go_meet
    exact ⟨_, _, _, _, rfl, rfl, X0, X1, X2, HN, hn, hO, bw⟩
  ·go_simp
   refine hK.out _ _ (bl_allocI bw _) (fun _ => ?_)
   clear hK K
   have bN := below_one wd (.cells #[.bool false, .slice none 0 0, .int .i64 0] 25)
   obtain ⟨X0, X1, X2, X3, X4, X5⟩ := zero_dy (w := wd) (r := wd.heap.size) (W' := wd.alloc (.cells #[.bool false, .slice none 0 0, .int .i64 0] 25)) (Below.refl _ _) rfl
   have XL : w0.heap.size ≤ wd.heap.size := bw.size
   replace bw := bl_allocI bw (.cells #[.bool false, .slice none 0 0, .int .i64 0] 25)
   clear bN
   try simp only [Act.put, sA, sZ, sS]
   generalize wd.alloc (.cells #[.bool false, .slice none 0 0, .int .i64 0] 25) = v10 at *
   refine rd1 0 (by kernel_rfl) rfl fun K hK => ?_
   go_simp
   refine cM (HE1.out _) ?_
   rintro r v11 ⟨rfl, bN⟩
   refine hK.out _ _ (nT bw bN) (fun _ => ?_)
   clear hK K
   revert X0 X1 X2 X3 X4 X5; refine zg3 bN ?_; intro X0 X1 X2 X3 X4 X5
   replace bw := nT bw bN
   clear bN
   try simp only [Act.put, sA, sZ, sS]
   refine tk 1 (.func (.func 118) #[] #[]) rfl (by kernel_rfl) (fun _ _ _ h => h) (by rfl) ?y11 bw ?r11
   case y11 => (intro ww hS; clear hS; go_simp; first | done | with_reducible rfl | kernel_rfl | rfl)
   try simp only [Act.put]
   refine rd1 5 (by kernel_rfl) rfl fun K hK => ?_
   go_simp
   refine cM (HC1.out _ (IsW.keep hI bw) (hT0.kept bw)) ?_
   rintro r v12 ⟨_, rfl, ⟨ao, n, c, rfl, HN, hn, hO0⟩, bN⟩
   refine hK.out _ _ (nT bw bN) (fun _ => ?_)
   clear hK K
   have hO := hO0.low (B' := w0.heap.size) bw.size
   clear hO0
   revert X0 X1 X2 X3 X4 X5; refine zg3 bN ?_; intro X0 X1 X2 X3 X4 X5
   replace bw := nT bw bN
   clear bN
   try simp only [Act.put, sA, sZ, sS]
   refine tk 6 (.tuple #[dyV PL.1 ao n c PL.2.2, .int .i64 el]) rfl (by kernel_rfl) (fun _ _ _ h => h) (by rfl) ?y12 bw ?r12
   case y12 => (intro ww hS; clear hS; go_simp; first | done | with_reducible rfl | kernel_rfl | rfl)
   try simp only [Act.put]
   refine tk 7 (dyV PL.1 ao n c PL.2.2) rfl (by kernel_rfl) (fun _ _ _ h => h) (by rfl) ?y13 bw ?r13
   case y13 => (intro ww hS; clear hS; go_simp; first | done | with_reducible rfl | kernel_rfl | rfl)
   try simp only [Act.put]
   refine tk 8 (.int .i64 el) rfl (by kernel_rfl) (fun _ _ _ h => h) (by rfl) ?y14 bw ?r14
   case y14 => (intro ww hS; clear hS; go_simp; first | done | with_reducible rfl | kernel_rfl | rfl)
   try simp only [Act.put]
   refine rd1 10 (by kernel_rfl) rfl fun K hK => ?_
   go_simp
   have bS : Below w0.heap.size w0 (((v12.setCell ⟨wd.heap.size, 0, none⟩ (.bool PL.1)).setCell ⟨wd.heap.size, 1, none⟩ (.slice ao n c)).setCell ⟨wd.heap.size, 2, none⟩ (.int .i64 PL.2.2)) := ((bw.setCell XL _).setCell XL _).setCell XL _
   refine hK.out _ _ bS (fun _ => ?_)
   clear hK K
   replace hO := hO.set_dyI _ _ _ _ _ _ (.bool PL.1) (.slice ao n c) (.int .i64 PL.2.2) X0 X1 X2
   obtain ⟨Z0, Z1, Z2⟩ := set3_sameI (r := wd.heap.size) (v0 := .bool PL.1) (v1 := .slice ao n c) (v2 := .int .i64 PL.2.2) X0 X1 X2
   clear X0 X1 X2 X3 X4 X5 bw
   try simp only [Act.put, sA, sZ, sS]
   generalize (((v12.setCell ⟨wd.heap.size, 0, none⟩ (.bool PL.1)).setCell ⟨wd.heap.size, 1, none⟩ (.slice ao n c)).setCell ⟨wd.heap.size, 2, none⟩ (.int .i64 PL.2.2)) = v13 at *
   have X0 := Z0
   have X1 := Z1
   have X2 := Z2
   have bw := bS
   clear Z0 Z1 Z2 bS
   refine rd1 11 (by kernel_rfl) rfl fun K hK => ?_
   go_simp
   refine hK.out _ _ bw (fun _ => ?_)
   clear hK K
   try simp only [Act.put, sA, sZ, sS]
   refine wpAnyH_done (by kernel_rfl) ?_ _
   go_wp2_with fail
   go_meet
   exact ⟨_, _, _, _, rfl, rfl, X0, X1, X2, HN, hn, hO, bw⟩
 case rest =>
 obtain ⟨XA, al, nl, cl, rfl, rfl, A0, A1, A2, HNl, hnl, hOl, bR⟩ := hcut
 have lA : Hid (_ ≤ _) := bA.size
 replace hOl := hOl.low lA.out
 revert z0 f0 z1 f1 z2 f2 z3 f3 z4 f4 z5 f5; refine zf6 bR ?_; intro z0 f0 z1 f1 z2 f2 z3 f3 z4 f4 z5 f5
 revert c0 c1 c2 c3 c4 c5; refine cc6 bR ?_; intro c0 c1 c2 c3 c4 c5
 replace hI := IsW.keep hI bR
 replace hJ := IsW.keep hJ bR
 replace hT0 := hT0.kept bR
 replace bA := nT bA bR
 clear bR lA HE1 HC1
 by_cases q1 : el ≠ 0
 ·have q2 : el = 3 := n1.resolve_left q1
  subst q2
  have e1 : EE = 3 := by rw [HA.out, if_pos (by decide)]
  have KK : Hid (EE = 3 ∧ LL = (false, 0, 0) ∧ HH = (false, 0, 0)) := ⟨e1, by rw [HAL.out, e1]; rfl, by rw [HAH.out, e1]; rfl⟩
  clear HA HAL HAH e1 n1 n2 q1 HE2 HC2
  go_wp2_with fail
  exact bodyPost_ret (v := .tuple #[zIvI, .int .i64 3]) (by simp [results, Tryz.results66, go_sem, zIvI, z0, z1, z2, z3, z4, z5]) rfl (nil_ow KK.out (by repeat (first | (with_reducible exact bA) | (with_reducible refine Below.setCell ?_ (by simp) _))))
 replace q1 : el = 0 := Decidable.of_not_not q1
 subst q1
 go_upto_region 4 with fail
 go_cut [8, 7] from 22 to 30 (fun va vb wx => ∃ (X : Nat) (ao : Option Addr) (n c : Nat), va = .pointer (some ⟨X, 0, none⟩) ∧ vb = .int .i64 eh ∧ wx.cell? ⟨X, 0, none⟩ = some (.bool PH.1) ∧ wx.cell? ⟨X, 1, none⟩ = some (.slice ao n c) ∧ wx.cell? ⟨X, 2, none⟩ = some (.int .i64 PH.2.2) ∧ Hid (n = (wO PH.2.1).length) ∧ n ≤ 1024 ∧ OwnW wc.heap.size wx ao n c (wO PH.2.1) ∧ Below wc.heap.size wc wx)
 case first =>
  have bw : Below wc.heap.size wc wc.drew := (Below.refl _ _).drew
  refine wp_region_held (S := fun w' => Below wc.heap.size wc w') (by kernel_rfl) ?_
  change wpAnyH _ _ _ _ _ _ _ _ (World.drew wc)
  generalize World.drew wc = wd at bw ⊢
  refine tk 2 (.pointer (some ⟨w.heap.size, 3, none⟩)) rfl (by kernel_rfl) (fun _ _ _ h => h) (by rfl) ?y15 bw ?r15
  case y15 => (intro ww hS; clear hS; go_simp; first | done | with_reducible rfl | kernel_rfl | rfl)
  try simp only [Act.put, sA]
  refine tk 3 (dyV s' a' len' cap' e') rfl (by kernel_rfl) (fun _ _ _ h => h) (by rfl) ?y16 bw ?r16
  case y16 => (intro ww hS; have qc3 := kC hS c3; have qc4 := kC hS c4; have qc5 := kC hS c5; clear hS; go_simp; first | done | with_reducible rfl | kernel_rfl | rfl)
  try simp only [Act.put]
  refine tk 4 (.int .i64 pp) rfl (by kernel_rfl) (fun _ _ _ h => h) (by rfl) ?y17 bw ?r17
  case y17 => (intro ww hS; clear hS; go_simp; first | done | with_reducible rfl | kernel_rfl | rfl)
  try simp only [Act.put]
  refine rd2 0 9 (by kernel_rfl) rfl rfl (fun K hK => ?_) fun K hK => ?_
  ·go_simp
   refine cM (HE2.out _) ?_
   rintro r v15 ⟨rfl, bN⟩
   refine hK.out _ _ (nT bw bN) (fun _ => ?_)
   clear hK K
   replace bw := nT bw bN
   clear bN
   try simp only [Act.put, sA, sZ, sS]
   refine tk 1 (.func (.func 121) #[] #[]) rfl (by kernel_rfl) (fun _ _ _ h => h) (by rfl) ?y18 bw ?r18
   case y18 => (intro ww hS; clear hS; go_simp; first | done | with_reducible rfl | kernel_rfl | rfl)
   try simp only [Act.put]
   refine rd2 5 9 (by kernel_rfl) rfl rfl (fun K hK => ?_) fun K hK => ?_
   ·go_simp
    refine cM (HC2.out _ (IsW.keep hJ bw) (hT0.kept bw)) ?_
    rintro r v16 ⟨_, rfl, ⟨ao, n, c, rfl, HN, hn, hO0⟩, bN⟩
    refine hK.out _ _ (nT bw bN) (fun _ => ?_)
    clear hK K
    have hO := hO0.low (B' := wc.heap.size) bw.size
    clear hO0
    replace bw := nT bw bN
    clear bN
    try simp only [Act.put, sA, sZ, sS]
    refine tk 6 (.tuple #[dyV PH.1 ao n c PH.2.2, .int .i64 eh]) rfl (by kernel_rfl) (fun _ _ _ h => h) (by rfl) ?y19 bw ?r19
    case y19 => (intro ww hS; clear hS; go_simp; first | done | with_reducible rfl | kernel_rfl | rfl)
    try simp only [Act.put]
    refine tk 7 (dyV PH.1 ao n c PH.2.2) rfl (by kernel_rfl) (fun _ _ _ h => h) (by rfl) ?y20 bw ?r20
    case y20 => (intro ww hS; clear hS; go_simp; first | done | with_reducible rfl | kernel_rfl | rfl)
    try simp only [Act.put]
    refine tk 8 (.int .i64 eh) rfl (by kernel_rfl) (fun _ _ _ h => h) (by rfl) ?y21 bw ?r21
    case y21 => (intro ww hS; clear hS; go_simp; first | done | with_reducible rfl | kernel_rfl | rfl)
    try simp only [Act.put]
    refine rd1 9 (by kernel_rfl) rfl fun K hK => ?_
    go_simp
    refine hK.out _ _ (bl_allocI bw _) (fun _ => ?_)
    clear hK K
    have bN := below_one v16 (.cells #[.bool false, .slice none 0 0, .int .i64 0] 25)
    replace hO := hO.keep bN
    obtain ⟨X0, X1, X2, X3, X4, X5⟩ := zero_dy (w := v16) (r := v16.heap.size) (W' := v16.alloc (.cells #[.bool false, .slice none 0 0, .int .i64 0] 25)) (Below.refl _ _) rfl
    have XL : wc.heap.size ≤ v16.heap.size := bw.size
    replace bw := bl_allocI bw (.cells #[.bool false, .slice none 0 0, .int .i64 0] 25)
    clear bN
    try simp only [Act.put, sA, sZ, sS]
    generalize v16.alloc (.cells #[.bool false, .slice none 0 0, .int .i64 0] 25) = v17 at *
    refine rd1 10 (by kernel_rfl) rfl fun K hK => ?_
    go_simp
    have bS : Below wc.heap.size wc (((v17.setCell ⟨v16.heap.size, 0, none⟩ (.bool PH.1)).setCell ⟨v16.heap.size, 1, none⟩ (.slice ao n c)).setCell ⟨v16.heap.size, 2, none⟩ (.int .i64 PH.2.2)) := ((bw.setCell XL _).setCell XL _).setCell XL _
    refine hK.out _ _ bS (fun _ => ?_)
    clear hK K
    replace hO := hO.set_dyI _ _ _ _ _ _ (.bool PH.1) (.slice ao n c) (.int .i64 PH.2.2) X0 X1 X2
    obtain ⟨Z0, Z1, Z2⟩ := set3_sameI (r := v16.heap.size) (v0 := .bool PH.1) (v1 := .slice ao n c) (v2 := .int .i64 PH.2.2) X0 X1 X2
    clear X0 X1 X2 X3 X4 X5 bw
    try simp only [Act.put, sA, sZ, sS]
    generalize (((v17.setCell ⟨v16.heap.size, 0, none⟩ (.bool PH.1)).setCell ⟨v16.heap.size, 1, none⟩ (.slice ao n c)).setCell ⟨v16.heap.size, 2, none⟩ (.int .i64 PH.2.2)) = v18 at *
    have X0 := Z0
    have X1 := Z1
    have X2 := Z2
    have bw := bS
    clear Z0 Z1 Z2 bS
    refine rd1 11 (by kernel_rfl) rfl fun K hK => ?_
    go_simp
    refine hK.out _ _ bw (fun _ => ?_)
    clear hK K
    try simp only [Act.put, sA, sZ, sS]
    refine wpAnyH_done (by kernel_rfl) ?_ _
    go_wp2_with fail
    go_meet
    exact ⟨_, _, _, _, rfl, rfl, X0, X1, X2, HN, hn, hO, bw⟩
   ·go_simp
    refine hK.out _ _ (bl_allocI bw _) (fun _ => ?_)
    clear hK K
    have bN := below_one v15 (.cells #[.bool false, .slice none 0 0, .int .i64 0] 25)
    obtain ⟨X0, X1, X2, X3, X4, X5⟩ := zero_dy (w := v15) (r := v15.heap.size) (W' := v15.alloc (.cells #[.bool false, .slice none 0 0, .int .i64 0] 25)) (Below.refl _ _) rfl
    have XL : wc.heap.size ≤ v15.heap.size := bw.size
    replace bw := bl_allocI bw (.cells #[.bool false, .slice none 0 0, .int .i64 0] 25)
    clear bN
    try simp only [Act.put, sA, sZ, sS]
    generalize v15.alloc (.cells #[.bool false, .slice none 0 0, .int .i64 0] 25) = v20 at *
    refine rd1 5 (by kernel_rfl) rfl fun K hK => ?_
    go_simp
    refine cM (HC2.out _ (IsW.keep hJ bw) (hT0.kept bw)) ?_
    rintro r v21 ⟨_, rfl, ⟨ao, n, c, rfl, HN, hn, hO0⟩, bN⟩
    refine hK.out _ _ (nT bw bN) (fun _ => ?_)
    clear hK K
    have hO := hO0.low (B' := wc.heap.size) bw.size
    clear hO0
    revert X0 X1 X2 X3 X4 X5; refine zg3 bN ?_; intro X0 X1 X2 X3 X4 X5
    replace bw := nT bw bN
    clear bN
    try simp only [Act.put, sA, sZ, sS]
    refine tk 6 (.tuple #[dyV PH.1 ao n c PH.2.2, .int .i64 eh]) rfl (by kernel_rfl) (fun _ _ _ h => h) (by rfl) ?y22 bw ?r22
    case y22 => (intro ww hS; clear hS; go_simp; first | done | with_reducible rfl | kernel_rfl | rfl)
    try simp only [Act.put]
    refine tk 7 (dyV PH.1 ao n c PH.2.2) rfl (by kernel_rfl) (fun _ _ _ h => h) (by rfl) ?y23 bw ?r23
    case y23 => (intro ww hS; clear hS; go_simp; first | done | with_reducible rfl | kernel_rfl | rfl)
    try simp only [Act.put]
    refine tk 8 (.int .i64 eh) rfl (by kernel_rfl) (fun _ _ _ h => h) (by rfl) ?y24 bw ?r24
    case y24 => (intro ww hS; clear hS; go_simp; first | done | with_reducible rfl | kernel_rfl | rfl)
    try simp only [Act.put]
    refine rd1 10 (by kernel_rfl) rfl fun K hK => ?_
    go_simp
    have bS : Below wc.heap.size wc (((v21.setCell ⟨v15.heap.size, 0, none⟩ (.bool PH.1)).setCell ⟨v15.heap.size, 1, none⟩ (.slice ao n c)).setCell ⟨v15.heap.size, 2, none⟩ (.int .i64 PH.2.2)) := ((bw.setCell XL _).setCell XL _).setCell XL _
    refine hK.out _ _ bS (fun _ => ?_)
    clear hK K
    replace hO := hO.set_dyI _ _ _ _ _ _ (.bool PH.1) (.slice ao n c) (.int .i64 PH.2.2) X0 X1 X2
    obtain ⟨Z0, Z1, Z2⟩ := set3_sameI (r := v15.heap.size) (v0 := .bool PH.1) (v1 := .slice ao n c) (v2 := .int .i64 PH.2.2) X0 X1 X2
    clear X0 X1 X2 X3 X4 X5 bw
    try simp only [Act.put, sA, sZ, sS]
    generalize (((v21.setCell ⟨v15.heap.size, 0, none⟩ (.bool PH.1)).setCell ⟨v15.heap.size, 1, none⟩ (.slice ao n c)).setCell ⟨v15.heap.size, 2, none⟩ (.int .i64 PH.2.2)) = v22 at *
    have X0 := Z0
    have X1 := Z1
    have X2 := Z2
    have bw := bS
    clear Z0 Z1 Z2 bS
    refine rd1 11 (by kernel_rfl) rfl fun K hK => ?_
    go_simp
    refine hK.out _ _ bw (fun _ => ?_)
    clear hK K
    try simp only [Act.put, sA, sZ, sS]
    refine wpAnyH_done (by kernel_rfl) ?_ _
    go_wp2_with fail
    go_meet
    exact ⟨_, _, _, _, rfl, rfl, X0, X1, X2, HN, hn, hO, bw⟩
  ·go_simp
   refine hK.out _ _ (bl_allocI bw _) (fun _ => ?_)
   clear hK K
   have bN := below_one wd (.cells #[.bool false, .slice none 0 0, .int .i64 0] 25)
   obtain ⟨X0, X1, X2, X3, X4, X5⟩ := zero_dy (w := wd) (r := wd.heap.size) (W' := wd.alloc (.cells #[.bool false, .slice none 0 0, .int .i64 0] 25)) (Below.refl _ _) rfl
   have XL : wc.heap.size ≤ wd.heap.size := bw.size
   replace bw := bl_allocI bw (.cells #[.bool false, .slice none 0 0, .int .i64 0] 25)
   clear bN
   try simp only [Act.put, sA, sZ, sS]
   generalize wd.alloc (.cells #[.bool false, .slice none 0 0, .int .i64 0] 25) = v24 at *
   refine rd1 0 (by kernel_rfl) rfl fun K hK => ?_
   go_simp
   refine cM (HE2.out _) ?_
   rintro r v25 ⟨rfl, bN⟩
   refine hK.out _ _ (nT bw bN) (fun _ => ?_)
   clear hK K
   revert X0 X1 X2 X3 X4 X5; refine zg3 bN ?_; intro X0 X1 X2 X3 X4 X5
   replace bw := nT bw bN
   clear bN
   try simp only [Act.put, sA, sZ, sS]
   refine tk 1 (.func (.func 121) #[] #[]) rfl (by kernel_rfl) (fun _ _ _ h => h) (by rfl) ?y25 bw ?r25
   case y25 => (intro ww hS; clear hS; go_simp; first | done | with_reducible rfl | kernel_rfl | rfl)
   try simp only [Act.put]
   refine rd1 5 (by kernel_rfl) rfl fun K hK => ?_
   go_simp
   refine cM (HC2.out _ (IsW.keep hJ bw) (hT0.kept bw)) ?_
   rintro r v26 ⟨_, rfl, ⟨ao, n, c, rfl, HN, hn, hO0⟩, bN⟩
   refine hK.out _ _ (nT bw bN) (fun _ => ?_)
   clear hK K
   have hO := hO0.low (B' := wc.heap.size) bw.size
   clear hO0
   revert X0 X1 X2 X3 X4 X5; refine zg3 bN ?_; intro X0 X1 X2 X3 X4 X5
   replace bw := nT bw bN
   clear bN
   try simp only [Act.put, sA, sZ, sS]
   refine tk 6 (.tuple #[dyV PH.1 ao n c PH.2.2, .int .i64 eh]) rfl (by kernel_rfl) (fun _ _ _ h => h) (by rfl) ?y26 bw ?r26
   case y26 => (intro ww hS; clear hS; go_simp; first | done | with_reducible rfl | kernel_rfl | rfl)
   try simp only [Act.put]
   refine tk 7 (dyV PH.1 ao n c PH.2.2) rfl (by kernel_rfl) (fun _ _ _ h => h) (by rfl) ?y27 bw ?r27
   case y27 => (intro ww hS; clear hS; go_simp; first | done | with_reducible rfl | kernel_rfl | rfl)
   try simp only [Act.put]
   refine tk 8 (.int .i64 eh) rfl (by kernel_rfl) (fun _ _ _ h => h) (by rfl) ?y28 bw ?r28
   case y28 => (intro ww hS; clear hS; go_simp; first | done | with_reducible rfl | kernel_rfl | rfl)
   try simp only [Act.put]
   refine rd1 10 (by kernel_rfl) rfl fun K hK => ?_
   go_simp
   have bS : Below wc.heap.size wc (((v26.setCell ⟨wd.heap.size, 0, none⟩ (.bool PH.1)).setCell ⟨wd.heap.size, 1, none⟩ (.slice ao n c)).setCell ⟨wd.heap.size, 2, none⟩ (.int .i64 PH.2.2)) := ((bw.setCell XL _).setCell XL _).setCell XL _
   refine hK.out _ _ bS (fun _ => ?_)
   clear hK K
   replace hO := hO.set_dyI _ _ _ _ _ _ (.bool PH.1) (.slice ao n c) (.int .i64 PH.2.2) X0 X1 X2
   obtain ⟨Z0, Z1, Z2⟩ := set3_sameI (r := wd.heap.size) (v0 := .bool PH.1) (v1 := .slice ao n c) (v2 := .int .i64 PH.2.2) X0 X1 X2
   clear X0 X1 X2 X3 X4 X5 bw
   try simp only [Act.put, sA, sZ, sS]
   generalize (((v26.setCell ⟨wd.heap.size, 0, none⟩ (.bool PH.1)).setCell ⟨wd.heap.size, 1, none⟩ (.slice ao n c)).setCell ⟨wd.heap.size, 2, none⟩ (.int .i64 PH.2.2)) = v27 at *
   have X0 := Z0
   have X1 := Z1
   have X2 := Z2
   have bw := bS
   clear Z0 Z1 Z2 bS
   refine rd1 11 (by kernel_rfl) rfl fun K hK => ?_
   go_simp
   refine hK.out _ _ bw (fun _ => ?_)
   clear hK K
   try simp only [Act.put, sA, sZ, sS]
   refine wpAnyH_done (by kernel_rfl) ?_ _
   go_wp2_with fail
   go_meet
   exact ⟨_, _, _, _, rfl, rfl, X0, X1, X2, HN, hn, hO, bw⟩
 case rest =>
 obtain ⟨XB, ah, nh, ch, rfl, rfl, B0, B1, B2, HNh, hnh, hOh, bR⟩ := hcut
 have lA : Hid (_ ≤ _) := bA.size
 replace hOh := hOh.low lA.out
 revert z0 f0 z1 f1 z2 f2 z3 f3 z4 f4 z5 f5; refine zf6 bR ?_; intro z0 f0 z1 f1 z2 f2 z3 f3 z4 f4 z5 f5
 replace A0 := kC bR A0
 replace A1 := kC bR A1
 replace A2 := kC bR A2
 replace c0 := kC bR c0
 replace c1 := kC bR c1
 replace c2 := kC bR c2
 revert c3 c4 c5; refine cc3 bR ?_; intro c3 c4 c5
 replace hOl := hOl.keep bR
 replace hI := IsW.keep hI bR
 replace hJ := IsW.keep hJ bR
 replace hT0 := hT0.kept bR
 replace bA := nT bA bR
 clear bR lA HE2 HC2
 by_cases q1 : eh ≠ 0
 ·have q2 : eh = 3 := n2.resolve_left q1
  subst q2
  have e1 : EE = 3 := by rw [HA.out, if_neg (by decide)]
  have KK : Hid (EE = 3 ∧ LL = (false, 0, 0) ∧ HH = (false, 0, 0)) := ⟨e1, by rw [HAL.out, e1]; rfl, by rw [HAH.out, e1]; rfl⟩
  clear HA HAL HAH e1 n1 n2 q1
  go_wp2_with fail
  exact bodyPost_ret (v := .tuple #[zIvI, .int .i64 3]) (by simp [results, Tryz.results66, go_sem, zIvI, z0, z1, z2, z3, z4, z5]) rfl (nil_ow KK.out (by repeat (first | (with_reducible exact bA) | (with_reducible refine Below.setCell ?_ (by simp) _))))
 replace q1 : eh = 0 := Decidable.of_not_not q1
 subst q1
 have e1 : EE = 0 := by rw [HA.out, if_neg (by decide)]
 have KK : Hid (EE = 0 ∧ LL = PL ∧ HH = PH) := ⟨e1, by rw [HAL.out, if_pos e1], by rw [HAH.out, if_pos e1]⟩
 clear HA HAL HAH e1 n1 n2
 go_wp2_with fail
 have s6 := six_ofI z0 z1 z2 z3 z4 z5 (fun _ q => by cases q) (fun _ q => by cases q) (fun _ q => by cases q) (fun _ q => by cases q) (fun _ q => by cases q) (fun _ q => by cases q)
 exact bodyPost_ret (v := .tuple #[ivI PL.1 al nl cl PL.2.2 PH.1 ah nh ch PH.2.2, .int .i64 0]) (by simp [results, Tryz.results66, go_sem, z0, z1, z2, z3, z4, z5]) rfl ⟨al, nl, cl, ah, nh, ch, by rw [KK.out.1, KK.out.2.1, KK.out.2.2], hnl, hnh, by rw [KK.out.2.1]; exact ownW_sixI hOl s6 _ _ _ _ _ _, by rw [KK.out.2.2]; exact ownW_sixI hOh s6 _ _ _ _ _ _, by repeat (first | (with_reducible exact bA) | (with_reducible refine Below.setCell ?_ (by simp) _))⟩
end Go.Proofs.YtahpdcbmekgkfaaGreatDoor

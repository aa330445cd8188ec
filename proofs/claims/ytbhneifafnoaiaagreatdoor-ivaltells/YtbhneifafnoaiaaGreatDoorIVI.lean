/- Package ival: each end of the one with each end of the other, divided; between the outmost two lies all. -/
import Derived.Test.YtbhneifafnoaiaaGreatDoorCR2
import Derived.Test.YtbhneifafnoaiaaGreatDoorCR
import Derived.Test.YtbhneifafnoaiaaGreatDoorAL
import Derived.Test.YtbhneifafnoaiaaGreatDoorIVH
import Derived.Test.YtbhneifafnoaiaaGreatDoorIVR
import Derived.Test.YtbhneifafnoaiaaGreatDoorIVGU
import Derived.Test.YtbhneifafnoaiaaGreatDoorFX
namespace Go.Proofs.YtbhneifafnoaiaaGreatDoor
open Go.RowKit
theorem cell_six6 {W : World} {b o r : Nat} {x : Value} (h : W.cell? ⟨b, o, none⟩ = some x) (ne : r ≠ b) (u0 u1 u2 u3 u4 u5 : Value) : ((((((W.setCell ⟨r, 0, none⟩ u0).setCell ⟨r, 1, none⟩ u1).setCell ⟨r, 2, none⟩ u2).setCell ⟨r, 3, none⟩ u3).setCell ⟨r, 4, none⟩ u4).setCell ⟨r, 5, none⟩ u5).cell? ⟨b, o, none⟩ = some x := by
 have key : ∀ (V : World) (k : Nat) (u : Value), V.cell? ⟨b, o, none⟩ = some x → (V.setCell ⟨r, k, none⟩ u).cell? ⟨b, o, none⟩ = some x := fun V k u q =>
  (World.cell?_setCell_other V _ _ _ (fun e => by have := congrArg Addr.block e; simp at this; omega)).trans q
 exact key _ _ _ (key _ _ _ (key _ _ _ (key _ _ _ (key _ _ _ (key _ _ _ h)))))
theorem mkA_blen (Q : Nat) (more : Bool) (K : Nat) (hK : 1 ≤ K) (h : blen Q ≤ K) : blen (mkA Q more) ≤ K := by
 have h2 := (blen_le _ _).1 h
 obtain ⟨k, rfl⟩ : ∃ k, K = k + 1 := ⟨K - 1, by omega⟩
 refine (blen_le _ _).2 ?_
 rw [Nat.pow_succ] at *
 unfold mkA
 split <;> omega
theorem quP_ok {w : World} {x y : DT} {p : Nat} (hx : okT w x) (hy : okT w y) (hy0 : val y.2.2.2.2.1 ≠ 0) (hp : 1 ≤ p ∧ p ≤ 8192) (ex : -40000 ≤ x.2.2.2.2.2 ∧ x.2.2.2.2.2 ≤ 40000) (ey : -40000 ≤ y.2.2.2.2.2 ∧ y.2.2.2.2.2 ≤ 40000) :
  greatB (quP x y p).2.1 = false ∧ -100000000 ≤ (quP x y p).2.2 ∧ (quP x y p).2.2 ≤ 100000000 := by
 unfold quP
 by_cases z : val x.2.2.2.2.1 = 0
 ·rw [if_pos z]; exact ⟨great_zero, by decide, by decide⟩
 ·rw [if_neg z]
  have a1 := (great_not _).1 hx.2.2.1
  have a2 := (great_not _).1 hy.2.2.1
  have hb := (quo_bits (val x.2.2.2.2.1) (val y.2.2.2.2.1) p z hy0).2
  have hw : quW (val x.2.2.2.2.1) (val y.2.2.2.2.1) p ≤ 1200 := by unfold quW; omega
  refine ⟨?_, ?_, ?_⟩
  ·rw [great_not]
   exact mkA_blen _ _ _ (by decide) (by omega)
  ·show _ ≤ x.2.2.2.2.2 - y.2.2.2.2.2 - 64 * (quW _ _ _ : Int)
   omega
  ·show x.2.2.2.2.2 - y.2.2.2.2.2 - 64 * (quW _ _ _ : Int) ≤ _
   omega
abbrev mT (P : Bool × Nat × Int) (a : Option Addr) (n c : Nat) : DT := (P.1, a, n, c, wO P.2.1, P.2.2)
def OwP (B : Nat) (w : World) (P : Bool × Nat × Int) (a : Option Addr) (n c : Nat) : Prop := n ≤ 1024 ∧ OwnW B w a n c (wO P.2.1)
def pkP (lo : Bool) (m d : Bool × Nat × Int) : Bool × Nat × Int := if (lo = true ∧ cmpD (formD d.1 d.2.1 d.2.2) (formD m.1 m.2.1 m.2.2) < 0) ∨ (lo = false ∧ 0 < cmpD (formD d.1 d.2.1 d.2.2) (formD m.1 m.2.1 m.2.2)) then d else m
def pk4 (lo : Bool) (a b c d : Bool × Nat × Int) : Bool × Nat × Int := pkP lo (pkP lo (pkP lo a b) c) d
theorem pk_own {lo : Bool} {B : Nat} {w : World} {P Q : Bool × Nat × Int} {a : Option Addr} {n c : Nat} {a' : Option Addr} {n' c' : Nat} (h : OwP B w P a n c) (h' : OwP B w Q a' n' c') :
  ∃ b m d, pkT lo (mT P a n c) (mT Q a' n' c') = mT (pkP lo P Q) b m d ∧ OwP B w (pkP lo P Q) b m d := by
 unfold pkT pkP tT
 simp only [val_words]
 split
 ·exact ⟨a', n', c', rfl, h'⟩
 ·exact ⟨a, n, c, rfl, h⟩
theorem pk4_own {lo : Bool} {B : Nat} {w : World} {P Q R S : Bool × Nat × Int} {a0 a1 a2 a3 : Option Addr} {n0 c0 n1 c1 n2 c2 n3 c3 : Nat} (h0 : OwP B w P a0 n0 c0) (h1 : OwP B w Q a1 n1 c1) (h2 : OwP B w R a2 n2 c2) (h3 : OwP B w S a3 n3 c3) :
  ∃ b m d, pkT lo (pkT lo (pkT lo (mT P a0 n0 c0) (mT Q a1 n1 c1)) (mT R a2 n2 c2)) (mT S a3 n3 c3) = mT (pk4 lo P Q R S) b m d ∧ OwP B w (pk4 lo P Q R S) b m d := by
 obtain ⟨b, m, d, e, o⟩ := pk_own (lo := lo) h0 h1
 rw [e]
 obtain ⟨b, m, d, e, o⟩ := pk_own (lo := lo) o h2
 rw [e]
 exact pk_own o h3
theorem OwP.keep {B : Nat} {w w' : World} {P : Bool × Nat × Int} {a : Option Addr} {n c : Nat} (h : OwP B w P a n c) (b : Below w.heap.size w w') : OwP B w' P a n c := ⟨h.1, h.2.keep b⟩
theorem OwP.ok {B : Nat} {w : World} {P : Bool × Nat × Int} {a : Option Addr} {n c : Nat} (h : OwP B w P a n c) (g : greatB P.2.1 = false ∧ -100000000 ≤ P.2.2 ∧ P.2.2 ≤ 100000000) : okT w (mT P a n c) := ⟨h.2.1, by have := h.1; show n ≤ _; omega, by show greatB (val (wO P.2.1)) = false; rw [val_words]; exact g.1, g.2⟩
set_option maxRecDepth 100000 in
set_option maxHeartbeats 16000000 in
theorem crossQ_calls (x y u v : DT) (p : Nat) (X : Nat) (w : World) (hx : okT w x) (hy : okT w y) (hu : okT w u) (hv : okT w v) (u0 : val u.2.2.2.2.1 ≠ 0) (v0 : val v.2.2.2.2.1 ≠ 0) (hp : 1 ≤ p ∧ p ≤ 8192) (ex : -40000 ≤ x.2.2.2.2.2 ∧ x.2.2.2.2.2 ≤ 40000) (ey : -40000 ≤ y.2.2.2.2.2 ∧ y.2.2.2.2.2 ≤ 40000) (eu : -40000 ≤ u.2.2.2.2.2 ∧ u.2.2.2.2.2 ≤ 40000) (ev : -40000 ≤ v.2.2.2.2.2 ∧ v.2.2.2.2.2 ≤ 40000) (cq : w.cell? ⟨X, 0, none⟩ = some (.func (.func 64) #[] #[])) (hT : Tab w) :
  Calls Tryz.prog 87 #[ivT x y, ivT u v, .int .i64 (p : Int), .pointer (some ⟨X, 0, none⟩)] w fun r w' => ∃ al nl cl ah nh ch, r = .returned (.tuple #[ivT (mT (pk4 true (quP x u p) (quP x v p) (quP y u p) (quP y v p)) al nl cl) (mT (pk4 false (quP x u p) (quP x v p) (quP y u p) (quP y v p)) ah nh ch), .int .i64 0]) ∧ OwP w.heap.size w' (pk4 true (quP x u p) (quP x v p) (quP y u p) (quP y v p)) al nl cl ∧ OwP w.heap.size w' (pk4 false (quP x u p) (quP x v p) (quP y u p) (quP y v p)) ah nh ch ∧ Below w.heap.size w w' := by
 have bA : Below w.heap.size w (((w.alloc (.cells #[.bool x.1, .slice x.2.1 x.2.2.1 x.2.2.2.1, .int .i64 x.2.2.2.2.2, .bool y.1, .slice y.2.1 y.2.2.1 y.2.2.2.1, .int .i64 y.2.2.2.2.2] 27)).alloc (.cells #[.bool u.1, .slice u.2.1 u.2.2.1 u.2.2.2.1, .int .i64 u.2.2.2.2.2, .bool v.1, .slice v.2.1 v.2.2.1 v.2.2.2.1, .int .i64 v.2.2.2.2.2] 27)).alloc (.cells #[.bool false, .slice none 0 0, .int .i64 0, .bool false, .slice none 0 0, .int .i64 0] 27)) := nT (nT (below_one _ _) (below_one _ _)) (below_one _ _)
 have H0 : Hid _ := fun w' (q : okT w' x) (q' : okT w' u) => quotient_calls x u p w' q q' u0 hp
 have B0 : Hid (greatB (quP x u p).2.1 = false ∧ -100000000 ≤ (quP x u p).2.2 ∧ (quP x u p).2.2 ≤ 100000000) := quP_ok hx hu u0 hp ex eu
 have H1 : Hid _ := fun w' (q : okT w' x) (q' : okT w' v) => quotient_calls x v p w' q q' v0 hp
 have B1 : Hid (greatB (quP x v p).2.1 = false ∧ -100000000 ≤ (quP x v p).2.2 ∧ (quP x v p).2.2 ≤ 100000000) := quP_ok hx hv v0 hp ex ev
 have H2 : Hid _ := fun w' (q : okT w' y) (q' : okT w' u) => quotient_calls y u p w' q q' u0 hp
 have B2 : Hid (greatB (quP y u p).2.1 = false ∧ -100000000 ≤ (quP y u p).2.2 ∧ (quP y u p).2.2 ≤ 100000000) := quP_ok hy hu u0 hp ey eu
 have H3 : Hid _ := fun w' (q : okT w' y) (q' : okT w' v) => quotient_calls y v p w' q q' v0 hp
 have B3 : Hid (greatB (quP y v p).2.1 = false ∧ -100000000 ≤ (quP y v p).2.2 ∧ (quP y v p).2.2 ≤ 100000000) := quP_ok hy hv v0 hp ey ev
 generalize hq0 : quP x u p = P0 at *
 generalize hq1 : quP x v p = P1 at *
 generalize hq2 : quP y u p = P2 at *
 generalize hq3 : quP y v p = P3 at *
 have jx := okT.keep hx bA
 have jy := okT.keep hy bA
 have ju := okT.keep hu bA
 have jv := okT.keep hv bA
 have tt := hT.kept bA
 have k0 : (((w.alloc (.cells #[.bool x.1, .slice x.2.1 x.2.2.1 x.2.2.2.1, .int .i64 x.2.2.2.2.2, .bool y.1, .slice y.2.1 y.2.2.1 y.2.2.2.1, .int .i64 y.2.2.2.2.2] 27)).alloc (.cells #[.bool u.1, .slice u.2.1 u.2.2.1 u.2.2.2.1, .int .i64 u.2.2.2.2.2, .bool v.1, .slice v.2.1 v.2.2.1 v.2.2.2.1, .int .i64 v.2.2.2.2.2] 27)).alloc (.cells #[.bool false, .slice none 0 0, .int .i64 0, .bool false, .slice none 0 0, .int .i64 0] 27)).cell? ⟨w.heap.size, 0, none⟩ = some (.bool x.1) := by go_simp
 have k1 : (((w.alloc (.cells #[.bool x.1, .slice x.2.1 x.2.2.1 x.2.2.2.1, .int .i64 x.2.2.2.2.2, .bool y.1, .slice y.2.1 y.2.2.1 y.2.2.2.1, .int .i64 y.2.2.2.2.2] 27)).alloc (.cells #[.bool u.1, .slice u.2.1 u.2.2.1 u.2.2.2.1, .int .i64 u.2.2.2.2.2, .bool v.1, .slice v.2.1 v.2.2.1 v.2.2.2.1, .int .i64 v.2.2.2.2.2] 27)).alloc (.cells #[.bool false, .slice none 0 0, .int .i64 0, .bool false, .slice none 0 0, .int .i64 0] 27)).cell? ⟨w.heap.size, 1, none⟩ = some (.slice x.2.1 x.2.2.1 x.2.2.2.1) := by go_simp
 have k2 : (((w.alloc (.cells #[.bool x.1, .slice x.2.1 x.2.2.1 x.2.2.2.1, .int .i64 x.2.2.2.2.2, .bool y.1, .slice y.2.1 y.2.2.1 y.2.2.2.1, .int .i64 y.2.2.2.2.2] 27)).alloc (.cells #[.bool u.1, .slice u.2.1 u.2.2.1 u.2.2.2.1, .int .i64 u.2.2.2.2.2, .bool v.1, .slice v.2.1 v.2.2.1 v.2.2.2.1, .int .i64 v.2.2.2.2.2] 27)).alloc (.cells #[.bool false, .slice none 0 0, .int .i64 0, .bool false, .slice none 0 0, .int .i64 0] 27)).cell? ⟨w.heap.size, 2, none⟩ = some (.int .i64 x.2.2.2.2.2) := by go_simp
 have k3 : (((w.alloc (.cells #[.bool x.1, .slice x.2.1 x.2.2.1 x.2.2.2.1, .int .i64 x.2.2.2.2.2, .bool y.1, .slice y.2.1 y.2.2.1 y.2.2.2.1, .int .i64 y.2.2.2.2.2] 27)).alloc (.cells #[.bool u.1, .slice u.2.1 u.2.2.1 u.2.2.2.1, .int .i64 u.2.2.2.2.2, .bool v.1, .slice v.2.1 v.2.2.1 v.2.2.2.1, .int .i64 v.2.2.2.2.2] 27)).alloc (.cells #[.bool false, .slice none 0 0, .int .i64 0, .bool false, .slice none 0 0, .int .i64 0] 27)).cell? ⟨w.heap.size, 3, none⟩ = some (.bool y.1) := by go_simp
 have k4 : (((w.alloc (.cells #[.bool x.1, .slice x.2.1 x.2.2.1 x.2.2.2.1, .int .i64 x.2.2.2.2.2, .bool y.1, .slice y.2.1 y.2.2.1 y.2.2.2.1, .int .i64 y.2.2.2.2.2] 27)).alloc (.cells #[.bool u.1, .slice u.2.1 u.2.2.1 u.2.2.2.1, .int .i64 u.2.2.2.2.2, .bool v.1, .slice v.2.1 v.2.2.1 v.2.2.2.1, .int .i64 v.2.2.2.2.2] 27)).alloc (.cells #[.bool false, .slice none 0 0, .int .i64 0, .bool false, .slice none 0 0, .int .i64 0] 27)).cell? ⟨w.heap.size, 4, none⟩ = some (.slice y.2.1 y.2.2.1 y.2.2.2.1) := by go_simp
 have k5 : (((w.alloc (.cells #[.bool x.1, .slice x.2.1 x.2.2.1 x.2.2.2.1, .int .i64 x.2.2.2.2.2, .bool y.1, .slice y.2.1 y.2.2.1 y.2.2.2.1, .int .i64 y.2.2.2.2.2] 27)).alloc (.cells #[.bool u.1, .slice u.2.1 u.2.2.1 u.2.2.2.1, .int .i64 u.2.2.2.2.2, .bool v.1, .slice v.2.1 v.2.2.1 v.2.2.2.1, .int .i64 v.2.2.2.2.2] 27)).alloc (.cells #[.bool false, .slice none 0 0, .int .i64 0, .bool false, .slice none 0 0, .int .i64 0] 27)).cell? ⟨w.heap.size, 5, none⟩ = some (.int .i64 y.2.2.2.2.2) := by go_simp
 have l0 : (((w.alloc (.cells #[.bool x.1, .slice x.2.1 x.2.2.1 x.2.2.2.1, .int .i64 x.2.2.2.2.2, .bool y.1, .slice y.2.1 y.2.2.1 y.2.2.2.1, .int .i64 y.2.2.2.2.2] 27)).alloc (.cells #[.bool u.1, .slice u.2.1 u.2.2.1 u.2.2.2.1, .int .i64 u.2.2.2.2.2, .bool v.1, .slice v.2.1 v.2.2.1 v.2.2.2.1, .int .i64 v.2.2.2.2.2] 27)).alloc (.cells #[.bool false, .slice none 0 0, .int .i64 0, .bool false, .slice none 0 0, .int .i64 0] 27)).cell? ⟨w.heap.size + 1, 0, none⟩ = some (.bool u.1) := by go_simp
 have l1 : (((w.alloc (.cells #[.bool x.1, .slice x.2.1 x.2.2.1 x.2.2.2.1, .int .i64 x.2.2.2.2.2, .bool y.1, .slice y.2.1 y.2.2.1 y.2.2.2.1, .int .i64 y.2.2.2.2.2] 27)).alloc (.cells #[.bool u.1, .slice u.2.1 u.2.2.1 u.2.2.2.1, .int .i64 u.2.2.2.2.2, .bool v.1, .slice v.2.1 v.2.2.1 v.2.2.2.1, .int .i64 v.2.2.2.2.2] 27)).alloc (.cells #[.bool false, .slice none 0 0, .int .i64 0, .bool false, .slice none 0 0, .int .i64 0] 27)).cell? ⟨w.heap.size + 1, 1, none⟩ = some (.slice u.2.1 u.2.2.1 u.2.2.2.1) := by go_simp
 have l2 : (((w.alloc (.cells #[.bool x.1, .slice x.2.1 x.2.2.1 x.2.2.2.1, .int .i64 x.2.2.2.2.2, .bool y.1, .slice y.2.1 y.2.2.1 y.2.2.2.1, .int .i64 y.2.2.2.2.2] 27)).alloc (.cells #[.bool u.1, .slice u.2.1 u.2.2.1 u.2.2.2.1, .int .i64 u.2.2.2.2.2, .bool v.1, .slice v.2.1 v.2.2.1 v.2.2.2.1, .int .i64 v.2.2.2.2.2] 27)).alloc (.cells #[.bool false, .slice none 0 0, .int .i64 0, .bool false, .slice none 0 0, .int .i64 0] 27)).cell? ⟨w.heap.size + 1, 2, none⟩ = some (.int .i64 u.2.2.2.2.2) := by go_simp
 have l3 : (((w.alloc (.cells #[.bool x.1, .slice x.2.1 x.2.2.1 x.2.2.2.1, .int .i64 x.2.2.2.2.2, .bool y.1, .slice y.2.1 y.2.2.1 y.2.2.2.1, .int .i64 y.2.2.2.2.2] 27)).alloc (.cells #[.bool u.1, .slice u.2.1 u.2.2.1 u.2.2.2.1, .int .i64 u.2.2.2.2.2, .bool v.1, .slice v.2.1 v.2.2.1 v.2.2.2.1, .int .i64 v.2.2.2.2.2] 27)).alloc (.cells #[.bool false, .slice none 0 0, .int .i64 0, .bool false, .slice none 0 0, .int .i64 0] 27)).cell? ⟨w.heap.size + 1, 3, none⟩ = some (.bool v.1) := by go_simp
 have l4 : (((w.alloc (.cells #[.bool x.1, .slice x.2.1 x.2.2.1 x.2.2.2.1, .int .i64 x.2.2.2.2.2, .bool y.1, .slice y.2.1 y.2.2.1 y.2.2.2.1, .int .i64 y.2.2.2.2.2] 27)).alloc (.cells #[.bool u.1, .slice u.2.1 u.2.2.1 u.2.2.2.1, .int .i64 u.2.2.2.2.2, .bool v.1, .slice v.2.1 v.2.2.1 v.2.2.2.1, .int .i64 v.2.2.2.2.2] 27)).alloc (.cells #[.bool false, .slice none 0 0, .int .i64 0, .bool false, .slice none 0 0, .int .i64 0] 27)).cell? ⟨w.heap.size + 1, 4, none⟩ = some (.slice v.2.1 v.2.2.1 v.2.2.2.1) := by go_simp
 have l5 : (((w.alloc (.cells #[.bool x.1, .slice x.2.1 x.2.2.1 x.2.2.2.1, .int .i64 x.2.2.2.2.2, .bool y.1, .slice y.2.1 y.2.2.1 y.2.2.2.1, .int .i64 y.2.2.2.2.2] 27)).alloc (.cells #[.bool u.1, .slice u.2.1 u.2.2.1 u.2.2.2.1, .int .i64 u.2.2.2.2.2, .bool v.1, .slice v.2.1 v.2.2.1 v.2.2.2.1, .int .i64 v.2.2.2.2.2] 27)).alloc (.cells #[.bool false, .slice none 0 0, .int .i64 0, .bool false, .slice none 0 0, .int .i64 0] 27)).cell? ⟨w.heap.size + 1, 5, none⟩ = some (.int .i64 v.2.2.2.2.2) := by go_simp
 have cX := kC bA cq
 obtain ⟨z0, f0, z1, f1, z2, f2, z3, f3, z4, f4, z5, f5⟩ := fX16 w x y u v _ rfl
 have hl0 : w.heap.size + 1 + 1 < (((w.alloc (.cells #[.bool x.1, .slice x.2.1 x.2.2.1 x.2.2.2.1, .int .i64 x.2.2.2.2.2, .bool y.1, .slice y.2.1 y.2.2.1 y.2.2.2.1, .int .i64 y.2.2.2.2.2] 27)).alloc (.cells #[.bool u.1, .slice u.2.1 u.2.2.1 u.2.2.2.1, .int .i64 u.2.2.2.2.2, .bool v.1, .slice v.2.1 v.2.2.1 v.2.2.2.1, .int .i64 v.2.2.2.2.2] 27)).alloc (.cells #[.bool false, .slice none 0 0, .int .i64 0, .bool false, .slice none 0 0, .int .i64 0] 27)).heap.size := by simp
 clear hx hy hu hv hT ex ey eu ev u0 v0 hp hq0 hq1 hq2 hq3
 go_enter Tryz.func87, Tryz.ntmps87
 go_upto_region 1 with fail
 generalize (((w.alloc (.cells #[.bool x.1, .slice x.2.1 x.2.2.1 x.2.2.2.1, .int .i64 x.2.2.2.2.2, .bool y.1, .slice y.2.1 y.2.2.1 y.2.2.2.1, .int .i64 y.2.2.2.2.2] 27)).alloc (.cells #[.bool u.1, .slice u.2.1 u.2.2.1 u.2.2.2.1, .int .i64 u.2.2.2.2.2, .bool v.1, .slice v.2.1 v.2.2.1 v.2.2.2.1, .int .i64 v.2.2.2.2.2] 27)).alloc (.cells #[.bool false, .slice none 0 0, .int .i64 0, .bool false, .slice none 0 0, .int .i64 0] 27)) = w0 at *
 go_cut [9, 10] from 11 to 39 (fun s9 s10 wx => ∃ (a0 : Option Addr) (n0 c0 : Nat) (a1 : Option Addr) (n1 c1 : Nat) (a2 : Option Addr) (n2 c2 : Nat) (a3 : Option Addr) (n3 c3 : Nat) (YB BB : Nat), s9 = .pointer (some ⟨YB, 0, none⟩) ∧ s10 = .slice (some ⟨BB, 0, none⟩) 3 3 ∧ Hid (w0.heap.size ≤ YB) ∧ Hid (n0 ≤ 1024) ∧ Hid (n1 ≤ 1024) ∧ Hid (n2 ≤ 1024) ∧ Hid (n3 ≤ 1024) ∧ OwnW w0.heap.size wx a0 n0 c0 (wO P0.2.1) ∧ OwnW w0.heap.size wx a1 n1 c1 (wO P1.2.1) ∧ OwnW w0.heap.size wx a2 n2 c2 (wO P2.2.1) ∧ OwnW w0.heap.size wx a3 n3 c3 (wO P3.2.1) ∧ wx.cell? ⟨YB, 0, none⟩ = some (.bool P0.1) ∧ wx.cell? ⟨YB, 1, none⟩ = some (.slice a0 n0 c0) ∧ wx.cell? ⟨YB, 2, none⟩ = some (.int .i64 P0.2.2) ∧ wx.cell? ⟨BB, 0, none⟩ = some (.bool P1.1) ∧ wx.cell? ⟨BB, 1, none⟩ = some (.slice a1 n1 c1) ∧ wx.cell? ⟨BB, 2, none⟩ = some (.int .i64 P1.2.2) ∧ wx.cell? ⟨BB, 3, none⟩ = some (.bool P2.1) ∧ wx.cell? ⟨BB, 4, none⟩ = some (.slice a2 n2 c2) ∧ wx.cell? ⟨BB, 5, none⟩ = some (.int .i64 P2.2.2) ∧ wx.cell? ⟨BB, 6, none⟩ = some (.bool P3.1) ∧ wx.cell? ⟨BB, 7, none⟩ = some (.slice a3 n3 c3) ∧ wx.cell? ⟨BB, 8, none⟩ = some (.int .i64 P3.2.2) ∧ Below w0.heap.size w0 wx)
 case first =>
  have R : Below w0.heap.size w0 (World.drew w0) := (Below.refl _ _).drew
  refine wp_region_held (S := fun w' => Below w0.heap.size w0 w') (by kernel_rfl) ?_
  change wpAnyH _ _ _ _ _ _ _ _ (World.drew w0)
  generalize World.drew w0 = wd at R ⊢
  refine wpAnyH_take (i := 0) (oi := { dst := some 11, op := Op.load 80 (Operand.tmp 3), type := 80, pos := "ways.go:62", after := #[], guard := none }) (v := .func (.func 64) #[] #[]) rfl (by kernel_rfl) (by kernel_rfl) (by kernel_rfl) (fun _ _ _ h => h) (Or.inl ⟨by rfl, ?y1⟩) R ?r1
  case y1 => (intro ww hS; have qcX := kC hS cX; clear hS; go_simp; try with_reducible rfl)
  try simp only [Act.put, sA]
  refine wpAnyH_take (i := 1) (oi := { dst := some 12, op := Op.fieldAddr 27 (Operand.tmp 4) 0, type := 0, pos := "ways.go:62", after := #[], guard := none }) (v := .pointer (some ⟨w.heap.size, 0, none⟩)) rfl (by kernel_rfl) (by kernel_rfl) (by kernel_rfl) (fun _ _ _ h => h) (Or.inl ⟨by rfl, ?y2⟩) R ?r2
  case y2 => (intro ww hS; clear hS; go_simp; try with_reducible rfl)
  try simp only [Act.put]
  refine wpAnyH_take (i := 2) (oi := { dst := some 13, op := Op.load 25 (Operand.tmp 12), type := 25, pos := "ways.go:62", after := #[{ on := 1, ground := Ground.data }], guard := none }) (v := dT x) rfl (by kernel_rfl) (by kernel_rfl) (by kernel_rfl) (fun _ _ _ h => h) (Or.inl ⟨by rfl, ?y3⟩) R ?r3
  case y3 => (intro ww hS; have qk0 := kC hS k0; have qk1 := kC hS k1; have qk2 := kC hS k2; clear hS; go_simp; try with_reducible rfl)
  try simp only [Act.put]
  refine wpAnyH_take (i := 3) (oi := { dst := some 14, op := Op.fieldAddr 27 (Operand.tmp 5) 0, type := 0, pos := "ways.go:62", after := #[], guard := none }) (v := .pointer (some ⟨w.heap.size + 1, 0, none⟩)) rfl (by kernel_rfl) (by kernel_rfl) (by kernel_rfl) (fun _ _ _ h => h) (Or.inl ⟨by rfl, ?y4⟩) R ?r4
  case y4 => (intro ww hS; clear hS; go_simp; try with_reducible rfl)
  try simp only [Act.put]
  refine wpAnyH_take (i := 4) (oi := { dst := some 15, op := Op.load 25 (Operand.tmp 14), type := 25, pos := "ways.go:62", after := #[{ on := 3, ground := Ground.data }], guard := none }) (v := dT u) rfl (by kernel_rfl) (by kernel_rfl) (by kernel_rfl) (fun _ _ _ h => h) (Or.inl ⟨by rfl, ?y5⟩) R ?r5
  case y5 => (intro ww hS; have ql0 := kC hS l0; have ql1 := kC hS l1; have ql2 := kC hS l2; clear hS; go_simp; try with_reducible rfl)
  try simp only [Act.put]
  refine wpAnyH_take (i := 5) (oi := { dst := some 16, op := Op.move (Operand.tmp 2), type := 3, pos := "ways.go:62", after := #[], guard := none }) (v := .int .i64 (p : Int)) rfl (by kernel_rfl) (by kernel_rfl) (by kernel_rfl) (fun _ _ _ h => h) (Or.inl ⟨by rfl, ?y6⟩) R ?r6
  case y6 => (intro ww hS; clear hS; go_simp; try with_reducible rfl)
  try simp only [Act.put]
  refine wpAnyH_take (i := 7) (oi := { dst := some 18, op := Op.load 80 (Operand.tmp 3), type := 80, pos := "ways.go:62", after := #[], guard := none }) (v := .func (.func 64) #[] #[]) rfl (by kernel_rfl) (by kernel_rfl) (by kernel_rfl) (fun _ _ _ h => h) (Or.inl ⟨by rfl, ?y7⟩) R ?r7
  case y7 => (intro ww hS; have qcX := kC hS cX; clear hS; go_simp; try with_reducible rfl)
  try simp only [Act.put]
  refine wpAnyH_take (i := 8) (oi := { dst := some 19, op := Op.fieldAddr 27 (Operand.tmp 4) 0, type := 0, pos := "ways.go:62", after := #[], guard := none }) (v := .pointer (some ⟨w.heap.size, 0, none⟩)) rfl (by kernel_rfl) (by kernel_rfl) (by kernel_rfl) (fun _ _ _ h => h) (Or.inl ⟨by rfl, ?y8⟩) R ?r8
  case y8 => (intro ww hS; clear hS; go_simp; try with_reducible rfl)
  try simp only [Act.put]
  refine wpAnyH_take (i := 9) (oi := { dst := some 20, op := Op.load 25 (Operand.tmp 19), type := 25, pos := "ways.go:62", after := #[{ on := 8, ground := Ground.data }], guard := none }) (v := dT x) rfl (by kernel_rfl) (by kernel_rfl) (by kernel_rfl) (fun _ _ _ h => h) (Or.inl ⟨by rfl, ?y9⟩) R ?r9
  case y9 => (intro ww hS; have qk0 := kC hS k0; have qk1 := kC hS k1; have qk2 := kC hS k2; clear hS; go_simp; try with_reducible rfl)
  try simp only [Act.put]
  refine wpAnyH_take (i := 10) (oi := { dst := some 21, op := Op.fieldAddr 27 (Operand.tmp 5) 1, type := 0, pos := "ways.go:62", after := #[], guard := none }) (v := .pointer (some ⟨w.heap.size + 1, 3, none⟩)) rfl (by kernel_rfl) (by kernel_rfl) (by kernel_rfl) (fun _ _ _ h => h) (Or.inl ⟨by rfl, ?y10⟩) R ?r10
  case y10 => (intro ww hS; clear hS; go_simp; try with_reducible rfl)
  try simp only [Act.put]
  refine wpAnyH_take (i := 11) (oi := { dst := some 22, op := Op.load 25 (Operand.tmp 21), type := 25, pos := "ways.go:62", after := #[{ on := 10, ground := Ground.data }], guard := none }) (v := dT v) rfl (by kernel_rfl) (by kernel_rfl) (by kernel_rfl) (fun _ _ _ h => h) (Or.inl ⟨by rfl, ?y11⟩) R ?r11
  case y11 => (intro ww hS; have ql3 := kC hS l3; have ql4 := kC hS l4; have ql5 := kC hS l5; clear hS; go_simp; try with_reducible rfl)
  try simp only [Act.put]
  refine wpAnyH_take (i := 12) (oi := { dst := some 23, op := Op.move (Operand.tmp 2), type := 3, pos := "ways.go:62", after := #[], guard := none }) (v := .int .i64 (p : Int)) rfl (by kernel_rfl) (by kernel_rfl) (by kernel_rfl) (fun _ _ _ h => h) (Or.inl ⟨by rfl, ?y12⟩) R ?r12
  case y12 => (intro ww hS; clear hS; go_simp; try with_reducible rfl)
  try simp only [Act.put]
  refine wpAnyH_take (i := 14) (oi := { dst := some 25, op := Op.load 80 (Operand.tmp 3), type := 80, pos := "ways.go:62", after := #[], guard := none }) (v := .func (.func 64) #[] #[]) rfl (by kernel_rfl) (by kernel_rfl) (by kernel_rfl) (fun _ _ _ h => h) (Or.inl ⟨by rfl, ?y13⟩) R ?r13
  case y13 => (intro ww hS; have qcX := kC hS cX; clear hS; go_simp; try with_reducible rfl)
  try simp only [Act.put]
  refine wpAnyH_take (i := 15) (oi := { dst := some 26, op := Op.fieldAddr 27 (Operand.tmp 4) 1, type := 0, pos := "ways.go:62", after := #[], guard := none }) (v := .pointer (some ⟨w.heap.size, 3, none⟩)) rfl (by kernel_rfl) (by kernel_rfl) (by kernel_rfl) (fun _ _ _ h => h) (Or.inl ⟨by rfl, ?y14⟩) R ?r14
  case y14 => (intro ww hS; clear hS; go_simp; try with_reducible rfl)
  try simp only [Act.put]
  refine wpAnyH_take (i := 16) (oi := { dst := some 27, op := Op.load 25 (Operand.tmp 26), type := 25, pos := "ways.go:62", after := #[{ on := 15, ground := Ground.data }], guard := none }) (v := dT y) rfl (by kernel_rfl) (by kernel_rfl) (by kernel_rfl) (fun _ _ _ h => h) (Or.inl ⟨by rfl, ?y15⟩) R ?r15
  case y15 => (intro ww hS; have qk3 := kC hS k3; have qk4 := kC hS k4; have qk5 := kC hS k5; clear hS; go_simp; try with_reducible rfl)
  try simp only [Act.put]
  refine wpAnyH_take (i := 17) (oi := { dst := some 28, op := Op.fieldAddr 27 (Operand.tmp 5) 0, type := 0, pos := "ways.go:62", after := #[], guard := none }) (v := .pointer (some ⟨w.heap.size + 1, 0, none⟩)) rfl (by kernel_rfl) (by kernel_rfl) (by kernel_rfl) (fun _ _ _ h => h) (Or.inl ⟨by rfl, ?y16⟩) R ?r16
  case y16 => (intro ww hS; clear hS; go_simp; try with_reducible rfl)
  try simp only [Act.put]
  refine wpAnyH_take (i := 18) (oi := { dst := some 29, op := Op.load 25 (Operand.tmp 28), type := 25, pos := "ways.go:62", after := #[{ on := 17, ground := Ground.data }], guard := none }) (v := dT u) rfl (by kernel_rfl) (by kernel_rfl) (by kernel_rfl) (fun _ _ _ h => h) (Or.inl ⟨by rfl, ?y17⟩) R ?r17
  case y17 => (intro ww hS; have ql0 := kC hS l0; have ql1 := kC hS l1; have ql2 := kC hS l2; clear hS; go_simp; try with_reducible rfl)
  try simp only [Act.put]
  refine wpAnyH_take (i := 19) (oi := { dst := some 30, op := Op.move (Operand.tmp 2), type := 3, pos := "ways.go:62", after := #[], guard := none }) (v := .int .i64 (p : Int)) rfl (by kernel_rfl) (by kernel_rfl) (by kernel_rfl) (fun _ _ _ h => h) (Or.inl ⟨by rfl, ?y18⟩) R ?r18
  case y18 => (intro ww hS; clear hS; go_simp; try with_reducible rfl)
  try simp only [Act.put]
  refine wpAnyH_take (i := 21) (oi := { dst := some 32, op := Op.load 80 (Operand.tmp 3), type := 80, pos := "ways.go:62", after := #[], guard := none }) (v := .func (.func 64) #[] #[]) rfl (by kernel_rfl) (by kernel_rfl) (by kernel_rfl) (fun _ _ _ h => h) (Or.inl ⟨by rfl, ?y19⟩) R ?r19
  case y19 => (intro ww hS; have qcX := kC hS cX; clear hS; go_simp; try with_reducible rfl)
  try simp only [Act.put]
  refine wpAnyH_take (i := 22) (oi := { dst := some 33, op := Op.fieldAddr 27 (Operand.tmp 4) 1, type := 0, pos := "ways.go:62", after := #[], guard := none }) (v := .pointer (some ⟨w.heap.size, 3, none⟩)) rfl (by kernel_rfl) (by kernel_rfl) (by kernel_rfl) (fun _ _ _ h => h) (Or.inl ⟨by rfl, ?y20⟩) R ?r20
  case y20 => (intro ww hS; clear hS; go_simp; try with_reducible rfl)
  try simp only [Act.put]
  refine wpAnyH_take (i := 23) (oi := { dst := some 34, op := Op.load 25 (Operand.tmp 33), type := 25, pos := "ways.go:62", after := #[{ on := 22, ground := Ground.data }], guard := none }) (v := dT y) rfl (by kernel_rfl) (by kernel_rfl) (by kernel_rfl) (fun _ _ _ h => h) (Or.inl ⟨by rfl, ?y21⟩) R ?r21
  case y21 => (intro ww hS; have qk3 := kC hS k3; have qk4 := kC hS k4; have qk5 := kC hS k5; clear hS; go_simp; try with_reducible rfl)
  try simp only [Act.put]
  refine wpAnyH_take (i := 24) (oi := { dst := some 35, op := Op.fieldAddr 27 (Operand.tmp 5) 1, type := 0, pos := "ways.go:62", after := #[], guard := none }) (v := .pointer (some ⟨w.heap.size + 1, 3, none⟩)) rfl (by kernel_rfl) (by kernel_rfl) (by kernel_rfl) (fun _ _ _ h => h) (Or.inl ⟨by rfl, ?y22⟩) R ?r22
  case y22 => (intro ww hS; clear hS; go_simp; try with_reducible rfl)
  try simp only [Act.put]
  refine wpAnyH_take (i := 25) (oi := { dst := some 36, op := Op.load 25 (Operand.tmp 35), type := 25, pos := "ways.go:62", after := #[{ on := 24, ground := Ground.data }], guard := none }) (v := dT v) rfl (by kernel_rfl) (by kernel_rfl) (by kernel_rfl) (fun _ _ _ h => h) (Or.inl ⟨by rfl, ?y23⟩) R ?r23
  case y23 => (intro ww hS; have ql3 := kC hS l3; have ql4 := kC hS l4; have ql5 := kC hS l5; clear hS; go_simp; try with_reducible rfl)
  try simp only [Act.put]
  refine wpAnyH_take (i := 26) (oi := { dst := some 37, op := Op.move (Operand.tmp 2), type := 3, pos := "ways.go:62", after := #[], guard := none }) (v := .int .i64 (p : Int)) rfl (by kernel_rfl) (by kernel_rfl) (by kernel_rfl) (fun _ _ _ h => h) (Or.inl ⟨by rfl, ?y24⟩) R ?r24
  case y24 => (intro ww hS; clear hS; go_simp; try with_reducible rfl)
  try simp only [Act.put]
  refine rd2 6 29 (by kernel_rfl) rfl rfl (fun K hK => ?_) fun K hK => ?_
  ·go_simp
   refine Calls.mono (H0.out _ (okT.keep jx R) (okT.keep ju R)) ?_
   rintro r v1 ⟨a0, n0, c0, rfl, N0, O0, bN⟩
   refine hK.out _ _ (nT R bN) (fun _ => ?_)
   clear hK K
   replace O0 := O0.low R.size
   have M0 : Hid (n0 ≤ 1024) := N0
   clear N0
   replace R := nT R bN
   clear bN
   try simp only [Act.put, sA, sZ, sS]
   refine rd2 13 29 (by kernel_rfl) rfl rfl (fun K hK => ?_) fun K hK => ?_
   ·go_simp
    refine Calls.mono (H1.out _ (okT.keep jx R) (okT.keep jv R)) ?_
    rintro r v2 ⟨a1, n1, c1, rfl, N1, O1, bN⟩
    refine hK.out _ _ (nT R bN) (fun _ => ?_)
    clear hK K
    replace O0 := O0.keep bN
    replace O1 := O1.low R.size
    have M1 : Hid (n1 ≤ 1024) := N1
    clear N1
    replace R := nT R bN
    clear bN
    try simp only [Act.put, sA, sZ, sS]
    refine rd2 20 29 (by kernel_rfl) rfl rfl (fun K hK => ?_) fun K hK => ?_
    ·go_simp
     refine Calls.mono (H2.out _ (okT.keep jy R) (okT.keep ju R)) ?_
     rintro r v3 ⟨a2, n2, c2, rfl, N2, O2, bN⟩
     refine hK.out _ _ (nT R bN) (fun _ => ?_)
     clear hK K
     replace O0 := O0.keep bN
     replace O1 := O1.keep bN
     replace O2 := O2.low R.size
     have M2 : Hid (n2 ≤ 1024) := N2
     clear N2
     replace R := nT R bN
     clear bN
     try simp only [Act.put, sA, sZ, sS]
     refine rd2 27 29 (by kernel_rfl) rfl rfl (fun K hK => ?_) fun K hK => ?_
     ·go_simp
      refine Calls.mono (H3.out _ (okT.keep jy R) (okT.keep jv R)) ?_
      rintro r v4 ⟨a3, n3, c3, rfl, N3, O3, bN⟩
      refine hK.out _ _ (nT R bN) (fun _ => ?_)
      clear hK K
      replace O0 := O0.keep bN
      replace O1 := O1.keep bN
      replace O2 := O2.keep bN
      replace O3 := O3.low R.size
      have M3 : Hid (n3 ≤ 1024) := N3
      clear N3
      replace R := nT R bN
      clear bN
      try simp only [Act.put, sA, sZ, sS]
      refine rd2 28 29 (by kernel_rfl) rfl rfl (fun K hK => ?_) fun K hK => ?_
      ·go_simp
       refine hK.out _ _ (bl_allocI R _) (fun _ => ?_)
       clear hK K
       have bN := below_one v4 (.cells #[.bool P1.1, .slice a1 n1 c1, .int .i64 P1.2.2, .bool P2.1, .slice a2 n2 c2, .int .i64 P2.2.2, .bool P3.1, .slice a3 n3 c3, .int .i64 P3.2.2] 25)
       replace O0 := O0.keep bN
       replace O1 := O1.keep bN
       replace O2 := O2.keep bN
       replace O3 := O3.keep bN
       obtain ⟨E0, E1, E2, E3, E4, E5, E6, E7, E8⟩ := fX17 v4 P1 a1 n1 c1 P2 a2 n2 c2 P3 a3 n3 c3 _ rfl
       replace R := bl_allocI R (.cells #[.bool P1.1, .slice a1 n1 c1, .int .i64 P1.2.2, .bool P2.1, .slice a2 n2 c2, .int .i64 P2.2.2, .bool P3.1, .slice a3 n3 c3, .int .i64 P3.2.2] 25)
       clear bN
       try simp only [Act.put, sA, sZ, sS]
       generalize hb : v4.heap.size = BB at *
       generalize v4.alloc (.cells #[.bool P1.1, .slice a1 n1 c1, .int .i64 P1.2.2, .bool P2.1, .slice a2 n2 c2, .int .i64 P2.2.2, .bool P3.1, .slice a3 n3 c3, .int .i64 P3.2.2] 25) = v5 at *
       refine rd1 29 (by kernel_rfl) rfl fun K hK => ?_
       ·go_simp
        refine hK.out _ _ (bl_allocI R _) (fun _ => ?_)
        clear hK K
        have bN := below_one v5 (.cells #[.bool false, .slice none 0 0, .int .i64 0] 25)
        have ne1 : v5.heap.size ≠ BB := Ne.symm (Nat.ne_of_lt (World.block_lt_of_cell? _ _ E0))
        revert E0 E1 E2 E3 E4 E5; refine cc6 bN ?_; intro E0 E1 E2 E3 E4 E5
        revert E6 E7 E8; refine cc3 bN ?_; intro E6 E7 E8
        replace O0 := O0.keep bN
        replace O1 := O1.keep bN
        replace O2 := O2.keep bN
        replace O3 := O3.keep bN
        obtain ⟨Y0, Y1, Y2, Y3, Y4, Y5⟩ := zero_dy (w := v5) (r := v5.heap.size) (W' := v5.alloc (.cells #[.bool false, .slice none 0 0, .int .i64 0] 25)) (Below.refl _ _) rfl
        have YL : Hid (w0.heap.size ≤ v5.heap.size) := R.size
        replace R := bl_allocI R (.cells #[.bool false, .slice none 0 0, .int .i64 0] 25)
        clear bN
        try simp only [Act.put, sA, sZ, sS]
        generalize hy1 : v5.heap.size = YB at *
        generalize v5.alloc (.cells #[.bool false, .slice none 0 0, .int .i64 0] 25) = v6 at *
        refine rd1 30 (by kernel_rfl) rfl fun K hK => ?_
        ·go_simp
         have bS : Below w0.heap.size w0 (((v6.setCell ⟨YB, 0, none⟩ (.bool P0.1)).setCell ⟨YB, 1, none⟩ (.slice a0 n0 c0)).setCell ⟨YB, 2, none⟩ (.int .i64 P0.2.2)) := ((R.setCell YL.out _).setCell YL.out _).setCell YL.out _
         refine hK.out _ _ bS (fun _ => ?_)
         clear hK K
         replace O0 := O0.set_dyI _ _ _ _ _ _ (.bool P0.1) (.slice a0 n0 c0) (.int .i64 P0.2.2) Y0 Y1 Y2
         replace O1 := O1.set_dyI _ _ _ _ _ _ (.bool P0.1) (.slice a0 n0 c0) (.int .i64 P0.2.2) Y0 Y1 Y2
         replace O2 := O2.set_dyI _ _ _ _ _ _ (.bool P0.1) (.slice a0 n0 c0) (.int .i64 P0.2.2) Y0 Y1 Y2
         replace O3 := O3.set_dyI _ _ _ _ _ _ (.bool P0.1) (.slice a0 n0 c0) (.int .i64 P0.2.2) Y0 Y1 Y2
         replace E0 := set3_otherI E0 (by first | exact ne1 | exact Ne.symm ne1) (.bool P0.1) (.slice a0 n0 c0) (.int .i64 P0.2.2)
         replace E1 := set3_otherI E1 (by first | exact ne1 | exact Ne.symm ne1) (.bool P0.1) (.slice a0 n0 c0) (.int .i64 P0.2.2)
         replace E2 := set3_otherI E2 (by first | exact ne1 | exact Ne.symm ne1) (.bool P0.1) (.slice a0 n0 c0) (.int .i64 P0.2.2)
         replace E3 := set3_otherI E3 (by first | exact ne1 | exact Ne.symm ne1) (.bool P0.1) (.slice a0 n0 c0) (.int .i64 P0.2.2)
         replace E4 := set3_otherI E4 (by first | exact ne1 | exact Ne.symm ne1) (.bool P0.1) (.slice a0 n0 c0) (.int .i64 P0.2.2)
         replace E5 := set3_otherI E5 (by first | exact ne1 | exact Ne.symm ne1) (.bool P0.1) (.slice a0 n0 c0) (.int .i64 P0.2.2)
         replace E6 := set3_otherI E6 (by first | exact ne1 | exact Ne.symm ne1) (.bool P0.1) (.slice a0 n0 c0) (.int .i64 P0.2.2)
         replace E7 := set3_otherI E7 (by first | exact ne1 | exact Ne.symm ne1) (.bool P0.1) (.slice a0 n0 c0) (.int .i64 P0.2.2)
         replace E8 := set3_otherI E8 (by first | exact ne1 | exact Ne.symm ne1) (.bool P0.1) (.slice a0 n0 c0) (.int .i64 P0.2.2)
         obtain ⟨Z0, Z1, Z2⟩ := set3_sameI (v0 := .bool P0.1) (v1 := .slice a0 n0 c0) (v2 := .int .i64 P0.2.2) Y0 Y1 Y2
         clear Y0 Y1 Y2 Y3 Y4 Y5 R
         try simp only [Act.put, sA, sZ, sS]
         generalize (((v6.setCell ⟨YB, 0, none⟩ (.bool P0.1)).setCell ⟨YB, 1, none⟩ (.slice a0 n0 c0)).setCell ⟨YB, 2, none⟩ (.int .i64 P0.2.2)) = v7 at *
         have R := bS
         clear bS
         refine rd1 31 (by kernel_rfl) rfl fun K hK => ?_
         go_simp
         refine hK.out _ _ R (fun _ => ?_)
         clear hK K
         try simp only [Act.put, sA, sZ, sS]
         refine wpAnyH_done (by kernel_rfl) ?_ _
         go_wp2_with fail
         go_meet
         case rel => exact ⟨a0, n0, c0, a1, n1, c1, a2, n2, c2, a3, n3, c3, YB, BB, rfl, rfl, YL, M0, M1, M2, M3, O0, O1, O2, O3, Z0, Z1, Z2, E0, E1, E2, E3, E4, E5, E6, E7, E8, R⟩
      ·go_simp
       refine hK.out _ _ (bl_allocI R _) (fun _ => ?_)
       clear hK K
       have bN := below_one v4 (.cells #[.bool false, .slice none 0 0, .int .i64 0] 25)
       replace O0 := O0.keep bN
       replace O1 := O1.keep bN
       replace O2 := O2.keep bN
       replace O3 := O3.keep bN
       obtain ⟨Y0, Y1, Y2, Y3, Y4, Y5⟩ := zero_dy (w := v4) (r := v4.heap.size) (W' := v4.alloc (.cells #[.bool false, .slice none 0 0, .int .i64 0] 25)) (Below.refl _ _) rfl
       have YL : Hid (w0.heap.size ≤ v4.heap.size) := R.size
       replace R := bl_allocI R (.cells #[.bool false, .slice none 0 0, .int .i64 0] 25)
       clear bN
       try simp only [Act.put, sA, sZ, sS]
       generalize hy1 : v4.heap.size = YB at *
       generalize v4.alloc (.cells #[.bool false, .slice none 0 0, .int .i64 0] 25) = v8 at *
       refine rd2 28 30 (by kernel_rfl) rfl rfl (fun K hK => ?_) fun K hK => ?_
       ·go_simp
        refine hK.out _ _ (bl_allocI R _) (fun _ => ?_)
        clear hK K
        have bN := below_one v8 (.cells #[.bool P1.1, .slice a1 n1 c1, .int .i64 P1.2.2, .bool P2.1, .slice a2 n2 c2, .int .i64 P2.2.2, .bool P3.1, .slice a3 n3 c3, .int .i64 P3.2.2] 25)
        have ne1 : YB ≠ v8.heap.size := Nat.ne_of_lt (World.block_lt_of_cell? _ _ Y0)
        revert Y0 Y1 Y2 Y3 Y4 Y5; refine zg3 bN ?_; intro Y0 Y1 Y2 Y3 Y4 Y5
        replace O0 := O0.keep bN
        replace O1 := O1.keep bN
        replace O2 := O2.keep bN
        replace O3 := O3.keep bN
        obtain ⟨E0, E1, E2, E3, E4, E5, E6, E7, E8⟩ := fX17 v8 P1 a1 n1 c1 P2 a2 n2 c2 P3 a3 n3 c3 _ rfl
        replace R := bl_allocI R (.cells #[.bool P1.1, .slice a1 n1 c1, .int .i64 P1.2.2, .bool P2.1, .slice a2 n2 c2, .int .i64 P2.2.2, .bool P3.1, .slice a3 n3 c3, .int .i64 P3.2.2] 25)
        clear bN
        try simp only [Act.put, sA, sZ, sS]
        generalize hb : v8.heap.size = BB at *
        generalize v8.alloc (.cells #[.bool P1.1, .slice a1 n1 c1, .int .i64 P1.2.2, .bool P2.1, .slice a2 n2 c2, .int .i64 P2.2.2, .bool P3.1, .slice a3 n3 c3, .int .i64 P3.2.2] 25) = v9 at *
        refine rd1 30 (by kernel_rfl) rfl fun K hK => ?_
        ·go_simp
         have bS : Below w0.heap.size w0 (((v9.setCell ⟨YB, 0, none⟩ (.bool P0.1)).setCell ⟨YB, 1, none⟩ (.slice a0 n0 c0)).setCell ⟨YB, 2, none⟩ (.int .i64 P0.2.2)) := ((R.setCell YL.out _).setCell YL.out _).setCell YL.out _
         refine hK.out _ _ bS (fun _ => ?_)
         clear hK K
         replace O0 := O0.set_dyI _ _ _ _ _ _ (.bool P0.1) (.slice a0 n0 c0) (.int .i64 P0.2.2) Y0 Y1 Y2
         replace O1 := O1.set_dyI _ _ _ _ _ _ (.bool P0.1) (.slice a0 n0 c0) (.int .i64 P0.2.2) Y0 Y1 Y2
         replace O2 := O2.set_dyI _ _ _ _ _ _ (.bool P0.1) (.slice a0 n0 c0) (.int .i64 P0.2.2) Y0 Y1 Y2
         replace O3 := O3.set_dyI _ _ _ _ _ _ (.bool P0.1) (.slice a0 n0 c0) (.int .i64 P0.2.2) Y0 Y1 Y2
         replace E0 := set3_otherI E0 (by first | exact ne1 | exact Ne.symm ne1) (.bool P0.1) (.slice a0 n0 c0) (.int .i64 P0.2.2)
         replace E1 := set3_otherI E1 (by first | exact ne1 | exact Ne.symm ne1) (.bool P0.1) (.slice a0 n0 c0) (.int .i64 P0.2.2)
         replace E2 := set3_otherI E2 (by first | exact ne1 | exact Ne.symm ne1) (.bool P0.1) (.slice a0 n0 c0) (.int .i64 P0.2.2)
         replace E3 := set3_otherI E3 (by first | exact ne1 | exact Ne.symm ne1) (.bool P0.1) (.slice a0 n0 c0) (.int .i64 P0.2.2)
         replace E4 := set3_otherI E4 (by first | exact ne1 | exact Ne.symm ne1) (.bool P0.1) (.slice a0 n0 c0) (.int .i64 P0.2.2)
         replace E5 := set3_otherI E5 (by first | exact ne1 | exact Ne.symm ne1) (.bool P0.1) (.slice a0 n0 c0) (.int .i64 P0.2.2)
         replace E6 := set3_otherI E6 (by first | exact ne1 | exact Ne.symm ne1) (.bool P0.1) (.slice a0 n0 c0) (.int .i64 P0.2.2)
         replace E7 := set3_otherI E7 (by first | exact ne1 | exact Ne.symm ne1) (.bool P0.1) (.slice a0 n0 c0) (.int .i64 P0.2.2)
         replace E8 := set3_otherI E8 (by first | exact ne1 | exact Ne.symm ne1) (.bool P0.1) (.slice a0 n0 c0) (.int .i64 P0.2.2)
         obtain ⟨Z0, Z1, Z2⟩ := set3_sameI (v0 := .bool P0.1) (v1 := .slice a0 n0 c0) (v2 := .int .i64 P0.2.2) Y0 Y1 Y2
         clear Y0 Y1 Y2 Y3 Y4 Y5 R
         try simp only [Act.put, sA, sZ, sS]
         generalize (((v9.setCell ⟨YB, 0, none⟩ (.bool P0.1)).setCell ⟨YB, 1, none⟩ (.slice a0 n0 c0)).setCell ⟨YB, 2, none⟩ (.int .i64 P0.2.2)) = v10 at *
         have R := bS
         clear bS
         refine rd1 31 (by kernel_rfl) rfl fun K hK => ?_
         go_simp
         refine hK.out _ _ R (fun _ => ?_)
         clear hK K
         try simp only [Act.put, sA, sZ, sS]
         refine wpAnyH_done (by kernel_rfl) ?_ _
         go_wp2_with fail
         go_meet
         case rel => exact ⟨a0, n0, c0, a1, n1, c1, a2, n2, c2, a3, n3, c3, YB, BB, rfl, rfl, YL, M0, M1, M2, M3, O0, O1, O2, O3, Z0, Z1, Z2, E0, E1, E2, E3, E4, E5, E6, E7, E8, R⟩
       ·go_simp
        have bS : Below w0.heap.size w0 (((v8.setCell ⟨YB, 0, none⟩ (.bool P0.1)).setCell ⟨YB, 1, none⟩ (.slice a0 n0 c0)).setCell ⟨YB, 2, none⟩ (.int .i64 P0.2.2)) := ((R.setCell YL.out _).setCell YL.out _).setCell YL.out _
        refine hK.out _ _ bS (fun _ => ?_)
        clear hK K
        replace O0 := O0.set_dyI _ _ _ _ _ _ (.bool P0.1) (.slice a0 n0 c0) (.int .i64 P0.2.2) Y0 Y1 Y2
        replace O1 := O1.set_dyI _ _ _ _ _ _ (.bool P0.1) (.slice a0 n0 c0) (.int .i64 P0.2.2) Y0 Y1 Y2
        replace O2 := O2.set_dyI _ _ _ _ _ _ (.bool P0.1) (.slice a0 n0 c0) (.int .i64 P0.2.2) Y0 Y1 Y2
        replace O3 := O3.set_dyI _ _ _ _ _ _ (.bool P0.1) (.slice a0 n0 c0) (.int .i64 P0.2.2) Y0 Y1 Y2
        obtain ⟨Z0, Z1, Z2⟩ := set3_sameI (v0 := .bool P0.1) (v1 := .slice a0 n0 c0) (v2 := .int .i64 P0.2.2) Y0 Y1 Y2
        clear Y0 Y1 Y2 Y3 Y4 Y5 R
        try simp only [Act.put, sA, sZ, sS]
        generalize (((v8.setCell ⟨YB, 0, none⟩ (.bool P0.1)).setCell ⟨YB, 1, none⟩ (.slice a0 n0 c0)).setCell ⟨YB, 2, none⟩ (.int .i64 P0.2.2)) = v11 at *
        have R := bS
        clear bS
        refine rd1 28 (by kernel_rfl) rfl fun K hK => ?_
        ·go_simp
         refine hK.out _ _ (bl_allocI R _) (fun _ => ?_)
         clear hK K
         have bN := below_one v11 (.cells #[.bool P1.1, .slice a1 n1 c1, .int .i64 P1.2.2, .bool P2.1, .slice a2 n2 c2, .int .i64 P2.2.2, .bool P3.1, .slice a3 n3 c3, .int .i64 P3.2.2] 25)
         revert Z0 Z1 Z2; refine cc3 bN ?_; intro Z0 Z1 Z2
         replace O0 := O0.keep bN
         replace O1 := O1.keep bN
         replace O2 := O2.keep bN
         replace O3 := O3.keep bN
         obtain ⟨E0, E1, E2, E3, E4, E5, E6, E7, E8⟩ := fX17 v11 P1 a1 n1 c1 P2 a2 n2 c2 P3 a3 n3 c3 _ rfl
         replace R := bl_allocI R (.cells #[.bool P1.1, .slice a1 n1 c1, .int .i64 P1.2.2, .bool P2.1, .slice a2 n2 c2, .int .i64 P2.2.2, .bool P3.1, .slice a3 n3 c3, .int .i64 P3.2.2] 25)
         clear bN
         try simp only [Act.put, sA, sZ, sS]
         generalize hb : v11.heap.size = BB at *
         generalize v11.alloc (.cells #[.bool P1.1, .slice a1 n1 c1, .int .i64 P1.2.2, .bool P2.1, .slice a2 n2 c2, .int .i64 P2.2.2, .bool P3.1, .slice a3 n3 c3, .int .i64 P3.2.2] 25) = v12 at *
         refine rd1 31 (by kernel_rfl) rfl fun K hK => ?_
         go_simp
         refine hK.out _ _ R (fun _ => ?_)
         clear hK K
         try simp only [Act.put, sA, sZ, sS]
         refine wpAnyH_done (by kernel_rfl) ?_ _
         go_wp2_with fail
         go_meet
         case rel => exact ⟨a0, n0, c0, a1, n1, c1, a2, n2, c2, a3, n3, c3, YB, BB, rfl, rfl, YL, M0, M1, M2, M3, O0, O1, O2, O3, Z0, Z1, Z2, E0, E1, E2, E3, E4, E5, E6, E7, E8, R⟩
     ·go_simp
      refine hK.out _ _ (bl_allocI R _) (fun _ => ?_)
      clear hK K
      have bN := below_one v3 (.cells #[.bool false, .slice none 0 0, .int .i64 0] 25)
      replace O0 := O0.keep bN
      replace O1 := O1.keep bN
      replace O2 := O2.keep bN
      obtain ⟨Y0, Y1, Y2, Y3, Y4, Y5⟩ := zero_dy (w := v3) (r := v3.heap.size) (W' := v3.alloc (.cells #[.bool false, .slice none 0 0, .int .i64 0] 25)) (Below.refl _ _) rfl
      have YL : Hid (w0.heap.size ≤ v3.heap.size) := R.size
      replace R := bl_allocI R (.cells #[.bool false, .slice none 0 0, .int .i64 0] 25)
      clear bN
      try simp only [Act.put, sA, sZ, sS]
      generalize hy1 : v3.heap.size = YB at *
      generalize v3.alloc (.cells #[.bool false, .slice none 0 0, .int .i64 0] 25) = v13 at *
      refine rd1 27 (by kernel_rfl) rfl fun K hK => ?_
      ·go_simp
       refine Calls.mono (H3.out _ (okT.keep jy R) (okT.keep jv R)) ?_
       rintro r v14 ⟨a3, n3, c3, rfl, N3, O3, bN⟩
       refine hK.out _ _ (nT R bN) (fun _ => ?_)
       clear hK K
       revert Y0 Y1 Y2 Y3 Y4 Y5; refine zg3 bN ?_; intro Y0 Y1 Y2 Y3 Y4 Y5
       replace O0 := O0.keep bN
       replace O1 := O1.keep bN
       replace O2 := O2.keep bN
       replace O3 := O3.low R.size
       have M3 : Hid (n3 ≤ 1024) := N3
       clear N3
       replace R := nT R bN
       clear bN
       try simp only [Act.put, sA, sZ, sS]
       refine rd2 28 30 (by kernel_rfl) rfl rfl (fun K hK => ?_) fun K hK => ?_
       ·go_simp
        refine hK.out _ _ (bl_allocI R _) (fun _ => ?_)
        clear hK K
        have bN := below_one v14 (.cells #[.bool P1.1, .slice a1 n1 c1, .int .i64 P1.2.2, .bool P2.1, .slice a2 n2 c2, .int .i64 P2.2.2, .bool P3.1, .slice a3 n3 c3, .int .i64 P3.2.2] 25)
        have ne1 : YB ≠ v14.heap.size := Nat.ne_of_lt (World.block_lt_of_cell? _ _ Y0)
        revert Y0 Y1 Y2 Y3 Y4 Y5; refine zg3 bN ?_; intro Y0 Y1 Y2 Y3 Y4 Y5
        replace O0 := O0.keep bN
        replace O1 := O1.keep bN
        replace O2 := O2.keep bN
        replace O3 := O3.keep bN
        obtain ⟨E0, E1, E2, E3, E4, E5, E6, E7, E8⟩ := fX17 v14 P1 a1 n1 c1 P2 a2 n2 c2 P3 a3 n3 c3 _ rfl
        replace R := bl_allocI R (.cells #[.bool P1.1, .slice a1 n1 c1, .int .i64 P1.2.2, .bool P2.1, .slice a2 n2 c2, .int .i64 P2.2.2, .bool P3.1, .slice a3 n3 c3, .int .i64 P3.2.2] 25)
        clear bN
        try simp only [Act.put, sA, sZ, sS]
        generalize hb : v14.heap.size = BB at *
        generalize v14.alloc (.cells #[.bool P1.1, .slice a1 n1 c1, .int .i64 P1.2.2, .bool P2.1, .slice a2 n2 c2, .int .i64 P2.2.2, .bool P3.1, .slice a3 n3 c3, .int .i64 P3.2.2] 25) = v15 at *
        refine rd1 30 (by kernel_rfl) rfl fun K hK => ?_
        ·go_simp
         have bS : Below w0.heap.size w0 (((v15.setCell ⟨YB, 0, none⟩ (.bool P0.1)).setCell ⟨YB, 1, none⟩ (.slice a0 n0 c0)).setCell ⟨YB, 2, none⟩ (.int .i64 P0.2.2)) := ((R.setCell YL.out _).setCell YL.out _).setCell YL.out _
         refine hK.out _ _ bS (fun _ => ?_)
         clear hK K
         replace O0 := O0.set_dyI _ _ _ _ _ _ (.bool P0.1) (.slice a0 n0 c0) (.int .i64 P0.2.2) Y0 Y1 Y2
         replace O1 := O1.set_dyI _ _ _ _ _ _ (.bool P0.1) (.slice a0 n0 c0) (.int .i64 P0.2.2) Y0 Y1 Y2
         replace O2 := O2.set_dyI _ _ _ _ _ _ (.bool P0.1) (.slice a0 n0 c0) (.int .i64 P0.2.2) Y0 Y1 Y2
         replace O3 := O3.set_dyI _ _ _ _ _ _ (.bool P0.1) (.slice a0 n0 c0) (.int .i64 P0.2.2) Y0 Y1 Y2
         replace E0 := set3_otherI E0 (by first | exact ne1 | exact Ne.symm ne1) (.bool P0.1) (.slice a0 n0 c0) (.int .i64 P0.2.2)
         replace E1 := set3_otherI E1 (by first | exact ne1 | exact Ne.symm ne1) (.bool P0.1) (.slice a0 n0 c0) (.int .i64 P0.2.2)
         replace E2 := set3_otherI E2 (by first | exact ne1 | exact Ne.symm ne1) (.bool P0.1) (.slice a0 n0 c0) (.int .i64 P0.2.2)
         replace E3 := set3_otherI E3 (by first | exact ne1 | exact Ne.symm ne1) (.bool P0.1) (.slice a0 n0 c0) (.int .i64 P0.2.2)
         replace E4 := set3_otherI E4 (by first | exact ne1 | exact Ne.symm ne1) (.bool P0.1) (.slice a0 n0 c0) (.int .i64 P0.2.2)
         replace E5 := set3_otherI E5 (by first | exact ne1 | exact Ne.symm ne1) (.bool P0.1) (.slice a0 n0 c0) (.int .i64 P0.2.2)
         replace E6 := set3_otherI E6 (by first | exact ne1 | exact Ne.symm ne1) (.bool P0.1) (.slice a0 n0 c0) (.int .i64 P0.2.2)
         replace E7 := set3_otherI E7 (by first | exact ne1 | exact Ne.symm ne1) (.bool P0.1) (.slice a0 n0 c0) (.int .i64 P0.2.2)
         replace E8 := set3_otherI E8 (by first | exact ne1 | exact Ne.symm ne1) (.bool P0.1) (.slice a0 n0 c0) (.int .i64 P0.2.2)
         obtain ⟨Z0, Z1, Z2⟩ := set3_sameI (v0 := .bool P0.1) (v1 := .slice a0 n0 c0) (v2 := .int .i64 P0.2.2) Y0 Y1 Y2
         clear Y0 Y1 Y2 Y3 Y4 Y5 R
         try simp only [Act.put, sA, sZ, sS]
         generalize (((v15.setCell ⟨YB, 0, none⟩ (.bool P0.1)).setCell ⟨YB, 1, none⟩ (.slice a0 n0 c0)).setCell ⟨YB, 2, none⟩ (.int .i64 P0.2.2)) = v16 at *
         have R := bS
         clear bS
         refine rd1 31 (by kernel_rfl) rfl fun K hK => ?_
         go_simp
         refine hK.out _ _ R (fun _ => ?_)
         clear hK K
         try simp only [Act.put, sA, sZ, sS]
         refine wpAnyH_done (by kernel_rfl) ?_ _
         go_wp2_with fail
         go_meet
         case rel => exact ⟨a0, n0, c0, a1, n1, c1, a2, n2, c2, a3, n3, c3, YB, BB, rfl, rfl, YL, M0, M1, M2, M3, O0, O1, O2, O3, Z0, Z1, Z2, E0, E1, E2, E3, E4, E5, E6, E7, E8, R⟩
       ·go_simp
        have bS : Below w0.heap.size w0 (((v14.setCell ⟨YB, 0, none⟩ (.bool P0.1)).setCell ⟨YB, 1, none⟩ (.slice a0 n0 c0)).setCell ⟨YB, 2, none⟩ (.int .i64 P0.2.2)) := ((R.setCell YL.out _).setCell YL.out _).setCell YL.out _
        refine hK.out _ _ bS (fun _ => ?_)
        clear hK K
        replace O0 := O0.set_dyI _ _ _ _ _ _ (.bool P0.1) (.slice a0 n0 c0) (.int .i64 P0.2.2) Y0 Y1 Y2
        replace O1 := O1.set_dyI _ _ _ _ _ _ (.bool P0.1) (.slice a0 n0 c0) (.int .i64 P0.2.2) Y0 Y1 Y2
        replace O2 := O2.set_dyI _ _ _ _ _ _ (.bool P0.1) (.slice a0 n0 c0) (.int .i64 P0.2.2) Y0 Y1 Y2
        replace O3 := O3.set_dyI _ _ _ _ _ _ (.bool P0.1) (.slice a0 n0 c0) (.int .i64 P0.2.2) Y0 Y1 Y2
        obtain ⟨Z0, Z1, Z2⟩ := set3_sameI (v0 := .bool P0.1) (v1 := .slice a0 n0 c0) (v2 := .int .i64 P0.2.2) Y0 Y1 Y2
        clear Y0 Y1 Y2 Y3 Y4 Y5 R
        try simp only [Act.put, sA, sZ, sS]
        generalize (((v14.setCell ⟨YB, 0, none⟩ (.bool P0.1)).setCell ⟨YB, 1, none⟩ (.slice a0 n0 c0)).setCell ⟨YB, 2, none⟩ (.int .i64 P0.2.2)) = v17 at *
        have R := bS
        clear bS
        refine rd1 28 (by kernel_rfl) rfl fun K hK => ?_
        ·go_simp
         refine hK.out _ _ (bl_allocI R _) (fun _ => ?_)
         clear hK K
         have bN := below_one v17 (.cells #[.bool P1.1, .slice a1 n1 c1, .int .i64 P1.2.2, .bool P2.1, .slice a2 n2 c2, .int .i64 P2.2.2, .bool P3.1, .slice a3 n3 c3, .int .i64 P3.2.2] 25)
         revert Z0 Z1 Z2; refine cc3 bN ?_; intro Z0 Z1 Z2
         replace O0 := O0.keep bN
         replace O1 := O1.keep bN
         replace O2 := O2.keep bN
         replace O3 := O3.keep bN
         obtain ⟨E0, E1, E2, E3, E4, E5, E6, E7, E8⟩ := fX17 v17 P1 a1 n1 c1 P2 a2 n2 c2 P3 a3 n3 c3 _ rfl
         replace R := bl_allocI R (.cells #[.bool P1.1, .slice a1 n1 c1, .int .i64 P1.2.2, .bool P2.1, .slice a2 n2 c2, .int .i64 P2.2.2, .bool P3.1, .slice a3 n3 c3, .int .i64 P3.2.2] 25)
         clear bN
         try simp only [Act.put, sA, sZ, sS]
         generalize hb : v17.heap.size = BB at *
         generalize v17.alloc (.cells #[.bool P1.1, .slice a1 n1 c1, .int .i64 P1.2.2, .bool P2.1, .slice a2 n2 c2, .int .i64 P2.2.2, .bool P3.1, .slice a3 n3 c3, .int .i64 P3.2.2] 25) = v18 at *
         refine rd1 31 (by kernel_rfl) rfl fun K hK => ?_
         go_simp
         refine hK.out _ _ R (fun _ => ?_)
         clear hK K
         try simp only [Act.put, sA, sZ, sS]
         refine wpAnyH_done (by kernel_rfl) ?_ _
         go_wp2_with fail
         go_meet
         case rel => exact ⟨a0, n0, c0, a1, n1, c1, a2, n2, c2, a3, n3, c3, YB, BB, rfl, rfl, YL, M0, M1, M2, M3, O0, O1, O2, O3, Z0, Z1, Z2, E0, E1, E2, E3, E4, E5, E6, E7, E8, R⟩
    ·go_simp
     refine hK.out _ _ (bl_allocI R _) (fun _ => ?_)
     clear hK K
     have bN := below_one v2 (.cells #[.bool false, .slice none 0 0, .int .i64 0] 25)
     replace O0 := O0.keep bN
     replace O1 := O1.keep bN
     obtain ⟨Y0, Y1, Y2, Y3, Y4, Y5⟩ := zero_dy (w := v2) (r := v2.heap.size) (W' := v2.alloc (.cells #[.bool false, .slice none 0 0, .int .i64 0] 25)) (Below.refl _ _) rfl
     have YL : Hid (w0.heap.size ≤ v2.heap.size) := R.size
     replace R := bl_allocI R (.cells #[.bool false, .slice none 0 0, .int .i64 0] 25)
     clear bN
     try simp only [Act.put, sA, sZ, sS]
     generalize hy1 : v2.heap.size = YB at *
     generalize v2.alloc (.cells #[.bool false, .slice none 0 0, .int .i64 0] 25) = v19 at *
     refine rd1 20 (by kernel_rfl) rfl fun K hK => ?_
     ·go_simp
      refine Calls.mono (H2.out _ (okT.keep jy R) (okT.keep ju R)) ?_
      rintro r v20 ⟨a2, n2, c2, rfl, N2, O2, bN⟩
      refine hK.out _ _ (nT R bN) (fun _ => ?_)
      clear hK K
      revert Y0 Y1 Y2 Y3 Y4 Y5; refine zg3 bN ?_; intro Y0 Y1 Y2 Y3 Y4 Y5
      replace O0 := O0.keep bN
      replace O1 := O1.keep bN
      replace O2 := O2.low R.size
      have M2 : Hid (n2 ≤ 1024) := N2
      clear N2
      replace R := nT R bN
      clear bN
      try simp only [Act.put, sA, sZ, sS]
      refine rd1 27 (by kernel_rfl) rfl fun K hK => ?_
      ·go_simp
       refine Calls.mono (H3.out _ (okT.keep jy R) (okT.keep jv R)) ?_
       rintro r v21 ⟨a3, n3, c3, rfl, N3, O3, bN⟩
       refine hK.out _ _ (nT R bN) (fun _ => ?_)
       clear hK K
       revert Y0 Y1 Y2 Y3 Y4 Y5; refine zg3 bN ?_; intro Y0 Y1 Y2 Y3 Y4 Y5
       replace O0 := O0.keep bN
       replace O1 := O1.keep bN
       replace O2 := O2.keep bN
       replace O3 := O3.low R.size
       have M3 : Hid (n3 ≤ 1024) := N3
       clear N3
       replace R := nT R bN
       clear bN
       try simp only [Act.put, sA, sZ, sS]
       refine rd2 28 30 (by kernel_rfl) rfl rfl (fun K hK => ?_) fun K hK => ?_
       ·go_simp
        refine hK.out _ _ (bl_allocI R _) (fun _ => ?_)
        clear hK K
        have bN := below_one v21 (.cells #[.bool P1.1, .slice a1 n1 c1, .int .i64 P1.2.2, .bool P2.1, .slice a2 n2 c2, .int .i64 P2.2.2, .bool P3.1, .slice a3 n3 c3, .int .i64 P3.2.2] 25)
        have ne1 : YB ≠ v21.heap.size := Nat.ne_of_lt (World.block_lt_of_cell? _ _ Y0)
        revert Y0 Y1 Y2 Y3 Y4 Y5; refine zg3 bN ?_; intro Y0 Y1 Y2 Y3 Y4 Y5
        replace O0 := O0.keep bN
        replace O1 := O1.keep bN
        replace O2 := O2.keep bN
        replace O3 := O3.keep bN
        obtain ⟨E0, E1, E2, E3, E4, E5, E6, E7, E8⟩ := fX17 v21 P1 a1 n1 c1 P2 a2 n2 c2 P3 a3 n3 c3 _ rfl
        replace R := bl_allocI R (.cells #[.bool P1.1, .slice a1 n1 c1, .int .i64 P1.2.2, .bool P2.1, .slice a2 n2 c2, .int .i64 P2.2.2, .bool P3.1, .slice a3 n3 c3, .int .i64 P3.2.2] 25)
        clear bN
        try simp only [Act.put, sA, sZ, sS]
        generalize hb : v21.heap.size = BB at *
        generalize v21.alloc (.cells #[.bool P1.1, .slice a1 n1 c1, .int .i64 P1.2.2, .bool P2.1, .slice a2 n2 c2, .int .i64 P2.2.2, .bool P3.1, .slice a3 n3 c3, .int .i64 P3.2.2] 25) = v22 at *
        refine rd1 30 (by kernel_rfl) rfl fun K hK => ?_
        ·go_simp
         have bS : Below w0.heap.size w0 (((v22.setCell ⟨YB, 0, none⟩ (.bool P0.1)).setCell ⟨YB, 1, none⟩ (.slice a0 n0 c0)).setCell ⟨YB, 2, none⟩ (.int .i64 P0.2.2)) := ((R.setCell YL.out _).setCell YL.out _).setCell YL.out _
         refine hK.out _ _ bS (fun _ => ?_)
         clear hK K
         replace O0 := O0.set_dyI _ _ _ _ _ _ (.bool P0.1) (.slice a0 n0 c0) (.int .i64 P0.2.2) Y0 Y1 Y2
         replace O1 := O1.set_dyI _ _ _ _ _ _ (.bool P0.1) (.slice a0 n0 c0) (.int .i64 P0.2.2) Y0 Y1 Y2
         replace O2 := O2.set_dyI _ _ _ _ _ _ (.bool P0.1) (.slice a0 n0 c0) (.int .i64 P0.2.2) Y0 Y1 Y2
         replace O3 := O3.set_dyI _ _ _ _ _ _ (.bool P0.1) (.slice a0 n0 c0) (.int .i64 P0.2.2) Y0 Y1 Y2
         replace E0 := set3_otherI E0 (by first | exact ne1 | exact Ne.symm ne1) (.bool P0.1) (.slice a0 n0 c0) (.int .i64 P0.2.2)
         replace E1 := set3_otherI E1 (by first | exact ne1 | exact Ne.symm ne1) (.bool P0.1) (.slice a0 n0 c0) (.int .i64 P0.2.2)
         replace E2 := set3_otherI E2 (by first | exact ne1 | exact Ne.symm ne1) (.bool P0.1) (.slice a0 n0 c0) (.int .i64 P0.2.2)
         replace E3 := set3_otherI E3 (by first | exact ne1 | exact Ne.symm ne1) (.bool P0.1) (.slice a0 n0 c0) (.int .i64 P0.2.2)
         replace E4 := set3_otherI E4 (by first | exact ne1 | exact Ne.symm ne1) (.bool P0.1) (.slice a0 n0 c0) (.int .i64 P0.2.2)
         replace E5 := set3_otherI E5 (by first | exact ne1 | exact Ne.symm ne1) (.bool P0.1) (.slice a0 n0 c0) (.int .i64 P0.2.2)
         replace E6 := set3_otherI E6 (by first | exact ne1 | exact Ne.symm ne1) (.bool P0.1) (.slice a0 n0 c0) (.int .i64 P0.2.2)
         replace E7 := set3_otherI E7 (by first | exact ne1 | exact Ne.symm ne1) (.bool P0.1) (.slice a0 n0 c0) (.int .i64 P0.2.2)
         replace E8 := set3_otherI E8 (by first | exact ne1 | exact Ne.symm ne1) (.bool P0.1) (.slice a0 n0 c0) (.int .i64 P0.2.2)
         obtain ⟨Z0, Z1, Z2⟩ := set3_sameI (v0 := .bool P0.1) (v1 := .slice a0 n0 c0) (v2 := .int .i64 P0.2.2) Y0 Y1 Y2
         clear Y0 Y1 Y2 Y3 Y4 Y5 R
         try simp only [Act.put, sA, sZ, sS]
         generalize (((v22.setCell ⟨YB, 0, none⟩ (.bool P0.1)).setCell ⟨YB, 1, none⟩ (.slice a0 n0 c0)).setCell ⟨YB, 2, none⟩ (.int .i64 P0.2.2)) = v23 at *
         have R := bS
         clear bS
         refine rd1 31 (by kernel_rfl) rfl fun K hK => ?_
         go_simp
         refine hK.out _ _ R (fun _ => ?_)
         clear hK K
         try simp only [Act.put, sA, sZ, sS]
         refine wpAnyH_done (by kernel_rfl) ?_ _
         go_wp2_with fail
         go_meet
         case rel => exact ⟨a0, n0, c0, a1, n1, c1, a2, n2, c2, a3, n3, c3, YB, BB, rfl, rfl, YL, M0, M1, M2, M3, O0, O1, O2, O3, Z0, Z1, Z2, E0, E1, E2, E3, E4, E5, E6, E7, E8, R⟩
       ·go_simp
        have bS : Below w0.heap.size w0 (((v21.setCell ⟨YB, 0, none⟩ (.bool P0.1)).setCell ⟨YB, 1, none⟩ (.slice a0 n0 c0)).setCell ⟨YB, 2, none⟩ (.int .i64 P0.2.2)) := ((R.setCell YL.out _).setCell YL.out _).setCell YL.out _
        refine hK.out _ _ bS (fun _ => ?_)
        clear hK K
        replace O0 := O0.set_dyI _ _ _ _ _ _ (.bool P0.1) (.slice a0 n0 c0) (.int .i64 P0.2.2) Y0 Y1 Y2
        replace O1 := O1.set_dyI _ _ _ _ _ _ (.bool P0.1) (.slice a0 n0 c0) (.int .i64 P0.2.2) Y0 Y1 Y2
        replace O2 := O2.set_dyI _ _ _ _ _ _ (.bool P0.1) (.slice a0 n0 c0) (.int .i64 P0.2.2) Y0 Y1 Y2
        replace O3 := O3.set_dyI _ _ _ _ _ _ (.bool P0.1) (.slice a0 n0 c0) (.int .i64 P0.2.2) Y0 Y1 Y2
        obtain ⟨Z0, Z1, Z2⟩ := set3_sameI (v0 := .bool P0.1) (v1 := .slice a0 n0 c0) (v2 := .int .i64 P0.2.2) Y0 Y1 Y2
        clear Y0 Y1 Y2 Y3 Y4 Y5 R
        try simp only [Act.put, sA, sZ, sS]
        generalize (((v21.setCell ⟨YB, 0, none⟩ (.bool P0.1)).setCell ⟨YB, 1, none⟩ (.slice a0 n0 c0)).setCell ⟨YB, 2, none⟩ (.int .i64 P0.2.2)) = v24 at *
        have R := bS
        clear bS
        refine rd1 28 (by kernel_rfl) rfl fun K hK => ?_
        ·go_simp
         refine hK.out _ _ (bl_allocI R _) (fun _ => ?_)
         clear hK K
         have bN := below_one v24 (.cells #[.bool P1.1, .slice a1 n1 c1, .int .i64 P1.2.2, .bool P2.1, .slice a2 n2 c2, .int .i64 P2.2.2, .bool P3.1, .slice a3 n3 c3, .int .i64 P3.2.2] 25)
         revert Z0 Z1 Z2; refine cc3 bN ?_; intro Z0 Z1 Z2
         replace O0 := O0.keep bN
         replace O1 := O1.keep bN
         replace O2 := O2.keep bN
         replace O3 := O3.keep bN
         obtain ⟨E0, E1, E2, E3, E4, E5, E6, E7, E8⟩ := fX17 v24 P1 a1 n1 c1 P2 a2 n2 c2 P3 a3 n3 c3 _ rfl
         replace R := bl_allocI R (.cells #[.bool P1.1, .slice a1 n1 c1, .int .i64 P1.2.2, .bool P2.1, .slice a2 n2 c2, .int .i64 P2.2.2, .bool P3.1, .slice a3 n3 c3, .int .i64 P3.2.2] 25)
         clear bN
         try simp only [Act.put, sA, sZ, sS]
         generalize hb : v24.heap.size = BB at *
         generalize v24.alloc (.cells #[.bool P1.1, .slice a1 n1 c1, .int .i64 P1.2.2, .bool P2.1, .slice a2 n2 c2, .int .i64 P2.2.2, .bool P3.1, .slice a3 n3 c3, .int .i64 P3.2.2] 25) = v25 at *
         refine rd1 31 (by kernel_rfl) rfl fun K hK => ?_
         go_simp
         refine hK.out _ _ R (fun _ => ?_)
         clear hK K
         try simp only [Act.put, sA, sZ, sS]
         refine wpAnyH_done (by kernel_rfl) ?_ _
         go_wp2_with fail
         go_meet
         case rel => exact ⟨a0, n0, c0, a1, n1, c1, a2, n2, c2, a3, n3, c3, YB, BB, rfl, rfl, YL, M0, M1, M2, M3, O0, O1, O2, O3, Z0, Z1, Z2, E0, E1, E2, E3, E4, E5, E6, E7, E8, R⟩
   ·go_simp
    refine hK.out _ _ (bl_allocI R _) (fun _ => ?_)
    clear hK K
    have bN := below_one v1 (.cells #[.bool false, .slice none 0 0, .int .i64 0] 25)
    replace O0 := O0.keep bN
    obtain ⟨Y0, Y1, Y2, Y3, Y4, Y5⟩ := zero_dy (w := v1) (r := v1.heap.size) (W' := v1.alloc (.cells #[.bool false, .slice none 0 0, .int .i64 0] 25)) (Below.refl _ _) rfl
    have YL : Hid (w0.heap.size ≤ v1.heap.size) := R.size
    replace R := bl_allocI R (.cells #[.bool false, .slice none 0 0, .int .i64 0] 25)
    clear bN
    try simp only [Act.put, sA, sZ, sS]
    generalize hy1 : v1.heap.size = YB at *
    generalize v1.alloc (.cells #[.bool false, .slice none 0 0, .int .i64 0] 25) = v26 at *
    refine rd1 13 (by kernel_rfl) rfl fun K hK => ?_
    ·go_simp
     refine Calls.mono (H1.out _ (okT.keep jx R) (okT.keep jv R)) ?_
     rintro r v27 ⟨a1, n1, c1, rfl, N1, O1, bN⟩
     refine hK.out _ _ (nT R bN) (fun _ => ?_)
     clear hK K
     revert Y0 Y1 Y2 Y3 Y4 Y5; refine zg3 bN ?_; intro Y0 Y1 Y2 Y3 Y4 Y5
     replace O0 := O0.keep bN
     replace O1 := O1.low R.size
     have M1 : Hid (n1 ≤ 1024) := N1
     clear N1
     replace R := nT R bN
     clear bN
     try simp only [Act.put, sA, sZ, sS]
     refine rd1 20 (by kernel_rfl) rfl fun K hK => ?_
     ·go_simp
      refine Calls.mono (H2.out _ (okT.keep jy R) (okT.keep ju R)) ?_
      rintro r v28 ⟨a2, n2, c2, rfl, N2, O2, bN⟩
      refine hK.out _ _ (nT R bN) (fun _ => ?_)
      clear hK K
      revert Y0 Y1 Y2 Y3 Y4 Y5; refine zg3 bN ?_; intro Y0 Y1 Y2 Y3 Y4 Y5
      replace O0 := O0.keep bN
      replace O1 := O1.keep bN
      replace O2 := O2.low R.size
      have M2 : Hid (n2 ≤ 1024) := N2
      clear N2
      replace R := nT R bN
      clear bN
      try simp only [Act.put, sA, sZ, sS]
      refine rd1 27 (by kernel_rfl) rfl fun K hK => ?_
      ·go_simp
       refine Calls.mono (H3.out _ (okT.keep jy R) (okT.keep jv R)) ?_
       rintro r v29 ⟨a3, n3, c3, rfl, N3, O3, bN⟩
       refine hK.out _ _ (nT R bN) (fun _ => ?_)
       clear hK K
       revert Y0 Y1 Y2 Y3 Y4 Y5; refine zg3 bN ?_; intro Y0 Y1 Y2 Y3 Y4 Y5
       replace O0 := O0.keep bN
       replace O1 := O1.keep bN
       replace O2 := O2.keep bN
       replace O3 := O3.low R.size
       have M3 : Hid (n3 ≤ 1024) := N3
       clear N3
       replace R := nT R bN
       clear bN
       try simp only [Act.put, sA, sZ, sS]
       refine rd2 28 30 (by kernel_rfl) rfl rfl (fun K hK => ?_) fun K hK => ?_
       ·go_simp
        refine hK.out _ _ (bl_allocI R _) (fun _ => ?_)
        clear hK K
        have bN := below_one v29 (.cells #[.bool P1.1, .slice a1 n1 c1, .int .i64 P1.2.2, .bool P2.1, .slice a2 n2 c2, .int .i64 P2.2.2, .bool P3.1, .slice a3 n3 c3, .int .i64 P3.2.2] 25)
        have ne1 : YB ≠ v29.heap.size := Nat.ne_of_lt (World.block_lt_of_cell? _ _ Y0)
        revert Y0 Y1 Y2 Y3 Y4 Y5; refine zg3 bN ?_; intro Y0 Y1 Y2 Y3 Y4 Y5
        replace O0 := O0.keep bN
        replace O1 := O1.keep bN
        replace O2 := O2.keep bN
        replace O3 := O3.keep bN
        obtain ⟨E0, E1, E2, E3, E4, E5, E6, E7, E8⟩ := fX17 v29 P1 a1 n1 c1 P2 a2 n2 c2 P3 a3 n3 c3 _ rfl
        replace R := bl_allocI R (.cells #[.bool P1.1, .slice a1 n1 c1, .int .i64 P1.2.2, .bool P2.1, .slice a2 n2 c2, .int .i64 P2.2.2, .bool P3.1, .slice a3 n3 c3, .int .i64 P3.2.2] 25)
        clear bN
        try simp only [Act.put, sA, sZ, sS]
        generalize hb : v29.heap.size = BB at *
        generalize v29.alloc (.cells #[.bool P1.1, .slice a1 n1 c1, .int .i64 P1.2.2, .bool P2.1, .slice a2 n2 c2, .int .i64 P2.2.2, .bool P3.1, .slice a3 n3 c3, .int .i64 P3.2.2] 25) = v30 at *
        refine rd1 30 (by kernel_rfl) rfl fun K hK => ?_
        ·go_simp
         have bS : Below w0.heap.size w0 (((v30.setCell ⟨YB, 0, none⟩ (.bool P0.1)).setCell ⟨YB, 1, none⟩ (.slice a0 n0 c0)).setCell ⟨YB, 2, none⟩ (.int .i64 P0.2.2)) := ((R.setCell YL.out _).setCell YL.out _).setCell YL.out _
         refine hK.out _ _ bS (fun _ => ?_)
         clear hK K
         replace O0 := O0.set_dyI _ _ _ _ _ _ (.bool P0.1) (.slice a0 n0 c0) (.int .i64 P0.2.2) Y0 Y1 Y2
         replace O1 := O1.set_dyI _ _ _ _ _ _ (.bool P0.1) (.slice a0 n0 c0) (.int .i64 P0.2.2) Y0 Y1 Y2
         replace O2 := O2.set_dyI _ _ _ _ _ _ (.bool P0.1) (.slice a0 n0 c0) (.int .i64 P0.2.2) Y0 Y1 Y2
         replace O3 := O3.set_dyI _ _ _ _ _ _ (.bool P0.1) (.slice a0 n0 c0) (.int .i64 P0.2.2) Y0 Y1 Y2
         replace E0 := set3_otherI E0 (by first | exact ne1 | exact Ne.symm ne1) (.bool P0.1) (.slice a0 n0 c0) (.int .i64 P0.2.2)
         replace E1 := set3_otherI E1 (by first | exact ne1 | exact Ne.symm ne1) (.bool P0.1) (.slice a0 n0 c0) (.int .i64 P0.2.2)
         replace E2 := set3_otherI E2 (by first | exact ne1 | exact Ne.symm ne1) (.bool P0.1) (.slice a0 n0 c0) (.int .i64 P0.2.2)
         replace E3 := set3_otherI E3 (by first | exact ne1 | exact Ne.symm ne1) (.bool P0.1) (.slice a0 n0 c0) (.int .i64 P0.2.2)
         replace E4 := set3_otherI E4 (by first | exact ne1 | exact Ne.symm ne1) (.bool P0.1) (.slice a0 n0 c0) (.int .i64 P0.2.2)
         replace E5 := set3_otherI E5 (by first | exact ne1 | exact Ne.symm ne1) (.bool P0.1) (.slice a0 n0 c0) (.int .i64 P0.2.2)
         replace E6 := set3_otherI E6 (by first | exact ne1 | exact Ne.symm ne1) (.bool P0.1) (.slice a0 n0 c0) (.int .i64 P0.2.2)
         replace E7 := set3_otherI E7 (by first | exact ne1 | exact Ne.symm ne1) (.bool P0.1) (.slice a0 n0 c0) (.int .i64 P0.2.2)
         replace E8 := set3_otherI E8 (by first | exact ne1 | exact Ne.symm ne1) (.bool P0.1) (.slice a0 n0 c0) (.int .i64 P0.2.2)
         obtain ⟨Z0, Z1, Z2⟩ := set3_sameI (v0 := .bool P0.1) (v1 := .slice a0 n0 c0) (v2 := .int .i64 P0.2.2) Y0 Y1 Y2
         clear Y0 Y1 Y2 Y3 Y4 Y5 R
         try simp only [Act.put, sA, sZ, sS]
         generalize (((v30.setCell ⟨YB, 0, none⟩ (.bool P0.1)).setCell ⟨YB, 1, none⟩ (.slice a0 n0 c0)).setCell ⟨YB, 2, none⟩ (.int .i64 P0.2.2)) = v31 at *
         have R := bS
         clear bS
         refine rd1 31 (by kernel_rfl) rfl fun K hK => ?_
         go_simp
         refine hK.out _ _ R (fun _ => ?_)
         clear hK K
         try simp only [Act.put, sA, sZ, sS]
         refine wpAnyH_done (by kernel_rfl) ?_ _
         go_wp2_with fail
         go_meet
         case rel => exact ⟨a0, n0, c0, a1, n1, c1, a2, n2, c2, a3, n3, c3, YB, BB, rfl, rfl, YL, M0, M1, M2, M3, O0, O1, O2, O3, Z0, Z1, Z2, E0, E1, E2, E3, E4, E5, E6, E7, E8, R⟩
       ·go_simp
        have bS : Below w0.heap.size w0 (((v29.setCell ⟨YB, 0, none⟩ (.bool P0.1)).setCell ⟨YB, 1, none⟩ (.slice a0 n0 c0)).setCell ⟨YB, 2, none⟩ (.int .i64 P0.2.2)) := ((R.setCell YL.out _).setCell YL.out _).setCell YL.out _
        refine hK.out _ _ bS (fun _ => ?_)
        clear hK K
        replace O0 := O0.set_dyI _ _ _ _ _ _ (.bool P0.1) (.slice a0 n0 c0) (.int .i64 P0.2.2) Y0 Y1 Y2
        replace O1 := O1.set_dyI _ _ _ _ _ _ (.bool P0.1) (.slice a0 n0 c0) (.int .i64 P0.2.2) Y0 Y1 Y2
        replace O2 := O2.set_dyI _ _ _ _ _ _ (.bool P0.1) (.slice a0 n0 c0) (.int .i64 P0.2.2) Y0 Y1 Y2
        replace O3 := O3.set_dyI _ _ _ _ _ _ (.bool P0.1) (.slice a0 n0 c0) (.int .i64 P0.2.2) Y0 Y1 Y2
        obtain ⟨Z0, Z1, Z2⟩ := set3_sameI (v0 := .bool P0.1) (v1 := .slice a0 n0 c0) (v2 := .int .i64 P0.2.2) Y0 Y1 Y2
        clear Y0 Y1 Y2 Y3 Y4 Y5 R
        try simp only [Act.put, sA, sZ, sS]
        generalize (((v29.setCell ⟨YB, 0, none⟩ (.bool P0.1)).setCell ⟨YB, 1, none⟩ (.slice a0 n0 c0)).setCell ⟨YB, 2, none⟩ (.int .i64 P0.2.2)) = v32 at *
        have R := bS
        clear bS
        refine rd1 28 (by kernel_rfl) rfl fun K hK => ?_
        ·go_simp
         refine hK.out _ _ (bl_allocI R _) (fun _ => ?_)
         clear hK K
         have bN := below_one v32 (.cells #[.bool P1.1, .slice a1 n1 c1, .int .i64 P1.2.2, .bool P2.1, .slice a2 n2 c2, .int .i64 P2.2.2, .bool P3.1, .slice a3 n3 c3, .int .i64 P3.2.2] 25)
         revert Z0 Z1 Z2; refine cc3 bN ?_; intro Z0 Z1 Z2
         replace O0 := O0.keep bN
         replace O1 := O1.keep bN
         replace O2 := O2.keep bN
         replace O3 := O3.keep bN
         obtain ⟨E0, E1, E2, E3, E4, E5, E6, E7, E8⟩ := fX17 v32 P1 a1 n1 c1 P2 a2 n2 c2 P3 a3 n3 c3 _ rfl
         replace R := bl_allocI R (.cells #[.bool P1.1, .slice a1 n1 c1, .int .i64 P1.2.2, .bool P2.1, .slice a2 n2 c2, .int .i64 P2.2.2, .bool P3.1, .slice a3 n3 c3, .int .i64 P3.2.2] 25)
         clear bN
         try simp only [Act.put, sA, sZ, sS]
         generalize hb : v32.heap.size = BB at *
         generalize v32.alloc (.cells #[.bool P1.1, .slice a1 n1 c1, .int .i64 P1.2.2, .bool P2.1, .slice a2 n2 c2, .int .i64 P2.2.2, .bool P3.1, .slice a3 n3 c3, .int .i64 P3.2.2] 25) = v33 at *
         refine rd1 31 (by kernel_rfl) rfl fun K hK => ?_
         go_simp
         refine hK.out _ _ R (fun _ => ?_)
         clear hK K
         try simp only [Act.put, sA, sZ, sS]
         refine wpAnyH_done (by kernel_rfl) ?_ _
         go_wp2_with fail
         go_meet
         case rel => exact ⟨a0, n0, c0, a1, n1, c1, a2, n2, c2, a3, n3, c3, YB, BB, rfl, rfl, YL, M0, M1, M2, M3, O0, O1, O2, O3, Z0, Z1, Z2, E0, E1, E2, E3, E4, E5, E6, E7, E8, R⟩
  ·go_simp
   refine hK.out _ _ (bl_allocI R _) (fun _ => ?_)
   clear hK K
   have bN := below_one wd (.cells #[.bool false, .slice none 0 0, .int .i64 0] 25)
   obtain ⟨Y0, Y1, Y2, Y3, Y4, Y5⟩ := zero_dy (w := wd) (r := wd.heap.size) (W' := wd.alloc (.cells #[.bool false, .slice none 0 0, .int .i64 0] 25)) (Below.refl _ _) rfl
   have YL : Hid (w0.heap.size ≤ wd.heap.size) := R.size
   replace R := bl_allocI R (.cells #[.bool false, .slice none 0 0, .int .i64 0] 25)
   clear bN
   try simp only [Act.put, sA, sZ, sS]
   generalize hy1 : wd.heap.size = YB at *
   generalize wd.alloc (.cells #[.bool false, .slice none 0 0, .int .i64 0] 25) = v34 at *
   refine rd1 6 (by kernel_rfl) rfl fun K hK => ?_
   ·go_simp
    refine Calls.mono (H0.out _ (okT.keep jx R) (okT.keep ju R)) ?_
    rintro r v35 ⟨a0, n0, c0, rfl, N0, O0, bN⟩
    refine hK.out _ _ (nT R bN) (fun _ => ?_)
    clear hK K
    revert Y0 Y1 Y2 Y3 Y4 Y5; refine zg3 bN ?_; intro Y0 Y1 Y2 Y3 Y4 Y5
    replace O0 := O0.low R.size
    have M0 : Hid (n0 ≤ 1024) := N0
    clear N0
    replace R := nT R bN
    clear bN
    try simp only [Act.put, sA, sZ, sS]
    refine rd1 13 (by kernel_rfl) rfl fun K hK => ?_
    ·go_simp
     refine Calls.mono (H1.out _ (okT.keep jx R) (okT.keep jv R)) ?_
     rintro r v36 ⟨a1, n1, c1, rfl, N1, O1, bN⟩
     refine hK.out _ _ (nT R bN) (fun _ => ?_)
     clear hK K
     revert Y0 Y1 Y2 Y3 Y4 Y5; refine zg3 bN ?_; intro Y0 Y1 Y2 Y3 Y4 Y5
     replace O0 := O0.keep bN
     replace O1 := O1.low R.size
     have M1 : Hid (n1 ≤ 1024) := N1
     clear N1
     replace R := nT R bN
     clear bN
     try simp only [Act.put, sA, sZ, sS]
     refine rd1 20 (by kernel_rfl) rfl fun K hK => ?_
     ·go_simp
      refine Calls.mono (H2.out _ (okT.keep jy R) (okT.keep ju R)) ?_
      rintro r v37 ⟨a2, n2, c2, rfl, N2, O2, bN⟩
      refine hK.out _ _ (nT R bN) (fun _ => ?_)
      clear hK K
      revert Y0 Y1 Y2 Y3 Y4 Y5; refine zg3 bN ?_; intro Y0 Y1 Y2 Y3 Y4 Y5
      replace O0 := O0.keep bN
      replace O1 := O1.keep bN
      replace O2 := O2.low R.size
      have M2 : Hid (n2 ≤ 1024) := N2
      clear N2
      replace R := nT R bN
      clear bN
      try simp only [Act.put, sA, sZ, sS]
      refine rd1 27 (by kernel_rfl) rfl fun K hK => ?_
      ·go_simp
       refine Calls.mono (H3.out _ (okT.keep jy R) (okT.keep jv R)) ?_
       rintro r v38 ⟨a3, n3, c3, rfl, N3, O3, bN⟩
       refine hK.out _ _ (nT R bN) (fun _ => ?_)
       clear hK K
       revert Y0 Y1 Y2 Y3 Y4 Y5; refine zg3 bN ?_; intro Y0 Y1 Y2 Y3 Y4 Y5
       replace O0 := O0.keep bN
       replace O1 := O1.keep bN
       replace O2 := O2.keep bN
       replace O3 := O3.low R.size
       have M3 : Hid (n3 ≤ 1024) := N3
       clear N3
       replace R := nT R bN
       clear bN
       try simp only [Act.put, sA, sZ, sS]
       refine rd2 28 30 (by kernel_rfl) rfl rfl (fun K hK => ?_) fun K hK => ?_
       ·go_simp
        refine hK.out _ _ (bl_allocI R _) (fun _ => ?_)
        clear hK K
        have bN := below_one v38 (.cells #[.bool P1.1, .slice a1 n1 c1, .int .i64 P1.2.2, .bool P2.1, .slice a2 n2 c2, .int .i64 P2.2.2, .bool P3.1, .slice a3 n3 c3, .int .i64 P3.2.2] 25)
        have ne1 : YB ≠ v38.heap.size := Nat.ne_of_lt (World.block_lt_of_cell? _ _ Y0)
        revert Y0 Y1 Y2 Y3 Y4 Y5; refine zg3 bN ?_; intro Y0 Y1 Y2 Y3 Y4 Y5
        replace O0 := O0.keep bN
        replace O1 := O1.keep bN
        replace O2 := O2.keep bN
        replace O3 := O3.keep bN
        obtain ⟨E0, E1, E2, E3, E4, E5, E6, E7, E8⟩ := fX17 v38 P1 a1 n1 c1 P2 a2 n2 c2 P3 a3 n3 c3 _ rfl
        replace R := bl_allocI R (.cells #[.bool P1.1, .slice a1 n1 c1, .int .i64 P1.2.2, .bool P2.1, .slice a2 n2 c2, .int .i64 P2.2.2, .bool P3.1, .slice a3 n3 c3, .int .i64 P3.2.2] 25)
        clear bN
        try simp only [Act.put, sA, sZ, sS]
        generalize hb : v38.heap.size = BB at *
        generalize v38.alloc (.cells #[.bool P1.1, .slice a1 n1 c1, .int .i64 P1.2.2, .bool P2.1, .slice a2 n2 c2, .int .i64 P2.2.2, .bool P3.1, .slice a3 n3 c3, .int .i64 P3.2.2] 25) = v39 at *
        refine rd1 30 (by kernel_rfl) rfl fun K hK => ?_
        ·go_simp
         have bS : Below w0.heap.size w0 (((v39.setCell ⟨YB, 0, none⟩ (.bool P0.1)).setCell ⟨YB, 1, none⟩ (.slice a0 n0 c0)).setCell ⟨YB, 2, none⟩ (.int .i64 P0.2.2)) := ((R.setCell YL.out _).setCell YL.out _).setCell YL.out _
         refine hK.out _ _ bS (fun _ => ?_)
         clear hK K
         replace O0 := O0.set_dyI _ _ _ _ _ _ (.bool P0.1) (.slice a0 n0 c0) (.int .i64 P0.2.2) Y0 Y1 Y2
         replace O1 := O1.set_dyI _ _ _ _ _ _ (.bool P0.1) (.slice a0 n0 c0) (.int .i64 P0.2.2) Y0 Y1 Y2
         replace O2 := O2.set_dyI _ _ _ _ _ _ (.bool P0.1) (.slice a0 n0 c0) (.int .i64 P0.2.2) Y0 Y1 Y2
         replace O3 := O3.set_dyI _ _ _ _ _ _ (.bool P0.1) (.slice a0 n0 c0) (.int .i64 P0.2.2) Y0 Y1 Y2
         replace E0 := set3_otherI E0 (by first | exact ne1 | exact Ne.symm ne1) (.bool P0.1) (.slice a0 n0 c0) (.int .i64 P0.2.2)
         replace E1 := set3_otherI E1 (by first | exact ne1 | exact Ne.symm ne1) (.bool P0.1) (.slice a0 n0 c0) (.int .i64 P0.2.2)
         replace E2 := set3_otherI E2 (by first | exact ne1 | exact Ne.symm ne1) (.bool P0.1) (.slice a0 n0 c0) (.int .i64 P0.2.2)
         replace E3 := set3_otherI E3 (by first | exact ne1 | exact Ne.symm ne1) (.bool P0.1) (.slice a0 n0 c0) (.int .i64 P0.2.2)
         replace E4 := set3_otherI E4 (by first | exact ne1 | exact Ne.symm ne1) (.bool P0.1) (.slice a0 n0 c0) (.int .i64 P0.2.2)
         replace E5 := set3_otherI E5 (by first | exact ne1 | exact Ne.symm ne1) (.bool P0.1) (.slice a0 n0 c0) (.int .i64 P0.2.2)
         replace E6 := set3_otherI E6 (by first | exact ne1 | exact Ne.symm ne1) (.bool P0.1) (.slice a0 n0 c0) (.int .i64 P0.2.2)
         replace E7 := set3_otherI E7 (by first | exact ne1 | exact Ne.symm ne1) (.bool P0.1) (.slice a0 n0 c0) (.int .i64 P0.2.2)
         replace E8 := set3_otherI E8 (by first | exact ne1 | exact Ne.symm ne1) (.bool P0.1) (.slice a0 n0 c0) (.int .i64 P0.2.2)
         obtain ⟨Z0, Z1, Z2⟩ := set3_sameI (v0 := .bool P0.1) (v1 := .slice a0 n0 c0) (v2 := .int .i64 P0.2.2) Y0 Y1 Y2
         clear Y0 Y1 Y2 Y3 Y4 Y5 R
         try simp only [Act.put, sA, sZ, sS]
         generalize (((v39.setCell ⟨YB, 0, none⟩ (.bool P0.1)).setCell ⟨YB, 1, none⟩ (.slice a0 n0 c0)).setCell ⟨YB, 2, none⟩ (.int .i64 P0.2.2)) = v40 at *
         have R := bS
         clear bS
         refine rd1 31 (by kernel_rfl) rfl fun K hK => ?_
         go_simp
         refine hK.out _ _ R (fun _ => ?_)
         clear hK K
         try simp only [Act.put, sA, sZ, sS]
         refine wpAnyH_done (by kernel_rfl) ?_ _
         go_wp2_with fail
         go_meet
         case rel => exact ⟨a0, n0, c0, a1, n1, c1, a2, n2, c2, a3, n3, c3, YB, BB, rfl, rfl, YL, M0, M1, M2, M3, O0, O1, O2, O3, Z0, Z1, Z2, E0, E1, E2, E3, E4, E5, E6, E7, E8, R⟩
       ·go_simp
        have bS : Below w0.heap.size w0 (((v38.setCell ⟨YB, 0, none⟩ (.bool P0.1)).setCell ⟨YB, 1, none⟩ (.slice a0 n0 c0)).setCell ⟨YB, 2, none⟩ (.int .i64 P0.2.2)) := ((R.setCell YL.out _).setCell YL.out _).setCell YL.out _
        refine hK.out _ _ bS (fun _ => ?_)
        clear hK K
        replace O0 := O0.set_dyI _ _ _ _ _ _ (.bool P0.1) (.slice a0 n0 c0) (.int .i64 P0.2.2) Y0 Y1 Y2
        replace O1 := O1.set_dyI _ _ _ _ _ _ (.bool P0.1) (.slice a0 n0 c0) (.int .i64 P0.2.2) Y0 Y1 Y2
        replace O2 := O2.set_dyI _ _ _ _ _ _ (.bool P0.1) (.slice a0 n0 c0) (.int .i64 P0.2.2) Y0 Y1 Y2
        replace O3 := O3.set_dyI _ _ _ _ _ _ (.bool P0.1) (.slice a0 n0 c0) (.int .i64 P0.2.2) Y0 Y1 Y2
        obtain ⟨Z0, Z1, Z2⟩ := set3_sameI (v0 := .bool P0.1) (v1 := .slice a0 n0 c0) (v2 := .int .i64 P0.2.2) Y0 Y1 Y2
        clear Y0 Y1 Y2 Y3 Y4 Y5 R
        try simp only [Act.put, sA, sZ, sS]
        generalize (((v38.setCell ⟨YB, 0, none⟩ (.bool P0.1)).setCell ⟨YB, 1, none⟩ (.slice a0 n0 c0)).setCell ⟨YB, 2, none⟩ (.int .i64 P0.2.2)) = v41 at *
        have R := bS
        clear bS
        refine rd1 28 (by kernel_rfl) rfl fun K hK => ?_
        ·go_simp
         refine hK.out _ _ (bl_allocI R _) (fun _ => ?_)
         clear hK K
         have bN := below_one v41 (.cells #[.bool P1.1, .slice a1 n1 c1, .int .i64 P1.2.2, .bool P2.1, .slice a2 n2 c2, .int .i64 P2.2.2, .bool P3.1, .slice a3 n3 c3, .int .i64 P3.2.2] 25)
         revert Z0 Z1 Z2; refine cc3 bN ?_; intro Z0 Z1 Z2
         replace O0 := O0.keep bN
         replace O1 := O1.keep bN
         replace O2 := O2.keep bN
         replace O3 := O3.keep bN
         obtain ⟨E0, E1, E2, E3, E4, E5, E6, E7, E8⟩ := fX17 v41 P1 a1 n1 c1 P2 a2 n2 c2 P3 a3 n3 c3 _ rfl
         replace R := bl_allocI R (.cells #[.bool P1.1, .slice a1 n1 c1, .int .i64 P1.2.2, .bool P2.1, .slice a2 n2 c2, .int .i64 P2.2.2, .bool P3.1, .slice a3 n3 c3, .int .i64 P3.2.2] 25)
         clear bN
         try simp only [Act.put, sA, sZ, sS]
         generalize hb : v41.heap.size = BB at *
         generalize v41.alloc (.cells #[.bool P1.1, .slice a1 n1 c1, .int .i64 P1.2.2, .bool P2.1, .slice a2 n2 c2, .int .i64 P2.2.2, .bool P3.1, .slice a3 n3 c3, .int .i64 P3.2.2] 25) = v42 at *
         refine rd1 31 (by kernel_rfl) rfl fun K hK => ?_
         go_simp
         refine hK.out _ _ R (fun _ => ?_)
         clear hK K
         try simp only [Act.put, sA, sZ, sS]
         refine wpAnyH_done (by kernel_rfl) ?_ _
         go_wp2_with fail
         go_meet
         case rel => exact ⟨a0, n0, c0, a1, n1, c1, a2, n2, c2, a3, n3, c3, YB, BB, rfl, rfl, YL, M0, M1, M2, M3, O0, O1, O2, O3, Z0, Z1, Z2, E0, E1, E2, E3, E4, E5, E6, E7, E8, R⟩
 case rest =>
  obtain ⟨a0, n0, c0, a1, n1, c1, a2, n2, c2, a3, n3, c3, YB, BB, rfl, rfl, hYL, M0, M1, M2, M3, O0, O1, O2, O3, Z0, Z1, Z2, E0, E1, E2, E3, E4, E5, E6, E7, E8, bS⟩ := hcut
  revert z0 f0 z1 f1 z2 f2 z3 f3 z4 f4 z5 f5; refine zf6 bS ?_; intro z0 f0 z1 f1 z2 f2 z3 f3 z4 f4 z5 f5
  have G0 : OwP w.heap.size _ P0 a0 n0 c0 := ⟨M0.out, O0.low bA.size⟩
  clear M0 O0
  have G1 : OwP w.heap.size _ P1 a1 n1 c1 := ⟨M1.out, O1.low bA.size⟩
  clear M1 O1
  have G2 : OwP w.heap.size _ P2 a2 n2 c2 := ⟨M2.out, O2.low bA.size⟩
  clear M2 O2
  have G3 : OwP w.heap.size _ P3 a3 n3 c3 := ⟨M3.out, O3.low bA.size⟩
  clear M3 O3
  replace tt := tt.kept bS
  replace bA := nT bA bS
  clear bS k0 l0 k1 l1 k2 l2 k3 l3 k4 l4 k5 l5 cX jx jy ju jv H0 H1 H2 H3
  have HL : Hid _ := fun w' (q0 : okT w' (mT P0 a0 n0 c0)) (q1 : okT w' (mT P1 a1 n1 c1)) (q2 : okT w' (mT P2 a2 n2 c2)) (q3 : okT w' (mT P3 a3 n3 c3)) e0 e1 e2 e3 e4 e5 e6 e7 e8 tt => lowOut3_calls (mT P0 a0 n0 c0) (mT P1 a1 n1 c1) (mT P2 a2 n2 c2) (mT P3 a3 n3 c3) BB w' q0 q1 q2 q3 e0 e1 e2 e3 e4 e5 e6 e7 e8 tt
  have HH : Hid _ := fun w' (q0 : okT w' (mT P0 a0 n0 c0)) (q1 : okT w' (mT P1 a1 n1 c1)) (q2 : okT w' (mT P2 a2 n2 c2)) (q3 : okT w' (mT P3 a3 n3 c3)) e0 e1 e2 e3 e4 e5 e6 e7 e8 tt => uppOut3_calls (mT P0 a0 n0 c0) (mT P1 a1 n1 c1) (mT P2 a2 n2 c2) (mT P3 a3 n3 c3) BB w' q0 q1 q2 q3 e0 e1 e2 e3 e4 e5 e6 e7 e8 tt
  have HLe : Hid _ := fun w' => lowEnd_calls w'
  have HHe : Hid _ := fun w' => uppEnd_calls w'
  go_upto_region 2 with fail
  have R : Below wc.heap.size wc (World.drew wc) := (Below.refl _ _).drew
  refine wp_region_held (S := fun w' => w'.cell? ⟨YB, 0, none⟩ = some (.bool P0.1) ∧ w'.cell? ⟨YB, 1, none⟩ = some (.slice a0 n0 c0) ∧ w'.cell? ⟨YB, 2, none⟩ = some (.int .i64 P0.2.2)) (by kernel_rfl) ?_
  change wpAnyH _ _ _ _ _ _ _ _ (World.drew wc)
  generalize World.drew wc = wd at R ⊢
  have lz : Hid (w.heap.size + 1 + 1 ≠ YB) := by have := hYL.out; rw [Hid]; omega
  revert z0 f0 z1 f1 z2 f2 z3 f3 z4 f4 z5 f5; refine zf6 R ?_; intro z0 f0 z1 f1 z2 f2 z3 f3 z4 f4 z5 f5
  revert Z0 Z1 Z2 E0 E1 E2; refine cc6 R ?_; intro Z0 Z1 Z2 E0 E1 E2
  revert E3 E4 E5 E6 E7 E8; refine cc6 R ?_; intro E3 E4 E5 E6 E7 E8
  replace G0 := G0.keep R
  replace G1 := G1.keep R
  replace G2 := G2.keep R
  replace G3 := G3.keep R
  replace tt := tt.kept R
  replace bA := nT bA R
  clear R
  refine wpAnyH_take (i := 1) (v := dT (mT P0 a0 n0 c0)) rfl (by kernel_rfl) (by kernel_rfl) (by kernel_rfl) (fun _ _ _ h => h) (Or.inl ⟨by rfl, ?y25⟩) ⟨Z0, Z1, Z2⟩ ?r25
  case y25 => (intro ww hS; obtain ⟨q0, q1, q2⟩ := hS; go_simp; try with_reducible rfl)
  try simp only [Act.put, sA]
  refine wpAnyH_take (i := 2) (v := .slice (some ⟨BB, 0, none⟩) 3 3) rfl (by kernel_rfl) (by kernel_rfl) (by kernel_rfl) (fun _ _ _ h => h) (Or.inl ⟨by rfl, ?y26⟩) ⟨Z0, Z1, Z2⟩ ?r26
  case y26 => (intro ww hS; obtain ⟨q0, q1, q2⟩ := hS; go_simp; try with_reducible rfl)
  try simp only [Act.put]
  refine wpAnyH_take (i := 5) (v := dT (mT P0 a0 n0 c0)) rfl (by kernel_rfl) (by kernel_rfl) (by kernel_rfl) (fun _ _ _ h => h) (Or.inl ⟨by rfl, ?y27⟩) ⟨Z0, Z1, Z2⟩ ?r27
  case y27 => (intro ww hS; obtain ⟨q0, q1, q2⟩ := hS; go_simp; try with_reducible rfl)
  try simp only [Act.put]
  refine wpAnyH_take (i := 6) (v := .slice (some ⟨BB, 0, none⟩) 3 3) rfl (by kernel_rfl) (by kernel_rfl) (by kernel_rfl) (fun _ _ _ h => h) (Or.inl ⟨by rfl, ?y28⟩) ⟨Z0, Z1, Z2⟩ ?r28
  case y28 => (intro ww hS; obtain ⟨q0, q1, q2⟩ := hS; go_simp; try with_reducible rfl)
  try simp only [Act.put]
  refine rd1 0 (by kernel_rfl) rfl fun K hK => ?_
  go_simp
  refine Calls.mono (HLe.out _) ?_
  rintro r wl1 ⟨rfl, bN⟩
  revert z0 f0 z1 f1 z2 f2 z3 f3 z4 f4 z5 f5; refine zf6 bN ?_; intro z0 f0 z1 f1 z2 f2 z3 f3 z4 f4 z5 f5
  revert Z0 Z1 Z2 E0 E1 E2; refine cc6 bN ?_; intro Z0 Z1 Z2 E0 E1 E2
  revert E3 E4 E5 E6 E7 E8; refine cc6 bN ?_; intro E3 E4 E5 E6 E7 E8
  replace G0 := G0.keep bN
  replace G1 := G1.keep bN
  replace G2 := G2.keep bN
  replace G3 := G3.keep bN
  replace tt := tt.kept bN
  replace bA := nT bA bN
  clear bN
  refine hK.out _ _ ⟨Z0, Z1, Z2⟩ (fun _ => ?_)
  clear hK K
  try simp only [Act.put, sA, sZ, sS]
  refine rd1 3 (by kernel_rfl) rfl fun K hK => ?_
  go_simp
  refine Calls.mono (HL.out _ (G0.ok B0.out) (G1.ok B1.out) (G2.ok B2.out) (G3.ok B3.out) E0 E1 E2 E3 E4 E5 E6 E7 E8 tt) ?_
  rintro r wl2 ⟨rfl, bN⟩
  revert z0 f0 z1 f1 z2 f2 z3 f3 z4 f4 z5 f5; refine zf6 bN ?_; intro z0 f0 z1 f1 z2 f2 z3 f3 z4 f4 z5 f5
  revert Z0 Z1 Z2 E0 E1 E2; refine cc6 bN ?_; intro Z0 Z1 Z2 E0 E1 E2
  revert E3 E4 E5 E6 E7 E8; refine cc6 bN ?_; intro E3 E4 E5 E6 E7 E8
  replace G0 := G0.keep bN
  replace G1 := G1.keep bN
  replace G2 := G2.keep bN
  replace G3 := G3.keep bN
  replace tt := tt.kept bN
  replace bA := nT bA bN
  clear bN
  obtain ⟨bl, ml, dl, el, ol⟩ := pk4_own (lo := true) G0 G1 G2 G3
  rw [el]
  clear el
  refine hK.out _ _ ⟨Z0, Z1, Z2⟩ (fun _ => ?_)
  clear hK K
  try simp only [Act.put, sA, sZ, sS]
  refine rd1 4 (by kernel_rfl) rfl fun K hK => ?_
  go_simp
  refine Calls.mono (HHe.out _) ?_
  rintro r wh1 ⟨rfl, bN⟩
  revert z0 f0 z1 f1 z2 f2 z3 f3 z4 f4 z5 f5; refine zf6 bN ?_; intro z0 f0 z1 f1 z2 f2 z3 f3 z4 f4 z5 f5
  revert Z0 Z1 Z2 E0 E1 E2; refine cc6 bN ?_; intro Z0 Z1 Z2 E0 E1 E2
  revert E3 E4 E5 E6 E7 E8; refine cc6 bN ?_; intro E3 E4 E5 E6 E7 E8
  replace G0 := G0.keep bN
  replace G1 := G1.keep bN
  replace G2 := G2.keep bN
  replace G3 := G3.keep bN
  replace ol := OwP.keep ol bN
  replace tt := tt.kept bN
  replace bA := nT bA bN
  clear bN
  refine hK.out _ _ ⟨Z0, Z1, Z2⟩ (fun _ => ?_)
  clear hK K
  try simp only [Act.put, sA, sZ, sS]
  refine rd1 7 (by kernel_rfl) rfl fun K hK => ?_
  go_simp
  refine Calls.mono (HH.out _ (G0.ok B0.out) (G1.ok B1.out) (G2.ok B2.out) (G3.ok B3.out) E0 E1 E2 E3 E4 E5 E6 E7 E8 tt) ?_
  rintro r wh2 ⟨rfl, bN⟩
  revert z0 f0 z1 f1 z2 f2 z3 f3 z4 f4 z5 f5; refine zf6 bN ?_; intro z0 f0 z1 f1 z2 f2 z3 f3 z4 f4 z5 f5
  revert Z0 Z1 Z2 E0 E1 E2; refine cc6 bN ?_; intro Z0 Z1 Z2 E0 E1 E2
  revert E3 E4 E5 E6 E7 E8; refine cc6 bN ?_; intro E3 E4 E5 E6 E7 E8
  replace G0 := G0.keep bN
  replace G1 := G1.keep bN
  replace G2 := G2.keep bN
  replace G3 := G3.keep bN
  replace ol := OwP.keep ol bN
  replace tt := tt.kept bN
  replace bA := nT bA bN
  clear bN
  obtain ⟨bh, mh, dh, eh, oh⟩ := pk4_own (lo := false) G0 G1 G2 G3
  rw [eh]
  clear eh
  refine hK.out _ _ ⟨Z0, Z1, Z2⟩ (fun _ => ?_)
  clear hK K
  try simp only [Act.put, sA, sZ, sS]
  refine rd1 8 (by kernel_rfl) rfl fun K hK => ?_
  go_simp
  refine hK.out _ _ ⟨Z0, Z1, Z2⟩ (fun _ => ?_)
  clear hK K
  try simp only [Act.put, sA, sZ, sS]
  refine rd1 9 (by kernel_rfl) rfl fun K hK => ?_
  go_simp
  refine hK.out _ _ ⟨cell_six6 Z0 lz.out _ _ _ _ _ _, cell_six6 Z1 lz.out _ _ _ _ _ _, cell_six6 Z2 lz.out _ _ _ _ _ _⟩ (fun _ => ?_)
  clear hK K
  try simp only [Act.put, sA, sZ, sS]
  refine rd1 10 (by kernel_rfl) rfl fun K hK => ?_
  go_simp
  refine hK.out _ _ ⟨cell_six6 Z0 lz.out _ _ _ _ _ _, cell_six6 Z1 lz.out _ _ _ _ _ _, cell_six6 Z2 lz.out _ _ _ _ _ _⟩ (fun _ => ?_)
  clear hK K
  try simp only [Act.put, sA, sZ, sS]
  refine wpAnyH_done (by kernel_rfl) ?_ _
  go_wp2_with fail
  have s6 := six_ofI z0 z1 z2 z3 z4 z5 (fun _ q => by cases q) (fun _ q => by cases q) (fun _ q => by cases q) (fun _ q => by cases q) (fun _ q => by cases q) (fun _ q => by cases q)
  exact bodyPost_ret (v := .tuple #[ivT (mT (pk4 true P0 P1 P2 P3) bl ml dl) (mT (pk4 false P0 P1 P2 P3) bh mh dh), .int .i64 0]) (by simp [results, Tryz.results87, go_sem, z0, z1, z2, z3, z4, z5]) rfl ⟨bl, ml, dl, bh, mh, dh, rfl, ⟨ol.1, ownW_sixI ol.2 s6 _ _ _ _ _ _⟩, ⟨oh.1, ownW_sixI oh.2 s6 _ _ _ _ _ _⟩, by repeat (first | (with_reducible exact bA) | (with_reducible refine Below.setCell ?_ (by simp; try omega) _))⟩
end Go.Proofs.YtbhneifafnoaiaaGreatDoor

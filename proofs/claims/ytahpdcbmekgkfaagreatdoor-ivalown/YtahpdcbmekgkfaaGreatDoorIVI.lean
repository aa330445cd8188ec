/- Package ival: each end of the one with each end of the other, divided; between the outmost two lies all. -/
import Derived.Test.YtahpdcbmekgkfaaGreatDoorCR2
import Derived.Test.YtahpdcbmekgkfaaGreatDoorAL
import Derived.Test.YtahpdcbmekgkfaaGreatDoorIVH
import Derived.Test.YtahpdcbmekgkfaaGreatDoorIVR
import Derived.Test.YtahpdcbmekgkfaaGreatDoorIVGU
import Derived.Test.YtahpdcbmekgkfaaGreatDoorITX
namespace Go.Proofs.YtahpdcbmekgkfaaGreatDoor
open Go.RowKit
theorem mkA_blen (Q : Nat) (more : Bool) (K : Nat) (hK : 1 ≤ K) (h : blen Q ≤ K) : blen (mkA Q more) ≤ K := by
 have h2 := (blen_le _ _).1 h
 obtain ⟨k, rfl⟩ : ∃ k, K = k + 1 := ⟨K - 1, by omega⟩
 refine (blen_le _ _).2 ?_
 rw [Nat.pow_succ] at *
 unfold mkA
 split <;> omega
theorem quP_ok {w : World} {x y : DT} {p : Nat} (hx : okT w x) (hy : okT w y) (hy0 : val y.2.2.2.2.1 ≠ 0) (hp : 1 ≤ p ∧ p ≤ 8192) (ex : -40000 ≤ x.2.2.2.2.2 ∧ x.2.2.2.2.2 ≤ 40000) (ey : -40000 ≤ y.2.2.2.2.2 ∧ y.2.2.2.2.2 ≤ 40000) :
  greatB (quP x y p).2.1 = false ∧ -100000000 ≤ (quP x y p).2.2 ∧ (quP x y p).2.2 ≤ 100000000 := by
 unfold quP
 by_cases z : val x.2.2.2.2.1 = 0
 ·rw [if_pos z]; exact ⟨great_zero, by decide, by decide⟩
 ·rw [if_neg z]
  have a1 := (great_not _).1 hx.2.2.1
  have a2 := (great_not _).1 hy.2.2.1
  have hb := (quo_bits (val x.2.2.2.2.1) (val y.2.2.2.2.1) p z hy0).2
  have hw : quW (val x.2.2.2.2.1) (val y.2.2.2.2.1) p ≤ 1200 := by unfold quW; omega
  refine ⟨?_, ?_, ?_⟩
  ·rw [great_not]
   exact mkA_blen _ _ _ (by decide) (by omega)
  ·show _ ≤ x.2.2.2.2.2 - y.2.2.2.2.2 - 64 * (quW _ _ _ : Int)
   omega
  ·show x.2.2.2.2.2 - y.2.2.2.2.2 - 64 * (quW _ _ _ : Int) ≤ _
   omega
abbrev mT (P : Bool × Nat × Int) (a : Option Addr) (n c : Nat) : DT := (P.1, a, n, c, wO P.2.1, P.2.2)
def OwP (B : Nat) (w : World) (P : Bool × Nat × Int) (a : Option Addr) (n c : Nat) : Prop := n ≤ 1024 ∧ OwnW B w a n c (wO P.2.1)
def pkP (lo : Bool) (m d : Bool × Nat × Int) : Bool × Nat × Int := if (lo = true ∧ cmpD (formD d.1 d.2.1 d.2.2) (formD m.1 m.2.1 m.2.2) < 0) ∨ (lo = false ∧ 0 < cmpD (formD d.1 d.2.1 d.2.2) (formD m.1 m.2.1 m.2.2)) then d else m
def pk4 (lo : Bool) (a b c d : Bool × Nat × Int) : Bool × Nat × Int := pkP lo (pkP lo (pkP lo a b) c) d
theorem pk_own {lo : Bool} {B : Nat} {w : World} {P Q : Bool × Nat × Int} {a : Option Addr} {n c : Nat} {a' : Option Addr} {n' c' : Nat} (h : OwP B w P a n c) (h' : OwP B w Q a' n' c') :
  ∃ b m d, pkT lo (mT P a n c) (mT Q a' n' c') = mT (pkP lo P Q) b m d ∧ OwP B w (pkP lo P Q) b m d := by
 unfold pkT pkP tT
 simp only [val_words]
 split
 ·exact ⟨a', n', c', rfl, h'⟩
 ·exact ⟨a, n, c, rfl, h⟩
theorem pk4_own {lo : Bool} {B : Nat} {w : World} {P Q R S : Bool × Nat × Int} {a0 a1 a2 a3 : Option Addr} {n0 c0 n1 c1 n2 c2 n3 c3 : Nat} (h0 : OwP B w P a0 n0 c0) (h1 : OwP B w Q a1 n1 c1) (h2 : OwP B w R a2 n2 c2) (h3 : OwP B w S a3 n3 c3) :
  ∃ b m d, pkT lo (pkT lo (pkT lo (mT P a0 n0 c0) (mT Q a1 n1 c1)) (mT R a2 n2 c2)) (mT S a3 n3 c3) = mT (pk4 lo P Q R S) b m d ∧ OwP B w (pk4 lo P Q R S) b m d := by
 obtain ⟨b, m, d, e, o⟩ := pk_own (lo := lo) h0 h1
 rw [e]
 obtain ⟨b, m, d, e, o⟩ := pk_own (lo := lo) o h2
 rw [e]
 exact pk_own o h3
theorem OwP.keep {B : Nat} {w w' : World} {P : Bool × Nat × Int} {a : Option Addr} {n c : Nat} (h : OwP B w P a n c) (b : Below w.heap.size w w') : OwP B w' P a n c := ⟨h.1, h.2.keep b⟩
theorem OwP.ok {B : Nat} {w : World} {P : Bool × Nat × Int} {a : Option Addr} {n c : Nat} (h : OwP B w P a n c) (g : greatB P.2.1 = false ∧ -100000000 ≤ P.2.2 ∧ P.2.2 ≤ 100000000) : okT w (mT P a n c) := ⟨h.2.1, by have := h.1; show n ≤ _; omega, by show greatB (val (wO P.2.1)) = false; rw [val_words]; exact g.1, g.2⟩
set_option maxRecDepth 100000 in
set_option maxHeartbeats 16000000 in
theorem crossQ_calls (x y u v : DT) (p : Nat) (X : Nat) (w : World) (hx : okT w x) (hy : okT w y) (hu : okT w u) (hv : okT w v) (u0 : val u.2.2.2.2.1 ≠ 0) (v0 : val v.2.2.2.2.1 ≠ 0) (hp : 1 ≤ p ∧ p ≤ 8192) (ex : -40000 ≤ x.2.2.2.2.2 ∧ x.2.2.2.2.2 ≤ 40000) (ey : -40000 ≤ y.2.2.2.2.2 ∧ y.2.2.2.2.2 ≤ 40000) (eu : -40000 ≤ u.2.2.2.2.2 ∧ u.2.2.2.2.2 ≤ 40000) (ev : -40000 ≤ v.2.2.2.2.2 ∧ v.2.2.2.2.2 ≤ 40000) (cq : w.cell? ⟨X, 0, none⟩ = some (.func (.func 105) #[] #[])) (hT : Tab w) :
  Calls Tryz.prog 131 #[ivT x y, ivT u v, .int .i64 (p : Int), .pointer (some ⟨X, 0, none⟩)] w fun r w' => ∃ al nl cl ah nh ch, r = .returned (.tuple #[ivT (mT (pk4 true (quP x u p) (quP x v p) (quP y u p) (quP y v p)) al nl cl) (mT (pk4 false (quP x u p) (quP x v p) (quP y u p) (quP y v p)) ah nh ch), .int .i64 0]) ∧ OwP w.heap.size w' (pk4 true (quP x u p) (quP x v p) (quP y u p) (quP y v p)) al nl cl ∧ OwP w.heap.size w' (pk4 false (quP x u p) (quP x v p) (quP y u p) (quP y v p)) ah nh ch ∧ Below w.heap.size w w' := by
 have H0 : Hid _ := fun w' (q : okT w' x) (q' : okT w' u) => quotient_calls x u p w' q q' u0 hp
 have B0 : Hid (greatB (quP x u p).2.1 = false ∧ -100000000 ≤ (quP x u p).2.2 ∧ (quP x u p).2.2 ≤ 100000000) := quP_ok hx hu u0 hp ex eu
 have H1 : Hid _ := fun w' (q : okT w' x) (q' : okT w' v) => quotient_calls x v p w' q q' v0 hp
 have B1 : Hid (greatB (quP x v p).2.1 = false ∧ -100000000 ≤ (quP x v p).2.2 ∧ (quP x v p).2.2 ≤ 100000000) := quP_ok hx hv v0 hp ex ev
 have H2 : Hid _ := fun w' (q : okT w' y) (q' : okT w' u) => quotient_calls y u p w' q q' u0 hp
 have B2 : Hid (greatB (quP y u p).2.1 = false ∧ -100000000 ≤ (quP y u p).2.2 ∧ (quP y u p).2.2 ≤ 100000000) := quP_ok hy hu u0 hp ey eu
 have H3 : Hid _ := fun w' (q : okT w' y) (q' : okT w' v) => quotient_calls y v p w' q q' v0 hp
 have B3 : Hid (greatB (quP y v p).2.1 = false ∧ -100000000 ≤ (quP y v p).2.2 ∧ (quP y v p).2.2 ≤ 100000000) := quP_ok hy hv v0 hp ey ev
 generalize hq0 : quP x u p = P0 at *
 generalize hq1 : quP x v p = P1 at *
 generalize hq2 : quP y u p = P2 at *
 generalize hq3 : quP y v p = P3 at *
 have A1 := att_new x y w
 have b1 := below_one w (obT x y)
 have A2 := att_new u v (w.alloc (obT x y))
 have b2 := below_one (w.alloc (obT x y)) (obT u v)
 have ZR := zi_new ((w.alloc (obT x y)).alloc (obT u v))
 have b3 := below_one ((w.alloc (obT x y)).alloc (obT u v)) obZ
 replace A1 := (A1.keep b2).keep b3
 replace A2 := A2.keep b3
 have bA := nT (nT b1 b2) b3
 rw [show (w.alloc (obT x y)).heap.size = w.heap.size + 1 by simp] at A2
 rw [show ((w.alloc (obT x y)).alloc (obT u v)).heap.size = w.heap.size + 1 + 1 by simp] at ZR
 have jx := okT.keep hx bA
 have jy := okT.keep hy bA
 have ju := okT.keep hu bA
 have jv := okT.keep hv bA
 have tt := hT.kept bA
 have cX := kC bA cq
 clear hx hy hu hv hT ex ey eu ev u0 v0 hp hq0 hq1 hq2 hq3 b1 b2 b3
 go_enter Tryz.func131, Tryz.ntmps131
 go_upto_region 1 with fail
 generalize ((w.alloc (obT x y)).alloc (obT u v)).alloc obZ = w0 at *
 have hR0 : w.heap.size + 1 + 1 < w0.heap.size := World.block_lt_of_cell? _ _ ZR.1.1
 have SS : Hid (∀ W, Below w0.heap.size w0 W → AtT w.heap.size x y W ∧ AtT (w.heap.size + 1) u v W ∧ W.cell? ⟨X, 0, none⟩ = some (.func (.func 105) #[] #[])) := fun W b => ⟨A1.keep b, A2.keep b, kC b cX⟩
 clear A1 A2 cX cq
 go_cut [9, 10] from 11 to 48 (fun s9 s10 wx => ∃ (a0 : Option Addr) (n0 c0 : Nat) (a1 : Option Addr) (n1 c1 : Nat) (a2 : Option Addr) (n2 c2 : Nat) (a3 : Option Addr) (n3 c3 : Nat) (YB BB : Nat), s9 = .pointer (some ⟨YB, 0, none⟩) ∧ s10 = .slice (some ⟨BB, 0, none⟩) 3 3 ∧ Hid (w0.heap.size ≤ YB) ∧ OwP w0.heap.size wx P0 a0 n0 c0 ∧ OwP w0.heap.size wx P1 a1 n1 c1 ∧ OwP w0.heap.size wx P2 a2 n2 c2 ∧ OwP w0.heap.size wx P3 a3 n3 c3 ∧ At3 YB 0 1 2 (mT P0 a0 n0 c0) wx ∧ At3 BB 0 1 2 (mT P1 a1 n1 c1) wx ∧ At3 BB 3 4 5 (mT P2 a2 n2 c2) wx ∧ At3 BB 6 7 8 (mT P3 a3 n3 c3) wx ∧ Below w0.heap.size w0 wx)
 case first =>
  clear ZR tt hR0 bA
  have A : Below w0.heap.size w0 (World.drew w0) := (Below.refl _ _).drew
  refine wp_region_held (S := fun w' => AtT w.heap.size x y w' ∧ AtT (w.heap.size + 1) u v w' ∧ w'.cell? ⟨X, 0, none⟩ = some (.func (.func 105) #[] #[])) (by kernel_rfl) ?_
  change wpAnyH _ _ _ _ _ 32 #[false, false, false, false, false, false, false, false, false, false, false, false, false, false, false, false, false, false, false, false, false, false, false, false, false, false, false, false, false, false, false, false] _ (World.drew w0)
  generalize World.drew w0 = wv at A ⊢
  refine wpAnyH_tk (i := 0) (d := some 11) (v := .func (.func 105) #[] #[]) rfl rfl (by kernel_rfl) (by kernel_rfl) (by kernel_rfl) (fun _ _ _ h => h) (Or.inl ⟨by rfl, ?_⟩) (SS.out _ A) ?_
  ·intro ww hS
   obtain ⟨⟨q0, q1, q2, q3, q4, q5⟩, ⟨p0, p1, p2, p3, p4, p5⟩, qX⟩ := id hS
   clear hS
   go_simp
   try with_reducible rfl
  try simp only [Act.put, sA, sZ, sS]
  refine wpAnyH_tk (i := 1) (d := some 12) (v := .pointer (some ⟨w.heap.size, 0, none⟩)) rfl rfl (by kernel_rfl) (by kernel_rfl) (by kernel_rfl) (fun _ _ _ h => h) (Or.inl ⟨by rfl, ?_⟩) (SS.out _ A) ?_
  ·intro ww hS
   clear hS
   go_simp
   try with_reducible rfl
  try simp only [Act.put, sA, sZ, sS]
  refine wpAnyH_tk (i := 2) (d := some 13) (v := dT x) rfl rfl (by kernel_rfl) (by kernel_rfl) (by kernel_rfl) (fun _ _ _ h => h) (Or.inl ⟨by rfl, ?_⟩) (SS.out _ A) ?_
  ·intro ww hS
   obtain ⟨⟨q0, q1, q2, q3, q4, q5⟩, ⟨p0, p1, p2, p3, p4, p5⟩, qX⟩ := id hS
   clear hS
   go_simp
   try with_reducible rfl
  try simp only [Act.put, sA, sZ, sS]
  refine wpAnyH_tk (i := 3) (d := some 14) (v := .pointer (some ⟨w.heap.size + 1, 0, none⟩)) rfl rfl (by kernel_rfl) (by kernel_rfl) (by kernel_rfl) (fun _ _ _ h => h) (Or.inl ⟨by rfl, ?_⟩) (SS.out _ A) ?_
  ·intro ww hS
   clear hS
   go_simp
   try with_reducible rfl
  try simp only [Act.put, sA, sZ, sS]
  refine wpAnyH_tk (i := 4) (d := some 15) (v := dT u) rfl rfl (by kernel_rfl) (by kernel_rfl) (by kernel_rfl) (fun _ _ _ h => h) (Or.inl ⟨by rfl, ?_⟩) (SS.out _ A) ?_
  ·intro ww hS
   obtain ⟨⟨q0, q1, q2, q3, q4, q5⟩, ⟨p0, p1, p2, p3, p4, p5⟩, qX⟩ := id hS
   clear hS
   go_simp
   try with_reducible rfl
  try simp only [Act.put, sA, sZ, sS]
  refine wpAnyH_tk (i := 5) (d := some 16) (v := .int .i64 (p : Int)) rfl rfl (by kernel_rfl) (by kernel_rfl) (by kernel_rfl) (fun _ _ _ h => h) (Or.inl ⟨by rfl, ?_⟩) (SS.out _ A) ?_
  ·intro ww hS
   clear hS
   go_simp
   try with_reducible rfl
  try simp only [Act.put, sA, sZ, sS]
  refine wpAnyH_tk (i := 7) (d := some 18) (v := .func (.func 105) #[] #[]) rfl rfl (by kernel_rfl) (by kernel_rfl) (by kernel_rfl) (fun _ _ _ h => h) (Or.inl ⟨by rfl, ?_⟩) (SS.out _ A) ?_
  ·intro ww hS
   obtain ⟨⟨q0, q1, q2, q3, q4, q5⟩, ⟨p0, p1, p2, p3, p4, p5⟩, qX⟩ := id hS
   clear hS
   go_simp
   try with_reducible rfl
  try simp only [Act.put, sA, sZ, sS]
  refine wpAnyH_tk (i := 8) (d := some 19) (v := .pointer (some ⟨w.heap.size, 0, none⟩)) rfl rfl (by kernel_rfl) (by kernel_rfl) (by kernel_rfl) (fun _ _ _ h => h) (Or.inl ⟨by rfl, ?_⟩) (SS.out _ A) ?_
  ·intro ww hS
   clear hS
   go_simp
   try with_reducible rfl
  try simp only [Act.put, sA, sZ, sS]
  refine wpAnyH_tk (i := 9) (d := some 20) (v := dT x) rfl rfl (by kernel_rfl) (by kernel_rfl) (by kernel_rfl) (fun _ _ _ h => h) (Or.inl ⟨by rfl, ?_⟩) (SS.out _ A) ?_
  ·intro ww hS
   obtain ⟨⟨q0, q1, q2, q3, q4, q5⟩, ⟨p0, p1, p2, p3, p4, p5⟩, qX⟩ := id hS
   clear hS
   go_simp
   try with_reducible rfl
  try simp only [Act.put, sA, sZ, sS]
  refine wpAnyH_tk (i := 10) (d := some 21) (v := .pointer (some ⟨w.heap.size + 1, 3, none⟩)) rfl rfl (by kernel_rfl) (by kernel_rfl) (by kernel_rfl) (fun _ _ _ h => h) (Or.inl ⟨by rfl, ?_⟩) (SS.out _ A) ?_
  ·intro ww hS
   clear hS
   go_simp
   try with_reducible rfl
  try simp only [Act.put, sA, sZ, sS]
  refine wpAnyH_tk (i := 11) (d := some 22) (v := dT v) rfl rfl (by kernel_rfl) (by kernel_rfl) (by kernel_rfl) (fun _ _ _ h => h) (Or.inl ⟨by rfl, ?_⟩) (SS.out _ A) ?_
  ·intro ww hS
   obtain ⟨⟨q0, q1, q2, q3, q4, q5⟩, ⟨p0, p1, p2, p3, p4, p5⟩, qX⟩ := id hS
   clear hS
   go_simp
   try with_reducible rfl
  try simp only [Act.put, sA, sZ, sS]
  refine wpAnyH_tk (i := 12) (d := some 23) (v := .int .i64 (p : Int)) rfl rfl (by kernel_rfl) (by kernel_rfl) (by kernel_rfl) (fun _ _ _ h => h) (Or.inl ⟨by rfl, ?_⟩) (SS.out _ A) ?_
  ·intro ww hS
   clear hS
   go_simp
   try with_reducible rfl
  try simp only [Act.put, sA, sZ, sS]
  refine wpAnyH_tk (i := 14) (d := some 25) (v := .func (.func 105) #[] #[]) rfl rfl (by kernel_rfl) (by kernel_rfl) (by kernel_rfl) (fun _ _ _ h => h) (Or.inl ⟨by rfl, ?_⟩) (SS.out _ A) ?_
  ·intro ww hS
   obtain ⟨⟨q0, q1, q2, q3, q4, q5⟩, ⟨p0, p1, p2, p3, p4, p5⟩, qX⟩ := id hS
   clear hS
   go_simp
   try with_reducible rfl
  try simp only [Act.put, sA, sZ, sS]
  refine wpAnyH_tk (i := 15) (d := some 26) (v := .pointer (some ⟨w.heap.size, 3, none⟩)) rfl rfl (by kernel_rfl) (by kernel_rfl) (by kernel_rfl) (fun _ _ _ h => h) (Or.inl ⟨by rfl, ?_⟩) (SS.out _ A) ?_
  ·intro ww hS
   clear hS
   go_simp
   try with_reducible rfl
  try simp only [Act.put, sA, sZ, sS]
  refine wpAnyH_tk (i := 16) (d := some 27) (v := dT y) rfl rfl (by kernel_rfl) (by kernel_rfl) (by kernel_rfl) (fun _ _ _ h => h) (Or.inl ⟨by rfl, ?_⟩) (SS.out _ A) ?_
  ·intro ww hS
   obtain ⟨⟨q0, q1, q2, q3, q4, q5⟩, ⟨p0, p1, p2, p3, p4, p5⟩, qX⟩ := id hS
   clear hS
   go_simp
   try with_reducible rfl
  try simp only [Act.put, sA, sZ, sS]
  refine wpAnyH_tk (i := 17) (d := some 28) (v := .pointer (some ⟨w.heap.size + 1, 0, none⟩)) rfl rfl (by kernel_rfl) (by kernel_rfl) (by kernel_rfl) (fun _ _ _ h => h) (Or.inl ⟨by rfl, ?_⟩) (SS.out _ A) ?_
  ·intro ww hS
   clear hS
   go_simp
   try with_reducible rfl
  try simp only [Act.put, sA, sZ, sS]
  refine wpAnyH_tk (i := 18) (d := some 29) (v := dT u) rfl rfl (by kernel_rfl) (by kernel_rfl) (by kernel_rfl) (fun _ _ _ h => h) (Or.inl ⟨by rfl, ?_⟩) (SS.out _ A) ?_
  ·intro ww hS
   obtain ⟨⟨q0, q1, q2, q3, q4, q5⟩, ⟨p0, p1, p2, p3, p4, p5⟩, qX⟩ := id hS
   clear hS
   go_simp
   try with_reducible rfl
  try simp only [Act.put, sA, sZ, sS]
  refine wpAnyH_tk (i := 19) (d := some 30) (v := .int .i64 (p : Int)) rfl rfl (by kernel_rfl) (by kernel_rfl) (by kernel_rfl) (fun _ _ _ h => h) (Or.inl ⟨by rfl, ?_⟩) (SS.out _ A) ?_
  ·intro ww hS
   clear hS
   go_simp
   try with_reducible rfl
  try simp only [Act.put, sA, sZ, sS]
  refine wpAnyH_tk (i := 21) (d := some 32) (v := .func (.func 105) #[] #[]) rfl rfl (by kernel_rfl) (by kernel_rfl) (by kernel_rfl) (fun _ _ _ h => h) (Or.inl ⟨by rfl, ?_⟩) (SS.out _ A) ?_
  ·intro ww hS
   obtain ⟨⟨q0, q1, q2, q3, q4, q5⟩, ⟨p0, p1, p2, p3, p4, p5⟩, qX⟩ := id hS
   clear hS
   go_simp
   try with_reducible rfl
  try simp only [Act.put, sA, sZ, sS]
  refine wpAnyH_tk (i := 22) (d := some 33) (v := .pointer (some ⟨w.heap.size, 3, none⟩)) rfl rfl (by kernel_rfl) (by kernel_rfl) (by kernel_rfl) (fun _ _ _ h => h) (Or.inl ⟨by rfl, ?_⟩) (SS.out _ A) ?_
  ·intro ww hS
   clear hS
   go_simp
   try with_reducible rfl
  try simp only [Act.put, sA, sZ, sS]
  refine wpAnyH_tk (i := 23) (d := some 34) (v := dT y) rfl rfl (by kernel_rfl) (by kernel_rfl) (by kernel_rfl) (fun _ _ _ h => h) (Or.inl ⟨by rfl, ?_⟩) (SS.out _ A) ?_
  ·intro ww hS
   obtain ⟨⟨q0, q1, q2, q3, q4, q5⟩, ⟨p0, p1, p2, p3, p4, p5⟩, qX⟩ := id hS
   clear hS
   go_simp
   try with_reducible rfl
  try simp only [Act.put, sA, sZ, sS]
  refine wpAnyH_tk (i := 24) (d := some 35) (v := .pointer (some ⟨w.heap.size + 1, 3, none⟩)) rfl rfl (by kernel_rfl) (by kernel_rfl) (by kernel_rfl) (fun _ _ _ h => h) (Or.inl ⟨by rfl, ?_⟩) (SS.out _ A) ?_
  ·intro ww hS
   clear hS
   go_simp
   try with_reducible rfl
  try simp only [Act.put, sA, sZ, sS]
  refine wpAnyH_tk (i := 25) (d := some 36) (v := dT v) rfl rfl (by kernel_rfl) (by kernel_rfl) (by kernel_rfl) (fun _ _ _ h => h) (Or.inl ⟨by rfl, ?_⟩) (SS.out _ A) ?_
  ·intro ww hS
   obtain ⟨⟨q0, q1, q2, q3, q4, q5⟩, ⟨p0, p1, p2, p3, p4, p5⟩, qX⟩ := id hS
   clear hS
   go_simp
   try with_reducible rfl
  try simp only [Act.put, sA, sZ, sS]
  refine wpAnyH_tk (i := 26) (d := some 37) (v := .int .i64 (p : Int)) rfl rfl (by kernel_rfl) (by kernel_rfl) (by kernel_rfl) (fun _ _ _ h => h) (Or.inl ⟨by rfl, ?_⟩) (SS.out _ A) ?_
  ·intro ww hS
   clear hS
   go_simp
   try with_reducible rfl
  try simp only [Act.put, sA, sZ, sS]
  iterate 8
   all_goals
    first
    | (have _q := g6; have _q := g13; have _q := g20; have _q := g27; have _q := g28; have _q := g29; have _q := g30; refine wpAnyH_ready (rs := [31]) (by kernel_rfl) (by simp) ?_; refine AllReadyH.cons rfl (fun K hK => have mk31 := True.intro; ?_) (AllReadyH.nil))
    | (have _q := g6; have _q := g13; have _q := g20; have _q := g27; have _q := g28; have _q := g29; refine wpAnyH_ready (rs := [30]) (by kernel_rfl) (by simp) ?_; refine AllReadyH.cons rfl (fun K hK => have mk30 := True.intro; ?_) (AllReadyH.nil))
    | (have _q := g6; have _q := g13; have _q := g20; have _q := g27; have _q := g29; have _q := g30; refine wpAnyH_ready (rs := [28]) (by kernel_rfl) (by simp) ?_; refine AllReadyH.cons rfl (fun K hK => have mk28 := True.intro; ?_) (AllReadyH.nil))
    | (have _q := g6; have _q := g13; have _q := g20; have _q := g27; have _q := g28; refine wpAnyH_ready (rs := [29]) (by kernel_rfl) (by simp) ?_; refine AllReadyH.cons rfl (fun K hK => have mk29 := True.intro; ?_) (AllReadyH.nil))
    | (have _q := g6; have _q := g13; have _q := g20; have _q := g27; have _q := g29; refine wpAnyH_ready (rs := [28, 30]) (by kernel_rfl) (by simp) ?_; refine AllReadyH.cons rfl (fun K hK => have mk28 := True.intro; ?_) (AllReadyH.cons rfl (fun K hK => have mk30 := True.intro; ?_) (AllReadyH.nil)))
    | (have _q := g6; have _q := g13; have _q := g20; have _q := g27; refine wpAnyH_ready (rs := [28, 29]) (by kernel_rfl) (by simp) ?_; refine AllReadyH.cons rfl (fun K hK => have mk28 := True.intro; ?_) (AllReadyH.cons rfl (fun K hK => have mk29 := True.intro; ?_) (AllReadyH.nil)))
    | (have _q := g6; have _q := g13; have _q := g20; have _q := g29; refine wpAnyH_ready (rs := [27]) (by kernel_rfl) (by simp) ?_; refine AllReadyH.cons rfl (fun K hK => have mk27 := True.intro; ?_) (AllReadyH.nil))
    | (have _q := g6; have _q := g13; have _q := g20; refine wpAnyH_ready (rs := [27, 29]) (by kernel_rfl) (by simp) ?_; refine AllReadyH.cons rfl (fun K hK => have mk27 := True.intro; ?_) (AllReadyH.cons rfl (fun K hK => have mk29 := True.intro; ?_) (AllReadyH.nil)))
    | (have _q := g6; have _q := g13; have _q := g29; refine wpAnyH_ready (rs := [20]) (by kernel_rfl) (by simp) ?_; refine AllReadyH.cons rfl (fun K hK => have mk20 := True.intro; ?_) (AllReadyH.nil))
    | (have _q := g6; have _q := g13; refine wpAnyH_ready (rs := [20, 29]) (by kernel_rfl) (by simp) ?_; refine AllReadyH.cons rfl (fun K hK => have mk20 := True.intro; ?_) (AllReadyH.cons rfl (fun K hK => have mk29 := True.intro; ?_) (AllReadyH.nil)))
    | (have _q := g6; have _q := g29; refine wpAnyH_ready (rs := [13]) (by kernel_rfl) (by simp) ?_; refine AllReadyH.cons rfl (fun K hK => have mk13 := True.intro; ?_) (AllReadyH.nil))
    | (have _q := g6; refine wpAnyH_ready (rs := [13, 29]) (by kernel_rfl) (by simp) ?_; refine AllReadyH.cons rfl (fun K hK => have mk13 := True.intro; ?_) (AllReadyH.cons rfl (fun K hK => have mk29 := True.intro; ?_) (AllReadyH.nil)))
    | (have _q := g29; refine wpAnyH_ready (rs := [6]) (by kernel_rfl) (by simp) ?_; refine AllReadyH.cons rfl (fun K hK => have mk6 := True.intro; ?_) (AllReadyH.nil))
    | (refine wpAnyH_ready (rs := [6, 29]) (by kernel_rfl) (by simp) ?_; refine AllReadyH.cons rfl (fun K hK => have mk6 := True.intro; ?_) (AllReadyH.cons rfl (fun K hK => have mk29 := True.intro; ?_) (AllReadyH.nil)))
   all_goals
    first
    | (have _q := mk6; clear _q mk6
       go_simp
       refine cM (H0.out _ (jx.keep A) (ju.keep A)) ?_
       rintro r wn ⟨a0, n0, c0, rfl, i0, O0, bN⟩
       have G0 : OwP w0.heap.size wn P0 a0 n0 c0 := ⟨i0, O0.low A.size⟩
       clear i0 O0
       replace A := nT A bN
       try replace G1 := G1.keep bN
       try replace G2 := G2.keep bN
       try replace G3 := G3.keep bN
       try replace t1 := t1.keep bN
       try replace t2 := t2.keep bN
       try replace t3 := t3.keep bN
       try replace y0 := y0.keep bN
       try replace hZ := hZ.keep bN
       refine hK.out _ _ (SS.out _ A) (fun _ => ?_)
       clear bN
       generalize wn = wv at *
       clear hK K; (try simp only [sA, sZ, sS]); have g6 := True.intro)
    | (have _q := mk13; clear _q mk13
       go_simp
       refine cM (H1.out _ (jx.keep A) (jv.keep A)) ?_
       rintro r wn ⟨a1, n1, c1, rfl, i1, O1, bN⟩
       have G1 : OwP w0.heap.size wn P1 a1 n1 c1 := ⟨i1, O1.low A.size⟩
       clear i1 O1
       replace A := nT A bN
       try replace G0 := G0.keep bN
       try replace G2 := G2.keep bN
       try replace G3 := G3.keep bN
       try replace t1 := t1.keep bN
       try replace t2 := t2.keep bN
       try replace t3 := t3.keep bN
       try replace y0 := y0.keep bN
       try replace hZ := hZ.keep bN
       refine hK.out _ _ (SS.out _ A) (fun _ => ?_)
       clear bN
       generalize wn = wv at *
       clear hK K; (try simp only [sA, sZ, sS]); have g13 := True.intro)
    | (have _q := mk20; clear _q mk20
       go_simp
       refine cM (H2.out _ (jy.keep A) (ju.keep A)) ?_
       rintro r wn ⟨a2, n2, c2, rfl, i2, O2, bN⟩
       have G2 : OwP w0.heap.size wn P2 a2 n2 c2 := ⟨i2, O2.low A.size⟩
       clear i2 O2
       replace A := nT A bN
       try replace G0 := G0.keep bN
       try replace G1 := G1.keep bN
       try replace G3 := G3.keep bN
       try replace t1 := t1.keep bN
       try replace t2 := t2.keep bN
       try replace t3 := t3.keep bN
       try replace y0 := y0.keep bN
       try replace hZ := hZ.keep bN
       refine hK.out _ _ (SS.out _ A) (fun _ => ?_)
       clear bN
       generalize wn = wv at *
       clear hK K; (try simp only [sA, sZ, sS]); have g20 := True.intro)
    | (have _q := mk27; clear _q mk27
       go_simp
       refine cM (H3.out _ (jy.keep A) (jv.keep A)) ?_
       rintro r wn ⟨a3, n3, c3, rfl, i3, O3, bN⟩
       have G3 : OwP w0.heap.size wn P3 a3 n3 c3 := ⟨i3, O3.low A.size⟩
       clear i3 O3
       replace A := nT A bN
       try replace G0 := G0.keep bN
       try replace G1 := G1.keep bN
       try replace G2 := G2.keep bN
       try replace t1 := t1.keep bN
       try replace t2 := t2.keep bN
       try replace t3 := t3.keep bN
       try replace y0 := y0.keep bN
       try replace hZ := hZ.keep bN
       refine hK.out _ _ (SS.out _ A) (fun _ => ?_)
       clear bN
       generalize wn = wv at *
       clear hK K; (try simp only [sA, sZ, sS]); have g27 := True.intro)
    | (have _q := mk28; clear _q mk28
       go_simp
       have t1 : At3 wv.heap.size 0 1 2 (mT P1 a1 n1 c1) (wv.alloc (.cells #[.bool P1.1, .slice a1 n1 c1, .int .i64 P1.2.2, .bool P2.1, .slice a2 n2 c2, .int .i64 P2.2.2, .bool P3.1, .slice a3 n3 c3, .int .i64 P3.2.2] 25)) := by refine ⟨?_, ?_, ?_⟩ <;> go_simp
       have t2 : At3 wv.heap.size 3 4 5 (mT P2 a2 n2 c2) (wv.alloc (.cells #[.bool P1.1, .slice a1 n1 c1, .int .i64 P1.2.2, .bool P2.1, .slice a2 n2 c2, .int .i64 P2.2.2, .bool P3.1, .slice a3 n3 c3, .int .i64 P3.2.2] 25)) := by refine ⟨?_, ?_, ?_⟩ <;> go_simp
       have t3 : At3 wv.heap.size 6 7 8 (mT P3 a3 n3 c3) (wv.alloc (.cells #[.bool P1.1, .slice a1 n1 c1, .int .i64 P1.2.2, .bool P2.1, .slice a2 n2 c2, .int .i64 P2.2.2, .bool P3.1, .slice a3 n3 c3, .int .i64 P3.2.2] 25)) := by refine ⟨?_, ?_, ?_⟩ <;> go_simp
       try have hne : YB ≠ wv.heap.size := Nat.ne_of_lt (World.block_lt_of_cell? _ _ hZ.1.1)
       have bN := below_one wv (.cells #[.bool P1.1, .slice a1 n1 c1, .int .i64 P1.2.2, .bool P2.1, .slice a2 n2 c2, .int .i64 P2.2.2, .bool P3.1, .slice a3 n3 c3, .int .i64 P3.2.2] 25)
       replace A := nT A bN
       try replace G0 := G0.keep bN
       try replace G1 := G1.keep bN
       try replace G2 := G2.keep bN
       try replace G3 := G3.keep bN
       try replace y0 := y0.keep bN
       try replace hZ := hZ.keep bN
       refine hK.out _ _ (SS.out _ A) (fun _ => ?_)
       clear bN
       generalize wv.heap.size = BB at *
       generalize wv.alloc (.cells #[.bool P1.1, .slice a1 n1 c1, .int .i64 P1.2.2, .bool P2.1, .slice a2 n2 c2, .int .i64 P2.2.2, .bool P3.1, .slice a3 n3 c3, .int .i64 P3.2.2] 25) = wn at *
       generalize wn = wv at *
       clear hK K; (try simp only [sA, sZ, sS]); have g28 := True.intro)
    | (have _q := mk29; clear _q mk29
       go_simp
       have hZ := zd_new wv
       try have hne : wv.heap.size ≠ BB := Nat.ne_of_gt (World.block_lt_of_cell? _ _ t1.1)
       have lb := A.size
       have bN := below_one wv (.cells #[.bool false, .slice none 0 0, .int .i64 0] 25)
       replace A := nT A bN
       try replace G0 := G0.keep bN
       try replace G1 := G1.keep bN
       try replace G2 := G2.keep bN
       try replace G3 := G3.keep bN
       try replace t1 := t1.keep bN
       try replace t2 := t2.keep bN
       try replace t3 := t3.keep bN
       try replace y0 := y0.keep bN
       refine hK.out _ _ (SS.out _ A) (fun _ => ?_)
       clear bN
       generalize wv.heap.size = YB at *
       generalize wv.alloc (.cells #[.bool false, .slice none 0 0, .int .i64 0] 25) = wn at *
       generalize wn = wv at *
       clear hK K; (try simp only [sA, sZ, sS]); have g29 := True.intro)
    | (have _q := mk30; clear _q mk30
       obtain ⟨⟨y0, y1, y2⟩, f0, f1, f2⟩ := hZ
       go_simp
       have y00 : At3 YB 0 1 2 (mT P0 a0 n0 c0) (((wv.setCell ⟨YB, 0, none⟩ (.bool P0.1)).setCell ⟨YB, 1, none⟩ (.slice a0 n0 c0)).setCell ⟨YB, 2, none⟩ (.int .i64 P0.2.2)) := by refine ⟨?_, ?_, ?_⟩ <;> go_simp
       replace A : Below w0.heap.size w0 (((wv.setCell ⟨YB, 0, none⟩ (.bool P0.1)).setCell ⟨YB, 1, none⟩ (.slice a0 n0 c0)).setCell ⟨YB, 2, none⟩ (.int .i64 P0.2.2)) := ((A.setCell lb _).setCell lb _).setCell lb _
       replace G0 : OwP w0.heap.size _ P0 a0 n0 c0 := ⟨G0.1, G0.2.set_dyI YB _ _ _ _ _ (.bool P0.1) (.slice a0 n0 c0) (.int .i64 P0.2.2) y0 y1 y2⟩
       replace G1 : OwP w0.heap.size _ P1 a1 n1 c1 := ⟨G1.1, G1.2.set_dyI YB _ _ _ _ _ (.bool P0.1) (.slice a0 n0 c0) (.int .i64 P0.2.2) y0 y1 y2⟩
       replace G2 : OwP w0.heap.size _ P2 a2 n2 c2 := ⟨G2.1, G2.2.set_dyI YB _ _ _ _ _ (.bool P0.1) (.slice a0 n0 c0) (.int .i64 P0.2.2) y0 y1 y2⟩
       replace G3 : OwP w0.heap.size _ P3 a3 n3 c3 := ⟨G3.1, G3.2.set_dyI YB _ _ _ _ _ (.bool P0.1) (.slice a0 n0 c0) (.int .i64 P0.2.2) y0 y1 y2⟩
       try replace t1 := t1.three hne (.bool P0.1) (.slice a0 n0 c0) (.int .i64 P0.2.2)
       try replace t2 := t2.three hne (.bool P0.1) (.slice a0 n0 c0) (.int .i64 P0.2.2)
       try replace t3 := t3.three hne (.bool P0.1) (.slice a0 n0 c0) (.int .i64 P0.2.2)
       clear y0 y1 y2 f0 f1 f2
       have y0 := y00
       clear y00
       refine hK.out _ _ (SS.out _ A) (fun _ => ?_)
       generalize ((wv.setCell ⟨YB, 0, none⟩ (.bool P0.1)).setCell ⟨YB, 1, none⟩ (.slice a0 n0 c0)).setCell ⟨YB, 2, none⟩ (.int .i64 P0.2.2) = wn at *
       generalize wn = wv at *
       clear hK K; (try simp only [sA, sZ, sS]); have g30 := True.intro)
    | (have _q := mk31; clear _q mk31
       go_simp
       refine hK.out _ _ (SS.out _ A) (fun _ => ?_)
       clear hK K; (try simp only [sA, sZ, sS]); have g31 := True.intro)
  all_goals
   refine wpAnyH_done (by kernel_rfl) ?_ _
   go_wp2_with fail
   go_meet
   case rel => exact ⟨a0, n0, c0, a1, n1, c1, a2, n2, c2, a3, n3, c3, YB, BB, rfl, rfl, lb, G0, G1, G2, G3, y0, t1, t2, t3, A⟩
 case rest =>
  obtain ⟨a0, n0, c0, a1, n1, c1, a2, n2, c2, a3, n3, c3, YB, BB, rfl, rfl, lb, G0, G1, G2, G3, y0, t1, t2, t3, bN⟩ := hcut
  have hR : YB ≠ w.heap.size + 1 + 1 := by have := lb.out; omega
  have sA := bA.size
  replace ZR := ZR.keep bN
  replace tt := tt.kept bN
  replace bA := nT bA bN
  replace G0 : OwP w.heap.size wc P0 a0 n0 c0 := ⟨G0.1, G0.2.low sA⟩
  replace G1 : OwP w.heap.size wc P1 a1 n1 c1 := ⟨G1.1, G1.2.low sA⟩
  replace G2 : OwP w.heap.size wc P2 a2 n2 c2 := ⟨G2.1, G2.2.low sA⟩
  replace G3 : OwP w.heap.size wc P3 a3 n3 c3 := ⟨G3.1, G3.2.low sA⟩
  clear bN SS hR0
  go_upto_region 2 with fail
  have bN : Below wc.heap.size wc (World.drew wc) := (Below.refl _ _).drew
  refine wp_region_held (S := fun w' => At3 YB 0 1 2 (mT P0 a0 n0 c0) w') (by kernel_rfl) ?_
  change wpAnyH _ _ _ _ _ 11 #[false, false, false, false, false, false, false, false, false, false, false] _ (World.drew wc)
  generalize World.drew wc = wv at bN ⊢
  replace y0 := y0.keep bN
  replace t1 := t1.keep bN
  replace t2 := t2.keep bN
  replace t3 := t3.keep bN
  replace G0 := G0.keep bN
  replace G1 := G1.keep bN
  replace G2 := G2.keep bN
  replace G3 := G3.keep bN
  replace ZR := ZR.keep bN
  replace tt := tt.kept bN
  replace bA := nT bA bN
  clear bN
  refine wpAnyH_tk (i := 1) (d := some 41) (v := dT (mT P0 a0 n0 c0)) rfl rfl (by kernel_rfl) (by kernel_rfl) (by kernel_rfl) (fun _ _ _ h => h) (Or.inl ⟨by rfl, ?_⟩) y0 ?_
  ·intro ww hS
   obtain ⟨q0, q1, q2⟩ := id hS
   clear hS
   go_simp
   try with_reducible rfl
  try simp only [Act.put]
  refine wpAnyH_tk (i := 2) (d := some 42) (v := .slice (some ⟨BB, 0, none⟩) 3 3) rfl rfl (by kernel_rfl) (by kernel_rfl) (by kernel_rfl) (fun _ _ _ h => h) (Or.inl ⟨by rfl, ?_⟩) y0 ?_
  ·intro ww hS
   clear hS
   go_simp
   try with_reducible rfl
  try simp only [Act.put]
  refine wpAnyH_tk (i := 5) (d := some 45) (v := dT (mT P0 a0 n0 c0)) rfl rfl (by kernel_rfl) (by kernel_rfl) (by kernel_rfl) (fun _ _ _ h => h) (Or.inl ⟨by rfl, ?_⟩) y0 ?_
  ·intro ww hS
   obtain ⟨q0, q1, q2⟩ := id hS
   clear hS
   go_simp
   try with_reducible rfl
  try simp only [Act.put]
  refine wpAnyH_tk (i := 6) (d := some 46) (v := .slice (some ⟨BB, 0, none⟩) 3 3) rfl rfl (by kernel_rfl) (by kernel_rfl) (by kernel_rfl) (fun _ _ _ h => h) (Or.inl ⟨by rfl, ?_⟩) y0 ?_
  ·intro ww hS
   clear hS
   go_simp
   try with_reducible rfl
  try simp only [Act.put]
  refine rd1 0 (by kernel_rfl) rfl fun K hK => ?_
  go_simp
  refine cM (lowEnd_calls _) ?_
  rintro r wn ⟨rfl, bN⟩
  replace y0 := y0.keep bN
  replace t1 := t1.keep bN
  replace t2 := t2.keep bN
  replace t3 := t3.keep bN
  replace G0 := G0.keep bN
  replace G1 := G1.keep bN
  replace G2 := G2.keep bN
  replace G3 := G3.keep bN
  replace ZR := ZR.keep bN
  replace tt := tt.kept bN
  replace bA := nT bA bN
  clear bN
  refine hK.out _ _ y0 (fun _ => ?_)
  generalize wn = wv at *
  clear hK K
  try simp only [sA, sZ]
  refine rd1 3 (by kernel_rfl) rfl fun K hK => ?_
  go_simp
  refine cM (lowOut3_calls (mT P0 a0 n0 c0) (mT P1 a1 n1 c1) (mT P2 a2 n2 c2) (mT P3 a3 n3 c3) BB _ (G0.ok B0.out) (G1.ok B1.out) (G2.ok B2.out) (G3.ok B3.out) t1.1 t1.2.1 t1.2.2 t2.1 t2.2.1 t2.2.2 t3.1 t3.2.1 t3.2.2 tt) ?_
  rintro r wn ⟨rfl, bN⟩
  replace y0 := y0.keep bN
  replace t1 := t1.keep bN
  replace t2 := t2.keep bN
  replace t3 := t3.keep bN
  replace G0 := G0.keep bN
  replace G1 := G1.keep bN
  replace G2 := G2.keep bN
  replace G3 := G3.keep bN
  replace ZR := ZR.keep bN
  replace tt := tt.kept bN
  replace bA := nT bA bN
  clear bN
  refine hK.out _ _ y0 (fun _ => ?_)
  generalize wn = wv at *
  clear hK K
  try simp only [sA, sZ, sS]
  refine rd1 4 (by kernel_rfl) rfl fun K hK => ?_
  go_simp
  refine cM (uppEnd_calls _) ?_
  rintro r wn ⟨rfl, bN⟩
  replace y0 := y0.keep bN
  replace t1 := t1.keep bN
  replace t2 := t2.keep bN
  replace t3 := t3.keep bN
  replace G0 := G0.keep bN
  replace G1 := G1.keep bN
  replace G2 := G2.keep bN
  replace G3 := G3.keep bN
  replace ZR := ZR.keep bN
  replace tt := tt.kept bN
  replace bA := nT bA bN
  clear bN
  refine hK.out _ _ y0 (fun _ => ?_)
  generalize wn = wv at *
  clear hK K
  try simp only [sA, sZ, sS]
  refine rd1 7 (by kernel_rfl) rfl fun K hK => ?_
  go_simp
  refine cM (uppOut3_calls (mT P0 a0 n0 c0) (mT P1 a1 n1 c1) (mT P2 a2 n2 c2) (mT P3 a3 n3 c3) BB _ (G0.ok B0.out) (G1.ok B1.out) (G2.ok B2.out) (G3.ok B3.out) t1.1 t1.2.1 t1.2.2 t2.1 t2.2.1 t2.2.2 t3.1 t3.2.1 t3.2.2 tt) ?_
  rintro r wn ⟨rfl, bN⟩
  replace y0 := y0.keep bN
  replace t1 := t1.keep bN
  replace t2 := t2.keep bN
  replace t3 := t3.keep bN
  replace G0 := G0.keep bN
  replace G1 := G1.keep bN
  replace G2 := G2.keep bN
  replace G3 := G3.keep bN
  replace ZR := ZR.keep bN
  replace tt := tt.kept bN
  replace bA := nT bA bN
  clear bN
  refine hK.out _ _ y0 (fun _ => ?_)
  generalize wn = wv at *
  clear hK K
  try simp only [sA, sZ, sS]
  refine wpAnyH_tk (i := 8) (d := some 48) (v := ivT (pkT true (pkT true (pkT true (mT P0 a0 n0 c0) (mT P1 a1 n1 c1)) (mT P2 a2 n2 c2)) (mT P3 a3 n3 c3)) (pkT false (pkT false (pkT false (mT P0 a0 n0 c0) (mT P1 a1 n1 c1)) (mT P2 a2 n2 c2)) (mT P3 a3 n3 c3))) rfl rfl (by kernel_rfl) (by kernel_rfl) (by kernel_rfl) (fun _ _ _ h => h) (Or.inl ⟨by rfl, ?_⟩) y0 ?_
  ·intro ww hS
   clear hS
   go_simp
   try with_reducible rfl
  try simp only [Act.put]
  obtain ⟨bl, ml, dl, el, ol⟩ := pk4_own (lo := true) G0 G1 G2 G3
  obtain ⟨bh, mh, dh, eh, oh⟩ := pk4_own (lo := false) G0 G1 G2 G3
  rw [el, eh]
  have ZZ : Hid (ZI (w.heap.size + 1 + 1) wv) := ZR
  obtain ⟨⟨z0, z1, z2, z3, z4, z5⟩, f0, f1, f2, f3, f4, f5⟩ := ZR
  clear t1 t2 t3 G0 G1 G2 G3 tt el eh
  refine rd1 9 (by kernel_rfl) rfl fun K hK => ?_
  go_simp
  have y1 := y0.six hR (.bool (pk4 true P0 P1 P2 P3).1) (.slice bl ml dl) (.int .i64 (pk4 true P0 P1 P2 P3).2.2) (.bool (pk4 false P0 P1 P2 P3).1) (.slice bh mh dh) (.int .i64 (pk4 false P0 P1 P2 P3).2.2)
  refine hK.out _ _ y1 (fun _ => ?_)
  clear hK K
  try simp only [sA, sZ, sS]
  refine rd1 10 (by kernel_rfl) rfl fun K hK => ?_
  go_simp
  refine hK.out _ _ y1 (fun _ => ?_)
  clear hK K
  try simp only [sA, sZ, sS]
  refine wpAnyH_done (by kernel_rfl) ?_ _
  go_wp2_with fail
  exact bodyPost_ret (v := .tuple #[ivT (mT (pk4 true P0 P1 P2 P3) bl ml dl) (mT (pk4 false P0 P1 P2 P3) bh mh dh), .int .i64 0]) (by simp [results, Tryz.results131, go_sem, z0, z1, z2, z3, z4, z5]) rfl ⟨bl, ml, dl, bh, mh, dh, rfl, ⟨ol.1, ownW_sixI ol.2 (six_zi ZZ.out) _ _ _ _ _ _⟩, ⟨oh.1, ownW_sixI oh.2 (six_zi ZZ.out) _ _ _ _ _ _⟩, by repeat (first | (with_reducible exact bA) | (with_reducible refine Below.setCell ?_ (by simp; try omega) _))⟩
end Go.Proofs.YtahpdcbmekgkfaaGreatDoor

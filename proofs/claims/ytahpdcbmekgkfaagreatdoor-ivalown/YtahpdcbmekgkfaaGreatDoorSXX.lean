/- Package ival: the sums of both ends; an enclosure cut outward, in letters. Package ival: a way, done: whatever its refusal, its making. -/
import Derived.Test.YtahpdcbmekgkfaaGreatDoorSW2
import Derived.Test.YtahpdcbmekgkfaaGreatDoorIT3
import Derived.Laws.EntriesVeiled

namespace Go.Proofs.YtahpdcbmekgkfaaGreatDoor
open Go.RowKit
abbrev TR := Int × (Bool × Nat × Int) × (Bool × Nat × Int)
def smR (x y u v : DT) : TR := if suE (tT x) (tT u) ≠ 0 then nilR (suE (tT x) (tT u)) else if suE (tT y) (tT v) ≠ 0 then nilR (suE (tT y) (tT v)) else (0, suP (tT x) (tT u), suP (tT y) (tT v))
set_option maxRecDepth 100000 in
set_option maxHeartbeats 4000000 in
theorem isums_calls (x y u v : DT) (p : Int) (w : World) (hx : inT w x) (hy : inT w y) (hu : inT w u) (hv : inT w v) (hT : Tab w) (rx : rgT x = true) (ry : rgT y = true) (ru : rgT u = true) (rv : rgT v = true) :
  Calls Tryz.prog 100 #[ivT x y, ivT u v, .int .i64 p] w fun r w' => ∃ a, r = .returned a ∧ IvA w.heap.size w' a (smR x y u v) ∧ Below w.heap.size w w' := by
 have A1 := att_new x y w
 have b1 := below_one w (obT x y)
 have A2 := att_new u v (w.alloc (obT x y))
 have b2 := below_one (w.alloc (obT x y)) (obT u v)
 have Z := zi_new ((w.alloc (obT x y)).alloc (obT u v))
 have b3 := below_one ((w.alloc (obT x y)).alloc (obT u v)) obZ
 replace A1 := (A1.keep b2).keep b3
 replace A2 := A2.keep b3
 have bA := nT (nT b1 b2) b3
 rw [show (w.alloc (obT x y)).heap.size = w.heap.size + 1 by simp] at A2
 rw [show ((w.alloc (obT x y)).alloc (obT u v)).heap.size = w.heap.size + 1 + 1 by simp] at Z
 have S1 : Hid (∀ W, Below w.heap.size w W → _) := fun W b => iSum_calls x u W (hx.keep b) (hu.keep b) (hT.kept b) rx ru
 have S2 : Hid (∀ W, Below w.heap.size w W → _) := fun W b => iSum_calls y v W (hy.keep b) (hv.keep b) (hT.kept b) ry rv
 have E1 : Hid (suE (tT x) (tT u) ≠ 0 → smR x y u v = nilR (suE (tT x) (tT u))) := fun a => if_pos a
 have E2 : Hid (suE (tT x) (tT u) = 0 → suE (tT y) (tT v) ≠ 0 → smR x y u v = nilR (suE (tT y) (tT v))) := fun a b => by unfold smR; rw [if_neg (fun e => e a), if_pos b]
 have E3 : Hid (suE (tT x) (tT u) = 0 → suE (tT y) (tT v) = 0 → smR x y u v = (0, suP (tT x) (tT u), suP (tT y) (tT v))) := fun a b => by unfold smR; rw [if_neg (fun e => e a), if_neg (fun e => e b)]
 generalize smR x y u v = RR at *
 generalize suE (tT x) (tT u) = ex at *
 generalize suE (tT y) (tT v) = ey at *
 generalize suP (tT x) (tT u) = px at *
 generalize suP (tT y) (tT v) = py at *
 clear b1 b2 b3 hx hy hu hv hT rx ry ru rv
 go_enter Tryz.func100, Tryz.ntmps100
 go_upto_region 1 with fail
 generalize ((w.alloc (obT x y)).alloc (obT u v)).alloc obZ = wA at *
 have HA : Hid (AtT w.heap.size x y wA ∧ AtT (w.heap.size + 1) u v wA) := ⟨A1, A2⟩
 obtain ⟨k0, k1, k2, k3, k4, k5⟩ := A1
 obtain ⟨l0, l1, l2, l3, l4, l5⟩ := A2
 go_wp2_with fail
 refine Calls.mono (S1.out wA bA) ?_
 rintro r w1 ⟨X, rfl, pX, oX, bN⟩
 have sA := bA.size
 have bM := below_one w1 (obD X)
 replace oX : ownT w.heap.size _ X := (show ownT w.heap.size w1 X from ⟨oX.1.low sA, oX.2⟩).keep bM
 have AX := fd_new X w1
 have A1 := (HA.out.1.keep bN).keep bM
 have A2 := (HA.out.2.keep bN).keep bM
 replace Z := (Z.keep bN).keep bM
 replace bA := nT bA (nT bN bM)
 clear bN bM S1 k0 k1 k2 k3 k4 k5 l0 l1 l2 l3 l4 l5 HA sA
 by_cases hex : ex = 0
 ·have E2' : Hid (ey ≠ 0 → RR = nilR ey) := E2.out hex
  have E3' : Hid (ey = 0 → RR = (0, px, py)) := E3.out hex
  subst hex
  clear E1 E2 E3
  go_upto_region 4 with fail
  generalize w1.alloc (obD X) = w3 at *
  generalize w1.heap.size = b6 at *
  obtain ⟨k0, k1, k2, k3, k4, k5⟩ := A1
  obtain ⟨l0, l1, l2, l3, l4, l5⟩ := A2
  go_wp2_with fail
  refine Calls.mono (S2.out w3 bA) ?_
  rintro r w4 ⟨Y, rfl, pY, oY, bN⟩
  have sA := bA.size
  have AY := fd_new Y w4
  have bM := below_one w4 (obD Y)
  replace oY : ownT w.heap.size _ Y := (show ownT w.heap.size w4 Y from ⟨oY.1.low sA, oY.2⟩).keep bM
  replace oX := (oX.keep bN).keep bM
  replace Z := (Z.keep bN).keep bM
  replace AX := (AX.keep bN).keep bM
  replace bA := nT bA (nT bN bM)
  have ZZ : Hid (ZI (w.heap.size + 1 + 1) (w4.alloc (obD Y))) := Z
  obtain ⟨⟨z0, z1, z2, z3, z4, z5⟩, f0, f1, f2, f3, f4, f5⟩ := Z
  clear bN bM S2 k0 k1 k2 k3 k4 k5 l0 l1 l2 l3 l4 l5
  by_cases hey : ey = 0
  ·have HE : Hid (RR = (0, px, py)) := E3'.out hey
   subst hey
   clear E2' E3'
   obtain ⟨⟨y0, y1, y2⟩, -⟩ := AY
   obtain ⟨⟨x0, x1, x2⟩, -⟩ := AX
   go_wp2_with fail
   exact bodyPost_ret (v := .tuple #[ivT X Y, .int .i64 0]) (by simp [results, Tryz.results100, go_sem, z0, z1, z2, z3, z4, z5]) rfl ⟨_, rfl, by rw [HE.out]; exact ⟨X, Y, rfl, pX, pY, oX.six ZZ.out _ _ _ _ _ _, oY.six ZZ.out _ _ _ _ _ _⟩, by repeat (first | (with_reducible exact bA) | (with_reducible refine Below.setCell ?_ (by simp; try omega) _))⟩
  ·have HE : Hid (RR = nilR ey) := E2'.out hey
   clear E2' E3' AY AX
   go_wp2_with fail
   exact bodyPost_ret (v := .tuple #[zIvI, .int .i64 ey]) (by simp [results, Tryz.results100, go_sem, z0, z1, z2, z3, z4, z5]) rfl ⟨_, rfl, by rw [HE.out]; exact ivA_nil _ _ _, by repeat (first | (with_reducible exact bA) | (with_reducible refine Below.setCell ?_ (by simp; try omega) _))⟩
 ·have HE : Hid (RR = nilR ex) := E1.out hex
  clear E1 E2 E3 AX A1 A2 S2
  obtain ⟨⟨z0, z1, z2, z3, z4, z5⟩, f0, f1, f2, f3, f4, f5⟩ := Z
  go_wp2_with fail
  exact bodyPost_ret (v := .tuple #[zIvI, .int .i64 ex]) (by simp [results, Tryz.results100, go_sem, z0, z1, z2, z3, z4, z5]) rfl ⟨_, rfl, by rw [HE.out]; exact ivA_nil _ _ _, by repeat (first | (with_reducible exact bA) | (with_reducible refine Below.setCell ?_ (by simp; try omega) _))⟩
def bdT (P : Bool × Nat × Int) : Prop := greatB P.2.1 = false ∧ -100000000 ≤ P.2.2 ∧ P.2.2 ≤ 100000000
def otR (P Q : Bool × Nat × Int) (p : Int) : TR := (owE P.1 P.2.1 P.2.2 Q.1 Q.2.1 Q.2.2 p, owL P.1 P.2.1 P.2.2 Q.1 Q.2.1 Q.2.2 p, owH P.1 P.2.1 P.2.2 Q.1 Q.2.1 Q.2.2 p)
theorem otR_calls {P Q : Bool × Nat × Int} (x y : DT) (p : Int) (w : World) (hx : inT w x) (hy : inT w y) (px : isP x P) (py : isP y Q) (bP : bdT P) (bQ : bdT Q) (hp : 1 ≤ p ∧ p ≤ 8192) (hT : Tab w) :
  Calls Tryz.prog 66 #[ivT x y, .int .i64 p] w fun r w' => ∃ a, r = .returned a ∧ IvA w.heap.size w' a (otR P Q p) ∧ Below w.heap.size w w' := by
 obtain ⟨a1, a2, a3⟩ := px
 obtain ⟨c1, c2, c3⟩ := py
 have vx : val x.2.2.2.2.1 = P.2.1 := by rw [a2, val_words]
 have vy : val y.2.2.2.2.1 = Q.2.1 := by rw [c2, val_words]
 refine (outward_calls x.1 x.2.1 x.2.2.1 x.2.2.2.1 x.2.2.2.2.1 x.2.2.2.2.2 y.1 y.2.1 y.2.2.1 y.2.2.2.1 y.2.2.2.2.1 y.2.2.2.2.2 p w hx.1 hx.2 (by rw [vx]; exact bP.1) (by rw [a3]; exact bP.2) hy.1 hy.2 (by rw [vy]; exact bQ.1) (by rw [c3]; exact bQ.2) (by omega) hT).mono ?_
 rintro r w' ⟨al, nl, cl, ah, nh, ch, rfl, q1, q2, O1, O2, hb⟩
 rw [vx, vy, a1, a3, c1, c3] at *
 exact ⟨_, rfl, ivA_of q1 q2 O1 O2, hb⟩
def Body (F : Nat) : Prop := ∀ (xs : Array Value) (w : World), Sem.run Tryz.prog (callFunc F xs) w = .ok (.enter F xs) w
def dnR (x y u v : DT) (p z : Int) (M : TR) : TR := if (rtT x y && rtT u v) = true ∧ (decide (1 ≤ p) && decide (p ≤ 8192)) = true then (if z ≠ 0 then nilR z else if M.1 ≠ 0 then nilR M.1 else otR M.2.1 M.2.2 p) else nilR 2
abbrev wyV (F1 F2 : Nat) (caps : Array Value) : Value := .agg #[.func (.func F1) #[] #[], .func (.func F2) #[] caps]
set_option maxRecDepth 100000 in
set_option maxHeartbeats 8000000 in
theorem done_core (F1 F2 : Nat) (caps : Array Value) (B1 : Body F1) (B2 : Body F2) (x y u v : DT) (p z : Int) (M : TR) (w : World) (hx : inT w x) (hy : inT w y) (hu : inT w u) (hv : inT w v) (hT : Tab w)
  (H1 : rtT x y = true → rtT u v = true → ∀ W, Below w.heap.size w W → Calls Tryz.prog F1 #[ivT x y, ivT u v] W fun r w' => r = .returned (.int .i64 z) ∧ Below W.heap.size W w')
  (H2 : rtT x y = true → rtT u v = true → 1 ≤ p ∧ p ≤ 8192 → z = 0 → (∀ W, Below w.heap.size w W → Calls Tryz.prog F2 (#[ivT x y, ivT u v, .int .i64 p] ++ caps) W fun r w' => ∃ a, r = .returned a ∧ IvA W.heap.size w' a M ∧ Below W.heap.size W w') ∧ (M.1 = 0 → bdT M.2.1 ∧ bdT M.2.2)) :
  Calls Tryz.prog 59 #[wyV F1 F2 caps, ivT x y, ivT u v, .int .i64 p] w fun r w' => ∃ a, r = .returned a ∧ IvA w.heap.size w' a (dnR x y u v p z M) ∧ Below w.heap.size w w' := by
 have A0 : (w.alloc (.cells #[.func (.func F1) #[] #[], .func (.func F2) #[] caps] 64)).cell? ⟨w.heap.size, 0, none⟩ = some (.func (.func F1) #[] #[]) ∧ (w.alloc (.cells #[.func (.func F1) #[] #[], .func (.func F2) #[] caps] 64)).cell? ⟨w.heap.size, 1, none⟩ = some (.func (.func F2) #[] caps) := by
  refine ⟨?_, ?_⟩ <;> go_simp
 have b0 := below_one w (.cells #[.func (.func F1) #[] #[], .func (.func F2) #[] caps] 64)
 generalize hw0 : w.alloc (.cells #[.func (.func F1) #[] #[], .func (.func F2) #[] caps] 64) = w0 at *
 have s0 : w0.heap.size = w.heap.size + 1 := by rw [← hw0]; simp
 have A1 := att_new x y w0
 have b1 := below_one w0 (obT x y)
 have A2 := att_new u v (w0.alloc (obT x y))
 have b2 := below_one (w0.alloc (obT x y)) (obT u v)
 have Z := zi_new ((w0.alloc (obT x y)).alloc (obT u v))
 have b3 := below_one ((w0.alloc (obT x y)).alloc (obT u v)) obZ
 replace A1 := (A1.keep b2).keep b3
 replace A2 := A2.keep b3
 have bA := nT b0 (nT (nT b1 b2) b3)
 have A01 := kC (nT (nT b1 b2) b3) A0.1
 have A02 := kC (nT (nT b1 b2) b3) A0.2
 rw [s0] at A1
 rw [show (w0.alloc (obT x y)).heap.size = w.heap.size + 1 + 1 by simp [s0]] at A2
 rw [show ((w0.alloc (obT x y)).alloc (obT u v)).heap.size = w.heap.size + 1 + 1 + 1 by simp [s0]] at Z
 subst hw0
 have RC : Hid (right2 x y u v) := right2_ok x y u v
 have IA : Hid (∀ W, Below w.heap.size w W → inT W x ∧ inT W y ∧ inT W u ∧ inT W v ∧ Tab W) := fun W b => ⟨hx.keep b, hy.keep b, hu.keep b, hv.keep b, hT.kept b⟩
 have G1 : Hid (rtT x y = true → rtT u v = true → ∀ W, Below w.heap.size w W → Calls Tryz.prog F1 #[ivT x y, ivT u v] W fun r w' => r = .returned (.int .i64 z) ∧ Below W.heap.size W w') := H1
 have G2 : Hid (rtT x y = true → rtT u v = true → 1 ≤ p ∧ p ≤ 8192 → z = 0 → (∀ W, Below w.heap.size w W → Calls Tryz.prog F2 (#[ivT x y, ivT u v, .int .i64 p] ++ caps) W fun r w' => ∃ a, r = .returned a ∧ IvA W.heap.size w' a M ∧ Below W.heap.size W w') ∧ (M.1 = 0 → bdT M.2.1 ∧ bdT M.2.2)) := H2
 have E0 : Hid ((rtT x y && rtT u v) = false → dnR x y u v p z M = nilR 2) := fun a => if_neg (fun q => by rw [a] at q; exact absurd q.1 (by decide))
 have E1 : Hid ((decide (1 ≤ p) && decide (p ≤ 8192)) = false → dnR x y u v p z M = nilR 2) := fun a => if_neg (fun q => by rw [a] at q; exact absurd q.2 (by decide))
 have E2 : Hid ((rtT x y && rtT u v) = true → (decide (1 ≤ p) && decide (p ≤ 8192)) = true → dnR x y u v p z M = if z ≠ 0 then nilR z else if M.1 ≠ 0 then nilR M.1 else otR M.2.1 M.2.2 p) := fun a b => if_pos ⟨a, b⟩
 generalize dnR x y u v p z M = RR at *
 clear b0 b1 b2 b3 hx hy hu hv hT H1 H2 A0 s0
 go_enter Tryz.func59, Tryz.ntmps59
 go_upto_region 1 with fail
 generalize (((w.alloc (.cells #[.func (.func F1) #[] #[], .func (.func F2) #[] caps] 64)).alloc (obT x y)).alloc (obT u v)).alloc obZ = wA at *
 have sR : w.heap.size + 1 + 1 + 1 < wA.heap.size := World.block_lt_of_cell? _ _ Z.1.1
 have t0 : At3 wA.heap.size 0 1 2 x (wA.alloc (obTT x y u v)) := by refine ⟨?_, ?_, ?_⟩ <;> go_simp
 have t1 : At3 wA.heap.size 3 4 5 y (wA.alloc (obTT x y u v)) := by refine ⟨?_, ?_, ?_⟩ <;> go_simp
 have t2 : At3 wA.heap.size 6 7 8 u (wA.alloc (obTT x y u v)) := by refine ⟨?_, ?_, ?_⟩ <;> go_simp
 have t3 : At3 wA.heap.size 9 10 11 v (wA.alloc (obTT x y u v)) := by refine ⟨?_, ?_, ?_⟩ <;> go_simp
 have bM := below_one wA (obTT x y u v)
 have HA : Hid (AtT (w.heap.size + 1) x y (wA.alloc (obTT x y u v)) ∧ AtT (w.heap.size + 1 + 1) u v (wA.alloc (obTT x y u v))) := ⟨A1.keep bM, A2.keep bM⟩
 obtain ⟨k0, k1, k2, k3, k4, k5⟩ := A1
 obtain ⟨l0, l1, l2, l3, l4, l5⟩ := A2
 replace Z := Z.keep bM
 have A01 := kC bM A01
 have A02 := kC bM A02
 have i0 := IA.out _ (nT bA bM)
 replace bA := nT bA bM
 have HB : Hid _ := bA
 clear bM
 go_wp2_with fail
 refine cM (RC.out _ _ i0.1 i0.2.1 i0.2.2.1 i0.2.2.2.1 t0 t1 t2 t3 i0.2.2.2.2) ?_
 rintro r w1 ⟨rfl, bN⟩
 clear t0 t1 t2 t3 k0 k1 k2 k3 k4 k5 l0 l1 l2 l3 l4 l5 RC i0 HB
 have A1 := HA.out.1.keep bN
 have A2 := HA.out.2.keep bN
 replace Z := Z.keep bN
 replace A01 := kC bN A01
 replace A02 := kC bN A02
 replace bA := nT bA bN
 clear HA bN
 by_cases hr : (rtT x y && rtT u v) = true
 ·rw [hr]
  have hr2 := hr
  rw [Bool.and_eq_true] at hr2
  by_cases hp : (decide (1 ≤ p) && decide (p ≤ 8192)) = true
  ·have hp2 := hp
   rw [Bool.and_eq_true, decide_eq_true_eq, decide_eq_true_eq] at hp2
   have K1 : Hid (∀ W, Below w.heap.size w W → Calls Tryz.prog F1 #[ivT x y, ivT u v] W fun r w' => r = .returned (.int .i64 z) ∧ Below W.heap.size W w') := G1.out hr2.1 hr2.2
   have K2 : Hid (z = 0 → (∀ W, Below w.heap.size w W → Calls Tryz.prog F2 (#[ivT x y, ivT u v, .int .i64 p] ++ caps) W fun r w' => ∃ a, r = .returned a ∧ IvA W.heap.size w' a M ∧ Below W.heap.size W w') ∧ (M.1 = 0 → bdT M.2.1 ∧ bdT M.2.2)) := G2.out hr2.1 hr2.2 hp2
   have HP : Hid ((decide (1 ≤ p) && decide (p ≤ 8192)) = true) := hp
   have HQ : Hid (1 ≤ p ∧ p ≤ 8192) := hp2
   have HR : Hid (RR = if z ≠ 0 then nilR z else if M.1 ≠ 0 then nilR M.1 else otR M.2.1 M.2.2 p) := E2.out hr hp
   clear hp hp2 hr hr2 E0 E1 E2 G1 G2
   go_wp2_with fail
   refine cM (workable_calls p _) ?_
   rintro r w2 ⟨rfl, rfl⟩
   rw [HP.out]
   have HA : Hid (AtT (w.heap.size + 1) x y w2 ∧ AtT (w.heap.size + 1 + 1) u v w2) := ⟨A1, A2⟩
   obtain ⟨k0, k1, k2, k3, k4, k5⟩ := A1
   obtain ⟨l0, l1, l2, l3, l4, l5⟩ := A2
   have C1 : ∀ (xs : Array Value) (w : World), Sem.run Tryz.prog (callFunc F1 xs) w = .ok (.enter F1 xs) w := B1
   have C2 : ∀ (xs : Array Value) (w : World), Sem.run Tryz.prog (callFunc F2 xs) w = .ok (.enter F2 xs) w := B2
   go_wp2_with fail
   refine cM (K1.out w2 bA) ?_
   rintro r w3 ⟨rfl, bN⟩
   clear k0 k1 k2 k3 k4 k5 l0 l1 l2 l3 l4 l5 K1 C1
   have A1 := HA.out.1.keep bN
   have A2 := HA.out.2.keep bN
   replace Z := Z.keep bN
   replace A01 := kC bN A01
   replace A02 := kC bN A02
   replace bA := nT bA bN
   clear HA bN
   by_cases hz : z = 0
   ·have HR1 : Hid (RR = if M.1 ≠ 0 then nilR M.1 else otR M.2.1 M.2.2 p) := by rw [HR.out]; exact if_neg (fun e => e hz)
    obtain ⟨K3, K4⟩ := K2.out hz
    have H3 : Hid (∀ W, Below w.heap.size w W → Calls Tryz.prog F2 (#[ivT x y, ivT u v, .int .i64 p] ++ caps) W fun r w' => ∃ a, r = .returned a ∧ IvA W.heap.size w' a M ∧ Below W.heap.size W w') := K3
    have H4 : Hid (M.1 = 0 → bdT M.2.1 ∧ bdT M.2.2) := K4
    subst hz
    clear HR K2 K3 K4
    have HA : Hid (AtT (w.heap.size + 1) x y w3 ∧ AtT (w.heap.size + 1 + 1) u v w3) := ⟨A1, A2⟩
    obtain ⟨k0, k1, k2, k3, k4, k5⟩ := A1
    obtain ⟨l0, l1, l2, l3, l4, l5⟩ := A2
    go_wp2_with fail
    refine cM (H3.out w3 bA) ?_
    rintro r w4 ⟨a, rfl, ⟨X, Y, rfl, pX, pY, oX, oY⟩, bN⟩
    clear k0 k1 k2 k3 k4 k5 l0 l1 l2 l3 l4 l5 A01 A02 H3 C2 HA
    have sA := bA.size
    have AX := att_new X Y w4
    have bM := below_one w4 (obT X Y)
    replace oX : ownT w.heap.size _ X := (show ownT w.heap.size w4 X from ⟨oX.1.low sA, oX.2⟩).keep bM
    replace oY : ownT w.heap.size _ Y := (show ownT w.heap.size w4 Y from ⟨oY.1.low sA, oY.2⟩).keep bM
    replace Z := (Z.keep bN).keep bM
    replace bA := nT bA (nT bN bM)
    clear bN bM sA
    by_cases hm : M.1 = 0
    ·have HR : Hid (RR = otR M.2.1 M.2.2 p) := by rw [HR1.out]; exact if_neg (fun e => e hm)
     obtain ⟨d1, d2⟩ := H4.out hm
     have OC : Hid (∀ W, Below (w4.alloc (obT X Y)).heap.size (w4.alloc (obT X Y)) W → _) := fun W b => otR_calls X Y p W (oX.keep b).inT (oY.keep b).inT pX pY d1 d2 HQ.out ((IA.out _ (nT bA b)).2.2.2.2)
     rw [hm]
     clear HR1 H4 d1 d2 hm pX pY oX oY
     go_upto_region 9 with fail
     generalize w4.alloc (obT X Y) = w5 at *
     obtain ⟨q0, q1, q2, q3, q4, q5⟩ := AX
     go_wp2_with fail
     refine cM (OC.out w5 (Below.refl _ _)) ?_
     rintro r w6 ⟨a, rfl, ⟨X', Y', rfl, pX, pY, oX, oY⟩, bN⟩
     have sA := bA.size
     replace oX : ownT w.heap.size w6 X' := ⟨oX.1.low sA, oX.2⟩
     replace oY : ownT w.heap.size w6 Y' := ⟨oY.1.low sA, oY.2⟩
     replace Z := Z.keep bN
     replace bA := nT bA bN
     have ZZ : Hid (ZI (w.heap.size + 1 + 1 + 1) w6) := Z
     obtain ⟨⟨z0, z1, z2, z3, z4, z5⟩, f0, f1, f2, f3, f4, f5⟩ := Z
     clear bN q0 q1 q2 q3 q4 q5
     go_wp2_with fail
     exact bodyPost_ret (v := .tuple #[ivT X' Y', .int .i64 (otR M.2.1 M.2.2 p).1]) (by simp [results, Tryz.results59, go_sem, z0, z1, z2, z3, z4, z5]) rfl ⟨_, rfl, by rw [HR.out]; exact ⟨X', Y', rfl, pX, pY, oX.six ZZ.out _ _ _ _ _ _, oY.six ZZ.out _ _ _ _ _ _⟩, by repeat (first | (with_reducible exact bA) | (with_reducible refine Below.setCell ?_ (by simp; try omega) _))⟩
    ·have HR : Hid (RR = nilR M.1) := by rw [HR1.out]; exact if_pos hm
     clear HR1 H4 pX pY oX oY AX
     generalize M.1 = m at *
     obtain ⟨⟨z0, z1, z2, z3, z4, z5⟩, f0, f1, f2, f3, f4, f5⟩ := Z
     go_wp2_with fail
     exact bodyPost_ret (v := .tuple #[zIvI, .int .i64 m]) (by simp [results, Tryz.results59, go_sem, z0, z1, z2, z3, z4, z5]) rfl ⟨_, rfl, by rw [HR.out]; exact ivA_nil _ _ _, by repeat (first | (with_reducible exact bA) | (with_reducible refine Below.setCell ?_ (by simp; try omega) _))⟩
   ·have HE : Hid (RR = nilR z) := by rw [HR.out]; exact if_pos hz
    clear HR K2 A1 A2 A01 A02 C2
    obtain ⟨⟨z0, z1, z2, z3, z4, z5⟩, f0, f1, f2, f3, f4, f5⟩ := Z
    go_wp2_with fail
    exact bodyPost_ret (v := .tuple #[zIvI, .int .i64 z]) (by simp [results, Tryz.results59, go_sem, z0, z1, z2, z3, z4, z5]) rfl ⟨_, rfl, by rw [HE.out]; exact ivA_nil _ _ _, by repeat (first | (with_reducible exact bA) | (with_reducible refine Below.setCell ?_ (by simp; try omega) _))⟩
  ·rw [Bool.not_eq_true] at hp
   have HP : Hid ((decide (1 ≤ p) && decide (p ≤ 8192)) = false) := hp
   have HE : Hid (RR = nilR 2) := E1.out hp
   clear hp hr hr2 E0 E1 E2 G1 G2 A1 A2 A01 A02
   go_wp2_with fail
   refine cM (workable_calls p _) ?_
   rintro r w2 ⟨rfl, rfl⟩
   rw [HP.out]
   obtain ⟨⟨z0, z1, z2, z3, z4, z5⟩, f0, f1, f2, f3, f4, f5⟩ := Z
   go_wp2_with fail
   exact bodyPost_ret (v := .tuple #[zIvI, .int .i64 2]) (by simp [results, Tryz.results59, go_sem, z0, z1, z2, z3, z4, z5]) rfl ⟨_, rfl, by rw [HE.out]; exact ivA_nil _ _ _, by repeat (first | (with_reducible exact bA) | (with_reducible refine Below.setCell ?_ (by simp; try omega) _))⟩
 ·rw [Bool.not_eq_true] at hr
  rw [hr]
  have HE : Hid (RR = nilR 2) := E0.out hr
  clear hr E0 E1 E2 G1 G2 A1 A2 A01 A02
  obtain ⟨⟨z0, z1, z2, z3, z4, z5⟩, f0, f1, f2, f3, f4, f5⟩ := Z
  go_wp2_with fail
  exact bodyPost_ret (v := .tuple #[zIvI, .int .i64 2]) (by simp [results, Tryz.results59, go_sem, z0, z1, z2, z3, z4, z5]) rfl ⟨_, rfl, by rw [HE.out]; exact ivA_nil _ _ _, by repeat (first | (with_reducible exact bA) | (with_reducible refine Below.setCell ?_ (by simp; try omega) _))⟩
end Go.Proofs.YtahpdcbmekgkfaaGreatDoor

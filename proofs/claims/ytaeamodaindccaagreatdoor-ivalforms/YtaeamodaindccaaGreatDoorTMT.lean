/- The document's intervals: room; Canon. Which enclosures are right, their one form, points: program and document alike. -/
import Derived.Test.YtaeamodaindccaaGreatDoorCR
import Derived.Test.YtaeamodaindccaaGreatDoorIVK
import Derived.Test.YtaeamodaindccaaGreatDoorFX

namespace Go.Proofs.YtaeamodaindccaaGreatDoor
open Go.RowKit
theorem cn_words (x y : DT) : cnE x.1 (val x.2.2.2.2.1) x.2.2.2.2.2 y.1 (val y.2.2.2.2.1) y.2.2.2.2.2 = if rtT x y = true then (if (roomB (formD x.1 (val x.2.2.2.2.1) x.2.2.2.2.2) && roomB (formD y.1 (val y.2.2.2.2.1) y.2.2.2.2.2)) = true then 0 else 3) else 2 := by
 by_cases h : rtT x y = true
 ·have b := rt_both h
  have h2 : rtI x.1 (val x.2.2.2.2.1) x.2.2.2.2.2 y.1 (val y.2.2.2.2.1) y.2.2.2.2.2 = true := h
  unfold cnE canE
  rw [if_pos h2, if_pos b.1, if_pos b.2, if_pos h]
  unfold roomE
  cases roomB (formD x.1 (val x.2.2.2.2.1) x.2.2.2.2.2) <;> cases roomB (formD y.1 (val y.2.2.2.2.1) y.2.2.2.2.2) <;> rfl
 ·have h2 : ¬ rtI x.1 (val x.2.2.2.2.1) x.2.2.2.2.2 y.1 (val y.2.2.2.2.1) y.2.2.2.2.2 = true := h
  unfold cnE
  rw [if_neg h2, if_neg h]
theorem cn_words2 (x y : DT) (h : rtT x y = true) (q : (roomB (formD x.1 (val x.2.2.2.2.1) x.2.2.2.2.2) && roomB (formD y.1 (val y.2.2.2.2.1) y.2.2.2.2.2)) = true) : cnL x.1 (val x.2.2.2.2.1) x.2.2.2.2.2 y.1 (val y.2.2.2.2.1) y.2.2.2.2.2 = (formD x.1 (val x.2.2.2.2.1) x.2.2.2.2.2) ∧ cnH x.1 (val x.2.2.2.2.1) x.2.2.2.2.2 y.1 (val y.2.2.2.2.1) y.2.2.2.2.2 = (formD y.1 (val y.2.2.2.2.1) y.2.2.2.2.2) := by
 have e : cnE x.1 (val x.2.2.2.2.1) x.2.2.2.2.2 y.1 (val y.2.2.2.2.1) y.2.2.2.2.2 = 0 := by rw [cn_words x y, if_pos h, if_pos q]
 have b := rt_both h
 rw [Bool.and_eq_true] at q
 unfold cnL cnH canP
 rw [if_pos e, if_pos e, if_pos b.1, if_pos b.2]
 unfold roomP
 rw [if_pos q.1, if_pos q.2]
 exact ⟨rfl, rfl⟩
set_option maxRecDepth 100000 in
set_option maxHeartbeats 4000000 in
theorem vRoom_calls (x y : DT) (w : World) (hx : inT w x) (hy : inT w y) :
  Calls Tryz.prog 56 #[ivT x y] w fun r w' => r = .returned (if (rgT x && rgT y) = true then .tuple #[ivT x y, .int .i64 0] else .tuple #[zIvI, .int .i64 3]) ∧ Below w.heap.size w w' := by
 have bA : Below w.heap.size w ((w.alloc (.cells #[.bool x.1, .slice x.2.1 x.2.2.1 x.2.2.2.1, .int .i64 x.2.2.2.2.2, .bool y.1, .slice y.2.1 y.2.2.1 y.2.2.2.1, .int .i64 y.2.2.2.2.2] 27)).alloc (.cells #[.bool false, .slice none 0 0, .int .i64 0, .bool false, .slice none 0 0, .int .i64 0] 27)) := nT (below_one _ _) (below_one _ _)
 obtain ⟨k0, k1, k2, k3, k4, k5, z0, f0, z1, f1, z2, f2, z3, f3, z4, f4, z5, f5⟩ := fX12 w x y _ rfl
 have H1 : Hid _ := fun w' (q : IsW w' x.2.1 x.2.2.1 x.2.2.2.1 x.2.2.2.2.1) => qRight_calls x.1 x.2.1 x.2.2.1 x.2.2.2.1 x.2.2.2.2.1 x.2.2.2.2.2 w' q (by have := hx.2; omega)
 have H2 : Hid _ := fun w' (q : IsW w' y.2.1 y.2.2.1 y.2.2.2.1 y.2.2.2.2.1) => qRight_calls y.1 y.2.1 y.2.2.1 y.2.2.2.1 y.2.2.2.2.1 y.2.2.2.2.2 w' q (by have := hy.2; omega)
 have g1 : rightB (val x.2.2.2.2.1) x.2.2.2.2.2 = rgT x := rfl
 have g2 : rightB (val y.2.2.2.2.1) y.2.2.2.2.2 = rgT y := rfl
 rw [g1] at H1
 rw [g2] at H2
 generalize rgT x = r1 at *
 generalize rgT y = r2 at *
 have hI := IsW.keep hx.1 bA
 have hJ := IsW.keep hy.1 bA
 clear g1 g2 hx hy
 go_enter Tryz.func56, Tryz.ntmps56
 go_wp2_with fail
 generalize ((w.alloc (.cells #[.bool x.1, .slice x.2.1 x.2.2.1 x.2.2.2.1, .int .i64 x.2.2.2.2.2, .bool y.1, .slice y.2.1 y.2.2.1 y.2.2.2.1, .int .i64 y.2.2.2.2.2] 27)).alloc (.cells #[.bool false, .slice none 0 0, .int .i64 0, .bool false, .slice none 0 0, .int .i64 0] 27)) = w0 at *
 refine Calls.mono (H1.out _ hI) ?_
 rintro r w1 ⟨rfl, bN⟩
 revert z0 f0 z1 f1 z2 f2 z3 f3 z4 f4 z5 f5; refine zf6 bN ?_; intro z0 f0 z1 f1 z2 f2 z3 f3 z4 f4 z5 f5
 revert k0 k1 k2 k3 k4 k5; refine cc6 bN ?_; intro k0 k1 k2 k3 k4 k5
 replace hI := hI.keep bN
 replace hJ := hJ.keep bN
 replace bA := nT bA bN
 clear bN
 cases r1
 ·go_wp2_with fail
  exact bodyPost_ret (v := .tuple #[zIvI, .int .i64 3]) (by simp [results, Tryz.results56, go_sem, z0, z1, z2, z3, z4, z5]) rfl ⟨by first | rfl | simp, by repeat (first | (with_reducible exact bA) | (with_reducible refine Below.setCell ?_ (by simp; try omega) _))⟩
 go_wp2_with fail
 refine Calls.mono (H2.out _ hJ) ?_
 rintro r w2 ⟨rfl, bN⟩
 revert z0 f0 z1 f1 z2 f2 z3 f3 z4 f4 z5 f5; refine zf6 bN ?_; intro z0 f0 z1 f1 z2 f2 z3 f3 z4 f4 z5 f5
 revert k0 k1 k2 k3 k4 k5; refine cc6 bN ?_; intro k0 k1 k2 k3 k4 k5
 replace hI := hI.keep bN
 replace hJ := hJ.keep bN
 replace bA := nT bA bN
 clear bN
 cases r2
 ·go_wp2_with fail
  exact bodyPost_ret (v := .tuple #[zIvI, .int .i64 3]) (by simp [results, Tryz.results56, go_sem, z0, z1, z2, z3, z4, z5]) rfl ⟨by first | rfl | simp, by repeat (first | (with_reducible exact bA) | (with_reducible refine Below.setCell ?_ (by simp; try omega) _))⟩
 go_wp2_with fail
 exact bodyPost_ret (v := .tuple #[ivT x y, .int .i64 0]) (by simp [results, Tryz.results56, go_sem, z0, z1, z2, z3, z4, z5]) rfl ⟨by first | rfl | simp, by repeat (first | (with_reducible exact bA) | (with_reducible refine Below.setCell ?_ (by simp; try omega) _))⟩
set_option maxRecDepth 100000 in
set_option maxHeartbeats 8000000 in
theorem vCanon_calls (x y : DT) (w : World) (hx : inT w x) (hy : inT w y) :
  Calls Tryz.prog 15 #[ivT x y] w fun r w' => AnsI w.heap.size w' r (cnL x.1 (val x.2.2.2.2.1) x.2.2.2.2.2 y.1 (val y.2.2.2.2.1) y.2.2.2.2.2) (cnH x.1 (val x.2.2.2.2.1) x.2.2.2.2.2 y.1 (val y.2.2.2.2.1) y.2.2.2.2.2) (cnE x.1 (val x.2.2.2.2.1) x.2.2.2.2.2 y.1 (val y.2.2.2.2.1) y.2.2.2.2.2) ∧ Below w.heap.size w w' := by
 have bA : Below w.heap.size w ((w.alloc (.cells #[.bool x.1, .slice x.2.1 x.2.2.1 x.2.2.2.1, .int .i64 x.2.2.2.2.2, .bool y.1, .slice y.2.1 y.2.2.1 y.2.2.2.1, .int .i64 y.2.2.2.2.2] 27)).alloc (.cells #[.bool false, .slice none 0 0, .int .i64 0, .bool false, .slice none 0 0, .int .i64 0] 27)) := nT (below_one _ _) (below_one _ _)
 obtain ⟨k0, k1, k2, k3, k4, k5, z0, f0, z1, f1, z2, f2, z3, f3, z4, f4, z5, f5⟩ := fX12 w x y _ rfl
 have HR : Hid _ := vRight_calls x y ((w.alloc (.cells #[.bool x.1, .slice x.2.1 x.2.2.1 x.2.2.2.1, .int .i64 x.2.2.2.2.2, .bool y.1, .slice y.2.1 y.2.2.1 y.2.2.2.1, .int .i64 y.2.2.2.2.2] 27)).alloc (.cells #[.bool false, .slice none 0 0, .int .i64 0, .bool false, .slice none 0 0, .int .i64 0] 27)) (hx.keep bA) (hy.keep bA)
 have HO : Hid _ := fun (q : rtT x y = true) w' (q1 : inT w' x) (q2 : inT w' y) => vOne_calls x y (by have := (rt_okT q).1.2; omega) (by have := (rt_okT q).2.2; omega) w' q1 q2
 have HL : Hid (rtT x y = true → (wO (formD x.1 (val x.2.2.2.2.1) x.2.2.2.2.2).2.1).length ≤ 1024 ∧ (wO (formD y.1 (val y.2.2.2.2.1) y.2.2.2.2.2).2.1).length ≤ 1024) := fun q => ⟨(great_len _).1 (great_mono (form_amount_le _ _ _) (rt_okT q).1.1), (great_len _).1 (great_mono (form_amount_le _ _ _) (rt_okT q).2.1)⟩
 have HE : Hid (cnE x.1 (val x.2.2.2.2.1) x.2.2.2.2.2 y.1 (val y.2.2.2.2.1) y.2.2.2.2.2 = if rtT x y = true then (if (roomB (formD x.1 (val x.2.2.2.2.1) x.2.2.2.2.2) && roomB (formD y.1 (val y.2.2.2.2.1) y.2.2.2.2.2)) = true then 0 else 3) else 2) := cn_words x y
 have HN : Hid (rtT x y = true → (roomB (formD x.1 (val x.2.2.2.2.1) x.2.2.2.2.2) && roomB (formD y.1 (val y.2.2.2.2.1) y.2.2.2.2.2)) = true → cnL x.1 (val x.2.2.2.2.1) x.2.2.2.2.2 y.1 (val y.2.2.2.2.1) y.2.2.2.2.2 = (formD x.1 (val x.2.2.2.2.1) x.2.2.2.2.2) ∧ cnH x.1 (val x.2.2.2.2.1) x.2.2.2.2.2 y.1 (val y.2.2.2.2.1) y.2.2.2.2.2 = (formD y.1 (val y.2.2.2.2.1) y.2.2.2.2.2)) := cn_words2 x y
 have HZ : Hid (cnE x.1 (val x.2.2.2.2.1) x.2.2.2.2.2 y.1 (val y.2.2.2.2.1) y.2.2.2.2.2 ≠ 0 → cnL x.1 (val x.2.2.2.2.1) x.2.2.2.2.2 y.1 (val y.2.2.2.2.1) y.2.2.2.2.2 = (false, 0, 0) ∧ cnH x.1 (val x.2.2.2.2.1) x.2.2.2.2.2 y.1 (val y.2.2.2.2.1) y.2.2.2.2.2 = (false, 0, 0)) := fun q => ⟨if_neg q, if_neg q⟩
 generalize cnE x.1 (val x.2.2.2.2.1) x.2.2.2.2.2 y.1 (val y.2.2.2.2.1) y.2.2.2.2.2 = EE at *
 generalize cnL x.1 (val x.2.2.2.2.1) x.2.2.2.2.2 y.1 (val y.2.2.2.2.1) y.2.2.2.2.2 = LL at *
 generalize cnH x.1 (val x.2.2.2.2.1) x.2.2.2.2.2 y.1 (val y.2.2.2.2.1) y.2.2.2.2.2 = HH at *
 generalize (formD x.1 (val x.2.2.2.2.1) x.2.2.2.2.2) = P at *
 generalize (formD y.1 (val y.2.2.2.2.1) y.2.2.2.2.2) = Q at *
 generalize rtT x y = rr at *
 have jx := hx.keep bA
 have jy := hy.keep bA
 clear hx hy
 go_enter Tryz.func15, Tryz.ntmps15
 go_wp2_with fail
 generalize ((w.alloc (.cells #[.bool x.1, .slice x.2.1 x.2.2.1 x.2.2.2.1, .int .i64 x.2.2.2.2.2, .bool y.1, .slice y.2.1 y.2.2.1 y.2.2.2.1, .int .i64 y.2.2.2.2.2] 27)).alloc (.cells #[.bool false, .slice none 0 0, .int .i64 0, .bool false, .slice none 0 0, .int .i64 0] 27)) = w0 at *
 refine Calls.mono HR.out ?_
 rintro r w1 ⟨rfl, bN⟩
 clear HR
 revert z0 f0 z1 f1 z2 f2 z3 f3 z4 f4 z5 f5; refine zf6 bN ?_; intro z0 f0 z1 f1 z2 f2 z3 f3 z4 f4 z5 f5
 revert k0 k1 k2 k3 k4 k5; refine cc6 bN ?_; intro k0 k1 k2 k3 k4 k5
 replace jx := jx.keep bN
 replace jy := jy.keep bN
 replace bA := nT bA bN
 clear bN
 cases rr
 ·have e1 : Hid (EE = 2) := by rw [Hid, HE.out]; rfl
  have e2 : Hid _ := HZ.out (by rw [e1.out]; decide)
  clear HE HN HZ HO HL
  go_wp2_with fail
  refine bodyPost_ret (v := .tuple #[zIvI, .int .i64 2]) (by simp [results, Tryz.results15, go_sem, z0, z1, z2, z3, z4, z5]) rfl ⟨?_, by repeat (first | (with_reducible exact bA) | (with_reducible refine Below.setCell ?_ (by simp; try omega) _))⟩
  rw [e1.out, e2.out.1, e2.out.2]
  exact ansI_nil _ _ _
 have hl := HL.out (by first | rfl | trivial)
 have HL2 : Hid _ := hl
 clear hl HL
 go_wp2_with fail
 have lw : Hid (_ ≤ _) := bA.size
 refine Calls.mono (HO.out (by first | rfl | trivial) _ jx jy) ?_
 rintro r w2 ⟨al, nl, cl, ah, nh, ch, rfl, Nl, Nh, Ol, Oh, bN⟩
 have Ml : Hid (nl ≤ 1024) := by rw [Hid, Nl.out]; exact HL2.out.1
 have Mh : Hid (nh ≤ 1024) := by rw [Hid, Nh.out]; exact HL2.out.2
 replace Ol := Ol.low lw.out
 replace Oh := Oh.low lw.out
 clear lw HO jx jy HL2 Nl Nh
 revert z0 f0 z1 f1 z2 f2 z3 f3 z4 f4 z5 f5; refine zf6 bN ?_; intro z0 f0 z1 f1 z2 f2 z3 f3 z4 f4 z5 f5
 revert k0 k1 k2 k3 k4 k5; refine cc6 bN ?_; intro k0 k1 k2 k3 k4 k5
 replace bA := nT bA bN
 clear bN
 have HM : Hid _ := vRoom_calls (mT P al nl cl) (mT Q ah nh ch) w2 ⟨Ol.1, by have := Ml.out; show nl ≤ _; omega⟩ ⟨Oh.1, by have := Mh.out; show nh ≤ _; omega⟩
 have g1 : rgT (mT P al nl cl) = roomB P := by show rightB (val (wO P.2.1)) P.2.2 = roomB P; rw [val_words]; rfl
 have g2 : rgT (mT Q ah nh ch) = roomB Q := by show rightB (val (wO Q.2.1)) Q.2.2 = roomB Q; rw [val_words]; rfl
 rw [g1, g2] at HM
 clear g1 g2
 go_wp2_with fail
 refine Calls.mono HM.out ?_
 rintro r w3 ⟨rfl, bN⟩
 replace Ol := Ol.keep bN
 replace Oh := Oh.keep bN
 clear HM
 revert z0 f0 z1 f1 z2 f2 z3 f3 z4 f4 z5 f5; refine zf6 bN ?_; intro z0 f0 z1 f1 z2 f2 z3 f3 z4 f4 z5 f5
 revert k0 k1 k2 k3 k4 k5; refine cc6 bN ?_; intro k0 k1 k2 k3 k4 k5
 replace bA := nT bA bN
 clear bN
 cases hq : (roomB P && roomB Q)
 ·have e1 : Hid (EE = 3) := by rw [Hid, HE.out, hq]; rfl
  have e2 : Hid _ := HZ.out (by rw [e1.out]; decide)
  clear HE HN HZ hq
  go_wp2_with fail
  refine bodyPost_ret (v := .tuple #[zIvI, .int .i64 3]) (by simp [results, Tryz.results15, go_sem, z0, z1, z2, z3, z4, z5]) rfl ⟨?_, by repeat (first | (with_reducible exact bA) | (with_reducible refine Below.setCell ?_ (by simp; try omega) _))⟩
  rw [e1.out, e2.out.1, e2.out.2]
  exact ansI_nil _ _ _
 ·have e1 : Hid (EE = 0) := by rw [Hid, HE.out, hq]; rfl
  have e2 : Hid _ := HN.out (by first | rfl | trivial) hq
  clear HE HN HZ hq
  go_wp2_with fail
  have s6 := six_ofI z0 z1 z2 z3 z4 z5 (fun _ q => by cases q) (fun _ q => by cases q) (fun _ q => by cases q) (fun _ q => by cases q) (fun _ q => by cases q) (fun _ q => by cases q)
  refine bodyPost_ret (v := .tuple #[ivI P.1 al nl cl P.2.2 Q.1 ah nh ch Q.2.2, .int .i64 0]) (by simp [results, Tryz.results15, go_sem, z0, z1, z2, z3, z4, z5]) rfl ⟨?_, by repeat (first | (with_reducible exact bA) | (with_reducible refine Below.setCell ?_ (by simp; try omega) _))⟩
  rw [e1.out, e2.out.1, e2.out.2]
  exact ⟨al, nl, cl, ah, nh, ch, rfl, ⟨Ml.out, ownW_sixI Ol s6 _ _ _ _ _ _⟩, ⟨Mh.out, ownW_sixI Oh s6 _ _ _ _ _ _⟩⟩
theorem sm_both {x y u v : DT} (a1 : x.1 = u.1) (a2 : x.2.2.2.2.2 = u.2.2.2.2.2) (a3 : x.2.2.2.2.1 = u.2.2.2.2.1) (b1 : y.1 = v.1) (b2 : y.2.2.2.2.2 = v.2.2.2.2.2) (b3 : y.2.2.2.2.1 = v.2.2.2.2.1) : (smT x u && smT y v) = true := by
 unfold smT sameB
 rw [a1, a2, a3, b1, b2, b3]
 simp
theorem cmp_selfI (x : Bool × Nat × Int) : cmpD x x = 0 := by
 rw [vI_cmp x x (-(x.2.2)).toNat (by omega) (by omega)]
 unfold Lib.compareInt
 simp
theorem point_words (d : DT) : cnL d.1 (val d.2.2.2.2.1) d.2.2.2.2.2 d.1 (val d.2.2.2.2.1) d.2.2.2.2.2 = canP d.1 (val d.2.2.2.2.1) d.2.2.2.2.2 ∧ cnH d.1 (val d.2.2.2.2.1) d.2.2.2.2.2 d.1 (val d.2.2.2.2.1) d.2.2.2.2.2 = canP d.1 (val d.2.2.2.2.1) d.2.2.2.2.2 ∧ cnE d.1 (val d.2.2.2.2.1) d.2.2.2.2.2 d.1 (val d.2.2.2.2.1) d.2.2.2.2.2 = canE d.1 (val d.2.2.2.2.1) d.2.2.2.2.2 := by
 have hr : rtI d.1 (val d.2.2.2.2.1) d.2.2.2.2.2 d.1 (val d.2.2.2.2.1) d.2.2.2.2.2 = rightB (val d.2.2.2.2.1) d.2.2.2.2.2 := by
  unfold rtI
  rw [cmp_selfI]
  simp
 have hE : cnE d.1 (val d.2.2.2.2.1) d.2.2.2.2.2 d.1 (val d.2.2.2.2.1) d.2.2.2.2.2 = canE d.1 (val d.2.2.2.2.1) d.2.2.2.2.2 := by
  unfold cnE canE
  rw [hr]
  cases rightB (val d.2.2.2.2.1) d.2.2.2.2.2
  ·rfl
  ·rw [if_pos rfl, if_pos rfl]
   split <;> rfl
 have h0 : canE d.1 (val d.2.2.2.2.1) d.2.2.2.2.2 ≠ 0 → canP d.1 (val d.2.2.2.2.1) d.2.2.2.2.2 = (false, 0, 0) := fun q => by
  unfold canE canP at *
  by_cases r : rightB (val d.2.2.2.2.1) d.2.2.2.2.2 = true
  ·rw [if_pos r] at *
   unfold roomE roomP at *
   by_cases z : roomB (formD d.1 (val d.2.2.2.2.1) d.2.2.2.2.2) = true
   ·rw [if_pos z] at q; exact absurd rfl q
   ·rw [if_neg z]
  ·rw [if_neg r]
 have hL : cnL d.1 (val d.2.2.2.2.1) d.2.2.2.2.2 d.1 (val d.2.2.2.2.1) d.2.2.2.2.2 = canP d.1 (val d.2.2.2.2.1) d.2.2.2.2.2 := by
  unfold cnL
  rw [hE]
  by_cases z : canE d.1 (val d.2.2.2.2.1) d.2.2.2.2.2 = 0
  ·rw [if_pos z]
  ·rw [if_neg z, h0 z]
 have hH : cnH d.1 (val d.2.2.2.2.1) d.2.2.2.2.2 d.1 (val d.2.2.2.2.1) d.2.2.2.2.2 = canP d.1 (val d.2.2.2.2.1) d.2.2.2.2.2 := by
  unfold cnH
  rw [hE]
  by_cases z : canE d.1 (val d.2.2.2.2.1) d.2.2.2.2.2 = 0
  ·rw [if_pos z]
  ·rw [if_neg z, h0 z]
 exact ⟨hL, hH, hE⟩
theorem can_len (d : DT) : (wO (canP d.1 (val d.2.2.2.2.1) d.2.2.2.2.2).2.1).length ≤ 1024 := by
 unfold canP
 split
 ·unfold roomP
  split
  ·rename_i z
   unfold roomB at z
   rw [Bool.and_eq_true] at z
   exact (great_len _).1 (by simpa using z.1)
  ·rw [words_zero]; simp
 ·rw [words_zero]; simp
set_option maxRecDepth 100000 in
set_option maxHeartbeats 16000000 in
theorem ivalForms_dt (x y d : DT) (w : World) (hx : inT w x) (hy : inT w y) (hd : inT w d) (hT : Tab w) :
  Calls Tryz.prog 3 #[ivT x y, dT d] w fun r w' => r = .returned (.bool true) ∧ Below w.heap.size w w' := by
 have bA : Below w.heap.size w ((w.alloc (.cells #[.bool x.1, .slice x.2.1 x.2.2.1 x.2.2.2.1, .int .i64 x.2.2.2.2.2, .bool y.1, .slice y.2.1 y.2.2.1 y.2.2.2.1, .int .i64 y.2.2.2.2.2] 27)).alloc (.cells #[.bool d.1, .slice d.2.1 d.2.2.1 d.2.2.2.1, .int .i64 d.2.2.2.2.2] 25)) := nT (below_one _ _) (below_one _ _)
 have jx := hx.keep bA
 have jy := hy.keep bA
 have jd := hd.keep bA
 have tt := hT.kept bA
 have hx2 : Hid (x.2.2.1 ≤ 17592186044000) := hx.2
 have hy2 : Hid (y.2.2.1 ≤ 17592186044000) := hy.2
 have PN := point_words d
 have RC : Hid (rcE x.1 (val x.2.2.2.2.1) x.2.2.2.2.2 y.1 (val y.2.2.2.2.1) y.2.2.2.2.2 = if rtT x y = true then 0 else 2) := by rw [Hid]; rfl
 have HCk : Hid _ := fun w' (q : inT w' x) (q' : inT w' y) tt => icheck_calls x.1 x.2.1 x.2.2.1 x.2.2.2.1 x.2.2.2.2.1 x.2.2.2.2.2 y.1 y.2.1 y.2.2.1 y.2.2.2.1 y.2.2.2.2.1 y.2.2.2.2.2 w' q.1 q.2 q'.1 q'.2 tt
 have HPt : Hid _ := fun w' (q : inT w' d) tt => ipoint_calls d.1 d.2.1 d.2.2.1 d.2.2.2.1 d.2.2.2.2.1 d.2.2.2.2.2 w' q.1 q.2 tt
 have HCd : Hid _ := fun w' (q : inT w' d) => qCanon_calls d.1 d.2.1 d.2.2.1 d.2.2.2.1 d.2.2.2.2.1 d.2.2.2.2.2 w' q.1 q.2
 have HLd : Hid ((wO (canP d.1 (val d.2.2.2.2.1) d.2.2.2.2.2).2.1).length ≤ 1024) := can_len d
 rw [PN.1, PN.2.1, PN.2.2] at HPt
 have HCa : Hid _ := fun w' ax cx ay cy (q : IsW w' ax x.2.2.1 cx x.2.2.2.2.1) (q' : IsW w' ay y.2.2.1 cy y.2.2.2.2.1) tt => icanon_calls x.1 ax x.2.2.1 cx x.2.2.2.2.1 x.2.2.2.2.2 y.1 ay y.2.2.1 cy y.2.2.2.2.1 y.2.2.2.2.2 w' q hx2.out q' hy2.out tt
 have HCb : Hid _ := fun w' (q : inT w' x) (q' : inT w' y) => vCanon_calls x y w' q q'
 generalize cnE x.1 (val x.2.2.2.2.1) x.2.2.2.2.2 y.1 (val y.2.2.2.2.1) y.2.2.2.2.2 = EE at *
 generalize cnL x.1 (val x.2.2.2.2.1) x.2.2.2.2.2 y.1 (val y.2.2.2.2.1) y.2.2.2.2.2 = LL at *
 generalize cnH x.1 (val x.2.2.2.2.1) x.2.2.2.2.2 y.1 (val y.2.2.2.2.1) y.2.2.2.2.2 = HH at *
 generalize canE d.1 (val d.2.2.2.2.1) d.2.2.2.2.2 = ED at *
 generalize canP d.1 (val d.2.2.2.2.1) d.2.2.2.2.2 = PD at *
 generalize rcE x.1 (val x.2.2.2.2.1) x.2.2.2.2.2 y.1 (val y.2.2.2.2.1) y.2.2.2.2.2 = rc at *
 clear PN
 have k0 : ((w.alloc (.cells #[.bool x.1, .slice x.2.1 x.2.2.1 x.2.2.2.1, .int .i64 x.2.2.2.2.2, .bool y.1, .slice y.2.1 y.2.2.1 y.2.2.2.1, .int .i64 y.2.2.2.2.2] 27)).alloc (.cells #[.bool d.1, .slice d.2.1 d.2.2.1 d.2.2.2.1, .int .i64 d.2.2.2.2.2] 25)).cell? ⟨w.heap.size, 0, none⟩ = some (.bool x.1) := by go_simp
 have k1 : ((w.alloc (.cells #[.bool x.1, .slice x.2.1 x.2.2.1 x.2.2.2.1, .int .i64 x.2.2.2.2.2, .bool y.1, .slice y.2.1 y.2.2.1 y.2.2.2.1, .int .i64 y.2.2.2.2.2] 27)).alloc (.cells #[.bool d.1, .slice d.2.1 d.2.2.1 d.2.2.2.1, .int .i64 d.2.2.2.2.2] 25)).cell? ⟨w.heap.size, 1, none⟩ = some (.slice x.2.1 x.2.2.1 x.2.2.2.1) := by go_simp
 have k2 : ((w.alloc (.cells #[.bool x.1, .slice x.2.1 x.2.2.1 x.2.2.2.1, .int .i64 x.2.2.2.2.2, .bool y.1, .slice y.2.1 y.2.2.1 y.2.2.2.1, .int .i64 y.2.2.2.2.2] 27)).alloc (.cells #[.bool d.1, .slice d.2.1 d.2.2.1 d.2.2.2.1, .int .i64 d.2.2.2.2.2] 25)).cell? ⟨w.heap.size, 2, none⟩ = some (.int .i64 x.2.2.2.2.2) := by go_simp
 have k3 : ((w.alloc (.cells #[.bool x.1, .slice x.2.1 x.2.2.1 x.2.2.2.1, .int .i64 x.2.2.2.2.2, .bool y.1, .slice y.2.1 y.2.2.1 y.2.2.2.1, .int .i64 y.2.2.2.2.2] 27)).alloc (.cells #[.bool d.1, .slice d.2.1 d.2.2.1 d.2.2.2.1, .int .i64 d.2.2.2.2.2] 25)).cell? ⟨w.heap.size, 3, none⟩ = some (.bool y.1) := by go_simp
 have k4 : ((w.alloc (.cells #[.bool x.1, .slice x.2.1 x.2.2.1 x.2.2.2.1, .int .i64 x.2.2.2.2.2, .bool y.1, .slice y.2.1 y.2.2.1 y.2.2.2.1, .int .i64 y.2.2.2.2.2] 27)).alloc (.cells #[.bool d.1, .slice d.2.1 d.2.2.1 d.2.2.2.1, .int .i64 d.2.2.2.2.2] 25)).cell? ⟨w.heap.size, 4, none⟩ = some (.slice y.2.1 y.2.2.1 y.2.2.2.1) := by go_simp
 have k5 : ((w.alloc (.cells #[.bool x.1, .slice x.2.1 x.2.2.1 x.2.2.2.1, .int .i64 x.2.2.2.2.2, .bool y.1, .slice y.2.1 y.2.2.1 y.2.2.2.1, .int .i64 y.2.2.2.2.2] 27)).alloc (.cells #[.bool d.1, .slice d.2.1 d.2.2.1 d.2.2.2.1, .int .i64 d.2.2.2.2.2] 25)).cell? ⟨w.heap.size, 5, none⟩ = some (.int .i64 y.2.2.2.2.2) := by go_simp
 have l0 : ((w.alloc (.cells #[.bool x.1, .slice x.2.1 x.2.2.1 x.2.2.2.1, .int .i64 x.2.2.2.2.2, .bool y.1, .slice y.2.1 y.2.2.1 y.2.2.2.1, .int .i64 y.2.2.2.2.2] 27)).alloc (.cells #[.bool d.1, .slice d.2.1 d.2.2.1 d.2.2.2.1, .int .i64 d.2.2.2.2.2] 25)).cell? ⟨w.heap.size + 1, 0, none⟩ = some (.bool d.1) := by go_simp
 have l1 : ((w.alloc (.cells #[.bool x.1, .slice x.2.1 x.2.2.1 x.2.2.2.1, .int .i64 x.2.2.2.2.2, .bool y.1, .slice y.2.1 y.2.2.1 y.2.2.2.1, .int .i64 y.2.2.2.2.2] 27)).alloc (.cells #[.bool d.1, .slice d.2.1 d.2.2.1 d.2.2.2.1, .int .i64 d.2.2.2.2.2] 25)).cell? ⟨w.heap.size + 1, 1, none⟩ = some (.slice d.2.1 d.2.2.1 d.2.2.2.1) := by go_simp
 have l2 : ((w.alloc (.cells #[.bool x.1, .slice x.2.1 x.2.2.1 x.2.2.2.1, .int .i64 x.2.2.2.2.2, .bool y.1, .slice y.2.1 y.2.2.1 y.2.2.2.1, .int .i64 y.2.2.2.2.2] 27)).alloc (.cells #[.bool d.1, .slice d.2.1 d.2.2.1 d.2.2.2.1, .int .i64 d.2.2.2.2.2] 25)).cell? ⟨w.heap.size + 1, 2, none⟩ = some (.int .i64 d.2.2.2.2.2) := by go_simp
 clear hx hy hd hT
 go_enter Tryz.func3, Tryz.ntmps3
 go_wp2_with fail
 generalize ((w.alloc (.cells #[.bool x.1, .slice x.2.1 x.2.2.1 x.2.2.2.1, .int .i64 x.2.2.2.2.2, .bool y.1, .slice y.2.1 y.2.2.1 y.2.2.2.1, .int .i64 y.2.2.2.2.2] 27)).alloc (.cells #[.bool d.1, .slice d.2.1 d.2.2.1 d.2.2.2.1, .int .i64 d.2.2.2.2.2] 25)) = w0 at *
 refine Calls.mono (vCopy_calls x y w0 jx jy) ?_
 rintro r w1 ⟨ax, cx, ay, cy, rfl, Ox, Oy, bN⟩
 revert k0 k1 k2 k3 k4 k5; refine cc6 bN ?_; intro k0 k1 k2 k3 k4 k5
 revert l0 l1 l2; refine cc3 bN ?_; intro l0 l1 l2
 replace jx := jx.keep bN
 replace jy := jy.keep bN
 replace jd := jd.keep bN
 replace tt := tt.kept bN
 replace bA := nT bA bN
 clear bN
 have bN := below_one w1 (.cells #[.bool x.1, .slice ax x.2.2.1 cx, .int .i64 x.2.2.2.2.2, .bool y.1, .slice ay y.2.2.1 cy, .int .i64 y.2.2.2.2.2] 27)
 have g0 : (w1.alloc (.cells #[.bool x.1, .slice ax x.2.2.1 cx, .int .i64 x.2.2.2.2.2, .bool y.1, .slice ay y.2.2.1 cy, .int .i64 y.2.2.2.2.2] 27)).cell? ⟨w1.heap.size, 0, none⟩ = some (.bool x.1) := by go_simp
 have g1 : (w1.alloc (.cells #[.bool x.1, .slice ax x.2.2.1 cx, .int .i64 x.2.2.2.2.2, .bool y.1, .slice ay y.2.2.1 cy, .int .i64 y.2.2.2.2.2] 27)).cell? ⟨w1.heap.size, 1, none⟩ = some (.slice ax x.2.2.1 cx) := by go_simp
 have g2 : (w1.alloc (.cells #[.bool x.1, .slice ax x.2.2.1 cx, .int .i64 x.2.2.2.2.2, .bool y.1, .slice ay y.2.2.1 cy, .int .i64 y.2.2.2.2.2] 27)).cell? ⟨w1.heap.size, 2, none⟩ = some (.int .i64 x.2.2.2.2.2) := by go_simp
 have g3 : (w1.alloc (.cells #[.bool x.1, .slice ax x.2.2.1 cx, .int .i64 x.2.2.2.2.2, .bool y.1, .slice ay y.2.2.1 cy, .int .i64 y.2.2.2.2.2] 27)).cell? ⟨w1.heap.size, 3, none⟩ = some (.bool y.1) := by go_simp
 have g4 : (w1.alloc (.cells #[.bool x.1, .slice ax x.2.2.1 cx, .int .i64 x.2.2.2.2.2, .bool y.1, .slice ay y.2.2.1 cy, .int .i64 y.2.2.2.2.2] 27)).cell? ⟨w1.heap.size, 4, none⟩ = some (.slice ay y.2.2.1 cy) := by go_simp
 have g5 : (w1.alloc (.cells #[.bool x.1, .slice ax x.2.2.1 cx, .int .i64 x.2.2.2.2.2, .bool y.1, .slice ay y.2.2.1 cy, .int .i64 y.2.2.2.2.2] 27)).cell? ⟨w1.heap.size, 5, none⟩ = some (.int .i64 y.2.2.2.2.2) := by go_simp
 revert k0 k1 k2 k3 k4 k5; refine cc6 bN ?_; intro k0 k1 k2 k3 k4 k5
 revert l0 l1 l2; refine cc3 bN ?_; intro l0 l1 l2
 replace Ox := Ox.keep bN
 replace Oy := Oy.keep bN
 replace jx := jx.keep bN
 replace jy := jy.keep bN
 replace jd := jd.keep bN
 replace tt := tt.kept bN
 replace bA := nT bA bN
 clear bN
 go_wp2_with fail
 generalize w1.heap.size = Gg at *
 generalize (w1.alloc (.cells #[.bool x.1, .slice ax x.2.2.1 cx, .int .i64 x.2.2.2.2.2, .bool y.1, .slice ay y.2.2.1 cy, .int .i64 y.2.2.2.2.2] 27)) = w2 at *
 refine Calls.mono (HCa.out _ _ _ _ _ Ox.1 Oy.1 tt) ?_
 rintro r w3 ⟨al, nl, cl, ah, nh, ch, rfl, Nl, Nh, Ol, Oh, bN⟩
 have Ml : Hid (nl ≤ 1024) := Nl
 have Mh : Hid (nh ≤ 1024) := Nh
 clear Nl Nh HCa
 revert k0 k1 k2 k3 k4 k5; refine cc6 bN ?_; intro k0 k1 k2 k3 k4 k5
 revert l0 l1 l2 g0 g1 g2; refine cc6 bN ?_; intro l0 l1 l2 g0 g1 g2
 revert g3 g4 g5; refine cc3 bN ?_; intro g3 g4 g5
 replace Ox := Ox.keep bN
 replace Oy := Oy.keep bN
 replace jx := jx.keep bN
 replace jy := jy.keep bN
 replace jd := jd.keep bN
 replace tt := tt.kept bN
 replace bA := nT bA bN
 clear bN
 have bN := below_one w3 (.cells #[.bool LL.1, .slice al nl cl, .int .i64 LL.2.2, .bool HH.1, .slice ah nh ch, .int .i64 HH.2.2] 27)
 obtain ⟨p0, p1, p2, p3, p4, p5⟩ := fX9 w3 LL al nl cl HH ah nh ch _ rfl
 revert k0 k1 k2 k3 k4 k5; refine cc6 bN ?_; intro k0 k1 k2 k3 k4 k5
 revert l0 l1 l2 g0 g1 g2; refine cc6 bN ?_; intro l0 l1 l2 g0 g1 g2
 revert g3 g4 g5; refine cc3 bN ?_; intro g3 g4 g5
 replace Ox := Ox.keep bN
 replace Oy := Oy.keep bN
 replace Ol := Ol.keep bN
 replace Oh := Oh.keep bN
 replace jx := jx.keep bN
 replace jy := jy.keep bN
 replace jd := jd.keep bN
 replace tt := tt.kept bN
 replace bA := nT bA bN
 clear bN
 go_wp2_with fail
 generalize w3.heap.size = Gp at *
 generalize (w3.alloc (.cells #[.bool LL.1, .slice al nl cl, .int .i64 LL.2.2, .bool HH.1, .slice ah nh ch, .int .i64 HH.2.2] 27)) = w4 at *
 refine Calls.mono (HCb.out _ jx jy) ?_
 rintro r w5 ⟨⟨al2, nl2, cl2, ah2, nh2, ch2, rfl, Ql, Qh⟩, bN⟩
 clear HCb
 revert k0 k1 k2 k3 k4 k5; refine cc6 bN ?_; intro k0 k1 k2 k3 k4 k5
 revert l0 l1 l2 g0 g1 g2; refine cc6 bN ?_; intro l0 l1 l2 g0 g1 g2
 revert g3 g4 g5 p0 p1 p2; refine cc6 bN ?_; intro g3 g4 g5 p0 p1 p2
 revert p3 p4 p5; refine cc3 bN ?_; intro p3 p4 p5
 replace Ox := Ox.keep bN
 replace Oy := Oy.keep bN
 replace Ol := Ol.keep bN
 replace Oh := Oh.keep bN
 replace jx := jx.keep bN
 replace jy := jy.keep bN
 replace jd := jd.keep bN
 replace tt := tt.kept bN
 replace bA := nT bA bN
 clear bN
 have bN := below_one w5 (.cells #[.bool LL.1, .slice al2 nl2 cl2, .int .i64 LL.2.2, .bool HH.1, .slice ah2 nh2 ch2, .int .i64 HH.2.2] 27)
 obtain ⟨q0, q1, q2, q3, q4, q5⟩ := fX9 w5 LL al2 nl2 cl2 HH ah2 nh2 ch2 _ rfl
 revert k0 k1 k2 k3 k4 k5; refine cc6 bN ?_; intro k0 k1 k2 k3 k4 k5
 revert l0 l1 l2 g0 g1 g2; refine cc6 bN ?_; intro l0 l1 l2 g0 g1 g2
 revert g3 g4 g5 p0 p1 p2; refine cc6 bN ?_; intro g3 g4 g5 p0 p1 p2
 revert p3 p4 p5; refine cc3 bN ?_; intro p3 p4 p5
 replace Ox := Ox.keep bN
 replace Oy := Oy.keep bN
 replace Ol := Ol.keep bN
 replace Oh := Oh.keep bN
 replace Ql := Ql.keep bN
 replace Qh := Qh.keep bN
 replace jx := jx.keep bN
 replace jy := jy.keep bN
 replace jd := jd.keep bN
 replace tt := tt.kept bN
 replace bA := nT bA bN
 clear bN
 go_wp2_with fail
 generalize w5.heap.size = Gq at *
 generalize (w5.alloc (.cells #[.bool LL.1, .slice al2 nl2 cl2, .int .i64 LL.2.2, .bool HH.1, .slice ah2 nh2 ch2, .int .i64 HH.2.2] 27)) = w6 at *
 refine Calls.mono (HPt.out _ jd tt) ?_
 rintro r w7 ⟨ap, np, cp, aq, nq, cq, rfl, Np, Nq, Op, Oq, bN⟩
 have Mp : Hid (np ≤ 1024) := Np
 have Mq : Hid (nq ≤ 1024) := Nq
 clear Np Nq HPt
 revert k0 k1 k2 k3 k4 k5; refine cc6 bN ?_; intro k0 k1 k2 k3 k4 k5
 revert l0 l1 l2 g0 g1 g2; refine cc6 bN ?_; intro l0 l1 l2 g0 g1 g2
 revert g3 g4 g5 p0 p1 p2; refine cc6 bN ?_; intro g3 g4 g5 p0 p1 p2
 revert p3 p4 p5 q0 q1 q2; refine cc6 bN ?_; intro p3 p4 p5 q0 q1 q2
 revert q3 q4 q5; refine cc3 bN ?_; intro q3 q4 q5
 replace Ox := Ox.keep bN
 replace Oy := Oy.keep bN
 replace Ol := Ol.keep bN
 replace Oh := Oh.keep bN
 replace Ql := Ql.keep bN
 replace Qh := Qh.keep bN
 replace jx := jx.keep bN
 replace jy := jy.keep bN
 replace jd := jd.keep bN
 replace tt := tt.kept bN
 replace bA := nT bA bN
 clear bN
 have bN := below_one w7 (.cells #[.bool PD.1, .slice ap np cp, .int .i64 PD.2.2, .bool PD.1, .slice aq nq cq, .int .i64 PD.2.2] 27)
 have r0 : (w7.alloc (.cells #[.bool PD.1, .slice ap np cp, .int .i64 PD.2.2, .bool PD.1, .slice aq nq cq, .int .i64 PD.2.2] 27)).cell? ⟨w7.heap.size, 0, none⟩ = some (.bool PD.1) := by go_simp
 have r1 : (w7.alloc (.cells #[.bool PD.1, .slice ap np cp, .int .i64 PD.2.2, .bool PD.1, .slice aq nq cq, .int .i64 PD.2.2] 27)).cell? ⟨w7.heap.size, 1, none⟩ = some (.slice ap np cp) := by go_simp
 have r2 : (w7.alloc (.cells #[.bool PD.1, .slice ap np cp, .int .i64 PD.2.2, .bool PD.1, .slice aq nq cq, .int .i64 PD.2.2] 27)).cell? ⟨w7.heap.size, 2, none⟩ = some (.int .i64 PD.2.2) := by go_simp
 have r3 : (w7.alloc (.cells #[.bool PD.1, .slice ap np cp, .int .i64 PD.2.2, .bool PD.1, .slice aq nq cq, .int .i64 PD.2.2] 27)).cell? ⟨w7.heap.size, 3, none⟩ = some (.bool PD.1) := by go_simp
 have r4 : (w7.alloc (.cells #[.bool PD.1, .slice ap np cp, .int .i64 PD.2.2, .bool PD.1, .slice aq nq cq, .int .i64 PD.2.2] 27)).cell? ⟨w7.heap.size, 4, none⟩ = some (.slice aq nq cq) := by go_simp
 have r5 : (w7.alloc (.cells #[.bool PD.1, .slice ap np cp, .int .i64 PD.2.2, .bool PD.1, .slice aq nq cq, .int .i64 PD.2.2] 27)).cell? ⟨w7.heap.size, 5, none⟩ = some (.int .i64 PD.2.2) := by go_simp
 revert k0 k1 k2 k3 k4 k5; refine cc6 bN ?_; intro k0 k1 k2 k3 k4 k5
 revert l0 l1 l2 g0 g1 g2; refine cc6 bN ?_; intro l0 l1 l2 g0 g1 g2
 revert g3 g4 g5 p0 p1 p2; refine cc6 bN ?_; intro g3 g4 g5 p0 p1 p2
 revert p3 p4 p5 q0 q1 q2; refine cc6 bN ?_; intro p3 p4 p5 q0 q1 q2
 revert q3 q4 q5; refine cc3 bN ?_; intro q3 q4 q5
 replace Ox := Ox.keep bN
 replace Oy := Oy.keep bN
 replace Ol := Ol.keep bN
 replace Oh := Oh.keep bN
 replace Ql := Ql.keep bN
 replace Qh := Qh.keep bN
 replace Op := Op.keep bN
 replace Oq := Oq.keep bN
 replace jx := jx.keep bN
 replace jy := jy.keep bN
 replace jd := jd.keep bN
 replace tt := tt.kept bN
 replace bA := nT bA bN
 clear bN
 go_wp2_with fail
 generalize w7.heap.size = Gr at *
 generalize (w7.alloc (.cells #[.bool PD.1, .slice ap np cp, .int .i64 PD.2.2, .bool PD.1, .slice aq nq cq, .int .i64 PD.2.2] 27)) = w8 at *
 refine Calls.mono (HCd.out _ jd) ?_
 rintro r w9 ⟨_, rfl, ⟨ae, ns, cs, rfl, Ns, Os⟩, bN⟩
 have Ms : Hid (ns ≤ 1024) := by rw [Hid, Ns.out]; exact HLd.out
 clear Ns HLd HCd
 revert k0 k1 k2 k3 k4 k5; refine cc6 bN ?_; intro k0 k1 k2 k3 k4 k5
 revert l0 l1 l2 g0 g1 g2; refine cc6 bN ?_; intro l0 l1 l2 g0 g1 g2
 revert g3 g4 g5 p0 p1 p2; refine cc6 bN ?_; intro g3 g4 g5 p0 p1 p2
 revert p3 p4 p5 q0 q1 q2; refine cc6 bN ?_; intro p3 p4 p5 q0 q1 q2
 revert q3 q4 q5 r0 r1 r2; refine cc6 bN ?_; intro q3 q4 q5 r0 r1 r2
 revert r3 r4 r5; refine cc3 bN ?_; intro r3 r4 r5
 replace Ox := Ox.keep bN
 replace Oy := Oy.keep bN
 replace Ol := Ol.keep bN
 replace Oh := Oh.keep bN
 replace Ql := Ql.keep bN
 replace Qh := Qh.keep bN
 replace Op := Op.keep bN
 replace Oq := Oq.keep bN
 replace jx := jx.keep bN
 replace jy := jy.keep bN
 replace jd := jd.keep bN
 replace tt := tt.kept bN
 replace bA := nT bA bN
 clear bN
 have bN := below_one w9 (.cells #[.bool PD.1, .slice ae ns cs, .int .i64 PD.2.2] 25)
 have s0 : (w9.alloc (.cells #[.bool PD.1, .slice ae ns cs, .int .i64 PD.2.2] 25)).cell? ⟨w9.heap.size, 0, none⟩ = some (.bool PD.1) := by go_simp
 have s1 : (w9.alloc (.cells #[.bool PD.1, .slice ae ns cs, .int .i64 PD.2.2] 25)).cell? ⟨w9.heap.size, 1, none⟩ = some (.slice ae ns cs) := by go_simp
 have s2 : (w9.alloc (.cells #[.bool PD.1, .slice ae ns cs, .int .i64 PD.2.2] 25)).cell? ⟨w9.heap.size, 2, none⟩ = some (.int .i64 PD.2.2) := by go_simp
 revert k0 k1 k2 k3 k4 k5; refine cc6 bN ?_; intro k0 k1 k2 k3 k4 k5
 revert l0 l1 l2 g0 g1 g2; refine cc6 bN ?_; intro l0 l1 l2 g0 g1 g2
 revert g3 g4 g5 p0 p1 p2; refine cc6 bN ?_; intro g3 g4 g5 p0 p1 p2
 revert p3 p4 p5 q0 q1 q2; refine cc6 bN ?_; intro p3 p4 p5 q0 q1 q2
 revert q3 q4 q5 r0 r1 r2; refine cc6 bN ?_; intro q3 q4 q5 r0 r1 r2
 revert r3 r4 r5; refine cc3 bN ?_; intro r3 r4 r5
 replace Ox := Ox.keep bN
 replace Oy := Oy.keep bN
 replace Ol := Ol.keep bN
 replace Oh := Oh.keep bN
 replace Ql := Ql.keep bN
 replace Qh := Qh.keep bN
 replace Op := Op.keep bN
 replace Oq := Oq.keep bN
 replace Os := Os.keep bN
 replace jx := jx.keep bN
 replace jy := jy.keep bN
 replace jd := jd.keep bN
 replace tt := tt.kept bN
 replace bA := nT bA bN
 clear bN
 go_wp2_with fail
 generalize w9.heap.size = Gs at *
 generalize (w9.alloc (.cells #[.bool PD.1, .slice ae ns cs, .int .i64 PD.2.2] 25)) = w10 at *
 refine Calls.mono (vRight_calls x y w10 jx jy) ?_
 rintro r w11 ⟨rfl, bN⟩
 revert k0 k1 k2 k3 k4 k5; refine cc6 bN ?_; intro k0 k1 k2 k3 k4 k5
 revert l0 l1 l2 g0 g1 g2; refine cc6 bN ?_; intro l0 l1 l2 g0 g1 g2
 revert g3 g4 g5 p0 p1 p2; refine cc6 bN ?_; intro g3 g4 g5 p0 p1 p2
 revert p3 p4 p5 q0 q1 q2; refine cc6 bN ?_; intro p3 p4 p5 q0 q1 q2
 revert q3 q4 q5 r0 r1 r2; refine cc6 bN ?_; intro q3 q4 q5 r0 r1 r2
 revert r3 r4 r5 s0 s1 s2; refine cc6 bN ?_; intro r3 r4 r5 s0 s1 s2
 replace Ox := Ox.keep bN
 replace Oy := Oy.keep bN
 replace Ol := Ol.keep bN
 replace Oh := Oh.keep bN
 replace Ql := Ql.keep bN
 replace Qh := Qh.keep bN
 replace Op := Op.keep bN
 replace Oq := Oq.keep bN
 replace Os := Os.keep bN
 replace jx := jx.keep bN
 replace jy := jy.keep bN
 replace jd := jd.keep bN
 replace tt := tt.kept bN
 replace bA := nT bA bN
 clear bN
 go_wp2_with fail
 have HS : Hid _ := vSame_calls (mT LL al nl cl) (mT HH ah nh ch) (mT LL al2 nl2 cl2) (mT HH ah2 nh2 ch2) _ ⟨Ol.1, by have := Ml.out; show nl ≤ _; omega⟩ ⟨Oh.1, by have := Mh.out; show nh ≤ _; omega⟩ ⟨Ql.2.1, by have := Ql.1; show nl2 ≤ _; omega⟩ ⟨Qh.2.1, by have := Qh.1; show nh2 ≤ _; omega⟩
 rw [show (smT (mT LL al nl cl) (mT LL al2 nl2 cl2) && smT (mT HH ah nh ch) (mT HH ah2 nh2 ch2)) = true from sm_both rfl rfl rfl rfl rfl rfl] at HS
 refine Calls.mono HS.out ?_
 rintro r w12 ⟨rfl, bN⟩
 clear HS
 revert k0 k1 k2 k3 k4 k5; refine cc6 bN ?_; intro k0 k1 k2 k3 k4 k5
 revert l0 l1 l2 g0 g1 g2; refine cc6 bN ?_; intro l0 l1 l2 g0 g1 g2
 revert g3 g4 g5 p0 p1 p2; refine cc6 bN ?_; intro g3 g4 g5 p0 p1 p2
 revert p3 p4 p5 q0 q1 q2; refine cc6 bN ?_; intro p3 p4 p5 q0 q1 q2
 revert q3 q4 q5 r0 r1 r2; refine cc6 bN ?_; intro q3 q4 q5 r0 r1 r2
 revert r3 r4 r5 s0 s1 s2; refine cc6 bN ?_; intro r3 r4 r5 s0 s1 s2
 replace Ox := Ox.keep bN
 replace Oy := Oy.keep bN
 replace Ol := Ol.keep bN
 replace Oh := Oh.keep bN
 replace Ql := Ql.keep bN
 replace Qh := Qh.keep bN
 replace Op := Op.keep bN
 replace Oq := Oq.keep bN
 replace Os := Os.keep bN
 replace jx := jx.keep bN
 replace jy := jy.keep bN
 replace jd := jd.keep bN
 replace tt := tt.kept bN
 replace bA := nT bA bN
 clear bN
 go_wp2_with fail
 have HS : Hid _ := vSame_calls (mT PD ap np cp) (mT PD aq nq cq) (mT PD ae ns cs) (mT PD ae ns cs) _ ⟨Op.1, by have := Mp.out; show np ≤ _; omega⟩ ⟨Oq.1, by have := Mq.out; show nq ≤ _; omega⟩ ⟨Os.1, by have := Ms.out; show ns ≤ _; omega⟩ ⟨Os.1, by have := Ms.out; show ns ≤ _; omega⟩
 rw [show (smT (mT PD ap np cp) (mT PD ae ns cs) && smT (mT PD aq nq cq) (mT PD ae ns cs)) = true from sm_both rfl rfl rfl rfl rfl rfl] at HS
 refine Calls.mono HS.out ?_
 rintro r w13 ⟨rfl, bN⟩
 clear HS
 revert k0 k1 k2 k3 k4 k5; refine cc6 bN ?_; intro k0 k1 k2 k3 k4 k5
 revert l0 l1 l2 g0 g1 g2; refine cc6 bN ?_; intro l0 l1 l2 g0 g1 g2
 revert g3 g4 g5 p0 p1 p2; refine cc6 bN ?_; intro g3 g4 g5 p0 p1 p2
 revert p3 p4 p5 q0 q1 q2; refine cc6 bN ?_; intro p3 p4 p5 q0 q1 q2
 revert q3 q4 q5 r0 r1 r2; refine cc6 bN ?_; intro q3 q4 q5 r0 r1 r2
 revert r3 r4 r5 s0 s1 s2; refine cc6 bN ?_; intro r3 r4 r5 s0 s1 s2
 replace Ox := Ox.keep bN
 replace Oy := Oy.keep bN
 replace Ol := Ol.keep bN
 replace Oh := Oh.keep bN
 replace Ql := Ql.keep bN
 replace Qh := Qh.keep bN
 replace Op := Op.keep bN
 replace Oq := Oq.keep bN
 replace Os := Os.keep bN
 replace jx := jx.keep bN
 replace jy := jy.keep bN
 replace jd := jd.keep bN
 replace tt := tt.kept bN
 replace bA := nT bA bN
 clear bN
 go_wp2_with fail
 refine Calls.mono (HCk.out _ jx jy tt) ?_
 rintro r w14 ⟨rfl, bN⟩
 revert k0 k1 k2 k3 k4 k5; refine cc6 bN ?_; intro k0 k1 k2 k3 k4 k5
 revert l0 l1 l2 g0 g1 g2; refine cc6 bN ?_; intro l0 l1 l2 g0 g1 g2
 revert g3 g4 g5 p0 p1 p2; refine cc6 bN ?_; intro g3 g4 g5 p0 p1 p2
 revert p3 p4 p5 q0 q1 q2; refine cc6 bN ?_; intro p3 p4 p5 q0 q1 q2
 revert q3 q4 q5 r0 r1 r2; refine cc6 bN ?_; intro q3 q4 q5 r0 r1 r2
 revert r3 r4 r5 s0 s1 s2; refine cc6 bN ?_; intro r3 r4 r5 s0 s1 s2
 replace Ox := Ox.keep bN
 replace Oy := Oy.keep bN
 replace Ol := Ol.keep bN
 replace Oh := Oh.keep bN
 replace Ql := Ql.keep bN
 replace Qh := Qh.keep bN
 replace Op := Op.keep bN
 replace Oq := Oq.keep bN
 replace Os := Os.keep bN
 replace jx := jx.keep bN
 replace jy := jy.keep bN
 replace jd := jd.keep bN
 replace tt := tt.kept bN
 replace bA := nT bA bN
 clear bN
 cases hr : rtT x y
 ·have e1 : rc = 2 := by rw [RC.out, hr]; rfl
  subst e1
  clear RC hr
  go_wp2_with fail
  refine Calls.mono (HCk.out _ jx jy tt) ?_
  rintro r w15 ⟨rfl, bN⟩
  revert k0 k1 k2 k3 k4 k5; refine cc6 bN ?_; intro k0 k1 k2 k3 k4 k5
  revert l0 l1 l2 g0 g1 g2; refine cc6 bN ?_; intro l0 l1 l2 g0 g1 g2
  revert g3 g4 g5 p0 p1 p2; refine cc6 bN ?_; intro g3 g4 g5 p0 p1 p2
  revert p3 p4 p5 q0 q1 q2; refine cc6 bN ?_; intro p3 p4 p5 q0 q1 q2
  revert q3 q4 q5 r0 r1 r2; refine cc6 bN ?_; intro q3 q4 q5 r0 r1 r2
  revert r3 r4 r5 s0 s1 s2; refine cc6 bN ?_; intro r3 r4 r5 s0 s1 s2
  replace Ox := Ox.keep bN
  replace Oy := Oy.keep bN
  replace Ol := Ol.keep bN
  replace Oh := Oh.keep bN
  replace Ql := Ql.keep bN
  replace Qh := Qh.keep bN
  replace Op := Op.keep bN
  replace Oq := Oq.keep bN
  replace Os := Os.keep bN
  replace jx := jx.keep bN
  replace jy := jy.keep bN
  replace jd := jd.keep bN
  replace tt := tt.kept bN
  replace bA := nT bA bN
  clear bN
  go_wp2_with fail
  have HS : Hid _ := vSame_calls (x.1, ax, x.2.2.1, cx, x.2.2.2.2.1, x.2.2.2.2.2) (y.1, ay, y.2.2.1, cy, y.2.2.2.2.1, y.2.2.2.2.2) x y _ ⟨Ox.1, hx2.out⟩ ⟨Oy.1, hy2.out⟩ jx jy
  rw [show (smT (x.1, ax, x.2.2.1, cx, x.2.2.2.2.1, x.2.2.2.2.2) x && smT (y.1, ay, y.2.2.1, cy, y.2.2.2.2.1, y.2.2.2.2.2) y) = true from sm_both rfl rfl rfl rfl rfl rfl] at HS
  refine Calls.mono HS.out ?_
  rintro r w16 ⟨rfl, bN⟩
  clear HS
  revert k0 k1 k2 k3 k4 k5; refine cc6 bN ?_; intro k0 k1 k2 k3 k4 k5
  revert l0 l1 l2 g0 g1 g2; refine cc6 bN ?_; intro l0 l1 l2 g0 g1 g2
  revert g3 g4 g5 p0 p1 p2; refine cc6 bN ?_; intro g3 g4 g5 p0 p1 p2
  revert p3 p4 p5 q0 q1 q2; refine cc6 bN ?_; intro p3 p4 p5 q0 q1 q2
  revert q3 q4 q5 r0 r1 r2; refine cc6 bN ?_; intro q3 q4 q5 r0 r1 r2
  revert r3 r4 r5 s0 s1 s2; refine cc6 bN ?_; intro r3 r4 r5 s0 s1 s2
  replace Ox := Ox.keep bN
  replace Oy := Oy.keep bN
  replace Ol := Ol.keep bN
  replace Oh := Oh.keep bN
  replace Ql := Ql.keep bN
  replace Qh := Qh.keep bN
  replace Op := Op.keep bN
  replace Oq := Oq.keep bN
  replace Os := Os.keep bN
  replace jx := jx.keep bN
  replace jy := jy.keep bN
  replace jd := jd.keep bN
  replace tt := tt.kept bN
  replace bA := nT bA bN
  clear bN
  go_wp2_with fail
  refine Calls.mono (ivBegins_calls _ tt) ?_
  rintro r w17 ⟨rfl, bN⟩
  replace bA := nT bA bN
  go_wp2_with fail
  go_ret
  exact ⟨rfl, bA⟩
 ·have e1 : rc = 0 := by rw [RC.out, hr]; rfl
  subst e1
  clear RC hr
  go_wp2_with fail
  have HS : Hid _ := vSame_calls (x.1, ax, x.2.2.1, cx, x.2.2.2.2.1, x.2.2.2.2.2) (y.1, ay, y.2.2.1, cy, y.2.2.2.2.1, y.2.2.2.2.2) x y _ ⟨Ox.1, hx2.out⟩ ⟨Oy.1, hy2.out⟩ jx jy
  rw [show (smT (x.1, ax, x.2.2.1, cx, x.2.2.2.2.1, x.2.2.2.2.2) x && smT (y.1, ay, y.2.2.1, cy, y.2.2.2.2.1, y.2.2.2.2.2) y) = true from sm_both rfl rfl rfl rfl rfl rfl] at HS
  refine Calls.mono HS.out ?_
  rintro r w16 ⟨rfl, bN⟩
  clear HS
  revert k0 k1 k2 k3 k4 k5; refine cc6 bN ?_; intro k0 k1 k2 k3 k4 k5
  revert l0 l1 l2 g0 g1 g2; refine cc6 bN ?_; intro l0 l1 l2 g0 g1 g2
  revert g3 g4 g5 p0 p1 p2; refine cc6 bN ?_; intro g3 g4 g5 p0 p1 p2
  revert p3 p4 p5 q0 q1 q2; refine cc6 bN ?_; intro p3 p4 p5 q0 q1 q2
  revert q3 q4 q5 r0 r1 r2; refine cc6 bN ?_; intro q3 q4 q5 r0 r1 r2
  revert r3 r4 r5 s0 s1 s2; refine cc6 bN ?_; intro r3 r4 r5 s0 s1 s2
  replace Ox := Ox.keep bN
  replace Oy := Oy.keep bN
  replace Ol := Ol.keep bN
  replace Oh := Oh.keep bN
  replace Ql := Ql.keep bN
  replace Qh := Qh.keep bN
  replace Op := Op.keep bN
  replace Oq := Oq.keep bN
  replace Os := Os.keep bN
  replace jx := jx.keep bN
  replace jy := jy.keep bN
  replace jd := jd.keep bN
  replace tt := tt.kept bN
  replace bA := nT bA bN
  clear bN
  go_wp2_with fail
  refine Calls.mono (ivBegins_calls _ tt) ?_
  rintro r w17 ⟨rfl, bN⟩
  replace bA := nT bA bN
  go_wp2_with fail
  go_ret
  exact ⟨rfl, bA⟩
theorem ivalForms_walk (s : Bool) (a : Option Addr) (len cap : Nat) (xs : List Int) (e : Int) (s' : Bool) (a' : Option Addr) (len' cap' : Nat) (ys : List Int) (e' : Int) (u : Bool) (q : Option Addr) (ld cd : Nat) (zs : List Int) (g : Int) (w : World) (h : IsW w a len cap xs) (hm : len ≤ 17592186044000) (_he : -9223372036854775808 ≤ e ∧ e ≤ 9223372036854775807) (h' : IsW w a' len' cap' ys) (hm' : len' ≤ 17592186044000) (_he' : -9223372036854775808 ≤ e' ∧ e' ≤ 9223372036854775807) (hd : IsW w q ld cd zs) (hmd : ld ≤ 17592186044000) (_hg : -9223372036854775808 ≤ g ∧ g ≤ 9223372036854775807) (hT : Tab w) :
  Calls Tryz.prog 3 #[ivI s a len cap e s' a' len' cap' e', dyV u q ld cd g] w fun r w' => r = .returned (.bool true) ∧ Below w.heap.size w w' :=
 ivalForms_dt (s, a, len, cap, xs, e) (s', a', len', cap', ys, e') (u, q, ld, cd, zs, g) w ⟨h, hm⟩ ⟨h', hm'⟩ ⟨hd, hmd⟩ hT
end Go.Proofs.YtaeamodaindccaaGreatDoor

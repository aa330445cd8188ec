/- Package round: tiny, Near and Tiny as they are called. Package round: Near and Tiny as they are called. -/
import Derived.Test.YtionhpedghmecaaGreatDoorTMV
import Derived.Test.YtionhpedghmecaaGreatDoorDVT
import Derived.Test.YtionhpedghmecaaGreatDoorFX

namespace Go.Proofs.YtionhpedghmecaaGreatDoor
open Go.RowKit
theorem right_lim : rightB 18014398509481983 (-1076) = true := by
 have h : blen 18014398509481983 ≤ 54 := (blen_le _ _).2 (by decide)
 have : greatB 18014398509481983 = false := (great_not _).2 (by omega)
 unfold rightB inB
 rw [this]
 rfl
set_option maxRecDepth 100000 in
set_option maxHeartbeats 4000000 in
theorem tiny_calls (s : Bool) (a : Option Addr) (len cap : Nat) (xs : List Int) (e : Int) (w : World) (h : IsW w a len cap xs) (hm : len ≤ 17592186044000) (hT : Tab w) (hr : rightB (val xs) e = true) :
  Calls Tryz.prog 86 #[dyV s a len cap e] w fun r w' => r = .returned (.bool (tinyP (val xs) e)) ∧ Below w.heap.size w w' := by
 have bA : Below w.heap.size w (w.alloc (.cells #[.bool false, .slice a len cap, .int .i64 e] 27)) := below_one w _
 have hI := h.keep bA
 have hT0 := hT.kept bA
 have HO : Hid _ := fun w => of_eq 18014398509481983 w (by decide)
 have HC : Hid _ := fun (ao : Option Addr) (n c : Nat) w' (h' : IsW w' a len cap xs) (h2 : IsW w' ao n c (wordsOf 18014398509481983)) hn t' => dcmp_yes false a len cap xs e false ao n c (wordsOf 18014398509481983) (-1076) w' h' (by omega) h2 hn t' hr (by rw [val_words]; exact right_lim)
 rw [val_words] at HC
 have hP : Hid (tinyP (val xs) e = decide (cmpD (formD false (val xs) e) (formD false 18014398509481983 (-1076)) < 0)) := rfl
 generalize tinyP (val xs) e = ans at *
 generalize cmpD (formD false (val xs) e) (formD false 18014398509481983 (-1076)) = cc at *
 obtain ⟨c1, c2, c3⟩ := fX7 w a len cap e
 clear hr h hT
 go_enter Tryz.func86, Tryz.ntmps86
 go_upto_region 2 with fail
 generalize (w.alloc (.cells #[.bool false, .slice a len cap, .int .i64 e] 27)) = w0 at *
 go_region_with (first
  | (go_at_call 43; refine (HO.out _).mono ?_; rintro r w9 ⟨ao, n, c, rfl, hN, hn, hO, b9⟩; have hOI := hO.1; clear hO hN; replace c1 := kC b9 (p := ⟨w.heap.size, 0, none⟩) (v := .bool false) (by go_simp); replace c2 := kC b9 (p := ⟨w.heap.size, 1, none⟩) (v := .slice a len cap) (by go_simp); replace c3 := kC b9 (p := ⟨w.heap.size, 2, none⟩) (v := .int .i64 e) (by go_simp); replace bA := nT (show Below w.heap.size w _ from by repeat (first | exact bA | refine Below.drew ?_ )) b9; replace hI := IsW.keep (IsW.keep hI (show Below w0.heap.size w0 _ from by repeat (first | exact Below.refl _ _ | refine Below.drew ?_ ))) b9; replace hT0 := Tab.kept (Tab.kept hT0 (show Below w0.heap.size w0 _ from by repeat (first | exact Below.refl _ _ | refine Below.drew ?_ ))) b9; clear b9)
  | (go_at_call 116; refine (HC.out _ _ _ _ (by first | exact hI | exact IsW.keep hI ((Below.refl _ _).drew)) (by first | exact hOI | exact IsW.keep hOI ((Below.refl _ _).drew)) (by omega) (by first | exact hT0 | exact Tab.kept hT0 ((Below.refl _ _).drew))).mono ?_; rintro r w10 ⟨rfl, b9⟩; replace bA := nT (show Below w.heap.size w _ from by repeat (first | exact bA | refine Below.drew ?_ )) b9; clear b9))
 all_goals go_wp2_with fail
 all_goals go_ret
 all_goals rw [hP.out]
 all_goals exact ⟨rfl, by repeat (first | exact bA | refine Below.drew ?_)⟩
def nbR (s : Bool) (m : Nat) (e : Int) : Int := if rightB m e = true then nearB s m e else 0
def flR (s : Bool) (m : Nat) (e : Int) : Int := if rightB m e = true then (if exactB m e = true then 0 else inxF (nearB s m e) (tinyP m e)) else 0
def erR (m : Nat) (e : Int) : Int := if rightB m e = true then 0 else 2
theorem nearB_U (s : Bool) (m : Nat) (e : Int) : U (nearB s m e) := by
 unfold nearB
 split
 ·exact neg_U _
 ·exact (near_ch m e).2.2.2
set_option maxRecDepth 100000 in
set_option maxHeartbeats 2000000 in
theorem pNear_calls (s : Bool) (a : Option Addr) (len cap : Nat) (xs : List Int) (e : Int) (w : World) (h : IsW w a len cap xs) (hm : len ≤ 17592186044000) (hT : Tab w) :
  Calls Tryz.prog 52 #[dyV s a len cap e] w fun r w' => r = .returned (.tuple #[.agg #[.int .u64 (nbR s (val xs) e), .int .u8 (flR s (val xs) e)], .int .i64 (erR (val xs) e)]) ∧ Below w.heap.size w w' := by
 have bA : Below w.heap.size w ((w.alloc (.cells #[.bool s, .slice a len cap, .int .i64 e] 27)).alloc (.cells #[.int .u64 0, .int .u8 0] 34)) := nT (below_one _ _) (below_one _ _)
 have hI := h.keep bA
 have hT0 := hT.kept bA
 have HC : Hid _ := check_calls s a len cap xs e _ hI (by omega)
 have c1 : ((w.alloc (.cells #[.bool s, .slice a len cap, .int .i64 e] 27)).alloc (.cells #[.int .u64 0, .int .u8 0] 34)).cell? ⟨w.heap.size, 0, none⟩ = some (.bool s) := by go_simp
 have c2 : ((w.alloc (.cells #[.bool s, .slice a len cap, .int .i64 e] 27)).alloc (.cells #[.int .u64 0, .int .u8 0] 34)).cell? ⟨w.heap.size, 1, none⟩ = some (.slice a len cap) := by go_simp
 have c3 : ((w.alloc (.cells #[.bool s, .slice a len cap, .int .i64 e] 27)).alloc (.cells #[.int .u64 0, .int .u8 0] 34)).cell? ⟨w.heap.size, 2, none⟩ = some (.int .i64 e) := by go_simp
 have z0 : ((w.alloc (.cells #[.bool s, .slice a len cap, .int .i64 e] 27)).alloc (.cells #[.int .u64 0, .int .u8 0] 34)).cell? ⟨w.heap.size + 1, 0, none⟩ = some (.int .u64 0) := by go_simp
 have z1 : ((w.alloc (.cells #[.bool s, .slice a len cap, .int .i64 e] 27)).alloc (.cells #[.int .u64 0, .int .u8 0] 34)).cell? ⟨w.heap.size + 1, 1, none⟩ = some (.int .u8 0) := by go_simp
 have f0 : ((w.alloc (.cells #[.bool s, .slice a len cap, .int .i64 e] 27)).alloc (.cells #[.int .u64 0, .int .u8 0] 34)).frozen? ⟨w.heap.size + 1, 0, none⟩ = false := by go_simp
 have f1 : ((w.alloc (.cells #[.bool s, .slice a len cap, .int .i64 e] 27)).alloc (.cells #[.int .u64 0, .int .u8 0] 34)).frozen? ⟨w.heap.size + 1, 1, none⟩ = false := by go_simp
 cases hr : rightB (val xs) e with
 | false =>
  rw [hr] at HC
  change Hid (Calls _ _ _ _ fun r w' => r = .returned (.int .i64 2) ∧ _) at HC
  have e1 : Hid (nbR s (val xs) e = 0) := by rw [Hid]; unfold nbR; rw [hr]; rfl
  have e2 : Hid (flR s (val xs) e = 0) := by rw [Hid]; unfold flR; rw [hr]; rfl
  have e3 : Hid (erR (val xs) e = 2) := by rw [Hid]; unfold erR; rw [hr]; rfl
  clear hr h hT
  go_enter Tryz.func52, Tryz.ntmps52
  go_wp2_with fail
  generalize ((w.alloc (.cells #[.bool s, .slice a len cap, .int .i64 e] 27)).alloc (.cells #[.int .u64 0, .int .u8 0] 34)) = w0 at *
  refine Calls.mono HC.out ?_
  rintro r w1 ⟨rfl, bN⟩
  replace f0 := kF bN z0 f0
  replace f1 := kF bN z1 f1
  replace z0 := kC bN z0
  replace z1 := kC bN z1
  replace bA := nT bA bN
  clear bN
  go_wp2_with fail
  rw [e1.out, e2.out, e3.out]
  exact bodyPost_ret (v := .tuple #[.agg #[.int .u64 0, .int .u8 0], .int .i64 2]) (by simp [results, Tryz.results52, go_sem, z0, z1]) rfl ⟨rfl, by repeat (first | exact bA | refine Below.setCell ?_ (by simp) _)⟩
 | true =>
  rw [hr] at HC
  change Hid (Calls _ _ _ _ fun r w' => r = .returned (.int .i64 0) ∧ _) at HC
  have HN : Hid _ := fun w' (h' : IsW w' a len cap xs) t' => nearest_calls s a len cap xs e w' h' hm t' hr
  have e1 : Hid (nbR s (val xs) e = nearB s (val xs) e) := by rw [Hid]; unfold nbR; rw [hr]; rfl
  have e3 : Hid (erR (val xs) e = 0) := by rw [Hid]; unfold erR; rw [hr]; rfl
  have hU := nearB_U s (val xs) e
  have HTi : Hid _ := fun w' (h' : IsW w' a len cap xs) t' => tiny_calls s a len cap xs e w' h' hm t' hr
  have HX : Hid _ := fun w' => inexact_calls (nearB s (val xs) e) (tinyP (val xs) e) w' hU
  cases hx : exactB (val xs) e with
  | true =>
   have e2 : Hid (flR s (val xs) e = 0) := by rw [Hid]; unfold flR; rw [hr, hx]; rfl
   rw [hx] at HN
   generalize nearB s (val xs) e = nb at *
   clear hr h hT hx HTi HX hU
   go_enter Tryz.func52, Tryz.ntmps52
   go_wp2_with fail
   generalize ((w.alloc (.cells #[.bool s, .slice a len cap, .int .i64 e] 27)).alloc (.cells #[.int .u64 0, .int .u8 0] 34)) = w0 at *
   refine Calls.mono HC.out ?_
   rintro r w1 ⟨rfl, bN⟩
   replace f0 := kF bN z0 f0
   replace f1 := kF bN z1 f1
   replace z0 := kC bN z0
   replace z1 := kC bN z1
   replace c1 := kC bN c1
   replace c2 := kC bN c2
   replace c3 := kC bN c3
   replace hI := hI.keep bN
   replace hT0 := hT0.kept bN
   replace bA := nT bA bN
   clear bN
   go_wp2_with fail
   refine Calls.mono (HN.out _ hI hT0) ?_
   rintro r w2 ⟨rfl, bN⟩
   replace f0 := kF bN z0 f0
   replace f1 := kF bN z1 f1
   replace z0 := kC bN z0
   replace z1 := kC bN z1
   replace c1 := kC bN c1
   replace c2 := kC bN c2
   replace c3 := kC bN c3
   replace hI := hI.keep bN
   replace hT0 := hT0.kept bN
   replace bA := nT bA bN
   clear bN
   go_wp2_with fail
   rw [e1.out, e2.out, e3.out]
   exact bodyPost_ret (v := .tuple #[.agg #[.int .u64 nb, .int .u8 0], .int .i64 0]) (by simp [results, Tryz.results52, go_sem, z0, z1]) rfl ⟨rfl, by repeat (first | exact bA | refine Below.setCell ?_ (by simp) _)⟩
  | false =>
   have e2 : Hid (flR s (val xs) e = inxF (nearB s (val xs) e) (tinyP (val xs) e)) := by rw [Hid]; unfold flR; rw [hr, hx]; rfl
   rw [hx] at HN
   generalize inxF (nearB s (val xs) e) (tinyP (val xs) e) = fx at *
   generalize nearB s (val xs) e = nb at *
   generalize tinyP (val xs) e = ty at *
   clear hr h hT hx hU
   go_enter Tryz.func52, Tryz.ntmps52
   go_wp2_with fail
   generalize ((w.alloc (.cells #[.bool s, .slice a len cap, .int .i64 e] 27)).alloc (.cells #[.int .u64 0, .int .u8 0] 34)) = w0 at *
   refine Calls.mono HC.out ?_
   rintro r w1 ⟨rfl, bN⟩
   replace f0 := kF bN z0 f0
   replace f1 := kF bN z1 f1
   replace z0 := kC bN z0
   replace z1 := kC bN z1
   replace c1 := kC bN c1
   replace c2 := kC bN c2
   replace c3 := kC bN c3
   replace hI := hI.keep bN
   replace hT0 := hT0.kept bN
   replace bA := nT bA bN
   clear bN
   go_wp2_with fail
   refine Calls.mono (HN.out _ hI hT0) ?_
   rintro r w2 ⟨rfl, bN⟩
   replace f0 := kF bN z0 f0
   replace f1 := kF bN z1 f1
   replace z0 := kC bN z0
   replace z1 := kC bN z1
   replace c1 := kC bN c1
   replace c2 := kC bN c2
   replace c3 := kC bN c3
   replace hI := hI.keep bN
   replace hT0 := hT0.kept bN
   replace bA := nT bA bN
   clear bN
   go_wp2_with fail
   refine Calls.mono (HTi.out _ hI hT0) ?_
   rintro r w3 ⟨rfl, bN⟩
   replace f0 := kF bN z0 f0
   replace f1 := kF bN z1 f1
   replace z0 := kC bN z0
   replace z1 := kC bN z1
   replace c1 := kC bN c1
   replace c2 := kC bN c2
   replace c3 := kC bN c3
   replace hI := hI.keep bN
   replace hT0 := hT0.kept bN
   replace bA := nT bA bN
   clear bN
   go_wp2_with fail
   refine Calls.mono (HX.out _) ?_
   rintro r w4 ⟨rfl, bN⟩
   replace f0 := kF bN z0 f0
   replace f1 := kF bN z1 f1
   replace z0 := kC bN z0
   replace z1 := kC bN z1
   replace c1 := kC bN c1
   replace c2 := kC bN c2
   replace c3 := kC bN c3
   replace hI := hI.keep bN
   replace hT0 := hT0.kept bN
   replace bA := nT bA bN
   clear bN
   go_wp2_with fail
   rw [e1.out, e2.out, e3.out]
   exact bodyPost_ret (v := .tuple #[.agg #[.int .u64 nb, .int .u8 fx], .int .i64 0]) (by simp [results, Tryz.results52, go_sem, z0, z1]) rfl ⟨rfl, by repeat (first | exact bA | refine Below.setCell ?_ (by simp) _)⟩
end Go.Proofs.YtionhpedghmecaaGreatDoor

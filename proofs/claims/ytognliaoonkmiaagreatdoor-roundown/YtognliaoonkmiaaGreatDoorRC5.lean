/- Every Decide, Wide and Mid is the document's. -/
import Derived.Test.YtognliaoonkmiaaGreatDoorRCY
import Derived.Test.YtognliaoonkmiaaGreatDoorRC4
import Derived.Test.YtognliaoonkmiaaGreatDoorRXX
import Derived.Test.YtognliaoonkmiaaGreatDoorFX
namespace Go.Proofs.YtognliaoonkmiaaGreatDoor
open Go.RowKit

set_option maxRecDepth 100000 in
set_option maxHeartbeats 8000000 in
theorem roundDecides_calls (s : Bool) (a : Option Addr) (len cap : Nat) (xs : List Int) (e : Int) (s' : Bool) (a' : Option Addr) (len' cap' : Nat) (ys : List Int) (e' : Int) (p x : Int) (w : World) (h : IsW w a len cap xs) (hm : len ≤ 17592186044000) (h' : IsW w a' len' cap' ys) (hm' : len' ≤ 17592186044000) (ux : U x) (hT : Tab w) :
    Calls Tryz.prog 3 #[ivV s a len cap e s' a' len' cap' e', .int .i64 p, .int .u64 x] w fun r w' => r = .returned (.bool true) ∧ Below w.heap.size w w' := by
  have bA : Below w.heap.size w (w.alloc (.cells #[.bool s, .slice a len cap, .int .i64 e, .bool s', .slice a' len' cap', .int .i64 e'] 27)) := below_one _ _
  have H1 : Hid _ := fun w' (g : IsW w' a len cap xs) (g' : IsW w' a' len' cap' ys) t' => pDecide_calls s a len cap xs e s' a' len' cap' ys e' w' g hm g' hm' t'
  have H2 : Hid _ := fun w' (g : IsW w' a len cap xs) (g' : IsW w' a' len' cap' ys) => qDecide_calls s a len cap xs e s' a' len' cap' ys e' w' g hm g' hm'
  have H3 : Hid _ := fun w' (g : IsW w' a len cap xs) (g' : IsW w' a' len' cap' ys) t' => pWide_calls s a len cap xs e s' a' len' cap' ys e' p w' g hm g' hm' t'
  have H4 : Hid _ := fun w' (g : IsW w' a len cap xs) (g' : IsW w' a' len' cap' ys) => qWide_calls s a len cap xs e s' a' len' cap' ys e' p w' g hm g' hm'
  have H5 : Hid _ := fun w' t' => pMid_calls x w' ux t'
  have H6 : Hid _ := fun w' => qMid_calls x w' ux
  have H7 : Hid _ := fun al nl cl ah nh ch bl ml dl bh mh dh w' g1 g2 g3 g4 (k1 : nl ≤ 1024) (k2 : nh ≤ 1024) (k3 : ml ≤ 1024) (k4 : mh ≤ 1024) => qSameI_calls (wdL s (val xs) e s' (val ys) e' p).1 al nl cl (wordsOf (wdL s (val xs) e s' (val ys) e' p).2.1) (wdL s (val xs) e s' (val ys) e' p).2.2 (wdH s (val xs) e s' (val ys) e' p).1 ah nh ch (wordsOf (wdH s (val xs) e s' (val ys) e' p).2.1) (wdH s (val xs) e s' (val ys) e' p).2.2 (wdL s (val xs) e s' (val ys) e' p).1 bl ml dl (wordsOf (wdL s (val xs) e s' (val ys) e' p).2.1) (wdL s (val xs) e s' (val ys) e' p).2.2 (wdH s (val xs) e s' (val ys) e' p).1 bh mh dh (wordsOf (wdH s (val xs) e s' (val ys) e' p).2.1) (wdH s (val xs) e s' (val ys) e' p).2.2 w' g1 (by omega) g2 (by omega) g3 (by omega) g4 (by omega)
  rw [sameB_self, sameB_self] at H7
  have H8 : Hid _ := fun am nm cm bm mm dm w' g1 g2 (k1 : nm ≤ 1024) (k2 : mm ≤ 1024) => qSame_calls (midP x).1 am nm cm (wordsOf (midP x).2.1) (midP x).2.2 (midP x).1 bm mm dm (wordsOf (midP x).2.1) (midP x).2.2 w' g1 (by omega) g2 (by omega)
  rw [sameB_self] at H8
  generalize dcN s (val xs) e s' (val ys) e' = N at *
  generalize dcF s (val xs) e s' (val ys) e' = F at *
  generalize dcB s (val xs) e s' (val ys) e' = B at *
  generalize dcE s (val xs) e s' (val ys) e' = E at *
  generalize wdL s (val xs) e s' (val ys) e' p = LL at *
  generalize wdH s (val xs) e s' (val ys) e' p = HH at *
  generalize wdE s (val xs) e s' (val ys) e' p = EE at *
  generalize midP x = MM at *
  generalize lastE x = EM at *
  have hI := h.keep bA
  have hJ := h'.keep bA
  have hT0 := hT.kept bA
  obtain ⟨c0, c1, c2, c3, c4, c5⟩ := fX11 w s a len cap e s' a' len' cap' e'
  clear h h' hT hm hm' ux
  go_enter Tryz.func3, Tryz.ntmps3
  go_wp2_with fail
  generalize (w.alloc (.cells #[.bool s, .slice a len cap, .int .i64 e, .bool s', .slice a' len' cap', .int .i64 e'] 27)) = w0 at *
  refine Calls.mono (H1.out _ hI hJ hT0) ?_
  rintro r w1 ⟨rfl, bN⟩
  replace c0 := kC bN c0
  replace c1 := kC bN c1
  replace c2 := kC bN c2
  replace c3 := kC bN c3
  replace c4 := kC bN c4
  replace c5 := kC bN c5
  replace hI := IsW.keep hI bN
  replace hJ := IsW.keep hJ bN
  replace hT0 := hT0.kept bN
  replace bA := nT bA bN
  clear bN
  have bB := below_one w1 (.cells #[.int .u64 N, .int .u8 F] 31)
  obtain ⟨p0, p1⟩ := fX14 w1 N F
  replace c0 := kC bB c0
  replace c1 := kC bB c1
  replace c2 := kC bB c2
  replace c3 := kC bB c3
  replace c4 := kC bB c4
  replace c5 := kC bB c5
  replace hI := IsW.keep hI bB
  replace hJ := IsW.keep hJ bB
  replace hT0 := hT0.kept bB
  replace bA := nT bA bB
  clear bB
  go_wp2_with fail
  generalize (w1.alloc (.cells #[.int .u64 N, .int .u8 F] 31)) = w2 at *
  refine Calls.mono (H2.out _ hI hJ) ?_
  rintro r w3 ⟨rfl, bN⟩
  replace c0 := kC bN c0
  replace c1 := kC bN c1
  replace c2 := kC bN c2
  replace c3 := kC bN c3
  replace c4 := kC bN c4
  replace c5 := kC bN c5
  replace p0 := kC bN p0
  replace p1 := kC bN p1
  replace hI := IsW.keep hI bN
  replace hJ := IsW.keep hJ bN
  replace hT0 := hT0.kept bN
  replace bA := nT bA bN
  clear bN
  have bB := below_one w3 (.cells #[.int .u64 N, .int .u8 F] 31)
  obtain ⟨q0, q1⟩ := fX14 w3 N F
  replace c0 := kC bB c0
  replace c1 := kC bB c1
  replace c2 := kC bB c2
  replace c3 := kC bB c3
  replace c4 := kC bB c4
  replace c5 := kC bB c5
  replace p0 := kC bB p0
  replace p1 := kC bB p1
  replace hI := IsW.keep hI bB
  replace hJ := IsW.keep hJ bB
  replace hT0 := hT0.kept bB
  replace bA := nT bA bB
  clear bB
  go_wp2_with fail
  generalize (w3.alloc (.cells #[.int .u64 N, .int .u8 F] 31)) = w4 at *
  refine Calls.mono (H3.out _ hI hJ hT0) ?_
  rintro r w5 ⟨al, nl, cl, ah, nh, ch, rfl, i1, i2, O1, O2, bN⟩
  have j1 : Hid _ := i1
  have j2 : Hid _ := i2
  have I1 := O1.1
  have I2 := O2.1
  clear i1 i2 O1 O2
  replace c0 := kC bN c0
  replace c1 := kC bN c1
  replace c2 := kC bN c2
  replace c3 := kC bN c3
  replace c4 := kC bN c4
  replace c5 := kC bN c5
  replace p0 := kC bN p0
  replace p1 := kC bN p1
  replace q0 := kC bN q0
  replace q1 := kC bN q1
  replace hI := IsW.keep hI bN
  replace hJ := IsW.keep hJ bN
  replace hT0 := hT0.kept bN
  replace bA := nT bA bN
  clear bN
  have bB := below_one w5 (.cells #[.bool LL.1, .slice al nl cl, .int .i64 LL.2.2, .bool HH.1, .slice ah nh ch, .int .i64 HH.2.2] 27)
  obtain ⟨u0, u1, u2, u3, u4, u5⟩ := fX15 w5 LL al nl cl HH ah nh ch
  replace c0 := kC bB c0
  replace c1 := kC bB c1
  replace c2 := kC bB c2
  replace c3 := kC bB c3
  replace c4 := kC bB c4
  replace c5 := kC bB c5
  replace p0 := kC bB p0
  replace p1 := kC bB p1
  replace q0 := kC bB q0
  replace q1 := kC bB q1
  replace hI := IsW.keep hI bB
  replace hJ := IsW.keep hJ bB
  replace I1 := IsW.keep I1 bB
  replace I2 := IsW.keep I2 bB
  replace hT0 := hT0.kept bB
  replace bA := nT bA bB
  clear bB
  go_wp2_with fail
  generalize (w5.alloc (.cells #[.bool LL.1, .slice al nl cl, .int .i64 LL.2.2, .bool HH.1, .slice ah nh ch, .int .i64 HH.2.2] 27)) = w6 at *
  refine Calls.mono (H4.out _ hI hJ) ?_
  rintro r w7 ⟨bl, ml, dl, bh, mh, dh, rfl, i3, i4, I3, I4, bN⟩
  have j3 : Hid _ := i3
  have j4 : Hid _ := i4
  clear i3 i4
  replace c0 := kC bN c0
  replace c1 := kC bN c1
  replace c2 := kC bN c2
  replace c3 := kC bN c3
  replace c4 := kC bN c4
  replace c5 := kC bN c5
  replace p0 := kC bN p0
  replace p1 := kC bN p1
  replace q0 := kC bN q0
  replace q1 := kC bN q1
  replace u0 := kC bN u0
  replace u1 := kC bN u1
  replace u2 := kC bN u2
  replace u3 := kC bN u3
  replace u4 := kC bN u4
  replace u5 := kC bN u5
  replace hI := IsW.keep hI bN
  replace hJ := IsW.keep hJ bN
  replace I1 := IsW.keep I1 bN
  replace I2 := IsW.keep I2 bN
  replace hT0 := hT0.kept bN
  replace bA := nT bA bN
  clear bN
  have bB := below_one w7 (.cells #[.bool LL.1, .slice bl ml dl, .int .i64 LL.2.2, .bool HH.1, .slice bh mh dh, .int .i64 HH.2.2] 27)
  obtain ⟨v0, v1, v2, v3, v4, v5⟩ := fX15 w7 LL bl ml dl HH bh mh dh
  replace c0 := kC bB c0
  replace c1 := kC bB c1
  replace c2 := kC bB c2
  replace c3 := kC bB c3
  replace c4 := kC bB c4
  replace c5 := kC bB c5
  replace p0 := kC bB p0
  replace p1 := kC bB p1
  replace q0 := kC bB q0
  replace q1 := kC bB q1
  replace u0 := kC bB u0
  replace u1 := kC bB u1
  replace u2 := kC bB u2
  replace u3 := kC bB u3
  replace u4 := kC bB u4
  replace u5 := kC bB u5
  replace hI := IsW.keep hI bB
  replace hJ := IsW.keep hJ bB
  replace I1 := IsW.keep I1 bB
  replace I2 := IsW.keep I2 bB
  replace I3 := IsW.keep I3 bB
  replace I4 := IsW.keep I4 bB
  replace hT0 := hT0.kept bB
  replace bA := nT bA bB
  clear bB
  go_wp2_with fail
  generalize (w7.alloc (.cells #[.bool LL.1, .slice bl ml dl, .int .i64 LL.2.2, .bool HH.1, .slice bh mh dh, .int .i64 HH.2.2] 27)) = w8 at *
  refine Calls.mono (H5.out _ hT0) ?_
  rintro r w9 ⟨_, rfl, ⟨am, nm, cm, rfl, -, i5, O5⟩, bN⟩
  have j5 : Hid _ := i5
  have I5 := O5.1
  clear i5 O5
  replace c0 := kC bN c0
  replace c1 := kC bN c1
  replace c2 := kC bN c2
  replace c3 := kC bN c3
  replace c4 := kC bN c4
  replace c5 := kC bN c5
  replace p0 := kC bN p0
  replace p1 := kC bN p1
  replace q0 := kC bN q0
  replace q1 := kC bN q1
  replace u0 := kC bN u0
  replace u1 := kC bN u1
  replace u2 := kC bN u2
  replace u3 := kC bN u3
  replace u4 := kC bN u4
  replace u5 := kC bN u5
  replace v0 := kC bN v0
  replace v1 := kC bN v1
  replace v2 := kC bN v2
  replace v3 := kC bN v3
  replace v4 := kC bN v4
  replace v5 := kC bN v5
  replace hI := IsW.keep hI bN
  replace hJ := IsW.keep hJ bN
  replace I1 := IsW.keep I1 bN
  replace I2 := IsW.keep I2 bN
  replace I3 := IsW.keep I3 bN
  replace I4 := IsW.keep I4 bN
  replace hT0 := hT0.kept bN
  replace bA := nT bA bN
  clear bN
  have bB := below_one w9 (.cells #[.bool MM.1, .slice am nm cm, .int .i64 MM.2.2] 25)
  obtain ⟨m0, m1, m2⟩ := fX10 w9 MM am nm cm
  replace c0 := kC bB c0
  replace c1 := kC bB c1
  replace c2 := kC bB c2
  replace c3 := kC bB c3
  replace c4 := kC bB c4
  replace c5 := kC bB c5
  replace p0 := kC bB p0
  replace p1 := kC bB p1
  replace q0 := kC bB q0
  replace q1 := kC bB q1
  replace u0 := kC bB u0
  replace u1 := kC bB u1
  replace u2 := kC bB u2
  replace u3 := kC bB u3
  replace u4 := kC bB u4
  replace u5 := kC bB u5
  replace v0 := kC bB v0
  replace v1 := kC bB v1
  replace v2 := kC bB v2
  replace v3 := kC bB v3
  replace v4 := kC bB v4
  replace v5 := kC bB v5
  replace hI := IsW.keep hI bB
  replace hJ := IsW.keep hJ bB
  replace I1 := IsW.keep I1 bB
  replace I2 := IsW.keep I2 bB
  replace I3 := IsW.keep I3 bB
  replace I4 := IsW.keep I4 bB
  replace I5 := IsW.keep I5 bB
  replace hT0 := hT0.kept bB
  replace bA := nT bA bB
  clear bB
  go_wp2_with fail
  generalize (w9.alloc (.cells #[.bool MM.1, .slice am nm cm, .int .i64 MM.2.2] 25)) = w10 at *
  refine Calls.mono (H6.out _) ?_
  rintro r w11 ⟨_, rfl, ⟨bm, mm, dm, rfl, -, i6, O6⟩, bN⟩
  have j6 : Hid _ := i6
  have I6 := O6.1
  clear i6 O6
  replace c0 := kC bN c0
  replace c1 := kC bN c1
  replace c2 := kC bN c2
  replace c3 := kC bN c3
  replace c4 := kC bN c4
  replace c5 := kC bN c5
  replace p0 := kC bN p0
  replace p1 := kC bN p1
  replace q0 := kC bN q0
  replace q1 := kC bN q1
  replace u0 := kC bN u0
  replace u1 := kC bN u1
  replace u2 := kC bN u2
  replace u3 := kC bN u3
  replace u4 := kC bN u4
  replace u5 := kC bN u5
  replace v0 := kC bN v0
  replace v1 := kC bN v1
  replace v2 := kC bN v2
  replace v3 := kC bN v3
  replace v4 := kC bN v4
  replace v5 := kC bN v5
  replace m0 := kC bN m0
  replace m1 := kC bN m1
  replace m2 := kC bN m2
  replace hI := IsW.keep hI bN
  replace hJ := IsW.keep hJ bN
  replace I1 := IsW.keep I1 bN
  replace I2 := IsW.keep I2 bN
  replace I3 := IsW.keep I3 bN
  replace I4 := IsW.keep I4 bN
  replace I5 := IsW.keep I5 bN
  replace hT0 := hT0.kept bN
  replace bA := nT bA bN
  clear bN
  have bB := below_one w11 (.cells #[.bool MM.1, .slice bm mm dm, .int .i64 MM.2.2] 25)
  obtain ⟨n0, n1, n2⟩ := fX10 w11 MM bm mm dm
  replace c0 := kC bB c0
  replace c1 := kC bB c1
  replace c2 := kC bB c2
  replace c3 := kC bB c3
  replace c4 := kC bB c4
  replace c5 := kC bB c5
  replace p0 := kC bB p0
  replace p1 := kC bB p1
  replace q0 := kC bB q0
  replace q1 := kC bB q1
  replace u0 := kC bB u0
  replace u1 := kC bB u1
  replace u2 := kC bB u2
  replace u3 := kC bB u3
  replace u4 := kC bB u4
  replace u5 := kC bB u5
  replace v0 := kC bB v0
  replace v1 := kC bB v1
  replace v2 := kC bB v2
  replace v3 := kC bB v3
  replace v4 := kC bB v4
  replace v5 := kC bB v5
  replace m0 := kC bB m0
  replace m1 := kC bB m1
  replace m2 := kC bB m2
  replace hI := IsW.keep hI bB
  replace hJ := IsW.keep hJ bB
  replace I1 := IsW.keep I1 bB
  replace I2 := IsW.keep I2 bB
  replace I3 := IsW.keep I3 bB
  replace I4 := IsW.keep I4 bB
  replace I5 := IsW.keep I5 bB
  replace I6 := IsW.keep I6 bB
  replace hT0 := hT0.kept bB
  replace bA := nT bA bB
  clear bB
  go_wp2_with fail
  generalize (w11.alloc (.cells #[.bool MM.1, .slice bm mm dm, .int .i64 MM.2.2] 25)) = w12 at *
  refine Calls.mono (rLives_calls _ hT0) ?_
  rintro r w13 ⟨rfl, bN⟩
  replace c0 := kC bN c0
  replace c1 := kC bN c1
  replace c2 := kC bN c2
  replace c3 := kC bN c3
  replace c4 := kC bN c4
  replace c5 := kC bN c5
  replace p0 := kC bN p0
  replace p1 := kC bN p1
  replace q0 := kC bN q0
  replace q1 := kC bN q1
  replace u0 := kC bN u0
  replace u1 := kC bN u1
  replace u2 := kC bN u2
  replace u3 := kC bN u3
  replace u4 := kC bN u4
  replace u5 := kC bN u5
  replace v0 := kC bN v0
  replace v1 := kC bN v1
  replace v2 := kC bN v2
  replace v3 := kC bN v3
  replace v4 := kC bN v4
  replace v5 := kC bN v5
  replace m0 := kC bN m0
  replace m1 := kC bN m1
  replace m2 := kC bN m2
  replace n0 := kC bN n0
  replace n1 := kC bN n1
  replace n2 := kC bN n2
  replace hI := IsW.keep hI bN
  replace hJ := IsW.keep hJ bN
  replace I1 := IsW.keep I1 bN
  replace I2 := IsW.keep I2 bN
  replace I3 := IsW.keep I3 bN
  replace I4 := IsW.keep I4 bN
  replace I5 := IsW.keep I5 bN
  replace I6 := IsW.keep I6 bN
  replace hT0 := hT0.kept bN
  replace bA := nT bA bN
  clear bN
  go_wp2_with fail
  refine Calls.mono (H7.out _ _ _ _ _ _ _ _ _ _ _ _ _ I1 I2 I3 I4 j1.out j2.out j3.out j4.out) ?_
  rintro r w14 ⟨rfl, bN⟩
  replace c0 := kC bN c0
  replace c1 := kC bN c1
  replace c2 := kC bN c2
  replace c3 := kC bN c3
  replace c4 := kC bN c4
  replace c5 := kC bN c5
  replace p0 := kC bN p0
  replace p1 := kC bN p1
  replace q0 := kC bN q0
  replace q1 := kC bN q1
  replace u0 := kC bN u0
  replace u1 := kC bN u1
  replace u2 := kC bN u2
  replace u3 := kC bN u3
  replace u4 := kC bN u4
  replace u5 := kC bN u5
  replace v0 := kC bN v0
  replace v1 := kC bN v1
  replace v2 := kC bN v2
  replace v3 := kC bN v3
  replace v4 := kC bN v4
  replace v5 := kC bN v5
  replace m0 := kC bN m0
  replace m1 := kC bN m1
  replace m2 := kC bN m2
  replace n0 := kC bN n0
  replace n1 := kC bN n1
  replace n2 := kC bN n2
  replace hI := IsW.keep hI bN
  replace hJ := IsW.keep hJ bN
  replace I1 := IsW.keep I1 bN
  replace I2 := IsW.keep I2 bN
  replace I3 := IsW.keep I3 bN
  replace I4 := IsW.keep I4 bN
  replace I5 := IsW.keep I5 bN
  replace I6 := IsW.keep I6 bN
  replace hT0 := hT0.kept bN
  replace bA := nT bA bN
  clear bN
  go_wp2_with fail
  refine Calls.mono (H8.out _ _ _ _ _ _ _ I5 I6 j5.out j6.out) ?_
  rintro r w15 ⟨rfl, bN⟩
  replace c0 := kC bN c0
  replace c1 := kC bN c1
  replace c2 := kC bN c2
  replace c3 := kC bN c3
  replace c4 := kC bN c4
  replace c5 := kC bN c5
  replace p0 := kC bN p0
  replace p1 := kC bN p1
  replace q0 := kC bN q0
  replace q1 := kC bN q1
  replace u0 := kC bN u0
  replace u1 := kC bN u1
  replace u2 := kC bN u2
  replace u3 := kC bN u3
  replace u4 := kC bN u4
  replace u5 := kC bN u5
  replace v0 := kC bN v0
  replace v1 := kC bN v1
  replace v2 := kC bN v2
  replace v3 := kC bN v3
  replace v4 := kC bN v4
  replace v5 := kC bN v5
  replace m0 := kC bN m0
  replace m1 := kC bN m1
  replace m2 := kC bN m2
  replace n0 := kC bN n0
  replace n1 := kC bN n1
  replace n2 := kC bN n2
  replace hI := IsW.keep hI bN
  replace hJ := IsW.keep hJ bN
  replace I1 := IsW.keep I1 bN
  replace I2 := IsW.keep I2 bN
  replace I3 := IsW.keep I3 bN
  replace I4 := IsW.keep I4 bN
  replace I5 := IsW.keep I5 bN
  replace I6 := IsW.keep I6 bN
  replace hT0 := hT0.kept bN
  replace bA := nT bA bN
  clear bN
  go_wp2_with fail
  go_ret
  exact ⟨rfl, bA⟩
theorem roundDecides_walk (s : Bool) (a : Option Addr) (len cap : Nat) (xs : List Int) (e : Int) (s' : Bool) (a' : Option Addr) (len' cap' : Nat) (ys : List Int) (e' : Int) (p x : Int) (w : World) (h : IsW w a len cap xs) (hm : len ≤ 17592186044000) (_he : -9223372036854775808 ≤ e ∧ e ≤ 9223372036854775807) (h' : IsW w a' len' cap' ys) (hm' : len' ≤ 17592186044000) (_he' : -9223372036854775808 ≤ e' ∧ e' ≤ 9223372036854775807) (_hp : -9223372036854775808 ≤ p ∧ p ≤ 9223372036854775807) (ux : U x) (hT : Tab w) :
    Calls Tryz.prog 3 #[ivV s a len cap e s' a' len' cap' e', .int .i64 p, .int .u64 x] w fun r w' => r = .returned (.bool true) ∧ Below w.heap.size w w' :=
  roundDecides_calls s a len cap xs e s' a' len' cap' ys e' p x w h hm h' hm' ux hT
end Go.Proofs.YtognliaoonkmiaaGreatDoor

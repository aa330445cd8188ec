/- Package exact: Domain; the angle of a point. -/
import Derived.Test.YtiijfnaaekmpbaaGreatDoorECF
import Derived.Test.YtiijfnaaekmpbaaGreatDoorFX
namespace Go.Proofs.YtiijfnaaekmpbaaGreatDoor
open Go.RowKit

set_option maxRecDepth 100000 in
set_option maxHeartbeats 4000000 in
theorem domain_calls (f x : Int) (w : World) (hU : U x) (hT : TabE w) :
    Calls Tryz.prog 14 #[.int .u8 f, .int .u64 x] w fun q w' => q = .returned (.bool (exD f x)) ∧ Below w.heap.size w w' := by
  have HT : Hid (TabE w) := hT
  have HU : Hid (U x) := hU
  clear hT hU
  have bA : Below w.heap.size w w := Below.refl _ _
  by_cases hF : 1 ≤ f ∧ f ≤ 30
  · have e : exD f x = (arP (fDom f) x).2 := by
      unfold exD arP
      rw [show isF f = true from decide_eq_true hF, Bool.true_and]
      cases finB x && fDom f (fromP x) <;> rfl
    rw [e]
    clear e
    obtain ⟨P, hP⟩ : ∃ P, P = arP (fDom f) x := ⟨_, rfl⟩
    rw [← hP]
    have HP : Hid _ := hP
    clear hP
    go_enter Tryz.func14, Tryz.ntmps14
    go_wp2_with fail
    refine Calls.mono (functions_calls _) ?_
    rintro q w1 ⟨R, rfl, ⟨es, ck, hM, hY, hN⟩, b1⟩
    replace bA := nT bA b1
    clear b1
    obtain ⟨i, d, c, hL, hD, hC⟩ := hY f hF.1 hF.2
    have hl := look_yes f hM hL true
    simp only [if_true] at hl
    obtain ⟨F, fst, caps, ed, hB, hCd⟩ := hD
    subst ed
    obtain ⟨G, gs, gc, ec, hG, hCc⟩ := hC
    subst ec
    have hD : IsD R w1 (.func (.func F) fst caps) (fDom f) := ⟨F, fst, caps, rfl, hB, hCd⟩
    have bD := below_one w1 (.cells #[.func (.func F) fst caps, .func (.func G) gs gc] 42)
    have AC : Hid _ := argument_calls R F G fst caps gs gc (fDom f) x (w1.alloc (.cells #[.func (.func F) fst caps, .func (.func G) gs gc] 42)) HU.out (HT.out.kept (nT bA bD)) (hD.keep (Kr.of bD))
    have o0 : (w1.alloc (.cells #[.func (.func F) fst caps, .func (.func G) gs gc] 42)).cell? ⟨w1.heap.size, 0, none⟩ = some (.func (.func F) fst caps) := by go_simp
    have o1 : (w1.alloc (.cells #[.func (.func F) fst caps, .func (.func G) gs gc] 42)).cell? ⟨w1.heap.size, 1, none⟩ = some (.func (.func G) gs gc) := by go_simp
    rw [← HP.out] at AC
    replace bA := nT bA bD
    clear hY hN hL hM hB hCd hCc hG hD bD HP
    go_upto_region 4 with fail
    generalize w1.alloc (.cells #[.func (.func F) fst caps, .func (.func G) gs gc] 42) = w2 at *
    generalize w1.heap.size = BF at *
    clear hl
    go_wp2_with fail
    refine Calls.mono AC.out ?_
    rintro q w3 ⟨_, rfl, ⟨a1, n1, c1, rfl, HN1, hn1, hO1⟩, b1⟩
    replace bA := nT bA (nT b1 (below_one w3 (.cells #[.bool P.1.1, .slice a1 n1 c1, .int .i64 P.1.2.2] 27)))
    clear o0 o1 b1 AC
    go_wp2_with fail
    go_ret
    exact ⟨rfl, bA⟩
  · have e : exD f x = false := by
      unfold exD
      rw [show isF f = false from decide_eq_false hF, Bool.false_and, Bool.false_and]
    rw [e]
    clear e
    go_enter Tryz.func14, Tryz.ntmps14
    go_wp2_with fail
    refine Calls.mono (functions_calls _) ?_
    rintro q w1 ⟨R, rfl, ⟨es, ck, hM, hY, hN⟩, b1⟩
    replace bA := nT bA b1
    clear b1
    have hl := look_no f hM (hN f hF)
    have bD := below_one w1 (.cells #[.nilFunc, .nilFunc] 42)
    replace bA := nT bA bD
    clear hY hN hM bD
    go_wp2_with fail
    go_ret
    exact ⟨rfl, bA⟩

theorem abs_ok {p : E3} (h : OkE p) : OkE (absD p) := by
  refine ⟨?_, h.2⟩
  rcases h.1 with e | e
  · rw [e]; exact .inl rfl
  · exact .inr e

set_option maxRecDepth 100000 in
set_option maxHeartbeats 4000000 in
theorem sameAmount_calls (p q : E3) (a : Option Addr) (n c : Nat) (b : Option Addr) (m d : Nat) (w : World) (h : IsW w a n c (wordsOf p.2.1)) (hn : n ≤ 1024) (k : IsW w b m d (wordsOf q.2.1)) (hm : m ≤ 1024) (hp : OkE p) (hq : OkE q) (hT : Tab w) :
    Calls Tryz.prog 67 #[dyV p.1 a n c p.2.2, dyV q.1 b m d q.2.2] w fun r w' => r = .returned (.bool (decide (cmpD (absD p) (absD q) = 0))) ∧ Below w.heap.size w w' := by
  have bA : Below w.heap.size w ((w.alloc (.cells #[.bool false, .slice a n c, .int .i64 p.2.2] 27)).alloc (.cells #[.bool false, .slice b m d, .int .i64 q.2.2] 27)) := nT (below_one _ _) (below_one _ _)
  have CC : Hid _ := cmpE (absD p) (absD q) a n c b m d _ (h.keep bA) hn (k.keep bA) hm (abs_ok hp) (abs_ok hq) (hT.kept bA)
  generalize cmpD (absD p) (absD q) = J at *
  clear h k hp hq hT
  go_enter Tryz.func67, Tryz.ntmps67
  go_wp2_with fail
  refine Calls.mono CC.out ?_
  rintro r w1 ⟨rfl, b1⟩
  go_wp2_with fail
  go_ret
  exact ⟨retB (by first | rfl | (simp; rfl) | simp), nT bA b1⟩

set_option maxRecDepth 100000 in
set_option maxHeartbeats 4000000 in
theorem direction_calls (p q : E3) (a : Option Addr) (n c : Nat) (b : Option Addr) (m d : Nat) (w : World) (h : IsW w a n c (wordsOf p.2.1)) (hn : n ≤ 1024) (k : IsW w b m d (wordsOf q.2.1)) (hm : m ≤ 1024) (hp : OkE p) (hq : OkE q) (hT : TabE w) :
    Calls Tryz.prog 29 #[dyV p.1 a n c p.2.2, dyV q.1 b m d q.2.2] w fun r w' => r = .returned (.tuple #[.int .i64 (drQ p q).1, .bool (drQ p q).2]) ∧ Below w.heap.size w w' := by
  have bA : Below w.heap.size w ((w.alloc (.cells #[.bool p.1, .slice a n c, .int .i64 p.2.2] 27)).alloc (.cells #[.bool q.1, .slice b m d, .int .i64 q.2.2] 27)) := nT (below_one _ _) (below_one _ _)
  have x0 : ((w.alloc (.cells #[.bool p.1, .slice a n c, .int .i64 p.2.2] 27)).alloc (.cells #[.bool q.1, .slice b m d, .int .i64 q.2.2] 27)).cell? ⟨w.heap.size, 0, none⟩ = some (.bool p.1) := by go_simp
  have x1 : ((w.alloc (.cells #[.bool p.1, .slice a n c, .int .i64 p.2.2] 27)).alloc (.cells #[.bool q.1, .slice b m d, .int .i64 q.2.2] 27)).cell? ⟨w.heap.size, 1, none⟩ = some (.slice a n c) := by go_simp
  have x2 : ((w.alloc (.cells #[.bool p.1, .slice a n c, .int .i64 p.2.2] 27)).alloc (.cells #[.bool q.1, .slice b m d, .int .i64 q.2.2] 27)).cell? ⟨w.heap.size, 2, none⟩ = some (.int .i64 p.2.2) := by go_simp
  have y0 : ((w.alloc (.cells #[.bool p.1, .slice a n c, .int .i64 p.2.2] 27)).alloc (.cells #[.bool q.1, .slice b m d, .int .i64 q.2.2] 27)).cell? ⟨w.heap.size + 1, 0, none⟩ = some (.bool q.1) := by go_simp
  have y1 : ((w.alloc (.cells #[.bool p.1, .slice a n c, .int .i64 p.2.2] 27)).alloc (.cells #[.bool q.1, .slice b m d, .int .i64 q.2.2] 27)).cell? ⟨w.heap.size + 1, 1, none⟩ = some (.slice b m d) := by go_simp
  have y2 : ((w.alloc (.cells #[.bool p.1, .slice a n c, .int .i64 p.2.2] 27)).alloc (.cells #[.bool q.1, .slice b m d, .int .i64 q.2.2] 27)).cell? ⟨w.heap.size + 1, 2, none⟩ = some (.int .i64 q.2.2) := by go_simp
  have s0 : ((w.alloc (.cells #[.bool p.1, .slice a n c, .int .i64 p.2.2] 27)).alloc (.cells #[.bool q.1, .slice b m d, .int .i64 q.2.2] 27)).cell? ⟨0, 0, none⟩ = some (.int .i64 3) := kC bA (hT.2.2.2 0 (by decide))
  have s1 : ((w.alloc (.cells #[.bool p.1, .slice a n c, .int .i64 p.2.2] 27)).alloc (.cells #[.bool q.1, .slice b m d, .int .i64 q.2.2] 27)).cell? ⟨0, 1, none⟩ = some (.int .i64 2) := kC bA (hT.2.2.2 1 (by decide))
  have s2 : ((w.alloc (.cells #[.bool p.1, .slice a n c, .int .i64 p.2.2] 27)).alloc (.cells #[.bool q.1, .slice b m d, .int .i64 q.2.2] 27)).cell? ⟨0, 2, none⟩ = some (.int .i64 1) := kC bA (hT.2.2.2 2 (by decide))
  have AC : Hid _ := eAgainst_calls q b m d 0 _ (k.keep bA) hm hq ⟨by decide, by decide⟩ (hT.1.kept bA)
  have ZC : Hid _ := fun W (b : Below w.heap.size w W) => zeroE p a n c W (h.keep b) hn hp (hT.1.kept b)
  have SC : Hid _ := fun W (b1 : Below w.heap.size w W) => sameAmount_calls p q a n c b m d W (h.keep b1) hn (k.keep b1) hm hp hq (hT.1.kept b1)
  have hJ := cmp_bd q (intD 0)
  unfold drQ
  have eJ : agI q 0 = cmpD q (intD 0) := rfl
  rw [eJ] at AC ⊢
  clear eJ
  generalize cmpD q (intD 0) = J at *
  generalize decide (cmpD (absD p) (absD q) = 0) = B at *
  clear h k hp hq hT
  by_cases hz : p.2.1 = 0
  · rw [decide_eq_true hz] at ZC
    rw [if_pos hz]
    clear hz SC
    rcases hJ with rfl | rfl | rfl
    ·
      go_enter Tryz.func29, Tryz.ntmps29
      go_wp2_with fail
      generalize ((w.alloc (.cells #[.bool p.1, .slice a n c, .int .i64 p.2.2] 27)).alloc (.cells #[.bool q.1, .slice b m d, .int .i64 q.2.2] 27)) = w0 at *
      refine Calls.mono AC.out ?_
      rintro r w1 ⟨rfl, b1⟩
      replace bA := nT bA b1
      replace x0 := kC b1 x0
      replace x1 := kC b1 x1
      replace x2 := kC b1 x2
      replace y0 := kC b1 y0
      replace y1 := kC b1 y1
      replace y2 := kC b1 y2
      replace s0 := kC b1 s0
      replace s1 := kC b1 s1
      replace s2 := kC b1 s2
      clear b1 AC
      go_wp2_with fail
      refine Calls.mono (ZC.out _ bA) ?_
      rintro r w2 ⟨rfl, b1⟩
      replace bA := nT bA b1
      replace x0 := kC b1 x0
      replace x1 := kC b1 x1
      replace x2 := kC b1 x2
      replace y0 := kC b1 y0
      replace y1 := kC b1 y1
      replace y2 := kC b1 y2
      replace s0 := kC b1 s0
      replace s1 := kC b1 s1
      replace s2 := kC b1 s2
      clear b1 ZC
      go_wp2_with fail
      go_ret2
      exact ⟨rfl, bA⟩
    ·
      go_enter Tryz.func29, Tryz.ntmps29
      go_wp2_with fail
      generalize ((w.alloc (.cells #[.bool p.1, .slice a n c, .int .i64 p.2.2] 27)).alloc (.cells #[.bool q.1, .slice b m d, .int .i64 q.2.2] 27)) = w0 at *
      refine Calls.mono AC.out ?_
      rintro r w1 ⟨rfl, b1⟩
      replace bA := nT bA b1
      replace x0 := kC b1 x0
      replace x1 := kC b1 x1
      replace x2 := kC b1 x2
      replace y0 := kC b1 y0
      replace y1 := kC b1 y1
      replace y2 := kC b1 y2
      replace s0 := kC b1 s0
      replace s1 := kC b1 s1
      replace s2 := kC b1 s2
      clear b1 AC
      go_wp2_with fail
      refine Calls.mono (ZC.out _ bA) ?_
      rintro r w2 ⟨rfl, b1⟩
      replace bA := nT bA b1
      replace x0 := kC b1 x0
      replace x1 := kC b1 x1
      replace x2 := kC b1 x2
      replace y0 := kC b1 y0
      replace y1 := kC b1 y1
      replace y2 := kC b1 y2
      replace s0 := kC b1 s0
      replace s1 := kC b1 s1
      replace s2 := kC b1 s2
      clear b1 ZC
      go_wp2_with fail
      go_ret2
      exact ⟨rfl, bA⟩
    ·
      go_enter Tryz.func29, Tryz.ntmps29
      go_wp2_with fail
      generalize ((w.alloc (.cells #[.bool p.1, .slice a n c, .int .i64 p.2.2] 27)).alloc (.cells #[.bool q.1, .slice b m d, .int .i64 q.2.2] 27)) = w0 at *
      refine Calls.mono AC.out ?_
      rintro r w1 ⟨rfl, b1⟩
      replace bA := nT bA b1
      replace x0 := kC b1 x0
      replace x1 := kC b1 x1
      replace x2 := kC b1 x2
      replace y0 := kC b1 y0
      replace y1 := kC b1 y1
      replace y2 := kC b1 y2
      replace s0 := kC b1 s0
      replace s1 := kC b1 s1
      replace s2 := kC b1 s2
      clear b1 AC
      go_wp2_with fail
      refine Calls.mono (ZC.out _ bA) ?_
      rintro r w2 ⟨rfl, b1⟩
      replace bA := nT bA b1
      replace x0 := kC b1 x0
      replace x1 := kC b1 x1
      replace x2 := kC b1 x2
      replace y0 := kC b1 y0
      replace y1 := kC b1 y1
      replace y2 := kC b1 y2
      replace s0 := kC b1 s0
      replace s1 := kC b1 s1
      replace s2 := kC b1 s2
      clear b1 ZC
      go_wp2_with fail
      go_ret2
      exact ⟨rfl, bA⟩
  · rw [decide_eq_false hz] at ZC
    rw [if_neg hz]
    clear hz
    generalize p.1 = ps at *
    cases ps
    · rcases hJ with rfl | rfl | rfl
      ·
        go_enter Tryz.func29, Tryz.ntmps29
        go_wp2_with fail
        generalize ((w.alloc (.cells #[.bool false, .slice a n c, .int .i64 p.2.2] 27)).alloc (.cells #[.bool q.1, .slice b m d, .int .i64 q.2.2] 27)) = w0 at *
        refine Calls.mono AC.out ?_
        rintro r w1 ⟨rfl, b1⟩
        replace bA := nT bA b1
        replace x0 := kC b1 x0
        replace x1 := kC b1 x1
        replace x2 := kC b1 x2
        replace y0 := kC b1 y0
        replace y1 := kC b1 y1
        replace y2 := kC b1 y2
        replace s0 := kC b1 s0
        replace s1 := kC b1 s1
        replace s2 := kC b1 s2
        clear b1 AC
        go_wp2_with fail
        refine Calls.mono (ZC.out _ bA) ?_
        rintro r w2 ⟨rfl, b1⟩
        replace bA := nT bA b1
        replace x0 := kC b1 x0
        replace x1 := kC b1 x1
        replace x2 := kC b1 x2
        replace y0 := kC b1 y0
        replace y1 := kC b1 y1
        replace y2 := kC b1 y2
        replace s0 := kC b1 s0
        replace s1 := kC b1 s1
        replace s2 := kC b1 s2
        clear b1 ZC
        go_wp2_with fail
        refine Calls.mono (SC.out _ bA) ?_
        rintro r w3 ⟨rfl, b1⟩
        replace bA := nT bA b1
        replace x0 := kC b1 x0
        replace x1 := kC b1 x1
        replace x2 := kC b1 x2
        replace y0 := kC b1 y0
        replace y1 := kC b1 y1
        replace y2 := kC b1 y2
        replace s0 := kC b1 s0
        replace s1 := kC b1 s1
        replace s2 := kC b1 s2
        clear b1 SC
        go_wp2_with fail
        go_ret2
        exact ⟨rfl, bA⟩
      ·
        go_enter Tryz.func29, Tryz.ntmps29
        go_wp2_with fail
        generalize ((w.alloc (.cells #[.bool false, .slice a n c, .int .i64 p.2.2] 27)).alloc (.cells #[.bool q.1, .slice b m d, .int .i64 q.2.2] 27)) = w0 at *
        refine Calls.mono AC.out ?_
        rintro r w1 ⟨rfl, b1⟩
        replace bA := nT bA b1
        replace x0 := kC b1 x0
        replace x1 := kC b1 x1
        replace x2 := kC b1 x2
        replace y0 := kC b1 y0
        replace y1 := kC b1 y1
        replace y2 := kC b1 y2
        replace s0 := kC b1 s0
        replace s1 := kC b1 s1
        replace s2 := kC b1 s2
        clear b1 AC
        go_wp2_with fail
        refine Calls.mono (ZC.out _ bA) ?_
        rintro r w2 ⟨rfl, b1⟩
        replace bA := nT bA b1
        replace x0 := kC b1 x0
        replace x1 := kC b1 x1
        replace x2 := kC b1 x2
        replace y0 := kC b1 y0
        replace y1 := kC b1 y1
        replace y2 := kC b1 y2
        replace s0 := kC b1 s0
        replace s1 := kC b1 s1
        replace s2 := kC b1 s2
        clear b1 ZC
        go_wp2_with fail
        go_ret2
        exact ⟨rfl, bA⟩
      ·
        go_enter Tryz.func29, Tryz.ntmps29
        go_wp2_with fail
        generalize ((w.alloc (.cells #[.bool false, .slice a n c, .int .i64 p.2.2] 27)).alloc (.cells #[.bool q.1, .slice b m d, .int .i64 q.2.2] 27)) = w0 at *
        refine Calls.mono AC.out ?_
        rintro r w1 ⟨rfl, b1⟩
        replace bA := nT bA b1
        replace x0 := kC b1 x0
        replace x1 := kC b1 x1
        replace x2 := kC b1 x2
        replace y0 := kC b1 y0
        replace y1 := kC b1 y1
        replace y2 := kC b1 y2
        replace s0 := kC b1 s0
        replace s1 := kC b1 s1
        replace s2 := kC b1 s2
        clear b1 AC
        go_wp2_with fail
        refine Calls.mono (ZC.out _ bA) ?_
        rintro r w2 ⟨rfl, b1⟩
        replace bA := nT bA b1
        replace x0 := kC b1 x0
        replace x1 := kC b1 x1
        replace x2 := kC b1 x2
        replace y0 := kC b1 y0
        replace y1 := kC b1 y1
        replace y2 := kC b1 y2
        replace s0 := kC b1 s0
        replace s1 := kC b1 s1
        replace s2 := kC b1 s2
        clear b1 ZC
        go_wp2_with fail
        refine Calls.mono (SC.out _ bA) ?_
        rintro r w3 ⟨rfl, b1⟩
        replace bA := nT bA b1
        replace x0 := kC b1 x0
        replace x1 := kC b1 x1
        replace x2 := kC b1 x2
        replace y0 := kC b1 y0
        replace y1 := kC b1 y1
        replace y2 := kC b1 y2
        replace s0 := kC b1 s0
        replace s1 := kC b1 s1
        replace s2 := kC b1 s2
        clear b1 SC
        go_wp2_with fail
        go_ret2
        exact ⟨rfl, bA⟩
    · rcases hJ with rfl | rfl | rfl
      ·
        go_enter Tryz.func29, Tryz.ntmps29
        go_wp2_with fail
        generalize ((w.alloc (.cells #[.bool true, .slice a n c, .int .i64 p.2.2] 27)).alloc (.cells #[.bool q.1, .slice b m d, .int .i64 q.2.2] 27)) = w0 at *
        refine Calls.mono AC.out ?_
        rintro r w1 ⟨rfl, b1⟩
        replace bA := nT bA b1
        replace x0 := kC b1 x0
        replace x1 := kC b1 x1
        replace x2 := kC b1 x2
        replace y0 := kC b1 y0
        replace y1 := kC b1 y1
        replace y2 := kC b1 y2
        replace s0 := kC b1 s0
        replace s1 := kC b1 s1
        replace s2 := kC b1 s2
        clear b1 AC
        go_wp2_with fail
        refine Calls.mono (ZC.out _ bA) ?_
        rintro r w2 ⟨rfl, b1⟩
        replace bA := nT bA b1
        replace x0 := kC b1 x0
        replace x1 := kC b1 x1
        replace x2 := kC b1 x2
        replace y0 := kC b1 y0
        replace y1 := kC b1 y1
        replace y2 := kC b1 y2
        replace s0 := kC b1 s0
        replace s1 := kC b1 s1
        replace s2 := kC b1 s2
        clear b1 ZC
        go_wp2_with fail
        refine Calls.mono (SC.out _ bA) ?_
        rintro r w3 ⟨rfl, b1⟩
        replace bA := nT bA b1
        replace x0 := kC b1 x0
        replace x1 := kC b1 x1
        replace x2 := kC b1 x2
        replace y0 := kC b1 y0
        replace y1 := kC b1 y1
        replace y2 := kC b1 y2
        replace s0 := kC b1 s0
        replace s1 := kC b1 s1
        replace s2 := kC b1 s2
        clear b1 SC
        go_wp2_with fail
        go_ret2
        exact ⟨rfl, bA⟩
      ·
        go_enter Tryz.func29, Tryz.ntmps29
        go_wp2_with fail
        generalize ((w.alloc (.cells #[.bool true, .slice a n c, .int .i64 p.2.2] 27)).alloc (.cells #[.bool q.1, .slice b m d, .int .i64 q.2.2] 27)) = w0 at *
        refine Calls.mono AC.out ?_
        rintro r w1 ⟨rfl, b1⟩
        replace bA := nT bA b1
        replace x0 := kC b1 x0
        replace x1 := kC b1 x1
        replace x2 := kC b1 x2
        replace y0 := kC b1 y0
        replace y1 := kC b1 y1
        replace y2 := kC b1 y2
        replace s0 := kC b1 s0
        replace s1 := kC b1 s1
        replace s2 := kC b1 s2
        clear b1 AC
        go_wp2_with fail
        refine Calls.mono (ZC.out _ bA) ?_
        rintro r w2 ⟨rfl, b1⟩
        replace bA := nT bA b1
        replace x0 := kC b1 x0
        replace x1 := kC b1 x1
        replace x2 := kC b1 x2
        replace y0 := kC b1 y0
        replace y1 := kC b1 y1
        replace y2 := kC b1 y2
        replace s0 := kC b1 s0
        replace s1 := kC b1 s1
        replace s2 := kC b1 s2
        clear b1 ZC
        go_wp2_with fail
        go_ret2
        exact ⟨rfl, bA⟩
      ·
        go_enter Tryz.func29, Tryz.ntmps29
        go_wp2_with fail
        generalize ((w.alloc (.cells #[.bool true, .slice a n c, .int .i64 p.2.2] 27)).alloc (.cells #[.bool q.1, .slice b m d, .int .i64 q.2.2] 27)) = w0 at *
        refine Calls.mono AC.out ?_
        rintro r w1 ⟨rfl, b1⟩
        replace bA := nT bA b1
        replace x0 := kC b1 x0
        replace x1 := kC b1 x1
        replace x2 := kC b1 x2
        replace y0 := kC b1 y0
        replace y1 := kC b1 y1
        replace y2 := kC b1 y2
        replace s0 := kC b1 s0
        replace s1 := kC b1 s1
        replace s2 := kC b1 s2
        clear b1 AC
        go_wp2_with fail
        refine Calls.mono (ZC.out _ bA) ?_
        rintro r w2 ⟨rfl, b1⟩
        replace bA := nT bA b1
        replace x0 := kC b1 x0
        replace x1 := kC b1 x1
        replace x2 := kC b1 x2
        replace y0 := kC b1 y0
        replace y1 := kC b1 y1
        replace y2 := kC b1 y2
        replace s0 := kC b1 s0
        replace s1 := kC b1 s1
        replace s2 := kC b1 s2
        clear b1 ZC
        go_wp2_with fail
        refine Calls.mono (SC.out _ bA) ?_
        rintro r w3 ⟨rfl, b1⟩
        replace bA := nT bA b1
        replace x0 := kC b1 x0
        replace x1 := kC b1 x1
        replace x2 := kC b1 x2
        replace y0 := kC b1 y0
        replace y1 := kC b1 y1
        replace y2 := kC b1 y2
        replace s0 := kC b1 s0
        replace s1 := kC b1 s1
        replace s2 := kC b1 s2
        clear b1 SC
        go_wp2_with fail
        go_ret2
        exact ⟨rfl, bA⟩

set_option maxRecDepth 100000 in
set_option maxHeartbeats 4000000 in
theorem radians_calls (q : Int) (w : World) :
    Calls Tryz.prog 68 #[.int .i64 q] w fun r w' => ∃ v', r = .returned (.tuple #[v', .bool (msQ 33 q).2]) ∧ DyAt w.heap.size w' v' (msQ 33 q).1 ∧ Below w.heap.size w w' := by
  have bA := below_one w (.cells #[.bool false, .slice none 0 0, .int .i64 0] 27)
  rw [show msQ 33 q = (z3, decide (q = 0)) from rfl]
  go_enter Tryz.func68, Tryz.ntmps68
  go_wp2_with fail
  exact bodyPost_ret (v := .tuple #[dyV false none 0 0 0, .bool (decide (q = 0))]) (by simp [results, Tryz.results68, go_sem]; rfl) rfl ⟨_, rfl, dyAt_z3 _ _, by repeat (first | (with_reducible exact bA) | (with_reducible refine Below.setCell ?_ (by simp; try omega) _) | (with_reducible refine Below.alloc ?_ (by have := bA.size; simp; try omega) _))⟩

set_option maxRecDepth 100000 in
set_option maxHeartbeats 4000000 in
theorem halfTurns_calls (q : Int) (hq : -8 ≤ q ∧ q ≤ 8) (w : World) (hT : Tab w) :
    Calls Tryz.prog 69 #[.int .i64 q] w fun r w' => ∃ v', r = .returned (.tuple #[v', .bool (msQ 34 q).2]) ∧ DyAt w.heap.size w' v' (msQ 34 q).1 ∧ Below w.heap.size w w' := by
  have bA := below_one w (.cells #[.bool false, .slice none 0 0, .int .i64 0] 27)
  obtain ⟨z0, f0, z1, f1, z2, f2⟩ := fX15 w
  have QC : Hid _ := inQuarters_calls q hq _ (hT.kept bA)
  rw [show msQ 34 q = (inQ q, true) from rfl]
  generalize inQ q = R at *
  clear hT hq
  go_enter Tryz.func69, Tryz.ntmps69
  go_wp2_with fail
  generalize w.alloc (.cells #[.bool false, .slice none 0 0, .int .i64 0] 27) = w0 at *
  have lb := bA.size
  refine Calls.mono QC.out ?_
  rintro r w1 ⟨_, rfl, ⟨a3, n3, c3, rfl, HN3, hn3, hO3⟩, b1⟩
  replace f0 := kF b1 z0 f0
  replace f1 := kF b1 z1 f1
  replace f2 := kF b1 z2 f2
  replace bA := nT bA b1
  replace z0 := kC b1 z0
  replace z1 := kC b1 z1
  replace z2 := kC b1 z2
  clear b1
  go_wp2_with fail
  exact bodyPost_ret (v := .tuple #[dyV R.1 a3 n3 c3 R.2.2, .bool true]) (by simp [results, Tryz.results69, go_sem, z0, z1, z2]) rfl ⟨_, rfl, ⟨a3, n3, c3, rfl, HN3, hn3, (hO3.low lb).set_dy w.heap.size false none 0 0 0 _ _ _ z0 z1 z2⟩, by repeat (first | (with_reducible exact bA) | (with_reducible refine Below.setCell ?_ (by simp; try omega) _) | (with_reducible refine Below.alloc ?_ (by have := bA.size; simp; try omega) _))⟩
end Go.Proofs.YtiijfnaaekmpbaaGreatDoor

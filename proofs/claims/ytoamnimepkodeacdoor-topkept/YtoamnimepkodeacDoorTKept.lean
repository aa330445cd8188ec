/- The walk of the statement TopKept: it answers true for any list of bytes and any uint64 word, where the names stand. -/
import Derived.Test.YtoamnimepkodeacDoorBWalks
import Derived.Test.YtoamnimepkodeacDoorFSticky
namespace Go.Proofs.YtoamnimepkodeacDoor
open Go.RowKit

theorem U_of {x : Int} (h : (Lit.int .u64 x).wf = true) : U x := by
  simp only [Lit.wf, IntKind.min, IntKind.max, IntKind.signed, IntKind.bits, Bool.and_eq_true] at h
  unfold U
  simp at h
  omega
theorem up_less (y : Int) (h : U y) : lessB (upV y) y = false := by
  unfold lessB numB rungV upV; unfold U at h
  (repeat' split) <;> simp <;> omega
theorem up_order (y : Int) (h : U y) : ordV y (upV y) ≤ 0 := by
  unfold ordV cmpV placeV upV; unfold U at h
  (repeat' split) <;> omega
theorem ref_right (f : Int) (_h : F f) : (refV f == 0) = rightB f := by
  unfold refV; cases rightB f <;> rfl
theorem upd_right (fl f : Int) (h0 : 0 ≤ fl) (h1 : fl ≤ 31) (hf : F f) (hr : rightB f = true) : updV fl f = orV fl f ∧ 0 ≤ orV fl f ∧ orV fl f ≤ 31 := by
  rw [right_le f hf] at hr
  simp only [decide_eq_true_eq] at hr
  unfold F at hf
  exact or_set fl f h0 h1 hf.1 hr
theorem upd_wrong (fl f : Int) (hr : rightB f = false) : updV fl f = fl := by unfold updV; rw [hr]; rfl
theorem show_some (fl : Int) (h0 : 0 ≤ fl) (h1 : fl ≤ 31) : (showS fl).toList.isEmpty = false :=
  set_all (p := fun a => (showS a).toList.isEmpty = false) (by decide +kernel) fl h0 h1
theorem set_F (fl : Int) (h0 : 0 ≤ fl) (h1 : fl ≤ 31) : F fl := by unfold F; omega

set_option maxRecDepth 100000 in
set_option maxHeartbeats 1000000 in
theorem topBegins_calls (w : World) (hN : Names w) :
    Calls Tryd.prog 23 #[] w fun e w' => e = .returned (.bool true) ∧ Below w.heap.size w w' := by
  have k1 : (upV 9223372036854775808 == 1) = true := by decide +kernel
  have k2 : (classV 9218868437227405312 == 4) = true := by decide +kernel
  have k6 : (parseE invInex == 0) = true := by decide +kernel
  have k7 : (parseV invInex == 17) = true := by decide +kernel
  have u1 : U 9223372036854775808 := by unfold U; omega
  have u2 : U 9218868437227405312 := by unfold U; omega
  go_enter Tryd.func23, Tryd.ntmps23
  go_wp2_with fail
  refine (fParse_calls invInex _ hN).mono ?_
  rintro e w1 ⟨rfl, hb⟩
  go_wp2_with fail
  refine (up_calls _ _ u1).mono ?_
  rintro e w1 ⟨rfl, rfl⟩
  go_wp2_with fail
  refine (class_calls _ _ u2).mono ?_
  rintro e w2 ⟨rfl, hb2⟩
  replace hb := fbelow_trans hb hb2
  clear hb2
  go_wp2_with fail
  go_ret
  exact ⟨rfl, hb⟩

set_option maxRecDepth 100000 in
set_option maxHeartbeats 2000000 in
theorem topKept_walk (a0 : Option Addr) (l0 c0 : Nat) (z0 : Nat → Int) (x : Int) (w : World) (h0 : IsRow w a0 l0 z0) (hx : U x) (hN : Names w) :
    Calls Tryd.prog 7 #[.slice a0 l0 c0, .int .u64 x] w fun e w' => e = .returned (.bool true) ∧ Below w.heap.size w w' := by
  have m0 := h0.1
  unfold maxLen at m0
  go_enter Tryd.func7, Tryd.ntmps7
  go_wp2_with fail
  refine (topBegins_calls _ hN).mono ?_
  rintro e w1 ⟨rfl, hb⟩
  have hN1 := hN.keep hb
  go_wp2_with fail
  refine (eNew_calls _).mono ?_
  rintro e w2 ⟨rfl, rfl⟩
  have hE := EnvAt.new w1 0 0 57
  have hs1 := hb.size
  replace hb : Below w.heap.size w (w1.alloc (.cells #[.int .u8 0, .int .u8 0] 57)) := hb.alloc hs1 _
  replace hN1 : Names (w1.alloc (.cells #[.int .u8 0, .int .u8 0] 57)) := hN.keep hb
  generalize w1.alloc (.cells #[.int .u8 0, .int .u8 0] 57) = w2 at *
  generalize w1.heap.size = B at *
  clear hN1
  go_wp2_with fail
  go_loopw [6, 24] (fun v i wr => ∃ (k : Nat) (fl m : Int), k ≤ l0 ∧ i = .int .i64 k ∧ v = .int .u8 fl ∧ 0 ≤ fl ∧ fl ≤ 31 ∧ EnvAt wr B fl m ∧ Below w.heap.size w wr) (fun _ i _ => l0 - (intOf i).toNat)
  case atStart => exact ⟨0, 0, 0, by omega, rfl, rfl, by omega, by omega, hE, hb⟩
  case round =>
    obtain ⟨k, fl, m, hk, rfl, rfl, f0, f1, hE', hb'⟩ := hrel
    clear hE hb
    by_cases hlt : k < l0
    · obtain ⟨b, off, ha, hc, hF⟩ := h0.at hb' hlt
      have k1 : (refV (z0 k) == 0) = rightB (z0 k) := ref_right _ hF
      subst ha
      cases hr : rightB (z0 k)
      · have U1 : Hid _ := upd_wrong fl (z0 k) hr
        have k2 : (refV (z0 k) == 0) = false := by rw [k1, hr]
        clear k1
        by_cases c3 : k % 3 = 2
        · have d3 : ((k : Int) % 3 == 2) = true := by simp; omega
          have d4 : (updV fl (z0 k) != fl) = false := by rw [U1.out]; simp
          go_wp2_with fail
          refine (eRaise_calls w.heap.size _ _ _ _ _ hE' hs1).mono ?_
          rintro e w3 ⟨rfl, hE3, hb3⟩
          replace hb' := hb'.trans hb3
          clear hE' hb3 hc
          go_wp2_with fail
          refine (fRight_calls _ _).mono ?_
          rintro e w3 ⟨rfl, rfl⟩
          go_wp2_with fail
          refine (eHold_calls w.heap.size _ _ _ _ hE3 hs1).mono ?_
          rintro e w4 ⟨rfl, hE4, hb4⟩
          replace hb' := hb'.trans hb4
          clear hE3 hb4
          go_wp2_with fail
          go_roundw
          case rel => exact ⟨k + 1, 0, _, by omega, by go_num, rfl, by omega, by omega, hE4, hb'⟩
          case measure => simp [intOf]; omega
        · have d3 : ((k : Int) % 3 == 2) = false := by simp; omega
          go_wp2_with fail
          refine (eRaise_calls w.heap.size _ _ _ _ _ hE' hs1).mono ?_
          rintro e w3 ⟨rfl, hE3, hb3⟩
          replace hb' := hb'.trans hb3
          clear hE' hb3 hc
          go_wp2_with fail
          refine (fRight_calls _ _).mono ?_
          rintro e w3 ⟨rfl, rfl⟩
          go_wp2_with fail
          go_roundw
          case rel => exact ⟨k + 1, fl, _, by omega, by go_num, rfl, f0, f1, by rw [← U1.out]; exact hE3, hb'⟩
          case measure => simp [intOf]; omega
      · obtain ⟨u1, u2, u3⟩ := upd_right fl _ f0 f1 hF hr
        have U1 : Hid _ := u1
        have k2 : (refV (z0 k) == 0) = true := by rw [k1, hr]
        clear k1 u1
        by_cases c3 : k % 3 = 2
        · have d3 : ((k : Int) % 3 == 2) = true := by simp; omega
          have d4 : (updV fl (z0 k) != orV fl (z0 k)) = false := by rw [U1.out]; simp
          go_wp2_with fail
          refine (eRaise_calls w.heap.size _ _ _ _ _ hE' hs1).mono ?_
          rintro e w3 ⟨rfl, hE3, hb3⟩
          replace hb' := hb'.trans hb3
          clear hE' hb3 hc
          go_wp2_with fail
          refine (fRight_calls _ _).mono ?_
          rintro e w3 ⟨rfl, rfl⟩
          go_wp2_with fail
          refine (fJoin_calls _ _ _).mono ?_
          rintro e w3 ⟨rfl, rfl⟩
          go_wp2_with fail
          refine (eHold_calls w.heap.size _ _ _ _ hE3 hs1).mono ?_
          rintro e w4 ⟨rfl, hE4, hb4⟩
          replace hb' := hb'.trans hb4
          clear hE3 hb4
          go_wp2_with fail
          go_roundw
          case rel => exact ⟨k + 1, 0, _, by omega, by go_num, rfl, by omega, by omega, hE4, hb'⟩
          case measure => simp [intOf]; omega
        · have d3 : ((k : Int) % 3 == 2) = false := by simp; omega
          go_wp2_with fail
          refine (eRaise_calls w.heap.size _ _ _ _ _ hE' hs1).mono ?_
          rintro e w3 ⟨rfl, hE3, hb3⟩
          replace hb' := hb'.trans hb3
          clear hE' hb3 hc
          go_wp2_with fail
          refine (fRight_calls _ _).mono ?_
          rintro e w3 ⟨rfl, rfl⟩
          go_wp2_with fail
          refine (fJoin_calls _ _ _).mono ?_
          rintro e w3 ⟨rfl, rfl⟩
          go_wp2_with fail
          go_roundw
          case rel => exact ⟨k + 1, orV fl (z0 k), _, by omega, by go_num, rfl, u2, u3, by rw [← U1.out]; exact hE3, hb'⟩
          case measure => simp [intOf]; omega
    · have q1 : (refV 31 != 0) = false := by decide +kernel
      have t0 : testV fl 31 = fl := test_set fl f0 f1
      have q2 : (testV fl 31 != fl) = false := by rw [t0]; simp
      have q3 : F (testV fl 31) := by rw [t0]; exact set_F fl f0 f1
      have q4 : (showS (testV fl 31)).toList.isEmpty = false := by rw [t0]; exact show_some fl f0 f1
      have hN2 := hN.keep hb'
      clear t0
      go_wp2_with fail
      refine (eTest_calls _ _ _ _ _ hE').mono ?_
      rintro e wr ⟨rfl, rfl⟩
      go_wp2_with fail
      refine (fShow_calls _ _ q3 hN2).mono ?_
      rintro e w5 ⟨rfl, hb5⟩
      replace hb' := hb'.trans (hb5.mono hb'.size)
      clear hE' hb5 hN2
      go_wp2_with fail
      go_loopw [14, 15] (fun v i wr => ∃ (k : Nat) (y : Int), k ≤ 20 ∧ i = .int .i64 k ∧ v = .int .u64 y ∧ U y ∧ Below w.heap.size w wr) (fun _ i _ => 20 - (intOf i).toNat)
      case atStart => exact ⟨0, x, by omega, rfl, rfl, hx, hb'⟩
      case round =>
        obtain ⟨k2, y, hk2, rfl, rfl, hU, hbr⟩ := hrel
        clear hb'
        have u1 := up_less y hU
        have u2 := up_order y hU
        have u3 := upV_U y hU
        by_cases hlt2 : k2 < 20
        · by_cases hz : upV y = y
          · have z1 : (upV y != y) = false := by simp [hz]
            clear hz
            go_wp2_with (go_at_call 24; refine (up_calls _ _ hU).mono ?_; rintro e wr ⟨rfl, rfl⟩)
            go_roundw
            case rel => exact ⟨k2 + 1, upV y, by omega, by go_num, rfl, u3, hbr⟩
            case measure => simp [intOf]; omega
          · have z1 : (upV y != y) = true := by simp [hz]
            clear hz
            go_wp2_with (first | (go_at_call 24; refine (up_calls _ _ hU).mono ?_; rintro e wr ⟨rfl, rfl⟩) | (go_at_call 25; refine (order_calls _ _ _ hU u3).mono ?_; rintro e wr ⟨rfl, rfl⟩) | (go_at_call 27; refine (less_calls _ _ _ u3 hU).mono ?_; rintro e wr ⟨rfl, rfl⟩))
            go_roundw
            case rel => exact ⟨k2 + 1, upV y, by omega, by go_num, rfl, u3, hbr⟩
            case measure => simp [intOf]; omega
        · go_wp2
          go_ret
          exact ⟨rfl, hbr⟩
end Go.Proofs.YtoamnimepkodeacDoor

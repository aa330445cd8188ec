/- The walks of package nat, third part: Norm, Of, Len, Low, Bit, Cmp. -/
import Derived.Test.YtfmjgagajlhfoaaDoorNProg2
import Derived.Test.YtfmjgagajlhfoaaDoorBWalks
namespace Go.Proofs.YtfmjgagajlhfoaaDoor
open Go.RowKit

set_option maxHeartbeats 400000 in
theorem compareU_calls (x y : Int) (w : World) :
    Calls Tryd.prog 95 #[.int .u64 x, .int .u64 y] w fun e w' => e = .returned (.int .i64 (Lib.compareInt x y)) ∧ w' = w := by
  by_cases c1 : x < y
  · have HV : Hid (Lib.compareInt x y = -1) := by rw [Hid, Lib.compareInt, if_pos c1]
    go_enter Tryd.func95, Tryd.ntmps95
    go_wp2
    go_ret
    exact ⟨nret_int HV.out.symm, rfl⟩
  · by_cases c2 : y < x
    · have HV : Hid (Lib.compareInt x y = 1) := by rw [Hid, Lib.compareInt, if_neg c1, if_pos c2]
      go_enter Tryd.func95, Tryd.ntmps95
      go_wp2
      go_ret
      exact ⟨nret_int HV.out.symm, rfl⟩
    · have HV : Hid (Lib.compareInt x y = 0) := by rw [Hid, Lib.compareInt, if_neg c1, if_neg c2]
      go_enter Tryd.func95, Tryd.ntmps95
      go_wp2
      go_ret
      exact ⟨nret_int HV.out.symm, rfl⟩

theorem cmp_len (u v : Nat) (h : (wordsOf u).length ≠ (wordsOf v).length) : Lib.compareInt ((wordsOf u).length : Nat) ((wordsOf v).length : Nat) = cmpN u v := by
  have k1 := words_len (wordsOf u).length
  have k2 := words_len (wordsOf v).length
  have a1 := (k1 u).1 (Nat.le_refl _)
  have a2 := (k2 v).1 (Nat.le_refl _)
  have b1 := k1 v
  have b2 := k2 u
  unfold Lib.compareInt cmpN
  by_cases c : (wordsOf u).length < (wordsOf v).length
  · have : ¬ v < 18446744073709551616 ^ (wordsOf u).length := fun q => by have := b1.2 q; omega
    rw [if_pos (by omega), if_pos (by omega)]
  · have : ¬ u < 18446744073709551616 ^ (wordsOf v).length := fun q => by have := b2.2 q; omega
    rw [if_neg (by omega), if_pos (by omega), if_neg (by omega), if_pos (by omega)]

set_option maxRecDepth 100000 in
set_option maxHeartbeats 1000000 in
theorem against_calls (a a' : Option Addr) (n n' : Nat) (u v : Nat) (w : World) (h : IsW w a n n (wordsOf u)) (h' : IsW w a' n' n' (wordsOf v)) (hm : n ≤ 17592186044416) (hm' : n' ≤ 17592186044416) :
    Calls Tryd.prog 77 #[.slice a n n, .slice a' n' n'] w fun e w' => e = .returned (.int .i64 (cmpN u v)) ∧ Below w.heap.size w w' := by
  by_cases hl : n = n'
  · subst hl
    have hx1 : (wordsOf u).length ≤ n := by have := h.1; omega
    have hy1 : (wordsOf v).length ≤ n := by have := h'.1; omega
    have C : Hid _ := cmp_top (wordsOf u) (wordsOf v) h.2.1 h'.2.1
    have E : Hid (SameFrom (wordsOf u) (wordsOf v) 0 → cmpN u v = 0) := fun hs => by have := cmp_same _ _ hs n hx1 hy1; rwa [val_words, val_words] at this
    have X1 : Hid ((wordsOf u).length ≤ n) := hx1
    have Y1 : Hid ((wordsOf v).length ≤ n) := hy1
    have S : Hid (SameFrom (wordsOf u) (wordsOf v) n) := fun i hi => by
      rw [show (wordsOf u).getD i 0 = 0 by simp [List.getD, show ¬ i < (wordsOf u).length by omega], show (wordsOf v).getD i 0 = 0 by simp [List.getD, show ¬ i < (wordsOf v).length by omega]]
    clear hx1 hy1
    go_enter Tryd.func77, Tryd.ntmps77
    go_wp2_with fail
    go_loopw [5] (fun q wr => ∃ k : Nat, k ≤ n ∧ q = .int .i64 ((k : Int) - 1) ∧ SameFrom (wordsOf u) (wordsOf v) k ∧ IsW wr a n n (wordsOf u) ∧ IsW wr a' n n (wordsOf v) ∧ Below w.heap.size w wr) (fun q _ => (intOf q + 1).toNat)
    case atStart => exact ⟨n, by omega, rfl, S.out, h, h', Below.refl _ _⟩
    case round =>
      obtain ⟨k, hk, rfl, hs, hW, hW', hbr⟩ := hrel
      clear h h'
      have HS : Hid (SameFrom (wordsOf u) (wordsOf v) k) := hs
      clear hs
      cases k with
      | zero =>
        have HV : Hid (cmpN u v = 0) := E.out HS.out
        go_wp2_with fail
        go_ret
        exact ⟨nret_int HV.out.symm, hbr⟩
      | succ k =>
        have D : Hid _ := C.out k n (by omega) X1.out Y1.out HS.out
        obtain ⟨b, off, ha, _, hc⟩ := hW.2.2.2 k (by omega)
        obtain ⟨b', off', ha', _, hc'⟩ := hW'.2.2.2 k (by omega)
        obtain ⟨x, hx⟩ : ∃ x, x = (wordsOf u).getD k 0 := ⟨_, rfl⟩
        obtain ⟨y, hy⟩ : ∃ y, y = (wordsOf v).getD k 0 := ⟨_, rfl⟩
        rw [← hx] at hc
        rw [← hy] at hc'
        have D' : Hid ((x < y → cmpN u v = -1) ∧ (y < x → cmpN u v = 1)) := by
          have := D.out; rw [val_words, val_words] at this
          rw [Hid, hx, hy]; exact this
        have HX : Hid (x = (wordsOf u).getD k 0) := hx
        have HY : Hid (y = (wordsOf v).getD k 0) := hy
        have ek : (((k + 1 : Nat) : Int) - 1) = (k : Int) := by omega
        rw [ek]
        subst ha ha'
        clear hx hy D
        by_cases hxy : x = y
        · have d : (x != y) = false := by simp [hxy]
          have HS' : Hid (SameFrom (wordsOf u) (wordsOf v) k) := fun i hi => by
            by_cases e : i = k
            · rw [e, ← HX.out, ← HY.out]; exact hxy
            · exact HS.out i (by omega)
          clear hxy
          go_wp2_with fail
          go_quiet (fail)
          go_wp2_with fail
          go_roundw
          case rel => exact ⟨k, by omega, by first | rfl | go_num, HS'.out, hW, hW', below_drewN hbr nq⟩
          case measure => simp [intOf]
        · have d : (x != y) = true := by simp [hxy]
          have HV : Hid (Lib.compareInt x y = cmpN u v) := by
            rw [Hid, Lib.compareInt]
            by_cases c : x < y
            · rw [if_pos c, D'.out.1 c]
            · rw [if_neg c, if_pos (by omega), D'.out.2 (by omega)]
          clear hxy
          go_wp2_with fail
          go_quiet (fail)
          have hb2 := below_drewN hbr nq
          have hc2 : (wr.drewN nq).cell? ⟨b, off + k, none⟩ = some (.int .u64 x) := hc
          have hc2' : (wr.drewN nq).cell? ⟨b', off' + k, none⟩ = some (.int .u64 y) := hc'
          generalize wr.drewN nq = w2 at hb2 hc2 hc2' ⊢
          clear hc hc' hW hW' hbr
          go_wp2_with fail
          go_quiet ((go_at_call 95; exact Calls.quiet_of_same (compareU_calls _ _ _)))
          go_wp2_with fail
          go_ret
          exact ⟨nret_int HV.out, below_drewN hb2 _⟩
  · have d : ((n : Int) != (n' : Int)) = true := by simp; omega
    have HV : Hid (Lib.compareInt n n' = cmpN u v) := by
      have e1 := h.1; have e2 := h'.1
      rw [Hid, e1, e2]; exact cmp_len u v (by omega)
    clear hl
    go_enter Tryd.func77, Tryd.ntmps77
    go_wp2_with fail
    refine Calls.mono (Tryd.cmp_Compare_int _ _ _) ?_
    rintro e w ⟨rfl, rfl⟩
    go_wp2_with fail
    go_ret
    exact ⟨nret_int HV.out, Below.refl _ _⟩
end Go.Proofs.YtfmjgagajlhfoaaDoor

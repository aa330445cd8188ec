/- The walk of the statement BitsBack: it answers true for any uint64 word and any fields, where math/bits's table stands. -/
import Derived.Test.YtoamnimepkodeaaDoorBWalks2
import Derived.Test.YtoamnimepkodeaaDoorBSplits
import Derived.Deep.RegionWith
namespace Go.Proofs.YtoamnimepkodeaaDoor
open Go.RowKit

theorem join_split (x : Int) (h : U x) : joinE (expV x) (fracV x) = 0 ∧ joinV (sgnB x) (expV x) (fracV x) = x := by
  have he := expV_bd x
  have hf := fracV_bd x
  have e : joinE (expV x) (fracV x) = 0 := by unfold joinE; rw [if_neg (by omega)]
  refine ⟨e, ?_⟩
  unfold joinV; rw [if_pos e]; unfold U at h; unfold sgnB expV fracV
  by_cases c : 9223372036854775808 ≤ x
  · simp [c]; omega
  · simp [c]; omega
theorem split_join (s : Bool) (a f : Int) (hf : U f) (h : joinE a f = 0) : sgnB (joinV s a f) = s ∧ expV (joinV s a f) = a ∧ fracV (joinV s a f) = f := by
  have c : ¬ (a < 0 ∨ 2047 < a ∨ 4503599627370495 < f) := by
    intro c; unfold joinE at h; rw [if_pos c] at h; omega
  have e : joinV s a f = (if s then 9223372036854775808 else 0) + a * 4503599627370496 + f := by unfold joinV; rw [if_pos h]
  rw [e]; unfold U at hf; unfold sgnB expV fracV
  cases s
  · refine ⟨?_, ?_, ?_⟩ <;> simp <;> omega
  · refine ⟨?_, ?_, ?_⟩ <;> simp <;> omega
theorem join_bad (s : Bool) (a f : Int) (h : ¬ joinE a f = 0) : joinE a f = 2 ∧ joinV s a f = 0 := by
  refine ⟨?_, by unfold joinV; rw [if_neg h]⟩
  unfold joinE at *; split <;> simp_all

theorem box_there {w w1 : World} {n o : Nat} {v : Value} (h : Below w.drew.heap.size w.drew w1) (hs : n < w.heap.size) (q : w.cell? ⟨n, o, none⟩ = some v) : w1.cell? ⟨n, o, none⟩ = some v := by
  rw [h.cell (p := ⟨n, o, none⟩) hs]; exact q
theorem below_drew {w w1 w2 : World} (h : Below w.heap.size w w1) (k : Below w1.drew.heap.size w1.drew w2) : Below w.heap.size w w2 := below_trans h.drew k

set_option maxHeartbeats 1000000 in
theorem bitsBack_walk (x : Int) (s : Bool) (a f : Int) (w : World) (hx : U x) (hf : U f) (hT : Tab w) :
    Calls Tryd.prog 6 #[.int .u64 x, .agg #[.bool s, .int .i64 a, .int .u64 f]] w fun e w' => e = .returned (.bool true) ∧ Below w.heap.size w w' := by
  obtain ⟨j1, j2⟩ := join_split x hx
  have k1 : (joinE (expV x) (fracV x) != 0) = false := by rw [j1]; rfl
  have k2 : (joinV (sgnB x) (expV x) (fracV x) != x) = false := by rw [j2]; simp
  have fu : U (fracV x) := by have := fracV_bd x; unfold U; omega
  have zu := joinV_U s a f hf.1
  clear j1 j2
  by_cases c : joinE a f = 0
  · obtain ⟨s1, s2, s3⟩ := split_join s a f hf c
    have S : Hid (sgnB (joinV s a f) = s ∧ expV (joinV s a f) = a ∧ fracV (joinV s a f) = f) := ⟨s1, s2, s3⟩
    have k3 : (joinE a f != 0) = false := by rw [c]; rfl
    clear s1 s2 s3 c
    go_enter Tryd.func6, Tryd.ntmps6
    go_wp2_with fail
    refine (split_calls _ _ hx).mono ?_
    rintro e w1 ⟨rfl, hb1⟩
    obtain ⟨q0, q1, q2⟩ := box_kept hb1
    have hs : w.heap.size < w1.heap.size := Nat.lt_of_lt_of_le (by simp) hb1.size
    have hb : Below w.heap.size w w1 := below_trans (below_alloc _ _) hb1
    replace hT := hT.kept hb
    clear hb1
    go_wp2_with fail
    refine (join_calls _ _ _ _ fu).mono ?_
    rintro e w2 ⟨rfl, hb1⟩
    obtain ⟨hc, _⟩ := bcell hb1
    rw [← hc _ _ hs] at q0 q1 q2
    clear hc
    replace hs := Nat.lt_of_lt_of_le hs hb1.size
    replace hT := hT.kept hb1
    replace hb := below_trans hb hb1
    clear hb1
    go_wp2_with fail
    refine (join_calls _ _ _ _ hf).mono ?_
    rintro e w3 ⟨rfl, hb1⟩
    obtain ⟨hc, _⟩ := bcell hb1
    rw [← hc _ _ hs] at q0 q1 q2
    clear hc
    replace hs := Nat.lt_of_lt_of_le hs hb1.size
    replace hT := hT.kept hb1
    replace hb := below_trans hb hb1
    clear hb1
    go_wp2_with fail
    refine (lives_calls _ hT).mono ?_
    rintro e w4 ⟨rfl, hb1⟩
    obtain ⟨hc, _⟩ := bcell hb1
    rw [← hc _ _ hs] at q0 q1 q2
    clear hc
    replace hs := Nat.lt_of_lt_of_le hs hb1.size
    replace hT := hT.kept hb1
    replace hb := below_trans hb hb1
    clear hb1
    go_wp2_with fail
    obtain ⟨s1, s2, s3⟩ := S.out
    go_region_with ((go_at_call 14; refine (split_calls _ _ zu).mono ?_; rintro e w5 ⟨rfl, hb5⟩; have r0 := box_there hb5 hs q0; have r1 := box_there hb5 hs q1; have r2 := box_there hb5 hs q2; have hb6 := below_drew hb hb5; clear hb5))
    all_goals
      go_wp2
      go_ret
      exact ⟨rfl, hb6⟩
  · obtain ⟨b1, b2⟩ := join_bad s a f c
    have k3 : (joinE a f != 0) = true := by rw [b1]; rfl
    have k4 : (joinE a f == 2) = true := by rw [b1]; rfl
    have k5 : (joinV s a f == 0) = true := by rw [b2]; rfl
    clear b1 b2 c
    go_enter Tryd.func6, Tryd.ntmps6
    go_wp2_with fail
    refine (split_calls _ _ hx).mono ?_
    rintro e w1 ⟨rfl, hb1⟩
    obtain ⟨q0, q1, q2⟩ := box_kept hb1
    have hs : w.heap.size < w1.heap.size := Nat.lt_of_lt_of_le (by simp) hb1.size
    have hb : Below w.heap.size w w1 := below_trans (below_alloc _ _) hb1
    replace hT := hT.kept hb
    clear hb1
    go_wp2_with fail
    refine (join_calls _ _ _ _ fu).mono ?_
    rintro e w2 ⟨rfl, hb1⟩
    obtain ⟨hc, _⟩ := bcell hb1
    rw [← hc _ _ hs] at q0 q1 q2
    clear hc hs
    replace hT := hT.kept hb1
    replace hb := below_trans hb hb1
    clear hb1
    go_wp2_with fail
    refine (join_calls _ _ _ _ hf).mono ?_
    rintro e w3 ⟨rfl, hb1⟩
    clear q0 q1 q2
    replace hT := hT.kept hb1
    replace hb := below_trans hb hb1
    clear hb1
    go_wp2_with fail
    refine (lives_calls _ hT).mono ?_
    rintro e w4 ⟨rfl, hb1⟩
    replace hb := below_trans hb hb1
    clear hb1 hT
    go_wp2_with fail
    go_ret
    exact ⟨rfl, hb⟩
end Go.Proofs.YtoamnimepkodeaaDoor

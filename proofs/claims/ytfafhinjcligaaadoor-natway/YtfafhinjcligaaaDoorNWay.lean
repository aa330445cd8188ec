/- The walk of the statement NatWay. -/
import Derived.Test.YtfafhinjcligaaaDoorNWay1
import Derived.Test.YtfafhinjcligaaaDoorNWay2
import Derived.Test.YtfafhinjcligaaaDoorNWay3
import Derived.Test.YtfafhinjcligaaaDoorNWay4
namespace Go.Proofs.YtfafhinjcligaaaDoor
open Go.RowKit

theorem way_p1 (u v : Nat) : (addR u v = (u + v, 0) ∧ subR (u + v) v = (u, 0) ∧ fitR u = (u, 0)) ∨ addR u v = (0, 3) := by
  cases h1 : (greatB u || greatB v) with
  | true => exact Or.inr (addR_yes h1)
  | false =>
    cases h2 : greatB (u + v) with
    | true => exact Or.inr (by rw [addR_no h1, fitR_yes h2])
    | false =>
      have h3 : greatB v = false := by rw [Bool.or_eq_false_iff] at h1; exact h1.2
      have h4 : greatB u = false := by rw [Bool.or_eq_false_iff] at h1; exact h1.1
      exact Or.inl ⟨by rw [addR_no h1, fitR_no h2], by rw [subR_no (by rw [h2, h3]; rfl) (by omega), Nat.add_sub_cancel], fitR_no h4⟩
theorem way_p2 (u v : Nat) : (divE u v = 0 ∧ divQ u v = u / v ∧ divM u v = u % v ∧ fitR u = (u, 0) ∧ mulR (u / v) v = (u / v * v, 0) ∧ addR (u / v * v) (u % v) = (u, 0) ∧ (greatB (u % v) || greatB v) = false ∧ cmpN (u % v) v = -1) ∨ (divE u v == 0) = false := by
  cases h1 : (greatB u || greatB v) with
  | true => exact Or.inr (by rw [(div_yes h1).1]; rfl)
  | false =>
    by_cases h0 : v = 0
    · exact Or.inr (by rw [(div_zero h1 h0).1]; rfl)
    · have h3 : greatB v = false := by rw [Bool.or_eq_false_iff] at h1; exact h1.2
      have h4 : greatB u = false := by rw [Bool.or_eq_false_iff] at h1; exact h1.1
      have hq := great_mono (Nat.div_le_self u v) h4
      have hqv := great_mono (Nat.div_mul_le_self u v) h4
      have hr := great_mono (Nat.mod_le u v) h4
      have hs : u / v * v + u % v = u := by rw [Nat.mul_comm]; exact Nat.div_add_mod u v
      obtain ⟨e1, e2, e3⟩ := div_no h1 h0
      exact Or.inl ⟨e1, e2, e3, fitR_no h4, by rw [mulR_no (by rw [hq, h3]; rfl), fitR_no hqv], by rw [addR_no (by rw [hqv, hr]; rfl), hs, fitR_no h4], by rw [hr, h3]; rfl, by unfold cmpN; rw [if_pos (Nat.mod_lt u (by omega))]⟩
theorem way_p3 (u : Nat) (i : Int) : (∃ le : Int, shlR u i = (0, le) ∧ (le = 2 ∨ le = 3)) ∨ (∃ j : Nat, i = (j : Int) ∧ shlR u i = (u * 2 ^ j, 0) ∧ fitR u = (u, 0) ∧ greatB u = false ∧ greatB (u * 2 ^ j) = false) := by
  cases hg : greatB u with
  | true => exact Or.inl ⟨3, shlR_great hg, Or.inr rfl⟩
  | false =>
    by_cases hi : i < 0
    · exact Or.inl ⟨2, shlR_neg hg hi, Or.inl rfl⟩
    · obtain ⟨j, rfl⟩ := Int.eq_ofNat_of_zero_le (show 0 ≤ i by omega)
      by_cases h0 : u = 0
      · refine Or.inr ⟨j, rfl, ?_, fitR_no hg, rfl, ?_⟩
        · rw [shlR_zero hg (by omega) h0, h0, Nat.zero_mul]
        · rw [h0, Nat.zero_mul]; exact great_zero
      · by_cases hc : 65536 - (blen u : Int) < (j : Int)
        · exact Or.inl ⟨3, shlR_many hg (by omega) h0 hc, Or.inr rfl⟩
        · refine Or.inr ⟨j, rfl, ?_, fitR_no hg, rfl, ?_⟩
          · rw [shlR_fit hg (by omega) h0 (by omega), Int.toNat_natCast]
          · rw [great_not, blen_mul _ _ h0]; omega
theorem way_p4 (u j : Nat) (h : greatB (u * 2 ^ j) = false) : shrQ (u * 2 ^ j) (j : Int) = u ∧ shrL (u * 2 ^ j) (j : Int) = false ∧ shrE (u * 2 ^ j) (j : Int) = 0 := by
  obtain ⟨e1, e2, e3⟩ := shr_fit (u := u * 2 ^ j) (j := j) h
  refine ⟨?_, ?_, e1⟩
  · rw [e2, Nat.mul_div_cancel _ (Nat.pow_pos (by decide))]
  · rw [e3]; unfold lostB; simp
theorem way_p5 (u j : Nat) (hu : greatB u = false) (h : greatB (u * 2 ^ j) = false) : powR 2 (j : Int) = (0, 3) ∨ (powR 2 (j : Int) = (2 ^ j, 0) ∧ mulR u (2 ^ j) = (u * 2 ^ j, 0)) := by
  have h2 : greatB 2 = false := (great_not 2).2 (by have := (blen_le 2 2).2 (by decide); omega)
  rw [powR_fit h2]
  cases hp : greatB (2 ^ j) with
  | true => exact Or.inl (fitR_yes hp)
  | false => exact Or.inr ⟨fitR_no hp, by rw [mulR_no (by rw [hu, hp]; rfl), fitR_no h]⟩

theorem natWay_walk (a : Option Addr) (len cap : Nat) (xs : List Int) (b : Option Addr) (len' cap' : Nat) (ys : List Int) (i : Int) (w : World) (hA : IsW w a len cap xs) (hm : len ≤ 17592186044416) (hB : IsW w b len' cap' ys) (hm' : len' ≤ 17592186044416) (hi : -9223372036854775808 ≤ i ∧ i ≤ 9223372036854775807) (_hT : Tab w) (hP : TabP w) :
    Calls Tryd.prog 5 #[.slice a len cap, .slice b len' cap', .int .i64 i] w fun e w' => e = .returned (.bool true) ∧ Below w.heap.size w w' := by
  rcases way_p1 (val xs) (val ys) with ⟨p1, p2, p3⟩ | p1
  · rcases way_p2 (val xs) (val ys) with ⟨q1, q2, q3, q4, q5, q6, q7, q8⟩ | q1
    · rcases way_p3 (val xs) i with ⟨le, r1, r2⟩ | ⟨j, rfl, r1, r2, r3, r4⟩
      · exact way_ok_ok_fail a len cap xs b len' cap' ys i w hA hm hB hm' hi hP p1 p2 p3 rfl rfl q2 q3 q1 rfl q5 q6 q7 q8 r1 r2 rfl
      · by_cases hbig : (70000 : Int) < (j : Int)
        · exact way_ok_ok_big a len cap xs b len' cap' ys _ w hA hm hB hm' hi hP p1 p2 p3 rfl rfl q2 q3 q1 rfl q5 q6 q7 q8 r1 rfl hbig
        · obtain ⟨s1, s2, s3⟩ := way_p4 _ _ r4
          rcases way_p5 _ _ r3 r4 with t1 | ⟨t1, t2⟩
          · exact way_ok_ok_many a len cap xs b len' cap' ys _ w hA hm hB hm' hi hP p1 p2 p3 rfl rfl q2 q3 q1 rfl q5 q6 q7 q8 r1 rfl (by omega) (by omega) s1 s2 s3 t1
          · exact way_ok_ok_fine a len cap xs b len' cap' ys _ w hA hm hB hm' hi hP p1 p2 p3 rfl rfl q2 q3 q1 rfl q5 q6 q7 q8 r1 rfl (by omega) (by omega) s1 s2 s3 t1 t2
    · rcases way_p3 (val xs) i with ⟨le, r1, r2⟩ | ⟨j, rfl, r1, r2, r3, r4⟩
      · exact way_ok_no_fail a len cap xs b len' cap' ys i w hA hm hB hm' hi hP p1 p2 p3 rfl rfl rfl rfl rfl q1 r1 r2 rfl
      · by_cases hbig : (70000 : Int) < (j : Int)
        · exact way_ok_no_big a len cap xs b len' cap' ys _ w hA hm hB hm' hi hP p1 p2 p3 rfl rfl rfl rfl rfl q1 r1 rfl hbig
        · obtain ⟨s1, s2, s3⟩ := way_p4 _ _ r4
          rcases way_p5 _ _ r3 r4 with t1 | ⟨t1, t2⟩
          · exact way_ok_no_many a len cap xs b len' cap' ys _ w hA hm hB hm' hi hP p1 p2 p3 rfl rfl rfl rfl rfl q1 r1 rfl (by omega) (by omega) s1 s2 s3 t1
          · exact way_ok_no_fine a len cap xs b len' cap' ys _ w hA hm hB hm' hi hP p1 p2 p3 rfl rfl rfl rfl rfl q1 r1 rfl (by omega) (by omega) s1 s2 s3 t1 t2
  · rcases way_p2 (val xs) (val ys) with ⟨q1, q2, q3, q4, q5, q6, q7, q8⟩ | q1
    · rcases way_p3 (val xs) i with ⟨le, r1, r2⟩ | ⟨j, rfl, r1, r2, r3, r4⟩
      · exact way_no_ok_fail a len cap xs b len' cap' ys i w hA hm hB hm' hi hP p1 rfl q4 q2 q3 q1 rfl q5 q6 q7 q8 r1 r2 rfl
      · by_cases hbig : (70000 : Int) < (j : Int)
        · exact way_no_ok_big a len cap xs b len' cap' ys _ w hA hm hB hm' hi hP p1 rfl q4 q2 q3 q1 rfl q5 q6 q7 q8 r1 rfl hbig
        · obtain ⟨s1, s2, s3⟩ := way_p4 _ _ r4
          rcases way_p5 _ _ r3 r4 with t1 | ⟨t1, t2⟩
          · exact way_no_ok_many a len cap xs b len' cap' ys _ w hA hm hB hm' hi hP p1 rfl q4 q2 q3 q1 rfl q5 q6 q7 q8 r1 rfl (by omega) (by omega) s1 s2 s3 t1
          · exact way_no_ok_fine a len cap xs b len' cap' ys _ w hA hm hB hm' hi hP p1 rfl q4 q2 q3 q1 rfl q5 q6 q7 q8 r1 rfl (by omega) (by omega) s1 s2 s3 t1 t2
    · rcases way_p3 (val xs) i with ⟨le, r1, r2⟩ | ⟨j, rfl, r1, r2, r3, r4⟩
      · exact way_no_no_fail a len cap xs b len' cap' ys i w hA hm hB hm' hi hP p1 rfl rfl rfl rfl rfl q1 r1 r2 rfl
      · by_cases hbig : (70000 : Int) < (j : Int)
        · exact way_no_no_big a len cap xs b len' cap' ys _ w hA hm hB hm' hi hP p1 rfl r2 rfl rfl rfl q1 r1 rfl hbig
        · obtain ⟨s1, s2, s3⟩ := way_p4 _ _ r4
          rcases way_p5 _ _ r3 r4 with t1 | ⟨t1, t2⟩
          · exact way_no_no_many a len cap xs b len' cap' ys _ w hA hm hB hm' hi hP p1 rfl r2 rfl rfl rfl q1 r1 rfl (by omega) (by omega) s1 s2 s3 t1
          · exact way_no_no_fine a len cap xs b len' cap' ys _ w hA hm hB hm' hi hP p1 rfl r2 rfl rfl rfl q1 r1 rfl (by omega) (by omega) s1 s2 s3 t1 t2
end Go.Proofs.YtfafhinjcligaaaDoor

/- What a pair is exactly, in least units; 'finite' and 'within' of the statements on pairs. The walk of the statement on the sum of many floats as a pair. -/
import Derived.Test.YtjapgogiaklodaaGreatDoorEVa
import Derived.Test.YtjapgogiaklodaaGreatDoorEUd
import Derived.Test.YtjapgogiaklodaaGreatDoorDF1T
import Derived.Test.YtjapgogiaklodaaGreatDoorRD14
import Derived.Test.YtjapgogiaklodaaGreatDoorRD4
import Derived.Test.YtjapgogiaklodaaGreatDoorRD19
import Derived.Test.YtjapgogiaklodaaGreatDoorTME

namespace Go.Proofs.YtjapgogiaklodaaGreatDoor
open Go.RowKit

theorem dyU_neg (v : Int) : formD (!(dyU v).1) (dyU v).2.1 (dyU v).2.2 = dyU (-v) := by
  rw [neg_can (dyU_can v)]
  refine dyU_of ?_ (dyU_low v) (by rw [vI_neg, dyU_vI])
  rw [← neg_can (dyU_can v)]; exact form_can _ _ _
theorem dyU_abs (v : Int) : dyU (v.natAbs : Int) = (false, (dyU v).2.1, (dyU v).2.2) := by
  unfold dyU
  rw [Int.natAbs_natCast, decide_eq_false (by omega)]
  by_cases h0 : v.natAbs = 0
  · rw [h0, form_zero, form_zero]
  · rw [form_pos _ h0, form_pos _ h0]
theorem uless_calls (u v : Int) (K : Nat) (hu : u.natAbs < 2 ^ K) (hv : v.natAbs < 2 ^ K) (hK : K ≤ 60000) (a b : Option Addr) (n c m d : Nat) (W : World) (p : IsW W a n c (wordsOf (dyU u).2.1)) (q : IsW W b m d (wordsOf (dyU v).2.1)) :
    Calls Tryz.prog 44 #[dyV (dyU u).1 a n c (dyU u).2.2, dyV (dyU v).1 b m d (dyU v).2.2] W fun r w' => ∃ v', r = .returned v' ∧ DyQ W.heap.size w' v' (dyU (u - v)) ∧ Below W.heap.size W w' := by
  obtain ⟨s1, s2, s3⟩ := dyU_sz u K hu
  obtain ⟨t1, t2, t3⟩ := dyU_sz v K hv
  have n1 : n ≤ 1024 := by rw [p.1]; exact (words_len2 _ _).2 (by omega)
  have n2 : m ≤ 1024 := by rw [q.1]; exact (words_len2 _ _).2 (by omega)
  have := qLess_calls (dyU u).1 a n c (wordsOf (dyU u).2.1) (dyU u).2.2 (dyU v).1 b m d (wordsOf (dyU v).2.1) (dyU v).2.2 W p (by omega) q (by omega) (by omega) (by omega) (by rw [val_words]; omega) (by rw [val_words]; omega)
  rw [val_words, val_words, form_of_can (dyU_can u), dyU_neg, dyU_sum, ← Int.sub_eq_add_neg] at this
  exact this
theorem mul_int (u : Int) (n : Nat) : mulD (dyU u) (intD (n : Int)) = dyU (u * (n : Int)) := by
  have lo : (0 : Int) ≤ (intD (n : Int)).2.2 := form_lo _ _ _ _ (Int.le_refl _) (Int.le_refl _)
  have h1 := mul_low (dyU u) (intD (n : Int)) (-1074) 0 (by decide) (dyU_low u) lo
  have h2 := vI_mul (dyU u) (intD (n : Int)) (-1074) 0 (dyU_low u) lo
  rw [Int.add_zero] at h1 h2
  refine dyU_of (form_can _ _ _) h1 ?_
  rw [h2, dyU_vI]
  congr 1
  unfold intD
  rw [vI_form _ _ _ _ (Int.le_refl _), decide_eq_false (by omega)]
  simp [sI]
theorem utimesn_calls (u : Int) (k K : Nat) (hu : u.natAbs < 2 ^ K) (hk : k ≤ 100000) (hK : K ≤ 60000) (a b : Option Addr) (n c m d : Nat) (W : World) (p : IsW W a n c (wordsOf (dyU u).2.1)) (q : IsW W b m d (wordsOf (intD (k : Int)).2.1)) :
    Calls Tryz.prog 13 #[dyV (dyU u).1 a n c (dyU u).2.2, dyV (intD (k : Int)).1 b m d (intD (k : Int)).2.2] W fun r w' => ∃ v', r = .returned v' ∧ DyQ W.heap.size w' v' (dyU (u * (k : Int))) ∧ Below W.heap.size W w' := by
  obtain ⟨s1, s2, s3⟩ := dyU_sz u K hu
  have t1 : blen (intD (k : Int)).2.1 ≤ 17 := Nat.le_trans (blen_mono (form_amount_le _ _ _)) ((blen_le _ 17).2 (by rw [Int.natAbs_natCast]; omega))
  have t2 : (0 : Int) ≤ (intD (k : Int)).2.2 ∧ (intD (k : Int)).2.2 ≤ 17 := by
    refine ⟨form_lo _ _ _ _ (Int.le_refl _) (Int.le_refl _), ?_⟩
    unfold intD
    by_cases h0 : (k : Int).natAbs = 0
    · rw [h0, form_zero]; decide
    · rw [form_pos _ h0]
      have h1 := tz_le_blen (k : Int).natAbs
      have h2 : blen (k : Int).natAbs ≤ 17 := (blen_le _ 17).2 (by rw [Int.natAbs_natCast]; omega)
      show (0 : Int) + (tz (k : Int).natAbs : Int) ≤ 17
      omega
  have n1 : n ≤ 1024 := by rw [p.1]; exact (words_len2 _ _).2 (by omega)
  have n2 : m ≤ 1024 := by rw [q.1]; exact (words_len2 _ _).2 (by omega)
  have := qTimes_calls (dyU u).1 a n c (wordsOf (dyU u).2.1) (dyU u).2.2 (intD (k : Int)).1 b m d (wordsOf (intD (k : Int)).2.1) (intD (k : Int)).2.2 W p (by omega) q (by omega) (by omega) (by omega) (by rw [val_words]; omega) (by rw [val_words]; omega)
  rw [val_words, val_words, form_of_can (dyU_can u), form_of_can (show CanD (intD (k : Int)) from form_can _ _ _), mul_int] at this
  exact this
theorem vI_abs (p : Bool × Nat × Int) (E : Int) (h : E ≤ p.2.2) : vI (formD false p.2.1 p.2.2) E = ((vI p E).natAbs : Int) := by
  rw [vI_form _ _ _ _ h]
  unfold vI sI
  generalize p.2.1 * 2 ^ (p.2.2 - E).toNat = m
  cases p.1 <;> simp
theorem within_le (D M : Int) (k : Nat) (h : D.natAbs * 2 ^ k ≤ M.natAbs) : cmpD (formD false (dyU D).2.1 (dyU D).2.2) (formD false (formD (dyU M).1 (dyU M).2.1 ((dyU M).2.2 + -(k : Int))).2.1 (formD (dyU M).1 (dyU M).2.1 ((dyU M).2.2 + -(k : Int))).2.2) ≤ 0 := by
  obtain ⟨T, hT⟩ : ∃ T, T = formD (dyU M).1 (dyU M).2.1 ((dyU M).2.2 + -(k : Int)) := ⟨_, rfl⟩
  obtain ⟨J, hJ⟩ : ∃ J : Nat, J = 1074 + k := ⟨_, rfl⟩
  have lD := dyU_low D
  have lM := dyU_low M
  have lT : -(J : Int) ≤ T.2.2 := by rw [hT]; exact form_lo _ _ _ _ (by omega) (by omega)
  have vT : vI T (-(J : Int)) = M := by
    rw [hT, vI_form _ _ _ _ (by omega), show ((dyU M).2.2 + -(k : Int) - -(J : Int)).toNat = ((dyU M).2.2 - -1074).toNat by omega]
    exact dyU_vI M
  have vD : vI (dyU D) (-(J : Int)) = D * ((2 ^ k : Nat) : Int) := by
    rw [show -(J : Int) = -1074 - (k : Int) by omega, vI_down _ _ _ lD, dyU_vI]
  rw [← hT, vI_cmp _ _ J (form_lo _ _ _ _ (by omega) (by omega)) (form_lo _ _ _ _ (by omega) lT), vI_abs _ _ (by omega), vI_abs _ _ lT, vT, vD, Int.natAbs_mul, Int.natAbs_natCast]
  unfold Lib.compareInt
  generalize D.natAbs * 2 ^ k = x at *
  generalize M.natAbs = y at *
  split
  · decide
  · split
    · omega
    · decide
theorem isW_at {w : World} {a : Option Addr} {len cap : Nat} {xs : List Int} (h : IsW w a len cap xs) (p : Addr) (u : Value) (hp : ∀ b off i, a = some ⟨b, off, none⟩ → i < len → p.block ≠ b) : IsW (w.setCell p u) a len cap xs := by
  refine ⟨h.1, h.2.1, h.2.2.1, fun i hi => ?_⟩
  obtain ⟨b, off, e1, e2, e3⟩ := h.2.2.2 i hi
  refine ⟨b, off, e1, by rw [World.size_setCell]; exact e2, ?_⟩
  exact (World.cell?_setCell_other (w := w) (a := p) (b := ⟨b, off + i, none⟩) (v := u) (fun e => hp b off i e1 hi (by rw [e]))).trans e3


namespace Fp
open EP
theorem bits_exp (x : Nat) (hx : x < 18446744073709551616) (fx : EP.finB x = true) : ∃ e : Int, bits .and .u64 ((x : Int) / 4503599627370496) 2047 = e ∧ 0 ≤ e ∧ e < 2047 := by
  have hU : U (x : Int) := by unfold U; omega
  refine ⟨_, and_exp (x : Int) hU, (expV_bd _).1, ?_⟩
  have hf : Go.Proofs.YtjapgogiaklodaaGreatDoor.finB (x : Int) = true := (fin_eq x).trans fx
  have h2 := (expV_bd (x : Int)).2
  unfold Go.Proofs.YtjapgogiaklodaaGreatDoor.finB at hf
  unfold expV at *
  simp at hf
  omega
end Fp
end Go.Proofs.YtjapgogiaklodaaGreatDoor

namespace Go.Proofs.YtjapgogiaklodaaGreatDoor
open Go.RowKit

attribute [local go_sem ↓] Go.wp_at_zero Go.wp_at_succ
attribute [local go_sem] Fp.ran_store

namespace Fp
open EP
theorem getD_memV (xs : List Nat) (i : Nat) (h : i < xs.length) : xs.getD i 0 ∈ xs := by
  have e : xs.getD i 0 = xs[i] := by simp [List.getD, h]
  rw [e]; exact List.getElem_mem h
theorem tot_leV (M : Nat) : ∀ xs : List Nat, (∀ x ∈ xs, amt x ≤ M) → tot xs ≤ xs.length * M
  | [], _ => by simp [tot]
  | x :: l, h => by
    have h1 := tot_leV M l (fun y hy => h y (List.mem_cons_of_mem _ hy))
    have h2 := h x (List.mem_cons_self ..)
    simp only [tot, List.length_cons]
    rw [Nat.add_mul, Nat.one_mul]; omega
theorem tot_takeS (xs : List Nat) (k : Nat) (h : k < xs.length) : tot (xs.take (k + 1)) = tot (xs.take k) + amt (xs.getD k 0) := by
  have e : xs.take (k + 1) = xs.take k ++ [xs.getD k 0] := by rw [List.take_succ_eq_append_getElem h]; simp [List.getD, h]
  rw [e, tot_snoc]
theorem check_fin {xs : List Nat} (h : checkE xs [] = 0) : xs.length ≤ 1024 ∧ ∀ x ∈ xs, EP.finB x = true ∧ amt x ≤ 2 ^ 1374 := by
  unfold checkE at h
  by_cases hl : 1024 < xs.length
  · rw [if_pos hl] at h; exact absurd h (by decide)
  · rw [if_neg hl] at h
    split at h
    · rename_i q
      refine ⟨by omega, fun x hx => ?_⟩
      have ho := (Bool.and_eq_true_iff.1 q).1
      have := List.all_eq_true.1 ho x hx
      have hp := right_PB x 0 this
      exact ⟨hp.1, hp.2.2.1⟩
    · exact absurd h (by decide)
/-- The sum of many floats as a pair: what is known of it, all at once. -/
theorem sum_all {xs : List Nat} (h : checkE xs [] = 0) (K : Nat) (hK : 1500 ≤ K) :
    ∃ p q, foldS xs 0 0 = some (p, q) ∧ p < 18446744073709551616 ∧ q < 18446744073709551616 ∧ bd p K ∧ bd q K ∧ G (V p + V q) = V p ∧ (V p + V q).natAbs < 2 ^ K ∧ (V p + V q - sv xs).natAbs < 2 ^ K ∧
      (V p + V q - sv xs).natAbs * 2 ^ 101 ≤ ((tot xs : Int) * (xs.length : Int)).natAbs ∧ ((tot xs : Int) * (xs.length : Int)).natAbs < 2 ^ K ∧ tot xs < 2 ^ K := by
  obtain ⟨hl, ha⟩ := check_fin h
  obtain ⟨m, hm⟩ : ∃ m, m = 1374 := ⟨_, rfl⟩
  rw [← hm] at ha
  have ht : tot xs ≤ 1024 * 2 ^ m := Nat.le_trans (tot_leV _ xs (fun x hx => (ha x hx).2)) (Nat.mul_le_mul_right _ hl)
  have e12 : 2 ^ (m + 12) = 4096 * 2 ^ m := by rw [Nat.pow_add, Nat.mul_comm]
  have e40 : 2 ^ (m + 40) = 1099511627776 * 2 ^ m := by rw [Nat.pow_add, Nat.mul_comm]
  have h40 : 2 ^ (m + 40) < 2 ^ K := Nat.pow_lt_pow_right (by decide) (by omega)
  have hp := Nat.two_pow_pos m
  obtain ⟨p, q, e, fp, fq, wp, wq, hr, ho⟩ := foldS_near (1024 * 2 ^ m) (m + 12) (by omega) (by omega) xs 0 0 0 0 0 (fun x hx => (ha x hx).1) (by decide) (by decide) (by decide) (by decide) (by omega) (by omega) (by rw [V_zero]; exact G_zero) (by decide) (by unfold offB; rw [V_zero]; decide)
  rw [Int.zero_add, Nat.zero_add, Nat.zero_add] at ho
  have hS := sv_abs xs
  have hP := off_size ho hS hl
  have hG := G_le (V p + V q)
  rw [hr] at hG
  have hmul : ((tot xs : Int) * (xs.length : Int)).natAbs = xs.length * tot xs := by rw [Int.natAbs_mul, Int.natAbs_natCast, Int.natAbs_natCast, Nat.mul_comm]
  have hle : xs.length * tot xs ≤ 1024 * tot xs := Nat.mul_le_mul_right _ hl
  unfold offB at ho
  rw [hmul]
  refine ⟨p, q, e, wp, wq, ⟨fp, by omega⟩, ⟨fq, by omega⟩, hr, by omega, by omega, ?_, by omega, by omega⟩
  rw [show (2 : Nat) ^ 101 = 2535301200456458802993406410752 by decide]
  omega
end Fp

theorem AtDy.one {w : World} {b : Nat} {p : Bool × Nat × Int} {a : Option Addr} {n c : Nat} (h : AtDy w b p a n c) {r : Addr} (hne : r.block ≠ b) (v : Value) : AtDy (w.setCell r v) b p a n c := by
  obtain ⟨h0, h1, h2, h3, h4, h5⟩ := h
  have key : ∀ (i : Nat) (x : Value), w.cell? ⟨b, i, none⟩ = some x → (w.setCell r v).cell? ⟨b, i, none⟩ = some x := fun i x q => (World.cell?_setCell_other w _ _ _ (fun e => hne (by rw [e]))).trans q
  exact ⟨key _ _ h0, key _ _ h1, key _ _ h2, by rw [World.frozen?_setCell]; exact h3, by rw [World.frozen?_setCell]; exact h4, by rw [World.frozen?_setCell]; exact h5⟩
theorem cell_one {w : World} {b i : Nat} {x : Value} (h : w.cell? ⟨b, i, none⟩ = some x) {r : Addr} (hne : r.block ≠ b) (v : Value) : (w.setCell r v).cell? ⟨b, i, none⟩ = some x :=
  (World.cell?_setCell_other w _ _ _ (fun e => hne (by rw [e]))).trans h
/-- What stands between the rounds. -/
def InvA (w wr : World) (xs : List Nat) (B B5 B6 s t k : Nat) (a5 : Option Addr) (n5 c5 : Nat) (a6 : Option Addr) (n6 c6 : Nat) : Prop :=
  (wr.cell? ⟨B, 0, none⟩ = some (.float .f64 s) ∧ wr.cell? ⟨B, 1, none⟩ = some (.float .f64 t)) ∧ AtDy wr B5 (dyU (Fp.sv (xs.take k))) a5 n5 c5 ∧ AtDy wr B6 (dyU (Fp.tot (xs.take k) : Int)) a6 n6 c6 ∧
    OwnW (B6 + 1) wr a5 n5 c5 (wordsOf (dyU (Fp.sv (xs.take k))).2.1) ∧ OwnW (B6 + 1) wr a6 n6 c6 (wordsOf (dyU (Fp.tot (xs.take k) : Int)).2.1) ∧ B6 + 1 ≤ wr.heap.size ∧ Below w.heap.size w wr

end Go.Proofs.YtjapgogiaklodaaGreatDoor

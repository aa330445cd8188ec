/- The walks of reckoned, of, size, top, sign, shifted. -/
import Derived.Test.YticjhheceoeilaaDoorDMade
namespace Go.Proofs.YticjhheceoeilaaDoor
open Go.RowKit

set_option maxRecDepth 100000 in
set_option maxHeartbeats 2000000 in
theorem reckoned_great (s : Bool) (a : Option Addr) (len cap : Nat) (e : Int) (w : World) :
    Calls Tryd.prog 73 #[.bool s, .slice a len cap, .int .i64 e, .int .i64 3] w fun r w' => r = .returned (numV false none 0 0 0 true) ∧ Below w.heap.size w w' := by
  go_enter Tryd.func73, Tryd.ntmps73
  go_wp2_with fail
  refine bodyPost_ret (v := numV false none 0 0 0 true) (by simp [results, Tryd.results73, go_sem]) rfl ⟨rfl, ?_⟩
  repeat (first | exact Below.refl _ _ | refine Below.alloc ?_ (by simp; try omega) _ | refine Below.setCell ?_ (by simp; try omega) _)

set_option maxRecDepth 100000 in
set_option maxHeartbeats 2000000 in
theorem reckoned_ok (s : Bool) (a : Option Addr) (len cap : Nat) (xs : List Int) (e : Int) (w : World) (h : IsW w a len cap xs) (hm : len ≤ 17592186044416) (hT : Tab w) (hg : greatB (val xs) = false) (he : -4611686018427387904 ≤ e ∧ e ≤ 4611686018427387904) :
    Calls Tryd.prog 73 #[.bool s, .slice a len cap, .int .i64 e, .int .i64 0] w fun r w' => ∃ v, r = .returned v ∧ NumAt w.heap.size w' v (formD s (val xs) e) ∧ Below w.heap.size w w' := by
  have hb0 := below_one w (.cells #[.bool false, .slice none 0 0, .int .i64 0, .bool false] 52)
  have CC : Hid _ := canonical_calls s a len cap xs e _ (h.keep hb0) hm (hT.kept hb0)
  have HCG : Hid (canG s (val xs) e = formD s (val xs) e) := canG_no hg
  have HE0 : Hid _ := he
  clear hg he
  go_enter Tryd.func73, Tryd.ntmps73
  go_wp2_with fail
  refine Calls.mono CC.out ?_
  rintro r w1 ⟨ao, n, c, e', rfl, HE, HN, HZ, hn, hO, hbC⟩
  obtain rfl := HE.out HE0.out.1 HE0.out.2
  rw [HCG.out] at hO HN ⊢
  obtain ⟨m0, m1, m2, m3, f0, f1, f2, f3⟩ := zero_num (r := w.heap.size) hbC rfl
  have hb1 := nbelow_trans hb0 hbC
  clear HE CC
  go_wp2_with fail
  refine bodyPost_ret (v := numV (formD s (val xs) e).1 ao n c (formD s (val xs) e).2.2 false) (by simp [results, Tryd.results73, go_sem, m0, m1, m2, m3]) rfl ⟨_, rfl, ⟨ao, n, c, rfl, HN, HZ, hn, ?_⟩, ?_⟩
  · exact ((((hO.far _ _ (by show w.heap.size < _; simp)).far _ _ (by show w.heap.size < _; simp)).far _ _ (by show w.heap.size < _; simp)).far _ _ (by show w.heap.size < _; simp)).low (by simp)
  · exact (((hb1.setCell (Nat.le_refl _) _).setCell (Nat.le_refl _) _).setCell (Nat.le_refl _) _).setCell (Nat.le_refl _) _

theorem reckoned_calls (s : Bool) (a : Option Addr) (len cap : Nat) (u : Nat) (e : Int) (w : World) (h : IsW w a len cap (wordsOf (fitR u).1)) (hm : len ≤ 17592186044416) (hT : Tab w) (he : -4611686018427387904 ≤ e ∧ e ≤ 4611686018427387904) (ho : greatB u = true → u % 2 = 1) :
    Calls Tryd.prog 73 #[.bool s, .slice a len cap, .int .i64 e, .int .i64 (fitR u).2] w fun r w' => ∃ v, r = .returned v ∧ NumR w.heap.size w' v (formD s u e) ∧ Below w.heap.size w w' := by
  cases hg : greatB u with
  | true =>
    have h1 := ho hg
    rw [fitR_yes hg, form_odd s h1]
    refine Calls.mono (reckoned_great s a len cap e w) ?_
    rintro r w' ⟨rfl, hb⟩
    exact ⟨_, rfl, Or.inr ⟨hg, rfl⟩, hb⟩
  | false =>
    rw [fitR_no hg] at h ⊢
    refine Calls.mono (reckoned_ok s a len cap _ e w h hm hT (by rw [val_words]; exact hg) he) ?_
    rw [val_words]
    rintro r w' ⟨v, rfl, hN, hb⟩
    exact ⟨v, rfl, Or.inl ⟨great_mono (form_amount_le _ _ _) hg, hN⟩, hb⟩

theorem of_eq (x : Nat) (w : World) (h1 : x ≤ 18446744073709551615) :
    Calls Tryd.prog 40 #[.int .u64 (x : Int)] w fun e w' => ∃ (ao : Option Addr) (n c : Nat), e = .returned (.slice ao n c) ∧ Hid (n = (wordsOf x).length) ∧ n ≤ 1024 ∧ OwnW w.heap.size w' ao n c (wordsOf x) ∧ Below w.heap.size w w' := by
  refine Calls.mono (of_calls (x : Int) w (by omega) (by omega)) ?_
  rw [Int.toNat_natCast]
  rintro e w' ⟨v, rfl, hA, hb⟩
  have hl : (wordsOf x).length ≤ 1024 := Nat.le_trans ((words_len 1 x).2 (by omega)) (by decide)
  obtain ⟨ao, n, c, rfl, h1, h2, h3⟩ := hA.open hl
  exact ⟨ao, n, c, rfl, h1, h2, h3, hb⟩

set_option maxHeartbeats 400000 in
theorem size_calls (s : Bool) (a : Option Addr) (n c : Nat) (m : Nat) (e : Int) (g : Bool) (w : World) (h : IsW w a n c (wordsOf m)) (hn : n ≤ 1024) (hg : greatB m = false) :
    Calls Tryd.prog 61 #[numV s a n c e g] w fun r w' => r = .returned (.int .i64 (blen m : Int)) ∧ Below w.heap.size w w' := by
  have hb0 := below_one w (.cells #[.bool s, .slice a n c, .int .i64 e, .bool g] 52)
  have LC : Hid _ := len_calls a n c (wordsOf m) _ (h.keep hb0) (by omega)
  rw [val_words] at LC
  have HG : Hid (greatB m = false) := hg
  clear hg
  go_enter Tryd.func61, Tryd.ntmps61
  go_wp2_with fail
  refine Calls.mono LC.out ?_
  rintro r w1 ⟨_, hr, hb1⟩
  obtain rfl := hr HG.out
  clear hr
  go_wp2_with fail
  go_ret
  exact ⟨rfl, nbelow_trans hb0 hb1⟩

set_option maxRecDepth 100000 in
set_option maxHeartbeats 1000000 in
theorem top_calls (s : Bool) (a : Option Addr) (n c : Nat) (m : Nat) (e : Int) (g : Bool) (w : World) (h : IsW w a n c (wordsOf m)) (hn : n ≤ 1024) (hg : greatB m = false) (he : -4611686018427387904 ≤ e ∧ e ≤ 4611686018427387904) :
    Calls Tryd.prog 83 #[numV s a n c e g] w fun r w' => r = .returned (.int .i64 (e + (blen m : Int) - 1)) ∧ Below w.heap.size w w' := by
  have hbl : blen m ≤ 65536 := (great_not _).1 hg
  have HG : Hid (greatB m = false) := hg
  obtain ⟨he1, he2⟩ := he
  clear hg
  go_enter Tryd.func83, Tryd.ntmps83
  go_wp2_with fail
  go_region_held3 (fun w' => w'.cell? ⟨w.heap.size, 0, none⟩ = some (.bool s) ∧ w'.cell? ⟨w.heap.size, 1, none⟩ = some (.slice a n c) ∧ w'.cell? ⟨w.heap.size, 2, none⟩ = some (.int .i64 e) ∧ w'.cell? ⟨w.heap.size, 3, none⟩ = some (.bool g))
    (first | (go_keep; done) | ((refine ⟨?_, ?_, ?_, ?_⟩ <;> (refine dcarry_cell hbC ?_; go_simp)); done))
    ((go_at_call 61; refine (size_calls s a n c m e g _ (h.keep (by repeat (first | exact Below.refl _ _ | apply Below.drew | refine Below.alloc ?_ (by simp; try omega) _))) hn HG.out).mono ?_; rintro r w1 ⟨rfl, hbC⟩; have hbw1 : Below w.heap.size w w1 := nbelow_trans (by repeat (first | exact Below.refl _ _ | apply Below.drew | refine Below.alloc ?_ (by simp; try omega) _)) hbC))
  all_goals
    go_wp2_with fail
    go_ret
    exact ⟨nret_int (by rw [IntKind.wrap_i64, IntKind.wrap_i64]; omega), hbw1⟩

set_option maxHeartbeats 400000 in
theorem sign_calls (s : Bool) (a : Option Addr) (n c : Nat) (e : Int) (g : Bool) (w : World) :
    Calls Tryd.prog 53 #[numV s a n c e g] w fun r w' => r = .returned (.int .i64 (if n = 0 then 0 else if s = true then -1 else 1)) ∧ Below w.heap.size w w' := by
  by_cases h0 : n = 0
  · subst h0
    go_enter Tryd.func53, Tryd.ntmps53
    go_wp2_with fail
    refine Calls.mono (zero_calls _ _ _ _ _ _ _) ?_
    rintro r w1 ⟨rfl, rfl⟩
    go_wp2_with fail
    go_ret
    exact ⟨rfl, nbelow_trans (below_one _ _) (below_one _ _)⟩
  · have hn : ((n : Int) == 0) = false := by simp; omega
    rw [if_neg h0]
    cases s
    · go_enter Tryd.func53, Tryd.ntmps53
      go_wp2_with fail
      refine Calls.mono (zero_calls _ _ _ _ _ _ _) ?_
      rintro r w1 ⟨rfl, rfl⟩
      go_wp2_with fail
      go_ret
      exact ⟨rfl, nbelow_trans (below_one _ _) (below_one _ _)⟩
    · go_enter Tryd.func53, Tryd.ntmps53
      go_wp2_with fail
      refine Calls.mono (zero_calls _ _ _ _ _ _ _) ?_
      rintro r w1 ⟨rfl, rfl⟩
      go_wp2_with fail
      go_ret
      exact ⟨rfl, nbelow_trans (below_one _ _) (below_one _ _)⟩
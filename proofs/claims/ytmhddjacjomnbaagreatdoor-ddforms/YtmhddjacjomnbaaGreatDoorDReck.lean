/- The walks of reckoned, of, size, top, sign, shifted. -/
import Derived.Test.YtmhddjacjomnbaaGreatDoorDMade
namespace Go.Proofs.YtmhddjacjomnbaaGreatDoor
open Go.RowKit

set_option maxRecDepth 100000 in
set_option maxHeartbeats 2000000 in
theorem reckoned_great (s : Bool) (a : Option Addr) (len cap : Nat) (e : Int) (w : World) :
    Calls Tryz.prog 80 #[.bool s, .slice a len cap, .int .i64 e, .int .i64 3] w fun r w' => r = .returned (numV false none 0 0 0 true) ∧ Below w.heap.size w w' := by
  go_enter Tryz.func80, Tryz.ntmps80
  go_wp2_with fail
  refine bodyPost_ret (v := numV false none 0 0 0 true) (by simp [results, Tryz.results80, go_sem]) rfl ⟨rfl, ?_⟩
  repeat (first | exact Below.refl _ _ | refine Below.alloc ?_ (by simp; try omega) _ | refine Below.setCell ?_ (by simp; try omega) _)

set_option maxRecDepth 100000 in
set_option maxHeartbeats 2000000 in
theorem reckoned_ok (s : Bool) (a : Option Addr) (len cap : Nat) (xs : List Int) (e : Int) (w : World) (h : IsW w a len cap xs) (hm : len ≤ 17592186044416) (hT : Tab w) (hg : greatB (val xs) = false) (he : -4611686018427387904 ≤ e ∧ e ≤ 4611686018427387904) :
    Calls Tryz.prog 80 #[.bool s, .slice a len cap, .int .i64 e, .int .i64 0] w fun r w' => ∃ v, r = .returned v ∧ NumAt w.heap.size w' v (formD s (val xs) e) ∧ Below w.heap.size w w' := by
  have hb0 := below_one w (.cells #[.bool false, .slice none 0 0, .int .i64 0, .bool false] 58)
  have CC : Hid _ := canonical_calls s a len cap xs e _ (h.keep hb0) hm (hT.kept hb0)
  have HCG : Hid (canG s (val xs) e = formD s (val xs) e) := canG_no hg
  have HE0 : Hid _ := he
  clear hg he
  go_enter Tryz.func80, Tryz.ntmps80
  go_wp2_with fail
  refine Calls.mono CC.out ?_
  rintro r w1 ⟨ao, n, c, e', rfl, HE, HN, HZ, hn, hO, hbC⟩
  obtain rfl := HE.out HE0.out.1 HE0.out.2
  rw [HCG.out] at hO HN ⊢
  obtain ⟨m0, m1, m2, m3, f0, f1, f2, f3⟩ := zero_num (r := w.heap.size) hbC rfl
  have hb1 := nbelow_trans hb0 hbC
  clear HE CC
  go_wp2_with fail
  refine bodyPost_ret (v := numV (formD s (val xs) e).1 ao n c (formD s (val xs) e).2.2 false) (by simp [results, Tryz.results80, go_sem, m0, m1, m2, m3]) rfl ⟨_, rfl, ⟨ao, n, c, rfl, HN, HZ, hn, ?_⟩, ?_⟩
  · exact ((((hO.far _ _ (by show w.heap.size < _; simp)).far _ _ (by show w.heap.size < _; simp)).far _ _ (by show w.heap.size < _; simp)).far _ _ (by show w.heap.size < _; simp)).low (by simp)
  · exact (((hb1.setCell (Nat.le_refl _) _).setCell (Nat.le_refl _) _).setCell (Nat.le_refl _) _).setCell (Nat.le_refl _) _

theorem reckoned_calls (s : Bool) (a : Option Addr) (len cap : Nat) (u : Nat) (e : Int) (w : World) (h : IsW w a len cap (wordsOf (fitR u).1)) (hm : len ≤ 17592186044416) (hT : Tab w) (he : -4611686018427387904 ≤ e ∧ e ≤ 4611686018427387904) (ho : greatB u = true → u % 2 = 1) :
    Calls Tryz.prog 80 #[.bool s, .slice a len cap, .int .i64 e, .int .i64 (fitR u).2] w fun r w' => ∃ v, r = .returned v ∧ NumR w.heap.size w' v (formD s u e) ∧ Below w.heap.size w w' := by
  cases hg : greatB u with
  | true =>
    have h1 := ho hg
    rw [fitR_yes hg, form_odd s h1]
    refine Calls.mono (reckoned_great s a len cap e w) ?_
    rintro r w' ⟨rfl, hb⟩
    exact ⟨_, rfl, Or.inr ⟨hg, rfl⟩, hb⟩
  | false =>
    rw [fitR_no hg] at h ⊢
    refine Calls.mono (reckoned_ok s a len cap _ e w h hm hT (by rw [val_words]; exact hg) he) ?_
    rw [val_words]
    rintro r w' ⟨v, rfl, hN, hb⟩
    exact ⟨v, rfl, Or.inl ⟨great_mono (form_amount_le _ _ _) hg, hN⟩, hb⟩

theorem of_eq (x : Nat) (w : World) (h1 : x ≤ 18446744073709551615) :
    Calls Tryz.prog 27 #[.int .u64 (x : Int)] w fun e w' => ∃ (ao : Option Addr) (n c : Nat), e = .returned (.slice ao n c) ∧ Hid (n = (wordsOf x).length) ∧ n ≤ 1024 ∧ OwnW w.heap.size w' ao n c (wordsOf x) ∧ Below w.heap.size w w' := by
  refine Calls.mono (of_calls (x : Int) w (by omega) (by omega)) ?_
  rw [Int.toNat_natCast]
  rintro e w' ⟨v, rfl, hA, hb⟩
  have hl : (wordsOf x).length ≤ 1024 := Nat.le_trans ((words_len 1 x).2 (by omega)) (by decide)
  obtain ⟨ao, n, c, rfl, h1, h2, h3⟩ := hA.open hl
  exact ⟨ao, n, c, rfl, h1, h2, h3, hb⟩
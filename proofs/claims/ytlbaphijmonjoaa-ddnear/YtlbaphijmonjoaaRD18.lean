/- The document's dyadic numbers: Sign, Top, Order, Cmp, Bits, Size, TopOf. -/
import Derived.Test.YtlbaphijmonjoaaRD14
import Derived.Test.YtlbaphijmonjoaaTMC
import Derived.Test.YtlbaphijmonjoaaRD3
namespace Go.Proofs.Ytlbaphijmonjoaa
open Go.RowKit

attribute [local go_sem ↓] Go.wp_at_zero Go.wp_at_succ
def sgnQ (s : Bool) (m : Nat) : Int := if m = 0 then 0 else if s = true then -1 else 1
theorem sgnQ_form (s : Bool) (m : Nat) (e : Int) : sgnD (formD s m e) = sgnQ s m := by
  unfold sgnD sgnQ
  by_cases h0 : m = 0
  · rw [h0, form_zero]; rfl
  · have h1 := (odd_part h0).1
    rw [form_pos s h0, if_neg h0, if_neg (fun q => by have q' : m / 2 ^ tz m = 0 := q; rw [q'] at h1; exact absurd h1 (by decide))]
theorem blen_odd {m : Nat} (h0 : m ≠ 0) : blen m = tz m + blen (m / 2 ^ tz m) := by
  have h1 := (odd_part h0).1
  have h2 := (odd_part h0).2
  have h3 := blen_mul (m / 2 ^ tz m) (tz m) (fun q => by rw [q] at h1; exact absurd h1 (by decide))
  rw [h2] at h3
  exact h3

set_option maxRecDepth 100000 in
set_option maxHeartbeats 2000000 in
theorem qSign_calls (s : Bool) (a : Option Addr) (len cap : Nat) (xs : List Int) (e : Int) (w : World) (h : IsW w a len cap xs) (hm : len ≤ 17592186044000) :
    Calls Try.prog 58 #[dyV s a len cap e] w fun r w' => r = .returned (.int .i64 (sgnQ s (val xs))) ∧ Below w.heap.size w w' := by
  have bw : Below w.heap.size w (w.alloc (.cells #[.bool s, .slice a len cap, .int .i64 e] 30)) := below_one _ _
  have HZ : Hid _ := qZero_calls s a len cap xs e _ (h.keep bw) (by omega)
  unfold sgnQ
  have k0 : (w.alloc (.cells #[.bool s, .slice a len cap, .int .i64 e] 30)).cell? ⟨w.heap.size, 0, none⟩ = some (.bool s) := by go_simp
  have k1 : (w.alloc (.cells #[.bool s, .slice a len cap, .int .i64 e] 30)).cell? ⟨w.heap.size, 1, none⟩ = some (.slice a len cap) := by go_simp
  have k2 : (w.alloc (.cells #[.bool s, .slice a len cap, .int .i64 e] 30)).cell? ⟨w.heap.size, 2, none⟩ = some (.int .i64 e) := by go_simp
  by_cases h0 : val xs = 0
  · rw [decide_eq_true h0] at HZ
    rw [if_pos h0]
    clear h0 hm h
    go_enter Try.func58, Try.ntmps58
    go_wp2_with fail
    refine Calls.mono HZ.out ?_
    rintro r w1 ⟨rfl, b1⟩
    replace bw := nbelow_trans bw b1
    clear b1
    go_wp2_with fail
    go_ret
    exact ⟨rfl, bw⟩
  · rw [decide_eq_false h0] at HZ
    rw [if_neg h0]
    clear h0 hm h
    cases s
    all_goals
      go_enter Try.func58, Try.ntmps58
      go_wp2_with fail
      refine Calls.mono HZ.out ?_
      rintro r w1 ⟨rfl, b1⟩
      replace bw := nbelow_trans bw b1
      replace k0 := dcarry_cell b1 k0
      clear b1
      go_wp2_with fail
      go_ret
      exact ⟨rfl, bw⟩

set_option maxRecDepth 100000 in
set_option maxHeartbeats 2000000 in
theorem qTop_calls (s : Bool) (a : Option Addr) (len cap : Nat) (xs : List Int) (e : Int) (w : World) (h : IsW w a len cap xs) (hm : len ≤ 17592186044000) (he : -4611686018427387904 ≤ e ∧ e ≤ 4611686018427387904) (hb : blen (val xs) ≤ 1000000000) :
    Calls Try.prog 59 #[dyV s a len cap e] w fun r w' => r = .returned (.int .i64 (e + (blen (val xs) : Int) - 1)) ∧ Below w.heap.size w w' := by
  have bw : Below w.heap.size w (w.alloc (.cells #[.bool s, .slice a len cap, .int .i64 e] 30)) := below_one _ _
  have HL : Hid _ := fun W g => nLen_calls a len cap xs W g (by omega)
  have H1 : Hid (IsW w a len cap xs) := h
  have hw1 : IntKind.i64.wrap (e + (blen (val xs) : Int)) = e + (blen (val xs) : Int) := by rw [IntKind.wrap_i64]; omega
  have hw2 : IntKind.i64.wrap (e + (blen (val xs) : Int) - 1) = e + (blen (val xs) : Int) - 1 := by rw [IntKind.wrap_i64]; omega
  generalize (blen (val xs) : Int) = bl at *
  have k0 : (w.alloc (.cells #[.bool s, .slice a len cap, .int .i64 e] 30)).cell? ⟨w.heap.size, 0, none⟩ = some (.bool s) := by go_simp
  have k1 : (w.alloc (.cells #[.bool s, .slice a len cap, .int .i64 e] 30)).cell? ⟨w.heap.size, 1, none⟩ = some (.slice a len cap) := by go_simp
  have k2 : (w.alloc (.cells #[.bool s, .slice a len cap, .int .i64 e] 30)).cell? ⟨w.heap.size, 2, none⟩ = some (.int .i64 e) := by go_simp
  clear h hm he hb
  go_enter Try.func59, Try.ntmps59
  go_upto_region 1 with fail
  generalize (w.alloc (.cells #[.bool s, .slice a len cap, .int .i64 e] 30)) = w0 at *
  have bd : Below w0.heap.size w0 w0.drew := (Below.refl _ _).drew
  refine wp_region_held (S := fun w' => w'.cell? ⟨w.heap.size, 0, none⟩ = some (.bool s) ∧ w'.cell? ⟨w.heap.size, 1, none⟩ = some (.slice a len cap) ∧ w'.cell? ⟨w.heap.size, 2, none⟩ = some (.int .i64 e)) (by kernel_rfl) ?_
  change wpAnyH _ _ _ _ _ _ _ _ (World.drew w0)
  replace k0 := dcarry_cell bd k0
  replace k1 := dcarry_cell bd k1
  replace k2 := dcarry_cell bd k2
  replace bw := nbelow_trans bw bd
  clear bd
  generalize World.drew w0 = wd1 at *
  refine wpAnyH_take (i := 0) (v := ?vt1_0) rfl (by kernel_rfl) (by kernel_rfl) (by kernel_rfl) (fun _ _ _ h => h) (Or.inl ⟨by rfl, ?yt1_0⟩) ⟨k0, k1, k2⟩ ?rt1_0
  case yt1_0 => (rintro ww ⟨q0, q1, q2⟩; go_simp; try with_reducible rfl)
  try simp only [Act.put]
  refine wpAnyH_take (i := 1) (v := ?vt1_1) rfl (by kernel_rfl) (by kernel_rfl) (by kernel_rfl) (fun _ _ _ h => h) (Or.inl ⟨by rfl, ?yt1_1⟩) ⟨k0, k1, k2⟩ ?rt1_1
  case yt1_1 => (rintro ww ⟨q0, q1, q2⟩; go_simp; try with_reducible rfl)
  try simp only [Act.put]
  refine wpAnyH_take (i := 2) (v := ?vt1_2) rfl (by kernel_rfl) (by kernel_rfl) (by kernel_rfl) (fun _ _ _ h => h) (Or.inl ⟨by rfl, ?yt1_2⟩) ⟨k0, k1, k2⟩ ?rt1_2
  case yt1_2 => (rintro ww ⟨q0, q1, q2⟩; go_simp; try with_reducible rfl)
  try simp only [Act.put]
  refine wpAnyH_take (i := 3) (v := ?vt1_3) rfl (by kernel_rfl) (by kernel_rfl) (by kernel_rfl) (fun _ _ _ h => h) (Or.inl ⟨by rfl, ?yt1_3⟩) ⟨k0, k1, k2⟩ ?rt1_3
  case yt1_3 => (rintro ww ⟨q0, q1, q2⟩; go_simp; try with_reducible rfl)
  try simp only [Act.put]
  refine wpAnyH_ready (rs := [4]) (by kernel_rfl) (by simp) ?_
  refine AllReadyH.cons rfl (fun K hK => ?_) AllReadyH.nil
  go_simp
  refine Calls.mono (HL.out _ (H1.out.keep bw)) ?_
  rintro r w1 ⟨rfl, bN⟩
  replace k0 := dcarry_cell bN k0
  replace k1 := dcarry_cell bN k1
  replace k2 := dcarry_cell bN k2
  refine hK.out _ _ ⟨k0, k1, k2⟩ (fun _ => ?_)
  clear hK K
  replace bw := nbelow_trans bw bN
  clear bN
  try simp only [Act.put, List.setIfInBounds_toArray, List.set_cons_zero, List.set_cons_succ]
  refine wpAnyH_ready (rs := [5]) (by kernel_rfl) (by simp) ?_
  refine AllReadyH.cons rfl (fun K hK => ?_) AllReadyH.nil
  go_simp
  refine hK.out _ _ ⟨k0, k1, k2⟩ (fun _ => ?_)
  clear hK K
  try simp only [Act.put, List.setIfInBounds_toArray, List.set_cons_zero, List.set_cons_succ]
  refine wpAnyH_ready (rs := [6]) (by kernel_rfl) (by simp) ?_
  refine AllReadyH.cons rfl (fun K hK => ?_) AllReadyH.nil
  go_simp
  refine hK.out _ _ ⟨k0, k1, k2⟩ (fun _ => ?_)
  clear hK K
  try simp only [Act.put, List.setIfInBounds_toArray, List.set_cons_zero, List.set_cons_succ]
  refine wpAnyH_ready (rs := [7]) (by kernel_rfl) (by simp) ?_
  refine AllReadyH.cons rfl (fun K hK => ?_) AllReadyH.nil
  go_simp
  refine hK.out _ _ ⟨k0, k1, k2⟩ (fun _ => ?_)
  clear hK K
  try simp only [Act.put, List.setIfInBounds_toArray, List.set_cons_zero, List.set_cons_succ]
  refine wpAnyH_done (by kernel_rfl) ?_ _
  go_wp2_with fail
  go_ret
  exact ⟨rfl, bw⟩

end Go.Proofs.Ytlbaphijmonjoaa

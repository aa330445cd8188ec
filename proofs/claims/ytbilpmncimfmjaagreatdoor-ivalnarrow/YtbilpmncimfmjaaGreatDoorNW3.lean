/- The walk of IvalNarrow. -/
import Derived.Test.YtbilpmncimfmjaaGreatDoorNWX
import Derived.Test.YtbilpmncimfmjaaGreatDoorIVK
namespace Go.Proofs.YtbilpmncimfmjaaGreatDoor
open Go.RowKit

set_option maxRecDepth 100000 in
set_option maxHeartbeats 4000000 in
theorem ivalNarrow_walk (s : Bool) (a : Option Addr) (len cap : Nat) (xs : List Int) (e : Int) (s' : Bool) (a' : Option Addr) (len' cap' : Nat) (ys : List Int) (e' : Int) (p q : Int) (w : World) (h : IsW w a len cap xs) (hm : len ≤ 17592186044000) (_he : -9223372036854775808 ≤ e ∧ e ≤ 9223372036854775807) (h' : IsW w a' len' cap' ys) (hm' : len' ≤ 17592186044000) (_he' : -9223372036854775808 ≤ e' ∧ e' ≤ 9223372036854775807) (_hp : -9223372036854775808 ≤ p ∧ p ≤ 9223372036854775807) (_hq : -9223372036854775808 ≤ q ∧ q ≤ 9223372036854775807) (hT : Tab w) :
    Calls Tryz.prog 3 #[ivI s a len cap e s' a' len' cap' e', .int .i64 p, .int .i64 q] w fun r w' => r = .returned (.bool true) ∧ Below w.heap.size w w' := by
  have bA : Below w.heap.size w (w.alloc (.cells #[.bool s, .slice a len cap, .int .i64 e, .bool s', .slice a' len' cap', .int .i64 e'] 27)) := below_one _ _
  have HB : Hid _ := fun W (t : Tab W) => ivBegins_calls W t
  have HN : Hid _ := fun (z : Int) W (k : IsW W a len cap xs) (k' : IsW W a' len' cap' ys) (t : Tab W) => narrow_calls s a len cap xs e s' a' len' cap' ys e' z W k hm k' hm' t
  have HS : Hid _ := fun W (k : IsW W a len cap xs) (k' : IsW W a' len' cap' ys) (t : Tab W) => ivSign_calls s a len cap xs e s' a' len' cap' ys e' W k hm k' hm' t
  have HM : Hid _ := fun h0 hq h => nwB_less s (val xs) e s' (val ys) e' p q h0 hq h
  have H3 : Hid _ := sg_three s (val xs) e s' (val ys) e'
  have tt := hT.kept bA
  replace h := h.keep bA
  replace h' := h'.keep bA
  have c0 : (w.alloc (.cells #[.bool s, .slice a len cap, .int .i64 e, .bool s', .slice a' len' cap', .int .i64 e'] 27)).cell? ⟨w.heap.size, 0, none⟩ = some (.bool s) := by go_simp
  have c1 : (w.alloc (.cells #[.bool s, .slice a len cap, .int .i64 e, .bool s', .slice a' len' cap', .int .i64 e'] 27)).cell? ⟨w.heap.size, 1, none⟩ = some (.slice a len cap) := by go_simp
  have c2 : (w.alloc (.cells #[.bool s, .slice a len cap, .int .i64 e, .bool s', .slice a' len' cap', .int .i64 e'] 27)).cell? ⟨w.heap.size, 2, none⟩ = some (.int .i64 e) := by go_simp
  have c3 : (w.alloc (.cells #[.bool s, .slice a len cap, .int .i64 e, .bool s', .slice a' len' cap', .int .i64 e'] 27)).cell? ⟨w.heap.size, 3, none⟩ = some (.bool s') := by go_simp
  have c4 : (w.alloc (.cells #[.bool s, .slice a len cap, .int .i64 e, .bool s', .slice a' len' cap', .int .i64 e'] 27)).cell? ⟨w.heap.size, 4, none⟩ = some (.slice a' len' cap') := by go_simp
  have c5 : (w.alloc (.cells #[.bool s, .slice a len cap, .int .i64 e, .bool s', .slice a' len' cap', .int .i64 e'] 27)).cell? ⟨w.heap.size, 5, none⟩ = some (.int .i64 e') := by go_simp
  clear _he _he' _hp _hq hm hm' hT
  rcases Int.lt_or_le p q with k1 | k1
  · clear HN HS HM H3
    go_enter Tryz.func3, Tryz.ntmps3
    go_wp2_with fail
    generalize (w.alloc (.cells #[.bool s, .slice a len cap, .int .i64 e, .bool s', .slice a' len' cap', .int .i64 e'] 27)) = w0 at *
    refine Calls.mono (HB.out _ tt) ?_
    rintro r w1 ⟨rfl, bN⟩
    replace bA := nT bA bN
    replace tt := tt.kept bN
    replace h := h.keep bN
    replace h' := h'.keep bN
    replace c0 := kC bN c0
    replace c1 := kC bN c1
    replace c2 := kC bN c2
    replace c3 := kC bN c3
    replace c4 := kC bN c4
    replace c5 := kC bN c5
    clear bN
    go_wp2_with fail
    go_ret
    exact ⟨rfl, bA⟩
  rcases Int.lt_or_le q 0 with k2 | k2
  · clear HN HS HM H3
    go_enter Tryz.func3, Tryz.ntmps3
    go_wp2_with fail
    generalize (w.alloc (.cells #[.bool s, .slice a len cap, .int .i64 e, .bool s', .slice a' len' cap', .int .i64 e'] 27)) = w0 at *
    refine Calls.mono (HB.out _ tt) ?_
    rintro r w1 ⟨rfl, bN⟩
    replace bA := nT bA bN
    replace tt := tt.kept bN
    replace h := h.keep bN
    replace h' := h'.keep bN
    replace c0 := kC bN c0
    replace c1 := kC bN c1
    replace c2 := kC bN c2
    replace c3 := kC bN c3
    replace c4 := kC bN c4
    replace c5 := kC bN c5
    clear bN
    go_wp2_with fail
    go_ret
    exact ⟨rfl, bA⟩
  have N1 : Hid _ := fun W k k' t => HN.out p W k k' t
  have N2 : Hid _ := fun W k k' t => HN.out q W k k' t
  clear HN
  cases hn : nwB s (val xs) e s' (val ys) e' p with
  | false =>
    rw [hn] at N1
    clear N2 HS HM H3 hn
    go_enter Tryz.func3, Tryz.ntmps3
    go_wp2_with fail
    generalize (w.alloc (.cells #[.bool s, .slice a len cap, .int .i64 e, .bool s', .slice a' len' cap', .int .i64 e'] 27)) = w0 at *
    refine Calls.mono (HB.out _ tt) ?_
    rintro r w1 ⟨rfl, bN⟩
    replace bA := nT bA bN
    replace tt := tt.kept bN
    replace h := h.keep bN
    replace h' := h'.keep bN
    replace c0 := kC bN c0
    replace c1 := kC bN c1
    replace c2 := kC bN c2
    replace c3 := kC bN c3
    replace c4 := kC bN c4
    replace c5 := kC bN c5
    clear bN
    go_wp2_with fail
    refine Calls.mono (N1.out _ h h' tt) ?_
    rintro r w2 ⟨rfl, bN⟩
    replace bA := nT bA bN
    go_wp2_with fail
    go_ret
    exact ⟨rfl, bA⟩
  | true =>
    obtain ⟨n2, n3⟩ := HM.out k2 k1 hn
    rw [hn] at N1
    rw [n2] at N2
    rw [n3] at HS
    have v1 : -1 ≤ sgV s (val xs) e s' (val ys) e' := by rcases H3.out with z | z | z <;> omega
    have v2 : sgV s (val xs) e s' (val ys) e' ≤ 1 := by rcases H3.out with z | z | z <;> omega
    clear HM H3 hn n2 n3
    generalize sgV s (val xs) e s' (val ys) e' = v at *
    go_enter Tryz.func3, Tryz.ntmps3
    go_wp2_with fail
    generalize (w.alloc (.cells #[.bool s, .slice a len cap, .int .i64 e, .bool s', .slice a' len' cap', .int .i64 e'] 27)) = w0 at *
    refine Calls.mono (HB.out _ tt) ?_
    rintro r w1 ⟨rfl, bN⟩
    replace bA := nT bA bN
    replace tt := tt.kept bN
    replace h := h.keep bN
    replace h' := h'.keep bN
    replace c0 := kC bN c0
    replace c1 := kC bN c1
    replace c2 := kC bN c2
    replace c3 := kC bN c3
    replace c4 := kC bN c4
    replace c5 := kC bN c5
    clear bN
    go_wp2_with fail
    refine Calls.mono (N1.out _ h h' tt) ?_
    rintro r w2 ⟨rfl, bN⟩
    replace bA := nT bA bN
    replace tt := tt.kept bN
    replace h := h.keep bN
    replace h' := h'.keep bN
    replace c0 := kC bN c0
    replace c1 := kC bN c1
    replace c2 := kC bN c2
    replace c3 := kC bN c3
    replace c4 := kC bN c4
    replace c5 := kC bN c5
    clear bN
    go_wp2_with fail
    refine Calls.mono (HS.out _ h h' tt) ?_
    rintro r w3 ⟨rfl, bN⟩
    replace bA := nT bA bN
    replace tt := tt.kept bN
    replace h := h.keep bN
    replace h' := h'.keep bN
    replace c0 := kC bN c0
    replace c1 := kC bN c1
    replace c2 := kC bN c2
    replace c3 := kC bN c3
    replace c4 := kC bN c4
    replace c5 := kC bN c5
    clear bN
    go_wp2_with fail
    refine Calls.mono (N2.out _ h h' tt) ?_
    rintro r w4 ⟨rfl, bN⟩
    replace bA := nT bA bN
    replace tt := tt.kept bN
    replace h := h.keep bN
    replace h' := h'.keep bN
    replace c0 := kC bN c0
    replace c1 := kC bN c1
    replace c2 := kC bN c2
    replace c3 := kC bN c3
    replace c4 := kC bN c4
    replace c5 := kC bN c5
    clear bN
    go_wp2_with fail
    go_ret
    exact ⟨rfl, bA⟩
end Go.Proofs.YtbilpmncimfmjaaGreatDoor

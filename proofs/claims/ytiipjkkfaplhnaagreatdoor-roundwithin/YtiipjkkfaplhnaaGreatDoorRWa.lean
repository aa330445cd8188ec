/- Package round: Wide as it is called. -/
import Derived.Test.YtiipjkkfaplhnaaGreatDoorRWl
import Derived.Test.YtiipjkkfaplhnaaGreatDoorRWh
namespace Go.Proofs.YtiipjkkfaplhnaaGreatDoor
open Go.RowKit

theorem wide_all (s : Bool) (a : Option Addr) (len cap : Nat) (xs : List Int) (e : Int) (s' : Bool) (a' : Option Addr) (len' cap' : Nat) (ys : List Int) (e' : Int) (p : Int) (w : World) (h : IsW w a len cap xs) (hm : len ≤ 17592186044000) (h' : IsW w a' len' cap' ys) (hm' : len' ≤ 17592186044000) (hT : Tab w) (hr : rtB s (val xs) e s' (val ys) e' = true) :
    Calls Tryz.prog 7 #[ivV s a len cap e s' a' len' cap' e', .int .i64 p] w fun r w' => (∃ er : Int, Hid (er = 2 ∨ er = 3) ∧ r = .returned (.tuple #[zIv, .int .i64 er]) ∧ Below w.heap.size w w') ∨ (Hid (mgE (val xs) e (val ys) e' p = 0 ∧ wlE s (val xs) e (mgP (val xs) e (val ys) e' p) = 0 ∧ whE s' (val ys) e' (mgP (val xs) e (val ys) e' p) = 0) ∧ ∃ al nl cl ah nh ch, r = .returned (.tuple #[ivV (wlP s (val xs) e (mgP (val xs) e (val ys) e' p)).1 al nl cl (wlP s (val xs) e (mgP (val xs) e (val ys) e' p)).2.2 (whP s' (val ys) e' (mgP (val xs) e (val ys) e' p)).1 ah nh ch (whP s' (val ys) e' (mgP (val xs) e (val ys) e' p)).2.2, .int .i64 0]) ∧ nl ≤ 1024 ∧ nh ≤ 1024 ∧ IsW w' al nl cl (wordsOf (wlP s (val xs) e (mgP (val xs) e (val ys) e' p)).2.1) ∧ IsW w' ah nh ch (wordsOf (whP s' (val ys) e' (mgP (val xs) e (val ys) e' p)).2.1) ∧ Below w.heap.size w w') := by
  by_cases p1 : p < 0
  · exact (wide_n s a len cap xs e s' a' len' cap' ys e' p w h hm h' hm' hT hr p1).mono fun r w' ⟨q1, q2⟩ => .inl ⟨2, .inl rfl, q1, q2⟩
  · by_cases p2 : 2048 < p
    · exact (wide_g s a len cap xs e s' a' len' cap' ys e' p w h hm h' hm' hT hr p2).mono fun r w' ⟨q1, q2⟩ => .inl ⟨2, .inl rfl, q1, q2⟩
    · have hp : 0 ≤ p ∧ p ≤ 2048 := ⟨by omega, by omega⟩
      by_cases hc : 0 < cmpD (formD false (val xs) e) (formD false (val ys) e')
      · skip
        by_cases h0 : mgE (val xs) e (val ys) e' p = 0
        · by_cases h1 : wlE s (val xs) e (mgP (val xs) e (val ys) e' p) = 0
          · by_cases h2 : whE s' (val ys) e' (mgP (val xs) e (val ys) e' p) = 0
            · refine (wide_l3 s a len cap xs e s' a' len' cap' ys e' p w h hm h' hm' hT hr hp hc h0 h1 h2).mono ?_
              rintro r w' ⟨al, nl, cl, ah, nh, ch, rfl, k1, k2, k3, k4, k5⟩
              exact .inr ⟨⟨h0, h1, h2⟩, al, nl, cl, ah, nh, ch, rfl, k1, k2, k3, k4, k5⟩
            · exact (wide_l2 s a len cap xs e s' a' len' cap' ys e' p w h hm h' hm' hT hr hp hc h0 h1 h2).mono fun r w' ⟨q1, q2⟩ => .inl ⟨3, .inr rfl, q1, q2⟩
          · exact (wide_l1 s a len cap xs e s' a' len' cap' ys e' p w h hm h' hm' hT hr hp hc h0 h1).mono fun r w' ⟨q1, q2⟩ => .inl ⟨3, .inr rfl, q1, q2⟩
        · exact (wide_l0 s a len cap xs e s' a' len' cap' ys e' p w h hm h' hm' hT hr hp hc h0).mono fun r w' ⟨q1, q2⟩ => .inl ⟨3, .inr rfl, q1, q2⟩
      · skip
        by_cases h0 : mgE (val xs) e (val ys) e' p = 0
        · by_cases h1 : wlE s (val xs) e (mgP (val xs) e (val ys) e' p) = 0
          · by_cases h2 : whE s' (val ys) e' (mgP (val xs) e (val ys) e' p) = 0
            · refine (wide_h3 s a len cap xs e s' a' len' cap' ys e' p w h hm h' hm' hT hr hp hc h0 h1 h2).mono ?_
              rintro r w' ⟨al, nl, cl, ah, nh, ch, rfl, k1, k2, k3, k4, k5⟩
              exact .inr ⟨⟨h0, h1, h2⟩, al, nl, cl, ah, nh, ch, rfl, k1, k2, k3, k4, k5⟩
            · exact (wide_h2 s a len cap xs e s' a' len' cap' ys e' p w h hm h' hm' hT hr hp hc h0 h1 h2).mono fun r w' ⟨q1, q2⟩ => .inl ⟨3, .inr rfl, q1, q2⟩
          · exact (wide_h1 s a len cap xs e s' a' len' cap' ys e' p w h hm h' hm' hT hr hp hc h0 h1).mono fun r w' ⟨q1, q2⟩ => .inl ⟨3, .inr rfl, q1, q2⟩
        · exact (wide_h0 s a len cap xs e s' a' len' cap' ys e' p w h hm h' hm' hT hr hp hc h0).mono fun r w' ⟨q1, q2⟩ => .inl ⟨3, .inr rfl, q1, q2⟩
end Go.Proofs.YtiipjkkfaplhnaaGreatDoor

/- The walk of IvalTells. -/
import Derived.Test.YtbhneifafnoaiaaGreatDoorCR
import Derived.Test.YtbhneifafnoaiaaGreatDoorTL3
import Derived.Test.YtbhneifafnoaiaaGreatDoorNWX
import Derived.Test.YtbhneifafnoaiaaGreatDoorIVK
namespace Go.Proofs.YtbhneifafnoaiaaGreatDoor
open Go.RowKit
theorem vNarrow_calls (x y : DT) (p : Int) (w : World) (hx : inT w x) (hy : inT w y) :
  Calls Tryz.prog 13 #[ivT x y, .int .i64 p] w fun r w' => r = .returned (.bool (nwT x y p)) ∧ Below w.heap.size w w' := by
 cases hn : (rtT x y && decide (0 ≤ p)) with
 | false => exact vNarrow_not x y p w hx hy hn
 | true =>
  rw [Bool.and_eq_true, decide_eq_true_eq] at hn
  rcases sgnQ_cases x.1 (val x.2.2.2.2.1) with ⟨z, k⟩ | ⟨z, k1, k⟩ | ⟨z, k1, k⟩
  ·exact vNarrow_sgn x y p w hx hy hn.1 hn.2 (Or.inr k)
  ·rcases sgnQ_cases y.1 (val y.2.2.2.2.1) with ⟨c, l⟩ | ⟨c, l1, l⟩ | ⟨c, l1, l⟩
   ·exact vNarrow_sgn x y p w hx hy hn.1 hn.2 (Or.inl (by rw [k, l]; decide))
   ·exact vNarrow_pos x y p w hx hy hn.1 hn.2 k l k1 l1
   ·exact vNarrow_sgn x y p w hx hy hn.1 hn.2 (Or.inl (by rw [k, l]; decide))
  ·rcases sgnQ_cases y.1 (val y.2.2.2.2.1) with ⟨c, l⟩ | ⟨c, l1, l⟩ | ⟨c, l1, l⟩
   ·exact vNarrow_sgn x y p w hx hy hn.1 hn.2 (Or.inl (by rw [k, l]; decide))
   ·exact vNarrow_sgn x y p w hx hy hn.1 hn.2 (Or.inl (by rw [k, l]; decide))
   ·exact vNarrow_neg x y p w hx hy hn.1 hn.2 k l k1 l1
set_option maxRecDepth 100000 in
set_option maxHeartbeats 16000000 in
theorem ivalTells_dt (x y u v d : DT) (p : Int) (w : World) (hx : inT w x) (hy : inT w y) (hu : inT w u) (hv : inT w v) (hd : inT w d) (hT : Tab w) :
  Calls Tryz.prog 3 #[ivT x y, ivT u v, dyV d.1 d.2.1 d.2.2.1 d.2.2.2.1 d.2.2.2.2.2, .int .i64 p] w fun r w' => r = .returned (.bool true) ∧ Below w.heap.size w w' := by
 have bA : Below w.heap.size w (((w.alloc (.cells #[.bool x.1, .slice x.2.1 x.2.2.1 x.2.2.2.1, .int .i64 x.2.2.2.2.2, .bool y.1, .slice y.2.1 y.2.2.1 y.2.2.2.1, .int .i64 y.2.2.2.2.2] 27)).alloc (.cells #[.bool u.1, .slice u.2.1 u.2.2.1 u.2.2.2.1, .int .i64 u.2.2.2.2.2, .bool v.1, .slice v.2.1 v.2.2.1 v.2.2.2.1, .int .i64 v.2.2.2.2.2] 27)).alloc (.cells #[.bool d.1, .slice d.2.1 d.2.2.1 d.2.2.2.1, .int .i64 d.2.2.2.2.2] 25)) := nT (nT (below_one _ _) (below_one _ _)) (below_one _ _)
 have PS : Hid (∀ W, inT W x → inT W y → Tab W → Calls Tryz.prog 4 #[ivT x y] W fun r w' => r = .returned (.tuple #[.int .i64 (svT x y), .bool (sbT x y)]) ∧ Below W.heap.size W w') := fun W q q' t => ivSign_calls x.1 x.2.1 x.2.2.1 x.2.2.2.1 x.2.2.2.2.1 x.2.2.2.2.2 y.1 y.2.1 y.2.2.1 y.2.2.2.1 y.2.2.2.2.1 y.2.2.2.2.2 W q.1 q.2 q'.1 q'.2 t
 have DS : Hid (∀ W, inT W x → inT W y → Calls Tryz.prog 5 #[ivT x y] W fun r w' => r = .returned (.tuple #[.int .i64 (svT x y), .bool (sbT x y)]) ∧ Below W.heap.size W w') := fun W q q' => vSign_calls x y W q q'
 have PM : Hid (∀ W, inT W x → inT W y → inT W u → inT W v → Tab W → Calls Tryz.prog 6 #[ivT x y, ivT u v] W fun r w' => r = .returned (.bool ((rtT x y && rtT u v) && rtT x v && rtT u y)) ∧ Below W.heap.size W w') := fun W q q' z z' t => meets_calls x.1 x.2.1 x.2.2.1 x.2.2.2.1 x.2.2.2.2.1 x.2.2.2.2.2 y.1 y.2.1 y.2.2.1 y.2.2.2.1 y.2.2.2.2.1 y.2.2.2.2.2 u.1 u.2.1 u.2.2.1 u.2.2.2.1 u.2.2.2.2.1 u.2.2.2.2.2 v.1 v.2.1 v.2.2.1 v.2.2.2.1 v.2.2.2.2.1 v.2.2.2.2.2 W q.1 q.2 q'.1 q'.2 z.1 z.2 z'.1 z'.2 t
 have DM : Hid (∀ W, inT W x → inT W y → inT W u → inT W v → Calls Tryz.prog 7 #[ivT x y, ivT u v] W fun r w' => r = .returned (.bool ((rtT x y && rtT u v) && rtT x v && rtT u y)) ∧ Below W.heap.size W w') := fun W q q' z z' => vMeets_calls x y u v W q q' z z'
 have PW : Hid (∀ W, inT W x → inT W y → inT W u → inT W v → Tab W → Calls Tryz.prog 8 #[ivT x y, ivT u v] W fun r w' => r = .returned (.bool ((rtT x y && rtT u v) && rtT u x && rtT y v)) ∧ Below W.heap.size W w') := fun W q q' z z' t => within_calls x.1 x.2.1 x.2.2.1 x.2.2.2.1 x.2.2.2.2.1 x.2.2.2.2.2 y.1 y.2.1 y.2.2.1 y.2.2.2.1 y.2.2.2.2.1 y.2.2.2.2.2 u.1 u.2.1 u.2.2.1 u.2.2.2.1 u.2.2.2.2.1 u.2.2.2.2.2 v.1 v.2.1 v.2.2.1 v.2.2.2.1 v.2.2.2.2.1 v.2.2.2.2.2 W q.1 q.2 q'.1 q'.2 z.1 z.2 z'.1 z'.2 t
 have DW : Hid (∀ W, inT W x → inT W y → inT W u → inT W v → Calls Tryz.prog 9 #[ivT x y, ivT u v] W fun r w' => r = .returned (.bool ((rtT x y && rtT u v) && rtT u x && rtT y v)) ∧ Below W.heap.size W w') := fun W q q' z z' => vWithin_calls x y u v W q q' z z'
 have PH : Hid (∀ W, inT W x → inT W y → inT W d → Tab W → Calls Tryz.prog 10 #[ivT x y, dyV d.1 d.2.1 d.2.2.1 d.2.2.2.1 d.2.2.2.2.2] W fun r w' => r = .returned (.bool ((rtT d d && rtT x y) && rtT x d && rtT d y)) ∧ Below W.heap.size W w') := fun W q q' z t => has_calls x.1 x.2.1 x.2.2.1 x.2.2.2.1 x.2.2.2.2.1 x.2.2.2.2.2 y.1 y.2.1 y.2.2.1 y.2.2.2.1 y.2.2.2.2.1 y.2.2.2.2.2 d.1 d.2.1 d.2.2.1 d.2.2.2.1 d.2.2.2.2.1 d.2.2.2.2.2 W q.1 q.2 q'.1 q'.2 z.1 z.2 t
 have DH : Hid (∀ W, inT W x → inT W y → inT W d → Calls Tryz.prog 11 #[ivT x y, dyV d.1 d.2.1 d.2.2.1 d.2.2.2.1 d.2.2.2.2.2] W fun r w' => r = .returned (.bool ((rtT d d && rtT x y) && rtT x d && rtT d y)) ∧ Below W.heap.size W w') := fun W q q' z => vHas_calls x y d W q q' z
 have PN : Hid (∀ W, inT W x → inT W y → Tab W → Calls Tryz.prog 12 #[ivT x y, .int .i64 p] W fun r w' => r = .returned (.bool (nwT x y p)) ∧ Below W.heap.size W w') := fun W q q' t => narrow_calls x.1 x.2.1 x.2.2.1 x.2.2.2.1 x.2.2.2.2.1 x.2.2.2.2.2 y.1 y.2.1 y.2.2.1 y.2.2.2.1 y.2.2.2.2.1 y.2.2.2.2.2 p W q.1 q.2 q'.1 q'.2 t
 have DN : Hid (∀ W, inT W x → inT W y → Calls Tryz.prog 13 #[ivT x y, .int .i64 p] W fun r w' => r = .returned (.bool (nwT x y p)) ∧ Below W.heap.size W w') := fun W q q' => vNarrow_calls x y p W q q'
 have BG : Hid _ := fun W (t : Tab W) => ivBegins_calls W t
 generalize (svT x y) = sv at *
 generalize (sbT x y) = sb at *
 generalize ((rtT x y && rtT u v) && rtT x v && rtT u y) = mb at *
 generalize ((rtT x y && rtT u v) && rtT u x && rtT y v) = wb at *
 generalize ((rtT d d && rtT x y) && rtT x d && rtT d y) = hb at *
 generalize (nwT x y p) = nb at *
 have k00 : (((w.alloc (.cells #[.bool x.1, .slice x.2.1 x.2.2.1 x.2.2.2.1, .int .i64 x.2.2.2.2.2, .bool y.1, .slice y.2.1 y.2.2.1 y.2.2.2.1, .int .i64 y.2.2.2.2.2] 27)).alloc (.cells #[.bool u.1, .slice u.2.1 u.2.2.1 u.2.2.2.1, .int .i64 u.2.2.2.2.2, .bool v.1, .slice v.2.1 v.2.2.1 v.2.2.2.1, .int .i64 v.2.2.2.2.2] 27)).alloc (.cells #[.bool d.1, .slice d.2.1 d.2.2.1 d.2.2.2.1, .int .i64 d.2.2.2.2.2] 25)).cell? ⟨w.heap.size, 0, none⟩ = some (.bool x.1) := by go_simp
 have k01 : (((w.alloc (.cells #[.bool x.1, .slice x.2.1 x.2.2.1 x.2.2.2.1, .int .i64 x.2.2.2.2.2, .bool y.1, .slice y.2.1 y.2.2.1 y.2.2.2.1, .int .i64 y.2.2.2.2.2] 27)).alloc (.cells #[.bool u.1, .slice u.2.1 u.2.2.1 u.2.2.2.1, .int .i64 u.2.2.2.2.2, .bool v.1, .slice v.2.1 v.2.2.1 v.2.2.2.1, .int .i64 v.2.2.2.2.2] 27)).alloc (.cells #[.bool d.1, .slice d.2.1 d.2.2.1 d.2.2.2.1, .int .i64 d.2.2.2.2.2] 25)).cell? ⟨w.heap.size, 1, none⟩ = some (.slice x.2.1 x.2.2.1 x.2.2.2.1) := by go_simp
 have k02 : (((w.alloc (.cells #[.bool x.1, .slice x.2.1 x.2.2.1 x.2.2.2.1, .int .i64 x.2.2.2.2.2, .bool y.1, .slice y.2.1 y.2.2.1 y.2.2.2.1, .int .i64 y.2.2.2.2.2] 27)).alloc (.cells #[.bool u.1, .slice u.2.1 u.2.2.1 u.2.2.2.1, .int .i64 u.2.2.2.2.2, .bool v.1, .slice v.2.1 v.2.2.1 v.2.2.2.1, .int .i64 v.2.2.2.2.2] 27)).alloc (.cells #[.bool d.1, .slice d.2.1 d.2.2.1 d.2.2.2.1, .int .i64 d.2.2.2.2.2] 25)).cell? ⟨w.heap.size, 2, none⟩ = some (.int .i64 x.2.2.2.2.2) := by go_simp
 have k03 : (((w.alloc (.cells #[.bool x.1, .slice x.2.1 x.2.2.1 x.2.2.2.1, .int .i64 x.2.2.2.2.2, .bool y.1, .slice y.2.1 y.2.2.1 y.2.2.2.1, .int .i64 y.2.2.2.2.2] 27)).alloc (.cells #[.bool u.1, .slice u.2.1 u.2.2.1 u.2.2.2.1, .int .i64 u.2.2.2.2.2, .bool v.1, .slice v.2.1 v.2.2.1 v.2.2.2.1, .int .i64 v.2.2.2.2.2] 27)).alloc (.cells #[.bool d.1, .slice d.2.1 d.2.2.1 d.2.2.2.1, .int .i64 d.2.2.2.2.2] 25)).cell? ⟨w.heap.size, 3, none⟩ = some (.bool y.1) := by go_simp
 have k04 : (((w.alloc (.cells #[.bool x.1, .slice x.2.1 x.2.2.1 x.2.2.2.1, .int .i64 x.2.2.2.2.2, .bool y.1, .slice y.2.1 y.2.2.1 y.2.2.2.1, .int .i64 y.2.2.2.2.2] 27)).alloc (.cells #[.bool u.1, .slice u.2.1 u.2.2.1 u.2.2.2.1, .int .i64 u.2.2.2.2.2, .bool v.1, .slice v.2.1 v.2.2.1 v.2.2.2.1, .int .i64 v.2.2.2.2.2] 27)).alloc (.cells #[.bool d.1, .slice d.2.1 d.2.2.1 d.2.2.2.1, .int .i64 d.2.2.2.2.2] 25)).cell? ⟨w.heap.size, 4, none⟩ = some (.slice y.2.1 y.2.2.1 y.2.2.2.1) := by go_simp
 have k05 : (((w.alloc (.cells #[.bool x.1, .slice x.2.1 x.2.2.1 x.2.2.2.1, .int .i64 x.2.2.2.2.2, .bool y.1, .slice y.2.1 y.2.2.1 y.2.2.2.1, .int .i64 y.2.2.2.2.2] 27)).alloc (.cells #[.bool u.1, .slice u.2.1 u.2.2.1 u.2.2.2.1, .int .i64 u.2.2.2.2.2, .bool v.1, .slice v.2.1 v.2.2.1 v.2.2.2.1, .int .i64 v.2.2.2.2.2] 27)).alloc (.cells #[.bool d.1, .slice d.2.1 d.2.2.1 d.2.2.2.1, .int .i64 d.2.2.2.2.2] 25)).cell? ⟨w.heap.size, 5, none⟩ = some (.int .i64 y.2.2.2.2.2) := by go_simp
 have k10 : (((w.alloc (.cells #[.bool x.1, .slice x.2.1 x.2.2.1 x.2.2.2.1, .int .i64 x.2.2.2.2.2, .bool y.1, .slice y.2.1 y.2.2.1 y.2.2.2.1, .int .i64 y.2.2.2.2.2] 27)).alloc (.cells #[.bool u.1, .slice u.2.1 u.2.2.1 u.2.2.2.1, .int .i64 u.2.2.2.2.2, .bool v.1, .slice v.2.1 v.2.2.1 v.2.2.2.1, .int .i64 v.2.2.2.2.2] 27)).alloc (.cells #[.bool d.1, .slice d.2.1 d.2.2.1 d.2.2.2.1, .int .i64 d.2.2.2.2.2] 25)).cell? ⟨w.heap.size + 1, 0, none⟩ = some (.bool u.1) := by go_simp
 have k11 : (((w.alloc (.cells #[.bool x.1, .slice x.2.1 x.2.2.1 x.2.2.2.1, .int .i64 x.2.2.2.2.2, .bool y.1, .slice y.2.1 y.2.2.1 y.2.2.2.1, .int .i64 y.2.2.2.2.2] 27)).alloc (.cells #[.bool u.1, .slice u.2.1 u.2.2.1 u.2.2.2.1, .int .i64 u.2.2.2.2.2, .bool v.1, .slice v.2.1 v.2.2.1 v.2.2.2.1, .int .i64 v.2.2.2.2.2] 27)).alloc (.cells #[.bool d.1, .slice d.2.1 d.2.2.1 d.2.2.2.1, .int .i64 d.2.2.2.2.2] 25)).cell? ⟨w.heap.size + 1, 1, none⟩ = some (.slice u.2.1 u.2.2.1 u.2.2.2.1) := by go_simp
 have k12 : (((w.alloc (.cells #[.bool x.1, .slice x.2.1 x.2.2.1 x.2.2.2.1, .int .i64 x.2.2.2.2.2, .bool y.1, .slice y.2.1 y.2.2.1 y.2.2.2.1, .int .i64 y.2.2.2.2.2] 27)).alloc (.cells #[.bool u.1, .slice u.2.1 u.2.2.1 u.2.2.2.1, .int .i64 u.2.2.2.2.2, .bool v.1, .slice v.2.1 v.2.2.1 v.2.2.2.1, .int .i64 v.2.2.2.2.2] 27)).alloc (.cells #[.bool d.1, .slice d.2.1 d.2.2.1 d.2.2.2.1, .int .i64 d.2.2.2.2.2] 25)).cell? ⟨w.heap.size + 1, 2, none⟩ = some (.int .i64 u.2.2.2.2.2) := by go_simp
 have k13 : (((w.alloc (.cells #[.bool x.1, .slice x.2.1 x.2.2.1 x.2.2.2.1, .int .i64 x.2.2.2.2.2, .bool y.1, .slice y.2.1 y.2.2.1 y.2.2.2.1, .int .i64 y.2.2.2.2.2] 27)).alloc (.cells #[.bool u.1, .slice u.2.1 u.2.2.1 u.2.2.2.1, .int .i64 u.2.2.2.2.2, .bool v.1, .slice v.2.1 v.2.2.1 v.2.2.2.1, .int .i64 v.2.2.2.2.2] 27)).alloc (.cells #[.bool d.1, .slice d.2.1 d.2.2.1 d.2.2.2.1, .int .i64 d.2.2.2.2.2] 25)).cell? ⟨w.heap.size + 1, 3, none⟩ = some (.bool v.1) := by go_simp
 have k14 : (((w.alloc (.cells #[.bool x.1, .slice x.2.1 x.2.2.1 x.2.2.2.1, .int .i64 x.2.2.2.2.2, .bool y.1, .slice y.2.1 y.2.2.1 y.2.2.2.1, .int .i64 y.2.2.2.2.2] 27)).alloc (.cells #[.bool u.1, .slice u.2.1 u.2.2.1 u.2.2.2.1, .int .i64 u.2.2.2.2.2, .bool v.1, .slice v.2.1 v.2.2.1 v.2.2.2.1, .int .i64 v.2.2.2.2.2] 27)).alloc (.cells #[.bool d.1, .slice d.2.1 d.2.2.1 d.2.2.2.1, .int .i64 d.2.2.2.2.2] 25)).cell? ⟨w.heap.size + 1, 4, none⟩ = some (.slice v.2.1 v.2.2.1 v.2.2.2.1) := by go_simp
 have k15 : (((w.alloc (.cells #[.bool x.1, .slice x.2.1 x.2.2.1 x.2.2.2.1, .int .i64 x.2.2.2.2.2, .bool y.1, .slice y.2.1 y.2.2.1 y.2.2.2.1, .int .i64 y.2.2.2.2.2] 27)).alloc (.cells #[.bool u.1, .slice u.2.1 u.2.2.1 u.2.2.2.1, .int .i64 u.2.2.2.2.2, .bool v.1, .slice v.2.1 v.2.2.1 v.2.2.2.1, .int .i64 v.2.2.2.2.2] 27)).alloc (.cells #[.bool d.1, .slice d.2.1 d.2.2.1 d.2.2.2.1, .int .i64 d.2.2.2.2.2] 25)).cell? ⟨w.heap.size + 1, 5, none⟩ = some (.int .i64 v.2.2.2.2.2) := by go_simp
 have k20 : (((w.alloc (.cells #[.bool x.1, .slice x.2.1 x.2.2.1 x.2.2.2.1, .int .i64 x.2.2.2.2.2, .bool y.1, .slice y.2.1 y.2.2.1 y.2.2.2.1, .int .i64 y.2.2.2.2.2] 27)).alloc (.cells #[.bool u.1, .slice u.2.1 u.2.2.1 u.2.2.2.1, .int .i64 u.2.2.2.2.2, .bool v.1, .slice v.2.1 v.2.2.1 v.2.2.2.1, .int .i64 v.2.2.2.2.2] 27)).alloc (.cells #[.bool d.1, .slice d.2.1 d.2.2.1 d.2.2.2.1, .int .i64 d.2.2.2.2.2] 25)).cell? ⟨w.heap.size + 2, 0, none⟩ = some (.bool d.1) := by go_simp
 have k21 : (((w.alloc (.cells #[.bool x.1, .slice x.2.1 x.2.2.1 x.2.2.2.1, .int .i64 x.2.2.2.2.2, .bool y.1, .slice y.2.1 y.2.2.1 y.2.2.2.1, .int .i64 y.2.2.2.2.2] 27)).alloc (.cells #[.bool u.1, .slice u.2.1 u.2.2.1 u.2.2.2.1, .int .i64 u.2.2.2.2.2, .bool v.1, .slice v.2.1 v.2.2.1 v.2.2.2.1, .int .i64 v.2.2.2.2.2] 27)).alloc (.cells #[.bool d.1, .slice d.2.1 d.2.2.1 d.2.2.2.1, .int .i64 d.2.2.2.2.2] 25)).cell? ⟨w.heap.size + 2, 1, none⟩ = some (.slice d.2.1 d.2.2.1 d.2.2.2.1) := by go_simp
 have k22 : (((w.alloc (.cells #[.bool x.1, .slice x.2.1 x.2.2.1 x.2.2.2.1, .int .i64 x.2.2.2.2.2, .bool y.1, .slice y.2.1 y.2.2.1 y.2.2.2.1, .int .i64 y.2.2.2.2.2] 27)).alloc (.cells #[.bool u.1, .slice u.2.1 u.2.2.1 u.2.2.2.1, .int .i64 u.2.2.2.2.2, .bool v.1, .slice v.2.1 v.2.2.1 v.2.2.2.1, .int .i64 v.2.2.2.2.2] 27)).alloc (.cells #[.bool d.1, .slice d.2.1 d.2.2.1 d.2.2.2.1, .int .i64 d.2.2.2.2.2] 25)).cell? ⟨w.heap.size + 2, 2, none⟩ = some (.int .i64 d.2.2.2.2.2) := by go_simp
 replace hx := hx.keep bA
 replace hy := hy.keep bA
 replace hu := hu.keep bA
 replace hv := hv.keep bA
 replace hd := hd.keep bA
 have tt := hT.kept bA
 clear hT
 go_enter Tryz.func3, Tryz.ntmps3
 go_wp2_with fail
 generalize (((w.alloc (.cells #[.bool x.1, .slice x.2.1 x.2.2.1 x.2.2.2.1, .int .i64 x.2.2.2.2.2, .bool y.1, .slice y.2.1 y.2.2.1 y.2.2.2.1, .int .i64 y.2.2.2.2.2] 27)).alloc (.cells #[.bool u.1, .slice u.2.1 u.2.2.1 u.2.2.2.1, .int .i64 u.2.2.2.2.2, .bool v.1, .slice v.2.1 v.2.2.1 v.2.2.2.1, .int .i64 v.2.2.2.2.2] 27)).alloc (.cells #[.bool d.1, .slice d.2.1 d.2.2.1 d.2.2.2.1, .int .i64 d.2.2.2.2.2] 25)) = w0 at *
 refine Calls.mono (PS.out _ hx hy tt) ?_
 rintro r w1 ⟨rfl, bN⟩
 revert k00 k01 k02 k03 k04 k05; refine cc6 bN ?_; intro k00 k01 k02 k03 k04 k05
 revert k10 k11 k12 k13 k14 k15; refine cc6 bN ?_; intro k10 k11 k12 k13 k14 k15
 revert k20 k21 k22; refine cc3 bN ?_; intro k20 k21 k22
 replace hx := hx.keep bN
 replace hy := hy.keep bN
 replace hu := hu.keep bN
 replace hv := hv.keep bN
 replace hd := hd.keep bN
 replace bA := nT bA bN
 replace tt := tt.kept bN
 clear bN
 go_wp2_with fail
 refine Calls.mono (DS.out _ hx hy) ?_
 rintro r w2 ⟨rfl, bN⟩
 revert k00 k01 k02 k03 k04 k05; refine cc6 bN ?_; intro k00 k01 k02 k03 k04 k05
 revert k10 k11 k12 k13 k14 k15; refine cc6 bN ?_; intro k10 k11 k12 k13 k14 k15
 revert k20 k21 k22; refine cc3 bN ?_; intro k20 k21 k22
 replace hx := hx.keep bN
 replace hy := hy.keep bN
 replace hu := hu.keep bN
 replace hv := hv.keep bN
 replace hd := hd.keep bN
 replace bA := nT bA bN
 replace tt := tt.kept bN
 clear bN
 go_wp2_with fail
 have bD : Below w2.heap.size w2 w2.drew := (Below.refl _ _).drew
 go_region_held3 (fun W => W.cell? ⟨w.heap.size, 0, none⟩ = some (.bool x.1) ∧ W.cell? ⟨w.heap.size, 1, none⟩ = some (.slice x.2.1 x.2.2.1 x.2.2.2.1) ∧ W.cell? ⟨w.heap.size, 2, none⟩ = some (.int .i64 x.2.2.2.2.2) ∧ W.cell? ⟨w.heap.size, 3, none⟩ = some (.bool y.1) ∧ W.cell? ⟨w.heap.size, 4, none⟩ = some (.slice y.2.1 y.2.2.1 y.2.2.2.1) ∧ W.cell? ⟨w.heap.size, 5, none⟩ = some (.int .i64 y.2.2.2.2.2) ∧ W.cell? ⟨w.heap.size + 1, 0, none⟩ = some (.bool u.1) ∧ W.cell? ⟨w.heap.size + 1, 1, none⟩ = some (.slice u.2.1 u.2.2.1 u.2.2.2.1) ∧ W.cell? ⟨w.heap.size + 1, 2, none⟩ = some (.int .i64 u.2.2.2.2.2) ∧ W.cell? ⟨w.heap.size + 1, 3, none⟩ = some (.bool v.1) ∧ W.cell? ⟨w.heap.size + 1, 4, none⟩ = some (.slice v.2.1 v.2.2.1 v.2.2.2.1) ∧ W.cell? ⟨w.heap.size + 1, 5, none⟩ = some (.int .i64 v.2.2.2.2.2) ∧ W.cell? ⟨w.heap.size + 2, 0, none⟩ = some (.bool d.1) ∧ W.cell? ⟨w.heap.size + 2, 1, none⟩ = some (.slice d.2.1 d.2.2.1 d.2.2.2.1) ∧ W.cell? ⟨w.heap.size + 2, 2, none⟩ = some (.int .i64 d.2.2.2.2.2))
  (first | (go_keep; done) | ((refine ⟨?_, ?_, ?_, ?_, ?_, ?_, ?_, ?_, ?_, ?_, ?_, ?_, ?_, ?_, ?_⟩ <;> (refine kC bL ?_; go_keep)); done))
  (first
   | (have _q := ga7; go_at_call 14; refine (BG.out _  (tt.kept bb)).mono ?_; rintro r v8 ⟨rfl, bL⟩; replace bb := nT bb bL; have ga8 := True.intro)
   | (have _q := ga6; go_at_call 13; refine (DN.out _ (hx.keep bb) (hy.keep bb)).mono ?_; rintro r v7 ⟨rfl, bL⟩; replace bb := nT bb bL; have ga7 := True.intro)
   | (have _q := ga5; go_at_call 12; refine (PN.out _ (hx.keep bb) (hy.keep bb) (tt.kept bb)).mono ?_; rintro r v6 ⟨rfl, bL⟩; replace bb := nT bb bL; have ga6 := True.intro)
   | (have _q := ga4; go_at_call 11; refine (DH.out _ (hx.keep bb) (hy.keep bb) (hd.keep bb)).mono ?_; rintro r v5 ⟨rfl, bL⟩; replace bb := nT bb bL; have ga5 := True.intro)
   | (have _q := ga3; go_at_call 10; refine (PH.out _ (hx.keep bb) (hy.keep bb) (hd.keep bb) (tt.kept bb)).mono ?_; rintro r v4 ⟨rfl, bL⟩; replace bb := nT bb bL; have ga4 := True.intro)
   | (have _q := ga2; go_at_call 9; refine (DW.out _ (hx.keep bb) (hy.keep bb) (hu.keep bb) (hv.keep bb)).mono ?_; rintro r v3 ⟨rfl, bL⟩; replace bb := nT bb bL; have ga3 := True.intro)
   | (have _q := ga1; go_at_call 8; refine (PW.out _ (hx.keep bb) (hy.keep bb) (hu.keep bb) (hv.keep bb) (tt.kept bb)).mono ?_; rintro r v2 ⟨rfl, bL⟩; replace bb := nT bb bL; have ga2 := True.intro)
   | (have _q := ga0; go_at_call 7; refine (DM.out _ (hx.keep bb) (hy.keep bb) (hu.keep bb) (hv.keep bb)).mono ?_; rintro r v1 ⟨rfl, bL⟩; replace bb := nT bb bL; have ga1 := True.intro)
   | (go_at_call 6; refine (PM.out _ (hx.keep bD) (hy.keep bD) (hu.keep bD) (hv.keep bD) (tt.kept bD)).mono ?_; rintro r v0 ⟨rfl, bL⟩; have bb := nT bD bL; have ga0 := True.intro))
 all_goals
  replace bA := nT bA bb
  go_wp2_with fail
  go_ret
  exact ⟨rfl, bA⟩
theorem ivalTells_walk (s : Bool) (a : Option Addr) (len cap : Nat) (xs : List Int) (e : Int) (s' : Bool) (a' : Option Addr) (len' cap' : Nat) (ys : List Int) (e' : Int) (t : Bool) (b : Option Addr) (bl bc : Nat) (us : List Int) (f : Int) (t' : Bool) (b' : Option Addr) (bl' bc' : Nat) (vs : List Int) (f' : Int) (u : Bool) (q : Option Addr) (ld cd : Nat) (zs : List Int) (g : Int) (p : Int) (w : World) (h : IsW w a len cap xs) (hm : len ≤ 17592186044000) (_he : -9223372036854775808 ≤ e ∧ e ≤ 9223372036854775807) (h' : IsW w a' len' cap' ys) (hm' : len' ≤ 17592186044000) (_he' : -9223372036854775808 ≤ e' ∧ e' ≤ 9223372036854775807) (k : IsW w b bl bc us) (km : bl ≤ 17592186044000) (_ke : -9223372036854775808 ≤ f ∧ f ≤ 9223372036854775807) (k' : IsW w b' bl' bc' vs) (km' : bl' ≤ 17592186044000) (_ke' : -9223372036854775808 ≤ f' ∧ f' ≤ 9223372036854775807) (hd : IsW w q ld cd zs) (hmd : ld ≤ 17592186044000) (_hg : -9223372036854775808 ≤ g ∧ g ≤ 9223372036854775807) (_hp : -9223372036854775808 ≤ p ∧ p ≤ 9223372036854775807) (hT : Tab w) :
  Calls Tryz.prog 3 #[ivI s a len cap e s' a' len' cap' e', ivI t b bl bc f t' b' bl' bc' f', dyV u q ld cd g, .int .i64 p] w fun r w' => r = .returned (.bool true) ∧ Below w.heap.size w w' :=
 ivalTells_dt (s, a, len, cap, xs, e) (s', a', len', cap', ys, e') (t, b, bl, bc, us, f) (t', b', bl', bc', vs, f') (u, q, ld, cd, zs, g) p w ⟨h, hm⟩ ⟨h', hm'⟩ ⟨k, km⟩ ⟨k', km'⟩ ⟨hd, hmd⟩ hT
end Go.Proofs.YtbhneifafnoaiaaGreatDoor

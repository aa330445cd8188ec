/- The walks of package dyad, first part: the numbers' small methods; the one form. -/
import Derived.Test.YticjhheceoeilaaDoorDPure
import Derived.Test.YticjhheceoeilaaDoorNEqA
namespace Go.Proofs.YticjhheceoeilaaDoor
open Go.RowKit

/-- A number as a value. -/
abbrev numV (s : Bool) (a : Option Addr) (n c : Nat) (e : Int) (g : Bool) : Value := .agg #[.bool s, .slice a n c, .int .i64 e, .bool g]
/-- A dyadic number as a value. -/
abbrev dyV (s : Bool) (a : Option Addr) (n c : Nat) (e : Int) : Value := .agg #[.bool s, .slice a n c, .int .i64 e]
theorem dcarry_cell {W W' : World} (hb : Below W.heap.size W W') {p : Addr} {v : Value} (h : W.cell? p = some v) : W'.cell? p = some v := (hb.cell (World.block_lt_of_cell? _ _ h)).trans h
theorem dcarry_frozen {W W' : World} (hb : Below W.heap.size W W') {p : Addr} {v : Value} (h : W.cell? p = some v) (hf : W.frozen? p = false) : W'.frozen? p = false := (hb.frozen (World.block_lt_of_cell? _ _ h)).trans hf

theorem OwnW.far {B : Nat} {w : World} {a : Option Addr} {len cap : Nat} {xs : List Int} (h : OwnW B w a len cap xs) (p : Addr) (u : Value) (hp : p.block < B) : OwnW B (w.setCell p u) a len cap xs := by
  refine ⟨⟨h.1.1, h.1.2.1, h.1.2.2.1, fun i hi => ?_⟩, fun b off i e hi => ?_⟩
  · obtain ⟨b, off, e1, e2, e3⟩ := h.1.2.2.2 i hi
    have hB := (h.2 b off i e1 hi).1
    exact ⟨b, off, e1, by simpa using e2, (World.cell?_setCell_other w _ _ _ (fun e => by have := congrArg Addr.block e; simp at this; omega)).trans e3⟩
  · have := h.2 b off i e hi
    exact ⟨this.1, (World.frozen?_setCell w _ _ _).trans this.2⟩
/-- The cells of a result that is still zero. -/
theorem zero_num {w W' : World} {r : Nat} (hb : Below (w.alloc (.cells #[.bool false, .slice none 0 0, .int .i64 0, .bool false] 52)).heap.size (w.alloc (.cells #[.bool false, .slice none 0 0, .int .i64 0, .bool false] 52)) W') (hr : r = w.heap.size) :
    W'.cell? ⟨r, 0, none⟩ = some (.bool false) ∧ W'.cell? ⟨r, 1, none⟩ = some (.slice none 0 0) ∧ W'.cell? ⟨r, 2, none⟩ = some (.int .i64 0) ∧ W'.cell? ⟨r, 3, none⟩ = some (.bool false) ∧ W'.frozen? ⟨r, 0, none⟩ = false ∧ W'.frozen? ⟨r, 1, none⟩ = false ∧ W'.frozen? ⟨r, 2, none⟩ = false ∧ W'.frozen? ⟨r, 3, none⟩ = false := by
  subst hr
  exact ⟨dcarry_cell hb (by go_simp), dcarry_cell hb (by go_simp), dcarry_cell hb (by go_simp), dcarry_cell hb (by go_simp), dcarry_frozen hb (v := .bool false) (by go_simp) (by go_simp), dcarry_frozen hb (v := .slice none 0 0) (by go_simp) (by go_simp), dcarry_frozen hb (v := .int .i64 0) (by go_simp) (by go_simp), dcarry_frozen hb (v := .bool false) (by go_simp) (by go_simp)⟩
theorem zero_dy {w W' : World} {r : Nat} (hb : Below (w.alloc (.cells #[.bool false, .slice none 0 0, .int .i64 0] 25)).heap.size (w.alloc (.cells #[.bool false, .slice none 0 0, .int .i64 0] 25)) W') (hr : r = w.heap.size) :
    W'.cell? ⟨r, 0, none⟩ = some (.bool false) ∧ W'.cell? ⟨r, 1, none⟩ = some (.slice none 0 0) ∧ W'.cell? ⟨r, 2, none⟩ = some (.int .i64 0) ∧ W'.frozen? ⟨r, 0, none⟩ = false ∧ W'.frozen? ⟨r, 1, none⟩ = false ∧ W'.frozen? ⟨r, 2, none⟩ = false := by
  subst hr
  exact ⟨dcarry_cell hb (by go_simp), dcarry_cell hb (by go_simp), dcarry_cell hb (by go_simp), dcarry_frozen hb (v := .bool false) (by go_simp) (by go_simp), dcarry_frozen hb (v := .slice none 0 0) (by go_simp) (by go_simp), dcarry_frozen hb (v := .int .i64 0) (by go_simp) (by go_simp)⟩

set_option maxHeartbeats 400000 in
theorem inBounds_calls (e : Int) (w : World) : Calls Tryd.prog 52 #[.int .i64 e] w fun r w' => r = .returned (.bool (inB e)) ∧ w' = w := by
  by_cases h1 : -32768 ≤ e
  · by_cases h2 : e ≤ 32768
    · have h3 : Hid (inB e = true) := by unfold inB; simp [Hid, h1, h2]
      go_enter Tryd.func52, Tryd.ntmps52
      go_wp2
      go_ret
      exact ⟨nret_bool h3.out.symm, rfl⟩
    · have h3 : Hid (inB e = false) := by unfold inB; simp [Hid, h1, h2]
      go_enter Tryd.func52, Tryd.ntmps52
      go_wp2
      go_ret
      exact ⟨nret_bool h3.out.symm, rfl⟩
  · have h3 : Hid (inB e = false) := by unfold inB; simp [Hid, h1]
    go_enter Tryd.func52, Tryd.ntmps52
    go_wp2
    go_ret
    exact ⟨nret_bool h3.out.symm, rfl⟩

section
variable (s : Bool) (a : Option Addr) (n c : Nat) (e : Int) (g : Bool) (w : World)

set_option maxHeartbeats 400000 in
theorem itself_calls : Calls Tryd.prog 26 #[numV s a n c e g] w fun r w' => r = .returned (numV s a n c e g) ∧ Below w.heap.size w w' := by
  go_enter Tryd.func26, Tryd.ntmps26
  go_wp2
  exact bodyPost_ret (v := numV s a n c e g) (by simp [results, Tryd.results26, go_sem]) rfl ⟨rfl, by repeat (first | exact Below.refl _ _ | refine Below.alloc ?_ (by simp; try omega) _)⟩

set_option maxHeartbeats 400000 in
theorem hasRoom_calls : Calls Tryd.prog 46 #[numV s a n c e g] w fun r w' => r = .returned (.bool (!g && inB e)) ∧ w' = w.alloc (.cells #[.bool s, .slice a n c, .int .i64 e, .bool g] 52) := by
  cases g
  · go_enter Tryd.func46, Tryd.ntmps46
    go_wp2_with fail
    refine Calls.mono (inBounds_calls e _) ?_
    rintro r w1 ⟨rfl, rfl⟩
    go_wp2_with fail
    go_ret
    exact ⟨rfl, rfl⟩
  · go_enter Tryd.func46, Tryd.ntmps46
    go_wp2_with fail
    go_ret
    exact ⟨rfl, rfl⟩

set_option maxHeartbeats 400000 in
theorem zero_calls : Calls Tryd.prog 54 #[numV s a n c e g] w fun r w' => r = .returned (.bool ((n : Int) == 0)) ∧ w' = w.alloc (.cells #[.bool s, .slice a n c, .int .i64 e, .bool g] 52) := by
  go_enter Tryd.func54, Tryd.ntmps54
  go_wp2
  go_ret
  exact ⟨rfl, rfl⟩

set_option maxHeartbeats 400000 in
theorem negated_calls : Calls Tryd.prog 50 #[numV s a n c e g] w fun r w' => r = .returned (numV (!s && !((n : Int) == 0)) a n c e g) ∧ Below w.heap.size w w' := by
  cases s
  · go_enter Tryd.func50, Tryd.ntmps50
    go_wp2_with fail
    refine Calls.mono (zero_calls _ _ _ _ _ _ _) ?_
    rintro r w1 ⟨rfl, rfl⟩
    go_wp2_with fail
    exact bodyPost_ret (v := numV (!((n : Int) == 0)) a n c e g) (by simp [results, Tryd.results50, go_sem]) rfl ⟨rfl, by repeat (first | exact Below.refl _ _ | refine Below.alloc ?_ (by simp; try omega) _)⟩
  · go_enter Tryd.func50, Tryd.ntmps50
    go_wp2_with fail
    exact bodyPost_ret (v := numV false a n c e g) (by simp [results, Tryd.results50, go_sem]) rfl ⟨rfl, by repeat (first | exact Below.refl _ _ | refine Below.alloc ?_ (by simp; try omega) _)⟩
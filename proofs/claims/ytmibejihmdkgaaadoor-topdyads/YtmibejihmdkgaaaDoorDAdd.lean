/- The walks of Add. -/
import Derived.Test.YtmibejihmdkgaaaDoorDPlus3
namespace Go.Proofs.YtmibejihmdkgaaaDoor
open Go.RowKit

theorem calls_guard {P : Program} {f : FuncId} {A : Array Value} {w : World} {Q : Ending → World → Prop} (A' : Array Value) (hA : A = A') (h : Calls P f A' w Q) : Calls P f A w Q := by rw [hA]; exact h
theorem cell_set4 {W : World} {b o r : Nat} {v0 v1 v2 v3 x : Value} (h : W.cell? ⟨b, o, none⟩ = some x) (hne : b ≠ r) : ((((W.setCell ⟨r, 0, none⟩ v0).setCell ⟨r, 1, none⟩ v1).setCell ⟨r, 2, none⟩ v2).setCell ⟨r, 3, none⟩ v3).cell? ⟨b, o, none⟩ = some x := by
  have key : ∀ (V : World) (k : Nat) (v : Value), V.cell? ⟨b, o, none⟩ = some x → (V.setCell ⟨r, k, none⟩ v).cell? ⟨b, o, none⟩ = some x := fun V k v q =>
    (World.cell?_setCell_other V _ _ _ (fun e => by have := congrArg Addr.block e; simp at this; omega)).trans q
  exact key _ _ _ (key _ _ _ (key _ _ _ (key _ _ _ h)))
theorem numR_form {B : Nat} {w : World} {v : Value} {p : Bool × Nat × Int} (h : NumR B w v p) : ∃ (s : Bool) (a : Option Addr) (n c : Nat) (e : Int) (g : Bool), v = numV s a n c e g ∧ Hid (NumR B w (numV s a n c e g) p) := by
  rcases h with ⟨q, ao, n, c, rfl, h⟩ | ⟨q, rfl⟩
  · exact ⟨p.1, ao, n, c, p.2.2, false, rfl, Or.inl ⟨q, ao, n, c, rfl, h⟩⟩
  · exact ⟨false, none, 0, 0, 0, true, rfl, Or.inr ⟨q, rfl⟩⟩
theorem NumR.far {B : Nat} {w : World} {v : Value} {p : Bool × Nat × Int} (h : NumR B w v p) (q : Addr) (u : Value) (hq : q.block < B) : NumR B (w.setCell q u) v p := by
  rcases h with ⟨g, ao, n, c, e, h1, h2, h3, h4⟩ | h
  · exact Or.inl ⟨g, ao, n, c, e, h1, h2, h3, h4.far q u hq⟩
  · exact Or.inr h
theorem NumR.keep {B : Nat} {w w' : World} {v : Value} {p : Bool × Nat × Int} (h : NumR B w v p) (hb : Below w.heap.size w w') : NumR B w' v p := by
  rcases h with ⟨q, h⟩ | h
  · exact Or.inl ⟨q, h.keep hb⟩
  · exact Or.inr h
theorem form_bounds (s : Bool) (m : Nat) (e : Int) (h : rightB m e = true) : -100000000 ≤ (formD s m e).2.2 ∧ (formD s m e).2.2 ≤ 100000000 := by
  obtain ⟨h1, h2, h3⟩ := rightB_yes h
  by_cases h0 : m = 0
  · rw [h0, form_zero]; exact ⟨by decide, by decide⟩
  · rw [form_pos s h0]
    have := tz_le_blen m
    have := (great_not m).1 h1
    show _ ≤ e + (tz m : Int) ∧ e + (tz m : Int) ≤ _
    omega
theorem form_fit (s : Bool) (m : Nat) (e : Int) (h : rightB m e = true) : greatB (formD s m e).2.1 = false := great_mono (form_amount_le _ _ _) (rightB_yes h).1
theorem right_exp {m : Nat} {e : Int} (h : rightB m e = true) : -4611686018427387904 ≤ e ∧ e ≤ 4611686018427387904 := by
  have := (rightB_yes h).2; omega
theorem hidN {B : Nat} {w : World} {s : Bool} {a : Option Addr} {n c : Nat} {e : Int} {p : Bool × Nat × Int} (h1 : s = p.1) (h2 : e = p.2.2) (h3 : Hid (n = (wordsOf p.2.1).length)) (h4 : Hid (n = 0 → a = none ∧ c = 0)) (h5 : n ≤ 1024) (h6 : OwnW B w a n c (wordsOf p.2.1)) : NumAt B w (numV s a n c e false) p := by
  subst h1; subst h2
  exact ⟨a, n, c, rfl, h3, h4, h5, h6⟩

attribute [local go_sem ↓] Go.wp_at_zero Go.wp_at_succ

set_option maxRecDepth 100000 in
set_option maxHeartbeats 4000000 in
theorem add1_calls (b1 b2 : Nat) (s : Bool) (a : Option Addr) (len cap : Nat) (xs : List Int) (e : Int) (s' : Bool) (a' : Option Addr) (len' cap' : Nat) (ys : List Int) (e' : Int) (w : World) (h : IsW w a len cap xs) (hm : len ≤ 17592186044416) (h' : IsW w a' len' cap' ys) (hm' : len' ≤ 17592186044416) (hT : Tab w) (hr : rightB (val xs) e = true) (hr' : rightB (val ys) e' = true)
    (k0 : w.cell? ⟨b1, 0, none⟩ = some (.bool s)) (k1 : w.cell? ⟨b1, 1, none⟩ = some (.slice a len cap)) (k2 : w.cell? ⟨b1, 2, none⟩ = some (.int .i64 e))
    (l0 : w.cell? ⟨b2, 0, none⟩ = some (.bool s')) (l1 : w.cell? ⟨b2, 1, none⟩ = some (.slice a' len' cap')) (l2 : w.cell? ⟨b2, 2, none⟩ = some (.int .i64 e')) :
    Calls Tryd.prog 18 #[.pointer (some ⟨b1, 0, none⟩), .pointer (some ⟨b2, 0, none⟩)] w fun r w' => ∃ v, r = .returned v ∧ NumR w.heap.size w' v (sumD (formD s (val xs) e) (formD s' (val ys) e')) ∧ Below w.heap.size w w' := by
  have HCGX : Hid (canG s (val xs) e = (formD s (val xs) e)) := canG_no (rightB_yes hr).1
  have HCGY : Hid (canG s' (val ys) e' = (formD s' (val ys) e')) := canG_no (rightB_yes hr').1
  have HEBX : Hid _ := right_exp hr
  have HEBY : Hid _ := right_exp hr'
  have HGX : Hid _ := form_fit s (val xs) e hr
  have HGY : Hid _ := form_fit s' (val ys) e' hr'
  have HBX : Hid _ := form_bounds s (val xs) e hr
  have HBY : Hid _ := form_bounds s' (val ys) e' hr'
  have hl1 : b1 < w.heap.size := World.block_lt_of_cell? _ _ k0
  have hl2 : b2 < w.heap.size := World.block_lt_of_cell? _ _ l0
  have hn1 : b1 ≠ w.heap.size := Nat.ne_of_lt hl1
  have hn2 : b2 ≠ w.heap.size := Nat.ne_of_lt hl2
  have hbw0 : Below w.heap.size w (w.alloc (.cells #[.bool false, .slice none 0 0, .int .i64 0, .bool false] 46)).drew := (below_one _ _).drew
  clear hr hr'
  go_enter Tryd.func18, Tryd.ntmps18
  go_wp2_with fail
  go_region_with (first
      | (go_at_call 19; refine calls_guard #[dyV s a len cap e] ?_ ?_; (focus rfl); refine (canonical_calls s a len cap xs e _ (h.keep (by repeat (first | exact hbwY | exact Below.refl _ _ | apply Below.drew | refine Below.alloc ?_ (by simp; try omega) _))) hm (hT.kept (by repeat (first | exact hbwY | exact Below.refl _ _ | apply Below.drew | refine Below.alloc ?_ (by simp; try omega) _)))).mono ?_; rintro r wX ⟨aX, nX, cX, eX, rfl, HEX, HNX, HZX, hnX, hOX, hbX⟩; have hbwX : Below w.heap.size w wX := nbelow_trans (by repeat (first | exact hbwY | exact Below.refl _ _ | apply Below.drew | refine Below.alloc ?_ (by simp; try omega) _)) hbX; have hbzX : Below (w.alloc (.cells #[.bool false, .slice none 0 0, .int .i64 0, .bool false] 46)).heap.size (w.alloc (.cells #[.bool false, .slice none 0 0, .int .i64 0, .bool false] 46)) wX := nbelow_trans (by repeat (first | exact hbzY | exact Below.refl _ _ | apply Below.drew | refine Below.alloc ?_ (by simp; try omega) _)) hbX; obtain rfl := HEX.out HEBX.out.1 HEBX.out.2; rw [HCGX.out] at hOX HNX ⊢; clear HEX; have hPX := hOX.low (B' := w.heap.size + 1) (by first | (have := hbzY.size; simp at this ⊢; omega) | simp); have qX0 := dcarry_cell hbwX k0; have qX1 := dcarry_cell hbwX k1; have qX2 := dcarry_cell hbwX k2; have qX3 := dcarry_cell hbwX l0; have qX4 := dcarry_cell hbwX l1; have qX5 := dcarry_cell hbwX l2)
      | (go_at_call 19; refine calls_guard #[dyV s' a' len' cap' e'] ?_ ?_; (focus rfl); refine (canonical_calls s' a' len' cap' ys e' _ (h'.keep (by repeat (first | exact hbwX | exact Below.refl _ _ | apply Below.drew | refine Below.alloc ?_ (by simp; try omega) _))) hm' (hT.kept (by repeat (first | exact hbwX | exact Below.refl _ _ | apply Below.drew | refine Below.alloc ?_ (by simp; try omega) _)))).mono ?_; rintro r wY ⟨aY, nY, cY, eY, rfl, HEY, HNY, HZY, hnY, hOY, hbY⟩; have hbwY : Below w.heap.size w wY := nbelow_trans (by repeat (first | exact hbwX | exact Below.refl _ _ | apply Below.drew | refine Below.alloc ?_ (by simp; try omega) _)) hbY; have hbzY : Below (w.alloc (.cells #[.bool false, .slice none 0 0, .int .i64 0, .bool false] 46)).heap.size (w.alloc (.cells #[.bool false, .slice none 0 0, .int .i64 0, .bool false] 46)) wY := nbelow_trans (by repeat (first | exact hbzX | exact Below.refl _ _ | apply Below.drew | refine Below.alloc ?_ (by simp; try omega) _)) hbY; obtain rfl := HEY.out HEBY.out.1 HEBY.out.2; rw [HCGY.out] at hOY HNY ⊢; clear HEY; have hPY := hOY.low (B' := w.heap.size + 1) (by first | (have := hbzX.size; simp at this ⊢; omega) | simp); have qY0 := dcarry_cell hbwY k0; have qY1 := dcarry_cell hbwY k1; have qY2 := dcarry_cell hbwY k2; have qY3 := dcarry_cell hbwY l0; have qY4 := dcarry_cell hbwY l1; have qY5 := dcarry_cell hbwY l2)
      | (go_at_call 20; (first | (have hQX := hPX.keep hbY) | (have hQX := hPX)); (first | (have hQY := hPY.keep hbX) | (have hQY := hPY)); (first | (have hTc := hT.kept (nbelow_trans hbwX hbY)) | (have hTc := hT.kept (nbelow_trans hbwY hbX))); refine (dplus_calls (w.heap.size + 1) _ _ (formD s (val xs) e) (formD s' (val ys) e') _ (by first | (have := hbzY.size; simp at this; omega) | (have := hbzX.size; simp at this; omega)) (hidN rfl rfl HNX HZX hnX hQX) (hidN rfl rfl HNY HZY hnY hQY) HGX.out HGY.out (form_can _ _ _) (form_can _ _ _) HBX.out HBY.out hTc).mono ?_; rintro r wP ⟨vP, rfl, hNP, hbP⟩; obtain ⟨s5, a5, n5, c5, e5, g5, rfl, HNR⟩ := numR_form hNP; (first | (have hbwP := nbelow_trans hbwY hbP) | (have hbwP := nbelow_trans hbwX hbP)); (first | (have hbzP := nbelow_trans hbzY hbP) | (have hbzP := nbelow_trans hbzX hbP)); obtain ⟨m0, m1, m2, m3, f0, f1, f2, f3⟩ := zero_num (r := w.heap.size) hbzP rfl; clear hNP))
  all_goals
    go_wp2_with fail
    refine bodyPost_ret (v := numV s5 a5 n5 c5 e5 g5) (by simp [results, Tryd.results18, go_sem, m0, m1, m2, m3]) rfl ⟨_, rfl, ((((HNR.out.far _ _ (by show w.heap.size < _; omega)).far _ _ (by show w.heap.size < _; omega)).far _ _ (by show w.heap.size < _; omega)).far _ _ (by show w.heap.size < _; omega)).low (by omega), ?_⟩
    exact (((hbwP.setCell (Nat.le_refl _) _).setCell (Nat.le_refl _) _).setCell (Nat.le_refl _) _).setCell (Nat.le_refl _) _

end Go.Proofs.YtmibejihmdkgaaaDoor

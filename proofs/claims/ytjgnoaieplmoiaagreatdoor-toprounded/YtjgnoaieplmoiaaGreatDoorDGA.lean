/- The walks of sums of numbers: twice and one; level ones together. The walks of sums of numbers: together, apart. The walk of plus. The walks of Add. The walk of Add. The walks of cuts. The walks of Cut. The walks of Int, Check, Zero. -/
import Derived.Test.YtjgnoaieplmoiaaGreatDoorTMB

namespace Go.Proofs.YtjgnoaieplmoiaaGreatDoor
open Go.RowKit

theorem great_one : greatB 1 = false := (great_not 1).2 (by have := (blen_le 1 1).2 (by decide); omega)
theorem shr1 {m : Nat} (h : greatB m = false) : shrQ m 1 = m / 2 ∧ shrL m 1 = lostB m 1 ∧ shrE m 1 = 0 := by
  obtain ⟨e1, e2, e3⟩ := shr_fit (u := m) (j := 1) h
  exact ⟨by simpa using e2, by simpa using e3, by simpa using e1⟩
theorem blen_twice (h : Nat) (h0 : h ≠ 0) : blen (2 * h) = 1 + blen h ∧ blen (2 * h + 1) = 1 + blen h := by
  have e1 := blen_shift 1 0 h (by decide) h0
  have e2 := blen_shift 1 1 h (by decide) h0
  rw [Nat.pow_one] at e1 e2
  rw [Nat.zero_add] at e1
  rw [Nat.add_comm 1] at e2
  exact ⟨e1, e2⟩
theorem shl1_cases (h : Nat) (hg : greatB h = false) : (shlR h 1 = (2 * h, 0) ∧ greatB (2 * h) = false) ∨ (shlR h 1 = (0, 3) ∧ greatB (2 * h + 1) = true) := by
  by_cases h0 : h = 0
  · subst h0
    exact Or.inl ⟨shlR_zero hg (by decide) rfl, hg⟩
  · obtain ⟨b1, b2⟩ := blen_twice h h0
    by_cases hc : 65536 - (blen h : Int) < 1
    · exact Or.inr ⟨shlR_many hg (by decide) h0 hc, by rw [great_iff]; omega⟩
    · refine Or.inl ⟨?_, by rw [great_not]; omega⟩
      rw [shlR_fit hg (by decide) h0 (by omega)]
      simp [Nat.mul_comm]
theorem halves_fit {mx my : Nat} (hx : greatB mx = false) (hy : greatB my = false) (hox : mx % 2 = 1) (hoy : my % 2 = 1) : greatB (mx / 2 + my / 2) = false ∧ greatB (mx / 2 + my / 2 + 1) = false := by
  have h2 : greatB (mx / 2 + my / 2 + 1) = false := by
    rcases Nat.le_total mx my with q | q
    · exact great_mono (show mx / 2 + my / 2 + 1 ≤ my by omega) hy
    · exact great_mono (show mx / 2 + my / 2 + 1 ≤ mx by omega) hx
  exact ⟨great_mono (Nat.le_succ _) h2, h2⟩
theorem halves_form (s : Bool) (mx my : Nat) (e : Int) (hox : mx % 2 = 1) (hoy : my % 2 = 1) : formD s (mx / 2 + my / 2 + 1) (e + 1) = formD s (mx + my) e := by
  have h := form_shift s (mx / 2 + my / 2 + 1) 1 e
  rw [Nat.pow_one, show (mx / 2 + my / 2 + 1) * 2 = mx + my by omega] at h
  rw [h]; rfl





end Go.Proofs.YtjgnoaieplmoiaaGreatDoor

namespace Go.Proofs.YtjgnoaieplmoiaaGreatDoor
open Go.RowKit

theorem shl_odd (mx my dd : Nat) (hd : 0 < dd) (ho : my % 2 = 1) : (mx * 2 ^ dd + my) % 2 = 1 := by
  obtain ⟨k, rfl⟩ : ∃ k, dd = k + 1 := ⟨dd - 1, by omega⟩
  rw [Nat.pow_succ, ← Nat.mul_assoc]; omega
theorem shl_cases (m dd b : Nat) (hg : greatB m = false) : (shlR m (dd : Int) = (m * 2 ^ dd, 0) ∧ greatB (m * 2 ^ dd) = false) ∨ (shlR m (dd : Int) = (0, 3) ∧ greatB (m * 2 ^ dd + b) = true ∧ 65536 < blen (m * 2 ^ dd)) := by
  by_cases h0 : m = 0
  · subst h0
    rw [Nat.zero_mul]
    exact Or.inl ⟨shlR_zero hg (by omega) rfl, great_zero⟩
  · have hb := blen_mul m dd h0
    by_cases hc : 65536 - (blen m : Int) < (dd : Int)
    · refine Or.inr ⟨shlR_many hg (by omega) h0 hc, ?_, by omega⟩
      rw [great_iff]
      have := blen_mono (Nat.le_add_right (m * 2 ^ dd) b)
      omega
    · refine Or.inl ⟨?_, by rw [great_not]; omega⟩
      rw [shlR_fit hg (by omega) h0 (by omega), Int.toNat_natCast]










end Go.Proofs.YtjgnoaieplmoiaaGreatDoor

namespace Go.Proofs.YtjgnoaieplmoiaaGreatDoor
open Go.RowKit







/-- The sum of two numbers in their one form: the amounts brought to the lower exponent. -/
def addHi (s : Bool) (A : Nat) (t : Bool) (b : Nat) (e : Int) : Bool × Nat × Int := if s = t then formD s (A + b) e else if b ≤ A then formD s (A - b) e else formD t (b - A) e
def sumD (x y : Bool × Nat × Int) : Bool × Nat × Int :=
  if x.2.1 = 0 then y else if y.2.1 = 0 then x else
  if x.2.2 < y.2.2 then addHi y.1 (y.2.1 * 2 ^ (y.2.2 - x.2.2).toNat) x.1 x.2.1 x.2.2 else addHi x.1 (x.2.1 * 2 ^ (x.2.2 - y.2.2).toNat) y.1 y.2.1 y.2.2



theorem NumR.low {B B' : Nat} {w : World} {v : Value} {p : Bool × Nat × Int} (h : NumR B w v p) (hB : B' ≤ B) : NumR B' w v p := by
  rcases h with ⟨q, h⟩ | h
  · exact Or.inl ⟨q, h.low hB⟩
  · exact Or.inr h

end Go.Proofs.YtjgnoaieplmoiaaGreatDoor

namespace Go.Proofs.YtjgnoaieplmoiaaGreatDoor
open Go.RowKit

theorem calls_guard {P : Program} {f : FuncId} {A : Array Value} {w : World} {Q : Ending → World → Prop} (A' : Array Value) (hA : A = A') (h : Calls P f A' w Q) : Calls P f A w Q := by rw [hA]; exact h
theorem cell_set4 {W : World} {b o r : Nat} {v0 v1 v2 v3 x : Value} (h : W.cell? ⟨b, o, none⟩ = some x) (hne : b ≠ r) : ((((W.setCell ⟨r, 0, none⟩ v0).setCell ⟨r, 1, none⟩ v1).setCell ⟨r, 2, none⟩ v2).setCell ⟨r, 3, none⟩ v3).cell? ⟨b, o, none⟩ = some x := by
  have key : ∀ (V : World) (k : Nat) (v : Value), V.cell? ⟨b, o, none⟩ = some x → (V.setCell ⟨r, k, none⟩ v).cell? ⟨b, o, none⟩ = some x := fun V k v q =>
    (World.cell?_setCell_other V _ _ _ (fun e => by have := congrArg Addr.block e; simp at this; omega)).trans q
  exact key _ _ _ (key _ _ _ (key _ _ _ (key _ _ _ h)))
theorem numR_form {B : Nat} {w : World} {v : Value} {p : Bool × Nat × Int} (h : NumR B w v p) : ∃ (s : Bool) (a : Option Addr) (n c : Nat) (e : Int) (g : Bool), v = numV s a n c e g ∧ Hid (NumR B w (numV s a n c e g) p) := by
  rcases h with ⟨q, ao, n, c, rfl, h⟩ | ⟨q, rfl⟩
  · exact ⟨p.1, ao, n, c, p.2.2, false, rfl, Or.inl ⟨q, ao, n, c, rfl, h⟩⟩
  · exact ⟨false, none, 0, 0, 0, true, rfl, Or.inr ⟨q, rfl⟩⟩
theorem NumR.far {B : Nat} {w : World} {v : Value} {p : Bool × Nat × Int} (h : NumR B w v p) (q : Addr) (u : Value) (hq : q.block < B) : NumR B (w.setCell q u) v p := by
  rcases h with ⟨g, ao, n, c, e, h1, h2, h3, h4⟩ | h
  · exact Or.inl ⟨g, ao, n, c, e, h1, h2, h3, h4.far q u hq⟩
  · exact Or.inr h
theorem NumR.keep {B : Nat} {w w' : World} {v : Value} {p : Bool × Nat × Int} (h : NumR B w v p) (hb : Below w.heap.size w w') : NumR B w' v p := by
  rcases h with ⟨q, h⟩ | h
  · exact Or.inl ⟨q, h.keep hb⟩
  · exact Or.inr h
theorem form_bounds (s : Bool) (m : Nat) (e : Int) (h : rightB m e = true) : -100000000 ≤ (formD s m e).2.2 ∧ (formD s m e).2.2 ≤ 100000000 := by
  obtain ⟨h1, h2, h3⟩ := rightB_yes h
  by_cases h0 : m = 0
  · rw [h0, form_zero]; exact ⟨by decide, by decide⟩
  · rw [form_pos s h0]
    have := tz_le_blen m
    have := (great_not m).1 h1
    show _ ≤ e + (tz m : Int) ∧ e + (tz m : Int) ≤ _
    omega
theorem form_fit (s : Bool) (m : Nat) (e : Int) (h : rightB m e = true) : greatB (formD s m e).2.1 = false := great_mono (form_amount_le _ _ _) (rightB_yes h).1
theorem right_exp {m : Nat} {e : Int} (h : rightB m e = true) : -4611686018427387904 ≤ e ∧ e ≤ 4611686018427387904 := by
  have := (rightB_yes h).2; omega
theorem hidN {B : Nat} {w : World} {s : Bool} {a : Option Addr} {n c : Nat} {e : Int} {p : Bool × Nat × Int} (h1 : s = p.1) (h2 : e = p.2.2) (h3 : Hid (n = (wordsOf p.2.1).length)) (h4 : Hid (n = 0 → a = none ∧ c = 0)) (h5 : n ≤ 1024) (h6 : OwnW B w a n c (wordsOf p.2.1)) : NumAt B w (numV s a n c e false) p := by
  subst h1; subst h2
  exact ⟨a, n, c, rfl, h3, h4, h5, h6⟩

attribute [local go_sem ↓] Go.wp_at_zero Go.wp_at_succ


end Go.Proofs.YtjgnoaieplmoiaaGreatDoor

namespace Go.Proofs.YtjgnoaieplmoiaaGreatDoor
open Go.RowKit


end Go.Proofs.YtjgnoaieplmoiaaGreatDoor

namespace Go.Proofs.YtjgnoaieplmoiaaGreatDoor
open Go.RowKit

theorem shr_room2 {m j : Nat} (h : greatB m = false) (hj : 0 < j) : greatB (m / 2 ^ j) = false ∧ greatB (m / 2 ^ j + 1) = false := by
  have h1 := great_mono (Nat.div_le_self m (2 ^ j)) h
  refine ⟨h1, ?_⟩
  by_cases h0 : m = 0
  · subst h0; rw [Nat.zero_div]; exact great_one
  · refine great_mono ?_ h
    have h2 : m / 2 ^ j < m := Nat.div_lt_self (by omega) (Nat.one_lt_two_pow (by omega))
    exact h2

set_option maxRecDepth 100000 in
set_option maxHeartbeats 2000000 in
theorem without_more (sx : Bool) (ax : Option Addr) (nx cx : Nat) (mx : Nat) (ex : Int) (w : World) (hIx : IsW w ax nx cx (wordsOf mx)) (hnx : nx ≤ 1024) (hgx : greatB mx = false) (hex : -100000000 ≤ ex ∧ ex ≤ 100000000) (hT : Tab w) (j : Nat) (hj1 : 0 < j) (hj2 : j ≤ 65536) :
    Calls Tryz.prog 52 #[numV sx ax nx cx ex false, .int .i64 (j : Int), .bool true] w fun r w' => ∃ v, r = .returned v ∧ NumR w.heap.size w' v (formD sx (mx / 2 ^ j + 1) (ex + (j : Int))) ∧ Below w.heap.size w w' := by
  obtain ⟨hex1, hex2⟩ := hex
  have HG : Hid (greatB mx = false) := hgx
  have HU : Hid (greatB (mx / 2 ^ j) = false ∧ greatB (mx / 2 ^ j + 1) = false) := shr_room2 hgx hj1
  have HS : Hid _ := shr_fit (u := mx) (j := j) hgx
  clear hgx
  go_enter Tryz.func52, Tryz.ntmps52
  go_wp2_with fail
  have hz_0 : Below ((w.alloc (.cells #[.bool sx, .slice ax nx cx, .int .i64 ex, .bool false] 62)).alloc (.cells #[.bool false, .slice none 0 0, .int .i64 0, .bool false] 62)).heap.size ((w.alloc (.cells #[.bool sx, .slice ax nx cx, .int .i64 ex, .bool false] 62)).alloc (.cells #[.bool false, .slice none 0 0, .int .i64 0, .bool false] 62)) ((w.alloc (.cells #[.bool sx, .slice ax nx cx, .int .i64 ex, .bool false] 62)).alloc (.cells #[.bool false, .slice none 0 0, .int .i64 0, .bool false] 62)) := Below.refl _ _
  have hw_0 : Below w.heap.size w ((w.alloc (.cells #[.bool sx, .slice ax nx cx, .int .i64 ex, .bool false] 62)).alloc (.cells #[.bool false, .slice none 0 0, .int .i64 0, .bool false] 62)) := by repeat (first | exact Below.refl _ _ | refine Below.alloc ?_ (by simp; try omega) _)
  have kx0_0 : ((w.alloc (.cells #[.bool sx, .slice ax nx cx, .int .i64 ex, .bool false] 62)).alloc (.cells #[.bool false, .slice none 0 0, .int .i64 0, .bool false] 62)).cell? ⟨w.heap.size, 0, none⟩ = some (.bool sx) := by go_simp
  have kx1_0 : ((w.alloc (.cells #[.bool sx, .slice ax nx cx, .int .i64 ex, .bool false] 62)).alloc (.cells #[.bool false, .slice none 0 0, .int .i64 0, .bool false] 62)).cell? ⟨w.heap.size, 1, none⟩ = some (.slice ax nx cx) := by go_simp
  have kx2_0 : ((w.alloc (.cells #[.bool sx, .slice ax nx cx, .int .i64 ex, .bool false] 62)).alloc (.cells #[.bool false, .slice none 0 0, .int .i64 0, .bool false] 62)).cell? ⟨w.heap.size, 2, none⟩ = some (.int .i64 ex) := by go_simp
  have kx3_0 : ((w.alloc (.cells #[.bool sx, .slice ax nx cx, .int .i64 ex, .bool false] 62)).alloc (.cells #[.bool false, .slice none 0 0, .int .i64 0, .bool false] 62)).cell? ⟨w.heap.size, 3, none⟩ = some (.bool false) := by go_simp
  have hIx_0 := hIx.keep hw_0
  have hT_0 := hT.kept hw_0
  refine Calls.mono (shr_eq (i := (j : Int)) (r := mx / 2 ^ j) (l := lostB mx j) (k := 0) hIx_0 (by omega) (by omega) (by rw [val_words]; exact HS.out.2.1) (by rw [val_words]; exact HS.out.2.2) (by rw [val_words]; exact HS.out.1)) ?_
  rintro r w_1 ⟨a1, n1, c1, rfl, HN1, hn1, hO1_1, hb_1⟩
  have hz_1 := nbelow_trans hz_0 hb_1
  have hw_1 := nbelow_trans hw_0 hb_1
  have kx0_1 := dcarry_cell hb_1 kx0_0
  have kx1_1 := dcarry_cell hb_1 kx1_0
  have kx2_1 := dcarry_cell hb_1 kx2_0
  have kx3_1 := dcarry_cell hb_1 kx3_0
  have hIx_1 := hIx_0.keep hb_1
  have hT_1 := hT_0.kept hb_1
  clear hz_0 hw_0 kx0_0 kx1_0 kx2_0 kx3_0 hIx_0 hT_0 hb_1
  go_wp2_with fail
  refine Calls.mono (of_eq 1 _ (by decide)) ?_
  rintro r w_2 ⟨a2, n2, c2, rfl, HN2, hn2, hO2_2, hb_2⟩
  have hz_2 := nbelow_trans hz_1 hb_2
  have hw_2 := nbelow_trans hw_1 hb_2
  have kx0_2 := dcarry_cell hb_2 kx0_1
  have kx1_2 := dcarry_cell hb_2 kx1_1
  have kx2_2 := dcarry_cell hb_2 kx2_1
  have kx3_2 := dcarry_cell hb_2 kx3_1
  have hIx_2 := hIx_1.keep hb_2
  have hT_2 := hT_1.kept hb_2
  have hO1_2 := hO1_1.keep hb_2
  clear hz_1 hw_1 kx0_1 kx1_1 kx2_1 kx3_1 hIx_1 hT_1 hO1_1 hb_2
  go_wp2_with fail
  refine Calls.mono (add_eq (r := mx / 2 ^ j + 1) (k := 0) hO1_2.1 hO2_2.1 (by omega) (by omega) (by rw [val_words, val_words, addR_no (by rw [HU.out.1, great_one]; rfl), fitR_no HU.out.2])) ?_
  rintro r w_3 ⟨a3, n3, c3, rfl, HN3, hn3, hO3_3, hb_3⟩
  have hz_3 := nbelow_trans hz_2 hb_3
  have hw_3 := nbelow_trans hw_2 hb_3
  have kx0_3 := dcarry_cell hb_3 kx0_2
  have kx1_3 := dcarry_cell hb_3 kx1_2
  have kx2_3 := dcarry_cell hb_3 kx2_2
  have kx3_3 := dcarry_cell hb_3 kx3_2
  have hIx_3 := hIx_2.keep hb_3
  have hT_3 := hT_2.kept hb_3
  have hO1_3 := hO1_2.keep hb_3
  have hO2_3 := hO2_2.keep hb_3
  clear hz_2 hw_2 kx0_2 kx1_2 kx2_2 kx3_2 hIx_2 hT_2 hO1_2 hO2_2 hb_3
  have hsz : w.heap.size + 1 < w_3.heap.size := by have := hz_3.size; simp at this; omega
  go_wp2_with fail
  refine Calls.mono (reckoned_ok sx a3 n3 c3 (wordsOf (mx / 2 ^ j + 1)) (ex + (j : Int)) w_3 hO3_3.1 (by omega) hT_3 (by rw [val_words]; exact HU.out.2) ⟨by omega, by omega⟩) ?_
  rintro r w_4 ⟨v, rfl, hN1, hb_4⟩
  have hz_4 := nbelow_trans hz_3 hb_4
  have hw_4 := nbelow_trans hw_3 hb_4
  have kx0_4 := dcarry_cell hb_4 kx0_3
  have kx1_4 := dcarry_cell hb_4 kx1_3
  have kx2_4 := dcarry_cell hb_4 kx2_3
  have kx3_4 := dcarry_cell hb_4 kx3_3
  have hIx_4 := hIx_3.keep hb_4
  have hT_4 := hT_3.kept hb_4
  have hO1_4 := hO1_3.keep hb_4
  have hO2_4 := hO2_3.keep hb_4
  have hO3_4 := hO3_3.keep hb_4
  clear hz_3 hw_3 kx0_3 kx1_3 kx2_3 kx3_3 hIx_3 hT_3 hO1_3 hO2_3 hO3_3 hb_4
  rw [val_words] at hN1
  have hN : NumR _ _ _ (formD sx (mx / 2 ^ j + 1) (ex + (j : Int))) := Or.inl ⟨great_mono (form_amount_le _ _ _) HU.out.2, hN1⟩
  clear hN1
  rcases hN with ⟨hg, ao, nn, cc, rfl, HN, HZ, hnn, hO⟩ | ⟨hg, rfl⟩
  · obtain ⟨m0, m1, m2, m3, f0, f1, f2, f3⟩ := zero_num (w := (w.alloc (.cells #[.bool sx, .slice ax nx cx, .int .i64 ex, .bool false] 62))) (r := w.heap.size + 1) hz_4 (by simp)
    go_wp2_with fail
    refine bodyPost_ret (v := numV (formD sx (mx / 2 ^ j + 1) (ex + (j : Int))).1 ao nn cc (formD sx (mx / 2 ^ j + 1) (ex + (j : Int))).2.2 false) (by simp [results, Tryz.results52, go_sem, m0, m1, m2, m3]) rfl ?_
    exact ⟨_, rfl, Or.inl ⟨hg, ao, nn, cc, rfl, HN, HZ, hnn, ((((hO.far _ _ (by show w.heap.size + 1 < _; omega)).far _ _ (by show w.heap.size + 1 < _; omega)).far _ _ (by show w.heap.size + 1 < _; omega)).far _ _ (by show w.heap.size + 1 < _; omega)).low (by omega)⟩, (((hw_4.setCell (by show w.heap.size ≤ w.heap.size + 1; omega) _).setCell (by show w.heap.size ≤ w.heap.size + 1; omega) _).setCell (by show w.heap.size ≤ w.heap.size + 1; omega) _).setCell (by show w.heap.size ≤ w.heap.size + 1; omega) _⟩
  · obtain ⟨m0, m1, m2, m3, f0, f1, f2, f3⟩ := zero_num (w := (w.alloc (.cells #[.bool sx, .slice ax nx cx, .int .i64 ex, .bool false] 62))) (r := w.heap.size + 1) hz_4 (by simp)
    go_wp2_with fail
    refine bodyPost_ret (v := numV false none 0 0 0 true) (by simp [results, Tryz.results52, go_sem, m0, m1, m2, m3]) rfl ?_
    exact ⟨_, rfl, Or.inr ⟨hg, rfl⟩, (((hw_4.setCell (by show w.heap.size ≤ w.heap.size + 1; omega) _).setCell (by show w.heap.size ≤ w.heap.size + 1; omega) _).setCell (by show w.heap.size ≤ w.heap.size + 1; omega) _).setCell (by show w.heap.size ≤ w.heap.size + 1; omega) _⟩

set_option maxRecDepth 100000 in
set_option maxHeartbeats 2000000 in
theorem without_less (sx : Bool) (ax : Option Addr) (nx cx : Nat) (mx : Nat) (ex : Int) (w : World) (hIx : IsW w ax nx cx (wordsOf mx)) (hnx : nx ≤ 1024) (hgx : greatB mx = false) (hex : -100000000 ≤ ex ∧ ex ≤ 100000000) (hT : Tab w) (j : Nat) (hj1 : 0 < j) (hj2 : j ≤ 65536) :
    Calls Tryz.prog 52 #[numV sx ax nx cx ex false, .int .i64 (j : Int), .bool false] w fun r w' => ∃ v, r = .returned v ∧ NumR w.heap.size w' v (formD sx (mx / 2 ^ j) (ex + (j : Int))) ∧ Below w.heap.size w w' := by
  obtain ⟨hex1, hex2⟩ := hex
  have HG : Hid (greatB mx = false) := hgx
  have HU : Hid (greatB (mx / 2 ^ j) = false ∧ greatB (mx / 2 ^ j + 1) = false) := shr_room2 hgx hj1
  have HS : Hid _ := shr_fit (u := mx) (j := j) hgx
  clear hgx
  go_enter Tryz.func52, Tryz.ntmps52
  go_wp2_with fail
  have hz_0 : Below ((w.alloc (.cells #[.bool sx, .slice ax nx cx, .int .i64 ex, .bool false] 62)).alloc (.cells #[.bool false, .slice none 0 0, .int .i64 0, .bool false] 62)).heap.size ((w.alloc (.cells #[.bool sx, .slice ax nx cx, .int .i64 ex, .bool false] 62)).alloc (.cells #[.bool false, .slice none 0 0, .int .i64 0, .bool false] 62)) ((w.alloc (.cells #[.bool sx, .slice ax nx cx, .int .i64 ex, .bool false] 62)).alloc (.cells #[.bool false, .slice none 0 0, .int .i64 0, .bool false] 62)) := Below.refl _ _
  have hw_0 : Below w.heap.size w ((w.alloc (.cells #[.bool sx, .slice ax nx cx, .int .i64 ex, .bool false] 62)).alloc (.cells #[.bool false, .slice none 0 0, .int .i64 0, .bool false] 62)) := by repeat (first | exact Below.refl _ _ | refine Below.alloc ?_ (by simp; try omega) _)
  have kx0_0 : ((w.alloc (.cells #[.bool sx, .slice ax nx cx, .int .i64 ex, .bool false] 62)).alloc (.cells #[.bool false, .slice none 0 0, .int .i64 0, .bool false] 62)).cell? ⟨w.heap.size, 0, none⟩ = some (.bool sx) := by go_simp
  have kx1_0 : ((w.alloc (.cells #[.bool sx, .slice ax nx cx, .int .i64 ex, .bool false] 62)).alloc (.cells #[.bool false, .slice none 0 0, .int .i64 0, .bool false] 62)).cell? ⟨w.heap.size, 1, none⟩ = some (.slice ax nx cx) := by go_simp
  have kx2_0 : ((w.alloc (.cells #[.bool sx, .slice ax nx cx, .int .i64 ex, .bool false] 62)).alloc (.cells #[.bool false, .slice none 0 0, .int .i64 0, .bool false] 62)).cell? ⟨w.heap.size, 2, none⟩ = some (.int .i64 ex) := by go_simp
  have kx3_0 : ((w.alloc (.cells #[.bool sx, .slice ax nx cx, .int .i64 ex, .bool false] 62)).alloc (.cells #[.bool false, .slice none 0 0, .int .i64 0, .bool false] 62)).cell? ⟨w.heap.size, 3, none⟩ = some (.bool false) := by go_simp
  have hIx_0 := hIx.keep hw_0
  have hT_0 := hT.kept hw_0
  refine Calls.mono (shr_eq (i := (j : Int)) (r := mx / 2 ^ j) (l := lostB mx j) (k := 0) hIx_0 (by omega) (by omega) (by rw [val_words]; exact HS.out.2.1) (by rw [val_words]; exact HS.out.2.2) (by rw [val_words]; exact HS.out.1)) ?_
  rintro r w_1 ⟨a1, n1, c1, rfl, HN1, hn1, hO1_1, hb_1⟩
  have hz_1 := nbelow_trans hz_0 hb_1
  have hw_1 := nbelow_trans hw_0 hb_1
  have kx0_1 := dcarry_cell hb_1 kx0_0
  have kx1_1 := dcarry_cell hb_1 kx1_0
  have kx2_1 := dcarry_cell hb_1 kx2_0
  have kx3_1 := dcarry_cell hb_1 kx3_0
  have hIx_1 := hIx_0.keep hb_1
  have hT_1 := hT_0.kept hb_1
  clear hz_0 hw_0 kx0_0 kx1_0 kx2_0 kx3_0 hIx_0 hT_0 hb_1
  have hsz : w.heap.size + 1 < w_1.heap.size := by have := hz_1.size; simp at this; omega
  go_wp2_with fail
  refine Calls.mono (reckoned_ok sx a1 n1 c1 (wordsOf (mx / 2 ^ j)) (ex + (j : Int)) w_1 hO1_1.1 (by omega) hT_1 (by rw [val_words]; exact HU.out.1) ⟨by omega, by omega⟩) ?_
  rintro r w_2 ⟨v, rfl, hN1, hb_2⟩
  have hz_2 := nbelow_trans hz_1 hb_2
  have hw_2 := nbelow_trans hw_1 hb_2
  have kx0_2 := dcarry_cell hb_2 kx0_1
  have kx1_2 := dcarry_cell hb_2 kx1_1
  have kx2_2 := dcarry_cell hb_2 kx2_1
  have kx3_2 := dcarry_cell hb_2 kx3_1
  have hIx_2 := hIx_1.keep hb_2
  have hT_2 := hT_1.kept hb_2
  have hO1_2 := hO1_1.keep hb_2
  clear hz_1 hw_1 kx0_1 kx1_1 kx2_1 kx3_1 hIx_1 hT_1 hO1_1 hb_2
  rw [val_words] at hN1
  have hN : NumR _ _ _ (formD sx (mx / 2 ^ j) (ex + (j : Int))) := Or.inl ⟨great_mono (form_amount_le _ _ _) HU.out.1, hN1⟩
  clear hN1
  rcases hN with ⟨hg, ao, nn, cc, rfl, HN, HZ, hnn, hO⟩ | ⟨hg, rfl⟩
  · obtain ⟨m0, m1, m2, m3, f0, f1, f2, f3⟩ := zero_num (w := (w.alloc (.cells #[.bool sx, .slice ax nx cx, .int .i64 ex, .bool false] 62))) (r := w.heap.size + 1) hz_2 (by simp)
    go_wp2_with fail
    refine bodyPost_ret (v := numV (formD sx (mx / 2 ^ j) (ex + (j : Int))).1 ao nn cc (formD sx (mx / 2 ^ j) (ex + (j : Int))).2.2 false) (by simp [results, Tryz.results52, go_sem, m0, m1, m2, m3]) rfl ?_
    exact ⟨_, rfl, Or.inl ⟨hg, ao, nn, cc, rfl, HN, HZ, hnn, ((((hO.far _ _ (by show w.heap.size + 1 < _; omega)).far _ _ (by show w.heap.size + 1 < _; omega)).far _ _ (by show w.heap.size + 1 < _; omega)).far _ _ (by show w.heap.size + 1 < _; omega)).low (by omega)⟩, (((hw_2.setCell (by show w.heap.size ≤ w.heap.size + 1; omega) _).setCell (by show w.heap.size ≤ w.heap.size + 1; omega) _).setCell (by show w.heap.size ≤ w.heap.size + 1; omega) _).setCell (by show w.heap.size ≤ w.heap.size + 1; omega) _⟩
  · obtain ⟨m0, m1, m2, m3, f0, f1, f2, f3⟩ := zero_num (w := (w.alloc (.cells #[.bool sx, .slice ax nx cx, .int .i64 ex, .bool false] 62))) (r := w.heap.size + 1) hz_2 (by simp)
    go_wp2_with fail
    refine bodyPost_ret (v := numV false none 0 0 0 true) (by simp [results, Tryz.results52, go_sem, m0, m1, m2, m3]) rfl ?_
    exact ⟨_, rfl, Or.inr ⟨hg, rfl⟩, (((hw_2.setCell (by show w.heap.size ≤ w.heap.size + 1; omega) _).setCell (by show w.heap.size ≤ w.heap.size + 1; omega) _).setCell (by show w.heap.size ≤ w.heap.size + 1; omega) _).setCell (by show w.heap.size ≤ w.heap.size + 1; omega) _⟩

theorem without_calls (sx : Bool) (ax : Option Addr) (nx cx : Nat) (mx : Nat) (ex : Int) (w : World) (hIx : IsW w ax nx cx (wordsOf mx)) (hnx : nx ≤ 1024) (hgx : greatB mx = false) (hex : -100000000 ≤ ex ∧ ex ≤ 100000000) (hT : Tab w) (j : Nat) (hj1 : 0 < j) (hj2 : j ≤ 65536) (more : Bool) :
    Calls Tryz.prog 52 #[numV sx ax nx cx ex false, .int .i64 (j : Int), .bool more] w fun r w' => ∃ v, r = .returned v ∧ NumR w.heap.size w' v (formD sx (mx / 2 ^ j + (if more = true then 1 else 0)) (ex + (j : Int))) ∧ Below w.heap.size w w' := by
  cases more
  · exact without_less sx ax nx cx mx ex w hIx hnx hgx hex hT j hj1 hj2
  · exact without_more sx ax nx cx mx ex w hIx hnx hgx hex hT j hj1 hj2

set_option maxRecDepth 100000 in
set_option maxHeartbeats 2000000 in
theorem cut_same (B : Nat) (sx : Bool) (ax : Option Addr) (nx cx : Nat) (mx : Nat) (ex : Int) (pp : Int) (up : Bool) (w : World) (hIx : OwnW B w ax nx cx (wordsOf mx)) (HNx : Hid (nx = (wordsOf mx).length)) (HZx : Hid (nx = 0 → ax = none ∧ cx = 0)) (hnx : nx ≤ 1024) (hgx : greatB mx = false) (hp : 1 ≤ pp ∧ pp ≤ 9223372036854775807) (hle : (blen mx : Int) ≤ pp) :
    Calls Tryz.prog 33 #[numV sx ax nx cx ex false, .int .i64 pp, .bool up] w fun r w' => ∃ v, r = .returned v ∧ NumR B w' v (sx, mx, ex) ∧ Below w.heap.size w w' := by
  have hsz : (blen mx : Int) - pp ≤ 0 := by omega
  have hbl : blen mx ≤ 65536 := (great_not _).1 hgx
  have SC : Hid _ := size_calls sx ax nx cx mx ex false _ (hIx.1.keep (show Below w.heap.size w ((w.alloc (.cells #[.bool sx, .slice ax nx cx, .int .i64 ex, .bool false] 62)).alloc (.cells #[.bool false, .slice none 0 0, .int .i64 0, .bool false] 62)) from by repeat (first | exact Below.refl _ _ | refine Below.alloc ?_ (by simp; try omega) _))) hnx hgx
  have HGX : Hid (greatB mx = false) := hgx
  clear hgx
  go_enter Tryz.func33, Tryz.ntmps33
  go_wp2_with fail
  have hz_0 : Below ((w.alloc (.cells #[.bool sx, .slice ax nx cx, .int .i64 ex, .bool false] 62)).alloc (.cells #[.bool false, .slice none 0 0, .int .i64 0, .bool false] 62)).heap.size ((w.alloc (.cells #[.bool sx, .slice ax nx cx, .int .i64 ex, .bool false] 62)).alloc (.cells #[.bool false, .slice none 0 0, .int .i64 0, .bool false] 62)) ((w.alloc (.cells #[.bool sx, .slice ax nx cx, .int .i64 ex, .bool false] 62)).alloc (.cells #[.bool false, .slice none 0 0, .int .i64 0, .bool false] 62)) := Below.refl _ _
  have hw_0 : Below w.heap.size w ((w.alloc (.cells #[.bool sx, .slice ax nx cx, .int .i64 ex, .bool false] 62)).alloc (.cells #[.bool false, .slice none 0 0, .int .i64 0, .bool false] 62)) := by repeat (first | exact Below.refl _ _ | refine Below.alloc ?_ (by simp; try omega) _)
  have kx0_0 : ((w.alloc (.cells #[.bool sx, .slice ax nx cx, .int .i64 ex, .bool false] 62)).alloc (.cells #[.bool false, .slice none 0 0, .int .i64 0, .bool false] 62)).cell? ⟨w.heap.size, 0, none⟩ = some (.bool sx) := by go_simp
  have kx1_0 : ((w.alloc (.cells #[.bool sx, .slice ax nx cx, .int .i64 ex, .bool false] 62)).alloc (.cells #[.bool false, .slice none 0 0, .int .i64 0, .bool false] 62)).cell? ⟨w.heap.size, 1, none⟩ = some (.slice ax nx cx) := by go_simp
  have kx2_0 : ((w.alloc (.cells #[.bool sx, .slice ax nx cx, .int .i64 ex, .bool false] 62)).alloc (.cells #[.bool false, .slice none 0 0, .int .i64 0, .bool false] 62)).cell? ⟨w.heap.size, 2, none⟩ = some (.int .i64 ex) := by go_simp
  have kx3_0 : ((w.alloc (.cells #[.bool sx, .slice ax nx cx, .int .i64 ex, .bool false] 62)).alloc (.cells #[.bool false, .slice none 0 0, .int .i64 0, .bool false] 62)).cell? ⟨w.heap.size, 3, none⟩ = some (.bool false) := by go_simp
  have hIx_0 := hIx.keep hw_0
  refine Calls.mono (SC.out) ?_
  rintro r w_1 ⟨rfl, hb_1⟩
  have hz_1 := nbelow_trans hz_0 hb_1
  have hw_1 := nbelow_trans hw_0 hb_1
  have kx0_1 := dcarry_cell hb_1 kx0_0
  have kx1_1 := dcarry_cell hb_1 kx1_0
  have kx2_1 := dcarry_cell hb_1 kx2_0
  have kx3_1 := dcarry_cell hb_1 kx3_0
  have hIx_1 := hIx_0.keep hb_1
  clear hz_0 hw_0 kx0_0 kx1_0 kx2_0 kx3_0 hIx_0 hb_1
  clear SC
  obtain ⟨m0, m1, m2, m3, f0, f1, f2, f3⟩ := zero_num (w := (w.alloc (.cells #[.bool sx, .slice ax nx cx, .int .i64 ex, .bool false] 62))) (r := w.heap.size + 1) hz_1 (by simp)
  go_wp2_with fail
  refine bodyPost_ret (v := numV sx ax nx cx ex false) (by simp [results, Tryz.results33, go_sem, m0, m1, m2, m3]) rfl ?_
  exact ⟨_, rfl, Or.inl ⟨HGX.out, ax, nx, cx, rfl, HNx, HZx, hnx, hIx.keep ((((hw_1.setCell (by show w.heap.size ≤ w.heap.size + 1; omega) _).setCell (by show w.heap.size ≤ w.heap.size + 1; omega) _).setCell (by show w.heap.size ≤ w.heap.size + 1; omega) _).setCell (by show w.heap.size ≤ w.heap.size + 1; omega) _)⟩, (((hw_1.setCell (by show w.heap.size ≤ w.heap.size + 1; omega) _).setCell (by show w.heap.size ≤ w.heap.size + 1; omega) _).setCell (by show w.heap.size ≤ w.heap.size + 1; omega) _).setCell (by show w.heap.size ≤ w.heap.size + 1; omega) _⟩

set_option maxRecDepth 100000 in
set_option maxHeartbeats 2000000 in
theorem cut_more (B : Nat) (sx : Bool) (ax : Option Addr) (nx cx : Nat) (mx : Nat) (ex : Int) (pp : Int) (up : Bool) (w : World) (hIx : OwnW B w ax nx cx (wordsOf mx)) (hnx : nx ≤ 1024) (hgx : greatB mx = false) (hp : 1 ≤ pp ∧ pp ≤ 9223372036854775807) (hex : -100000000 ≤ ex ∧ ex ≤ 100000000) (hT : Tab w) (hB : B ≤ w.heap.size) (j : Nat) (hj : (blen mx : Int) = pp + (j : Int)) (hj0 : 0 < j) (u : Nat) (hu : mx / 2 ^ j + (if (!(up == sx)) = true then 1 else 0) = u) :
    Calls Tryz.prog 33 #[numV sx ax nx cx ex false, .int .i64 pp, .bool up] w fun r w' => ∃ v, r = .returned v ∧ NumR B w' v (formD sx u (ex + (j : Int))) ∧ Below w.heap.size w w' := by
  have HU : Hid (mx / 2 ^ j + (if (!(up == sx)) = true then 1 else 0) = u) := hu
  clear hu
  have hbl : blen mx ≤ 65536 := (great_not _).1 hgx
  have hj3 : (blen mx : Int) - pp = (j : Int) := by omega
  have hj4 : ¬ (j : Int) ≤ 0 := by omega
  have SC : Hid _ := size_calls sx ax nx cx mx ex false _ (hIx.1.keep (show Below w.heap.size w ((w.alloc (.cells #[.bool sx, .slice ax nx cx, .int .i64 ex, .bool false] 62)).alloc (.cells #[.bool false, .slice none 0 0, .int .i64 0, .bool false] 62)) from by repeat (first | exact Below.refl _ _ | refine Below.alloc ?_ (by simp; try omega) _))) hnx hgx
  have WC : Hid (∀ W, Below w.heap.size w W → _) := fun W hW => without_calls sx ax nx cx mx ex W (hIx.1.keep hW) hnx hgx hex (hT.kept hW) j (by omega) (by omega) (!(up == sx))
  clear hgx hj hT
  go_enter Tryz.func33, Tryz.ntmps33
  go_wp2_with fail
  have hz_0 : Below ((w.alloc (.cells #[.bool sx, .slice ax nx cx, .int .i64 ex, .bool false] 62)).alloc (.cells #[.bool false, .slice none 0 0, .int .i64 0, .bool false] 62)).heap.size ((w.alloc (.cells #[.bool sx, .slice ax nx cx, .int .i64 ex, .bool false] 62)).alloc (.cells #[.bool false, .slice none 0 0, .int .i64 0, .bool false] 62)) ((w.alloc (.cells #[.bool sx, .slice ax nx cx, .int .i64 ex, .bool false] 62)).alloc (.cells #[.bool false, .slice none 0 0, .int .i64 0, .bool false] 62)) := Below.refl _ _
  have hw_0 : Below w.heap.size w ((w.alloc (.cells #[.bool sx, .slice ax nx cx, .int .i64 ex, .bool false] 62)).alloc (.cells #[.bool false, .slice none 0 0, .int .i64 0, .bool false] 62)) := by repeat (first | exact Below.refl _ _ | refine Below.alloc ?_ (by simp; try omega) _)
  have kx0_0 : ((w.alloc (.cells #[.bool sx, .slice ax nx cx, .int .i64 ex, .bool false] 62)).alloc (.cells #[.bool false, .slice none 0 0, .int .i64 0, .bool false] 62)).cell? ⟨w.heap.size, 0, none⟩ = some (.bool sx) := by go_simp
  have kx1_0 : ((w.alloc (.cells #[.bool sx, .slice ax nx cx, .int .i64 ex, .bool false] 62)).alloc (.cells #[.bool false, .slice none 0 0, .int .i64 0, .bool false] 62)).cell? ⟨w.heap.size, 1, none⟩ = some (.slice ax nx cx) := by go_simp
  have kx2_0 : ((w.alloc (.cells #[.bool sx, .slice ax nx cx, .int .i64 ex, .bool false] 62)).alloc (.cells #[.bool false, .slice none 0 0, .int .i64 0, .bool false] 62)).cell? ⟨w.heap.size, 2, none⟩ = some (.int .i64 ex) := by go_simp
  have kx3_0 : ((w.alloc (.cells #[.bool sx, .slice ax nx cx, .int .i64 ex, .bool false] 62)).alloc (.cells #[.bool false, .slice none 0 0, .int .i64 0, .bool false] 62)).cell? ⟨w.heap.size, 3, none⟩ = some (.bool false) := by go_simp
  refine Calls.mono (SC.out) ?_
  rintro r w_1 ⟨rfl, hb_1⟩
  have hz_1 := nbelow_trans hz_0 hb_1
  have hw_1 := nbelow_trans hw_0 hb_1
  have kx0_1 := dcarry_cell hb_1 kx0_0
  have kx1_1 := dcarry_cell hb_1 kx1_0
  have kx2_1 := dcarry_cell hb_1 kx2_0
  have kx3_1 := dcarry_cell hb_1 kx3_0
  clear hz_0 hw_0 kx0_0 kx1_0 kx2_0 kx3_0 hb_1
  clear SC
  have hsz : w.heap.size + 1 < w_1.heap.size := by have := hz_1.size; simp at this; omega
  go_wp2_with fail
  refine Calls.mono (WC.out _ hw_1) ?_
  rintro r w_2 ⟨v, rfl, hN, hb_2⟩
  have hz_2 := nbelow_trans hz_1 hb_2
  have hw_2 := nbelow_trans hw_1 hb_2
  have kx0_2 := dcarry_cell hb_2 kx0_1
  have kx1_2 := dcarry_cell hb_2 kx1_1
  have kx2_2 := dcarry_cell hb_2 kx2_1
  have kx3_2 := dcarry_cell hb_2 kx3_1
  clear hz_1 hw_1 kx0_1 kx1_1 kx2_1 kx3_1 hb_2
  clear WC
  rw [HU.out] at hN
  rcases hN with ⟨hg, ao, nn, cc, rfl, HN, HZ, hnn, hO⟩ | ⟨hg, rfl⟩
  · obtain ⟨m0, m1, m2, m3, f0, f1, f2, f3⟩ := zero_num (w := (w.alloc (.cells #[.bool sx, .slice ax nx cx, .int .i64 ex, .bool false] 62))) (r := w.heap.size + 1) hz_2 (by simp)
    go_wp2_with fail
    refine bodyPost_ret (v := numV (formD sx u (ex + (j : Int))).1 ao nn cc (formD sx u (ex + (j : Int))).2.2 false) (by simp [results, Tryz.results33, go_sem, m0, m1, m2, m3]) rfl ?_
    exact ⟨_, rfl, Or.inl ⟨hg, ao, nn, cc, rfl, HN, HZ, hnn, ((((hO.far _ _ (by show w.heap.size + 1 < _; omega)).far _ _ (by show w.heap.size + 1 < _; omega)).far _ _ (by show w.heap.size + 1 < _; omega)).far _ _ (by show w.heap.size + 1 < _; omega)).low (by omega)⟩, (((hw_2.setCell (by show w.heap.size ≤ w.heap.size + 1; omega) _).setCell (by show w.heap.size ≤ w.heap.size + 1; omega) _).setCell (by show w.heap.size ≤ w.heap.size + 1; omega) _).setCell (by show w.heap.size ≤ w.heap.size + 1; omega) _⟩
  · obtain ⟨m0, m1, m2, m3, f0, f1, f2, f3⟩ := zero_num (w := (w.alloc (.cells #[.bool sx, .slice ax nx cx, .int .i64 ex, .bool false] 62))) (r := w.heap.size + 1) hz_2 (by simp)
    go_wp2_with fail
    refine bodyPost_ret (v := numV false none 0 0 0 true) (by simp [results, Tryz.results33, go_sem, m0, m1, m2, m3]) rfl ?_
    exact ⟨_, rfl, Or.inr ⟨hg, rfl⟩, (((hw_2.setCell (by show w.heap.size ≤ w.heap.size + 1; omega) _).setCell (by show w.heap.size ≤ w.heap.size + 1; omega) _).setCell (by show w.heap.size ≤ w.heap.size + 1; omega) _).setCell (by show w.heap.size ≤ w.heap.size + 1; omega) _⟩

/-- The next number of at most so many bits, down or up. -/
def cutD (x : Bool × Nat × Int) (pp : Int) (up : Bool) : Bool × Nat × Int := if (blen x.2.1 : Int) ≤ pp then x else formD x.1 (x.2.1 / 2 ^ (blen x.2.1 - pp).toNat + (if (!(up == x.1)) = true then 1 else 0)) (x.2.2 + ((blen x.2.1 - pp).toNat : Int))
theorem cut_calls (B : Nat) (v : Value) (x : Bool × Nat × Int) (pp : Int) (up : Bool) (w : World) (hB : B ≤ w.heap.size) (hX : NumAt B w v x) (gx : greatB x.2.1 = false) (ex : -100000000 ≤ x.2.2 ∧ x.2.2 ≤ 100000000) (hT : Tab w) (hp : 1 ≤ pp ∧ pp ≤ 9223372036854775807) :
    Calls Tryz.prog 33 #[v, .int .i64 pp, .bool up] w fun r w' => ∃ v, r = .returned v ∧ NumR B w' v (cutD x pp up) ∧ Below w.heap.size w w' := by
  obtain ⟨ax, nx, kx, rfl, HNx, HZx, hnx, hOx⟩ := hX
  unfold cutD
  by_cases h : (blen x.2.1 : Int) ≤ pp
  · rw [if_pos h]
    exact cut_same B x.1 ax nx kx x.2.1 x.2.2 pp up w hOx HNx HZx hnx gx hp h
  · rw [if_neg h]
    exact cut_more B x.1 ax nx kx x.2.1 x.2.2 pp up w hOx hnx gx hp ex hT hB ((blen x.2.1 : Int) - pp).toNat (by omega) (by omega) _ rfl

end Go.Proofs.YtjgnoaieplmoiaaGreatDoor

namespace Go.Proofs.YtjgnoaieplmoiaaGreatDoor
open Go.RowKit

attribute [local go_sem ↓] Go.wp_at_zero Go.wp_at_succ

set_option maxRecDepth 100000 in
set_option maxHeartbeats 4000000 in
theorem cut1_calls (b1 b2 b3 : Nat) (s : Bool) (a : Option Addr) (len cap : Nat) (xs : List Int) (e : Int) (pp : Int) (up : Bool) (w : World) (h : IsW w a len cap xs) (hm : len ≤ 17592186044416) (hT : Tab w) (hr : rightB (val xs) e = true) (hp : 1 ≤ pp ∧ pp ≤ 9223372036854775807)
    (k0 : w.cell? ⟨b1, 0, none⟩ = some (.bool s)) (k1 : w.cell? ⟨b1, 1, none⟩ = some (.slice a len cap)) (k2 : w.cell? ⟨b1, 2, none⟩ = some (.int .i64 e))
    (l0 : w.cell? ⟨b2, 0, none⟩ = some (.int .i64 pp)) (q0 : w.cell? ⟨b3, 0, none⟩ = some (.bool up)) :
    Calls Tryz.prog 32 #[.pointer (some ⟨b1, 0, none⟩), .pointer (some ⟨b2, 0, none⟩), .pointer (some ⟨b3, 0, none⟩)] w fun r w' => ∃ v, r = .returned v ∧ NumR w.heap.size w' v (cutD (formD s (val xs) e) pp up) ∧ Below w.heap.size w w' := by
  have HCGX : Hid (canG s (val xs) e = (formD s (val xs) e)) := canG_no (rightB_yes hr).1
  have HEBX : Hid _ := right_exp hr
  have HGX : Hid _ := form_fit s (val xs) e hr
  have HBX : Hid _ := form_bounds s (val xs) e hr
  have hl1 : b1 < w.heap.size := World.block_lt_of_cell? _ _ k0
  have hl2 : b2 < w.heap.size := World.block_lt_of_cell? _ _ l0
  have hl3 : b3 < w.heap.size := World.block_lt_of_cell? _ _ q0
  have hn1 : b1 ≠ w.heap.size := Nat.ne_of_lt hl1
  have hn2 : b2 ≠ w.heap.size := Nat.ne_of_lt hl2
  have hn3 : b3 ≠ w.heap.size := Nat.ne_of_lt hl3
  clear hr
  go_enter Tryz.func32, Tryz.ntmps32
  go_wp2_with fail
  go_region_with (first
      | (go_at_call 27; refine calls_guard #[dyV s a len cap e] ?_ ?_; (focus rfl); refine (canonical_calls s a len cap xs e _ (h.keep (by repeat (first | exact hbwQ | exact Below.refl _ _ | apply Below.drew | refine Below.alloc ?_ (by simp; try omega) _))) hm (hT.kept (by repeat (first | exact hbwQ | exact Below.refl _ _ | apply Below.drew | refine Below.alloc ?_ (by simp; try omega) _)))).mono ?_; rintro r wX ⟨aX, nX, cX, eX, rfl, HEX, HNX, HZX, hnX, hOX, hbX⟩; have hbwX : Below w.heap.size w wX := nbelow_trans (by repeat (first | exact hbwQ | exact Below.refl _ _ | apply Below.drew | refine Below.alloc ?_ (by simp; try omega) _)) hbX; have hbzX : Below (w.alloc (.cells #[.bool false, .slice none 0 0, .int .i64 0, .bool false] 62)).heap.size (w.alloc (.cells #[.bool false, .slice none 0 0, .int .i64 0, .bool false] 62)) wX := nbelow_trans (by repeat (first | exact hbzQ | exact Below.refl _ _ | apply Below.drew | refine Below.alloc ?_ (by simp; try omega) _)) hbX; obtain rfl := HEX.out HEBX.out.1 HEBX.out.2; rw [HCGX.out] at hOX HNX ⊢; clear HEX; have hPX := hOX.low (B' := w.heap.size + 1) (by first | (have := hbzQ.size; simp at this ⊢; omega) | simp); have qX0 := dcarry_cell hbwX k0; have qX1 := dcarry_cell hbwX k1; have qX2 := dcarry_cell hbwX k2; have qX3 := dcarry_cell hbwX l0; have qX4 := dcarry_cell hbwX q0)
      | (go_at_call 33; refine (cut_calls (w.heap.size + 1) _ (formD s (val xs) e) pp up _ (by have := hbzX.size; simp at this; omega) (hidN rfl rfl HNX HZX hnX hPX) HGX.out HBX.out (hT.kept hbwX) hp).mono ?_; rintro r wP ⟨vP, rfl, hNP, hbP⟩; obtain ⟨s5, a5, n5, c5, e5, g5, rfl, HNR⟩ := numR_form hNP; have hbwP := nbelow_trans hbwX hbP; have hbzP := nbelow_trans hbzX hbP; obtain ⟨m0, m1, m2, m3, f0, f1, f2, f3⟩ := zero_num (r := w.heap.size) hbzP rfl; clear hNP))
  all_goals
    go_wp2_with fail
    refine bodyPost_ret (v := numV s5 a5 n5 c5 e5 g5) (by simp [results, Tryz.results32, go_sem, m0, m1, m2, m3]) rfl ⟨_, rfl, ((((HNR.out.far _ _ (by show w.heap.size < _; omega)).far _ _ (by show w.heap.size < _; omega)).far _ _ (by show w.heap.size < _; omega)).far _ _ (by show w.heap.size < _; omega)).low (by omega), ?_⟩
    exact (((hbwP.setCell (Nat.le_refl _) _).setCell (Nat.le_refl _) _).setCell (Nat.le_refl _) _).setCell (Nat.le_refl _) _

set_option maxRecDepth 100000 in
set_option maxHeartbeats 4000000 in
theorem dcut_few (s : Bool) (a : Option Addr) (len cap : Nat) (e : Int) (pp : Int) (up : Bool) (w : World) (hp : pp < 1) :
    Calls Tryz.prog 12 #[dyV s a len cap e, .int .i64 pp, .bool up] w fun r w' => r = .returned (.tuple #[dyV false none 0 0 0, .int .i64 2]) ∧ Below w.heap.size w w' := by
  go_enter Tryz.func12, Tryz.ntmps12
  go_wp2_with fail
  refine bodyPost_ret (v := .tuple #[dyV false none 0 0 0, .int .i64 2]) (by simp [results, Tryz.results12, go_sem]) rfl ⟨rfl, ?_⟩
  repeat (first | exact Below.refl _ _ | refine Below.alloc ?_ (by simp; try omega) _ | refine Below.setCell ?_ (by simp; try omega) _)

set_option maxRecDepth 100000 in
set_option maxHeartbeats 4000000 in
theorem dcut_not (s : Bool) (a : Option Addr) (len cap : Nat) (xs : List Int) (e : Int) (pp : Int) (up : Bool) (w : World) (h : IsW w a len cap xs) (hm : len ≤ 17592186044416) (hp : 1 ≤ pp) (hr : rightB (val xs) e = false) :
    Calls Tryz.prog 12 #[dyV s a len cap e, .int .i64 pp, .bool up] w fun r w' => r = .returned (.tuple #[dyV false none 0 0 0, .int .i64 2]) ∧ Below w.heap.size w w' := by
  have hmf : ∀ (fn : Fn) (first cap : Array Value) (w : World), (Instr.makeFunc fn first cap).run Tryz.prog w = .ok (.func fn first cap) w := fun _ _ _ _ => rfl
  have HRB : Hid (rightB (val xs) e = false) := hr
  have hp1 : ¬ pp < 1 := by omega
  clear hr
  go_enter Tryz.func12, Tryz.ntmps12
  go_wp2_with fail
  have hb0 : Below w.heap.size w (((((w.alloc (.cells #[.bool s, .slice a len cap, .int .i64 e] 25)).alloc (.cells #[.int .i64 pp] 3)).alloc (.cells #[.bool up] 4)).alloc (.cells #[.bool false, .slice none 0 0, .int .i64 0] 25)).alloc (.cells #[.bool s, .slice a len cap, .int .i64 e] 25)) := by repeat (first | exact Below.refl _ _ | refine Below.alloc ?_ (by simp; try omega) _)
  refine Calls.mono (made_not _ _ _ (fun W hW => HRB.out ▸ right1_calls (w.heap.size + 1 + 1 + 1 + 1) s a len cap xs e W (h.keep (nbelow_trans hb0 hW)) hm (dcarry_cell hW (by go_simp)) (dcarry_cell hW (by go_simp)) (dcarry_cell hW (by go_simp)))) ?_
  rintro r w2 ⟨rfl, hbM⟩
  have hb2 := nbelow_trans hb0 hbM
  obtain ⟨m0, m1, m2, f0, f1, f2⟩ := zero_dy (r := w.heap.size + 1 + 1 + 1) (w := ((w.alloc (.cells #[.bool s, .slice a len cap, .int .i64 e] 25)).alloc (.cells #[.int .i64 pp] 3)).alloc (.cells #[.bool up] 4)) (W' := w2) (nbelow_trans (below_one _ _) hbM) (by simp)
  go_wp2_with fail
  refine bodyPost_ret (v := .tuple #[dyV false none 0 0 0, .int .i64 2]) (by simp [results, Tryz.results12, go_sem, m0, m1, m2]) rfl ⟨rfl, ?_⟩
  exact ((hb2.setCell (by show w.heap.size ≤ w.heap.size + 1 + 1 + 1; omega) _).setCell (by show w.heap.size ≤ w.heap.size + 1 + 1 + 1; omega) _).setCell (by show w.heap.size ≤ w.heap.size + 1 + 1 + 1; omega) _

set_option maxRecDepth 100000 in
set_option maxHeartbeats 4000000 in
theorem dcut_yes (s : Bool) (a : Option Addr) (len cap : Nat) (xs : List Int) (e : Int) (pp : Int) (up : Bool) (w : World) (h : IsW w a len cap xs) (hm : len ≤ 17592186044416) (hT : Tab w) (hp : 1 ≤ pp ∧ pp ≤ 9223372036854775807) (hr : rightB (val xs) e = true) :
    Calls Tryz.prog 12 #[dyV s a len cap e, .int .i64 pp, .bool up] w fun r w' => ∃ v', r = .returned (.tuple #[v', .int .i64 (roomE (cutD (formD s (val xs) e) pp up))]) ∧ DyAt w.heap.size w' v' (roomP (cutD (formD s (val xs) e) pp up)) ∧ Below w.heap.size w w' := by
  have hmf : ∀ (fn : Fn) (first cap : Array Value) (w : World), (Instr.makeFunc fn first cap).run Tryz.prog w = .ok (.func fn first cap) w := fun _ _ _ _ => rfl
  have HRB : Hid (rightB (val xs) e = true) := hr
  have hp1 : ¬ pp < 1 := by omega
  have HP : Hid _ := hp
  clear hr hp
  go_enter Tryz.func12, Tryz.ntmps12
  go_wp2_with fail
  have hb0 : Below w.heap.size w (((((w.alloc (.cells #[.bool s, .slice a len cap, .int .i64 e] 25)).alloc (.cells #[.int .i64 pp] 3)).alloc (.cells #[.bool up] 4)).alloc (.cells #[.bool false, .slice none 0 0, .int .i64 0] 25)).alloc (.cells #[.bool s, .slice a len cap, .int .i64 e] 25)) := by repeat (first | exact Below.refl _ _ | refine Below.alloc ?_ (by simp; try omega) _)
  refine Calls.mono (made_Cut w.heap.size (w.heap.size + 1) (w.heap.size + 1 + 1) 0 (cutD (formD s (val xs) e) pp up) _ _ (fun W hW => HRB.out ▸ right1_calls (w.heap.size + 1 + 1 + 1 + 1) s a len cap xs e W (h.keep (nbelow_trans hb0 hW)) hm (dcarry_cell hW (by go_simp)) (dcarry_cell hW (by go_simp)) (dcarry_cell hW (by go_simp)))
    (fun W hW => Calls.mono (cut1_calls w.heap.size (w.heap.size + 1) (w.heap.size + 1 + 1) s a len cap xs e pp up W (h.keep (nbelow_trans hb0 hW)) hm (hT.kept (nbelow_trans hb0 hW)) HRB.out HP.out (dcarry_cell hW (by go_simp)) (dcarry_cell hW (by go_simp)) (dcarry_cell hW (by go_simp)) (dcarry_cell hW (by go_simp)) (dcarry_cell hW (by go_simp))) (by
      rintro r w5 ⟨v, rfl, hN, hb5⟩
      exact ⟨v, rfl, hN.low (Nat.zero_le _), hb5⟩))) ?_
  rintro r w2 ⟨v', rfl, ⟨a2, n2, c2, rfl, HN2, hn2, hO2⟩, hbM⟩
  have hb2 := nbelow_trans hb0 hbM
  obtain ⟨m0, m1, m2, f0, f1, f2⟩ := zero_dy (r := w.heap.size + 1 + 1 + 1) (w := ((w.alloc (.cells #[.bool s, .slice a len cap, .int .i64 e] 25)).alloc (.cells #[.int .i64 pp] 3)).alloc (.cells #[.bool up] 4)) (W' := w2) (nbelow_trans (below_one _ _) hbM) (by simp)
  go_wp2_with fail
  refine bodyPost_ret (v := .tuple #[dyV (roomP (cutD (formD s (val xs) e) pp up)).1 a2 n2 c2 (roomP (cutD (formD s (val xs) e) pp up)).2.2, .int .i64 (roomE (cutD (formD s (val xs) e) pp up))]) (by simp [results, Tryz.results12, go_sem, m0, m1, m2]) rfl ⟨_, rfl, ⟨a2, n2, c2, rfl, HN2, hn2, (((hO2.far _ _ (by show w.heap.size + 1 + 1 + 1 < _; simp)).far _ _ (by show w.heap.size + 1 + 1 + 1 < _; simp)).far _ _ (by show w.heap.size + 1 + 1 + 1 < _; simp)).low (by simp; omega)⟩, ?_⟩
  exact ((hb2.setCell (by show w.heap.size ≤ w.heap.size + 1 + 1 + 1; omega) _).setCell (by show w.heap.size ≤ w.heap.size + 1 + 1 + 1; omega) _).setCell (by show w.heap.size ≤ w.heap.size + 1 + 1 + 1; omega) _
end Go.Proofs.YtjgnoaieplmoiaaGreatDoor

namespace Go.Proofs.YtjgnoaieplmoiaaGreatDoor
open Go.RowKit

def intD (i : Int) : Bool × Nat × Int := formD (decide (i < 0)) i.natAbs 0


set_option maxHeartbeats 1000000 in
theorem check_calls (s : Bool) (a : Option Addr) (len cap : Nat) (xs : List Int) (e : Int) (w : World) (h : IsW w a len cap xs) (hm : len ≤ 17592186044416) :
    Calls Tryz.prog 19 #[dyV s a len cap e] w fun r w' => r = .returned (.int .i64 (if rightB (val xs) e = true then 0 else 2)) ∧ Below w.heap.size w w' := by
  have hb0 : Below w.heap.size w ((w.alloc (.cells #[.bool s, .slice a len cap, .int .i64 e] 25)).alloc (.cells #[.bool s, .slice a len cap, .int .i64 e] 25)) := nbelow_trans (below_one _ _) (below_one _ _)
  have RC : Hid _ := right1_calls (w.heap.size + 1) s a len cap xs e _ (h.keep hb0) hm (by go_simp) (by go_simp) (by go_simp)
  cases hR : rightB (val xs) e with
  | true =>
    rw [hR] at RC
    clear hR
    go_enter Tryz.func19, Tryz.ntmps19
    go_wp2_with fail
    refine Calls.mono RC.out ?_
    rintro r w1 ⟨rfl, hb1⟩
    go_wp2_with fail
    go_ret
    exact ⟨rfl, nbelow_trans hb0 hb1⟩
  | false =>
    rw [hR] at RC
    clear hR
    go_enter Tryz.func19, Tryz.ntmps19
    go_wp2_with fail
    refine Calls.mono RC.out ?_
    rintro r w1 ⟨rfl, hb1⟩
    go_wp2_with fail
    go_ret
    exact ⟨rfl, nbelow_trans hb0 hb1⟩

set_option maxHeartbeats 2000000 in
theorem dzero_calls (s : Bool) (a : Option Addr) (len cap : Nat) (xs : List Int) (e : Int) (w : World) (h : IsW w a len cap xs) (hm : len ≤ 17592186044416) (hT : Tab w) :
    Calls Tryz.prog 10 #[dyV s a len cap e] w fun r w' => r = .returned (.bool (rightB (val xs) e && decide (val xs = 0))) ∧ Below w.heap.size w w' := by
  have hb0 : Below w.heap.size w ((w.alloc (.cells #[.bool s, .slice a len cap, .int .i64 e] 25)).alloc (.cells #[.bool s, .slice a len cap, .int .i64 e] 25)) := nbelow_trans (below_one _ _) (below_one _ _)
  have RC : Hid _ := right1_calls (w.heap.size + 1) s a len cap xs e _ (h.keep hb0) hm (by go_simp) (by go_simp) (by go_simp)
  cases hR : rightB (val xs) e with
  | true =>
    have HCG : Hid (canG s (val xs) e = formD s (val xs) e) := canG_no (rightB_yes hR).1
    rw [hR] at RC
    clear hR
    go_enter Tryz.func10, Tryz.ntmps10
    go_wp2_with fail
    refine Calls.mono RC.out ?_
    rintro r w1 ⟨rfl, hb1⟩
    have hb01 := nbelow_trans hb0 hb1
    have k0 : w1.cell? ⟨w.heap.size, 0, none⟩ = some (.bool s) := dcarry_cell hb1 (by go_simp)
    have k1 : w1.cell? ⟨w.heap.size, 1, none⟩ = some (.slice a len cap) := dcarry_cell hb1 (by go_simp)
    have k2 : w1.cell? ⟨w.heap.size, 2, none⟩ = some (.int .i64 e) := dcarry_cell hb1 (by go_simp)
    go_wp2_with fail
    refine Calls.mono (canonical_calls s a len cap xs e w1 (h.keep hb01) hm (hT.kept hb01)) ?_
    rintro r w2 ⟨a2, n2, c2, e2, rfl, HE, HN2, HZ2, hn2, hO2, hb2⟩
    rw [HCG.out] at HN2
    go_wp2_with fail
    refine Calls.mono (zero_calls _ _ _ _ _ _ _) ?_
    rintro r w3 ⟨rfl, rfl⟩
    go_wp2_with fail
    go_ret
    refine ⟨nret_bool ?_, nbelow_trans (nbelow_trans hb01 hb2) (below_one _ _)⟩
    have e1 : ((n2 : Int) == 0) = decide (val xs = 0) := by
      rw [Bool.eq_iff_iff]
      simp only [beq_iff_eq, decide_eq_true_eq]
      rw [HN2.out, Int.natCast_eq_zero, List.length_eq_zero_iff, words_nil]
      by_cases h0 : val xs = 0
      · rw [h0, form_zero]
      · rw [form_pos s h0]
        constructor
        · intro q
          have := (odd_part h0).1
          simp only at q
          rw [q] at this; omega
        · intro q; exact absurd q h0
    rw [← e1]; rfl
  | false =>
    rw [hR] at RC
    clear hR
    go_enter Tryz.func10, Tryz.ntmps10
    go_wp2_with fail
    refine Calls.mono RC.out ?_
    rintro r w1 ⟨rfl, hb1⟩
    go_wp2_with fail
    go_ret
    exact ⟨rfl, nbelow_trans hb0 hb1⟩
end Go.Proofs.YtjgnoaieplmoiaaGreatDoor

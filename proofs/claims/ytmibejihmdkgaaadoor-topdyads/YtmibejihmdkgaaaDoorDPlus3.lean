/- The walk of plus. -/
import Derived.Test.YtmibejihmdkgaaaDoorDPlus2
namespace Go.Proofs.YtmibejihmdkgaaaDoor
open Go.RowKit

set_option maxRecDepth 100000 in
set_option maxHeartbeats 2000000 in
theorem plus_zx (B : Nat) (sx : Bool) (ax : Option Addr) (nx cx : Nat) (ex : Int) (sy : Bool) (ay : Option Addr) (ny cy : Nat) (my : Nat) (ey : Int) (w : World) (hIy : OwnW B w ay ny cy (wordsOf my)) (HNy : Hid (ny = (wordsOf my).length)) (HZy : Hid (ny = 0 → ay = none ∧ cy = 0)) (hny : ny ≤ 1024) (hgy : greatB my = false) (hz : nx = 0) :
    Calls Tryd.prog 20 #[numV sx ax nx cx ex false, numV sy ay ny cy ey false] w fun r w' => ∃ v, r = .returned v ∧ NumR B w' v (sy, my, ey) ∧ Below w.heap.size w w' := by
  subst hz
  go_enter Tryd.func20, Tryd.ntmps20
  go_wp2_with fail
  refine Calls.mono (zero_calls sx ax 0 cx ex false _) ?_
  rintro r w1 ⟨rfl, rfl⟩
  go_wp2_with fail
  refine bodyPost_ret (v := numV sy ay ny cy ey false) (by simp [results, Tryd.results20, go_sem]) rfl ⟨_, rfl, Or.inl ⟨hgy, ay, ny, cy, rfl, HNy, HZy, hny, hIy.keep (by repeat (first | exact Below.refl _ _ | refine Below.alloc ?_ (by simp; try omega) _))⟩, by repeat (first | exact Below.refl _ _ | refine Below.alloc ?_ (by simp; try omega) _)⟩

set_option maxRecDepth 100000 in
set_option maxHeartbeats 2000000 in
theorem plus_zy (B : Nat) (sx : Bool) (ax : Option Addr) (nx cx : Nat) (mx : Nat) (ex : Int) (sy : Bool) (ay : Option Addr) (ny cy : Nat) (ey : Int) (w : World) (hIx : OwnW B w ax nx cx (wordsOf mx)) (HNx : Hid (nx = (wordsOf mx).length)) (HZx : Hid (nx = 0 → ax = none ∧ cx = 0)) (hnx : nx ≤ 1024) (hgx : greatB mx = false) (hn0 : nx ≠ 0) (hz : ny = 0) :
    Calls Tryd.prog 20 #[numV sx ax nx cx ex false, numV sy ay ny cy ey false] w fun r w' => ∃ v, r = .returned v ∧ NumR B w' v (sx, mx, ex) ∧ Below w.heap.size w w' := by
  have hnx0 : ((nx : Int) == 0) = false := by simp; omega
  clear hn0
  subst hz
  go_enter Tryd.func20, Tryd.ntmps20
  go_wp2_with fail
  refine Calls.mono (zero_calls sx ax nx cx ex false _) ?_
  rintro r w1 ⟨rfl, rfl⟩
  go_wp2_with fail
  refine Calls.mono (zero_calls sy ay 0 cy ey false _) ?_
  rintro r w1 ⟨rfl, rfl⟩
  go_wp2_with fail
  refine bodyPost_ret (v := numV sx ax nx cx ex false) (by simp [results, Tryd.results20, go_sem]) rfl ⟨_, rfl, Or.inl ⟨hgx, ax, nx, cx, rfl, HNx, HZx, hnx, hIx.keep (by repeat (first | exact Below.refl _ _ | refine Below.alloc ?_ (by simp; try omega) _))⟩, by repeat (first | exact Below.refl _ _ | refine Below.alloc ?_ (by simp; try omega) _)⟩

set_option maxRecDepth 100000 in
set_option maxHeartbeats 2000000 in
theorem plus_tog (B : Nat) (sx : Bool) (ax : Option Addr) (nx cx : Nat) (ex : Int) (sy : Bool) (ay : Option Addr) (ny cy : Nat) (ey : Int) (p : Bool × Nat × Int) (w : World) (hB : B ≤ w.heap.size) (hx0 : nx ≠ 0) (hy0 : ny ≠ 0) (hle : ey ≤ ex) (hs : sx = sy)
    (hK : ∀ W, Below w.heap.size w W → Calls Tryd.prog 48 #[numV sx ax nx cx ex false, numV sy ay ny cy ey false] W fun r w' => ∃ v, r = .returned v ∧ NumR W.heap.size w' v p ∧ Below W.heap.size W w') :
    Calls Tryd.prog 20 #[numV sx ax nx cx ex false, numV sy ay ny cy ey false] w fun r w' => ∃ v, r = .returned v ∧ NumR B w' v p ∧ Below w.heap.size w w' := by
  have hnx0 : ((nx : Int) == 0) = false := by simp; omega
  have hny0 : ((ny : Int) == 0) = false := by simp; omega
  have hle2 : ¬ ex < ey := by omega
  have hss : (sx == sy) = true := by simp [hs]
  clear hs
  have HK : Hid _ := hK
  clear hK hx0 hy0
  go_enter Tryd.func20, Tryd.ntmps20
  go_wp2_with fail
  refine Calls.mono (zero_calls sx ax nx cx ex false _) ?_
  rintro r w1 ⟨rfl, rfl⟩
  go_wp2_with fail
  refine Calls.mono (zero_calls sy ay ny cy ey false _) ?_
  rintro r w1 ⟨rfl, rfl⟩
  go_wp2_with fail
  have hw_0 : Below w.heap.size w (((((w.alloc (.cells #[.bool sx, .slice ax nx cx, .int .i64 ex, .bool false] 46)).alloc (.cells #[.bool sy, .slice ay ny cy, .int .i64 ey, .bool false] 46)).alloc (.cells #[.bool false, .slice none 0 0, .int .i64 0, .bool false] 46)).alloc (.cells #[.bool sx, .slice ax nx cx, .int .i64 ex, .bool false] 46)).alloc (.cells #[.bool sy, .slice ay ny cy, .int .i64 ey, .bool false] 46)) := by repeat (first | exact Below.refl _ _ | refine Below.alloc ?_ (by simp; try omega) _)
  have hz_0 : Below (((w.alloc (.cells #[.bool sx, .slice ax nx cx, .int .i64 ex, .bool false] 46)).alloc (.cells #[.bool sy, .slice ay ny cy, .int .i64 ey, .bool false] 46)).alloc (.cells #[.bool false, .slice none 0 0, .int .i64 0, .bool false] 46)).heap.size (((w.alloc (.cells #[.bool sx, .slice ax nx cx, .int .i64 ex, .bool false] 46)).alloc (.cells #[.bool sy, .slice ay ny cy, .int .i64 ey, .bool false] 46)).alloc (.cells #[.bool false, .slice none 0 0, .int .i64 0, .bool false] 46)) (((((w.alloc (.cells #[.bool sx, .slice ax nx cx, .int .i64 ex, .bool false] 46)).alloc (.cells #[.bool sy, .slice ay ny cy, .int .i64 ey, .bool false] 46)).alloc (.cells #[.bool false, .slice none 0 0, .int .i64 0, .bool false] 46)).alloc (.cells #[.bool sx, .slice ax nx cx, .int .i64 ex, .bool false] 46)).alloc (.cells #[.bool sy, .slice ay ny cy, .int .i64 ey, .bool false] 46)) := by repeat (first | exact Below.refl _ _ | refine Below.alloc ?_ (by simp; try omega) _)
  refine Calls.mono (HK.out _ hw_0) ?_
  rintro r w_1 ⟨v, rfl, hN, hb_1⟩
  have hw_1 := nbelow_trans hw_0 hb_1
  have hz_1 := nbelow_trans hz_0 hb_1
  clear hw_0 hz_0 hb_1
  clear HK
  rcases hN with ⟨hg, ao, nn, cc, rfl, HN, HZ, hnn, hO⟩ | ⟨hg, rfl⟩
  · obtain ⟨m0, m1, m2, m3, f0, f1, f2, f3⟩ := zero_num (w := ((w.alloc (.cells #[.bool sx, .slice ax nx cx, .int .i64 ex, .bool false] 46)).alloc (.cells #[.bool sy, .slice ay ny cy, .int .i64 ey, .bool false] 46))) (r := w.heap.size + 1 + 1) hz_1 (by simp)
    go_wp2_with fail
    refine bodyPost_ret (v := numV p.1 ao nn cc p.2.2 false) (by simp [results, Tryd.results20, go_sem, m0, m1, m2, m3]) rfl ?_
    exact ⟨_, rfl, Or.inl ⟨hg, ao, nn, cc, rfl, HN, HZ, hnn, ((((hO.far _ _ (by show w.heap.size + 1 + 1 < _; simp; try omega)).far _ _ (by show w.heap.size + 1 + 1 < _; simp; try omega)).far _ _ (by show w.heap.size + 1 + 1 < _; simp; try omega)).far _ _ (by show w.heap.size + 1 + 1 < _; simp; try omega)).low (by simp; omega)⟩, (((hw_1.setCell (by show w.heap.size ≤ w.heap.size + 1 + 1; omega) _).setCell (by show w.heap.size ≤ w.heap.size + 1 + 1; omega) _).setCell (by show w.heap.size ≤ w.heap.size + 1 + 1; omega) _).setCell (by show w.heap.size ≤ w.heap.size + 1 + 1; omega) _⟩
  · obtain ⟨m0, m1, m2, m3, f0, f1, f2, f3⟩ := zero_num (w := ((w.alloc (.cells #[.bool sx, .slice ax nx cx, .int .i64 ex, .bool false] 46)).alloc (.cells #[.bool sy, .slice ay ny cy, .int .i64 ey, .bool false] 46))) (r := w.heap.size + 1 + 1) hz_1 (by simp)
    go_wp2_with fail
    refine bodyPost_ret (v := numV false none 0 0 0 true) (by simp [results, Tryd.results20, go_sem, m0, m1, m2, m3]) rfl ?_
    exact ⟨_, rfl, Or.inr ⟨hg, rfl⟩, (((hw_1.setCell (by show w.heap.size ≤ w.heap.size + 1 + 1; omega) _).setCell (by show w.heap.size ≤ w.heap.size + 1 + 1; omega) _).setCell (by show w.heap.size ≤ w.heap.size + 1 + 1; omega) _).setCell (by show w.heap.size ≤ w.heap.size + 1 + 1; omega) _⟩

set_option maxRecDepth 100000 in
set_option maxHeartbeats 2000000 in
theorem plus_lap (B : Nat) (sx : Bool) (ax : Option Addr) (nx cx : Nat) (ex : Int) (sy : Bool) (ay : Option Addr) (ny cy : Nat) (ey : Int) (p : Bool × Nat × Int) (w : World) (hB : B ≤ w.heap.size) (hx0 : nx ≠ 0) (hy0 : ny ≠ 0) (he : ex = ey) (hs : sx ≠ sy)
    (hK : ∀ W, Below w.heap.size w W → Calls Tryd.prog 49 #[numV sx ax nx cx ex false, numV sy ay ny cy ey false] W fun r w' => ∃ v, r = .returned v ∧ NumR W.heap.size w' v p ∧ Below W.heap.size W w') :
    Calls Tryd.prog 20 #[numV sx ax nx cx ex false, numV sy ay ny cy ey false] w fun r w' => ∃ v, r = .returned v ∧ NumR B w' v p ∧ Below w.heap.size w w' := by
  have hnx0 : ((nx : Int) == 0) = false := by simp; omega
  have hny0 : ((ny : Int) == 0) = false := by simp; omega
  have hle2 : ¬ ex < ey := by omega
  have hss : (sx == sy) = false := by simp [hs]
  have hee : (ex == ey) = true := by simp [he]
  clear hs he
  have HK : Hid _ := hK
  clear hK hx0 hy0
  go_enter Tryd.func20, Tryd.ntmps20
  go_wp2_with fail
  refine Calls.mono (zero_calls sx ax nx cx ex false _) ?_
  rintro r w1 ⟨rfl, rfl⟩
  go_wp2_with fail
  refine Calls.mono (zero_calls sy ay ny cy ey false _) ?_
  rintro r w1 ⟨rfl, rfl⟩
  go_wp2_with fail
  have hw_0 : Below w.heap.size w (((((w.alloc (.cells #[.bool sx, .slice ax nx cx, .int .i64 ex, .bool false] 46)).alloc (.cells #[.bool sy, .slice ay ny cy, .int .i64 ey, .bool false] 46)).alloc (.cells #[.bool false, .slice none 0 0, .int .i64 0, .bool false] 46)).alloc (.cells #[.bool sx, .slice ax nx cx, .int .i64 ex, .bool false] 46)).alloc (.cells #[.bool sy, .slice ay ny cy, .int .i64 ey, .bool false] 46)) := by repeat (first | exact Below.refl _ _ | refine Below.alloc ?_ (by simp; try omega) _)
  have hz_0 : Below (((w.alloc (.cells #[.bool sx, .slice ax nx cx, .int .i64 ex, .bool false] 46)).alloc (.cells #[.bool sy, .slice ay ny cy, .int .i64 ey, .bool false] 46)).alloc (.cells #[.bool false, .slice none 0 0, .int .i64 0, .bool false] 46)).heap.size (((w.alloc (.cells #[.bool sx, .slice ax nx cx, .int .i64 ex, .bool false] 46)).alloc (.cells #[.bool sy, .slice ay ny cy, .int .i64 ey, .bool false] 46)).alloc (.cells #[.bool false, .slice none 0 0, .int .i64 0, .bool false] 46)) (((((w.alloc (.cells #[.bool sx, .slice ax nx cx, .int .i64 ex, .bool false] 46)).alloc (.cells #[.bool sy, .slice ay ny cy, .int .i64 ey, .bool false] 46)).alloc (.cells #[.bool false, .slice none 0 0, .int .i64 0, .bool false] 46)).alloc (.cells #[.bool sx, .slice ax nx cx, .int .i64 ex, .bool false] 46)).alloc (.cells #[.bool sy, .slice ay ny cy, .int .i64 ey, .bool false] 46)) := by repeat (first | exact Below.refl _ _ | refine Below.alloc ?_ (by simp; try omega) _)
  refine Calls.mono (HK.out _ hw_0) ?_
  rintro r w_1 ⟨v, rfl, hN, hb_1⟩
  have hw_1 := nbelow_trans hw_0 hb_1
  have hz_1 := nbelow_trans hz_0 hb_1
  clear hw_0 hz_0 hb_1
  clear HK
  rcases hN with ⟨hg, ao, nn, cc, rfl, HN, HZ, hnn, hO⟩ | ⟨hg, rfl⟩
  · obtain ⟨m0, m1, m2, m3, f0, f1, f2, f3⟩ := zero_num (w := ((w.alloc (.cells #[.bool sx, .slice ax nx cx, .int .i64 ex, .bool false] 46)).alloc (.cells #[.bool sy, .slice ay ny cy, .int .i64 ey, .bool false] 46))) (r := w.heap.size + 1 + 1) hz_1 (by simp)
    go_wp2_with fail
    refine bodyPost_ret (v := numV p.1 ao nn cc p.2.2 false) (by simp [results, Tryd.results20, go_sem, m0, m1, m2, m3]) rfl ?_
    exact ⟨_, rfl, Or.inl ⟨hg, ao, nn, cc, rfl, HN, HZ, hnn, ((((hO.far _ _ (by show w.heap.size + 1 + 1 < _; simp; try omega)).far _ _ (by show w.heap.size + 1 + 1 < _; simp; try omega)).far _ _ (by show w.heap.size + 1 + 1 < _; simp; try omega)).far _ _ (by show w.heap.size + 1 + 1 < _; simp; try omega)).low (by simp; omega)⟩, (((hw_1.setCell (by show w.heap.size ≤ w.heap.size + 1 + 1; omega) _).setCell (by show w.heap.size ≤ w.heap.size + 1 + 1; omega) _).setCell (by show w.heap.size ≤ w.heap.size + 1 + 1; omega) _).setCell (by show w.heap.size ≤ w.heap.size + 1 + 1; omega) _⟩
  · obtain ⟨m0, m1, m2, m3, f0, f1, f2, f3⟩ := zero_num (w := ((w.alloc (.cells #[.bool sx, .slice ax nx cx, .int .i64 ex, .bool false] 46)).alloc (.cells #[.bool sy, .slice ay ny cy, .int .i64 ey, .bool false] 46))) (r := w.heap.size + 1 + 1) hz_1 (by simp)
    go_wp2_with fail
    refine bodyPost_ret (v := numV false none 0 0 0 true) (by simp [results, Tryd.results20, go_sem, m0, m1, m2, m3]) rfl ?_
    exact ⟨_, rfl, Or.inr ⟨hg, rfl⟩, (((hw_1.setCell (by show w.heap.size ≤ w.heap.size + 1 + 1; omega) _).setCell (by show w.heap.size ≤ w.heap.size + 1 + 1; omega) _).setCell (by show w.heap.size ≤ w.heap.size + 1 + 1; omega) _).setCell (by show w.heap.size ≤ w.heap.size + 1 + 1; omega) _⟩

set_option maxRecDepth 100000 in
set_option maxHeartbeats 2000000 in
theorem plus_apart (B : Nat) (sx : Bool) (ax : Option Addr) (nx cx : Nat) (ex : Int) (sy : Bool) (ay : Option Addr) (ny cy : Nat) (ey : Int) (p : Bool × Nat × Int) (w : World) (hB : B ≤ w.heap.size) (hx0 : nx ≠ 0) (hy0 : ny ≠ 0) (hlt : ey < ex) (hs : sx ≠ sy)
    (hK : ∀ W, Below w.heap.size w W → Calls Tryd.prog 50 #[numV sx ax nx cx ex false, numV sy ay ny cy ey false] W fun r w' => ∃ v, r = .returned v ∧ NumR W.heap.size w' v p ∧ Below W.heap.size W w') :
    Calls Tryd.prog 20 #[numV sx ax nx cx ex false, numV sy ay ny cy ey false] w fun r w' => ∃ v, r = .returned v ∧ NumR B w' v p ∧ Below w.heap.size w w' := by
  have hnx0 : ((nx : Int) == 0) = false := by simp; omega
  have hny0 : ((ny : Int) == 0) = false := by simp; omega
  have hle2 : ¬ ex < ey := by omega
  have hss : (sx == sy) = false := by simp [hs]
  have hee : (ex == ey) = false := by simp; omega
  clear hs
  have HK : Hid _ := hK
  clear hK hx0 hy0
  go_enter Tryd.func20, Tryd.ntmps20
  go_wp2_with fail
  refine Calls.mono (zero_calls sx ax nx cx ex false _) ?_
  rintro r w1 ⟨rfl, rfl⟩
  go_wp2_with fail
  refine Calls.mono (zero_calls sy ay ny cy ey false _) ?_
  rintro r w1 ⟨rfl, rfl⟩
  go_wp2_with fail
  have hw_0 : Below w.heap.size w (((((w.alloc (.cells #[.bool sx, .slice ax nx cx, .int .i64 ex, .bool false] 46)).alloc (.cells #[.bool sy, .slice ay ny cy, .int .i64 ey, .bool false] 46)).alloc (.cells #[.bool false, .slice none 0 0, .int .i64 0, .bool false] 46)).alloc (.cells #[.bool sx, .slice ax nx cx, .int .i64 ex, .bool false] 46)).alloc (.cells #[.bool sy, .slice ay ny cy, .int .i64 ey, .bool false] 46)) := by repeat (first | exact Below.refl _ _ | refine Below.alloc ?_ (by simp; try omega) _)
  have hz_0 : Below (((w.alloc (.cells #[.bool sx, .slice ax nx cx, .int .i64 ex, .bool false] 46)).alloc (.cells #[.bool sy, .slice ay ny cy, .int .i64 ey, .bool false] 46)).alloc (.cells #[.bool false, .slice none 0 0, .int .i64 0, .bool false] 46)).heap.size (((w.alloc (.cells #[.bool sx, .slice ax nx cx, .int .i64 ex, .bool false] 46)).alloc (.cells #[.bool sy, .slice ay ny cy, .int .i64 ey, .bool false] 46)).alloc (.cells #[.bool false, .slice none 0 0, .int .i64 0, .bool false] 46)) (((((w.alloc (.cells #[.bool sx, .slice ax nx cx, .int .i64 ex, .bool false] 46)).alloc (.cells #[.bool sy, .slice ay ny cy, .int .i64 ey, .bool false] 46)).alloc (.cells #[.bool false, .slice none 0 0, .int .i64 0, .bool false] 46)).alloc (.cells #[.bool sx, .slice ax nx cx, .int .i64 ex, .bool false] 46)).alloc (.cells #[.bool sy, .slice ay ny cy, .int .i64 ey, .bool false] 46)) := by repeat (first | exact Below.refl _ _ | refine Below.alloc ?_ (by simp; try omega) _)
  refine Calls.mono (HK.out _ hw_0) ?_
  rintro r w_1 ⟨v, rfl, hN, hb_1⟩
  have hw_1 := nbelow_trans hw_0 hb_1
  have hz_1 := nbelow_trans hz_0 hb_1
  clear hw_0 hz_0 hb_1
  clear HK
  rcases hN with ⟨hg, ao, nn, cc, rfl, HN, HZ, hnn, hO⟩ | ⟨hg, rfl⟩
  · obtain ⟨m0, m1, m2, m3, f0, f1, f2, f3⟩ := zero_num (w := ((w.alloc (.cells #[.bool sx, .slice ax nx cx, .int .i64 ex, .bool false] 46)).alloc (.cells #[.bool sy, .slice ay ny cy, .int .i64 ey, .bool false] 46))) (r := w.heap.size + 1 + 1) hz_1 (by simp)
    go_wp2_with fail
    refine bodyPost_ret (v := numV p.1 ao nn cc p.2.2 false) (by simp [results, Tryd.results20, go_sem, m0, m1, m2, m3]) rfl ?_
    exact ⟨_, rfl, Or.inl ⟨hg, ao, nn, cc, rfl, HN, HZ, hnn, ((((hO.far _ _ (by show w.heap.size + 1 + 1 < _; simp; try omega)).far _ _ (by show w.heap.size + 1 + 1 < _; simp; try omega)).far _ _ (by show w.heap.size + 1 + 1 < _; simp; try omega)).far _ _ (by show w.heap.size + 1 + 1 < _; simp; try omega)).low (by simp; omega)⟩, (((hw_1.setCell (by show w.heap.size ≤ w.heap.size + 1 + 1; omega) _).setCell (by show w.heap.size ≤ w.heap.size + 1 + 1; omega) _).setCell (by show w.heap.size ≤ w.heap.size + 1 + 1; omega) _).setCell (by show w.heap.size ≤ w.heap.size + 1 + 1; omega) _⟩
  · obtain ⟨m0, m1, m2, m3, f0, f1, f2, f3⟩ := zero_num (w := ((w.alloc (.cells #[.bool sx, .slice ax nx cx, .int .i64 ex, .bool false] 46)).alloc (.cells #[.bool sy, .slice ay ny cy, .int .i64 ey, .bool false] 46))) (r := w.heap.size + 1 + 1) hz_1 (by simp)
    go_wp2_with fail
    refine bodyPost_ret (v := numV false none 0 0 0 true) (by simp [results, Tryd.results20, go_sem, m0, m1, m2, m3]) rfl ?_
    exact ⟨_, rfl, Or.inr ⟨hg, rfl⟩, (((hw_1.setCell (by show w.heap.size ≤ w.heap.size + 1 + 1; omega) _).setCell (by show w.heap.size ≤ w.heap.size + 1 + 1; omega) _).setCell (by show w.heap.size ≤ w.heap.size + 1 + 1; omega) _).setCell (by show w.heap.size ≤ w.heap.size + 1 + 1; omega) _⟩

set_option maxRecDepth 100000 in
set_option maxHeartbeats 2000000 in
theorem plus_swap (B : Nat) (sx : Bool) (ax : Option Addr) (nx cx : Nat) (ex : Int) (sy : Bool) (ay : Option Addr) (ny cy : Nat) (ey : Int) (p : Bool × Nat × Int) (w : World) (hB : B ≤ w.heap.size) (hx0 : nx ≠ 0) (hy0 : ny ≠ 0) (hlt : ex < ey)
    (hK : ∀ W, Below w.heap.size w W → Calls Tryd.prog 20 #[numV sy ay ny cy ey false, numV sx ax nx cx ex false] W fun r w' => ∃ v, r = .returned v ∧ NumR W.heap.size w' v p ∧ Below W.heap.size W w') :
    Calls Tryd.prog 20 #[numV sx ax nx cx ex false, numV sy ay ny cy ey false] w fun r w' => ∃ v, r = .returned v ∧ NumR B w' v p ∧ Below w.heap.size w w' := by
  have hnx0 : ((nx : Int) == 0) = false := by simp; omega
  have hny0 : ((ny : Int) == 0) = false := by simp; omega
  have HK : Hid _ := hK
  clear hK hx0 hy0
  go_enter Tryd.func20, Tryd.ntmps20
  go_wp2_with fail
  refine Calls.mono (zero_calls sx ax nx cx ex false _) ?_
  rintro r w1 ⟨rfl, rfl⟩
  go_wp2_with fail
  refine Calls.mono (zero_calls sy ay ny cy ey false _) ?_
  rintro r w1 ⟨rfl, rfl⟩
  go_wp2_with fail
  have hw_0 : Below w.heap.size w (((((w.alloc (.cells #[.bool sx, .slice ax nx cx, .int .i64 ex, .bool false] 46)).alloc (.cells #[.bool sy, .slice ay ny cy, .int .i64 ey, .bool false] 46)).alloc (.cells #[.bool false, .slice none 0 0, .int .i64 0, .bool false] 46)).alloc (.cells #[.bool sx, .slice ax nx cx, .int .i64 ex, .bool false] 46)).alloc (.cells #[.bool sy, .slice ay ny cy, .int .i64 ey, .bool false] 46)) := by repeat (first | exact Below.refl _ _ | refine Below.alloc ?_ (by simp; try omega) _)
  have hz_0 : Below (((w.alloc (.cells #[.bool sx, .slice ax nx cx, .int .i64 ex, .bool false] 46)).alloc (.cells #[.bool sy, .slice ay ny cy, .int .i64 ey, .bool false] 46)).alloc (.cells #[.bool false, .slice none 0 0, .int .i64 0, .bool false] 46)).heap.size (((w.alloc (.cells #[.bool sx, .slice ax nx cx, .int .i64 ex, .bool false] 46)).alloc (.cells #[.bool sy, .slice ay ny cy, .int .i64 ey, .bool false] 46)).alloc (.cells #[.bool false, .slice none 0 0, .int .i64 0, .bool false] 46)) (((((w.alloc (.cells #[.bool sx, .slice ax nx cx, .int .i64 ex, .bool false] 46)).alloc (.cells #[.bool sy, .slice ay ny cy, .int .i64 ey, .bool false] 46)).alloc (.cells #[.bool false, .slice none 0 0, .int .i64 0, .bool false] 46)).alloc (.cells #[.bool sx, .slice ax nx cx, .int .i64 ex, .bool false] 46)).alloc (.cells #[.bool sy, .slice ay ny cy, .int .i64 ey, .bool false] 46)) := by repeat (first | exact Below.refl _ _ | refine Below.alloc ?_ (by simp; try omega) _)
  refine Calls.mono (HK.out _ hw_0) ?_
  rintro r w_1 ⟨v, rfl, hN, hb_1⟩
  have hw_1 := nbelow_trans hw_0 hb_1
  have hz_1 := nbelow_trans hz_0 hb_1
  clear hw_0 hz_0 hb_1
  clear HK
  rcases hN with ⟨hg, ao, nn, cc, rfl, HN, HZ, hnn, hO⟩ | ⟨hg, rfl⟩
  · obtain ⟨m0, m1, m2, m3, f0, f1, f2, f3⟩ := zero_num (w := ((w.alloc (.cells #[.bool sx, .slice ax nx cx, .int .i64 ex, .bool false] 46)).alloc (.cells #[.bool sy, .slice ay ny cy, .int .i64 ey, .bool false] 46))) (r := w.heap.size + 1 + 1) hz_1 (by simp)
    go_wp2_with fail
    refine bodyPost_ret (v := numV p.1 ao nn cc p.2.2 false) (by simp [results, Tryd.results20, go_sem, m0, m1, m2, m3]) rfl ?_
    exact ⟨_, rfl, Or.inl ⟨hg, ao, nn, cc, rfl, HN, HZ, hnn, ((((hO.far _ _ (by show w.heap.size + 1 + 1 < _; simp; try omega)).far _ _ (by show w.heap.size + 1 + 1 < _; simp; try omega)).far _ _ (by show w.heap.size + 1 + 1 < _; simp; try omega)).far _ _ (by show w.heap.size + 1 + 1 < _; simp; try omega)).low (by simp; omega)⟩, (((hw_1.setCell (by show w.heap.size ≤ w.heap.size + 1 + 1; omega) _).setCell (by show w.heap.size ≤ w.heap.size + 1 + 1; omega) _).setCell (by show w.heap.size ≤ w.heap.size + 1 + 1; omega) _).setCell (by show w.heap.size ≤ w.heap.size + 1 + 1; omega) _⟩
  · obtain ⟨m0, m1, m2, m3, f0, f1, f2, f3⟩ := zero_num (w := ((w.alloc (.cells #[.bool sx, .slice ax nx cx, .int .i64 ex, .bool false] 46)).alloc (.cells #[.bool sy, .slice ay ny cy, .int .i64 ey, .bool false] 46))) (r := w.heap.size + 1 + 1) hz_1 (by simp)
    go_wp2_with fail
    refine bodyPost_ret (v := numV false none 0 0 0 true) (by simp [results, Tryd.results20, go_sem, m0, m1, m2, m3]) rfl ?_
    exact ⟨_, rfl, Or.inr ⟨hg, rfl⟩, (((hw_1.setCell (by show w.heap.size ≤ w.heap.size + 1 + 1; omega) _).setCell (by show w.heap.size ≤ w.heap.size + 1 + 1; omega) _).setCell (by show w.heap.size ≤ w.heap.size + 1 + 1; omega) _).setCell (by show w.heap.size ≤ w.heap.size + 1 + 1; omega) _⟩

/-- The sum of two numbers in their one form: the amounts brought to the lower exponent. -/
def addHi (s : Bool) (A : Nat) (t : Bool) (b : Nat) (e : Int) : Bool × Nat × Int := if s = t then formD s (A + b) e else if b ≤ A then formD s (A - b) e else formD t (b - A) e
def sumD (x y : Bool × Nat × Int) : Bool × Nat × Int :=
  if x.2.1 = 0 then y else if y.2.1 = 0 then x else
  if x.2.2 < y.2.2 then addHi y.1 (y.2.1 * 2 ^ (y.2.2 - x.2.2).toNat) x.1 x.2.1 x.2.2 else addHi x.1 (x.2.1 * 2 ^ (x.2.2 - y.2.2).toNat) y.1 y.2.1 y.2.2

theorem apart_calls (sx : Bool) (ax : Option Addr) (nx cx : Nat) (mx : Nat) (ex : Int) (sy : Bool) (ay : Option Addr) (ny cy : Nat) (my : Nat) (ey : Int) (w : World) (hIx : IsW w ax nx cx (wordsOf mx)) (hnx : nx ≤ 1024) (hgx : greatB mx = false) (hex : -100000000 ≤ ex ∧ ex ≤ 100000000) (hIy : IsW w ay ny cy (wordsOf my)) (hny : ny ≤ 1024) (hgy : greatB my = false) (hey : -100000000 ≤ ey ∧ ey ≤ 100000000) (hT : Tab w) (hoy : my % 2 = 1) (dd : Nat) (hd : 0 < dd) (hdd : ex = ey + (dd : Int)) (hs : sx ≠ sy) :
    Calls Tryd.prog 50 #[numV sx ax nx cx ex false, numV sy ay ny cy ey false] w fun r w' => ∃ v, r = .returned v ∧ NumR w.heap.size w' v (addHi sx (mx * 2 ^ dd) sy my ey) ∧ Below w.heap.size w w' := by
  obtain ⟨k, rfl⟩ : ∃ k, dd = k + 1 := ⟨dd - 1, by omega⟩
  have hA : mx * 2 ^ (k + 1) = 2 * (mx * 2 ^ k) := by rw [Nat.pow_succ, ← Nat.mul_assoc, Nat.mul_comm]
  unfold addHi
  rw [if_neg hs]
  rcases shl_cases mx k 0 hgx with ⟨h1, h2⟩ | ⟨h1, _, h2⟩
  · by_cases h3 : mx * 2 ^ k ≤ my / 2
    · rw [if_neg (by rw [hA]; omega)]
      exact apart_lo sx ax nx cx mx ex sy ay ny cy my ey w hIx hnx hgx hex hIy hny hgy hey hT (k + 1) hd hdd (mx * 2 ^ k) h1 h2 h3 (by rw [hA]; congr 1; omega)
    · rw [if_pos (by rw [hA]; omega)]
      exact apart_hi sx ax nx cx mx ex sy ay ny cy my ey w hIx hnx hgx hex hIy hny hgy hey hT (k + 1) hd hdd (mx * 2 ^ k) h1 h2 (by omega) (by rw [hA]; congr 1; omega)
  · have h4 : 2 ^ 65536 ≤ mx * 2 ^ k := by
      rcases Nat.lt_or_ge (mx * 2 ^ k) (2 ^ 65536) with q | q
      · have := (blen_le _ _).2 q
        omega
      · exact q
    have h5 := (blen_le my 65536).1 ((great_not my).1 hgy)
    rw [if_pos (by rw [hA]; exact Nat.le_trans (Nat.le_of_lt h5) (Nat.le_trans h4 (by omega)))]
    refine apart_many sx ax nx cx mx ex sy ay ny cy my ey w hIx hnx hgx hex hIy hny hgy hey hT (k + 1) hd hdd h1 ?_
    rw [form_odd sx (by rw [hA]; omega)]
    show greatB (mx * 2 ^ (k + 1) - my) = true
    rw [great_iff, hA]
    rcases Nat.lt_or_ge 65536 (blen (2 * (mx * 2 ^ k) - my)) with q | q
    · exact q
    · have h6 := (blen_le _ _).1 q
      exfalso
      generalize 2 ^ 65536 = P at h4 h5 h6
      omega

theorem plus_nz (vx vy : Value) (B : Nat) (x y : Bool × Nat × Int) (w : World) (hX : NumAt B w vx x) (hY : NumAt B w vy y) (gx : greatB x.2.1 = false) (gy : greatB y.2.1 = false) (cx : CanD x) (cy : CanD y) (ex : -100000000 ≤ x.2.2 ∧ x.2.2 ≤ 100000000) (ey : -100000000 ≤ y.2.2 ∧ y.2.2 ≤ 100000000) (hT : Tab w) (h1 : x.2.1 ≠ 0) (h2 : y.2.1 ≠ 0) (hle2 : y.2.2 ≤ x.2.2) :
    Calls Tryd.prog 20 #[vx, vy] w fun r w' => ∃ v, r = .returned v ∧ NumR w.heap.size w' v (sumD x y) ∧ Below w.heap.size w w' := by
  obtain ⟨ax, nx, kx, rfl, HNx, HZx, hnx, hOx⟩ := hX
  obtain ⟨ay, ny, ky, rfl, HNy, HZy, hny, hOy⟩ := hY
  obtain ⟨sx, mx, zx⟩ := x
  obtain ⟨sy, my, zy⟩ := y
  simp only at HNx HNy hOx hOy gx gy ex ey hle2 h1 h2 ⊢
  have zx0 : nx = 0 ↔ mx = 0 := by rw [HNx.out, List.length_eq_zero_iff, words_nil]
  have zy0 : ny = 0 ↔ my = 0 := by rw [HNy.out, List.length_eq_zero_iff, words_nil]
  have ox : mx % 2 = 1 := by
    rcases cx with q | q
    · exact absurd (congrArg (fun p => p.2.1) q) h1
    · exact q
  have oy : my % 2 = 1 := by
    rcases cy with q | q
    · exact absurd (congrArg (fun p => p.2.1) q) h2
    · exact q
  unfold sumD
  simp only
  rw [if_neg h1, if_neg h2, if_neg (by omega)]
  obtain ⟨dd, hdd⟩ : ∃ dd : Nat, zx = zy + (dd : Int) := ⟨(zx - zy).toNat, by omega⟩
  have hdd2 : (zx - zy).toNat = dd := by omega
  rw [hdd2]
  by_cases hs : sx = sy
  · refine plus_tog w.heap.size sx ax nx kx zx sy ay ny ky zy _ w (Nat.le_refl _) (fun q => h1 (zx0.1 q)) (fun q => h2 (zy0.1 q)) hle2 hs (fun W hW => ?_)
    have h3 := together_calls sx ax nx kx mx zx sy ay ny ky my zy W (hOx.1.keep hW) hnx gx ex (hOy.1.keep hW) hny gy ey (hT.kept hW) ox oy dd hdd
    unfold addHi
    rw [if_pos hs]
    exact h3
  · by_cases he : zx = zy
    · have hd0 : dd = 0 := by omega
      refine plus_lap w.heap.size sx ax nx kx zx sy ay ny ky zy _ w (Nat.le_refl _) (fun q => h1 (zx0.1 q)) (fun q => h2 (zy0.1 q)) he hs (fun W hW => ?_)
      unfold addHi
      rw [if_neg hs, hd0, Nat.pow_zero, Nat.mul_one]
      by_cases hc : my ≤ mx
      · rw [if_pos hc, ← he]
        have h3 := levelApart_ge sx ax nx kx mx zx sy ay ny ky my zy W (hOx.1.keep hW) hnx gx ex (hOy.1.keep hW) hny gy ey (hT.kept hW) hc
        rw [← he] at h3
        exact h3
      · rw [if_neg hc]
        exact levelApart_lt sx ax nx kx mx zx sy ay ny ky my zy W (hOx.1.keep hW) hnx gx ex (hOy.1.keep hW) hny gy ey (hT.kept hW) (by omega)
    · refine plus_apart w.heap.size sx ax nx kx zx sy ay ny ky zy _ w (Nat.le_refl _) (fun q => h1 (zx0.1 q)) (fun q => h2 (zy0.1 q)) (by omega) hs (fun W hW => ?_)
      exact apart_calls sx ax nx kx mx zx sy ay ny ky my zy W (hOx.1.keep hW) hnx gx ex (hOy.1.keep hW) hny gy ey (hT.kept hW) oy dd (by omega) hdd hs

theorem NumR.low {B B' : Nat} {w : World} {v : Value} {p : Bool × Nat × Int} (h : NumR B w v p) (hB : B' ≤ B) : NumR B' w v p := by
  rcases h with ⟨q, h⟩ | h
  · exact Or.inl ⟨q, h.low hB⟩
  · exact Or.inr h
theorem dplus_calls (B : Nat) (vx vy : Value) (x y : Bool × Nat × Int) (w : World) (hB : B ≤ w.heap.size) (hX : NumAt B w vx x) (hY : NumAt B w vy y) (gx : greatB x.2.1 = false) (gy : greatB y.2.1 = false) (cx : CanD x) (cy : CanD y) (ex : -100000000 ≤ x.2.2 ∧ x.2.2 ≤ 100000000) (ey : -100000000 ≤ y.2.2 ∧ y.2.2 ≤ 100000000) (hT : Tab w) :
    Calls Tryd.prog 20 #[vx, vy] w fun r w' => ∃ v, r = .returned v ∧ NumR B w' v (sumD x y) ∧ Below w.heap.size w w' := by
  by_cases h1 : x.2.1 = 0
  · obtain ⟨ax, nx, kx, rfl, HNx, HZx, hnx, hOx⟩ := hX
    obtain ⟨ay, ny, ky, rfl, HNy, HZy, hny, hOy⟩ := hY
    unfold sumD
    rw [if_pos h1]
    exact plus_zx B x.1 ax nx kx x.2.2 y.1 ay ny ky y.2.1 y.2.2 w hOy HNy HZy hny gy (by rw [HNx.out, h1, words_zero]; rfl)
  · by_cases h2 : y.2.1 = 0
    · obtain ⟨ax, nx, kx, rfl, HNx, HZx, hnx, hOx⟩ := hX
      obtain ⟨ay, ny, ky, rfl, HNy, HZy, hny, hOy⟩ := hY
      unfold sumD
      rw [if_neg h1, if_pos h2]
      exact plus_zy B x.1 ax nx kx x.2.1 x.2.2 y.1 ay ny ky y.2.2 w hOx HNx HZx hnx gx (fun q => h1 ((words_nil _).1 (List.length_eq_zero_iff.1 (by rw [← HNx.out]; exact q)))) (by rw [HNy.out, h2, words_zero]; rfl)
    · rcases Int.lt_or_le x.2.2 y.2.2 with h3 | h3
      · have hsum : sumD x y = sumD y x := by
          unfold sumD
          rw [if_neg h1, if_neg h2, if_neg h2, if_neg h1, if_pos h3, if_neg (by omega)]
        rw [hsum]
        have HP : ∀ W, Below w.heap.size w W → _ := fun W hW => plus_nz vy vx B y x W (hY.keep hW) (hX.keep hW) gy gx cy cx ey ex (hT.kept hW) h2 h1 (Int.le_of_lt h3)
        obtain ⟨ax, nx, kx, rfl, HNx, HZx, hnx, hOx⟩ := hX
        obtain ⟨ay, ny, ky, rfl, HNy, HZy, hny, hOy⟩ := hY
        exact plus_swap B x.1 ax nx kx x.2.2 y.1 ay ny ky y.2.2 _ w hB (fun q => h1 ((words_nil _).1 (List.length_eq_zero_iff.1 (by rw [← HNx.out]; exact q)))) (fun q => h2 ((words_nil _).1 (List.length_eq_zero_iff.1 (by rw [← HNy.out]; exact q)))) h3 HP
      · refine Calls.mono (plus_nz vx vy B x y w hX hY gx gy cx cy ex ey hT h1 h2 h3) ?_
        rintro r w' ⟨v, rfl, hN, hb⟩
        exact ⟨v, rfl, hN.low hB, hb⟩

end Go.Proofs.YtmibejihmdkgaaaDoor

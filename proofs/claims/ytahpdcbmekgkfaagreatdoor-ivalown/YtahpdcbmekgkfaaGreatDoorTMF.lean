/- The walk of plus. The walks of Add. The walk of Add. The walks of cuts. The walks of Cut. The walks of Int, Check, Zero. -/
import Derived.Test.YtahpdcbmekgkfaaGreatDoorAL
import Derived.Test.YtahpdcbmekgkfaaGreatDoorDPlus2
import Derived.Test.YtahpdcbmekgkfaaGreatDoorFX

namespace Go.Proofs.YtahpdcbmekgkfaaGreatDoor
open Go.RowKit
set_option maxHeartbeats 2000000
set_option maxRecDepth 100000
theorem plus_zx (B : Nat) (sx : Bool) (ax : Option Addr) (nx cx : Nat) (ex : Int) (sy : Bool) (ay : Option Addr) (ny cy : Nat) (my : Nat) (ey : Int) (w : World) (hIy : OwnW B w ay ny cy (wO my)) (HNy : Hid (ny = (wO my).length)) (HZy : Hid (ny = 0 → ay = none ∧ cy = 0)) (hny : ny ≤ 1024) (hgy : greatB my = false) (hz : nx = 0) :
  Calls Tryz.prog 143 #[numV sx ax nx cx ex false, numV sy ay ny cy ey false] w fun r w' => ∃ v, r = .returned v ∧ NumR B w' v (sy, my, ey) ∧ Below w.heap.size w w' := by
 subst hz
 go_enter Tryz.func143, Tryz.ntmps143
 go_wp2_with fail
 refine cM (zero_calls sx ax 0 cx ex false _) ?_
 rintro r w1 ⟨rfl, rfl⟩
 go_wp2_with fail
 refine bodyPost_ret (v := numV sy ay ny cy ey false) (by simp [results, Tryz.results143, go_sem]) rfl ⟨_, rfl, Or.inl ⟨hgy, ay, ny, cy, rfl, HNy, HZy, hny, hIy.keep (by repeat (first | exact Below.refl _ _ | refine Below.alloc ?_ (by simp; try omega) _))⟩, by repeat (first | exact Below.refl _ _ | refine Below.alloc ?_ (by simp; try omega) _)⟩
theorem plus_zy (B : Nat) (sx : Bool) (ax : Option Addr) (nx cx : Nat) (mx : Nat) (ex : Int) (sy : Bool) (ay : Option Addr) (ny cy : Nat) (ey : Int) (w : World) (hIx : OwnW B w ax nx cx (wO mx)) (HNx : Hid (nx = (wO mx).length)) (HZx : Hid (nx = 0 → ax = none ∧ cx = 0)) (hnx : nx ≤ 1024) (hgx : greatB mx = false) (hn0 : nx ≠ 0) (hz : ny = 0) :
  Calls Tryz.prog 143 #[numV sx ax nx cx ex false, numV sy ay ny cy ey false] w fun r w' => ∃ v, r = .returned v ∧ NumR B w' v (sx, mx, ex) ∧ Below w.heap.size w w' := by
 have hnx0 : ((nx : Int) == 0) = false := by simp; omega
 clear hn0
 subst hz
 go_enter Tryz.func143, Tryz.ntmps143
 go_wp2_with fail
 refine cM (zero_calls sx ax nx cx ex false _) ?_
 rintro r w1 ⟨rfl, rfl⟩
 go_wp2_with fail
 refine cM (zero_calls sy ay 0 cy ey false _) ?_
 rintro r w1 ⟨rfl, rfl⟩
 go_wp2_with fail
 refine bodyPost_ret (v := numV sx ax nx cx ex false) (by simp [results, Tryz.results143, go_sem]) rfl ⟨_, rfl, Or.inl ⟨hgx, ax, nx, cx, rfl, HNx, HZx, hnx, hIx.keep (by repeat (first | exact Below.refl _ _ | refine Below.alloc ?_ (by simp; try omega) _))⟩, by repeat (first | exact Below.refl _ _ | refine Below.alloc ?_ (by simp; try omega) _)⟩
theorem plus_tog (B : Nat) (sx : Bool) (ax : Option Addr) (nx cx : Nat) (ex : Int) (sy : Bool) (ay : Option Addr) (ny cy : Nat) (ey : Int) (p : Bool × Nat × Int) (w : World) (hB : B ≤ w.heap.size) (hx0 : nx ≠ 0) (hy0 : ny ≠ 0) (hle : ey ≤ ex) (hs : sx = sy)
  (hK : ∀ W, Below w.heap.size w W → Calls Tryz.prog 181 #[numV sx ax nx cx ex false, numV sy ay ny cy ey false] W fun r w' => ∃ v, r = .returned v ∧ NumR W.heap.size w' v p ∧ Below W.heap.size W w') :
  Calls Tryz.prog 143 #[numV sx ax nx cx ex false, numV sy ay ny cy ey false] w fun r w' => ∃ v, r = .returned v ∧ NumR B w' v p ∧ Below w.heap.size w w' := by
 have hnx0 : ((nx : Int) == 0) = false := by simp; omega
 have hny0 : ((ny : Int) == 0) = false := by simp; omega
 have hle2 : ¬ ex < ey := by omega
 have hss : (sx == sy) = true := by simp [hs]
 clear hs
 have HK : Hid _ := hK
 clear hK hx0 hy0
 go_enter Tryz.func143, Tryz.ntmps143
 go_wp2_with fail
 refine cM (zero_calls sx ax nx cx ex false _) ?_
 rintro r w1 ⟨rfl, rfl⟩
 go_wp2_with fail
 refine cM (zero_calls sy ay ny cy ey false _) ?_
 rintro r w1 ⟨rfl, rfl⟩
 go_wp2_with fail
 have hw_0 : Below w.heap.size w (((((w.alloc (.cells #[.bool sx, .slice ax nx cx, .int .i64 ex, .bool false] 109)).alloc (.cells #[.bool sy, .slice ay ny cy, .int .i64 ey, .bool false] 109)).alloc (.cells #[.bool false, .slice none 0 0, .int .i64 0, .bool false] 109)).alloc (.cells #[.bool sx, .slice ax nx cx, .int .i64 ex, .bool false] 109)).alloc (.cells #[.bool sy, .slice ay ny cy, .int .i64 ey, .bool false] 109)) := by repeat (first | exact Below.refl _ _ | refine Below.alloc ?_ (by simp; try omega) _)
 have hz_0 : Below (((w.alloc (.cells #[.bool sx, .slice ax nx cx, .int .i64 ex, .bool false] 109)).alloc (.cells #[.bool sy, .slice ay ny cy, .int .i64 ey, .bool false] 109)).alloc (.cells #[.bool false, .slice none 0 0, .int .i64 0, .bool false] 109)).heap.size (((w.alloc (.cells #[.bool sx, .slice ax nx cx, .int .i64 ex, .bool false] 109)).alloc (.cells #[.bool sy, .slice ay ny cy, .int .i64 ey, .bool false] 109)).alloc (.cells #[.bool false, .slice none 0 0, .int .i64 0, .bool false] 109)) (((((w.alloc (.cells #[.bool sx, .slice ax nx cx, .int .i64 ex, .bool false] 109)).alloc (.cells #[.bool sy, .slice ay ny cy, .int .i64 ey, .bool false] 109)).alloc (.cells #[.bool false, .slice none 0 0, .int .i64 0, .bool false] 109)).alloc (.cells #[.bool sx, .slice ax nx cx, .int .i64 ex, .bool false] 109)).alloc (.cells #[.bool sy, .slice ay ny cy, .int .i64 ey, .bool false] 109)) := by repeat (first | exact Below.refl _ _ | refine Below.alloc ?_ (by simp; try omega) _)
 refine cM (HK.out _ hw_0) ?_
 rintro r w_1 ⟨v, rfl, hN, hb_1⟩
 have hw_1 := nT hw_0 hb_1
 have hz_1 := nT hz_0 hb_1
 clear hw_0 hz_0 hb_1
 clear HK
 rcases hN with ⟨hg, ao, nn, cc, rfl, HN, HZ, hnn, hO⟩ | ⟨hg, rfl⟩
 ·obtain ⟨m0, m1, m2, m3, f0, f1, f2, f3⟩ := zero_num (w := ((w.alloc (.cells #[.bool sx, .slice ax nx cx, .int .i64 ex, .bool false] 109)).alloc (.cells #[.bool sy, .slice ay ny cy, .int .i64 ey, .bool false] 109))) (r := w.heap.size + 1 + 1) hz_1 (by simp)
  go_wp2_with fail
  refine bodyPost_ret (v := numV p.1 ao nn cc p.2.2 false) (by simp [results, Tryz.results143, go_sem, m0, m1, m2, m3]) rfl ?_
  exact ⟨_, rfl, Or.inl ⟨hg, ao, nn, cc, rfl, HN, HZ, hnn, ((((hO.far _ _ (by show w.heap.size + 1 + 1 < _; simp; try omega)).far _ _ (by show w.heap.size + 1 + 1 < _; simp; try omega)).far _ _ (by show w.heap.size + 1 + 1 < _; simp; try omega)).far _ _ (by show w.heap.size + 1 + 1 < _; simp; try omega)).low (by simp; omega)⟩, (((hw_1.setCell (le2 _) _).setCell (le2 _) _).setCell (le2 _) _).setCell (le2 _) _⟩
 ·obtain ⟨m0, m1, m2, m3, f0, f1, f2, f3⟩ := zero_num (w := ((w.alloc (.cells #[.bool sx, .slice ax nx cx, .int .i64 ex, .bool false] 109)).alloc (.cells #[.bool sy, .slice ay ny cy, .int .i64 ey, .bool false] 109))) (r := w.heap.size + 1 + 1) hz_1 (by simp)
  go_wp2_with fail
  refine bodyPost_ret (v := numV false none 0 0 0 true) (by simp [results, Tryz.results143, go_sem, m0, m1, m2, m3]) rfl ?_
  exact ⟨_, rfl, Or.inr ⟨hg, rfl⟩, (((hw_1.setCell (le2 _) _).setCell (le2 _) _).setCell (le2 _) _).setCell (le2 _) _⟩
theorem plus_lap (B : Nat) (sx : Bool) (ax : Option Addr) (nx cx : Nat) (ex : Int) (sy : Bool) (ay : Option Addr) (ny cy : Nat) (ey : Int) (p : Bool × Nat × Int) (w : World) (hB : B ≤ w.heap.size) (hx0 : nx ≠ 0) (hy0 : ny ≠ 0) (he : ex = ey) (hs : sx ≠ sy)
  (hK : ∀ W, Below w.heap.size w W → Calls Tryz.prog 182 #[numV sx ax nx cx ex false, numV sy ay ny cy ey false] W fun r w' => ∃ v, r = .returned v ∧ NumR W.heap.size w' v p ∧ Below W.heap.size W w') :
  Calls Tryz.prog 143 #[numV sx ax nx cx ex false, numV sy ay ny cy ey false] w fun r w' => ∃ v, r = .returned v ∧ NumR B w' v p ∧ Below w.heap.size w w' := by
 have hnx0 : ((nx : Int) == 0) = false := by simp; omega
 have hny0 : ((ny : Int) == 0) = false := by simp; omega
 have hle2 : ¬ ex < ey := by omega
 have hss : (sx == sy) = false := by simp [hs]
 have hee : (ex == ey) = true := by simp [he]
 clear hs he
 have HK : Hid _ := hK
 clear hK hx0 hy0
 go_enter Tryz.func143, Tryz.ntmps143
 go_wp2_with fail
 refine cM (zero_calls sx ax nx cx ex false _) ?_
 rintro r w1 ⟨rfl, rfl⟩
 go_wp2_with fail
 refine cM (zero_calls sy ay ny cy ey false _) ?_
 rintro r w1 ⟨rfl, rfl⟩
 go_wp2_with fail
 have hw_0 : Below w.heap.size w (((((w.alloc (.cells #[.bool sx, .slice ax nx cx, .int .i64 ex, .bool false] 109)).alloc (.cells #[.bool sy, .slice ay ny cy, .int .i64 ey, .bool false] 109)).alloc (.cells #[.bool false, .slice none 0 0, .int .i64 0, .bool false] 109)).alloc (.cells #[.bool sx, .slice ax nx cx, .int .i64 ex, .bool false] 109)).alloc (.cells #[.bool sy, .slice ay ny cy, .int .i64 ey, .bool false] 109)) := by repeat (first | exact Below.refl _ _ | refine Below.alloc ?_ (by simp; try omega) _)
 have hz_0 : Below (((w.alloc (.cells #[.bool sx, .slice ax nx cx, .int .i64 ex, .bool false] 109)).alloc (.cells #[.bool sy, .slice ay ny cy, .int .i64 ey, .bool false] 109)).alloc (.cells #[.bool false, .slice none 0 0, .int .i64 0, .bool false] 109)).heap.size (((w.alloc (.cells #[.bool sx, .slice ax nx cx, .int .i64 ex, .bool false] 109)).alloc (.cells #[.bool sy, .slice ay ny cy, .int .i64 ey, .bool false] 109)).alloc (.cells #[.bool false, .slice none 0 0, .int .i64 0, .bool false] 109)) (((((w.alloc (.cells #[.bool sx, .slice ax nx cx, .int .i64 ex, .bool false] 109)).alloc (.cells #[.bool sy, .slice ay ny cy, .int .i64 ey, .bool false] 109)).alloc (.cells #[.bool false, .slice none 0 0, .int .i64 0, .bool false] 109)).alloc (.cells #[.bool sx, .slice ax nx cx, .int .i64 ex, .bool false] 109)).alloc (.cells #[.bool sy, .slice ay ny cy, .int .i64 ey, .bool false] 109)) := by repeat (first | exact Below.refl _ _ | refine Below.alloc ?_ (by simp; try omega) _)
 refine cM (HK.out _ hw_0) ?_
 rintro r w_1 ⟨v, rfl, hN, hb_1⟩
 have hw_1 := nT hw_0 hb_1
 have hz_1 := nT hz_0 hb_1
 clear hw_0 hz_0 hb_1
 clear HK
 rcases hN with ⟨hg, ao, nn, cc, rfl, HN, HZ, hnn, hO⟩ | ⟨hg, rfl⟩
 ·obtain ⟨m0, m1, m2, m3, f0, f1, f2, f3⟩ := zero_num (w := ((w.alloc (.cells #[.bool sx, .slice ax nx cx, .int .i64 ex, .bool false] 109)).alloc (.cells #[.bool sy, .slice ay ny cy, .int .i64 ey, .bool false] 109))) (r := w.heap.size + 1 + 1) hz_1 (by simp)
  go_wp2_with fail
  refine bodyPost_ret (v := numV p.1 ao nn cc p.2.2 false) (by simp [results, Tryz.results143, go_sem, m0, m1, m2, m3]) rfl ?_
  exact ⟨_, rfl, Or.inl ⟨hg, ao, nn, cc, rfl, HN, HZ, hnn, ((((hO.far _ _ (by show w.heap.size + 1 + 1 < _; simp; try omega)).far _ _ (by show w.heap.size + 1 + 1 < _; simp; try omega)).far _ _ (by show w.heap.size + 1 + 1 < _; simp; try omega)).far _ _ (by show w.heap.size + 1 + 1 < _; simp; try omega)).low (by simp; omega)⟩, (((hw_1.setCell (le2 _) _).setCell (le2 _) _).setCell (le2 _) _).setCell (le2 _) _⟩
 ·obtain ⟨m0, m1, m2, m3, f0, f1, f2, f3⟩ := zero_num (w := ((w.alloc (.cells #[.bool sx, .slice ax nx cx, .int .i64 ex, .bool false] 109)).alloc (.cells #[.bool sy, .slice ay ny cy, .int .i64 ey, .bool false] 109))) (r := w.heap.size + 1 + 1) hz_1 (by simp)
  go_wp2_with fail
  refine bodyPost_ret (v := numV false none 0 0 0 true) (by simp [results, Tryz.results143, go_sem, m0, m1, m2, m3]) rfl ?_
  exact ⟨_, rfl, Or.inr ⟨hg, rfl⟩, (((hw_1.setCell (le2 _) _).setCell (le2 _) _).setCell (le2 _) _).setCell (le2 _) _⟩
theorem plus_apart (B : Nat) (sx : Bool) (ax : Option Addr) (nx cx : Nat) (ex : Int) (sy : Bool) (ay : Option Addr) (ny cy : Nat) (ey : Int) (p : Bool × Nat × Int) (w : World) (hB : B ≤ w.heap.size) (hx0 : nx ≠ 0) (hy0 : ny ≠ 0) (hlt : ey < ex) (hs : sx ≠ sy)
  (hK : ∀ W, Below w.heap.size w W → Calls Tryz.prog 183 #[numV sx ax nx cx ex false, numV sy ay ny cy ey false] W fun r w' => ∃ v, r = .returned v ∧ NumR W.heap.size w' v p ∧ Below W.heap.size W w') :
  Calls Tryz.prog 143 #[numV sx ax nx cx ex false, numV sy ay ny cy ey false] w fun r w' => ∃ v, r = .returned v ∧ NumR B w' v p ∧ Below w.heap.size w w' := by
 have hnx0 : ((nx : Int) == 0) = false := by simp; omega
 have hny0 : ((ny : Int) == 0) = false := by simp; omega
 have hle2 : ¬ ex < ey := by omega
 have hss : (sx == sy) = false := by simp [hs]
 have hee : (ex == ey) = false := by simp; omega
 clear hs
 have HK : Hid _ := hK
 clear hK hx0 hy0
 go_enter Tryz.func143, Tryz.ntmps143
 go_wp2_with fail
 refine cM (zero_calls sx ax nx cx ex false _) ?_
 rintro r w1 ⟨rfl, rfl⟩
 go_wp2_with fail
 refine cM (zero_calls sy ay ny cy ey false _) ?_
 rintro r w1 ⟨rfl, rfl⟩
 go_wp2_with fail
 have hw_0 : Below w.heap.size w (((((w.alloc (.cells #[.bool sx, .slice ax nx cx, .int .i64 ex, .bool false] 109)).alloc (.cells #[.bool sy, .slice ay ny cy, .int .i64 ey, .bool false] 109)).alloc (.cells #[.bool false, .slice none 0 0, .int .i64 0, .bool false] 109)).alloc (.cells #[.bool sx, .slice ax nx cx, .int .i64 ex, .bool false] 109)).alloc (.cells #[.bool sy, .slice ay ny cy, .int .i64 ey, .bool false] 109)) := by repeat (first | exact Below.refl _ _ | refine Below.alloc ?_ (by simp; try omega) _)
 have hz_0 : Below (((w.alloc (.cells #[.bool sx, .slice ax nx cx, .int .i64 ex, .bool false] 109)).alloc (.cells #[.bool sy, .slice ay ny cy, .int .i64 ey, .bool false] 109)).alloc (.cells #[.bool false, .slice none 0 0, .int .i64 0, .bool false] 109)).heap.size (((w.alloc (.cells #[.bool sx, .slice ax nx cx, .int .i64 ex, .bool false] 109)).alloc (.cells #[.bool sy, .slice ay ny cy, .int .i64 ey, .bool false] 109)).alloc (.cells #[.bool false, .slice none 0 0, .int .i64 0, .bool false] 109)) (((((w.alloc (.cells #[.bool sx, .slice ax nx cx, .int .i64 ex, .bool false] 109)).alloc (.cells #[.bool sy, .slice ay ny cy, .int .i64 ey, .bool false] 109)).alloc (.cells #[.bool false, .slice none 0 0, .int .i64 0, .bool false] 109)).alloc (.cells #[.bool sx, .slice ax nx cx, .int .i64 ex, .bool false] 109)).alloc (.cells #[.bool sy, .slice ay ny cy, .int .i64 ey, .bool false] 109)) := by repeat (first | exact Below.refl _ _ | refine Below.alloc ?_ (by simp; try omega) _)
 refine cM (HK.out _ hw_0) ?_
 rintro r w_1 ⟨v, rfl, hN, hb_1⟩
 have hw_1 := nT hw_0 hb_1
 have hz_1 := nT hz_0 hb_1
 clear hw_0 hz_0 hb_1
 clear HK
 rcases hN with ⟨hg, ao, nn, cc, rfl, HN, HZ, hnn, hO⟩ | ⟨hg, rfl⟩
 ·obtain ⟨m0, m1, m2, m3, f0, f1, f2, f3⟩ := zero_num (w := ((w.alloc (.cells #[.bool sx, .slice ax nx cx, .int .i64 ex, .bool false] 109)).alloc (.cells #[.bool sy, .slice ay ny cy, .int .i64 ey, .bool false] 109))) (r := w.heap.size + 1 + 1) hz_1 (by simp)
  go_wp2_with fail
  refine bodyPost_ret (v := numV p.1 ao nn cc p.2.2 false) (by simp [results, Tryz.results143, go_sem, m0, m1, m2, m3]) rfl ?_
  exact ⟨_, rfl, Or.inl ⟨hg, ao, nn, cc, rfl, HN, HZ, hnn, ((((hO.far _ _ (by show w.heap.size + 1 + 1 < _; simp; try omega)).far _ _ (by show w.heap.size + 1 + 1 < _; simp; try omega)).far _ _ (by show w.heap.size + 1 + 1 < _; simp; try omega)).far _ _ (by show w.heap.size + 1 + 1 < _; simp; try omega)).low (by simp; omega)⟩, (((hw_1.setCell (le2 _) _).setCell (le2 _) _).setCell (le2 _) _).setCell (le2 _) _⟩
 ·obtain ⟨m0, m1, m2, m3, f0, f1, f2, f3⟩ := zero_num (w := ((w.alloc (.cells #[.bool sx, .slice ax nx cx, .int .i64 ex, .bool false] 109)).alloc (.cells #[.bool sy, .slice ay ny cy, .int .i64 ey, .bool false] 109))) (r := w.heap.size + 1 + 1) hz_1 (by simp)
  go_wp2_with fail
  refine bodyPost_ret (v := numV false none 0 0 0 true) (by simp [results, Tryz.results143, go_sem, m0, m1, m2, m3]) rfl ?_
  exact ⟨_, rfl, Or.inr ⟨hg, rfl⟩, (((hw_1.setCell (le2 _) _).setCell (le2 _) _).setCell (le2 _) _).setCell (le2 _) _⟩
theorem plus_swap (B : Nat) (sx : Bool) (ax : Option Addr) (nx cx : Nat) (ex : Int) (sy : Bool) (ay : Option Addr) (ny cy : Nat) (ey : Int) (p : Bool × Nat × Int) (w : World) (hB : B ≤ w.heap.size) (hx0 : nx ≠ 0) (hy0 : ny ≠ 0) (hlt : ex < ey)
  (hK : ∀ W, Below w.heap.size w W → Calls Tryz.prog 143 #[numV sy ay ny cy ey false, numV sx ax nx cx ex false] W fun r w' => ∃ v, r = .returned v ∧ NumR W.heap.size w' v p ∧ Below W.heap.size W w') :
  Calls Tryz.prog 143 #[numV sx ax nx cx ex false, numV sy ay ny cy ey false] w fun r w' => ∃ v, r = .returned v ∧ NumR B w' v p ∧ Below w.heap.size w w' := by
 have hnx0 : ((nx : Int) == 0) = false := by simp; omega
 have hny0 : ((ny : Int) == 0) = false := by simp; omega
 have HK : Hid _ := hK
 clear hK hx0 hy0
 go_enter Tryz.func143, Tryz.ntmps143
 go_wp2_with fail
 refine cM (zero_calls sx ax nx cx ex false _) ?_
 rintro r w1 ⟨rfl, rfl⟩
 go_wp2_with fail
 refine cM (zero_calls sy ay ny cy ey false _) ?_
 rintro r w1 ⟨rfl, rfl⟩
 go_wp2_with fail
 have hw_0 : Below w.heap.size w (((((w.alloc (.cells #[.bool sx, .slice ax nx cx, .int .i64 ex, .bool false] 109)).alloc (.cells #[.bool sy, .slice ay ny cy, .int .i64 ey, .bool false] 109)).alloc (.cells #[.bool false, .slice none 0 0, .int .i64 0, .bool false] 109)).alloc (.cells #[.bool sx, .slice ax nx cx, .int .i64 ex, .bool false] 109)).alloc (.cells #[.bool sy, .slice ay ny cy, .int .i64 ey, .bool false] 109)) := by repeat (first | exact Below.refl _ _ | refine Below.alloc ?_ (by simp; try omega) _)
 have hz_0 : Below (((w.alloc (.cells #[.bool sx, .slice ax nx cx, .int .i64 ex, .bool false] 109)).alloc (.cells #[.bool sy, .slice ay ny cy, .int .i64 ey, .bool false] 109)).alloc (.cells #[.bool false, .slice none 0 0, .int .i64 0, .bool false] 109)).heap.size (((w.alloc (.cells #[.bool sx, .slice ax nx cx, .int .i64 ex, .bool false] 109)).alloc (.cells #[.bool sy, .slice ay ny cy, .int .i64 ey, .bool false] 109)).alloc (.cells #[.bool false, .slice none 0 0, .int .i64 0, .bool false] 109)) (((((w.alloc (.cells #[.bool sx, .slice ax nx cx, .int .i64 ex, .bool false] 109)).alloc (.cells #[.bool sy, .slice ay ny cy, .int .i64 ey, .bool false] 109)).alloc (.cells #[.bool false, .slice none 0 0, .int .i64 0, .bool false] 109)).alloc (.cells #[.bool sx, .slice ax nx cx, .int .i64 ex, .bool false] 109)).alloc (.cells #[.bool sy, .slice ay ny cy, .int .i64 ey, .bool false] 109)) := by repeat (first | exact Below.refl _ _ | refine Below.alloc ?_ (by simp; try omega) _)
 refine cM (HK.out _ hw_0) ?_
 rintro r w_1 ⟨v, rfl, hN, hb_1⟩
 have hw_1 := nT hw_0 hb_1
 have hz_1 := nT hz_0 hb_1
 clear hw_0 hz_0 hb_1
 clear HK
 rcases hN with ⟨hg, ao, nn, cc, rfl, HN, HZ, hnn, hO⟩ | ⟨hg, rfl⟩
 ·obtain ⟨m0, m1, m2, m3, f0, f1, f2, f3⟩ := zero_num (w := ((w.alloc (.cells #[.bool sx, .slice ax nx cx, .int .i64 ex, .bool false] 109)).alloc (.cells #[.bool sy, .slice ay ny cy, .int .i64 ey, .bool false] 109))) (r := w.heap.size + 1 + 1) hz_1 (by simp)
  go_wp2_with fail
  refine bodyPost_ret (v := numV p.1 ao nn cc p.2.2 false) (by simp [results, Tryz.results143, go_sem, m0, m1, m2, m3]) rfl ?_
  exact ⟨_, rfl, Or.inl ⟨hg, ao, nn, cc, rfl, HN, HZ, hnn, ((((hO.far _ _ (by show w.heap.size + 1 + 1 < _; simp; try omega)).far _ _ (by show w.heap.size + 1 + 1 < _; simp; try omega)).far _ _ (by show w.heap.size + 1 + 1 < _; simp; try omega)).far _ _ (by show w.heap.size + 1 + 1 < _; simp; try omega)).low (by simp; omega)⟩, (((hw_1.setCell (le2 _) _).setCell (le2 _) _).setCell (le2 _) _).setCell (le2 _) _⟩
 ·obtain ⟨m0, m1, m2, m3, f0, f1, f2, f3⟩ := zero_num (w := ((w.alloc (.cells #[.bool sx, .slice ax nx cx, .int .i64 ex, .bool false] 109)).alloc (.cells #[.bool sy, .slice ay ny cy, .int .i64 ey, .bool false] 109))) (r := w.heap.size + 1 + 1) hz_1 (by simp)
  go_wp2_with fail
  refine bodyPost_ret (v := numV false none 0 0 0 true) (by simp [results, Tryz.results143, go_sem, m0, m1, m2, m3]) rfl ?_
  exact ⟨_, rfl, Or.inr ⟨hg, rfl⟩, (((hw_1.setCell (le2 _) _).setCell (le2 _) _).setCell (le2 _) _).setCell (le2 _) _⟩
def addHi (s : Bool) (A : Nat) (t : Bool) (b : Nat) (e : Int) : Bool × Nat × Int := if s = t then formD s (A + b) e else if b ≤ A then formD s (A - b) e else formD t (b - A) e
def sumD (x y : Bool × Nat × Int) : Bool × Nat × Int :=
 if x.2.1 = 0 then y else if y.2.1 = 0 then x else
 if x.2.2 < y.2.2 then addHi y.1 (y.2.1 * 2 ^ (y.2.2 - x.2.2).toNat) x.1 x.2.1 x.2.2 else addHi x.1 (x.2.1 * 2 ^ (x.2.2 - y.2.2).toNat) y.1 y.2.1 y.2.2
theorem apart_calls (sx : Bool) (ax : Option Addr) (nx cx : Nat) (mx : Nat) (ex : Int) (sy : Bool) (ay : Option Addr) (ny cy : Nat) (my : Nat) (ey : Int) (w : World) (hIx : IsW w ax nx cx (wO mx)) (hnx : nx ≤ 1024) (hgx : greatB mx = false) (hex : -100000000 ≤ ex ∧ ex ≤ 100000000) (hIy : IsW w ay ny cy (wO my)) (hny : ny ≤ 1024) (hgy : greatB my = false) (hey : -100000000 ≤ ey ∧ ey ≤ 100000000) (hT : Tab w) (hoy : my % 2 = 1) (dd : Nat) (hd : 0 < dd) (hdd : ex = ey + (dd : Int)) (hs : sx ≠ sy) :
  Calls Tryz.prog 183 #[numV sx ax nx cx ex false, numV sy ay ny cy ey false] w fun r w' => ∃ v, r = .returned v ∧ NumR w.heap.size w' v (addHi sx (mx * 2 ^ dd) sy my ey) ∧ Below w.heap.size w w' := by
 obtain ⟨k, rfl⟩ : ∃ k, dd = k + 1 := ⟨dd - 1, by omega⟩
 have hA : mx * 2 ^ (k + 1) = 2 * (mx * 2 ^ k) := by rw [Nat.pow_succ, ← Nat.mul_assoc, Nat.mul_comm]
 unfold addHi
 rw [if_neg hs]
 rcases shl_cases mx k 0 hgx with ⟨h1, h2⟩ | ⟨h1, _, h2⟩
 ·by_cases h3 : mx * 2 ^ k ≤ my / 2
  ·rw [if_neg (by rw [hA]; omega)]
   exact apart_lo sx ax nx cx mx ex sy ay ny cy my ey w hIx hnx hgx hex hIy hny hgy hey hT (k + 1) hd hdd (mx * 2 ^ k) h1 h2 h3 (by rw [hA]; congr 1; omega)
  ·rw [if_pos (by rw [hA]; omega)]
   exact apart_hi sx ax nx cx mx ex sy ay ny cy my ey w hIx hnx hgx hex hIy hny hgy hey hT (k + 1) hd hdd (mx * 2 ^ k) h1 h2 (by omega) (by rw [hA]; congr 1; omega)
 ·have h4 : 2 ^ 65536 ≤ mx * 2 ^ k := by
   rcases Nat.lt_or_ge (mx * 2 ^ k) (2 ^ 65536) with q | q
   ·have := (blen_le _ _).2 q
    omega
   ·exact q
  have h5 := (blen_le my 65536).1 ((great_not my).1 hgy)
  rw [if_pos (by rw [hA]; exact Nat.le_trans (Nat.le_of_lt h5) (Nat.le_trans h4 (by omega)))]
  refine apart_many sx ax nx cx mx ex sy ay ny cy my ey w hIx hnx hgx hex hIy hny hgy hey hT (k + 1) hd hdd h1 ?_
  rw [form_odd sx (by rw [hA]; omega)]
  show greatB (mx * 2 ^ (k + 1) - my) = true
  rw [great_iff, hA]
  rcases Nat.lt_or_ge 65536 (blen (2 * (mx * 2 ^ k) - my)) with q | q
  ·exact q
  ·have h6 := (blen_le _ _).1 q
   exfalso
   generalize 2 ^ 65536 = P at h4 h5 h6
   omega
theorem plus_nz (vx vy : Value) (B : Nat) (x y : Bool × Nat × Int) (w : World) (hX : NumAt B w vx x) (hY : NumAt B w vy y) (gx : greatB x.2.1 = false) (gy : greatB y.2.1 = false) (cx : CanD x) (cy : CanD y) (ex : -100000000 ≤ x.2.2 ∧ x.2.2 ≤ 100000000) (ey : -100000000 ≤ y.2.2 ∧ y.2.2 ≤ 100000000) (hT : Tab w) (h1 : x.2.1 ≠ 0) (h2 : y.2.1 ≠ 0) (hle2 : y.2.2 ≤ x.2.2) :
  Calls Tryz.prog 143 #[vx, vy] w fun r w' => ∃ v, r = .returned v ∧ NumR w.heap.size w' v (sumD x y) ∧ Below w.heap.size w w' := by
 obtain ⟨ax, nx, kx, rfl, HNx, HZx, hnx, hOx⟩ := hX
 obtain ⟨ay, ny, ky, rfl, HNy, HZy, hny, hOy⟩ := hY
 obtain ⟨sx, mx, zx⟩ := x
 obtain ⟨sy, my, zy⟩ := y
 simp only at HNx HNy hOx hOy gx gy ex ey hle2 h1 h2 ⊢
 have zx0 : nx = 0 ↔ mx = 0 := by rw [HNx.out, List.length_eq_zero_iff, words_nil]
 have zy0 : ny = 0 ↔ my = 0 := by rw [HNy.out, List.length_eq_zero_iff, words_nil]
 have ox : mx % 2 = 1 := by
  rcases cx with q | q
  ·exact absurd (congrArg (fun p => p.2.1) q) h1
  ·exact q
 have oy : my % 2 = 1 := by
  rcases cy with q | q
  ·exact absurd (congrArg (fun p => p.2.1) q) h2
  ·exact q
 unfold sumD
 simp only
 rw [if_neg h1, if_neg h2, if_neg (by omega)]
 obtain ⟨dd, hdd⟩ : ∃ dd : Nat, zx = zy + (dd : Int) := ⟨(zx - zy).toNat, by omega⟩
 have hdd2 : (zx - zy).toNat = dd := by omega
 rw [hdd2]
 by_cases hs : sx = sy
 ·refine plus_tog w.heap.size sx ax nx kx zx sy ay ny ky zy _ w (Nat.le_refl _) (fun q => h1 (zx0.1 q)) (fun q => h2 (zy0.1 q)) hle2 hs (fun W hW => ?_)
  have h3 := together_calls sx ax nx kx mx zx sy ay ny ky my zy W (hOx.1.keep hW) hnx gx ex (hOy.1.keep hW) hny gy ey (hT.kept hW) ox oy dd hdd
  unfold addHi
  rw [if_pos hs]
  exact h3
 ·by_cases he : zx = zy
  ·have hd0 : dd = 0 := by omega
   refine plus_lap w.heap.size sx ax nx kx zx sy ay ny ky zy _ w (Nat.le_refl _) (fun q => h1 (zx0.1 q)) (fun q => h2 (zy0.1 q)) he hs (fun W hW => ?_)
   unfold addHi
   rw [if_neg hs, hd0, Nat.pow_zero, Nat.mul_one]
   by_cases hc : my ≤ mx
   ·rw [if_pos hc, ← he]
    have h3 := levelApart_ge sx ax nx kx mx zx sy ay ny ky my zy W (hOx.1.keep hW) hnx gx ex (hOy.1.keep hW) hny gy ey (hT.kept hW) hc
    rw [← he] at h3
    exact h3
   ·rw [if_neg hc]
    exact levelApart_lt sx ax nx kx mx zx sy ay ny ky my zy W (hOx.1.keep hW) hnx gx ex (hOy.1.keep hW) hny gy ey (hT.kept hW) (by omega)
  ·refine plus_apart w.heap.size sx ax nx kx zx sy ay ny ky zy _ w (Nat.le_refl _) (fun q => h1 (zx0.1 q)) (fun q => h2 (zy0.1 q)) (by omega) hs (fun W hW => ?_)
   exact apart_calls sx ax nx kx mx zx sy ay ny ky my zy W (hOx.1.keep hW) hnx gx ex (hOy.1.keep hW) hny gy ey (hT.kept hW) oy dd (by omega) hdd hs
theorem NumR.low {B B' : Nat} {w : World} {v : Value} {p : Bool × Nat × Int} (h : NumR B w v p) (hB : B' ≤ B) : NumR B' w v p := by
 rcases h with ⟨q, h⟩ | h
 ·exact Or.inl ⟨q, h.low hB⟩
 ·exact Or.inr h
theorem dplus_calls (B : Nat) (vx vy : Value) (x y : Bool × Nat × Int) (w : World) (hB : B ≤ w.heap.size) (hX : NumAt B w vx x) (hY : NumAt B w vy y) (gx : greatB x.2.1 = false) (gy : greatB y.2.1 = false) (cx : CanD x) (cy : CanD y) (ex : -100000000 ≤ x.2.2 ∧ x.2.2 ≤ 100000000) (ey : -100000000 ≤ y.2.2 ∧ y.2.2 ≤ 100000000) (hT : Tab w) :
  Calls Tryz.prog 143 #[vx, vy] w fun r w' => ∃ v, r = .returned v ∧ NumR B w' v (sumD x y) ∧ Below w.heap.size w w' := by
 by_cases h1 : x.2.1 = 0
 ·obtain ⟨ax, nx, kx, rfl, HNx, HZx, hnx, hOx⟩ := hX
  obtain ⟨ay, ny, ky, rfl, HNy, HZy, hny, hOy⟩ := hY
  unfold sumD
  rw [if_pos h1]
  exact plus_zx B x.1 ax nx kx x.2.2 y.1 ay ny ky y.2.1 y.2.2 w hOy HNy HZy hny gy (by rw [HNx.out, h1, words_zero]; rfl)
 ·by_cases h2 : y.2.1 = 0
  ·obtain ⟨ax, nx, kx, rfl, HNx, HZx, hnx, hOx⟩ := hX
   obtain ⟨ay, ny, ky, rfl, HNy, HZy, hny, hOy⟩ := hY
   unfold sumD
   rw [if_neg h1, if_pos h2]
   exact plus_zy B x.1 ax nx kx x.2.1 x.2.2 y.1 ay ny ky y.2.2 w hOx HNx HZx hnx gx (fun q => h1 ((words_nil _).1 (List.length_eq_zero_iff.1 (by rw [← HNx.out]; exact q)))) (by rw [HNy.out, h2, words_zero]; rfl)
  ·rcases Int.lt_or_le x.2.2 y.2.2 with h3 | h3
   ·have hsum : sumD x y = sumD y x := by
     unfold sumD
     rw [if_neg h1, if_neg h2, if_neg h2, if_neg h1, if_pos h3, if_neg (by omega)]
    rw [hsum]
    have HP : ∀ W, Below w.heap.size w W → _ := fun W hW => plus_nz vy vx B y x W (hY.keep hW) (hX.keep hW) gy gx cy cx ey ex (hT.kept hW) h2 h1 (Int.le_of_lt h3)
    obtain ⟨ax, nx, kx, rfl, HNx, HZx, hnx, hOx⟩ := hX
    obtain ⟨ay, ny, ky, rfl, HNy, HZy, hny, hOy⟩ := hY
    exact plus_swap B x.1 ax nx kx x.2.2 y.1 ay ny ky y.2.2 _ w hB (fun q => h1 ((words_nil _).1 (List.length_eq_zero_iff.1 (by rw [← HNx.out]; exact q)))) (fun q => h2 ((words_nil _).1 (List.length_eq_zero_iff.1 (by rw [← HNy.out]; exact q)))) h3 HP
   ·refine cM (plus_nz vx vy B x y w hX hY gx gy cx cy ex ey hT h1 h2 h3) ?_
    rintro r w' ⟨v, rfl, hN, hb⟩
    exact ⟨v, rfl, hN.low hB, hb⟩
end Go.Proofs.YtahpdcbmekgkfaaGreatDoor

namespace Go.Proofs.YtahpdcbmekgkfaaGreatDoor
open Go.RowKit
theorem calls_guard {P : Program} {f : FuncId} {A : Array Value} {w : World} {Q : Ending → World → Prop} (A' : Array Value) (hA : A = A') (h : Calls P f A' w Q) : Calls P f A w Q := by rw [hA]; exact h
theorem cell_set4 {W : World} {b o r : Nat} {v0 v1 v2 v3 x : Value} (h : W.cell? ⟨b, o, none⟩ = some x) (hne : b ≠ r) : ((((W.setCell ⟨r, 0, none⟩ v0).setCell ⟨r, 1, none⟩ v1).setCell ⟨r, 2, none⟩ v2).setCell ⟨r, 3, none⟩ v3).cell? ⟨b, o, none⟩ = some x := by
 have key : ∀ (V : World) (k : Nat) (v : Value), V.cell? ⟨b, o, none⟩ = some x → (V.setCell ⟨r, k, none⟩ v).cell? ⟨b, o, none⟩ = some x := fun V k v q =>
  (World.cell?_setCell_other V _ _ _ (fun e => by have := congrArg Addr.block e; simp at this; omega)).trans q
 exact key _ _ _ (key _ _ _ (key _ _ _ (key _ _ _ h)))
theorem numR_form {B : Nat} {w : World} {v : Value} {p : Bool × Nat × Int} (h : NumR B w v p) : ∃ (s : Bool) (a : Option Addr) (n c : Nat) (e : Int) (g : Bool), v = numV s a n c e g ∧ Hid (NumR B w (numV s a n c e g) p) := by
 rcases h with ⟨q, ao, n, c, rfl, h⟩ | ⟨q, rfl⟩
 ·exact ⟨p.1, ao, n, c, p.2.2, false, rfl, Or.inl ⟨q, ao, n, c, rfl, h⟩⟩
 ·exact ⟨false, none, 0, 0, 0, true, rfl, Or.inr ⟨q, rfl⟩⟩
theorem NumR.far {B : Nat} {w : World} {v : Value} {p : Bool × Nat × Int} (h : NumR B w v p) (q : Addr) (u : Value) (hq : q.block < B) : NumR B (w.setCell q u) v p := by
 rcases h with ⟨g, ao, n, c, e, h1, h2, h3, h4⟩ | h
 ·exact Or.inl ⟨g, ao, n, c, e, h1, h2, h3, h4.far q u hq⟩
 ·exact Or.inr h
theorem NumR.keep {B : Nat} {w w' : World} {v : Value} {p : Bool × Nat × Int} (h : NumR B w v p) (hb : Below w.heap.size w w') : NumR B w' v p := by
 rcases h with ⟨q, h⟩ | h
 ·exact Or.inl ⟨q, h.keep hb⟩
 ·exact Or.inr h
theorem form_bounds (s : Bool) (m : Nat) (e : Int) (h : rightB m e = true) : -100000000 ≤ (formD s m e).2.2 ∧ (formD s m e).2.2 ≤ 100000000 := by
 obtain ⟨h1, h2, h3⟩ := rightB_yes h
 by_cases h0 : m = 0
 ·rw [h0, form_zero]; exact ⟨by decide, by decide⟩
 ·rw [form_pos s h0]
  have := tz_le_blen m
  have := (great_not m).1 h1
  show _ ≤ e + (tz m : Int) ∧ e + (tz m : Int) ≤ _
  omega
theorem form_fit (s : Bool) (m : Nat) (e : Int) (h : rightB m e = true) : greatB (formD s m e).2.1 = false := great_mono (form_amount_le _ _ _) (rightB_yes h).1
theorem right_exp {m : Nat} {e : Int} (h : rightB m e = true) : -4611686018427387904 ≤ e ∧ e ≤ 4611686018427387904 := by
 have := (rightB_yes h).2; omega
theorem hidN {B : Nat} {w : World} {s : Bool} {a : Option Addr} {n c : Nat} {e : Int} {p : Bool × Nat × Int} (h1 : s = p.1) (h2 : e = p.2.2) (h3 : Hid (n = (wO p.2.1).length)) (h4 : Hid (n = 0 → a = none ∧ c = 0)) (h5 : n ≤ 1024) (h6 : OwnW B w a n c (wO p.2.1)) : NumAt B w (numV s a n c e false) p := by
 subst h1; subst h2
 exact ⟨a, n, c, rfl, h3, h4, h5, h6⟩
attribute [local go_sem ↓] Go.wp_at_zero Go.wp_at_succ
set_option maxRecDepth 100000 in
set_option maxHeartbeats 4000000 in
theorem add1_calls (b1 b2 : Nat) (s : Bool) (a : Option Addr) (len cap : Nat) (xs : List Int) (e : Int) (s' : Bool) (a' : Option Addr) (len' cap' : Nat) (ys : List Int) (e' : Int) (w : World) (h : IsW w a len cap xs) (hm : len ≤ 17592186044416) (h' : IsW w a' len' cap' ys) (hm' : len' ≤ 17592186044416) (hT : Tab w) (hr : rightB (val xs) e = true) (hr' : rightB (val ys) e' = true)
  (k0 : w.cell? ⟨b1, 0, none⟩ = some (.bool s)) (k1 : w.cell? ⟨b1, 1, none⟩ = some (.slice a len cap)) (k2 : w.cell? ⟨b1, 2, none⟩ = some (.int .i64 e))
  (l0 : w.cell? ⟨b2, 0, none⟩ = some (.bool s')) (l1 : w.cell? ⟨b2, 1, none⟩ = some (.slice a' len' cap')) (l2 : w.cell? ⟨b2, 2, none⟩ = some (.int .i64 e')) :
  Calls Tryz.prog 188 #[.pointer (some ⟨b1, 0, none⟩), .pointer (some ⟨b2, 0, none⟩)] w fun r w' => ∃ v, r = .returned v ∧ NumR w.heap.size w' v (sumD (formD s (val xs) e) (formD s' (val ys) e')) ∧ Below w.heap.size w w' := by
 have HCGX : Hid (canG s (val xs) e = (formD s (val xs) e)) := canG_no (rightB_yes hr).1
 have HCGY : Hid (canG s' (val ys) e' = (formD s' (val ys) e')) := canG_no (rightB_yes hr').1
 have HEBX : Hid _ := right_exp hr
 have HEBY : Hid _ := right_exp hr'
 have HGX : Hid _ := form_fit s (val xs) e hr
 have HGY : Hid _ := form_fit s' (val ys) e' hr'
 have HBX : Hid _ := form_bounds s (val xs) e hr
 have HBY : Hid _ := form_bounds s' (val ys) e' hr'
 have hl1 : b1 < w.heap.size := World.block_lt_of_cell? _ _ k0
 have hl2 : b2 < w.heap.size := World.block_lt_of_cell? _ _ l0
 have hn1 : b1 ≠ w.heap.size := Nat.ne_of_lt hl1
 have hn2 : b2 ≠ w.heap.size := Nat.ne_of_lt hl2
 have hbw0 : Below w.heap.size w (w.alloc (.cells #[.bool false, .slice none 0 0, .int .i64 0, .bool false] 109)).drew := (below_one _ _).drew
 clear hr hr'
 go_enter Tryz.func188, Tryz.ntmps188
 go_wp2_with fail
 go_region_with (first
   | (go_at_call 123; refine calls_guard #[dyV s a len cap e] ?_ ?_; (focus rfl); refine (canonical_calls s a len cap xs e _ (h.keep (by repeat (first | exact hbwY | exact Below.refl _ _ | apply Below.drew | refine Below.alloc ?_ (by simp; try omega) _))) hm (hT.kept (by repeat (first | exact hbwY | exact Below.refl _ _ | apply Below.drew | refine Below.alloc ?_ (by simp; try omega) _)))).mono ?_; rintro r wX ⟨aX, nX, cX, eX, rfl, HEX, HNX, HZX, hnX, hOX, hbX⟩; have hbwX : Below w.heap.size w wX := nT (by repeat (first | exact hbwY | exact Below.refl _ _ | apply Below.drew | refine Below.alloc ?_ (by simp; try omega) _)) hbX; have hbzX : Below (w.alloc (.cells #[.bool false, .slice none 0 0, .int .i64 0, .bool false] 109)).heap.size (w.alloc (.cells #[.bool false, .slice none 0 0, .int .i64 0, .bool false] 109)) wX := nT (by repeat (first | exact hbzY | exact Below.refl _ _ | apply Below.drew | refine Below.alloc ?_ (by simp; try omega) _)) hbX; obtain rfl := HEX.out HEBX.out.1 HEBX.out.2; rw [HCGX.out] at hOX HNX ⊢; clear HEX; have hPX := hOX.low (B' := w.heap.size + 1) (by first | (have := hbzY.size; simp at this ⊢; omega) | simp); have qX0 := kC hbwX k0; have qX1 := kC hbwX k1; have qX2 := kC hbwX k2; have qX3 := kC hbwX l0; have qX4 := kC hbwX l1; have qX5 := kC hbwX l2)
   | (go_at_call 123; refine calls_guard #[dyV s' a' len' cap' e'] ?_ ?_; (focus rfl); refine (canonical_calls s' a' len' cap' ys e' _ (h'.keep (by repeat (first | exact hbwX | exact Below.refl _ _ | apply Below.drew | refine Below.alloc ?_ (by simp; try omega) _))) hm' (hT.kept (by repeat (first | exact hbwX | exact Below.refl _ _ | apply Below.drew | refine Below.alloc ?_ (by simp; try omega) _)))).mono ?_; rintro r wY ⟨aY, nY, cY, eY, rfl, HEY, HNY, HZY, hnY, hOY, hbY⟩; have hbwY : Below w.heap.size w wY := nT (by repeat (first | exact hbwX | exact Below.refl _ _ | apply Below.drew | refine Below.alloc ?_ (by simp; try omega) _)) hbY; have hbzY : Below (w.alloc (.cells #[.bool false, .slice none 0 0, .int .i64 0, .bool false] 109)).heap.size (w.alloc (.cells #[.bool false, .slice none 0 0, .int .i64 0, .bool false] 109)) wY := nT (by repeat (first | exact hbzX | exact Below.refl _ _ | apply Below.drew | refine Below.alloc ?_ (by simp; try omega) _)) hbY; obtain rfl := HEY.out HEBY.out.1 HEBY.out.2; rw [HCGY.out] at hOY HNY ⊢; clear HEY; have hPY := hOY.low (B' := w.heap.size + 1) (by first | (have := hbzX.size; simp at this ⊢; omega) | simp); have qY0 := kC hbwY k0; have qY1 := kC hbwY k1; have qY2 := kC hbwY k2; have qY3 := kC hbwY l0; have qY4 := kC hbwY l1; have qY5 := kC hbwY l2)
   | (go_at_call 143; (first | (have hQX := hPX.keep hbY) | (have hQX := hPX)); (first | (have hQY := hPY.keep hbX) | (have hQY := hPY)); (first | (have hTc := hT.kept (nT hbwX hbY)) | (have hTc := hT.kept (nT hbwY hbX))); refine (dplus_calls (w.heap.size + 1) _ _ (formD s (val xs) e) (formD s' (val ys) e') _ (by first | (have := hbzY.size; simp at this; omega) | (have := hbzX.size; simp at this; omega)) (hidN rfl rfl HNX HZX hnX hQX) (hidN rfl rfl HNY HZY hnY hQY) HGX.out HGY.out (form_can _ _ _) (form_can _ _ _) HBX.out HBY.out hTc).mono ?_; rintro r wP ⟨vP, rfl, hNP, hbP⟩; obtain ⟨s5, a5, n5, c5, e5, g5, rfl, HNR⟩ := numR_form hNP; (first | (have hbwP := nT hbwY hbP) | (have hbwP := nT hbwX hbP)); (first | (have hbzP := nT hbzY hbP) | (have hbzP := nT hbzX hbP)); obtain ⟨m0, m1, m2, m3, f0, f1, f2, f3⟩ := zero_num (r := w.heap.size) hbzP rfl; clear hNP))
 all_goals
  go_wp2_with fail
  refine bodyPost_ret (v := numV s5 a5 n5 c5 e5 g5) (by simp [results, Tryz.results188, go_sem, m0, m1, m2, m3]) rfl ⟨_, rfl, ((((HNR.out.far _ _ (by show w.heap.size < _; omega)).far _ _ (by show w.heap.size < _; omega)).far _ _ (by show w.heap.size < _; omega)).far _ _ (by show w.heap.size < _; omega)).low (by omega), ?_⟩
  exact (((hbwP.setCell (Nat.le_refl _) _).setCell (Nat.le_refl _) _).setCell (Nat.le_refl _) _).setCell (Nat.le_refl _) _
end Go.Proofs.YtahpdcbmekgkfaaGreatDoor

namespace Go.Proofs.YtahpdcbmekgkfaaGreatDoor
open Go.RowKit
set_option maxRecDepth 100000 in
set_option maxHeartbeats 4000000 in
theorem dadd_yes (s : Bool) (a : Option Addr) (len cap : Nat) (xs : List Int) (e : Int) (s' : Bool) (a' : Option Addr) (len' cap' : Nat) (ys : List Int) (e' : Int) (w : World) (h : IsW w a len cap xs) (hm : len ≤ 17592186044416) (h' : IsW w a' len' cap' ys) (hm' : len' ≤ 17592186044416) (hT : Tab w) (hr : rightB (val xs) e = true) (hr' : rightB (val ys) e' = true) :
  Calls Tryz.prog 154 #[dyV s a len cap e, dyV s' a' len' cap' e'] w fun r w' => ∃ v', r = .returned (.tuple #[v', .int .i64 (roomE (sumD (formD s (val xs) e) (formD s' (val ys) e')))]) ∧ DyAt w.heap.size w' v' (roomP (sumD (formD s (val xs) e) (formD s' (val ys) e'))) ∧ Below w.heap.size w w' := by
 have hmf : ∀ (fn : Fn) (first cap : Array Value) (w : World), (Instr.makeFunc fn first cap).run Tryz.prog w = .ok (.func fn first cap) w := fun _ _ _ _ => rfl
 have HRB : Hid ((rightB (val xs) e && rightB (val ys) e') = true) := by rw [Hid, hr, hr']; rfl
 have HR1 : Hid (rightB (val xs) e = true) := hr
 have HR2 : Hid (rightB (val ys) e' = true) := hr'
 clear hr hr'
 go_enter Tryz.func154, Tryz.ntmps154
 go_wp2_with fail
 have hb0 : Below w.heap.size w ((((w.alloc (.cells #[.bool s, .slice a len cap, .int .i64 e] 25)).alloc (.cells #[.bool s', .slice a' len' cap', .int .i64 e'] 25)).alloc (.cells #[.bool false, .slice none 0 0, .int .i64 0] 25)).alloc (.cells #[.bool s, .slice a len cap, .int .i64 e, .bool s', .slice a' len' cap', .int .i64 e'] 25)) := by repeat (first | exact Below.refl _ _ | refine Below.alloc ?_ (by simp; try omega) _)
 refine Calls.mono (made_Add w.heap.size (w.heap.size + 1) 0 (sumD (formD s (val xs) e) (formD s' (val ys) e')) _ _ (fun W hW => HRB.out ▸ right2_calls (w.heap.size + 1 + 1 + 1) s a len cap xs e s' a' len' cap' ys e' W (h.keep (nT hb0 hW)) hm (h'.keep (nT hb0 hW)) hm' (kC hW (by go_simp)) (kC hW (by go_simp)) (kC hW (by go_simp)) (kC hW (by go_simp)) (kC hW (by go_simp)) (kC hW (by go_simp)))
  (fun W hW => Calls.mono (add1_calls w.heap.size (w.heap.size + 1) s a len cap xs e s' a' len' cap' ys e' W (h.keep (nT hb0 hW)) hm (h'.keep (nT hb0 hW)) hm' (hT.kept (nT hb0 hW)) HR1.out HR2.out (kC hW (by go_simp)) (kC hW (by go_simp)) (kC hW (by go_simp)) (kC hW (by go_simp)) (kC hW (by go_simp)) (kC hW (by go_simp))) (by
   rintro r w5 ⟨v, rfl, hN, hb5⟩
   exact ⟨v, rfl, hN.low (Nat.zero_le _), hb5⟩))) ?_
 rintro r w2 ⟨v', rfl, ⟨a2, n2, c2, rfl, HN2, hn2, hO2⟩, hbM⟩
 have hb2 := nT hb0 hbM
 obtain ⟨m0, m1, m2, f0, f1, f2⟩ := zero_dy (r := w.heap.size + 1 + 1) (w := (w.alloc (.cells #[.bool s, .slice a len cap, .int .i64 e] 25)).alloc (.cells #[.bool s', .slice a' len' cap', .int .i64 e'] 25)) (W' := w2) (nT (below_one _ _) hbM) (by simp)
 go_wp2_with fail
 refine bodyPost_ret (v := .tuple #[dyV (roomP (sumD (formD s (val xs) e) (formD s' (val ys) e'))).1 a2 n2 c2 (roomP (sumD (formD s (val xs) e) (formD s' (val ys) e'))).2.2, .int .i64 (roomE (sumD (formD s (val xs) e) (formD s' (val ys) e')))]) (by simp [results, Tryz.results154, go_sem, m0, m1, m2]) rfl ⟨_, rfl, ⟨a2, n2, c2, rfl, HN2, hn2, (((hO2.far _ _ (by show w.heap.size + 1 + 1 < _; simp)).far _ _ (by show w.heap.size + 1 + 1 < _; simp)).far _ _ (by show w.heap.size + 1 + 1 < _; simp)).low (by simp; omega)⟩, ?_⟩
 exact ((hb2.setCell (le2 _) _).setCell (le2 _) _).setCell (le2 _) _
end Go.Proofs.YtahpdcbmekgkfaaGreatDoor

namespace Go.Proofs.YtahpdcbmekgkfaaGreatDoor
open Go.RowKit
set_option maxHeartbeats 2000000
set_option maxRecDepth 100000
theorem shr_room2 {m j : Nat} (h : greatB m = false) (hj : 0 < j) : greatB (m / 2 ^ j) = false ∧ greatB (m / 2 ^ j + 1) = false := by
 have h1 := great_mono (Nat.div_le_self m (2 ^ j)) h
 refine ⟨h1, ?_⟩
 by_cases h0 : m = 0
 ·subst h0; rw [Nat.zero_div]; exact great_one
 ·refine great_mono ?_ h
  have h2 : m / 2 ^ j < m := Nat.div_lt_self (by omega) (Nat.one_lt_two_pow (by omega))
  exact h2
theorem without_more (sx : Bool) (ax : Option Addr) (nx cx : Nat) (mx : Nat) (ex : Int) (w : World) (hIx : IsW w ax nx cx (wO mx)) (hnx : nx ≤ 1024) (hgx : greatB mx = false) (hex : -100000000 ≤ ex ∧ ex ≤ 100000000) (hT : Tab w) (j : Nat) (hj1 : 0 < j) (hj2 : j ≤ 65536) :
  Calls Tryz.prog 211 #[numV sx ax nx cx ex false, .int .i64 (j : Int), .bool true] w fun r w' => ∃ v, r = .returned v ∧ NumR w.heap.size w' v (formD sx (mx / 2 ^ j + 1) (ex + (j : Int))) ∧ Below w.heap.size w w' := by
 obtain ⟨hex1, hex2⟩ := hex
 have HG : Hid (greatB mx = false) := hgx
 have HU : Hid (greatB (mx / 2 ^ j) = false ∧ greatB (mx / 2 ^ j + 1) = false) := shr_room2 hgx hj1
 have HS : Hid _ := shr_fit (u := mx) (j := j) hgx
 clear hgx
 go_enter Tryz.func211, Tryz.ntmps211
 go_wp2_with fail
 have hz_0 : Below ((w.alloc (.cells #[.bool sx, .slice ax nx cx, .int .i64 ex, .bool false] 109)).alloc (.cells #[.bool false, .slice none 0 0, .int .i64 0, .bool false] 109)).heap.size ((w.alloc (.cells #[.bool sx, .slice ax nx cx, .int .i64 ex, .bool false] 109)).alloc (.cells #[.bool false, .slice none 0 0, .int .i64 0, .bool false] 109)) ((w.alloc (.cells #[.bool sx, .slice ax nx cx, .int .i64 ex, .bool false] 109)).alloc (.cells #[.bool false, .slice none 0 0, .int .i64 0, .bool false] 109)) := Below.refl _ _
 have hw_0 : Below w.heap.size w ((w.alloc (.cells #[.bool sx, .slice ax nx cx, .int .i64 ex, .bool false] 109)).alloc (.cells #[.bool false, .slice none 0 0, .int .i64 0, .bool false] 109)) := by repeat (first | exact Below.refl _ _ | refine Below.alloc ?_ (by simp; try omega) _)
 obtain ⟨kx0_0, kx1_0, kx2_0, kx3_0⟩ := fX2 w sx ax nx cx ex _ rfl
 have hIx_0 := hIx.keep hw_0
 have hT_0 := hT.kept hw_0
 refine cM (shr_eq (i := (j : Int)) (r := mx / 2 ^ j) (l := lostB mx j) (k := 0) hIx_0 (by omega) (by omega) (by rw [val_words]; exact HS.out.2.1) (by rw [val_words]; exact HS.out.2.2) (by rw [val_words]; exact HS.out.1)) ?_
 rintro r w_1 ⟨a1, n1, c1, rfl, HN1, hn1, hO1_1, hb_1⟩
 have hz_1 := nT hz_0 hb_1
 have hw_1 := nT hw_0 hb_1
 have kx0_1 := kC hb_1 kx0_0
 have kx1_1 := kC hb_1 kx1_0
 have kx2_1 := kC hb_1 kx2_0
 have kx3_1 := kC hb_1 kx3_0
 have hIx_1 := hIx_0.keep hb_1
 have hT_1 := hT_0.kept hb_1
 clear hz_0 hw_0 kx0_0 kx1_0 kx2_0 kx3_0 hIx_0 hT_0 hb_1
 go_wp2_with fail
 refine cM (of_eq 1 _ (by decide)) ?_
 rintro r w_2 ⟨a2, n2, c2, rfl, HN2, hn2, hO2_2, hb_2⟩
 have hz_2 := nT hz_1 hb_2
 have hw_2 := nT hw_1 hb_2
 have kx0_2 := kC hb_2 kx0_1
 have kx1_2 := kC hb_2 kx1_1
 have kx2_2 := kC hb_2 kx2_1
 have kx3_2 := kC hb_2 kx3_1
 have hIx_2 := hIx_1.keep hb_2
 have hT_2 := hT_1.kept hb_2
 have hO1_2 := hO1_1.keep hb_2
 clear hz_1 hw_1 kx0_1 kx1_1 kx2_1 kx3_1 hIx_1 hT_1 hO1_1 hb_2
 go_wp2_with fail
 refine cM (add_eq (r := mx / 2 ^ j + 1) (k := 0) hO1_2.1 hO2_2.1 (by omega) (by omega) (by rw [val_words, val_words, addR_no (by rw [HU.out.1, great_one]; rfl), fitR_no HU.out.2])) ?_
 rintro r w_3 ⟨a3, n3, c3, rfl, HN3, hn3, hO3_3, hb_3⟩
 have hz_3 := nT hz_2 hb_3
 have hw_3 := nT hw_2 hb_3
 have kx0_3 := kC hb_3 kx0_2
 have kx1_3 := kC hb_3 kx1_2
 have kx2_3 := kC hb_3 kx2_2
 have kx3_3 := kC hb_3 kx3_2
 have hIx_3 := hIx_2.keep hb_3
 have hT_3 := hT_2.kept hb_3
 have hO1_3 := hO1_2.keep hb_3
 have hO2_3 := hO2_2.keep hb_3
 clear hz_2 hw_2 kx0_2 kx1_2 kx2_2 kx3_2 hIx_2 hT_2 hO1_2 hO2_2 hb_3
 have hsz : w.heap.size + 1 < w_3.heap.size := by have := hz_3.size; simp at this; omega
 go_wp2_with fail
 refine cM (reckoned_ok sx a3 n3 c3 (wO (mx / 2 ^ j + 1)) (ex + (j : Int)) w_3 hO3_3.1 (by omega) hT_3 (by rw [val_words]; exact HU.out.2) ⟨by omega, by omega⟩) ?_
 rintro r w_4 ⟨v, rfl, hN1, hb_4⟩
 have hz_4 := nT hz_3 hb_4
 have hw_4 := nT hw_3 hb_4
 have kx0_4 := kC hb_4 kx0_3
 have kx1_4 := kC hb_4 kx1_3
 have kx2_4 := kC hb_4 kx2_3
 have kx3_4 := kC hb_4 kx3_3
 have hIx_4 := hIx_3.keep hb_4
 have hT_4 := hT_3.kept hb_4
 have hO1_4 := hO1_3.keep hb_4
 have hO2_4 := hO2_3.keep hb_4
 have hO3_4 := hO3_3.keep hb_4
 clear hz_3 hw_3 kx0_3 kx1_3 kx2_3 kx3_3 hIx_3 hT_3 hO1_3 hO2_3 hO3_3 hb_4
 rw [val_words] at hN1
 have hN : NumR _ _ _ (formD sx (mx / 2 ^ j + 1) (ex + (j : Int))) := Or.inl ⟨great_mono (form_amount_le _ _ _) HU.out.2, hN1⟩
 clear hN1
 rcases hN with ⟨hg, ao, nn, cc, rfl, HN, HZ, hnn, hO⟩ | ⟨hg, rfl⟩
 ·obtain ⟨m0, m1, m2, m3, f0, f1, f2, f3⟩ := zero_num (w := (w.alloc (.cells #[.bool sx, .slice ax nx cx, .int .i64 ex, .bool false] 109))) (r := w.heap.size + 1) hz_4 (by simp)
  go_wp2_with fail
  refine bodyPost_ret (v := numV (formD sx (mx / 2 ^ j + 1) (ex + (j : Int))).1 ao nn cc (formD sx (mx / 2 ^ j + 1) (ex + (j : Int))).2.2 false) (by simp [results, Tryz.results211, go_sem, m0, m1, m2, m3]) rfl ?_
  exact ⟨_, rfl, Or.inl ⟨hg, ao, nn, cc, rfl, HN, HZ, hnn, ((((hO.far _ _ (by show w.heap.size + 1 < _; omega)).far _ _ (by show w.heap.size + 1 < _; omega)).far _ _ (by show w.heap.size + 1 < _; omega)).far _ _ (by show w.heap.size + 1 < _; omega)).low (by omega)⟩, (((hw_4.setCell (le1 _) _).setCell (le1 _) _).setCell (le1 _) _).setCell (le1 _) _⟩
 ·obtain ⟨m0, m1, m2, m3, f0, f1, f2, f3⟩ := zero_num (w := (w.alloc (.cells #[.bool sx, .slice ax nx cx, .int .i64 ex, .bool false] 109))) (r := w.heap.size + 1) hz_4 (by simp)
  go_wp2_with fail
  refine bodyPost_ret (v := numV false none 0 0 0 true) (by simp [results, Tryz.results211, go_sem, m0, m1, m2, m3]) rfl ?_
  exact ⟨_, rfl, Or.inr ⟨hg, rfl⟩, (((hw_4.setCell (le1 _) _).setCell (le1 _) _).setCell (le1 _) _).setCell (le1 _) _⟩
theorem without_less (sx : Bool) (ax : Option Addr) (nx cx : Nat) (mx : Nat) (ex : Int) (w : World) (hIx : IsW w ax nx cx (wO mx)) (hnx : nx ≤ 1024) (hgx : greatB mx = false) (hex : -100000000 ≤ ex ∧ ex ≤ 100000000) (hT : Tab w) (j : Nat) (hj1 : 0 < j) (hj2 : j ≤ 65536) :
  Calls Tryz.prog 211 #[numV sx ax nx cx ex false, .int .i64 (j : Int), .bool false] w fun r w' => ∃ v, r = .returned v ∧ NumR w.heap.size w' v (formD sx (mx / 2 ^ j) (ex + (j : Int))) ∧ Below w.heap.size w w' := by
 obtain ⟨hex1, hex2⟩ := hex
 have HG : Hid (greatB mx = false) := hgx
 have HU : Hid (greatB (mx / 2 ^ j) = false ∧ greatB (mx / 2 ^ j + 1) = false) := shr_room2 hgx hj1
 have HS : Hid _ := shr_fit (u := mx) (j := j) hgx
 clear hgx
 go_enter Tryz.func211, Tryz.ntmps211
 go_wp2_with fail
 have hz_0 : Below ((w.alloc (.cells #[.bool sx, .slice ax nx cx, .int .i64 ex, .bool false] 109)).alloc (.cells #[.bool false, .slice none 0 0, .int .i64 0, .bool false] 109)).heap.size ((w.alloc (.cells #[.bool sx, .slice ax nx cx, .int .i64 ex, .bool false] 109)).alloc (.cells #[.bool false, .slice none 0 0, .int .i64 0, .bool false] 109)) ((w.alloc (.cells #[.bool sx, .slice ax nx cx, .int .i64 ex, .bool false] 109)).alloc (.cells #[.bool false, .slice none 0 0, .int .i64 0, .bool false] 109)) := Below.refl _ _
 have hw_0 : Below w.heap.size w ((w.alloc (.cells #[.bool sx, .slice ax nx cx, .int .i64 ex, .bool false] 109)).alloc (.cells #[.bool false, .slice none 0 0, .int .i64 0, .bool false] 109)) := by repeat (first | exact Below.refl _ _ | refine Below.alloc ?_ (by simp; try omega) _)
 obtain ⟨kx0_0, kx1_0, kx2_0, kx3_0⟩ := fX2 w sx ax nx cx ex _ rfl
 have hIx_0 := hIx.keep hw_0
 have hT_0 := hT.kept hw_0
 refine cM (shr_eq (i := (j : Int)) (r := mx / 2 ^ j) (l := lostB mx j) (k := 0) hIx_0 (by omega) (by omega) (by rw [val_words]; exact HS.out.2.1) (by rw [val_words]; exact HS.out.2.2) (by rw [val_words]; exact HS.out.1)) ?_
 rintro r w_1 ⟨a1, n1, c1, rfl, HN1, hn1, hO1_1, hb_1⟩
 have hz_1 := nT hz_0 hb_1
 have hw_1 := nT hw_0 hb_1
 have kx0_1 := kC hb_1 kx0_0
 have kx1_1 := kC hb_1 kx1_0
 have kx2_1 := kC hb_1 kx2_0
 have kx3_1 := kC hb_1 kx3_0
 have hIx_1 := hIx_0.keep hb_1
 have hT_1 := hT_0.kept hb_1
 clear hz_0 hw_0 kx0_0 kx1_0 kx2_0 kx3_0 hIx_0 hT_0 hb_1
 have hsz : w.heap.size + 1 < w_1.heap.size := by have := hz_1.size; simp at this; omega
 go_wp2_with fail
 refine cM (reckoned_ok sx a1 n1 c1 (wO (mx / 2 ^ j)) (ex + (j : Int)) w_1 hO1_1.1 (by omega) hT_1 (by rw [val_words]; exact HU.out.1) ⟨by omega, by omega⟩) ?_
 rintro r w_2 ⟨v, rfl, hN1, hb_2⟩
 have hz_2 := nT hz_1 hb_2
 have hw_2 := nT hw_1 hb_2
 have kx0_2 := kC hb_2 kx0_1
 have kx1_2 := kC hb_2 kx1_1
 have kx2_2 := kC hb_2 kx2_1
 have kx3_2 := kC hb_2 kx3_1
 have hIx_2 := hIx_1.keep hb_2
 have hT_2 := hT_1.kept hb_2
 have hO1_2 := hO1_1.keep hb_2
 clear hz_1 hw_1 kx0_1 kx1_1 kx2_1 kx3_1 hIx_1 hT_1 hO1_1 hb_2
 rw [val_words] at hN1
 have hN : NumR _ _ _ (formD sx (mx / 2 ^ j) (ex + (j : Int))) := Or.inl ⟨great_mono (form_amount_le _ _ _) HU.out.1, hN1⟩
 clear hN1
 rcases hN with ⟨hg, ao, nn, cc, rfl, HN, HZ, hnn, hO⟩ | ⟨hg, rfl⟩
 ·obtain ⟨m0, m1, m2, m3, f0, f1, f2, f3⟩ := zero_num (w := (w.alloc (.cells #[.bool sx, .slice ax nx cx, .int .i64 ex, .bool false] 109))) (r := w.heap.size + 1) hz_2 (by simp)
  go_wp2_with fail
  refine bodyPost_ret (v := numV (formD sx (mx / 2 ^ j) (ex + (j : Int))).1 ao nn cc (formD sx (mx / 2 ^ j) (ex + (j : Int))).2.2 false) (by simp [results, Tryz.results211, go_sem, m0, m1, m2, m3]) rfl ?_
  exact ⟨_, rfl, Or.inl ⟨hg, ao, nn, cc, rfl, HN, HZ, hnn, ((((hO.far _ _ (by show w.heap.size + 1 < _; omega)).far _ _ (by show w.heap.size + 1 < _; omega)).far _ _ (by show w.heap.size + 1 < _; omega)).far _ _ (by show w.heap.size + 1 < _; omega)).low (by omega)⟩, (((hw_2.setCell (le1 _) _).setCell (le1 _) _).setCell (le1 _) _).setCell (le1 _) _⟩
 ·obtain ⟨m0, m1, m2, m3, f0, f1, f2, f3⟩ := zero_num (w := (w.alloc (.cells #[.bool sx, .slice ax nx cx, .int .i64 ex, .bool false] 109))) (r := w.heap.size + 1) hz_2 (by simp)
  go_wp2_with fail
  refine bodyPost_ret (v := numV false none 0 0 0 true) (by simp [results, Tryz.results211, go_sem, m0, m1, m2, m3]) rfl ?_
  exact ⟨_, rfl, Or.inr ⟨hg, rfl⟩, (((hw_2.setCell (le1 _) _).setCell (le1 _) _).setCell (le1 _) _).setCell (le1 _) _⟩
theorem without_calls (sx : Bool) (ax : Option Addr) (nx cx : Nat) (mx : Nat) (ex : Int) (w : World) (hIx : IsW w ax nx cx (wO mx)) (hnx : nx ≤ 1024) (hgx : greatB mx = false) (hex : -100000000 ≤ ex ∧ ex ≤ 100000000) (hT : Tab w) (j : Nat) (hj1 : 0 < j) (hj2 : j ≤ 65536) (more : Bool) :
  Calls Tryz.prog 211 #[numV sx ax nx cx ex false, .int .i64 (j : Int), .bool more] w fun r w' => ∃ v, r = .returned v ∧ NumR w.heap.size w' v (formD sx (mx / 2 ^ j + (if more = true then 1 else 0)) (ex + (j : Int))) ∧ Below w.heap.size w w' := by
 cases more
 ·exact without_less sx ax nx cx mx ex w hIx hnx hgx hex hT j hj1 hj2
 ·exact without_more sx ax nx cx mx ex w hIx hnx hgx hex hT j hj1 hj2
theorem cut_same (B : Nat) (sx : Bool) (ax : Option Addr) (nx cx : Nat) (mx : Nat) (ex : Int) (pp : Int) (up : Bool) (w : World) (hIx : OwnW B w ax nx cx (wO mx)) (HNx : Hid (nx = (wO mx).length)) (HZx : Hid (nx = 0 → ax = none ∧ cx = 0)) (hnx : nx ≤ 1024) (hgx : greatB mx = false) (hp : 1 ≤ pp ∧ pp ≤ 9223372036854775807) (hle : (blen mx : Int) ≤ pp) :
  Calls Tryz.prog 186 #[numV sx ax nx cx ex false, .int .i64 pp, .bool up] w fun r w' => ∃ v, r = .returned v ∧ NumR B w' v (sx, mx, ex) ∧ Below w.heap.size w w' := by
 have hsz : (blen mx : Int) - pp ≤ 0 := by omega
 have hbl : blen mx ≤ 65536 := (great_not _).1 hgx
 have SC : Hid _ := size_calls sx ax nx cx mx ex false _ (hIx.1.keep (show Below w.heap.size w ((w.alloc (.cells #[.bool sx, .slice ax nx cx, .int .i64 ex, .bool false] 109)).alloc (.cells #[.bool false, .slice none 0 0, .int .i64 0, .bool false] 109)) from by repeat (first | exact Below.refl _ _ | refine Below.alloc ?_ (by simp; try omega) _))) hnx hgx
 have HGX : Hid (greatB mx = false) := hgx
 clear hgx
 go_enter Tryz.func186, Tryz.ntmps186
 go_wp2_with fail
 have hz_0 : Below ((w.alloc (.cells #[.bool sx, .slice ax nx cx, .int .i64 ex, .bool false] 109)).alloc (.cells #[.bool false, .slice none 0 0, .int .i64 0, .bool false] 109)).heap.size ((w.alloc (.cells #[.bool sx, .slice ax nx cx, .int .i64 ex, .bool false] 109)).alloc (.cells #[.bool false, .slice none 0 0, .int .i64 0, .bool false] 109)) ((w.alloc (.cells #[.bool sx, .slice ax nx cx, .int .i64 ex, .bool false] 109)).alloc (.cells #[.bool false, .slice none 0 0, .int .i64 0, .bool false] 109)) := Below.refl _ _
 have hw_0 : Below w.heap.size w ((w.alloc (.cells #[.bool sx, .slice ax nx cx, .int .i64 ex, .bool false] 109)).alloc (.cells #[.bool false, .slice none 0 0, .int .i64 0, .bool false] 109)) := by repeat (first | exact Below.refl _ _ | refine Below.alloc ?_ (by simp; try omega) _)
 obtain ⟨kx0_0, kx1_0, kx2_0, kx3_0⟩ := fX2 w sx ax nx cx ex _ rfl
 have hIx_0 := hIx.keep hw_0
 refine cM (SC.out) ?_
 rintro r w_1 ⟨rfl, hb_1⟩
 have hz_1 := nT hz_0 hb_1
 have hw_1 := nT hw_0 hb_1
 have kx0_1 := kC hb_1 kx0_0
 have kx1_1 := kC hb_1 kx1_0
 have kx2_1 := kC hb_1 kx2_0
 have kx3_1 := kC hb_1 kx3_0
 have hIx_1 := hIx_0.keep hb_1
 clear hz_0 hw_0 kx0_0 kx1_0 kx2_0 kx3_0 hIx_0 hb_1
 clear SC
 obtain ⟨m0, m1, m2, m3, f0, f1, f2, f3⟩ := zero_num (w := (w.alloc (.cells #[.bool sx, .slice ax nx cx, .int .i64 ex, .bool false] 109))) (r := w.heap.size + 1) hz_1 (by simp)
 go_wp2_with fail
 refine bodyPost_ret (v := numV sx ax nx cx ex false) (by simp [results, Tryz.results186, go_sem, m0, m1, m2, m3]) rfl ?_
 exact ⟨_, rfl, Or.inl ⟨HGX.out, ax, nx, cx, rfl, HNx, HZx, hnx, hIx.keep ((((hw_1.setCell (le1 _) _).setCell (le1 _) _).setCell (le1 _) _).setCell (le1 _) _)⟩, (((hw_1.setCell (le1 _) _).setCell (le1 _) _).setCell (le1 _) _).setCell (le1 _) _⟩
theorem cut_more (B : Nat) (sx : Bool) (ax : Option Addr) (nx cx : Nat) (mx : Nat) (ex : Int) (pp : Int) (up : Bool) (w : World) (hIx : OwnW B w ax nx cx (wO mx)) (hnx : nx ≤ 1024) (hgx : greatB mx = false) (hp : 1 ≤ pp ∧ pp ≤ 9223372036854775807) (hex : -100000000 ≤ ex ∧ ex ≤ 100000000) (hT : Tab w) (hB : B ≤ w.heap.size) (j : Nat) (hj : (blen mx : Int) = pp + (j : Int)) (hj0 : 0 < j) (u : Nat) (hu : mx / 2 ^ j + (if (!(up == sx)) = true then 1 else 0) = u) :
  Calls Tryz.prog 186 #[numV sx ax nx cx ex false, .int .i64 pp, .bool up] w fun r w' => ∃ v, r = .returned v ∧ NumR B w' v (formD sx u (ex + (j : Int))) ∧ Below w.heap.size w w' := by
 have HU : Hid (mx / 2 ^ j + (if (!(up == sx)) = true then 1 else 0) = u) := hu
 clear hu
 have hbl : blen mx ≤ 65536 := (great_not _).1 hgx
 have hj3 : (blen mx : Int) - pp = (j : Int) := by omega
 have hj4 : ¬ (j : Int) ≤ 0 := by omega
 have SC : Hid _ := size_calls sx ax nx cx mx ex false _ (hIx.1.keep (show Below w.heap.size w ((w.alloc (.cells #[.bool sx, .slice ax nx cx, .int .i64 ex, .bool false] 109)).alloc (.cells #[.bool false, .slice none 0 0, .int .i64 0, .bool false] 109)) from by repeat (first | exact Below.refl _ _ | refine Below.alloc ?_ (by simp; try omega) _))) hnx hgx
 have WC : Hid (∀ W, Below w.heap.size w W → _) := fun W hW => without_calls sx ax nx cx mx ex W (hIx.1.keep hW) hnx hgx hex (hT.kept hW) j (by omega) (by omega) (!(up == sx))
 clear hgx hj hT
 go_enter Tryz.func186, Tryz.ntmps186
 go_wp2_with fail
 have hz_0 : Below ((w.alloc (.cells #[.bool sx, .slice ax nx cx, .int .i64 ex, .bool false] 109)).alloc (.cells #[.bool false, .slice none 0 0, .int .i64 0, .bool false] 109)).heap.size ((w.alloc (.cells #[.bool sx, .slice ax nx cx, .int .i64 ex, .bool false] 109)).alloc (.cells #[.bool false, .slice none 0 0, .int .i64 0, .bool false] 109)) ((w.alloc (.cells #[.bool sx, .slice ax nx cx, .int .i64 ex, .bool false] 109)).alloc (.cells #[.bool false, .slice none 0 0, .int .i64 0, .bool false] 109)) := Below.refl _ _
 have hw_0 : Below w.heap.size w ((w.alloc (.cells #[.bool sx, .slice ax nx cx, .int .i64 ex, .bool false] 109)).alloc (.cells #[.bool false, .slice none 0 0, .int .i64 0, .bool false] 109)) := by repeat (first | exact Below.refl _ _ | refine Below.alloc ?_ (by simp; try omega) _)
 obtain ⟨kx0_0, kx1_0, kx2_0, kx3_0⟩ := fX2 w sx ax nx cx ex _ rfl
 refine cM (SC.out) ?_
 rintro r w_1 ⟨rfl, hb_1⟩
 have hz_1 := nT hz_0 hb_1
 have hw_1 := nT hw_0 hb_1
 have kx0_1 := kC hb_1 kx0_0
 have kx1_1 := kC hb_1 kx1_0
 have kx2_1 := kC hb_1 kx2_0
 have kx3_1 := kC hb_1 kx3_0
 clear hz_0 hw_0 kx0_0 kx1_0 kx2_0 kx3_0 hb_1
 clear SC
 have hsz : w.heap.size + 1 < w_1.heap.size := by have := hz_1.size; simp at this; omega
 go_wp2_with fail
 refine cM (WC.out _ hw_1) ?_
 rintro r w_2 ⟨v, rfl, hN, hb_2⟩
 have hz_2 := nT hz_1 hb_2
 have hw_2 := nT hw_1 hb_2
 have kx0_2 := kC hb_2 kx0_1
 have kx1_2 := kC hb_2 kx1_1
 have kx2_2 := kC hb_2 kx2_1
 have kx3_2 := kC hb_2 kx3_1
 clear hz_1 hw_1 kx0_1 kx1_1 kx2_1 kx3_1 hb_2
 clear WC
 rw [HU.out] at hN
 rcases hN with ⟨hg, ao, nn, cc, rfl, HN, HZ, hnn, hO⟩ | ⟨hg, rfl⟩
 ·obtain ⟨m0, m1, m2, m3, f0, f1, f2, f3⟩ := zero_num (w := (w.alloc (.cells #[.bool sx, .slice ax nx cx, .int .i64 ex, .bool false] 109))) (r := w.heap.size + 1) hz_2 (by simp)
  go_wp2_with fail
  refine bodyPost_ret (v := numV (formD sx u (ex + (j : Int))).1 ao nn cc (formD sx u (ex + (j : Int))).2.2 false) (by simp [results, Tryz.results186, go_sem, m0, m1, m2, m3]) rfl ?_
  exact ⟨_, rfl, Or.inl ⟨hg, ao, nn, cc, rfl, HN, HZ, hnn, ((((hO.far _ _ (by show w.heap.size + 1 < _; omega)).far _ _ (by show w.heap.size + 1 < _; omega)).far _ _ (by show w.heap.size + 1 < _; omega)).far _ _ (by show w.heap.size + 1 < _; omega)).low (by omega)⟩, (((hw_2.setCell (le1 _) _).setCell (le1 _) _).setCell (le1 _) _).setCell (le1 _) _⟩
 ·obtain ⟨m0, m1, m2, m3, f0, f1, f2, f3⟩ := zero_num (w := (w.alloc (.cells #[.bool sx, .slice ax nx cx, .int .i64 ex, .bool false] 109))) (r := w.heap.size + 1) hz_2 (by simp)
  go_wp2_with fail
  refine bodyPost_ret (v := numV false none 0 0 0 true) (by simp [results, Tryz.results186, go_sem, m0, m1, m2, m3]) rfl ?_
  exact ⟨_, rfl, Or.inr ⟨hg, rfl⟩, (((hw_2.setCell (le1 _) _).setCell (le1 _) _).setCell (le1 _) _).setCell (le1 _) _⟩
def cutD (x : Bool × Nat × Int) (pp : Int) (up : Bool) : Bool × Nat × Int := if (blen x.2.1 : Int) ≤ pp then x else formD x.1 (x.2.1 / 2 ^ (blen x.2.1 - pp).toNat + (if (!(up == x.1)) = true then 1 else 0)) (x.2.2 + ((blen x.2.1 - pp).toNat : Int))
theorem cut_calls (B : Nat) (v : Value) (x : Bool × Nat × Int) (pp : Int) (up : Bool) (w : World) (hB : B ≤ w.heap.size) (hX : NumAt B w v x) (gx : greatB x.2.1 = false) (ex : -100000000 ≤ x.2.2 ∧ x.2.2 ≤ 100000000) (hT : Tab w) (hp : 1 ≤ pp ∧ pp ≤ 9223372036854775807) :
  Calls Tryz.prog 186 #[v, .int .i64 pp, .bool up] w fun r w' => ∃ v, r = .returned v ∧ NumR B w' v (cutD x pp up) ∧ Below w.heap.size w w' := by
 obtain ⟨ax, nx, kx, rfl, HNx, HZx, hnx, hOx⟩ := hX
 unfold cutD
 by_cases h : (blen x.2.1 : Int) ≤ pp
 ·rw [if_pos h]
  exact cut_same B x.1 ax nx kx x.2.1 x.2.2 pp up w hOx HNx HZx hnx gx hp h
 ·rw [if_neg h]
  exact cut_more B x.1 ax nx kx x.2.1 x.2.2 pp up w hOx hnx gx hp ex hT hB ((blen x.2.1 : Int) - pp).toNat (by omega) (by omega) _ rfl
end Go.Proofs.YtahpdcbmekgkfaaGreatDoor

namespace Go.Proofs.YtahpdcbmekgkfaaGreatDoor
open Go.RowKit
set_option maxHeartbeats 4000000
set_option maxRecDepth 100000
attribute [local go_sem ↓] Go.wp_at_zero Go.wp_at_succ
theorem cut1_calls (b1 b2 b3 : Nat) (s : Bool) (a : Option Addr) (len cap : Nat) (xs : List Int) (e : Int) (pp : Int) (up : Bool) (w : World) (h : IsW w a len cap xs) (hm : len ≤ 17592186044416) (hT : Tab w) (hr : rightB (val xs) e = true) (hp : 1 ≤ pp ∧ pp ≤ 9223372036854775807)
  (k0 : w.cell? ⟨b1, 0, none⟩ = some (.bool s)) (k1 : w.cell? ⟨b1, 1, none⟩ = some (.slice a len cap)) (k2 : w.cell? ⟨b1, 2, none⟩ = some (.int .i64 e))
  (l0 : w.cell? ⟨b2, 0, none⟩ = some (.int .i64 pp)) (q0 : w.cell? ⟨b3, 0, none⟩ = some (.bool up)) :
  Calls Tryz.prog 185 #[.pointer (some ⟨b1, 0, none⟩), .pointer (some ⟨b2, 0, none⟩), .pointer (some ⟨b3, 0, none⟩)] w fun r w' => ∃ v, r = .returned v ∧ NumR w.heap.size w' v (cutD (formD s (val xs) e) pp up) ∧ Below w.heap.size w w' := by
 have HCGX : Hid (canG s (val xs) e = (formD s (val xs) e)) := canG_no (rightB_yes hr).1
 have HEBX : Hid _ := right_exp hr
 have HGX : Hid _ := form_fit s (val xs) e hr
 have HBX : Hid _ := form_bounds s (val xs) e hr
 have hl1 : b1 < w.heap.size := World.block_lt_of_cell? _ _ k0
 have hl2 : b2 < w.heap.size := World.block_lt_of_cell? _ _ l0
 have hl3 : b3 < w.heap.size := World.block_lt_of_cell? _ _ q0
 have hn1 : b1 ≠ w.heap.size := Nat.ne_of_lt hl1
 have hn2 : b2 ≠ w.heap.size := Nat.ne_of_lt hl2
 have hn3 : b3 ≠ w.heap.size := Nat.ne_of_lt hl3
 clear hr
 go_enter Tryz.func185, Tryz.ntmps185
 go_wp2_with fail
 go_region_with (first
   | (go_at_call 123; refine calls_guard #[dyV s a len cap e] ?_ ?_; (focus rfl); refine (canonical_calls s a len cap xs e _ (h.keep (by repeat (first | exact hbwQ | exact Below.refl _ _ | apply Below.drew | refine Below.alloc ?_ (by simp; try omega) _))) hm (hT.kept (by repeat (first | exact hbwQ | exact Below.refl _ _ | apply Below.drew | refine Below.alloc ?_ (by simp; try omega) _)))).mono ?_; rintro r wX ⟨aX, nX, cX, eX, rfl, HEX, HNX, HZX, hnX, hOX, hbX⟩; have hbwX : Below w.heap.size w wX := nT (by repeat (first | exact hbwQ | exact Below.refl _ _ | apply Below.drew | refine Below.alloc ?_ (by simp; try omega) _)) hbX; have hbzX : Below (w.alloc (.cells #[.bool false, .slice none 0 0, .int .i64 0, .bool false] 109)).heap.size (w.alloc (.cells #[.bool false, .slice none 0 0, .int .i64 0, .bool false] 109)) wX := nT (by repeat (first | exact hbzQ | exact Below.refl _ _ | apply Below.drew | refine Below.alloc ?_ (by simp; try omega) _)) hbX; obtain rfl := HEX.out HEBX.out.1 HEBX.out.2; rw [HCGX.out] at hOX HNX ⊢; clear HEX; have hPX := hOX.low (B' := w.heap.size + 1) (by first | (have := hbzQ.size; simp at this ⊢; omega) | simp); have qX0 := kC hbwX k0; have qX1 := kC hbwX k1; have qX2 := kC hbwX k2; have qX3 := kC hbwX l0; have qX4 := kC hbwX q0)
   | (go_at_call 186; refine (cut_calls (w.heap.size + 1) _ (formD s (val xs) e) pp up _ (by have := hbzX.size; simp at this; omega) (hidN rfl rfl HNX HZX hnX hPX) HGX.out HBX.out (hT.kept hbwX) hp).mono ?_; rintro r wP ⟨vP, rfl, hNP, hbP⟩; obtain ⟨s5, a5, n5, c5, e5, g5, rfl, HNR⟩ := numR_form hNP; have hbwP := nT hbwX hbP; have hbzP := nT hbzX hbP; obtain ⟨m0, m1, m2, m3, f0, f1, f2, f3⟩ := zero_num (r := w.heap.size) hbzP rfl; clear hNP))
 all_goals
  go_wp2_with fail
  refine bodyPost_ret (v := numV s5 a5 n5 c5 e5 g5) (by simp [results, Tryz.results185, go_sem, m0, m1, m2, m3]) rfl ⟨_, rfl, ((((HNR.out.far _ _ (by show w.heap.size < _; omega)).far _ _ (by show w.heap.size < _; omega)).far _ _ (by show w.heap.size < _; omega)).far _ _ (by show w.heap.size < _; omega)).low (by omega), ?_⟩
  exact (((hbwP.setCell (Nat.le_refl _) _).setCell (Nat.le_refl _) _).setCell (Nat.le_refl _) _).setCell (Nat.le_refl _) _
theorem dcut_yes (s : Bool) (a : Option Addr) (len cap : Nat) (xs : List Int) (e : Int) (pp : Int) (up : Bool) (w : World) (h : IsW w a len cap xs) (hm : len ≤ 17592186044416) (hT : Tab w) (hp : 1 ≤ pp ∧ pp ≤ 9223372036854775807) (hr : rightB (val xs) e = true) :
  Calls Tryz.prog 146 #[dyV s a len cap e, .int .i64 pp, .bool up] w fun r w' => ∃ v', r = .returned (.tuple #[v', .int .i64 (roomE (cutD (formD s (val xs) e) pp up))]) ∧ DyAt w.heap.size w' v' (roomP (cutD (formD s (val xs) e) pp up)) ∧ Below w.heap.size w w' := by
 have hmf : ∀ (fn : Fn) (first cap : Array Value) (w : World), (Instr.makeFunc fn first cap).run Tryz.prog w = .ok (.func fn first cap) w := fun _ _ _ _ => rfl
 have HRB : Hid (rightB (val xs) e = true) := hr
 have hp1 : ¬ pp < 1 := by omega
 have HP : Hid _ := hp
 clear hr hp
 go_enter Tryz.func146, Tryz.ntmps146
 go_wp2_with fail
 have hb0 : Below w.heap.size w (((((w.alloc (.cells #[.bool s, .slice a len cap, .int .i64 e] 25)).alloc (.cells #[.int .i64 pp] 3)).alloc (.cells #[.bool up] 4)).alloc (.cells #[.bool false, .slice none 0 0, .int .i64 0] 25)).alloc (.cells #[.bool s, .slice a len cap, .int .i64 e] 25)) := by repeat (first | exact Below.refl _ _ | refine Below.alloc ?_ (by simp; try omega) _)
 refine Calls.mono (made_Cut w.heap.size (w.heap.size + 1) (w.heap.size + 1 + 1) 0 (cutD (formD s (val xs) e) pp up) _ _ (fun W hW => HRB.out ▸ right1_calls (w.heap.size + 1 + 1 + 1 + 1) s a len cap xs e W (h.keep (nT hb0 hW)) hm (kC hW (by go_simp)) (kC hW (by go_simp)) (kC hW (by go_simp)))
  (fun W hW => Calls.mono (cut1_calls w.heap.size (w.heap.size + 1) (w.heap.size + 1 + 1) s a len cap xs e pp up W (h.keep (nT hb0 hW)) hm (hT.kept (nT hb0 hW)) HRB.out HP.out (kC hW (by go_simp)) (kC hW (by go_simp)) (kC hW (by go_simp)) (kC hW (by go_simp)) (kC hW (by go_simp))) (by
   rintro r w5 ⟨v, rfl, hN, hb5⟩
   exact ⟨v, rfl, hN.low (Nat.zero_le _), hb5⟩))) ?_
 rintro r w2 ⟨v', rfl, ⟨a2, n2, c2, rfl, HN2, hn2, hO2⟩, hbM⟩
 have hb2 := nT hb0 hbM
 obtain ⟨m0, m1, m2, f0, f1, f2⟩ := zero_dy (r := w.heap.size + 1 + 1 + 1) (w := ((w.alloc (.cells #[.bool s, .slice a len cap, .int .i64 e] 25)).alloc (.cells #[.int .i64 pp] 3)).alloc (.cells #[.bool up] 4)) (W' := w2) (nT (below_one _ _) hbM) (by simp)
 go_wp2_with fail
 refine bodyPost_ret (v := .tuple #[dyV (roomP (cutD (formD s (val xs) e) pp up)).1 a2 n2 c2 (roomP (cutD (formD s (val xs) e) pp up)).2.2, .int .i64 (roomE (cutD (formD s (val xs) e) pp up))]) (by simp [results, Tryz.results146, go_sem, m0, m1, m2]) rfl ⟨_, rfl, ⟨a2, n2, c2, rfl, HN2, hn2, (((hO2.far _ _ (by show w.heap.size + 1 + 1 + 1 < _; simp)).far _ _ (by show w.heap.size + 1 + 1 + 1 < _; simp)).far _ _ (by show w.heap.size + 1 + 1 + 1 < _; simp)).low (by simp; omega)⟩, ?_⟩
 exact ((hb2.setCell (le3 _) _).setCell (le3 _) _).setCell (le3 _) _
end Go.Proofs.YtahpdcbmekgkfaaGreatDoor

namespace Go.Proofs.YtahpdcbmekgkfaaGreatDoor
open Go.RowKit
set_option maxHeartbeats 2000000
def intD (i : Int) : Bool × Nat × Int := formD (decide (i < 0)) i.natAbs 0
theorem check_calls (s : Bool) (a : Option Addr) (len cap : Nat) (xs : List Int) (e : Int) (w : World) (h : IsW w a len cap xs) (hm : len ≤ 17592186044416) :
  Calls Tryz.prog 148 #[dyV s a len cap e] w fun r w' => r = .returned (.int .i64 (if rightB (val xs) e = true then 0 else 2)) ∧ Below w.heap.size w w' := by
 have hb0 : Below w.heap.size w ((w.alloc (.cells #[.bool s, .slice a len cap, .int .i64 e] 25)).alloc (.cells #[.bool s, .slice a len cap, .int .i64 e] 25)) := nT (below_one _ _) (below_one _ _)
 have RC : Hid _ := right1_calls (w.heap.size + 1) s a len cap xs e _ (h.keep hb0) hm (by go_simp) (by go_simp) (by go_simp)
 cases hR : rightB (val xs) e with
 | true =>
  rw [hR] at RC
  clear hR
  go_enter Tryz.func148, Tryz.ntmps148
  go_wp2_with fail
  refine cM RC.out ?_
  rintro r w1 ⟨rfl, hb1⟩
  go_wp2_with fail
  go_ret
  exact ⟨rfl, nT hb0 hb1⟩
 | false =>
  rw [hR] at RC
  clear hR
  go_enter Tryz.func148, Tryz.ntmps148
  go_wp2_with fail
  refine cM RC.out ?_
  rintro r w1 ⟨rfl, hb1⟩
  go_wp2_with fail
  go_ret
  exact ⟨rfl, nT hb0 hb1⟩
theorem dzero_calls (s : Bool) (a : Option Addr) (len cap : Nat) (xs : List Int) (e : Int) (w : World) (h : IsW w a len cap xs) (hm : len ≤ 17592186044416) (hT : Tab w) :
  Calls Tryz.prog 147 #[dyV s a len cap e] w fun r w' => r = .returned (.bool (rightB (val xs) e && decide (val xs = 0))) ∧ Below w.heap.size w w' := by
 have hb0 : Below w.heap.size w ((w.alloc (.cells #[.bool s, .slice a len cap, .int .i64 e] 25)).alloc (.cells #[.bool s, .slice a len cap, .int .i64 e] 25)) := nT (below_one _ _) (below_one _ _)
 have RC : Hid _ := right1_calls (w.heap.size + 1) s a len cap xs e _ (h.keep hb0) hm (by go_simp) (by go_simp) (by go_simp)
 cases hR : rightB (val xs) e with
 | true =>
  have HCG : Hid (canG s (val xs) e = formD s (val xs) e) := canG_no (rightB_yes hR).1
  rw [hR] at RC
  clear hR
  go_enter Tryz.func147, Tryz.ntmps147
  go_wp2_with fail
  refine cM RC.out ?_
  rintro r w1 ⟨rfl, hb1⟩
  have hb01 := nT hb0 hb1
  have k0 : w1.cell? ⟨w.heap.size, 0, none⟩ = some (.bool s) := kC hb1 (by go_simp)
  have k1 : w1.cell? ⟨w.heap.size, 1, none⟩ = some (.slice a len cap) := kC hb1 (by go_simp)
  have k2 : w1.cell? ⟨w.heap.size, 2, none⟩ = some (.int .i64 e) := kC hb1 (by go_simp)
  go_wp2_with fail
  refine cM (canonical_calls s a len cap xs e w1 (h.keep hb01) hm (hT.kept hb01)) ?_
  rintro r w2 ⟨a2, n2, c2, e2, rfl, HE, HN2, HZ2, hn2, hO2, hb2⟩
  rw [HCG.out] at HN2
  go_wp2_with fail
  refine cM (zero_calls _ _ _ _ _ _ _) ?_
  rintro r w3 ⟨rfl, rfl⟩
  go_wp2_with fail
  go_ret
  refine ⟨nret_bool ?_, nT (nT hb01 hb2) (below_one _ _)⟩
  have e1 : ((n2 : Int) == 0) = decide (val xs = 0) := by
   rw [Bool.eq_iff_iff]
   simp only [beq_iff_eq, decide_eq_true_eq]
   rw [HN2.out, Int.natCast_eq_zero, List.length_eq_zero_iff, words_nil]
   by_cases h0 : val xs = 0
   ·rw [h0, form_zero]
   ·rw [form_pos s h0]
    constructor
    ·intro q
     have := (odd_part h0).1
     simp only at q
     rw [q] at this; omega
    ·intro q; exact absurd q h0
  rw [← e1]; rfl
 | false =>
  rw [hR] at RC
  clear hR
  go_enter Tryz.func147, Tryz.ntmps147
  go_wp2_with fail
  refine cM RC.out ?_
  rintro r w1 ⟨rfl, hb1⟩
  go_wp2_with fail
  go_ret
  exact ⟨rfl, nT hb0 hb1⟩
end Go.Proofs.YtahpdcbmekgkfaaGreatDoor

/- The program's dyadic numbers: whole and rest. The document's dyadic numbers: Floor. The program's dyadic numbers: Floor. -/
import Derived.Test.YtahpdcbmekgkfaaGreatDoorAL
import Derived.Test.YtahpdcbmekgkfaaGreatDoorTMR
import Derived.Test.YtahpdcbmekgkfaaGreatDoorFX
import Derived.Test.YtahpdcbmekgkfaaGreatDoorTMQ
import Derived.Test.YtahpdcbmekgkfaaGreatDoorCR2
import Derived.Test.YtahpdcbmekgkfaaGreatDoorCR

namespace Go.Proofs.YtahpdcbmekgkfaaGreatDoor
open Go.RowKit
set_option maxHeartbeats 4000000
set_option maxRecDepth 100000
theorem whole_fit {x : Bool × Nat × Int} (hg : greatB x.2.1 = false) : greatB (wholeD x).2.1 = false := by
 unfold wholeD
 by_cases h : 0 ≤ x.2.2
 ·rw [if_pos h]; exact hg
 ·rw [if_neg h]
  have hrr := shr_room2 hg (show 0 < (-x.2.2).toNat by omega)
  refine great_mono (form_amount_le _ _ _) ?_
  split
  ·exact hrr.2
  ·exact hrr.1
theorem whole_can {x : Bool × Nat × Int} (h : CanD x) : CanD (wholeD x) := by
 unfold wholeD
 split
 ·exact h
 ·exact form_can _ _ _
theorem whole_exp {x : Bool × Nat × Int} (hg : greatB x.2.1 = false) (hx : x.2.2 ≤ 100000000) : -100000000 ≤ (wholeD x).2.2 ∧ (wholeD x).2.2 ≤ 100000000 := by
 unfold wholeD
 by_cases h : 0 ≤ x.2.2
 ·rw [if_pos h]; omega
 ·rw [if_neg h]
  have hrr := shr_room2 hg (show 0 < (-x.2.2).toNat by omega)
  have hk : greatB (x.2.1 / 2 ^ (-x.2.2).toNat + (if x.1 = true then 1 else 0)) = false := by
   split
   ·exact hrr.2
   ·exact hrr.1
  revert hk
  generalize x.2.1 / 2 ^ (-x.2.2).toNat + (if x.1 = true then 1 else 0) = m
  intro hk
  by_cases h0 : m = 0
  ·rw [h0, form_zero]; exact ⟨by decide, by decide⟩
  ·rw [form_pos x.1 h0]
   have := tz_le_blen m
   have := (great_not m).1 hk
   show _ ≤ (0 : Int) + (tz m : Int) ∧ (0 : Int) + (tz m : Int) ≤ _
   omega
theorem negD_can {x : Bool × Nat × Int} (h : CanD x) : CanD (negD x) := by
 rcases h with h | h
 ·left; rw [h]; rfl
 ·right; exact h
theorem NumR.at {B : Nat} {w : World} {v : Value} {p : Bool × Nat × Int} (h : NumR B w v p) (hg : greatB p.2.1 = false) : NumAt B w v p := by
 rcases h with ⟨_, h⟩ | ⟨h, _⟩
 ·exact h
 ·rw [hg] at h; cases h
theorem whole_same (B : Nat) (sx : Bool) (ax : Option Addr) (nx cx : Nat) (mx : Nat) (ex : Int) (w : World) (hIx : OwnW B w ax nx cx (wO mx)) (HNx : Hid (nx = (wO mx).length)) (HZx : Hid (nx = 0 → ax = none ∧ cx = 0)) (hnx : nx ≤ 1024) (HGX : Hid (greatB mx = false)) (hle : 0 ≤ ex) :
  Calls Tryz.prog 189 #[numV sx ax nx cx ex false] w fun r w' => ∃ v, r = .returned v ∧ NumR B w' v (sx, mx, ex) ∧ Below w.heap.size w w' := by
 go_enter Tryz.func189, Tryz.ntmps189
 go_wp2_with fail
 refine bodyPost_ret (v := numV sx ax nx cx ex false) (by simp [results, Tryz.results189, go_sem]) rfl ⟨_, rfl, Or.inl ⟨HGX.out, ax, nx, cx, rfl, HNx, HZx, hnx, hIx.keep (by repeat (first | exact Below.refl _ _ | refine Below.alloc ?_ (by simp; try omega) _ | refine Below.setCell ?_ (by simp; try omega) _))⟩, by repeat (first | exact Below.refl _ _ | refine Below.alloc ?_ (by simp; try omega) _ | refine Below.setCell ?_ (by simp; try omega) _)⟩
theorem whole_less (B : Nat) (sx : Bool) (ax : Option Addr) (nx cx : Nat) (mx : Nat) (ex : Int) (w : World) (hIx : OwnW B w ax nx cx (wO mx)) (hnx : nx ≤ 1024) (hgx : greatB mx = false) (hex : -65536 ≤ ex) (hlt : ex < 0) (hT : Tab w) (hB : B ≤ w.heap.size) (u : Nat) (hu : mx / 2 ^ (-ex).toNat + (if sx = true then 1 else 0) = u) :
  Calls Tryz.prog 189 #[numV sx ax nx cx ex false] w fun r w' => ∃ v, r = .returned v ∧ NumR B w' v (formD sx u 0) ∧ Below w.heap.size w w' := by
 obtain ⟨j, hj⟩ : ∃ j : Nat, ex = -(j : Int) := ⟨(-ex).toNat, by omega⟩
 have HU : Hid (formD sx (mx / 2 ^ j + (if sx = true then 1 else 0)) (ex + (j : Int)) = formD sx u 0) := by
  rw [Hid, ← hu, show (-ex).toNat = j by omega, show ex + (j : Int) = 0 by omega]
 have WC : Hid (∀ W, Below w.heap.size w W → _) := fun W hW => without_calls sx ax nx cx mx ex W (hIx.1.keep hW) hnx hgx (by omega) (hT.kept hW) j (by omega) (by omega) sx
 have hjs : IntKind.i64.wrap (-ex) = (j : Int) := by rw [IntKind.wrap_i64]; omega
 have hnl : ¬ 0 ≤ ex := by omega
 clear hu hgx hT hj
 go_enter Tryz.func189, Tryz.ntmps189
 go_wp2_with fail
 have hz_0 : Below ((w.alloc (.cells #[.bool sx, .slice ax nx cx, .int .i64 ex, .bool false] 109)).alloc (.cells #[.bool false, .slice none 0 0, .int .i64 0, .bool false] 109)).heap.size ((w.alloc (.cells #[.bool sx, .slice ax nx cx, .int .i64 ex, .bool false] 109)).alloc (.cells #[.bool false, .slice none 0 0, .int .i64 0, .bool false] 109)) ((w.alloc (.cells #[.bool sx, .slice ax nx cx, .int .i64 ex, .bool false] 109)).alloc (.cells #[.bool false, .slice none 0 0, .int .i64 0, .bool false] 109)) := Below.refl _ _
 have hw_0 : Below w.heap.size w ((w.alloc (.cells #[.bool sx, .slice ax nx cx, .int .i64 ex, .bool false] 109)).alloc (.cells #[.bool false, .slice none 0 0, .int .i64 0, .bool false] 109)) := by repeat (first | exact Below.refl _ _ | refine Below.alloc ?_ (by simp; try omega) _)
 refine Calls.mono (WC.out _ hw_0) ?_
 rintro r w_2 ⟨v, rfl, hN, hb_2⟩
 have hz_2 := nT hz_0 hb_2
 have hw_2 := nT hw_0 hb_2
 clear WC hb_2 hz_0 hw_0
 rw [HU.out] at hN
 rcases hN with ⟨hg, ao, nn, cc, rfl, HN, HZ, hnn, hO⟩ | ⟨hg, rfl⟩
 ·obtain ⟨m0, m1, m2, m3, f0, f1, f2, f3⟩ := zero_num (w := (w.alloc (.cells #[.bool sx, .slice ax nx cx, .int .i64 ex, .bool false] 109))) (r := w.heap.size + 1) hz_2 (by simp)
  go_wp2_with fail
  refine bodyPost_ret (v := numV (formD sx u 0).1 ao nn cc (formD sx u 0).2.2 false) (by simp [results, Tryz.results189, go_sem, m0, m1, m2, m3]) rfl ?_
  exact ⟨_, rfl, Or.inl ⟨hg, ao, nn, cc, rfl, HN, HZ, hnn, ((((hO.far _ _ (by show w.heap.size + 1 < _; simp)).far _ _ (by show w.heap.size + 1 < _; simp)).far _ _ (by show w.heap.size + 1 < _; simp)).far _ _ (by show w.heap.size + 1 < _; simp)).low (by simp; omega)⟩, ((((hw_2.setCell (le1 _) _).setCell (le1 _) _).setCell (le1 _) _).setCell (le1 _) _)⟩
 ·obtain ⟨m0, m1, m2, m3, f0, f1, f2, f3⟩ := zero_num (w := (w.alloc (.cells #[.bool sx, .slice ax nx cx, .int .i64 ex, .bool false] 109))) (r := w.heap.size + 1) hz_2 (by simp)
  go_wp2_with fail
  refine bodyPost_ret (v := numV false none 0 0 0 true) (by simp [results, Tryz.results189, go_sem, m0, m1, m2, m3]) rfl ?_
  exact ⟨_, rfl, Or.inr ⟨hg, rfl⟩, ((((hw_2.setCell (le1 _) _).setCell (le1 _) _).setCell (le1 _) _).setCell (le1 _) _)⟩
theorem whole_calls (B : Nat) (v : Value) (x : Bool × Nat × Int) (w : World) (hB : B ≤ w.heap.size) (hX : NumAt B w v x) (gx : greatB x.2.1 = false) (ex : -65536 ≤ x.2.2) (hT : Tab w) :
  Calls Tryz.prog 189 #[v] w fun r w' => ∃ v, r = .returned v ∧ NumR B w' v (wholeD x) ∧ Below w.heap.size w w' := by
 obtain ⟨ax, nx, kx, rfl, HNx, HZx, hnx, hOx⟩ := hX
 unfold wholeD
 by_cases h : 0 ≤ x.2.2
 ·rw [if_pos h]
  exact whole_same B x.1 ax nx kx x.2.1 x.2.2 w hOx HNx HZx hnx gx h
 ·rw [if_neg h]
  exact whole_less B x.1 ax nx kx x.2.1 x.2.2 w hOx hnx gx ex (by omega) hT hB _ rfl
theorem negated_at (B : Nat) (v : Value) (x : Bool × Nat × Int) (w : World) (hX : NumAt B w v x) :
  Calls Tryz.prog 144 #[v] w fun r w' => ∃ v, r = .returned v ∧ NumAt B w' v (negD x) ∧ Below w.heap.size w w' := by
 obtain ⟨ax, nx, kx, rfl, HNx, HZx, hnx, hOx⟩ := hX
 refine (negated_calls x.1 ax nx kx x.2.2 false w).mono ?_
 rintro r w' ⟨rfl, hb⟩
 rw [neg_sign HNx.out]
 exact ⟨_, rfl, ⟨ax, nx, kx, rfl, HNx, HZx, hnx, hOx.keep hb⟩, hb⟩
theorem numAt_form {B : Nat} {w : World} {v : Value} {p : Bool × Nat × Int} (h : NumAt B w v p) : ∃ (s : Bool) (a : Option Addr) (n c : Nat) (e : Int), v = numV s a n c e false ∧ Hid (NumAt B w (numV s a n c e false) p) := by
 obtain ⟨ao, n, c, rfl, h⟩ := h
 exact ⟨p.1, ao, n, c, p.2.2, rfl, ⟨ao, n, c, rfl, h⟩⟩
theorem NumAt.keep' {B : Nat} {w w' : World} {v : Value} {p : Bool × Nat × Int} (h : NumAt B w v p) (hb : Below w.heap.size w w') : NumAt B w' v p := by
 obtain ⟨ao, n, c, h0, h1, h2, h3, h4⟩ := h
 exact ⟨ao, n, c, h0, h1, h2, h3, h4.keep hb⟩
def restD (x : Bool × Nat × Int) : Bool × Nat × Int := sumD x (negD (wholeD x))
theorem dplus_new (B : Nat) (vx vy : Value) (x y : Bool × Nat × Int) (w : World) (hX : NumAt B w vx x) (hY : NumAt B w vy y) (gx : greatB x.2.1 = false) (gy : greatB y.2.1 = false) (cx : CanD x) (cy : CanD y) (ex : -100000000 ≤ x.2.2 ∧ x.2.2 ≤ 100000000) (ey : -100000000 ≤ y.2.2 ∧ y.2.2 ≤ 100000000) (hT : Tab w) (h1 : x.2.1 ≠ 0) (h2 : y.2.1 ≠ 0) :
  Calls Tryz.prog 143 #[vx, vy] w fun r w' => ∃ v, r = .returned v ∧ NumR w.heap.size w' v (sumD x y) ∧ Below w.heap.size w w' := by
 rcases Int.lt_or_le x.2.2 y.2.2 with h3 | h3
 ·have hsum : sumD x y = sumD y x := by
   unfold sumD
   rw [if_neg h1, if_neg h2, if_neg h2, if_neg h1, if_pos h3, if_neg (by omega)]
  rw [hsum]
  have HP : ∀ W, Below w.heap.size w W → _ := fun W hW => plus_nz vy vx B y x W (hY.keep hW) (hX.keep hW) gy gx cy cx ey ex (hT.kept hW) h2 h1 (Int.le_of_lt h3)
  obtain ⟨ax, nx, kx, rfl, HNx, HZx, hnx, hOx⟩ := hX
  obtain ⟨ay, ny, ky, rfl, HNy, HZy, hny, hOy⟩ := hY
  exact plus_swap w.heap.size x.1 ax nx kx x.2.2 y.1 ay ny ky y.2.2 _ w (Nat.le_refl _) (fun q => h1 ((words_nil _).1 (List.length_eq_zero_iff.1 (by rw [← HNx.out]; exact q)))) (fun q => h2 ((words_nil _).1 (List.length_eq_zero_iff.1 (by rw [← HNy.out]; exact q)))) h3 HP
 ·exact plus_nz vx vy B x y w hX hY gx gy cx cy ex ey hT h1 h2 h3
theorem zx_calls (sx : Bool) (ax : Option Addr) (nx cx : Nat) (ex : Int) (vy : Value) (B : Nat) (y : Bool × Nat × Int) (w : World) (hY : NumAt B w vy y) (hy : y.2.1 = 0) (hy2 : y = (false, 0, 0)) (hz : nx = 0) :
  Calls Tryz.prog 143 #[numV sx ax nx cx ex false, vy] w fun r w' => r = .returned (numV false none 0 0 0 false) ∧ Below w.heap.size w w' := by
 obtain ⟨ay, ny, ky, rfl, HNy, HZy, hny, hOy⟩ := hY
 have h0 : ny = 0 := by rw [HNy.out, hy, words_zero]; rfl
 obtain ⟨rfl, rfl⟩ := HZy.out h0
 subst hy2
 refine (plus_zx 0 sx ax nx cx ex false none ny 0 0 0 w (by rw [h0, words_zero]; exact ownW_nil _ _) (by rw [h0, words_zero]; rfl) (fun _ => ⟨rfl, rfl⟩) hny great_zero hz).mono ?_
 rintro r w' ⟨v, rfl, ⟨_, a, n, c, rfl, HN, HZ, _, _⟩ | ⟨h, _⟩, hb⟩
 ·have h1 : n = 0 := by rw [HN.out, words_zero]; rfl
  obtain ⟨rfl, rfl⟩ := HZ.out h1
  subst h1
  exact ⟨rfl, hb⟩
 ·rw [great_zero] at h; cases h
theorem zy_calls (B : Nat) (sx : Bool) (ax : Option Addr) (nx cx : Nat) (ex : Int) (x y : Bool × Nat × Int) (vy : Value) (w : World) (hX : NumAt B w (numV sx ax nx cx ex false) x) (hx0 : x.2.1 ≠ 0) (hY : NumAt B w vy y) (hy : y.2.1 = 0) :
  Calls Tryz.prog 143 #[numV sx ax nx cx ex false, vy] w fun r w' => r = .returned (numV sx ax nx cx ex false) ∧ Below w.heap.size w w' := by
 obtain ⟨ay, ny, ky, rfl, HNy, HZy, hny, hOy⟩ := hY
 obtain ⟨ax', nx', kx', hv, HNx, HZx, hnx, hOx⟩ := hX
 have hnz : nx ≠ 0 := by
  have : nx = nx' := by unfold numV at hv; injection hv with hv; simp at hv; exact hv.2.1.2.1
  rw [this, HNx.out]
  exact fun q => hx0 ((words_nil _).1 (List.length_eq_zero_iff.1 q))
 have h0 : ny = 0 := by rw [HNy.out, hy, words_zero]; rfl
 have hnx0 : ((nx : Int) == 0) = false := by simp; omega
 clear hv HNx HZx hOx hnz HNy HZy hOy
 subst h0
 go_enter Tryz.func143, Tryz.ntmps143
 go_wp2_with fail
 refine Calls.mono (zero_calls sx ax nx cx ex false _) ?_
 rintro r w1 ⟨rfl, rfl⟩
 go_wp2_with fail
 refine Calls.mono (zero_calls y.1 ay 0 ky y.2.2 false _) ?_
 rintro r w1 ⟨rfl, rfl⟩
 go_wp2_with fail
 refine bodyPost_ret (v := numV sx ax nx cx ex false) (by simp [results, Tryz.results143, go_sem]) rfl ⟨rfl, by repeat (first | exact Below.refl _ _ | refine Below.alloc ?_ (by simp; try omega) _)⟩
def set4 (W : World) (r : Nat) (u0 u1 u2 u3 : Value) : World := (((W.setCell ⟨r, 0, none⟩ u0).setCell ⟨r, 1, none⟩ u1).setCell ⟨r, 2, none⟩ u2).setCell ⟨r, 3, none⟩ u3
def NumT (r : Nat) (W : World) (v : Value) (p : Bool × Nat × Int) : Prop := ∃ (s : Bool) (a : Option Addr) (n c : Nat) (e : Int) (g : Bool), v = numV s a n c e g ∧ Hid (∀ u0 u1 u2 u3, NumR 0 (set4 W r u0 u1 u2 u3) (numV s a n c e g) p)
theorem rest_plus (s : Bool) (a : Option Addr) (n c : Nat) (e : Int) (x : Bool × Nat × Int) (w W : World) (v : Value) (hX : NumAt 0 w (numV s a n c e false) x) (gx : greatB x.2.1 = false) (cx : CanD x) (hx : -65536 ≤ x.2.2 ∧ x.2.2 ≤ 100000000) (hT : Tab w) (hW : Below w.heap.size w W) (hs : w.heap.size + 2 ≤ W.heap.size) (hN : NumAt 0 W v (negD (wholeD x))) :
  Calls Tryz.prog 143 #[numV s a n c e false, v] W fun r w' => ∃ v, r = .returned v ∧ NumT (w.heap.size + 1) w' v (restD x) ∧ Below W.heap.size W w' := by
 by_cases h1 : x.2.1 = 0
 ·have hx0 : x = (false, 0, 0) := by
   rcases cx with q | q
   ·exact q
   ·rw [h1] at q; exact absurd q (by decide)
  have hn : n = 0 := by
   obtain ⟨a', n', k', hv, HNx, HZx, hnx, hOx⟩ := hX
   have : n = n' := by unfold numV at hv; injection hv with hv; simp at hv; exact hv.2.1.2.1
   rw [this, HNx.out, h1, words_zero]; rfl
  have e1 : negD (wholeD x) = (false, 0, 0) := by rw [hx0]; rfl
  have e2 : restD x = (false, 0, 0) := by unfold restD sumD; rw [if_pos h1, e1]
  rw [e1] at hN
  rw [e2]
  refine (zx_calls s a n c e v 0 (false, 0, 0) W hN rfl rfl hn).mono ?_
  rintro r w' ⟨rfl, hb⟩
  exact ⟨_, rfl, ⟨_, _, _, _, _, _, rfl, fun _ _ _ _ => Or.inl ⟨great_zero, numAt_zero _ _⟩⟩, hb⟩
 ·by_cases h2 : (negD (wholeD x)).2.1 = 0
  ·have e2 : restD x = x := by unfold restD sumD; rw [if_neg h1, if_pos h2]
   rw [e2]
   refine (zy_calls 0 s a n c e x _ v W (hX.keep' hW) h1 hN h2).mono ?_
   rintro r w' ⟨rfl, hb⟩
   have hb2 := nT hW hb
   refine ⟨_, rfl, ⟨_, _, _, _, _, _, rfl, fun u0 u1 u2 u3 => Or.inl ⟨gx, hX.keep' ?_⟩⟩, hb⟩
   unfold set4
   exact (((hb2.setCell (le1 _) _).setCell (le1 _) _).setCell (le1 _) _).setCell (le1 _) _
  ·refine (dplus_new 0 _ v x (negD (wholeD x)) W (hX.keep' hW) hN gx (whole_fit gx) cx (negD_can (whole_can cx)) ⟨by omega, hx.2⟩ (whole_exp gx hx.2) (hT.kept hW) h1 h2).mono ?_
   rintro r w' ⟨v', rfl, hN', hb⟩
   obtain ⟨s5, a5, n5, c5, e5, g5, rfl, HNR⟩ := numR_form hN'
   refine ⟨_, rfl, ⟨_, _, _, _, _, _, rfl, fun u0 u1 u2 u3 => ?_⟩, hb⟩
   unfold set4
   exact ((((HNR.out.far _ _ (by show w.heap.size + 1 < _; omega)).far _ _ (by show w.heap.size + 1 < _; omega)).far _ _ (by show w.heap.size + 1 < _; omega)).far _ _ (by show w.heap.size + 1 < _; omega)).low (Nat.zero_le _)
attribute [local go_sem ↓] Go.wp_at_zero Go.wp_at_succ
theorem rest_calls (s : Bool) (a : Option Addr) (n c : Nat) (e : Int) (x : Bool × Nat × Int) (w : World) (hX : NumAt 0 w (numV s a n c e false) x) (gx : greatB x.2.1 = false) (cx : CanD x) (hx : -65536 ≤ x.2.2 ∧ x.2.2 ≤ 100000000) (hT : Tab w) :
  Calls Tryz.prog 190 #[numV s a n c e false] w fun r w' => ∃ v, r = .returned v ∧ NumR 0 w' v (restD x) ∧ Below w.heap.size w w' := by
 have hb0 : Below w.heap.size w ((w.alloc (.cells #[.bool s, .slice a n c, .int .i64 e, .bool false] 109)).alloc (.cells #[.bool false, .slice none 0 0, .int .i64 0, .bool false] 109)) := by repeat (first | exact Below.refl _ _ | refine Below.alloc ?_ (by simp; try omega) _)
 have HW : Hid (∀ W, Below w.heap.size w W → Calls Tryz.prog 189 #[numV s a n c e false] W fun r w' => ∃ v, r = .returned v ∧ NumAt 0 w' v (wholeD x) ∧ Below W.heap.size W w') := by
  intro W hW
  refine (whole_calls 0 _ x W (Nat.zero_le _) (hX.keep' hW) gx hx.1 (hT.kept hW)).mono ?_
  rintro r w' ⟨v, rfl, h1, h2⟩
  exact ⟨v, rfl, h1.at (whole_fit gx), h2⟩
 have HN : Hid _ := fun v W (q : NumAt 0 W v (wholeD x)) => negated_at 0 v (wholeD x) W q
 have HP : Hid _ := fun W v hW hs hN => rest_plus s a n c e x w W v hX gx cx hx hT hW hs hN
 clear hX gx cx hx hT
 obtain ⟨k0, k1, k2, k3⟩ := fX2 w s a n c e _ rfl
 have bz0 : Below ((w.alloc (.cells #[.bool s, .slice a n c, .int .i64 e, .bool false] 109)).alloc (.cells #[.bool false, .slice none 0 0, .int .i64 0, .bool false] 109)).heap.size ((w.alloc (.cells #[.bool s, .slice a n c, .int .i64 e, .bool false] 109)).alloc (.cells #[.bool false, .slice none 0 0, .int .i64 0, .bool false] 109)) ((w.alloc (.cells #[.bool s, .slice a n c, .int .i64 e, .bool false] 109)).alloc (.cells #[.bool false, .slice none 0 0, .int .i64 0, .bool false] 109)).drew := (Below.refl _ _).drew
 go_enter Tryz.func190, Tryz.ntmps190
 go_wp2_with fail
 go_region_with (first
   | (go_at_call 189; refine (HW.out _ (by first | exact hb0.drew | exact hb0)).mono ?_; rintro r wA ⟨vA, rfl, hA, bA⟩; obtain ⟨sA, aA, nA, cA, eA, rfl, HA⟩ := numAt_form hA; have bzA := nT bz0 bA; have bwA := nT hb0.drew bA; have qA0 := kC bzA k0; have qA1 := kC bzA k1; have qA2 := kC bzA k2; have qA3 := kC bzA k3; clear hA)
   | (go_at_call 144; refine (HN.out _ _ HA.out).mono ?_; rintro r wB ⟨vB, rfl, hB, bB⟩; obtain ⟨sB, aB, nB, cB, eB, rfl, HB⟩ := numAt_form hB; have bzB := nT bzA bB; have bwB := nT bwA bB; have qB0 := kC bB qA0; have qB1 := kC bB qA1; have qB2 := kC bB qA2; have qB3 := kC bB qA3; clear hB)
   | (go_at_call 143; refine (HP.out _ _ bwB (by have := bzB.size; simp at this; omega) HB.out).mono ?_; rintro r wP ⟨vP, rfl, hNP, bP⟩; obtain ⟨s5, a5, n5, c5, e5, g5, rfl, HNR⟩ := hNP; have hbwP := nT bwB bP; have hbzP := nT bzB bP; obtain ⟨m0, m1, m2, m3, f0, f1, f2, f3⟩ := zero_num (w := w.alloc (.cells #[.bool s, .slice a n c, .int .i64 e, .bool false] 109)) (r := w.heap.size + 1) hbzP (by simp)))
 all_goals
  go_wp2_with fail
  refine bodyPost_ret (v := numV s5 a5 n5 c5 e5 g5) (by simp [results, Tryz.results190, go_sem, m0, m1, m2, m3]) rfl ⟨_, rfl, HNR.out _ _ _ _, ((((hbwP.setCell (le1 _) _).setCell (le1 _) _).setCell (le1 _) _).setCell (le1 _) _)⟩
end Go.Proofs.YtahpdcbmekgkfaaGreatDoor

namespace Go.Proofs.YtahpdcbmekgkfaaGreatDoor
open Go.RowKit
def flP (p : Bool × Nat × Int) : Bool := rightB (wholeD p).2.1 (wholeD p).2.2 && rightB (restD p).2.1 (restD p).2.2
def flB (s : Bool) (m : Nat) (e : Int) : Bool := rightB m e && flP (formD s m e)
def flE (s : Bool) (m : Nat) (e : Int) : Int := if rightB m e = true then (if flP (formD s m e) = true then 0 else 3) else 2
def flW (s : Bool) (m : Nat) (e : Int) : Bool × Nat × Int := if flB s m e = true then wholeD (formD s m e) else (false, 0, 0)
def flR (s : Bool) (m : Nat) (e : Int) : Bool × Nat × Int := if flB s m e = true then restD (formD s m e) else (false, 0, 0)
theorem fl_right {s : Bool} {m : Nat} {e : Int} (h : rightB m e = false) : flE s m e = 2 ∧ flW s m e = (false, 0, 0) ∧ flR s m e = (false, 0, 0) := by
 unfold flE flW flR flB; rw [h]; exact ⟨rfl, rfl, rfl⟩
theorem fl_no {s : Bool} {m : Nat} {e : Int} (h : rightB m e = true) (hp : flP (formD s m e) = false) : flE s m e = 3 ∧ flW s m e = (false, 0, 0) ∧ flR s m e = (false, 0, 0) := by
 unfold flE flW flR flB; rw [h, hp]; exact ⟨rfl, rfl, rfl⟩
theorem fl_yes {s : Bool} {m : Nat} {e : Int} (h : rightB m e = true) (hp : flP (formD s m e) = true) : flE s m e = 0 ∧ flW s m e = wholeD (formD s m e) ∧ flR s m e = restD (formD s m e) := by
 unfold flE flW flR flB; rw [h, hp]; exact ⟨rfl, rfl, rfl⟩
theorem form_low (s : Bool) (m : Nat) (e : Int) (h : rightB m e = true) : -32768 ≤ (formD s m e).2.2 := by
 obtain ⟨h1, h2, h3⟩ := rightB_yes h
 by_cases h0 : m = 0
 ·rw [h0, form_zero]; decide
 ·rw [form_pos s h0]
  show _ ≤ e + (tz m : Int)
  omega
end Go.Proofs.YtahpdcbmekgkfaaGreatDoor

namespace Go.Proofs.YtahpdcbmekgkfaaGreatDoor
open Go.RowKit
set_option maxHeartbeats 4000000
set_option maxRecDepth 100000
theorem pfloor_not (s : Bool) (a : Option Addr) (len cap : Nat) (xs : List Int) (e : Int) (w : World) (h : IsW w a len cap xs) (hm : len ≤ 17592186044416) (hT : Tab w) (hr : rightB (val xs) e = false) :
  Calls Tryz.prog 156 #[dyV s a len cap e] w fun r w' => ∃ v1 v2, r = .returned (.tuple #[v1, v2, .int .i64 (2)]) ∧ DyAt w.heap.size w' v1 ((false, 0, 0)) ∧ DyAt w.heap.size w' v2 ((false, 0, 0)) ∧ Below w.heap.size w w' := by
 have hmf : ∀ (fn : Fn) (first cap : Array Value) (w : World), (Instr.makeFunc fn first cap).run Tryz.prog w = .ok (.func fn first cap) w := fun _ _ _ _ => rfl
 have bw0 : Below w.heap.size w (((w.alloc (.cells #[.bool s, .slice a len cap, .int .i64 e] 25)).alloc (.cells #[.bool false, .slice none 0 0, .int .i64 0] 25)).alloc (.cells #[.bool false, .slice none 0 0, .int .i64 0] 25)) := by repeat (first | exact Below.refl _ _ | refine bl_alloc ?_ _)
 have HC : Hid _ := canonical_calls s a len cap xs e _ (h.keep bw0) hm (hT.kept bw0)
 have HRR : Hid _ := fun b W g q0 q1 q2 => right1_calls b s a len cap xs e W g hm q0 q1 q2
 have H1 : Hid (IsW w a len cap xs) := h
 rw [hr] at HRR
 generalize canG s (val xs) e = x at *
 clear hr h hm
 go_enter Tryz.func156, Tryz.ntmps156
 go_wp2_with fail
 refine cM HC.out ?_
 rintro r w1 ⟨ao, n, c, ex, rfl, HE, HN, HZ, hn, hO, b1⟩
 have k0 : w1.cell? ⟨w.heap.size, 0, none⟩ = some (.bool s) := kC b1 (by go_simp)
 have k1 : w1.cell? ⟨w.heap.size, 1, none⟩ = some (.slice a len cap) := kC b1 (by go_simp)
 have k2 : w1.cell? ⟨w.heap.size, 2, none⟩ = some (.int .i64 e) := kC b1 (by go_simp)
 clear HE HN HZ hn hO
 have bA := below_one w1 (.cells #[.bool x.1, .slice ao n c, .int .i64 ex, .bool false] 109)
 have o0 : (w1.alloc (.cells #[.bool x.1, .slice ao n c, .int .i64 ex, .bool false] 109)).cell? ⟨w1.heap.size, 0, none⟩ = some (.bool x.1) := by go_simp
 have o1 : (w1.alloc (.cells #[.bool x.1, .slice ao n c, .int .i64 ex, .bool false] 109)).cell? ⟨w1.heap.size, 1, none⟩ = some (.slice ao n c) := by go_simp
 have o2 : (w1.alloc (.cells #[.bool x.1, .slice ao n c, .int .i64 ex, .bool false] 109)).cell? ⟨w1.heap.size, 2, none⟩ = some (.int .i64 ex) := by go_simp
 have o3 : (w1.alloc (.cells #[.bool x.1, .slice ao n c, .int .i64 ex, .bool false] 109)).cell? ⟨w1.heap.size, 3, none⟩ = some (.bool false) := by go_simp
 revert k0 k1 k2; refine cc3 bA ?_; intro k0 k1 k2
 have bz := nT b1 bA
 clear b1 bA HC
 have q0 : ((w1.alloc (.cells #[.bool x.1, .slice ao n c, .int .i64 ex, .bool false] 109)).alloc (.cells #[.bool s, .slice a len cap, .int .i64 e] 25)).cell? ⟨w1.heap.size + 1, 0, none⟩ = some (.bool s) := by go_simp
 have q1 : ((w1.alloc (.cells #[.bool x.1, .slice ao n c, .int .i64 ex, .bool false] 109)).alloc (.cells #[.bool s, .slice a len cap, .int .i64 e] 25)).cell? ⟨w1.heap.size + 1, 1, none⟩ = some (.slice a len cap) := by go_simp
 have q2 : ((w1.alloc (.cells #[.bool x.1, .slice ao n c, .int .i64 ex, .bool false] 109)).alloc (.cells #[.bool s, .slice a len cap, .int .i64 e] 25)).cell? ⟨w1.heap.size + 1, 2, none⟩ = some (.int .i64 e) := by go_simp
 go_wp2_with fail
 generalize w1.alloc (.cells #[.bool x.1, .slice ao n c, .int .i64 ex, .bool false] 109) = w2 at *
 have bB := below_one w2 (.cells #[.bool s, .slice a len cap, .int .i64 e] 25)
 have bzB := nT bz bB
 refine cM (made_not _ _ _ (fun W hW => HRR.out (w1.heap.size + 1) W (H1.out.keep (nT bw0 (nT bzB hW))) (kC hW q0) (kC hW q1) (kC hW q2))) ?_
 rintro r w3 ⟨rfl, b3⟩
 have b23 := nT bB b3
 have bC := below_one w3 (.cells #[.bool false, .slice none 0 0, .int .i64 0] 25)
 replace bz := nT bz (nT b23 bC)
 have bw := nT bw0 bz
 clear b3 b23 bB bzB bC o0 o1 o2 o3 k0 k1 k2 HRR H1 q0 q1 q2
 obtain ⟨m0, m1, m2, f0, f1, f2⟩ := zero_dy (w := w.alloc (.cells #[.bool s, .slice a len cap, .int .i64 e] 25)) (r := w.heap.size + 1) (W' := w3.alloc (.cells #[.bool false, .slice none 0 0, .int .i64 0] 25)) (nT (below_one _ _) bz) (by simp)
 obtain ⟨l0, l1, l2, g0, g1, g2⟩ := zero_dy (w := (w.alloc (.cells #[.bool s, .slice a len cap, .int .i64 e] 25)).alloc (.cells #[.bool false, .slice none 0 0, .int .i64 0] 25)) (r := w.heap.size + 1 + 1) (W' := w3.alloc (.cells #[.bool false, .slice none 0 0, .int .i64 0] 25)) bz (by simp)
 clear bz bw0
 go_wp2_with fail
 refine bodyPost_ret (v := .tuple #[dyV false none 0 0 0, dyV false none 0 0 0, .int .i64 2]) (by simp [results, Tryz.results156, go_sem, m0, m1, m2, l0, l1, l2]) rfl ⟨_, _, rfl, dyAt_zero _ _, dyAt_zero _ _, ?_⟩
 exact (((((bw.setCell (le1 _) _).setCell (le1 _) _).setCell (le1 _) _).setCell (le2 _) _).setCell (le2 _) _).setCell (le2 _) _
theorem pfloor_no1 (s : Bool) (a : Option Addr) (len cap : Nat) (xs : List Int) (e : Int) (w : World) (h : IsW w a len cap xs) (hm : len ≤ 17592186044416) (hT : Tab w) (hr : rightB (val xs) e = true) (hu0 : rightB (wholeD (formD s (val xs) e)).2.1 (wholeD (formD s (val xs) e)).2.2 = false) :
  Calls Tryz.prog 156 #[dyV s a len cap e] w fun r w' => ∃ v1 v2, r = .returned (.tuple #[v1, v2, .int .i64 (3)]) ∧ DyAt w.heap.size w' v1 ((false, 0, 0)) ∧ DyAt w.heap.size w' v2 ((false, 0, 0)) ∧ Below w.heap.size w w' := by
 have hmf : ∀ (fn : Fn) (first cap : Array Value) (w : World), (Instr.makeFunc fn first cap).run Tryz.prog w = .ok (.func fn first cap) w := fun _ _ _ _ => rfl
 have bw0 : Below w.heap.size w (((w.alloc (.cells #[.bool s, .slice a len cap, .int .i64 e] 25)).alloc (.cells #[.bool false, .slice none 0 0, .int .i64 0] 25)).alloc (.cells #[.bool false, .slice none 0 0, .int .i64 0] 25)) := by repeat (first | exact Below.refl _ _ | refine bl_alloc ?_ _)
 have HC : Hid _ := canonical_calls s a len cap xs e _ (h.keep bw0) hm (hT.kept bw0)
 have HRR : Hid _ := fun b W g q0 q1 q2 => right1_calls b s a len cap xs e W g hm q0 q1 q2
 have H1 : Hid (IsW w a len cap xs) := h
 have hu : roomE (wholeD (formD s (val xs) e)) = 3 ∧ roomP (wholeD (formD s (val xs) e)) = (false, 0, 0) := by
  unfold roomE roomP
  rw [show roomB (wholeD (formD s (val xs) e)) = rightB (wholeD (formD s (val xs) e)).2.1 (wholeD (formD s (val xs) e)).2.2 from rfl, hu0]
  exact ⟨rfl, rfl⟩
 clear hu0
 obtain ⟨u, hue⟩ : ∃ u : Bool × Nat × Int, u = (false, 0, 0) := ⟨_, rfl⟩
 rw [← hue] at hu
 clear hue
 rw [hr] at HRR
 have hcg : canG s (val xs) e = formD s (val xs) e := canG_no (rightB_yes hr).1
 rw [hcg] at HC
 have HEB : Hid _ := right_exp hr
 have HGX : Hid _ := form_fit s (val xs) e hr
 have HBX : Hid _ := form_bounds s (val xs) e hr
 have HLO : Hid _ := form_low s (val xs) e hr
 have HCN : Hid _ := form_can s (val xs) e
 generalize formD s (val xs) e = x at *
 have HT0 : Hid (∀ W, Below w.heap.size w W → Tab W) := fun W hW => hT.kept hW
 clear hr h hm hcg hT
 go_enter Tryz.func156, Tryz.ntmps156
 go_wp2_with fail
 refine cM HC.out ?_
 rintro r w1 ⟨ao, n, c, ex, rfl, HE, HN, HZ, hn, hO, b1⟩
 have k0 : w1.cell? ⟨w.heap.size, 0, none⟩ = some (.bool s) := kC b1 (by go_simp)
 have k1 : w1.cell? ⟨w.heap.size, 1, none⟩ = some (.slice a len cap) := kC b1 (by go_simp)
 have k2 : w1.cell? ⟨w.heap.size, 2, none⟩ = some (.int .i64 e) := kC b1 (by go_simp)
 obtain rfl := HE.out HEB.out.1 HEB.out.2
 have hX : NumAt 0 w1 (numV x.1 ao n c x.2.2 false) x := ⟨ao, n, c, rfl, HN, HZ, hn, hO.low (Nat.zero_le _)⟩
 clear HE HEB HN HZ hn hO
 have bA := below_one w1 (.cells #[.bool x.1, .slice ao n c, .int .i64 x.2.2, .bool false] 109)
 obtain ⟨o0, o1, o2, o3⟩ := fX11 w1 x ao n c _ rfl
 revert k0 k1 k2; refine cc3 bA ?_; intro k0 k1 k2
 have bz := nT b1 bA
 replace hX := hX.keep' bA
 clear b1 bA HC
 obtain ⟨q0, q1, q2⟩ := fX12 w1 x ao n c s a len cap e _ rfl
 go_wp2_with fail
 generalize w1.alloc (.cells #[.bool x.1, .slice ao n c, .int .i64 x.2.2, .bool false] 109) = w2 at *
 have HQ : Hid (roomE (wholeD x) = 3 ∧ roomP (wholeD x) = u) := hu
 clear hu
 have bB := below_one w2 (.cells #[.bool s, .slice a len cap, .int .i64 e] 25)
 have bzB := nT bz bB
 refine cM (made_whole x.1 ao n c x.2.2 false 0 (wholeD x) _ _ (fun W hW => HRR.out (w1.heap.size + 1) W (H1.out.keep (nT bw0 (nT bzB hW))) (kC hW q0) (kC hW q1) (kC hW q2)) (fun W hW => whole_calls 0 _ x W (Nat.zero_le _) (hX.keep' (nT bB hW)) HGX.out (by have := HLO.out; omega) (HT0.out _ (nT bw0 (nT bzB hW))))) ?_
 rintro r w3 ⟨_, rfl, ⟨a3, n3, c3, rfl, HN3, hn3, hO3⟩, b3⟩
 have b23 := nT bB b3
 rw [HQ.out.1]
 rw [HQ.out.2] at HN3 hO3 ⊢
 clear HQ
 have bC := below_one w3 (.cells #[.bool u.1, .slice a3 n3 c3, .int .i64 u.2.2] 25)
 obtain ⟨d0, d1, d2⟩ := fX13 w3 u a3 n3 c3 _ rfl
 have hO3' := (hO3.keep bC).low (Nat.le_trans bz.size bB.size)
 have b24 := nT b23 bC
 have sz3 : (((w.alloc (.cells #[.bool s, .slice a len cap, .int .i64 e] 25)).alloc (.cells #[.bool false, .slice none 0 0, .int .i64 0] 25)).alloc (.cells #[.bool false, .slice none 0 0, .int .i64 0] 25)).heap.size ≤ w3.heap.size := Nat.le_trans bz.size b23.size
 replace bz := nT bz b24
 revert o0 o1 o2 o3 k0 k1; refine cc6 b24 ?_; intro o0 o1 o2 o3 k0 k1
 replace k2 := kC b24 k2
 replace hX := hX.keep' b24
 clear b3 b23 b24 bB bzB bC hO3 q0 q1 q2
 obtain ⟨q0, q1, q2⟩ := fX14 w3 u a3 n3 c3 s a len cap e _ rfl
 have bw := nT bw0 bz
 obtain ⟨m0, m1, m2, f0, f1, f2⟩ := zero_dy (w := w.alloc (.cells #[.bool s, .slice a len cap, .int .i64 e] 25)) (r := w.heap.size + 1) (W' := w3.alloc (.cells #[.bool u.1, .slice a3 n3 c3, .int .i64 u.2.2] 25)) (nT (below_one _ _) bz) (by simp)
 obtain ⟨l0, l1, l2, g0, g1, g2⟩ := zero_dy (w := (w.alloc (.cells #[.bool s, .slice a len cap, .int .i64 e] 25)).alloc (.cells #[.bool false, .slice none 0 0, .int .i64 0] 25)) (r := w.heap.size + 1 + 1) (W' := w3.alloc (.cells #[.bool u.1, .slice a3 n3 c3, .int .i64 u.2.2] 25)) bz (by simp)
 clear bz bw0 o0 o1 o2 o3 k0 k1 k2 hX HRR H1 q0 q1 q2
 go_wp2_with fail
 refine bodyPost_ret (v := .tuple #[dyV false none 0 0 0, dyV false none 0 0 0, .int .i64 3]) (by simp [results, Tryz.results156, go_sem, m0, m1, m2, l0, l1, l2]) rfl ⟨_, _, rfl, dyAt_zero _ _, dyAt_zero _ _, ?_⟩
 exact (((((bw.setCell (le1 _) _).setCell (le1 _) _).setCell (le1 _) _).setCell (le2 _) _).setCell (le2 _) _).setCell (le2 _) _
theorem pfloor_no2 (s : Bool) (a : Option Addr) (len cap : Nat) (xs : List Int) (e : Int) (w : World) (h : IsW w a len cap xs) (hm : len ≤ 17592186044416) (hT : Tab w) (hr : rightB (val xs) e = true) (hu0 : rightB (wholeD (formD s (val xs) e)).2.1 (wholeD (formD s (val xs) e)).2.2 = true) (hv0 : rightB (restD (formD s (val xs) e)).2.1 (restD (formD s (val xs) e)).2.2 = false) :
  Calls Tryz.prog 156 #[dyV s a len cap e] w fun r w' => ∃ v1 v2, r = .returned (.tuple #[v1, v2, .int .i64 (3)]) ∧ DyAt w.heap.size w' v1 ((false, 0, 0)) ∧ DyAt w.heap.size w' v2 ((false, 0, 0)) ∧ Below w.heap.size w w' := by
 have hmf : ∀ (fn : Fn) (first cap : Array Value) (w : World), (Instr.makeFunc fn first cap).run Tryz.prog w = .ok (.func fn first cap) w := fun _ _ _ _ => rfl
 have bw0 : Below w.heap.size w (((w.alloc (.cells #[.bool s, .slice a len cap, .int .i64 e] 25)).alloc (.cells #[.bool false, .slice none 0 0, .int .i64 0] 25)).alloc (.cells #[.bool false, .slice none 0 0, .int .i64 0] 25)) := by repeat (first | exact Below.refl _ _ | refine bl_alloc ?_ _)
 have HC : Hid _ := canonical_calls s a len cap xs e _ (h.keep bw0) hm (hT.kept bw0)
 have HRR : Hid _ := fun b W g q0 q1 q2 => right1_calls b s a len cap xs e W g hm q0 q1 q2
 have H1 : Hid (IsW w a len cap xs) := h
 have hu : roomE (wholeD (formD s (val xs) e)) = 0 ∧ roomP (wholeD (formD s (val xs) e)) = wholeD (formD s (val xs) e) := by
  unfold roomE roomP
  rw [show roomB (wholeD (formD s (val xs) e)) = rightB (wholeD (formD s (val xs) e)).2.1 (wholeD (formD s (val xs) e)).2.2 from rfl, hu0]
  exact ⟨rfl, rfl⟩
 clear hu0
 have hv : roomE (restD (formD s (val xs) e)) = 3 ∧ roomP (restD (formD s (val xs) e)) = (false, 0, 0) := by
  unfold roomE roomP
  rw [show roomB (restD (formD s (val xs) e)) = rightB (restD (formD s (val xs) e)).2.1 (restD (formD s (val xs) e)).2.2 from rfl, hv0]
  exact ⟨rfl, rfl⟩
 clear hv0
 obtain ⟨v, hue⟩ : ∃ v : Bool × Nat × Int, v = (false, 0, 0) := ⟨_, rfl⟩
 rw [← hue] at hv
 clear hue
 rw [hr] at HRR
 have hcg : canG s (val xs) e = formD s (val xs) e := canG_no (rightB_yes hr).1
 rw [hcg] at HC
 have HEB : Hid _ := right_exp hr
 have HGX : Hid _ := form_fit s (val xs) e hr
 have HBX : Hid _ := form_bounds s (val xs) e hr
 have HLO : Hid _ := form_low s (val xs) e hr
 have HCN : Hid _ := form_can s (val xs) e
 generalize formD s (val xs) e = x at *
 have HT0 : Hid (∀ W, Below w.heap.size w W → Tab W) := fun W hW => hT.kept hW
 clear hr h hm hcg hT
 go_enter Tryz.func156, Tryz.ntmps156
 go_wp2_with fail
 refine cM HC.out ?_
 rintro r w1 ⟨ao, n, c, ex, rfl, HE, HN, HZ, hn, hO, b1⟩
 have k0 : w1.cell? ⟨w.heap.size, 0, none⟩ = some (.bool s) := kC b1 (by go_simp)
 have k1 : w1.cell? ⟨w.heap.size, 1, none⟩ = some (.slice a len cap) := kC b1 (by go_simp)
 have k2 : w1.cell? ⟨w.heap.size, 2, none⟩ = some (.int .i64 e) := kC b1 (by go_simp)
 obtain rfl := HE.out HEB.out.1 HEB.out.2
 have hX : NumAt 0 w1 (numV x.1 ao n c x.2.2 false) x := ⟨ao, n, c, rfl, HN, HZ, hn, hO.low (Nat.zero_le _)⟩
 clear HE HEB HN HZ hn hO
 have bA := below_one w1 (.cells #[.bool x.1, .slice ao n c, .int .i64 x.2.2, .bool false] 109)
 obtain ⟨o0, o1, o2, o3⟩ := fX11 w1 x ao n c _ rfl
 revert k0 k1 k2; refine cc3 bA ?_; intro k0 k1 k2
 have bz := nT b1 bA
 replace hX := hX.keep' bA
 clear b1 bA HC
 obtain ⟨q0, q1, q2⟩ := fX12 w1 x ao n c s a len cap e _ rfl
 go_wp2_with fail
 generalize w1.alloc (.cells #[.bool x.1, .slice ao n c, .int .i64 x.2.2, .bool false] 109) = w2 at *
 obtain ⟨u, HU⟩ : ∃ u, wholeD x = u := ⟨_, rfl⟩
 have HQ : Hid (roomE (wholeD x) = 0 ∧ roomP (wholeD x) = u) := ⟨hu.1, hu.2.trans HU⟩
 clear HU
 have HQ2 : Hid (roomE (restD x) = 3 ∧ roomP (restD x) = v) := hv
 clear hv
 clear hu
 have bB := below_one w2 (.cells #[.bool s, .slice a len cap, .int .i64 e] 25)
 have bzB := nT bz bB
 refine cM (made_whole x.1 ao n c x.2.2 false 0 (wholeD x) _ _ (fun W hW => HRR.out (w1.heap.size + 1) W (H1.out.keep (nT bw0 (nT bzB hW))) (kC hW q0) (kC hW q1) (kC hW q2)) (fun W hW => whole_calls 0 _ x W (Nat.zero_le _) (hX.keep' (nT bB hW)) HGX.out (by have := HLO.out; omega) (HT0.out _ (nT bw0 (nT bzB hW))))) ?_
 rintro r w3 ⟨_, rfl, ⟨a3, n3, c3, rfl, HN3, hn3, hO3⟩, b3⟩
 have b23 := nT bB b3
 rw [HQ.out.1]
 rw [HQ.out.2] at HN3 hO3 ⊢
 clear HQ
 have bC := below_one w3 (.cells #[.bool u.1, .slice a3 n3 c3, .int .i64 u.2.2] 25)
 obtain ⟨d0, d1, d2⟩ := fX13 w3 u a3 n3 c3 _ rfl
 have hO3' := (hO3.keep bC).low (Nat.le_trans bz.size bB.size)
 have b24 := nT b23 bC
 have sz3 : (((w.alloc (.cells #[.bool s, .slice a len cap, .int .i64 e] 25)).alloc (.cells #[.bool false, .slice none 0 0, .int .i64 0] 25)).alloc (.cells #[.bool false, .slice none 0 0, .int .i64 0] 25)).heap.size ≤ w3.heap.size := Nat.le_trans bz.size b23.size
 replace bz := nT bz b24
 revert o0 o1 o2 o3 k0 k1; refine cc6 b24 ?_; intro o0 o1 o2 o3 k0 k1
 replace k2 := kC b24 k2
 replace hX := hX.keep' b24
 clear b3 b23 b24 bB bzB bC hO3 q0 q1 q2
 obtain ⟨q0, q1, q2⟩ := fX14 w3 u a3 n3 c3 s a len cap e _ rfl
 go_wp2_with fail
 generalize w3.alloc (.cells #[.bool u.1, .slice a3 n3 c3, .int .i64 u.2.2] 25) = w4 at *
 have bB := below_one w4 (.cells #[.bool s, .slice a len cap, .int .i64 e] 25)
 have bzB := nT bz bB
 refine cM (made_rest x.1 ao n c x.2.2 false 0 (restD x) _ _ (fun W hW => HRR.out (w3.heap.size + 1) W (H1.out.keep (nT bw0 (nT bzB hW))) (kC hW q0) (kC hW q1) (kC hW q2)) (fun W hW => rest_calls x.1 ao n c x.2.2 x W (hX.keep' (nT bB hW)) HGX.out HCN.out ⟨by have := HLO.out; omega, HBX.out.2⟩ (HT0.out _ (nT bw0 (nT bzB hW))))) ?_
 rintro r w5 ⟨_, rfl, ⟨a5, n5, c5, rfl, HN5, hn5, hO5⟩, b5⟩
 have b23 := nT bB b5
 rw [HQ2.out.1]
 rw [HQ2.out.2] at HN5 hO5 ⊢
 clear HQ2
 have bC := below_one w5 (.cells #[.bool v.1, .slice a5 n5 c5, .int .i64 v.2.2] 25)
 obtain ⟨e0, e1, e2⟩ := fX13 w5 v a5 n5 c5 _ rfl
 have hO5' := (hO5.keep bC).low (Nat.le_trans bz.size bB.size)
 have b46 := nT b23 bC
 replace hO3' := hO3'.keep b46
 have sz5 : (((w.alloc (.cells #[.bool s, .slice a len cap, .int .i64 e] 25)).alloc (.cells #[.bool false, .slice none 0 0, .int .i64 0] 25)).alloc (.cells #[.bool false, .slice none 0 0, .int .i64 0] 25)).heap.size ≤ w5.heap.size := Nat.le_trans bz.size b23.size
 replace bz := nT bz b46
 revert d0 d1 d2; refine cc3 b46 ?_; intro d0 d1 d2
 clear b5 b23 b46 bB bzB bC hO5 o0 o1 o2 o3 k0 k1 k2 hX HRR H1 q0 q1 q2
 have bw := nT bw0 bz
 obtain ⟨m0, m1, m2, f0, f1, f2⟩ := zero_dy (w := w.alloc (.cells #[.bool s, .slice a len cap, .int .i64 e] 25)) (r := w.heap.size + 1) (W' := w5.alloc (.cells #[.bool v.1, .slice a5 n5 c5, .int .i64 v.2.2] 25)) (nT (below_one _ _) bz) (by simp)
 obtain ⟨l0, l1, l2, g0, g1, g2⟩ := zero_dy (w := (w.alloc (.cells #[.bool s, .slice a len cap, .int .i64 e] 25)).alloc (.cells #[.bool false, .slice none 0 0, .int .i64 0] 25)) (r := w.heap.size + 1 + 1) (W' := w5.alloc (.cells #[.bool v.1, .slice a5 n5 c5, .int .i64 v.2.2] 25)) bz (by simp)
 clear bz bw0
 go_wp2_with fail
 refine bodyPost_ret (v := .tuple #[dyV false none 0 0 0, dyV false none 0 0 0, .int .i64 3]) (by simp [results, Tryz.results156, go_sem, m0, m1, m2, l0, l1, l2]) rfl ⟨_, _, rfl, dyAt_zero _ _, dyAt_zero _ _, ?_⟩
 exact (((((bw.setCell (le1 _) _).setCell (le1 _) _).setCell (le1 _) _).setCell (le2 _) _).setCell (le2 _) _).setCell (le2 _) _
theorem pfloor_yes (s : Bool) (a : Option Addr) (len cap : Nat) (xs : List Int) (e : Int) (w : World) (h : IsW w a len cap xs) (hm : len ≤ 17592186044416) (hT : Tab w) (hr : rightB (val xs) e = true) (hu0 : rightB (wholeD (formD s (val xs) e)).2.1 (wholeD (formD s (val xs) e)).2.2 = true) (hv0 : rightB (restD (formD s (val xs) e)).2.1 (restD (formD s (val xs) e)).2.2 = true) :
  Calls Tryz.prog 156 #[dyV s a len cap e] w fun r w' => ∃ v1 v2, r = .returned (.tuple #[v1, v2, .int .i64 (0)]) ∧ DyAt w.heap.size w' v1 (wholeD (formD s (val xs) e)) ∧ DyAt w.heap.size w' v2 (restD (formD s (val xs) e)) ∧ Below w.heap.size w w' := by
 have hmf : ∀ (fn : Fn) (first cap : Array Value) (w : World), (Instr.makeFunc fn first cap).run Tryz.prog w = .ok (.func fn first cap) w := fun _ _ _ _ => rfl
 have bw0 : Below w.heap.size w (((w.alloc (.cells #[.bool s, .slice a len cap, .int .i64 e] 25)).alloc (.cells #[.bool false, .slice none 0 0, .int .i64 0] 25)).alloc (.cells #[.bool false, .slice none 0 0, .int .i64 0] 25)) := by repeat (first | exact Below.refl _ _ | refine bl_alloc ?_ _)
 have HC : Hid _ := canonical_calls s a len cap xs e _ (h.keep bw0) hm (hT.kept bw0)
 have HRR : Hid _ := fun b W g q0 q1 q2 => right1_calls b s a len cap xs e W g hm q0 q1 q2
 have H1 : Hid (IsW w a len cap xs) := h
 have hu : roomE (wholeD (formD s (val xs) e)) = 0 ∧ roomP (wholeD (formD s (val xs) e)) = wholeD (formD s (val xs) e) := by
  unfold roomE roomP
  rw [show roomB (wholeD (formD s (val xs) e)) = rightB (wholeD (formD s (val xs) e)).2.1 (wholeD (formD s (val xs) e)).2.2 from rfl, hu0]
  exact ⟨rfl, rfl⟩
 clear hu0
 have hv : roomE (restD (formD s (val xs) e)) = 0 ∧ roomP (restD (formD s (val xs) e)) = restD (formD s (val xs) e) := by
  unfold roomE roomP
  rw [show roomB (restD (formD s (val xs) e)) = rightB (restD (formD s (val xs) e)).2.1 (restD (formD s (val xs) e)).2.2 from rfl, hv0]
  exact ⟨rfl, rfl⟩
 clear hv0
 rw [hr] at HRR
 have hcg : canG s (val xs) e = formD s (val xs) e := canG_no (rightB_yes hr).1
 rw [hcg] at HC
 have HEB : Hid _ := right_exp hr
 have HGX : Hid _ := form_fit s (val xs) e hr
 have HBX : Hid _ := form_bounds s (val xs) e hr
 have HLO : Hid _ := form_low s (val xs) e hr
 have HCN : Hid _ := form_can s (val xs) e
 generalize formD s (val xs) e = x at *
 generalize HU : wholeD x = u
 generalize HV : restD x = v
 have HT0 : Hid (∀ W, Below w.heap.size w W → Tab W) := fun W hW => hT.kept hW
 clear hr h hm hcg hT
 go_enter Tryz.func156, Tryz.ntmps156
 go_wp2_with fail
 refine cM HC.out ?_
 rintro r w1 ⟨ao, n, c, ex, rfl, HE, HN, HZ, hn, hO, b1⟩
 have k0 : w1.cell? ⟨w.heap.size, 0, none⟩ = some (.bool s) := kC b1 (by go_simp)
 have k1 : w1.cell? ⟨w.heap.size, 1, none⟩ = some (.slice a len cap) := kC b1 (by go_simp)
 have k2 : w1.cell? ⟨w.heap.size, 2, none⟩ = some (.int .i64 e) := kC b1 (by go_simp)
 obtain rfl := HE.out HEB.out.1 HEB.out.2
 have hX : NumAt 0 w1 (numV x.1 ao n c x.2.2 false) x := ⟨ao, n, c, rfl, HN, HZ, hn, hO.low (Nat.zero_le _)⟩
 clear HE HEB HN HZ hn hO
 have bA := below_one w1 (.cells #[.bool x.1, .slice ao n c, .int .i64 x.2.2, .bool false] 109)
 obtain ⟨o0, o1, o2, o3⟩ := fX11 w1 x ao n c _ rfl
 revert k0 k1 k2; refine cc3 bA ?_; intro k0 k1 k2
 have bz := nT b1 bA
 replace hX := hX.keep' bA
 clear b1 bA HC
 obtain ⟨q0, q1, q2⟩ := fX12 w1 x ao n c s a len cap e _ rfl
 go_wp2_with fail
 generalize w1.alloc (.cells #[.bool x.1, .slice ao n c, .int .i64 x.2.2, .bool false] 109) = w2 at *
 have HQ : Hid (roomE (wholeD x) = 0 ∧ roomP (wholeD x) = u) := ⟨hu.1, hu.2.trans HU⟩
 clear HU
 have HQ2 : Hid (roomE (restD x) = 0 ∧ roomP (restD x) = v) := ⟨hv.1, hv.2.trans HV⟩
 clear HV
 clear hv
 clear hu
 have bB := below_one w2 (.cells #[.bool s, .slice a len cap, .int .i64 e] 25)
 have bzB := nT bz bB
 refine cM (made_whole x.1 ao n c x.2.2 false 0 (wholeD x) _ _ (fun W hW => HRR.out (w1.heap.size + 1) W (H1.out.keep (nT bw0 (nT bzB hW))) (kC hW q0) (kC hW q1) (kC hW q2)) (fun W hW => whole_calls 0 _ x W (Nat.zero_le _) (hX.keep' (nT bB hW)) HGX.out (by have := HLO.out; omega) (HT0.out _ (nT bw0 (nT bzB hW))))) ?_
 rintro r w3 ⟨_, rfl, ⟨a3, n3, c3, rfl, HN3, hn3, hO3⟩, b3⟩
 have b23 := nT bB b3
 rw [HQ.out.1]
 rw [HQ.out.2] at HN3 hO3 ⊢
 clear HQ
 have bC := below_one w3 (.cells #[.bool u.1, .slice a3 n3 c3, .int .i64 u.2.2] 25)
 obtain ⟨d0, d1, d2⟩ := fX13 w3 u a3 n3 c3 _ rfl
 have hO3' := (hO3.keep bC).low (Nat.le_trans bz.size bB.size)
 have b24 := nT b23 bC
 have sz3 : (((w.alloc (.cells #[.bool s, .slice a len cap, .int .i64 e] 25)).alloc (.cells #[.bool false, .slice none 0 0, .int .i64 0] 25)).alloc (.cells #[.bool false, .slice none 0 0, .int .i64 0] 25)).heap.size ≤ w3.heap.size := Nat.le_trans bz.size b23.size
 replace bz := nT bz b24
 revert o0 o1 o2 o3 k0 k1; refine cc6 b24 ?_; intro o0 o1 o2 o3 k0 k1
 replace k2 := kC b24 k2
 replace hX := hX.keep' b24
 clear b3 b23 b24 bB bzB bC hO3 q0 q1 q2
 obtain ⟨q0, q1, q2⟩ := fX14 w3 u a3 n3 c3 s a len cap e _ rfl
 go_wp2_with fail
 generalize w3.alloc (.cells #[.bool u.1, .slice a3 n3 c3, .int .i64 u.2.2] 25) = w4 at *
 have bB := below_one w4 (.cells #[.bool s, .slice a len cap, .int .i64 e] 25)
 have bzB := nT bz bB
 refine cM (made_rest x.1 ao n c x.2.2 false 0 (restD x) _ _ (fun W hW => HRR.out (w3.heap.size + 1) W (H1.out.keep (nT bw0 (nT bzB hW))) (kC hW q0) (kC hW q1) (kC hW q2)) (fun W hW => rest_calls x.1 ao n c x.2.2 x W (hX.keep' (nT bB hW)) HGX.out HCN.out ⟨by have := HLO.out; omega, HBX.out.2⟩ (HT0.out _ (nT bw0 (nT bzB hW))))) ?_
 rintro r w5 ⟨_, rfl, ⟨a5, n5, c5, rfl, HN5, hn5, hO5⟩, b5⟩
 have b23 := nT bB b5
 rw [HQ2.out.1]
 rw [HQ2.out.2] at HN5 hO5 ⊢
 clear HQ2
 have bC := below_one w5 (.cells #[.bool v.1, .slice a5 n5 c5, .int .i64 v.2.2] 25)
 obtain ⟨e0, e1, e2⟩ := fX13 w5 v a5 n5 c5 _ rfl
 have hO5' := (hO5.keep bC).low (Nat.le_trans bz.size bB.size)
 have b46 := nT b23 bC
 replace hO3' := hO3'.keep b46
 have sz5 : (((w.alloc (.cells #[.bool s, .slice a len cap, .int .i64 e] 25)).alloc (.cells #[.bool false, .slice none 0 0, .int .i64 0] 25)).alloc (.cells #[.bool false, .slice none 0 0, .int .i64 0] 25)).heap.size ≤ w5.heap.size := Nat.le_trans bz.size b23.size
 replace bz := nT bz b46
 revert d0 d1 d2; refine cc3 b46 ?_; intro d0 d1 d2
 clear b5 b23 b46 bB bzB bC hO5 o0 o1 o2 o3 k0 k1 k2 hX HRR H1 q0 q1 q2
 have bw := nT bw0 bz
 obtain ⟨m0, m1, m2, f0, f1, f2⟩ := zero_dy (w := w.alloc (.cells #[.bool s, .slice a len cap, .int .i64 e] 25)) (r := w.heap.size + 1) (W' := w5.alloc (.cells #[.bool v.1, .slice a5 n5 c5, .int .i64 v.2.2] 25)) (nT (below_one _ _) bz) (by simp)
 obtain ⟨l0, l1, l2, g0, g1, g2⟩ := zero_dy (w := (w.alloc (.cells #[.bool s, .slice a len cap, .int .i64 e] 25)).alloc (.cells #[.bool false, .slice none 0 0, .int .i64 0] 25)) (r := w.heap.size + 1 + 1) (W' := w5.alloc (.cells #[.bool v.1, .slice a5 n5 c5, .int .i64 v.2.2] 25)) bz (by simp)
 clear bz bw0
 have HS0 : Hid ((((w.alloc (.cells #[.bool s, .slice a len cap, .int .i64 e] 25)).alloc (.cells #[.bool false, .slice none 0 0, .int .i64 0] 25)).alloc (.cells #[.bool false, .slice none 0 0, .int .i64 0] 25)).heap.size = w.heap.size + 1 + 1 + 1) := by simp [Hid]
 have nd1 : w3.heap.size ≠ w.heap.size + 1 := by have := HS0.out; omega
 have nd2 : w3.heap.size ≠ w.heap.size + 1 + 1 := by have := HS0.out; omega
 have ne1 : w5.heap.size ≠ w.heap.size + 1 := by have := HS0.out; omega
 have ne2 : w5.heap.size ≠ w.heap.size + 1 + 1 := by have := HS0.out; omega
 have nx : w.heap.size + 1 + 1 ≠ w.heap.size + 1 := by omega
 clear sz3 sz5
 go_upto_region 8 with fail
 generalize w5.alloc (.cells #[.bool v.1, .slice a5 n5 c5, .int .i64 v.2.2] 25) = wz at *
 have bd : Below wz.heap.size wz wz.drew := (Below.refl _ _).drew
 refine wp_region_held (S := fun w' => w'.cell? ⟨w3.heap.size, 0, none⟩ = some (.bool u.1) ∧ w'.cell? ⟨w3.heap.size, 1, none⟩ = some (.slice a3 n3 c3) ∧ w'.cell? ⟨w3.heap.size, 2, none⟩ = some (.int .i64 u.2.2) ∧ w'.cell? ⟨w5.heap.size, 0, none⟩ = some (.bool v.1) ∧ w'.cell? ⟨w5.heap.size, 1, none⟩ = some (.slice a5 n5 c5) ∧ w'.cell? ⟨w5.heap.size, 2, none⟩ = some (.int .i64 v.2.2)) (by kernel_rfl) ?_
 change wpAnyH _ _ _ _ _ _ _ _ (World.drew wz)
 revert m0 m1 m2 f0 f1 f2; refine zg3 bd ?_; intro m0 m1 m2 f0 f1 f2
 revert l0 l1 l2 g0 g1 g2; refine zg3 bd ?_; intro l0 l1 l2 g0 g1 g2
 revert e0 e1 e2 d0 d1 d2; refine cc6 bd ?_; intro e0 e1 e2 d0 d1 d2
 replace hO3' := hO3'.keep bd
 replace hO5' := hO5'.keep bd
 replace bw := nT bw bd
 clear bd
 generalize World.drew wz = wd at *
 refine tk 0 (.agg #[.bool u.1, .slice a3 n3 c3, .int .i64 u.2.2]) rfl (by kernel_rfl) (fun _ _ _ h => h) (by rfl) ?y0 ⟨d0, d1, d2, e0, e1, e2⟩ ?r0
 case y0 => (rintro ww ⟨q0, q1, q2, q3, q4, q5⟩; go_simp)
 try simp only [Act.put]
 refine tk 1 (.agg #[.bool v.1, .slice a5 n5 c5, .int .i64 v.2.2]) rfl (by kernel_rfl) (fun _ _ _ h => h) (by rfl) ?y1 ⟨d0, d1, d2, e0, e1, e2⟩ ?r1
 case y1 => (rintro ww ⟨q0, q1, q2, q3, q4, q5⟩; go_simp)
 try simp only [Act.put]
 refine rd1 2 (by kernel_rfl) rfl fun K hK => ?_
 go_simp
 refine hK.out _ _ ⟨set3_cell d0 nd1, set3_cell d1 nd1, set3_cell d2 nd1, set3_cell e0 ne1, set3_cell e1 ne1, set3_cell e2 ne1⟩ (fun _ => ?_)
 clear hK K
 try simp only [Act.put, sA, sZ, sS]
 refine rd1 3 (by kernel_rfl) rfl fun K hK => ?_
 go_simp
 refine hK.out _ _ ⟨set3_cell (set3_cell d0 nd1) nd2, set3_cell (set3_cell d1 nd1) nd2, set3_cell (set3_cell d2 nd1) nd2, set3_cell (set3_cell e0 ne1) ne2, set3_cell (set3_cell e1 ne1) ne2, set3_cell (set3_cell e2 ne1) ne2⟩ (fun _ => ?_)
 clear hK K
 try simp only [Act.put, sA, sZ, sS]
 refine rd1 4 (by kernel_rfl) rfl fun K hK => ?_
 go_simp
 refine hK.out _ _ ⟨set3_cell (set3_cell d0 nd1) nd2, set3_cell (set3_cell d1 nd1) nd2, set3_cell (set3_cell d2 nd1) nd2, set3_cell (set3_cell e0 ne1) ne2, set3_cell (set3_cell e1 ne1) ne2, set3_cell (set3_cell e2 ne1) ne2⟩ (fun _ => ?_)
 clear hK K
 try simp only [Act.put, sA, sZ, sS]
 refine wpAnyH_done (by kernel_rfl) ?_ _
 go_wp2_with fail
 refine bodyPost_ret (v := .tuple #[dyV u.1 a3 n3 c3 u.2.2, dyV v.1 a5 n5 c5 v.2.2, .int .i64 0]) (by simp [results, Tryz.results156, go_sem, m0, m1, m2, l0, l1, l2]) rfl ⟨_, _, rfl, ⟨a3, n3, c3, rfl, HN3, hn3, (((((((hO3'.far _ _ (by show w.heap.size + 1 < _; rw [HS0.out]; omega)).far _ _ (by show w.heap.size + 1 < _; rw [HS0.out]; omega)).far _ _ (by show w.heap.size + 1 < _; rw [HS0.out]; omega)).far _ _ (by show w.heap.size + 1 + 1 < _; rw [HS0.out]; omega)).far _ _ (by show w.heap.size + 1 + 1 < _; rw [HS0.out]; omega)).far _ _ (by show w.heap.size + 1 + 1 < _; rw [HS0.out]; omega)).low (by rw [HS0.out]; omega))⟩, ⟨a5, n5, c5, rfl, HN5, hn5, (((((((hO5'.far _ _ (by show w.heap.size + 1 < _; rw [HS0.out]; omega)).far _ _ (by show w.heap.size + 1 < _; rw [HS0.out]; omega)).far _ _ (by show w.heap.size + 1 < _; rw [HS0.out]; omega)).far _ _ (by show w.heap.size + 1 + 1 < _; rw [HS0.out]; omega)).far _ _ (by show w.heap.size + 1 + 1 < _; rw [HS0.out]; omega)).far _ _ (by show w.heap.size + 1 + 1 < _; rw [HS0.out]; omega)).low (by rw [HS0.out]; omega))⟩, (((((bw.setCell (le1 _) _).setCell (le1 _) _).setCell (le1 _) _).setCell (le2 _) _).setCell (le2 _) _).setCell (le2 _) _⟩
theorem pFloor_calls (s : Bool) (a : Option Addr) (len cap : Nat) (xs : List Int) (e : Int) (w : World) (h : IsW w a len cap xs) (hm : len ≤ 17592186044416) (hT : Tab w) :
  Calls Tryz.prog 156 #[dyV s a len cap e] w fun r w' => ∃ v1 v2, r = .returned (.tuple #[v1, v2, .int .i64 (flE s (val xs) e)]) ∧ DyAt w.heap.size w' v1 (flW s (val xs) e) ∧ DyAt w.heap.size w' v2 (flR s (val xs) e) ∧ Below w.heap.size w w' := by
 cases hr : rightB (val xs) e with
 | false =>
  obtain ⟨e1, e2, e3⟩ := fl_right (s := s) hr
  rw [e1, e2, e3]
  exact pfloor_not s a len cap xs e w h hm hT hr
 | true =>
  cases h1 : rightB (wholeD (formD s (val xs) e)).2.1 (wholeD (formD s (val xs) e)).2.2 with
  | false =>
   obtain ⟨e1, e2, e3⟩ := fl_no (s := s) hr (by unfold flP; rw [h1]; rfl)
   rw [e1, e2, e3]
   exact pfloor_no1 s a len cap xs e w h hm hT hr h1
  | true =>
   cases h2 : rightB (restD (formD s (val xs) e)).2.1 (restD (formD s (val xs) e)).2.2 with
   | false =>
    obtain ⟨e1, e2, e3⟩ := fl_no (s := s) hr (by unfold flP; rw [h1, h2]; rfl)
    rw [e1, e2, e3]
    exact pfloor_no2 s a len cap xs e w h hm hT hr h1 h2
   | true =>
    obtain ⟨e1, e2, e3⟩ := fl_yes (s := s) hr (by unfold flP; rw [h1, h2]; rfl)
    rw [e1, e2, e3]
    exact pfloor_yes s a len cap xs e w h hm hT hr h1 h2
end Go.Proofs.YtahpdcbmekgkfaaGreatDoor

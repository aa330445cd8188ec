/- Half turns: fixed's plain operations, what is rounded down, and by four. -/
import Derived.Test.YtiijfnaaekmpbaaGreatDoorCR
import Derived.Test.YtiijfnaaekmpbaaGreatDoorEC7
import Derived.Test.YtiijfnaaekmpbaaGreatDoorTMB
namespace Go.Proofs.YtiijfnaaekmpbaaGreatDoor
open Go.RowKit
set_option maxHeartbeats 4000000
set_option maxRecDepth 100000
theorem fxPlus (a : Option Addr) (n c : Nat) (xs : List Int) (b : Option Addr) (m d : Nat) (ys : List Int) (w : World) (h : IsW w a n c xs) (h' : IsW w b m d ys) (hm : n ≤ 17592186044416) (hm' : m ≤ 17592186044416) {r : Nat} (hr : addR (val xs) (val ys) = (r, 0)) :
  Calls Tryz.prog 161 #[.slice a n c, .slice b m d] w fun e w' => ∃ (ao : Option Addr) (n c : Nat), e = .returned (.slice ao n c) ∧ Hid (n = (wO r).length) ∧ n ≤ 1024 ∧ OwnW w.heap.size w' ao n c (wO r) ∧ Below w.heap.size w w' := by
 have H : Hid _ := add_eq h h' hm hm' hr
 clear h h' hm hm' hr
 go_enter Tryz.func161, Tryz.ntmps161
 go_wp2_with fail
 refine cM H.out ?_
 rintro e w1 ⟨ao, n1, c1, rfl, HN, hn, hO, b⟩
 go_wp2_with fail
 go_ret
 exact ⟨ao, n1, c1, rfl, HN, hn, hO, b⟩
theorem fxLess (a : Option Addr) (n c : Nat) (xs : List Int) (b : Option Addr) (m d : Nat) (ys : List Int) (w : World) (h : IsW w a n c xs) (h' : IsW w b m d ys) (hm : n ≤ 17592186044416) (hm' : m ≤ 17592186044416) {r : Nat} (hr : subR (val xs) (val ys) = (r, 0)) :
  Calls Tryz.prog 159 #[.slice a n c, .slice b m d] w fun e w' => ∃ (ao : Option Addr) (n c : Nat), e = .returned (.slice ao n c) ∧ Hid (n = (wO r).length) ∧ n ≤ 1024 ∧ OwnW w.heap.size w' ao n c (wO r) ∧ Below w.heap.size w w' := by
 have H : Hid _ := sub_eq h h' hm hm' hr
 clear h h' hm hm' hr
 go_enter Tryz.func159, Tryz.ntmps159
 go_wp2_with fail
 refine cM H.out ?_
 rintro e w1 ⟨ao, n1, c1, rfl, HN, hn, hO, b⟩
 go_wp2_with fail
 go_ret
 exact ⟨ao, n1, c1, rfl, HN, hn, hO, b⟩
theorem fxShl (a : Option Addr) (n c : Nat) (xs : List Int) (i : Int) (w : World) (h : IsW w a n c xs) (hm : n ≤ 17592186044416) (hi : 0 ≤ i) {r : Nat} (hr : shlR (val xs) i = (r, 0)) :
  Calls Tryz.prog 160 #[.slice a n c, .int .i64 i] w fun e w' => ∃ (ao : Option Addr) (n c : Nat), e = .returned (.slice ao n c) ∧ Hid (n = (wO r).length) ∧ n ≤ 1024 ∧ OwnW w.heap.size w' ao n c (wO r) ∧ Below w.heap.size w w' := by
 have H : Hid _ := shl_eq h hm hr
 clear h hm hr
 go_enter Tryz.func160, Tryz.ntmps160
 go_wp2_with fail
 refine cM H.out ?_
 rintro e w1 ⟨ao, n1, c1, rfl, HN, hn, hO, b⟩
 go_wp2_with fail
 go_ret
 exact ⟨ao, n1, c1, rfl, HN, hn, hO, b⟩
theorem fxShr (a : Option Addr) (n c : Nat) (xs : List Int) (k : Nat) (w : World) (h : IsW w a n c xs) (hm : n ≤ 17592186044416) (hk : 1 ≤ k) (hk2 : k ≤ 1000000) (hg : greatB (val xs) = false) {r : Nat} (hr : val xs / 2 ^ k = r) :
  Calls Tryz.prog 160 #[.slice a n c, .int .i64 (-(k : Int))] w fun e w' => ∃ (ao : Option Addr) (n c : Nat), e = .returned (.slice ao n c) ∧ Hid (n = (wO r).length) ∧ n ≤ 1024 ∧ OwnW w.heap.size w' ao n c (wO r) ∧ Below w.heap.size w w' := by
 have H : Hid _ := shr_eq (i := (k : Int)) (l := lostB (val xs) k) (k := 0) h hm (by omega) (r := r) (by unfold shrQ; rw [hg, if_neg (by decide), if_neg (by omega), Int.toNat_natCast, hr]) (by unfold shrL; rw [hg, if_neg (by decide), if_neg (by omega), Int.toNat_natCast]) (by unfold shrE; rw [hg, if_neg (by decide), if_neg (by omega)])
 have hw : IntKind.i64.wrap (- -(k : Int)) = (k : Int) := by rw [IntKind.wrap_i64]; omega
 have hlt : -(k : Int) < 0 := by omega
 generalize lostB (val xs) k = L at *
 clear h hm hr hg
 go_enter Tryz.func160, Tryz.ntmps160
 go_wp2_with fail
 refine cM H.out ?_
 rintro e w1 ⟨ao, n1, c1, rfl, HN, hn, hO, b⟩
 go_wp2_with fail
 go_ret
 exact ⟨ao, n1, c1, rfl, HN, hn, hO, b⟩
theorem fxOne (k : Nat) (w : World) (hk : k ≤ 65535) {r : Nat} (hr : 2 ^ k = r) :
  Calls Tryz.prog 162 #[.int .i64 (k : Int)] w fun e w' => ∃ (ao : Option Addr) (n c : Nat), e = .returned (.slice ao n c) ∧ Hid (n = (wO r).length) ∧ n ≤ 1024 ∧ OwnW w.heap.size w' ao n c (wO r) ∧ Below w.heap.size w w' := by
 have OC : Hid _ := of_eq 1 w (by decide)
 have SC : Hid _ := fun (W : World) (a : Option Addr) (n c : Nat) (g : IsW W a n c (wO 1)) (hn : n ≤ 1024) => fxShl a n c (wO 1) (k : Int) W g (by omega) (by omega) (r := r) (by
  rw [val_words]; unfold shlR
  rw [if_neg (by rw [show greatB 1 = false from by decide +kernel]; decide), if_neg (by omega), if_neg (by decide), if_neg (by rw [show blen 1 = 1 from by decide]; omega), Int.toNat_natCast, Nat.one_mul, hr])
 clear hr
 go_enter Tryz.func162, Tryz.ntmps162
 go_wp2_with fail
 refine cM OC.out ?_
 rintro e w1 ⟨ao, n1, c1, rfl, HN, hn, hO, b⟩
 go_wp2_with fail
 refine cM (SC.out _ _ _ _ hO.1 hn) ?_
 rintro e w2 ⟨a2, n2, c2, rfl, HN2, hn2, hO2, b2⟩
 go_wp2_with fail
 go_ret
 exact ⟨a2, n2, c2, rfl, HN2, hn2, hO2.low b.size, nT b b2⟩
def btR (m : Nat) (i : Int) : Bool := if i < 0 then false else m.testBit i.toNat
theorem bitE (a : Option Addr) (n c : Nat) (m : Nat) (i : Int) (w : World) (h : IsW w a n c (wO m)) (hm : n ≤ 1024) (hg : greatB m = false) (hi : i ≤ 9223372036854775807) :
  Calls Tryz.prog 163 #[.slice a n c, .int .i64 i] w fun e w' => ∃ k : Int, e = .returned (.tuple #[.bool (btR m i), .int .i64 k]) ∧ Below w.heap.size w w' := by
 refine cM (bit_calls a n c (wO m) i w h (by omega) hi) ?_
 rintro e w1 ⟨_, h2, h3, b⟩
 rw [val_words] at h2 h3
 unfold btR
 by_cases q : i < 0
 ·rw [if_pos q]; exact ⟨2, h2 hg q, b⟩
 ·rw [if_neg q]; exact ⟨0, h3 hg (by omega), b⟩
theorem rDown_calls (a : Option Addr) (n c m k : Nat) (w : World) (h : IsW w a n c (wO m)) (hn : n ≤ 1024) (hg : greatB m = false) (hk : 1 ≤ k) (hk2 : k ≤ 1000000) {r : Nat} (hr : m / 2 ^ k = r) {u : Bool} (hu : up2 m (k : Int) = u) :
  Calls Tryz.prog 158 #[.slice a n c, .int .i64 (k : Int)] w fun e w' => ∃ (ao : Option Addr) (n c : Nat), e = .returned (.tuple #[.slice ao n c, .bool u]) ∧ Hid (n = (wO r).length) ∧ n ≤ 1024 ∧ OwnW w.heap.size w' ao n c (wO r) ∧ Below w.heap.size w w' := by
 have hgr : greatB r = false := great_mono (by rw [← hr]; exact Nat.div_le_self _ _) hg
 have S1 : Hid _ := fxShr a n c (wO m) k w h (by omega) hk hk2 (by rw [val_words]; exact hg) (r := r) (by rw [val_words]; exact hr)
 have B1 : Hid _ := fun W (b : Below w.heap.size w W) => bitE a n c m ((k : Int) - 1) W (h.keep b) hn hg (by omega)
 have R1 : Hid _ := fun W (b : Below w.heap.size w W) => shr_eq (i := (k : Int) - 1) (r := m / 2 ^ (k - 1)) (l := lostB m (k - 1)) (k := 0) (h.keep b) (by omega) (by omega) (by rw [val_words]; unfold shrQ; rw [hg, if_neg (by decide), if_neg (by omega), show ((k : Int) - 1).toNat = k - 1 by omega]) (by rw [val_words]; unfold shrL; rw [hg, if_neg (by decide), if_neg (by omega), show ((k : Int) - 1).toNat = k - 1 by omega]) (by rw [val_words]; unfold shrE; rw [hg, if_neg (by decide), if_neg (by omega)])
 have B2 : Hid _ := fun (W : World) (a1 : Option Addr) (n1 c1 : Nat) (g : IsW W a1 n1 c1 (wO r)) (hn1 : n1 ≤ 1024) => bitE a1 n1 c1 r 0 W g hn1 hgr (by omega)
 have HU : Hid (u = (btR m ((k : Int) - 1) && (lostB m (k - 1) || btR r 0))) := by
  rw [← hu]
  unfold up2 half2 over2 fl2 btR
  rw [if_neg (by omega), if_neg (by omega), if_neg (by omega), if_neg (by omega), if_neg (by decide), Int.toNat_natCast, show ((k : Int) - 1).toNat = k - 1 by omega, hr, bit_div r, show (0 : Int).toNat = 0 from rfl, Nat.pow_zero, Nat.div_one]
  exact rfl
 have hw1 : IntKind.i64.wrap (-(k : Int)) = -(k : Int) := by rw [IntKind.wrap_i64]; omega
 have hw2 : IntKind.i64.wrap ((k : Int) - 1) = (k : Int) - 1 := by rw [IntKind.wrap_i64]; omega
 generalize lostB m (k - 1) = L at *
 generalize btR m ((k : Int) - 1) = H1 at *
 generalize btR r 0 = H2 at *
 clear h hn hg hgr hr hu
 have bA : Below w.heap.size w w := Below.refl _ _
 go_enter Tryz.func158, Tryz.ntmps158
 go_wp2_with fail
 refine cM S1.out ?_
 rintro e w1 ⟨a1, n1, c1, rfl, HN1, hn1, hO1, b1⟩
 replace bA := nT bA b1
 clear S1 b1
 go_wp2_with fail
 refine cM (B1.out _ bA) ?_
 rintro e w2 ⟨k2, rfl, b1⟩
 replace bA := nT bA b1
 replace hO1 := hO1.keep b1
 clear B1 b1
 go_wp2_with fail
 refine cM (R1.out _ bA) ?_
 rintro e w3 ⟨a3, n3, c3, rfl, HN3, hn3, hO3, b1⟩
 replace bA := nT bA b1
 replace hO1 := hO1.keep b1
 clear R1 b1 hO3 HN3 hn3
 go_wp2_with fail
 refine cM (B2.out _ _ _ _ hO1.1 hn1) ?_
 rintro e w4 ⟨k4, rfl, b1⟩
 replace bA := nT bA b1
 replace hO1 := hO1.keep b1
 clear B2 b1
 cases H1 <;> cases L <;> cases H2
 all_goals
  go_wp2_with fail
  go_ret2
  exact ⟨a1, n1, c1, by rw [HU.out]; rfl, HN1, hn1, hO1, bA⟩
def b4I (s b0 b1 : Bool) : Int := if s = true then (4 - ((b0.toNat + 2 * b1.toNat : Nat) : Int)) % 4 else ((b0.toNat + 2 * b1.toNat : Nat) : Int)
theorem set1_cell {W : World} {b o r k : Nat} {v x : Value} (h : W.cell? ⟨b, o, none⟩ = some x) (hne : b ≠ r ∨ o ≠ k) : (W.setCell ⟨r, k, none⟩ v).cell? ⟨b, o, none⟩ = some x :=
 (World.cell?_setCell_other W _ _ _ (fun e => by have h1 := congrArg Addr.block e; have h2 := congrArg Addr.off e; simp at h1 h2; omega)).trans h
theorem set1_same {W : World} {r k : Nat} {v x : Value} (h : W.cell? ⟨r, k, none⟩ = some x) : (W.setCell ⟨r, k, none⟩ v).cell? ⟨r, k, none⟩ = some v := by
 simp [go_sem, h]
theorem set1_frozen {W : World} {p q : Addr} {v : Value} (h : W.frozen? p = false) : (W.setCell q v).frozen? p = false := (World.frozen?_setCell W _ _ _).trans h
theorem byFour_calls (s : Bool) (m : Nat) (e : Int) (a : Option Addr) (n c : Nat) (w : World) (h : IsW w a n c (wO m)) (hn : n ≤ 1024) (hg : greatB m = false) (he : -100000 ≤ e ∧ e ≤ 100000) :
  Calls Tryz.prog 141 #[dyV s a n c e] w fun r w' => r = .returned (.int .i64 (b4I s (btR m (0 - e)) (btR m (1 - e)))) ∧ Below w.heap.size w w' := by
 have B0 : Hid _ := fun W (b : Below w.heap.size w W) => bitE a n c m (0 - e) W (h.keep b) hn hg (by omega)
 have B1 : Hid _ := fun W (b : Below w.heap.size w W) => bitE a n c m (1 - e) W (h.keep b) hn hg (by omega)
 generalize btR m (0 - e) = H0 at *
 generalize btR m (1 - e) = H1 at *
 obtain ⟨i0, hi0⟩ : ∃ i0, i0 = 0 - e := ⟨_, rfl⟩
 obtain ⟨i1, hi1⟩ : ∃ i1, i1 = 1 - e := ⟨_, rfl⟩
 have hw0 : IntKind.i64.wrap (0 - e) = i0 := by rw [hi0, IntKind.wrap_i64]; omega
 have hw0' : IntKind.i64.wrap (-e) = i0 := by rw [hi0, IntKind.wrap_i64]; omega
 have hw1 : IntKind.i64.wrap (1 - e) = i1 := by rw [hi1, IntKind.wrap_i64]; omega
 rw [← hi0] at B0
 rw [← hi1] at B1
 clear h hn hg he hi0 hi1
 have bA : Below w.heap.size w ((w.alloc (.cells #[.bool s, .slice a n c, .int .i64 e] 27)).alloc (.cells #[.int .i64 0, .int .i64 0] 155)) := nT (below_one _ _) (below_one _ _)
 have x0 : ((w.alloc (.cells #[.bool s, .slice a n c, .int .i64 e] 27)).alloc (.cells #[.int .i64 0, .int .i64 0] 155)).cell? ⟨w.heap.size, 0, none⟩ = some (.bool s) := by go_simp
 have x1 : ((w.alloc (.cells #[.bool s, .slice a n c, .int .i64 e] 27)).alloc (.cells #[.int .i64 0, .int .i64 0] 155)).cell? ⟨w.heap.size, 1, none⟩ = some (.slice a n c) := by go_simp
 have x2 : ((w.alloc (.cells #[.bool s, .slice a n c, .int .i64 e] 27)).alloc (.cells #[.int .i64 0, .int .i64 0] 155)).cell? ⟨w.heap.size, 2, none⟩ = some (.int .i64 e) := by go_simp
 have d0 : ((w.alloc (.cells #[.bool s, .slice a n c, .int .i64 e] 27)).alloc (.cells #[.int .i64 0, .int .i64 0] 155)).cell? ⟨w.heap.size + 1, 0, none⟩ = some (.int .i64 0) := by go_simp
 have f0 : ((w.alloc (.cells #[.bool s, .slice a n c, .int .i64 e] 27)).alloc (.cells #[.int .i64 0, .int .i64 0] 155)).frozen? ⟨w.heap.size + 1, 0, none⟩ = false := by go_simp
 have d1 : ((w.alloc (.cells #[.bool s, .slice a n c, .int .i64 e] 27)).alloc (.cells #[.int .i64 0, .int .i64 0] 155)).cell? ⟨w.heap.size + 1, 1, none⟩ = some (.int .i64 0) := by go_simp
 have f1 : ((w.alloc (.cells #[.bool s, .slice a n c, .int .i64 e] 27)).alloc (.cells #[.int .i64 0, .int .i64 0] 155)).frozen? ⟨w.heap.size + 1, 1, none⟩ = false := by go_simp
 cases H0 <;> cases H1 <;> cases s
 ·
  go_enter Tryz.func141, Tryz.ntmps141
  go_wp2_with fail
  generalize ((w.alloc (.cells #[.bool false, .slice a n c, .int .i64 e] 27)).alloc (.cells #[.int .i64 0, .int .i64 0] 155)) = w0 at *
  refine wp_loop_rounds 3 ?_
  rw [rounds_succ]
  go_wp2_with fail
  refine cM (B0.out _ bA) ?_
  rintro q w1 ⟨k0, rfl, b1⟩
  obtain ⟨bA, d0, f0, d1, f1, x0, x1, x2⟩ := jkAF2C3 b1 bA d0 f0 d1 f1 x0 x1 x2
  clear b1 B0
  go_wp2_with fail
  rw [rounds_succ]
  go_wp2_with fail
  refine cM (B1.out _ bA) ?_
  rintro q w2 ⟨k1, rfl, b1⟩
  obtain ⟨bA, d0, f0, d1, f1, x0, x1, x2⟩ := jkAF2C3 b1 bA d0 f0 d1 f1 x0 x1 x2
  clear b1 B1
  go_wp2_with fail
  rw [rounds_succ]
  go_wp2_with fail
  go_ret
  exact ⟨rfl, bA⟩
 ·
  go_enter Tryz.func141, Tryz.ntmps141
  go_wp2_with fail
  generalize ((w.alloc (.cells #[.bool true, .slice a n c, .int .i64 e] 27)).alloc (.cells #[.int .i64 0, .int .i64 0] 155)) = w0 at *
  refine wp_loop_rounds 3 ?_
  rw [rounds_succ]
  go_wp2_with fail
  refine cM (B0.out _ bA) ?_
  rintro q w1 ⟨k0, rfl, b1⟩
  obtain ⟨bA, d0, f0, d1, f1, x0, x1, x2⟩ := jkAF2C3 b1 bA d0 f0 d1 f1 x0 x1 x2
  clear b1 B0
  go_wp2_with fail
  rw [rounds_succ]
  go_wp2_with fail
  refine cM (B1.out _ bA) ?_
  rintro q w2 ⟨k1, rfl, b1⟩
  obtain ⟨bA, d0, f0, d1, f1, x0, x1, x2⟩ := jkAF2C3 b1 bA d0 f0 d1 f1 x0 x1 x2
  clear b1 B1
  go_wp2_with fail
  rw [rounds_succ]
  go_wp2_with fail
  go_ret
  exact ⟨rfl, bA⟩
 ·
  go_enter Tryz.func141, Tryz.ntmps141
  go_wp2_with fail
  generalize ((w.alloc (.cells #[.bool false, .slice a n c, .int .i64 e] 27)).alloc (.cells #[.int .i64 0, .int .i64 0] 155)) = w0 at *
  refine wp_loop_rounds 3 ?_
  rw [rounds_succ]
  go_wp2_with fail
  refine cM (B0.out _ bA) ?_
  rintro q w1 ⟨k0, rfl, b1⟩
  obtain ⟨bA, d0, f0, d1, f1, x0, x1, x2⟩ := jkAF2C3 b1 bA d0 f0 d1 f1 x0 x1 x2
  clear b1 B0
  go_wp2_with fail
  rw [rounds_succ]
  go_wp2_with fail
  refine cM (B1.out _ bA) ?_
  rintro q w2 ⟨k1, rfl, b1⟩
  obtain ⟨bA, d0, f0, d1, f1, x0, x1, x2⟩ := jkAF2C3 b1 bA d0 f0 d1 f1 x0 x1 x2
  clear b1 B1
  go_wp2_with fail
  have nx0 := set1_cell (r := w.heap.size + 1) (k := 1) (v := .int .i64 1) x0 (.inl (by omega))
  have nx1 := set1_cell (r := w.heap.size + 1) (k := 1) (v := .int .i64 1) x1 (.inl (by omega))
  have nx2 := set1_cell (r := w.heap.size + 1) (k := 1) (v := .int .i64 1) x2 (.inl (by omega))
  have nd0 := set1_cell (r := w.heap.size + 1) (k := 1) (v := .int .i64 1) d0 (.inr (by decide))
  have nd1 := set1_same (v := .int .i64 1) d1
  have nf0 := set1_frozen (q := ⟨w.heap.size + 1, 1, none⟩) (v := .int .i64 1) f0
  have nf1 := set1_frozen (q := ⟨w.heap.size + 1, 1, none⟩) (v := .int .i64 1) f1
  have nbA := bA.setCell (p := ⟨w.heap.size + 1, 1, none⟩) (by simp) (.int .i64 1)
  clear x0 x1 x2 d0 d1 f0 f1 bA
  generalize (w2.setCell ⟨w.heap.size + 1, 1, none⟩ (.int .i64 1)) = v1 at *
  have x0 := nx0
  have x1 := nx1
  have x2 := nx2
  have d0 := nd0
  have d1 := nd1
  have f0 := nf0
  have f1 := nf1
  have bA := nbA
  clear nx0 nx1 nx2 nd0 nd1 nf0 nf1 nbA
  rw [rounds_succ]
  go_wp2_with fail
  go_ret
  exact ⟨rfl, bA⟩
 ·
  go_enter Tryz.func141, Tryz.ntmps141
  go_wp2_with fail
  generalize ((w.alloc (.cells #[.bool true, .slice a n c, .int .i64 e] 27)).alloc (.cells #[.int .i64 0, .int .i64 0] 155)) = w0 at *
  refine wp_loop_rounds 3 ?_
  rw [rounds_succ]
  go_wp2_with fail
  refine cM (B0.out _ bA) ?_
  rintro q w1 ⟨k0, rfl, b1⟩
  obtain ⟨bA, d0, f0, d1, f1, x0, x1, x2⟩ := jkAF2C3 b1 bA d0 f0 d1 f1 x0 x1 x2
  clear b1 B0
  go_wp2_with fail
  rw [rounds_succ]
  go_wp2_with fail
  refine cM (B1.out _ bA) ?_
  rintro q w2 ⟨k1, rfl, b1⟩
  obtain ⟨bA, d0, f0, d1, f1, x0, x1, x2⟩ := jkAF2C3 b1 bA d0 f0 d1 f1 x0 x1 x2
  clear b1 B1
  go_wp2_with fail
  have nx0 := set1_cell (r := w.heap.size + 1) (k := 1) (v := .int .i64 1) x0 (.inl (by omega))
  have nx1 := set1_cell (r := w.heap.size + 1) (k := 1) (v := .int .i64 1) x1 (.inl (by omega))
  have nx2 := set1_cell (r := w.heap.size + 1) (k := 1) (v := .int .i64 1) x2 (.inl (by omega))
  have nd0 := set1_cell (r := w.heap.size + 1) (k := 1) (v := .int .i64 1) d0 (.inr (by decide))
  have nd1 := set1_same (v := .int .i64 1) d1
  have nf0 := set1_frozen (q := ⟨w.heap.size + 1, 1, none⟩) (v := .int .i64 1) f0
  have nf1 := set1_frozen (q := ⟨w.heap.size + 1, 1, none⟩) (v := .int .i64 1) f1
  have nbA := bA.setCell (p := ⟨w.heap.size + 1, 1, none⟩) (by simp) (.int .i64 1)
  clear x0 x1 x2 d0 d1 f0 f1 bA
  generalize (w2.setCell ⟨w.heap.size + 1, 1, none⟩ (.int .i64 1)) = v1 at *
  have x0 := nx0
  have x1 := nx1
  have x2 := nx2
  have d0 := nd0
  have d1 := nd1
  have f0 := nf0
  have f1 := nf1
  have bA := nbA
  clear nx0 nx1 nx2 nd0 nd1 nf0 nf1 nbA
  rw [rounds_succ]
  go_wp2_with fail
  go_ret
  exact ⟨rfl, bA⟩
 ·
  go_enter Tryz.func141, Tryz.ntmps141
  go_wp2_with fail
  generalize ((w.alloc (.cells #[.bool false, .slice a n c, .int .i64 e] 27)).alloc (.cells #[.int .i64 0, .int .i64 0] 155)) = w0 at *
  refine wp_loop_rounds 3 ?_
  rw [rounds_succ]
  go_wp2_with fail
  refine cM (B0.out _ bA) ?_
  rintro q w1 ⟨k0, rfl, b1⟩
  obtain ⟨bA, d0, f0, d1, f1, x0, x1, x2⟩ := jkAF2C3 b1 bA d0 f0 d1 f1 x0 x1 x2
  clear b1 B0
  go_wp2_with fail
  have nx0 := set1_cell (r := w.heap.size + 1) (k := 0) (v := .int .i64 1) x0 (.inl (by omega))
  have nx1 := set1_cell (r := w.heap.size + 1) (k := 0) (v := .int .i64 1) x1 (.inl (by omega))
  have nx2 := set1_cell (r := w.heap.size + 1) (k := 0) (v := .int .i64 1) x2 (.inl (by omega))
  have nd1 := set1_cell (r := w.heap.size + 1) (k := 0) (v := .int .i64 1) d1 (.inr (by decide))
  have nd0 := set1_same (v := .int .i64 1) d0
  have nf0 := set1_frozen (q := ⟨w.heap.size + 1, 0, none⟩) (v := .int .i64 1) f0
  have nf1 := set1_frozen (q := ⟨w.heap.size + 1, 0, none⟩) (v := .int .i64 1) f1
  have nbA := bA.setCell (p := ⟨w.heap.size + 1, 0, none⟩) (by simp) (.int .i64 1)
  clear x0 x1 x2 d0 d1 f0 f1 bA
  generalize (w1.setCell ⟨w.heap.size + 1, 0, none⟩ (.int .i64 1)) = v0 at *
  have x0 := nx0
  have x1 := nx1
  have x2 := nx2
  have d0 := nd0
  have d1 := nd1
  have f0 := nf0
  have f1 := nf1
  have bA := nbA
  clear nx0 nx1 nx2 nd0 nd1 nf0 nf1 nbA
  rw [rounds_succ]
  go_wp2_with fail
  refine cM (B1.out _ bA) ?_
  rintro q w2 ⟨k1, rfl, b1⟩
  obtain ⟨bA, d0, f0, d1, f1, x0, x1, x2⟩ := jkAF2C3 b1 bA d0 f0 d1 f1 x0 x1 x2
  clear b1 B1
  go_wp2_with fail
  rw [rounds_succ]
  go_wp2_with fail
  go_ret
  exact ⟨rfl, bA⟩
 ·
  go_enter Tryz.func141, Tryz.ntmps141
  go_wp2_with fail
  generalize ((w.alloc (.cells #[.bool true, .slice a n c, .int .i64 e] 27)).alloc (.cells #[.int .i64 0, .int .i64 0] 155)) = w0 at *
  refine wp_loop_rounds 3 ?_
  rw [rounds_succ]
  go_wp2_with fail
  refine cM (B0.out _ bA) ?_
  rintro q w1 ⟨k0, rfl, b1⟩
  obtain ⟨bA, d0, f0, d1, f1, x0, x1, x2⟩ := jkAF2C3 b1 bA d0 f0 d1 f1 x0 x1 x2
  clear b1 B0
  go_wp2_with fail
  have nx0 := set1_cell (r := w.heap.size + 1) (k := 0) (v := .int .i64 1) x0 (.inl (by omega))
  have nx1 := set1_cell (r := w.heap.size + 1) (k := 0) (v := .int .i64 1) x1 (.inl (by omega))
  have nx2 := set1_cell (r := w.heap.size + 1) (k := 0) (v := .int .i64 1) x2 (.inl (by omega))
  have nd1 := set1_cell (r := w.heap.size + 1) (k := 0) (v := .int .i64 1) d1 (.inr (by decide))
  have nd0 := set1_same (v := .int .i64 1) d0
  have nf0 := set1_frozen (q := ⟨w.heap.size + 1, 0, none⟩) (v := .int .i64 1) f0
  have nf1 := set1_frozen (q := ⟨w.heap.size + 1, 0, none⟩) (v := .int .i64 1) f1
  have nbA := bA.setCell (p := ⟨w.heap.size + 1, 0, none⟩) (by simp) (.int .i64 1)
  clear x0 x1 x2 d0 d1 f0 f1 bA
  generalize (w1.setCell ⟨w.heap.size + 1, 0, none⟩ (.int .i64 1)) = v0 at *
  have x0 := nx0
  have x1 := nx1
  have x2 := nx2
  have d0 := nd0
  have d1 := nd1
  have f0 := nf0
  have f1 := nf1
  have bA := nbA
  clear nx0 nx1 nx2 nd0 nd1 nf0 nf1 nbA
  rw [rounds_succ]
  go_wp2_with fail
  refine cM (B1.out _ bA) ?_
  rintro q w2 ⟨k1, rfl, b1⟩
  obtain ⟨bA, d0, f0, d1, f1, x0, x1, x2⟩ := jkAF2C3 b1 bA d0 f0 d1 f1 x0 x1 x2
  clear b1 B1
  go_wp2_with fail
  rw [rounds_succ]
  go_wp2_with fail
  go_ret
  exact ⟨rfl, bA⟩
 ·
  go_enter Tryz.func141, Tryz.ntmps141
  go_wp2_with fail
  generalize ((w.alloc (.cells #[.bool false, .slice a n c, .int .i64 e] 27)).alloc (.cells #[.int .i64 0, .int .i64 0] 155)) = w0 at *
  refine wp_loop_rounds 3 ?_
  rw [rounds_succ]
  go_wp2_with fail
  refine cM (B0.out _ bA) ?_
  rintro q w1 ⟨k0, rfl, b1⟩
  obtain ⟨bA, d0, f0, d1, f1, x0, x1, x2⟩ := jkAF2C3 b1 bA d0 f0 d1 f1 x0 x1 x2
  clear b1 B0
  go_wp2_with fail
  have nx0 := set1_cell (r := w.heap.size + 1) (k := 0) (v := .int .i64 1) x0 (.inl (by omega))
  have nx1 := set1_cell (r := w.heap.size + 1) (k := 0) (v := .int .i64 1) x1 (.inl (by omega))
  have nx2 := set1_cell (r := w.heap.size + 1) (k := 0) (v := .int .i64 1) x2 (.inl (by omega))
  have nd1 := set1_cell (r := w.heap.size + 1) (k := 0) (v := .int .i64 1) d1 (.inr (by decide))
  have nd0 := set1_same (v := .int .i64 1) d0
  have nf0 := set1_frozen (q := ⟨w.heap.size + 1, 0, none⟩) (v := .int .i64 1) f0
  have nf1 := set1_frozen (q := ⟨w.heap.size + 1, 0, none⟩) (v := .int .i64 1) f1
  have nbA := bA.setCell (p := ⟨w.heap.size + 1, 0, none⟩) (by simp) (.int .i64 1)
  clear x0 x1 x2 d0 d1 f0 f1 bA
  generalize (w1.setCell ⟨w.heap.size + 1, 0, none⟩ (.int .i64 1)) = v0 at *
  have x0 := nx0
  have x1 := nx1
  have x2 := nx2
  have d0 := nd0
  have d1 := nd1
  have f0 := nf0
  have f1 := nf1
  have bA := nbA
  clear nx0 nx1 nx2 nd0 nd1 nf0 nf1 nbA
  rw [rounds_succ]
  go_wp2_with fail
  refine cM (B1.out _ bA) ?_
  rintro q w2 ⟨k1, rfl, b1⟩
  obtain ⟨bA, d0, f0, d1, f1, x0, x1, x2⟩ := jkAF2C3 b1 bA d0 f0 d1 f1 x0 x1 x2
  clear b1 B1
  go_wp2_with fail
  have nx0 := set1_cell (r := w.heap.size + 1) (k := 1) (v := .int .i64 1) x0 (.inl (by omega))
  have nx1 := set1_cell (r := w.heap.size + 1) (k := 1) (v := .int .i64 1) x1 (.inl (by omega))
  have nx2 := set1_cell (r := w.heap.size + 1) (k := 1) (v := .int .i64 1) x2 (.inl (by omega))
  have nd0 := set1_cell (r := w.heap.size + 1) (k := 1) (v := .int .i64 1) d0 (.inr (by decide))
  have nd1 := set1_same (v := .int .i64 1) d1
  have nf0 := set1_frozen (q := ⟨w.heap.size + 1, 1, none⟩) (v := .int .i64 1) f0
  have nf1 := set1_frozen (q := ⟨w.heap.size + 1, 1, none⟩) (v := .int .i64 1) f1
  have nbA := bA.setCell (p := ⟨w.heap.size + 1, 1, none⟩) (by simp) (.int .i64 1)
  clear x0 x1 x2 d0 d1 f0 f1 bA
  generalize (w2.setCell ⟨w.heap.size + 1, 1, none⟩ (.int .i64 1)) = v1 at *
  have x0 := nx0
  have x1 := nx1
  have x2 := nx2
  have d0 := nd0
  have d1 := nd1
  have f0 := nf0
  have f1 := nf1
  have bA := nbA
  clear nx0 nx1 nx2 nd0 nd1 nf0 nf1 nbA
  rw [rounds_succ]
  go_wp2_with fail
  go_ret
  exact ⟨rfl, bA⟩
 ·
  go_enter Tryz.func141, Tryz.ntmps141
  go_wp2_with fail
  generalize ((w.alloc (.cells #[.bool true, .slice a n c, .int .i64 e] 27)).alloc (.cells #[.int .i64 0, .int .i64 0] 155)) = w0 at *
  refine wp_loop_rounds 3 ?_
  rw [rounds_succ]
  go_wp2_with fail
  refine cM (B0.out _ bA) ?_
  rintro q w1 ⟨k0, rfl, b1⟩
  obtain ⟨bA, d0, f0, d1, f1, x0, x1, x2⟩ := jkAF2C3 b1 bA d0 f0 d1 f1 x0 x1 x2
  clear b1 B0
  go_wp2_with fail
  have nx0 := set1_cell (r := w.heap.size + 1) (k := 0) (v := .int .i64 1) x0 (.inl (by omega))
  have nx1 := set1_cell (r := w.heap.size + 1) (k := 0) (v := .int .i64 1) x1 (.inl (by omega))
  have nx2 := set1_cell (r := w.heap.size + 1) (k := 0) (v := .int .i64 1) x2 (.inl (by omega))
  have nd1 := set1_cell (r := w.heap.size + 1) (k := 0) (v := .int .i64 1) d1 (.inr (by decide))
  have nd0 := set1_same (v := .int .i64 1) d0
  have nf0 := set1_frozen (q := ⟨w.heap.size + 1, 0, none⟩) (v := .int .i64 1) f0
  have nf1 := set1_frozen (q := ⟨w.heap.size + 1, 0, none⟩) (v := .int .i64 1) f1
  have nbA := bA.setCell (p := ⟨w.heap.size + 1, 0, none⟩) (by simp) (.int .i64 1)
  clear x0 x1 x2 d0 d1 f0 f1 bA
  generalize (w1.setCell ⟨w.heap.size + 1, 0, none⟩ (.int .i64 1)) = v0 at *
  have x0 := nx0
  have x1 := nx1
  have x2 := nx2
  have d0 := nd0
  have d1 := nd1
  have f0 := nf0
  have f1 := nf1
  have bA := nbA
  clear nx0 nx1 nx2 nd0 nd1 nf0 nf1 nbA
  rw [rounds_succ]
  go_wp2_with fail
  refine cM (B1.out _ bA) ?_
  rintro q w2 ⟨k1, rfl, b1⟩
  obtain ⟨bA, d0, f0, d1, f1, x0, x1, x2⟩ := jkAF2C3 b1 bA d0 f0 d1 f1 x0 x1 x2
  clear b1 B1
  go_wp2_with fail
  have nx0 := set1_cell (r := w.heap.size + 1) (k := 1) (v := .int .i64 1) x0 (.inl (by omega))
  have nx1 := set1_cell (r := w.heap.size + 1) (k := 1) (v := .int .i64 1) x1 (.inl (by omega))
  have nx2 := set1_cell (r := w.heap.size + 1) (k := 1) (v := .int .i64 1) x2 (.inl (by omega))
  have nd0 := set1_cell (r := w.heap.size + 1) (k := 1) (v := .int .i64 1) d0 (.inr (by decide))
  have nd1 := set1_same (v := .int .i64 1) d1
  have nf0 := set1_frozen (q := ⟨w.heap.size + 1, 1, none⟩) (v := .int .i64 1) f0
  have nf1 := set1_frozen (q := ⟨w.heap.size + 1, 1, none⟩) (v := .int .i64 1) f1
  have nbA := bA.setCell (p := ⟨w.heap.size + 1, 1, none⟩) (by simp) (.int .i64 1)
  clear x0 x1 x2 d0 d1 f0 f1 bA
  generalize (w2.setCell ⟨w.heap.size + 1, 1, none⟩ (.int .i64 1)) = v1 at *
  have x0 := nx0
  have x1 := nx1
  have x2 := nx2
  have d0 := nd0
  have d1 := nd1
  have f0 := nf0
  have f1 := nf1
  have bA := nbA
  clear nx0 nx1 nx2 nd0 nd1 nf0 nf1 nbA
  rw [rounds_succ]
  go_wp2_with fail
  go_ret
  exact ⟨rfl, bA⟩
end Go.Proofs.YtiijfnaaekmpbaaGreatDoor

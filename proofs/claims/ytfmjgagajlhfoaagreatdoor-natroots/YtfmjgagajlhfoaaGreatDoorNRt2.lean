/- The walks of Newton's steps and of the root. -/
import Derived.Test.YtfmjgagajlhfoaaGreatDoorNRt1
import Derived.Test.YtfmjgagajlhfoaaGreatDoorNOver
import Derived.Test.YtfmjgagajlhfoaaGreatDoorNChunk
import Derived.Deep.LoopGhost
namespace Go.Proofs.YtfmjgagajlhfoaaGreatDoor
open Go.RowKit

theorem words_small (x : Nat) (h : x < 18446744073709551616) : (wordsOf x).length ≤ 1 := (words_len 1 x).2 (by simpa using h)
theorem words_fit {u v n : Nat} (h : v ≤ u) (hu : n = (wordsOf u).length) (hn : n ≤ 1024) : (wordsOf v).length ≤ 1024 := Nat.le_trans (words_mono h) (by omega)
theorem newt_le {k v x : Nat} (hk : 0 < k) (hx : x ≤ v) : newt k v x ≤ v := by
  unfold newt
  refine Nat.le_trans (Nat.div_le_div_right (c := k) (show (k - 1) * x + v / x ^ (k - 1) ≤ k * v from ?_)) (by rw [Nat.mul_div_cancel_left _ hk]; exact Nat.le_refl _)
  have h1 : (k - 1) * x ≤ (k - 1) * v := Nat.mul_le_mul_left _ hx
  have h2 := Nat.div_le_self v (x ^ (k - 1))
  have h3 : k * v = (k - 1) * v + v := by
    obtain ⟨m, rfl⟩ : ∃ m, k = m + 1 := ⟨k - 1, by omega⟩
    rw [Nat.add_sub_cancel, Nat.add_mul, Nat.one_mul]
  omega
theorem root_room2 {v x y : Nat} (hv : 18446744073709551616 ≤ v) (h2 : y ^ 2 ≤ v) (h3 : x ≤ 2 * y) : x ^ 1 ≤ v := by
  rw [Nat.pow_one]
  rcases Nat.lt_or_ge y 2 with q | q
  · omega
  · have : 2 * y ≤ y ^ 2 := by rw [Nat.pow_two]; exact Nat.mul_le_mul_right _ q
    omega
theorem root_room3 {v x y : Nat} (hv : 18446744073709551616 ≤ v) (h2 : y ^ 3 ≤ v) (h3 : x ≤ 2 * y) : x ^ 2 ≤ v := by
  have h4 : x ^ 2 ≤ 4 * (y * y) := by
    have := Nat.mul_le_mul h3 h3
    rw [Nat.pow_two]
    have e : 2 * y * (2 * y) = 4 * (y * y) := by rw [Nat.mul_mul_mul_comm]
    omega
  rcases Nat.lt_or_ge y 4 with q | q
  · have : y * y ≤ 3 * 3 := Nat.mul_le_mul (by omega) (by omega)
    omega
  · have : 4 * (y * y) ≤ y ^ 3 := by
      rw [Nat.pow_succ, Nat.pow_two, Nat.mul_comm]; exact Nat.mul_le_mul_left _ q
    omega
theorem start2 {v s p : Nat} (hv : 18446744073709551616 ≤ v) (hp : p = rt 2 (v / 2 ^ (s * 2))) (hp0 : 0 < p) : rt 2 v ≤ (p + 1) * 2 ^ s ∧ 0 < (p + 1) * 2 ^ s ∧ ((p + 1) * 2 ^ s) ^ 1 ≤ v := by
  refine ⟨rt_above (by decide) hp, Nat.mul_pos (by omega) (Nat.pow_pos (by decide)), ?_⟩
  have h1 := (rt_spec 2 (v / 2 ^ (s * 2)) (by decide)).1
  rw [← hp] at h1
  have h2 : (p * 2 ^ s) ^ 2 ≤ v := by
    rw [Nat.mul_pow, ← Nat.pow_mul]
    exact Nat.le_trans (Nat.mul_le_mul_right _ h1) (Nat.div_mul_le_self _ _)
  have h3 : (p + 1) * 2 ^ s ≤ 2 * (p * 2 ^ s) := by
    rw [← Nat.mul_assoc]; exact Nat.mul_le_mul_right _ (by omega)
  generalize (p + 1) * 2 ^ s = x at *
  generalize p * 2 ^ s = y at *
  exact root_room2 hv h2 h3
theorem start3 {v s p : Nat} (hv : 18446744073709551616 ≤ v) (hp : p = rt 3 (v / 2 ^ (s * 3))) (hp0 : 0 < p) : rt 3 v ≤ (p + 1) * 2 ^ s ∧ 0 < (p + 1) * 2 ^ s ∧ ((p + 1) * 2 ^ s) ^ 2 ≤ v := by
  refine ⟨rt_above (by decide) hp, Nat.mul_pos (by omega) (Nat.pow_pos (by decide)), ?_⟩
  have h1 := (rt_spec 3 (v / 2 ^ (s * 3)) (by decide)).1
  rw [← hp] at h1
  have h2 : (p * 2 ^ s) ^ 3 ≤ v := by
    rw [Nat.mul_pow, ← Nat.pow_mul]
    exact Nat.le_trans (Nat.mul_le_mul_right _ h1) (Nat.div_mul_le_self _ _)
  have h3 : (p + 1) * 2 ^ s ≤ 2 * (p * 2 ^ s) := by
    rw [← Nat.mul_assoc]; exact Nat.mul_le_mul_right _ (by omega)
  generalize (p + 1) * 2 ^ s = x at *
  generalize p * 2 ^ s = y at *
  exact root_room3 hv h2 h3
set_option maxRecDepth 100000 in
set_option maxHeartbeats 1000000 in
theorem newton2_calls (a b : Option Addr) (n m v x : Nat) (w : World) (hA : IsW w a n n (wordsOf v)) (hB : IsW w b m m (wordsOf x)) (hn : n ≤ 1024) (hm : m ≤ 1024) (hx : 0 < x) (hp : x ^ 1 ≤ v) :
    Calls Tryz.prog 77 #[.slice a n n, .slice b m m, .int .i64 2] w fun e w' => ∃ (ao : Option Addr) (c : Nat), e = .returned (.slice ao c c) ∧ c = (wordsOf (newt 2 v x)).length ∧ OwnW w.heap.size w' ao c c (wordsOf (newt 2 v x)) ∧ Below w.heap.size w w' := by
  have hpl : (wordsOf (x ^ 1)).length ≤ 1024 := words_fit hp hA.1 hn
  have HPL : Hid _ := hpl
  have HNW : Hid (newt 2 v x = (1 * x + v / x ^ 1) / 2) := rfl
  have PC : Hid _ := power_calls b m x 1 w hB (by omega) (by decide) (Nat.le_trans hpl (by decide))
  have OC : Hid _ := over_any v (x ^ 1) (Nat.pow_pos hx)
  clear hpl hp hx
  go_enter Tryz.func77, Tryz.ntmps77
  go_wp2_with fail
  refine Calls.mono PC.out ?_
  rintro e w1 ⟨a1, n1, rfl, hn1, hO1, b1⟩
  have hn1b : n1 ≤ 1024 := by rw [hn1]; exact HPL.out
  have OC1 : Hid _ := OC.out a a1 n n1 w1 (hA.keep b1) hO1.1 hn hn1b
  have hB1 := hB.keep b1
  clear PC OC hn1 hO1 hA hB
  go_wp2_with fail
  refine Calls.mono OC1.out ?_
  rintro e w2 ⟨a2, a3, n2, c2, n3, c3, M2, M3, rfl, hO2, hv2, hn2, hO3, hv3, hn3, b2⟩
  have HV2 : Hid (val M2 = v / x ^ 1) := hv2
  have hB2 := hB1.keep b2
  have b12 := nbelow_trans b1 b2
  clear OC1 hO3 hv3 hn3 hv2 hB1
  go_wp2_with fail
  refine Calls.mono (word_calls 1 w2 (by decide) (by decide)) ?_
  rintro e w3 ⟨a4, n4, rfl, hn4, hO4, b3⟩
  have hn4b : n4 ≤ 1 := by rw [hn4]; exact words_small _ (by decide)
  have hB3 := hB2.keep b3
  have hO23 := hO2.keep b3
  have b13 := nbelow_trans b12 b3
  clear hn4 hB2 hO2 b12
  go_wp2_with fail
  refine Calls.mono (times_calls b a4 m n4 _ _ w3 hB3 hO4.1 (by omega) (by omega)) ?_
  rintro e w4 ⟨a5, n5, M5, rfl, hO5, hv5, hn5, b4⟩
  rw [val_words, val_words] at hv5
  have HV5 : Hid (val M5 = x * 1) := hv5
  have hO24 := hO23.keep b4
  have b14 := nbelow_trans b13 b4
  clear hv5 hB3 hO4 hO23 b13
  go_wp2_with fail
  refine Calls.mono (trimW_pack _ a5 n5 n5 M5 w4 hO5 (by omega)) ?_
  rintro e w4 ⟨a6, n6, rfl, hn6, hO6, rfl⟩
  have hn6b : n6 ≤ 2000 := by
    have := words_le M5 hO5.1.2.1
    have := hO5.1.1
    omega
  rw [HV5.out] at hO6
  clear hO5 hn6 HV5
  go_wp2_with fail
  refine Calls.mono (trimW_pack _ a2 n2 c2 M2 w4 hO24 (by omega)) ?_
  rintro e w4 ⟨a7, n7, rfl, hn7, hO7, rfl⟩
  have hn7b : n7 ≤ 4096 := by
    have := words_le M2 hO24.1.2.1
    have := hO24.1.1
    omega
  rw [HV2.out] at hO7
  clear hO24 hn7 HV2
  go_wp2_with fail
  refine Calls.mono (plus_calls a6 a7 n6 n7 _ _ w4 hO6.1 hO7.1 (by omega) (by omega)) ?_
  rintro e w5 ⟨a8, n8, M8, rfl, hO8, hv8, hn8, b5⟩
  rw [val_words, val_words] at hv8
  have HV8 : Hid (val M8 / 2 = newt 2 v x) := by rw [Hid, hv8, HNW.out, Nat.mul_comm x]
  have b15 := nbelow_trans b14 b5
  obtain ⟨g, off, rfl, hgl, _⟩ := hO8.1.2.2.2 0 (by omega)
  have hgB := (hO8.2 g off 0 rfl (by omega)).1
  have DB : Hid _ := divideBy_calls w4.heap.size g off n8 n8 2 M8 w5 hO8 (by omega) (by decide) (by decide)
  rw [HV8.out] at DB
  have hs4 := b14.size
  have hs5 := b15.size
  have hn8b : n8 ≤ 5000 := by omega
  clear hv8 hO6 hO7 hO8 hn8
  go_wp2_with fail
  refine Calls.mono DB.out ?_
  rintro e w6 ⟨M9, rfl, hO9, hv9, hg9⟩
  have HV9 : Hid (val M9 = newt 2 v x) := hv9
  have b16 : Below w.heap.size w w6 := b15.grown hg9 hs5 (fun k e => by simp at e; omega)
  clear DB hv9 hg9 b15
  go_wp2_with fail
  refine Calls.mono (trimW_pack _ (some ⟨g, off, none⟩) n8 n8 M9 w6 hO9 (by omega)) ?_
  rintro e w6 ⟨a10, n10, rfl, hn10, hO10, rfl⟩
  rw [HV9.out] at hn10 hO10
  have HN10 : Hid _ := hn10
  clear hn10 hO9
  go_wp2_with fail
  go_ret
  exact ⟨a10, n10, rfl, HN10.out, hO10.low hs4, b16⟩

set_option maxRecDepth 100000 in
set_option maxHeartbeats 1000000 in
theorem newton3_calls (a b : Option Addr) (n m v x : Nat) (w : World) (hA : IsW w a n n (wordsOf v)) (hB : IsW w b m m (wordsOf x)) (hn : n ≤ 1024) (hm : m ≤ 1024) (hx : 0 < x) (hp : x ^ 2 ≤ v) :
    Calls Tryz.prog 77 #[.slice a n n, .slice b m m, .int .i64 3] w fun e w' => ∃ (ao : Option Addr) (c : Nat), e = .returned (.slice ao c c) ∧ c = (wordsOf (newt 3 v x)).length ∧ OwnW w.heap.size w' ao c c (wordsOf (newt 3 v x)) ∧ Below w.heap.size w w' := by
  have hpl : (wordsOf (x ^ 2)).length ≤ 1024 := words_fit hp hA.1 hn
  have HPL : Hid _ := hpl
  have HNW : Hid (newt 3 v x = (2 * x + v / x ^ 2) / 3) := rfl
  have PC : Hid _ := power_calls b m x 2 w hB (by omega) (by decide) (Nat.le_trans hpl (by decide))
  have OC : Hid _ := over_any v (x ^ 2) (Nat.pow_pos hx)
  clear hpl hp hx
  go_enter Tryz.func77, Tryz.ntmps77
  go_wp2_with fail
  refine Calls.mono PC.out ?_
  rintro e w1 ⟨a1, n1, rfl, hn1, hO1, b1⟩
  have hn1b : n1 ≤ 1024 := by rw [hn1]; exact HPL.out
  have OC1 : Hid _ := OC.out a a1 n n1 w1 (hA.keep b1) hO1.1 hn hn1b
  have hB1 := hB.keep b1
  clear PC OC hn1 hO1 hA hB
  go_wp2_with fail
  refine Calls.mono OC1.out ?_
  rintro e w2 ⟨a2, a3, n2, c2, n3, c3, M2, M3, rfl, hO2, hv2, hn2, hO3, hv3, hn3, b2⟩
  have HV2 : Hid (val M2 = v / x ^ 2) := hv2
  have hB2 := hB1.keep b2
  have b12 := nbelow_trans b1 b2
  clear OC1 hO3 hv3 hn3 hv2 hB1
  go_wp2_with fail
  refine Calls.mono (word_calls 2 w2 (by decide) (by decide)) ?_
  rintro e w3 ⟨a4, n4, rfl, hn4, hO4, b3⟩
  have hn4b : n4 ≤ 1 := by rw [hn4]; exact words_small _ (by decide)
  have hB3 := hB2.keep b3
  have hO23 := hO2.keep b3
  have b13 := nbelow_trans b12 b3
  clear hn4 hB2 hO2 b12
  go_wp2_with fail
  refine Calls.mono (times_calls b a4 m n4 _ _ w3 hB3 hO4.1 (by omega) (by omega)) ?_
  rintro e w4 ⟨a5, n5, M5, rfl, hO5, hv5, hn5, b4⟩
  rw [val_words, val_words] at hv5
  have HV5 : Hid (val M5 = x * 2) := hv5
  have hO24 := hO23.keep b4
  have b14 := nbelow_trans b13 b4
  clear hv5 hB3 hO4 hO23 b13
  go_wp2_with fail
  refine Calls.mono (trimW_pack _ a5 n5 n5 M5 w4 hO5 (by omega)) ?_
  rintro e w4 ⟨a6, n6, rfl, hn6, hO6, rfl⟩
  have hn6b : n6 ≤ 2000 := by
    have := words_le M5 hO5.1.2.1
    have := hO5.1.1
    omega
  rw [HV5.out] at hO6
  clear hO5 hn6 HV5
  go_wp2_with fail
  refine Calls.mono (trimW_pack _ a2 n2 c2 M2 w4 hO24 (by omega)) ?_
  rintro e w4 ⟨a7, n7, rfl, hn7, hO7, rfl⟩
  have hn7b : n7 ≤ 4096 := by
    have := words_le M2 hO24.1.2.1
    have := hO24.1.1
    omega
  rw [HV2.out] at hO7
  clear hO24 hn7 HV2
  go_wp2_with fail
  refine Calls.mono (plus_calls a6 a7 n6 n7 _ _ w4 hO6.1 hO7.1 (by omega) (by omega)) ?_
  rintro e w5 ⟨a8, n8, M8, rfl, hO8, hv8, hn8, b5⟩
  rw [val_words, val_words] at hv8
  have HV8 : Hid (val M8 / 3 = newt 3 v x) := by rw [Hid, hv8, HNW.out, Nat.mul_comm x]
  have b15 := nbelow_trans b14 b5
  obtain ⟨g, off, rfl, hgl, _⟩ := hO8.1.2.2.2 0 (by omega)
  have hgB := (hO8.2 g off 0 rfl (by omega)).1
  have DB : Hid _ := divideBy_calls w4.heap.size g off n8 n8 3 M8 w5 hO8 (by omega) (by decide) (by decide)
  rw [HV8.out] at DB
  have hs4 := b14.size
  have hs5 := b15.size
  have hn8b : n8 ≤ 5000 := by omega
  clear hv8 hO6 hO7 hO8 hn8
  go_wp2_with fail
  refine Calls.mono DB.out ?_
  rintro e w6 ⟨M9, rfl, hO9, hv9, hg9⟩
  have HV9 : Hid (val M9 = newt 3 v x) := hv9
  have b16 : Below w.heap.size w w6 := b15.grown hg9 hs5 (fun k e => by simp at e; omega)
  clear DB hv9 hg9 b15
  go_wp2_with fail
  refine Calls.mono (trimW_pack _ (some ⟨g, off, none⟩) n8 n8 M9 w6 hO9 (by omega)) ?_
  rintro e w6 ⟨a10, n10, rfl, hn10, hO10, rfl⟩
  rw [HV9.out] at hn10 hO10
  have HN10 : Hid _ := hn10
  clear hn10 hO9
  go_wp2_with fail
  go_ret
  exact ⟨a10, n10, rfl, HN10.out, hO10.low hs4, b16⟩

set_option maxRecDepth 100000 in
set_option maxHeartbeats 1000000 in
theorem rootBelow2_calls (B : Nat) (a b : Option Addr) (n m v x : Nat) (w : World) (hA : IsW w a n n (wordsOf v)) (hB : OwnW B w b m m (wordsOf x)) (hBw : B ≤ w.heap.size) (hn : n ≤ 1024) (hm : m ≤ 1024) (hx : 0 < x) (hp : x ^ 1 ≤ v) (hr : rt 2 v ≤ x) :
    Calls Tryz.prog 55 #[.slice a n n, .slice b m m, .int .i64 2] w fun e w' => ∃ (ao : Option Addr) (c : Nat), e = .returned (.slice ao c c) ∧ c = (wordsOf (rt 2 v)).length ∧ OwnW B w' ao c c (wordsOf (rt 2 v)) ∧ Below w.heap.size w w' := by
  have HA : Hid (IsW w a n n (wordsOf v)) := hA
  have H0 : Hid (m = (wordsOf x).length ∧ OwnW B w b m m (wordsOf x) ∧ 0 < x ∧ x ^ 1 ≤ v ∧ rt 2 v ≤ x) := ⟨hB.1.1, hB, hx, hp, hr⟩
  have HV : Hid (0 < v) := Nat.lt_of_lt_of_le (Nat.pow_pos hx) hp
  clear hA hB hx hp hr
  go_enter Tryz.func55, Tryz.ntmps55
  go_wp2_with fail
  go_loopg [1] x (fun g va wr => ∃ (ad : Option Addr) (c : Nat), va = .slice ad c c ∧ c ≤ 1024 ∧ Hid (c = (wordsOf g).length) ∧ OwnW B wr ad c c (wordsOf g) ∧ Hid (0 < g ∧ g ^ 1 ≤ v ∧ rt 2 v ≤ g) ∧ Below w.heap.size w wr)
  case atStart => exact ⟨b, m, rfl, hm, H0.out.1, H0.out.2.1, H0.out.2.2, Below.refl _ _⟩
  case round =>
    clear H0
    obtain ⟨ad, c, rfl, hc, HC, hO, HI, hbr⟩ := hrel
    obtain ⟨i1, i2, i3⟩ := HI.out
    have NC : Hid _ := newton2_calls a ad n c v gk wr (HA.out.keep hbr) hO.1 hn hc i1 i2
    have HUP : Hid _ := newt_up (k := 2) (v := v) (by decide) i1 i3
    have HEND : Hid _ := newt_end (k := 2) (v := v) (by decide) i1 i3
    have HPOS : Hid _ := rt_pos (k := 2) (v := v) (by decide) HV.out
    obtain ⟨y, hy⟩ : ∃ y, y = newt 2 v gk := ⟨_, rfl⟩
    have HYV : Hid (y ≤ v) := by rw [Hid, hy]; exact newt_le (by decide) (Nat.le_trans (Nat.le_self_pow (by decide) _) i2)
    rw [← hy] at NC HUP HEND
    have hsz := hbr.size
    have HI2 : Hid (0 < gk ∧ gk ^ 1 ≤ v ∧ rt 2 v ≤ gk) := ⟨i1, i2, i3⟩
    clear hy i1 i2 i3 HI
    go_wp2_with fail
    refine Calls.mono NC.out ?_
    rintro e w2 ⟨a2, c2, rfl, hc2, hO2, b2⟩
    have HC2 : Hid (c2 = (wordsOf y).length) := hc2
    have hO3 := hO.keep b2
    have hbr2 := nbelow_trans hbr b2
    by_cases hlt : y < gk
    · have hc2b : c2 ≤ 1024 := by rw [hc2]; exact words_fit (Nat.le_of_lt hlt) HC.out hc
      have AC : Hid _ := against_calls a2 ad c2 c y gk w2 hO2.1 hO3.1 (by omega) (by omega)
      rw [show cmpN y gk = -1 by unfold cmpN; rw [if_pos hlt]] at AC
      clear NC hc2 hO
      go_wp2_with fail
      refine Calls.mono AC.out ?_
      rintro e w3 ⟨rfl, b3⟩
      have hO4 := hO2.keep b3
      have hbr3 := nbelow_trans hbr2 b3
      clear AC hO2 hO3
      go_wp2_with fail
      go_roundg y
      case measure => exact hlt
      case rel =>
        obtain ⟨j1, j2, j3⟩ := HI2.out
        refine ⟨a2, c2, rfl, hc2b, HC2, hO4.low (by omega), ⟨Nat.lt_of_lt_of_le HPOS.out HUP.out, ?_, HUP.out⟩, hbr3⟩
        exact Nat.le_trans (Nat.pow_le_pow_left (Nat.le_of_lt hlt) _) j2
    · have hge : gk ≤ y := by omega
      have HE : Hid (gk = rt 2 v) := HEND.out hge
      obtain ⟨N, hN⟩ : ∃ N, N = cmpN y gk := ⟨_, rfl⟩
      have hN0 : 0 ≤ N := by rw [hN]; unfold cmpN; rw [if_neg hlt]; split <;> omega
      have hc2b : c2 ≤ 1024 := by rw [hc2]; exact words_fit HYV.out HA.out.1 hn
      have AC : Hid _ := against_calls a2 ad c2 c y gk w2 hO2.1 hO3.1 (by omega) (by omega)
      rw [← hN] at AC
      rw [HE.out] at HC
      have HO3 : Hid (OwnW B w2 ad c c (wordsOf (rt 2 v))) := by rw [Hid, ← HE.out]; exact hO3
      clear NC hc2 hO hN HE hge hlt hO3 HI2 HEND HUP
      go_wp2_with fail
      refine Calls.mono AC.out ?_
      rintro e w3 ⟨rfl, b3⟩
      clear AC
      go_wp2_with fail
      go_ret
      exact ⟨ad, c, rfl, HC.out, HO3.out.keep b3, nbelow_trans hbr2 b3⟩

set_option maxRecDepth 100000 in
set_option maxHeartbeats 1000000 in
theorem rootBelow3_calls (B : Nat) (a b : Option Addr) (n m v x : Nat) (w : World) (hA : IsW w a n n (wordsOf v)) (hB : OwnW B w b m m (wordsOf x)) (hBw : B ≤ w.heap.size) (hn : n ≤ 1024) (hm : m ≤ 1024) (hx : 0 < x) (hp : x ^ 2 ≤ v) (hr : rt 3 v ≤ x) :
    Calls Tryz.prog 55 #[.slice a n n, .slice b m m, .int .i64 3] w fun e w' => ∃ (ao : Option Addr) (c : Nat), e = .returned (.slice ao c c) ∧ c = (wordsOf (rt 3 v)).length ∧ OwnW B w' ao c c (wordsOf (rt 3 v)) ∧ Below w.heap.size w w' := by
  have HA : Hid (IsW w a n n (wordsOf v)) := hA
  have H0 : Hid (m = (wordsOf x).length ∧ OwnW B w b m m (wordsOf x) ∧ 0 < x ∧ x ^ 2 ≤ v ∧ rt 3 v ≤ x) := ⟨hB.1.1, hB, hx, hp, hr⟩
  have HV : Hid (0 < v) := Nat.lt_of_lt_of_le (Nat.pow_pos hx) hp
  clear hA hB hx hp hr
  go_enter Tryz.func55, Tryz.ntmps55
  go_wp2_with fail
  go_loopg [1] x (fun g va wr => ∃ (ad : Option Addr) (c : Nat), va = .slice ad c c ∧ c ≤ 1024 ∧ Hid (c = (wordsOf g).length) ∧ OwnW B wr ad c c (wordsOf g) ∧ Hid (0 < g ∧ g ^ 2 ≤ v ∧ rt 3 v ≤ g) ∧ Below w.heap.size w wr)
  case atStart => exact ⟨b, m, rfl, hm, H0.out.1, H0.out.2.1, H0.out.2.2, Below.refl _ _⟩
  case round =>
    clear H0
    obtain ⟨ad, c, rfl, hc, HC, hO, HI, hbr⟩ := hrel
    obtain ⟨i1, i2, i3⟩ := HI.out
    have NC : Hid _ := newton3_calls a ad n c v gk wr (HA.out.keep hbr) hO.1 hn hc i1 i2
    have HUP : Hid _ := newt_up (k := 3) (v := v) (by decide) i1 i3
    have HEND : Hid _ := newt_end (k := 3) (v := v) (by decide) i1 i3
    have HPOS : Hid _ := rt_pos (k := 3) (v := v) (by decide) HV.out
    obtain ⟨y, hy⟩ : ∃ y, y = newt 3 v gk := ⟨_, rfl⟩
    have HYV : Hid (y ≤ v) := by rw [Hid, hy]; exact newt_le (by decide) (Nat.le_trans (Nat.le_self_pow (by decide) _) i2)
    rw [← hy] at NC HUP HEND
    have hsz := hbr.size
    have HI2 : Hid (0 < gk ∧ gk ^ 2 ≤ v ∧ rt 3 v ≤ gk) := ⟨i1, i2, i3⟩
    clear hy i1 i2 i3 HI
    go_wp2_with fail
    refine Calls.mono NC.out ?_
    rintro e w2 ⟨a2, c2, rfl, hc2, hO2, b2⟩
    have HC2 : Hid (c2 = (wordsOf y).length) := hc2
    have hO3 := hO.keep b2
    have hbr2 := nbelow_trans hbr b2
    by_cases hlt : y < gk
    · have hc2b : c2 ≤ 1024 := by rw [hc2]; exact words_fit (Nat.le_of_lt hlt) HC.out hc
      have AC : Hid _ := against_calls a2 ad c2 c y gk w2 hO2.1 hO3.1 (by omega) (by omega)
      rw [show cmpN y gk = -1 by unfold cmpN; rw [if_pos hlt]] at AC
      clear NC hc2 hO
      go_wp2_with fail
      refine Calls.mono AC.out ?_
      rintro e w3 ⟨rfl, b3⟩
      have hO4 := hO2.keep b3
      have hbr3 := nbelow_trans hbr2 b3
      clear AC hO2 hO3
      go_wp2_with fail
      go_roundg y
      case measure => exact hlt
      case rel =>
        obtain ⟨j1, j2, j3⟩ := HI2.out
        refine ⟨a2, c2, rfl, hc2b, HC2, hO4.low (by omega), ⟨Nat.lt_of_lt_of_le HPOS.out HUP.out, ?_, HUP.out⟩, hbr3⟩
        exact Nat.le_trans (Nat.pow_le_pow_left (Nat.le_of_lt hlt) _) j2
    · have hge : gk ≤ y := by omega
      have HE : Hid (gk = rt 3 v) := HEND.out hge
      obtain ⟨N, hN⟩ : ∃ N, N = cmpN y gk := ⟨_, rfl⟩
      have hN0 : 0 ≤ N := by rw [hN]; unfold cmpN; rw [if_neg hlt]; split <;> omega
      have hc2b : c2 ≤ 1024 := by rw [hc2]; exact words_fit HYV.out HA.out.1 hn
      have AC : Hid _ := against_calls a2 ad c2 c y gk w2 hO2.1 hO3.1 (by omega) (by omega)
      rw [← hN] at AC
      rw [HE.out] at HC
      have HO3 : Hid (OwnW B w2 ad c c (wordsOf (rt 3 v))) := by rw [Hid, ← HE.out]; exact hO3
      clear NC hc2 hO hN HE hge hlt hO3 HI2 HEND HUP
      go_wp2_with fail
      refine Calls.mono AC.out ?_
      rintro e w3 ⟨rfl, b3⟩
      clear AC
      go_wp2_with fail
      go_ret
      exact ⟨ad, c, rfl, HC.out, HO3.out.keep b3, nbelow_trans hbr2 b3⟩

set_option maxRecDepth 100000 in
set_option maxHeartbeats 1000000 in
theorem root2_calls (v : Nat) : ∀ (a : Option Addr) (n : Nat) (w : World), IsW w a n n (wordsOf v) → n ≤ 1024 →
    Calls Tryz.prog 28 #[.slice a n n, .int .i64 2] w fun e w' => ∃ (ao : Option Addr) (c : Nat), e = .returned (.slice ao c c) ∧ c = (wordsOf (rt 2 v)).length ∧ OwnW w.heap.size w' ao c c (wordsOf (rt 2 v)) ∧ Below w.heap.size w w' := by
  induction v using Nat.strongRecOn with
  | ind v ih =>
    intro a n w hA hn
    have HIH : Hid _ := ih
    have HN : Hid (n = (wordsOf v).length) := hA.1
    clear ih
    by_cases h1 : n ≤ 1
    · have hv : v < 18446744073709551616 := one_word (by rw [← HN.out]; exact h1)
      have AC : Hid _ := at_calls a n n (wordsOf v) 0 w hA
      rw [words_low v hv] at AC
      have WC : Hid _ := wordRoot2_calls v w hv
      have hrs := rt_small (k := 2) (by decide) hv
      obtain ⟨r, hr⟩ : ∃ r, r = rt 2 v := ⟨_, rfl⟩
      rw [← hr] at WC hrs ⊢
      clear hr
      go_enter Tryz.func28, Tryz.ntmps28
      go_wp2_with fail
      refine Calls.mono AC.out ?_
      rintro e w ⟨rfl, rfl⟩
      go_wp2_with fail
      refine Calls.mono WC.out ?_
      rintro e w2 ⟨rfl, b2⟩
      clear AC WC
      go_wp2_with fail
      refine Calls.mono (word_calls (r : Int) w2 (by omega) (by omega)) ?_
      rintro e w3 ⟨a3, n3, rfl, hn3, hO3, b3⟩
      rw [Int.toNat_natCast] at hn3 hO3
      have HN3 : Hid _ := hn3
      clear hn3
      go_wp2_with fail
      go_ret
      exact ⟨a3, n3, rfl, HN3.out, hO3.low b2.size, nbelow_trans b2 b3⟩
    · have hv : ¬ v < 18446744073709551616 := many_words (by rw [← HN.out]; omega)
      have HVV : Hid (18446744073709551616 ≤ v) := by rw [Hid]; omega
      have hbl : blen v ≤ 65536 := by have := (words_len2 n v).1 (by rw [← HN.out]; exact Nat.le_refl _); omega
      have hbg : 64 < blen v := by
        rcases Nat.lt_or_ge 64 (blen v) with q | q
        · exact q
        · exact absurd ((blen_le v 64).1 q) (by have : (2 : Nat) ^ 64 = 18446744073709551616 := rfl; omega)
      have BC : Hid _ := bits_calls a n v w hA (by omega)
      obtain ⟨bl, hb⟩ : ∃ bl, bl = blen v := ⟨_, rfl⟩
      rw [← hb] at BC hbl hbg
      obtain ⟨s, hs⟩ : ∃ s, s = bl / 4 := ⟨_, rfl⟩
      have z1 : (bl : Int) / 4 = (s : Int) := by omega
      have z2 : (bl : Int).tdiv 4 = (s : Int) := by rw [Int.tdiv_eq_ediv_of_nonneg (by omega)]; omega
      have hsb : s ≤ 20000 := by omega
      have hs1 : 1 ≤ s := by omega
      have HS : Hid (s = blen v / 4) := by rw [Hid, ← hb]; exact hs
      clear hb hs hv
      obtain ⟨t, ht⟩ : ∃ t, t = s * 2 := ⟨_, rfl⟩
      have z3 : (s : Int) * 2 = (t : Int) := by omega
      have RC : Hid _ := right_calls a n t (wordsOf v) w hA hn (by omega)
      rw [val_words] at RC
      obtain ⟨u, hu⟩ : ∃ u, u = v / 2 ^ t := ⟨_, rfl⟩
      rw [← hu] at RC
      have huv : u < v := by
        rw [hu]
        have hv0 := HVV.out
        exact Nat.div_lt_self (by omega) (Nat.one_lt_pow (by omega) (by decide))
      have HRR : Hid (∀ p, p = rt 2 u → 0 < p → rt 2 v ≤ (p + 1) * 2 ^ s ∧ 0 < (p + 1) * 2 ^ s ∧ ((p + 1) * 2 ^ s) ^ 1 ≤ v) := fun p hp hp0 => by
        rw [hu, ht] at hp
        exact start2 HVV.out hp hp0
      have HU0 : Hid (0 < u) := by
        rw [Hid, hu]
        refine Nat.div_pos ?_ (Nat.pow_pos (by decide))
        have h2 := blen_ge v (by have := HVV.out; omega)
        refine Nat.le_trans (Nat.pow_le_pow_right (by decide) ?_) h2
        rw [ht, HS.out]; have := hbg; omega
      have HUV : Hid (u < v) := huv
      have htb : t ≤ 65536 := by omega
      clear ht hu huv
      go_enter Tryz.func28, Tryz.ntmps28
      go_wp2_with fail
      refine Calls.mono BC.out ?_
      rintro e w ⟨rfl, rfl⟩
      go_wp2_with fail
      refine Calls.mono RC.out ?_
      rintro e w2 ⟨a2, n2, M2, rfl, hO2, hv2, hn2, b2⟩
      have HV2 : Hid (val M2 = u) := hv2
      clear RC BC hv2 z1 z2 z3
      go_wp2_with fail
      refine Calls.mono (trimW_pack _ a2 n2 n2 M2 w2 hO2 (by omega)) ?_
      rintro e w2 ⟨a3, n3, rfl, hn3, hO3, rfl⟩
      rw [HV2.out] at hO3 hn3
      have hn3b : n3 ≤ 1024 := by rw [hn3]; exact words_fit (Nat.le_of_lt HUV.out) HN.out hn
      have IC : Hid _ := HIH.out u HUV.out a3 n3 w2 hO3.1 hn3b
      obtain ⟨p, hp⟩ : ∃ p, p = rt 2 u := ⟨_, rfl⟩
      rw [← hp] at IC
      have HP : Hid _ := HRR.out p hp (by rw [hp]; exact rt_pos (by decide) HU0.out)
      have HPU : Hid (p ≤ u) := by rw [Hid, hp]; exact rt_self (by decide)
      have HA2 : Hid (IsW w2 a n n (wordsOf v)) := hA.keep b2
      clear HIH hO2 hn3 HV2 hp HRR hA
      go_wp2_with fail
      refine Calls.mono IC.out ?_
      rintro e w4 ⟨a4, n4, rfl, hn4, hO4, b4⟩
      have hn4b : n4 ≤ 1024 := by rw [hn4]; exact Nat.le_trans (words_mono HPU.out) (words_fit (Nat.le_of_lt HUV.out) HN.out hn)
      have b24 := nbelow_trans b2 b4
      have HA4 : Hid (IsW w4 a n n (wordsOf v)) := HA2.out.keep b4
      clear IC hn4 hO3 HA2
      go_wp2_with fail
      refine Calls.mono (word_calls 1 w4 (by decide) (by decide)) ?_
      rintro e w5 ⟨a5, n5, rfl, hn5, hO5, b5⟩
      have hn5b : n5 ≤ 1 := by rw [hn5]; exact words_small _ (by decide)
      have hO45 := hO4.keep b5
      have b25 := nbelow_trans b24 b5
      clear hn5 hO4
      go_wp2_with fail
      refine Calls.mono (plus_calls a4 a5 n4 n5 _ _ w5 hO45.1 hO5.1 (by omega) (by omega)) ?_
      rintro e w6 ⟨a6, n6, M6, rfl, hO6, hv6, hn6, b6⟩
      rw [val_words, val_words] at hv6
      have HV6 : Hid (val M6 = p + 1) := hv6
      have b26 := nbelow_trans b25 b6
      have HA6 : Hid (IsW w6 a n n (wordsOf v)) := (HA4.out.keep b5).keep b6
      have hn6b : n6 ≤ 1025 := by omega
      clear hv6 hO45 hO5 hn6 HA4
      go_wp2_with fail
      refine Calls.mono (trimW_pack _ a6 n6 n6 M6 w6 hO6 (by omega)) ?_
      rintro e w6 ⟨a7, n7, rfl, hn7, hO7, rfl⟩
      rw [HV6.out] at hO7 hn7
      have hn7b : n7 ≤ 1024 := by rw [hn7]; exact words_fit (Nat.le_trans (Nat.succ_le_succ HPU.out) HUV.out) HN.out hn
      clear hO6 hn7 HV6
      go_wp2_with fail
      refine Calls.mono (left_calls a7 n7 s _ w6 hO7.1 hn7b (by omega)) ?_
      rintro e w8 ⟨a8, n8, M8, rfl, hO8, hv8, hn8, b8⟩
      rw [val_words] at hv8
      have HV8 : Hid (val M8 = (p + 1) * 2 ^ s) := hv8
      have b28 := nbelow_trans b26 b8
      have HA8 : Hid (IsW w8 a n n (wordsOf v)) := HA6.out.keep b8
      have hn8b : n8 ≤ 5000 := by omega
      have hs6 := b26.size
      clear hv8 hO7 HA6 hn8
      go_wp2_with fail
      refine Calls.mono (trimW_pack _ a8 n8 n8 M8 w8 hO8 (by omega)) ?_
      rintro e w8 ⟨a9, n9, rfl, hn9, hO9, rfl⟩
      rw [HV8.out] at hO9 hn9
      obtain ⟨p1, p2, p3⟩ := HP.out
      have hxv : (p + 1) * 2 ^ s ≤ v := Nat.le_trans (by exact Nat.le_self_pow (by decide) _) p3
      have hn9b : n9 ≤ 1024 := by rw [hn9]; exact words_fit hxv HN.out hn
      have RB : Hid _ := rootBelow2_calls _ a a9 n n9 v _ w8 HA8.out hO9 b8.size hn hn9b p2 p3 p1
      clear hO8 hn9 HV8 hO9 p1 p2 p3 hxv
      go_wp2_with fail
      refine Calls.mono RB.out ?_
      rintro e w10 ⟨a10, n10, rfl, hn10, hO10, b10⟩
      have HN10 : Hid _ := hn10
      clear RB hn10
      go_wp2_with fail
      go_ret
      exact ⟨a10, n10, rfl, HN10.out, hO10.low hs6, nbelow_trans b28 b10⟩

set_option maxRecDepth 100000 in
set_option maxHeartbeats 1000000 in
theorem root3_calls (v : Nat) : ∀ (a : Option Addr) (n : Nat) (w : World), IsW w a n n (wordsOf v) → n ≤ 1024 →
    Calls Tryz.prog 28 #[.slice a n n, .int .i64 3] w fun e w' => ∃ (ao : Option Addr) (c : Nat), e = .returned (.slice ao c c) ∧ c = (wordsOf (rt 3 v)).length ∧ OwnW w.heap.size w' ao c c (wordsOf (rt 3 v)) ∧ Below w.heap.size w w' := by
  induction v using Nat.strongRecOn with
  | ind v ih =>
    intro a n w hA hn
    have HIH : Hid _ := ih
    have HN : Hid (n = (wordsOf v).length) := hA.1
    clear ih
    by_cases h1 : n ≤ 1
    · have hv : v < 18446744073709551616 := one_word (by rw [← HN.out]; exact h1)
      have AC : Hid _ := at_calls a n n (wordsOf v) 0 w hA
      rw [words_low v hv] at AC
      have WC : Hid _ := wordRoot3_calls v w hv
      have hrs := rt_small (k := 3) (by decide) hv
      obtain ⟨r, hr⟩ : ∃ r, r = rt 3 v := ⟨_, rfl⟩
      rw [← hr] at WC hrs ⊢
      clear hr
      go_enter Tryz.func28, Tryz.ntmps28
      go_wp2_with fail
      refine Calls.mono AC.out ?_
      rintro e w ⟨rfl, rfl⟩
      go_wp2_with fail
      refine Calls.mono WC.out ?_
      rintro e w2 ⟨rfl, b2⟩
      clear AC WC
      go_wp2_with fail
      refine Calls.mono (word_calls (r : Int) w2 (by omega) (by omega)) ?_
      rintro e w3 ⟨a3, n3, rfl, hn3, hO3, b3⟩
      rw [Int.toNat_natCast] at hn3 hO3
      have HN3 : Hid _ := hn3
      clear hn3
      go_wp2_with fail
      go_ret
      exact ⟨a3, n3, rfl, HN3.out, hO3.low b2.size, nbelow_trans b2 b3⟩
    · have hv : ¬ v < 18446744073709551616 := many_words (by rw [← HN.out]; omega)
      have HVV : Hid (18446744073709551616 ≤ v) := by rw [Hid]; omega
      have hbl : blen v ≤ 65536 := by have := (words_len2 n v).1 (by rw [← HN.out]; exact Nat.le_refl _); omega
      have hbg : 64 < blen v := by
        rcases Nat.lt_or_ge 64 (blen v) with q | q
        · exact q
        · exact absurd ((blen_le v 64).1 q) (by have : (2 : Nat) ^ 64 = 18446744073709551616 := rfl; omega)
      have BC : Hid _ := bits_calls a n v w hA (by omega)
      obtain ⟨bl, hb⟩ : ∃ bl, bl = blen v := ⟨_, rfl⟩
      rw [← hb] at BC hbl hbg
      obtain ⟨s, hs⟩ : ∃ s, s = bl / 6 := ⟨_, rfl⟩
      have z1 : (bl : Int) / 6 = (s : Int) := by omega
      have z2 : (bl : Int).tdiv 6 = (s : Int) := by rw [Int.tdiv_eq_ediv_of_nonneg (by omega)]; omega
      have hsb : s ≤ 20000 := by omega
      have hs1 : 1 ≤ s := by omega
      have HS : Hid (s = blen v / 6) := by rw [Hid, ← hb]; exact hs
      clear hb hs hv
      obtain ⟨t, ht⟩ : ∃ t, t = s * 3 := ⟨_, rfl⟩
      have z3 : (s : Int) * 3 = (t : Int) := by omega
      have RC : Hid _ := right_calls a n t (wordsOf v) w hA hn (by omega)
      rw [val_words] at RC
      obtain ⟨u, hu⟩ : ∃ u, u = v / 2 ^ t := ⟨_, rfl⟩
      rw [← hu] at RC
      have huv : u < v := by
        rw [hu]
        have hv0 := HVV.out
        exact Nat.div_lt_self (by omega) (Nat.one_lt_pow (by omega) (by decide))
      have HRR : Hid (∀ p, p = rt 3 u → 0 < p → rt 3 v ≤ (p + 1) * 2 ^ s ∧ 0 < (p + 1) * 2 ^ s ∧ ((p + 1) * 2 ^ s) ^ 2 ≤ v) := fun p hp hp0 => by
        rw [hu, ht] at hp
        exact start3 HVV.out hp hp0
      have HU0 : Hid (0 < u) := by
        rw [Hid, hu]
        refine Nat.div_pos ?_ (Nat.pow_pos (by decide))
        have h2 := blen_ge v (by have := HVV.out; omega)
        refine Nat.le_trans (Nat.pow_le_pow_right (by decide) ?_) h2
        rw [ht, HS.out]; have := hbg; omega
      have HUV : Hid (u < v) := huv
      have htb : t ≤ 65536 := by omega
      clear ht hu huv
      go_enter Tryz.func28, Tryz.ntmps28
      go_wp2_with fail
      refine Calls.mono BC.out ?_
      rintro e w ⟨rfl, rfl⟩
      go_wp2_with fail
      refine Calls.mono RC.out ?_
      rintro e w2 ⟨a2, n2, M2, rfl, hO2, hv2, hn2, b2⟩
      have HV2 : Hid (val M2 = u) := hv2
      clear RC BC hv2 z1 z2 z3
      go_wp2_with fail
      refine Calls.mono (trimW_pack _ a2 n2 n2 M2 w2 hO2 (by omega)) ?_
      rintro e w2 ⟨a3, n3, rfl, hn3, hO3, rfl⟩
      rw [HV2.out] at hO3 hn3
      have hn3b : n3 ≤ 1024 := by rw [hn3]; exact words_fit (Nat.le_of_lt HUV.out) HN.out hn
      have IC : Hid _ := HIH.out u HUV.out a3 n3 w2 hO3.1 hn3b
      obtain ⟨p, hp⟩ : ∃ p, p = rt 3 u := ⟨_, rfl⟩
      rw [← hp] at IC
      have HP : Hid _ := HRR.out p hp (by rw [hp]; exact rt_pos (by decide) HU0.out)
      have HPU : Hid (p ≤ u) := by rw [Hid, hp]; exact rt_self (by decide)
      have HA2 : Hid (IsW w2 a n n (wordsOf v)) := hA.keep b2
      clear HIH hO2 hn3 HV2 hp HRR hA
      go_wp2_with fail
      refine Calls.mono IC.out ?_
      rintro e w4 ⟨a4, n4, rfl, hn4, hO4, b4⟩
      have hn4b : n4 ≤ 1024 := by rw [hn4]; exact Nat.le_trans (words_mono HPU.out) (words_fit (Nat.le_of_lt HUV.out) HN.out hn)
      have b24 := nbelow_trans b2 b4
      have HA4 : Hid (IsW w4 a n n (wordsOf v)) := HA2.out.keep b4
      clear IC hn4 hO3 HA2
      go_wp2_with fail
      refine Calls.mono (word_calls 1 w4 (by decide) (by decide)) ?_
      rintro e w5 ⟨a5, n5, rfl, hn5, hO5, b5⟩
      have hn5b : n5 ≤ 1 := by rw [hn5]; exact words_small _ (by decide)
      have hO45 := hO4.keep b5
      have b25 := nbelow_trans b24 b5
      clear hn5 hO4
      go_wp2_with fail
      refine Calls.mono (plus_calls a4 a5 n4 n5 _ _ w5 hO45.1 hO5.1 (by omega) (by omega)) ?_
      rintro e w6 ⟨a6, n6, M6, rfl, hO6, hv6, hn6, b6⟩
      rw [val_words, val_words] at hv6
      have HV6 : Hid (val M6 = p + 1) := hv6
      have b26 := nbelow_trans b25 b6
      have HA6 : Hid (IsW w6 a n n (wordsOf v)) := (HA4.out.keep b5).keep b6
      have hn6b : n6 ≤ 1025 := by omega
      clear hv6 hO45 hO5 hn6 HA4
      go_wp2_with fail
      refine Calls.mono (trimW_pack _ a6 n6 n6 M6 w6 hO6 (by omega)) ?_
      rintro e w6 ⟨a7, n7, rfl, hn7, hO7, rfl⟩
      rw [HV6.out] at hO7 hn7
      have hn7b : n7 ≤ 1024 := by rw [hn7]; exact words_fit (Nat.le_trans (Nat.succ_le_succ HPU.out) HUV.out) HN.out hn
      clear hO6 hn7 HV6
      go_wp2_with fail
      refine Calls.mono (left_calls a7 n7 s _ w6 hO7.1 hn7b (by omega)) ?_
      rintro e w8 ⟨a8, n8, M8, rfl, hO8, hv8, hn8, b8⟩
      rw [val_words] at hv8
      have HV8 : Hid (val M8 = (p + 1) * 2 ^ s) := hv8
      have b28 := nbelow_trans b26 b8
      have HA8 : Hid (IsW w8 a n n (wordsOf v)) := HA6.out.keep b8
      have hn8b : n8 ≤ 5000 := by omega
      have hs6 := b26.size
      clear hv8 hO7 HA6 hn8
      go_wp2_with fail
      refine Calls.mono (trimW_pack _ a8 n8 n8 M8 w8 hO8 (by omega)) ?_
      rintro e w8 ⟨a9, n9, rfl, hn9, hO9, rfl⟩
      rw [HV8.out] at hO9 hn9
      obtain ⟨p1, p2, p3⟩ := HP.out
      have hxv : (p + 1) * 2 ^ s ≤ v := Nat.le_trans (by exact Nat.le_self_pow (by decide) _) p3
      have hn9b : n9 ≤ 1024 := by rw [hn9]; exact words_fit hxv HN.out hn
      have RB : Hid _ := rootBelow3_calls _ a a9 n n9 v _ w8 HA8.out hO9 b8.size hn hn9b p2 p3 p1
      clear hO8 hn9 HV8 hO9 p1 p2 p3 hxv
      go_wp2_with fail
      refine Calls.mono RB.out ?_
      rintro e w10 ⟨a10, n10, rfl, hn10, hO10, b10⟩
      have HN10 : Hid _ := hn10
      clear RB hn10
      go_wp2_with fail
      go_ret
      exact ⟨a10, n10, rfl, HN10.out, hO10.low hs6, nbelow_trans b28 b10⟩

end Go.Proofs.YtfmjgagajlhfoaaGreatDoor

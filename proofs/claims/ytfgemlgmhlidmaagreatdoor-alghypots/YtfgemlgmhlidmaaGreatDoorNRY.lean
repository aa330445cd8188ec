/- The walk of Pow as it is called. The walk of the document's Product. The walks of the document's powers and roots. The walk of the document's Div. -/
import Derived.Test.YtfgemlgmhlidmaaGreatDoorNRX
import Derived.Test.YtfgemlgmhlidmaaGreatDoorTMB
import Derived.Test.YtfgemlgmhlidmaaGreatDoorTMR
import Derived.Test.YtfgemlgmhlidmaaGreatDoorTMH

namespace Go.Proofs.YtfgemlgmhlidmaaGreatDoor
open Go.RowKit
end Go.Proofs.YtfgemlgmhlidmaaGreatDoor

namespace Go.Proofs.YtfgemlgmhlidmaaGreatDoor
open Go.RowKit
theorem nOf_pack (x : Nat) (w : World) (hx : x < 18446744073709551616) :
    Calls Tryz.prog 51 #[.int .u64 (x : Int)] w fun e w' => ∃ (ao : Option Addr) (n cv : Nat), e = .returned (.slice ao n cv) ∧ n = (wordsOf x).length ∧ n ≤ 1 ∧ OwnW w.heap.size w' ao n cv (wordsOf x) ∧ Below w.heap.size w w' := by
  refine Calls.mono (nOf_calls (x : Int) w (by omega) (by omega)) ?_
  rintro e w' ⟨ao, cv, rfl, hO, hb⟩
  rw [Int.toNat_natCast] at hO ⊢
  exact ⟨ao, _, cv, rfl, rfl, (words_len 1 x).2 (by simpa using hx), hO.ownW (words_U _) rfl, hb⟩
theorem pow_words (j K : Nat) (h : j < 64 * K) : (wordsOf (2 ^ j)).length ≤ K := (words_len2 K _).2 ((blen_le _ _).2 (Nat.pow_lt_pow_right (by decide) h))
theorem words_mul (x y n m : Nat) (hx : (wordsOf x).length ≤ n) (hy : (wordsOf y).length ≤ m) : (wordsOf (x * y)).length ≤ n + m := by
  rw [words_len] at hx hy ⊢
  rw [Nat.pow_add]
  exact Nat.mul_lt_mul'' hx hy
set_option maxRecDepth 100000 in
set_option maxHeartbeats 1000000 in
theorem nPow_calls (a : Option Addr) (len cap : Nat) (xs : List Int) (k : Nat) (w : World) (h : IsW w a len cap xs) (hm : len ≤ 17592186044000) (hu : (wordsOf (val xs)).length ≤ 3000) (hk : k ≤ 3) :
    Calls Tryz.prog 97 #[.slice a len cap, .int .i64 (k : Int)] w fun e w' => ∃ (ao : Option Addr) (n cv : Nat), e = .returned (.slice ao n cv) ∧ n = (wordsOf (val xs ^ k)).length ∧ n ≤ 9001 ∧ OwnW w.heap.size w' ao n cv (wordsOf (val xs ^ k)) ∧ Below w.heap.size w w' := by
  have HH : Hid (IsW w a len cap xs) := h
  have HU : Hid ((wordsOf (val xs)).length ≤ 3000) := hu
  clear h hu
  go_enter Tryz.func97, Tryz.ntmps97
  go_wp2_with fail
  refine Calls.mono (nOf_pack 1 w (by decide)) ?_
  rintro e w1 ⟨a1, n1, c1, rfl, hn1, hn1b, hO1, b1⟩
  have H0 : Hid (n1 = (wordsOf 1).length ∧ OwnW w.heap.size w1 a1 n1 c1 (wordsOf 1) ∧ Below w.heap.size w w1) := ⟨hn1, hO1, b1⟩
  clear hn1 hO1 b1
  go_wp2_with fail
  go_loopw [5, 6] (fun vo vi wr => ∃ (i n c : Nat) (ao : Option Addr), i ≤ k ∧ vi = .int .i64 i ∧ vo = .slice ao n c ∧ Hid (n = (wordsOf (val xs ^ i)).length) ∧ n ≤ 1 + 3000 * i ∧ OwnW w.heap.size wr ao n c (wordsOf (val xs ^ i)) ∧ Below w.heap.size w wr) (fun _ vi _ => k - (intOf vi).toNat)
  case atStart => exact ⟨0, n1, c1, a1, by omega, rfl, rfl, by rw [Nat.pow_zero]; exact H0.out.1, by omega, by rw [Nat.pow_zero]; exact H0.out.2.1, H0.out.2.2⟩
  case round =>
    clear H0
    obtain ⟨i, n, c, ao, hi, rfl, rfl, HN, hn, hO, hbr⟩ := hrel
    by_cases hlt : i < k
    · have MC : Hid _ := nMul_calls ao a n c len cap _ xs wr hO.1 (HH.out.keep hbr) (by omega) (by omega) (by rw [val_words, ← HN.out]; have := HU.out; omega)
      rw [val_words] at MC
      have HW : Hid ((wordsOf (val xs ^ i * val xs)).length ≤ n + 3000) := words_mul _ _ _ _ (by rw [← HN.out]; exact Nat.le_refl _) HU.out
      have HP : Hid (val xs ^ i * val xs = val xs ^ (i + 1)) := (Nat.pow_succ ..).symm
      have hsz := hbr.size
      clear hO
      go_wp2_with fail
      refine Calls.mono MC.out ?_
      rintro e w2 ⟨a2, c2, rfl, hO2, b2⟩
      have hO3 := hO2.ownW (words_U _) rfl
      obtain ⟨n2, hn2⟩ : ∃ n2, n2 = (wordsOf (val xs ^ i * val xs)).length := ⟨_, rfl⟩
      rw [← hn2] at hO3 HW ⊢
      rw [HP.out] at hO3
      have HN2 : Hid (n2 = (wordsOf (val xs ^ (i + 1))).length) := by rw [Hid, ← HP.out]; exact hn2
      have hn2b : n2 ≤ n + 3000 := HW.out
      clear hO2 hn2 MC
      go_wp2_with fail
      refine ⟨⟨i + 1, n2, c2, a2, by omega, by go_num, rfl, HN2, by omega, hO3.low hsz, nT hbr b2⟩, by simp [intOf]; omega⟩
    · have hik : i = k := by omega
      have HE : Hid (n = (wordsOf (val xs ^ k)).length ∧ n ≤ 9001 ∧ OwnW w.heap.size wr ao n c (wordsOf (val xs ^ k))) := by
        rw [Hid, ← hik]; exact ⟨HN.out, by omega, hO⟩
      clear hik hO HN
      go_wp2_with fail
      go_ret
      exact ⟨ao, n, c, rfl, HE.out.1, HE.out.2.1, HE.out.2.2, hbr⟩
set_option maxRecDepth 100000 in
set_option maxHeartbeats 1000000 in
theorem nRoot2_calls (a : Option Addr) (len cap : Nat) (xs : List Int) (w : World) (h : IsW w a len cap xs) (hm : len ≤ 17592186044000) (hg : greatB (val xs) = false) :
    Calls Tryz.prog 52 #[.slice a len cap, .int .i64 2] w fun e w' => ∃ v v', e = .returned (.tuple #[v, v']) ∧ NatAt w.heap.size w' v (rt 2 (val xs)) ∧ NatAt w.heap.size w' v' (val xs - rt 2 (val xs) ^ 2) ∧ Below w.heap.size w w' := by
  have HH : Hid (IsW w a len cap xs) := h
  have LC : Hid _ := nLen_calls a len cap xs w h (by omega)
  have hbl : blen (val xs) ≤ 65536 := (great_not _).1 hg
  obtain ⟨V, hV⟩ : ∃ V, V = val xs := ⟨_, rfl⟩
  have HV : Hid (V = val xs) := hV
  have HG : Hid (greatB V = false) := by rw [hV]; exact hg
  rw [← hV] at LC hbl ⊢
  obtain ⟨bl, hb⟩ : ∃ bl, bl = blen V := ⟨_, rfl⟩
  rw [← hb] at LC hbl
  obtain ⟨Z, hZ⟩ : ∃ Z, Z = bl / 2 := ⟨_, rfl⟩
  have z1 : (bl : Int) / 2 = (Z : Int) := by omega
  have z2 : (bl : Int).tdiv 2 = (Z : Int) := by rw [Int.tdiv_eq_ediv_of_nonneg (by omega)]; omega
  have HS : Hid (RtInv 2 V 0 (Z + 1)) := rt_start (by decide) (Nat.lt_of_lt_of_le (lt_blen V) (Nat.pow_le_pow_right (by decide) (by omega)))
  have hZb : Z ≤ 32768 := by omega
  clear h hg hV hb hZ
  go_enter Tryz.func52, Tryz.ntmps52
  go_wp2_with fail
  refine Calls.mono LC.out ?_
  rintro e w1 ⟨rfl, b1⟩
  clear LC
  go_wp2_with fail
  clear z1 z2
  go_loopw [6, 7] (fun vr vi wr => ∃ (j r n c : Nat) (ao : Option Addr), j ≤ Z + 1 ∧ vi = .int .i64 ((j : Int) - 1) ∧ vr = .slice ao n c ∧ Hid (n = (wordsOf r).length) ∧ Hid (RtInv 2 V r j) ∧ OwnW w.heap.size wr ao n c (wordsOf r) ∧ Below w.heap.size w wr) (fun _ vi _ => (intOf vi + 1).toNat)
  case atStart => exact ⟨Z + 1, 0, 0, 0, none, Nat.le_refl _, by go_num, rfl, by rw [Hid, words_zero]; rfl, HS, by rw [words_zero]; exact ownW_nil _ _, b1⟩
  case round =>
    clear HS b1
    obtain ⟨j, r, n, c, ao, hj, rfl, rfl, HN, HI, hO, hbr⟩ := hrel
    have hrv : r ≤ V := Nat.le_trans (HI.out.le (by decide)) (rt_self (by decide))
    have hn : n ≤ 1024 := by rw [HN.out]; exact (great_len _).1 (great_mono hrv HG.out)
    have hsz := hbr.size
    clear hrv
    cases j with
    | zero =>
      rw [show (((0 : Nat) : Int) - 1) = -1 from rfl]
      have HE : Hid (r = rt 2 V) := rt_end (by decide) HI.out
      have PC : Hid _ := nPow_calls ao n c (wordsOf r) 2 wr hO.1 (by omega) (by rw [val_words, ← HN.out]; omega) (by decide)
      rw [val_words] at PC
      have HLE : Hid (r ^ 2 ≤ V) := HI.out.2.1
      go_wp2_with fail
      refine Calls.mono PC.out ?_
      rintro e w2 ⟨a2, n2, c2, rfl, hn2, hn2b, hO2, b2⟩
      have hb2 := nT hbr b2
      have SC : Hid _ := nSub_calls a a2 len cap n2 c2 xs _ w2 (HH.out.keep hb2) hO2.1 (by omega) (by omega) (by rw [val_words, ← HV.out]; exact HLE.out)
      rw [val_words, ← HV.out] at SC
      have hO3 := hO.keep b2
      clear PC hn2 hO hO2
      go_wp2_with fail
      refine Calls.mono SC.out ?_
      rintro e w4 ⟨a4, c4, rfl, hO4, b4⟩
      have HA : Hid (NatAt w.heap.size w4 (.slice ao n c) (rt 2 V)) := by rw [Hid, ← HE.out]; exact ⟨ao, n, c, rfl, HN.out, hO3.keep b4⟩
      have HB : Hid (NatAt w.heap.size w4 (.slice a4 (wordsOf (V - r ^ 2)).length c4) (V - rt 2 V ^ 2)) := by rw [Hid, ← HE.out]; exact ⟨a4, _, c4, rfl, rfl, (hO4.ownW (words_U _) rfl).low hb2.size⟩
      generalize (wordsOf (V - r ^ 2)).length = n4 at *
      clear SC hO3 hO4
      go_wp2_with fail
      go_ret2
      exact ⟨_, _, rfl, HA.out, HB.out, nT hb2 b4⟩
    | succ j =>
      have ek : (((j + 1 : Nat) : Int) - 1) = (j : Int) := by omega
      rw [ek]
      have HIY : Hid ((r + 2 ^ j) ^ 2 ≤ V → RtInv 2 V (r + 2 ^ j) j) := rt_yes HI.out
      have HIN : Hid (¬ (r + 2 ^ j) ^ 2 ≤ V → RtInv 2 V r j) := rt_no HI.out
      clear ek HI
      go_wp2_with fail
      refine Calls.mono (nOf_pack 1 wr (by decide)) ?_
      rintro e w2 ⟨a2, n2, c2, rfl, hn2, hn2b, hO2, b2⟩
      have hb2 := nT hbr b2
      have hO3 := hO.keep b2
      have SC : Hid _ := nShl_calls a2 n2 c2 j (wordsOf 1) w2 hO2.1 (by omega) (by omega)
      rw [val_words, Nat.one_mul] at SC
      clear hn2 hO hO2
      go_wp2_with fail
      refine Calls.mono SC.out ?_
      rintro e w4 ⟨a4, c4, rfl, hO4, b4⟩
      have hO4' := hO4.ownW (words_U _) rfl
      obtain ⟨n4, hn4⟩ : ∃ n4, n4 = (wordsOf (2 ^ j)).length := ⟨_, rfl⟩
      rw [← hn4] at hO4' ⊢
      have hn4b : n4 ≤ 600 := by
        rw [hn4]; exact pow_words j 600 (by omega)
      have hb4 := nT hb2 b4
      have hO5 := hO3.keep b4
      have AC : Hid _ := nAdd_calls ao a4 n c n4 c4 _ _ w4 hO5.1 hO4'.1 (by omega) (by omega)
      rw [val_words, val_words] at AC
      have HWB : Hid ((wordsOf (r + 2 ^ j)).length ≤ 1100) := by
        have h1 := sum_words hO5.1.2.1 hO4'.1.2.1
        rw [val_words, val_words, ← hO5.1.1, ← hO4'.1.1] at h1
        rw [Hid]; omega
      clear SC hn4 hO4 hO3 hO4'
      go_wp2_with fail
      refine Calls.mono AC.out ?_
      rintro e w6 ⟨a6, c6, rfl, hO6, b6⟩
      have hO6' := hO6.ownW (words_U _) rfl
      obtain ⟨n6, hn6⟩ : ∃ n6, n6 = (wordsOf (r + 2 ^ j)).length := ⟨_, rfl⟩
      rw [← hn6] at hO6' HWB ⊢
      have HN6 : Hid (n6 = (wordsOf (r + 2 ^ j)).length) := hn6
      have hn6b : n6 ≤ 1100 := HWB.out
      have hb6 := nT hb4 b6
      have hO7 := hO5.keep b6
      have PC : Hid _ := nPow_calls a6 n6 c6 _ 2 w6 hO6'.1 (by omega) (by rw [val_words, ← hn6]; omega) (by decide)
      rw [val_words] at PC
      clear AC hn6 hO6 hO5
      go_wp2_with fail
      refine Calls.mono PC.out ?_
      rintro e w8 ⟨a8, n8, c8, rfl, hn8, hn8b, hO8, b8⟩
      have hb8 := nT hb6 b8
      have hO9 := hO7.keep b8
      have hO10 := hO6'.keep b8
      have CC : Hid _ := nCmp_calls a8 a n8 c8 len cap _ xs w8 hO8.1 (HH.out.keep hb8) (by omega) (by omega)
      rw [val_words, ← HV.out] at CC
      have hs4 := hb4.size
      clear PC hn8 hO8 hO7 hO6'
      by_cases hle : (r + 2 ^ j) ^ 2 ≤ V
      · have HI2 : Hid (RtInv 2 V (r + 2 ^ j) j) := HIY.out hle
        obtain ⟨N, hN⟩ : ∃ N, N = cmpN ((r + 2 ^ j) ^ 2) V := ⟨_, rfl⟩
        have hN0 : N ≤ 0 := by rw [hN]; unfold cmpN; split <;> (try split) <;> omega
        rw [← hN] at CC
        clear hN hle HIY HIN
        go_wp2_with fail
        refine Calls.mono CC.out ?_
        rintro e w8 ⟨rfl, rfl⟩
        go_wp2_with fail
        refine ⟨⟨j, r + 2 ^ j, n6, c6, a6, by omega, rfl, rfl, HN6, HI2, hO10.low hs4, hb8⟩, by simp [intOf]⟩
      · have HI2 : Hid (RtInv 2 V r j) := HIN.out hle
        obtain ⟨N, hN⟩ : ∃ N, N = cmpN ((r + 2 ^ j) ^ 2) V := ⟨_, rfl⟩
        have hN0 : 0 < N := by rw [hN]; unfold cmpN; rw [if_neg (by omega), if_pos (by omega)]; decide
        rw [← hN] at CC
        clear hN hle HIY HIN
        go_wp2_with fail
        refine Calls.mono CC.out ?_
        rintro e w8 ⟨rfl, rfl⟩
        go_wp2_with fail
        refine ⟨⟨j, r, n, c, ao, by omega, rfl, rfl, HN, HI2, hO9, hb8⟩, by simp [intOf]⟩
theorem NatAt.other {B : Nat} {w : World} {v : Value} {r : Nat} (h : NatAt B w v r) (p : Addr) (u : Value) (hp : p.block < B) : NatAt B (w.setCell p u) v r := by
  obtain ⟨ao, n, c, e1, e2, h3⟩ := h
  by_cases h0 : n = 0
  · subst h0
    refine ⟨ao, 0, c, e1, e2, ⟨h3.1.1, h3.1.2.1, h3.1.2.2.1, fun i hi => absurd hi (by omega)⟩, fun b off i _ hi => absurd hi (by omega)⟩
  · exact ⟨ao, n, c, e1, e2, h3.other p u fun b off e => by have := (h3.2 b off 0 e (by omega)).1; omega⟩
def DivInv (u v q r D k : Nat) : Prop := u = q * v + r ∧ r < v * 2 ^ k ∧ (∃ Q, q = Q * 2 ^ k) ∧ (0 < k → D = v * 2 ^ (k - 1))
theorem DivInv.take {u v q r D i : Nat} (h : DivInv u v q r D (i + 1)) (hd : D ≤ r) : DivInv u v (q + 2 ^ i) (r - D) (D / 2) i := by
  obtain ⟨h1, h2, ⟨Q, h3⟩, h4⟩ := h
  have h4 := h4 (by omega)
  rw [Nat.add_sub_cancel] at h4
  refine ⟨?_, ?_, ⟨2 * Q + 1, ?_⟩, fun hi => ?_⟩
  · rw [Nat.add_mul, Nat.mul_comm (2 ^ i), ← h4]; omega
  · rw [Nat.pow_succ, ← Nat.mul_assoc, ← h4] at h2; rw [← h4]; omega
  · rw [h3, Nat.add_mul, Nat.pow_succ, Nat.one_mul, Nat.mul_comm 2 Q, Nat.mul_assoc Q, Nat.mul_comm 2]
  · obtain ⟨j, rfl⟩ : ∃ j, i = j + 1 := ⟨i - 1, by omega⟩
    rw [h4, Nat.add_sub_cancel, Nat.pow_succ, ← Nat.mul_assoc, Nat.mul_div_cancel _ (by decide)]
theorem DivInv.done {u v q r D : Nat} (h : DivInv u v q r D 0) : q = u / v ∧ r = u % v := by
  obtain ⟨h1, h2, _, _⟩ := h
  rw [Nat.pow_zero, Nat.mul_one] at h2
  subst h1
  rw [Nat.mul_comm q v, Nat.mul_add_div (by omega), Nat.div_eq_of_lt h2, Nat.mul_add_mod, Nat.mod_eq_of_lt h2]
  exact ⟨by omega, rfl⟩
end Go.Proofs.YtfgemlgmhlidmaaGreatDoor

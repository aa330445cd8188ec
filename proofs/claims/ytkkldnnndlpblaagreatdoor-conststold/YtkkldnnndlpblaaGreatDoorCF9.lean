/- Package consts: its decimal digits. -/
import Derived.Test.YtkkldnnndlpblaaGreatDoorCF8
namespace Go.Proofs.YtkkldnnndlpblaaGreatDoor
open Go.RowKit Ck

theorem ba_app (a b : ByteArray) : (a ++ b).data.toList = a.data.toList ++ b.data.toList := by
  rw [ByteArray.data_append, Array.toList_append]
theorem ba_ext (a : ByteArray) (i j : Nat) : (a.extract i j).data.toList = (a.data.toList.drop i).take (j - i) := by
  rw [ByteArray.data_extract, Array.toList_extract, List.extract_eq_take_drop]
/-- the digits of a number, with noughts ahead, so that more than n are there -/
def dgL (n q : Nat) : List UInt8 := List.replicate (n + 1 - Lib.nDigits q) 48 ++ Lib.decDigits q
/-- the digits, with a point ahead of the last n -/
def dgT (n q : Nat) : List UInt8 := (dgL n q).take ((dgL n q).length - n) ++ (46 :: (dgL n q).drop ((dgL n q).length - n))
theorem dgL_len (n q : Nat) : (dgL n q).length = n + 1 - Lib.nDigits q + Lib.nDigits q := by
  unfold dgL; rw [List.length_append, List.length_replicate, Lib.decDigits_length]
theorem padk_len (k : Nat) : ∀ r, (padk k r).length = k := by
  induction k with
  | zero => intro r; rfl
  | succ k ih => intro r; unfold padk; rw [List.length_append, ih]; rfl
theorem dgT_front (n d q : Nat) (h : 0 < q / 10 ^ d) : dgT (n + d) q = dgT n (q / 10 ^ d) ++ padk d (q % 10 ^ d) := by
  have hq : q = q / 10 ^ d * 10 ^ d + q % 10 ^ d := by rw [Nat.mul_comm]; exact (Nat.div_add_mod q (10 ^ d)).symm
  have hr : q % 10 ^ d < 10 ^ d := Nat.mod_lt _ (Nat.pow_pos (by decide))
  have e1 : Lib.decDigits q = Lib.decDigits (q / 10 ^ d) ++ padk d (q % 10 ^ d) := by
    have := dec_pad d (q / 10 ^ d) (q % 10 ^ d) h hr
    rw [← hq] at this
    exact this
  have e2 : Lib.nDigits q = Lib.nDigits (q / 10 ^ d) + d := by
    rw [← Lib.decDigits_length, e1, List.length_append, padk_len, Lib.decDigits_length]
  have e3 : dgL (n + d) q = dgL n (q / 10 ^ d) ++ padk d (q % 10 ^ d) := by
    unfold dgL
    rw [e1, e2, show n + d + 1 - (Lib.nDigits (q / 10 ^ d) + d) = n + 1 - Lib.nDigits (q / 10 ^ d) by omega, List.append_assoc]
  have e4 := dgL_len n (q / 10 ^ d)
  unfold dgT
  rw [e3, List.length_append, padk_len, show (dgL n (q / 10 ^ d)).length + d - (n + d) = (dgL n (q / 10 ^ d)).length - n by omega]
  rw [List.take_append_of_le_length (by omega), List.drop_append_of_le_length (by omega)]
  simp

set_option maxRecDepth 100000 in
set_option maxHeartbeats 2000000 in
theorem digitsC_good (K N : Nat) (g1 : 1 ≤ K) (g2 : K ≤ 7) (g3 : 1 ≤ N) (g4 : N ≤ 500) (w : World) (hT : RecT w) (hP : TabP w) :
    Calls Tryz.prog 17 #[.int .u8 (K : Int), .int .i64 (N : Int)] w fun r w' => ((∃ (q : Nat) (S : ByteArray), r = .returned (.tuple #[.string S, .int .i64 0]) ∧ S.data.toList = dgT N q ∧ TW K (10 ^ N) q) ∨ (r = .returned (.tuple #[.string ⟨#[]⟩, .int .i64 6]) ∧ eLo K 8192 * 10 ^ N / 2 ^ 8192 ≠ eHi K 8192 * 10 ^ N / 2 ^ 8192)) ∧ Below w.heap.size w w' := by
  have hd : knB (K : Int) = true := decide_eq_true (by omega)
  have h10 : 10 ^ N < 2 ^ (4 * N) := by
    rw [Nat.pow_mul]
    exact Nat.pow_lt_pow_left (by decide) (by omega)
  have gF : greatB (10 ^ N) = false := cf_great h10 (by omega)
  have g10 : greatB 10 = false := cf_great (k := 64) (by decide) (by decide)
  have HL : Hid (blen (10 ^ N) ≤ 2100) := Nat.le_trans ((blen_le _ _).2 h10) (by omega)
  have HD : Hid _ := hd
  have HG : Hid _ := gF
  clear hd h10 gF
  go_enter Tryz.func17, Tryz.ntmps17
  go_wp2_with fail
  refine Calls.mono (known_calls _ (by omega) (by omega) _) ?_
  rintro r w1 ⟨rfl, rfl⟩
  rw [HD.out]
  have j1 : ¬ (N : Int) < 1 := by omega
  have j2 : ¬ (500 : Int) < (N : Int) := by omega
  go_wp2_with fail
  refine Calls.mono (of_eq 10 rfl (by decide)) ?_
  rintro r w2 ⟨ao, m, d, rfl, hm, hO, b1⟩
  have PC : Hid _ := pow_eq (i := (N : Int)) hO.1 (by omega) (by omega) (r := 10 ^ N) (k := 0) (by rw [val_words]; exact cf_pow g10 HG.out)
  go_wp2_with fail
  refine Calls.mono PC.out ?_
  rintro r w3 ⟨a3, m3, d3, rfl, _, hm3, hO3, b3⟩
  have b4 := below_trans b1 b3
  clear PC hO b1 b3
  have WC : Hid _ := whole_calls K (10 ^ N) g1 g2 HL.out _ _ _ _ hO3.1 hm3 (hT.kept b4)
  have hP4 := hP.kept b4
  go_wp2_with fail
  refine Calls.mono WC.out ?_
  rintro r w4 ⟨hr, b5⟩
  have b6 := below_trans b4 b5
  have hP6 := hP4.kept b5
  clear WC hP hP4 hT
  rcases hr with ⟨a5, m5, d5, q, rfl, hm5, hO5, ht⟩ | ⟨rfl, hne⟩
  · have HT : Hid _ := ht
    have gq : greatB q = false := (great_len q).2 (by rw [← hO5.1.1]; exact hm5)
    clear ht
    have TC : Hid _ := text_calls a5 m5 d5 (wordsOf q) w4 hO5.1 (by omega) hP6
    rw [val_words] at TC
    go_wp2_with fail
    refine Calls.mono TC.out ?_
    rintro r w5 ⟨-, hr, b7⟩
    obtain rfl := hr gq
    have b8 := below_trans b6 b7
    clear hr TC hP6 hO5 b7 b6 b5 b4
    obtain ⟨D, hD⟩ : ∃ D : ByteArray, D = ⟨(Lib.decDigits q).toArray⟩ := ⟨_, rfl⟩
    rw [← hD]
    have HDD : Hid (D = ⟨(Lib.decDigits q).toArray⟩) := hD
    clear hD
    have hsz : D.size ≤ 22000 := by
      have e : D.size = Lib.nDigits q := by rw [HDD.out, ← Lib.decDigits_length]; rfl
      rw [e]
      obtain ⟨X, hX⟩ : ∃ X : Nat, X = 22000 := ⟨_, rfl⟩
      rw [← hX]
      refine nDigits_le X q ?_ (by omega)
      have h1 := (blen_le q 65536).1 ((great_not q).1 gq)
      obtain ⟨Y, hY⟩ : ∃ Y : Nat, Y = 65536 := ⟨_, rfl⟩
      rw [← hY] at h1
      refine Nat.lt_of_lt_of_le h1 (Nat.le_trans (Nat.pow_le_pow_right (by decide) (show Y ≤ 3 * X by omega)) ?_)
      rw [Nat.pow_mul]
      exact Nat.pow_le_pow_left (by decide) X
    obtain ⟨C, hC⟩ : ∃ C : Nat, C = N + 1 - D.size := ⟨_, rfl⟩
    have hm0 : max 0 ((N : Int) + 1 - (D.size : Int)) = (C : Int) := by omega
    have RC : Hid _ := Tryz.strings_Repeat ⟨#[48]⟩ C w5 (by omega) (by show 1 * C ≤ _; omega)
    have HC : Hid (C = N + 1 - D.size) := hC
    have hC2 : C ≤ 501 := by omega
    clear hC
    have w1 : IntKind.i64.wrap ((N : Int) + 1) = (N : Int) + 1 := by rw [IntKind.wrap_i64]; omega
    have w2 : IntKind.i64.wrap ((N : Int) + 1 - (D.size : Int)) = (N : Int) + 1 - (D.size : Int) := by rw [IntKind.wrap_i64]; omega
    go_wp2_with fail
    refine Calls.mono RC.out ?_
    rintro r w6 ⟨rfl, b9⟩
    have b10 := below_trans b8 b9
    obtain ⟨Z, hZ⟩ : ∃ Z : ByteArray, Z = ⟨(Lib.repeatL (⟨#[48]⟩ : ByteArray).data.toList C).toArray⟩ := ⟨_, rfl⟩
    rw [← hZ]
    have hZl : Z.data.toList = List.replicate C 48 := by rw [hZ]; exact repeat_zero C
    have hZs : Z.size = C := by
      have := congrArg List.length hZl
      rw [List.length_replicate, Array.length_toList] at this; exact this
    have HZL : Hid _ := hZl
    clear hZ hZl RC hm0 w2 b8 b9
    go_wp2_with fail
    obtain ⟨A, hA⟩ : ∃ A : ByteArray, A = Z ++ D := ⟨_, rfl⟩
    have hAs : A.size = C + D.size := by rw [hA, ByteArray.size_append, hZs]
    have HA : Hid (A = Z ++ D) := hA
    rw [← hA]
    obtain ⟨P, hP⟩ : ∃ P : Nat, P = C + D.size - N := ⟨_, rfl⟩
    have hPi : (C : Int) + (D.size : Int) - (N : Int) = (P : Int) := by have := HC.out; omega
    have HP : Hid (P = C + D.size - N) := hP
    have hPA : P ≤ A.size := by omega
    have hAb : A.size ≤ 30000 := by omega
    rw [hPi]
    clear hA hAs hP hPi hsz hC2 hZs w1
    go_quiet (fail)
    have bQ : Below w6.heap.size w6 (w6.drewN nq) := below_drewN (Below.refl _ _) nq
    go_wp2_with fail
    go_ret2
    refine ⟨Or.inl ⟨q, _, rfl, ?_, HT.out⟩, below_trans b10 bQ⟩
    have eA : A.data.toList = dgL N q := by
      rw [HA.out, ba_app, HZL.out, HC.out, HDD.out]
      unfold dgL
      rw [show (⟨(Lib.decDigits q).toArray⟩ : ByteArray).size = Lib.nDigits q by rw [← Lib.decDigits_length]; rfl]
    have eS : A.size = (dgL N q).length := by rw [← eA]; rfl
    have eP : P = (dgL N q).length - N := by
      have e1 : D.size = Lib.nDigits q := by rw [HDD.out, ← Lib.decDigits_length]; rfl
      rw [HP.out, HC.out, e1, dgL_len]
    rw [ba_app, ba_app, ba_ext, ba_ext, eA, eS]
    unfold dgT
    rw [← eP, List.drop_zero, Nat.sub_zero, List.append_assoc]
    congr 1
    show 46 :: _ = 46 :: _
    congr 1
    exact List.take_of_length_le (by rw [List.length_drop]; omega)
  · have HT : Hid _ := hne
    clear hne
    go_wp2_with fail
    go_ret2
    exact ⟨Or.inr ⟨rfl, HT.out⟩, b6⟩

set_option maxRecDepth 100000 in
set_option maxHeartbeats 2000000 in
theorem digitsC_calls (k n : Int) (h0 : 0 ≤ k) (h1 : k ≤ 255) (w : World) (hT : RecT w) (hP : TabP w) :
    Calls Tryz.prog 17 #[.int .u8 k, .int .i64 n] w fun r w' => ((¬ askB k n 500 ∧ r = .returned (.tuple #[.string ⟨#[]⟩, .int .i64 2])) ∨ (∃ K N : Nat, k = (K : Int) ∧ n = (N : Int) ∧ 1 ≤ K ∧ K ≤ 7 ∧ 1 ≤ N ∧ N ≤ 500 ∧ ((∃ (q : Nat) (S : ByteArray), r = .returned (.tuple #[.string S, .int .i64 0]) ∧ S.data.toList = dgT N q ∧ TW K (10 ^ N) q) ∨ (r = .returned (.tuple #[.string ⟨#[]⟩, .int .i64 6]) ∧ eLo K 8192 * 10 ^ N / 2 ^ 8192 ≠ eHi K 8192 * 10 ^ N / 2 ^ 8192)))) ∧ Below w.heap.size w w' := by
  by_cases hg : askB k n 500
  · obtain ⟨g1, g2, g3, g4⟩ := hg
    obtain ⟨K, rfl⟩ := Int.eq_ofNat_of_zero_le h0
    obtain ⟨N, rfl⟩ := Int.eq_ofNat_of_zero_le (show 0 ≤ n by omega)
    refine (digitsC_good K N (by omega) (by omega) (by omega) (by omega) w hT hP).mono ?_
    rintro r w' ⟨hr, hb⟩
    exact ⟨Or.inr ⟨K, N, rfl, rfl, by omega, by omega, by omega, by omega, hr⟩, hb⟩
  · have HG : Hid (¬ askB k n 500) := hg
    by_cases c1 : 1 ≤ k ∧ k ≤ 7
    · have hd : knB k = true := decide_eq_true c1
      have c2 : n < 1 ∨ 500 < n := by
        unfold askB at hg
        omega
      clear hg
      have HD : Hid _ := hd
      clear hd c1 hT hP
      by_cases c3 : n < 1
      · clear c2
        go_enter Tryz.func17, Tryz.ntmps17
        go_wp2_with fail
        refine Calls.mono (known_calls _ h0 h1 _) ?_
        rintro r w1 ⟨rfl, rfl⟩
        rw [HD.out]
        go_wp2_with fail
        go_ret2
        exact ⟨Or.inl ⟨HG.out, rfl⟩, Below.refl _ _⟩
      · have c4 : 500 < n := by omega
        clear c2
        go_enter Tryz.func17, Tryz.ntmps17
        go_wp2_with fail
        refine Calls.mono (known_calls _ h0 h1 _) ?_
        rintro r w1 ⟨rfl, rfl⟩
        rw [HD.out]
        go_wp2_with fail
        go_ret2
        exact ⟨Or.inl ⟨HG.out, rfl⟩, Below.refl _ _⟩
    · have hd : knB k = false := decide_eq_false c1
      have HD : Hid _ := hd
      clear hd hg c1 hT hP
      go_enter Tryz.func17, Tryz.ntmps17
      go_wp2_with fail
      refine Calls.mono (known_calls _ h0 h1 _) ?_
      rintro r w1 ⟨rfl, rfl⟩
      rw [HD.out]
      go_wp2_with fail
      go_ret2
      exact ⟨Or.inl ⟨HG.out, rfl⟩, Below.refl _ _⟩
end Go.Proofs.YtkkldnnndlpblaaGreatDoor

/- Package alg: numbers in units, told by closures. -/
import Derived.Test.YtionhpedghmecaaGreatDoorPAX
import Derived.Test.YtionhpedghmecaaGreatDoorNRX
import Derived.Test.YtionhpedghmecaaGreatDoorTMK
import Derived.Test.YtionhpedghmecaaGreatDoorTMB
import Derived.Test.YtionhpedghmecaaGreatDoorTMD
import Derived.Laws.EntriesVeiled
namespace Go.Proofs.YtionhpedghmecaaGreatDoor
open Go.RowKit
theorem or_oneA (x : Int) (h0 : 0 ≤ x) (h1 : x ≤ 18446744073709551615) : bits .or .u64 x 1 = 2 * (x / 2) + 1 := by
 obtain ⟨n, rfl⟩ := Int.eq_ofNat_of_zero_le h0
 rw [u64_or _ _ h0 (by omega) (by omega) (by omega)]
 simp only [Int.reduceToNat, Int.toNat_natCast]
 have k : n ||| 1 = 2 * (n / 2) + 1 := by
  apply Nat.eq_of_testBit_eq
  intro i
  rw [Nat.testBit_or]
  cases i with
  | zero => simp [Nat.testBit_zero]
  | succ i =>
   rw [Nat.testBit_succ, Nat.testBit_succ, Nat.testBit_succ, show (1 : Nat) / 2 = 0 by decide, show (2 * (n / 2) + 1) / 2 = n / 2 by omega]
   simp
 rw [k]
 omega
theorem words_markA (m : Nat) (h : m ≠ 0) : (wordsOf m).set 0 (2 * ((m % 18446744073709551616 : Nat) / 2 : Int) + 1) = wordsOf (2 * (m / 2) + 1) := by
 rw [words_pos m h, words_pos (2 * (m / 2) + 1) (by omega)]
 simp only [List.set_cons_zero]
 congr 1
 ·omega
 ·congr 1
  omega
set_option maxRecDepth 100000 in
set_option maxHeartbeats 1000000 in
theorem shift_calls (a : Option Addr) (len cap : Nat) (xs : List Int) (i : Int) (w : World) (h : IsW w a len cap xs) (hm : len ≤ 17592186044416) (hg : greatB (val xs) = false) (h0 : val xs ≠ 0) (hi : -9223372036854775807 ≤ i) (hf : i ≤ 65536 - (blen (val xs) : Int)) :
  Calls Tryz.prog 49 #[.slice a len cap, .int .i64 i] w fun r w' => ∃ (ao : Option Addr) (n c : Nat), r = .returned (.tuple #[.slice ao n c, .bool (agL (val xs) i)]) ∧ Hid (n = (wordsOf (agA (val xs) i)).length) ∧ n ≤ 1024 ∧ OwnW w.heap.size w' ao n c (wordsOf (agA (val xs) i)) ∧ Below w.heap.size w w' := by
 by_cases hn : i < 0
 ·obtain ⟨e1, e2, e3⟩ := ag_neg hn hg
  have SC : Hid _ := shr_eq h hm (show -i ≤ 9223372036854775807 by omega) e2 e3 e1
  have hi2 : i ≤ 9223372036854775807 := by omega
  clear e1 e2 e3 h hm hg h0 hf
  generalize agL (val xs) i = L at *
  generalize agA (val xs) i = A at *
  go_enter Tryz.func49, Tryz.ntmps49
  go_wp2_with fail
  refine Calls.mono SC.out ?_
  rintro e w1 ⟨ao, n, c, rfl, HN, hn, hO, b⟩
  go_wp2_with fail
  go_ret2
  exact ⟨ao, n, c, rfl, HN, hn, hO, b⟩
 ·obtain ⟨e1, e2⟩ := ag_pos (by omega) hg h0 hf
  have SC : Hid _ := shl_eq h hm e1
  rw [e2]
  clear e1 e2 h hm hg h0 hf
  generalize agA (val xs) i = A at *
  go_enter Tryz.func49, Tryz.ntmps49
  go_wp2_with fail
  refine Calls.mono SC.out ?_
  rintro e w1 ⟨ao, n, c, rfl, HN, hn, hO, b⟩
  go_wp2_with fail
  go_ret2
  exact ⟨ao, n, c, rfl, HN, hn, hO, b⟩
set_option maxRecDepth 100000 in
set_option maxHeartbeats 1000000 in
theorem amountF_calls (X : Nat) (a : Option Addr) (len cap : Nat) (xs : List Int) (e n i : Int) (w : World) (h : IsW w a len cap xs) (hm : len ≤ 17592186044416) (hg : greatB (val xs) = false) (h0 : val xs ≠ 0) (c1 : w.cell? ⟨X, 1, none⟩ = some (.slice a len cap)) (c2 : w.cell? ⟨X, 2, none⟩ = some (.int .i64 e)) (hin : IntKind.i64.wrap (e + n) = i) (hi : -9223372036854775807 ≤ i) (hf : i ≤ 65536 - (blen (val xs) : Int)) :
  Calls Tryz.prog 48 #[.int .i64 n, .pointer (some ⟨X, 0, none⟩)] w fun r w' => ∃ (ao : Option Addr) (n c : Nat), r = .returned (.tuple #[.slice ao n c, .bool (agL (val xs) i)]) ∧ Hid (n = (wordsOf (agA (val xs) i)).length) ∧ n ≤ 1024 ∧ OwnW w.heap.size w' ao n c (wordsOf (agA (val xs) i)) ∧ Below w.heap.size w w' := by
 have SC : Hid _ := shift_calls a len cap xs i w h hm hg h0 hi hf
 clear h hm hg h0 hf hi
 generalize agL (val xs) i = L at *
 generalize agA (val xs) i = A at *
 go_enter Tryz.func48, Tryz.ntmps48
 go_wp2_with fail
 refine Calls.mono SC.out ?_
 rintro e w1 ⟨ao, n, c, rfl, HN, hn, hO, b⟩
 go_wp2_with fail
 go_ret2
 exact ⟨ao, n, c, rfl, HN, hn, hO, b⟩
theorem of_one (w : World) : Calls Tryz.prog 43 #[.int .u64 1] w fun e w' => ∃ (ao : Option Addr) (n c : Nat), e = .returned (.slice ao n c) ∧ Hid (n = (wordsOf 1).length) ∧ n ≤ 1024 ∧ OwnW w.heap.size w' ao n c (wordsOf 1) ∧ Below w.heap.size w w' := of_eq 1 w (by decide)
set_option maxRecDepth 100000 in
set_option maxHeartbeats 1000000 in
theorem teller_calls (s : Bool) (e : Int) (l : Bool) (w : World) :
  Calls Tryz.prog 25 #[.bool s, .int .i64 e, .bool l] w fun r w' => ∃ X Y Z : Nat, r = .returned (.func (.func 50) #[] #[.pointer (some ⟨Z, 0, none⟩), .pointer (some ⟨X, 0, none⟩), .pointer (some ⟨Y, 0, none⟩)]) ∧ w'.cell? ⟨X, 0, none⟩ = some (.bool s) ∧ w'.cell? ⟨Y, 0, none⟩ = some (.int .i64 e) ∧ w'.cell? ⟨Z, 0, none⟩ = some (.bool l) ∧ Below w.heap.size w w' := by
 have hmf : ∀ (fn : Fn) (first cap : Array Value) (w : World), (Instr.makeFunc fn first cap).run Tryz.prog w = .ok (.func fn first cap) w := fun _ _ _ _ => rfl
 go_enter Tryz.func25, Tryz.ntmps25
 go_wp2_with fail
 go_ret
 exact ⟨w.heap.size, w.heap.size + 1, w.heap.size + 2, rfl, by go_simp, by go_simp, by go_simp, nT (nT (below_one _ _) (below_one _ _)) (below_one _ _)⟩
def Units (F : Nat) (X : Nat) (w : World) (N : Int) (A : Nat) (L : Bool) : Prop := ∀ W, Below w.heap.size w W → Calls Tryz.prog F #[.int .i64 N, .pointer (some ⟨X, 0, none⟩)] W fun r w' => ∃ (ao : Option Addr) (n c : Nat), r = .returned (.tuple #[.slice ao n c, .bool L]) ∧ Hid (n = (wordsOf A).length) ∧ n ≤ 1024 ∧ OwnW W.heap.size w' ao n c (wordsOf A) ∧ Below W.heap.size W w'
set_option maxRecDepth 100000 in
set_option maxHeartbeats 1000000 in
theorem shift_am3 (X : Nat) (tp : Int) (A : Nat) (L : Bool) (w : World) (ht1 : -100000 ≤ tp) (ht2 : tp ≤ 100000) (HU : Units 48 X w (agN 3 tp) A L) :
  Calls Tryz.prog 24 #[.agg #[.int .i64 tp, .func (.func 48) #[] #[.pointer (some ⟨X, 0, none⟩)]], .int .i64 3] w fun r w' => ∃ (ao : Option Addr) (n c : Nat), r = .returned (.tuple #[.slice ao n c, .int .i64 (agN 3 tp), .bool L]) ∧ Hid (n = (wordsOf A).length) ∧ n ≤ 1024 ∧ OwnW w.heap.size w' ao n c (wordsOf A) ∧ Below w.heap.size w w' := by
 have bA : Below w.heap.size w (w.alloc (.cells #[.int .i64 tp, .func (.func 48) #[] #[.pointer (some ⟨X, 0, none⟩)]] 54)) := below_one _ _
 have UC : Hid _ := HU _ bA
 have hr1 : -3 < (64 * 3 - tp).tmod 3 := Int.lt_tmod_of_pos _ (by decide)
 have hr2 : (64 * 3 - tp).tmod 3 < 3 := Int.tmod_lt_of_pos _ (by decide)
 have e1 : agN 3 tp = 192 - tp - (192 - tp).tmod 3 := rfl
 have hw1 : IntKind.i64.wrap (192 - tp) = 192 - tp := by rw [IntKind.wrap_i64]; omega
 rw [show (64 * 3 - tp : Int) = 192 - tp by omega] at hr1 hr2
 rw [e1] at UC ⊢
 clear HU e1
 generalize hR : (192 - tp).tmod 3 = R at *
 go_enter Tryz.func24, Tryz.ntmps24
 go_wp2_with fail
 refine Calls.mono UC.out ?_
 rintro r w1 ⟨ao, n, c, rfl, HN, hn, hO, b1⟩
 have bB := nT bA b1
 clear UC b1
 go_wp2_with fail
 go_ret3
 exact ⟨ao, n, c, rfl, HN, hn, hO.low bA.size, bB⟩
set_option maxRecDepth 100000 in
set_option maxHeartbeats 1000000 in
theorem shift_am2 (X : Nat) (tp : Int) (A : Nat) (L : Bool) (w : World) (ht1 : -100000 ≤ tp) (ht2 : tp ≤ 100000) (HU : Units 48 X w (agN 2 tp) A L) :
  Calls Tryz.prog 24 #[.agg #[.int .i64 tp, .func (.func 48) #[] #[.pointer (some ⟨X, 0, none⟩)]], .int .i64 2] w fun r w' => ∃ (ao : Option Addr) (n c : Nat), r = .returned (.tuple #[.slice ao n c, .int .i64 (agN 2 tp), .bool L]) ∧ Hid (n = (wordsOf A).length) ∧ n ≤ 1024 ∧ OwnW w.heap.size w' ao n c (wordsOf A) ∧ Below w.heap.size w w' := by
 have bA : Below w.heap.size w (w.alloc (.cells #[.int .i64 tp, .func (.func 48) #[] #[.pointer (some ⟨X, 0, none⟩)]] 54)) := below_one _ _
 have UC : Hid _ := HU _ bA
 have hr1 : -2 < (64 * 2 - tp).tmod 2 := Int.lt_tmod_of_pos _ (by decide)
 have hr2 : (64 * 2 - tp).tmod 2 < 2 := Int.tmod_lt_of_pos _ (by decide)
 have e1 : agN 2 tp = 128 - tp - (128 - tp).tmod 2 := rfl
 have hw1 : IntKind.i64.wrap (128 - tp) = 128 - tp := by rw [IntKind.wrap_i64]; omega
 rw [show (64 * 2 - tp : Int) = 128 - tp by omega] at hr1 hr2
 rw [e1] at UC ⊢
 clear HU e1
 generalize hR : (128 - tp).tmod 2 = R at *
 go_enter Tryz.func24, Tryz.ntmps24
 go_wp2_with fail
 refine Calls.mono UC.out ?_
 rintro r w1 ⟨ao, n, c, rfl, HN, hn, hO, b1⟩
 have bB := nT bA b1
 clear UC b1
 go_wp2_with fail
 go_ret3
 exact ⟨ao, n, c, rfl, HN, hn, hO.low bA.size, bB⟩
set_option maxRecDepth 100000 in
set_option maxHeartbeats 1000000 in
theorem shift_in2 (X : Nat) (tp : Int) (A : Nat) (L : Bool) (w : World) (ht1 : -100000 ≤ tp) (ht2 : tp ≤ 100000) (HU : Units 62 X w (agN 2 tp) A L) :
  Calls Tryz.prog 24 #[.agg #[.int .i64 tp, .func (.func 62) #[] #[.pointer (some ⟨X, 0, none⟩)]], .int .i64 2] w fun r w' => ∃ (ao : Option Addr) (n c : Nat), r = .returned (.tuple #[.slice ao n c, .int .i64 (agN 2 tp), .bool L]) ∧ Hid (n = (wordsOf A).length) ∧ n ≤ 1024 ∧ OwnW w.heap.size w' ao n c (wordsOf A) ∧ Below w.heap.size w w' := by
 have bA : Below w.heap.size w (w.alloc (.cells #[.int .i64 tp, .func (.func 62) #[] #[.pointer (some ⟨X, 0, none⟩)]] 54)) := below_one _ _
 have UC : Hid _ := HU _ bA
 have hr1 : -2 < (64 * 2 - tp).tmod 2 := Int.lt_tmod_of_pos _ (by decide)
 have hr2 : (64 * 2 - tp).tmod 2 < 2 := Int.tmod_lt_of_pos _ (by decide)
 have e1 : agN 2 tp = 128 - tp - (128 - tp).tmod 2 := rfl
 have hw1 : IntKind.i64.wrap (128 - tp) = 128 - tp := by rw [IntKind.wrap_i64]; omega
 rw [show (64 * 2 - tp : Int) = 128 - tp by omega] at hr1 hr2
 rw [e1] at UC ⊢
 clear HU e1
 generalize hR : (128 - tp).tmod 2 = R at *
 go_enter Tryz.func24, Tryz.ntmps24
 go_wp2_with fail
 refine Calls.mono UC.out ?_
 rintro r w1 ⟨ao, n, c, rfl, HN, hn, hO, b1⟩
 have bB := nT bA b1
 clear UC b1
 go_wp2_with fail
 go_ret3
 exact ⟨ao, n, c, rfl, HN, hn, hO.low bA.size, bB⟩
theorem mark_eq {k A n : Nat} {L : Bool} (h : n = (wordsOf (A - rt k A ^ k)).length) : (L || decide (0 < n)) = ansK k A L := by
 unfold ansK
 congr 1
 rw [h, decide_eq_decide]
 constructor
 ·intro q c
  rw [c, words_zero] at q
  simp at q
 ·intro q
  rcases Nat.eq_zero_or_pos (wordsOf (A - rt k A ^ k)).length with c | c
  ·exact absurd ((words_nil _).1 (List.eq_nil_of_length_eq_zero c)) q
  ·exact c
theorem rt_ok {k A : Nat} (h : blen A ≤ 1000) : Hid (rtQ k A = rt k A ∧ rtM k A = A - rt k A ^ k ∧ rtE A = 0) := rt_fit ((great_not _).2 (by omega))
theorem rt_len {k A : Nat} (hk : 0 < k) (h : blen A ≤ 1000) : Hid ((wordsOf (rt k A)).length ≤ 1024 ∧ (wordsOf (A - rt k A ^ k)).length ≤ 1024) := by
 have := rt_lens (u := A) hk
 rw [(rt_ok (k := k) h).out.1, (rt_ok (k := k) h).out.2.1] at this
 exact this
theorem units_am (X : Nat) (a : Option Addr) (len cap : Nat) (xs : List Int) (e N : Int) (w : World) (h : IsW w a len cap xs) (hm : len ≤ 17592186044416) (hg : greatB (val xs) = false) (h0 : val xs ≠ 0) (c1 : w.cell? ⟨X, 1, none⟩ = some (.slice a len cap)) (c2 : w.cell? ⟨X, 2, none⟩ = some (.int .i64 e)) (he : -100000 ≤ e + N) (hf : (blen (val xs) : Int) + (e + N) ≤ 60000) : Units 48 X w N (agA (val xs) (e + N)) (agL (val xs) (e + N)) :=
 fun W b => amountF_calls X a len cap xs e N (e + N) W (h.keep b) hm hg h0 (kC b c1) (kC b c2) (by rw [IntKind.wrap_i64]; omega) (by omega) (by omega)
theorem shl_pow {i : Int} (h : 0 ≤ i) (h2 : i ≤ 60000) : shlR (val (wordsOf 1)) i = (2 ^ i.toNat, 0) := by
 rw [val_words, shlR_fit (by rw [great_not]; decide) h (by decide) (by have : blen 1 = 1 := (by decide +kernel); omega), Nat.one_mul]
theorem words_len_pos {n m : Nat} (h : n = (wordsOf m).length) : decide (0 < n) = decide (m ≠ 0) := by
 rw [decide_eq_decide]
 constructor
 ·intro q c
  rw [h, c, words_zero] at q
  simp at q
 ·intro q
  rcases Nat.eq_zero_or_pos (wordsOf m).length with c | c
  ·exact absurd ((words_nil _).1 (List.eq_nil_of_length_eq_zero c)) q
  ·rw [h]; exact c
set_option maxRecDepth 100000 in
set_option maxHeartbeats 1000000 in
theorem inverseF_calls (X : Nat) (a : Option Addr) (len cap : Nat) (m : Nat) (e N i : Int) (w : World) (h : IsW w a len cap (wordsOf m)) (hm : len ≤ 1024) (h0 : m ≠ 0) (h64 : m < 18446744073709551616) (c1 : w.cell? ⟨X, 1, none⟩ = some (.slice a len cap)) (c2 : w.cell? ⟨X, 2, none⟩ = some (.int .i64 e)) (hin : IntKind.i64.wrap (N - e) = i) (hi : 0 ≤ i) (hf : i ≤ 60000) :
  Calls Tryz.prog 62 #[.int .i64 N, .pointer (some ⟨X, 0, none⟩)] w fun r w' => ∃ (ao : Option Addr) (n c : Nat), r = .returned (.tuple #[.slice ao n c, .bool (decide (2 ^ i.toNat % m ≠ 0))]) ∧ Hid (n = (wordsOf (2 ^ i.toNat / m)).length) ∧ n ≤ 1024 ∧ OwnW w.heap.size w' ao n c (wordsOf (2 ^ i.toNat / m)) ∧ Below w.heap.size w w' := by
 have HS : Hid _ := shl_pow hi hf
 obtain ⟨BB, hBB⟩ : ∃ BB : Nat, BB = 60001 := ⟨_, rfl⟩
 have HD : Hid (divE (2 ^ i.toNat) m = 0 ∧ divQ (2 ^ i.toNat) m = 2 ^ i.toNat / m ∧ divM (2 ^ i.toNat) m = 2 ^ i.toNat % m) := by
  refine div_no ?_ h0
  rw [(great_not _).2 (by have := (blen_le (2 ^ i.toNat) BB).2 (Nat.pow_lt_pow_right (by decide) (by omega)); omega), (great_not _).2 (by have := (blen_le m 64).2 h64; omega)]
  rfl
 have HV : Hid (∀ u, val (wordsOf m) ≠ 0 → OverC u (val (wordsOf m))) := fun u _ => by rw [val_words]; exact over_one u m (by omega) h64
 have bD : Below w.heap.size w w.drew := (Below.refl _ _).drew
 have hX : X < w.heap.size := World.block_lt_of_cell? _ _ c2
 have HLE : Hid ((wordsOf (2 ^ i.toNat / m)).length ≤ 1024 ∧ (wordsOf (2 ^ i.toNat % m)).length ≤ 1024) := by
  have hg1 : greatB (2 ^ i.toNat) = false := (great_not _).2 (by have := (blen_le (2 ^ i.toNat) BB).2 (Nat.pow_lt_pow_right (by decide) (by omega)); omega)
  exact ⟨(great_len _).1 (great_mono (Nat.div_le_self _ _) hg1), (great_len _).1 (great_mono (Nat.mod_le _ _) hg1)⟩
 clear hi hf h64 hBB
 generalize hJ : 2 ^ i.toNat = J at *
 clear hJ
 go_enter Tryz.func62, Tryz.ntmps62
 go_wp2_with fail
 go_region_with (first
   | (go_at_call 43; refine (of_one _).mono ?_; rintro r w1 ⟨a1, n1, k1, rfl, HN1, hn1, hO1, b1⟩; have d1 := kC b1 (show w.drew.cell? ⟨X, 1, none⟩ = some (.slice a len cap) from c1); have d2 := kC b1 (show w.drew.cell? ⟨X, 2, none⟩ = some (.int .i64 e) from c2); have bW := nT bD b1; clear b1)
   | (go_at_call 51; refine (shl_eq hO1.1 (by omega) HS.out).mono ?_; rintro r w2 ⟨a2, n2, k2, rfl, HN2, hn2, hO2, b2⟩; replace d1 := kC b2 d1; have bV := nT bW b2; have bs := bW.size; clear b2))
 all_goals
  have hI2 := h.keep bV
  have DC : Hid _ := div_calls a2 a n2 k2 len cap (wordsOf J) (wordsOf m) w2 hO2.1 hI2 (by omega) (by omega) (HV.out _)
  rw [val_words, val_words, HD.out.1, HD.out.2.1, HD.out.2.2] at DC
  clear hI2 hO2 hO1 HN1 HN2 d2
  go_wp2_with fail
  refine Calls.mono DC.out ?_
  rintro r w3 ⟨v1, v2, rfl, hA1, hA2, b3⟩
  obtain ⟨a3, n3, c3, rfl, HN3, hn3, hO3⟩ := hA1.open HLE.out.1
  obtain ⟨a4, n4, c4, rfl, HN4, hn4, hO4⟩ := hA2.open HLE.out.2
  have bU := nT bV b3
  clear DC hA1 hA2 b3
  go_wp2_with fail
  go_ret2
  exact ⟨a3, n3, c3, by rw [← words_len_pos HN4.out]; rfl, HN3, hn3, hO3.low (Nat.le_trans (by omega) bV.size), bU⟩
theorem units_in (X : Nat) (a : Option Addr) (len cap : Nat) (m : Nat) (e N : Int) (w : World) (h : IsW w a len cap (wordsOf m)) (hm : len ≤ 1024) (h0 : m ≠ 0) (h64 : m < 18446744073709551616) (c1 : w.cell? ⟨X, 1, none⟩ = some (.slice a len cap)) (c2 : w.cell? ⟨X, 2, none⟩ = some (.int .i64 e)) (hi : 0 ≤ N - e) (hf : N - e ≤ 60000) : Units 62 X w N (2 ^ (N - e).toNat / m) (decide (2 ^ (N - e).toNat % m ≠ 0)) :=
 fun W b => inverseF_calls X a len cap m e N (N - e) W (h.keep b) hm h0 h64 (kC b c1) (kC b c2) (by rw [IntKind.wrap_i64]; omega) hi hf
end Go.Proofs.YtionhpedghmecaaGreatDoor

/- The statement TopDyads. -/
import Derived.Test.YtmibejihmdkgaaaDoorTD0
import Derived.Test.YtmibejihmdkgaaaDoorBWalks
import Derived.Test.YtmibejihmdkgaaaDoorNEqA
import Derived.Test.YtmibejihmdkgaaaDoorNMul2
import Derived.Test.YtmibejihmdkgaaaDoorDAdd2
import Derived.Test.YtmibejihmdkgaaaDoorGFParse
namespace Go.Proofs.YtmibejihmdkgaaaDoor
open Go.RowKit
attribute [local go_sem ↓] Go.wp_at_zero Go.wp_at_succ

theorem fNames_keep {w w' : World} (h : Fl.Names w) (hb : Below w.heap.size w w') : Fl.Names w' := ⟨Nat.lt_of_lt_of_le h.1 hb.size, fun j hj => dcarry_cell hb (h.2 j hj)⟩

def invInex : ByteArray := ⟨#[105, 110, 118, 97, 108, 105, 100, 32, 105, 110, 101, 120, 97, 99, 116]⟩

set_option maxRecDepth 100000 in
set_option maxHeartbeats 1000000 in
theorem topBegins_calls (w : World) (hN : Fl.Names w) :
    Calls Tryd.prog 4 #[] w fun e w' => e = .returned (.bool true) ∧ Below w.heap.size w w' := by
  have k1 : (upV 9223372036854775808 == 1) = true := by decide +kernel
  have k2 : (classV 9218868437227405312 == 4) = true := by decide +kernel
  have k6 : (Fl.parseE invInex == 0) = true := by decide +kernel
  have k7 : (Fl.parseV invInex == 17) = true := by decide +kernel
  have u1 : U 9223372036854775808 := by unfold U; omega
  have u2 : U 9218868437227405312 := by unfold U; omega
  go_enter Tryd.func4, Tryd.ntmps4
  go_wp2_with fail
  refine (Fl.fParse_calls invInex _ hN).mono ?_
  rintro e w1 ⟨rfl, hb⟩
  go_wp2_with fail
  refine (up_calls _ _ u1).mono ?_
  rintro e w1 ⟨rfl, rfl⟩
  go_wp2_with fail
  refine (class_calls _ _ u2).mono ?_
  rintro e w2 ⟨rfl, hb2⟩
  replace hb := nbelow_trans hb hb2
  clear hb2
  go_wp2_with fail
  go_ret
  exact ⟨rfl, hb⟩

theorem cmp_small {a a' : Option Addr} {len cap len' cap' : Nat} {xs ys : List Int} {w : World} (h : IsW w a len cap xs) (h' : IsW w a' len' cap' ys) (hm : len ≤ 17592186044416) (hm' : len' ≤ 17592186044416) (hx : blen (val xs) ≤ 65536) (hy : blen (val ys) ≤ 65536) :
    Calls Tryd.prog 11 #[.slice a len cap, .slice a' len' cap'] w fun e w' => e = .returned (.tuple #[.int .i64 (cmpN (val xs) (val ys)), .int .i64 0]) ∧ Below w.heap.size w w' := by
  refine Calls.mono (cmp_calls a a' len cap len' cap' xs ys w h h' hm hm') ?_
  rintro e w' ⟨-, h2, hb⟩
  exact ⟨h2 (by rw [small_great hx, small_great hy]; rfl), hb⟩
theorem mul_small {a a' : Option Addr} {len cap len' cap' : Nat} {xs ys : List Int} {w : World} (h : IsW w a len cap xs) (h' : IsW w a' len' cap' ys) (hm : len ≤ 17592186044416) (hm' : len' ≤ 17592186044416) {r : Nat} (hr : mulR (val xs) (val ys) = (r, 0)) (hl : (wordsOf r).length ≤ 1024) :
    Calls Tryd.prog 10 #[.slice a len cap, .slice a' len' cap'] w fun e w' => ∃ (ao : Option Addr) (n c : Nat), e = .returned (.tuple #[.slice ao n c, .int .i64 0]) ∧ Hid (n = (wordsOf r).length) ∧ n ≤ 1024 ∧ OwnW w.heap.size w' ao n c (wordsOf r) ∧ Below w.heap.size w w' := by
  refine Calls.mono (mul_calls a a' len cap len' cap' xs ys w h h' hm hm') ?_
  rw [hr]
  rintro e w' ⟨v, rfl, hA, hb⟩
  obtain ⟨ao, n, c, rfl, h1, h2, h3⟩ := hA.open hl
  exact ⟨ao, n, c, rfl, h1, h2, h3, hb⟩

set_option maxRecDepth 100000 in
set_option maxHeartbeats 1000000 in
theorem tsame_calls (a a' : Option Addr) (n c n' c' N : Nat) (w : World) (h : IsW w a n c (wordsOf N)) (h' : IsW w a' n' c' (wordsOf N)) (hn : n ≤ 1024) (hn' : n' ≤ 1024) (hN : blen N ≤ 65536) :
    Calls Tryd.prog 37 #[.slice a n c, .slice a' n' c'] w fun e w' => e = .returned (.bool true) ∧ Below w.heap.size w w' := by
  have HC : Hid _ := cmp_small h h' (by omega) (by omega) (by rw [val_words]; exact hN) (by rw [val_words]; exact hN)
  have h0 : cmpN (val (wordsOf N)) (val (wordsOf N)) = 0 := by unfold cmpN; rw [if_neg (Nat.lt_irrefl _), if_neg (Nat.lt_irrefl _)]
  rw [h0] at HC
  clear h h' hn hn' hN h0
  go_enter Tryd.func37, Tryd.ntmps37
  go_wp2_with fail
  refine Calls.mono HC.out ?_
  rintro e w1 ⟨rfl, hb⟩
  go_wp2_with fail
  go_ret
  exact ⟨rfl, hb⟩

set_option maxRecDepth 100000 in
set_option maxHeartbeats 2000000 in
theorem twhole_calls (t : Bool) (N k : Nat) (p : Bool × Nat × Int) (hp : p = formD t N (-(k : Int))) (a a' : Option Addr) (n c n' c' : Nat) (w : World) (h : IsW w a n c (wordsOf p.2.1)) (h' : IsW w a' n' c' (wordsOf N)) (hn : n ≤ 1024) (hn' : n' ≤ 1024) (hN : blen N ≤ 13000) (hk : k ≤ 2000) (hT : Tab w) :
    Calls Tryd.prog 13 #[dyV p.1 a n c p.2.2, .int .i64 (k : Int), .slice a' n' c'] w fun e w' => e = .returned (.bool true) ∧ Below w.heap.size w w' := by
  have bw := below_one w (.cells #[.bool p.1, .slice a n c, .int .i64 p.2.2] 26)
  have k0 : (w.alloc (.cells #[.bool p.1, .slice a n c, .int .i64 p.2.2] 26)).cell? ⟨w.heap.size, 0, none⟩ = some (.bool p.1) := by go_simp
  have k1 : (w.alloc (.cells #[.bool p.1, .slice a n c, .int .i64 p.2.2] 26)).cell? ⟨w.heap.size, 1, none⟩ = some (.slice a n c) := by go_simp
  have k2 : (w.alloc (.cells #[.bool p.1, .slice a n c, .int .i64 p.2.2] 26)).cell? ⟨w.heap.size, 2, none⟩ = some (.int .i64 p.2.2) := by go_simp
  have HN : Hid _ := norm_eq2 (r := N) (k := 0) (h'.keep bw) (by omega) (by rw [val_words]; exact fit_small (by omega))
  have HT : Hid (∀ w', Below w.heap.size w w' → Tab w') := fun w' hb => hT.kept hb
  have HI : Hid (IsW w a n c (wordsOf p.2.1)) := h
  by_cases h0 : N = 0
  · have hq : p = (false, 0, 0) := by rw [hp, h0, td_neg0]
    have hz : (rightB (val (wordsOf p.2.1)) p.2.2 && decide (val (wordsOf p.2.1) = 0)) = true := by rw [hq, val_words]; decide +kernel
    have HZ : Hid (∀ W, IsW W a n c (wordsOf p.2.1) → Tab W → Calls Tryd.prog 36 #[dyV p.1 a n c p.2.2] W fun r w' => r = .returned (.bool true) ∧ Below W.heap.size W w') := fun W q T => by
      have := dzero_calls p.1 a n c (wordsOf p.2.1) p.2.2 W q (by omega) T
      rw [hz] at this
      exact this
    have hl : (wordsOf N).length = 0 := by rw [h0, words_zero]; rfl
    rw [hl] at HN
    clear h h' hn hn' hT hz hq hp h0 hl hN hk
    go_enter Tryd.func13, Tryd.ntmps13
    go_wp2_with fail
    generalize (w.alloc (.cells #[.bool p.1, .slice a n c, .int .i64 p.2.2] 26)) = w0 at *
    refine Calls.mono HN.out ?_
    clear HN
    rintro r w1 ⟨a1, n1, c1, rfl, H1, -, -, bN⟩
    have h1 : n1 = 0 := H1.out
    clear H1
    subst h1
    replace k0 := dcarry_cell bN k0
    replace k1 := dcarry_cell bN k1
    replace k2 := dcarry_cell bN k2
    replace bw := nbelow_trans bw bN
    clear bN
    go_wp2_with fail
    refine Calls.mono (HZ.out _ (HI.out.keep bw) (HT.out _ bw)) ?_
    rintro r w2 ⟨rfl, bN⟩
    replace bw := nbelow_trans bw bN
    clear bN
    go_wp2_with fail
    go_ret
    exact ⟨rfl, bw⟩
  · obtain ⟨hs, -⟩ := td_shl t N k hN h0
    rw [← hp] at hs
    have HS : Hid (∀ W, IsW W a n c (wordsOf p.2.1) → _) := fun W q => shl_eq (w := W) (i := p.2.2 + (k : Int)) q (by omega) (r := N) (k := 0) (by rw [val_words]; exact hs)
    have hl : (wordsOf N).length ≠ 0 := by
      rw [Ne, List.length_eq_zero_iff, words_nil]
      exact h0
    have hlo := low_formT t N k
    have hup : p.2.2 ≤ 32768 := by
      have := td_room t N k hN hk
      rw [← hp] at this
      by_cases q : N = 0
      · exact absurd q h0
      · rw [hp, form_pos t q]
        have := tz_le_blen N
        show -(k : Int) + (tz N : Int) ≤ 32768
        omega
    rw [← hp] at hlo
    have hw : IntKind.i64.wrap (p.2.2 + (k : Int)) = p.2.2 + (k : Int) := by rw [IntKind.wrap_i64]; omega
    have HM : Hid (∀ a1 n1 c1 a2 n2 c2 W, IsW W a1 n1 c1 (wordsOf N) → IsW W a2 n2 c2 (wordsOf N) → n1 ≤ 1024 → n2 ≤ 1024 → _) := fun a1 n1 c1 a2 n2 c2 W q q' g g' => tsame_calls a1 a2 n1 c1 n2 c2 N W q q' g g' (by omega)
    have HL : Hid _ := hl
    clear h h' hn hn' hT hp h0 hN hk hs hlo hup hl
    go_enter Tryd.func13, Tryd.ntmps13
    go_wp2_with fail
    generalize (w.alloc (.cells #[.bool p.1, .slice a n c, .int .i64 p.2.2] 26)) = w0 at *
    refine Calls.mono HN.out ?_
    clear HN
    rintro r w1 ⟨a1, n1, c1, rfl, H1, hn1, hO1, bN⟩
    have h1 : ((n1 : Int) == 0) = false := by
      have := HL.out
      rw [← H1.out] at this
      simp
      exact this
    clear H1
    have I1 := hO1.1
    clear hO1
    replace k0 := dcarry_cell bN k0
    replace k1 := dcarry_cell bN k1
    replace k2 := dcarry_cell bN k2
    replace bw := nbelow_trans bw bN
    clear bN
    go_wp2_with fail
    refine Calls.mono (HS.out _ (HI.out.keep bw)) ?_
    rintro r w2 ⟨a2, n2, c2, rfl, -, hn2, hO2, bN⟩
    replace I1 := I1.keep bN
    replace bw := nbelow_trans bw bN
    have I2 := hO2.1
    clear hO2 bN
    go_wp2_with fail
    refine Calls.mono (HM.out _ _ _ _ _ _ _ I2 I1 hn2 hn1) ?_
    rintro r w3 ⟨rfl, bN⟩
    replace bw := nbelow_trans bw bN
    clear bN
    go_wp2_with fail
    go_ret
    exact ⟨rfl, bw⟩

theorem td_pack (A B k : Nat) (hA : blen A ≤ 6400) (hB : blen B ≤ 6400) (hk : k ≤ 2000) : ∃ H S P D : Nat, ∃ t : Bool, H = B * 2 ^ k ∧ blen H ≤ 8400 ∧ blen S ≤ 13000 ∧ blen P ≤ 13000 ∧ blen D ≤ 13000 ∧
    sumD (formD false A (-(k : Int))) (formD false B 0) = formD false S (-(k : Int)) ∧ mulD (formD false A (-(k : Int))) (formD false B 0) = formD false P (-(k : Int)) ∧ sumD (formD false A (-(k : Int))) (negD (formD false B 0)) = formD t D (-(k : Int)) ∧
    shlR B (k : Int) = (H, 0) ∧ addR A H = (S, 0) ∧ mulR A B = (P, 0) ∧ (formD t D (-(k : Int))).1 = decide (A < H) ∧ (A < H → subR H A = (D, 0)) ∧ (¬ A < H → subR A H = (D, 0)) := by
  have hH := pow_bits hB hk
  have gA := small_great (show blen A ≤ 65536 by omega)
  have gB := small_great (show blen B ≤ 65536 by omega)
  have gH := small_great (show blen (B * 2 ^ k) ≤ 65536 by omega)
  have hS : blen (A + B * 2 ^ k) ≤ 13000 := by
    have := add_bits (k := 8400) (show blen A ≤ 8400 by omega) hH
    omega
  have hP : blen (A * B) ≤ 13000 := by
    have := mul_bits hA hB
    omega
  have hD : blen (if A < B * 2 ^ k then B * 2 ^ k - A else A - B * 2 ^ k) ≤ 13000 := by
    split
    · exact Nat.le_trans (blen_mono (Nat.sub_le _ _)) (by omega)
    · exact Nat.le_trans (blen_mono (Nat.sub_le _ _)) (by omega)
  refine ⟨B * 2 ^ k, A + B * 2 ^ k, A * B, (if A < B * 2 ^ k then B * 2 ^ k - A else A - B * 2 ^ k), decide (A < B * 2 ^ k), rfl, hH, hS, hP, hD, td_sum A B k, td_mul A B k, td_less A B k, ?_, ?_, ?_, ?_, ?_, ?_⟩
  · by_cases h0 : B = 0
    · rw [h0, Nat.zero_mul]
      exact shlR_zero (by rw [← h0]; exact gB) (by omega) rfl
    · have := blen_mul B k h0
      rw [shlR_fit gB (by omega) h0 (by omega), Int.toNat_natCast]
  · unfold addR
    rw [gA, gH]
    exact fit_small (by omega)
  · unfold mulR
    rw [gA, gB]
    exact fit_small (by omega)
  · by_cases h0 : (if A < B * 2 ^ k then B * 2 ^ k - A else A - B * 2 ^ k) = 0
    · rw [h0, td_neg0]
      have : ¬ A < B * 2 ^ k := by
        intro q
        rw [if_pos q] at h0
        omega
      rw [decide_eq_false this]
    · exact (td_shl _ _ k hD h0).2
  · intro h
    rw [if_pos h]
    unfold subR
    rw [gA, gH, if_neg (by decide), if_neg (by omega)]
  · intro h
    rw [if_neg h]
    unfold subR
    rw [gA, gH, if_neg (by decide), if_neg h]

set_option maxRecDepth 100000 in
set_option maxHeartbeats 4000000 in
theorem topDyads_main (a : Option Addr) (la ca : Nat) (xs : List Int) (b : Option Addr) (lb cb : Nat) (ys : List Int) (k : Nat) (w : World) (h : IsW w a la ca xs) (h' : IsW w b lb cb ys) (ha : la ≤ 100) (hb : lb ≤ 100) (hk : k ≤ 2000) (hT : Tab w) (hP : Fl.Names w) :
    Calls Tryd.prog 3 #[.slice a la ca, .slice b lb cb, .int .i64 (k : Int)] w fun r w' => r = .returned (.bool true) ∧ Below w.heap.size w w' := by
  have hA := val_bits (by rw [← h.1]; exact ha) h.2.1
  have hB := val_bits (by rw [← h'.1]; exact hb) h'.2.1
  obtain ⟨H, S, P, D, t, hH, b1, b2, b3, b4, e1, e2, e3, e4, e5, e6, e7, e8, e9⟩ := td_pack (val xs) (val ys) k hA hB hk
  have hr1 : rightB (val xs) (-(k : Int)) = true := by
    unfold rightB inB
    rw [small_great (show blen (val xs) ≤ 65536 by omega)]
    simp
    omega
  have hr2 : rightB (val ys) 0 = true := by
    unfold rightB inB
    rw [small_great (show blen (val ys) ≤ 65536 by omega)]
    rfl
  obtain ⟨q1, q2⟩ := td_room false S k b2 hk
  obtain ⟨q3, q4⟩ := td_room false P k b3 hk
  obtain ⟨q5, q6⟩ := td_room t D k b4 hk
  have HAdd : Hid (∀ W, IsW W a la ca xs → IsW W b lb cb ys → Tab W → Calls Tryd.prog 5 #[dyV false a la ca (-(k : Int)), dyV false b lb cb 0] W fun r w' => ∃ v', r = .returned (.tuple #[v', .int .i64 0]) ∧ DyAt W.heap.size w' v' (formD false S (-(k : Int))) ∧ Below W.heap.size W w') := fun W i1 i2 T => by
    have := dadd_yes false a la ca xs (-(k : Int)) false b lb cb ys 0 W i1 (by omega) i2 (by omega) T hr1 hr2
    rw [e1, q1, q2] at this
    exact this
  have HSub : Hid (∀ W, IsW W a la ca xs → IsW W b lb cb ys → Tab W → Calls Tryd.prog 6 #[dyV false a la ca (-(k : Int)), dyV false b lb cb 0] W fun r w' => ∃ v', r = .returned (.tuple #[v', .int .i64 0]) ∧ DyAt W.heap.size w' v' (formD t D (-(k : Int))) ∧ Below W.heap.size W w') := fun W i1 i2 T => by
    have := dsub_yes false a la ca xs (-(k : Int)) false b lb cb ys 0 W i1 (by omega) i2 (by omega) T hr1 hr2
    rw [e3, q5, q6] at this
    exact this
  have HMul : Hid (∀ W, IsW W a la ca xs → IsW W b lb cb ys → Tab W → Calls Tryd.prog 7 #[dyV false a la ca (-(k : Int)), dyV false b lb cb 0] W fun r w' => ∃ v', r = .returned (.tuple #[v', .int .i64 0]) ∧ DyAt W.heap.size w' v' (formD false P (-(k : Int))) ∧ Below W.heap.size W w') := fun W i1 i2 T => by
    have := dmul_yes false a la ca xs (-(k : Int)) false b lb cb ys 0 W i1 (by omega) i2 (by omega) T hr1 hr2
    rw [e2, q3, q4] at this
    exact this
  have HShl : Hid (∀ W, IsW W b lb cb ys → _) := fun W i => shl_eq (w := W) (i := (k : Int)) i (by omega) e4
  have HNad : Hid (∀ W a1 n1 c1, IsW W a la ca xs → IsW W a1 n1 c1 (wordsOf H) → n1 ≤ 1024 → _) := fun W a1 n1 c1 i j l => add_eq (w := W) i j (by omega) (by omega) (r := S) (k := 0) (by rw [val_words]; exact e5)
  have HNmu : Hid (∀ W, IsW W a la ca xs → IsW W b lb cb ys → _) := fun W i j => mul_small (w := W) i j (by omega) (by omega) e6 ((words_len2 _ _).2 (by omega))
  have HNcm : Hid (∀ W a1 n1 c1, IsW W a la ca xs → IsW W a1 n1 c1 (wordsOf H) → n1 ≤ 1024 → _) := fun W a1 n1 c1 i j l => cmp_small (w := W) i j (by omega) (by omega) (by omega) (by rw [val_words]; omega)
  rw [val_words] at HNcm
  have HNs1 : Hid (∀ W a1 n1 c1, IsW W a la ca xs → IsW W a1 n1 c1 (wordsOf H) → n1 ≤ 1024 → _) := fun W a1 n1 c1 i j l => sub_eq (w := W) j i (by omega) (by omega) (r := (subR H (val xs)).1) (k := (subR H (val xs)).2) (by rw [val_words])
  have HNs2 : Hid (∀ W a1 n1 c1, IsW W a la ca xs → IsW W a1 n1 c1 (wordsOf H) → n1 ≤ 1024 → _) := fun W a1 n1 c1 i j l => sub_eq (w := W) i j (by omega) (by omega) (r := (subR (val xs) H).1) (k := (subR (val xs) H).2) (by rw [val_words])
  have HWS : Hid (∀ a1 n1 c1 a2 n2 c2 W, _ → _ → _ → _ → _ → _) := fun a1 n1 c1 a2 n2 c2 W i j l m T => twhole_calls false S k _ rfl a1 a2 n1 c1 n2 c2 W i j l m b2 hk T
  have HWP : Hid (∀ a1 n1 c1 a2 n2 c2 W, _ → _ → _ → _ → _ → _) := fun a1 n1 c1 a2 n2 c2 W i j l m T => twhole_calls false P k _ rfl a1 a2 n1 c1 n2 c2 W i j l m b3 hk T
  have HWD : Hid (∀ a1 n1 c1 a2 n2 c2 W, _ → _ → _ → _ → _ → _) := fun a1 n1 c1 a2 n2 c2 W i j l m T => twhole_calls t D k _ rfl a1 a2 n1 c1 n2 c2 W i j l m b4 hk T
  have HT : Hid (∀ w', Below w.heap.size w w' → Tab w') := fun w' hb => hT.kept hb
  have HX : Hid (IsW w a la ca xs) := h
  have HY : Hid (IsW w b lb cb ys) := h'
  have hneg : IntKind.i64.wrap (-(k : Int)) = -(k : Int) := by rw [IntKind.wrap_i64]; omega
  have g1 : ¬ ((k : Int) < 0) := by omega
  have g2 : ¬ ((k : Int) > 2000) := by omega
  have g3 : ¬ ((la : Int) > 100) := by omega
  have g4 : ¬ ((lb : Int) > 100) := by omega
  have bw : Below w.heap.size w w := Below.refl _ _
  have HPN : Hid _ := hP
  generalize hps : formD false S (-(k : Int)) = ps at *
  generalize hpp : formD false P (-(k : Int)) = pp at *
  generalize hpd : formD t D (-(k : Int)) = pd at *
  have E7 : Hid _ := e7
  have E8 : Hid _ := e8
  have E9 : Hid _ := e9
  generalize val xs = A at *
  clear hps hpp hpd h h' hT hP hA hB hH b1 b2 b3 b4 e1 e2 e3 e4 e5 e6 e7 e8 e9 hr1 hr2 q1 q2 q3 q4 q5 q6 ha hb hk
  go_enter Tryd.func3, Tryd.ntmps3
  go_wp2_with fail
  refine Calls.mono (topBegins_calls _ HPN.out) ?_
  rintro r w1 ⟨rfl, bN⟩
  replace bw := nbelow_trans bw bN
  clear bN HPN
  have bA := below_one w1 (.cells #[.bool false, .slice a la ca, .int .i64 (-(k : Int))] 26)
  replace bw := nbelow_trans bw bA
  clear bA
  have x0 : (w1.alloc (.cells #[.bool false, .slice a la ca, .int .i64 (-(k : Int))] 26)).cell? ⟨w1.heap.size, 0, none⟩ = some (.bool false) := by go_simp
  have x1 : (w1.alloc (.cells #[.bool false, .slice a la ca, .int .i64 (-(k : Int))] 26)).cell? ⟨w1.heap.size, 1, none⟩ = some (.slice a la ca) := by go_simp
  have x2 : (w1.alloc (.cells #[.bool false, .slice a la ca, .int .i64 (-(k : Int))] 26)).cell? ⟨w1.heap.size, 2, none⟩ = some (.int .i64 (-(k : Int))) := by go_simp
  have bA := below_one (w1.alloc (.cells #[.bool false, .slice a la ca, .int .i64 (-(k : Int))] 26)) (.cells #[.bool false, .slice b lb cb, .int .i64 0] 26)
  replace x0 := dcarry_cell bA x0
  replace x1 := dcarry_cell bA x1
  replace x2 := dcarry_cell bA x2
  replace bw := nbelow_trans bw bA
  clear bA
  have y0 : ((w1.alloc (.cells #[.bool false, .slice a la ca, .int .i64 (-(k : Int))] 26)).alloc (.cells #[.bool false, .slice b lb cb, .int .i64 0] 26)).cell? ⟨w1.heap.size + 1, 0, none⟩ = some (.bool false) := by go_simp
  have y1 : ((w1.alloc (.cells #[.bool false, .slice a la ca, .int .i64 (-(k : Int))] 26)).alloc (.cells #[.bool false, .slice b lb cb, .int .i64 0] 26)).cell? ⟨w1.heap.size + 1, 1, none⟩ = some (.slice b lb cb) := by go_simp
  have y2 : ((w1.alloc (.cells #[.bool false, .slice a la ca, .int .i64 (-(k : Int))] 26)).alloc (.cells #[.bool false, .slice b lb cb, .int .i64 0] 26)).cell? ⟨w1.heap.size + 1, 2, none⟩ = some (.int .i64 0) := by go_simp
  go_wp2_with fail
  generalize ((w1.alloc (.cells #[.bool false, .slice a la ca, .int .i64 (-(k : Int))] 26)).alloc (.cells #[.bool false, .slice b lb cb, .int .i64 0] 26)) = w2 at *
  refine Calls.mono (HAdd.out _ (HX.out.keep bw) (HY.out.keep bw) (HT.out _ bw)) ?_
  rintro r w3 ⟨_, rfl, ⟨ads, ns, cs, rfl, -, hns, hOs⟩, bN⟩
  replace x0 := dcarry_cell bN x0
  replace x1 := dcarry_cell bN x1
  replace x2 := dcarry_cell bN x2
  replace y0 := dcarry_cell bN y0
  replace y1 := dcarry_cell bN y1
  replace y2 := dcarry_cell bN y2
  replace bw := nbelow_trans bw bN
  clear bN
  have Is := hOs.1
  clear hOs
  have bA := below_one w3 (.cells #[.bool ps.1, .slice ads ns cs, .int .i64 ps.2.2] 26)
  replace x0 := dcarry_cell bA x0
  replace x1 := dcarry_cell bA x1
  replace x2 := dcarry_cell bA x2
  replace y0 := dcarry_cell bA y0
  replace y1 := dcarry_cell bA y1
  replace y2 := dcarry_cell bA y2
  replace Is := Is.keep bA
  replace bw := nbelow_trans bw bA
  clear bA
  have s0 : (w3.alloc (.cells #[.bool ps.1, .slice ads ns cs, .int .i64 ps.2.2] 26)).cell? ⟨w3.heap.size, 0, none⟩ = some (.bool ps.1) := by go_simp
  have s1 : (w3.alloc (.cells #[.bool ps.1, .slice ads ns cs, .int .i64 ps.2.2] 26)).cell? ⟨w3.heap.size, 1, none⟩ = some (.slice ads ns cs) := by go_simp
  have s2 : (w3.alloc (.cells #[.bool ps.1, .slice ads ns cs, .int .i64 ps.2.2] 26)).cell? ⟨w3.heap.size, 2, none⟩ = some (.int .i64 ps.2.2) := by go_simp
  go_wp2_with fail
  generalize (w3.alloc (.cells #[.bool ps.1, .slice ads ns cs, .int .i64 ps.2.2] 26)) = w4 at *
  refine Calls.mono (HSub.out _ (HX.out.keep bw) (HY.out.keep bw) (HT.out _ bw)) ?_
  rintro r w5 ⟨_, rfl, ⟨adl, nl, cl, rfl, -, hnl, hOl⟩, bN⟩
  replace x0 := dcarry_cell bN x0
  replace x1 := dcarry_cell bN x1
  replace x2 := dcarry_cell bN x2
  replace y0 := dcarry_cell bN y0
  replace y1 := dcarry_cell bN y1
  replace y2 := dcarry_cell bN y2
  replace s0 := dcarry_cell bN s0
  replace s1 := dcarry_cell bN s1
  replace s2 := dcarry_cell bN s2
  replace Is := Is.keep bN
  replace bw := nbelow_trans bw bN
  clear bN
  have Il := hOl.1
  clear hOl
  have bA := below_one w5 (.cells #[.bool pd.1, .slice adl nl cl, .int .i64 pd.2.2] 26)
  replace x0 := dcarry_cell bA x0
  replace x1 := dcarry_cell bA x1
  replace x2 := dcarry_cell bA x2
  replace y0 := dcarry_cell bA y0
  replace y1 := dcarry_cell bA y1
  replace y2 := dcarry_cell bA y2
  replace s0 := dcarry_cell bA s0
  replace s1 := dcarry_cell bA s1
  replace s2 := dcarry_cell bA s2
  replace Is := Is.keep bA
  replace Il := Il.keep bA
  replace bw := nbelow_trans bw bA
  clear bA
  have l0 : (w5.alloc (.cells #[.bool pd.1, .slice adl nl cl, .int .i64 pd.2.2] 26)).cell? ⟨w5.heap.size, 0, none⟩ = some (.bool pd.1) := by go_simp
  have l1 : (w5.alloc (.cells #[.bool pd.1, .slice adl nl cl, .int .i64 pd.2.2] 26)).cell? ⟨w5.heap.size, 1, none⟩ = some (.slice adl nl cl) := by go_simp
  have l2 : (w5.alloc (.cells #[.bool pd.1, .slice adl nl cl, .int .i64 pd.2.2] 26)).cell? ⟨w5.heap.size, 2, none⟩ = some (.int .i64 pd.2.2) := by go_simp
  go_wp2_with fail
  generalize (w5.alloc (.cells #[.bool pd.1, .slice adl nl cl, .int .i64 pd.2.2] 26)) = w6 at *
  refine Calls.mono (HMul.out _ (HX.out.keep bw) (HY.out.keep bw) (HT.out _ bw)) ?_
  rintro r w7 ⟨_, rfl, ⟨adm, nm, cm, rfl, -, hnm, hOm⟩, bN⟩
  replace x0 := dcarry_cell bN x0
  replace x1 := dcarry_cell bN x1
  replace x2 := dcarry_cell bN x2
  replace y0 := dcarry_cell bN y0
  replace y1 := dcarry_cell bN y1
  replace y2 := dcarry_cell bN y2
  replace s0 := dcarry_cell bN s0
  replace s1 := dcarry_cell bN s1
  replace s2 := dcarry_cell bN s2
  replace l0 := dcarry_cell bN l0
  replace l1 := dcarry_cell bN l1
  replace l2 := dcarry_cell bN l2
  replace Is := Is.keep bN
  replace Il := Il.keep bN
  replace bw := nbelow_trans bw bN
  clear bN
  have Im := hOm.1
  clear hOm
  have bA := below_one w7 (.cells #[.bool pp.1, .slice adm nm cm, .int .i64 pp.2.2] 26)
  replace x0 := dcarry_cell bA x0
  replace x1 := dcarry_cell bA x1
  replace x2 := dcarry_cell bA x2
  replace y0 := dcarry_cell bA y0
  replace y1 := dcarry_cell bA y1
  replace y2 := dcarry_cell bA y2
  replace s0 := dcarry_cell bA s0
  replace s1 := dcarry_cell bA s1
  replace s2 := dcarry_cell bA s2
  replace l0 := dcarry_cell bA l0
  replace l1 := dcarry_cell bA l1
  replace l2 := dcarry_cell bA l2
  replace Is := Is.keep bA
  replace Il := Il.keep bA
  replace Im := Im.keep bA
  replace bw := nbelow_trans bw bA
  clear bA
  have m0 : (w7.alloc (.cells #[.bool pp.1, .slice adm nm cm, .int .i64 pp.2.2] 26)).cell? ⟨w7.heap.size, 0, none⟩ = some (.bool pp.1) := by go_simp
  have m1 : (w7.alloc (.cells #[.bool pp.1, .slice adm nm cm, .int .i64 pp.2.2] 26)).cell? ⟨w7.heap.size, 1, none⟩ = some (.slice adm nm cm) := by go_simp
  have m2 : (w7.alloc (.cells #[.bool pp.1, .slice adm nm cm, .int .i64 pp.2.2] 26)).cell? ⟨w7.heap.size, 2, none⟩ = some (.int .i64 pp.2.2) := by go_simp
  go_wp2_with fail
  generalize (w7.alloc (.cells #[.bool pp.1, .slice adm nm cm, .int .i64 pp.2.2] 26)) = w8 at *
  refine Calls.mono (HShl.out _ (HY.out.keep bw)) ?_
  rintro r w9 ⟨adh, nh, ch, rfl, -, hnh, hOh, bN⟩
  replace x0 := dcarry_cell bN x0
  replace x1 := dcarry_cell bN x1
  replace x2 := dcarry_cell bN x2
  replace y0 := dcarry_cell bN y0
  replace y1 := dcarry_cell bN y1
  replace y2 := dcarry_cell bN y2
  replace s0 := dcarry_cell bN s0
  replace s1 := dcarry_cell bN s1
  replace s2 := dcarry_cell bN s2
  replace l0 := dcarry_cell bN l0
  replace l1 := dcarry_cell bN l1
  replace l2 := dcarry_cell bN l2
  replace m0 := dcarry_cell bN m0
  replace m1 := dcarry_cell bN m1
  replace m2 := dcarry_cell bN m2
  replace Is := Is.keep bN
  replace Il := Il.keep bN
  replace Im := Im.keep bN
  replace bw := nbelow_trans bw bN
  clear bN
  have Ih := hOh.1
  clear hOh
  go_wp2_with fail
  refine Calls.mono (HNad.out _ _ _ _ (HX.out.keep bw) Ih hnh) ?_
  rintro r w10 ⟨adq, nq, cq, rfl, -, hnq, hOq, bN⟩
  replace x0 := dcarry_cell bN x0
  replace x1 := dcarry_cell bN x1
  replace x2 := dcarry_cell bN x2
  replace y0 := dcarry_cell bN y0
  replace y1 := dcarry_cell bN y1
  replace y2 := dcarry_cell bN y2
  replace s0 := dcarry_cell bN s0
  replace s1 := dcarry_cell bN s1
  replace s2 := dcarry_cell bN s2
  replace l0 := dcarry_cell bN l0
  replace l1 := dcarry_cell bN l1
  replace l2 := dcarry_cell bN l2
  replace m0 := dcarry_cell bN m0
  replace m1 := dcarry_cell bN m1
  replace m2 := dcarry_cell bN m2
  replace Is := Is.keep bN
  replace Il := Il.keep bN
  replace Im := Im.keep bN
  replace Ih := Ih.keep bN
  replace bw := nbelow_trans bw bN
  clear bN
  have Iq := hOq.1
  clear hOq
  go_wp2_with fail
  refine Calls.mono (HNmu.out _ (HX.out.keep bw) (HY.out.keep bw)) ?_
  rintro r w11 ⟨adr, nr, cr, rfl, -, hnr, hOr, bN⟩
  replace x0 := dcarry_cell bN x0
  replace x1 := dcarry_cell bN x1
  replace x2 := dcarry_cell bN x2
  replace y0 := dcarry_cell bN y0
  replace y1 := dcarry_cell bN y1
  replace y2 := dcarry_cell bN y2
  replace s0 := dcarry_cell bN s0
  replace s1 := dcarry_cell bN s1
  replace s2 := dcarry_cell bN s2
  replace l0 := dcarry_cell bN l0
  replace l1 := dcarry_cell bN l1
  replace l2 := dcarry_cell bN l2
  replace m0 := dcarry_cell bN m0
  replace m1 := dcarry_cell bN m1
  replace m2 := dcarry_cell bN m2
  replace Is := Is.keep bN
  replace Il := Il.keep bN
  replace Im := Im.keep bN
  replace Ih := Ih.keep bN
  replace Iq := Iq.keep bN
  replace bw := nbelow_trans bw bN
  clear bN
  have Ir := hOr.1
  clear hOr
  go_wp2_with fail
  refine Calls.mono (HNcm.out _ _ _ _ (HX.out.keep bw) Ih hnh) ?_
  rintro r w12 ⟨rfl, bN⟩
  replace x0 := dcarry_cell bN x0
  replace x1 := dcarry_cell bN x1
  replace x2 := dcarry_cell bN x2
  replace y0 := dcarry_cell bN y0
  replace y1 := dcarry_cell bN y1
  replace y2 := dcarry_cell bN y2
  replace s0 := dcarry_cell bN s0
  replace s1 := dcarry_cell bN s1
  replace s2 := dcarry_cell bN s2
  replace l0 := dcarry_cell bN l0
  replace l1 := dcarry_cell bN l1
  replace l2 := dcarry_cell bN l2
  replace m0 := dcarry_cell bN m0
  replace m1 := dcarry_cell bN m1
  replace m2 := dcarry_cell bN m2
  replace Is := Is.keep bN
  replace Il := Il.keep bN
  replace Im := Im.keep bN
  replace Ih := Ih.keep bN
  replace Iq := Iq.keep bN
  replace Ir := Ir.keep bN
  replace bw := nbelow_trans bw bN
  clear bN
  go_wp2_with fail
  refine Calls.mono (HNs1.out _ _ _ _ (HX.out.keep bw) Ih hnh) ?_
  rintro r w13 ⟨add, nd, cd, rfl, -, hnd, hOd, bN⟩
  replace x0 := dcarry_cell bN x0
  replace x1 := dcarry_cell bN x1
  replace x2 := dcarry_cell bN x2
  replace y0 := dcarry_cell bN y0
  replace y1 := dcarry_cell bN y1
  replace y2 := dcarry_cell bN y2
  replace s0 := dcarry_cell bN s0
  replace s1 := dcarry_cell bN s1
  replace s2 := dcarry_cell bN s2
  replace l0 := dcarry_cell bN l0
  replace l1 := dcarry_cell bN l1
  replace l2 := dcarry_cell bN l2
  replace m0 := dcarry_cell bN m0
  replace m1 := dcarry_cell bN m1
  replace m2 := dcarry_cell bN m2
  replace Is := Is.keep bN
  replace Il := Il.keep bN
  replace Im := Im.keep bN
  replace Ih := Ih.keep bN
  replace Iq := Iq.keep bN
  replace Ir := Ir.keep bN
  replace bw := nbelow_trans bw bN
  clear bN
  have Id := hOd.1
  clear hOd
  by_cases hc : A < H
  · have hcv : cmpN A H = -1 := by unfold cmpN; rw [if_pos hc]
    rw [hcv]
    have e8 := E8.out hc
    rw [e8] at Id
    have hneg1 : pd.1 = true := by rw [E7.out, decide_eq_true hc]
    rw [hneg1] at l0 HWD
    have hv2 : (subR H A).2 = 0 := by rw [e8]
    rw [hv2]
    clear e8 hv2
    clear E7 E8 E9 HNs1 HNs2 hcv hc
    go_wp2_with fail
    refine Calls.mono (HWS.out _ _ _ _ _ _ _ Is Iq hns hnq (HT.out _ bw)) ?_
    rintro r w20 ⟨rfl, bN⟩
    replace x0 := dcarry_cell bN x0
    replace x1 := dcarry_cell bN x1
    replace x2 := dcarry_cell bN x2
    replace y0 := dcarry_cell bN y0
    replace y1 := dcarry_cell bN y1
    replace y2 := dcarry_cell bN y2
    replace s0 := dcarry_cell bN s0
    replace s1 := dcarry_cell bN s1
    replace s2 := dcarry_cell bN s2
    replace l0 := dcarry_cell bN l0
    replace l1 := dcarry_cell bN l1
    replace l2 := dcarry_cell bN l2
    replace m0 := dcarry_cell bN m0
    replace m1 := dcarry_cell bN m1
    replace m2 := dcarry_cell bN m2
    replace Is := Is.keep bN
    replace Il := Il.keep bN
    replace Im := Im.keep bN
    replace Ih := Ih.keep bN
    replace Iq := Iq.keep bN
    replace Ir := Ir.keep bN
    replace Id := Id.keep bN
    replace bw := nbelow_trans bw bN
    clear bN
    go_wp2_with fail
    refine Calls.mono (HWP.out _ _ _ _ _ _ _ Im Ir hnm hnr (HT.out _ bw)) ?_
    rintro r w21 ⟨rfl, bN⟩
    replace x0 := dcarry_cell bN x0
    replace x1 := dcarry_cell bN x1
    replace x2 := dcarry_cell bN x2
    replace y0 := dcarry_cell bN y0
    replace y1 := dcarry_cell bN y1
    replace y2 := dcarry_cell bN y2
    replace s0 := dcarry_cell bN s0
    replace s1 := dcarry_cell bN s1
    replace s2 := dcarry_cell bN s2
    replace l0 := dcarry_cell bN l0
    replace l1 := dcarry_cell bN l1
    replace l2 := dcarry_cell bN l2
    replace m0 := dcarry_cell bN m0
    replace m1 := dcarry_cell bN m1
    replace m2 := dcarry_cell bN m2
    replace Is := Is.keep bN
    replace Il := Il.keep bN
    replace Im := Im.keep bN
    replace Ih := Ih.keep bN
    replace Iq := Iq.keep bN
    replace Ir := Ir.keep bN
    replace Id := Id.keep bN
    replace bw := nbelow_trans bw bN
    clear bN
    go_wp2_with fail
    refine Calls.mono (HWD.out _ _ _ _ _ _ _ Il Id hnl hnd (HT.out _ bw)) ?_
    rintro r w22 ⟨rfl, bN⟩
    replace x0 := dcarry_cell bN x0
    replace x1 := dcarry_cell bN x1
    replace x2 := dcarry_cell bN x2
    replace y0 := dcarry_cell bN y0
    replace y1 := dcarry_cell bN y1
    replace y2 := dcarry_cell bN y2
    replace s0 := dcarry_cell bN s0
    replace s1 := dcarry_cell bN s1
    replace s2 := dcarry_cell bN s2
    replace l0 := dcarry_cell bN l0
    replace l1 := dcarry_cell bN l1
    replace l2 := dcarry_cell bN l2
    replace m0 := dcarry_cell bN m0
    replace m1 := dcarry_cell bN m1
    replace m2 := dcarry_cell bN m2
    replace Is := Is.keep bN
    replace Il := Il.keep bN
    replace Im := Im.keep bN
    replace Ih := Ih.keep bN
    replace Iq := Iq.keep bN
    replace Ir := Ir.keep bN
    replace Id := Id.keep bN
    replace bw := nbelow_trans bw bN
    clear bN
    go_wp2_with fail
    go_ret
    exact ⟨rfl, bw⟩
  · have hcv : ¬ (cmpN A H < 0) := by unfold cmpN; rw [if_neg hc]; split <;> omega
    have hge : cmpN A H ≥ 0 := by omega
    generalize cmpN A H = cc at *
    clear HNcm
    have e9 := E9.out hc
    rw [e9] at HNs2
    have hneg1 : pd.1 = false := by rw [E7.out, decide_eq_false hc]
    rw [hneg1] at l0 HWD
    clear e9 E7 E8 E9 HNs1 hc Id
    generalize (subR H A).2 = v4 at *
    go_wp2_with fail
    refine Calls.mono (HNs2.out _ _ _ _ (HX.out.keep bw) Ih hnh) ?_
    rintro r w14 ⟨ae, ne, ce, rfl, -, hne, hOe, bN⟩
    replace x0 := dcarry_cell bN x0
    replace x1 := dcarry_cell bN x1
    replace x2 := dcarry_cell bN x2
    replace y0 := dcarry_cell bN y0
    replace y1 := dcarry_cell bN y1
    replace y2 := dcarry_cell bN y2
    replace s0 := dcarry_cell bN s0
    replace s1 := dcarry_cell bN s1
    replace s2 := dcarry_cell bN s2
    replace l0 := dcarry_cell bN l0
    replace l1 := dcarry_cell bN l1
    replace l2 := dcarry_cell bN l2
    replace m0 := dcarry_cell bN m0
    replace m1 := dcarry_cell bN m1
    replace m2 := dcarry_cell bN m2
    replace Is := Is.keep bN
    replace Il := Il.keep bN
    replace Im := Im.keep bN
    replace Ih := Ih.keep bN
    replace Iq := Iq.keep bN
    replace Ir := Ir.keep bN
    replace bw := nbelow_trans bw bN
    clear bN
    have Ie := hOe.1
    clear hOe HNs2
    go_wp2_with fail
    refine Calls.mono (HWS.out _ _ _ _ _ _ _ Is Iq hns hnq (HT.out _ bw)) ?_
    rintro r w20 ⟨rfl, bN⟩
    replace x0 := dcarry_cell bN x0
    replace x1 := dcarry_cell bN x1
    replace x2 := dcarry_cell bN x2
    replace y0 := dcarry_cell bN y0
    replace y1 := dcarry_cell bN y1
    replace y2 := dcarry_cell bN y2
    replace s0 := dcarry_cell bN s0
    replace s1 := dcarry_cell bN s1
    replace s2 := dcarry_cell bN s2
    replace l0 := dcarry_cell bN l0
    replace l1 := dcarry_cell bN l1
    replace l2 := dcarry_cell bN l2
    replace m0 := dcarry_cell bN m0
    replace m1 := dcarry_cell bN m1
    replace m2 := dcarry_cell bN m2
    replace Is := Is.keep bN
    replace Il := Il.keep bN
    replace Im := Im.keep bN
    replace Ih := Ih.keep bN
    replace Iq := Iq.keep bN
    replace Ir := Ir.keep bN
    replace Ie := Ie.keep bN
    replace bw := nbelow_trans bw bN
    clear bN
    go_wp2_with fail
    refine Calls.mono (HWP.out _ _ _ _ _ _ _ Im Ir hnm hnr (HT.out _ bw)) ?_
    rintro r w21 ⟨rfl, bN⟩
    replace x0 := dcarry_cell bN x0
    replace x1 := dcarry_cell bN x1
    replace x2 := dcarry_cell bN x2
    replace y0 := dcarry_cell bN y0
    replace y1 := dcarry_cell bN y1
    replace y2 := dcarry_cell bN y2
    replace s0 := dcarry_cell bN s0
    replace s1 := dcarry_cell bN s1
    replace s2 := dcarry_cell bN s2
    replace l0 := dcarry_cell bN l0
    replace l1 := dcarry_cell bN l1
    replace l2 := dcarry_cell bN l2
    replace m0 := dcarry_cell bN m0
    replace m1 := dcarry_cell bN m1
    replace m2 := dcarry_cell bN m2
    replace Is := Is.keep bN
    replace Il := Il.keep bN
    replace Im := Im.keep bN
    replace Ih := Ih.keep bN
    replace Iq := Iq.keep bN
    replace Ir := Ir.keep bN
    replace Ie := Ie.keep bN
    replace bw := nbelow_trans bw bN
    clear bN
    go_wp2_with fail
    refine Calls.mono (HWD.out _ _ _ _ _ _ _ Il Ie hnl hne (HT.out _ bw)) ?_
    rintro r w22 ⟨rfl, bN⟩
    replace x0 := dcarry_cell bN x0
    replace x1 := dcarry_cell bN x1
    replace x2 := dcarry_cell bN x2
    replace y0 := dcarry_cell bN y0
    replace y1 := dcarry_cell bN y1
    replace y2 := dcarry_cell bN y2
    replace s0 := dcarry_cell bN s0
    replace s1 := dcarry_cell bN s1
    replace s2 := dcarry_cell bN s2
    replace l0 := dcarry_cell bN l0
    replace l1 := dcarry_cell bN l1
    replace l2 := dcarry_cell bN l2
    replace m0 := dcarry_cell bN m0
    replace m1 := dcarry_cell bN m1
    replace m2 := dcarry_cell bN m2
    replace Is := Is.keep bN
    replace Il := Il.keep bN
    replace Im := Im.keep bN
    replace Ih := Ih.keep bN
    replace Iq := Iq.keep bN
    replace Ir := Ir.keep bN
    replace Ie := Ie.keep bN
    replace bw := nbelow_trans bw bN
    clear bN
    go_wp2_with fail
    go_ret
    exact ⟨rfl, bw⟩

set_option maxRecDepth 100000 in
set_option maxHeartbeats 1000000 in
theorem topDyads_walk (a : Option Addr) (la ca : Nat) (xs : List Int) (b : Option Addr) (lb cb : Nat) (ys : List Int) (e : Int) (w : World) (h : IsW w a la ca xs) (_ha : la ≤ 17592186044416) (h' : IsW w b lb cb ys) (_hb : lb ≤ 17592186044416) (_he : -9223372036854775808 ≤ e ∧ e ≤ 9223372036854775807) (hT : Tab w) (hP : Fl.Names w) :
    Calls Tryd.prog 3 #[.slice a la ca, .slice b lb cb, .int .i64 e] w fun r w' => r = .returned (.bool true) ∧ Below w.heap.size w w' := by
  by_cases c1 : 0 ≤ e ∧ e ≤ 2000 ∧ la ≤ 100 ∧ lb ≤ 100
  · obtain ⟨k, rfl⟩ : ∃ k : Nat, e = (k : Int) := ⟨e.toNat, by omega⟩
    exact topDyads_main a la ca xs b lb cb ys k w h h' c1.2.2.1 c1.2.2.2 (by omega) hT hP
  · have HP : Hid _ := hP
    clear _ha _hb _he hT h h' hP
    by_cases g1 : e < 0
    · clear c1
      go_enter Tryd.func3, Tryd.ntmps3
      go_wp2_with fail
      refine Calls.mono (topBegins_calls _ HP.out) ?_
      rintro r w1 ⟨rfl, bN⟩
      go_wp2_with fail
      go_ret
      exact ⟨rfl, bN⟩
    · by_cases g2 : e > 2000
      · clear c1
        go_enter Tryd.func3, Tryd.ntmps3
        go_wp2_with fail
        refine Calls.mono (topBegins_calls _ HP.out) ?_
        rintro r w1 ⟨rfl, bN⟩
        go_wp2_with fail
        go_ret
        exact ⟨rfl, bN⟩
      · by_cases g3 : (la : Int) > 100
        · clear c1
          go_enter Tryd.func3, Tryd.ntmps3
          go_wp2_with fail
          refine Calls.mono (topBegins_calls _ HP.out) ?_
          rintro r w1 ⟨rfl, bN⟩
          go_wp2_with fail
          go_ret
          exact ⟨rfl, bN⟩
        · have g4 : (lb : Int) > 100 := by omega
          clear c1
          go_enter Tryd.func3, Tryd.ntmps3
          go_wp2_with fail
          refine Calls.mono (topBegins_calls _ HP.out) ?_
          rintro r w1 ⟨rfl, bN⟩
          go_wp2_with fail
          go_ret
          exact ⟨rfl, bN⟩
end Go.Proofs.YtmibejihmdkgaaaDoor

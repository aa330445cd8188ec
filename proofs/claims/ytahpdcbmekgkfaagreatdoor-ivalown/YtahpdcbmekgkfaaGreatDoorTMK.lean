/- The walk of takeTimes: a row of words less another times a word. The walks of quotients: two answers at once; Div as it is called; the quotient by one word. The walks of quotientOfTop and above; what guess reckons, in numbers alone. -/
import Derived.Test.YtahpdcbmekgkfaaGreatDoorNMX
import Derived.Test.YtahpdcbmekgkfaaGreatDoorTMB
import Derived.Test.YtahpdcbmekgkfaaGreatDoorTMI

namespace Go.Proofs.YtahpdcbmekgkfaaGreatDoor
open Go.RowKit
theorem take_words (y d c t : Nat) (hy : y < 18446744073709551616) (hd : d < 18446744073709551616) (ht : t < 18446744073709551616) (hc : c < 18446744073709551616) :
  dif t (pL (mL y d) c) 0 + (y * d + c) = t + 18446744073709551616 * (pH (mL y d) (mH y d) c + bor t (pL (mL y d) c) 0) ∧ pH (mL y d) (mH y d) c + bor t (pL (mL y d) c) 0 < 18446744073709551616 := by
 have h1 : y * d ≤ 18446744073709551615 * 18446744073709551615 := Nat.mul_le_mul (by omega) (by omega)
 have h2 := dif_spec t (pL (mL y d) c) 0 ht (pL_lt _ _) (by decide)
 have h3 := dif_lt t (pL (mL y d) c) 0
 have h4 := bor_le t (pL (mL y d) c) 0
 generalize dif t (pL (mL y d) c) 0 = x at *
 generalize bor t (pL (mL y d) c) 0 = b at *
 unfold pL pH mL mH at *
 generalize y * d = p at *
 omega
theorem takeTimes_step (S0 S ys : List Int) (k d t y c lo hi : Nat) (hk : k < S.length) (ht : S0.getD k 0 = (t : Int)) (hy : ys.getD k 0 = (y : Int))
  (hv : low S k + d * low ys k = low S0 k + 18446744073709551616 ^ k * c) (hw : lo + (y * d + c) = t + 18446744073709551616 * hi) :
  low (S.set k (lo : Int)) (k + 1) + d * low ys (k + 1) = low S0 (k + 1) + 18446744073709551616 ^ (k + 1) * hi := by
 have e1 : low (S.set k (lo : Int)) (k + 1) = low S k + 18446744073709551616 ^ k * lo := by
  show low (S.set k (lo : Int)) k + _ * ((S.set k (lo : Int)).getD k 0).toNat = _
  rw [low_set S k _ k (Nat.le_refl _), getD_set S k k _ hk, if_pos rfl, Int.toNat_natCast]
 have e2 : low S0 (k + 1) = low S0 k + 18446744073709551616 ^ k * t := by show low S0 k + _ * (S0.getD k 0).toNat = _; rw [ht, Int.toNat_natCast]
 have e3 : low ys (k + 1) = low ys k + 18446744073709551616 ^ k * y := by show low ys k + _ * (ys.getD k 0).toNat = _; rw [hy, Int.toNat_natCast]
 have e4 := congrArg (18446744073709551616 ^ k * ·) hw
 simp only [Nat.mul_add] at e4
 have e5 : d * (18446744073709551616 ^ k * y) = 18446744073709551616 ^ k * (y * d) := by rw [Nat.mul_left_comm, Nat.mul_comm d y]
 rw [e1, e2, e3, Nat.mul_add, e5, Nat.pow_succ, Nat.mul_assoc]
 omega
set_option maxRecDepth 100000 in
set_option maxHeartbeats 8000000 in
theorem takeTimes_calls (B g off n c m : Nat) (b : Option Addr) (S0 ys : List Int) (d : Nat) (w : World) (h : OwnW B w (some ⟨g, off, none⟩) n c S0) (hB : IsW w b n m ys) (hbg : ∀ b' o, b = some ⟨b', o, none⟩ → b' ≠ g) (hn : n ≤ 17592186044416) (hd : d < 18446744073709551616) :
  Calls Tryz.prog 228 #[.slice (some ⟨g, off, none⟩) n c, .slice b n m, .int .u64 (d : Int)] w fun e w' => ∃ (S : List Int) (cr : Nat), e = .returned (.int .u64 (cr : Int)) ∧ cr < 18446744073709551616 ∧ OwnW B w' (some ⟨g, off, none⟩) n c S ∧ val S + d * val ys = val S0 + 18446744073709551616 ^ n * cr ∧ Upd g off n w w' := by
 have HL : Hid (S0.length = n ∧ ys.length = n) := ⟨h.1.1.symm, hB.1.symm⟩
 have HU0 : Hid (AllU S0) := h.1.2.1
 have HBG : Hid (∀ b' o, b = some ⟨b', o, none⟩ → b' ≠ g) := hbg
 have HB : Hid (IsW w b n m ys) := hB
 clear hbg hB
 go_enter Tryz.func228, Tryz.ntmps228
 go_wp2_with fail
 go_loopw [7, 14] (fun vc vi wr => ∃ (k cr : Nat) (S : List Int), k ≤ n ∧ vi = .int .i64 k ∧ vc = .int .u64 (cr : Int) ∧ cr < 18446744073709551616 ∧ Hid (∀ j, k ≤ j → S.getD j 0 = S0.getD j 0) ∧ Hid (low S k + d * low ys k = low S0 k + 18446744073709551616 ^ k * cr) ∧ OwnW B wr (some ⟨g, off, none⟩) n c S ∧ Upd g off n w wr) (fun _ vi _ => n - (intOf vi).toNat)
 case atStart => exact ⟨0, 0, S0, by omega, rfl, rfl, by decide, fun _ _ => rfl, by simp [Hid, low], h, Upd.refl _ _ _ _⟩
 case round =>
  clear h
  obtain ⟨k, cr, S, hk, rfl, rfl, hcr, HS, HV, hO, hup⟩ := hrel
  have HSL : Hid (S.length = n) := hO.1.1.symm
  by_cases hlt : k < n
  ·obtain ⟨b', o', hbe, hbl, hcy⟩ := HB.out.2.2.2 k hlt
   have hbne := HBG.out b' o' hbe
   obtain ⟨y, hy, hy1⟩ := word_nat0 ys HB.out.2.1 k
   have hcy2 : wr.cell? ⟨b', o' + k, none⟩ = some (.int .u64 (y : Int)) := by
    rw [← hy]; exact hup.grown.cell hcy (fun e => hbne (by simpa using e))
   obtain ⟨t, ht, ht1⟩ := word_nat0 S0 HU0.out k
   obtain ⟨_, _, e1, hgl, hcell⟩ := hO.1.2.2.2 k hlt
   simp only [Option.some.injEq, Addr.mk.injEq, and_true] at e1
   obtain ⟨rfl, rfl⟩ := e1
   rw [HS.out k (Nat.le_refl _), ht] at hcell
   have hfz := (hO.2 _ _ k rfl hlt).2
   subst hbe
   have HMA : Hid _ := take_words y d cr t hy1 hd ht1 hcr
   have HY : Hid (ys.getD k 0 = (y : Int)) := hy
   have HT : Hid (S0.getD k 0 = (t : Int)) := ht
   clear hcy hy ht
   have hgne : g ≠ wr.heap.size := Nat.ne_of_lt hgl
   go_wp2_with fail
   refine Calls.mono (product_calls y d _ hy1 hd) ?_
   rintro e w2 ⟨rfl, rfl⟩
   go_wp2_with fail
   refine Calls.mono (pairPlus_calls _ _ _ _) ?_
   rintro e w3 ⟨rfl, rfl⟩
   have hlo := pL_lt (mL y d) cr
   have hhi := pH_lt (mL y d) (mH y d) cr
   go_wp2_with fail
   refine gen_world (fun W => Below wr.heap.size wr W ∧ W.cell? ⟨wr.heap.size + 1 + 1 + 1, 0, none⟩ = some (.int .u64 (pL (mL y d) cr : Nat)) ∧ W.cell? ⟨wr.heap.size + 1 + 1 + 1, 1, none⟩ = some (.int .u64 (pH (mL y d) (mH y d) cr : Nat))) (And.intro ?_ (And.intro ?_ ?_)) ?_
   rotate_left
   ·go_simp
   ·go_simp
   rotate_left
   ·repeat (first | exact Below.refl _ _ | exact (Below.refl _ _).drew | apply Below.drew | refine Below.setCell ?_ (by simp) _ | refine Below.alloc ?_ (by simp; try omega) _)
   rintro W5 ⟨hbE, hp0, hp1⟩
   have hpb : wr.heap.size + 1 + 1 + 1 ≠ g := by omega
   generalize wr.heap.size + 1 + 1 + 1 = pb at *
   have hcE := carry_cell hbE hcell
   have hfE := carry_frozen hbE hcell hfz
   have hr : ∀ w, (callFunc 222 #[.int .u64 (t : Int), .int .u64 (pL (mL y d) cr : Nat), .int .u64 0]).run Tryz.prog w = .ok (.value (.tuple #[.int .u64 (dif t (pL (mL y d) cr) 0 : Nat), .int .u64 (bor t (pL (mL y d) cr) 0 : Nat)])) w := fun w => sub64_run t (pL (mL y d) cr) 0 (by decide) w
   have hdl := dif_lt t (pL (mL y d) cr) 0
   have hbo := bor_le t (pL (mL y d) cr) 0
   obtain ⟨cr2, hcr2⟩ : ∃ c, c = pH (mL y d) (mH y d) cr + bor t (pL (mL y d) cr) 0 := ⟨_, rfl⟩
   have q3 : IntKind.u64.wrap ((pH (mL y d) (mH y d) cr : Nat) + (bor t (pL (mL y d) cr) 0 : Nat) : Int) = (cr2 : Int) := by
    have := HMA.out.2
    rw [hcr2, IntKind.wrap_u64]; omega
   rw [← hcr2] at HMA
   have hcb := HMA.out.2
   clear hcr2
   generalize pL (mL y d) cr = plo at *
   generalize pH (mL y d) (mH y d) cr = phi at *
   generalize dif t plo 0 = lo at *
   generalize bor t plo 0 = bo at *
   go_region
   all_goals
    have hO6 := (hO.keep hbE.drew).set (i := k) hlt (v := (lo : Int)) (by omega) (by omega)
    have hup6 := (hup.below hgl hbE.drew).set hlt (.int .u64 (lo : Int))
    go_wp2_with fail
    refine ⟨⟨k + 1, cr2, S.set k (lo : Int), by omega, by go_num, rfl, hcb, ?_, ?_, hO6, hup6⟩, by simp [intOf]; omega⟩
    ·intro j hj
     have := HSL.out
     rw [getD_set _ _ _ _ (by omega), if_neg (by omega)]; exact HS.out j (by omega)
    ·have := HSL.out
     exact takeTimes_step S0 S ys k d t y cr lo cr2 (by omega) HT.out HY.out HV.out HMA.out.1
  ·have HE : Hid (val S + d * val ys = val S0 + 18446744073709551616 ^ n * cr) := by
    have e := HV.out
    have h1 := HL.out; have h2 := HSL.out
    obtain rfl : k = n := by omega
    rw [low_all S k (by omega), low_all S0 k (by omega), low_all ys k (by omega)] at e
    exact e
   go_wp2_with fail
   go_ret
   exact ⟨S, cr, rfl, hcr, hO, HE.out, hup⟩
set_option maxHeartbeats 1000000
set_option maxRecDepth 100000
theorem answers_calls (B : Nat) (a a' : Option Addr) (n c n' c' : Nat) (xs ys : List Int) (w : World) (h : OwnW B w a n c xs) (h' : OwnW B w a' n' c' ys) (hm : n ≤ 17592186044416) (hm' : n' ≤ 17592186044416) (hx : greatB (val xs) = false) (hy : greatB (val ys) = false) :
  Calls Tryz.prog 175 #[.slice a n c, .slice a' n' c'] w fun e w' => ∃ v v', e = .returned (.tuple #[v, v', .int .i64 0]) ∧ NatAt B w' v (val xs) ∧ NatAt B w' v' (val ys) ∧ Below w.heap.size w w' := by
 have HX : Hid _ := fitR_no hx
 have HY : Hid _ := fitR_no hy
 go_enter Tryz.func175, Tryz.ntmps175
 go_wp2_with fail
 refine cM (answer_calls B a n c xs w h hm) ?_
 rintro e w1 ⟨v, rfl, hA, hb⟩
 rw [HX.out] at hA ⊢
 have h1 := h'.keep hb
 clear hx hy
 go_wp2_with fail
 refine cM (answer_calls B a' n' c' ys w1 h1 hm') ?_
 rintro e w2 ⟨v', rfl, hA', hb'⟩
 rw [HY.out] at hA' ⊢
 go_wp2_with fail
 go_ret3
 exact ⟨v, v', rfl, hA.keep hb', hA', nT hb hb'⟩
def OverC (u v : Nat) : Prop := ∀ (a b : Option Addr) (n m : Nat) (w : World), IsW w a n n (wO u) → IsW w b m m (wO v) → n ≤ 1024 → m ≤ 1024 →
 Calls Tryz.prog 196 #[.slice a n n, .slice b m m] w fun e w' => ∃ (a1 a2 : Option Addr) (k1 c1 k2 c2 : Nat) (M1 M2 : List Int), e = .returned (.tuple #[.slice a1 k1 c1, .slice a2 k2 c2]) ∧ OwnW w.heap.size w' a1 k1 c1 M1 ∧ val M1 = u / v ∧ k1 ≤ 4096 ∧ OwnW w.heap.size w' a2 k2 c2 M2 ∧ val M2 = u % v ∧ k2 ≤ 4096 ∧ Below w.heap.size w w'
theorem over_small (u v : Nat) (hlt : u < v) : OverC u v := by
 intro a b n m w hA hB hn hm
 have HC : Hid (cmpN u v = -1) := by rw [Hid, cmpN, if_pos hlt]
 go_enter Tryz.func196, Tryz.ntmps196
 go_wp2_with fail
 refine cM (against_calls a b n m u v w hA hB (by omega) (by omega)) ?_
 rintro e w1 ⟨rfl, hb⟩
 rw [HC.out]
 go_wp2_with fail
 refine cM (copied_calls a n (wO u) w1 (hA.keep hb) (by omega)) ?_
 rintro e w2 ⟨ao, cv, rfl, hO, hb2⟩
 have HD : Hid (u / v = 0 ∧ u % v = u) := ⟨Nat.div_eq_of_lt hlt, Nat.mod_eq_of_lt hlt⟩
 clear hlt
 go_wp2_with fail
 go_ret2
 exact ⟨none, ao, 0, 0, n, cv, [], wO u, rfl, ownW_nil _ _, by rw [HD.out.1]; rfl, by omega, hO.low hb.size, by rw [HD.out.2, val_words], by omega, nT hb hb2⟩
theorem over_one (u v : Nat) (hv0 : 0 < v) (hv : v < 18446744073709551616) : OverC u v := by
 by_cases hlt : u < v
 ·exact over_small u v hlt
 intro a b n m w hA hB hn hm
 have hc : 0 ≤ cmpN u v := by unfold cmpN; rw [if_neg hlt]; split <;> omega
 have hW : wO v = [(v : Int)] := by
  rw [words_pos v (by omega), Nat.mod_eq_of_lt hv, Nat.div_eq_of_lt hv, words_zero]
 have hm1 : m = 1 := by rw [hB.1, hW]; rfl
 subst hm1
 obtain ⟨bb, bo, rfl, hbl, hbc⟩ := hB.2.2.2 0 (by omega)
 rw [hW] at hbc
 have hbc1 : w.cell? ⟨bb, bo, none⟩ = some (.int .u64 (v : Int)) := hbc
 have hu : u ≠ 0 := by omega
 have hn1 : 0 < n := by
  rcases Nat.eq_zero_or_pos n with h1 | h1
  ·exact absurd ((words_nil _).1 (List.length_eq_zero_iff.1 (by rw [← hA.1]; exact h1))) hu
  ·exact h1
 have AG : Hid _ := against_calls a (some ⟨bb, bo, none⟩) n 1 u v w hA hB (by omega) (by omega)
 clear hlt hW hbc hB hu
 go_enter Tryz.func196, Tryz.ntmps196
 go_wp2_with fail
 refine cM AG.out ?_
 rintro e w1 ⟨rfl, hb⟩
 generalize cmpN u v = cc at hc ⊢
 have hbc2 : w1.cell? ⟨bb, bo, none⟩ = some (.int .u64 (v : Int)) := (hb.cell (p := ⟨bb, bo, none⟩) hbl).trans hbc1
 have hbl1 : bb < w1.heap.size := Nat.lt_of_lt_of_le hbl hb.size
 clear AG
 go_wp2_with fail
 refine cM (copied_calls a n (wO u) w1 (hA.keep hb) (by omega)) ?_
 rintro e w2 ⟨ao, cv, rfl, hO, hb2⟩
 obtain ⟨g, off, rfl, hgl, _⟩ := hO.1.2.2.2 0 hn1
 have hgB := (hO.2 g off 0 rfl hn1).1
 have hbc3 : w2.cell? ⟨bb, bo, none⟩ = some (.int .u64 (v : Int)) := (hb2.cell (p := ⟨bb, bo, none⟩) hbl1).trans hbc2
 clear hbc1 hbc2
 go_wp2_with fail
 refine cM (divideBy_calls w1.heap.size g off n cv v (wO u) w2 hO (by omega) hv0 hv) ?_
 rintro e w3 ⟨M, rfl, hO3, hvM, hg3⟩
 rw [val_words] at hvM ⊢
 have HM : Hid (val M = u / v) := hvM
 have hrl := Nat.mod_lt u hv0
 have HR : Hid _ := hvM
 obtain ⟨rm, hrm⟩ : ∃ rm, rm = u % v := ⟨_, rfl⟩
 rw [← hrm] at hrl ⊢
 have HRM : Hid (rm = u % v) := hrm
 clear hvM hrm HR
 have hb3 : Below w1.heap.size w1 w3 := hb2.grown hg3 hb2.size (fun k e => by simp at e; omega)
 go_wp2_with fail
 refine cM (word_calls (rm : Int) w3 (by omega) (by omega)) ?_
 rintro e w4 ⟨ao4, n4, rfl, hn4, hO4, hb4⟩
 rw [Int.toNat_natCast] at hn4 hO4
 have hn4l : n4 ≤ 1 := by
  rw [hn4, words_len]; omega
 clear hn4
 go_wp2_with fail
 go_ret2
 exact ⟨some ⟨g, off, none⟩, ao4, n, cv, n4, n4, M, wO rm, rfl, (hO3.keep hb4).low hb.size, HM.out, by omega, hO4.low (Nat.le_trans hb.size hb3.size), by rw [val_words, HRM.out], by omega, nT (nT hb hb3) hb4⟩
def divE (u v : Nat) : Int := if (greatB u || greatB v) = true then 3 else if v = 0 then 30 else 0
def divQ (u v : Nat) : Nat := if (greatB u || greatB v) = true then 0 else if v = 0 then 0 else u / v
def divM (u v : Nat) : Nat := if (greatB u || greatB v) = true then 0 else if v = 0 then 0 else u % v
theorem div_yes {u v : Nat} (h : (greatB u || greatB v) = true) : divE u v = 3 ∧ divQ u v = 0 ∧ divM u v = 0 := by simp [divE, divQ, divM, h]
theorem div_zero {u v : Nat} (h : (greatB u || greatB v) = false) (hv : v = 0) : divE u v = 30 ∧ divQ u v = 0 ∧ divM u v = 0 := by
 rw [divE, divQ, divM, h, if_pos hv, if_pos hv, if_pos hv]; simp
theorem div_no {u v : Nat} (h : (greatB u || greatB v) = false) (hv : v ≠ 0) : divE u v = 0 ∧ divQ u v = u / v ∧ divM u v = u % v := by simp [divE, divQ, divM, h, hv]
theorem div_calls (a a' : Option Addr) (len cap len' cap' : Nat) (xs ys : List Int) (w : World) (h : IsW w a len cap xs) (h' : IsW w a' len' cap' ys) (hm : len ≤ 17592186044416) (hm' : len' ≤ 17592186044416) (hov : val ys ≠ 0 → OverC (val xs) (val ys)) :
  Calls Tryz.prog 166 #[.slice a len cap, .slice a' len' cap'] w fun e w' => ∃ v v', e = .returned (.tuple #[v, v', .int .i64 (divE (val xs) (val ys))]) ∧ NatAt w.heap.size w' v (divQ (val xs) (val ys)) ∧ NatAt w.heap.size w' v' (divM (val xs) (val ys)) ∧ Below w.heap.size w w' := by
 have HT := trimN_pack a len cap xs w h hm
 have HT' := trimN_pack a' len' cap' ys w h' hm'
 have HOV : Hid (val ys ≠ 0 → OverC (val xs) (val ys)) := hov
 clear hov
 go_enter Tryz.func166, Tryz.ntmps166
 go_wp2_with fail
 refine cM HT ?_
 rintro e w ⟨a1, n, rfl, hn, hI, rfl⟩
 have HN : Hid (n = (wO (val xs)).length) := hn
 clear hn HT h hm
 go_wp2_with fail
 refine cM HT' ?_
 rintro e w ⟨a2, n', rfl, hn', hI', rfl⟩
 have HN' : Hid (n' = (wO (val ys)).length) := hn'
 clear hn' HT' h' hm'
 go_wp2_with fail
 refine cM (great2_calls _ a1 a2 n n n' n' _ (by go_simp) (by go_simp)) ?_
 rintro e w1 ⟨rfl, rfl⟩
 cases hd : (decide (1024 < n) || decide (1024 < n')) with
 | true =>
  have e0 : Hid _ := div_yes (u := val xs) (v := val ys) (by rw [greatB, greatB, ← HN.out, ← HN'.out]; exact hd)
  clear hd
  go_wp2_with fail
  go_ret3
  rw [e0.out.1, e0.out.2.1, e0.out.2.2]
  exact ⟨_, _, rfl, natAt_nil _ _, natAt_nil _ _, below_one _ _⟩
 | false =>
  have e0 : Hid ((greatB (val xs) || greatB (val ys)) = false) := by
   rw [Hid, greatB, greatB, ← HN.out, ← HN'.out]; exact hd
  have hle : n ≤ 1024 ∧ n' ≤ 1024 := by simpa using hd
  clear hd
  by_cases hv : val ys = 0
  ·have e1 : Hid _ := div_zero e0.out hv
   have hn0 : n' = 0 := by rw [HN'.out, hv, words_zero]; rfl
   subst hn0
   clear hv
   go_wp2_with fail
   go_ret3
   rw [e1.out.1, e1.out.2.1, e1.out.2.2]
   exact ⟨_, _, rfl, natAt_nil _ _, natAt_nil _ _, below_one _ _⟩
  ·have e1 : Hid _ := div_no e0.out hv
   have hn0 : ((n' : Int) == 0) = false := by
    have : n' ≠ 0 := fun e => hv ((words_nil _).1 (List.length_eq_zero_iff.1 (by rw [← HN'.out]; exact e)))
    simp; omega
   have hfit := e0.out
   rw [Bool.or_eq_false_iff] at hfit
   have HF : Hid (greatB (val xs / val ys) = false ∧ greatB (val xs % val ys) = false) := ⟨great_mono (Nat.div_le_self _ _) hfit.1, great_mono (Nat.mod_le _ _) hfit.1⟩
   have HO := HOV.out hv a1 a2 n n' _ (hI.keep (below_one w (.cells #[.slice a1 n n, .slice a2 n' n'] 136))) (hI'.keep (below_one w (.cells #[.slice a1 n n, .slice a2 n' n'] 136))) hle.1 hle.2
   have HO2 : Hid _ := HO
   clear hv hfit HO HOV
   go_wp2_with fail
   refine cM HO2.out ?_
   rintro e w2 ⟨b1, b2, k1, c1, k2, c2, M1, M2, rfl, hO1, hv1, hk1, hOb, hv2, hk2, hb2⟩
   have HV1 : Hid (val M1 = val xs / val ys) := hv1
   have HV2 : Hid (val M2 = val xs % val ys) := hv2
   clear hv1 hv2 HO2
   go_wp2_with fail
   refine cM (answers_calls _ b1 b2 k1 c1 k2 c2 M1 M2 w2 hO1 hOb (by omega) (by omega) (by rw [HV1.out]; exact HF.out.1) (by rw [HV2.out]; exact HF.out.2)) ?_
   rintro e w3 ⟨v, v', rfl, hA, hA', hb3⟩
   rw [HV1.out] at hA
   rw [HV2.out] at hA'
   go_wp2_with fail
   go_ret3
   rw [e1.out.1, e1.out.2.1, e1.out.2.2]
   exact ⟨v, v', rfl, hA.low (by simp), hA'.low (by simp), nT (nT (below_one _ _) hb2) hb3⟩
set_option maxHeartbeats 1000000
theorem above_calls (a b c d : Nat) (w : World) :
  Calls Tryz.prog 230 #[.agg #[.int .u64 (a : Int), .int .u64 (b : Int)], .agg #[.int .u64 (c : Int), .int .u64 (d : Int)]] w fun e w' => e = .returned (.bool (decide (d < b ∨ d = b ∧ c < a))) ∧ w' = (w.alloc (.cells #[.int .u64 (a : Int), .int .u64 (b : Int)] 172)).alloc (.cells #[.int .u64 (c : Int), .int .u64 (d : Int)] 172) := by
 rcases Nat.lt_trichotomy d b with q | q | q
 ·have e0 : decide (d < b ∨ d = b ∧ c < a) = true := by simp [q]
  rw [e0]
  clear e0
  go_enter Tryz.func230, Tryz.ntmps230
  go_wp2
  go_ret
  exact ⟨rfl, rfl⟩
 ·subst q
  have e0 : decide (d < d ∨ d = d ∧ c < a) = decide (c < a) := by simp
  rw [e0]
  clear e0
  by_cases q : c < a
  ·rw [decide_eq_true q]
   go_enter Tryz.func230, Tryz.ntmps230
   go_wp2
   go_ret
   exact ⟨rfl, rfl⟩
  ·rw [decide_eq_false q]
   go_enter Tryz.func230, Tryz.ntmps230
   go_wp2
   go_ret
   exact ⟨rfl, rfl⟩
 ·have e0 : decide (d < b ∨ d = b ∧ c < a) = false := by simp; omega
  rw [e0]
  clear e0
  go_enter Tryz.func230, Tryz.ntmps230
  go_wp2
  go_ret
  refine ⟨?_, rfl⟩
  show Ending.returned (.bool (decide (d < b))) = _
  rw [decide_eq_false (by omega)]
theorem ntop_calls (hi lo top : Nat) (w : World) (h1 : hi ≤ top) (h2 : lo < 18446744073709551616) (h3 : top < 18446744073709551616) (h4 : 0 < top) :
  Calls Tryz.prog 231 #[.int .u64 (hi : Int), .int .u64 (lo : Int), .int .u64 (top : Int)] w fun e w' => ∃ q r b : Nat, e = .returned (.tuple #[.int .u64 (q : Int), .int .u64 (r : Int), .int .u64 (b : Int)]) ∧ Hid (q * top + (r + 18446744073709551616 * b) = hi * 18446744073709551616 + lo) ∧ q < 18446744073709551616 ∧ r < 18446744073709551616 ∧ b ≤ 1 ∧ Hid (q = 18446744073709551615 ∨ b = 0 ∧ r < top) ∧ Below w.heap.size w w' := by
 by_cases he : hi = top
 ·subst he
  have hr : ∀ w, (callFunc 225 #[.int .u64 (lo : Int), .int .u64 (hi : Int), .int .u64 0]).run Tryz.prog w = .ok (.value (.tuple #[.int .u64 (((lo + hi) % 18446744073709551616 : Nat) : Int), .int .u64 (((lo + hi) / 18446744073709551616 : Nat) : Int)])) w := fun w => add64_run lo hi 0 (by decide) w
  obtain ⟨r, hr1⟩ : ∃ r, r = (lo + hi) % 18446744073709551616 := ⟨_, rfl⟩
  obtain ⟨b, hb1⟩ : ∃ b, b = (lo + hi) / 18446744073709551616 := ⟨_, rfl⟩
  rw [← hr1, ← hb1] at hr
  have HF : Hid (18446744073709551615 * hi + (r + 18446744073709551616 * b) = hi * 18446744073709551616 + lo ∧ r < 18446744073709551616 ∧ b ≤ 1) := by rw [Hid]; omega
  clear hr1 hb1
  go_enter Tryz.func231, Tryz.ntmps231
  go_wp2
  go_ret3
  exact ⟨18446744073709551615, r, b, rfl, HF.out.1, by decide, HF.out.2.1, HF.out.2.2, Or.inl rfl, Below.refl _ _⟩
 ·have hne : ((hi : Int) == (top : Int)) = false := by simp; omega
  have DC : Hid _ := div64_calls hi lo top w h2 h3 (by omega)
  obtain ⟨q, hq1⟩ : ∃ q, q = (hi * 18446744073709551616 + lo) / top := ⟨_, rfl⟩
  obtain ⟨r, hr1⟩ : ∃ r, r = (hi * 18446744073709551616 + lo) % top := ⟨_, rfl⟩
  rw [← hr1, ← hq1] at DC
  have HF : Hid (q * top + (r + 18446744073709551616 * 0) = hi * 18446744073709551616 + lo ∧ q < 18446744073709551616 ∧ r < top) := by
   refine ⟨?_, ?_, ?_⟩
   ·have := Nat.div_add_mod (hi * 18446744073709551616 + lo) top
    rw [← hq1, ← hr1, Nat.mul_comm top q] at this
    omega
   ·rw [hq1, Nat.div_lt_iff_lt_mul h4]
    omega
   ·rw [hr1]; exact Nat.mod_lt _ h4
  clear hr1 hq1
  go_enter Tryz.func231, Tryz.ntmps231
  go_wp2_with fail
  refine Calls.mono DC.out ?_
  rintro e w1 ⟨rfl, hb⟩
  go_wp2_with fail
  go_ret3
  exact ⟨q, r, 0, rfl, HF.out.1, HF.out.2.1, by have := HF.out.2.2; omega, by decide, Or.inr ⟨rfl, HF.out.2.2⟩, hb⟩
theorem guess_above (k next r an2 : Nat) (h : an2 < 18446744073709551616) : (r < mH k next ∨ r = mH k next ∧ an2 < mL k next) ↔ r * 18446744073709551616 + an2 < k * next := by
 unfold mH mL
 generalize k * next = p
 omega
def Top3 (an an1 an2 : Nat) : Nat := (an * 18446744073709551616 + an1) * 18446744073709551616 + an2
def Top2 (top next : Nat) : Nat := top * 18446744073709551616 + next
theorem gs_start {an an1 an2 top next q r b : Nat} (h2 : an2 < 18446744073709551616) (h : q * top + (r + 18446744073709551616 * b) = an * 18446744073709551616 + an1) (hq : q = 18446744073709551615 ∨ b = 0 ∧ r < top) :
  ∀ t, t < 18446744073709551616 → t * Top2 top next ≤ Top3 an an1 an2 → t ≤ q := by
 intro t ht hle
 rcases hq with hq | ⟨rfl, hr⟩
 ·omega
 ·unfold Top2 Top3 at hle
  rw [Nat.mul_add, ← Nat.mul_assoc, ← h] at hle
  rcases Nat.lt_or_ge q t with q1 | q1
  ·have e1 : (q + 1) * top ≤ t * top := Nat.mul_le_mul_right _ q1
   rw [Nat.add_mul, Nat.one_mul] at e1
   generalize t * top = x at *
   generalize q * top = y at *
   generalize t * next = z at *
   omega
  ·exact q1
theorem gs_down {an an1 an2 top next k r : Nat} (h : k * top + (r + 18446744073709551616 * 0) = an * 18446744073709551616 + an1)
  (hk : ∀ t, t < 18446744073709551616 → t * Top2 top next ≤ Top3 an an1 an2 → t ≤ k) (hgt : r * 18446744073709551616 + an2 < k * next) :
  0 < k ∧ ∀ t, t < 18446744073709551616 → t * Top2 top next ≤ Top3 an an1 an2 → t ≤ k - 1 := by
 have h0 : 0 < k := by
  rcases Nat.eq_zero_or_pos k with q | q
  ·subst q; rw [Nat.zero_mul] at hgt; omega
  ·exact q
 refine ⟨h0, fun t ht hle => ?_⟩
 have h1 := hk t ht hle
 rcases Nat.lt_or_ge t k with q | q
 ·omega
 ·obtain rfl : t = k := by omega
  unfold Top2 Top3 at hle
  rw [Nat.mul_add, ← Nat.mul_assoc, ← h] at hle
  generalize t * top = x at *
  generalize t * next = z at *
  omega
theorem gs_end {an an1 an2 top next k r b : Nat} (h : k * top + (r + 18446744073709551616 * b) = an * 18446744073709551616 + an1) (hle : ¬ (r + 18446744073709551616 * b) * 18446744073709551616 + an2 < k * next) :
  k * Top2 top next ≤ Top3 an an1 an2 := by
 unfold Top2 Top3
 rw [Nat.mul_add, ← Nat.mul_assoc, ← h]
 generalize k * top = x at *
 generalize k * next = z at *
 omega
end Go.Proofs.YtahpdcbmekgkfaaGreatDoor

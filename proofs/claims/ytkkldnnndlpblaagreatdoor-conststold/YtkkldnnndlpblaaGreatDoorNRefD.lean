/- The walk of the document's Div. -/
import Derived.Test.YtkkldnnndlpblaaGreatDoorNRefM3
import Derived.Test.YtkkldnnndlpblaaGreatDoorTMG
namespace Go.Proofs.YtkkldnnndlpblaaGreatDoor
open Go.RowKit

theorem bit_room (N Q e : Nat) (he : e < 64) (hN : N = Q * 2 ^ (e + 1)) : N % 18446744073709551616 + 2 ^ e < 18446744073709551616 := by
  have h1 : 18446744073709551616 = 2 ^ (e + 1) * 2 ^ (63 - e) := by rw [← Nat.pow_add, show e + 1 + (63 - e) = 64 by omega]
  have h2 : N % 18446744073709551616 = 2 ^ (e + 1) * (Q % 2 ^ (63 - e)) := by
    rw [hN, Nat.mul_comm Q, h1, Nat.mul_mod_mul_left]
  have h3 : Q % 2 ^ (63 - e) < 2 ^ (63 - e) := Nat.mod_lt _ (Nat.pow_pos (by decide))
  have h4 : 2 ^ (e + 1) * (Q % 2 ^ (63 - e) + 1) ≤ 2 ^ (e + 1) * 2 ^ (63 - e) := Nat.mul_le_mul_left _ h3
  rw [← h1, Nat.mul_add, Nat.mul_one] at h4
  have h5 : 2 ^ (e + 1) = 2 * 2 ^ e := by rw [Nat.pow_succ, Nat.mul_comm]
  have h6 : 0 < 2 ^ e := Nat.pow_pos (by decide)
  rw [h2]
  omega
/-- One bit more of a quotient. -/
theorem bit_put (M : List Int) (hU : AllU M) (i Q : Nat) (hl : i / 64 < M.length) (hv : val M = Q * 2 ^ (i + 1)) :
    ∃ t : Nat, M.getD (i / 64) 0 = (t : Int) ∧ t + 2 ^ (i % 64) < 18446744073709551616 ∧ val (M.set (i / 64) ((t + 2 ^ (i % 64) : Nat) : Int)) = val M + 2 ^ i := by
  obtain ⟨t, ht, ht1⟩ := word_nat0 M hU (i / 64)
  have hw := val_word M hU (i / 64)
  rw [ht, Int.toNat_natCast] at hw
  have e1 : i + 1 = 64 * (i / 64) + (i % 64 + 1) := by omega
  have e2 : val M / 18446744073709551616 ^ (i / 64) = Q * 2 ^ (i % 64 + 1) := by
    have : (18446744073709551616 : Nat) ^ (i / 64) = 2 ^ (64 * (i / 64)) := by rw [Nat.pow_mul]
    rw [this, hv]
    conv => lhs; rw [e1]
    rw [Nat.pow_add, Nat.mul_left_comm, Nat.mul_div_cancel_left _ (Nat.pow_pos (by decide))]
  have h3 := bit_room (val M / 18446744073709551616 ^ (i / 64)) Q (i % 64) (by omega) e2
  rw [hw] at h3
  refine ⟨t, ht, h3, ?_⟩
  have e4 := val_set M (i / 64) ((t + 2 ^ (i % 64) : Nat) : Int) hl
  rw [ht, Int.toNat_natCast, Int.toNat_natCast, Nat.mul_add] at e4
  have e5 : (18446744073709551616 : Nat) ^ (i / 64) * 2 ^ (i % 64) = 2 ^ i := by
    rw [show (18446744073709551616 : Nat) = 2 ^ 64 from rfl, ← Nat.pow_mul, ← Nat.pow_add]; congr 1; omega
  rw [e5] at e4
  omega
theorem NatAt.other {B : Nat} {w : World} {v : Value} {r : Nat} (h : NatAt B w v r) (p : Addr) (u : Value) (hp : p.block < B) : NatAt B (w.setCell p u) v r := by
  obtain ⟨ao, n, c, e1, e2, h3⟩ := h
  by_cases h0 : n = 0
  · subst h0
    refine ⟨ao, 0, c, e1, e2, ⟨h3.1.1, h3.1.2.1, h3.1.2.2.1, fun i hi => absurd hi (by omega)⟩, fun b off i _ hi => absurd hi (by omega)⟩
  · exact ⟨ao, n, c, e1, e2, h3.other p u fun b off e => by have := (h3.2 b off 0 e (by omega)).1; omega⟩
theorem cmpN_ge (u v : Nat) : (v ≤ u → 0 ≤ cmpN u v) ∧ (¬ v ≤ u → cmpN u v < 0) := by
  unfold cmpN
  constructor
  · intro h; rw [if_neg (by omega)]; split <;> decide
  · intro h; rw [if_pos (by omega)]; decide
/-- What the quotient so far, what is left and the divisor come to. -/
def DivInv (u v q r D k : Nat) : Prop := u = q * v + r ∧ r < v * 2 ^ k ∧ (∃ Q, q = Q * 2 ^ k) ∧ (0 < k → D = v * 2 ^ (k - 1))
theorem DivInv.take {u v q r D i : Nat} (h : DivInv u v q r D (i + 1)) (hd : D ≤ r) : DivInv u v (q + 2 ^ i) (r - D) (D / 2) i := by
  obtain ⟨h1, h2, ⟨Q, h3⟩, h4⟩ := h
  have h4 := h4 (by omega)
  rw [Nat.add_sub_cancel] at h4
  refine ⟨?_, ?_, ⟨2 * Q + 1, ?_⟩, fun hi => ?_⟩
  · rw [Nat.add_mul, Nat.mul_comm (2 ^ i), ← h4]; omega
  · rw [Nat.pow_succ, ← Nat.mul_assoc, ← h4] at h2; rw [← h4]; omega
  · rw [h3, Nat.add_mul, Nat.pow_succ, Nat.one_mul, Nat.mul_comm 2 Q, Nat.mul_assoc Q, Nat.mul_comm 2]
  · obtain ⟨j, rfl⟩ : ∃ j, i = j + 1 := ⟨i - 1, by omega⟩
    rw [h4, Nat.add_sub_cancel, Nat.pow_succ, ← Nat.mul_assoc, Nat.mul_div_cancel _ (by decide)]
theorem DivInv.skip {u v q r D i : Nat} (h : DivInv u v q r D (i + 1)) (hd : ¬ D ≤ r) : DivInv u v q r (D / 2) i := by
  obtain ⟨h1, h2, ⟨Q, h3⟩, h4⟩ := h
  have h4 := h4 (by omega)
  rw [Nat.add_sub_cancel] at h4
  refine ⟨h1, by rw [← h4]; omega, ⟨2 * Q, ?_⟩, fun hi => ?_⟩
  · rw [h3, Nat.pow_succ, Nat.mul_comm 2 Q, Nat.mul_assoc Q, Nat.mul_comm 2]
  · obtain ⟨j, rfl⟩ : ∃ j, i = j + 1 := ⟨i - 1, by omega⟩
    rw [h4, Nat.add_sub_cancel, Nat.pow_succ, ← Nat.mul_assoc, Nat.mul_div_cancel _ (by decide)]
theorem DivInv.done {u v q r D : Nat} (h : DivInv u v q r D 0) : q = u / v ∧ r = u % v := by
  obtain ⟨h1, h2, _, _⟩ := h
  rw [Nat.pow_zero, Nat.mul_one] at h2
  subst h1
  rw [Nat.mul_comm q v, Nat.mul_add_div (by omega), Nat.div_eq_of_lt h2, Nat.mul_add_mod, Nat.mod_eq_of_lt h2]
  exact ⟨by omega, rfl⟩
theorem DivInv.start {u v s : Nat} (hv : v ≠ 0) (hs : blen u ≤ blen v + s) : DivInv u v 0 u (v * 2 ^ s) (s + 1) := by
  refine ⟨by omega, ?_, ⟨0, by omega⟩, fun _ => rfl⟩
  have h1 := blen_ge v hv
  have h2 : blen v ≠ 0 := fun e => hv ((blen_nil v).1 e)
  have h3 := (blen_le u (blen v + s)).1 hs
  have h4 : 2 ^ (blen v + s) = 2 ^ (blen v - 1) * 2 ^ (s + 1) := by rw [← Nat.pow_add]; congr 1; omega
  rw [h4] at h3
  exact Nat.lt_of_lt_of_le h3 (Nat.mul_le_mul_right _ h1)

set_option maxRecDepth 100000 in
set_option maxHeartbeats 4000000 in
theorem nDiv_calls (a a' : Option Addr) (len cap len' cap' : Nat) (xs ys : List Int) (w : World) (h : IsW w a len cap xs) (h' : IsW w a' len' cap' ys) (hm : len ≤ 17592186042000) (hm' : len' ≤ 17592186042000)
    (hq : blen (val xs) ≤ 65536) (hv0 : val ys ≠ 0) :
    Calls Tryz.prog 116 #[.slice a len cap, .slice a' len' cap'] w fun e w' => ∃ v v', e = .returned (.tuple #[v, v']) ∧ NatAt w.heap.size w' v (val xs / val ys) ∧ NatAt w.heap.size w' v' (val xs % val ys) ∧ Below w.heap.size w w' := by
  obtain ⟨u, hu⟩ : ∃ u, u = val xs := ⟨_, rfl⟩
  obtain ⟨v, hv⟩ : ∃ v, v = val ys := ⟨_, rfl⟩
  obtain ⟨bu, hbu⟩ : ∃ b, b = blen u := ⟨_, rfl⟩
  obtain ⟨bv, hbv⟩ : ∃ b, b = blen v := ⟨_, rfl⟩
  have HU : Hid (u = val xs ∧ v = val ys) := ⟨hu, hv⟩
  have BU : Hid (bu = blen u ∧ bv = blen v) := ⟨hbu, hbv⟩
  have L1 : Hid _ := nLen_calls a len cap xs w h (by omega)
  rw [← hu, ← hbu] at L1
  rw [← hu, ← hbu] at hq
  rw [← hv] at hv0
  rw [← hu, ← hv]
  have HV0 : Hid (v ≠ 0) := hv0
  have hbvb : bv ≤ 1125899906842624 := by have := blen_words_le ys h'.2.1; have := h'.1; rw [hbv, hv]; omega
  clear hu hv hbu hbv hv0
  go_enter Tryz.func116, Tryz.ntmps116
  go_wp2_with fail
  refine Calls.mono L1.out ?_
  rintro e w1 ⟨rfl, hb1⟩
  go_wp2_with fail
  refine Calls.mono (nLen_calls a' len' cap' ys w1 (h'.keep hb1) (by omega)) ?_
  rw [← HU.out.2, ← BU.out.2]
  rintro e w2 ⟨rfl, hb2⟩
  have hb2 := nbelow_trans hb1 hb2
  clear hb1 L1
  by_cases hlt : bu < bv
  · have HLT : Hid (u / v = 0 ∧ u % v = u) := by
      have : u < v := by
        rcases Nat.lt_or_ge u v with q | q
        · exact q
        · have := blen_mono q; have := BU.out; omega
      exact ⟨Nat.div_eq_of_lt this, Nat.mod_eq_of_lt this⟩
    go_wp2_with fail
    refine Calls.mono (nNorm_calls a len cap xs w2 (h.keep hb2) (by omega)) ?_
    rw [← HU.out.1]
    rintro e w3 ⟨ao, cv, rfl, hO, hb3⟩
    have HA : Hid _ := (natAt_own hO rfl).low hb2.size
    clear hO
    go_wp2_with fail
    go_ret2
    rw [HLT.out.1, HLT.out.2]
    exact ⟨_, _, rfl, natAt_nil _ _, HA.out, nbelow_trans hb2 hb3⟩
  · obtain ⟨s, hs⟩ : ∃ s, bu = bv + s := ⟨bu - bv, by omega⟩
    have hsub : (bu : Int) - (bv : Int) = (s : Int) := by omega
    obtain ⟨sk, hsk⟩ : ∃ sk, sk = s / 64 := ⟨_, rfl⟩
    have q1 : (s : Int) / 64 = (sk : Int) := by omega
    have hsb : s ≤ 65536 := by omega
    have HSK : Hid (sk = s / 64) := hsk
    have hskb : sk ≤ 1024 := by omega
    have HSB : Hid (bu = bv + s) := hs
    obtain ⟨w3, hmk, hO3, hb3, hz3⟩ := make_words 24 nat_T w2 (sk + 1) (by omega)
    rw [show ((sk + 1 : Nat) : Int) = (sk : Int) + 1 by omega] at hmk
    clear hsk hs
    go_wp2_with fail
    clear hmk hsub
    have hb23 := nbelow_trans hb2 (hb3.mono (Nat.le_refl _))
    refine Calls.mono (nNorm_calls a len cap xs w3 (h.keep hb23) (by omega)) ?_
    rw [← HU.out.1]
    rintro e w4 ⟨a4, c4, rfl, hO4, hb4⟩
    obtain ⟨n4, hn4⟩ : ∃ n, n = (wordsOf u).length := ⟨_, rfl⟩
    rw [← hn4]
    have HA4 : Hid (NatAt w3.heap.size w4 (.slice a4 n4 c4) u) := natAt_own hO4 hn4.symm
    clear hn4
    clear hO4
    go_wp2_with fail
    refine Calls.mono (nShl_calls a' len' cap' s ys w4 (h'.keep (nbelow_trans hb23 hb4)) (by omega) (by omega)) ?_
    rw [← HU.out.2]
    rintro e w5 ⟨a5, c5, rfl, hO5, hb5⟩
    obtain ⟨n5, hn5⟩ : ∃ n, n = (wordsOf (v * 2 ^ s)).length := ⟨_, rfl⟩
    rw [← hn5]
    have HA5 : Hid (NatAt w4.heap.size w5 (.slice a5 n5 c5) (v * 2 ^ s)) := natAt_own hO5 hn5.symm
    clear hn5
    clear hO5
    have S1 : NatAt (w2.heap.size + 1) w5 (.slice a4 n4 c4) u := (HA4.out.keep hb5).low (by omega)
    have S2 : NatAt (w2.heap.size + 1) w5 (.slice a5 n5 c5) (v * 2 ^ s) := HA5.out.low (by have := hb4.size; omega)
    have S3 : OwnW w2.heap.size w5 (some ⟨w2.heap.size, 0, none⟩) (sk + 1) (sk + 1) (zeros (sk + 1)) := hO3.keep (nbelow_trans hb4 hb5)
    have S4 : Below w2.heap.size w2 w5 := hb3.trans ((nbelow_trans hb4 hb5).mono (by omega))
    have HS : Hid _ := And.intro S1 (And.intro S2 (And.intro S3 S4))
    clear S1 S2 S3 S4 HA4 HA5 hO3 hb3 hz3 hb4 hb5 hb23
    go_wp2_with fail
    go_loopg [8, 9, 10] (s + 1) (fun g vr vd vi wr => ∃ (z : Int) (r D : Nat) (M : List Int), g ≤ s + 1 ∧ vi = .int .i64 z ∧ z = (g : Int) - 1 ∧ Hid (DivInv u v (val M) r D g) ∧ NatAt (w2.heap.size + 1) wr vr r ∧ NatAt (w2.heap.size + 1) wr vd D ∧ OwnW w2.heap.size wr (some ⟨w2.heap.size, 0, none⟩) (sk + 1) (sk + 1) M ∧ Below w2.heap.size w2 wr)
    case atStart =>
      obtain ⟨S1, S2, S3, S4⟩ := HS.out
      refine ⟨s, u, v * 2 ^ s, zeros (sk + 1), by omega, rfl, by omega, ?_, S1, S2, S3, S4⟩
      rw [Hid, val_zeros]
      exact DivInv.start HV0.out (by have := BU.out; have := HSB.out; omega)
    case round =>
      obtain ⟨z, r, D, M, hg, rfl, hz, HI, hR, hD, hO, hbr⟩ := hrel
      clear HS
      by_cases hk : gk = 0
      · subst hk
        have hzn : z < 0 := by omega
        clear hz
        have hdn := HI.out.done
        have NC : Hid _ := nNorm_calls (some ⟨w2.heap.size, 0, none⟩) (sk + 1) (sk + 1) M wr hO.1 (by omega)
        rw [hdn.1] at NC
        rw [hdn.2] at hR
        clear hdn hD hO
        obtain ⟨ar, nr, cr, rfl, hr1, hr2⟩ := hR
        have HR : Hid _ := And.intro hr1 hr2
        clear hr1 hr2
        go_wp2_with fail
        refine Calls.mono NC.out ?_
        rintro e w6 ⟨a6, c6, rfl, hO6, hb6⟩
        obtain ⟨n6, hn6⟩ : ∃ n, n = (wordsOf (u / v)).length := ⟨_, rfl⟩
        rw [← hn6]
        have HA6 : Hid (NatAt wr.heap.size w6 (.slice a6 n6 c6) (u / v)) := natAt_own hO6 hn6.symm
        clear hn6
        clear hO6
        go_wp2_with fail
        go_ret2
        have hsz := hb2.size
        have hR6 : NatAt (w2.heap.size + 1) w6 (.slice ar nr cr) (u % v) := NatAt.keep ⟨ar, nr, cr, rfl, HR.out.1, HR.out.2⟩ hb6
        exact ⟨_, _, rfl, HA6.out.low (Nat.le_trans hsz hbr.size), hR6.low (by omega), nbelow_trans hb2 (hbr.trans (hb6.mono hbr.size))⟩
      · obtain ⟨i, rfl⟩ : ∃ i, gk = i + 1 := ⟨gk - 1, by omega⟩
        have hzi : z = (i : Int) := by omega
        subst hzi
        clear hz hk
        have hgs : w2.heap.size < wr.heap.size := by
          obtain ⟨_, _, e1, h1, _⟩ := hO.1.2.2.2 0 (by omega)
          simp only [Option.some.injEq, Addr.mk.injEq, and_true] at e1
          rw [e1.1]; exact h1
        obtain ⟨ar, nr, cr, rfl, hr1, hr2⟩ := hR
        obtain ⟨ad, nd, cd, rfl, hd1, hd2⟩ := hD
        have bl1 : nr ≤ 1024 := by
          rw [hr1]; exact (words_len2 1024 r).2 (Nat.le_trans (blen_mono (b := u) (by have := HI.out.1; omega)) (by have := BU.out; omega))
        have bl2 : nd ≤ 1024 := by
          rw [hd1]
          refine (words_len2 1024 D).2 (Nat.le_trans ((blen_le D bu).2 ?_) (by omega))
          have e1 := HI.out.2.2.2 (by omega)
          rw [Nat.add_sub_cancel] at e1
          rw [e1, HSB.out, Nat.pow_add]
          exact Nat.lt_of_lt_of_le (Nat.mul_lt_mul_of_pos_right ((blen_le v bv).1 (by have := BU.out; omega)) (Nat.pow_pos (by decide))) (Nat.mul_le_mul_left _ (Nat.pow_le_pow_right (by decide) (by omega)))
        have CC : Hid _ := nCmp_calls ar ad nr cr nd cd _ _ wr hr2.1 hd2.1 (by omega) (by omega)
        rw [val_words, val_words] at CC
        have HC := cmpN_ge r D
        generalize cmpN r D = cc at HC CC
        by_cases hge : D ≤ r
        · have hc0 := HC.1 hge
          obtain ⟨Q, hQ⟩ := HI.out.2.2.1
          obtain ⟨e, he⟩ : ∃ e, e = i / 64 := ⟨_, rfl⟩
          have q2 : (i : Int) / 64 = (e : Int) := by omega
          have hle : e ≤ sk := by rw [he, HSK.out]; exact Nat.div_le_div_right (by omega)
          obtain ⟨t, ht0, ht1, ht2⟩ := bit_put M hO.1.2.1 i Q (by have := hO.1.1; omega) hQ
          rw [← he] at ht0 ht2
          obtain ⟨tt, htt⟩ : ∃ tt, tt = t + 2 ^ (i % 64) := ⟨_, rfl⟩
          have r1 : IntKind.u64.wrap ((t : Int) + IntKind.u64.wrap (2 ^ (i % 64))) = (tt : Int) := by
            rw [show ((2 : Int) ^ (i % 64)) = ((2 ^ (i % 64) : Nat) : Int) by rw [Int.natCast_pow]; rfl]
            rw [htt]
            generalize 2 ^ (i % 64) = p at *
            rw [IntKind.wrap_u64, IntKind.wrap_u64]; omega
          rw [← htt] at ht1 ht2
          have HT2 : Hid (val (M.set e (tt : Int)) = val M + 2 ^ i) := ht2
          have SC : Hid _ := nSub_calls ar ad nr cr nd cd _ _ wr hr2.1 hd2.1 (by omega) (by omega) (by rw [val_words, val_words]; exact hge)
          rw [val_words, val_words] at SC
          have HGE : Hid (D ≤ r) := hge
          have HD2 : Hid _ := hd2
          have HD1 : Hid _ := hd1
          clear hd1 hd2 hr1 hr2 HC hge hQ ht2 he htt
          go_wp2_with fail
          refine Calls.mono CC.out ?_
          rintro e2 wr ⟨rfl, rfl⟩
          go_wp2_with fail
          refine Calls.mono SC.out ?_
          rintro e3 w6 ⟨a6, c6, rfl, hO6, hb6⟩
          obtain ⟨n6, hn6⟩ : ∃ n, n = (wordsOf (r - D)).length := ⟨_, rfl⟩
          rw [← hn6]
          have HA6 : Hid (NatAt wr.heap.size w6 (.slice a6 n6 c6) (r - D)) := natAt_own hO6 hn6.symm
          clear hn6
          have hO := hO.keep hb6
          obtain ⟨_, _, e1, hgl, hcell⟩ := hO.1.2.2.2 e (by omega)
          simp only [Option.some.injEq, Addr.mk.injEq, and_true] at e1
          obtain ⟨rfl, rfl⟩ := e1
          have hfz := (hO.2 _ _ e rfl (by omega)).2
          rw [Nat.zero_add] at hcell hfz
          rw [ht0] at hcell
          clear hO6 ht0 CC SC
          go_wp2_with fail
          have HA7 : Hid (NatAt (w2.heap.size + 1) (w6.setCell ⟨w2.heap.size, e, none⟩ (.int .u64 (tt : Int))) (.slice a6 n6 c6) (r - D)) :=
            (HA6.out.low (by omega)).other _ _ (by simp)
          have hO7 := hO.set (i := e) (by omega) (v := (tt : Int)) (by omega) (by omega)
          rw [Nat.zero_add] at hO7
          have HO7 : Hid (OwnW w2.heap.size (w6.setCell ⟨w2.heap.size, e, none⟩ (.int .u64 (tt : Int))) (some ⟨w2.heap.size, 0, none⟩) (sk + 1) (sk + 1) (M.set e (tt : Int))) := hO7
          have hgs7 : w2.heap.size < (w6.setCell ⟨w2.heap.size, e, none⟩ (.int .u64 (tt : Int))).heap.size := by rw [World.size_setCell]; exact hgl
          have HB7 : Hid (Below w2.heap.size w2 (w6.setCell ⟨w2.heap.size, e, none⟩ (.int .u64 (tt : Int)))) := (hbr.trans (hb6.mono hbr.size)).setCell (Nat.le_refl _) _
          have hN : NatAt (w2.heap.size + 1) (w6.setCell ⟨w2.heap.size, e, none⟩ (.int .u64 (tt : Int))) (.slice ad nd cd) D :=
            (NatAt.keep ⟨ad, nd, cd, rfl, HD1.out, HD2.out⟩ hb6).other _ _ (by simp)
          generalize w6.setCell ⟨w2.heap.size, e, none⟩ (.int .u64 (tt : Int)) = w7 at HA7 HO7 HB7 hN hgs7 ⊢
          obtain ⟨_, _, _, e8, h8, h9⟩ := hN
          simp only [Value.slice.injEq] at e8
          obtain ⟨rfl, rfl, rfl⟩ := e8
          have RC : Hid _ := nShr_calls ad nd cd 1 _ w7 h9.1 (by omega) (by omega)
          rw [val_words, Nat.pow_one] at RC
          clear hO7 hO hcell hfz h8 h9 HD2 HA6
          refine Calls.mono RC.out ?_
          rintro e9 w8 ⟨v8, rfl, hv8, hb8⟩
          have HV8 : Hid (NatAt (w2.heap.size + 1) w8 v8 (D / 2)) := hv8.low (by omega)
          clear hv8
          go_wp2_with fail
          go_roundg i
          case measure => omega
          case rel =>
            refine ⟨(i : Int) - 1, r - D, D / 2, M.set e (tt : Int), by omega, by go_num, by omega, ?_, HA7.out.keep hb8, HV8.out, HO7.out.keep hb8, HB7.out.trans (hb8.mono HB7.out.size)⟩
            rw [Hid, HT2.out]
            exact HI.out.take HGE.out
        · have hc0 := HC.2 hge
          have HGE : Hid (¬ D ≤ r) := hge
          have HR1 : Hid (NatAt (w2.heap.size + 1) wr (.slice ar nr cr) r) := ⟨ar, nr, cr, rfl, hr1, hr2⟩
          have RC : Hid _ := nShr_calls ad nd cd 1 _ wr hd2.1 (by omega) (by omega)
          rw [val_words, Nat.pow_one] at RC
          have HO1 : Hid (OwnW w2.heap.size wr (some ⟨w2.heap.size, 0, none⟩) (sk + 1) (sk + 1) M) := hO
          clear hd1 hd2 hr1 hr2 HC hge hO
          go_wp2_with fail
          refine Calls.mono CC.out ?_
          rintro e2 wr ⟨rfl, rfl⟩
          go_wp2_with fail
          refine Calls.mono RC.out ?_
          rintro e9 w8 ⟨v8, rfl, hv8, hb8⟩
          have HV8 : Hid (NatAt (w2.heap.size + 1) w8 v8 (D / 2)) := hv8.low (by omega)
          clear hv8
          go_wp2_with fail
          go_roundg i
          case measure => omega
          case rel =>
            exact ⟨(i : Int) - 1, r, D / 2, M, by omega, by go_num, by omega, HI.out.skip HGE.out, HR1.out.keep hb8, HV8.out, HO1.out.keep hb8, hbr.trans (hb8.mono hbr.size)⟩
end Go.Proofs.YtkkldnnndlpblaaGreatDoor

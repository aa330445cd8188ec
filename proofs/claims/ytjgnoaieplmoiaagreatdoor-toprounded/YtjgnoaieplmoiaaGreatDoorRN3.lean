/- Package round: the nearest binary64 of a right number. -/
import Derived.Test.YtjgnoaieplmoiaaGreatDoorRN2
import Derived.Test.YtjgnoaieplmoiaaGreatDoorDTo4
import Derived.Test.YtjgnoaieplmoiaaGreatDoorRDG
namespace Go.Proofs.YtjgnoaieplmoiaaGreatDoor
open Go.RowKit

/-- a number of at most 53 bits at its place, as a binary64 -/
theorem to_word (M : Nat) (l : Int) (h1 : M < 9007199254740992) (h2 : -1074 ≤ l) (h3 : l ≤ 971) (h4 : l = -1074 ∨ 4503599627370496 ≤ M) : toR false M l = ((l + 1074) * 4503599627370496 + (M : Int), true) := by
  have hb : blen M ≤ 53 := (blen_le _ _).2 h1
  have hr : rightB M l = true := by
    have : greatB M = false := (great_not _).2 (by omega)
    unfold rightB inB
    rw [this, decide_eq_true (show -32768 ≤ l ∧ l ≤ 32768 by omega)]
    rfl
  by_cases h0 : M = 0
  · subst h0
    rw [toR_zero hr]
    rcases h4 with h | h
    · rw [h]; rfl
    · exact absurd h (by decide)
  · obtain ⟨o1, o2⟩ := odd_part h0
    have hm0 : M / 2 ^ tz M ≠ 0 := fun q => by rw [q] at o1; exact absurd o1 (by decide)
    have hbl : blen (M / 2 ^ tz M) + tz M = blen M := by
      have := blen_mul _ (tz M) hm0
      rw [o2] at this
      omega
    have ht : toB (formD false M l) = true := by
      rw [form_pos _ h0]
      exact decide_eq_true ⟨by show blen (M / 2 ^ tz M) ≤ 53; omega, by show -1074 ≤ l + (tz M : Int); omega, by show l + (tz M : Int) + (blen (M / 2 ^ tz M) : Int) - 1 ≤ 1023; omega⟩
    rw [toR_yes hr h0 ht, form_pos _ h0]
    show (joinV false (fldE (M / 2 ^ tz M) (l + (tz M : Int))) (fldF (M / 2 ^ tz M) (l + (tz M : Int))), true) = _
    have key : joinV false (fldE (M / 2 ^ tz M) (l + (tz M : Int))) (fldF (M / 2 ^ tz M) (l + (tz M : Int))) = (l + 1074) * 4503599627370496 + (M : Int) := by
      unfold fldE fldF
      by_cases hs : M < 4503599627370496
      · have hl : l = -1074 := by omega
        have hb2 : blen M ≤ 52 := (blen_le _ _).2 hs
        rw [if_pos (by omega), if_pos (by omega), hl, show (-1074 + (tz M : Int) + 1074).toNat = tz M by omega, o2]
        have hj : joinE 0 (M : Int) = 0 := by unfold joinE; rw [if_neg (by omega)]
        unfold joinV
        rw [if_pos hj]
        simp
      · have hb2 : blen M = 53 := by
          have : ¬ blen M ≤ 52 := fun q => hs ((blen_le _ _).1 q)
          omega
        rw [if_neg (by omega), if_neg (by omega), show 53 - blen (M / 2 ^ tz M) = tz M by omega, o2]
        have hE : l + (tz M : Int) + (blen (M / 2 ^ tz M) : Int) - 1 + 1023 = l + 1075 := by omega
        rw [hE]
        have hj : joinE (l + 1075) ((M - 4503599627370496 : Nat) : Int) = 0 := by unfold joinE; rw [if_neg (by omega)]
        unfold joinV
        rw [if_pos hj]
        simp
        omega
    rw [key]
theorem or_one (q : Nat) (h : q < 4) : bits .or .u64 (q : Int) 1 = ((q ||| 1 : Nat) : Int) := by
  have : q = 0 ∨ q = 1 ∨ q = 2 ∨ q = 3 := by omega
  rcases this with e | e | e | e <;> (subst e; decide +kernel)
/-- the two neighbours' lower one, and what the number is more -/
def apD (m : Nat) (e : Int) : Int := if m = 0 then 0 else if 1024 ≤ tpI m e then 9218868437227405311 else (lsI m e + 1074) * 4503599627370496 + (fl2 m (lsI m e - e) : Int)
def apM (m : Nat) (e : Int) : Int := if m = 0 then 0 else if 1024 ≤ tpI m e then 3 else (more2 m (lsI m e - e) : Int)

set_option maxRecDepth 100000 in
set_option maxHeartbeats 2000000 in
theorem ramount_calls (s : Bool) (a : Option Addr) (len cap : Nat) (xs : List Int) (e : Int) (w : World) (h : IsW w a len cap xs) (hm : len ≤ 17592186044000) (hT : Tab w) (hr : rightB (val xs) e = true) :
    Calls Tryz.prog 41 #[dyV s a len cap e] w fun r w' => r = .returned (.tuple #[.int .u64 (apD (val xs) e), .int .u64 (apM (val xs) e)]) ∧ Below w.heap.size w w' := by
  have bA := below_one w (.cells #[.bool s, .slice a len cap, .int .i64 e] 25)
  have HT : Hid _ := pTop_calls s a len cap xs e _ (h.keep bA) hm (hT.kept bA)
  obtain ⟨hg, he⟩ := rightB_yes hr
  have hbl := (great_not _).1 hg
  by_cases h0 : val xs = 0
  · have e1 : tpV (val xs) e = 0 := by unfold tpV ftE; rw [if_pos hr, if_pos h0]; rfl
    have e2 : ftE (val xs) e = 5 := by unfold ftE; rw [if_pos hr, if_pos h0]
    have e3 : Hid (apD (val xs) e = 0) := by rw [Hid]; unfold apD; rw [if_pos h0]
    have e4 : Hid (apM (val xs) e = 0) := by rw [Hid]; unfold apM; rw [if_pos h0]
    rw [e1, e2] at HT
    clear e1 e2 h0 hg he hbl hr
    go_enter Tryz.func41, Tryz.ntmps41
    go_wp2_with fail
    refine Calls.mono HT.out ?_
    rintro r w1 ⟨rfl, bN⟩
    go_wp2_with fail
    go_ret2
    rw [e3.out, e4.out]
    exact ⟨rfl, nbelow_trans bA bN⟩
  · have e1 : tpV (val xs) e = tpI (val xs) e := by unfold tpV ftE tpI; rw [if_pos hr, if_neg h0, if_pos rfl]
    have e2 : ftE (val xs) e = 0 := by unfold ftE; rw [if_pos hr, if_neg h0]
    have htb : Hid (-32768 ≤ tpI (val xs) e ∧ tpI (val xs) e ≤ 98304) := by
      have : blen (val xs) ≠ 0 := fun q => h0 ((blen_nil _).1 q)
      rw [Hid]; unfold tpI; omega
    rw [e1, e2] at HT
    by_cases h1 : 1024 ≤ tpI (val xs) e
    · have e3 : Hid (apD (val xs) e = 9218868437227405311) := by rw [Hid]; unfold apD; rw [if_neg h0, if_pos h1]
      have e4 : Hid (apM (val xs) e = 3) := by rw [Hid]; unfold apM; rw [if_neg h0, if_pos h1]
      clear e1 e2 h0 hg he hbl hr
      generalize tpI (val xs) e = tp at *
      go_enter Tryz.func41, Tryz.ntmps41
      go_wp2_with fail
      refine Calls.mono HT.out ?_
      rintro r w1 ⟨rfl, bN⟩
      go_wp2_with fail
      go_ret2
      rw [e3.out, e4.out]
      exact ⟨rfl, nbelow_trans bA bN⟩
    · have e3 : Hid (apD (val xs) e = (lsI (val xs) e + 1074) * 4503599627370496 + (fl2 (val xs) (lsI (val xs) e - e) : Int)) := by rw [Hid]; unfold apD; rw [if_neg h0, if_neg h1]
      have e4 : Hid (apM (val xs) e = (more2 (val xs) (lsI (val xs) e - e) : Int)) := by rw [Hid]; unfold apM; rw [if_neg h0, if_neg h1]
      have l1 := ls_low (val xs) e
      have l2 := ls_top (val xs) e (by omega)
      have l3 := ls_bits (val xs) e
      have HQ : Hid _ := fun w' (h' : IsW w' a len cap xs) => quarters_calls s a len cap xs e (lsI (val xs) e) w' h' (by omega) hg he ⟨l1, l2⟩ l3
      have hc := cnt_lt (val xs) e
      have hM := M_lt (val xs) e
      have hw : toR false (fl2 (val xs) (lsI (val xs) e - e)) (lsI (val xs) e) = _ := to_word (fl2 (val xs) (lsI (val xs) e - e)) (lsI (val xs) e) hM l1 l2 (by
        by_cases q : lsI (val xs) e = -1074
        · exact .inl q
        · exact .inr (M_ge _ _ h0 (by omega)))
      have h4 := fl_four (val xs) (lsI (val xs) e - e)
      have W1 : IntKind.i64.wrap (tpI (val xs) e - 52) = tpI (val xs) e - 52 := by have := htb.out; rw [IntKind.wrap_i64]; omega
      have hls : lsI (val xs) e = max (tpI (val xs) e - 52) (-1074) := by unfold lsI; split <;> omega
      have hmo : Hid (more2 (val xs) (lsI (val xs) e - e) = if ls2 (val xs) (lsI (val xs) e - e - 2) = true then (fl2 (val xs) (lsI (val xs) e - e - 2) % 4) ||| 1 else fl2 (val xs) (lsI (val xs) e - e - 2) % 4) := rfl
      clear e1 e2 h0 hg he hbl hr
      generalize fl2 (val xs) (lsI (val xs) e - e - 2) = q at *
      generalize fl2 (val xs) (lsI (val xs) e - e) = M at *
      generalize ls2 (val xs) (lsI (val xs) e - e - 2) = lo at *
      generalize more2 (val xs) (lsI (val xs) e - e) = mo at *
      generalize lsI (val xs) e = l at *
      generalize tpI (val xs) e = tp at *
      have A3 : bits .and .u64 (q : Int) 3 = (q : Int) % 4 := and_three _ ⟨by omega, by omega⟩
      have hls' : max (tp - 52) (-1074) = l := hls.symm
      have D4 : (q : Int) / 4 = (M : Int) := by omega
      have c1 : (w.alloc (.cells #[.bool s, .slice a len cap, .int .i64 e] 25)).cell? ⟨w.heap.size, 0, none⟩ = some (.bool s) := by go_simp
      have c2 : (w.alloc (.cells #[.bool s, .slice a len cap, .int .i64 e] 25)).cell? ⟨w.heap.size, 1, none⟩ = some (.slice a len cap) := by go_simp
      have c3 : (w.alloc (.cells #[.bool s, .slice a len cap, .int .i64 e] 25)).cell? ⟨w.heap.size, 2, none⟩ = some (.int .i64 e) := by go_simp
      have hI := h.keep bA
      have hT0 := hT.kept bA
      clear hls hT h
      go_enter Tryz.func41, Tryz.ntmps41
      go_wp2_with fail
      generalize (w.alloc (.cells #[.bool s, .slice a len cap, .int .i64 e] 25)) = w0 at *
      refine Calls.mono HT.out ?_
      rintro r w1 ⟨rfl, bN⟩
      replace c1 := dcarry_cell bN c1
      replace c2 := dcarry_cell bN c2
      replace c3 := dcarry_cell bN c3
      replace hI := hI.keep bN
      replace hT0 := hT0.kept bN
      replace bA := nbelow_trans bA bN
      clear bN HT
      go_wp2_with fail
      refine Calls.mono (HQ.out _ hI) ?_
      rintro r w2 ⟨rfl, bN⟩
      replace hT0 := hT0.kept bN
      replace bA := nbelow_trans bA bN
      clear bN HQ c1 c2 c3 hI
      cases lo with
      | true =>
        have hmo' : mo = q % 4 ||| 1 := by rw [hmo.out]; rfl
        have HM : Hid (mo = q % 4 ||| 1) := hmo'
        have O1 : bits .or .u64 ((q : Int) % 4) 1 = (mo : Int) := by rw [hmo', ← or_one _ (by omega)]; congr 1
        clear hmo'
        go_wp2_with fail
        refine Calls.mono (of_eq M _ (by omega)) ?_
        rintro r w3 ⟨ao, n, c, rfl, hN, hn, hO, bN⟩
        replace hT0 := hT0.kept bN
        replace bA := nbelow_trans bA bN
        have HTo : Hid _ := to_calls false ao n c (wordsOf M) l w3 hO.1 (by omega) hT0
        rw [val_words, hw] at HTo
        have HN : Hid _ := hN
        clear bN hO hN hn hw
        go_wp2_with fail
        refine Calls.mono HTo.out ?_
        rintro r w4 ⟨rfl, bN⟩
        go_wp2_with fail
        go_ret2
        rw [e3.out, e4.out]
        exact ⟨rfl, nbelow_trans bA bN⟩
      | false =>
        have HM : Hid (mo = q % 4) := by rw [Hid, hmo.out]; rfl
        go_wp2_with fail
        refine Calls.mono (of_eq M _ (by omega)) ?_
        rintro r w3 ⟨ao, n, c, rfl, hN, hn, hO, bN⟩
        replace hT0 := hT0.kept bN
        replace bA := nbelow_trans bA bN
        have HTo : Hid _ := to_calls false ao n c (wordsOf M) l w3 hO.1 (by omega) hT0
        rw [val_words, hw] at HTo
        have HN : Hid _ := hN
        clear bN hO hN hn hw
        go_wp2_with fail
        refine Calls.mono HTo.out ?_
        rintro r w4 ⟨rfl, bN⟩
        go_wp2_with fail
        go_ret2
        rw [e3.out, e4.out]
        rw [HM.out]
        exact ⟨rfl, nbelow_trans bA bN⟩

/-- the program's nearest comes to the document's -/
theorem near_ch (m : Nat) (e : Int) : chV (apD m e) (upV (apD m e)) (apM m e) = nearW m e ∧ (apM m e = 0 ↔ exactB m e = true) ∧ U (apD m e) ∧ U (nearW m e) := by
  have hb := nearW_bd m e
  refine ⟨?_, ?_, ?_, ⟨hb.1, by omega⟩⟩
  · unfold apD apM nearW
    by_cases h0 : m = 0
    · rw [if_pos h0, if_pos h0, if_pos h0]; decide
    · rw [if_neg h0, if_neg h0, if_neg h0]
      by_cases h1 : 1024 ≤ tpI m e
      · rw [if_pos h1, if_pos h1, if_pos h1]; decide
      · rw [if_neg h1, if_neg h1, if_neg h1]
        obtain ⟨c1, c2, c3⟩ := choose_rd m (lsI m e - e)
        have a1 := ls_low m e
        have a2 := ls_top m e (by omega)
        have a3 := M_lt m e
        generalize rd2 m (lsI m e - e) = rd at *
        generalize more2 m (lsI m e - e) = mo at *
        generalize fl2 m (lsI m e - e) = M at *
        generalize lsI m e = l at *
        have hup : upV ((l + 1074) * 4503599627370496 + (M : Int)) = (l + 1074) * 4503599627370496 + (M : Int) + 1 := by
          unfold upV
          rw [if_neg (by omega)]
          by_cases z : ((l + 1074) * 4503599627370496 + (M : Int)) % 9223372036854775808 = 0
          · rw [if_pos z]; omega
          · rw [if_neg z, if_neg (by omega)]
        rw [hup]
        unfold chV
        by_cases k1 : (mo : Int) < 2
        · rw [if_pos k1, c1 (by omega)]
        · rw [if_neg k1]
          by_cases k2 : (2 : Int) < mo
          · rw [if_pos k2, c2 (by omega)]; omega
          · rw [if_neg k2, c3 (by omega)]
            by_cases k3 : ((l + 1074) * 4503599627370496 + (M : Int)) % 2 = 0
            · rw [if_pos k3]; omega
            · rw [if_neg k3]; omega
  · unfold apM exactB
    by_cases h0 : m = 0
    · rw [if_pos h0, if_pos h0]; decide
    · rw [if_neg h0, if_neg h0]
      by_cases h1 : 1024 ≤ tpI m e
      · rw [if_pos h1, if_pos h1]; decide
      · rw [if_neg h1, if_neg h1]
        have := more_zero m (lsI m e - e)
        cases hl : ls2 m (lsI m e - e) with
        | true => rw [hl] at this; simp; intro q; exact absurd (this.1 q) (by decide)
        | false => rw [hl] at this; simp; exact this.2 rfl
  · unfold apD U
    by_cases h0 : m = 0
    · rw [if_pos h0]; omega
    · rw [if_neg h0]
      by_cases h1 : 1024 ≤ tpI m e
      · rw [if_pos h1]; omega
      · rw [if_neg h1]
        have a1 := ls_low m e
        have a2 := ls_top m e (by omega)
        have a3 := M_lt m e
        omega
theorem up_U (x : Int) (h : U x) : U (upV x) := by
  obtain ⟨h0, h1⟩ := h
  unfold upV U
  repeat' split
  all_goals omega
theorem neg_U (x : Int) : U (negV x) := by unfold negV U; omega

set_option maxRecDepth 100000 in
set_option maxHeartbeats 2000000 in
theorem nearest_calls (s : Bool) (a : Option Addr) (len cap : Nat) (xs : List Int) (e : Int) (w : World) (h : IsW w a len cap xs) (hm : len ≤ 17592186044000) (hT : Tab w) (hr : rightB (val xs) e = true) :
    Calls Tryz.prog 20 #[dyV s a len cap e] w fun r w' => r = .returned (.tuple #[.int .u64 (nearB s (val xs) e), .bool (exactB (val xs) e)]) ∧ Below w.heap.size w w' := by
  have bA := below_one w (.cells #[.bool s, .slice a len cap, .int .i64 e] 25)
  have hI := h.keep bA
  have hT0 := hT.kept bA
  have HA : Hid _ := ramount_calls s a len cap xs e _ hI hm hT0 hr
  obtain ⟨n1, n2, n3, n4⟩ := near_ch (val xs) e
  have HU : Hid _ := fun w => up_calls (apD (val xs) e) w n3
  have HCh : Hid _ := fun w => chooser_calls (apD (val xs) e) (upV (apD (val xs) e)) w n3
  have HZ : Hid _ := fun w' (h' : IsW w' a len cap xs) t' => dzero_calls s a len cap xs e w' h' (by omega) t'
  rw [hr] at HZ
  have HN : Hid _ := fun w => neg_calls (nearW (val xs) e) w n4
  have N1 : Hid _ := n1
  have N2 : Hid ((apM (val xs) e == 0) = exactB (val xs) e) := by
    cases hx : exactB (val xs) e with
    | true => exact beq_iff_eq.2 (n2.2 hx)
    | false => exact beq_eq_false_iff_ne.2 (fun q => by have := n2.1 q; rw [hx] at this; cases this)
  have hB : Hid (∀ t, decide (val xs = 0) = t → nearB s (val xs) e = if (s && !t) = true then negV (nearW (val xs) e) else nearW (val xs) e) := fun t ht => by
    unfold nearB
    rw [← ht]
    by_cases z : val xs = 0 <;> simp [z]
  generalize decide (val xs = 0) = tz0 at *
  have hB' : Hid _ := hB.out tz0 rfl
  clear hB n1 n2 n3 n4 hr h hT
  generalize apD (val xs) e = dn at *
  generalize upV dn = up at *
  generalize apM (val xs) e = mo at *
  generalize nearW (val xs) e = nw at *
  generalize exactB (val xs) e = ex at *
  generalize nearB s (val xs) e = nb at *
  have c1 : (w.alloc (.cells #[.bool s, .slice a len cap, .int .i64 e] 25)).cell? ⟨w.heap.size, 0, none⟩ = some (.bool s) := by go_simp
  have c2 : (w.alloc (.cells #[.bool s, .slice a len cap, .int .i64 e] 25)).cell? ⟨w.heap.size, 1, none⟩ = some (.slice a len cap) := by go_simp
  have c3 : (w.alloc (.cells #[.bool s, .slice a len cap, .int .i64 e] 25)).cell? ⟨w.heap.size, 2, none⟩ = some (.int .i64 e) := by go_simp
  go_enter Tryz.func20, Tryz.ntmps20
  go_wp2_with fail
  generalize (w.alloc (.cells #[.bool s, .slice a len cap, .int .i64 e] 25)) = w0 at *
  refine Calls.mono HA.out ?_
  rintro r w1 ⟨rfl, bN⟩
  replace c1 := dcarry_cell bN c1
  replace c2 := dcarry_cell bN c2
  replace c3 := dcarry_cell bN c3
  replace hI := hI.keep bN
  replace hT0 := hT0.kept bN
  replace bA := nbelow_trans bA bN
  clear bN HA
  go_wp2_with fail
  refine Calls.mono (HU.out _) ?_
  rintro r w1 ⟨rfl, rfl⟩
  go_wp2_with fail
  refine Calls.mono (HCh.out _) ?_
  rintro r w2 ⟨b1, b2, b3, rfl, d1, d2, d3, bN⟩
  replace c1 := dcarry_cell bN c1
  replace c2 := dcarry_cell bN c2
  replace c3 := dcarry_cell bN c3
  replace hI := hI.keep bN
  replace hT0 := hT0.kept bN
  replace bA := nbelow_trans bA bN
  clear bN HCh HU
  have HCl : Hid _ := closure_calls b1 b2 b3 dn up (if dn % 2 = 0 then dn else up) mo w2 d1 d2 d3
  change Hid (Calls _ _ _ _ fun r w' => r = .returned (.int .u64 (chV dn up mo)) ∧ w' = w2) at HCl
  rw [N1.out] at HCl
  clear d1 d2 d3
  go_wp2_with fail
  refine Calls.mono HCl.out ?_
  rintro r w2 ⟨rfl, rfl⟩
  cases s with
  | false =>
    have e1 : Hid (nb = nw) := by rw [Hid, hB'.out]; simp
    go_wp2_with fail
    go_ret2
    rw [e1.out, ← N2.out]
    exact ⟨rfl, bA⟩
  | true =>
    go_wp2_with fail
    refine Calls.mono (HZ.out _ hI hT0) ?_
    rintro r w3 ⟨rfl, bN⟩
    replace bA := nbelow_trans bA bN
    cases tz0 with
    | true =>
      have e1 : Hid (nb = nw) := by rw [Hid, hB'.out]; simp
      go_wp2_with fail
      go_ret2
      rw [e1.out, ← N2.out]
      exact ⟨rfl, bA⟩
    | false =>
      have e1 : Hid (nb = negV nw) := by rw [Hid, hB'.out]; simp
      go_wp2_with fail
      refine Calls.mono (HN.out _) ?_
      rintro r w3 ⟨rfl, rfl⟩
      go_wp2_with fail
      go_ret2
      rw [e1.out, ← N2.out]
      exact ⟨rfl, bA⟩
end Go.Proofs.YtjgnoaieplmoiaaGreatDoor

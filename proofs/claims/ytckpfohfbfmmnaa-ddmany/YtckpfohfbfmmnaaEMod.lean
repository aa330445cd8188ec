/- Which floats are moderate: what the document's test tells of a float. -/
import Derived.Test.YtckpfohfbfmmnaaEList
namespace Go.Proofs.Ytckpfohfbfmmnaa
open Go.RowKit EP

theorem read_wild (x : Nat) (h : finB x = false) : Ieee.double.read x = .infinity (negB x) ∨ ∃ f, Ieee.double.read x = .nan (negB x) f := by
  have h' : ¬ x % 9223372036854775808 < 9218868437227405312 := of_decide_eq_false h
  have hs : Ieee.double.signWeight = 9223372036854775808 := by decide
  have hbi : Ieee.double.binade = 4503599627370496 := by decide
  have hir : Ieee.double.infRung = 9218868437227405312 := by decide
  unfold Ieee.Format.read
  dsimp only
  rw [hs, hbi, hir]
  generalize x % 9223372036854775808 = r at h'
  rw [if_neg (by omega), if_neg h']
  by_cases h1 : r = 9218868437227405312
  · rw [if_pos h1]; exact .inl rfl
  · rw [if_neg h1]; exact .inr ⟨_, rfl⟩

theorem order_wild (x c : Nat) (h : finB x = false) (hc : finB c = true) : Ieee.double.order x c = none ∨ Ieee.double.order x c = some (if negB x then .lt else .gt) := by
  obtain ⟨m, p, e, -⟩ := read_fin c hc
  unfold Ieee.Format.order
  rw [e]
  rcases read_wild x h with h1 | ⟨f, h1⟩
  · rw [h1]; exact .inr rfl
  · rw [h1]; exact .inl rfl

theorem order_lt_V (x c : Nat) (hx : finB x = true) (hc : finB c = true) (h : Ieee.double.order x c = some .lt) : V x < V c := by
  rw [order_fin x c hx hc] at h
  have h' := Option.some.inj h
  have : compareOfLessAndEq (V x) (V c) = .lt := h'
  unfold compareOfLessAndEq at this
  split at this
  · assumption
  · split at this <;> cases this
theorem order_eq_V (x c : Nat) (hx : finB x = true) (hc : finB c = true) (h : Ieee.double.order x c = some .eq) : V x = V c := by
  rw [order_fin x c hx hc] at h
  have h' := Option.some.inj h
  have : compareOfLessAndEq (V x) (V c) = .eq := h'
  unfold compareOfLessAndEq at this
  split at this
  · cases this
  · split at this
    · assumption
    · cases this
theorem order_gt_V (x c : Nat) (hx : finB x = true) (hc : finB c = true) (h : Ieee.double.order x c = some .gt) : V c < V x := by
  rw [order_fin x c hx hc] at h
  have h' := Option.some.inj h
  have : compareOfLessAndEq (V x) (V c) = .gt := h'
  unfold compareOfLessAndEq at this
  split at this
  · cases this
  · split at this
    · cases this
    · omega
theorem eq_fin (x c : Nat) (hc : finB c = true) (h : Ieee.double.order x c = some .eq) : finB x = true := by
  cases hx : finB x with
  | true => rfl
  | false =>
    rcases order_wild x c hx hc with h1 | h1
    · rw [h1] at h; cases h
    · rw [h1] at h; have := Option.some.inj h; split at this <;> cases this
theorem zero_V (x : Nat) (h : isZ x = true) : finB x = true ∧ V x = 0 := by
  have h' : Ieee.double.order x 0 = some .eq := eq_of_beq h
  have hx := eq_fin x 0 (by decide) h'
  exact ⟨hx, by rw [order_eq_V x 0 hx (by decide) h']; decide⟩

/-- At least 2^-400, at most 2^400. -/
def inB (x : Nat) : Bool := (Ieee.double.order x 2805742567851819008 == some .gt || Ieee.double.order x 2805742567851819008 == some .eq) && (Ieee.double.order x 6408622269748215808 == some .lt || Ieee.double.order x 6408622269748215808 == some .eq)
theorem most_bd : bd 6408622269748215808 1474 := ⟨by decide, by decide +kernel⟩
theorem least_V : 0 < V 2805742567851819008 := by decide +kernel
theorem in_bd (x : Nat) (h : inB x = true) : bd x 1474 := by
  unfold inB at h
  simp only [Bool.and_eq_true, Bool.or_eq_true, beq_iff_eq] at h
  obtain ⟨h1, h2⟩ := h
  have hc1 : finB 2805742567851819008 = true := by decide
  have hc2 : finB 6408622269748215808 = true := by decide
  have hx : finB x = true := by
    cases hx : finB x with
    | true => rfl
    | false =>
      rcases order_wild x _ hx hc1 with k1 | k1
      · rw [k1] at h1; rcases h1 with h1 | h1 <;> cases h1
      · rcases order_wild x _ hx hc2 with k2 | k2
        · rw [k2] at h2; rcases h2 with h2 | h2 <;> cases h2
        · rw [k1] at h1
          rw [k2] at h2
          cases hn : negB x
          · rw [hn] at h2; rcases h2 with h2 | h2 <;> cases h2
          · rw [hn] at h1; rcases h1 with h1 | h1 <;> cases h1
  have a1 : V 2805742567851819008 ≤ V x := by
    rcases h1 with h1 | h1
    · exact Int.le_of_lt (order_gt_V x _ hx hc1 h1)
    · rw [order_eq_V x _ hx hc1 h1]; exact Int.le_refl _
  have a2 : V x ≤ V 6408622269748215808 := by
    rcases h2 with h2 | h2
    · exact Int.le_of_lt (order_lt_V x _ hx hc2 h2)
    · rw [order_eq_V x _ hx hc2 h2]; exact Int.le_refl _
  have a3 := least_V
  have a4 := most_bd.2
  refine ⟨hx, Nat.le_trans ?_ a4⟩
  generalize V x = v at *
  generalize V 2805742567851819008 = c at *
  generalize V 6408622269748215808 = d at *
  omega

theorem near_big (neg : Bool) (mag L k : Nat) (hm : mag.log2 = L) (hL : 2097 ≤ L) (h0 : mag ≠ 0) (hk : k = L - 52) : ∃ r, Ieee.double.nearest neg mag (-1074) = Ieee.double.word neg r ∧ 9209861237972664320 ≤ r ∧ r ≤ 9218868437227405312 := by
  unfold Ieee.Format.nearest
  rw [if_neg h0]
  dsimp only
  rw [hm]
  have hlp : Ieee.double.leastPlace = -1074 := by decide
  have hfb : (Ieee.double.fractionBits : Int) = 52 := by decide
  have hbi : Ieee.double.binade = 4503599627370496 := by decide
  have hir : Ieee.double.infRung = 9218868437227405312 := by decide
  rw [hlp, hfb, hbi, hir]
  have e1 : (max (-1074 + (L : Int) - 52) (-1074) - -1074).toNat = k := by omega
  rw [e1]
  generalize Ieee.Toward.even.cut _ _ _ = c
  refine ⟨_, rfl, ?_, Nat.min_le_right _ _⟩
  have : 2045 ≤ k := by omega
  omega

theorem pow_lt2 (a b : Nat) (h : a < b) : 2 ^ a < 2 ^ b := Nat.pow_lt_pow_right (by decide) h
theorem pow_le2 (a b : Nat) (h : a ≤ b) : 2 ^ a ≤ 2 ^ b := Nat.pow_le_pow_right (by decide) h
theorem R_big (r : Nat) (h1 : 9209861237972664320 ≤ r) (h2 : r < 9218868437227405312) : 2 ^ 1474 < R r := by
  unfold R
  rw [if_neg (by omega)]
  have : 2044 ≤ r / 4503599627370496 - 1 := by omega
  have h3 := pow_lt2 1474 2044 (by decide)
  have h4 := pow_le2 2044 _ this
  refine Nat.lt_of_lt_of_le (Nat.lt_of_lt_of_le h3 h4) ?_
  exact Nat.le_mul_of_pos_left _ (by omega)

theorem big_out (neg : Bool) (mag : Nat) (h : 2 ^ 2097 ≤ mag) : ¬ bd (Ieee.double.nearest neg mag (-1074)) 1474 := by
  intro hb
  have h0 : mag ≠ 0 := fun e => by rw [e] at h; exact absurd h (Nat.not_le.2 (Nat.two_pow_pos 2097))
  have hL : 2097 ≤ mag.log2 := (Nat.le_log2 h0).2 h
  obtain ⟨r, e, h1, h2⟩ := near_big neg mag mag.log2 (mag.log2 - 52) rfl hL h0 rfl
  rw [e] at hb
  obtain ⟨g1, g2, -⟩ := word_read neg r (by omega)
  have hf : r < 9218868437227405312 := by have := of_decide_eq_true hb.1; rwa [g1] at this
  obtain ⟨-, f2, -⟩ := word_V neg r hf
  have hR := R_big r h1 hf
  have := hb.2
  rw [f2] at this
  have hn : (if neg then - (R r : Int) else (R r : Int)).natAbs = R r := by split <;> simp only [Int.natAbs_neg, Int.natAbs_natCast]
  rw [hn] at this
  exact absurd this (Nat.not_le.2 hR)

theorem sum_near (s t : Bool) (m n : Nat) (i j : Int) : ∃ neg, ((Ieee.Datum.number s m i).sum (.number t n j)).map Ieee.double.write = some (Ieee.double.nearest neg (Ieee.signed s m (i - min i j).toNat + Ieee.signed t n (j - min i j).toNat).natAbs (min i j)) := ⟨_, rfl⟩

theorem sub_zero_big (x : Nat) (hx : finB x = true) (h : 2 ^ 2097 ≤ (V x).natAbs) : ∃ neg, Ieee.double.sub 0 x = some (Ieee.double.nearest neg (V x).natAbs (-1074)) := by
  obtain ⟨m, p, e1, e2, -⟩ := read_fin x hx
  have e0 : Ieee.double.read 0 = .number false 0 (-1074) := by decide
  have hV := V_mk x m p e2
  have hA : (V x).natAbs = m * 2 ^ p := by rw [hV]; split <;> simp only [Int.natAbs_neg, Int.natAbs_natCast]
  unfold Ieee.Format.sub
  rw [e1, e0]
  obtain ⟨neg, e⟩ := sum_near false (!negB x) 0 m (-1074) (-1074 + (p : Int))
  refine ⟨neg, e.trans ?_⟩
  have hb : min (-1074 : Int) (-1074 + (p : Int)) = -1074 := by omega
  have hu : (-1074 + (p : Int) - -1074).toNat = p := by omega
  have hz : (-1074 - -1074 : Int).toNat = 0 := by decide
  have ht : (Ieee.signed false 0 0 + Ieee.signed (!negB x) m p).natAbs = m * 2 ^ p := by
    unfold Ieee.signed
    rw [Nat.shiftLeft_eq, Nat.shiftLeft_eq]
    cases negB x
    · simp only [Bool.not_false, if_true, Bool.false_eq_true, if_false, Nat.zero_mul]; omega
    · simp only [Bool.not_true, Bool.false_eq_true, if_false, Nat.zero_mul]; omega
  rw [hb, hu, hz, hA, ht]

theorem neg_lin (v u : Int) (n m : Nat) (hm : m = n + 1) (h2 : u.natAbs ≤ 2 ^ n) (r3 : 9007199254740992 * (u - (0 - v)).natAbs ≤ (0 - v).natAbs) : v.natAbs ≤ 2 ^ m := by
  rw [hm, Nat.pow_succ]
  omega

theorem neg_in (x : Nat) (w : World) (hl : Ieee.double.order x 0 = some .lt) (h : inB (fv .sub 0 x w) = true) : bd x 1475 := by
  have hb := in_bd _ h
  cases hx : finB x with
  | false =>
    exfalso
    rcases order_wild x 0 hx (by decide) with k1 | k1
    · rw [k1] at hl; cases hl
    · rw [k1] at hl
      rcases read_wild x hx with r1 | ⟨f, r1⟩
      · have e0 : Ieee.double.read 0 = .number false 0 (-1074) := by decide
        have hs : Ieee.double.sub 0 x = some (Ieee.double.write (.infinity (!negB x))) := by
          unfold Ieee.Format.sub
          rw [r1, e0]; rfl
        have hn : negB x = true := by
          cases hn : negB x with
          | true => rfl
          | false => rw [hn] at hl; have := Option.some.inj hl; cases this
        have hv : fv .sub 0 x w = Ieee.double.write (.infinity false) := by
          unfold fv
          have : floatBits .sub .f64 0 x = some (Ieee.double.write (.infinity (!negB x))) := hs
          rw [this, hn]; rfl
        rw [hv] at hb
        have := hb.1
        revert this; decide
      · have : Ieee.double.order x 0 = none := by
          unfold Ieee.Format.order
          rw [r1]; rfl
        rw [this] at k1; cases k1
  | true =>
    have hV : V 0 = 0 := by decide
    -- the difference is near; its amount is at most 2^1474
    by_cases hsz : (V 0 - V x).natAbs < 2 ^ 2097
    · obtain ⟨r, e, r1, r2, r3⟩ := sub_spec 0 x 2097 rfl (by decide) hx hsz
      have hf : fo .sub 0 x = some r := by
        show (Ieee.double.sub 0 x).bind _ = _
        rw [e]; show (if finB r then some r else none) = _; rw [if_pos r1]
      rw [fv_eq hf] at hb
      refine ⟨hx, ?_⟩
      have h2 := hb.2
      rw [hV] at r3
      exact neg_lin _ _ 1474 1475 rfl h2 r3
    · exfalso
      rw [hV, Int.zero_sub, Int.natAbs_neg] at hsz
      obtain ⟨neg, e⟩ := sub_zero_big x hx (Nat.le_of_not_lt hsz)
      have hv : fv .sub 0 x w = Ieee.double.nearest neg (V x).natAbs (-1074) := by
        unfold fv
        have : floatBits .sub .f64 0 x = some (Ieee.double.nearest neg (V x).natAbs (-1074)) := e
        rw [this]
      rw [hv] at hb
      exact big_out neg _ (Nat.le_of_not_lt hsz) hb

set_option maxHeartbeats 1000000 in
theorem moderate_calls (a : Nat) (w : World) :
    Calls Try.prog 14 #[.float .f64 a] w fun e w' => ∃ b, e = .returned (.bool b) ∧ Dr w w' ∧ (b = true → bd a 1475) := by
  have r2 := run_sub Try.prog
  cases hz : isZ a with
  | true =>
    have hz' : (FloatKind.f64.format.order a 0 == some .eq) = true := hz
    have HB : Hid (bd a 1475) := by
      obtain ⟨h1, h2⟩ := zero_V a hz
      exact ⟨h1, by rw [h2]; exact Nat.zero_le _⟩
    clear hz
    go_enter Try.func14, Try.ntmps14
    go_wp2_with fail
    go_ret
    exact ⟨_, rfl, Dr.refl _, fun _ => HB.out⟩
  | false =>
    have hz' : (FloatKind.f64.format.order a 0 == some .eq) = false := hz
    clear hz
    by_cases hl : Ieee.double.order a 0 = some .lt
    · have hl' : (FloatKind.f64.format.order a 0 == some .lt) = true := by rw [show FloatKind.f64.format.order a 0 = some .lt from hl]; rfl
      have HL : Hid (Ieee.double.order a 0 = some .lt) := hl
      clear hl
      go_enter Try.func14, Try.ntmps14
      go_wp2_with fail
      all_goals go_ret
      · exact ⟨inB (fv .sub 0 a w), rfl, fw_dr _ _ _ _, fun h => neg_in a w HL.out h⟩
      · skip
        exact ⟨_, rfl, fw_dr _ _ _ _, fun h => by simp at h⟩
    · have hl' : (FloatKind.f64.format.order a 0 == some .lt) = false := beq_eq_false_iff_ne.2 hl
      clear hl
      go_enter Try.func14, Try.ntmps14
      go_wp2_with fail
      all_goals go_ret
      · exact ⟨inB a, rfl, Dr.refl _, fun h => (in_bd a h).mono (by decide)⟩
      · skip
        exact ⟨_, rfl, Dr.refl _, fun h => by simp at h⟩

set_option maxRecDepth 100000 in
set_option maxHeartbeats 2000000 in
theorem moderates_calls (a : Option Addr) (len cap most : Nat) (xs : List Nat) (w : World) (h : IsF w a len cap xs) (hm : len ≤ 17592186043000) :
    Calls Try.prog 23 #[.slice a len cap, .int .i64 (most : Int)] w fun e w' => ∃ b, e = .returned (.bool b) ∧ Dr w w' ∧ (b = true → len ≤ most ∧ ∀ i, i < len → bd (xs.getD i 0) 1475) := by
  have HL : Hid (len = xs.length) := h.1
  have hcap := h.2.1.1
  go_enter Try.func23, Try.ntmps23
  go_wp2_with fail
  go_loopw [9] (fun i wr => ∃ k : Nat, k ≤ len ∧ i = .int .i64 k ∧ Dr w wr ∧ ∀ j, j < k → bd (xs.getD j 0) 1475) (fun i _ => len - (intOf i).toNat)
  case atStart => exact ⟨0, by omega, rfl, Dr.refl _, fun j hj => by omega⟩
  case round =>
    obtain ⟨k, hk, rfl, hd, hrel⟩ := hrel
    have HR : Hid (∀ j, j < k → bd (xs.getD j 0) 1475) := hrel
    clear hrel
    by_cases hlt : k < len
    · obtain ⟨bb, off, rfl, hbl, hc⟩ := (h.keep (hd.below _)).2.2 k hlt
      obtain ⟨x, hx⟩ : ∃ x, x = xs.getD k 0 := ⟨_, rfl⟩
      rw [← hx] at hc
      have HX : Hid (x = xs.getD k 0) := hx
      clear hx
      go_wp2_with fail
      refine Calls.mono (moderate_calls x wr) ?_
      rintro e w2 ⟨t, rfl, d2, H2⟩
      have H2' : Hid (t = true → bd x 1475) := H2
      clear H2
      cases t with
      | false =>
        go_wp2_with fail
        go_ret
        exact ⟨_, rfl, hd.trans d2, fun e => by cases e⟩
      | true =>
        go_wp2_with fail
        go_round
        case rel =>
          refine ⟨k + 1, by omega, by go_num, hd.trans d2, fun j hj => ?_⟩
          by_cases e : j = k
          · subst e; rw [← HX.out]; exact H2'.out trivial
          · exact HR.out j (by omega)
        case measure => simp [intOf]; omega
    · have hkl : k = len := by omega
      subst hkl
      go_wp2_with fail
      go_ret
      exact ⟨_, rfl, hd, fun e => ⟨by simpa using e, HR.out⟩⟩
end Go.Proofs.Ytckpfohfbfmmnaa

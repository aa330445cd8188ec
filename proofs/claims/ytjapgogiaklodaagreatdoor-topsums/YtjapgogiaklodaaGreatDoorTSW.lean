/- The statement through the layers: the sum of floats as a pair lies near their exact sum. -/
import Derived.Test.YtjapgogiaklodaaGreatDoorTS0
namespace Go.Proofs.YtjapgogiaklodaaGreatDoor
open Go.RowKit

attribute [local go_sem ↓] Go.wp_at_zero Go.wp_at_succ
attribute [local go_sem] Fp.ran_store

/-- What stands between the rounds of the first loop. -/
def InvE (wG wr : World) (R : List Nat) (B7 k : Nat) (aR : Option Addr) (cR : Nat) (a7 : Option Addr) (n7 c7 : Nat) : Prop :=
  AtDy wr B7 (dyU (Fp.sv (R.take k))) a7 n7 c7 ∧ OwnW (B7 + 1) wr a7 n7 c7 (wordsOf (dyU (Fp.sv (R.take k))).2.1) ∧ Fp.IsF wr aR R.length cR R ∧ B7 + 1 ≤ wr.heap.size ∧ Below wG.heap.size wG wr
/-- What stands between the rounds of the second loop. -/
def InvT (wE wr : World) (xs : List Nat) (BA k : Nat) (a7 : Option Addr) (n7 c7 : Nat) : Prop :=
  AtDy wr BA (dyU (Fp.tot (xs.take k) : Int)) a7 n7 c7 ∧ OwnW (BA + 1) wr a7 n7 c7 (wordsOf (dyU (Fp.tot (xs.take k) : Int)).2.1) ∧ BA + 1 ≤ wr.heap.size ∧ Below wE.heap.size wE wr

set_option maxRecDepth 100000 in
set_option maxHeartbeats 16000000 in
theorem topSums_walk (a : Option Addr) (len cap : Nat) (xs : List Nat) (w : World) (h : Fp.IsF w a len cap xs) (hm : len ≤ 17592186044000) (hs : Fp.smallFs xs) (hT : Tab w) (hN : Fl.Names w) :
    Calls Tryz.prog 3 #[.slice a len cap] w fun e w' => e = .returned (.bool true) ∧ Below w.heap.size w w' := by
  have HLL : Hid (len = xs.length) := h.1
  have HF : Hid (Fp.IsF w a len cap xs) := h
  have HT : Hid (Tab w) := hT
  obtain ⟨K, hK⟩ : ∃ K, K = 1600 := ⟨_, rfl⟩
  have hK2 : K ≤ 2000 := by omega
  have HSU : Hid (∀ w', Fp.IsF w' a len cap xs → _) := fun w' g => Fp.dSum_calls a len cap xs w' g (by omega) hs
  have HE : Hid (Fp.checkE xs [] = 0 → _) := fun e => Fp.sum_all e K (by omega)
  have HGR : Hid (Fp.checkE xs [] = 0 → xs.length ≤ 64 → _) := fun e el => Fp.grow_all e el hs K (by omega)
  have HFI : Hid (Fp.checkE xs [] = 0 → ∀ i, i < len → xs.getD i 0 < 18446744073709551616 ∧ EP.finB (xs.getD i 0) = true ∧ Fp.amt (xs.getD i 0) ≤ Fp.tot xs) := fun e => by
    have h1 := Fp.check_fin e
    rw [← h.1] at h1
    exact fun i hi => ⟨hs i, (h1.2 _ (Fp.getD_memV xs i (by rw [← h.1]; exact hi))).1, Fp.tot_mem _ _ (Fp.getD_memV xs i (by rw [← h.1]; exact hi))⟩
  have hz0 : (Ieee.double.order 0 0 == some .eq) = true := by decide
  have q1 : ∀ x y w, (Op.equalIn 9999 24 (.float .f64 x) (.float .f64 y)).run Tryz.prog w = .ok (Ieee.double.order x y == some .eq) w := fun x y w => Fp.eqF Tryz.prog 24 9998 x y w Tryz.underlying24
  clear hs hK hT
  generalize Fp.checkE xs [] = E at *
  generalize Fp.foldS xs 0 0 = FO at *
  go_enter Tryz.func3, Tryz.ntmps3
  go_wp2_with fail
  refine Calls.mono (topBeginsS_calls _ hN) ?_
  rintro e w1 ⟨rfl, bB⟩
  have F1 := h.keep bB
  clear h hN
  by_cases h64 : 64 < len
  · go_wp2_with fail
    go_ret
    exact ⟨rfl, bB⟩
  go_wp2_with fail
  refine Calls.mono (HSU.out _ F1) ?_
  rintro e w2 ⟨s, t, rfl, b2, A, Z⟩
  replace F1 := F1.keep b2
  replace bB := nbelow_trans bB b2
  clear b2 HSU
  have bP := below_one w2 (.cells #[.float .f64 s, .float .f64 t] 26)
  replace F1 := F1.keep bP
  replace bB := nbelow_trans bB bP
  have p0 : (w2.alloc (.cells #[.float .f64 s, .float .f64 t] 26)).cell? ⟨w2.heap.size, 0, none⟩ = some (.float .f64 s) := by go_simp
  have p1 : (w2.alloc (.cells #[.float .f64 s, .float .f64 t] 26)).cell? ⟨w2.heap.size, 1, none⟩ = some (.float .f64 t) := by go_simp
  clear bP
  by_cases hE : E = 0
  case neg =>
    obtain ⟨rfl, rfl⟩ := Z hE
    clear A Z HE HFI HGR
    have hEd : (E != 0) = true := by simpa using hE
    go_wp2_with fail
    go_ret
    exact ⟨rfl, bB⟩
  case pos =>
    have HA : Hid (∀ p, FO = some p → s = p.1 ∧ t = p.2) := A hE
    obtain ⟨p, q, e, w5, w6, bp, bq, hG, hP, hD, hle, hM, hTo⟩ := HE.out hE
    obtain ⟨rfl, rfl⟩ := HA.out _ e
    obtain ⟨R, g1, g2, g3, g4, g5⟩ := HGR.out hE (by rw [← HLL.out]; omega)
    have HX : Hid (∀ i, i < len → xs.getD i 0 < 18446744073709551616 ∧ EP.finB (xs.getD i 0) = true ∧ Fp.amt (xs.getD i 0) ≤ Fp.tot xs) := HFI.out hE
    have HPF : Hid (s < 18446744073709551616 ∧ t < 18446744073709551616 ∧ EP.finB s = true ∧ EP.finB t = true) := ⟨w5, w6, bp.1, bq.1⟩
    rw [← HLL.out] at hle hM
    have HBD : Hid ((EP.V s + EP.V t).natAbs < 2 ^ K ∧ (EP.V s + EP.V t - Fp.sv xs).natAbs < 2 ^ K ∧ (EP.V s + EP.V t - Fp.sv xs).natAbs * 2 ^ 101 ≤ ((Fp.tot xs : Int) * (len : Int)).natAbs ∧ ((Fp.tot xs : Int) * (len : Int)).natAbs < 2 ^ K ∧ Fp.tot xs < 2 ^ K) := ⟨hP, hD, hle, hM, hTo⟩
    have HGB : Hid (Fp.growB [] xs = some R) := g1
    have HRR : Hid ((∀ i, i < R.length → R.getD i 0 < 18446744073709551616 ∧ EP.finB (R.getD i 0) = true) ∧ Fp.tot R < 2 ^ K ∧ Fp.sv R = Fp.sv xs) := ⟨g2, g4, g5⟩
    clear A Z HE HFI HGR HA e w5 w6 bp bq hG hP hD hle hM hTo g1 g2 g4 g5
    have hEd : (E != 0) = false := by simpa using hE
    subst hE
    go_wp2_with fail
    generalize (w2.alloc (.cells #[.float .f64 s, .float .f64 t] 26)) = w3 at *
    refine Calls.mono (Fp.moderates2_calls a len cap 64 xs w3 F1 (by omega)) ?_
    rintro e w4 ⟨tt, rfl, d4, H4⟩
    have d4b := d4.below w3.heap.size
    replace F1 := F1.keep d4b
    replace bB := nbelow_trans bB d4b
    replace p0 := dcarry_cell d4b p0
    replace p1 := dcarry_cell d4b p1
    clear H4 d4 d4b
    cases tt with
    | false =>
      cases o1 : (Ieee.double.order s 0 == some .eq) with
      | false =>
        go_wp2_with fail
        all_goals go_ret
        all_goals exact ⟨rfl, bB⟩
      | true =>
        cases o2 : (Ieee.double.order t 0 == some .eq) with
        | false =>
          go_wp2_with fail
          all_goals go_ret
          all_goals exact ⟨rfl, bB⟩
        | true =>
          go_wp2_with fail
          all_goals go_ret
          all_goals exact ⟨rfl, bB⟩
    | true =>
      clear hz0 q1
      go_wp2_with fail
      refine Calls.mono (dvalue_any s t w4 HPF.out.1 HPF.out.2.1 HPF.out.2.2.1 HPF.out.2.2.2 (HT.out.kept bB)) ?_
      rintro e w5 ⟨g, cw, ag, ng, cg, rfl, hIg, hg, b5⟩
      have HGV : Hid (cw = 0 → g = dyU (EP.V s + EP.V t)) := hg
      replace F1 := F1.keep b5
      replace bB := nbelow_trans bB b5
      clear hg b5 p0 p1
      have bG := below_one w5 (.cells #[.bool g.1, .slice ag ng cg, .int .i64 g.2.2] 34)
      replace F1 := F1.keep bG
      replace bB := nbelow_trans bB bG
      replace hIg := hIg.keep bG
      have G5 : AtDy (w5.alloc (.cells #[.bool g.1, .slice ag ng cg, .int .i64 g.2.2] 34)) w5.heap.size g ag ng cg := ⟨by go_simp, by go_simp, by go_simp, by go_simp, by go_simp, by go_simp⟩
      have H7 : Hid (AtDy ((w5.alloc (.cells #[.bool g.1, .slice ag ng cg, .int .i64 g.2.2] 34)).alloc (.cells #[.bool false, .slice none 0 0, .int .i64 0] 34)) (w5.heap.size + 1) (false, 0, 0) none 0 0) := ⟨by go_simp, by go_simp, by go_simp, by go_simp, by go_simp, by go_simp⟩
      have bZ := below_one (w5.alloc (.cells #[.bool g.1, .slice ag ng cg, .int .i64 g.2.2] 34)) (.cells #[.bool false, .slice none 0 0, .int .i64 0] 34)
      have F2 := F1.keep bZ
      have HZ7 : Hid (((w5.alloc (.cells #[.bool g.1, .slice ag ng cg, .int .i64 g.2.2] 34)).alloc (.cells #[.bool false, .slice none 0 0, .int .i64 0] 34)).heap.size = w5.heap.size + 1 + 1 ∧ (w5.alloc (.cells #[.bool g.1, .slice ag ng cg, .int .i64 g.2.2] 34)).heap.size = w5.heap.size + 1) := ⟨by simp, by simp⟩
      have HFG : Hid (Fp.IsF (w5.alloc (.cells #[.bool g.1, .slice ag ng cg, .int .i64 g.2.2] 34)) a len cap xs) := F1
      clear bG F1
      go_wp2_with fail
      generalize (w5.alloc (.cells #[.bool g.1, .slice ag ng cg, .int .i64 g.2.2] 34)) = wG at *
      generalize wG.alloc (.cells #[.bool false, .slice none 0 0, .int .i64 0] 34) = w6 at *
      have HBZ : Hid (Below wG.heap.size wG w6) := bZ
      have HBB : Hid (Below w.heap.size w wG) := bB
      have HGC : Hid (AtDy wG w5.heap.size g ag ng cg ∧ IsW wG ag ng cg (wordsOf g.2.1)) := ⟨G5, hIg⟩
      have HZ8 : Hid (w6.heap.size = w5.heap.size + 1 + 1 ∧ wG.heap.size = w5.heap.size + 1) := HZ7
      clear bZ bB G5 hIg HZ7
      generalize w5.heap.size + 1 = B7 at *
      generalize w5.heap.size = B5 at *
      refine Calls.mono (Fp.sum_calls a len cap xs w6 F2 (by omega)) ?_
      rintro e w7 ⟨aR, cR, R', rfl, hO, hl, b7, HE7⟩
      have eR := HE7 _ HGB.out
      rw [eR] at hO ⊢
      have HFR : Hid (Fp.IsF w7 aR R.length cR R) := hO.isF
      have HRF : Hid (∀ b off i, aR = some ⟨b, off, none⟩ → i < R.length → B7 + 1 ≤ b) := by
        have h1 := hO.from
        rw [HZ8.out.1] at h1
        exact h1
      have H0 : Hid (InvE wG w7 R B7 0 aR cR none 0 0) := by
        rw [Hid, InvE, List.take_zero, show Fp.sv [] = 0 from rfl, dyU_zero, words_zero]
        refine ⟨AtDy.keep H7.out b7, ownW_nil _ _, HFR.out, ?_, nbelow_trans HBZ.out b7⟩
        have := b7.size
        rw [HZ8.out.1] at this
        exact this
      clear eR hO hl HE7 F2 H7 HFR b7 HBZ HGB
      go_wp2_with fail
      go_loopw [50] (fun vi wr => ∃ (k : Nat) (a7 : Option Addr) (n7 c7 : Nat), k ≤ R.length ∧ vi = .int .i64 k ∧ Hid (InvE wG wr R B7 k aR cR a7 n7 c7)) (fun vi _ => R.length - (intOf vi).toNat)
      case atStart => exact ⟨0, none, 0, 0, Nat.zero_le _, rfl, H0⟩
      case round =>
        clear H0
        obtain ⟨k, ad, n, c, hk, rfl, HI⟩ := hrel
        by_cases hlt : k < R.length
        · obtain ⟨D7, O7, FR, hz, hbel⟩ := HI.out
          obtain ⟨bb, off, hae, hbl, hc⟩ := FR.2.2 k hlt
          obtain ⟨hx1, hx2⟩ := HRR.out.1 k hlt
          have HST : Hid (Fp.sv (R.take k) + EP.V (R.getD k 0) = Fp.sv (R.take (k + 1))) := by rw [Hid, Fp.sv_take R k hlt]
          have hS1 := Nat.lt_of_le_of_lt (Fp.sv_abs (R.take k)) (Nat.lt_of_le_of_lt (Fp.tot_take R k) HRR.out.2.1)
          have hxV : (EP.V (R.getD k 0)).natAbs < 2 ^ K := Nat.lt_of_le_of_lt (Fp.tot_mem R _ (Fp.getD_memV R k hlt)) HRR.out.2.1
          generalize R.getD k 0 = x at *
          obtain ⟨Sk, hSk⟩ : ∃ Sk, Sk = Fp.sv (R.take k) := ⟨_, rfl⟩
          rw [← hSk] at D7 O7 HST hS1
          have HD : Hid (AtDy wr B7 (dyU Sk) ad n c) := D7
          have HO : Hid (OwnW (B7 + 1) wr ad n c (wordsOf (dyU Sk).2.1)) := O7
          have HFr : Hid (Fp.IsF wr aR R.length cR R) := FR
          have HZ : Hid (B7 + 1 ≤ wr.heap.size) := hz
          have HB : Hid (Below wG.heap.size wG wr) := hbel
          have NC : Hid (∀ W, _) := fun W => ufloat_calls x W hx1 hx2
          have PC : Hid (∀ (a1 : Option Addr) (n1 c1 : Nat) (W : World), Below wr.heap.size wr W → IsW W a1 n1 c1 (wordsOf (dyU (EP.V x)).2.1) → _) := fun a1 n1 c1 W hW q => uplus_calls Sk (EP.V x) K hS1 hxV (by omega) ad a1 n c n1 c1 W (HO.out.1.keep hW) q
          rw [HST.out] at PC
          obtain ⟨k0, k1, k2, f0, f1, f2⟩ := HD.out
          clear hSk HI D7 O7 FR hz hbel hx1 hx2 hS1 hxV HST
          subst hae
          go_wp2_with fail
          go_region_with (first
            | (go_at_call 10; refine (NC.out _).mono ?_; rintro r w2 ⟨v2, rfl, ⟨a2, n2, c2, rfl, HN2, hO2⟩, b2⟩; have k0' : w2.cell? ⟨B7, 0, none⟩ = some (.bool (dyU Sk).1) := dcarry_cell b2 (by go_simp); have k1' : w2.cell? ⟨B7, 1, none⟩ = some (.slice ad n c) := dcarry_cell b2 (by go_simp); have k2' : w2.cell? ⟨B7, 2, none⟩ = some (.int .i64 (dyU Sk).2.2) := dcarry_cell b2 (by go_simp); have bX : Below wr.heap.size wr w2 := nbelow_trans (by repeat (first | exact Below.refl _ _ | refine Below.drew ?_)) b2; have I2 := hO2.1; clear b2 HN2 hO2)
            | (go_at_call 9; refine (PC.out _ _ _ _ (nbelow_trans bX (by repeat (first | exact Below.refl _ _ | refine Below.drew ?_))) (I2.keep (by repeat (first | exact Below.refl _ _ | refine Below.drew ?_)))).mono ?_; rintro r w3 ⟨v3, rfl, ⟨a3, n3, c3, rfl, HN3, hO3⟩, b3⟩; have bY : Below wr.heap.size wr w3 := nbelow_trans (nbelow_trans bX (by repeat (first | exact Below.refl _ _ | refine Below.drew ?_))) b3; have m0 : w3.cell? ⟨B7, 0, none⟩ = some (.bool (dyU Sk).1) := dcarry_cell bY k0; have m1 : w3.cell? ⟨B7, 1, none⟩ = some (.slice ad n c) := dcarry_cell bY k1; have m2 : w3.cell? ⟨B7, 2, none⟩ = some (.int .i64 (dyU Sk).2.2) := dcarry_cell bY k2; have g0 : w3.frozen? ⟨B7, 0, none⟩ = false := dcarry_frozen bY k0 f0; have g1 : w3.frozen? ⟨B7, 1, none⟩ = false := dcarry_frozen bY k1 f1; have g2 : w3.frozen? ⟨B7, 2, none⟩ = false := dcarry_frozen bY k2 f2))
          all_goals
            have hz2 : B7 + 1 ≤ w2.heap.size := Nat.le_trans HZ.out bX.size
            have hz3 : B7 + 1 ≤ w3.heap.size := Nat.le_trans HZ.out bY.size
            have HN9 : Hid (InvE wG (((w3.setCell ⟨B7, 0, none⟩ (.bool (dyU (Fp.sv (R.take (k + 1)))).1)).setCell ⟨B7, 1, none⟩ (.slice a3 n3 c3)).setCell ⟨B7, 2, none⟩ (.int .i64 (dyU (Fp.sv (R.take (k + 1)))).2.2)) R B7 (k + 1) (some ⟨bb, off, none⟩) cR a3 n3 c3) := by
              rw [Hid, InvE]
              refine ⟨AtDy.set (AtDy.keep HD.out bY) _ _ _ _, (((hO3.low hz2).far _ _ (by show B7 < _; omega)).far _ _ (by show B7 < _; omega)).far _ _ (by show B7 < _; omega), ?_, by rw [World.size_setCell, World.size_setCell, World.size_setCell]; exact hz3, ?_⟩
              · exact Fp.isF_at (Fp.isF_at (Fp.isF_at (HFr.out.keep bY) _ _ (fun b off i e hi => by have := HRF.out b off i e hi; show B7 ≠ b; omega)) _ _ (fun b off i e hi => by have := HRF.out b off i e hi; show B7 ≠ b; omega)) _ _ (fun b off i e hi => by have := HRF.out b off i e hi; show B7 ≠ b; omega)
              · have e7 := HZ8.out.2
                exact (((nbelow_trans HB.out bY).setCell (by show wG.heap.size ≤ B7; omega) _).setCell (by show wG.heap.size ≤ B7; omega) _).setCell (by show wG.heap.size ≤ B7; omega) _
            clear k0 k1 k2 f0 f1 f2 k0' k1' k2' m0 m1 m2 g0 g1 g2 bX bY b3 I2 hO3 NC PC HD HO HFr HB HZ hz2 hz3 hc hbl
            generalize (((w3.setCell ⟨B7, 0, none⟩ (.bool (dyU (Fp.sv (R.take (k + 1)))).1)).setCell ⟨B7, 1, none⟩ (.slice a3 n3 c3)).setCell ⟨B7, 2, none⟩ (.int .i64 (dyU (Fp.sv (R.take (k + 1)))).2.2)) = w9 at *
            go_wp2_with fail
            exact ⟨⟨k + 1, a3, n3, c3, by omega, by go_num, HN9⟩, by simp [intOf]; omega⟩
        · have hke : k = R.length := by omega
          have e1 : R.take k = R := List.take_of_length_le (by omega)
          have HI2 : Hid (AtDy wr B7 (dyU (Fp.sv xs)) ad n c ∧ IsW wr ad n c (wordsOf (dyU (Fp.sv xs)).2.1) ∧ Below wG.heap.size wG wr) := by
            obtain ⟨D7, O7, -, -, hbel⟩ := HI.out
            rw [e1, HRR.out.2.2] at D7 O7
            exact ⟨D7, O7.1, hbel⟩
          clear HI e1 hke HRF HRR
          have HTA : Hid (AtDy (wr.alloc (.cells #[.bool false, .slice none 0 0, .int .i64 0] 34)) wr.heap.size (false, 0, 0) none 0 0) := ⟨by go_simp, by go_simp, by go_simp, by go_simp, by go_simp, by go_simp⟩
          have H0 : Hid (InvT wr (wr.alloc (.cells #[.bool false, .slice none 0 0, .int .i64 0] 34)) xs wr.heap.size 0 none 0 0) := by
            rw [Hid, InvT, List.take_zero, show ((Fp.tot [] : Nat) : Int) = 0 from rfl, dyU_zero, words_zero]
            exact ⟨HTA.out, ownW_nil _ _, by simp, below_one _ _⟩
          clear HTA
          go_wp2_with fail
          generalize wr.alloc (.cells #[.bool false, .slice none 0 0, .int .i64 0] 34) = w8 at *
          obtain ⟨wE, hwE⟩ : ∃ wE, wE = wr := ⟨_, rfl⟩
          rw [← hwE] at HI2 H0 ⊢
          clear hwE
          obtain ⟨BA, hBA⟩ : ∃ BA, BA = wE.heap.size := ⟨_, rfl⟩
          have HBA : Hid (BA = wE.heap.size) := hBA
          have H0' : Hid (InvT wE w8 xs BA 0 none 0 0) := by rw [Hid, hBA]; exact H0.out
          rw [← hBA]
          clear hBA H0
          go_loopw [62] (fun vi wr => ∃ (k : Nat) (a7 : Option Addr) (n7 c7 : Nat), k ≤ len ∧ vi = .int .i64 k ∧ Hid (InvT wE wr xs BA k a7 n7 c7)) (fun vi _ => len - (intOf vi).toNat)
          case atStart => exact ⟨0, none, 0, 0, Nat.zero_le _, rfl, H0'⟩
          case round =>
            clear H0'
            obtain ⟨k, a6, n6, c6, hk, rfl, HI⟩ := hrel
            have HFE : Hid (Fp.IsF wr a len cap xs) := (HFG.out.keep HI2.out.2.2).keep HI.out.2.2.2
            by_cases hlt : k < len
            · obtain ⟨D6, O6, hz, hbel⟩ := HI.out
              obtain ⟨bb, off, hae, hbl, hc⟩ := HFE.out.2.2 k hlt
              obtain ⟨hx1, hx2, hx3⟩ := HX.out k hlt
              have e2 := Fp.tot_takeS xs k (by rw [← HLL.out]; exact hlt)
              have hT1 := Nat.lt_of_le_of_lt (Fp.tot_take xs k) HBD.out.2.2.2.2
              have hxV : (EP.V (xs.getD k 0)).natAbs < 2 ^ K := Nat.lt_of_le_of_lt hx3 HBD.out.2.2.2.2
              have e2' : ((Fp.tot (xs.take (k + 1)) : Nat) : Int) = (Fp.tot (xs.take k) : Int) + ((EP.V (xs.getD k 0)).natAbs : Int) := by rw [e2]; rfl
              generalize xs.getD k 0 = x at *
              obtain ⟨Tk, hTk⟩ : ∃ Tk, Tk = Fp.tot (xs.take k) := ⟨_, rfl⟩
              rw [← hTk] at D6 O6 e2' hT1
              have XC : Hid _ := ufloat_calls x wr hx1 hx2
              generalize EP.V x = X at *
              have HNX : Hid (((Fp.tot (xs.take (k + 1)) : Nat) : Int) = (Tk : Int) + (X.natAbs : Int)) := e2'
              have hXa : ((X.natAbs : Nat) : Int).natAbs < 2 ^ K := by rw [Int.natAbs_natCast]; exact hxV
              have hTa : ((Tk : Nat) : Int).natAbs < 2 ^ K := by rw [Int.natAbs_natCast]; exact hT1
              have UP2 : Hid _ := fun (ax : Option Addr) (nx cx : Nat) (W : World) (g1 : IsW W a6 n6 c6 (wordsOf (dyU (Tk : Int)).2.1)) (g2 : IsW W ax nx cx (wordsOf (dyU (X.natAbs : Int)).2.1)) => uplus_calls (Tk : Int) (X.natAbs : Int) K hTa hXa (by omega) a6 ax n6 c6 nx cx W g1 g2
              rw [dyU_abs X] at UP2
              have HZ : Hid (BA + 1 ≤ wr.heap.size) := hz
              have HL : Hid (Below wE.heap.size wE wr) := hbel
              have HD6 : Hid (AtDy wr BA (dyU (Tk : Int)) a6 n6 c6) := D6
              have HO6 : Hid (OwnW (BA + 1) wr a6 n6 c6 (wordsOf (dyU (Tk : Int)).2.1)) := O6
              clear hx1 hx2 hx3 e2 e2' hT1 hxV hXa hTa hTk HI D6 O6 hz hbel
              subst hae
              go_wp2_with fail
              refine Calls.mono XC.out ?_
              rintro r w4 ⟨_, rfl, ⟨a1, n1, c1, rfl, HN1, hO1⟩, b1⟩
              have bZ := below_one w4 (.cells #[.bool false, .slice a1 n1 c1, .int .i64 (dyU X).2.2] 34)
              have b4 := nbelow_trans b1 bZ
              have J1 := hO1.1.keep bZ
              have HB8 : Hid (BA < w4.heap.size ∧ (w4.alloc (.cells #[.bool false, .slice a1 n1 c1, .int .i64 (dyU X).2.2] 34)).heap.size = w4.heap.size + 1 ∧ wr.heap.size ≤ w4.heap.size) := by
                rw [Hid]; have := HZ.out; have := b1.size; exact ⟨by omega, by simp, by omega⟩
              have x0 : (w4.alloc (.cells #[.bool false, .slice a1 n1 c1, .int .i64 (dyU X).2.2] 34)).cell? ⟨w4.heap.size, 0, none⟩ = some (.bool false) := by go_simp
              have x1 : (w4.alloc (.cells #[.bool false, .slice a1 n1 c1, .int .i64 (dyU X).2.2] 34)).cell? ⟨w4.heap.size, 1, none⟩ = some (.slice a1 n1 c1) := by go_simp
              have x2 : (w4.alloc (.cells #[.bool false, .slice a1 n1 c1, .int .i64 (dyU X).2.2] 34)).cell? ⟨w4.heap.size, 2, none⟩ = some (.int .i64 (dyU X).2.2) := by go_simp
              have y0 : (w4.alloc (.cells #[.bool false, .slice a1 n1 c1, .int .i64 (dyU X).2.2] 34)).frozen? ⟨w4.heap.size, 0, none⟩ = false := by go_simp
              obtain ⟨l0, l1, l2, g0, g1, g2⟩ := AtDy.keep HD6.out b4
              have HBW : Hid (Below wr.heap.size wr (w4.alloc (.cells #[.bool false, .slice a1 n1 c1, .int .i64 (dyU X).2.2] 34))) := b4
              have hb8 := HB8.out
              have j3 : ¬ BA = w4.heap.size := by omega
              have j4 : ¬ w4.heap.size = BA := by omega
              have HJ6 : Hid (IsW (w4.alloc (.cells #[.bool false, .slice a1 n1 c1, .int .i64 (dyU X).2.2] 34)) a6 n6 c6 (wordsOf (dyU (Tk : Int)).2.1)) := HO6.out.1.keep b4
              have J1' := J1
              clear hO1 bZ b1 b4 hc hbl HN1 J1 hb8
              go_wp2_with fail
              refine Calls.mono (UP2.out _ _ _ _ HJ6.out J1') ?_
              rintro r w7 ⟨_, rfl, ⟨a7, n7, c7, rfl, HN7, hO7⟩, b7⟩
              have hb8 := HB8.out
              have D6' : AtDy (w4.alloc (.cells #[.bool false, .slice a1 n1 c1, .int .i64 (dyU X).2.2] 34)) BA (dyU (Tk : Int)) a6 n6 c6 := AtDy.keep HD6.out HBW.out
              have bl7 : Below wE.heap.size wE (w4.alloc (.cells #[.bool false, .slice a1 n1 c1, .int .i64 (dyU X).2.2] 34)) := nbelow_trans HL.out HBW.out
              have hs7 := b7.size
              have HN8 : Hid (InvT wE (((w7.setCell ⟨BA, 0, none⟩ (.bool (dyU ((Tk : Int) + (X.natAbs : Int))).1)).setCell ⟨BA, 1, none⟩ (.slice a7 n7 c7)).setCell ⟨BA, 2, none⟩ (.int .i64 (dyU ((Tk : Int) + (X.natAbs : Int))).2.2)) xs BA (k + 1) a7 n7 c7) := by
                rw [Hid, InvT, HNX.out]
                have hA := HBA.out
                refine ⟨AtDy.set (AtDy.keep D6' b7) _ _ _ _, ?_, ?_, ?_⟩
                · exact (((hO7.far _ _ (by show BA < _; omega)).far _ _ (by show BA < _; omega)).far _ _ (by show BA < _; omega)).low (by omega)
                · rw [World.size_setCell, World.size_setCell, World.size_setCell]; omega
                · exact (((nbelow_trans bl7 b7).setCell (by show wE.heap.size ≤ BA; omega) _).setCell (by show wE.heap.size ≤ BA; omega) _).setCell (by show wE.heap.size ≤ BA; omega) _
              obtain ⟨l0, l1, l2, g0, g1, g2⟩ := AtDy.keep D6' b7
              clear D6' bl7 hO7 HN7 HO6 HD6 HL HZ hs7 hb8 J1' HJ6 UP2 x0 x1 x2 y0 b7 HBW
              go_wp2_with fail
              exact ⟨⟨k + 1, a7, n7, c7, by omega, by go_num, HN8⟩, by simp [intOf]; omega⟩
            · have hke : k = len := by omega
              have e1 : xs.take k = xs := List.take_of_length_le (by rw [hke, HLL.out]; exact Nat.le_refl _)
              have HI3 : Hid (AtDy wr BA (dyU (Fp.tot xs : Int)) a6 n6 c6 ∧ IsW wr a6 n6 c6 (wordsOf (dyU (Fp.tot xs : Int)).2.1) ∧ Below wE.heap.size wE wr) := by
                obtain ⟨D7, O7, -, hbel⟩ := HI.out
                rw [e1] at D7 O7
                exact ⟨D7, O7.1, hbel⟩
              have HBW : Hid (Below w.heap.size w wr) := nbelow_trans (nbelow_trans HBB.out HI2.out.2.2) HI3.out.2.2
              clear HI e1 hke HFE HX
              by_cases hcw : cw = 0
              case neg =>
                have hcd : (cw != 0) = true := by simpa using hcw
                go_wp2_with fail
                go_ret
                exact ⟨rfl, HBW.out⟩
              case pos =>
                have hgv := HGV.out hcw
                subst hcw
                subst hgv
                have bGE := HI2.out.2.2
                have bGW := nbelow_trans bGE HI3.out.2.2
                obtain ⟨q0, q1, q2, -, -, -⟩ := AtDy.keep HGC.out.1 bGW
                obtain ⟨r0, r1, r2, -, -, -⟩ := AtDy.keep HI2.out.1 HI3.out.2.2
                have SU : Hid _ := usub_calls (EP.V s + EP.V t) (Fp.sv xs) K HBD.out.1 (Nat.lt_of_le_of_lt (Fp.sv_abs xs) HBD.out.2.2.2.2) HBD.out.2.1 (by omega) ag ad ng cg n c wr (HGC.out.2.keep bGW) (IsW.keep HI2.out.2.1 HI3.out.2.2) (HT.out.kept HBW.out)
                obtain ⟨D, hD⟩ : ∃ D, D = EP.V s + EP.V t - Fp.sv xs := ⟨_, rfl⟩
                obtain ⟨M, hM⟩ : ∃ M, M = Fp.tot xs := ⟨_, rfl⟩
                rw [← hD] at SU HBD
                rw [← hM] at HI3 HBD
                clear hD hM bGE bGW HGV
                go_wp2_with fail
                refine Calls.mono SU.out ?_
                rintro r w4 ⟨_, rfl, ⟨a1, n1, c1, rfl, HN1, hn1, hO1⟩, b1⟩
                have bZ := below_one w4 (.cells #[.bool false, .slice a1 n1 c1, .int .i64 (dyU D).2.2] 34)
                have b4 := nbelow_trans b1 bZ
                have J1' := hO1.1.keep bZ
                have z0 : (w4.alloc (.cells #[.bool false, .slice a1 n1 c1, .int .i64 (dyU D).2.2] 34)).cell? ⟨w4.heap.size, 0, none⟩ = some (.bool false) := by go_simp
                have z1 : (w4.alloc (.cells #[.bool false, .slice a1 n1 c1, .int .i64 (dyU D).2.2] 34)).cell? ⟨w4.heap.size, 1, none⟩ = some (.slice a1 n1 c1) := by go_simp
                have z2 : (w4.alloc (.cells #[.bool false, .slice a1 n1 c1, .int .i64 (dyU D).2.2] 34)).cell? ⟨w4.heap.size, 2, none⟩ = some (.int .i64 (dyU D).2.2) := by go_simp
                obtain ⟨l0, l1, l2, -, -, -⟩ := AtDy.keep HI3.out.1 b4
                have J6 := IsW.keep HI3.out.2.1 b4
                have bF : Below w.heap.size w (w4.alloc (.cells #[.bool false, .slice a1 n1 c1, .int .i64 (dyU D).2.2] 34)) := nbelow_trans HBW.out b4
                clear hO1 b1 bZ b4 HBW HI2 HI3 HGC HBB SU q0 q1 q2 r0 r1 r2 HFG HN1 hn1
                go_upto_region 29 with fail
                generalize (w4.alloc (.cells #[.bool false, .slice a1 n1 c1, .int .i64 (dyU D).2.2] 34)) = wS at *
                generalize w4.heap.size = BD at *
                go_cut [16] from 86 to 91 (fun va wx => ∃ (X : Nat) (ao : Option Addr) (n c : Nat), va = .pointer (some ⟨X, 0, none⟩) ∧ wx.cell? ⟨X, 0, none⟩ = some (.bool (lowU ((M : Int) * (len : Int)) 101).1) ∧ wx.cell? ⟨X, 1, none⟩ = some (.slice ao n c) ∧ wx.cell? ⟨X, 2, none⟩ = some (.int .i64 (lowU ((M : Int) * (len : Int)) 101).2.2) ∧ IsW wx ao n c (wordsOf (lowU ((M : Int) * (len : Int)) 101).2.1) ∧ Below wS.heap.size wS wx)
                case first =>
                  have bw : Below wS.heap.size wS wS.drew := (Below.refl _ _).drew
                  refine wp_region_held (S := fun w' => Below wS.heap.size wS w') (by kernel_rfl) ?_
                  change wpAnyH _ _ _ _ _ _ _ _ (World.drew wS)
                  generalize World.drew wS = wd at bw ⊢
                  refine wpAnyH_take (i := 0) (v := .agg #[.bool (dyU (M : Int)).1, .slice a6 n6 c6, .int .i64 (dyU (M : Int)).2.2]) rfl (by kernel_rfl) (by kernel_rfl) (by kernel_rfl) (fun _ _ _ h => h) (Or.inl ⟨by rfl, ?y1⟩) bw ?r1
                  case y1 => (intro ww hS; have ql0 := dcarry_cell hS l0; have ql1 := dcarry_cell hS l1; have ql2 := dcarry_cell hS l2; clear hS; go_simp)
                  try simp only [Act.put, List.setIfInBounds_toArray]
                  refine wpAnyH_take (i := 1) (v := .slice a len cap) rfl (by kernel_rfl) (by kernel_rfl) (by kernel_rfl) (fun _ _ _ h => h) (Or.inl ⟨by rfl, ?y2⟩) bw ?r2
                  case y2 => (intro ww hS; clear hS; go_simp)
                  try simp only [Act.put]
                  refine wpAnyH_take (i := 2) (v := .int .i64 (len : Int)) rfl (by kernel_rfl) (by kernel_rfl) (by kernel_rfl) (fun _ _ _ h => h) (Or.inl ⟨by rfl, ?y3⟩) bw ?r3
                  case y3 => (intro ww hS; clear hS; go_simp)
                  try simp only [Act.put]
                  refine wpAnyH_ready (rs := [3, 6]) (by kernel_rfl) (by simp) ?_
                  refine AllReadyH.cons rfl (fun KK hK => ?_) (AllReadyH.cons rfl (fun KK hK => ?_) (AllReadyH.nil))
                  · go_simp
                    refine Calls.mono (qint_calls (len : Int) (by omega) _) ?_
                    rintro r v1 ⟨_, rfl, ⟨ai, ni, ci, rfl, HNi, hOi⟩, bN⟩
                    refine hK.out _ _ (nbelow_trans bw bN) (fun _ => ?_)
                    clear hK KK
                    have Ii := hOi.1
                    replace bw := nbelow_trans bw bN
                    clear bN hOi HNi
                    try simp only [Act.put, List.setIfInBounds_toArray, List.set_cons_zero, List.set_cons_succ]
                    refine wpAnyH_ready (rs := [4, 6]) (by kernel_rfl) (by simp) ?_
                    refine AllReadyH.cons rfl (fun KK hK => ?_) (AllReadyH.cons rfl (fun KK hK => ?_) (AllReadyH.nil))
                    · go_simp
                      refine Calls.mono (utimesn_calls (M : Int) len K (by rw [Int.natAbs_natCast]; exact HBD.out.2.2.2.2) (by omega) (by omega) a6 ai n6 c6 ni ci _ (J6.keep bw) Ii) ?_
                      rintro r v2 ⟨_, rfl, ⟨au, nu, cu, rfl, HNu, hOu⟩, bN⟩
                      refine hK.out _ _ (nbelow_trans bw bN) (fun _ => ?_)
                      clear hK KK
                      have Iu := hOu.1
                      replace bw := nbelow_trans bw bN
                      clear bN hOu HNu
                      try simp only [Act.put, List.setIfInBounds_toArray, List.set_cons_zero, List.set_cons_succ]
                      refine wpAnyH_ready (rs := [5, 6]) (by kernel_rfl) (by simp) ?_
                      refine AllReadyH.cons rfl (fun KK hK => ?_) (AllReadyH.cons rfl (fun KK hK => ?_) (AllReadyH.nil))
                      · go_simp
                        refine Calls.mono (utwice_calls ((M : Int) * (len : Int)) 101 K (-101) (by decide) (by decide) HBD.out.2.2.2.1 (by omega) au nu cu _ Iu) ?_
                        rintro r v3 ⟨_, rfl, ⟨az, nz, cz, rfl, HNz, hOz⟩, bN⟩
                        refine hK.out _ _ (nbelow_trans bw bN) (fun _ => ?_)
                        clear hK KK
                        have Iz := hOz.1
                        have Hw0 : Hid (∀ b off i, az = some ⟨b, off, none⟩ → i < nz → b < v3.heap.size) := fun b off i e hi => by
                          obtain ⟨b2, off2, q1, q2, -⟩ := Iz.2.2.2 i hi
                          rw [e] at q1
                          cases q1
                          exact q2
                        replace bw := nbelow_trans bw bN
                        clear bN hOz HNz
                        try simp only [Act.put, List.setIfInBounds_toArray, List.set_cons_zero, List.set_cons_succ]
                        refine wpAnyH_ready (rs := [6]) (by kernel_rfl) (by simp) ?_
                        refine AllReadyH.cons rfl (fun KK hK => ?_) (AllReadyH.nil)
                        go_simp
                        refine hK.out _ _ (bl_alloc bw _) (fun _ => ?_)
                        clear hK KK
                        have bN := below_one v3 (.cells #[.bool false, .slice none 0 0, .int .i64 0] 34)
                        replace Iz := Iz.keep bN
                        have Hw : Hid (∀ b off i, az = some ⟨b, off, none⟩ → i < nz → b < v3.heap.size) := Hw0
                        obtain ⟨X0, X1, X2, X3, X4, X5⟩ := zero_dy (w := v3) (r := v3.heap.size) (W' := v3.alloc (.cells #[.bool false, .slice none 0 0, .int .i64 0] 34)) (Below.refl _ _) rfl
                        have XL : wS.heap.size ≤ v3.heap.size := bw.size
                        have XZ : Hid ((v3.alloc (.cells #[.bool false, .slice none 0 0, .int .i64 0] 34)).heap.size = v3.heap.size + 1) := by rw [Hid]; simp
                        replace bw := bl_alloc bw (.cells #[.bool false, .slice none 0 0, .int .i64 0] 34)
                        clear bN
                        try simp only [Act.put, List.setIfInBounds_toArray, List.set_cons_zero, List.set_cons_succ]
                        generalize v3.alloc (.cells #[.bool false, .slice none 0 0, .int .i64 0] 34) = v4 at *
                        refine wpAnyH_ready (rs := [7]) (by kernel_rfl) (by simp) ?_
                        refine AllReadyH.cons rfl (fun KK hK => ?_) (AllReadyH.nil)
                        go_simp
                        have bS : Below wS.heap.size wS (((v4.setCell ⟨v3.heap.size, 0, none⟩ (.bool (lowU ((M : Int) * (len : Int)) 101).1)).setCell ⟨v3.heap.size, 1, none⟩ (.slice az nz cz)).setCell ⟨v3.heap.size, 2, none⟩ (.int .i64 (lowU ((M : Int) * (len : Int)) 101).2.2)) := ((bw.setCell XL _).setCell XL _).setCell XL _
                        refine hK.out _ _ bS (fun _ => ?_)
                        clear hK KK
                        replace Iz := isW_at (isW_at (isW_at Iz ⟨v3.heap.size, 0, none⟩ (.bool (lowU ((M : Int) * (len : Int)) 101).1) (fun b off i e hi => by first | exact HX.out b off i e hi | (have := Hw.out b off i e hi; exact Nat.ne_of_gt this))) ⟨v3.heap.size, 1, none⟩ (.slice az nz cz) (fun b off i e hi => by first | exact HX.out b off i e hi | (have := Hw.out b off i e hi; exact Nat.ne_of_gt this))) ⟨v3.heap.size, 2, none⟩ (.int .i64 (lowU ((M : Int) * (len : Int)) 101).2.2) (fun b off i e hi => by first | exact HX.out b off i e hi | (have := Hw.out b off i e hi; exact Nat.ne_of_gt this))
                        have Z0 : (((v4.setCell ⟨v3.heap.size, 0, none⟩ (.bool (lowU ((M : Int) * (len : Int)) 101).1)).setCell ⟨v3.heap.size, 1, none⟩ (.slice az nz cz)).setCell ⟨v3.heap.size, 2, none⟩ (.int .i64 (lowU ((M : Int) * (len : Int)) 101).2.2)).cell? ⟨v3.heap.size, 0, none⟩ = some (.bool (lowU ((M : Int) * (len : Int)) 101).1) := by go_simp
                        have Z1 : (((v4.setCell ⟨v3.heap.size, 0, none⟩ (.bool (lowU ((M : Int) * (len : Int)) 101).1)).setCell ⟨v3.heap.size, 1, none⟩ (.slice az nz cz)).setCell ⟨v3.heap.size, 2, none⟩ (.int .i64 (lowU ((M : Int) * (len : Int)) 101).2.2)).cell? ⟨v3.heap.size, 1, none⟩ = some (.slice az nz cz) := by go_simp
                        have Z2 : (((v4.setCell ⟨v3.heap.size, 0, none⟩ (.bool (lowU ((M : Int) * (len : Int)) 101).1)).setCell ⟨v3.heap.size, 1, none⟩ (.slice az nz cz)).setCell ⟨v3.heap.size, 2, none⟩ (.int .i64 (lowU ((M : Int) * (len : Int)) 101).2.2)).cell? ⟨v3.heap.size, 2, none⟩ = some (.int .i64 (lowU ((M : Int) * (len : Int)) 101).2.2) := by go_simp
                        clear X0 X1 X2 X3 X4 X5 bw XZ XL
                        try simp only [Act.put, List.setIfInBounds_toArray, List.set_cons_zero, List.set_cons_succ]
                        generalize (((v4.setCell ⟨v3.heap.size, 0, none⟩ (.bool (lowU ((M : Int) * (len : Int)) 101).1)).setCell ⟨v3.heap.size, 1, none⟩ (.slice az nz cz)).setCell ⟨v3.heap.size, 2, none⟩ (.int .i64 (lowU ((M : Int) * (len : Int)) 101).2.2)) = v5 at *
                        have X0 := Z0
                        have X1 := Z1
                        have X2 := Z2
                        have bw := bS
                        clear Z0 Z1 Z2 bS
                        refine wpAnyH_done (by kernel_rfl) ?_ _
                        go_wp2_with fail
                        go_meet
                        exact ⟨_, _, _, _, rfl, X0, X1, X2, Iz, bw⟩
                      · go_simp
                        refine hK.out _ _ (bl_alloc bw _) (fun _ => ?_)
                        clear hK KK
                        have bN := below_one v2 (.cells #[.bool false, .slice none 0 0, .int .i64 0] 34)
                        replace Iu := Iu.keep bN
                        obtain ⟨X0, X1, X2, X3, X4, X5⟩ := zero_dy (w := v2) (r := v2.heap.size) (W' := v2.alloc (.cells #[.bool false, .slice none 0 0, .int .i64 0] 34)) (Below.refl _ _) rfl
                        have XL : wS.heap.size ≤ v2.heap.size := bw.size
                        have XZ : Hid ((v2.alloc (.cells #[.bool false, .slice none 0 0, .int .i64 0] 34)).heap.size = v2.heap.size + 1) := by rw [Hid]; simp
                        replace bw := bl_alloc bw (.cells #[.bool false, .slice none 0 0, .int .i64 0] 34)
                        clear bN
                        try simp only [Act.put, List.setIfInBounds_toArray, List.set_cons_zero, List.set_cons_succ]
                        generalize v2.alloc (.cells #[.bool false, .slice none 0 0, .int .i64 0] 34) = v6 at *
                        refine wpAnyH_ready (rs := [5]) (by kernel_rfl) (by simp) ?_
                        refine AllReadyH.cons rfl (fun KK hK => ?_) (AllReadyH.nil)
                        go_simp
                        refine Calls.mono (utwice_calls ((M : Int) * (len : Int)) 101 K (-101) (by decide) (by decide) HBD.out.2.2.2.1 (by omega) au nu cu _ Iu) ?_
                        rintro r v7 ⟨_, rfl, ⟨az, nz, cz, rfl, HNz, hOz⟩, bN⟩
                        refine hK.out _ _ (nbelow_trans bw bN) (fun _ => ?_)
                        clear hK KK
                        have Iz := hOz.1
                        have Hw0 : Hid (∀ b off i, az = some ⟨b, off, none⟩ → i < nz → b < v7.heap.size) := fun b off i e hi => by
                          obtain ⟨b2, off2, q1, q2, -⟩ := Iz.2.2.2 i hi
                          rw [e] at q1
                          cases q1
                          exact q2
                        have HX : Hid (∀ b off i, az = some ⟨b, off, none⟩ → i < nz → v2.heap.size ≠ b) := fun b off i e hi => by
                          have h1 := (hOz.2 b off i e hi).1
                          have h2 : v2.heap.size < v6.heap.size := World.block_lt_of_cell? _ _ X0
                          omega
                        replace X3 := dcarry_frozen bN X0 X3
                        replace X4 := dcarry_frozen bN X1 X4
                        replace X5 := dcarry_frozen bN X2 X5
                        replace X0 := dcarry_cell bN X0
                        replace X1 := dcarry_cell bN X1
                        replace X2 := dcarry_cell bN X2
                        replace bw := nbelow_trans bw bN
                        clear bN hOz HNz
                        try simp only [Act.put, List.setIfInBounds_toArray, List.set_cons_zero, List.set_cons_succ]
                        refine wpAnyH_ready (rs := [7]) (by kernel_rfl) (by simp) ?_
                        refine AllReadyH.cons rfl (fun KK hK => ?_) (AllReadyH.nil)
                        go_simp
                        have bS : Below wS.heap.size wS (((v7.setCell ⟨v2.heap.size, 0, none⟩ (.bool (lowU ((M : Int) * (len : Int)) 101).1)).setCell ⟨v2.heap.size, 1, none⟩ (.slice az nz cz)).setCell ⟨v2.heap.size, 2, none⟩ (.int .i64 (lowU ((M : Int) * (len : Int)) 101).2.2)) := ((bw.setCell XL _).setCell XL _).setCell XL _
                        refine hK.out _ _ bS (fun _ => ?_)
                        clear hK KK
                        replace Iz := isW_at (isW_at (isW_at Iz ⟨v2.heap.size, 0, none⟩ (.bool (lowU ((M : Int) * (len : Int)) 101).1) (fun b off i e hi => by first | exact HX.out b off i e hi | (have := Hw.out b off i e hi; exact Nat.ne_of_gt this))) ⟨v2.heap.size, 1, none⟩ (.slice az nz cz) (fun b off i e hi => by first | exact HX.out b off i e hi | (have := Hw.out b off i e hi; exact Nat.ne_of_gt this))) ⟨v2.heap.size, 2, none⟩ (.int .i64 (lowU ((M : Int) * (len : Int)) 101).2.2) (fun b off i e hi => by first | exact HX.out b off i e hi | (have := Hw.out b off i e hi; exact Nat.ne_of_gt this))
                        have Z0 : (((v7.setCell ⟨v2.heap.size, 0, none⟩ (.bool (lowU ((M : Int) * (len : Int)) 101).1)).setCell ⟨v2.heap.size, 1, none⟩ (.slice az nz cz)).setCell ⟨v2.heap.size, 2, none⟩ (.int .i64 (lowU ((M : Int) * (len : Int)) 101).2.2)).cell? ⟨v2.heap.size, 0, none⟩ = some (.bool (lowU ((M : Int) * (len : Int)) 101).1) := by go_simp
                        have Z1 : (((v7.setCell ⟨v2.heap.size, 0, none⟩ (.bool (lowU ((M : Int) * (len : Int)) 101).1)).setCell ⟨v2.heap.size, 1, none⟩ (.slice az nz cz)).setCell ⟨v2.heap.size, 2, none⟩ (.int .i64 (lowU ((M : Int) * (len : Int)) 101).2.2)).cell? ⟨v2.heap.size, 1, none⟩ = some (.slice az nz cz) := by go_simp
                        have Z2 : (((v7.setCell ⟨v2.heap.size, 0, none⟩ (.bool (lowU ((M : Int) * (len : Int)) 101).1)).setCell ⟨v2.heap.size, 1, none⟩ (.slice az nz cz)).setCell ⟨v2.heap.size, 2, none⟩ (.int .i64 (lowU ((M : Int) * (len : Int)) 101).2.2)).cell? ⟨v2.heap.size, 2, none⟩ = some (.int .i64 (lowU ((M : Int) * (len : Int)) 101).2.2) := by go_simp
                        clear X0 X1 X2 X3 X4 X5 bw XZ XL
                        try simp only [Act.put, List.setIfInBounds_toArray, List.set_cons_zero, List.set_cons_succ]
                        generalize (((v7.setCell ⟨v2.heap.size, 0, none⟩ (.bool (lowU ((M : Int) * (len : Int)) 101).1)).setCell ⟨v2.heap.size, 1, none⟩ (.slice az nz cz)).setCell ⟨v2.heap.size, 2, none⟩ (.int .i64 (lowU ((M : Int) * (len : Int)) 101).2.2)) = v8 at *
                        have X0 := Z0
                        have X1 := Z1
                        have X2 := Z2
                        have bw := bS
                        clear Z0 Z1 Z2 bS
                        refine wpAnyH_done (by kernel_rfl) ?_ _
                        go_wp2_with fail
                        go_meet
                        exact ⟨_, _, _, _, rfl, X0, X1, X2, Iz, bw⟩
                    · go_simp
                      refine hK.out _ _ (bl_alloc bw _) (fun _ => ?_)
                      clear hK KK
                      have bN := below_one v1 (.cells #[.bool false, .slice none 0 0, .int .i64 0] 34)
                      replace Ii := Ii.keep bN
                      obtain ⟨X0, X1, X2, X3, X4, X5⟩ := zero_dy (w := v1) (r := v1.heap.size) (W' := v1.alloc (.cells #[.bool false, .slice none 0 0, .int .i64 0] 34)) (Below.refl _ _) rfl
                      have XL : wS.heap.size ≤ v1.heap.size := bw.size
                      have XZ : Hid ((v1.alloc (.cells #[.bool false, .slice none 0 0, .int .i64 0] 34)).heap.size = v1.heap.size + 1) := by rw [Hid]; simp
                      replace bw := bl_alloc bw (.cells #[.bool false, .slice none 0 0, .int .i64 0] 34)
                      clear bN
                      try simp only [Act.put, List.setIfInBounds_toArray, List.set_cons_zero, List.set_cons_succ]
                      generalize v1.alloc (.cells #[.bool false, .slice none 0 0, .int .i64 0] 34) = v9 at *
                      refine wpAnyH_ready (rs := [4]) (by kernel_rfl) (by simp) ?_
                      refine AllReadyH.cons rfl (fun KK hK => ?_) (AllReadyH.nil)
                      go_simp
                      refine Calls.mono (utimesn_calls (M : Int) len K (by rw [Int.natAbs_natCast]; exact HBD.out.2.2.2.2) (by omega) (by omega) a6 ai n6 c6 ni ci _ (J6.keep bw) Ii) ?_
                      rintro r v10 ⟨_, rfl, ⟨au, nu, cu, rfl, HNu, hOu⟩, bN⟩
                      refine hK.out _ _ (nbelow_trans bw bN) (fun _ => ?_)
                      clear hK KK
                      have Iu := hOu.1
                      replace X3 := dcarry_frozen bN X0 X3
                      replace X4 := dcarry_frozen bN X1 X4
                      replace X5 := dcarry_frozen bN X2 X5
                      replace X0 := dcarry_cell bN X0
                      replace X1 := dcarry_cell bN X1
                      replace X2 := dcarry_cell bN X2
                      replace bw := nbelow_trans bw bN
                      clear bN hOu HNu
                      try simp only [Act.put, List.setIfInBounds_toArray, List.set_cons_zero, List.set_cons_succ]
                      refine wpAnyH_ready (rs := [5]) (by kernel_rfl) (by simp) ?_
                      refine AllReadyH.cons rfl (fun KK hK => ?_) (AllReadyH.nil)
                      go_simp
                      refine Calls.mono (utwice_calls ((M : Int) * (len : Int)) 101 K (-101) (by decide) (by decide) HBD.out.2.2.2.1 (by omega) au nu cu _ Iu) ?_
                      rintro r v11 ⟨_, rfl, ⟨az, nz, cz, rfl, HNz, hOz⟩, bN⟩
                      refine hK.out _ _ (nbelow_trans bw bN) (fun _ => ?_)
                      clear hK KK
                      have Iz := hOz.1
                      have Hw0 : Hid (∀ b off i, az = some ⟨b, off, none⟩ → i < nz → b < v11.heap.size) := fun b off i e hi => by
                        obtain ⟨b2, off2, q1, q2, -⟩ := Iz.2.2.2 i hi
                        rw [e] at q1
                        cases q1
                        exact q2
                      have HX : Hid (∀ b off i, az = some ⟨b, off, none⟩ → i < nz → v1.heap.size ≠ b) := fun b off i e hi => by
                        have h1 := (hOz.2 b off i e hi).1
                        have h2 : v1.heap.size < v10.heap.size := World.block_lt_of_cell? _ _ X0
                        omega
                      replace X3 := dcarry_frozen bN X0 X3
                      replace X4 := dcarry_frozen bN X1 X4
                      replace X5 := dcarry_frozen bN X2 X5
                      replace X0 := dcarry_cell bN X0
                      replace X1 := dcarry_cell bN X1
                      replace X2 := dcarry_cell bN X2
                      replace bw := nbelow_trans bw bN
                      clear bN hOz HNz
                      try simp only [Act.put, List.setIfInBounds_toArray, List.set_cons_zero, List.set_cons_succ]
                      refine wpAnyH_ready (rs := [7]) (by kernel_rfl) (by simp) ?_
                      refine AllReadyH.cons rfl (fun KK hK => ?_) (AllReadyH.nil)
                      go_simp
                      have bS : Below wS.heap.size wS (((v11.setCell ⟨v1.heap.size, 0, none⟩ (.bool (lowU ((M : Int) * (len : Int)) 101).1)).setCell ⟨v1.heap.size, 1, none⟩ (.slice az nz cz)).setCell ⟨v1.heap.size, 2, none⟩ (.int .i64 (lowU ((M : Int) * (len : Int)) 101).2.2)) := ((bw.setCell XL _).setCell XL _).setCell XL _
                      refine hK.out _ _ bS (fun _ => ?_)
                      clear hK KK
                      replace Iz := isW_at (isW_at (isW_at Iz ⟨v1.heap.size, 0, none⟩ (.bool (lowU ((M : Int) * (len : Int)) 101).1) (fun b off i e hi => by first | exact HX.out b off i e hi | (have := Hw.out b off i e hi; exact Nat.ne_of_gt this))) ⟨v1.heap.size, 1, none⟩ (.slice az nz cz) (fun b off i e hi => by first | exact HX.out b off i e hi | (have := Hw.out b off i e hi; exact Nat.ne_of_gt this))) ⟨v1.heap.size, 2, none⟩ (.int .i64 (lowU ((M : Int) * (len : Int)) 101).2.2) (fun b off i e hi => by first | exact HX.out b off i e hi | (have := Hw.out b off i e hi; exact Nat.ne_of_gt this))
                      have Z0 : (((v11.setCell ⟨v1.heap.size, 0, none⟩ (.bool (lowU ((M : Int) * (len : Int)) 101).1)).setCell ⟨v1.heap.size, 1, none⟩ (.slice az nz cz)).setCell ⟨v1.heap.size, 2, none⟩ (.int .i64 (lowU ((M : Int) * (len : Int)) 101).2.2)).cell? ⟨v1.heap.size, 0, none⟩ = some (.bool (lowU ((M : Int) * (len : Int)) 101).1) := by go_simp
                      have Z1 : (((v11.setCell ⟨v1.heap.size, 0, none⟩ (.bool (lowU ((M : Int) * (len : Int)) 101).1)).setCell ⟨v1.heap.size, 1, none⟩ (.slice az nz cz)).setCell ⟨v1.heap.size, 2, none⟩ (.int .i64 (lowU ((M : Int) * (len : Int)) 101).2.2)).cell? ⟨v1.heap.size, 1, none⟩ = some (.slice az nz cz) := by go_simp
                      have Z2 : (((v11.setCell ⟨v1.heap.size, 0, none⟩ (.bool (lowU ((M : Int) * (len : Int)) 101).1)).setCell ⟨v1.heap.size, 1, none⟩ (.slice az nz cz)).setCell ⟨v1.heap.size, 2, none⟩ (.int .i64 (lowU ((M : Int) * (len : Int)) 101).2.2)).cell? ⟨v1.heap.size, 2, none⟩ = some (.int .i64 (lowU ((M : Int) * (len : Int)) 101).2.2) := by go_simp
                      clear X0 X1 X2 X3 X4 X5 bw XZ XL
                      try simp only [Act.put, List.setIfInBounds_toArray, List.set_cons_zero, List.set_cons_succ]
                      generalize (((v11.setCell ⟨v1.heap.size, 0, none⟩ (.bool (lowU ((M : Int) * (len : Int)) 101).1)).setCell ⟨v1.heap.size, 1, none⟩ (.slice az nz cz)).setCell ⟨v1.heap.size, 2, none⟩ (.int .i64 (lowU ((M : Int) * (len : Int)) 101).2.2)) = v12 at *
                      have X0 := Z0
                      have X1 := Z1
                      have X2 := Z2
                      have bw := bS
                      clear Z0 Z1 Z2 bS
                      refine wpAnyH_done (by kernel_rfl) ?_ _
                      go_wp2_with fail
                      go_meet
                      exact ⟨_, _, _, _, rfl, X0, X1, X2, Iz, bw⟩
                  · go_simp
                    refine hK.out _ _ (bl_alloc bw _) (fun _ => ?_)
                    clear hK KK
                    have bN := below_one wd (.cells #[.bool false, .slice none 0 0, .int .i64 0] 34)
                    obtain ⟨X0, X1, X2, X3, X4, X5⟩ := zero_dy (w := wd) (r := wd.heap.size) (W' := wd.alloc (.cells #[.bool false, .slice none 0 0, .int .i64 0] 34)) (Below.refl _ _) rfl
                    have XL : wS.heap.size ≤ wd.heap.size := bw.size
                    have XZ : Hid ((wd.alloc (.cells #[.bool false, .slice none 0 0, .int .i64 0] 34)).heap.size = wd.heap.size + 1) := by rw [Hid]; simp
                    replace bw := bl_alloc bw (.cells #[.bool false, .slice none 0 0, .int .i64 0] 34)
                    clear bN
                    try simp only [Act.put, List.setIfInBounds_toArray, List.set_cons_zero, List.set_cons_succ]
                    generalize wd.alloc (.cells #[.bool false, .slice none 0 0, .int .i64 0] 34) = v13 at *
                    refine wpAnyH_ready (rs := [3]) (by kernel_rfl) (by simp) ?_
                    refine AllReadyH.cons rfl (fun KK hK => ?_) (AllReadyH.nil)
                    go_simp
                    refine Calls.mono (qint_calls (len : Int) (by omega) _) ?_
                    rintro r v14 ⟨_, rfl, ⟨ai, ni, ci, rfl, HNi, hOi⟩, bN⟩
                    refine hK.out _ _ (nbelow_trans bw bN) (fun _ => ?_)
                    clear hK KK
                    have Ii := hOi.1
                    replace X3 := dcarry_frozen bN X0 X3
                    replace X4 := dcarry_frozen bN X1 X4
                    replace X5 := dcarry_frozen bN X2 X5
                    replace X0 := dcarry_cell bN X0
                    replace X1 := dcarry_cell bN X1
                    replace X2 := dcarry_cell bN X2
                    replace bw := nbelow_trans bw bN
                    clear bN hOi HNi
                    try simp only [Act.put, List.setIfInBounds_toArray, List.set_cons_zero, List.set_cons_succ]
                    refine wpAnyH_ready (rs := [4]) (by kernel_rfl) (by simp) ?_
                    refine AllReadyH.cons rfl (fun KK hK => ?_) (AllReadyH.nil)
                    go_simp
                    refine Calls.mono (utimesn_calls (M : Int) len K (by rw [Int.natAbs_natCast]; exact HBD.out.2.2.2.2) (by omega) (by omega) a6 ai n6 c6 ni ci _ (J6.keep bw) Ii) ?_
                    rintro r v15 ⟨_, rfl, ⟨au, nu, cu, rfl, HNu, hOu⟩, bN⟩
                    refine hK.out _ _ (nbelow_trans bw bN) (fun _ => ?_)
                    clear hK KK
                    have Iu := hOu.1
                    replace X3 := dcarry_frozen bN X0 X3
                    replace X4 := dcarry_frozen bN X1 X4
                    replace X5 := dcarry_frozen bN X2 X5
                    replace X0 := dcarry_cell bN X0
                    replace X1 := dcarry_cell bN X1
                    replace X2 := dcarry_cell bN X2
                    replace bw := nbelow_trans bw bN
                    clear bN hOu HNu
                    try simp only [Act.put, List.setIfInBounds_toArray, List.set_cons_zero, List.set_cons_succ]
                    refine wpAnyH_ready (rs := [5]) (by kernel_rfl) (by simp) ?_
                    refine AllReadyH.cons rfl (fun KK hK => ?_) (AllReadyH.nil)
                    go_simp
                    refine Calls.mono (utwice_calls ((M : Int) * (len : Int)) 101 K (-101) (by decide) (by decide) HBD.out.2.2.2.1 (by omega) au nu cu _ Iu) ?_
                    rintro r v16 ⟨_, rfl, ⟨az, nz, cz, rfl, HNz, hOz⟩, bN⟩
                    refine hK.out _ _ (nbelow_trans bw bN) (fun _ => ?_)
                    clear hK KK
                    have Iz := hOz.1
                    have Hw0 : Hid (∀ b off i, az = some ⟨b, off, none⟩ → i < nz → b < v16.heap.size) := fun b off i e hi => by
                      obtain ⟨b2, off2, q1, q2, -⟩ := Iz.2.2.2 i hi
                      rw [e] at q1
                      cases q1
                      exact q2
                    have HX : Hid (∀ b off i, az = some ⟨b, off, none⟩ → i < nz → wd.heap.size ≠ b) := fun b off i e hi => by
                      have h1 := (hOz.2 b off i e hi).1
                      have h2 : wd.heap.size < v15.heap.size := World.block_lt_of_cell? _ _ X0
                      omega
                    replace X3 := dcarry_frozen bN X0 X3
                    replace X4 := dcarry_frozen bN X1 X4
                    replace X5 := dcarry_frozen bN X2 X5
                    replace X0 := dcarry_cell bN X0
                    replace X1 := dcarry_cell bN X1
                    replace X2 := dcarry_cell bN X2
                    replace bw := nbelow_trans bw bN
                    clear bN hOz HNz
                    try simp only [Act.put, List.setIfInBounds_toArray, List.set_cons_zero, List.set_cons_succ]
                    refine wpAnyH_ready (rs := [7]) (by kernel_rfl) (by simp) ?_
                    refine AllReadyH.cons rfl (fun KK hK => ?_) (AllReadyH.nil)
                    go_simp
                    have bS : Below wS.heap.size wS (((v16.setCell ⟨wd.heap.size, 0, none⟩ (.bool (lowU ((M : Int) * (len : Int)) 101).1)).setCell ⟨wd.heap.size, 1, none⟩ (.slice az nz cz)).setCell ⟨wd.heap.size, 2, none⟩ (.int .i64 (lowU ((M : Int) * (len : Int)) 101).2.2)) := ((bw.setCell XL _).setCell XL _).setCell XL _
                    refine hK.out _ _ bS (fun _ => ?_)
                    clear hK KK
                    replace Iz := isW_at (isW_at (isW_at Iz ⟨wd.heap.size, 0, none⟩ (.bool (lowU ((M : Int) * (len : Int)) 101).1) (fun b off i e hi => by first | exact HX.out b off i e hi | (have := Hw.out b off i e hi; exact Nat.ne_of_gt this))) ⟨wd.heap.size, 1, none⟩ (.slice az nz cz) (fun b off i e hi => by first | exact HX.out b off i e hi | (have := Hw.out b off i e hi; exact Nat.ne_of_gt this))) ⟨wd.heap.size, 2, none⟩ (.int .i64 (lowU ((M : Int) * (len : Int)) 101).2.2) (fun b off i e hi => by first | exact HX.out b off i e hi | (have := Hw.out b off i e hi; exact Nat.ne_of_gt this))
                    have Z0 : (((v16.setCell ⟨wd.heap.size, 0, none⟩ (.bool (lowU ((M : Int) * (len : Int)) 101).1)).setCell ⟨wd.heap.size, 1, none⟩ (.slice az nz cz)).setCell ⟨wd.heap.size, 2, none⟩ (.int .i64 (lowU ((M : Int) * (len : Int)) 101).2.2)).cell? ⟨wd.heap.size, 0, none⟩ = some (.bool (lowU ((M : Int) * (len : Int)) 101).1) := by go_simp
                    have Z1 : (((v16.setCell ⟨wd.heap.size, 0, none⟩ (.bool (lowU ((M : Int) * (len : Int)) 101).1)).setCell ⟨wd.heap.size, 1, none⟩ (.slice az nz cz)).setCell ⟨wd.heap.size, 2, none⟩ (.int .i64 (lowU ((M : Int) * (len : Int)) 101).2.2)).cell? ⟨wd.heap.size, 1, none⟩ = some (.slice az nz cz) := by go_simp
                    have Z2 : (((v16.setCell ⟨wd.heap.size, 0, none⟩ (.bool (lowU ((M : Int) * (len : Int)) 101).1)).setCell ⟨wd.heap.size, 1, none⟩ (.slice az nz cz)).setCell ⟨wd.heap.size, 2, none⟩ (.int .i64 (lowU ((M : Int) * (len : Int)) 101).2.2)).cell? ⟨wd.heap.size, 2, none⟩ = some (.int .i64 (lowU ((M : Int) * (len : Int)) 101).2.2) := by go_simp
                    clear X0 X1 X2 X3 X4 X5 bw XZ XL
                    try simp only [Act.put, List.setIfInBounds_toArray, List.set_cons_zero, List.set_cons_succ]
                    generalize (((v16.setCell ⟨wd.heap.size, 0, none⟩ (.bool (lowU ((M : Int) * (len : Int)) 101).1)).setCell ⟨wd.heap.size, 1, none⟩ (.slice az nz cz)).setCell ⟨wd.heap.size, 2, none⟩ (.int .i64 (lowU ((M : Int) * (len : Int)) 101).2.2)) = v17 at *
                    have X0 := Z0
                    have X1 := Z1
                    have X2 := Z2
                    have bw := bS
                    clear Z0 Z1 Z2 bS
                    refine wpAnyH_done (by kernel_rfl) ?_ _
                    go_wp2_with fail
                    go_meet
                    exact ⟨_, _, _, _, rfl, X0, X1, X2, Iz, bw⟩
                case rest =>
                  obtain ⟨X, ao, nx, cx, rfl, X0, X1, X2, IX, bX⟩ := hcut
                  replace z0 := dcarry_cell bX z0
                  replace z1 := dcarry_cell bX z1
                  replace z2 := dcarry_cell bX z2
                  replace J1' := J1'.keep bX
                  replace bF := nbelow_trans bF bX
                  go_wp2_with fail
                  refine Calls.mono (uorder_calls D ((M : Int) * (len : Int)) 101 K (by decide) HBD.out.2.1 HBD.out.2.2.2.1 (Int.mul_nonneg (Int.natCast_nonneg _) (Int.natCast_nonneg _)) (by omega) a1 ao n1 c1 nx cx _ J1' IX HBD.out.2.2.1) ?_
                  rintro r wz ⟨C, rfl, hC, bz⟩
                  have hCd : decide (C ≤ 0) = true := by simpa using hC
                  go_wp2_with fail
                  go_ret
                  exact ⟨by simp, nbelow_trans bF bz⟩
end Go.Proofs.YtjapgogiaklodaaGreatDoor

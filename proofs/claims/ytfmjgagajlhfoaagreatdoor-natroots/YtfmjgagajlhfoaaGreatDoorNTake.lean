/- The walk of takeTimes: a row of words less another times a word. -/
import Derived.Test.YtfmjgagajlhfoaaGreatDoorNMul2
namespace Go.Proofs.YtfmjgagajlhfoaaGreatDoor
open Go.RowKit

theorem take_words (y d c t : Nat) (hy : y < 18446744073709551616) (hd : d < 18446744073709551616) (ht : t < 18446744073709551616) (hc : c < 18446744073709551616) :
    dif t (pL (mL y d) c) 0 + (y * d + c) = t + 18446744073709551616 * (pH (mL y d) (mH y d) c + bor t (pL (mL y d) c) 0) ∧ pH (mL y d) (mH y d) c + bor t (pL (mL y d) c) 0 < 18446744073709551616 := by
  have h1 : y * d ≤ 18446744073709551615 * 18446744073709551615 := Nat.mul_le_mul (by omega) (by omega)
  have h2 := dif_spec t (pL (mL y d) c) 0 ht (pL_lt _ _) (by decide)
  have h3 := dif_lt t (pL (mL y d) c) 0
  have h4 := bor_le t (pL (mL y d) c) 0
  generalize dif t (pL (mL y d) c) 0 = x at *
  generalize bor t (pL (mL y d) c) 0 = b at *
  unfold pL pH mL mH at *
  generalize y * d = p at *
  omega
theorem takeTimes_step (S0 S ys : List Int) (k d t y c lo hi : Nat) (hk : k < S.length) (ht : S0.getD k 0 = (t : Int)) (hy : ys.getD k 0 = (y : Int))
    (hv : low S k + d * low ys k = low S0 k + 18446744073709551616 ^ k * c) (hw : lo + (y * d + c) = t + 18446744073709551616 * hi) :
    low (S.set k (lo : Int)) (k + 1) + d * low ys (k + 1) = low S0 (k + 1) + 18446744073709551616 ^ (k + 1) * hi := by
  have e1 : low (S.set k (lo : Int)) (k + 1) = low S k + 18446744073709551616 ^ k * lo := by
    show low (S.set k (lo : Int)) k + _ * ((S.set k (lo : Int)).getD k 0).toNat = _
    rw [low_set S k _ k (Nat.le_refl _), getD_set S k k _ hk, if_pos rfl, Int.toNat_natCast]
  have e2 : low S0 (k + 1) = low S0 k + 18446744073709551616 ^ k * t := by show low S0 k + _ * (S0.getD k 0).toNat = _; rw [ht, Int.toNat_natCast]
  have e3 : low ys (k + 1) = low ys k + 18446744073709551616 ^ k * y := by show low ys k + _ * (ys.getD k 0).toNat = _; rw [hy, Int.toNat_natCast]
  have e4 := congrArg (18446744073709551616 ^ k * ·) hw
  simp only [Nat.mul_add] at e4
  have e5 : d * (18446744073709551616 ^ k * y) = 18446744073709551616 ^ k * (y * d) := by rw [Nat.mul_left_comm, Nat.mul_comm d y]
  rw [e1, e2, e3, Nat.mul_add, e5, Nat.pow_succ, Nat.mul_assoc]
  omega

set_option maxRecDepth 100000 in
set_option maxHeartbeats 8000000 in
theorem takeTimes_calls (B g off n c m : Nat) (b : Option Addr) (S0 ys : List Int) (d : Nat) (w : World) (h : OwnW B w (some ⟨g, off, none⟩) n c S0) (hB : IsW w b n m ys) (hbg : ∀ b' o, b = some ⟨b', o, none⟩ → b' ≠ g) (hn : n ≤ 17592186044416) (hd : d < 18446744073709551616) :
    Calls Tryz.prog 86 #[.slice (some ⟨g, off, none⟩) n c, .slice b n m, .int .u64 (d : Int)] w fun e w' => ∃ (S : List Int) (cr : Nat), e = .returned (.int .u64 (cr : Int)) ∧ cr < 18446744073709551616 ∧ OwnW B w' (some ⟨g, off, none⟩) n c S ∧ val S + d * val ys = val S0 + 18446744073709551616 ^ n * cr ∧ Upd g off n w w' := by
  have HL : Hid (S0.length = n ∧ ys.length = n) := ⟨h.1.1.symm, hB.1.symm⟩
  have HU0 : Hid (AllU S0) := h.1.2.1
  have HBG : Hid (∀ b' o, b = some ⟨b', o, none⟩ → b' ≠ g) := hbg
  have HB : Hid (IsW w b n m ys) := hB
  clear hbg hB
  go_enter Tryz.func86, Tryz.ntmps86
  go_wp2_with fail
  go_loopw [7, 14] (fun vc vi wr => ∃ (k cr : Nat) (S : List Int), k ≤ n ∧ vi = .int .i64 k ∧ vc = .int .u64 (cr : Int) ∧ cr < 18446744073709551616 ∧ Hid (∀ j, k ≤ j → S.getD j 0 = S0.getD j 0) ∧ Hid (low S k + d * low ys k = low S0 k + 18446744073709551616 ^ k * cr) ∧ OwnW B wr (some ⟨g, off, none⟩) n c S ∧ Upd g off n w wr) (fun _ vi _ => n - (intOf vi).toNat)
  case atStart => exact ⟨0, 0, S0, by omega, rfl, rfl, by decide, fun _ _ => rfl, by simp [Hid, low], h, Upd.refl _ _ _ _⟩
  case round =>
    clear h
    obtain ⟨k, cr, S, hk, rfl, rfl, hcr, HS, HV, hO, hup⟩ := hrel
    have HSL : Hid (S.length = n) := hO.1.1.symm
    by_cases hlt : k < n
    · obtain ⟨b', o', hbe, hbl, hcy⟩ := HB.out.2.2.2 k hlt
      have hbne := HBG.out b' o' hbe
      obtain ⟨y, hy, hy1⟩ := word_nat0 ys HB.out.2.1 k
      have hcy2 : wr.cell? ⟨b', o' + k, none⟩ = some (.int .u64 (y : Int)) := by
        rw [← hy]; exact hup.grown.cell hcy (fun e => hbne (by simpa using e))
      obtain ⟨t, ht, ht1⟩ := word_nat0 S0 HU0.out k
      obtain ⟨_, _, e1, hgl, hcell⟩ := hO.1.2.2.2 k hlt
      simp only [Option.some.injEq, Addr.mk.injEq, and_true] at e1
      obtain ⟨rfl, rfl⟩ := e1
      rw [HS.out k (Nat.le_refl _), ht] at hcell
      have hfz := (hO.2 _ _ k rfl hlt).2
      subst hbe
      have HMA : Hid _ := take_words y d cr t hy1 hd ht1 hcr
      have HY : Hid (ys.getD k 0 = (y : Int)) := hy
      have HT : Hid (S0.getD k 0 = (t : Int)) := ht
      clear hcy hy ht
      have hgne : g ≠ wr.heap.size := Nat.ne_of_lt hgl
      go_wp2_with fail
      refine Calls.mono (product_calls y d _ hy1 hd) ?_
      rintro e w2 ⟨rfl, rfl⟩
      go_wp2_with fail
      refine Calls.mono (pairPlus_calls _ _ _ _) ?_
      rintro e w3 ⟨rfl, rfl⟩
      have hlo := pL_lt (mL y d) cr
      have hhi := pH_lt (mL y d) (mH y d) cr
      go_wp2_with fail
      refine gen_world (fun W => Below wr.heap.size wr W ∧ W.cell? ⟨wr.heap.size + 1 + 1 + 1, 0, none⟩ = some (.int .u64 (pL (mL y d) cr : Nat)) ∧ W.cell? ⟨wr.heap.size + 1 + 1 + 1, 1, none⟩ = some (.int .u64 (pH (mL y d) (mH y d) cr : Nat))) (And.intro ?_ (And.intro ?_ ?_)) ?_
      rotate_left
      · go_simp
      · go_simp
      rotate_left
      · repeat (first | exact Below.refl _ _ | exact (Below.refl _ _).drew | apply Below.drew | refine Below.setCell ?_ (by simp) _ | refine Below.alloc ?_ (by simp; try omega) _)
      rintro W5 ⟨hbE, hp0, hp1⟩
      have hpb : wr.heap.size + 1 + 1 + 1 ≠ g := by omega
      generalize wr.heap.size + 1 + 1 + 1 = pb at *
      have hcE := carry_cell hbE hcell
      have hfE := carry_frozen hbE hcell hfz
      have hr : ∀ w, (callFunc 78 #[.int .u64 (t : Int), .int .u64 (pL (mL y d) cr : Nat), .int .u64 0]).run Tryz.prog w = .ok (.value (.tuple #[.int .u64 (dif t (pL (mL y d) cr) 0 : Nat), .int .u64 (bor t (pL (mL y d) cr) 0 : Nat)])) w := fun w => sub64_run t (pL (mL y d) cr) 0 (by decide) w
      have hdl := dif_lt t (pL (mL y d) cr) 0
      have hbo := bor_le t (pL (mL y d) cr) 0
      obtain ⟨cr2, hcr2⟩ : ∃ c, c = pH (mL y d) (mH y d) cr + bor t (pL (mL y d) cr) 0 := ⟨_, rfl⟩
      have q3 : IntKind.u64.wrap ((pH (mL y d) (mH y d) cr : Nat) + (bor t (pL (mL y d) cr) 0 : Nat) : Int) = (cr2 : Int) := by
        have := HMA.out.2
        rw [hcr2, IntKind.wrap_u64]; omega
      rw [← hcr2] at HMA
      have hcb := HMA.out.2
      clear hcr2
      generalize pL (mL y d) cr = plo at *
      generalize pH (mL y d) (mH y d) cr = phi at *
      generalize dif t plo 0 = lo at *
      generalize bor t plo 0 = bo at *
      go_region
      all_goals
       have hO6 := (hO.keep hbE.drew).set (i := k) hlt (v := (lo : Int)) (by omega) (by omega)
       have hup6 := (hup.below hgl hbE.drew).set hlt (.int .u64 (lo : Int))
       go_wp2_with fail
       refine ⟨⟨k + 1, cr2, S.set k (lo : Int), by omega, by go_num, rfl, hcb, ?_, ?_, hO6, hup6⟩, by simp [intOf]; omega⟩
       · intro j hj
         have := HSL.out
         rw [getD_set _ _ _ _ (by omega), if_neg (by omega)]; exact HS.out j (by omega)
       · have := HSL.out
         exact takeTimes_step S0 S ys k d t y cr lo cr2 (by omega) HT.out HY.out HV.out HMA.out.1
    · have HE : Hid (val S + d * val ys = val S0 + 18446744073709551616 ^ n * cr) := by
        have e := HV.out
        have h1 := HL.out; have h2 := HSL.out
        obtain rfl : k = n := by omega
        rw [low_all S k (by omega), low_all S0 k (by omega), low_all ys k (by omega)] at e
        exact e
      go_wp2_with fail
      go_ret
      exact ⟨S, cr, rfl, hcr, hO, HE.out, hup⟩
end Go.Proofs.YtfmjgagajlhfoaaGreatDoor

/- The walk of takeTimes: a row of words less another times a word. The walks of quotientOfTop and above; what guess reckons, in numbers alone. The walk of guess: what the two top words of a divisor tell. Plain facts on long division: what is guessed of a quotient's word, what is taken off, what is left. The walk of takeOften: a divisor taken off as often as it goes. The walk of long division. The calls of package nat where what they come to is known: the answers' slices, read. -/
import Derived.Test.YtkkldnnndlpblaaGreatDoorTMC
import Derived.Test.YtkkldnnndlpblaaGreatDoorTMD
import Derived.Deep.LoopGhost
import Derived.Deep.RegionWith
import Derived.Deep.RegionHeld3
import Derived.Deep.DrawnRows

namespace Go.Proofs.YtkkldnnndlpblaaGreatDoor
open Go.RowKit

theorem take_words (y d c t : Nat) (hy : y < 18446744073709551616) (hd : d < 18446744073709551616) (ht : t < 18446744073709551616) (hc : c < 18446744073709551616) :
    dif t (pL (mL y d) c) 0 + (y * d + c) = t + 18446744073709551616 * (pH (mL y d) (mH y d) c + bor t (pL (mL y d) c) 0) ∧ pH (mL y d) (mH y d) c + bor t (pL (mL y d) c) 0 < 18446744073709551616 := by
  have h1 : y * d ≤ 18446744073709551615 * 18446744073709551615 := Nat.mul_le_mul (by omega) (by omega)
  have h2 := dif_spec t (pL (mL y d) c) 0 ht (pL_lt _ _) (by decide)
  have h3 := dif_lt t (pL (mL y d) c) 0
  have h4 := bor_le t (pL (mL y d) c) 0
  generalize dif t (pL (mL y d) c) 0 = x at *
  generalize bor t (pL (mL y d) c) 0 = b at *
  unfold pL pH mL mH at *
  generalize y * d = p at *
  omega

theorem takeTimes_step (S0 S ys : List Int) (k d t y c lo hi : Nat) (hk : k < S.length) (ht : S0.getD k 0 = (t : Int)) (hy : ys.getD k 0 = (y : Int))
    (hv : low S k + d * low ys k = low S0 k + 18446744073709551616 ^ k * c) (hw : lo + (y * d + c) = t + 18446744073709551616 * hi) :
    low (S.set k (lo : Int)) (k + 1) + d * low ys (k + 1) = low S0 (k + 1) + 18446744073709551616 ^ (k + 1) * hi := by
  have e1 : low (S.set k (lo : Int)) (k + 1) = low S k + 18446744073709551616 ^ k * lo := by
    show low (S.set k (lo : Int)) k + _ * ((S.set k (lo : Int)).getD k 0).toNat = _
    rw [low_set S k _ k (Nat.le_refl _), getD_set S k k _ hk, if_pos rfl, Int.toNat_natCast]
  have e2 : low S0 (k + 1) = low S0 k + 18446744073709551616 ^ k * t := by show low S0 k + _ * (S0.getD k 0).toNat = _; rw [ht, Int.toNat_natCast]
  have e3 : low ys (k + 1) = low ys k + 18446744073709551616 ^ k * y := by show low ys k + _ * (ys.getD k 0).toNat = _; rw [hy, Int.toNat_natCast]
  have e4 := congrArg (18446744073709551616 ^ k * ·) hw
  simp only [Nat.mul_add] at e4
  have e5 : d * (18446744073709551616 ^ k * y) = 18446744073709551616 ^ k * (y * d) := by rw [Nat.mul_left_comm, Nat.mul_comm d y]
  rw [e1, e2, e3, Nat.mul_add, e5, Nat.pow_succ, Nat.mul_assoc]
  omega

set_option maxRecDepth 100000 in
set_option maxHeartbeats 8000000 in
theorem takeTimes_calls (B g off n c m : Nat) (b : Option Addr) (S0 ys : List Int) (d : Nat) (w : World) (h : OwnW B w (some ⟨g, off, none⟩) n c S0) (hB : IsW w b n m ys) (hbg : ∀ b' o, b = some ⟨b', o, none⟩ → b' ≠ g) (hn : n ≤ 17592186044416) (hd : d < 18446744073709551616) :
    Calls Tryz.prog 191 #[.slice (some ⟨g, off, none⟩) n c, .slice b n m, .int .u64 (d : Int)] w fun e w' => ∃ (S : List Int) (cr : Nat), e = .returned (.int .u64 (cr : Int)) ∧ cr < 18446744073709551616 ∧ OwnW B w' (some ⟨g, off, none⟩) n c S ∧ val S + d * val ys = val S0 + 18446744073709551616 ^ n * cr ∧ Upd g off n w w' := by
  have HL : Hid (S0.length = n ∧ ys.length = n) := ⟨h.1.1.symm, hB.1.symm⟩
  have HU0 : Hid (AllU S0) := h.1.2.1
  have HBG : Hid (∀ b' o, b = some ⟨b', o, none⟩ → b' ≠ g) := hbg
  have HB : Hid (IsW w b n m ys) := hB
  clear hbg hB
  go_enter Tryz.func191, Tryz.ntmps191
  go_wp2_with fail
  go_loopw [7, 14] (fun vc vi wr => ∃ (k cr : Nat) (S : List Int), k ≤ n ∧ vi = .int .i64 k ∧ vc = .int .u64 (cr : Int) ∧ cr < 18446744073709551616 ∧ Hid (∀ j, k ≤ j → S.getD j 0 = S0.getD j 0) ∧ Hid (low S k + d * low ys k = low S0 k + 18446744073709551616 ^ k * cr) ∧ OwnW B wr (some ⟨g, off, none⟩) n c S ∧ Upd g off n w wr) (fun _ vi _ => n - (intOf vi).toNat)
  case atStart => exact ⟨0, 0, S0, by omega, rfl, rfl, by decide, fun _ _ => rfl, by simp [Hid, low], h, Upd.refl _ _ _ _⟩
  case round =>
    clear h
    obtain ⟨k, cr, S, hk, rfl, rfl, hcr, HS, HV, hO, hup⟩ := hrel
    have HSL : Hid (S.length = n) := hO.1.1.symm
    by_cases hlt : k < n
    · obtain ⟨b', o', hbe, hbl, hcy⟩ := HB.out.2.2.2 k hlt
      have hbne := HBG.out b' o' hbe
      obtain ⟨y, hy, hy1⟩ := word_nat0 ys HB.out.2.1 k
      have hcy2 : wr.cell? ⟨b', o' + k, none⟩ = some (.int .u64 (y : Int)) := by
        rw [← hy]; exact hup.grown.cell hcy (fun e => hbne (by simpa using e))
      obtain ⟨t, ht, ht1⟩ := word_nat0 S0 HU0.out k
      obtain ⟨_, _, e1, hgl, hcell⟩ := hO.1.2.2.2 k hlt
      simp only [Option.some.injEq, Addr.mk.injEq, and_true] at e1
      obtain ⟨rfl, rfl⟩ := e1
      rw [HS.out k (Nat.le_refl _), ht] at hcell
      have hfz := (hO.2 _ _ k rfl hlt).2
      subst hbe
      have HMA : Hid _ := take_words y d cr t hy1 hd ht1 hcr
      have HY : Hid (ys.getD k 0 = (y : Int)) := hy
      have HT : Hid (S0.getD k 0 = (t : Int)) := ht
      clear hcy hy ht
      have hgne : g ≠ wr.heap.size := Nat.ne_of_lt hgl
      go_wp2_with fail
      refine Calls.mono (product_calls y d _ hy1 hd) ?_
      rintro e w2 ⟨rfl, rfl⟩
      go_wp2_with fail
      refine Calls.mono (pairPlus_calls _ _ _ _) ?_
      rintro e w3 ⟨rfl, rfl⟩
      have hlo := pL_lt (mL y d) cr
      have hhi := pH_lt (mL y d) (mH y d) cr
      go_wp2_with fail
      refine gen_world (fun W => Below wr.heap.size wr W ∧ W.cell? ⟨wr.heap.size + 1 + 1 + 1, 0, none⟩ = some (.int .u64 (pL (mL y d) cr : Nat)) ∧ W.cell? ⟨wr.heap.size + 1 + 1 + 1, 1, none⟩ = some (.int .u64 (pH (mL y d) (mH y d) cr : Nat))) (And.intro ?_ (And.intro ?_ ?_)) ?_
      rotate_left
      · go_simp
      · go_simp
      rotate_left
      · repeat (first | exact Below.refl _ _ | exact (Below.refl _ _).drew | apply Below.drew | refine Below.setCell ?_ (by simp) _ | refine Below.alloc ?_ (by simp; try omega) _)
      rintro W5 ⟨hbE, hp0, hp1⟩
      have hpb : wr.heap.size + 1 + 1 + 1 ≠ g := by omega
      generalize wr.heap.size + 1 + 1 + 1 = pb at *
      have hcE := carry_cell hbE hcell
      have hfE := carry_frozen hbE hcell hfz
      have hr : ∀ w, (callFunc 184 #[.int .u64 (t : Int), .int .u64 (pL (mL y d) cr : Nat), .int .u64 0]).run Tryz.prog w = .ok (.value (.tuple #[.int .u64 (dif t (pL (mL y d) cr) 0 : Nat), .int .u64 (bor t (pL (mL y d) cr) 0 : Nat)])) w := fun w => sub64_run t (pL (mL y d) cr) 0 (by decide) w
      have hdl := dif_lt t (pL (mL y d) cr) 0
      have hbo := bor_le t (pL (mL y d) cr) 0
      obtain ⟨cr2, hcr2⟩ : ∃ c, c = pH (mL y d) (mH y d) cr + bor t (pL (mL y d) cr) 0 := ⟨_, rfl⟩
      have q3 : IntKind.u64.wrap ((pH (mL y d) (mH y d) cr : Nat) + (bor t (pL (mL y d) cr) 0 : Nat) : Int) = (cr2 : Int) := by
        have := HMA.out.2
        rw [hcr2, IntKind.wrap_u64]; omega
      rw [← hcr2] at HMA
      have hcb := HMA.out.2
      clear hcr2
      generalize pL (mL y d) cr = plo at *
      generalize pH (mL y d) (mH y d) cr = phi at *
      generalize dif t plo 0 = lo at *
      generalize bor t plo 0 = bo at *
      go_region
      all_goals
       have hO6 := (hO.keep hbE.drew).set (i := k) hlt (v := (lo : Int)) (by omega) (by omega)
       have hup6 := (hup.below hgl hbE.drew).set hlt (.int .u64 (lo : Int))
       go_wp2_with fail
       refine ⟨⟨k + 1, cr2, S.set k (lo : Int), by omega, by go_num, rfl, hcb, ?_, ?_, hO6, hup6⟩, by simp [intOf]; omega⟩
       · intro j hj
         have := HSL.out
         rw [getD_set _ _ _ _ (by omega), if_neg (by omega)]; exact HS.out j (by omega)
       · have := HSL.out
         exact takeTimes_step S0 S ys k d t y cr lo cr2 (by omega) HT.out HY.out HV.out HMA.out.1
    · have HE : Hid (val S + d * val ys = val S0 + 18446744073709551616 ^ n * cr) := by
        have e := HV.out
        have h1 := HL.out; have h2 := HSL.out
        obtain rfl : k = n := by omega
        rw [low_all S k (by omega), low_all S0 k (by omega), low_all ys k (by omega)] at e
        exact e
      go_wp2_with fail
      go_ret
      exact ⟨S, cr, rfl, hcr, hO, HE.out, hup⟩

end Go.Proofs.YtkkldnnndlpblaaGreatDoor

namespace Go.Proofs.YtkkldnnndlpblaaGreatDoor
open Go.RowKit

set_option maxHeartbeats 1000000 in
theorem above_calls (a b c d : Nat) (w : World) :
    Calls Tryz.prog 194 #[.agg #[.int .u64 (a : Int), .int .u64 (b : Int)], .agg #[.int .u64 (c : Int), .int .u64 (d : Int)]] w fun e w' => e = .returned (.bool (decide (d < b ∨ d = b ∧ c < a))) ∧ w' = (w.alloc (.cells #[.int .u64 (a : Int), .int .u64 (b : Int)] 206)).alloc (.cells #[.int .u64 (c : Int), .int .u64 (d : Int)] 206) := by
  rcases Nat.lt_trichotomy d b with q | q | q
  · have e0 : decide (d < b ∨ d = b ∧ c < a) = true := by simp [q]
    rw [e0]
    clear e0
    go_enter Tryz.func194, Tryz.ntmps194
    go_wp2
    go_ret
    exact ⟨rfl, rfl⟩
  · subst q
    have e0 : decide (d < d ∨ d = d ∧ c < a) = decide (c < a) := by simp
    rw [e0]
    clear e0
    by_cases q : c < a
    · rw [decide_eq_true q]
      go_enter Tryz.func194, Tryz.ntmps194
      go_wp2
      go_ret
      exact ⟨rfl, rfl⟩
    · rw [decide_eq_false q]
      go_enter Tryz.func194, Tryz.ntmps194
      go_wp2
      go_ret
      exact ⟨rfl, rfl⟩
  · have e0 : decide (d < b ∨ d = b ∧ c < a) = false := by simp; omega
    rw [e0]
    clear e0
    go_enter Tryz.func194, Tryz.ntmps194
    go_wp2
    go_ret
    refine ⟨?_, rfl⟩
    show Ending.returned (.bool (decide (d < b))) = _
    rw [decide_eq_false (by omega)]

set_option maxHeartbeats 1000000 in
theorem ntop_calls (hi lo top : Nat) (w : World) (h1 : hi ≤ top) (h2 : lo < 18446744073709551616) (h3 : top < 18446744073709551616) (h4 : 0 < top) :
    Calls Tryz.prog 193 #[.int .u64 (hi : Int), .int .u64 (lo : Int), .int .u64 (top : Int)] w fun e w' => ∃ q r b : Nat, e = .returned (.tuple #[.int .u64 (q : Int), .int .u64 (r : Int), .int .u64 (b : Int)]) ∧ Hid (q * top + (r + 18446744073709551616 * b) = hi * 18446744073709551616 + lo) ∧ q < 18446744073709551616 ∧ r < 18446744073709551616 ∧ b ≤ 1 ∧ Hid (q = 18446744073709551615 ∨ b = 0 ∧ r < top) ∧ Below w.heap.size w w' := by
  by_cases he : hi = top
  · subst he
    have hr : ∀ w, (callFunc 185 #[.int .u64 (lo : Int), .int .u64 (hi : Int), .int .u64 0]).run Tryz.prog w = .ok (.value (.tuple #[.int .u64 (((lo + hi) % 18446744073709551616 : Nat) : Int), .int .u64 (((lo + hi) / 18446744073709551616 : Nat) : Int)])) w := fun w => add64_run lo hi 0 (by decide) w
    obtain ⟨r, hr1⟩ : ∃ r, r = (lo + hi) % 18446744073709551616 := ⟨_, rfl⟩
    obtain ⟨b, hb1⟩ : ∃ b, b = (lo + hi) / 18446744073709551616 := ⟨_, rfl⟩
    rw [← hr1, ← hb1] at hr
    have HF : Hid (18446744073709551615 * hi + (r + 18446744073709551616 * b) = hi * 18446744073709551616 + lo ∧ r < 18446744073709551616 ∧ b ≤ 1) := by rw [Hid]; omega
    clear hr1 hb1
    go_enter Tryz.func193, Tryz.ntmps193
    go_wp2
    go_ret3
    exact ⟨18446744073709551615, r, b, rfl, HF.out.1, by decide, HF.out.2.1, HF.out.2.2, Or.inl rfl, Below.refl _ _⟩
  · have hne : ((hi : Int) == (top : Int)) = false := by simp; omega
    have DC : Hid _ := div64_calls hi lo top w h2 h3 (by omega)
    obtain ⟨q, hq1⟩ : ∃ q, q = (hi * 18446744073709551616 + lo) / top := ⟨_, rfl⟩
    obtain ⟨r, hr1⟩ : ∃ r, r = (hi * 18446744073709551616 + lo) % top := ⟨_, rfl⟩
    rw [← hr1, ← hq1] at DC
    have HF : Hid (q * top + (r + 18446744073709551616 * 0) = hi * 18446744073709551616 + lo ∧ q < 18446744073709551616 ∧ r < top) := by
      refine ⟨?_, ?_, ?_⟩
      · have := Nat.div_add_mod (hi * 18446744073709551616 + lo) top
        rw [← hq1, ← hr1, Nat.mul_comm top q] at this
        omega
      · rw [hq1, Nat.div_lt_iff_lt_mul h4]
        omega
      · rw [hr1]; exact Nat.mod_lt _ h4
    clear hr1 hq1
    go_enter Tryz.func193, Tryz.ntmps193
    go_wp2_with fail
    refine Calls.mono DC.out ?_
    rintro e w1 ⟨rfl, hb⟩
    go_wp2_with fail
    go_ret3
    exact ⟨q, r, 0, rfl, HF.out.1, HF.out.2.1, by have := HF.out.2.2; omega, by decide, Or.inr ⟨rfl, HF.out.2.2⟩, hb⟩

theorem guess_above (k next r an2 : Nat) (h : an2 < 18446744073709551616) : (r < mH k next ∨ r = mH k next ∧ an2 < mL k next) ↔ r * 18446744073709551616 + an2 < k * next := by
  unfold mH mL
  generalize k * next = p
  omega

/-- The top words of what is divided, and of the divisor. -/
def Top3 (an an1 an2 : Nat) : Nat := (an * 18446744073709551616 + an1) * 18446744073709551616 + an2

def Top2 (top next : Nat) : Nat := top * 18446744073709551616 + next

theorem gs_start {an an1 an2 top next q r b : Nat} (h2 : an2 < 18446744073709551616) (h : q * top + (r + 18446744073709551616 * b) = an * 18446744073709551616 + an1) (hq : q = 18446744073709551615 ∨ b = 0 ∧ r < top) :
    ∀ t, t < 18446744073709551616 → t * Top2 top next ≤ Top3 an an1 an2 → t ≤ q := by
  intro t ht hle
  rcases hq with hq | ⟨rfl, hr⟩
  · omega
  · unfold Top2 Top3 at hle
    rw [Nat.mul_add, ← Nat.mul_assoc, ← h] at hle
    rcases Nat.lt_or_ge q t with q1 | q1
    · have e1 : (q + 1) * top ≤ t * top := Nat.mul_le_mul_right _ q1
      rw [Nat.add_mul, Nat.one_mul] at e1
      generalize t * top = x at *
      generalize q * top = y at *
      generalize t * next = z at *
      omega
    · exact q1

theorem gs_down {an an1 an2 top next k r : Nat} (h : k * top + (r + 18446744073709551616 * 0) = an * 18446744073709551616 + an1)
    (hk : ∀ t, t < 18446744073709551616 → t * Top2 top next ≤ Top3 an an1 an2 → t ≤ k) (hgt : r * 18446744073709551616 + an2 < k * next) :
    0 < k ∧ ∀ t, t < 18446744073709551616 → t * Top2 top next ≤ Top3 an an1 an2 → t ≤ k - 1 := by
  have h0 : 0 < k := by
    rcases Nat.eq_zero_or_pos k with q | q
    · subst q; rw [Nat.zero_mul] at hgt; omega
    · exact q
  refine ⟨h0, fun t ht hle => ?_⟩
  have h1 := hk t ht hle
  rcases Nat.lt_or_ge t k with q | q
  · omega
  · obtain rfl : t = k := by omega
    unfold Top2 Top3 at hle
    rw [Nat.mul_add, ← Nat.mul_assoc, ← h] at hle
    generalize t * top = x at *
    generalize t * next = z at *
    omega

theorem gs_end {an an1 an2 top next k r b : Nat} (h : k * top + (r + 18446744073709551616 * b) = an * 18446744073709551616 + an1) (hle : ¬ (r + 18446744073709551616 * b) * 18446744073709551616 + an2 < k * next) :
    k * Top2 top next ≤ Top3 an an1 an2 := by
  unfold Top2 Top3
  rw [Nat.mul_add, ← Nat.mul_assoc, ← h]
  generalize k * top = x at *
  generalize k * next = z at *
  omega

end Go.Proofs.YtkkldnnndlpblaaGreatDoor

namespace Go.Proofs.YtkkldnnndlpblaaGreatDoor
open Go.RowKit

theorem wrapI_small (n : Nat) (h : n ≤ 9223372036854775807) : IntKind.i64.wrap (n : Int) = (n : Int) := by
  unfold IntKind.wrap
  simp [IntKind.bits, IntKind.signed]
  omega

attribute [local go_sem ↓] Go.wp_at_zero Go.wp_at_succ
set_option maxRecDepth 100000 in
set_option maxHeartbeats 4000000 in
theorem guess_calls (ga oa gb ob n n1 n2 na ca cb : Nat) (an an1 an2 top next : Nat) (w : World) (e1 : n = n1 + 1) (e2 : n1 = n2 + 1) (hna : na = n + 1) (hn : n ≤ 17592186044416)
    (h0 : w.cell? ⟨ga, oa + n, none⟩ = some (.int .u64 (an : Int))) (h1 : w.cell? ⟨ga, oa + n1, none⟩ = some (.int .u64 (an1 : Int))) (h2 : w.cell? ⟨ga, oa + n2, none⟩ = some (.int .u64 (an2 : Int)))
    (h3 : w.cell? ⟨gb, ob + n1, none⟩ = some (.int .u64 (top : Int))) (h4 : w.cell? ⟨gb, ob + n2, none⟩ = some (.int .u64 (next : Int)))
    (b1 : an1 < 18446744073709551616) (b2 : an2 < 18446744073709551616) (b3 : top < 18446744073709551616) (b4 : next < 18446744073709551616) (b5 : 0 < top) (b6 : an ≤ top) :
    Calls Tryz.prog 190 #[.slice (some ⟨ga, oa, none⟩) na ca, .slice (some ⟨gb, ob, none⟩) n cb] w fun e w' => ∃ k : Nat, e = .returned (.int .u64 (k : Int)) ∧ k < 18446744073709551616 ∧ Hid (k * Top2 top next ≤ Top3 an an1 an2) ∧ Hid (∀ t, t < 18446744073709551616 → t * Top2 top next ≤ Top3 an an1 an2 → t ≤ k) ∧ Below w.heap.size w w' := by
  have q1 : (n : Int) - 1 = (n1 : Int) := by omega
  have q2 : (n : Int) - 2 = (n2 : Int) := by omega
  have g1 : n1 < n := by omega
  have g2 : n2 < n := by omega
  have g3 : n < na := by omega
  have g4 : n1 < na := by omega
  have g5 : n2 < na := by omega
  have hw1 : IntKind.i64.wrap ((n : Int) - 1) = (n1 : Int) := by rw [q1]; exact wrapI_small _ (by omega)
  have hw2 : IntKind.i64.wrap ((n : Int) - 2) = (n2 : Int) := by rw [q2]; exact wrapI_small _ (by omega)
  have hw3 : IntKind.i64.wrap (n1 : Int) = (n1 : Int) := wrapI_small _ (by omega)
  have hw4 : IntKind.i64.wrap (n2 : Int) = (n2 : Int) := wrapI_small _ (by omega)
  have i1 : (n1 : Int) < (na : Int) := by omega
  have i2 : (n2 : Int) < (na : Int) := by omega
  have i3 : (n : Int) < (na : Int) := by omega
  have HE : Hid (n = n1 + 1 ∧ n1 = n2 + 1 ∧ na = n + 1) := ⟨e1, e2, hna⟩
  clear e1 e2 hna
  go_enter Tryz.func190, Tryz.ntmps190
  go_wp2_with fail
  go_region
  go_wp2_with fail
  go_region_with (go_at_call 193; refine (ntop_calls an an1 top _ b6 b1 b3 b5).mono ?_; rintro e w2 ⟨q, r, b, rfl, HQ, bq, br, bb, hor, hb⟩)
  all_goals go_wp2_with fail
  all_goals
    have hb3 : Below w.heap.size w w2 := ((Below.refl _ _).drew.drew).trans hb
    clear hb
    go_simp
    go_loopg [8, 9, 10] q (fun g vq vr vb wr => ∃ (r b : Nat), g < 18446744073709551616 ∧ vq = .int .u64 (g : Int) ∧ vr = .int .u64 (r : Int) ∧ vb = .int .u64 (b : Int) ∧ r < 18446744073709551616 ∧ b ≤ 1 ∧ Hid (g * top + (r + 18446744073709551616 * b) = an * 18446744073709551616 + an1) ∧ Hid (∀ t, t < 18446744073709551616 → t * Top2 top next ≤ Top3 an an1 an2 → t ≤ g) ∧ Below w.heap.size w wr)
    case atStart => exact ⟨r, b, bq, rfl, rfl, rfl, br, bb, HQ, gs_start b2 HQ.out hor.out, hb3⟩
    case round =>
      clear HQ hor bq br bb hb3
      obtain ⟨r, b, hk, rfl, rfl, rfl, hr, hb, HQ, HT, hbr⟩ := hrel
      have c2 := carry_cell hbr h2
      have hne := World.new_ne wr _ c2
      by_cases hb0 : b = 0
      · subst hb0
        by_cases hgt : r * 18446744073709551616 + an2 < gk * next
        · have hdn := gs_down HQ.out HT.out hgt
          have hd : decide (r < mH gk next ∨ r = mH gk next ∧ an2 < mL gk next) = true := decide_eq_true ((guess_above gk next r an2 b2).2 hgt)
          have HD : Hid (∀ t, t < 18446744073709551616 → t * Top2 top next ≤ Top3 an an1 an2 → t ≤ gk - 1) := hdn.2
          have hk0 := hdn.1
          have hr2 : ∀ w, (callFunc 185 #[.int .u64 (r : Int), .int .u64 (top : Int), .int .u64 0]).run Tryz.prog w = .ok (.value (.tuple #[.int .u64 (((r + top) % 18446744073709551616 : Nat) : Int), .int .u64 (((r + top) / 18446744073709551616 : Nat) : Int)])) w := fun w => add64_run r top 0 (by decide) w
          obtain ⟨r', hr1⟩ : ∃ r', r' = (r + top) % 18446744073709551616 := ⟨_, rfl⟩
          obtain ⟨b', hb1⟩ : ∃ b', b' = (r + top) / 18446744073709551616 := ⟨_, rfl⟩
          rw [← hr1, ← hb1] at hr2
          obtain ⟨k', hk'⟩ : ∃ k', gk = k' + 1 := ⟨gk - 1, by omega⟩
          have hkw : IntKind.u64.wrap ((gk : Int) - 1) = (k' : Int) := by rw [IntKind.wrap_u64]; omega
          have hb1' : b' ≤ 1 := by omega
          have hr1' : r' < 18446744073709551616 := by omega
          have HN : Hid (k' * top + (r' + 18446744073709551616 * b') = an * 18446744073709551616 + an1) := by
            have e := HQ.out
            rw [hk', Nat.add_mul, Nat.one_mul] at e
            rw [Hid]
            generalize k' * top = x at *
            omega
          have HK : Hid (gk = k' + 1) := hk'
          clear hdn hgt hr1 hb1 hk'
          go_wp2_with fail
          go_region_held3 (fun w' => w'.cell? ⟨ga, oa + n2, none⟩ = some (.int .u64 (an2 : Int))) (first | (go_keep; done) | (refine carry_cell (W := wr) ?_ c2; repeat (first | exact Below.refl _ _ | apply Below.drew | refine Below.alloc ?_ (by simp; try omega) _))) (first
            | (go_at_call 175; refine (product_calls gk next _ hk b4).mono ?_; rintro e w4 ⟨rfl, rfl⟩)
            | (go_at_call 194; refine (above_calls _ _ _ _ _).mono ?_; rintro e w5 ⟨rfl, rfl⟩; rw [hd]))
          all_goals
            go_wp2_with fail
            go_roundg k'
            case measure => have := HK.out; omega
            case rel => exact ⟨r', b', by have := HK.out; omega, rfl, rfl, rfl, hr1', hb1', HN, fun t ht hl => by have := HD.out t ht hl; have := HK.out; omega, by
              repeat (first | exact hbr | apply Below.drew | refine Below.alloc ?_ (by have := hbr.size; simp; omega) _)⟩
        · have hd : decide (r < mH gk next ∨ r = mH gk next ∧ an2 < mL gk next) = false := decide_eq_false (fun q => hgt ((guess_above gk next r an2 b2).1 q))
          have HX : Hid (gk * Top2 top next ≤ Top3 an an1 an2) := gs_end HQ.out (by simpa using hgt)
          clear hgt
          go_wp2_with fail
          go_region_held3 (fun w' => w'.cell? ⟨ga, oa + n2, none⟩ = some (.int .u64 (an2 : Int))) (first | (go_keep; done) | (refine carry_cell (W := wr) ?_ c2; repeat (first | exact Below.refl _ _ | apply Below.drew | refine Below.alloc ?_ (by simp; try omega) _))) (first
            | (go_at_call 175; refine (product_calls gk next _ hk b4).mono ?_; rintro e w4 ⟨rfl, rfl⟩)
            | (go_at_call 194; refine (above_calls _ _ _ _ _).mono ?_; rintro e w5 ⟨rfl, rfl⟩; rw [hd]))
          all_goals
            go_wp2_with fail
            go_ret
            exact ⟨gk, rfl, hk, HX, HT, by
              repeat (first | exact hbr | apply Below.drew | refine Below.alloc ?_ (by have := hbr.size; simp; omega) _)⟩
      · have hb1 : b = 1 := by omega
        subst hb1
        have HX : Hid (gk * Top2 top next ≤ Top3 an an1 an2) := gs_end HQ.out (by
          have : gk * next ≤ 18446744073709551615 * 18446744073709551615 := Nat.mul_le_mul (by omega) (by omega)
          omega)
        go_wp2_with fail
        go_region
        go_wp2_with fail
        go_ret
        exact ⟨gk, rfl, hk, HX, HT, hbr.drew⟩

end Go.Proofs.YtkkldnnndlpblaaGreatDoor

namespace Go.Proofs.YtkkldnnndlpblaaGreatDoor
open Go.RowKit

theorem val_top3 (A : List Int) (n2 an an1 an2 : Nat) (hl : A.length = n2 + 3) (h0 : A.getD (n2 + 2) 0 = (an : Int)) (h1 : A.getD (n2 + 1) 0 = (an1 : Int)) (h2 : A.getD n2 0 = (an2 : Int)) :
    val A = ((an * 18446744073709551616 + an1) * 18446744073709551616 + an2) * 18446744073709551616 ^ n2 + low A n2 := by
  have e : val A = low A (n2 + 2 + 1) := (low_all A _ (by omega)).symm
  have e1 : low A (n2 + 2 + 1) = low A (n2 + 1 + 1) + 18446744073709551616 ^ (n2 + 2) * (A.getD (n2 + 2) 0).toNat := rfl
  have e2 : low A (n2 + 1 + 1) = low A (n2 + 1) + 18446744073709551616 ^ (n2 + 1) * (A.getD (n2 + 1) 0).toNat := rfl
  have e3 : low A (n2 + 1) = low A n2 + 18446744073709551616 ^ n2 * (A.getD n2 0).toNat := rfl
  rw [e, e1, e2, e3, h0, h1, h2, Int.toNat_natCast, Int.toNat_natCast, Int.toNat_natCast, Nat.pow_succ, Nat.pow_succ, Nat.pow_succ]
  generalize 18446744073709551616 ^ n2 = P
  rw [Nat.add_mul, Nat.add_mul, Nat.add_mul]
  have a1 : an * 18446744073709551616 * 18446744073709551616 * P = P * 18446744073709551616 * 18446744073709551616 * an := by
    rw [Nat.mul_comm _ P]; simp only [Nat.mul_assoc, Nat.mul_comm an]
  have a2 : an1 * 18446744073709551616 * P = P * 18446744073709551616 * an1 := by
    rw [Nat.mul_comm _ P]; simp only [Nat.mul_assoc, Nat.mul_comm an1]
  rw [a1, a2, Nat.mul_comm an2 P]
  omega

theorem val_top2 (A : List Int) (n2 top next : Nat) (hl : A.length = n2 + 2) (h1 : A.getD (n2 + 1) 0 = (top : Int)) (h2 : A.getD n2 0 = (next : Int)) :
    val A = (top * 18446744073709551616 + next) * 18446744073709551616 ^ n2 + low A n2 := by
  have e : val A = low A (n2 + 1 + 1) := (low_all A _ (by omega)).symm
  have e2 : low A (n2 + 1 + 1) = low A (n2 + 1) + 18446744073709551616 ^ (n2 + 1) * (A.getD (n2 + 1) 0).toNat := rfl
  have e3 : low A (n2 + 1) = low A n2 + 18446744073709551616 ^ n2 * (A.getD n2 0).toNat := rfl
  rw [e, e2, e3, h1, h2, Int.toNat_natCast, Int.toNat_natCast, Nat.pow_succ]
  generalize 18446744073709551616 ^ n2 = P
  rw [Nat.add_mul]
  have a2 : top * 18446744073709551616 * P = P * 18446744073709551616 * top := by
    rw [Nat.mul_comm _ P]; simp only [Nat.mul_assoc, Nat.mul_comm top]
  rw [a2, Nat.mul_comm next P]
  omega

/-- The guess is how often it goes, or one more. -/
theorem often_le (P A D T3 T2 al dl k : Nat) (hA : A = T3 * P + al) (hal : al < P) (hD : D = T2 * P + dl) (hdl : dl < P) (hk : k * T2 ≤ T3) (hkW : k < 18446744073709551616)
    (hT : ∀ t, t < 18446744073709551616 → t * T2 ≤ T3 → t ≤ k) (hlt : A < D * 18446744073709551616) (hWT : 18446744073709551616 ≤ T2) : A / D ≤ k ∧ k ≤ A / D + 1 := by
  have hDP : 18446744073709551616 * P ≤ D := by
    have := Nat.mul_le_mul_right P hWT; omega
  have hD0 : 0 < D := by omega
  have hq : A / D < 18446744073709551616 := by rw [Nat.div_lt_iff_lt_mul hD0, Nat.mul_comm]; exact hlt
  have hqD : A / D * D ≤ A := Nat.div_mul_le_self _ _
  constructor
  · refine hT _ hq ?_
    generalize A / D = q at *
    have h1 : q * T2 * P ≤ q * D := by rw [hD, Nat.mul_add, Nat.mul_assoc]; omega
    have h2 : q * T2 * P < (T3 + 1) * P := by rw [Nat.add_mul, Nat.one_mul]; omega
    have h3 := Nat.lt_of_mul_lt_mul_right h2
    omega
  · rcases Nat.eq_zero_or_pos k with h0 | h0
    · rw [h0]; exact Nat.zero_le _
    · obtain ⟨j, rfl⟩ : ∃ j, k = j + 1 := ⟨k - 1, by omega⟩
      have h1 : (j + 1) * T2 * P ≤ T3 * P := Nat.mul_le_mul_right P hk
      have h2 : (j + 1) * dl ≤ 18446744073709551616 * dl := Nat.mul_le_mul_right dl (by omega)
      have h3 : 18446744073709551616 * dl ≤ 18446744073709551616 * P := Nat.mul_le_mul_left _ (by omega)
      have h4 : (j + 1) * D = (j + 1) * T2 * P + (j + 1) * dl := by rw [hD, Nat.mul_add, Nat.mul_assoc]
      have h5 : (j + 1) * D = j * D + D := by rw [Nat.add_mul, Nat.one_mul]
      have h6 : j ≤ A / D := by
        rw [Nat.le_div_iff_mul_le hD0]
        generalize (j + 1) * D = x at *
        generalize (j + 1) * T2 * P = y at *
        generalize (j + 1) * dl = z at *
        generalize j * D = u at *
        omega
      omega

theorem top_word_le (n1 : Nat) (A ys : List Int) (an top : Nat) (hA : A.length = n1 + 2) (hy : ys.length = n1 + 1) (hU : AllU ys) (h0 : A.getD (n1 + 1) 0 = (an : Int)) (h1 : ys.getD n1 0 = (top : Int)) (hlt : val A < val ys * 18446744073709551616) : an ≤ top := by
  have e : val A = low A (n1 + 1 + 1) := (low_all A _ (by omega)).symm
  have e1 : low A (n1 + 1 + 1) = low A (n1 + 1) + 18446744073709551616 ^ (n1 + 1) * (A.getD (n1 + 1) 0).toNat := rfl
  have d : val ys = low ys (n1 + 1) := (low_all ys _ (by omega)).symm
  have d1 : low ys (n1 + 1) = low ys n1 + 18446744073709551616 ^ n1 * (ys.getD n1 0).toNat := rfl
  have d2 := low_lt ys hU n1
  rw [h0, Int.toNat_natCast, Nat.pow_succ] at e1
  rw [h1, Int.toNat_natCast] at d1
  rw [e, e1, d, d1] at hlt
  generalize 18446744073709551616 ^ n1 = P at *
  rcases Nat.lt_or_ge top an with q | q
  · exfalso
    have h3 : P * (top + 1) ≤ P * an := Nat.mul_le_mul_left P q
    have h4 : P * 18446744073709551616 * an = P * an * 18446744073709551616 := by rw [Nat.mul_assoc, Nat.mul_assoc, Nat.mul_comm an]
    rw [Nat.mul_add, Nat.mul_one] at h3
    rw [h4] at hlt
    generalize P * an = x at *
    generalize P * top = y at *
    omega
  · exact q

/-- Behind the guess: what was borrowed tells whether it was one too great. -/
theorem often_more {Wn A A' D S k an br q : Nat} (hA : A = A' + Wn * an) (hs : S + k * D = A' + Wn * br) (hS : S < Wn) (hq : q = A / D) (hk1 : k ≤ q + 1) (hbr : an < br) : k = q + 1 := by
  rcases Nat.lt_or_ge q k with h | h
  · omega
  · exfalso
    have h1 : k * D ≤ A := Nat.le_trans (Nat.mul_le_mul_right D h) (by rw [hq]; exact Nat.div_mul_le_self _ _)
    have h2 : Wn * (an + 1) ≤ Wn * br := Nat.mul_le_mul_left Wn hbr
    rw [Nat.mul_add, Nat.mul_one] at h2
    generalize Wn * an = x at *
    generalize Wn * br = y at *
    omega

theorem often_same {Wn A A' D S k an br q : Nat} (hA : A = A' + Wn * an) (hs : S + k * D = A' + Wn * br) (hq : q = A / D) (hD0 : 0 < D) (hk : q ≤ k) (hbr : br ≤ an) : k = q := by
  have h2 : Wn * br ≤ Wn * an := Nat.mul_le_mul_left Wn hbr
  have h1 : k ≤ q := by
    rw [hq, Nat.le_div_iff_mul_le hD0]; omega
  omega

theorem rest_same {Wn A A' D S an br q : Nat} (hA : A = A' + Wn * an) (hs : S + q * D = A' + Wn * br) (hq : q = A / D) (hD0 : 0 < D) (hDW : D ≤ Wn) (hbr : br ≤ an) : an = br ∧ S = A % D := by
  have h1 := Nat.div_add_mod A D
  have h2 := Nat.mod_lt A hD0
  rw [← hq, Nat.mul_comm] at h1
  obtain ⟨d, rfl⟩ : ∃ d, an = br + d := ⟨an - br, by omega⟩
  rw [Nat.mul_add] at hA
  have h3 : d = 0 := by
    rcases Nat.eq_zero_or_pos d with h | h
    · exact h
    · exfalso
      have h4 : Wn * 1 ≤ Wn * d := Nat.mul_le_mul_left Wn h
      generalize Wn * d = x at *
      generalize Wn * br = y at *
      generalize q * D = z at *
      omega
  subst h3
  refine ⟨rfl, ?_⟩
  generalize Wn * br = y at *
  generalize q * D = z at *
  omega

theorem rest_more {Wn A A' D S S2 an br cr q : Nat} (hA : A = A' + Wn * an) (hs : S + (q + 1) * D = A' + Wn * br) (hs2 : S2 + Wn * cr = S + 1 * D) (hS2 : S2 < Wn) (hq : q = A / D) (hD0 : 0 < D) (hDW : D ≤ Wn) : an + cr = br ∧ S2 = A % D := by
  have h1 := Nat.div_add_mod A D
  have h2 := Nat.mod_lt A hD0
  rw [← hq, Nat.mul_comm] at h1
  rw [Nat.add_mul, Nat.one_mul] at hs
  have h5 : A % D + Wn * br = S2 + Wn * (an + cr) := by
    rw [Nat.mul_add]
    generalize q * D = z at *
    omega
  have h6 : an + cr = br := by
    rcases Nat.lt_trichotomy (an + cr) br with h | h | h
    · exfalso
      have := Nat.mul_le_mul_left Wn h
      rw [Nat.mul_succ] at this
      omega
    · exact h
    · exfalso
      have := Nat.mul_le_mul_left Wn h
      rw [Nat.mul_succ] at this
      omega
  refine ⟨h6, ?_⟩
  rw [h6] at h5
  omega

/-- A round of long division. -/
theorem over_round (L S Q : List Int) (L0 D j n lq q : Nat) (hL : L.length = lq + n) (hj : j < lq) (hQ : Q.length = lq) (hD : D ≤ 18446744073709551616 ^ n) (hU : AllU L) (hD0 : 0 < D) (hSl : S.length = n + 1)
    (hlt : val L < D * 18446744073709551616 ^ (j + 1)) (hv : L0 = D * 18446744073709551616 ^ (j + 1) * val (Q.drop (j + 1)) + val L) :
    val ((L.drop j).take (n + 1)) < D * 18446744073709551616 ∧ (q = val ((L.drop j).take (n + 1)) / D → val S = val ((L.drop j).take (n + 1)) % D →
      val (spliceW L j S) < D * 18446744073709551616 ^ j ∧ L0 = D * 18446744073709551616 ^ j * val ((Q.set j (q : Int)).drop j) + val (spliceW L j S)) := by
  have e1 : L = L.take j ++ ((L.drop j).take (n + 1) ++ L.drop (j + (n + 1))) := by
    rw [← List.drop_drop, List.take_append_drop, List.take_append_drop]
  have e2 : val L = val (L.take j) + 18446744073709551616 ^ j * (val ((L.drop j).take (n + 1)) + 18446744073709551616 ^ (n + 1) * val (L.drop (j + (n + 1)))) := by
    conv => lhs; rw [e1]
    rw [val_append, val_append, List.length_take, List.length_take, List.length_drop, show min j L.length = j by omega, show min (n + 1) (L.length - j) = n + 1 by omega]
  have hlow : val (L.take j) < 18446744073709551616 ^ j := by
    have := val_lt (L.take j) (hU.take j)
    rw [List.length_take, show min j L.length = j by omega] at this; exact this
  have e3 := splice_val L j S (by omega)
  rw [hSl] at e3
  have e4 := drop_set_val Q j (q : Int) (by omega)
  rw [Int.toNat_natCast] at e4
  have hz : val (L.drop (j + (n + 1))) = 0 := by
    rcases Nat.eq_zero_or_pos (val (L.drop (j + (n + 1)))) with h | h
    · exact h
    · exfalso
      have h1 : 18446744073709551616 ^ (n + 1) * 1 ≤ 18446744073709551616 ^ (n + 1) * val (L.drop (j + (n + 1))) := Nat.mul_le_mul_left _ h
      have h2 : 18446744073709551616 ^ j * 18446744073709551616 ^ (n + 1) ≤ val L := by
        rw [e2]
        have := Nat.mul_le_mul_left (18446744073709551616 ^ j) (show 18446744073709551616 ^ (n + 1) ≤ val ((L.drop j).take (n + 1)) + 18446744073709551616 ^ (n + 1) * val (L.drop (j + (n + 1))) by omega)
        omega
      have h3 : D * 18446744073709551616 ^ (j + 1) ≤ 18446744073709551616 ^ n * 18446744073709551616 ^ (j + 1) := Nat.mul_le_mul_right _ hD
      rw [← Nat.pow_add] at h2 h3
      rw [show n + (j + 1) = j + (n + 1) by omega] at h3
      omega
  rw [hz, Nat.mul_zero, Nat.add_zero] at e2
  rw [Nat.pow_succ] at hlt hv
  generalize val ((L.drop j).take (n + 1)) = sg at *
  generalize 18446744073709551616 ^ j = P at *
  have hP : 0 < P := by omega
  constructor
  · have h1 : P * sg < P * (D * 18446744073709551616) := by
      have : P * (D * 18446744073709551616) = D * (P * 18446744073709551616) := Nat.mul_left_comm _ _ _
      omega
    exact Nat.lt_of_mul_lt_mul_left h1
  · intro hq hS
    have h1 := Nat.div_add_mod sg D
    have h2 := Nat.mod_lt sg hD0
    rw [← hq, ← hS] at h1
    rw [← hS] at h2
    have h3 : P * sg = P * (D * q) + P * val S := by rw [← h1, Nat.mul_add]
    have h4 : P * (val S + 1) ≤ P * D := Nat.mul_le_mul_left P h2
    rw [Nat.mul_add, Nat.mul_one] at h4
    constructor
    · rw [Nat.mul_comm D P]; omega
    · rw [e4, Nat.mul_add, hv]
      have h5 : D * P * q = P * (D * q) := by rw [Nat.mul_comm D P, Nat.mul_assoc]
      have h6 : D * (P * 18446744073709551616) * val (Q.drop (j + 1)) = D * P * (18446744073709551616 * val (Q.drop (j + 1))) := by rw [← Nat.mul_assoc, Nat.mul_assoc]
      rw [h5, h6]
      omega

theorem over_end (L Q : List Int) (u v s n lq : Nat) (hL : L.length = lq + n) (hv0 : 0 < v) (hD : v * 2 ^ s ≤ 18446744073709551616 ^ n) (hlt : val L < v * 2 ^ s) (hv : u * 2 ^ s = v * 2 ^ s * val Q + val L) :
    val Q = u / v ∧ val (L.take n) / 2 ^ s = u % v := by
  have hp : 0 < 2 ^ s := Nat.pow_pos (by decide)
  have e1 := val_split L n
  rw [show min n L.length = n by omega] at e1
  have hz : val (L.drop n) = 0 := by
    rcases Nat.eq_zero_or_pos (val (L.drop n)) with h | h
    · exact h
    · exfalso
      have h1 : 18446744073709551616 ^ n * 1 ≤ 18446744073709551616 ^ n * val (L.drop n) := Nat.mul_le_mul_left _ h
      omega
  rw [hz, Nat.mul_zero, Nat.add_zero] at e1
  rw [← e1]
  have h1 : u * 2 ^ s / (v * 2 ^ s) = val Q := by
    rw [hv, Nat.mul_add_div (Nat.mul_pos hv0 hp), Nat.div_eq_of_lt hlt, Nat.add_zero]
  have h2 : u * 2 ^ s % (v * 2 ^ s) = val L := by
    rw [hv, Nat.mul_add_mod, Nat.mod_eq_of_lt hlt]
  rw [Nat.mul_div_mul_right _ _ hp] at h1
  rw [Nat.mul_mod_mul_right] at h2
  refine ⟨h1.symm, ?_⟩
  rw [← h2, Nat.mul_div_cancel _ hp]

theorem over_start (u v s n la : Nat) (hu : u < 18446744073709551616 ^ la) (hv : 18446744073709551616 ^ (n - 1) ≤ v) (hn : 1 ≤ n) (hla : n ≤ la) : u * 2 ^ s < v * 2 ^ s * 18446744073709551616 ^ (la + 1 - n) := by
  have hp : 0 < 2 ^ s := Nat.pow_pos (by decide)
  have h1 : 18446744073709551616 ^ (n - 1) * 18446744073709551616 ^ (la + 1 - n) ≤ v * 18446744073709551616 ^ (la + 1 - n) := Nat.mul_le_mul_right _ hv
  rw [← Nat.pow_add, show n - 1 + (la + 1 - n) = la by omega] at h1
  have h2 : u * 2 ^ s < v * 18446744073709551616 ^ (la + 1 - n) * 2 ^ s := Nat.mul_lt_mul_of_pos_right (by omega) hp
  rw [Nat.mul_right_comm]
  exact h2

end Go.Proofs.YtkkldnnndlpblaaGreatDoor

namespace Go.Proofs.YtkkldnnndlpblaaGreatDoor
open Go.RowKit

theorem own_pre {B g off : Nat} {w : World} {N c : Nat} {M : List Int} (h : OwnW B w (some ⟨g, off, none⟩) N c M) (n : Nat) (hn : n ≤ N) : OwnW B w (some ⟨g, off, none⟩) n c (M.take n) := by
  have hN := h.1.1
  refine ⟨⟨by rw [List.length_take]; omega, h.1.2.1.take n, ⟨by have := h.1.2.2.1.1; omega, fun e => by cases e⟩, fun j hj => ?_⟩, fun b o j e hj => h.2 b o j e (by omega)⟩
  obtain ⟨b, o, e1, e2, e3⟩ := h.1.2.2.2 j (by omega)
  refine ⟨b, o, e1, e2, ?_⟩
  rw [e3]
  simp only [List.getD, List.getElem?_take, hj, if_true]

theorem own_prejoin {B g off : Nat} {w w' : World} {N c : Nat} {M : List Int} (h : OwnW B w (some ⟨g, off, none⟩) N c M) (n : Nat) (S : List Int) (hn : n ≤ N) (hS : OwnW B w' (some ⟨g, off, none⟩) n c S) (hup : Upd g off n w w') : OwnW B w' (some ⟨g, off, none⟩) N c (spliceW M 0 S) := by
  have hN := h.1.1
  have hSn := hS.1.1
  refine ⟨⟨by rw [splice_len M 0 S (by omega)]; exact hN, splice_U h.1.2.1 hS.1.2.1 0, h.1.2.2.1, fun j hj => ?_⟩, fun b o j e hj => ?_⟩
  · obtain ⟨b, o, e1, e2, e3⟩ := h.1.2.2.2 j hj
    simp only [Option.some.injEq, Addr.mk.injEq, and_true] at e1
    obtain ⟨rfl, rfl⟩ := e1
    refine ⟨g, off, rfl, Nat.lt_of_lt_of_le e2 hup.grown.size, ?_⟩
    rw [splice_get M 0 S (by omega), if_neg (by omega)]
    by_cases h2 : j < 0 + S.length
    · rw [if_pos h2]
      obtain ⟨b', o', f1, _, f3⟩ := hS.1.2.2.2 j (by omega)
      simp only [Option.some.injEq, Addr.mk.injEq, and_true] at f1
      obtain ⟨rfl, rfl⟩ := f1
      exact f3
    · rw [if_neg h2, hup.cell (off + j) (Or.inr (by omega))]; exact e3
  · simp only [Option.some.injEq, Addr.mk.injEq, and_true] at e
    obtain ⟨rfl, rfl⟩ := e
    have := h.2 g off j rfl hj
    exact ⟨this.1, (hup.frozen (off + j)).trans this.2⟩

theorem Upd.wider {g off n m : Nat} {a b : World} (h : Upd g off n a b) (hm : n ≤ m) : Upd g off m a b := ⟨h.grown, fun o ho => h.cell o (by omega), h.frozen⟩

theorem Upd.after {g off n : Nat} {a b c : World} (h : Below a.heap.size a b) (hg : g < a.heap.size) (k : Upd g off n b c) : Upd g off n a c := ⟨(below_grown h _).trans k.grown, fun o ho => (k.cell o ho).trans (h.cell (p := ⟨g, o, none⟩) hg), fun o => (k.frozen o).trans (h.frozen (p := ⟨g, o, none⟩) hg)⟩

theorem wrap_dec (k q : Nat) (h : k = q + 1) (hk : k < 18446744073709551616) : IntKind.u64.wrap ((k : Int) - 1) = (q : Int) := by rw [IntKind.wrap_u64]; omega

theorem often_val (M S : List Int) (n x : Nat) (hM : M.length = n + 1) (hS : S.length = n) (hx : x = 0) : val ((spliceW M 0 S).set n (x : Int)) = val S := by
  have e1 := val_set (spliceW M 0 S) n (x : Int) (by rw [splice_len M 0 S (by omega)]; omega)
  have e2 := splice_val M 0 S (by omega)
  rw [splice_get M 0 S (by omega), if_neg (by omega), if_neg (by omega)] at e1
  have e3 : val M = val (M.take n) + 18446744073709551616 ^ n * (M.getD n 0).toNat := by
    have := val_take_succ M n (by omega)
    rw [List.take_of_length_le (by omega)] at this
    exact this
  rw [hS, List.drop_zero, Nat.pow_zero, Nat.one_mul, Nat.one_mul] at e2
  subst hx
  rw [Int.toNat_natCast, Nat.mul_zero, Nat.add_zero] at e1
  omega

theorem wrap_sum (an cr br : Nat) (h : an + cr = br) (hb : br < 18446744073709551616) : IntKind.u64.wrap ((an : Int) + (cr : Int)) = (br : Int) := by rw [IntKind.wrap_u64]; omega

theorem wrap_none (an br : Nat) (h : an = br) : IntKind.u64.wrap ((an : Int) - (br : Int)) = 0 := by rw [IntKind.wrap_u64]; omega

attribute [local go_sem ↓] Go.wp_at_zero Go.wp_at_succ
set_option maxRecDepth 100000 in
set_option maxHeartbeats 4000000 in
theorem takeOften_calls (B g off n n1 n2 na c cb : Nat) (b : Option Addr) (A ys : List Int) (w : World) (e1 : n = n1 + 1) (e2 : n1 = n2 + 1) (hna : na = n + 1) (hn : n ≤ 17592186044416) (h : OwnW B w (some ⟨g, off, none⟩) na c A) (hB : IsW w b n cb ys) (hbg : ∀ b' o, b = some ⟨b', o, none⟩ → b' ≠ g) (htop : 0 < ys.getD n1 0) (hlt : val A < val ys * 18446744073709551616) :
    Calls Tryz.prog 181 #[.slice (some ⟨g, off, none⟩) na c, .slice b n cb] w fun e w' => ∃ (S : List Int) (q : Nat), e = .returned (.int .u64 (q : Int)) ∧ q < 18446744073709551616 ∧ OwnW B w' (some ⟨g, off, none⟩) na c S ∧ q = val A / val ys ∧ val S = val A % val ys ∧ Upd g off na w w' := by
  have hAl : A.length = n2 + 3 := by have := h.1.1; omega
  have hyl : ys.length = n2 + 2 := by have := hB.1; omega
  obtain ⟨an, ha0, hanW⟩ := word_nat0 A h.1.2.1 n
  obtain ⟨an1, ha1, han1⟩ := word_nat0 A h.1.2.1 n1
  obtain ⟨an2, ha2, han2⟩ := word_nat0 A h.1.2.1 n2
  obtain ⟨top, ht, htW⟩ := word_nat0 ys hB.2.1 n1
  obtain ⟨next, hx, hxW⟩ := word_nat0 ys hB.2.1 n2
  obtain ⟨bb, bo, hbe, hbl, ct⟩ := hB.2.2.2 n1 (by omega)
  subst hbe
  obtain ⟨_, _, ee, _, cx⟩ := hB.2.2.2 n2 (by omega)
  simp only [Option.some.injEq, Addr.mk.injEq, and_true] at ee
  obtain ⟨rfl, rfl⟩ := ee
  obtain ⟨_, _, ee, hgl, c0⟩ := h.1.2.2.2 n (by omega)
  simp only [Option.some.injEq, Addr.mk.injEq, and_true] at ee
  obtain ⟨rfl, rfl⟩ := ee
  obtain ⟨_, _, ee, _, c1⟩ := h.1.2.2.2 n1 (by omega)
  simp only [Option.some.injEq, Addr.mk.injEq, and_true] at ee
  obtain ⟨rfl, rfl⟩ := ee
  obtain ⟨_, _, ee, _, c2⟩ := h.1.2.2.2 n2 (by omega)
  simp only [Option.some.injEq, Addr.mk.injEq, and_true] at ee
  obtain ⟨rfl, rfl⟩ := ee
  rw [ha0] at c0
  rw [ha1] at c1
  rw [ha2] at c2
  rw [ht] at ct htop
  rw [hx] at cx
  have hfz := (h.2 g off n rfl (by omega)).2
  have hle : an ≤ top := top_word_le n1 A ys an top (by omega) (by omega) hB.2.1 (by rw [← e1]; exact ha0) ht hlt
  have GC : Hid _ := guess_calls g off bb bo n n1 n2 na c cb an an1 an2 top next w e1 e2 hna hn c0 c1 c2 ct cx han1 han2 htW hxW (by omega) hle
  have hvA : val A = Top3 an an1 an2 * 18446744073709551616 ^ n2 + low A n2 := val_top3 A n2 an an1 an2 hAl (by rw [← show n = n2 + 2 by omega]; exact ha0) (by rw [← e2]; exact ha1) ha2
  have hvD : val ys = Top2 top next * 18446744073709551616 ^ n2 + low ys n2 := val_top2 ys n2 top next hyl (by rw [← e2]; exact ht) hx
  have hT2 : 18446744073709551616 ≤ Top2 top next := by
    have ht1 : 1 ≤ top := by omega
    have h3 := Nat.mul_le_mul_right 18446744073709551616 ht1
    rw [Nat.one_mul] at h3
    exact Nat.le_trans h3 (Nat.le_add_right _ _)
  have hD0 : 0 < val ys := by
    have : 1 * 1 ≤ Top2 top next * 18446744073709551616 ^ n2 := Nat.mul_le_mul (by omega) (Nat.pow_pos (by decide))
    omega
  have HB1 : Hid (∀ k, k < 18446744073709551616 → k * Top2 top next ≤ Top3 an an1 an2 → (∀ t, t < 18446744073709551616 → t * Top2 top next ≤ Top3 an an1 an2 → t ≤ k) → val A / val ys ≤ k ∧ k ≤ val A / val ys + 1) := fun k h1 h2 h3 =>
    often_le (18446744073709551616 ^ n2) (val A) (val ys) _ _ (low A n2) (low ys n2) k hvA (low_lt A h.1.2.1 n2) hvD (low_lt ys hB.2.1 n2) h2 h1 h3 hlt hT2
  have HA : Hid (val A = val (A.take n) + 18446744073709551616 ^ n * an) := by
    have := val_take_succ A n (by omega)
    rw [List.take_of_length_le (by omega), ha0, Int.toNat_natCast] at this
    exact this
  have HDW : Hid (val ys ≤ 18446744073709551616 ^ n) := by
    have := val_lt ys hB.2.1
    rw [hyl, ← show n = n2 + 2 by omega] at this
    rw [Hid]; omega
  have HD0 : Hid (0 < val ys) := hD0
  have HQ : Hid (val A / val ys < 18446744073709551616) := by rw [Hid, Nat.div_lt_iff_lt_mul hD0, Nat.mul_comm]; exact hlt
  have hcap : n ≤ c := by have := h.1.2.2.1.1; omega
  have i3 : (n : Int) < (na : Int) := by omega
  have HL : Hid (A.length = n + 1 ∧ na = n + 1) := ⟨by omega, hna⟩
  clear hvA hvD hT2 hD0 hlt ha0 ha1 ha2 ht hx hAl hyl e1 e2 hna c1 c2 ct cx hle htop
  go_enter Tryz.func181, Tryz.ntmps181
  go_wp2_with fail
  refine Calls.mono GC.out ?_
  rintro e w1 ⟨k, rfl, hk, HK1, HK2, hb1⟩
  have HKQ : Hid (val A / val ys ≤ k ∧ k ≤ val A / val ys + 1) := HB1.out k hk HK1.out HK2.out
  obtain ⟨q, hq⟩ : ∃ q, q = val A / val ys := ⟨_, rfl⟩
  rw [← hq] at HKQ HQ
  have HQQ : Hid (q = val A / val ys) := hq
  clear HK1 HK2 HB1 hq GC
  have h1 := h.keep hb1
  have hB1 := hB.keep hb1
  have c01 := carry_cell hb1 c0
  have hfz1 := carry_frozen hb1 c0 hfz
  have hgl1 : g < w1.heap.size := Nat.lt_of_lt_of_le hgl hb1.size
  clear c0 hfz h hB
  have TC : Hid _ := takeTimes_calls B g off n c cb (some ⟨bb, bo, none⟩) (A.take n) ys k w1 (own_pre h1 n (by omega)) hB1 hbg hn hk
  go_wp2_with fail
  refine Calls.mono TC.out ?_
  rintro e w2 ⟨S, br, rfl, hbr, hS, hsv, hup⟩
  have HSV : Hid (val S + k * val ys = val (A.take n) + 18446744073709551616 ^ n * br) := hsv
  have HSL : Hid (S.length = n) := hS.1.1.symm
  have HSLT : Hid (val S < 18446744073709551616 ^ n) := by
    have := val_lt S hS.1.2.1
    rw [HSL.out] at this; exact this
  have h2 := own_prejoin h1 n S (by omega) hS hup
  have c02 : w2.cell? ⟨g, off + n, none⟩ = some (.int .u64 (an : Int)) := (hup.cell (off + n) (Or.inr (Nat.le_refl _))).trans c01
  have hfz2 : w2.frozen? ⟨g, off + n, none⟩ = false := (hup.frozen _).trans hfz1
  have hup2 : Upd g off na w w2 := Upd.after hb1 hgl (hup.wider (by omega))
  have hgl2 : g < w2.heap.size := Nat.lt_of_lt_of_le hgl1 hup.grown.size
  have hB2 := hB1.grown hup.grown (fun b' o e => by simp only [Option.some.injEq, ne_eq]; exact hbg b' o e)
  clear hsv c01 hfz1 TC hup hb1 hgl hgl1 hB1 h1
  by_cases hgt : an < br
  · have HKE : Hid (k = q + 1) := often_more HA.out HSV.out HSLT.out HQQ.out HKQ.out.2 hgt
    have hwd := wrap_dec k q HKE.out hk
    have hw0 := wrap_none br br rfl
    go_wp2_with fail
    clear hgt
    have HLT : Hid (∀ S' : List Int, AllU S' → S'.length = n → val S' < 18446744073709551616 ^ n) := fun S' h1 h2 => by have := val_lt S' h1; rw [h2] at this; exact this
    go_region_with (go_at_call 149; refine (addTimes_calls B g off n c cb (some ⟨bb, bo, none⟩) S ys 1 _ (hS.keep (Below.refl _ _).drew) (hB2.keep (Below.refl _ _).drew) hbg hn (by decide)).mono ?_; rintro e w3 ⟨S2, cr, rfl, hcr, hS2, hsv2, hup3⟩; have HR : Hid (an + cr = br ∧ val S2 = val A % val ys) := rest_more HA.out (HKE.out ▸ HSV.out) hsv2 (HLT.out S2 hS2.1.2.1 hS2.1.1.symm) HQQ.out HD0.out HDW.out; have hwa := wrap_sum an cr br HR.out.1 hbr; have c03 : w3.cell? ⟨g, off + n, none⟩ = some (.int .u64 (an : Int)) := (hup3.cell (off + n) (Or.inr (Nat.le_refl _))).trans c02; have hfz3 : w3.frozen? ⟨g, off + n, none⟩ = false := (hup3.frozen (off + n)).trans hfz2; clear hsv2)
    all_goals
      have HSL2 : Hid (S2.length = n) := hS2.1.1.symm
      have h3 := own_prejoin (h2.keep (Below.refl _ _).drew) n S2 (by omega) hS2 hup3
      have hup4 : Upd g off na w w3 := (hup2.below hgl2 (Below.refl _ _).drew).trans (hup3.wider (by omega))
      have h4 := h3.set (i := n) (by omega) (v := (br : Int)) (by omega) (by omega)
      have h5 := h4.set (i := n) (by omega) (v := ((0 : Nat) : Int)) (by omega) (by omega)
      have hup5 := (hup4.set (i := n) (by omega) (.int .u64 (br : Int))).set (i := n) (by omega) (.int .u64 ((0 : Nat) : Int))
      have HQL := HQ.out
      go_wp2_with fail
      go_ret
      exact ⟨_, q, rfl, HQL, h5, HQQ.out, by rw [List.set_set, often_val _ _ _ _ (by rw [splice_len _ _ _ (by rw [HL.out.1, HSL.out]; omega)]; exact HL.out.1) HSL2.out rfl]; exact HR.out.2, hup5⟩
  · have HKE : Hid (k = q) := often_same HA.out HSV.out HQQ.out HD0.out HKQ.out.1 (by omega)
    have HR : Hid (an = br ∧ val S = val A % val ys) := rest_same HA.out (HKE.out ▸ HSV.out) HQQ.out HD0.out HDW.out (by omega)
    have hw0 := wrap_none an br HR.out.1
    have hO3 := h2.set (i := n) (by omega) (v := ((0 : Nat) : Int)) (by omega) (by omega)
    have hup3 := hup2.set (i := n) (by omega) (.int .u64 ((0 : Nat) : Int))
    have HQL := HQ.out
    go_wp2_with fail
    go_ret
    exact ⟨_, q, by rw [HKE.out]; rfl, HQL, hO3, HQQ.out, by rw [often_val _ _ _ _ HL.out.1 HSL.out rfl]; exact HR.out.2, hup3⟩

end Go.Proofs.YtkkldnnndlpblaaGreatDoor

namespace Go.Proofs.YtkkldnnndlpblaaGreatDoor
open Go.RowKit

theorem own_partO {B g off : Nat} {w : World} {N c : Nat} {M : List Int} (h : OwnW B w (some ⟨g, off, none⟩) N c M) (i n c' : Nat) (hi : i + n ≤ N) (hc : n ≤ c') : OwnW B w (some ⟨g, off + i, none⟩) n c' ((M.drop i).take n) := by
  have hN := h.1.1
  refine ⟨⟨by rw [List.length_take, List.length_drop]; omega, (h.1.2.1.drop i).take n, ⟨hc, fun e => by cases e⟩, fun j hj => ?_⟩, fun b o j e hj => ?_⟩
  · obtain ⟨b, o, e1, e2, e3⟩ := h.1.2.2.2 (i + j) (by omega)
    simp only [Option.some.injEq, Addr.mk.injEq, and_true] at e1
    obtain ⟨rfl, rfl⟩ := e1
    refine ⟨g, off + i, rfl, e2, ?_⟩
    rw [← Nat.add_assoc] at e3
    rw [e3]
    simp only [List.getD, List.getElem?_take, hj, if_true, List.getElem?_drop]
  · simp only [Option.some.injEq, Addr.mk.injEq, and_true] at e
    obtain ⟨rfl, rfl⟩ := e
    have := h.2 g off (i + j) rfl (by omega)
    rw [← Nat.add_assoc] at this; exact this

theorem own_joinO {B g off : Nat} {w w' : World} {N c : Nat} {M : List Int} (h : OwnW B w (some ⟨g, off, none⟩) N c M) (i n c' : Nat) (S : List Int) (hi : i + n ≤ N) (hS : OwnW B w' (some ⟨g, off + i, none⟩) n c' S) (hup : Upd g (off + i) n w w') : OwnW B w' (some ⟨g, off, none⟩) N c (spliceW M i S) := by
  have hN := h.1.1
  have hn := hS.1.1
  refine ⟨⟨by rw [splice_len M i S (by omega)]; exact hN, splice_U h.1.2.1 hS.1.2.1 i, h.1.2.2.1, fun j hj => ?_⟩, fun b o j e hj => ?_⟩
  · obtain ⟨b, o, e1, e2, e3⟩ := h.1.2.2.2 j hj
    simp only [Option.some.injEq, Addr.mk.injEq, and_true] at e1
    obtain ⟨rfl, rfl⟩ := e1
    refine ⟨g, off, rfl, Nat.lt_of_lt_of_le e2 hup.grown.size, ?_⟩
    rw [splice_get M i S (by omega)]
    by_cases h1 : j < i
    · rw [if_pos h1, hup.cell (off + j) (Or.inl (by omega))]; exact e3
    · rw [if_neg h1]
      by_cases h2 : j < i + S.length
      · rw [if_pos h2]
        obtain ⟨b', o', f1, _, f3⟩ := hS.1.2.2.2 (j - i) (by omega)
        simp only [Option.some.injEq, Addr.mk.injEq, and_true] at f1
        obtain ⟨rfl, rfl⟩ := f1
        rw [show off + i + (j - i) = off + j by omega] at f3
        exact f3
      · rw [if_neg h2, hup.cell (off + j) (Or.inr (by omega))]; exact e3
  · simp only [Option.some.injEq, Addr.mk.injEq, and_true] at e
    obtain ⟨rfl, rfl⟩ := e
    have := h.2 g off j rfl hj
    exact ⟨this.1, (hup.frozen (off + j)).trans this.2⟩

/-- With the top bit set the divisor has as many words as ever. -/
theorem shift_words (v m x : Nat) (hv : v ≠ 0) (hm : m = (wordsOf v).length) (hx : ((wordsOf v).getD (m - 1) 0).toNat = x) : (wordsOf (v * 2 ^ (64 - blen x))).length = m := by
  have h1 := blen_top v hv
  rw [← hm, hx] at h1
  have hxl : blen x ≤ 64 := by
    rw [blen_le, ← hx]
    have := (words_U v).get (m - 1)
    have h64 : (2 : Nat) ^ 64 = 18446744073709551616 := rfl
    omega
  have hm0 : 0 < m := by
    rcases Nat.eq_zero_or_pos m with h | h
    · exact absurd ((words_nil _).1 (List.length_eq_zero_iff.1 (by rw [← hm]; exact h))) hv
    · exact h
  have h2 := blen_mul v (64 - blen x) hv
  rw [h1, show 64 - blen x + (64 * (m - 1) + blen x) = 64 * m by omega] at h2
  have a1 := words_len2 m (v * 2 ^ (64 - blen x))
  have a2 := words_len2 (m - 1) (v * 2 ^ (64 - blen x))
  rw [h2] at a1 a2
  omega

set_option maxRecDepth 100000 in
set_option maxHeartbeats 1000000 in
theorem over_long (u v : Nat) (hge : v ≤ u) (hvW : 18446744073709551616 ≤ v) : OverC u v := by
  intro a b n m w hA hB hn hm
  have hc : 0 ≤ cmpN u v := by unfold cmpN; rw [if_neg (by omega)]; split <;> omega
  have hv0 : v ≠ 0 := by omega
  have hm2 : 2 ≤ m := by
    rcases Nat.lt_or_ge m 2 with h | h
    · exfalso
      have := (words_len 1 v).1 (by rw [← hB.1]; omega)
      omega
    · exact h
  have hmn : m ≤ n := by
    have h1 := (words_len n v).2 (Nat.lt_of_le_of_lt hge ((words_len n u).1 (by rw [← hA.1]; omega)))
    rw [← hB.1] at h1; exact h1
  obtain ⟨m1, hm1⟩ : ∃ m1, m = m1 + 1 := ⟨m - 1, by omega⟩
  obtain ⟨m2, hm22⟩ : ∃ m2, m1 = m2 + 1 := ⟨m1 - 1, by omega⟩
  obtain ⟨x, hx, hxW⟩ := word_nat0 (wordsOf v) (words_U v) m1
  obtain ⟨bb, bo, hbe, hbl, hbc⟩ := hB.2.2.2 m1 (by omega)
  subst hbe
  rw [hx] at hbc
  obtain ⟨s, hs⟩ : ∃ s, s = 64 - blen x := ⟨_, rfl⟩
  have hbx : blen x ≤ 64 := by rw [blen_le]; have : (2 : Nat) ^ 64 = 18446744073709551616 := rfl; omega
  have hx0 : 0 < blen x := by
    rcases Nat.eq_zero_or_pos (blen x) with h | h
    · exfalso
      have h2 := words_last v hv0
      rw [← hB.1, hm1, Nat.add_sub_cancel, hx] at h2
      rw [blen_nil] at h
      omega
    · exact h
  have qs : (64 : Int) - (Lib.bitLen x : Int) = (s : Int) := by rw [blen_lib x hxW]; omega
  have hs64 : s < 64 := by omega
  have HDL : Hid ((wordsOf (v * 2 ^ s)).length = m) := by
    rw [Hid, hs]; exact shift_words v m x hv0 hB.1 (by rw [hm1, Nat.add_sub_cancel, hx, Int.toNat_natCast])
  have HDT : Hid (0 < (wordsOf (v * 2 ^ s)).getD m1 0) := by
    have h1 := words_last (v * 2 ^ s) (Nat.mul_ne_zero hv0 (Nat.ne_of_gt (Nat.pow_pos (by decide))))
    rw [HDL.out, hm1, Nat.add_sub_cancel] at h1
    have h2 := (words_U (v * 2 ^ s)).get m1
    rw [Hid]; omega
  have HD0 : Hid (0 < v * 2 ^ s) := Nat.mul_pos (by omega) (Nat.pow_pos (by decide))
  have HDW : Hid (v * 2 ^ s ≤ 18446744073709551616 ^ m) := Nat.le_of_lt ((words_len m _).1 (by rw [HDL.out]; exact Nat.le_refl _))
  obtain ⟨lq, hlq⟩ : ∃ lq, lq = n + 1 - m := ⟨_, rfl⟩
  have HST : Hid (u * 2 ^ s < v * 2 ^ s * 18446744073709551616 ^ lq) := by
    rw [Hid, hlq]
    exact over_start u v s m n ((words_len n u).1 (by rw [← hA.1]; exact Nat.le_refl _)) (by
      rcases Nat.lt_or_ge v (18446744073709551616 ^ (m - 1)) with h | h
      · exfalso
        have := (words_len (m - 1) v).2 h
        rw [← hB.1] at this; omega
      · exact h) (by omega) hmn
  have qm : (m : Int) - 1 = (m1 : Int) := by omega
  have hne1 : ((m : Int) == 1) = false := by simp; omega
  have HV0 : Hid (0 < v) := by rw [Hid]; omega
  have AG : Hid _ := against_calls a (some ⟨bb, bo, none⟩) n m u v w hA hB (by omega) (by omega)
  have HMM : Hid (m = m1 + 1 ∧ m1 = m2 + 1 ∧ lq = n + 1 - m) := ⟨hm1, hm22, hlq⟩
  have im : (m1 : Int) < (m : Int) := by omega
  clear hge hvW hv0 hx hs hm1 hm22 hlq hx0 hbx
  go_enter Tryz.func161, Tryz.ntmps161
  go_wp2_with fail
  refine Calls.mono AG.out ?_
  rintro e w1 ⟨rfl, hb1⟩
  generalize cmpN u v = cc at hc ⊢
  have hA1 := hA.keep hb1
  have hB1 := hB.keep hb1
  have hbc1 := carry_cell hb1 hbc
  clear AG hA hB hbc hbl
  go_wp2_with fail
  refine Calls.mono (Tryz.bits_LeadingZeros64 _ _ (by omega) (by omega)) ?_
  rintro e w1 ⟨rfl, rfl⟩
  rw [Int.toNat_natCast, qs]
  clear qs hbc1 hxW
  go_wp2_with fail
  refine Calls.mono (left_calls (some ⟨bb, bo, none⟩) m s (wordsOf v) w1 hB1 hm (by omega)) ?_
  rintro e w2 ⟨ao, k, M, rfl, hO2, hv2, hk2, hb2⟩
  rw [val_words] at hv2
  have HV2 : Hid (val M = v * 2 ^ s) := hv2
  have hk3 : k ≤ 1025 := by omega
  have hA2 := hA1.keep hb2
  clear hv2 hk2 hB1 hA1
  go_wp2_with fail
  refine Calls.mono (trimW_pack _ ao k k M w2 hO2 (by omega)) ?_
  rintro e w2 ⟨ad, md, rfl, hmd, hOd, rfl⟩
  rw [HV2.out] at hmd hOd
  rw [HDL.out] at hmd
  subst hmd
  clear HV2 hO2 hk3
  go_wp2_with fail
  refine Calls.mono (left_calls a n s (wordsOf u) w2 hA2 hn (by omega)) ?_
  rintro e w3 ⟨al, kl, L0, rfl, hO3, hv3, hk3, hb3⟩
  rw [val_words] at hv3
  have HV3 : Hid (val L0 = u * 2 ^ s) := hv3
  have hkl : kl = n + 1 := by omega
  have hOd3 := hOd.keep hb3
  obtain ⟨g, off, hal, hgl, _⟩ := hO3.1.2.2.2 0 (by omega)
  subst hal
  have hgB : w2.heap.size ≤ g := (hO3.2 g off 0 rfl (by omega)).1
  obtain ⟨gd, od, had, hdl, _⟩ := hOd.1.2.2.2 0 (by omega)
  subst had
  have hgd : gd ≠ g := by omega
  have hgdq : gd ≠ w3.heap.size := by have := hb3.size; omega
  have q2 : (kl : Int) - (md : Int) = (lq : Int) := by have := HMM.out; omega
  have hlqb : lq ≤ 1024 := by have := HMM.out; omega
  have HKL : Hid (kl = lq + md) := by have := HMM.out; rw [Hid]; omega
  have hlq0 : 0 < lq := by have := HMM.out; omega
  obtain ⟨w4, hmk, hO4, hb4, hz4⟩ := make_words 110 words_T w3 lq (by omega)
  have hbase : Below w.heap.size w w4 := nbelow_trans (nbelow_trans (nbelow_trans hb1 hb2) hb3) hb4
  have hO34 := hO3.keep hb4
  have hOd4 := hOd3.keep hb4
  have hgl4 : g < w4.heap.size := by omega
  have hwg : w.heap.size ≤ g := by have := hb1.size; have := hb2.size; omega
  have hwq : w.heap.size ≤ w3.heap.size := by omega
  clear hv3 hk3 hA2 hOd hOd3 hO3 hkl hb1 hb2 hb3 hb4 hdl
  go_wp2_with fail
  clear hmk q2
  have H0 : Hid (OwnW w2.heap.size w4 (some ⟨g, off, none⟩) kl kl L0 ∧ OwnW w3.heap.size w4 (some ⟨w3.heap.size, 0, none⟩) lq lq (zeros lq) ∧ IsW w4 (some ⟨gd, od, none⟩) md md (wordsOf (v * 2 ^ s)) ∧ Below w.heap.size w w4) := ⟨hO34, hO4, hOd4.1, hbase⟩
  have hwqs : w3.heap.size < w4.heap.size := hz4
  clear hO34 hO4 hOd4 hbase hz4
  go_loopg [10] lq (fun j vi wr => ∃ (L Q : List Int), j ≤ lq ∧ vi = .int .i64 ((j : Int) - 1) ∧ Hid (val L < v * 2 ^ s * 18446744073709551616 ^ j) ∧ Hid (u * 2 ^ s = v * 2 ^ s * 18446744073709551616 ^ j * val (Q.drop j) + val L) ∧ OwnW w2.heap.size wr (some ⟨g, off, none⟩) kl kl L ∧ OwnW w3.heap.size wr (some ⟨w3.heap.size, 0, none⟩) lq lq Q ∧ IsW wr (some ⟨gd, od, none⟩) md md (wordsOf (v * 2 ^ s)) ∧ Below w.heap.size w wr)
  case atStart => exact ⟨L0, zeros lq, Nat.le_refl _, rfl, by rw [Hid, HV3.out]; exact HST.out, by rw [Hid, HV3.out, List.drop_of_length_le (by rw [zeros_len]; exact Nat.le_refl _)]; simp [val], H0.out.1, H0.out.2.1, H0.out.2.2.1, H0.out.2.2.2⟩
  case round =>
    clear H0
    obtain ⟨L, Q, hj, rfl, HLT, HV, hOL, hOQ, hD, hbr⟩ := hrel
    have HLL : Hid (L.length = lq + md) := by rw [Hid, ← hOL.1.1]; exact HKL.out
    have HQL : Hid (Q.length = lq) := hOQ.1.1.symm
    cases gk with
    | zero =>
      have HE : Hid (val Q = u / v ∧ val (L.take md) / 2 ^ s = u % v) := over_end L Q u v s md lq HLL.out HV0.out HDW.out (by have := HLT.out; simpa using this) (by have := HV.out; simpa using this)
      have hkm : md ≤ kl := by have := HKL.out; omega
      go_wp2_with fail
      refine Calls.mono (trimW_pack _ (some ⟨g, off, none⟩) md kl (L.take md) wr (own_pre hOL md hkm) (by omega)) ?_
      rintro e wr ⟨ar, nr, rfl, hnr, hOr, rfl⟩
      have hnr2 : nr ≤ 1024 := by
        rw [hnr]
        have h1 := words_le (L.take md) (hOL.1.2.1.take md)
        rw [List.length_take] at h1
        omega
      clear hnr
      go_wp2_with fail
      refine Calls.mono (right_calls ar nr s _ wr hOr.1 hnr2 (by omega)) ?_
      rintro e w6 ⟨a6, k6, M6, rfl, hO6, hv6, hk6, hb6⟩
      rw [val_words] at hv6
      have HV6 : Hid (val M6 = u % v) := by rw [Hid, hv6]; exact HE.out.2
      have hwr : w.heap.size ≤ wr.heap.size := hbr.size
      clear hv6
      go_wp2_with fail
      go_ret2
      exact ⟨some ⟨w3.heap.size, 0, none⟩, a6, lq, lq, k6, k6, Q, M6, rfl, (hOQ.keep hb6).low hwq, HE.out.1, by omega, hO6.low hwr, HV6.out, by omega, nbelow_trans hbr hb6⟩
    | succ j =>
      have hkl2 := HKL.out
      have hP := own_partO hOL j (md + 1) (kl - j) (by omega) (by omega)
      have OR : Hid _ := fun (S : List Int) (q : Nat) (hS : S.length = md + 1) => over_round L S Q (u * 2 ^ s) (v * 2 ^ s) j md lq q HLL.out (by omega) HQL.out HDW.out hOL.1.2.1 HD0.out hS HLT.out HV.out
      have hseg : val ((L.drop j).take (md + 1)) < v * 2 ^ s * 18446744073709551616 := (OR.out (zeros (md + 1)) 0 (zeros_len _)).1
      have TC : Hid _ := takeOften_calls w2.heap.size g (off + j) md m1 m2 (md + 1) (kl - j) md (some ⟨gd, od, none⟩) ((L.drop j).take (md + 1)) (wordsOf (v * 2 ^ s)) wr HMM.out.1 HMM.out.2.1 rfl (by omega) hP hD (fun b' o e => by simp only [Option.some.injEq, Addr.mk.injEq, and_true] at e; rw [← e.1]; exact hgd) HDT.out (by rw [val_words]; exact hseg)
      have hup1 : j + md + 1 ≤ kl := by omega
      have hln : j + md + 1 - j = md + 1 := by omega
      have hjl : j < lq := by omega
      clear hP hseg hkl2
      go_wp2_with fail
      refine Calls.mono TC.out ?_
      rintro e w5 ⟨S, q, rfl, hq, hS, hqe, hSe, hup⟩
      rw [val_words] at hqe hSe
      have HR : Hid _ := (OR.out S q hS.1.1.symm).2 hqe hSe
      have hOL5 := own_joinO hOL j (md + 1) (kl - j) S (by omega) hS hup
      have hgq : g ≠ w3.heap.size := by omega
      have hOQ5 := hOQ.grown hup.grown (fun b' o e => by simp only [Option.some.injEq, Addr.mk.injEq, and_true] at e; simp only [Option.some.injEq, ne_eq]; rw [← e.1]; exact fun e2 => hgq e2.symm)
      have hD5 := hD.grown hup.grown (fun b' o e => by simp only [Option.some.injEq, Addr.mk.injEq, and_true] at e; simp only [Option.some.injEq, ne_eq]; rw [← e.1]; exact hgd)
      have hb5 : Below w.heap.size w w5 := hbr.grown hup.grown hbr.size (fun k e => by simp at e; omega)
      obtain ⟨_, _, e1, _, hcell⟩ := hOQ5.1.2.2.2 j hjl
      simp only [Option.some.injEq, Addr.mk.injEq, and_true] at e1
      obtain ⟨rfl, rfl⟩ := e1
      have hfz := (hOQ5.2 _ _ j rfl hjl).2
      have hOQ6 := hOQ5.set (i := j) hjl (v := (q : Int)) (by omega) (by omega)
      have hOL6 := hOL5.other ⟨w3.heap.size, 0 + j, none⟩ (.int .u64 (q : Int)) (fun b' o e => by simp only [Option.some.injEq, Addr.mk.injEq, and_true] at e; rw [← e.1]; exact fun e2 => hgq e2.symm)
      have hD6 := hD5.other ⟨w3.heap.size, 0 + j, none⟩ (.int .u64 (q : Int)) (fun b' o e => by simp only [Option.some.injEq, Addr.mk.injEq, and_true] at e; rw [← e.1]; exact fun e2 => hgdq e2.symm)
      rw [Nat.zero_add] at hcell hfz hOQ6 hOL6 hD6
      generalize Q.getD j 0 = oldq at hcell
      have HN : Hid (OwnW w2.heap.size (w5.setCell ⟨w3.heap.size, j, none⟩ (.int .u64 (q : Int))) (some ⟨g, off, none⟩) kl kl (spliceW L j S) ∧ OwnW w3.heap.size (w5.setCell ⟨w3.heap.size, j, none⟩ (.int .u64 (q : Int))) (some ⟨w3.heap.size, 0, none⟩) lq lq (Q.set j (q : Int)) ∧ IsW (w5.setCell ⟨w3.heap.size, j, none⟩ (.int .u64 (q : Int))) (some ⟨gd, od, none⟩) md md (wordsOf (v * 2 ^ s)) ∧ Below w.heap.size w (w5.setCell ⟨w3.heap.size, j, none⟩ (.int .u64 (q : Int)))) := ⟨hOL6, hOQ6, hD6, hb5.setCell (by show w.heap.size ≤ w3.heap.size; exact hwq) _⟩
      clear hqe hSe hS hup hOL5 hOQ5 hD5 hb5 hOQ6 hOL6 hD6 hOL hOQ hD hbr TC OR
      go_wp2_with fail
      go_roundg j
      case measure => omega
      case rel => exact ⟨_, _, by omega, by go_num, HR.out.1, HR.out.2, HN.out.1, HN.out.2.1, HN.out.2.2.1, HN.out.2.2.2⟩

theorem over_any (u v : Nat) (hv : 0 < v) : OverC u v := by
  by_cases h1 : u < v
  · exact over_small u v h1
  · by_cases h2 : v < 18446744073709551616
    · exact over_one u v hv h2
    · exact over_long u v (by omega) (by omega)

end Go.Proofs.YtkkldnnndlpblaaGreatDoor

namespace Go.Proofs.YtkkldnnndlpblaaGreatDoor
open Go.RowKit

variable {a a' : Option Addr} {len cap len' cap' : Nat} {xs ys : List Int} {w : World}

theorem mulR_len (u v : Nat) : (wordsOf (mulR u v).1).length ≤ 1024 := by
  unfold mulR
  split
  · exact zero_len
  · exact fitR_len _

theorem div_len (u v : Nat) : (wordsOf (divQ u v)).length ≤ 1024 ∧ (wordsOf (divM u v)).length ≤ 1024 := by
  unfold divQ divM
  split
  · exact ⟨zero_len, zero_len⟩
  · rename_i h
    have h1 : greatB u = false := by
      rw [Bool.not_eq_true, Bool.or_eq_false_iff] at h; exact h.1
    split
    · exact ⟨zero_len, zero_len⟩
    · exact ⟨(great_len _).1 (great_mono (Nat.div_le_self _ _) h1), (great_len _).1 (great_mono (Nat.mod_le _ _) h1)⟩

theorem powR_len (u : Nat) (i : Int) : (wordsOf (powR u i).1).length ≤ 1024 := by
  unfold powR
  split
  · exact zero_len
  · split
    · exact zero_len
    · exact fitR_len _

theorem mul_eq (h : IsW w a len cap xs) (h' : IsW w a' len' cap' ys) (hm : len ≤ 17592186044416) (hm' : len' ≤ 17592186044416) {r : Nat} {k : Int} (hr : mulR (val xs) (val ys) = (r, k)) :
    Calls Tryz.prog 125 #[.slice a len cap, .slice a' len' cap'] w fun e w' => ∃ (ao : Option Addr) (n c : Nat), e = .returned (.tuple #[.slice ao n c, .int .i64 k]) ∧ Hid (n = (wordsOf r).length) ∧ n ≤ 1024 ∧ OwnW w.heap.size w' ao n c (wordsOf r) ∧ Below w.heap.size w w' := by
  have hl := mulR_len (val xs) (val ys)
  refine Calls.mono (mul_calls a a' len cap len' cap' xs ys w h h' hm hm') ?_
  rw [hr] at hl ⊢
  rintro e w' ⟨v, rfl, hA, hb⟩
  obtain ⟨ao, n, c, rfl, h1, h2, h3⟩ := hA.open hl
  exact ⟨ao, n, c, rfl, h1, h2, h3, hb⟩

theorem pow_eq {i : Int} (h : IsW w a len cap xs) (hm : len ≤ 17592186044416) (hi : i ≤ 9223372036854775807) {r : Nat} {k : Int} (hr : powR (val xs) i = (r, k)) :
    Calls Tryz.prog 42 #[.slice a len cap, .int .i64 i] w fun e w' => ∃ (ao : Option Addr) (n c : Nat), e = .returned (.tuple #[.slice ao n c, .int .i64 k]) ∧ Hid (n = (wordsOf r).length) ∧ n ≤ 1024 ∧ OwnW w.heap.size w' ao n c (wordsOf r) ∧ Below w.heap.size w w' := by
  have hl := powR_len (val xs) i
  refine Calls.mono (pow_calls a len cap xs i w h hm hi) ?_
  rw [hr] at hl ⊢
  rintro e w' ⟨v, rfl, hA, hb⟩
  obtain ⟨ao, n, c, rfl, h1, h2, h3⟩ := hA.open hl
  exact ⟨ao, n, c, rfl, h1, h2, h3, hb⟩

theorem div_eq (h : IsW w a len cap xs) (h' : IsW w a' len' cap' ys) (hm : len ≤ 17592186044416) (hm' : len' ≤ 17592186044416) {q r : Nat} {k : Int} (hr : divQ (val xs) (val ys) = q) (hr2 : divM (val xs) (val ys) = r) (hr3 : divE (val xs) (val ys) = k) :
    Calls Tryz.prog 136 #[.slice a len cap, .slice a' len' cap'] w fun e w' => ∃ (a1 a2 : Option Addr) (n1 c1 n2 c2 : Nat), e = .returned (.tuple #[.slice a1 n1 c1, .slice a2 n2 c2, .int .i64 k]) ∧ Hid (n1 = (wordsOf q).length) ∧ n1 ≤ 1024 ∧ OwnW w.heap.size w' a1 n1 c1 (wordsOf q) ∧ Hid (n2 = (wordsOf r).length) ∧ n2 ≤ 1024 ∧ OwnW w.heap.size w' a2 n2 c2 (wordsOf r) ∧ Below w.heap.size w w' := by
  have hl := div_len (val xs) (val ys)
  refine Calls.mono (div_calls a a' len cap len' cap' xs ys w h h' hm hm' (fun h => over_any _ _ (by omega))) ?_
  rw [hr, hr2] at hl ⊢
  rw [hr3]
  rintro e w' ⟨v, v', rfl, hA, hA', hb⟩
  obtain ⟨a1, n1, c1, rfl, h1, h2, h3⟩ := hA.open hl.1
  obtain ⟨a2, n2, c2, rfl, h4, h5, h6⟩ := hA'.open hl.2
  exact ⟨a1, a2, n1, c1, n2, c2, rfl, h1, h2, h3, h4, h5, h6, hb⟩

end Go.Proofs.YtkkldnnndlpblaaGreatDoor

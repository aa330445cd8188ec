/- The document's naturals, as its constants call them. -/
import Derived.Test.YtkkldnnndlpblaaGreatDoorNTx3
import Derived.Test.YtkkldnnndlpblaaGreatDoorNRefD
import Derived.Test.YtkkldnnndlpblaaGreatDoorCF1
namespace Go.Proofs.YtkkldnnndlpblaaGreatDoor
open Go.RowKit

theorem short_gen (d r x : Nat) (hd0 : 0 < d) (hd1 : d < 65536) (hr : r < d) (hx : x < 18446744073709551616) (h lw : Nat) (hh : h = r * 4294967296 + x / 4294967296) (hl : lw = h % d * 4294967296 + x % 4294967296) :
    h / d * 4294967296 + lw / d = (r * 18446744073709551616 + x) / d ∧ lw % d = (r * 18446744073709551616 + x) % d ∧ h < 281474976710656 ∧ lw < 281474976710656 ∧ h / d * 4294967296 + lw / d < 18446744073709551616 := by
  have e1 := Nat.div_add_mod h d
  have e2 := Nat.div_add_mod lw d
  have m1 := Nat.mod_lt h hd0
  have m2 := Nat.mod_lt lw hd0
  have e3 : r * 18446744073709551616 + x = d * (h / d * 4294967296 + lw / d) + lw % d := by
    have a1 : r * 18446744073709551616 + x = h * 4294967296 + x % 4294967296 := by omega
    have a2 : h * 4294967296 = d * (h / d * 4294967296) + h % d * 4294967296 := by
      rw [← Nat.mul_assoc, ← Nat.add_mul, e1]
    rw [a1, a2, Nat.mul_add]
    omega
  have q : (r * 18446744073709551616 + x) / d = h / d * 4294967296 + lw / d := by
    rw [e3, Nat.mul_add_div hd0, Nat.div_eq_of_lt m2, Nat.add_zero]
  refine ⟨q.symm, by rw [e3, Nat.mul_add_mod, Nat.mod_eq_of_lt m2], by omega, by omega, ?_⟩
  rw [← q]
  refine (Nat.div_lt_iff_lt_mul hd0).2 ?_
  have : r + 1 ≤ d := hr
  have := Nat.mul_le_mul_right 18446744073709551616 this
  omega

set_option maxRecDepth 100000 in
set_option maxHeartbeats 4000000 in
theorem dShort_calls (d : Nat) (hd0 : 0 < d) (hd1 : d < 65536) (a : Option Addr) (len cap : Nat) (xs : List Int) (w : World) (h : IsW w a len cap xs) (hm : len ≤ 17592186044000) :
    Calls Tryz.prog 99 #[.slice a len cap, .int .u64 (d : Int)] w fun e w' => ∃ (ao : Option Addr) (n cv : Nat), e = .returned (.tuple #[.slice ao n cv, .int .u64 ((val xs % d : Nat) : Int)]) ∧ n = (wordsOf (val xs / d)).length ∧ OwnW w.heap.size w' ao n cv (wordsOf (val xs / d)) ∧ Below w.heap.size w w' := by
  have HL0 : Hid (len = xs.length) := h.1
  have HU0 : Hid (AllU xs) := h.2.1
  obtain ⟨w1, hmk, hO1, hb1, hz1⟩ := make_words 24 nat_T w len (by omega)
  go_enter Tryz.func99, Tryz.ntmps99
  go_wp2_with fail
  clear hmk
  have H0 : Hid (OwnW w.heap.size w1 (some ⟨w.heap.size, 0, none⟩) len len (zeros len) ∧ Below w.heap.size w w1) := ⟨hO1, hb1⟩
  clear hO1 hb1 hz1
  go_loopw [7, 8] (fun vr vi wr => ∃ (k : Nat) (M : List Int) (r : Nat), k ≤ len ∧ vi = .int .i64 ((k : Int) - 1) ∧ vr = .int .u64 (r : Int) ∧ r < d ∧ Hid (val (M.drop k) = val (xs.drop k) / d) ∧ Hid (r = val (xs.drop k) % d) ∧ OwnW w.heap.size wr (some ⟨w.heap.size, 0, none⟩) len len M ∧ Below w.heap.size w wr) (fun _ vi _ => (intOf vi + 1).toNat)
  case atStart => exact ⟨len, zeros len, 0, Nat.le_refl _, rfl, rfl, hd0, by rw [Hid, List.drop_of_length_le (by rw [zeros_len]; exact Nat.le_refl _), HL0.out, List.drop_length]; simp [val], by rw [Hid, HL0.out, List.drop_length]; simp [val], H0.out.1, H0.out.2⟩
  case round =>
    obtain ⟨k, M, r, hk, rfl, rfl, hr, HV, HR, hO, hbr⟩ := hrel
    clear H0
    have HL : Hid (len = M.length) := hO.1.1
    cases k with
    | zero =>
      rw [show (((0 : Nat) : Int) - 1) = -1 from rfl]
      have NC : Hid _ := nNorm_calls (some ⟨w.heap.size, 0, none⟩) len len M wr hO.1 (by omega)
      have HV0 : Hid (val M = val xs / d) := by have := HV.out; rwa [List.drop_zero, List.drop_zero] at this
      have HR0 : Hid (r = val xs % d) := by have := HR.out; rwa [List.drop_zero] at this
      rw [HV0.out] at NC
      have hsz := hbr.size
      go_wp2_with fail
      refine Calls.mono NC.out ?_
      rintro e w2 ⟨ao, cv, rfl, hO2, hb2⟩
      have hW2 := hO2.ownW (words_U _) rfl
      clear NC hO hO2
      go_wp2_with fail
      go_ret2
      exact ⟨ao, _, cv, by rw [← HR0.out]; rfl, rfl, hW2.low hsz, nbelow_trans hbr hb2⟩
    | succ k =>
      obtain ⟨x, hx, hx1⟩ := word_nat0 xs HU0.out k
      obtain ⟨ba, oa, hae, hal, hac⟩ := h.2.2.2 k (by omega)
      have hac2 : wr.cell? ⟨ba, oa + k, none⟩ = some (.int .u64 (x : Int)) := by rw [← hx]; exact (hbr.cell (p := ⟨ba, oa + k, none⟩) hal).trans hac
      have HX : Hid (xs.getD k 0 = (x : Int)) := hx
      obtain ⟨_, _, e1, _, hcell⟩ := hO.1.2.2.2 k (by omega)
      simp only [Option.some.injEq, Addr.mk.injEq, and_true] at e1
      obtain ⟨rfl, rfl⟩ := e1
      have hfz := (hO.2 _ _ k rfl (by omega)).2
      rw [Nat.zero_add] at hcell hfz
      generalize M.getD k 0 = old at hcell
      have ek : (((k + 1 : Nat) : Int) - 1) = (k : Int) := by omega
      rw [ek]
      obtain ⟨hh, h1⟩ : ∃ hh, hh = r * 4294967296 + x / 4294967296 := ⟨_, rfl⟩
      obtain ⟨lw, h2⟩ : ∃ lw, lw = hh % d * 4294967296 + x % 4294967296 := ⟨_, rfl⟩
      obtain ⟨n1, n2, n3, n4, n5⟩ := short_gen d r x hd0 hd1 hr hx1 hh lw h1 h2
      obtain ⟨q, hq⟩ : ∃ q, q = hh / d * 4294967296 + lw / d := ⟨_, rfl⟩
      obtain ⟨r2, hr2⟩ : ∃ r2, r2 = lw % d := ⟨_, rfl⟩
      obtain ⟨xh, hxh⟩ : ∃ xh, xh = x / 4294967296 := ⟨_, rfl⟩
      obtain ⟨xl, hxl⟩ : ∃ xl, xl = x % 4294967296 := ⟨_, rfl⟩
      obtain ⟨hq1, hhq⟩ : ∃ hq1, hq1 = hh / d := ⟨_, rfl⟩
      obtain ⟨hm1, hhm⟩ : ∃ hm1, hm1 = hh % d := ⟨_, rfl⟩
      obtain ⟨lq, hlq⟩ : ∃ lq, lq = lw / d := ⟨_, rfl⟩
      have d1 : (x : Int) / 4294967296 = (xh : Int) := by omega
      have d2 : (x : Int) % 4294967296 = (xl : Int) := by omega
      have d3 : (hh : Int) / (d : Int) = (hq1 : Int) := by rw [← Int.natCast_ediv, hhq]
      have d4 : (hh : Int) % (d : Int) = (hm1 : Int) := by rw [← Int.natCast_emod, hhm]
      have d5 : (lw : Int) / (d : Int) = (lq : Int) := by rw [← Int.natCast_ediv, hlq]
      have d6 : (lw : Int) % (d : Int) = (r2 : Int) := by rw [← Int.natCast_emod, hr2]
      have t3 : (hh : Int).tdiv (d : Int) = (hq1 : Int) := by rw [Int.tdiv_eq_ediv_of_nonneg (by omega)]; exact d3
      have t4 : (hh : Int).tmod (d : Int) = (hm1 : Int) := by rw [Int.tmod_eq_emod_of_nonneg (by omega)]; exact d4
      have t5 : (lw : Int).tdiv (d : Int) = (lq : Int) := by rw [Int.tdiv_eq_ediv_of_nonneg (by omega)]; exact d5
      have t6 : (lw : Int).tmod (d : Int) = (r2 : Int) := by rw [Int.tmod_eq_emod_of_nonneg (by omega)]; exact d6
      have u1 : IntKind.u64.wrap (xh : Int) = (xh : Int) := by rw [IntKind.wrap_u64]; omega
      have u2 : IntKind.u64.wrap (hq1 : Int) = (hq1 : Int) := by rw [IntKind.wrap_u64]; omega
      have u3 : IntKind.u64.wrap (lq : Int) = (lq : Int) := by rw [IntKind.wrap_u64]; omega
      obtain ⟨m1, hm1'⟩ : ∃ m1, m1 = r * 4294967296 := ⟨_, rfl⟩
      obtain ⟨m2, hm2'⟩ : ∃ m2, m2 = hm1 * 4294967296 := ⟨_, rfl⟩
      obtain ⟨m3, hm3'⟩ : ∃ m3, m3 = hq1 * 4294967296 := ⟨_, rfl⟩
      have s1 : IntKind.u64.wrap ((r : Int) * 4294967296) = (m1 : Int) := by rw [IntKind.wrap_u64]; omega
      have s2 : IntKind.u64.wrap ((m1 : Int) + (xh : Int)) = (hh : Int) := by rw [IntKind.wrap_u64]; omega
      have s3 : IntKind.u64.wrap ((hm1 : Int) * 4294967296) = (m2 : Int) := by rw [IntKind.wrap_u64]; omega
      have s4 : IntKind.u64.wrap ((m2 : Int) + (xl : Int)) = (lw : Int) := by rw [IntKind.wrap_u64]; omega
      have s5 : IntKind.u64.wrap ((hq1 : Int) * 4294967296) = (m3 : Int) := by rw [IntKind.wrap_u64]; omega
      have s6 : IntKind.u64.wrap ((m3 : Int) + (lq : Int)) = (q : Int) := by rw [IntKind.wrap_u64]; omega
      have HDS : Hid _ := divBy_step (val (xs.drop (k + 1))) (val (M.drop (k + 1))) x r d (by omega) HV.out HR.out
      rw [← n1, ← n2, ← hq, ← hr2] at HDS
      have hqb : q ≤ 18446744073709551615 := by omega
      have hrb : r2 < d := by rw [hr2]; exact Nat.mod_lt _ hd0
      subst hae
      have hne : ba ≠ w.heap.size := by omega
      clear hx hac h1 h2 n1 n2 n3 n4 n5 hq hr2 hxh hxl hhq hhm hlq hm1' hm2' hm3' ek hx1 HV HR
      go_wp2_with fail
      go_quiet (fail)
      go_wp2_with fail
      go_region
      all_goals
        clear d1 d2 d3 d4 d5 d6 t3 t4 t5 s1 s2 s3 s4 s5 s6 u1 u2 u3
        go_wp2_with fail
        have hL1 := HL.out
        have hL0 := HL0.out
        have hO3 := (hO.keep (below_drewN (Below.refl _ _) (nq + 1))).set (i := k) (by omega) (v := (q : Int)) (by omega) (by omega)
        rw [Nat.zero_add] at hO3
        refine ⟨⟨k, M.set k (q : Int), r2, by omega, rfl, rfl, hrb, ?_, ?_, hO3, (below_drewN hbr (nq + 1)).setCell (Nat.le_refl _) _⟩, by simp [intOf]⟩
        · rw [Hid, drop_set_val M k _ (by omega), Int.toNat_natCast, HDS.out.1, drop_val xs k (by omega), HX.out, Int.toNat_natCast]
        · rw [Hid, HDS.out.2, drop_val xs k (by omega), HX.out, Int.toNat_natCast]
end Go.Proofs.YtkkldnnndlpblaaGreatDoor

/- The document's naturals, as its constants call them. The document's numbers with an error in units: what is reckoned with them. The document's series: numbers with an error in units, in boxes. -/
import Derived.Test.YtkkldnnndlpblaaGreatDoorNTX
import Derived.Test.YtkkldnnndlpblaaGreatDoorCFX
import Derived.Test.YtkkldnnndlpblaaGreatDoorCFY
import Derived.Test.YtkkldnnndlpblaaGreatDoorCKA

namespace Go.Proofs.YtkkldnnndlpblaaGreatDoor
open Go.RowKit

theorem short_gen (d r x : Nat) (hd0 : 0 < d) (hd1 : d < 65536) (hr : r < d) (hx : x < 18446744073709551616) (h lw : Nat) (hh : h = r * 4294967296 + x / 4294967296) (hl : lw = h % d * 4294967296 + x % 4294967296) :
    h / d * 4294967296 + lw / d = (r * 18446744073709551616 + x) / d ∧ lw % d = (r * 18446744073709551616 + x) % d ∧ h < 281474976710656 ∧ lw < 281474976710656 ∧ h / d * 4294967296 + lw / d < 18446744073709551616 := by
  have e1 := Nat.div_add_mod h d
  have e2 := Nat.div_add_mod lw d
  have m1 := Nat.mod_lt h hd0
  have m2 := Nat.mod_lt lw hd0
  have e3 : r * 18446744073709551616 + x = d * (h / d * 4294967296 + lw / d) + lw % d := by
    have a1 : r * 18446744073709551616 + x = h * 4294967296 + x % 4294967296 := by omega
    have a2 : h * 4294967296 = d * (h / d * 4294967296) + h % d * 4294967296 := by
      rw [← Nat.mul_assoc, ← Nat.add_mul, e1]
    rw [a1, a2, Nat.mul_add]
    omega
  have q : (r * 18446744073709551616 + x) / d = h / d * 4294967296 + lw / d := by
    rw [e3, Nat.mul_add_div hd0, Nat.div_eq_of_lt m2, Nat.add_zero]
  refine ⟨q.symm, by rw [e3, Nat.mul_add_mod, Nat.mod_eq_of_lt m2], by omega, by omega, ?_⟩
  rw [← q]
  refine (Nat.div_lt_iff_lt_mul hd0).2 ?_
  have : r + 1 ≤ d := hr
  have := Nat.mul_le_mul_right 18446744073709551616 this
  omega

set_option maxRecDepth 100000 in
set_option maxHeartbeats 4000000 in
theorem dShort_calls (d : Nat) (hd0 : 0 < d) (hd1 : d < 65536) (a : Option Addr) (len cap : Nat) (xs : List Int) (w : World) (h : IsW w a len cap xs) (hm : len ≤ 17592186044000) :
    Calls Tryz.prog 99 #[.slice a len cap, .int .u64 (d : Int)] w fun e w' => ∃ (ao : Option Addr) (n cv : Nat), e = .returned (.tuple #[.slice ao n cv, .int .u64 ((val xs % d : Nat) : Int)]) ∧ n = (wordsOf (val xs / d)).length ∧ OwnW w.heap.size w' ao n cv (wordsOf (val xs / d)) ∧ Below w.heap.size w w' := by
  have HL0 : Hid (len = xs.length) := h.1
  have HU0 : Hid (AllU xs) := h.2.1
  obtain ⟨w1, hmk, hO1, hb1, hz1⟩ := make_words 24 nat_T w len (by omega)
  go_enter Tryz.func99, Tryz.ntmps99
  go_wp2_with fail
  clear hmk
  have H0 : Hid (OwnW w.heap.size w1 (some ⟨w.heap.size, 0, none⟩) len len (zeros len) ∧ Below w.heap.size w w1) := ⟨hO1, hb1⟩
  clear hO1 hb1 hz1
  go_loopw [7, 8] (fun vr vi wr => ∃ (k : Nat) (M : List Int) (r : Nat), k ≤ len ∧ vi = .int .i64 ((k : Int) - 1) ∧ vr = .int .u64 (r : Int) ∧ r < d ∧ Hid (val (M.drop k) = val (xs.drop k) / d) ∧ Hid (r = val (xs.drop k) % d) ∧ OwnW w.heap.size wr (some ⟨w.heap.size, 0, none⟩) len len M ∧ Below w.heap.size w wr) (fun _ vi _ => (intOf vi + 1).toNat)
  case atStart => exact ⟨len, zeros len, 0, Nat.le_refl _, rfl, rfl, hd0, by rw [Hid, List.drop_of_length_le (by rw [zeros_len]; exact Nat.le_refl _), HL0.out, List.drop_length]; simp [val], by rw [Hid, HL0.out, List.drop_length]; simp [val], H0.out.1, H0.out.2⟩
  case round =>
    obtain ⟨k, M, r, hk, rfl, rfl, hr, HV, HR, hO, hbr⟩ := hrel
    clear H0
    have HL : Hid (len = M.length) := hO.1.1
    cases k with
    | zero =>
      rw [show (((0 : Nat) : Int) - 1) = -1 from rfl]
      have NC : Hid _ := nNorm_calls (some ⟨w.heap.size, 0, none⟩) len len M wr hO.1 (by omega)
      have HV0 : Hid (val M = val xs / d) := by have := HV.out; rwa [List.drop_zero, List.drop_zero] at this
      have HR0 : Hid (r = val xs % d) := by have := HR.out; rwa [List.drop_zero] at this
      rw [HV0.out] at NC
      have hsz := hbr.size
      go_wp2_with fail
      refine Calls.mono NC.out ?_
      rintro e w2 ⟨ao, cv, rfl, hO2, hb2⟩
      have hW2 := hO2.ownW (words_U _) rfl
      clear NC hO hO2
      go_wp2_with fail
      go_ret2
      exact ⟨ao, _, cv, by rw [← HR0.out]; rfl, rfl, hW2.low hsz, nbelow_trans hbr hb2⟩
    | succ k =>
      obtain ⟨x, hx, hx1⟩ := word_nat0 xs HU0.out k
      obtain ⟨ba, oa, hae, hal, hac⟩ := h.2.2.2 k (by omega)
      have hac2 : wr.cell? ⟨ba, oa + k, none⟩ = some (.int .u64 (x : Int)) := by rw [← hx]; exact (hbr.cell (p := ⟨ba, oa + k, none⟩) hal).trans hac
      have HX : Hid (xs.getD k 0 = (x : Int)) := hx
      obtain ⟨_, _, e1, _, hcell⟩ := hO.1.2.2.2 k (by omega)
      simp only [Option.some.injEq, Addr.mk.injEq, and_true] at e1
      obtain ⟨rfl, rfl⟩ := e1
      have hfz := (hO.2 _ _ k rfl (by omega)).2
      rw [Nat.zero_add] at hcell hfz
      generalize M.getD k 0 = old at hcell
      have ek : (((k + 1 : Nat) : Int) - 1) = (k : Int) := by omega
      rw [ek]
      obtain ⟨hh, h1⟩ : ∃ hh, hh = r * 4294967296 + x / 4294967296 := ⟨_, rfl⟩
      obtain ⟨lw, h2⟩ : ∃ lw, lw = hh % d * 4294967296 + x % 4294967296 := ⟨_, rfl⟩
      obtain ⟨n1, n2, n3, n4, n5⟩ := short_gen d r x hd0 hd1 hr hx1 hh lw h1 h2
      obtain ⟨q, hq⟩ : ∃ q, q = hh / d * 4294967296 + lw / d := ⟨_, rfl⟩
      obtain ⟨r2, hr2⟩ : ∃ r2, r2 = lw % d := ⟨_, rfl⟩
      obtain ⟨xh, hxh⟩ : ∃ xh, xh = x / 4294967296 := ⟨_, rfl⟩
      obtain ⟨xl, hxl⟩ : ∃ xl, xl = x % 4294967296 := ⟨_, rfl⟩
      obtain ⟨hq1, hhq⟩ : ∃ hq1, hq1 = hh / d := ⟨_, rfl⟩
      obtain ⟨hm1, hhm⟩ : ∃ hm1, hm1 = hh % d := ⟨_, rfl⟩
      obtain ⟨lq, hlq⟩ : ∃ lq, lq = lw / d := ⟨_, rfl⟩
      have d1 : (x : Int) / 4294967296 = (xh : Int) := by omega
      have d2 : (x : Int) % 4294967296 = (xl : Int) := by omega
      have d3 : (hh : Int) / (d : Int) = (hq1 : Int) := by rw [← Int.natCast_ediv, hhq]
      have d4 : (hh : Int) % (d : Int) = (hm1 : Int) := by rw [← Int.natCast_emod, hhm]
      have d5 : (lw : Int) / (d : Int) = (lq : Int) := by rw [← Int.natCast_ediv, hlq]
      have d6 : (lw : Int) % (d : Int) = (r2 : Int) := by rw [← Int.natCast_emod, hr2]
      have t3 : (hh : Int).tdiv (d : Int) = (hq1 : Int) := by rw [Int.tdiv_eq_ediv_of_nonneg (by omega)]; exact d3
      have t4 : (hh : Int).tmod (d : Int) = (hm1 : Int) := by rw [Int.tmod_eq_emod_of_nonneg (by omega)]; exact d4
      have t5 : (lw : Int).tdiv (d : Int) = (lq : Int) := by rw [Int.tdiv_eq_ediv_of_nonneg (by omega)]; exact d5
      have t6 : (lw : Int).tmod (d : Int) = (r2 : Int) := by rw [Int.tmod_eq_emod_of_nonneg (by omega)]; exact d6
      have u1 : IntKind.u64.wrap (xh : Int) = (xh : Int) := by rw [IntKind.wrap_u64]; omega
      have u2 : IntKind.u64.wrap (hq1 : Int) = (hq1 : Int) := by rw [IntKind.wrap_u64]; omega
      have u3 : IntKind.u64.wrap (lq : Int) = (lq : Int) := by rw [IntKind.wrap_u64]; omega
      obtain ⟨m1, hm1'⟩ : ∃ m1, m1 = r * 4294967296 := ⟨_, rfl⟩
      obtain ⟨m2, hm2'⟩ : ∃ m2, m2 = hm1 * 4294967296 := ⟨_, rfl⟩
      obtain ⟨m3, hm3'⟩ : ∃ m3, m3 = hq1 * 4294967296 := ⟨_, rfl⟩
      have s1 : IntKind.u64.wrap ((r : Int) * 4294967296) = (m1 : Int) := by rw [IntKind.wrap_u64]; omega
      have s2 : IntKind.u64.wrap ((m1 : Int) + (xh : Int)) = (hh : Int) := by rw [IntKind.wrap_u64]; omega
      have s3 : IntKind.u64.wrap ((hm1 : Int) * 4294967296) = (m2 : Int) := by rw [IntKind.wrap_u64]; omega
      have s4 : IntKind.u64.wrap ((m2 : Int) + (xl : Int)) = (lw : Int) := by rw [IntKind.wrap_u64]; omega
      have s5 : IntKind.u64.wrap ((hq1 : Int) * 4294967296) = (m3 : Int) := by rw [IntKind.wrap_u64]; omega
      have s6 : IntKind.u64.wrap ((m3 : Int) + (lq : Int)) = (q : Int) := by rw [IntKind.wrap_u64]; omega
      have HDS : Hid _ := divBy_step (val (xs.drop (k + 1))) (val (M.drop (k + 1))) x r d (by omega) HV.out HR.out
      rw [← n1, ← n2, ← hq, ← hr2] at HDS
      have hqb : q ≤ 18446744073709551615 := by omega
      have hrb : r2 < d := by rw [hr2]; exact Nat.mod_lt _ hd0
      subst hae
      have hne : ba ≠ w.heap.size := by omega
      clear hx hac h1 h2 n1 n2 n3 n4 n5 hq hr2 hxh hxl hhq hhm hlq hm1' hm2' hm3' ek hx1 HV HR
      go_wp2_with fail
      go_quiet (fail)
      go_wp2_with fail
      go_region
      all_goals
        clear d1 d2 d3 d4 d5 d6 t3 t4 t5 s1 s2 s3 s4 s5 s6 u1 u2 u3
        go_wp2_with fail
        have hL1 := HL.out
        have hL0 := HL0.out
        have hO3 := (hO.keep (below_drewN (Below.refl _ _) (nq + 1))).set (i := k) (by omega) (v := (q : Int)) (by omega) (by omega)
        rw [Nat.zero_add] at hO3
        refine ⟨⟨k, M.set k (q : Int), r2, by omega, rfl, rfl, hrb, ?_, ?_, hO3, (below_drewN hbr (nq + 1)).setCell (Nat.le_refl _) _⟩, by simp [intOf]⟩
        · rw [Hid, drop_set_val M k _ (by omega), Int.toNat_natCast, HDS.out.1, drop_val xs k (by omega), HX.out, Int.toNat_natCast]
        · rw [Hid, HDS.out.2, drop_val xs k (by omega), HX.out, Int.toNat_natCast]

end Go.Proofs.YtkkldnnndlpblaaGreatDoor

namespace Go.Proofs.YtkkldnnndlpblaaGreatDoor
open Go.RowKit Ck

section
variable {a a' : Option Addr} {len cap len' cap' x y : Nat} {w : World}
theorem own_fit {B : Nat} {w : World} {ao : Option Addr} {cv r : Nat} (h : Own B w ao cv (wordsOf r)) (g : greatB r = false) : (wordsOf r).length ≤ 1024 ∧ OwnW B w ao (wordsOf r).length cv (wordsOf r) := ⟨(great_len r).1 g, h.ownW (words_U _) rfl⟩

theorem dOf_eq {z : Int} (r : Nat) (h0 : z = (r : Int)) (h1 : r ≤ 18446744073709551615) :
    Calls Tryz.prog 49 #[.int .u64 z] w fun e w' => ∃ (ao : Option Addr) (n c : Nat), e = .returned (.slice ao n c) ∧ n ≤ 1024 ∧ OwnW w.heap.size w' ao n c (wordsOf r) ∧ Below w.heap.size w w' := by
  subst h0
  refine (nOf_calls (r : Int) w (by omega) (by omega)).mono ?_
  rintro e w' ⟨ao, cv, rfl, hO, hb⟩
  rw [Int.toNat_natCast] at hO ⊢
  obtain ⟨h1, h2⟩ := own_fit hO (cf_great (k := 64) (by omega) (by decide))
  exact ⟨ao, _, cv, rfl, h1, h2, hb⟩

theorem dAdd_eq (h : IsW w a len cap (wordsOf x)) (h' : IsW w a' len' cap' (wordsOf y)) (hm : len ≤ 1024) (hm' : len' ≤ 1024) (g : greatB (x + y) = false) :
    Calls Tryz.prog 98 #[.slice a len cap, .slice a' len' cap'] w fun e w' => ∃ (ao : Option Addr) (n c : Nat), e = .returned (.slice ao n c) ∧ n ≤ 1024 ∧ OwnW w.heap.size w' ao n c (wordsOf (x + y)) ∧ Below w.heap.size w w' := by
  refine (nAdd_calls a a' len cap len' cap' _ _ w h h' (by omega) (by omega)).mono ?_
  rintro e w' ⟨ao, cv, rfl, hO, hb⟩
  rw [val_words, val_words] at hO ⊢
  obtain ⟨h1, h2⟩ := own_fit hO g
  exact ⟨ao, _, cv, rfl, h1, h2, hb⟩

theorem dSub_eq (h : IsW w a len cap (wordsOf x)) (h' : IsW w a' len' cap' (wordsOf y)) (hm : len ≤ 1024) (hm' : len' ≤ 1024) (g : greatB x = false) (hle : y ≤ x) :
    Calls Tryz.prog 110 #[.slice a len cap, .slice a' len' cap'] w fun e w' => ∃ (ao : Option Addr) (n c : Nat), e = .returned (.slice ao n c) ∧ n ≤ 1024 ∧ OwnW w.heap.size w' ao n c (wordsOf (x - y)) ∧ Below w.heap.size w w' := by
  refine (nSub_calls a a' len cap len' cap' _ _ w h h' (by omega) (by omega) (by rw [val_words, val_words]; exact hle)).mono ?_
  rintro e w' ⟨ao, cv, rfl, hO, hb⟩
  rw [val_words, val_words] at hO ⊢
  obtain ⟨h1, h2⟩ := own_fit hO (great_mono (Nat.sub_le _ _) g)
  exact ⟨ao, _, cv, rfl, h1, h2, hb⟩

theorem dMul_eq (h : IsW w a len cap (wordsOf x)) (h' : IsW w a' len' cap' (wordsOf y)) (hm : len ≤ 1024) (hm' : len' ≤ 1024) (g : greatB (x * y) = false) :
    Calls Tryz.prog 50 #[.slice a len cap, .slice a' len' cap'] w fun e w' => ∃ (ao : Option Addr) (n c : Nat), e = .returned (.slice ao n c) ∧ n ≤ 1024 ∧ OwnW w.heap.size w' ao n c (wordsOf (x * y)) ∧ Below w.heap.size w w' := by
  refine (nMul_calls a a' len cap len' cap' _ _ w h h' (by omega) (by omega) (by rw [val_words, val_words, ← h.1, ← h'.1]; omega)).mono ?_
  rintro e w' ⟨ao, cv, rfl, hO, hb⟩
  rw [val_words, val_words] at hO ⊢
  obtain ⟨h1, h2⟩ := own_fit hO g
  exact ⟨ao, _, cv, rfl, h1, h2, hb⟩

theorem dShl_eq {m : Nat} (h : IsW w a len cap (wordsOf x)) (hm : len ≤ 1024) (hmm : m ≤ 65536) (g : greatB (x * 2 ^ m) = false) :
    Calls Tryz.prog 109 #[.slice a len cap, .int .i64 (m : Int)] w fun e w' => ∃ (ao : Option Addr) (n c : Nat), e = .returned (.slice ao n c) ∧ n ≤ 1024 ∧ OwnW w.heap.size w' ao n c (wordsOf (x * 2 ^ m)) ∧ Below w.heap.size w w' := by
  refine (nShl_calls a len cap m _ w h (by omega) (by omega)).mono ?_
  rintro e w' ⟨ao, cv, rfl, hO, hb⟩
  rw [val_words] at hO ⊢
  obtain ⟨h1, h2⟩ := own_fit hO g
  exact ⟨ao, _, cv, rfl, h1, h2, hb⟩

theorem dDiv_eq (h : IsW w a len cap (wordsOf x)) (h' : IsW w a' len' cap' (wordsOf y)) (hm : len ≤ 1024) (hm' : len' ≤ 1024) (g : greatB x = false) (hy : y ≠ 0) :
    Calls Tryz.prog 116 #[.slice a len cap, .slice a' len' cap'] w fun e w' => ∃ (a1 : Option Addr) (n1 c1 : Nat) (a2 : Option Addr) (n2 c2 : Nat), e = .returned (.tuple #[.slice a1 n1 c1, .slice a2 n2 c2]) ∧ n1 ≤ 1024 ∧ OwnW w.heap.size w' a1 n1 c1 (wordsOf (x / y)) ∧ n2 = (wordsOf (x % y)).length ∧ OwnW w.heap.size w' a2 n2 c2 (wordsOf (x % y)) ∧ Below w.heap.size w w' := by
  refine (nDiv_calls a a' len cap len' cap' _ _ w h h' (by omega) (by omega) (by rw [val_words]; exact (great_not x).1 g) (by rw [val_words]; exact hy)).mono ?_
  rintro e w' ⟨v, v', rfl, h1, h2, hb⟩
  rw [val_words, val_words] at h1 h2
  obtain ⟨a1, n1, c1, rfl, _, hn1, hO1⟩ := h1.open ((great_len _).1 (great_mono (Nat.div_le_self _ _) g))
  obtain ⟨a2, n2, c2, rfl, e2, hO2⟩ := h2
  exact ⟨a1, n1, c1, a2, n2, c2, rfl, hn1, hO1, e2, hO2, hb⟩

set_option maxHeartbeats 1000000 in
theorem dShort_eq {d : Nat} (hd0 : 0 < d) (hd1 : d < 65536) (h : IsW w a len cap (wordsOf x)) (hm : len ≤ 1024) (g : greatB x = false) :
    Calls Tryz.prog 146 #[.slice a len cap, .int .u64 (d : Int)] w fun e w' => ∃ (ao : Option Addr) (n c : Nat), e = .returned (.slice ao n c) ∧ n ≤ 1024 ∧ OwnW w.heap.size w' ao n c (wordsOf (x / d)) ∧ Below w.heap.size w w' := by
  have SC : Hid _ := dShort_calls d hd0 hd1 a len cap _ w h (by omega)
  rw [val_words] at SC
  have hl : (wordsOf (x / d)).length ≤ 1024 := (great_len _).1 (great_mono (Nat.div_le_self _ _) g)
  have HL : Hid _ := hl
  clear h hl
  go_enter Tryz.func146, Tryz.ntmps146
  go_wp2_with fail
  refine Calls.mono SC.out ?_
  rintro e w1 ⟨ao, n, c, rfl, hn, hO, hb⟩
  have HN : Hid _ := hn
  clear hn
  go_wp2_with fail
  go_ret
  exact ⟨ao, n, c, rfl, by rw [HN.out]; exact HL.out, hO, hb⟩

end
def FixV (a : Option Addr) (n c : Nat) (e : Nat) : Value := .agg #[.slice a n c, .int .u64 (e : Int)]

theorem ks_two (S : Nat → Prop) (w : World) (b : Nat) (hb : S b) (v0 v1 : Value) : Ks S w ((w.setCell ⟨b, 0, none⟩ v0).setCell ⟨b, 1, none⟩ v1) := (ks_set v0 hb).trans (ks_set v1 hb)

set_option maxRecDepth 100000 in
set_option maxHeartbeats 4000000 in
theorem fxAdd (a : Option Addr) (n c X ex : Nat) (a' : Option Addr) (n' c' Y ey : Nat) (w : World) (hX : IsW w a n c (wordsOf X)) (hn : n ≤ 1024) (hY : IsW w a' n' c' (wordsOf Y)) (hn' : n' ≤ 1024) (g : greatB (X + Y) = false) (he : ex + ey < 4294967296) :
    Calls Tryz.prog 114 #[FixV a n c ex, FixV a' n' c' ey] w fun r w' => ∃ (ao : Option Addr) (m d : Nat), r = .returned (FixV ao m d (ex + ey)) ∧ m ≤ 1024 ∧ OwnW w.heap.size w' ao m d (wordsOf (X + Y)) ∧ Below w.heap.size w w' := by
  have hE : IntKind.u64.wrap ((ex : Int) + (ey : Int)) = ((ex + ey : Nat) : Int) := by rw [IntKind.wrap_u64]; omega
  have bA := below_trans (below_trans (below_alloc w (.cells #[.slice a n c, .int .u64 (ex : Int)] 74)) (below_alloc (w.alloc (.cells #[.slice a n c, .int .u64 (ex : Int)] 74)) (.cells #[.slice a' n' c', .int .u64 (ey : Int)] 74))) (below_alloc ((w.alloc (.cells #[.slice a n c, .int .u64 (ex : Int)] 74)).alloc (.cells #[.slice a' n' c', .int .u64 (ey : Int)] 74)) (.cells #[.slice none 0 0, .int .u64 0] 74))
  have hX1 := hX.keepB bA
  have hY1 := hY.keepB bA
  have FA : Hid (∀ W : World, W = ((w.alloc (.cells #[.slice a n c, .int .u64 (ex : Int)] 74)).alloc (.cells #[.slice a' n' c', .int .u64 (ey : Int)] 74)).alloc (.cells #[.slice none 0 0, .int .u64 0] 74) → W.cell? ⟨w.heap.size, 0, none⟩ = some (.slice a n c) ∧ W.cell? ⟨w.heap.size, 1, none⟩ = some (.int .u64 (ex : Int)) ∧ W.cell? ⟨w.heap.size + 1, 0, none⟩ = some (.slice a' n' c') ∧ W.cell? ⟨w.heap.size + 1, 1, none⟩ = some (.int .u64 (ey : Int)) ∧ (W.cell? ⟨w.heap.size + 2, 0, none⟩ = some (.slice none 0 0) ∧ W.frozen? ⟨w.heap.size + 2, 0, none⟩ = false) ∧ (W.cell? ⟨w.heap.size + 2, 1, none⟩ = some (.int .u64 0) ∧ W.frozen? ⟨w.heap.size + 2, 1, none⟩ = false)) := fun W hW => by
    subst hW
    exact ⟨by go_simp, by go_simp, by go_simp, by go_simp, ⟨by go_simp, by go_simp⟩, ⟨by go_simp, by go_simp⟩⟩
  obtain ⟨q0, q1, p0, p1, ⟨z0, f0⟩, ⟨z1, f1⟩⟩ := FA.out _ rfl
  clear FA hX hY
  unfold FixV
  go_enter Tryz.func114, Tryz.ntmps114
  go_wp2_with fail
  generalize ((w.alloc (.cells #[.slice a n c, .int .u64 (ex : Int)] 74)).alloc (.cells #[.slice a' n' c', .int .u64 (ey : Int)] 74)).alloc (.cells #[.slice none 0 0, .int .u64 0] 74) = v at *
  have hz : w.heap.size + 2 < v.heap.size := World.block_lt_of_cell? _ _ z0
  generalize hB : w.heap.size = B at *
  generalize hR : B + 2 = R at *
  have kS : Ks (fun k => k = R) v v.drew := Ks.of_below ((Below.refl _ _).drew)
  have bD : Below v.heap.size v v.drew := (Below.refl _ _).drew
  refine wp_region_held (S := fun w' => Ks (fun k => k = R) v w') (by kernel_rfl) ?_
  change wpAnyH _ _ _ _ _ _ _ _ (World.drew v)
  generalize World.drew v = wd0 at kS bD ⊢
  refine wpAnyH_take (i := 0) (v := .pointer (some ⟨B, 0, none⟩)) rfl (by kernel_rfl) (by kernel_rfl) (by kernel_rfl) (fun _ _ _ h => h) (Or.inl ⟨by rfl, ?y0⟩) kS ?r0
  case y0 =>
    intro ww hS
    clear hS
    go_simp
    try first | (with_reducible rfl) | rfl
  try simp only [Act.put, List.setIfInBounds_toArray]
  refine wpAnyH_take (i := 1) (v := .slice a n c) rfl (by kernel_rfl) (by kernel_rfl) (by kernel_rfl) (fun _ _ _ h => h) (Or.inl ⟨by rfl, ?y1⟩) kS ?r1
  case y1 =>
    intro ww hS
    have q := hS.cell q0 (by show ¬ B = R; omega)
    clear hS
    go_simp
    try first | (with_reducible rfl) | rfl
  try simp only [Act.put]
  refine wpAnyH_take (i := 2) (v := .pointer (some ⟨B + 1, 0, none⟩)) rfl (by kernel_rfl) (by kernel_rfl) (by kernel_rfl) (fun _ _ _ h => h) (Or.inl ⟨by rfl, ?y2⟩) kS ?r2
  case y2 =>
    intro ww hS
    clear hS
    go_simp
    try first | (with_reducible rfl) | rfl
  try simp only [Act.put]
  refine wpAnyH_take (i := 3) (v := .slice a' n' c') rfl (by kernel_rfl) (by kernel_rfl) (by kernel_rfl) (fun _ _ _ h => h) (Or.inl ⟨by rfl, ?y3⟩) kS ?r3
  case y3 =>
    intro ww hS
    have q := hS.cell p0 (by show ¬ B + 1 = R; omega)
    clear hS
    go_simp
    try first | (with_reducible rfl) | rfl
  try simp only [Act.put]
  refine wpAnyH_take (i := 5) (v := .pointer (some ⟨B, 1, none⟩)) rfl (by kernel_rfl) (by kernel_rfl) (by kernel_rfl) (fun _ _ _ h => h) (Or.inl ⟨by rfl, ?y5⟩) kS ?r5
  case y5 =>
    intro ww hS
    clear hS
    go_simp
    try first | (with_reducible rfl) | rfl
  try simp only [Act.put]
  refine wpAnyH_take (i := 6) (v := .int .u64 (ex : Int)) rfl (by kernel_rfl) (by kernel_rfl) (by kernel_rfl) (fun _ _ _ h => h) (Or.inl ⟨by rfl, ?y6⟩) kS ?r6
  case y6 =>
    intro ww hS
    have q := hS.cell q1 (by show ¬ B = R; omega)
    clear hS
    go_simp
    try first | (with_reducible rfl) | rfl
  try simp only [Act.put]
  refine wpAnyH_take (i := 7) (v := .pointer (some ⟨B + 1, 1, none⟩)) rfl (by kernel_rfl) (by kernel_rfl) (by kernel_rfl) (fun _ _ _ h => h) (Or.inl ⟨by rfl, ?y7⟩) kS ?r7
  case y7 =>
    intro ww hS
    clear hS
    go_simp
    try first | (with_reducible rfl) | rfl
  try simp only [Act.put]
  refine wpAnyH_take (i := 8) (v := .int .u64 (ey : Int)) rfl (by kernel_rfl) (by kernel_rfl) (by kernel_rfl) (fun _ _ _ h => h) (Or.inl ⟨by rfl, ?y8⟩) kS ?r8
  case y8 =>
    intro ww hS
    have q := hS.cell p1 (by show ¬ B + 1 = R; omega)
    clear hS
    go_simp
    try first | (with_reducible rfl) | rfl
  try simp only [Act.put]
  refine wpAnyH_take (i := 9) (v := .int .u64 ((ex + ey : Nat) : Int)) rfl (by kernel_rfl) (by kernel_rfl) (by kernel_rfl) (fun _ _ _ h => h) (Or.inl ⟨by rfl, ?y9⟩) kS ?r9
  case y9 =>
    intro ww hS
    clear hS
    go_simp
    try first | (with_reducible rfl) | rfl
  try simp only [Act.put]
  refine wpAnyH_ready (rs := [4]) (by kernel_rfl) (by simp) ?_
  refine AllReadyH.cons rfl (fun K hK => ?_) AllReadyH.nil
  go_simp
  refine Calls.mono (dAdd_eq (hX1.keepB bD) (hY1.keepB bD) hn hn' g) ?_
  rintro r v4 ⟨ao, m, d, rfl, hm, hO, bN⟩
  have z4 := bD.size
  replace bD := below_trans bD bN
  refine hK.out _ _ (Ks.of_below bD) (fun _ => ?_)
  clear hK K
  try simp only [Act.put, List.setIfInBounds_toArray, List.set_cons_zero, List.set_cons_succ]
  clear bN
  refine wpAnyH_take (i := 10) (v := .agg #[.slice ao m d, .int .u64 ((ex + ey : Nat) : Int)]) rfl (by kernel_rfl) (by kernel_rfl) (by kernel_rfl) (fun _ _ _ h => h) (Or.inl ⟨by rfl, ?y10⟩) (Ks.of_below bD) ?r10
  case y10 =>
    intro ww hS
    clear hS
    go_simp
    try first | (with_reducible rfl) | rfl
  try simp only [Act.put, List.setIfInBounds_toArray]
  replace f0 := fKeep bD z0 f0
  replace f1 := fKeep bD z1 f1
  replace z0 := cKeep bD z0
  replace z1 := cKeep bD z1
  have KF := ks_two (fun k => k = R) v4 R rfl (.slice ao m d) (.int .u64 ((ex + ey : Nat) : Int))
  refine wpAnyH_ready (rs := [11]) (by kernel_rfl) (by simp) ?_
  refine AllReadyH.cons rfl (fun K hK => ?_) AllReadyH.nil
  go_simp
  refine hK.out _ _ ((Ks.of_below (S := fun k => k = R) bD).trans KF) (fun _ => ?_)
  clear hK K
  try simp only [Act.put, List.setIfInBounds_toArray, List.set_cons_zero, List.set_cons_succ]
  refine wpAnyH_done (by kernel_rfl) ?_ _
  go_wp2_with fail
  subst hB hR
  refine bodyPost_ret (v := FixV ao m d (ex + ey)) (by simp [results, Tryz.results114, go_sem, FixV, z0, z1]) rfl ⟨ao, m, d, rfl, hm, ?_, ?_⟩
  · exact (hO.keepS (hO.nw.noS (by rintro b rfl; omega)) KF).low (by omega)
  · exact (bA.trans (bD.mono (by omega))).trans (KF.below w.heap.size (by have := bD.size; omega) (fun b e => by omega))

set_option maxRecDepth 100000 in
set_option maxHeartbeats 4000000 in
theorem fxSub (a : Option Addr) (n c X ex : Nat) (a' : Option Addr) (n' c' Y ey : Nat) (w : World) (hX : IsW w a n c (wordsOf X)) (hn : n ≤ 1024) (hY : IsW w a' n' c' (wordsOf Y)) (hn' : n' ≤ 1024) (g : greatB X = false) (hl : Y + ey ≤ X) (he : ex + ey < 4294967296) :
    Calls Tryz.prog 111 #[FixV a n c ex, FixV a' n' c' ey] w fun r w' => ∃ (ao : Option Addr) (m d : Nat), r = .returned (FixV ao m d (ex + ey)) ∧ m ≤ 1024 ∧ OwnW w.heap.size w' ao m d (wordsOf (X - (Y + ey))) ∧ Below w.heap.size w w' := by
  have hE : IntKind.u64.wrap ((ex : Int) + (ey : Int)) = ((ex + ey : Nat) : Int) := by rw [IntKind.wrap_u64]; omega
  have g2 : greatB (Y + ey) = false := great_mono hl g
  have bA := below_trans (below_trans (below_alloc w (.cells #[.slice a n c, .int .u64 (ex : Int)] 74)) (below_alloc (w.alloc (.cells #[.slice a n c, .int .u64 (ex : Int)] 74)) (.cells #[.slice a' n' c', .int .u64 (ey : Int)] 74))) (below_alloc ((w.alloc (.cells #[.slice a n c, .int .u64 (ex : Int)] 74)).alloc (.cells #[.slice a' n' c', .int .u64 (ey : Int)] 74)) (.cells #[.slice none 0 0, .int .u64 0] 74))
  have hX1 := hX.keepB bA
  have hY1 := hY.keepB bA
  have FA : Hid (∀ W : World, W = ((w.alloc (.cells #[.slice a n c, .int .u64 (ex : Int)] 74)).alloc (.cells #[.slice a' n' c', .int .u64 (ey : Int)] 74)).alloc (.cells #[.slice none 0 0, .int .u64 0] 74) → W.cell? ⟨w.heap.size, 0, none⟩ = some (.slice a n c) ∧ W.cell? ⟨w.heap.size, 1, none⟩ = some (.int .u64 (ex : Int)) ∧ W.cell? ⟨w.heap.size + 1, 0, none⟩ = some (.slice a' n' c') ∧ W.cell? ⟨w.heap.size + 1, 1, none⟩ = some (.int .u64 (ey : Int)) ∧ (W.cell? ⟨w.heap.size + 2, 0, none⟩ = some (.slice none 0 0) ∧ W.frozen? ⟨w.heap.size + 2, 0, none⟩ = false) ∧ (W.cell? ⟨w.heap.size + 2, 1, none⟩ = some (.int .u64 0) ∧ W.frozen? ⟨w.heap.size + 2, 1, none⟩ = false)) := fun W hW => by
    subst hW
    exact ⟨by go_simp, by go_simp, by go_simp, by go_simp, ⟨by go_simp, by go_simp⟩, ⟨by go_simp, by go_simp⟩⟩
  obtain ⟨q0, q1, p0, p1, ⟨z0, f0⟩, ⟨z1, f1⟩⟩ := FA.out _ rfl
  clear FA hX hY
  unfold FixV
  go_enter Tryz.func111, Tryz.ntmps111
  go_wp2_with fail
  generalize ((w.alloc (.cells #[.slice a n c, .int .u64 (ex : Int)] 74)).alloc (.cells #[.slice a' n' c', .int .u64 (ey : Int)] 74)).alloc (.cells #[.slice none 0 0, .int .u64 0] 74) = v at *
  have hz : w.heap.size + 2 < v.heap.size := World.block_lt_of_cell? _ _ z0
  generalize hB : w.heap.size = B at *
  generalize hR : B + 2 = R at *
  have kS : Ks (fun k => k = R) v v.drew := Ks.of_below ((Below.refl _ _).drew)
  have bD : Below v.heap.size v v.drew := (Below.refl _ _).drew
  refine wp_region_held (S := fun w' => Ks (fun k => k = R) v w') (by kernel_rfl) ?_
  change wpAnyH _ _ _ _ _ _ _ _ (World.drew v)
  generalize World.drew v = wd0 at kS bD ⊢
  refine wpAnyH_take (i := 0) (v := .pointer (some ⟨B, 0, none⟩)) rfl (by kernel_rfl) (by kernel_rfl) (by kernel_rfl) (fun _ _ _ h => h) (Or.inl ⟨by rfl, ?y0⟩) kS ?r0
  case y0 =>
    intro ww hS
    clear hS
    go_simp
    try first | (with_reducible rfl) | rfl
  try simp only [Act.put, List.setIfInBounds_toArray]
  refine wpAnyH_take (i := 1) (v := .slice a n c) rfl (by kernel_rfl) (by kernel_rfl) (by kernel_rfl) (fun _ _ _ h => h) (Or.inl ⟨by rfl, ?y1⟩) kS ?r1
  case y1 =>
    intro ww hS
    have q := hS.cell q0 (by show ¬ B = R; omega)
    clear hS
    go_simp
    try first | (with_reducible rfl) | rfl
  try simp only [Act.put]
  refine wpAnyH_take (i := 2) (v := .pointer (some ⟨B + 1, 0, none⟩)) rfl (by kernel_rfl) (by kernel_rfl) (by kernel_rfl) (fun _ _ _ h => h) (Or.inl ⟨by rfl, ?y2⟩) kS ?r2
  case y2 =>
    intro ww hS
    clear hS
    go_simp
    try first | (with_reducible rfl) | rfl
  try simp only [Act.put]
  refine wpAnyH_take (i := 3) (v := .slice a' n' c') rfl (by kernel_rfl) (by kernel_rfl) (by kernel_rfl) (fun _ _ _ h => h) (Or.inl ⟨by rfl, ?y3⟩) kS ?r3
  case y3 =>
    intro ww hS
    have q := hS.cell p0 (by show ¬ B + 1 = R; omega)
    clear hS
    go_simp
    try first | (with_reducible rfl) | rfl
  try simp only [Act.put]
  refine wpAnyH_take (i := 4) (v := .pointer (some ⟨B + 1, 1, none⟩)) rfl (by kernel_rfl) (by kernel_rfl) (by kernel_rfl) (fun _ _ _ h => h) (Or.inl ⟨by rfl, ?y4⟩) kS ?r4
  case y4 =>
    intro ww hS
    clear hS
    go_simp
    try first | (with_reducible rfl) | rfl
  try simp only [Act.put]
  refine wpAnyH_take (i := 5) (v := .int .u64 (ey : Int)) rfl (by kernel_rfl) (by kernel_rfl) (by kernel_rfl) (fun _ _ _ h => h) (Or.inl ⟨by rfl, ?y5⟩) kS ?r5
  case y5 =>
    intro ww hS
    have q := hS.cell p1 (by show ¬ B + 1 = R; omega)
    clear hS
    go_simp
    try first | (with_reducible rfl) | rfl
  try simp only [Act.put]
  refine wpAnyH_take (i := 9) (v := .pointer (some ⟨B, 1, none⟩)) rfl (by kernel_rfl) (by kernel_rfl) (by kernel_rfl) (fun _ _ _ h => h) (Or.inl ⟨by rfl, ?y9⟩) kS ?r9
  case y9 =>
    intro ww hS
    clear hS
    go_simp
    try first | (with_reducible rfl) | rfl
  try simp only [Act.put]
  refine wpAnyH_take (i := 10) (v := .int .u64 (ex : Int)) rfl (by kernel_rfl) (by kernel_rfl) (by kernel_rfl) (fun _ _ _ h => h) (Or.inl ⟨by rfl, ?y10⟩) kS ?r10
  case y10 =>
    intro ww hS
    have q := hS.cell q1 (by show ¬ B = R; omega)
    clear hS
    go_simp
    try first | (with_reducible rfl) | rfl
  try simp only [Act.put]
  refine wpAnyH_take (i := 11) (v := .pointer (some ⟨B + 1, 1, none⟩)) rfl (by kernel_rfl) (by kernel_rfl) (by kernel_rfl) (fun _ _ _ h => h) (Or.inl ⟨by rfl, ?y11⟩) kS ?r11
  case y11 =>
    intro ww hS
    clear hS
    go_simp
    try first | (with_reducible rfl) | rfl
  try simp only [Act.put]
  refine wpAnyH_take (i := 12) (v := .int .u64 (ey : Int)) rfl (by kernel_rfl) (by kernel_rfl) (by kernel_rfl) (fun _ _ _ h => h) (Or.inl ⟨by rfl, ?y12⟩) kS ?r12
  case y12 =>
    intro ww hS
    have q := hS.cell p1 (by show ¬ B + 1 = R; omega)
    clear hS
    go_simp
    try first | (with_reducible rfl) | rfl
  try simp only [Act.put]
  refine wpAnyH_take (i := 13) (v := .int .u64 ((ex + ey : Nat) : Int)) rfl (by kernel_rfl) (by kernel_rfl) (by kernel_rfl) (fun _ _ _ h => h) (Or.inl ⟨by rfl, ?y13⟩) kS ?r13
  case y13 =>
    intro ww hS
    clear hS
    go_simp
    try first | (with_reducible rfl) | rfl
  try simp only [Act.put]
  refine wpAnyH_ready (rs := [6]) (by kernel_rfl) (by simp) ?_
  refine AllReadyH.cons rfl (fun K hK => ?_) AllReadyH.nil
  go_simp
  refine Calls.mono (dOf_eq ey rfl (by omega)) ?_
  rintro r v6 ⟨a6, m6, c6, rfl, hm6, hO6, bN⟩
  have z6 := bD.size
  replace bD := below_trans bD bN
  refine hK.out _ _ (Ks.of_below bD) (fun _ => ?_)
  clear hK K
  try simp only [Act.put, List.setIfInBounds_toArray, List.set_cons_zero, List.set_cons_succ]
  clear bN
  refine wpAnyH_ready (rs := [7]) (by kernel_rfl) (by simp) ?_
  refine AllReadyH.cons rfl (fun K hK => ?_) AllReadyH.nil
  go_simp
  refine Calls.mono (dAdd_eq (hY1.keepB bD) hO6.1 hn' hm6 g2) ?_
  rintro r v7 ⟨a7, m7, c7, rfl, hm7, hO7, bN⟩
  have z7 := bD.size
  replace bD := below_trans bD bN
  refine hK.out _ _ (Ks.of_below bD) (fun _ => ?_)
  clear hK K
  try simp only [Act.put, List.setIfInBounds_toArray, List.set_cons_zero, List.set_cons_succ]
  clear bN hO6
  refine wpAnyH_ready (rs := [8]) (by kernel_rfl) (by simp) ?_
  refine AllReadyH.cons rfl (fun K hK => ?_) AllReadyH.nil
  go_simp
  refine Calls.mono (dSub_eq (hX1.keepB bD) hO7.1 hn hm7 g hl) ?_
  rintro r v8 ⟨ao, m, d, rfl, hm, hO, bN⟩
  have z8 := bD.size
  replace bD := below_trans bD bN
  refine hK.out _ _ (Ks.of_below bD) (fun _ => ?_)
  clear hK K
  try simp only [Act.put, List.setIfInBounds_toArray, List.set_cons_zero, List.set_cons_succ]
  clear bN hO7
  refine wpAnyH_take (i := 14) (v := .agg #[.slice ao m d, .int .u64 ((ex + ey : Nat) : Int)]) rfl (by kernel_rfl) (by kernel_rfl) (by kernel_rfl) (fun _ _ _ h => h) (Or.inl ⟨by rfl, ?y14⟩) (Ks.of_below bD) ?r14
  case y14 =>
    intro ww hS
    clear hS
    go_simp
    try first | (with_reducible rfl) | rfl
  try simp only [Act.put, List.setIfInBounds_toArray]
  replace f0 := fKeep bD z0 f0
  replace f1 := fKeep bD z1 f1
  replace z0 := cKeep bD z0
  replace z1 := cKeep bD z1
  have KF := ks_two (fun k => k = R) v8 R rfl (.slice ao m d) (.int .u64 ((ex + ey : Nat) : Int))
  refine wpAnyH_ready (rs := [15]) (by kernel_rfl) (by simp) ?_
  refine AllReadyH.cons rfl (fun K hK => ?_) AllReadyH.nil
  go_simp
  refine hK.out _ _ ((Ks.of_below (S := fun k => k = R) bD).trans KF) (fun _ => ?_)
  clear hK K
  try simp only [Act.put, List.setIfInBounds_toArray, List.set_cons_zero, List.set_cons_succ]
  refine wpAnyH_done (by kernel_rfl) ?_ _
  go_wp2_with fail
  subst hB hR
  refine bodyPost_ret (v := FixV ao m d (ex + ey)) (by simp [results, Tryz.results111, go_sem, FixV, z0, z1]) rfl ⟨ao, m, d, rfl, hm, ?_, ?_⟩
  · exact (hO.keepS (hO.nw.noS (by rintro b rfl; omega)) KF).low (by omega)
  · exact (bA.trans (bD.mono (by omega))).trans (KF.below w.heap.size (by have := bD.size; omega) (fun b e => by omega))

set_option maxRecDepth 100000 in
set_option maxHeartbeats 4000000 in
theorem fxSmall (a : Option Addr) (n c X ex : Nat) (d0 : Nat) (w : World) (hX : IsW w a n c (wordsOf X)) (hn : n ≤ 1024) (hd0 : 0 < d0) (hd1 : d0 < 65536) (g : greatB X = false) (he : ex < 4294967296) :
    Calls Tryz.prog 115 #[FixV a n c ex, .int .u64 (d0 : Int)] w fun r w' => ∃ (ao : Option Addr) (m d : Nat), r = .returned (FixV ao m d (ex / d0 + 2)) ∧ m ≤ 1024 ∧ OwnW w.heap.size w' ao m d (wordsOf (X / d0)) ∧ Below w.heap.size w w' := by
  obtain ⟨Q, hQ⟩ : ∃ Q, Q = ex / d0 := ⟨_, rfl⟩
  have hQl : Q ≤ ex := by rw [hQ]; exact Nat.div_le_self _ _
  have hq : IntKind.u64.wrap ((ex : Int).tdiv (d0 : Int)) = (Q : Int) := by rw [Int.tdiv_eq_ediv_of_nonneg (by omega), ← Int.natCast_ediv, ← hQ, IntKind.wrap_u64]; omega
  have hq2 : (ex : Int).tdiv (d0 : Int) = (Q : Int) := by rw [Int.tdiv_eq_ediv_of_nonneg (by omega), ← Int.natCast_ediv, ← hQ]
  have hE : IntKind.u64.wrap ((Q : Int) + 2) = ((Q + 2 : Nat) : Int) := by rw [IntKind.wrap_u64]; omega
  have hd2 : ¬ (d0 : Int) = 0 := by omega
  have hd3 : ¬ d0 = 0 := by omega
  have hq3 : IntKind.u64.wrap (Q : Int) = (Q : Int) := by rw [IntKind.wrap_u64]; omega
  rw [← hQ]
  clear hQ
  have bA := below_trans (below_alloc w (.cells #[.slice a n c, .int .u64 (ex : Int)] 74)) (below_alloc (w.alloc (.cells #[.slice a n c, .int .u64 (ex : Int)] 74)) (.cells #[.slice none 0 0, .int .u64 0] 74))
  have hX1 := hX.keepB bA
  have FA : Hid (∀ W : World, W = (w.alloc (.cells #[.slice a n c, .int .u64 (ex : Int)] 74)).alloc (.cells #[.slice none 0 0, .int .u64 0] 74) → W.cell? ⟨w.heap.size, 0, none⟩ = some (.slice a n c) ∧ W.cell? ⟨w.heap.size, 1, none⟩ = some (.int .u64 (ex : Int)) ∧ (W.cell? ⟨w.heap.size + 1, 0, none⟩ = some (.slice none 0 0) ∧ W.frozen? ⟨w.heap.size + 1, 0, none⟩ = false) ∧ (W.cell? ⟨w.heap.size + 1, 1, none⟩ = some (.int .u64 0) ∧ W.frozen? ⟨w.heap.size + 1, 1, none⟩ = false)) := fun W hW => by
    subst hW
    exact ⟨by go_simp, by go_simp, ⟨by go_simp, by go_simp⟩, ⟨by go_simp, by go_simp⟩⟩
  obtain ⟨q0, q1, ⟨z0, f0⟩, ⟨z1, f1⟩⟩ := FA.out _ rfl
  clear FA hX
  unfold FixV
  go_enter Tryz.func115, Tryz.ntmps115
  go_wp2_with fail
  generalize (w.alloc (.cells #[.slice a n c, .int .u64 (ex : Int)] 74)).alloc (.cells #[.slice none 0 0, .int .u64 0] 74) = v at *
  have hz : w.heap.size + 1 < v.heap.size := World.block_lt_of_cell? _ _ z0
  generalize hB : w.heap.size = B at *
  generalize hR : B + 1 = R at *
  have kS : Ks (fun k => k = R) v v.drew := Ks.of_below ((Below.refl _ _).drew)
  have bD : Below v.heap.size v v.drew := (Below.refl _ _).drew
  refine wp_region_held (S := fun w' => Ks (fun k => k = R) v w') (by kernel_rfl) ?_
  change wpAnyH _ _ _ _ _ _ _ _ (World.drew v)
  generalize World.drew v = wd0 at kS bD ⊢
  refine wpAnyH_take (i := 0) (v := .pointer (some ⟨B, 0, none⟩)) rfl (by kernel_rfl) (by kernel_rfl) (by kernel_rfl) (fun _ _ _ h => h) (Or.inl ⟨by rfl, ?y0⟩) kS ?r0
  case y0 =>
    intro ww hS
    clear hS
    go_simp
    try first | (with_reducible rfl) | rfl
  try simp only [Act.put, List.setIfInBounds_toArray]
  refine wpAnyH_take (i := 1) (v := .slice a n c) rfl (by kernel_rfl) (by kernel_rfl) (by kernel_rfl) (fun _ _ _ h => h) (Or.inl ⟨by rfl, ?y1⟩) kS ?r1
  case y1 =>
    intro ww hS
    have q := hS.cell q0 (by show ¬ B = R; omega)
    clear hS
    go_simp
    try first | (with_reducible rfl) | rfl
  try simp only [Act.put]
  refine wpAnyH_take (i := 2) (v := .int .u64 (d0 : Int)) rfl (by kernel_rfl) (by kernel_rfl) (by kernel_rfl) (fun _ _ _ h => h) (Or.inl ⟨by rfl, ?y2⟩) kS ?r2
  case y2 =>
    intro ww hS
    clear hS
    go_simp
    try first | (with_reducible rfl) | rfl
  try simp only [Act.put]
  refine wpAnyH_take (i := 4) (v := .pointer (some ⟨B, 1, none⟩)) rfl (by kernel_rfl) (by kernel_rfl) (by kernel_rfl) (fun _ _ _ h => h) (Or.inl ⟨by rfl, ?y4⟩) kS ?r4
  case y4 =>
    intro ww hS
    clear hS
    go_simp
    try first | (with_reducible rfl) | rfl
  try simp only [Act.put]
  refine wpAnyH_take (i := 5) (v := .int .u64 (ex : Int)) rfl (by kernel_rfl) (by kernel_rfl) (by kernel_rfl) (fun _ _ _ h => h) (Or.inl ⟨by rfl, ?y5⟩) kS ?r5
  case y5 =>
    intro ww hS
    have q := hS.cell q1 (by show ¬ B = R; omega)
    clear hS
    go_simp
    try first | (with_reducible rfl) | rfl
  try simp only [Act.put]
  refine wpAnyH_take (i := 6) (v := .int .u64 (d0 : Int)) rfl (by kernel_rfl) (by kernel_rfl) (by kernel_rfl) (fun _ _ _ h => h) (Or.inl ⟨by rfl, ?y6⟩) kS ?r6
  case y6 =>
    intro ww hS
    clear hS
    go_simp
    try first | (with_reducible rfl) | rfl
  try simp only [Act.put]
  refine wpAnyH_take (i := 7) (v := .int .u64 (Q : Int)) rfl (by kernel_rfl) (by kernel_rfl) (by kernel_rfl) (fun _ _ _ h => h) (Or.inl ⟨by rfl, ?y7⟩) kS ?r7
  case y7 =>
    intro ww hS
    clear hS
    go_simp
    try first | (with_reducible rfl) | rfl
  try simp only [Act.put]
  refine wpAnyH_take (i := 8) (v := .int .u64 ((Q + 2 : Nat) : Int)) rfl (by kernel_rfl) (by kernel_rfl) (by kernel_rfl) (fun _ _ _ h => h) (Or.inl ⟨by rfl, ?y8⟩) kS ?r8
  case y8 =>
    intro ww hS
    clear hS
    go_simp
    try first | (with_reducible rfl) | rfl
  try simp only [Act.put]
  refine wpAnyH_ready (rs := [3]) (by kernel_rfl) (by simp) ?_
  refine AllReadyH.cons rfl (fun K hK => ?_) AllReadyH.nil
  go_simp
  refine Calls.mono (dShort_eq hd0 hd1 (hX1.keepB bD) hn g) ?_
  rintro r v3 ⟨ao, m, d, rfl, hm, hO, bN⟩
  have z3 := bD.size
  replace bD := below_trans bD bN
  refine hK.out _ _ (Ks.of_below bD) (fun _ => ?_)
  clear hK K
  try simp only [Act.put, List.setIfInBounds_toArray, List.set_cons_zero, List.set_cons_succ]
  clear bN
  refine wpAnyH_take (i := 9) (v := .agg #[.slice ao m d, .int .u64 ((Q + 2 : Nat) : Int)]) rfl (by kernel_rfl) (by kernel_rfl) (by kernel_rfl) (fun _ _ _ h => h) (Or.inl ⟨by rfl, ?y9⟩) (Ks.of_below bD) ?r9
  case y9 =>
    intro ww hS
    clear hS
    go_simp
    try first | (with_reducible rfl) | rfl
  try simp only [Act.put, List.setIfInBounds_toArray]
  replace f0 := fKeep bD z0 f0
  replace f1 := fKeep bD z1 f1
  replace z0 := cKeep bD z0
  replace z1 := cKeep bD z1
  have KF := ks_two (fun k => k = R) v3 R rfl (.slice ao m d) (.int .u64 ((Q + 2 : Nat) : Int))
  refine wpAnyH_ready (rs := [10]) (by kernel_rfl) (by simp) ?_
  refine AllReadyH.cons rfl (fun K hK => ?_) AllReadyH.nil
  go_simp
  refine hK.out _ _ ((Ks.of_below (S := fun k => k = R) bD).trans KF) (fun _ => ?_)
  clear hK K
  try simp only [Act.put, List.setIfInBounds_toArray, List.set_cons_zero, List.set_cons_succ]
  refine wpAnyH_done (by kernel_rfl) ?_ _
  go_wp2_with fail
  subst hB hR
  refine bodyPost_ret (v := FixV ao m d (Q + 2)) (by simp [results, Tryz.results115, go_sem, FixV, z0, z1]) rfl ⟨ao, m, d, rfl, hm, ?_, ?_⟩
  · exact (hO.keepS (hO.nw.noS (by rintro b rfl; omega)) KF).low (by omega)
  · exact (bA.trans (bD.mono (by omega))).trans (KF.below w.heap.size (by have := bD.size; omega) (fun b e => by omega))

set_option maxRecDepth 100000 in
set_option maxHeartbeats 4000000 in
theorem fxTimes (a : Option Addr) (n c X ex : Nat) (d0 : Nat) (w : World) (hX : IsW w a n c (wordsOf X)) (hn : n ≤ 1024) (hd1 : d0 < 65536) (g : greatB (X * d0) = false) (he : ex < 4294967296) :
    Calls Tryz.prog 112 #[FixV a n c ex, .int .u64 (d0 : Int)] w fun r w' => ∃ (ao : Option Addr) (m d : Nat), r = .returned (FixV ao m d (ex * d0)) ∧ m ≤ 1024 ∧ OwnW w.heap.size w' ao m d (wordsOf (X * d0)) ∧ Below w.heap.size w w' := by
  have hE : IntKind.u64.wrap ((ex : Int) * (d0 : Int)) = ((ex * d0 : Nat) : Int) := by
    have h1 : ex * d0 ≤ 4294967296 * 65536 := Nat.mul_le_mul (by omega) (by omega)
    rw [IntKind.wrap_u64, ← Int.natCast_mul]; omega
  have bA := below_trans (below_alloc w (.cells #[.slice a n c, .int .u64 (ex : Int)] 74)) (below_alloc (w.alloc (.cells #[.slice a n c, .int .u64 (ex : Int)] 74)) (.cells #[.slice none 0 0, .int .u64 0] 74))
  have hX1 := hX.keepB bA
  have FA : Hid (∀ W : World, W = (w.alloc (.cells #[.slice a n c, .int .u64 (ex : Int)] 74)).alloc (.cells #[.slice none 0 0, .int .u64 0] 74) → W.cell? ⟨w.heap.size, 0, none⟩ = some (.slice a n c) ∧ W.cell? ⟨w.heap.size, 1, none⟩ = some (.int .u64 (ex : Int)) ∧ (W.cell? ⟨w.heap.size + 1, 0, none⟩ = some (.slice none 0 0) ∧ W.frozen? ⟨w.heap.size + 1, 0, none⟩ = false) ∧ (W.cell? ⟨w.heap.size + 1, 1, none⟩ = some (.int .u64 0) ∧ W.frozen? ⟨w.heap.size + 1, 1, none⟩ = false)) := fun W hW => by
    subst hW
    exact ⟨by go_simp, by go_simp, ⟨by go_simp, by go_simp⟩, ⟨by go_simp, by go_simp⟩⟩
  obtain ⟨q0, q1, ⟨z0, f0⟩, ⟨z1, f1⟩⟩ := FA.out _ rfl
  clear FA hX
  unfold FixV
  go_enter Tryz.func112, Tryz.ntmps112
  go_wp2_with fail
  generalize (w.alloc (.cells #[.slice a n c, .int .u64 (ex : Int)] 74)).alloc (.cells #[.slice none 0 0, .int .u64 0] 74) = v at *
  have hz : w.heap.size + 1 < v.heap.size := World.block_lt_of_cell? _ _ z0
  generalize hB : w.heap.size = B at *
  generalize hR : B + 1 = R at *
  have kS : Ks (fun k => k = R) v v.drew := Ks.of_below ((Below.refl _ _).drew)
  have bD : Below v.heap.size v v.drew := (Below.refl _ _).drew
  refine wp_region_held (S := fun w' => Ks (fun k => k = R) v w') (by kernel_rfl) ?_
  change wpAnyH _ _ _ _ _ _ _ _ (World.drew v)
  generalize World.drew v = wd0 at kS bD ⊢
  refine wpAnyH_take (i := 0) (v := .pointer (some ⟨B, 0, none⟩)) rfl (by kernel_rfl) (by kernel_rfl) (by kernel_rfl) (fun _ _ _ h => h) (Or.inl ⟨by rfl, ?y0⟩) kS ?r0
  case y0 =>
    intro ww hS
    clear hS
    go_simp
    try first | (with_reducible rfl) | rfl
  try simp only [Act.put, List.setIfInBounds_toArray]
  refine wpAnyH_take (i := 1) (v := .slice a n c) rfl (by kernel_rfl) (by kernel_rfl) (by kernel_rfl) (fun _ _ _ h => h) (Or.inl ⟨by rfl, ?y1⟩) kS ?r1
  case y1 =>
    intro ww hS
    have q := hS.cell q0 (by show ¬ B = R; omega)
    clear hS
    go_simp
    try first | (with_reducible rfl) | rfl
  try simp only [Act.put]
  refine wpAnyH_take (i := 2) (v := .int .u64 (d0 : Int)) rfl (by kernel_rfl) (by kernel_rfl) (by kernel_rfl) (fun _ _ _ h => h) (Or.inl ⟨by rfl, ?y2⟩) kS ?r2
  case y2 =>
    intro ww hS
    clear hS
    go_simp
    try first | (with_reducible rfl) | rfl
  try simp only [Act.put]
  refine wpAnyH_take (i := 5) (v := .pointer (some ⟨B, 1, none⟩)) rfl (by kernel_rfl) (by kernel_rfl) (by kernel_rfl) (fun _ _ _ h => h) (Or.inl ⟨by rfl, ?y5⟩) kS ?r5
  case y5 =>
    intro ww hS
    clear hS
    go_simp
    try first | (with_reducible rfl) | rfl
  try simp only [Act.put]
  refine wpAnyH_take (i := 6) (v := .int .u64 (ex : Int)) rfl (by kernel_rfl) (by kernel_rfl) (by kernel_rfl) (fun _ _ _ h => h) (Or.inl ⟨by rfl, ?y6⟩) kS ?r6
  case y6 =>
    intro ww hS
    have q := hS.cell q1 (by show ¬ B = R; omega)
    clear hS
    go_simp
    try first | (with_reducible rfl) | rfl
  try simp only [Act.put]
  refine wpAnyH_take (i := 7) (v := .int .u64 (d0 : Int)) rfl (by kernel_rfl) (by kernel_rfl) (by kernel_rfl) (fun _ _ _ h => h) (Or.inl ⟨by rfl, ?y7⟩) kS ?r7
  case y7 =>
    intro ww hS
    clear hS
    go_simp
    try first | (with_reducible rfl) | rfl
  try simp only [Act.put]
  refine wpAnyH_take (i := 8) (v := .int .u64 ((ex * d0 : Nat) : Int)) rfl (by kernel_rfl) (by kernel_rfl) (by kernel_rfl) (fun _ _ _ h => h) (Or.inl ⟨by rfl, ?y8⟩) kS ?r8
  case y8 =>
    intro ww hS
    clear hS
    go_simp
    try first | (with_reducible rfl) | rfl
  try simp only [Act.put]
  refine wpAnyH_ready (rs := [3]) (by kernel_rfl) (by simp) ?_
  refine AllReadyH.cons rfl (fun K hK => ?_) AllReadyH.nil
  go_simp
  refine Calls.mono (dOf_eq d0 rfl (by omega)) ?_
  rintro r v3 ⟨a6, m6, c6, rfl, hm6, hO6, bN⟩
  have z3 := bD.size
  replace bD := below_trans bD bN
  refine hK.out _ _ (Ks.of_below bD) (fun _ => ?_)
  clear hK K
  try simp only [Act.put, List.setIfInBounds_toArray, List.set_cons_zero, List.set_cons_succ]
  clear bN
  refine wpAnyH_ready (rs := [4]) (by kernel_rfl) (by simp) ?_
  refine AllReadyH.cons rfl (fun K hK => ?_) AllReadyH.nil
  go_simp
  refine Calls.mono (dMul_eq (hX1.keepB bD) hO6.1 hn hm6 g) ?_
  rintro r v4 ⟨ao, m, d, rfl, hm, hO, bN⟩
  have z4 := bD.size
  replace bD := below_trans bD bN
  refine hK.out _ _ (Ks.of_below bD) (fun _ => ?_)
  clear hK K
  try simp only [Act.put, List.setIfInBounds_toArray, List.set_cons_zero, List.set_cons_succ]
  clear bN hO6
  refine wpAnyH_take (i := 9) (v := .agg #[.slice ao m d, .int .u64 ((ex * d0 : Nat) : Int)]) rfl (by kernel_rfl) (by kernel_rfl) (by kernel_rfl) (fun _ _ _ h => h) (Or.inl ⟨by rfl, ?y9⟩) (Ks.of_below bD) ?r9
  case y9 =>
    intro ww hS
    clear hS
    go_simp
    try first | (with_reducible rfl) | rfl
  try simp only [Act.put, List.setIfInBounds_toArray]
  replace f0 := fKeep bD z0 f0
  replace f1 := fKeep bD z1 f1
  replace z0 := cKeep bD z0
  replace z1 := cKeep bD z1
  have KF := ks_two (fun k => k = R) v4 R rfl (.slice ao m d) (.int .u64 ((ex * d0 : Nat) : Int))
  refine wpAnyH_ready (rs := [10]) (by kernel_rfl) (by simp) ?_
  refine AllReadyH.cons rfl (fun K hK => ?_) AllReadyH.nil
  go_simp
  refine hK.out _ _ ((Ks.of_below (S := fun k => k = R) bD).trans KF) (fun _ => ?_)
  clear hK K
  try simp only [Act.put, List.setIfInBounds_toArray, List.set_cons_zero, List.set_cons_succ]
  refine wpAnyH_done (by kernel_rfl) ?_ _
  go_wp2_with fail
  subst hB hR
  refine bodyPost_ret (v := FixV ao m d (ex * d0)) (by simp [results, Tryz.results112, go_sem, FixV, z0, z1]) rfl ⟨ao, m, d, rfl, hm, ?_, ?_⟩
  · exact (hO.keepS (hO.nw.noS (by rintro b rfl; omega)) KF).low (by omega)
  · exact (bA.trans (bD.mono (by omega))).trans (KF.below w.heap.size (by have := bD.size; omega) (fun b e => by omega))

end Go.Proofs.YtkkldnnndlpblaaGreatDoor

namespace Go.Proofs.YtkkldnnndlpblaaGreatDoor
open Go.RowKit Ck

/-- a number with its error in block b, its words in no block of Z -/
def FxAt (Z : Nat → Prop) (B : Nat) (w : World) (b X e : Nat) : Prop := ∃ (a : Option Addr) (n c : Nat), w.cell? ⟨b, 0, none⟩ = some (.slice a n c) ∧ w.frozen? ⟨b, 0, none⟩ = false ∧ w.cell? ⟨b, 1, none⟩ = some (.int .u64 (e : Int)) ∧ w.frozen? ⟨b, 1, none⟩ = false ∧ n ≤ 1024 ∧ OwnW B w a n c (wordsOf X) ∧ NoS Z a n

theorem FxAt.keep {Z S : Nat → Prop} {B b X e : Nat} {w w' : World} (h : FxAt Z B w b X e) (K : Ks S w w') (hb : ¬ S b) (hZ : ∀ k, S k → Z k) : FxAt Z B w' b X e := by
  obtain ⟨a, n, c, k1, k2, k3, k4, k5, k6, k7⟩ := h
  exact ⟨a, n, c, K.cell k1 hb, K.frozen k1 hb k2, K.cell k3 hb, K.frozen k3 hb k4, k5, k6.keepS (fun x o e hn hx => k7 x o e hn (hZ x hx)) K, k7⟩

theorem FxAt.keepB {Z : Nat → Prop} {B b X e : Nat} {w w' : World} (h : FxAt Z B w b X e) (K : Below w.heap.size w w') : FxAt Z B w' b X e := h.keep (Ks.of_below (S := fun _ => False) K) (fun e => e) (fun _ e => e.elim)

theorem FxAt.lt {Z : Nat → Prop} {B b X e : Nat} {w : World} (h : FxAt Z B w b X e) : b < w.heap.size := by
  obtain ⟨a, n, c, k1, -⟩ := h
  exact World.block_lt_of_cell? _ _ k1

theorem FxAt.put {Z : Nat → Prop} {B b X e r : Nat} {w : World} {a : Option Addr} {n c : Nat} (e' : Nat) (h : FxAt Z B w b X e) (hZ : Z b) (hn : n ≤ 1024) (hi : OwnW B w a n c (wordsOf r)) (hz : NoS Z a n) :
    FxAt Z B ((w.setCell ⟨b, 0, none⟩ (.slice a n c)).setCell ⟨b, 1, none⟩ (.int .u64 (e' : Int))) b r e' ∧ Ks (fun k => k = b) w ((w.setCell ⟨b, 0, none⟩ (.slice a n c)).setCell ⟨b, 1, none⟩ (.int .u64 (e' : Int))) := by
  obtain ⟨a0, n0, c0, k1, k2, k3, k4, k5, k6, k7⟩ := h
  obtain ⟨t1, t2, t3⟩ := st1 (S := fun k => k = b) (.slice a n c) k1 k2 rfl
  have e1 : (w.setCell ⟨b, 0, none⟩ (.slice a n c)).cell? ⟨b, 1, none⟩ = some (.int .u64 (e : Int)) := (World.cell?_setCell_other w ⟨b, 0, none⟩ ⟨b, 1, none⟩ (.slice a n c) (by simp)).trans k3
  have e2 : (w.setCell ⟨b, 0, none⟩ (.slice a n c)).frozen? ⟨b, 1, none⟩ = false := (World.frozen?_setCell w _ _ _).trans k4
  obtain ⟨u1, u2, u3⟩ := st1 (S := fun k => k = b) (.int .u64 (e' : Int)) e1 e2 rfl
  have K := t3.trans u3
  have f1 : ((w.setCell ⟨b, 0, none⟩ (.slice a n c)).setCell ⟨b, 1, none⟩ (.int .u64 (e' : Int))).cell? ⟨b, 0, none⟩ = some (.slice a n c) := (World.cell?_setCell_other _ ⟨b, 1, none⟩ ⟨b, 0, none⟩ _ (by simp)).trans t1
  exact ⟨⟨a, n, c, f1, (World.frozen?_setCell _ _ _ _).trans t2, u1, u2, hn, hi.keepS (fun x o e hn hx => hz x o e hn (by rw [hx]; exact hZ)) K, hz⟩, K⟩

theorem fx_zero (Z : Nat → Prop) (B : Nat) (w : World) : FxAt Z B (w.alloc (.cells #[.slice none 0 0, .int .u64 0] 74)) w.heap.size 0 0 :=
  ⟨none, 0, 0, by go_simp, by go_simp, by go_simp, by go_simp, by decide, by rw [words_zero]; exact ownW_nil _ _, NoS.nil Z⟩

theorem fx_new {Z : Nat → Prop} {B : Nat} {w : World} {a : Option Addr} {n c X : Nat} (e : Nat) (hn : n ≤ 1024) (hi : OwnW B w a n c (wordsOf X)) (hz : NoS Z a n) :
    FxAt Z B (w.alloc (.cells #[.slice a n c, .int .u64 (e : Int)] 74)) w.heap.size X e :=
  ⟨a, n, c, by go_simp, by go_simp, by go_simp, by go_simp, hn, hi.keep (below_alloc w (.cells #[.slice a n c, .int .u64 (e : Int)] 74)), hz⟩

theorem fxSmall2 {a : Option Addr} {n c X : Nat} (ex d0 : Nat) {w : World} (hX : IsW w a n c (wordsOf X)) (hn : n ≤ 1024) (h3 : 3 ≤ d0) (hd1 : d0 < 65536) (g : greatB X = false) (he : ex ≤ 2) :
    Calls Tryz.prog 115 #[.agg #[.slice a n c, .int .u64 (ex : Int)], .int .u64 (d0 : Int)] w fun r w' => ∃ (ao : Option Addr) (m d e : Nat), r = .returned (.agg #[.slice ao m d, .int .u64 (e : Int)]) ∧ Hid (e = 2) ∧ m ≤ 1024 ∧ OwnW w.heap.size w' ao m d (wordsOf (X / d0)) ∧ Below w.heap.size w w' := by
  refine Calls.mono (fxSmall a n c X ex d0 w hX hn (by omega) hd1 g (by omega)) ?_
  rintro r w' ⟨ao, m, d, rfl, h1, h2, h3⟩
  exact ⟨ao, m, d, _, rfl, (by show ex / d0 + 2 = 2; rw [Nat.div_eq_of_lt (by omega)]), h1, h2, h3⟩

theorem fxAdd2 {a a' : Option Addr} {n c X n' c' Y : Nat} (ex ey : Nat) {w : World} (hX : IsW w a n c (wordsOf X)) (hn : n ≤ 1024) (hY : IsW w a' n' c' (wordsOf Y)) (hn' : n' ≤ 1024) (g : greatB (X + Y) = false) (he : ex + ey < 4294967296) :
    Calls Tryz.prog 114 #[.agg #[.slice a n c, .int .u64 (ex : Int)], .agg #[.slice a' n' c', .int .u64 (ey : Int)]] w fun r w' => ∃ (ao : Option Addr) (m d e : Nat), r = .returned (.agg #[.slice ao m d, .int .u64 (e : Int)]) ∧ Hid (e = ex + ey) ∧ m ≤ 1024 ∧ OwnW w.heap.size w' ao m d (wordsOf (X + Y)) ∧ Below w.heap.size w w' := by
  refine Calls.mono (fxAdd a n c X ex a' n' c' Y ey w hX hn hY hn' g he) ?_
  rintro r w' ⟨ao, m, d, rfl, h1, h2, h3⟩
  exact ⟨ao, m, d, _, rfl, rfl, h1, h2, h3⟩

theorem fxSub2 {a a' : Option Addr} {n c X n' c' Y : Nat} (ex ey : Nat) {w : World} (hX : IsW w a n c (wordsOf X)) (hn : n ≤ 1024) (hY : IsW w a' n' c' (wordsOf Y)) (hn' : n' ≤ 1024) (g : greatB X = false) (hl : Y + ey ≤ X) (he : ex + ey < 4294967296) :
    Calls Tryz.prog 111 #[.agg #[.slice a n c, .int .u64 (ex : Int)], .agg #[.slice a' n' c', .int .u64 (ey : Int)]] w fun r w' => ∃ (ao : Option Addr) (m d e : Nat), r = .returned (.agg #[.slice ao m d, .int .u64 (e : Int)]) ∧ Hid (e = ex + ey) ∧ m ≤ 1024 ∧ OwnW w.heap.size w' ao m d (wordsOf (X - (Y + ey))) ∧ Below w.heap.size w w' := by
  refine Calls.mono (fxSub a n c X ex a' n' c' Y ey w hX hn hY hn' g hl he) ?_
  rintro r w' ⟨ao, m, d, rfl, h1, h2, h3⟩
  exact ⟨ao, m, d, _, rfl, rfl, h1, h2, h3⟩

theorem fxTimes2 {a : Option Addr} {n c X : Nat} (ex d0 : Nat) {w : World} (hX : IsW w a n c (wordsOf X)) (hn : n ≤ 1024) (hd1 : d0 < 65536) (g : greatB (X * d0) = false) (he : ex < 4294967296) :
    Calls Tryz.prog 112 #[.agg #[.slice a n c, .int .u64 (ex : Int)], .int .u64 (d0 : Int)] w fun r w' => ∃ (ao : Option Addr) (m d e : Nat), r = .returned (.agg #[.slice ao m d, .int .u64 (e : Int)]) ∧ Hid (e = ex * d0) ∧ m ≤ 1024 ∧ OwnW w.heap.size w' ao m d (wordsOf (X * d0)) ∧ Below w.heap.size w w' := by
  refine Calls.mono (fxTimes a n c X ex d0 w hX hn hd1 g he) ?_
  rintro r w' ⟨ao, m, d, rfl, h1, h2, h3⟩
  exact ⟨ao, m, d, _, rfl, rfl, h1, h2, h3⟩

set_option maxRecDepth 100000 in
set_option maxHeartbeats 2000000 in
theorem fxOne (q : Nat) (hq : q ≤ 65000) (w : World) : Calls Tryz.prog 77 #[.int .i64 (q : Int)] w fun r w' => ∃ (ao : Option Addr) (m d : Nat), r = .returned (FixV ao m d 0) ∧ m ≤ 1024 ∧ OwnW w.heap.size w' ao m d (wordsOf (2 ^ q)) ∧ Below w.heap.size w w' := by
  have g : greatB (1 * 2 ^ q) = false := cf_great (k := q + 1) (by rw [Nat.one_mul]; exact Nat.pow_lt_pow_right (by decide) (by omega)) (by omega)
  have bA := below_alloc w (.cells #[.slice none 0 0, .int .u64 0] 74)
  have C := fx_zero (fun k => k = w.heap.size) w.heap.size w
  go_enter Tryz.func77, Tryz.ntmps77
  go_wp2_with fail
  generalize w.alloc (.cells #[.slice none 0 0, .int .u64 0] 74) = v at *
  have CB : w.heap.size < v.heap.size := C.lt
  refine Calls.mono (dOf_eq 1 rfl (by decide)) ?_
  rintro r w1 ⟨a1, m1, c1, rfl, hm1, hO1, b1⟩
  go_wp2_with fail
  refine Calls.mono (dShl_eq hO1.1 hm1 (by omega) g) ?_
  rintro r w2 ⟨ao, m, d, rfl, hm, hO, b2⟩
  have b3 := below_trans b1 b2
  have C2 := C.keepB b3
  rw [Nat.one_mul] at hO
  obtain ⟨a0, n0, c0, z0, f0, z1, f1, -⟩ := C2
  have hz := b3.size
  have hz2 := bA.size
  have hz3 := b1.size
  go_wp2_with fail
  have KF := ks_two (fun k => k = w.heap.size) w2 w.heap.size rfl (.slice ao m d) (.int .u64 ((0 : Nat) : Int))
  refine bodyPost_ret (v := FixV ao m d 0) (by simp [results, Tryz.results77, go_sem, FixV, z0, z1]) rfl ⟨ao, m, d, rfl, hm, ?_, ?_⟩
  · exact (hO.keepS (hO.nw.noS (fun b (e : b = w.heap.size) => by omega)) KF).low (by omega)
  · exact (bA.trans (b3.mono (by omega))).trans (KF.below w.heap.size (by omega) (fun b (e : b = w.heap.size) => by omega))

theorem div_nn (q n j : Nat) : 2 ^ q / (n * (n * n) ^ j) / n / n = 2 ^ q / (n * (n * n) ^ (j + 1)) := by
  rw [Nat.div_div_eq_div_mul, Nat.div_div_eq_div_mul, Nat.pow_succ, Nat.mul_assoc]

theorem sd_dq (n j : Nat) (tn : Bool) : sd (dq n tn) j = (tn && j % 2 == 1) := by
  cases tn
  · rfl
  · show (false != (true && j % 2 == 1)) = (true && j % 2 == 1)
    cases (j % 2 == 1) <;> rfl

theorem ns_step (p : Pt) (s : Bool) (j : Nat) : ns p s (j + 1) = ns p s j + if sd p j = s then 1 else 0 := rfl

set_option maxRecDepth 100000 in
set_option maxHeartbeats 4000000 in
def zB (B C : Nat) : Nat → Prop := fun k => k = B ∨ k = C ∨ k = C + 1 ∨ k = C + 1 + 1

theorem stepT {n j q : Nat} {tn : Bool} (h : sd (dq n tn) j = true) : sm (dq n tn) q true (j + 1) = sm (dq n tn) q true j + term (dq n tn) q j ∧ sm (dq n tn) q false (j + 1) = sm (dq n tn) q false j ∧ ns (dq n tn) true (j + 1) = ns (dq n tn) true j + 1 ∧ ns (dq n tn) false (j + 1) = ns (dq n tn) false j := by
  rw [sm_step, sm_step, ns_step, ns_step, h]; exact ⟨rfl, rfl, rfl, rfl⟩

theorem stepF {n j q : Nat} {tn : Bool} (h : sd (dq n tn) j = false) : sm (dq n tn) q false (j + 1) = sm (dq n tn) q false j + term (dq n tn) q j ∧ sm (dq n tn) q true (j + 1) = sm (dq n tn) q true j ∧ ns (dq n tn) false (j + 1) = ns (dq n tn) false j + 1 ∧ ns (dq n tn) true (j + 1) = ns (dq n tn) true j := by
  rw [sm_step, sm_step, ns_step, ns_step, h]; exact ⟨rfl, rfl, rfl, rfl⟩

/-- where the document's series stands after j terms -/
def InvR (n q : Nat) (tn : Bool) (w : World) (C j e : Nat) (wr : World) : Prop :=
  FxAt (zB w.heap.size C) w.heap.size wr C (2 ^ q / (n * (n * n) ^ j)) e ∧ FxAt (zB w.heap.size C) w.heap.size wr (C + 1) (sm (dq n tn) q false (j + 1)) (2 * ns (dq n tn) false (j + 1)) ∧ FxAt (zB w.heap.size C) w.heap.size wr (C + 1 + 1) (sm (dq n tn) q true (j + 1)) (2 * ns (dq n tn) true (j + 1)) ∧ FxAt (zB w.heap.size C) w.heap.size wr w.heap.size 0 0 ∧ Below w.heap.size w wr

theorem inv0 {n q e : Nat} {tn : Bool} {w w2 : World} {a : Option Addr} {m c : Nat} (hw : w.heap.size < w2.heap.size) (hm : m ≤ 1024) (hO : OwnW w.heap.size w2 a m c (wordsOf (2 ^ q / n))) (hz : NoS (zB w.heap.size w2.heap.size) a m) (he : e = 2) (h6 : FxAt (zB w.heap.size w2.heap.size) w.heap.size w2 w.heap.size 0 0) (hb : Below w.heap.size w w2) :
    InvR n q tn w w2.heap.size 0 e (((w2.alloc (.cells #[.slice a m c, .int .u64 (e : Int)] 74)).alloc (.cells #[.slice a m c, .int .u64 (e : Int)] 74)).alloc (.cells #[.slice none 0 0, .int .u64 0] 74)) := by
  have b1 := below_alloc w2 (.cells #[.slice a m c, .int .u64 (e : Int)] 74)
  have f7 := fx_new (Z := zB w.heap.size w2.heap.size) e hm hO hz
  have s1 : (w2.alloc (.cells #[.slice a m c, .int .u64 (e : Int)] 74)).heap.size = w2.heap.size + 1 := by go_simp
  have b2 := below_alloc (w2.alloc (.cells #[.slice a m c, .int .u64 (e : Int)] 74)) (.cells #[.slice a m c, .int .u64 (e : Int)] 74)
  have f8 := fx_new (Z := zB w.heap.size w2.heap.size) e hm (hO.keep b1) hz
  have s2 : ((w2.alloc (.cells #[.slice a m c, .int .u64 (e : Int)] 74)).alloc (.cells #[.slice a m c, .int .u64 (e : Int)] 74)).heap.size = w2.heap.size + 1 + 1 := by go_simp
  have b3 := below_alloc ((w2.alloc (.cells #[.slice a m c, .int .u64 (e : Int)] 74)).alloc (.cells #[.slice a m c, .int .u64 (e : Int)] 74)) (.cells #[.slice none 0 0, .int .u64 0] 74)
  have f9 := fx_zero (zB w.heap.size w2.heap.size) w.heap.size ((w2.alloc (.cells #[.slice a m c, .int .u64 (e : Int)] 74)).alloc (.cells #[.slice a m c, .int .u64 (e : Int)] 74))
  rw [s2] at f9
  rw [s1] at f8
  have B2 := below_trans b1 b2
  have B3 := below_trans B2 b3
  have hsd : sd (dq n tn) 0 = false := by rw [sd_dq]; cases tn <;> rfl
  obtain ⟨q1, q2, q3, q4⟩ := stepF (q := q) hsd
  have t0 : term (dq n tn) q 0 = 2 ^ q / n := by rw [dq_term]; simp
  have z0 : sm (dq n tn) q false 0 = 0 := rfl
  have z1 : sm (dq n tn) q true 0 = 0 := rfl
  have z2 : ns (dq n tn) false 0 = 0 := rfl
  have z3 : ns (dq n tn) true 0 = 0 := rfl
  refine ⟨?_, ?_, ?_, h6.keepB B3, hb.trans (B3.mono (by omega))⟩
  · rw [Nat.pow_zero, Nat.mul_one]
    exact f7.keepB (below_trans b2 b3)
  · rw [q1, q3, z0, z2, t0, Nat.zero_add, show 2 * (0 + 1) = e by omega]
    exact f8.keepB b3
  · rw [q2, q4, z1, z3]
    exact f9

set_option maxRecDepth 100000 in
set_option maxHeartbeats 4000000 in
theorem inverse_calls (n : Nat) (hn3 : 3 ≤ n) (hn4 : n < 65536) (tn : Bool) (q : Nat) (hq : q ≤ 8300) (hq4 : 40 ≤ q) (hb : bchk (dq n tn) = true) (w : World) :
    Calls Tryz.prog 113 #[.int .u64 (n : Int), .bool tn, .int .i64 (q : Int)] w fun r w' => ∃ (ao : Option Addr) (m d e : Nat), r = .returned (.agg #[.slice ao m d, .int .u64 (e : Int)]) ∧ Hid (e = iE n q) ∧ m ≤ 1024 ∧ OwnW w.heap.size w' ao m d (wordsOf (iA n tn q)) ∧ Below w.heap.size w w' := by
  have bA := below_alloc w (.cells #[.slice none 0 0, .int .u64 0] 74)
  have gq : greatB (2 ^ q) = false := cf_great (k := q + 1) (Nat.pow_lt_pow_right (by decide) (by omega)) (by omega)
  have gx : ∀ x, x ≤ 2 ^ q → greatB x = false := fun x hx => great_mono hx gq
  obtain ⟨mz1, mz2, mz3⟩ := mz_spec n q hn3
  obtain ⟨ap1, ap2⟩ := apart (dq n tn) (dq_ok n tn hn3 hn4) hb q hq4
  obtain ⟨ip1, ip2⟩ := iP_eq n tn q hn3 hn4
  have sl := small q hq4
  have nsl : ∀ (s : Bool) (j : Nat), ns (dq n tn) s j ≤ j := fun s j => by have := ns_all (dq n tn) j; cases s <;> omega
  have sle : ∀ (s : Bool) (j : Nat), j ≤ iJ n q → sm (dq n tn) q s j ≤ 2 ^ q := fun s j hj => by
    have h1 := sm_mono (dq n tn) q s j _ hj
    have h2 : iP n tn q = sm (dq n tn) q false (iJ n q) := rfl
    have h3 : iL n tn q = sm (dq n tn) q true (iJ n q) := rfl
    cases s
    · rw [h2] at ip1; omega
    · rw [h3] at ip2; omega
  have hJ : iJ n q = mz n q + 1 := rfl
  have C6 : ∀ Z, FxAt Z w.heap.size (w.alloc (.cells #[.slice none 0 0, .int .u64 0] 74)) w.heap.size 0 0 := fun Z => fx_zero Z w.heap.size w
  have hD : Hid (sm (dq n tn) q true (iJ n q) + (2 * ns (dq n tn) true (iJ n q) + 4) ≤ sm (dq n tn) q false (iJ n q) ∧ greatB (sm (dq n tn) q false (iJ n q)) = false ∧ (2 * ns (dq n tn) false (iJ n q) + 4) + (2 * ns (dq n tn) true (iJ n q) + 4) = iE n q) := by
    have h2 : iP n tn q = sm (dq n tn) q false (iJ n q) := rfl
    have h3 : iL n tn q = sm (dq n tn) q true (iJ n q) := rfl
    have h4 : iE n q = 2 * iJ n q + 8 := rfl
    have h5 := ns_all (dq n tn) (iJ n q)
    have h6 := nsl true (iJ n q)
    rw [h2] at ip1
    rw [h3] at ip2
    exact ⟨by omega, gx _ (sle _ _ (Nat.le_refl _)), by omega⟩
  clear ap1 ap2 ip1 ip2 hb
  go_enter Tryz.func113, Tryz.ntmps113
  go_wp2_with fail
  have cz := (C6 (fun _ => True)).lt
  generalize w.alloc (.cells #[.slice none 0 0, .int .u64 0] 74) = v at *
  refine Calls.mono (fxOne q (by omega) v) ?_
  rintro r w1 ⟨a1, m1, c1, rfl, hm1, hO1, b1⟩
  have P1 : Hid _ := fxSmall2 (w := w1) 0 n hO1.1 hm1 hn3 hn4 gq (by omega)
  unfold FixV
  go_wp2_with fail
  refine Calls.mono P1.out ?_
  rintro r w2 ⟨a2, m2, c2, e2, rfl, he2, hm2, hO2, b2⟩
  have z1 := b1.size
  have z2 := b2.size
  have b12 := below_trans b1 b2
  have NZ : NoS (zB w.heap.size w2.heap.size) a2 m2 := fun b off e hn (hx : _ ∨ _ ∨ _ ∨ _) => by
    have l1 := hO2.nw b off e hn
    obtain ⟨b', off', e1, e3, -⟩ := hO2.1.2.2.2 0 hn
    rw [e] at e1
    simp only [Option.some.injEq, Addr.mk.injEq, and_true] at e1
    omega
  have I0 := inv0 (n := n) (q := q) (tn := tn) (e := e2) (w := w) (w2 := w2) (by omega) hm2 (hO2.low (by omega)) NZ he2.out ((C6 _).keepB b12) (bA.trans (b12.mono (by omega)))
  clear C6 P1 NZ hO1 hO2 b1 b2 b12 bA
  go_wp2_with fail
  generalize hC : w2.heap.size = C at *
  generalize (((w2.alloc (.cells #[.slice a2 m2 c2, .int .u64 (e2 : Int)] 74)).alloc (.cells #[.slice a2 m2 c2, .int .u64 (e2 : Int)] 74)).alloc (.cells #[.slice none 0 0, .int .u64 0] 74)) = w3 at *
  go_loopw [10, 11] (fun kv _ wr => ∃ (j e : Nat), j ≤ mz n q ∧ Hid (e = 2) ∧ kv = .int .u64 ((2 * j + 3 : Nat) : Int) ∧ InvR n q tn w C j e wr) (fun kv _ _ => 2 * mz n q + 3 - (intOf kv).toNat)
  case atStart => exact ⟨0, e2, Nat.zero_le _, he2, rfl, I0⟩
  case round =>
    clear I0
    obtain ⟨j, e, hj, he, rfl, F7, F8, F9, F6, bW⟩ := hrel
    obtain ⟨a7, n7, c7, k1, k2, k3, k4, k5, k6, k7⟩ := F7
    by_cases h0 : n7 = 0
    · subst h0
      have hj2 : j = mz n q := Nat.le_antisymm hj (Nat.le_of_not_lt fun hl => mz2 j hl ((words_len0 k6.1.1).1 rfl))
      subst hj2
      have HD := hD
      rw [hJ] at HD
      obtain ⟨e8, he8⟩ : ∃ e8, e8 = 2 * ns (dq n tn) false (mz n q + 1) := ⟨_, rfl⟩
      obtain ⟨e9, he9⟩ : ∃ e9, e9 = 2 * ns (dq n tn) true (mz n q + 1) := ⟨_, rfl⟩
      have h89 : e8 + 4 + (e9 + 4) < 4294967296 := by have := nsl false (mz n q + 1); have := nsl true (mz n q + 1); omega
      rw [← he8] at F8
      rw [← he9] at F9
      rw [← he8, ← he9] at HD
      have HE9 : Hid _ := he9
      clear he8 he9
      have fl := F6.lt
      obtain ⟨a8, n8, c8, y0, y1, y2, y3, y4, y5, y6⟩ := F8
      obtain ⟨a9, n9, c9, x0, x1, x2, x3, x4, x5, x6⟩ := F9
      have w8 : IntKind.u64.wrap ((e8 : Int) + 4) = ((e8 + 4 : Nat) : Int) := by rw [IntKind.wrap_u64]; omega
      have w9 : IntKind.u64.wrap ((e9 : Int) + 4) = ((e9 + 4 : Nat) : Int) := by rw [IntKind.wrap_u64]; omega
      go_wp2_with fail
      refine Calls.mono (fxSub2 (e8 + 4) (e9 + 4) y5.1 y4 x5.1 x4 HD.out.2.1 HD.out.1 h89) ?_
      rintro r w4 ⟨ao, m, d, e4, rfl, he4, hm, hO, b4⟩
      obtain ⟨a0, n0, c0, z0, f0, z1, f1, -⟩ := F6.keepB b4
      have b4z := b4.size
      clear k1 k2 k3 k4 k6 k7 y0 y1 y2 y3 y5 y6 x0 x1 x2 x3 x5 x6
      go_wp2_with fail
      have KF := ks_two (fun k => k = w.heap.size) w4 w.heap.size rfl (.slice ao m d) (.int .u64 (e4 : Int))
      refine bodyPost_ret (v := .agg #[.slice ao m d, .int .u64 (e4 : Int)]) (by simp [results, Tryz.results113, go_sem, z0, z1]) rfl ⟨ao, m, d, e4, rfl, (by show e4 = _; rw [he4.out]; exact HD.out.2.2), hm, ?_, ?_⟩
      · have hO2 := hO.keepS (S := fun k => k = w.heap.size) (hO.nw.noS (fun b (e : b = w.heap.size) => by omega)) KF
        have hI : sm (dq n tn) q false (mz n q + 1) - (sm (dq n tn) q true (mz n q + 1) + (e9 + 4)) = iA n tn q := by
          unfold iA iP iL
          rw [hJ, HE9.out]
          omega
        rw [hI] at hO2
        exact hO2.low (by omega)
      · exact (bW.trans (b4.mono (by omega))).trans (KF.below w.heap.size (by omega) (fun b (e : b = w.heap.size) => by omega))
    · have hn0 : ¬ ((n7 : Int) = 0) := by omega
      have hj2 : j < mz n q := Nat.lt_of_le_of_ne hj fun e => h0 ((words_len0 k6.1.1).2 (by rw [e]; exact mz1))
      obtain ⟨k, hk⟩ : ∃ k, k = 2 * j + 3 := ⟨_, rfl⟩
      rw [← hk]
      have hk2 : Hid _ := hk
      have hkl : k < 65536 := by omega
      have hk3 : 3 ≤ k := by omega
      have hkw : IntKind.u64.wrap ((k : Int) + 2) = ((k + 2 : Nat) : Int) := by rw [IntKind.wrap_u64]; omega
      have hkj : k = 2 * (j + 1) + 1 := by omega
      have HKJ : Hid _ := hkj
      have fl8 := F8.lt
      have fl9 := F9.lt
      clear hk hkj
      have F7 : FxAt (zB w.heap.size C) w.heap.size wr C _ e := ⟨a7, n7, c7, k1, k2, k3, k4, k5, k6, k7⟩
      have fl7 := F7.lt
      go_wp2_with fail
      refine Calls.mono (fxSmall2 e n k6.1 k5 hn3 hn4 (gx _ (Nat.div_le_self _ _)) (by have := he.out; omega)) ?_
      rintro r w4 ⟨a4, m4, c4, e4, rfl, he4, hm4, hO4, b4⟩
      have P5 : Hid _ := fxSmall2 (w := w4) e4 n hO4.1 hm4 hn3 hn4 (gx _ (Nat.le_trans (Nat.div_le_self _ _) (Nat.div_le_self _ _))) (by have := he4.out; omega)
      clear k1 k2 k3 k4 k6 k7 hO4
      go_wp2_with fail
      refine Calls.mono P5.out ?_
      rintro r w5 ⟨a5, m5, c5, e5, rfl, he5, hm5, hO5, b5⟩
      clear P5
      rw [div_nn] at hO5
      have b45 := below_trans b4 b5
      have zb4 := b4.size
      have zb5 := b5.size
      have fl6 := F6.lt
      have NN : NoS (zB w.heap.size C) a5 m5 := hO5.nw.noS (fun k (hk : _ ∨ _ ∨ _ ∨ _) => by omega)
      have OO := hO5.low (show w.heap.size ≤ _ by omega)
      have KZ : ∀ k, k = C → zB w.heap.size C k := fun k hk => Or.inr (Or.inl hk)
      obtain ⟨H7, K5⟩ := (F7.keepB b45).put e5 (KZ C rfl) hm5 OO NN
      have OK := hO5.1.keepS (fun x o e hn hx => NN x o e hn (KZ x hx)) K5
      replace F8 := (F8.keepB b45).keep K5 (by show ¬ C + 1 = C; omega) KZ
      replace F9 := (F9.keepB b45).keep K5 (by show ¬ C + 1 + 1 = C; omega) KZ
      replace F6 := (F6.keepB b45).keep K5 (by show ¬ w.heap.size = C; omega) KZ
      replace bW := (bW.trans (b45.mono (by omega))).trans (K5.below w.heap.size (by omega) (fun b (e : b = C) => by omega))
      obtain ⟨_, _, _, x0, x1, x2, x3, -⟩ := F7.keepB b45
      clear F7 OO NN KZ b4 b5 b45 hO5
      go_wp2_with fail
      clear x0 x1 x2 x3 K5
      generalize (w5.setCell ⟨C, 0, none⟩ (.slice a5 m5 c5)).setCell ⟨C, 1, none⟩ (.int .u64 (e5 : Int)) = w6 at *
      have P7 : Hid _ := fxSmall2 (w := w6) e5 k OK hm5 hk3 hkl (gx _ (Nat.div_le_self _ _)) (by have := he5.out; omega)
      go_wp2_with fail
      refine Calls.mono P7.out ?_
      rintro r w7 ⟨a7, m7, c7, e7, rfl, he7, hm7, hO7, b7⟩
      clear P7
      rw [show 2 ^ q / (n * (n * n) ^ (j + 1)) / k = term (dq n tn) q (j + 1) by rw [dq_term, HKJ.out]] at hO7
      have bL := below_alloc w7 (.cells #[.slice a7 m7 c7, .int .u64 (e7 : Int)] 74)
      have b8 := below_trans b7 bL
      have zL := b8.size
      have zL7 := bL.size
      have zb7 := b7.size
      have l66 := F6.lt
      replace F6 := F6.keepB b8
      replace F8 := F8.keepB b8
      replace F9 := F9.keepB b8
      have F7 := H7.keepB b8
      have l6 := F6.lt
      have l7 := F7.lt
      have l8 := F8.lt
      have l9 := F9.lt
      replace bW := bW.trans (b8.mono (by omega))
      clear H7 b8 OK b7
      rcases Bool.eq_false_or_eq_true (sd (dq n tn) (j + 1)) with hsd | hsd
      · have hsd2 := hsd
        rw [sd_dq] at hsd2
        obtain ⟨ht, hpar⟩ := (Bool.and_eq_true _ _).mp hsd2
        have hm4 : ((k : Int)).tmod 4 = 3 := by
          have h1 := HKJ.out
          have h2 : (j + 1) % 2 = 1 := by simpa using hpar
          rw [Int.tmod_eq_emod_of_nonneg (by omega)]
          omega
        subst ht
        obtain ⟨q1, q2, q3, q4⟩ := stepT (n := n)  (q := q) hsd
        have HQ : Hid _ := And.intro q1 (And.intro q2 (And.intro q3 q4))
        have g8 : greatB (sm (dq n true) q true (j + 1) + term (dq n true) q (j + 1)) = false := by rw [← q1]; exact gx _ (sle _ _ (by omega))
        clear q1 q2 q3 q4
        obtain ⟨e8, he8⟩ : ∃ e8, e8 = 2 * ns (dq n true) true (j + 1) := ⟨_, rfl⟩
        have HE8 : Hid _ := he8
        have he9 : e8 + e7 < 4294967296 := by have := nsl true (j + 1); have := he7.out; omega
        rw [← he8] at F9
        clear he8
        have G0 := F9
        obtain ⟨a8, n8, c8, y0, y1, y2, y3, y4, y5, y6⟩ := F9
        go_wp2_with fail
        refine Calls.mono (fxAdd2 e8 e7 y5.1 y4 (hO7.1.keepB bL) hm7 g8 he9) ?_
        rintro r w9 ⟨a9, m9, c9, e9, rfl, hx9, hm9, hO9, b9⟩
        clear y0 y1 y2 y3 y4 y5 y6
        have NN : NoS (zB w.heap.size C) a9 m9 := hO9.nw.noS (fun k (hk : _ ∨ _ ∨ _ ∨ _) => by omega)
        have zb9 := b9.size
        have OO := hO9.low (show w.heap.size ≤ _ by omega)
        obtain ⟨G8, K9⟩ := (G0.keepB b9).put e9 (Or.inr (Or.inr (Or.inr rfl))) hm9 OO NN
        have KZ : ∀ k, k = C + 1 + 1 → zB w.heap.size C k := fun k hk => by show _ ∨ _ ∨ _ ∨ _; omega
        have G7 := (F7.keepB b9).keep K9 (by show ¬ C = C + 1 + 1; omega) KZ
        have G9 := (F8.keepB b9).keep K9 (by show ¬ C + 1 = C + 1 + 1; omega) KZ
        have G6 := (F6.keepB b9).keep K9 (by show ¬ w.heap.size = C + 1 + 1; omega) KZ
        have bX := (bW.trans (b9.mono (by omega))).trans (K9.below w.heap.size (by omega) (fun b (e : b = C + 1 + 1) => by omega))
        obtain ⟨_, _, _, x0, x1, x2, x3, -⟩ := G0.keepB b9
        clear F6 F7 F8 G0 OO NN K9 KZ bW b9
        go_wp2_with fail
        generalize (w9.setCell ⟨C + 1 + 1, 0, none⟩ (.slice a9 m9 c9)).setCell ⟨C + 1 + 1, 1, none⟩ (.int .u64 (e9 : Int)) = w10 at *
        go_roundw
        case rel =>
          obtain ⟨q1, q2, q3, q4⟩ := HQ.out
          rw [← q1, show e9 = 2 * ns (dq n true) true (j + 1 + 1) by rw [hx9.out, HE8.out, he7.out, q3]; omega] at G8
          rw [← q2, ← q4] at G9
          exact ⟨j + 1, e5, hj2, he5, by rw [show ((2 * (j + 1) + 3 : Nat) : Int) = (k : Int) + 2 by have := hk2.out; omega], G7, G9, G8, G6, bX⟩
        case measure => simp only [intOf]; have := hk2.out; omega
      · have hsd2 := hsd
        rw [sd_dq] at hsd2
        have hm4 : tn = false ∨ (tn = true ∧ (k : Int).tmod 4 = 1) := by
          cases tn with
          | false => exact Or.inl rfl
          | true =>
            refine Or.inr ⟨rfl, ?_⟩
            have h1 := HKJ.out
            have h2 : ¬ (j + 1) % 2 = 1 := by simpa using hsd2
            rw [Int.tmod_eq_emod_of_nonneg (by omega)]
            omega
        clear hsd2
        rcases hm4 with rfl | ⟨rfl, hm4⟩
        · obtain ⟨q1, q2, q3, q4⟩ := stepF (n := n)  (q := q) hsd
          have HQ : Hid _ := And.intro q1 (And.intro q2 (And.intro q3 q4))
          have g8 : greatB (sm (dq n false) q false (j + 1) + term (dq n false) q (j + 1)) = false := by rw [← q1]; exact gx _ (sle _ _ (by omega))
          clear q1 q2 q3 q4
          obtain ⟨e8, he8⟩ : ∃ e8, e8 = 2 * ns (dq n false) false (j + 1) := ⟨_, rfl⟩
          have HE8 : Hid _ := he8
          have he9 : e8 + e7 < 4294967296 := by have := nsl false (j + 1); have := he7.out; omega
          rw [← he8] at F8
          clear he8
          have G0 := F8
          obtain ⟨a8, n8, c8, y0, y1, y2, y3, y4, y5, y6⟩ := F8
          go_wp2_with fail
          refine Calls.mono (fxAdd2 e8 e7 y5.1 y4 (hO7.1.keepB bL) hm7 g8 he9) ?_
          rintro r w9 ⟨a9, m9, c9, e9, rfl, hx9, hm9, hO9, b9⟩
          clear y0 y1 y2 y3 y4 y5 y6
          have NN : NoS (zB w.heap.size C) a9 m9 := hO9.nw.noS (fun k (hk : _ ∨ _ ∨ _ ∨ _) => by omega)
          have zb9 := b9.size
          have OO := hO9.low (show w.heap.size ≤ _ by omega)
          obtain ⟨G8, K9⟩ := (G0.keepB b9).put e9 (Or.inr (Or.inr (Or.inl rfl))) hm9 OO NN
          have KZ : ∀ k, k = C + 1 → zB w.heap.size C k := fun k hk => by show _ ∨ _ ∨ _ ∨ _; omega
          have G7 := (F7.keepB b9).keep K9 (by show ¬ C = C + 1; omega) KZ
          have G9 := (F9.keepB b9).keep K9 (by show ¬ C + 1 + 1 = C + 1; omega) KZ
          have G6 := (F6.keepB b9).keep K9 (by show ¬ w.heap.size = C + 1; omega) KZ
          have bX := (bW.trans (b9.mono (by omega))).trans (K9.below w.heap.size (by omega) (fun b (e : b = C + 1) => by omega))
          obtain ⟨_, _, _, x0, x1, x2, x3, -⟩ := G0.keepB b9
          clear F6 F7 F9 G0 OO NN K9 KZ bW b9
          go_wp2_with fail
          generalize (w9.setCell ⟨C + 1, 0, none⟩ (.slice a9 m9 c9)).setCell ⟨C + 1, 1, none⟩ (.int .u64 (e9 : Int)) = w10 at *
          go_roundw
          case rel =>
            obtain ⟨q1, q2, q3, q4⟩ := HQ.out
            rw [← q1, show e9 = 2 * ns (dq n false) false (j + 1 + 1) by rw [hx9.out, HE8.out, he7.out, q3]; omega] at G8
            rw [← q2, ← q4] at G9
            exact ⟨j + 1, e5, hj2, he5, by rw [show ((2 * (j + 1) + 3 : Nat) : Int) = (k : Int) + 2 by have := hk2.out; omega], G7, G8, G9, G6, bX⟩
          case measure => simp only [intOf]; have := hk2.out; omega
        · obtain ⟨q1, q2, q3, q4⟩ := stepF (n := n)  (q := q) hsd
          have HQ : Hid _ := And.intro q1 (And.intro q2 (And.intro q3 q4))
          have g8 : greatB (sm (dq n true) q false (j + 1) + term (dq n true) q (j + 1)) = false := by rw [← q1]; exact gx _ (sle _ _ (by omega))
          clear q1 q2 q3 q4
          obtain ⟨e8, he8⟩ : ∃ e8, e8 = 2 * ns (dq n true) false (j + 1) := ⟨_, rfl⟩
          have HE8 : Hid _ := he8
          have he9 : e8 + e7 < 4294967296 := by have := nsl false (j + 1); have := he7.out; omega
          rw [← he8] at F8
          clear he8
          have G0 := F8
          obtain ⟨a8, n8, c8, y0, y1, y2, y3, y4, y5, y6⟩ := F8
          go_wp2_with fail
          refine Calls.mono (fxAdd2 e8 e7 y5.1 y4 (hO7.1.keepB bL) hm7 g8 he9) ?_
          rintro r w9 ⟨a9, m9, c9, e9, rfl, hx9, hm9, hO9, b9⟩
          clear y0 y1 y2 y3 y4 y5 y6
          have NN : NoS (zB w.heap.size C) a9 m9 := hO9.nw.noS (fun k (hk : _ ∨ _ ∨ _ ∨ _) => by omega)
          have zb9 := b9.size
          have OO := hO9.low (show w.heap.size ≤ _ by omega)
          obtain ⟨G8, K9⟩ := (G0.keepB b9).put e9 (Or.inr (Or.inr (Or.inl rfl))) hm9 OO NN
          have KZ : ∀ k, k = C + 1 → zB w.heap.size C k := fun k hk => by show _ ∨ _ ∨ _ ∨ _; omega
          have G7 := (F7.keepB b9).keep K9 (by show ¬ C = C + 1; omega) KZ
          have G9 := (F9.keepB b9).keep K9 (by show ¬ C + 1 + 1 = C + 1; omega) KZ
          have G6 := (F6.keepB b9).keep K9 (by show ¬ w.heap.size = C + 1; omega) KZ
          have bX := (bW.trans (b9.mono (by omega))).trans (K9.below w.heap.size (by omega) (fun b (e : b = C + 1) => by omega))
          obtain ⟨_, _, _, x0, x1, x2, x3, -⟩ := G0.keepB b9
          clear F6 F7 F9 G0 OO NN K9 KZ bW b9
          go_wp2_with fail
          generalize (w9.setCell ⟨C + 1, 0, none⟩ (.slice a9 m9 c9)).setCell ⟨C + 1, 1, none⟩ (.int .u64 (e9 : Int)) = w10 at *
          go_roundw
          case rel =>
            obtain ⟨q1, q2, q3, q4⟩ := HQ.out
            rw [← q1, show e9 = 2 * ns (dq n true) false (j + 1 + 1) by rw [hx9.out, HE8.out, he7.out, q3]; omega] at G8
            rw [← q2, ← q4] at G9
            exact ⟨j + 1, e5, hj2, he5, by rw [show ((2 * (j + 1) + 3 : Nat) : Int) = (k : Int) + 2 by have := hk2.out; omega], G7, G8, G9, G6, bX⟩
          case measure => simp only [intOf]; have := hk2.out; omega

end Go.Proofs.YtkkldnnndlpblaaGreatDoor

/- The walk of takeOften: a divisor taken off as often as it goes. -/
import Derived.Test.YtfmjgagajlhfoaaGreatDoorNGuess
import Derived.Test.YtfmjgagajlhfoaaGreatDoorNOvP
import Derived.Deep.RegionHeld3
import Derived.Deep.DrawnRows
namespace Go.Proofs.YtfmjgagajlhfoaaGreatDoor
open Go.RowKit

theorem own_pre {B g off : Nat} {w : World} {N c : Nat} {M : List Int} (h : OwnW B w (some ⟨g, off, none⟩) N c M) (n : Nat) (hn : n ≤ N) : OwnW B w (some ⟨g, off, none⟩) n c (M.take n) := by
  have hN := h.1.1
  refine ⟨⟨by rw [List.length_take]; omega, h.1.2.1.take n, ⟨by have := h.1.2.2.1.1; omega, fun e => by cases e⟩, fun j hj => ?_⟩, fun b o j e hj => h.2 b o j e (by omega)⟩
  obtain ⟨b, o, e1, e2, e3⟩ := h.1.2.2.2 j (by omega)
  refine ⟨b, o, e1, e2, ?_⟩
  rw [e3]
  simp only [List.getD, List.getElem?_take, hj, if_true]
theorem own_prejoin {B g off : Nat} {w w' : World} {N c : Nat} {M : List Int} (h : OwnW B w (some ⟨g, off, none⟩) N c M) (n : Nat) (S : List Int) (hn : n ≤ N) (hS : OwnW B w' (some ⟨g, off, none⟩) n c S) (hup : Upd g off n w w') : OwnW B w' (some ⟨g, off, none⟩) N c (spliceW M 0 S) := by
  have hN := h.1.1
  have hSn := hS.1.1
  refine ⟨⟨by rw [splice_len M 0 S (by omega)]; exact hN, splice_U h.1.2.1 hS.1.2.1 0, h.1.2.2.1, fun j hj => ?_⟩, fun b o j e hj => ?_⟩
  · obtain ⟨b, o, e1, e2, e3⟩ := h.1.2.2.2 j hj
    simp only [Option.some.injEq, Addr.mk.injEq, and_true] at e1
    obtain ⟨rfl, rfl⟩ := e1
    refine ⟨g, off, rfl, Nat.lt_of_lt_of_le e2 hup.grown.size, ?_⟩
    rw [splice_get M 0 S (by omega), if_neg (by omega)]
    by_cases h2 : j < 0 + S.length
    · rw [if_pos h2]
      obtain ⟨b', o', f1, _, f3⟩ := hS.1.2.2.2 j (by omega)
      simp only [Option.some.injEq, Addr.mk.injEq, and_true] at f1
      obtain ⟨rfl, rfl⟩ := f1
      exact f3
    · rw [if_neg h2, hup.cell (off + j) (Or.inr (by omega))]; exact e3
  · simp only [Option.some.injEq, Addr.mk.injEq, and_true] at e
    obtain ⟨rfl, rfl⟩ := e
    have := h.2 g off j rfl hj
    exact ⟨this.1, (hup.frozen (off + j)).trans this.2⟩
theorem Upd.wider {g off n m : Nat} {a b : World} (h : Upd g off n a b) (hm : n ≤ m) : Upd g off m a b := ⟨h.grown, fun o ho => h.cell o (by omega), h.frozen⟩
theorem Upd.after {g off n : Nat} {a b c : World} (h : Below a.heap.size a b) (hg : g < a.heap.size) (k : Upd g off n b c) : Upd g off n a c := ⟨(below_grown h _).trans k.grown, fun o ho => (k.cell o ho).trans (h.cell (p := ⟨g, o, none⟩) hg), fun o => (k.frozen o).trans (h.frozen (p := ⟨g, o, none⟩) hg)⟩
theorem wrap_dec (k q : Nat) (h : k = q + 1) (hk : k < 18446744073709551616) : IntKind.u64.wrap ((k : Int) - 1) = (q : Int) := by rw [IntKind.wrap_u64]; omega
theorem often_val (M S : List Int) (n x : Nat) (hM : M.length = n + 1) (hS : S.length = n) (hx : x = 0) : val ((spliceW M 0 S).set n (x : Int)) = val S := by
  have e1 := val_set (spliceW M 0 S) n (x : Int) (by rw [splice_len M 0 S (by omega)]; omega)
  have e2 := splice_val M 0 S (by omega)
  rw [splice_get M 0 S (by omega), if_neg (by omega), if_neg (by omega)] at e1
  have e3 : val M = val (M.take n) + 18446744073709551616 ^ n * (M.getD n 0).toNat := by
    have := val_take_succ M n (by omega)
    rw [List.take_of_length_le (by omega)] at this
    exact this
  rw [hS, List.drop_zero, Nat.pow_zero, Nat.one_mul, Nat.one_mul] at e2
  subst hx
  rw [Int.toNat_natCast, Nat.mul_zero, Nat.add_zero] at e1
  omega

theorem wrap_sum (an cr br : Nat) (h : an + cr = br) (hb : br < 18446744073709551616) : IntKind.u64.wrap ((an : Int) + (cr : Int)) = (br : Int) := by rw [IntKind.wrap_u64]; omega
theorem wrap_none (an br : Nat) (h : an = br) : IntKind.u64.wrap ((an : Int) - (br : Int)) = 0 := by rw [IntKind.wrap_u64]; omega

attribute [local go_sem ↓] Go.wp_at_zero Go.wp_at_succ
set_option maxRecDepth 100000 in
set_option maxHeartbeats 4000000 in
theorem takeOften_calls (B g off n n1 n2 na c cb : Nat) (b : Option Addr) (A ys : List Int) (w : World) (e1 : n = n1 + 1) (e2 : n1 = n2 + 1) (hna : na = n + 1) (hn : n ≤ 17592186044416) (h : OwnW B w (some ⟨g, off, none⟩) na c A) (hB : IsW w b n cb ys) (hbg : ∀ b' o, b = some ⟨b', o, none⟩ → b' ≠ g) (htop : 0 < ys.getD n1 0) (hlt : val A < val ys * 18446744073709551616) :
    Calls Tryz.prog 69 #[.slice (some ⟨g, off, none⟩) na c, .slice b n cb] w fun e w' => ∃ (S : List Int) (q : Nat), e = .returned (.int .u64 (q : Int)) ∧ q < 18446744073709551616 ∧ OwnW B w' (some ⟨g, off, none⟩) na c S ∧ q = val A / val ys ∧ val S = val A % val ys ∧ Upd g off na w w' := by
  have hAl : A.length = n2 + 3 := by have := h.1.1; omega
  have hyl : ys.length = n2 + 2 := by have := hB.1; omega
  obtain ⟨an, ha0, hanW⟩ := word_nat0 A h.1.2.1 n
  obtain ⟨an1, ha1, han1⟩ := word_nat0 A h.1.2.1 n1
  obtain ⟨an2, ha2, han2⟩ := word_nat0 A h.1.2.1 n2
  obtain ⟨top, ht, htW⟩ := word_nat0 ys hB.2.1 n1
  obtain ⟨next, hx, hxW⟩ := word_nat0 ys hB.2.1 n2
  obtain ⟨bb, bo, hbe, hbl, ct⟩ := hB.2.2.2 n1 (by omega)
  subst hbe
  obtain ⟨_, _, ee, _, cx⟩ := hB.2.2.2 n2 (by omega)
  simp only [Option.some.injEq, Addr.mk.injEq, and_true] at ee
  obtain ⟨rfl, rfl⟩ := ee
  obtain ⟨_, _, ee, hgl, c0⟩ := h.1.2.2.2 n (by omega)
  simp only [Option.some.injEq, Addr.mk.injEq, and_true] at ee
  obtain ⟨rfl, rfl⟩ := ee
  obtain ⟨_, _, ee, _, c1⟩ := h.1.2.2.2 n1 (by omega)
  simp only [Option.some.injEq, Addr.mk.injEq, and_true] at ee
  obtain ⟨rfl, rfl⟩ := ee
  obtain ⟨_, _, ee, _, c2⟩ := h.1.2.2.2 n2 (by omega)
  simp only [Option.some.injEq, Addr.mk.injEq, and_true] at ee
  obtain ⟨rfl, rfl⟩ := ee
  rw [ha0] at c0
  rw [ha1] at c1
  rw [ha2] at c2
  rw [ht] at ct htop
  rw [hx] at cx
  have hfz := (h.2 g off n rfl (by omega)).2
  have hle : an ≤ top := top_word_le n1 A ys an top (by omega) (by omega) hB.2.1 (by rw [← e1]; exact ha0) ht hlt
  have GC : Hid _ := guess_calls g off bb bo n n1 n2 na c cb an an1 an2 top next w e1 e2 hna hn c0 c1 c2 ct cx han1 han2 htW hxW (by omega) hle
  have hvA : val A = Top3 an an1 an2 * 18446744073709551616 ^ n2 + low A n2 := val_top3 A n2 an an1 an2 hAl (by rw [← show n = n2 + 2 by omega]; exact ha0) (by rw [← e2]; exact ha1) ha2
  have hvD : val ys = Top2 top next * 18446744073709551616 ^ n2 + low ys n2 := val_top2 ys n2 top next hyl (by rw [← e2]; exact ht) hx
  have hT2 : 18446744073709551616 ≤ Top2 top next := by
    have ht1 : 1 ≤ top := by omega
    have h3 := Nat.mul_le_mul_right 18446744073709551616 ht1
    rw [Nat.one_mul] at h3
    exact Nat.le_trans h3 (Nat.le_add_right _ _)
  have hD0 : 0 < val ys := by
    have : 1 * 1 ≤ Top2 top next * 18446744073709551616 ^ n2 := Nat.mul_le_mul (by omega) (Nat.pow_pos (by decide))
    omega
  have HB1 : Hid (∀ k, k < 18446744073709551616 → k * Top2 top next ≤ Top3 an an1 an2 → (∀ t, t < 18446744073709551616 → t * Top2 top next ≤ Top3 an an1 an2 → t ≤ k) → val A / val ys ≤ k ∧ k ≤ val A / val ys + 1) := fun k h1 h2 h3 =>
    often_le (18446744073709551616 ^ n2) (val A) (val ys) _ _ (low A n2) (low ys n2) k hvA (low_lt A h.1.2.1 n2) hvD (low_lt ys hB.2.1 n2) h2 h1 h3 hlt hT2
  have HA : Hid (val A = val (A.take n) + 18446744073709551616 ^ n * an) := by
    have := val_take_succ A n (by omega)
    rw [List.take_of_length_le (by omega), ha0, Int.toNat_natCast] at this
    exact this
  have HDW : Hid (val ys ≤ 18446744073709551616 ^ n) := by
    have := val_lt ys hB.2.1
    rw [hyl, ← show n = n2 + 2 by omega] at this
    rw [Hid]; omega
  have HD0 : Hid (0 < val ys) := hD0
  have HQ : Hid (val A / val ys < 18446744073709551616) := by rw [Hid, Nat.div_lt_iff_lt_mul hD0, Nat.mul_comm]; exact hlt
  have hcap : n ≤ c := by have := h.1.2.2.1.1; omega
  have i3 : (n : Int) < (na : Int) := by omega
  have HL : Hid (A.length = n + 1 ∧ na = n + 1) := ⟨by omega, hna⟩
  clear hvA hvD hT2 hD0 hlt ha0 ha1 ha2 ht hx hAl hyl e1 e2 hna c1 c2 ct cx hle htop
  go_enter Tryz.func69, Tryz.ntmps69
  go_wp2_with fail
  refine Calls.mono GC.out ?_
  rintro e w1 ⟨k, rfl, hk, HK1, HK2, hb1⟩
  have HKQ : Hid (val A / val ys ≤ k ∧ k ≤ val A / val ys + 1) := HB1.out k hk HK1.out HK2.out
  obtain ⟨q, hq⟩ : ∃ q, q = val A / val ys := ⟨_, rfl⟩
  rw [← hq] at HKQ HQ
  have HQQ : Hid (q = val A / val ys) := hq
  clear HK1 HK2 HB1 hq GC
  have h1 := h.keep hb1
  have hB1 := hB.keep hb1
  have c01 := carry_cell hb1 c0
  have hfz1 := carry_frozen hb1 c0 hfz
  have hgl1 : g < w1.heap.size := Nat.lt_of_lt_of_le hgl hb1.size
  clear c0 hfz h hB
  have TC : Hid _ := takeTimes_calls B g off n c cb (some ⟨bb, bo, none⟩) (A.take n) ys k w1 (own_pre h1 n (by omega)) hB1 hbg hn hk
  go_wp2_with fail
  refine Calls.mono TC.out ?_
  rintro e w2 ⟨S, br, rfl, hbr, hS, hsv, hup⟩
  have HSV : Hid (val S + k * val ys = val (A.take n) + 18446744073709551616 ^ n * br) := hsv
  have HSL : Hid (S.length = n) := hS.1.1.symm
  have HSLT : Hid (val S < 18446744073709551616 ^ n) := by
    have := val_lt S hS.1.2.1
    rw [HSL.out] at this; exact this
  have h2 := own_prejoin h1 n S (by omega) hS hup
  have c02 : w2.cell? ⟨g, off + n, none⟩ = some (.int .u64 (an : Int)) := (hup.cell (off + n) (Or.inr (Nat.le_refl _))).trans c01
  have hfz2 : w2.frozen? ⟨g, off + n, none⟩ = false := (hup.frozen _).trans hfz1
  have hup2 : Upd g off na w w2 := Upd.after hb1 hgl (hup.wider (by omega))
  have hgl2 : g < w2.heap.size := Nat.lt_of_lt_of_le hgl1 hup.grown.size
  have hB2 := hB1.grown hup.grown (fun b' o e => by simp only [Option.some.injEq, ne_eq]; exact hbg b' o e)
  clear hsv c01 hfz1 TC hup hb1 hgl hgl1 hB1 h1
  by_cases hgt : an < br
  · have HKE : Hid (k = q + 1) := often_more HA.out HSV.out HSLT.out HQQ.out HKQ.out.2 hgt
    have hwd := wrap_dec k q HKE.out hk
    have hw0 := wrap_none br br rfl
    go_wp2_with fail
    clear hgt
    have HLT : Hid (∀ S' : List Int, AllU S' → S'.length = n → val S' < 18446744073709551616 ^ n) := fun S' h1 h2 => by have := val_lt S' h1; rw [h2] at this; exact this
    go_region_with (go_at_call 63; refine (addTimes_calls B g off n c cb (some ⟨bb, bo, none⟩) S ys 1 _ (hS.keep (Below.refl _ _).drew) (hB2.keep (Below.refl _ _).drew) hbg hn (by decide)).mono ?_; rintro e w3 ⟨S2, cr, rfl, hcr, hS2, hsv2, hup3⟩; have HR : Hid (an + cr = br ∧ val S2 = val A % val ys) := rest_more HA.out (HKE.out ▸ HSV.out) hsv2 (HLT.out S2 hS2.1.2.1 hS2.1.1.symm) HQQ.out HD0.out HDW.out; have hwa := wrap_sum an cr br HR.out.1 hbr; have c03 : w3.cell? ⟨g, off + n, none⟩ = some (.int .u64 (an : Int)) := (hup3.cell (off + n) (Or.inr (Nat.le_refl _))).trans c02; have hfz3 : w3.frozen? ⟨g, off + n, none⟩ = false := (hup3.frozen (off + n)).trans hfz2; clear hsv2)
    all_goals
      have HSL2 : Hid (S2.length = n) := hS2.1.1.symm
      have h3 := own_prejoin (h2.keep (Below.refl _ _).drew) n S2 (by omega) hS2 hup3
      have hup4 : Upd g off na w w3 := (hup2.below hgl2 (Below.refl _ _).drew).trans (hup3.wider (by omega))
      have h4 := h3.set (i := n) (by omega) (v := (br : Int)) (by omega) (by omega)
      have h5 := h4.set (i := n) (by omega) (v := ((0 : Nat) : Int)) (by omega) (by omega)
      have hup5 := (hup4.set (i := n) (by omega) (.int .u64 (br : Int))).set (i := n) (by omega) (.int .u64 ((0 : Nat) : Int))
      have HQL := HQ.out
      go_wp2_with fail
      go_ret
      exact ⟨_, q, rfl, HQL, h5, HQQ.out, by rw [List.set_set, often_val _ _ _ _ (by rw [splice_len _ _ _ (by rw [HL.out.1, HSL.out]; omega)]; exact HL.out.1) HSL2.out rfl]; exact HR.out.2, hup5⟩
  · have HKE : Hid (k = q) := often_same HA.out HSV.out HQQ.out HD0.out HKQ.out.1 (by omega)
    have HR : Hid (an = br ∧ val S = val A % val ys) := rest_same HA.out (HKE.out ▸ HSV.out) HQQ.out HD0.out HDW.out (by omega)
    have hw0 := wrap_none an br HR.out.1
    have hO3 := h2.set (i := n) (by omega) (v := ((0 : Nat) : Int)) (by omega) (by omega)
    have hup3 := hup2.set (i := n) (by omega) (.int .u64 ((0 : Nat) : Int))
    have HQL := HQ.out
    go_wp2_with fail
    go_ret
    exact ⟨_, q, by rw [HKE.out]; rfl, HQL, hO3, HQQ.out, by rw [often_val _ _ _ _ HL.out.1 HSL.out rfl]; exact HR.out.2, hup3⟩
end Go.Proofs.YtfmjgagajlhfoaaGreatDoor

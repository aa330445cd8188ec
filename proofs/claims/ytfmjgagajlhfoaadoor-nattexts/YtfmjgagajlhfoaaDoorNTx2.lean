/- The walk of the document's Parse. -/
import Derived.Test.YtfmjgagajlhfoaaDoorNTx4
import Derived.Test.YtfmjgagajlhfoaaDoorNRefM2
import Derived.Deep.CutRange
import Derived.Deep.RegionHeld3
import Derived.Deep.DrawnRows
namespace Go.Proofs.YtfmjgagajlhfoaaDoor
open Go.RowKit

attribute [local go_sem ↓] Go.wp_at_zero Go.wp_at_succ

theorem nOf_pack (x : Nat) (w : World) (hx : x < 18446744073709551616) :
    Calls Tryd.prog 33 #[.int .u64 (x : Int)] w fun e w' => ∃ (ao : Option Addr) (n cv : Nat), e = .returned (.slice ao n cv) ∧ n = (wordsOf x).length ∧ n ≤ 1 ∧ OwnW w.heap.size w' ao n cv (wordsOf x) ∧ Below w.heap.size w w' := by
  refine Calls.mono (nOf_calls (x : Int) w (by omega) (by omega)) ?_
  rintro e w' ⟨ao, cv, rfl, hO, hb⟩
  rw [Int.toNat_natCast] at hO ⊢
  exact ⟨ao, _, cv, rfl, rfl, (words_len 1 x).2 (by simpa using hx), hO.ownW (words_U _) rfl, hb⟩
theorem nMul_pack (a a' : Option Addr) (len cap len' cap' u v : Nat) (w : World) (h : IsW w a len cap (wordsOf u)) (h' : IsW w a' len' cap' (wordsOf v)) (hm : len ≤ 1000000) (hm' : len' ≤ 1000000) :
    Calls Tryd.prog 32 #[.slice a len cap, .slice a' len' cap'] w fun e w' => ∃ (ao : Option Addr) (n cv : Nat), e = .returned (.slice ao n cv) ∧ n = (wordsOf (u * v)).length ∧ OwnW w.heap.size w' ao n cv (wordsOf (u * v)) ∧ Below w.heap.size w w' := by
  have h1 := h.1
  have h2 := h'.1
  refine Calls.mono (nMul_calls a a' len cap len' cap' _ _ w h h' (by omega) (by omega) (by rw [val_words, val_words]; omega)) ?_
  rw [val_words, val_words]
  rintro e w' ⟨ao, cv, rfl, hO, hb⟩
  exact ⟨ao, _, cv, rfl, rfl, hO.ownW (words_U _) rfl, hb⟩
theorem nAdd_pack (a a' : Option Addr) (len cap len' cap' u v : Nat) (w : World) (h : IsW w a len cap (wordsOf u)) (h' : IsW w a' len' cap' (wordsOf v)) (hm : len ≤ 1000000) (hm' : len' ≤ 1000000) :
    Calls Tryd.prog 31 #[.slice a len cap, .slice a' len' cap'] w fun e w' => ∃ (ao : Option Addr) (n cv : Nat), e = .returned (.slice ao n cv) ∧ n = (wordsOf (u + v)).length ∧ OwnW w.heap.size w' ao n cv (wordsOf (u + v)) ∧ Below w.heap.size w w' := by
  refine Calls.mono (nAdd_calls a a' len cap len' cap' _ _ w h h' (by omega) (by omega)) ?_
  rw [val_words, val_words]
  rintro e w' ⟨ao, cv, rfl, hO, hb⟩
  exact ⟨ao, _, cv, rfl, rfl, hO.ownW (words_U _) rfl, hb⟩

set_option maxRecDepth 100000 in
set_option maxHeartbeats 4000000 in
theorem nParse_calls (s : ByteArray) (w : World) :
    Calls Tryd.prog 7 #[.string s] w fun e w' => ∃ v, e = .returned (.tuple #[v, .int .i64 (parE s.data.toList), .int .i64 (parI s.data.toList)]) ∧ NatAt w.heap.size w' v (parN s.data.toList) ∧ Below w.heap.size w w' := by
  have HL : Hid (s.data.toList.length = s.size) := str_len s
  by_cases hlong : 4096 < s.size
  · have HP : Hid _ := par_long (l := s.data.toList) (by rw [HL.out]; exact hlong)
    go_enter Tryd.func7, Tryd.ntmps7
    go_wp2_with fail
    go_ret3
    rw [HP.out.1, HP.out.2.1, HP.out.2.2]
    exact ⟨_, rfl, natAt_nil _ _, Below.refl _ _⟩
  · obtain ⟨K, hK⟩ : ∃ K, K = misK s.data.toList := ⟨_, rfl⟩
    have hKn : K ≤ s.size := by rw [hK, ← str_len]; exact mis_le _
    have HK : Hid (K = misK s.data.toList) := hK
    clear hK
    go_enter Tryd.func7, Tryd.ntmps7
    go_wp2_with fail
    go_loopw [5, 6] (fun vx vi wr => ∃ (k n c : Nat) (ao : Option Addr), k ≤ K ∧ vi = .int .i64 k ∧ vx = .slice ao n c ∧ Hid (n = (wordsOf (decV (s.data.toList.take k))).length) ∧ n ≤ 256 ∧ OwnW w.heap.size wr ao n c (wordsOf (decV (s.data.toList.take k))) ∧ Below w.heap.size w wr) (fun _ vi _ => s.size - (intOf vi).toNat)
    case atStart => exact ⟨0, 0, 0, none, by omega, rfl, rfl, by rw [Hid, List.take_zero, decV_nil, words_zero]; rfl, by omega, by rw [List.take_zero, decV_nil, words_zero]; exact ownW_nil _ _, Below.refl _ _⟩
    case round =>
      obtain ⟨k, n, c, ao, hk, rfl, rfl, HN, hn, hO, hbr⟩ := hrel
      by_cases hlt : k < s.size
      · have hs0 : 0 < s.size := by omega
        obtain ⟨x, hx⟩ : ∃ x : Nat, x = (s.data.toList.getD k 0).toNat := ⟨_, rfl⟩
        obtain ⟨y, hy⟩ : ∃ y : Nat, y = (s.data.toList.getD 0 0).toNat := ⟨_, rfl⟩
        have hxs : (s[k]'hlt).toNat = x := by rw [str_at, hx]
        have hys : (s[0]'hs0).toNat = y := by rw [str_at, hy]
        by_cases hkK : k < K
        · have hg := good_digit (mis_good s.data.toList k (by rw [← HK.out]; exact hkK))
          rw [← hx, ← hy] at hg
          obtain ⟨g1, g2, g3⟩ := hg
          obtain ⟨d, hd⟩ : ∃ d, d = x - 48 := ⟨_, rfl⟩
          have HV2 : Hid (decV (s.data.toList.take k) * 10 + d = decV (s.data.toList.take (k + 1))) := by rw [Hid, decV_take _ k (by rw [HL.out]; exact hlt), hd, hx]
          have HW2 : Hid ((wordsOf (decV (s.data.toList.take (k + 1)))).length ≤ 256) := by
            have hall : ∀ j, j ≤ K → decV (s.data.toList.take j) < 10 ^ j := by
              intro j
              induction j with
              | zero => intro _; simp [decV_nil]
              | succ j ih =>
                intro hj
                have h1 := ih (by omega)
                have h2 := good_digit (mis_good s.data.toList j (by rw [← HK.out]; omega))
                rw [decV_take _ j (by rw [HL.out]; omega), Nat.pow_succ]
                omega
            exact ten_words _ (k + 1) (hall (k + 1) (by omega)) (by omega)
          have hdb : d ≤ 9 := by omega
          have r3 : IntKind.u8.wrap ((x : Int) - 48) = (d : Int) := by rw [IntKind.wrap_u8]; omega
          have r4 : IntKind.u64.wrap (d : Int) = (d : Int) := by rw [IntKind.wrap_u64]; omega
          obtain ⟨V, hV⟩ : ∃ V, V = decV (s.data.toList.take k) := ⟨_, rfl⟩
          rw [← hV] at HV2 hO HN
          have hI := hO.1
          have HI : Hid (IsW wr ao n c (wordsOf V)) := hI
          have hsz := hbr.size
          clear hx hy hd hV hO hI
          have h1c : (k = 1 ∧ ((y : Int) == 48) = false) ∨ ((k : Int) == 1) = false := by
            by_cases h1 : k = 1
            · exact Or.inl ⟨h1, by have := g3 h1; simp; omega⟩
            · exact Or.inr (by simp; omega)
          clear g3
          have HB : Hid ((wordsOf (V * 10)).length ≤ 300) := by
            have h1 : (wordsOf V).length ≤ 256 := by rw [← HN.out]; exact hn
            suffices hs : ∀ K, (wordsOf V).length ≤ K → (wordsOf (V * 10)).length ≤ K + 1 by have := hs 256 h1; rw [Hid]; omega
            intro K hK
            rw [words_len] at hK ⊢
            rw [Nat.pow_succ]
            exact Nat.lt_of_lt_of_le ((Nat.mul_lt_mul_right (by decide)).2 hK) (Nat.mul_le_mul_left _ (by decide))
          rcases h1c with ⟨h1, g5⟩ | g5
          · subst h1
            go_upto_region 9 with fail
            have bw : Below wr.heap.size wr wr.drew := (Below.refl _ _).drew
            refine wp_region_held (S := fun _ => True) (by kernel_rfl) ?_
            change wpAnyH _ _ _ _ _ _ _ _ (World.drew wr)
            generalize World.drew wr = wd at *
            refine wpAnyH_take (i := 0) (v := .slice ao n c) rfl (by kernel_rfl) (by kernel_rfl) (by kernel_rfl) (fun _ _ _ h => h) (Or.inl ⟨by rfl, ?y0a⟩) trivial ?r0a
            case y0a => (intro ww _; go_simp)
            try simp only [Act.put]
            refine wpAnyH_take (i := 3) (v := .string s) rfl (by kernel_rfl) (by kernel_rfl) (by kernel_rfl) (fun _ _ _ h => h) (Or.inl ⟨by rfl, ?y3a⟩) trivial ?r3a
            case y3a => (intro ww _; go_simp)
            try simp only [Act.put]
            refine wpAnyH_take (i := 4) (v := .int .i64 1) rfl (by kernel_rfl) (by kernel_rfl) (by kernel_rfl) (fun _ _ _ h => h) (Or.inl ⟨by rfl, ?y4a⟩) trivial ?r4a
            case y4a => (intro ww _; go_simp)
            try simp only [Act.put]
            refine wpAnyH_take (i := 5) (v := .int .u8 (x : Int)) rfl (by kernel_rfl) (by kernel_rfl) (by kernel_rfl) (fun _ _ _ h => h) (Or.inl ⟨by rfl, ?y5a⟩) trivial ?r5a
            case y5a => (intro ww _; go_simp)
            try simp only [Act.put]
            refine wpAnyH_take (i := 6) (v := .int .u8 (d : Int)) rfl (by kernel_rfl) (by kernel_rfl) (by kernel_rfl) (fun _ _ _ h => h) (Or.inl ⟨by rfl, ?y6a⟩) trivial ?r6a
            case y6a => (intro ww _; go_simp)
            try simp only [Act.put]
            refine wpAnyH_take (i := 7) (v := .int .u64 (d : Int)) rfl (by kernel_rfl) (by kernel_rfl) (by kernel_rfl) (fun _ _ _ h => h) (Or.inl ⟨by rfl, ?y7a⟩) trivial ?r7a
            case y7a => (intro ww _; go_simp)
            try simp only [Act.put]
            refine wpAnyH_ready (rs := [1]) (by kernel_rfl) (by simp) ?_
            refine AllReadyH.cons rfl (fun K hK => ?_) AllReadyH.nil
            go_simp
            refine Calls.mono (nOf_pack 10 wd (by decide)) ?_
            rintro e w1 ⟨a1, n1, c1, rfl, hn1, hn1b, hO1, hb1⟩
            have J1 := HI.out.keep (nbelow_trans bw hb1)
            have b1 := nbelow_trans bw hb1
            clear hn1 hb1 bw
            refine hK.out _ _ trivial (fun _ => ?_)
            clear hK K
            try simp only [Act.put, List.setIfInBounds_toArray, List.set_cons_zero, List.set_cons_succ]
            refine wpAnyH_ready (rs := [2]) (by kernel_rfl) (by simp) ?_
            refine AllReadyH.cons rfl (fun K hK => ?_) AllReadyH.nil
            go_simp
            refine Calls.mono (nMul_pack ao a1 n c n1 c1 V 10 w1 J1 hO1.1 (by omega) (by omega)) ?_
            rintro e w2 ⟨a2, n2, c2, rfl, hn2, hO2, hb2⟩
            have hn2b : n2 ≤ 300 := by rw [hn2]; have h1 := HB.out; omega
            have b2 := nbelow_trans b1 hb2
            clear hn2 hb2 b1 J1 hO1
            refine hK.out _ _ trivial (fun _ => ?_)
            clear hK K
            try simp only [Act.put, List.setIfInBounds_toArray, List.set_cons_zero, List.set_cons_succ]
            refine wpAnyH_ready (rs := [8]) (by kernel_rfl) (by simp) ?_
            refine AllReadyH.cons rfl (fun K hK => ?_) AllReadyH.nil
            go_simp
            refine Calls.mono (nOf_pack d w2 (by omega)) ?_
            rintro e w3 ⟨a3, n3, c3, rfl, hn3, hn3b, hO3, hb3⟩
            have J2 := hO2.1.keep hb3
            have b3 := nbelow_trans b2 hb3
            clear hn3 hb3 b2 hO2
            refine hK.out _ _ trivial (fun _ => ?_)
            clear hK K
            try simp only [Act.put, List.setIfInBounds_toArray, List.set_cons_zero, List.set_cons_succ]
            refine wpAnyH_ready (rs := [9]) (by kernel_rfl) (by simp) ?_
            refine AllReadyH.cons rfl (fun K hK => ?_) AllReadyH.nil
            go_simp
            refine Calls.mono (nAdd_pack a2 a3 n2 c2 n3 c3 (V * 10) d w3 J2 hO3.1 (by omega) (by omega)) ?_
            rintro e w4 ⟨a4, n4, c4, rfl, hn4, hO4, hb4⟩
            have b4 := nbelow_trans b3 hb4
            have hs3 := b3.size
            rw [HV2.out] at hn4 hO4
            have HN4 : Hid _ := hn4
            have hn4b : n4 ≤ 256 := by rw [hn4]; exact HW2.out
            clear hn4 hb4 b3 J2 hO3
            refine hK.out _ _ trivial (fun _ => ?_)
            clear hK K
            try simp only [Act.put, List.setIfInBounds_toArray, List.set_cons_zero, List.set_cons_succ]
            refine wpAnyH_ready (rs := [10]) (by kernel_rfl) (by simp) ?_
            refine AllReadyH.cons rfl (fun K hK => ?_) AllReadyH.nil
            go_simp
            refine hK.out _ _ trivial (fun _ => ?_)
            clear hK K
            try simp only [Act.put, List.setIfInBounds_toArray, List.set_cons_zero, List.set_cons_succ]
            refine wpAnyH_done (by kernel_rfl) ?_ _
            go_wp2_with fail
            refine ⟨⟨1 + 1, n4, c4, a4, by omega, by go_num, rfl, HN4, hn4b, hO4.low (by omega), nbelow_trans hbr b4⟩, by simp [intOf]; omega⟩
          · clear hys
            go_upto_region 9 with fail
            have bw : Below wr.heap.size wr wr.drew := (Below.refl _ _).drew
            refine wp_region_held (S := fun _ => True) (by kernel_rfl) ?_
            change wpAnyH _ _ _ _ _ _ _ _ (World.drew wr)
            generalize World.drew wr = wd at *
            refine wpAnyH_take (i := 0) (v := .slice ao n c) rfl (by kernel_rfl) (by kernel_rfl) (by kernel_rfl) (fun _ _ _ h => h) (Or.inl ⟨by rfl, ?y0b⟩) trivial ?r0b
            case y0b => (intro ww _; go_simp)
            try simp only [Act.put]
            refine wpAnyH_take (i := 3) (v := .string s) rfl (by kernel_rfl) (by kernel_rfl) (by kernel_rfl) (fun _ _ _ h => h) (Or.inl ⟨by rfl, ?y3b⟩) trivial ?r3b
            case y3b => (intro ww _; go_simp)
            try simp only [Act.put]
            refine wpAnyH_take (i := 4) (v := .int .i64 (k : Int)) rfl (by kernel_rfl) (by kernel_rfl) (by kernel_rfl) (fun _ _ _ h => h) (Or.inl ⟨by rfl, ?y4b⟩) trivial ?r4b
            case y4b => (intro ww _; go_simp)
            try simp only [Act.put]
            refine wpAnyH_take (i := 5) (v := .int .u8 (x : Int)) rfl (by kernel_rfl) (by kernel_rfl) (by kernel_rfl) (fun _ _ _ h => h) (Or.inl ⟨by rfl, ?y5b⟩) trivial ?r5b
            case y5b => (intro ww _; go_simp)
            try simp only [Act.put]
            refine wpAnyH_take (i := 6) (v := .int .u8 (d : Int)) rfl (by kernel_rfl) (by kernel_rfl) (by kernel_rfl) (fun _ _ _ h => h) (Or.inl ⟨by rfl, ?y6b⟩) trivial ?r6b
            case y6b => (intro ww _; go_simp)
            try simp only [Act.put]
            refine wpAnyH_take (i := 7) (v := .int .u64 (d : Int)) rfl (by kernel_rfl) (by kernel_rfl) (by kernel_rfl) (fun _ _ _ h => h) (Or.inl ⟨by rfl, ?y7b⟩) trivial ?r7b
            case y7b => (intro ww _; go_simp)
            try simp only [Act.put]
            refine wpAnyH_ready (rs := [1]) (by kernel_rfl) (by simp) ?_
            refine AllReadyH.cons rfl (fun K hK => ?_) AllReadyH.nil
            go_simp
            refine Calls.mono (nOf_pack 10 wd (by decide)) ?_
            rintro e w1 ⟨a1, n1, c1, rfl, hn1, hn1b, hO1, hb1⟩
            have J1 := HI.out.keep (nbelow_trans bw hb1)
            have b1 := nbelow_trans bw hb1
            clear hn1 hb1 bw
            refine hK.out _ _ trivial (fun _ => ?_)
            clear hK K
            try simp only [Act.put, List.setIfInBounds_toArray, List.set_cons_zero, List.set_cons_succ]
            refine wpAnyH_ready (rs := [2]) (by kernel_rfl) (by simp) ?_
            refine AllReadyH.cons rfl (fun K hK => ?_) AllReadyH.nil
            go_simp
            refine Calls.mono (nMul_pack ao a1 n c n1 c1 V 10 w1 J1 hO1.1 (by omega) (by omega)) ?_
            rintro e w2 ⟨a2, n2, c2, rfl, hn2, hO2, hb2⟩
            have hn2b : n2 ≤ 300 := by rw [hn2]; have h1 := HB.out; omega
            have b2 := nbelow_trans b1 hb2
            clear hn2 hb2 b1 J1 hO1
            refine hK.out _ _ trivial (fun _ => ?_)
            clear hK K
            try simp only [Act.put, List.setIfInBounds_toArray, List.set_cons_zero, List.set_cons_succ]
            refine wpAnyH_ready (rs := [8]) (by kernel_rfl) (by simp) ?_
            refine AllReadyH.cons rfl (fun K hK => ?_) AllReadyH.nil
            go_simp
            refine Calls.mono (nOf_pack d w2 (by omega)) ?_
            rintro e w3 ⟨a3, n3, c3, rfl, hn3, hn3b, hO3, hb3⟩
            have J2 := hO2.1.keep hb3
            have b3 := nbelow_trans b2 hb3
            clear hn3 hb3 b2 hO2
            refine hK.out _ _ trivial (fun _ => ?_)
            clear hK K
            try simp only [Act.put, List.setIfInBounds_toArray, List.set_cons_zero, List.set_cons_succ]
            refine wpAnyH_ready (rs := [9]) (by kernel_rfl) (by simp) ?_
            refine AllReadyH.cons rfl (fun K hK => ?_) AllReadyH.nil
            go_simp
            refine Calls.mono (nAdd_pack a2 a3 n2 c2 n3 c3 (V * 10) d w3 J2 hO3.1 (by omega) (by omega)) ?_
            rintro e w4 ⟨a4, n4, c4, rfl, hn4, hO4, hb4⟩
            have b4 := nbelow_trans b3 hb4
            have hs3 := b3.size
            rw [HV2.out] at hn4 hO4
            have HN4 : Hid _ := hn4
            have hn4b : n4 ≤ 256 := by rw [hn4]; exact HW2.out
            clear hn4 hb4 b3 J2 hO3
            refine hK.out _ _ trivial (fun _ => ?_)
            clear hK K
            try simp only [Act.put, List.setIfInBounds_toArray, List.set_cons_zero, List.set_cons_succ]
            refine wpAnyH_ready (rs := [10]) (by kernel_rfl) (by simp) ?_
            refine AllReadyH.cons rfl (fun K hK => ?_) AllReadyH.nil
            go_simp
            refine hK.out _ _ trivial (fun _ => ?_)
            clear hK K
            try simp only [Act.put, List.setIfInBounds_toArray, List.set_cons_zero, List.set_cons_succ]
            refine wpAnyH_done (by kernel_rfl) ?_ _
            go_wp2_with fail
            refine ⟨⟨k + 1, n4, c4, a4, by omega, by go_num, rfl, HN4, hn4b, hO4.low (by omega), nbelow_trans hbr b4⟩, by simp [intOf]; omega⟩
        · have hkk : k = K := by omega
          have hb := bad_digit (mis_bad s.data.toList (by rw [← HK.out, HL.out]; omega))
          rw [← HK.out, ← hkk, ← hx, ← hy] at hb
          have HP : Hid _ := par_bad (l := s.data.toList) (by rw [HL.out]; exact hlong) (by rw [← HK.out, HL.out]; omega)
          rw [← HK.out, ← hkk] at HP
          clear hx hy hkk hkK hk hO
          rcases hb with hb | ⟨b1, b2⟩ | ⟨b1, b2, b3, b4⟩
          · clear hys
            go_wp2_with fail
            go_ret3
            rw [HP.out.1, HP.out.2.1, HP.out.2.2]
            exact ⟨_, rfl, natAt_nil _ _, hbr⟩
          · clear hys
            go_wp2_with fail
            go_ret3
            rw [HP.out.1, HP.out.2.1, HP.out.2.2]
            exact ⟨_, rfl, natAt_nil _ _, hbr⟩
          · subst b3 b4
            go_wp2_with fail
            go_ret3
            rw [HP.out.1, HP.out.2.1, HP.out.2.2]
            exact ⟨_, rfl, natAt_nil _ _, hbr⟩
      · have hke : k = s.size := by omega
        have e1 : s.data.toList.take k = s.data.toList := take_past _ _ (by rw [HL.out]; omega)
        rw [e1] at HN hO
        by_cases he : s.data.toList = []
        · have h0 : s.toList.isEmpty = true := by rw [str_empty]; simp [he]
          have HE : Hid (s.data.toList = []) := he
          have HP : Hid _ := par_nil
          clear he hke e1
          go_wp2_with fail
          go_ret3
          rw [HE.out, HP.out.1, HP.out.2.1, HP.out.2.2]
          exact ⟨_, rfl, natAt_nil _ _, hbr⟩
        · have h0 : s.toList.isEmpty = false := by rw [str_empty]; simp [he]
          have HP : Hid _ := par_good (l := s.data.toList) (by rw [HL.out]; exact hlong) he (by rw [← HK.out, HL.out]; omega)
          have HNW : Hid _ := NatAt.of_words HN.out hO
          clear he hke e1 hO
          go_wp2_with fail
          go_ret3
          rw [HP.out.1, HP.out.2.1, HP.out.2.2]
          exact ⟨_, rfl, HNW.out, hbr⟩
end Go.Proofs.YtfmjgagajlhfoaaDoor

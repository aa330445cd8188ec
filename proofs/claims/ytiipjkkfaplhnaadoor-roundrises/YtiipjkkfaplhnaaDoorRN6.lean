/- Package ulpref05: tiny, put, near; Near and Tiny. -/
import Derived.Test.YtiipjkkfaplhnaaDoorRN5
import Derived.Test.YtiipjkkfaplhnaaDoorRN1
import Derived.Test.YtiipjkkfaplhnaaDoorRNt
namespace Go.Proofs.YtiipjkkfaplhnaaDoor
open Go.RowKit

theorem rd_len (m : Nat) (k : Int) (b : Nat) (hb : b ≤ 60) (h : (blen m : Int) ≤ b + k) : rd2 m k < 18446744073709551616 ∧ (wordsOf (rd2 m k)).length ≤ 1 := by
  have h1 := fl_lt m b k h
  have h2 : 2 ^ b ≤ 2 ^ 60 := Nat.pow_le_pow_right (by decide) hb
  have h3 : rd2 m k < 18446744073709551616 := by
    unfold rd2
    have : (up2 m k).toNat ≤ 1 := Bool.toNat_le _
    have h4 : (2 : Nat) ^ 60 < 18446744073709551615 := by decide
    omega
  exact ⟨h3, (words_len 1 _).2 (by rw [Nat.pow_one]; exact h3)⟩

set_option maxRecDepth 100000 in
set_option maxHeartbeats 2000000 in
theorem rtiny_calls (s : Bool) (a : Option Addr) (len cap : Nat) (xs : List Int) (e : Int) (w : World) (h : IsW w a len cap xs) (hm : len ≤ 17592186044000) (hg : greatB (val xs) = false) (he : -32768 ≤ e ∧ e ≤ 32768) :
    Calls Tryd.prog 34 #[dyV s a len cap e] w fun r w' => r = .returned (.bool (tinyQ (val xs) e)) ∧ Below w.heap.size w w' := by
  have bA := below_one w (.cells #[.bool s, .slice a len cap, .int .i64 e] 25)
  have hI := h.keep bA
  have HL : Hid _ := nLen_calls a len cap xs _ hI (by omega)
  have HT : Hid _ := fun w' (h' : IsW w' a len cap xs) => rtop_calls s a len cap xs e w' h' (by omega) hg he
  have hbl := (great_not _).1 hg
  have c1 : (w.alloc (.cells #[.bool s, .slice a len cap, .int .i64 e] 25)).cell? ⟨w.heap.size, 0, none⟩ = some (.bool s) := by go_simp
  have c2 : (w.alloc (.cells #[.bool s, .slice a len cap, .int .i64 e] 25)).cell? ⟨w.heap.size, 1, none⟩ = some (.slice a len cap) := by go_simp
  have c3 : (w.alloc (.cells #[.bool s, .slice a len cap, .int .i64 e] 25)).cell? ⟨w.heap.size, 2, none⟩ = some (.int .i64 e) := by go_simp
  by_cases h0 : val xs = 0
  · have e1 : Hid (tinyQ (val xs) e = false) := by rw [Hid]; unfold tinyQ; rw [if_pos h0]
    rw [h0, blen_zero] at HL
    clear h0 hg he hbl hI
    go_enter Tryd.func34, Tryd.ntmps34
    go_wp2_with fail
    generalize (w.alloc (.cells #[.bool s, .slice a len cap, .int .i64 e] 25)) = w0 at *
    refine Calls.mono HL.out ?_
    rintro r w1 ⟨rfl, b1⟩
    go_wp2_with fail
    go_ret
    rw [e1.out]
    exact ⟨rfl, nbelow_trans bA b1⟩
  · have hz : ((blen (val xs) : Int) == 0) = false := by
      have : blen (val xs) ≠ 0 := fun q => h0 ((blen_nil _).1 q)
      simp; omega
    have hz' : (blen (val xs) : Int) ≠ 0 := by simpa using hz
    have HC : Hid (tpI (val xs) e + 1 = -1022 → ∀ w', IsW w' a len cap xs → Calls Tryd.prog 61 #[.slice a len cap, .int .i64 e, .int .i64 (-1075)] w' fun r w'' => ∃ v, r = .returned (.tuple #[v, .bool (ls2 (val xs) (-1075 - e))]) ∧ NatAt w'.heap.size w'' v (rd2 (val xs) (-1075 - e)) ∧ Below w'.heap.size w' w'') := fun q w' h' => rcut_calls a len cap xs e (-1075) w' h' hm (by omega) (by decide) (by unfold tpI at q; omega)
    have HR : Hid (tpI (val xs) e + 1 = -1022 → (wordsOf (rd2 (val xs) (-1075 - e))).length ≤ 1) := fun q => (rd_len _ _ 53 (by decide) (by unfold tpI at q; omega)).2
    have HE : Hid (tinyQ (val xs) e = if -1022 < tpI (val xs) e + 1 then false else if tpI (val xs) e + 1 < -1022 then true else decide (blen (rd2 (val xs) (-1075 - e)) ≤ 53)) := by rw [Hid]; unfold tinyQ; rw [if_neg h0]
    have W1 : IntKind.i64.wrap (-1022 - 53) = -1075 := by decide
    generalize tinyQ (val xs) e = ans at *
    generalize rd2 (val xs) (-1075 - e) = q at *
    generalize ls2 (val xs) (-1075 - e) = lo at *
    generalize tpI (val xs) e + 1 = tp at *
    generalize (blen (val xs) : Int) = bl at *
    clear h0 hg he hbl
    go_enter Tryd.func34, Tryd.ntmps34
    go_wp2_with fail
    generalize (w.alloc (.cells #[.bool s, .slice a len cap, .int .i64 e] 25)) = w0 at *
    refine Calls.mono HL.out ?_
    rintro r w1 ⟨rfl, b1⟩
    replace hI := hI.keep b1
    replace c1 := dcarry_cell b1 c1
    replace c2 := dcarry_cell b1 c2
    replace c3 := dcarry_cell b1 c3
    replace bA := nbelow_trans bA b1
    clear b1
    go_wp2_with fail
    refine Calls.mono (HT.out _ hI) ?_
    rintro r w2 ⟨rfl, b1⟩
    replace hI := hI.keep b1
    replace c1 := dcarry_cell b1 c1
    replace c2 := dcarry_cell b1 c2
    replace c3 := dcarry_cell b1 c3
    replace bA := nbelow_trans bA b1
    clear b1
    by_cases k1 : -1022 < tp
    · have e1 : Hid (ans = false) := by rw [Hid, HE.out, if_pos k1]
      go_wp2_with fail
      go_ret
      rw [e1.out]
      exact ⟨rfl, bA⟩
    · by_cases k2 : tp < -1022
      · have e1 : Hid (ans = true) := by rw [Hid, HE.out, if_neg k1, if_pos k2]
        go_wp2_with fail
        go_ret
        rw [e1.out]
        exact ⟨rfl, bA⟩
      · have e1 : Hid (ans = decide (blen q ≤ 53)) := by rw [Hid, HE.out, if_neg k1, if_neg k2]
        have ht : tp = -1022 := by omega
        subst ht
        have HC' : Hid _ := HC.out rfl
        have HR' : Hid _ := HR.out rfl
        clear HC HR HE k1 k2
        go_wp2_with fail
        refine Calls.mono (HC'.out _ hI) ?_
        rintro r w3 ⟨v, rfl, ⟨ao, n, c, rfl, hN, hO⟩, b1⟩
        have HN : Hid _ := hN
        replace bA := nbelow_trans bA b1
        clear hN b1
        go_wp2_with fail
        refine Calls.mono (nLen_calls ao n c _ _ hO.1 (by have := HR'.out; have := HN.out; omega)) ?_
        rintro r w4 ⟨rfl, b1⟩
        rw [val_words]
        go_wp2_with fail
        go_ret
        rw [e1.out, show decide (blen q ≤ 53) = decide ((blen q : Int) ≤ 53) from by rw [decide_eq_decide]; omega]
        exact ⟨rfl, nbelow_trans bA b1⟩

/-- a number below 2^53 at its place; an infinity, if it is too great -/
def putV (q : Nat) (l : Int) : Int := if q < 4503599627370496 then (q : Int) else if 971 < l then 9218868437227405312 else (l + 1075) * 4503599627370496 + q - 4503599627370496
set_option maxRecDepth 100000 in
set_option maxHeartbeats 2000000 in
theorem put_calls (ao : Option Addr) (n c q : Nat) (l : Int) (w : World) (hI : IsW w ao n c (wordsOf q)) (hq : q ≤ 9007199254740992) (hl : -1074 ≤ l ∧ l ≤ 1100) :
    Calls Tryd.prog 63 #[.slice ao n c, .int .i64 l] w fun r w' => r = .returned (.int .u64 (putV q l)) ∧ w' = w := by
  have hn := hI.1
  by_cases h0 : q = 0
  · have hn0 := no_word q h0 n hn
    subst h0 hn0
    have e1 : Hid (putV 0 l = 0) := by rw [Hid]; unfold putV; rw [if_pos (by decide)]; rfl
    clear hn hI
    go_enter Tryd.func63, Tryd.ntmps63
    go_wp2_with fail
    go_ret
    rw [e1.out]
    exact ⟨rfl, rfl⟩
  · obtain ⟨hp, b, off, rfl, hc⟩ := first_word q h0 (by omega) w ao n c hI hn
    have HN : Hid _ := hn
    clear hn hI
    by_cases h1 : q < 4503599627370496
    · have e1 : Hid (putV q l = (q : Int)) := by rw [Hid]; unfold putV; rw [if_pos h1]
      have h1' : (q : Int) < 4503599627370496 := by omega
      clear h1
      go_enter Tryd.func63, Tryd.ntmps63
      go_wp2_with fail
      go_ret
      rw [e1.out]
      exact ⟨rfl, rfl⟩
    · have h1' : ¬ (q : Int) < 4503599627370496 := by omega
      by_cases h2 : 971 < l
      · have e1 : Hid (putV q l = 9218868437227405312) := by rw [Hid]; unfold putV; rw [if_neg h1, if_pos h2]
        clear h1
        go_enter Tryd.func63, Tryd.ntmps63
        go_wp2_with fail
        go_ret
        rw [e1.out]
        exact ⟨rfl, rfl⟩
      · have e1 : Hid (putV q l = (l + 1075) * 4503599627370496 + q - 4503599627370496) := by rw [Hid]; unfold putV; rw [if_neg h1, if_neg h2]
        obtain ⟨L, hL⟩ : ∃ L : Int, l + 1075 = L := ⟨_, rfl⟩
        have W1 : IntKind.i64.wrap (l + 1075) = L := by rw [IntKind.wrap_i64]; omega
        have W2 : IntKind.u64.wrap L = L := by rw [IntKind.wrap_u64]; omega
        have W3 : IntKind.u64.wrap (L * 4503599627370496) = L * 4503599627370496 := by rw [IntKind.wrap_u64]; omega
        have W4 : IntKind.u64.wrap (L * 4503599627370496 + (q : Int)) = L * 4503599627370496 + (q : Int) := by rw [IntKind.wrap_u64]; omega
        have W5 : IntKind.u64.wrap (L * 4503599627370496 + (q : Int) - 4503599627370496) = L * 4503599627370496 + (q : Int) - 4503599627370496 := by rw [IntKind.wrap_u64]; omega
        rw [hL] at e1
        clear h1 hL
        go_enter Tryd.func63, Tryd.ntmps63
        go_wp2_with fail
        go_ret
        rw [e1.out]
        exact ⟨rfl, rfl⟩
end Go.Proofs.YtiipjkkfaplhnaaDoor

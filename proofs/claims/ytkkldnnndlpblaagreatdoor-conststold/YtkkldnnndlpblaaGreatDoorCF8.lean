/- Package consts: its bits. -/
import Derived.Test.YtkkldnnndlpblaaGreatDoorCF7
import Derived.Test.YtkkldnnndlpblaaGreatDoorNText
import Derived.BigQuiet
namespace Go.Proofs.YtkkldnnndlpblaaGreatDoor
open Go.RowKit Ck

def knB (k : Int) : Bool := decide (1 ≤ k ∧ k ≤ 7)

set_option maxRecDepth 100000 in
set_option maxHeartbeats 1000000 in
theorem known_calls (k : Int) (h0 : 0 ≤ k) (h1 : k ≤ 255) (w : World) :
    Calls Tryz.prog 31 #[.int .u8 k] w fun r w' => r = .returned (.bool (knB k)) ∧ w' = w := by
  by_cases c1 : 0 < k
  · by_cases c2 : k < 8
    · have hd : Hid (knB k = true) := decide_eq_true (by omega)
      go_enter Tryz.func31, Tryz.ntmps31
      go_wp2_with fail
      go_ret
      rw [hd.out]
      exact ⟨rfl, rfl⟩
    · have hd : Hid (knB k = false) := decide_eq_false (by omega)
      go_enter Tryz.func31, Tryz.ntmps31
      go_wp2_with fail
      go_ret
      rw [hd.out]
      exact ⟨rfl, rfl⟩
  · have hd : Hid (knB k = false) := decide_eq_false (by omega)
    go_enter Tryz.func31, Tryz.ntmps31
    go_wp2_with fail
    go_ret
    rw [hd.out]
    exact ⟨rfl, rfl⟩

/-- a constant and a number of bits or digits that may be asked for -/
def askB (k n M : Int) : Prop := 1 ≤ k ∧ k ≤ 7 ∧ 1 ≤ n ∧ n ≤ M

set_option maxRecDepth 100000 in
set_option maxHeartbeats 2000000 in
theorem bitsC_calls (k n : Int) (h0 : 0 ≤ k) (h1 : k ≤ 255) (w : World) (hT : RecT w) :
    Calls Tryz.prog 18 #[.int .u8 k, .int .i64 n] w fun r w' => ((¬ askB k n 1984 ∧ r = .returned (.tuple #[.slice none 0 0, .int .i64 2])) ∨ (∃ K N : Nat, k = (K : Int) ∧ n = (N : Int) ∧ 1 ≤ K ∧ K ≤ 7 ∧ 1 ≤ N ∧ N ≤ 1984 ∧ ((∃ (ao : Option Addr) (m d q : Nat), r = .returned (.tuple #[.slice ao m d, .int .i64 0]) ∧ m ≤ 1024 ∧ OwnW w.heap.size w' ao m d (wordsOf q) ∧ TW K (2 ^ N) q) ∨ (r = .returned (.tuple #[.slice none 0 0, .int .i64 6]) ∧ eLo K 8192 * 2 ^ N / 2 ^ 8192 ≠ eHi K 8192 * 2 ^ N / 2 ^ 8192)))) ∧ Below w.heap.size w w' := by
  by_cases hg : askB k n 1984
  · obtain ⟨g1, g2, g3, g4⟩ := hg
    obtain ⟨K, rfl⟩ := Int.eq_ofNat_of_zero_le h0
    obtain ⟨N, rfl⟩ := Int.eq_ofNat_of_zero_le (show 0 ≤ n by omega)
    have hd : knB (K : Int) = true := decide_eq_true (by omega)
    have hl : blen (2 ^ N) ≤ 2100 := by
      obtain ⟨X, hX⟩ : ∃ X : Nat, X = 2100 := ⟨_, rfl⟩
      rw [← hX]
      exact (blen_le _ _).2 (Nat.pow_lt_pow_right (by decide) (by omega))
    have HL : Hid _ := hl
    have HD : Hid _ := hd
    clear hl hd
    go_enter Tryz.func18, Tryz.ntmps18
    go_wp2_with fail
    refine Calls.mono (known_calls _ h0 h1 _) ?_
    rintro r w1 ⟨rfl, rfl⟩
    rw [HD.out]
    have j1 : ¬ (N : Int) < 1 := by omega
    have j2 : ¬ (1984 : Int) < (N : Int) := by omega
    go_wp2_with fail
    refine Calls.mono (fOne_calls N _ (by omega)) ?_
    rintro r w2 ⟨ao, m, d, rfl, hm, hO, b1⟩
    have hz := b1.size
    go_wp2_with fail
    refine Calls.mono (whole_calls K (2 ^ N) (by omega) (by omega) HL.out _ _ _ _ hO.1 hm (hT.kept b1)) ?_
    rintro r w3 ⟨hr, b2⟩
    have b3 := below_trans b1 b2
    rcases hr with ⟨a3, m3, d3, q, rfl, hm3, hO3, ht⟩ | ⟨rfl, hne⟩
    · have HT : Hid _ := ht
      clear ht
      go_wp2_with fail
      go_ret2
      exact ⟨Or.inr ⟨K, N, rfl, rfl, by omega, by omega, by omega, by omega, Or.inl ⟨a3, m3, d3, q, rfl, hm3, hO3.low hz, HT.out⟩⟩, b3⟩
    · have HT : Hid _ := hne
      clear hne
      go_wp2_with fail
      go_ret2
      exact ⟨Or.inr ⟨K, N, rfl, rfl, by omega, by omega, by omega, by omega, Or.inr ⟨rfl, HT.out⟩⟩, b3⟩
  · have HG : Hid (¬ askB k n 1984) := hg
    by_cases c1 : 1 ≤ k ∧ k ≤ 7
    · have hd : knB k = true := decide_eq_true c1
      have c2 : n < 1 ∨ 1984 < n := by
        unfold askB at hg
        omega
      clear hg
      have HD : Hid _ := hd
      clear hd c1
      by_cases c3 : n < 1
      · clear c2
        go_enter Tryz.func18, Tryz.ntmps18
        go_wp2_with fail
        refine Calls.mono (known_calls _ h0 h1 _) ?_
        rintro r w1 ⟨rfl, rfl⟩
        rw [HD.out]
        go_wp2_with fail
        go_ret2
        exact ⟨Or.inl ⟨HG.out, rfl⟩, Below.refl _ _⟩
      · have c4 : 1984 < n := by omega
        clear c2
        go_enter Tryz.func18, Tryz.ntmps18
        go_wp2_with fail
        refine Calls.mono (known_calls _ h0 h1 _) ?_
        rintro r w1 ⟨rfl, rfl⟩
        rw [HD.out]
        go_wp2_with fail
        go_ret2
        exact ⟨Or.inl ⟨HG.out, rfl⟩, Below.refl _ _⟩
    · have hd : knB k = false := decide_eq_false c1
      have HD : Hid _ := hd
      clear hd hg c1
      go_enter Tryz.func18, Tryz.ntmps18
      go_wp2_with fail
      refine Calls.mono (known_calls _ h0 h1 _) ?_
      rintro r w1 ⟨rfl, rfl⟩
      rw [HD.out]
      go_wp2_with fail
      go_ret2
      exact ⟨Or.inl ⟨HG.out, rfl⟩, Below.refl _ _⟩
end Go.Proofs.YtkkldnnndlpblaaGreatDoor

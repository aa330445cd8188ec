/- The walks of the document's sums and differences of naturals. The walks of the document's shifts. The walk of the document's differences of naturals. The walks of the document's sums and differences, or why there are none. The walk of the document's shift to the right. -/
import Derived.Test.YtjgnoaieplmoiaaGreatDoorTMA
import Derived.Test.YtjgnoaieplmoiaaGreatDoorTMB

namespace Go.Proofs.YtjgnoaieplmoiaaGreatDoor
open Go.RowKit

theorem Own.isW' {B cv n : Nat} {w : World} {a : Option Addr} {L : List Int} (h : Own B w a cv L) (hU : AllU L) (hn : L.length = n) : IsW w a n cv L := by
  subst hn; exact h.isW hU
theorem own_snoc {B k : Nat} {w : World} {v : Value} {L : List Int} {s : Int} (hk : L.length = k) (h : w.ownsRow B 32 1 v (k + 1) (L.map (Value.int .u64) ++ [.int .u64 s])) :
    ∃ g cap, v = .slice (some ⟨g, 0, none⟩) (k + 1) cap ∧ Own B w (some ⟨g, 0, none⟩) cap (L ++ [s]) := by
  obtain ⟨g3, cap3, hv3⟩ : ∃ g3 cap3, v = .slice (some ⟨g3, 0, none⟩) (k + 1) cap3 := by
    rcases h.2 with ⟨_, h⟩ | ⟨g3, cap3, _, h, _⟩
    · omega
    · exact ⟨g3, cap3, h⟩
  subst hv3
  refine ⟨g3, cap3, rfl, ?_⟩
  unfold Own; rw [List.map_append, List.length_append, hk]; exact h




end Go.Proofs.YtjgnoaieplmoiaaGreatDoor

namespace Go.Proofs.YtjgnoaieplmoiaaGreatDoor
open Go.RowKit

theorem shl_snoc (xs L : List Int) (k sk s m x c y c' : Nat) (hm : m = 64 * sk + s) (hs : s < 64) (hl : L.length = sk + k) (hx : xs.getD k 0 = (x : Int))
    (hv : val L + 18446744073709551616 ^ (sk + k) * c = low xs k * 2 ^ m) (hy : y = c + x * 2 ^ s % 18446744073709551616) (hc : c' = x / 2 ^ (64 - s)) :
    val (L ++ [(y : Int)]) + 18446744073709551616 ^ (sk + (k + 1)) * c' = low xs (k + 1) * 2 ^ m := by
  have e3 : low xs (k + 1) = low xs k + 18446744073709551616 ^ k * x := by show low xs k + _ * (xs.getD k 0).toNat = _; rw [hx, Int.toNat_natCast]
  have e4 := shl_word x s hs
  rw [← hc] at e4
  have e5 : 18446744073709551616 ^ k * x * 2 ^ m = 18446744073709551616 ^ (sk + k) * (x * 2 ^ s) := by
    rw [hm, two64, two64, Nat.pow_add 2 (64 * sk) s, show 64 * (sk + k) = 64 * sk + 64 * k by omega, Nat.pow_add]
    simp only [Nat.mul_assoc, Nat.mul_left_comm, Nat.mul_comm]
  have e6 : 18446744073709551616 ^ (sk + k) * (x * 2 ^ s % 18446744073709551616 + 18446744073709551616 * c') = 18446744073709551616 ^ (sk + k) * (x * 2 ^ s % 18446744073709551616) + 18446744073709551616 ^ (sk + k) * 18446744073709551616 * c' := by rw [Nat.mul_add, Nat.mul_assoc]
  have e7 : 18446744073709551616 ^ (sk + k) * y = 18446744073709551616 ^ (sk + k) * c + 18446744073709551616 ^ (sk + k) * (x * 2 ^ s % 18446744073709551616) := by rw [hy, Nat.mul_add]
  have e8 : val [(y : Int)] = y := by simp [val]
  rw [e3, Nat.add_mul, ← hv, e5, ← e4, e6, val_append, hl, e8, e7, show sk + (k + 1) = sk + k + 1 by omega, Nat.pow_succ]
  generalize 18446744073709551616 ^ (sk + k) * 18446744073709551616 * c' = P
  generalize 18446744073709551616 ^ (sk + k) * (x * 2 ^ s % 18446744073709551616) = Q
  generalize 18446744073709551616 ^ (sk + k) * c = R
  omega
theorem or_words3 (c x s : Nat) (hs : s < 64) (hc : c < 2 ^ s) (hc2 : c < 18446744073709551616) : bits BinOp.or IntKind.u64 (IntKind.u64.wrap ((x : Int) * 2 ^ s)) (c : Int) = ((c + x * 2 ^ s % 18446744073709551616 : Nat) : Int) := by
  rw [mul_pow_cast, wrap_nat, u64_or_nat _ _ (Nat.mod_lt _ (by decide)) hc2, Nat.or_comm, (shl_room c x s hs hc).1]

end Go.Proofs.YtjgnoaieplmoiaaGreatDoor

namespace Go.Proofs.YtjgnoaieplmoiaaGreatDoor
open Go.RowKit



end Go.Proofs.YtjgnoaieplmoiaaGreatDoor

namespace Go.Proofs.YtjgnoaieplmoiaaGreatDoor
open Go.RowKit

theorem natAt_own {B cv : Nat} {w : World} {a : Option Addr} {r n : Nat} (h : Own B w a cv (wordsOf r)) (hn : (wordsOf r).length = n) : NatAt B w (.slice a n cv) r := ⟨a, n, cv, rfl, hn.symm, h.ownW (words_U _) hn⟩

theorem words_bound {u k : Nat} (h : u < 18446744073709551616 ^ k) : (wordsOf u).length ≤ k := (words_len k u).2 h
theorem sum_words {xs ys : List Int} (hx : AllU xs) (hy : AllU ys) : (wordsOf (val xs + val ys)).length ≤ max xs.length ys.length + 1 := by
  apply words_bound
  have h1 : val xs < 18446744073709551616 ^ (max xs.length ys.length) := Nat.lt_of_lt_of_le (val_lt xs hx) (Nat.pow_le_pow_right (by decide) (by omega))
  have h2 : val ys < 18446744073709551616 ^ (max xs.length ys.length) := Nat.lt_of_lt_of_le (val_lt ys hy) (Nat.pow_le_pow_right (by decide) (by omega))
  rw [Nat.pow_succ]
  generalize 18446744073709551616 ^ (max xs.length ys.length) = P at *
  omega


end Go.Proofs.YtjgnoaieplmoiaaGreatDoor

namespace Go.Proofs.YtjgnoaieplmoiaaGreatDoor
open Go.RowKit

/-- Whether a word below place k is set. -/
def loseB (xs : List Int) (k : Nat) : Bool := decide (low xs k ≠ 0)
theorem loseB_zero (xs : List Int) : loseB xs 0 = false := by simp [loseB, low]
theorem loseB_step (xs : List Int) (k x : Nat) (hx : xs.getD k 0 = (x : Int)) : loseB xs (k + 1) = (loseB xs k || decide (x ≠ 0)) := by
  have e : low xs (k + 1) = low xs k + 18446744073709551616 ^ k * x := by show low xs k + _ * (xs.getD k 0).toNat = _; rw [hx, Int.toNat_natCast]
  have hp : 0 < 18446744073709551616 ^ k := Nat.pow_pos (by decide)
  unfold loseB
  rw [e, Bool.eq_iff_iff]
  simp only [decide_eq_true_eq, Bool.or_eq_true]
  constructor
  · intro h
    by_cases h0 : low xs k = 0
    · right; intro q; subst q; rw [h0] at h; simp at h
    · left; exact h0
  · rintro (h | h)
    · omega
    · have := Nat.mul_pos hp (show 0 < x by omega); omega
theorem lost_word (xs : List Int) (hU : AllU xs) (m sk y z : Nat) (hsk : sk = m / 64) (hy : xs.getD sk 0 = (y : Int)) (hz : z = y * 2 ^ (64 - m % 64) % 18446744073709551616) : lostB (val xs) m = (loseB xs sk || decide (z ≠ 0)) := by
  have h1 := lost_split (val xs) m
  have h2 := val_word xs hU (m / 64)
  rw [← hsk, hy, Int.toNat_natCast] at h2
  rw [← hsk, ← low_mod xs hU, h2, ← hz] at h1
  unfold lostB loseB
  rw [Bool.eq_iff_iff]
  simp only [decide_eq_true_eq, Bool.or_eq_true]
  constructor
  · intro q
    by_cases e : low xs sk = 0
    · exact Or.inr (fun e2 => q (h1.2 ⟨e, e2⟩))
    · exact Or.inl e
  · intro q e
    have := h1.1 e
    rcases q with q | q
    · exact q this.1
    · exact q this.2
theorem shift64 (y : Nat) : y * 2 ^ (64 - 0) % 18446744073709551616 = 0 := by
  rw [show 64 - 0 = 64 from rfl, show (2 : Nat) ^ 64 = 18446744073709551616 from rfl, Nat.mul_mod_left]
theorem lost_all (v m len : Nat) (hv : v < 18446744073709551616 ^ len) (hm : 64 * len ≤ m) : lostB v m = decide (0 < blen v) := by
  have : v < 2 ^ m := by rw [two64] at hv; exact Nat.lt_of_lt_of_le hv (Nat.pow_le_pow_right (by decide) hm)
  unfold lostB
  rw [Nat.mod_eq_of_lt this, decide_eq_decide]
  have := blen_nil v
  omega


end Go.Proofs.YtjgnoaieplmoiaaGreatDoor

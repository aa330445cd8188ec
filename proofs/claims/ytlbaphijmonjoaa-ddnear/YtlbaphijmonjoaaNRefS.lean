/- The walks of the document's sums and differences, or why there are none. -/
import Derived.Test.YtlbaphijmonjoaaNSub
import Derived.Test.YtlbaphijmonjoaaTMB
namespace Go.Proofs.Ytlbaphijmonjoaa
open Go.RowKit

theorem natAt_own {B cv : Nat} {w : World} {a : Option Addr} {r n : Nat} (h : Own B w a cv (wordsOf r)) (hn : (wordsOf r).length = n) : NatAt B w (.slice a n cv) r := ⟨a, n, cv, rfl, hn.symm, h.ownW (words_U _) hn⟩

theorem words_bound {u k : Nat} (h : u < 18446744073709551616 ^ k) : (wordsOf u).length ≤ k := (words_len k u).2 h
theorem sum_words {xs ys : List Int} (hx : AllU xs) (hy : AllU ys) : (wordsOf (val xs + val ys)).length ≤ max xs.length ys.length + 1 := by
  apply words_bound
  have h1 : val xs < 18446744073709551616 ^ (max xs.length ys.length) := Nat.lt_of_lt_of_le (val_lt xs hx) (Nat.pow_le_pow_right (by decide) (by omega))
  have h2 : val ys < 18446744073709551616 ^ (max xs.length ys.length) := Nat.lt_of_lt_of_le (val_lt ys hy) (Nat.pow_le_pow_right (by decide) (by omega))
  rw [Nat.pow_succ]
  generalize 18446744073709551616 ^ (max xs.length ys.length) = P at *
  omega


end Go.Proofs.Ytlbaphijmonjoaa

/- The walks of sums of numbers: twice and one; level ones together. The walks of sums of numbers: together, apart. The walk of plus. The walks of Add. The walk of Add. The walks of cuts. The walks of Cut. The walks of Int, Check, Zero. The walks of the order of numbers: amounts. The walks of the order of numbers: amounts. The walks of the order of numbers: amounts. The order of numbers. The walks of the order of numbers. The walks of the order of numbers. The walks of the order of numbers. The walks of the order of numbers. The walk of Cmp. -/
import Derived.Test.YtlbaphijmonjoaaTMB

namespace Go.Proofs.Ytlbaphijmonjoaa
open Go.RowKit

theorem great_one : greatB 1 = false := (great_not 1).2 (by have := (blen_le 1 1).2 (by decide); omega)
theorem shr1 {m : Nat} (h : greatB m = false) : shrQ m 1 = m / 2 ∧ shrL m 1 = lostB m 1 ∧ shrE m 1 = 0 := by
  obtain ⟨e1, e2, e3⟩ := shr_fit (u := m) (j := 1) h
  exact ⟨by simpa using e2, by simpa using e3, by simpa using e1⟩
theorem blen_twice (h : Nat) (h0 : h ≠ 0) : blen (2 * h) = 1 + blen h ∧ blen (2 * h + 1) = 1 + blen h := by
  have e1 := blen_shift 1 0 h (by decide) h0
  have e2 := blen_shift 1 1 h (by decide) h0
  rw [Nat.pow_one] at e1 e2
  rw [Nat.zero_add] at e1
  rw [Nat.add_comm 1] at e2
  exact ⟨e1, e2⟩
theorem shl1_cases (h : Nat) (hg : greatB h = false) : (shlR h 1 = (2 * h, 0) ∧ greatB (2 * h) = false) ∨ (shlR h 1 = (0, 3) ∧ greatB (2 * h + 1) = true) := by
  by_cases h0 : h = 0
  · subst h0
    exact Or.inl ⟨shlR_zero hg (by decide) rfl, hg⟩
  · obtain ⟨b1, b2⟩ := blen_twice h h0
    by_cases hc : 65536 - (blen h : Int) < 1
    · exact Or.inr ⟨shlR_many hg (by decide) h0 hc, by rw [great_iff]; omega⟩
    · refine Or.inl ⟨?_, by rw [great_not]; omega⟩
      rw [shlR_fit hg (by decide) h0 (by omega)]
      simp [Nat.mul_comm]
theorem halves_fit {mx my : Nat} (hx : greatB mx = false) (hy : greatB my = false) (hox : mx % 2 = 1) (hoy : my % 2 = 1) : greatB (mx / 2 + my / 2) = false ∧ greatB (mx / 2 + my / 2 + 1) = false := by
  have h2 : greatB (mx / 2 + my / 2 + 1) = false := by
    rcases Nat.le_total mx my with q | q
    · exact great_mono (show mx / 2 + my / 2 + 1 ≤ my by omega) hy
    · exact great_mono (show mx / 2 + my / 2 + 1 ≤ mx by omega) hx
  exact ⟨great_mono (Nat.le_succ _) h2, h2⟩
theorem halves_form (s : Bool) (mx my : Nat) (e : Int) (hox : mx % 2 = 1) (hoy : my % 2 = 1) : formD s (mx / 2 + my / 2 + 1) (e + 1) = formD s (mx + my) e := by
  have h := form_shift s (mx / 2 + my / 2 + 1) 1 e
  rw [Nat.pow_one, show (mx / 2 + my / 2 + 1) * 2 = mx + my by omega] at h
  rw [h]; rfl





end Go.Proofs.Ytlbaphijmonjoaa

namespace Go.Proofs.Ytlbaphijmonjoaa
open Go.RowKit

theorem shl_odd (mx my dd : Nat) (hd : 0 < dd) (ho : my % 2 = 1) : (mx * 2 ^ dd + my) % 2 = 1 := by
  obtain ⟨k, rfl⟩ : ∃ k, dd = k + 1 := ⟨dd - 1, by omega⟩
  rw [Nat.pow_succ, ← Nat.mul_assoc]; omega
theorem shl_cases (m dd b : Nat) (hg : greatB m = false) : (shlR m (dd : Int) = (m * 2 ^ dd, 0) ∧ greatB (m * 2 ^ dd) = false) ∨ (shlR m (dd : Int) = (0, 3) ∧ greatB (m * 2 ^ dd + b) = true ∧ 65536 < blen (m * 2 ^ dd)) := by
  by_cases h0 : m = 0
  · subst h0
    rw [Nat.zero_mul]
    exact Or.inl ⟨shlR_zero hg (by omega) rfl, great_zero⟩
  · have hb := blen_mul m dd h0
    by_cases hc : 65536 - (blen m : Int) < (dd : Int)
    · refine Or.inr ⟨shlR_many hg (by omega) h0 hc, ?_, by omega⟩
      rw [great_iff]
      have := blen_mono (Nat.le_add_right (m * 2 ^ dd) b)
      omega
    · refine Or.inl ⟨?_, by rw [great_not]; omega⟩
      rw [shlR_fit hg (by omega) h0 (by omega), Int.toNat_natCast]










end Go.Proofs.Ytlbaphijmonjoaa

namespace Go.Proofs.Ytlbaphijmonjoaa
open Go.RowKit







/-- The sum of two numbers in their one form: the amounts brought to the lower exponent. -/
def addHi (s : Bool) (A : Nat) (t : Bool) (b : Nat) (e : Int) : Bool × Nat × Int := if s = t then formD s (A + b) e else if b ≤ A then formD s (A - b) e else formD t (b - A) e
def sumD (x y : Bool × Nat × Int) : Bool × Nat × Int :=
  if x.2.1 = 0 then y else if y.2.1 = 0 then x else
  if x.2.2 < y.2.2 then addHi y.1 (y.2.1 * 2 ^ (y.2.2 - x.2.2).toNat) x.1 x.2.1 x.2.2 else addHi x.1 (x.2.1 * 2 ^ (x.2.2 - y.2.2).toNat) y.1 y.2.1 y.2.2



theorem NumR.low {B B' : Nat} {w : World} {v : Value} {p : Bool × Nat × Int} (h : NumR B w v p) (hB : B' ≤ B) : NumR B' w v p := by
  rcases h with ⟨q, h⟩ | h
  · exact Or.inl ⟨q, h.low hB⟩
  · exact Or.inr h

end Go.Proofs.Ytlbaphijmonjoaa

namespace Go.Proofs.Ytlbaphijmonjoaa
open Go.RowKit

theorem calls_guard {P : Program} {f : FuncId} {A : Array Value} {w : World} {Q : Ending → World → Prop} (A' : Array Value) (hA : A = A') (h : Calls P f A' w Q) : Calls P f A w Q := by rw [hA]; exact h
theorem cell_set4 {W : World} {b o r : Nat} {v0 v1 v2 v3 x : Value} (h : W.cell? ⟨b, o, none⟩ = some x) (hne : b ≠ r) : ((((W.setCell ⟨r, 0, none⟩ v0).setCell ⟨r, 1, none⟩ v1).setCell ⟨r, 2, none⟩ v2).setCell ⟨r, 3, none⟩ v3).cell? ⟨b, o, none⟩ = some x := by
  have key : ∀ (V : World) (k : Nat) (v : Value), V.cell? ⟨b, o, none⟩ = some x → (V.setCell ⟨r, k, none⟩ v).cell? ⟨b, o, none⟩ = some x := fun V k v q =>
    (World.cell?_setCell_other V _ _ _ (fun e => by have := congrArg Addr.block e; simp at this; omega)).trans q
  exact key _ _ _ (key _ _ _ (key _ _ _ (key _ _ _ h)))
theorem numR_form {B : Nat} {w : World} {v : Value} {p : Bool × Nat × Int} (h : NumR B w v p) : ∃ (s : Bool) (a : Option Addr) (n c : Nat) (e : Int) (g : Bool), v = numV s a n c e g ∧ Hid (NumR B w (numV s a n c e g) p) := by
  rcases h with ⟨q, ao, n, c, rfl, h⟩ | ⟨q, rfl⟩
  · exact ⟨p.1, ao, n, c, p.2.2, false, rfl, Or.inl ⟨q, ao, n, c, rfl, h⟩⟩
  · exact ⟨false, none, 0, 0, 0, true, rfl, Or.inr ⟨q, rfl⟩⟩
theorem NumR.far {B : Nat} {w : World} {v : Value} {p : Bool × Nat × Int} (h : NumR B w v p) (q : Addr) (u : Value) (hq : q.block < B) : NumR B (w.setCell q u) v p := by
  rcases h with ⟨g, ao, n, c, e, h1, h2, h3, h4⟩ | h
  · exact Or.inl ⟨g, ao, n, c, e, h1, h2, h3, h4.far q u hq⟩
  · exact Or.inr h
theorem NumR.keep {B : Nat} {w w' : World} {v : Value} {p : Bool × Nat × Int} (h : NumR B w v p) (hb : Below w.heap.size w w') : NumR B w' v p := by
  rcases h with ⟨q, h⟩ | h
  · exact Or.inl ⟨q, h.keep hb⟩
  · exact Or.inr h
theorem form_bounds (s : Bool) (m : Nat) (e : Int) (h : rightB m e = true) : -100000000 ≤ (formD s m e).2.2 ∧ (formD s m e).2.2 ≤ 100000000 := by
  obtain ⟨h1, h2, h3⟩ := rightB_yes h
  by_cases h0 : m = 0
  · rw [h0, form_zero]; exact ⟨by decide, by decide⟩
  · rw [form_pos s h0]
    have := tz_le_blen m
    have := (great_not m).1 h1
    show _ ≤ e + (tz m : Int) ∧ e + (tz m : Int) ≤ _
    omega
theorem form_fit (s : Bool) (m : Nat) (e : Int) (h : rightB m e = true) : greatB (formD s m e).2.1 = false := great_mono (form_amount_le _ _ _) (rightB_yes h).1
theorem right_exp {m : Nat} {e : Int} (h : rightB m e = true) : -4611686018427387904 ≤ e ∧ e ≤ 4611686018427387904 := by
  have := (rightB_yes h).2; omega
theorem hidN {B : Nat} {w : World} {s : Bool} {a : Option Addr} {n c : Nat} {e : Int} {p : Bool × Nat × Int} (h1 : s = p.1) (h2 : e = p.2.2) (h3 : Hid (n = (wordsOf p.2.1).length)) (h4 : Hid (n = 0 → a = none ∧ c = 0)) (h5 : n ≤ 1024) (h6 : OwnW B w a n c (wordsOf p.2.1)) : NumAt B w (numV s a n c e false) p := by
  subst h1; subst h2
  exact ⟨a, n, c, rfl, h3, h4, h5, h6⟩

attribute [local go_sem ↓] Go.wp_at_zero Go.wp_at_succ


end Go.Proofs.Ytlbaphijmonjoaa

namespace Go.Proofs.Ytlbaphijmonjoaa
open Go.RowKit


end Go.Proofs.Ytlbaphijmonjoaa

namespace Go.Proofs.Ytlbaphijmonjoaa
open Go.RowKit

theorem shr_room2 {m j : Nat} (h : greatB m = false) (hj : 0 < j) : greatB (m / 2 ^ j) = false ∧ greatB (m / 2 ^ j + 1) = false := by
  have h1 := great_mono (Nat.div_le_self m (2 ^ j)) h
  refine ⟨h1, ?_⟩
  by_cases h0 : m = 0
  · subst h0; rw [Nat.zero_div]; exact great_one
  · refine great_mono ?_ h
    have h2 : m / 2 ^ j < m := Nat.div_lt_self (by omega) (Nat.one_lt_two_pow (by omega))
    exact h2






/-- The next number of at most so many bits, down or up. -/
def cutD (x : Bool × Nat × Int) (pp : Int) (up : Bool) : Bool × Nat × Int := if (blen x.2.1 : Int) ≤ pp then x else formD x.1 (x.2.1 / 2 ^ (blen x.2.1 - pp).toNat + (if (!(up == x.1)) = true then 1 else 0)) (x.2.2 + ((blen x.2.1 - pp).toNat : Int))

end Go.Proofs.Ytlbaphijmonjoaa

namespace Go.Proofs.Ytlbaphijmonjoaa
open Go.RowKit

attribute [local go_sem ↓] Go.wp_at_zero Go.wp_at_succ




end Go.Proofs.Ytlbaphijmonjoaa

namespace Go.Proofs.Ytlbaphijmonjoaa
open Go.RowKit

def intD (i : Int) : Bool × Nat × Int := formD (decide (i < 0)) i.natAbs 0



end Go.Proofs.Ytlbaphijmonjoaa

namespace Go.Proofs.Ytlbaphijmonjoaa
open Go.RowKit


end Go.Proofs.Ytlbaphijmonjoaa

namespace Go.Proofs.Ytlbaphijmonjoaa
open Go.RowKit


end Go.Proofs.Ytlbaphijmonjoaa

namespace Go.Proofs.Ytlbaphijmonjoaa
open Go.RowKit


end Go.Proofs.Ytlbaphijmonjoaa

namespace Go.Proofs.Ytlbaphijmonjoaa
open Go.RowKit

/-- The order of two amounts other than 0, as it is reckoned. -/
def amtD (mx : Nat) (ex : Int) (my : Nat) (ey : Int) : Int :=
  if ex + (blen mx : Int) - 1 ≠ ey + (blen my : Int) - 1 then Lib.compareInt (ex + (blen mx : Int) - 1) (ey + (blen my : Int) - 1)
  else if ex < ey then -(cmpN (my * 2 ^ (ey - ex).toNat) mx) else cmpN (mx * 2 ^ (ex - ey).toNat) my
theorem level_fit {m n d : Nat} {e f : Int} (hm : greatB m = false) (hn : greatB n = false) (h0 : m ≠ 0) (ht : e + (blen m : Int) - 1 = f + (blen n : Int) - 1) (hd : e = f + (d : Int)) : shlR m (d : Int) = (m * 2 ^ d, 0) ∧ greatB (m * 2 ^ d) = false := by
  have h1 := (great_not n).1 hn
  have hb := blen_mul m d h0
  constructor
  · rw [shlR_fit hm (by omega) h0 (by omega), Int.toNat_natCast]
  · rw [great_not]; omega
end Go.Proofs.Ytlbaphijmonjoaa

namespace Go.Proofs.Ytlbaphijmonjoaa
open Go.RowKit

def sgnI (n : Nat) (s : Bool) : Int := if n = 0 then 0 else if s = true then -1 else 1
theorem sgnI_zero (s : Bool) : sgnI 0 s = 0 := rfl
theorem sgnI_neg {n : Nat} (h : n ≠ 0) : sgnI n true = -1 := by unfold sgnI; rw [if_neg h]; rfl
theorem sgnI_pos {n : Nat} (h : n ≠ 0) : sgnI n false = 1 := by unfold sgnI; rw [if_neg h]; rfl



end Go.Proofs.Ytlbaphijmonjoaa

namespace Go.Proofs.Ytlbaphijmonjoaa
open Go.RowKit



end Go.Proofs.Ytlbaphijmonjoaa

namespace Go.Proofs.Ytlbaphijmonjoaa
open Go.RowKit



end Go.Proofs.Ytlbaphijmonjoaa

namespace Go.Proofs.Ytlbaphijmonjoaa
open Go.RowKit

theorem cmpN_le (a b : Nat) : -1 ≤ cmpN a b ∧ cmpN a b ≤ 1 := by unfold cmpN; split <;> (try split) <;> omega
theorem compare_le (a b : Int) : -1 ≤ Lib.compareInt a b ∧ Lib.compareInt a b ≤ 1 := by unfold Lib.compareInt; split <;> (try split) <;> omega
theorem amtD_le (mx : Nat) (ex : Int) (my : Nat) (ey : Int) : -1 ≤ amtD mx ex my ey ∧ amtD mx ex my ey ≤ 1 := by
  unfold amtD
  split
  · exact compare_le _ _
  · split
    · have := cmpN_le (my * 2 ^ (ey - ex).toNat) mx
      omega
    · exact cmpN_le _ _


end Go.Proofs.Ytlbaphijmonjoaa

namespace Go.Proofs.Ytlbaphijmonjoaa
open Go.RowKit

def sgnD (p : Bool × Nat × Int) : Int := if p.2.1 = 0 then 0 else if p.1 = true then -1 else 1
/-- The order of two numbers in their one form, as it is reckoned. -/
def cmpD (x y : Bool × Nat × Int) : Int := if sgnD x ≠ sgnD y then Lib.compareInt (sgnD x) (sgnD y) else if x.2.1 = 0 then 0 else sgnD x * amtD x.2.1 x.2.2 y.2.1 y.2.2
theorem sgnD_of {p : Bool × Nat × Int} {n : Nat} (h : n = (wordsOf p.2.1).length) : sgnI n p.1 = sgnD p := by
  have h0 : n = 0 ↔ p.2.1 = 0 := by rw [h, List.length_eq_zero_iff, words_nil]
  unfold sgnI sgnD
  by_cases q : p.2.1 = 0
  · rw [if_pos (h0.2 q), if_pos q]
  · rw [if_neg (fun r => q (h0.1 r)), if_neg q]

attribute [local go_sem ↓] Go.wp_at_zero Go.wp_at_succ


end Go.Proofs.Ytlbaphijmonjoaa

/- The walks of products of two words, and of a row times a word added in place. -/
import Derived.Test.YtlbaphijmonjoaaTMB
import Derived.Test.YtlbaphijmonjoaaNDivBy
import Derived.BigRegion
namespace Go.Proofs.Ytlbaphijmonjoaa
open Go.RowKit

/-- The low and the high word of a product, and of such a pair with a word added. -/
def mL (x y : Nat) : Nat := x * y % 18446744073709551616
def mH (x y : Nat) : Nat := x * y / 18446744073709551616
def pL (l u : Nat) : Nat := (l + u) % 18446744073709551616
def pH (l h u : Nat) : Nat := (h + (l + u) / 18446744073709551616) % 18446744073709551616
theorem mH_lt (x y : Nat) (hx : x < 18446744073709551616) (hy : y < 18446744073709551616) : mH x y < 18446744073709551616 := by
  unfold mH
  rw [Nat.div_lt_iff_lt_mul (by decide)]
  rcases Nat.eq_zero_or_pos x with h | h
  · subst h; simp
  · exact Nat.mul_lt_mul_of_lt_of_lt hx hy
theorem mul_add_words (x y t c : Nat) (hx : x < 18446744073709551616) (hy : y < 18446744073709551616) (ht : t < 18446744073709551616) (hc : c < 18446744073709551616) :
    pL (pL (mL x y) t) c + 18446744073709551616 * pH (pL (mL x y) t) (pH (mL x y) (mH x y) t) c = x * y + t + c := by
  have h1 : x * y ≤ 18446744073709551615 * 18446744073709551615 := Nat.mul_le_mul (by omega) (by omega)
  unfold pL pH mL mH
  generalize x * y = p at *
  omega
theorem pL_lt (l u : Nat) : pL l u < 18446744073709551616 := Nat.mod_lt _ (by decide)
theorem pH_lt (l h u : Nat) : pH l h u < 18446744073709551616 := Nat.mod_lt _ (by decide)
theorem mL_lt (x y : Nat) : mL x y < 18446744073709551616 := Nat.mod_lt _ (by decide)



theorem gen_world {G : World → Prop} {W : World} (F : World → Prop) (h : F W) (k : ∀ W', F W' → G W') : G W := k W h
theorem carry_cell {W W' : World} (hb : Below W.heap.size W W') {p : Addr} {v : Value} (h : W.cell? p = some v) : W'.cell? p = some v := (hb.cell (World.block_lt_of_cell? _ _ h)).trans h
theorem carry_frozen {W W' : World} (hb : Below W.heap.size W W') {p : Addr} {v : Value} (h : W.cell? p = some v) (hf : W.frozen? p = false) : W'.frozen? p = false := (hb.frozen (World.block_lt_of_cell? _ _ h)).trans hf
/-- Of block g only the n places from off on have turned. -/
structure Upd (g off n : Nat) (w w' : World) : Prop where
  grown : w.grownBy w' (some g)
  cell : ∀ o, (o < off ∨ off + n ≤ o) → w'.cell? ⟨g, o, none⟩ = w.cell? ⟨g, o, none⟩
  frozen : ∀ o, w'.frozen? ⟨g, o, none⟩ = w.frozen? ⟨g, o, none⟩
theorem Upd.refl (g off n : Nat) (w : World) : Upd g off n w w := ⟨grown_refl _ _, fun _ _ => rfl, fun _ => rfl⟩
theorem Upd.trans {g off n : Nat} {a b c : World} (h : Upd g off n a b) (k : Upd g off n b c) : Upd g off n a c := ⟨h.grown.trans k.grown, fun o ho => (k.cell o ho).trans (h.cell o ho), fun o => (k.frozen o).trans (h.frozen o)⟩
theorem Upd.below {g off n : Nat} {a b c : World} (h : Upd g off n a b) (hg : g < b.heap.size) (k : Below b.heap.size b c) : Upd g off n a c := ⟨h.grown.trans (below_grown k _), fun o ho => (k.cell (p := ⟨g, o, none⟩) hg).trans (h.cell o ho), fun o => (k.frozen (p := ⟨g, o, none⟩) hg).trans (h.frozen o)⟩
theorem Upd.set {g off n : Nat} {a b : World} (h : Upd g off n a b) {i : Nat} (hi : i < n) (v : Value) : Upd g off n a (b.setCell ⟨g, off + i, none⟩ v) :=
  ⟨h.grown.trans (set_grown _ _ _), fun o ho => (World.cell?_setCell_other b _ _ _ (fun e => by have := congrArg Addr.off e; simp at this; omega)).trans (h.cell o ho), fun o => (World.frozen?_setCell b _ _ _).trans (h.frozen o)⟩
theorem low_set (xs : List Int) (i : Nat) (v : Int) : ∀ k, k ≤ i → low (xs.set i v) k = low xs k
  | 0, _ => rfl
  | k + 1, h => by
    show low (xs.set i v) k + _ * ((xs.set i v).getD k 0).toNat = low xs k + _ * (xs.getD k 0).toNat
    rw [low_set xs i v k (by omega)]
    simp only [List.getD, List.getElem?_set, show i ≠ k by omega, if_false]
theorem addTimes_step (S0 S ys : List Int) (k d t y c lo hi : Nat) (hk : k < S.length) (ht : S0.getD k 0 = (t : Int)) (hy : ys.getD k 0 = (y : Int))
    (hv : low S k + 18446744073709551616 ^ k * c = low S0 k + d * low ys k) (hw : lo + 18446744073709551616 * hi = y * d + t + c) :
    low (S.set k (lo : Int)) (k + 1) + 18446744073709551616 ^ (k + 1) * hi = low S0 (k + 1) + d * low ys (k + 1) := by
  have e1 : low (S.set k (lo : Int)) (k + 1) = low S k + 18446744073709551616 ^ k * lo := by
    show low (S.set k (lo : Int)) k + _ * ((S.set k (lo : Int)).getD k 0).toNat = _
    rw [low_set S k _ k (Nat.le_refl _), getD_set S k k _ hk, if_pos rfl, Int.toNat_natCast]
  have e2 : low S0 (k + 1) = low S0 k + 18446744073709551616 ^ k * t := by show low S0 k + _ * (S0.getD k 0).toNat = _; rw [ht, Int.toNat_natCast]
  have e3 : low ys (k + 1) = low ys k + 18446744073709551616 ^ k * y := by show low ys k + _ * (ys.getD k 0).toNat = _; rw [hy, Int.toNat_natCast]
  have e4 := congrArg (18446744073709551616 ^ k * ·) hw
  simp only [Nat.mul_add] at e4
  have e5 : d * (18446744073709551616 ^ k * y) = 18446744073709551616 ^ k * (y * d) := by rw [Nat.mul_left_comm, Nat.mul_comm d y]
  rw [e1, e2, e3, Nat.mul_add, e5, Nat.pow_succ, Nat.mul_assoc]
  omega

end Go.Proofs.Ytlbaphijmonjoaa

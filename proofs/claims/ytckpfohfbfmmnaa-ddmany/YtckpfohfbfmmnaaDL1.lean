/- Sums of many floats by pairs stay finite: each step makes the total at most a little greater. -/
import Derived.Test.YtckpfohfbfmmnaaDS3
import Derived.Test.YtckpfohfbfmmnaaDDC
namespace Go.Proofs.Ytckpfohfbfmmnaa
open EP

/-- x is at most y and k 2^-50 of it. -/
def leE (x y k : Nat) : Prop := 1125899906842624 * x ≤ (1125899906842624 + k) * y
theorem leE.refl (x k : Nat) : leE x x k := Nat.mul_le_mul_right _ (Nat.le_add_right _ _)
theorem leE.mono {x y k j : Nat} (h : leE x y k) (hk : k ≤ j) : leE x y j := Nat.le_trans h (Nat.mul_le_mul_right _ (Nat.add_le_add_left hk _))
theorem leE.more {x y z k : Nat} (h : leE x y k) (hy : y ≤ z) : leE x z k := Nat.le_trans h (Nat.mul_le_mul_left _ hy)
theorem leE.add {x y u v k : Nat} (h1 : leE x y k) (h2 : leE u v k) : leE (x + u) (y + v) k := by
  unfold leE at *
  rw [Nat.mul_add, Nat.mul_add]
  exact Nat.add_le_add h1 h2
theorem leE.comp {x y z k j : Nat} (h1 : leE x y k) (h2 : leE y z j) (hkj : k * j ≤ 1125899906842624) : leE x z (k + j + 1) := by
  unfold leE at *
  have a1 : 1125899906842624 * (1125899906842624 * x) ≤ (1125899906842624 + k) * (1125899906842624 * y) := by
    rw [Nat.mul_left_comm (1125899906842624 + k)]
    exact Nat.mul_le_mul_left _ h1
  have a2 : (1125899906842624 + k) * (1125899906842624 * y) ≤ (1125899906842624 + k) * ((1125899906842624 + j) * z) := Nat.mul_le_mul_left _ h2
  have a3 : (1125899906842624 + k) * (1125899906842624 + j) ≤ 1125899906842624 * (1125899906842624 + (k + j + 1)) := by
    rw [Nat.add_mul, Nat.mul_add, Nat.mul_add, Nat.mul_add, Nat.mul_add, Nat.mul_add]
    generalize k * j = q at *
    omega
  have a4 : (1125899906842624 + k) * ((1125899906842624 + j) * z) ≤ 1125899906842624 * ((1125899906842624 + (k + j + 1)) * z) := by
    rw [← Nat.mul_assoc, ← Nat.mul_assoc]
    exact Nat.mul_le_mul_right _ a3
  exact Nat.le_of_mul_le_mul_left (Nat.le_trans a1 (Nat.le_trans a2 a4)) (by decide)
theorem leE.top {x y k : Nat} (h : leE x y k) (hk : k ≤ 1125899906842624) : x ≤ 2 * y := by
  unfold leE at h
  have h1 : (1125899906842624 + k) * y ≤ (1125899906842624 + 1125899906842624) * y := Nat.mul_le_mul_right _ (Nat.add_le_add_left hk _)
  omega
theorem leE.pow {x y k n : Nat} (h : leE x y k) (hk : k ≤ 1125899906842624) (hy : y ≤ 2 ^ n) : x ≤ 2 ^ (n + 1) := by
  have := h.top hk
  rw [Nat.pow_succ]; omega

theorem add_lin3 (a b r : Int) (h : 9007199254740992 * (r - (a + b)).natAbs ≤ (a + b).natAbs) : leE r.natAbs (a.natAbs + b.natAbs) 1 := by unfold leE; omega
theorem fo_add_le {a b n : Nat} (hn : n ≤ 2093) (ha : finB a = true) (hb : finB b = true) (hM : amt a + amt b ≤ 2 ^ n) : ∃ r, fo .add a b = some r ∧ finB r = true ∧ leE (amt r) (amt a + amt b) 1 := by
  obtain ⟨N, hN⟩ : ∃ N, N = 2097 := ⟨_, rfl⟩
  have hl : 2 ^ n < 2 ^ N := pow_lt2 n N (by omega)
  have hsz : (V a + V b).natAbs < 2 ^ N := Nat.lt_of_le_of_lt (Nat.le_trans (Int.natAbs_add_le _ _) hM) hl
  obtain ⟨r, e, r1, -, r3⟩ := add_spec a b N hN ha hb hsz
  exact ⟨r, fo_of_add e r1, r1, add_lin3 _ _ _ r3⟩
theorem fast_lin1 (a b s : Int) (h : 9007199254740992 * (s - (a + b)).natAbs ≤ (a + b).natAbs) : (s - a).natAbs ≤ 2 * (a.natAbs + b.natAbs) := by omega
theorem fast_lin2 (a b s x : Int) (h : 9007199254740992 * (s - (a + b)).natAbs ≤ (a + b).natAbs) (h2 : 9007199254740992 * (x - (s - a)).natAbs ≤ (s - a).natAbs) : 9007199254740992 * (b - x).natAbs ≤ 4 * (a.natAbs + b.natAbs) := by omega
theorem fast_lin3 (a b s x t : Int) (h : 9007199254740992 * (s - (a + b)).natAbs ≤ (a + b).natAbs) (h2 : 9007199254740992 * (b - x).natAbs ≤ 4 * (a.natAbs + b.natAbs)) (h3 : 9007199254740992 * (t - (b - x)).natAbs ≤ (b - x).natAbs) : 1125899906842624 * (s.natAbs + t.natAbs) ≤ 1125899906842624 * (a.natAbs + b.natAbs) + (a.natAbs + b.natAbs) := by omega
theorem fast_le {a b n : Nat} (hn : n ≤ 2090) (ha : finB a = true) (hb : finB b = true) (hM : amt a + amt b ≤ 2 ^ n) : ∃ s t, fastO a b = some (s, t) ∧ finB s = true ∧ finB t = true ∧ leE (amt s + amt t) (amt a + amt b) 1 := by
  obtain ⟨N, hN⟩ : ∃ N, N = 2097 := ⟨_, rfl⟩
  have hl : 2 ^ (n + 2) < 2 ^ N := pow_lt2 _ N (by omega)
  have h4 : 2 ^ (n + 2) = 4 * 2 ^ n := by rw [Nat.pow_add, Nat.mul_comm]
  rw [h4] at hl
  obtain ⟨s, e1, f1, -, r1⟩ := add_spec a b N hN ha hb (by have := Int.natAbs_add_le (V a) (V b); unfold amt at hM; omega)
  have z1 := fast_lin1 _ _ _ r1
  obtain ⟨x, e2, f2, -, r2⟩ := sub_spec s a N hN f1 ha (by unfold amt at hM; omega)
  have z2 := fast_lin2 _ _ _ _ r1 r2
  obtain ⟨t, e3, f3, -, r3⟩ := sub_spec b x N hN hb f2 (by unfold amt at hM; omega)
  have z3 := fast_lin3 _ _ _ _ _ r1 z2 r3
  refine ⟨s, t, by simp only [fastO, fo_of_add e1 f1, fo_of_sub e2 f2, fo_of_sub e3 f3, Option.bind_some], f1, f3, ?_⟩
  unfold leE amt
  rw [Nat.add_mul, Nat.one_mul]
  exact z3
theorem twoSum_le {a b n : Nat} (hn : n ≤ 2093) (ha : finB a = true) (hb : finB b = true) (hM : amt a + amt b ≤ 2 ^ n) : ∃ s t, twoSumO a b = some (s, t) ∧ finB s = true ∧ finB t = true ∧ leE (amt s + amt t) (amt a + amt b) 1 :=
  twoSum_tot a b n ha hb hn hM

/-- A sum of pairs: the amounts of what comes out are at most a little more than those of what went in. -/
theorem sum_le {xh xl yh yl n : Nat} (hn : n ≤ 2070) (h1 : finB xh = true) (h2 : finB xl = true) (h3 : finB yh = true) (h4 : finB yl = true) (hM : amt xh + amt xl + amt yh + amt yl ≤ 2 ^ n) :
    ∃ s t, sumP xh xl yh yl = some (s, t) ∧ finB s = true ∧ finB t = true ∧ leE (amt s + amt t) (amt xh + amt xl + amt yh + amt yl) 12 := by
  obtain ⟨s, t, e1, f1, f2, l1⟩ := twoSum_le (n := n) (by omega) h1 h3 (by omega)
  obtain ⟨u, v, e2, f3, f4, l2⟩ := twoSum_le (n := n) (by omega) h2 h4 (by omega)
  have L1 : leE (amt s + amt t + (amt u + amt v)) (amt xh + amt xl + amt yh + amt yl) 1 := (l1.add l2).more (by omega)
  have B1 := L1.pow (by decide) hM
  obtain ⟨c, e3, f5, l3⟩ := fo_add_le (n := n + 1) (by omega) f2 f3 (by omega)
  have L3 : leE (amt s + amt c + amt v) (amt s + amt t + (amt u + amt v)) 1 := ((((leE.refl (amt s) 1).add l3).add (leE.refl (amt v) 1))).more (by omega)
  have C3 := L3.comp L1 (by decide)
  have B3 := C3.pow (by decide) hM
  obtain ⟨a, b, e4, f6, f7, l4⟩ := fast_le (n := n + 1) (by omega) f1 f5 (by omega)
  have L4 : leE (amt a + amt b + amt v) (amt s + amt c + amt v) 1 := l4.add (leE.refl (amt v) 1)
  have C4 := L4.comp C3 (by decide)
  have B4 := C4.pow (by decide) hM
  obtain ⟨d, e5, f8, l5⟩ := fo_add_le (n := n + 1) (by omega) f4 f7 (by omega)
  have L5 : leE (amt a + amt d) (amt a + amt b + amt v) 1 := ((leE.refl (amt a) 1).add l5).more (by omega)
  have C5 := L5.comp C4 (by decide)
  have B5 := C5.pow (by decide) hM
  obtain ⟨x, y, e6, f9, f10, l6⟩ := fast_le (n := n + 1) (by omega) f6 f8 B5
  have C6 := (l6.comp C5 (by decide)).mono (j := 12) (by decide)
  exact ⟨x, y, by simp only [sumP, e1, e2, e3, e4, e5, e6, Option.bind_some], f9, f10, C6⟩

theorem zero_fin : finB 0 = true := by decide
theorem zero_amt : amt 0 = 0 := by decide
theorem fold_pow (k X m : Nat) (hk : k ≤ 1024) (hX : X ≤ 2 ^ m) : k * X ≤ 2 ^ (m + 10) := by
  rw [Nat.pow_add, Nat.mul_comm (2 ^ m)]
  exact Nat.mul_le_mul hk hX
theorem foldS_fin (X m : Nat) (hm : m ≤ 2000) (hX : X ≤ 2 ^ m) : ∀ (l : List Nat) (s t k : Nat), (∀ x ∈ l, finB x = true ∧ amt x ≤ X) → finB s = true → finB t = true → k + l.length ≤ 1024 → leE (amt s + amt t) (k * X) (13 * k) →
    ∃ p q, foldS l s t = some (p, q) ∧ finB p = true ∧ finB q = true := by
  intro l
  induction l with
  | nil => intro s t k _ fs ft _ _; exact ⟨s, t, rfl, fs, ft⟩
  | cons x l ih =>
    intro s t k hl fs ft hk hL
    rw [List.length_cons] at hk
    obtain ⟨fx, ax⟩ := hl x (List.mem_cons_self ..)
    have hT := hL.pow (by omega) (fold_pow k X m (by omega) hX)
    have hxp : amt x ≤ 2 ^ (m + 10 + 1) := Nat.le_trans ax (Nat.le_trans hX (pow_le2 _ _ (by omega)))
    have hsum : amt s + amt t + amt x + amt 0 ≤ 2 ^ (m + 12) := by
      have e2 : 2 ^ (m + 12) = 2 * 2 ^ (m + 10 + 1) := by rw [show m + 12 = m + 10 + 1 + 1 from rfl, Nat.pow_succ, Nat.mul_comm]
      rw [zero_amt, e2]
      generalize 2 ^ (m + 10 + 1) = z at *
      omega
    obtain ⟨p, q, e, fp, fq, hl2⟩ := sum_le (n := m + 12) (by omega) fs ft fx zero_fin hsum
    have hL2 : leE (amt s + amt t + amt x + amt 0) ((k + 1) * X) (13 * k) := by
      rw [zero_amt, Nat.add_mul, Nat.one_mul]
      exact hL.add ((leE.refl (amt x) _).more ax)
    have hL3 := (hl2.comp hL2 (by omega)).mono (j := 13 * (k + 1)) (by omega)
    obtain ⟨p', q', e', r⟩ := ih p q (k + 1) (fun y hy => hl y (List.mem_cons_of_mem _ hy)) fp fq (by omega) hL3
    refine ⟨p', q', ?_, r⟩
    show (sumP s t x 0).bind _ = _
    rw [e]; exact e'
end Go.Proofs.Ytckpfohfbfmmnaa

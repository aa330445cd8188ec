/- Enclosures of constants: that they meet, that unlike ones don't, how wide they are, what they hold. Logarithms: 3 ln 2 lies below ln 10, ln 10 below 4 ln 2. -/
import Derived.Test.YtkkldnnndlpblaaGreatDoorCKA

namespace Go.Proofs.YtkkldnnndlpblaaGreatDoor
namespace Ck

/-- enclosures of one constant meet -/
theorem e_meet (k w w' : Nat) (h : base (if ov k = 0 then k else ov k) = true) (hw : 40 ≤ w) (hw' : 40 ≤ w') : eLo k w * 2 ^ w' ≤ eHi k w' * 2 ^ w := by
  obtain ⟨W, hW⟩ : ∃ W, W = w + w' := ⟨_, rfl⟩
  obtain ⟨a1, _, a3⟩ := e_in k w w' h hw
  obtain ⟨_, b2, _⟩ := e_in k w' w h hw'
  rw [← hW] at a1 a3
  rw [Nat.add_comm w' w, ← hW] at b2
  refine Nat.le_of_mul_le_mul_right (c := ptD k W) ?_ a3
  calc eLo k w * 2 ^ w' * ptD k W = eLo k w * ptD k W * 2 ^ w' := Nat.mul_right_comm _ _ _
    _ ≤ ptN k W * 2 ^ w * 2 ^ w' := Nat.mul_le_mul_right _ a1
    _ = ptN k W * 2 ^ w' * 2 ^ w := Nat.mul_right_comm _ _ _
    _ ≤ eHi k w' * ptD k W * 2 ^ w := Nat.mul_le_mul_right _ b2
    _ = eHi k w' * 2 ^ w * ptD k W := Nat.mul_right_comm _ _ _

/-- a constant and its reciprocal: the product of the lower ends is no more than 1, that of the upper ones no less -/
theorem e_one (k k' w w' : Nat) (h0 : ov k = 0) (h1 : ov k' = k) (hk : k ≠ 0) (h : base k = true) (hw : 40 ≤ w) (hw' : 40 ≤ w') : eLo k w * eLo k' w' ≤ 2 ^ w * 2 ^ w' ∧ 2 ^ w * 2 ^ w' ≤ eHi k w * eHi k' w' := by
  have e0 : ov k' ≠ 0 := by omega
  obtain ⟨W, hW⟩ : ∃ W, W = w + w' := ⟨_, rfl⟩
  obtain ⟨a1, a2, a3⟩ := e_in k w w' (by rw [if_pos h0]; exact h) hw
  obtain ⟨b1, b2, b3⟩ := e_in k' w' w (by rw [if_neg e0, h1]; exact h) hw'
  rw [← hW] at a1 a2 a3
  rw [Nat.add_comm w' w, ← hW] at b1 b2 b3
  have n1 : ptN k W = cM k W := by unfold ptN; rw [if_pos h0]
  have n2 : ptD k W = 2 ^ W := by unfold ptD; rw [if_pos h0]
  have n3 : ptN k' W = 2 ^ W := by unfold ptN; rw [if_neg e0]
  have n4 : ptD k' W = cM k W := by unfold ptD; rw [if_neg e0, h1]
  rw [n2] at a1 a2 a3
  rw [n1] at a1 a2
  rw [n4] at b1 b2 b3
  rw [n3] at b1 b2
  generalize cM k W = m at *
  have hp : 0 < 2 ^ W * m := Nat.mul_pos a3 b3
  have e1 : m * 2 ^ w * (2 ^ W * 2 ^ w') = 2 ^ w * 2 ^ w' * (2 ^ W * m) := by ac_rfl
  constructor
  · refine Nat.le_of_mul_le_mul_right (c := 2 ^ W * m) ?_ hp
    rw [← e1, Nat.mul_mul_mul_comm]
    exact Nat.mul_le_mul a1 b1
  · refine Nat.le_of_mul_le_mul_right (c := 2 ^ W * m) ?_ hp
    rw [← e1, Nat.mul_mul_mul_comm (eHi k w)]
    exact Nat.mul_le_mul a2 b2

theorem wide_div (w a e : Nat) (hw : 40 ≤ w) (ha : 2 ^ (w - 3) ≤ a) (he : e ≤ 2 ^ 17) : 2 ^ (2 * w) / a ≤ 2 ^ (2 * w) / (a + e) + 2 ^ 24 := by
  have a0 : 0 < a := Nat.lt_of_lt_of_le (Nat.pow_pos (by decide)) ha
  obtain ⟨x, hx⟩ : ∃ x : Nat, x = 2 ^ (2 * w) := ⟨_, rfl⟩
  obtain ⟨b, hb⟩ : ∃ b, b = a + e := ⟨_, rfl⟩
  rw [← hb, ← hx]
  have b0 : 0 < b := by omega
  have h1 := Nat.div_add_mod x b
  have h2 := Nat.mod_lt x b0
  have h3 : x / b ≤ 2 ^ (w + 3) := by
    refine Nat.div_le_of_le_mul ?_
    rw [hx]
    calc 2 ^ (2 * w) = 2 ^ (w - 3) * 2 ^ (w + 3) := by rw [← Nat.pow_add]; congr 1; omega
      _ ≤ b * 2 ^ (w + 3) := Nat.mul_le_mul_right _ (by omega)
  have h4 : (x / b) * e ≤ 2 ^ (w + 20) := by
    calc (x / b) * e ≤ 2 ^ (w + 3) * 2 ^ 17 := Nat.mul_le_mul h3 he
      _ = 2 ^ (w + 20) := by rw [← Nat.pow_add]
  have h5 : 2 ^ (w + 20) ≤ 2 ^ 23 * a := by
    calc 2 ^ (w + 20) = 2 ^ 23 * 2 ^ (w - 3) := by rw [← Nat.pow_add]; congr 1; omega
      _ ≤ 2 ^ 23 * a := Nat.mul_le_mul_left _ ha
  have h6 : (2 : Nat) ^ 17 ≤ a := Nat.le_trans (Nat.pow_le_pow_right (by decide) (by omega)) ha
  refine Nat.div_le_of_le_mul ?_
  have h9 : b * (x / b) = a * (x / b) + x / b * e := by rw [hb, Nat.add_mul, Nat.mul_comm e]
  rw [Nat.mul_add, Nat.mul_comm a (2 ^ 24)]
  have h10 : (2 : Nat) ^ 24 = 16777216 := by decide
  have h11 : (2 : Nat) ^ 23 = 8388608 := by decide
  have h12 : (2 : Nat) ^ 17 = 131072 := by decide
  rw [h10]
  rw [h11] at h5
  rw [h12] at h6 he
  generalize 2 ^ (w + 20) = z at *
  generalize x / b * e = z5 at *
  generalize a * (x / b) = z6 at *
  omega

/-- how wide an enclosure is -/
theorem e_wide (k w : Nat) (h : base (if ov k = 0 then k else ov k) = true) (hw : 40 ≤ w) (hw2 : w ≤ 8300) : eHi k w ≤ eLo k w + 2 ^ 25 ∧ eLo k w ≤ eHi k w := by
  have e24 : (2 : Nat) ^ 25 = 33554432 := by decide
  have e23 : (2 : Nat) ^ 24 = 16777216 := by decide
  unfold eLo eHi
  split at h
  · rename_i h0
    rw [if_pos h0, if_pos h0]
    have := cU_le k w
    unfold dLo dHi
    omega
  · rename_i h0
    rw [if_neg h0, if_neg h0]
    have hu := cU_le (ov k) w
    obtain ⟨p1, _⟩ := lo_pos (ov k) w h hw
    have q1 : 0 < 2 ^ (w - 3) := Nat.pow_pos (by decide)
    have e16 : (2 : Nat) ^ 17 = 131072 := by decide
    have hd : dHi (ov k) w = dLo (ov k) w + 2 * cU (ov k) w := by unfold dLo dHi at *; omega
    have d1 := wide_div w (dLo (ov k) w) (2 * cU (ov k) w) hw p1 (by omega)
    have d2 : 2 ^ (2 * w) / dHi (ov k) w ≤ 2 ^ (2 * w) / dLo (ov k) w := Nat.div_le_div_left (by omega) (by omega)
    rw [← hd] at d1
    generalize 2 ^ (2 * w) / dHi (ov k) w = z1 at *
    generalize 2 ^ (2 * w) / dLo (ov k) w = z2 at *
    omega

def apB (k j : Nat) : Bool := decide (eHi k 56 < eLo j 56)

theorem ap_all : ((List.range 7).all fun k => (List.range 7).all fun j => k == j || apB (k + 1) (j + 1) || apB (j + 1) (k + 1)) = true := by decide +kernel

theorem ap_two (k j : Nat) (h1 : 1 ≤ k) (h7 : k ≤ 7) (j1 : 1 ≤ j) (j7 : j ≤ 7) (hn : k ≠ j) : eHi k 56 < eLo j 56 ∨ eHi j 56 < eLo k 56 := by
  have h := List.all_eq_true.1 (List.all_eq_true.1 ap_all (k - 1) (List.mem_range.2 (by omega))) (j - 1) (List.mem_range.2 (by omega))
  rw [show k - 1 + 1 = k by omega, show j - 1 + 1 = j by omega] at h
  have hb : (k - 1 == j - 1) = false := by simp; omega
  rw [hb, Bool.false_or, Bool.or_eq_true] at h
  rcases h with h | h
  · exact Or.inl (of_decide_eq_true h)
  · exact Or.inr (of_decide_eq_true h)

theorem base_ok (k : Nat) (h1 : 1 ≤ k) (h7 : k ≤ 7) : base (if ov k = 0 then k else ov k) = true := by
  obtain ⟨b1, b2, b3, b4⟩ := base_all
  rcases (by omega : k = 1 ∨ k = 2 ∨ k = 3 ∨ k = 4 ∨ k = 5 ∨ k = 6 ∨ k = 7) with rfl | rfl | rfl | rfl | rfl | rfl | rfl
  · exact b1
  · exact b2
  · exact b3
  · exact b4
  · exact b1
  · exact b2
  · exact b3

theorem e_low (k w : Nat) (h1 : 1 ≤ k) (h7 : k ≤ 7) (hw : 72 ≤ w) (hw2 : w ≤ 8500) : 2 ^ (w - 56) * eLo k 56 ≤ eLo k w ∧ eHi k w ≤ 2 ^ (w - 56) * eHi k 56 := by
  have h := e_nest k 56 (w - 56) (base_ok k h1 h7) (by decide) (by omega) (by omega)
  rw [show 56 + (w - 56) = w by omega] at h
  exact h

/-- enclosures of unlike constants don't meet -/
theorem e_apart (k j w w' : Nat) (h1 : 1 ≤ k) (h7 : k ≤ 7) (j1 : 1 ≤ j) (j7 : j ≤ 7) (hn : k ≠ j) (hw : 72 ≤ w) (hw2 : w ≤ 8500) (hv : 72 ≤ w') (hv2 : w' ≤ 8500) : eHi k w * 2 ^ w' < eLo j w' * 2 ^ w ∨ eHi j w' * 2 ^ w < eLo k w * 2 ^ w' := by
  obtain ⟨a1, a2⟩ := e_low k w h1 h7 hw hw2
  obtain ⟨b1, b2⟩ := e_low j w' j1 j7 hv hv2
  have key : ∀ x y u v w w' : Nat, 56 ≤ w → 56 ≤ w' → x < y → u ≤ 2 ^ (w - 56) * x → 2 ^ (w' - 56) * y ≤ v → u * 2 ^ w' < v * 2 ^ w := fun x y u v w w' c c' hx hu hv => by
    have e1 : (2 : Nat) ^ w' = 2 ^ (w' - 56) * 2 ^ 56 := by rw [← Nat.pow_add]; congr 1; omega
    have e2 : (2 : Nat) ^ w = 2 ^ (w - 56) * 2 ^ 56 := by rw [← Nat.pow_add]; congr 1; omega
    obtain ⟨F, hF⟩ : ∃ F : Nat, F = 2 ^ 56 := ⟨_, rfl⟩
    have F0 : 0 < F := by rw [hF]; exact Nat.pow_pos (by decide)
    rw [← hF] at e1 e2
    rw [e1, e2]
    have p : 0 < 2 ^ (w - 56) * 2 ^ (w' - 56) * F := Nat.mul_pos (Nat.mul_pos (Nat.pow_pos (by decide)) (Nat.pow_pos (by decide))) F0
    generalize 2 ^ (w - 56) = A at *
    generalize 2 ^ (w' - 56) = B at *
    calc u * (B * F) ≤ A * x * (B * F) := Nat.mul_le_mul_right _ hu
      _ = A * B * F * x := by ac_rfl
      _ < A * B * F * y := Nat.mul_lt_mul_of_pos_left hx p
      _ = B * y * (A * F) := by ac_rfl
      _ ≤ v * (A * F) := Nat.mul_le_mul_right _ hv
  rcases ap_two k j h1 h7 j1 j7 hn with h | h
  · exact Or.inl (key _ _ _ _ w w' (by omega) (by omega) h a2 b1)
  · exact Or.inr (key _ _ _ _ w' w (by omega) (by omega) h b2 a1)

theorem e_narrow (k p : Nat) (h1 : 1 ≤ k) (h7 : k ≤ 7) (h8 : 8 ≤ p) (hp : p ≤ 8192) (hl : 2 ^ (p + 32 - 3) ≤ eLo k (p + 32)) : (eHi k (p + 32) - eLo k (p + 32)) * 2 ^ p ≤ eLo k (p + 32) := by
  obtain ⟨a1, _⟩ := e_wide k (p + 32) (base_ok k h1 h7) (by omega) (by omega)
  calc (eHi k (p + 32) - eLo k (p + 32)) * 2 ^ p ≤ 2 ^ 25 * 2 ^ p := Nat.mul_le_mul_right _ (by omega)
    _ = 2 ^ (25 + p) := by rw [← Nat.pow_add]
    _ ≤ 2 ^ (p + 32 - 3) := Nat.pow_le_pow_right (by decide) (by omega)
    _ ≤ _ := hl

def fN (x : Nat) (f : Nat → Bool) : Bool := match x with | 0 => f 0 | y + 1 => f (y + 1)

theorem fN_eq (x : Nat) (f : Nat → Bool) : fN x f = f x := by cases x <;> rfl

def chkE (k : Nat) : Bool := fN (dN k 8400) fun N => fN (dD k 8400) fun D => fN (2 ^ 8240) fun P => decide (eLo k 8240 * D ≤ N * P) && decide (N * P ≤ eHi k 8240 * D)

theorem chkE_all : ((List.range 7).all fun k => chkE (k + 1)) = true := by decide +kernel

/-- the document's number lies in the program's enclosures -/
theorem doc_in (k w : Nat) (h1 : 1 ≤ k) (h7 : k ≤ 7) (hw : 40 ≤ w) (hw2 : w ≤ 8224) : eLo k w * dD k 8400 ≤ dN k 8400 * 2 ^ w ∧ dN k 8400 * 2 ^ w ≤ eHi k w * dD k 8400 := by
  have h := List.all_eq_true.1 chkE_all (k - 1) (List.mem_range.2 (by omega))
  rw [show k - 1 + 1 = k by omega] at h
  unfold chkE at h
  rw [fN_eq, fN_eq, fN_eq, Bool.and_eq_true] at h
  have c1 := of_decide_eq_true h.1
  have c2 := of_decide_eq_true h.2
  clear h
  obtain ⟨W, hW⟩ : ∃ W : Nat, W = 8240 := ⟨_, rfl⟩
  obtain ⟨V, hV⟩ : ∃ V : Nat, V = 8400 := ⟨_, rfl⟩
  rw [← hW] at c1 c2
  rw [← hV] at c1 c2 ⊢
  obtain ⟨n1, n2⟩ := e_nest k w (W - w) (base_ok k h1 h7) hw (by omega) (by omega)
  rw [show w + (W - w) = W by omega] at n1 n2
  have e : (2 : Nat) ^ W = 2 ^ (W - w) * 2 ^ w := by rw [← Nat.pow_add]; congr 1; omega
  have p : 0 < 2 ^ (W - w) := Nat.pow_pos (by decide)
  rw [e] at c1 c2
  generalize 2 ^ (W - w) = A at *
  constructor
  · refine Nat.le_of_mul_le_mul_left (c := A) ?_ p
    calc A * (eLo k w * dD k V) = A * eLo k w * dD k V := by ac_rfl
      _ ≤ eLo k W * dD k V := Nat.mul_le_mul_right _ n1
      _ ≤ dN k V * (A * 2 ^ w) := c1
      _ = _ := by ac_rfl
  · refine Nat.le_of_mul_le_mul_left (c := A) ?_ p
    calc A * (dN k V * 2 ^ w) = dN k V * (A * 2 ^ w) := by ac_rfl
      _ ≤ eHi k W * dD k V := c2
      _ ≤ A * eHi k w * dD k V := Nat.mul_le_mul_right _ n2
      _ = _ := by ac_rfl

/-- the program's enclosure and the document's meet -/
theorem doc_meet (k w q : Nat) (h1 : 1 ≤ k) (h7 : k ≤ 7) (hw : 40 ≤ w) (hw2 : w ≤ 8224) (hq : 40 ≤ q) (hq2 : q ≤ 8300) : eLo k w * 2 ^ q ≤ (gA k q + gE k q) * 2 ^ w ∧ gA k q * 2 ^ w ≤ eHi k w * 2 ^ q := by
  obtain ⟨a1, a2⟩ := doc_in k w h1 h7 hw hw2
  obtain ⟨V, hV⟩ : ∃ V : Nat, V = 8400 := ⟨_, rfl⟩
  rw [← hV] at a1 a2
  obtain ⟨b1, b2, b3⟩ := g_in k q (V - q) h1 h7 hq hq2
  rw [show q + (V - q) = V by omega] at b1 b2 b3
  constructor
  · refine Nat.le_of_mul_le_mul_right (c := dD k V) ?_ b3
    calc eLo k w * 2 ^ q * dD k V = eLo k w * dD k V * 2 ^ q := by ac_rfl
      _ ≤ dN k V * 2 ^ w * 2 ^ q := Nat.mul_le_mul_right _ a1
      _ = dN k V * 2 ^ q * 2 ^ w := by ac_rfl
      _ ≤ (gA k q + gE k q) * dD k V * 2 ^ w := Nat.mul_le_mul_right _ b2
      _ = _ := by ac_rfl
  · refine Nat.le_of_mul_le_mul_right (c := dD k V) ?_ b3
    calc gA k q * 2 ^ w * dD k V = gA k q * dD k V * 2 ^ w := by ac_rfl
      _ ≤ dN k V * 2 ^ q * 2 ^ w := Nat.mul_le_mul_right _ b1
      _ = dN k V * 2 ^ w * 2 ^ q := by ac_rfl
      _ ≤ eHi k w * dD k V * 2 ^ q := Nat.mul_le_mul_right _ a2
      _ = _ := by ac_rfl

end Ck
end Go.Proofs.YtkkldnnndlpblaaGreatDoor

namespace Go.Proofs.YtkkldnnndlpblaaGreatDoor
namespace Ck

def chk3 : Bool := fN (cM 2 8400) fun a => fN (cM 3 8400) fun b => decide (3 * a < b) && decide (b < 4 * a)

theorem chk3_ok : chk3 = true := by decide +kernel

theorem e_three (w w' : Nat) (hw : 40 ≤ w) (hw2 : w ≤ 8400) (hv : 40 ≤ w') (hv2 : w' ≤ 8400) : 3 * eLo 2 w * 2 ^ w' < eHi 3 w' * 2 ^ w ∧ eLo 3 w' * 2 ^ w < 4 * eHi 2 w * 2 ^ w' := by
  have h := chk3_ok
  unfold chk3 at h
  rw [fN_eq, fN_eq, Bool.and_eq_true] at h
  have c1 := of_decide_eq_true h.1
  have c2 := of_decide_eq_true h.2
  clear h
  obtain ⟨V, hV⟩ : ∃ V : Nat, V = 8400 := ⟨_, rfl⟩
  rw [← hV] at c1 c2
  obtain ⟨a1, a2, a3⟩ := e_in 2 w (V - w) (base_ok 2 (by decide) (by decide)) hw
  obtain ⟨b1, b2, b3⟩ := e_in 3 w' (V - w') (base_ok 3 (by decide) (by decide)) hv
  rw [show w + (V - w) = V by omega] at a1 a2 a3
  rw [show w' + (V - w') = V by omega] at b1 b2 b3
  have n1 : ptN 2 V = cM 2 V := rfl
  have n2 : ptD 2 V = 2 ^ V := rfl
  have n3 : ptN 3 V = cM 3 V := rfl
  have n4 : ptD 3 V = 2 ^ V := rfl
  rw [n2] at a1 a2 a3
  rw [n1] at a1 a2
  rw [n4] at b1 b2 b3
  rw [n3] at b1 b2
  have p : 0 < 2 ^ w * 2 ^ w' := Nat.mul_pos (Nat.pow_pos (by decide)) (Nat.pow_pos (by decide))
  generalize cM 2 V = m at *
  generalize cM 3 V = l at *
  generalize 2 ^ V = D at *
  generalize eLo 2 w = x at *
  generalize eHi 2 w = x2 at *
  generalize eLo 3 w' = y at *
  generalize eHi 3 w' = y2 at *
  generalize 2 ^ w = A at *
  generalize 2 ^ w' = B at *
  constructor
  · refine Nat.lt_of_mul_lt_mul_right (a := D) ?_
    calc 3 * x * B * D = 3 * (x * D) * B := by ac_rfl
      _ ≤ 3 * (m * A) * B := Nat.mul_le_mul_right _ (Nat.mul_le_mul_left _ a1)
      _ = A * B * (3 * m) := by ac_rfl
      _ < A * B * l := Nat.mul_lt_mul_of_pos_left c1 p
      _ = l * B * A := by ac_rfl
      _ ≤ y2 * D * A := Nat.mul_le_mul_right _ b2
      _ = _ := by ac_rfl
  · refine Nat.lt_of_mul_lt_mul_right (a := D) ?_
    calc y * A * D = y * D * A := by ac_rfl
      _ ≤ l * B * A := Nat.mul_le_mul_right _ b1
      _ = A * B * l := by ac_rfl
      _ < A * B * (4 * m) := Nat.mul_lt_mul_of_pos_left c2 p
      _ = 4 * (m * A) * B := by ac_rfl
      _ ≤ 4 * (x2 * D) * B := Nat.mul_le_mul_right _ (Nat.mul_le_mul_left _ a2)
      _ = _ := by ac_rfl

end Ck
end Go.Proofs.YtkkldnnndlpblaaGreatDoor

/- The walk of the statement EftLists. -/
import Derived.Test.YtckpfohfbfmmnaaERef2
import Derived.Test.YtckpfohfbfmmnaaELives
namespace Go.Proofs.Ytckpfohfbfmmnaa
open Go.RowKit EP

theorem tot_le (l : List Nat) (Z : Nat) (h : ∀ x ∈ l, amt x ≤ Z) : tot l ≤ l.length * Z := by
  induction l with
  | nil => simp [tot]
  | cons x l ih =>
    have h1 := h x (List.mem_cons_self ..)
    have h2 := ih (fun y hy => h y (List.mem_cons_of_mem _ hy))
    simp only [tot, List.length_cons, Nat.add_mul, Nat.one_mul]; omega
theorem mem_getD {l : List Nat} {p : Nat → Prop} (h : ∀ i, i < l.length → p (l.getD i 0)) : ∀ x ∈ l, p x := fun x hx => by
  obtain ⟨i, hi, rfl⟩ := List.getElem_of_mem hx
  have := h i hi
  rwa [show l.getD i 0 = l[i] by simp [List.getD, hi]] at this
/-- What comes of moderate lists. -/
theorem lists_of {xs : List Nat} {b : Nat} (hl : xs.length ≤ 64) (hx : ∀ x ∈ xs, bd x 1475) (hb : bd b 1475) :
    ∃ G R, growO xs b = some G ∧ okL G ∧ G.length ≤ 65 ∧ growB [] xs = some R ∧ okL R ∧ R.length ≤ 64 ∧ (xs.length ≤ 32 → ∃ C, scaleO xs b [] = some C ∧ okL C) := by
  obtain ⟨n, hn⟩ : ∃ n, n = 1475 := ⟨_, rfl⟩
  have ht := tot_le xs (2 ^ n) (fun x h => by rw [hn]; exact (hx x h).2)
  have h1 : xs.length * 2 ^ n ≤ 64 * 2 ^ n := Nat.mul_le_mul_right _ hl
  have hb2 : amt b ≤ 2 ^ n := by rw [hn]; exact hb.2
  have h0 : amt b + tot xs ≤ 2 ^ (n + 7) := by
    rw [Nat.pow_add]
    generalize 2 ^ n = Z at *
    omega
  obtain ⟨G, e1, o1, -, l1⟩ := growO_tot xs b (n + 7) (by omega) h0 (fun x h => (hx x h).1) hb.1 (by omega)
  obtain ⟨R, e2, o2, -, l2⟩ := growB_tot xs [] n okL_nil (by simp [tot]) (fun y hy => ⟨(hx y hy).1, by rw [hn]; exact (hx y hy).2⟩) (by omega) (by simp; omega)
  refine ⟨G, R, e1, o1, by omega, e2, o2, by simp at l2; omega, fun h32 => ?_⟩
  exact scaleO_tot b 1956 rfl hb xs [] 1956 (Nat.le_refl _) okL_nil (Nat.zero_le _) hx (by omega) (by simp; omega)
theorem okL.fin {L : List Nat} (h : okL L) : ∀ i, i < L.length → finB (L.getD i 0) = true := fun i hi => by
  rw [show L.getD i 0 = L[i] by simp [List.getD, hi]]
  exact (h _ (List.getElem_mem hi)).1

set_option maxRecDepth 100000 in
set_option maxHeartbeats 4000000 in
theorem eftLists_walk (a : Option Addr) (len cap : Nat) (xs : List Nat) (b : Nat) (w : World) (h : IsF w a len cap xs) (hm : len ≤ 1048576) :
    Calls Try.prog 4 #[.slice a len cap, .float .f64 b] w fun e w' => e = .returned (.bool true) ∧ Below w.heap.size w w' := by
  have HL : Hid (len = xs.length) := h.1
  go_enter Try.func4, Try.ntmps4
  go_wp2_with fail
  refine Calls.mono (grow_calls a len cap xs b w h (by omega)) ?_
  rintro e w1 ⟨a1, c1, L1, rfl, O1, n1, b1, H1⟩
  have H1' : Hid (∀ r, growO xs b = some r → L1 = r) := H1
  have g1 := O1.isF
  replace h := h.keep b1
  clear H1 O1
  go_wp2_with fail
  refine Calls.mono (sum_calls a len cap xs w1 h (by omega)) ?_
  rintro e w2 ⟨a2, c2, L2, rfl, O2, n2, b2, H2⟩
  have H2' : Hid (∀ r, growB [] xs = some r → L2 = r) := H2
  have s2 := O2.isF
  replace h := h.keep b2
  replace g1 := g1.keep b2
  replace b1 := ebelow_trans b1 b2
  clear H2 O2 b2
  go_wp2_with fail
  refine Calls.mono (scale_calls a len cap xs b w2 h (by omega)) ?_
  rintro e w3 ⟨a3, c3, L3, rfl, O3, n3, b3, H3⟩
  have H3' : Hid (∀ r, scaleO xs b [] = some r → L3 = r) := H3
  have p3 := O3.isF
  replace h := h.keep b3
  replace g1 := g1.keep b3
  replace s2 := s2.keep b3
  replace b1 := ebelow_trans b1 b3
  clear H3 O3 b3
  go_wp2_with fail
  refine Calls.mono (sign_calls a len cap xs w3 h (by omega)) ?_
  rintro e w3 ⟨rfl, rfl⟩
  go_wp2_with fail
  refine Calls.mono (eLives_calls w3) ?_
  rintro e w4 ⟨rfl, b4⟩
  replace h := h.keep b4
  replace g1 := g1.keep b4
  replace s2 := s2.keep b4
  replace p3 := p3.keep b4
  replace b1 := ebelow_trans b1 b4
  clear b4
  go_wp2_with fail
  refine Calls.mono (moderates_calls a len cap 64 xs w4 h (by omega)) ?_
  rintro e w5 ⟨t1, rfl, d5, M1⟩
  have b5 : Below w4.heap.size w4 w5 := d5.below _
  replace h := h.keep b5
  replace g1 := g1.keep b5
  replace s2 := s2.keep b5
  replace p3 := p3.keep b5
  replace b1 := ebelow_trans b1 b5
  have M1' : Hid (t1 = true → len ≤ 64 ∧ ∀ i, i < len → bd (xs.getD i 0) 1475) := M1
  clear M1 d5 b5
  cases t1 with
  | false =>
    go_wp2_with fail
    go_ret
    exact ⟨rfl, b1⟩
  | true =>
  go_wp2_with fail
  refine Calls.mono (moderate_calls b w5) ?_
  rintro e w6 ⟨t2, rfl, d6, M2⟩
  have b6 : Below w5.heap.size w5 w6 := d6.below _
  replace h := h.keep b6
  replace g1 := g1.keep b6
  replace s2 := s2.keep b6
  replace p3 := p3.keep b6
  replace b1 := ebelow_trans b1 b6
  have M2' : Hid (t2 = true → bd b 1475) := M2
  clear M2 d6 b6
  cases t2 with
  | false =>
    go_wp2_with fail
    go_ret
    exact ⟨rfl, b1⟩
  | true =>
  obtain ⟨hl64, hx⟩ := M1'.out (by first | rfl | trivial)
  have hb := M2'.out (by first | rfl | trivial)
  rw [HL.out] at hx
  obtain ⟨G, R, e1, o1, lg, e2, o2, lr, hC⟩ := lists_of (by rw [← HL.out]; exact hl64) (mem_getD hx) hb
  obtain rfl := H1'.out _ e1
  obtain rfl := H2'.out _ e2
  have E1 : Hid (growO xs b = some L1) := e1
  have E2 : Hid (growB [] xs = some L2) := e2
  have OK1 : Hid (okL L1) := o1
  have OK2 : Hid (okL L2) := o2
  have HC : Hid (len ≤ 32 → ∃ C, scaleO xs b [] = some C ∧ okL C) := by rw [Hid, HL.out]; exact hC
  have HF1 : Hid (∀ i, i < L1.length → finB (L1.getD i 0) = true) := o1.fin
  have HF2 : Hid (∀ i, i < L2.length → finB (L2.getD i 0) = true) := o2.fin
  clear M1' M2' hx hb e1 e2 o1 o2 hC H1' H2'
  go_wp2_with fail
  refine Calls.mono (rSum_calls a len cap xs w6 h (by omega)) ?_
  rintro e w7 ⟨a7, c7, L7, rfl, O7, n7, b7, H7⟩
  obtain rfl := H7 _ E2.out
  have w7F := O7.isF
  replace h := h.keep b7
  replace g1 := g1.keep b7
  replace s2 := s2.keep b7
  replace p3 := p3.keep b7
  replace b1 := ebelow_trans b1 b7
  clear H7 O7 b7
  go_wp2_with fail
  refine Calls.mono (rGrow_calls a len cap xs b w7 h (by omega)) ?_
  rintro e w8 ⟨a8, c8, L8, rfl, O8, n8, b8, H8⟩
  obtain rfl := H8 _ E1.out
  have g8 := O8.isF
  replace h := h.keep b8
  replace g1 := g1.keep b8
  replace s2 := s2.keep b8
  replace p3 := p3.keep b8
  replace w7F := w7F.keep b8
  replace b1 := ebelow_trans b1 b8
  clear H8 O8 b8
  go_wp2_with fail
  refine Calls.mono (eSame_calls a1 L8.length c1 a8 c8 L8 w8 g1 g8 (by omega) HF1.out) ?_
  rintro e w9 ⟨rfl, d9⟩
  have b9 : Below w8.heap.size w8 w9 := d9.below _
  replace h := h.keep b9
  replace s2 := s2.keep b9
  replace p3 := p3.keep b9
  replace w7F := w7F.keep b9
  replace b1 := ebelow_trans b1 b9
  clear b9 d9 g1 g8
  go_wp2_with fail
  refine Calls.mono (eSame_calls a2 L7.length c2 a7 c7 L7 w9 s2 w7F (by omega) HF2.out) ?_
  rintro e w10 ⟨rfl, d10⟩
  have b10 : Below w9.heap.size w9 w10 := d10.below _
  replace h := h.keep b10
  replace s2 := s2.keep b10
  replace p3 := p3.keep b10
  replace w7F := w7F.keep b10
  replace b1 := ebelow_trans b1 b10
  clear b10 d10
  go_wp2_with fail
  refine Calls.mono (sign_calls a2 L7.length c2 L7 w10 s2 (by omega)) ?_
  rintro e w10 ⟨rfl, rfl⟩
  go_wp2_with fail
  refine Calls.mono (lSign_calls a7 L7.length c7 L7 w10 w7F (by omega) OK2.out) ?_
  rintro e w10 ⟨rfl, rfl⟩
  generalize sgnF (lastF L7) = sg
  have dd : (sg != sg) = false := by simp
  by_cases h32 : len ≤ 32
  · obtain ⟨C, e3, o3⟩ := HC.out h32
    obtain rfl := H3'.out _ e3
    have E3 : Hid (scaleO xs b [] = some L3) := e3
    have HF3 : Hid (∀ i, i < L3.length → finB (L3.getD i 0) = true) := o3.fin
    clear e3 o3 HC H3'
    go_wp2_with fail
    refine Calls.mono (rScale_calls a len cap xs b w10 h (by omega)) ?_
    rintro e w11 ⟨a11, c11, L11, rfl, O11, n11, b11, H11⟩
    obtain rfl := H11 _ E3.out
    have g11 := O11.isF
    replace p3 := p3.keep b11
    replace b1 := ebelow_trans b1 b11
    clear H11 O11 b11
    go_wp2_with fail
    refine Calls.mono (eSame_calls a3 L11.length c3 a11 c11 L11 w11 p3 g11 (by omega) HF3.out) ?_
    rintro e w12 ⟨rfl, d12⟩
    have b12 : Below w11.heap.size w11 w12 := d12.below _
    replace b1 := ebelow_trans b1 b12
    go_wp2_with fail
    go_ret
    exact ⟨rfl, b1⟩
  · go_wp2_with fail
    go_ret
    exact ⟨rfl, b1⟩
end Go.Proofs.Ytckpfohfbfmmnaa

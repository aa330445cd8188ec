/- The walk of the statement on the sum of many floats as a pair. -/
import Derived.Test.YtlbaphijmonjoaaEVb
namespace Go.Proofs.Ytlbaphijmonjoaa
open Go.RowKit

attribute [local go_sem ↓] Go.wp_at_zero Go.wp_at_succ
attribute [local go_sem] Fp.ran_store

namespace Fp
open EP
theorem getD_memV (xs : List Nat) (i : Nat) (h : i < xs.length) : xs.getD i 0 ∈ xs := by
  have e : xs.getD i 0 = xs[i] := by simp [List.getD, h]
  rw [e]; exact List.getElem_mem h
theorem tot_leV (M : Nat) : ∀ xs : List Nat, (∀ x ∈ xs, amt x ≤ M) → tot xs ≤ xs.length * M
  | [], _ => by simp [tot]
  | x :: l, h => by
    have h1 := tot_leV M l (fun y hy => h y (List.mem_cons_of_mem _ hy))
    have h2 := h x (List.mem_cons_self ..)
    simp only [tot, List.length_cons]
    rw [Nat.add_mul, Nat.one_mul]; omega
theorem tot_takeS (xs : List Nat) (k : Nat) (h : k < xs.length) : tot (xs.take (k + 1)) = tot (xs.take k) + amt (xs.getD k 0) := by
  have e : xs.take (k + 1) = xs.take k ++ [xs.getD k 0] := by rw [List.take_succ_eq_append_getElem h]; simp [List.getD, h]
  rw [e, tot_snoc]
theorem check_fin {xs : List Nat} (h : checkE xs [] = 0) : xs.length ≤ 1024 ∧ ∀ x ∈ xs, EP.finB x = true ∧ amt x ≤ 2 ^ 1374 := by
  unfold checkE at h
  by_cases hl : 1024 < xs.length
  · rw [if_pos hl] at h; exact absurd h (by decide)
  · rw [if_neg hl] at h
    split at h
    · rename_i q
      refine ⟨by omega, fun x hx => ?_⟩
      have ho := (Bool.and_eq_true_iff.1 q).1
      have := List.all_eq_true.1 ho x hx
      have hp := right_PB x 0 this
      exact ⟨hp.1, hp.2.2.1⟩
    · exact absurd h (by decide)
/-- The sum of many floats as a pair: what is known of it, all at once. -/
theorem sum_all {xs : List Nat} (h : checkE xs [] = 0) (K : Nat) (hK : K = 1500) :
    ∃ p q, foldS xs 0 0 = some (p, q) ∧ p < 18446744073709551616 ∧ q < 18446744073709551616 ∧ bd p K ∧ bd q K ∧ G (V p + V q) = V p ∧ (V p + V q).natAbs < 2 ^ K ∧ (V p + V q - sv xs).natAbs < 2 ^ K ∧
      (V p + V q - sv xs).natAbs * 2 ^ 101 ≤ ((tot xs : Int) * (xs.length : Int)).natAbs ∧ ((tot xs : Int) * (xs.length : Int)).natAbs < 2 ^ K ∧ tot xs < 2 ^ K := by
  obtain ⟨hl, ha⟩ := check_fin h
  obtain ⟨m, hm⟩ : ∃ m, m = 1374 := ⟨_, rfl⟩
  rw [← hm] at ha
  have ht : tot xs ≤ 1024 * 2 ^ m := Nat.le_trans (tot_leV _ xs (fun x hx => (ha x hx).2)) (Nat.mul_le_mul_right _ hl)
  have e12 : 2 ^ (m + 12) = 4096 * 2 ^ m := by rw [Nat.pow_add, Nat.mul_comm]
  have e40 : 2 ^ (m + 40) = 1099511627776 * 2 ^ m := by rw [Nat.pow_add, Nat.mul_comm]
  have h40 : 2 ^ (m + 40) < 2 ^ K := Nat.pow_lt_pow_right (by decide) (by omega)
  have hp := Nat.two_pow_pos m
  obtain ⟨p, q, e, fp, fq, wp, wq, hr, ho⟩ := foldS_near (1024 * 2 ^ m) (m + 12) (by omega) (by omega) xs 0 0 0 0 0 (fun x hx => (ha x hx).1) (by decide) (by decide) (by decide) (by decide) (by omega) (by omega) (by rw [V_zero]; exact G_zero) (by decide) (by unfold offB; rw [V_zero]; decide)
  rw [Int.zero_add, Nat.zero_add, Nat.zero_add] at ho
  have hS := sv_abs xs
  have hP := off_size ho hS hl
  have hG := G_le (V p + V q)
  rw [hr] at hG
  have hmul : ((tot xs : Int) * (xs.length : Int)).natAbs = xs.length * tot xs := by rw [Int.natAbs_mul, Int.natAbs_natCast, Int.natAbs_natCast, Nat.mul_comm]
  have hle : xs.length * tot xs ≤ 1024 * tot xs := Nat.mul_le_mul_right _ hl
  unfold offB at ho
  rw [hmul]
  refine ⟨p, q, e, wp, wq, ⟨fp, by omega⟩, ⟨fq, by omega⟩, hr, by omega, by omega, ?_, by omega, by omega⟩
  rw [show (2 : Nat) ^ 101 = 2535301200456458802993406410752 by decide]
  omega
end Fp

theorem AtDy.one {w : World} {b : Nat} {p : Bool × Nat × Int} {a : Option Addr} {n c : Nat} (h : AtDy w b p a n c) {r : Addr} (hne : r.block ≠ b) (v : Value) : AtDy (w.setCell r v) b p a n c := by
  obtain ⟨h0, h1, h2, h3, h4, h5⟩ := h
  have key : ∀ (i : Nat) (x : Value), w.cell? ⟨b, i, none⟩ = some x → (w.setCell r v).cell? ⟨b, i, none⟩ = some x := fun i x q => (World.cell?_setCell_other w _ _ _ (fun e => hne (by rw [e]))).trans q
  exact ⟨key _ _ h0, key _ _ h1, key _ _ h2, by rw [World.frozen?_setCell]; exact h3, by rw [World.frozen?_setCell]; exact h4, by rw [World.frozen?_setCell]; exact h5⟩
theorem cell_one {w : World} {b i : Nat} {x : Value} (h : w.cell? ⟨b, i, none⟩ = some x) {r : Addr} (hne : r.block ≠ b) (v : Value) : (w.setCell r v).cell? ⟨b, i, none⟩ = some x :=
  (World.cell?_setCell_other w _ _ _ (fun e => hne (by rw [e]))).trans h
/-- What stands between the rounds. -/
def InvA (w wr : World) (xs : List Nat) (B B5 B6 s t k : Nat) (a5 : Option Addr) (n5 c5 : Nat) (a6 : Option Addr) (n6 c6 : Nat) : Prop :=
  (wr.cell? ⟨B, 0, none⟩ = some (.float .f64 s) ∧ wr.cell? ⟨B, 1, none⟩ = some (.float .f64 t)) ∧ AtDy wr B5 (dyU (Fp.sv (xs.take k))) a5 n5 c5 ∧ AtDy wr B6 (dyU (Fp.tot (xs.take k) : Int)) a6 n6 c6 ∧
    OwnW (B6 + 1) wr a5 n5 c5 (wordsOf (dyU (Fp.sv (xs.take k))).2.1) ∧ OwnW (B6 + 1) wr a6 n6 c6 (wordsOf (dyU (Fp.tot (xs.take k) : Int)).2.1) ∧ B6 + 1 ≤ wr.heap.size ∧ Below w.heap.size w wr

set_option maxRecDepth 100000 in
set_option maxHeartbeats 8000000 in
theorem ddAll_walk (a : Option Addr) (len cap : Nat) (xs : List Nat) (w : World) (h : Fp.IsF w a len cap xs) (hm : len ≤ 17592186044000) (hs : Fp.smallFs xs) :
    Calls Try.prog 4 #[.slice a len cap] w fun e w' => e = .returned (.bool true) ∧ Below w.heap.size w w' := by
  have HLL : Hid (len = xs.length) := h.1
  have HF : Hid (Fp.IsF w a len cap xs) := h
  have HSM : Hid (Fp.smallFs xs) := hs
  have HSU : Hid (∀ w', Fp.IsF w' a len cap xs → _) := fun w' g => Fp.dSum_calls a len cap xs w' g (by omega) hs
  have HE : Hid (Fp.checkE xs [] = 0 → _) := fun e => Fp.sum_all e 1500 rfl
  have HFI : Hid (Fp.checkE xs [] = 0 → len ≤ 1024 ∧ ∀ i, i < len → xs.getD i 0 < 18446744073709551616 ∧ EP.finB (xs.getD i 0) = true ∧ Fp.amt (xs.getD i 0) ≤ Fp.tot xs) := fun e => by
    have h1 := Fp.check_fin e
    rw [← h.1] at h1
    refine ⟨h1.1, fun i hi => ⟨hs i, (h1.2 _ (Fp.getD_memV xs i (by rw [← h.1]; exact hi))).1, Fp.tot_mem _ _ (Fp.getD_memV xs i (by rw [← h.1]; exact hi))⟩⟩
  clear hs
  generalize Fp.checkE xs [] = E at *
  generalize Fp.foldS xs 0 0 = FO at *
  go_enter Try.func4, Try.ntmps4
  go_wp2_with fail
  refine Calls.mono (Fp.dBegins_calls _) ?_
  rintro e w1 ⟨rfl, bB⟩
  have F1 := h.keep bB
  clear h
  go_wp2_with fail
  refine Calls.mono (HSU.out _ F1) ?_
  rintro e w2 ⟨s, t, rfl, b2, A, Z⟩
  replace bB := nbelow_trans bB b2
  clear F1 b2 HSU
  by_cases hE : E = 0
  case neg =>
    obtain ⟨rfl, rfl⟩ := Z hE
    clear A Z HE HFI
    have hEd : (E != 0) = true := by simpa using hE
    go_wp2_with fail
    refine Calls.mono (Fp.rSame_yes 0 0 0 0 _ (by decide) (by decide)) ?_
    rintro e w3 ⟨rfl, b3⟩
    go_wp2_with fail
    go_ret
    exact ⟨rfl, nbelow_trans (nbelow_trans bB (below_one _ _)) b3⟩
  case pos =>
    have HA : Hid (∀ p, FO = some p → s = p.1 ∧ t = p.2) := A hE
    obtain ⟨p, q, e, w5, w6, bp, bq, hG, hP, hD, hle, hM, hT⟩ := HE.out hE
    obtain ⟨rfl, rfl⟩ := HA.out _ e
    obtain ⟨K, hK⟩ : ∃ K, K = 1500 := ⟨_, rfl⟩
    rw [← hK] at bp bq hP hD hM hT
    have hK2 : K ≤ 2000 := by omega
    have hlen := (HFI.out hE).1
    have HX := (HFI.out hE).2
    have HX : Hid (∀ i, i < len → xs.getD i 0 < 18446744073709551616 ∧ EP.finB (xs.getD i 0) = true ∧ Fp.amt (xs.getD i 0) ≤ Fp.tot xs) := HX
    have HPF : Hid (s < 18446744073709551616 ∧ t < 18446744073709551616 ∧ EP.bd s K ∧ EP.bd t K ∧ Fp.G (EP.V s + EP.V t) = EP.V s) := ⟨w5, w6, bp, bq, hG⟩
    rw [← HLL.out] at hle hM
    have HBD : Hid ((EP.V s + EP.V t).natAbs < 2 ^ K ∧ (EP.V s + EP.V t - Fp.sv xs).natAbs < 2 ^ K ∧ (EP.V s + EP.V t - Fp.sv xs).natAbs * 2 ^ 101 ≤ ((Fp.tot xs : Int) * (len : Int)).natAbs ∧ ((Fp.tot xs : Int) * (len : Int)).natAbs < 2 ^ K ∧ Fp.tot xs < 2 ^ K) := ⟨hP, hD, hle, hM, hT⟩
    clear A Z HE HFI HA e w5 w6 bp bq hG hP hD hle hM hT
    have hEd : (E != 0) = false := by simpa using hE
    subst hE
    clear hK HSM
    have bA : Below w2.heap.size w2 (((w2.alloc (.cells #[.float .f64 s, .float .f64 t] 24)).alloc (.cells #[.bool false, .slice none 0 0, .int .i64 0] 30)).alloc (.cells #[.bool false, .slice none 0 0, .int .i64 0] 30)) := nbelow_trans (nbelow_trans (below_one _ _) (below_one _ _)) (below_one _ _)
    have H0 : Hid (InvA w (((w2.alloc (.cells #[.float .f64 s, .float .f64 t] 24)).alloc (.cells #[.bool false, .slice none 0 0, .int .i64 0] 30)).alloc (.cells #[.bool false, .slice none 0 0, .int .i64 0] 30)) xs w2.heap.size (w2.heap.size + 1) (w2.heap.size + 1 + 1) s t 0 none 0 0 none 0 0) := by
      rw [Hid, InvA, List.take_zero, show Fp.sv [] = 0 from rfl, show ((Fp.tot [] : Nat) : Int) = 0 from rfl, dyU_zero, words_zero]
      refine ⟨⟨by go_simp, by go_simp⟩, ⟨by go_simp, by go_simp, by go_simp, by go_simp, by go_simp, by go_simp⟩, ⟨by go_simp, by go_simp, by go_simp, by go_simp, by go_simp, by go_simp⟩, ownW_nil _ _, ownW_nil _ _, by simp, nbelow_trans bB bA⟩
    have HW : Hid (w.heap.size ≤ w2.heap.size) := bB.size
    clear bA bB
    go_wp2_with fail
    generalize (((w2.alloc (.cells #[.float .f64 s, .float .f64 t] 24)).alloc (.cells #[.bool false, .slice none 0 0, .int .i64 0] 30)).alloc (.cells #[.bool false, .slice none 0 0, .int .i64 0] 30)) = w3 at *
    have HBB : Hid (w.heap.size ≤ w2.heap.size ∧ w2.heap.size < w2.heap.size + 1 ∧ w2.heap.size + 1 < w2.heap.size + 1 + 1) := by rw [Hid]; have := HW.out; omega
    clear HW
    generalize w2.heap.size + 1 + 1 = B6 at *
    generalize w2.heap.size + 1 = B5 at *
    generalize w2.heap.size = B at *
    have hbz := HBB.out
    have i1 : ¬ B = B5 := by omega
    have i2 : ¬ B5 = B := by omega
    have i3 : ¬ B = B6 := by omega
    have i4 : ¬ B6 = B := by omega
    have i5 : ¬ B5 = B6 := by omega
    have i6 : ¬ B6 = B5 := by omega
    clear hbz
    go_loopw [7] (fun vi wr => ∃ (k : Nat) (a5 : Option Addr) (n5 c5 : Nat) (a6 : Option Addr) (n6 c6 : Nat), k ≤ len ∧ vi = .int .i64 k ∧ Hid (InvA w wr xs B B5 B6 s t k a5 n5 c5 a6 n6 c6)) (fun vi _ => len - (intOf vi).toNat)
    case atStart => exact ⟨0, none, 0, 0, none, 0, 0, Nat.zero_le _, rfl, H0⟩
    case round =>
      clear H0
      obtain ⟨k, a5, n5, c5, a6, n6, c6, hk, rfl, HI⟩ := hrel
      by_cases hlt : k < len
      · obtain ⟨⟨v0, v1⟩, D5, D6, O5, O6, hz, hbel⟩ := HI.out
        obtain ⟨bb, off, hae, hbl, hc⟩ := (HF.out.keep hbel).2.2 k hlt
        obtain ⟨hx1, hx2, hx3⟩ := HX.out k hlt
        have e1 := Fp.sv_take xs k (by rw [← HLL.out]; exact hlt)
        have e2 := Fp.tot_takeS xs k (by rw [← HLL.out]; exact hlt)
        have hS1 := Nat.lt_of_le_of_lt (Fp.sv_abs (xs.take k)) (Nat.lt_of_le_of_lt (Fp.tot_take xs k) HBD.out.2.2.2.2)
        have hT1 := Nat.lt_of_le_of_lt (Fp.tot_take xs k) HBD.out.2.2.2.2
        have hxV : (EP.V (xs.getD k 0)).natAbs < 2 ^ K := Nat.lt_of_le_of_lt hx3 HBD.out.2.2.2.2
        have e2' : ((Fp.tot (xs.take (k + 1)) : Nat) : Int) = (Fp.tot (xs.take k) : Int) + ((EP.V (xs.getD k 0)).natAbs : Int) := by rw [e2]; rfl
        generalize xs.getD k 0 = x at *
        obtain ⟨Sk, hSk⟩ : ∃ Sk, Sk = Fp.sv (xs.take k) := ⟨_, rfl⟩
        obtain ⟨Tk, hTk⟩ : ∃ Tk, Tk = Fp.tot (xs.take k) := ⟨_, rfl⟩
        rw [← hSk] at D5 O5 e1 hS1
        rw [← hTk] at D6 O6 e2' hT1
        have XC : Hid _ := uexact_calls x 0 wr hx1 (by decide) hx2 (by decide)
        rw [Fp.V_zero, Int.add_zero] at XC
        generalize EP.V x = X at *
        have HNX : Hid (Fp.sv (xs.take (k + 1)) = Sk + X ∧ ((Fp.tot (xs.take (k + 1)) : Nat) : Int) = (Tk : Int) + (X.natAbs : Int)) := ⟨e1, e2'⟩
        have hXa : ((X.natAbs : Nat) : Int).natAbs < 2 ^ K := by rw [Int.natAbs_natCast]; exact hxV
        have hTa : ((Tk : Nat) : Int).natAbs < 2 ^ K := by rw [Int.natAbs_natCast]; exact hT1
        have UP1 : Hid _ := fun (ax : Option Addr) (nx cx : Nat) (W : World) (g1 : IsW W a5 n5 c5 (wordsOf (dyU Sk).2.1)) (g2 : IsW W ax nx cx (wordsOf (dyU X).2.1)) => uplus_calls Sk X K hS1 hxV (by omega) a5 ax n5 c5 nx cx W g1 g2
        have UP2 : Hid _ := fun (ax : Option Addr) (nx cx : Nat) (W : World) (g1 : IsW W a6 n6 c6 (wordsOf (dyU (Tk : Int)).2.1)) (g2 : IsW W ax nx cx (wordsOf (dyU (X.natAbs : Int)).2.1)) => uplus_calls (Tk : Int) (X.natAbs : Int) K hTa hXa (by omega) a6 ax n6 c6 nx cx W g1 g2
        rw [dyU_abs X] at UP2
        have HZ : Hid (B6 + 1 ≤ wr.heap.size) := hz
        have HV : Hid (wr.cell? ⟨B, 0, none⟩ = some (.float .f64 s) ∧ wr.cell? ⟨B, 1, none⟩ = some (.float .f64 t)) := ⟨v0, v1⟩
        have HL : Hid (Below w.heap.size w wr) := hbel
        have HD5 : Hid (AtDy wr B5 (dyU Sk) a5 n5 c5) := D5
        have HD6 : Hid (AtDy wr B6 (dyU (Tk : Int)) a6 n6 c6) := D6
        have HO5 : Hid (OwnW (B6 + 1) wr a5 n5 c5 (wordsOf (dyU Sk).2.1)) := O5
        have HO6 : Hid (OwnW (B6 + 1) wr a6 n6 c6 (wordsOf (dyU (Tk : Int)).2.1)) := O6
        subst hae
        clear hx1 hx2 hx3 e1 e2 e2' hS1 hT1 hxV hXa hTa hSk hTk HI D5 D6 O5 O6 hz hbel v0 v1
        go_wp2_with fail
        refine Calls.mono XC.out ?_
        rintro r w4 ⟨_, rfl, ⟨a1, n1, c1, rfl, HN1, hO1⟩, b1⟩
        have bZ := below_one w4 (.cells #[.bool (dyU X).1, .slice a1 n1 c1, .int .i64 (dyU X).2.2] 30)
        have b4 := nbelow_trans b1 bZ
        have J1 := hO1.1.keep bZ
        have HB8 : Hid (B6 < w4.heap.size ∧ (w4.alloc (.cells #[.bool (dyU X).1, .slice a1 n1 c1, .int .i64 (dyU X).2.2] 30)).heap.size = w4.heap.size + 1 ∧ wr.heap.size ≤ w4.heap.size) := by
          rw [Hid]; have := HZ.out; have := b1.size; exact ⟨by omega, by simp, by omega⟩
        have HO1 : Hid (∀ b off i, a1 = some ⟨b, off, none⟩ → i < n1 → wr.heap.size ≤ b ∧ b < w4.heap.size) := fun b off i e hi => by
          obtain ⟨b2, off2, q1, q2, -⟩ := hO1.1.2.2.2 i hi
          have h1 := (hO1.2 b off i e hi).1
          rw [e] at q1
          cases q1
          exact ⟨h1, q2⟩
        have x0 : (w4.alloc (.cells #[.bool (dyU X).1, .slice a1 n1 c1, .int .i64 (dyU X).2.2] 30)).cell? ⟨w4.heap.size, 0, none⟩ = some (.bool (dyU X).1) := by go_simp
        have x1 : (w4.alloc (.cells #[.bool (dyU X).1, .slice a1 n1 c1, .int .i64 (dyU X).2.2] 30)).cell? ⟨w4.heap.size, 1, none⟩ = some (.slice a1 n1 c1) := by go_simp
        have x2 : (w4.alloc (.cells #[.bool (dyU X).1, .slice a1 n1 c1, .int .i64 (dyU X).2.2] 30)).cell? ⟨w4.heap.size, 2, none⟩ = some (.int .i64 (dyU X).2.2) := by go_simp
        have y0 : (w4.alloc (.cells #[.bool (dyU X).1, .slice a1 n1 c1, .int .i64 (dyU X).2.2] 30)).frozen? ⟨w4.heap.size, 0, none⟩ = false := by go_simp
        obtain ⟨k0, k1, k2, -, -, -⟩ := AtDy.keep HD5.out b4
        clear hO1 bZ b1 hc hbl HN1
        go_wp2_with fail
        generalize (w4.alloc (.cells #[.bool (dyU X).1, .slice a1 n1 c1, .int .i64 (dyU X).2.2] 30)) = w5 at *
        generalize w4.heap.size = B8 at *
        refine Calls.mono (UP1.out _ _ _ _ (HO5.out.1.keep b4) J1) ?_
        rintro r w6 ⟨_, rfl, ⟨a3, n3, c3, rfl, HN3, hO3⟩, b5⟩
        have hbz := HBB.out
        have hb8 := HB8.out
        have b6 := nbelow_trans b4 b5
        replace y0 := dcarry_frozen b5 x0 y0
        replace x0 := dcarry_cell b5 x0
        replace x1 := dcarry_cell b5 x1
        replace x2 := dcarry_cell b5 x2
        replace J1 := J1.keep b5
        have j1 : ¬ B5 = B8 := by omega
        have j2 : ¬ B8 = B5 := by omega
        have j3 : ¬ B6 = B8 := by omega
        have j4 : ¬ B8 = B6 := by omega
        have G5 := AtDy.keep HD5.out b6
        have G6 := AtDy.keep HD6.out b6
        obtain ⟨k0, k1, k2, f0, f1, f2⟩ := G5
        obtain ⟨l0, l1, l2, g0, g1, g2⟩ := G6
        have HB6 : Hid (Below wr.heap.size wr w6) := b6
        have HO3 : Hid (OwnW (B8 + 1) w6 a3 n3 c3 (wordsOf (dyU (Sk + X)).2.1)) := by rw [← hb8.2.1]; exact hO3
        have HS6 : Hid (B8 + 1 ≤ w6.heap.size) := by rw [Hid]; have := b5.size; omega
        have J1' := isW_at (isW_at (isW_at (isW_at J1 ⟨B5, 0, none⟩ (.bool (dyU (Sk + X)).1) (fun b off i e hi => by have := HO1.out b off i e hi; have := HZ.out; show B5 ≠ b; omega)) ⟨B5, 1, none⟩ (.slice a3 n3 c3) (fun b off i e hi => by have := HO1.out b off i e hi; have := HZ.out; show B5 ≠ b; omega)) ⟨B5, 2, none⟩ (.int .i64 (dyU (Sk + X)).2.2) (fun b off i e hi => by have := HO1.out b off i e hi; have := HZ.out; show B5 ≠ b; omega)) ⟨B8, 0, none⟩ (.bool false) (fun b off i e hi => by have := HO1.out b off i e hi; show B8 ≠ b; omega)
        have HJ6 : Hid (IsW (((((w6.setCell ⟨B5, 0, none⟩ (.bool (dyU (Sk + X)).1)).setCell ⟨B5, 1, none⟩ (.slice a3 n3 c3)).setCell ⟨B5, 2, none⟩ (.int .i64 (dyU (Sk + X)).2.2))).setCell ⟨B8, 0, none⟩ (.bool false)) a6 n6 c6 (wordsOf (dyU (Tk : Int)).2.1)) := by
          have hlt' : ∀ b off i, a6 = some ⟨b, off, none⟩ → i < n6 → B6 + 1 ≤ b ∧ b < wr.heap.size := fun b off i e hi => by
            obtain ⟨b2, off2, q1, q2, -⟩ := HO6.out.1.2.2.2 i hi
            have h1 := (HO6.out.2 b off i e hi).1
            rw [e] at q1
            cases q1
            exact ⟨h1, q2⟩
          have hw4 : wr.heap.size ≤ B8 := hb8.2.2
          exact isW_at (isW_at (isW_at (isW_at (HO6.out.1.keep b6) _ _ (fun b off i e hi => by have := hlt' b off i e hi; show B5 ≠ b; omega)) _ _ (fun b off i e hi => by have := hlt' b off i e hi; show B5 ≠ b; omega)) _ _ (fun b off i e hi => by have := hlt' b off i e hi; show B5 ≠ b; omega)) _ _ (fun b off i e hi => by have := hlt' b off i e hi; show B8 ≠ b; omega)
        clear hO3 J1 b4 b5 b6 hbz hb8 HN3 HO1 UP1 XC
        go_wp2_with fail
        refine Calls.mono (UP2.out _ _ _ _ HJ6.out J1') ?_
        rintro r w7 ⟨_, rfl, ⟨a7, n7, c7, rfl, HN7, hO7⟩, b7⟩
        have hbz := HBB.out
        have hb8 := HB8.out
        have hs6 := HS6.out
        have D6' : AtDy (((((w6.setCell ⟨B5, 0, none⟩ (.bool (dyU (Sk + X)).1)).setCell ⟨B5, 1, none⟩ (.slice a3 n3 c3)).setCell ⟨B5, 2, none⟩ (.int .i64 (dyU (Sk + X)).2.2))).setCell ⟨B8, 0, none⟩ (.bool false)) B6 (dyU (Tk : Int)) a6 n6 c6 := AtDy.one (AtDy.other (AtDy.keep HD6.out HB6.out) (by omega) _ _ _) (by show B8 ≠ B6; omega) _
        have D5' : AtDy (((((w6.setCell ⟨B5, 0, none⟩ (.bool (dyU (Sk + X)).1)).setCell ⟨B5, 1, none⟩ (.slice a3 n3 c3)).setCell ⟨B5, 2, none⟩ (.int .i64 (dyU (Sk + X)).2.2))).setCell ⟨B8, 0, none⟩ (.bool false)) B5 (dyU (Sk + X)) a3 n3 c3 := AtDy.one (AtDy.set (AtDy.keep HD5.out HB6.out) _ _ _ _) (by show B8 ≠ B5; omega) _
        have V' : ∀ (i : Nat) (y : Value), wr.cell? ⟨B, i, none⟩ = some y → (((((w6.setCell ⟨B5, 0, none⟩ (.bool (dyU (Sk + X)).1)).setCell ⟨B5, 1, none⟩ (.slice a3 n3 c3)).setCell ⟨B5, 2, none⟩ (.int .i64 (dyU (Sk + X)).2.2))).setCell ⟨B8, 0, none⟩ (.bool false)).cell? ⟨B, i, none⟩ = some y := fun i y q => cell_one (set3_cell (dcarry_cell HB6.out q) (by omega)) (by show B8 ≠ B; omega) _
        have O3' := (((HO3.out.far ⟨B5, 0, none⟩ (.bool (dyU (Sk + X)).1) (by show B5 < _; omega)).far ⟨B5, 1, none⟩ (.slice a3 n3 c3) (by show B5 < _; omega)).far ⟨B5, 2, none⟩ (.int .i64 (dyU (Sk + X)).2.2) (by show B5 < _; omega)).far ⟨B8, 0, none⟩ (.bool false) (by show B8 < _; omega)
        have hs7 := b7.size
        rw [World.size_setCell, World.size_setCell, World.size_setCell, World.size_setCell] at hs7 hO7
        have bl7 : Below w.heap.size w (((((w6.setCell ⟨B5, 0, none⟩ (.bool (dyU (Sk + X)).1)).setCell ⟨B5, 1, none⟩ (.slice a3 n3 c3)).setCell ⟨B5, 2, none⟩ (.int .i64 (dyU (Sk + X)).2.2))).setCell ⟨B8, 0, none⟩ (.bool false)) := ((((nbelow_trans HL.out HB6.out).setCell (by show w.heap.size ≤ B5; omega) _).setCell (by show w.heap.size ≤ B5; omega) _).setCell (by show w.heap.size ≤ B5; omega) _).setCell (by show w.heap.size ≤ B8; omega) _
        have HN8 : Hid (InvA w (((w7.setCell ⟨B6, 0, none⟩ (.bool (dyU ((Tk : Int) + (X.natAbs : Int))).1)).setCell ⟨B6, 1, none⟩ (.slice a7 n7 c7)).setCell ⟨B6, 2, none⟩ (.int .i64 (dyU ((Tk : Int) + (X.natAbs : Int))).2.2)) xs B B5 B6 s t (k + 1) a3 n3 c3 a7 n7 c7) := by
          rw [Hid, InvA, HNX.out.1, HNX.out.2]
          refine ⟨⟨set3_cell (dcarry_cell b7 (V' _ _ HV.out.1)) (by omega), set3_cell (dcarry_cell b7 (V' _ _ HV.out.2)) (by omega)⟩, AtDy.other (AtDy.keep D5' b7) (by omega) _ _ _, AtDy.set (AtDy.keep D6' b7) _ _ _ _, ?_, ?_, ?_, ?_⟩
          · exact ((((O3'.keep b7).far _ _ (by show B6 < _; omega)).far _ _ (by show B6 < _; omega)).far _ _ (by show B6 < _; omega)).low (by omega)
          · exact (((hO7.far _ _ (by show B6 < _; omega)).far _ _ (by show B6 < _; omega)).far _ _ (by show B6 < _; omega)).low (by omega)
          · rw [World.size_setCell, World.size_setCell, World.size_setCell]; omega
          · exact (((nbelow_trans bl7 b7).setCell (by show w.heap.size ≤ B6; omega) _).setCell (by show w.heap.size ≤ B6; omega) _).setCell (by show w.heap.size ≤ B6; omega) _
        obtain ⟨l0, l1, l2, g0, g1, g2⟩ := AtDy.keep D6' b7
        clear D6' D5' V' O3' bl7 hO7 HN7 HO3 HO5 HO6 HD5 HD6 HV HL HZ HB6 hs7 hs6 hb8 hbz J1' HJ6 UP2 x0 x1 x2 y0 k0 k1 k2 f0 f1 f2 b7
        go_wp2_with fail
        exact ⟨⟨k + 1, a3, n3, c3, a7, n7, c7, by omega, by go_num, HN8⟩, by simp [intOf]; omega⟩
      · have hke : k = len := by omega
        have e1 : xs.take k = xs := List.take_of_length_le (by rw [hke, HLL.out]; exact Nat.le_refl _)
        obtain ⟨⟨v0, v1⟩, D5, D6, O5, O6, hz, bB⟩ := HI.out
        rw [e1] at D5 D6 O5 O6
        obtain ⟨k0, k1, k2, -, -, -⟩ := D5
        obtain ⟨l0, l1, l2, -, -, -⟩ := D6
        have I5 := O5.1
        have I6 := O6.1
        clear O5 O6 hz HI e1 HX HF HLL HBB
        obtain ⟨S, hS⟩ : ∃ S, S = Fp.sv xs := ⟨_, rfl⟩
        obtain ⟨A, hA⟩ : ∃ A, A = Fp.tot xs := ⟨_, rfl⟩
        rw [← hS] at k0 k2 I5 HBD
        rw [← hA] at l0 l2 I6 HBD
        clear hke
        have HSA : Hid (S.natAbs < 2 ^ K ∧ ((A : Nat) : Int).natAbs < 2 ^ K) := by
          rw [Hid, hS]
          exact ⟨Nat.lt_of_le_of_lt (Fp.sv_abs xs) (by rw [← hA]; exact HBD.out.2.2.2.2), by rw [Int.natAbs_natCast]; exact HBD.out.2.2.2.2⟩
        clear hS hA
        go_upto_region 15 with fail
        have bw : Below wr.heap.size wr wr.drew := (Below.refl _ _).drew
        refine wp_region_held (S := fun w' => w'.cell? ⟨B, 0, none⟩ = some (.float .f64 s) ∧ w'.cell? ⟨B, 1, none⟩ = some (.float .f64 t) ∧ w'.cell? ⟨B5, 0, none⟩ = some (.bool (dyU S).1) ∧ w'.cell? ⟨B5, 1, none⟩ = some (.slice a5 n5 c5) ∧ w'.cell? ⟨B5, 2, none⟩ = some (.int .i64 (dyU S).2.2) ∧ w'.cell? ⟨B6, 0, none⟩ = some (.bool (dyU (A : Int)).1) ∧ w'.cell? ⟨B6, 1, none⟩ = some (.slice a6 n6 c6) ∧ w'.cell? ⟨B6, 2, none⟩ = some (.int .i64 (dyU (A : Int)).2.2)) (by kernel_rfl) ?_
        change wpAnyH _ _ _ _ _ _ _ _ (World.drew wr)
        replace v0 := dcarry_cell bw v0
        replace v1 := dcarry_cell bw v1
        replace k0 := dcarry_cell bw k0
        replace k1 := dcarry_cell bw k1
        replace k2 := dcarry_cell bw k2
        replace l0 := dcarry_cell bw l0
        replace l1 := dcarry_cell bw l1
        replace l2 := dcarry_cell bw l2
        replace I5 := I5.keep bw
        replace I6 := I6.keep bw
        replace bB := nbelow_trans bB bw
        have HSS := And.intro v0 (And.intro v1 (And.intro k0 (And.intro k1 (And.intro k2 (And.intro l0 (And.intro l1 l2))))))
        clear bw
        generalize World.drew wr = wd at *
        refine wpAnyH_take (i := 0) (v := .agg #[.float .f64 s, .float .f64 t]) rfl (by kernel_rfl) (by kernel_rfl) (by kernel_rfl) (fun _ _ _ h => h) (Or.inl ⟨by rfl, ?y0⟩) HSS ?r0
        case y0 => (rintro ww ⟨q0, q1, q2, q3, q4, q5, q6, q7⟩; go_simp)
        try simp only [Act.put]
        refine wpAnyH_ready (rs := [1]) (by kernel_rfl) (by simp) ?_
        refine AllReadyH.cons rfl (fun KK hK => ?_) AllReadyH.nil
        go_simp
        refine Calls.mono (Fp.finite_calls s t K _ HPF.out.1 HPF.out.2.1 HPF.out.2.2.1 HPF.out.2.2.2.1 (by omega) HPF.out.2.2.2.2) ?_
        rintro e wn ⟨rfl, bn⟩
        replace v0 := dcarry_cell bn v0
        replace v1 := dcarry_cell bn v1
        replace k0 := dcarry_cell bn k0
        replace k1 := dcarry_cell bn k1
        replace k2 := dcarry_cell bn k2
        replace l0 := dcarry_cell bn l0
        replace l1 := dcarry_cell bn l1
        replace l2 := dcarry_cell bn l2
        replace I5 := I5.keep bn
        replace I6 := I6.keep bn
        replace bB := nbelow_trans bB bn
        have HSS := And.intro v0 (And.intro v1 (And.intro k0 (And.intro k1 (And.intro k2 (And.intro l0 (And.intro l1 l2))))))
        clear bn
        refine hK.out _ _ HSS (fun _ => ?_)
        clear hK KK
        try simp only [Act.put, List.setIfInBounds_toArray, List.set_cons_zero, List.set_cons_succ]
        refine wpAnyH_take (i := 2) (v := .bool true) rfl (by kernel_rfl) (by kernel_rfl) (by kernel_rfl) (fun _ _ _ h => h) (Or.inl ⟨by rfl, ?y2⟩) HSS ?r2
        case y2 => (rintro ww ⟨q0, q1, q2, q3, q4, q5, q6, q7⟩; go_simp)
        try simp only [Act.put]
        refine wpAnyH_take (i := 3) (v := .agg #[.float .f64 s, .float .f64 t]) rfl (by kernel_rfl) (by kernel_rfl) (by kernel_rfl) (fun _ _ _ h => h) (Or.inl ⟨by rfl, ?y3⟩) HSS ?r3
        case y3 => (rintro ww ⟨q0, q1, q2, q3, q4, q5, q6, q7⟩; go_simp)
        try simp only [Act.put]
        refine wpAnyH_take (i := 5) (v := .agg #[.bool (dyU S).1, .slice a5 n5 c5, .int .i64 (dyU S).2.2]) rfl (by kernel_rfl) (by kernel_rfl) (by kernel_rfl) (fun _ _ _ h => h) (Or.inl ⟨by rfl, ?y5⟩) HSS ?r5
        case y5 => (rintro ww ⟨q0, q1, q2, q3, q4, q5, q6, q7⟩; go_simp)
        try simp only [Act.put]
        refine wpAnyH_take (i := 7) (v := .agg #[.bool (dyU (A : Int)).1, .slice a6 n6 c6, .int .i64 (dyU (A : Int)).2.2]) rfl (by kernel_rfl) (by kernel_rfl) (by kernel_rfl) (fun _ _ _ h => h) (Or.inl ⟨by rfl, ?y7⟩) HSS ?r7
        case y7 => (rintro ww ⟨q0, q1, q2, q3, q4, q5, q6, q7⟩; go_simp)
        try simp only [Act.put]
        refine wpAnyH_take (i := 8) (v := .slice a len cap) rfl (by kernel_rfl) (by kernel_rfl) (by kernel_rfl) (fun _ _ _ h => h) (Or.inl ⟨by rfl, ?y8⟩) HSS ?r8
        case y8 => (rintro ww ⟨q0, q1, q2, q3, q4, q5, q6, q7⟩; go_simp)
        try simp only [Act.put]
        refine wpAnyH_take (i := 9) (v := .int .i64 (len : Int)) rfl (by kernel_rfl) (by kernel_rfl) (by kernel_rfl) (fun _ _ _ h => h) (Or.inl ⟨by rfl, ?y9⟩) HSS ?r9
        case y9 => (rintro ww ⟨q0, q1, q2, q3, q4, q5, q6, q7⟩; go_simp)
        try simp only [Act.put]
        refine wpAnyH_ready (rs := [4]) (by kernel_rfl) (by simp) ?_
        refine AllReadyH.cons rfl (fun KK hK => ?_) AllReadyH.nil
        go_simp
        refine Calls.mono (uexact_calls s t _ HPF.out.1 HPF.out.2.1 HPF.out.2.2.1.1 HPF.out.2.2.2.1.1) ?_
        rintro e wn ⟨_, rfl, ⟨a1, n1, c1, rfl, HN1, hO1⟩, bn⟩
        replace v0 := dcarry_cell bn v0
        replace v1 := dcarry_cell bn v1
        replace k0 := dcarry_cell bn k0
        replace k1 := dcarry_cell bn k1
        replace k2 := dcarry_cell bn k2
        replace l0 := dcarry_cell bn l0
        replace l1 := dcarry_cell bn l1
        replace l2 := dcarry_cell bn l2
        replace I5 := I5.keep bn
        replace I6 := I6.keep bn
        replace bB := nbelow_trans bB bn
        have HSS := And.intro v0 (And.intro v1 (And.intro k0 (And.intro k1 (And.intro k2 (And.intro l0 (And.intro l1 l2))))))
        have J1 := hO1.1
        clear hO1 HN1 bn
        refine hK.out _ _ HSS (fun _ => ?_)
        clear hK KK
        try simp only [Act.put, List.setIfInBounds_toArray, List.set_cons_zero, List.set_cons_succ]
        refine wpAnyH_ready (rs := [6]) (by kernel_rfl) (by simp) ?_
        refine AllReadyH.cons rfl (fun KK hK => ?_) AllReadyH.nil
        go_simp
        refine Calls.mono (uless_calls (EP.V s + EP.V t) S K HBD.out.1 HSA.out.1 (by omega) a1 a5 n1 c1 n5 c5 _ J1 I5) ?_
        rintro e wn ⟨_, rfl, ⟨a2, n2, c2, rfl, HN2, hO2⟩, bn⟩
        replace v0 := dcarry_cell bn v0
        replace v1 := dcarry_cell bn v1
        replace k0 := dcarry_cell bn k0
        replace k1 := dcarry_cell bn k1
        replace k2 := dcarry_cell bn k2
        replace l0 := dcarry_cell bn l0
        replace l1 := dcarry_cell bn l1
        replace l2 := dcarry_cell bn l2
        replace I5 := I5.keep bn
        replace I6 := I6.keep bn
        replace bB := nbelow_trans bB bn
        have HSS := And.intro v0 (And.intro v1 (And.intro k0 (And.intro k1 (And.intro k2 (And.intro l0 (And.intro l1 l2))))))
        have J2 := hO2.1
        clear hO2 HN2 bn J1
        refine hK.out _ _ HSS (fun _ => ?_)
        clear hK KK
        try simp only [Act.put, List.setIfInBounds_toArray, List.set_cons_zero, List.set_cons_succ]
        refine wpAnyH_ready (rs := [10]) (by kernel_rfl) (by simp) ?_
        refine AllReadyH.cons rfl (fun KK hK => ?_) AllReadyH.nil
        go_simp
        refine Calls.mono (qint_calls (len : Int) (by omega) _) ?_
        rintro e wn ⟨_, rfl, ⟨a3, n3, c3, rfl, HN3, hO3⟩, bn⟩
        replace v0 := dcarry_cell bn v0
        replace v1 := dcarry_cell bn v1
        replace k0 := dcarry_cell bn k0
        replace k1 := dcarry_cell bn k1
        replace k2 := dcarry_cell bn k2
        replace l0 := dcarry_cell bn l0
        replace l1 := dcarry_cell bn l1
        replace l2 := dcarry_cell bn l2
        replace I5 := I5.keep bn
        replace I6 := I6.keep bn
        replace bB := nbelow_trans bB bn
        have HSS := And.intro v0 (And.intro v1 (And.intro k0 (And.intro k1 (And.intro k2 (And.intro l0 (And.intro l1 l2))))))
        have J3 := hO3.1
        replace J2 := J2.keep bn
        clear hO3 HN3 bn
        refine hK.out _ _ HSS (fun _ => ?_)
        clear hK KK
        try simp only [Act.put, List.setIfInBounds_toArray, List.set_cons_zero, List.set_cons_succ]
        refine wpAnyH_ready (rs := [11]) (by kernel_rfl) (by simp) ?_
        refine AllReadyH.cons rfl (fun KK hK => ?_) AllReadyH.nil
        go_simp
        refine Calls.mono (utimesn_calls (A : Int) len K HSA.out.2 (by omega) (by omega) a6 a3 n6 c6 n3 c3 _ I6 J3) ?_
        rintro e wn ⟨_, rfl, ⟨a4, n4, c4, rfl, HN4, hO4⟩, bn⟩
        replace v0 := dcarry_cell bn v0
        replace v1 := dcarry_cell bn v1
        replace k0 := dcarry_cell bn k0
        replace k1 := dcarry_cell bn k1
        replace k2 := dcarry_cell bn k2
        replace l0 := dcarry_cell bn l0
        replace l1 := dcarry_cell bn l1
        replace l2 := dcarry_cell bn l2
        replace I5 := I5.keep bn
        replace I6 := I6.keep bn
        replace bB := nbelow_trans bB bn
        have HSS := And.intro v0 (And.intro v1 (And.intro k0 (And.intro k1 (And.intro k2 (And.intro l0 (And.intro l1 l2))))))
        have J4 := hO4.1
        replace J2 := J2.keep bn
        clear hO4 HN4 bn J3
        refine hK.out _ _ HSS (fun _ => ?_)
        clear hK KK
        try simp only [Act.put, List.setIfInBounds_toArray, List.set_cons_zero, List.set_cons_succ]
        refine wpAnyH_ready (rs := [12]) (by kernel_rfl) (by simp) ?_
        refine AllReadyH.cons rfl (fun KK hK => ?_) AllReadyH.nil
        go_simp
        refine Calls.mono (within_calls (EP.V s + EP.V t - S) ((A : Int) * (len : Int)) 101 K (-101) (by decide) (by decide) HBD.out.2.1 HBD.out.2.2.2.1 (by omega) a2 a4 n2 c2 n4 c4 _ J2 J4 HBD.out.2.2.1) ?_
        rintro e wn ⟨rfl, bn⟩
        replace v0 := dcarry_cell bn v0
        replace v1 := dcarry_cell bn v1
        replace k0 := dcarry_cell bn k0
        replace k1 := dcarry_cell bn k1
        replace k2 := dcarry_cell bn k2
        replace l0 := dcarry_cell bn l0
        replace l1 := dcarry_cell bn l1
        replace l2 := dcarry_cell bn l2
        replace I5 := I5.keep bn
        replace I6 := I6.keep bn
        replace bB := nbelow_trans bB bn
        have HSS := And.intro v0 (And.intro v1 (And.intro k0 (And.intro k1 (And.intro k2 (And.intro l0 (And.intro l1 l2))))))
        clear bn J2 J4
        refine hK.out _ _ HSS (fun _ => ?_)
        clear hK KK
        try simp only [Act.put, List.setIfInBounds_toArray, List.set_cons_zero, List.set_cons_succ]
        refine wpAnyH_ready (rs := [13]) (by kernel_rfl) (by simp) ?_
        refine AllReadyH.cons rfl (fun KK hK => ?_) AllReadyH.nil
        go_simp
        refine hK.out _ _ HSS (fun _ => ?_)
        clear hK KK
        try simp only [Act.put, List.setIfInBounds_toArray, List.set_cons_zero, List.set_cons_succ]
        refine wpAnyH_ready (rs := [14]) (by kernel_rfl) (by simp) ?_
        refine AllReadyH.cons rfl (fun KK hK => ?_) AllReadyH.nil
        go_simp
        refine hK.out _ _ HSS (fun _ => ?_)
        clear hK KK
        try simp only [Act.put, List.setIfInBounds_toArray, List.set_cons_zero, List.set_cons_succ]
        refine wpAnyH_done (by kernel_rfl) ?_ _
        go_wp2_with fail
        go_ret
        exact ⟨rfl, bB⟩
end Go.Proofs.Ytlbaphijmonjoaa

/- The walks of package nat, sixth part: sums and differences, word by word. -/
import Derived.Test.YtfmjgagajlhfoaaDoorNProg5
namespace Go.Proofs.YtfmjgagajlhfoaaDoor
open Go.RowKit

theorem add_set (xs ys M : List Int) (k x y c s c' : Nat) (hk : k < M.length) (hz : M.getD k 0 = 0) (hx : xs.getD k 0 = (x : Int)) (hy : ys.getD k 0 = (y : Int))
    (hv : val M + 18446744073709551616 ^ k * c = low xs k + low ys k) (hw : s + 18446744073709551616 * c' = x + y + c) :
    val (M.set k (s : Int)) + 18446744073709551616 ^ (k + 1) * c' = low xs (k + 1) + low ys (k + 1) := by
  have e0 := val_set M k (s : Int) hk
  rw [hz] at e0
  have e1 : low xs (k + 1) = low xs k + 18446744073709551616 ^ k * x := by show low xs k + _ * (xs.getD k 0).toNat = _; rw [hx, Int.toNat_natCast]
  have e2 : low ys (k + 1) = low ys k + 18446744073709551616 ^ k * y := by show low ys k + _ * (ys.getD k 0).toNat = _; rw [hy, Int.toNat_natCast]
  have e4 := congrArg (18446744073709551616 ^ k * ·) hw
  simp only [Nat.mul_add] at e4
  rw [Int.toNat_natCast] at e0
  rw [e1, e2, Nat.pow_succ, Nat.mul_assoc]
  simp at e0
  omega
theorem sub_set (xs ys M : List Int) (k x y c s c' : Nat) (hk : k < M.length) (hz : M.getD k 0 = 0) (hx : xs.getD k 0 = (x : Int)) (hy : ys.getD k 0 = (y : Int))
    (hv : val M + low ys k = low xs k + 18446744073709551616 ^ k * c) (hw : s + y + c = x + 18446744073709551616 * c') :
    val (M.set k (s : Int)) + low ys (k + 1) = low xs (k + 1) + 18446744073709551616 ^ (k + 1) * c' := by
  have e0 := val_set M k (s : Int) hk
  rw [hz] at e0
  have e1 : low xs (k + 1) = low xs k + 18446744073709551616 ^ k * x := by show low xs k + _ * (xs.getD k 0).toNat = _; rw [hx, Int.toNat_natCast]
  have e2 : low ys (k + 1) = low ys k + 18446744073709551616 ^ k * y := by show low ys k + _ * (ys.getD k 0).toNat = _; rw [hy, Int.toNat_natCast]
  have e4 := congrArg (18446744073709551616 ^ k * ·) hw
  simp only [Nat.mul_add] at e4
  rw [Int.toNat_natCast] at e0
  rw [e1, e2, Nat.pow_succ, Nat.mul_assoc]
  simp at e0
  omega
theorem word_nat (xs : List Int) (h : AllU xs) (k : Nat) : ∃ x : Nat, xs.getD k 0 = (x : Int) ∧ x < 18446744073709551616 := by
  have := h.get k
  exact ⟨(xs.getD k 0).toNat, by omega, by omega⟩
theorem set_past (M : List Int) (k : Nat) (v : Int) (hk : k < M.length) (h : ∀ j, k ≤ j → M.getD j 0 = 0) : ∀ j, k + 1 ≤ j → (M.set k v).getD j 0 = 0 := fun j hj => by
  rw [getD_set M k j v hk, if_neg (by omega)]; exact h j (by omega)

set_option maxRecDepth 100000 in
set_option maxHeartbeats 2000000 in
theorem throughS_calls (w0 w : World) (gc n : Nat) (a b : Option Addr) (la lb : Nat) (xs ys : List Int) (hn : n ≤ 17592186044416) (hb0 : Below w0.heap.size w0 w) (hg0 : w0.heap.size ≤ gc) (hg1 : gc < w.heap.size)
    (hc0 : w.cell? ⟨gc, 0, none⟩ = some (.int .u64 0)) (hf0 : w.frozen? ⟨gc, 0, none⟩ = false) (hA : IsW w0 a la la xs) (hB : IsW w0 b lb lb ys) :
    Calls Tryd.prog 61 #[.int .i64 (n : Int), .func (.func 62) #[.pointer (some ⟨gc, 0, none⟩)] #[], .slice a la la, .slice b lb lb] w fun e w' => ∃ (M : List Int) (c : Nat), e = .returned (.slice (some ⟨w.heap.size, 0, none⟩) n n) ∧ OwnW w.heap.size w' (some ⟨w.heap.size, 0, none⟩) n n M ∧ val M + 18446744073709551616 ^ n * c = low xs n + low ys n ∧ Below w0.heap.size w0 w' := by
  obtain ⟨w1, hmk, hO1, hb1, hz1⟩ := make_words 46 words_T w n hn
  have hc1 : w1.cell? ⟨gc, 0, none⟩ = some (.int .u64 0) := (hb1.cell (p := ⟨gc, 0, none⟩) hg1).trans hc0
  have hf1 : w1.frozen? ⟨gc, 0, none⟩ = false := (hb1.frozen (p := ⟨gc, 0, none⟩) hg1).trans hf0
  have hbs := hb0.size
  have hb01 : Below w0.heap.size w0 w1 := hb0.trans (hb1.mono hbs)
  clear hb1 hc0 hf0 hb0
  go_enter Tryd.func61, Tryd.ntmps61
  go_wp2_with fail
  clear hmk
  go_loopw [14] (fun i wr => ∃ (k : Nat) (M : List Int) (c : Nat), k ≤ n ∧ i = .int .i64 k ∧ c ≤ 1 ∧ (∀ j, k ≤ j → M.getD j 0 = 0) ∧ val M + 18446744073709551616 ^ k * c = low xs k + low ys k ∧ OwnW w.heap.size wr (some ⟨w.heap.size, 0, none⟩) n n M ∧ wr.cell? ⟨gc, 0, none⟩ = some (.int .u64 (c : Int)) ∧ wr.frozen? ⟨gc, 0, none⟩ = false ∧ Below w0.heap.size w0 wr) (fun i _ => n - (intOf i).toNat)
  case atStart => exact ⟨0, zeros n, 0, by omega, rfl, by omega, fun j _ => zeros_get n j, by simp [low, val_zeros], hO1, hc1, hf1, hb01⟩
  case round =>
    obtain ⟨k, M, c, hk, rfl, hc01, hM0, hval, hO, hcc, hfc, hbr⟩ := hrel
    clear hO1 hc1 hf1 hb01
    have HV : Hid (val M + 18446744073709551616 ^ k * c = low xs k + low ys k) := hval
    have HM : Hid (∀ j, k ≤ j → M.getD j 0 = 0) := hM0
    clear hval hM0
    by_cases hlt : k < n
    · have hML : n = M.length := hO.1.1
      have HL : Hid (n = M.length) := hML
      clear hML
      obtain ⟨x, hx, hx1⟩ := word_nat xs hA.2.1 k
      obtain ⟨y, hy, hy1⟩ := word_nat ys hB.2.1 k
      have W1 : Hid _ := at_calls a la la xs k wr (hA.keep hbr)
      have W2 : Hid _ := at_calls b lb lb ys k wr (hB.keep hbr)
      rw [hx] at W1
      rw [hy] at W2
      have HX : Hid (xs.getD k 0 = (x : Int)) := hx
      have HY : Hid (ys.getD k 0 = (y : Int)) := hy
      clear hx hy
      obtain ⟨_, _, e1, _, hcell⟩ := hO.1.2.2.2 k hlt
      simp only [Option.some.injEq, Addr.mk.injEq, and_true] at e1
      obtain ⟨rfl, rfl⟩ := e1
      have hfz := (hO.2 _ _ k rfl hlt).2
      rw [Nat.zero_add] at hcell hfz
      go_wp2_with fail
      refine Calls.mono W1.out ?_
      rintro e wr ⟨rfl, rfl⟩
      go_wp2_with fail
      refine Calls.mono W2.out ?_
      rintro e wr ⟨rfl, rfl⟩
      go_wp2_with fail
      refine Calls.mono (sum_calls gc x y c wr hcc hfc hc01) ?_
      rintro e w2 ⟨rfl, rfl⟩
      obtain ⟨z, hz⟩ : ∃ z : Nat, z = (x + y + c) % 18446744073709551616 := ⟨_, rfl⟩
      obtain ⟨q, hq⟩ : ∃ q : Nat, q = (x + y + c) / 18446744073709551616 := ⟨_, rfl⟩
      rw [← hz, ← hq]
      have hne : gc ≠ w.heap.size := by omega
      have hO2 := hO.other ⟨gc, 0, none⟩ (.int .u64 (q : Int)) (fun b off e => by simp only [Option.some.injEq, Addr.mk.injEq, and_true] at e; rw [← e.1]; exact hne)
      have hcell2 : (wr.setCell ⟨gc, 0, none⟩ (.int .u64 (q : Int))).cell? ⟨w.heap.size, k, none⟩ = some (.int .u64 (M.getD k 0)) := (World.cell?_setCell_other wr _ _ _ (fun e => hne (congrArg Addr.block e))).trans hcell
      have hfz2 : (wr.setCell ⟨gc, 0, none⟩ (.int .u64 (q : Int))).frozen? ⟨w.heap.size, k, none⟩ = false := by rw [World.frozen?_setCell]; exact hfz
      have hcc2 : (wr.setCell ⟨gc, 0, none⟩ (.int .u64 (q : Int))).cell? ⟨gc, 0, none⟩ = some (.int .u64 (q : Int)) := World.cell?_setCell_same wr _ _ hcc
      have hfc2 : (wr.setCell ⟨gc, 0, none⟩ (.int .u64 (q : Int))).frozen? ⟨gc, 0, none⟩ = false := by rw [World.frozen?_setCell]; exact hfc
      have hbr2 : Below w0.heap.size w0 (wr.setCell ⟨gc, 0, none⟩ (.int .u64 (q : Int))) := hbr.setCell hg0 _
      generalize wr.setCell ⟨gc, 0, none⟩ (.int .u64 (q : Int)) = w2 at hO2 hcell2 hfz2 hcc2 hfc2 hbr2 ⊢
      have HZ : Hid (z = (x + y + c) % 18446744073709551616) := hz
      have HQ : Hid (q = (x + y + c) / 18446744073709551616) := hq
      clear hz hq hO hcell hfz hcc hfc hbr W1 W2
      go_wp2_with fail
      refine ⟨?_, by simp [intOf]; omega⟩
      have ez := HZ.out
      have eq := HQ.out
      have hspec : z + 18446744073709551616 * q = x + y + c := by rw [ez, eq]; omega
      have hzb : z < 18446744073709551616 := by rw [ez]; exact Nat.mod_lt _ (by decide)
      have hO3 := hO2.set hlt (v := (z : Int)) (by omega) (by omega)
      rw [Nat.zero_add] at hO3
      refine ⟨k + 1, M.set k (z : Int), q, by omega, by go_num, by rw [eq]; omega, set_past M k _ (by have := HL.out; omega) HM.out, add_set xs ys M k x y c z q (by have := HL.out; omega) (HM.out k (Nat.le_refl _)) HX.out HY.out HV.out hspec, hO3, ?_, ?_, hbr2.setCell (by omega) _⟩
      · exact (World.cell?_setCell_other w2 _ _ _ (fun e => hne (congrArg Addr.block e).symm)).trans hcc2
      · rw [World.frozen?_setCell]; exact hfc2
    · have hkn : k = n := by omega
      subst hkn
      go_wp2_with fail
      go_ret
      exact ⟨M, c, rfl, hO, HV.out, hbr⟩

set_option maxRecDepth 100000 in
set_option maxHeartbeats 2000000 in
theorem throughD_calls (w0 w : World) (gc n : Nat) (a b : Option Addr) (la lb : Nat) (xs ys : List Int) (hn : n ≤ 17592186044416) (hb0 : Below w0.heap.size w0 w) (hg0 : w0.heap.size ≤ gc) (hg1 : gc < w.heap.size)
    (hc0 : w.cell? ⟨gc, 0, none⟩ = some (.int .u64 0)) (hf0 : w.frozen? ⟨gc, 0, none⟩ = false) (hA : IsW w0 a la la xs) (hB : IsW w0 b lb lb ys) :
    Calls Tryd.prog 61 #[.int .i64 (n : Int), .func (.func 83) #[.pointer (some ⟨gc, 0, none⟩)] #[], .slice a la la, .slice b lb lb] w fun e w' => ∃ (M : List Int) (c : Nat), e = .returned (.slice (some ⟨w.heap.size, 0, none⟩) n n) ∧ OwnW w.heap.size w' (some ⟨w.heap.size, 0, none⟩) n n M ∧ val M + low ys n = low xs n + 18446744073709551616 ^ n * c ∧ Below w0.heap.size w0 w' := by
  obtain ⟨w1, hmk, hO1, hb1, hz1⟩ := make_words 46 words_T w n hn
  have hc1 : w1.cell? ⟨gc, 0, none⟩ = some (.int .u64 0) := (hb1.cell (p := ⟨gc, 0, none⟩) hg1).trans hc0
  have hf1 : w1.frozen? ⟨gc, 0, none⟩ = false := (hb1.frozen (p := ⟨gc, 0, none⟩) hg1).trans hf0
  have hbs := hb0.size
  have hb01 : Below w0.heap.size w0 w1 := hb0.trans (hb1.mono hbs)
  clear hb1 hc0 hf0 hb0
  go_enter Tryd.func61, Tryd.ntmps61
  go_wp2_with fail
  clear hmk
  go_loopw [14] (fun i wr => ∃ (k : Nat) (M : List Int) (c : Nat), k ≤ n ∧ i = .int .i64 k ∧ c ≤ 1 ∧ (∀ j, k ≤ j → M.getD j 0 = 0) ∧ val M + low ys k = low xs k + 18446744073709551616 ^ k * c ∧ OwnW w.heap.size wr (some ⟨w.heap.size, 0, none⟩) n n M ∧ wr.cell? ⟨gc, 0, none⟩ = some (.int .u64 (c : Int)) ∧ wr.frozen? ⟨gc, 0, none⟩ = false ∧ Below w0.heap.size w0 wr) (fun i _ => n - (intOf i).toNat)
  case atStart => exact ⟨0, zeros n, 0, by omega, rfl, by omega, fun j _ => zeros_get n j, by simp [low, val_zeros], hO1, hc1, hf1, hb01⟩
  case round =>
    obtain ⟨k, M, c, hk, rfl, hc01, hM0, hval, hO, hcc, hfc, hbr⟩ := hrel
    clear hO1 hc1 hf1 hb01
    have HV : Hid (val M + low ys k = low xs k + 18446744073709551616 ^ k * c) := hval
    have HM : Hid (∀ j, k ≤ j → M.getD j 0 = 0) := hM0
    clear hval hM0
    by_cases hlt : k < n
    · have hML : n = M.length := hO.1.1
      have HL : Hid (n = M.length) := hML
      clear hML
      obtain ⟨x, hx, hx1⟩ := word_nat xs hA.2.1 k
      obtain ⟨y, hy, hy1⟩ := word_nat ys hB.2.1 k
      have W1 : Hid _ := at_calls a la la xs k wr (hA.keep hbr)
      have W2 : Hid _ := at_calls b lb lb ys k wr (hB.keep hbr)
      rw [hx] at W1
      rw [hy] at W2
      have HX : Hid (xs.getD k 0 = (x : Int)) := hx
      have HY : Hid (ys.getD k 0 = (y : Int)) := hy
      clear hx hy
      obtain ⟨_, _, e1, _, hcell⟩ := hO.1.2.2.2 k hlt
      simp only [Option.some.injEq, Addr.mk.injEq, and_true] at e1
      obtain ⟨rfl, rfl⟩ := e1
      have hfz := (hO.2 _ _ k rfl hlt).2
      rw [Nat.zero_add] at hcell hfz
      go_wp2_with fail
      refine Calls.mono W1.out ?_
      rintro e wr ⟨rfl, rfl⟩
      go_wp2_with fail
      refine Calls.mono W2.out ?_
      rintro e wr ⟨rfl, rfl⟩
      go_wp2_with fail
      refine Calls.mono (difference_calls gc x y c wr hcc hfc hc01) ?_
      rintro e w2 ⟨rfl, rfl⟩
      obtain ⟨z, hz⟩ : ∃ z : Nat, z = dif x y c := ⟨_, rfl⟩
      obtain ⟨q, hq⟩ : ∃ q : Nat, q = bor x y c := ⟨_, rfl⟩
      rw [← hz, ← hq]
      have hne : gc ≠ w.heap.size := by omega
      have hO2 := hO.other ⟨gc, 0, none⟩ (.int .u64 (q : Int)) (fun b off e => by simp only [Option.some.injEq, Addr.mk.injEq, and_true] at e; rw [← e.1]; exact hne)
      have hcell2 : (wr.setCell ⟨gc, 0, none⟩ (.int .u64 (q : Int))).cell? ⟨w.heap.size, k, none⟩ = some (.int .u64 (M.getD k 0)) := (World.cell?_setCell_other wr _ _ _ (fun e => hne (congrArg Addr.block e))).trans hcell
      have hfz2 : (wr.setCell ⟨gc, 0, none⟩ (.int .u64 (q : Int))).frozen? ⟨w.heap.size, k, none⟩ = false := by rw [World.frozen?_setCell]; exact hfz
      have hcc2 : (wr.setCell ⟨gc, 0, none⟩ (.int .u64 (q : Int))).cell? ⟨gc, 0, none⟩ = some (.int .u64 (q : Int)) := World.cell?_setCell_same wr _ _ hcc
      have hfc2 : (wr.setCell ⟨gc, 0, none⟩ (.int .u64 (q : Int))).frozen? ⟨gc, 0, none⟩ = false := by rw [World.frozen?_setCell]; exact hfc
      have hbr2 : Below w0.heap.size w0 (wr.setCell ⟨gc, 0, none⟩ (.int .u64 (q : Int))) := hbr.setCell hg0 _
      generalize wr.setCell ⟨gc, 0, none⟩ (.int .u64 (q : Int)) = w2 at hO2 hcell2 hfz2 hcc2 hfc2 hbr2 ⊢
      have HZ : Hid (z = dif x y c) := hz
      have HQ : Hid (q = bor x y c) := hq
      clear hz hq hO hcell hfz hcc hfc hbr W1 W2
      go_wp2_with fail
      refine ⟨?_, by simp [intOf]; omega⟩
      have ez := HZ.out
      have eq := HQ.out
      have hspec : z + y + c = x + 18446744073709551616 * q := by rw [ez, eq]; exact dif_spec x y c hx1 hy1 hc01
      have hzb : z < 18446744073709551616 := by rw [ez]; exact dif_lt _ _ _
      have hO3 := hO2.set hlt (v := (z : Int)) (by omega) (by omega)
      rw [Nat.zero_add] at hO3
      refine ⟨k + 1, M.set k (z : Int), q, by omega, by go_num, by rw [eq]; exact bor_le _ _ _, set_past M k _ (by have := HL.out; omega) HM.out, sub_set xs ys M k x y c z q (by have := HL.out; omega) (HM.out k (Nat.le_refl _)) HX.out HY.out HV.out hspec, hO3, ?_, ?_, hbr2.setCell (by omega) _⟩
      · exact (World.cell?_setCell_other w2 _ _ _ (fun e => hne (congrArg Addr.block e).symm)).trans hcc2
      · rw [World.frozen?_setCell]; exact hfc2
    · have hkn : k = n := by omega
      subst hkn
      go_wp2_with fail
      go_ret
      exact ⟨M, c, rfl, hO, HV.out, hbr⟩
end Go.Proofs.YtfmjgagajlhfoaaDoor

/- Package special, as its statements ask: the first question; each function is found by its name. -/
import Derived.Test.YtkkccnpmcbpdnaaGreatDoorSPF
import Derived.Test.YtkkccnpmcbpdnaaGreatDoorSPNm
namespace Go.Proofs.YtkkccnpmcbpdnaaGreatDoor
open Go.RowKit

/-- what the listed variables hold -/
def TabS (w : World) : Prop := Tab w ∧ Meas w ∧ NamesS w
theorem TabS.kept {w w' : World} (h : TabS w) (b : Below w.heap.size w w') : TabS w' := ⟨h.1.kept b, h.2.1.kept b, h.2.2.kept b⟩
theorem sp_any (f x y : Int) (w : World) (hf : 0 ≤ f) (h : U x) (k : U y) (hT : TabS w) :
    Calls Tryz.prog 4 #[.int .u8 f, .int .u64 x, .int .u64 y] w fun r w' => r = .returned (.tuple #[.agg #[.int .u64 (spV f x y).1, .int .u8 (spV f x y).2.1], .int .u8 (spV f x y).2.2, .int .i64 (spE f)]) ∧ Below w.heap.size w w' :=
  special_calls f x y w hf h k hT.1 hT.2.1

set_option maxRecDepth 100000 in
set_option maxHeartbeats 4000000 in
theorem spBegins_calls (w : World) (hT : TabS w) : Calls Tryz.prog 8 #[] w fun r w' => r = .returned (.bool true) ∧ Below w.heap.size w w' := by
  have e1 : spV 7 0 5 = (18442240474082181120, 2, 3) := by decide +kernel
  have e2 : spV 16 13835058055282163712 0 = (9223372036854775808, 0, 4) := by decide +kernel
  have e3 : spV 1 4607182418800017408 0 = (0, 0, 0) := by decide +kernel
  have e4 : findV ⟨#[104, 121, 112, 111, 116]⟩ = (36, true) := by decide +kernel
  have S1 : Hid _ := fun W (b : Below w.heap.size w W) => sp_any 7 0 5 W (by decide) ⟨by decide, by decide⟩ ⟨by decide, by decide⟩ (hT.kept b)
  have S2 : Hid _ := fun W (b : Below w.heap.size w W) => sp_any 16 13835058055282163712 0 W (by decide) ⟨by decide, by decide⟩ ⟨by decide, by decide⟩ (hT.kept b)
  have S3 : Hid _ := fun W (b : Below w.heap.size w W) => sp_any 1 4607182418800017408 0 W (by decide) ⟨by decide, by decide⟩ ⟨by decide, by decide⟩ (hT.kept b)
  have S4 : Hid _ := fun W (b : Below w.heap.size w W) => find_calls ⟨#[104, 121, 112, 111, 116]⟩ W (hT.kept b).2.2
  rw [e1, show spE 7 = 0 from rfl] at S1
  rw [e2, show spE 16 = 0 from rfl] at S2
  rw [e3, show spE 1 = 0 from rfl] at S3
  rw [e4] at S4
  simp only at S1 S2 S3 S4
  clear e1 e2 e3 e4 hT
  go_enter Tryz.func8, Tryz.ntmps8
  go_wp2_with fail
  refine Calls.mono (S1.out _ (Below.refl _ _)) ?_
  rintro r w1 ⟨rfl, b1⟩
  have bb := below_trans b1 (below_alloc w1 (.cells #[.int .u64 18442240474082181120, .int .u8 2] 26))
  have c0 : (w1.alloc (.cells #[.int .u64 18442240474082181120, .int .u8 2] 26)).cell? ⟨w1.heap.size, 0, none⟩ = some (.int .u64 18442240474082181120) := by go_simp
  have c1 : (w1.alloc (.cells #[.int .u64 18442240474082181120, .int .u8 2] 26)).cell? ⟨w1.heap.size, 1, none⟩ = some (.int .u8 2) := by go_simp
  clear b1
  go_wp2_with fail
  refine Calls.mono (S2.out _ bb) ?_
  rintro r w2 ⟨rfl, b2⟩
  have b3 := below_trans b2 (below_alloc w2 (.cells #[.int .u64 9223372036854775808, .int .u8 0] 26))
  replace c0 := pcell b3 c0
  replace c1 := pcell b3 c1
  have d0 : (w2.alloc (.cells #[.int .u64 9223372036854775808, .int .u8 0] 26)).cell? ⟨w2.heap.size, 0, none⟩ = some (.int .u64 9223372036854775808) := by go_simp
  have d1 : (w2.alloc (.cells #[.int .u64 9223372036854775808, .int .u8 0] 26)).cell? ⟨w2.heap.size, 1, none⟩ = some (.int .u8 0) := by go_simp
  replace bb := below_trans bb b3
  clear b2 b3
  go_wp2_with fail
  refine Calls.mono (S3.out _ bb) ?_
  rintro r w3 ⟨rfl, b2⟩
  have b3 := below_trans b2 (below_alloc w3 (.cells #[.int .u64 0, .int .u8 0] 26))
  replace c0 := pcell b3 c0
  replace c1 := pcell b3 c1
  replace d0 := pcell b3 d0
  replace d1 := pcell b3 d1
  replace bb := below_trans bb b3
  clear b2 b3
  go_wp2_with fail
  refine Calls.mono (S4.out _ bb) ?_
  rintro r w4 ⟨rfl, b2⟩
  replace c0 := pcell b2 c0
  replace c1 := pcell b2 c1
  replace d0 := pcell b2 d0
  replace d1 := pcell b2 d1
  replace bb := below_trans bb b2
  clear b2 S1 S2 S3 S4
  go_wp2_with fail
  go_ret
  exact ⟨rfl, bb⟩

theorem eqS_list (s t : ByteArray) : (s.toList == t.toList) = eqS s t := by
  unfold eqS
  rw [ByteArray.toList_eq, ByteArray.toList_eq, Bool.eq_iff_iff]
  simp only [beq_iff_eq, decide_eq_true_eq]
  constructor
  · intro h
    have h6 := Array.toList_inj.1 h
    cases s; cases t; simp_all
  · rintro rfl; rfl
theorem find_self (f : Int) (h0 : 1 ≤ f) (h1 : f ≤ 36) : findV (nameV f) = (f, true) := by
  obtain ⟨n, rfl⟩ := Int.eq_ofNat_of_zero_le (show 0 ≤ f by omega)
  have h := (by decide +kernel : ∀ n : Fin 37, 1 ≤ n.val → findV (nameV (n.val : Int)) = ((n.val : Int), true)) ⟨n, by omega⟩ (by show 1 ≤ n; omega)
  exact h
theorem name_not (f : Int) (h : isF f = false) (h0 : 0 ≤ f) : nameV f = ⟨#[]⟩ := by
  unfold isF at h
  simp only [decide_eq_false_iff_not] at h
  by_cases h1 : f < 37
  · obtain rfl : f = 0 := by omega
    rfl
  · unfold nameV; rw [if_neg h1]
theorem find_not : findV ⟨#[]⟩ = (0, false) := by decide +kernel
theorem name_inj (f g : Int) (hf : isF f = true) (hg : 0 ≤ g) (hne : f ≠ g) : nameV f ≠ nameV g := by
  unfold isF at hf
  simp only [decide_eq_true_eq] at hf
  obtain ⟨n, rfl⟩ := Int.eq_ofNat_of_zero_le (show 0 ≤ f by omega)
  by_cases h1 : g < 37
  · obtain ⟨m, rfl⟩ := Int.eq_ofNat_of_zero_le hg
    have h := (by decide +kernel : ∀ n m : Fin 37, 1 ≤ n.val → n.val ≠ m.val → nmS n.val ≠ nmS m.val) ⟨n, by omega⟩ ⟨m, by omega⟩ (by show 1 ≤ n; omega) (by show n ≠ m; omega)
    unfold nameV
    rw [if_pos (by omega), if_pos h1]
    exact h
  · have h := (by decide +kernel : ∀ n : Fin 37, 1 ≤ n.val → nmS n.val ≠ ⟨#[]⟩) ⟨n, by omega⟩ (by show 1 ≤ n; omega)
    unfold nameV
    rw [if_pos (by omega), if_neg h1]
    exact h
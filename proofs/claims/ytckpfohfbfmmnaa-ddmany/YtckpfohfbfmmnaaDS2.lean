/- slices.Concat of two lists of floats; check. -/
import Derived.Test.YtckpfohfbfmmnaaDS1
namespace Go.Proofs.Ytckpfohfbfmmnaa
open Go.RowKit EP
attribute [local go_sem] ran_store

def catL (xs ys : List Nat) (k : Nat) : List Nat := if k = 0 then [] else if k = 1 then xs else xs ++ ys
def catN (m n k : Nat) : Nat := if k = 0 then 0 else if k = 1 then m else m + n

set_option maxRecDepth 100000 in
set_option maxHeartbeats 4000000 in
theorem concat_calls (b : Nat) (a1 a2 : Option Addr) (n1 n2 c1 c2 : Nat) (xs ys : List Nat) (w : World) (hc0 : w.cell? ⟨b, 0, none⟩ = some (.slice a1 n1 c1)) (hc1 : w.cell? ⟨b, 1, none⟩ = some (.slice a2 n2 c2)) (h1 : IsF w a1 n1 c1 xs) (h2 : IsF w a2 n2 c2 ys) (hm1 : n1 ≤ 2048) (hm2 : n2 ≤ 2048) :
    Calls Try.prog 99 #[.slice (some ⟨b, 0, none⟩) 2 2] w fun e w' => ∃ a cv, e = .returned (.slice a (xs ++ ys).length cv) ∧ OwF w.heap.size w' a cv (xs ++ ys) ∧ Below w.heap.size w w' := by
  have HG : Hid _ := fun (n : Nat) (hn : n ≤ 4096) w => grow0_calls n w hn
  have HL1 : Hid (n1 = xs.length) := h1.1
  have HL2 : Hid (n2 = ys.length) := h2.1
  go_enter Try.func99, Try.ntmps99
  go_wp2_with fail
  go_loop [3, 5, 11] (fun sz _ i => ∃ k : Nat, k ≤ 2 ∧ i = .int .i64 k ∧ sz = .int .i64 (catN n1 n2 k : Nat)) (fun _ _ i => 2 - (intOf i).toNat)
  case atStart => exact ⟨0, by omega, rfl, rfl⟩
  case round =>
    obtain ⟨k, hk, rfl, rfl⟩ := hrel
    rcases (show k = 0 ∨ k = 1 ∨ k = 2 by omega) with rfl | rfl | rfl
    · have e0 : catN n1 n2 0 = 0 := rfl
      rw [e0]
      go_wp2_with fail
      go_round
      case rel => exact ⟨1, by omega, by go_num, by show Value.int _ _ = Value.int _ ((n1 : Nat) : Int); go_num⟩
      case measure => simp [intOf]
    · have e0 : catN n1 n2 1 = n1 := rfl
      rw [e0]
      go_wp2_with fail
      go_round
      case rel => exact ⟨2, by omega, by go_num, by show Value.int _ _ = Value.int _ ((n1 + n2 : Nat) : Int); go_num⟩
      case measure => simp [intOf]
    · have e0 : catN n1 n2 2 = n1 + n2 := rfl
      rw [e0]
      go_wp2_with fail
      refine Calls.mono (HG.out (n1 + n2) (by omega) _) ?_
      rintro e w1 ⟨ag, cg, rfl, hO1, hb1⟩
      go_wp2_with fail
      go_loopw [6, 8, 27] (fun nv _ i wr => ∃ (k : Nat) (ao : Option Addr) (cp : Nat), k ≤ 2 ∧ i = .int .i64 k ∧ nv = .slice ao (catL xs ys k).length cp ∧ OwF w.heap.size wr ao cp (catL xs ys k) ∧ Below w.heap.size w wr) (fun _ _ i _ => 2 - (intOf i).toNat)
      case atStart => exact ⟨0, ag, cg, by omega, rfl, rfl, hO1, hb1⟩
      case round =>
        obtain ⟨k, ao, cp, hk, rfl, rfl, hO, hbr⟩ := hrel
        have m0 := pcarry hbr hc0
        have m1 := pcarry hbr hc1
        have g1 := h1.keep hbr
        have g2 := h2.keep hbr
        have HS : Hid (w.heap.size ≤ wr.heap.size) := hbr.size
        clear hb1 hc0 hc1 h1 h2 hO1
        rcases (show k = 0 ∨ k = 1 ∨ k = 2 by omega) with rfl | rfl | rfl
        · have e0 : catL xs ys 0 = [] := rfl
          rw [e0] at hO ⊢
          go_wp2_with (at_builtin; refine app_isF rfl _ _ rfl w.heap.size ao cp [] rfl hO a1 n1 c1 xs rfl g1 (by simp; omega) HS.out ?_; intro a3 c3 w3 hO3 hb3)
          go_round
          case rel => exact ⟨1, a3, c3, by omega, by go_num, rfl, hO3, hbr.trans hb3⟩
          case measure => simp [intOf]
        · have e0 : catL xs ys 1 = xs := rfl
          rw [e0] at hO ⊢
          go_wp2_with (at_builtin; refine app_isF rfl _ _ rfl w.heap.size ao cp xs rfl hO a2 n2 c2 ys rfl g2 (by rw [← HL1.out]; omega) HS.out ?_; intro a3 c3 w3 hO3 hb3)
          go_round
          case rel => exact ⟨2, a3, c3, by omega, by go_num, by simp [catL], hO3, hbr.trans hb3⟩
          case measure => simp [intOf]
        · have e0 : catL xs ys 2 = xs ++ ys := rfl
          rw [e0] at hO ⊢
          go_wp2_with fail
          go_ret
          exact ⟨ao, cp, rfl, hO, hbr⟩

theorem smallFs_app {xs ys : List Nat} (hx : smallFs xs) (hy : smallFs ys) : smallFs (xs ++ ys) := by
  intro i
  by_cases h : i < xs.length
  · have := hx i
    rw [List.getD_eq_getElem?_getD] at this ⊢
    rw [List.getElem?_append_left h]; exact this
  · have := hy (i - xs.length)
    rw [List.getD_eq_getElem?_getD] at this ⊢
    rw [List.getElem?_append_right (by omega)]; exact this
theorem okFs_app (xs ys : List Nat) : okFs (xs ++ ys) = (okFs xs && okFs ys) := by unfold okFs; rw [List.all_append]
def checkE (xs ys : List Nat) : Int := if 1024 < xs.length then 3 else if okFs xs && okFs ys then 0 else 2

set_option maxRecDepth 100000 in
set_option maxHeartbeats 2000000 in
theorem check_calls (a1 a2 : Option Addr) (n1 n2 c1 c2 : Nat) (xs ys : List Nat) (w : World) (h1 : IsF w a1 n1 c1 xs) (h2 : IsF w a2 n2 c2 ys) (hm1 : n1 ≤ 17592186044416) (hm2 : n2 ≤ 1) (s1 : smallFs xs) (s2 : smallFs ys) :
    Calls Try.prog 70 #[.slice a1 n1 c1, .slice a2 n2 c2] w fun e w' => e = .returned (.int .i64 (checkE xs ys)) ∧ Below w.heap.size w w' := by
  have hcap1 := h1.2.1.1
  by_cases hl : 1024 < n1
  · have HE : Hid (checkE xs ys = 3) := by rw [Hid, checkE, if_pos (by rw [← h1.1]; exact hl)]
    clear h1 h2 s1 s2
    go_enter Try.func70, Try.ntmps70
    go_wp2_with fail
    go_ret
    rw [HE.out]
    exact ⟨rfl, Below.refl _ _⟩
  · have HE : Hid (checkE xs ys = if okFs (xs ++ ys) then 0 else 2) := by rw [Hid, checkE, if_neg (by rw [← h1.1]; exact hl), okFs_app]
    have HC : Hid _ := fun b w' c0 c1' g1 g2 => concat_calls b a1 a2 n1 n2 c1 c2 xs ys w' c0 c1' g1 g2 (by omega) (by omega)
    have hzl : (xs ++ ys).length ≤ 17592186044416 := by rw [List.length_append, ← h1.1, ← h2.1]; omega
    have hzs := smallFs_app s1 s2
    generalize xs ++ ys = zs at *
    have HK : Hid _ := fun a c w' g => contains_calls a zs.length c zs w' g hzs hzl
    clear hzs hzl
    have hcap2 := h2.2.1.1
    go_enter Try.func70, Try.ntmps70
    go_wp2_with fail
    refine Calls.mono (HC.out _ _ (by go_simp) (by go_simp) (h1.keep (by repeat (first | exact Below.refl _ _ | refine Below.alloc ?_ (by simp) _))) (h2.keep (by repeat (first | exact Below.refl _ _ | refine Below.alloc ?_ (by simp) _)))) ?_
    rintro e w1 ⟨a3, c3, rfl, hO, hb1⟩
    have b1 : Below w.heap.size w w1 := Below.trans (by repeat (first | exact Below.refl _ _ | refine Below.alloc ?_ (by simp) _)) (hb1.mono (by simp))
    have hF := hO.isF
    clear hb1 hO
    go_wp2_with fail
    refine Calls.mono (HK.out _ _ _ hF) ?_
    rintro e w2 ⟨rfl, hb2⟩
    have b2 := ebelow_trans b1 hb2
    cases hok : okFs zs with
    | true =>
      go_wp2_with fail
      go_ret
      rw [HE.out, hok]
      exact ⟨rfl, b2⟩
    | false =>
      go_wp2_with fail
      go_ret
      rw [HE.out, hok]
      exact ⟨rfl, b2⟩
end Go.Proofs.Ytckpfohfbfmmnaa

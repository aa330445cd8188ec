/- The walk of ConstsMeet. -/
import Derived.Test.YtkkldnnndlpblaaGreatDoorCMA
import Derived.Test.YtkkldnnndlpblaaGreatDoorIVY
namespace Go.Proofs.YtkkldnnndlpblaaGreatDoor
open Go.RowKit Ck

set_option maxRecDepth 100000 in
set_option maxHeartbeats 2000000 in
theorem sound_calls (x y : DT) (E : Int) (w : World) (hx : inT w x) (hy : inT w y) (h : E = 0 → rtT x y = true) :
    Calls Tryz.prog 22 #[ivT x y, .int .i64 E] w fun r w' => r = .returned (.tuple #[ivT x y, .int .i64 E]) ∧ Below w.heap.size w w' := by
  have bA : Below w.heap.size w ((w.alloc (.cells #[.bool x.1, .slice x.2.1 x.2.2.1 x.2.2.2.1, .int .i64 x.2.2.2.2.2, .bool y.1, .slice y.2.1 y.2.2.1 y.2.2.2.1, .int .i64 y.2.2.2.2.2] 28)).alloc (.cells #[.bool false, .slice none 0 0, .int .i64 0, .bool false, .slice none 0 0, .int .i64 0] 28)) := nbelow_trans (below_one _ _) (below_one _ _)
  obtain ⟨wA, hwA⟩ : ∃ wA, wA = (w.alloc (.cells #[.bool x.1, .slice x.2.1 x.2.2.1 x.2.2.2.1, .int .i64 x.2.2.2.2.2, .bool y.1, .slice y.2.1 y.2.2.1 y.2.2.2.1, .int .i64 y.2.2.2.2.2] 28)).alloc (.cells #[.bool false, .slice none 0 0, .int .i64 0, .bool false, .slice none 0 0, .int .i64 0] 28) := ⟨_, rfl⟩
  have AX : AtI w.heap.size (.bool x.1) (.slice x.2.1 x.2.2.1 x.2.2.2.1) (.int .i64 x.2.2.2.2.2) (.bool y.1) (.slice y.2.1 y.2.2.1 y.2.2.2.1) (.int .i64 y.2.2.2.2.2) wA := by rw [hwA]; refine ⟨?_, ?_, ?_, ?_, ?_, ?_⟩ <;> go_simp
  have ZA : ZI (w.heap.size + 1) wA := by rw [hwA]; refine ⟨⟨?_, ?_, ?_, ?_, ?_, ?_⟩, ?_, ?_, ?_, ?_, ?_, ?_⟩ <;> go_simp
  rw [← hwA] at bA
  have RC : Hid _ := vRight_calls x y wA (hx.keep bA) (hy.keep bA)
  have sA := bA.size
  by_cases hE : E = 0
  · subst hE
    rw [h rfl] at RC
    clear h
    obtain ⟨k0, k1, k2, k3, k4, k5⟩ := id AX
    go_enter Tryz.func22, Tryz.ntmps22
    go_upto_region 1 with fail
    rw [← hwA]
    clear hwA
    go_wp2_with fail
    refine Calls.mono RC.out ?_
    rintro r w1 ⟨rfl, b1⟩
    replace bA := nbelow_trans bA b1
    replace AX := AX.keep b1
    replace ZA := ZA.keep b1
    clear k0 k1 k2 k3 k4 k5
    obtain ⟨k0, k1, k2, k3, k4, k5⟩ := AX
    obtain ⟨⟨z0, z1, z2, z3, z4, z5⟩, f0, f1, f2, f3, f4, f5⟩ := ZA
    go_wp2_with fail
    exact bodyPost_ret (v := .tuple #[ivT x y, .int .i64 0]) (by simp [results, Tryz.results22, go_sem, z0, z1, z2, z3, z4, z5]) rfl ⟨rfl, by repeat (first | (with_reducible exact bA) | (with_reducible refine Below.setCell ?_ (by simp) _))⟩
  · clear RC h
    obtain ⟨k0, k1, k2, k3, k4, k5⟩ := AX
    obtain ⟨⟨z0, z1, z2, z3, z4, z5⟩, f0, f1, f2, f3, f4, f5⟩ := ZA
    go_enter Tryz.func22, Tryz.ntmps22
    go_upto_region 1 with fail
    rw [← hwA]
    clear hwA
    go_wp2_with fail
    exact bodyPost_ret (v := .tuple #[ivT x y, .int .i64 E]) (by simp [results, Tryz.results22, go_sem, z0, z1, z2, z3, z4, z5]) rfl ⟨rfl, by repeat (first | (with_reducible exact bA) | (with_reducible refine Below.setCell ?_ (by simp) _))⟩

/-- enclosures of one constant meet -/
theorem en_meets {k p q : Int} {x y u v : DT} (h : EnT k p x y 0) (h' : EnT k q u v 0) : ((rtT x y && rtT u v) && rtT x v && rtT u y) = true := by
  have r1 := h.right
  have r2 := h'.right
  rcases h with ⟨-, K, P, rfl, rfl, h1, h7, h8, hp, hx, hy⟩ | ⟨h, -⟩
  · rcases h' with ⟨-, K', Q, hk, rfl, -, -, g8, gp, hu, hv⟩ | ⟨h, -⟩
    · obtain rfl : K = K' := by omega
      obtain ⟨b1, b2, -, -, -⟩ := en_bl K (P + 32) h1 h7 (by omega)
      obtain ⟨c1, c2, -, -, -⟩ := en_bl K (Q + 32) h1 h7 (by omega)
      have m1 := e_meet K (P + 32) (Q + 32) (base_ok K h1 h7) (by omega) (by omega)
      have m2 := e_meet K (Q + 32) (P + 32) (base_ok K h1 h7) (by omega) (by omega)
      rw [r1, r2, hx.rt hv (by omega) (by omega) (by omega) (by omega), hu.rt hy (by omega) (by omega) (by omega) (by omega), decide_eq_true m1, decide_eq_true m2]
      rfl
    · cases h
  · cases h

/-- enclosures of unlike ones don't -/
theorem en_apart {k j p q : Int} {x y u v : DT} (h : EnT k p x y 0) (h' : EnT j q u v 0) (hn : k ≠ j) (hp : 40 ≤ p) (hq : 40 ≤ q) : ((rtT x y && rtT u v) && rtT x v && rtT u y) = false := by
  rcases h with ⟨-, K, P, rfl, rfl, h1, h7, h8, hp8, hx, hy⟩ | ⟨h, -⟩
  · rcases h' with ⟨-, J, Q, rfl, rfl, j1, j7, g8, gp, hu, hv⟩ | ⟨h, -⟩
    · obtain ⟨b1, b2, -, -, -⟩ := en_bl K (P + 32) h1 h7 (by omega)
      obtain ⟨c1, c2, -, -, -⟩ := en_bl J (Q + 32) j1 j7 (by omega)
      rw [hx.rt hv (by omega) (by omega) (by omega) (by omega), hu.rt hy (by omega) (by omega) (by omega) (by omega)]
      rcases e_apart K J (P + 32) (Q + 32) h1 h7 j1 j7 (by omega) (by omega) (by omega) (by omega) (by omega) with m | m
      · rw [decide_eq_false (Nat.not_le.2 m), Bool.and_false]
      · rw [decide_eq_false (Nat.not_le.2 m), Bool.and_false, Bool.false_and]
    · cases h
  · cases h

set_option maxRecDepth 100000 in
set_option maxHeartbeats 8000000 in
theorem constsMeet_walk (k j p q : Int) (w : World) (hk : 0 ≤ k ∧ k ≤ 255) (hj : 0 ≤ j ∧ j ≤ 255) (hp : -9223372036854775808 ≤ p ∧ p ≤ 9223372036854775807) (hq : -9223372036854775808 ≤ q ∧ q ≤ 9223372036854775807) (hT : RecT w ∧ TabP w ∧ Tab w) :
    Calls Tryz.prog 5 #[.int .u8 k, .int .u8 j, .int .i64 p, .int .i64 q] w fun r w' => r = .returned (.bool true) ∧ Below w.heap.size w w' := by
  obtain ⟨hT, hP, hB⟩ := hT
  go_enter Tryz.func5, Tryz.ntmps5
  go_wp2_with fail
  have B : Below w.heap.size w w := Below.refl _ _
  refine Calls.mono (constE_calls k p hk.1 hk.2 hp w (hT.kept B) (hB.kept B)) ?_
  rintro r u1 ⟨x1, y1, E1, rfl, N1, ox1, oy1, bN⟩
  replace B := nbelow_trans B bN
  clear bN
  go_wp2_with fail
  refine Calls.mono (sound_calls x1 y1 E1 u1 ox1.inT oy1.inT (fun e => by subst e; exact N1.right)) ?_
  rintro r v1 ⟨rfl, bN⟩
  replace ox1 := ox1.keep bN
  replace oy1 := oy1.keep bN
  replace B := nbelow_trans B bN
  clear bN
  go_wp2_with fail
  have A1 := att_new x1 y1 v1
  have bN := below_one v1 (obT x1 y1)
  replace ox1 := ox1.keep bN
  replace oy1 := oy1.keep bN
  replace B := nbelow_trans B bN
  clear bN
  generalize v1.alloc (obT x1 y1) = w1 at *
  generalize v1.heap.size = b1 at *
  refine Calls.mono (constE_calls k q hk.1 hk.2 hq w1 (hT.kept B) (hB.kept B)) ?_
  rintro r u2 ⟨x2, y2, E2, rfl, N2, ox2, oy2, bN⟩
  replace ox1 := ox1.keep bN
  replace oy1 := oy1.keep bN
  replace A1 := A1.keep bN
  replace B := nbelow_trans B bN
  clear bN
  go_wp2_with fail
  refine Calls.mono (sound_calls x2 y2 E2 u2 ox2.inT oy2.inT (fun e => by subst e; exact N2.right)) ?_
  rintro r v2 ⟨rfl, bN⟩
  replace ox1 := ox1.keep bN
  replace oy1 := oy1.keep bN
  replace A1 := A1.keep bN
  replace ox2 := ox2.keep bN
  replace oy2 := oy2.keep bN
  replace B := nbelow_trans B bN
  clear bN
  go_wp2_with fail
  have A2 := att_new x2 y2 v2
  have bN := below_one v2 (obT x2 y2)
  replace ox1 := ox1.keep bN
  replace oy1 := oy1.keep bN
  replace A1 := A1.keep bN
  replace ox2 := ox2.keep bN
  replace oy2 := oy2.keep bN
  replace B := nbelow_trans B bN
  clear bN
  generalize v2.alloc (obT x2 y2) = w2 at *
  generalize v2.heap.size = b2 at *
  refine Calls.mono (constE_calls j q hj.1 hj.2 hq w2 (hT.kept B) (hB.kept B)) ?_
  rintro r u3 ⟨x3, y3, E3, rfl, N3, ox3, oy3, bN⟩
  replace ox1 := ox1.keep bN
  replace ox2 := ox2.keep bN
  replace oy1 := oy1.keep bN
  replace oy2 := oy2.keep bN
  replace A1 := A1.keep bN
  replace A2 := A2.keep bN
  replace B := nbelow_trans B bN
  clear bN
  go_wp2_with fail
  refine Calls.mono (sound_calls x3 y3 E3 u3 ox3.inT oy3.inT (fun e => by subst e; exact N3.right)) ?_
  rintro r v3 ⟨rfl, bN⟩
  replace ox1 := ox1.keep bN
  replace ox2 := ox2.keep bN
  replace oy1 := oy1.keep bN
  replace oy2 := oy2.keep bN
  replace A1 := A1.keep bN
  replace A2 := A2.keep bN
  replace ox3 := ox3.keep bN
  replace oy3 := oy3.keep bN
  replace B := nbelow_trans B bN
  clear bN
  go_wp2_with fail
  have A3 := att_new x3 y3 v3
  have bN := below_one v3 (obT x3 y3)
  replace ox1 := ox1.keep bN
  replace ox2 := ox2.keep bN
  replace oy1 := oy1.keep bN
  replace oy2 := oy2.keep bN
  replace A1 := A1.keep bN
  replace A2 := A2.keep bN
  replace ox3 := ox3.keep bN
  replace oy3 := oy3.keep bN
  replace B := nbelow_trans B bN
  clear bN
  generalize v3.alloc (obT x3 y3) = w3 at *
  generalize v3.heap.size = b3 at *
  refine Calls.mono (cLives_calls w3 (hT.kept B) (hP.kept B)) ?_
  rintro r w4 ⟨rfl, bN⟩
  replace ox1 := ox1.keep bN
  replace oy1 := oy1.keep bN
  replace A1 := A1.keep bN
  replace ox2 := ox2.keep bN
  replace oy2 := oy2.keep bN
  replace A2 := A2.keep bN
  replace ox3 := ox3.keep bN
  replace oy3 := oy3.keep bN
  replace A3 := A3.keep bN
  replace B := nbelow_trans B bN
  clear bN hT hP hB hk hj hp hq
  by_cases e1 : E1 = 0
  · subst e1
    by_cases e2 : E2 = 0
    · subst e2
      have MC : Hid _ := vMeets_calls x1 y1 x2 y2 w4 ox1.inT oy1.inT ox2.inT oy2.inT
      rw [en_meets N1 N2] at MC
      have HN : Hid (E3 = 0 → k ≠ j → 40 ≤ p → 40 ≤ q → ((rtT x1 y1 && rtT x3 y3) && rtT x1 y3 && rtT x3 y1) = false) := fun e hn h1 h2 => by subst e; exact en_apart N1 N3 hn h1 h2
      have HA : Hid _ := And.intro A1 A3
      clear N1 N2 N3
      obtain ⟨k0, k1, k2, k3, k4, k5⟩ := A1
      obtain ⟨l0, l1, l2, l3, l4, l5⟩ := A2
      clear A3
      go_wp2_with fail
      refine Calls.mono MC.out ?_
      rintro r w5 ⟨rfl, bN⟩
      clear k0 k1 k2 k3 k4 k5 l0 l1 l2 l3 l4 l5 MC
      obtain ⟨A1, A3⟩ := HA.out
      replace A1 := A1.keep bN
      replace A3 := A3.keep bN
      replace B := nbelow_trans B bN
      by_cases c1 : k = j
      · clear HN HA
        go_wp2_with fail
        go_ret
        exact ⟨by simp, B⟩
      by_cases c2 : E3 = 0
      · subst c2
        by_cases c3 : p < 40
        · clear HN HA
          go_wp2_with fail
          go_ret
          exact ⟨by simp, B⟩
        by_cases c4 : q < 40
        · clear HN HA
          go_wp2_with fail
          go_ret
          exact ⟨by simp, B⟩
        have MC : Hid _ := vMeets_calls x1 y1 x3 y3 w5 (ox1.keep bN).inT (oy1.keep bN).inT (ox3.keep bN).inT (oy3.keep bN).inT
        rw [HN.out rfl c1 (by omega) (by omega)] at MC
        obtain ⟨k0, k1, k2, k3, k4, k5⟩ := A1
        obtain ⟨l0, l1, l2, l3, l4, l5⟩ := A3
        clear HN HA
        go_wp2_with fail
        refine Calls.mono MC.out ?_
        rintro r w6 ⟨rfl, bM⟩
        go_wp2_with fail
        go_ret
        exact ⟨by simp, nbelow_trans B bM⟩
      · clear HN HA
        go_wp2_with fail
        go_ret
        exact ⟨by simp, B⟩
    · clear N1 N2 N3 A1 A2 A3
      go_wp2_with fail
      go_ret
      exact ⟨by simp, B⟩
  · clear N1 N2 N3 A1 A2 A3
    go_wp2_with fail
    go_ret
    exact ⟨by simp, B⟩

end Go.Proofs.YtkkldnnndlpblaaGreatDoor

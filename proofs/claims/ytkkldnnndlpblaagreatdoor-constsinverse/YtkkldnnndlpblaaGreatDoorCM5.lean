/- The walk of ConstsInverse. -/
import Derived.Deep.RegionHeld3
import Derived.Test.YtkkldnnndlpblaaGreatDoorCMD
import Derived.Test.YtkkldnnndlpblaaGreatDoorCM2
import Derived.Test.YtkkldnnndlpblaaGreatDoorCKB
namespace Go.Proofs.YtkkldnnndlpblaaGreatDoor
open Go.RowKit Ck

theorem pow_split (W j : Nat) (h : j ≤ W) : (2 : Nat) ^ W = 2 ^ (W - j) * 2 ^ j := by rw [← Nat.pow_add]; congr 1; omega

/-- a product that has 1 in it, cut outward -/
theorem one_in {c k c' k' W A B : Nat} {X Y d : DT} (uX : isU X c (W - k)) (uY : isU Y c' (W - k')) (ud : isU d 1 0) (e1 : k ≤ W) (e2 : k' ≤ W) (e3 : c * 2 ^ k ≤ A) (e4 : B ≤ c' * 2 ^ k') (e5 : blen c ≤ W - k + 17) (e6 : blen c' ≤ W - k' + 17) (hW : W ≤ 20000) (hA : A ≤ 2 ^ W) (hB : 2 ^ W ≤ B) : rtT X Y = true ∧ rgT d = true ∧ cmT X d ≤ 0 ∧ cmT d Y ≤ 0 := by
  have p1 : c ≤ 2 ^ (W - k) := by
    refine Nat.le_of_mul_le_mul_right (c := 2 ^ k) ?_ (Nat.pow_pos (by decide))
    rw [← pow_split W k e1]
    exact Nat.le_trans e3 hA
  have p2 : 2 ^ (W - k') ≤ c' := by
    refine Nat.le_of_mul_le_mul_right (c := 2 ^ k') ?_ (Nat.pow_pos (by decide))
    rw [← pow_split W k' e2]
    exact Nat.le_trans hB e4
  have b1 : blen 1 ≤ 0 + 40 := by rw [blen_le]; decide
  refine ⟨?_, ud.right b1 (by omega), ?_, ?_⟩
  · rw [uX.rt uY (by omega) (by omega) (by omega) (by omega)]
    refine decide_eq_true ?_
    calc c * 2 ^ (W - k') ≤ 2 ^ (W - k) * c' := Nat.mul_le_mul p1 p2
      _ = c' * 2 ^ (W - k) := Nat.mul_comm _ _
  · rw [cmT_uD uX ud, cmD_le, Nat.pow_zero, Nat.mul_one, Nat.one_mul]
    exact p1
  · rw [cmT_uD ud uY, cmD_le, Nat.pow_zero, Nat.mul_one, Nat.one_mul]
    exact p2

/-- a constant and its reciprocal -/
theorem en_one {k p q : Int} {x y u v : DT} (h : EnT k p x y 0) (h' : EnT (invK k) q u v 0) : ∃ (m m' n n' a b : Nat), isU x m a ∧ isU y m' a ∧ isU u n b ∧ isU v n' b ∧ m ≠ 0 ∧ n ≠ 0 ∧ m ≤ m' ∧ n ≤ n' ∧ blen m' ≤ a + 8 ∧ blen n' ≤ b + 8 ∧ a ≤ 9000 ∧ b ≤ 9000 ∧ m * n ≤ 2 ^ (a + b) ∧ 2 ^ (a + b) ≤ m' * n' := by
  rcases h with ⟨-, K, P, rfl, rfl, h1, h7, h8, hp, hx, hy⟩ | ⟨h, -⟩
  · rcases h' with ⟨-, K', Q, hk, rfl, j1, j7, g8, gp, hu, hv⟩ | ⟨h, -⟩
    · obtain ⟨o0, o1, bk⟩ : ov K = 0 ∧ ov K' = K ∧ base K = true := by
        obtain ⟨b1, b2, b3, -⟩ := base_all
        unfold invK at hk
        by_cases c1 : (K : Int) = 1
        · rw [if_pos c1] at hk
          obtain rfl : K = 1 := by omega
          obtain rfl : K' = 5 := by omega
          exact ⟨rfl, rfl, b1⟩
        rw [if_neg c1] at hk
        by_cases c2 : (K : Int) = 2
        · rw [if_pos c2] at hk
          obtain rfl : K = 2 := by omega
          obtain rfl : K' = 6 := by omega
          exact ⟨rfl, rfl, b2⟩
        rw [if_neg c2] at hk
        by_cases c3 : (K : Int) = 3
        · rw [if_pos c3] at hk
          obtain rfl : K = 3 := by omega
          obtain rfl : K' = 7 := by omega
          exact ⟨rfl, rfl, b3⟩
        rw [if_neg c3] at hk
        omega
      obtain ⟨b1, b2, z1, z2, l1⟩ := en_bl K (P + 32) h1 h7 (by omega)
      obtain ⟨c1, c2, y1, y2, l2⟩ := en_bl K' (Q + 32) j1 j7 (by omega)
      obtain ⟨m1, m2⟩ := e_one K K' (P + 32) (Q + 32) o0 o1 (by omega) bk (by omega) (by omega)
      rw [← Nat.pow_add] at m1 m2
      exact ⟨_, _, _, _, _, _, hx, hy, hu, hv, z1, y1, l1, l2, by omega, by omega, by omega, by omega, m1, m2⟩
    · cases h
  · cases h

/-- ln 2 and ln 10 -/
theorem en_logs {p : Int} {x y u v : DT} (h : EnT 2 p x y 0) (h' : EnT 3 p u v 0) : ∃ (m m' n n' a : Nat), isU x m a ∧ isU y m' a ∧ isU u n a ∧ isU v n' a ∧ m ≠ 0 ∧ m ≤ m' ∧ blen m' ≤ a + 8 ∧ blen n ≤ a + 8 ∧ blen n' ≤ a + 8 ∧ a ≤ 9000 ∧ 3 * m < n' ∧ n < 4 * m' := by
  rcases h with ⟨-, K, P, hk, rfl, h1, h7, h8, hp, hx, hy⟩ | ⟨h, -⟩
  · rcases h' with ⟨-, K', Q, hk', hq, j1, j7, g8, gp, hu, hv⟩ | ⟨h, -⟩
    · obtain rfl : K = 2 := by omega
      obtain rfl : K' = 3 := by omega
      obtain rfl : P = Q := by omega
      obtain ⟨b1, b2, z1, z2, l1⟩ := en_bl 2 (P + 32) h1 h7 (by omega)
      obtain ⟨c1, c2, y1, y2, l2⟩ := en_bl 3 (P + 32) j1 j7 (by omega)
      obtain ⟨m1, m2⟩ := e_three (P + 32) (P + 32) (by omega) (by omega) (by omega) (by omega)
      have p0 : 0 < 2 ^ (P + 32) := Nat.pow_pos (by decide)
      exact ⟨_, _, _, _, _, hx, hy, hu, hv, z1, l1, by omega, by omega, by omega, by omega, Nat.lt_of_mul_lt_mul_right m1, Nat.lt_of_mul_lt_mul_right m2⟩
    · cases h
  · cases h

theorem en_same {p : Int} {x y u v : DT} {E E' : Int} (h : EnT 2 p x y E) (h' : EnT 3 p u v E') : (E = 0 ∧ E' = 0) ∨ (E = 2 ∧ E' = 2) := by
  rcases h with ⟨e, K, P, hk, hq, h1, h7, h8, hp, -⟩ | ⟨e, hn, -⟩
  · rcases h' with ⟨e', -⟩ | ⟨e', hn, -⟩
    · exact Or.inl ⟨e, e'⟩
    · exact absurd (show askP 3 p from ⟨by decide, by decide, by omega, by omega⟩) hn
  · rcases h' with ⟨e', K, P, hk, hq, h1, h7, h8, hp, -⟩ | ⟨e', -⟩
    · exact absurd (show askP 2 p from ⟨by decide, by decide, by omega, by omega⟩) hn
    · exact Or.inr ⟨e, e'⟩

/-- three times ln 2, cut outward, lies below ln 10 -/
theorem three_lt {c k a m n' : Nat} {X v : DT} (uX : isU X c (a + 0 - k)) (uv : isU v n' a) (e1 : k ≤ a + 0) (e3 : c * 2 ^ k ≤ m * 3) (h : 3 * m < n') : cmT X v < 0 := by
  rw [cmT_uD uX uv, cmD_lt]
  rw [Nat.add_zero] at *
  refine Nat.lt_of_mul_lt_mul_right (a := 2 ^ k) ?_
  have p0 : 0 < 2 ^ a := Nat.pow_pos (by decide)
  calc c * 2 ^ a * 2 ^ k = c * 2 ^ k * 2 ^ a := Nat.mul_right_comm _ _ _
    _ ≤ m * 3 * 2 ^ a := Nat.mul_le_mul_right _ e3
    _ < n' * 2 ^ a := Nat.mul_lt_mul_of_pos_right (by omega) p0
    _ = n' * 2 ^ (a - k) * 2 ^ k := by rw [Nat.mul_assoc, ← pow_split a k e1]

set_option maxRecDepth 100000 in
set_option maxHeartbeats 8000000 in
theorem constsInverse_walk (k p q : Int) (w : World) (hk : 0 ≤ k ∧ k ≤ 255) (hp : -9223372036854775808 ≤ p ∧ p ≤ 9223372036854775807) (hq : -9223372036854775808 ≤ q ∧ q ≤ 9223372036854775807) (hT : RecT w ∧ TabP w ∧ Tab w) :
    Calls Tryz.prog 6 #[.int .u8 k, .int .i64 p, .int .i64 q] w fun r w' => r = .returned (.bool true) ∧ Below w.heap.size w w' := by
  obtain ⟨hT, hP, hB⟩ := hT
  have HK : Hid (0 ≤ invK k ∧ invK k ≤ 255) := by
    show 0 ≤ invK k ∧ invK k ≤ 255
    unfold invK
    split
    · omega
    · split
      · omega
      · split <;> omega
  go_enter Tryz.func6, Tryz.ntmps6
  go_wp2_with fail
  refine Calls.mono (cLives_calls w hT hP) ?_
  rintro r w0 ⟨rfl, B⟩
  go_wp2_with fail
  refine Calls.mono (constE_calls k p hk.1 hk.2 hp w0 (hT.kept B) (hB.kept B)) ?_
  rintro r u1 ⟨x1, y1, E1, rfl, N1, ox1, oy1, bN⟩
  replace B := nbelow_trans B bN
  clear bN
  go_wp2_with fail
  refine Calls.mono (sound_calls x1 y1 E1 u1 ox1.inT oy1.inT (fun e => by subst e; exact N1.right)) ?_
  rintro r v1 ⟨rfl, bN⟩
  replace ox1 := ox1.keep bN
  replace oy1 := oy1.keep bN
  replace B := nbelow_trans B bN
  clear bN
  go_wp2_with fail
  have A1 := att_new x1 y1 v1
  have bN := below_one v1 (obT x1 y1)
  replace ox1 := ox1.keep bN
  replace oy1 := oy1.keep bN
  replace B := nbelow_trans B bN
  clear bN
  generalize v1.alloc (obT x1 y1) = w1 at *
  generalize v1.heap.size = b1 at *
  refine Calls.mono (inv_calls k _) ?_
  rintro r _ ⟨rfl, rfl⟩
  go_wp2_with fail
  refine Calls.mono (constE_calls (invK k) q HK.out.1 HK.out.2 hq _ (hT.kept B) (hB.kept B)) ?_
  rintro r u2 ⟨x2, y2, E2, rfl, N2, ox2, oy2, bN⟩
  replace ox1 := ox1.keep bN
  replace oy1 := oy1.keep bN
  replace A1 := A1.keep bN
  replace B := nbelow_trans B bN
  clear bN
  go_wp2_with fail
  refine Calls.mono (sound_calls x2 y2 E2 u2 ox2.inT oy2.inT (fun e => by subst e; exact N2.right)) ?_
  rintro r v2 ⟨rfl, bN⟩
  replace ox1 := ox1.keep bN
  replace oy1 := oy1.keep bN
  replace A1 := A1.keep bN
  replace ox2 := ox2.keep bN
  replace oy2 := oy2.keep bN
  replace B := nbelow_trans B bN
  clear bN
  go_upto_region 5 with fail
  have A2 := att_new x2 y2 v2
  have bN := below_one v2 (obT x2 y2)
  replace ox1 := ox1.keep bN
  replace oy1 := oy1.keep bN
  replace A1 := A1.keep bN
  replace ox2 := ox2.keep bN
  replace oy2 := oy2.keep bN
  replace B := nbelow_trans B bN
  clear bN
  generalize v2.alloc (obT x2 y2) = w2 at *
  generalize v2.heap.size = b2 at *
  have REST : Hid (∀ W, Below w.heap.size w W → RecT W ∧ Tab W) := fun W b => ⟨hT.kept b, hB.kept b⟩
  clear hT hP hB
  have C : (E1 = 0 ∧ E2 = 0) ∨ (¬ E1 = 0) ∨ (E1 = 0 ∧ ¬ E2 = 0) := by
    by_cases e1 : E1 = 0
    · by_cases e2 : E2 = 0
      · exact Or.inl ⟨e1, e2⟩
      · exact Or.inr (Or.inr ⟨e1, e2⟩)
    · exact Or.inr (Or.inl e1)
  rcases C with ⟨rfl, rfl⟩ | e1 | ⟨rfl, e2⟩
  case' inl =>
    obtain ⟨m, m', n, n', a, b, ux, uy, uu, uv, m0, n0, l1, l2, h1, h2, ha, hb, g1, g2⟩ := en_one N1 N2
    have TC : Hid _ := docTimes_calls ux uy uu uv m0 n0 l1 l2 h1 h2 ha hb w2 ox1.inT oy1.inT ox2.inT oy2.inT
    have HG : Hid (m * n ≤ 2 ^ (a + b) ∧ 2 ^ (a + b) ≤ m' * n' ∧ a + b ≤ 20000) := ⟨g1, g2, by omega⟩
    clear ux uy uu uv m0 n0 l1 l2 h1 h2 ha hb g1 g2 N1 N2 HK hk hq
    generalize a + b = Q at *
    generalize m * n = MM at *
    generalize m' * n' = NN at *
    obtain ⟨k0, k1, k2, k3, k4, k5⟩ := A1
    obtain ⟨j0, j1, j2, j3, j4, j5⟩ := A2
    go_wp2_with fail
    refine Calls.mono TC.out ?_
    rintro r u3 ⟨x3, y3, c, k', c', k'', rfl, uX, uY, d1, d2, d3, d4, d5, d6, d7, ox3, oy3, bN⟩
    replace B := nbelow_trans B bN
    have HO : Hid (∀ d, isU d 1 0 → rtT x3 y3 = true ∧ rgT d = true ∧ cmT x3 d ≤ 0 ∧ cmT d y3 ≤ 0) := fun d ud => one_in uX uY ud d1 d2 d3 d4 d5 d6 HG.out.2.2 HG.out.1 HG.out.2.1
    clear k0 k1 k2 k3 k4 k5 j0 j1 j2 j3 j4 j5 d1 d2 d3 d4 d5 d6 d7 TC HG bN uX uY ox1 oy1 ox2 oy2
    go_wp2_with fail
    have A3 := att_new x3 y3 u3
    have bN := below_one u3 (obT x3 y3)
    replace ox3 := ox3.keep bN
    replace oy3 := oy3.keep bN
    replace B := nbelow_trans B bN
    clear bN
    generalize u3.alloc (obT x3 y3) = w3 at *
    generalize u3.heap.size = b3 at *
    obtain ⟨k0, k1, k2, k3, k4, k5⟩ := A3
    have bD : Below w3.heap.size w3 w3.drew := (Below.refl _ _).drew
    go_region_held3 (fun W => W.cell? ⟨b3, 0, none⟩ = some (.bool x3.1) ∧ W.cell? ⟨b3, 1, none⟩ = some (.slice x3.2.1 x3.2.2.1 x3.2.2.2.1) ∧ W.cell? ⟨b3, 2, none⟩ = some (.int .i64 x3.2.2.2.2.2) ∧ W.cell? ⟨b3, 3, none⟩ = some (.bool y3.1) ∧ W.cell? ⟨b3, 4, none⟩ = some (.slice y3.2.1 y3.2.2.1 y3.2.2.2.1) ∧ W.cell? ⟨b3, 5, none⟩ = some (.int .i64 y3.2.2.2.2.2))
      (first | (go_keep; done) | ((refine ⟨?_, ?_, ?_, ?_, ?_, ?_⟩ <;> (refine dcarry_cell bL ?_; go_keep)); done))
      (first
        | (have _q := ga0; go_at_call 25; refine (dHas_calls x3 y3 d1 _ (ox3.keep b5).inT (oy3.keep b5).inT od.inT (HO.out d1 ud).1 (HO.out d1 ud).2.1 (HO.out d1 ud).2.2.1 (HO.out d1 ud).2.2.2).mono ?_; rintro r w6 ⟨rfl, bL⟩; have b6 := nbelow_trans b5 bL)
        | (go_at_call 26; refine (dInt_calls 1 1 rfl (by decide) _).mono ?_; rintro r w5 ⟨d1, rfl, ud, od, bL⟩; have b5 := nbelow_trans bD bL; have ga0 := True.intro))
    replace B := nbelow_trans B b6
    clear b5 b6 bD k0 k1 k2 k3 k4 k5 HO
    go_wp2_with fail
  case' inr.inl =>
    clear N1 N2 A1 A2 ox1 oy1 ox2 oy2 HK hk hq
    go_wp2_with fail
  case' inr.inr =>
    clear N1 N2 A1 A2 ox1 oy1 ox2 oy2 HK hk hq
    go_wp2_with fail
  all_goals
    refine Calls.mono (constE_calls 2 p (by decide) (by decide) hp _ (REST.out _ B).1 (REST.out _ B).2) ?_
    rintro r u4 ⟨x4, y4, E4, rfl, N4, ox4, oy4, bN⟩
    replace B := nbelow_trans B bN
    clear bN
    go_wp2_with fail
    refine Calls.mono (sound_calls x4 y4 E4 u4 ox4.inT oy4.inT (fun e => by subst e; exact N4.right)) ?_
    rintro r v4 ⟨rfl, bN⟩
    replace ox4 := ox4.keep bN
    replace oy4 := oy4.keep bN
    replace B := nbelow_trans B bN
    clear bN
    go_wp2_with fail
    have A4 := att_new x4 y4 v4
    have bN := below_one v4 (obT x4 y4)
    replace ox4 := ox4.keep bN
    replace oy4 := oy4.keep bN
    replace B := nbelow_trans B bN
    clear bN
    generalize v4.alloc (obT x4 y4) = w4 at *
    generalize v4.heap.size = b4 at *
    refine Calls.mono (constE_calls 3 p (by decide) (by decide) hp _ (REST.out _ B).1 (REST.out _ B).2) ?_
    rintro r u5 ⟨x5, y5, E5, rfl, N5, ox5, oy5, bN⟩
    replace ox4 := ox4.keep bN
    replace oy4 := oy4.keep bN
    replace A4 := A4.keep bN
    replace B := nbelow_trans B bN
    clear bN
    go_wp2_with fail
    refine Calls.mono (sound_calls x5 y5 E5 u5 ox5.inT oy5.inT (fun e => by subst e; exact N5.right)) ?_
    rintro r v5 ⟨rfl, bN⟩
    replace ox4 := ox4.keep bN
    replace oy4 := oy4.keep bN
    replace A4 := A4.keep bN
    replace ox5 := ox5.keep bN
    replace oy5 := oy5.keep bN
    replace B := nbelow_trans B bN
    clear bN
    go_upto_region 11 with fail
    have A5 := att_new x5 y5 v5
    have bN := below_one v5 (obT x5 y5)
    replace ox4 := ox4.keep bN
    replace oy4 := oy4.keep bN
    replace A4 := A4.keep bN
    replace ox5 := ox5.keep bN
    replace oy5 := oy5.keep bN
    replace B := nbelow_trans B bN
    clear bN
    generalize v5.alloc (obT x5 y5) = w5 at *
    generalize v5.heap.size = b5 at *
    rcases en_same N4 N5 with ⟨rfl, rfl⟩ | ⟨rfl, rfl⟩
    case' inr =>
      clear N4 N5 A4 A5
      go_wp2_with fail
      go_ret
      exact ⟨by simp, B⟩
    obtain ⟨m, m', n, n', a, ux, uy, uu, uv, m0, l1, b1, b2, b3, ha, t1, t2⟩ := en_logs N4 N5
    clear N4 N5 REST hp
    have HA : Hid (AtT b4 x4 y4 w5 ∧ AtT b5 x5 y5 w5) := ⟨A4, A5⟩
    obtain ⟨k0, k1, k2, k3, k4, k5⟩ := A4
    clear A5
    go_upto_region 13 with fail
    go_cut [14] from 75 to 94 (fun va wx => ∃ (b6 : Nat) (X Y : DT), va = .pointer (some ⟨b6, 0, none⟩) ∧ AtT b6 X Y wx ∧ ownT w5.heap.size wx X ∧ Hid (cmT X y5 < 0 ∧ rgT X = true) ∧ Below w5.heap.size w5 wx)
    case first =>
      have A : Below w5.heap.size w5 (World.drew w5) := (Below.refl _ _).drew
      refine wp_region_held (S := fun w' => Below w5.heap.size w5 w') (by kernel_rfl) ?_
      change wpAnyH _ _ _ _ _ _ _ _ (World.drew w5)
      generalize World.drew w5 = wd at A ⊢
      refine wpAnyH_take (i := 0) (v := ivT x4 y4) rfl (by kernel_rfl) (by kernel_rfl) (by kernel_rfl) (fun _ _ _ h => h) (Or.inl ⟨by rfl, ?_⟩) A ?_
      · intro ww hS
        have q0 := dcarry_cell hS k0
        have q1 := dcarry_cell hS k1
        have q2 := dcarry_cell hS k2
        have q3 := dcarry_cell hS k3
        have q4 := dcarry_cell hS k4
        have q5 := dcarry_cell hS k5
        clear hS
        go_simp
        try with_reducible rfl
      try simp only [Act.put, List.setIfInBounds_toArray]
      refine wpAnyH_ready (rs := [1, 4]) (by kernel_rfl) (by simp) ?_
      refine AllReadyH.cons rfl (fun K hK => ?_) (AllReadyH.cons rfl (fun K hK => ?_) AllReadyH.nil)
      · go_simp
        refine Calls.mono (dInt_calls 3 3 rfl (by decide) _) ?_
        rintro r wdx ⟨d3, rfl, ud, od, bN⟩
        refine hK.out _ _ (nbelow_trans A bN) (fun _ => ?_)
        replace A := nbelow_trans A bN
        clear bN hK K
        try simp only [Act.put, List.setIfInBounds_toArray, List.set_cons_zero, List.set_cons_succ]
        refine wpAnyH_ready (rs := [2, 4]) (by kernel_rfl) (by simp) ?_
        refine AllReadyH.cons rfl (fun K hK => ?_) (AllReadyH.cons rfl (fun K hK => ?_) AllReadyH.nil)
        · go_simp
          refine Calls.mono (dPoint_calls ud (by have := (blen_le 3 2).2 (by decide); omega) (by decide) _ od.inT) ?_
          rintro r wdxx ⟨P3, rfl, uP, oP, bN⟩
          refine hK.out _ _ (nbelow_trans A bN) (fun _ => ?_)
          replace A := nbelow_trans A bN
          clear bN hK K
          try simp only [Act.put, List.setIfInBounds_toArray, List.set_cons_zero, List.set_cons_succ]
          refine wpAnyH_ready (rs := [3, 4]) (by kernel_rfl) (by simp) ?_
          refine AllReadyH.cons rfl (fun K hK => ?_) (AllReadyH.cons rfl (fun K hK => ?_) AllReadyH.nil)
          · go_simp
            refine Calls.mono (docTimes_calls ux uy uP uP m0 (by decide) l1 (Nat.le_refl _) b1 (by have := (blen_le 3 2).2 (by decide); omega) ha (by decide) _ (ox4.keep A).inT (oy4.keep A).inT oP.inT oP.inT) ?_
            rintro r wdxxx ⟨X, Y, c, k1', c', k2', rfl, uX, uY, g1, g2, g3, g4, g5, g6, g7, oX, oY, bN⟩
            have hX : Hid (cmT X y5 < 0 ∧ rgT X = true) := ⟨three_lt uX uv g1 g3 t1, uX.right (by omega) (by omega)⟩
            replace oX : ownT w5.heap.size wdxxx X := ⟨oX.1.low A.size, oX.2⟩
            clear uX uY g1 g2 g3 g4 g5 g6 g7 oY
            refine hK.out _ _ (nbelow_trans A bN) (fun _ => ?_)
            replace A := nbelow_trans A bN
            clear bN hK K
            try simp only [Act.put, List.setIfInBounds_toArray, List.set_cons_zero, List.set_cons_succ]
            refine wpAnyH_ready (rs := [4]) (by kernel_rfl) (by simp) ?_
            refine AllReadyH.cons rfl (fun K hK => ?_) AllReadyH.nil
            go_simp
            have hZ := zi_new wdxxx
            have bN := below_one wdxxx (.cells #[.bool false, .slice none 0 0, .int .i64 0, .bool false, .slice none 0 0, .int .i64 0] 28)
            have lb := A.size
            replace oX := oX.keep bN
            refine hK.out _ _ (nbelow_trans A bN) (fun _ => ?_)
            replace A := nbelow_trans A bN
            clear bN hK K
            try simp only [Act.put, List.setIfInBounds_toArray, List.set_cons_zero, List.set_cons_succ]
            generalize wdxxx.alloc (.cells #[.bool false, .slice none 0 0, .int .i64 0, .bool false, .slice none 0 0, .int .i64 0] 28) = wdxxxx at *
            generalize wdxxx.heap.size = b6 at *
            refine wpAnyH_ready (rs := [5]) (by kernel_rfl) (by simp) ?_
            refine AllReadyH.cons rfl (fun K hK => ?_) AllReadyH.nil
            obtain ⟨⟨y0', y1', y2', y3', y4', y5'⟩, g0, g1, g2, g3, g4, g5⟩ := hZ
            go_simp
            have s6 := six_ofI y0' y1' y2' y3' y4' y5' (fun _ q => by cases q) (fun _ q => by cases q) (fun _ q => by cases q) (fun _ q => by cases q) (fun _ q => by cases q) (fun _ q => by cases q)
            replace oX : ownT w5.heap.size _ X := ⟨ownW_sixI oX.1 s6 (.bool X.1) (.slice X.2.1 X.2.2.1 X.2.2.2.1) (.int .i64 X.2.2.2.2.2) (.bool Y.1) (.slice Y.2.1 Y.2.2.1 Y.2.2.2.1) (.int .i64 Y.2.2.2.2.2), oX.2⟩
            have hA6 : AtT b6 X Y _ := six_is y0' y1' y2' y3' y4' y5' (.bool X.1) (.slice X.2.1 X.2.2.1 X.2.2.2.1) (.int .i64 X.2.2.2.2.2) (.bool Y.1) (.slice Y.2.1 Y.2.2.1 Y.2.2.2.1) (.int .i64 Y.2.2.2.2.2)
            replace A := six_below A lb (.bool X.1) (.slice X.2.1 X.2.2.1 X.2.2.2.1) (.int .i64 X.2.2.2.2.2) (.bool Y.1) (.slice Y.2.1 Y.2.2.1 Y.2.2.2.1) (.int .i64 Y.2.2.2.2.2)
            clear s6 y0' y1' y2' y3' y4' y5' g0 g1 g2 g3 g4 g5
            refine hK.out _ _ A (fun _ => ?_)
            clear hK K
            try simp only [Act.put, List.setIfInBounds_toArray, List.set_cons_zero, List.set_cons_succ]
            generalize ((((((wdxxxx.setCell ⟨b6, 0, none⟩ (.bool X.1)).setCell ⟨b6, 1, none⟩ (.slice X.2.1 X.2.2.1 X.2.2.2.1)).setCell ⟨b6, 2, none⟩ (.int .i64 X.2.2.2.2.2)).setCell ⟨b6, 3, none⟩ (.bool Y.1)).setCell ⟨b6, 4, none⟩ (.slice Y.2.1 Y.2.2.1 Y.2.2.2.1)).setCell ⟨b6, 5, none⟩ (.int .i64 Y.2.2.2.2.2)) = wdxxxxx at *
            refine wpAnyH_done (by kernel_rfl) ?_ _
            go_wp2_with fail
            go_meet
            case rel => exact ⟨b6, X, Y, rfl, hA6, oX, hX, A⟩
          · go_simp
            have hZ := zi_new wdxx
            have bN := below_one wdxx (.cells #[.bool false, .slice none 0 0, .int .i64 0, .bool false, .slice none 0 0, .int .i64 0] 28)
            have lb := A.size
            replace oP := oP.keep bN
            refine hK.out _ _ (nbelow_trans A bN) (fun _ => ?_)
            replace A := nbelow_trans A bN
            clear bN hK K
            try simp only [Act.put, List.setIfInBounds_toArray, List.set_cons_zero, List.set_cons_succ]
            generalize wdxx.alloc (.cells #[.bool false, .slice none 0 0, .int .i64 0, .bool false, .slice none 0 0, .int .i64 0] 28) = wdxxx at *
            generalize wdxx.heap.size = b6 at *
            refine wpAnyH_ready (rs := [3]) (by kernel_rfl) (by simp) ?_
            refine AllReadyH.cons rfl (fun K hK => ?_) AllReadyH.nil
            go_simp
            refine Calls.mono (docTimes_calls ux uy uP uP m0 (by decide) l1 (Nat.le_refl _) b1 (by have := (blen_le 3 2).2 (by decide); omega) ha (by decide) _ (ox4.keep A).inT (oy4.keep A).inT oP.inT oP.inT) ?_
            rintro r wdxxxx ⟨X, Y, c, k1', c', k2', rfl, uX, uY, g1, g2, g3, g4, g5, g6, g7, oX, oY, bN⟩
            have hX : Hid (cmT X y5 < 0 ∧ rgT X = true) := ⟨three_lt uX uv g1 g3 t1, uX.right (by omega) (by omega)⟩
            replace oX : ownT w5.heap.size wdxxxx X := ⟨oX.1.low A.size, oX.2⟩
            clear uX uY g1 g2 g3 g4 g5 g6 g7 oY
            replace hZ := hZ.keep bN
            refine hK.out _ _ (nbelow_trans A bN) (fun _ => ?_)
            replace A := nbelow_trans A bN
            clear bN hK K
            try simp only [Act.put, List.setIfInBounds_toArray, List.set_cons_zero, List.set_cons_succ]
            refine wpAnyH_ready (rs := [5]) (by kernel_rfl) (by simp) ?_
            refine AllReadyH.cons rfl (fun K hK => ?_) AllReadyH.nil
            obtain ⟨⟨y0', y1', y2', y3', y4', y5'⟩, g0, g1, g2, g3, g4, g5⟩ := hZ
            go_simp
            have s6 := six_ofI y0' y1' y2' y3' y4' y5' (fun _ q => by cases q) (fun _ q => by cases q) (fun _ q => by cases q) (fun _ q => by cases q) (fun _ q => by cases q) (fun _ q => by cases q)
            replace oX : ownT w5.heap.size _ X := ⟨ownW_sixI oX.1 s6 (.bool X.1) (.slice X.2.1 X.2.2.1 X.2.2.2.1) (.int .i64 X.2.2.2.2.2) (.bool Y.1) (.slice Y.2.1 Y.2.2.1 Y.2.2.2.1) (.int .i64 Y.2.2.2.2.2), oX.2⟩
            have hA6 : AtT b6 X Y _ := six_is y0' y1' y2' y3' y4' y5' (.bool X.1) (.slice X.2.1 X.2.2.1 X.2.2.2.1) (.int .i64 X.2.2.2.2.2) (.bool Y.1) (.slice Y.2.1 Y.2.2.1 Y.2.2.2.1) (.int .i64 Y.2.2.2.2.2)
            replace A := six_below A lb (.bool X.1) (.slice X.2.1 X.2.2.1 X.2.2.2.1) (.int .i64 X.2.2.2.2.2) (.bool Y.1) (.slice Y.2.1 Y.2.2.1 Y.2.2.2.1) (.int .i64 Y.2.2.2.2.2)
            clear s6 y0' y1' y2' y3' y4' y5' g0 g1 g2 g3 g4 g5
            refine hK.out _ _ A (fun _ => ?_)
            clear hK K
            try simp only [Act.put, List.setIfInBounds_toArray, List.set_cons_zero, List.set_cons_succ]
            generalize ((((((wdxxxx.setCell ⟨b6, 0, none⟩ (.bool X.1)).setCell ⟨b6, 1, none⟩ (.slice X.2.1 X.2.2.1 X.2.2.2.1)).setCell ⟨b6, 2, none⟩ (.int .i64 X.2.2.2.2.2)).setCell ⟨b6, 3, none⟩ (.bool Y.1)).setCell ⟨b6, 4, none⟩ (.slice Y.2.1 Y.2.2.1 Y.2.2.2.1)).setCell ⟨b6, 5, none⟩ (.int .i64 Y.2.2.2.2.2)) = wdxxxxx at *
            refine wpAnyH_done (by kernel_rfl) ?_ _
            go_wp2_with fail
            go_meet
            case rel => exact ⟨b6, X, Y, rfl, hA6, oX, hX, A⟩
        · go_simp
          have hZ := zi_new wdx
          have bN := below_one wdx (.cells #[.bool false, .slice none 0 0, .int .i64 0, .bool false, .slice none 0 0, .int .i64 0] 28)
          have lb := A.size
          replace od := od.keep bN
          refine hK.out _ _ (nbelow_trans A bN) (fun _ => ?_)
          replace A := nbelow_trans A bN
          clear bN hK K
          try simp only [Act.put, List.setIfInBounds_toArray, List.set_cons_zero, List.set_cons_succ]
          generalize wdx.alloc (.cells #[.bool false, .slice none 0 0, .int .i64 0, .bool false, .slice none 0 0, .int .i64 0] 28) = wdxx at *
          generalize wdx.heap.size = b6 at *
          refine wpAnyH_ready (rs := [2]) (by kernel_rfl) (by simp) ?_
          refine AllReadyH.cons rfl (fun K hK => ?_) AllReadyH.nil
          go_simp
          refine Calls.mono (dPoint_calls ud (by have := (blen_le 3 2).2 (by decide); omega) (by decide) _ od.inT) ?_
          rintro r wdxxx ⟨P3, rfl, uP, oP, bN⟩
          replace hZ := hZ.keep bN
          refine hK.out _ _ (nbelow_trans A bN) (fun _ => ?_)
          replace A := nbelow_trans A bN
          clear bN hK K
          try simp only [Act.put, List.setIfInBounds_toArray, List.set_cons_zero, List.set_cons_succ]
          refine wpAnyH_ready (rs := [3]) (by kernel_rfl) (by simp) ?_
          refine AllReadyH.cons rfl (fun K hK => ?_) AllReadyH.nil
          go_simp
          refine Calls.mono (docTimes_calls ux uy uP uP m0 (by decide) l1 (Nat.le_refl _) b1 (by have := (blen_le 3 2).2 (by decide); omega) ha (by decide) _ (ox4.keep A).inT (oy4.keep A).inT oP.inT oP.inT) ?_
          rintro r wdxxxx ⟨X, Y, c, k1', c', k2', rfl, uX, uY, g1, g2, g3, g4, g5, g6, g7, oX, oY, bN⟩
          have hX : Hid (cmT X y5 < 0 ∧ rgT X = true) := ⟨three_lt uX uv g1 g3 t1, uX.right (by omega) (by omega)⟩
          replace oX : ownT w5.heap.size wdxxxx X := ⟨oX.1.low A.size, oX.2⟩
          clear uX uY g1 g2 g3 g4 g5 g6 g7 oY
          replace hZ := hZ.keep bN
          refine hK.out _ _ (nbelow_trans A bN) (fun _ => ?_)
          replace A := nbelow_trans A bN
          clear bN hK K
          try simp only [Act.put, List.setIfInBounds_toArray, List.set_cons_zero, List.set_cons_succ]
          refine wpAnyH_ready (rs := [5]) (by kernel_rfl) (by simp) ?_
          refine AllReadyH.cons rfl (fun K hK => ?_) AllReadyH.nil
          obtain ⟨⟨y0', y1', y2', y3', y4', y5'⟩, g0, g1, g2, g3, g4, g5⟩ := hZ
          go_simp
          have s6 := six_ofI y0' y1' y2' y3' y4' y5' (fun _ q => by cases q) (fun _ q => by cases q) (fun _ q => by cases q) (fun _ q => by cases q) (fun _ q => by cases q) (fun _ q => by cases q)
          replace oX : ownT w5.heap.size _ X := ⟨ownW_sixI oX.1 s6 (.bool X.1) (.slice X.2.1 X.2.2.1 X.2.2.2.1) (.int .i64 X.2.2.2.2.2) (.bool Y.1) (.slice Y.2.1 Y.2.2.1 Y.2.2.2.1) (.int .i64 Y.2.2.2.2.2), oX.2⟩
          have hA6 : AtT b6 X Y _ := six_is y0' y1' y2' y3' y4' y5' (.bool X.1) (.slice X.2.1 X.2.2.1 X.2.2.2.1) (.int .i64 X.2.2.2.2.2) (.bool Y.1) (.slice Y.2.1 Y.2.2.1 Y.2.2.2.1) (.int .i64 Y.2.2.2.2.2)
          replace A := six_below A lb (.bool X.1) (.slice X.2.1 X.2.2.1 X.2.2.2.1) (.int .i64 X.2.2.2.2.2) (.bool Y.1) (.slice Y.2.1 Y.2.2.1 Y.2.2.2.1) (.int .i64 Y.2.2.2.2.2)
          clear s6 y0' y1' y2' y3' y4' y5' g0 g1 g2 g3 g4 g5
          refine hK.out _ _ A (fun _ => ?_)
          clear hK K
          try simp only [Act.put, List.setIfInBounds_toArray, List.set_cons_zero, List.set_cons_succ]
          generalize ((((((wdxxxx.setCell ⟨b6, 0, none⟩ (.bool X.1)).setCell ⟨b6, 1, none⟩ (.slice X.2.1 X.2.2.1 X.2.2.2.1)).setCell ⟨b6, 2, none⟩ (.int .i64 X.2.2.2.2.2)).setCell ⟨b6, 3, none⟩ (.bool Y.1)).setCell ⟨b6, 4, none⟩ (.slice Y.2.1 Y.2.2.1 Y.2.2.2.1)).setCell ⟨b6, 5, none⟩ (.int .i64 Y.2.2.2.2.2)) = wdxxxxx at *
          refine wpAnyH_done (by kernel_rfl) ?_ _
          go_wp2_with fail
          go_meet
          case rel => exact ⟨b6, X, Y, rfl, hA6, oX, hX, A⟩
      · go_simp
        have hZ := zi_new wd
        have bN := below_one wd (.cells #[.bool false, .slice none 0 0, .int .i64 0, .bool false, .slice none 0 0, .int .i64 0] 28)
        have lb := A.size
        refine hK.out _ _ (nbelow_trans A bN) (fun _ => ?_)
        replace A := nbelow_trans A bN
        clear bN hK K
        try simp only [Act.put, List.setIfInBounds_toArray, List.set_cons_zero, List.set_cons_succ]
        generalize wd.alloc (.cells #[.bool false, .slice none 0 0, .int .i64 0, .bool false, .slice none 0 0, .int .i64 0] 28) = wdx at *
        generalize wd.heap.size = b6 at *
        refine wpAnyH_ready (rs := [1]) (by kernel_rfl) (by simp) ?_
        refine AllReadyH.cons rfl (fun K hK => ?_) AllReadyH.nil
        go_simp
        refine Calls.mono (dInt_calls 3 3 rfl (by decide) _) ?_
        rintro r wdxx ⟨d3, rfl, ud, od, bN⟩
        replace hZ := hZ.keep bN
        refine hK.out _ _ (nbelow_trans A bN) (fun _ => ?_)
        replace A := nbelow_trans A bN
        clear bN hK K
        try simp only [Act.put, List.setIfInBounds_toArray, List.set_cons_zero, List.set_cons_succ]
        refine wpAnyH_ready (rs := [2]) (by kernel_rfl) (by simp) ?_
        refine AllReadyH.cons rfl (fun K hK => ?_) AllReadyH.nil
        go_simp
        refine Calls.mono (dPoint_calls ud (by have := (blen_le 3 2).2 (by decide); omega) (by decide) _ od.inT) ?_
        rintro r wdxxx ⟨P3, rfl, uP, oP, bN⟩
        replace hZ := hZ.keep bN
        refine hK.out _ _ (nbelow_trans A bN) (fun _ => ?_)
        replace A := nbelow_trans A bN
        clear bN hK K
        try simp only [Act.put, List.setIfInBounds_toArray, List.set_cons_zero, List.set_cons_succ]
        refine wpAnyH_ready (rs := [3]) (by kernel_rfl) (by simp) ?_
        refine AllReadyH.cons rfl (fun K hK => ?_) AllReadyH.nil
        go_simp
        refine Calls.mono (docTimes_calls ux uy uP uP m0 (by decide) l1 (Nat.le_refl _) b1 (by have := (blen_le 3 2).2 (by decide); omega) ha (by decide) _ (ox4.keep A).inT (oy4.keep A).inT oP.inT oP.inT) ?_
        rintro r wdxxxx ⟨X, Y, c, k1', c', k2', rfl, uX, uY, g1, g2, g3, g4, g5, g6, g7, oX, oY, bN⟩
        have hX : Hid (cmT X y5 < 0 ∧ rgT X = true) := ⟨three_lt uX uv g1 g3 t1, uX.right (by omega) (by omega)⟩
        replace oX : ownT w5.heap.size wdxxxx X := ⟨oX.1.low A.size, oX.2⟩
        clear uX uY g1 g2 g3 g4 g5 g6 g7 oY
        replace hZ := hZ.keep bN
        refine hK.out _ _ (nbelow_trans A bN) (fun _ => ?_)
        replace A := nbelow_trans A bN
        clear bN hK K
        try simp only [Act.put, List.setIfInBounds_toArray, List.set_cons_zero, List.set_cons_succ]
        refine wpAnyH_ready (rs := [5]) (by kernel_rfl) (by simp) ?_
        refine AllReadyH.cons rfl (fun K hK => ?_) AllReadyH.nil
        obtain ⟨⟨y0', y1', y2', y3', y4', y5'⟩, g0, g1, g2, g3, g4, g5⟩ := hZ
        go_simp
        have s6 := six_ofI y0' y1' y2' y3' y4' y5' (fun _ q => by cases q) (fun _ q => by cases q) (fun _ q => by cases q) (fun _ q => by cases q) (fun _ q => by cases q) (fun _ q => by cases q)
        replace oX : ownT w5.heap.size _ X := ⟨ownW_sixI oX.1 s6 (.bool X.1) (.slice X.2.1 X.2.2.1 X.2.2.2.1) (.int .i64 X.2.2.2.2.2) (.bool Y.1) (.slice Y.2.1 Y.2.2.1 Y.2.2.2.1) (.int .i64 Y.2.2.2.2.2), oX.2⟩
        have hA6 : AtT b6 X Y _ := six_is y0' y1' y2' y3' y4' y5' (.bool X.1) (.slice X.2.1 X.2.2.1 X.2.2.2.1) (.int .i64 X.2.2.2.2.2) (.bool Y.1) (.slice Y.2.1 Y.2.2.1 Y.2.2.2.1) (.int .i64 Y.2.2.2.2.2)
        replace A := six_below A lb (.bool X.1) (.slice X.2.1 X.2.2.1 X.2.2.2.1) (.int .i64 X.2.2.2.2.2) (.bool Y.1) (.slice Y.2.1 Y.2.2.1 Y.2.2.2.1) (.int .i64 Y.2.2.2.2.2)
        clear s6 y0' y1' y2' y3' y4' y5' g0 g1 g2 g3 g4 g5
        refine hK.out _ _ A (fun _ => ?_)
        clear hK K
        try simp only [Act.put, List.setIfInBounds_toArray, List.set_cons_zero, List.set_cons_succ]
        generalize ((((((wdxxxx.setCell ⟨b6, 0, none⟩ (.bool X.1)).setCell ⟨b6, 1, none⟩ (.slice X.2.1 X.2.2.1 X.2.2.2.1)).setCell ⟨b6, 2, none⟩ (.int .i64 X.2.2.2.2.2)).setCell ⟨b6, 3, none⟩ (.bool Y.1)).setCell ⟨b6, 4, none⟩ (.slice Y.2.1 Y.2.2.1 Y.2.2.2.1)).setCell ⟨b6, 5, none⟩ (.int .i64 Y.2.2.2.2.2)) = wdxxxxx at *
        refine wpAnyH_done (by kernel_rfl) ?_ _
        go_wp2_with fail
        go_meet
        case rel => exact ⟨b6, X, Y, rfl, hA6, oX, hX, A⟩
    case rest =>
      obtain ⟨b6, X, Y, rfl, A6, oX, hX, bN⟩ := hcut
      replace B := nbelow_trans B bN
      clear k0 k1 k2 k3 k4 k5
      obtain ⟨A4, A5⟩ := HA.out
      replace A4 := A4.keep bN
      replace A5 := A5.keep bN
      replace ox4 := ox4.keep bN
      replace oy4 := oy4.keep bN
      replace ox5 := ox5.keep bN
      replace oy5 := oy5.keep bN
      have SC : Hid _ := dScale_calls ux uy (Nat.le_trans (blen_mono l1) (by omega)) (by omega) (by omega) wc ox4.inT oy4.inT
      have ry5 : Hid (rgT y5 = true) := uv.right (by omega) (by omega)
      have rx5 : Hid (rgT x5 = true) := uu.right (by omega) (by omega)
      have H4 : Hid (∀ Z, isU Z (m' * 2 ^ 2) a → cmT x5 Z < 0 ∧ rgT Z = true) := fun Z uZ => ⟨(cmT_lt uu uZ).2 (by omega), uZ.right (by
        have e : m' * 2 ^ 2 < 2 ^ (blen m' + 2) := by
          rw [Nat.pow_add]
          exact Nat.mul_lt_mul_of_pos_right (lt_blen m') (by decide)
        have := (blen_le _ _).2 e
        omega) (by omega)⟩
      clear HA bN ux uy uu uv m0 l1 b1 b2 b3 ha t1 t2
      generalize m * 2 ^ 2 = M2 at *
      generalize m' * 2 ^ 2 = M3 at *
      have HA : Hid (AtT b6 X Y wc ∧ AtT b5 x5 y5 wc) := ⟨A6, A5⟩
      obtain ⟨k0, k1, k2, k3, k4, k5⟩ := A4
      clear A5 A6
      go_wp2_with fail
      refine Calls.mono SC.out ?_
      rintro r w7 ⟨L4, R4, rfl, uL, uR, oL, oR, bN⟩
      clear k0 k1 k2 k3 k4 k5 SC
      obtain ⟨A6, A5⟩ := HA.out
      have bM := below_one w7 (obT L4 R4)
      have A7 := att_new L4 R4 w7
      replace A6 := (A6.keep bN).keep bM
      replace A5 := (A5.keep bN).keep bM
      replace oX := (oX.keep bN).keep bM
      replace ox5 := (ox5.keep bN).keep bM
      replace oy5 := (oy5.keep bN).keep bM
      replace oR := oR.keep bM
      replace B := nbelow_trans (nbelow_trans B bN) bM
      clear bN bM HA
      obtain ⟨c1, c2⟩ := hX.out
      obtain ⟨c3, c4⟩ := H4.out R4 uR
      have OC1 : Hid (∀ W, inT W X → inT W y5 → _) := fun W i j => ordT_calls X y5 W i j c2 ry5.out
      have OC2 : Hid (∀ W, inT W x5 → inT W R4 → _) := fun W i j => ordT_calls x5 R4 W i j rx5.out c4
      clear H4 hX c2 c4 uL uR
      generalize cmT X y5 = o1 at *
      generalize cmT x5 R4 = o2 at *
      go_upto_region 15 with fail
      generalize w7.alloc (obT L4 R4) = w8 at *
      generalize w7.heap.size = b7 at *
      have HA : Hid (AtT b5 x5 y5 w8 ∧ AtT b7 L4 R4 w8) := ⟨A5, A7⟩
      obtain ⟨k0, k1, k2, k3, k4, k5⟩ := A6
      obtain ⟨j0, j1, j2, j3, j4, j5⟩ := A5
      clear A7
      go_wp2_with fail
      refine Calls.mono (OC1.out _ oX.inT oy5.inT) ?_
      rintro r w9 ⟨rfl, bN⟩
      clear k0 k1 k2 k3 k4 k5 j0 j1 j2 j3 j4 j5
      obtain ⟨A5, A7⟩ := HA.out
      obtain ⟨k0, k1, k2, k3, k4, k5⟩ := A5.keep bN
      obtain ⟨j0, j1, j2, j3, j4, j5⟩ := A7.keep bN
      replace ox5 := ox5.keep bN
      replace oR := oR.keep bN
      replace B := nbelow_trans B bN
      clear bN HA A5 A7
      go_wp2_with fail
      refine Calls.mono (OC2.out _ ox5.inT oR.inT) ?_
      rintro r w10 ⟨rfl, bN⟩
      go_wp2_with fail
      go_ret
      exact ⟨by simp, nbelow_trans B bN⟩

end Go.Proofs.YtkkldnnndlpblaaGreatDoor

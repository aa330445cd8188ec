/- ExactMirror: of an odd function the case of the other sign is the other one; cosines are the same. -/
import Derived.Test.YtoefhlapfnjbjaaGreatDoorECI
import Derived.Test.YtoefhlapfnjbjaaGreatDoorTMQ
namespace Go.Proofs.YtoefhlapfnjbjaaGreatDoor
open Go.RowKit

theorem ex_len (f x : Int) : (wordsOf (exV f x).1.2.1).length ≤ 1024 := (great_len _).1 ((great_not _).2 (Nat.le_trans (ex_few f x).1 (by decide)))

set_option maxRecDepth 100000 in
set_option maxHeartbeats 4000000 in
theorem odd_calls23 (f : Int) (w : World) : Calls Tryz.prog 26 #[.int .u8 f] w fun q w' => q = .returned (.bool (oddF f)) ∧ w' = w := by
  by_cases h : oddF f = true
  · rw [h]
    have h2 := of_decide_eq_true h
    clear h
    rcases h2 with rfl | rfl | rfl | rfl | rfl | rfl | rfl | rfl | rfl | rfl | rfl | rfl
    all_goals
      go_enter Tryz.func26, Tryz.ntmps26
      go_wp2_with fail
      go_ret
      exact ⟨rfl, rfl⟩
  · rw [Bool.eq_false_iff.2 h]
    have h2 : ¬ (f = 13 ∨ f = 15 ∨ f = 16 ∨ f = 18 ∨ f = 19 ∨ f = 21 ∨ f = 22 ∨ f = 24 ∨ f = 25 ∨ f = 27 ∨ f = 28 ∨ f = 30) := fun q => h (decide_eq_true q)
    have n13 : f ≠ 13 := fun q => h2 (by simp [q])
    have n15 : f ≠ 15 := fun q => h2 (by simp [q])
    have n16 : f ≠ 16 := fun q => h2 (by simp [q])
    have n18 : f ≠ 18 := fun q => h2 (by simp [q])
    have n19 : f ≠ 19 := fun q => h2 (by simp [q])
    have n21 : f ≠ 21 := fun q => h2 (by simp [q])
    have n22 : f ≠ 22 := fun q => h2 (by simp [q])
    have n24 : f ≠ 24 := fun q => h2 (by simp [q])
    have n25 : f ≠ 25 := fun q => h2 (by simp [q])
    have n27 : f ≠ 27 := fun q => h2 (by simp [q])
    have n28 : f ≠ 28 := fun q => h2 (by simp [q])
    have n30 : f ≠ 30 := fun q => h2 (by simp [q])
    clear h h2
    go_enter Tryz.func26, Tryz.ntmps26
    go_wp2_with fail
    go_ret
    exact ⟨rfl, rfl⟩

theorem neg2 {p : E3} (h : CanD p) : negD (negD p) = p := by
  rw [← form_of_can h, neg_form, neg_form, Bool.not_not]

theorem fm_exp (s : Bool) (m : Nat) (e : Int) (hm : m < 2 ^ 64) (he : -20000 ≤ e ∧ e ≤ 20000) : -30000 ≤ (formD s m e).2.2 ∧ (formD s m e).2.2 ≤ 30000 := by
  unfold formD
  split
  · decide
  · have := Nat.le_trans (tz_le_blen m) ((blen_le m 64).2 hm)
    simp only
    omega
def expB (v : E3 × Bool) : Prop := -30000 ≤ v.1.2.2 ∧ v.1.2.2 ≤ 30000
theorem no_exp : expB no3 := ⟨by decide, by decide⟩
theorem inQ_exp (q : Int) (h : q.natAbs ≤ 100) : -30000 ≤ (inQ q).2.2 ∧ (inQ q).2.2 ≤ 30000 := fm_exp _ _ _ (by omega) (by decide)
theorem int_exp (n : Int) (h : n.natAbs ≤ 100000) : -30000 ≤ (intD n).2.2 ∧ (intD n).2.2 ≤ 30000 := fm_exp _ _ _ (by omega) (by decide)
theorem at_exp (p : E3) : ∀ l : List (Int × Int), (∀ t ∈ l, t.2.natAbs ≤ 100) → expB (cAt l p)
  | [], _ => no_exp
  | (x, q) :: l, h => by
    unfold cAt
    split
    · exact inQ_exp q (h (x, q) (List.mem_cons_self ..))
    · exact at_exp p l fun t ht => h t (List.mem_cons_of_mem _ ht)
theorem pow_exp (o : Nat) (l m : Int) (hl : -16384 ≤ l) (hm : m ≤ 16384) (p : E3) : expB (cPow o l m p) := by
  by_cases h : (cPow o l m p).2 = true
  · obtain ⟨e, _, h1, h2⟩ := pow_in h
    rw [e]; show -30000 ≤ whI p ∧ whI p ≤ 30000; omega
  · rw [pow_not h]; exact no_exp
theorem exp_exp (o : Nat) (l m : Int) (hl : -2000 ≤ l) (hm : m ≤ 2000) (p : E3) : expB (cExp o l m p) := by
  unfold cExp
  split
  · exact no_exp
  · rename_i k
    split
    · exact int_exp _ (by omega)
    · exact no_exp
theorem more_exp (o : Nat) (l m : Int) (hl : -2000 ≤ l) (hm : m ≤ 2000) (p : E3) : expB (cMore (cExp o l m) p) := by
  unfold cMore
  split
  · exact exp_exp o l m hl hm _
  · exact no_exp
theorem room_exp (q : E3) : -32768 ≤ (roomP q).2.2 ∧ (roomP q).2.2 ≤ 32768 := by
  unfold roomP
  split
  · rename_i h
    unfold roomB at h
    rw [Bool.and_eq_true] at h
    exact inB_yes h.2
  · decide
def exp2 (v : E3 × Bool) : Prop := -40000 ≤ v.1.2.2 ∧ v.1.2.2 ≤ 40000
theorem expB.two {v : E3 × Bool} (h : expB v) : exp2 v := by unfold expB at h; unfold exp2; omega
theorem less_exp (c : C3) (p : E3) : exp2 (cLess c p) := by
  unfold cLess
  split
  · have := room_exp (sumD (c p).1 (negD (intD 1)))
    show -40000 ≤ (roomP _).2.2 ∧ (roomP _).2.2 ≤ 40000
    omega
  · exact no_exp.two
theorem hgt_exp (n : Int) : -30000 ≤ (intD (hgt n)).2.2 ∧ (intD (hgt n)).2.2 ≤ 30000 := int_exp _ (hgt_bd n)
theorem sin_exp (p : E3) : expB (cSin p) := by
  unfold cSin
  split
  · exact hgt_exp _
  · exact no_exp
theorem cos_exp (p : E3) : expB (cCos p) := by
  unfold cCos
  split
  · exact hgt_exp _
  · exact no_exp
theorem tan_exp (p : E3) : expB (cTan p) := by
  unfold cTan
  split
  · exact int_exp _ (by decide)
  · split
    · exact int_exp _ (by decide)
    · split
      · exact int_exp _ (by decide)
      · exact no_exp
theorem exp_ite {c : Prop} [Decidable c] {A B : C3} {p : E3} (ha : exp2 (A p)) (hb : exp2 (B p)) : exp2 ((if c then A else B) p) := by split <;> assumption
theorem cas_exp (f : Int) (p : E3) : exp2 (fCas f p) := by
  unfold fCas
  repeat' refine exp_ite ?_ ?_
  all_goals first | (with_reducible exact (at_exp _ _ (by decide)).two) | (with_reducible exact (pow_exp _ _ _ (by decide) (by decide) _).two) | (with_reducible exact less_exp _ _) | (with_reducible exact (exp_exp _ _ _ (by decide) (by decide) _).two) | (with_reducible exact (more_exp _ _ _ (by decide) (by decide) _).two) | (with_reducible exact (sin_exp _).two) | (with_reducible exact (cos_exp _).two) | (with_reducible exact (tan_exp _).two) | exact no_exp.two
theorem ex_exp (f x : Int) : exp2 (exV f x) := by
  unfold exV
  split
  · exact cas_exp _ _
  · exact no_exp.two

theorem rightE (f x : Int) : -4611686018427387904 ≤ (exV f x).1.2.2 ∧ (exV f x).1.2.2 ≤ 4611686018427387904 := by
  have := ex_exp f x
  unfold exp2 at this
  omega

set_option maxRecDepth 100000 in
set_option maxHeartbeats 4000000 in
theorem exactMirror_walk (f x : Int) (w : World) (_hf : 0 ≤ f ∧ f ≤ 255) (hx : U x) (hT : TabE w) :
    Calls Tryz.prog 7 #[.int .u8 f, .int .u64 x] w fun q w' => q = .returned (.bool true) ∧ Below w.heap.size w w' := by
  have bA : Below w.heap.size w w := Below.refl _ _
  have LC : Hid _ := exLives_calls w hT
  have E1 : Hid _ := fun W (b : Below w.heap.size w W) => exact_calls f x W hx (hT.kept b)
  have E2 : Hid _ := fun W (b : Below w.heap.size w W) => exact_calls f (negV x) W (ec_parts x hx).2.2.2.2 (hT.kept b)
  have NC : Hid _ := fun W => neg_calls x W hx
  have OC : Hid _ := fun W => odd_calls23 f W
  have hL2 := ex_len f (negV x)
  have hW2 := (ex_few f (negV x)).2
  have hL1 := ex_len f x
  have hW1 := (ex_few f x).2
  have hE2 := (rightE f (negV x))
  cases ho : oddF f with
  | true =>
    have e1 := (ex_neg f x hx (.inl ho)).1
    have e2 := ex_odd f x hx ho
    rw [ho] at OC
    simp only [e1] at E2
    generalize exE f x = E at *
    generalize exV f (negV x) = V2 at *
    generalize exV f x = V1 at *
    obtain ⟨P1, S1⟩ := V1
    obtain ⟨P2, S2⟩ := V2
    have e3 : P2 = negD P1 := congrArg Prod.fst e2
    have e4 : S2 = S1 := congrArg Prod.snd e2
    simp only at E1 E2 hL2 hW2 hW1 hL1 hE2
    subst e4
    have QN : Hid _ := fun (W : World) (a : Option Addr) (n c : Nat) (h : IsW W a n c (wordsOf P2.2.1)) (hn : n ≤ 1024) => qNeg_calls P2.1 a n c (wordsOf P2.2.1) P2.2.2 W h (by omega) (by omega)
    have hP : formD (!P2.1) P2.2.1 P2.2.2 = P1 := by
      have h1 := neg_form P2.1 P2.2.1 P2.2.2
      rw [form_of_can hW2] at h1
      rw [← h1, e3, neg2 hW1]
    simp only [val_words, hP] at QN
    have HL1 : Hid _ := hL1
    clear e1 e2 e3 hP ho hx hT hL1 hL2 hW1 hW2 hE2 _hf
    go_enter Tryz.func7, Tryz.ntmps7
    go_wp2_with fail
    refine Calls.mono LC.out ?_
    rintro q u1 ⟨rfl, b1⟩
    replace bA := nT bA b1
    clear b1 LC
    go_wp2_with fail
    refine Calls.mono (E1.out _ bA) ?_
    have lb := bA.size
    rintro q u2 ⟨_, rfl, ⟨a1, n1, c1, rfl, HN1, hn1, hO1⟩, b1⟩
    replace hO1 := hO1.low lb
    clear lb
    replace bA := nT bA b1
    clear b1 E1
    have bD := below_one u2 (.cells #[.bool P1.1, .slice a1 n1 c1, .int .i64 P1.2.2] 27)
    replace bA := nT bA bD
    replace hO1 := hO1.keep bD
    have s0 : (u2.alloc (.cells #[.bool P1.1, .slice a1 n1 c1, .int .i64 P1.2.2] 27)).cell? ⟨u2.heap.size, 0, none⟩ = some (.bool P1.1) := by go_simp
    have s1 : (u2.alloc (.cells #[.bool P1.1, .slice a1 n1 c1, .int .i64 P1.2.2] 27)).cell? ⟨u2.heap.size, 1, none⟩ = some (.slice a1 n1 c1) := by go_simp
    have s2 : (u2.alloc (.cells #[.bool P1.1, .slice a1 n1 c1, .int .i64 P1.2.2] 27)).cell? ⟨u2.heap.size, 2, none⟩ = some (.int .i64 P1.2.2) := by go_simp
    clear bD
    go_upto_region 4 with fail
    generalize u2.alloc (.cells #[.bool P1.1, .slice a1 n1 c1, .int .i64 P1.2.2] 27) = u3 at *
    generalize u2.heap.size = B1 at *
    go_wp2_with fail
    refine Calls.mono (NC.out _) ?_
    rintro q u9 ⟨rfl, rfl⟩
    go_wp2_with fail
    refine Calls.mono (E2.out _ bA) ?_
    have lb := bA.size
    rintro q u4 ⟨_, rfl, ⟨a2, n2, c2, rfl, HN2, hn2, hO2⟩, b1⟩
    replace hO2 := hO2.low lb
    clear lb
    replace bA := nT bA b1
    replace hO1 := hO1.keep b1
    replace s0 := kC b1 s0
    replace s1 := kC b1 s1
    replace s2 := kC b1 s2
    clear b1 E2
    have bD := below_one u4 (.cells #[.bool P2.1, .slice a2 n2 c2, .int .i64 P2.2.2] 27)
    replace bA := nT bA bD
    replace hO1 := hO1.keep bD
    replace s0 := kC bD s0
    replace s1 := kC bD s1
    replace s2 := kC bD s2
    replace hO2 := hO2.keep bD
    have t0 : (u4.alloc (.cells #[.bool P2.1, .slice a2 n2 c2, .int .i64 P2.2.2] 27)).cell? ⟨u4.heap.size, 0, none⟩ = some (.bool P2.1) := by go_simp
    have t1 : (u4.alloc (.cells #[.bool P2.1, .slice a2 n2 c2, .int .i64 P2.2.2] 27)).cell? ⟨u4.heap.size, 1, none⟩ = some (.slice a2 n2 c2) := by go_simp
    have t2 : (u4.alloc (.cells #[.bool P2.1, .slice a2 n2 c2, .int .i64 P2.2.2] 27)).cell? ⟨u4.heap.size, 2, none⟩ = some (.int .i64 P2.2.2) := by go_simp
    clear bD
    go_upto_region 5 with fail
    generalize u4.alloc (.cells #[.bool P2.1, .slice a2 n2 c2, .int .i64 P2.2.2] 27) = u5 at *
    generalize u4.heap.size = B2 at *
    go_wp2_with fail
    refine Calls.mono (OC.out _) ?_
    rintro q u8 ⟨rfl, rfl⟩
    clear OC NC
    go_upto_region 6 with fail
    have bw : Below u8.heap.size u8 u8.drew := (Below.refl _ _).drew
    refine wp_region_held (S := fun w' => Below u8.heap.size u8 w') (by kernel_rfl) ?_
    change wpAnyH _ _ _ _ _ _ _ _ (World.drew u8)
    generalize World.drew u8 = wd at bw ⊢
    refine wpAnyH_take (i := 0) (v := .int .i64 E) rfl (by kernel_rfl) (by kernel_rfl) (by kernel_rfl) (fun _ _ _ h => h) (Or.inl ⟨by rfl, ?y0⟩) bw ?r0
    case y0 =>
      intro ww hS
      clear hS
      go_simp
      try first | (with_reducible rfl) | rfl | simp
    try simp only [Act.put, List.setIfInBounds_toArray]
    refine wpAnyH_ready (rs := [1]) (by kernel_rfl) (by simp) ?_
    refine AllReadyH.cons rfl (fun K hK => ?_) AllReadyH.nil
    go_simp
    refine hK.out _ _ bw (fun _ => ?_)
    clear hK K
    try simp only [Act.put, List.setIfInBounds_toArray, List.set_cons_zero, List.set_cons_succ]
    refine wpAnyH_ready (rs := [2]) (by kernel_rfl) (by simp) ?_
    refine AllReadyH.cons rfl (fun K hK => ?_) AllReadyH.nil
    go_simp
    refine hK.out _ _ bw (fun _ => ?_)
    clear hK K
    try simp only [Act.put, List.setIfInBounds_toArray, List.set_cons_zero, List.set_cons_succ]
    refine wpAnyH_ready (rs := [3]) (by kernel_rfl) (by simp) ?_
    refine AllReadyH.cons rfl (fun K hK => ?_) AllReadyH.nil
    go_simp
    refine hK.out _ _ bw (fun _ => ?_)
    clear hK K
    try simp only [Act.put, List.setIfInBounds_toArray, List.set_cons_zero, List.set_cons_succ]
    refine wpAnyH_take (i := 4) (v := .bool S2) rfl (by kernel_rfl) (by kernel_rfl) (by kernel_rfl) (fun _ _ _ h => h) (Or.inl ⟨by rfl, ?y4⟩) bw ?r4
    case y4 =>
      intro ww hS
      clear hS
      go_simp
      try first | (with_reducible rfl) | rfl | simp
    try simp only [Act.put, List.setIfInBounds_toArray]
    refine wpAnyH_ready (rs := [5]) (by kernel_rfl) (by simp) ?_
    refine AllReadyH.cons rfl (fun K hK => ?_) AllReadyH.nil
    go_simp
    refine hK.out _ _ bw (fun _ => ?_)
    clear hK K
    try simp only [Act.put, List.setIfInBounds_toArray, List.set_cons_zero, List.set_cons_succ]
    refine wpAnyH_ready (rs := [6]) (by kernel_rfl) (by simp) ?_
    refine AllReadyH.cons rfl (fun K hK => ?_) AllReadyH.nil
    go_simp
    refine hK.out _ _ bw (fun _ => ?_)
    clear hK K
    try simp only [Act.put, List.setIfInBounds_toArray, List.set_cons_zero, List.set_cons_succ]
    refine wpAnyH_ready (rs := [7]) (by kernel_rfl) (by simp) ?_
    refine AllReadyH.cons rfl (fun K hK => ?_) AllReadyH.nil
    go_simp
    refine hK.out _ _ bw (fun _ => ?_)
    clear hK K
    try simp only [Act.put, List.setIfInBounds_toArray, List.set_cons_zero, List.set_cons_succ]
    refine wpAnyH_ready (rs := [8]) (by kernel_rfl) (by simp) ?_
    refine AllReadyH.cons rfl (fun K hK => ?_) AllReadyH.nil
    go_simp
    refine hK.out _ _ bw (fun _ => ?_)
    clear hK K
    try simp only [Act.put, List.setIfInBounds_toArray, List.set_cons_zero, List.set_cons_succ]
    refine wpAnyH_take (i := 9) (v := dyV P1.1 a1 n1 c1 P1.2.2) rfl (by kernel_rfl) (by kernel_rfl) (by kernel_rfl) (fun _ _ _ h => h) (Or.inl ⟨by rfl, ?y9⟩) bw ?r9
    case y9 =>
      intro ww hS
      have q0 := kC hS s0
      have q1 := kC hS s1
      have q2 := kC hS s2
      clear hS
      go_simp
      try first | (with_reducible rfl) | rfl | simp
    try simp only [Act.put, List.setIfInBounds_toArray]
    refine wpAnyH_take (i := 10) (v := dyV P2.1 a2 n2 c2 P2.2.2) rfl (by kernel_rfl) (by kernel_rfl) (by kernel_rfl) (fun _ _ _ h => h) (Or.inl ⟨by rfl, ?y10⟩) bw ?r10
    case y10 =>
      intro ww hS
      have q0 := kC hS t0
      have q1 := kC hS t1
      have q2 := kC hS t2
      clear hS
      go_simp
      try first | (with_reducible rfl) | rfl | simp
    try simp only [Act.put]
    refine wpAnyH_ready (rs := [11]) (by kernel_rfl) (by simp) ?_
    refine AllReadyH.cons rfl (fun K hK => ?_) AllReadyH.nil
    go_simp
    refine Calls.mono (QN.out _ _ _ _ (hO2.keep bw).1 hn2) ?_
    rintro q wn ⟨_, rfl, ⟨a3, n3, c3, rfl, HN3, hO3⟩, bN⟩
    refine hK.out _ _ (nT bw bN) (fun _ => ?_)
    clear hK K
    replace bw := nT bw bN
    clear bN
    try simp only [Act.put, List.setIfInBounds_toArray, List.set_cons_zero, List.set_cons_succ]
    have hn3 : n3 ≤ 17592186044416 := by have := HN3.out; have := HL1.out; omega
    refine wpAnyH_ready (rs := [12]) (by kernel_rfl) (by simp) ?_
    refine AllReadyH.cons rfl (fun K hK => ?_) AllReadyH.nil
    go_simp
    refine Calls.mono (sameE P1 P1 _ _ _ _ _ _ _ (hO1.keep bw).1 (by omega) hO3.1 hn3) ?_
    rintro q wm ⟨rfl, bN⟩
    refine hK.out _ _ (nT bw bN) (fun _ => ?_)
    clear hK K
    replace bw := nT bw bN
    clear bN
    try simp only [Act.put, List.setIfInBounds_toArray, List.set_cons_zero, List.set_cons_succ]
    rw [sameB_self]
    refine wpAnyH_ready (rs := [13]) (by kernel_rfl) (by simp) ?_
    refine AllReadyH.cons rfl (fun K hK => ?_) AllReadyH.nil
    go_simp
    refine hK.out _ _ bw (fun _ => ?_)
    clear hK K
    try simp only [Act.put, List.setIfInBounds_toArray, List.set_cons_zero, List.set_cons_succ]
    refine wpAnyH_ready (rs := [14]) (by kernel_rfl) (by simp) ?_
    refine AllReadyH.cons rfl (fun K hK => ?_) AllReadyH.nil
    go_simp
    refine hK.out _ _ bw (fun _ => ?_)
    clear hK K
    try simp only [Act.put, List.setIfInBounds_toArray, List.set_cons_zero, List.set_cons_succ]
    refine wpAnyH_done (by kernel_rfl) ?_ _
    go_wp2_with fail
    go_ret
    exact ⟨rfl, nT bA bw⟩
  | false =>
    rw [ho] at OC
    cases hv : evenF f with
    | true =>
      have e1 := (ex_neg f x hx (.inr hv)).1
      have e2 := ex_even f x hx hv
      simp only [e1, e2] at E2
      generalize exE f x = E at *
      generalize exV f x = V1 at *
      obtain ⟨P1, S1⟩ := V1
      obtain ⟨P2, hP2⟩ : ∃ P2, P2 = P1 := ⟨_, rfl⟩
      simp only at E1 E2
      have hv2 := of_decide_eq_true hv
      clear e1 e2 hv ho hx hT hL1 hL2 hW1 hW2 hE2
      subst hP2
      rcases hv2 with rfl | rfl | rfl
      ·
        go_enter Tryz.func7, Tryz.ntmps7
        go_wp2_with fail
        refine Calls.mono LC.out ?_
        rintro q u1 ⟨rfl, b1⟩
        replace bA := nT bA b1
        clear b1 LC
        go_wp2_with fail
        refine Calls.mono (E1.out _ bA) ?_
        have lb := bA.size
        rintro q u2 ⟨_, rfl, ⟨a1, n1, c1, rfl, HN1, hn1, hO1⟩, b1⟩
        replace hO1 := hO1.low lb
        clear lb
        replace bA := nT bA b1
        clear b1 E1
        have bD := below_one u2 (.cells #[.bool P2.1, .slice a1 n1 c1, .int .i64 P2.2.2] 27)
        replace bA := nT bA bD
        replace hO1 := hO1.keep bD
        have s0 : (u2.alloc (.cells #[.bool P2.1, .slice a1 n1 c1, .int .i64 P2.2.2] 27)).cell? ⟨u2.heap.size, 0, none⟩ = some (.bool P2.1) := by go_simp
        have s1 : (u2.alloc (.cells #[.bool P2.1, .slice a1 n1 c1, .int .i64 P2.2.2] 27)).cell? ⟨u2.heap.size, 1, none⟩ = some (.slice a1 n1 c1) := by go_simp
        have s2 : (u2.alloc (.cells #[.bool P2.1, .slice a1 n1 c1, .int .i64 P2.2.2] 27)).cell? ⟨u2.heap.size, 2, none⟩ = some (.int .i64 P2.2.2) := by go_simp
        clear bD
        go_upto_region 4 with fail
        generalize u2.alloc (.cells #[.bool P2.1, .slice a1 n1 c1, .int .i64 P2.2.2] 27) = u3 at *
        generalize u2.heap.size = B1 at *
        go_wp2_with fail
        refine Calls.mono (NC.out _) ?_
        rintro q u9 ⟨rfl, rfl⟩
        go_wp2_with fail
        refine Calls.mono (E2.out _ bA) ?_
        have lb := bA.size
        rintro q u4 ⟨_, rfl, ⟨a2, n2, c2, rfl, HN2, hn2, hO2⟩, b1⟩
        replace hO2 := hO2.low lb
        clear lb
        replace bA := nT bA b1
        replace hO1 := hO1.keep b1
        replace s0 := kC b1 s0
        replace s1 := kC b1 s1
        replace s2 := kC b1 s2
        clear b1 E2
        have bD := below_one u4 (.cells #[.bool P2.1, .slice a2 n2 c2, .int .i64 P2.2.2] 27)
        replace bA := nT bA bD
        replace hO1 := hO1.keep bD
        replace s0 := kC bD s0
        replace s1 := kC bD s1
        replace s2 := kC bD s2
        replace hO2 := hO2.keep bD
        have t0 : (u4.alloc (.cells #[.bool P2.1, .slice a2 n2 c2, .int .i64 P2.2.2] 27)).cell? ⟨u4.heap.size, 0, none⟩ = some (.bool P2.1) := by go_simp
        have t1 : (u4.alloc (.cells #[.bool P2.1, .slice a2 n2 c2, .int .i64 P2.2.2] 27)).cell? ⟨u4.heap.size, 1, none⟩ = some (.slice a2 n2 c2) := by go_simp
        have t2 : (u4.alloc (.cells #[.bool P2.1, .slice a2 n2 c2, .int .i64 P2.2.2] 27)).cell? ⟨u4.heap.size, 2, none⟩ = some (.int .i64 P2.2.2) := by go_simp
        clear bD
        go_upto_region 5 with fail
        generalize u4.alloc (.cells #[.bool P2.1, .slice a2 n2 c2, .int .i64 P2.2.2] 27) = u5 at *
        generalize u4.heap.size = B2 at *
        go_wp2_with fail
        refine Calls.mono (OC.out _) ?_
        rintro q u8 ⟨rfl, rfl⟩
        clear OC NC
        go_wp2_with fail
        refine Calls.mono (sameE P2 P2 _ _ _ _ _ _ _ hO1.1 (by omega) hO2.1 (by omega)) ?_
        rintro q u7 ⟨rfl, b1⟩
        replace bA := nT bA b1
        rw [sameB_self]
        go_wp2_with fail
        go_ret
        exact ⟨rfl, bA⟩
      ·
        go_enter Tryz.func7, Tryz.ntmps7
        go_wp2_with fail
        refine Calls.mono LC.out ?_
        rintro q u1 ⟨rfl, b1⟩
        replace bA := nT bA b1
        clear b1 LC
        go_wp2_with fail
        refine Calls.mono (E1.out _ bA) ?_
        have lb := bA.size
        rintro q u2 ⟨_, rfl, ⟨a1, n1, c1, rfl, HN1, hn1, hO1⟩, b1⟩
        replace hO1 := hO1.low lb
        clear lb
        replace bA := nT bA b1
        clear b1 E1
        have bD := below_one u2 (.cells #[.bool P2.1, .slice a1 n1 c1, .int .i64 P2.2.2] 27)
        replace bA := nT bA bD
        replace hO1 := hO1.keep bD
        have s0 : (u2.alloc (.cells #[.bool P2.1, .slice a1 n1 c1, .int .i64 P2.2.2] 27)).cell? ⟨u2.heap.size, 0, none⟩ = some (.bool P2.1) := by go_simp
        have s1 : (u2.alloc (.cells #[.bool P2.1, .slice a1 n1 c1, .int .i64 P2.2.2] 27)).cell? ⟨u2.heap.size, 1, none⟩ = some (.slice a1 n1 c1) := by go_simp
        have s2 : (u2.alloc (.cells #[.bool P2.1, .slice a1 n1 c1, .int .i64 P2.2.2] 27)).cell? ⟨u2.heap.size, 2, none⟩ = some (.int .i64 P2.2.2) := by go_simp
        clear bD
        go_upto_region 4 with fail
        generalize u2.alloc (.cells #[.bool P2.1, .slice a1 n1 c1, .int .i64 P2.2.2] 27) = u3 at *
        generalize u2.heap.size = B1 at *
        go_wp2_with fail
        refine Calls.mono (NC.out _) ?_
        rintro q u9 ⟨rfl, rfl⟩
        go_wp2_with fail
        refine Calls.mono (E2.out _ bA) ?_
        have lb := bA.size
        rintro q u4 ⟨_, rfl, ⟨a2, n2, c2, rfl, HN2, hn2, hO2⟩, b1⟩
        replace hO2 := hO2.low lb
        clear lb
        replace bA := nT bA b1
        replace hO1 := hO1.keep b1
        replace s0 := kC b1 s0
        replace s1 := kC b1 s1
        replace s2 := kC b1 s2
        clear b1 E2
        have bD := below_one u4 (.cells #[.bool P2.1, .slice a2 n2 c2, .int .i64 P2.2.2] 27)
        replace bA := nT bA bD
        replace hO1 := hO1.keep bD
        replace s0 := kC bD s0
        replace s1 := kC bD s1
        replace s2 := kC bD s2
        replace hO2 := hO2.keep bD
        have t0 : (u4.alloc (.cells #[.bool P2.1, .slice a2 n2 c2, .int .i64 P2.2.2] 27)).cell? ⟨u4.heap.size, 0, none⟩ = some (.bool P2.1) := by go_simp
        have t1 : (u4.alloc (.cells #[.bool P2.1, .slice a2 n2 c2, .int .i64 P2.2.2] 27)).cell? ⟨u4.heap.size, 1, none⟩ = some (.slice a2 n2 c2) := by go_simp
        have t2 : (u4.alloc (.cells #[.bool P2.1, .slice a2 n2 c2, .int .i64 P2.2.2] 27)).cell? ⟨u4.heap.size, 2, none⟩ = some (.int .i64 P2.2.2) := by go_simp
        clear bD
        go_upto_region 5 with fail
        generalize u4.alloc (.cells #[.bool P2.1, .slice a2 n2 c2, .int .i64 P2.2.2] 27) = u5 at *
        generalize u4.heap.size = B2 at *
        go_wp2_with fail
        refine Calls.mono (OC.out _) ?_
        rintro q u8 ⟨rfl, rfl⟩
        clear OC NC
        go_wp2_with fail
        refine Calls.mono (sameE P2 P2 _ _ _ _ _ _ _ hO1.1 (by omega) hO2.1 (by omega)) ?_
        rintro q u7 ⟨rfl, b1⟩
        replace bA := nT bA b1
        rw [sameB_self]
        go_wp2_with fail
        go_ret
        exact ⟨rfl, bA⟩
      ·
        go_enter Tryz.func7, Tryz.ntmps7
        go_wp2_with fail
        refine Calls.mono LC.out ?_
        rintro q u1 ⟨rfl, b1⟩
        replace bA := nT bA b1
        clear b1 LC
        go_wp2_with fail
        refine Calls.mono (E1.out _ bA) ?_
        have lb := bA.size
        rintro q u2 ⟨_, rfl, ⟨a1, n1, c1, rfl, HN1, hn1, hO1⟩, b1⟩
        replace hO1 := hO1.low lb
        clear lb
        replace bA := nT bA b1
        clear b1 E1
        have bD := below_one u2 (.cells #[.bool P2.1, .slice a1 n1 c1, .int .i64 P2.2.2] 27)
        replace bA := nT bA bD
        replace hO1 := hO1.keep bD
        have s0 : (u2.alloc (.cells #[.bool P2.1, .slice a1 n1 c1, .int .i64 P2.2.2] 27)).cell? ⟨u2.heap.size, 0, none⟩ = some (.bool P2.1) := by go_simp
        have s1 : (u2.alloc (.cells #[.bool P2.1, .slice a1 n1 c1, .int .i64 P2.2.2] 27)).cell? ⟨u2.heap.size, 1, none⟩ = some (.slice a1 n1 c1) := by go_simp
        have s2 : (u2.alloc (.cells #[.bool P2.1, .slice a1 n1 c1, .int .i64 P2.2.2] 27)).cell? ⟨u2.heap.size, 2, none⟩ = some (.int .i64 P2.2.2) := by go_simp
        clear bD
        go_upto_region 4 with fail
        generalize u2.alloc (.cells #[.bool P2.1, .slice a1 n1 c1, .int .i64 P2.2.2] 27) = u3 at *
        generalize u2.heap.size = B1 at *
        go_wp2_with fail
        refine Calls.mono (NC.out _) ?_
        rintro q u9 ⟨rfl, rfl⟩
        go_wp2_with fail
        refine Calls.mono (E2.out _ bA) ?_
        have lb := bA.size
        rintro q u4 ⟨_, rfl, ⟨a2, n2, c2, rfl, HN2, hn2, hO2⟩, b1⟩
        replace hO2 := hO2.low lb
        clear lb
        replace bA := nT bA b1
        replace hO1 := hO1.keep b1
        replace s0 := kC b1 s0
        replace s1 := kC b1 s1
        replace s2 := kC b1 s2
        clear b1 E2
        have bD := below_one u4 (.cells #[.bool P2.1, .slice a2 n2 c2, .int .i64 P2.2.2] 27)
        replace bA := nT bA bD
        replace hO1 := hO1.keep bD
        replace s0 := kC bD s0
        replace s1 := kC bD s1
        replace s2 := kC bD s2
        replace hO2 := hO2.keep bD
        have t0 : (u4.alloc (.cells #[.bool P2.1, .slice a2 n2 c2, .int .i64 P2.2.2] 27)).cell? ⟨u4.heap.size, 0, none⟩ = some (.bool P2.1) := by go_simp
        have t1 : (u4.alloc (.cells #[.bool P2.1, .slice a2 n2 c2, .int .i64 P2.2.2] 27)).cell? ⟨u4.heap.size, 1, none⟩ = some (.slice a2 n2 c2) := by go_simp
        have t2 : (u4.alloc (.cells #[.bool P2.1, .slice a2 n2 c2, .int .i64 P2.2.2] 27)).cell? ⟨u4.heap.size, 2, none⟩ = some (.int .i64 P2.2.2) := by go_simp
        clear bD
        go_upto_region 5 with fail
        generalize u4.alloc (.cells #[.bool P2.1, .slice a2 n2 c2, .int .i64 P2.2.2] 27) = u5 at *
        generalize u4.heap.size = B2 at *
        go_wp2_with fail
        refine Calls.mono (OC.out _) ?_
        rintro q u8 ⟨rfl, rfl⟩
        clear OC NC
        go_wp2_with fail
        refine Calls.mono (sameE P2 P2 _ _ _ _ _ _ _ hO1.1 (by omega) hO2.1 (by omega)) ?_
        rintro q u7 ⟨rfl, b1⟩
        replace bA := nT bA b1
        rw [sameB_self]
        go_wp2_with fail
        go_ret
        exact ⟨rfl, bA⟩
    | false =>
      have hv2 : ¬ (f = 14 ∨ f = 17 ∨ f = 26) := fun q => by have := decide_eq_true q; unfold evenF at hv; rw [this] at hv; cases hv
      have n14 : f ≠ 14 := fun q => hv2 (.inl q)
      have n17 : f ≠ 17 := fun q => hv2 (.inr (.inl q))
      have n26 : f ≠ 26 := fun q => hv2 (.inr (.inr q))
      have b14 : (f == 14) = false := by simp [n14]
      have b17 : (f == 17) = false := by simp [n17]
      have b26 : (f == 26) = false := by simp [n26]
      generalize exE f x = E at *
      generalize exE f (negV x) = E' at *
      generalize exV f x = V1 at *
      generalize exV f (negV x) = V2 at *
      obtain ⟨P1, S1⟩ := V1
      obtain ⟨P2, S2⟩ := V2
      simp only at E1 E2
      clear hv hv2 ho hx hT hL1 hL2 hW1 hW2 hE2
      go_enter Tryz.func7, Tryz.ntmps7
      go_wp2_with fail
      refine Calls.mono LC.out ?_
      rintro q u1 ⟨rfl, b1⟩
      replace bA := nT bA b1
      clear b1 LC
      go_wp2_with fail
      refine Calls.mono (E1.out _ bA) ?_
      have lb := bA.size
      rintro q u2 ⟨_, rfl, ⟨a1, n1, c1, rfl, HN1, hn1, hO1⟩, b1⟩
      replace hO1 := hO1.low lb
      clear lb
      replace bA := nT bA b1
      clear b1 E1
      have bD := below_one u2 (.cells #[.bool P1.1, .slice a1 n1 c1, .int .i64 P1.2.2] 27)
      replace bA := nT bA bD
      replace hO1 := hO1.keep bD
      have s0 : (u2.alloc (.cells #[.bool P1.1, .slice a1 n1 c1, .int .i64 P1.2.2] 27)).cell? ⟨u2.heap.size, 0, none⟩ = some (.bool P1.1) := by go_simp
      have s1 : (u2.alloc (.cells #[.bool P1.1, .slice a1 n1 c1, .int .i64 P1.2.2] 27)).cell? ⟨u2.heap.size, 1, none⟩ = some (.slice a1 n1 c1) := by go_simp
      have s2 : (u2.alloc (.cells #[.bool P1.1, .slice a1 n1 c1, .int .i64 P1.2.2] 27)).cell? ⟨u2.heap.size, 2, none⟩ = some (.int .i64 P1.2.2) := by go_simp
      clear bD
      go_upto_region 4 with fail
      generalize u2.alloc (.cells #[.bool P1.1, .slice a1 n1 c1, .int .i64 P1.2.2] 27) = u3 at *
      generalize u2.heap.size = B1 at *
      go_wp2_with fail
      refine Calls.mono (NC.out _) ?_
      rintro q u9 ⟨rfl, rfl⟩
      go_wp2_with fail
      refine Calls.mono (E2.out _ bA) ?_
      have lb := bA.size
      rintro q u4 ⟨_, rfl, ⟨a2, n2, c2, rfl, HN2, hn2, hO2⟩, b1⟩
      replace hO2 := hO2.low lb
      clear lb
      replace bA := nT bA b1
      replace hO1 := hO1.keep b1
      replace s0 := kC b1 s0
      replace s1 := kC b1 s1
      replace s2 := kC b1 s2
      clear b1 E2
      have bD := below_one u4 (.cells #[.bool P2.1, .slice a2 n2 c2, .int .i64 P2.2.2] 27)
      replace bA := nT bA bD
      replace hO1 := hO1.keep bD
      replace s0 := kC bD s0
      replace s1 := kC bD s1
      replace s2 := kC bD s2
      replace hO2 := hO2.keep bD
      have t0 : (u4.alloc (.cells #[.bool P2.1, .slice a2 n2 c2, .int .i64 P2.2.2] 27)).cell? ⟨u4.heap.size, 0, none⟩ = some (.bool P2.1) := by go_simp
      have t1 : (u4.alloc (.cells #[.bool P2.1, .slice a2 n2 c2, .int .i64 P2.2.2] 27)).cell? ⟨u4.heap.size, 1, none⟩ = some (.slice a2 n2 c2) := by go_simp
      have t2 : (u4.alloc (.cells #[.bool P2.1, .slice a2 n2 c2, .int .i64 P2.2.2] 27)).cell? ⟨u4.heap.size, 2, none⟩ = some (.int .i64 P2.2.2) := by go_simp
      clear bD
      go_upto_region 5 with fail
      generalize u4.alloc (.cells #[.bool P2.1, .slice a2 n2 c2, .int .i64 P2.2.2] 27) = u5 at *
      generalize u4.heap.size = B2 at *
      go_wp2_with fail
      refine Calls.mono (OC.out _) ?_
      rintro q u8 ⟨rfl, rfl⟩
      clear OC NC
      go_wp2_with fail
      go_ret
      exact ⟨rfl, bA⟩

end Go.Proofs.YtoefhlapfnjbjaaGreatDoor

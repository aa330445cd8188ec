/- Enclosures of constants as pairs of dyadic numbers (pure): right, above 0, in their one form; which meet, which lie apart. The program's enclosures of constants, as intervals in their one form. consts.Const: what it answers, in order. -/
import Derived.Test.YtkkldnnndlpblaaGreatDoorCKB
import Derived.Test.YtkkldnnndlpblaaGreatDoorCFZ
import Derived.Test.YtkkldnnndlpblaaGreatDoorIVX
import Derived.Test.YtkkldnnndlpblaaGreatDoorRDD
import Derived.Deep.RegionHeld3
import Derived.Test.YtkkldnnndlpblaaGreatDoorIVY

namespace Go.Proofs.YtkkldnnndlpblaaGreatDoor
open Go.RowKit Ck

theorem cmI_lt (a b : Int) : Lib.compareInt a b < 0 ↔ a < b := by
  unfold Lib.compareInt
  split
  · constructor <;> intro <;> omega
  · split
    · constructor <;> intro <;> omega
    · constructor <;> intro <;> omega

/-- m units of 2^-w -/
abbrev uD (m w : Nat) : Bool × Nat × Int := formD false m (-(w : Int))

theorem cmD_eq (m n w v : Nat) : cmpD (uD m w) (uD n v) = Lib.compareInt ((m * 2 ^ v : Nat) : Int) ((n * 2 ^ w : Nat) : Int) := by
  have l1 : -((w + v : Nat) : Int) ≤ (uD m w).2.2 := form_loN _ _ _ _ (by omega) (by omega)
  have l2 : -((w + v : Nat) : Int) ≤ (uD n v).2.2 := form_loN _ _ _ _ (by omega) (by omega)
  rw [vI_cmp _ _ (w + v) l1 l2, vI_form _ _ _ _ (by omega), vI_form _ _ _ _ (by omega), show (-(w : Int) - -((w + v : Nat) : Int)).toNat = v by omega, show (-(v : Int) - -((w + v : Nat) : Int)).toNat = w by omega, show sI false = 1 from rfl, Int.one_mul, Int.one_mul]

theorem cmD_le (m n w v : Nat) : cmpD (uD m w) (uD n v) ≤ 0 ↔ m * 2 ^ v ≤ n * 2 ^ w := by
  rw [cmD_eq, cmpI_le]; exact Int.ofNat_le

theorem cmD_lt (m n w v : Nat) : cmpD (uD m w) (uD n v) < 0 ↔ m * 2 ^ v < n * 2 ^ w := by
  rw [cmD_eq, cmI_lt]; exact Int.ofNat_lt

theorem uD_right (m w : Nat) (hb : blen m ≤ w + 40) (hw : w ≤ 20000) : rightB m (-(w : Int)) = true ∧ rightB (uD m w).2.1 (uD m w).2.2 = true := by
  have g : greatB m = false := (great_not m).2 (by omega)
  have g2 : greatB (uD m w).2.1 = false := great_mono (form_amount_le _ _ _) g
  have ht := tz_le_blen m
  have h1 : -32768 ≤ (uD m w).2.2 ∧ (uD m w).2.2 ≤ 32768 := by
    unfold uD formD
    split
    · exact ⟨by decide, by decide⟩
    · show -32768 ≤ -(w : Int) + (tz m : Int) ∧ -(w : Int) + (tz m : Int) ≤ 32768
      omega
  refine ⟨?_, ?_⟩
  · unfold rightB inB; rw [g, decide_eq_true (by omega)]; rfl
  · unfold rightB inB; rw [g2, decide_eq_true h1]; rfl

theorem uD_nz {m : Nat} (w : Nat) (h : m ≠ 0) : (uD m w).1 = false ∧ (uD m w).2.1 ≠ 0 := by
  unfold uD
  rw [form_pos _ h]
  refine ⟨rfl, ?_⟩
  have := (odd_part h).1
  show m / 2 ^ tz m ≠ 0
  intro hc
  rw [hc] at this
  cases this

theorem uD_again (m w : Nat) : formD (uD m w).1 (uD m w).2.1 (uD m w).2.2 = uD m w := form_of_can (form_can _ _ _)

theorem uD_sign (m w : Nat) : (uD m w).1 = false := by
  unfold uD formD
  split <;> rfl

/-- what Canon makes of two ends in units of 2^-w -/
theorem uD_canon (m n w : Nat) (h : m ≤ n) (hb : blen n ≤ w + 40) (hw : w ≤ 20000) : cnE false m (-(w : Int)) false n (-(w : Int)) = 0 ∧ cnL false m (-(w : Int)) false n (-(w : Int)) = uD m w ∧ cnH false m (-(w : Int)) false n (-(w : Int)) = uD n w := by
  have hb' : blen m ≤ w + 40 := Nat.le_trans (blen_mono h) hb
  obtain ⟨a1, a2⟩ := uD_right m w hb' hw
  obtain ⟨b1, b2⟩ := uD_right n w hb hw
  have hr : rtI false m (-(w : Int)) false n (-(w : Int)) = true := by
    unfold rtI
    rw [a1, b1, decide_eq_true ((cmD_le m n w w).2 (Nat.mul_le_mul_right _ h))]
    rfl
  have rm : ∀ m, rightB (uD m w).2.1 (uD m w).2.2 = true → roomE (uD m w) = 0 ∧ roomP (uD m w) = uD m w := fun m h => by
    unfold rightB at h
    rw [Bool.and_eq_true] at h
    exact room_yes (by simpa using h.1) h.2
  have c1 : canE false m (-(w : Int)) = 0 := by unfold canE; rw [if_pos a1]; exact (rm m a2).1
  have c2 : canE false n (-(w : Int)) = 0 := by unfold canE; rw [if_pos b1]; exact (rm n b2).1
  have e0 : cnE false m (-(w : Int)) false n (-(w : Int)) = 0 := by unfold cnE; rw [if_pos hr, c1, c2, if_neg (by decide)]
  refine ⟨e0, ?_, ?_⟩
  · unfold cnL; rw [if_pos e0]; unfold canP; rw [if_pos a1]; exact (rm m a2).2
  · unfold cnH; rw [if_pos e0]; unfold canP; rw [if_pos b1]; exact (rm n b2).2

/-- is it an enclosure of two ends in units -/
theorem uD_rt (m n w v : Nat) (h1 : blen m ≤ w + 40) (h2 : blen n ≤ v + 40) (hw : w ≤ 20000) (hv : v ≤ 20000) : rtI (uD m w).1 (uD m w).2.1 (uD m w).2.2 (uD n v).1 (uD n v).2.1 (uD n v).2.2 = decide (m * 2 ^ v ≤ n * 2 ^ w) := by
  unfold rtI
  rw [(uD_right m w h1 hw).2, (uD_right n v h2 hv).2, uD_again, uD_again]
  show decide _ = _
  rw [Bool.eq_iff_iff, decide_eq_true_eq, decide_eq_true_eq]
  exact cmD_le m n w v

/-- the ends of constant k at p bits -/
theorem en_bl (k w : Nat) (h1 : 1 ≤ k) (h7 : k ≤ 7) (h40 : 40 ≤ w) : blen (eLo k w) ≤ w + 5 ∧ blen (eHi k w) ≤ w + 5 ∧ eLo k w ≠ 0 ∧ eHi k w ≠ 0 ∧ eLo k w ≤ eHi k w := by
  obtain ⟨a1, a2, a3⟩ := e_lt k w h1 h7 h40
  have p : 0 < 2 ^ (w - 3) := Nat.pow_pos (by decide)
  exact ⟨(blen_le _ _).2 (by omega), (blen_le _ _).2 a1, by omega, by omega, a2⟩

end Go.Proofs.YtkkldnnndlpblaaGreatDoor

namespace Go.Proofs.YtkkldnnndlpblaaGreatDoor
open Go.RowKit Ck

set_option maxRecDepth 100000 in
set_option maxHeartbeats 1000000 in
theorem ndyad_calls (a : Option Addr) (n c : Nat) (e : Int) (w : World) :
    Calls Tryz.prog 70 #[.agg #[.slice a n c, .int .i64 e]] w fun r w' => r = .returned (dyV false a n c e) ∧ Below w.heap.size w w' := by
  go_enter Tryz.func70, Tryz.ntmps70
  go_wp2_with fail
  exact bodyPost_ret (v := dyV false a n c e) (by simp [results, Tryz.results70, go_sem]) rfl ⟨rfl, nbelow_trans (below_one _ _) (below_one _ _)⟩

/-- an interval's six cells at a block, still zero, that may be written -/
def ZI (b : Nat) (w : World) : Prop := AtI b (.bool false) (.slice none 0 0) (.int .i64 0) (.bool false) (.slice none 0 0) (.int .i64 0) w ∧ (w.frozen? ⟨b, 0, none⟩ = false ∧ w.frozen? ⟨b, 1, none⟩ = false ∧ w.frozen? ⟨b, 2, none⟩ = false ∧ w.frozen? ⟨b, 3, none⟩ = false ∧ w.frozen? ⟨b, 4, none⟩ = false ∧ w.frozen? ⟨b, 5, none⟩ = false)

theorem ZI.keep {b : Nat} {w w' : World} (h : ZI b w) (r : Below w.heap.size w w') : ZI b w' := by
  obtain ⟨hA, f0, f1, f2, f3, f4, f5⟩ := h
  have hB := hA.keep r
  obtain ⟨z0, z1, z2, z3, z4, z5⟩ := hA
  exact ⟨hB, dcarry_frozen r z0 f0, dcarry_frozen r z1 f1, dcarry_frozen r z2 f2, dcarry_frozen r z3 f3, dcarry_frozen r z4 f4, dcarry_frozen r z5 f5⟩

theorem zi_new (w : World) : ZI w.heap.size (w.alloc (.cells #[.bool false, .slice none 0 0, .int .i64 0, .bool false, .slice none 0 0, .int .i64 0] 28)) := by
  refine ⟨⟨?_, ?_, ?_, ?_, ?_, ?_⟩, ?_, ?_, ?_, ?_, ?_, ?_⟩ <;> go_simp

theorem six_is {b : Nat} {w : World} {x0 x1 x2 x3 x4 x5 : Value} (y0 : w.cell? ⟨b, 0, none⟩ = some x0) (y1 : w.cell? ⟨b, 1, none⟩ = some x1) (y2 : w.cell? ⟨b, 2, none⟩ = some x2) (y3 : w.cell? ⟨b, 3, none⟩ = some x3) (y4 : w.cell? ⟨b, 4, none⟩ = some x4) (y5 : w.cell? ⟨b, 5, none⟩ = some x5) (v0 v1 v2 v3 v4 v5 : Value) :
    AtI b v0 v1 v2 v3 v4 v5 ((((((w.setCell ⟨b, 0, none⟩ v0).setCell ⟨b, 1, none⟩ v1).setCell ⟨b, 2, none⟩ v2).setCell ⟨b, 3, none⟩ v3).setCell ⟨b, 4, none⟩ v4).setCell ⟨b, 5, none⟩ v5) := by
  refine ⟨?_, ?_, ?_, ?_, ?_, ?_⟩ <;> go_simp

theorem six_below {w wA : World} {b : Nat} (A : Below wA.heap.size wA w) (lb : wA.heap.size ≤ b) (v0 v1 v2 v3 v4 v5 : Value) : Below wA.heap.size wA ((((((w.setCell ⟨b, 0, none⟩ v0).setCell ⟨b, 1, none⟩ v1).setCell ⟨b, 2, none⟩ v2).setCell ⟨b, 3, none⟩ v3).setCell ⟨b, 4, none⟩ v4).setCell ⟨b, 5, none⟩ v5) := by
  repeat (first | (with_reducible exact A) | (with_reducible refine Below.setCell ?_ (by simpa using lb) _))

theorem canon_uD (lo hi wd : Nat) (hl : lo ≤ hi) (hb : blen hi ≤ wd + 40) (hw : wd ≤ 20000) (a : Option Addr) (n c : Nat) (a' : Option Addr) (n' c' : Nat) (hn : n ≤ 1024) (hn' : n' ≤ 1024) (w : World) (h : IsW w a n c (wordsOf lo)) (h' : IsW w a' n' c' (wordsOf hi)) (hT : Tab w) :
    Calls Tryz.prog 69 #[ivI false a n c (-(wd : Int)) false a' n' c' (-(wd : Int))] w fun r w' => ∃ (al : Option Addr) (nl cl : Nat) (ah : Option Addr) (nh ch : Nat), r = .returned (.tuple #[ivI false al nl cl (uD lo wd).2.2 false ah nh ch (uD hi wd).2.2, .int .i64 0]) ∧ nl ≤ 1024 ∧ nh ≤ 1024 ∧ OwnW w.heap.size w' al nl cl (wordsOf (uD lo wd).2.1) ∧ OwnW w.heap.size w' ah nh ch (wordsOf (uD hi wd).2.1) ∧ Below w.heap.size w w' := by
  have hc := icanon_calls false a n c (wordsOf lo) (-(wd : Int)) false a' n' c' (wordsOf hi) (-(wd : Int)) w h (by omega) h' (by omega) hT
  obtain ⟨e1, e2, e3⟩ := uD_canon lo hi wd hl hb hw
  rw [val_words, val_words, e1, e2, e3, uD_sign, uD_sign] at hc
  exact hc

set_option maxRecDepth 100000 in
set_option maxHeartbeats 4000000 in
theorem spanIval_calls (lo hi wd : Nat) (hl : lo ≤ hi) (hb : blen hi ≤ wd + 40) (hw : wd ≤ 20000) (a : Option Addr) (n c : Nat) (a' : Option Addr) (n' c' : Nat) (hn : n ≤ 1024) (hn' : n' ≤ 1024) (w : World) (h : IsW w a n c (wordsOf lo)) (h' : IsW w a' n' c' (wordsOf hi)) (hT : Tab w) :
    Calls Tryz.prog 33 #[SpanV a n c a' n' c' (-(wd : Int))] w fun r w' => ∃ (al : Option Addr) (nl cl : Nat) (ah : Option Addr) (nh ch : Nat), r = .returned (.tuple #[ivI false al nl cl (uD lo wd).2.2 false ah nh ch (uD hi wd).2.2, .int .i64 0]) ∧ nl ≤ 1024 ∧ nh ≤ 1024 ∧ OwnW w.heap.size w' al nl cl (wordsOf (uD lo wd).2.1) ∧ OwnW w.heap.size w' ah nh ch (wordsOf (uD hi wd).2.1) ∧ Below w.heap.size w w' := by
  unfold SpanV
  obtain ⟨E, hE⟩ : ∃ E : Int, E = -(wd : Int) := ⟨_, rfl⟩
  have HC : Hid (∀ W, IsW W a n c (wordsOf lo) → IsW W a' n' c' (wordsOf hi) → Tab W → _) := fun W => canon_uD lo hi wd hl hb hw a n c a' n' c' hn hn' W
  rw [← hE] at HC ⊢
  clear hE hl hb hw hn hn'
  generalize (uD lo wd).2.2 = el at *
  generalize (uD hi wd).2.2 = eh at *
  generalize wordsOf (uD lo wd).2.1 = xl at *
  generalize wordsOf (uD hi wd).2.1 = xh at *
  generalize wordsOf lo = zl at *
  generalize wordsOf hi = zh at *
  obtain ⟨wA, hwA⟩ : ∃ wA, wA = (w.alloc (.cells #[.slice a n c, .int .i64 E, .slice a' n' c', .int .i64 E] 63)).alloc (.cells #[.bool false, .slice none 0 0, .int .i64 0, .bool false, .slice none 0 0, .int .i64 0] 28) := ⟨_, rfl⟩
  have bA : Below w.heap.size w wA := hwA ▸ nbelow_trans (below_one _ _) (below_one _ _)
  have k0 : wA.cell? ⟨w.heap.size, 0, none⟩ = some (.slice a n c) := by rw [hwA]; go_simp
  have k1 : wA.cell? ⟨w.heap.size, 1, none⟩ = some (.int .i64 E) := by rw [hwA]; go_simp
  have k2 : wA.cell? ⟨w.heap.size, 2, none⟩ = some (.slice a' n' c') := by rw [hwA]; go_simp
  have k3 : wA.cell? ⟨w.heap.size, 3, none⟩ = some (.int .i64 E) := by rw [hwA]; go_simp
  have z0 : wA.cell? ⟨w.heap.size + 1, 0, none⟩ = some (.bool false) := by rw [hwA]; go_simp
  have z1 : wA.cell? ⟨w.heap.size + 1, 1, none⟩ = some (.slice none 0 0) := by rw [hwA]; go_simp
  have z2 : wA.cell? ⟨w.heap.size + 1, 2, none⟩ = some (.int .i64 0) := by rw [hwA]; go_simp
  have z3 : wA.cell? ⟨w.heap.size + 1, 3, none⟩ = some (.bool false) := by rw [hwA]; go_simp
  have z4 : wA.cell? ⟨w.heap.size + 1, 4, none⟩ = some (.slice none 0 0) := by rw [hwA]; go_simp
  have z5 : wA.cell? ⟨w.heap.size + 1, 5, none⟩ = some (.int .i64 0) := by rw [hwA]; go_simp
  have f0 : wA.frozen? ⟨w.heap.size + 1, 0, none⟩ = false := by rw [hwA]; go_simp
  have f1 : wA.frozen? ⟨w.heap.size + 1, 1, none⟩ = false := by rw [hwA]; go_simp
  have f2 : wA.frozen? ⟨w.heap.size + 1, 2, none⟩ = false := by rw [hwA]; go_simp
  have f3 : wA.frozen? ⟨w.heap.size + 1, 3, none⟩ = false := by rw [hwA]; go_simp
  have f4 : wA.frozen? ⟨w.heap.size + 1, 4, none⟩ = false := by rw [hwA]; go_simp
  have f5 : wA.frozen? ⟨w.heap.size + 1, 5, none⟩ = false := by rw [hwA]; go_simp
  have hI := h.keep bA
  have hJ := h'.keep bA
  have hT1 := hT.kept bA
  have sA := bA.size
  go_enter Tryz.func33, Tryz.ntmps33
  go_upto_region 1 with fail
  rw [← hwA]
  have A : Below wA.heap.size wA (World.drew wA) := (Below.refl _ _).drew
  refine wp_region_held (S := fun w' => Below wA.heap.size wA w') (by kernel_rfl) ?_
  change wpAnyH _ _ _ _ _ _ _ _ (World.drew wA)
  generalize World.drew wA = wd at A ⊢
  refine wpAnyH_take (i := 0) (v := .pointer (some ⟨w.heap.size, 0, none⟩)) rfl (by kernel_rfl) (by kernel_rfl) (by kernel_rfl) (fun _ _ _ h => h) (Or.inl ⟨by rfl, ?_⟩) A ?_
  · intro ww hS
    clear hS
    go_simp
    try with_reducible rfl
  try simp only [Act.put, List.setIfInBounds_toArray]
  refine wpAnyH_take (i := 1) (v := .agg #[.slice a n c, .int .i64 E]) rfl (by kernel_rfl) (by kernel_rfl) (by kernel_rfl) (fun _ _ _ h => h) (Or.inl ⟨by rfl, ?_⟩) A ?_
  · intro ww hS
    have q0 := dcarry_cell hS k0
    have q1 := dcarry_cell hS k1
    clear hS
    go_simp
    try with_reducible rfl
  try simp only [Act.put]
  refine wpAnyH_take (i := 3) (v := .pointer (some ⟨w.heap.size, 2, none⟩)) rfl (by kernel_rfl) (by kernel_rfl) (by kernel_rfl) (fun _ _ _ h => h) (Or.inl ⟨by rfl, ?_⟩) A ?_
  · intro ww hS
    clear hS
    go_simp
    try with_reducible rfl
  try simp only [Act.put]
  refine wpAnyH_take (i := 4) (v := (.agg #[.slice a' n' c', .int .i64 E])) rfl (by kernel_rfl) (by kernel_rfl) (by kernel_rfl) (fun _ _ _ h => h) (Or.inl ⟨by rfl, ?_⟩) A ?_
  · intro ww hS
    have q0 := dcarry_cell hS k2
    have q1 := dcarry_cell hS k3
    clear hS
    go_simp
    try with_reducible rfl
  try simp only [Act.put]
  refine wpAnyH_ready (rs := [2, 11]) (by kernel_rfl) (by simp) ?_
  refine AllReadyH.cons rfl (fun K hK => ?_) (AllReadyH.cons rfl (fun K hK => ?_) AllReadyH.nil)
  · go_simp
    refine Calls.mono (ndyad_calls a n c E _) ?_
    rintro r wdx ⟨rfl, bN⟩
    refine hK.out _ _ (nbelow_trans A bN) (fun _ => ?_)
    replace A := nbelow_trans A bN
    clear bN hK K
    try simp only [Act.put, List.setIfInBounds_toArray, List.set_cons_zero, List.set_cons_succ]
    refine wpAnyH_ready (rs := [5, 11]) (by kernel_rfl) (by simp) ?_
    refine AllReadyH.cons rfl (fun K hK => ?_) (AllReadyH.cons rfl (fun K hK => ?_) AllReadyH.nil)
    · go_simp
      refine Calls.mono (ndyad_calls a' n' c' E _) ?_
      rintro r wdxx ⟨rfl, bN⟩
      refine hK.out _ _ (nbelow_trans A bN) (fun _ => ?_)
      replace A := nbelow_trans A bN
      clear bN hK K
      try simp only [Act.put, List.setIfInBounds_toArray, List.set_cons_zero, List.set_cons_succ]
      refine wpAnyH_take (i := 6) (v := ivI false a n c E false a' n' c' E) rfl (by kernel_rfl) (by kernel_rfl) (by kernel_rfl) (fun _ _ _ h => h) (Or.inl ⟨by rfl, ?_⟩) A ?_
      · intro ww hS
        clear hS
        go_simp
        try with_reducible rfl
      try simp only [Act.put, List.setIfInBounds_toArray]
      refine wpAnyH_ready (rs := [7, 11]) (by kernel_rfl) (by simp) ?_
      refine AllReadyH.cons rfl (fun K hK => ?_) (AllReadyH.cons rfl (fun K hK => ?_) AllReadyH.nil)
      · go_simp
        refine Calls.mono (HC.out _ (hI.keep A) (hJ.keep A) (hT1.kept A)) ?_
        rintro r wdxxx ⟨al, nl, cl, ah, nh, ch, rfl, i1, i2, L1, L2, bN⟩
        replace L1 := L1.low A.size
        replace L2 := L2.low A.size
        refine hK.out _ _ (nbelow_trans A bN) (fun _ => ?_)
        replace A := nbelow_trans A bN
        clear bN hK K
        try simp only [Act.put, List.setIfInBounds_toArray, List.set_cons_zero, List.set_cons_succ]
        refine wpAnyH_take (i := 8) (v := .tuple #[ivI false al nl cl el false ah nh ch eh, .int .i64 0]) rfl (by kernel_rfl) (by kernel_rfl) (by kernel_rfl) (fun _ _ _ h => h) (Or.inl ⟨by rfl, ?_⟩) A ?_
        · intro ww hS
          clear hS
          go_simp
          try with_reducible rfl
        try simp only [Act.put, List.setIfInBounds_toArray]
        refine wpAnyH_take (i := 9) (v := ivI false al nl cl el false ah nh ch eh) rfl (by kernel_rfl) (by kernel_rfl) (by kernel_rfl) (fun _ _ _ h => h) (Or.inl ⟨by rfl, ?_⟩) A ?_
        · intro ww hS
          clear hS
          go_simp
          try with_reducible rfl
        try simp only [Act.put]
        refine wpAnyH_take (i := 10) (v := .int .i64 0) rfl (by kernel_rfl) (by kernel_rfl) (by kernel_rfl) (fun _ _ _ h => h) (Or.inl ⟨by rfl, ?_⟩) A ?_
        · intro ww hS
          clear hS
          go_simp
          try with_reducible rfl
        try simp only [Act.put]
        refine wpAnyH_ready (rs := [11]) (by kernel_rfl) (by simp) ?_
        refine AllReadyH.cons rfl (fun K hK => ?_) AllReadyH.nil
        go_simp
        have hZ := zi_new wdxxx
        have bN := below_one wdxxx (.cells #[.bool false, .slice none 0 0, .int .i64 0, .bool false, .slice none 0 0, .int .i64 0] 28)
        have lb := A.size
        replace L1 := L1.keep bN
        replace L2 := L2.keep bN
        refine hK.out _ _ (nbelow_trans A bN) (fun _ => ?_)
        replace A := nbelow_trans A bN
        clear bN hK K
        try simp only [Act.put, List.setIfInBounds_toArray, List.set_cons_zero, List.set_cons_succ]
        generalize wdxxx.alloc (.cells #[.bool false, .slice none 0 0, .int .i64 0, .bool false, .slice none 0 0, .int .i64 0] 28) = wdxxxx at *
        generalize wdxxx.heap.size = b4 at *
        refine wpAnyH_ready (rs := [12]) (by kernel_rfl) (by simp) ?_
        refine AllReadyH.cons rfl (fun K hK => ?_) AllReadyH.nil
        obtain ⟨⟨y0, y1, y2, y3, y4, y5⟩, g0, g1, g2, g3, g4, g5⟩ := hZ
        go_simp
        have s6 := six_ofI y0 y1 y2 y3 y4 y5 (fun _ q => by cases q) (fun _ q => by cases q) (fun _ q => by cases q) (fun _ q => by cases q) (fun _ q => by cases q) (fun _ q => by cases q)
        replace L1 := ownW_sixI L1 s6 (.bool false) (.slice al nl cl) (.int .i64 el) (.bool false) (.slice ah nh ch) (.int .i64 eh)
        replace L2 := ownW_sixI L2 s6 (.bool false) (.slice al nl cl) (.int .i64 el) (.bool false) (.slice ah nh ch) (.int .i64 eh)
        obtain ⟨c0, c1, c2, c3, c4, c5⟩ := six_is y0 y1 y2 y3 y4 y5 (.bool false) (.slice al nl cl) (.int .i64 el) (.bool false) (.slice ah nh ch) (.int .i64 eh)
        replace A := six_below A lb (.bool false) (.slice al nl cl) (.int .i64 el) (.bool false) (.slice ah nh ch) (.int .i64 eh)
        clear s6 y0 y1 y2 y3 y4 y5 g0 g1 g2 g3 g4 g5
        refine hK.out _ _ A (fun _ => ?_)
        clear hK K
        try simp only [Act.put, List.setIfInBounds_toArray, List.set_cons_zero, List.set_cons_succ]
        generalize ((((((wdxxxx.setCell ⟨b4, 0, none⟩ (.bool false)).setCell ⟨b4, 1, none⟩ (.slice al nl cl)).setCell ⟨b4, 2, none⟩ (.int .i64 el)).setCell ⟨b4, 3, none⟩ (.bool false)).setCell ⟨b4, 4, none⟩ (.slice ah nh ch)).setCell ⟨b4, 5, none⟩ (.int .i64 eh)) = wdxxxxx at *
        refine wpAnyH_ready (rs := [13]) (by kernel_rfl) (by simp) ?_
        refine AllReadyH.cons rfl (fun K hK => ?_) AllReadyH.nil
        go_simp
        refine hK.out _ _ A (fun _ => ?_)
        clear hK K
        try simp only [Act.put, List.setIfInBounds_toArray, List.set_cons_zero, List.set_cons_succ]
        refine wpAnyH_done (by kernel_rfl) ?_ _
        have A2 := nbelow_trans bA A
        replace f0 := dcarry_frozen A z0 f0
        replace f1 := dcarry_frozen A z1 f1
        replace f2 := dcarry_frozen A z2 f2
        replace f3 := dcarry_frozen A z3 f3
        replace f4 := dcarry_frozen A z4 f4
        replace f5 := dcarry_frozen A z5 f5
        replace z0 := dcarry_cell A z0
        replace z1 := dcarry_cell A z1
        replace z2 := dcarry_cell A z2
        replace z3 := dcarry_cell A z3
        replace z4 := dcarry_cell A z4
        replace z5 := dcarry_cell A z5
        clear k0 k1 k2 k3 hI hJ hT1 HC
        go_wp2_with fail
        have s6 := six_ofI z0 z1 z2 z3 z4 z5 (fun _ q => by cases q) (fun _ q => by cases q) (fun _ q => by cases q) (fun _ q => by cases q) (fun _ q => by cases q) (fun _ q => by cases q)
        exact bodyPost_ret (v := .tuple #[ivI false al nl cl el false ah nh ch eh, .int .i64 0]) (by simp [results, Tryz.results33, go_sem, z0, z1, z2, z3, z4, z5]) rfl ⟨al, nl, cl, ah, nh, ch, rfl, i1, i2, ownW_sixI (L1.low sA) s6 _ _ _ _ _ _, ownW_sixI (L2.low sA) s6 _ _ _ _ _ _, by repeat (first | (with_reducible exact A2) | (with_reducible refine Below.setCell ?_ (by simp) _))⟩
      · go_simp
        have hZ := zi_new wdxx
        have bN := below_one wdxx (.cells #[.bool false, .slice none 0 0, .int .i64 0, .bool false, .slice none 0 0, .int .i64 0] 28)
        have lb := A.size
        refine hK.out _ _ (nbelow_trans A bN) (fun _ => ?_)
        replace A := nbelow_trans A bN
        clear bN hK K
        try simp only [Act.put, List.setIfInBounds_toArray, List.set_cons_zero, List.set_cons_succ]
        generalize wdxx.alloc (.cells #[.bool false, .slice none 0 0, .int .i64 0, .bool false, .slice none 0 0, .int .i64 0] 28) = wdxxx at *
        generalize wdxx.heap.size = b4 at *
        refine wpAnyH_ready (rs := [7]) (by kernel_rfl) (by simp) ?_
        refine AllReadyH.cons rfl (fun K hK => ?_) AllReadyH.nil
        go_simp
        refine Calls.mono (HC.out _ (hI.keep A) (hJ.keep A) (hT1.kept A)) ?_
        rintro r wdxxxx ⟨al, nl, cl, ah, nh, ch, rfl, i1, i2, L1, L2, bN⟩
        replace hZ := hZ.keep bN
        replace L1 := L1.low A.size
        replace L2 := L2.low A.size
        refine hK.out _ _ (nbelow_trans A bN) (fun _ => ?_)
        replace A := nbelow_trans A bN
        clear bN hK K
        try simp only [Act.put, List.setIfInBounds_toArray, List.set_cons_zero, List.set_cons_succ]
        refine wpAnyH_take (i := 8) (v := .tuple #[ivI false al nl cl el false ah nh ch eh, .int .i64 0]) rfl (by kernel_rfl) (by kernel_rfl) (by kernel_rfl) (fun _ _ _ h => h) (Or.inl ⟨by rfl, ?_⟩) A ?_
        · intro ww hS
          clear hS
          go_simp
          try with_reducible rfl
        try simp only [Act.put, List.setIfInBounds_toArray]
        refine wpAnyH_take (i := 9) (v := ivI false al nl cl el false ah nh ch eh) rfl (by kernel_rfl) (by kernel_rfl) (by kernel_rfl) (fun _ _ _ h => h) (Or.inl ⟨by rfl, ?_⟩) A ?_
        · intro ww hS
          clear hS
          go_simp
          try with_reducible rfl
        try simp only [Act.put]
        refine wpAnyH_take (i := 10) (v := .int .i64 0) rfl (by kernel_rfl) (by kernel_rfl) (by kernel_rfl) (fun _ _ _ h => h) (Or.inl ⟨by rfl, ?_⟩) A ?_
        · intro ww hS
          clear hS
          go_simp
          try with_reducible rfl
        try simp only [Act.put]
        refine wpAnyH_ready (rs := [12]) (by kernel_rfl) (by simp) ?_
        refine AllReadyH.cons rfl (fun K hK => ?_) AllReadyH.nil
        obtain ⟨⟨y0, y1, y2, y3, y4, y5⟩, g0, g1, g2, g3, g4, g5⟩ := hZ
        go_simp
        have s6 := six_ofI y0 y1 y2 y3 y4 y5 (fun _ q => by cases q) (fun _ q => by cases q) (fun _ q => by cases q) (fun _ q => by cases q) (fun _ q => by cases q) (fun _ q => by cases q)
        replace L1 := ownW_sixI L1 s6 (.bool false) (.slice al nl cl) (.int .i64 el) (.bool false) (.slice ah nh ch) (.int .i64 eh)
        replace L2 := ownW_sixI L2 s6 (.bool false) (.slice al nl cl) (.int .i64 el) (.bool false) (.slice ah nh ch) (.int .i64 eh)
        obtain ⟨c0, c1, c2, c3, c4, c5⟩ := six_is y0 y1 y2 y3 y4 y5 (.bool false) (.slice al nl cl) (.int .i64 el) (.bool false) (.slice ah nh ch) (.int .i64 eh)
        replace A := six_below A lb (.bool false) (.slice al nl cl) (.int .i64 el) (.bool false) (.slice ah nh ch) (.int .i64 eh)
        clear s6 y0 y1 y2 y3 y4 y5 g0 g1 g2 g3 g4 g5
        refine hK.out _ _ A (fun _ => ?_)
        clear hK K
        try simp only [Act.put, List.setIfInBounds_toArray, List.set_cons_zero, List.set_cons_succ]
        generalize ((((((wdxxxx.setCell ⟨b4, 0, none⟩ (.bool false)).setCell ⟨b4, 1, none⟩ (.slice al nl cl)).setCell ⟨b4, 2, none⟩ (.int .i64 el)).setCell ⟨b4, 3, none⟩ (.bool false)).setCell ⟨b4, 4, none⟩ (.slice ah nh ch)).setCell ⟨b4, 5, none⟩ (.int .i64 eh)) = wdxxxxx at *
        refine wpAnyH_ready (rs := [13]) (by kernel_rfl) (by simp) ?_
        refine AllReadyH.cons rfl (fun K hK => ?_) AllReadyH.nil
        go_simp
        refine hK.out _ _ A (fun _ => ?_)
        clear hK K
        try simp only [Act.put, List.setIfInBounds_toArray, List.set_cons_zero, List.set_cons_succ]
        refine wpAnyH_done (by kernel_rfl) ?_ _
        have A2 := nbelow_trans bA A
        replace f0 := dcarry_frozen A z0 f0
        replace f1 := dcarry_frozen A z1 f1
        replace f2 := dcarry_frozen A z2 f2
        replace f3 := dcarry_frozen A z3 f3
        replace f4 := dcarry_frozen A z4 f4
        replace f5 := dcarry_frozen A z5 f5
        replace z0 := dcarry_cell A z0
        replace z1 := dcarry_cell A z1
        replace z2 := dcarry_cell A z2
        replace z3 := dcarry_cell A z3
        replace z4 := dcarry_cell A z4
        replace z5 := dcarry_cell A z5
        clear k0 k1 k2 k3 hI hJ hT1 HC
        go_wp2_with fail
        have s6 := six_ofI z0 z1 z2 z3 z4 z5 (fun _ q => by cases q) (fun _ q => by cases q) (fun _ q => by cases q) (fun _ q => by cases q) (fun _ q => by cases q) (fun _ q => by cases q)
        exact bodyPost_ret (v := .tuple #[ivI false al nl cl el false ah nh ch eh, .int .i64 0]) (by simp [results, Tryz.results33, go_sem, z0, z1, z2, z3, z4, z5]) rfl ⟨al, nl, cl, ah, nh, ch, rfl, i1, i2, ownW_sixI (L1.low sA) s6 _ _ _ _ _ _, ownW_sixI (L2.low sA) s6 _ _ _ _ _ _, by repeat (first | (with_reducible exact A2) | (with_reducible refine Below.setCell ?_ (by simp) _))⟩
    · go_simp
      have hZ := zi_new wdx
      have bN := below_one wdx (.cells #[.bool false, .slice none 0 0, .int .i64 0, .bool false, .slice none 0 0, .int .i64 0] 28)
      have lb := A.size
      refine hK.out _ _ (nbelow_trans A bN) (fun _ => ?_)
      replace A := nbelow_trans A bN
      clear bN hK K
      try simp only [Act.put, List.setIfInBounds_toArray, List.set_cons_zero, List.set_cons_succ]
      generalize wdx.alloc (.cells #[.bool false, .slice none 0 0, .int .i64 0, .bool false, .slice none 0 0, .int .i64 0] 28) = wdxx at *
      generalize wdx.heap.size = b4 at *
      refine wpAnyH_ready (rs := [5]) (by kernel_rfl) (by simp) ?_
      refine AllReadyH.cons rfl (fun K hK => ?_) AllReadyH.nil
      go_simp
      refine Calls.mono (ndyad_calls a' n' c' E _) ?_
      rintro r wdxxx ⟨rfl, bN⟩
      replace hZ := hZ.keep bN
      refine hK.out _ _ (nbelow_trans A bN) (fun _ => ?_)
      replace A := nbelow_trans A bN
      clear bN hK K
      try simp only [Act.put, List.setIfInBounds_toArray, List.set_cons_zero, List.set_cons_succ]
      refine wpAnyH_take (i := 6) (v := ivI false a n c E false a' n' c' E) rfl (by kernel_rfl) (by kernel_rfl) (by kernel_rfl) (fun _ _ _ h => h) (Or.inl ⟨by rfl, ?_⟩) A ?_
      · intro ww hS
        clear hS
        go_simp
        try with_reducible rfl
      try simp only [Act.put, List.setIfInBounds_toArray]
      refine wpAnyH_ready (rs := [7]) (by kernel_rfl) (by simp) ?_
      refine AllReadyH.cons rfl (fun K hK => ?_) AllReadyH.nil
      go_simp
      refine Calls.mono (HC.out _ (hI.keep A) (hJ.keep A) (hT1.kept A)) ?_
      rintro r wdxxxx ⟨al, nl, cl, ah, nh, ch, rfl, i1, i2, L1, L2, bN⟩
      replace hZ := hZ.keep bN
      replace L1 := L1.low A.size
      replace L2 := L2.low A.size
      refine hK.out _ _ (nbelow_trans A bN) (fun _ => ?_)
      replace A := nbelow_trans A bN
      clear bN hK K
      try simp only [Act.put, List.setIfInBounds_toArray, List.set_cons_zero, List.set_cons_succ]
      refine wpAnyH_take (i := 8) (v := .tuple #[ivI false al nl cl el false ah nh ch eh, .int .i64 0]) rfl (by kernel_rfl) (by kernel_rfl) (by kernel_rfl) (fun _ _ _ h => h) (Or.inl ⟨by rfl, ?_⟩) A ?_
      · intro ww hS
        clear hS
        go_simp
        try with_reducible rfl
      try simp only [Act.put, List.setIfInBounds_toArray]
      refine wpAnyH_take (i := 9) (v := ivI false al nl cl el false ah nh ch eh) rfl (by kernel_rfl) (by kernel_rfl) (by kernel_rfl) (fun _ _ _ h => h) (Or.inl ⟨by rfl, ?_⟩) A ?_
      · intro ww hS
        clear hS
        go_simp
        try with_reducible rfl
      try simp only [Act.put]
      refine wpAnyH_take (i := 10) (v := .int .i64 0) rfl (by kernel_rfl) (by kernel_rfl) (by kernel_rfl) (fun _ _ _ h => h) (Or.inl ⟨by rfl, ?_⟩) A ?_
      · intro ww hS
        clear hS
        go_simp
        try with_reducible rfl
      try simp only [Act.put]
      refine wpAnyH_ready (rs := [12]) (by kernel_rfl) (by simp) ?_
      refine AllReadyH.cons rfl (fun K hK => ?_) AllReadyH.nil
      obtain ⟨⟨y0, y1, y2, y3, y4, y5⟩, g0, g1, g2, g3, g4, g5⟩ := hZ
      go_simp
      have s6 := six_ofI y0 y1 y2 y3 y4 y5 (fun _ q => by cases q) (fun _ q => by cases q) (fun _ q => by cases q) (fun _ q => by cases q) (fun _ q => by cases q) (fun _ q => by cases q)
      replace L1 := ownW_sixI L1 s6 (.bool false) (.slice al nl cl) (.int .i64 el) (.bool false) (.slice ah nh ch) (.int .i64 eh)
      replace L2 := ownW_sixI L2 s6 (.bool false) (.slice al nl cl) (.int .i64 el) (.bool false) (.slice ah nh ch) (.int .i64 eh)
      obtain ⟨c0, c1, c2, c3, c4, c5⟩ := six_is y0 y1 y2 y3 y4 y5 (.bool false) (.slice al nl cl) (.int .i64 el) (.bool false) (.slice ah nh ch) (.int .i64 eh)
      replace A := six_below A lb (.bool false) (.slice al nl cl) (.int .i64 el) (.bool false) (.slice ah nh ch) (.int .i64 eh)
      clear s6 y0 y1 y2 y3 y4 y5 g0 g1 g2 g3 g4 g5
      refine hK.out _ _ A (fun _ => ?_)
      clear hK K
      try simp only [Act.put, List.setIfInBounds_toArray, List.set_cons_zero, List.set_cons_succ]
      generalize ((((((wdxxxx.setCell ⟨b4, 0, none⟩ (.bool false)).setCell ⟨b4, 1, none⟩ (.slice al nl cl)).setCell ⟨b4, 2, none⟩ (.int .i64 el)).setCell ⟨b4, 3, none⟩ (.bool false)).setCell ⟨b4, 4, none⟩ (.slice ah nh ch)).setCell ⟨b4, 5, none⟩ (.int .i64 eh)) = wdxxxxx at *
      refine wpAnyH_ready (rs := [13]) (by kernel_rfl) (by simp) ?_
      refine AllReadyH.cons rfl (fun K hK => ?_) AllReadyH.nil
      go_simp
      refine hK.out _ _ A (fun _ => ?_)
      clear hK K
      try simp only [Act.put, List.setIfInBounds_toArray, List.set_cons_zero, List.set_cons_succ]
      refine wpAnyH_done (by kernel_rfl) ?_ _
      have A2 := nbelow_trans bA A
      replace f0 := dcarry_frozen A z0 f0
      replace f1 := dcarry_frozen A z1 f1
      replace f2 := dcarry_frozen A z2 f2
      replace f3 := dcarry_frozen A z3 f3
      replace f4 := dcarry_frozen A z4 f4
      replace f5 := dcarry_frozen A z5 f5
      replace z0 := dcarry_cell A z0
      replace z1 := dcarry_cell A z1
      replace z2 := dcarry_cell A z2
      replace z3 := dcarry_cell A z3
      replace z4 := dcarry_cell A z4
      replace z5 := dcarry_cell A z5
      clear k0 k1 k2 k3 hI hJ hT1 HC
      go_wp2_with fail
      have s6 := six_ofI z0 z1 z2 z3 z4 z5 (fun _ q => by cases q) (fun _ q => by cases q) (fun _ q => by cases q) (fun _ q => by cases q) (fun _ q => by cases q) (fun _ q => by cases q)
      exact bodyPost_ret (v := .tuple #[ivI false al nl cl el false ah nh ch eh, .int .i64 0]) (by simp [results, Tryz.results33, go_sem, z0, z1, z2, z3, z4, z5]) rfl ⟨al, nl, cl, ah, nh, ch, rfl, i1, i2, ownW_sixI (L1.low sA) s6 _ _ _ _ _ _, ownW_sixI (L2.low sA) s6 _ _ _ _ _ _, by repeat (first | (with_reducible exact A2) | (with_reducible refine Below.setCell ?_ (by simp) _))⟩
  · go_simp
    have hZ := zi_new wd
    have bN := below_one wd (.cells #[.bool false, .slice none 0 0, .int .i64 0, .bool false, .slice none 0 0, .int .i64 0] 28)
    have lb := A.size
    refine hK.out _ _ (nbelow_trans A bN) (fun _ => ?_)
    replace A := nbelow_trans A bN
    clear bN hK K
    try simp only [Act.put, List.setIfInBounds_toArray, List.set_cons_zero, List.set_cons_succ]
    generalize wd.alloc (.cells #[.bool false, .slice none 0 0, .int .i64 0, .bool false, .slice none 0 0, .int .i64 0] 28) = wdx at *
    generalize wd.heap.size = b4 at *
    refine wpAnyH_ready (rs := [2]) (by kernel_rfl) (by simp) ?_
    refine AllReadyH.cons rfl (fun K hK => ?_) AllReadyH.nil
    go_simp
    refine Calls.mono (ndyad_calls a n c E _) ?_
    rintro r wdxx ⟨rfl, bN⟩
    replace hZ := hZ.keep bN
    refine hK.out _ _ (nbelow_trans A bN) (fun _ => ?_)
    replace A := nbelow_trans A bN
    clear bN hK K
    try simp only [Act.put, List.setIfInBounds_toArray, List.set_cons_zero, List.set_cons_succ]
    refine wpAnyH_ready (rs := [5]) (by kernel_rfl) (by simp) ?_
    refine AllReadyH.cons rfl (fun K hK => ?_) AllReadyH.nil
    go_simp
    refine Calls.mono (ndyad_calls a' n' c' E _) ?_
    rintro r wdxxx ⟨rfl, bN⟩
    replace hZ := hZ.keep bN
    refine hK.out _ _ (nbelow_trans A bN) (fun _ => ?_)
    replace A := nbelow_trans A bN
    clear bN hK K
    try simp only [Act.put, List.setIfInBounds_toArray, List.set_cons_zero, List.set_cons_succ]
    refine wpAnyH_take (i := 6) (v := ivI false a n c E false a' n' c' E) rfl (by kernel_rfl) (by kernel_rfl) (by kernel_rfl) (fun _ _ _ h => h) (Or.inl ⟨by rfl, ?_⟩) A ?_
    · intro ww hS
      clear hS
      go_simp
      try with_reducible rfl
    try simp only [Act.put, List.setIfInBounds_toArray]
    refine wpAnyH_ready (rs := [7]) (by kernel_rfl) (by simp) ?_
    refine AllReadyH.cons rfl (fun K hK => ?_) AllReadyH.nil
    go_simp
    refine Calls.mono (HC.out _ (hI.keep A) (hJ.keep A) (hT1.kept A)) ?_
    rintro r wdxxxx ⟨al, nl, cl, ah, nh, ch, rfl, i1, i2, L1, L2, bN⟩
    replace hZ := hZ.keep bN
    replace L1 := L1.low A.size
    replace L2 := L2.low A.size
    refine hK.out _ _ (nbelow_trans A bN) (fun _ => ?_)
    replace A := nbelow_trans A bN
    clear bN hK K
    try simp only [Act.put, List.setIfInBounds_toArray, List.set_cons_zero, List.set_cons_succ]
    refine wpAnyH_take (i := 8) (v := .tuple #[ivI false al nl cl el false ah nh ch eh, .int .i64 0]) rfl (by kernel_rfl) (by kernel_rfl) (by kernel_rfl) (fun _ _ _ h => h) (Or.inl ⟨by rfl, ?_⟩) A ?_
    · intro ww hS
      clear hS
      go_simp
      try with_reducible rfl
    try simp only [Act.put, List.setIfInBounds_toArray]
    refine wpAnyH_take (i := 9) (v := ivI false al nl cl el false ah nh ch eh) rfl (by kernel_rfl) (by kernel_rfl) (by kernel_rfl) (fun _ _ _ h => h) (Or.inl ⟨by rfl, ?_⟩) A ?_
    · intro ww hS
      clear hS
      go_simp
      try with_reducible rfl
    try simp only [Act.put]
    refine wpAnyH_take (i := 10) (v := .int .i64 0) rfl (by kernel_rfl) (by kernel_rfl) (by kernel_rfl) (fun _ _ _ h => h) (Or.inl ⟨by rfl, ?_⟩) A ?_
    · intro ww hS
      clear hS
      go_simp
      try with_reducible rfl
    try simp only [Act.put]
    refine wpAnyH_ready (rs := [12]) (by kernel_rfl) (by simp) ?_
    refine AllReadyH.cons rfl (fun K hK => ?_) AllReadyH.nil
    obtain ⟨⟨y0, y1, y2, y3, y4, y5⟩, g0, g1, g2, g3, g4, g5⟩ := hZ
    go_simp
    have s6 := six_ofI y0 y1 y2 y3 y4 y5 (fun _ q => by cases q) (fun _ q => by cases q) (fun _ q => by cases q) (fun _ q => by cases q) (fun _ q => by cases q) (fun _ q => by cases q)
    replace L1 := ownW_sixI L1 s6 (.bool false) (.slice al nl cl) (.int .i64 el) (.bool false) (.slice ah nh ch) (.int .i64 eh)
    replace L2 := ownW_sixI L2 s6 (.bool false) (.slice al nl cl) (.int .i64 el) (.bool false) (.slice ah nh ch) (.int .i64 eh)
    obtain ⟨c0, c1, c2, c3, c4, c5⟩ := six_is y0 y1 y2 y3 y4 y5 (.bool false) (.slice al nl cl) (.int .i64 el) (.bool false) (.slice ah nh ch) (.int .i64 eh)
    replace A := six_below A lb (.bool false) (.slice al nl cl) (.int .i64 el) (.bool false) (.slice ah nh ch) (.int .i64 eh)
    clear s6 y0 y1 y2 y3 y4 y5 g0 g1 g2 g3 g4 g5
    refine hK.out _ _ A (fun _ => ?_)
    clear hK K
    try simp only [Act.put, List.setIfInBounds_toArray, List.set_cons_zero, List.set_cons_succ]
    generalize ((((((wdxxxx.setCell ⟨b4, 0, none⟩ (.bool false)).setCell ⟨b4, 1, none⟩ (.slice al nl cl)).setCell ⟨b4, 2, none⟩ (.int .i64 el)).setCell ⟨b4, 3, none⟩ (.bool false)).setCell ⟨b4, 4, none⟩ (.slice ah nh ch)).setCell ⟨b4, 5, none⟩ (.int .i64 eh)) = wdxxxxx at *
    refine wpAnyH_ready (rs := [13]) (by kernel_rfl) (by simp) ?_
    refine AllReadyH.cons rfl (fun K hK => ?_) AllReadyH.nil
    go_simp
    refine hK.out _ _ A (fun _ => ?_)
    clear hK K
    try simp only [Act.put, List.setIfInBounds_toArray, List.set_cons_zero, List.set_cons_succ]
    refine wpAnyH_done (by kernel_rfl) ?_ _
    have A2 := nbelow_trans bA A
    replace f0 := dcarry_frozen A z0 f0
    replace f1 := dcarry_frozen A z1 f1
    replace f2 := dcarry_frozen A z2 f2
    replace f3 := dcarry_frozen A z3 f3
    replace f4 := dcarry_frozen A z4 f4
    replace f5 := dcarry_frozen A z5 f5
    replace z0 := dcarry_cell A z0
    replace z1 := dcarry_cell A z1
    replace z2 := dcarry_cell A z2
    replace z3 := dcarry_cell A z3
    replace z4 := dcarry_cell A z4
    replace z5 := dcarry_cell A z5
    clear k0 k1 k2 k3 hI hJ hT1 HC
    go_wp2_with fail
    have s6 := six_ofI z0 z1 z2 z3 z4 z5 (fun _ q => by cases q) (fun _ q => by cases q) (fun _ q => by cases q) (fun _ q => by cases q) (fun _ q => by cases q) (fun _ q => by cases q)
    exact bodyPost_ret (v := .tuple #[ivI false al nl cl el false ah nh ch eh, .int .i64 0]) (by simp [results, Tryz.results33, go_sem, z0, z1, z2, z3, z4, z5]) rfl ⟨al, nl, cl, ah, nh, ch, rfl, i1, i2, ownW_sixI (L1.low sA) s6 _ _ _ _ _ _, ownW_sixI (L2.low sA) s6 _ _ _ _ _ _, by repeat (first | (with_reducible exact A2) | (with_reducible refine Below.setCell ?_ (by simp) _))⟩

end Go.Proofs.YtkkldnnndlpblaaGreatDoor

namespace Go.Proofs.YtkkldnnndlpblaaGreatDoor
open Go.RowKit Ck

/-- may one ask for constant k at p bits -/
def askP (k p : Int) : Prop := 1 ≤ k ∧ k ≤ 7 ∧ 8 ≤ p ∧ p ≤ 8192

/-- a number of m units of 2^-w, as three fields -/
def isU (x : DT) (m w : Nat) : Prop := x.1 = false ∧ val x.2.2.2.2.1 = (uD m w).2.1 ∧ x.2.2.2.2.2 = (uD m w).2.2

def zDT : DT := (false, none, 0, 0, [], 0)

def ownT (B : Nat) (w : World) (x : DT) : Prop := OwnW B w x.2.1 x.2.2.1 x.2.2.2.1 x.2.2.2.2.1 ∧ x.2.2.1 ≤ 1024

theorem ownT.keep {B : Nat} {w w' : World} {x : DT} (h : ownT B w x) (b : Below w.heap.size w w') : ownT B w' x := ⟨h.1.keep b, h.2⟩

theorem ownT.inT {B : Nat} {w : World} {x : DT} (h : ownT B w x) : inT w x := ⟨h.1.1, by have := h.2; omega⟩

/-- what Const answers -/
def EnT (k p : Int) (x y : DT) (E : Int) : Prop := (E = 0 ∧ ∃ K P : Nat, k = (K : Int) ∧ p = (P : Int) ∧ 1 ≤ K ∧ K ≤ 7 ∧ 8 ≤ P ∧ P ≤ 8192 ∧ isU x (eLo K (P + 32)) (P + 32) ∧ isU y (eHi K (P + 32)) (P + 32)) ∨ (E = 2 ∧ ¬ askP k p ∧ x = zDT ∧ y = zDT)

theorem isU.form {x : DT} {m w : Nat} (h : isU x m w) : formD x.1 (val x.2.2.2.2.1) x.2.2.2.2.2 = uD m w := by
  obtain ⟨h1, h2, h3⟩ := h
  rw [h1, h2, h3]
  have := uD_again m w
  rw [uD_sign] at this
  exact this

theorem isU.right {x : DT} {m w : Nat} (h : isU x m w) (hb : blen m ≤ w + 40) (hw : w ≤ 20000) : rgT x = true := by
  obtain ⟨h1, h2, h3⟩ := h
  unfold rgT
  rw [h2, h3]
  exact (uD_right m w hb hw).2

theorem isU.rt {x y : DT} {m w n v : Nat} (h : isU x m w) (h' : isU y n v) (h1 : blen m ≤ w + 40) (h2 : blen n ≤ v + 40) (hw : w ≤ 20000) (hv : v ≤ 20000) : rtT x y = decide (m * 2 ^ v ≤ n * 2 ^ w) := by
  have e := uD_rt m n w v h1 h2 hw hv
  obtain ⟨a1, a2, a3⟩ := h
  obtain ⟨b1, b2, b3⟩ := h'
  unfold rtT
  rw [a1, a2, a3, b1, b2, b3, ← uD_sign m w, ← e, uD_sign n v, uD_sign m w]

theorem EnT.right {k p : Int} {x y : DT} (h : EnT k p x y 0) : rtT x y = true := by
  rcases h with ⟨-, K, P, -, -, h1, h7, h8, hp, hx, hy⟩ | ⟨h, -⟩
  · obtain ⟨b1, b2, -, -, hl⟩ := en_bl K (P + 32) h1 h7 (by omega)
    rw [hx.rt hy (by omega) (by omega) (by omega) (by omega), decide_eq_true (Nat.mul_le_mul_right _ hl)]
  · cases h

/-- an interval's cells -/
abbrev obT (x y : DT) : Obj := .cells #[.bool x.1, .slice x.2.1 x.2.2.1 x.2.2.2.1, .int .i64 x.2.2.2.2.2, .bool y.1, .slice y.2.1 y.2.2.1 y.2.2.2.1, .int .i64 y.2.2.2.2.2] 28

def AtT (b : Nat) (x y : DT) (w : World) : Prop := AtI b (.bool x.1) (.slice x.2.1 x.2.2.1 x.2.2.2.1) (.int .i64 x.2.2.2.2.2) (.bool y.1) (.slice y.2.1 y.2.2.1 y.2.2.2.1) (.int .i64 y.2.2.2.2.2) w

theorem AtT.keep {b : Nat} {x y : DT} {w w' : World} (h : AtT b x y w) (r : Below w.heap.size w w') : AtT b x y w' := AtI.keep h r

theorem att_new (x y : DT) (w : World) : AtT w.heap.size x y (w.alloc (obT x y)) := by
  refine ⟨?_, ?_, ?_, ?_, ?_, ?_⟩ <;> go_simp

set_option maxRecDepth 100000 in
set_option maxHeartbeats 2000000 in
theorem constE_calls (k p : Int) (h0 : 0 ≤ k) (h1 : k ≤ 255) (hp : -9223372036854775808 ≤ p ∧ p ≤ 9223372036854775807) (w : World) (hT : RecT w) (hB : Tab w) :
    Calls Tryz.prog 9 #[.int .u8 k, .int .i64 p] w fun r w' => ∃ (x y : DT) (E : Int), r = .returned (.tuple #[ivT x y, .int .i64 E]) ∧ EnT k p x y E ∧ ownT w.heap.size w' x ∧ ownT w.heap.size w' y ∧ Below w.heap.size w w' := by
  have bA := below_alloc w (.cells #[.bool false, .slice none 0 0, .int .i64 0, .bool false, .slice none 0 0, .int .i64 0] 28)
  have sA := bA.size
  by_cases hq : askP k p
  · obtain ⟨q1, q2, q3, q4⟩ := hq
    obtain ⟨K, rfl⟩ : ∃ K : Nat, k = (K : Int) := ⟨k.toNat, by omega⟩
    obtain ⟨P, rfl⟩ : ∃ P : Nat, p = (P : Int) := ⟨p.toNat, by omega⟩
    have hk : knB (K : Int) = true := decide_eq_true ⟨q1, q2⟩
    have HK : Hid _ := hk
    have n1 : ¬ (P : Int) < 8 := by omega
    have n2 : ¬ (8192 : Int) < (P : Int) := by omega
    have ew : IntKind.i64.wrap ((P : Int) + 32) = ((P + 32 : Nat) : Int) := by rw [IntKind.wrap_i64]; omega
    have EC : Hid (∀ W, RecT W → _) := fun W hW => encl_calls K (P + 32) (by omega) (by omega) (by omega) (by omega) W hW
    obtain ⟨b1, b2, -, -, hl⟩ := en_bl K (P + 32) (by omega) (by omega) (by omega)
    have SC : Hid (∀ (a : Option Addr) (n c : Nat) (a' : Option Addr) (n' c' : Nat) (_ : n ≤ 1024) (_ : n' ≤ 1024) (W : World), IsW W a n c (wordsOf (eLo K (P + 32))) → IsW W a' n' c' (wordsOf (eHi K (P + 32))) → Tab W → _) := fun a n c a' n' c' hn hn' W q q' t => spanIval_calls (eLo K (P + 32)) (eHi K (P + 32)) (P + 32) hl (by omega) (by omega) a n c a' n' c' hn hn' W q q' t
    have QL : Hid (isU (false, none, 0, 0, wordsOf (uD (eLo K (P + 32)) (P + 32)).2.1, (uD (eLo K (P + 32)) (P + 32)).2.2) (eLo K (P + 32)) (P + 32)) := ⟨rfl, val_words _, rfl⟩
    have QH : Hid (isU (false, none, 0, 0, wordsOf (uD (eHi K (P + 32)) (P + 32)).2.1, (uD (eHi K (P + 32)) (P + 32)).2.2) (eHi K (P + 32)) (P + 32)) := ⟨rfl, val_words _, rfl⟩
    have EN : Hid (∀ (al : Option Addr) (nl cl : Nat) (ah : Option Addr) (nh ch : Nat), EnT (K : Int) (P : Int) (false, al, nl, cl, wordsOf (uD (eLo K (P + 32)) (P + 32)).2.1, (uD (eLo K (P + 32)) (P + 32)).2.2) (false, ah, nh, ch, wordsOf (uD (eHi K (P + 32)) (P + 32)).2.1, (uD (eHi K (P + 32)) (P + 32)).2.2) 0) := fun al nl cl ah nh ch => Or.inl ⟨rfl, K, P, rfl, rfl, by omega, by omega, by omega, by omega, ⟨rfl, val_words _, rfl⟩, ⟨rfl, val_words _, rfl⟩⟩
    clear b1 b2 hl QL QH
    generalize (uD (eLo K (P + 32)) (P + 32)).2.2 = el at *
    generalize (uD (eHi K (P + 32)) (P + 32)).2.2 = eh at *
    generalize wordsOf (uD (eLo K (P + 32)) (P + 32)).2.1 = xl at *
    generalize wordsOf (uD (eHi K (P + 32)) (P + 32)).2.1 = xh at *
    generalize wordsOf (eLo K (P + 32)) = zl at *
    generalize wordsOf (eHi K (P + 32)) = zh at *
    generalize P + 32 = wd at *
    clear hk q1 q2 q3 q4 hp
    go_enter Tryz.func9, Tryz.ntmps9
    go_wp2_with fail
    refine Calls.mono (known_calls _ h0 h1 _) ?_
    rintro r w1 ⟨rfl, rfl⟩
    rw [HK.out]
    go_wp2_with fail
    refine Calls.mono (EC.out _ (hT.kept bA)) ?_
    rintro r w1 ⟨a, n, c, a', n', c', rfl, hn, hO, hn', hO', b1⟩
    have b2 := below_trans bA b1
    go_wp2_with fail
    refine Calls.mono (SC.out a n c a' n' c' hn hn' _ hO.1 hO'.1 (hB.kept b2)) ?_
    rintro r w2 ⟨al, nl, cl, ah, nh, ch, rfl, hl1, hl2, L1, L2, b3⟩
    have s2 := b2.size
    replace L1 := L1.low s2
    replace L2 := L2.low s2
    have b4 := below_trans b2 b3
    obtain ⟨⟨z0, z1, z2, z3, z4, z5⟩, f0, f1, f2, f3, f4, f5⟩ := ((zi_new w).keep b1).keep b3
    clear b1 b3 b2
    go_wp2_with fail
    have s6 := six_ofI z0 z1 z2 z3 z4 z5 (fun _ q => by cases q) (fun _ q => by cases q) (fun _ q => by cases q) (fun _ q => by cases q) (fun _ q => by cases q) (fun _ q => by cases q)
    exact bodyPost_ret (v := .tuple #[ivI false al nl cl el false ah nh ch eh, .int .i64 0]) (by simp [results, Tryz.results9, go_sem, z0, z1, z2, z3, z4, z5]) rfl ⟨(false, al, nl, cl, xl, el), (false, ah, nh, ch, xh, eh), 0, rfl, EN.out al nl cl ah nh ch, ⟨ownW_sixI L1 s6 _ _ _ _ _ _, hl1⟩, ⟨ownW_sixI L2 s6 _ _ _ _ _ _, hl2⟩, by repeat (first | (with_reducible exact b4) | (with_reducible refine Below.setCell ?_ (by simp) _))⟩
  · have hc : knB k = false ∨ (knB k = true ∧ p < 8) ∨ (knB k = true ∧ ¬ p < 8 ∧ 8192 < p) := by
      by_cases h : 1 ≤ k ∧ k ≤ 7
      · have hk : knB k = true := decide_eq_true h
        by_cases h2 : p < 8
        · exact Or.inr (Or.inl ⟨hk, h2⟩)
        · by_cases h3 : 8192 < p
          · exact Or.inr (Or.inr ⟨hk, h2, h3⟩)
          · exact absurd ⟨h.1, h.2, by omega, by omega⟩ hq
      · exact Or.inl (decide_eq_false h)
    have ZN : EnT k p zDT zDT 2 := Or.inr ⟨rfl, hq, rfl, rfl⟩
    clear hq hT hB hp
    rcases hc with hk | ⟨hk, h2⟩ | ⟨hk, h2, h3⟩
    all_goals
      have HK : Hid _ := hk
      clear hk
      go_enter Tryz.func9, Tryz.ntmps9
      go_wp2_with fail
      refine Calls.mono (known_calls _ h0 h1 _) ?_
      rintro r w1 ⟨rfl, rfl⟩
      rw [HK.out]
      go_wp2_with fail
      exact bodyPost_ret (v := .tuple #[zIvI, .int .i64 2]) (by simp [results, Tryz.results9, go_sem]) rfl ⟨zDT, zDT, 2, rfl, ZN, ⟨ownW_nil _ _, by decide⟩, ⟨ownW_nil _ _, by decide⟩, bA⟩

end Go.Proofs.YtkkldnnndlpblaaGreatDoor

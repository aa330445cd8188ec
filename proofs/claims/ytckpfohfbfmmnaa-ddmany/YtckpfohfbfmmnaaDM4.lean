/- Polynomials by pairs: document. -/
import Derived.Test.YtckpfohfbfmmnaaDM3
namespace Go.Proofs.Ytckpfohfbfmmnaa
open Go.RowKit EP
attribute [local go_sem] ran_store

theorem one_V : V 4607182418800017408 = ((2 ^ 1074 : Nat) : Int) := by decide +kernel
theorem mone_V : V 13830554455654793216 = - ((2 ^ 1074 : Nat) : Int) := by decide +kernel
theorem cmp_gt (a b : Int) : (some (compare a b) == some Ordering.gt) = decide (b < a) := by
  show (some (compareOfLessAndEq a b) == some Ordering.gt) = _
  unfold compareOfLessAndEq
  by_cases h : a < b
  · rw [if_pos h, decide_eq_false (by omega)]; rfl
  · rw [if_neg h]
    by_cases h2 : a = b
    · rw [if_pos h2, decide_eq_false (by omega)]; rfl
    · rw [if_neg h2, decide_eq_true (by omega)]; rfl
theorem cmp_lt (a b : Int) : (some (compare a b) == some Ordering.lt) = decide (a < b) := by
  show (some (compareOfLessAndEq a b) == some Ordering.lt) = _
  unfold compareOfLessAndEq
  by_cases h : a < b
  · rw [if_pos h, decide_eq_true h]; rfl
  · rw [if_neg h, decide_eq_false h]
    by_cases h2 : a = b
    · rw [if_pos h2]; rfl
    · rw [if_neg h2]; rfl
theorem gt_parts (x : Nat) (fx : finB x = true) : gt1 x = ((Ieee.double.order x 4607182418800017408 == some .gt) || (Ieee.double.order x 13830554455654793216 == some .lt)) := by
  unfold gt1
  rw [order_fin _ _ ((absF_V x).2.trans fx) (by decide), order_fin _ _ fx (by decide), order_fin _ _ fx (by decide), cmp_gt, cmp_gt, cmp_lt, (absF_V x).1, one_V, mone_V]
  unfold amt
  rw [← Bool.decide_or]
  refine decide_eq_decide.2 ?_
  generalize ((2 ^ 1074 : Nat) : Int) = z
  generalize V x = v
  omega
theorem amt_le1 (x : Nat) (fx : finB x = true) (h : gt1 x = false) : amt x ≤ 2 ^ 1074 := by
  unfold gt1 at h
  rw [order_fin _ _ ((absF_V x).2.trans fx) (by decide), cmp_gt, (absF_V x).1, one_V] at h
  have := of_decide_eq_false h
  exact Int.ofNat_le.1 (Int.not_lt.1 this)
theorem okFs_one (x : Nat) : okFs [x] = rightP x 0 := by unfold okFs; simp
theorem checkE_3 {xs ys : List Nat} (h : checkE xs ys = 3) : 1024 < xs.length := by
  unfold checkE at h
  by_cases hl : 1024 < xs.length
  · exact hl
  · rw [if_neg hl] at h; split at h <;> exact absurd h (by decide)
theorem checkE_0 {xs ys : List Nat} (h : checkE xs ys = 0) : ¬ 1024 < xs.length ∧ okFs xs = true ∧ okFs ys = true := by
  unfold checkE at h
  by_cases hl : 1024 < xs.length
  · rw [if_pos hl] at h; exact absurd h (by decide)
  · rw [if_neg hl] at h
    split at h
    · rename_i q; exact ⟨hl, Bool.and_eq_true_iff.1 q⟩
    · exact absurd h (by decide)
theorem checkE_2 {xs : List Nat} (h : checkE xs [] = 2) : ¬ 1024 < xs.length ∧ okFs xs = false := by
  unfold checkE at h
  by_cases hl : 1024 < xs.length
  · rw [if_pos hl] at h; exact absurd h (by decide)
  · rw [if_neg hl, show okFs [] = true from rfl, Bool.and_true] at h
    refine ⟨hl, ?_⟩
    cases ho : okFs xs with
    | false => rfl
    | true => rw [ho] at h; exact absurd h (by decide)
theorem polyE_3 {xs : List Nat} {x : Nat} (h : checkE xs [] = 3) : polyE xs x = 3 := by
  have hl := checkE_3 h
  have : checkE xs [x] = 3 := by unfold checkE; rw [if_pos hl]
  unfold polyE; rw [this]; rfl
theorem polyE_2 {xs : List Nat} {x : Nat} (h : checkE xs [] = 2) : polyE xs x = 2 := by
  obtain ⟨hl, ho⟩ := checkE_2 h
  have : checkE xs [x] = 2 := by unfold checkE; rw [if_neg hl, ho]; rfl
  unfold polyE; rw [this]; rfl
theorem polyE_bad {xs : List Nat} {x : Nat} (h : checkE xs [] = 0) (hr : rightP x 0 = false) : polyE xs x = 2 := by
  obtain ⟨hl, ho, -⟩ := checkE_0 h
  have : checkE xs [x] = 2 := by unfold checkE; rw [if_neg hl, ho, okFs_one, hr]; rfl
  unfold polyE; rw [this]; rfl
theorem polyE_ok {xs : List Nat} {x : Nat} (h : checkE xs [] = 0) (hr : rightP x 0 = true) : polyE xs x = if gt1 x then 2 else 0 := by
  obtain ⟨hl, ho, -⟩ := checkE_0 h
  have : checkE xs [x] = 0 := by unfold checkE; rw [if_neg hl, ho, okFs_one, hr]; rfl
  unfold polyE; rw [this]; rfl

set_option maxRecDepth 100000 in
set_option maxHeartbeats 4000000 in
theorem rPoly_three (a : Option Addr) (len cap : Nat) (xs : List Nat) (x0 : Nat) (w : World) (h : IsF w a len cap xs) (hm : len ≤ 17592186044416) (hs : smallFs xs) (hE : checkE xs [] = 3) :
    Calls Try.prog 44 #[.slice a len cap, .float .f64 x0] w (AnsS w 3 (foldY x0 xs 0 0)) := by
  have HC : Hid _ := fun w' g => rFloats_calls a len cap xs w' g hs hm
  have HL : Hid (len = xs.length) := h.1
  have hcap := h.2.1.1
  have b0 := below_alloc1 w (.cells #[.float .f64 0, .float .f64 0] 39)
  rw [hE] at HC
  clear hs hE
  clear HL hcap hm
  go_enter Try.func44, Try.ntmps44
  go_wp2_with fail
  refine Calls.mono (HC.out _ (h.keep b0)) ?_
  rintro e w1 ⟨rfl, rfl⟩
  go_wp2_with fail
  exact bodyPost_ret (v := .tuple #[.agg #[.float .f64 0, .float .f64 0], .int .i64 3]) (by simp [results, Try.results44, go_sem]) rfl ⟨0, 0, rfl, by repeat (first | exact Below.refl _ _ | assumption | refine below_drewN ?_ _ | refine Below.setCell ?_ (by first | (simp; done) | (simp; omega) | omega) _ | refine Below.alloc ?_ (by first | (simp; done) | (simp; omega) | omega) _), fun e => absurd e (by decide), fun _ => ⟨rfl, rfl⟩⟩

set_option maxRecDepth 100000 in
set_option maxHeartbeats 4000000 in
theorem rPoly_two (a : Option Addr) (len cap : Nat) (xs : List Nat) (x0 : Nat) (w : World) (h : IsF w a len cap xs) (hm : len ≤ 17592186044416) (hs : smallFs xs) (hE : checkE xs [] = 2) :
    Calls Try.prog 44 #[.slice a len cap, .float .f64 x0] w (AnsS w 2 (foldY x0 xs 0 0)) := by
  have HC : Hid _ := fun w' g => rFloats_calls a len cap xs w' g hs hm
  have HL : Hid (len = xs.length) := h.1
  have hcap := h.2.1.1
  have b0 := below_alloc1 w (.cells #[.float .f64 0, .float .f64 0] 39)
  rw [hE] at HC
  clear hs hE
  clear HL hcap hm
  go_enter Try.func44, Try.ntmps44
  go_wp2_with fail
  refine Calls.mono (HC.out _ (h.keep b0)) ?_
  rintro e w1 ⟨rfl, rfl⟩
  go_wp2_with fail
  exact bodyPost_ret (v := .tuple #[.agg #[.float .f64 0, .float .f64 0], .int .i64 2]) (by simp [results, Try.results44, go_sem]) rfl ⟨0, 0, rfl, by repeat (first | exact Below.refl _ _ | assumption | refine below_drewN ?_ _ | refine Below.setCell ?_ (by first | (simp; done) | (simp; omega) | omega) _ | refine Below.alloc ?_ (by first | (simp; done) | (simp; omega) | omega) _), fun e => absurd e (by decide), fun _ => ⟨rfl, rfl⟩⟩

set_option maxRecDepth 100000 in
set_option maxHeartbeats 4000000 in
theorem rPoly_bad (a : Option Addr) (len cap : Nat) (xs : List Nat) (x0 : Nat) (w : World) (h : IsF w a len cap xs) (hm : len ≤ 17592186044416) (hs : smallFs xs) (hE : checkE xs [] = 0) (hx : x0 < 18446744073709551616) (hr : rightP x0 0 = false) :
    Calls Try.prog 44 #[.slice a len cap, .float .f64 x0] w (AnsS w 2 (foldY x0 xs 0 0)) := by
  have HC : Hid _ := fun w' g => rFloats_calls a len cap xs w' g hs hm
  have HL : Hid (len = xs.length) := h.1
  have hcap := h.2.1.1
  have b0 := below_alloc1 w (.cells #[.float .f64 0, .float .f64 0] 39)
  rw [hE] at HC
  clear hs hE
  have HF : Hid _ := fun w => rFloat_any x0 w hx
  rw [hr] at HF
  clear hx hr
  clear HL hcap hm
  go_enter Try.func44, Try.ntmps44
  go_wp2_with fail
  refine Calls.mono (HC.out _ (h.keep b0)) ?_
  rintro e w1 ⟨rfl, rfl⟩
  go_wp2_with fail
  refine Calls.mono (HF.out _) ?_
  rintro e w1 ⟨rfl, rfl⟩
  go_wp2_with fail
  exact bodyPost_ret (v := .tuple #[.agg #[.float .f64 0, .float .f64 0], .int .i64 2]) (by simp [results, Try.results44, go_sem]) rfl ⟨0, 0, rfl, by repeat (first | exact Below.refl _ _ | assumption | refine below_drewN ?_ _ | refine Below.setCell ?_ (by first | (simp; done) | (simp; omega) | omega) _ | refine Below.alloc ?_ (by first | (simp; done) | (simp; omega) | omega) _), fun e => absurd e (by decide), fun _ => ⟨rfl, rfl⟩⟩

set_option maxRecDepth 100000 in
set_option maxHeartbeats 4000000 in
theorem rPoly_above (a : Option Addr) (len cap : Nat) (xs : List Nat) (x0 : Nat) (w : World) (h : IsF w a len cap xs) (hm : len ≤ 17592186044416) (hs : smallFs xs) (hE : checkE xs [] = 0) (hx : x0 < 18446744073709551616) (hr : rightP x0 0 = true) (hg : (Ieee.double.order x0 4607182418800017408 == some .gt) = true) :
    Calls Try.prog 44 #[.slice a len cap, .float .f64 x0] w (AnsS w 2 (foldY x0 xs 0 0)) := by
  have HC : Hid _ := fun w' g => rFloats_calls a len cap xs w' g hs hm
  have HL : Hid (len = xs.length) := h.1
  have hcap := h.2.1.1
  have b0 := below_alloc1 w (.cells #[.float .f64 0, .float .f64 0] 39)
  rw [hE] at HC
  clear hs hE
  have HF : Hid _ := fun w => rFloat_any x0 w hx
  rw [hr] at HF
  clear hx hr
  have o1 : (FloatKind.f64.format.order x0 4607182418800017408 == some .gt) = true := hg
  clear hg
  clear HL hcap hm
  go_enter Try.func44, Try.ntmps44
  go_wp2_with fail
  refine Calls.mono (HC.out _ (h.keep b0)) ?_
  rintro e w1 ⟨rfl, rfl⟩
  go_wp2_with fail
  refine Calls.mono (HF.out _) ?_
  rintro e w1 ⟨rfl, rfl⟩
  go_wp2_with fail
  exact bodyPost_ret (v := .tuple #[.agg #[.float .f64 0, .float .f64 0], .int .i64 2]) (by simp [results, Try.results44, go_sem]) rfl ⟨0, 0, rfl, by repeat (first | exact Below.refl _ _ | assumption | refine below_drewN ?_ _ | refine Below.setCell ?_ (by first | (simp; done) | (simp; omega) | omega) _ | refine Below.alloc ?_ (by first | (simp; done) | (simp; omega) | omega) _), fun e => absurd e (by decide), fun _ => ⟨rfl, rfl⟩⟩

set_option maxRecDepth 100000 in
set_option maxHeartbeats 4000000 in
theorem rPoly_below (a : Option Addr) (len cap : Nat) (xs : List Nat) (x0 : Nat) (w : World) (h : IsF w a len cap xs) (hm : len ≤ 17592186044416) (hs : smallFs xs) (hE : checkE xs [] = 0) (hx : x0 < 18446744073709551616) (hr : rightP x0 0 = true) (hg : (Ieee.double.order x0 4607182418800017408 == some .gt) = false) (hl : (Ieee.double.order x0 13830554455654793216 == some .lt) = true) :
    Calls Try.prog 44 #[.slice a len cap, .float .f64 x0] w (AnsS w 2 (foldY x0 xs 0 0)) := by
  have HC : Hid _ := fun w' g => rFloats_calls a len cap xs w' g hs hm
  have HL : Hid (len = xs.length) := h.1
  have hcap := h.2.1.1
  have b0 := below_alloc1 w (.cells #[.float .f64 0, .float .f64 0] 39)
  rw [hE] at HC
  clear hs hE
  have HF : Hid _ := fun w => rFloat_any x0 w hx
  rw [hr] at HF
  clear hx hr
  have o1 : (FloatKind.f64.format.order x0 4607182418800017408 == some .gt) = false := hg
  have o2 : (FloatKind.f64.format.order x0 13830554455654793216 == some .lt) = true := hl
  clear hg hl
  clear HL hcap hm
  go_enter Try.func44, Try.ntmps44
  go_wp2_with fail
  refine Calls.mono (HC.out _ (h.keep b0)) ?_
  rintro e w1 ⟨rfl, rfl⟩
  go_wp2_with fail
  refine Calls.mono (HF.out _) ?_
  rintro e w1 ⟨rfl, rfl⟩
  go_wp2_with fail
  exact bodyPost_ret (v := .tuple #[.agg #[.float .f64 0, .float .f64 0], .int .i64 2]) (by simp [results, Try.results44, go_sem]) rfl ⟨0, 0, rfl, by repeat (first | exact Below.refl _ _ | assumption | refine below_drewN ?_ _ | refine Below.setCell ?_ (by first | (simp; done) | (simp; omega) | omega) _ | refine Below.alloc ?_ (by first | (simp; done) | (simp; omega) | omega) _), fun e => absurd e (by decide), fun _ => ⟨rfl, rfl⟩⟩

set_option maxRecDepth 100000 in
set_option maxHeartbeats 4000000 in
theorem rPoly_good (a : Option Addr) (len cap : Nat) (xs : List Nat) (x0 : Nat) (w : World) (h : IsF w a len cap xs) (hm : len ≤ 17592186044416) (hs : smallFs xs) (hE : checkE xs [] = 0) (hx : x0 < 18446744073709551616) (hr : rightP x0 0 = true) (hg : (Ieee.double.order x0 4607182418800017408 == some .gt) = false) (hl : (Ieee.double.order x0 13830554455654793216 == some .lt) = false) :
    Calls Try.prog 44 #[.slice a len cap, .float .f64 x0] w (AnsS w 0 (foldY x0 xs 0 0)) := by
  have HC : Hid _ := fun w' g => rFloats_calls a len cap xs w' g hs hm
  have HL : Hid (len = xs.length) := h.1
  have hcap := h.2.1.1
  have b0 := below_alloc1 w (.cells #[.float .f64 0, .float .f64 0] 39)
  rw [hE] at HC
  clear hs hE
  have HF : Hid _ := fun w => rFloat_any x0 w hx
  rw [hr] at HF
  clear hx hr
  have o1 : (FloatKind.f64.format.order x0 4607182418800017408 == some .gt) = false := hg
  have o2 : (FloatKind.f64.format.order x0 13830554455654793216 == some .lt) = false := hl
  clear hg hl
  go_enter Try.func44, Try.ntmps44
  go_wp2_with fail
  refine Calls.mono (HC.out _ (h.keep b0)) ?_
  rintro e w1 ⟨rfl, rfl⟩
  go_wp2_with fail
  refine Calls.mono (HF.out _) ?_
  rintro e w1 ⟨rfl, rfl⟩
  go_wp2_with fail
  go_loopw [8] (fun i wr => ∃ (k s t : Nat), k ≤ len ∧ i = .int .i64 k ∧ wr.cell? ⟨w.heap.size + 1, 0, none⟩ = some (.float .f64 s) ∧ wr.cell? ⟨w.heap.size + 1, 1, none⟩ = some (.float .f64 t) ∧ wr.frozen? ⟨w.heap.size + 1, 0, none⟩ = false ∧ wr.frozen? ⟨w.heap.size + 1, 1, none⟩ = false ∧ wr.cell? ⟨w.heap.size, 0, none⟩ = some (.float .f64 0) ∧ wr.cell? ⟨w.heap.size, 1, none⟩ = some (.float .f64 0) ∧ wr.frozen? ⟨w.heap.size, 0, none⟩ = false ∧ wr.frozen? ⟨w.heap.size, 1, none⟩ = false ∧ Below w.heap.size w wr ∧ Hid (w.heap.size + 2 ≤ wr.heap.size) ∧ Hid (∀ r, foldY x0 xs 0 0 = some r → foldY x0 (xs.drop k) s t = some r)) (fun i _ => len - (intOf i).toNat)
  case atStart => exact ⟨0, 0, 0, by omega, rfl, by go_simp, by go_simp, by go_simp, by go_simp, by go_simp, by go_simp, by go_simp, by go_simp, by repeat (first | exact Below.refl _ _ | refine Below.alloc ?_ (by simp) _), by rw [Hid]; simp, fun r hr => hr⟩
  case round =>
    obtain ⟨k, s, t, hk, rfl, m0, m1, f0, f1, z0, z1, g0, g1, hbr, HZ, HR⟩ := hrel
    by_cases hlt : k < len
    · obtain ⟨bb, off, rfl, hbl, hc⟩ := (h.keep hbr).2.2 k hlt
      obtain ⟨x, hx⟩ : ∃ x, x = xs.getD k 0 := ⟨_, rfl⟩
      rw [← hx] at hc
      have HX : Hid (xs.drop k = x :: xs.drop (k + 1)) := by rw [Hid, hx]; exact drop_cons xs k (by rw [← HL.out]; exact hlt)
      clear hx
      go_wp2_with fail
      go_region_with (first
        | (go_at_call 77; refine (rBy_calls s t x0 _).mono ?_; rintro e w3 ⟨u, v, rfl, b3, H3⟩; have HB : Hid (∀ r, byP s t x0 = some r → u = r.1 ∧ v = r.2) := H3; replace f0 : w3.frozen? ⟨w.heap.size + 1, 0, none⟩ = false := pcarryF (v := .float .f64 s) b3 (by go_simp) (by go_simp); replace f1 : w3.frozen? ⟨w.heap.size + 1, 1, none⟩ = false := pcarryF (v := .float .f64 t) b3 (by go_simp) (by go_simp); replace g0 : w3.frozen? ⟨w.heap.size, 0, none⟩ = false := pcarryF (v := .float .f64 0) b3 (by go_simp) (by go_simp); replace g1 : w3.frozen? ⟨w.heap.size, 1, none⟩ = false := pcarryF (v := .float .f64 0) b3 (by go_simp) (by go_simp); replace m0 : w3.cell? ⟨w.heap.size + 1, 0, none⟩ = some (.float .f64 s) := pcarry b3 (by go_simp); replace m1 : w3.cell? ⟨w.heap.size + 1, 1, none⟩ = some (.float .f64 t) := pcarry b3 (by go_simp); replace z0 : w3.cell? ⟨w.heap.size, 0, none⟩ = some (.float .f64 0) := pcarry b3 (by go_simp); replace z1 : w3.cell? ⟨w.heap.size, 1, none⟩ = some (.float .f64 0) := pcarry b3 (by go_simp); replace hc : w3.cell? ⟨bb, off + k, none⟩ = some (.float .f64 x) := pcarry b3 (by go_simp); replace hbr := ebelow_trans (show Below w.heap.size w _ from by repeat (first | exact hbr | refine Below.drew ?_ | refine below_drewN ?_ _)) b3; replace HZ : Hid (w.heap.size + 2 ≤ w3.heap.size) := Nat.le_trans HZ.out b3.size; clear b3 H3)
        | (go_at_call 52; refine (rPlus_calls u v x 0 _).mono ?_; rintro e w2 ⟨p, q, rfl, b2, H2⟩; have n0 : w2.cell? ⟨w.heap.size + 1, 0, none⟩ = some (.float .f64 s) := pcarry b2 (by go_simp); have n1 : w2.cell? ⟨w.heap.size + 1, 1, none⟩ = some (.float .f64 t) := pcarry b2 (by go_simp); have h0 : w2.frozen? ⟨w.heap.size + 1, 0, none⟩ = false := pcarryF (v := .float .f64 s) b2 (by go_simp) (by go_simp); have h1 : w2.frozen? ⟨w.heap.size + 1, 1, none⟩ = false := pcarryF (v := .float .f64 t) b2 (by go_simp) (by go_simp); have y0 : w2.cell? ⟨w.heap.size, 0, none⟩ = some (.float .f64 0) := pcarry b2 (by go_simp); have y1 : w2.cell? ⟨w.heap.size, 1, none⟩ = some (.float .f64 0) := pcarry b2 (by go_simp); have i0 : w2.frozen? ⟨w.heap.size, 0, none⟩ = false := pcarryF (v := .float .f64 0) b2 (by go_simp) (by go_simp); have i1 : w2.frozen? ⟨w.heap.size, 1, none⟩ = false := pcarryF (v := .float .f64 0) b2 (by go_simp) (by go_simp); have bw := ebelow_trans (show Below w.heap.size w _ from by repeat (first | exact hbr | refine Below.drew ?_ | refine below_drewN ?_ _)) b2; have HZ2 : Hid (w.heap.size + 2 ≤ w2.heap.size) := Nat.le_trans HZ.out b2.size; have H2' : Hid (∀ r, sumP u v x 0 = some r → p = r.1 ∧ q = r.2) := H2; clear b2 H2 m0 m1 f0 f1 z0 z1 g0 g1))
      all_goals go_wp2_with fail
      all_goals go_round
      all_goals first
        | (refine ⟨k + 1, p, q, by omega, by go_num, by go_simp, by go_simp, by go_simp, by go_simp, by go_simp, by go_simp, by go_simp, by go_simp, ?_, by have := HZ2.out; rw [Hid]; simp; omega, fun r hr => ?_⟩
           · repeat (first | exact Below.refl _ _ | assumption | refine Below.drew ?_ | refine below_drewN ?_ _ | refine Below.setCell ?_ (by first | (simp; done) | (simp; omega) | omega) _ | refine Below.alloc ?_ (by first | (simp; done) | (simp; omega) | omega) _)
           · have h1 := HR.out r hr
             rw [HX.out] at h1
             obtain ⟨r1, e1, e2⟩ := Option.bind_eq_some_iff.1 h1
             obtain ⟨rfl, rfl⟩ := HB.out r1 e1
             obtain ⟨p', e3, e4⟩ := Option.bind_eq_some_iff.1 e2
             obtain ⟨rfl, rfl⟩ := H2'.out p' e3
             exact e4)
        | (simp [intOf]; omega)
    · have hkl : k = len := by omega
      subst hkl
      go_wp2_with fail
      refine bodyPost_ret (v := .tuple #[.agg #[.float .f64 s, .float .f64 t], .int .i64 0]) (by simp [results, Try.results44, go_sem, z0, z1]) rfl ⟨s, t, rfl, by repeat (first | exact Below.refl _ _ | assumption | refine below_drewN ?_ _ | refine Below.setCell ?_ (by first | (simp; done) | (simp; omega) | omega) _ | refine Below.alloc ?_ (by first | (simp; done) | (simp; omega) | omega) _), fun _ r hr => ?_, fun e => absurd rfl e⟩
      have h1 := HR.out r hr
      rw [show xs.drop k = [] from List.drop_eq_nil_iff.2 (by rw [HL.out]; exact Nat.le_refl _)] at h1
      obtain rfl := Option.some.inj h1
      exact ⟨rfl, rfl⟩

theorem rPoly_calls (a : Option Addr) (len cap : Nat) (xs : List Nat) (x0 : Nat) (w : World) (h : IsF w a len cap xs) (hm : len ≤ 17592186044416) (hs : smallFs xs) (hx : x0 < 18446744073709551616) :
    Calls Try.prog 44 #[.slice a len cap, .float .f64 x0] w (AnsS w (polyE xs x0) (foldY x0 xs 0 0)) := by
  rcases checkE_cases xs [] with hE | hE | hE
  · cases hr : rightP x0 0 with
    | false => rw [polyE_bad hE hr]; exact rPoly_bad a len cap xs x0 w h hm hs hE hx hr
    | true =>
      have fx := (right_PB x0 0 hr).1
      have hg := gt_parts x0 fx
      rw [polyE_ok hE hr, hg]
      cases h1 : (Ieee.double.order x0 4607182418800017408 == some .gt) with
      | true => exact rPoly_above a len cap xs x0 w h hm hs hE hx hr h1
      | false =>
        cases h2 : (Ieee.double.order x0 13830554455654793216 == some .lt) with
        | true => exact rPoly_below a len cap xs x0 w h hm hs hE hx hr h1 h2
        | false => exact rPoly_good a len cap xs x0 w h hm hs hE hx hr h1 h2
  · rw [polyE_2 hE]; exact rPoly_two a len cap xs x0 w h hm hs hE
  · rw [polyE_3 hE]; exact rPoly_three a len cap xs x0 w h hm hs hE
end Go.Proofs.Ytckpfohfbfmmnaa

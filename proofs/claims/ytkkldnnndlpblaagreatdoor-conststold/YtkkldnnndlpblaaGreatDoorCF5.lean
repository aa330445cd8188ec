/- Package consts: a constant, enclosed: sums of series. -/
import Derived.Test.YtkkldnnndlpblaaGreatDoorCF4
namespace Go.Proofs.YtkkldnnndlpblaaGreatDoor
open Go.RowKit Ck

/-- the recipes in their variable -/
def RecT (w : World) : Prop := 0 < w.heap.size ∧ ∃ bk ck : Nat → Nat, ∀ k, 1 ≤ k → k ≤ 7 → w.cell? ⟨0, 2 * k, none⟩ = some (.int .u8 (ov k)) ∧ (ov k = 0 → ∃ cap, (rec0 k).length ≤ cap ∧ w.cell? ⟨0, 2 * k + 1, none⟩ = some (.slice (some ⟨bk k, ck k, none⟩) (rec0 k).length cap) ∧ ∀ i p, (rec0 k)[i]? = some p → PAt w (bk k) (ck k + 4 * i) p.kind p.t p.a p.off)
theorem RecT.kept {w w' : World} (h : RecT w) (b : Below w.heap.size w w') : RecT w' := by
  obtain ⟨h0, bk, ck, h1⟩ := h
  refine ⟨Nat.lt_of_lt_of_le h0 b.size, bk, ck, fun k h2 h3 => ?_⟩
  obtain ⟨h4, h5⟩ := h1 k h2 h3
  refine ⟨cKeep b h4, fun h6 => ?_⟩
  obtain ⟨cap, hc, h7, h8⟩ := h5 h6
  exact ⟨cap, hc, cKeep b h7, fun i p hp => (h8 i p hp).keepS (Ks.of_below (S := fun _ => False) b) (fun e => e)⟩
theorem tA_snoc (w : Nat) (s : Bool) (p : Pt) : ∀ l : List Pt, tA (l ++ [p]) w s = tA l w s + sm p w s (cnt p w) := by
  intro l
  induction l with
  | nil => simp [tA]
  | cons q l ih => simp only [List.cons_append, tA, ih]; omega
theorem tU_snoc (w : Nat) (p : Pt) : ∀ l : List Pt, tU (l ++ [p]) w = tU l w + (cnt p w + 2) := by
  intro l
  induction l with
  | nil => simp [tU]
  | cons q l ih => simp only [List.cons_append, tU, ih]; omega
theorem ptake_snoc {l : List Pt} {i : Nat} {p : Pt} (h : l[i]? = some p) : l.take (i + 1) = l.take i ++ [p] := by
  rw [List.take_add_one, h]; rfl
theorem tA_mono (w : Nat) (s : Bool) (l : List Pt) (i : Nat) : tA (l.take i) w s ≤ tA l w s := by
  induction l generalizing i with
  | nil => simp [tA]
  | cons p l ih =>
    cases i with
    | zero => simp [tA]
    | succ i => simp only [List.take_succ_cons, tA]; have := ih i; omega
theorem tU_mono (w : Nat) (l : List Pt) (i : Nat) : tU (l.take i) w ≤ tU l w := by
  induction l generalizing i with
  | nil => simp [tU]
  | cons p l ih =>
    cases i with
    | zero => simp [tU]
    | succ i => simp only [List.take_succ_cons, tU]; have := ih i; omega
theorem sm_le (p : Pt) (w : Nat) (s : Bool) (hp : ok p) : ∀ n, sm p w s n ≤ n * (1024 * 2 ^ w) := by
  intro n
  induction n with
  | zero => simp [sm]
  | succ n ih =>
    rw [sm_step, Nat.add_mul, Nat.one_mul]
    have : term p w n ≤ 1024 * 2 ^ w := Nat.le_trans (Nat.div_le_self _ _) (Nat.mul_le_mul_right _ (by have := hp.2.1; omega))
    split <;> omega
theorem tA_le (w : Nat) (s : Bool) : ∀ l : List Pt, (∀ p ∈ l, ok p) → tA l w s ≤ l.length * ((w + 64) * (1024 * 2 ^ w)) := by
  intro l
  induction l with
  | nil => intro _; simp [tA]
  | cons p l ih =>
    intro h
    have h1 := ih (fun q hq => h q (List.mem_cons_of_mem _ hq))
    have h2 := sm_le p w s (h p List.mem_cons_self) (cnt p w)
    have h3 : cnt p w * (1024 * 2 ^ w) ≤ (w + 64) * (1024 * 2 ^ w) := Nat.mul_le_mul_right _ (by have := (cnt_spec p (h p List.mem_cons_self) w).2.2; omega)
    simp only [tA, List.length_cons, Nat.add_mul, Nat.one_mul] at *
    omega
theorem cA_lt (k w : Nat) (s : Bool) (hw : w ≤ 16000) : cA k w s < 2 ^ (w + 40) := by
  refine Nat.lt_of_le_of_lt (tA_le w s (rec0 k) (rec0_ok k)) ?_
  have h1 : (rec0 k).length * ((w + 64) * (1024 * 2 ^ w)) ≤ 4 * (20000 * (1024 * 2 ^ w)) := Nat.mul_le_mul (rec0_ne k).2 (Nat.mul_le_mul_right _ (by omega))
  refine Nat.lt_of_le_of_lt h1 ?_
  have h2 : 0 < 2 ^ w := Nat.pow_pos (by decide)
  rw [Nat.pow_add, show (2 : Nat) ^ 40 = 1099511627776 by decide]
  generalize 2 ^ w = P at *
  omega
theorem cA_fit (k w : Nat) (s : Bool) (hw : w ≤ 16000) : greatB (cA k w s) = false := cf_great (cA_lt k w s hw) (by omega)
theorem cAU_fit (k w : Nat) (s : Bool) (hw : w ≤ 16000) : greatB (cA k w s + cU k w) = false := by
  refine cf_great (k := w + 41) ?_ (by omega)
  have h1 := cA_lt k w s hw
  have h2 := cU_le k w
  have h3 : w < 2 ^ w := Nat.lt_two_pow_self
  rw [show w + 41 = w + 40 + 1 by omega, Nat.pow_succ, Nat.mul_two]
  have h4 : 4 * (w + 66) < 2 ^ (w + 40) := by
    rw [Nat.pow_add, show (2 : Nat) ^ 40 = 1099511627776 by decide]
    generalize 2 ^ w = P at *
    omega
  omega
theorem base_of (k : Nat) (h1 : 1 ≤ k) (h2 : k ≤ 4) : base k = true := by
  obtain ⟨a, b, c, d⟩ := base_all
  rcases (by omega : k = 1 ∨ k = 2 ∨ k = 3 ∨ k = 4) with rfl | rfl | rfl | rfl <;> assumption
theorem ks_set {S : Nat → Prop} {w : World} {p : Addr} (v : Value) (hS : S p.block) : Ks S w (w.setCell p v) :=
  ⟨rfl, rfl, rfl, by simp [World.setCell], fun k hk hc => Below.heap_setCell _ _ _ _ (fun e => hc (by rw [e]; exact hS))⟩
theorem OwnW.keepS {S : Nat → Prop} {B : Nat} {w w' : World} {a : Option Addr} {n cap : Nat} {xs : List Int} (h : OwnW B w a n cap xs) (hc : NoS S a n) (r : Ks S w w') : OwnW B w' a n cap xs :=
  ⟨h.1.keepS hc r, fun b off i e hi => by
    obtain ⟨b', off', e1, e2, e3⟩ := h.1.2.2.2 i hi
    rw [e] at e1
    simp only [Option.some.injEq, Addr.mk.injEq, and_true] at e1
    obtain ⟨rfl, rfl⟩ := e1
    exact ⟨(h.2 b off i e hi).1, r.frozen e3 (hc b off e (by omega)) (h.2 b off i e hi).2⟩⟩
theorem ks_four (S : Nat → Prop) (w : World) (b : Nat) (hb : S b) (v0 v1 v2 v3 : Value) : Ks S w ((((w.setCell ⟨b, 0, none⟩ v0).setCell ⟨b, 1, none⟩ v1).setCell ⟨b, 2, none⟩ v2).setCell ⟨b, 3, none⟩ v3) :=
  (((ks_set v0 hb).trans (ks_set v1 hb)).trans (ks_set v2 hb)).trans (ks_set v3 hb)
def SpanV (a : Option Addr) (n c : Nat) (a' : Option Addr) (n' c' : Nat) (e : Int) : Value := .agg #[.slice a n c, .int .i64 e, .slice a' n' c', .int .i64 e]

set_option maxRecDepth 100000 in
set_option maxHeartbeats 1000000 in
theorem units_calls (a a' : Option Addr) (n c n' c' m : Nat) (hm : m ≤ 20000) (w : World) :
    Calls Tryz.prog 67 #[.slice a n c, .slice a' n' c', .int .i64 (m : Int)] w fun r w' => r = .returned (SpanV a n c a' n' c' (-(m : Int))) ∧ Below w.heap.size w w' := by
  have h1 : IntKind.i64.wrap (-(m : Int)) = -(m : Int) := by rw [IntKind.wrap_i64]; omega
  have bA := below_alloc w (.cells #[.slice none 0 0, .int .i64 0, .slice none 0 0, .int .i64 0] 63)
  go_enter Tryz.func67, Tryz.ntmps67
  go_wp2_with fail
  exact bodyPost_ret (v := SpanV a n c a' n' c' (-(m : Int))) (by simp [results, Tryz.results67, go_sem, SpanV]) rfl ⟨rfl, below_alloc _ _⟩

set_option maxRecDepth 100000 in
set_option maxHeartbeats 4000000 in
theorem encl0_calls (k wd : Nat) (h1 : 1 ≤ k) (h4 : k ≤ 4) (h40 : 40 ≤ wd) (hwd : wd ≤ 16000) (w : World) (hT : RecT w) :
    Calls Tryz.prog 32 #[.int .u8 (k : Int), .int .i64 (wd : Int)] w fun r w' => ∃ (a : Option Addr) (n c : Nat) (a' : Option Addr) (n' c' : Nat), r = .returned (SpanV a n c a' n' c' (-(wd : Int))) ∧ n ≤ 1024 ∧ OwnW w.heap.size w' a n c (wordsOf (eLo k wd)) ∧ n' ≤ 1024 ∧ OwnW w.heap.size w' a' n' c' (wordsOf (eHi k wd)) ∧ Below w.heap.size w w' := by
  have ho : ov k = 0 := by unfold ov; rw [if_neg (by omega), if_neg (by omega), if_neg (by omega)]
  obtain ⟨hG, bk, ck, hR⟩ := hT
  obtain ⟨r1, r2⟩ := hR k h1 (by omega)
  obtain ⟨cap, hcap, r3, r4⟩ := r2 ho
  rw [ho, Nat.mul_comm] at r1
  rw [Nat.mul_comm] at r3
  have HO : Hid (ov k = 0) := ho
  obtain ⟨l, hl⟩ : ∃ l, l = rec0 k := ⟨_, rfl⟩
  have HL : Hid (l = rec0 k) := hl
  have hln : l.length ≤ 4 := by rw [hl]; exact (rec0_ne k).2
  rw [← hl] at r3 r4 hcap
  have hok : ∀ p ∈ l, ok p := by rw [hl]; exact rec0_ok k
  clear hl hR r2 ho
  obtain ⟨N, hN⟩ : ∃ N, N = l.length := ⟨_, rfl⟩
  rw [← hN] at r3 hcap hln
  have HN : Hid (N = l.length) := hN
  have HR : Hid _ := r4
  have HOK : Hid _ := hok
  clear hN r4 hok
  have oR : Obj := .cells #[.slice none 0 0, .int .i64 0, .slice none 0 0, .int .i64 0] 63
  have bA := below_trans (below_alloc w (.cells #[.slice none 0 0, .int .i64 0, .slice none 0 0, .int .i64 0] 63)) (below_alloc (w.alloc (.cells #[.slice none 0 0, .int .i64 0, .slice none 0 0, .int .i64 0] 63)) (.cells #[.slice none 0 0, .slice none 0 0] 99))
  have hS0 : SumsAt (fun k => k = w.heap.size + 1) (w.heap.size + 1) ((w.alloc (.cells #[.slice none 0 0, .int .i64 0, .slice none 0 0, .int .i64 0] 63)).alloc (.cells #[.slice none 0 0, .slice none 0 0] 99)) 0 0 :=
    ⟨none, 0, 0, none, 0, 0, by go_simp, by go_simp, by go_simp, by go_simp, by omega, by rw [words_zero]; exact isW_nil _, NoS.nil _, by omega, by rw [words_zero]; exact isW_nil _, NoS.nil _⟩
  have R : ∀ i, i < 4 → ∃ v, ((w.alloc (.cells #[.slice none 0 0, .int .i64 0, .slice none 0 0, .int .i64 0] 63)).alloc (.cells #[.slice none 0 0, .slice none 0 0] 99)).cell? ⟨w.heap.size, i, none⟩ = some v ∧ ((w.alloc (.cells #[.slice none 0 0, .int .i64 0, .slice none 0 0, .int .i64 0] 63)).alloc (.cells #[.slice none 0 0, .slice none 0 0] 99)).frozen? ⟨w.heap.size, i, none⟩ = false := by
    intro i hi
    rcases (by omega : i = 0 ∨ i = 1 ∨ i = 2 ∨ i = 3) with rfl | rfl | rfl | rfl
    · exact ⟨_, by go_simp; rfl, by go_simp⟩
    · exact ⟨_, by go_simp; rfl, by go_simp⟩
    · exact ⟨_, by go_simp; rfl, by go_simp⟩
    · exact ⟨_, by go_simp; rfl, by go_simp⟩
  have R0 : Hid _ := R
  clear R oR
  go_enter Tryz.func32, Tryz.ntmps32
  go_wp2_with fail
  generalize (w.alloc (.cells #[.slice none 0 0, .int .i64 0, .slice none 0 0, .int .i64 0] 63)).alloc (.cells #[.slice none 0 0, .slice none 0 0] 99) = w1 at *
  have zz : w.heap.size + 1 < w1.heap.size := by
    obtain ⟨a0, n0, c0, a1, n1, c1, k1, -⟩ := id hS0
    exact World.block_lt_of_cell? _ _ k1
  go_loopw [7, 9, 28] (fun uv _ iv wr => ∃ i : Nat, i ≤ N ∧ iv = .int .i64 (i : Int) ∧ uv = .int .u64 ((tU (l.take i) wd : Nat) : Int) ∧ SumsAt (fun k => k = w.heap.size + 1) (w.heap.size + 1) wr (tA (l.take i) wd false) (tA (l.take i) wd true) ∧ Ks (fun k => k = w.heap.size + 1) w1 wr) (fun _ _ iv _ => N - (intOf iv).toNat)
  case atStart => exact ⟨0, Nat.zero_le _, rfl, rfl, hS0, Ks.of_below (Below.refl _ _)⟩
  case round =>
    clear hS0
    obtain ⟨i, hi, rfl, rfl, hsum, hK⟩ := hrel
    by_cases hl : i < N
    · obtain ⟨p, hp⟩ : ∃ p, l[i]? = some p := ⟨l[i]'(by rw [← HN.out]; exact hl), List.getElem?_eq_getElem _⟩
      have hP := HR.out i p hp
      have hbk : bk k < w.heap.size := World.block_lt_of_cell? _ _ hP.1
      have hP2 := (hP.keepS (Ks.of_below (S := fun _ => False) (bA.mono (Nat.le_refl _))) (fun e => e)).keepS hK (by omega)
      rw [Nat.mul_comm 4] at hP2
      have hpo := HOK.out p (List.mem_of_getElem? hp)
      have ht := ptake_snoc hp
      have gg : ∀ s, greatB (tA (l.take i) wd s + sm p wd s (cnt p wd)) = false := fun s => by
        rw [← tA_snoc, ← ht]
        refine great_mono ?_ (cA_fit k wd s hwd)
        unfold cA
        rw [← HL.out]
        exact tA_mono wd s l (i + 1)
      have hu : tU (l.take (i + 1)) wd ≤ 4 * (wd + 66) := by
        have h1 := tU_mono wd l (i + 1)
        have h2 := cU_le k wd
        unfold cU at h2
        rw [← HL.out] at h2
        omega
      have hue : tU (l.take (i + 1)) wd = tU (l.take i) wd + (cnt p wd + 2) := by rw [ht, tU_snoc]
      have hw : IntKind.u64.wrap (((tU (l.take i) wd : Nat) : Int) + ((cnt p wd : Int) + 2)) = ((tU (l.take (i + 1)) wd : Nat) : Int) := by rw [IntKind.wrap_u64]; omega
      have hw2 : IntKind.i64.wrap ((i : Int) + 1) = ((i + 1 : Nat) : Int) := by rw [IntKind.wrap_i64]; omega
      have bP := below_alloc wr (.cells #[.int .u8 (p.kind : Int), .int .u64 (p.t : Int), .int .u64 (p.a : Int), .bool p.off] 102)
      have hs2 := hsum.keep (Ks.of_below (S := fun _ => False) bP) (fun e => e) (fun _ e => e.elim)
      have SC : Hid _ := sumUp_calls p hpo wd (by omega) (w.heap.size + 1) _ _ _ hs2 (gg false) (gg true)
      rw [← tA_snoc, ← tA_snoc, ← ht] at SC
      obtain ⟨p0, p1, p2, p3⟩ := hP2
      clear hs2 hP gg hsum hue hu ht
      have HP : Hid _ := hp
      clear hp
      go_wp2_with fail
      refine Calls.mono SC.out ?_
      rintro r w3 ⟨rfl, K3, S3⟩
      have K4 := (hK.trans (Ks.of_below bP)).trans K3
      clear SC K3 hK bP p0 p1 p2 p3
      go_wp2_with fail
      go_roundw
      case rel => exact ⟨i + 1, hl, rfl, rfl, S3, K4⟩
      case measure => simp only [intOf]; omega
    · have hi2 : i = N := by omega
      subst hi2
      have ht : l.take i = rec0 k := by rw [HN.out, List.take_length]; exact HL.out
      rw [ht] at hsum
      have hu0 := cU_le k wd
      obtain ⟨sz, -⟩ := c_size k wd (base_of k h1 h4) h40
      have sz' : cA k wd true + cU k wd ≤ cA k wd false := Nat.le_trans (Nat.le_add_right _ _) sz
      clear sz
      have sz1 : cA k wd true ≤ cA k wd false := by omega
      have sz2 : cU k wd ≤ cA k wd false - cA k wd true := by omega
      have q1 : eLo k wd = cA k wd false - cA k wd true - cU k wd := by unfold eLo; rw [if_pos HO.out]; rfl
      have q2 : eHi k wd = cA k wd false - cA k wd true + cU k wd := by unfold eHi; rw [if_pos HO.out]; rfl
      have HQ1 : Hid _ := q1
      have HQ2 : Hid _ := q2
      clear q1 q2
      have e0 : ((tU (l.take i) wd : Nat) : Int) = ((cU k wd : Nat) : Int) := by rw [ht]; rfl
      rw [e0]
      have gA := cA_fit k wd false hwd
      have gM : greatB (cA k wd false - cA k wd true) = false := great_mono (Nat.sub_le _ _) gA
      have gP : greatB (cA k wd false - cA k wd true + cU k wd) = false := great_mono (by omega) (cAU_fit k wd false hwd)
      have z1 := hK.2.2.2.1
      have z0 := bA.size
      have RR : ∀ j, j < 4 → ∃ v, wr.cell? ⟨w.heap.size, j, none⟩ = some v ∧ wr.frozen? ⟨w.heap.size, j, none⟩ = false := fun j hj => by
        obtain ⟨v, hv, hf⟩ := R0.out j hj
        exact ⟨v, hK.cell hv (by show ¬ w.heap.size = w.heap.size + 1; omega), hK.frozen hv (by show ¬ w.heap.size = w.heap.size + 1; omega) hf⟩
      have bR : Below w.heap.size w wr := bA.trans (hK.below w.heap.size z0 (fun b e => by omega))
      obtain ⟨a0, n0, c0, a1, n1, c1, k1, k2, k3, k4, k5, k6, k7, k8, k9, k10⟩ := hsum
      have c0' : tA (rec0 k) wd false = cA k wd false := rfl
      have c1' : tA (rec0 k) wd true = cA k wd true := rfl
      rw [c0'] at k6
      rw [c1'] at k9
      clear ht e0 c0' c1' hK
      have HRR : Hid _ := RR
      clear RR
      generalize cA k wd false = A at *
      generalize cA k wd true = A' at *
      generalize cU k wd = U at *
      go_wp2_with fail
      refine Calls.mono (fLess_calls k6 k9 k5 k8 gA sz1) ?_
      rintro r w2 ⟨a2, n2, c2, rfl, hn2, hO2, b2⟩
      have z2 := b2.size
      go_wp2_with fail
      refine Calls.mono (of_eq U rfl (by omega)) ?_
      rintro r w3 ⟨a3, n3, c3, rfl, hn3, hO3, b3⟩
      have z3 := b3.size
      replace hO2 := hO2.keep b3
      go_wp2_with fail
      refine Calls.mono (fLess_calls hO2.1 hO3.1 hn2 hn3 gM sz2) ?_
      rintro r w4 ⟨a4, n4, c4, rfl, hn4, hO4, b4⟩
      have z4 := b4.size
      replace hO2 := hO2.keep b4
      replace hO3 := hO3.keep b4
      go_wp2_with fail
      refine Calls.mono (fPlus_calls hO2.1 hO3.1 hn2 hn3 gP) ?_
      rintro r w5 ⟨a5, n5, c5, rfl, hn5, hO5, b5⟩
      have z5 := b5.size
      replace hO4 := hO4.keep b5
      go_wp2_with fail
      refine Calls.mono (units_calls _ _ _ _ _ _ wd (by omega) _) ?_
      rintro r w6 ⟨rfl, b6⟩
      have bb := below_trans (below_trans (below_trans (below_trans b2 b3) b4) b5) b6
      have L4 := (hO4.keep b6).low (show w.heap.size + 2 ≤ w3.heap.size by omega)
      have L5 := (hO5.keep b6).low (show w.heap.size + 2 ≤ w4.heap.size by omega)
      obtain ⟨v0, x0, y0⟩ := HRR.out 0 (by omega)
      obtain ⟨v1, x1, y1⟩ := HRR.out 1 (by omega)
      obtain ⟨v2, x2, y2⟩ := HRR.out 2 (by omega)
      obtain ⟨v3, x3, y3⟩ := HRR.out 3 (by omega)
      replace y0 := fKeep bb x0 y0
      replace y1 := fKeep bb x1 y1
      replace y2 := fKeep bb x2 y2
      replace y3 := fKeep bb x3 y3
      replace x0 := cKeep bb x0
      replace x1 := cKeep bb x1
      replace x2 := cKeep bb x2
      replace x3 := cKeep bb x3
      unfold SpanV
      go_wp2_with fail
      have KF := ks_four (fun k => k = w.heap.size) w6 w.heap.size rfl (.slice a4 n4 c4) (.int .i64 (-(wd : Int))) (.slice a5 n5 c5) (.int .i64 (-(wd : Int)))
      refine bodyPost_ret (v := SpanV a4 n4 c4 a5 n5 c5 (-(wd : Int))) (by simp [results, Tryz.results32, go_sem, SpanV, x0, x1, x2, x3]) rfl ⟨a4, n4, c4, a5, n5, c5, rfl, hn4, ?_, hn5, ?_, ?_⟩
      · rw [HQ1.out]; exact (L4.keepS (L4.nw.noS (by rintro b rfl; omega)) KF).low (by omega)
      · rw [HQ2.out]; exact (L5.keepS (L5.nw.noS (by rintro b rfl; omega)) KF).low (by omega)
      · exact (bR.trans (bb.mono (by omega))).trans (KF.below w.heap.size (by have := bb.size; omega) (fun b e => by omega))
end Go.Proofs.YtkkldnnndlpblaaGreatDoor

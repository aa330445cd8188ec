/- Package consts: what the terms of a series are, one after the other. -/
import Derived.Test.YtkkldnnndlpblaaGreatDoorCF2
namespace Go.Proofs.YtkkldnnndlpblaaGreatDoor
open Go.RowKit Ck

def PV (p : Pt) : Value := .agg #[.int .u8 p.kind, .int .u64 p.t, .int .u64 p.a, .bool p.off]
/-- a function that answers the terms of a series one after the other, in blocks from B on -/
def IsN (B : Nat) (v : Value) (p : Pt) (wd : Nat) (w : World) : Prop := ∃ (F : Nat) (caps : Array Value) (S : Nat → Prop) (St : Nat → World → Prop), v = .func (.func F) #[] caps ∧ BodyC F ∧ (∀ b, S b → B ≤ b ∧ b < w.heap.size) ∧ St 0 w ∧
  (∀ j W W', St j W → Ks (fun k => k < B) W W' → St j W') ∧
  (∀ j W, j < 20000 → w.heap.size ≤ W.heap.size → St j W → Calls Tryz.prog F caps W fun r W' => ∃ (ao : Option Addr) (n c : Nat), r = .returned (.tuple #[.slice ao n c, .int .i64 (sdI p.off (p.kind == 0 && j % 2 == 1))]) ∧ n ≤ 1024 ∧ IsW W' ao n c (wordsOf (term p wd j)) ∧ NwA B ao n ∧ St (j + 1) W' ∧ Ks S W W')

set_option maxRecDepth 100000 in
set_option maxHeartbeats 2000000 in
theorem factMade_calls (kd t a : Int) (o : Bool) (fa : Option Addr) (fn fc : Nat) (w : World) :
    Calls Tryz.prog 137 #[.agg #[.int .u8 kd, .int .u64 t, .int .u64 a, .bool o], .slice fa fn fc] w fun r w' => ∃ bq bn bp : Nat, r = .returned (.func (.func 162) #[] #[.pointer (some ⟨bq, 0, none⟩), .pointer (some ⟨bn, 0, none⟩), .pointer (some ⟨bp, 0, none⟩)]) ∧ bq ≠ bn ∧ bp ≠ bq ∧ bp ≠ bn ∧ w.heap.size ≤ bq ∧ w.heap.size ≤ bn ∧ w.heap.size ≤ bp ∧
      w'.cell? ⟨bq, 0, none⟩ = some (.slice fa fn fc) ∧ w'.frozen? ⟨bq, 0, none⟩ = false ∧ w'.cell? ⟨bn, 0, none⟩ = some (.int .u64 0) ∧ w'.frozen? ⟨bn, 0, none⟩ = false ∧ PAt w' bp 0 kd t a o ∧ Below w.heap.size w w' := by
  have hmf : ∀ (fn : Fn) (first cap : Array Value) (w : World), (Instr.makeFunc fn first cap).run Tryz.prog w = .ok (.func fn first cap) w := fun _ _ _ _ => rfl
  go_enter Tryz.func137, Tryz.ntmps137
  go_wp2_with fail
  go_ret
  refine ⟨w.heap.size + 1, w.heap.size + 2, w.heap.size, rfl, by omega, by omega, by omega, by omega, by omega, by omega, by go_simp, by go_simp, by go_simp, by go_simp, ⟨by go_simp, by go_simp, by go_simp, by go_simp⟩, ?_⟩
  exact below_trans (below_trans (below_alloc _ _) (below_alloc _ _)) (below_alloc _ _)

set_option maxRecDepth 100000 in
set_option maxHeartbeats 2000000 in
theorem powMade_calls (kd t : Int) (a : Nat) (o : Bool) (fa : Option Addr) (fn fc X : Nat) (w : World) (h : IsW w fa fn fc (wordsOf X)) (hl : fn ≤ 1024) (hg : greatB X = false) (ha0 : 0 < a) (ha : a < 65536) :
    Calls Tryz.prog 138 #[.agg #[.int .u8 kd, .int .u64 t, .int .u64 (a : Int), .bool o], .slice fa fn fc] w fun r w' => ∃ (bq bn bp bt : Nat) (qa : Option Addr) (qn qc : Nat), r = .returned (.func (.func 164) #[] #[.pointer (some ⟨bq, 0, none⟩), .pointer (some ⟨bn, 0, none⟩), .pointer (some ⟨bp, 0, none⟩), .pointer (some ⟨bt, 0, none⟩)]) ∧ bq ≠ bn ∧ bp ≠ bq ∧ bp ≠ bn ∧ bt ≠ bq ∧ bt ≠ bn ∧ bt ≠ bp ∧ w.heap.size ≤ bq ∧ w.heap.size ≤ bn ∧ w.heap.size ≤ bp ∧ w.heap.size ≤ bt ∧
      BoxP w' bq bn bp bt qa qn qc 1 false kd t (a : Int) o ∧ qn ≤ 1024 ∧ IsW w' qa qn qc (wordsOf (X / a)) ∧ NwA w.heap.size qa qn ∧ Below w.heap.size w w' := by
  have hmf : ∀ (fn : Fn) (first cap : Array Value) (w : World), (Instr.makeFunc fn first cap).run Tryz.prog w = .ok (.func fn first cap) w := fun _ _ _ _ => rfl
  have ga : greatB a = false := cf_great (k := 64) (by omega) (by decide)
  have bA := below_alloc w (.cells #[.int .u8 kd, .int .u64 t, .int .u64 (a : Int), .bool o] 102)
  have h2 := h.keepB bA
  have p0 : PAt (w.alloc (.cells #[.int .u8 kd, .int .u64 t, .int .u64 (a : Int), .bool o] 102)) w.heap.size 0 kd t (a : Int) o := ⟨by go_simp, by go_simp, by go_simp, by go_simp⟩
  have hB : w.heap.size < (w.alloc (.cells #[.int .u8 kd, .int .u64 t, .int .u64 (a : Int), .bool o] 102)).heap.size := by go_simp
  go_enter Tryz.func138, Tryz.ntmps138
  go_wp2_with fail
  generalize w.alloc (.cells #[.int .u8 kd, .int .u64 t, .int .u64 (a : Int), .bool o] 102) = w0 at *
  refine Calls.mono (of_eq a (by omega) (by omega)) ?_
  rintro r w1 ⟨a1, n1, c1, rfl, hn1, hO1, b1⟩
  have h3 := h2.keepB b1
  replace p0 := p0.keepS (Ks.of_below (S := fun _ => False) b1) (fun e => e)
  have z1 := b1.size
  go_wp2_with fail
  refine Calls.mono (fOver_calls h3 hO1.1 hl hn1 hg ga (by omega)) ?_
  rintro r w2 ⟨a2, n2, c2, rfl, hn2, hO2, b2⟩
  replace p0 := p0.keepS (Ks.of_below (S := fun _ => False) b2) (fun e => e)
  have z2 := b2.size
  have N2 := hO2.nw.low (show w.heap.size ≤ w1.heap.size by omega)
  replace bA := (bA.trans (b1.mono (by omega))).trans (b2.mono (show w.heap.size ≤ w1.heap.size by omega))
  go_wp2_with fail
  go_ret
  have b3 := below_alloc w2 (.cells #[.slice a2 n2 c2] 24)
  have b4 := below_alloc (w2.alloc (.cells #[.slice a2 n2 c2] 24)) (.cells #[.int .u64 1] 59)
  have b5 := below_alloc ((w2.alloc (.cells #[.slice a2 n2 c2] 24)).alloc (.cells #[.int .u64 1] 59)) (.cells #[.bool false] 4)
  have bb := below_trans (below_trans b3 b4) b5
  refine ⟨w2.heap.size, w2.heap.size + 1, w.heap.size, w2.heap.size + 2, a2, n2, c2, rfl, by omega, by omega, by omega, by omega, by omega, by omega, by omega, by omega, by omega, by omega, ⟨by go_simp, by go_simp, by go_simp, by go_simp, by go_simp, by go_simp, p0.keepS (Ks.of_below (S := fun _ => False) bb) (fun e => e)⟩, hn2, hO2.1.keepB bb, N2, bA.trans (bb.mono (by omega))⟩

theorem term_fact (p : Pt) (wd j : Nat) (h : p.kind = 2) : term p wd j = p.t * 2 ^ wd / rfac j := by unfold term den; rw [if_pos h]
theorem fact_next (X j : Nat) : X / rfac j / (j + 1) = X / rfac (j + 1) := by rw [Nat.div_div_eq_div_mul, Nat.mul_comm]; rfl
theorem term_pow (p : Pt) (wd j : Nat) (h : p.kind ≠ 2) : p.t * 2 ^ wd / (p.a * (p.a * p.a) ^ j) / (2 * j + 1) = term p wd j := by unfold term den; rw [if_neg h, Nat.div_div_eq_div_mul]
theorem pow_next (X a j : Nat) : X / (a * (a * a) ^ j) / (a * a) = X / (a * (a * a) ^ (j + 1)) := by rw [Nat.div_div_eq_div_mul, Nat.pow_succ, Nat.mul_assoc]
theorem X_fit (p : Pt) (wd : Nat) (h : ok p) (hw : wd ≤ 16500) : greatB (p.t * 2 ^ wd) = false := by
  refine cf_great (k := wd + 10) ?_ (by omega)
  rw [Nat.pow_add, Nat.mul_comm]
  exact Nat.mul_lt_mul_of_pos_left h.2.1 (Nat.pow_pos (by decide))
theorem tn_next (k j : Nat) : ((k : Int) == 0 && !(k == 0 && j % 2 == 1)) = (k == 0 && (j + 1) % 2 == 1) := by
  have e : ((k : Int) == 0) = (k == 0) := by rw [Bool.eq_iff_iff]; simp
  rw [e]
  cases k == 0
  · rfl
  · rcases Nat.mod_two_eq_zero_or_one j with e | e
    · have q : (j + 1) % 2 = 1 := by omega
      rw [e, q]; rfl
    · have q : (j + 1) % 2 = 0 := by omega
      rw [e, q]; rfl

/-- the boxes of a series of factorials at its jth term -/
def StF (B bq bn bp : Nat) (p : Pt) (wd j : Nat) (w : World) : Prop := ∃ (qa : Option Addr) (qn qc : Nat), w.cell? ⟨bq, 0, none⟩ = some (.slice qa qn qc) ∧ w.frozen? ⟨bq, 0, none⟩ = false ∧ w.cell? ⟨bn, 0, none⟩ = some (.int .u64 (j : Int)) ∧ w.frozen? ⟨bn, 0, none⟩ = false ∧ PAt w bp 0 p.kind p.t p.a p.off ∧ qn ≤ 1024 ∧ IsW w qa qn qc (wordsOf (p.t * 2 ^ wd / rfac j)) ∧ NwA B qa qn ∧ NoS (fun k => k = bq ∨ k = bn) qa qn
theorem isN_fact {B bq bn bp : Nat} {p : Pt} {wd : Nat} {w : World} (hk : p.kind = 2) (d1 : bq ≠ bn) (d2 : bp ≠ bq) (d3 : bp ≠ bn) (e1 : B ≤ bq) (e2 : B ≤ bn) (e3 : B ≤ bp) (g : greatB (p.t * 2 ^ wd) = false) (h0 : StF B bq bn bp p wd 0 w) :
    IsN B (.func (.func 162) #[] #[.pointer (some ⟨bq, 0, none⟩), .pointer (some ⟨bn, 0, none⟩), .pointer (some ⟨bp, 0, none⟩)]) p wd w := by
  refine ⟨_, _, (fun k => k = bq ∨ k = bn), StF B bq bn bp p wd, rfl, Tryz.call162, ?_, h0, ?_, ?_⟩
  · obtain ⟨qa, qn, qc, k1, k2, k3, k4, k5, k6, k7, k8, k9⟩ := h0
    have l1 : bq < w.heap.size := World.block_lt_of_cell? _ _ k1
    have l2 : bn < w.heap.size := World.block_lt_of_cell? _ _ k3
    rintro b (rfl | rfl)
    · exact ⟨e1, l1⟩
    · exact ⟨e2, l2⟩
  · rintro j W W' ⟨qa, qn, qc, k1, k2, k3, k4, k5, k6, k7, k8, k9⟩ K
    have n1 : ¬ bq < B := by omega
    have n2 : ¬ bn < B := by omega
    exact ⟨qa, qn, qc, K.cell k1 n1, K.frozen k1 n1 k2, K.cell k3 n2, K.frozen k3 n2 k4, k5.keepS K (by omega), k6, k7.keepS (fun b o e hn hb => by have := k8 b o e hn; omega) K, k8, k9⟩
  · rintro j W hj hW ⟨qa, qn, qc, k1, k2, k3, k4, k5, k6, k7, k8, k9⟩
    have l1 : bq < W.heap.size := World.block_lt_of_cell? _ _ k1
    have l2 : bn < W.heap.size := World.block_lt_of_cell? _ _ k3
    refine Calls.mono (fact1_calls bq bn bp qa qn qc _ j p.kind p.t p.a p.off W d1 d2 d3 k1 k2 k3 k4 k5 k7 k6 k9 (great_mono (Nat.div_le_self _ _) g) (by omega)) ?_
    rintro r W' ⟨rfl, K, f1, f2, f3, ao, m, c, f4, f5, f6, f7⟩
    have hs : sdI p.off (p.kind == 0 && j % 2 == 1) = sdI p.off false := by rw [hk]; rfl
    rw [hs, term_fact p wd j hk]
    refine ⟨qa, qn, qc, rfl, k6, k7.keepS k9 K, k8, ⟨ao, m, c, f4, f2, f1, f3, k5.keepS K (fun e => e.elim d2 d3), f5, ?_, f7.low (by omega), f7.noS ?_⟩, K⟩
    · rw [← fact_next]; exact f6
    · rintro b (rfl | rfl)
      · exact l1
      · exact l2
/-- the boxes of a series of odd powers at its jth term -/
def StP (B bq bn bp bt : Nat) (p : Pt) (wd j : Nat) (w : World) : Prop := ∃ (qa : Option Addr) (qn qc : Nat), BoxP w bq bn bp bt qa qn qc ((2 * j + 1 : Nat) : Int) (p.kind == 0 && j % 2 == 1) p.kind p.t (p.a : Int) p.off ∧ qn ≤ 1024 ∧ IsW w qa qn qc (wordsOf (p.t * 2 ^ wd / (p.a * (p.a * p.a) ^ j))) ∧ NwA B qa qn
theorem isN_pow {B bq bn bp bt : Nat} {p : Pt} {wd : Nat} {w : World} (hk : p.kind ≠ 2) (hp : ok p) (d1 : bq ≠ bn) (d2 : bp ≠ bq) (d3 : bp ≠ bn) (d4 : bt ≠ bq) (d5 : bt ≠ bn) (d6 : bt ≠ bp) (e1 : B ≤ bq) (e2 : B ≤ bn) (e3 : B ≤ bp) (e4 : B ≤ bt) (hB : B ≤ w.heap.size) (g : greatB (p.t * 2 ^ wd) = false) (h0 : StP B bq bn bp bt p wd 0 w) :
    IsN B (.func (.func 164) #[] #[.pointer (some ⟨bq, 0, none⟩), .pointer (some ⟨bn, 0, none⟩), .pointer (some ⟨bp, 0, none⟩), .pointer (some ⟨bt, 0, none⟩)]) p wd w := by
  have ha := hp.2.2.resolve_left hk
  refine ⟨_, _, (fun k => k = bq ∨ k = bn ∨ k = bt), StP B bq bn bp bt p wd, rfl, Tryz.call164, ?_, h0, ?_, ?_⟩
  · obtain ⟨qa, qn, qc, ⟨k1, k2, k3, k4, k5, k6, k7⟩, -⟩ := h0
    have l1 : bq < w.heap.size := World.block_lt_of_cell? _ _ k1
    have l2 : bn < w.heap.size := World.block_lt_of_cell? _ _ k3
    have l3 : bt < w.heap.size := World.block_lt_of_cell? _ _ k5
    rintro b (rfl | rfl | rfl)
    · exact ⟨e1, l1⟩
    · exact ⟨e2, l2⟩
    · exact ⟨e4, l3⟩
  · rintro j W W' ⟨qa, qn, qc, ⟨k1, k2, k3, k4, k5, k6, k7⟩, f1, f2, f3⟩ K
    have n1 : ¬ bq < B := by omega
    have n2 : ¬ bn < B := by omega
    have n3 : ¬ bt < B := by omega
    exact ⟨qa, qn, qc, ⟨K.cell k1 n1, K.frozen k1 n1 k2, K.cell k3 n2, K.frozen k3 n2 k4, K.cell k5 n3, K.frozen k5 n3 k6, k7.keepS K (by omega)⟩, f1, f2.keepS (fun b o e hn hb => by have := f3 b o e hn; omega) K, f3⟩
  · rintro j W hj hW ⟨qa, qn, qc, C, f1, f2, f3⟩
    refine Calls.mono (pow1_calls bq bn bp bt qa qn qc _ (2 * j + 1) p.kind p.t p.a p.off _ W d1 d2 d3 d4 d5 d6 C f2 f1 (great_mono (Nat.div_le_self _ _) g) (by omega) (by omega) (by omega) ha.2) ?_
    rintro r W' ⟨ao, m, c, qa2, qn2, qc2, rfl, hm, h1, h2, K, C2, hq2, h3, h4⟩
    rw [term_pow p wd j hk] at h1
    rw [pow_next] at h3
    rw [tn_next] at C2
    exact ⟨ao, m, c, rfl, hm, h1, h2.low (by omega), ⟨qa2, qn2, qc2, by rw [show ((2 * (j + 1) + 1 : Nat) : Int) = ((2 * j + 1 : Nat) : Int) + 2 by omega]; exact C2, hq2, h3, h4.low (by omega)⟩, K⟩

set_option maxRecDepth 100000 in
set_option maxHeartbeats 2000000 in
theorem terms_calls (p : Pt) (hp : ok p) (wd : Nat) (hwd : wd ≤ 16500) (w : World) :
    Calls Tryz.prog 104 #[PV p, .int .i64 (wd : Int)] w fun r w' => ∃ v, r = .returned v ∧ IsN w.heap.size v p wd w' ∧ Below w.heap.size w w' := by
  have bA := below_alloc w (.cells #[.int .u8 (p.kind : Int), .int .u64 (p.t : Int), .int .u64 (p.a : Int), .bool p.off] 102)
  have p0 : PAt (w.alloc (.cells #[.int .u8 (p.kind : Int), .int .u64 (p.t : Int), .int .u64 (p.a : Int), .bool p.off] 102)) w.heap.size 0 p.kind p.t p.a p.off := ⟨by go_simp, by go_simp, by go_simp, by go_simp⟩
  have g := X_fit p wd hp hwd
  have ht : p.t < 1024 := hp.2.1
  unfold PV
  have hk2 : Hid (p.kind = 2) ∧ ((p.kind : Int) == 2) = true ∨ Hid (p.kind ≠ 2) ∧ ((p.kind : Int) == 2) = false := by
    by_cases h : p.kind = 2
    · exact Or.inl ⟨h, by rw [h]; rfl⟩
    · exact Or.inr ⟨h, by simp; omega⟩
  go_enter Tryz.func104, Tryz.ntmps104
  go_wp2_with fail
  generalize w.alloc (.cells #[.int .u8 (p.kind : Int), .int .u64 (p.t : Int), .int .u64 (p.a : Int), .bool p.off] 102) = w0 at *
  refine Calls.mono (of_eq p.t rfl (by omega)) ?_
  rintro r w1 ⟨a1, n1, c1, rfl, hn1, hO1, b1⟩
  replace p0 := p0.keepS (Ks.of_below (S := fun _ => False) b1) (fun e => e)
  have z1 := b1.size
  have z0 := bA.size
  replace bA := bA.trans (b1.mono z0)
  go_wp2_with fail
  refine Calls.mono (fShl_calls (k := wd) hO1.1 hn1 (by omega) g) ?_
  rintro r w2 ⟨a2, n2, c2, rfl, hn2, hO2, b2⟩
  replace p0 := p0.keepS (Ks.of_below (S := fun _ => False) b2) (fun e => e)
  have z2 := b2.size
  replace bA := bA.trans (b2.mono (Nat.le_trans z0 z1))
  have N2 := hO2.nw.low (Nat.le_trans z0 z1)
  have z3 := bA.size
  clear hO1 b1 b2
  have p1 := p0
  obtain ⟨c0, c1, c2, c3⟩ := p0
  rcases hk2 with ⟨hk, hk2⟩ | ⟨hk, hk2⟩
  · go_wp2_with fail
    refine Calls.mono (factMade_calls _ _ _ _ _ _ _ _) ?_
    rintro r w3 ⟨bq, bn, bp, rfl, d1, d2, d3, e1, e2, e3, k1, k2, k3, k4, k5, b3⟩
    have z4 := b3.size
    go_wp2_with fail
    go_ret
    exact ⟨_, rfl, isN_fact hk.out d1 d2 d3 (Nat.le_trans z3 e1) (Nat.le_trans z3 e2) (Nat.le_trans z3 e3) g ⟨_, _, _, k1, k2, k3, k4, k5, hn2, by rw [show rfac 0 = 1 from rfl, Nat.div_one]; exact hO2.1.keepB b3, N2, hO2.1.noS (fun b e => e.elim (fun q => by rw [q]; exact e1) (fun q => by rw [q]; exact e2))⟩, bA.trans (b3.mono z3)⟩
  · have ha := hp.2.2.resolve_left hk.out
    go_wp2_with fail
    refine Calls.mono (powMade_calls _ _ p.a _ _ _ _ _ _ hO2.1 hn2 g (by omega) ha.2) ?_
    rintro r w3 ⟨bq, bn, bp, bt, qa, qn, qc, rfl, d1, d2, d3, d4, d5, d6, e1, e2, e3, e4, C, hq, h1, h2, b3⟩
    have z4 := b3.size
    go_wp2_with fail
    go_ret
    exact ⟨_, rfl, isN_pow hk.out hp d1 d2 d3 d4 d5 d6 (Nat.le_trans z3 e1) (Nat.le_trans z3 e2) (Nat.le_trans z3 e3) (Nat.le_trans z3 e4) (Nat.le_trans z3 z4) g ⟨qa, qn, qc, by rw [show (p.kind == 0 && 0 % 2 == 1) = false by simp]; exact C, hq, by rw [Nat.pow_zero, Nat.mul_one]; exact h1, h2.low z3⟩, bA.trans (b3.mono z3)⟩
end Go.Proofs.YtkkldnnndlpblaaGreatDoor

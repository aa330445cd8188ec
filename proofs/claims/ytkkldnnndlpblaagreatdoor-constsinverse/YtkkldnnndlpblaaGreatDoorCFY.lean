/- Package consts: what the terms of a series are, one after the other. Package consts: a series, summed. Package consts: a constant, enclosed: sums of series. -/
import Derived.Test.YtkkldnnndlpblaaGreatDoorCFX
import Derived.LoopN

namespace Go.Proofs.YtkkldnnndlpblaaGreatDoor
open Go.RowKit Ck

def PV (p : Pt) : Value := .agg #[.int .u8 p.kind, .int .u64 p.t, .int .u64 p.a, .bool p.off]

/-- a function that answers the terms of a series one after the other, in blocks from B on -/
def IsN (B : Nat) (v : Value) (p : Pt) (wd : Nat) (w : World) : Prop := ∃ (F : Nat) (caps : Array Value) (S : Nat → Prop) (St : Nat → World → Prop), v = .func (.func F) #[] caps ∧ BodyC F ∧ (∀ b, S b → B ≤ b ∧ b < w.heap.size) ∧ St 0 w ∧
  (∀ j W W', St j W → Ks (fun k => k < B) W W' → St j W') ∧
  (∀ j W, j < 20000 → w.heap.size ≤ W.heap.size → St j W → Calls Tryz.prog F caps W fun r W' => ∃ (ao : Option Addr) (n c : Nat), r = .returned (.tuple #[.slice ao n c, .int .i64 (sdI p.off (p.kind == 0 && j % 2 == 1))]) ∧ n ≤ 1024 ∧ IsW W' ao n c (wordsOf (term p wd j)) ∧ NwA B ao n ∧ St (j + 1) W' ∧ Ks S W W')

set_option maxRecDepth 100000 in
set_option maxHeartbeats 2000000 in
theorem factMade_calls (kd t a : Int) (o : Bool) (fa : Option Addr) (fn fc : Nat) (w : World) :
    Calls Tryz.prog 137 #[.agg #[.int .u8 kd, .int .u64 t, .int .u64 a, .bool o], .slice fa fn fc] w fun r w' => ∃ bq bn bp : Nat, r = .returned (.func (.func 162) #[] #[.pointer (some ⟨bq, 0, none⟩), .pointer (some ⟨bn, 0, none⟩), .pointer (some ⟨bp, 0, none⟩)]) ∧ bq ≠ bn ∧ bp ≠ bq ∧ bp ≠ bn ∧ w.heap.size ≤ bq ∧ w.heap.size ≤ bn ∧ w.heap.size ≤ bp ∧
      w'.cell? ⟨bq, 0, none⟩ = some (.slice fa fn fc) ∧ w'.frozen? ⟨bq, 0, none⟩ = false ∧ w'.cell? ⟨bn, 0, none⟩ = some (.int .u64 0) ∧ w'.frozen? ⟨bn, 0, none⟩ = false ∧ PAt w' bp 0 kd t a o ∧ Below w.heap.size w w' := by
  have hmf : ∀ (fn : Fn) (first cap : Array Value) (w : World), (Instr.makeFunc fn first cap).run Tryz.prog w = .ok (.func fn first cap) w := fun _ _ _ _ => rfl
  go_enter Tryz.func137, Tryz.ntmps137
  go_wp2_with fail
  go_ret
  refine ⟨w.heap.size + 1, w.heap.size + 2, w.heap.size, rfl, by omega, by omega, by omega, by omega, by omega, by omega, by go_simp, by go_simp, by go_simp, by go_simp, ⟨by go_simp, by go_simp, by go_simp, by go_simp⟩, ?_⟩
  exact below_trans (below_trans (below_alloc _ _) (below_alloc _ _)) (below_alloc _ _)

set_option maxRecDepth 100000 in
set_option maxHeartbeats 2000000 in
theorem powMade_calls (kd t : Int) (a : Nat) (o : Bool) (fa : Option Addr) (fn fc X : Nat) (w : World) (h : IsW w fa fn fc (wordsOf X)) (hl : fn ≤ 1024) (hg : greatB X = false) (ha0 : 0 < a) (ha : a < 65536) :
    Calls Tryz.prog 138 #[.agg #[.int .u8 kd, .int .u64 t, .int .u64 (a : Int), .bool o], .slice fa fn fc] w fun r w' => ∃ (bq bn bp bt : Nat) (qa : Option Addr) (qn qc : Nat), r = .returned (.func (.func 164) #[] #[.pointer (some ⟨bq, 0, none⟩), .pointer (some ⟨bn, 0, none⟩), .pointer (some ⟨bp, 0, none⟩), .pointer (some ⟨bt, 0, none⟩)]) ∧ bq ≠ bn ∧ bp ≠ bq ∧ bp ≠ bn ∧ bt ≠ bq ∧ bt ≠ bn ∧ bt ≠ bp ∧ w.heap.size ≤ bq ∧ w.heap.size ≤ bn ∧ w.heap.size ≤ bp ∧ w.heap.size ≤ bt ∧
      BoxP w' bq bn bp bt qa qn qc 1 false kd t (a : Int) o ∧ qn ≤ 1024 ∧ IsW w' qa qn qc (wordsOf (X / a)) ∧ NwA w.heap.size qa qn ∧ Below w.heap.size w w' := by
  have hmf : ∀ (fn : Fn) (first cap : Array Value) (w : World), (Instr.makeFunc fn first cap).run Tryz.prog w = .ok (.func fn first cap) w := fun _ _ _ _ => rfl
  have ga : greatB a = false := cf_great (k := 64) (by omega) (by decide)
  have bA := below_alloc w (.cells #[.int .u8 kd, .int .u64 t, .int .u64 (a : Int), .bool o] 102)
  have h2 := h.keepB bA
  have p0 : PAt (w.alloc (.cells #[.int .u8 kd, .int .u64 t, .int .u64 (a : Int), .bool o] 102)) w.heap.size 0 kd t (a : Int) o := ⟨by go_simp, by go_simp, by go_simp, by go_simp⟩
  have hB : w.heap.size < (w.alloc (.cells #[.int .u8 kd, .int .u64 t, .int .u64 (a : Int), .bool o] 102)).heap.size := by go_simp
  go_enter Tryz.func138, Tryz.ntmps138
  go_wp2_with fail
  generalize w.alloc (.cells #[.int .u8 kd, .int .u64 t, .int .u64 (a : Int), .bool o] 102) = w0 at *
  refine Calls.mono (cof_eq a (by omega) (by omega)) ?_
  rintro r w1 ⟨a1, n1, c1, rfl, hn1, hO1, b1⟩
  have h3 := h2.keepB b1
  replace p0 := p0.keepS (Ks.of_below (S := fun _ => False) b1) (fun e => e)
  have z1 := b1.size
  go_wp2_with fail
  refine Calls.mono (fOver_calls h3 hO1.1 hl hn1 hg ga (by omega)) ?_
  rintro r w2 ⟨a2, n2, c2, rfl, hn2, hO2, b2⟩
  replace p0 := p0.keepS (Ks.of_below (S := fun _ => False) b2) (fun e => e)
  have z2 := b2.size
  have N2 := hO2.nw.low (show w.heap.size ≤ w1.heap.size by omega)
  replace bA := (bA.trans (b1.mono (by omega))).trans (b2.mono (show w.heap.size ≤ w1.heap.size by omega))
  go_wp2_with fail
  go_ret
  have b3 := below_alloc w2 (.cells #[.slice a2 n2 c2] 24)
  have b4 := below_alloc (w2.alloc (.cells #[.slice a2 n2 c2] 24)) (.cells #[.int .u64 1] 59)
  have b5 := below_alloc ((w2.alloc (.cells #[.slice a2 n2 c2] 24)).alloc (.cells #[.int .u64 1] 59)) (.cells #[.bool false] 4)
  have bb := below_trans (below_trans b3 b4) b5
  refine ⟨w2.heap.size, w2.heap.size + 1, w.heap.size, w2.heap.size + 2, a2, n2, c2, rfl, by omega, by omega, by omega, by omega, by omega, by omega, by omega, by omega, by omega, by omega, ⟨by go_simp, by go_simp, by go_simp, by go_simp, by go_simp, by go_simp, p0.keepS (Ks.of_below (S := fun _ => False) bb) (fun e => e)⟩, hn2, hO2.1.keepB bb, N2, bA.trans (bb.mono (by omega))⟩

theorem term_fact (p : Pt) (wd j : Nat) (h : p.kind = 2) : term p wd j = p.t * 2 ^ wd / rfac j := by unfold term den; rw [if_pos h]

theorem fact_next (X j : Nat) : X / rfac j / (j + 1) = X / rfac (j + 1) := by rw [Nat.div_div_eq_div_mul, Nat.mul_comm]; rfl

theorem term_pow (p : Pt) (wd j : Nat) (h : p.kind ≠ 2) : p.t * 2 ^ wd / (p.a * (p.a * p.a) ^ j) / (2 * j + 1) = term p wd j := by unfold term den; rw [if_neg h, Nat.div_div_eq_div_mul]

theorem pow_next (X a j : Nat) : X / (a * (a * a) ^ j) / (a * a) = X / (a * (a * a) ^ (j + 1)) := by rw [Nat.div_div_eq_div_mul, Nat.pow_succ, Nat.mul_assoc]

theorem X_fit (p : Pt) (wd : Nat) (h : ok p) (hw : wd ≤ 16500) : greatB (p.t * 2 ^ wd) = false := by
  refine cf_great (k := wd + 10) ?_ (by omega)
  rw [Nat.pow_add, Nat.mul_comm]
  exact Nat.mul_lt_mul_of_pos_left h.2.1 (Nat.pow_pos (by decide))

theorem tn_next (k j : Nat) : ((k : Int) == 0 && !(k == 0 && j % 2 == 1)) = (k == 0 && (j + 1) % 2 == 1) := by
  have e : ((k : Int) == 0) = (k == 0) := by rw [Bool.eq_iff_iff]; simp
  rw [e]
  cases k == 0
  · rfl
  · rcases Nat.mod_two_eq_zero_or_one j with e | e
    · have q : (j + 1) % 2 = 1 := by omega
      rw [e, q]; rfl
    · have q : (j + 1) % 2 = 0 := by omega
      rw [e, q]; rfl

/-- the boxes of a series of factorials at its jth term -/
def StF (B bq bn bp : Nat) (p : Pt) (wd j : Nat) (w : World) : Prop := ∃ (qa : Option Addr) (qn qc : Nat), w.cell? ⟨bq, 0, none⟩ = some (.slice qa qn qc) ∧ w.frozen? ⟨bq, 0, none⟩ = false ∧ w.cell? ⟨bn, 0, none⟩ = some (.int .u64 (j : Int)) ∧ w.frozen? ⟨bn, 0, none⟩ = false ∧ PAt w bp 0 p.kind p.t p.a p.off ∧ qn ≤ 1024 ∧ IsW w qa qn qc (wordsOf (p.t * 2 ^ wd / rfac j)) ∧ NwA B qa qn ∧ NoS (fun k => k = bq ∨ k = bn) qa qn

theorem isN_fact {B bq bn bp : Nat} {p : Pt} {wd : Nat} {w : World} (hk : p.kind = 2) (d1 : bq ≠ bn) (d2 : bp ≠ bq) (d3 : bp ≠ bn) (e1 : B ≤ bq) (e2 : B ≤ bn) (e3 : B ≤ bp) (g : greatB (p.t * 2 ^ wd) = false) (h0 : StF B bq bn bp p wd 0 w) :
    IsN B (.func (.func 162) #[] #[.pointer (some ⟨bq, 0, none⟩), .pointer (some ⟨bn, 0, none⟩), .pointer (some ⟨bp, 0, none⟩)]) p wd w := by
  refine ⟨_, _, (fun k => k = bq ∨ k = bn), StF B bq bn bp p wd, rfl, Tryz.call162, ?_, h0, ?_, ?_⟩
  · obtain ⟨qa, qn, qc, k1, k2, k3, k4, k5, k6, k7, k8, k9⟩ := h0
    have l1 : bq < w.heap.size := World.block_lt_of_cell? _ _ k1
    have l2 : bn < w.heap.size := World.block_lt_of_cell? _ _ k3
    rintro b (rfl | rfl)
    · exact ⟨e1, l1⟩
    · exact ⟨e2, l2⟩
  · rintro j W W' ⟨qa, qn, qc, k1, k2, k3, k4, k5, k6, k7, k8, k9⟩ K
    have n1 : ¬ bq < B := by omega
    have n2 : ¬ bn < B := by omega
    exact ⟨qa, qn, qc, K.cell k1 n1, K.frozen k1 n1 k2, K.cell k3 n2, K.frozen k3 n2 k4, k5.keepS K (by omega), k6, k7.keepS (fun b o e hn hb => by have := k8 b o e hn; omega) K, k8, k9⟩
  · rintro j W hj hW ⟨qa, qn, qc, k1, k2, k3, k4, k5, k6, k7, k8, k9⟩
    have l1 : bq < W.heap.size := World.block_lt_of_cell? _ _ k1
    have l2 : bn < W.heap.size := World.block_lt_of_cell? _ _ k3
    refine Calls.mono (fact1_calls bq bn bp qa qn qc _ j p.kind p.t p.a p.off W d1 d2 d3 k1 k2 k3 k4 k5 k7 k6 k9 (great_mono (Nat.div_le_self _ _) g) (by omega)) ?_
    rintro r W' ⟨rfl, K, f1, f2, f3, ao, m, c, f4, f5, f6, f7⟩
    have hs : sdI p.off (p.kind == 0 && j % 2 == 1) = sdI p.off false := by rw [hk]; rfl
    rw [hs, term_fact p wd j hk]
    refine ⟨qa, qn, qc, rfl, k6, k7.keepS k9 K, k8, ⟨ao, m, c, f4, f2, f1, f3, k5.keepS K (fun e => e.elim d2 d3), f5, ?_, f7.low (by omega), f7.noS ?_⟩, K⟩
    · rw [← fact_next]; exact f6
    · rintro b (rfl | rfl)
      · exact l1
      · exact l2

/-- the boxes of a series of odd powers at its jth term -/
def StP (B bq bn bp bt : Nat) (p : Pt) (wd j : Nat) (w : World) : Prop := ∃ (qa : Option Addr) (qn qc : Nat), BoxP w bq bn bp bt qa qn qc ((2 * j + 1 : Nat) : Int) (p.kind == 0 && j % 2 == 1) p.kind p.t (p.a : Int) p.off ∧ qn ≤ 1024 ∧ IsW w qa qn qc (wordsOf (p.t * 2 ^ wd / (p.a * (p.a * p.a) ^ j))) ∧ NwA B qa qn

theorem isN_pow {B bq bn bp bt : Nat} {p : Pt} {wd : Nat} {w : World} (hk : p.kind ≠ 2) (hp : ok p) (d1 : bq ≠ bn) (d2 : bp ≠ bq) (d3 : bp ≠ bn) (d4 : bt ≠ bq) (d5 : bt ≠ bn) (d6 : bt ≠ bp) (e1 : B ≤ bq) (e2 : B ≤ bn) (e3 : B ≤ bp) (e4 : B ≤ bt) (hB : B ≤ w.heap.size) (g : greatB (p.t * 2 ^ wd) = false) (h0 : StP B bq bn bp bt p wd 0 w) :
    IsN B (.func (.func 164) #[] #[.pointer (some ⟨bq, 0, none⟩), .pointer (some ⟨bn, 0, none⟩), .pointer (some ⟨bp, 0, none⟩), .pointer (some ⟨bt, 0, none⟩)]) p wd w := by
  have ha := hp.2.2.resolve_left hk
  refine ⟨_, _, (fun k => k = bq ∨ k = bn ∨ k = bt), StP B bq bn bp bt p wd, rfl, Tryz.call164, ?_, h0, ?_, ?_⟩
  · obtain ⟨qa, qn, qc, ⟨k1, k2, k3, k4, k5, k6, k7⟩, -⟩ := h0
    have l1 : bq < w.heap.size := World.block_lt_of_cell? _ _ k1
    have l2 : bn < w.heap.size := World.block_lt_of_cell? _ _ k3
    have l3 : bt < w.heap.size := World.block_lt_of_cell? _ _ k5
    rintro b (rfl | rfl | rfl)
    · exact ⟨e1, l1⟩
    · exact ⟨e2, l2⟩
    · exact ⟨e4, l3⟩
  · rintro j W W' ⟨qa, qn, qc, ⟨k1, k2, k3, k4, k5, k6, k7⟩, f1, f2, f3⟩ K
    have n1 : ¬ bq < B := by omega
    have n2 : ¬ bn < B := by omega
    have n3 : ¬ bt < B := by omega
    exact ⟨qa, qn, qc, ⟨K.cell k1 n1, K.frozen k1 n1 k2, K.cell k3 n2, K.frozen k3 n2 k4, K.cell k5 n3, K.frozen k5 n3 k6, k7.keepS K (by omega)⟩, f1, f2.keepS (fun b o e hn hb => by have := f3 b o e hn; omega) K, f3⟩
  · rintro j W hj hW ⟨qa, qn, qc, C, f1, f2, f3⟩
    refine Calls.mono (pow1_calls bq bn bp bt qa qn qc _ (2 * j + 1) p.kind p.t p.a p.off _ W d1 d2 d3 d4 d5 d6 C f2 f1 (great_mono (Nat.div_le_self _ _) g) (by omega) (by omega) (by omega) ha.2) ?_
    rintro r W' ⟨ao, m, c, qa2, qn2, qc2, rfl, hm, h1, h2, K, C2, hq2, h3, h4⟩
    rw [term_pow p wd j hk] at h1
    rw [pow_next] at h3
    rw [tn_next] at C2
    exact ⟨ao, m, c, rfl, hm, h1, h2.low (by omega), ⟨qa2, qn2, qc2, by rw [show ((2 * (j + 1) + 1 : Nat) : Int) = ((2 * j + 1 : Nat) : Int) + 2 by omega]; exact C2, hq2, h3, h4.low (by omega)⟩, K⟩

set_option maxRecDepth 100000 in
set_option maxHeartbeats 2000000 in
theorem terms_calls (p : Pt) (hp : ok p) (wd : Nat) (hwd : wd ≤ 16500) (w : World) :
    Calls Tryz.prog 104 #[PV p, .int .i64 (wd : Int)] w fun r w' => ∃ v, r = .returned v ∧ IsN w.heap.size v p wd w' ∧ Below w.heap.size w w' := by
  have bA := below_alloc w (.cells #[.int .u8 (p.kind : Int), .int .u64 (p.t : Int), .int .u64 (p.a : Int), .bool p.off] 102)
  have p0 : PAt (w.alloc (.cells #[.int .u8 (p.kind : Int), .int .u64 (p.t : Int), .int .u64 (p.a : Int), .bool p.off] 102)) w.heap.size 0 p.kind p.t p.a p.off := ⟨by go_simp, by go_simp, by go_simp, by go_simp⟩
  have g := X_fit p wd hp hwd
  have ht : p.t < 1024 := hp.2.1
  unfold PV
  have hk2 : Hid (p.kind = 2) ∧ ((p.kind : Int) == 2) = true ∨ Hid (p.kind ≠ 2) ∧ ((p.kind : Int) == 2) = false := by
    by_cases h : p.kind = 2
    · exact Or.inl ⟨h, by rw [h]; rfl⟩
    · exact Or.inr ⟨h, by simp; omega⟩
  go_enter Tryz.func104, Tryz.ntmps104
  go_wp2_with fail
  generalize w.alloc (.cells #[.int .u8 (p.kind : Int), .int .u64 (p.t : Int), .int .u64 (p.a : Int), .bool p.off] 102) = w0 at *
  refine Calls.mono (cof_eq p.t rfl (by omega)) ?_
  rintro r w1 ⟨a1, n1, c1, rfl, hn1, hO1, b1⟩
  replace p0 := p0.keepS (Ks.of_below (S := fun _ => False) b1) (fun e => e)
  have z1 := b1.size
  have z0 := bA.size
  replace bA := bA.trans (b1.mono z0)
  go_wp2_with fail
  refine Calls.mono (fShl_calls (k := wd) hO1.1 hn1 (by omega) g) ?_
  rintro r w2 ⟨a2, n2, c2, rfl, hn2, hO2, b2⟩
  replace p0 := p0.keepS (Ks.of_below (S := fun _ => False) b2) (fun e => e)
  have z2 := b2.size
  replace bA := bA.trans (b2.mono (Nat.le_trans z0 z1))
  have N2 := hO2.nw.low (Nat.le_trans z0 z1)
  have z3 := bA.size
  clear hO1 b1 b2
  have p1 := p0
  obtain ⟨c0, c1, c2, c3⟩ := p0
  rcases hk2 with ⟨hk, hk2⟩ | ⟨hk, hk2⟩
  · go_wp2_with fail
    refine Calls.mono (factMade_calls _ _ _ _ _ _ _ _) ?_
    rintro r w3 ⟨bq, bn, bp, rfl, d1, d2, d3, e1, e2, e3, k1, k2, k3, k4, k5, b3⟩
    have z4 := b3.size
    go_wp2_with fail
    go_ret
    exact ⟨_, rfl, isN_fact hk.out d1 d2 d3 (Nat.le_trans z3 e1) (Nat.le_trans z3 e2) (Nat.le_trans z3 e3) g ⟨_, _, _, k1, k2, k3, k4, k5, hn2, by rw [show rfac 0 = 1 from rfl, Nat.div_one]; exact hO2.1.keepB b3, N2, hO2.1.noS (fun b e => e.elim (fun q => by rw [q]; exact e1) (fun q => by rw [q]; exact e2))⟩, bA.trans (b3.mono z3)⟩
  · have ha := hp.2.2.resolve_left hk.out
    go_wp2_with fail
    refine Calls.mono (powMade_calls _ _ p.a _ _ _ _ _ _ hO2.1 hn2 g (by omega) ha.2) ?_
    rintro r w3 ⟨bq, bn, bp, bt, qa, qn, qc, rfl, d1, d2, d3, d4, d5, d6, e1, e2, e3, e4, C, hq, h1, h2, b3⟩
    have z4 := b3.size
    go_wp2_with fail
    go_ret
    exact ⟨_, rfl, isN_pow hk.out hp d1 d2 d3 d4 d5 d6 (Nat.le_trans z3 e1) (Nat.le_trans z3 e2) (Nat.le_trans z3 e3) (Nat.le_trans z3 e4) (Nat.le_trans z3 z4) g ⟨qa, qn, qc, by rw [show (p.kind == 0 && 0 % 2 == 1) = false by simp]; exact C, hq, by rw [Nat.pow_zero, Nat.mul_one]; exact h1, h2.low z3⟩, bA.trans (b3.mono z3)⟩

end Go.Proofs.YtkkldnnndlpblaaGreatDoor

namespace Go.Proofs.YtkkldnnndlpblaaGreatDoor
open Go.RowKit Ck

/-- two sums in block b, their words in no block of Z -/
def SumsAt (Z : Nat → Prop) (b : Nat) (w : World) (s0 s1 : Nat) : Prop := ∃ (a0 : Option Addr) (n0 c0 : Nat) (a1 : Option Addr) (n1 c1 : Nat), w.cell? ⟨b, 0, none⟩ = some (.slice a0 n0 c0) ∧ w.frozen? ⟨b, 0, none⟩ = false ∧ w.cell? ⟨b, 1, none⟩ = some (.slice a1 n1 c1) ∧ w.frozen? ⟨b, 1, none⟩ = false ∧ n0 ≤ 1024 ∧ IsW w a0 n0 c0 (wordsOf s0) ∧ NoS Z a0 n0 ∧ n1 ≤ 1024 ∧ IsW w a1 n1 c1 (wordsOf s1) ∧ NoS Z a1 n1

theorem SumsAt.keep {Z S : Nat → Prop} {b : Nat} {w w' : World} {s0 s1 : Nat} (h : SumsAt Z b w s0 s1) (K : Ks S w w') (hb : ¬ S b) (hZ : ∀ k, S k → Z k) : SumsAt Z b w' s0 s1 := by
  obtain ⟨a0, n0, c0, a1, n1, c1, k1, k2, k3, k4, k5, k6, k7, k8, k9, k10⟩ := h
  exact ⟨a0, n0, c0, a1, n1, c1, K.cell k1 hb, K.frozen k1 hb k2, K.cell k3 hb, K.frozen k3 hb k4, k5, k6.keepS (fun x o e hn hx => k7 x o e hn (hZ x hx)) K, k7, k8, k9.keepS (fun x o e hn hx => k10 x o e hn (hZ x hx)) K, k10⟩

theorem SumsAt.mono {Z Y : Nat → Prop} {b : Nat} {w : World} {s0 s1 : Nat} (h : SumsAt Z b w s0 s1) (hY : ∀ k, k < w.heap.size → Y k → Z k) : SumsAt Y b w s0 s1 := by
  obtain ⟨a0, n0, c0, a1, n1, c1, k1, k2, k3, k4, k5, k6, k7, k8, k9, k10⟩ := h
  have key : ∀ (a : Option Addr) (n c s : Nat), IsW w a n c (wordsOf s) → NoS Z a n → NoS Y a n := fun a n c s hi hz x o e hn hx => by
    obtain ⟨b', o', e1, e2, -⟩ := hi.2.2.2 0 hn
    rw [e] at e1
    simp only [Option.some.injEq, Addr.mk.injEq, and_true] at e1
    obtain ⟨rfl, rfl⟩ := e1
    exact hz x o e hn (hY x e2 hx)
  exact ⟨a0, n0, c0, a1, n1, c1, k1, k2, k3, k4, k5, k6, key _ _ _ _ k6 k7, k8, k9, key _ _ _ _ k9 k10⟩

/-- a greater sum, stored -/
theorem SumsAt.put0 {Z : Nat → Prop} {b : Nat} {w : World} {s0 s1 r : Nat} {a : Option Addr} {n c : Nat} (h : SumsAt Z b w s0 s1) (hZ : Z b) (hn : n ≤ 1024) (hi : IsW w a n c (wordsOf r)) (hz : NoS Z a n) : SumsAt Z b (w.setCell ⟨b, 0, none⟩ (.slice a n c)) r s1 := by
  obtain ⟨a0, n0, c0, a1, n1, c1, k1, k2, k3, k4, k5, k6, k7, k8, k9, k10⟩ := h
  obtain ⟨t1, t2, t3⟩ := st1 (S := fun k => k = b) (.slice a n c) k1 k2 rfl
  have e1 : (w.setCell ⟨b, 0, none⟩ (.slice a n c)).cell? ⟨b, 1, none⟩ = some (.slice a1 n1 c1) := (World.cell?_setCell_other w ⟨b, 0, none⟩ ⟨b, 1, none⟩ (.slice a n c) (by simp)).trans k3
  exact ⟨a, n, c, a1, n1, c1, t1, t2, e1, (World.frozen?_setCell w _ _ _).trans k4, hn, hi.keepS (fun x o e hn hx => hz x o e hn (by rw [hx]; exact hZ)) t3, hz, k8, k9.keepS (fun x o e hn hx => k10 x o e hn (by rw [hx]; exact hZ)) t3, k10⟩

theorem SumsAt.put1 {Z : Nat → Prop} {b : Nat} {w : World} {s0 s1 r : Nat} {a : Option Addr} {n c : Nat} (h : SumsAt Z b w s0 s1) (hZ : Z b) (hn : n ≤ 1024) (hi : IsW w a n c (wordsOf r)) (hz : NoS Z a n) : SumsAt Z b (w.setCell ⟨b, 1, none⟩ (.slice a n c)) s0 r := by
  obtain ⟨a0, n0, c0, a1, n1, c1, k1, k2, k3, k4, k5, k6, k7, k8, k9, k10⟩ := h
  obtain ⟨t1, t2, t3⟩ := st1 (S := fun k => k = b) (.slice a n c) k3 k4 rfl
  have e1 : (w.setCell ⟨b, 1, none⟩ (.slice a n c)).cell? ⟨b, 0, none⟩ = some (.slice a0 n0 c0) := (World.cell?_setCell_other w ⟨b, 1, none⟩ ⟨b, 0, none⟩ (.slice a n c) (by simp)).trans k1
  exact ⟨a0, n0, c0, a, n, c, e1, (World.frozen?_setCell w _ _ _).trans k2, t1, t2, k5, k6.keepS (fun x o e hn hx => k7 x o e hn (by rw [hx]; exact hZ)) t3, k7, hn, hi.keepS (fun x o e hn hx => hz x o e hn (by rw [hx]; exact hZ)) t3, hz⟩

theorem sm_step (p : Pt) (w j : Nat) (s : Bool) : sm p w s (j + 1) = sm p w s j + if sd p j = s then term p w j else 0 := rfl

theorem step_t {p : Pt} {w j : Nat} (h : sd p j = true) : sm p w true (j + 1) = sm p w true j + term p w j ∧ sm p w false (j + 1) = sm p w false j := by
  rw [sm_step, sm_step, h]; exact ⟨rfl, rfl⟩

theorem step_f {p : Pt} {w j : Nat} (h : sd p j = false) : sm p w false (j + 1) = sm p w false j + term p w j ∧ sm p w true (j + 1) = sm p w true j := by
  rw [sm_step, sm_step, h]; exact ⟨rfl, rfl⟩

theorem words_len0 {n x : Nat} (h : n = (wordsOf x).length) : (n = 0) ↔ x = 0 := by
  rw [h]
  by_cases hx : x = 0
  · rw [hx, words_zero]; simp
  · rw [words_pos x hx]; simp [hx]

set_option maxRecDepth 100000 in
set_option maxHeartbeats 4000000 in
theorem sumUp_calls (p : Pt) (hp : ok p) (wd : Nat) (hwd : wd ≤ 16500) (b s0 s1 : Nat) (w : World) (h : SumsAt (fun k => k = b) b w s0 s1) (g0 : greatB (s0 + sm p wd false (cnt p wd)) = false) (g1 : greatB (s1 + sm p wd true (cnt p wd)) = false) :
    Calls Tryz.prog 65 #[PV p, .int .i64 (wd : Int), .pointer (some ⟨b, 0, none⟩)] w fun r w' => r = .returned (.int .u64 ((cnt p wd : Int) + 2)) ∧ Ks (fun k => k = b) w w' ∧ SumsAt (fun k => k = b) b w' (s0 + sm p wd false (cnt p wd)) (s1 + sm p wd true (cnt p wd)) := by
  have hbl : b < w.heap.size := by obtain ⟨a0, n0, c0, a1, n1, c1, k1, -⟩ := h; exact World.block_lt_of_cell? _ _ k1
  obtain ⟨t1, t2, t3⟩ := cnt_spec p hp wd
  have HT1 : Hid _ := t1
  have HT2 : Hid _ := t2
  have HT : Hid _ := fun (W : World) => terms_calls p hp wd hwd W
  have bA := below_alloc w (.cells #[.int .u8 (p.kind : Int), .int .u64 (p.t : Int), .int .u64 (p.a : Int), .bool p.off] 102)
  have hA := h.keep (Ks.of_below (S := fun _ => False) bA) (fun e => e) (fun _ e => e.elim)
  clear h t1 t2
  unfold PV
  go_enter Tryz.func65, Tryz.ntmps65
  go_wp2_with fail
  generalize w.alloc (.cells #[.int .u8 (p.kind : Int), .int .u64 (p.t : Int), .int .u64 (p.a : Int), .bool p.off] 102) = w0 at *
  refine Calls.mono (HT.out _) ?_
  rintro r w1 ⟨v, rfl, HN, b1⟩
  obtain ⟨F, caps, S, St, rfl, hBC, hS, hst, hkeep, hnext⟩ := HN
  have hrun : ∀ (xs : Array Value) (w : World), Sem.run Tryz.prog (callFunc F xs) w = .ok (.enter F xs) w := hBC
  have z0 := bA.size
  have nSb : ¬ S b := fun e => by have := (hS b e).1; omega
  have H1 := (hA.mono (Y := fun k => k = b ∨ S k) (fun k hk e => e.elim id (fun e => by have := (hS k e).1; omega))).keep (Ks.of_below (S := fun _ => False) b1) (fun e => e) (fun _ e => e.elim)
  clear hA HT hBC
  have HS : Hid _ := hS
  have HK : Hid _ := hkeep
  have HX : Hid _ := hnext
  clear hS hkeep hnext
  go_wp2_with fail
  go_loopw [8, 9, 10] (fun cv _ _ wr => ∃ j : Nat, j ≤ cnt p wd ∧ cv = .int .u64 (j : Int) ∧ St j wr ∧ SumsAt (fun k => k = b ∨ S k) b wr (s0 + sm p wd false j) (s1 + sm p wd true j) ∧ Ks (fun k => k = b ∨ S k) w1 wr) (fun cv _ _ _ => cnt p wd - (intOf cv).toNat)
  case atStart => exact ⟨0, Nat.zero_le _, rfl, hst, H1, Ks.of_below (Below.refl _ _)⟩
  case round =>
    clear hst H1
    obtain ⟨j, hj, rfl, hst, hsum, hK⟩ := hrel
    have hz := hK.2.2.2.1
    have HX2 : Hid _ := HX.out j wr (by omega) hz hst
    have hw1 : IntKind.u64.wrap ((j : Int) + 2) = (j : Int) + 2 := by rw [IntKind.wrap_u64]; omega
    have hw2 : IntKind.u64.wrap ((j : Int) + 1) = ((j + 1 : Nat) : Int) := by rw [IntKind.wrap_u64]; omega
    have hb0 : b < wr.heap.size := by have := b1.size; omega
    rcases Bool.eq_false_or_eq_true (sd p j) with hsd | hsd
    · have e1 : sdI p.off (p.kind == 0 && j % 2 == 1) = if sd p j = true then 1 else 0 := rfl
      rw [e1, hsd, if_pos rfl] at HX2
      obtain ⟨q1, q2⟩ := step_t (w := wd) hsd

      go_wp2_with fail
      refine Calls.mono HX2.out ?_
      rintro r w2 ⟨ao, n, c, rfl, hn, hi, hnw, hst2, hk2⟩
      have hsum2 := hsum.keep hk2 nSb (fun k e => Or.inr e)
      have hK2 := hK.trans (hk2.mono (fun k _ e => Or.inr e))
      have hz2 := hk2.2.2.2.1
      clear hst hsum hK HX2 hk2
      by_cases h0 : n = 0
      · subst h0
        have hj2 : j = cnt p wd := by
          have := (words_len0 hi.1).1 rfl
          exact Nat.le_antisymm hj (Nat.le_of_not_lt fun hl => HT2.out j hl this)
        subst hj2
        go_wp2_with fail
        go_ret
        refine ⟨rfl, ?_, hsum2.mono (fun k _ e => Or.inl e)⟩
        have k1 := ((Ks.of_below (S := fun k => k = b ∨ S k) bA).trans (Ks.of_below b1)).trans hK2
        exact k1.mono (fun k hk e => e.elim id (fun e => by have := (HS.out k e).1; omega))
      · have hj2 : j < cnt p wd := by
          refine Nat.lt_of_le_of_ne hj fun e => h0 ((words_len0 hi.1).2 ?_)
          rw [e]; exact HT1.out
        have hn0 : ¬ ((n : Int) = 0) := by omega
        have hsum3 := hsum2
        obtain ⟨a0, n0, c0, a1, n1, c1, k1, k2, k3, k4, k5, k6, k7, k8, k9, k10⟩ := hsum2
        have gg : greatB (s1 + sm p wd true j + term p wd j) = false := great_mono (by have := sm_mono p wd true (j + 1) (cnt p wd) hj2; omega) g1
        have hmono := sm_mono p wd true (j + 1) (cnt p wd) hj2
        have bD : Below w2.heap.size w2 w2.drew := (Below.refl _ _).drew
        have PC : Hid _ := fPlus_calls (k9.keepB bD) (hi.keepB bD) k8 hn gg
        clear hmono gg hi k6 k9
        go_wp2_with fail
        go_region_with (go_at_call 68; refine Calls.mono PC.out ?_; rintro r w3 ⟨a5, m5, c5, rfl, hm5, hO5, b5⟩; have b6 := below_trans bD b5; have j0 := cKeep b6 k3; have j1 := fKeep b6 k3 k4)
        all_goals
          have z5 : w1.heap.size ≤ w2.heap.size := Nat.le_trans hz hz2
          have NZ : NoS (fun k => k = b ∨ S k) a5 m5 := hO5.nw.noS (fun k e => e.elim (fun q => by rw [q]; show b < w2.heap.size; omega) (fun q => Nat.lt_of_lt_of_le (HS.out k q).2 z5))
          have S3 := (hsum3.keep (Ks.of_below (S := fun _ => False) b6) (fun e => e) (fun _ e => e.elim)).put1 (Or.inl rfl) hm5 hO5.1 NZ
          have t3 := (st1 (S := fun k => k = b) (.slice a5 m5 c5) j0 j1 rfl).2.2
          have hst3 := HK.out _ _ _ (HK.out _ _ _ hst2 (Ks.of_below b6)) (t3.mono (fun k _ e => by show k < w0.heap.size; omega))
          have K3 := (hK2.trans (Ks.of_below b6)).trans (t3.mono (fun _ _ e => Or.inl e))
          rw [Nat.add_assoc, ← q1, ← q2] at S3
          clear hsum3 hst2 hK2 b5 b6 bD hO5 NZ t3 j0 j1 k1 k2 k3 k4 k7 k10 PC q1 q2
          generalize w3.setCell ⟨b, 1, none⟩ (.slice a5 m5 c5) = w4 at *
          go_wp2_with fail
          go_roundw
          case rel => exact ⟨j + 1, hj2, rfl, hst3, S3, K3⟩
          case measure => simp only [intOf]; omega
    · have e1 : sdI p.off (p.kind == 0 && j % 2 == 1) = if sd p j = true then 1 else 0 := rfl
      rw [e1, hsd, if_neg (by decide)] at HX2
      obtain ⟨q1, q2⟩ := step_f (w := wd) hsd

      go_wp2_with fail
      refine Calls.mono HX2.out ?_
      rintro r w2 ⟨ao, n, c, rfl, hn, hi, hnw, hst2, hk2⟩
      have hsum2 := hsum.keep hk2 nSb (fun k e => Or.inr e)
      have hK2 := hK.trans (hk2.mono (fun k _ e => Or.inr e))
      have hz2 := hk2.2.2.2.1
      clear hst hsum hK HX2 hk2
      by_cases h0 : n = 0
      · subst h0
        have hj2 : j = cnt p wd := by
          have := (words_len0 hi.1).1 rfl
          exact Nat.le_antisymm hj (Nat.le_of_not_lt fun hl => HT2.out j hl this)
        subst hj2
        go_wp2_with fail
        go_ret
        refine ⟨rfl, ?_, hsum2.mono (fun k _ e => Or.inl e)⟩
        have k1 := ((Ks.of_below (S := fun k => k = b ∨ S k) bA).trans (Ks.of_below b1)).trans hK2
        exact k1.mono (fun k hk e => e.elim id (fun e => by have := (HS.out k e).1; omega))
      · have hj2 : j < cnt p wd := by
          refine Nat.lt_of_le_of_ne hj fun e => h0 ((words_len0 hi.1).2 ?_)
          rw [e]; exact HT1.out
        have hn0 : ¬ ((n : Int) = 0) := by omega
        have hsum3 := hsum2
        obtain ⟨a0, n0, c0, a1, n1, c1, k1, k2, k3, k4, k5, k6, k7, k8, k9, k10⟩ := hsum2
        have gg : greatB (s0 + sm p wd false j + term p wd j) = false := great_mono (by have := sm_mono p wd false (j + 1) (cnt p wd) hj2; omega) g0
        have hmono := sm_mono p wd false (j + 1) (cnt p wd) hj2
        have bD : Below w2.heap.size w2 w2.drew := (Below.refl _ _).drew
        have PC : Hid _ := fPlus_calls (k6.keepB bD) (hi.keepB bD) k5 hn gg
        clear hmono gg hi k6 k9
        go_wp2_with fail
        go_region_with (go_at_call 68; refine Calls.mono PC.out ?_; rintro r w3 ⟨a5, m5, c5, rfl, hm5, hO5, b5⟩; have b6 := below_trans bD b5; have j0 := cKeep b6 k1; have j1 := fKeep b6 k1 k2)
        all_goals
          have z5 : w1.heap.size ≤ w2.heap.size := Nat.le_trans hz hz2
          have NZ : NoS (fun k => k = b ∨ S k) a5 m5 := hO5.nw.noS (fun k e => e.elim (fun q => by rw [q]; show b < w2.heap.size; omega) (fun q => Nat.lt_of_lt_of_le (HS.out k q).2 z5))
          have S3 := (hsum3.keep (Ks.of_below (S := fun _ => False) b6) (fun e => e) (fun _ e => e.elim)).put0 (Or.inl rfl) hm5 hO5.1 NZ
          have t3 := (st1 (S := fun k => k = b) (.slice a5 m5 c5) j0 j1 rfl).2.2
          have hst3 := HK.out _ _ _ (HK.out _ _ _ hst2 (Ks.of_below b6)) (t3.mono (fun k _ e => by show k < w0.heap.size; omega))
          have K3 := (hK2.trans (Ks.of_below b6)).trans (t3.mono (fun _ _ e => Or.inl e))
          rw [Nat.add_assoc, ← q1, ← q2] at S3
          clear hsum3 hst2 hK2 b5 b6 bD hO5 NZ t3 j0 j1 k1 k2 k3 k4 k7 k10 PC q1 q2
          generalize w3.setCell ⟨b, 0, none⟩ (.slice a5 m5 c5) = w4 at *
          go_wp2_with fail
          go_roundw
          case rel => exact ⟨j + 1, hj2, rfl, hst3, S3, K3⟩
          case measure => simp only [intOf]; omega

end Go.Proofs.YtkkldnnndlpblaaGreatDoor

namespace Go.Proofs.YtkkldnnndlpblaaGreatDoor
open Go.RowKit Ck

/-- the recipes in their variable -/
def RecT (w : World) : Prop := 0 < w.heap.size ∧ ∃ bk ck : Nat → Nat, ∀ k, 1 ≤ k → k ≤ 7 → w.cell? ⟨0, 2 * k, none⟩ = some (.int .u8 (ov k)) ∧ (ov k = 0 → ∃ cap, (rec0 k).length ≤ cap ∧ w.cell? ⟨0, 2 * k + 1, none⟩ = some (.slice (some ⟨bk k, ck k, none⟩) (rec0 k).length cap) ∧ ∀ i p, (rec0 k)[i]? = some p → PAt w (bk k) (ck k + 4 * i) p.kind p.t p.a p.off)

theorem RecT.kept {w w' : World} (h : RecT w) (b : Below w.heap.size w w') : RecT w' := by
  obtain ⟨h0, bk, ck, h1⟩ := h
  refine ⟨Nat.lt_of_lt_of_le h0 b.size, bk, ck, fun k h2 h3 => ?_⟩
  obtain ⟨h4, h5⟩ := h1 k h2 h3
  refine ⟨cKeep b h4, fun h6 => ?_⟩
  obtain ⟨cap, hc, h7, h8⟩ := h5 h6
  exact ⟨cap, hc, cKeep b h7, fun i p hp => (h8 i p hp).keepS (Ks.of_below (S := fun _ => False) b) (fun e => e)⟩

theorem tA_snoc (w : Nat) (s : Bool) (p : Pt) : ∀ l : List Pt, tA (l ++ [p]) w s = tA l w s + sm p w s (cnt p w) := by
  intro l
  induction l with
  | nil => simp [tA]
  | cons q l ih => simp only [List.cons_append, tA, ih]; omega

theorem tU_snoc (w : Nat) (p : Pt) : ∀ l : List Pt, tU (l ++ [p]) w = tU l w + (cnt p w + 2) := by
  intro l
  induction l with
  | nil => simp [tU]
  | cons q l ih => simp only [List.cons_append, tU, ih]; omega

theorem take_snoc {l : List Pt} {i : Nat} {p : Pt} (h : l[i]? = some p) : l.take (i + 1) = l.take i ++ [p] := by
  rw [List.take_add_one, h]; rfl

theorem tA_mono (w : Nat) (s : Bool) (l : List Pt) (i : Nat) : tA (l.take i) w s ≤ tA l w s := by
  induction l generalizing i with
  | nil => simp [tA]
  | cons p l ih =>
    cases i with
    | zero => simp [tA]
    | succ i => simp only [List.take_succ_cons, tA]; have := ih i; omega

theorem tU_mono (w : Nat) (l : List Pt) (i : Nat) : tU (l.take i) w ≤ tU l w := by
  induction l generalizing i with
  | nil => simp [tU]
  | cons p l ih =>
    cases i with
    | zero => simp [tU]
    | succ i => simp only [List.take_succ_cons, tU]; have := ih i; omega

theorem sm_le (p : Pt) (w : Nat) (s : Bool) (hp : ok p) : ∀ n, sm p w s n ≤ n * (1024 * 2 ^ w) := by
  intro n
  induction n with
  | zero => simp [sm]
  | succ n ih =>
    rw [sm_step, Nat.add_mul, Nat.one_mul]
    have : term p w n ≤ 1024 * 2 ^ w := Nat.le_trans (Nat.div_le_self _ _) (Nat.mul_le_mul_right _ (by have := hp.2.1; omega))
    split <;> omega

theorem tA_le (w : Nat) (s : Bool) : ∀ l : List Pt, (∀ p ∈ l, ok p) → tA l w s ≤ l.length * ((w + 64) * (1024 * 2 ^ w)) := by
  intro l
  induction l with
  | nil => intro _; simp [tA]
  | cons p l ih =>
    intro h
    have h1 := ih (fun q hq => h q (List.mem_cons_of_mem _ hq))
    have h2 := sm_le p w s (h p List.mem_cons_self) (cnt p w)
    have h3 : cnt p w * (1024 * 2 ^ w) ≤ (w + 64) * (1024 * 2 ^ w) := Nat.mul_le_mul_right _ (by have := (cnt_spec p (h p List.mem_cons_self) w).2.2; omega)
    simp only [tA, List.length_cons, Nat.add_mul, Nat.one_mul] at *
    omega

theorem cA_lt (k w : Nat) (s : Bool) (hw : w ≤ 16000) : cA k w s < 2 ^ (w + 40) := by
  refine Nat.lt_of_le_of_lt (tA_le w s (rec0 k) (rec0_ok k)) ?_
  have h1 : (rec0 k).length * ((w + 64) * (1024 * 2 ^ w)) ≤ 4 * (20000 * (1024 * 2 ^ w)) := Nat.mul_le_mul (rec0_ne k).2 (Nat.mul_le_mul_right _ (by omega))
  refine Nat.lt_of_le_of_lt h1 ?_
  have h2 : 0 < 2 ^ w := Nat.pow_pos (by decide)
  rw [Nat.pow_add, show (2 : Nat) ^ 40 = 1099511627776 by decide]
  generalize 2 ^ w = P at *
  omega

theorem cA_fit (k w : Nat) (s : Bool) (hw : w ≤ 16000) : greatB (cA k w s) = false := cf_great (cA_lt k w s hw) (by omega)

theorem cAU_fit (k w : Nat) (s : Bool) (hw : w ≤ 16000) : greatB (cA k w s + cU k w) = false := by
  refine cf_great (k := w + 41) ?_ (by omega)
  have h1 := cA_lt k w s hw
  have h2 := cU_le k w
  have h3 : w < 2 ^ w := Nat.lt_two_pow_self
  rw [show w + 41 = w + 40 + 1 by omega, Nat.pow_succ, Nat.mul_two]
  have h4 : 4 * (w + 66) < 2 ^ (w + 40) := by
    rw [Nat.pow_add, show (2 : Nat) ^ 40 = 1099511627776 by decide]
    generalize 2 ^ w = P at *
    omega
  omega

theorem base_of (k : Nat) (h1 : 1 ≤ k) (h2 : k ≤ 4) : base k = true := by
  obtain ⟨a, b, c, d⟩ := base_all
  rcases (by omega : k = 1 ∨ k = 2 ∨ k = 3 ∨ k = 4) with rfl | rfl | rfl | rfl <;> assumption

theorem ks_set {S : Nat → Prop} {w : World} {p : Addr} (v : Value) (hS : S p.block) : Ks S w (w.setCell p v) :=
  ⟨rfl, rfl, rfl, by simp [World.setCell], fun k hk hc => Below.heap_setCell _ _ _ _ (fun e => hc (by rw [e]; exact hS))⟩

theorem OwnW.keepS {S : Nat → Prop} {B : Nat} {w w' : World} {a : Option Addr} {n cap : Nat} {xs : List Int} (h : OwnW B w a n cap xs) (hc : NoS S a n) (r : Ks S w w') : OwnW B w' a n cap xs :=
  ⟨h.1.keepS hc r, fun b off i e hi => by
    obtain ⟨b', off', e1, e2, e3⟩ := h.1.2.2.2 i hi
    rw [e] at e1
    simp only [Option.some.injEq, Addr.mk.injEq, and_true] at e1
    obtain ⟨rfl, rfl⟩ := e1
    exact ⟨(h.2 b off i e hi).1, r.frozen e3 (hc b off e (by omega)) (h.2 b off i e hi).2⟩⟩

theorem ks_four (S : Nat → Prop) (w : World) (b : Nat) (hb : S b) (v0 v1 v2 v3 : Value) : Ks S w ((((w.setCell ⟨b, 0, none⟩ v0).setCell ⟨b, 1, none⟩ v1).setCell ⟨b, 2, none⟩ v2).setCell ⟨b, 3, none⟩ v3) :=
  (((ks_set v0 hb).trans (ks_set v1 hb)).trans (ks_set v2 hb)).trans (ks_set v3 hb)

def SpanV (a : Option Addr) (n c : Nat) (a' : Option Addr) (n' c' : Nat) (e : Int) : Value := .agg #[.slice a n c, .int .i64 e, .slice a' n' c', .int .i64 e]

set_option maxRecDepth 100000 in
set_option maxHeartbeats 1000000 in
theorem units_calls (a a' : Option Addr) (n c n' c' m : Nat) (hm : m ≤ 20000) (w : World) :
    Calls Tryz.prog 67 #[.slice a n c, .slice a' n' c', .int .i64 (m : Int)] w fun r w' => r = .returned (SpanV a n c a' n' c' (-(m : Int))) ∧ Below w.heap.size w w' := by
  have h1 : IntKind.i64.wrap (-(m : Int)) = -(m : Int) := by rw [IntKind.wrap_i64]; omega
  have bA := below_alloc w (.cells #[.slice none 0 0, .int .i64 0, .slice none 0 0, .int .i64 0] 63)
  go_enter Tryz.func67, Tryz.ntmps67
  go_wp2_with fail
  exact bodyPost_ret (v := SpanV a n c a' n' c' (-(m : Int))) (by simp [results, Tryz.results67, go_sem, SpanV]) rfl ⟨rfl, below_alloc _ _⟩

set_option maxRecDepth 100000 in
set_option maxHeartbeats 4000000 in
theorem encl0_calls (k wd : Nat) (h1 : 1 ≤ k) (h4 : k ≤ 4) (h40 : 40 ≤ wd) (hwd : wd ≤ 16000) (w : World) (hT : RecT w) :
    Calls Tryz.prog 32 #[.int .u8 (k : Int), .int .i64 (wd : Int)] w fun r w' => ∃ (a : Option Addr) (n c : Nat) (a' : Option Addr) (n' c' : Nat), r = .returned (SpanV a n c a' n' c' (-(wd : Int))) ∧ n ≤ 1024 ∧ OwnW w.heap.size w' a n c (wordsOf (eLo k wd)) ∧ n' ≤ 1024 ∧ OwnW w.heap.size w' a' n' c' (wordsOf (eHi k wd)) ∧ Below w.heap.size w w' := by
  have ho : ov k = 0 := by unfold ov; rw [if_neg (by omega), if_neg (by omega), if_neg (by omega)]
  obtain ⟨hG, bk, ck, hR⟩ := hT
  obtain ⟨r1, r2⟩ := hR k h1 (by omega)
  obtain ⟨cap, hcap, r3, r4⟩ := r2 ho
  rw [ho, Nat.mul_comm] at r1
  rw [Nat.mul_comm] at r3
  have HO : Hid (ov k = 0) := ho
  obtain ⟨l, hl⟩ : ∃ l, l = rec0 k := ⟨_, rfl⟩
  have HL : Hid (l = rec0 k) := hl
  have hln : l.length ≤ 4 := by rw [hl]; exact (rec0_ne k).2
  rw [← hl] at r3 r4 hcap
  have hok : ∀ p ∈ l, ok p := by rw [hl]; exact rec0_ok k
  clear hl hR r2 ho
  obtain ⟨N, hN⟩ : ∃ N, N = l.length := ⟨_, rfl⟩
  rw [← hN] at r3 hcap hln
  have HN : Hid (N = l.length) := hN
  have HR : Hid _ := r4
  have HOK : Hid _ := hok
  clear hN r4 hok
  have oR : Obj := .cells #[.slice none 0 0, .int .i64 0, .slice none 0 0, .int .i64 0] 63
  have bA := below_trans (below_alloc w (.cells #[.slice none 0 0, .int .i64 0, .slice none 0 0, .int .i64 0] 63)) (below_alloc (w.alloc (.cells #[.slice none 0 0, .int .i64 0, .slice none 0 0, .int .i64 0] 63)) (.cells #[.slice none 0 0, .slice none 0 0] 99))
  have hS0 : SumsAt (fun k => k = w.heap.size + 1) (w.heap.size + 1) ((w.alloc (.cells #[.slice none 0 0, .int .i64 0, .slice none 0 0, .int .i64 0] 63)).alloc (.cells #[.slice none 0 0, .slice none 0 0] 99)) 0 0 :=
    ⟨none, 0, 0, none, 0, 0, by go_simp, by go_simp, by go_simp, by go_simp, by omega, by rw [words_zero]; exact isW_nil _, NoS.nil _, by omega, by rw [words_zero]; exact isW_nil _, NoS.nil _⟩
  have R : ∀ i, i < 4 → ∃ v, ((w.alloc (.cells #[.slice none 0 0, .int .i64 0, .slice none 0 0, .int .i64 0] 63)).alloc (.cells #[.slice none 0 0, .slice none 0 0] 99)).cell? ⟨w.heap.size, i, none⟩ = some v ∧ ((w.alloc (.cells #[.slice none 0 0, .int .i64 0, .slice none 0 0, .int .i64 0] 63)).alloc (.cells #[.slice none 0 0, .slice none 0 0] 99)).frozen? ⟨w.heap.size, i, none⟩ = false := by
    intro i hi
    rcases (by omega : i = 0 ∨ i = 1 ∨ i = 2 ∨ i = 3) with rfl | rfl | rfl | rfl
    · exact ⟨_, by go_simp; rfl, by go_simp⟩
    · exact ⟨_, by go_simp; rfl, by go_simp⟩
    · exact ⟨_, by go_simp; rfl, by go_simp⟩
    · exact ⟨_, by go_simp; rfl, by go_simp⟩
  have R0 : Hid _ := R
  clear R oR
  go_enter Tryz.func32, Tryz.ntmps32
  go_wp2_with fail
  generalize (w.alloc (.cells #[.slice none 0 0, .int .i64 0, .slice none 0 0, .int .i64 0] 63)).alloc (.cells #[.slice none 0 0, .slice none 0 0] 99) = w1 at *
  have zz : w.heap.size + 1 < w1.heap.size := by
    obtain ⟨a0, n0, c0, a1, n1, c1, k1, -⟩ := id hS0
    exact World.block_lt_of_cell? _ _ k1
  go_loopw [7, 9, 28] (fun uv _ iv wr => ∃ i : Nat, i ≤ N ∧ iv = .int .i64 (i : Int) ∧ uv = .int .u64 ((tU (l.take i) wd : Nat) : Int) ∧ SumsAt (fun k => k = w.heap.size + 1) (w.heap.size + 1) wr (tA (l.take i) wd false) (tA (l.take i) wd true) ∧ Ks (fun k => k = w.heap.size + 1) w1 wr) (fun _ _ iv _ => N - (intOf iv).toNat)
  case atStart => exact ⟨0, Nat.zero_le _, rfl, rfl, hS0, Ks.of_below (Below.refl _ _)⟩
  case round =>
    clear hS0
    obtain ⟨i, hi, rfl, rfl, hsum, hK⟩ := hrel
    by_cases hl : i < N
    · obtain ⟨p, hp⟩ : ∃ p, l[i]? = some p := ⟨l[i]'(by rw [← HN.out]; exact hl), List.getElem?_eq_getElem _⟩
      have hP := HR.out i p hp
      have hbk : bk k < w.heap.size := World.block_lt_of_cell? _ _ hP.1
      have hP2 := (hP.keepS (Ks.of_below (S := fun _ => False) (bA.mono (Nat.le_refl _))) (fun e => e)).keepS hK (by omega)
      rw [Nat.mul_comm 4] at hP2
      have hpo := HOK.out p (List.mem_of_getElem? hp)
      have ht := take_snoc hp
      have gg : ∀ s, greatB (tA (l.take i) wd s + sm p wd s (cnt p wd)) = false := fun s => by
        rw [← tA_snoc, ← ht]
        refine great_mono ?_ (cA_fit k wd s hwd)
        unfold cA
        rw [← HL.out]
        exact tA_mono wd s l (i + 1)
      have hu : tU (l.take (i + 1)) wd ≤ 4 * (wd + 66) := by
        have h1 := tU_mono wd l (i + 1)
        have h2 := cU_le k wd
        unfold cU at h2
        rw [← HL.out] at h2
        omega
      have hue : tU (l.take (i + 1)) wd = tU (l.take i) wd + (cnt p wd + 2) := by rw [ht, tU_snoc]
      have hw : IntKind.u64.wrap (((tU (l.take i) wd : Nat) : Int) + ((cnt p wd : Int) + 2)) = ((tU (l.take (i + 1)) wd : Nat) : Int) := by rw [IntKind.wrap_u64]; omega
      have hw2 : IntKind.i64.wrap ((i : Int) + 1) = ((i + 1 : Nat) : Int) := by rw [IntKind.wrap_i64]; omega
      have bP := below_alloc wr (.cells #[.int .u8 (p.kind : Int), .int .u64 (p.t : Int), .int .u64 (p.a : Int), .bool p.off] 102)
      have hs2 := hsum.keep (Ks.of_below (S := fun _ => False) bP) (fun e => e) (fun _ e => e.elim)
      have SC : Hid _ := sumUp_calls p hpo wd (by omega) (w.heap.size + 1) _ _ _ hs2 (gg false) (gg true)
      rw [← tA_snoc, ← tA_snoc, ← ht] at SC
      obtain ⟨p0, p1, p2, p3⟩ := hP2
      clear hs2 hP gg hsum hue hu ht
      have HP : Hid _ := hp
      clear hp
      go_wp2_with fail
      refine Calls.mono SC.out ?_
      rintro r w3 ⟨rfl, K3, S3⟩
      have K4 := (hK.trans (Ks.of_below bP)).trans K3
      clear SC K3 hK bP p0 p1 p2 p3
      go_wp2_with fail
      go_roundw
      case rel => exact ⟨i + 1, hl, rfl, rfl, S3, K4⟩
      case measure => simp only [intOf]; omega
    · have hi2 : i = N := by omega
      subst hi2
      have ht : l.take i = rec0 k := by rw [HN.out, List.take_length]; exact HL.out
      rw [ht] at hsum
      have hu0 := cU_le k wd
      obtain ⟨sz, -⟩ := c_size k wd (base_of k h1 h4) h40
      have sz' : cA k wd true + cU k wd ≤ cA k wd false := Nat.le_trans (Nat.le_add_right _ _) sz
      clear sz
      have sz1 : cA k wd true ≤ cA k wd false := by omega
      have sz2 : cU k wd ≤ cA k wd false - cA k wd true := by omega
      have q1 : eLo k wd = cA k wd false - cA k wd true - cU k wd := by unfold eLo; rw [if_pos HO.out]; rfl
      have q2 : eHi k wd = cA k wd false - cA k wd true + cU k wd := by unfold eHi; rw [if_pos HO.out]; rfl
      have HQ1 : Hid _ := q1
      have HQ2 : Hid _ := q2
      clear q1 q2
      have e0 : ((tU (l.take i) wd : Nat) : Int) = ((cU k wd : Nat) : Int) := by rw [ht]; rfl
      rw [e0]
      have gA := cA_fit k wd false hwd
      have gM : greatB (cA k wd false - cA k wd true) = false := great_mono (Nat.sub_le _ _) gA
      have gP : greatB (cA k wd false - cA k wd true + cU k wd) = false := great_mono (by omega) (cAU_fit k wd false hwd)
      have z1 := hK.2.2.2.1
      have z0 := bA.size
      have RR : ∀ j, j < 4 → ∃ v, wr.cell? ⟨w.heap.size, j, none⟩ = some v ∧ wr.frozen? ⟨w.heap.size, j, none⟩ = false := fun j hj => by
        obtain ⟨v, hv, hf⟩ := R0.out j hj
        exact ⟨v, hK.cell hv (by show ¬ w.heap.size = w.heap.size + 1; omega), hK.frozen hv (by show ¬ w.heap.size = w.heap.size + 1; omega) hf⟩
      have bR : Below w.heap.size w wr := bA.trans (hK.below w.heap.size z0 (fun b e => by omega))
      obtain ⟨a0, n0, c0, a1, n1, c1, k1, k2, k3, k4, k5, k6, k7, k8, k9, k10⟩ := hsum
      have c0' : tA (rec0 k) wd false = cA k wd false := rfl
      have c1' : tA (rec0 k) wd true = cA k wd true := rfl
      rw [c0'] at k6
      rw [c1'] at k9
      clear ht e0 c0' c1' hK
      have HRR : Hid _ := RR
      clear RR
      generalize cA k wd false = A at *
      generalize cA k wd true = A' at *
      generalize cU k wd = U at *
      go_wp2_with fail
      refine Calls.mono (fLess_calls k6 k9 k5 k8 gA sz1) ?_
      rintro r w2 ⟨a2, n2, c2, rfl, hn2, hO2, b2⟩
      have z2 := b2.size
      go_wp2_with fail
      refine Calls.mono (cof_eq U rfl (by omega)) ?_
      rintro r w3 ⟨a3, n3, c3, rfl, hn3, hO3, b3⟩
      have z3 := b3.size
      replace hO2 := hO2.keep b3
      go_wp2_with fail
      refine Calls.mono (fLess_calls hO2.1 hO3.1 hn2 hn3 gM sz2) ?_
      rintro r w4 ⟨a4, n4, c4, rfl, hn4, hO4, b4⟩
      have z4 := b4.size
      replace hO2 := hO2.keep b4
      replace hO3 := hO3.keep b4
      go_wp2_with fail
      refine Calls.mono (fPlus_calls hO2.1 hO3.1 hn2 hn3 gP) ?_
      rintro r w5 ⟨a5, n5, c5, rfl, hn5, hO5, b5⟩
      have z5 := b5.size
      replace hO4 := hO4.keep b5
      go_wp2_with fail
      refine Calls.mono (units_calls _ _ _ _ _ _ wd (by omega) _) ?_
      rintro r w6 ⟨rfl, b6⟩
      have bb := below_trans (below_trans (below_trans (below_trans b2 b3) b4) b5) b6
      have L4 := (hO4.keep b6).low (show w.heap.size + 2 ≤ w3.heap.size by omega)
      have L5 := (hO5.keep b6).low (show w.heap.size + 2 ≤ w4.heap.size by omega)
      obtain ⟨v0, x0, y0⟩ := HRR.out 0 (by omega)
      obtain ⟨v1, x1, y1⟩ := HRR.out 1 (by omega)
      obtain ⟨v2, x2, y2⟩ := HRR.out 2 (by omega)
      obtain ⟨v3, x3, y3⟩ := HRR.out 3 (by omega)
      replace y0 := fKeep bb x0 y0
      replace y1 := fKeep bb x1 y1
      replace y2 := fKeep bb x2 y2
      replace y3 := fKeep bb x3 y3
      replace x0 := cKeep bb x0
      replace x1 := cKeep bb x1
      replace x2 := cKeep bb x2
      replace x3 := cKeep bb x3
      unfold SpanV
      go_wp2_with fail
      have KF := ks_four (fun k => k = w.heap.size) w6 w.heap.size rfl (.slice a4 n4 c4) (.int .i64 (-(wd : Int))) (.slice a5 n5 c5) (.int .i64 (-(wd : Int)))
      refine bodyPost_ret (v := SpanV a4 n4 c4 a5 n5 c5 (-(wd : Int))) (by simp [results, Tryz.results32, go_sem, SpanV, x0, x1, x2, x3]) rfl ⟨a4, n4, c4, a5, n5, c5, rfl, hn4, ?_, hn5, ?_, ?_⟩
      · rw [HQ1.out]; exact (L4.keepS (L4.nw.noS (by rintro b rfl; omega)) KF).low (by omega)
      · rw [HQ2.out]; exact (L5.keepS (L5.nw.noS (by rintro b rfl; omega)) KF).low (by omega)
      · exact (bR.trans (bb.mono (by omega))).trans (KF.below w.heap.size (by have := bb.size; omega) (fun b e => by omega))

end Go.Proofs.YtkkldnnndlpblaaGreatDoor

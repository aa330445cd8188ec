/- Package consts: the terms of its series, as functions that are handed on. -/
import Derived.Test.YtkkldnnndlpblaaGreatDoorCF0
import Derived.Test.YtkkldnnndlpblaaGreatDoorCK1
import Derived.Laws.EntriesVeiled
import Derived.Deep.RegionWith
namespace Go.Proofs.YtkkldnnndlpblaaGreatDoor
open Go.RowKit Ck

def BodyC (F : Nat) : Prop := ∀ (xs : Array Value) (w : World), Sem.run Tryz.prog (callFunc F xs) w = .ok (.enter F xs) w
/-- Of what was there nothing has turned but the blocks of S. -/
def Ks (S : Nat → Prop) (w w' : World) : Prop := w'.os = w.os ∧ w'.tape = w.tape ∧ w'.output = w.output ∧ w.heap.size ≤ w'.heap.size ∧ ∀ k, k < w.heap.size → ¬ S k → w'.heap[k]? = w.heap[k]?
theorem Ks.of_below {S : Nat → Prop} {w w' : World} (h : Below w.heap.size w w') : Ks S w w' := ⟨h.os, h.tape, h.output, h.size, fun k hk _ => h.block k hk⟩
theorem Ks.trans {S : Nat → Prop} {x y z : World} (h : Ks S x y) (k : Ks S y z) : Ks S x z :=
  ⟨k.1.trans h.1, k.2.1.trans h.2.1, k.2.2.1.trans h.2.2.1, Nat.le_trans h.2.2.2.1 k.2.2.2.1, fun i hi hc => (k.2.2.2.2 i (Nat.lt_of_lt_of_le hi h.2.2.2.1) hc).trans (h.2.2.2.2 i hi hc)⟩
theorem Ks.mono {S T : Nat → Prop} {w w' : World} (h : Ks S w w') (k : ∀ b, b < w.heap.size → S b → T b) : Ks T w w' := ⟨h.1, h.2.1, h.2.2.1, h.2.2.2.1, fun i hi hc => h.2.2.2.2 i hi fun e => hc (k i hi e)⟩
theorem Ks.below {S : Nat → Prop} {w w' : World} (h : Ks S w w') (B : Nat) (hs : B ≤ w.heap.size) (k : ∀ b, S b → B ≤ b) : Below B w w' := ⟨h.1, h.2.1, h.2.2.1, h.2.2.2.1, fun i hi => h.2.2.2.2 i (by omega) (fun e => by have := k i e; omega)⟩
theorem Ks.cell {S : Nat → Prop} {w w' : World} (h : Ks S w w') {p : Addr} {v : Value} (hp : w.cell? p = some v) (hc : ¬ S p.block) : w'.cell? p = some v :=
  (World.cell?_of_block (w := w) (h.2.2.2.2 p.block (World.block_lt_of_cell? _ _ hp) hc)).trans hp
theorem Ks.frozen {S : Nat → Prop} {w w' : World} (h : Ks S w w') {p : Addr} {v : Value} (hp : w.cell? p = some v) (hc : ¬ S p.block) (hf : w.frozen? p = false) : w'.frozen? p = false :=
  (World.frozen?_of_block (w := w) (h.2.2.2.2 p.block (World.block_lt_of_cell? _ _ hp) hc)).trans hf
/-- a store to a cell -/
theorem st1 {S : Nat → Prop} {w : World} {p : Addr} {u : Value} (v : Value) (hp : w.cell? p = some u) (hf : w.frozen? p = false) (hS : S p.block) : (w.setCell p v).cell? p = some v ∧ (w.setCell p v).frozen? p = false ∧ Ks S w (w.setCell p v) :=
  ⟨World.cell?_setCell_same (w := w) (a := p) (v := v) hp, (World.frozen?_setCell w _ _ _).trans hf, rfl, rfl, rfl, by simp [World.setCell], fun k hk hc => Below.heap_setCell _ _ _ _ (fun e => hc (by rw [e]; exact hS))⟩
/-- A list of words does not lie in the blocks of S. -/
def NoS (S : Nat → Prop) (a : Option Addr) (n : Nat) : Prop := ∀ b off, a = some ⟨b, off, none⟩ → 0 < n → ¬ S b
theorem IsW.keepS {S : Nat → Prop} {w w' : World} {a : Option Addr} {n cap : Nat} {xs : List Int} (h : IsW w a n cap xs) (hc : NoS S a n) (r : Ks S w w') : IsW w' a n cap xs := by
  obtain ⟨h1, h2, h4, h3⟩ := h
  refine ⟨h1, h2, h4, fun i hi => ?_⟩
  obtain ⟨b, off, e1, e2, e3⟩ := h3 i hi
  exact ⟨b, off, e1, Nat.lt_of_lt_of_le e2 r.2.2.2.1, r.cell e3 (hc b off e1 (by omega))⟩
theorem IsW.noS {S : Nat → Prop} {w : World} {a : Option Addr} {n cap : Nat} {xs : List Int} (h : IsW w a n cap xs) (hc : ∀ b, S b → w.heap.size ≤ b) : NoS S a n := fun b off e hn hb => by
  obtain ⟨b', off', e1, e2, -⟩ := h.2.2.2 0 hn
  rw [e] at e1
  simp only [Option.some.injEq, Addr.mk.injEq, and_true] at e1
  have := hc b hb
  omega
theorem OwnW.noS {S : Nat → Prop} {B : Nat} {w : World} {a : Option Addr} {n cap : Nat} {xs : List Int} (h : OwnW B w a n cap xs) (hc : ∀ b, S b → b < B) : NoS S a n := fun b off e hn hb => by
  have := (h.2 b off 0 e hn).1
  have := hc b hb
  omega
/-- A list of words lies in blocks from B on. -/
def NwA (B : Nat) (a : Option Addr) (n : Nat) : Prop := ∀ b off, a = some ⟨b, off, none⟩ → 0 < n → B ≤ b
theorem OwnW.nw {B : Nat} {w : World} {a : Option Addr} {n cap : Nat} {xs : List Int} (h : OwnW B w a n cap xs) : NwA B a n := fun b off e hn => (h.2 b off 0 e hn).1
theorem NwA.low {B C : Nat} {a : Option Addr} {n : Nat} (h : NwA B a n) (k : C ≤ B) : NwA C a n := fun b off e hn => Nat.le_trans k (h b off e hn)
theorem NwA.noS {S : Nat → Prop} {B : Nat} {a : Option Addr} {n : Nat} (h : NwA B a n) (hc : ∀ b, S b → b < B) : NoS S a n := fun b off e hn hb => by
  have := h b off e hn
  have := hc b hb
  omega
theorem NoS.nil (S : Nat → Prop) : NoS S none 0 := fun _ _ _ h => by omega
theorem cKeep {w w' : World} {p : Addr} {v : Value} (hb : Below w.heap.size w w') (h : w.cell? p = some v) : w'.cell? p = some v := (Ks.of_below (S := fun _ => False) hb).cell h (fun e => e)
theorem fKeep {w w' : World} {p : Addr} {v : Value} (hb : Below w.heap.size w w') (h : w.cell? p = some v) (k : w.frozen? p = false) : w'.frozen? p = false := (Ks.of_below (S := fun _ => False) hb).frozen h (fun e => e) k
theorem IsW.keepB {w w' : World} {a : Option Addr} {n cap : Nat} {xs : List Int} (h : IsW w a n cap xs) (hb : Below w.heap.size w w') : IsW w' a n cap xs := h.keepS (S := fun _ => False) (fun _ _ _ _ e => e) (Ks.of_below hb)
/-- the cells of a part -/
def PAt (w : World) (b o : Nat) (kd t a : Int) (f : Bool) : Prop := w.cell? ⟨b, o, none⟩ = some (.int .u8 kd) ∧ w.cell? ⟨b, o + 1, none⟩ = some (.int .u64 t) ∧ w.cell? ⟨b, o + 2, none⟩ = some (.int .u64 a) ∧ w.cell? ⟨b, o + 3, none⟩ = some (.bool f)
theorem PAt.keepS {S : Nat → Prop} {w w' : World} {b o : Nat} {kd t a : Int} {f : Bool} (h : PAt w b o kd t a f) (r : Ks S w w') (hb : ¬ S b) : PAt w' b o kd t a f := ⟨r.cell h.1 hb, r.cell h.2.1 hb, r.cell h.2.2.1 hb, r.cell h.2.2.2 hb⟩
def sdI (o t : Bool) : Int := if (o != t) = true then 1 else 0

set_option maxHeartbeats 1000000 in
theorem side_calls (kd t a : Int) (o tn : Bool) (w : World) :
    Calls Tryz.prog 163 #[.agg #[.int .u8 kd, .int .u64 t, .int .u64 a, .bool o], .bool tn] w fun r w' => r = .returned (.int .i64 (sdI o tn)) ∧ Below w.heap.size w w' := by
  have bb := below_alloc w (.cells #[.int .u8 kd, .int .u64 t, .int .u64 a, .bool o] 102)
  cases o <;> cases tn
  all_goals
    go_enter Tryz.func163, Tryz.ntmps163
    go_wp2_with fail
    go_ret
    exact ⟨rfl, bb⟩

set_option maxRecDepth 100000 in
set_option maxHeartbeats 2000000 in
theorem fact1_calls (bq bn bp : Nat) (qa : Option Addr) (qn qc q n : Nat) (kd t a : Int) (o : Bool) (w : World) (d1 : bq ≠ bn) (d2 : bp ≠ bq) (d3 : bp ≠ bn)
    (hq : w.cell? ⟨bq, 0, none⟩ = some (.slice qa qn qc)) (fq : w.frozen? ⟨bq, 0, none⟩ = false) (hn : w.cell? ⟨bn, 0, none⟩ = some (.int .u64 (n : Int))) (fn : w.frozen? ⟨bn, 0, none⟩ = false) (hp : PAt w bp 0 kd t a o)
    (hQ : IsW w qa qn qc (wordsOf q)) (hl : qn ≤ 1024) (hS : NoS (fun k => k = bq ∨ k = bn) qa qn) (hg : greatB q = false) (hN : n < 20000) :
    Calls Tryz.prog 162 #[.pointer (some ⟨bq, 0, none⟩), .pointer (some ⟨bn, 0, none⟩), .pointer (some ⟨bp, 0, none⟩)] w fun r w' => r = .returned (.tuple #[.slice qa qn qc, .int .i64 (sdI o false)]) ∧ Ks (fun k => k = bq ∨ k = bn) w w' ∧
      w'.cell? ⟨bn, 0, none⟩ = some (.int .u64 ((n : Int) + 1)) ∧ w'.frozen? ⟨bq, 0, none⟩ = false ∧ w'.frozen? ⟨bn, 0, none⟩ = false ∧ ∃ (ao : Option Addr) (m c : Nat), w'.cell? ⟨bq, 0, none⟩ = some (.slice ao m c) ∧ m ≤ 1024 ∧ IsW w' ao m c (wordsOf (q / (n + 1))) ∧ NwA w.heap.size ao m := by
  have hw : IntKind.u64.wrap ((n : Int) + 1) = ((n + 1 : Nat) : Int) := by rw [IntKind.wrap_u64]; omega
  obtain ⟨s1, s2, s3⟩ := st1 (S := fun k => k = bn) (.int .u64 ((n : Int) + 1)) hn fn rfl
  have k0 := s3.cell hq d1
  have k1 := s3.frozen hq d1 fq
  have k2 := hp.keepS s3 d3
  have k3 := hQ.keepS (fun b off e h hb => hS b off e h (Or.inr hb)) s3
  have s4 := s3.mono (T := fun k => k = bq ∨ k = bn) (fun _ _ e => Or.inr e)
  have gn : greatB (n + 1) = false := cf_great (k := 64) (by omega) (by decide)
  have hz := s3.2.2.2.1
  clear s3
  go_enter Tryz.func162, Tryz.ntmps162
  go_wp2_with fail
  generalize w.setCell ⟨bn, 0, none⟩ (.int .u64 ((n : Int) + 1)) = v at *
  clear hq fq hn fn hp hQ
  have bD : Below v.heap.size v v.drew := (Below.refl _ _).drew
  have bI := bD
  have k4 := k3
  go_region_with (first
    | (go_at_call 43; refine (of_eq (n + 1) (by omega) (by omega)).mono ?_; rintro r w2 ⟨a1, m1, c1, rfl, hm1, hO1, b1⟩; replace bI := below_trans bD b1; have z2 := bI.size; replace k4 := k3.keepB bI; have j0 := cKeep bI k0; have j1 := fKeep bI k0 k1; have y0 := cKeep bI s1; have y1 := fKeep bI s1 s2; clear b1)
    | (go_at_call 103; refine (fOver_calls k4 hO1.1 hl hm1 hg gn (by omega)).mono ?_; rintro r w3 ⟨a2, m2, c2, rfl, hm2, hO2, b2⟩; replace j1 := fKeep b2 j0 j1; replace j0 := cKeep b2 j0; replace y1 := fKeep b2 y0 y1; replace y0 := cKeep b2 y0; replace bI := below_trans bI b2; clear b2))
  all_goals
    obtain ⟨t1, t2, t3⟩ := st1 (S := fun k => k = bq) (.slice a2 m2 c2) j0 j1 rfl
    have u0 := t3.cell y0 (fun e => d1 e.symm)
    have u1 := t3.frozen y0 (fun e => d1 e.symm) y1
    obtain ⟨p0, p1, p2, p3⟩ := (k2.keepS (Ks.of_below (S := fun k => k = bq) bI) d2).keepS t3 d2
    have hv : bq < v.heap.size := World.block_lt_of_cell? _ _ k0
    have N2 := hO2.nw.low (Nat.le_trans hz z2)
    have Q2 := hO2.1.keepS (hO2.nw.noS (fun b e => by rw [e]; omega)) t3
    have K := s4.trans ((Ks.of_below bI).trans (t3.mono (fun _ _ e => Or.inl e)))
    clear j0 j1 y0 y1 hO2 t3 bI k4 hO1
    generalize w3.setCell ⟨bq, 0, none⟩ (.slice a2 m2 c2) = v2 at *
    go_wp2_with fail
    refine Calls.mono (side_calls _ _ _ _ _ _) ?_
    rintro r w4 ⟨rfl, b4⟩
    go_wp2_with fail
    go_ret2
    exact ⟨rfl, K.trans (Ks.of_below b4), cKeep b4 u0, fKeep b4 t1 t2, fKeep b4 u0 u1, a2, m2, c2, cKeep b4 t1, hm2, Q2.keepB b4, N2⟩
end Go.Proofs.YtkkldnnndlpblaaGreatDoor

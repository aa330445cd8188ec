/- Package fixed: naturals at a fixed point: what its calls come to where nothing is too great. Package consts: the terms of its series, as functions that are handed on. Package consts: the terms of a series of odd powers. -/
import Derived.Test.YtkkldnnndlpblaaGreatDoorTME
import Derived.Laws.EntriesVeiled
import Derived.Deep.RegionWith
import Derived.Test.YtkkldnnndlpblaaGreatDoorCKA

namespace Go.Proofs.YtkkldnnndlpblaaGreatDoor
open Go.RowKit

theorem cf_great {n k : Nat} (h : n < 2 ^ k) (hk : k ≤ 65536) : greatB n = false := (great_not n).2 (Nat.le_trans ((blen_le n k).2 h) hk)

theorem cf_add {x y : Nat} (h : greatB (x + y) = false) : addR x y = (x + y, 0) := by
  unfold addR; rw [great_mono (Nat.le_add_right _ _) h, great_mono (Nat.le_add_left _ _) h, if_neg (by decide)]; exact fitR_no h

theorem cf_sub {x y : Nat} (h : greatB x = false) (hl : y ≤ x) : subR x y = (x - y, 0) := by
  unfold subR; rw [h, great_mono hl h, if_neg (by decide), if_neg (by omega)]

theorem cf_mul {x y : Nat} (h : greatB x = false) (h' : greatB y = false) (g : greatB (x * y) = false) : mulR x y = (x * y, 0) := by
  unfold mulR; rw [h, h', if_neg (by decide)]; exact fitR_no g

theorem cf_div {u v : Nat} (g : greatB u = false) (g' : greatB v = false) (h : v ≠ 0) : divE u v = 0 ∧ divQ u v = u / v ∧ divM u v = u % v := by
  unfold divE divQ divM
  rw [g, g']
  simp [h]

theorem cf_shl {r k : Nat} (g : greatB (r * 2 ^ k) = false) : shlR r (k : Int) = (r * 2 ^ k, 0) := by
  have g0 : greatB r = false := great_mono (Nat.le_mul_of_pos_right _ (Nat.two_pow_pos _)) g
  unfold shlR
  rw [g0, if_neg (by decide), if_neg (by omega)]
  by_cases z : r = 0
  · rw [if_pos z, z, Nat.zero_mul]
  · have := (great_not _).1 g
    rw [blen_mul r k z] at this
    rw [if_neg z, if_neg (by omega), Int.toNat_natCast]

theorem cf_shr {r k : Nat} (g : greatB r = false) : shrQ r (k : Int) = r / 2 ^ k ∧ shrE r (k : Int) = 0 := by
  unfold shrQ shrE
  rw [g, if_neg (by decide), if_neg (by omega), if_neg (by decide), if_neg (by omega), Int.toNat_natCast]
  exact ⟨rfl, rfl⟩

theorem cf_pow {u j : Nat} (g0 : greatB u = false) (g : greatB (u ^ j) = false) : powR u (j : Int) = (u ^ j, 0) := by
  rw [powR_fit g0]; exact fitR_no g

section
variable {a a' : Option Addr} {len cap len' cap' x y : Nat} {w : World}

set_option maxHeartbeats 1000000 in
theorem fPlus_calls (h : IsW w a len cap (wordsOf x)) (h' : IsW w a' len' cap' (wordsOf y)) (hm : len ≤ 1024) (hm' : len' ≤ 1024) (g : greatB (x + y) = false) :
    Calls Tryz.prog 68 #[.slice a len cap, .slice a' len' cap'] w fun e w' => ∃ (ao : Option Addr) (n c : Nat), e = .returned (.slice ao n c) ∧ n ≤ 1024 ∧ OwnW w.heap.size w' ao n c (wordsOf (x + y)) ∧ Below w.heap.size w w' := by
  have HM : Hid _ := add_eq h h' (by omega) (by omega) (r := x + y) (k := 0) (by rw [val_words, val_words]; exact cf_add g)
  clear h h' hm hm'
  go_enter Tryz.func68, Tryz.ntmps68
  go_wp2_with fail
  refine Calls.mono HM.out ?_
  rintro e w1 ⟨ao, n, c, rfl, _, hn, hO, bN⟩
  go_wp2_with fail
  go_ret
  exact ⟨ao, n, c, rfl, hn, hO, bN⟩

set_option maxHeartbeats 1000000 in
theorem fLess_calls (h : IsW w a len cap (wordsOf x)) (h' : IsW w a' len' cap' (wordsOf y)) (hm : len ≤ 1024) (hm' : len' ≤ 1024) (g : greatB x = false) (hl : y ≤ x) :
    Calls Tryz.prog 66 #[.slice a len cap, .slice a' len' cap'] w fun e w' => ∃ (ao : Option Addr) (n c : Nat), e = .returned (.slice ao n c) ∧ n ≤ 1024 ∧ OwnW w.heap.size w' ao n c (wordsOf (x - y)) ∧ Below w.heap.size w w' := by
  have HM : Hid _ := sub_eq h h' (by omega) (by omega) (r := x - y) (k := 0) (by rw [val_words, val_words]; exact cf_sub g hl)
  clear h h' hm hm'
  go_enter Tryz.func66, Tryz.ntmps66
  go_wp2_with fail
  refine Calls.mono HM.out ?_
  rintro e w1 ⟨ao, n, c, rfl, _, hn, hO, bN⟩
  go_wp2_with fail
  go_ret
  exact ⟨ao, n, c, rfl, hn, hO, bN⟩

set_option maxHeartbeats 1000000 in
theorem fTimes_calls (h : IsW w a len cap (wordsOf x)) (h' : IsW w a' len' cap' (wordsOf y)) (hm : len ≤ 1024) (hm' : len' ≤ 1024) (g0 : greatB x = false) (g1 : greatB y = false) (g : greatB (x * y) = false) :
    Calls Tryz.prog 85 #[.slice a len cap, .slice a' len' cap'] w fun e w' => ∃ (ao : Option Addr) (n c : Nat), e = .returned (.slice ao n c) ∧ n ≤ 1024 ∧ OwnW w.heap.size w' ao n c (wordsOf (x * y)) ∧ Below w.heap.size w w' := by
  have HM : Hid _ := mul_eq h h' (by omega) (by omega) (r := x * y) (k := 0) (by rw [val_words, val_words]; exact cf_mul g0 g1 g)
  clear h h' hm hm'
  go_enter Tryz.func85, Tryz.ntmps85
  go_wp2_with fail
  refine Calls.mono HM.out ?_
  rintro e w1 ⟨ao, n, c, rfl, _, hn, hO, bN⟩
  go_wp2_with fail
  go_ret
  exact ⟨ao, n, c, rfl, hn, hO, bN⟩

set_option maxHeartbeats 1000000 in
theorem fOver_calls (h : IsW w a len cap (wordsOf x)) (h' : IsW w a' len' cap' (wordsOf y)) (hm : len ≤ 1024) (hm' : len' ≤ 1024) (g0 : greatB x = false) (g1 : greatB y = false) (hy : y ≠ 0) :
    Calls Tryz.prog 103 #[.slice a len cap, .slice a' len' cap'] w fun e w' => ∃ (ao : Option Addr) (n c : Nat), e = .returned (.slice ao n c) ∧ n ≤ 1024 ∧ OwnW w.heap.size w' ao n c (wordsOf (x / y)) ∧ Below w.heap.size w w' := by
  have e := cf_div g0 g1 hy
  have HM : Hid _ := div_eq h h' (by omega) (by omega) (q := x / y) (r := x % y) (k := 0) (by rw [val_words, val_words]; exact e.2.1) (by rw [val_words, val_words]; exact e.2.2) (by rw [val_words, val_words]; exact e.1)
  clear h h' hm hm' e
  go_enter Tryz.func103, Tryz.ntmps103
  go_wp2_with fail
  refine Calls.mono HM.out ?_
  rintro e w1 ⟨ao, a2, n, c, n2, c2, rfl, _, hn, hO, _, _, _, bN⟩
  go_wp2_with fail
  go_ret
  exact ⟨ao, n, c, rfl, hn, hO, bN⟩

set_option maxHeartbeats 1000000 in
theorem fShl_calls {k : Nat} (h : IsW w a len cap (wordsOf x)) (hm : len ≤ 1024) (_hk : k ≤ 65536) (g : greatB (x * 2 ^ k) = false) :
    Calls Tryz.prog 84 #[.slice a len cap, .int .i64 (k : Int)] w fun e w' => ∃ (ao : Option Addr) (n c : Nat), e = .returned (.slice ao n c) ∧ n ≤ 1024 ∧ OwnW w.heap.size w' ao n c (wordsOf (x * 2 ^ k)) ∧ Below w.heap.size w w' := by
  have HM : Hid _ := shl_eq (i := (k : Int)) h (by omega) (r := x * 2 ^ k) (k := 0) (by rw [val_words]; exact cf_shl g)
  clear h hm
  go_enter Tryz.func84, Tryz.ntmps84
  go_wp2_with fail
  refine Calls.mono HM.out ?_
  rintro e w1 ⟨ao, n, c, rfl, _, hn, hO, bN⟩
  go_wp2_with fail
  go_ret
  exact ⟨ao, n, c, rfl, hn, hO, bN⟩

set_option maxHeartbeats 1000000 in
theorem fShr_calls {i : Int} {k : Nat} (h : IsW w a len cap (wordsOf x)) (hm : len ≤ 1024) (hk : k ≤ 65536) (hk0 : 1 ≤ k) (hi : i = -(k : Int)) (g : greatB x = false) :
    Calls Tryz.prog 84 #[.slice a len cap, .int .i64 i] w fun e w' => ∃ (ao : Option Addr) (n c : Nat), e = .returned (.slice ao n c) ∧ n ≤ 1024 ∧ OwnW w.heap.size w' ao n c (wordsOf (x / 2 ^ k)) ∧ Below w.heap.size w w' := by
  have HM : Hid _ := shr_eq (i := (k : Int)) h (by omega) (by omega) (r := x / 2 ^ k) (l := shrL (val (wordsOf x)) (k : Int)) (k := 0) (by rw [val_words]; exact (cf_shr g).1) rfl (by rw [val_words]; exact (cf_shr g).2)
  have i0 : ¬ 0 ≤ i := by omega
  have i1 : IntKind.i64.wrap (-i) = (k : Int) := by rw [hi, IntKind.wrap_i64]; omega
  clear h hm hi
  go_enter Tryz.func84, Tryz.ntmps84
  go_wp2_with fail
  refine Calls.mono HM.out ?_
  rintro e w1 ⟨ao, n, c, rfl, _, hn, hO, bN⟩
  go_wp2_with fail
  go_ret
  exact ⟨ao, n, c, rfl, hn, hO, bN⟩

end

set_option maxHeartbeats 1000000 in
theorem cof_eq {x : Int} {w : World} (r : Nat) (h0 : x = (r : Int)) (h1 : r ≤ 18446744073709551615) :
    Calls Tryz.prog 43 #[.int .u64 x] w fun e w' => ∃ (ao : Option Addr) (n c : Nat), e = .returned (.slice ao n c) ∧ n ≤ 1024 ∧ OwnW w.heap.size w' ao n c (wordsOf r) ∧ Below w.heap.size w w' := by
  subst h0
  refine (of_calls (r : Int) w (by omega) (by omega)).mono ?_
  rintro e w' ⟨v, rfl, hA, hb⟩
  rw [Int.toNat_natCast] at hA
  obtain ⟨ao, n, c, rfl, _, hn, hO⟩ := hA.open ((great_len r).1 (cf_great (k := 64) (by omega) (by decide)))
  exact ⟨ao, n, c, rfl, hn, hO, hb⟩

set_option maxHeartbeats 1000000 in
theorem fOne_calls (k : Nat) (w : World) (hk : k ≤ 65535) :
    Calls Tryz.prog 47 #[.int .i64 (k : Int)] w fun e w' => ∃ (ao : Option Addr) (n c : Nat), e = .returned (.slice ao n c) ∧ n ≤ 1024 ∧ OwnW w.heap.size w' ao n c (wordsOf (2 ^ k)) ∧ Below w.heap.size w w' := by
  have g : greatB (1 * 2 ^ k) = false := by rw [Nat.one_mul]; exact cf_great (k := k + 1) (Nat.pow_lt_pow_right (by decide) (by omega)) (by omega)
  go_enter Tryz.func47, Tryz.ntmps47
  go_wp2_with fail
  refine Calls.mono (cof_eq 1 rfl (by decide)) ?_
  rintro e w1 ⟨ao, n, c, rfl, hn, hO, b1⟩
  have HM : Hid _ := fShl_calls (k := k) hO.1 hn (by omega) g
  clear g
  go_wp2_with fail
  refine Calls.mono HM.out ?_
  rintro e w2 ⟨ao2, n2, c2, rfl, hn2, hO2, b2⟩
  go_wp2_with fail
  go_ret
  rw [Nat.one_mul] at hO2
  exact ⟨ao2, n2, c2, rfl, hn2, hO2.low b1.size, below_trans b1 b2⟩

end Go.Proofs.YtkkldnnndlpblaaGreatDoor

namespace Go.Proofs.YtkkldnnndlpblaaGreatDoor
open Go.RowKit Ck

def BodyC (F : Nat) : Prop := ∀ (xs : Array Value) (w : World), Sem.run Tryz.prog (callFunc F xs) w = .ok (.enter F xs) w

/-- Of what was there nothing has turned but the blocks of S. -/
def Ks (S : Nat → Prop) (w w' : World) : Prop := w'.os = w.os ∧ w'.tape = w.tape ∧ w'.output = w.output ∧ w.heap.size ≤ w'.heap.size ∧ ∀ k, k < w.heap.size → ¬ S k → w'.heap[k]? = w.heap[k]?

theorem Ks.of_below {S : Nat → Prop} {w w' : World} (h : Below w.heap.size w w') : Ks S w w' := ⟨h.os, h.tape, h.output, h.size, fun k hk _ => h.block k hk⟩

theorem Ks.trans {S : Nat → Prop} {x y z : World} (h : Ks S x y) (k : Ks S y z) : Ks S x z :=
  ⟨k.1.trans h.1, k.2.1.trans h.2.1, k.2.2.1.trans h.2.2.1, Nat.le_trans h.2.2.2.1 k.2.2.2.1, fun i hi hc => (k.2.2.2.2 i (Nat.lt_of_lt_of_le hi h.2.2.2.1) hc).trans (h.2.2.2.2 i hi hc)⟩

theorem Ks.mono {S T : Nat → Prop} {w w' : World} (h : Ks S w w') (k : ∀ b, b < w.heap.size → S b → T b) : Ks T w w' := ⟨h.1, h.2.1, h.2.2.1, h.2.2.2.1, fun i hi hc => h.2.2.2.2 i hi fun e => hc (k i hi e)⟩

theorem Ks.below {S : Nat → Prop} {w w' : World} (h : Ks S w w') (B : Nat) (hs : B ≤ w.heap.size) (k : ∀ b, S b → B ≤ b) : Below B w w' := ⟨h.1, h.2.1, h.2.2.1, h.2.2.2.1, fun i hi => h.2.2.2.2 i (by omega) (fun e => by have := k i e; omega)⟩

theorem Ks.cell {S : Nat → Prop} {w w' : World} (h : Ks S w w') {p : Addr} {v : Value} (hp : w.cell? p = some v) (hc : ¬ S p.block) : w'.cell? p = some v :=
  (World.cell?_of_block (w := w) (h.2.2.2.2 p.block (World.block_lt_of_cell? _ _ hp) hc)).trans hp

theorem Ks.frozen {S : Nat → Prop} {w w' : World} (h : Ks S w w') {p : Addr} {v : Value} (hp : w.cell? p = some v) (hc : ¬ S p.block) (hf : w.frozen? p = false) : w'.frozen? p = false :=
  (World.frozen?_of_block (w := w) (h.2.2.2.2 p.block (World.block_lt_of_cell? _ _ hp) hc)).trans hf

/-- a store to a cell -/
theorem st1 {S : Nat → Prop} {w : World} {p : Addr} {u : Value} (v : Value) (hp : w.cell? p = some u) (hf : w.frozen? p = false) (hS : S p.block) : (w.setCell p v).cell? p = some v ∧ (w.setCell p v).frozen? p = false ∧ Ks S w (w.setCell p v) :=
  ⟨World.cell?_setCell_same (w := w) (a := p) (v := v) hp, (World.frozen?_setCell w _ _ _).trans hf, rfl, rfl, rfl, by simp [World.setCell], fun k hk hc => Below.heap_setCell _ _ _ _ (fun e => hc (by rw [e]; exact hS))⟩

/-- A list of words does not lie in the blocks of S. -/
def NoS (S : Nat → Prop) (a : Option Addr) (n : Nat) : Prop := ∀ b off, a = some ⟨b, off, none⟩ → 0 < n → ¬ S b

theorem IsW.keepS {S : Nat → Prop} {w w' : World} {a : Option Addr} {n cap : Nat} {xs : List Int} (h : IsW w a n cap xs) (hc : NoS S a n) (r : Ks S w w') : IsW w' a n cap xs := by
  obtain ⟨h1, h2, h4, h3⟩ := h
  refine ⟨h1, h2, h4, fun i hi => ?_⟩
  obtain ⟨b, off, e1, e2, e3⟩ := h3 i hi
  exact ⟨b, off, e1, Nat.lt_of_lt_of_le e2 r.2.2.2.1, r.cell e3 (hc b off e1 (by omega))⟩

theorem IsW.noS {S : Nat → Prop} {w : World} {a : Option Addr} {n cap : Nat} {xs : List Int} (h : IsW w a n cap xs) (hc : ∀ b, S b → w.heap.size ≤ b) : NoS S a n := fun b off e hn hb => by
  obtain ⟨b', off', e1, e2, -⟩ := h.2.2.2 0 hn
  rw [e] at e1
  simp only [Option.some.injEq, Addr.mk.injEq, and_true] at e1
  have := hc b hb
  omega

theorem OwnW.noS {S : Nat → Prop} {B : Nat} {w : World} {a : Option Addr} {n cap : Nat} {xs : List Int} (h : OwnW B w a n cap xs) (hc : ∀ b, S b → b < B) : NoS S a n := fun b off e hn hb => by
  have := (h.2 b off 0 e hn).1
  have := hc b hb
  omega

/-- A list of words lies in blocks from B on. -/
def NwA (B : Nat) (a : Option Addr) (n : Nat) : Prop := ∀ b off, a = some ⟨b, off, none⟩ → 0 < n → B ≤ b

theorem OwnW.nw {B : Nat} {w : World} {a : Option Addr} {n cap : Nat} {xs : List Int} (h : OwnW B w a n cap xs) : NwA B a n := fun b off e hn => (h.2 b off 0 e hn).1

theorem NwA.low {B C : Nat} {a : Option Addr} {n : Nat} (h : NwA B a n) (k : C ≤ B) : NwA C a n := fun b off e hn => Nat.le_trans k (h b off e hn)

theorem NwA.noS {S : Nat → Prop} {B : Nat} {a : Option Addr} {n : Nat} (h : NwA B a n) (hc : ∀ b, S b → b < B) : NoS S a n := fun b off e hn hb => by
  have := h b off e hn
  have := hc b hb
  omega

theorem NoS.nil (S : Nat → Prop) : NoS S none 0 := fun _ _ _ h => by omega

theorem cKeep {w w' : World} {p : Addr} {v : Value} (hb : Below w.heap.size w w') (h : w.cell? p = some v) : w'.cell? p = some v := (Ks.of_below (S := fun _ => False) hb).cell h (fun e => e)

theorem fKeep {w w' : World} {p : Addr} {v : Value} (hb : Below w.heap.size w w') (h : w.cell? p = some v) (k : w.frozen? p = false) : w'.frozen? p = false := (Ks.of_below (S := fun _ => False) hb).frozen h (fun e => e) k

theorem IsW.keepB {w w' : World} {a : Option Addr} {n cap : Nat} {xs : List Int} (h : IsW w a n cap xs) (hb : Below w.heap.size w w') : IsW w' a n cap xs := h.keepS (S := fun _ => False) (fun _ _ _ _ e => e) (Ks.of_below hb)

/-- the cells of a part -/
def PAt (w : World) (b o : Nat) (kd t a : Int) (f : Bool) : Prop := w.cell? ⟨b, o, none⟩ = some (.int .u8 kd) ∧ w.cell? ⟨b, o + 1, none⟩ = some (.int .u64 t) ∧ w.cell? ⟨b, o + 2, none⟩ = some (.int .u64 a) ∧ w.cell? ⟨b, o + 3, none⟩ = some (.bool f)

theorem PAt.keepS {S : Nat → Prop} {w w' : World} {b o : Nat} {kd t a : Int} {f : Bool} (h : PAt w b o kd t a f) (r : Ks S w w') (hb : ¬ S b) : PAt w' b o kd t a f := ⟨r.cell h.1 hb, r.cell h.2.1 hb, r.cell h.2.2.1 hb, r.cell h.2.2.2 hb⟩

def sdI (o t : Bool) : Int := if (o != t) = true then 1 else 0

set_option maxHeartbeats 1000000 in
theorem side_calls (kd t a : Int) (o tn : Bool) (w : World) :
    Calls Tryz.prog 163 #[.agg #[.int .u8 kd, .int .u64 t, .int .u64 a, .bool o], .bool tn] w fun r w' => r = .returned (.int .i64 (sdI o tn)) ∧ Below w.heap.size w w' := by
  have bb := below_alloc w (.cells #[.int .u8 kd, .int .u64 t, .int .u64 a, .bool o] 102)
  cases o <;> cases tn
  all_goals
    go_enter Tryz.func163, Tryz.ntmps163
    go_wp2_with fail
    go_ret
    exact ⟨rfl, bb⟩

set_option maxRecDepth 100000 in
set_option maxHeartbeats 2000000 in
theorem fact1_calls (bq bn bp : Nat) (qa : Option Addr) (qn qc q n : Nat) (kd t a : Int) (o : Bool) (w : World) (d1 : bq ≠ bn) (d2 : bp ≠ bq) (d3 : bp ≠ bn)
    (hq : w.cell? ⟨bq, 0, none⟩ = some (.slice qa qn qc)) (fq : w.frozen? ⟨bq, 0, none⟩ = false) (hn : w.cell? ⟨bn, 0, none⟩ = some (.int .u64 (n : Int))) (fn : w.frozen? ⟨bn, 0, none⟩ = false) (hp : PAt w bp 0 kd t a o)
    (hQ : IsW w qa qn qc (wordsOf q)) (hl : qn ≤ 1024) (hS : NoS (fun k => k = bq ∨ k = bn) qa qn) (hg : greatB q = false) (hN : n < 20000) :
    Calls Tryz.prog 162 #[.pointer (some ⟨bq, 0, none⟩), .pointer (some ⟨bn, 0, none⟩), .pointer (some ⟨bp, 0, none⟩)] w fun r w' => r = .returned (.tuple #[.slice qa qn qc, .int .i64 (sdI o false)]) ∧ Ks (fun k => k = bq ∨ k = bn) w w' ∧
      w'.cell? ⟨bn, 0, none⟩ = some (.int .u64 ((n : Int) + 1)) ∧ w'.frozen? ⟨bq, 0, none⟩ = false ∧ w'.frozen? ⟨bn, 0, none⟩ = false ∧ ∃ (ao : Option Addr) (m c : Nat), w'.cell? ⟨bq, 0, none⟩ = some (.slice ao m c) ∧ m ≤ 1024 ∧ IsW w' ao m c (wordsOf (q / (n + 1))) ∧ NwA w.heap.size ao m := by
  have hw : IntKind.u64.wrap ((n : Int) + 1) = ((n + 1 : Nat) : Int) := by rw [IntKind.wrap_u64]; omega
  obtain ⟨s1, s2, s3⟩ := st1 (S := fun k => k = bn) (.int .u64 ((n : Int) + 1)) hn fn rfl
  have k0 := s3.cell hq d1
  have k1 := s3.frozen hq d1 fq
  have k2 := hp.keepS s3 d3
  have k3 := hQ.keepS (fun b off e h hb => hS b off e h (Or.inr hb)) s3
  have s4 := s3.mono (T := fun k => k = bq ∨ k = bn) (fun _ _ e => Or.inr e)
  have gn : greatB (n + 1) = false := cf_great (k := 64) (by omega) (by decide)
  have hz := s3.2.2.2.1
  clear s3
  go_enter Tryz.func162, Tryz.ntmps162
  go_wp2_with fail
  generalize w.setCell ⟨bn, 0, none⟩ (.int .u64 ((n : Int) + 1)) = v at *
  clear hq fq hn fn hp hQ
  have bD : Below v.heap.size v v.drew := (Below.refl _ _).drew
  have bI := bD
  have k4 := k3
  go_region_with (first
    | (go_at_call 43; refine (cof_eq (n + 1) (by omega) (by omega)).mono ?_; rintro r w2 ⟨a1, m1, c1, rfl, hm1, hO1, b1⟩; replace bI := below_trans bD b1; have z2 := bI.size; replace k4 := k3.keepB bI; have j0 := cKeep bI k0; have j1 := fKeep bI k0 k1; have y0 := cKeep bI s1; have y1 := fKeep bI s1 s2; clear b1)
    | (go_at_call 103; refine (fOver_calls k4 hO1.1 hl hm1 hg gn (by omega)).mono ?_; rintro r w3 ⟨a2, m2, c2, rfl, hm2, hO2, b2⟩; replace j1 := fKeep b2 j0 j1; replace j0 := cKeep b2 j0; replace y1 := fKeep b2 y0 y1; replace y0 := cKeep b2 y0; replace bI := below_trans bI b2; clear b2))
  all_goals
    obtain ⟨t1, t2, t3⟩ := st1 (S := fun k => k = bq) (.slice a2 m2 c2) j0 j1 rfl
    have u0 := t3.cell y0 (fun e => d1 e.symm)
    have u1 := t3.frozen y0 (fun e => d1 e.symm) y1
    obtain ⟨p0, p1, p2, p3⟩ := (k2.keepS (Ks.of_below (S := fun k => k = bq) bI) d2).keepS t3 d2
    have hv : bq < v.heap.size := World.block_lt_of_cell? _ _ k0
    have N2 := hO2.nw.low (Nat.le_trans hz z2)
    have Q2 := hO2.1.keepS (hO2.nw.noS (fun b e => by rw [e]; omega)) t3
    have K := s4.trans ((Ks.of_below bI).trans (t3.mono (fun _ _ e => Or.inl e)))
    clear j0 j1 y0 y1 hO2 t3 bI k4 hO1
    generalize w3.setCell ⟨bq, 0, none⟩ (.slice a2 m2 c2) = v2 at *
    go_wp2_with fail
    refine Calls.mono (side_calls _ _ _ _ _ _) ?_
    rintro r w4 ⟨rfl, b4⟩
    go_wp2_with fail
    go_ret2
    exact ⟨rfl, K.trans (Ks.of_below b4), cKeep b4 u0, fKeep b4 t1 t2, fKeep b4 u0 u1, a2, m2, c2, cKeep b4 t1, hm2, Q2.keepB b4, N2⟩

end Go.Proofs.YtkkldnnndlpblaaGreatDoor

namespace Go.Proofs.YtkkldnnndlpblaaGreatDoor
open Go.RowKit Ck

theorem Ks.drew {S : Nat → Prop} {x w : World} (h : Ks S x w) : Ks S x w.drew := h

/-- what the boxes of a series of odd powers hold -/
def BoxP (w : World) (bq bn bp bt : Nat) (qa : Option Addr) (qn qc : Nat) (n : Int) (tn : Bool) (kd t a : Int) (o : Bool) : Prop :=
  w.cell? ⟨bq, 0, none⟩ = some (.slice qa qn qc) ∧ w.frozen? ⟨bq, 0, none⟩ = false ∧ w.cell? ⟨bn, 0, none⟩ = some (.int .u64 n) ∧ w.frozen? ⟨bn, 0, none⟩ = false ∧ w.cell? ⟨bt, 0, none⟩ = some (.bool tn) ∧ w.frozen? ⟨bt, 0, none⟩ = false ∧ PAt w bp 0 kd t a o

theorem BoxP.keep {w w' : World} {bq bn bp bt : Nat} {qa : Option Addr} {qn qc : Nat} {n : Int} {tn : Bool} {kd t a : Int} {o : Bool} (h : BoxP w bq bn bp bt qa qn qc n tn kd t a o) (b : Below w.heap.size w w') : BoxP w' bq bn bp bt qa qn qc n tn kd t a o := by
  obtain ⟨h1, h2, h3, h4, h5, h6, h7⟩ := h
  exact ⟨cKeep b h1, fKeep b h1 h2, cKeep b h3, fKeep b h3 h4, cKeep b h5, fKeep b h5 h6, h7.keepS (Ks.of_below (S := fun _ => False) b) (fun e => e)⟩

set_option maxRecDepth 100000 in
set_option maxHeartbeats 4000000 in
theorem pow1_calls (bq bn bp bt : Nat) (qa : Option Addr) (qn qc q n : Nat) (kd t : Int) (a : Nat) (o tn : Bool) (w : World) (d1 : bq ≠ bn) (d2 : bp ≠ bq) (d3 : bp ≠ bn) (d4 : bt ≠ bq) (d5 : bt ≠ bn) (d6 : bt ≠ bp)
    (C : BoxP w bq bn bp bt qa qn qc (n : Int) tn kd t (a : Int) o)
    (hQ : IsW w qa qn qc (wordsOf q)) (hl : qn ≤ 1024) (hg : greatB q = false) (hn0 : 0 < n) (hN : n < 40000) (ha0 : 0 < a) (ha : a < 65536) :
    Calls Tryz.prog 164 #[.pointer (some ⟨bq, 0, none⟩), .pointer (some ⟨bn, 0, none⟩), .pointer (some ⟨bp, 0, none⟩), .pointer (some ⟨bt, 0, none⟩)] w fun r w' =>
      ∃ (ao : Option Addr) (m c : Nat) (qa2 : Option Addr) (qn2 qc2 : Nat), r = .returned (.tuple #[.slice ao m c, .int .i64 (sdI o tn)]) ∧ m ≤ 1024 ∧ IsW w' ao m c (wordsOf (q / n)) ∧ NwA w.heap.size ao m ∧ Ks (fun k => k = bq ∨ k = bn ∨ k = bt) w w' ∧
      BoxP w' bq bn bp bt qa2 qn2 qc2 ((n : Int) + 2) (kd == 0 && !tn) kd t (a : Int) o ∧ qn2 ≤ 1024 ∧ IsW w' qa2 qn2 qc2 (wordsOf (q / (a * a))) ∧ NwA w.heap.size qa2 qn2 := by
  have hw : IntKind.u64.wrap ((n : Int) + 2) = (n : Int) + 2 := by rw [IntKind.wrap_u64]; omega
  have haa : a * a ≤ 65535 * 65535 := Nat.mul_le_mul (by omega) (by omega)
  have hw2 : IntKind.u64.wrap ((a : Int) * (a : Int)) = ((a * a : Nat) : Int) := by rw [IntKind.wrap_u64, ← Int.natCast_mul]; omega
  have gn : greatB n = false := cf_great (k := 64) (by omega) (by decide)
  have ga : greatB (a * a) = false := cf_great (k := 64) (by omega) (by decide)
  have haa0 : 0 < a * a := Nat.mul_pos ha0 ha0
  have K : Ks (fun k => k = bq ∨ k = bn ∨ k = bt) w w := Ks.of_below (Below.refl _ _)
  obtain ⟨cq, fq, cn, fn, ct, ft, cp0, cp1, cp2, cp3⟩ := id C
  have hv : bq < w.heap.size := World.block_lt_of_cell? _ _ cq
  have hv2 : bn < w.heap.size := World.block_lt_of_cell? _ _ cn
  have hv3 : bt < w.heap.size := World.block_lt_of_cell? _ _ ct
  have bI : Below w.heap.size w w.drew := (Below.refl _ _).drew
  go_enter Tryz.func164, Tryz.ntmps164
  go_wp2_with fail
  go_region_held3 (fun W => W.cell? ⟨bq, 0, none⟩ = some (.slice qa qn qc) ∧ W.cell? ⟨bn, 0, none⟩ = some (.int .u64 (n : Int)) ∧ W.cell? ⟨bt, 0, none⟩ = some (.bool tn) ∧ W.cell? ⟨bp, 0, none⟩ = some (.int .u8 kd) ∧ W.cell? ⟨bp, 0 + 1, none⟩ = some (.int .u64 t) ∧ W.cell? ⟨bp, 0 + 2, none⟩ = some (.int .u64 (a : Int)) ∧ W.cell? ⟨bp, 0 + 3, none⟩ = some (.bool o))
    (first | (go_keep; done) | ((refine ⟨?_, ?_, ?_, ?_, ?_, ?_, ?_⟩ <;> (refine cKeep bL ?_; go_keep)); done))
    (first
      | (have _q := ga1; go_at_call 163; refine (side_calls _ _ _ _ _ _).mono ?_; rintro r wC ⟨rfl, bL⟩; have b3 := below_trans b2 bL; replace hO2 := hO2.keep bL)
      | (have _q := ga0; go_at_call 103; refine (fOver_calls hQ2 hO1.1 hl hm1 hg gn (by omega)).mono ?_; rintro r wB ⟨a2, m2, c2, rfl, hm2, hO2, bL⟩; have b2 := below_trans b1 bL; have ga1 := True.intro)
      | (go_at_call 43; refine (cof_eq n (by omega) (by omega)).mono ?_; rintro r wA ⟨a1, m1, c1, rfl, hm1, hO1, bL⟩; have b1 := below_trans bI bL; have hQ2 := hQ.keepB b1; have z1 := b1.size; have ga0 := True.intro))
  have N2 := hO2.nw.low z1
  have J2 := hO2.1
  clear hO2 hO1 hQ2
  obtain ⟨cq, fq, cn, fn, ct, ft, cp⟩ := C.keep b3
  have hQ3 := hQ.keepB b3
  have cpP := cp
  obtain ⟨cp0, cp1, cp2, cp3⟩ := cp
  have z3 := b3.size
  replace K : Ks (fun k => k = bq ∨ k = bn ∨ k = bt) w wC := Ks.of_below b3
  clear b1 b2 bI
  go_wp2_with fail
  have kS : Ks (fun k => k = bq) wC wC.drew := Ks.of_below ((Below.refl _ _).drew)
  have bD : Below wC.heap.size wC wC.drew := (Below.refl _ _).drew
  refine wp_region_held (S := fun w' => Ks (fun k => k = bq) wC w') (by kernel_rfl) ?_
  change wpAnyH _ _ _ _ _ _ _ _ (World.drew wC)
  generalize World.drew wC = wd at kS bD ⊢
  refine wpAnyH_take (i := 1) (v := .pointer (some ⟨bp, 2, none⟩)) rfl (by kernel_rfl) (by kernel_rfl) (by kernel_rfl) (fun _ _ _ h => h) (Or.inl ⟨by rfl, ?y1⟩) kS ?r1
  case y1 =>
    intro ww hS
    clear hS
    go_simp
    try first | (with_reducible rfl) | rfl
  try simp only [Act.put, List.setIfInBounds_toArray]
  refine wpAnyH_take (i := 2) (v := .int .u64 (a : Int)) rfl (by kernel_rfl) (by kernel_rfl) (by kernel_rfl) (fun _ _ _ h => h) (Or.inl ⟨by rfl, ?y2⟩) kS ?r2
  case y2 =>
    intro ww hS
    have q0 := hS.cell cp2 d2
    clear hS
    go_simp
    try first | (with_reducible rfl) | rfl
  try simp only [Act.put]
  refine wpAnyH_take (i := 3) (v := .pointer (some ⟨bp, 2, none⟩)) rfl (by kernel_rfl) (by kernel_rfl) (by kernel_rfl) (fun _ _ _ h => h) (Or.inl ⟨by rfl, ?y3⟩) kS ?r3
  case y3 =>
    intro ww hS
    clear hS
    go_simp
    try first | (with_reducible rfl) | rfl
  try simp only [Act.put]
  refine wpAnyH_take (i := 4) (v := .int .u64 (a : Int)) rfl (by kernel_rfl) (by kernel_rfl) (by kernel_rfl) (fun _ _ _ h => h) (Or.inl ⟨by rfl, ?y4⟩) kS ?r4
  case y4 =>
    intro ww hS
    have q0 := hS.cell cp2 d2
    clear hS
    go_simp
    try first | (with_reducible rfl) | rfl
  try simp only [Act.put]
  refine wpAnyH_take (i := 5) (v := .int .u64 ((a * a : Nat) : Int)) rfl (by kernel_rfl) (by kernel_rfl) (by kernel_rfl) (fun _ _ _ h => h) (Or.inl ⟨by rfl, ?y5⟩) kS ?r5
  case y5 =>
    intro ww hS
    clear hS
    go_simp
    try first | (with_reducible rfl) | rfl
  try simp only [Act.put]
  refine wpAnyH_ready (rs := [0, 6]) (by kernel_rfl) (by simp) ?_
  refine AllReadyH.cons rfl (fun K hK => ?_) (AllReadyH.cons rfl (fun K hK => ?_) AllReadyH.nil)
  · have q0 := cKeep bD cq
    go_simp
    refine hK.out _ _ kS (fun _ => ?_)
    clear hK K
    try simp only [Act.put, List.setIfInBounds_toArray, List.set_cons_zero, List.set_cons_succ]
    refine wpAnyH_ready (rs := [6]) (by kernel_rfl) (by simp) ?_
    refine AllReadyH.cons rfl (fun K hK => ?_) AllReadyH.nil
    go_simp
    refine Calls.mono (cof_eq (a * a) (by omega) (by omega)) ?_
    rintro r wE ⟨a4, m4, c4, rfl, hm4, hO4, bN⟩
    have bE := below_trans bD bN
    refine hK.out _ _ (Ks.of_below bE) (fun _ => ?_)
    clear hK K
    try simp only [Act.put, List.setIfInBounds_toArray, List.set_cons_zero, List.set_cons_succ]
    have hQ4 := hQ3.keepB bE
    have zE := bE.size
    refine wpAnyH_ready (rs := [7]) (by kernel_rfl) (by simp) ?_
    refine AllReadyH.cons rfl (fun K hK => ?_) AllReadyH.nil
    go_simp
    refine Calls.mono (fOver_calls hQ4 hO4.1 hl hm4 hg ga (by omega)) ?_
    rintro r wF ⟨a5, m5, c5, rfl, hm5, hO5, bN2⟩
    have bF := below_trans bE bN2
    refine hK.out _ _ (Ks.of_below bF) (fun _ => ?_)
    clear hK K
    try simp only [Act.put, List.setIfInBounds_toArray, List.set_cons_zero, List.set_cons_succ]
    have q1 := cKeep bF cq
    have q2 := fKeep bF cq fq
    refine wpAnyH_ready (rs := [8]) (by kernel_rfl) (by simp) ?_
    refine AllReadyH.cons rfl (fun K hK => ?_) AllReadyH.nil
    go_simp
    obtain ⟨t1, t2, t3⟩ := st1 (S := fun k => k = bq) (.slice a5 m5 c5) q1 q2 rfl
    have kF := (Ks.of_below (S := fun k => k = bq) bF).trans t3
    refine hK.out _ _ kF (fun _ => ?_)
    clear hK K
    try simp only [Act.put, List.setIfInBounds_toArray, List.set_cons_zero, List.set_cons_succ]
    refine wpAnyH_done (by kernel_rfl) ?_ _
    have x1 := t3.cell (cKeep bF cn) (fun e => d1 e.symm)
    have x2 := t3.frozen (cKeep bF cn) (fun e => d1 e.symm) (fKeep bF cn fn)
    have x3 := t3.cell (cKeep bF ct) d4
    have x4 := t3.frozen (cKeep bF ct) d4 (fKeep bF ct ft)
    have P5 := (cpP.keepS (Ks.of_below (S := fun k => k = bq) bF) d2).keepS t3 d2
    have J5 := (J2.keepB bF).keepS (N2.noS (fun b e => by rw [e]; exact hv)) t3
    have Q5 := hO5.1.keepS (hO5.nw.noS (fun b e => by rw [e]; omega)) t3
    have N5 := hO5.nw.low (Nat.le_trans z3 zE)
    have K5 := K.trans (kF.mono (fun _ _ e => Or.inl e))
    clear t3 kF q1 q2 hO5 bF bE bN2 hQ4 hO4 cq fq cn fn ct ft cpP cp0 cp1 cp2 cp3 J2 hQ3 kS bD C hQ b3 bL
    generalize wF.setCell ⟨bq, 0, none⟩ (.slice a5 m5 c5) = v2 at *
    obtain ⟨y1, y2, y3⟩ := st1 (S := fun k => k = bn) (.int .u64 ((n : Int) + 2)) x1 x2 rfl
    have g3 := y3.cell x3 d5
    have g4 := y3.frozen x3 d5 x4
    have gP := P5.keepS y3 d3
    obtain ⟨gp0, gp1, gp2, gp3⟩ := id gP
    obtain ⟨h1, h2, h3⟩ := st1 (S := fun k => k = bt) (.bool (kd == 0 && !tn)) g3 g4 rfl
    have J6 := (J5.keepS (N2.noS (fun b e => by rw [e]; exact hv2)) y3).keepS (N2.noS (fun b e => by rw [e]; exact hv3)) h3
    have Q6 := (Q5.keepS (N5.noS (fun b e => by rw [e]; exact hv2)) y3).keepS (N5.noS (fun b e => by rw [e]; exact hv3)) h3
    have P6 := gP.keepS h3 (fun e => d6 e.symm)
    have k1 := h3.cell (y3.cell t1 d1) (fun e => d4 e.symm)
    have k2 := h3.frozen (y3.cell t1 d1) (fun e => d4 e.symm) (y3.frozen t1 d1 t2)
    have k3 := h3.cell y1 (fun e => d5 e.symm)
    have k4 := h3.frozen y1 (fun e => d5 e.symm) y2
    have K6 := (K5.trans (y3.mono (fun _ _ e => Or.inr (Or.inl e)))).trans (h3.mono (fun _ _ e => Or.inr (Or.inr e)))
    clear y3 h3 J5 Q5 P5 K5 gP
    have FIN : Hid _ := (⟨J6, N2, K6, ⟨k1, k2, k3, k4, h1, h2, P6⟩, Q6, N5⟩ : _ ∧ _ ∧ _ ∧ BoxP _ bq bn bp bt a5 m5 c5 ((n : Int) + 2) (kd == 0 && !tn) kd t (a : Int) o ∧ _ ∧ _)
    clear J6 K6 k1 k2 k3 k4 h1 h2 P6 Q6
    rcases Bool.eq_false_or_eq_true (kd == 0) with hk | hk
    all_goals
      rw [hk] at FIN
      try rw [Bool.true_and] at FIN
      try rw [Bool.false_and] at FIN
      go_wp2_with fail
      go_ret2
      obtain ⟨f1, f2, f3, f4, f5, f6⟩ := FIN.out
      exact ⟨a2, m2, c2, a5, m5, c5, rfl, hm2, f1, f2, f3, by simpa [hk] using f4, hm5, f5, f6⟩
  · go_simp
    refine Calls.mono (cof_eq (a * a) (by omega) (by omega)) ?_
    rintro r wE ⟨a4, m4, c4, rfl, hm4, hO4, bN⟩
    have bE := below_trans bD bN
    refine hK.out _ _ (Ks.of_below bE) (fun _ => ?_)
    clear hK K
    try simp only [Act.put, List.setIfInBounds_toArray, List.set_cons_zero, List.set_cons_succ]
    refine wpAnyH_ready (rs := [0]) (by kernel_rfl) (by simp) ?_
    refine AllReadyH.cons rfl (fun K hK => ?_) AllReadyH.nil
    have q0 := cKeep bE cq
    go_simp
    refine hK.out _ _ (Ks.of_below bE) (fun _ => ?_)
    clear hK K
    try simp only [Act.put, List.setIfInBounds_toArray, List.set_cons_zero, List.set_cons_succ]
    have hQ4 := hQ3.keepB bE
    have zE := bE.size
    refine wpAnyH_ready (rs := [7]) (by kernel_rfl) (by simp) ?_
    refine AllReadyH.cons rfl (fun K hK => ?_) AllReadyH.nil
    go_simp
    refine Calls.mono (fOver_calls hQ4 hO4.1 hl hm4 hg ga (by omega)) ?_
    rintro r wF ⟨a5, m5, c5, rfl, hm5, hO5, bN2⟩
    have bF := below_trans bE bN2
    refine hK.out _ _ (Ks.of_below bF) (fun _ => ?_)
    clear hK K
    try simp only [Act.put, List.setIfInBounds_toArray, List.set_cons_zero, List.set_cons_succ]
    have q1 := cKeep bF cq
    have q2 := fKeep bF cq fq
    refine wpAnyH_ready (rs := [8]) (by kernel_rfl) (by simp) ?_
    refine AllReadyH.cons rfl (fun K hK => ?_) AllReadyH.nil
    go_simp
    obtain ⟨t1, t2, t3⟩ := st1 (S := fun k => k = bq) (.slice a5 m5 c5) q1 q2 rfl
    have kF := (Ks.of_below (S := fun k => k = bq) bF).trans t3
    refine hK.out _ _ kF (fun _ => ?_)
    clear hK K
    try simp only [Act.put, List.setIfInBounds_toArray, List.set_cons_zero, List.set_cons_succ]
    refine wpAnyH_done (by kernel_rfl) ?_ _
    have x1 := t3.cell (cKeep bF cn) (fun e => d1 e.symm)
    have x2 := t3.frozen (cKeep bF cn) (fun e => d1 e.symm) (fKeep bF cn fn)
    have x3 := t3.cell (cKeep bF ct) d4
    have x4 := t3.frozen (cKeep bF ct) d4 (fKeep bF ct ft)
    have P5 := (cpP.keepS (Ks.of_below (S := fun k => k = bq) bF) d2).keepS t3 d2
    have J5 := (J2.keepB bF).keepS (N2.noS (fun b e => by rw [e]; exact hv)) t3
    have Q5 := hO5.1.keepS (hO5.nw.noS (fun b e => by rw [e]; omega)) t3
    have N5 := hO5.nw.low (Nat.le_trans z3 zE)
    have K5 := K.trans (kF.mono (fun _ _ e => Or.inl e))
    clear t3 kF q1 q2 hO5 bF bE bN2 hQ4 hO4 cq fq cn fn ct ft cpP cp0 cp1 cp2 cp3 J2 hQ3 kS bD C hQ b3 bL
    generalize wF.setCell ⟨bq, 0, none⟩ (.slice a5 m5 c5) = v2 at *
    obtain ⟨y1, y2, y3⟩ := st1 (S := fun k => k = bn) (.int .u64 ((n : Int) + 2)) x1 x2 rfl
    have g3 := y3.cell x3 d5
    have g4 := y3.frozen x3 d5 x4
    have gP := P5.keepS y3 d3
    obtain ⟨gp0, gp1, gp2, gp3⟩ := id gP
    obtain ⟨h1, h2, h3⟩ := st1 (S := fun k => k = bt) (.bool (kd == 0 && !tn)) g3 g4 rfl
    have J6 := (J5.keepS (N2.noS (fun b e => by rw [e]; exact hv2)) y3).keepS (N2.noS (fun b e => by rw [e]; exact hv3)) h3
    have Q6 := (Q5.keepS (N5.noS (fun b e => by rw [e]; exact hv2)) y3).keepS (N5.noS (fun b e => by rw [e]; exact hv3)) h3
    have P6 := gP.keepS h3 (fun e => d6 e.symm)
    have k1 := h3.cell (y3.cell t1 d1) (fun e => d4 e.symm)
    have k2 := h3.frozen (y3.cell t1 d1) (fun e => d4 e.symm) (y3.frozen t1 d1 t2)
    have k3 := h3.cell y1 (fun e => d5 e.symm)
    have k4 := h3.frozen y1 (fun e => d5 e.symm) y2
    have K6 := (K5.trans (y3.mono (fun _ _ e => Or.inr (Or.inl e)))).trans (h3.mono (fun _ _ e => Or.inr (Or.inr e)))
    clear y3 h3 J5 Q5 P5 K5 gP
    have FIN : Hid _ := (⟨J6, N2, K6, ⟨k1, k2, k3, k4, h1, h2, P6⟩, Q6, N5⟩ : _ ∧ _ ∧ _ ∧ BoxP _ bq bn bp bt a5 m5 c5 ((n : Int) + 2) (kd == 0 && !tn) kd t (a : Int) o ∧ _ ∧ _)
    clear J6 K6 k1 k2 k3 k4 h1 h2 P6 Q6
    rcases Bool.eq_false_or_eq_true (kd == 0) with hk | hk
    all_goals
      rw [hk] at FIN
      try rw [Bool.true_and] at FIN
      try rw [Bool.false_and] at FIN
      go_wp2_with fail
      go_ret2
      obtain ⟨f1, f2, f3, f4, f5, f6⟩ := FIN.out
      exact ⟨a2, m2, c2, a5, m5, c5, rfl, hm2, f1, f2, f3, by simpa [hk] using f4, hm5, f5, f6⟩

end Go.Proofs.YtkkldnnndlpblaaGreatDoor

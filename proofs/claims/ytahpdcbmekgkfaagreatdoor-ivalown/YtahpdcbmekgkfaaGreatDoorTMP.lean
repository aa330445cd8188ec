/- Package ival: adding as a way; it done, where both sums have room. Package ival: Add, where both sums have room. Package ival: a number told rounded down, marked if it is more. Package ival: crosswise, dividing, as function values. Package ival: marked: a number told rounded down, its last bit set if it is more. -/
import Derived.Laws.EntriesVeiled
import Derived.Test.YtahpdcbmekgkfaaGreatDoorTMO
import Derived.Test.YtahpdcbmekgkfaaGreatDoorTMF
import Derived.Test.YtahpdcbmekgkfaaGreatDoorAL
import Derived.Test.YtahpdcbmekgkfaaGreatDoorTMJ

namespace Go.Proofs.YtahpdcbmekgkfaaGreatDoor
open Go.RowKit
theorem rt_both {s : Bool} {m : Nat} {e : Int} {s' : Bool} {m' : Nat} {e' : Int} (q : rtI s m e s' m' e' = true) : rightB m e = true ∧ rightB m' e' = true := by
 unfold rtI at q
 simp only [Bool.and_eq_true] at q
 exact ⟨q.1.1, q.1.2⟩
def AtI (q : Nat) (v0 v1 v2 v3 v4 v5 : Value) (w : World) : Prop := w.cell? ⟨q, 0, none⟩ = some v0 ∧ w.cell? ⟨q, 1, none⟩ = some v1 ∧ w.cell? ⟨q, 2, none⟩ = some v2 ∧ w.cell? ⟨q, 3, none⟩ = some v3 ∧ w.cell? ⟨q, 4, none⟩ = some v4 ∧ w.cell? ⟨q, 5, none⟩ = some v5
theorem AtI.keep {q : Nat} {v0 v1 v2 v3 v4 v5 : Value} {w w' : World} (h : AtI q v0 v1 v2 v3 v4 v5 w) (b : Below w.heap.size w w') : AtI q v0 v1 v2 v3 v4 v5 w' := ⟨kC b h.1, kC b h.2.1, kC b h.2.2.1, kC b h.2.2.2.1, kC b h.2.2.2.2.1, kC b h.2.2.2.2.2⟩
theorem AtI.set6 {q r : Nat} {v0 v1 v2 v3 v4 v5 : Value} {w : World} (h : AtI q v0 v1 v2 v3 v4 v5 w) (ne : q ≠ r) (u0 u1 u2 u3 u4 u5 : Value) : AtI q v0 v1 v2 v3 v4 v5 ((((((w.setCell ⟨r, 0, none⟩ u0).setCell ⟨r, 1, none⟩ u1).setCell ⟨r, 2, none⟩ u2).setCell ⟨r, 3, none⟩ u3).setCell ⟨r, 4, none⟩ u4).setCell ⟨r, 5, none⟩ u5) := by
 have key : ∀ (V : World) (o k : Nat) (u x : Value), V.cell? ⟨q, o, none⟩ = some x → (V.setCell ⟨r, k, none⟩ u).cell? ⟨q, o, none⟩ = some x := fun V o k u x q =>
  (World.cell?_setCell_other V _ _ _ (fun e => by have := congrArg Addr.block e; simp at this; omega)).trans q
 have all : ∀ (o : Nat) (x : Value), w.cell? ⟨q, o, none⟩ = some x → ((((((w.setCell ⟨r, 0, none⟩ u0).setCell ⟨r, 1, none⟩ u1).setCell ⟨r, 2, none⟩ u2).setCell ⟨r, 3, none⟩ u3).setCell ⟨r, 4, none⟩ u4).setCell ⟨r, 5, none⟩ u5).cell? ⟨q, o, none⟩ = some x := fun o x z => key _ _ _ _ _ (key _ _ _ _ _ (key _ _ _ _ _ (key _ _ _ _ _ (key _ _ _ _ _ (key _ _ _ _ _ z)))))
 exact ⟨all _ _ h.1, all _ _ h.2.1, all _ _ h.2.2.1, all _ _ h.2.2.2.1, all _ _ h.2.2.2.2.1, all _ _ h.2.2.2.2.2⟩
set_option maxHeartbeats 2000000
set_option maxRecDepth 100000
theorem marked_not (s : Bool) (a : Option Addr) (len cap : Nat) (xs : List Int) (e : Int) (B : Nat) (w : World) (h : OwnW B w a len cap xs) :
  Calls Tryz.prog 109 #[.bool s, .slice a len cap, .int .i64 e, .bool false] w fun r w' => r = .returned (dyV s a len cap e) ∧ OwnW B w' a len cap xs ∧ Below w.heap.size w w' := by
 go_enter Tryz.func109, Tryz.ntmps109
 go_wp2_with fail
 exact bodyPost_ret (v := dyV s a len cap e) (by simp [results, Tryz.results109, go_sem]) rfl ⟨rfl, h.keep (below_one _ _), below_one _ _⟩
theorem marked_yes (s : Bool) (g off : Nat) (len cap : Nat) (xs : List Int) (x0 : Int) (e : Int) (B : Nat) (w : World) (hB : B ≤ w.heap.size) (h : OwnW B w (some ⟨g, off, none⟩) len cap xs) (hl : 0 < len) (hx : (w.cell? ⟨g, off, none⟩) = some (.int .u64 x0)) (b0 : 0 ≤ bits BinOp.or .u64 x0 1) (b1 : bits BinOp.or .u64 x0 1 ≤ 18446744073709551615) :
  Calls Tryz.prog 109 #[.bool s, .slice (some ⟨g, off, none⟩) len cap, .int .i64 e, .bool true] w fun r w' => r = .returned (dyV s (some ⟨g, off, none⟩) len cap e) ∧ OwnW B w' (some ⟨g, off, none⟩) len cap (xs.set 0 (bits BinOp.or .u64 x0 1)) ∧ Below B w w' := by
 have bA : Below w.heap.size w (w.alloc (.cells #[.bool false, .slice none 0 0, .int .i64 0] 25)) := below_one _ _
 have hg := h.2 g off 0 rfl hl
 have ne : g < w.heap.size := World.block_lt_of_cell? _ _ hx
 have cx := kC bA hx
 have gx := kF bA hx hg.2
 have hO := (h.set (i := 0) hl b0 b1).keep (below_one _ (.cells #[.bool s, .slice (some ⟨g, off, none⟩) len cap, .int .i64 e] 25))
 have bB : Below B w (w.setCell ⟨g, off, none⟩ (.int .u64 (bits BinOp.or .u64 x0 1))) := (Below.refl _ _).setCell hg.1 _
 have hl1 : (0 : Int) < len := by omega
 have z0 : ((w.alloc (.cells #[.bool false, .slice none 0 0, .int .i64 0] 25)).setCell ⟨g, off, none⟩ (.int .u64 (bits BinOp.or .u64 x0 1))).cell? ⟨w.heap.size, 0, none⟩ = some (.bool false) := (World.cell?_setCell_other _ _ _ _ (fun q => by have := congrArg Addr.block q; simp at this; omega)).trans (by go_simp)
 have f0 : ((w.alloc (.cells #[.bool false, .slice none 0 0, .int .i64 0] 25)).setCell ⟨g, off, none⟩ (.int .u64 (bits BinOp.or .u64 x0 1))).frozen? ⟨w.heap.size, 0, none⟩ = false := by rw [World.frozen?_setCell]; go_simp
 have z1 : ((w.alloc (.cells #[.bool false, .slice none 0 0, .int .i64 0] 25)).setCell ⟨g, off, none⟩ (.int .u64 (bits BinOp.or .u64 x0 1))).cell? ⟨w.heap.size, 1, none⟩ = some (.slice none 0 0) := (World.cell?_setCell_other _ _ _ _ (fun q => by have := congrArg Addr.block q; simp at this; omega)).trans (by go_simp)
 have f1 : ((w.alloc (.cells #[.bool false, .slice none 0 0, .int .i64 0] 25)).setCell ⟨g, off, none⟩ (.int .u64 (bits BinOp.or .u64 x0 1))).frozen? ⟨w.heap.size, 1, none⟩ = false := by rw [World.frozen?_setCell]; go_simp
 have z2 : ((w.alloc (.cells #[.bool false, .slice none 0 0, .int .i64 0] 25)).setCell ⟨g, off, none⟩ (.int .u64 (bits BinOp.or .u64 x0 1))).cell? ⟨w.heap.size, 2, none⟩ = some (.int .i64 0) := (World.cell?_setCell_other _ _ _ _ (fun q => by have := congrArg Addr.block q; simp at this; omega)).trans (by go_simp)
 have f2 : ((w.alloc (.cells #[.bool false, .slice none 0 0, .int .i64 0] 25)).setCell ⟨g, off, none⟩ (.int .u64 (bits BinOp.or .u64 x0 1))).frozen? ⟨w.heap.size, 2, none⟩ = false := by rw [World.frozen?_setCell]; go_simp
 clear h hx hg
 go_enter Tryz.func109, Tryz.ntmps109
 go_wp2_with fail
 exact bodyPost_ret (v := dyV s (some ⟨g, off, none⟩) len cap e) (by simp [results, Tryz.results109, go_sem]) rfl ⟨rfl, hO, Below.alloc bB (by simpa using hB) _⟩
set_option maxHeartbeats 1000000
set_option maxRecDepth 100000
theorem crosswise_calls (w : World) :
  Calls Tryz.prog 102 #[.func (.func 105) #[] #[]] w fun r w' => r = .returned (.func (.func 131) #[] #[.pointer (some ⟨w.heap.size, 0, none⟩)]) ∧ w'.cell? ⟨w.heap.size, 0, none⟩ = some (.func (.func 105) #[] #[]) ∧ Below w.heap.size w w' := by
 have hmf : ∀ (fn : Fn) (first cap : Array Value) (w : World), (Instr.makeFunc fn first cap).run Tryz.prog w = .ok (.func fn first cap) w := fun _ _ _ _ => rfl
 go_enter Tryz.func102, Tryz.ntmps102
 go_wp2_with fail
 go_ret
 exact ⟨rfl, by go_simp, below_one _ _⟩
theorem dividing_calls (w : World) :
  Calls Tryz.prog 62 #[] w fun r w' => ∃ X, r = .returned (.agg #[.func (.func 104) #[] #[], .func (.func 131) #[] #[.pointer (some ⟨X, 0, none⟩)]]) ∧ w'.cell? ⟨X, 0, none⟩ = some (.func (.func 105) #[] #[]) ∧ w.heap.size ≤ X ∧ Below w.heap.size w w' := by
 have bA : Below w.heap.size w (w.alloc (.cells #[.nilFunc, .nilFunc] 64)) := below_one _ _
 have HC : Hid _ := crosswise_calls (w.alloc (.cells #[.nilFunc, .nilFunc] 64))
 have hs : (w.alloc (.cells #[.nilFunc, .nilFunc] 64)).heap.size = w.heap.size + 1 := by simp
 rw [hs] at HC
 have z0 : (w.alloc (.cells #[.nilFunc, .nilFunc] 64)).cell? ⟨w.heap.size, 0, none⟩ = some .nilFunc := by go_simp
 have z1 : (w.alloc (.cells #[.nilFunc, .nilFunc] 64)).cell? ⟨w.heap.size, 1, none⟩ = some .nilFunc := by go_simp
 have f0 : (w.alloc (.cells #[.nilFunc, .nilFunc] 64)).frozen? ⟨w.heap.size, 0, none⟩ = false := by go_simp
 have f1 : (w.alloc (.cells #[.nilFunc, .nilFunc] 64)).frozen? ⟨w.heap.size, 1, none⟩ = false := by go_simp
 go_enter Tryz.func62, Tryz.ntmps62
 go_wp2_with fail
 generalize (w.alloc (.cells #[.nilFunc, .nilFunc] 64)) = w0 at *
 refine Calls.mono HC.out ?_
 rintro r w1 ⟨rfl, cq, bN⟩
 rw [← hs] at bN
 replace f0 := kF bN z0 f0
 replace f1 := kF bN z1 f1
 replace z0 := kC bN z0
 replace z1 := kC bN z1
 replace bA := nT bA bN
 clear bN HC hs
 go_wp2_with fail
 refine bodyPost_ret (v := .agg #[.func (.func 104) #[] #[], .func (.func 131) #[] #[.pointer (some ⟨w.heap.size + 1, 0, none⟩)]]) (by simp [results, Tryz.results62, go_sem, z0, z1]) rfl ⟨w.heap.size + 1, rfl, ?_, by omega, ?_⟩
 ·exact (World.cell?_setCell_other _ _ _ _ (fun q => by have := congrArg Addr.block q; simp at this)).trans ((World.cell?_setCell_other _ _ _ _ (fun q => by have := congrArg Addr.block q; simp at this)).trans cq)
 ·repeat (first | (with_reducible exact bA) | (with_reducible refine Below.setCell ?_ (by simp) _))
theorem or_one (x : Int) (h0 : 0 ≤ x) (h1 : x ≤ 18446744073709551615) : bits .or .u64 x 1 = 2 * (x / 2) + 1 := by
 obtain ⟨n, rfl⟩ := Int.eq_ofNat_of_zero_le h0
 rw [u64_or _ _ h0 (by omega) (by omega) (by omega)]
 simp only [Int.reduceToNat, Int.toNat_natCast]
 have k : n ||| 1 = 2 * (n / 2) + 1 := by
  apply Nat.eq_of_testBit_eq
  intro i
  rw [Nat.testBit_or]
  cases i with
  | zero => simp [Nat.testBit_zero]
  | succ i =>
   rw [Nat.testBit_succ, Nat.testBit_succ, Nat.testBit_succ, show (1 : Nat) / 2 = 0 by decide, show (2 * (n / 2) + 1) / 2 = n / 2 by omega]
   simp
 rw [k]
 omega
theorem words_mark (m : Nat) (h : m ≠ 0) : (wO m).set 0 (2 * ((m % 18446744073709551616 : Nat) / 2 : Int) + 1) = wO (2 * (m / 2) + 1) := by
 rw [words_pos m h, words_pos (2 * (m / 2) + 1) (by omega)]
 simp only [sZ]
 congr 1
 ·omega
 ·congr 1
  omega
theorem marked_calls (s : Bool) (a : Option Addr) (len cap : Nat) (m : Nat) (e : Int) (more : Bool) (B : Nat) (w : World) (hB : B ≤ w.heap.size) (h : OwnW B w a len cap (wO m)) (hm : more = true → m ≠ 0) :
  Calls Tryz.prog 109 #[.bool s, .slice a len cap, .int .i64 e, .bool more] w fun r w' => r = .returned (dyV s a len cap e) ∧ OwnW B w' a len cap (wO (mkA m more)) ∧ Below B w w' := by
 cases more with
 | false =>
  refine Calls.mono (marked_not s a len cap (wO m) e B w h) ?_
  rintro r w' ⟨rfl, hO, b⟩
  exact ⟨rfl, hO, b.mono hB⟩
 | true =>
  have h0 := hm rfl
  have hl : 0 < len := by
   rw [h.1.1]
   rcases Nat.eq_zero_or_pos (wO m).length with q | q
   ·exact absurd ((words_nil m).1 (List.eq_nil_of_length_eq_zero q)) h0
   ·exact q
  obtain ⟨g, off, rfl, hb, hc⟩ := h.1.2.2.2 0 hl
  have hg : (wO m).getD 0 0 = ((m % 18446744073709551616 : Nat) : Int) := by rw [words_pos m h0]; rfl
  rw [hg, Nat.add_zero] at hc
  have ho := or_one ((m % 18446744073709551616 : Nat) : Int) (by omega) (by omega)
  refine Calls.mono (marked_yes s g off len cap (wO m) _ e B w hB h hl hc (by rw [ho]; omega) (by rw [ho]; omega)) ?_
  rintro r w' ⟨rfl, hO, b⟩
  rw [ho, words_mark m h0] at hO
  exact ⟨rfl, hO, b⟩
end Go.Proofs.YtahpdcbmekgkfaaGreatDoor

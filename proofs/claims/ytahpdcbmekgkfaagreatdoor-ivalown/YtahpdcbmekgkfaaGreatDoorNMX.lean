/- The walks of products of two words, and of a row times a word added in place. The walks of products of naturals. -/
import Derived.BigRegion
import Derived.Test.YtahpdcbmekgkfaaGreatDoorTMB
import Derived.Test.YtahpdcbmekgkfaaGreatDoorTMI

namespace Go.Proofs.YtahpdcbmekgkfaaGreatDoor
open Go.RowKit
set_option maxHeartbeats 8000000
set_option maxRecDepth 100000
def mL (x y : Nat) : Nat := x * y % 18446744073709551616
def mH (x y : Nat) : Nat := x * y / 18446744073709551616
def pL (l u : Nat) : Nat := (l + u) % 18446744073709551616
def pH (l h u : Nat) : Nat := (h + (l + u) / 18446744073709551616) % 18446744073709551616
theorem mul_add_words (x y t c : Nat) (hx : x < 18446744073709551616) (hy : y < 18446744073709551616) (ht : t < 18446744073709551616) (hc : c < 18446744073709551616) :
  pL (pL (mL x y) t) c + 18446744073709551616 * pH (pL (mL x y) t) (pH (mL x y) (mH x y) t) c = x * y + t + c := by
 have h1 : x * y ≤ 18446744073709551615 * 18446744073709551615 := Nat.mul_le_mul (by omega) (by omega)
 unfold pL pH mL mH
 generalize x * y = p at *
 omega
theorem pL_lt (l u : Nat) : pL l u < 18446744073709551616 := Nat.mod_lt _ (by decide)
theorem pH_lt (l h u : Nat) : pH l h u < 18446744073709551616 := Nat.mod_lt _ (by decide)
theorem product_calls (x y : Nat) (w : World) (hx : x < 18446744073709551616) (hy : y < 18446744073709551616) :
  Calls Tryz.prog 213 #[.int .u64 (x : Int), .int .u64 (y : Int)] w fun e w' => e = .returned (.agg #[.int .u64 (mL x y : Nat), .int .u64 (mH x y : Nat)]) ∧ w' = w.alloc (.cells #[.int .u64 (mL x y : Nat), .int .u64 (mH x y : Nat)] 172) := by
 have MC2 : Hid (Calls Tryz.prog 224 #[.int .u64 x, .int .u64 y] (w.alloc (.cells #[.int .u64 0, .int .u64 0] 172)) fun e w' => e = .returned (.tuple #[.int .u64 (mH x y : Nat), .int .u64 (mL x y : Nat)]) ∧ w' = (w.alloc (.cells #[.int .u64 0, .int .u64 0] 172))) := Tryz.bits_Mul64 x y hx hy _
 go_enter Tryz.func213, Tryz.ntmps213
 go_wp2_with fail
 refine Calls.mono MC2.out ?_
 rintro e w1 ⟨rfl, rfl⟩
 go_wp2_with fail
 exact bodyPost_ret (v := .agg #[.int .u64 (mL x y : Nat), .int .u64 (mH x y : Nat)]) (by simp [results, Tryz.results213, go_sem]) rfl ⟨rfl, rfl⟩
theorem pairPlus_calls (l h u : Nat) (w : World) :
  Calls Tryz.prog 214 #[.agg #[.int .u64 (l : Int), .int .u64 (h : Int)], .int .u64 (u : Int)] w fun e w' => e = .returned (.agg #[.int .u64 (pL l u : Nat), .int .u64 (pH l h u : Nat)]) ∧ w' = (w.alloc (.cells #[.int .u64 (l : Int), .int .u64 (h : Int)] 172)).alloc (.cells #[.int .u64 (pL l u : Nat), .int .u64 (pH l h u : Nat)] 172) := by
 have hr : ∀ w, (callFunc 225 #[.int .u64 (l : Int), .int .u64 (u : Int), .int .u64 0]).run Tryz.prog w = .ok (.value (.tuple #[.int .u64 (pL l u : Nat), .int .u64 (((l + u) / 18446744073709551616 : Nat) : Int)])) w := fun w => add64_run l u 0 (by decide) w
 have q : IntKind.u64.wrap ((h : Int) + (((l + u) / 18446744073709551616 : Nat) : Int)) = (pH l h u : Nat) := by
  rw [← Int.natCast_add, IntKind.wrap_u64]; unfold pH; omega
 generalize (l + u) / 18446744073709551616 = k at *
 go_enter Tryz.func214, Tryz.ntmps214
 go_wp2
 exact bodyPost_ret (v := .agg #[.int .u64 (pL l u : Nat), .int .u64 (pH l h u : Nat)]) (by simp [results, Tryz.results214, go_sem]) rfl ⟨rfl, rfl⟩
theorem gen_world {G : World → Prop} {W : World} (F : World → Prop) (h : F W) (k : ∀ W', F W' → G W') : G W := k W h
theorem carry_cell {W W' : World} (hb : Below W.heap.size W W') {p : Addr} {v : Value} (h : W.cell? p = some v) : W'.cell? p = some v := (hb.cell (World.block_lt_of_cell? _ _ h)).trans h
theorem carry_frozen {W W' : World} (hb : Below W.heap.size W W') {p : Addr} {v : Value} (h : W.cell? p = some v) (hf : W.frozen? p = false) : W'.frozen? p = false := (hb.frozen (World.block_lt_of_cell? _ _ h)).trans hf
structure Upd (g off n : Nat) (w w' : World) : Prop where
 grown : w.grownBy w' (some g)
 cell : ∀ o, (o < off ∨ off + n ≤ o) → w'.cell? ⟨g, o, none⟩ = w.cell? ⟨g, o, none⟩
 frozen : ∀ o, w'.frozen? ⟨g, o, none⟩ = w.frozen? ⟨g, o, none⟩
theorem Upd.refl (g off n : Nat) (w : World) : Upd g off n w w := ⟨grown_refl _ _, fun _ _ => rfl, fun _ => rfl⟩
theorem Upd.trans {g off n : Nat} {a b c : World} (h : Upd g off n a b) (k : Upd g off n b c) : Upd g off n a c := ⟨h.grown.trans k.grown, fun o ho => (k.cell o ho).trans (h.cell o ho), fun o => (k.frozen o).trans (h.frozen o)⟩
theorem Upd.below {g off n : Nat} {a b c : World} (h : Upd g off n a b) (hg : g < b.heap.size) (k : Below b.heap.size b c) : Upd g off n a c := ⟨h.grown.trans (below_grown k _), fun o ho => (k.cell (p := ⟨g, o, none⟩) hg).trans (h.cell o ho), fun o => (k.frozen (p := ⟨g, o, none⟩) hg).trans (h.frozen o)⟩
theorem Upd.set {g off n : Nat} {a b : World} (h : Upd g off n a b) {i : Nat} (hi : i < n) (v : Value) : Upd g off n a (b.setCell ⟨g, off + i, none⟩ v) :=
 ⟨h.grown.trans (set_grown _ _ _), fun o ho => (World.cell?_setCell_other b _ _ _ (fun e => by have := congrArg Addr.off e; simp at this; omega)).trans (h.cell o ho), fun o => (World.frozen?_setCell b _ _ _).trans (h.frozen o)⟩
theorem low_set (xs : List Int) (i : Nat) (v : Int) : ∀ k, k ≤ i → low (xs.set i v) k = low xs k
 | 0, _ => rfl
 | k + 1, h => by
  show low (xs.set i v) k + _ * ((xs.set i v).getD k 0).toNat = low xs k + _ * (xs.getD k 0).toNat
  rw [low_set xs i v k (by omega)]
  simp only [List.getD, List.getElem?_set, show i ≠ k by omega, if_false]
theorem addTimes_step (S0 S ys : List Int) (k d t y c lo hi : Nat) (hk : k < S.length) (ht : S0.getD k 0 = (t : Int)) (hy : ys.getD k 0 = (y : Int))
  (hv : low S k + 18446744073709551616 ^ k * c = low S0 k + d * low ys k) (hw : lo + 18446744073709551616 * hi = y * d + t + c) :
  low (S.set k (lo : Int)) (k + 1) + 18446744073709551616 ^ (k + 1) * hi = low S0 (k + 1) + d * low ys (k + 1) := by
 have e1 : low (S.set k (lo : Int)) (k + 1) = low S k + 18446744073709551616 ^ k * lo := by
  show low (S.set k (lo : Int)) k + _ * ((S.set k (lo : Int)).getD k 0).toNat = _
  rw [low_set S k _ k (Nat.le_refl _), getD_set S k k _ hk, if_pos rfl, Int.toNat_natCast]
 have e2 : low S0 (k + 1) = low S0 k + 18446744073709551616 ^ k * t := by show low S0 k + _ * (S0.getD k 0).toNat = _; rw [ht, Int.toNat_natCast]
 have e3 : low ys (k + 1) = low ys k + 18446744073709551616 ^ k * y := by show low ys k + _ * (ys.getD k 0).toNat = _; rw [hy, Int.toNat_natCast]
 have e4 := congrArg (18446744073709551616 ^ k * ·) hw
 simp only [Nat.mul_add] at e4
 have e5 : d * (18446744073709551616 ^ k * y) = 18446744073709551616 ^ k * (y * d) := by rw [Nat.mul_left_comm, Nat.mul_comm d y]
 rw [e1, e2, e3, Nat.mul_add, e5, Nat.pow_succ, Nat.mul_assoc]
 omega
theorem addTimes_calls (B g off n c m : Nat) (b : Option Addr) (S0 ys : List Int) (d : Nat) (w : World) (h : OwnW B w (some ⟨g, off, none⟩) n c S0) (hB : IsW w b n m ys) (hbg : ∀ b' o, b = some ⟨b', o, none⟩ → b' ≠ g) (hn : n ≤ 17592186044416) (hd : d < 18446744073709551616) :
  Calls Tryz.prog 193 #[.slice (some ⟨g, off, none⟩) n c, .slice b n m, .int .u64 (d : Int)] w fun e w' => ∃ (S : List Int) (cr : Nat), e = .returned (.int .u64 (cr : Int)) ∧ cr < 18446744073709551616 ∧ OwnW B w' (some ⟨g, off, none⟩) n c S ∧ val S + 18446744073709551616 ^ n * cr = val S0 + d * val ys ∧ Upd g off n w w' := by
 have HL : Hid (S0.length = n ∧ ys.length = n) := ⟨h.1.1.symm, hB.1.symm⟩
 have HU0 : Hid (AllU S0) := h.1.2.1
 have HBG : Hid (∀ b' o, b = some ⟨b', o, none⟩ → b' ≠ g) := hbg
 have HB : Hid (IsW w b n m ys) := hB
 clear hbg hB
 go_enter Tryz.func193, Tryz.ntmps193
 go_wp2_with fail
 go_loopw [7, 13] (fun vc vi wr => ∃ (k cr : Nat) (S : List Int), k ≤ n ∧ vi = .int .i64 k ∧ vc = .int .u64 (cr : Int) ∧ cr < 18446744073709551616 ∧ Hid (∀ j, k ≤ j → S.getD j 0 = S0.getD j 0) ∧ Hid (low S k + 18446744073709551616 ^ k * cr = low S0 k + d * low ys k) ∧ OwnW B wr (some ⟨g, off, none⟩) n c S ∧ Upd g off n w wr) (fun _ vi _ => n - (intOf vi).toNat)
 case atStart => exact ⟨0, 0, S0, by omega, rfl, rfl, by decide, fun _ _ => rfl, by simp [Hid, low], h, Upd.refl _ _ _ _⟩
 case round =>
  clear h
  obtain ⟨k, cr, S, hk, rfl, rfl, hcr, HS, HV, hO, hup⟩ := hrel
  have HSL : Hid (S.length = n) := hO.1.1.symm
  by_cases hlt : k < n
  ·obtain ⟨b', o', hbe, hbl, hcy⟩ := HB.out.2.2.2 k hlt
   have hbne := HBG.out b' o' hbe
   obtain ⟨y, hy, hy1⟩ := word_nat0 ys HB.out.2.1 k
   have hcy2 : wr.cell? ⟨b', o' + k, none⟩ = some (.int .u64 (y : Int)) := by
    rw [← hy]; exact hup.grown.cell hcy (fun e => hbne (by simpa using e))
   obtain ⟨t, ht, ht1⟩ := word_nat0 S0 HU0.out k
   obtain ⟨_, _, e1, hgl, hcell⟩ := hO.1.2.2.2 k hlt
   simp only [Option.some.injEq, Addr.mk.injEq, and_true] at e1
   obtain ⟨rfl, rfl⟩ := e1
   rw [HS.out k (Nat.le_refl _), ht] at hcell
   have hfz := (hO.2 _ _ k rfl hlt).2
   subst hbe
   have HMA : Hid _ := mul_add_words y d t cr hy1 hd ht1 hcr
   have HY : Hid (ys.getD k 0 = (y : Int)) := hy
   have HT : Hid (S0.getD k 0 = (t : Int)) := ht
   clear hcy hy ht
   have hgne : g ≠ wr.heap.size := Nat.ne_of_lt hgl
   go_wp2_with fail
   go_region_with (first
    | (go_at_call 213; refine (product_calls y d _ hy1 hd).mono ?_; rintro e w2 ⟨rfl, rfl⟩)
    | (go_at_call 214; refine (pairPlus_calls _ _ _ _).mono ?_; rintro e w3 ⟨rfl, rfl⟩))
   all_goals
    first
    | (refine gen_world (fun W => Below wr.heap.size wr W ∧ W.cell? ⟨wr.heap.size, 0, none⟩ = some (.int .u64 (pL (pL (mL y d) t) cr : Nat)) ∧ W.cell? ⟨wr.heap.size, 1, none⟩ = some (.int .u64 (pH (pL (mL y d) t) (pH (mL y d) (mH y d) t) cr : Nat))) (And.intro ?_ (And.intro ?_ ?_)) ?_; rotate_left; (focus (go_simp; done)); (focus (go_simp; done)); rotate_left; (focus ((repeat (first | exact Below.refl _ _ | exact (Below.refl _ _).drew | apply Below.drew | refine Below.setCell ?_ (by simp) _ | refine Below.alloc ?_ (by simp; try omega) _)); done)); rintro W5 ⟨hbE, hp0, hp1⟩; have hpb : wr.heap.size ≠ g := by omega)
    | (refine gen_world (fun W => Below wr.heap.size wr W ∧ W.cell? ⟨wr.heap.size + 1, 0, none⟩ = some (.int .u64 (pL (pL (mL y d) t) cr : Nat)) ∧ W.cell? ⟨wr.heap.size + 1, 1, none⟩ = some (.int .u64 (pH (pL (mL y d) t) (pH (mL y d) (mH y d) t) cr : Nat))) (And.intro ?_ (And.intro ?_ ?_)) ?_; rotate_left; (focus (go_simp; done)); (focus (go_simp; done)); rotate_left; (focus ((repeat (first | exact Below.refl _ _ | exact (Below.refl _ _).drew | apply Below.drew | refine Below.setCell ?_ (by simp) _ | refine Below.alloc ?_ (by simp; try omega) _)); done)); rintro W5 ⟨hbE, hp0, hp1⟩; have hpb : wr.heap.size + 1 ≠ g := by omega)
    | (refine gen_world (fun W => Below wr.heap.size wr W ∧ W.cell? ⟨wr.heap.size + 1 + 1 + 1, 0, none⟩ = some (.int .u64 (pL (pL (mL y d) t) cr : Nat)) ∧ W.cell? ⟨wr.heap.size + 1 + 1 + 1, 1, none⟩ = some (.int .u64 (pH (pL (mL y d) t) (pH (mL y d) (mH y d) t) cr : Nat))) (And.intro ?_ (And.intro ?_ ?_)) ?_; rotate_left; (focus (go_simp; done)); (focus (go_simp; done)); rotate_left; (focus ((repeat (first | exact Below.refl _ _ | exact (Below.refl _ _).drew | apply Below.drew | refine Below.setCell ?_ (by simp) _ | refine Below.alloc ?_ (by simp; try omega) _)); done)); rintro W5 ⟨hbE, hp0, hp1⟩; have hpb : wr.heap.size + 1 + 1 + 1 ≠ g := by omega)
    | (refine gen_world (fun W => Below wr.heap.size wr W ∧ W.cell? ⟨wr.heap.size + 1 + 1 + 1 + 1 + 1, 0, none⟩ = some (.int .u64 (pL (pL (mL y d) t) cr : Nat)) ∧ W.cell? ⟨wr.heap.size + 1 + 1 + 1 + 1 + 1, 1, none⟩ = some (.int .u64 (pH (pL (mL y d) t) (pH (mL y d) (mH y d) t) cr : Nat))) (And.intro ?_ (And.intro ?_ ?_)) ?_; rotate_left; (focus (go_simp; done)); (focus (go_simp; done)); rotate_left; (focus ((repeat (first | exact Below.refl _ _ | exact (Below.refl _ _).drew | apply Below.drew | refine Below.setCell ?_ (by simp) _ | refine Below.alloc ?_ (by simp; try omega) _)); done)); rintro W5 ⟨hbE, hp0, hp1⟩; have hpb : wr.heap.size + 1 + 1 + 1 + 1 + 1 ≠ g := by omega)
   all_goals
    have hcE := carry_cell hbE hcell
    have hfE := carry_frozen hbE hcell hfz
    have hlo := pL_lt (pL (mL y d) t) cr
    have hhi := pH_lt (pL (mL y d) t) (pH (mL y d) (mH y d) t) cr
    generalize pL (pL (mL y d) t) cr = lo at *
    generalize pH (pL (mL y d) t) (pH (mL y d) (mH y d) t) cr = hi at *
    go_wp2_with fail
    go_region
   all_goals
    have hO6 := (hO.keep hbE.drew).set (i := k) hlt (v := (lo : Int)) (by omega) (by omega)
    have hup6 := (hup.below hgl hbE.drew).set hlt (.int .u64 (lo : Int))
    go_wp2_with fail
    refine ⟨⟨k + 1, hi, S.set k (lo : Int), by omega, by go_num, rfl, hhi, ?_, ?_, hO6, hup6⟩, by simp [intOf]; omega⟩
    ·intro j hj
     have := HSL.out
     rw [getD_set _ _ _ _ (by omega), if_neg (by omega)]; exact HS.out j (by omega)
    ·have := HSL.out
     exact addTimes_step S0 S ys k d t y cr lo hi (by omega) HT.out HY.out HV.out HMA.out
  ·have HE : Hid (val S + 18446744073709551616 ^ n * cr = val S0 + d * val ys) := by
    have e := HV.out
    have h1 := HL.out; have h2 := HSL.out
    obtain rfl : k = n := by omega
    rw [low_all S k (by omega), low_all S0 k (by omega), low_all ys k (by omega)] at e
    exact e
   go_wp2_with fail
   go_ret
   exact ⟨S, cr, rfl, hcr, hO, HE.out, hup⟩
set_option maxHeartbeats 4000000
set_option maxRecDepth 100000
def spliceW (M : List Int) (i : Nat) (S : List Int) : List Int := M.take i ++ S ++ M.drop (i + S.length)
theorem splice_len (M : List Int) (i : Nat) (S : List Int) (h : i + S.length ≤ M.length) : (spliceW M i S).length = M.length := by
 unfold spliceW; simp only [List.length_append, List.length_take, List.length_drop]; omega
theorem splice_get (M : List Int) (i : Nat) (S : List Int) (h : i + S.length ≤ M.length) (j : Nat) : (spliceW M i S).getD j 0 = if j < i then M.getD j 0 else if j < i + S.length then S.getD (j - i) 0 else M.getD j 0 := by
 unfold spliceW
 simp only [List.getD, List.getElem?_append, List.length_append, List.length_take, List.getElem?_take, List.getElem?_drop]
 by_cases h1 : j < i
 ·simp [h1, show j < min i M.length + S.length by omega, show j < min i M.length by omega]
 ·by_cases h2 : j < i + S.length
  ·simp [h1, h2, show min i M.length = i by omega]
  ·simp [h1, h2, show min i M.length = i by omega, show i + S.length + (j - (i + S.length)) = j by omega]
theorem splice_U {M S : List Int} (hM : AllU M) (hS : AllU S) (i : Nat) : AllU (spliceW M i S) := fun x hx => by
 unfold spliceW at hx
 rcases List.mem_append.1 hx with h | h
 ·rcases List.mem_append.1 h with h | h
  ·exact hM x (List.mem_of_mem_take h)
  ·exact hS x h
 ·exact hM x (List.mem_of_mem_drop h)
theorem splice_val (M : List Int) (i : Nat) (S : List Int) (h : i + S.length ≤ M.length) : val (spliceW M i S) + 18446744073709551616 ^ i * val ((M.drop i).take S.length) = val M + 18446744073709551616 ^ i * val S := by
 have e1 : M = M.take i ++ ((M.drop i).take S.length ++ M.drop (i + S.length)) := by
  rw [← List.drop_drop, List.take_append_drop, List.take_append_drop]
 have e2 : val M = val (M.take i) + 18446744073709551616 ^ i * (val ((M.drop i).take S.length) + 18446744073709551616 ^ S.length * val (M.drop (i + S.length))) := by
  conv => lhs; rw [e1]
  rw [val_append, val_append, List.length_take, List.length_take, List.length_drop, show min i M.length = i by omega, show min S.length (M.length - i) = S.length by omega]
 have e3 : val (spliceW M i S) = val (M.take i) + 18446744073709551616 ^ i * (val S + 18446744073709551616 ^ S.length * val (M.drop (i + S.length))) := by
  unfold spliceW
  rw [List.append_assoc, val_append, val_append, List.length_take, show min i M.length = i by omega]
 rw [e2, e3, Nat.mul_add, Nat.mul_add]
 omega
theorem own_part {B g : Nat} {w : World} {N c : Nat} {M : List Int} (h : OwnW B w (some ⟨g, 0, none⟩) N c M) (i n c' : Nat) (hi : i + n ≤ N) (hc : n ≤ c') : OwnW B w (some ⟨g, i, none⟩) n c' ((M.drop i).take n) := by
 have hN := h.1.1
 refine ⟨⟨by rw [List.length_take, List.length_drop]; omega, (h.1.2.1.drop i).take n, ⟨hc, fun e => by cases e⟩, fun j hj => ?_⟩, fun b off j e hj => ?_⟩
 ·obtain ⟨b, off, e1, e2, e3⟩ := h.1.2.2.2 (i + j) (by omega)
  simp only [Option.some.injEq, Addr.mk.injEq, and_true] at e1
  obtain ⟨rfl, rfl⟩ := e1
  refine ⟨g, i, rfl, e2, ?_⟩
  rw [Nat.zero_add] at e3
  rw [e3]
  simp only [List.getD, List.getElem?_take, hj, if_true, List.getElem?_drop]
 ·simp only [Option.some.injEq, Addr.mk.injEq, and_true] at e
  obtain ⟨rfl, rfl⟩ := e
  have := h.2 g 0 (i + j) rfl (by omega)
  rw [Nat.zero_add] at this; exact this
theorem own_join {B g : Nat} {w w' : World} {N c : Nat} {M : List Int} (h : OwnW B w (some ⟨g, 0, none⟩) N c M) (i n c' : Nat) (S : List Int) (hi : i + n ≤ N) (hS : OwnW B w' (some ⟨g, i, none⟩) n c' S) (hup : Upd g i n w w') : OwnW B w' (some ⟨g, 0, none⟩) N c (spliceW M i S) := by
 have hN := h.1.1
 have hn := hS.1.1
 refine ⟨⟨by rw [splice_len M i S (by omega)]; exact hN, splice_U h.1.2.1 hS.1.2.1 i, h.1.2.2.1, fun j hj => ?_⟩, fun b off j e hj => ?_⟩
 ·obtain ⟨b, off, e1, e2, e3⟩ := h.1.2.2.2 j hj
  simp only [Option.some.injEq, Addr.mk.injEq, and_true] at e1
  obtain ⟨rfl, rfl⟩ := e1
  refine ⟨g, 0, rfl, Nat.lt_of_lt_of_le e2 hup.grown.size, ?_⟩
  rw [splice_get M i S (by omega), Nat.zero_add]
  rw [Nat.zero_add] at e3
  by_cases h1 : j < i
  ·rw [if_pos h1, hup.cell j (Or.inl h1)]; exact e3
  ·rw [if_neg h1]
   by_cases h2 : j < i + S.length
   ·rw [if_pos h2]
    obtain ⟨b', off', f1, _, f3⟩ := hS.1.2.2.2 (j - i) (by omega)
    simp only [Option.some.injEq, Addr.mk.injEq, and_true] at f1
    obtain ⟨rfl, rfl⟩ := f1
    rw [show i + (j - i) = j by omega] at f3
    exact f3
   ·rw [if_neg h2, hup.cell j (Or.inr (by omega))]; exact e3
 ·simp only [Option.some.injEq, Addr.mk.injEq, and_true] at e
  obtain ⟨rfl, rfl⟩ := e
  have := h.2 g 0 j rfl hj
  exact ⟨this.1, (hup.frozen (0 + j)).trans this.2⟩
theorem times_step (xs M S : List Int) (Y i lb x cr : Nat) (hl : i + lb < M.length) (hS : S.length = lb) (hx : xs.getD i 0 = (x : Int)) (hz : M.getD (i + lb) 0 = 0)
  (hv : val M = low xs i * Y) (hs : val S + 18446744073709551616 ^ lb * cr = val ((M.drop i).take lb) + x * Y) : val ((spliceW M i S).set (i + lb) (cr : Int)) = low xs (i + 1) * Y := by
 have e1 := splice_val M i S (by omega)
 have e2 := val_set (spliceW M i S) (i + lb) (cr : Int) (by rw [splice_len M i S (by omega)]; exact hl)
 rw [splice_get M i S (by omega), if_neg (by omega), if_neg (by omega), hz, Int.toNat_natCast, Int.toNat_zero, Nat.mul_zero, Nat.add_zero, Nat.pow_add] at e2
 have e3 : low xs (i + 1) = low xs i + 18446744073709551616 ^ i * x := by show low xs i + _ * (xs.getD i 0).toNat = _; rw [hx, Int.toNat_natCast]
 have e4 := congrArg (18446744073709551616 ^ i * ·) hs
 simp only [Nat.mul_add] at e4
 rw [hS] at e1
 rw [e2, e3, Nat.add_mul, ← hv, Nat.mul_assoc, Nat.mul_assoc]
 omega
theorem times_calls (a b : Option Addr) (n m : Nat) (xs ys : List Int) (w : World) (hA : IsW w a n n xs) (hB : IsW w b m m ys) (hn : n ≤ 4096) (hm : m ≤ 4096) :
  Calls Tryz.prog 161 #[.slice a n n, .slice b m m] w fun e w' => ∃ (ao : Option Addr) (k : Nat) (M : List Int), e = .returned (.slice ao k k) ∧ OwnW w.heap.size w' ao k k M ∧ val M = val xs * val ys ∧ k ≤ n + m ∧ Below w.heap.size w w' := by
 have HX : Hid (xs.length = n) := hA.1.symm
 have HY : Hid (ys.length = m) := hB.1.symm
 by_cases h0 : n = 0
 ·subst h0
  have HV : Hid (val xs = 0) := by rw [Hid, List.length_eq_zero_iff.1 HX.out]; rfl
  clear hA hB
  go_enter Tryz.func161, Tryz.ntmps161
  go_wp2_with fail
  go_ret
  exact ⟨none, 0, [], rfl, ownW_nil _ _, by rw [HV.out, Nat.zero_mul]; rfl, by omega, Below.refl _ _⟩
 ·by_cases h1 : m = 0
  ·subst h1
   have HV : Hid (val ys = 0) := by rw [Hid, List.length_eq_zero_iff.1 HY.out]; rfl
   have d0 : ((n : Int) == 0) = false := by simp; omega
   clear hA hB h0
   go_enter Tryz.func161, Tryz.ntmps161
   go_wp2_with fail
   go_ret
   exact ⟨none, 0, [], rfl, ownW_nil _ _, by rw [HV.out, Nat.mul_zero]; rfl, by omega, Below.refl _ _⟩
  ·have d0 : ((n : Int) == 0) = false := by simp; omega
   have d1 : ((m : Int) == 0) = false := by simp; omega
   obtain ⟨w1, hmk, hO1, hb1, hz1⟩ := make_words 136 words_T w (n + m) (by omega)
   rw [show ((n + m : Nat) : Int) = (n : Int) + m by omega] at hmk
   go_enter Tryz.func161, Tryz.ntmps161
   go_wp2_with fail
   clear hmk
   go_loopw [24] (fun vi wr => ∃ (i : Nat) (M : List Int), i ≤ n ∧ vi = .int .i64 i ∧ Hid (∀ j, i + m ≤ j → M.getD j 0 = 0) ∧ Hid (val M = low xs i * val ys) ∧ OwnW w.heap.size wr (some ⟨w.heap.size, 0, none⟩) (n + m) (n + m) M ∧ Below w.heap.size w wr) (fun vi _ => n - (intOf vi).toNat)
   case atStart => exact ⟨0, zeros (n + m), by omega, rfl, fun j _ => zeros_get _ j, by rw [Hid, val_zeros]; simp [low], hO1, hb1⟩
   case round =>
    clear hO1 hb1
    obtain ⟨i, M, hi, rfl, HZ, HV, hO, hbr⟩ := hrel
    have HML : Hid (n + m = M.length) := hO.1.1
    by_cases hlt : i < n
    ·obtain ⟨ba, oa, hae, hal, hac⟩ := hA.2.2.2 i hlt
     obtain ⟨x, hx, hx1⟩ := word_nat0 xs hA.2.1 i
     have hac2 : wr.cell? ⟨ba, oa + i, none⟩ = some (.int .u64 (x : Int)) := by rw [← hx]; exact (hbr.cell (p := ⟨ba, oa + i, none⟩) hal).trans hac
     have HXX : Hid (xs.getD i 0 = (x : Int)) := hx
     subst hae
     have hP := own_part hO i m (n + m - i) (by omega) (by omega)
     have AC : Hid _ := addTimes_calls w.heap.size w.heap.size i m (n + m - i) m b _ ys x wr hP (hB.keep hbr) (fun b' o e => by
      obtain ⟨b2, o2, e2, hl2, _⟩ := hB.2.2.2 0 (by omega)
      rw [e2] at e
      simp only [Option.some.injEq, Addr.mk.injEq, and_true] at e
      omega) (by omega) hx1
     have hup1 : i + m < n + m := by omega
     clear hx hac hP
     go_wp2_with fail
     refine cM AC.out ?_
     rintro e w2 ⟨S, cr, rfl, hcr, hS, hsv, hup⟩
     have HSV : Hid _ := hsv
     have HSL : Hid (S.length = m) := hS.1.1.symm
     have hO2 := own_join hO i m (n + m - i) S (by omega) hS hup
     have hb2 : Below w.heap.size w w2 := hbr.grown hup.grown hbr.size (fun k e => by simp at e; omega)
     obtain ⟨_, _, e1, _, hcell⟩ := hO2.1.2.2.2 (i + m) (by omega)
     simp only [Option.some.injEq, Addr.mk.injEq, and_true] at e1
     obtain ⟨rfl, rfl⟩ := e1
     have hfz := (hO2.2 _ _ (i + m) rfl (by omega)).2
     rw [Nat.zero_add] at hcell hfz
     generalize (spliceW M i S).getD (i + m) 0 = oldw at hcell
     have hO3 := hO2.set (i := i + m) (by omega) (v := (cr : Int)) (by omega) (by omega)
     rw [Nat.zero_add] at hO3
     have HO3 : Hid _ := hO3
     clear hsv hS hup hO2 hO hbr AC hO3 hac2
     go_wp2_with fail
     have hML := HML.out
     have hSL := HSL.out
     refine ⟨⟨i + 1, (spliceW M i S).set (i + m) (cr : Int), by omega, by go_num, ?_, ?_, HO3.out, hb2.setCell (Nat.le_refl _) _⟩, by simp [intOf]; omega⟩
     ·intro j hj
      rw [getD_set _ _ _ _ (by rw [splice_len M i S (by omega)]; omega), if_neg (by omega), splice_get M i S (by omega), if_neg (by omega), if_neg (by omega)]
      exact HZ.out j (by omega)
     ·exact times_step xs M S (val ys) i m x cr (by omega) hSL HXX.out (HZ.out _ (by omega)) HV.out HSV.out
    ·have HE : Hid (low xs i = val xs) := low_all xs i (by have := HX.out; omega)
     go_wp2_with fail
     go_ret
     exact ⟨_, _, M, rfl, hO, by rw [HV.out, HE.out], by omega, hbr⟩
def mulR (u v : Nat) : Nat × Int := if (greatB u || greatB v) = true then (0, 3) else fitR (u * v)
theorem mulR_yes {u v : Nat} (h : (greatB u || greatB v) = true) : mulR u v = (0, 3) := by unfold mulR; rw [if_pos h]
theorem mulR_no {u v : Nat} (h : (greatB u || greatB v) = false) : mulR u v = fitR (u * v) := by unfold mulR; rw [if_neg (by rw [h]; decide)]
theorem mul_words_ge (u v n m : Nat) (hu : n = (wO u).length) (hv : m = (wO v).length) (h : 1024 < n + m - 1) (hn : n ≤ 1024) (hm : m ≤ 1024) : greatB (u * v) = true := by
 have a1 : ¬ u < 18446744073709551616 ^ (n - 1) := fun q => by have := (words_len (n - 1) u).2 q; omega
 have a2 : ¬ v < 18446744073709551616 ^ (m - 1) := fun q => by have := (words_len (m - 1) v).2 q; omega
 have h3 : 18446744073709551616 ^ (n - 1) * 18446744073709551616 ^ (m - 1) ≤ u * v := Nat.mul_le_mul (by omega) (by omega)
 rw [← Nat.pow_add] at h3
 unfold greatB
 rw [decide_eq_true_iff]
 rcases Nat.lt_or_ge 1024 (wO (u * v)).length with q | q
 ·exact q
 ·have h4 := (words_len _ (u * v)).1 (Nat.le_refl _)
  have h5 : 18446744073709551616 ^ (wO (u * v)).length ≤ 18446744073709551616 ^ (n - 1 + (m - 1)) := Nat.pow_le_pow_right (by decide) (by omega)
  generalize 18446744073709551616 ^ (wO (u * v)).length = P at *
  generalize 18446744073709551616 ^ (n - 1 + (m - 1)) = Q at *
  omega
theorem mul_calls (a a' : Option Addr) (len cap len' cap' : Nat) (xs ys : List Int) (w : World) (h : IsW w a len cap xs) (h' : IsW w a' len' cap' ys) (hm : len ≤ 17592186044416) (hm' : len' ≤ 17592186044416) :
  Calls Tryz.prog 132 #[.slice a len cap, .slice a' len' cap'] w fun e w' => ∃ v, e = .returned (.tuple #[v, .int .i64 (mulR (val xs) (val ys)).2]) ∧ NatAt w.heap.size w' v (mulR (val xs) (val ys)).1 ∧ Below w.heap.size w w' := by
 have HT := trimN_pack a len cap xs w h hm
 have HT' := trimN_pack a' len' cap' ys w h' hm'
 go_enter Tryz.func132, Tryz.ntmps132
 go_wp2_with fail
 refine cM HT ?_
 rintro e w ⟨a1, n, rfl, hn, hI, rfl⟩
 have HN : Hid (n = (wO (val xs)).length) := hn
 clear hn HT h hm
 go_wp2_with fail
 refine cM HT' ?_
 rintro e w ⟨a2, n', rfl, hn', hI', rfl⟩
 have HN' : Hid (n' = (wO (val ys)).length) := hn'
 clear hn' HT' h' hm'
 go_wp2_with fail
 refine cM (great2_calls _ a1 a2 n n n' n' _ (by go_simp) (by go_simp)) ?_
 rintro e w1 ⟨rfl, rfl⟩
 cases hd : (decide (1024 < n) || decide (1024 < n')) with
 | true =>
  have e0 : Hid ((greatB (val xs) || greatB (val ys)) = true) := by
   rw [Hid, greatB, greatB, ← HN.out, ← HN'.out]; exact hd
  clear hd
  go_wp2_with fail
  go_ret2
  rw [mulR_yes e0.out]
  exact ⟨_, rfl, natAt_nil _ _, below_one _ _⟩
 | false =>
  have e0 : Hid ((greatB (val xs) || greatB (val ys)) = false) := by
   rw [Hid, greatB, greatB, ← HN.out, ← HN'.out]; exact hd
  have hle : n ≤ 1024 ∧ n' ≤ 1024 := by simpa using hd
  clear hd
  by_cases hc : 1024 < (n : Int) + n' - 1
  ·have e1 : Hid (mulR (val xs) (val ys) = (0, 3)) := by
    rw [Hid, mulR_no e0.out, fitR_yes (mul_words_ge _ _ n n' HN.out HN'.out (by omega) hle.1 hle.2)]
   go_wp2_with fail
   go_ret2
   rw [e1.out]
   exact ⟨_, rfl, natAt_nil _ _, below_one _ _⟩
  ·go_wp2_with fail
   refine cM (times_calls a1 a2 n n' _ _ _ (hI.keep (below_one _ _)) (hI'.keep (below_one _ _)) (by omega) (by omega)) ?_
   rintro e w2 ⟨ao, k, M, rfl, hO, hv, hk, hb2⟩
   rw [val_words, val_words] at hv
   have HV : Hid (val M = val xs * val ys) := hv
   have hk2 : k ≤ 2048 := by omega
   clear hv hk
   go_wp2_with fail
   refine cM (answer_calls _ ao k k M _ hO (by omega)) ?_
   rintro e w3 ⟨v, rfl, hA, hb3⟩
   rw [HV.out, ← mulR_no e0.out] at hA ⊢
   go_wp2_with fail
   go_ret2
   exact ⟨v, rfl, hA.low (by simp), nT (nT (below_one _ _) hb2) hb3⟩
end Go.Proofs.YtahpdcbmekgkfaaGreatDoor

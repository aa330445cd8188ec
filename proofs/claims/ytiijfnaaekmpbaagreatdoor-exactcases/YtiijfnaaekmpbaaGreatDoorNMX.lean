/- The walks of products of two words, and of a row times a word added in place. The walks of products of naturals. The walks of the document's products. The walk of the document's Mul. -/
import Derived.Test.YtiijfnaaekmpbaaGreatDoorTMB
import Derived.Test.YtiijfnaaekmpbaaGreatDoorTMI
import Derived.BigRegion
import Derived.Test.YtiijfnaaekmpbaaGreatDoorTMH
import Derived.Deep.LoopGhost
import Derived.Test.YtiijfnaaekmpbaaGreatDoorALX

namespace Go.Proofs.YtiijfnaaekmpbaaGreatDoor
open Go.RowKit
set_option maxHeartbeats 8000000
set_option maxRecDepth 100000
def mL (x y : Nat) : Nat := x * y % 18446744073709551616
def mH (x y : Nat) : Nat := x * y / 18446744073709551616
def pL (l u : Nat) : Nat := (l + u) % 18446744073709551616
def pH (l h u : Nat) : Nat := (h + (l + u) / 18446744073709551616) % 18446744073709551616
theorem mH_lt (x y : Nat) (hx : x < 18446744073709551616) (hy : y < 18446744073709551616) : mH x y < 18446744073709551616 := by
 unfold mH
 rw [Nat.div_lt_iff_lt_mul (by decide)]
 rcases Nat.eq_zero_or_pos x with h | h
 ·subst h; simp
 ·exact Nat.mul_lt_mul_of_lt_of_lt hx hy
theorem mul_add_words (x y t c : Nat) (hx : x < 18446744073709551616) (hy : y < 18446744073709551616) (ht : t < 18446744073709551616) (hc : c < 18446744073709551616) :
  pL (pL (mL x y) t) c + 18446744073709551616 * pH (pL (mL x y) t) (pH (mL x y) (mH x y) t) c = x * y + t + c := by
 have h1 : x * y ≤ 18446744073709551615 * 18446744073709551615 := Nat.mul_le_mul (by omega) (by omega)
 unfold pL pH mL mH
 generalize x * y = p at *
 omega
theorem pL_lt (l u : Nat) : pL l u < 18446744073709551616 := Nat.mod_lt _ (by decide)
theorem pH_lt (l h u : Nat) : pH l h u < 18446744073709551616 := Nat.mod_lt _ (by decide)
theorem product_calls (x y : Nat) (w : World) (hx : x < 18446744073709551616) (hy : y < 18446744073709551616) :
  Calls Tryz.prog 173 #[.int .u64 (x : Int), .int .u64 (y : Int)] w fun e w' => e = .returned (.agg #[.int .u64 (mL x y : Nat), .int .u64 (mH x y : Nat)]) ∧ w' = w.alloc (.cells #[.int .u64 (mL x y : Nat), .int .u64 (mH x y : Nat)] 165) := by
 have MC2 : Hid (Calls Tryz.prog 179 #[.int .u64 x, .int .u64 y] (w.alloc (.cells #[.int .u64 0, .int .u64 0] 165)) fun e w' => e = .returned (.tuple #[.int .u64 (mH x y : Nat), .int .u64 (mL x y : Nat)]) ∧ w' = (w.alloc (.cells #[.int .u64 0, .int .u64 0] 165))) := Tryz.bits_Mul64 x y hx hy _
 go_enter Tryz.func173, Tryz.ntmps173
 go_wp2_with fail
 refine Calls.mono MC2.out ?_
 rintro e w1 ⟨rfl, rfl⟩
 go_wp2_with fail
 exact bodyPost_ret (v := .agg #[.int .u64 (mL x y : Nat), .int .u64 (mH x y : Nat)]) (by simp [results, Tryz.results173, go_sem]) rfl ⟨rfl, rfl⟩
theorem pairPlus_calls (l h u : Nat) (w : World) :
  Calls Tryz.prog 174 #[.agg #[.int .u64 (l : Int), .int .u64 (h : Int)], .int .u64 (u : Int)] w fun e w' => e = .returned (.agg #[.int .u64 (pL l u : Nat), .int .u64 (pH l h u : Nat)]) ∧ w' = (w.alloc (.cells #[.int .u64 (l : Int), .int .u64 (h : Int)] 165)).alloc (.cells #[.int .u64 (pL l u : Nat), .int .u64 (pH l h u : Nat)] 165) := by
 have hr : ∀ w, (callFunc 180 #[.int .u64 (l : Int), .int .u64 (u : Int), .int .u64 0]).run Tryz.prog w = .ok (.value (.tuple #[.int .u64 (pL l u : Nat), .int .u64 (((l + u) / 18446744073709551616 : Nat) : Int)])) w := fun w => add64_run l u 0 (by decide) w
 have q : IntKind.u64.wrap ((h : Int) + (((l + u) / 18446744073709551616 : Nat) : Int)) = (pH l h u : Nat) := by
  rw [← Int.natCast_add, IntKind.wrap_u64]; unfold pH; omega
 generalize (l + u) / 18446744073709551616 = k at *
 go_enter Tryz.func174, Tryz.ntmps174
 go_wp2
 exact bodyPost_ret (v := .agg #[.int .u64 (pL l u : Nat), .int .u64 (pH l h u : Nat)]) (by simp [results, Tryz.results174, go_sem]) rfl ⟨rfl, rfl⟩
theorem gen_world {G : World → Prop} {W : World} (F : World → Prop) (h : F W) (k : ∀ W', F W' → G W') : G W := k W h
theorem carry_cell {W W' : World} (hb : Below W.heap.size W W') {p : Addr} {v : Value} (h : W.cell? p = some v) : W'.cell? p = some v := (hb.cell (World.block_lt_of_cell? _ _ h)).trans h
theorem carry_frozen {W W' : World} (hb : Below W.heap.size W W') {p : Addr} {v : Value} (h : W.cell? p = some v) (hf : W.frozen? p = false) : W'.frozen? p = false := (hb.frozen (World.block_lt_of_cell? _ _ h)).trans hf
structure Upd (g off n : Nat) (w w' : World) : Prop where
 grown : w.grownBy w' (some g)
 cell : ∀ o, (o < off ∨ off + n ≤ o) → w'.cell? ⟨g, o, none⟩ = w.cell? ⟨g, o, none⟩
 frozen : ∀ o, w'.frozen? ⟨g, o, none⟩ = w.frozen? ⟨g, o, none⟩
theorem Upd.refl (g off n : Nat) (w : World) : Upd g off n w w := ⟨grown_refl _ _, fun _ _ => rfl, fun _ => rfl⟩
theorem Upd.trans {g off n : Nat} {a b c : World} (h : Upd g off n a b) (k : Upd g off n b c) : Upd g off n a c := ⟨h.grown.trans k.grown, fun o ho => (k.cell o ho).trans (h.cell o ho), fun o => (k.frozen o).trans (h.frozen o)⟩
theorem Upd.below {g off n : Nat} {a b c : World} (h : Upd g off n a b) (hg : g < b.heap.size) (k : Below b.heap.size b c) : Upd g off n a c := ⟨h.grown.trans (below_grown k _), fun o ho => (k.cell (p := ⟨g, o, none⟩) hg).trans (h.cell o ho), fun o => (k.frozen (p := ⟨g, o, none⟩) hg).trans (h.frozen o)⟩
theorem Upd.set {g off n : Nat} {a b : World} (h : Upd g off n a b) {i : Nat} (hi : i < n) (v : Value) : Upd g off n a (b.setCell ⟨g, off + i, none⟩ v) :=
 ⟨h.grown.trans (set_grown _ _ _), fun o ho => (World.cell?_setCell_other b _ _ _ (fun e => by have := congrArg Addr.off e; simp at this; omega)).trans (h.cell o ho), fun o => (World.frozen?_setCell b _ _ _).trans (h.frozen o)⟩
theorem low_set (xs : List Int) (i : Nat) (v : Int) : ∀ k, k ≤ i → low (xs.set i v) k = low xs k
 | 0, _ => rfl
 | k + 1, h => by
  show low (xs.set i v) k + _ * ((xs.set i v).getD k 0).toNat = low xs k + _ * (xs.getD k 0).toNat
  rw [low_set xs i v k (by omega)]
  simp only [List.getD, List.getElem?_set, show i ≠ k by omega, if_false]
theorem addTimes_step (S0 S ys : List Int) (k d t y c lo hi : Nat) (hk : k < S.length) (ht : S0.getD k 0 = (t : Int)) (hy : ys.getD k 0 = (y : Int))
  (hv : low S k + 18446744073709551616 ^ k * c = low S0 k + d * low ys k) (hw : lo + 18446744073709551616 * hi = y * d + t + c) :
  low (S.set k (lo : Int)) (k + 1) + 18446744073709551616 ^ (k + 1) * hi = low S0 (k + 1) + d * low ys (k + 1) := by
 have e1 : low (S.set k (lo : Int)) (k + 1) = low S k + 18446744073709551616 ^ k * lo := by
  show low (S.set k (lo : Int)) k + _ * ((S.set k (lo : Int)).getD k 0).toNat = _
  rw [low_set S k _ k (Nat.le_refl _), getD_set S k k _ hk, if_pos rfl, Int.toNat_natCast]
 have e2 : low S0 (k + 1) = low S0 k + 18446744073709551616 ^ k * t := by show low S0 k + _ * (S0.getD k 0).toNat = _; rw [ht, Int.toNat_natCast]
 have e3 : low ys (k + 1) = low ys k + 18446744073709551616 ^ k * y := by show low ys k + _ * (ys.getD k 0).toNat = _; rw [hy, Int.toNat_natCast]
 have e4 := congrArg (18446744073709551616 ^ k * ·) hw
 simp only [Nat.mul_add] at e4
 have e5 : d * (18446744073709551616 ^ k * y) = 18446744073709551616 ^ k * (y * d) := by rw [Nat.mul_left_comm, Nat.mul_comm d y]
 rw [e1, e2, e3, Nat.mul_add, e5, Nat.pow_succ, Nat.mul_assoc]
 omega
theorem addTimes_calls (B g off n c m : Nat) (b : Option Addr) (S0 ys : List Int) (d : Nat) (w : World) (h : OwnW B w (some ⟨g, off, none⟩) n c S0) (hB : IsW w b n m ys) (hbg : ∀ b' o, b = some ⟨b', o, none⟩ → b' ≠ g) (hn : n ≤ 17592186044416) (hd : d < 18446744073709551616) :
  Calls Tryz.prog 167 #[.slice (some ⟨g, off, none⟩) n c, .slice b n m, .int .u64 (d : Int)] w fun e w' => ∃ (S : List Int) (cr : Nat), e = .returned (.int .u64 (cr : Int)) ∧ cr < 18446744073709551616 ∧ OwnW B w' (some ⟨g, off, none⟩) n c S ∧ val S + 18446744073709551616 ^ n * cr = val S0 + d * val ys ∧ Upd g off n w w' := by
 have HL : Hid (S0.length = n ∧ ys.length = n) := ⟨h.1.1.symm, hB.1.symm⟩
 have HU0 : Hid (AllU S0) := h.1.2.1
 have HBG : Hid (∀ b' o, b = some ⟨b', o, none⟩ → b' ≠ g) := hbg
 have HB : Hid (IsW w b n m ys) := hB
 clear hbg hB
 go_enter Tryz.func167, Tryz.ntmps167
 go_wp2_with fail
 go_loopw [7, 13] (fun vc vi wr => ∃ (k cr : Nat) (S : List Int), k ≤ n ∧ vi = .int .i64 k ∧ vc = .int .u64 (cr : Int) ∧ cr < 18446744073709551616 ∧ Hid (∀ j, k ≤ j → S.getD j 0 = S0.getD j 0) ∧ Hid (low S k + 18446744073709551616 ^ k * cr = low S0 k + d * low ys k) ∧ OwnW B wr (some ⟨g, off, none⟩) n c S ∧ Upd g off n w wr) (fun _ vi _ => n - (intOf vi).toNat)
 case atStart => exact ⟨0, 0, S0, by omega, rfl, rfl, by decide, fun _ _ => rfl, by simp [Hid, low], h, Upd.refl _ _ _ _⟩
 case round =>
  clear h
  obtain ⟨k, cr, S, hk, rfl, rfl, hcr, HS, HV, hO, hup⟩ := hrel
  have HSL : Hid (S.length = n) := hO.1.1.symm
  by_cases hlt : k < n
  ·obtain ⟨b', o', hbe, hbl, hcy⟩ := HB.out.2.2.2 k hlt
   have hbne := HBG.out b' o' hbe
   obtain ⟨y, hy, hy1⟩ := word_nat0 ys HB.out.2.1 k
   have hcy2 : wr.cell? ⟨b', o' + k, none⟩ = some (.int .u64 (y : Int)) := by
    rw [← hy]; exact hup.grown.cell hcy (fun e => hbne (by simpa using e))
   obtain ⟨t, ht, ht1⟩ := word_nat0 S0 HU0.out k
   obtain ⟨_, _, e1, hgl, hcell⟩ := hO.1.2.2.2 k hlt
   simp only [Option.some.injEq, Addr.mk.injEq, and_true] at e1
   obtain ⟨rfl, rfl⟩ := e1
   rw [HS.out k (Nat.le_refl _), ht] at hcell
   have hfz := (hO.2 _ _ k rfl hlt).2
   subst hbe
   have HMA : Hid _ := mul_add_words y d t cr hy1 hd ht1 hcr
   have HY : Hid (ys.getD k 0 = (y : Int)) := hy
   have HT : Hid (S0.getD k 0 = (t : Int)) := ht
   clear hcy hy ht
   have hgne : g ≠ wr.heap.size := Nat.ne_of_lt hgl
   go_wp2_with fail
   go_region_with (first
    | (go_at_call 173; refine (product_calls y d _ hy1 hd).mono ?_; rintro e w2 ⟨rfl, rfl⟩)
    | (go_at_call 174; refine (pairPlus_calls _ _ _ _).mono ?_; rintro e w3 ⟨rfl, rfl⟩))
   all_goals
    first
    | (refine gen_world (fun W => Below wr.heap.size wr W ∧ W.cell? ⟨wr.heap.size, 0, none⟩ = some (.int .u64 (pL (pL (mL y d) t) cr : Nat)) ∧ W.cell? ⟨wr.heap.size, 1, none⟩ = some (.int .u64 (pH (pL (mL y d) t) (pH (mL y d) (mH y d) t) cr : Nat))) (And.intro ?_ (And.intro ?_ ?_)) ?_; rotate_left; (focus (go_simp; done)); (focus (go_simp; done)); rotate_left; (focus ((repeat (first | exact Below.refl _ _ | exact (Below.refl _ _).drew | apply Below.drew | refine Below.setCell ?_ (by simp) _ | refine Below.alloc ?_ (by simp; try omega) _)); done)); rintro W5 ⟨hbE, hp0, hp1⟩; have hpb : wr.heap.size ≠ g := by omega)
    | (refine gen_world (fun W => Below wr.heap.size wr W ∧ W.cell? ⟨wr.heap.size + 1, 0, none⟩ = some (.int .u64 (pL (pL (mL y d) t) cr : Nat)) ∧ W.cell? ⟨wr.heap.size + 1, 1, none⟩ = some (.int .u64 (pH (pL (mL y d) t) (pH (mL y d) (mH y d) t) cr : Nat))) (And.intro ?_ (And.intro ?_ ?_)) ?_; rotate_left; (focus (go_simp; done)); (focus (go_simp; done)); rotate_left; (focus ((repeat (first | exact Below.refl _ _ | exact (Below.refl _ _).drew | apply Below.drew | refine Below.setCell ?_ (by simp) _ | refine Below.alloc ?_ (by simp; try omega) _)); done)); rintro W5 ⟨hbE, hp0, hp1⟩; have hpb : wr.heap.size + 1 ≠ g := by omega)
    | (refine gen_world (fun W => Below wr.heap.size wr W ∧ W.cell? ⟨wr.heap.size + 1 + 1 + 1, 0, none⟩ = some (.int .u64 (pL (pL (mL y d) t) cr : Nat)) ∧ W.cell? ⟨wr.heap.size + 1 + 1 + 1, 1, none⟩ = some (.int .u64 (pH (pL (mL y d) t) (pH (mL y d) (mH y d) t) cr : Nat))) (And.intro ?_ (And.intro ?_ ?_)) ?_; rotate_left; (focus (go_simp; done)); (focus (go_simp; done)); rotate_left; (focus ((repeat (first | exact Below.refl _ _ | exact (Below.refl _ _).drew | apply Below.drew | refine Below.setCell ?_ (by simp) _ | refine Below.alloc ?_ (by simp; try omega) _)); done)); rintro W5 ⟨hbE, hp0, hp1⟩; have hpb : wr.heap.size + 1 + 1 + 1 ≠ g := by omega)
    | (refine gen_world (fun W => Below wr.heap.size wr W ∧ W.cell? ⟨wr.heap.size + 1 + 1 + 1 + 1 + 1, 0, none⟩ = some (.int .u64 (pL (pL (mL y d) t) cr : Nat)) ∧ W.cell? ⟨wr.heap.size + 1 + 1 + 1 + 1 + 1, 1, none⟩ = some (.int .u64 (pH (pL (mL y d) t) (pH (mL y d) (mH y d) t) cr : Nat))) (And.intro ?_ (And.intro ?_ ?_)) ?_; rotate_left; (focus (go_simp; done)); (focus (go_simp; done)); rotate_left; (focus ((repeat (first | exact Below.refl _ _ | exact (Below.refl _ _).drew | apply Below.drew | refine Below.setCell ?_ (by simp) _ | refine Below.alloc ?_ (by simp; try omega) _)); done)); rintro W5 ⟨hbE, hp0, hp1⟩; have hpb : wr.heap.size + 1 + 1 + 1 + 1 + 1 ≠ g := by omega)
   all_goals
    have hcE := carry_cell hbE hcell
    have hfE := carry_frozen hbE hcell hfz
    have hlo := pL_lt (pL (mL y d) t) cr
    have hhi := pH_lt (pL (mL y d) t) (pH (mL y d) (mH y d) t) cr
    generalize pL (pL (mL y d) t) cr = lo at *
    generalize pH (pL (mL y d) t) (pH (mL y d) (mH y d) t) cr = hi at *
    go_wp2_with fail
    go_region
   all_goals
    have hO6 := (hO.keep hbE.drew).set (i := k) hlt (v := (lo : Int)) (by omega) (by omega)
    have hup6 := (hup.below hgl hbE.drew).set hlt (.int .u64 (lo : Int))
    go_wp2_with fail
    refine ⟨⟨k + 1, hi, S.set k (lo : Int), by omega, by go_num, rfl, hhi, ?_, ?_, hO6, hup6⟩, by simp [intOf]; omega⟩
    ·intro j hj
     have := HSL.out
     rw [getD_set _ _ _ _ (by omega), if_neg (by omega)]; exact HS.out j (by omega)
    ·have := HSL.out
     exact addTimes_step S0 S ys k d t y cr lo hi (by omega) HT.out HY.out HV.out HMA.out
  ·have HE : Hid (val S + 18446744073709551616 ^ n * cr = val S0 + d * val ys) := by
    have e := HV.out
    have h1 := HL.out; have h2 := HSL.out
    obtain rfl : k = n := by omega
    rw [low_all S k (by omega), low_all S0 k (by omega), low_all ys k (by omega)] at e
    exact e
   go_wp2_with fail
   go_ret
   exact ⟨S, cr, rfl, hcr, hO, HE.out, hup⟩
def spliceW (M : List Int) (i : Nat) (S : List Int) : List Int := M.take i ++ S ++ M.drop (i + S.length)
theorem splice_len (M : List Int) (i : Nat) (S : List Int) (h : i + S.length ≤ M.length) : (spliceW M i S).length = M.length := by
 unfold spliceW; simp only [List.length_append, List.length_take, List.length_drop]; omega
theorem splice_get (M : List Int) (i : Nat) (S : List Int) (h : i + S.length ≤ M.length) (j : Nat) : (spliceW M i S).getD j 0 = if j < i then M.getD j 0 else if j < i + S.length then S.getD (j - i) 0 else M.getD j 0 := by
 unfold spliceW
 simp only [List.getD, List.getElem?_append, List.length_append, List.length_take, List.getElem?_take, List.getElem?_drop]
 by_cases h1 : j < i
 ·simp [h1, show j < min i M.length + S.length by omega, show j < min i M.length by omega]
 ·by_cases h2 : j < i + S.length
  ·simp [h1, h2, show min i M.length = i by omega]
  ·simp [h1, h2, show min i M.length = i by omega, show i + S.length + (j - (i + S.length)) = j by omega]
theorem splice_U {M S : List Int} (hM : AllU M) (hS : AllU S) (i : Nat) : AllU (spliceW M i S) := fun x hx => by
 unfold spliceW at hx
 rcases List.mem_append.1 hx with h | h
 ·rcases List.mem_append.1 h with h | h
  ·exact hM x (List.mem_of_mem_take h)
  ·exact hS x h
 ·exact hM x (List.mem_of_mem_drop h)
theorem splice_val (M : List Int) (i : Nat) (S : List Int) (h : i + S.length ≤ M.length) : val (spliceW M i S) + 18446744073709551616 ^ i * val ((M.drop i).take S.length) = val M + 18446744073709551616 ^ i * val S := by
 have e1 : M = M.take i ++ ((M.drop i).take S.length ++ M.drop (i + S.length)) := by
  rw [← List.drop_drop, List.take_append_drop, List.take_append_drop]
 have e2 : val M = val (M.take i) + 18446744073709551616 ^ i * (val ((M.drop i).take S.length) + 18446744073709551616 ^ S.length * val (M.drop (i + S.length))) := by
  conv => lhs; rw [e1]
  rw [val_append, val_append, List.length_take, List.length_take, List.length_drop, show min i M.length = i by omega, show min S.length (M.length - i) = S.length by omega]
 have e3 : val (spliceW M i S) = val (M.take i) + 18446744073709551616 ^ i * (val S + 18446744073709551616 ^ S.length * val (M.drop (i + S.length))) := by
  unfold spliceW
  rw [List.append_assoc, val_append, val_append, List.length_take, show min i M.length = i by omega]
 rw [e2, e3, Nat.mul_add, Nat.mul_add]
 omega
theorem own_part {B g : Nat} {w : World} {N c : Nat} {M : List Int} (h : OwnW B w (some ⟨g, 0, none⟩) N c M) (i n c' : Nat) (hi : i + n ≤ N) (hc : n ≤ c') : OwnW B w (some ⟨g, i, none⟩) n c' ((M.drop i).take n) := by
 have hN := h.1.1
 refine ⟨⟨by rw [List.length_take, List.length_drop]; omega, (h.1.2.1.drop i).take n, ⟨hc, fun e => by cases e⟩, fun j hj => ?_⟩, fun b off j e hj => ?_⟩
 ·obtain ⟨b, off, e1, e2, e3⟩ := h.1.2.2.2 (i + j) (by omega)
  simp only [Option.some.injEq, Addr.mk.injEq, and_true] at e1
  obtain ⟨rfl, rfl⟩ := e1
  refine ⟨g, i, rfl, e2, ?_⟩
  rw [Nat.zero_add] at e3
  rw [e3]
  simp only [List.getD, List.getElem?_take, hj, if_true, List.getElem?_drop]
 ·simp only [Option.some.injEq, Addr.mk.injEq, and_true] at e
  obtain ⟨rfl, rfl⟩ := e
  have := h.2 g 0 (i + j) rfl (by omega)
  rw [Nat.zero_add] at this; exact this
theorem own_join {B g : Nat} {w w' : World} {N c : Nat} {M : List Int} (h : OwnW B w (some ⟨g, 0, none⟩) N c M) (i n c' : Nat) (S : List Int) (hi : i + n ≤ N) (hS : OwnW B w' (some ⟨g, i, none⟩) n c' S) (hup : Upd g i n w w') : OwnW B w' (some ⟨g, 0, none⟩) N c (spliceW M i S) := by
 have hN := h.1.1
 have hn := hS.1.1
 refine ⟨⟨by rw [splice_len M i S (by omega)]; exact hN, splice_U h.1.2.1 hS.1.2.1 i, h.1.2.2.1, fun j hj => ?_⟩, fun b off j e hj => ?_⟩
 ·obtain ⟨b, off, e1, e2, e3⟩ := h.1.2.2.2 j hj
  simp only [Option.some.injEq, Addr.mk.injEq, and_true] at e1
  obtain ⟨rfl, rfl⟩ := e1
  refine ⟨g, 0, rfl, Nat.lt_of_lt_of_le e2 hup.grown.size, ?_⟩
  rw [splice_get M i S (by omega), Nat.zero_add]
  rw [Nat.zero_add] at e3
  by_cases h1 : j < i
  ·rw [if_pos h1, hup.cell j (Or.inl h1)]; exact e3
  ·rw [if_neg h1]
   by_cases h2 : j < i + S.length
   ·rw [if_pos h2]
    obtain ⟨b', off', f1, _, f3⟩ := hS.1.2.2.2 (j - i) (by omega)
    simp only [Option.some.injEq, Addr.mk.injEq, and_true] at f1
    obtain ⟨rfl, rfl⟩ := f1
    rw [show i + (j - i) = j by omega] at f3
    exact f3
   ·rw [if_neg h2, hup.cell j (Or.inr (by omega))]; exact e3
 ·simp only [Option.some.injEq, Addr.mk.injEq, and_true] at e
  obtain ⟨rfl, rfl⟩ := e
  have := h.2 g 0 j rfl hj
  exact ⟨this.1, (hup.frozen (0 + j)).trans this.2⟩
theorem times_step (xs M S : List Int) (Y i lb x cr : Nat) (hl : i + lb < M.length) (hS : S.length = lb) (hx : xs.getD i 0 = (x : Int)) (hz : M.getD (i + lb) 0 = 0)
  (hv : val M = low xs i * Y) (hs : val S + 18446744073709551616 ^ lb * cr = val ((M.drop i).take lb) + x * Y) : val ((spliceW M i S).set (i + lb) (cr : Int)) = low xs (i + 1) * Y := by
 have e1 := splice_val M i S (by omega)
 have e2 := val_set (spliceW M i S) (i + lb) (cr : Int) (by rw [splice_len M i S (by omega)]; exact hl)
 rw [splice_get M i S (by omega), if_neg (by omega), if_neg (by omega), hz, Int.toNat_natCast, Int.toNat_zero, Nat.mul_zero, Nat.add_zero, Nat.pow_add] at e2
 have e3 : low xs (i + 1) = low xs i + 18446744073709551616 ^ i * x := by show low xs i + _ * (xs.getD i 0).toNat = _; rw [hx, Int.toNat_natCast]
 have e4 := congrArg (18446744073709551616 ^ i * ·) hs
 simp only [Nat.mul_add] at e4
 rw [hS] at e1
 rw [e2, e3, Nat.add_mul, ← hv, Nat.mul_assoc, Nat.mul_assoc]
 omega
set_option maxRecDepth 100000 in
set_option maxHeartbeats 4000000 in
theorem times_calls (a b : Option Addr) (n m : Nat) (xs ys : List Int) (w : World) (hA : IsW w a n n xs) (hB : IsW w b m m ys) (hn : n ≤ 4096) (hm : m ≤ 4096) :
  Calls Tryz.prog 147 #[.slice a n n, .slice b m m] w fun e w' => ∃ (ao : Option Addr) (k : Nat) (M : List Int), e = .returned (.slice ao k k) ∧ OwnW w.heap.size w' ao k k M ∧ val M = val xs * val ys ∧ k ≤ n + m ∧ Below w.heap.size w w' := by
 have HX : Hid (xs.length = n) := hA.1.symm
 have HY : Hid (ys.length = m) := hB.1.symm
 by_cases h0 : n = 0
 ·subst h0
  have HV : Hid (val xs = 0) := by rw [Hid, List.length_eq_zero_iff.1 HX.out]; rfl
  clear hA hB
  go_enter Tryz.func147, Tryz.ntmps147
  go_wp2_with fail
  go_ret
  exact ⟨none, 0, [], rfl, ownW_nil _ _, by rw [HV.out, Nat.zero_mul]; rfl, by omega, Below.refl _ _⟩
 ·by_cases h1 : m = 0
  ·subst h1
   have HV : Hid (val ys = 0) := by rw [Hid, List.length_eq_zero_iff.1 HY.out]; rfl
   have d0 : ((n : Int) == 0) = false := by simp; omega
   clear hA hB h0
   go_enter Tryz.func147, Tryz.ntmps147
   go_wp2_with fail
   go_ret
   exact ⟨none, 0, [], rfl, ownW_nil _ _, by rw [HV.out, Nat.mul_zero]; rfl, by omega, Below.refl _ _⟩
  ·have d0 : ((n : Int) == 0) = false := by simp; omega
   have d1 : ((m : Int) == 0) = false := by simp; omega
   obtain ⟨w1, hmk, hO1, hb1, hz1⟩ := make_words 113 words_T w (n + m) (by omega)
   rw [show ((n + m : Nat) : Int) = (n : Int) + m by omega] at hmk
   go_enter Tryz.func147, Tryz.ntmps147
   go_wp2_with fail
   clear hmk
   go_loopw [24] (fun vi wr => ∃ (i : Nat) (M : List Int), i ≤ n ∧ vi = .int .i64 i ∧ Hid (∀ j, i + m ≤ j → M.getD j 0 = 0) ∧ Hid (val M = low xs i * val ys) ∧ OwnW w.heap.size wr (some ⟨w.heap.size, 0, none⟩) (n + m) (n + m) M ∧ Below w.heap.size w wr) (fun vi _ => n - (intOf vi).toNat)
   case atStart => exact ⟨0, zeros (n + m), by omega, rfl, fun j _ => zeros_get _ j, by rw [Hid, val_zeros]; simp [low], hO1, hb1⟩
   case round =>
    clear hO1 hb1
    obtain ⟨i, M, hi, rfl, HZ, HV, hO, hbr⟩ := hrel
    have HML : Hid (n + m = M.length) := hO.1.1
    by_cases hlt : i < n
    ·obtain ⟨ba, oa, hae, hal, hac⟩ := hA.2.2.2 i hlt
     obtain ⟨x, hx, hx1⟩ := word_nat0 xs hA.2.1 i
     have hac2 : wr.cell? ⟨ba, oa + i, none⟩ = some (.int .u64 (x : Int)) := by rw [← hx]; exact (hbr.cell (p := ⟨ba, oa + i, none⟩) hal).trans hac
     have HXX : Hid (xs.getD i 0 = (x : Int)) := hx
     subst hae
     have hP := own_part hO i m (n + m - i) (by omega) (by omega)
     have AC : Hid _ := addTimes_calls w.heap.size w.heap.size i m (n + m - i) m b _ ys x wr hP (hB.keep hbr) (fun b' o e => by
      obtain ⟨b2, o2, e2, hl2, _⟩ := hB.2.2.2 0 (by omega)
      rw [e2] at e
      simp only [Option.some.injEq, Addr.mk.injEq, and_true] at e
      omega) (by omega) hx1
     have hup1 : i + m < n + m := by omega
     clear hx hac hP
     go_wp2_with fail
     refine Calls.mono AC.out ?_
     rintro e w2 ⟨S, cr, rfl, hcr, hS, hsv, hup⟩
     have HSV : Hid _ := hsv
     have HSL : Hid (S.length = m) := hS.1.1.symm
     have hO2 := own_join hO i m (n + m - i) S (by omega) hS hup
     have hb2 : Below w.heap.size w w2 := hbr.grown hup.grown hbr.size (fun k e => by simp at e; omega)
     obtain ⟨_, _, e1, _, hcell⟩ := hO2.1.2.2.2 (i + m) (by omega)
     simp only [Option.some.injEq, Addr.mk.injEq, and_true] at e1
     obtain ⟨rfl, rfl⟩ := e1
     have hfz := (hO2.2 _ _ (i + m) rfl (by omega)).2
     rw [Nat.zero_add] at hcell hfz
     generalize (spliceW M i S).getD (i + m) 0 = oldw at hcell
     have hO3 := hO2.set (i := i + m) (by omega) (v := (cr : Int)) (by omega) (by omega)
     rw [Nat.zero_add] at hO3
     have HO3 : Hid _ := hO3
     clear hsv hS hup hO2 hO hbr AC hO3 hac2
     go_wp2_with fail
     have hML := HML.out
     have hSL := HSL.out
     refine ⟨⟨i + 1, (spliceW M i S).set (i + m) (cr : Int), by omega, by go_num, ?_, ?_, HO3.out, hb2.setCell (Nat.le_refl _) _⟩, by simp [intOf]; omega⟩
     ·intro j hj
      rw [getD_set _ _ _ _ (by rw [splice_len M i S (by omega)]; omega), if_neg (by omega), splice_get M i S (by omega), if_neg (by omega), if_neg (by omega)]
      exact HZ.out j (by omega)
     ·exact times_step xs M S (val ys) i m x cr (by omega) hSL HXX.out (HZ.out _ (by omega)) HV.out HSV.out
    ·have HE : Hid (low xs i = val xs) := low_all xs i (by have := HX.out; omega)
     go_wp2_with fail
     go_ret
     exact ⟨_, _, M, rfl, hO, by rw [HV.out, HE.out], by omega, hbr⟩
theorem half_parts (x y : Nat) : x * y = (x / 4294967296) * (y / 4294967296) * 18446744073709551616 + (x % 4294967296) * (y / 4294967296) * 4294967296 + (x / 4294967296) * (y % 4294967296) * 4294967296 + (x % 4294967296) * (y % 4294967296) := by
 have hx := Nat.div_add_mod x 4294967296
 have hy := Nat.div_add_mod y 4294967296
 conv => lhs; rw [← hx, ← hy]
 rw [Nat.add_mul, Nat.mul_add, Nat.mul_add]
 generalize x / 4294967296 = b
 generalize x % 4294967296 = a
 generalize y / 4294967296 = d
 generalize y % 4294967296 = c
 have e1 : 4294967296 * b * (4294967296 * d) = b * d * 18446744073709551616 := by rw [Nat.mul_mul_mul_comm, Nat.mul_comm (4294967296 * 4294967296)]
 have e2 : 4294967296 * b * c = b * c * 4294967296 := by rw [Nat.mul_assoc, Nat.mul_comm]
 have e3 : a * (4294967296 * d) = a * d * 4294967296 := by rw [Nat.mul_left_comm, Nat.mul_comm]
 rw [e1, e2, e3]; omega
theorem half_le (a c : Nat) (ha : a < 4294967296) (hc : c < 4294967296) : a * c ≤ 18446744065119617025 := by
 have := Nat.mul_le_mul (show a ≤ 4294967295 by omega) (show c ≤ 4294967295 by omega)
 omega
set_option maxRecDepth 100000 in
set_option maxHeartbeats 1000000 in
theorem nTimes_calls (x y : Nat) (w : World) (hx : x < 18446744073709551616) (hy : y < 18446744073709551616) :
  Calls Tryz.prog 164 #[.int .u64 (x : Int), .int .u64 (y : Int)] w fun e w' => e = .returned (.tuple #[.int .u64 (mL x y : Nat), .int .u64 (mH x y : Nat)]) ∧ w' = w := by
 have hxy := half_parts x y
 obtain ⟨a, ha⟩ : ∃ a, a = x % 4294967296 := ⟨_, rfl⟩
 obtain ⟨b, hb⟩ : ∃ b, b = x / 4294967296 := ⟨_, rfl⟩
 obtain ⟨c, hc⟩ : ∃ c, c = y % 4294967296 := ⟨_, rfl⟩
 obtain ⟨d, hd⟩ : ∃ d, d = y / 4294967296 := ⟨_, rfl⟩
 rw [← ha, ← hb, ← hc, ← hd] at hxy
 have r1 : (x : Int) % 4294967296 = (a : Int) := by omega
 have r2 : (x : Int) / 4294967296 = (b : Int) := by omega
 have r3 : (y : Int) % 4294967296 = (c : Int) := by omega
 have r4 : (y : Int) / 4294967296 = (d : Int) := by omega
 have l1 := half_le a c (by omega) (by omega)
 have l2 := half_le b c (by omega) (by omega)
 have l3 := half_le a d (by omega) (by omega)
 have l4 := half_le b d (by omega) (by omega)
 have r5 : IntKind.u64.wrap ((a : Int) * (c : Int)) = ((a * c : Nat) : Int) := by rw [mul_words a c (by omega)]
 have r6 : IntKind.u64.wrap ((b : Int) * (c : Int)) = ((b * c : Nat) : Int) := by rw [mul_words b c (by omega)]
 have r7 : IntKind.u64.wrap ((a : Int) * (d : Int)) = ((a * d : Nat) : Int) := by rw [mul_words a d (by omega)]
 have r8 : IntKind.u64.wrap ((b : Int) * (d : Int)) = ((b * d : Nat) : Int) := by rw [mul_words b d (by omega)]
 clear ha hb hc hd
 generalize a * c = p at *
 generalize b * c = q at *
 generalize a * d = s at *
 generalize b * d = t at *
 obtain ⟨md, hmd⟩ : ∃ m, m = q + p / 4294967296 := ⟨_, rfl⟩
 obtain ⟨o, ho⟩ : ∃ o, o = s + md % 4294967296 := ⟨_, rfl⟩
 have HL : Hid (p % 4294967296 + o % 4294967296 * 4294967296 = mL x y) := by rw [Hid, mL, hxy]; omega
 have HH : Hid (t + md / 4294967296 + o / 4294967296 = mH x y) := by rw [Hid, mH, hxy]; omega
 obtain ⟨pi, hpi⟩ : ∃ v : Int, v = (p : Int) := ⟨_, rfl⟩
 obtain ⟨qi, hqi⟩ : ∃ v : Int, v = (q : Int) := ⟨_, rfl⟩
 obtain ⟨si, hsi⟩ : ∃ v : Int, v = (s : Int) := ⟨_, rfl⟩
 obtain ⟨ti, hti⟩ : ∃ v : Int, v = (t : Int) := ⟨_, rfl⟩
 rw [← hpi] at r5
 rw [← hqi] at r6
 rw [← hsi] at r7
 rw [← hti] at r8
 have b1 : 0 ≤ pi ∧ pi ≤ 18446744065119617025 := by omega
 have b2 : 0 ≤ qi ∧ qi ≤ 18446744065119617025 := by omega
 have b3 : 0 ≤ si ∧ si ≤ 18446744065119617025 := by omega
 have b4 : 0 ≤ ti ∧ ti ≤ 18446744065119617025 := by omega
 have HI : Hid (pi = (p : Int) ∧ qi = (q : Int) ∧ si = (s : Int) ∧ ti = (t : Int) ∧ md = q + p / 4294967296 ∧ o = s + md % 4294967296) := ⟨hpi, hqi, hsi, hti, hmd, ho⟩
 have HB : Hid (t + md / 4294967296 + o / 4294967296 < 18446744073709551616) := by rw [HH.out]; exact mH_lt x y hx hy
 clear hpi hqi hsi hti hmd ho hxy l1 l2 l3 l4
 go_enter Tryz.func164, Tryz.ntmps164
 go_wp2_with fail
 go_ret2
 have hI := HI.out
 have h1 := HL.out
 have h2 := HH.out
 have h3 := HB.out
 refine ⟨nret_two ?_ ?_, rfl⟩
 ·(try simp only [IntKind.wrap_u64]); omega
 ·(try simp only [IntKind.wrap_u64]); omega
theorem mulIn_step (M M' Y : List Int) (i j x y c t0 t hi : Nat) (hl : i + j < M'.length) (h0 : M'.getD (i + j) 0 = (t0 : Int)) (hy : Y.getD j 0 = (y : Int))
  (hv : val M' + 18446744073709551616 ^ (i + j) * c = val M + 18446744073709551616 ^ i * (x * low Y j)) (hw : t + 18446744073709551616 * hi = x * y + t0 + c) :
  val (M'.set (i + j) (t : Int)) + 18446744073709551616 ^ (i + (j + 1)) * hi = val M + 18446744073709551616 ^ i * (x * low Y (j + 1)) := by
 have e1 := val_set M' (i + j) (t : Int) hl
 rw [h0, Int.toNat_natCast, Int.toNat_natCast] at e1
 have e2 : low Y (j + 1) = low Y j + 18446744073709551616 ^ j * y := by show low Y j + _ * (Y.getD j 0).toNat = _; rw [hy, Int.toNat_natCast]
 have e3 := congrArg (18446744073709551616 ^ (i + j) * ·) hw
 simp only [Nat.mul_add] at e3
 have e4 : 18446744073709551616 ^ i * (x * (18446744073709551616 ^ j * y)) = 18446744073709551616 ^ (i + j) * (x * y) := by
  rw [Nat.pow_add, Nat.mul_left_comm x, Nat.mul_assoc]
 have e5 : 18446744073709551616 ^ (i + (j + 1)) * hi = 18446744073709551616 ^ (i + j) * (18446744073709551616 * hi) := by
  rw [← Nat.add_assoc, Nat.pow_succ, Nat.mul_assoc]
 rw [e2, Nat.mul_add, Nat.mul_add, e4, e5]
 omega
theorem mulOut_step (M M' X : List Int) (i m x c V : Nat) (hl : i + m < M'.length) (h0 : M'.getD (i + m) 0 = 0) (hx : X.getD i 0 = (x : Int))
  (hM : val M = low X i * V) (hv : val M' + 18446744073709551616 ^ (i + m) * c = val M + 18446744073709551616 ^ i * (x * V)) :
  val (M'.set (i + m) (c : Int)) = low X (i + 1) * V := by
 have e1 := val_set M' (i + m) (c : Int) hl
 rw [h0, Int.toNat_natCast, Int.toNat_zero, Nat.mul_zero, Nat.add_zero] at e1
 have e3 : low X (i + 1) = low X i + 18446744073709551616 ^ i * x := by show low X i + _ * (X.getD i 0).toNat = _; rw [hx, Int.toNat_natCast]
 rw [e1, hv, e3, Nat.add_mul, hM, Nat.mul_assoc]
theorem mul_split (x y : Nat) (hx : x < 18446744073709551616) (hy : y < 18446744073709551616) : mL x y + 18446744073709551616 * mH x y = x * y ∧ mL x y < 18446744073709551616 ∧ mH x y ≤ 18446744073709551614 := by
 have h1 : x * y ≤ 18446744073709551615 * 18446744073709551615 := Nat.mul_le_mul (by omega) (by omega)
 unfold mL mH
 generalize x * y = p at *
 omega
set_option maxRecDepth 100000 in
set_option maxHeartbeats 4000000 in
theorem nMul_calls (a a' : Option Addr) (len cap len' cap' : Nat) (xs ys : List Int) (w : World) (h : IsW w a len cap xs) (h' : IsW w a' len' cap' ys) (hm : len ≤ 17592186044416) (hm' : len' ≤ 17592186044416)
  (hq : (wO (val xs)).length + (wO (val ys)).length ≤ 17592186044415) :
  Calls Tryz.prog 142 #[.slice a len cap, .slice a' len' cap'] w fun e w' => ∃ (ao : Option Addr) (cv : Nat), e = .returned (.slice ao (wO (val xs * val ys)).length cv) ∧ Own w.heap.size w' ao cv (wO (val xs * val ys)) ∧ Below w.heap.size w w' := by
 have C1 : Hid _ := nNorm_calls a len cap xs w h hm
 obtain ⟨X, hX⟩ : ∃ X, X = wO (val xs) := ⟨_, rfl⟩
 obtain ⟨Y, hY⟩ : ∃ Y, Y = wO (val ys) := ⟨_, rfl⟩
 obtain ⟨n, hn⟩ : ∃ n, n = X.length := ⟨_, rfl⟩
 obtain ⟨m, hm2⟩ : ∃ m, m = Y.length := ⟨_, rfl⟩
 have HQ : Hid (n + m ≤ 17592186044415) := by rw [Hid, hn, hm2, hX, hY]; exact hq
 have XU : Hid (AllU X) := by rw [hX]; exact words_U _
 have YU : Hid (AllU Y) := by rw [hY]; exact words_U _
 have VX : Hid (val X = val xs) := by rw [hX]; exact val_words _
 have VY : Hid (val Y = val ys) := by rw [hY]; exact val_words _
 have NX : Hid (n = X.length) := hn
 have NY : Hid (m = Y.length) := hm2
 have EX : Hid (X = wO (val xs)) := hX
 have EY : Hid (Y = wO (val ys)) := hY
 rw [← hX, ← hn] at C1
 clear hX hY hn hm2 hq h hm
 go_enter Tryz.func142, Tryz.ntmps142
 go_wp2_with fail
 refine cM C1.out ?_
 rintro e w1 ⟨a1, c1, rfl, hO1, hb1⟩
 have C2 : Hid _ := nNorm_calls a' len' cap' ys w1 (h'.keep hb1) hm'
 rw [← EY.out, ← NY.out] at C2
 have I1 := hO1.isW' XU.out NX.out.symm
 clear h' hm' hO1 C1
 go_wp2_with fail
 refine cM C2.out ?_
 rintro e w2 ⟨a2, c2, rfl, hO2, hb2⟩
 have I2 := hO2.isW' YU.out NY.out.symm
 have I1 := I1.keep hb2
 have hb12 := nT hb1 hb2
 have hq := HQ.out
 obtain ⟨w3, hmk, hO3, hb3, hz3⟩ := make_words 25 nat_T w2 (n + m + 1) (by omega)
 rw [show ((n + m + 1 : Nat) : Int) = (n : Int) + m + 1 by omega] at hmk
 clear hO2 C2 hb1 hb2
 go_wp2_with fail
 clear hmk
 have HZ0 : Hid (OwnW w2.heap.size w3 (some ⟨w2.heap.size, 0, none⟩) (n + m + 1) (n + m + 1) (zeros (n + m + 1)) ∧ Below w2.heap.size w2 w3) := ⟨hO3, hb3⟩
 clear hO3 hb3
 go_loopg [28] n (fun g vi wr => ∃ (i : Nat) (M : List Int), i ≤ n ∧ g = n - i ∧ vi = .int .i64 i ∧ Hid (∀ j, i + m ≤ j → M.getD j 0 = 0) ∧ Hid (val M = low X i * val Y) ∧ OwnW w2.heap.size wr (some ⟨w2.heap.size, 0, none⟩) (n + m + 1) (n + m + 1) M ∧ Below w2.heap.size w2 wr)
 case atStart => exact ⟨0, zeros (n + m + 1), by omega, rfl, rfl, fun j _ => zeros_get _ j, by rw [Hid, val_zeros]; simp [low], HZ0.out.1, HZ0.out.2⟩
 case round =>
  obtain ⟨i, M, hi, rfl, rfl, HZ, HV, hO, hbr⟩ := hrel
  clear HZ0 hz3
  by_cases hlt : i < n
  ·obtain ⟨ba, oa, hae, hal, hac⟩ := I1.2.2.2 i hlt
   obtain ⟨x, hx, hx1⟩ := word_nat0 X XU.out i
   have hac2 : wr.cell? ⟨ba, oa + i, none⟩ = some (.int .u64 (x : Int)) := by rw [← hx]; exact (hbr.cell (p := ⟨ba, oa + i, none⟩) hal).trans hac
   have HXX : Hid (X.getD i 0 = (x : Int)) := hx
   have I1' : Hid _ := I1
   subst hae
   have HM0 : Hid (OwnW w2.heap.size wr (some ⟨w2.heap.size, 0, none⟩) (n + m + 1) (n + m + 1) M ∧ Below w2.heap.size w2 wr) := ⟨hO, hbr⟩
   clear hx hac I1 hO hbr
   go_wp2_with fail
   clear hac2
   go_loopg [8, 35] m (fun g vc vj wi => ∃ (j c : Nat) (M' : List Int), j ≤ m ∧ g = m - j ∧ vj = .int .i64 j ∧ vc = .int .u64 (c : Int) ∧ c < 18446744073709551616 ∧ Hid (∀ k, i + m ≤ k → M'.getD k 0 = 0) ∧ Hid (val M' + 18446744073709551616 ^ (i + j) * c = val M + 18446744073709551616 ^ i * (x * low Y j)) ∧ OwnW w2.heap.size wi (some ⟨w2.heap.size, 0, none⟩) (n + m + 1) (n + m + 1) M' ∧ Below w2.heap.size w2 wi)
   case atStart => exact ⟨0, 0, M, by omega, rfl, rfl, rfl, by decide, HZ, by simp [Hid, low], HM0.out.1, HM0.out.2⟩
   case round =>
    obtain ⟨j, c, M', hj, rfl, rfl, rfl, hc, HZ', HV', hO, hbr⟩ := hrel
    have HML : Hid (n + m + 1 = M'.length) := hO.1.1
    clear HM0
    by_cases hjt : j < m
    ·obtain ⟨bb, ob, hbe, hbl, hbc⟩ := I2.2.2.2 j hjt
     obtain ⟨y, hy, hy1⟩ := word_nat0 Y YU.out j
     have hbc2 : wr.cell? ⟨bb, ob + j, none⟩ = some (.int .u64 (y : Int)) := by rw [← hy]; exact (hbr.cell (p := ⟨bb, ob + j, none⟩) hbl).trans hbc
     have HYY : Hid (Y.getD j 0 = (y : Int)) := hy
     have TC : Hid _ := nTimes_calls x y wr hx1 hy1
     obtain ⟨p1, p2, p3⟩ := mul_split x y hx1 hy1
     generalize mL x y = lo at *
     generalize mH x y = hh at *
     have HP : Hid (lo + 18446744073709551616 * hh = x * y) := p1
     obtain ⟨_, _, e1, hgl, hcell⟩ := hO.1.2.2.2 (i + j) (by omega)
     simp only [Option.some.injEq, Addr.mk.injEq, and_true] at e1
     obtain ⟨rfl, rfl⟩ := e1
     have hfz := (hO.2 _ _ (i + j) rfl (by omega)).2
     rw [Nat.zero_add] at hcell hfz
     obtain ⟨t0, ht0, ht1⟩ := word_nat0 M' hO.1.2.1 (i + j)
     rw [ht0] at hcell
     have HT0 : Hid (M'.getD (i + j) 0 = (t0 : Int)) := ht0
     subst hbe
     obtain ⟨s, hs⟩ : ∃ s, s = (t0 + lo) % 18446744073709551616 := ⟨_, rfl⟩
     obtain ⟨t, ht⟩ : ∃ t, t = (s + c) % 18446744073709551616 := ⟨_, rfl⟩
     have r1 : IntKind.u64.wrap ((t0 : Int) + (lo : Int)) = (s : Int) := by rw [IntKind.wrap_u64]; omega
     have r2 : IntKind.u64.wrap ((s : Int) + (c : Int)) = (t : Int) := by rw [IntKind.wrap_u64]; omega
     have HS : Hid (s = (t0 + lo) % 18446744073709551616 ∧ t = (s + c) % 18446744073709551616) := ⟨hs, ht⟩
     have b1 : s < 18446744073709551616 ∧ t < 18446744073709551616 := by omega
     have HO : Hid _ := hO.set (i := i + j) (by omega) (v := (t : Int)) (by omega) (by omega)
     rw [Nat.zero_add] at HO
     have HB : Hid (Below w2.heap.size w2 (wr.setCell ⟨w2.heap.size, i + j, none⟩ (.int .u64 (t : Int)))) := hbr.setCell (Nat.le_refl _) _
     clear hy hbc ht0 hs ht p1 hO
     obtain ⟨k1, hk1⟩ : ∃ k1 : Nat, (s < lo → k1 = 1) ∧ (¬ s < lo → k1 = 0) := by
      by_cases q : s < lo
      ·exact ⟨1, fun _ => rfl, fun q' => absurd q q'⟩
      ·exact ⟨0, fun q' => absurd q' q, fun _ => rfl⟩
     obtain ⟨k2, hk2⟩ : ∃ k2 : Nat, (t < c → k2 = 1) ∧ (¬ t < c → k2 = 0) := by
      by_cases q : t < c
      ·exact ⟨1, fun _ => rfl, fun q' => absurd q q'⟩
      ·exact ⟨0, fun q' => absurd q' q, fun _ => rfl⟩
     have HK : Hid (((s < lo → k1 = 1) ∧ (¬ s < lo → k1 = 0)) ∧ ((t < c → k2 = 1) ∧ (¬ t < c → k2 = 0))) := ⟨hk1, hk2⟩
     have HXY : Hid (x * y ≤ 18446744073709551615 * 18446744073709551615) := Nat.mul_le_mul (by omega) (by omega)
     have HC2 : Hid (t + 18446744073709551616 * (hh + k1 + k2) = x * y + t0 + c ∧ hh + k1 + k2 < 18446744073709551616) := by
      obtain ⟨hs, ht⟩ := HS.out
      have hp := HP.out
      have hxy := HXY.out
      rw [Hid]
      generalize x * y = p at *
      omega
     clear hk1 hk2
     by_cases q1 : s < lo <;> by_cases q2 : t < c
     all_goals
      go_wp2_with fail
      refine cM TC.out ?_
      rintro e wr ⟨rfl, rfl⟩
      go_wp2_with fail
      go_roundg (m - (j + 1))
      case measure => omega
      case rel =>
       obtain ⟨hk1, hk2⟩ := HK.out
       have hML := HML.out
       refine ⟨j + 1, hh + k1 + k2, M'.set (i + j) (t : Int), by omega, rfl, by go_num, ?_, HC2.out.2, ?_, ?_, HO.out, HB.out⟩
       ·have hc2 := HC2.out.2
        first
        | (congr 1; (try simp only [IntKind.wrap_u64]); omega)
        | (simp only [IntKind.wrap_u64, Value.int.injEq, true_and]; omega)
       ·intro k hk
        rw [getD_set _ _ _ _ (by omega), if_neg (by omega)]
        exact HZ'.out k hk
       ·exact mulIn_step M M' Y i j x y c t0 t _ (by omega) HT0.out HYY.out HV'.out HC2.out.1
    ·have hjm : j = m := by omega
     subst hjm
     have HE : Hid (low Y j = val Y) := low_all Y j (by have := NY.out; omega)
     obtain ⟨_, _, e1, hgl, hcell⟩ := hO.1.2.2.2 (i + j) (by omega)
     simp only [Option.some.injEq, Addr.mk.injEq, and_true] at e1
     obtain ⟨rfl, rfl⟩ := e1
     have hfz := (hO.2 _ _ (i + j) rfl (by omega)).2
     rw [Nat.zero_add] at hcell hfz
     generalize M'.getD (i + j) 0 = oldw at hcell
     have HO : Hid _ := hO.set (i := i + j) (by omega) (v := (c : Int)) (by omega) (by omega)
     rw [Nat.zero_add] at HO
     have HB : Hid (Below w2.heap.size w2 (wr.setCell ⟨w2.heap.size, i + j, none⟩ (.int .u64 (c : Int)))) := hbr.setCell (Nat.le_refl _) _
     clear hO
     go_wp2_with fail
     go_roundg (n - (i + 1))
     case measure => omega
     case rel =>
      have hML := HML.out
      refine ⟨i + 1, M'.set (i + j) (c : Int), by omega, rfl, by go_num, ?_, ?_, HO.out, HB.out⟩
      ·intro k hk
       rw [getD_set _ _ _ _ (by omega), if_neg (by omega)]
       exact HZ'.out k (by omega)
      ·have hv := HV'.out
       rw [HE.out] at hv
       exact mulOut_step M M' X i j x c (val Y) (by omega) (HZ'.out _ (by omega)) HXX.out HV.out hv
  ·have HE : Hid (low X i = val X) := low_all X i (by have := NX.out; omega)
   have NC : Hid _ := nNorm_calls (some ⟨w2.heap.size, 0, none⟩) (n + m + 1) (n + m + 1) M wr hO.1 (by omega)
   have ev : Hid (val M = val xs * val ys) := by rw [Hid, HV.out, HE.out, VX.out, VY.out]
   rw [ev.out] at NC
   clear hO
   go_wp2_with fail
   refine cM NC.out ?_
   rintro e w4 ⟨ao4, cv4, rfl, hO4, hb4⟩
   go_wp2_with fail
   go_ret
   have hb24 := hbr.trans (hb4.mono hbr.size)
   exact ⟨ao4, cv4, rfl, hO4.low (Nat.le_trans hb12.size hbr.size), nT hb12 hb24⟩
end Go.Proofs.YtiijfnaaekmpbaaGreatDoor

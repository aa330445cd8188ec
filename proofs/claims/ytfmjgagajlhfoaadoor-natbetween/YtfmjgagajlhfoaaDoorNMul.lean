/- The walks of products of two words, and of a row times a word added in place. -/
import Derived.Test.YtfmjgagajlhfoaaDoorNProg7
import Derived.Test.YtfmjgagajlhfoaaDoorNDivBy
import Derived.BigRegion
namespace Go.Proofs.YtfmjgagajlhfoaaDoor
open Go.RowKit

/-- The low and the high word of a product, and of such a pair with a word added. -/
def mL (x y : Nat) : Nat := x * y % 18446744073709551616
def mH (x y : Nat) : Nat := x * y / 18446744073709551616
def pL (l u : Nat) : Nat := (l + u) % 18446744073709551616
def pH (l h u : Nat) : Nat := (h + (l + u) / 18446744073709551616) % 18446744073709551616
theorem mH_lt (x y : Nat) (hx : x < 18446744073709551616) (hy : y < 18446744073709551616) : mH x y < 18446744073709551616 := by
  unfold mH
  rw [Nat.div_lt_iff_lt_mul (by decide)]
  rcases Nat.eq_zero_or_pos x with h | h
  · subst h; simp
  · exact Nat.mul_lt_mul_of_lt_of_lt hx hy
theorem mul_add_words (x y t c : Nat) (hx : x < 18446744073709551616) (hy : y < 18446744073709551616) (ht : t < 18446744073709551616) (hc : c < 18446744073709551616) :
    pL (pL (mL x y) t) c + 18446744073709551616 * pH (pL (mL x y) t) (pH (mL x y) (mH x y) t) c = x * y + t + c := by
  have h1 : x * y ≤ 18446744073709551615 * 18446744073709551615 := Nat.mul_le_mul (by omega) (by omega)
  unfold pL pH mL mH
  generalize x * y = p at *
  omega
theorem pL_lt (l u : Nat) : pL l u < 18446744073709551616 := Nat.mod_lt _ (by decide)
theorem pH_lt (l h u : Nat) : pH l h u < 18446744073709551616 := Nat.mod_lt _ (by decide)
theorem mL_lt (x y : Nat) : mL x y < 18446744073709551616 := Nat.mod_lt _ (by decide)

set_option maxHeartbeats 1000000 in
theorem product_calls (x y : Nat) (w : World) (hx : x < 18446744073709551616) (hy : y < 18446744073709551616) :
    Calls Tryd.prog 92 #[.int .u64 (x : Int), .int .u64 (y : Int)] w fun e w' => e = .returned (.agg #[.int .u64 (mL x y : Nat), .int .u64 (mH x y : Nat)]) ∧ w' = w.alloc (.cells #[.int .u64 (mL x y : Nat), .int .u64 (mH x y : Nat)] 126) := by
  have MC2 : Hid (Calls Tryd.prog 72 #[.int .u64 x, .int .u64 y] (w.alloc (.cells #[.int .u64 0, .int .u64 0] 126)) fun e w' => e = .returned (.tuple #[.int .u64 (mH x y : Nat), .int .u64 (mL x y : Nat)]) ∧ w' = (w.alloc (.cells #[.int .u64 0, .int .u64 0] 126))) := Tryd.bits_Mul64 x y hx hy _
  go_enter Tryd.func92, Tryd.ntmps92
  go_wp2_with fail
  refine Calls.mono MC2.out ?_
  rintro e w1 ⟨rfl, rfl⟩
  go_wp2_with fail
  exact bodyPost_ret (v := .agg #[.int .u64 (mL x y : Nat), .int .u64 (mH x y : Nat)]) (by simp [results, Tryd.results92, go_sem]) rfl ⟨rfl, rfl⟩

set_option maxHeartbeats 1000000 in
theorem pairPlus_calls (l h u : Nat) (w : World) :
    Calls Tryd.prog 93 #[.agg #[.int .u64 (l : Int), .int .u64 (h : Int)], .int .u64 (u : Int)] w fun e w' => e = .returned (.agg #[.int .u64 (pL l u : Nat), .int .u64 (pH l h u : Nat)]) ∧ w' = (w.alloc (.cells #[.int .u64 (l : Int), .int .u64 (h : Int)] 126)).alloc (.cells #[.int .u64 (pL l u : Nat), .int .u64 (pH l h u : Nat)] 126) := by
  have hr : ∀ w, (callFunc 84 #[.int .u64 (l : Int), .int .u64 (u : Int), .int .u64 0]).run Tryd.prog w = .ok (.value (.tuple #[.int .u64 (pL l u : Nat), .int .u64 (((l + u) / 18446744073709551616 : Nat) : Int)])) w := fun w => add64_run l u 0 (by decide) w
  have q : IntKind.u64.wrap ((h : Int) + (((l + u) / 18446744073709551616 : Nat) : Int)) = (pH l h u : Nat) := by
    rw [← Int.natCast_add, IntKind.wrap_u64]; unfold pH; omega
  generalize (l + u) / 18446744073709551616 = k at *
  go_enter Tryd.func93, Tryd.ntmps93
  go_wp2
  exact bodyPost_ret (v := .agg #[.int .u64 (pL l u : Nat), .int .u64 (pH l h u : Nat)]) (by simp [results, Tryd.results93, go_sem]) rfl ⟨rfl, rfl⟩

theorem gen_world {G : World → Prop} {W : World} (F : World → Prop) (h : F W) (k : ∀ W', F W' → G W') : G W := k W h
theorem carry_cell {W W' : World} (hb : Below W.heap.size W W') {p : Addr} {v : Value} (h : W.cell? p = some v) : W'.cell? p = some v := (hb.cell (World.block_lt_of_cell? _ _ h)).trans h
theorem carry_frozen {W W' : World} (hb : Below W.heap.size W W') {p : Addr} {v : Value} (h : W.cell? p = some v) (hf : W.frozen? p = false) : W'.frozen? p = false := (hb.frozen (World.block_lt_of_cell? _ _ h)).trans hf
/-- Of block g only the n places from off on have turned. -/
structure Upd (g off n : Nat) (w w' : World) : Prop where
  grown : w.grownBy w' (some g)
  cell : ∀ o, (o < off ∨ off + n ≤ o) → w'.cell? ⟨g, o, none⟩ = w.cell? ⟨g, o, none⟩
  frozen : ∀ o, w'.frozen? ⟨g, o, none⟩ = w.frozen? ⟨g, o, none⟩
theorem Upd.refl (g off n : Nat) (w : World) : Upd g off n w w := ⟨grown_refl _ _, fun _ _ => rfl, fun _ => rfl⟩
theorem Upd.trans {g off n : Nat} {a b c : World} (h : Upd g off n a b) (k : Upd g off n b c) : Upd g off n a c := ⟨h.grown.trans k.grown, fun o ho => (k.cell o ho).trans (h.cell o ho), fun o => (k.frozen o).trans (h.frozen o)⟩
theorem Upd.below {g off n : Nat} {a b c : World} (h : Upd g off n a b) (hg : g < b.heap.size) (k : Below b.heap.size b c) : Upd g off n a c := ⟨h.grown.trans (below_grown k _), fun o ho => (k.cell (p := ⟨g, o, none⟩) hg).trans (h.cell o ho), fun o => (k.frozen (p := ⟨g, o, none⟩) hg).trans (h.frozen o)⟩
theorem Upd.set {g off n : Nat} {a b : World} (h : Upd g off n a b) {i : Nat} (hi : i < n) (v : Value) : Upd g off n a (b.setCell ⟨g, off + i, none⟩ v) :=
  ⟨h.grown.trans (set_grown _ _ _), fun o ho => (World.cell?_setCell_other b _ _ _ (fun e => by have := congrArg Addr.off e; simp at this; omega)).trans (h.cell o ho), fun o => (World.frozen?_setCell b _ _ _).trans (h.frozen o)⟩
theorem low_set (xs : List Int) (i : Nat) (v : Int) : ∀ k, k ≤ i → low (xs.set i v) k = low xs k
  | 0, _ => rfl
  | k + 1, h => by
    show low (xs.set i v) k + _ * ((xs.set i v).getD k 0).toNat = low xs k + _ * (xs.getD k 0).toNat
    rw [low_set xs i v k (by omega)]
    simp only [List.getD, List.getElem?_set, show i ≠ k by omega, if_false]
theorem addTimes_step (S0 S ys : List Int) (k d t y c lo hi : Nat) (hk : k < S.length) (ht : S0.getD k 0 = (t : Int)) (hy : ys.getD k 0 = (y : Int))
    (hv : low S k + 18446744073709551616 ^ k * c = low S0 k + d * low ys k) (hw : lo + 18446744073709551616 * hi = y * d + t + c) :
    low (S.set k (lo : Int)) (k + 1) + 18446744073709551616 ^ (k + 1) * hi = low S0 (k + 1) + d * low ys (k + 1) := by
  have e1 : low (S.set k (lo : Int)) (k + 1) = low S k + 18446744073709551616 ^ k * lo := by
    show low (S.set k (lo : Int)) k + _ * ((S.set k (lo : Int)).getD k 0).toNat = _
    rw [low_set S k _ k (Nat.le_refl _), getD_set S k k _ hk, if_pos rfl, Int.toNat_natCast]
  have e2 : low S0 (k + 1) = low S0 k + 18446744073709551616 ^ k * t := by show low S0 k + _ * (S0.getD k 0).toNat = _; rw [ht, Int.toNat_natCast]
  have e3 : low ys (k + 1) = low ys k + 18446744073709551616 ^ k * y := by show low ys k + _ * (ys.getD k 0).toNat = _; rw [hy, Int.toNat_natCast]
  have e4 := congrArg (18446744073709551616 ^ k * ·) hw
  simp only [Nat.mul_add] at e4
  have e5 : d * (18446744073709551616 ^ k * y) = 18446744073709551616 ^ k * (y * d) := by rw [Nat.mul_left_comm, Nat.mul_comm d y]
  rw [e1, e2, e3, Nat.mul_add, e5, Nat.pow_succ, Nat.mul_assoc]
  omega

set_option maxRecDepth 100000 in
set_option maxHeartbeats 8000000 in
theorem addTimes_calls (B g off n c m : Nat) (b : Option Addr) (S0 ys : List Int) (d : Nat) (w : World) (h : OwnW B w (some ⟨g, off, none⟩) n c S0) (hB : IsW w b n m ys) (hbg : ∀ b' o, b = some ⟨b', o, none⟩ → b' ≠ g) (hn : n ≤ 17592186044416) (hd : d < 18446744073709551616) :
    Calls Tryd.prog 75 #[.slice (some ⟨g, off, none⟩) n c, .slice b n m, .int .u64 (d : Int)] w fun e w' => ∃ (S : List Int) (cr : Nat), e = .returned (.int .u64 (cr : Int)) ∧ cr < 18446744073709551616 ∧ OwnW B w' (some ⟨g, off, none⟩) n c S ∧ val S + 18446744073709551616 ^ n * cr = val S0 + d * val ys ∧ Upd g off n w w' := by
  have HL : Hid (S0.length = n ∧ ys.length = n) := ⟨h.1.1.symm, hB.1.symm⟩
  have HU0 : Hid (AllU S0) := h.1.2.1
  have HBG : Hid (∀ b' o, b = some ⟨b', o, none⟩ → b' ≠ g) := hbg
  have HB : Hid (IsW w b n m ys) := hB
  clear hbg hB
  go_enter Tryd.func75, Tryd.ntmps75
  go_wp2_with fail
  go_loopw [7, 13] (fun vc vi wr => ∃ (k cr : Nat) (S : List Int), k ≤ n ∧ vi = .int .i64 k ∧ vc = .int .u64 (cr : Int) ∧ cr < 18446744073709551616 ∧ Hid (∀ j, k ≤ j → S.getD j 0 = S0.getD j 0) ∧ Hid (low S k + 18446744073709551616 ^ k * cr = low S0 k + d * low ys k) ∧ OwnW B wr (some ⟨g, off, none⟩) n c S ∧ Upd g off n w wr) (fun _ vi _ => n - (intOf vi).toNat)
  case atStart => exact ⟨0, 0, S0, by omega, rfl, rfl, by decide, fun _ _ => rfl, by simp [Hid, low], h, Upd.refl _ _ _ _⟩
  case round =>
    clear h
    obtain ⟨k, cr, S, hk, rfl, rfl, hcr, HS, HV, hO, hup⟩ := hrel
    have HSL : Hid (S.length = n) := hO.1.1.symm
    by_cases hlt : k < n
    · obtain ⟨b', o', hbe, hbl, hcy⟩ := HB.out.2.2.2 k hlt
      have hbne := HBG.out b' o' hbe
      obtain ⟨y, hy, hy1⟩ := word_nat0 ys HB.out.2.1 k
      have hcy2 : wr.cell? ⟨b', o' + k, none⟩ = some (.int .u64 (y : Int)) := by
        rw [← hy]; exact hup.grown.cell hcy (fun e => hbne (by simpa using e))
      obtain ⟨t, ht, ht1⟩ := word_nat0 S0 HU0.out k
      obtain ⟨_, _, e1, hgl, hcell⟩ := hO.1.2.2.2 k hlt
      simp only [Option.some.injEq, Addr.mk.injEq, and_true] at e1
      obtain ⟨rfl, rfl⟩ := e1
      rw [HS.out k (Nat.le_refl _), ht] at hcell
      have hfz := (hO.2 _ _ k rfl hlt).2
      subst hbe
      have HMA : Hid _ := mul_add_words y d t cr hy1 hd ht1 hcr
      have HY : Hid (ys.getD k 0 = (y : Int)) := hy
      have HT : Hid (S0.getD k 0 = (t : Int)) := ht
      clear hcy hy ht
      have hgne : g ≠ wr.heap.size := Nat.ne_of_lt hgl
      go_wp2_with fail
      go_region_with (first
        | (go_at_call 92; refine (product_calls y d _ hy1 hd).mono ?_; rintro e w2 ⟨rfl, rfl⟩)
        | (go_at_call 93; refine (pairPlus_calls _ _ _ _).mono ?_; rintro e w3 ⟨rfl, rfl⟩))
      all_goals
       first
        | (refine gen_world (fun W => Below wr.heap.size wr W ∧ W.cell? ⟨wr.heap.size, 0, none⟩ = some (.int .u64 (pL (pL (mL y d) t) cr : Nat)) ∧ W.cell? ⟨wr.heap.size, 1, none⟩ = some (.int .u64 (pH (pL (mL y d) t) (pH (mL y d) (mH y d) t) cr : Nat))) (And.intro ?_ (And.intro ?_ ?_)) ?_; rotate_left; (focus (go_simp; done)); (focus (go_simp; done)); rotate_left; (focus ((repeat (first | exact Below.refl _ _ | exact (Below.refl _ _).drew | apply Below.drew | refine Below.setCell ?_ (by simp) _ | refine Below.alloc ?_ (by simp; try omega) _)); done)); rintro W5 ⟨hbE, hp0, hp1⟩; have hpb : wr.heap.size ≠ g := by omega)
        | (refine gen_world (fun W => Below wr.heap.size wr W ∧ W.cell? ⟨wr.heap.size + 1, 0, none⟩ = some (.int .u64 (pL (pL (mL y d) t) cr : Nat)) ∧ W.cell? ⟨wr.heap.size + 1, 1, none⟩ = some (.int .u64 (pH (pL (mL y d) t) (pH (mL y d) (mH y d) t) cr : Nat))) (And.intro ?_ (And.intro ?_ ?_)) ?_; rotate_left; (focus (go_simp; done)); (focus (go_simp; done)); rotate_left; (focus ((repeat (first | exact Below.refl _ _ | exact (Below.refl _ _).drew | apply Below.drew | refine Below.setCell ?_ (by simp) _ | refine Below.alloc ?_ (by simp; try omega) _)); done)); rintro W5 ⟨hbE, hp0, hp1⟩; have hpb : wr.heap.size + 1 ≠ g := by omega)
        | (refine gen_world (fun W => Below wr.heap.size wr W ∧ W.cell? ⟨wr.heap.size + 1 + 1 + 1, 0, none⟩ = some (.int .u64 (pL (pL (mL y d) t) cr : Nat)) ∧ W.cell? ⟨wr.heap.size + 1 + 1 + 1, 1, none⟩ = some (.int .u64 (pH (pL (mL y d) t) (pH (mL y d) (mH y d) t) cr : Nat))) (And.intro ?_ (And.intro ?_ ?_)) ?_; rotate_left; (focus (go_simp; done)); (focus (go_simp; done)); rotate_left; (focus ((repeat (first | exact Below.refl _ _ | exact (Below.refl _ _).drew | apply Below.drew | refine Below.setCell ?_ (by simp) _ | refine Below.alloc ?_ (by simp; try omega) _)); done)); rintro W5 ⟨hbE, hp0, hp1⟩; have hpb : wr.heap.size + 1 + 1 + 1 ≠ g := by omega)
        | (refine gen_world (fun W => Below wr.heap.size wr W ∧ W.cell? ⟨wr.heap.size + 1 + 1 + 1 + 1 + 1, 0, none⟩ = some (.int .u64 (pL (pL (mL y d) t) cr : Nat)) ∧ W.cell? ⟨wr.heap.size + 1 + 1 + 1 + 1 + 1, 1, none⟩ = some (.int .u64 (pH (pL (mL y d) t) (pH (mL y d) (mH y d) t) cr : Nat))) (And.intro ?_ (And.intro ?_ ?_)) ?_; rotate_left; (focus (go_simp; done)); (focus (go_simp; done)); rotate_left; (focus ((repeat (first | exact Below.refl _ _ | exact (Below.refl _ _).drew | apply Below.drew | refine Below.setCell ?_ (by simp) _ | refine Below.alloc ?_ (by simp; try omega) _)); done)); rintro W5 ⟨hbE, hp0, hp1⟩; have hpb : wr.heap.size + 1 + 1 + 1 + 1 + 1 ≠ g := by omega)
      all_goals
       have hcE := carry_cell hbE hcell
       have hfE := carry_frozen hbE hcell hfz
       have hlo := pL_lt (pL (mL y d) t) cr
       have hhi := pH_lt (pL (mL y d) t) (pH (mL y d) (mH y d) t) cr
       generalize pL (pL (mL y d) t) cr = lo at *
       generalize pH (pL (mL y d) t) (pH (mL y d) (mH y d) t) cr = hi at *
       go_wp2_with fail
       go_region
      all_goals
       have hO6 := (hO.keep hbE.drew).set (i := k) hlt (v := (lo : Int)) (by omega) (by omega)
       have hup6 := (hup.below hgl hbE.drew).set hlt (.int .u64 (lo : Int))
       go_wp2_with fail
       refine ⟨⟨k + 1, hi, S.set k (lo : Int), by omega, by go_num, rfl, hhi, ?_, ?_, hO6, hup6⟩, by simp [intOf]; omega⟩
       · intro j hj
         have := HSL.out
         rw [getD_set _ _ _ _ (by omega), if_neg (by omega)]; exact HS.out j (by omega)
       · have := HSL.out
         exact addTimes_step S0 S ys k d t y cr lo hi (by omega) HT.out HY.out HV.out HMA.out
    · have HE : Hid (val S + 18446744073709551616 ^ n * cr = val S0 + d * val ys) := by
        have e := HV.out
        have h1 := HL.out; have h2 := HSL.out
        obtain rfl : k = n := by omega
        rw [low_all S k (by omega), low_all S0 k (by omega), low_all ys k (by omega)] at e
        exact e
      go_wp2_with fail
      go_ret
      exact ⟨S, cr, rfl, hcr, hO, HE.out, hup⟩
end Go.Proofs.YtfmjgagajlhfoaaDoor

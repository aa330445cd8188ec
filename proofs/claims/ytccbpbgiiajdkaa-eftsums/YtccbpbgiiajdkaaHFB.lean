/- Pairs: what a step makes of two that are right. Add, Sub, Mul, Div as they are called. The document's sums, differences, products and quotients of pairs (Two); are two pairs the same? The document's differences and quotients of pairs (Two); Div. The walks of eft's lists: growBy, Sum, Scale, Sign. Lists of floats that may be added: wrong, slices.IndexFunc, slices.ContainsFunc, slices.Grow of nil. slices.Concat of two lists of floats; check. gathered by sums; dd.Sum; dd.Of. The first question of eft's statements, and the statement EftSteps. The first question of dd's statements. -/
import Derived.Test.YtccbpbgiiajdkaaHFA
import Derived.Lib.AppendZerosOnto
import Derived.Lib.Walk
import Derived.Deep.RegionWith
namespace Go.Proofs.Ytccbpbgiiajdkaa.Fp

section

open Go.RowKit EP
attribute [local go_sem] ran_store


theorem below_alloc1' (w : World) (o : Obj) : Below w.heap.size w (w.alloc o) := (Below.refl _ _).alloc (Nat.le_refl _) o


/-- What two pairs that are right come to; else two noughts and ErrRange. -/
def errI (ok : Bool) : Int := if ok then 0 else 2
def AnsP (w : World) (ok : Bool) (o : Option (Nat × Nat)) (e : Ending) (w' : World) : Prop :=
  ∃ s t, e = .returned (.tuple #[.agg #[.float .f64 s, .float .f64 t], .int .i64 (errI ok)]) ∧ Below w.heap.size w w' ∧ (ok = true → ∀ p, o = some p → s = p.1 ∧ t = p.2) ∧ (ok = false → s = 0 ∧ t = 0)





end

section

open Go.RowKit EP
attribute [local go_sem] ran_store





end

section

open Go.RowKit EP
attribute [local go_sem] ran_store





end

section

open Go.RowKit EP
attribute [local go_sem] ran_store










end

section

open Go.RowKit EP


/-- Float by float, as long as there is a number. -/
def growB : List Nat → List Nat → Option (List Nat)
  | L, [] => some L
  | L, y :: ys => (if finB (lastF L) then growO L y else none).bind fun r => growB r ys
def scaleO : List Nat → Nat → List Nat → Option (List Nat)
  | [], _, L => some L
  | x :: l, b, L => (twoProdO b x).bind fun p => (growB L [p.2, p.1]).bind fun r => scaleO l b r
theorem isF_two (w : World) (x y : Nat) (t : TypeId) : IsF (w.alloc (.cells #[.float .f64 x, .float .f64 y] t)) (some ⟨w.heap.size, 0, none⟩) 2 2 [x, y] := by
  refine ⟨rfl, ⟨Nat.le_refl _, fun e => by cases e⟩, fun i hi => ?_⟩
  refine ⟨w.heap.size, 0, rfl, by simp, ?_⟩
  match i, hi with
  | 0, _ => first | (simp; done) | (simp [World.cell?]; done) | (go_simp; done) | rfl
  | 1, _ => first | (simp; done) | (simp [World.cell?]; done) | (go_simp; done) | rfl
theorem below_alloc1 (w : World) (o : Obj) : Below w.heap.size w (w.alloc o) := (Below.refl _ _).alloc (Nat.le_refl _) o

set_option maxRecDepth 100000 in
set_option maxHeartbeats 4000000 in
theorem growBy_calls (B : Nat) (a : Option Addr) (cv : Nat) (L0 : List Nat) (a' : Option Addr) (len' cap' : Nat) (ys : List Nat) (w : World) (h0 : OwF B w a cv L0) (hB : B ≤ w.heap.size) (h : IsF w a' len' cap' ys) (hm : L0.length + len' ≤ 17592186043000) :
    Calls Try.prog 21 #[.slice a L0.length cv, .slice a' len' cap'] w fun e w' => ∃ (a2 : Option Addr) (cv2 : Nat) (R : List Nat), e = .returned (.slice a2 R.length cv2) ∧ OwF B w' a2 cv2 R ∧ R.length ≤ L0.length + len' ∧ Below w.heap.size w w' ∧ ∀ r, growB L0 ys = some r → R = r := by
  have HL : Hid (len' = ys.length) := h.1
  have hcap := h.2.1.1
  go_enter Try.func21, Try.ntmps21
  go_wp2_with fail
  go_loopw [0, 9] (fun lv i wr => ∃ (k : Nat) (L : List Nat) (ao : Option Addr) (cp : Nat), k ≤ len' ∧ i = .int .i64 k ∧ lv = .slice ao L.length cp ∧ L.length ≤ L0.length + k ∧ OwF B wr ao cp L ∧ Below w.heap.size w wr ∧ ∀ r, growB L0 ys = some r → growB L (ys.drop k) = some r) (fun _ i _ => len' - (intOf i).toNat)
  case atStart => exact ⟨0, L0, _, _, by omega, rfl, rfl, by omega, h0, Below.refl _ _, fun r hr => hr⟩
  case round =>
    obtain ⟨k, L, ao, cp, hk, rfl, rfl, hLk, hO, hbr, hrel⟩ := hrel
    have HR : Hid (∀ r, growB L0 ys = some r → growB L (ys.drop k) = some r) := hrel
    clear hrel
    by_cases hlt : k < len'
    · obtain ⟨bb, off, rfl, hbl, hc⟩ := (h.keep hbr).2.2 k hlt
      obtain ⟨x, hx⟩ : ∃ x, x = ys.getD k 0 := ⟨_, rfl⟩
      rw [← hx] at hc
      have HX : Hid (ys.drop k = x :: ys.drop (k + 1)) := by rw [Hid, hx]; exact drop_cons ys k (by rw [← HL.out]; exact hlt)
      have HS : Hid (w.heap.size ≤ wr.heap.size) := hbr.size
      clear hx
      go_wp2_with fail
      refine Calls.mono (last_calls ao L.length cp L wr hO.isF (by omega)) ?_
      rintro e wr ⟨rfl, rfl⟩
      go_wp2_with fail
      refine Calls.mono (finite_calls (lastF L) wr) ?_
      rintro e w2 ⟨t, rfl, d2, H2⟩
      have hb2 : Below w.heap.size w w2 := hbr.trans (d2.below _)
      have hO2 : OwF B w2 ao cp L := by obtain ⟨n, rfl⟩ := d2; exact hO
      have HS2 : Hid (w.heap.size ≤ w2.heap.size) := by rw [Hid, d2.heap]; exact HS.out
      have H2' : Hid (finB (lastF L) = true → t = true) := H2
      clear H2
      cases t with
      | false =>
        have HF : Hid (finB (lastF L) = false) := by
          rw [Hid]
          cases hf : finB (lastF L) with
          | false => rfl
          | true => cases H2'.out hf
        go_wp2_with fail
        go_ret
        refine ⟨ao, cp, L, rfl, hO2, by omega, hb2, fun r hr => ?_⟩
        have h1 := HR.out r hr
        rw [HX.out] at h1
        have h2 : (if finB (lastF L) then growO L x else none).bind (fun r => growB r (ys.drop (k + 1))) = some r := h1
        rw [HF.out] at h2
        cases h2
      | true =>
        go_wp2_with fail
        refine Calls.mono (grow_calls ao L.length cp L x w2 hO2.isF (by omega)) ?_
        rintro e w3 ⟨a3, c3, R, rfl, hO3, hl3, hb3, H3⟩
        have H3' : Hid (∀ r, growO L x = some r → R = r) := H3
        clear H3
        go_wp2_with fail
        go_round
        case rel =>
          refine ⟨k + 1, R, a3, c3, by omega, by go_num, rfl, by omega, hO3.low (Nat.le_trans hB HS2.out), hb2.trans (hb3.mono HS2.out), fun r hr => ?_⟩
          have h1 := HR.out r hr
          rw [HX.out] at h1
          have h2 : (if finB (lastF L) then growO L x else none).bind (fun r => growB r (ys.drop (k + 1))) = some r := h1
          obtain ⟨p, e1, e2⟩ := Option.bind_eq_some_iff.1 h2
          split at e1
          · obtain rfl := H3'.out p e1
            exact e2
          · cases e1
        case measure => simp [intOf]; omega
    · have hkl : k = len' := by omega
      subst hkl
      go_wp2_with fail
      go_ret
      refine ⟨ao, cp, L, rfl, hO, by omega, hbr, fun r hr => ?_⟩
      have h1 := HR.out r hr
      rw [show ys.drop k = [] from List.drop_eq_nil_iff.2 (by rw [HL.out]; exact Nat.le_refl _)] at h1
      exact Option.some.inj h1

set_option maxHeartbeats 1000000 in
theorem sum_calls (a : Option Addr) (len cap : Nat) (xs : List Nat) (w : World) (h : IsF w a len cap xs) (hm : len ≤ 17592186043000) :
    Calls Try.prog 7 #[.slice a len cap] w fun e w' => ∃ (a2 : Option Addr) (cv2 : Nat) (R : List Nat), e = .returned (.slice a2 R.length cv2) ∧ OwF w.heap.size w' a2 cv2 R ∧ R.length ≤ len ∧ Below w.heap.size w w' ∧ ∀ r, growB [] xs = some r → R = r := by
  have H : Hid _ := growBy_calls w.heap.size none 0 [] a len cap xs w (owF_nil _ _) (Nat.le_refl _) h (by simp; omega)
  go_enter Try.func7, Try.ntmps7
  go_wp2_with fail
  refine Calls.mono H.out ?_
  rintro e w2 ⟨a2, c2, R, rfl, hO, hl, hb, hr⟩
  go_wp2_with fail
  go_ret
  exact ⟨a2, c2, R, rfl, hO, by simpa using hl, hb, hr⟩

set_option maxRecDepth 100000 in
set_option maxHeartbeats 4000000 in
theorem scale_calls (a : Option Addr) (len cap : Nat) (xs : List Nat) (b : Nat) (w : World) (h : IsF w a len cap xs) (hm : len ≤ 8796093021000) :
    Calls Try.prog 8 #[.slice a len cap, .float .f64 b] w fun e w' => ∃ (a2 : Option Addr) (cv2 : Nat) (R : List Nat), e = .returned (.slice a2 R.length cv2) ∧ OwF w.heap.size w' a2 cv2 R ∧ R.length ≤ 2 * len ∧ Below w.heap.size w w' ∧ ∀ r, scaleO xs b [] = some r → R = r := by
  have HL : Hid (len = xs.length) := h.1
  have hcap := h.2.1.1
  go_enter Try.func8, Try.ntmps8
  go_wp2_with fail
  go_loopw [5, 12] (fun lv i wr => ∃ (k : Nat) (L : List Nat) (ao : Option Addr) (cp : Nat), k ≤ len ∧ i = .int .i64 k ∧ lv = .slice ao L.length cp ∧ L.length ≤ 2 * k ∧ OwF w.heap.size wr ao cp L ∧ Below w.heap.size w wr ∧ ∀ r, scaleO xs b [] = some r → scaleO (xs.drop k) b L = some r) (fun _ i _ => len - (intOf i).toNat)
  case atStart => exact ⟨0, [], none, 0, by omega, rfl, rfl, by simp, owF_nil _ _, Below.refl _ _, fun r hr => hr⟩
  case round =>
    obtain ⟨k, L, ao, cp, hk, rfl, rfl, hLk, hO, hbr, hrel⟩ := hrel
    have HR : Hid (∀ r, scaleO xs b [] = some r → scaleO (xs.drop k) b L = some r) := hrel
    clear hrel
    by_cases hlt : k < len
    · obtain ⟨bb, off, rfl, hbl, hc⟩ := (h.keep hbr).2.2 k hlt
      obtain ⟨x, hx⟩ : ∃ x, x = xs.getD k 0 := ⟨_, rfl⟩
      rw [← hx] at hc
      have HX : Hid (xs.drop k = x :: xs.drop (k + 1)) := by rw [Hid, hx]; exact drop_cons xs k (by rw [← HL.out]; exact hlt)
      have HS : Hid (w.heap.size ≤ wr.heap.size) := hbr.size
      clear hx
      go_wp2_with fail
      refine Calls.mono (twoProd_calls b x wr) ?_
      rintro e w2 ⟨s, t, rfl, d2, H2⟩
      have hb2 : Below w.heap.size w w2 := hbr.trans (d2.below _)
      have hO2 : OwF w.heap.size w2 ao cp L := by obtain ⟨n, rfl⟩ := d2; exact hO
      have HS2 : Hid (w.heap.size ≤ w2.heap.size) := by rw [Hid, d2.heap]; exact HS.out
      have H2' : Hid (∀ p, twoProdO b x = some p → s = p.1 ∧ t = p.2) := H2
      clear H2
      go_wp2_with fail
      refine Calls.mono (growBy_calls w.heap.size ao cp L _ 2 2 [t, s] _ (World.ownsRow.alloc hO2 _) (by simp; have := HS2.out; omega) (isF_two w2 t s _) (by omega)) ?_
      rintro e w3 ⟨a3, c3, R, rfl, hO3, hl3, hb3, H3⟩
      have H3' : Hid (∀ r, growB L [t, s] = some r → R = r) := H3
      have hb4 : Below w.heap.size w w3 := hb2.trans ((ebelow_trans (below_alloc1 _ _) hb3).mono HS2.out)
      clear H3 hb3
      go_wp2_with fail
      go_round
      case rel =>
        refine ⟨k + 1, R, a3, c3, by omega, by go_num, rfl, by omega, hO3, hb4, fun r hr => ?_⟩
        have h1 := HR.out r hr
        rw [HX.out] at h1
        obtain ⟨p, e1, e2⟩ := Option.bind_eq_some_iff.1 h1
        obtain ⟨rfl, rfl⟩ := H2'.out p e1
        obtain ⟨q, e3, e4⟩ := Option.bind_eq_some_iff.1 e2
        obtain rfl := H3'.out q e3
        exact e4
      case measure => simp [intOf]; omega
    · have hkl : k = len := by omega
      subst hkl
      go_wp2_with fail
      go_ret
      refine ⟨ao, cp, L, rfl, hO, by omega, hbr, fun r hr => ?_⟩
      have h1 := HR.out r hr
      rw [show xs.drop k = [] from List.drop_eq_nil_iff.2 (by rw [HL.out]; exact Nat.le_refl _)] at h1
      exact Option.some.inj h1

/-- The sign of a float. -/
def sgnF (x : Nat) : Int := if Ieee.double.order x 0 = some .lt then -1 else if Ieee.double.order x 0 = some .gt then 1 else 0

set_option maxHeartbeats 1000000 in
theorem sign_calls (a : Option Addr) (len cap : Nat) (xs : List Nat) (w : World) (h : IsF w a len cap xs) (hm : len ≤ 17592186043000) :
    Calls Try.prog 14 #[.slice a len cap] w fun e w' => e = .returned (.int .i64 (sgnF (lastF xs))) ∧ w' = w := by
  have H : Hid _ := last_calls a len cap xs w h (by omega)
  by_cases h1 : Ieee.double.order (lastF xs) 0 = some .lt
  · have e1 : (FloatKind.f64.format.order (lastF xs) 0 == some .lt) = true := by rw [show FloatKind.f64.format.order (lastF xs) 0 = some .lt from h1]; rfl
    have HE : Hid (sgnF (lastF xs) = -1) := by rw [Hid, sgnF, if_pos h1]
    clear h1
    go_enter Try.func14, Try.ntmps14
    go_wp2_with fail
    refine Calls.mono H.out ?_
    rintro e w ⟨rfl, rfl⟩
    go_wp2_with fail
    go_ret
    rw [HE.out]
    exact ⟨rfl, rfl⟩
  · have e1 : (FloatKind.f64.format.order (lastF xs) 0 == some .lt) = false := beq_eq_false_iff_ne.2 h1
    by_cases h2 : Ieee.double.order (lastF xs) 0 = some .gt
    · have e2 : (FloatKind.f64.format.order (lastF xs) 0 == some .gt) = true := by rw [show FloatKind.f64.format.order (lastF xs) 0 = some .gt from h2]; rfl
      have HE : Hid (sgnF (lastF xs) = 1) := by rw [Hid, sgnF, if_neg h1, if_pos h2]
      clear h1 h2
      go_enter Try.func14, Try.ntmps14
      go_wp2_with fail
      refine Calls.mono H.out ?_
      rintro e w ⟨rfl, rfl⟩
      go_wp2_with fail
      go_ret
      rw [HE.out]
      exact ⟨rfl, rfl⟩
    · have e2 : (FloatKind.f64.format.order (lastF xs) 0 == some .gt) = false := beq_eq_false_iff_ne.2 h2
      have HE : Hid (sgnF (lastF xs) = 0) := by rw [Hid, sgnF, if_neg h1, if_neg h2]
      clear h1 h2
      go_enter Try.func14, Try.ntmps14
      go_wp2_with fail
      refine Calls.mono H.out ?_
      rintro e w ⟨rfl, rfl⟩
      go_wp2_with fail
      go_ret
      rw [HE.out]
      exact ⟨rfl, rfl⟩

end

section

open Go.RowKit EP
attribute [local go_sem] ran_store



/-- Are all right? -/
def okFs (xs : List Nat) : Bool := xs.all fun x => rightP x 0
def smallFs (xs : List Nat) : Prop := ∀ i, xs.getD i 0 < 18446744073709551616
theorem okFs_all (xs : List Nat) : okFs xs = true ↔ ∀ i, i < xs.length → rightP (xs.getD i 0) 0 = true := by
  unfold okFs
  rw [List.all_eq_true]
  constructor
  · intro h i hi
    have : xs.getD i 0 = xs[i] := by simp [List.getD, hi]
    rw [this]
    exact h _ (List.getElem_mem hi)
  · intro h x hx
    obtain ⟨i, hi, rfl⟩ := List.getElem_of_mem hx
    have := h i hi
    simpa [List.getD, hi] using this




theorem isF_news' {w : World} {ad : Addr} {n c : Nat} {xs : List Nat} (h : IsF w (some ad) n c xs) : ∀ j u, (xs.map (Value.float .f64))[j]? = some u → w.cell? (ad.add j) = some u := by
  intro j u hj
  have hjl : j < n := by
    have := (List.getElem?_eq_some_iff.1 hj).1
    simp at this; have := h.1; omega
  obtain ⟨b2, off2, e2, _, q2⟩ := h.2.2 j hjl
  simp only [Option.some.injEq] at e2
  subst e2
  have hu : u = .float .f64 (xs.getD j 0) := by
    simp only [List.getElem?_map] at hj
    have hj2 : xs[j]? = some (xs.getD j 0) := by
      rw [List.getElem?_eq_getElem (by have := h.1; omega)]; simp [List.getD, show j < xs.length by have := h.1; omega]
    rw [hj2] at hj
    simpa using hj.symm
  rw [hu]
  by_cases h0 : j = 0
  · subst h0; simpa [Addr.add] using q2
  · simpa [Addr.add, h0] using q2

/-- An append of a whole list, nil or not, behind a row of the call's own. -/
theorem app_isF {w : World} {ops : Array Oper} {rest : List Oper} {o : Oper} {act : Act} {Q : Exit → Act → World → Prop} (hgd : o.guard = none) (s x : Operand)
    (ho : o.op = .call { callee := .builtin .append, args := #[s, x], argTypes := #[22, 22] })
    (B : Nat) (ao : Option Addr) (cv : Nat) (L : List Nat) (hs : act.eval s = .slice ao L.length cv) (hown : OwF B w ao cv L)
    (bo : Option Addr) (m c : Nat) (ys : List Nat) (hx : act.eval x = .slice bo m c) (hF : IsF w bo m c ys) (hm : L.length + m ≤ 17592186044416) (hB : B ≤ w.heap.size)
    (h : ∀ a' cv' w', OwF B w' a' cv' (L ++ ys) → Below B w w' → wpList Try.prog ops Q rest (act.put o.dst (.slice a' (L ++ ys).length cv')) w') : wpList Try.prog ops Q (o :: rest) act w := by
  obtain ⟨i0, hi, hz0, hz1, hz2⟩ := info_parts float_info
  cases bo with
  | none =>
    have hc0 := hF.2.1.2 rfl
    have hm0 : m = 0 := by have := hF.2.1.1; omega
    have hy : ys = [] := List.length_eq_zero_iff.1 (by rw [← hF.1]; exact hm0)
    subst hc0 hm0 hy
    refine wpList_append_own_none hgd s x _ ho B 23 i0 1 Try.underlying22 hi _ _ _ hs hown hx ?_
    have := h ao cv w (by rw [List.append_nil]; exact hown) (Below.refl _ _)
    rw [List.append_nil] at this
    exact this
  | some ad =>
    refine wpList_append_own w hgd s x _ ho B 23 i0 (.float .f64 0) 1 8 Try.underlying22 hi hz0 hz1 hz2 rfl (by decide) _ _ _ hs hown ad m c (ys.map (Value.float .f64)) hx (by rw [List.length_map, ← hF.1, Nat.mul_one]) (isF_news' hF) (fun u hu => by simp only [List.mem_map] at hu; obtain ⟨y, _, rfl⟩ := hu; rfl) (by unfold maxLen; omega) (by omega) hB ?_
    intro v' w' hown' hgrow _
    have hb : Below B w w' := (Below.refl B w).grown hgrow hB (fun q hq => (hown.lt q hq).1)
    have hlen : (L ++ ys).length = L.length + m := by rw [List.length_append, hF.1]
    obtain ⟨a', cv', hv⟩ : ∃ a' cv', v' = .slice a' (L.length + m) cv' := by
      rcases hown'.2 with ⟨e1, e2⟩ | ⟨g, cap, _, e1, _⟩
      · exact ⟨none, 0, by rw [e1, e2]⟩
      · exact ⟨_, cap, e1⟩
    subst hv
    have hO : OwF B w' a' cv' (L ++ ys) := by
      unfold OwF
      rw [hlen, List.map_append]
      exact hown'
    have := h a' cv' w' hO hb
    rw [hlen] at this
    exact this

end

section

open Go.RowKit EP
attribute [local go_sem] ran_store


def catL (xs ys : List Nat) (k : Nat) : List Nat := if k = 0 then [] else if k = 1 then xs else xs ++ ys
def catN (m n k : Nat) : Nat := if k = 0 then 0 else if k = 1 then m else m + n


theorem smallFs_app {xs ys : List Nat} (hx : smallFs xs) (hy : smallFs ys) : smallFs (xs ++ ys) := by
  intro i
  by_cases h : i < xs.length
  · have := hx i
    rw [List.getD_eq_getElem?_getD] at this ⊢
    rw [List.getElem?_append_left h]; exact this
  · have := hy (i - xs.length)
    rw [List.getD_eq_getElem?_getD] at this ⊢
    rw [List.getElem?_append_right (by omega)]; exact this
theorem okFs_app (xs ys : List Nat) : okFs (xs ++ ys) = (okFs xs && okFs ys) := by unfold okFs; rw [List.all_append]
def checkE (xs ys : List Nat) : Int := if 1024 < xs.length then 3 else if okFs xs && okFs ys then 0 else 2


end

section

open Go.RowKit EP
attribute [local go_sem] ran_store


def foldS : List Nat → Nat → Nat → Option (Nat × Nat)
  | [], s, t => some (s, t)
  | x :: l, s, t => (sumP s t x 0).bind fun p => foldS l p.1 p.2


def AnsS (w : World) (why : Int) (o : Option (Nat × Nat)) (e : Ending) (w' : World) : Prop :=
  ∃ s t, e = .returned (.tuple #[.agg #[.float .f64 s, .float .f64 t], .int .i64 why]) ∧ Below w.heap.size w w' ∧ (why = 0 → ∀ p, o = some p → s = p.1 ∧ t = p.2) ∧ (why ≠ 0 → s = 0 ∧ t = 0)

theorem smallFs_nil : smallFs [] := fun i => by simp
theorem isF_none (w : World) : IsF w none 0 0 [] := ⟨rfl, ⟨Nat.le_refl _, fun _ => rfl⟩, fun i hi => by omega⟩
theorem checkE_cases (xs ys : List Nat) : checkE xs ys = 0 ∨ checkE xs ys = 2 ∨ checkE xs ys = 3 := by
  unfold checkE; split
  · exact .inr (.inr rfl)
  · split
    · exact .inl rfl
    · exact .inr (.inl rfl)



end

section

open Go.RowKit EP


theorem isF_three (w : World) (x y z : Nat) (t : TypeId) : IsF (w.alloc (.cells #[.float .f64 x, .float .f64 y, .float .f64 z] t)) (some ⟨w.heap.size, 0, none⟩) 3 3 [x, y, z] := by
  refine ⟨rfl, ⟨Nat.le_refl _, fun e => by cases e⟩, fun i hi => ?_⟩
  refine ⟨w.heap.size, 0, rfl, by simp, ?_⟩
  match i, hi with
  | 0, _ => first | (simp; done) | (simp [World.cell?]; done) | (go_simp; done) | rfl
  | 1, _ => first | (simp; done) | (simp [World.cell?]; done) | (go_simp; done) | rfl
  | 2, _ => first | (simp; done) | (simp [World.cell?]; done) | (go_simp; done) | rfl
theorem live_sum : twoSumO 4845873199050653696 4607182418800017408 = some (4845873199050653696, 4607182418800017408) := by decide +kernel
theorem live_prod : twoProdO 4728779608772575232 4728779608772575232 = some (4850376798745133056, 4607182418800017408) := by decide +kernel
theorem live_list : growB [] [4607182418800017408, 4877398396442247168, 14100770433297022976] = some [4607182418800017408] := by decide +kernel
theorem live_sign : sgnF (lastF [4607182418800017408]) = 1 := by decide +kernel

set_option maxRecDepth 100000 in
set_option maxHeartbeats 2000000 in
theorem eLives_calls (w : World) :
    Calls Try.prog 4 #[] w fun e w' => e = .returned (.bool true) ∧ Below w.heap.size w w' := by
  have o1 : (FloatKind.f64.format.order 4845873199050653696 4845873199050653696 == some .eq) = true := by decide +kernel
  have o2 : (FloatKind.f64.format.order 4607182418800017408 4607182418800017408 == some .eq) = true := by decide +kernel
  have o3 : (FloatKind.f64.format.order 4850376798745133056 4850376798745133056 == some .eq) = true := by decide +kernel
  go_enter Try.func4, Try.ntmps4
  go_wp2_with fail
  refine Calls.mono (twoSum_calls _ _ w) ?_
  rintro e w1 ⟨s, t, rfl, d1, H1⟩
  obtain ⟨rfl, rfl⟩ := H1 _ live_sum
  have b1 : Below w.heap.size w w1 := d1.below _
  clear H1 d1
  go_wp2_with fail
  refine Calls.mono (twoProd_calls _ _ w1) ?_
  rintro e w2 ⟨s, t, rfl, d2, H2⟩
  obtain ⟨rfl, rfl⟩ := H2 _ live_prod
  have b2 : Below w.heap.size w w2 := b1.trans (d2.below _)
  clear H2 d2 b1
  go_wp2_with fail
  refine Calls.mono (sum_calls _ 3 3 [4607182418800017408, 4877398396442247168, 14100770433297022976] _ (isF_three w2 _ _ _ _) (by omega)) ?_
  rintro e w3 ⟨a3, c3, R, rfl, hO3, hl3, hb3, H3⟩
  obtain rfl := H3 _ live_list
  have b3 : Below w.heap.size w w3 := ebelow_trans b2 (ebelow_trans (below_alloc1 _ _) hb3)
  clear H3 b2 hb3
  obtain ⟨bb, off, rfl, hbl, hc⟩ := hO3.isF.2.2 0 (by decide)
  have hcap := hO3.isF.2.1.1
  have hc' : w3.cell? ⟨bb, off, none⟩ = some (.float .f64 4607182418800017408) := hc
  have hcap' : 1 ≤ c3 := hcap
  have HF := hO3.isF
  have hlen : ([4607182418800017408] : List Nat).length = 1 := rfl
  rw [hlen] at HF ⊢
  clear hc hcap hO3 hl3
  go_wp2_with fail
  refine Calls.mono (sign_calls _ 1 c3 _ w3 HF (by omega)) ?_
  rintro e w3 ⟨rfl, rfl⟩
  rw [live_sign]
  go_wp2_with fail
  go_ret
  exact ⟨rfl, b3⟩


end

section

open Go.RowKit EP
attribute [local go_sem] ran_store


theorem dlive1 : sumP 4607182418800017408 0 4246894448610377728 0 = some (4607182418800017408, 4246894448610377728) := by decide +kernel
theorem dlive2 : foldS [5057542381537067008, 4607182418800017408, 14280914418391842816] 0 0 = some (4607182418800017408, 0) := by decide +kernel
theorem dlive3 : checkE [5057542381537067008, 4607182418800017408, 14280914418391842816] [] = 0 := by decide +kernel
theorem dlive4 : (rightP 4246894448610377728 0 && rightP 4607182418800017408 0) = true := by decide +kernel
theorem dlive5 : rightP 5962765906638536704 0 = false := by decide +kernel
theorem dlive6 : rightP 4607182418800017408 4607182418800017408 = false := by decide +kernel
theorem dlive7 : smallFs [5057542381537067008, 4607182418800017408, 14280914418391842816] := by
  intro i
  match i with
  | 0 => decide
  | 1 => decide
  | 2 => decide
  | i + 3 => simp

theorem dlive8 : Op.negFloat .f64 5057542381537067008 = 14280914418391842816 := by decide +kernel

theorem isF_three' (w : World) (B x y z : Nat) (t : TypeId) (hB : w.heap.size = B) : IsF (w.alloc (.cells #[.float .f64 x, .float .f64 y, .float .f64 z] t)) (some ⟨B, 0, none⟩) 3 3 [x, y, z] := hB ▸ isF_three w x y z t


end

end Go.Proofs.Ytccbpbgiiajdkaa.Fp

/- The walk of the statement EftOwn. -/
import Derived.Test.YtckpfohfbfmmnaaEftL
import Derived.Laws.Externs
namespace Go.Proofs.Ytckpfohfbfmmnaa
open Go.RowKit EP

/-- A list that may be written, from block B on. -/
def Wr (B : Nat) (w : World) (a : Option Addr) (n : Nat) : Prop := ∀ i, i < n → ∃ (b off : Nat) (v : Value), a = some ⟨b, off, none⟩ ∧ B ≤ b ∧ w.cell? ⟨b, off + i, none⟩ = some v ∧ w.frozen? ⟨b, off + i, none⟩ = false
/-- What may be written stays so. -/
def Soft (w w' : World) : Prop := ∀ (p : Addr) (v : Value), w.cell? p = some v → w.frozen? p = false → ∃ v', w'.cell? p = some v' ∧ w'.frozen? p = false
theorem Soft.refl (w : World) : Soft w w := fun _ v h1 h2 => ⟨v, h1, h2⟩
theorem Soft.trans {a b c : World} (h : Soft a b) (k : Soft b c) : Soft a c := fun p v h1 h2 => by
  obtain ⟨v', q1, q2⟩ := h p v h1 h2
  exact k p v' q1 q2
theorem Soft.set {a b : World} (h : Soft a b) (q : Addr) (u : Value) : Soft a (b.setCell q u) := fun p v h1 h2 => by
  obtain ⟨v', q1, q2⟩ := h p v h1 h2
  by_cases e : q = p
  · subst e
    exact ⟨u, World.cell?_setCell_same b _ _ q1, (World.frozen?_setCell b _ _ _).trans q2⟩
  · exact ⟨v', (World.cell?_setCell_other b _ _ _ (fun e2 => e (by first | exact e2 | exact e2.symm))).trans q1, (World.frozen?_setCell b _ _ _).trans q2⟩
theorem soft_below {w w' : World} (hb : Below w.heap.size w w') : Soft w w' := fun p v h1 h2 => by
  have hp := World.block_lt_of_cell? _ _ h1
  exact ⟨v, (hb.cell (p := p) hp).trans h1, (hb.frozen (p := p) hp).trans h2⟩
theorem Wr.soft {B : Nat} {w w' : World} {a : Option Addr} {n : Nat} (h : Wr B w a n) (hs : Soft w w') : Wr B w' a n := fun i hi => by
  obtain ⟨b, off, v, e1, e2, e3, e4⟩ := h i hi
  obtain ⟨v', q1, q2⟩ := hs _ v e3 e4
  exact ⟨b, off, v', e1, e2, q1, q2⟩
theorem Wr.lowW {B B' : Nat} {w : World} {a : Option Addr} {n : Nat} (h : Wr B w a n) (hB : B' ≤ B) : Wr B' w a n := fun i hi => by
  obtain ⟨b, off, v, e1, e2, e3, e4⟩ := h i hi
  exact ⟨b, off, v, e1, Nat.le_trans hB e2, e3, e4⟩
theorem OwF.wr {B cv : Nat} {w : World} {a : Option Addr} {L : List Nat} (h : OwF B w a cv L) : Wr B w a L.length := fun i hi => by
  obtain ⟨b, off, e1, e2, e3⟩ := h.isF.2.2 i hi
  rcases h.2 with ⟨_, h0⟩ | ⟨g, cap, cur, hv, hg, hh, _⟩
  · omega
  · simp only [Value.slice.injEq] at hv
    rw [e1] at hv
    simp only [Option.some.injEq, Addr.mk.injEq, and_true] at hv
    obtain ⟨⟨rfl, rfl⟩, _⟩ := hv
    exact ⟨_, _, _, e1, hg, e3, by simp [World.frozen?, hh]⟩
/-- What lies below B reads as it did. -/
theorem IsF.under {B : Nat} {w w' : World} {a : Option Addr} {len cap : Nat} {xs : List Nat} (h : IsF w a len cap xs) (hb : Below B w w') (hB : ∀ b off, a = some ⟨b, off, none⟩ → 0 < len → b < B) : IsF w' a len cap xs := by
  obtain ⟨h1, h4, h3⟩ := h
  refine ⟨h1, h4, fun i hi => ?_⟩
  obtain ⟨b, off, e1, e2, e3⟩ := h3 i hi
  exact ⟨b, off, e1, Nat.lt_of_lt_of_le e2 hb.size, (hb.cell (p := ⟨b, off + i, none⟩) (hB b off e1 (by omega))).trans e3⟩
theorem IsF.lt {w : World} {a : Option Addr} {len cap : Nat} {xs : List Nat} (h : IsF w a len cap xs) : ∀ b off, a = some ⟨b, off, none⟩ → 0 < len → b < w.heap.size := fun b off e hl => by
  obtain ⟨b2, off2, e1, e2, _⟩ := h.2.2 0 hl
  rw [e] at e1
  simp only [Option.some.injEq, Addr.mk.injEq, and_true] at e1
  obtain ⟨rfl, rfl⟩ := e1
  exact e2
theorem isF_zero {w : World} {ad : Addr} {xs : List Nat} (h : 0 = xs.length) : IsF w (some ad) 0 0 xs := ⟨h, ⟨Nat.le_refl _, fun e => by cases e⟩, fun i hi => by omega⟩
theorem ownsRow_litF (w : World) (k : Nat) (hk : k = w.heap.size) : (w.alloc (.cells #[] 22)).ownsRow k 22 1 (.slice (some ⟨k, 0, none⟩) 0 0) 0 [] := by
  subst hk
  exact ⟨rfl, Or.inr ⟨w.heap.size, 0, #[], rfl, Nat.le_refl _, heap_alloc_new _ _, Nat.le_refl _, by unfold maxLen; omega, rfl, rfl⟩⟩
theorem owF_any {B k : Nat} {w : World} {v : Value} {L : List Nat} (hk : L.length = k) (h : w.ownsRow B 22 1 v k (L.map (Value.float .f64))) : ∃ ao cap, v = .slice ao k cap ∧ OwF B w ao cap L := by
  rcases h.2 with ⟨e1, e2⟩ | ⟨g3, cap3, cur, e1, r⟩
  · subst e2
    have hx : L = [] := List.length_eq_zero_iff.1 hk
    subst hx
    exact ⟨none, 0, e1, World.ownsRow_nil _ _ _ _⟩
  · refine ⟨some ⟨g3, 0, none⟩, cap3, e1, ?_⟩
    unfold OwF
    rw [hk, ← e1]; exact h
theorem isF_news {w : World} {ad : Addr} {n c : Nat} {xs : List Nat} (h : IsF w (some ad) n c xs) : ∀ j u, (xs.map (Value.float .f64))[j]? = some u → w.cell? (ad.add j) = some u := by
  intro j u hj
  have hjl : j < n := by
    have := (List.getElem?_eq_some_iff.1 hj).1
    simp at this; have := h.1; omega
  obtain ⟨b2, off2, e2, _, q2⟩ := h.2.2 j hjl
  simp only [Option.some.injEq] at e2
  subst e2
  have hu : u = .float .f64 (xs.getD j 0) := by
    simp only [List.getElem?_map] at hj
    have hj2 : xs[j]? = some (xs.getD j 0) := by
      rw [List.getElem?_eq_getElem (by have := h.1; omega)]; simp [List.getD, show j < xs.length by have := h.1; omega]
    rw [hj2] at hj
    simpa using hj.symm
  rw [hu]
  by_cases h00 : j = 0
  · subst h00; simpa [Addr.add] using q2
  · simpa [Addr.add, h00] using q2
theorem run_store_flt (P : Program) (w : World) (a : Addr) (m : Mode) (k : FloatKind) (b : Nat) : (store a (.float k b) m).run P w = stored P w a (.float k b) m := run_store P w a _ m rfl
attribute [local go_sem] run_store_flt
theorem bits_run (x : Nat) (w : World) : (callFunc 29 #[.float .f64 x]).run Try.prog w = .ok (.value (.int .u64 (x : Int))) w := by
  rw [run_callFunc_extern (e := Extern.MathFloatBits.float64bits) Try.func29 (by kernel_rfl) (by kernel_rfl) (by kernel_rfl) (by kernel_rfl)]
  rfl

set_option maxRecDepth 100000 in
set_option maxHeartbeats 4000000 in
theorem own_some (ad : Addr) (len cap : Nat) (xs : List Nat) (b : Nat) (w : World) (h : IsF w (some ad) len cap xs) (hm : len ≤ 1048576) :
    Calls Try.prog 5 #[.slice (some ad) len cap, .float .f64 b] w fun e w' => e = .returned (.bool true) ∧ Below w.heap.size w w' := by
  obtain ⟨i0, hi, hz0, hz1, hz2⟩ := info_parts float_info
  have HL : Hid (len = xs.length) := h.1
  go_enter Try.func5, Try.ntmps5
  go_wp2_with fail
  refine Calls.mono (eLives_calls w) ?_
  rintro e w1 ⟨rfl, b1⟩
  replace h := h.keep b1
  go_wp2_with (first | (at_builtin; refine wpList_append_own _ rfl _ _ 29 rfl w1.heap.size 22 i0 (.float .f64 0) 1 8 Try.underlying29 hi hz0 hz1 hz2 rfl (by decide) _ _ _ rfl (ownsRow_litF _ _ (by simp)) ad len cap (xs.map (Value.float .f64)) rfl (by rw [List.length_map, ← HL.out]; omega) (isF_news (h.keep (below_alloc1 _ _))) (fun u hu => by simp only [List.mem_map] at hu; obtain ⟨y, _, rfl⟩ := hu; rfl) (by unfold maxLen; omega) (by omega) (by simp) ?_; intro vx w2 hownx hgrowx hnilx; obtain ⟨ax, cx, rfl, hOx⟩ := owF_any (L := xs) (by rw [← HL.out]; exact (Nat.zero_add len).symm) hownx; have b2 : Below w1.heap.size w1 w2 := (below_alloc1 w1 (.cells #[] 22)).grown hgrowx (by simp) (fun k e => by have e2 : some (w1.heap.size) = some k := e; simp only [Option.some.injEq] at e2; simp; omega); have hIx := hOx.isF; rw [← HL.out] at hIx; clear hgrowx hnilx hownx hOx))
  replace h := h.keep b2
  replace b1 := ebelow_trans b1 b2
  clear b2
  have hB2 := hIx.lt
  have hl2 := h.lt
  go_wp2_with fail
  refine Calls.mono (sum_calls ax len cx xs w2 hIx (by omega)) ?_
  rintro e w3 ⟨a3, c3, L3, rfl, O3, n3, b3, _⟩
  have r3 := O3.wr
  have hI3 := hIx.keep b3
  go_wp2_with fail
  refine Calls.mono (grow_calls ax len cx xs b w3 hI3 (by omega)) ?_
  rintro e w4 ⟨a4, c4, L4, rfl, O4, n4, b4, _⟩
  have r4 := O4.wr.lowW b3.size
  replace r3 := r3.soft (soft_below b4)
  have hI4 := hI3.keep b4
  have b34 := ebelow_trans b3 b4
  clear hI3 b4 O3 O4
  go_wp2_with fail
  refine Calls.mono (scale_calls ax len cx xs b w4 hI4 (by omega)) ?_
  rintro e w5 ⟨a5, c5, L5, rfl, O5, n5, b5, _⟩
  have r5 := O5.wr.lowW b34.size
  replace r3 := r3.soft (soft_below b5)
  replace r4 := r4.soft (soft_below b5)
  have b35 := ebelow_trans b34 b5
  clear hI4 b5 O5 b34 b3
  go_wp2_with fail
  go_loopw [28] (fun i wr => ∃ k : Nat, k ≤ L3.length ∧ i = .int .i64 k ∧ Below w2.heap.size w2 wr ∧ Wr w2.heap.size wr a3 L3.length ∧ Wr w2.heap.size wr a4 L4.length ∧ Wr w2.heap.size wr a5 L5.length) (fun i _ => L3.length - (intOf i).toNat)
  case atStart => exact ⟨0, by omega, rfl, b35, r3, r4, r5⟩
  case round =>
    clear b35 r3 r4 r5
    obtain ⟨k, hk, rfl, b35, r3, r4, r5⟩ := hrel
    by_cases hlt : k < L3.length
    · obtain ⟨bb, off, v, e1, e2, e3, e4⟩ := r3 k hlt
      subst e1
      have sf : Soft wr (wr.setCell ⟨bb, off + k, none⟩ (.float .f64 4635118810238550016)) := (Soft.refl wr).set _ _
      have q3 := r3.soft sf
      have q4 := r4.soft sf
      have q5 := r5.soft sf
      have qb := b35.setCell (p := ⟨bb, off + k, none⟩) e2 (.float .f64 4635118810238550016)
      clear sf r3 r4 r5 b35
      go_wp2_with fail
      first | exact ⟨⟨k + 1, by omega, by go_num, qb, q3, q4, q5⟩, by simp [intOf]; omega⟩ | omega
    · go_wp2_with fail
      clear hlt hk
      go_loopw [37] (fun i wr => ∃ k : Nat, k ≤ L4.length ∧ i = .int .i64 k ∧ Below w2.heap.size w2 wr ∧ Wr w2.heap.size wr a3 L3.length ∧ Wr w2.heap.size wr a4 L4.length ∧ Wr w2.heap.size wr a5 L5.length) (fun i _ => L4.length - (intOf i).toNat)
      case atStart => exact ⟨0, by omega, rfl, b35, r3, r4, r5⟩
      case round =>
        clear b35 r3 r4 r5
        obtain ⟨k, hk, rfl, b35, r3, r4, r5⟩ := hrel
        by_cases hlt : k < L4.length
        · obtain ⟨bb, off, v, e1, e2, e3, e4⟩ := r4 k hlt
          subst e1
          have sf : Soft wr (wr.setCell ⟨bb, off + k, none⟩ (.float .f64 4635118810238550016)) := (Soft.refl wr).set _ _
          have q3 := r3.soft sf
          have q4 := r4.soft sf
          have q5 := r5.soft sf
          have qb := b35.setCell (p := ⟨bb, off + k, none⟩) e2 (.float .f64 4635118810238550016)
          clear sf r3 r4 r5 b35
          go_wp2_with fail
          first | exact ⟨⟨k + 1, by omega, by go_num, qb, q3, q4, q5⟩, by simp [intOf]; omega⟩ | omega
        · go_wp2_with fail
          clear hlt hk
          go_loopw [46] (fun i wr => ∃ k : Nat, k ≤ L5.length ∧ i = .int .i64 k ∧ Below w2.heap.size w2 wr ∧ Wr w2.heap.size wr a3 L3.length ∧ Wr w2.heap.size wr a4 L4.length ∧ Wr w2.heap.size wr a5 L5.length) (fun i _ => L5.length - (intOf i).toNat)
          case atStart => exact ⟨0, by omega, rfl, b35, r3, r4, r5⟩
          case round =>
            clear b35 r3 r4 r5
            obtain ⟨k, hk, rfl, b35, r3, r4, r5⟩ := hrel
            by_cases hlt : k < L5.length
            · obtain ⟨bb, off, v, e1, e2, e3, e4⟩ := r5 k hlt
              subst e1
              have sf : Soft wr (wr.setCell ⟨bb, off + k, none⟩ (.float .f64 4635118810238550016)) := (Soft.refl wr).set _ _
              have q3 := r3.soft sf
              have q4 := r4.soft sf
              have q5 := r5.soft sf
              have qb := b35.setCell (p := ⟨bb, off + k, none⟩) e2 (.float .f64 4635118810238550016)
              clear sf r3 r4 r5 b35
              go_wp2_with fail
              first | exact ⟨⟨k + 1, by omega, by go_num, qb, q3, q4, q5⟩, by simp [intOf]; omega⟩ | omega
            · go_wp2_with fail
              clear hlt hk
              have gI := hIx.keep b35
              have gh := h.keep b35
              have gb := b1.trans (b35.mono b1.size)
              clear hIx h b35 b1 r3 r4 r5
              go_loopw [55] (fun i wx => ∃ k : Nat, k ≤ len ∧ i = .int .i64 k ∧ Dr wr wx) (fun i _ => len - (intOf i).toNat)
              case atStart => exact ⟨0, by omega, rfl, Dr.refl _⟩
              case round =>
                obtain ⟨k, hk, rfl, hd⟩ := hrel
                by_cases hlt : k < len
                · obtain ⟨bb, off, e1, hbl, hc⟩ := (gI.keep (hd.below _)).2.2 k hlt
                  obtain ⟨bb', off', e2, hbl', hc'⟩ := (gh.keep (hd.below _)).2.2 k hlt
                  subst e1
                  obtain rfl := Option.some.inj e2
                  have hcap := gI.2.1.1
                  have hcap' := gh.2.1.1
                  have hbr := bits_run
                  generalize xs.getD k 0 = x at *
                  go_wp2
                  go_quiet (fail)
                  go_wp2
                  go_roundw
                  case rel => exact ⟨k + 1, by omega, by go_num, hd.trans ⟨nq, rfl⟩⟩
                  case measure => simp [intOf]; omega
                · skip
                  replace gI := gI.keep (hd.below _)
                  replace gb := ebelow_trans gb (hd.below _)
                  go_wp2_with fail
                  refine Calls.mono (eftLists_walk _ _ _ xs b _ gI (by omega)) ?_
                  rintro e wz ⟨rfl, bz⟩
                  go_wp2_with fail
                  go_ret
                  exact ⟨rfl, ebelow_trans gb bz⟩

set_option maxRecDepth 100000 in
set_option maxHeartbeats 4000000 in
theorem own_none (len cap : Nat) (xs : List Nat) (b : Nat) (w : World) (h : IsF w none len cap xs) :
    Calls Try.prog 5 #[.slice none len cap, .float .f64 b] w fun e w' => e = .returned (.bool true) ∧ Below w.heap.size w w' := by
  have hm : len ≤ 1048576 := by have h1 := h.2.1.2 rfl; have h2 := h.2.1.1; omega
  obtain ⟨i0, hi, hz0, hz1, hz2⟩ := info_parts float_info
  have HL : Hid (len = xs.length) := h.1
  have hc0 := h.2.1.2 rfl
  have hl0 : len = 0 := by have h2 := h.2.1.1; omega
  subst hl0
  subst hc0
  go_enter Try.func5, Try.ntmps5
  go_wp2_with fail
  refine Calls.mono (eLives_calls w) ?_
  rintro e w1 ⟨rfl, b1⟩
  replace h := h.keep b1
  go_wp2_with (first | (at_builtin; refine wpList_append_own_none _ rfl _ _ 29 rfl w1.heap.size 22 i0 1 Try.underlying29 hi _ _ _ rfl (ownsRow_litF w1 w1.heap.size rfl) rfl ?_))
  have b2 : Below w1.heap.size w1 (w1.alloc (.cells #[] 22)) := below_alloc1 _ _
  have hIx : IsF (w1.alloc (.cells #[] 22)) (some ⟨w1.heap.size, 0, none⟩) 0 0 xs := isF_zero HL.out
  replace h := h.keep b2
  replace b1 := ebelow_trans b1 b2
  clear b2
  have hB2 := hIx.lt
  have hl2 := h.lt
  go_wp2_with fail
  refine Calls.mono (sum_calls (some ⟨w1.heap.size, 0, none⟩) 0 0 xs (w1.alloc (.cells #[] 22)) hIx (by omega)) ?_
  rintro e w3 ⟨a3, c3, L3, rfl, O3, n3, b3, _⟩
  have r3 := O3.wr
  have hI3 := hIx.keep b3
  go_wp2_with fail
  refine Calls.mono (grow_calls (some ⟨w1.heap.size, 0, none⟩) 0 0 xs b w3 hI3 (by omega)) ?_
  rintro e w4 ⟨a4, c4, L4, rfl, O4, n4, b4, _⟩
  have r4 := O4.wr.lowW b3.size
  replace r3 := r3.soft (soft_below b4)
  have hI4 := hI3.keep b4
  have b34 := ebelow_trans b3 b4
  clear hI3 b4 O3 O4
  go_wp2_with fail
  refine Calls.mono (scale_calls (some ⟨w1.heap.size, 0, none⟩) 0 0 xs b w4 hI4 (by omega)) ?_
  rintro e w5 ⟨a5, c5, L5, rfl, O5, n5, b5, _⟩
  have r5 := O5.wr.lowW b34.size
  replace r3 := r3.soft (soft_below b5)
  replace r4 := r4.soft (soft_below b5)
  have b35 := ebelow_trans b34 b5
  clear hI4 b5 O5 b34 b3
  go_wp2_with fail
  go_loopw [28] (fun i wr => ∃ k : Nat, k ≤ L3.length ∧ i = .int .i64 k ∧ Below (w1.alloc (.cells #[] 22)).heap.size (w1.alloc (.cells #[] 22)) wr ∧ Wr (w1.alloc (.cells #[] 22)).heap.size wr a3 L3.length ∧ Wr (w1.alloc (.cells #[] 22)).heap.size wr a4 L4.length ∧ Wr (w1.alloc (.cells #[] 22)).heap.size wr a5 L5.length) (fun i _ => L3.length - (intOf i).toNat)
  case atStart => exact ⟨0, by omega, rfl, b35, r3, r4, r5⟩
  case round =>
    clear b35 r3 r4 r5
    obtain ⟨k, hk, rfl, b35, r3, r4, r5⟩ := hrel
    by_cases hlt : k < L3.length
    · obtain ⟨bb, off, v, e1, e2, e3, e4⟩ := r3 k hlt
      subst e1
      have sf : Soft wr (wr.setCell ⟨bb, off + k, none⟩ (.float .f64 4635118810238550016)) := (Soft.refl wr).set _ _
      have q3 := r3.soft sf
      have q4 := r4.soft sf
      have q5 := r5.soft sf
      have qb := b35.setCell (p := ⟨bb, off + k, none⟩) e2 (.float .f64 4635118810238550016)
      clear sf r3 r4 r5 b35
      go_wp2_with fail
      first | exact ⟨⟨k + 1, by omega, by go_num, qb, q3, q4, q5⟩, by simp [intOf]; omega⟩ | omega
    · go_wp2_with fail
      clear hlt hk
      go_loopw [37] (fun i wr => ∃ k : Nat, k ≤ L4.length ∧ i = .int .i64 k ∧ Below (w1.alloc (.cells #[] 22)).heap.size (w1.alloc (.cells #[] 22)) wr ∧ Wr (w1.alloc (.cells #[] 22)).heap.size wr a3 L3.length ∧ Wr (w1.alloc (.cells #[] 22)).heap.size wr a4 L4.length ∧ Wr (w1.alloc (.cells #[] 22)).heap.size wr a5 L5.length) (fun i _ => L4.length - (intOf i).toNat)
      case atStart => exact ⟨0, by omega, rfl, b35, r3, r4, r5⟩
      case round =>
        clear b35 r3 r4 r5
        obtain ⟨k, hk, rfl, b35, r3, r4, r5⟩ := hrel
        by_cases hlt : k < L4.length
        · obtain ⟨bb, off, v, e1, e2, e3, e4⟩ := r4 k hlt
          subst e1
          have sf : Soft wr (wr.setCell ⟨bb, off + k, none⟩ (.float .f64 4635118810238550016)) := (Soft.refl wr).set _ _
          have q3 := r3.soft sf
          have q4 := r4.soft sf
          have q5 := r5.soft sf
          have qb := b35.setCell (p := ⟨bb, off + k, none⟩) e2 (.float .f64 4635118810238550016)
          clear sf r3 r4 r5 b35
          go_wp2_with fail
          first | exact ⟨⟨k + 1, by omega, by go_num, qb, q3, q4, q5⟩, by simp [intOf]; omega⟩ | omega
        · go_wp2_with fail
          clear hlt hk
          go_loopw [46] (fun i wr => ∃ k : Nat, k ≤ L5.length ∧ i = .int .i64 k ∧ Below (w1.alloc (.cells #[] 22)).heap.size (w1.alloc (.cells #[] 22)) wr ∧ Wr (w1.alloc (.cells #[] 22)).heap.size wr a3 L3.length ∧ Wr (w1.alloc (.cells #[] 22)).heap.size wr a4 L4.length ∧ Wr (w1.alloc (.cells #[] 22)).heap.size wr a5 L5.length) (fun i _ => L5.length - (intOf i).toNat)
          case atStart => exact ⟨0, by omega, rfl, b35, r3, r4, r5⟩
          case round =>
            clear b35 r3 r4 r5
            obtain ⟨k, hk, rfl, b35, r3, r4, r5⟩ := hrel
            by_cases hlt : k < L5.length
            · obtain ⟨bb, off, v, e1, e2, e3, e4⟩ := r5 k hlt
              subst e1
              have sf : Soft wr (wr.setCell ⟨bb, off + k, none⟩ (.float .f64 4635118810238550016)) := (Soft.refl wr).set _ _
              have q3 := r3.soft sf
              have q4 := r4.soft sf
              have q5 := r5.soft sf
              have qb := b35.setCell (p := ⟨bb, off + k, none⟩) e2 (.float .f64 4635118810238550016)
              clear sf r3 r4 r5 b35
              go_wp2_with fail
              first | exact ⟨⟨k + 1, by omega, by go_num, qb, q3, q4, q5⟩, by simp [intOf]; omega⟩ | omega
            · go_wp2_with fail
              clear hlt hk
              have gI := hIx.keep b35
              have gh := h.keep b35
              have gb := b1.trans (b35.mono b1.size)
              clear hIx h b35 b1 r3 r4 r5
              go_loopw [55] (fun i wx => ∃ k : Nat, k ≤ 0 ∧ i = .int .i64 k ∧ Dr wr wx) (fun i _ => 0 - (intOf i).toNat)
              case atStart => exact ⟨0, by omega, rfl, Dr.refl _⟩
              case round =>
                obtain ⟨k, hk, rfl, hd⟩ := hrel
                · obtain rfl : k = 0 := by omega
                  replace gI := gI.keep (hd.below _)
                  replace gb := ebelow_trans gb (hd.below _)
                  go_wp2_with fail
                  refine Calls.mono (eftLists_walk _ _ _ xs b _ gI (by omega)) ?_
                  rintro e wz ⟨rfl, bz⟩
                  go_wp2_with fail
                  go_ret
                  exact ⟨rfl, ebelow_trans gb bz⟩

theorem eftOwn_walk (a : Option Addr) (len cap : Nat) (xs : List Nat) (b : Nat) (w : World) (h : IsF w a len cap xs) (hm : len ≤ 1048576) :
    Calls Try.prog 5 #[.slice a len cap, .float .f64 b] w fun e w' => e = .returned (.bool true) ∧ Below w.heap.size w w' := by
  cases a with
  | none => exact own_none len cap xs b w h
  | some ad => exact own_some ad len cap xs b w h hm
end Go.Proofs.Ytckpfohfbfmmnaa

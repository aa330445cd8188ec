/- The walk of Text. -/
import Derived.Test.YtkkldnnndlpblaaGreatDoorNChunk
import Derived.Test.YtkkldnnndlpblaaGreatDoorNFmt
import Derived.Test.YtkkldnnndlpblaaGreatDoorTMB
namespace Go.Proofs.YtkkldnnndlpblaaGreatDoor
open Go.RowKit

theorem builder_kept {T e : TypeId} {B b : Nat} {bs : List Value} {w w' : World} (h : Lib.IsBuilder T e B b bs w) (hb : Below w.heap.size w w') : Lib.IsBuilder T e B b bs w' := by
  have key : ∀ p, Lib.BuilderAt T e B b p bs w → Lib.BuilderAt T e B b p bs w' := fun p h => by
    obtain ⟨hB, v, hbk, hown, hne⟩ := h
    have hlt : b < w.heap.size := (Array.getElem?_eq_some_iff.1 hbk).1
    exact ⟨hB, v, (hb.block b hlt).trans hbk, hown.kept (below_grown hb none) (by cases v.ownBlock <;> simp), hne⟩
  exact h.elim (fun x => .inl (key _ x)) (fun x => .inr (key _ x))

theorem repeat_zero (c : Nat) : Lib.repeatL [48] c = List.replicate c 48 := by
  induction c with
  | zero => rfl
  | succ c ih => rw [Lib.repeatL, ih, List.replicate_succ]; rfl

theorem chunks_lt19 (n : Nat) : ∀ i, i + 1 < (chunksOf n).length → (chunksOf n).getD i 0 < 10000000000000000000 := by
  induction n using Nat.strongRecOn with
  | ind n ih =>
    intro i hi
    by_cases h : n < 18446744073709551616
    · rw [chunks_one h] at hi; simp at hi
    · rw [chunks_more h] at hi ⊢
      cases i with
      | zero => exact Nat.mod_lt n (by decide)
      | succ i => exact ih _ (by omega) i (by simpa using hi)

theorem nDigits_lt (c : Nat) (h : c < 18446744073709551616) : Lib.nDigits c ≤ 20 := nDigits_le 20 c (by omega) (by decide)

theorem textOf_len (L : List Nat) (h : ∀ x ∈ L, x < 18446744073709551616) : (textOf L).length ≤ 20 * L.length := by
  induction L with
  | nil => simp [textOf]
  | cons c L ih =>
    have hc := nDigits_lt c (h c List.mem_cons_self)
    cases L with
    | nil => show (Lib.decDigits c).length ≤ _; rw [Lib.decDigits_length]; simp; omega
    | cons d L =>
      have := ih (fun x hx => h x (List.mem_cons_of_mem _ hx))
      show (textOf (d :: L) ++ (List.replicate (19 - Lib.nDigits c) 48 ++ Lib.decDigits c)).length ≤ _
      rw [List.length_append, List.length_append, List.length_replicate, Lib.decDigits_length]
      simp only [List.length_cons] at this ⊢
      omega

theorem textOf_drop (L : List Nat) (k : Nat) (hk : k < L.length) : textOf (L.drop k) = if k + 1 < L.length then textOf (L.drop (k + 1)) ++ (List.replicate (19 - Lib.nDigits (L.getD k 0)) 48 ++ Lib.decDigits (L.getD k 0)) else Lib.decDigits (L.getD k 0) := by
  have e : L.drop k = L.getD k 0 :: L.drop (k + 1) := by
    rw [List.drop_eq_getElem_cons hk]; simp [List.getD, hk]
  rw [e]
  by_cases h : k + 1 < L.length
  · rw [if_pos h, textOf_cons]
    intro q
    have := congrArg List.length q
    rw [List.length_drop] at this; simp at this; omega
  · rw [if_neg h, List.drop_eq_nil_of_le (by omega)]; rfl

theorem asW_get (L : List Nat) (k : Nat) : (asW L).getD k 0 = ((L.getD k 0 : Nat) : Int) := by
  unfold asW
  rw [List.getD_eq_getElem?_getD, List.getD_eq_getElem?_getD, List.getElem?_map]
  cases L[k]? <;> rfl

theorem asW_U (L : List Nat) (h : ∀ x ∈ L, x < 18446744073709551616) : AllU (asW L) := fun x hx => by
  simp only [asW, List.mem_map] at hx
  obtain ⟨y, hy, rfl⟩ := hx
  have := h y hy
  omega

theorem getD_mem_lt (L : List Nat) (h : ∀ x ∈ L, x < 18446744073709551616) (k : Nat) : L.getD k 0 < 18446744073709551616 := by
  by_cases hk : k < L.length
  · have e : L.getD k 0 = L[k] := by simp [List.getD, hk]
    rw [e]; exact h _ (List.getElem_mem hk)
  · have e : L.getD k 0 = 0 := by simp [List.getD, hk]
    rw [e]; decide

set_option maxRecDepth 100000 in
set_option maxHeartbeats 4000000 in
theorem text_calls (a : Option Addr) (len cap : Nat) (xs : List Int) (w : World) (h : IsW w a len cap xs) (hm : len ≤ 17592186044416) (hT : TabP w) :
    Calls Tryz.prog 45 #[.slice a len cap] w fun e w' => (greatB (val xs) = true → e = .returned (.tuple #[.string ⟨#[]⟩, .int .i64 3])) ∧ (greatB (val xs) = false → e = .returned (.tuple #[.string ⟨(Lib.decDigits (val xs)).toArray⟩, .int .i64 0])) ∧ Below w.heap.size w w' := by
  have HT := trimN_pack a len cap xs w h hm
  go_enter Tryz.func45, Tryz.ntmps45
  go_wp2_with fail
  refine Calls.mono HT ?_
  rintro e w ⟨a1, n, rfl, hn, hI, rfl⟩
  have HN : Hid (n = (wordsOf (val xs)).length) := hn
  clear hn HT h hm
  go_wp2_with fail
  refine Calls.mono (great1_calls _ a1 n n _ (by go_simp)) ?_
  rintro e w1 ⟨rfl, rfl⟩
  by_cases hg : 1024 < n
  · have e0 : Hid (greatB (val xs) = true) := great_of_len HN.out hg
    go_wp2_with fail
    go_ret2
    exact ⟨fun _ => rfl, (fun q => by rw [e0.out] at q; cases q), below_one _ _⟩
  · have e0 : Hid (greatB (val xs) = false) := fit_of_len HN.out hg
    have hb := below_one w (.cells #[.slice a1 n n] 110)
    have hI2 := hI.keep hb
    have hT2 := hT.kept hb
    generalize w.alloc (.cells #[.slice a1 n n] 110) = w1 at hb hI2 hT2 ⊢
    clear hI hT
    go_wp2_with fail
    refine Calls.mono (chunks_calls a1 n (val xs) w1 hI2 (by omega)) ?_
    rintro e w2 ⟨g, cp, N, rfl, hNl, hO, hN1, hb2⟩
    have HNL : Hid (N = (chunksOf (val xs)).length) := hNl
    have hT3 := hT2.kept hb2
    have hbw := nbelow_trans hb hb2
    have hIC : IsW w2 (some ⟨g, 0, none⟩) N cp (asW (chunksOf (val xs))) := by
      have := hO.isW (asW_U _ (chunks_lt _))
      rw [asW_len, ← hNl] at this; exact this
    clear hNl hb hI2 hT2 hO hb2
    have HLT : Hid _ := chunks_lt (val xs)
    have HL19 : Hid _ := chunks_lt19 (val xs)
    have HTX : Hid (textOf (chunksOf (val xs)) = Lib.decDigits (val xs)) := text_chunks _
    obtain ⟨C, hC⟩ : ∃ C, C = chunksOf (val xs) := ⟨_, rfl⟩
    rw [← hC] at HNL hIC HLT HL19 HTX
    clear hC
    have hBl0 : Lib.IsBuilder 125 5 w2.heap.size w2.heap.size (Lib.byteCells []) (w2.alloc (.cells #[.pointer none, .slice none 0 0] 125)) :=
      .inl ⟨Nat.le_refl _, .slice none 0 0, heap_alloc_new _ _, World.ownsRow_nil _ _ _ _, (fun q => by cases q)⟩
    have hal := below_one w2 (.cells #[.pointer none, .slice none 0 0] 125)
    generalize hWB : w2.alloc (.cells #[.pointer none, .slice none 0 0] 125) = wb at hBl0 hal
    have HWB : Hid (w2.alloc (.cells #[.pointer none, .slice none 0 0] 125) = wb) := hWB
    clear hWB
    go_wp2_with fail
    go_loopw [7] (fun vi wr => ∃ (k : Nat) (l : List UInt8), k ≤ N ∧ vi = .int .i64 ((k : Int) - 1) ∧ Hid (l = textOf (C.drop k)) ∧ Lib.IsBuilder 125 5 w2.heap.size w2.heap.size (Lib.byteCells l) wr ∧ Below w2.heap.size w2 wr) (fun vi _ => (intOf vi + 1).toNat)
    case atStart => exact ⟨N, [], Nat.le_refl _, rfl, by rw [Hid, HNL.out, List.drop_length]; rfl, by rw [HWB.out]; exact hBl0, by rw [HWB.out]; exact hal⟩
    case round =>
      clear hBl0 hal HWB
      obtain ⟨k, l, hk, rfl, HL, hBl, hbr⟩ := hrel
      have hsz := hbr.size
      have hll : l.length ≤ 20840 := by
        have h1 := textOf_len (C.drop k) (fun x hx => HLT.out x (List.mem_of_mem_drop hx))
        rw [← HL.out, List.length_drop, ← HNL.out] at h1
        omega
      cases k with
      | zero =>
        have SC : Hid _ := Tryz.Builder_String_any w2.heap.size w2.heap.size l wr hBl hsz
        go_wp2_with fail
        refine Calls.mono SC.out ?_
        rintro e w3 ⟨rfl, hb3⟩
        have el : l = Lib.decDigits (val xs) := by rw [HL.out, List.drop_zero, HTX.out]
        subst el
        go_wp2_with fail
        go_ret2
        exact ⟨(fun q => by rw [e0.out] at q; cases q), fun _ => rfl, nbelow_trans hbw (hbr.trans hb3)⟩
      | succ k =>
        have ek : (((k + 1 : Nat) : Int) - 1) = (k : Int) := by omega
        rw [ek]
        obtain ⟨_, _, e1, hgl, hcell⟩ := hIC.2.2.2 k (by omega)
        simp only [Option.some.injEq, Addr.mk.injEq, and_true] at e1
        obtain ⟨rfl, rfl⟩ := e1
        rw [Nat.zero_add, asW_get] at hcell
        have hcell2 : wr.cell? ⟨g, k, none⟩ = some (.int .u64 ((C.getD k 0 : Nat) : Int)) := (hbr.cell (p := ⟨g, k, none⟩) hgl).trans hcell
        obtain ⟨c, hc⟩ : ∃ c, c = C.getD k 0 := ⟨_, rfl⟩
        have hc1 : c < 18446744073709551616 := by rw [hc]; exact getD_mem_lt C HLT.out k
        have HTD : Hid _ := textOf_drop C k (by rw [← HNL.out]; omega)
        have h19 : k + 1 < N → c < 10000000000000000000 := fun q => by rw [hc]; exact HL19.out k (by rw [← HNL.out]; exact q)
        have H19 : Hid (k + 1 < N → c < 10000000000000000000) := h19
        rw [← hc, ← HNL.out] at HTD
        rw [← hc] at hcell2
        have hT4 := hT3.kept hbr
        have FC : Hid _ := fmt_calls c hc1 wr hT4
        have hnd := nDigits_lt c hc1
        have hdl : (Lib.decDigits c).length = Lib.nDigits c := Lib.decDigits_length c
        have hsd : (⟨(Lib.decDigits c).toArray⟩ : ByteArray).size = Lib.nDigits c := by rw [← hdl]; rfl
        have HDL : Hid _ := hsd
        clear hc hcell h19 hdl ek hsd
        go_wp2_with fail
        refine Calls.mono FC.out ?_
        rintro e w3 ⟨rfl, hb3⟩
        have hBl3 := builder_kept hBl hb3
        have hbr3 : Below w2.heap.size w2 w3 := hbr.trans (hb3.mono hsz)
        have hsz3 := hbr3.size
        obtain ⟨S, hS⟩ : ∃ S : ByteArray, S = ⟨(Lib.decDigits c).toArray⟩ := ⟨_, rfl⟩
        rw [← hS] at HDL ⊢
        have HS : Hid (S = ⟨(Lib.decDigits c).toArray⟩) := hS
        have hSs : S.size = Lib.nDigits c := HDL.out
        clear hS FC hBl hbr hcell2 hT4
        by_cases hlast : k + 1 < N
        · have h19 := H19.out hlast
          have hn19 : Lib.nDigits c ≤ 19 := nDigits_le 19 c (by omega) (by decide)
          obtain ⟨z, hz⟩ : ∃ z : Nat, z = 19 - Lib.nDigits c := ⟨_, rfl⟩
          have ez : (19 : Int) - (S.size : Int) = (z : Int) := by omega
          have HZ : Hid (z = 19 - Lib.nDigits c) := hz
          have hz19 : z ≤ 19 := by omega
          have hSl : S.size ≤ 20 := by omega
          clear hz hSs h19 hn19
          have RC : Hid _ := Tryz.strings_Repeat ⟨#[48]⟩ z w3 (by omega) (by show 1 * z ≤ _; omega)
          go_wp2_with fail
          refine Calls.mono RC.out ?_
          rintro e w4 ⟨rfl, hb4⟩
          obtain ⟨Z, hZ⟩ : ∃ Z : ByteArray, Z = ⟨(Lib.repeatL (⟨#[48]⟩ : ByteArray).data.toList z).toArray⟩ := ⟨_, rfl⟩
          rw [← hZ]
          have hZl : Z.data.toList = List.replicate z 48 := by rw [hZ]; exact repeat_zero z
          have hZs : Z.size = z := by
            have := congrArg List.length hZl
            rw [List.length_replicate, Array.length_toList] at this; exact this
          have HZL : Hid _ := hZl
          have hBl4 := builder_kept hBl3 hb4
          have hbr4 : Below w2.heap.size w2 w4 := hbr3.trans (hb4.mono hsz3)
          have hsz4 := hbr4.size
          have WC : Hid _ := write_calls w2.heap.size w2.heap.size (Lib.byteCells l) Z w4 hBl4 (by rw [Lib.byteCells_length]; omega) hsz4
          clear hZ hZl RC hBl3 hb4
          go_wp2_with fail
          refine Calls.mono WC.out ?_
          rintro e w5 ⟨rfl, hB5, hb5⟩
          have hbr5 : Below w2.heap.size w2 w5 := hbr4.trans hb5
          have hsz5 := hbr5.size
          have WD : Hid _ := write_calls w2.heap.size w2.heap.size (Lib.byteCells l ++ Lib.strCells Z) S w5 (.inr hB5) (by rw [List.length_append, Lib.byteCells_length, Lib.strCells_length]; omega) hsz5
          clear WC hBl4 hbr4 hb5 hbr3
          go_wp2_with fail
          refine Calls.mono WD.out ?_
          rintro e w6 ⟨rfl, hB6, hb6⟩
          have hbr6 : Below w2.heap.size w2 w6 := hbr5.trans hb6
          have HB6 : Hid _ := hB6
          clear WD hB6 hB5 hb6 hbr5
          go_wp2_with fail
          refine ⟨⟨k, l ++ (List.replicate z 48 ++ Lib.decDigits c), by omega, rfl, ?_, ?_, hbr6⟩, by simp [RowKit.intOf]⟩
          · rw [Hid, HTD.out, if_pos hlast, HL.out, HZ.out]
          · have := HB6.out
            rw [Lib.strCells_eq, Lib.strCells_eq, HZL.out, List.append_assoc, ← Lib.byteCells_append, ← Lib.byteCells_append, HS.out] at this
            exact .inr this
        · have WD : Hid _ := write_calls w2.heap.size w2.heap.size (Lib.byteCells l) S w3 hBl3 (by rw [Lib.byteCells_length]; omega) hsz3
          go_wp2_with fail
          refine Calls.mono WD.out ?_
          rintro e w6 ⟨rfl, hB6, hb6⟩
          have hbr6 : Below w2.heap.size w2 w6 := hbr3.trans hb6
          have HB6 : Hid _ := hB6
          clear WD hB6 hb6 hbr3
          have hl0 : l = [] := by rw [HL.out, List.drop_eq_nil_of_le (by rw [← HNL.out]; omega)]; rfl
          have HL0 : Hid (l = []) := hl0
          clear hl0
          go_wp2_with fail
          refine ⟨⟨k, Lib.decDigits c, by omega, rfl, ?_, ?_, hbr6⟩, by simp [RowKit.intOf]⟩
          · rw [Hid, HTD.out, if_neg hlast]
          · have := HB6.out
            rw [HL0.out, Lib.strCells_eq, ← Lib.byteCells_append, HS.out, List.nil_append] at this
            exact .inr this

end Go.Proofs.YtkkldnnndlpblaaGreatDoor

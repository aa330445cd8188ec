/- Package consts: a series, summed. -/
import Derived.Test.YtkkldnnndlpblaaGreatDoorCF3
import Derived.LoopN
namespace Go.Proofs.YtkkldnnndlpblaaGreatDoor
open Go.RowKit Ck

/-- two sums in block b, their words in no block of Z -/
def SumsAt (Z : Nat → Prop) (b : Nat) (w : World) (s0 s1 : Nat) : Prop := ∃ (a0 : Option Addr) (n0 c0 : Nat) (a1 : Option Addr) (n1 c1 : Nat), w.cell? ⟨b, 0, none⟩ = some (.slice a0 n0 c0) ∧ w.frozen? ⟨b, 0, none⟩ = false ∧ w.cell? ⟨b, 1, none⟩ = some (.slice a1 n1 c1) ∧ w.frozen? ⟨b, 1, none⟩ = false ∧ n0 ≤ 1024 ∧ IsW w a0 n0 c0 (wordsOf s0) ∧ NoS Z a0 n0 ∧ n1 ≤ 1024 ∧ IsW w a1 n1 c1 (wordsOf s1) ∧ NoS Z a1 n1
theorem SumsAt.keep {Z S : Nat → Prop} {b : Nat} {w w' : World} {s0 s1 : Nat} (h : SumsAt Z b w s0 s1) (K : Ks S w w') (hb : ¬ S b) (hZ : ∀ k, S k → Z k) : SumsAt Z b w' s0 s1 := by
  obtain ⟨a0, n0, c0, a1, n1, c1, k1, k2, k3, k4, k5, k6, k7, k8, k9, k10⟩ := h
  exact ⟨a0, n0, c0, a1, n1, c1, K.cell k1 hb, K.frozen k1 hb k2, K.cell k3 hb, K.frozen k3 hb k4, k5, k6.keepS (fun x o e hn hx => k7 x o e hn (hZ x hx)) K, k7, k8, k9.keepS (fun x o e hn hx => k10 x o e hn (hZ x hx)) K, k10⟩
theorem SumsAt.mono {Z Y : Nat → Prop} {b : Nat} {w : World} {s0 s1 : Nat} (h : SumsAt Z b w s0 s1) (hY : ∀ k, k < w.heap.size → Y k → Z k) : SumsAt Y b w s0 s1 := by
  obtain ⟨a0, n0, c0, a1, n1, c1, k1, k2, k3, k4, k5, k6, k7, k8, k9, k10⟩ := h
  have key : ∀ (a : Option Addr) (n c s : Nat), IsW w a n c (wordsOf s) → NoS Z a n → NoS Y a n := fun a n c s hi hz x o e hn hx => by
    obtain ⟨b', o', e1, e2, -⟩ := hi.2.2.2 0 hn
    rw [e] at e1
    simp only [Option.some.injEq, Addr.mk.injEq, and_true] at e1
    obtain ⟨rfl, rfl⟩ := e1
    exact hz x o e hn (hY x e2 hx)
  exact ⟨a0, n0, c0, a1, n1, c1, k1, k2, k3, k4, k5, k6, key _ _ _ _ k6 k7, k8, k9, key _ _ _ _ k9 k10⟩
/-- a greater sum, stored -/
theorem SumsAt.put0 {Z : Nat → Prop} {b : Nat} {w : World} {s0 s1 r : Nat} {a : Option Addr} {n c : Nat} (h : SumsAt Z b w s0 s1) (hZ : Z b) (hn : n ≤ 1024) (hi : IsW w a n c (wordsOf r)) (hz : NoS Z a n) : SumsAt Z b (w.setCell ⟨b, 0, none⟩ (.slice a n c)) r s1 := by
  obtain ⟨a0, n0, c0, a1, n1, c1, k1, k2, k3, k4, k5, k6, k7, k8, k9, k10⟩ := h
  obtain ⟨t1, t2, t3⟩ := st1 (S := fun k => k = b) (.slice a n c) k1 k2 rfl
  have e1 : (w.setCell ⟨b, 0, none⟩ (.slice a n c)).cell? ⟨b, 1, none⟩ = some (.slice a1 n1 c1) := (World.cell?_setCell_other w ⟨b, 0, none⟩ ⟨b, 1, none⟩ (.slice a n c) (by simp)).trans k3
  exact ⟨a, n, c, a1, n1, c1, t1, t2, e1, (World.frozen?_setCell w _ _ _).trans k4, hn, hi.keepS (fun x o e hn hx => hz x o e hn (by rw [hx]; exact hZ)) t3, hz, k8, k9.keepS (fun x o e hn hx => k10 x o e hn (by rw [hx]; exact hZ)) t3, k10⟩
theorem SumsAt.put1 {Z : Nat → Prop} {b : Nat} {w : World} {s0 s1 r : Nat} {a : Option Addr} {n c : Nat} (h : SumsAt Z b w s0 s1) (hZ : Z b) (hn : n ≤ 1024) (hi : IsW w a n c (wordsOf r)) (hz : NoS Z a n) : SumsAt Z b (w.setCell ⟨b, 1, none⟩ (.slice a n c)) s0 r := by
  obtain ⟨a0, n0, c0, a1, n1, c1, k1, k2, k3, k4, k5, k6, k7, k8, k9, k10⟩ := h
  obtain ⟨t1, t2, t3⟩ := st1 (S := fun k => k = b) (.slice a n c) k3 k4 rfl
  have e1 : (w.setCell ⟨b, 1, none⟩ (.slice a n c)).cell? ⟨b, 0, none⟩ = some (.slice a0 n0 c0) := (World.cell?_setCell_other w ⟨b, 1, none⟩ ⟨b, 0, none⟩ (.slice a n c) (by simp)).trans k1
  exact ⟨a0, n0, c0, a, n, c, e1, (World.frozen?_setCell w _ _ _).trans k2, t1, t2, k5, k6.keepS (fun x o e hn hx => k7 x o e hn (by rw [hx]; exact hZ)) t3, k7, hn, hi.keepS (fun x o e hn hx => hz x o e hn (by rw [hx]; exact hZ)) t3, hz⟩

theorem sm_step (p : Pt) (w j : Nat) (s : Bool) : sm p w s (j + 1) = sm p w s j + if sd p j = s then term p w j else 0 := rfl
theorem step_t {p : Pt} {w j : Nat} (h : sd p j = true) : sm p w true (j + 1) = sm p w true j + term p w j ∧ sm p w false (j + 1) = sm p w false j := by
  rw [sm_step, sm_step, h]; exact ⟨rfl, rfl⟩
theorem step_f {p : Pt} {w j : Nat} (h : sd p j = false) : sm p w false (j + 1) = sm p w false j + term p w j ∧ sm p w true (j + 1) = sm p w true j := by
  rw [sm_step, sm_step, h]; exact ⟨rfl, rfl⟩
theorem words_len0 {n x : Nat} (h : n = (wordsOf x).length) : (n = 0) ↔ x = 0 := by
  rw [h]
  by_cases hx : x = 0
  · rw [hx, words_zero]; simp
  · rw [words_pos x hx]; simp [hx]

set_option maxRecDepth 100000 in
set_option maxHeartbeats 4000000 in
theorem sumUp_calls (p : Pt) (hp : ok p) (wd : Nat) (hwd : wd ≤ 16500) (b s0 s1 : Nat) (w : World) (h : SumsAt (fun k => k = b) b w s0 s1) (g0 : greatB (s0 + sm p wd false (cnt p wd)) = false) (g1 : greatB (s1 + sm p wd true (cnt p wd)) = false) :
    Calls Tryz.prog 65 #[PV p, .int .i64 (wd : Int), .pointer (some ⟨b, 0, none⟩)] w fun r w' => r = .returned (.int .u64 ((cnt p wd : Int) + 2)) ∧ Ks (fun k => k = b) w w' ∧ SumsAt (fun k => k = b) b w' (s0 + sm p wd false (cnt p wd)) (s1 + sm p wd true (cnt p wd)) := by
  have hbl : b < w.heap.size := by obtain ⟨a0, n0, c0, a1, n1, c1, k1, -⟩ := h; exact World.block_lt_of_cell? _ _ k1
  obtain ⟨t1, t2, t3⟩ := cnt_spec p hp wd
  have HT1 : Hid _ := t1
  have HT2 : Hid _ := t2
  have HT : Hid _ := fun (W : World) => terms_calls p hp wd hwd W
  have bA := below_alloc w (.cells #[.int .u8 (p.kind : Int), .int .u64 (p.t : Int), .int .u64 (p.a : Int), .bool p.off] 102)
  have hA := h.keep (Ks.of_below (S := fun _ => False) bA) (fun e => e) (fun _ e => e.elim)
  clear h t1 t2
  unfold PV
  go_enter Tryz.func65, Tryz.ntmps65
  go_wp2_with fail
  generalize w.alloc (.cells #[.int .u8 (p.kind : Int), .int .u64 (p.t : Int), .int .u64 (p.a : Int), .bool p.off] 102) = w0 at *
  refine Calls.mono (HT.out _) ?_
  rintro r w1 ⟨v, rfl, HN, b1⟩
  obtain ⟨F, caps, S, St, rfl, hBC, hS, hst, hkeep, hnext⟩ := HN
  have hrun : ∀ (xs : Array Value) (w : World), Sem.run Tryz.prog (callFunc F xs) w = .ok (.enter F xs) w := hBC
  have z0 := bA.size
  have nSb : ¬ S b := fun e => by have := (hS b e).1; omega
  have H1 := (hA.mono (Y := fun k => k = b ∨ S k) (fun k hk e => e.elim id (fun e => by have := (hS k e).1; omega))).keep (Ks.of_below (S := fun _ => False) b1) (fun e => e) (fun _ e => e.elim)
  clear hA HT hBC
  have HS : Hid _ := hS
  have HK : Hid _ := hkeep
  have HX : Hid _ := hnext
  clear hS hkeep hnext
  go_wp2_with fail
  go_loopw [8, 9, 10] (fun cv _ _ wr => ∃ j : Nat, j ≤ cnt p wd ∧ cv = .int .u64 (j : Int) ∧ St j wr ∧ SumsAt (fun k => k = b ∨ S k) b wr (s0 + sm p wd false j) (s1 + sm p wd true j) ∧ Ks (fun k => k = b ∨ S k) w1 wr) (fun cv _ _ _ => cnt p wd - (intOf cv).toNat)
  case atStart => exact ⟨0, Nat.zero_le _, rfl, hst, H1, Ks.of_below (Below.refl _ _)⟩
  case round =>
    clear hst H1
    obtain ⟨j, hj, rfl, hst, hsum, hK⟩ := hrel
    have hz := hK.2.2.2.1
    have HX2 : Hid _ := HX.out j wr (by omega) hz hst
    have hw1 : IntKind.u64.wrap ((j : Int) + 2) = (j : Int) + 2 := by rw [IntKind.wrap_u64]; omega
    have hw2 : IntKind.u64.wrap ((j : Int) + 1) = ((j + 1 : Nat) : Int) := by rw [IntKind.wrap_u64]; omega
    have hb0 : b < wr.heap.size := by have := b1.size; omega
    rcases Bool.eq_false_or_eq_true (sd p j) with hsd | hsd
    · have e1 : sdI p.off (p.kind == 0 && j % 2 == 1) = if sd p j = true then 1 else 0 := rfl
      rw [e1, hsd, if_pos rfl] at HX2
      obtain ⟨q1, q2⟩ := step_t (w := wd) hsd

      go_wp2_with fail
      refine Calls.mono HX2.out ?_
      rintro r w2 ⟨ao, n, c, rfl, hn, hi, hnw, hst2, hk2⟩
      have hsum2 := hsum.keep hk2 nSb (fun k e => Or.inr e)
      have hK2 := hK.trans (hk2.mono (fun k _ e => Or.inr e))
      have hz2 := hk2.2.2.2.1
      clear hst hsum hK HX2 hk2
      by_cases h0 : n = 0
      · subst h0
        have hj2 : j = cnt p wd := by
          have := (words_len0 hi.1).1 rfl
          exact Nat.le_antisymm hj (Nat.le_of_not_lt fun hl => HT2.out j hl this)
        subst hj2
        go_wp2_with fail
        go_ret
        refine ⟨rfl, ?_, hsum2.mono (fun k _ e => Or.inl e)⟩
        have k1 := ((Ks.of_below (S := fun k => k = b ∨ S k) bA).trans (Ks.of_below b1)).trans hK2
        exact k1.mono (fun k hk e => e.elim id (fun e => by have := (HS.out k e).1; omega))
      · have hj2 : j < cnt p wd := by
          refine Nat.lt_of_le_of_ne hj fun e => h0 ((words_len0 hi.1).2 ?_)
          rw [e]; exact HT1.out
        have hn0 : ¬ ((n : Int) = 0) := by omega
        have hsum3 := hsum2
        obtain ⟨a0, n0, c0, a1, n1, c1, k1, k2, k3, k4, k5, k6, k7, k8, k9, k10⟩ := hsum2
        have gg : greatB (s1 + sm p wd true j + term p wd j) = false := great_mono (by have := sm_mono p wd true (j + 1) (cnt p wd) hj2; omega) g1
        have hmono := sm_mono p wd true (j + 1) (cnt p wd) hj2
        have bD : Below w2.heap.size w2 w2.drew := (Below.refl _ _).drew
        have PC : Hid _ := fPlus_calls (k9.keepB bD) (hi.keepB bD) k8 hn gg
        clear hmono gg hi k6 k9
        go_wp2_with fail
        go_region_with (go_at_call 68; refine Calls.mono PC.out ?_; rintro r w3 ⟨a5, m5, c5, rfl, hm5, hO5, b5⟩; have b6 := below_trans bD b5; have j0 := cKeep b6 k3; have j1 := fKeep b6 k3 k4)
        all_goals
          have z5 : w1.heap.size ≤ w2.heap.size := Nat.le_trans hz hz2
          have NZ : NoS (fun k => k = b ∨ S k) a5 m5 := hO5.nw.noS (fun k e => e.elim (fun q => by rw [q]; show b < w2.heap.size; omega) (fun q => Nat.lt_of_lt_of_le (HS.out k q).2 z5))
          have S3 := (hsum3.keep (Ks.of_below (S := fun _ => False) b6) (fun e => e) (fun _ e => e.elim)).put1 (Or.inl rfl) hm5 hO5.1 NZ
          have t3 := (st1 (S := fun k => k = b) (.slice a5 m5 c5) j0 j1 rfl).2.2
          have hst3 := HK.out _ _ _ (HK.out _ _ _ hst2 (Ks.of_below b6)) (t3.mono (fun k _ e => by show k < w0.heap.size; omega))
          have K3 := (hK2.trans (Ks.of_below b6)).trans (t3.mono (fun _ _ e => Or.inl e))
          rw [Nat.add_assoc, ← q1, ← q2] at S3
          clear hsum3 hst2 hK2 b5 b6 bD hO5 NZ t3 j0 j1 k1 k2 k3 k4 k7 k10 PC q1 q2
          generalize w3.setCell ⟨b, 1, none⟩ (.slice a5 m5 c5) = w4 at *
          go_wp2_with fail
          go_roundw
          case rel => exact ⟨j + 1, hj2, rfl, hst3, S3, K3⟩
          case measure => simp only [intOf]; omega
    · have e1 : sdI p.off (p.kind == 0 && j % 2 == 1) = if sd p j = true then 1 else 0 := rfl
      rw [e1, hsd, if_neg (by decide)] at HX2
      obtain ⟨q1, q2⟩ := step_f (w := wd) hsd

      go_wp2_with fail
      refine Calls.mono HX2.out ?_
      rintro r w2 ⟨ao, n, c, rfl, hn, hi, hnw, hst2, hk2⟩
      have hsum2 := hsum.keep hk2 nSb (fun k e => Or.inr e)
      have hK2 := hK.trans (hk2.mono (fun k _ e => Or.inr e))
      have hz2 := hk2.2.2.2.1
      clear hst hsum hK HX2 hk2
      by_cases h0 : n = 0
      · subst h0
        have hj2 : j = cnt p wd := by
          have := (words_len0 hi.1).1 rfl
          exact Nat.le_antisymm hj (Nat.le_of_not_lt fun hl => HT2.out j hl this)
        subst hj2
        go_wp2_with fail
        go_ret
        refine ⟨rfl, ?_, hsum2.mono (fun k _ e => Or.inl e)⟩
        have k1 := ((Ks.of_below (S := fun k => k = b ∨ S k) bA).trans (Ks.of_below b1)).trans hK2
        exact k1.mono (fun k hk e => e.elim id (fun e => by have := (HS.out k e).1; omega))
      · have hj2 : j < cnt p wd := by
          refine Nat.lt_of_le_of_ne hj fun e => h0 ((words_len0 hi.1).2 ?_)
          rw [e]; exact HT1.out
        have hn0 : ¬ ((n : Int) = 0) := by omega
        have hsum3 := hsum2
        obtain ⟨a0, n0, c0, a1, n1, c1, k1, k2, k3, k4, k5, k6, k7, k8, k9, k10⟩ := hsum2
        have gg : greatB (s0 + sm p wd false j + term p wd j) = false := great_mono (by have := sm_mono p wd false (j + 1) (cnt p wd) hj2; omega) g0
        have hmono := sm_mono p wd false (j + 1) (cnt p wd) hj2
        have bD : Below w2.heap.size w2 w2.drew := (Below.refl _ _).drew
        have PC : Hid _ := fPlus_calls (k6.keepB bD) (hi.keepB bD) k5 hn gg
        clear hmono gg hi k6 k9
        go_wp2_with fail
        go_region_with (go_at_call 68; refine Calls.mono PC.out ?_; rintro r w3 ⟨a5, m5, c5, rfl, hm5, hO5, b5⟩; have b6 := below_trans bD b5; have j0 := cKeep b6 k1; have j1 := fKeep b6 k1 k2)
        all_goals
          have z5 : w1.heap.size ≤ w2.heap.size := Nat.le_trans hz hz2
          have NZ : NoS (fun k => k = b ∨ S k) a5 m5 := hO5.nw.noS (fun k e => e.elim (fun q => by rw [q]; show b < w2.heap.size; omega) (fun q => Nat.lt_of_lt_of_le (HS.out k q).2 z5))
          have S3 := (hsum3.keep (Ks.of_below (S := fun _ => False) b6) (fun e => e) (fun _ e => e.elim)).put0 (Or.inl rfl) hm5 hO5.1 NZ
          have t3 := (st1 (S := fun k => k = b) (.slice a5 m5 c5) j0 j1 rfl).2.2
          have hst3 := HK.out _ _ _ (HK.out _ _ _ hst2 (Ks.of_below b6)) (t3.mono (fun k _ e => by show k < w0.heap.size; omega))
          have K3 := (hK2.trans (Ks.of_below b6)).trans (t3.mono (fun _ _ e => Or.inl e))
          rw [Nat.add_assoc, ← q1, ← q2] at S3
          clear hsum3 hst2 hK2 b5 b6 bD hO5 NZ t3 j0 j1 k1 k2 k3 k4 k7 k10 PC q1 q2
          generalize w3.setCell ⟨b, 0, none⟩ (.slice a5 m5 c5) = w4 at *
          go_wp2_with fail
          go_roundw
          case rel => exact ⟨j + 1, hj2, rfl, hst3, S3, K3⟩
          case measure => simp only [intOf]; omega
end Go.Proofs.YtkkldnnndlpblaaGreatDoor

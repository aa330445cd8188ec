/- The walk of ConstsOwn: answers are new memory. -/
import Derived.LoopN
import Derived.Test.YtkkldnnndlpblaaGreatDoorCMC
import Derived.Test.YtkkldnnndlpblaaGreatDoorCDZ
namespace Go.Proofs.YtkkldnnndlpblaaGreatDoor
open Go.RowKit Ck

/-- What is no word stays, a word stays a word, and what may be written may be. -/
def Spo (w w' : World) : Prop := (∀ (p : Addr) (v : Value), w.cell? p = some v → (∀ j : Int, v ≠ .int .u64 j) → w'.cell? p = some v) ∧ (∀ (p : Addr) (j : Int), w.cell? p = some (.int .u64 j) → ∃ j', w'.cell? p = some (.int .u64 j')) ∧ ∀ p, w'.frozen? p = w.frozen? p

theorem Spo.refl (w : World) : Spo w w := ⟨fun _ _ h _ => h, fun _ j h => ⟨j, h⟩, fun _ => rfl⟩

theorem Spo.set {a b : World} (h : Spo a b) (q : Addr) {j0 : Int} (hq : a.cell? q = some (.int .u64 j0)) (x : Int) : Spo a (b.setCell q (.int .u64 x)) := by
  obtain ⟨j1, hq1⟩ := h.2.1 q j0 hq
  refine ⟨fun p v hp hv => ?_, fun p j hp => ?_, fun p => (World.frozen?_setCell b _ _ _).trans (h.2.2 p)⟩
  · have hne : q ≠ p := fun e => by
      rw [← e, hq] at hp
      injection hp with hp
      exact hv _ hp.symm
    rw [World.cell?_setCell_other _ _ _ _ hne]
    exact h.1 p v hp hv
  · by_cases e : q = p
    · subst e
      exact ⟨x, World.cell?_setCell_same _ _ _ hq1⟩
    · rw [World.cell?_setCell_other _ _ _ _ e]
      exact h.2.1 p j hp

/-- The words of a list, from block B on, may be written. -/
def Wro (B : Nat) (w : World) (a : Option Addr) (n : Nat) : Prop := ∀ i, i < n → ∃ b off j, a = some ⟨b, off, none⟩ ∧ B ≤ b ∧ w.cell? ⟨b, off + i, none⟩ = some (.int .u64 j) ∧ w.frozen? ⟨b, off + i, none⟩ = false

theorem Wro.of {B : Nat} {w : World} {a : Option Addr} {n c : Nat} {xs : List Int} (h : OwnW B w a n c xs) : Wro B w a n := fun i hi => by
  obtain ⟨b, off, e1, e2, e3⟩ := h.1.2.2.2 i hi
  obtain ⟨h1, h2⟩ := h.2 b off i e1 hi
  exact ⟨b, off, _, e1, h1, e3, h2⟩

theorem Wro.sp {B : Nat} {w w' : World} {a : Option Addr} {n : Nat} (h : Wro B w a n) (k : Spo w w') : Wro B w' a n := fun i hi => by
  obtain ⟨b, off, j, e1, e2, e3, e4⟩ := h i hi
  obtain ⟨j', q⟩ := k.2.1 _ _ e3
  exact ⟨b, off, j', e1, e2, q, (k.2.2 _).trans e4⟩

theorem bitO_calls (k n : Int) (h0 : 0 ≤ k) (h1 : k ≤ 255) (w : World) (hT : RecT w) :
    Calls Tryz.prog 18 #[.int .u8 k, .int .i64 n] w fun r w' => ∃ (ao : Option Addr) (m d : Nat) (xs : List Int) (E : Int), r = .returned (.tuple #[.slice ao m d, .int .i64 E]) ∧ m ≤ 1024 ∧ OwnW w.heap.size w' ao m d xs ∧ Below w.heap.size w w' := by
  refine (bitsC_calls k n h0 h1 w hT).mono ?_
  rintro r w' ⟨hr, hb⟩
  rcases hr with ⟨-, e⟩ | ⟨K, N, -, -, -, -, -, -, hr⟩
  · exact ⟨none, 0, 0, [], _, e, by decide, ownW_nil _ _, hb⟩
  · rcases hr with ⟨ao, m, d, q, e, hm, hO, -⟩ | ⟨e, -⟩
    · exact ⟨ao, m, d, _, 0, e, hm, hO, hb⟩
    · exact ⟨none, 0, 0, [], _, e, by decide, ownW_nil _ _, hb⟩

attribute [local go_sem ↓] Go.wp_at_zero Go.wp_at_succ

set_option maxRecDepth 100000 in
set_option maxHeartbeats 8000000 in
theorem constsOwn_walk (k p : Int) (w : World) (hk : 0 ≤ k ∧ k ≤ 255) (hp : -9223372036854775808 ≤ p ∧ p ≤ 9223372036854775807) (hT : RecT w ∧ TabP w ∧ Tab w) :
    Calls Tryz.prog 8 #[.int .u8 k, .int .i64 p] w fun r w' => r = .returned (.bool true) ∧ Below w.heap.size w w' := by
  obtain ⟨hT, hP, hB⟩ := hT
  have LC : Hid _ := cLives_calls w hT hP
  have C1 : Hid _ := fun W (b : Below w.heap.size w W) => constE_calls k p hk.1 hk.2 hp W (hT.kept b) (hB.kept b)
  have C2 : Hid _ := fun W (b : Below w.heap.size w W) => bitO_calls k p hk.1 hk.2 W (hT.kept b)
  have C3 : Hid _ := fun W (b : Below w.heap.size w W) => constsEnclose_walk k p W hk hp ⟨hT.kept b, hP.kept b, hB.kept b⟩
  have C4 : Hid _ := fun W (b : Below w.heap.size w W) => constsTold_walk k p W hk hp ⟨hT.kept b, hP.kept b⟩
  clear hT hP hB hk hp
  go_enter Tryz.func8, Tryz.ntmps8
  go_wp2_with fail
  refine Calls.mono LC.out ?_
  rintro r w1 ⟨rfl, bA⟩
  clear LC
  go_wp2_with fail
  have lb := bA.size
  refine Calls.mono (C1.out _ bA) ?_
  rintro r w2 ⟨x, y, E, rfl, -, ox, oy, bN⟩
  have hO1 := ox.1.low lb
  have hO2 := oy.1.low lb
  have hn1 := ox.2
  have hn2 := oy.2
  replace bA := nbelow_trans bA bN
  clear bN ox oy lb
  have A := att_new x y w2
  have bN := below_one w2 (obT x y)
  replace hO1 := hO1.keep bN
  replace hO2 := hO2.keep bN
  replace bA := nbelow_trans bA bN
  clear bN
  go_upto_region 4 with fail
  generalize w2.alloc (obT x y) = w3 at *
  generalize w2.heap.size = b1 at *
  go_wp2_with fail
  have lb := bA.size
  refine Calls.mono (C2.out _ bA) ?_
  rintro r w4 ⟨a3, n3, c3, xs, E2, rfl, hn3, hO3, bN⟩
  replace hO3 := hO3.low lb
  replace hO1 := hO1.keep bN
  replace hO2 := hO2.keep bN
  obtain ⟨-, u1, -, -, u4, -⟩ := A.keep bN
  replace bA := nbelow_trans bA bN
  have HW1 : Hid (Wro w.heap.size w4 x.2.1 x.2.2.1) := Wro.of hO1
  have HW2 : Hid (Wro w.heap.size w4 y.2.1 y.2.2.1) := Wro.of hO2
  have HW3 : Hid (Wro w.heap.size w4 a3 n3) := Wro.of hO3
  obtain ⟨xs0, xa, xn, xc, xx, xe⟩ := x
  obtain ⟨ys0, ya, yn, yc, yy, ye⟩ := y
  simp only at u1 u4 hn1 hn2 HW1 HW2
  clear hO1 hO2 hO3 A bN lb C1 C2
  go_wp2_with fail
  go_loopw [30] (fun vi wr => ∃ i : Nat, i ≤ xn ∧ vi = .int .i64 (i : Int) ∧ Below w.heap.size w wr ∧ Spo w4 wr) (fun vi _ => xn - (intOf vi).toNat)
  case atStart => exact ⟨0, by omega, rfl, bA, Spo.refl _⟩
  case round =>
    obtain ⟨i, hi, rfl, hr, hs⟩ := hrel
    have g1 := hs.1 _ _ u1 (fun j q => by cases q)
    by_cases hlt : i < xn
    · clear C3 C4
      obtain ⟨b, off, j, e1, hb, e3, e4⟩ := HW1.out i hlt
      subst e1
      obtain ⟨j', e5⟩ := hs.2.1 _ _ e3
      have e6 := (hs.2.2 ⟨b, off + i, none⟩).trans e4
      have hs2 := hs.set ⟨b, off + i, none⟩ e3 77
      have hr2 := hr.setCell (p := ⟨b, off + i, none⟩) hb (.int .u64 77)
      clear hs hr e3 e4
      go_wp2_with fail
      refine ⟨⟨i + 1, by omega, by go_num, hr2, hs2⟩, by simp [intOf]; omega⟩
    · have hin : i = xn := by omega
      subst hin
      clear hlt hi
      replace u4 := hs.1 _ _ u4 (fun j q => by cases q)
      replace HW2 : Hid (Wro w.heap.size wr ya yn) := Wro.sp HW2.out hs
      replace HW3 : Hid (Wro w.heap.size wr a3 n3) := Wro.sp HW3.out hs
      replace bA := hr
      clear HW1 hs g1 hr u1
      go_wp2_with fail
      go_loopw [43] (fun vi wq => ∃ i : Nat, i ≤ yn ∧ vi = .int .i64 (i : Int) ∧ Below w.heap.size w wq ∧ Spo wr wq) (fun vi _ => yn - (intOf vi).toNat)
      case atStart => exact ⟨0, by omega, rfl, bA, Spo.refl _⟩
      case round =>
        obtain ⟨i, hi, rfl, hr, hs⟩ := hrel
        have g1 := hs.1 _ _ u4 (fun j q => by cases q)
        by_cases hlt : i < yn
        · clear C3 C4
          obtain ⟨b, off, j, e1, hb, e3, e4⟩ := HW2.out i hlt
          subst e1
          obtain ⟨j', e5⟩ := hs.2.1 _ _ e3
          have e6 := (hs.2.2 ⟨b, off + i, none⟩).trans e4
          have hs2 := hs.set ⟨b, off + i, none⟩ e3 77
          have hr2 := hr.setCell (p := ⟨b, off + i, none⟩) hb (.int .u64 77)
          clear hs hr e3 e4
          go_wp2_with fail
          refine ⟨⟨i + 1, by omega, by go_num, hr2, hs2⟩, by simp [intOf]; omega⟩
        · have hin : i = yn := by omega
          subst hin
          clear hlt hi
          replace HW3 : Hid (Wro w.heap.size wr a3 n3) := Wro.sp HW3.out hs
          replace bA := hr
          clear HW2 hs g1 hr u4
          go_wp2_with fail
          go_loopw [54] (fun vi wp => ∃ i : Nat, i ≤ n3 ∧ vi = .int .i64 (i : Int) ∧ Below w.heap.size w wp ∧ Spo wr wp) (fun vi _ => n3 - (intOf vi).toNat)
          case atStart => exact ⟨0, by omega, rfl, bA, Spo.refl _⟩
          case round =>
            obtain ⟨i, hi, rfl, hr, hs⟩ := hrel
            by_cases hlt : i < n3
            · clear C3 C4
              obtain ⟨b, off, j, e1, hb, e3, e4⟩ := HW3.out i hlt
              subst e1
              obtain ⟨j', e5⟩ := hs.2.1 _ _ e3
              have e6 := (hs.2.2 ⟨b, off + i, none⟩).trans e4
              have hs2 := hs.set ⟨b, off + i, none⟩ e3 77
              have hr2 := hr.setCell (p := ⟨b, off + i, none⟩) hb (.int .u64 77)
              clear hs hr e3 e4
              go_wp2_with fail
              refine ⟨⟨i + 1, by omega, by go_num, hr2, hs2⟩, by simp [intOf]; omega⟩
            · have hin : i = n3 := by omega
              subst hin
              clear hlt hi
              replace bA := hr
              clear HW3 hs hr
              go_wp2_with fail
              refine Calls.mono (C3.out _ bA) ?_
              rintro r w9 ⟨rfl, bN⟩
              replace bA := nbelow_trans bA bN
              clear bN
              go_wp2_with fail
              refine Calls.mono (C4.out _ bA) ?_
              rintro r w8 ⟨rfl, bN⟩
              go_wp2_with fail
              go_ret
              exact ⟨rfl, nbelow_trans bA bN⟩

end Go.Proofs.YtkkldnnndlpblaaGreatDoor

/- The statements' spoil: the words of a list are written over; nothing but words from a block on has turned. -/
import Derived.Test.YtognliaoonkmiaaGreatDoorRC5
namespace Go.Proofs.YtognliaoonkmiaaGreatDoor
open Go.RowKit

/-- What is no word stays, a word stays a word, and what may be written may be. -/
def Sp (w w' : World) : Prop := (∀ (p : Addr) (v : Value), w.cell? p = some v → (∀ j : Int, v ≠ .int .u64 j) → w'.cell? p = some v) ∧ (∀ (p : Addr) (j : Int), w.cell? p = some (.int .u64 j) → ∃ j', w'.cell? p = some (.int .u64 j')) ∧ ∀ p, w'.frozen? p = w.frozen? p
theorem Sp.refl (w : World) : Sp w w := ⟨fun _ _ h _ => h, fun _ j h => ⟨j, h⟩, fun _ => rfl⟩
theorem Sp.trans {a b c : World} (h : Sp a b) (k : Sp b c) : Sp a c := ⟨fun p v q n => k.1 p v (h.1 p v q n) n, fun p j q => by
  obtain ⟨j', q'⟩ := h.2.1 p j q
  exact k.2.1 p j' q', fun p => (k.2.2 p).trans (h.2.2 p)⟩
theorem Sp.set {a b : World} (h : Sp a b) (q : Addr) {j0 : Int} (hq : a.cell? q = some (.int .u64 j0)) (x : Int) : Sp a (b.setCell q (.int .u64 x)) := by
  obtain ⟨j1, hq1⟩ := h.2.1 q j0 hq
  refine ⟨fun p v hp hv => ?_, fun p j hp => ?_, fun p => (World.frozen?_setCell b _ _ _).trans (h.2.2 p)⟩
  · have hne : q ≠ p := fun e => by
      rw [← e, hq] at hp
      injection hp with hp
      exact hv _ hp.symm
    rw [World.cell?_setCell_other _ _ _ _ hne]
    exact h.1 p v hp hv
  · by_cases e : q = p
    · subst e
      exact ⟨x, World.cell?_setCell_same _ _ _ hq1⟩
    · rw [World.cell?_setCell_other _ _ _ _ e]
      exact h.2.1 p j hp
/-- The words of a list, from block B on, may be written. -/
def Wr (B : Nat) (w : World) (a : Option Addr) (n : Nat) : Prop := ∀ i, i < n → ∃ b off j, a = some ⟨b, off, none⟩ ∧ B ≤ b ∧ w.cell? ⟨b, off + i, none⟩ = some (.int .u64 j) ∧ w.frozen? ⟨b, off + i, none⟩ = false
theorem Wr.of {B : Nat} {w : World} {a : Option Addr} {n c : Nat} {xs : List Int} (h : OwnW B w a n c xs) : Wr B w a n := fun i hi => by
  obtain ⟨b, off, e1, e2, e3⟩ := h.1.2.2.2 i hi
  obtain ⟨h1, h2⟩ := h.2 b off i e1 hi
  exact ⟨b, off, _, e1, h1, e3, h2⟩
theorem Wr.sp {B : Nat} {w w' : World} {a : Option Addr} {n : Nat} (h : Wr B w a n) (k : Sp w w') : Wr B w' a n := fun i hi => by
  obtain ⟨b, off, j, e1, e2, e3, e4⟩ := h i hi
  obtain ⟨j', q⟩ := k.2.1 _ _ e3
  exact ⟨b, off, j', e1, e2, q, (k.2.2 _).trans e4⟩

attribute [local go_sem ↓] Go.wp_at_zero Go.wp_at_succ

set_option maxRecDepth 100000 in
set_option maxHeartbeats 2000000 in
theorem spoil_calls (B : Nat) (a : Option Addr) (n c : Nat) (w : World) (hn : n ≤ 1024) (hB : B ≤ w.heap.size) (h : Wr B w a n) :
    Calls Tryz.prog 15 #[.slice a n c] w fun r w' => r = .returned (.tuple #[]) ∧ Below B w w' ∧ Sp w w' := by
  by_cases h0 : n = 0
  · subst h0
    clear h hn
    go_enter Tryz.func15, Tryz.ntmps15
    go_wp2_with fail
    go_loopw [5] (fun vi wr => vi = .int .i64 0 ∧ wr = w) (fun _ _ => 0)
    case atStart => exact ⟨rfl, rfl⟩
    case round =>
      obtain ⟨rfl, rfl⟩ := hrel
      go_wp2_with fail
      go_end0
      exact ⟨rfl, Below.refl _ _, Sp.refl _⟩
  · obtain ⟨b, off, j0, e1, hb, -, -⟩ := h 0 (by omega)
    subst e1
    have HC : Hid (∀ i, i < n → ∃ j, w.cell? ⟨b, off + i, none⟩ = some (.int .u64 j) ∧ w.frozen? ⟨b, off + i, none⟩ = false) := fun i hi => by
      obtain ⟨b', off', j, e1, -, e3, e4⟩ := h i hi
      simp only [Option.some.injEq, Addr.mk.injEq, and_true] at e1
      obtain ⟨rfl, rfl⟩ := e1
      exact ⟨j, e3, e4⟩
    have HB : Hid (B ≤ b) := hb
    clear h hb
    go_enter Tryz.func15, Tryz.ntmps15
    go_wp2_with fail
    go_loopw [5] (fun vi wr => ∃ k : Nat, k ≤ n ∧ vi = .int .i64 (k : Int) ∧ Below B w wr ∧ Sp w wr) (fun vi _ => n - (intOf vi).toNat)
    case atStart => exact ⟨0, by omega, rfl, Below.refl _ _, Sp.refl _⟩
    case round =>
      obtain ⟨k, hk, rfl, hr, hs⟩ := hrel
      by_cases hlt : k < n
      · obtain ⟨j, e3, e4⟩ := HC.out k hlt
        obtain ⟨j', e5⟩ := hs.2.1 _ _ e3
        have e6 := (hs.2.2 ⟨b, off + k, none⟩).trans e4
        have hs2 := hs.set ⟨b, off + k, none⟩ e3 77
        have hr2 := hr.setCell (p := ⟨b, off + k, none⟩) HB.out (.int .u64 77)
        clear hs hr e3 e4
        go_wp2_with fail
        refine ⟨⟨k + 1, by omega, by go_num, hr2, hs2⟩, by simp [intOf]; omega⟩
      · have hkn : k = n := by omega
        subst hkn
        go_wp2_with fail
        go_end0
        exact ⟨rfl, hr, hs⟩
end Go.Proofs.YtognliaoonkmiaaGreatDoor

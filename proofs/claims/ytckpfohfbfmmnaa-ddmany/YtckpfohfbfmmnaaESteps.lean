/- The walks of the steps without an error (packages eft and ulpref07): whatever the floats, two floats come back; where each operation has a finite answer, they are what the steps come to. -/
import Derived.Test.YtckpfohfbfmmnaaEWalk
import Derived.Handy
namespace Go.Proofs.Ytckpfohfbfmmnaa
open Go.RowKit EP

def twoSumO (a b : Nat) : Option (Nat × Nat) :=
  (fo .add a b).bind fun s => (fo .sub s a).bind fun x => (fo .sub s x).bind fun y => (fo .sub a y).bind fun u => (fo .sub b x).bind fun v => (fo .add u v).bind fun t => some (s, t)
def fastO (a b : Nat) : Option (Nat × Nat) :=
  (fo .add a b).bind fun s => (fo .sub s a).bind fun x => (fo .sub b x).bind fun t => some (s, t)
def splitO (a : Nat) : Option (Nat × Nat) :=
  (fo .mul 4728779608772575232 a).bind fun c => (fo .sub c a).bind fun x => (fo .sub c x).bind fun h => (fo .sub a h).bind fun l => some (h, l)
def twoProdO (a b : Nat) : Option (Nat × Nat) :=
  (fo .mul a b).bind fun p => (splitO a).bind fun hl => (splitO b).bind fun mn => (fo .mul hl.1 mn.1).bind fun hm => (fo .sub p hm).bind fun x => (fo .mul hl.2 mn.1).bind fun lm => (fo .sub x lm).bind fun y => (fo .mul hl.1 mn.2).bind fun hn => (fo .sub y hn).bind fun z => (fo .mul hl.2 mn.2).bind fun ln => (fo .sub ln z).bind fun e => some (p, e)

/-- Two floats come back. -/
def Two (w : World) (o : Option (Nat × Nat)) (e : Ending) (w' : World) : Prop :=
  ∃ s t, e = .returned (.tuple #[.float .f64 s, .float .f64 t]) ∧ Dr w w' ∧ ∀ p, o = some p → s = p.1 ∧ t = p.2

theorem conv_same (w : World) (b : Nat) : (convert 22 22 (.float .f64 b)).run Try.prog w = .ok (.float .f64 b) w :=
  run_convert_float_float w 22 22 .f64 .f64 b b (by rw [Try.underlying22]; rfl) Try.underlying22 (by simp [floatToFloatBits])

set_option maxHeartbeats 1000000 in
theorem twoSum_calls (a b : Nat) (w : World) :
    Calls Try.prog 9 #[.float .f64 a, .float .f64 b] w (Two w (twoSumO a b)) := by
  have r1 := run_add Try.prog
  have r2 := run_sub Try.prog
  have r3 := run_mul Try.prog
  have r4 := conv_same
  go_enter Try.func9, Try.ntmps9
  go_wp2_with fail
  go_ret2
  refine ⟨_, _, rfl, (by repeat (first | exact Dr.refl _ | assumption | refine Dr.trans ?_ (fw_dr _ _ _ _))), ?_⟩
  intro p hp
  simp only [twoSumO, Option.bind_eq_some_iff] at hp
  obtain ⟨z0, h0, z1, h1, z2, h2, z3, h3, z4, h4, z5, h5, hp⟩ := hp
  obtain rfl := Option.some.inj hp
  simp only [fv_eq h0, fw_eq h0, fv_eq h1, fw_eq h1, fv_eq h2, fw_eq h2, fv_eq h3, fw_eq h3, fv_eq h4, fw_eq h4, fv_eq h5, and_self]

set_option maxHeartbeats 1000000 in
theorem fast_calls (a b : Nat) (w : World) :
    Calls Try.prog 10 #[.float .f64 a, .float .f64 b] w (Two w (fastO a b)) := by
  have r1 := run_add Try.prog
  have r2 := run_sub Try.prog
  have r3 := run_mul Try.prog
  have r4 := conv_same
  go_enter Try.func10, Try.ntmps10
  go_wp2_with fail
  go_ret2
  refine ⟨_, _, rfl, (by repeat (first | exact Dr.refl _ | assumption | refine Dr.trans ?_ (fw_dr _ _ _ _))), ?_⟩
  intro p hp
  simp only [fastO, Option.bind_eq_some_iff] at hp
  obtain ⟨z0, h0, z1, h1, z2, h2, hp⟩ := hp
  obtain rfl := Option.some.inj hp
  simp only [fv_eq h0, fw_eq h0, fv_eq h1, fw_eq h1, fv_eq h2, and_self]

set_option maxHeartbeats 1000000 in
theorem split_calls (a : Nat) (w : World) :
    Calls Try.prog 11 #[.float .f64 a] w (Two w (splitO a)) := by
  have r1 := run_add Try.prog
  have r2 := run_sub Try.prog
  have r3 := run_mul Try.prog
  have r4 := conv_same
  go_enter Try.func11, Try.ntmps11
  go_wp2_with fail
  go_ret2
  refine ⟨_, _, rfl, (by repeat (first | exact Dr.refl _ | assumption | refine Dr.trans ?_ (fw_dr _ _ _ _))), ?_⟩
  intro p hp
  simp only [splitO, Option.bind_eq_some_iff] at hp
  obtain ⟨z0, h0, z1, h1, z2, h2, z3, h3, hp⟩ := hp
  obtain rfl := Option.some.inj hp
  simp only [fv_eq h0, fw_eq h0, fv_eq h1, fw_eq h1, fv_eq h2, fw_eq h2, fv_eq h3, and_self]

set_option maxHeartbeats 1000000 in
theorem rTwoSum_calls (a b : Nat) (w : World) :
    Calls Try.prog 15 #[.float .f64 a, .float .f64 b] w (Two w (twoSumO a b)) := by
  have r1 := run_add Try.prog
  have r2 := run_sub Try.prog
  have r3 := run_mul Try.prog
  have r4 := conv_same
  go_enter Try.func15, Try.ntmps15
  go_wp2_with fail
  go_ret2
  refine ⟨_, _, rfl, (by repeat (first | exact Dr.refl _ | assumption | refine Dr.trans ?_ (fw_dr _ _ _ _))), ?_⟩
  intro p hp
  simp only [twoSumO, Option.bind_eq_some_iff] at hp
  obtain ⟨z0, h0, z1, h1, z2, h2, z3, h3, z4, h4, z5, h5, hp⟩ := hp
  obtain rfl := Option.some.inj hp
  simp only [fv_eq h0, fw_eq h0, fv_eq h1, fw_eq h1, fv_eq h2, fw_eq h2, fv_eq h3, fw_eq h3, fv_eq h4, fw_eq h4, fv_eq h5, and_self]

set_option maxHeartbeats 1000000 in
theorem rFast_calls (a b : Nat) (w : World) :
    Calls Try.prog 16 #[.float .f64 a, .float .f64 b] w (Two w (fastO a b)) := by
  have r1 := run_add Try.prog
  have r2 := run_sub Try.prog
  have r3 := run_mul Try.prog
  have r4 := conv_same
  go_enter Try.func16, Try.ntmps16
  go_wp2_with fail
  go_ret2
  refine ⟨_, _, rfl, (by repeat (first | exact Dr.refl _ | assumption | refine Dr.trans ?_ (fw_dr _ _ _ _))), ?_⟩
  intro p hp
  simp only [fastO, Option.bind_eq_some_iff] at hp
  obtain ⟨z0, h0, z1, h1, z2, h2, hp⟩ := hp
  obtain rfl := Option.some.inj hp
  simp only [fv_eq h0, fw_eq h0, fv_eq h1, fw_eq h1, fv_eq h2, and_self]

set_option maxHeartbeats 1000000 in
theorem rSplit_calls (a : Nat) (w : World) :
    Calls Try.prog 17 #[.float .f64 a] w (Two w (splitO a)) := by
  have r1 := run_add Try.prog
  have r2 := run_sub Try.prog
  have r3 := run_mul Try.prog
  have r4 := conv_same
  go_enter Try.func17, Try.ntmps17
  go_wp2_with fail
  go_ret2
  refine ⟨_, _, rfl, (by repeat (first | exact Dr.refl _ | assumption | refine Dr.trans ?_ (fw_dr _ _ _ _))), ?_⟩
  intro p hp
  simp only [splitO, Option.bind_eq_some_iff] at hp
  obtain ⟨z0, h0, z1, h1, z2, h2, z3, h3, hp⟩ := hp
  obtain rfl := Option.some.inj hp
  simp only [fv_eq h0, fw_eq h0, fv_eq h1, fw_eq h1, fv_eq h2, fw_eq h2, fv_eq h3, and_self]

set_option maxHeartbeats 1000000 in
theorem twoProd_calls (a b : Nat) (w : World) :
    Calls Try.prog 12 #[.float .f64 a, .float .f64 b] w (Two w (twoProdO a b)) := by
  have r1 := run_add Try.prog
  have r2 := run_sub Try.prog
  have r3 := run_mul Try.prog
  have r4 := conv_same
  go_enter Try.func12, Try.ntmps12
  go_wp2_with fail
  refine Calls.mono (split_calls a _) ?_
  rintro e w1 ⟨h, l, rfl, d1, H1⟩
  have d1' : Dr w w1 := Dr.trans (fw_dr _ _ _ _) d1
  go_wp2_with fail
  refine Calls.mono (split_calls b w1) ?_
  rintro e w2 ⟨m, n, rfl, d2, H2⟩
  have d2' : Dr w w2 := Dr.trans d1' d2
  go_wp2_with fail
  go_ret2
  refine ⟨_, _, rfl, (by repeat (first | exact Dr.refl _ | assumption | refine Dr.trans ?_ (fw_dr _ _ _ _))), ?_⟩
  intro p hp
  simp only [twoProdO, Option.bind_eq_some_iff] at hp
  obtain ⟨z0, h0, hl, e1, mn, e2, z1, h1, z2, h2, z3, h3, z4, h4, z5, h5, z6, h6, z7, h7, z8, h8, hp⟩ := hp
  obtain ⟨rfl, rfl⟩ := H1 _ e1
  obtain ⟨rfl, rfl⟩ := H2 _ e2
  obtain rfl := Option.some.inj hp
  simp only [fv_eq h0, fv_eq h1, fw_eq h1, fv_eq h2, fw_eq h2, fv_eq h3, fw_eq h3, fv_eq h4, fw_eq h4, fv_eq h5, fw_eq h5, fv_eq h6, fw_eq h6, fv_eq h7, fw_eq h7, fv_eq h8, and_self]

set_option maxHeartbeats 1000000 in
theorem rTwoProd_calls (a b : Nat) (w : World) :
    Calls Try.prog 18 #[.float .f64 a, .float .f64 b] w (Two w (twoProdO a b)) := by
  have r1 := run_add Try.prog
  have r2 := run_sub Try.prog
  have r3 := run_mul Try.prog
  have r4 := conv_same
  go_enter Try.func18, Try.ntmps18
  go_wp2_with fail
  refine Calls.mono (rSplit_calls a _) ?_
  rintro e w1 ⟨h, l, rfl, d1, H1⟩
  have d1' : Dr w w1 := Dr.trans (fw_dr _ _ _ _) d1
  go_wp2_with fail
  refine Calls.mono (rSplit_calls b w1) ?_
  rintro e w2 ⟨m, n, rfl, d2, H2⟩
  have d2' : Dr w w2 := Dr.trans d1' d2
  go_wp2_with fail
  go_ret2
  refine ⟨_, _, rfl, (by repeat (first | exact Dr.refl _ | assumption | refine Dr.trans ?_ (fw_dr _ _ _ _))), ?_⟩
  intro p hp
  simp only [twoProdO, Option.bind_eq_some_iff] at hp
  obtain ⟨z0, h0, hl, e1, mn, e2, z1, h1, z2, h2, z3, h3, z4, h4, z5, h5, z6, h6, z7, h7, z8, h8, hp⟩ := hp
  obtain ⟨rfl, rfl⟩ := H1 _ e1
  obtain ⟨rfl, rfl⟩ := H2 _ e2
  obtain rfl := Option.some.inj hp
  simp only [fv_eq h0, fv_eq h1, fw_eq h1, fv_eq h2, fw_eq h2, fv_eq h3, fw_eq h3, fv_eq h4, fw_eq h4, fv_eq h5, fw_eq h5, fv_eq h6, fw_eq h6, fv_eq h7, fw_eq h7, fv_eq h8, and_self]

end Go.Proofs.Ytckpfohfbfmmnaa

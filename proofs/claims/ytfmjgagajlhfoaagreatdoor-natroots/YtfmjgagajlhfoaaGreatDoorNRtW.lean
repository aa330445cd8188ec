/- The walk of the statement on roots and powers. -/
import Derived.Test.YtfmjgagajlhfoaaGreatDoorNRX
import Derived.Test.YtfmjgagajlhfoaaGreatDoorNEq
import Derived.Test.YtfmjgagajlhfoaaGreatDoorNLives
namespace Go.Proofs.YtfmjgagajlhfoaaGreatDoor
open Go.RowKit

set_option maxRecDepth 100000 in
set_option maxHeartbeats 4000000 in
theorem natRoots_walk (a : Option Addr) (len cap : Nat) (xs : List Int) (i : Int) (w : World) (hA : IsW w a len cap xs) (hm : len ≤ 17592186044000) (hi : -9223372036854775808 ≤ i ∧ i ≤ 9223372036854775807) (_hT : Tab w) (hP : TabP w) :
    Calls Tryz.prog 3 #[.slice a len cap, .int .i64 i] w fun e w' => e = .returned (.bool true) ∧ Below w.heap.size w w' := by
  have HA : Hid (IsW w a len cap xs) := hA
  have HP : Hid (TabP w) := hP
  have L2 : Hid _ := rt_lens (k := 2) (u := val xs) (by decide)
  have L3 : Hid _ := rt_lens (k := 3) (u := val xs) (by decide)
  have LP : Hid _ := powR_len (val xs) i
  have SC : Hid (∀ W, Below w.heap.size w W → _) := fun W hW => sqrt_calls a len cap xs W (HA.out.keep hW) (by omega)
  have CC : Hid (∀ W, Below w.heap.size w W → _) := fun W hW => cbrt_calls a len cap xs W (HA.out.keep hW) (by omega)
  have R2 : Hid (∀ W, Below w.heap.size w W → _) := fun W hW => nRooted2_calls a len cap xs W (HA.out.keep hW) hm
  have R3 : Hid (∀ W, Below w.heap.size w W → _) := fun W hW => nRooted3_calls a len cap xs W (HA.out.keep hW) hm
  have PC : Hid (∀ W, Below w.heap.size w W → _) := fun W hW => pow_calls a len cap xs i W (HA.out.keep hW) (by omega) hi.2
  have QC : Hid (∀ W, Below w.heap.size w W → _) := fun W hW => nPower_calls a len cap xs i W (HA.out.keep hW) hm hi.2
  generalize rtE (val xs) = E at *
  generalize rtQ 2 (val xs) = q2 at *
  generalize rtM 2 (val xs) = m2 at *
  generalize rtQ 3 (val xs) = q3 at *
  generalize rtM 3 (val xs) = m3 at *
  generalize powR (val xs) i = pw at *
  clear hA hP hi
  have b0 : Below w.heap.size w w := Below.refl _ _
  go_enter Tryz.func3, Tryz.ntmps3
  go_wp2_with fail
  refine Calls.mono (SC.out _ b0) ?_
  rintro e w1 ⟨v, v', rfl, ⟨a1, n1, c1, rfl, hn, hO⟩, ⟨d1, p1, t1, rfl, hp, hQ⟩, b⟩
  have hn1 : n1 ≤ 1024 := by rw [hn]; exact L2.out.1
  have hp1 : p1 ≤ 1024 := by rw [hp]; exact L2.out.2
  have b1 := nbelow_trans b0 b
  have I1 := hO.1
  have K1 := hQ.1
  clear hn hp hO hQ b b0 SC
  go_wp2_with fail
  refine Calls.mono (R2.out _ b1) ?_
  rintro e w2 ⟨v, v', rfl, ⟨a2, n2, c2, rfl, hn, hO⟩, ⟨d2, p2, t2, rfl, hp, hQ⟩, b⟩
  have hn2 : n2 ≤ 1024 := by rw [hn]; exact L2.out.1
  have hp2 : p2 ≤ 1024 := by rw [hp]; exact L2.out.2
  have b2 := nbelow_trans b1 b
  replace I1 := I1.keep b
  replace K1 := K1.keep b
  have I2 := hO.1
  have K2 := hQ.1
  clear hn hp hO hQ b b1 R2
  go_wp2_with fail
  refine Calls.mono (CC.out _ b2) ?_
  rintro e w3 ⟨v, v', rfl, ⟨a3, n3, c3, rfl, hn, hO⟩, ⟨d3, p3, t3, rfl, hp, hQ⟩, b⟩
  have hn3 : n3 ≤ 1024 := by rw [hn]; exact L3.out.1
  have hp3 : p3 ≤ 1024 := by rw [hp]; exact L3.out.2
  have b3 := nbelow_trans b2 b
  replace I1 := I1.keep b
  replace K1 := K1.keep b
  replace I2 := I2.keep b
  replace K2 := K2.keep b
  have I3 := hO.1
  have K3 := hQ.1
  clear hn hp hO hQ b b2 CC
  go_wp2_with fail
  refine Calls.mono (R3.out _ b3) ?_
  rintro e w4 ⟨v, v', rfl, ⟨a4, n4, c4, rfl, hn, hO⟩, ⟨d4, p4, t4, rfl, hp, hQ⟩, b⟩
  have hn4 : n4 ≤ 1024 := by rw [hn]; exact L3.out.1
  have hp4 : p4 ≤ 1024 := by rw [hp]; exact L3.out.2
  have b4 := nbelow_trans b3 b
  replace I1 := I1.keep b
  replace K1 := K1.keep b
  replace I2 := I2.keep b
  replace K2 := K2.keep b
  replace I3 := I3.keep b
  replace K3 := K3.keep b
  have I4 := hO.1
  have K4 := hQ.1
  clear hn hp hO hQ b b3 R3
  go_wp2_with fail
  refine Calls.mono (PC.out _ b4) ?_
  rintro e w5 ⟨v, rfl, ⟨a5, n5, c5, rfl, hn, hO⟩, b⟩
  have hn5 : n5 ≤ 1024 := by rw [hn]; exact LP.out
  have b5 := nbelow_trans b4 b
  replace I1 := I1.keep b
  replace K1 := K1.keep b
  replace I2 := I2.keep b
  replace K2 := K2.keep b
  replace I3 := I3.keep b
  replace K3 := K3.keep b
  replace I4 := I4.keep b
  replace K4 := K4.keep b
  have I5 := hO.1
  clear hn hO b b4 PC
  go_wp2_with fail
  refine Calls.mono (QC.out _ b5) ?_
  rintro e w6 ⟨v, rfl, ⟨a6, n6, c6, rfl, hn, hO⟩, b⟩
  have hn6 : n6 ≤ 1024 := by rw [hn]; exact LP.out
  have b6 := nbelow_trans b5 b
  replace I1 := I1.keep b
  replace K1 := K1.keep b
  replace I2 := I2.keep b
  replace K2 := K2.keep b
  replace I3 := I3.keep b
  replace K3 := K3.keep b
  replace I4 := I4.keep b
  replace K4 := K4.keep b
  replace I5 := I5.keep b
  have I6 := hO.1
  clear hn hO b b5 QC
  go_wp2_with fail
  refine Calls.mono (lives_calls w6 (HP.out.kept b6)) ?_
  rintro e w7 ⟨rfl, b⟩
  have b7 := nbelow_trans b6 b
  replace I1 := I1.keep b
  replace K1 := K1.keep b
  replace I2 := I2.keep b
  replace K2 := K2.keep b
  replace I3 := I3.keep b
  replace K3 := K3.keep b
  replace I4 := I4.keep b
  replace K4 := K4.keep b
  replace I5 := I5.keep b
  replace I6 := I6.keep b
  clear b b6
  go_wp2_with fail
  refine Calls.mono (nSame_calls _ _ _ _ _ _ _ _ _ I1 I2 (by omega) (by omega)) ?_
  rintro e w8 ⟨rfl, b⟩
  rw [show decide (wordsOf q2 = wordsOf q2) = true by simp]
  have b8 := nbelow_trans b7 b
  replace K1 := K1.keep b
  replace K2 := K2.keep b
  replace I3 := I3.keep b
  replace K3 := K3.keep b
  replace I4 := I4.keep b
  replace K4 := K4.keep b
  replace I5 := I5.keep b
  replace I6 := I6.keep b
  clear b b7 I1 I2
  go_wp2_with fail
  refine Calls.mono (nSame_calls _ _ _ _ _ _ _ _ _ K1 K2 (by omega) (by omega)) ?_
  rintro e w9 ⟨rfl, b⟩
  rw [show decide (wordsOf m2 = wordsOf m2) = true by simp]
  have b9 := nbelow_trans b8 b
  replace I3 := I3.keep b
  replace K3 := K3.keep b
  replace I4 := I4.keep b
  replace K4 := K4.keep b
  replace I5 := I5.keep b
  replace I6 := I6.keep b
  clear b b8 K1 K2
  go_wp2_with fail
  refine Calls.mono (nSame_calls _ _ _ _ _ _ _ _ _ I3 I4 (by omega) (by omega)) ?_
  rintro e w10 ⟨rfl, b⟩
  rw [show decide (wordsOf q3 = wordsOf q3) = true by simp]
  have b10 := nbelow_trans b9 b
  replace K3 := K3.keep b
  replace K4 := K4.keep b
  replace I5 := I5.keep b
  replace I6 := I6.keep b
  clear b b9 I3 I4
  go_wp2_with fail
  refine Calls.mono (nSame_calls _ _ _ _ _ _ _ _ _ K3 K4 (by omega) (by omega)) ?_
  rintro e w11 ⟨rfl, b⟩
  rw [show decide (wordsOf m3 = wordsOf m3) = true by simp]
  have b11 := nbelow_trans b10 b
  replace I5 := I5.keep b
  replace I6 := I6.keep b
  clear b b10 K3 K4
  go_wp2_with fail
  refine Calls.mono (nSame_calls _ _ _ _ _ _ _ _ _ I5 I6 (by omega) (by omega)) ?_
  rintro e w12 ⟨rfl, b⟩
  rw [show decide (wordsOf pw.1 = wordsOf pw.1) = true by simp]
  have b12 := nbelow_trans b11 b
  clear b b11 I5 I6
  go_wp2_with fail
  go_ret
  exact ⟨nret_bool (by simp), b12⟩
end Go.Proofs.YtfmjgagajlhfoaaGreatDoor

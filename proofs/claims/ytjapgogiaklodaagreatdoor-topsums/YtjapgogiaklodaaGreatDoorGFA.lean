/- Plain facts on sets of flags as bytes: the functions that the walks of package flags speak of. The walks of package flags, first part: sets (Join, Meet, Take, Has, Right, Math): what each answers, for every byte, in whatever memory. -/
import Derived.WalkKit
import Derived.Laws.BitsAllLaws
import Derived.Lib.Join
import Derived.Test.YtjapgogiaklodaaGreatDoorRows
import Derived.WalkSpells
import Derived.WalkLawsBesides

namespace Go.Proofs.YtjapgogiaklodaaGreatDoor.Fl
open Go.RowKit

/-- A byte. -/
def F (x : Int) : Prop := 0 ≤ x ∧ x ≤ 255
def orV (f g : Int) : Int := bits .or .u8 f g
def andV (f g : Int) : Int := bits .and .u8 f g
def takeV (f g : Int) : Int := bits .andNot .u8 f g
def hasB (f g : Int) : Bool := takeV g f == 0
def rightB (f : Int) : Bool := hasB 31 f
def mathV (f : Int) : Int := if hasB f 1 = true then 1 else if (andV f 14 != 0) = true then 2 else 0
def nameL (k : Nat) : ByteArray :=
  match k with
  | 0 => ⟨#[105, 110, 118, 97, 108, 105, 100]⟩
  | 1 => ⟨#[100, 105, 118, 98, 121, 122, 101, 114, 111]⟩
  | 2 => ⟨#[111, 118, 101, 114, 102, 108, 111, 119]⟩
  | 3 => ⟨#[117, 110, 100, 101, 114, 102, 108, 111, 119]⟩
  | _ => ⟨#[105, 110, 101, 120, 97, 99, 116]⟩
def noneS : ByteArray := ⟨#[110, 111, 110, 101]⟩
def wordsK (f : Int) : Nat → List ByteArray
  | 0 => []
  | k + 1 => wordsK f k ++ (if hasB f (2 ^ k) = true then [nameL k] else [])
def joinedS (f : Int) : ByteArray := ⟨(Lib.join ((wordsK f 5).map (·.data.toList)) [32]).toArray⟩
def showS (f : Int) : ByteArray := if rightB f = true then (if f = 0 then noneS else joinedS f) else ByteArray.empty

theorem or_nat (f g : Int) (h : F f) (k : F g) : orV f g = ((f.toNat ||| g.toNat : Nat) : Int) := by
  unfold F at *; unfold orV; rw [u8_or _ _ h.1 (by omega) k.1 (by omega)]
theorem and_nat (f g : Int) (h : F f) (k : F g) : andV f g = ((f.toNat &&& g.toNat : Nat) : Int) := by
  unfold F at *; unfold andV; rw [u8_and _ _ h.1 (by omega) k.1 (by omega)]
theorem take_nat (f g : Int) (h : F f) (k : F g) : takeV f g = ((f.toNat &&& (255 - g.toNat) : Nat) : Int) := by
  unfold F at *; unfold takeV; rw [u8_andNot _ _ h.1 (by omega) k.1 (by omega)]
theorem or_F (f g : Int) (h : F f) (k : F g) : F (orV f g) := by
  rw [or_nat f g h k]; unfold F at *
  have := Nat.or_lt_two_pow (show f.toNat < 2 ^ 8 by omega) (show g.toNat < 2 ^ 8 by omega)
  omega
theorem and_F (f g : Int) (h : F f) (k : F g) : F (andV f g) := by
  rw [and_nat f g h k]; unfold F at *
  have := Nat.and_lt_two_pow f.toNat (show g.toNat < 2 ^ 8 by omega)
  omega
theorem take_F (f g : Int) (h : F f) (k : F g) : F (takeV f g) := by
  rw [take_nat f g h k]; unfold F at *
  have := Nat.and_lt_two_pow f.toNat (show 255 - g.toNat < 2 ^ 8 by omega)
  omega
/-- What holds of all 256 bytes holds of every byte. -/
theorem byte_all {p : Int → Prop} (h : ∀ n : Fin 256, p (n.val : Int)) (f : Int) (hf : F f) : p f := by
  unfold F at hf
  obtain ⟨n, rfl⟩ := Int.eq_ofNat_of_zero_le hf.1
  exact h ⟨n, by omega⟩
theorem right_le (f : Int) (h : F f) : rightB f = decide (f ≤ 31) :=
  byte_all (p := fun f => rightB f = decide (f ≤ 31)) (by decide +kernel) f h
theorem has_one (f : Int) (h : F f) : hasB f 1 = (andV f 1 != 0) :=
  byte_all (p := fun f => hasB f 1 = (andV f 1 != 0)) (by decide +kernel) f h
theorem mathV_F (f : Int) : F (mathV f) := by unfold mathV F; (repeat' split) <;> omega
theorem mathV_bd (f : Int) : 0 ≤ mathV f ∧ mathV f ≤ 2 := by unfold mathV; (repeat' split) <;> omega
theorem words_len (f : Int) : ∀ k, (wordsK f k).length ≤ k
  | 0 => Nat.le_refl _
  | k + 1 => by
    have := words_len f k
    unfold wordsK
    rw [List.length_append]
    split <;> simp <;> omega
theorem joined_len (f : Int) (h : F f) : (Lib.join ((wordsK f 5).map (·.data.toList)) [32]).length ≤ 140737488355328 :=
  byte_all (p := fun f => (Lib.join ((wordsK f 5).map (·.data.toList)) [32]).length ≤ 140737488355328) (by decide +kernel) f h
theorem words_some (f : Int) (h : F f) (hr : rightB f = true) (h0 : f ≠ 0) : wordsK f 5 ≠ [] :=
  byte_all (p := fun f => rightB f = true → f ≠ 0 → wordsK f 5 ≠ []) (by decide +kernel) f h hr h0
end Go.Proofs.YtjapgogiaklodaaGreatDoor.Fl

namespace Go.Proofs.YtjapgogiaklodaaGreatDoor.Fl
open Go.RowKit

theorem fret_int {k : IntKind} {a b : Int} (h : a = b) : Ending.returned (.int k a) = .returned (.int k b) := by rw [h]
theorem fret_bool {a b : Bool} (h : a = b) : Ending.returned (.bool a) = .returned (.bool b) := by rw [h]
theorem fbelow_trans {a b c : World} (h : Below a.heap.size a b) (k : Below b.heap.size b c) : Below a.heap.size a c := h.trans (k.mono h.size)



set_option maxHeartbeats 400000 in
theorem fTake_calls (f g : Int) (w : World) :
    Calls Tryz.prog 107 #[.int .u8 f, .int .u8 g] w fun e w' => e = .returned (.int .u8 (takeV f g)) ∧ w' = w := by
  go_enter Tryz.func107, Tryz.ntmps107
  go_wp2
  go_ret
  exact ⟨rfl, rfl⟩

set_option maxHeartbeats 400000 in
theorem fHas_calls (f g : Int) (w : World) :
    Calls Tryz.prog 82 #[.int .u8 f, .int .u8 g] w fun e w' => e = .returned (.bool (hasB f g)) ∧ w' = w := by
  go_enter Tryz.func82, Tryz.ntmps82
  go_wp2_with (go_at_call 107; refine (fTake_calls _ _ _).mono ?_; rintro e w' ⟨rfl, rfl⟩)
  go_ret
  exact ⟨rfl, rfl⟩

set_option maxHeartbeats 400000 in
theorem fRight_calls (f : Int) (w : World) :
    Calls Tryz.prog 81 #[.int .u8 f] w fun e w' => e = .returned (.bool (rightB f)) ∧ w' = w := by
  go_enter Tryz.func81, Tryz.ntmps81
  go_wp2_with (go_at_call 82; refine (fHas_calls _ _ _).mono ?_; rintro e w' ⟨rfl, rfl⟩)
  go_ret
  exact ⟨rfl, rfl⟩

end Go.Proofs.YtjapgogiaklodaaGreatDoor.Fl

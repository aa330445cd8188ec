/-
  NARROWER THAN 'FOR EVERY INPUT', by the rows' own cells (each row's printed sentence says how): BitsSteps: laid · BitsWhole: laid · FlagsSets: laid · FlagsTexts: laid · FlagsSteps: laid · FlagsNil: laid.
  DERIVED. THE GIVEN ROWS OF THIS SEAT. 6 by the template 'for every input the law returns true; each argument reads behind the call as it read before'; 0 by the template 'total and deterministic' (their statements: YtoamnimepkodeabDoorTotals.lean).
  GIVEN WITH THE SEED: the statements are not yours to turn. If you find one false, say at which input.
  Laid BY PROGRAM, IN A SANDBOX (cutbox-rows.mjs): the forced cells as the released guide's own fill.sh prints them over the translation 73b77d3674e0ce1f… (all of the seat's roots in one cut). By AI agents, Wed Nov 11 2026. No macro, syntax, notation, axiom, sorry.
-/
import Derived.Test.YtoamnimepkodeabDoorChecked
import GoSem.Claim
import GoSem.ClaimJoined
import GoSem.ClaimMapViews
import Derived.JoinedTies
import Derived.KernelRfl
namespace Go.Proofs.YtoamnimepkodeabDoor
/- THE CELL 'sum', in the pinned program and in every row, IS THE sha256 OF THE DUMP (.gsa) THAT YtoamnimepkodeabDoorProg.lean LOADS. Nothing in Lean hashes anything: it is a label: what it is worth is what the hold of that sum in a sandbox is worth. -/
noncomputable def Tryd.pinned : Pinned := { name := "ytoamnimepkodeabdoor", sum := "73b77d3674e0ce1ff18f3563d75ff25fed67ed45595b7a1384d8257e953625b0", checked := Tryd.checked }
namespace Rows
def none {H : Type} : Left H := { results := [], args := [] }

/- WHAT THE LISTED PACKAGE-LEVEL VARIABLES READ AS WHEN THE CALL BEGINS. Each datum BY PROGRAM (the guide's laid-datum.mjs) off the statement by which the dump's own 'gosem.cut.vars' lays the variable. In a bare row this is a premise. The card (YtoamnimepkodeabDoorCards.lean) ties it to the program's text. -/
def laid_math_bits_deBruijn64tab {H : Type} : DataW H := .agg [.lit (.int .u8 0), .lit (.int .u8 1), .lit (.int .u8 56), .lit (.int .u8 2), .lit (.int .u8 57), .lit (.int .u8 49), .lit (.int .u8 28), .lit (.int .u8 3), .lit (.int .u8 61), .lit (.int .u8 58), .lit (.int .u8 42), .lit (.int .u8 50), .lit (.int .u8 38), .lit (.int .u8 29), .lit (.int .u8 17), .lit (.int .u8 4), .lit (.int .u8 62), .lit (.int .u8 47), .lit (.int .u8 59), .lit (.int .u8 36), .lit (.int .u8 45), .lit (.int .u8 43), .lit (.int .u8 51), .lit (.int .u8 22), .lit (.int .u8 53), .lit (.int .u8 39), .lit (.int .u8 33), .lit (.int .u8 30), .lit (.int .u8 24), .lit (.int .u8 18), .lit (.int .u8 12), .lit (.int .u8 5), .lit (.int .u8 63), .lit (.int .u8 55), .lit (.int .u8 48), .lit (.int .u8 27), .lit (.int .u8 60), .lit (.int .u8 41), .lit (.int .u8 37), .lit (.int .u8 16), .lit (.int .u8 46), .lit (.int .u8 35), .lit (.int .u8 44), .lit (.int .u8 21), .lit (.int .u8 52), .lit (.int .u8 32), .lit (.int .u8 23), .lit (.int .u8 11), .lit (.int .u8 54), .lit (.int .u8 26), .lit (.int .u8 40), .lit (.int .u8 15), .lit (.int .u8 34), .lit (.int .u8 20), .lit (.int .u8 31), .lit (.int .u8 10), .lit (.int .u8 25), .lit (.int .u8 14), .lit (.int .u8 19), .lit (.int .u8 9), .lit (.int .u8 13), .lit (.int .u8 8), .lit (.int .u8 7), .lit (.int .u8 6)]
def laid_ulp_flags_names {H : Type} : DataW H := .agg [.lit (.string [105, 110, 118, 97, 108, 105, 100]), .lit (.string [100, 105, 118, 98, 121, 122, 101, 114, 111]), .lit (.string [111, 118, 101, 114, 102, 108, 111, 119]), .lit (.string [117, 110, 100, 101, 114, 102, 108, 111, 119]), .lit (.string [105, 110, 101, 120, 97, 99, 116])]

/-- 'ulplaw01.BitsSteps': WHATEVER THE INPUT: true; the input reads as it did. -/
def bitsStepsSpec : ChangeSpec := { name := "bitsSteps", fn := fun _ => fun
  | [d1, d2, d3] => { results := [.lit (.bool true)], args := [d1, d2, d3] }
  | _ => none }
def bitsStepsRow : OpenClaim := { program := "ytoamnimepkodeabdoor", sum := "73b77d3674e0ce1ff18f3563d75ff25fed67ed45595b7a1384d8257e953625b0", func := "ulp/ulplaw01.BitsSteps", spec := "bitsSteps", named := ["math/bits.deBruijn64tab"], apart := false, laid := [("math/bits.deBruijn64tab", laid_math_bits_deBruijn64tab)] }
def BitsStepsSaid : Prop := bitsStepsRow.holds Tryd.pinned (OpenSpec.ofChange bitsStepsSpec)

/-- ITS FALSE NEIGHBOUR: 'it returns false'. Refute it at one input. -/
def bitsStepsWrong : ChangeSpec := { name := "bitsSteps", fn := fun _ => fun
  | [d1, d2, d3] => { results := [.lit (.bool false)], args := [d1, d2, d3] }
  | _ => none }
def BitsStepsWrongFalsely : Prop := bitsStepsRow.holds Tryd.pinned (OpenSpec.ofChange bitsStepsWrong)

/-- 'ulplaw01.BitsWhole': WHATEVER THE INPUT: true; the input reads as it did. -/
def bitsWholeSpec : ChangeSpec := { name := "bitsWhole", fn := fun _ => fun
  | [d] => { results := [.lit (.bool true)], args := [d] }
  | _ => none }
def bitsWholeRow : OpenClaim := { program := "ytoamnimepkodeabdoor", sum := "73b77d3674e0ce1ff18f3563d75ff25fed67ed45595b7a1384d8257e953625b0", func := "ulp/ulplaw01.BitsWhole", spec := "bitsWhole", named := ["math/bits.deBruijn64tab"], apart := false, laid := [("math/bits.deBruijn64tab", laid_math_bits_deBruijn64tab)] }
def BitsWholeSaid : Prop := bitsWholeRow.holds Tryd.pinned (OpenSpec.ofChange bitsWholeSpec)

/-- ITS FALSE NEIGHBOUR: 'it returns false'. Refute it at one input. -/
def bitsWholeWrong : ChangeSpec := { name := "bitsWhole", fn := fun _ => fun
  | [d] => { results := [.lit (.bool false)], args := [d] }
  | _ => none }
def BitsWholeWrongFalsely : Prop := bitsWholeRow.holds Tryd.pinned (OpenSpec.ofChange bitsWholeWrong)

/-- 'ulplaw02.FlagsSets': WHATEVER THE INPUT: true; the input reads as it did. -/
def flagsSetsSpec : ChangeSpec := { name := "flagsSets", fn := fun _ => fun
  | [d1, d2] => { results := [.lit (.bool true)], args := [d1, d2] }
  | _ => none }
def flagsSetsRow : OpenClaim := { program := "ytoamnimepkodeabdoor", sum := "73b77d3674e0ce1ff18f3563d75ff25fed67ed45595b7a1384d8257e953625b0", func := "ulp/ulplaw02.FlagsSets", spec := "flagsSets", inPlace := ["internal/abi.NoEscape", "internal/bytealg.MakeNoZero"], unfollowed := true, recurses := true, named := ["ulp/flags.names"], apart := false, laid := [("ulp/flags.names", laid_ulp_flags_names)] }
def FlagsSetsSaid : Prop := flagsSetsRow.holds Tryd.pinned (OpenSpec.ofChange flagsSetsSpec)

/-- ITS FALSE NEIGHBOUR: 'it returns false'. Refute it at one input. -/
def flagsSetsWrong : ChangeSpec := { name := "flagsSets", fn := fun _ => fun
  | [d1, d2] => { results := [.lit (.bool false)], args := [d1, d2] }
  | _ => none }
def FlagsSetsWrongFalsely : Prop := flagsSetsRow.holds Tryd.pinned (OpenSpec.ofChange flagsSetsWrong)

/-- 'ulplaw02.FlagsTexts': WHATEVER THE INPUT: true; the input reads as it did. -/
def flagsTextsSpec : ChangeSpec := { name := "flagsTexts", fn := fun _ => fun
  | [d1, d2] => { results := [.lit (.bool true)], args := [d1, d2] }
  | _ => none }
def flagsTextsRow : OpenClaim := { program := "ytoamnimepkodeabdoor", sum := "73b77d3674e0ce1ff18f3563d75ff25fed67ed45595b7a1384d8257e953625b0", func := "ulp/ulplaw02.FlagsTexts", spec := "flagsTexts", inPlace := ["internal/abi.NoEscape", "internal/bytealg.MakeNoZero"], unfollowed := true, recurses := true, named := ["ulp/flags.names"], apart := false, laid := [("ulp/flags.names", laid_ulp_flags_names)] }
def FlagsTextsSaid : Prop := flagsTextsRow.holds Tryd.pinned (OpenSpec.ofChange flagsTextsSpec)

/-- ITS FALSE NEIGHBOUR: 'it returns false'. Refute it at one input. -/
def flagsTextsWrong : ChangeSpec := { name := "flagsTexts", fn := fun _ => fun
  | [d1, d2] => { results := [.lit (.bool false)], args := [d1, d2] }
  | _ => none }
def FlagsTextsWrongFalsely : Prop := flagsTextsRow.holds Tryd.pinned (OpenSpec.ofChange flagsTextsWrong)

/-- 'ulplaw02.FlagsSteps': WHATEVER THE INPUT: true; the input reads as it did. -/
def flagsStepsSpec : ChangeSpec := { name := "flagsSteps", fn := fun _ => fun
  | [d] => { results := [.lit (.bool true)], args := [d] }
  | _ => none }
def flagsStepsRow : OpenClaim := { program := "ytoamnimepkodeabdoor", sum := "73b77d3674e0ce1ff18f3563d75ff25fed67ed45595b7a1384d8257e953625b0", func := "ulp/ulplaw02.FlagsSteps", spec := "flagsSteps", inPlace := ["internal/abi.NoEscape", "internal/bytealg.MakeNoZero"], unfollowed := true, recurses := true, named := ["ulp/flags.names"], apart := false, laid := [("ulp/flags.names", laid_ulp_flags_names)] }
def FlagsStepsSaid : Prop := flagsStepsRow.holds Tryd.pinned (OpenSpec.ofChange flagsStepsSpec)

/-- ITS FALSE NEIGHBOUR: 'it returns false'. Refute it at one input. -/
def flagsStepsWrong : ChangeSpec := { name := "flagsSteps", fn := fun _ => fun
  | [d] => { results := [.lit (.bool false)], args := [d] }
  | _ => none }
def FlagsStepsWrongFalsely : Prop := flagsStepsRow.holds Tryd.pinned (OpenSpec.ofChange flagsStepsWrong)

/-- 'ulplaw02.FlagsNil': WHATEVER THE INPUT: true; the input reads as it did. -/
def flagsNilSpec : ChangeSpec := { name := "flagsNil", fn := fun _ => fun
  | [d] => { results := [.lit (.bool true)], args := [d] }
  | _ => none }
def flagsNilRow : OpenClaim := { program := "ytoamnimepkodeabdoor", sum := "73b77d3674e0ce1ff18f3563d75ff25fed67ed45595b7a1384d8257e953625b0", func := "ulp/ulplaw02.FlagsNil", spec := "flagsNil", inPlace := ["internal/abi.NoEscape", "internal/bytealg.MakeNoZero"], unfollowed := true, recurses := true, named := ["ulp/flags.names"], apart := false, laid := [("ulp/flags.names", laid_ulp_flags_names)] }
def FlagsNilSaid : Prop := flagsNilRow.holds Tryd.pinned (OpenSpec.ofChange flagsNilSpec)

/-- ITS FALSE NEIGHBOUR: 'it returns false'. Refute it at one input. -/
def flagsNilWrong : ChangeSpec := { name := "flagsNil", fn := fun _ => fun
  | [d] => { results := [.lit (.bool false)], args := [d] }
  | _ => none }
def FlagsNilWrongFalsely : Prop := flagsNilRow.holds Tryd.pinned (OpenSpec.ofChange flagsNilWrong)

/- THE SECOND FORM. 'bulk': how many values and letters a reading holds, each counted each time it is reached (what is shared counts as often as it is met; a slice's spare places count too). A statement '..UptoSaid' is the law's where the arguments, and the package variables that the reading takes, are together of bulk at most 1048576: NARROWER than '..Said'. Prove '..Said' where nothing that the law and all that it calls make is longer than what came in: it says more and counts as full. Else prove '..UptoSaid'. A law counts once. -/
mutual
def uptoBulk {H : Type} : DataW H → Nat
  | .lit (.string bytes) => bytes.length + 1
  | .lit _ => 1
  | .nil => 1
  | .ptr d => uptoBulk d + 1
  | .slice elems spare => uptoBulkAll elems + uptoBulkAll spare + 1
  | .agg parts => uptoBulkAll parts + 1
  | .iface _ d => uptoBulk d + 1
  | .map entries => uptoBulkEntries entries + 1
  | .held _ => 1
def uptoBulkAll {H : Type} : List (DataW H) → Nat
  | [] => 0
  | d :: r => uptoBulk d + uptoBulkAll r
def uptoBulkEntries {H : Type} : List (Lit × DataW H) → Nat
  | [] => 0
  | x :: r => uptoBulkEntry x + uptoBulkEntries r
def uptoBulkEntry {H : Type} : Lit × DataW H → Nat
  | (.string bytes, d) => bytes.length + uptoBulk d + 1
  | (_, d) => uptoBulk d + 1
 end
def uptoSmall : (H : Type) → List (DataW H) → Bool := fun _ ds => decide (uptoBulkAll ds ≤ 1048576)
def OpenSpec.upto (s : _root_.Go.ChangeSpec) : _root_.Go.OpenSpec := { _root_.Go.OpenSpec.ofChange s with cond := some uptoSmall }

/-- 'ulplaw01.BitsSteps', WHERE WHAT IT READS IS OF BULK AT MOST 1048576: true; the input reads as it did. -/
def bitsStepsUptoRow : OpenClaim := { program := "ytoamnimepkodeabdoor", sum := "73b77d3674e0ce1ff18f3563d75ff25fed67ed45595b7a1384d8257e953625b0", func := "ulp/ulplaw01.BitsSteps", spec := "bitsSteps", named := ["math/bits.deBruijn64tab"], apart := false, laid := [("math/bits.deBruijn64tab", laid_math_bits_deBruijn64tab)], narrowed := true }
def BitsStepsUptoSaid : Prop := bitsStepsUptoRow.holds Tryd.pinned (OpenSpec.upto bitsStepsSpec)

/-- 'ulplaw01.BitsWhole', WHERE WHAT IT READS IS OF BULK AT MOST 1048576: true; the input reads as it did. -/
def bitsWholeUptoRow : OpenClaim := { program := "ytoamnimepkodeabdoor", sum := "73b77d3674e0ce1ff18f3563d75ff25fed67ed45595b7a1384d8257e953625b0", func := "ulp/ulplaw01.BitsWhole", spec := "bitsWhole", named := ["math/bits.deBruijn64tab"], apart := false, laid := [("math/bits.deBruijn64tab", laid_math_bits_deBruijn64tab)], narrowed := true }
def BitsWholeUptoSaid : Prop := bitsWholeUptoRow.holds Tryd.pinned (OpenSpec.upto bitsWholeSpec)

/-- 'ulplaw02.FlagsSets', WHERE WHAT IT READS IS OF BULK AT MOST 1048576: true; the input reads as it did. -/
def flagsSetsUptoRow : OpenClaim := { program := "ytoamnimepkodeabdoor", sum := "73b77d3674e0ce1ff18f3563d75ff25fed67ed45595b7a1384d8257e953625b0", func := "ulp/ulplaw02.FlagsSets", spec := "flagsSets", inPlace := ["internal/abi.NoEscape", "internal/bytealg.MakeNoZero"], unfollowed := true, recurses := true, named := ["ulp/flags.names"], apart := false, laid := [("ulp/flags.names", laid_ulp_flags_names)], narrowed := true }
def FlagsSetsUptoSaid : Prop := flagsSetsUptoRow.holds Tryd.pinned (OpenSpec.upto flagsSetsSpec)

/-- 'ulplaw02.FlagsTexts', WHERE WHAT IT READS IS OF BULK AT MOST 1048576: true; the input reads as it did. -/
def flagsTextsUptoRow : OpenClaim := { program := "ytoamnimepkodeabdoor", sum := "73b77d3674e0ce1ff18f3563d75ff25fed67ed45595b7a1384d8257e953625b0", func := "ulp/ulplaw02.FlagsTexts", spec := "flagsTexts", inPlace := ["internal/abi.NoEscape", "internal/bytealg.MakeNoZero"], unfollowed := true, recurses := true, named := ["ulp/flags.names"], apart := false, laid := [("ulp/flags.names", laid_ulp_flags_names)], narrowed := true }
def FlagsTextsUptoSaid : Prop := flagsTextsUptoRow.holds Tryd.pinned (OpenSpec.upto flagsTextsSpec)

/-- 'ulplaw02.FlagsSteps', WHERE WHAT IT READS IS OF BULK AT MOST 1048576: true; the input reads as it did. -/
def flagsStepsUptoRow : OpenClaim := { program := "ytoamnimepkodeabdoor", sum := "73b77d3674e0ce1ff18f3563d75ff25fed67ed45595b7a1384d8257e953625b0", func := "ulp/ulplaw02.FlagsSteps", spec := "flagsSteps", inPlace := ["internal/abi.NoEscape", "internal/bytealg.MakeNoZero"], unfollowed := true, recurses := true, named := ["ulp/flags.names"], apart := false, laid := [("ulp/flags.names", laid_ulp_flags_names)], narrowed := true }
def FlagsStepsUptoSaid : Prop := flagsStepsUptoRow.holds Tryd.pinned (OpenSpec.upto flagsStepsSpec)

/-- 'ulplaw02.FlagsNil', WHERE WHAT IT READS IS OF BULK AT MOST 1048576: true; the input reads as it did. -/
def flagsNilUptoRow : OpenClaim := { program := "ytoamnimepkodeabdoor", sum := "73b77d3674e0ce1ff18f3563d75ff25fed67ed45595b7a1384d8257e953625b0", func := "ulp/ulplaw02.FlagsNil", spec := "flagsNil", inPlace := ["internal/abi.NoEscape", "internal/bytealg.MakeNoZero"], unfollowed := true, recurses := true, named := ["ulp/flags.names"], apart := false, laid := [("ulp/flags.names", laid_ulp_flags_names)], narrowed := true }
def FlagsNilUptoSaid : Prop := flagsNilUptoRow.holds Tryd.pinned (OpenSpec.upto flagsNilSpec)

end Rows
end Go.Proofs.YtoamnimepkodeabDoor

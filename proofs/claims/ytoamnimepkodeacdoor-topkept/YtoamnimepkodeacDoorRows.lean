/-
  NARROWER THAN 'FOR EVERY INPUT', by the rows' own cells (each row's printed sentence says how): FlagsRules: laid · FlagsBack: laid · FlagsSticky: laid · FlagsHeld: laid · TopKept: laid.
  DERIVED. THE GIVEN ROWS OF THIS SEAT. 5 by the template 'for every input the law returns true; each argument reads behind the call as it read before'; 0 by the template 'total and deterministic' (their statements: YtoamnimepkodeacDoorTotals.lean).
  GIVEN WITH THE SEED: the statements are not yours to turn. If you find one false, say at which input.
  Laid BY PROGRAM, IN A SANDBOX (cutbox-rows.mjs): the forced cells as the released guide's own fill.sh prints them over the translation 86c0db30935ee425… (all of the seat's roots in one cut). By AI agents, Wed Nov 11 2026. No macro, syntax, notation, axiom, sorry.
-/
import Derived.Test.YtoamnimepkodeacDoorChecked
import GoSem.Claim
import GoSem.ClaimJoined
import GoSem.ClaimMapViews
import Derived.JoinedTies
import Derived.KernelRfl
namespace Go.Proofs.YtoamnimepkodeacDoor
/- THE CELL 'sum', in the pinned program and in every row, IS THE sha256 OF THE DUMP (.gsa) THAT YtoamnimepkodeacDoorProg.lean LOADS. Nothing in Lean hashes anything: it is a label: what it is worth is what the hold of that sum in a sandbox is worth. -/
noncomputable def Tryd.pinned : Pinned := { name := "ytoamnimepkodeacdoor", sum := "86c0db30935ee4254f1e3cb4536521fa3f92978c6a0e99e19f789c7d50c8f957", checked := Tryd.checked }
namespace Rows
def none {H : Type} : Left H := { results := [], args := [] }

/- WHAT THE LISTED PACKAGE-LEVEL VARIABLES READ AS WHEN THE CALL BEGINS. Each datum BY PROGRAM (the guide's laid-datum.mjs) off the statement by which the dump's own 'gosem.cut.vars' lays the variable. In a bare row this is a premise. The card (YtoamnimepkodeacDoorCards.lean) ties it to the program's text. -/
def laid_ulp_flags_names {H : Type} : DataW H := .agg [.lit (.string [105, 110, 118, 97, 108, 105, 100]), .lit (.string [100, 105, 118, 98, 121, 122, 101, 114, 111]), .lit (.string [111, 118, 101, 114, 102, 108, 111, 119]), .lit (.string [117, 110, 100, 101, 114, 102, 108, 111, 119]), .lit (.string [105, 110, 101, 120, 97, 99, 116])]

/-- 'ulplaw02.FlagsRules': WHATEVER THE INPUT: true; the input reads as it did. -/
def flagsRulesSpec : ChangeSpec := { name := "flagsRules", fn := fun _ => fun
  | [d1, d2, d3] => { results := [.lit (.bool true)], args := [d1, d2, d3] }
  | _ => none }
def flagsRulesRow : OpenClaim := { program := "ytoamnimepkodeacdoor", sum := "86c0db30935ee4254f1e3cb4536521fa3f92978c6a0e99e19f789c7d50c8f957", func := "ulp/ulplaw02.FlagsRules", spec := "flagsRules", inPlace := ["internal/abi.NoEscape", "internal/bytealg.MakeNoZero"], unfollowed := true, recurses := true, named := ["ulp/flags.names"], apart := false, laid := [("ulp/flags.names", laid_ulp_flags_names)] }
def FlagsRulesSaid : Prop := flagsRulesRow.holds Tryd.pinned (OpenSpec.ofChange flagsRulesSpec)

/-- ITS FALSE NEIGHBOUR: 'it returns false'. Refute it at one input. -/
def flagsRulesWrong : ChangeSpec := { name := "flagsRules", fn := fun _ => fun
  | [d1, d2, d3] => { results := [.lit (.bool false)], args := [d1, d2, d3] }
  | _ => none }
def FlagsRulesWrongFalsely : Prop := flagsRulesRow.holds Tryd.pinned (OpenSpec.ofChange flagsRulesWrong)

/-- 'ulplaw02.FlagsBack': WHATEVER THE INPUT: true; the input reads as it did. -/
def flagsBackSpec : ChangeSpec := { name := "flagsBack", fn := fun _ => fun
  | [d1, d2] => { results := [.lit (.bool true)], args := [d1, d2] }
  | _ => none }
def flagsBackRow : OpenClaim := { program := "ytoamnimepkodeacdoor", sum := "86c0db30935ee4254f1e3cb4536521fa3f92978c6a0e99e19f789c7d50c8f957", func := "ulp/ulplaw02.FlagsBack", spec := "flagsBack", inPlace := ["internal/abi.NoEscape", "internal/bytealg.MakeNoZero"], unfollowed := true, recurses := true, named := ["ulp/flags.names"], apart := false, laid := [("ulp/flags.names", laid_ulp_flags_names)] }
def FlagsBackSaid : Prop := flagsBackRow.holds Tryd.pinned (OpenSpec.ofChange flagsBackSpec)

/-- ITS FALSE NEIGHBOUR: 'it returns false'. Refute it at one input. -/
def flagsBackWrong : ChangeSpec := { name := "flagsBack", fn := fun _ => fun
  | [d1, d2] => { results := [.lit (.bool false)], args := [d1, d2] }
  | _ => none }
def FlagsBackWrongFalsely : Prop := flagsBackRow.holds Tryd.pinned (OpenSpec.ofChange flagsBackWrong)

/-- 'ulplaw02.FlagsSticky': WHATEVER THE INPUT: true; the input reads as it did. -/
def flagsStickySpec : ChangeSpec := { name := "flagsSticky", fn := fun _ => fun
  | [d1, d2] => { results := [.lit (.bool true)], args := [d1, d2] }
  | _ => none }
def flagsStickyRow : OpenClaim := { program := "ytoamnimepkodeacdoor", sum := "86c0db30935ee4254f1e3cb4536521fa3f92978c6a0e99e19f789c7d50c8f957", func := "ulp/ulplaw02.FlagsSticky", spec := "flagsSticky", inPlace := ["internal/abi.NoEscape", "internal/bytealg.MakeNoZero"], unfollowed := true, recurses := true, named := ["ulp/flags.names"], apart := false, laid := [("ulp/flags.names", laid_ulp_flags_names)] }
def FlagsStickySaid : Prop := flagsStickyRow.holds Tryd.pinned (OpenSpec.ofChange flagsStickySpec)

/-- ITS FALSE NEIGHBOUR: 'it returns false'. Refute it at one input. -/
def flagsStickyWrong : ChangeSpec := { name := "flagsSticky", fn := fun _ => fun
  | [d1, d2] => { results := [.lit (.bool false)], args := [d1, d2] }
  | _ => none }
def FlagsStickyWrongFalsely : Prop := flagsStickyRow.holds Tryd.pinned (OpenSpec.ofChange flagsStickyWrong)

/-- 'ulplaw02.FlagsHeld': WHATEVER THE INPUT: true; the input reads as it did. -/
def flagsHeldSpec : ChangeSpec := { name := "flagsHeld", fn := fun _ => fun
  | [d1, d2] => { results := [.lit (.bool true)], args := [d1, d2] }
  | _ => none }
def flagsHeldRow : OpenClaim := { program := "ytoamnimepkodeacdoor", sum := "86c0db30935ee4254f1e3cb4536521fa3f92978c6a0e99e19f789c7d50c8f957", func := "ulp/ulplaw02.FlagsHeld", spec := "flagsHeld", inPlace := ["internal/abi.NoEscape", "internal/bytealg.MakeNoZero"], unfollowed := true, recurses := true, named := ["ulp/flags.names"], apart := false, laid := [("ulp/flags.names", laid_ulp_flags_names)] }
def FlagsHeldSaid : Prop := flagsHeldRow.holds Tryd.pinned (OpenSpec.ofChange flagsHeldSpec)

/-- ITS FALSE NEIGHBOUR: 'it returns false'. Refute it at one input. -/
def flagsHeldWrong : ChangeSpec := { name := "flagsHeld", fn := fun _ => fun
  | [d1, d2] => { results := [.lit (.bool false)], args := [d1, d2] }
  | _ => none }
def FlagsHeldWrongFalsely : Prop := flagsHeldRow.holds Tryd.pinned (OpenSpec.ofChange flagsHeldWrong)

/-- 'ulptop.TopKept': WHATEVER THE INPUT: true; the input reads as it did. -/
def topKeptSpec : ChangeSpec := { name := "topKept", fn := fun _ => fun
  | [d1, d2] => { results := [.lit (.bool true)], args := [d1, d2] }
  | _ => none }
def topKeptRow : OpenClaim := { program := "ytoamnimepkodeacdoor", sum := "86c0db30935ee4254f1e3cb4536521fa3f92978c6a0e99e19f789c7d50c8f957", func := "ulp/ulptop.TopKept", spec := "topKept", inPlace := ["internal/abi.NoEscape", "internal/bytealg.MakeNoZero"], unfollowed := true, recurses := true, named := ["ulp/flags.names"], apart := false, laid := [("ulp/flags.names", laid_ulp_flags_names)] }
def TopKeptSaid : Prop := topKeptRow.holds Tryd.pinned (OpenSpec.ofChange topKeptSpec)

/-- ITS FALSE NEIGHBOUR: 'it returns false'. Refute it at one input. -/
def topKeptWrong : ChangeSpec := { name := "topKept", fn := fun _ => fun
  | [d1, d2] => { results := [.lit (.bool false)], args := [d1, d2] }
  | _ => none }
def TopKeptWrongFalsely : Prop := topKeptRow.holds Tryd.pinned (OpenSpec.ofChange topKeptWrong)

/- THE SECOND FORM. 'bulk': how many values and letters a reading holds, each counted each time it is reached (what is shared counts as often as it is met; a slice's spare places count too). A statement '..UptoSaid' is the law's where the arguments, and the package variables that the reading takes, are together of bulk at most 1048576: NARROWER than '..Said'. Prove '..Said' where nothing that the law and all that it calls make is longer than what came in: it says more and counts as full. Else prove '..UptoSaid'. A law counts once. -/
mutual
def uptoBulk {H : Type} : DataW H → Nat
  | .lit (.string bytes) => bytes.length + 1
  | .lit _ => 1
  | .nil => 1
  | .ptr d => uptoBulk d + 1
  | .slice elems spare => uptoBulkAll elems + uptoBulkAll spare + 1
  | .agg parts => uptoBulkAll parts + 1
  | .iface _ d => uptoBulk d + 1
  | .map entries => uptoBulkEntries entries + 1
  | .held _ => 1
def uptoBulkAll {H : Type} : List (DataW H) → Nat
  | [] => 0
  | d :: r => uptoBulk d + uptoBulkAll r
def uptoBulkEntries {H : Type} : List (Lit × DataW H) → Nat
  | [] => 0
  | x :: r => uptoBulkEntry x + uptoBulkEntries r
def uptoBulkEntry {H : Type} : Lit × DataW H → Nat
  | (.string bytes, d) => bytes.length + uptoBulk d + 1
  | (_, d) => uptoBulk d + 1
 end
def uptoSmall : (H : Type) → List (DataW H) → Bool := fun _ ds => decide (uptoBulkAll ds ≤ 1048576)
def OpenSpec.upto (s : _root_.Go.ChangeSpec) : _root_.Go.OpenSpec := { _root_.Go.OpenSpec.ofChange s with cond := some uptoSmall }

/-- 'ulplaw02.FlagsRules', WHERE WHAT IT READS IS OF BULK AT MOST 1048576: true; the input reads as it did. -/
def flagsRulesUptoRow : OpenClaim := { program := "ytoamnimepkodeacdoor", sum := "86c0db30935ee4254f1e3cb4536521fa3f92978c6a0e99e19f789c7d50c8f957", func := "ulp/ulplaw02.FlagsRules", spec := "flagsRules", inPlace := ["internal/abi.NoEscape", "internal/bytealg.MakeNoZero"], unfollowed := true, recurses := true, named := ["ulp/flags.names"], apart := false, laid := [("ulp/flags.names", laid_ulp_flags_names)], narrowed := true }
def FlagsRulesUptoSaid : Prop := flagsRulesUptoRow.holds Tryd.pinned (OpenSpec.upto flagsRulesSpec)

/-- 'ulplaw02.FlagsBack', WHERE WHAT IT READS IS OF BULK AT MOST 1048576: true; the input reads as it did. -/
def flagsBackUptoRow : OpenClaim := { program := "ytoamnimepkodeacdoor", sum := "86c0db30935ee4254f1e3cb4536521fa3f92978c6a0e99e19f789c7d50c8f957", func := "ulp/ulplaw02.FlagsBack", spec := "flagsBack", inPlace := ["internal/abi.NoEscape", "internal/bytealg.MakeNoZero"], unfollowed := true, recurses := true, named := ["ulp/flags.names"], apart := false, laid := [("ulp/flags.names", laid_ulp_flags_names)], narrowed := true }
def FlagsBackUptoSaid : Prop := flagsBackUptoRow.holds Tryd.pinned (OpenSpec.upto flagsBackSpec)

/-- 'ulplaw02.FlagsSticky', WHERE WHAT IT READS IS OF BULK AT MOST 1048576: true; the input reads as it did. -/
def flagsStickyUptoRow : OpenClaim := { program := "ytoamnimepkodeacdoor", sum := "86c0db30935ee4254f1e3cb4536521fa3f92978c6a0e99e19f789c7d50c8f957", func := "ulp/ulplaw02.FlagsSticky", spec := "flagsSticky", inPlace := ["internal/abi.NoEscape", "internal/bytealg.MakeNoZero"], unfollowed := true, recurses := true, named := ["ulp/flags.names"], apart := false, laid := [("ulp/flags.names", laid_ulp_flags_names)], narrowed := true }
def FlagsStickyUptoSaid : Prop := flagsStickyUptoRow.holds Tryd.pinned (OpenSpec.upto flagsStickySpec)

/-- 'ulplaw02.FlagsHeld', WHERE WHAT IT READS IS OF BULK AT MOST 1048576: true; the input reads as it did. -/
def flagsHeldUptoRow : OpenClaim := { program := "ytoamnimepkodeacdoor", sum := "86c0db30935ee4254f1e3cb4536521fa3f92978c6a0e99e19f789c7d50c8f957", func := "ulp/ulplaw02.FlagsHeld", spec := "flagsHeld", inPlace := ["internal/abi.NoEscape", "internal/bytealg.MakeNoZero"], unfollowed := true, recurses := true, named := ["ulp/flags.names"], apart := false, laid := [("ulp/flags.names", laid_ulp_flags_names)], narrowed := true }
def FlagsHeldUptoSaid : Prop := flagsHeldUptoRow.holds Tryd.pinned (OpenSpec.upto flagsHeldSpec)

/-- 'ulptop.TopKept', WHERE WHAT IT READS IS OF BULK AT MOST 1048576: true; the input reads as it did. -/
def topKeptUptoRow : OpenClaim := { program := "ytoamnimepkodeacdoor", sum := "86c0db30935ee4254f1e3cb4536521fa3f92978c6a0e99e19f789c7d50c8f957", func := "ulp/ulptop.TopKept", spec := "topKept", inPlace := ["internal/abi.NoEscape", "internal/bytealg.MakeNoZero"], unfollowed := true, recurses := true, named := ["ulp/flags.names"], apart := false, laid := [("ulp/flags.names", laid_ulp_flags_names)], narrowed := true }
def TopKeptUptoSaid : Prop := topKeptUptoRow.holds Tryd.pinned (OpenSpec.upto topKeptSpec)

end Rows
end Go.Proofs.YtoamnimepkodeacDoor

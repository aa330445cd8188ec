/-
  NARROWER THAN 'FOR EVERY INPUT', by the rows' own cells (each row's printed sentence says how): AlgRoots: laid · AlgHypots: laid · AlgBetween: laid · AlgExact: laid · AlgMirror: laid · AlgScaled: laid · AlgRises: laid.
  DERIVED. THE GIVEN ROWS OF THIS SEAT. 7 by the template 'for every input the law returns true; each argument reads behind the call as it read before'; 0 by the template 'total and deterministic' (their statements: YtfgemlgmhlidmaaGreatDoorTotals.lean).
  GIVEN WITH THE SEED: the statements are not yours to turn. If you find one false, say at which input.
  Laid BY PROGRAM, IN A SANDBOX (cutbox-rows.mjs): the forced cells as the released guide's own fill.sh prints them over the translation fd10744b683bdda7… (all of the seat's roots in one cut). By AI agents, Wed Nov 11 2026. No macro, syntax, notation, axiom, sorry.
-/
import Derived.Test.YtfgemlgmhlidmaaGreatDoorChecked
import GoSem.Claim
import GoSem.ClaimJoined
import GoSem.ClaimMapViews
import Derived.JoinedTies
import Derived.KernelRfl
namespace Go.Proofs.YtfgemlgmhlidmaaGreatDoor
/- THE CELL 'sum', in the pinned program and in every row, IS THE sha256 OF THE DUMP (.gsa) THAT YtfgemlgmhlidmaaGreatDoorProg.lean LOADS. Nothing in Lean hashes anything: it is a label: what it is worth is what the hold of that sum in a sandbox is worth. -/
noncomputable def Tryz.pinned : Pinned := { name := "ytfgemlgmhlidmaagreatdoor", sum := "fd10744b683bdda7b7e4b67ec5c432d1dacd5f1050afff5434e994ad35d57000", checked := Tryz.checked }
namespace Rows
def none {H : Type} : Left H := { results := [], args := [] }

/- WHAT THE LISTED PACKAGE-LEVEL VARIABLES READ AS WHEN THE CALL BEGINS. Each datum BY PROGRAM (the guide's laid-datum.mjs) off the statement by which the dump's own 'gosem.cut.vars' lays the variable. In a bare row this is a premise. The card (YtfgemlgmhlidmaaGreatDoorCards.lean) ties it to the program's text. -/
def laid_math_bits_deBruijn64tab {H : Type} : DataW H := .agg [.lit (.int .u8 0), .lit (.int .u8 1), .lit (.int .u8 56), .lit (.int .u8 2), .lit (.int .u8 57), .lit (.int .u8 49), .lit (.int .u8 28), .lit (.int .u8 3), .lit (.int .u8 61), .lit (.int .u8 58), .lit (.int .u8 42), .lit (.int .u8 50), .lit (.int .u8 38), .lit (.int .u8 29), .lit (.int .u8 17), .lit (.int .u8 4), .lit (.int .u8 62), .lit (.int .u8 47), .lit (.int .u8 59), .lit (.int .u8 36), .lit (.int .u8 45), .lit (.int .u8 43), .lit (.int .u8 51), .lit (.int .u8 22), .lit (.int .u8 53), .lit (.int .u8 39), .lit (.int .u8 33), .lit (.int .u8 30), .lit (.int .u8 24), .lit (.int .u8 18), .lit (.int .u8 12), .lit (.int .u8 5), .lit (.int .u8 63), .lit (.int .u8 55), .lit (.int .u8 48), .lit (.int .u8 27), .lit (.int .u8 60), .lit (.int .u8 41), .lit (.int .u8 37), .lit (.int .u8 16), .lit (.int .u8 46), .lit (.int .u8 35), .lit (.int .u8 44), .lit (.int .u8 21), .lit (.int .u8 52), .lit (.int .u8 32), .lit (.int .u8 23), .lit (.int .u8 11), .lit (.int .u8 54), .lit (.int .u8 26), .lit (.int .u8 40), .lit (.int .u8 15), .lit (.int .u8 34), .lit (.int .u8 20), .lit (.int .u8 31), .lit (.int .u8 10), .lit (.int .u8 25), .lit (.int .u8 14), .lit (.int .u8 19), .lit (.int .u8 9), .lit (.int .u8 13), .lit (.int .u8 8), .lit (.int .u8 7), .lit (.int .u8 6)]

/-- 'ulplaw21.AlgRoots': WHATEVER THE INPUT: true; the input reads as it did. -/
def algRootsSpec : ChangeSpec := { name := "algRoots", fn := fun _ => fun
  | [d] => { results := [.lit (.bool true)], args := [d] }
  | _ => none }
def algRootsRow : OpenClaim := { program := "ytfgemlgmhlidmaagreatdoor", sum := "fd10744b683bdda7b7e4b67ec5c432d1dacd5f1050afff5434e994ad35d57000", func := "ulp/ulplaw21.AlgRoots", spec := "algRoots", inPlace := ["math/bits.Add64", "math/bits.Sub64"], unfollowed := true, recurses := true, named := ["math/bits.deBruijn64tab", "math/bits.divideError", "math/bits.overflowError"], apart := false, laid := [("math/bits.deBruijn64tab", laid_math_bits_deBruijn64tab)] }
def AlgRootsSaid : Prop := algRootsRow.holds Tryz.pinned (OpenSpec.ofChange algRootsSpec)

/-- ITS FALSE NEIGHBOUR: 'it returns false'. Refute it at one input. -/
def algRootsWrong : ChangeSpec := { name := "algRoots", fn := fun _ => fun
  | [d] => { results := [.lit (.bool false)], args := [d] }
  | _ => none }
def AlgRootsWrongFalsely : Prop := algRootsRow.holds Tryz.pinned (OpenSpec.ofChange algRootsWrong)

/-- 'ulplaw21.AlgHypots': WHATEVER THE INPUT: true; the input reads as it did. -/
def algHypotsSpec : ChangeSpec := { name := "algHypots", fn := fun _ => fun
  | [d1, d2, d3] => { results := [.lit (.bool true)], args := [d1, d2, d3] }
  | _ => none }
def algHypotsRow : OpenClaim := { program := "ytfgemlgmhlidmaagreatdoor", sum := "fd10744b683bdda7b7e4b67ec5c432d1dacd5f1050afff5434e994ad35d57000", func := "ulp/ulplaw21.AlgHypots", spec := "algHypots", inPlace := ["math/bits.Add64", "math/bits.Sub64"], unfollowed := true, recurses := true, named := ["math/bits.deBruijn64tab", "math/bits.divideError", "math/bits.overflowError"], apart := false, laid := [("math/bits.deBruijn64tab", laid_math_bits_deBruijn64tab)] }
def AlgHypotsSaid : Prop := algHypotsRow.holds Tryz.pinned (OpenSpec.ofChange algHypotsSpec)

/-- ITS FALSE NEIGHBOUR: 'it returns false'. Refute it at one input. -/
def algHypotsWrong : ChangeSpec := { name := "algHypots", fn := fun _ => fun
  | [d1, d2, d3] => { results := [.lit (.bool false)], args := [d1, d2, d3] }
  | _ => none }
def AlgHypotsWrongFalsely : Prop := algHypotsRow.holds Tryz.pinned (OpenSpec.ofChange algHypotsWrong)

/-- 'ulplaw21.AlgBetween': WHATEVER THE INPUT: true; the input reads as it did. -/
def algBetweenSpec : ChangeSpec := { name := "algBetween", fn := fun _ => fun
  | [d] => { results := [.lit (.bool true)], args := [d] }
  | _ => none }
def algBetweenRow : OpenClaim := { program := "ytfgemlgmhlidmaagreatdoor", sum := "fd10744b683bdda7b7e4b67ec5c432d1dacd5f1050afff5434e994ad35d57000", func := "ulp/ulplaw21.AlgBetween", spec := "algBetween", inPlace := ["math/bits.Add64", "math/bits.Sub64"], unfollowed := true, recurses := true, named := ["math/bits.deBruijn64tab", "math/bits.divideError", "math/bits.overflowError"], apart := false, laid := [("math/bits.deBruijn64tab", laid_math_bits_deBruijn64tab)] }
def AlgBetweenSaid : Prop := algBetweenRow.holds Tryz.pinned (OpenSpec.ofChange algBetweenSpec)

/-- ITS FALSE NEIGHBOUR: 'it returns false'. Refute it at one input. -/
def algBetweenWrong : ChangeSpec := { name := "algBetween", fn := fun _ => fun
  | [d] => { results := [.lit (.bool false)], args := [d] }
  | _ => none }
def AlgBetweenWrongFalsely : Prop := algBetweenRow.holds Tryz.pinned (OpenSpec.ofChange algBetweenWrong)

/-- 'ulplaw21.AlgExact': WHATEVER THE INPUT: true; the input reads as it did. -/
def algExactSpec : ChangeSpec := { name := "algExact", fn := fun _ => fun
  | [d1, d2] => { results := [.lit (.bool true)], args := [d1, d2] }
  | _ => none }
def algExactRow : OpenClaim := { program := "ytfgemlgmhlidmaagreatdoor", sum := "fd10744b683bdda7b7e4b67ec5c432d1dacd5f1050afff5434e994ad35d57000", func := "ulp/ulplaw21.AlgExact", spec := "algExact", inPlace := ["math/bits.Add64", "math/bits.Sub64"], unfollowed := true, recurses := true, named := ["math/bits.deBruijn64tab", "math/bits.divideError", "math/bits.overflowError"], apart := false, laid := [("math/bits.deBruijn64tab", laid_math_bits_deBruijn64tab)] }
def AlgExactSaid : Prop := algExactRow.holds Tryz.pinned (OpenSpec.ofChange algExactSpec)

/-- ITS FALSE NEIGHBOUR: 'it returns false'. Refute it at one input. -/
def algExactWrong : ChangeSpec := { name := "algExact", fn := fun _ => fun
  | [d1, d2] => { results := [.lit (.bool false)], args := [d1, d2] }
  | _ => none }
def AlgExactWrongFalsely : Prop := algExactRow.holds Tryz.pinned (OpenSpec.ofChange algExactWrong)

/-- 'ulplaw21.AlgMirror': WHATEVER THE INPUT: true; the input reads as it did. -/
def algMirrorSpec : ChangeSpec := { name := "algMirror", fn := fun _ => fun
  | [d1, d2] => { results := [.lit (.bool true)], args := [d1, d2] }
  | _ => none }
def algMirrorRow : OpenClaim := { program := "ytfgemlgmhlidmaagreatdoor", sum := "fd10744b683bdda7b7e4b67ec5c432d1dacd5f1050afff5434e994ad35d57000", func := "ulp/ulplaw21.AlgMirror", spec := "algMirror", inPlace := ["math/bits.Add64", "math/bits.Sub64"], unfollowed := true, recurses := true, named := ["math/bits.deBruijn64tab", "math/bits.divideError", "math/bits.overflowError"], apart := false, laid := [("math/bits.deBruijn64tab", laid_math_bits_deBruijn64tab)] }
def AlgMirrorSaid : Prop := algMirrorRow.holds Tryz.pinned (OpenSpec.ofChange algMirrorSpec)

/-- ITS FALSE NEIGHBOUR: 'it returns false'. Refute it at one input. -/
def algMirrorWrong : ChangeSpec := { name := "algMirror", fn := fun _ => fun
  | [d1, d2] => { results := [.lit (.bool false)], args := [d1, d2] }
  | _ => none }
def AlgMirrorWrongFalsely : Prop := algMirrorRow.holds Tryz.pinned (OpenSpec.ofChange algMirrorWrong)

/-- 'ulplaw21.AlgScaled': WHATEVER THE INPUT: true; the input reads as it did. -/
def algScaledSpec : ChangeSpec := { name := "algScaled", fn := fun _ => fun
  | [d1, d2] => { results := [.lit (.bool true)], args := [d1, d2] }
  | _ => none }
def algScaledRow : OpenClaim := { program := "ytfgemlgmhlidmaagreatdoor", sum := "fd10744b683bdda7b7e4b67ec5c432d1dacd5f1050afff5434e994ad35d57000", func := "ulp/ulplaw21.AlgScaled", spec := "algScaled", inPlace := ["math/bits.Add64", "math/bits.Sub64"], unfollowed := true, recurses := true, named := ["math/bits.deBruijn64tab", "math/bits.divideError", "math/bits.overflowError"], apart := false, laid := [("math/bits.deBruijn64tab", laid_math_bits_deBruijn64tab)] }
def AlgScaledSaid : Prop := algScaledRow.holds Tryz.pinned (OpenSpec.ofChange algScaledSpec)

/-- ITS FALSE NEIGHBOUR: 'it returns false'. Refute it at one input. -/
def algScaledWrong : ChangeSpec := { name := "algScaled", fn := fun _ => fun
  | [d1, d2] => { results := [.lit (.bool false)], args := [d1, d2] }
  | _ => none }
def AlgScaledWrongFalsely : Prop := algScaledRow.holds Tryz.pinned (OpenSpec.ofChange algScaledWrong)

/-- 'ulplaw21.AlgRises': WHATEVER THE INPUT: true; the input reads as it did. -/
def algRisesSpec : ChangeSpec := { name := "algRises", fn := fun _ => fun
  | [d1, d2] => { results := [.lit (.bool true)], args := [d1, d2] }
  | _ => none }
def algRisesRow : OpenClaim := { program := "ytfgemlgmhlidmaagreatdoor", sum := "fd10744b683bdda7b7e4b67ec5c432d1dacd5f1050afff5434e994ad35d57000", func := "ulp/ulplaw21.AlgRises", spec := "algRises", inPlace := ["math/bits.Add64", "math/bits.Sub64"], unfollowed := true, recurses := true, named := ["math/bits.deBruijn64tab", "math/bits.divideError", "math/bits.overflowError"], apart := false, laid := [("math/bits.deBruijn64tab", laid_math_bits_deBruijn64tab)] }
def AlgRisesSaid : Prop := algRisesRow.holds Tryz.pinned (OpenSpec.ofChange algRisesSpec)

/-- ITS FALSE NEIGHBOUR: 'it returns false'. Refute it at one input. -/
def algRisesWrong : ChangeSpec := { name := "algRises", fn := fun _ => fun
  | [d1, d2] => { results := [.lit (.bool false)], args := [d1, d2] }
  | _ => none }
def AlgRisesWrongFalsely : Prop := algRisesRow.holds Tryz.pinned (OpenSpec.ofChange algRisesWrong)

/- THE SECOND FORM. 'bulk': how many values and letters a reading holds, each counted each time it is reached (what is shared counts as often as it is met; a slice's spare places count too). A statement '..UptoSaid' is the law's where the arguments, and the package variables that the reading takes, are together of bulk at most 1048576: NARROWER than '..Said'. Prove '..Said' where nothing that the law and all that it calls make is longer than what came in: it says more and counts as full. Else prove '..UptoSaid'. A law counts once. -/
mutual
def uptoBulk {H : Type} : DataW H → Nat
  | .lit (.string bytes) => bytes.length + 1
  | .lit _ => 1
  | .nil => 1
  | .ptr d => uptoBulk d + 1
  | .slice elems spare => uptoBulkAll elems + uptoBulkAll spare + 1
  | .agg parts => uptoBulkAll parts + 1
  | .iface _ d => uptoBulk d + 1
  | .map entries => uptoBulkEntries entries + 1
  | .held _ => 1
def uptoBulkAll {H : Type} : List (DataW H) → Nat
  | [] => 0
  | d :: r => uptoBulk d + uptoBulkAll r
def uptoBulkEntries {H : Type} : List (Lit × DataW H) → Nat
  | [] => 0
  | x :: r => uptoBulkEntry x + uptoBulkEntries r
def uptoBulkEntry {H : Type} : Lit × DataW H → Nat
  | (.string bytes, d) => bytes.length + uptoBulk d + 1
  | (_, d) => uptoBulk d + 1
 end
def uptoSmall : (H : Type) → List (DataW H) → Bool := fun _ ds => decide (uptoBulkAll ds ≤ 1048576)
def OpenSpec.upto (s : _root_.Go.ChangeSpec) : _root_.Go.OpenSpec := { _root_.Go.OpenSpec.ofChange s with cond := some uptoSmall }

/-- 'ulplaw21.AlgRoots', WHERE WHAT IT READS IS OF BULK AT MOST 1048576: true; the input reads as it did. -/
def algRootsUptoRow : OpenClaim := { program := "ytfgemlgmhlidmaagreatdoor", sum := "fd10744b683bdda7b7e4b67ec5c432d1dacd5f1050afff5434e994ad35d57000", func := "ulp/ulplaw21.AlgRoots", spec := "algRoots", inPlace := ["math/bits.Add64", "math/bits.Sub64"], unfollowed := true, recurses := true, named := ["math/bits.deBruijn64tab", "math/bits.divideError", "math/bits.overflowError"], apart := false, laid := [("math/bits.deBruijn64tab", laid_math_bits_deBruijn64tab)], narrowed := true }
def AlgRootsUptoSaid : Prop := algRootsUptoRow.holds Tryz.pinned (OpenSpec.upto algRootsSpec)

/-- 'ulplaw21.AlgHypots', WHERE WHAT IT READS IS OF BULK AT MOST 1048576: true; the input reads as it did. -/
def algHypotsUptoRow : OpenClaim := { program := "ytfgemlgmhlidmaagreatdoor", sum := "fd10744b683bdda7b7e4b67ec5c432d1dacd5f1050afff5434e994ad35d57000", func := "ulp/ulplaw21.AlgHypots", spec := "algHypots", inPlace := ["math/bits.Add64", "math/bits.Sub64"], unfollowed := true, recurses := true, named := ["math/bits.deBruijn64tab", "math/bits.divideError", "math/bits.overflowError"], apart := false, laid := [("math/bits.deBruijn64tab", laid_math_bits_deBruijn64tab)], narrowed := true }
def AlgHypotsUptoSaid : Prop := algHypotsUptoRow.holds Tryz.pinned (OpenSpec.upto algHypotsSpec)

/-- 'ulplaw21.AlgBetween', WHERE WHAT IT READS IS OF BULK AT MOST 1048576: true; the input reads as it did. -/
def algBetweenUptoRow : OpenClaim := { program := "ytfgemlgmhlidmaagreatdoor", sum := "fd10744b683bdda7b7e4b67ec5c432d1dacd5f1050afff5434e994ad35d57000", func := "ulp/ulplaw21.AlgBetween", spec := "algBetween", inPlace := ["math/bits.Add64", "math/bits.Sub64"], unfollowed := true, recurses := true, named := ["math/bits.deBruijn64tab", "math/bits.divideError", "math/bits.overflowError"], apart := false, laid := [("math/bits.deBruijn64tab", laid_math_bits_deBruijn64tab)], narrowed := true }
def AlgBetweenUptoSaid : Prop := algBetweenUptoRow.holds Tryz.pinned (OpenSpec.upto algBetweenSpec)

/-- 'ulplaw21.AlgExact', WHERE WHAT IT READS IS OF BULK AT MOST 1048576: true; the input reads as it did. -/
def algExactUptoRow : OpenClaim := { program := "ytfgemlgmhlidmaagreatdoor", sum := "fd10744b683bdda7b7e4b67ec5c432d1dacd5f1050afff5434e994ad35d57000", func := "ulp/ulplaw21.AlgExact", spec := "algExact", inPlace := ["math/bits.Add64", "math/bits.Sub64"], unfollowed := true, recurses := true, named := ["math/bits.deBruijn64tab", "math/bits.divideError", "math/bits.overflowError"], apart := false, laid := [("math/bits.deBruijn64tab", laid_math_bits_deBruijn64tab)], narrowed := true }
def AlgExactUptoSaid : Prop := algExactUptoRow.holds Tryz.pinned (OpenSpec.upto algExactSpec)

/-- 'ulplaw21.AlgMirror', WHERE WHAT IT READS IS OF BULK AT MOST 1048576: true; the input reads as it did. -/
def algMirrorUptoRow : OpenClaim := { program := "ytfgemlgmhlidmaagreatdoor", sum := "fd10744b683bdda7b7e4b67ec5c432d1dacd5f1050afff5434e994ad35d57000", func := "ulp/ulplaw21.AlgMirror", spec := "algMirror", inPlace := ["math/bits.Add64", "math/bits.Sub64"], unfollowed := true, recurses := true, named := ["math/bits.deBruijn64tab", "math/bits.divideError", "math/bits.overflowError"], apart := false, laid := [("math/bits.deBruijn64tab", laid_math_bits_deBruijn64tab)], narrowed := true }
def AlgMirrorUptoSaid : Prop := algMirrorUptoRow.holds Tryz.pinned (OpenSpec.upto algMirrorSpec)

/-- 'ulplaw21.AlgScaled', WHERE WHAT IT READS IS OF BULK AT MOST 1048576: true; the input reads as it did. -/
def algScaledUptoRow : OpenClaim := { program := "ytfgemlgmhlidmaagreatdoor", sum := "fd10744b683bdda7b7e4b67ec5c432d1dacd5f1050afff5434e994ad35d57000", func := "ulp/ulplaw21.AlgScaled", spec := "algScaled", inPlace := ["math/bits.Add64", "math/bits.Sub64"], unfollowed := true, recurses := true, named := ["math/bits.deBruijn64tab", "math/bits.divideError", "math/bits.overflowError"], apart := false, laid := [("math/bits.deBruijn64tab", laid_math_bits_deBruijn64tab)], narrowed := true }
def AlgScaledUptoSaid : Prop := algScaledUptoRow.holds Tryz.pinned (OpenSpec.upto algScaledSpec)

/-- 'ulplaw21.AlgRises', WHERE WHAT IT READS IS OF BULK AT MOST 1048576: true; the input reads as it did. -/
def algRisesUptoRow : OpenClaim := { program := "ytfgemlgmhlidmaagreatdoor", sum := "fd10744b683bdda7b7e4b67ec5c432d1dacd5f1050afff5434e994ad35d57000", func := "ulp/ulplaw21.AlgRises", spec := "algRises", inPlace := ["math/bits.Add64", "math/bits.Sub64"], unfollowed := true, recurses := true, named := ["math/bits.deBruijn64tab", "math/bits.divideError", "math/bits.overflowError"], apart := false, laid := [("math/bits.deBruijn64tab", laid_math_bits_deBruijn64tab)], narrowed := true }
def AlgRisesUptoSaid : Prop := algRisesUptoRow.holds Tryz.pinned (OpenSpec.upto algRisesSpec)

end Rows
end Go.Proofs.YtfgemlgmhlidmaaGreatDoor

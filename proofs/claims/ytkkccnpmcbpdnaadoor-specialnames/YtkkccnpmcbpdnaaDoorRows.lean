/-
  NARROWER THAN 'FOR EVERY INPUT', by the rows' own cells (each row's printed sentence says how): SpecialNames: laid · SpecialBack: laid · SpecialFlags: laid · SpecialOdd: laid · SpecialTurned: laid.
  DERIVED. THE GIVEN ROWS OF THIS SEAT. 5 by the template 'for every input the law returns true; each argument reads behind the call as it read before'; 0 by the template 'total and deterministic' (their statements: YtkkccnpmcbpdnaaDoorTotals.lean).
  GIVEN WITH THE SEED: the statements are not yours to turn. If you find one false, say at which input.
  Laid BY PROGRAM, IN A SANDBOX (cutbox-rows.mjs): the forced cells as the released guide's own fill.sh prints them over the translation 6d025f7af82cfd90… (all of the seat's roots in one cut). By AI agents, Wed Nov 11 2026. No macro, syntax, notation, axiom, sorry.
-/
import Derived.Test.YtkkccnpmcbpdnaaDoorChecked
import GoSem.Claim
import GoSem.ClaimJoined
import GoSem.ClaimMapViews
import Derived.JoinedTies
import Derived.KernelRfl
namespace Go.Proofs.YtkkccnpmcbpdnaaDoor
/- THE CELL 'sum', in the pinned program and in every row, IS THE sha256 OF THE DUMP (.gsa) THAT YtkkccnpmcbpdnaaDoorProg.lean LOADS. Nothing in Lean hashes anything: it is a label: what it is worth is what the hold of that sum in a sandbox is worth. -/
noncomputable def Tryd.pinned : Pinned := { name := "ytkkccnpmcbpdnaadoor", sum := "6d025f7af82cfd90e8551dfd54bfb64b1c1bbdf0389d8c1beeac29a336c08acc", checked := Tryd.checked }
namespace Rows
def none {H : Type} : Left H := { results := [], args := [] }

/- WHAT THE LISTED PACKAGE-LEVEL VARIABLES READ AS WHEN THE CALL BEGINS. Each datum BY PROGRAM (the guide's laid-datum.mjs) off the statement by which the dump's own 'gosem.cut.vars' lays the variable. In a bare row this is a premise. The card (YtkkccnpmcbpdnaaDoorCards.lean) ties it to the program's text. -/
def laid_math_bits_deBruijn64tab {H : Type} : DataW H := .agg [.lit (.int .u8 0), .lit (.int .u8 1), .lit (.int .u8 56), .lit (.int .u8 2), .lit (.int .u8 57), .lit (.int .u8 49), .lit (.int .u8 28), .lit (.int .u8 3), .lit (.int .u8 61), .lit (.int .u8 58), .lit (.int .u8 42), .lit (.int .u8 50), .lit (.int .u8 38), .lit (.int .u8 29), .lit (.int .u8 17), .lit (.int .u8 4), .lit (.int .u8 62), .lit (.int .u8 47), .lit (.int .u8 59), .lit (.int .u8 36), .lit (.int .u8 45), .lit (.int .u8 43), .lit (.int .u8 51), .lit (.int .u8 22), .lit (.int .u8 53), .lit (.int .u8 39), .lit (.int .u8 33), .lit (.int .u8 30), .lit (.int .u8 24), .lit (.int .u8 18), .lit (.int .u8 12), .lit (.int .u8 5), .lit (.int .u8 63), .lit (.int .u8 55), .lit (.int .u8 48), .lit (.int .u8 27), .lit (.int .u8 60), .lit (.int .u8 41), .lit (.int .u8 37), .lit (.int .u8 16), .lit (.int .u8 46), .lit (.int .u8 35), .lit (.int .u8 44), .lit (.int .u8 21), .lit (.int .u8 52), .lit (.int .u8 32), .lit (.int .u8 23), .lit (.int .u8 11), .lit (.int .u8 54), .lit (.int .u8 26), .lit (.int .u8 40), .lit (.int .u8 15), .lit (.int .u8 34), .lit (.int .u8 20), .lit (.int .u8 31), .lit (.int .u8 10), .lit (.int .u8 25), .lit (.int .u8 14), .lit (.int .u8 19), .lit (.int .u8 9), .lit (.int .u8 13), .lit (.int .u8 8), .lit (.int .u8 7), .lit (.int .u8 6)]
def laid_ulp_special_names {H : Type} : DataW H := .agg [.lit (.string []), .lit (.string [101, 120, 112]), .lit (.string [101, 120, 112, 50]), .lit (.string [101, 120, 112, 49, 48]), .lit (.string [101, 120, 112, 109, 49]), .lit (.string [101, 120, 112, 50, 109, 49]), .lit (.string [101, 120, 112, 49, 48, 109, 49]), .lit (.string [108, 111, 103]), .lit (.string [108, 111, 103, 50]), .lit (.string [108, 111, 103, 49, 48]), .lit (.string [108, 111, 103, 49, 112]), .lit (.string [108, 111, 103, 50, 112, 49]), .lit (.string [108, 111, 103, 49, 48, 112, 49]), .lit (.string [115, 105, 110]), .lit (.string [99, 111, 115]), .lit (.string [116, 97, 110]), .lit (.string [115, 105, 110, 112, 105]), .lit (.string [99, 111, 115, 112, 105]), .lit (.string [116, 97, 110, 112, 105]), .lit (.string [97, 115, 105, 110]), .lit (.string [97, 99, 111, 115]), .lit (.string [97, 116, 97, 110]), .lit (.string [97, 115, 105, 110, 112, 105]), .lit (.string [97, 99, 111, 115, 112, 105]), .lit (.string [97, 116, 97, 110, 112, 105]), .lit (.string [115, 105, 110, 104]), .lit (.string [99, 111, 115, 104]), .lit (.string [116, 97, 110, 104]), .lit (.string [97, 115, 105, 110, 104]), .lit (.string [97, 99, 111, 115, 104]), .lit (.string [97, 116, 97, 110, 104]), .lit (.string [99, 98, 114, 116]), .lit (.string [114, 115, 113, 114, 116]), .lit (.string [97, 116, 97, 110, 50]), .lit (.string [97, 116, 97, 110, 50, 112, 105]), .lit (.string [112, 111, 119]), .lit (.string [104, 121, 112, 111, 116])]
def laid_ulp_special_radians {H : Type} : DataW H := .agg [.lit (.int .u64 4605249457297304856), .lit (.int .u64 4609753056924675352), .lit (.int .u64 4612488097114038738), .lit (.int .u64 4614256656552045848)]
def laid_ulp_special_halfTurns {H : Type} : DataW H := .agg [.lit (.int .u64 4598175219545276416), .lit (.int .u64 4602678819172646912), .lit (.int .u64 4604930618986332160), .lit (.int .u64 4607182418800017408)]

/-- 'ulplaw24.SpecialNames': WHATEVER THE INPUT: true; the input reads as it did. -/
def specialNamesSpec : ChangeSpec := { name := "specialNames", fn := fun _ => fun
  | [d1, d2] => { results := [.lit (.bool true)], args := [d1, d2] }
  | _ => none }
def specialNamesRow : OpenClaim := { program := "ytkkccnpmcbpdnaadoor", sum := "6d025f7af82cfd90e8551dfd54bfb64b1c1bbdf0389d8c1beeac29a336c08acc", func := "ulp/ulplaw24.SpecialNames", spec := "specialNames", unfollowed := true, recurses := true, named := ["ulp/special.names", "math/bits.deBruijn64tab", "ulp/special.radians", "ulp/special.halfTurns"], apart := false, laid := [("math/bits.deBruijn64tab", laid_math_bits_deBruijn64tab), ("ulp/special.names", laid_ulp_special_names), ("ulp/special.radians", laid_ulp_special_radians), ("ulp/special.halfTurns", laid_ulp_special_halfTurns)] }
def SpecialNamesSaid : Prop := specialNamesRow.holds Tryd.pinned (OpenSpec.ofChange specialNamesSpec)

/-- ITS FALSE NEIGHBOUR: 'it returns false'. Refute it at one input. -/
def specialNamesWrong : ChangeSpec := { name := "specialNames", fn := fun _ => fun
  | [d1, d2] => { results := [.lit (.bool false)], args := [d1, d2] }
  | _ => none }
def SpecialNamesWrongFalsely : Prop := specialNamesRow.holds Tryd.pinned (OpenSpec.ofChange specialNamesWrong)

/-- 'ulplaw24.SpecialBack': WHATEVER THE INPUT: true; the input reads as it did. -/
def specialBackSpec : ChangeSpec := { name := "specialBack", fn := fun _ => fun
  | [d1, d2] => { results := [.lit (.bool true)], args := [d1, d2] }
  | _ => none }
def specialBackRow : OpenClaim := { program := "ytkkccnpmcbpdnaadoor", sum := "6d025f7af82cfd90e8551dfd54bfb64b1c1bbdf0389d8c1beeac29a336c08acc", func := "ulp/ulplaw24.SpecialBack", spec := "specialBack", unfollowed := true, recurses := true, named := ["math/bits.deBruijn64tab", "ulp/special.radians", "ulp/special.halfTurns", "ulp/special.names"], apart := false, laid := [("math/bits.deBruijn64tab", laid_math_bits_deBruijn64tab), ("ulp/special.names", laid_ulp_special_names), ("ulp/special.radians", laid_ulp_special_radians), ("ulp/special.halfTurns", laid_ulp_special_halfTurns)] }
def SpecialBackSaid : Prop := specialBackRow.holds Tryd.pinned (OpenSpec.ofChange specialBackSpec)

/-- ITS FALSE NEIGHBOUR: 'it returns false'. Refute it at one input. -/
def specialBackWrong : ChangeSpec := { name := "specialBack", fn := fun _ => fun
  | [d1, d2] => { results := [.lit (.bool false)], args := [d1, d2] }
  | _ => none }
def SpecialBackWrongFalsely : Prop := specialBackRow.holds Tryd.pinned (OpenSpec.ofChange specialBackWrong)

/-- 'ulplaw24.SpecialFlags': WHATEVER THE INPUT: true; the input reads as it did. -/
def specialFlagsSpec : ChangeSpec := { name := "specialFlags", fn := fun _ => fun
  | [d1, d2, d3] => { results := [.lit (.bool true)], args := [d1, d2, d3] }
  | _ => none }
def specialFlagsRow : OpenClaim := { program := "ytkkccnpmcbpdnaadoor", sum := "6d025f7af82cfd90e8551dfd54bfb64b1c1bbdf0389d8c1beeac29a336c08acc", func := "ulp/ulplaw24.SpecialFlags", spec := "specialFlags", unfollowed := true, recurses := true, named := ["math/bits.deBruijn64tab", "ulp/special.radians", "ulp/special.halfTurns", "ulp/special.names"], apart := false, laid := [("math/bits.deBruijn64tab", laid_math_bits_deBruijn64tab), ("ulp/special.names", laid_ulp_special_names), ("ulp/special.radians", laid_ulp_special_radians), ("ulp/special.halfTurns", laid_ulp_special_halfTurns)] }
def SpecialFlagsSaid : Prop := specialFlagsRow.holds Tryd.pinned (OpenSpec.ofChange specialFlagsSpec)

/-- ITS FALSE NEIGHBOUR: 'it returns false'. Refute it at one input. -/
def specialFlagsWrong : ChangeSpec := { name := "specialFlags", fn := fun _ => fun
  | [d1, d2, d3] => { results := [.lit (.bool false)], args := [d1, d2, d3] }
  | _ => none }
def SpecialFlagsWrongFalsely : Prop := specialFlagsRow.holds Tryd.pinned (OpenSpec.ofChange specialFlagsWrong)

/-- 'ulplaw24.SpecialOdd': WHATEVER THE INPUT: true; the input reads as it did. -/
def specialOddSpec : ChangeSpec := { name := "specialOdd", fn := fun _ => fun
  | [d1, d2, d3] => { results := [.lit (.bool true)], args := [d1, d2, d3] }
  | _ => none }
def specialOddRow : OpenClaim := { program := "ytkkccnpmcbpdnaadoor", sum := "6d025f7af82cfd90e8551dfd54bfb64b1c1bbdf0389d8c1beeac29a336c08acc", func := "ulp/ulplaw24.SpecialOdd", spec := "specialOdd", unfollowed := true, recurses := true, named := ["math/bits.deBruijn64tab", "ulp/special.radians", "ulp/special.halfTurns", "ulp/special.names"], apart := false, laid := [("math/bits.deBruijn64tab", laid_math_bits_deBruijn64tab), ("ulp/special.names", laid_ulp_special_names), ("ulp/special.radians", laid_ulp_special_radians), ("ulp/special.halfTurns", laid_ulp_special_halfTurns)] }
def SpecialOddSaid : Prop := specialOddRow.holds Tryd.pinned (OpenSpec.ofChange specialOddSpec)

/-- ITS FALSE NEIGHBOUR: 'it returns false'. Refute it at one input. -/
def specialOddWrong : ChangeSpec := { name := "specialOdd", fn := fun _ => fun
  | [d1, d2, d3] => { results := [.lit (.bool false)], args := [d1, d2, d3] }
  | _ => none }
def SpecialOddWrongFalsely : Prop := specialOddRow.holds Tryd.pinned (OpenSpec.ofChange specialOddWrong)

/-- 'ulplaw24.SpecialTurned': WHATEVER THE INPUT: true; the input reads as it did. -/
def specialTurnedSpec : ChangeSpec := { name := "specialTurned", fn := fun _ => fun
  | [d1, d2] => { results := [.lit (.bool true)], args := [d1, d2] }
  | _ => none }
def specialTurnedRow : OpenClaim := { program := "ytkkccnpmcbpdnaadoor", sum := "6d025f7af82cfd90e8551dfd54bfb64b1c1bbdf0389d8c1beeac29a336c08acc", func := "ulp/ulplaw24.SpecialTurned", spec := "specialTurned", unfollowed := true, recurses := true, named := ["math/bits.deBruijn64tab", "ulp/special.radians", "ulp/special.halfTurns", "ulp/special.names"], apart := false, laid := [("math/bits.deBruijn64tab", laid_math_bits_deBruijn64tab), ("ulp/special.names", laid_ulp_special_names), ("ulp/special.radians", laid_ulp_special_radians), ("ulp/special.halfTurns", laid_ulp_special_halfTurns)] }
def SpecialTurnedSaid : Prop := specialTurnedRow.holds Tryd.pinned (OpenSpec.ofChange specialTurnedSpec)

/-- ITS FALSE NEIGHBOUR: 'it returns false'. Refute it at one input. -/
def specialTurnedWrong : ChangeSpec := { name := "specialTurned", fn := fun _ => fun
  | [d1, d2] => { results := [.lit (.bool false)], args := [d1, d2] }
  | _ => none }
def SpecialTurnedWrongFalsely : Prop := specialTurnedRow.holds Tryd.pinned (OpenSpec.ofChange specialTurnedWrong)

/- THE SECOND FORM. 'bulk': how many values and letters a reading holds, each counted each time it is reached (what is shared counts as often as it is met; a slice's spare places count too). A statement '..UptoSaid' is the law's where the arguments, and the package variables that the reading takes, are together of bulk at most 1048576: NARROWER than '..Said'. Prove '..Said' where nothing that the law and all that it calls make is longer than what came in: it says more and counts as full. Else prove '..UptoSaid'. A law counts once. -/
mutual
def uptoBulk {H : Type} : DataW H → Nat
  | .lit (.string bytes) => bytes.length + 1
  | .lit _ => 1
  | .nil => 1
  | .ptr d => uptoBulk d + 1
  | .slice elems spare => uptoBulkAll elems + uptoBulkAll spare + 1
  | .agg parts => uptoBulkAll parts + 1
  | .iface _ d => uptoBulk d + 1
  | .map entries => uptoBulkEntries entries + 1
  | .held _ => 1
def uptoBulkAll {H : Type} : List (DataW H) → Nat
  | [] => 0
  | d :: r => uptoBulk d + uptoBulkAll r
def uptoBulkEntries {H : Type} : List (Lit × DataW H) → Nat
  | [] => 0
  | x :: r => uptoBulkEntry x + uptoBulkEntries r
def uptoBulkEntry {H : Type} : Lit × DataW H → Nat
  | (.string bytes, d) => bytes.length + uptoBulk d + 1
  | (_, d) => uptoBulk d + 1
 end
def uptoSmall : (H : Type) → List (DataW H) → Bool := fun _ ds => decide (uptoBulkAll ds ≤ 1048576)
def OpenSpec.upto (s : _root_.Go.ChangeSpec) : _root_.Go.OpenSpec := { _root_.Go.OpenSpec.ofChange s with cond := some uptoSmall }

/-- 'ulplaw24.SpecialNames', WHERE WHAT IT READS IS OF BULK AT MOST 1048576: true; the input reads as it did. -/
def specialNamesUptoRow : OpenClaim := { program := "ytkkccnpmcbpdnaadoor", sum := "6d025f7af82cfd90e8551dfd54bfb64b1c1bbdf0389d8c1beeac29a336c08acc", func := "ulp/ulplaw24.SpecialNames", spec := "specialNames", unfollowed := true, recurses := true, named := ["ulp/special.names", "math/bits.deBruijn64tab", "ulp/special.radians", "ulp/special.halfTurns"], apart := false, laid := [("math/bits.deBruijn64tab", laid_math_bits_deBruijn64tab), ("ulp/special.names", laid_ulp_special_names), ("ulp/special.radians", laid_ulp_special_radians), ("ulp/special.halfTurns", laid_ulp_special_halfTurns)], narrowed := true }
def SpecialNamesUptoSaid : Prop := specialNamesUptoRow.holds Tryd.pinned (OpenSpec.upto specialNamesSpec)

/-- 'ulplaw24.SpecialBack', WHERE WHAT IT READS IS OF BULK AT MOST 1048576: true; the input reads as it did. -/
def specialBackUptoRow : OpenClaim := { program := "ytkkccnpmcbpdnaadoor", sum := "6d025f7af82cfd90e8551dfd54bfb64b1c1bbdf0389d8c1beeac29a336c08acc", func := "ulp/ulplaw24.SpecialBack", spec := "specialBack", unfollowed := true, recurses := true, named := ["math/bits.deBruijn64tab", "ulp/special.radians", "ulp/special.halfTurns", "ulp/special.names"], apart := false, laid := [("math/bits.deBruijn64tab", laid_math_bits_deBruijn64tab), ("ulp/special.names", laid_ulp_special_names), ("ulp/special.radians", laid_ulp_special_radians), ("ulp/special.halfTurns", laid_ulp_special_halfTurns)], narrowed := true }
def SpecialBackUptoSaid : Prop := specialBackUptoRow.holds Tryd.pinned (OpenSpec.upto specialBackSpec)

/-- 'ulplaw24.SpecialFlags', WHERE WHAT IT READS IS OF BULK AT MOST 1048576: true; the input reads as it did. -/
def specialFlagsUptoRow : OpenClaim := { program := "ytkkccnpmcbpdnaadoor", sum := "6d025f7af82cfd90e8551dfd54bfb64b1c1bbdf0389d8c1beeac29a336c08acc", func := "ulp/ulplaw24.SpecialFlags", spec := "specialFlags", unfollowed := true, recurses := true, named := ["math/bits.deBruijn64tab", "ulp/special.radians", "ulp/special.halfTurns", "ulp/special.names"], apart := false, laid := [("math/bits.deBruijn64tab", laid_math_bits_deBruijn64tab), ("ulp/special.names", laid_ulp_special_names), ("ulp/special.radians", laid_ulp_special_radians), ("ulp/special.halfTurns", laid_ulp_special_halfTurns)], narrowed := true }
def SpecialFlagsUptoSaid : Prop := specialFlagsUptoRow.holds Tryd.pinned (OpenSpec.upto specialFlagsSpec)

/-- 'ulplaw24.SpecialOdd', WHERE WHAT IT READS IS OF BULK AT MOST 1048576: true; the input reads as it did. -/
def specialOddUptoRow : OpenClaim := { program := "ytkkccnpmcbpdnaadoor", sum := "6d025f7af82cfd90e8551dfd54bfb64b1c1bbdf0389d8c1beeac29a336c08acc", func := "ulp/ulplaw24.SpecialOdd", spec := "specialOdd", unfollowed := true, recurses := true, named := ["math/bits.deBruijn64tab", "ulp/special.radians", "ulp/special.halfTurns", "ulp/special.names"], apart := false, laid := [("math/bits.deBruijn64tab", laid_math_bits_deBruijn64tab), ("ulp/special.names", laid_ulp_special_names), ("ulp/special.radians", laid_ulp_special_radians), ("ulp/special.halfTurns", laid_ulp_special_halfTurns)], narrowed := true }
def SpecialOddUptoSaid : Prop := specialOddUptoRow.holds Tryd.pinned (OpenSpec.upto specialOddSpec)

/-- 'ulplaw24.SpecialTurned', WHERE WHAT IT READS IS OF BULK AT MOST 1048576: true; the input reads as it did. -/
def specialTurnedUptoRow : OpenClaim := { program := "ytkkccnpmcbpdnaadoor", sum := "6d025f7af82cfd90e8551dfd54bfb64b1c1bbdf0389d8c1beeac29a336c08acc", func := "ulp/ulplaw24.SpecialTurned", spec := "specialTurned", unfollowed := true, recurses := true, named := ["math/bits.deBruijn64tab", "ulp/special.radians", "ulp/special.halfTurns", "ulp/special.names"], apart := false, laid := [("math/bits.deBruijn64tab", laid_math_bits_deBruijn64tab), ("ulp/special.names", laid_ulp_special_names), ("ulp/special.radians", laid_ulp_special_radians), ("ulp/special.halfTurns", laid_ulp_special_halfTurns)], narrowed := true }
def SpecialTurnedUptoSaid : Prop := specialTurnedUptoRow.holds Tryd.pinned (OpenSpec.upto specialTurnedSpec)

end Rows
end Go.Proofs.YtkkccnpmcbpdnaaDoor

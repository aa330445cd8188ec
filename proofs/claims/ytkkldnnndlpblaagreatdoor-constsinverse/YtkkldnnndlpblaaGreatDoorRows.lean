/-
  NARROWER THAN 'FOR EVERY INPUT', by the rows' own cells (each row's printed sentence says how): ConstsEnclose: laid · ConstsTold: laid · ConstsMeet: laid · ConstsInverse: laid · ConstsFronts: laid · ConstsOwn: laid.
  DERIVED. THE GIVEN ROWS OF THIS SEAT. 6 by the template 'for every input the law returns true; each argument reads behind the call as it read before'; 0 by the template 'total and deterministic' (their statements: YtkkldnnndlpblaaGreatDoorTotals.lean).
  GIVEN WITH THE SEED: the statements are not yours to turn. If you find one false, say at which input.
  Laid BY PROGRAM, IN A SANDBOX (cutbox-rows.mjs): the forced cells as the released guide's own fill.sh prints them over the translation 0a44f50b78305a16… (all of the seat's roots in one cut). By AI agents, Wed Nov 11 2026. No macro, syntax, notation, axiom, sorry.
-/
import Derived.Test.YtkkldnnndlpblaaGreatDoorChecked
import GoSem.Claim
import GoSem.ClaimJoined
import GoSem.ClaimMapViews
import Derived.JoinedTies
import Derived.KernelRfl
namespace Go.Proofs.YtkkldnnndlpblaaGreatDoor
/- THE CELL 'sum', in the pinned program and in every row, IS THE sha256 OF THE DUMP (.gsa) THAT YtkkldnnndlpblaaGreatDoorProg.lean LOADS. Nothing in Lean hashes anything: it is a label: what it is worth is what the hold of that sum in a sandbox is worth. -/
noncomputable def Tryz.pinned : Pinned := { name := "ytkkldnnndlpblaagreatdoor", sum := "0a44f50b78305a1659de4186a4e7014cbd6675979a4ec2c9f77174e14c1bfc3a", checked := Tryz.checked }
namespace Rows
def none {H : Type} : Left H := { results := [], args := [] }

/- WHAT THE LISTED PACKAGE-LEVEL VARIABLES READ AS WHEN THE CALL BEGINS. Each datum BY PROGRAM (the guide's laid-datum.mjs) off the statement by which the dump's own 'gosem.cut.vars' lays the variable. In a bare row this is a premise. The card (YtkkldnnndlpblaaGreatDoorCards.lean) ties it to the program's text. -/
def laid_math_bits_deBruijn32tab {H : Type} : DataW H := .agg [.lit (.int .u8 0), .lit (.int .u8 1), .lit (.int .u8 28), .lit (.int .u8 2), .lit (.int .u8 29), .lit (.int .u8 14), .lit (.int .u8 24), .lit (.int .u8 3), .lit (.int .u8 30), .lit (.int .u8 22), .lit (.int .u8 20), .lit (.int .u8 15), .lit (.int .u8 25), .lit (.int .u8 17), .lit (.int .u8 4), .lit (.int .u8 8), .lit (.int .u8 31), .lit (.int .u8 27), .lit (.int .u8 13), .lit (.int .u8 23), .lit (.int .u8 21), .lit (.int .u8 19), .lit (.int .u8 16), .lit (.int .u8 7), .lit (.int .u8 26), .lit (.int .u8 12), .lit (.int .u8 18), .lit (.int .u8 6), .lit (.int .u8 11), .lit (.int .u8 5), .lit (.int .u8 10), .lit (.int .u8 9)]
def laid_math_bits_deBruijn64tab {H : Type} : DataW H := .agg [.lit (.int .u8 0), .lit (.int .u8 1), .lit (.int .u8 56), .lit (.int .u8 2), .lit (.int .u8 57), .lit (.int .u8 49), .lit (.int .u8 28), .lit (.int .u8 3), .lit (.int .u8 61), .lit (.int .u8 58), .lit (.int .u8 42), .lit (.int .u8 50), .lit (.int .u8 38), .lit (.int .u8 29), .lit (.int .u8 17), .lit (.int .u8 4), .lit (.int .u8 62), .lit (.int .u8 47), .lit (.int .u8 59), .lit (.int .u8 36), .lit (.int .u8 45), .lit (.int .u8 43), .lit (.int .u8 51), .lit (.int .u8 22), .lit (.int .u8 53), .lit (.int .u8 39), .lit (.int .u8 33), .lit (.int .u8 30), .lit (.int .u8 24), .lit (.int .u8 18), .lit (.int .u8 12), .lit (.int .u8 5), .lit (.int .u8 63), .lit (.int .u8 55), .lit (.int .u8 48), .lit (.int .u8 27), .lit (.int .u8 60), .lit (.int .u8 41), .lit (.int .u8 37), .lit (.int .u8 16), .lit (.int .u8 46), .lit (.int .u8 35), .lit (.int .u8 44), .lit (.int .u8 21), .lit (.int .u8 52), .lit (.int .u8 32), .lit (.int .u8 23), .lit (.int .u8 11), .lit (.int .u8 54), .lit (.int .u8 26), .lit (.int .u8 40), .lit (.int .u8 15), .lit (.int .u8 34), .lit (.int .u8 20), .lit (.int .u8 31), .lit (.int .u8 10), .lit (.int .u8 25), .lit (.int .u8 14), .lit (.int .u8 19), .lit (.int .u8 9), .lit (.int .u8 13), .lit (.int .u8 8), .lit (.int .u8 7), .lit (.int .u8 6)]
def laid_internal_strconv_uint64pow10 {H : Type} : DataW H := .agg [.lit (.int .u64 1), .lit (.int .u64 10), .lit (.int .u64 100), .lit (.int .u64 1000), .lit (.int .u64 10000), .lit (.int .u64 100000), .lit (.int .u64 1000000), .lit (.int .u64 10000000), .lit (.int .u64 100000000), .lit (.int .u64 1000000000), .lit (.int .u64 10000000000), .lit (.int .u64 100000000000), .lit (.int .u64 1000000000000), .lit (.int .u64 10000000000000), .lit (.int .u64 100000000000000), .lit (.int .u64 1000000000000000), .lit (.int .u64 10000000000000000), .lit (.int .u64 100000000000000000), .lit (.int .u64 1000000000000000000), .lit (.int .u64 10000000000000000000)]
def laid_ulp_consts_recipes {H : Type} : DataW H := .agg [.agg [.lit (.int .u8 0), .nil], .agg [.lit (.int .u8 0), .slice [.agg [.lit (.int .u8 0), .lit (.int .u64 16), .lit (.int .u64 5), .lit (.bool false)], .agg [.lit (.int .u8 0), .lit (.int .u64 4), .lit (.int .u64 239), .lit (.bool true)]] []], .agg [.lit (.int .u8 0), .slice [.agg [.lit (.int .u8 1), .lit (.int .u64 18), .lit (.int .u64 26), .lit (.bool false)], .agg [.lit (.int .u8 1), .lit (.int .u64 2), .lit (.int .u64 4801), .lit (.bool true)], .agg [.lit (.int .u8 1), .lit (.int .u64 8), .lit (.int .u64 8749), .lit (.bool false)]] []], .agg [.lit (.int .u8 0), .slice [.agg [.lit (.int .u8 1), .lit (.int .u64 478), .lit (.int .u64 251), .lit (.bool false)], .agg [.lit (.int .u8 1), .lit (.int .u64 180), .lit (.int .u64 449), .lit (.bool false)], .agg [.lit (.int .u8 1), .lit (.int .u64 126), .lit (.int .u64 4801), .lit (.bool true)], .agg [.lit (.int .u8 1), .lit (.int .u64 206), .lit (.int .u64 8749), .lit (.bool false)]] []], .agg [.lit (.int .u8 0), .slice [.agg [.lit (.int .u8 2), .lit (.int .u64 1), .lit (.int .u64 1), .lit (.bool false)]] []], .agg [.lit (.int .u8 1), .nil], .agg [.lit (.int .u8 2), .nil], .agg [.lit (.int .u8 3), .nil]]

/-- 'ulplaw09.ConstsEnclose': WHATEVER THE INPUT: true; the input reads as it did. -/
def constsEncloseSpec : ChangeSpec := { name := "constsEnclose", fn := fun _ => fun
  | [d1, d2] => { results := [.lit (.bool true)], args := [d1, d2] }
  | _ => none }
def constsEncloseRow : OpenClaim := { program := "ytkkldnnndlpblaagreatdoor", sum := "0a44f50b78305a1659de4186a4e7014cbd6675979a4ec2c9f77174e14c1bfc3a", func := "ulp/ulplaw09.ConstsEnclose", spec := "constsEnclose", inPlace := ["math/bits.Add64", "math/bits.Sub64", "internal/abi.NoEscape", "internal/bytealg.MakeNoZero"], unfollowed := true, recurses := true, named := ["ulp/consts.recipes", "math/bits.divideError", "math/bits.overflowError", "math/bits.deBruijn64tab", "internal/strconv.uint64pow10", "math/bits.deBruijn32tab"], apart := false, laid := [("math/bits.deBruijn32tab", laid_math_bits_deBruijn32tab), ("math/bits.deBruijn64tab", laid_math_bits_deBruijn64tab), ("internal/strconv.uint64pow10", laid_internal_strconv_uint64pow10), ("ulp/consts.recipes", laid_ulp_consts_recipes)] }
def ConstsEncloseSaid : Prop := constsEncloseRow.holds Tryz.pinned (OpenSpec.ofChange constsEncloseSpec)

/-- ITS FALSE NEIGHBOUR: 'it returns false'. Refute it at one input. -/
def constsEncloseWrong : ChangeSpec := { name := "constsEnclose", fn := fun _ => fun
  | [d1, d2] => { results := [.lit (.bool false)], args := [d1, d2] }
  | _ => none }
def ConstsEncloseWrongFalsely : Prop := constsEncloseRow.holds Tryz.pinned (OpenSpec.ofChange constsEncloseWrong)

/-- 'ulplaw09.ConstsTold': WHATEVER THE INPUT: true; the input reads as it did. -/
def constsToldSpec : ChangeSpec := { name := "constsTold", fn := fun _ => fun
  | [d1, d2] => { results := [.lit (.bool true)], args := [d1, d2] }
  | _ => none }
def constsToldRow : OpenClaim := { program := "ytkkldnnndlpblaagreatdoor", sum := "0a44f50b78305a1659de4186a4e7014cbd6675979a4ec2c9f77174e14c1bfc3a", func := "ulp/ulplaw09.ConstsTold", spec := "constsTold", inPlace := ["math/bits.Add64", "math/bits.Sub64", "internal/abi.NoEscape", "internal/bytealg.MakeNoZero"], unfollowed := true, recurses := true, named := ["ulp/consts.recipes", "math/bits.divideError", "math/bits.overflowError", "internal/strconv.uint64pow10", "math/bits.deBruijn32tab", "math/bits.deBruijn64tab"], apart := false, laid := [("math/bits.deBruijn32tab", laid_math_bits_deBruijn32tab), ("math/bits.deBruijn64tab", laid_math_bits_deBruijn64tab), ("internal/strconv.uint64pow10", laid_internal_strconv_uint64pow10), ("ulp/consts.recipes", laid_ulp_consts_recipes)] }
def ConstsToldSaid : Prop := constsToldRow.holds Tryz.pinned (OpenSpec.ofChange constsToldSpec)

/-- ITS FALSE NEIGHBOUR: 'it returns false'. Refute it at one input. -/
def constsToldWrong : ChangeSpec := { name := "constsTold", fn := fun _ => fun
  | [d1, d2] => { results := [.lit (.bool false)], args := [d1, d2] }
  | _ => none }
def ConstsToldWrongFalsely : Prop := constsToldRow.holds Tryz.pinned (OpenSpec.ofChange constsToldWrong)

/-- 'ulplaw09.ConstsMeet': WHATEVER THE INPUT: true; the input reads as it did. -/
def constsMeetSpec : ChangeSpec := { name := "constsMeet", fn := fun _ => fun
  | [d1, d2, d3, d4] => { results := [.lit (.bool true)], args := [d1, d2, d3, d4] }
  | _ => none }
def constsMeetRow : OpenClaim := { program := "ytkkldnnndlpblaagreatdoor", sum := "0a44f50b78305a1659de4186a4e7014cbd6675979a4ec2c9f77174e14c1bfc3a", func := "ulp/ulplaw09.ConstsMeet", spec := "constsMeet", inPlace := ["math/bits.Add64", "math/bits.Sub64", "internal/abi.NoEscape", "internal/bytealg.MakeNoZero"], unfollowed := true, recurses := true, named := ["ulp/consts.recipes", "math/bits.divideError", "math/bits.overflowError", "math/bits.deBruijn64tab", "internal/strconv.uint64pow10", "math/bits.deBruijn32tab"], apart := false, laid := [("math/bits.deBruijn32tab", laid_math_bits_deBruijn32tab), ("math/bits.deBruijn64tab", laid_math_bits_deBruijn64tab), ("internal/strconv.uint64pow10", laid_internal_strconv_uint64pow10), ("ulp/consts.recipes", laid_ulp_consts_recipes)] }
def ConstsMeetSaid : Prop := constsMeetRow.holds Tryz.pinned (OpenSpec.ofChange constsMeetSpec)

/-- ITS FALSE NEIGHBOUR: 'it returns false'. Refute it at one input. -/
def constsMeetWrong : ChangeSpec := { name := "constsMeet", fn := fun _ => fun
  | [d1, d2, d3, d4] => { results := [.lit (.bool false)], args := [d1, d2, d3, d4] }
  | _ => none }
def ConstsMeetWrongFalsely : Prop := constsMeetRow.holds Tryz.pinned (OpenSpec.ofChange constsMeetWrong)

/-- 'ulplaw09.ConstsInverse': WHATEVER THE INPUT: true; the input reads as it did. -/
def constsInverseSpec : ChangeSpec := { name := "constsInverse", fn := fun _ => fun
  | [d1, d2, d3] => { results := [.lit (.bool true)], args := [d1, d2, d3] }
  | _ => none }
def constsInverseRow : OpenClaim := { program := "ytkkldnnndlpblaagreatdoor", sum := "0a44f50b78305a1659de4186a4e7014cbd6675979a4ec2c9f77174e14c1bfc3a", func := "ulp/ulplaw09.ConstsInverse", spec := "constsInverse", inPlace := ["math/bits.Add64", "math/bits.Sub64", "internal/abi.NoEscape", "internal/bytealg.MakeNoZero"], unfollowed := true, recurses := true, named := ["ulp/consts.recipes", "math/bits.divideError", "math/bits.overflowError", "internal/strconv.uint64pow10", "math/bits.deBruijn32tab", "math/bits.deBruijn64tab"], apart := false, laid := [("math/bits.deBruijn32tab", laid_math_bits_deBruijn32tab), ("math/bits.deBruijn64tab", laid_math_bits_deBruijn64tab), ("internal/strconv.uint64pow10", laid_internal_strconv_uint64pow10), ("ulp/consts.recipes", laid_ulp_consts_recipes)] }
def ConstsInverseSaid : Prop := constsInverseRow.holds Tryz.pinned (OpenSpec.ofChange constsInverseSpec)

/-- ITS FALSE NEIGHBOUR: 'it returns false'. Refute it at one input. -/
def constsInverseWrong : ChangeSpec := { name := "constsInverse", fn := fun _ => fun
  | [d1, d2, d3] => { results := [.lit (.bool false)], args := [d1, d2, d3] }
  | _ => none }
def ConstsInverseWrongFalsely : Prop := constsInverseRow.holds Tryz.pinned (OpenSpec.ofChange constsInverseWrong)

/-- 'ulplaw09.ConstsFronts': WHATEVER THE INPUT: true; the input reads as it did. -/
def constsFrontsSpec : ChangeSpec := { name := "constsFronts", fn := fun _ => fun
  | [d1, d2, d3] => { results := [.lit (.bool true)], args := [d1, d2, d3] }
  | _ => none }
def constsFrontsRow : OpenClaim := { program := "ytkkldnnndlpblaagreatdoor", sum := "0a44f50b78305a1659de4186a4e7014cbd6675979a4ec2c9f77174e14c1bfc3a", func := "ulp/ulplaw09.ConstsFronts", spec := "constsFronts", inPlace := ["math/bits.Add64", "math/bits.Sub64", "internal/abi.NoEscape", "internal/bytealg.MakeNoZero"], unfollowed := true, recurses := true, named := ["ulp/consts.recipes", "math/bits.divideError", "math/bits.overflowError", "internal/strconv.uint64pow10", "math/bits.deBruijn32tab", "math/bits.deBruijn64tab"], apart := false, laid := [("math/bits.deBruijn32tab", laid_math_bits_deBruijn32tab), ("math/bits.deBruijn64tab", laid_math_bits_deBruijn64tab), ("internal/strconv.uint64pow10", laid_internal_strconv_uint64pow10), ("ulp/consts.recipes", laid_ulp_consts_recipes)] }
def ConstsFrontsSaid : Prop := constsFrontsRow.holds Tryz.pinned (OpenSpec.ofChange constsFrontsSpec)

/-- ITS FALSE NEIGHBOUR: 'it returns false'. Refute it at one input. -/
def constsFrontsWrong : ChangeSpec := { name := "constsFronts", fn := fun _ => fun
  | [d1, d2, d3] => { results := [.lit (.bool false)], args := [d1, d2, d3] }
  | _ => none }
def ConstsFrontsWrongFalsely : Prop := constsFrontsRow.holds Tryz.pinned (OpenSpec.ofChange constsFrontsWrong)

/-- 'ulplaw09.ConstsOwn': WHATEVER THE INPUT: true; the input reads as it did. -/
def constsOwnSpec : ChangeSpec := { name := "constsOwn", fn := fun _ => fun
  | [d1, d2] => { results := [.lit (.bool true)], args := [d1, d2] }
  | _ => none }
def constsOwnRow : OpenClaim := { program := "ytkkldnnndlpblaagreatdoor", sum := "0a44f50b78305a1659de4186a4e7014cbd6675979a4ec2c9f77174e14c1bfc3a", func := "ulp/ulplaw09.ConstsOwn", spec := "constsOwn", inPlace := ["math/bits.Add64", "math/bits.Sub64", "internal/abi.NoEscape", "internal/bytealg.MakeNoZero"], unfollowed := true, recurses := true, named := ["ulp/consts.recipes", "math/bits.divideError", "math/bits.overflowError", "internal/strconv.uint64pow10", "math/bits.deBruijn32tab", "math/bits.deBruijn64tab"], apart := false, laid := [("math/bits.deBruijn32tab", laid_math_bits_deBruijn32tab), ("math/bits.deBruijn64tab", laid_math_bits_deBruijn64tab), ("internal/strconv.uint64pow10", laid_internal_strconv_uint64pow10), ("ulp/consts.recipes", laid_ulp_consts_recipes)] }
def ConstsOwnSaid : Prop := constsOwnRow.holds Tryz.pinned (OpenSpec.ofChange constsOwnSpec)

/-- ITS FALSE NEIGHBOUR: 'it returns false'. Refute it at one input. -/
def constsOwnWrong : ChangeSpec := { name := "constsOwn", fn := fun _ => fun
  | [d1, d2] => { results := [.lit (.bool false)], args := [d1, d2] }
  | _ => none }
def ConstsOwnWrongFalsely : Prop := constsOwnRow.holds Tryz.pinned (OpenSpec.ofChange constsOwnWrong)

/- THE SECOND FORM. 'bulk': how many values and letters a reading holds, each counted each time it is reached (what is shared counts as often as it is met; a slice's spare places count too). A statement '..UptoSaid' is the law's where the arguments, and the package variables that the reading takes, are together of bulk at most 1048576: NARROWER than '..Said'. Prove '..Said' where nothing that the law and all that it calls make is longer than what came in: it says more and counts as full. Else prove '..UptoSaid'. A law counts once. -/
mutual
def uptoBulk {H : Type} : DataW H → Nat
  | .lit (.string bytes) => bytes.length + 1
  | .lit _ => 1
  | .nil => 1
  | .ptr d => uptoBulk d + 1
  | .slice elems spare => uptoBulkAll elems + uptoBulkAll spare + 1
  | .agg parts => uptoBulkAll parts + 1
  | .iface _ d => uptoBulk d + 1
  | .map entries => uptoBulkEntries entries + 1
  | .held _ => 1
def uptoBulkAll {H : Type} : List (DataW H) → Nat
  | [] => 0
  | d :: r => uptoBulk d + uptoBulkAll r
def uptoBulkEntries {H : Type} : List (Lit × DataW H) → Nat
  | [] => 0
  | x :: r => uptoBulkEntry x + uptoBulkEntries r
def uptoBulkEntry {H : Type} : Lit × DataW H → Nat
  | (.string bytes, d) => bytes.length + uptoBulk d + 1
  | (_, d) => uptoBulk d + 1
 end
def uptoSmall : (H : Type) → List (DataW H) → Bool := fun _ ds => decide (uptoBulkAll ds ≤ 1048576)
def OpenSpec.upto (s : _root_.Go.ChangeSpec) : _root_.Go.OpenSpec := { _root_.Go.OpenSpec.ofChange s with cond := some uptoSmall }

/-- 'ulplaw09.ConstsEnclose', WHERE WHAT IT READS IS OF BULK AT MOST 1048576: true; the input reads as it did. -/
def constsEncloseUptoRow : OpenClaim := { program := "ytkkldnnndlpblaagreatdoor", sum := "0a44f50b78305a1659de4186a4e7014cbd6675979a4ec2c9f77174e14c1bfc3a", func := "ulp/ulplaw09.ConstsEnclose", spec := "constsEnclose", inPlace := ["math/bits.Add64", "math/bits.Sub64", "internal/abi.NoEscape", "internal/bytealg.MakeNoZero"], unfollowed := true, recurses := true, named := ["ulp/consts.recipes", "math/bits.divideError", "math/bits.overflowError", "math/bits.deBruijn64tab", "internal/strconv.uint64pow10", "math/bits.deBruijn32tab"], apart := false, laid := [("math/bits.deBruijn32tab", laid_math_bits_deBruijn32tab), ("math/bits.deBruijn64tab", laid_math_bits_deBruijn64tab), ("internal/strconv.uint64pow10", laid_internal_strconv_uint64pow10), ("ulp/consts.recipes", laid_ulp_consts_recipes)], narrowed := true }
def ConstsEncloseUptoSaid : Prop := constsEncloseUptoRow.holds Tryz.pinned (OpenSpec.upto constsEncloseSpec)

/-- 'ulplaw09.ConstsTold', WHERE WHAT IT READS IS OF BULK AT MOST 1048576: true; the input reads as it did. -/
def constsToldUptoRow : OpenClaim := { program := "ytkkldnnndlpblaagreatdoor", sum := "0a44f50b78305a1659de4186a4e7014cbd6675979a4ec2c9f77174e14c1bfc3a", func := "ulp/ulplaw09.ConstsTold", spec := "constsTold", inPlace := ["math/bits.Add64", "math/bits.Sub64", "internal/abi.NoEscape", "internal/bytealg.MakeNoZero"], unfollowed := true, recurses := true, named := ["ulp/consts.recipes", "math/bits.divideError", "math/bits.overflowError", "internal/strconv.uint64pow10", "math/bits.deBruijn32tab", "math/bits.deBruijn64tab"], apart := false, laid := [("math/bits.deBruijn32tab", laid_math_bits_deBruijn32tab), ("math/bits.deBruijn64tab", laid_math_bits_deBruijn64tab), ("internal/strconv.uint64pow10", laid_internal_strconv_uint64pow10), ("ulp/consts.recipes", laid_ulp_consts_recipes)], narrowed := true }
def ConstsToldUptoSaid : Prop := constsToldUptoRow.holds Tryz.pinned (OpenSpec.upto constsToldSpec)

/-- 'ulplaw09.ConstsMeet', WHERE WHAT IT READS IS OF BULK AT MOST 1048576: true; the input reads as it did. -/
def constsMeetUptoRow : OpenClaim := { program := "ytkkldnnndlpblaagreatdoor", sum := "0a44f50b78305a1659de4186a4e7014cbd6675979a4ec2c9f77174e14c1bfc3a", func := "ulp/ulplaw09.ConstsMeet", spec := "constsMeet", inPlace := ["math/bits.Add64", "math/bits.Sub64", "internal/abi.NoEscape", "internal/bytealg.MakeNoZero"], unfollowed := true, recurses := true, named := ["ulp/consts.recipes", "math/bits.divideError", "math/bits.overflowError", "math/bits.deBruijn64tab", "internal/strconv.uint64pow10", "math/bits.deBruijn32tab"], apart := false, laid := [("math/bits.deBruijn32tab", laid_math_bits_deBruijn32tab), ("math/bits.deBruijn64tab", laid_math_bits_deBruijn64tab), ("internal/strconv.uint64pow10", laid_internal_strconv_uint64pow10), ("ulp/consts.recipes", laid_ulp_consts_recipes)], narrowed := true }
def ConstsMeetUptoSaid : Prop := constsMeetUptoRow.holds Tryz.pinned (OpenSpec.upto constsMeetSpec)

/-- 'ulplaw09.ConstsInverse', WHERE WHAT IT READS IS OF BULK AT MOST 1048576: true; the input reads as it did. -/
def constsInverseUptoRow : OpenClaim := { program := "ytkkldnnndlpblaagreatdoor", sum := "0a44f50b78305a1659de4186a4e7014cbd6675979a4ec2c9f77174e14c1bfc3a", func := "ulp/ulplaw09.ConstsInverse", spec := "constsInverse", inPlace := ["math/bits.Add64", "math/bits.Sub64", "internal/abi.NoEscape", "internal/bytealg.MakeNoZero"], unfollowed := true, recurses := true, named := ["ulp/consts.recipes", "math/bits.divideError", "math/bits.overflowError", "internal/strconv.uint64pow10", "math/bits.deBruijn32tab", "math/bits.deBruijn64tab"], apart := false, laid := [("math/bits.deBruijn32tab", laid_math_bits_deBruijn32tab), ("math/bits.deBruijn64tab", laid_math_bits_deBruijn64tab), ("internal/strconv.uint64pow10", laid_internal_strconv_uint64pow10), ("ulp/consts.recipes", laid_ulp_consts_recipes)], narrowed := true }
def ConstsInverseUptoSaid : Prop := constsInverseUptoRow.holds Tryz.pinned (OpenSpec.upto constsInverseSpec)

/-- 'ulplaw09.ConstsFronts', WHERE WHAT IT READS IS OF BULK AT MOST 1048576: true; the input reads as it did. -/
def constsFrontsUptoRow : OpenClaim := { program := "ytkkldnnndlpblaagreatdoor", sum := "0a44f50b78305a1659de4186a4e7014cbd6675979a4ec2c9f77174e14c1bfc3a", func := "ulp/ulplaw09.ConstsFronts", spec := "constsFronts", inPlace := ["math/bits.Add64", "math/bits.Sub64", "internal/abi.NoEscape", "internal/bytealg.MakeNoZero"], unfollowed := true, recurses := true, named := ["ulp/consts.recipes", "math/bits.divideError", "math/bits.overflowError", "internal/strconv.uint64pow10", "math/bits.deBruijn32tab", "math/bits.deBruijn64tab"], apart := false, laid := [("math/bits.deBruijn32tab", laid_math_bits_deBruijn32tab), ("math/bits.deBruijn64tab", laid_math_bits_deBruijn64tab), ("internal/strconv.uint64pow10", laid_internal_strconv_uint64pow10), ("ulp/consts.recipes", laid_ulp_consts_recipes)], narrowed := true }
def ConstsFrontsUptoSaid : Prop := constsFrontsUptoRow.holds Tryz.pinned (OpenSpec.upto constsFrontsSpec)

/-- 'ulplaw09.ConstsOwn', WHERE WHAT IT READS IS OF BULK AT MOST 1048576: true; the input reads as it did. -/
def constsOwnUptoRow : OpenClaim := { program := "ytkkldnnndlpblaagreatdoor", sum := "0a44f50b78305a1659de4186a4e7014cbd6675979a4ec2c9f77174e14c1bfc3a", func := "ulp/ulplaw09.ConstsOwn", spec := "constsOwn", inPlace := ["math/bits.Add64", "math/bits.Sub64", "internal/abi.NoEscape", "internal/bytealg.MakeNoZero"], unfollowed := true, recurses := true, named := ["ulp/consts.recipes", "math/bits.divideError", "math/bits.overflowError", "internal/strconv.uint64pow10", "math/bits.deBruijn32tab", "math/bits.deBruijn64tab"], apart := false, laid := [("math/bits.deBruijn32tab", laid_math_bits_deBruijn32tab), ("math/bits.deBruijn64tab", laid_math_bits_deBruijn64tab), ("internal/strconv.uint64pow10", laid_internal_strconv_uint64pow10), ("ulp/consts.recipes", laid_ulp_consts_recipes)], narrowed := true }
def ConstsOwnUptoSaid : Prop := constsOwnUptoRow.holds Tryz.pinned (OpenSpec.upto constsOwnSpec)

end Rows
end Go.Proofs.YtkkldnnndlpblaaGreatDoor

/-
  No cell of these rows narrows 'for every input' (looked for: loops, veiled, ifaces, maps, wideKeys, modest, calm, conditions, laid).
  DERIVED. THE GIVEN ROWS OF THIS SEAT. 6 by the template 'for every input the law returns true; each argument reads behind the call as it read before'; 0 by the template 'total and deterministic' (their statements: YtckpfohfbfmmnaaTotals.lean).
  GIVEN WITH THE SEED: the statements are not yours to turn. If you find one false, say at which input.
  Laid BY PROGRAM, IN A SANDBOX (cutbox-rows.mjs): the forced cells as the released guide's own fill.sh prints them over the translation 98b761a27a68ca9f… (all of the seat's roots in one cut). By AI agents, Wed Nov 11 2026. No macro, syntax, notation, axiom, sorry.
-/
import Derived.Test.YtckpfohfbfmmnaaChecked
import GoSem.Claim
import GoSem.ClaimJoined
import GoSem.ClaimMapViews
import Derived.JoinedTies
import Derived.KernelRfl
namespace Go.Proofs.Ytckpfohfbfmmnaa
/- THE CELL 'sum', in the pinned program and in every row, IS THE sha256 OF THE DUMP (.gsa) THAT YtckpfohfbfmmnaaProg.lean LOADS. Nothing in Lean hashes anything: it is a label: what it is worth is what the hold of that sum in a sandbox is worth. -/
noncomputable def Try.pinned : Pinned := { name := "ytckpfohfbfmmnaa", sum := "98b761a27a68ca9fc34f155b39d2029f270cdb75d41c0c0babcfe10a8cd942d9", checked := Try.checked }
namespace Rows
def none {H : Type} : Left H := { results := [], args := [] }

/-- 'ulplaw07.EftSteps': WHATEVER THE INPUT: true; the input reads as it did. -/
def eftStepsSpec : ChangeSpec := { name := "eftSteps", fn := fun _ => fun
  | [d1, d2] => { results := [.lit (.bool true)], args := [d1, d2] }
  | _ => none }
def eftStepsRow : OpenClaim := { program := "ytckpfohfbfmmnaa", sum := "98b761a27a68ca9fc34f155b39d2029f270cdb75d41c0c0babcfe10a8cd942d9", func := "ulp/ulplaw07.EftSteps", spec := "eftSteps", apart := false }
def EftStepsSaid : Prop := eftStepsRow.holds Try.pinned (OpenSpec.ofChange eftStepsSpec)

/-- ITS FALSE NEIGHBOUR: 'it returns false'. Refute it at one input. -/
def eftStepsWrong : ChangeSpec := { name := "eftSteps", fn := fun _ => fun
  | [d1, d2] => { results := [.lit (.bool false)], args := [d1, d2] }
  | _ => none }
def EftStepsWrongFalsely : Prop := eftStepsRow.holds Try.pinned (OpenSpec.ofChange eftStepsWrong)

/-- 'ulplaw07.EftLists': WHATEVER THE INPUT: true; the input reads as it did. -/
def eftListsSpec : ChangeSpec := { name := "eftLists", fn := fun _ => fun
  | [d1, d2] => { results := [.lit (.bool true)], args := [d1, d2] }
  | _ => none }
def eftListsRow : OpenClaim := { program := "ytckpfohfbfmmnaa", sum := "98b761a27a68ca9fc34f155b39d2029f270cdb75d41c0c0babcfe10a8cd942d9", func := "ulp/ulplaw07.EftLists", spec := "eftLists", apart := false }
def EftListsSaid : Prop := eftListsRow.holds Try.pinned (OpenSpec.ofChange eftListsSpec)

/-- ITS FALSE NEIGHBOUR: 'it returns false'. Refute it at one input. -/
def eftListsWrong : ChangeSpec := { name := "eftLists", fn := fun _ => fun
  | [d1, d2] => { results := [.lit (.bool false)], args := [d1, d2] }
  | _ => none }
def EftListsWrongFalsely : Prop := eftListsRow.holds Try.pinned (OpenSpec.ofChange eftListsWrong)

/-- 'ulplaw07.EftOwn': WHATEVER THE INPUT: true; the input reads as it did. -/
def eftOwnSpec : ChangeSpec := { name := "eftOwn", fn := fun _ => fun
  | [d1, d2] => { results := [.lit (.bool true)], args := [d1, d2] }
  | _ => none }
def eftOwnRow : OpenClaim := { program := "ytckpfohfbfmmnaa", sum := "98b761a27a68ca9fc34f155b39d2029f270cdb75d41c0c0babcfe10a8cd942d9", func := "ulp/ulplaw07.EftOwn", spec := "eftOwn", inPlace := ["math.Float64bits"], apart := false }
def EftOwnSaid : Prop := eftOwnRow.holds Try.pinned (OpenSpec.ofChange eftOwnSpec)

/-- ITS FALSE NEIGHBOUR: 'it returns false'. Refute it at one input. -/
def eftOwnWrong : ChangeSpec := { name := "eftOwn", fn := fun _ => fun
  | [d1, d2] => { results := [.lit (.bool false)], args := [d1, d2] }
  | _ => none }
def EftOwnWrongFalsely : Prop := eftOwnRow.holds Try.pinned (OpenSpec.ofChange eftOwnWrong)

/-- 'ulplaw08.DdTwos': WHATEVER THE INPUT: true; the input reads as it did. -/
def ddTwosSpec : ChangeSpec := { name := "ddTwos", fn := fun _ => fun
  | [d1, d2] => { results := [.lit (.bool true)], args := [d1, d2] }
  | _ => none }
def ddTwosRow : OpenClaim := { program := "ytckpfohfbfmmnaa", sum := "98b761a27a68ca9fc34f155b39d2029f270cdb75d41c0c0babcfe10a8cd942d9", func := "ulp/ulplaw08.DdTwos", spec := "ddTwos", inPlace := ["math.Float64bits", "math.Float64frombits"], unfollowed := true, recurses := true, apart := false }
def DdTwosSaid : Prop := ddTwosRow.holds Try.pinned (OpenSpec.ofChange ddTwosSpec)

/-- ITS FALSE NEIGHBOUR: 'it returns false'. Refute it at one input. -/
def ddTwosWrong : ChangeSpec := { name := "ddTwos", fn := fun _ => fun
  | [d1, d2] => { results := [.lit (.bool false)], args := [d1, d2] }
  | _ => none }
def DdTwosWrongFalsely : Prop := ddTwosRow.holds Try.pinned (OpenSpec.ofChange ddTwosWrong)

/-- 'ulplaw08.DdTurns': WHATEVER THE INPUT: true; the input reads as it did. -/
def ddTurnsSpec : ChangeSpec := { name := "ddTurns", fn := fun _ => fun
  | [d1, d2] => { results := [.lit (.bool true)], args := [d1, d2] }
  | _ => none }
def ddTurnsRow : OpenClaim := { program := "ytckpfohfbfmmnaa", sum := "98b761a27a68ca9fc34f155b39d2029f270cdb75d41c0c0babcfe10a8cd942d9", func := "ulp/ulplaw08.DdTurns", spec := "ddTurns", inPlace := ["math.Float64bits", "math.Float64frombits"], unfollowed := true, recurses := true, apart := false }
def DdTurnsSaid : Prop := ddTurnsRow.holds Try.pinned (OpenSpec.ofChange ddTurnsSpec)

/-- ITS FALSE NEIGHBOUR: 'it returns false'. Refute it at one input. -/
def ddTurnsWrong : ChangeSpec := { name := "ddTurns", fn := fun _ => fun
  | [d1, d2] => { results := [.lit (.bool false)], args := [d1, d2] }
  | _ => none }
def DdTurnsWrongFalsely : Prop := ddTurnsRow.holds Try.pinned (OpenSpec.ofChange ddTurnsWrong)

/-- 'ulplaw08.DdMany': WHATEVER THE INPUT: true; the input reads as it did. -/
def ddManySpec : ChangeSpec := { name := "ddMany", fn := fun _ => fun
  | [d1, d2] => { results := [.lit (.bool true)], args := [d1, d2] }
  | _ => none }
def ddManyRow : OpenClaim := { program := "ytckpfohfbfmmnaa", sum := "98b761a27a68ca9fc34f155b39d2029f270cdb75d41c0c0babcfe10a8cd942d9", func := "ulp/ulplaw08.DdMany", spec := "ddMany", inPlace := ["math.Float64bits", "math.Float64frombits"], unfollowed := true, recurses := true, apart := false }
def DdManySaid : Prop := ddManyRow.holds Try.pinned (OpenSpec.ofChange ddManySpec)

/-- ITS FALSE NEIGHBOUR: 'it returns false'. Refute it at one input. -/
def ddManyWrong : ChangeSpec := { name := "ddMany", fn := fun _ => fun
  | [d1, d2] => { results := [.lit (.bool false)], args := [d1, d2] }
  | _ => none }
def DdManyWrongFalsely : Prop := ddManyRow.holds Try.pinned (OpenSpec.ofChange ddManyWrong)

/- THE SECOND FORM. 'bulk': how many values and letters a reading holds, each counted each time it is reached (what is shared counts as often as it is met; a slice's spare places count too). A statement '..UptoSaid' is the law's where the arguments, and the package variables that the reading takes, are together of bulk at most 1048576: NARROWER than '..Said'. Prove '..Said' where nothing that the law and all that it calls make is longer than what came in: it says more and counts as full. Else prove '..UptoSaid'. A law counts once. -/
mutual
def uptoBulk {H : Type} : DataW H → Nat
  | .lit (.string bytes) => bytes.length + 1
  | .lit _ => 1
  | .nil => 1
  | .ptr d => uptoBulk d + 1
  | .slice elems spare => uptoBulkAll elems + uptoBulkAll spare + 1
  | .agg parts => uptoBulkAll parts + 1
  | .iface _ d => uptoBulk d + 1
  | .map entries => uptoBulkEntries entries + 1
  | .held _ => 1
def uptoBulkAll {H : Type} : List (DataW H) → Nat
  | [] => 0
  | d :: r => uptoBulk d + uptoBulkAll r
def uptoBulkEntries {H : Type} : List (Lit × DataW H) → Nat
  | [] => 0
  | x :: r => uptoBulkEntry x + uptoBulkEntries r
def uptoBulkEntry {H : Type} : Lit × DataW H → Nat
  | (.string bytes, d) => bytes.length + uptoBulk d + 1
  | (_, d) => uptoBulk d + 1
 end
def uptoSmall : (H : Type) → List (DataW H) → Bool := fun _ ds => decide (uptoBulkAll ds ≤ 1048576)
def OpenSpec.upto (s : _root_.Go.ChangeSpec) : _root_.Go.OpenSpec := { _root_.Go.OpenSpec.ofChange s with cond := some uptoSmall }

/-- 'ulplaw07.EftSteps', WHERE WHAT IT READS IS OF BULK AT MOST 1048576: true; the input reads as it did. -/
def eftStepsUptoRow : OpenClaim := { program := "ytckpfohfbfmmnaa", sum := "98b761a27a68ca9fc34f155b39d2029f270cdb75d41c0c0babcfe10a8cd942d9", func := "ulp/ulplaw07.EftSteps", spec := "eftSteps", apart := false, narrowed := true }
def EftStepsUptoSaid : Prop := eftStepsUptoRow.holds Try.pinned (OpenSpec.upto eftStepsSpec)

/-- 'ulplaw07.EftLists', WHERE WHAT IT READS IS OF BULK AT MOST 1048576: true; the input reads as it did. -/
def eftListsUptoRow : OpenClaim := { program := "ytckpfohfbfmmnaa", sum := "98b761a27a68ca9fc34f155b39d2029f270cdb75d41c0c0babcfe10a8cd942d9", func := "ulp/ulplaw07.EftLists", spec := "eftLists", apart := false, narrowed := true }
def EftListsUptoSaid : Prop := eftListsUptoRow.holds Try.pinned (OpenSpec.upto eftListsSpec)

/-- 'ulplaw07.EftOwn', WHERE WHAT IT READS IS OF BULK AT MOST 1048576: true; the input reads as it did. -/
def eftOwnUptoRow : OpenClaim := { program := "ytckpfohfbfmmnaa", sum := "98b761a27a68ca9fc34f155b39d2029f270cdb75d41c0c0babcfe10a8cd942d9", func := "ulp/ulplaw07.EftOwn", spec := "eftOwn", inPlace := ["math.Float64bits"], apart := false, narrowed := true }
def EftOwnUptoSaid : Prop := eftOwnUptoRow.holds Try.pinned (OpenSpec.upto eftOwnSpec)

/-- 'ulplaw08.DdTwos', WHERE WHAT IT READS IS OF BULK AT MOST 1048576: true; the input reads as it did. -/
def ddTwosUptoRow : OpenClaim := { program := "ytckpfohfbfmmnaa", sum := "98b761a27a68ca9fc34f155b39d2029f270cdb75d41c0c0babcfe10a8cd942d9", func := "ulp/ulplaw08.DdTwos", spec := "ddTwos", inPlace := ["math.Float64bits", "math.Float64frombits"], unfollowed := true, recurses := true, apart := false, narrowed := true }
def DdTwosUptoSaid : Prop := ddTwosUptoRow.holds Try.pinned (OpenSpec.upto ddTwosSpec)

/-- 'ulplaw08.DdTurns', WHERE WHAT IT READS IS OF BULK AT MOST 1048576: true; the input reads as it did. -/
def ddTurnsUptoRow : OpenClaim := { program := "ytckpfohfbfmmnaa", sum := "98b761a27a68ca9fc34f155b39d2029f270cdb75d41c0c0babcfe10a8cd942d9", func := "ulp/ulplaw08.DdTurns", spec := "ddTurns", inPlace := ["math.Float64bits", "math.Float64frombits"], unfollowed := true, recurses := true, apart := false, narrowed := true }
def DdTurnsUptoSaid : Prop := ddTurnsUptoRow.holds Try.pinned (OpenSpec.upto ddTurnsSpec)

/-- 'ulplaw08.DdMany', WHERE WHAT IT READS IS OF BULK AT MOST 1048576: true; the input reads as it did. -/
def ddManyUptoRow : OpenClaim := { program := "ytckpfohfbfmmnaa", sum := "98b761a27a68ca9fc34f155b39d2029f270cdb75d41c0c0babcfe10a8cd942d9", func := "ulp/ulplaw08.DdMany", spec := "ddMany", inPlace := ["math.Float64bits", "math.Float64frombits"], unfollowed := true, recurses := true, apart := false, narrowed := true }
def DdManyUptoSaid : Prop := ddManyUptoRow.holds Try.pinned (OpenSpec.upto ddManySpec)

end Rows
end Go.Proofs.Ytckpfohfbfmmnaa

/-
  DERIVED. GIVEN WITH THE SEED: THE CARDS: each row of YtognliaoonkmiaaGreatDoorRows.lean that lists a variable, with what it lists TIED to the program's text (the seventh form; the later family's looks); each row that meets fmt, with fmt's text TOLD by the authors' own Lean function (tested against real Go, not proved from fmt's source: count such statements apart). THE CARD IS WHAT COUNTS. Prove the row's statement (the work); the ties are given (YtognliaoonkmiaaGreatDoorTie.lean); close each card by the builder's one call (the guide's Derived/Test/ToyasCard.lean, 'card_holds'). Laid BY PROGRAM, IN A SANDBOX (cutbox-door.mjs). By AI agents, Wed Nov 11 2026. No macro, syntax, notation, axiom, sorry.
-/
import Derived.Test.YtognliaoonkmiaaGreatDoorRows
import GoSem.ClaimSeven
namespace Go.Proofs.YtognliaoonkmiaaGreatDoor
namespace Rows

/-- THE TIED CARD OF 'ulplaw05.RoundDecides'. -/
def roundDecidesCard : Claim7 := { stood := { row := roundDecidesRow, standIns := [], harness := (true, "dab60345d5b5086e4b4fedc22ff0f9061dc442f3e4f75d6bea9541969874cf06"), looks := false }, kinds := [], alts := [], laidByText := true, laidKinds := [.data], laidTests := true, laidLooks := .later }
def RoundDecidesCardSaid : Prop := Claim7.holds Tryz.pinned (.plain (OpenSpec.ofChange roundDecidesSpec)) roundDecidesCard

/-- THE TIED CARD OF 'ulplaw05.RoundOwn'. -/
def roundOwnCard : Claim7 := { stood := { row := roundOwnRow, standIns := [], harness := (true, "dab60345d5b5086e4b4fedc22ff0f9061dc442f3e4f75d6bea9541969874cf06"), looks := false }, kinds := [], alts := [], laidByText := true, laidKinds := [.data], laidTests := true, laidLooks := .later }
def RoundOwnCardSaid : Prop := Claim7.holds Tryz.pinned (.plain (OpenSpec.ofChange roundOwnSpec)) roundOwnCard

/-- THE SECOND FORM's CARD OF 'ulplaw05.RoundDecides'. -/
def roundDecidesUptoCard : Claim7 := { stood := { row := roundDecidesUptoRow, standIns := [], harness := (true, "dab60345d5b5086e4b4fedc22ff0f9061dc442f3e4f75d6bea9541969874cf06"), looks := false }, kinds := [], alts := [], laidByText := true, laidKinds := [.data], laidTests := true, laidLooks := .later }
def RoundDecidesUptoCardSaid : Prop := Claim7.holds Tryz.pinned (.plain (OpenSpec.upto roundDecidesSpec)) roundDecidesUptoCard

/-- THE SECOND FORM's CARD OF 'ulplaw05.RoundOwn'. -/
def roundOwnUptoCard : Claim7 := { stood := { row := roundOwnUptoRow, standIns := [], harness := (true, "dab60345d5b5086e4b4fedc22ff0f9061dc442f3e4f75d6bea9541969874cf06"), looks := false }, kinds := [], alts := [], laidByText := true, laidKinds := [.data], laidTests := true, laidLooks := .later }
def RoundOwnUptoCardSaid : Prop := Claim7.holds Tryz.pinned (.plain (OpenSpec.upto roundOwnSpec)) roundOwnUptoCard
end Rows
end Go.Proofs.YtognliaoonkmiaaGreatDoor

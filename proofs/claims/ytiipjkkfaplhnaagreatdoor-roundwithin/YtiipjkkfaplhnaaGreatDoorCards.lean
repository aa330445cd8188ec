/-
  DERIVED. GIVEN WITH THE SEED: THE CARDS: each row of YtiipjkkfaplhnaaGreatDoorRows.lean that lists a variable, with what it lists TIED to the program's text (the seventh form; the later family's looks); each row that meets fmt, with fmt's text TOLD by the authors' own Lean function (tested against real Go, not proved from fmt's source: count such statements apart). THE CARD IS WHAT COUNTS. Prove the row's statement (the work); the ties are given (YtiipjkkfaplhnaaGreatDoorTie.lean); close each card by the builder's one call (the guide's Derived/Test/ToyasCard.lean, 'card_holds'). Laid BY PROGRAM, IN A SANDBOX (cutbox-door.mjs). By AI agents, Wed Nov 11 2026. No macro, syntax, notation, axiom, sorry.
-/
import Derived.Test.YtiipjkkfaplhnaaGreatDoorRows
import GoSem.ClaimSeven
namespace Go.Proofs.YtiipjkkfaplhnaaGreatDoor
namespace Rows

/-- THE TIED CARD OF 'ulplaw05.RoundDecides'. -/
def roundDecidesCard : Claim7 := { stood := { row := roundDecidesRow, standIns := [], harness := (true, "2fc5e0c4c427f5bd0f3269c62d77b9a045a10ba9c6d100b4ce61b68bedcbd8b2"), looks := false }, kinds := [], alts := [], laidByText := true, laidKinds := [.data], laidTests := true, laidLooks := .later }
def RoundDecidesCardSaid : Prop := Claim7.holds Tryz.pinned (.plain (OpenSpec.ofChange roundDecidesSpec)) roundDecidesCard

/-- THE TIED CARD OF 'ulplaw05.RoundWithin'. -/
def roundWithinCard : Claim7 := { stood := { row := roundWithinRow, standIns := [], harness := (true, "2fc5e0c4c427f5bd0f3269c62d77b9a045a10ba9c6d100b4ce61b68bedcbd8b2"), looks := false }, kinds := [], alts := [], laidByText := true, laidKinds := [.data], laidTests := true, laidLooks := .later }
def RoundWithinCardSaid : Prop := Claim7.holds Tryz.pinned (.plain (OpenSpec.ofChange roundWithinSpec)) roundWithinCard

/-- THE SECOND FORM's CARD OF 'ulplaw05.RoundDecides'. -/
def roundDecidesUptoCard : Claim7 := { stood := { row := roundDecidesUptoRow, standIns := [], harness := (true, "2fc5e0c4c427f5bd0f3269c62d77b9a045a10ba9c6d100b4ce61b68bedcbd8b2"), looks := false }, kinds := [], alts := [], laidByText := true, laidKinds := [.data], laidTests := true, laidLooks := .later }
def RoundDecidesUptoCardSaid : Prop := Claim7.holds Tryz.pinned (.plain (OpenSpec.upto roundDecidesSpec)) roundDecidesUptoCard

/-- THE SECOND FORM's CARD OF 'ulplaw05.RoundWithin'. -/
def roundWithinUptoCard : Claim7 := { stood := { row := roundWithinUptoRow, standIns := [], harness := (true, "2fc5e0c4c427f5bd0f3269c62d77b9a045a10ba9c6d100b4ce61b68bedcbd8b2"), looks := false }, kinds := [], alts := [], laidByText := true, laidKinds := [.data], laidTests := true, laidLooks := .later }
def RoundWithinUptoCardSaid : Prop := Claim7.holds Tryz.pinned (.plain (OpenSpec.upto roundWithinSpec)) roundWithinUptoCard
end Rows
end Go.Proofs.YtiipjkkfaplhnaaGreatDoor

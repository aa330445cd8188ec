/-
  DERIVED. GIVEN WITH THE SEED: THE CARDS: each row of YtionhpedghmecaaGreatDoorRows.lean that lists a variable, with what it lists TIED to the program's text (the seventh form; the later family's looks); each row that meets fmt, with fmt's text TOLD by the authors' own Lean function (tested against real Go, not proved from fmt's source: count such statements apart). THE CARD IS WHAT COUNTS. Prove the row's statement (the work); the ties are given (YtionhpedghmecaaGreatDoorTie.lean); close each card by the builder's one call (the guide's Derived/Test/ToyasCard.lean, 'card_holds'). Laid BY PROGRAM, IN A SANDBOX (cutbox-door.mjs). By AI agents, Wed Nov 11 2026. No macro, syntax, notation, axiom, sorry.
-/
import Derived.Test.YtionhpedghmecaaGreatDoorRows
import GoSem.ClaimSeven
namespace Go.Proofs.YtionhpedghmecaaGreatDoor
namespace Rows

/-- THE TIED CARD OF 'ulplaw21.AlgBetween'. -/
def algBetweenCard : Claim7 := { stood := { row := algBetweenRow, standIns := [], harness := (true, "87f65e0277cab32cc9b924957426faff7d5ff61fe1df89b8c1e4b66058fbd67f"), looks := false }, kinds := [], alts := [], laidByText := true, laidKinds := [.data], laidTests := true, laidLooks := .later }
def AlgBetweenCardSaid : Prop := Claim7.holds Tryz.pinned (.plain (OpenSpec.ofChange algBetweenSpec)) algBetweenCard

/-- THE SECOND FORM's CARD OF 'ulplaw21.AlgBetween'. -/
def algBetweenUptoCard : Claim7 := { stood := { row := algBetweenUptoRow, standIns := [], harness := (true, "87f65e0277cab32cc9b924957426faff7d5ff61fe1df89b8c1e4b66058fbd67f"), looks := false }, kinds := [], alts := [], laidByText := true, laidKinds := [.data], laidTests := true, laidLooks := .later }
def AlgBetweenUptoCardSaid : Prop := Claim7.holds Tryz.pinned (.plain (OpenSpec.upto algBetweenSpec)) algBetweenUptoCard
end Rows
end Go.Proofs.YtionhpedghmecaaGreatDoor

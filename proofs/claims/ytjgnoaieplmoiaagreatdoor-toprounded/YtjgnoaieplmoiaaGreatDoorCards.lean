/-
  DERIVED. GIVEN WITH THE SEED: THE CARDS: each row of YtjgnoaieplmoiaaGreatDoorRows.lean that lists a variable, with what it lists TIED to the program's text (the seventh form; the later family's looks); each row that meets fmt, with fmt's text TOLD by the authors' own Lean function (tested against real Go, not proved from fmt's source: count such statements apart). THE CARD IS WHAT COUNTS. Prove the row's statement (the work); the ties are given (YtjgnoaieplmoiaaGreatDoorTie.lean); close each card by the builder's one call (the guide's Derived/Test/ToyasCard.lean, 'card_holds'). Laid BY PROGRAM, IN A SANDBOX (cutbox-door.mjs). By AI agents, Wed Nov 11 2026. No macro, syntax, notation, axiom, sorry.
-/
import Derived.Test.YtjgnoaieplmoiaaGreatDoorRows
import GoSem.ClaimSeven
namespace Go.Proofs.YtjgnoaieplmoiaaGreatDoor
namespace Rows

/-- THE TIED CARD OF 'ulptop.TopRounded'. -/
def topRoundedCard : Claim7 := { stood := { row := topRoundedRow, standIns := [], harness := (true, "18f73fa419afb68e456fcc092c9860a21ea5c396d3b7b504cc151eca1051789a"), looks := false }, kinds := [], alts := [], laidByText := true, laidKinds := [.data, .data], laidTests := true, laidLooks := .later }
def TopRoundedCardSaid : Prop := Claim7.holds Tryz.pinned (.plain (OpenSpec.ofChange topRoundedSpec)) topRoundedCard

/-- THE SECOND FORM's CARD OF 'ulptop.TopRounded'. -/
def topRoundedUptoCard : Claim7 := { stood := { row := topRoundedUptoRow, standIns := [], harness := (true, "18f73fa419afb68e456fcc092c9860a21ea5c396d3b7b504cc151eca1051789a"), looks := false }, kinds := [], alts := [], laidByText := true, laidKinds := [.data, .data], laidTests := true, laidLooks := .later }
def TopRoundedUptoCardSaid : Prop := Claim7.holds Tryz.pinned (.plain (OpenSpec.upto topRoundedSpec)) topRoundedUptoCard
end Rows
end Go.Proofs.YtjgnoaieplmoiaaGreatDoor

/-
  DERIVED. GIVEN WITH THE SEED: THE CARDS: each row of YtmibejihmdkgaaaDoorRows.lean that lists a variable, with what it lists TIED to the program's text (the seventh form; the later family's looks); each row that meets fmt, with fmt's text TOLD by the authors' own Lean function (tested against real Go, not proved from fmt's source: count such statements apart). THE CARD IS WHAT COUNTS. Prove the row's statement (the work); the ties are given (YtmibejihmdkgaaaDoorTie.lean); close each card by the builder's one call (the guide's Derived/Test/ToyasCard.lean, 'card_holds'). Laid BY PROGRAM, IN A SANDBOX (cutbox-door.mjs). By AI agents, Wed Nov 11 2026. No macro, syntax, notation, axiom, sorry.
-/
import Derived.Test.YtmibejihmdkgaaaDoorRows
import GoSem.ClaimSeven
namespace Go.Proofs.YtmibejihmdkgaaaDoor
namespace Rows

/-- THE TIED CARD OF 'ulptop.TopDyads'. -/
def topDyadsCard : Claim7 := { stood := { row := topDyadsRow, standIns := [], harness := (true, "be70a1b1a4500eb8897e55ce6849e2cc4c23d0b61717ae7602dbe4c13dccac65"), looks := false }, kinds := [], alts := [], laidByText := true, laidKinds := [.data, .data], laidTests := true, laidLooks := .later }
def TopDyadsCardSaid : Prop := Claim7.holds Tryd.pinned (.plain (OpenSpec.ofChange topDyadsSpec)) topDyadsCard

/-- THE SECOND FORM's CARD OF 'ulptop.TopDyads'. -/
def topDyadsUptoCard : Claim7 := { stood := { row := topDyadsUptoRow, standIns := [], harness := (true, "be70a1b1a4500eb8897e55ce6849e2cc4c23d0b61717ae7602dbe4c13dccac65"), looks := false }, kinds := [], alts := [], laidByText := true, laidKinds := [.data, .data], laidTests := true, laidLooks := .later }
def TopDyadsUptoCardSaid : Prop := Claim7.holds Tryd.pinned (.plain (OpenSpec.upto topDyadsSpec)) topDyadsUptoCard
end Rows
end Go.Proofs.YtmibejihmdkgaaaDoor
